/-
  DiskSays, the leaf where there is no such place and the disk lives.
-/
import Derived.Test.YtengpogcdnbabaaDsays
namespace Go.Proofs.Ytengpogcdnbabaa
open Go.RowKit

set_option maxHeartbeats 8000000 in
set_option maxRecDepth 100000 in
theorem dsays_c2 (sa pa : Option Addr) (n sc m pc : Nat) (left at_ : Int) (x : B8) (ls : List B8) (ps : List Pt) (w : World) (hs : BL w sa n ls) (hp : PL w pa m ps) (hl1 : -9223372036854775808 ≤ left) (hl2 : left ≤ 9223372036854775807)
    (hmay : Mx.dmay n ps = 0) (hin : ¬ (0 ≤ at_ ∧ at_ < n)) (hleft : ¬ left = 0) :
    Calls Try.prog 6 #[.agg #[.slice sa n sc, .slice pa m pc, .int .i64 left], .int .i64 at_, .agg #[.int .u8 x.z0, .int .u8 x.z1, .int .u8 x.z2, .int .u8 x.z3, .int .u8 x.z4, .int .u8 x.z5, .int .u8 x.z6, .int .u8 x.z7]] w fun e w' =>
      e = .returned (.bool true) ∧ Below w.heap.size w w' := by
  obtain ⟨hn0, hn1, hm0, HIN⟩ : 1 ≤ n ∧ n ≤ 200 ∧ m ≤ 800 ∧ Hid (∀ p ∈ ps, 0 ≤ p.at_ ∧ p.at_ < n) := by
    obtain ⟨h1, h2, h3, h4⟩ := Mx.dmay_facts hmay
    exact ⟨h1, h2, by rw [← hp.1]; exact h3, h4⟩
  have hd : Mx.dplace n ps at_ = 1 := by unfold Mx.dplace; rw [if_pos hmay, if_neg hin]
  have HM := hide hmay
  have HPL := hide hp.1
  have HSL := hide hs.1
  have HR := hide (show Mx.dread n ps left at_ = 1 by unfold Mx.dread; rw [if_neg (by rw [hd]; decide), hd])
  have HWR := hide (show Mx.dwrite n ps left at_ = 1 by unfold Mx.dwrite; rw [if_neg (by rw [hd]; decide), hd])
  have HFL := hide (show Mx.dflush n ps left = 0 by unfold Mx.dflush; rw [if_pos hmay, if_neg hleft])
  have HR0 := hide (show ¬ (1 : Int) = 0 by decide)
  have HNI := hide hin
  have HS := hide hs
  have HP := hide hp
  have HNN := hide (show n ≤ maxLen from hs.2.2.1)
  have HL := hide (And.intro hl1 hl2)
  clear hs hp hl1 hl2 hmay hd hin
  have h300 : ¬ (300 : Int) < n := by omega
  have h900 : ¬ (900 : Int) < m := by omega
  have hle : (left == 0) = false := by simpa using hleft
  by_cases hat0 : 0 ≤ at_
  all_goals
    first | (have hat1 : ¬ at_ < n := fun h => HNI.out ⟨hat0, h⟩; have hd1 : decide (at_ < (n : Int)) = false := decide_eq_false hat1) | skip
    go_enter Try.func6, Try.ntmps6
    go_wp2_with fail
    obtain ⟨w0, hw0⟩ : ∃ w0 : World, Hid (w0 = (w.alloc (.cells #[.slice sa n sc, .slice pa m pc, .int .i64 left] 50)).alloc (.cells #[.int .u8 x.z0, .int .u8 x.z1, .int .u8 x.z2, .int .u8 x.z3, .int .u8 x.z4, .int .u8 x.z5, .int .u8 x.z6, .int .u8 x.z7] 52)) := ⟨_, rfl⟩
    rw [← hw0.out]
    have B0 := hide (show Below w.heap.size w w0 by rw [hw0.out]; exact (below_alloc _ _).alloc (by simp) _)
    have X0 := hide (show Bx w0 w.heap.size #[.slice sa n sc, .slice pa m pc, .int .i64 left] 50 by rw [hw0.out]; exact (Bx.new w _ 50).alloc _)
    have Y0 := hide (show Bx w0 (w.heap.size + 1) #[.int .u8 x.z0, .int .u8 x.z1, .int .u8 x.z2, .int .u8 x.z3, .int .u8 x.z4, .int .u8 x.z5, .int .u8 x.z6, .int .u8 x.z7] 52 by
      rw [hw0.out]
      have h := Bx.new (w.alloc (.cells #[.slice sa n sc, .slice pa m pc, .int .i64 left] 50)) #[.int .u8 x.z0, .int .u8 x.z1, .int .u8 x.z2, .int .u8 x.z3, .int .u8 x.z4, .int .u8 x.z5, .int .u8 x.z6, .int .u8 x.z7] 52
      rw [World.size_alloc] at h
      exact h)
    refine (diskMay_any sa pa n sc m pc left ps w0 (HP.out.later B0.out) HNN.out).mono ?_
    rintro e w1 ⟨rfl, hb1⟩
    rw [HM.out]
    have B1 := hide (B0.out.trans (hb1.mono B0.out.size))
    have X1 := hide (X0.out.later hb1 X0.out.lt)
    have Y1 := hide (Y0.out.later hb1 Y0.out.lt)
    clear hb1
    obtain ⟨f0, f1, f2⟩ := X1.out.three
    go_wp2_with fail
    refine (dcheck_any sa pa n sc m pc left ps w1 (HP.out.later B1.out) HNN.out).mono ?_
    rintro e w2 ⟨rfl, hb2⟩
    rw [HM.out]
    have B2 := hide (B1.out.trans (hb2.mono B1.out.size))
    have X2 := hide (X1.out.later hb2 X1.out.lt)
    have Y2 := hide (Y1.out.later hb2 Y1.out.lt)
    clear hb2 f0 f1 f2
    obtain ⟨f0, f1, f2⟩ := X2.out.three
    go_wp2_with fail
    refine (is_any (0) (0) w2).mono ?_
    rintro e w3 ⟨rfl, rfl⟩
    rw [beq_self_eq_true]
    go_wp2_with fail
    refine (read_err sa pa n sc m pc left at_ ps w3 HNN.out (HP.out.later B2.out) (by rw [HR.out]; exact HR0.out)).mono ?_
    rintro e w4 ⟨rfl, hb4⟩
    rw [HR.out]
    have B4 := hide (B2.out.trans (hb4.mono B2.out.size))
    have X4 := hide (X2.out.later hb4 X2.out.lt)
    have Y4 := hide (Y2.out.later hb4 Y2.out.lt)
    clear hb4 f0 f1 f2
    obtain ⟨f0, f1, f2⟩ := X4.out.three
    have hX4 := X4.out.lt
    go_wp2_with fail
    refine (is_any (1) (1) _).mono ?_
    rintro e w5 ⟨rfl, rfl⟩
    rw [beq_self_eq_true]
    have heq := equal_block 0 0 0 0 0 0 0 0 0 0 0 0 0 0 0 0
    rw [decide_eq_true rfl] at heq
    obtain ⟨w5, hw5⟩ : ∃ w5 : World, Hid (w5 = (w4.alloc (.cells #[.int .u8 0, .int .u8 0, .int .u8 0, .int .u8 0, .int .u8 0, .int .u8 0, .int .u8 0, .int .u8 0] 52)).alloc (.cells #[.int .u8 0, .int .u8 0, .int .u8 0, .int .u8 0, .int .u8 0, .int .u8 0, .int .u8 0, .int .u8 0] 52)) := ⟨_, rfl⟩
    have B5 := hide (show Below w.heap.size w w5 by rw [hw5.out]; exact (B4.out.alloc B4.out.size _).alloc (by have := B4.out.size; simp; omega) _)
    have X5 := hide (show Bx w5 w.heap.size _ 50 by rw [hw5.out]; exact (X4.out.alloc _).alloc _)
    have Y5 := hide (show Bx w5 (w.heap.size + 1) _ 52 by rw [hw5.out]; exact (Y4.out.alloc _).alloc _)
    go_upto_region 31 with fail
    rw [← hw5.out]
    clear f0 f1 f2 hX4
    obtain ⟨f0, f1, f2⟩ := X5.out.three
    obtain ⟨x0, x1, x2, x3, x4, x5, x6, x7⟩ := Y5.out.eight
    have hX5 := X5.out.lt
    have hY5 := Y5.out.lt
    obtain ⟨w6, hw6⟩ : ∃ w6 : World, Hid (w6 = (w5.alloc (.cells #[.slice none 0 0, .slice none 0 0, .int .i64 0] 50)).alloc (.cells #[.slice none 0 0, .slice none 0 0, .int .i64 0] 50)) := ⟨_, rfl⟩
    have B56 := hide (show Below w5.heap.size w5 w6 by rw [hw6.out]; exact (below_alloc _ _).alloc (by simp) _)
    have B6 := hide (B5.out.trans (B56.out.mono B5.out.size))
    have X6 := hide (X5.out.later B56.out X5.out.lt)
    have Y6 := hide (Y5.out.later B56.out Y5.out.lt)
    have O6 := hide (show Bx w6 w5.heap.size #[.slice none 0 0, .slice none 0 0, .int .i64 0] 50 by rw [hw6.out]; exact (Bx.new w5 _ 50).alloc _)
    have T6 := hide (show Bx w6 (w5.heap.size + 1) #[.slice none 0 0, .slice none 0 0, .int .i64 0] 50 by
      rw [hw6.out]
      have h := Bx.new (w5.alloc (.cells #[.slice none 0 0, .slice none 0 0, .int .i64 0] 50)) #[.slice none 0 0, .slice none 0 0, .int .i64 0] 50
      rw [World.size_alloc] at h
      exact h)
    go_wp2_with fail
    rw [← hw6.out]
    clear f0 f1 f2 x0 x1 x2 x3 x4 x5 x6 x7 hX5 hY5
    refine (ownDisk_any sa pa n sc m pc left ls ps w6 (HS.out.later B6.out) (HP.out.later B6.out) (by omega) (by omega)).mono ?_
    rintro e w11 ⟨a3, k3, a4, k4, rfl, hO3, hO4, hb11⟩
    have B11 := hide (B6.out.trans (hb11.out.mono B6.out.size))
    have X11 := hide (X6.out.later hb11.out X6.out.lt)
    have Y11 := hide (Y6.out.later hb11.out Y6.out.lt)
    have T11 := hide (T6.out.later hb11.out T6.out.lt)
    have O11 := hide (O6.out.later hb11.out O6.out.lt)
    have L5 := hide B5.out.size
    have hne1 : ¬ w5.heap.size = w.heap.size := by have := B5.out.size; have := X5.out.lt; omega
    have hne3 : ¬ w.heap.size = w5.heap.size := fun e => hne1 e.symm
    have hne5 : ¬ w5.heap.size + 1 = w.heap.size := by have := L5.out; omega
    have hne6 : ¬ w.heap.size = w5.heap.size + 1 := fun e => hne5 e.symm
    have hne7 : ¬ w5.heap.size = w5.heap.size + 1 := by omega
    have hne8 : ¬ w.heap.size + 1 = w5.heap.size + 1 := by omega
    obtain ⟨f0, f1, f2⟩ := X11.out.three
    obtain ⟨g0, g1, g2⟩ := T11.out.three
    have gz := T11.out.frozen
    have hT11 := T11.out.lt
    go_upto_region 38 with fail
    obtain ⟨w12, hw12⟩ : ∃ w12 : World, Hid (w12 = ((w11.setCell ⟨w5.heap.size + 1, 0, none⟩ (.slice a3 n k3)).setCell ⟨w5.heap.size + 1, 1, none⟩ (.slice a4 m k4)).setCell ⟨w5.heap.size + 1, 2, none⟩ (.int .i64 left)) := ⟨_, rfl⟩
    rw [← hw12.out]
    have L7 := hide (show w.heap.size ≤ w5.heap.size + 1 by have := L5.out; omega)
    have B12 := hide (show Below w.heap.size w w12 by rw [hw12.out]; exact ((B11.out.setCell (p := ⟨w5.heap.size + 1, 0, none⟩) L7.out _).setCell (p := ⟨w5.heap.size + 1, 1, none⟩) L7.out _).setCell (p := ⟨w5.heap.size + 1, 2, none⟩) L7.out _)
    have S12 := hide (show w12.heap.size = w11.heap.size by rw [hw12.out]; simp [World.setCell])
    have X12 := hide (show Bx w12 w.heap.size _ 50 by rw [hw12.out]; exact ((X11.out.other _ _ hne6).other _ _ hne6).other _ _ hne6)
    have Y12 := hide (show Bx w12 (w.heap.size + 1) _ 52 by rw [hw12.out]; exact ((Y11.out.other _ _ hne8).other _ _ hne8).other _ _ hne8)
    have O12 := hide (show Bx w12 w5.heap.size _ 50 by rw [hw12.out]; exact ((O11.out.other _ _ hne7).other _ _ hne7).other _ _ hne7)
    have T12 := hide (show Bx w12 (w5.heap.size + 1) #[.slice a3 n k3, .slice a4 m k4, .int .i64 left] 50 by rw [hw12.out]; exact ((T11.out.set 0 (.slice a3 n k3)).set 1 (.slice a4 m k4)).set 2 (.int .i64 left))
    have U12 := hide (show OwnBL w12 w6.heap.size (.slice a3 n k3) ls by
      rw [hw12.out]
      have q := own_ne_bx hO3.out T11.out (by decide)
      exact ownsRow_other (ownsRow_other (ownsRow_other hO3.out _ _ q) _ _ q) _ _ q)
    have L12 := hide (show w6.heap.size ≤ w12.heap.size by rw [S12.out]; exact hb11.out.size)
    have F12 := hide (show w5.heap.size + 1 < w6.heap.size from T6.out.lt)
    clear f0 f1 f2 g0 g1 g2 gz hT11 X11 Y11 T11 O11 hO3 hO4 hb11 hw12 X6 Y6 T6 O6 B11
    obtain ⟨gr, rfl, hgr1, hgr2, _, _⟩ := U12.out.form (by omega)
    obtain ⟨f0, f1, f2⟩ := X12.out.three
    go_wp2_with fail
    go_loopw [18] (fun i wr => ∃ k' : Nat, k' ≤ m ∧ i = .int .i64 k' ∧ Hid (Bx wr (w5.heap.size + 1) #[.slice (some ⟨gr, 0, none⟩) n k3, .slice a4 m k4, .int .i64 left] 50 ∧ OwnBL wr w6.heap.size (.slice (some ⟨gr, 0, none⟩) n k3) (Mx.flushed ls (ps.take k')) ∧ Below w6.heap.size w12 wr)) (fun i _ => m - (intOf i).toNat)
    case atStart => exact ⟨0, by omega, rfl, T12.out, by simpa [Mx.flushed] using U12.out, Below.refl _ _⟩
    case round =>
      clear f0 f1 f2
      obtain ⟨k', hk', rfl, hF⟩ := hrel
      have Bwr := hide (B12.out.trans (hF.out.2.2.mono (by have := B6.out.size; omega)))
      have Xwr := hide (X12.out.later hF.out.2.2 (by have := F12.out; have := L5.out; omega))
      obtain ⟨f0, f1, f2⟩ := Xwr.out.three
      by_cases hlt' : k' < m
      · obtain ⟨b', off', p0, hpa, hb', hx0, _⟩ := HP.out.at_ k' hlt'
        subst hpa
        obtain ⟨b2, off2, p, hpa2, _, hx, e0, e1, e2, e3, e4, e5, e6, e7, e8⟩ := (HP.out.later Bwr.out).at_ k' hlt'
        cases hpa2
        have hin := HIN.out p (List.mem_of_getElem? hx)
        obtain ⟨i', hi'⟩ := Int.eq_ofNat_of_zero_le hin.1
        have HXK := hide hx
        have HJ := hide hi'
        rw [hi'] at e0 hin
        clear hx hx0 hi'
        have hin' : (i' : Int) < n := hin.2
        have hin'0 : (0 : Int) ≤ (i' : Int) := hin.1
        obtain ⟨yy, _, y0, y1, y2, y3, y4, y5, y6, y7⟩ := hF.out.2.1.at_ i' (by omega)
        obtain ⟨hgl2, hgb, yz⟩ := hF.out.2.1.fz
        obtain ⟨t0, t1, t2⟩ := hF.out.1.three
        have n1 : ¬ gr = w5.heap.size + 1 := fun e => own_ne_bx hF.out.2.1 hF.out.1 (by decide) (by rw [← e]; rfl)
        have n2 : ¬ gr = w.heap.size := by have := F12.out; have := L5.out; omega
        have n3 : ¬ gr = b' := by have := F12.out; have := L5.out; omega
        have HNX := hide (hF.out.2.1.put i' (by rw [Mx.flushed_len, HSL.out]; omega) p.d)
        have HN2 := hide (show Bx (set8 wr gr (i' * 8) p.d).drew (w5.heap.size + 1) #[.slice (some ⟨gr, 0, none⟩) n k3, .slice a4 m k4, .int .i64 left] 50 ∧ OwnBL (set8 wr gr (i' * 8) p.d).drew w6.heap.size (.slice (some ⟨gr, 0, none⟩) n k3) (Mx.flushed ls (ps.take (k' + 1))) ∧ Below w6.heap.size w12 (set8 wr gr (i' * 8) p.d).drew from by
          rw [Mx.flushed_snoc ls ps k' p HXK.out, HJ.out, Int.toNat_natCast]
          exact ⟨Bx.drew (Bx.set8 hF.out.1 (fun e => n1 e.symm) (i' * 8) p.d), World.ownsRow.drew HNX.out, (set8_below hF.out.2.2 hgb (i' * 8) p.d).drew⟩)
        clear HNX
        go_wp2_with fail
        go_region_held (fun w' => w'.cell? ⟨w5.heap.size + 1, 0, none⟩ = some (.slice (some ⟨gr, 0, none⟩) n k3) ∧ w'.cell? ⟨w.heap.size, 1, none⟩ = some (.slice (some ⟨b', off', none⟩) m pc) ∧ w'.cell? ⟨b', off' + k' * 9, none⟩ = some (.int .i64 (i' : Int)) ∧ w'.cell? ⟨b', off' + k' * 9 + 1, none⟩ = some (.int .u8 p.d.z0) ∧ w'.cell? ⟨b', off' + k' * 9 + 2, none⟩ = some (.int .u8 p.d.z1) ∧ w'.cell? ⟨b', off' + k' * 9 + 3, none⟩ = some (.int .u8 p.d.z2) ∧ w'.cell? ⟨b', off' + k' * 9 + 4, none⟩ = some (.int .u8 p.d.z3) ∧ w'.cell? ⟨b', off' + k' * 9 + 5, none⟩ = some (.int .u8 p.d.z4) ∧ w'.cell? ⟨b', off' + k' * 9 + 6, none⟩ = some (.int .u8 p.d.z5) ∧ w'.cell? ⟨b', off' + k' * 9 + 7, none⟩ = some (.int .u8 p.d.z6) ∧ w'.cell? ⟨b', off' + k' * 9 + 8, none⟩ = some (.int .u8 p.d.z7))
          (simp [*, World.cell?_setCell_far]) (fail)
        go_wp2_with fail
        go_roundw
        case rel =>
          exact ⟨k' + 1, by omega, by go_num, HN2⟩
        case measure => simp [intOf]; omega
      · have hFL : Hid (OwnBL wr w6.heap.size (.slice (some ⟨gr, 0, none⟩) n k3) (Mx.flushed ls ps)) := by
          have h := hF.out.2.1
          rw [List.take_of_length_le (by rw [HPL.out]; omega)] at h
          exact h
        have Owr := hide (O12.out.later hF.out.2.2 (by have := F12.out; omega))
        have Ywr := hide (Y12.out.later hF.out.2.2 (by have := F12.out; have := L5.out; omega))
        have Twr := hide hF.out.1
        obtain ⟨t0, t1, t2⟩ := hF.out.1.three
        have tz := hF.out.1.frozen
        have tl := hF.out.1.lt
        obtain ⟨o0, o1, o2⟩ := Owr.out.three
        have oz := Owr.out.frozen
        obtain ⟨x0, x1, x2, x3, x4, x5, x6, x7⟩ := Ywr.out.eight
        clear hF
        by_cases hpos : 0 < left
        · have hpd : decide (0 < left) = true := by simpa using hpos
          have hll : left ≤ 9223372036854775807 := HL.out.2
          have HLE := hide (show Mx.less left = left - 1 by unfold Mx.less; rw [if_neg (by omega)])
          go_wp2_with fail
          obtain ⟨w13, hw13⟩ : ∃ w13 : World, Hid (w13 = (wr.setCell ⟨w5.heap.size + 1, 1, none⟩ (.slice none 0 0)).setCell ⟨w5.heap.size + 1, 2, none⟩ (.int .i64 (left - 1))) := ⟨_, rfl⟩
          rw [← hw13.out]
          have B13 := hide (show Below w.heap.size w w13 by rw [hw13.out]; exact (Bwr.out.setCell (p := ⟨w5.heap.size + 1, 1, none⟩) L7.out _).setCell (p := ⟨w5.heap.size + 1, 2, none⟩) L7.out _)
          have X13 := hide (show Bx w13 w.heap.size #[.slice sa n sc, .slice pa m pc, .int .i64 left] 50 by rw [hw13.out]; exact (Xwr.out.other _ _ hne6).other _ _ hne6)
          have O13 := hide (show Bx w13 w5.heap.size #[.slice none 0 0, .slice none 0 0, .int .i64 0] 50 by rw [hw13.out]; exact (Owr.out.other _ _ hne7).other _ _ hne7)
          have T13 := hide (show Bx w13 (w5.heap.size + 1) #[.slice (some ⟨gr, 0, none⟩) n k3, .slice none 0 0, .int .i64 (left - 1)] 50 by rw [hw13.out]; exact (Twr.out.set 1 (.slice none 0 0)).set 2 (.int .i64 (left - 1)))
          have U13 := hide (show BL w13 (some ⟨gr, 0, none⟩) n (Mx.flushed ls ps) by
            rw [hw13.out]
            have q := own_ne_bx hFL.out Twr.out (by decide)
            exact OwnBL.toBL (ownsRow_other (ownsRow_other hFL.out _ _ q) _ _ q))
          clear f0 f1 f2 t0 t1 t2 tz tl o0 o1 o2 oz x0 x1 x2 x3 x4 x5 x6 x7 hw13 Bwr Xwr Owr Twr Ywr hFL X12 Y12 O12 T12 U12
          refine (write_err sa pa n sc m pc left at_ x ps w13 HNN.out (HP.out.later B13.out) (by rw [HWR.out]; decide)).mono ?_
          rintro e w14 ⟨rfl, hb14⟩
          rw [HWR.out]
          have HB14 := hide hb14
          clear hb14
          obtain ⟨w15, hw15⟩ : ∃ w15 : World, Hid (w15 = w14.alloc (.cells #[.slice none 0 0, .slice none 0 0, .int .i64 0] 50)) := ⟨_, rfl⟩
          have B1415 := hide (show Below w14.heap.size w14 w15 by rw [hw15.out]; exact below_alloc _ _)
          have B1315 := hide (HB14.out.trans (B1415.out.mono HB14.out.size))
          have G15 := hide (show Bx w15 w14.heap.size #[.slice none 0 0, .slice none 0 0, .int .i64 0] 50 by rw [hw15.out]; exact Bx.new _ _ _)
          have X14 := hide (X13.out.later HB14.out X13.out.lt)
          obtain ⟨f0', f1', f2'⟩ := X14.out.three
          have hX14 := X14.out.lt
          go_wp2_with fail
          rw [← hw15.out]
          clear f0' f1' f2' hX14
          have B15 := hide (B13.out.trans (B1315.out.mono B13.out.size))
          refine (flush_ok sa pa n sc m pc left ls ps w15 (HS.out.later B15.out) (HP.out.later B15.out) HL.out.1 HL.out.2 HFL.out).mono ?_
          rintro e w16 ⟨a7, c7, rfl, hB16, hb16⟩
          obtain ⟨w17, hw17⟩ : ∃ w17 : World, Hid (w17 = w16.alloc (.cells #[.slice a7 n c7, .slice none 0 0, .int .i64 (Mx.less left)] 50)) := ⟨_, rfl⟩
          have B1617 := hide (show Below w16.heap.size w16 w17 by rw [hw17.out]; exact below_alloc _ _)
          have B1517 := hide (hb16.out.trans (B1617.out.mono hb16.out.size))
          have B1317 := hide (B1315.out.trans (B1517.out.mono B1315.out.size))
          have B17 := hide (B15.out.trans (B1517.out.mono B15.out.size))
          have H17 := hide (show Bx w17 w16.heap.size #[.slice a7 n c7, .slice none 0 0, .int .i64 (Mx.less left)] 50 by rw [hw17.out]; exact Bx.new _ _ _)
          have G17 := hide (G15.out.later B1517.out G15.out.lt)
          have O17 := hide (O13.out.later B1317.out O13.out.lt)
          have T17 := hide (T13.out.later B1317.out T13.out.lt)
          go_wp2_with fail
          rw [← hw17.out]
          refine (is_any (1) (1) w17).mono ?_
          rintro e w17' ⟨rfl, rfl⟩
          rw [beq_self_eq_true]
          go_wp2_with fail
          refine (is_nil _ _).mono ?_
          rintro e w17'' ⟨rfl, rfl⟩
          rw [show ((0 : Int) == 0) = true from rfl]
          obtain ⟨p0, p1, p2⟩ := G17.out.three
          obtain ⟨q0, q1, q2⟩ := O17.out.three
          go_wp2_with fail
          refine (sameDisk_any none none none none 0 0 0 0 0 0 0 0 0 0 [] [] [] [] w17'' (BL.nil _) (PL.nil _) (BL.nil _) (PL.nil _) rfl rfl rfl).mono ?_
          rintro e w18 ⟨rfl, hb18⟩
          have HB18 := hide hb18
          clear p0 p1 p2 q0 q1 q2 hb18
          obtain ⟨p0, p1, p2⟩ := (H17.out.later HB18.out H17.out.lt).three
          obtain ⟨q0, q1, q2⟩ := (T17.out.later HB18.out T17.out.lt).three
          go_wp2_with fail
          refine (sameDisk_any a7 none (some ⟨gr, 0, none⟩) none n c7 0 0 n k3 0 0 (Mx.less left) (left - 1) (Mx.flushed ls ps) (Mx.flushed ls ps) [] [] w18 (hB16.out.later (B1617.out.trans (HB18.out.mono B1617.out.size))) (PL.nil _) (U13.out.later (B1317.out.trans (HB18.out.mono B1317.out.size))) (PL.nil _) rfl rfl HLE.out).mono ?_
          rintro e w19 ⟨rfl, hb19⟩
          go_wp2
          go_ret
          exact ⟨rfl, (B17.out.trans (HB18.out.mono B17.out.size)).trans (hb19.mono (by have := B17.out.size; have := HB18.out.size; omega))⟩
        · have hpd : decide (0 < left) = false := by simpa using hpos
          have HLE := hide (show Mx.less left = left by unfold Mx.less; rw [if_pos (by omega)])
          go_wp2_with fail
          obtain ⟨w13, hw13⟩ : ∃ w13 : World, Hid (w13 = wr.setCell ⟨w5.heap.size + 1, 1, none⟩ (.slice none 0 0)) := ⟨_, rfl⟩
          rw [← hw13.out]
          have B13 := hide (show Below w.heap.size w w13 by rw [hw13.out]; exact Bwr.out.setCell (p := ⟨w5.heap.size + 1, 1, none⟩) L7.out _)
          have X13 := hide (show Bx w13 w.heap.size #[.slice sa n sc, .slice pa m pc, .int .i64 left] 50 by rw [hw13.out]; exact Xwr.out.other _ _ hne6)
          have O13 := hide (show Bx w13 w5.heap.size #[.slice none 0 0, .slice none 0 0, .int .i64 0] 50 by rw [hw13.out]; exact Owr.out.other _ _ hne7)
          have T13 := hide (show Bx w13 (w5.heap.size + 1) #[.slice (some ⟨gr, 0, none⟩) n k3, .slice none 0 0, .int .i64 (left)] 50 by rw [hw13.out]; exact Twr.out.set 1 (.slice none 0 0))
          have U13 := hide (show BL w13 (some ⟨gr, 0, none⟩) n (Mx.flushed ls ps) by
            rw [hw13.out]
            have q := own_ne_bx hFL.out Twr.out (by decide)
            exact OwnBL.toBL (ownsRow_other hFL.out _ _ q))
          clear f0 f1 f2 t0 t1 t2 tz tl o0 o1 o2 oz x0 x1 x2 x3 x4 x5 x6 x7 hw13 Bwr Xwr Owr Twr Ywr hFL X12 Y12 O12 T12 U12
          refine (write_err sa pa n sc m pc left at_ x ps w13 HNN.out (HP.out.later B13.out) (by rw [HWR.out]; decide)).mono ?_
          rintro e w14 ⟨rfl, hb14⟩
          rw [HWR.out]
          have HB14 := hide hb14
          clear hb14
          obtain ⟨w15, hw15⟩ : ∃ w15 : World, Hid (w15 = w14.alloc (.cells #[.slice none 0 0, .slice none 0 0, .int .i64 0] 50)) := ⟨_, rfl⟩
          have B1415 := hide (show Below w14.heap.size w14 w15 by rw [hw15.out]; exact below_alloc _ _)
          have B1315 := hide (HB14.out.trans (B1415.out.mono HB14.out.size))
          have G15 := hide (show Bx w15 w14.heap.size #[.slice none 0 0, .slice none 0 0, .int .i64 0] 50 by rw [hw15.out]; exact Bx.new _ _ _)
          have X14 := hide (X13.out.later HB14.out X13.out.lt)
          obtain ⟨f0', f1', f2'⟩ := X14.out.three
          have hX14 := X14.out.lt
          go_wp2_with fail
          rw [← hw15.out]
          clear f0' f1' f2' hX14
          have B15 := hide (B13.out.trans (B1315.out.mono B13.out.size))
          refine (flush_ok sa pa n sc m pc left ls ps w15 (HS.out.later B15.out) (HP.out.later B15.out) HL.out.1 HL.out.2 HFL.out).mono ?_
          rintro e w16 ⟨a7, c7, rfl, hB16, hb16⟩
          obtain ⟨w17, hw17⟩ : ∃ w17 : World, Hid (w17 = w16.alloc (.cells #[.slice a7 n c7, .slice none 0 0, .int .i64 (Mx.less left)] 50)) := ⟨_, rfl⟩
          have B1617 := hide (show Below w16.heap.size w16 w17 by rw [hw17.out]; exact below_alloc _ _)
          have B1517 := hide (hb16.out.trans (B1617.out.mono hb16.out.size))
          have B1317 := hide (B1315.out.trans (B1517.out.mono B1315.out.size))
          have B17 := hide (B15.out.trans (B1517.out.mono B15.out.size))
          have H17 := hide (show Bx w17 w16.heap.size #[.slice a7 n c7, .slice none 0 0, .int .i64 (Mx.less left)] 50 by rw [hw17.out]; exact Bx.new _ _ _)
          have G17 := hide (G15.out.later B1517.out G15.out.lt)
          have O17 := hide (O13.out.later B1317.out O13.out.lt)
          have T17 := hide (T13.out.later B1317.out T13.out.lt)
          go_wp2_with fail
          rw [← hw17.out]
          refine (is_any (1) (1) w17).mono ?_
          rintro e w17' ⟨rfl, rfl⟩
          rw [beq_self_eq_true]
          go_wp2_with fail
          refine (is_nil _ _).mono ?_
          rintro e w17'' ⟨rfl, rfl⟩
          rw [show ((0 : Int) == 0) = true from rfl]
          obtain ⟨p0, p1, p2⟩ := G17.out.three
          obtain ⟨q0, q1, q2⟩ := O17.out.three
          go_wp2_with fail
          refine (sameDisk_any none none none none 0 0 0 0 0 0 0 0 0 0 [] [] [] [] w17'' (BL.nil _) (PL.nil _) (BL.nil _) (PL.nil _) rfl rfl rfl).mono ?_
          rintro e w18 ⟨rfl, hb18⟩
          have HB18 := hide hb18
          clear p0 p1 p2 q0 q1 q2 hb18
          obtain ⟨p0, p1, p2⟩ := (H17.out.later HB18.out H17.out.lt).three
          obtain ⟨q0, q1, q2⟩ := (T17.out.later HB18.out T17.out.lt).three
          go_wp2_with fail
          refine (sameDisk_any a7 none (some ⟨gr, 0, none⟩) none n c7 0 0 n k3 0 0 (Mx.less left) (left) (Mx.flushed ls ps) (Mx.flushed ls ps) [] [] w18 (hB16.out.later (B1617.out.trans (HB18.out.mono B1617.out.size))) (PL.nil _) (U13.out.later (B1317.out.trans (HB18.out.mono B1317.out.size))) (PL.nil _) rfl rfl HLE.out).mono ?_
          rintro e w19 ⟨rfl, hb19⟩
          go_wp2
          go_ret
          exact ⟨rfl, (B17.out.trans (HB18.out.mono B17.out.size)).trans (hb19.mono (by have := B17.out.size; have := HB18.out.size; omega))⟩
end Go.Proofs.Ytengpogcdnbabaa
