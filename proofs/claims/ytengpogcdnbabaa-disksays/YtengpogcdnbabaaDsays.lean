/-
  For every disk, writing, flushing, reading, and what may be, are what B1 and B2 say (DiskSays): the walk.
-/
import Derived.Test.YtengpogcdnbabaaDread
import Derived.Test.YtengpogcdnbabaaDsame
import Derived.Test.YtengpogcdnbabaaDwf
import Derived.Test.YtengpogcdnbabaaDownd
namespace Go.Proofs.Ytengpogcdnbabaa
open Go.RowKit

namespace Mx
/-- what the document's answer gathers: the last put of the place, from the front -/
def wantB (z : B8) (ps : List Pt) (at_ : Int) : B8 := ps.foldl (fun v p => if p.at_ = at_ then p.d else v) z
theorem wantB_snoc (z : B8) (ps : List Pt) (at_ : Int) (k : Nat) (p : Pt) (h : ps[k]? = some p) : wantB z (ps.take (k + 1)) at_ = if p.at_ = at_ then p.d else wantB z (ps.take k) at_ := by
  rw [wantB, List.take_add_one, h, Option.toList_some, List.foldl_append, ← wantB]
  rfl
theorem wantB_find (z : B8) (ps : List Pt) (at_ : Int) : wantB z ps at_ = match ps.reverse.find? (fun p => p.at_ == at_) with | some p => p.d | none => z := by
  induction ps generalizing z with
  | nil => rfl
  | cons p ps ih =>
    rw [wantB, List.foldl_cons, ← wantB, ih, List.reverse_cons, List.find?_append]
    cases h : ps.reverse.find? (fun p => p.at_ == at_) with
    | some q => rfl
    | none =>
      by_cases hp : p.at_ = at_
      · simp [hp]
      · simp [hp]
theorem wantB_read (ls : List B8) (ps : List Pt) (at_ : Int) : wantB (ls.getD at_.toNat zB) ps at_ = readB ls ps at_ := wantB_find _ _ _
end Mx

theorem OwnBL.toBL {w : World} {base n c : Nat} {a : Option Addr} {l : List B8} (h : OwnBL w base (.slice a n c) l) : BL w a n l := by
  obtain ⟨a', c', hv, hb, _⟩ := h.bl
  simp only [Value.slice.injEq] at hv
  obtain ⟨rfl, rfl, rfl⟩ := hv
  exact hb
theorem OwnPL.toPL {w : World} {base n c : Nat} {a : Option Addr} {l : List Pt} (h : OwnPL w base (.slice a n c) l) : PL w a n l := by
  obtain ⟨a', c', hv, hb, _⟩ := h.pl
  simp only [Value.slice.injEq] at hv
  obtain ⟨rfl, rfl, rfl⟩ := hv
  exact hb

set_option maxHeartbeats 4000000 in
set_option maxRecDepth 100000 in
theorem dsays_d2b (sa pa : Option Addr) (n sc m pc : Nat) (left at_ : Int) (x : B8) (ls : List B8) (ps : List Pt) (w : World) (hs : BL w sa n ls) (hp : PL w pa m ps) (hl1 : -9223372036854775808 ≤ left) (hl2 : left ≤ 9223372036854775807)
    (hmay : Mx.dmay n ps = 0) (hin0 : 0 ≤ at_) (hin1 : at_ < n) (hm8 : ¬ m = 800) (hleft : ¬ left = 0) :
    Calls Try.prog 6 #[.agg #[.slice sa n sc, .slice pa m pc, .int .i64 left], .int .i64 at_, .agg #[.int .u8 x.z0, .int .u8 x.z1, .int .u8 x.z2, .int .u8 x.z3, .int .u8 x.z4, .int .u8 x.z5, .int .u8 x.z6, .int .u8 x.z7]] w fun e w' =>
      e = .returned (.bool true) ∧ Below w.heap.size w w' := by
  obtain ⟨hn0, hn1, hm0, HIN⟩ : 1 ≤ n ∧ n ≤ 200 ∧ m ≤ 800 ∧ Hid (∀ p ∈ ps, 0 ≤ p.at_ ∧ p.at_ < n) := by
    obtain ⟨h1, h2, h3, h4⟩ := Mx.dmay_facts hmay
    exact ⟨h1, h2, by rw [← hp.1]; exact h3, h4⟩
  have HM := hide hmay
  have HPL := hide hp.1
  have HSL := hide hs.1
  have HRD := hide (show Mx.dread n ps left at_ = 0 by
    have hd : Mx.dplace n ps at_ = 0 := by unfold Mx.dplace; rw [if_pos hmay, if_pos ⟨hin0, hin1⟩]
    unfold Mx.dread
    rw [if_pos hd, if_neg hleft])
  have HWR := hide (show Mx.dwrite n ps left at_ = 0 by
    have hd : Mx.dplace n ps at_ = 0 := by unfold Mx.dplace; rw [if_pos hmay, if_pos ⟨hin0, hin1⟩]
    unfold Mx.dwrite
    rw [if_pos hd, if_neg (by rw [hp.1]; exact hm8), if_neg hleft])
  have HFL := hide (show Mx.dflush n ps left = 0 by unfold Mx.dflush; rw [if_pos hmay, if_neg hleft])
  have HS := hide hs
  have HP := hide hp
  have HNN := hide (show n ≤ maxLen from hs.2.2.1)
  have HL := hide (And.intro hl1 hl2)
  clear hs hp hl1 hl2 hmay
  have h300 : ¬ (300 : Int) < n := by omega
  have h900 : ¬ (900 : Int) < m := by omega
  have hm8' : ((m : Int) == 800) = false := by simp; omega
  have hle : (left == 0) = false := by simpa using hleft
  go_enter Try.func6, Try.ntmps6
  go_wp2_with fail
  obtain ⟨w0, hw0⟩ : ∃ w0 : World, Hid (w0 = (w.alloc (.cells #[.slice sa n sc, .slice pa m pc, .int .i64 left] 50)).alloc (.cells #[.int .u8 x.z0, .int .u8 x.z1, .int .u8 x.z2, .int .u8 x.z3, .int .u8 x.z4, .int .u8 x.z5, .int .u8 x.z6, .int .u8 x.z7] 52)) := ⟨_, rfl⟩
  rw [← hw0.out]
  have B0 := hide (show Below w.heap.size w w0 by rw [hw0.out]; exact (below_alloc _ _).alloc (by simp) _)
  have X0 := hide (show Bx w0 w.heap.size #[.slice sa n sc, .slice pa m pc, .int .i64 left] 50 by rw [hw0.out]; exact (Bx.new w _ 50).alloc _)
  have Y0 := hide (show Bx w0 (w.heap.size + 1) #[.int .u8 x.z0, .int .u8 x.z1, .int .u8 x.z2, .int .u8 x.z3, .int .u8 x.z4, .int .u8 x.z5, .int .u8 x.z6, .int .u8 x.z7] 52 by
    rw [hw0.out]
    have h := Bx.new (w.alloc (.cells #[.slice sa n sc, .slice pa m pc, .int .i64 left] 50)) #[.int .u8 x.z0, .int .u8 x.z1, .int .u8 x.z2, .int .u8 x.z3, .int .u8 x.z4, .int .u8 x.z5, .int .u8 x.z6, .int .u8 x.z7] 52
    rw [World.size_alloc] at h
    exact h)
  refine (diskMay_any sa pa n sc m pc left ps w0 (HP.out.later B0.out) HNN.out).mono ?_
  rintro e w1 ⟨rfl, hb1⟩
  rw [HM.out]
  have B1 := hide (B0.out.trans (hb1.mono B0.out.size))
  have X1 := hide (X0.out.later hb1 X0.out.lt)
  have Y1 := hide (Y0.out.later hb1 Y0.out.lt)
  clear hb1
  obtain ⟨f0, f1, f2⟩ := X1.out.three
  go_wp2_with fail
  refine (dcheck_any sa pa n sc m pc left ps w1 (HP.out.later B1.out) HNN.out).mono ?_
  rintro e w2 ⟨rfl, hb2⟩
  rw [HM.out]
  have B2 := hide (B1.out.trans (hb2.mono B1.out.size))
  have X2 := hide (X1.out.later hb2 X1.out.lt)
  have Y2 := hide (Y1.out.later hb2 Y1.out.lt)
  clear hb2 f0 f1 f2
  obtain ⟨f0, f1, f2⟩ := X2.out.three
  go_wp2_with fail
  refine (is_any 0 0 w2).mono ?_
  rintro e w3 ⟨rfl, rfl⟩
  rw [show ((0 : Int) == 0) = true from rfl]
  go_wp2_with fail
  obtain ⟨y, hy⟩ : ∃ y : B8, Hid (y = Mx.readB ls ps at_) := ⟨_, rfl⟩
  refine (read_any sa pa n sc m pc left at_ ls ps w3 (HS.out.later B2.out) (HP.out.later B2.out) HRD.out y hy.out).mono ?_
  rintro e w4 ⟨rfl, hb4⟩
  have B4 := hide (B2.out.trans (hb4.mono B2.out.size))
  have X4 := hide (X2.out.later hb4 X2.out.lt)
  have Y4 := hide (Y2.out.later hb4 Y2.out.lt)
  clear hb4 f0 f1 f2
  obtain ⟨f0, f1, f2⟩ := X4.out.three
  obtain ⟨j, hj⟩ := Int.eq_ofNat_of_zero_le hin0
  subst hj
  obtain ⟨b, off, z, hsa, hb, hz, c0, c1, c2, c3, c4, c5, c6, c7⟩ := (HS.out.later B4.out).at_ j (by omega)
  subst hsa
  have HZ := hide hz
  clear hz
  have hX4 := X4.out.lt
  have HYZ := hide (show Mx.wantB z ps (j : Int) = y by
    rw [hy.out, ← Mx.wantB_read, Int.toNat_natCast, List.getD_eq_getElem?_getD, HZ.out]
    rfl)
  go_wp2_with fail
  go_loopw [15] (fun i wr => ∃ (k : Nat) (v : B8), k ≤ m ∧ i = .int .i64 k ∧ Hid (v = Mx.wantB z (ps.take k) (j : Int)) ∧ wr = (w4.alloc (.cells #[.int .u8 y.z0, .int .u8 y.z1, .int .u8 y.z2, .int .u8 y.z3, .int .u8 y.z4, .int .u8 y.z5, .int .u8 y.z6, .int .u8 y.z7] 52)).alloc (.cells #[.int .u8 v.z0, .int .u8 v.z1, .int .u8 v.z2, .int .u8 v.z3, .int .u8 v.z4, .int .u8 v.z5, .int .u8 v.z6, .int .u8 v.z7] 52)) (fun i _ => m - (intOf i).toNat)
  case atStart => exact ⟨0, z, by omega, rfl, rfl, rfl⟩
  case round =>
    obtain ⟨k, v, hk, rfl, hv, rfl⟩ := hrel
    by_cases hlt : k < m
    · obtain ⟨b', off', p, hpa, hb', hx, e0, e1, e2, e3, e4, e5, e6, e7, e8⟩ := (HP.out.later B4.out).at_ k hlt
      subst hpa
      have HXK := hide hx
      clear hx
      by_cases hpe : p.at_ = (j : Int)
      · have hpe2 : (p.at_ == (j : Int)) = true := by simpa using hpe
        have HW := hide (show p.d = Mx.wantB z (ps.take (k + 1)) (j : Int) by rw [Mx.wantB_snoc z ps _ k p HXK.out, if_pos hpe])
        rw [hpe] at e0
        clear hpe hpe2
        go_wp2_with fail
        go_roundw
        case rel => exact ⟨k + 1, p.d, by omega, by go_num, HW, rfl⟩
        case measure => simp [intOf]; omega
      · have hpe2 : (p.at_ == (j : Int)) = false := by simpa using hpe
        have HW := hide (show v = Mx.wantB z (ps.take (k + 1)) (j : Int) by rw [Mx.wantB_snoc z ps _ k p HXK.out, if_neg hpe]; exact hv.out)
        clear hpe
        go_wp2_with fail
        go_roundw
        case rel => exact ⟨k + 1, v, by omega, by go_num, HW, rfl⟩
        case measure => simp [intOf]; omega
    · have hvy : v = y := by
        have h := hv.out
        rw [List.take_of_length_le (by rw [HPL.out]; omega), HYZ.out] at h
        exact h
      subst hvy
      clear hv
      go_wp2_with fail
      obtain ⟨w5, hw5⟩ : ∃ w5 : World, Hid (w5 = (w4.alloc (.cells #[.int .u8 v.z0, .int .u8 v.z1, .int .u8 v.z2, .int .u8 v.z3, .int .u8 v.z4, .int .u8 v.z5, .int .u8 v.z6, .int .u8 v.z7] 52)).alloc (.cells #[.int .u8 v.z0, .int .u8 v.z1, .int .u8 v.z2, .int .u8 v.z3, .int .u8 v.z4, .int .u8 v.z5, .int .u8 v.z6, .int .u8 v.z7] 52)) := ⟨_, rfl⟩
      rw [← hw5.out]
      have B45 := hide (show Below w4.heap.size w4 w5 by rw [hw5.out]; exact (below_alloc _ _).alloc (by simp) _)
      have B5 := hide (B4.out.trans (B45.out.mono B4.out.size))
      have X5 := hide (X4.out.later B45.out X4.out.lt)
      have Y5 := hide (Y4.out.later B45.out Y4.out.lt)
      have G5 := hide (show Bx w5 w4.heap.size #[.int .u8 v.z0, .int .u8 v.z1, .int .u8 v.z2, .int .u8 v.z3, .int .u8 v.z4, .int .u8 v.z5, .int .u8 v.z6, .int .u8 v.z7] 52 by rw [hw5.out]; exact (Bx.new w4 _ 52).alloc _)
      have V5 := hide (show Bx w5 (w4.heap.size + 1) #[.int .u8 v.z0, .int .u8 v.z1, .int .u8 v.z2, .int .u8 v.z3, .int .u8 v.z4, .int .u8 v.z5, .int .u8 v.z6, .int .u8 v.z7] 52 by
        rw [hw5.out]
        have h := Bx.new (w4.alloc (.cells #[.int .u8 v.z0, .int .u8 v.z1, .int .u8 v.z2, .int .u8 v.z3, .int .u8 v.z4, .int .u8 v.z5, .int .u8 v.z6, .int .u8 v.z7] 52)) #[.int .u8 v.z0, .int .u8 v.z1, .int .u8 v.z2, .int .u8 v.z3, .int .u8 v.z4, .int .u8 v.z5, .int .u8 v.z6, .int .u8 v.z7] 52
        rw [World.size_alloc] at h
        exact h)
      clear f0 f1 f2 c0 c1 c2 c3 c4 c5 c6 c7
      obtain ⟨f0, f1, f2⟩ := X5.out.three
      obtain ⟨g0, g1, g2, g3, g4, g5, g6, g7⟩ := G5.out.eight
      obtain ⟨u0, u1, u2, u3, u4, u5, u6, u7⟩ := V5.out.eight
      have hX5 := X5.out.lt
      refine (is_nil _ _).mono ?_
      rintro e w5' ⟨rfl, rfl⟩
      have heq := equal_block v.z0 v.z1 v.z2 v.z3 v.z4 v.z5 v.z6 v.z7 v.z0 v.z1 v.z2 v.z3 v.z4 v.z5 v.z6 v.z7
      rw [decide_eq_true rfl] at heq
      go_wp2_with fail
      clear heq g0 g1 g2 g3 g4 g5 g6 g7 u0 u1 u2 u3 u4 u5 u6 u7
      obtain ⟨w6, hw6⟩ : ∃ w6 : World, Hid (w6 = (w5'.alloc (.cells #[.slice none 0 0, .slice none 0 0, .int .i64 0] 50)).alloc (.cells #[.slice none 0 0, .slice none 0 0, .int .i64 0] 50)) := ⟨_, rfl⟩
      rw [← hw6.out]
      have B56 := hide (show Below w5'.heap.size w5' w6 by rw [hw6.out]; exact (below_alloc _ _).alloc (by simp) _)
      have B6 := hide (B5.out.trans (B56.out.mono B5.out.size))
      have X6 := hide (X5.out.later B56.out X5.out.lt)
      have Y6 := hide (Y5.out.later B56.out Y5.out.lt)
      have O6 := hide (show Bx w6 w5'.heap.size #[.slice none 0 0, .slice none 0 0, .int .i64 0] 50 by rw [hw6.out]; exact (Bx.new w5' _ 50).alloc _)
      have T6 := hide (show Bx w6 (w5'.heap.size + 1) #[.slice none 0 0, .slice none 0 0, .int .i64 0] 50 by
        rw [hw6.out]
        have h := Bx.new (w5'.alloc (.cells #[.slice none 0 0, .slice none 0 0, .int .i64 0] 50)) #[.slice none 0 0, .slice none 0 0, .int .i64 0] 50
        rw [World.size_alloc] at h
        exact h)
      clear f0 f1 f2 hX5
      refine (ownDisk_any (some ⟨b, off, none⟩) pa n sc m pc left ls ps w6 (HS.out.later B6.out) (HP.out.later B6.out) (by omega) (by omega)).mono ?_
      rintro e w7 ⟨a1, k1, a2, k2, rfl, hO1, hO2, hb7⟩
      have B7 := hide (B6.out.trans (hb7.out.mono B6.out.size))
      have X7 := hide (X6.out.later hb7.out X6.out.lt)
      have Y7 := hide (Y6.out.later hb7.out Y6.out.lt)
      have O7 := hide (O6.out.later hb7.out O6.out.lt)
      have T7 := hide (T6.out.later hb7.out T6.out.lt)
      obtain ⟨f0, f1, f2⟩ := X7.out.three
      obtain ⟨g0, g1, g2⟩ := O7.out.three
      have gz := O7.out.frozen
      obtain ⟨x0, x1, x2, x3, x4, x5, x6, x7⟩ := Y7.out.eight
      have hY7 := Y7.out.lt
      have hO7 := O7.out.lt
      have hne1 : ¬ w5'.heap.size = w.heap.size := by have := B5.out.size; have := X5.out.lt; omega
      have hne2 : ¬ w5'.heap.size = w.heap.size + 1 := by have := Y5.out.lt; omega
      have hne3 : ¬ w.heap.size = w5'.heap.size := fun e => hne1 e.symm
      have hne4 : ¬ w.heap.size + 1 = w5'.heap.size := fun e => hne2 e.symm
      go_upto_region 35 with fail
      obtain ⟨w8, hw8⟩ : ∃ w8 : World, Hid (w8 = ((w7.setCell ⟨w5'.heap.size, 0, none⟩ (.slice a1 n k1)).setCell ⟨w5'.heap.size, 1, none⟩ (.slice a2 m k2)).setCell ⟨w5'.heap.size, 2, none⟩ (.int .i64 left)) := ⟨_, rfl⟩
      rw [← hw8.out]
      have L5 := hide B5.out.size
      have BB8 := hide (show Below w.heap.size w w8 by rw [hw8.out]; exact ((B7.out.setCell (p := ⟨w5'.heap.size, 0, none⟩) L5.out _).setCell (p := ⟨w5'.heap.size, 1, none⟩) L5.out _).setCell (p := ⟨w5'.heap.size, 2, none⟩) L5.out _)
      have S8 := hide (show w8.heap.size = w7.heap.size by rw [hw8.out]; simp [World.setCell])
      have X8 := hide (show Bx w8 w.heap.size _ 50 by rw [hw8.out]; exact ((X7.out.other _ _ hne3).other _ _ hne3).other _ _ hne3)
      have Y8 := hide (show Bx w8 (w.heap.size + 1) _ 52 by rw [hw8.out]; exact ((Y7.out.other _ _ hne4).other _ _ hne4).other _ _ hne4)
      have T8 := hide (show Bx w8 (w5'.heap.size + 1) _ 50 by rw [hw8.out]; exact ((T7.out.other _ _ (by simp)).other _ _ (by simp)).other _ _ (by simp))
      have O8 := hide (show Bx w8 w5'.heap.size #[.slice a1 n k1, .slice a2 m k2, .int .i64 left] 50 by rw [hw8.out]; exact ((O7.out.set 0 (.slice a1 n k1)).set 1 (.slice a2 m k2)).set 2 (.int .i64 left))
      have P8 := hide (show OwnBL w8 w6.heap.size (.slice a1 n k1) ls by
        rw [hw8.out]
        have q := own_ne_bx hO1.out O7.out (by decide)
        exact ownsRow_other (ownsRow_other (ownsRow_other hO1.out _ _ q) _ _ q) _ _ q)
      have Q8 := hide (show OwnPL w8 w6.heap.size (.slice a2 m k2) ps by
        rw [hw8.out]
        have q := own_ne_bx hO2.out O7.out (by decide)
        exact ownsRow_other (ownsRow_other (ownsRow_other hO2.out _ _ q) _ _ q) _ _ q)
      have L6 := hide (show w5'.heap.size + 2 ≤ w6.heap.size by rw [hw6.out]; simp)
      have L8 := hide (show w6.heap.size ≤ w8.heap.size by rw [S8.out]; exact hb7.out.size)
      clear f0 f1 f2 g0 g1 g2 gz x0 x1 x2 x3 x4 x5 x6 x7 hY7 hO7 X7 Y7 O7 T7 hO1 hO2 hb7 hw8
      clear B56 X6 Y6 O6 T6 hw6 G5 V5 X5 Y5 B45 hw5 X4 Y4 hX4 hw0 X0 Y0 X1 Y1 X2 Y2 B0 B1 B2
      obtain ⟨f0, f1, f2⟩ := X8.out.three
      obtain ⟨g0, g1, g2⟩ := O8.out.three
      have gz := O8.out.frozen
      obtain ⟨x0, x1, x2, x3, x4, x5, x6, x7⟩ := Y8.out.eight
      have hY8 := Y8.out.lt
      have hO8 := O8.out.lt
      go_upto_region 35 with fail
      go_wp2_with (at_builtin; refine wpList_append_put (w := w8) rfl _ _ rfl w6.heap.size ps ?c0 ⟨(j : Int), x⟩ ?c1 ?c2 ?c3 ?_)
      case c0 => exact Q8.out
      case c1 => rfl
      case c2 => rw [HPL.out]; omega
      case c3 => exact L8.out
      intro ad cc w9 hown9 hg9
      obtain ⟨hOP, hG⟩ : Hid (OwnPL w9 w6.heap.size (.slice (some ad) (m + 1) cc) (ps ++ [⟨(j : Int), x⟩])) ∧ Hid (w8.grownBy w9 (Value.slice a2 m k2).ownBlock) := by
        rw [HPL.out] at hown9
        exact ⟨hown9, hg9⟩
      rw [HPL.out]
      clear hown9 hg9
      have B89 := hide (show Below w6.heap.size w8 w9 from (Below.refl _ _).grown hG.out L8.out (fun k hk => (World.ownsRow.lt Q8.out k hk).1))
      have B9 := hide (BB8.out.trans (B89.out.mono (by have := L5.out; have := L6.out; omega)))
      have X9 := hide (X8.out.later B89.out (by have := L5.out; have := L6.out; omega))
      have Y9 := hide (Y8.out.later B89.out (by have := L5.out; have := L6.out; omega))
      have T9 := hide (T8.out.later B89.out (by have := L6.out; omega))
      have O9 := hide (O8.out.later B89.out (by have := L6.out; omega))
      have P9 := hide (show OwnBL w9 w6.heap.size (.slice a1 n k1) ls from World.ownsRow.kept P8.out hG.out (by
        rcases hbk : (Value.slice a1 n k1).ownBlock with _ | g
        · exact .inl rfl
        · exact .inr (fun e => own_own_ne P8.out Q8.out (by decide) g hbk e.symm)))
      clear f0 f1 f2 g0 g1 g2 gz x0 x1 x2 x3 x4 x5 x6 x7 hY8 hO8 P8 Q8 hG O8 T8 X8 Y8
      obtain ⟨f0, f1, f2⟩ := X9.out.three
      obtain ⟨g0, g1, g2⟩ := O9.out.three
      have gz := O9.out.frozen
      have hO9 := O9.out.lt
      go_wp2_with fail
      obtain ⟨w10, hw10⟩ : ∃ w10 : World, Hid (w10 = w9.setCell ⟨w5'.heap.size, 1, none⟩ (.slice (some ad) (m + 1) cc)) := ⟨_, rfl⟩
      rw [← hw10.out]
      have S10 := hide (show w10.heap.size = w9.heap.size by rw [hw10.out]; simp [World.setCell])
      have B10 := hide (show Below w.heap.size w w10 by rw [hw10.out]; exact B9.out.setCell (p := ⟨w5'.heap.size, 1, none⟩) L5.out _)
      have X10 := hide (show Bx w10 w.heap.size _ 50 by rw [hw10.out]; exact X9.out.other _ _ hne3)
      have Y10 := hide (show Bx w10 (w.heap.size + 1) _ 52 by rw [hw10.out]; exact Y9.out.other _ _ hne4)
      have T10 := hide (show Bx w10 (w5'.heap.size + 1) _ 50 by rw [hw10.out]; exact T9.out.other _ _ (by simp))
      have O10 := hide (show Bx w10 w5'.heap.size #[.slice a1 n k1, .slice (some ad) (m + 1) cc, .int .i64 left] 50 by rw [hw10.out]; exact O9.out.set 1 (.slice (some ad) (m + 1) cc))
      have P10 := hide (show OwnBL w10 w6.heap.size (.slice a1 n k1) ls by rw [hw10.out]; exact ownsRow_other P9.out _ _ (own_ne_bx P9.out O9.out (by decide)))
      have R10 := hide (show OwnPL w10 w6.heap.size (.slice (some ad) (m + 1) cc) (ps ++ [⟨(j : Int), x⟩]) by rw [hw10.out]; exact ownsRow_other hOP.out _ _ (own_ne_bx hOP.out O9.out (by decide)))
      have L10 := hide (show w6.heap.size ≤ w10.heap.size by rw [S10.out]; exact Nat.le_trans L8.out B89.out.size)
      clear f0 f1 f2 g0 g1 g2 gz hO9 X9 Y9 T9 O9 P9 hOP hw10 B9 B89
      refine (ownDisk_any (some ⟨b, off, none⟩) pa n sc m pc left ls ps w10 (HS.out.later B10.out) (HP.out.later B10.out) (by omega) (by omega)).mono ?_
      rintro e w11 ⟨a3, k3, a4, k4, rfl, hO3, hO4, hb11⟩
      have B11 := hide (B10.out.trans (hb11.out.mono B10.out.size))
      have X11 := hide (X10.out.later hb11.out X10.out.lt)
      have Y11 := hide (Y10.out.later hb11.out Y10.out.lt)
      have T11 := hide (T10.out.later hb11.out T10.out.lt)
      have O11 := hide (O10.out.later hb11.out O10.out.lt)
      have P11 := hide (show OwnBL w11 w6.heap.size (.slice a1 n k1) ls from rowKept P10.out hb11.out)
      have R11 := hide (show OwnPL w11 w6.heap.size (.slice (some ad) (m + 1) cc) (ps ++ [⟨(j : Int), x⟩]) from rowKept R10.out hb11.out)
      obtain ⟨f0, f1, f2⟩ := X11.out.three
      obtain ⟨g0, g1, g2⟩ := T11.out.three
      have gz := T11.out.frozen
      have hT11 := T11.out.lt
      have hne5 : ¬ w5'.heap.size + 1 = w.heap.size := by have := L5.out; omega
      have hne6 : ¬ w.heap.size = w5'.heap.size + 1 := fun e => hne5 e.symm
      have hne7 : ¬ w5'.heap.size = w5'.heap.size + 1 := by omega
      have hne8 : ¬ w.heap.size + 1 = w5'.heap.size + 1 := by omega
      go_upto_region 38 with fail
      obtain ⟨w12, hw12⟩ : ∃ w12 : World, Hid (w12 = ((w11.setCell ⟨w5'.heap.size + 1, 0, none⟩ (.slice a3 n k3)).setCell ⟨w5'.heap.size + 1, 1, none⟩ (.slice a4 m k4)).setCell ⟨w5'.heap.size + 1, 2, none⟩ (.int .i64 left)) := ⟨_, rfl⟩
      rw [← hw12.out]
      have L7 := hide (show w.heap.size ≤ w5'.heap.size + 1 by have := L5.out; omega)
      have B12 := hide (show Below w.heap.size w w12 by rw [hw12.out]; exact ((B11.out.setCell (p := ⟨w5'.heap.size + 1, 0, none⟩) L7.out _).setCell (p := ⟨w5'.heap.size + 1, 1, none⟩) L7.out _).setCell (p := ⟨w5'.heap.size + 1, 2, none⟩) L7.out _)
      have S12 := hide (show w12.heap.size = w11.heap.size by rw [hw12.out]; simp [World.setCell])
      have X12 := hide (show Bx w12 w.heap.size _ 50 by rw [hw12.out]; exact ((X11.out.other _ _ hne6).other _ _ hne6).other _ _ hne6)
      have Y12 := hide (show Bx w12 (w.heap.size + 1) _ 52 by rw [hw12.out]; exact ((Y11.out.other _ _ hne8).other _ _ hne8).other _ _ hne8)
      have O12 := hide (show Bx w12 w5'.heap.size _ 50 by rw [hw12.out]; exact ((O11.out.other _ _ hne7).other _ _ hne7).other _ _ hne7)
      have T12 := hide (show Bx w12 (w5'.heap.size + 1) #[.slice a3 n k3, .slice a4 m k4, .int .i64 left] 50 by rw [hw12.out]; exact ((T11.out.set 0 (.slice a3 n k3)).set 1 (.slice a4 m k4)).set 2 (.int .i64 left))
      have P12 := hide (show OwnBL w12 w6.heap.size (.slice a1 n k1) ls by
        rw [hw12.out]
        have q := own_ne_bx P11.out T11.out (by decide)
        exact ownsRow_other (ownsRow_other (ownsRow_other P11.out _ _ q) _ _ q) _ _ q)
      have R12 := hide (show OwnPL w12 w6.heap.size (.slice (some ad) (m + 1) cc) (ps ++ [⟨(j : Int), x⟩]) by
        rw [hw12.out]
        have q := own_ne_bx R11.out T11.out (by decide)
        exact ownsRow_other (ownsRow_other (ownsRow_other R11.out _ _ q) _ _ q) _ _ q)
      have U12 := hide (show OwnBL w12 w10.heap.size (.slice a3 n k3) ls by
        rw [hw12.out]
        have q := own_ne_bx hO3.out T11.out (by decide)
        exact ownsRow_other (ownsRow_other (ownsRow_other hO3.out _ _ q) _ _ q) _ _ q)
      have L12 := hide (show w10.heap.size ≤ w12.heap.size by rw [S12.out]; exact hb11.out.size)
      have D12 := hide (show ∀ g, (Value.slice a1 n k1).ownBlock = some g → g < w10.heap.size from fun g hg => (World.ownsRow.lt P10.out g hg).2)
      have E12 := hide (show ∀ g, (Value.slice (some ad) (m + 1) cc).ownBlock = some g → g < w10.heap.size from fun g hg => (World.ownsRow.lt R10.out g hg).2)
      have F12 := hide (show w5'.heap.size + 1 < w10.heap.size from T10.out.lt)
      clear f0 f1 f2 g0 g1 g2 gz hT11 X11 Y11 T11 O11 P11 R11 hO3 hO4 hb11 hw12 X10 Y10 T10 O10 P10 R10 B11
      obtain ⟨gr, rfl, hgr1, hgr2, _, _⟩ := U12.out.form (by omega)
      obtain ⟨f0, f1, f2⟩ := X12.out.three
      go_wp2_with fail
      go_loopw [18] (fun i wr => ∃ k' : Nat, k' ≤ m ∧ i = .int .i64 k' ∧ Hid (Bx wr (w5'.heap.size + 1) #[.slice (some ⟨gr, 0, none⟩) n k3, .slice a4 m k4, .int .i64 left] 50 ∧ OwnBL wr w10.heap.size (.slice (some ⟨gr, 0, none⟩) n k3) (Mx.flushed ls (ps.take k')) ∧ Below w10.heap.size w12 wr)) (fun i _ => m - (intOf i).toNat)
      case atStart => exact ⟨0, by omega, rfl, T12.out, by simpa [Mx.flushed] using U12.out, Below.refl _ _⟩
      case round =>
        clear f0 f1 f2
        obtain ⟨k', hk', rfl, hF⟩ := hrel
        have Bwr := hide (B12.out.trans (hF.out.2.2.mono (by have := B10.out.size; omega)))
        have Xwr := hide (X12.out.later hF.out.2.2 (by have := F12.out; have := L5.out; omega))
        obtain ⟨f0, f1, f2⟩ := Xwr.out.three
        by_cases hlt' : k' < m
        · obtain ⟨b', off', p0, hpa, hb', hx0, _⟩ := HP.out.at_ k' hlt'
          subst hpa
          obtain ⟨b2, off2, p, hpa2, _, hx, e0, e1, e2, e3, e4, e5, e6, e7, e8⟩ := (HP.out.later Bwr.out).at_ k' hlt'
          cases hpa2
          have hin := HIN.out p (List.mem_of_getElem? hx)
          obtain ⟨i', hi'⟩ := Int.eq_ofNat_of_zero_le hin.1
          have HXK := hide hx
          have HJ := hide hi'
          rw [hi'] at e0 hin
          clear hx hx0 hi'
          have hin' : (i' : Int) < n := hin.2
          have hin'0 : (0 : Int) ≤ (i' : Int) := hin.1
          obtain ⟨yy, _, y0, y1, y2, y3, y4, y5, y6, y7⟩ := hF.out.2.1.at_ i' (by omega)
          obtain ⟨hgl2, hgb, yz⟩ := hF.out.2.1.fz
          obtain ⟨t0, t1, t2⟩ := hF.out.1.three
          have n1 : ¬ gr = w5'.heap.size + 1 := fun e => own_ne_bx hF.out.2.1 hF.out.1 (by decide) (by rw [← e]; rfl)
          have n2 : ¬ gr = w.heap.size := by have := F12.out; have := L5.out; omega
          have n3 : ¬ gr = b' := by have := F12.out; have := L5.out; omega
          have HNX := hide (hF.out.2.1.put i' (by rw [Mx.flushed_len, HSL.out]; omega) p.d)
          have HN2 := hide (show Bx (set8 wr gr (i' * 8) p.d).drew (w5'.heap.size + 1) #[.slice (some ⟨gr, 0, none⟩) n k3, .slice a4 m k4, .int .i64 left] 50 ∧ OwnBL (set8 wr gr (i' * 8) p.d).drew w10.heap.size (.slice (some ⟨gr, 0, none⟩) n k3) (Mx.flushed ls (ps.take (k' + 1))) ∧ Below w10.heap.size w12 (set8 wr gr (i' * 8) p.d).drew from by
            rw [Mx.flushed_snoc ls ps k' p HXK.out, HJ.out, Int.toNat_natCast]
            exact ⟨Bx.drew (Bx.set8 hF.out.1 (fun e => n1 e.symm) (i' * 8) p.d), World.ownsRow.drew HNX.out, (set8_below hF.out.2.2 hgb (i' * 8) p.d).drew⟩)
          clear HNX
          go_wp2_with fail
          go_region_held (fun w' => w'.cell? ⟨w5'.heap.size + 1, 0, none⟩ = some (.slice (some ⟨gr, 0, none⟩) n k3) ∧ w'.cell? ⟨w.heap.size, 1, none⟩ = some (.slice (some ⟨b', off', none⟩) m pc) ∧ w'.cell? ⟨b', off' + k' * 9, none⟩ = some (.int .i64 (i' : Int)) ∧ w'.cell? ⟨b', off' + k' * 9 + 1, none⟩ = some (.int .u8 p.d.z0) ∧ w'.cell? ⟨b', off' + k' * 9 + 2, none⟩ = some (.int .u8 p.d.z1) ∧ w'.cell? ⟨b', off' + k' * 9 + 3, none⟩ = some (.int .u8 p.d.z2) ∧ w'.cell? ⟨b', off' + k' * 9 + 4, none⟩ = some (.int .u8 p.d.z3) ∧ w'.cell? ⟨b', off' + k' * 9 + 5, none⟩ = some (.int .u8 p.d.z4) ∧ w'.cell? ⟨b', off' + k' * 9 + 6, none⟩ = some (.int .u8 p.d.z5) ∧ w'.cell? ⟨b', off' + k' * 9 + 7, none⟩ = some (.int .u8 p.d.z6) ∧ w'.cell? ⟨b', off' + k' * 9 + 8, none⟩ = some (.int .u8 p.d.z7))
            (simp [*, World.cell?_setCell_far]) (fail)
          go_wp2_with fail
          go_roundw
          case rel =>
            exact ⟨k' + 1, by omega, by go_num, HN2⟩
          case measure => simp [intOf]; omega
        · have hFL : Hid (OwnBL wr w10.heap.size (.slice (some ⟨gr, 0, none⟩) n k3) (Mx.flushed ls ps)) := by
            have h := hF.out.2.1
            rw [List.take_of_length_le (by rw [HPL.out]; omega)] at h
            exact h
          have Owr := hide (O12.out.later hF.out.2.2 (by have := F12.out; omega))
          have Ywr := hide (Y12.out.later hF.out.2.2 (by have := F12.out; have := L5.out; omega))
          have Twr := hide hF.out.1
          have Pwr := hide (show OwnBL wr w6.heap.size (.slice a1 n k1) ls from rowKeptBelow P12.out D12.out hF.out.2.2)
          have Rwr := hide (show OwnPL wr w6.heap.size (.slice (some ad) (m + 1) cc) (ps ++ [⟨(j : Int), x⟩]) from rowKeptBelow R12.out E12.out hF.out.2.2)
          obtain ⟨t0, t1, t2⟩ := hF.out.1.three
          have tz := hF.out.1.frozen
          have tl := hF.out.1.lt
          obtain ⟨o0, o1, o2⟩ := Owr.out.three
          have oz := Owr.out.frozen
          obtain ⟨x0, x1, x2, x3, x4, x5, x6, x7⟩ := Ywr.out.eight
          clear hF
          by_cases hpos : 0 < left
          · have hpd : decide (0 < left) = true := by simpa using hpos
            have hll : left ≤ 9223372036854775807 := HL.out.2
            have HLE := hide (show Mx.less left = left - 1 by unfold Mx.less; rw [if_neg (by omega)])
            go_wp2_with fail
            obtain ⟨w13, hw13⟩ : ∃ w13 : World, Hid (w13 = ((wr.setCell ⟨w5'.heap.size + 1, 1, none⟩ (.slice none 0 0)).setCell ⟨w5'.heap.size, 2, none⟩ (.int .i64 (left - 1))).setCell ⟨w5'.heap.size + 1, 2, none⟩ (.int .i64 (left - 1))) := ⟨_, rfl⟩
            rw [← hw13.out]
            have B13 := hide (show Below w.heap.size w w13 by rw [hw13.out]; exact ((Bwr.out.setCell (p := ⟨w5'.heap.size + 1, 1, none⟩) L7.out _).setCell (p := ⟨w5'.heap.size, 2, none⟩) L5.out _).setCell (p := ⟨w5'.heap.size + 1, 2, none⟩) L7.out _)
            have X13 := hide (show Bx w13 w.heap.size #[.slice (some ⟨b, off, none⟩) n sc, .slice pa m pc, .int .i64 left] 50 by rw [hw13.out]; exact ((Xwr.out.other _ _ hne6).other _ _ hne3).other _ _ hne6)
            have O13 := hide (show Bx w13 w5'.heap.size #[.slice a1 n k1, .slice (some ad) (m + 1) cc, .int .i64 (left - 1)] 50 by rw [hw13.out]; exact ((Owr.out.other _ _ hne7).set 2 (.int .i64 (left - 1))).other _ _ hne7)
            have T13 := hide (show Bx w13 (w5'.heap.size + 1) #[.slice (some ⟨gr, 0, none⟩) n k3, .slice none 0 0, .int .i64 (left - 1)] 50 by rw [hw13.out]; exact ((Twr.out.set 1 (.slice none 0 0)).other _ _ (fun e => hne7 e.symm)).set 2 (.int .i64 (left - 1)))
            have P13 := hide (show BL w13 a1 n ls by
              rw [hw13.out]
              have q := own_ne_bx Pwr.out Twr.out (by decide)
              have q2 := own_ne_bx Pwr.out Owr.out (by decide)
              exact OwnBL.toBL (ownsRow_other (ownsRow_other (ownsRow_other Pwr.out _ _ q) _ _ q2) _ _ q))
            have R13 := hide (show PL w13 (some ad) (m + 1) (ps ++ [⟨(j : Int), x⟩]) by
              rw [hw13.out]
              have q := own_ne_bx Rwr.out Twr.out (by decide)
              have q2 := own_ne_bx Rwr.out Owr.out (by decide)
              exact OwnPL.toPL (ownsRow_other (ownsRow_other (ownsRow_other Rwr.out _ _ q) _ _ q2) _ _ q))
            have U13 := hide (show BL w13 (some ⟨gr, 0, none⟩) n (Mx.flushed ls ps) by
              rw [hw13.out]
              have q := own_ne_bx hFL.out Twr.out (by decide)
              have q2 := own_ne_bx hFL.out Owr.out (by decide)
              exact OwnBL.toBL (ownsRow_other (ownsRow_other (ownsRow_other hFL.out _ _ q) _ _ q2) _ _ q))
            clear f0 f1 f2 t0 t1 t2 tz tl o0 o1 o2 oz x0 x1 x2 x3 x4 x5 x6 x7 hw13 Bwr Xwr Owr Twr Ywr Pwr Rwr hFL X12 Y12 O12 T12 P12 R12 U12 D12 E12
            refine (write_ok (some ⟨b, off, none⟩) pa n sc m pc left (j : Int) x ls ps w13 (HS.out.later B13.out) (HP.out.later B13.out) HL.out.1 HL.out.2 HWR.out).mono ?_
            rintro e w14 ⟨a5, c5, a6, c6, rfl, hB14, hP14, hb14⟩
            obtain ⟨w15, hw15⟩ : ∃ w15 : World, Hid (w15 = w14.alloc (.cells #[.slice a5 n c5, .slice a6 (m + 1) c6, .int .i64 (Mx.less left)] 50)) := ⟨_, rfl⟩
            have B1415 := hide (show Below w14.heap.size w14 w15 by rw [hw15.out]; exact below_alloc _ _)
            have B1315 := hide (hb14.out.trans (B1415.out.mono hb14.out.size))
            have G15 := hide (show Bx w15 w14.heap.size #[.slice a5 n c5, .slice a6 (m + 1) c6, .int .i64 (Mx.less left)] 50 by rw [hw15.out]; exact Bx.new _ _ _)
            have X15 := hide (X13.out.later B1315.out X13.out.lt)
            obtain ⟨f0, f1, f2⟩ := X15.out.three
            have X14 := hide (X13.out.later hb14.out X13.out.lt)
            obtain ⟨f0', f1', f2'⟩ := X14.out.three
            have hX14 := X14.out.lt
            go_wp2_with fail
            rw [← hw15.out]
            clear f0' f1' f2' hX14 f0 f1 f2
            have B15 := hide (B13.out.trans (B1315.out.mono B13.out.size))
            refine (flush_ok (some ⟨b, off, none⟩) pa n sc m pc left ls ps w15 (HS.out.later B15.out) (HP.out.later B15.out) HL.out.1 HL.out.2 HFL.out).mono ?_
            rintro e w16 ⟨a7, c7, rfl, hB16, hb16⟩
            obtain ⟨w17, hw17⟩ : ∃ w17 : World, Hid (w17 = w16.alloc (.cells #[.slice a7 n c7, .slice none 0 0, .int .i64 (Mx.less left)] 50)) := ⟨_, rfl⟩
            have B1617 := hide (show Below w16.heap.size w16 w17 by rw [hw17.out]; exact below_alloc _ _)
            have B1517 := hide (hb16.out.trans (B1617.out.mono hb16.out.size))
            have B1317 := hide (B1315.out.trans (B1517.out.mono B1315.out.size))
            have B17 := hide (B15.out.trans (B1517.out.mono B15.out.size))
            have H17 := hide (show Bx w17 w16.heap.size #[.slice a7 n c7, .slice none 0 0, .int .i64 (Mx.less left)] 50 by rw [hw17.out]; exact Bx.new _ _ _)
            have G17 := hide (G15.out.later B1517.out G15.out.lt)
            have O17 := hide (O13.out.later B1317.out O13.out.lt)
            have T17 := hide (T13.out.later B1317.out T13.out.lt)
            go_wp2_with fail
            rw [← hw17.out]
            refine (is_nil _ w17).mono ?_
            rintro e w17' ⟨rfl, rfl⟩
            rw [show ((0 : Int) == 0) = true from rfl]
            go_wp2_with fail
            refine (is_nil _ _).mono ?_
            rintro e w17'' ⟨rfl, rfl⟩
            rw [show ((0 : Int) == 0) = true from rfl]
            obtain ⟨p0, p1, p2⟩ := G17.out.three
            obtain ⟨q0, q1, q2⟩ := O17.out.three
            go_wp2_with fail
            refine (sameDisk_any a5 a6 a1 (some ad) n c5 (m + 1) c6 n k1 (m + 1) cc (Mx.less left) (left - 1) ls ls (ps ++ [⟨(j : Int), x⟩]) (ps ++ [⟨(j : Int), x⟩]) w17'' (hB14.out.later (B1415.out.trans (B1517.out.mono B1415.out.size))) (hP14.out.later (B1415.out.trans (B1517.out.mono B1415.out.size))) (P13.out.later B1317.out) (R13.out.later B1317.out) rfl rfl HLE.out).mono ?_
            rintro e w18 ⟨rfl, hb18⟩
            have HB18 := hide hb18
            clear p0 p1 p2 q0 q1 q2 hb18
            obtain ⟨p0, p1, p2⟩ := (H17.out.later HB18.out H17.out.lt).three
            obtain ⟨q0, q1, q2⟩ := (T17.out.later HB18.out T17.out.lt).three
            go_wp2_with fail
            refine (sameDisk_any a7 none (some ⟨gr, 0, none⟩) none n c7 0 0 n k3 0 0 (Mx.less left) (left - 1) (Mx.flushed ls ps) (Mx.flushed ls ps) [] [] w18 (hB16.out.later (B1617.out.trans (HB18.out.mono B1617.out.size))) (PL.nil _) (U13.out.later (B1317.out.trans (HB18.out.mono B1317.out.size))) (PL.nil _) rfl rfl HLE.out).mono ?_
            rintro e w19 ⟨rfl, hb19⟩
            go_wp2
            go_ret
            exact ⟨rfl, (B17.out.trans (HB18.out.mono B17.out.size)).trans (hb19.mono (by have := B17.out.size; have := HB18.out.size; omega))⟩
          · have hpd : decide (0 < left) = false := by simpa using hpos
            have HLE := hide (show Mx.less left = left by unfold Mx.less; rw [if_pos (by omega)])
            go_wp2_with fail
            obtain ⟨w13, hw13⟩ : ∃ w13 : World, Hid (w13 = wr.setCell ⟨w5'.heap.size + 1, 1, none⟩ (.slice none 0 0)) := ⟨_, rfl⟩
            rw [← hw13.out]
            have B13 := hide (show Below w.heap.size w w13 by rw [hw13.out]; exact Bwr.out.setCell (p := ⟨w5'.heap.size + 1, 1, none⟩) L7.out _)
            have X13 := hide (show Bx w13 w.heap.size #[.slice (some ⟨b, off, none⟩) n sc, .slice pa m pc, .int .i64 left] 50 by rw [hw13.out]; exact Xwr.out.other _ _ hne6)
            have O13 := hide (show Bx w13 w5'.heap.size #[.slice a1 n k1, .slice (some ad) (m + 1) cc, .int .i64 (left)] 50 by rw [hw13.out]; exact Owr.out.other _ _ hne7)
            have T13 := hide (show Bx w13 (w5'.heap.size + 1) #[.slice (some ⟨gr, 0, none⟩) n k3, .slice none 0 0, .int .i64 (left)] 50 by rw [hw13.out]; exact Twr.out.set 1 (.slice none 0 0))
            have P13 := hide (show BL w13 a1 n ls by
              rw [hw13.out]
              have q := own_ne_bx Pwr.out Twr.out (by decide)
              have q2 := own_ne_bx Pwr.out Owr.out (by decide)
              exact OwnBL.toBL (ownsRow_other Pwr.out _ _ q))
            have R13 := hide (show PL w13 (some ad) (m + 1) (ps ++ [⟨(j : Int), x⟩]) by
              rw [hw13.out]
              have q := own_ne_bx Rwr.out Twr.out (by decide)
              have q2 := own_ne_bx Rwr.out Owr.out (by decide)
              exact OwnPL.toPL (ownsRow_other Rwr.out _ _ q))
            have U13 := hide (show BL w13 (some ⟨gr, 0, none⟩) n (Mx.flushed ls ps) by
              rw [hw13.out]
              have q := own_ne_bx hFL.out Twr.out (by decide)
              have q2 := own_ne_bx hFL.out Owr.out (by decide)
              exact OwnBL.toBL (ownsRow_other hFL.out _ _ q))
            clear f0 f1 f2 t0 t1 t2 tz tl o0 o1 o2 oz x0 x1 x2 x3 x4 x5 x6 x7 hw13 Bwr Xwr Owr Twr Ywr Pwr Rwr hFL X12 Y12 O12 T12 P12 R12 U12 D12 E12
            refine (write_ok (some ⟨b, off, none⟩) pa n sc m pc left (j : Int) x ls ps w13 (HS.out.later B13.out) (HP.out.later B13.out) HL.out.1 HL.out.2 HWR.out).mono ?_
            rintro e w14 ⟨a5, c5, a6, c6, rfl, hB14, hP14, hb14⟩
            obtain ⟨w15, hw15⟩ : ∃ w15 : World, Hid (w15 = w14.alloc (.cells #[.slice a5 n c5, .slice a6 (m + 1) c6, .int .i64 (Mx.less left)] 50)) := ⟨_, rfl⟩
            have B1415 := hide (show Below w14.heap.size w14 w15 by rw [hw15.out]; exact below_alloc _ _)
            have B1315 := hide (hb14.out.trans (B1415.out.mono hb14.out.size))
            have G15 := hide (show Bx w15 w14.heap.size #[.slice a5 n c5, .slice a6 (m + 1) c6, .int .i64 (Mx.less left)] 50 by rw [hw15.out]; exact Bx.new _ _ _)
            have X15 := hide (X13.out.later B1315.out X13.out.lt)
            obtain ⟨f0, f1, f2⟩ := X15.out.three
            have X14 := hide (X13.out.later hb14.out X13.out.lt)
            obtain ⟨f0', f1', f2'⟩ := X14.out.three
            have hX14 := X14.out.lt
            go_wp2_with fail
            rw [← hw15.out]
            clear f0' f1' f2' hX14 f0 f1 f2
            have B15 := hide (B13.out.trans (B1315.out.mono B13.out.size))
            refine (flush_ok (some ⟨b, off, none⟩) pa n sc m pc left ls ps w15 (HS.out.later B15.out) (HP.out.later B15.out) HL.out.1 HL.out.2 HFL.out).mono ?_
            rintro e w16 ⟨a7, c7, rfl, hB16, hb16⟩
            obtain ⟨w17, hw17⟩ : ∃ w17 : World, Hid (w17 = w16.alloc (.cells #[.slice a7 n c7, .slice none 0 0, .int .i64 (Mx.less left)] 50)) := ⟨_, rfl⟩
            have B1617 := hide (show Below w16.heap.size w16 w17 by rw [hw17.out]; exact below_alloc _ _)
            have B1517 := hide (hb16.out.trans (B1617.out.mono hb16.out.size))
            have B1317 := hide (B1315.out.trans (B1517.out.mono B1315.out.size))
            have B17 := hide (B15.out.trans (B1517.out.mono B15.out.size))
            have H17 := hide (show Bx w17 w16.heap.size #[.slice a7 n c7, .slice none 0 0, .int .i64 (Mx.less left)] 50 by rw [hw17.out]; exact Bx.new _ _ _)
            have G17 := hide (G15.out.later B1517.out G15.out.lt)
            have O17 := hide (O13.out.later B1317.out O13.out.lt)
            have T17 := hide (T13.out.later B1317.out T13.out.lt)
            go_wp2_with fail
            rw [← hw17.out]
            refine (is_nil _ w17).mono ?_
            rintro e w17' ⟨rfl, rfl⟩
            rw [show ((0 : Int) == 0) = true from rfl]
            go_wp2_with fail
            refine (is_nil _ _).mono ?_
            rintro e w17'' ⟨rfl, rfl⟩
            rw [show ((0 : Int) == 0) = true from rfl]
            obtain ⟨p0, p1, p2⟩ := G17.out.three
            obtain ⟨q0, q1, q2⟩ := O17.out.three
            go_wp2_with fail
            refine (sameDisk_any a5 a6 a1 (some ad) n c5 (m + 1) c6 n k1 (m + 1) cc (Mx.less left) (left) ls ls (ps ++ [⟨(j : Int), x⟩]) (ps ++ [⟨(j : Int), x⟩]) w17'' (hB14.out.later (B1415.out.trans (B1517.out.mono B1415.out.size))) (hP14.out.later (B1415.out.trans (B1517.out.mono B1415.out.size))) (P13.out.later B1317.out) (R13.out.later B1317.out) rfl rfl HLE.out).mono ?_
            rintro e w18 ⟨rfl, hb18⟩
            have HB18 := hide hb18
            clear p0 p1 p2 q0 q1 q2 hb18
            obtain ⟨p0, p1, p2⟩ := (H17.out.later HB18.out H17.out.lt).three
            obtain ⟨q0, q1, q2⟩ := (T17.out.later HB18.out T17.out.lt).three
            go_wp2_with fail
            refine (sameDisk_any a7 none (some ⟨gr, 0, none⟩) none n c7 0 0 n k3 0 0 (Mx.less left) (left) (Mx.flushed ls ps) (Mx.flushed ls ps) [] [] w18 (hB16.out.later (B1617.out.trans (HB18.out.mono B1617.out.size))) (PL.nil _) (U13.out.later (B1317.out.trans (HB18.out.mono B1317.out.size))) (PL.nil _) rfl rfl HLE.out).mono ?_
            rintro e w19 ⟨rfl, hb19⟩
            go_wp2
            go_ret
            exact ⟨rfl, (B17.out.trans (HB18.out.mono B17.out.size)).trans (hb19.mono (by have := B17.out.size; have := HB18.out.size; omega))⟩
end Go.Proofs.Ytengpogcdnbabaa
