/-
  For every disk and all bytes, what a crash leaves, and a new disk, are what B1 and B3 say (DiskCrash): the walk.
-/
import Derived.Test.YtengpogcdnbabaaKr
import Derived.Test.YtengpogcdnbabaaKn
import Derived.Test.YtengpogcdnbabaaDsame
namespace Go.Proofs.Ytengpogcdnbabaa
open Go.RowKit

set_option maxHeartbeats 8000000 in
set_option maxRecDepth 100000 in
theorem dcrash_ok (sa pa ba : Option Addr) (n sc m pc nb bc : Nat) (left x : Int) (ls : List B8) (ps : List Pt) (bs : List Int) (w : World) (hs : BL w sa n ls) (hp : PL w pa m ps) (hi : Ints w ba nb bs) (hbd : ∀ z ∈ bs, -9223372036854775808 ≤ z ∧ z ≤ 9223372036854775807) (hn3 : n ≤ 300) (hm9 : m ≤ 900) (hb2 : nb ≤ 2000)
    (hmay : Mx.dmay n ps = 0) :
    Calls Try.prog 7 #[.agg #[.slice sa n sc, .slice pa m pc, .int .i64 left], .slice ba nb bc, .int .i64 x] w fun e w' => e = .returned (.bool true) ∧ Below w.heap.size w w' := by
  have HM := hide hmay
  have HS := hide hs
  have HP := hide hp
  have HI := hide hi
  have HBD := hide hbd
  have HNN := hide (show n ≤ maxLen from hs.2.2.1)
  clear hs hp hi hbd hmay
  have h300 : ¬ (300 : Int) < n := by omega
  have h900 : ¬ (900 : Int) < m := by omega
  have h2000 : ¬ (2000 : Int) < nb := by omega
  go_enter Try.func7, Try.ntmps7
  go_wp2_with fail
  obtain ⟨w0, hw0⟩ : ∃ w0 : World, Hid (w0 = w.alloc (.cells #[.slice sa n sc, .slice pa m pc, .int .i64 left] 50)) := ⟨_, rfl⟩
  rw [← hw0.out]
  have B0 := hide (show Below w.heap.size w w0 by rw [hw0.out]; exact below_alloc _ _)
  have X0 := hide (show Bx w0 w.heap.size #[.slice sa n sc, .slice pa m pc, .int .i64 left] 50 by rw [hw0.out]; exact Bx.new w _ 50)
  refine (diskMay_any sa pa n sc m pc left ps w0 (HP.out.later B0.out) HNN.out).mono ?_
  rintro e w1 ⟨rfl, hb1⟩
  rw [HM.out]
  have B1 := hide (B0.out.trans (hb1.mono B0.out.size))
  have X1 := hide (X0.out.later hb1 X0.out.lt)
  clear hb1
  obtain ⟨f0, f1, f2⟩ := X1.out.three
  have hX1 := X1.out.lt
  obtain ⟨gt, hgt⟩ : ∃ gt, Hid (gt = w1.heap.size) := ⟨_, rfl⟩
  obtain ⟨w2, hw2⟩ : ∃ w2 : World, Hid (w2 = w1.alloc (.cells #[.slice none 0 0, .slice none 0 0, .int .i64 0] 50)) := ⟨_, rfl⟩
  have B2 := hide (show Below w.heap.size w w2 by rw [hw2.out]; exact B1.out.alloc B1.out.size _)
  have X2 := hide (show Bx w2 w.heap.size #[.slice sa n sc, .slice pa m pc, .int .i64 left] 50 by rw [hw2.out]; exact X1.out.alloc _)
  have T2 := hide (show Bx w2 gt #[.slice none 0 0, .slice none 0 0, .int .i64 0] 50 by rw [hw2.out, hgt.out]; exact Bx.new _ _ _)
  have hgw : ¬ gt = w.heap.size := by rw [hgt.out]; omega
  have hgw2 : ¬ w.heap.size = gt := fun e => hgw e.symm
  have hgl : w.heap.size ≤ gt := by rw [hgt.out]; omega
  go_wp2_with fail
  rw [← hw2.out, ← hgt.out]
  clear f0 f1 f2 hX1
  refine (crashed_any sa pa ba n sc m pc nb bc left ls ps bs w2 (HS.out.later B2.out) (HP.out.later B2.out) (HI.out.later B2.out) HBD.out HM.out).mono ?_
  rintro e w3 ⟨a1, c1, rfl, hO, hb3⟩
  have B3 := hide (B2.out.trans (hb3.out.mono B2.out.size))
  have X3 := hide (X2.out.later hb3.out X2.out.lt)
  have T3 := hide (T2.out.later hb3.out T2.out.lt)
  obtain ⟨f0, f1, f2⟩ := X3.out.three
  obtain ⟨g0, g1, g2⟩ := T3.out.three
  have gz := T3.out.frozen
  obtain ⟨w4, hw4⟩ : ∃ w4 : World, Hid (w4 = ((w3.setCell ⟨gt, 0, none⟩ (.slice a1 n c1)).setCell ⟨gt, 1, none⟩ (.slice none 0 0)).setCell ⟨gt, 2, none⟩ (.int .i64 (-1))) := ⟨_, rfl⟩
  have B4 := hide (show Below w.heap.size w w4 by rw [hw4.out]; exact ((B3.out.setCell (p := ⟨gt, 0, none⟩) hgl _).setCell (p := ⟨gt, 1, none⟩) hgl _).setCell (p := ⟨gt, 2, none⟩) hgl _)
  have X4 := hide (show Bx w4 w.heap.size #[.slice sa n sc, .slice pa m pc, .int .i64 left] 50 by rw [hw4.out]; exact ((X3.out.other _ _ hgw2).other _ _ hgw2).other _ _ hgw2)
  have T4 := hide (show Bx w4 gt #[.slice a1 n c1, .slice none 0 0, .int .i64 (-1)] 50 by rw [hw4.out]; exact ((T3.out.set 0 (.slice a1 n c1)).set 1 (.slice none 0 0)).set 2 (.int .i64 (-1)))
  have O4 := hide (show BL w4 a1 n (Mx.crash ls ps bs) by
    rw [hw4.out]
    have q := own_ne_bx hO.out T3.out (by decide)
    exact OwnBL.asRow (ownsRow_other (ownsRow_other (ownsRow_other hO.out _ _ q) _ _ q) _ _ q))
  go_upto_region 7 with fail
  rw [← hw4.out]
  clear f0 f1 f2 g0 g1 g2 gz X3 T3 hO
  obtain ⟨f0, f1, f2⟩ := X4.out.three
  go_wp2_with fail
  refine (crash_any sa pa ba n sc m pc nb bc left ls ps bs w4 (HS.out.later B4.out) (HP.out.later B4.out) (HI.out.later B4.out) HBD.out HM.out).mono ?_
  rintro e w5 ⟨a2, c2, rfl, hO5, hb5⟩
  obtain ⟨w6, hw6⟩ : ∃ w6 : World, Hid (w6 = w5.alloc (.cells #[.slice a2 n c2, .slice none 0 0, .int .i64 (-1)] 50)) := ⟨_, rfl⟩
  have B56 := hide (show Below w5.heap.size w5 w6 by rw [hw6.out]; exact below_alloc _ _)
  have B46 := hide (hb5.out.trans (B56.out.mono hb5.out.size))
  have B6 := hide (B4.out.trans (B46.out.mono B4.out.size))
  have Y6 := hide (show Bx w6 w5.heap.size #[.slice a2 n c2, .slice none 0 0, .int .i64 (-1)] 50 by rw [hw6.out]; exact Bx.new _ _ _)
  have T6 := hide (T4.out.later B46.out T4.out.lt)
  clear f0 f1 f2
  go_wp2_with fail
  rw [← hw6.out]
  refine (is_nil _ w6).mono ?_
  rintro e w6' ⟨rfl, rfl⟩
  rw [show ((0 : Int) == 0) = true from rfl]
  obtain ⟨p0, p1, p2⟩ := Y6.out.three
  obtain ⟨q0, q1, q2⟩ := T6.out.three
  go_wp2_with fail
  refine (sameDisk_any a2 none a1 none n c2 0 0 n c1 0 0 (-1) (-1) (Mx.crash ls ps bs) (Mx.crash ls ps bs) [] [] w6' (hO5.out.later B56.out) (PL.nil _) (O4.out.later B46.out) (PL.nil _) rfl rfl rfl).mono ?_
  rintro e w7 ⟨rfl, hb7⟩
  have B7 := hide (B6.out.trans (hb7.mono B6.out.size))
  clear hb7 p0 p1 p2 q0 q1 q2
  by_cases hx1 : x < 1
  · have hd1 : decide (x < 1) = true := by simpa using hx1
    go_wp2_with fail
    refine (new_err x w7 (by omega)).mono ?_
    rintro e w8 ⟨rfl, hb8⟩
    have B8 := hide (B7.out.trans (hb8.mono B7.out.size))
    clear hb8
    obtain ⟨w9, hw9⟩ : ∃ w9 : World, Hid (w9 = w8.alloc (.cells #[.slice none 0 0, .slice none 0 0, .int .i64 0] 50)) := ⟨_, rfl⟩
    have B9 := hide (show Below w.heap.size w w9 by rw [hw9.out]; exact B8.out.alloc B8.out.size _)
    have Y9 := hide (show Bx w9 w8.heap.size #[.slice none 0 0, .slice none 0 0, .int .i64 0] 50 by rw [hw9.out]; exact Bx.new _ _ _)
    obtain ⟨y0, y1, y2⟩ := Y9.out.three
    have he : ∀ (a b : Int) (W : World), (binOp .eql 31 (.iface 26 (.int .i64 a)) (.iface 26 (.int .i64 b))).run Try.prog W = .ok (.bool (a == b)) W :=
      fun a b W => Lib.run_eql_iface_int W a b Try.underlying31 (by kernel_rfl) Try.underlying26
    go_upto_region 12 with fail
    rw [← hw9.out]
    go_wp2_with fail
    refine (sameDisk_any none none none none 0 0 0 0 0 0 0 0 0 0 [] [] [] [] w9 (BL.nil _) (PL.nil _) (BL.nil _) (PL.nil _) rfl rfl rfl).mono ?_
    rintro e w10 ⟨rfl, hb10⟩
    go_wp2
    go_ret
    exact ⟨rfl, B9.out.trans (hb10.mono B9.out.size)⟩
  · by_cases hx2 : 200 < x
    · have hd1 : decide (x < 1) = false := by simpa using hx1
      have hd2 : decide (200 < x) = true := by simpa using hx2
      go_wp2_with fail
      refine (new_err x w7 (by omega)).mono ?_
      rintro e w8 ⟨rfl, hb8⟩
      have B8 := hide (B7.out.trans (hb8.mono B7.out.size))
      clear hb8
      obtain ⟨w9, hw9⟩ : ∃ w9 : World, Hid (w9 = w8.alloc (.cells #[.slice none 0 0, .slice none 0 0, .int .i64 0] 50)) := ⟨_, rfl⟩
      have B9 := hide (show Below w.heap.size w w9 by rw [hw9.out]; exact B8.out.alloc B8.out.size _)
      have Y9 := hide (show Bx w9 w8.heap.size #[.slice none 0 0, .slice none 0 0, .int .i64 0] 50 by rw [hw9.out]; exact Bx.new _ _ _)
      obtain ⟨y0, y1, y2⟩ := Y9.out.three
      have he : ∀ (a b : Int) (W : World), (binOp .eql 31 (.iface 26 (.int .i64 a)) (.iface 26 (.int .i64 b))).run Try.prog W = .ok (.bool (a == b)) W :=
        fun a b W => Lib.run_eql_iface_int W a b Try.underlying31 (by kernel_rfl) Try.underlying26
      go_upto_region 12 with fail
      rw [← hw9.out]
      go_wp2_with fail
      refine (sameDisk_any none none none none 0 0 0 0 0 0 0 0 0 0 [] [] [] [] w9 (BL.nil _) (PL.nil _) (BL.nil _) (PL.nil _) rfl rfl rfl).mono ?_
      rintro e w10 ⟨rfl, hb10⟩
      go_wp2
      go_ret
      exact ⟨rfl, B9.out.trans (hb10.mono B9.out.size)⟩
    · skip
      obtain ⟨nn, hnn⟩ := Int.eq_ofNat_of_zero_le (show 0 ≤ x by omega)
      subst hnn
      have hd1 : decide ((nn : Int) < 1) = false := by simp; omega
      have hd2 : decide ((200 : Int) < nn) = false := by simp; omega
      obtain ⟨C, hC, HC⟩ := make_blocks nn (by omega)
      go_wp2_with fail
      refine (new_ok nn w7 (by omega) (by omega)).mono ?_
      rintro e w8 ⟨a8, c8, rfl, hN8, hb8⟩
      have B8 := hide (B7.out.trans (hb8.out.mono B7.out.size))
      obtain ⟨w9, hw9⟩ : ∃ w9 : World, Hid (w9 = w8.alloc (.cells #[.slice a8 nn c8, .slice none 0 0, .int .i64 (-1)] 50)) := ⟨_, rfl⟩
      have B89 := hide (show Below w8.heap.size w8 w9 by rw [hw9.out]; exact below_alloc _ _)
      have B9 := hide (B8.out.trans (B89.out.mono B8.out.size))
      have Y9 := hide (show Bx w9 w8.heap.size #[.slice a8 nn c8, .slice none 0 0, .int .i64 (-1)] 50 by rw [hw9.out]; exact Bx.new _ _ _)
      have N9 := hide (hN8.out.later B89.out)
      obtain ⟨y0, y1, y2⟩ := Y9.out.three
      go_upto_region 13 with fail
      rw [← hw9.out]
      go_region_held3 (fun w' => w'.cell? ⟨w8.heap.size, 0, none⟩ = some (.slice a8 nn c8) ∧ w'.cell? ⟨w8.heap.size, 1, none⟩ = some (.slice none 0 0) ∧ w'.cell? ⟨w8.heap.size, 2, none⟩ = some (.int .i64 (-1)))
        (first | exact ⟨y0, y1, y2⟩ | exact (Bx.drewH (Y9.out.alloc _)).three | exact ⟨q0, q1, q2⟩)
        (first
        | (go_at_call 32; refine (sameDisk_any a8 none (some ⟨w9.heap.size, 0, none⟩) none nn c8 0 0 nn nn 0 0 (-1) (-1) (List.replicate nn zB) (List.replicate nn zB) [] [] (w9.alloc (.cells C 52)).drew ((N9.out.later (below_alloc _ _)).later (Below.refl _ _).drew) (PL.nil _) ((HC.out w9 w9.heap.size (Nat.le_refl _)).asRow.later (Below.refl _ _).drew) (PL.nil _) rfl rfl rfl).mono ?_; rintro e w10 ⟨rfl, hb10⟩; obtain ⟨q0, q1, q2⟩ := ((Bx.drewH (Y9.out.alloc (.cells C 52))).later hb10 (Bx.drewH (Y9.out.alloc (.cells C 52))).lt).three))
      all_goals
        go_wp2
        go_ret
        exact ⟨rfl, ((B9.out.alloc B9.out.size _).drew.trans (hb10.mono (B9.out.alloc B9.out.size (.cells C 52)).drew.size))⟩

set_option maxHeartbeats 8000000 in
set_option maxRecDepth 100000 in
theorem dcrash_err (sa pa ba : Option Addr) (n sc m pc nb bc : Nat) (left x : Int) (ls : List B8) (ps : List Pt) (bs : List Int) (w : World) (hs : BL w sa n ls) (hp : PL w pa m ps) (_hi : Ints w ba nb bs) (_hbd : ∀ z ∈ bs, -9223372036854775808 ≤ z ∧ z ≤ 9223372036854775807) (hn3 : n ≤ 300) (hm9 : m ≤ 900) (hb2 : nb ≤ 2000)
    (E : Int) (hmay : Mx.dmay n ps = E) (hE : ¬ E = 0) :
    Calls Try.prog 7 #[.agg #[.slice sa n sc, .slice pa m pc, .int .i64 left], .slice ba nb bc, .int .i64 x] w fun e w' => e = .returned (.bool true) ∧ Below w.heap.size w w' := by
  have HM := hide hmay
  have HE := hide hE
  have hE0 : (E == 0) = false := by simpa using hE
  have HP := hide hp
  have HNN := hide (show n ≤ maxLen from hs.2.2.1)
  clear hs hp hmay hE
  have h300 : ¬ (300 : Int) < n := by omega
  have h900 : ¬ (900 : Int) < m := by omega
  have h2000 : ¬ (2000 : Int) < nb := by omega
  go_enter Try.func7, Try.ntmps7
  go_wp2_with fail
  obtain ⟨w0, hw0⟩ : ∃ w0 : World, Hid (w0 = w.alloc (.cells #[.slice sa n sc, .slice pa m pc, .int .i64 left] 50)) := ⟨_, rfl⟩
  rw [← hw0.out]
  have B0 := hide (show Below w.heap.size w w0 by rw [hw0.out]; exact below_alloc _ _)
  have X0 := hide (show Bx w0 w.heap.size #[.slice sa n sc, .slice pa m pc, .int .i64 left] 50 by rw [hw0.out]; exact Bx.new w _ 50)
  refine (diskMay_any sa pa n sc m pc left ps w0 (HP.out.later B0.out) HNN.out).mono ?_
  rintro e w1 ⟨rfl, hb1⟩
  rw [HM.out]
  have B1 := hide (B0.out.trans (hb1.mono B0.out.size))
  have X1 := hide (X0.out.later hb1 X0.out.lt)
  clear hb1
  obtain ⟨f0, f1, f2⟩ := X1.out.three
  have hX1 := X1.out.lt
  obtain ⟨gt, hgt⟩ : ∃ gt, Hid (gt = w1.heap.size) := ⟨_, rfl⟩
  obtain ⟨w2, hw2⟩ : ∃ w2 : World, Hid (w2 = w1.alloc (.cells #[.slice none 0 0, .slice none 0 0, .int .i64 0] 50)) := ⟨_, rfl⟩
  have B2 := hide (show Below w.heap.size w w2 by rw [hw2.out]; exact B1.out.alloc B1.out.size _)
  have X2 := hide (show Bx w2 w.heap.size #[.slice sa n sc, .slice pa m pc, .int .i64 left] 50 by rw [hw2.out]; exact X1.out.alloc _)
  have T2 := hide (show Bx w2 gt #[.slice none 0 0, .slice none 0 0, .int .i64 0] 50 by rw [hw2.out, hgt.out]; exact Bx.new _ _ _)
  have hgw : ¬ gt = w.heap.size := by rw [hgt.out]; omega
  have hgw2 : ¬ w.heap.size = gt := fun e => hgw e.symm
  have hgl : w.heap.size ≤ gt := by rw [hgt.out]; omega
  go_wp2_with fail
  rw [← hw2.out, ← hgt.out]
  clear f0 f1 f2 hX1
  refine (crash_err sa pa ba n sc m pc nb bc left ps w2 HNN.out (HP.out.later B2.out) (by rw [HM.out]; exact HE.out)).mono ?_
  rintro e w5 ⟨rfl, hb5⟩
  rw [HM.out]
  obtain ⟨w6, hw6⟩ : ∃ w6 : World, Hid (w6 = w5.alloc (.cells #[.slice none 0 0, .slice none 0 0, .int .i64 0] 50)) := ⟨_, rfl⟩
  have B56 := hide (show Below w5.heap.size w5 w6 by rw [hw6.out]; exact below_alloc _ _)
  have B26 := hide (hb5.trans (B56.out.mono hb5.size))
  have B6 := hide (B2.out.trans (B26.out.mono B2.out.size))
  have Y6 := hide (show Bx w6 w5.heap.size #[.slice none 0 0, .slice none 0 0, .int .i64 0] 50 by rw [hw6.out]; exact Bx.new _ _ _)
  have T6 := hide (T2.out.later B26.out T2.out.lt)
  clear hb5
  go_wp2_with fail
  rw [← hw6.out]
  refine (is_any E E w6).mono ?_
  rintro e w6' ⟨rfl, rfl⟩
  rw [beq_self_eq_true]
  obtain ⟨p0, p1, p2⟩ := Y6.out.three
  obtain ⟨q0, q1, q2⟩ := T6.out.three
  go_wp2_with fail
  refine (sameDisk_any none none none none 0 0 0 0 0 0 0 0 0 0 [] [] [] [] w6' (BL.nil _) (PL.nil _) (BL.nil _) (PL.nil _) rfl rfl rfl).mono ?_
  rintro e w7 ⟨rfl, hb7⟩
  have B7 := hide (B6.out.trans (hb7.mono B6.out.size))
  clear hb7 p0 p1 p2 q0 q1 q2
  by_cases hx1 : x < 1
  · have hd1 : decide (x < 1) = true := by simpa using hx1
    go_wp2_with fail
    refine (new_err x w7 (by omega)).mono ?_
    rintro e w8 ⟨rfl, hb8⟩
    have B8 := hide (B7.out.trans (hb8.mono B7.out.size))
    clear hb8
    obtain ⟨w9, hw9⟩ : ∃ w9 : World, Hid (w9 = w8.alloc (.cells #[.slice none 0 0, .slice none 0 0, .int .i64 0] 50)) := ⟨_, rfl⟩
    have B9 := hide (show Below w.heap.size w w9 by rw [hw9.out]; exact B8.out.alloc B8.out.size _)
    have Y9 := hide (show Bx w9 w8.heap.size #[.slice none 0 0, .slice none 0 0, .int .i64 0] 50 by rw [hw9.out]; exact Bx.new _ _ _)
    obtain ⟨y0, y1, y2⟩ := Y9.out.three
    have he : ∀ (a b : Int) (W : World), (binOp .eql 31 (.iface 26 (.int .i64 a)) (.iface 26 (.int .i64 b))).run Try.prog W = .ok (.bool (a == b)) W :=
      fun a b W => Lib.run_eql_iface_int W a b Try.underlying31 (by kernel_rfl) Try.underlying26
    go_upto_region 12 with fail
    rw [← hw9.out]
    go_wp2_with fail
    refine (sameDisk_any none none none none 0 0 0 0 0 0 0 0 0 0 [] [] [] [] w9 (BL.nil _) (PL.nil _) (BL.nil _) (PL.nil _) rfl rfl rfl).mono ?_
    rintro e w10 ⟨rfl, hb10⟩
    go_wp2
    go_ret
    exact ⟨rfl, B9.out.trans (hb10.mono B9.out.size)⟩
  · by_cases hx2 : 200 < x
    · have hd1 : decide (x < 1) = false := by simpa using hx1
      have hd2 : decide (200 < x) = true := by simpa using hx2
      go_wp2_with fail
      refine (new_err x w7 (by omega)).mono ?_
      rintro e w8 ⟨rfl, hb8⟩
      have B8 := hide (B7.out.trans (hb8.mono B7.out.size))
      clear hb8
      obtain ⟨w9, hw9⟩ : ∃ w9 : World, Hid (w9 = w8.alloc (.cells #[.slice none 0 0, .slice none 0 0, .int .i64 0] 50)) := ⟨_, rfl⟩
      have B9 := hide (show Below w.heap.size w w9 by rw [hw9.out]; exact B8.out.alloc B8.out.size _)
      have Y9 := hide (show Bx w9 w8.heap.size #[.slice none 0 0, .slice none 0 0, .int .i64 0] 50 by rw [hw9.out]; exact Bx.new _ _ _)
      obtain ⟨y0, y1, y2⟩ := Y9.out.three
      have he : ∀ (a b : Int) (W : World), (binOp .eql 31 (.iface 26 (.int .i64 a)) (.iface 26 (.int .i64 b))).run Try.prog W = .ok (.bool (a == b)) W :=
        fun a b W => Lib.run_eql_iface_int W a b Try.underlying31 (by kernel_rfl) Try.underlying26
      go_upto_region 12 with fail
      rw [← hw9.out]
      go_wp2_with fail
      refine (sameDisk_any none none none none 0 0 0 0 0 0 0 0 0 0 [] [] [] [] w9 (BL.nil _) (PL.nil _) (BL.nil _) (PL.nil _) rfl rfl rfl).mono ?_
      rintro e w10 ⟨rfl, hb10⟩
      go_wp2
      go_ret
      exact ⟨rfl, B9.out.trans (hb10.mono B9.out.size)⟩
    · skip
      obtain ⟨nn, hnn⟩ := Int.eq_ofNat_of_zero_le (show 0 ≤ x by omega)
      subst hnn
      have hd1 : decide ((nn : Int) < 1) = false := by simp; omega
      have hd2 : decide ((200 : Int) < nn) = false := by simp; omega
      obtain ⟨C, hC, HC⟩ := make_blocks nn (by omega)
      go_wp2_with fail
      refine (new_ok nn w7 (by omega) (by omega)).mono ?_
      rintro e w8 ⟨a8, c8, rfl, hN8, hb8⟩
      have B8 := hide (B7.out.trans (hb8.out.mono B7.out.size))
      obtain ⟨w9, hw9⟩ : ∃ w9 : World, Hid (w9 = w8.alloc (.cells #[.slice a8 nn c8, .slice none 0 0, .int .i64 (-1)] 50)) := ⟨_, rfl⟩
      have B89 := hide (show Below w8.heap.size w8 w9 by rw [hw9.out]; exact below_alloc _ _)
      have B9 := hide (B8.out.trans (B89.out.mono B8.out.size))
      have Y9 := hide (show Bx w9 w8.heap.size #[.slice a8 nn c8, .slice none 0 0, .int .i64 (-1)] 50 by rw [hw9.out]; exact Bx.new _ _ _)
      have N9 := hide (hN8.out.later B89.out)
      obtain ⟨y0, y1, y2⟩ := Y9.out.three
      go_upto_region 13 with fail
      rw [← hw9.out]
      go_region_held3 (fun w' => w'.cell? ⟨w8.heap.size, 0, none⟩ = some (.slice a8 nn c8) ∧ w'.cell? ⟨w8.heap.size, 1, none⟩ = some (.slice none 0 0) ∧ w'.cell? ⟨w8.heap.size, 2, none⟩ = some (.int .i64 (-1)))
        (first | exact ⟨y0, y1, y2⟩ | exact (Bx.drewH (Y9.out.alloc _)).three | exact ⟨q0, q1, q2⟩)
        (first
        | (go_at_call 32; refine (sameDisk_any a8 none (some ⟨w9.heap.size, 0, none⟩) none nn c8 0 0 nn nn 0 0 (-1) (-1) (List.replicate nn zB) (List.replicate nn zB) [] [] (w9.alloc (.cells C 52)).drew ((N9.out.later (below_alloc _ _)).later (Below.refl _ _).drew) (PL.nil _) ((HC.out w9 w9.heap.size (Nat.le_refl _)).asRow.later (Below.refl _ _).drew) (PL.nil _) rfl rfl rfl).mono ?_; rintro e w10 ⟨rfl, hb10⟩; obtain ⟨q0, q1, q2⟩ := ((Bx.drewH (Y9.out.alloc (.cells C 52))).later hb10 (Bx.drewH (Y9.out.alloc (.cells C 52))).lt).three))
      all_goals
        go_wp2
        go_ret
        exact ⟨rfl, ((B9.out.alloc B9.out.size _).drew.trans (hb10.mono (B9.out.alloc B9.out.size (.cells C 52)).drew.size))⟩

set_option maxRecDepth 100000 in
theorem dcrash_big (sa pa ba : Option Addr) (n sc m pc nb bc : Nat) (left x : Int) (w : World) (h : 300 < n ∨ 900 < m ∨ 2000 < nb) :
    Calls Try.prog 7 #[.agg #[.slice sa n sc, .slice pa m pc, .int .i64 left], .slice ba nb bc, .int .i64 x] w fun e w' => e = .returned (.bool true) ∧ Below w.heap.size w w' := by
  by_cases h1 : (300 : Int) < n
  · clear h
    go_enter Try.func7, Try.ntmps7
    go_wp2
    go_ret
    exact ⟨rfl, below_alloc _ _⟩
  · by_cases h2 : (900 : Int) < m
    · clear h
      go_enter Try.func7, Try.ntmps7
      go_wp2
      go_ret
      exact ⟨rfl, below_alloc _ _⟩
    · have h3 : (2000 : Int) < nb := by omega
      clear h
      go_enter Try.func7, Try.ntmps7
      go_wp2
      go_ret
      exact ⟨rfl, below_alloc _ _⟩

theorem dcrash_any (sa pa ba : Option Addr) (n sc m pc nb bc : Nat) (left x : Int) (ls : List B8) (ps : List Pt) (bs : List Int) (w : World) (hs : BL w sa n ls) (hp : PL w pa m ps) (hi : Ints w ba nb bs) (hbd : ∀ z ∈ bs, -9223372036854775808 ≤ z ∧ z ≤ 9223372036854775807) :
    Calls Try.prog 7 #[.agg #[.slice sa n sc, .slice pa m pc, .int .i64 left], .slice ba nb bc, .int .i64 x] w fun e w' => e = .returned (.bool true) ∧ Below w.heap.size w w' := by
  by_cases hbig : 300 < n ∨ 900 < m ∨ 2000 < nb
  · exact dcrash_big sa pa ba n sc m pc nb bc left x w hbig
  by_cases hmay : Mx.dmay n ps = 0
  · exact dcrash_ok sa pa ba n sc m pc nb bc left x ls ps bs w hs hp hi hbd (by omega) (by omega) (by omega) hmay
  · exact dcrash_err sa pa ba n sc m pc nb bc left x ls ps bs w hs hp hi hbd (by omega) (by omega) (by omega) _ rfl hmay

end Go.Proofs.Ytengpogcdnbabaa
