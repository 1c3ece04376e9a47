/-
  For every list of blocks, whether it may be what was had, and a block touched, are what E2 says (CacheHad): the walk.
-/
import Derived.Test.YtengpogcdnbabaaHt
import Derived.Test.YtengpogcdnbabaaIs
namespace Go.Proofs.Ytengpogcdnbabaa
open Go.RowKit

set_option maxRecDepth 100000 in
theorem chad_big (a : Option Addr) (n c : Nat) (x : B8) (w : World) (h : (100 : Int) < n) :
    Calls Try.prog 13 #[.slice a n c, .agg #[.int .u8 x.z0, .int .u8 x.z1, .int .u8 x.z2, .int .u8 x.z3, .int .u8 x.z4, .int .u8 x.z5, .int .u8 x.z6, .int .u8 x.z7]] w fun e w' => e = .returned (.bool true) ∧ Below w.heap.size w w' := by
  go_enter Try.func13, Try.ntmps13
  go_wp2
  go_ret
  exact ⟨rfl, below_alloc _ _⟩

set_option maxHeartbeats 4000000 in
set_option maxRecDepth 100000 in
theorem chad_ok (a : Option Addr) (n c : Nat) (l : List B8) (x : B8) (w : World) (hl : BL w a n l) (hc : n ≤ c) (hE : Mx.hmay l = 0) (hn : ¬ (100 : Int) < n) :
    Calls Try.prog 13 #[.slice a n c, .agg #[.int .u8 x.z0, .int .u8 x.z1, .int .u8 x.z2, .int .u8 x.z3, .int .u8 x.z4, .int .u8 x.z5, .int .u8 x.z6, .int .u8 x.z7]] w fun e w' => e = .returned (.bool true) ∧ Below w.heap.size w w' := by
  have HL := hide hl
  have HE := hide hE
  clear hl hE
  go_enter Try.func13, Try.ntmps13
  go_wp2_with fail
  obtain ⟨w0, hw0⟩ : ∃ w0 : World, Hid (w0 = w.alloc (.cells #[.int .u8 x.z0, .int .u8 x.z1, .int .u8 x.z2, .int .u8 x.z3, .int .u8 x.z4, .int .u8 x.z5, .int .u8 x.z6, .int .u8 x.z7] 52)) := ⟨_, rfl⟩
  rw [← hw0.out]
  have B0 := hide (show Below w.heap.size w w0 by rw [hw0.out]; exact below_alloc _ _)
  have X0 := hide (show Bx w0 w.heap.size #[.int .u8 x.z0, .int .u8 x.z1, .int .u8 x.z2, .int .u8 x.z3, .int .u8 x.z4, .int .u8 x.z5, .int .u8 x.z6, .int .u8 x.z7] 52 by rw [hw0.out]; exact Bx.new _ _ _)
  refine (hadMay_any a n c l w0 (HL.out.later B0.out)).mono ?_
  rintro e w1 ⟨rfl, hb1⟩
  rw [HE.out]
  have B1 := hide (B0.out.trans (hb1.mono B0.out.size))
  have X1 := hide (X0.out.later hb1 X0.out.lt)
  clear hb1
  obtain ⟨f0, f1, f2, f3, f4, f5, f6, f7⟩ := X1.out.eight
  go_wp2_with fail
  refine (touched_any a n c l x w1 (HL.out.later B1.out)).mono ?_
  rintro e w2 ⟨g, c', rfl, hO, hb2⟩
  obtain ⟨T, hT⟩ : ∃ T, Hid (T = Mx.touched l x) := ⟨_, rfl⟩
  rw [← hT.out] at hO ⊢
  obtain ⟨m, hm⟩ : ∃ m, Hid (m = T.length) := ⟨_, rfl⟩
  rw [← hm.out] at hO ⊢
  have B2 := hide (B1.out.trans (hb2.out.mono B1.out.size))
  have X2 := hide (X1.out.later hb2.out X1.out.lt)
  clear f0 f1 f2 f3 f4 f5 f6 f7
  obtain ⟨f0, f1, f2, f3, f4, f5, f6, f7⟩ := X2.out.eight
  go_wp2_with fail
  refine (touch_any a n c l x w2 (HL.out.later B2.out) hc HE.out).mono ?_
  rintro e w3 ⟨g2, c2, rfl, hO2, hb3⟩
  rw [← hT.out] at hO2 ⊢
  rw [← hm.out] at hO2 ⊢
  have B3 := hide (B2.out.trans (hb3.out.mono B2.out.size))
  clear f0 f1 f2 f3 f4 f5 f6 f7
  go_wp2_with fail
  refine (ccheck_any a n c l w3 (HL.out.later B3.out) hc).mono ?_
  rintro e w4 ⟨rfl, hb4⟩
  rw [HE.out, show errV 0 = Value.nilIface from rfl]
  have HB4 := hide hb4
  have B4 := hide (B3.out.trans (hb4.mono B3.out.size))
  clear hb4
  go_wp2_with fail
  refine (is_nil _ w4).mono ?_
  rintro e w4' ⟨rfl, rfl⟩
  rw [show ((0 : Int) == 0) = true from rfl]
  go_wp2_with fail
  refine (is_nil _ _).mono ?_
  rintro e w4'' ⟨rfl, rfl⟩
  rw [show ((0 : Int) == 0) = true from rfl]
  go_wp2_with fail
  refine (sameBL_gen (some ⟨g2, 0, none⟩) (some ⟨g, 0, none⟩) m c2 m c' T T w4'' (hO2.out.asBL.later HB4.out) ((hO.out.asBL.later hb3.out).later HB4.out)).mono ?_
  rintro e w5 ⟨r, rfl, hr, q, rfl⟩
  obtain rfl : r = true := hr.2 rfl
  go_wp2
  go_ret
  exact ⟨rfl, below_drewN B4.out _⟩

set_option maxHeartbeats 4000000 in
set_option maxRecDepth 100000 in
theorem chad_err (a : Option Addr) (n c : Nat) (l : List B8) (x : B8) (w : World) (hl : BL w a n l) (hc : n ≤ c) (E : Int) (hE : Mx.hmay l = E) (h0 : ¬ E = 0) (hn : ¬ (100 : Int) < n) :
    Calls Try.prog 13 #[.slice a n c, .agg #[.int .u8 x.z0, .int .u8 x.z1, .int .u8 x.z2, .int .u8 x.z3, .int .u8 x.z4, .int .u8 x.z5, .int .u8 x.z6, .int .u8 x.z7]] w fun e w' => e = .returned (.bool true) ∧ Below w.heap.size w w' := by
  have HL := hide hl
  have HE := hide hE
  have H0 := hide h0
  have hE0 : (E == 0) = false := by simpa using h0
  clear hl hE h0
  go_enter Try.func13, Try.ntmps13
  go_wp2_with fail
  obtain ⟨w0, hw0⟩ : ∃ w0 : World, Hid (w0 = w.alloc (.cells #[.int .u8 x.z0, .int .u8 x.z1, .int .u8 x.z2, .int .u8 x.z3, .int .u8 x.z4, .int .u8 x.z5, .int .u8 x.z6, .int .u8 x.z7] 52)) := ⟨_, rfl⟩
  rw [← hw0.out]
  have B0 := hide (show Below w.heap.size w w0 by rw [hw0.out]; exact below_alloc _ _)
  have X0 := hide (show Bx w0 w.heap.size #[.int .u8 x.z0, .int .u8 x.z1, .int .u8 x.z2, .int .u8 x.z3, .int .u8 x.z4, .int .u8 x.z5, .int .u8 x.z6, .int .u8 x.z7] 52 by rw [hw0.out]; exact Bx.new _ _ _)
  refine (hadMay_any a n c l w0 (HL.out.later B0.out)).mono ?_
  rintro e w1 ⟨rfl, hb1⟩
  rw [HE.out]
  have B1 := hide (B0.out.trans (hb1.mono B0.out.size))
  have X1 := hide (X0.out.later hb1 X0.out.lt)
  clear hb1
  obtain ⟨f0, f1, f2, f3, f4, f5, f6, f7⟩ := X1.out.eight
  go_wp2_with fail
  refine (touch_err a n c l x w1 (HL.out.later B1.out) hc (by rw [HE.out]; exact H0.out)).mono ?_
  rintro e w3 ⟨rfl, hb3⟩
  rw [HE.out]
  have B3 := hide (B1.out.trans (hb3.mono B1.out.size))
  clear f0 f1 f2 f3 f4 f5 f6 f7 hb3
  go_wp2_with fail
  refine (ccheck_any a n c l w3 (HL.out.later B3.out) hc).mono ?_
  rintro e w4 ⟨rfl, hb4⟩
  rw [HE.out]
  have B4 := hide (B3.out.trans (hb4.mono B3.out.size))
  clear hb4
  go_wp2_with fail
  refine (is_any E E w4).mono ?_
  rintro e w4' ⟨rfl, rfl⟩
  rw [beq_self_eq_true]
  go_wp2_with fail
  refine (is_any E E _).mono ?_
  rintro e w4'' ⟨rfl, rfl⟩
  rw [beq_self_eq_true]
  go_wp2_with fail
  refine (sameBL_gen none none 0 0 0 0 [] [] w4'' (BL.nil _) (BL.nil _)).mono ?_
  rintro e w5 ⟨r, rfl, hr, q, rfl⟩
  obtain rfl : r = true := hr.2 rfl
  go_wp2
  go_ret
  exact ⟨rfl, below_drewN B4.out _⟩

theorem chad_any (a : Option Addr) (n c : Nat) (l : List B8) (x : B8) (w : World) (hl : BL w a n l) (hc : n ≤ c) :
    Calls Try.prog 13 #[.slice a n c, .agg #[.int .u8 x.z0, .int .u8 x.z1, .int .u8 x.z2, .int .u8 x.z3, .int .u8 x.z4, .int .u8 x.z5, .int .u8 x.z6, .int .u8 x.z7]] w fun e w' => e = .returned (.bool true) ∧ Below w.heap.size w w' := by
  by_cases hn : (100 : Int) < n
  · exact chad_big a n c x w hn
  · by_cases hE : Mx.hmay l = 0
    · exact chad_ok a n c l x w hl hc hE hn
    · exact chad_err a n c l x w hl hc _ rfl hE hn

end Go.Proofs.Ytengpogcdnbabaa
