/-
  DiskSays, the leaves where every call tells an error.
-/
import Derived.Test.YtengpogcdnbabaaDsays
namespace Go.Proofs.Ytengpogcdnbabaa
open Go.RowKit

set_option maxHeartbeats 8000000 in
set_option maxRecDepth 100000 in
theorem dsays_d1a (sa pa : Option Addr) (n sc m pc : Nat) (left at_ : Int) (x : B8) (ls : List B8) (ps : List Pt) (w : World) (hs : BL w sa n ls) (hp : PL w pa m ps) (hn3 : n ≤ 300) (_hm9 : m ≤ 900)
    (hmay : Mx.dmay n ps = 0) (hin : 0 ≤ at_ ∧ at_ < n) (hl : left = 0) (hm8 : m = 800) :
    Calls Try.prog 6 #[.agg #[.slice sa n sc, .slice pa m pc, .int .i64 left], .int .i64 at_, .agg #[.int .u8 x.z0, .int .u8 x.z1, .int .u8 x.z2, .int .u8 x.z3, .int .u8 x.z4, .int .u8 x.z5, .int .u8 x.z6, .int .u8 x.z7]] w fun e w' =>
      e = .returned (.bool true) ∧ Below w.heap.size w w' := by
  subst hl
  have hd : Mx.dplace n ps at_ = 0 := by unfold Mx.dplace; rw [if_pos hmay, if_pos hin]
  have HM := hide hmay
  have HR := hide (show Mx.dread n ps 0 at_ = 4 by unfold Mx.dread; rw [if_pos hd, if_pos rfl])
  have HW := hide (show Mx.dwrite n ps 0 at_ = 2 by unfold Mx.dwrite; rw [if_pos hd, if_pos (by rw [hp.1]; exact hm8)])
  have HF := hide (show Mx.dflush n ps 0 = 4 by unfold Mx.dflush; rw [if_pos hmay, if_pos rfl])
  have HR0 := hide (show ¬ (4 : Int) = 0 by decide)
  have HW0 := hide (show ¬ (2 : Int) = 0 by decide)
  have HF0 := hide (show ¬ (4 : Int) = 0 by decide)
  have hat0 : 0 ≤ at_ := hin.1
  have hat1 : at_ < n := hin.2
  clear hd hmay hin
  have HP := hide hp
  have HNN := hide (show n ≤ maxLen from hs.2.2.1)
  clear hs hp
  have h300 : ¬ (300 : Int) < n := by omega
  have h900 : ¬ (900 : Int) < m := by omega
  have hm8' : ((m : Int) == 800) = true := by simp; omega
  clear hm8
  all_goals
    go_enter Try.func6, Try.ntmps6
    go_wp2_with fail
    obtain ⟨w0, hw0⟩ : ∃ w0 : World, Hid (w0 = (w.alloc (.cells #[.slice sa n sc, .slice pa m pc, .int .i64 0] 50)).alloc (.cells #[.int .u8 x.z0, .int .u8 x.z1, .int .u8 x.z2, .int .u8 x.z3, .int .u8 x.z4, .int .u8 x.z5, .int .u8 x.z6, .int .u8 x.z7] 52)) := ⟨_, rfl⟩
    rw [← hw0.out]
    have B0 := hide (show Below w.heap.size w w0 by rw [hw0.out]; exact (below_alloc _ _).alloc (by simp) _)
    have X0 := hide (show Bx w0 w.heap.size #[.slice sa n sc, .slice pa m pc, .int .i64 0] 50 by rw [hw0.out]; exact (Bx.new w _ 50).alloc _)
    have Y0 := hide (show Bx w0 (w.heap.size + 1) #[.int .u8 x.z0, .int .u8 x.z1, .int .u8 x.z2, .int .u8 x.z3, .int .u8 x.z4, .int .u8 x.z5, .int .u8 x.z6, .int .u8 x.z7] 52 by
      rw [hw0.out]
      have h := Bx.new (w.alloc (.cells #[.slice sa n sc, .slice pa m pc, .int .i64 0] 50)) #[.int .u8 x.z0, .int .u8 x.z1, .int .u8 x.z2, .int .u8 x.z3, .int .u8 x.z4, .int .u8 x.z5, .int .u8 x.z6, .int .u8 x.z7] 52
      rw [World.size_alloc] at h
      exact h)
    refine (diskMay_any sa pa n sc m pc 0 ps w0 (HP.out.later B0.out) HNN.out).mono ?_
    rintro e w1 ⟨rfl, hb1⟩
    rw [HM.out]
    have B1 := hide (B0.out.trans (hb1.mono B0.out.size))
    have X1 := hide (X0.out.later hb1 X0.out.lt)
    have Y1 := hide (Y0.out.later hb1 Y0.out.lt)
    clear hb1
    obtain ⟨f0, f1, f2⟩ := X1.out.three
    go_wp2_with fail
    refine (dcheck_any sa pa n sc m pc 0 ps w1 (HP.out.later B1.out) HNN.out).mono ?_
    rintro e w2 ⟨rfl, hb2⟩
    rw [HM.out]
    have B2 := hide (B1.out.trans (hb2.mono B1.out.size))
    have X2 := hide (X1.out.later hb2 X1.out.lt)
    have Y2 := hide (Y1.out.later hb2 Y1.out.lt)
    clear hb2 f0 f1 f2
    obtain ⟨f0, f1, f2⟩ := X2.out.three
    go_wp2_with fail
    refine (is_any (0) (0) w2).mono ?_
    rintro e w3 ⟨rfl, rfl⟩
    rw [beq_self_eq_true]
    go_wp2_with fail
    refine (read_err sa pa n sc m pc 0 at_ ps w3 HNN.out (HP.out.later B2.out) (by rw [HR.out]; exact HR0.out)).mono ?_
    rintro e w4 ⟨rfl, hb4⟩
    rw [HR.out]
    have B4 := hide (B2.out.trans (hb4.mono B2.out.size))
    have X4 := hide (X2.out.later hb4 X2.out.lt)
    have Y4 := hide (Y2.out.later hb4 Y2.out.lt)
    clear hb4 f0 f1 f2
    obtain ⟨f0, f1, f2⟩ := X4.out.three
    have hX4 := X4.out.lt
    go_wp2_with fail
    refine (is_any (4) (4) _).mono ?_
    rintro e w5 ⟨rfl, rfl⟩
    rw [beq_self_eq_true]
    have heq := equal_block 0 0 0 0 0 0 0 0 0 0 0 0 0 0 0 0
    rw [decide_eq_true rfl] at heq
    obtain ⟨w5, hw5⟩ : ∃ w5 : World, Hid (w5 = (w4.alloc (.cells #[.int .u8 0, .int .u8 0, .int .u8 0, .int .u8 0, .int .u8 0, .int .u8 0, .int .u8 0, .int .u8 0] 52)).alloc (.cells #[.int .u8 0, .int .u8 0, .int .u8 0, .int .u8 0, .int .u8 0, .int .u8 0, .int .u8 0, .int .u8 0] 52)) := ⟨_, rfl⟩
    have B5 := hide (show Below w.heap.size w w5 by rw [hw5.out]; exact (B4.out.alloc B4.out.size _).alloc (by have := B4.out.size; simp; omega) _)
    have X5 := hide (show Bx w5 w.heap.size _ 50 by rw [hw5.out]; exact (X4.out.alloc _).alloc _)
    have Y5 := hide (show Bx w5 (w.heap.size + 1) _ 52 by rw [hw5.out]; exact (Y4.out.alloc _).alloc _)
    go_upto_region 31 with fail
    rw [← hw5.out]
    clear f0 f1 f2 hX4
    obtain ⟨f0, f1, f2⟩ := X5.out.three
    obtain ⟨x0, x1, x2, x3, x4, x5, x6, x7⟩ := Y5.out.eight
    have hX5 := X5.out.lt
    have hY5 := Y5.out.lt
    obtain ⟨w6, hw6⟩ : ∃ w6 : World, Hid (w6 = (w5.alloc (.cells #[.slice none 0 0, .slice none 0 0, .int .i64 0] 50)).alloc (.cells #[.slice none 0 0, .slice none 0 0, .int .i64 0] 50)) := ⟨_, rfl⟩
    have B56 := hide (show Below w5.heap.size w5 w6 by rw [hw6.out]; exact (below_alloc _ _).alloc (by simp) _)
    have B6 := hide (B5.out.trans (B56.out.mono B5.out.size))
    have X6 := hide (X5.out.later B56.out X5.out.lt)
    have Y6 := hide (Y5.out.later B56.out Y5.out.lt)
    have O6 := hide (show Bx w6 w5.heap.size #[.slice none 0 0, .slice none 0 0, .int .i64 0] 50 by rw [hw6.out]; exact (Bx.new w5 _ 50).alloc _)
    have T6 := hide (show Bx w6 (w5.heap.size + 1) #[.slice none 0 0, .slice none 0 0, .int .i64 0] 50 by
      rw [hw6.out]
      have h := Bx.new (w5.alloc (.cells #[.slice none 0 0, .slice none 0 0, .int .i64 0] 50)) #[.slice none 0 0, .slice none 0 0, .int .i64 0] 50
      rw [World.size_alloc] at h
      exact h)
    go_upto_region 33 with fail
    rw [← hw6.out]
    clear f0 f1 f2 x0 x1 x2 x3 x4 x5 x6 x7 hX5 hY5
    obtain ⟨f0, f1, f2⟩ := X6.out.three
    obtain ⟨x0, x1, x2, x3, x4, x5, x6, x7⟩ := Y6.out.eight
    go_wp2_with fail
    refine (write_err sa pa n sc m pc 0 at_ x ps w6 HNN.out (HP.out.later B6.out) (by rw [HW.out]; exact HW0.out)).mono ?_
    rintro e w7 ⟨rfl, hb7⟩
    rw [HW.out]
    have HB7 := hide hb7
    clear hb7 f0 f1 f2 x0 x1 x2 x3 x4 x5 x6 x7
    obtain ⟨w8, hw8⟩ : ∃ w8 : World, Hid (w8 = w7.alloc (.cells #[.slice none 0 0, .slice none 0 0, .int .i64 0] 50)) := ⟨_, rfl⟩
    have B78 := hide (show Below w7.heap.size w7 w8 by rw [hw8.out]; exact below_alloc _ _)
    have B68 := hide (HB7.out.trans (B78.out.mono HB7.out.size))
    have BB8 := hide (B6.out.trans (B68.out.mono B6.out.size))
    have X7 := hide (X6.out.later HB7.out X6.out.lt)
    have G8 := hide (show Bx w8 w7.heap.size #[.slice none 0 0, .slice none 0 0, .int .i64 0] 50 by rw [hw8.out]; exact Bx.new _ _ _)
    obtain ⟨f0, f1, f2⟩ := X7.out.three
    have hX7 := X7.out.lt
    go_wp2_with fail
    rw [← hw8.out]
    clear f0 f1 f2 hX7
    refine (flush_err sa pa n sc m pc 0 ps w8 HNN.out (HP.out.later BB8.out) (by rw [HF.out]; exact HF0.out)).mono ?_
    rintro e w9 ⟨rfl, hb9⟩
    rw [HF.out]
    have HB9 := hide hb9
    clear hb9
    obtain ⟨w10, hw10⟩ : ∃ w10 : World, Hid (w10 = w9.alloc (.cells #[.slice none 0 0, .slice none 0 0, .int .i64 0] 50)) := ⟨_, rfl⟩
    have B910 := hide (show Below w9.heap.size w9 w10 by rw [hw10.out]; exact below_alloc _ _)
    have B810 := hide (HB9.out.trans (B910.out.mono HB9.out.size))
    have B610 := hide (B68.out.trans (B810.out.mono B68.out.size))
    have B10 := hide (BB8.out.trans (B810.out.mono BB8.out.size))
    have H10 := hide (show Bx w10 w9.heap.size #[.slice none 0 0, .slice none 0 0, .int .i64 0] 50 by rw [hw10.out]; exact Bx.new _ _ _)
    have G10 := hide (G8.out.later B810.out G8.out.lt)
    have O10 := hide (O6.out.later B610.out O6.out.lt)
    have T10 := hide (T6.out.later B610.out T6.out.lt)
    go_wp2_with fail
    rw [← hw10.out]
    refine (is_any (2) (2) w10).mono ?_
    rintro e w10' ⟨rfl, rfl⟩
    rw [beq_self_eq_true]
    go_wp2_with fail
    refine (is_any (4) (4) _).mono ?_
    rintro e w10'' ⟨rfl, rfl⟩
    rw [beq_self_eq_true]
    obtain ⟨p0, p1, p2⟩ := G10.out.three
    obtain ⟨q0, q1, q2⟩ := O10.out.three
    go_wp2_with fail
    refine (sameDisk_any none none none none 0 0 0 0 0 0 0 0 0 0 [] [] [] [] w10'' (BL.nil _) (PL.nil _) (BL.nil _) (PL.nil _) rfl rfl rfl).mono ?_
    rintro e w11 ⟨rfl, hb11⟩
    have HB11 := hide hb11
    clear p0 p1 p2 q0 q1 q2 hb11
    obtain ⟨p0, p1, p2⟩ := (H10.out.later HB11.out H10.out.lt).three
    obtain ⟨q0, q1, q2⟩ := (T10.out.later HB11.out T10.out.lt).three
    go_wp2_with fail
    refine (sameDisk_any none none none none 0 0 0 0 0 0 0 0 0 0 [] [] [] [] w11 (BL.nil _) (PL.nil _) (BL.nil _) (PL.nil _) rfl rfl rfl).mono ?_
    rintro e w12 ⟨rfl, hb12⟩
    go_wp2
    go_ret
    exact ⟨rfl, (B10.out.trans (HB11.out.mono B10.out.size)).trans (hb12.mono (by have := B10.out.size; have := HB11.out.size; omega))⟩

set_option maxHeartbeats 8000000 in
set_option maxRecDepth 100000 in
theorem dsays_d1b (sa pa : Option Addr) (n sc m pc : Nat) (left at_ : Int) (x : B8) (ls : List B8) (ps : List Pt) (w : World) (hs : BL w sa n ls) (hp : PL w pa m ps) (hn3 : n ≤ 300) (hm9 : m ≤ 900)
    (hmay : Mx.dmay n ps = 0) (hin : 0 ≤ at_ ∧ at_ < n) (hl : left = 0) (hm8 : ¬ m = 800) :
    Calls Try.prog 6 #[.agg #[.slice sa n sc, .slice pa m pc, .int .i64 left], .int .i64 at_, .agg #[.int .u8 x.z0, .int .u8 x.z1, .int .u8 x.z2, .int .u8 x.z3, .int .u8 x.z4, .int .u8 x.z5, .int .u8 x.z6, .int .u8 x.z7]] w fun e w' =>
      e = .returned (.bool true) ∧ Below w.heap.size w w' := by
  subst hl
  have hd : Mx.dplace n ps at_ = 0 := by unfold Mx.dplace; rw [if_pos hmay, if_pos hin]
  have HM := hide hmay
  have HR := hide (show Mx.dread n ps 0 at_ = 4 by unfold Mx.dread; rw [if_pos hd, if_pos rfl])
  have HW := hide (show Mx.dwrite n ps 0 at_ = 4 by unfold Mx.dwrite; rw [if_pos hd, if_neg (by rw [hp.1]; exact hm8), if_pos rfl])
  have HF := hide (show Mx.dflush n ps 0 = 4 by unfold Mx.dflush; rw [if_pos hmay, if_pos rfl])
  have HR0 := hide (show ¬ (4 : Int) = 0 by decide)
  have HW0 := hide (show ¬ (4 : Int) = 0 by decide)
  have HF0 := hide (show ¬ (4 : Int) = 0 by decide)
  have hat0 : 0 ≤ at_ := hin.1
  have hat1 : at_ < n := hin.2
  clear hd hmay hin
  have HP := hide hp
  have HNN := hide (show n ≤ maxLen from hs.2.2.1)
  clear hs hp
  have h300 : ¬ (300 : Int) < n := by omega
  have h900 : ¬ (900 : Int) < m := by omega
  have hm8' : ((m : Int) == 800) = false := by simp; omega
  clear hm8
  all_goals
    go_enter Try.func6, Try.ntmps6
    go_wp2_with fail
    obtain ⟨w0, hw0⟩ : ∃ w0 : World, Hid (w0 = (w.alloc (.cells #[.slice sa n sc, .slice pa m pc, .int .i64 0] 50)).alloc (.cells #[.int .u8 x.z0, .int .u8 x.z1, .int .u8 x.z2, .int .u8 x.z3, .int .u8 x.z4, .int .u8 x.z5, .int .u8 x.z6, .int .u8 x.z7] 52)) := ⟨_, rfl⟩
    rw [← hw0.out]
    have B0 := hide (show Below w.heap.size w w0 by rw [hw0.out]; exact (below_alloc _ _).alloc (by simp) _)
    have X0 := hide (show Bx w0 w.heap.size #[.slice sa n sc, .slice pa m pc, .int .i64 0] 50 by rw [hw0.out]; exact (Bx.new w _ 50).alloc _)
    have Y0 := hide (show Bx w0 (w.heap.size + 1) #[.int .u8 x.z0, .int .u8 x.z1, .int .u8 x.z2, .int .u8 x.z3, .int .u8 x.z4, .int .u8 x.z5, .int .u8 x.z6, .int .u8 x.z7] 52 by
      rw [hw0.out]
      have h := Bx.new (w.alloc (.cells #[.slice sa n sc, .slice pa m pc, .int .i64 0] 50)) #[.int .u8 x.z0, .int .u8 x.z1, .int .u8 x.z2, .int .u8 x.z3, .int .u8 x.z4, .int .u8 x.z5, .int .u8 x.z6, .int .u8 x.z7] 52
      rw [World.size_alloc] at h
      exact h)
    refine (diskMay_any sa pa n sc m pc 0 ps w0 (HP.out.later B0.out) HNN.out).mono ?_
    rintro e w1 ⟨rfl, hb1⟩
    rw [HM.out]
    have B1 := hide (B0.out.trans (hb1.mono B0.out.size))
    have X1 := hide (X0.out.later hb1 X0.out.lt)
    have Y1 := hide (Y0.out.later hb1 Y0.out.lt)
    clear hb1
    obtain ⟨f0, f1, f2⟩ := X1.out.three
    go_wp2_with fail
    refine (dcheck_any sa pa n sc m pc 0 ps w1 (HP.out.later B1.out) HNN.out).mono ?_
    rintro e w2 ⟨rfl, hb2⟩
    rw [HM.out]
    have B2 := hide (B1.out.trans (hb2.mono B1.out.size))
    have X2 := hide (X1.out.later hb2 X1.out.lt)
    have Y2 := hide (Y1.out.later hb2 Y1.out.lt)
    clear hb2 f0 f1 f2
    obtain ⟨f0, f1, f2⟩ := X2.out.three
    go_wp2_with fail
    refine (is_any (0) (0) w2).mono ?_
    rintro e w3 ⟨rfl, rfl⟩
    rw [beq_self_eq_true]
    go_wp2_with fail
    refine (read_err sa pa n sc m pc 0 at_ ps w3 HNN.out (HP.out.later B2.out) (by rw [HR.out]; exact HR0.out)).mono ?_
    rintro e w4 ⟨rfl, hb4⟩
    rw [HR.out]
    have B4 := hide (B2.out.trans (hb4.mono B2.out.size))
    have X4 := hide (X2.out.later hb4 X2.out.lt)
    have Y4 := hide (Y2.out.later hb4 Y2.out.lt)
    clear hb4 f0 f1 f2
    obtain ⟨f0, f1, f2⟩ := X4.out.three
    have hX4 := X4.out.lt
    go_wp2_with fail
    refine (is_any (4) (4) _).mono ?_
    rintro e w5 ⟨rfl, rfl⟩
    rw [beq_self_eq_true]
    have heq := equal_block 0 0 0 0 0 0 0 0 0 0 0 0 0 0 0 0
    rw [decide_eq_true rfl] at heq
    obtain ⟨w5, hw5⟩ : ∃ w5 : World, Hid (w5 = (w4.alloc (.cells #[.int .u8 0, .int .u8 0, .int .u8 0, .int .u8 0, .int .u8 0, .int .u8 0, .int .u8 0, .int .u8 0] 52)).alloc (.cells #[.int .u8 0, .int .u8 0, .int .u8 0, .int .u8 0, .int .u8 0, .int .u8 0, .int .u8 0, .int .u8 0] 52)) := ⟨_, rfl⟩
    have B5 := hide (show Below w.heap.size w w5 by rw [hw5.out]; exact (B4.out.alloc B4.out.size _).alloc (by have := B4.out.size; simp; omega) _)
    have X5 := hide (show Bx w5 w.heap.size _ 50 by rw [hw5.out]; exact (X4.out.alloc _).alloc _)
    have Y5 := hide (show Bx w5 (w.heap.size + 1) _ 52 by rw [hw5.out]; exact (Y4.out.alloc _).alloc _)
    go_upto_region 31 with fail
    rw [← hw5.out]
    clear f0 f1 f2 hX4
    obtain ⟨f0, f1, f2⟩ := X5.out.three
    obtain ⟨x0, x1, x2, x3, x4, x5, x6, x7⟩ := Y5.out.eight
    have hX5 := X5.out.lt
    have hY5 := Y5.out.lt
    obtain ⟨w6, hw6⟩ : ∃ w6 : World, Hid (w6 = (w5.alloc (.cells #[.slice none 0 0, .slice none 0 0, .int .i64 0] 50)).alloc (.cells #[.slice none 0 0, .slice none 0 0, .int .i64 0] 50)) := ⟨_, rfl⟩
    have B56 := hide (show Below w5.heap.size w5 w6 by rw [hw6.out]; exact (below_alloc _ _).alloc (by simp) _)
    have B6 := hide (B5.out.trans (B56.out.mono B5.out.size))
    have X6 := hide (X5.out.later B56.out X5.out.lt)
    have Y6 := hide (Y5.out.later B56.out Y5.out.lt)
    have O6 := hide (show Bx w6 w5.heap.size #[.slice none 0 0, .slice none 0 0, .int .i64 0] 50 by rw [hw6.out]; exact (Bx.new w5 _ 50).alloc _)
    have T6 := hide (show Bx w6 (w5.heap.size + 1) #[.slice none 0 0, .slice none 0 0, .int .i64 0] 50 by
      rw [hw6.out]
      have h := Bx.new (w5.alloc (.cells #[.slice none 0 0, .slice none 0 0, .int .i64 0] 50)) #[.slice none 0 0, .slice none 0 0, .int .i64 0] 50
      rw [World.size_alloc] at h
      exact h)
    go_upto_region 33 with fail
    rw [← hw6.out]
    clear f0 f1 f2 x0 x1 x2 x3 x4 x5 x6 x7 hX5 hY5
    obtain ⟨f0, f1, f2⟩ := X6.out.three
    obtain ⟨x0, x1, x2, x3, x4, x5, x6, x7⟩ := Y6.out.eight
    go_wp2_with fail
    refine (write_err sa pa n sc m pc 0 at_ x ps w6 HNN.out (HP.out.later B6.out) (by rw [HW.out]; exact HW0.out)).mono ?_
    rintro e w7 ⟨rfl, hb7⟩
    rw [HW.out]
    have HB7 := hide hb7
    clear hb7 f0 f1 f2 x0 x1 x2 x3 x4 x5 x6 x7
    obtain ⟨w8, hw8⟩ : ∃ w8 : World, Hid (w8 = w7.alloc (.cells #[.slice none 0 0, .slice none 0 0, .int .i64 0] 50)) := ⟨_, rfl⟩
    have B78 := hide (show Below w7.heap.size w7 w8 by rw [hw8.out]; exact below_alloc _ _)
    have B68 := hide (HB7.out.trans (B78.out.mono HB7.out.size))
    have BB8 := hide (B6.out.trans (B68.out.mono B6.out.size))
    have X7 := hide (X6.out.later HB7.out X6.out.lt)
    have G8 := hide (show Bx w8 w7.heap.size #[.slice none 0 0, .slice none 0 0, .int .i64 0] 50 by rw [hw8.out]; exact Bx.new _ _ _)
    obtain ⟨f0, f1, f2⟩ := X7.out.three
    have hX7 := X7.out.lt
    go_wp2_with fail
    rw [← hw8.out]
    clear f0 f1 f2 hX7
    refine (flush_err sa pa n sc m pc 0 ps w8 HNN.out (HP.out.later BB8.out) (by rw [HF.out]; exact HF0.out)).mono ?_
    rintro e w9 ⟨rfl, hb9⟩
    rw [HF.out]
    have HB9 := hide hb9
    clear hb9
    obtain ⟨w10, hw10⟩ : ∃ w10 : World, Hid (w10 = w9.alloc (.cells #[.slice none 0 0, .slice none 0 0, .int .i64 0] 50)) := ⟨_, rfl⟩
    have B910 := hide (show Below w9.heap.size w9 w10 by rw [hw10.out]; exact below_alloc _ _)
    have B810 := hide (HB9.out.trans (B910.out.mono HB9.out.size))
    have B610 := hide (B68.out.trans (B810.out.mono B68.out.size))
    have B10 := hide (BB8.out.trans (B810.out.mono BB8.out.size))
    have H10 := hide (show Bx w10 w9.heap.size #[.slice none 0 0, .slice none 0 0, .int .i64 0] 50 by rw [hw10.out]; exact Bx.new _ _ _)
    have G10 := hide (G8.out.later B810.out G8.out.lt)
    have O10 := hide (O6.out.later B610.out O6.out.lt)
    have T10 := hide (T6.out.later B610.out T6.out.lt)
    go_wp2_with fail
    rw [← hw10.out]
    refine (is_any (4) (4) w10).mono ?_
    rintro e w10' ⟨rfl, rfl⟩
    rw [beq_self_eq_true]
    go_wp2_with fail
    refine (is_any (4) (4) _).mono ?_
    rintro e w10'' ⟨rfl, rfl⟩
    rw [beq_self_eq_true]
    obtain ⟨p0, p1, p2⟩ := G10.out.three
    obtain ⟨q0, q1, q2⟩ := O10.out.three
    go_wp2_with fail
    refine (sameDisk_any none none none none 0 0 0 0 0 0 0 0 0 0 [] [] [] [] w10'' (BL.nil _) (PL.nil _) (BL.nil _) (PL.nil _) rfl rfl rfl).mono ?_
    rintro e w11 ⟨rfl, hb11⟩
    have HB11 := hide hb11
    clear p0 p1 p2 q0 q1 q2 hb11
    obtain ⟨p0, p1, p2⟩ := (H10.out.later HB11.out H10.out.lt).three
    obtain ⟨q0, q1, q2⟩ := (T10.out.later HB11.out T10.out.lt).three
    go_wp2_with fail
    refine (sameDisk_any none none none none 0 0 0 0 0 0 0 0 0 0 [] [] [] [] w11 (BL.nil _) (PL.nil _) (BL.nil _) (PL.nil _) rfl rfl rfl).mono ?_
    rintro e w12 ⟨rfl, hb12⟩
    go_wp2
    go_ret
    exact ⟨rfl, (B10.out.trans (HB11.out.mono B10.out.size)).trans (hb12.mono (by have := B10.out.size; have := HB11.out.size; omega))⟩

end Go.Proofs.Ytengpogcdnbabaa
