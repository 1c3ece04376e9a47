/-
  A block put into a tree, as the program does it (Put): its errors.
-/
import Derived.Test.YtdhmijjphgcdmaaTcb
import Derived.Test.YtdhmijjphgcdmaaTcl
namespace Go.Proofs.Ytdhmijjphgcdmaa
open Go.RowKit

set_option maxHeartbeats 2000000 in
set_option maxRecDepth 100000 in
theorem tput_err (a : Option Addr) (k c : Nat) (ls : List (List Nat)) (at_ : Int) (x : B8) (w : World) (h : Lvls w a k ls) (hE : ¬ Mx.tmay ls = 0) :
    Calls Try.prog 50 #[.agg #[.slice a k c], .int .i64 at_, .agg #[.int .u8 x.z0, .int .u8 x.z1, .int .u8 x.z2, .int .u8 x.z3, .int .u8 x.z4, .int .u8 x.z5, .int .u8 x.z6, .int .u8 x.z7]] w fun e w' =>
      e = .returned (.tuple #[.agg #[.slice none 0 0], errV (Mx.tmay ls)]) ∧ Below w.heap.size w w' := by
  have HL := hide h
  have HE := hide hE
  clear h hE
  obtain ⟨w0, hw0⟩ : ∃ w0 : World, Hid (w0 = ((w.alloc (.cells #[.slice a k c] 82)).alloc (.cells #[.int .u8 x.z0, .int .u8 x.z1, .int .u8 x.z2, .int .u8 x.z3, .int .u8 x.z4, .int .u8 x.z5, .int .u8 x.z6, .int .u8 x.z7] 52)).alloc (.cells #[.slice none 0 0] 82)) := ⟨_, rfl⟩
  have B0 := hide (show Below w.heap.size w w0 by rw [hw0.out]; exact ((below_alloc _ _).alloc (by simp) _).alloc (by simp; omega) _)
  have R0 := hide (show Bx w0 (w.heap.size + 2) #[.slice none 0 0] 82 by
    rw [hw0.out]
    have h := Bx.new ((w.alloc (.cells #[.slice a k c] 82)).alloc (.cells #[.int .u8 x.z0, .int .u8 x.z1, .int .u8 x.z2, .int .u8 x.z3, .int .u8 x.z4, .int .u8 x.z5, .int .u8 x.z6, .int .u8 x.z7] 52)) #[.slice none 0 0] 82
    rw [World.size_alloc, World.size_alloc] at h
    exact h)
  go_enter Try.func50, Try.ntmps50
  go_wp2_with fail
  rw [← hw0.out]
  refine (tcheck_any a k c ls w0 (HL.out.later B0.out)).mono ?_
  rintro e w1 ⟨rfl, hb1⟩
  have R1 := hide (R0.out.later hb1 R0.out.lt)
  have B1 := hide (B0.out.trans (hb1.mono B0.out.size))
  clear hb1
  obtain ⟨E, hEE⟩ : ∃ E : Int, Hid (E = Mx.tmay ls) := ⟨_, rfl⟩
  have HV := hide (show errV (Mx.tmay ls) = .iface 26 (.int .i64 E) by rw [errV_not HE.out, hEE.out])
  rw [HV.out]
  have r0 := R1.out.one
  have rz := R1.out.frozen
  have r1 := (show Bx _ _ #[.slice none 0 0] 82 from R1.out.set 0 (.slice none 0 0)).one
  go_wp2_with fail
  exact bodyPost_ret (v := .tuple #[.agg #[.slice none 0 0], .iface 26 (.int .i64 E)]) (by simp [results, Try.results50, go_sem, r1]) rfl ⟨by rw [HV.out], B1.out.setCell (p := ⟨w.heap.size + 2, 0, none⟩) (by show w.heap.size ≤ w.heap.size + 2; omega) _⟩

end Go.Proofs.Ytdhmijjphgcdmaa
