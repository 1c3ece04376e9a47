/-
  For all bytes: their sum, and the frame that they are, or that they are none, are what the document's answer says (FrameReads): the walk.
-/
import Derived.Test.YtengpogcdnbabacUnp
namespace Go.Proofs.Ytengpogcdnbabac
open Go.RowKit

theorem neq_err3 (W : World) : (binOp .neq 28 (.iface 36 (.int .i64 3)) (.iface 36 (.int .i64 3))).run Try.prog W = .ok (.bool false) W := by
  have h := Lib.run_eql_iface_int (P := Try.prog) (k := .i64) W 3 3 Try.underlying28 (by kernel_rfl) Try.underlying36
  simp only [binOp] at h ⊢
  cases hr : (Op.equal 28 (.iface 36 (.int .i64 3)) (.iface 36 (.int .i64 3))).run Try.prog W with
  | ok v w' => simp [hr] at h ⊢; exact h
  | halt x w' => simp [hr] at h

theorem ints_nil (w : World) : Ints w none 0 [] := ⟨rfl, by unfold maxLen; omega, fun h => absurd h (by omega)⟩
theorem blks_nil (w : World) : Blks w none 0 [] := ⟨rfl, by unfold maxLen; omega, by simp, fun h => absurd h (by omega)⟩

end Go.Proofs.Ytengpogcdnbabac
