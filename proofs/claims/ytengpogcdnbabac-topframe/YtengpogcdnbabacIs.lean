/-
  Small askers of the document's answer: Is (is an error just that?), SameBytes (two lists).
-/
import Derived.Test.YtengpogcdnbabacChk
import Derived.Lib.IfaceEq
namespace Go.Proofs.Ytengpogcdnbabac
open Go.RowKit

theorem errV_zero : errV 0 = .nilIface := rfl
theorem errV_not {n : Int} (h : n ≠ 0) : errV n = .iface 36 (.int .i64 n) := by unfold errV; rw [if_neg h]

end Go.Proofs.Ytengpogcdnbabac
