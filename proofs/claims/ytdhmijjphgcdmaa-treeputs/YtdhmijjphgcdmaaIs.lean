/-
  Small askers of the document's answer: Is (is an error just that?), SameBytes (two lists).
-/
import Derived.Test.YtdhmijjphgcdmaaChk
import Derived.Lib.IfaceEq
namespace Go.Proofs.Ytdhmijjphgcdmaa
open Go.RowKit

theorem errV_zero : errV 0 = .nilIface := rfl
theorem errV_not {n : Int} (h : n ≠ 0) : errV n = .iface 26 (.int .i64 n) := by unfold errV; rw [if_neg h]

set_option maxHeartbeats 400000 in
set_option maxRecDepth 100000 in
theorem is_any (m n : Int) (w : World) :
    Calls Try.prog 17 #[errV m, .int .i64 n] w fun e w' => e = .returned (.bool (m == n)) ∧ w' = w := by
  have he : ∀ (a b : Int) (W : World), (binOp .eql 31 (.iface 26 (.int .i64 a)) (.iface 26 (.int .i64 b))).run Try.prog W = .ok (.bool (a == b)) W :=
    fun a b W => Lib.run_eql_iface_int W a b Try.underlying31 (by kernel_rfl) Try.underlying26
  by_cases hm : m = 0
  · subst hm
    rw [errV_zero]
    go_enter Try.func17, Try.ntmps17
    go_wp2
    go_ret
    refine ⟨?_, rfl⟩
    show Ending.returned (.bool _) = _
    congr 2
    rw [Bool.eq_iff_iff]
    simp only [beq_iff_eq]
    exact eq_comm
  · rw [errV_not hm]
    by_cases hn : n = 0
    · subst hn
      have hmn : (m == 0) = false := by simpa using hm
      go_enter Try.func17, Try.ntmps17
      go_wp2
      go_ret
      exact ⟨by rw [hmn]; rfl, rfl⟩
    · have hn0 : (n == 0) = false := by simpa using hn
      have hn1 : (n != 0) = true := by simpa using hn
      go_enter Try.func17, Try.ntmps17
      go_wp2
      go_ret
      exact ⟨rfl, rfl⟩

set_option maxHeartbeats 400000 in
set_option maxRecDepth 100000 in
theorem sameBytes_any (a1 a2 : Option Addr) (n1 c1 n2 c2 : Nat) (l1 l2 : List Int) (w : World) (h1 : Bytes w a1 n1 l1) (h2 : Bytes w a2 n2 l2) (hl : l1 = l2) :
    Calls Try.prog 19 #[.slice a1 n1 c1, .slice a2 n2 c2] w fun e w' => e = .returned (.bool true) ∧ ∃ n, w' = w.drewN n := by
  subst hl
  have hlen : n1 ≤ maxLen := h1.2.1
  unfold maxLen at hlen
  have H1 := hide h1
  have H2 := hide h2
  obtain rfl : n2 = n1 := by rw [← h1.1, ← h2.1]
  clear h1 h2
  go_enter Try.func19, Try.ntmps19
  go_wp2
  go_loopw [5] (fun i wr => ∃ k : Nat, k ≤ n2 ∧ i = .int .i64 k ∧ ∃ n, wr = w.drewN n) (fun i _ => n2 - (intOf i).toNat)
  case atStart => exact ⟨0, by omega, rfl, 0, rfl⟩
  case round =>
    obtain ⟨k, hk, rfl, n, rfl⟩ := hrel
    by_cases hlt : k < n2
    · obtain ⟨b, off, c, rfl, hc1, hc2, hcell, htk⟩ := (unhide H1).at_ k hlt
      obtain ⟨b', off', c', rfl, hc1', hc2', hcell', htk'⟩ := (unhide H2).at_ k hlt
      obtain rfl : c' = c := by rw [hc2] at hc2'; omega
      clear hc2 hc2' htk htk'
      go_wp2_with fail
      go_quiet (fail)
      go_wp2
      go_roundw
      case rel => exact ⟨k + 1, by omega, by go_num, _, rfl⟩
      case measure => simp [intOf]; omega
    · go_wp2
      go_ret
      exact ⟨rfl, _, rfl⟩
end Go.Proofs.Ytdhmijjphgcdmaa
