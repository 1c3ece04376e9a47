/-
  Whether a frame may be: the program's own answer (Check): the error of that number; nothing that was there is turned.
-/
import Derived.Test.YtdhmijjphgcdmaaMay
namespace Go.Proofs.Ytdhmijjphgcdmaa
open Go.RowKit

/-- an error of that number, or none -/
def errV (n : Int) : Value := if n = 0 then .nilIface else .iface 26 (.int .i64 n)

set_option maxHeartbeats 400000 in
set_option maxRecDepth 100000 in
theorem check_any (kind : Int) (a1 a2 : Option Addr) (n1 c1 n2 c2 : Nat) (l : List Int) (w : World) (hl : Ints w a1 n1 l) (h2 : n2 ≤ maxLen) :
    Calls Try.prog 18 #[.agg #[.int .i64 kind, .slice a1 n1 c1, .slice a2 n2 c2]] w fun e w' => e = .returned (errV (Mx.may kind l n2)) ∧ Below w.heap.size w w' := by
  have hlen : n1 ≤ maxLen := hl.2.1
  unfold maxLen at hlen h2
  have HB := hide hl
  clear hl
  by_cases hk : kind < 0 ∨ 15 < kind
  · have HM := hide (Mx.may_kind (nums := l) (nb := n2) hk)
    rcases hk with hk | hk
    · go_enter Try.func18, Try.ntmps18
      go_wp2
      go_ret
      exact ⟨by rw [unhide HM]; rfl, (Below.refl _ _).alloc (Nat.le_refl _) _⟩
    · have hk' : ¬ kind < 0 := by omega
      go_enter Try.func18, Try.ntmps18
      go_wp2
      go_ret
      exact ⟨by rw [unhide HM]; rfl, (Below.refl _ _).alloc (Nat.le_refl _) _⟩
  · have hk1 : ¬ kind < 0 := by omega
    have hk2 : ¬ 15 < kind := by omega
    have HL := hide ((unhide HB).1)
    by_cases hn : 12 < n1 ∨ 32 < n2
    · have HM := hide (Mx.may_long (nums := l) (nb := n2) hk (by rw [unhide HL]; exact hn))
      clear hk
      rcases hn with hn | hn
      · have hn' : (12 : Int) < (n1 : Int) := by omega
        go_enter Try.func18, Try.ntmps18
        go_wp2
        go_ret
        exact ⟨by rw [unhide HM]; rfl, (Below.refl _ _).alloc (Nat.le_refl _) _⟩
      · by_cases hm : (12 : Int) < (n1 : Int)
        · go_enter Try.func18, Try.ntmps18
          go_wp2
          go_ret
          exact ⟨by rw [unhide HM]; rfl, (Below.refl _ _).alloc (Nat.le_refl _) _⟩
        · have hn' : (32 : Int) < (n2 : Int) := by omega
          go_enter Try.func18, Try.ntmps18
          go_wp2
          go_ret
          exact ⟨by rw [unhide HM]; rfl, (Below.refl _ _).alloc (Nat.le_refl _) _⟩
    · have hm1 : ¬ (12 : Int) < (n1 : Int) := by omega
      have hm2 : ¬ (32 : Int) < (n2 : Int) := by omega
      have HN := hide hn
      have HK := hide hk
      clear hn hk
      go_enter Try.func18, Try.ntmps18
      go_wp2
      go_loop [28] (fun i => ∃ k : Nat, k ≤ n1 ∧ i = .int .i64 k ∧ Hid (∀ j, j < k → Mx.badNum (l.getD j 0) = false))
        (fun i => n1 - (intOf i).toNat)
      case atStart => exact ⟨0, by omega, rfl, fun j hj => absurd hj (by omega)⟩
      case round =>
        obtain ⟨k, hkn, rfl, hgood⟩ := hrel
        by_cases hlt : k < n1
        · obtain ⟨b, off, x, rfl, hb, hx, hcell⟩ := (unhide HB).at_ k hlt
          have HX := hide hx
          clear hx
          by_cases hbad : Mx.badNum x = true
          · have HM := hide (Mx.may_bad (nb := n2) (unhide HK) (by rw [unhide HL]; exact unhide HN) k (by rw [unhide HL]; exact hlt) (by rw [unhide HX]; exact hbad))
            have hbb : x < 0 ∨ 2147483647 < x := by simpa [Mx.badNum] using hbad
            clear hbad
            by_cases hx0 : x < 0
            · go_wp2
              go_ret
              exact ⟨by rw [unhide HM]; rfl, (Below.refl _ _).alloc (Nat.le_refl _) _⟩
            · have hx1 : 2147483647 < x := by omega
              go_wp2
              go_ret
              exact ⟨by rw [unhide HM]; rfl, (Below.refl _ _).alloc (Nat.le_refl _) _⟩
          · have hbb : ¬ (x < 0 ∨ 2147483647 < x) := by simpa [Mx.badNum] using hbad
            have hx0 : ¬ x < 0 := by omega
            have hx1 : ¬ 2147483647 < x := by omega
            have HB2 := hide (show Mx.badNum x = false by simpa using hbad)
            clear hbad hbb
            go_wp2
            go_round
            case rel =>
              refine ⟨k + 1, by omega, by go_num, fun j hj => ?_⟩
              by_cases hjk : j = k
              · rw [hjk, unhide HX]; exact unhide HB2
              · exact hgood j (by omega)
            case measure => simp [intOf]; omega
        · have HM := hide (Mx.may_ok (nb := n2) (unhide HK) (by rw [unhide HL]; exact unhide HN) (fun j hj => hgood j (by rw [unhide HL] at hj; omega)))
          go_wp2
          go_ret
          exact ⟨by rw [unhide HM]; rfl, (Below.refl _ _).alloc (Nat.le_refl _) _⟩
end Go.Proofs.Ytdhmijjphgcdmaa
