/-
  Whether a frame may be: the document's answer (FrameMay) and the program's (Check) answer the same number; nothing that was there is turned.
-/
import Derived.Test.YtdhmijjphgcdmaaSum
namespace Go.Proofs.Ytdhmijjphgcdmaa
open Go.RowKit

namespace Mx
def badNum (x : Int) : Bool := decide (x < 0) || decide (2147483647 < x)
/-- A1's error, as a number (0: none) -/
def may (kind : Int) (nums : List Int) (nb : Nat) : Int :=
  if kind < 0 ∨ 15 < kind then 1 else if 12 < nums.length ∨ 32 < nb then 2 else if nums.any badNum then 1 else 0
theorem may_kind {kind : Int} {nums : List Int} {nb : Nat} (h : kind < 0 ∨ 15 < kind) : may kind nums nb = 1 := by unfold may; rw [if_pos h]
theorem may_long {kind : Int} {nums : List Int} {nb : Nat} (h : ¬ (kind < 0 ∨ 15 < kind)) (h2 : 12 < nums.length ∨ 32 < nb) : may kind nums nb = 2 := by unfold may; rw [if_neg h, if_pos h2]
theorem may_bad {kind : Int} {nums : List Int} {nb : Nat} (h : ¬ (kind < 0 ∨ 15 < kind)) (h2 : ¬ (12 < nums.length ∨ 32 < nb)) (k : Nat) (hk : k < nums.length) (h3 : badNum (nums.getD k 0) = true) : may kind nums nb = 1 := by
  unfold may
  rw [if_neg h, if_neg h2, if_pos]
  rw [List.any_eq_true]
  rw [List.getD_eq_getElem?_getD, List.getElem?_eq_getElem hk] at h3
  exact ⟨nums[k], List.getElem_mem hk, h3⟩
theorem may_ok {kind : Int} {nums : List Int} {nb : Nat} (h : ¬ (kind < 0 ∨ 15 < kind)) (h2 : ¬ (12 < nums.length ∨ 32 < nb)) (h3 : ∀ j, j < nums.length → badNum (nums.getD j 0) = false) : may kind nums nb = 0 := by
  unfold may
  rw [if_neg h, if_neg h2, if_neg]
  rw [List.any_eq_true]
  rintro ⟨x, hx, hb⟩
  obtain ⟨i, hi, rfl⟩ := List.getElem_of_mem hx
  have := h3 i hi
  rw [List.getD_eq_getElem?_getD, List.getElem?_eq_getElem hi] at this
  simp only [Option.getD_some] at this
  rw [hb] at this
  cases this
end Mx

/-- the slice reads as these numbers -/
def Ints (w : World) (a : Option Addr) (len : Nat) (l : List Int) : Prop :=
  l.length = len ∧ len ≤ maxLen ∧ (0 < len → ∃ b off, a = some ⟨b, off, none⟩ ∧ b < w.heap.size ∧ ∀ i, i < len → w.cell? ⟨b, off + i, none⟩ = some (.int .i64 (l.getD i 0)))

theorem Ints.at_ {w : World} {a : Option Addr} {len : Nat} {l : List Int} (h : Ints w a len l) (k : Nat) (hk : k < len) :
    ∃ b off, ∃ x : Int, a = some ⟨b, off, none⟩ ∧ b < w.heap.size ∧ l.getD k 0 = x ∧ w.cell? ⟨b, off + k, none⟩ = some (.int .i64 x) := by
  obtain ⟨b, off, ha, hb, hc⟩ := h.2.2 (by omega)
  exact ⟨b, off, _, ha, hb, rfl, hc k hk⟩

set_option maxHeartbeats 400000 in
set_option maxRecDepth 100000 in
theorem frameMay_any (kind : Int) (a1 a2 : Option Addr) (n1 c1 n2 c2 : Nat) (l : List Int) (w : World) (hl : Ints w a1 n1 l) (h2 : n2 ≤ maxLen) :
    Calls Try.prog 14 #[.agg #[.int .i64 kind, .slice a1 n1 c1, .slice a2 n2 c2]] w fun e w' => e = .returned (.int .i64 (Mx.may kind l n2)) ∧ Below w.heap.size w w' := by
  have hlen : n1 ≤ maxLen := hl.2.1
  unfold maxLen at hlen h2
  have HB := hide hl
  clear hl
  by_cases hk : kind < 0 ∨ 15 < kind
  · have HM := hide (Mx.may_kind (nums := l) (nb := n2) hk)
    rcases hk with hk | hk
    · go_enter Try.func14, Try.ntmps14
      go_wp2
      go_ret
      exact ⟨by rw [unhide HM]; rfl, (Below.refl _ _).alloc (Nat.le_refl _) _⟩
    · have hk' : ¬ kind < 0 := by omega
      go_enter Try.func14, Try.ntmps14
      go_wp2
      go_ret
      exact ⟨by rw [unhide HM]; rfl, (Below.refl _ _).alloc (Nat.le_refl _) _⟩
  · have hk1 : ¬ kind < 0 := by omega
    have hk2 : ¬ 15 < kind := by omega
    have HL := hide ((unhide HB).1)
    by_cases hn : 12 < n1 ∨ 32 < n2
    · have HM := hide (Mx.may_long (nums := l) (nb := n2) hk (by rw [unhide HL]; exact hn))
      clear hk
      rcases hn with hn | hn
      · have hn' : (12 : Int) < (n1 : Int) := by omega
        go_enter Try.func14, Try.ntmps14
        go_wp2
        go_ret
        exact ⟨by rw [unhide HM]; rfl, (Below.refl _ _).alloc (Nat.le_refl _) _⟩
      · by_cases hm : (12 : Int) < (n1 : Int)
        · go_enter Try.func14, Try.ntmps14
          go_wp2
          go_ret
          exact ⟨by rw [unhide HM]; rfl, (Below.refl _ _).alloc (Nat.le_refl _) _⟩
        · have hn' : (32 : Int) < (n2 : Int) := by omega
          go_enter Try.func14, Try.ntmps14
          go_wp2
          go_ret
          exact ⟨by rw [unhide HM]; rfl, (Below.refl _ _).alloc (Nat.le_refl _) _⟩
    · have hm1 : ¬ (12 : Int) < (n1 : Int) := by omega
      have hm2 : ¬ (32 : Int) < (n2 : Int) := by omega
      have HN := hide hn
      have HK := hide hk
      clear hn hk
      go_enter Try.func14, Try.ntmps14
      go_wp2
      go_loop [3] (fun i => ∃ k : Nat, k ≤ n1 ∧ i = .int .i64 k ∧ Hid (∀ j, j < k → Mx.badNum (l.getD j 0) = false))
        (fun i => n1 - (intOf i).toNat)
      case atStart => exact ⟨0, by omega, rfl, fun j hj => absurd hj (by omega)⟩
      case round =>
        obtain ⟨k, hkn, rfl, hgood⟩ := hrel
        by_cases hlt : k < n1
        · obtain ⟨b, off, x, rfl, hb, hx, hcell⟩ := (unhide HB).at_ k hlt
          have HX := hide hx
          clear hx
          by_cases hbad : Mx.badNum x = true
          · have HM := hide (Mx.may_bad (nb := n2) (unhide HK) (by rw [unhide HL]; exact unhide HN) k (by rw [unhide HL]; exact hlt) (by rw [unhide HX]; exact hbad))
            have hbb : x < 0 ∨ 2147483647 < x := by simpa [Mx.badNum] using hbad
            clear hbad
            by_cases hx0 : x < 0
            · go_wp2
              go_ret
              exact ⟨by rw [unhide HM]; rfl, (Below.refl _ _).alloc (Nat.le_refl _) _⟩
            · have hx1 : 2147483647 < x := by omega
              go_wp2
              go_ret
              exact ⟨by rw [unhide HM]; rfl, (Below.refl _ _).alloc (Nat.le_refl _) _⟩
          · have hbb : ¬ (x < 0 ∨ 2147483647 < x) := by simpa [Mx.badNum] using hbad
            have hx0 : ¬ x < 0 := by omega
            have hx1 : ¬ 2147483647 < x := by omega
            have HB2 := hide (show Mx.badNum x = false by simpa using hbad)
            clear hbad hbb
            go_wp2
            go_round
            case rel =>
              refine ⟨k + 1, by omega, by go_num, fun j hj => ?_⟩
              by_cases hjk : j = k
              · rw [hjk, unhide HX]; exact unhide HB2
              · exact hgood j (by omega)
            case measure => simp [intOf]; omega
        · have HM := hide (Mx.may_ok (nb := n2) (unhide HK) (by rw [unhide HL]; exact unhide HN) (fun j hj => hgood j (by rw [unhide HL] at hj; omega)))
          go_wp2
          go_ret
          exact ⟨by rw [unhide HM]; rfl, (Below.refl _ _).alloc (Nat.le_refl _) _⟩
end Go.Proofs.Ytdhmijjphgcdmaa
