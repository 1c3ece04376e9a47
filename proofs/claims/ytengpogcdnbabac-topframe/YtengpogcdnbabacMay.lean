/-
  Whether a frame may be: the document's answer (FrameMay) and the program's (Check) answer the same number; nothing that was there is turned.
-/
import Derived.Test.YtengpogcdnbabacSum
namespace Go.Proofs.Ytengpogcdnbabac
open Go.RowKit

namespace Mx
def badNum (x : Int) : Bool := decide (x < 0) || decide (2147483647 < x)
/-- A1's error, as a number (0: none) -/
def may (kind : Int) (nums : List Int) (nb : Nat) : Int :=
  if kind < 0 ∨ 15 < kind then 1 else if 12 < nums.length ∨ 32 < nb then 2 else if nums.any badNum then 1 else 0
theorem may_kind {kind : Int} {nums : List Int} {nb : Nat} (h : kind < 0 ∨ 15 < kind) : may kind nums nb = 1 := by unfold may; rw [if_pos h]
theorem may_long {kind : Int} {nums : List Int} {nb : Nat} (h : ¬ (kind < 0 ∨ 15 < kind)) (h2 : 12 < nums.length ∨ 32 < nb) : may kind nums nb = 2 := by unfold may; rw [if_neg h, if_pos h2]
theorem may_bad {kind : Int} {nums : List Int} {nb : Nat} (h : ¬ (kind < 0 ∨ 15 < kind)) (h2 : ¬ (12 < nums.length ∨ 32 < nb)) (k : Nat) (hk : k < nums.length) (h3 : badNum (nums.getD k 0) = true) : may kind nums nb = 1 := by
  unfold may
  rw [if_neg h, if_neg h2, if_pos]
  rw [List.any_eq_true]
  rw [List.getD_eq_getElem?_getD, List.getElem?_eq_getElem hk] at h3
  exact ⟨nums[k], List.getElem_mem hk, h3⟩
theorem may_ok {kind : Int} {nums : List Int} {nb : Nat} (h : ¬ (kind < 0 ∨ 15 < kind)) (h2 : ¬ (12 < nums.length ∨ 32 < nb)) (h3 : ∀ j, j < nums.length → badNum (nums.getD j 0) = false) : may kind nums nb = 0 := by
  unfold may
  rw [if_neg h, if_neg h2, if_neg]
  rw [List.any_eq_true]
  rintro ⟨x, hx, hb⟩
  obtain ⟨i, hi, rfl⟩ := List.getElem_of_mem hx
  have := h3 i hi
  rw [List.getD_eq_getElem?_getD, List.getElem?_eq_getElem hi] at this
  simp only [Option.getD_some] at this
  rw [hb] at this
  cases this
end Mx

/-- the slice reads as these numbers -/
def Ints (w : World) (a : Option Addr) (len : Nat) (l : List Int) : Prop :=
  l.length = len ∧ len ≤ maxLen ∧ (0 < len → ∃ b off, a = some ⟨b, off, none⟩ ∧ b < w.heap.size ∧ ∀ i, i < len → w.cell? ⟨b, off + i, none⟩ = some (.int .i64 (l.getD i 0)))

theorem Ints.at_ {w : World} {a : Option Addr} {len : Nat} {l : List Int} (h : Ints w a len l) (k : Nat) (hk : k < len) :
    ∃ b off, ∃ x : Int, a = some ⟨b, off, none⟩ ∧ b < w.heap.size ∧ l.getD k 0 = x ∧ w.cell? ⟨b, off + k, none⟩ = some (.int .i64 x) := by
  obtain ⟨b, off, ha, hb, hc⟩ := h.2.2 (by omega)
  exact ⟨b, off, _, ha, hb, rfl, hc k hk⟩

end Go.Proofs.Ytengpogcdnbabac
