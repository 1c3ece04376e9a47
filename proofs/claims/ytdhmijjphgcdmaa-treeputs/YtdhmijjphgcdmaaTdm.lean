/-
  Where two trees differ, and how many pairs are asked: plain mathematics.
-/
import Derived.Test.YtdhmijjphgcdmaaTcb
namespace Go.Proofs.Ytdhmijjphgcdmaa
open Go.RowKit

namespace Mx
/-- a digest of a tree: level, place -/
def nd (ls : List (List Nat)) (L i : Nat) : Nat := (ls.getD L []).getD i 0
/-- the places below a place, of n -/
def kids (n i : Nat) : List Nat := (List.range (min (i * 4 + 4) n - i * 4)).map fun k => i * 4 + k
/-- where two trees differ below a place -/
def dplaces (la lb : List (List Nat)) : Nat → Nat → List Nat
  | 0, i => if nd la 0 i = nd lb 0 i then [] else [i]
  | L + 1, i => if nd la (L + 1) i = nd lb (L + 1) i then [] else (kids (la.getD L []).length i).flatMap (dplaces la lb L)
/-- how many pairs are asked there -/
def dasked (la lb : List (List Nat)) : Nat → Nat → Nat
  | 0, _ => 1
  | L + 1, i => if nd la (L + 1) i = nd lb (L + 1) i then 1 else 1 + ((kids (la.getD L []).length i).map (dasked la lb L)).sum
/-- below these places -/
def dnext (la lb : List (List Nat)) (L : Nat) (now : List Nat) : List Nat := now.flatMap fun i => if nd la (L + 1) i = nd lb (L + 1) i then [] else kids (la.getD L []).length i
def dplacesL (la lb : List (List Nat)) (L : Nat) (now : List Nat) : List Nat := now.flatMap (dplaces la lb L)
def daskedL (la lb : List (List Nat)) (L : Nat) (now : List Nat) : Nat := (now.map (dasked la lb L)).sum

theorem dplaces_next (la lb : List (List Nat)) (L : Nat) (now : List Nat) : dplacesL la lb L (dnext la lb L now) = dplacesL la lb (L + 1) now := by
  unfold dplacesL dnext
  rw [List.flatMap_assoc]
  congr 1
  funext i
  rw [dplaces]
  split
  · rfl
  · rfl
theorem dasked_next (la lb : List (List Nat)) (L : Nat) (now : List Nat) : daskedL la lb L (dnext la lb L now) + now.length = daskedL la lb (L + 1) now := by
  unfold daskedL dnext
  induction now with
  | nil => rfl
  | cons i now ih =>
    rw [List.flatMap_cons, List.map_append, List.sum_append, List.map_cons, List.sum_cons, List.length_cons, ← ih, dasked]
    split
    · simp
      omega
    · omega
theorem dasked_zero (la lb : List (List Nat)) (now : List Nat) : daskedL la lb 0 now = now.length := by
  unfold daskedL
  induction now with
  | nil => rfl
  | cons i now ih => rw [List.map_cons, List.sum_cons, ih, List.length_cons, dasked]; omega
theorem kids_len (n i : Nat) : (kids n i).length ≤ 4 := by unfold kids; simp; omega
theorem kids_lt (n i : Nat) : ∀ x ∈ kids n i, x < n := by
  intro x hx
  unfold kids at hx
  obtain ⟨k, hk, rfl⟩ := List.mem_map.1 hx
  have := List.mem_range.1 hk
  omega
theorem dnext_lt (la lb : List (List Nat)) (L : Nat) (now : List Nat) : ∀ x ∈ dnext la lb L now, x < (la.getD L []).length := by
  intro x hx
  obtain ⟨i, _, hi⟩ := List.mem_flatMap.1 hx
  split at hi
  · simp at hi
  · exact kids_lt _ _ x hi
theorem dnext_len (la lb : List (List Nat)) (L : Nat) (now : List Nat) : (dnext la lb L now).length ≤ 4 * now.length := by
  unfold dnext
  induction now with
  | nil => simp
  | cons i now ih =>
    rw [List.flatMap_cons, List.length_append, List.length_cons]
    have : (if nd la (L + 1) i = nd lb (L + 1) i then [] else kids (la.getD L []).length i).length ≤ 4 := by
      split
      · simp
      · exact kids_len _ _
    omega
theorem sum_le (l : List Nat) (b : Nat) (h : ∀ x ∈ l, x ≤ b) : l.sum ≤ l.length * b := by
  induction l with
  | nil => simp
  | cons x l ih =>
    rw [List.sum_cons, List.length_cons, Nat.add_mul]
    have := h x (by simp)
    have := ih (fun y hy => h y (by simp [hy]))
    omega
theorem dasked_le (la lb : List (List Nat)) (L i : Nat) : dasked la lb L i ≤ 5 ^ L := by
  induction L generalizing i with
  | zero => simp [dasked]
  | succ L ih =>
    rw [dasked]
    have h5 : 1 ≤ 5 ^ L := Nat.pow_pos (by omega)
    have h6 : 5 ^ (L + 1) = 5 * 5 ^ L := by rw [Nat.pow_succ]; omega
    split
    · omega
    · have := sum_le ((kids (la.getD L []).length i).map (dasked la lb L)) (5 ^ L) (by
        intro x hx
        obtain ⟨k, _, rfl⟩ := List.mem_map.1 hx
        exact ih k)
      rw [List.length_map] at this
      have h4 := kids_len (la.getD L []).length i
      have := Nat.mul_le_mul_right (5 ^ L) h4
      omega
theorem dasked_pos (la lb : List (List Nat)) (L i : Nat) : 1 ≤ dasked la lb L i := by
  cases L with
  | zero => simp [dasked]
  | succ L =>
    rw [dasked]
    split <;> omega
theorem dplaces_le (la lb : List (List Nat)) (L i : Nat) : (dplaces la lb L i).length ≤ 4 ^ L := by
  induction L generalizing i with
  | zero =>
    rw [dplaces]
    split <;> simp
  | succ L ih =>
    rw [dplaces]
    split
    · simp
    · rw [List.length_flatMap]
      have := sum_le ((kids (la.getD L []).length i).map fun x => (dplaces la lb L x).length) (4 ^ L) (by
        intro x hx
        obtain ⟨k, _, rfl⟩ := List.mem_map.1 hx
        exact ih k)
      rw [List.length_map] at this
      have h4 := kids_len (la.getD L []).length i
      have := Nat.mul_le_mul_right (4 ^ L) h4
      rw [Nat.pow_succ]
      omega
end Mx

/-- a digest of a tree, read -/
theorem Lvls.nd_ {w : World} {a : Option Addr} {k : Nat} {ls : List (List Nat)} (h : Lvls w a k ls) (L i : Nat) (hL : L < k) (hi : i < (ls.getD L []).length) :
    ∃ b off bi offi ni ci, ∃ x : Nat, a = some ⟨b, off, none⟩ ∧ b < w.heap.size ∧ w.cell? ⟨b, off + L, none⟩ = some (.slice (some ⟨bi, offi, none⟩) ni ci) ∧ ni = (ls.getD L []).length ∧ w.cell? ⟨bi, offi + i, none⟩ = some (.int .u64 (x : Int)) ∧ x = Mx.nd ls L i := by
  obtain ⟨b, off, l, ai, ni, ci, ha, hb, hl, hc, hu, _⟩ := h.at_ L hL
  have hg : ls.getD L [] = l := by rw [List.getD_eq_getElem?_getD, hl]; rfl
  rw [hg] at hi
  obtain ⟨bi, offi, x, hai, _, hx, _, hcx⟩ := hu.at_ i (by rw [← hu.1]; exact hi)
  subst hai
  refine ⟨b, off, bi, offi, ni, ci, x, ha, hb, hc, by rw [hg, hu.1], hcx, ?_⟩
  rw [Mx.nd, hg, List.getD_eq_getElem?_getD, hx]
  rfl

end Go.Proofs.Ytdhmijjphgcdmaa
