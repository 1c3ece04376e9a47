/-
  A tree that comes in, read: levels of numbers.
-/
import Derived.Test.YtdhmijjphgcdmaaZTs
import Derived.Test.YtdhmijjphgcdmaaZDopen

namespace Go.Proofs.Ytdhmijjphgcdmaa
open Go.ChangeShapes Go.WideShapes Go.ChangeAt Go.RowKit

theorem Try.cells78 : Try.prog.cellsOf 78 = 1 := by kernel_rfl
theorem Try.cells92 : Try.prog.cellsOf 92 = 1 := by kernel_rfl
theorem Try.cells82 : Try.prog.cellsOf 82 = 1 := by kernel_rfl

section
variable {H : Type} {enc : TypeId × Value → H} {W : World}

/-- numbers of 64 bits -/
theorem open_u64s {fuel : Nat} {v : Value} {x : DataW H × List MemPlace} (h : DataW.trod enc Try.prog W 0 (fun _ => true) true fuel 92 [v] = some x) :
    ∃ a len cap l, v = .slice a len cap ∧ U64s W a len l ∧ len ≤ cap := by
  rcases open_ints Try.underlying92 Try.underlying78 Try.cells78 h with ⟨hcs, _⟩ | ⟨x, len, cap, zs, hcs, _, hl, hm, hz, _, hcell, hwf⟩
  · simp at hcs
    exact ⟨none, 0, 0, [], hcs, U64s.nil W, Nat.le_refl _⟩
  · simp at hcs hz
    refine ⟨some x, len, cap, (zs.take len).map Int.toNat, hcs, ⟨by rw [List.length_map, List.length_take]; omega, by omega, fun z hz' => ?_, fun hp => ?_⟩, hl⟩
    · obtain ⟨y, hy, rfl⟩ := List.mem_map.1 hz'
      have := bounds_u64 (hwf y (List.mem_of_mem_take hy))
      omega
    · obtain ⟨b, off, rfl, hb⟩ := addr_form (hcell 0 (by omega))
      refine ⟨b, off, rfl, hb, fun i hi => ?_⟩
      have := hcell i (by omega)
      rw [addr_add] at this
      rw [this]
      have hg : zs[i]? = some zs[i] := List.getElem?_eq_getElem (by omega)
      have hw := bounds_u64 (hwf zs[i] (List.getElem_mem _))
      congr 2
      rw [List.getD_eq_getElem?_getD, hg, List.getD_eq_getElem?_getD, List.getElem?_map, List.getElem?_take_of_lt hi, hg]
      show zs[i] = ((zs[i].toNat : Nat) : Int)
      omega

/-- levels -/
theorem open_lvls {fuel : Nat} {v : Value} {x : DataW H × List MemPlace} (h : DataW.trod enc Try.prog W 0 (fun _ => true) true fuel 80 [v] = some x) :
    ∃ a len cap ls, v = .slice a len cap ∧ Lvls W a len ls := by
  rcases Deep.open_slice1 Try.underlying80 Try.cells92 h with ⟨hcs, _⟩ | ⟨x, len, cap, m, n, V, D, Pl, hcs, _, hl, hm, hmm, _, hcell⟩
  · simp at hcs
    exact ⟨none, 0, 0, [], hcs, rfl, by unfold maxLen; omega, fun h => absurd h (by omega)⟩
  · simp at hcs hmm
    obtain ⟨f, hf⟩ := Deep.choose_lt (α := List Nat) (n := len) (p := fun i l => ∃ ai ni ci, W.cell? (x.add i) = some (.slice ai ni ci) ∧ U64s W ai ni l ∧ ni ≤ ci) (fun i hi => by
      obtain ⟨h1, h2⟩ := hcell i (by omega)
      obtain ⟨ai, ni, ci, l, hv, hu, hc⟩ := open_u64s h2
      exact ⟨l, ai, ni, ci, by rw [h1, hv], hu, hc⟩)
    refine ⟨some x, len, cap, (List.range len).map f, hcs, by simp, by omega, fun hp => ?_⟩
    obtain ⟨a0, n0, c0, h0, _⟩ := hf 0 hp
    obtain ⟨b, off, rfl, hb⟩ := addr_form h0
    refine ⟨b, off, rfl, hb, fun i l hl' => ?_⟩
    have hi : i < len := by have := (List.getElem?_eq_some_iff.1 hl').1; simpa using this
    obtain ⟨ai, ni, ci, h1, h2, h3⟩ := hf i hi
    rw [addr_add] at h1
    simp [hi] at hl'
    subst hl'
    exact ⟨ai, ni, ci, h1, h2, h3⟩

set_option maxRecDepth 100000 in
/-- a tree -/
theorem open_tree {r : Reach} {b0 : Nat} {v : Value} {d : DataW H} {p : List MemPlace} (hv : Value.okWide Try.prog W r b0 82 v) (h : DataW.Trod enc Try.prog W 0 (fun _ => true) true 82 v d p) :
    ∃ a k c ls, v = .agg #[.slice a k c] ∧ Lvls W a k ls := by
  obtain ⟨cs, rfl, hsz⟩ := okWide_struct Try.underlying82 hv
  rw [Try.cells82] at hsz
  obtain ⟨l⟩ := cs
  match l, hsz with
  | [c0], _ =>
    obtain ⟨fuel, hf⟩ := h
    obtain ⟨y0, n, _, _, h0⟩ := trod_struct1 Try.underlying82 hf
    obtain ⟨a, k, c, ls, rfl, hl⟩ := open_lvls (fuel := n) (v := c0) (x := y0) h0
    exact ⟨a, k, c, ls, rfl, hl⟩
end
end Go.Proofs.Ytdhmijjphgcdmaa
