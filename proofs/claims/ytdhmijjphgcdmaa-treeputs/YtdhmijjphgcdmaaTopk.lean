/-
  Blocks that come in, their bytes in bounds: many, and one by value.
-/
import Derived.Test.YtdhmijjphgcdmaaTl
import Derived.Test.YtdhmijjphgcdmaaDopen
namespace Go.Proofs.Ytdhmijjphgcdmaa
open Go.ChangeShapes Go.WideShapes Go.ChangeAt Go.RowKit

section
variable {H : Type} {enc : TypeId × Value → H} {W : World}
theorem open_b8ok {fuel : Nat} {cs : List Value} {x : DataW H × List MemPlace} (h : DataW.trod enc Try.prog W 0 (fun _ => true) true fuel 52 cs = some x) :
    ∃ y : B8, y.ok ∧ ∀ (j : Nat) (u : Value), y.cs[j]? = some u → cs[j]? = some u := by
  obtain ⟨_, y, hy⟩ := open_b8 h
  refine ⟨y, ?_, hy⟩
  have e := open_block h
  have hb : ∀ (j : Nat) (z : Int), j < 8 → y.cs[j]? = some (.int .u8 z) → 0 ≤ z ∧ z ≤ 255 := by
    intro j z hj hz
    obtain ⟨z', h1, h2, h3⟩ := e j hj
    have h4 := hy j _ hz
    rw [h1] at h4
    cases h4
    exact ⟨h2, h3⟩
  intro z hz
  simp only [Mx.bytesOf, List.mem_cons, List.not_mem_nil, or_false] at hz
  rcases hz with rfl | rfl | rfl | rfl | rfl | rfl | rfl | rfl
  · exact hb 0 _ (by omega) rfl
  · exact hb 1 _ (by omega) rfl
  · exact hb 2 _ (by omega) rfl
  · exact hb 3 _ (by omega) rfl
  · exact hb 4 _ (by omega) rfl
  · exact hb 5 _ (by omega) rfl
  · exact hb 6 _ (by omega) rfl
  · exact hb 7 _ (by omega) rfl

instance : Inhabited { y : B8 // y.ok } := ⟨⟨zB, by intro z hz; simp [Mx.bytesOf, zB] at hz; omega⟩⟩

/-- blocks, their bytes in bounds -/
theorem open_BLok {fuel : Nat} {v : Value} {x : DataW H × List MemPlace} (h : DataW.trod enc Try.prog W 0 (fun _ => true) true fuel 23 [v] = some x) :
    ∃ a len cap l, v = .slice a len cap ∧ BL W a len l ∧ ∀ x ∈ l, x.ok := by
  rcases Deep.open_slice Try.underlying23 h with ⟨hcs, _⟩ | ⟨x, len, cap, m, n, D, Pl, hcs, _, hl, hm, hmm, _, hcell⟩
  · simp at hcs
    exact ⟨none, 0, 0, [], hcs, BL.nil W, by simp⟩
  · simp at hcs hmm
    obtain ⟨l, h1, h2⟩ := open_rows (W := W) (fun y : { y : B8 // y.ok } => y.1.cs) 8 (fun _ => rfl) (by omega) (x := x) (len := len) (by omega) (fun i hi => by
      obtain ⟨cs', h1, h2⟩ := hcell i (by omega)
      rw [Try.cells52] at h1
      obtain ⟨y, hyo, hy⟩ := open_b8ok h2
      refine ⟨⟨y, hyo⟩, fun j u hj => ?_⟩
      have hj8 : j < 8 := (List.getElem?_eq_some_iff.1 hj).1
      have := (World.cells?_some h1).2.2 j hj8
      rw [Deep.add_add] at this
      rw [this]
      exact hy j u hj)
    refine ⟨some x, len, cap, l.map (·.1), hcs, ⟨by rw [List.length_map]; exact h1, ?_⟩, fun y hy => ?_⟩
    · unfold flatB
      rw [List.flatMap_map]
      exact h2
    · obtain ⟨z, _, rfl⟩ := List.mem_map.1 hy
      exact z.2

set_option maxRecDepth 100000 in
/-- a block, by value, its bytes in bounds -/
theorem open_blockok {r : Reach} {b0 : Nat} {v : Value} {d : DataW H} {p : List MemPlace} (hv : Value.okWide Try.prog W r b0 52 v) (h : DataW.Trod enc Try.prog W 0 (fun _ => true) true 52 v d p) :
    ∃ x : B8, x.ok ∧ v = .agg #[.int .u8 x.z0, .int .u8 x.z1, .int .u8 x.z2, .int .u8 x.z3, .int .u8 x.z4, .int .u8 x.z5, .int .u8 x.z6, .int .u8 x.z7] := by
  simp only [Value.okWide, Try.underlying52] at hv
  obtain ⟨cs, rfl, hsz, _⟩ := hv
  rw [Try.cells52] at hsz
  obtain ⟨m, hm⟩ := h
  obtain ⟨y, hyo, hy⟩ := open_b8ok hm
  refine ⟨y, hyo, ?_⟩
  congr 1
  apply Array.ext'
  apply List.ext_getElem?
  intro j
  by_cases hj : j < 8
  · have := hy j ((y.cs)[j]'hj) (List.getElem?_eq_getElem _)
    simp only [Value.cells] at this
    rw [this]
    exact (List.getElem?_eq_getElem (l := y.cs) hj).symm
  · rw [List.getElem?_eq_none (by simp; omega), List.getElem?_eq_none (by simp; omega)]
end
end Go.Proofs.Ytdhmijjphgcdmaa
