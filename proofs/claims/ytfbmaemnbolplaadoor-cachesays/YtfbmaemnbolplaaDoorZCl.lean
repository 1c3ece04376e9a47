/-
  Puts that come in, their blocks' bytes in bounds; the table as it is laid.
-/
import Derived.ProofKit
import Derived.LaidMore
import Derived.OpenShut
import Derived.Test.YtfbmaemnbolplaaDoorRows
import Derived.Test.YtfbmaemnbolplaaDoorZDopen
import Derived.Test.YtfbmaemnbolplaaDoorZCh

namespace Go.Proofs.YtfbmaemnbolplaaDoor
open Go.ChangeShapes Go.WideShapes Go.ChangeAt Go.RowKit

section
variable {H : Type} {enc : TypeId × Value → H} {W : World}
theorem open_ptok {fuel : Nat} {cs : List Value} {x : DataW H × List MemPlace} (h : DataW.trod enc Tryd.prog W 0 (fun _ => true) true fuel 38 cs = some x) :
    ∃ y : Pt, y.d.ok ∧ ∀ (j : Nat) (u : Value), y.cs[j]? = some u → cs[j]? = some u := by
  obtain ⟨_, y, _, hy⟩ := open_pt h
  refine ⟨y, ?_, hy⟩
  obtain ⟨f0, f1, hu, ht0, ho0, ht1, ho1⟩ := put_fields
  obtain ⟨y0, y1, n, _, hl, h0, h1⟩ := trod_struct2 hu h
  rw [ht1, ho1, Tryd.cells25] at h1
  obtain ⟨y', hyo, hy'⟩ := open_b8ok h1
  have e : y.d = y' := by
    have key : ∀ j u, j < 8 → y.d.cs[j]? = some u → y'.cs[j]? = some u := fun j u hj hu => by
      obtain ⟨u', hu'⟩ : ∃ u', y'.cs[j]? = some u' := ⟨y'.cs[j]'(by show j < 8; exact hj), List.getElem?_eq_getElem _⟩
      have a1 := hy (j + 1) u (by simpa [Pt.cs, B8.cs] using hu)
      have a2 := hy' j u' hu'
      rw [List.getElem?_take, if_pos hj, List.getElem?_drop, Nat.add_comm, a1] at a2
      rw [hu', a2]
    have k0 := key 0 _ (by omega) rfl
    have k1 := key 1 _ (by omega) rfl
    have k2 := key 2 _ (by omega) rfl
    have k3 := key 3 _ (by omega) rfl
    have k4 := key 4 _ (by omega) rfl
    have k5 := key 5 _ (by omega) rfl
    have k6 := key 6 _ (by omega) rfl
    have k7 := key 7 _ (by omega) rfl
    simp [B8.cs] at k0 k1 k2 k3 k4 k5 k6 k7
    cases hyd : y.d
    cases y'
    simp_all
  rw [e]
  exact hyo

instance : Inhabited { y : Pt // y.d.ok } := ⟨⟨⟨0, zB⟩, by intro z hz; simp [Mx.bytesOf, zB] at hz; omega⟩⟩

theorem open_PLok {fuel : Nat} {v : Value} {x : DataW H × List MemPlace} (h : DataW.trod enc Tryd.prog W 0 (fun _ => true) true fuel 23 [v] = some x) :
    ∃ a len cap l, v = .slice a len cap ∧ PL W a len l ∧ ∀ x ∈ l, x.d.ok := by
  rcases Deep.open_slice Tryd.underlying23 h with ⟨hcs, _⟩ | ⟨x, len, cap, m, n, D, Pl, hcs, _, hl, hm, hmm, _, hcell⟩
  · simp at hcs
    exact ⟨none, 0, 0, [], hcs, PL.nil W, by simp⟩
  · simp at hcs hmm
    obtain ⟨l, h1, h2⟩ := open_rows (W := W) (fun y : { y : Pt // y.d.ok } => y.1.cs) 9 (fun _ => rfl) (by omega) (x := x) (len := len) (by omega) (fun i hi => by
      obtain ⟨cs', h1, h2⟩ := hcell i (by omega)
      rw [Tryd.cells38] at h1
      obtain ⟨y, hyo, hy⟩ := open_ptok h2
      refine ⟨⟨y, hyo⟩, fun j u hj => ?_⟩
      have hj9 : j < 9 := (List.getElem?_eq_some_iff.1 hj).1
      have := (World.cells?_some h1).2.2 j hj9
      rw [Deep.add_add] at this
      rw [this]
      exact hy j u hj)
    refine ⟨some x, len, cap, l.map (·.1), hcs, ⟨by rw [List.length_map]; exact h1, ?_⟩, fun y hy => ?_⟩
    · unfold flatP
      rw [List.flatMap_map]
      exact h2
    · obtain ⟨z, _, rfl⟩ := List.mem_map.1 hy
      exact z.2
end

theorem gTab : Tryd.prog.globalNamed "math/bits.deBruijn64tab" = some 0 := by kernel_rfl
theorem tTab : (Tryd.prog.globals[0]?).map (·.type) = some 50 := by kernel_rfl

theorem tab_data : (Rows.laid_math_bits_deBruijn64tab : DataW Unit) = .agg (Mx.tab.map fun z => .lit (.int .u8 z)) := rfl

/-- what the condition gives: the table's cells -/
theorem tb_of_laid {W : World} (h : laidMetH Tryd.prog [("math/bits.deBruijn64tab", Rows.laid_math_bits_deBruijn64tab)] W) : Tb W ∧ 0 < W.heap.size := by
  rw [MakeChecks.laidMetH_plain _ _ _ (by kernel_rfl)] at h
  obtain ⟨ps, ⟨g0, t0, cs0, f0, p0, q0, hg0, ht0, hv0, hd0, _⟩, _⟩ := h
  obtain rfl := Option.some.inj (gTab.symm.trans hg0)
  obtain rfl := Option.some.inj (tTab.symm.trans ht0)
  obtain ⟨xs, m1, rfl, hx1, hlen, hn, hel⟩ := DataW.trod_array Tryd.underlying50 hd0
  rw [tab_data] at hx1
  simp only [Prod.mk.injEq, DataW.agg.injEq] at hx1
  have hc : Tryd.prog.cellsOf 5 = 1 := Tryd.cellsOf5
  have key : Tb W := by
    intro j hj
    have h1 := hel j hj
    have hjx : j < xs.length := by omega
    rw [List.getElem?_eq_getElem hjx, hc, Nat.mul_one] at h1
    obtain ⟨k, e1, e2, _⟩ := DataW.trod_int Tryd.underlying5 h1
    have h2 : (xs.map (·.1))[j]? = some (.lit (.int .u8 k)) := by rw [List.getElem?_map, List.getElem?_eq_getElem hjx, Option.map_some, e2]
    rw [← hx1.1, List.getElem?_map] at h2
    have h3 : Mx.tab[j]? = some (Mx.tab.getD j 0) := by
      have hl : j < Mx.tab.length := hj
      rw [List.getD_eq_getElem?_getD, List.getElem?_eq_getElem hl]
      rfl
    rw [h3] at h2
    simp only [Option.map_some, Option.some.injEq, DataW.lit.injEq, Lit.int.injEq, true_and] at h2
    rw [World.var?_cell hg0 hv0 j]
    have h4 : (cs0.toList.drop j).take 1 = [.int .u8 k] := e1
    have h5 : cs0.toList[j]? = some (.int .u8 k) := by
      have h6 := congrArg (fun l => l[0]?) h4
      simpa [List.getElem?_take, List.getElem?_drop] using h6
    rw [← Array.getElem?_toList, h5, h2]
  refine ⟨key, ?_⟩
  have h0 := key 0 (by omega)
  rcases Nat.eq_zero_or_pos W.heap.size with hz | hz
  · exfalso
    have : W.heap[0]? = none := Array.getElem?_eq_none (by omega)
    simp [World.cell?, this] at h0
  · exact hz

end Go.Proofs.YtfbmaemnbolplaaDoor
