/-
  A disk that comes in, read: blocks, puts, a number; a block that comes in.
-/
import Derived.Test.YtfbmaemnbolplaaDoorZIter
import Derived.Test.YtfbmaemnbolplaaDoorZDclone
import Derived.Test.YtfbmaemnbolplaaDoorZOpen

namespace Go.Proofs.YtfbmaemnbolplaaDoor
open Go.ChangeShapes Go.WideShapes Go.ChangeAt Go.RowKit

instance : Inhabited B8 := ⟨zB⟩
instance : Inhabited Pt := ⟨⟨0, zB⟩⟩
theorem Tryd.cells38 : Tryd.prog.cellsOf 38 = 9 := by kernel_rfl

theorem put_fields : ∃ f0 f1 : Field, Tryd.prog.underlying 38 = some (.struct #[f0, f1]) ∧ f0.type = 3 ∧ f0.offset = 0 ∧ f1.type = 25 ∧ f1.offset = 1 := by
  obtain ⟨f0, f1, hfs, g0, g1⟩ := two_of_map Tryd.fields58
  simp only [Prod.mk.injEq] at g0 g1
  refine ⟨f0, f1, ?_, g0.2.1, g0.2.2, g1.2.1, g1.2.2⟩
  have key : ∀ (a : Array Field), a.toList = [f0, f1] → a = #[f0, f1] := fun a h => Array.ext' h
  rw [Tryd.under58, key _ hfs]

section
variable {H : Type} {enc : TypeId × Value → H} {W : World}

theorem open_rows {α : Type} [Inhabited α] (cs : α → List Value) (s : Nat) (hs : ∀ x, (cs x).length = s) (hs0 : 0 < s) {x : Addr} {len : Nat} (hl : len ≤ maxLen)
    (each : ∀ i, i < len → ∃ y : α, ∀ (j : Nat) (u : Value), (cs y)[j]? = some u → W.cell? (x.add (i * s + j)) = some u) :
    ∃ l : List α, l.length = len ∧ RowR W (some x) len s (l.flatMap cs) := by
  obtain ⟨f, hf⟩ := Deep.choose_lt each
  refine ⟨(List.range len).map f, by simp, by rw [flatMap_len cs s hs]; simp, hl, fun hp => ?_⟩
  have h0 := hf 0 hp 0 ((cs (f 0))[0]'(by rw [hs]; exact hs0)) (by rw [List.getElem?_eq_getElem])
  rw [Nat.zero_mul, Nat.zero_add] at h0
  obtain ⟨b, off, rfl, hb⟩ := addr_form h0
  refine ⟨b, off, rfl, hb, fun j u hj => ?_⟩
  have hjl : j < len * s := by
    have := (List.getElem?_eq_some_iff.1 hj).1
    rw [flatMap_len cs s hs] at this
    simpa using this
  have hk : j / s < len := by rw [Nat.div_lt_iff_lt_mul hs0]; exact hjl
  have hd : j / s * s + j % s = j := by rw [Nat.mul_comm]; exact Nat.div_add_mod j s
  have h1 := flatMap_at cs s hs ((List.range len).map f) (j / s) (j % s) (f (j / s)) (by simp [hk]) (Nat.mod_lt _ hs0)
  rw [hd, hj] at h1
  have h2 := hf (j / s) hk (j % s) u h1.symm
  rw [hd, addr_add] at h2
  exact h2

theorem open_b8 {fuel : Nat} {cs : List Value} {x : DataW H × List MemPlace} (h : DataW.trod enc Tryd.prog W 0 (fun _ => true) true fuel 25 cs = some x) :
    cs.length = 8 ∧ ∃ y : B8, ∀ (j : Nat) (u : Value), y.cs[j]? = some u → cs[j]? = some u := by
  obtain ⟨_, _, _, _, hl, _, _⟩ := DataW.trod_array Tryd.underlying25 h
  rw [Tryd.cells25] at hl
  refine ⟨hl, ?_⟩
  have e := open_block h
  obtain ⟨z0, h0, _⟩ := e 0 (by omega)
  obtain ⟨z1, h1, _⟩ := e 1 (by omega)
  obtain ⟨z2, h2, _⟩ := e 2 (by omega)
  obtain ⟨z3, h3, _⟩ := e 3 (by omega)
  obtain ⟨z4, h4, _⟩ := e 4 (by omega)
  obtain ⟨z5, h5, _⟩ := e 5 (by omega)
  obtain ⟨z6, h6, _⟩ := e 6 (by omega)
  obtain ⟨z7, h7, _⟩ := e 7 (by omega)
  refine ⟨⟨z0, z1, z2, z3, z4, z5, z6, z7⟩, fun j u hj => ?_⟩
  match j, hj with
  | 0, hj => simpa [B8.cs] using (by simpa [B8.cs] using hj : _) ▸ h0
  | 1, hj => simpa [B8.cs] using (by simpa [B8.cs] using hj : _) ▸ h1
  | 2, hj => simpa [B8.cs] using (by simpa [B8.cs] using hj : _) ▸ h2
  | 3, hj => simpa [B8.cs] using (by simpa [B8.cs] using hj : _) ▸ h3
  | 4, hj => simpa [B8.cs] using (by simpa [B8.cs] using hj : _) ▸ h4
  | 5, hj => simpa [B8.cs] using (by simpa [B8.cs] using hj : _) ▸ h5
  | 6, hj => simpa [B8.cs] using (by simpa [B8.cs] using hj : _) ▸ h6
  | 7, hj => simpa [B8.cs] using (by simpa [B8.cs] using hj : _) ▸ h7
  | n + 8, hj => simp [B8.cs] at hj

/-- blocks -/
theorem open_BL {fuel : Nat} {v : Value} {x : DataW H × List MemPlace} (h : DataW.trod enc Tryd.prog W 0 (fun _ => true) true fuel 22 [v] = some x) :
    ∃ a len cap l, v = .slice a len cap ∧ BL W a len l := by
  rcases Deep.open_slice Tryd.underlying22 h with ⟨hcs, _⟩ | ⟨x, len, cap, m, n, D, Pl, hcs, _, hl, hm, hmm, _, hcell⟩
  · simp at hcs
    exact ⟨none, 0, 0, [], hcs, BL.nil W⟩
  · simp at hcs hmm
    obtain ⟨l, h1, h2⟩ := open_rows (W := W) B8.cs 8 (fun _ => rfl) (by omega) (x := x) (len := len) (by omega) (fun i hi => by
      obtain ⟨cs', h1, h2⟩ := hcell i (by omega)
      rw [Tryd.cells25] at h1
      obtain ⟨hl8, y, hy⟩ := open_b8 h2
      refine ⟨y, fun j u hj => ?_⟩
      have hj8 : j < 8 := (List.getElem?_eq_some_iff.1 hj).1
      have := (World.cells?_some h1).2.2 j hj8
      rw [Deep.add_add] at this
      rw [this]
      exact hy j u hj)
    exact ⟨some x, len, cap, l, hcs, h1, h2⟩

theorem open_pt {fuel : Nat} {cs : List Value} {x : DataW H × List MemPlace} (h : DataW.trod enc Tryd.prog W 0 (fun _ => true) true fuel 38 cs = some x) :
    cs.length = 9 ∧ ∃ y : Pt, (Lit.int .i64 y.at_).wf = true ∧ ∀ (j : Nat) (u : Value), y.cs[j]? = some u → cs[j]? = some u := by
  obtain ⟨f0, f1, hu, ht0, ho0, ht1, ho1⟩ := put_fields
  obtain ⟨y0, y1, n, _, hl, h0, h1⟩ := trod_struct2 hu h
  rw [Tryd.cells38] at hl
  rw [ht0, ho0, Tryd.cells3] at h0
  rw [ht1, ho1, Tryd.cells25] at h1
  refine ⟨hl, ?_⟩
  obtain ⟨k, hk, _, hw⟩ := DataW.trod_int Tryd.underlying3 h0
  obtain ⟨_, y, hy⟩ := open_b8 h1
  refine ⟨⟨k, y⟩, hw, fun j u hj => ?_⟩
  cases j with
  | zero =>
    simp [Pt.cs] at hj
    subst hj
    have := congrArg (fun l => l[0]?) hk
    simpa using this
  | succ j =>
    have h2 := hy j u (by simpa [Pt.cs, B8.cs] using hj)
    have hj8 : j < 8 := by
      have := (List.getElem?_eq_some_iff.1 hj).1
      simp [Pt.cs] at this
      omega
    rw [List.getElem?_take_of_lt hj8, List.getElem?_drop, Nat.add_comm] at h2
    exact h2

/-- puts -/
theorem open_PL {fuel : Nat} {v : Value} {x : DataW H × List MemPlace} (h : DataW.trod enc Tryd.prog W 0 (fun _ => true) true fuel 23 [v] = some x) :
    ∃ a len cap l, v = .slice a len cap ∧ PL W a len l := by
  rcases Deep.open_slice Tryd.underlying23 h with ⟨hcs, _⟩ | ⟨x, len, cap, m, n, D, Pl, hcs, _, hl, hm, hmm, _, hcell⟩
  · simp at hcs
    exact ⟨none, 0, 0, [], hcs, PL.nil W⟩
  · simp at hcs hmm
    obtain ⟨l, h1, h2⟩ := open_rows (W := W) Pt.cs 9 (fun _ => rfl) (by omega) (x := x) (len := len) (by omega) (fun i hi => by
      obtain ⟨cs', h1, h2⟩ := hcell i (by omega)
      rw [Tryd.cells38] at h1
      obtain ⟨hl9, y, _, hy⟩ := open_pt h2
      refine ⟨y, fun j u hj => ?_⟩
      have hj9 : j < 9 := (List.getElem?_eq_some_iff.1 hj).1
      have := (World.cells?_some h1).2.2 j hj9
      rw [Deep.add_add] at this
      rw [this]
      exact hy j u hj)
    exact ⟨some x, len, cap, l, hcs, h1, h2⟩

set_option maxRecDepth 100000 in
/-- a block, by value -/
theorem open_blockv {r : Reach} {b0 : Nat} {v : Value} {d : DataW H} {p : List MemPlace} (hv : Value.okWide Tryd.prog W r b0 25 v) (h : DataW.Trod enc Tryd.prog W 0 (fun _ => true) true 25 v d p) :
    ∃ x : B8, v = .agg #[.int .u8 x.z0, .int .u8 x.z1, .int .u8 x.z2, .int .u8 x.z3, .int .u8 x.z4, .int .u8 x.z5, .int .u8 x.z6, .int .u8 x.z7] := by
  simp only [Value.okWide, Tryd.underlying25] at hv
  obtain ⟨cs, rfl, hsz, _⟩ := hv
  rw [Tryd.cells25] at hsz
  obtain ⟨m, hm⟩ := h
  obtain ⟨_, y, hy⟩ := open_b8 hm
  refine ⟨y, ?_⟩
  congr 1
  apply Array.ext'
  apply List.ext_getElem?
  intro j
  by_cases hj : j < 8
  · have := hy j ((y.cs)[j]'hj) (List.getElem?_eq_getElem _)
    simp only [Value.cells] at this
    rw [this]
    exact (List.getElem?_eq_getElem (l := y.cs) hj).symm
  · rw [List.getElem?_eq_none (by simp; omega), List.getElem?_eq_none (by simp; omega)]

end
end Go.Proofs.YtfbmaemnbolplaaDoor

/-
  Blocks that come in, their bytes in bounds: many, and one by value.
-/
namespace Go.Proofs.YtfbmaemnbolplaaDoor
open Go.ChangeShapes Go.WideShapes Go.ChangeAt Go.RowKit

section
variable {H : Type} {enc : TypeId × Value → H} {W : World}
theorem open_b8ok {fuel : Nat} {cs : List Value} {x : DataW H × List MemPlace} (h : DataW.trod enc Tryd.prog W 0 (fun _ => true) true fuel 25 cs = some x) :
    ∃ y : B8, y.ok ∧ ∀ (j : Nat) (u : Value), y.cs[j]? = some u → cs[j]? = some u := by
  obtain ⟨_, y, hy⟩ := open_b8 h
  refine ⟨y, ?_, hy⟩
  have e := open_block h
  have hb : ∀ (j : Nat) (z : Int), j < 8 → y.cs[j]? = some (.int .u8 z) → 0 ≤ z ∧ z ≤ 255 := by
    intro j z hj hz
    obtain ⟨z', h1, h2, h3⟩ := e j hj
    have h4 := hy j _ hz
    rw [h1] at h4
    cases h4
    exact ⟨h2, h3⟩
  intro z hz
  simp only [Mx.bytesOf, List.mem_cons, List.not_mem_nil, or_false] at hz
  rcases hz with rfl | rfl | rfl | rfl | rfl | rfl | rfl | rfl
  · exact hb 0 _ (by omega) rfl
  · exact hb 1 _ (by omega) rfl
  · exact hb 2 _ (by omega) rfl
  · exact hb 3 _ (by omega) rfl
  · exact hb 4 _ (by omega) rfl
  · exact hb 5 _ (by omega) rfl
  · exact hb 6 _ (by omega) rfl
  · exact hb 7 _ (by omega) rfl

instance : Inhabited { y : B8 // y.ok } := ⟨⟨zB, by intro z hz; simp [Mx.bytesOf, zB] at hz; omega⟩⟩

/-- blocks, their bytes in bounds -/
theorem open_BLok {fuel : Nat} {v : Value} {x : DataW H × List MemPlace} (h : DataW.trod enc Tryd.prog W 0 (fun _ => true) true fuel 22 [v] = some x) :
    ∃ a len cap l, v = .slice a len cap ∧ BL W a len l ∧ ∀ x ∈ l, x.ok := by
  rcases Deep.open_slice Tryd.underlying22 h with ⟨hcs, _⟩ | ⟨x, len, cap, m, n, D, Pl, hcs, _, hl, hm, hmm, _, hcell⟩
  · simp at hcs
    exact ⟨none, 0, 0, [], hcs, BL.nil W, by simp⟩
  · simp at hcs hmm
    obtain ⟨l, h1, h2⟩ := open_rows (W := W) (fun y : { y : B8 // y.ok } => y.1.cs) 8 (fun _ => rfl) (by omega) (x := x) (len := len) (by omega) (fun i hi => by
      obtain ⟨cs', h1, h2⟩ := hcell i (by omega)
      rw [Tryd.cells25] at h1
      obtain ⟨y, hyo, hy⟩ := open_b8ok h2
      refine ⟨⟨y, hyo⟩, fun j u hj => ?_⟩
      have hj8 : j < 8 := (List.getElem?_eq_some_iff.1 hj).1
      have := (World.cells?_some h1).2.2 j hj8
      rw [Deep.add_add] at this
      rw [this]
      exact hy j u hj)
    refine ⟨some x, len, cap, l.map (·.1), hcs, ⟨by rw [List.length_map]; exact h1, ?_⟩, fun y hy => ?_⟩
    · unfold flatB
      rw [List.flatMap_map]
      exact h2
    · obtain ⟨z, _, rfl⟩ := List.mem_map.1 hy
      exact z.2

set_option maxRecDepth 100000 in
/-- a block, by value, its bytes in bounds -/
theorem open_blockok {r : Reach} {b0 : Nat} {v : Value} {d : DataW H} {p : List MemPlace} (hv : Value.okWide Tryd.prog W r b0 25 v) (h : DataW.Trod enc Tryd.prog W 0 (fun _ => true) true 25 v d p) :
    ∃ x : B8, x.ok ∧ v = .agg #[.int .u8 x.z0, .int .u8 x.z1, .int .u8 x.z2, .int .u8 x.z3, .int .u8 x.z4, .int .u8 x.z5, .int .u8 x.z6, .int .u8 x.z7] := by
  simp only [Value.okWide, Tryd.underlying25] at hv
  obtain ⟨cs, rfl, hsz, _⟩ := hv
  rw [Tryd.cells25] at hsz
  obtain ⟨m, hm⟩ := h
  obtain ⟨y, hyo, hy⟩ := open_b8ok hm
  refine ⟨y, hyo, ?_⟩
  congr 1
  apply Array.ext'
  apply List.ext_getElem?
  intro j
  by_cases hj : j < 8
  · have := hy j ((y.cs)[j]'hj) (List.getElem?_eq_getElem _)
    simp only [Value.cells] at this
    rw [this]
    exact (List.getElem?_eq_getElem (l := y.cs) hj).symm
  · rw [List.getElem?_eq_none (by simp; omega), List.getElem?_eq_none (by simp; omega)]
end
end Go.Proofs.YtfbmaemnbolplaaDoor
