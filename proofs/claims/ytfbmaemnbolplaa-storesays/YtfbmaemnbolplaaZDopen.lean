/-
  A disk that comes in, read: blocks, puts, a number; a block that comes in.
-/
import Derived.Test.YtfbmaemnbolplaaZDclone
import Derived.Test.YtfbmaemnbolplaaZOpen

namespace Go.Proofs.Ytfbmaemnbolplaa
open Go.ChangeShapes Go.WideShapes Go.ChangeAt Go.RowKit

instance : Inhabited B8 := ⟨zB⟩
instance : Inhabited Pt := ⟨⟨0, zB⟩⟩
theorem Try.cells40 : Try.prog.cellsOf 40 = 9 := by kernel_rfl

theorem Try.cells29 : Try.prog.cellsOf 29 = 3 := by kernel_rfl

theorem put_fields : ∃ f0 f1 : Field, Try.prog.underlying 40 = some (.struct #[f0, f1]) ∧ f0.type = 3 ∧ f0.offset = 0 ∧ f1.type = 38 ∧ f1.offset = 1 := by
  obtain ⟨f0, f1, hfs, g0, g1⟩ := two_of_map Try.fields58
  simp only [Prod.mk.injEq] at g0 g1
  refine ⟨f0, f1, ?_, g0.2.1, g0.2.2, g1.2.1, g1.2.2⟩
  have key : ∀ (a : Array Field), a.toList = [f0, f1] → a = #[f0, f1] := fun a h => Array.ext' h
  rw [Try.under58, key _ hfs]

section
variable {H : Type} {enc : TypeId × Value → H} {W : World}

theorem open_rows {α : Type} [Inhabited α] (cs : α → List Value) (s : Nat) (hs : ∀ x, (cs x).length = s) (hs0 : 0 < s) {x : Addr} {len : Nat} (hl : len ≤ maxLen)
    (each : ∀ i, i < len → ∃ y : α, ∀ (j : Nat) (u : Value), (cs y)[j]? = some u → W.cell? (x.add (i * s + j)) = some u) :
    ∃ l : List α, l.length = len ∧ RowR W (some x) len s (l.flatMap cs) := by
  obtain ⟨f, hf⟩ := Deep.choose_lt each
  refine ⟨(List.range len).map f, by simp, by rw [flatMap_len cs s hs]; simp, hl, fun hp => ?_⟩
  have h0 := hf 0 hp 0 ((cs (f 0))[0]'(by rw [hs]; exact hs0)) (by rw [List.getElem?_eq_getElem])
  rw [Nat.zero_mul, Nat.zero_add] at h0
  obtain ⟨b, off, rfl, hb⟩ := addr_form h0
  refine ⟨b, off, rfl, hb, fun j u hj => ?_⟩
  have hjl : j < len * s := by
    have := (List.getElem?_eq_some_iff.1 hj).1
    rw [flatMap_len cs s hs] at this
    simpa using this
  have hk : j / s < len := by rw [Nat.div_lt_iff_lt_mul hs0]; exact hjl
  have hd : j / s * s + j % s = j := by rw [Nat.mul_comm]; exact Nat.div_add_mod j s
  have h1 := flatMap_at cs s hs ((List.range len).map f) (j / s) (j % s) (f (j / s)) (by simp [hk]) (Nat.mod_lt _ hs0)
  rw [hd, hj] at h1
  have h2 := hf (j / s) hk (j % s) u h1.symm
  rw [hd, addr_add] at h2
  exact h2

theorem open_b8 {fuel : Nat} {cs : List Value} {x : DataW H × List MemPlace} (h : DataW.trod enc Try.prog W 0 (fun _ => true) true fuel 38 cs = some x) :
    cs.length = 8 ∧ ∃ y : B8, ∀ (j : Nat) (u : Value), y.cs[j]? = some u → cs[j]? = some u := by
  obtain ⟨_, _, _, _, hl, _, _⟩ := DataW.trod_array Try.underlying38 h
  rw [Try.cells38] at hl
  refine ⟨hl, ?_⟩
  have e := open_block h
  obtain ⟨z0, h0, _⟩ := e 0 (by omega)
  obtain ⟨z1, h1, _⟩ := e 1 (by omega)
  obtain ⟨z2, h2, _⟩ := e 2 (by omega)
  obtain ⟨z3, h3, _⟩ := e 3 (by omega)
  obtain ⟨z4, h4, _⟩ := e 4 (by omega)
  obtain ⟨z5, h5, _⟩ := e 5 (by omega)
  obtain ⟨z6, h6, _⟩ := e 6 (by omega)
  obtain ⟨z7, h7, _⟩ := e 7 (by omega)
  refine ⟨⟨z0, z1, z2, z3, z4, z5, z6, z7⟩, fun j u hj => ?_⟩
  match j, hj with
  | 0, hj => simpa [B8.cs] using (by simpa [B8.cs] using hj : _) ▸ h0
  | 1, hj => simpa [B8.cs] using (by simpa [B8.cs] using hj : _) ▸ h1
  | 2, hj => simpa [B8.cs] using (by simpa [B8.cs] using hj : _) ▸ h2
  | 3, hj => simpa [B8.cs] using (by simpa [B8.cs] using hj : _) ▸ h3
  | 4, hj => simpa [B8.cs] using (by simpa [B8.cs] using hj : _) ▸ h4
  | 5, hj => simpa [B8.cs] using (by simpa [B8.cs] using hj : _) ▸ h5
  | 6, hj => simpa [B8.cs] using (by simpa [B8.cs] using hj : _) ▸ h6
  | 7, hj => simpa [B8.cs] using (by simpa [B8.cs] using hj : _) ▸ h7
  | n + 8, hj => simp [B8.cs] at hj

/-- blocks -/
theorem open_BL {fuel : Nat} {v : Value} {x : DataW H × List MemPlace} (h : DataW.trod enc Try.prog W 0 (fun _ => true) true fuel 27 [v] = some x) :
    ∃ a len cap l, v = .slice a len cap ∧ BL W a len l := by
  rcases Deep.open_slice Try.underlying27 h with ⟨hcs, _⟩ | ⟨x, len, cap, m, n, D, Pl, hcs, _, hl, hm, hmm, _, hcell⟩
  · simp at hcs
    exact ⟨none, 0, 0, [], hcs, BL.nil W⟩
  · simp at hcs hmm
    obtain ⟨l, h1, h2⟩ := open_rows (W := W) B8.cs 8 (fun _ => rfl) (by omega) (x := x) (len := len) (by omega) (fun i hi => by
      obtain ⟨cs', h1, h2⟩ := hcell i (by omega)
      rw [Try.cells38] at h1
      obtain ⟨hl8, y, hy⟩ := open_b8 h2
      refine ⟨y, fun j u hj => ?_⟩
      have hj8 : j < 8 := (List.getElem?_eq_some_iff.1 hj).1
      have := (World.cells?_some h1).2.2 j hj8
      rw [Deep.add_add] at this
      rw [this]
      exact hy j u hj)
    exact ⟨some x, len, cap, l, hcs, h1, h2⟩

theorem open_pt {fuel : Nat} {cs : List Value} {x : DataW H × List MemPlace} (h : DataW.trod enc Try.prog W 0 (fun _ => true) true fuel 40 cs = some x) :
    cs.length = 9 ∧ ∃ y : Pt, (Lit.int .i64 y.at_).wf = true ∧ ∀ (j : Nat) (u : Value), y.cs[j]? = some u → cs[j]? = some u := by
  obtain ⟨f0, f1, hu, ht0, ho0, ht1, ho1⟩ := put_fields
  obtain ⟨y0, y1, n, _, hl, h0, h1⟩ := trod_struct2 hu h
  rw [Try.cells40] at hl
  rw [ht0, ho0, Try.cells3] at h0
  rw [ht1, ho1, Try.cells38] at h1
  refine ⟨hl, ?_⟩
  obtain ⟨k, hk, _, hw⟩ := DataW.trod_int Try.underlying3 h0
  obtain ⟨_, y, hy⟩ := open_b8 h1
  refine ⟨⟨k, y⟩, hw, fun j u hj => ?_⟩
  cases j with
  | zero =>
    simp [Pt.cs] at hj
    subst hj
    have := congrArg (fun l => l[0]?) hk
    simpa using this
  | succ j =>
    have h2 := hy j u (by simpa [Pt.cs, B8.cs] using hj)
    have hj8 : j < 8 := by
      have := (List.getElem?_eq_some_iff.1 hj).1
      simp [Pt.cs] at this
      omega
    rw [List.getElem?_take_of_lt hj8, List.getElem?_drop, Nat.add_comm] at h2
    exact h2

/-- puts -/
theorem open_PL {fuel : Nat} {v : Value} {x : DataW H × List MemPlace} (h : DataW.trod enc Try.prog W 0 (fun _ => true) true fuel 22 [v] = some x) :
    ∃ a len cap l, v = .slice a len cap ∧ PL W a len l := by
  rcases Deep.open_slice Try.underlying22 h with ⟨hcs, _⟩ | ⟨x, len, cap, m, n, D, Pl, hcs, _, hl, hm, hmm, _, hcell⟩
  · simp at hcs
    exact ⟨none, 0, 0, [], hcs, PL.nil W⟩
  · simp at hcs hmm
    obtain ⟨l, h1, h2⟩ := open_rows (W := W) Pt.cs 9 (fun _ => rfl) (by omega) (x := x) (len := len) (by omega) (fun i hi => by
      obtain ⟨cs', h1, h2⟩ := hcell i (by omega)
      rw [Try.cells40] at h1
      obtain ⟨hl9, y, _, hy⟩ := open_pt h2
      refine ⟨y, fun j u hj => ?_⟩
      have hj9 : j < 9 := (List.getElem?_eq_some_iff.1 hj).1
      have := (World.cells?_some h1).2.2 j hj9
      rw [Deep.add_add] at this
      rw [this]
      exact hy j u hj)
    exact ⟨some x, len, cap, l, hcs, h1, h2⟩

set_option maxRecDepth 100000 in
/-- a block, by value -/
theorem open_blockv {r : Reach} {b0 : Nat} {v : Value} {d : DataW H} {p : List MemPlace} (hv : Value.okWide Try.prog W r b0 38 v) (h : DataW.Trod enc Try.prog W 0 (fun _ => true) true 38 v d p) :
    ∃ x : B8, v = .agg #[.int .u8 x.z0, .int .u8 x.z1, .int .u8 x.z2, .int .u8 x.z3, .int .u8 x.z4, .int .u8 x.z5, .int .u8 x.z6, .int .u8 x.z7] := by
  simp only [Value.okWide, Try.underlying38] at hv
  obtain ⟨cs, rfl, hsz, _⟩ := hv
  rw [Try.cells38] at hsz
  obtain ⟨m, hm⟩ := h
  obtain ⟨_, y, hy⟩ := open_b8 hm
  refine ⟨y, ?_⟩
  congr 1
  apply Array.ext'
  apply List.ext_getElem?
  intro j
  by_cases hj : j < 8
  · have := hy j ((y.cs)[j]'hj) (List.getElem?_eq_getElem _)
    simp only [Value.cells] at this
    rw [this]
    exact (List.getElem?_eq_getElem (l := y.cs) hj).symm
  · rw [List.getElem?_eq_none (by simp; omega), List.getElem?_eq_none (by simp; omega)]

set_option maxRecDepth 100000 in
/-- a disk -/
theorem open_disk {r : Reach} {b0 : Nat} {v : Value} {d : DataW H} {p : List MemPlace} (hv : Value.okWide Try.prog W r b0 29 v) (h : DataW.Trod enc Try.prog W 0 (fun _ => true) true 29 v d p) :
    ∃ sa n sc pa m pc ls ps left, v = .agg #[.slice sa n sc, .slice pa m pc, .int .i64 left] ∧ BL W sa n ls ∧ PL W pa m ps ∧ -9223372036854775808 ≤ left ∧ left ≤ 9223372036854775807 := by
  obtain ⟨v0, v1, v2, y0, y1, y2, n, hv, _, _, h0, h1, h2⟩ := Joins.open_agg3 Try.underlying29 (by kernel_rfl) Try.cells29 hv h
  obtain ⟨k, hk, _, hw⟩ := DataW.trod_int Try.underlying3 h2
  obtain ⟨sa, n, sc, ls, rfl, hl⟩ := open_BL h0
  obtain ⟨pa, m, pc, ps, rfl, hb⟩ := open_PL h1
  simp at hk
  subst hk
  have := bounds_i64 hw
  exact ⟨sa, n, sc, pa, m, pc, ls, ps, k, hv, hl, hb, by omega, by omega⟩
end
end Go.Proofs.Ytfbmaemnbolplaa
