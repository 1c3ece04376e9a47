/-
  A builder that comes in, read; a put that comes in.
-/
import Derived.Lib.SmallJoins
import Derived.Deep.SlicePairs
import Derived.Test.YtkebmfocgalinabZDopen
import Derived.Test.YtkebmfocgalinabZEl

namespace Go.Proofs.Ytkebmfocgalinab
open Go.ChangeShapes Go.WideShapes Go.ChangeAt Go.RowKit

theorem open_PLroom {H : Type} {enc : TypeId × Value → H} {W : World} {fuel : Nat} {v : Value} {x : DataW H × List MemPlace} (h : DataW.trod enc Try.prog W 0 (fun _ => true) true fuel 22 [v] = some x) :
    ∃ a len cap l, v = .slice a len cap ∧ PL W a len l ∧ len ≤ cap := by
  obtain ⟨a, n, c, l, rfl, hl⟩ := open_PL h
  refine ⟨a, n, c, l, rfl, hl, ?_⟩
  rcases Deep.open_slice Try.underlying22 h with ⟨hcs, _⟩ | ⟨x, len, cap, m, _, D, Pl, hcs, _, hle, _⟩
  · simp at hcs
    omega
  · simp at hcs
    omega

set_option maxRecDepth 100000 in
/-- a put, by value -/
theorem open_putv {H : Type} {enc : TypeId × Value → H} {W : World} {r : Reach} {b0 : Nat} {v : Value} {d : DataW H} {p : List MemPlace} (hv : Value.okWide Try.prog W r b0 29 v) (h : DataW.Trod enc Try.prog W 0 (fun _ => true) true 29 v d p) :
    ∃ (px : Int) (pd : B8), v = .agg #[.int .i64 px, .int .u8 pd.z0, .int .u8 pd.z1, .int .u8 pd.z2, .int .u8 pd.z3, .int .u8 pd.z4, .int .u8 pd.z5, .int .u8 pd.z6, .int .u8 pd.z7] := by
  obtain ⟨f0, f1, hu, _⟩ := put_fields
  obtain ⟨cs, rfl, hsz⟩ := okWide_struct hu hv
  rw [Try.cells29] at hsz
  obtain ⟨m, hm⟩ := h
  obtain ⟨_, ⟨px, pd⟩, _, hy⟩ := open_pt hm
  refine ⟨px, pd, ?_⟩
  congr 1
  apply Array.ext'
  apply List.ext_getElem?
  intro j
  by_cases hj : j < 9
  · have := hy j (((⟨px, pd⟩ : Pt).cs)[j]'hj) (List.getElem?_eq_getElem _)
    simp only [Value.cells] at this
    rw [this]
    exact (List.getElem?_eq_getElem (l := (⟨px, pd⟩ : Pt).cs) hj).symm
  · rw [List.getElem?_eq_none (by simp; omega), List.getElem?_eq_none (by simp; omega)]

theorem Try.cells42 : Try.prog.cellsOf 42 = 2 := by kernel_rfl

theorem Try.cells22 : Try.prog.cellsOf 22 = 1 := by kernel_rfl

theorem Try.fieldsEp : (Try.prog.fieldsOf 42).toList.map (fun f => (f.name, f.type, f.offset)) = [("Num", 3, 0), ("Puts", 22, 1)] := by kernel_rfl

theorem Try.underEp : Try.prog.underlying 42 = some (.struct (Try.prog.fieldsOf 42)) := by kernel_rfl

theorem ep_fields : ∃ f0 f1 : Field, Try.prog.underlying 42 = some (.struct #[f0, f1]) ∧ f0.type = 3 ∧ f0.offset = 0 ∧ f1.type = 22 ∧ f1.offset = 1 := by
  obtain ⟨f0, f1, hfs, g0, g1⟩ := two_of_map Try.fieldsEp
  simp only [Prod.mk.injEq] at g0 g1
  refine ⟨f0, f1, ?_, g0.2.1, g0.2.2, g1.2.1, g1.2.2⟩
  have key : ∀ (a : Array Field), a.toList = [f0, f1] → a = #[f0, f1] := fun a h => Array.ext' h
  rw [Try.underEp, key _ hfs]

instance : Inhabited Ep := ⟨⟨0, []⟩⟩

/-- epochs -/
theorem open_EL {H : Type} {enc : TypeId × Value → H} {W : World} {fuel : Nat} {v : Value} {x : DataW H × List MemPlace} (h : DataW.trod enc Try.prog W 0 (fun _ => true) true fuel 23 [v] = some x) :
    ∃ a len cap l, v = .slice a len cap ∧ EL W a len l ∧ len ≤ cap ∧ (a = none → len = 0 ∧ cap = 0) := by
  obtain ⟨f0, f1, hu, t0, o0, t1, o1⟩ := ep_fields
  rcases Deep.open_slice_pairs Try.underlying23 hu Try.cells42 o0 o1 (by rw [t0]; exact Try.cells3) (by rw [t1]; exact Try.cells22) h with ⟨hcs, _⟩ | ⟨x, len, cap, m, n, V0, V1, D0, D1, P0, P1, hcs, _, hl, hm, hmm, _, hcell⟩
  · simp at hcs
    exact ⟨none, 0, 0, [], hcs, EL.nil W, Nat.le_refl _, fun _ => ⟨rfl, rfl⟩⟩
  · simp at hcs hmm
    have each : ∀ i, i < len → ∃ e : Ep, ∃ ai ni ci, W.cell? (x.add (i * 2)) = some (.int .i64 e.num) ∧ W.cell? (x.add (i * 2 + 1)) = some (.slice ai ni ci) ∧ PL W ai ni e.puts ∧ ni ≤ ci := by
      intro i hi
      obtain ⟨c0, c1, d0, d1⟩ := hcell i (by omega)
      rw [t0] at d0
      rw [t1] at d1
      obtain ⟨z, hz, _⟩ := DataW.trod_int Try.underlying3 d0
      obtain ⟨ai, ni, ci, l, hv, hp, hc⟩ := open_PLroom d1
      simp at hz
      rw [hz] at c0
      rw [hv] at c1
      exact ⟨⟨z, l⟩, ai, ni, ci, c0, c1, hp, hc⟩
    obtain ⟨f, hf⟩ := Deep.choose_lt each
    refine ⟨some x, len, cap, (List.range len).map f, hcs, ⟨by simp, by omega, fun hp => ?_⟩, hl, fun hx => by cases hx⟩
    obtain ⟨_, _, _, h0, _⟩ := hf 0 hp
    rw [Nat.zero_mul] at h0
    obtain ⟨b, off, hx, hb⟩ := addr_form h0
    subst hx
    refine ⟨b, off, rfl, hb, fun i e he => ?_⟩
    have hi : i < len := by have := (List.getElem?_eq_some_iff.1 he).1; simpa using this
    obtain ⟨ai, ni, ci, c0, c1, hp', hc⟩ := hf i hi
    have he' : f i = e := by simpa [hi] using he
    subst he'
    rw [Addr.add_lit] at c0 c1
    exact ⟨ai, ni, ci, c0, by rw [Nat.add_assoc]; exact c1, hp', hc⟩

theorem Try.cells25 : Try.prog.cellsOf 25 = 4 := by kernel_rfl

set_option maxRecDepth 100000 in
/-- a builder -/
theorem open_builder {H : Type} {enc : TypeId × Value → H} {W : World} {r : Reach} {b0 : Nat} {v : Value} {d : DataW H} {p : List MemPlace} (hv : Value.okWide Try.prog W r b0 25 v) (h : DataW.Trod enc Try.prog W 0 (fun _ => true) true 25 v d p) :
    ∃ num oa on oc sa sn sc be ops es, v = .agg #[.int .i64 num, .slice oa on oc, .slice sa sn sc, .bool be] ∧ PL W oa on ops ∧ EL W sa sn es ∧ on ≤ oc ∧ sn ≤ sc ∧ (sa = none → sn = 0 ∧ sc = 0) := by
  obtain ⟨v0, v1, v2, v3, y0, y1, y2, y3, n, hv, _, _, h0, h1, h2, h3⟩ := Joins.open_agg4 Try.underlying25 (by kernel_rfl) Try.cells25 hv h
  obtain ⟨k, hk, _, hw⟩ := DataW.trod_int Try.underlying3 h0
  obtain ⟨oa, on, oc, ops, rfl, hp, hc⟩ := open_PLroom h1
  obtain ⟨sa, sn, sc, es, rfl, he, hsc, hnil⟩ := open_EL h2
  obtain ⟨b, hb, _⟩ := DataW.trod_bool Try.underlying4 h3
  simp at hk hb
  subst hk hb
  exact ⟨k, oa, on, oc, sa, sn, sc, b, ops, es, hv, hp, he, hc, hsc, hnil⟩

end Go.Proofs.Ytkebmfocgalinab
