/-
  Blocks that come in, with their room; packets that come in.
-/
import Derived.Lib.SmallJoins
import Derived.Test.YtpjgliocancgeabZDbox
import Derived.Test.YtpjgliocancgeabZDopen

namespace Go.Proofs.Ytpjgliocancgeab
open Go.ChangeShapes Go.WideShapes Go.ChangeAt Go.RowKit

/-- blocks, with their room -/
theorem open_BLroom {H : Type} {enc : TypeId × Value → H} {W : World} {fuel : Nat} {v : Value} {x : DataW H × List MemPlace} (h : DataW.trod enc Try.prog W 0 (fun _ => true) true fuel 54 [v] = some x) :
    ∃ a len cap l, v = .slice a len cap ∧ BL W a len l ∧ len ≤ cap := by
  obtain ⟨a, n, c, l, rfl, hl⟩ := open_BL h
  refine ⟨a, n, c, l, rfl, hl, ?_⟩
  rcases Deep.open_slice Try.underlying54 h with ⟨hcs, _⟩ | ⟨x, len, cap, m, _, D, Pl, hcs, _, hle, _⟩
  · simp at hcs
    omega
  · simp at hcs
    omega

instance : Inhabited Pk := ⟨⟨0, 0, 0, zB⟩⟩
theorem Try.cells59 : Try.prog.cellsOf 59 = 11 := by kernel_rfl
theorem pk_fields : ∃ f0 f1 f2 f3 : Field, Try.prog.underlying 59 = some (.struct #[f0, f1, f2, f3]) ∧ (f0.type = 3 ∧ f0.offset = 0) ∧ (f1.type = 3 ∧ f1.offset = 1) ∧ (f2.type = 3 ∧ f2.offset = 2) ∧ f3.type = 27 ∧ f3.offset = 3 := by
  obtain ⟨f0, f1, f2, f3, hfs, g0, g1, g2, g3⟩ := four_of_map Try.fieldsPk
  simp only [Prod.mk.injEq] at g0 g1 g2 g3
  refine ⟨f0, f1, f2, f3, ?_, g0.2, g1.2, g2.2, g3.2⟩
  have key : ∀ (a : Array Field), a.toList = [f0, f1, f2, f3] → a = #[f0, f1, f2, f3] := fun a h => Array.ext' h
  rw [Try.underPk, key _ hfs]

theorem open_pk {H : Type} {enc : TypeId × Value → H} {W : World} {fuel : Nat} {cs : List Value} {x : DataW H × List MemPlace} (h : DataW.trod enc Try.prog W 0 (fun _ => true) true fuel 59 cs = some x) :
    ∃ y : Pk, ∀ (j : Nat) (u : Value), y.cs[j]? = some u → cs[j]? = some u := by
  obtain ⟨f0, f1, f2, f3, hu, ⟨ht0, ho0⟩, ⟨ht1, ho1⟩, ⟨ht2, ho2⟩, ht3, ho3⟩ := pk_fields
  obtain ⟨y0, y1, y2, y3, n, _, hl, h0, h1, h2, h3⟩ := Joins.trod_struct4 hu h
  rw [Try.cells59] at hl
  rw [ht0, ho0, Try.cells3] at h0
  rw [ht1, ho1, Try.cells3] at h1
  rw [ht2, ho2, Try.cells3] at h2
  rw [ht3, ho3, Try.cells27] at h3
  obtain ⟨k0, hk0, _⟩ := DataW.trod_int Try.underlying3 h0
  obtain ⟨k1, hk1, _⟩ := DataW.trod_int Try.underlying3 h1
  obtain ⟨k2, hk2, _⟩ := DataW.trod_int Try.underlying3 h2
  obtain ⟨_, y, hy⟩ := open_b8 h3
  have one : ∀ (o : Nat) (k : Int), (cs.drop o).take 1 = [.int .i64 k] → cs[o]? = some (.int .i64 k) := by
    intro o k hk
    have := congrArg (fun l => l[0]?) hk
    simpa using this
  refine ⟨⟨k0, k1, k2, y⟩, fun j u hj => ?_⟩
  match j, hj with
  | 0, hj =>
    simp [Pk.cs] at hj
    subst hj
    exact one 0 k0 hk0
  | 1, hj =>
    simp [Pk.cs] at hj
    subst hj
    exact one 1 k1 hk1
  | 2, hj =>
    simp [Pk.cs] at hj
    subst hj
    exact one 2 k2 hk2
  | j + 3, hj =>
    have h4 := hy j u (by simpa [Pk.cs, B8.cs] using hj)
    have hj8 : j < 8 := by
      have := (List.getElem?_eq_some_iff.1 hj).1
      simp [Pk.cs] at this
      omega
    rw [List.getElem?_take_of_lt hj8, List.getElem?_drop, Nat.add_comm] at h4
    exact h4

/-- packets -/
theorem open_QL {H : Type} {enc : TypeId × Value → H} {W : World} {fuel : Nat} {v : Value} {x : DataW H × List MemPlace} (h : DataW.trod enc Try.prog W 0 (fun _ => true) true fuel 57 [v] = some x) :
    ∃ a len cap l, v = .slice a len cap ∧ QL W a len l := by
  rcases Deep.open_slice Try.underlying57 h with ⟨hcs, _⟩ | ⟨x, len, cap, m, n, D, Pl, hcs, _, hl, hm, hmm, _, hcell⟩
  · simp at hcs
    exact ⟨none, 0, 0, [], hcs, QL.nil W⟩
  · simp at hcs hmm
    obtain ⟨l, h1, h2⟩ := open_rows (W := W) Pk.cs 11 (fun _ => rfl) (by omega) (x := x) (len := len) (by omega) (fun i hi => by
      obtain ⟨cs', h1, h2⟩ := hcell i (by omega)
      rw [Try.cells59] at h1
      obtain ⟨y, hy⟩ := open_pk h2
      refine ⟨y, fun j u hj => ?_⟩
      have hj9 : j < 11 := (List.getElem?_eq_some_iff.1 hj).1
      have := (World.cells?_some h1).2.2 j hj9
      rw [Deep.add_add] at this
      rw [this]
      exact hy j u hj)
    exact ⟨some x, len, cap, l, hcs, h1, h2⟩
end Go.Proofs.Ytpjgliocancgeab
