/-
  A sender that comes in, read; a message that comes in, with its room.
-/
import Derived.Lib.SmallJoins
import Derived.Test.YtfgonmgmoeoedaaZOpen
import Derived.Test.YtfgonmgmoeoedaaZEl

namespace Go.Proofs.Ytfgonmgmoeoedaa
open Go.ChangeShapes Go.WideShapes Go.ChangeAt Go.RowKit

theorem open_numsR {H : Type} {enc : TypeId × Value → H} {W : World} {fuel : Nat} {v : Value} {x : DataW H × List MemPlace} (h : DataW.trod enc Try.prog W 0 (fun _ => true) true fuel 37 [v] = some x) :
    ∃ a len cap l, v = .slice a len cap ∧ Ints W a len l ∧ len ≤ cap := by
  obtain ⟨a, n, c, l, rfl, hl⟩ := open_nums h
  refine ⟨a, n, c, l, rfl, hl, ?_⟩
  rcases Deep.open_slice Try.underlying37 h with ⟨hcs, _⟩ | ⟨x, len, cap, m, _, D, Pl, hcs, _, hle, _⟩
  · simp at hcs
    omega
  · simp at hcs
    omega

theorem open_blocksR {H : Type} {enc : TypeId × Value → H} {W : World} {fuel : Nat} {v : Value} {x : DataW H × List MemPlace} (h : DataW.trod enc Try.prog W 0 (fun _ => true) true fuel 38 [v] = some x) :
    ∃ a len cap l, v = .slice a len cap ∧ Blks W a len l ∧ len ≤ cap := by
  obtain ⟨a, n, c, l, rfl, hl⟩ := open_blocks h
  refine ⟨a, n, c, l, rfl, hl, ?_⟩
  rcases Deep.open_slice Try.underlying38 h with ⟨hcs, _⟩ | ⟨x, len, cap, m, _, D, Pl, hcs, _, hle, _⟩
  · simp at hcs
    omega
  · simp at hcs
    omega

set_option maxRecDepth 100000 in
/-- a message, by value, with its room -/
theorem open_frameR {H : Type} {enc : TypeId × Value → H} {W : World} {r : Reach} {b0 : Nat} {v : Value} {d : DataW H} {p : List MemPlace} (hv : Value.okWide Try.prog W r b0 40 v) (h : DataW.Trod enc Try.prog W 0 (fun _ => true) true 40 v d p) :
    ∃ kind a1 n1 c1 a2 n2 c2 l bs, v = .agg #[.int .i64 kind, .slice a1 n1 c1, .slice a2 n2 c2] ∧ Ints W a1 n1 l ∧ Blks W a2 n2 bs ∧ n1 ≤ c1 ∧ n2 ≤ c2 := by
  obtain ⟨v0, v1, v2, y0, y1, y2, n, hv, _, _, h0, h1, h2⟩ := Joins.open_agg3 Try.underlying40 (by kernel_rfl) Try.cells40 hv h
  obtain ⟨k, hk, _, hw⟩ := DataW.trod_int Try.underlying3 h0
  obtain ⟨a1, n1, c1, l, rfl, hl, hc1⟩ := open_numsR h1
  obtain ⟨a2, n2, c2, bs, rfl, hb, hc2⟩ := open_blocksR h2
  simp at hk
  subst hk
  exact ⟨k, a1, n1, c1, a2, n2, c2, l, bs, hv, hl, hb, hc1, hc2⟩

theorem Try.cells37 : Try.prog.cellsOf 37 = 1 := by kernel_rfl

theorem Try.cells38 : Try.prog.cellsOf 38 = 1 := by kernel_rfl

theorem Try.fieldsFr : (Try.prog.fieldsOf 40).toList.map (fun f => (f.name, f.type, f.offset)) = [("Kind", 3, 0), ("Nums", 37, 1), ("Blocks", 38, 2)] := by kernel_rfl

theorem Try.underFr : Try.prog.underlying 40 = some (.struct (Try.prog.fieldsOf 40)) := by kernel_rfl

theorem three_of_map {α β : Type} {φ : α → β} {l : List α} {a b c : β} (h : l.map φ = [a, b, c]) : ∃ x y z, l = [x, y, z] ∧ φ x = a ∧ φ y = b ∧ φ z = c := by
  match l with
  | [] => simp at h
  | [_] => simp at h
  | [_, _] => simp at h
  | [x, y, z] =>
    simp only [List.map_cons, List.map_nil, List.cons.injEq, and_true] at h
    exact ⟨x, y, z, rfl, h.1, h.2.1, h.2.2⟩
  | _ :: _ :: _ :: _ :: _ => simp at h

theorem fr_fields : ∃ f0 f1 f2 : Field, Try.prog.underlying 40 = some (.struct #[f0, f1, f2]) ∧ (f0.type = 3 ∧ f0.offset = 0) ∧ (f1.type = 37 ∧ f1.offset = 1) ∧ f2.type = 38 ∧ f2.offset = 2 := by
  obtain ⟨f0, f1, f2, hfs, g0, g1, g2⟩ := three_of_map Try.fieldsFr
  simp only [Prod.mk.injEq] at g0 g1 g2
  refine ⟨f0, f1, f2, ?_, g0.2, g1.2, g2.2⟩
  have key : ∀ (a : Array Field), a.toList = [f0, f1, f2] → a = #[f0, f1, f2] := fun a h => Array.ext' h
  rw [Try.underFr, key _ hfs]

theorem trod_three {H : Type} {enc : TypeId × Value → H} {W : World} {t : TypeId} {f0 f1 f2 : Field} {fuel : Nat} {cs : List Value} {x : DataW H × List MemPlace} (ht : Try.prog.underlying t = some (.struct #[f0, f1, f2])) (h : DataW.trod enc Try.prog W 0 (fun _ => true) true fuel t cs = some x) :
    ∃ y0 y1 y2 n, cs.length = Try.prog.cellsOf t ∧ DataW.trod enc Try.prog W 0 (fun _ => true) true n f0.type ((cs.drop f0.offset).take (Try.prog.cellsOf f0.type)) = some y0 ∧
      DataW.trod enc Try.prog W 0 (fun _ => true) true n f1.type ((cs.drop f1.offset).take (Try.prog.cellsOf f1.type)) = some y1 ∧ DataW.trod enc Try.prog W 0 (fun _ => true) true n f2.type ((cs.drop f2.offset).take (Try.prog.cellsOf f2.type)) = some y2 := by
  obtain ⟨xs, n, _, rfl, hl, hlen, hf⟩ := DataW.trod_struct ht h
  match xs, hlen with
  | [y0, y1, y2], _ => exact ⟨y0, y1, y2, n, hl, by simpa using hf 0 f0 rfl, by simpa using hf 1 f1 rfl, by simpa using hf 2 f2 rfl⟩

instance : Inhabited Fr := ⟨⟨0, [], 0, []⟩⟩

/-- messages -/
theorem open_FL {H : Type} {enc : TypeId × Value → H} {W : World} {fuel : Nat} {v : Value} {x : DataW H × List MemPlace} (h : DataW.trod enc Try.prog W 0 (fun _ => true) true fuel 22 [v] = some x) :
    ∃ a len cap l, v = .slice a len cap ∧ FL W a len l ∧ len ≤ cap := by
  obtain ⟨f0, f1, f2, hu, ⟨t0, o0⟩, ⟨t1, o1⟩, t2, o2⟩ := fr_fields
  rcases Deep.open_slice Try.underlying22 h with ⟨hcs, _⟩ | ⟨x, len, cap, m, n, D, Pl, hcs, _, hl, hm, hmm, _, hcell⟩
  · simp at hcs
    exact ⟨none, 0, 0, [], hcs, FL.nil W, Nat.le_refl _⟩
  · simp at hcs hmm
    have each : ∀ i, i < len → ∃ f : Fr, ∃ a1 n1 c1 a2 c2, W.cell? (x.add (i * 3)) = some (.int .i64 f.kind) ∧ W.cell? (x.add (i * 3 + 1)) = some (.slice a1 n1 c1) ∧ W.cell? (x.add (i * 3 + 2)) = some (.slice a2 f.nb c2) ∧ Ints W a1 n1 f.nums ∧ Blks W a2 f.nb f.bs ∧ n1 ≤ c1 ∧ f.nb ≤ c2 := by
      intro i hi
      obtain ⟨cs', h1, h2⟩ := hcell i (by omega)
      rw [Try.cells40] at h1
      obtain ⟨y0, y1, y2, k, hl3, d0, d1, d2⟩ := trod_three hu h2
      rw [Try.cells40] at hl3
      rw [t0, o0, Try.cells3] at d0
      rw [t1, o1, Try.cells37] at d1
      rw [t2, o2, Try.cells38] at d2
      obtain ⟨v0, v1, v2, rfl⟩ : ∃ v0 v1 v2, cs' = [v0, v1, v2] := by
        match cs', hl3 with
        | [v0, v1, v2], _ => exact ⟨v0, v1, v2, rfl⟩
      have c := fun (j : Nat) (hj : j < 3) => (World.cells?_some h1).2.2 j hj
      have c0 := c 0 (by omega)
      have c1 := c 1 (by omega)
      have c2 := c 2 (by omega)
      rw [Deep.add_add] at c0 c1 c2
      obtain ⟨z, hz, _⟩ := DataW.trod_int Try.underlying3 d0
      obtain ⟨a1, n1, k1, l1, hv1, hi1, hk1⟩ := open_numsR d1
      obtain ⟨a2, n2, k2, l2, hv2, hi2, hk2⟩ := open_blocksR d2
      simp at hz c0 c1 c2
      rw [hz] at c0
      rw [hv1] at c1
      rw [hv2] at c2
      exact ⟨⟨z, l1, n2, l2⟩, a1, n1, k1, a2, k2, c0, c1, c2, hi1, hi2, hk1, hk2⟩
    obtain ⟨f, hf⟩ := Deep.choose_lt each
    refine ⟨some x, len, cap, (List.range len).map f, hcs, ⟨by simp, by omega, fun hp => ?_⟩, hl⟩
    obtain ⟨_, _, _, _, _, h0, _⟩ := hf 0 hp
    rw [Nat.zero_mul] at h0
    obtain ⟨b, off, hx, hb⟩ := addr_form h0
    subst hx
    refine ⟨b, off, rfl, hb, fun i e he => ?_⟩
    have hi : i < len := by have := (List.getElem?_eq_some_iff.1 he).1; simpa using this
    obtain ⟨a1, n1, c1, a2, c2, e0, e1, e2, e3⟩ := hf i hi
    have he' : f i = e := by simpa [hi] using he
    subst he'
    rw [Addr.add_lit] at e0 e1 e2
    exact ⟨a1, n1, c1, a2, c2, e0, by rw [Nat.add_assoc]; exact e1, by rw [Nat.add_assoc]; exact e2, e3⟩

theorem Try.cells24 : Try.prog.cellsOf 24 = 3 := by kernel_rfl

set_option maxRecDepth 100000 in
/-- a sender -/
theorem open_sender {H : Type} {enc : TypeId × Value → H} {W : World} {r : Reach} {b0 : Nat} {v : Value} {d : DataW H} {p : List MemPlace} (hv : Value.okWide Try.prog W r b0 24 v) (h : DataW.Trod enc Try.prog W 0 (fun _ => true) true 24 v d p) :
    ∃ ses base qa qn qc fs, v = .agg #[.int .i64 ses, .int .i64 base, .slice qa qn qc] ∧ FL W qa qn fs ∧ qn ≤ qc := by
  obtain ⟨v0, v1, v2, y0, y1, y2, n, hv, _, _, h0, h1, h2⟩ := Joins.open_agg3 Try.underlying24 (by kernel_rfl) Try.cells24 hv h
  obtain ⟨k, hk, _⟩ := DataW.trod_int Try.underlying3 h0
  obtain ⟨k', hk', _⟩ := DataW.trod_int Try.underlying3 h1
  obtain ⟨qa, qn, qc, fs, rfl, hq, hc⟩ := open_FL h2
  simp at hk hk'
  subst hk hk'
  exact ⟨k, k', qa, qn, qc, fs, hv, hq, hc⟩

theorem Try.cells26 : Try.prog.cellsOf 26 = 2 := by kernel_rfl

set_option maxRecDepth 100000 in
/-- a receiver -/
theorem open_receiver {H : Type} {enc : TypeId × Value → H} {W : World} {r : Reach} {b0 : Nat} {v : Value} {d : DataW H} {p : List MemPlace} (hv : Value.okWide Try.prog W r b0 26 v) (h : DataW.Trod enc Try.prog W 0 (fun _ => true) true 26 v d p) :
    ∃ ses want, v = .agg #[.int .i64 ses, .int .i64 want] := by
  obtain ⟨v0, v1, y0, y1, n, hv, _, _, h0, h1⟩ := Joins.open_agg2 Try.underlying26 (by kernel_rfl) Try.cells26 hv h
  obtain ⟨k, hk, _⟩ := DataW.trod_int Try.underlying3 h0
  obtain ⟨k', hk', _⟩ := DataW.trod_int Try.underlying3 h1
  simp at hk hk'
  subst hk hk'
  exact ⟨k, k', hv⟩

theorem open_bytesR {H : Type} {enc : TypeId × Value → H} {W : World} {fuel : Nat} {v : Value} {x : DataW H × List MemPlace} (h : DataW.trod enc Try.prog W 0 (fun _ => true) true fuel 27 [v] = some x) :
    ∃ a len cap l, v = .slice a len cap ∧ Bytes W a len l ∧ len ≤ cap := by
  obtain ⟨a, len, cap, l, hv, hb⟩ := open_bytes h
  refine ⟨a, len, cap, l, hv, hb, ?_⟩
  rcases open_ints Try.underlying27 Try.underlying5 Try.cells5 h with ⟨hcs, _⟩ | ⟨x, len', cap', zs, hcs, _, hl, _⟩
  · rw [hv] at hcs; simp at hcs; omega
  · rw [hv] at hcs; simp at hcs; omega

end Go.Proofs.Ytfgonmgmoeoedaa
