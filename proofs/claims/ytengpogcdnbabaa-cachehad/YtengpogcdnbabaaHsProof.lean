/-
  For every list of blocks that can be read, and every block, in whatever memory, CacheHad returns true (the program's Check and Touch of what was had are what the document's answer says), and the list reads behind the call as it read before. No condition.
-/
import Derived.Test.YtengpogcdnbabaaHs
import Derived.Test.YtengpogcdnbabaaDopen
namespace Go.Proofs.Ytengpogcdnbabaa
open Go.ChangeShapes Go.WideShapes Go.ChangeAt Go.RowKit

/-- blocks, with their room -/
theorem open_BLc {H : Type} {enc : TypeId × Value → H} {W : World} {fuel : Nat} {v : Value} {x : DataW H × List MemPlace} (h : DataW.trod enc Try.prog W 0 (fun _ => true) true fuel 23 [v] = some x) :
    ∃ a len cap l, v = .slice a len cap ∧ BL W a len l ∧ len ≤ cap := by
  obtain ⟨a, n, c, l, rfl, hl⟩ := open_BL h
  refine ⟨a, n, c, l, rfl, hl, ?_⟩
  rcases Deep.open_slice Try.underlying23 h with ⟨hcs, _⟩ | ⟨x, len, cap, m, _, D, Pl, hcs, _, hle, _⟩
  · simp at hcs
    omega
  · simp at hcs
    omega

set_option maxRecDepth 100000 in
/-- blocks, by value -/
theorem open_BLv {H : Type} {enc : TypeId × Value → H} {W : World} {r : Reach} {b0 : Nat} {v : Value} {d : DataW H} {p : List MemPlace} (hv : Value.okWide Try.prog W r b0 23 v) (h : DataW.Trod enc Try.prog W 0 (fun _ => true) true 23 v d p) :
    ∃ a len cap l, v = .slice a len cap ∧ BL W a len l ∧ len ≤ cap := by
  obtain ⟨m, hm⟩ := h
  obtain ⟨a, n, c, rfl⟩ : ∃ a n c, v = .slice a n c := by
    simp only [Value.okWide, Try.underlying23, Cell.okWide, Cell.ok] at hv
    cases v <;> simp_all
  exact open_BLc hm

set_option maxRecDepth 100000 in
theorem chad_lifted (os : Os) (started : os.Started) (H : Type) (enc : TypeId × Value → H) :
    ReturnsInHanded {} Try.checked os 13 .any (Rows.cacheHadSpec.pre6 enc Try.prog Try.f13 Rows.cacheHadRow.domain false) (Rows.cacheHadSpec.post enc Try.prog Try.f13 false true false false) := by
  refine returnsInHanded_of_change (C := Try.checked) Try.own started (by kernel_rfl) Try.func13
    (ChangeSpec.witness6 (enc := enc) (C := Try.checked) false ⟨#[], #[.slice none 0 0, .agg #[.int .u8 0, .int .u8 0, .int .u8 0, .int .u8 0, .int .u8 0, .int .u8 0, .int .u8 0, .int .u8 0]], []⟩ 8 (by kernel_rfl) (by kernel_rfl) (by kernel_rfl) (by kernel_rfl)) ?_
  intro W base args ds gs before hval0 hW hcnd _
  have hval : ∀ (j : Nat) t v, Try.f13.params[j]? = some t → args[j]? = some v → Value.okWide Try.prog W .any base t v := hval0
  have hW' := hW
  obtain ⟨p, q, hA0, hV, rfl, hfz, hnd⟩ := hW
  have hA : DataW.TrodAll enc Try.prog W 0 (fun _ => true) true Try.f13.params.toList args.toList ds p := hA0
  rw [Try.params13] at hA hval
  obtain ⟨v0, vs0, d0, ds0, p0, q0, hargs, rfl, rfl, h0, r0⟩ := trodAll_cons hA
  obtain ⟨v1, vs1, d1, ds1, p1, q1, rfl, rfl, rfl, h1, r1⟩ := trodAll_cons r0
  obtain ⟨rfl, rfl, rfl⟩ := trodAll_nil r1
  obtain rfl : args = #[v0, v1] := by cases args; simp_all
  obtain ⟨rfl, rfl⟩ := trodVars_none hV
  have k0 := h0
  have lt0 : ∀ x ∈ p0, x.block < W.heap.size := by obtain ⟨m, hm⟩ := k0; exact DataW.trod_lt m _ _ _ hm
  have k1 := h1
  have lt1 : ∀ x ∈ p1, x.block < W.heap.size := by obtain ⟨m, hm⟩ := k1; exact DataW.trod_lt m _ _ _ hm
  obtain ⟨a, n, c, l, rfl, hl, hc⟩ := open_BLv (hval 0 23 v0 rfl rfl) h0
  obtain ⟨x, rfl⟩ := open_blockv (hval 1 52 v1 rfl rfl) h1
  clear hA0 hval0
  refine (chad_any a n c l x W hl hc).mono fun e W' ⟨he, bel⟩ => ?_
  subst he
  exact ⟨_, rfl, _, _, _, [], _, [], hW', trodAll_mk1 (shut_bool Try.underlying4 _), (trodAll_cons_mk (Below.trod Try.laidOut (by kernel_rfl) (of_decide_eq_true (by kernel_rfl)) k0 bel lt0) (trodAll_cons_mk (Below.trod Try.laidOut (by kernel_rfl) (of_decide_eq_true (by kernel_rfl)) k1 bel lt1) trodAll_mk0)), rfl, bel.frame _, fun h => by cases h⟩

theorem cacheHad_holds : Rows.CacheHadSaid :=
  OpenClaim.holds_of_wide 13 Try.f13 rfl rfl rfl rfl rfl rfl rfl ⟨rfl, rfl, rfl, rfl, rfl⟩ rfl rfl rfl rfl rfl (by kernel_rfl) Try.func13 (by kernel_rfl)
    (of_decide_eq_true (by kernel_rfl)) (by unfold Func.isWrapper; first | (rw [if_pos (by decide +kernel)]; kernel_rfl) | (rw [if_neg (by decide +kernel)]; exact ⟨rfl, rfl⟩))
    (fun os started H enc _ => chad_lifted os started H enc)
#print axioms cacheHad_holds
end Go.Proofs.Ytengpogcdnbabaa
