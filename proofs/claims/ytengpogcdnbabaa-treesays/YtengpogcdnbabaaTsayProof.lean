/-
  For all blocks and bytes that can be read, in whatever memory, TreeSays returns true (the program's Digest, and its tree Of blocks, are what the document's answer says, and the program's Check lets that tree be), and both read behind the call as they read before. No condition.
-/
import Derived.Test.YtengpogcdnbabaaTsay
import Derived.Test.YtengpogcdnbabaaDopen
namespace Go.Proofs.Ytengpogcdnbabaa
open Go.ChangeShapes Go.WideShapes Go.ChangeAt Go.RowKit

section
variable {H : Type} {enc : TypeId × Value → H} {W : World}
theorem open_b8ok {fuel : Nat} {cs : List Value} {x : DataW H × List MemPlace} (h : DataW.trod enc Try.prog W 0 (fun _ => true) true fuel 52 cs = some x) :
    ∃ y : B8, y.ok ∧ ∀ (j : Nat) (u : Value), y.cs[j]? = some u → cs[j]? = some u := by
  obtain ⟨_, y, hy⟩ := open_b8 h
  refine ⟨y, ?_, hy⟩
  have e := open_block h
  have hb : ∀ (j : Nat) (z : Int), j < 8 → y.cs[j]? = some (.int .u8 z) → 0 ≤ z ∧ z ≤ 255 := by
    intro j z hj hz
    obtain ⟨z', h1, h2, h3⟩ := e j hj
    have h4 := hy j _ hz
    rw [h1] at h4
    cases h4
    exact ⟨h2, h3⟩
  intro z hz
  simp only [Mx.bytesOf, List.mem_cons, List.not_mem_nil, or_false] at hz
  rcases hz with rfl | rfl | rfl | rfl | rfl | rfl | rfl | rfl
  · exact hb 0 _ (by omega) rfl
  · exact hb 1 _ (by omega) rfl
  · exact hb 2 _ (by omega) rfl
  · exact hb 3 _ (by omega) rfl
  · exact hb 4 _ (by omega) rfl
  · exact hb 5 _ (by omega) rfl
  · exact hb 6 _ (by omega) rfl
  · exact hb 7 _ (by omega) rfl

instance : Inhabited { y : B8 // y.ok } := ⟨⟨zB, by intro z hz; simp [Mx.bytesOf, zB] at hz; omega⟩⟩

/-- blocks, their bytes in bounds -/
theorem open_BLok {fuel : Nat} {v : Value} {x : DataW H × List MemPlace} (h : DataW.trod enc Try.prog W 0 (fun _ => true) true fuel 23 [v] = some x) :
    ∃ a len cap l, v = .slice a len cap ∧ BL W a len l ∧ ∀ x ∈ l, x.ok := by
  rcases Deep.open_slice Try.underlying23 h with ⟨hcs, _⟩ | ⟨x, len, cap, m, n, D, Pl, hcs, _, hl, hm, hmm, _, hcell⟩
  · simp at hcs
    exact ⟨none, 0, 0, [], hcs, BL.nil W, by simp⟩
  · simp at hcs hmm
    obtain ⟨l, h1, h2⟩ := open_rows (W := W) (fun y : { y : B8 // y.ok } => y.1.cs) 8 (fun _ => rfl) (by omega) (x := x) (len := len) (by omega) (fun i hi => by
      obtain ⟨cs', h1, h2⟩ := hcell i (by omega)
      rw [Try.cells52] at h1
      obtain ⟨y, hyo, hy⟩ := open_b8ok h2
      refine ⟨⟨y, hyo⟩, fun j u hj => ?_⟩
      have hj8 : j < 8 := (List.getElem?_eq_some_iff.1 hj).1
      have := (World.cells?_some h1).2.2 j hj8
      rw [Deep.add_add] at this
      rw [this]
      exact hy j u hj)
    refine ⟨some x, len, cap, l.map (·.1), hcs, ⟨by rw [List.length_map]; exact h1, ?_⟩, fun y hy => ?_⟩
    · unfold flatB
      rw [List.flatMap_map]
      exact h2
    · obtain ⟨z, _, rfl⟩ := List.mem_map.1 hy
      exact z.2
end

set_option maxRecDepth 100000 in
theorem tsays_lifted (os : Os) (started : os.Started) (H : Type) (enc : TypeId × Value → H) :
    ReturnsInHanded {} Try.checked os 9 .any (Rows.treeSaysSpec.pre6 enc Try.prog Try.f9 Rows.treeSaysRow.domain false) (Rows.treeSaysSpec.post enc Try.prog Try.f9 false true false false) := by
  refine returnsInHanded_of_change (C := Try.checked) Try.own started (by kernel_rfl) Try.func9
    (ChangeSpec.witness6 (enc := enc) (C := Try.checked) false ⟨#[], #[.slice none 0 0, .slice none 0 0], []⟩ 8 (by kernel_rfl) (by kernel_rfl) (by kernel_rfl) (by kernel_rfl)) ?_
  intro W base args ds gs before hval0 hW hcnd _
  have hval : ∀ (j : Nat) t v, Try.f9.params[j]? = some t → args[j]? = some v → Value.okWide Try.prog W .any base t v := hval0
  have hW' := hW
  obtain ⟨p, q, hA0, hV, rfl, hfz, hnd⟩ := hW
  have hA : DataW.TrodAll enc Try.prog W 0 (fun _ => true) true Try.f9.params.toList args.toList ds p := hA0
  rw [Try.params9] at hA hval
  obtain ⟨v0, vs0, d0, ds0, p0, q0, hargs, rfl, rfl, h0, r0⟩ := trodAll_cons hA
  obtain ⟨v1, vs1, d1, ds1, p1, q1, rfl, rfl, rfl, h1, r1⟩ := trodAll_cons r0
  obtain ⟨rfl, rfl, rfl⟩ := trodAll_nil r1
  obtain rfl : args = #[v0, v1] := by cases args; simp_all
  obtain ⟨rfl, rfl⟩ := trodVars_none hV
  obtain ⟨a0, len0, cap0, rfl⟩ := okWide_slice Try.underlying23 (hval 0 23 v0 rfl rfl)
  obtain ⟨a1, len1, cap1, rfl⟩ := okWide_slice Try.underlying28 (hval 1 28 v1 rfl rfl)
  have k0 := h0
  have lt0 : ∀ x ∈ p0, x.block < W.heap.size := by obtain ⟨m, hm⟩ := k0; exact DataW.trod_lt m _ _ _ hm
  have k1 := h1
  have lt1 : ∀ x ∈ p1, x.block < W.heap.size := by obtain ⟨m, hm⟩ := k1; exact DataW.trod_lt m _ _ _ hm
  obtain ⟨l, hl, hok⟩ : ∃ l, BL W a0 len0 l ∧ ∀ x ∈ l, x.ok := by
    obtain ⟨fuel, hf⟩ := h0
    obtain ⟨a, len, cap, l, hv, hb, hc⟩ := open_BLok (by simpa [Value.cells] using hf)
    cases hv
    exact ⟨l, hb, hc⟩
  obtain ⟨bs, hbs⟩ : ∃ l, Bytes W a1 len1 l := by
    obtain ⟨fuel, hf⟩ := h1
    obtain ⟨a, len, cap, l, hv, hb⟩ := open_bytes (by simpa [Value.cells] using hf)
    cases hv
    exact ⟨l, hb⟩
  clear hA0 hval0
  refine (tsays_any a0 a1 len0 cap0 len1 cap1 l bs W hl hok hbs).mono fun e W' ⟨he, bel⟩ => ?_
  subst he
  exact ⟨_, rfl, _, _, _, [], _, [], hW', trodAll_mk1 (shut_bool Try.underlying4 _), (trodAll_cons_mk (Below.trod Try.laidOut (by kernel_rfl) (of_decide_eq_true (by kernel_rfl)) k0 bel lt0) (trodAll_cons_mk (Below.trod Try.laidOut (by kernel_rfl) (of_decide_eq_true (by kernel_rfl)) k1 bel lt1) trodAll_mk0)), rfl, bel.frame _, fun h => by cases h⟩

theorem treeSays_holds : Rows.TreeSaysSaid :=
  OpenClaim.holds_of_wide 9 Try.f9 rfl rfl rfl rfl rfl rfl rfl ⟨rfl, rfl, rfl, rfl, rfl⟩ rfl rfl rfl rfl rfl (by kernel_rfl) Try.func9 (by kernel_rfl)
    (of_decide_eq_true (by kernel_rfl)) (by unfold Func.isWrapper; first | (rw [if_pos (by decide +kernel)]; kernel_rfl) | (rw [if_neg (by decide +kernel)]; exact ⟨rfl, rfl⟩))
    (fun os started H enc _ => tsays_lifted os started H enc)
#print axioms treeSays_holds
end Go.Proofs.Ytengpogcdnbabaa
