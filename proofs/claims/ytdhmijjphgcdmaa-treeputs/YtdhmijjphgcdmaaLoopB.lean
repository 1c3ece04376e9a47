/-
  The range over the blocks, for a body that gathers them into a frame's box.
-/
import Derived.Test.YtdhmijjphgcdmaaBody
namespace Go.Proofs.Ytdhmijjphgcdmaa
open Go.RowKit Go.Shelf
attribute [local go_sem] Oper.semAt_some

theorem UInv.drew {w wr : World} {s0 v1 v2 : Value} (h : UInv w wr s0 v1 v2) : UInv w wr.drew s0 v1 v2 := ⟨h.1, h.2.1, h.2.2.1.drew, h.2.2.2⟩

def flat (pre : List B8) : List Int := pre.flatMap B8.list
theorem flat_snoc (pre : List B8) (x : B8) : flat (pre ++ [x]) = flat pre ++ x.list := by simp [flat]
theorem flat_len (pre : List B8) : (flat pre).length = 8 * pre.length := by
  induction pre with
  | nil => rfl
  | cons x pre ih => simp [flat, B8.list] at *; omega

theorem blk_list (bs : List Int) (k : Nat) (h : 8 * k + 8 ≤ bs.length) : bs.take (8 * (k + 1)) = bs.take (8 * k) ++ (blkAt bs k).list := by
  rw [show 8 * (k + 1) = 8 * k + 1 + 1 + 1 + 1 + 1 + 1 + 1 + 1 by omega]
  rw [Mx.take_snoc bs _ _ (by omega) rfl, Mx.take_snoc bs _ _ (by omega) rfl, Mx.take_snoc bs _ _ (by omega) rfl, Mx.take_snoc bs _ _ (by omega) rfl,
    Mx.take_snoc bs _ _ (by omega) rfl, Mx.take_snoc bs _ _ (by omega) rfl, Mx.take_snoc bs _ _ (by omega) rfl, Mx.take_snoc bs _ _ (by omega) rfl]
  simp only [List.append_assoc, List.cons_append, List.nil_append, B8.list, blkAt]

theorem flat_blksTo (bs : List Int) (k : Nat) (h : 8 * k ≤ bs.length) : flat (blksTo bs k) = bs.take (8 * k) := by
  induction k with
  | zero => simp [blksTo, flat]
  | succ k ih => rw [blksTo_succ, flat_snoc, ih (by omega), blk_list bs k (by omega)]

/-- between two rounds -/
def LInv (w : World) (C : Nat) (k0 v1 : Value) (nums : List Int) (pre : List B8) (W : World) : Prop :=
  ∃ v2, UInv w W k0 v1 v2 ∧ OwnB W C v2 pre.length (flat pre) ∧ OwnI W (w.heap.size + 2) v1 nums ∧ C ≤ W.heap.size

/-- the round's own variable -/
def LAx (C : Nat) (T : Array Value) (x : B8) (a' : Act) (W : World) : Prop :=
  ∃ Bx, C ≤ Bx ∧ W.heap[Bx]? = some (.cells x.vals 52 (0, 0)) ∧ a' = { tmps := (T.setIfInBounds 64 (.agg x.vals)).setIfInBounds 10 (.pointer (some ⟨Bx, 0, none⟩)), defers := [] }

theorem row_kept {W W' : World} {base e size n : Nat} {v : Value} {xs : List Value} {row : Option Nat} (h : W.ownsRow base e size v n xs) (hg : W.grownBy W' row) (hr : ∀ r, row = some r → ∃ o : Obj, W.heap[r]? = some o ∧ o.isCells = false) : W'.ownsRow base e size v n xs := by
  refine h.kept hg ?_
  rcases h.2 with ⟨rfl, _⟩ | ⟨g, cap, cur, rfl, _, hgb, _⟩
  · exact .inl rfl
  · refine .inr fun e => ?_
    obtain ⟨o, ho, hc⟩ := hr g (by rw [← e]; rfl)
    rw [hgb] at ho
    cases ho
    cases hc

theorem cells_kept {W W' : World} {g : Nat} {cs : Array Value} {t : TypeId} {row : Option Nat} (h : W.heap[g]? = some (.cells cs t (0, 0))) (hg : W.grownBy W' row) (hr : ∀ r, row = some r → ∃ o : Obj, W.heap[r]? = some o ∧ o.isCells = false) : W'.heap[g]? = some (.cells cs t (0, 0)) := by
  refine (hg.block g (Array.getElem?_eq_some_iff.1 h).1 (fun e => ?_)).trans h
  obtain ⟨o, ho, hc⟩ := hr g e.symm
  rw [h] at ho
  cases ho
  cases hc

theorem Ints.grow {W W' : World} {a : Option Addr} {n : Nat} {l : List Int} {row : Option Nat} (h : Ints W a n l) (hg : W.grownBy W' row) (hr : ∀ r, row = some r → ∃ o : Obj, W.heap[r]? = some o ∧ o.isCells = false) : Ints W' a n l := by
  obtain ⟨h1, h2, h4⟩ := h
  refine ⟨h1, h2, fun hp => ?_⟩
  obtain ⟨b, off, ha, hlt, hc⟩ := h4 hp
  exact ⟨b, off, ha, by have := hg.size; omega, fun i hi => cell_kept (hc i hi) hg hr⟩
theorem Blks.grow {W W' : World} {a : Option Addr} {n : Nat} {l : List Int} {row : Option Nat} (h : Blks W a n l) (hg : W.grownBy W' row) (hr : ∀ r, row = some r → ∃ o : Obj, W.heap[r]? = some o ∧ o.isCells = false) : Blks W' a n l := by
  obtain ⟨h1, h2, h3, h4⟩ := h
  refine ⟨h1, h2, h3, fun hp => ?_⟩
  obtain ⟨b, off, ha, hlt, hc⟩ := h4 hp
  exact ⟨b, off, ha, by have := hg.size; omega, fun i hi => cell_kept (hc i hi) hg hr⟩

/-- one block more, in the fence; what is no cells lies as it lay -/
theorem wpListIn_append_keep {F : Fence} {fuel : Nat} {w : World} {ops : Array Oper} {rest : List Oper} {o : Oper} {a : Act} {Q : Exit → Act → World → Prop} (hgd : o.guard = none) (s x : Operand)
    (ho : o.op = .call { callee := .builtin .append, args := #[s, x], argTypes := #[23, 23] }) (base n : Nat) (bs : List Int) (hown : OwnB w base (a.eval s) n bs)
    (zs : List Int) (hz8 : zs.length = 8) (arr : Array Value) (harr : arr = (zs.map (Value.int .u8)).toArray) (hx : a.eval x = .slice (some ⟨w.heap.size, 0, none⟩) 1 1) (h63 : n ≤ 1000000) (hbase : base ≤ w.heap.size)
    (h : ∀ ad c w', OwnB w' base (.slice (some ad) (n + 1) c) (n + 1) (bs ++ zs) → Below base w w' → KeepsOthers w w' → wpListIn F fuel Try.prog ops Q rest (a.put o.dst (.slice (some ad) (n + 1) c)) w') :
    wpListIn F fuel Try.prog ops Q (o :: rest) a (w.alloc (.cells arr 52)) := by
  obtain ⟨i0, hi, hz0, hz1, hz2⟩ := info_parts Try.info52
  refine wpListIn_append_own _ hgd s x 23 ho base 52 i0 _ 8 8 Try.underlying23 hi hz0 hz1 hz2 rfl (by decide) (a.eval s) n (bs.map (Value.int .u8)) rfl (World.ownsRow.alloc hown.2 _) ⟨w.heap.size, 0, none⟩ 1 1 (zs.map (Value.int .u8)) hx (by simp [hz8]) (cell_newsT w zs arr 52 harr) ?_ (by unfold maxLen; omega) (by omega) (by simp; omega) ?_
  · intro u hu
    obtain ⟨z, _, rfl⟩ := List.mem_map.1 hu
    rfl
  · intro v' w' hown' hg _
    have hb : Below base w w' := ((Below.refl base w).alloc hbase _).grown hg (by simp; omega) (fun k hk => (World.ownsRow.lt hown.2 k hk).1)
    have hI : OwnB w' base v' (n + 1) (bs ++ zs) := ⟨by rw [List.length_append, hown.1, hz8]; omega, by rw [List.map_append]; exact hown'⟩
    have hk : KeepsOthers w w' := (KeepsOthers.alloc w _).trans (KeepsOthers.of_grownBy hg (by
      intro j o' e hj
      have hown2 := World.ownsRow.alloc hown.2 (.cells arr 52)
      rcases hown2.2 with ⟨hv, _⟩ | ⟨g, cap, cur, hv, _, hgb, _⟩
      · rw [hv] at e; cases e
      · rw [hv] at e
        cases e
        rw [hgb] at hj
        cases hj
        rfl))
    rcases hown'.2 with ⟨_, hz⟩ | ⟨g, cap, cur, rfl, hbg, _⟩
    · simp at hz
    · exact h _ _ w' hI hb hk

theorem cell_of_cells {W : World} {g : Nat} {cs : Array Value} {t : TypeId} (h : W.heap[g]? = some (.cells cs t (0, 0))) (j : Nat) : W.cell? ⟨g, j, none⟩ = cs[j]? := by
  unfold World.cell?
  rw [h]
  rfl

theorem linv_own (w : World) (C : Nat) (k0 v1 : Value) (nums : List Int) (hC : w.heap.size + 2 ≤ C) : OwnFrom C (LInv w C k0 v1 nums) := by
  rintro pre W W' row ⟨v2, ⟨b1, b2, b3, b4⟩, hB, hI, hs⟩ hg hr
  have hr' : ∀ r, row = some r → ∃ o : Obj, W.heap[r]? = some o ∧ o.isCells = false := fun r e => (hr r e).2
  refine ⟨v2, ⟨cells_kept b1 hg hr', cells_kept b2 hg hr', b3.grown hg (by omega) (fun k e => by have := (hr k e).1; omega), by have := hg.size; omega⟩, ⟨hB.1, row_kept hB.2 hg hr'⟩, row_kept hI hg hr', by have := hg.size; omega⟩

theorem lax_own (C : Nat) (T : Array Value) (x : B8) (a' : Act) : OwnFrom C (fun (_ : Unit) W => LAx C T x a' W) := by
  rintro _ W W' row ⟨Bx, h1, h2, h3⟩ hg hr
  exact ⟨Bx, h1, cells_kept h2 hg (fun r e => (hr r e).2), h3⟩

theorem rangeBlocks {g : Operand} {assign body : Code} {Q : Exit → Act → World → Prop} {a : Act} {wl : World} (w : World) (k0 v1 : Value) (nums : List Int) (Bs b off cap m : Nat) (bs : List Int)
    (hg : a.eval g = .func (.func 113) #[] #[.pointer (some ⟨Bs, 0, none⟩)]) (hm : m ≤ 1000) (hcap : 8 * m ≤ cap) (hb : b < w.heap.size) (hBn : Bs < wl.heap.size) (hC : w.heap.size + 2 ≤ wl.heap.size)
    (hBs : wl.cell? ⟨Bs, 0, none⟩ = some (.slice (some ⟨b, off, none⟩) (8 * m) cap)) (hc : ∀ j, j < 8 * m → wl.cell? ⟨b, off + j, none⟩ = some (.int .u8 (bs.getD j 0)))
    (h0 : LInv w wl.heap.size k0 v1 nums [] wl)
    (hassign : ∀ (l : Nat) (pre : List B8) (x : B8) (W : World) (K : Act → World → Prop), LInv w wl.heap.size k0 v1 nums pre W → (∀ a' W', KeepsFrom wl.heap.size W W' → KpS w.heap.size Bs W W' → LInv w wl.heap.size k0 v1 nums pre W' → LAx wl.heap.size a.tmps x a' W' → K a' W') →
      assign.wpIn (Fence.wide.inRound l) (6 - 1 - 1) Try.prog (Exit.then K (fun _ _ _ => False)) { tmps := a.tmps.setIfInBounds 64 (.agg x.vals), defers := [] } W)
    (hbody : ∀ (l : Nat) (pre : List B8) (x : B8) (a' : Act) (W : World), LInv w wl.heap.size k0 v1 nums pre W → LAx wl.heap.size a.tmps x a' W → pre.length < m →
      body.wpIn (Fence.wide.inRound l) (6 - 1 - 1) Try.prog (ownPostG wl.heap.size (KpS w.heap.size Bs) (LInv w wl.heap.size k0 v1 nums) (fun _ _ _ => False) (pre ++ [x]) W) a' W)
    (hdone : ∀ (D : Nat) (W : World), wl.heap.size ≤ D → LInv w wl.heap.size k0 v1 nums (blksTo bs m) W → W.heap[D]? = some (.deferred (some [])) → Q .normal { a with defers := { target := .collected D, args := #[] } :: a.defers } W) :
    (Code.rangeFunc g #[64] assign body).wpIn Fence.wide 6 Try.prog Q a wl := by
  refine wpIn_rangeFunc_ownH rfl (by omega) (gf := 113) (lb := #[.pointer (some ⟨Bs, 0, none⟩)]) hg trivial (enters_of Try.func113 (by kernel_rfl) rfl)
    (iter_stops 5 (by omega) Bs w.heap.size b off cap m bs hm hcap hb wl (by omega) hBn hBs hc) kpS_t (kpS_b (by omega) hBn) (Below.refl _ _) (fun _ => rfl)
    (LInv w wl.heap.size k0 v1 nums) (fun _ _ _ => False) (linv_own w _ k0 v1 nums hC) (fun _ _ _ _ _ hs _ _ => hs) h0 (LAx wl.heap.size a.tmps) (lax_own wl.heap.size a.tmps) ?_ ?_ ?_ ?_
  · intro l pre x W K hi hK
    have h := hassign l pre x W K hi hK
    have e : (#[64].zip #[Value.agg x.vals]).foldl (fun (t : Array Value) (x : Nat × Value) => match x with | (p, v) => t.setIfInBounds p v) a.tmps = a.tmps.setIfInBounds 64 (.agg x.vals) := by simp
    rw [e]
    exact h
  · intro l pre x a' W _ _ hi ha hlt
    exact hbody l pre x a' W hi ha hlt
  · rintro D xs W hD rfl hi hK
    exact hdone D W hD hi hK
  · intro D c pre W _ _ h _
    exact h.elim
end Go.Proofs.Ytdhmijjphgcdmaa
