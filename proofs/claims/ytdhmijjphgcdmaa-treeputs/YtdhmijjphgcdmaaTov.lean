/-
  The range over pieces of a level, for a body that gathers their digests.
-/
import Derived.Test.YtdhmijjphgcdmaaTch
import Derived.Test.YtdhmijjphgcdmaaDsame
import Derived.Maps.AppendAt
namespace Go.Proofs.Ytdhmijjphgcdmaa
open Go.RowKit Go.Shelf
attribute [local go_sem] Oper.semAt_some

/-- one number more, as one step of a region that draws, in a fence -/
theorem stepIn_append_u64 {F : Fence} {fuel : Nat} {ops : Array Oper} {o : Oper} {a : Act} {w : World} {K : Act → World → Prop} {Q : Exit → Act → World → Prop} {E : Prop} (hgd : o.guard = none) (s x : Operand)
    (ho : o.op = .call { callee := .builtin .append, args := #[s, x], argTypes := #[92, 92] }) (base : Nat) (l : List Nat) (hown : OwnU w base (a.eval s) l)
    (z : Nat) (g : Nat) (hx : a.eval x = .slice (some ⟨g, 0, none⟩) 1 1) (hc : w.cell? ⟨g, 0, none⟩ = some (.int .u64 (z : Int))) (h63 : l.length ≤ 1000000) (hbase : base ≤ w.heap.size)
    (h : ∀ v' w', OwnU w' base v' (l ++ [z]) → w.grownBy w' (a.eval s).ownBlock → K (a.put o.dst v') w') :
    if Region.wanted o (yielded ops a.tmps) = true then Oper.wpIn F fuel Try.prog o a w K Q else E := by
  have hw : Region.wanted o (yielded ops a.tmps) = true := by simp [Region.wanted, hgd]
  rw [if_pos hw]
  obtain ⟨i0, hi, hz0, hz1, hz2⟩ := info_parts Try.info78
  obtain ⟨v', w', hr, h2, h3, _⟩ := run_append_own_at (P := Try.prog) w base 92 o.type 78 i0 _ 1 8 Try.underlying92 hi hz0 hz1 hz2 rfl (by decide) (a.eval s) l.length (l.map fun x : Nat => Value.int .u64 (x : Int)) hown ⟨g, 0, none⟩ 1 1 [.int .u64 (z : Int)] rfl (fun j u hj => by
    match j, hj with
    | 0, hj =>
      simp at hj
      subst hj
      rw [Addr.add_lit]
      exact hc
    | j + 1, hj => simp at hj) (by simp [Value.oneCell']) (by unfold maxLen; omega) (by omega) hbase
  unfold Oper.wpIn
  refine ⟨by simp [Oper.about, ho, resolve, Target.leads, Sem.run_pure], ?_⟩
  rw [Oper.semAt_plain F _ _ (by rw [ho]; intro c hc'; cases hc')]
  simp [execOp, ho, resolve, invoke, builtin, hx, hr, Result.andThen]
  refine h v' w' ?_ h3
  unfold OwnU
  rw [List.length_append, List.map_append]
  exact h2

/-- between two rounds -/
def OInv (w : World) (C : Nat) (l : List Nat) {m : Nat} (pre : List (Ck m)) (W : World) : Prop :=
  ∃ v, Bx W w.heap.size #[v] 92 ∧ OwnU W C v (pre.map fun x => Mx.overD ((l.drop x.s).take x.q)) ∧ Below w.heap.size w W ∧ C ≤ W.heap.size
def OAx (b off : Nat) {m : Nat} (T : Array Value) (x : Ck m) (a' : Act) (_ : World) : Prop :=
  a' = { tmps := (T.setIfInBounds 7 (.slice (some ⟨b, off + x.s, none⟩) x.q x.q)).setIfInBounds 4 (.slice (some ⟨b, off + x.s, none⟩) x.q x.q), defers := [] }

theorem oinv_own (w : World) (C : Nat) (l : List Nat) (m : Nat) (hC : w.heap.size + 1 ≤ C) : OwnFrom C (OInv w C l (m := m)) := by
  rintro pre W W' row ⟨v, b0, ho, bb, bs⟩ hg hr
  have hr' : ∀ r, row = some r → ∃ o : Obj, W.heap[r]? = some o ∧ o.isCells = false := fun r e => (hr r e).2
  exact ⟨v, cells_kept b0 hg hr', row_kept ho hg hr', bb.grown hg (by omega) (fun k e => by have := (hr k e).1; omega), by have := hg.size; omega⟩

/-- what a round leaves -/
theorem oinv_round {w W W2 W4 : World} {C : Nat} {l : List Nat} {m Bs Bn : Nat} {pre : List (Ck m)} {x : Ck m} {v v' : Value} {Z : Nat} (hC : w.heap.size + 1 ≤ C) (hBs : w.heap.size < Bs ∧ Bs < C) (hBn : w.heap.size < Bn ∧ Bn < C)
    (b0 : Bx W w.heap.size #[v] 92) (ho : OwnU W C v (pre.map fun x => Mx.overD ((l.drop x.s).take x.q))) (bb : Below w.heap.size w W) (bs : C ≤ W.heap.size)
    (hb2 : Below W.heap.size W W2) (hZ : Z = Mx.overD ((l.drop x.s).take x.q)) (h4 : OwnU W4 C v' ((pre.map fun x => Mx.overD ((l.drop x.s).take x.q)) ++ [Z])) (hg4 : W2.grownBy W4 v.ownBlock) :
    KeepsFrom C W (W4.setCell ⟨w.heap.size, 0, none⟩ v') ∧ KpC w.heap.size Bs Bn W (W4.setCell ⟨w.heap.size, 0, none⟩ v') ∧ OInv w C l (pre ++ [x]) (W4.setCell ⟨w.heap.size, 0, none⟩ v') := by
  have hlt : ∀ k, v.ownBlock = some k → C ≤ k ∧ k < W.heap.size := fun k hk => World.ownsRow.lt ho k hk
  have hk2 : KeepsOthers W W2 := KeepsOthers.of_grownBy (row := none) ⟨hb2.os, hb2.tape, hb2.output, hb2.size, fun k hk _ => hb2.block k hk⟩ (fun _ _ h => by cases h)
  have ho2 : OwnU W2 C v (pre.map fun x => Mx.overD ((l.drop x.s).take x.q)) := rowKept ho hb2
  have hk4 : KeepsOthers W2 W4 := KeepsOthers.of_grownBy hg4 (by
    intro j o' e hj
    rcases ho2.2 with ⟨hv, _⟩ | ⟨g', cap, cur, hv, _, hgb, _⟩
    · rw [hv] at e; cases e
    · rw [hv] at e
      cases e
      rw [hgb] at hj
      cases hj
      rfl)
  have hs2 := hb2.size
  have hblk : ∀ k, k < C → W4.heap[k]? = W.heap[k]? := fun k hk => (hg4.block k (by omega) (fun e => by have := (hlt k e.symm).1; omega)).trans (hb2.block k (by omega))
  have hB4 : Below C W W4 := ⟨hg4.os.trans hb2.os, hg4.tape.trans hb2.tape, hg4.output.trans hb2.output, Nat.le_trans hb2.size hg4.size, fun k hk => hblk k hk⟩
  have b4 : Bx W4 w.heap.size #[v] 92 := (hblk _ (by omega)).trans b0
  refine ⟨((hk2.trans hk4).trans (KeepsOthers.setCell _ _ _)).from _, ⟨(hB4.mono (show w.heap.size ≤ C by omega)).setCell (p := ⟨w.heap.size, 0, none⟩) (Nat.le_refl _) _, ?_, ?_⟩, v', b4.set 0 v', ?_, (bb.trans (hB4.mono (show w.heap.size ≤ C by omega))).setCell (p := ⟨w.heap.size, 0, none⟩) (Nat.le_refl _) _, ?_⟩
  · rw [Below.heap_setCell _ _ _ _ (show Bs ≠ w.heap.size by omega)]
    exact hblk Bs hBs.2
  · rw [Below.heap_setCell _ _ _ _ (show Bn ≠ w.heap.size by omega)]
    exact hblk Bn hBn.2
  · rw [List.map_append, List.map_cons, List.map_nil, ← hZ]
    refine ownsRow_other h4 _ _ (fun e => ?_)
    have := (World.ownsRow.lt h4 _ e).1
    simp at this
    omega
  · simp [World.setCell]
    have := hg4.size
    have := hb2.size
    omega

end Go.Proofs.Ytdhmijjphgcdmaa
