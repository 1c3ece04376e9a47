/-
  A block touched: what comes of it; one block more in memory of its own.
-/
import Derived.Test.YtdhmijjphgcdmaaHk
namespace Go.Proofs.Ytdhmijjphgcdmaa
open Go.RowKit

/-- a block touched -/
def Mx.touched (l : List B8) (b : B8) : List B8 := (b :: l.filter (fun y => decide (¬ y = b))).take 8
theorem Mx.touched_len (l : List B8) (b : B8) : (Mx.touched l b).length ≤ 8 := by unfold Mx.touched; rw [List.length_take]; omega
theorem Mx.touched_pos (l : List B8) (b : B8) : 0 < (Mx.touched l b).length := by unfold Mx.touched; simp
theorem Mx.touched_snoc {l : List B8} {k : Nat} {y b : B8} (h : l[k]? = some y) (hy : ¬ y = b) (hlt : (Mx.touched (l.take k) b).length < 8) : Mx.touched (l.take (k + 1)) b = Mx.touched (l.take k) b ++ [y] := by
  have key : ∀ xs : List B8, xs.length < 8 → (xs ++ [y]).take 8 = xs.take 8 ++ [y] := fun xs h => by rw [List.take_of_length_le (by simp; omega), List.take_of_length_le (by omega)]
  unfold Mx.touched at hlt ⊢
  rw [List.length_take] at hlt
  have hf : [y].filter (fun y => decide (¬ y = b)) = [y] := by simp [hy]
  rw [getElem_take_succ _ _ _ h, List.filter_append, hf, ← List.cons_append]
  exact key _ (by omega)
theorem Mx.touched_full {l : List B8} {k : Nat} {y b : B8} (h : l[k]? = some y) (hge : ¬ (Mx.touched (l.take k) b).length < 8) : Mx.touched (l.take (k + 1)) b = Mx.touched (l.take k) b := by
  unfold Mx.touched at hge ⊢
  rw [List.length_take] at hge
  rw [getElem_take_succ _ _ _ h, List.filter_append, ← List.cons_append, List.take_append]
  rw [show 8 - (b :: List.filter (fun y => decide (¬ y = b)) (l.take k)).length = 0 by omega]
  simp
theorem Mx.touched_skip {l : List B8} {k : Nat} {y b : B8} (h : l[k]? = some y) (hy : y = b) : Mx.touched (l.take (k + 1)) b = Mx.touched (l.take k) b := by
  unfold Mx.touched
  rw [getElem_take_succ _ _ _ h, List.filter_append]
  have hf : [y].filter (fun y => decide (¬ y = b)) = [] := by simp [hy]
  rw [hf, List.append_nil]
theorem Mx.touched_all {l : List B8} {k : Nat} {b : B8} (hk : l.length ≤ k) : Mx.touched (l.take k) b = Mx.touched l b := by rw [List.take_of_length_le hk]
/-- full already: nothing more comes -/
theorem Mx.touched_stop {l : List B8} {k : Nat} {b : B8} (hge : ¬ (Mx.touched (l.take k) b).length < 8) : Mx.touched l b = Mx.touched (l.take k) b := by
  have hs : l = l.take k ++ l.drop k := (List.take_append_drop k l).symm
  unfold Mx.touched at hge ⊢
  rw [List.length_take] at hge
  conv => lhs; rw [hs]
  rw [List.filter_append, ← List.cons_append, List.take_append]
  rw [show 8 - (b :: List.filter (fun y => decide (¬ y = b)) (l.take k)).length = 0 by omega]
  simp

theorem cell_newsB (w : World) (p : B8) (t : TypeId) :
    ∀ j u, (flatB [p])[j]? = some u → (w.alloc (.cells #[.int .u8 p.z0, .int .u8 p.z1, .int .u8 p.z2, .int .u8 p.z3, .int .u8 p.z4, .int .u8 p.z5, .int .u8 p.z6, .int .u8 p.z7] t)).cell? ((⟨w.heap.size, 0, none⟩ : Addr).add j) = some u := by
  intro j u hj
  have hadd : (⟨w.heap.size, 0, none⟩ : Addr).add j = ⟨w.heap.size, j, none⟩ := by unfold Addr.add; split <;> simp_all
  rw [hadd, World.cell?_alloc_new]
  simpa [flatB, B8.cs] using hj

/-- one block more -/
theorem wpList_append_blk {w : World} {ops : Array Oper} {rest : List Oper} {o : Oper} {a : Act} {Q : Exit → Act → World → Prop} (hgd : o.guard = none) (s x : Operand)
    (ho : o.op = .call { callee := .builtin .append, args := #[s, x], argTypes := #[23, 23] }) (base : Nat) (l : List B8) (hown : OwnBL w base (a.eval s) l)
    (p : B8) (hx : a.eval x = .slice (some ⟨w.heap.size, 0, none⟩) 1 1) (h63 : l.length ≤ 1000000) (hbase : base ≤ w.heap.size)
    (h : ∀ g c w', base ≤ g → l.length + 1 ≤ c → OwnBL w' base (.slice (some ⟨g, 0, none⟩) (l.length + 1) c) (l ++ [p]) → w.grownBy w' (a.eval s).ownBlock → wpList Try.prog ops Q rest (a.put o.dst (.slice (some ⟨g, 0, none⟩) (l.length + 1) c)) w') :
    wpList Try.prog ops Q (o :: rest) a (w.alloc (.cells #[.int .u8 p.z0, .int .u8 p.z1, .int .u8 p.z2, .int .u8 p.z3, .int .u8 p.z4, .int .u8 p.z5, .int .u8 p.z6, .int .u8 p.z7] 52)) := by
  obtain ⟨i0, hi, hz0, hz1, hz2⟩ := info_parts Try.info52
  refine wpList_append_own _ hgd s x 23 ho base 52 i0 _ 8 8 Try.underlying23 hi hz0 hz1 hz2 rfl (by decide) (a.eval s) l.length (flatB l) rfl (World.ownsRow.alloc hown _) ⟨w.heap.size, 0, none⟩ 1 1 (flatB [p]) hx (by simp [flatB, B8.cs]) (cell_newsB w p 52) flatB_one (by unfold maxLen; omega) (by omega) (by simp; omega) ?_
  intro v' w' hown' hg _
  have hI : OwnBL w' base v' (l ++ [p]) := by
    unfold OwnBL
    rw [List.length_append, flatB, List.flatMap_append]
    exact hown'
  have hg' : w.grownBy w' (a.eval s).ownBlock := ⟨hg.os, hg.tape, hg.output, by have := hg.size; simp at this; omega, fun k hk hne => (hg.block k (by simp; omega) hne).trans (Below.heap_alloc w _ k hk)⟩
  rcases hown'.2 with ⟨_, hz⟩ | ⟨g, cap, cur, rfl, hbg, _, hcap, _⟩
  · simp at hz
  · exact h _ _ w' hbg (by simpa using hcap) hI hg'

/-- one block, alone, in memory of its own -/
theorem OwnBL.one (w : World) (base : Nat) (hb : base ≤ w.heap.size) (x : B8) : OwnBL (w.alloc (.cells #[.int .u8 x.z0, .int .u8 x.z1, .int .u8 x.z2, .int .u8 x.z3, .int .u8 x.z4, .int .u8 x.z5, .int .u8 x.z6, .int .u8 x.z7] 52)) base (.slice (some ⟨w.heap.size, 0, none⟩) 1 1) [x] := by
  unfold OwnBL
  refine ⟨by simp [flatB, B8.cs], .inr ⟨w.heap.size, 1, _, rfl, hb, heap_alloc_new w _, Nat.le_refl _, by unfold maxLen; omega, by simp, ?_⟩⟩
  simp [flatB, B8.cs]

theorem OwnBL.lower {w : World} {base base' : Nat} {v : Value} {l : List B8} (h : OwnBL w base v l) (hb : base' ≤ base) : OwnBL w base' v l := by
  obtain ⟨h1, h2⟩ := h
  refine ⟨h1, ?_⟩
  rcases h2 with h2 | ⟨g, cap, cur, e, hg, hr⟩
  · exact .inl h2
  · exact .inr ⟨g, cap, cur, e, by omega, hr⟩
theorem OwnBL.asBL {w : World} {base n c : Nat} {a : Option Addr} {l : List B8} (h : OwnBL w base (.slice a n c) l) : BL w a n l := by
  obtain ⟨a', c', hv, hb, _⟩ := h.bl
  simp only [Value.slice.injEq] at hv
  obtain ⟨rfl, rfl, rfl⟩ := hv
  exact hb

/-- what Touch and Touched hold, round by round: the block's box, and the list so far -/
def Tch (w : World) (base gx : Nat) (x : B8) (t : List B8) (v : Value) (wr : World) : Prop :=
  Below w.heap.size w wr ∧ Bx wr gx #[.int .u8 x.z0, .int .u8 x.z1, .int .u8 x.z2, .int .u8 x.z3, .int .u8 x.z4, .int .u8 x.z5, .int .u8 x.z6, .int .u8 x.z7] 52 ∧ OwnBL wr base v t ∧ base ≤ wr.heap.size
theorem Tch.alloc {w wr : World} {base gx : Nat} {x : B8} {t : List B8} {v : Value} (h : Tch w base gx x t v wr) (o : Obj) : Tch w base gx x t v (wr.alloc o) :=
  ⟨h.1.alloc h.1.size _, h.2.1.alloc _, World.ownsRow.alloc h.2.2.1 _, by have := h.2.2.2; simp; omega⟩
theorem Tch.drewN {w wr : World} {base gx : Nat} {x : B8} {t : List B8} {v : Value} (h : Tch w base gx x t v wr) (n : Nat) : Tch w base gx x t v (wr.drewN n) :=
  ⟨below_drewN h.1 _, h.2.1.drewN _, by
    obtain ⟨h1, h2⟩ := h.2.2.1
    exact ⟨h1, h2⟩, h.2.2.2⟩
theorem Tch.grown {w wr w' : World} {base gx : Nat} {x : B8} {t t' : List B8} {v v' : Value} (h : Tch w base gx x t v wr) (hgx : gx < base) (hwb : w.heap.size ≤ base) (hg : wr.grownBy w' v.ownBlock) (ho : OwnBL w' base v' t') : Tch w base gx x t' v' w' := by
  have hlt : ∀ k, v.ownBlock = some k → base ≤ k := fun k hk => (World.ownsRow.lt h.2.2.1 k hk).1
  refine ⟨h.1.grown hg h.1.size (fun k hk => Nat.le_trans hwb (hlt k hk)), (hg.block gx h.2.1.lt (fun e => ?_)).trans h.2.1, ho, ?_⟩
  · have := hlt gx e.symm
    omega
  · have := hg.size
    have := h.2.2.2
    omega

end Go.Proofs.Ytdhmijjphgcdmaa
