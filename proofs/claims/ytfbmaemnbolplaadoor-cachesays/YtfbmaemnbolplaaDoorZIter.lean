/-
  The blocks that bytes are made of, one by one (blocksOf): what the iterator gives.
-/
import Derived.RangeFuncNested
import Derived.RangeFuncBound
import Derived.RangeFuncCalls
import Derived.RangeFuncLeaves
import Derived.RangeFuncBox
import Derived.Shelf.Abstract
import Derived.OwnWalkIn
import Derived.TacticsInMore
import Derived.LoopNIn
import Derived.LoopIn
import Derived.BigRegionIn
import Derived.BigQuiet
import Derived.Test.YtfbmaemnbolplaaDoorZSums
import Derived.Test.YtfbmaemnbolplaaDoorZIs
import Derived.Test.YtfbmaemnbolplaaDoorZSameF

namespace Go.Proofs.YtfbmaemnbolplaaDoor
open Go.RowKit Go.Shelf
attribute [local go_sem] Oper.semAt_some

/-- a block -/
structure B8 where
  z0 : Int
  z1 : Int
  z2 : Int
  z3 : Int
  z4 : Int
  z5 : Int
  z6 : Int
  z7 : Int

def B8.vals (x : B8) : Array Value := #[.int .u8 x.z0, .int .u8 x.z1, .int .u8 x.z2, .int .u8 x.z3, .int .u8 x.z4, .int .u8 x.z5, .int .u8 x.z6, .int .u8 x.z7]
def B8.list (x : B8) : List Int := [x.z0, x.z1, x.z2, x.z3, x.z4, x.z5, x.z6, x.z7]
/-- the k-th block of bytes -/
def blkAt (bs : List Int) (k : Nat) : B8 := ⟨bs.getD (8 * k) 0, bs.getD (8 * k + 1) 0, bs.getD (8 * k + 2) 0, bs.getD (8 * k + 3) 0, bs.getD (8 * k + 4) 0, bs.getD (8 * k + 5) 0, bs.getD (8 * k + 6) 0, bs.getD (8 * k + 7) 0⟩
def blksTo (bs : List Int) (k : Nat) : List B8 := (List.range k).map (blkAt bs)
theorem blksTo_succ (bs : List Int) (k : Nat) : blksTo bs (k + 1) = blksTo bs k ++ [blkAt bs k] := by simp [blksTo, List.range_succ]
theorem blksTo_len (bs : List Int) (k : Nat) : (blksTo bs k).length = k := by simp [blksTo]

/-- what a round that goes on keeps: all below n₀, and the iterator's own box -/
def KpS (n₀ Bs : Nat) (W W' : World) : Prop := Below n₀ W W' ∧ W'.heap[Bs]? = W.heap[Bs]?

theorem kpS_t {n₀ Bs : Nat} {A B C : World} (h : KpS n₀ Bs A B) (k : KpS n₀ Bs B C) : KpS n₀ Bs A C := ⟨h.1.trans k.1, k.2.trans h.2⟩
theorem kpS_b {n₀ Bs : Nat} {w : World} (hn : n₀ ≤ w.heap.size) (hB : Bs < w.heap.size) (W : World) (l : Nat) (o o' : Obj) (hl : w.heap.size ≤ l) (h : W.heap[l]? = some o) (h1 : o.isCells = false) (h2 : o.isWalk = false) : KpS n₀ Bs W (W.putObj l o') :=
  ⟨belowK_b hn W l o o' hl h h1 h2, (grownBy_putObj' W l o').block Bs (by have := (Array.getElem?_eq_some_iff.1 h).1; omega) (fun e => by cases e; omega)⟩
end Go.Proofs.YtfbmaemnbolplaaDoor

/-
  Plain mathematics: what stands ahead of the sum, read from the front.
-/
namespace Go.Proofs.YtfbmaemnbolplaaDoor
namespace Mx

/-- these bytes are what stands ahead of that frame's sum -/
def IsBody (l : List Int) (kind : Int) (nums : List Int) (nb : Nat) (bs : List Int) : Prop :=
  may kind nums nb = 0 ∧ bs.length = 8 * nb ∧ (∀ x ∈ bs, 0 ≤ x ∧ x ≤ 255) ∧ bodyB kind nums nb bs = l

/-- some numbers were read, and here the rest begins -/
def Body2 (l nums : List Int) (A : Nat) : Prop :=
  (∃ x0 x1, l = x0 :: x1 :: (numB nums ++ l.drop A)) ∧ A = 2 + (numB nums).length ∧ ∀ x ∈ nums, 0 ≤ x ∧ x ≤ 2147483647

theorem Body2.start (l : List Int) (h : 2 ≤ l.length) : Body2 l [] 2 := by
  match l, h with
  | x0 :: x1 :: r, _ => exact ⟨⟨x0, x1, by simp [numB]⟩, by simp [numB], by simp⟩

theorem Body2.step {l nums : List Int} {A n size : Nat} (h : Body2 l nums A) (h2 : size ≤ (l.drop A).length) (h3 : n ≤ 2147483647) (h4 : (l.drop A).take size = groups n) : Body2 l (nums ++ [(n : Int)]) (A + size) := by
  obtain ⟨⟨x0, x1, e1⟩, e2, e3⟩ := h
  have hl : (groups n).length = size := by rw [← h4, List.length_take]; omega
  have hn : numB (nums ++ [(n : Int)]) = numB nums ++ groups n := by rw [numB_append]; simp [numB]
  refine ⟨⟨x0, x1, ?_⟩, ?_, ?_⟩
  · rw [hn, List.append_assoc, ← h4, ← List.drop_drop, List.take_append_drop]
    exact e1
  · rw [hn, List.length_append, hl, e2]; omega
  · intro x hx
    rcases List.mem_append.1 hx with h | h
    · exact e3 x h
    · simp at h; omega

theorem IsBody.rest {l nums : List Int} {A : Nat} {kind : Int} {nums' : List Int} {nb : Nat} {bs : List Int} (h : Body2 l nums A) (hf : IsBody l kind nums' nb bs) (hk : nums.length ≤ nums'.length) :
    nums = nums'.take nums.length ∧ l.drop A = numB (nums'.drop nums.length) ++ bs ∧ l.getD 0 0 = 16 * kind + (nums'.length : Int) ∧ l.getD 1 0 = (nb : Int) := by
  obtain ⟨⟨x0, x1, e1⟩, e2, e3⟩ := h
  obtain ⟨m1, m2, m3, m4⟩ := hf
  obtain ⟨a1, a2, a3, a4, a5⟩ := may_facts m1
  have e4 : l = (16 * kind + (nums'.length : Int)) :: (nb : Int) :: (numB nums' ++ bs) := by rw [← m4]; simp [bodyB]
  have e5 : numB nums ++ l.drop A = numB nums' ++ bs := by
    have := e1.symm.trans e4
    simp only [List.cons.injEq] at this
    exact this.2.2
  have e6 : numB nums' = numB (nums'.take nums.length) ++ numB (nums'.drop nums.length) := by rw [← numB_append, List.take_append_drop]
  rw [e6, List.append_assoc] at e5
  obtain ⟨c1, c2⟩ := numB_cut nums (nums'.take nums.length) _ _ e3 (fun x hx => a5 x (List.mem_of_mem_take hx)) (by rw [List.length_take]; omega) e5
  exact ⟨c1, c2, by rw [e4]; rfl, by rw [e4]; rfl⟩

/-- no number, though there should be one more -/
theorem Body2.none {l nums : List Int} {A : Nat} (h : Body2 l nums A) (hk : (nums.length : Int) < l.getD 0 0 % 16) (hn : ∀ x t, x ≤ 2147483647 → l.drop A ≠ groups x ++ t) : ∀ kind nums' nb bs, ¬ IsBody l kind nums' nb bs := by
  intro kind nums' nb bs hf
  have hmf := may_facts hf.1
  rcases Nat.lt_or_ge nums.length nums'.length with hlt | hge
  · obtain ⟨_, c2, c3, _⟩ := hf.rest h (by omega)
    have hm := hmf.2.2.2.2 nums'[nums.length] (List.getElem_mem hlt)
    rw [List.drop_eq_getElem_cons hlt] at c2
    have e : ∀ z (l : List Int), numB (z :: l) = groups z.toNat ++ numB l := fun z l => by simp [numB]
    rw [e, List.append_assoc] at c2
    exact hn _ _ (by omega) c2
  · have e4 : l.getD 0 0 = 16 * kind + (nums'.length : Int) := by rw [← hf.2.2.2]; rfl
    omega

/-- behind all numbers -/
theorem Body2.done {l nums : List Int} {A : Nat} (h : Body2 l nums A) (hk : l.getD 0 0 % 16 = (nums.length : Int)) : ∀ kind nums' nb bs, IsBody l kind nums' nb bs → nums = nums' ∧ l.drop A = bs ∧ l.getD 1 0 = (nb : Int) ∧ kind = l.getD 0 0 / 16 := by
  intro kind nums' nb bs hf
  have hmf := may_facts hf.1
  have e4 : l.getD 0 0 = 16 * kind + (nums'.length : Int) := by rw [← hf.2.2.2]; rfl
  have hlen : nums'.length = nums.length := by omega
  obtain ⟨c1, c2, _, c4⟩ := hf.rest h (by omega)
  rw [List.take_of_length_le (by omega)] at c1
  have hdn : nums'.drop nums.length = [] := List.drop_eq_nil_of_le (by omega)
  rw [hdn, show numB [] = [] from rfl, List.nil_append] at c2
  exact ⟨c1, c2, c4, by omega⟩

/-- .. and it is one -/
theorem Body2.good {l nums : List Int} {A c0 c1 : Nat} (h : Body2 l nums A) (h0 : l.getD 0 0 = (c0 : Int)) (h1 : l.getD 1 0 = (c1 : Int)) (hc : c0 ≤ 255) (hk : (c0 : Int) % 16 = (nums.length : Int)) (hn : nums.length ≤ 12) (hb : c1 ≤ 32) (hl : (l.drop A).length = 8 * c1)
    (hby : ∀ x ∈ l, 0 ≤ x ∧ x ≤ 255) : IsBody l ((c0 : Int) / 16) nums c1 (l.drop A) := by
  obtain ⟨⟨x0, x1, e1⟩, e2, e3⟩ := h
  refine ⟨?_, hl, fun x hx => hby x (List.mem_of_mem_drop hx), ?_⟩
  · apply may_ok
    · omega
    · omega
    · intro j hj
      have hm := e3 _ (getD_mem nums j hj)
      generalize nums.getD j 0 = z at hm
      unfold badNum
      simp
      omega
  · have f0 : x0 = (c0 : Int) := by rw [← h0, e1]; rfl
    have f1 : x1 = (c1 : Int) := by rw [← h1, e1]; rfl
    conv => rhs; rw [e1]
    unfold bodyB
    rw [f0, f1, ← hk]
    simp
    omega

theorem IsFrame.body {l : List Int} {kind : Int} {nums : List Int} {nb : Nat} {bs : List Int} (h : IsFrame l kind nums nb bs) : IsBody (l.take (l.length - 4)) kind nums nb bs ∧ l.drop (l.length - 4) = sealB (crc (l.take (l.length - 4))) := by
  have e : l = bodyB kind nums nb bs ++ sealB (crc (bodyB kind nums nb bs)) := h.2.2.2.symm
  have hl : l.length - 4 = (bodyB kind nums nb bs).length := by
    have := congrArg List.length e
    rw [List.length_append, sealB_len] at this
    omega
  have ht : l.take (l.length - 4) = bodyB kind nums nb bs := by rw [hl]; conv => lhs; rw [e]; rw [List.take_left]
  have hd : l.drop (l.length - 4) = sealB (crc (bodyB kind nums nb bs)) := by rw [hl]; conv => lhs; rw [e]; rw [List.drop_left]
  rw [ht, hd]
  exact ⟨⟨h.1, h.2.1, h.2.2.1, rfl⟩, rfl⟩

theorem IsBody.frame {l : List Int} {kind : Int} {nums : List Int} {nb : Nat} {bs : List Int} (h : IsBody (l.take (l.length - 4)) kind nums nb bs) (hs : l.drop (l.length - 4) = sealB (crc (l.take (l.length - 4)))) : IsFrame l kind nums nb bs := by
  refine ⟨h.1, h.2.1, h.2.2.1, ?_⟩
  unfold packB
  rw [h.2.2.2, ← hs, List.take_append_drop]
end Mx
end Go.Proofs.YtfbmaemnbolplaaDoor

/-
  The range over the blocks, for a body that gathers them into a frame's box.
-/
namespace Go.Proofs.YtfbmaemnbolplaaDoor
open Go.RowKit Go.Shelf
attribute [local go_sem] Oper.semAt_some

def flat (pre : List B8) : List Int := pre.flatMap B8.list
theorem flat_snoc (pre : List B8) (x : B8) : flat (pre ++ [x]) = flat pre ++ x.list := by simp [flat]
theorem flat_len (pre : List B8) : (flat pre).length = 8 * pre.length := by
  induction pre with
  | nil => rfl
  | cons x pre ih => simp [flat, B8.list] at *; omega

theorem blk_list (bs : List Int) (k : Nat) (h : 8 * k + 8 ≤ bs.length) : bs.take (8 * (k + 1)) = bs.take (8 * k) ++ (blkAt bs k).list := by
  rw [show 8 * (k + 1) = 8 * k + 1 + 1 + 1 + 1 + 1 + 1 + 1 + 1 by omega]
  rw [Mx.take_snoc bs _ _ (by omega) rfl, Mx.take_snoc bs _ _ (by omega) rfl, Mx.take_snoc bs _ _ (by omega) rfl, Mx.take_snoc bs _ _ (by omega) rfl,
    Mx.take_snoc bs _ _ (by omega) rfl, Mx.take_snoc bs _ _ (by omega) rfl, Mx.take_snoc bs _ _ (by omega) rfl, Mx.take_snoc bs _ _ (by omega) rfl]
  simp only [List.append_assoc, List.cons_append, List.nil_append, B8.list, blkAt]

theorem flat_blksTo (bs : List Int) (k : Nat) (h : 8 * k ≤ bs.length) : flat (blksTo bs k) = bs.take (8 * k) := by
  induction k with
  | zero => simp [blksTo, flat]
  | succ k ih => rw [blksTo_succ, flat_snoc, ih (by omega), blk_list bs k (by omega)]

/-- the round's own variable -/
def LAx (C : Nat) (T : Array Value) (x : B8) (a' : Act) (W : World) : Prop :=
  ∃ Bx, C ≤ Bx ∧ W.heap[Bx]? = some (.cells x.vals 25 (0, 0)) ∧ a' = { tmps := (T.setIfInBounds 64 (.agg x.vals)).setIfInBounds 10 (.pointer (some ⟨Bx, 0, none⟩)), defers := [] }

theorem row_kept {W W' : World} {base e size n : Nat} {v : Value} {xs : List Value} {row : Option Nat} (h : W.ownsRow base e size v n xs) (hg : W.grownBy W' row) (hr : ∀ r, row = some r → ∃ o : Obj, W.heap[r]? = some o ∧ o.isCells = false) : W'.ownsRow base e size v n xs := by
  refine h.kept hg ?_
  rcases h.2 with ⟨rfl, _⟩ | ⟨g, cap, cur, rfl, _, hgb, _⟩
  · exact .inl rfl
  · refine .inr fun e => ?_
    obtain ⟨o, ho, hc⟩ := hr g (by rw [← e]; rfl)
    rw [hgb] at ho
    cases ho
    cases hc

theorem cells_kept {W W' : World} {g : Nat} {cs : Array Value} {t : TypeId} {row : Option Nat} (h : W.heap[g]? = some (.cells cs t (0, 0))) (hg : W.grownBy W' row) (hr : ∀ r, row = some r → ∃ o : Obj, W.heap[r]? = some o ∧ o.isCells = false) : W'.heap[g]? = some (.cells cs t (0, 0)) := by
  refine (hg.block g (Array.getElem?_eq_some_iff.1 h).1 (fun e => ?_)).trans h
  obtain ⟨o, ho, hc⟩ := hr g e.symm
  rw [h] at ho
  cases ho
  cases hc

theorem Ints.grow {W W' : World} {a : Option Addr} {n : Nat} {l : List Int} {row : Option Nat} (h : Ints W a n l) (hg : W.grownBy W' row) (hr : ∀ r, row = some r → ∃ o : Obj, W.heap[r]? = some o ∧ o.isCells = false) : Ints W' a n l := by
  obtain ⟨h1, h2, h4⟩ := h
  refine ⟨h1, h2, fun hp => ?_⟩
  obtain ⟨b, off, ha, hlt, hc⟩ := h4 hp
  exact ⟨b, off, ha, by have := hg.size; omega, fun i hi => cell_kept (hc i hi) hg hr⟩
theorem Blks.grow {W W' : World} {a : Option Addr} {n : Nat} {l : List Int} {row : Option Nat} (h : Blks W a n l) (hg : W.grownBy W' row) (hr : ∀ r, row = some r → ∃ o : Obj, W.heap[r]? = some o ∧ o.isCells = false) : Blks W' a n l := by
  obtain ⟨h1, h2, h3, h4⟩ := h
  refine ⟨h1, h2, h3, fun hp => ?_⟩
  obtain ⟨b, off, ha, hlt, hc⟩ := h4 hp
  exact ⟨b, off, ha, by have := hg.size; omega, fun i hi => cell_kept (hc i hi) hg hr⟩

/-- one block more, in the fence; what is no cells lies as it lay -/
theorem wpListIn_append_keep {F : Fence} {fuel : Nat} {w : World} {ops : Array Oper} {rest : List Oper} {o : Oper} {a : Act} {Q : Exit → Act → World → Prop} (hgd : o.guard = none) (s x : Operand)
    (ho : o.op = .call { callee := .builtin .append, args := #[s, x], argTypes := #[22, 22] }) (base n : Nat) (bs : List Int) (hown : OwnB w base (a.eval s) n bs)
    (zs : List Int) (hz8 : zs.length = 8) (arr : Array Value) (harr : arr = (zs.map (Value.int .u8)).toArray) (hx : a.eval x = .slice (some ⟨w.heap.size, 0, none⟩) 1 1) (h63 : n ≤ 1000000) (hbase : base ≤ w.heap.size)
    (h : ∀ ad c w', OwnB w' base (.slice (some ad) (n + 1) c) (n + 1) (bs ++ zs) → Below base w w' → KeepsOthers w w' → wpListIn F fuel Tryd.prog ops Q rest (a.put o.dst (.slice (some ad) (n + 1) c)) w') :
    wpListIn F fuel Tryd.prog ops Q (o :: rest) a (w.alloc (.cells arr 25)) := by
  obtain ⟨i0, hi, hz0, hz1, hz2⟩ := info_parts Tryd.info25
  refine wpListIn_append_own _ hgd s x 22 ho base 25 i0 _ 8 8 Tryd.underlying22 hi hz0 hz1 hz2 rfl (by decide) (a.eval s) n (bs.map (Value.int .u8)) rfl (World.ownsRow.alloc hown.2 _) ⟨w.heap.size, 0, none⟩ 1 1 (zs.map (Value.int .u8)) hx (by simp [hz8]) (cell_newsT w zs arr 25 harr) ?_ (by unfold maxLen; omega) (by omega) (by simp; omega) ?_
  · intro u hu
    obtain ⟨z, _, rfl⟩ := List.mem_map.1 hu
    rfl
  · intro v' w' hown' hg _
    have hb : Below base w w' := ((Below.refl base w).alloc hbase _).grown hg (by simp; omega) (fun k hk => (World.ownsRow.lt hown.2 k hk).1)
    have hI : OwnB w' base v' (n + 1) (bs ++ zs) := ⟨by rw [List.length_append, hown.1, hz8]; omega, by rw [List.map_append]; exact hown'⟩
    have hk : KeepsOthers w w' := (KeepsOthers.alloc w _).trans (KeepsOthers.of_grownBy hg (by
      intro j o' e hj
      have hown2 := World.ownsRow.alloc hown.2 (.cells arr 25)
      rcases hown2.2 with ⟨hv, _⟩ | ⟨g, cap, cur, hv, _, hgb, _⟩
      · rw [hv] at e; cases e
      · rw [hv] at e
        cases e
        rw [hgb] at hj
        cases hj
        rfl))
    rcases hown'.2 with ⟨_, hz⟩ | ⟨g, cap, cur, rfl, hbg, _⟩
    · simp at hz
    · exact h _ _ w' hI hb hk

theorem cell_of_cells {W : World} {g : Nat} {cs : Array Value} {t : TypeId} (h : W.heap[g]? = some (.cells cs t (0, 0))) (j : Nat) : W.cell? ⟨g, j, none⟩ = cs[j]? := by
  unfold World.cell?
  rw [h]
  rfl

theorem lax_own (C : Nat) (T : Array Value) (x : B8) (a' : Act) : OwnFrom C (fun (_ : Unit) W => LAx C T x a' W) := by
  rintro _ W W' row ⟨Bx, h1, h2, h3⟩ hg hr
  exact ⟨Bx, h1, cells_kept h2 hg (fun r e => (hr r e).2), h3⟩

end Go.Proofs.YtfbmaemnbolplaaDoor

/-
  Disks: blocks and puts as they lie in memory; what B1 says of a disk.
-/
namespace Go.Proofs.YtfbmaemnbolplaaDoor
open Go.RowKit

/-- a put: a place, and a block -/
structure Pt where
  at_ : Int
  d : B8

def B8.cs (x : B8) : List Value := [.int .u8 x.z0, .int .u8 x.z1, .int .u8 x.z2, .int .u8 x.z3, .int .u8 x.z4, .int .u8 x.z5, .int .u8 x.z6, .int .u8 x.z7]
def Pt.cs (p : Pt) : List Value := [.int .i64 p.at_, .int .u8 p.d.z0, .int .u8 p.d.z1, .int .u8 p.d.z2, .int .u8 p.d.z3, .int .u8 p.d.z4, .int .u8 p.d.z5, .int .u8 p.d.z6, .int .u8 p.d.z7]
def flatB (l : List B8) : List Value := l.flatMap B8.cs
def flatP (l : List Pt) : List Value := l.flatMap Pt.cs
/-- a block of noughts -/
def zB : B8 := ⟨0, 0, 0, 0, 0, 0, 0, 0⟩

theorem flatMap_len {α : Type} (f : α → List Value) (s : Nat) (h : ∀ x, (f x).length = s) (l : List α) : (l.flatMap f).length = l.length * s := by
  induction l with
  | nil => simp
  | cons x l ih => rw [List.flatMap_cons, List.length_append, h, ih, List.length_cons, Nat.add_mul]; omega

theorem flatMap_at {α : Type} (f : α → List Value) (s : Nat) (h : ∀ x, (f x).length = s) (l : List α) (k j : Nat) (x : α) (hk : l[k]? = some x) (hj : j < s) : (l.flatMap f)[k * s + j]? = (f x)[j]? := by
  induction l generalizing k with
  | nil => simp at hk
  | cons y l ih =>
    rw [List.flatMap_cons]
    cases k with
    | zero =>
      simp at hk
      subst hk
      rw [Nat.zero_mul, Nat.zero_add, List.getElem?_append_left (by rw [h]; exact hj)]
    | succ k =>
      simp at hk
      rw [List.getElem?_append_right (by rw [h, Nat.add_mul]; omega), h, show (k + 1) * s + j - s = k * s + j by rw [Nat.add_mul]; omega]
      exact ih k hk

theorem flatMap_set {α : Type} (f : α → List Value) (s : Nat) (h : ∀ x, (f x).length = s) (l : List α) (k : Nat) (x : α) (hk : k < l.length) :
    (l.set k x).flatMap f = (l.flatMap f).take (k * s) ++ f x ++ (l.flatMap f).drop (k * s + s) := by
  induction l generalizing k with
  | nil => simp at hk
  | cons y l ih =>
    cases k with
    | zero => simp [List.flatMap_cons, ← h y]
    | succ k =>
      rw [List.set_cons_succ, List.flatMap_cons, List.flatMap_cons, ih k (by simpa using hk), List.take_append, List.drop_append]
      rw [List.take_of_length_le (l := f y) (i := (k + 1) * s) (by rw [h, Nat.add_mul]; omega), List.drop_of_length_le (l := f y) (i := (k + 1) * s + s) (by rw [h, Nat.add_mul]; omega), h]
      rw [show (k + 1) * s - s = k * s by rw [Nat.add_mul]; omega, show (k + 1) * s + s - s = k * s + s by rw [Nat.add_mul]; omega]
      simp [List.append_assoc]

theorem flatB_len (l : List B8) : (flatB l).length = l.length * 8 := flatMap_len _ 8 (fun _ => rfl) l
theorem flatP_len (l : List Pt) : (flatP l).length = l.length * 9 := flatMap_len _ 9 (fun _ => rfl) l
theorem flatB_one {l : List B8} : ∀ u ∈ flatB l, u.oneCell' = true := by
  intro u hu
  obtain ⟨x, _, hx⟩ := List.mem_flatMap.1 hu
  simp [B8.cs] at hx
  rcases hx with rfl | rfl | rfl | rfl | rfl | rfl | rfl | rfl <;> rfl
theorem flatP_one {l : List Pt} : ∀ u ∈ flatP l, u.oneCell' = true := by
  intro u hu
  obtain ⟨x, _, hx⟩ := List.mem_flatMap.1 hu
  simp [Pt.cs] at hx
  rcases hx with rfl | rfl | rfl | rfl | rfl | rfl | rfl | rfl | rfl <;> rfl

/-- a slice whose cells are these -/
def RowR (w : World) (a : Option Addr) (n size : Nat) (xs : List Value) : Prop :=
  xs.length = n * size ∧ n ≤ maxLen ∧ (0 < n → ∃ b off, a = some ⟨b, off, none⟩ ∧ b < w.heap.size ∧ ∀ j u, xs[j]? = some u → w.cell? ⟨b, off + j, none⟩ = some u)
/-- blocks; puts -/
def BL (w : World) (a : Option Addr) (n : Nat) (l : List B8) : Prop := l.length = n ∧ RowR w a n 8 (flatB l)
def PL (w : World) (a : Option Addr) (n : Nat) (l : List Pt) : Prop := l.length = n ∧ RowR w a n 9 (flatP l)

theorem RowR.later {w w' : World} {a : Option Addr} {n size : Nat} {xs : List Value} (h : RowR w a n size xs) (hb : Below w.heap.size w w') : RowR w' a n size xs := by
  obtain ⟨h1, h2, h4⟩ := h
  refine ⟨h1, h2, fun hp => ?_⟩
  obtain ⟨b, off, ha, hlt, hc⟩ := h4 hp
  exact ⟨b, off, ha, by have := hb.size; omega, fun j u hj => (hb.cell (p := ⟨b, off + j, none⟩) hlt).trans (hc j u hj)⟩
theorem BL.later {w w' : World} {a : Option Addr} {n : Nat} {l : List B8} (h : BL w a n l) (hb : Below w.heap.size w w') : BL w' a n l := ⟨h.1, h.2.later hb⟩
theorem PL.later {w w' : World} {a : Option Addr} {n : Nat} {l : List Pt} (h : PL w a n l) (hb : Below w.heap.size w w') : PL w' a n l := ⟨h.1, h.2.later hb⟩
theorem BL.nil (w : World) : BL w none 0 [] := ⟨rfl, rfl, by unfold maxLen; omega, fun h => absurd h (by omega)⟩
theorem PL.nil (w : World) : PL w none 0 [] := ⟨rfl, rfl, by unfold maxLen; omega, fun h => absurd h (by omega)⟩

theorem BL.at_ {w : World} {a : Option Addr} {n : Nat} {l : List B8} (h : BL w a n l) (k : Nat) (hk : k < n) :
    ∃ b off, ∃ x : B8, a = some ⟨b, off, none⟩ ∧ b < w.heap.size ∧ l[k]? = some x ∧ w.cell? ⟨b, off + k * 8, none⟩ = some (.int .u8 x.z0) ∧ w.cell? ⟨b, off + k * 8 + 1, none⟩ = some (.int .u8 x.z1) ∧ w.cell? ⟨b, off + k * 8 + 2, none⟩ = some (.int .u8 x.z2) ∧
      w.cell? ⟨b, off + k * 8 + 3, none⟩ = some (.int .u8 x.z3) ∧ w.cell? ⟨b, off + k * 8 + 4, none⟩ = some (.int .u8 x.z4) ∧ w.cell? ⟨b, off + k * 8 + 5, none⟩ = some (.int .u8 x.z5) ∧
      w.cell? ⟨b, off + k * 8 + 6, none⟩ = some (.int .u8 x.z6) ∧ w.cell? ⟨b, off + k * 8 + 7, none⟩ = some (.int .u8 x.z7) := by
  obtain ⟨h0, h1, h2, h4⟩ := h
  obtain ⟨b, off, ha, hlt, hc⟩ := h4 (by omega)
  have hx : l[k]? = some l[k] := List.getElem?_eq_getElem (by omega)
  have e := fun j (hj : j < 8) => flatMap_at B8.cs 8 (fun _ => rfl) l k j _ hx hj
  refine ⟨b, off, l[k], ha, hlt, hx, ?_, ?_, ?_, ?_, ?_, ?_, ?_, ?_⟩
  · exact hc (k * 8) _ (e 0 (by omega))
  · exact hc (k * 8 + 1) _ (e 1 (by omega))
  · exact hc (k * 8 + 2) _ (e 2 (by omega))
  · exact hc (k * 8 + 3) _ (e 3 (by omega))
  · exact hc (k * 8 + 4) _ (e 4 (by omega))
  · exact hc (k * 8 + 5) _ (e 5 (by omega))
  · exact hc (k * 8 + 6) _ (e 6 (by omega))
  · exact hc (k * 8 + 7) _ (e 7 (by omega))

theorem PL.at_ {w : World} {a : Option Addr} {n : Nat} {l : List Pt} (h : PL w a n l) (k : Nat) (hk : k < n) :
    ∃ b off, ∃ p : Pt, a = some ⟨b, off, none⟩ ∧ b < w.heap.size ∧ l[k]? = some p ∧ w.cell? ⟨b, off + k * 9, none⟩ = some (.int .i64 p.at_) ∧ w.cell? ⟨b, off + k * 9 + 1, none⟩ = some (.int .u8 p.d.z0) ∧ w.cell? ⟨b, off + k * 9 + 2, none⟩ = some (.int .u8 p.d.z1) ∧
      w.cell? ⟨b, off + k * 9 + 3, none⟩ = some (.int .u8 p.d.z2) ∧ w.cell? ⟨b, off + k * 9 + 4, none⟩ = some (.int .u8 p.d.z3) ∧ w.cell? ⟨b, off + k * 9 + 5, none⟩ = some (.int .u8 p.d.z4) ∧
      w.cell? ⟨b, off + k * 9 + 6, none⟩ = some (.int .u8 p.d.z5) ∧ w.cell? ⟨b, off + k * 9 + 7, none⟩ = some (.int .u8 p.d.z6) ∧ w.cell? ⟨b, off + k * 9 + 8, none⟩ = some (.int .u8 p.d.z7) := by
  obtain ⟨h0, h1, h2, h4⟩ := h
  obtain ⟨b, off, ha, hlt, hc⟩ := h4 (by omega)
  have hx : l[k]? = some l[k] := List.getElem?_eq_getElem (by omega)
  have e := fun j (hj : j < 9) => flatMap_at Pt.cs 9 (fun _ => rfl) l k j _ hx hj
  refine ⟨b, off, l[k], ha, hlt, hx, ?_, ?_, ?_, ?_, ?_, ?_, ?_, ?_, ?_⟩
  · exact hc (k * 9) _ (e 0 (by omega))
  · exact hc (k * 9 + 1) _ (e 1 (by omega))
  · exact hc (k * 9 + 2) _ (e 2 (by omega))
  · exact hc (k * 9 + 3) _ (e 3 (by omega))
  · exact hc (k * 9 + 4) _ (e 4 (by omega))
  · exact hc (k * 9 + 5) _ (e 5 (by omega))
  · exact hc (k * 9 + 6) _ (e 6 (by omega))
  · exact hc (k * 9 + 7) _ (e 7 (by omega))
  · exact hc (k * 9 + 8) _ (e 8 (by omega))

/-- the call's own blocks; its own puts -/
def OwnBL (w : World) (base : Nat) (v : Value) (l : List B8) : Prop := w.ownsRow base 25 8 v l.length (flatB l)
def OwnPL (w : World) (base : Nat) (v : Value) (l : List Pt) : Prop := w.ownsRow base 38 9 v l.length (flatP l)

theorem Tryd.info38 : (Tryd.prog.info? 38).map (fun i => (i.zero, i.size, i.bytes)) = some (some (.agg #[.int .i64 0, .int .u8 0, .int .u8 0, .int .u8 0, .int .u8 0, .int .u8 0, .int .u8 0, .int .u8 0, .int .u8 0]), 9, 16) := by kernel_rfl

theorem ownsRow_rowR {w : World} {base e size : Nat} {v : Value} {n : Nat} {xs : List Value} (h : w.ownsRow base e size v n xs) : ∃ a c, v = .slice a n c ∧ n ≤ c ∧ RowR w a n size xs ∧ ∀ p, a = some p → base ≤ p.block := by
  rcases h.2 with ⟨hv, hz⟩ | ⟨g, cap, cur, hv, hb, hh, hle, hmx, _⟩
  · subst hz
    exact ⟨none, 0, hv, Nat.le_refl _, ⟨h.1, by unfold maxLen; omega, fun h => absurd h (by omega)⟩, fun p hp => by cases hp⟩
  · have hc := World.ownsRow.cells h (g := g) (by rw [hv]; rfl)
    refine ⟨_, cap, hv, hle, ⟨h.1, by omega, fun _ => ⟨g, 0, rfl, (Array.getElem?_eq_some_iff.1 hh).1, fun i u hi => ?_⟩⟩, fun p hp => by cases hp; exact hb⟩
    have hadd : (⟨g, 0, none⟩ : Addr).add i = ⟨g, 0 + i, none⟩ := by unfold Addr.add; split <;> simp_all
    rw [← hadd]
    exact hc i u hi

theorem OwnBL.bl {w : World} {base : Nat} {v : Value} {l : List B8} (h : OwnBL w base v l) : ∃ a c, v = .slice a l.length c ∧ BL w a l.length l ∧ ∀ p, a = some p → base ≤ p.block := by
  obtain ⟨a, c, hv, _, hr, hp⟩ := ownsRow_rowR h
  exact ⟨a, c, hv, ⟨rfl, hr⟩, hp⟩
theorem OwnPL.pl {w : World} {base : Nat} {v : Value} {l : List Pt} (h : OwnPL w base v l) : ∃ a c, v = .slice a l.length c ∧ PL w a l.length l ∧ ∀ p, a = some p → base ≤ p.block := by
  obtain ⟨a, c, hv, _, hr, hp⟩ := ownsRow_rowR h
  exact ⟨a, c, hv, ⟨rfl, hr⟩, hp⟩

namespace Mx
def outside (n : Nat) (p : Pt) : Bool := decide (p.at_ < 0) || decide ((n : Int) ≤ p.at_)
/-- B1's error, as a number (0: none) -/
def dmay (n : Nat) (ps : List Pt) : Int :=
  if n < 1 ∨ 200 < n ∨ 800 < ps.length then 2 else if ps.any (outside n) then 1 else 0
theorem dmay_long {n : Nat} {ps : List Pt} (h : n < 1 ∨ 200 < n ∨ 800 < ps.length) : dmay n ps = 2 := by unfold dmay; rw [if_pos h]
theorem dmay_bad {n : Nat} {ps : List Pt} (h : ¬ (n < 1 ∨ 200 < n ∨ 800 < ps.length)) (k : Nat) (p : Pt) (hk : ps[k]? = some p) (hp : outside n p = true) : dmay n ps = 1 := by
  unfold dmay
  rw [if_neg h, if_pos]
  rw [List.any_eq_true]
  exact ⟨p, List.mem_of_getElem? hk, hp⟩
theorem dmay_ok {n : Nat} {ps : List Pt} (h : ¬ (n < 1 ∨ 200 < n ∨ 800 < ps.length)) (hp : ∀ k p, k < ps.length → ps[k]? = some p → outside n p = false) : dmay n ps = 0 := by
  unfold dmay
  rw [if_neg h, if_neg]
  rw [List.any_eq_true]
  rintro ⟨p, hx, hb⟩
  obtain ⟨i, hi, rfl⟩ := List.getElem_of_mem hx
  have := hp i _ hi (List.getElem?_eq_getElem hi)
  rw [hb] at this
  cases this
theorem dmay_facts {n : Nat} {ps : List Pt} (h : dmay n ps = 0) : 1 ≤ n ∧ n ≤ 200 ∧ ps.length ≤ 800 ∧ ∀ p ∈ ps, 0 ≤ p.at_ ∧ p.at_ < n := by
  unfold dmay at h
  split at h
  · omega
  · split at h
    · omega
    · rename_i h1 h2
      refine ⟨by omega, by omega, by omega, fun p hp => ?_⟩
      rw [List.any_eq_true] at h2
      have : ¬ outside n p = true := fun hb => h2 ⟨p, hp, hb⟩
      simp [outside] at this
      omega
end Mx
end Go.Proofs.YtfbmaemnbolplaaDoor

/-
  Whether a disk may be: the document's answer (DiskMay), the program's (Check), and a place on it (has, checkPlace).
-/
namespace Go.Proofs.YtfbmaemnbolplaaDoor
open Go.RowKit

/-- is it a place of a disk of n blocks? -/
def Mx.inside (n : Nat) (x : Int) : Bool := decide (0 ≤ x ∧ x < n)
theorem Mx.inside_yes {n : Nat} {x : Int} (h : 0 ≤ x ∧ x < n) : Mx.inside n x = true := decide_eq_true h
theorem Mx.inside_no {n : Nat} {x : Int} (h : ¬ (0 ≤ x ∧ x < n)) : Mx.inside n x = false := decide_eq_false h

namespace Mx
/-- what is wrong with a disk, or else with a place on it -/
def dplace (n : Nat) (ps : List Pt) (at_ : Int) : Int := if dmay n ps = 0 then (if 0 ≤ at_ ∧ at_ < n then 0 else 1) else dmay n ps
end Mx

end Go.Proofs.YtfbmaemnbolplaaDoor

/-
  Digests of blocks and of digests: what they are (mathematics), rows of numbers of 64 bits in memory, and the program's ofBlock.
-/
namespace Go.Proofs.YtfbmaemnbolplaaDoor
open Go.RowKit

namespace Mx
/-- a block's bytes -/
def bytesOf (x : B8) : List Int := [x.z0, x.z1, x.z2, x.z3, x.z4, x.z5, x.z6, x.z7]
/-- its digest in a tree -/
def blockD (x : B8) : Nat := digest (0 :: bytesOf x)
/-- a number's eight bytes, the highest first -/
def be8 (d : Nat) : List Int := (List.range 8).map fun j => ((d / 256 ^ (7 - j) % 256 : Nat) : Int)
/-- the digest of digests -/
def overD (l : List Nat) : Nat := digest (1 :: l.flatMap be8)
/-- a level of what comes below it -/
def overL (l : List Nat) : List Nat := (List.range ((l.length + 3) / 4)).map fun i => overD ((l.drop (i * 4)).take 4)
/-- all levels -/
def growF : Nat → List Nat → List (List Nat)
  | 0, l => [l]
  | f + 1, l => if l.length ≤ 1 then [l] else l :: growF f (overL l)
def levels (l : List Nat) : List (List Nat) := growF l.length l
theorem overL_len (l : List Nat) : (overL l).length = (l.length + 3) / 4 := by simp [overL]
theorem overD_lt (l : List Nat) : overD l < 18446744073709551616 := digest_lt _
theorem blockD_lt (x : B8) : blockD x < 18446744073709551616 := digest_lt _
theorem overL_lt (l : List Nat) : ∀ x ∈ overL l, x < 18446744073709551616 := by
  intro x hx
  obtain ⟨i, _, rfl⟩ := List.mem_map.1 hx
  exact overD_lt _
theorem be8_len (d : Nat) : (be8 d).length = 8 := by simp [be8]
theorem be8_byte (d : Nat) : ∀ z ∈ be8 d, 0 ≤ z ∧ z ≤ 255 := by
  intro z hz
  obtain ⟨j, _, rfl⟩ := List.mem_map.1 hz
  omega
theorem flat_byte (l : List Nat) : ∀ z ∈ l.flatMap be8, 0 ≤ z ∧ z ≤ 255 := by
  intro z hz
  obtain ⟨d, _, hz⟩ := List.mem_flatMap.1 hz
  exact be8_byte d z hz
theorem flat_len (l : List Nat) : (l.flatMap be8).length = l.length * 8 := by
  induction l with
  | nil => rfl
  | cons x l ih => rw [List.flatMap_cons, List.length_append, ih, be8_len, List.length_cons, Nat.add_mul]; omega
end Mx

/-- bytes in their bounds -/
def B8.ok (x : B8) : Prop := ∀ z ∈ Mx.bytesOf x, 0 ≤ z ∧ z ≤ 255

/-- numbers of 64 bits, read; the call's own -/
def U64s (w : World) (a : Option Addr) (len : Nat) (l : List Nat) : Prop :=
  l.length = len ∧ len ≤ maxLen ∧ (∀ x ∈ l, x < 18446744073709551616) ∧ (0 < len → ∃ b off, a = some ⟨b, off, none⟩ ∧ b < w.heap.size ∧ ∀ i, i < len → w.cell? ⟨b, off + i, none⟩ = some (.int .u64 ((l.getD i 0 : Nat) : Int)))
def OwnU (w : World) (base : Nat) (v : Value) (l : List Nat) : Prop := w.ownsRow base 44 1 v l.length (l.map fun x : Nat => Value.int .u64 (x : Int))
theorem Tryd.info44 : (Tryd.prog.info? 44).map (fun i => (i.zero, i.size, i.bytes)) = some (some (.int .u64 0), 1, 8) := by kernel_rfl

theorem U64s.later {w w' : World} {a : Option Addr} {n : Nat} {l : List Nat} (h : U64s w a n l) (hb : Below w.heap.size w w') : U64s w' a n l := by
  obtain ⟨h1, h2, h3, h4⟩ := h
  refine ⟨h1, h2, h3, fun hp => ?_⟩
  obtain ⟨b, off, ha, hlt, hc⟩ := h4 hp
  exact ⟨b, off, ha, by have := hb.size; omega, fun i hi => (hb.cell (p := ⟨b, off + i, none⟩) hlt).trans (hc i hi)⟩
theorem U64s.nil (w : World) : U64s w none 0 [] := ⟨rfl, by unfold maxLen; omega, by simp, fun h => absurd h (by omega)⟩
theorem U64s.at_ {w : World} {a : Option Addr} {n : Nat} {l : List Nat} (h : U64s w a n l) (k : Nat) (hk : k < n) :
    ∃ b off, ∃ x : Nat, a = some ⟨b, off, none⟩ ∧ b < w.heap.size ∧ l[k]? = some x ∧ (x : Int) < 18446744073709551616 ∧ w.cell? ⟨b, off + k, none⟩ = some (.int .u64 (x : Int)) := by
  obtain ⟨h1, h2, h3, h4⟩ := h
  obtain ⟨b, off, ha, hlt, hc⟩ := h4 (by omega)
  have hx : l[k]? = some l[k] := List.getElem?_eq_getElem (by omega)
  have h5 := h3 l[k] (List.getElem_mem _)
  refine ⟨b, off, l[k], ha, hlt, hx, by omega, ?_⟩
  rw [hc k hk, List.getD_eq_getElem?_getD, hx]
  rfl
/-- a part of them -/
theorem U64s.cut {w : World} {b off n : Nat} {l : List Nat} (h : U64s w (some ⟨b, off, none⟩) n l) (i m : Nat) (hi : i + m ≤ n) : U64s w (some ⟨b, off + i, none⟩) m ((l.drop i).take m) := by
  obtain ⟨h1, h2, h3, h4⟩ := h
  refine ⟨by rw [List.length_take, List.length_drop]; omega, by omega, fun x hx => h3 x (List.mem_of_mem_drop (List.mem_of_mem_take hx)), fun hp => ?_⟩
  obtain ⟨b', off', ha, hlt, hc⟩ := h4 (by omega)
  cases ha
  refine ⟨b, off + i, rfl, hlt, fun k hk => ?_⟩
  have := hc (i + k) (by omega)
  rw [← Nat.add_assoc] at this
  rw [this]
  congr 3
  rw [List.getD_eq_getElem?_getD, List.getD_eq_getElem?_getD, List.getElem?_take_of_lt hk, List.getElem?_drop]
theorem OwnU.nil (w : World) (base : Nat) : OwnU w base (.slice none 0 0) [] := World.ownsRow_nil w base 44 1
theorem OwnU.read {w : World} {base n cap : Nat} {a : Option Addr} {l : List Nat} (h : OwnU w base (.slice a n cap) l) (hl : ∀ x ∈ l, x < 18446744073709551616) : U64s w a n l ∧ n ≤ cap := by
  rcases h.2 with ⟨hv, hz⟩ | ⟨g, cap', cur, hv, hb, hh, hle, hmx, hcs, htk⟩
  · simp only [Value.slice.injEq] at hv
    obtain ⟨rfl, rfl, rfl⟩ := hv
    exact ⟨⟨hz, by unfold maxLen; omega, hl, fun h => absurd h (by omega)⟩, Nat.le_refl _⟩
  · simp only [Value.slice.injEq] at hv
    obtain ⟨rfl, rfl, rfl⟩ := hv
    refine ⟨⟨rfl, by omega, hl, fun hp => ⟨g, 0, rfl, (Array.getElem?_eq_some_iff.1 hh).1, fun i hi => ?_⟩⟩, hle⟩
    rw [cell_of_cells hh, Nat.zero_add, ← Array.getElem?_toList]
    have h5 : (cur.toList.take (l.length * 1))[i]? = (l.map fun x : Nat => Value.int .u64 (x : Int))[i]? := by rw [htk]
    rw [List.getElem?_take_of_lt (by omega)] at h5
    rw [h5, List.getElem?_map, List.getElem?_eq_getElem hi, List.getD_eq_getElem?_getD, List.getElem?_eq_getElem hi]
    rfl
theorem OwnU.form {w : World} {base : Nat} {v : Value} {l : List Nat} (h : OwnU w base v l) : ∃ a cap, v = .slice a l.length cap := by
  rcases h.2 with ⟨hv, hz⟩ | ⟨g, cap', cur, hv, _⟩
  · exact ⟨none, 0, by rw [hv, hz]⟩
  · exact ⟨_, _, hv⟩

end Go.Proofs.YtfbmaemnbolplaaDoor
