/-
  The blocks that bytes are made of, one by one (blocksOf): what the iterator gives.
-/
import Derived.RangeFuncNested
import Derived.RangeFuncBound
import Derived.RangeFuncCalls
import Derived.RangeFuncLeaves
import Derived.RangeFuncBox
import Derived.Shelf.Abstract
import Derived.OwnWalkIn
import Derived.TacticsInMore
import Derived.LoopNIn
import Derived.LoopIn
import Derived.BigRegionIn
import Derived.BigQuiet
import Derived.Test.YtfgonmgmoeoedaaZSameF

namespace Go.Proofs.Ytfgonmgmoeoedaa
open Go.RowKit Go.Shelf
attribute [local go_sem] Oper.semAt_some

/-- a block -/
structure B8 where
  z0 : Int
  z1 : Int
  z2 : Int
  z3 : Int
  z4 : Int
  z5 : Int
  z6 : Int
  z7 : Int

def B8.vals (x : B8) : Array Value := #[.int .u8 x.z0, .int .u8 x.z1, .int .u8 x.z2, .int .u8 x.z3, .int .u8 x.z4, .int .u8 x.z5, .int .u8 x.z6, .int .u8 x.z7]
def B8.list (x : B8) : List Int := [x.z0, x.z1, x.z2, x.z3, x.z4, x.z5, x.z6, x.z7]
/-- the k-th block of bytes -/
def blkAt (bs : List Int) (k : Nat) : B8 := ⟨bs.getD (8 * k) 0, bs.getD (8 * k + 1) 0, bs.getD (8 * k + 2) 0, bs.getD (8 * k + 3) 0, bs.getD (8 * k + 4) 0, bs.getD (8 * k + 5) 0, bs.getD (8 * k + 6) 0, bs.getD (8 * k + 7) 0⟩
def blksTo (bs : List Int) (k : Nat) : List B8 := (List.range k).map (blkAt bs)
theorem blksTo_succ (bs : List Int) (k : Nat) : blksTo bs (k + 1) = blksTo bs k ++ [blkAt bs k] := by simp [blksTo, List.range_succ]
theorem blksTo_len (bs : List Int) (k : Nat) : (blksTo bs k).length = k := by simp [blksTo]

/-- what a round that goes on keeps: all below n₀, and the iterator's own box -/
def KpS (n₀ Bs : Nat) (W W' : World) : Prop := Below n₀ W W' ∧ W'.heap[Bs]? = W.heap[Bs]?

set_option maxRecDepth 100000 in
set_option maxHeartbeats 1000000 in
theorem iter_in (n : Nat) (hn : 1 ≤ n) (l Bs n₀ b off cap m : Nat) (bs : List Int) (hm : m ≤ 1000) (hcap : 8 * m ≤ cap) (hb : b < n₀) (J Jx : List B8 → World → Prop)
    (W : World) (hn₀ : n₀ ≤ W.heap.size) (hBn : Bs < W.heap.size) (hJ : AbidesFrom W.heap.size J)
    (hY : ∀ pre x W, J pre W → pre.length < m → YieldAt Fence.wide (n - 1) Try.prog l #[.agg x.vals] W fun e W' =>
      (e = .returned (.bool true) ∧ J (pre ++ [x]) W' ∧ KpS n₀ Bs W W') ∨ (e = .returned (.bool false) ∧ Jx (pre ++ [x]) W'))
    (hBs : W.cell? ⟨Bs, 0, none⟩ = some (.slice (some ⟨b, off, none⟩) (8 * m) cap)) (hc : ∀ j, j < 8 * m → W.cell? ⟨b, off + j, none⟩ = some (.int .u8 (bs.getD j 0))) (h0 : J [] W) :
    CallsIn Fence.wide n Try.prog 54 #[.func (.yield l) #[] #[], .pointer (some ⟨Bs, 0, none⟩)] W fun e W' => (∃ v, e = .returned v) ∧
      ((∃ ys, ys = blksTo bs m ∧ J ys W') ∨ (∃ pre, (∃ k, k ≤ m ∧ pre = blksTo bs k) ∧ Jx pre W')) := by
  have HC := hide hc
  clear hc
  refine callsIn_of_wp Try.func54 rfl trivial ?_ rfl
  simp only [Try.ntmps54, List.size_toArray, List.length_cons, List.length_nil, Nat.reduceAdd, Nat.reduceSub, Array.replicate_succ, Array.replicate_zero, List.push_toArray, List.append_toArray, List.nil_append, List.cons_append]
  gi_wp2
  gi_loopw [3] (fun i wr => ∃ k : Nat, k ≤ m ∧ i = .int .i64 ((8 * k : Nat) : Int) ∧ J (blksTo bs k) wr ∧ Below n₀ W wr ∧ wr.heap[Bs]? = W.heap[Bs]?)
    (fun i _ => 8 * m + 8 - (intOf i).toNat)
  case atStart => exact ⟨0, Nat.zero_le _, rfl, h0, Below.refl _ _, rfl⟩
  case round =>
    obtain ⟨k, hk, rfl, hJs, hnx, hbs⟩ := hrel
    have HBS := hide hbs
    have hbx : wr.cell? ⟨Bs, 0, none⟩ = some (.slice (some ⟨b, off, none⟩) (8 * m) cap) := (World.cell?_of_block (w := W) (a := ⟨Bs, 0, none⟩) hbs).trans hBs
    clear hbs
    by_cases hlt : k < m
    · have hBw : Bs < wr.heap.size := by have := hnx.size; omega
      have hq1 : (8 : Int) * k + 8 ≤ cap := by omega
      have hq2 : 8 * k + 8 ≤ cap := by omega
      have hq3 : (8 : Int) * k + 8 ≤ 8 * m := by omega
      have hcp : Sem.run Try.prog (Builtin.copy_ #[27, 27] 3 #[.slice (some ⟨wr.heap.size, 0, none⟩) 8 8, .slice (some ⟨b, off + 8 * k, none⟩) (8 * k + 8 - 8 * k) (cap - 8 * k)])
          ((wr.alloc (.cells #[.int .u8 0, .int .u8 0, .int .u8 0, .int .u8 0, .int .u8 0, .int .u8 0, .int .u8 0, .int .u8 0] 79)).drew) = .ok (.int .i64 8) ((wr.alloc (.cells (blkAt bs k).vals 79)).drew) := by
        rw [show 8 * k + 8 - 8 * k = 8 by omega]
        exact copy_new wr.drew wr.heap.size 8 (cap - 8 * k) b (off + 8 * k) 79 #[.int .u8 0, .int .u8 0, .int .u8 0, .int .u8 0, .int .u8 0, .int .u8 0, .int .u8 0, .int .u8 0] (blkAt bs k).list rfl rfl rfl (by show b < wr.heap.size; have := hnx.size; omega) (by
          intro j hj
          have hx := HC.out (8 * k + j) (by omega)
          rw [← hnx.cell (p := ⟨b, off + (8 * k + j), none⟩) hb, ← Nat.add_assoc] at hx
          show wr.cell? ⟨b, off + 8 * k + j, none⟩ = _
          rw [hx]
          match j, hj with
          | 0, _ => rfl
          | 1, _ => rfl
          | 2, _ => rfl
          | 3, _ => rfl
          | 4, _ => rfl
          | 5, _ => rfl
          | 6, _ => rfl
          | 7, _ => rfl)
      obtain ⟨x, hx⟩ : ∃ x, Hid (x = blkAt bs k) := ⟨_, rfl⟩
      rw [← hx.out] at hcp
      unfold B8.vals at hcp
      have hcp8 := hcp
      rw [show 8 * k + 8 - 8 * k = 8 by omega] at hcp8
      obtain ⟨W1, hW1⟩ : ∃ W1 : World, W1 = (wr.alloc (.cells #[.int .u8 x.z0, .int .u8 x.z1, .int .u8 x.z2, .int .u8 x.z3, .int .u8 x.z4, .int .u8 x.z5, .int .u8 x.z6, .int .u8 x.z7] 79)).drew := ⟨_, rfl⟩
      have hg1 : wr.grownBy W1 none := by
        rw [hW1]
        exact ⟨rfl, rfl, rfl, by simp, fun i hi _ => Below.heap_alloc wr _ i hi⟩
      have hB1 : Below n₀ wr W1 := (Below.refl n₀ wr).grown hg1 (by have := hnx.size; omega) (fun i h => by cases h)
      obtain ⟨fn, tmps, assign, body, hy, hR⟩ := hY (blksTo bs k) x W1 (hJ _ wr W1 none hJs hg1 (fun r h => by cases h)) (by rw [blksTo_len]; exact hlt)
      unfold B8.vals at hy
      rw [hW1] at hy hR
      gi_wp2
      gi_region
      clear hcp hcp8
      gi_wp2
      refine hR.mono ?_
      rintro e W3 (⟨rfl, hJ3, hk3⟩ | ⟨rfl, hJx3⟩)
      · gi_wp2
        go_roundw
        case rel => exact ⟨k + 1, by omega, by go_num, by rw [blksTo_succ, ← hx.out]; exact hJ3, hnx.trans (hB1.trans (by rw [hW1]; exact hk3.1)), hk3.2.trans ((Below.heap_alloc wr _ Bs hBw).trans HBS.out)⟩
        case measure => simp [intOf]; omega
      · gi_wp2
        refine bodyPost_ret (results_none rfl _ _ _) rfl ?_
        exact ⟨⟨_, rfl⟩, .inr ⟨_, ⟨k + 1, by omega, by rw [blksTo_succ, ← hx.out]⟩, hJx3⟩⟩
    · obtain rfl : k = m := by omega
      gi_wp2
      go_end0
      exact ⟨⟨_, rfl⟩, .inl ⟨_, rfl, hJs⟩⟩

set_option maxHeartbeats 1000000 in
theorem blocksOf_in (n : Nat) (a : Option Addr) (len cap : Nat) (w : World) :
    CallsIn Fence.wide n Try.prog 53 #[.slice a len cap] w fun e w' => e = .returned (.func (.func 54) #[] #[.pointer (some ⟨w.heap.size, 0, none⟩)]) ∧ w' = w.alloc (.cells #[.slice a len cap] 27) := by
  refine callsIn_of_wp Try.func53 rfl trivial ?_ rfl
  simp only [Try.ntmps53, List.size_toArray, List.length_cons, List.length_nil, Nat.reduceAdd, Nat.reduceSub, Array.replicate_succ, Array.replicate_zero, List.push_toArray, List.append_toArray, List.nil_append, List.cons_append]
  gi_wp2
  go_ret
  exact ⟨rfl, rfl⟩

theorem iter_stops (n : Nat) (hn : 1 ≤ n) (Bs n₀ b off cap m : Nat) (bs : List Int) (hm : m ≤ 1000) (hcap : 8 * m ≤ cap) (hb : b < n₀) (w : World) (hn₀ : n₀ ≤ w.heap.size) (hBn : Bs < w.heap.size)
    (hBs : w.cell? ⟨Bs, 0, none⟩ = some (.slice (some ⟨b, off, none⟩) (8 * m) cap)) (hc : ∀ j, j < 8 * m → w.cell? ⟨b, off + j, none⟩ = some (.int .u8 (bs.getD j 0))) :
    SeqStopsK Fence.wide n Try.prog 54 #[.pointer (some ⟨Bs, 0, none⟩)] (fun x : B8 => #[.agg x.vals]) (KpS n₀ Bs) (fun ys => ys = blksTo bs m) (fun pre => ∃ k, k ≤ m ∧ pre = blksTo bs k) m w := fun l J Jx W hW hJ _ hY h0 =>
  iter_in n hn l Bs n₀ b off cap m bs hm hcap hb J Jx W (Nat.le_trans hn₀ hW.size) (Nat.lt_of_lt_of_le hBn hW.size) hJ hY ((hW.cell (p := ⟨Bs, 0, none⟩) hBn).trans hBs)
    (fun j hj => (hW.cell (p := ⟨b, off + j, none⟩) (by show b < _; omega)).trans (hc j hj)) h0

theorem kpS_t {n₀ Bs : Nat} {A B C : World} (h : KpS n₀ Bs A B) (k : KpS n₀ Bs B C) : KpS n₀ Bs A C := ⟨h.1.trans k.1, k.2.trans h.2⟩
theorem kpS_b {n₀ Bs : Nat} {w : World} (hn : n₀ ≤ w.heap.size) (hB : Bs < w.heap.size) (W : World) (l : Nat) (o o' : Obj) (hl : w.heap.size ≤ l) (h : W.heap[l]? = some o) (h1 : o.isCells = false) (h2 : o.isWalk = false) : KpS n₀ Bs W (W.putObj l o') :=
  ⟨belowK_b hn W l o o' hl h h1 h2, (grownBy_putObj' W l o').block Bs (by have := (Array.getElem?_eq_some_iff.1 h).1; omega) (fun e => by cases e; omega)⟩
end Go.Proofs.Ytfgonmgmoeoedaa

/-
  Plain mathematics: what stands ahead of the sum, read from the front.
-/
namespace Go.Proofs.Ytfgonmgmoeoedaa
namespace Mx

/-- these bytes are what stands ahead of that frame's sum -/
def IsBody (l : List Int) (kind : Int) (nums : List Int) (nb : Nat) (bs : List Int) : Prop :=
  may kind nums nb = 0 ∧ bs.length = 8 * nb ∧ (∀ x ∈ bs, 0 ≤ x ∧ x ≤ 255) ∧ bodyB kind nums nb bs = l

/-- some numbers were read, and here the rest begins -/
def Body2 (l nums : List Int) (A : Nat) : Prop :=
  (∃ x0 x1, l = x0 :: x1 :: (numB nums ++ l.drop A)) ∧ A = 2 + (numB nums).length ∧ ∀ x ∈ nums, 0 ≤ x ∧ x ≤ 2147483647

theorem Body2.start (l : List Int) (h : 2 ≤ l.length) : Body2 l [] 2 := by
  match l, h with
  | x0 :: x1 :: r, _ => exact ⟨⟨x0, x1, by simp [numB]⟩, by simp [numB], by simp⟩

theorem Body2.step {l nums : List Int} {A n size : Nat} (h : Body2 l nums A) (h2 : size ≤ (l.drop A).length) (h3 : n ≤ 2147483647) (h4 : (l.drop A).take size = groups n) : Body2 l (nums ++ [(n : Int)]) (A + size) := by
  obtain ⟨⟨x0, x1, e1⟩, e2, e3⟩ := h
  have hl : (groups n).length = size := by rw [← h4, List.length_take]; omega
  have hn : numB (nums ++ [(n : Int)]) = numB nums ++ groups n := by rw [numB_append]; simp [numB]
  refine ⟨⟨x0, x1, ?_⟩, ?_, ?_⟩
  · rw [hn, List.append_assoc, ← h4, ← List.drop_drop, List.take_append_drop]
    exact e1
  · rw [hn, List.length_append, hl, e2]; omega
  · intro x hx
    rcases List.mem_append.1 hx with h | h
    · exact e3 x h
    · simp at h; omega

theorem IsBody.rest {l nums : List Int} {A : Nat} {kind : Int} {nums' : List Int} {nb : Nat} {bs : List Int} (h : Body2 l nums A) (hf : IsBody l kind nums' nb bs) (hk : nums.length ≤ nums'.length) :
    nums = nums'.take nums.length ∧ l.drop A = numB (nums'.drop nums.length) ++ bs ∧ l.getD 0 0 = 16 * kind + (nums'.length : Int) ∧ l.getD 1 0 = (nb : Int) := by
  obtain ⟨⟨x0, x1, e1⟩, e2, e3⟩ := h
  obtain ⟨m1, m2, m3, m4⟩ := hf
  obtain ⟨a1, a2, a3, a4, a5⟩ := may_facts m1
  have e4 : l = (16 * kind + (nums'.length : Int)) :: (nb : Int) :: (numB nums' ++ bs) := by rw [← m4]; simp [bodyB]
  have e5 : numB nums ++ l.drop A = numB nums' ++ bs := by
    have := e1.symm.trans e4
    simp only [List.cons.injEq] at this
    exact this.2.2
  have e6 : numB nums' = numB (nums'.take nums.length) ++ numB (nums'.drop nums.length) := by rw [← numB_append, List.take_append_drop]
  rw [e6, List.append_assoc] at e5
  obtain ⟨c1, c2⟩ := numB_cut nums (nums'.take nums.length) _ _ e3 (fun x hx => a5 x (List.mem_of_mem_take hx)) (by rw [List.length_take]; omega) e5
  exact ⟨c1, c2, by rw [e4]; rfl, by rw [e4]; rfl⟩

/-- no number, though there should be one more -/
theorem Body2.none {l nums : List Int} {A : Nat} (h : Body2 l nums A) (hk : (nums.length : Int) < l.getD 0 0 % 16) (hn : ∀ x t, x ≤ 2147483647 → l.drop A ≠ groups x ++ t) : ∀ kind nums' nb bs, ¬ IsBody l kind nums' nb bs := by
  intro kind nums' nb bs hf
  have hmf := may_facts hf.1
  rcases Nat.lt_or_ge nums.length nums'.length with hlt | hge
  · obtain ⟨_, c2, c3, _⟩ := hf.rest h (by omega)
    have hm := hmf.2.2.2.2 nums'[nums.length] (List.getElem_mem hlt)
    rw [List.drop_eq_getElem_cons hlt] at c2
    have e : ∀ z (l : List Int), numB (z :: l) = groups z.toNat ++ numB l := fun z l => by simp [numB]
    rw [e, List.append_assoc] at c2
    exact hn _ _ (by omega) c2
  · have e4 : l.getD 0 0 = 16 * kind + (nums'.length : Int) := by rw [← hf.2.2.2]; rfl
    omega

/-- behind all numbers -/
theorem Body2.done {l nums : List Int} {A : Nat} (h : Body2 l nums A) (hk : l.getD 0 0 % 16 = (nums.length : Int)) : ∀ kind nums' nb bs, IsBody l kind nums' nb bs → nums = nums' ∧ l.drop A = bs ∧ l.getD 1 0 = (nb : Int) ∧ kind = l.getD 0 0 / 16 := by
  intro kind nums' nb bs hf
  have hmf := may_facts hf.1
  have e4 : l.getD 0 0 = 16 * kind + (nums'.length : Int) := by rw [← hf.2.2.2]; rfl
  have hlen : nums'.length = nums.length := by omega
  obtain ⟨c1, c2, _, c4⟩ := hf.rest h (by omega)
  rw [List.take_of_length_le (by omega)] at c1
  have hdn : nums'.drop nums.length = [] := List.drop_eq_nil_of_le (by omega)
  rw [hdn, show numB [] = [] from rfl, List.nil_append] at c2
  exact ⟨c1, c2, c4, by omega⟩

/-- .. and it is one -/
theorem Body2.good {l nums : List Int} {A c0 c1 : Nat} (h : Body2 l nums A) (h0 : l.getD 0 0 = (c0 : Int)) (h1 : l.getD 1 0 = (c1 : Int)) (hc : c0 ≤ 255) (hk : (c0 : Int) % 16 = (nums.length : Int)) (hn : nums.length ≤ 12) (hb : c1 ≤ 32) (hl : (l.drop A).length = 8 * c1)
    (hby : ∀ x ∈ l, 0 ≤ x ∧ x ≤ 255) : IsBody l ((c0 : Int) / 16) nums c1 (l.drop A) := by
  obtain ⟨⟨x0, x1, e1⟩, e2, e3⟩ := h
  refine ⟨?_, hl, fun x hx => hby x (List.mem_of_mem_drop hx), ?_⟩
  · apply may_ok
    · omega
    · omega
    · intro j hj
      have hm := e3 _ (getD_mem nums j hj)
      generalize nums.getD j 0 = z at hm
      unfold badNum
      simp
      omega
  · have f0 : x0 = (c0 : Int) := by rw [← h0, e1]; rfl
    have f1 : x1 = (c1 : Int) := by rw [← h1, e1]; rfl
    conv => rhs; rw [e1]
    unfold bodyB
    rw [f0, f1, ← hk]
    simp
    omega

theorem IsFrame.body {l : List Int} {kind : Int} {nums : List Int} {nb : Nat} {bs : List Int} (h : IsFrame l kind nums nb bs) : IsBody (l.take (l.length - 4)) kind nums nb bs ∧ l.drop (l.length - 4) = sealB (crc (l.take (l.length - 4))) := by
  have e : l = bodyB kind nums nb bs ++ sealB (crc (bodyB kind nums nb bs)) := h.2.2.2.symm
  have hl : l.length - 4 = (bodyB kind nums nb bs).length := by
    have := congrArg List.length e
    rw [List.length_append, sealB_len] at this
    omega
  have ht : l.take (l.length - 4) = bodyB kind nums nb bs := by rw [hl]; conv => lhs; rw [e]; rw [List.take_left]
  have hd : l.drop (l.length - 4) = sealB (crc (bodyB kind nums nb bs)) := by rw [hl]; conv => lhs; rw [e]; rw [List.drop_left]
  rw [ht, hd]
  exact ⟨⟨h.1, h.2.1, h.2.2.1, rfl⟩, rfl⟩

theorem IsBody.frame {l : List Int} {kind : Int} {nums : List Int} {nb : Nat} {bs : List Int} (h : IsBody (l.take (l.length - 4)) kind nums nb bs) (hs : l.drop (l.length - 4) = sealB (crc (l.take (l.length - 4)))) : IsFrame l kind nums nb bs := by
  refine ⟨h.1, h.2.1, h.2.2.1, ?_⟩
  unfold packB
  rw [h.2.2.2, ← hs, List.take_append_drop]
end Mx
end Go.Proofs.Ytfgonmgmoeoedaa

/-
  The range over the blocks, for a body that gathers them into a frame's box.
-/
namespace Go.Proofs.Ytfgonmgmoeoedaa
open Go.RowKit Go.Shelf
attribute [local go_sem] Oper.semAt_some

theorem UInv.drew {w wr : World} {s0 v1 v2 : Value} (h : UInv w wr s0 v1 v2) : UInv w wr.drew s0 v1 v2 := ⟨h.1, h.2.1, h.2.2.1.drew, h.2.2.2⟩

def flat (pre : List B8) : List Int := pre.flatMap B8.list
theorem flat_snoc (pre : List B8) (x : B8) : flat (pre ++ [x]) = flat pre ++ x.list := by simp [flat]
theorem flat_len (pre : List B8) : (flat pre).length = 8 * pre.length := by
  induction pre with
  | nil => rfl
  | cons x pre ih => simp [flat, B8.list] at *; omega

theorem blk_list (bs : List Int) (k : Nat) (h : 8 * k + 8 ≤ bs.length) : bs.take (8 * (k + 1)) = bs.take (8 * k) ++ (blkAt bs k).list := by
  rw [show 8 * (k + 1) = 8 * k + 1 + 1 + 1 + 1 + 1 + 1 + 1 + 1 by omega]
  rw [Mx.take_snoc bs _ _ (by omega) rfl, Mx.take_snoc bs _ _ (by omega) rfl, Mx.take_snoc bs _ _ (by omega) rfl, Mx.take_snoc bs _ _ (by omega) rfl,
    Mx.take_snoc bs _ _ (by omega) rfl, Mx.take_snoc bs _ _ (by omega) rfl, Mx.take_snoc bs _ _ (by omega) rfl, Mx.take_snoc bs _ _ (by omega) rfl]
  simp only [List.append_assoc, List.cons_append, List.nil_append, B8.list, blkAt]

theorem flat_blksTo (bs : List Int) (k : Nat) (h : 8 * k ≤ bs.length) : flat (blksTo bs k) = bs.take (8 * k) := by
  induction k with
  | zero => simp [blksTo, flat]
  | succ k ih => rw [blksTo_succ, flat_snoc, ih (by omega), blk_list bs k (by omega)]

/-- between two rounds -/
def LInv (w : World) (C : Nat) (k0 v1 : Value) (nums : List Int) (pre : List B8) (W : World) : Prop :=
  ∃ v2, UInv w W k0 v1 v2 ∧ OwnB W C v2 pre.length (flat pre) ∧ OwnI W (w.heap.size + 2) v1 nums ∧ C ≤ W.heap.size

/-- the round's own variable -/
def LAx (C : Nat) (T : Array Value) (x : B8) (a' : Act) (W : World) : Prop :=
  ∃ Bx, C ≤ Bx ∧ W.heap[Bx]? = some (.cells x.vals 79 (0, 0)) ∧ a' = { tmps := (T.setIfInBounds 64 (.agg x.vals)).setIfInBounds 10 (.pointer (some ⟨Bx, 0, none⟩)), defers := [] }

theorem row_kept {W W' : World} {base e size n : Nat} {v : Value} {xs : List Value} {row : Option Nat} (h : W.ownsRow base e size v n xs) (hg : W.grownBy W' row) (hr : ∀ r, row = some r → ∃ o : Obj, W.heap[r]? = some o ∧ o.isCells = false) : W'.ownsRow base e size v n xs := by
  refine h.kept hg ?_
  rcases h.2 with ⟨rfl, _⟩ | ⟨g, cap, cur, rfl, _, hgb, _⟩
  · exact .inl rfl
  · refine .inr fun e => ?_
    obtain ⟨o, ho, hc⟩ := hr g (by rw [← e]; rfl)
    rw [hgb] at ho
    cases ho
    cases hc

theorem cells_kept {W W' : World} {g : Nat} {cs : Array Value} {t : TypeId} {row : Option Nat} (h : W.heap[g]? = some (.cells cs t (0, 0))) (hg : W.grownBy W' row) (hr : ∀ r, row = some r → ∃ o : Obj, W.heap[r]? = some o ∧ o.isCells = false) : W'.heap[g]? = some (.cells cs t (0, 0)) := by
  refine (hg.block g (Array.getElem?_eq_some_iff.1 h).1 (fun e => ?_)).trans h
  obtain ⟨o, ho, hc⟩ := hr g e.symm
  rw [h] at ho
  cases ho
  cases hc

theorem Ints.grow {W W' : World} {a : Option Addr} {n : Nat} {l : List Int} {row : Option Nat} (h : Ints W a n l) (hg : W.grownBy W' row) (hr : ∀ r, row = some r → ∃ o : Obj, W.heap[r]? = some o ∧ o.isCells = false) : Ints W' a n l := by
  obtain ⟨h1, h2, h4⟩ := h
  refine ⟨h1, h2, fun hp => ?_⟩
  obtain ⟨b, off, ha, hlt, hc⟩ := h4 hp
  exact ⟨b, off, ha, by have := hg.size; omega, fun i hi => cell_kept (hc i hi) hg hr⟩
theorem Blks.grow {W W' : World} {a : Option Addr} {n : Nat} {l : List Int} {row : Option Nat} (h : Blks W a n l) (hg : W.grownBy W' row) (hr : ∀ r, row = some r → ∃ o : Obj, W.heap[r]? = some o ∧ o.isCells = false) : Blks W' a n l := by
  obtain ⟨h1, h2, h3, h4⟩ := h
  refine ⟨h1, h2, h3, fun hp => ?_⟩
  obtain ⟨b, off, ha, hlt, hc⟩ := h4 hp
  exact ⟨b, off, ha, by have := hg.size; omega, fun i hi => cell_kept (hc i hi) hg hr⟩

/-- one block more, in the fence; what is no cells lies as it lay -/
theorem wpListIn_append_keep {F : Fence} {fuel : Nat} {w : World} {ops : Array Oper} {rest : List Oper} {o : Oper} {a : Act} {Q : Exit → Act → World → Prop} (hgd : o.guard = none) (s x : Operand)
    (ho : o.op = .call { callee := .builtin .append, args := #[s, x], argTypes := #[38, 38] }) (base n : Nat) (bs : List Int) (hown : OwnB w base (a.eval s) n bs)
    (zs : List Int) (hz8 : zs.length = 8) (arr : Array Value) (harr : arr = (zs.map (Value.int .u8)).toArray) (hx : a.eval x = .slice (some ⟨w.heap.size, 0, none⟩) 1 1) (h63 : n ≤ 1000000) (hbase : base ≤ w.heap.size)
    (h : ∀ ad c w', OwnB w' base (.slice (some ad) (n + 1) c) (n + 1) (bs ++ zs) → Below base w w' → KeepsOthers w w' → wpListIn F fuel Try.prog ops Q rest (a.put o.dst (.slice (some ad) (n + 1) c)) w') :
    wpListIn F fuel Try.prog ops Q (o :: rest) a (w.alloc (.cells arr 79)) := by
  obtain ⟨i0, hi, hz0, hz1, hz2⟩ := info_parts Try.info79
  refine wpListIn_append_own _ hgd s x 38 ho base 79 i0 _ 8 8 Try.underlying38 hi hz0 hz1 hz2 rfl (by decide) (a.eval s) n (bs.map (Value.int .u8)) rfl (World.ownsRow.alloc hown.2 _) ⟨w.heap.size, 0, none⟩ 1 1 (zs.map (Value.int .u8)) hx (by simp [hz8]) (cell_newsT w zs arr 79 harr) ?_ (by unfold maxLen; omega) (by omega) (by simp; omega) ?_
  · intro u hu
    obtain ⟨z, _, rfl⟩ := List.mem_map.1 hu
    rfl
  · intro v' w' hown' hg _
    have hb : Below base w w' := ((Below.refl base w).alloc hbase _).grown hg (by simp; omega) (fun k hk => (World.ownsRow.lt hown.2 k hk).1)
    have hI : OwnB w' base v' (n + 1) (bs ++ zs) := ⟨by rw [List.length_append, hown.1, hz8]; omega, by rw [List.map_append]; exact hown'⟩
    have hk : KeepsOthers w w' := (KeepsOthers.alloc w _).trans (KeepsOthers.of_grownBy hg (by
      intro j o' e hj
      have hown2 := World.ownsRow.alloc hown.2 (.cells arr 79)
      rcases hown2.2 with ⟨hv, _⟩ | ⟨g, cap, cur, hv, _, hgb, _⟩
      · rw [hv] at e; cases e
      · rw [hv] at e
        cases e
        rw [hgb] at hj
        cases hj
        rfl))
    rcases hown'.2 with ⟨_, hz⟩ | ⟨g, cap, cur, rfl, hbg, _⟩
    · simp at hz
    · exact h _ _ w' hI hb hk

theorem cell_of_cells {W : World} {g : Nat} {cs : Array Value} {t : TypeId} (h : W.heap[g]? = some (.cells cs t (0, 0))) (j : Nat) : W.cell? ⟨g, j, none⟩ = cs[j]? := by
  unfold World.cell?
  rw [h]
  rfl

theorem linv_own (w : World) (C : Nat) (k0 v1 : Value) (nums : List Int) (hC : w.heap.size + 2 ≤ C) : OwnFrom C (LInv w C k0 v1 nums) := by
  rintro pre W W' row ⟨v2, ⟨b1, b2, b3, b4⟩, hB, hI, hs⟩ hg hr
  have hr' : ∀ r, row = some r → ∃ o : Obj, W.heap[r]? = some o ∧ o.isCells = false := fun r e => (hr r e).2
  refine ⟨v2, ⟨cells_kept b1 hg hr', cells_kept b2 hg hr', b3.grown hg (by omega) (fun k e => by have := (hr k e).1; omega), by have := hg.size; omega⟩, ⟨hB.1, row_kept hB.2 hg hr'⟩, row_kept hI hg hr', by have := hg.size; omega⟩

theorem lax_own (C : Nat) (T : Array Value) (x : B8) (a' : Act) : OwnFrom C (fun (_ : Unit) W => LAx C T x a' W) := by
  rintro _ W W' row ⟨Bx, h1, h2, h3⟩ hg hr
  exact ⟨Bx, h1, cells_kept h2 hg (fun r e => (hr r e).2), h3⟩

theorem rangeBlocks {g : Operand} {assign body : Code} {Q : Exit → Act → World → Prop} {a : Act} {wl : World} (w : World) (k0 v1 : Value) (nums : List Int) (Bs b off cap m : Nat) (bs : List Int)
    (hg : a.eval g = .func (.func 54) #[] #[.pointer (some ⟨Bs, 0, none⟩)]) (hm : m ≤ 1000) (hcap : 8 * m ≤ cap) (hb : b < w.heap.size) (hBn : Bs < wl.heap.size) (hC : w.heap.size + 2 ≤ wl.heap.size)
    (hBs : wl.cell? ⟨Bs, 0, none⟩ = some (.slice (some ⟨b, off, none⟩) (8 * m) cap)) (hc : ∀ j, j < 8 * m → wl.cell? ⟨b, off + j, none⟩ = some (.int .u8 (bs.getD j 0)))
    (h0 : LInv w wl.heap.size k0 v1 nums [] wl)
    (hassign : ∀ (l : Nat) (pre : List B8) (x : B8) (W : World) (K : Act → World → Prop), LInv w wl.heap.size k0 v1 nums pre W → (∀ a' W', KeepsFrom wl.heap.size W W' → KpS w.heap.size Bs W W' → LInv w wl.heap.size k0 v1 nums pre W' → LAx wl.heap.size a.tmps x a' W' → K a' W') →
      assign.wpIn (Fence.wide.inRound l) (6 - 1 - 1) Try.prog (Exit.then K (fun _ _ _ => False)) { tmps := a.tmps.setIfInBounds 64 (.agg x.vals), defers := [] } W)
    (hbody : ∀ (l : Nat) (pre : List B8) (x : B8) (a' : Act) (W : World), LInv w wl.heap.size k0 v1 nums pre W → LAx wl.heap.size a.tmps x a' W → pre.length < m →
      body.wpIn (Fence.wide.inRound l) (6 - 1 - 1) Try.prog (ownPostG wl.heap.size (KpS w.heap.size Bs) (LInv w wl.heap.size k0 v1 nums) (fun _ _ _ => False) (pre ++ [x]) W) a' W)
    (hdone : ∀ (D : Nat) (W : World), wl.heap.size ≤ D → LInv w wl.heap.size k0 v1 nums (blksTo bs m) W → W.heap[D]? = some (.deferred (some [])) → Q .normal { a with defers := { target := .collected D, args := #[] } :: a.defers } W) :
    (Code.rangeFunc g #[64] assign body).wpIn Fence.wide 6 Try.prog Q a wl := by
  refine wpIn_rangeFunc_ownH rfl (by omega) (gf := 54) (lb := #[.pointer (some ⟨Bs, 0, none⟩)]) hg trivial (enters_of Try.func54 (by kernel_rfl) rfl)
    (iter_stops 5 (by omega) Bs w.heap.size b off cap m bs hm hcap hb wl (by omega) hBn hBs hc) kpS_t (kpS_b (by omega) hBn) (Below.refl _ _) (fun _ => rfl)
    (LInv w wl.heap.size k0 v1 nums) (fun _ _ _ => False) (linv_own w _ k0 v1 nums hC) (fun _ _ _ _ _ hs _ _ => hs) h0 (LAx wl.heap.size a.tmps) (lax_own wl.heap.size a.tmps) ?_ ?_ ?_ ?_
  · intro l pre x W K hi hK
    have h := hassign l pre x W K hi hK
    have e : (#[64].zip #[Value.agg x.vals]).foldl (fun (t : Array Value) (x : Nat × Value) => match x with | (p, v) => t.setIfInBounds p v) a.tmps = a.tmps.setIfInBounds 64 (.agg x.vals) := by simp
    rw [e]
    exact h
  · intro l pre x a' W _ _ hi ha hlt
    exact hbody l pre x a' W hi ha hlt
  · rintro D xs W hD rfl hi hK
    exact hdone D W hD hi hK
  · intro D c pre W _ _ h _
    exact h.elim
end Go.Proofs.Ytfgonmgmoeoedaa

/-
  What stands ahead of the seal, read by the program (readBody).
-/
namespace Go.Proofs.Ytfgonmgmoeoedaa
open Go.RowKit Go.Shelf
attribute [local go_sem] Oper.semAt_some

/-- what readBody hands back -/
def BodyTold (w w' : World) (l : List Int) (e : Ending) : Prop :=
  (∃ kind nums nb bs a1 c1 a2 c2, e = .returned (.tuple #[.agg #[.int .i64 kind, .slice a1 nums.length c1, .slice a2 nb c2], .bool true]) ∧ Mx.IsBody l kind nums nb bs ∧ Ints w' a1 nums.length nums ∧ Blks w' a2 nb bs ∧ (∀ p, a1 = some p → w.heap.size ≤ p.block) ∧ (∀ p, a2 = some p → w.heap.size ≤ p.block) ∧ nums.length ≤ c1 ∧ nb ≤ c2 ∧ Below w.heap.size w w') ∨
  (e = .returned (.tuple #[.agg #[.int .i64 0, .slice none 0 0, .slice none 0 0], .bool false]) ∧ (∀ kind nums nb bs, ¬ Mx.IsBody l kind nums nb bs) ∧ Below w.heap.size w w')

theorem wpListIn_append_int {F : Fence} {fuel : Nat} {w : World} {ops : Array Oper} {rest : List Oper} {o : Oper} {a : Act} {Q : Exit → Act → World → Prop} (hgd : o.guard = none) (s x : Operand)
    (ho : o.op = .call { callee := .builtin .append, args := #[s, x], argTypes := #[37, 37] }) (base : Nat) (l : List Int) (hown : OwnI w base (a.eval s) l)
    (z : Int) (hx : a.eval x = .slice (some ⟨w.heap.size, 0, none⟩) 1 1) (h63 : l.length ≤ 1000000) (hbase : base ≤ w.heap.size)
    (h : ∀ ad c w', OwnI w' base (.slice (some ad) (l.length + 1) c) (l ++ [z]) → Below base w w' → base ≤ ad.block → wpListIn F fuel Try.prog ops Q rest (a.put o.dst (.slice (some ad) (l.length + 1) c)) w') :
    wpListIn F fuel Try.prog ops Q (o :: rest) a (w.alloc (.cells #[.int .i64 z] 3)) := by
  obtain ⟨i0, hi, hz0, hz1, hz2⟩ := info_parts Try.info3
  refine wpListIn_append_own _ hgd s x 37 ho base 3 i0 (.int .i64 0) 1 8 Try.underlying37 hi hz0 hz1 hz2 rfl (by decide) (a.eval s) l.length (l.map (Value.int .i64)) rfl (World.ownsRow.alloc hown _) ⟨w.heap.size, 0, none⟩ 1 1 [.int .i64 z] hx (by simp) ?_ ?_ (by unfold maxLen; omega) (by omega) (by simp; omega) ?_
  · intro j u hj
    match j, hj with
    | 0, hj => simp at hj; subst hj; simp [Addr.add]
  · intro u hu
    simp at hu; subst hu; rfl
  · intro v' w' hown' hg _
    have hb : Below base w w' := ((Below.refl base w).alloc hbase _).grown hg (by simp; omega) (fun k hk => (World.ownsRow.lt hown k hk).1)
    have hI : OwnI w' base v' (l ++ [z]) := by
      unfold OwnI
      rw [List.length_append, List.map_append]
      exact hown'
    rcases hown'.2 with ⟨_, hz⟩ | ⟨g, cap, cur, rfl, hbg, _⟩
    · simp at hz
    · exact h _ _ w' hI hb hbg

theorem wpListIn_append_block {F : Fence} {fuel : Nat} {w : World} {ops : Array Oper} {rest : List Oper} {o : Oper} {a : Act} {Q : Exit → Act → World → Prop} (hgd : o.guard = none) (s x : Operand)
    (ho : o.op = .call { callee := .builtin .append, args := #[s, x], argTypes := #[38, 38] }) (base n : Nat) (bs : List Int) (hown : OwnB w base (a.eval s) n bs)
    (zs : List Int) (hz8 : zs.length = 8) (arr : Array Value) (harr : arr = (zs.map (Value.int .u8)).toArray) (hx : a.eval x = .slice (some ⟨w.heap.size, 0, none⟩) 1 1) (h63 : n ≤ 1000000) (hbase : base ≤ w.heap.size)
    (h : ∀ ad c w', OwnB w' base (.slice (some ad) (n + 1) c) (n + 1) (bs ++ zs) → Below base w w' → base ≤ ad.block → wpListIn F fuel Try.prog ops Q rest (a.put o.dst (.slice (some ad) (n + 1) c)) w') :
    wpListIn F fuel Try.prog ops Q (o :: rest) a (w.alloc (.cells arr 79)) := by
  obtain ⟨i0, hi, hz0, hz1, hz2⟩ := info_parts Try.info79
  refine wpListIn_append_own _ hgd s x 38 ho base 79 i0 _ 8 8 Try.underlying38 hi hz0 hz1 hz2 rfl (by decide) (a.eval s) n (bs.map (Value.int .u8)) rfl (World.ownsRow.alloc hown.2 _) ⟨w.heap.size, 0, none⟩ 1 1 (zs.map (Value.int .u8)) hx (by simp [hz8]) (cell_newsT w zs arr 79 harr) ?_ (by unfold maxLen; omega) (by omega) (by simp; omega) ?_
  · intro u hu
    obtain ⟨z, _, rfl⟩ := List.mem_map.1 hu
    rfl
  · intro v' w' hown' hg _
    have hb : Below base w w' := ((Below.refl base w).alloc hbase _).grown hg (by simp; omega) (fun k hk => (World.ownsRow.lt hown.2 k hk).1)
    have hI : OwnB w' base v' (n + 1) (bs ++ zs) := ⟨by rw [List.length_append, hown.1, hz8]; omega, by rw [List.map_append]; exact hown'⟩
    rcases hown'.2 with ⟨_, hz⟩ | ⟨g, cap, cur, rfl, hbg, _⟩
    · simp at hz
    · exact h _ _ w' hI hb hbg

theorem Bytes.drop {w : World} {b off len : Nat} {l : List Int} (h : Bytes w (some ⟨b, off, none⟩) len l) (A : Nat) : Bytes w (some ⟨b, off + A, none⟩) (len - A) (l.drop A) := by
  obtain ⟨h1, h2, h3, h4⟩ := h
  refine ⟨by rw [List.length_drop, h1], by omega, fun x hx => h3 x (List.mem_of_mem_drop hx), fun hp => ⟨b, off + A, rfl, fun i hi => ?_⟩⟩
  obtain ⟨b', off', ha, hc⟩ := h4 (by omega)
  cases ha
  rw [drop_getD, Nat.add_assoc]
  exact hc (A + i) (by omega)

set_option maxHeartbeats 2000000 in
set_option maxRecDepth 100000 in
theorem readBody_any (b off len cap : Nat) (l : List Int) (w : World) (hl : Bytes w (some ⟨b, off, none⟩) len l) (h2 : 2 ≤ len) (hlen : len ≤ 2000) (hcap : len < cap) :
    Calls Try.prog 49 #[.slice (some ⟨b, off, none⟩) len cap] w fun e w' => BodyTold w w' l e := by
  have HL := hide hl.1
  obtain ⟨b', off', c0, hbb, hc0, hd0, hcell0, ht0⟩ := hl.at_ 0 (by omega)
  cases hbb
  obtain ⟨b', off', c1, hbb, hc1, hd1, hcell1, ht1⟩ := hl.at_ 1 (by omega)
  cases hbb
  have hbs := World.block_lt_of_cell? w _ hcell0
  simp only [Nat.add_zero] at hcell0 hbs
  have HB := hide hl
  have H0 := hide hd0
  have H1 := hide hd1
  clear hl hd0 hd1 ht0 ht1
  have hp0 : (0 : Int) < len := by omega
  have hp1 : (1 : Int) < len := by omega
  have hp2 : (2 : Int) ≤ len := by omega
  have hpc : (len : Int) < cap := by omega
  have hpc2 : 2 < cap := by omega
  have hpc3 : ¬ cap = 2 := by omega
  by_cases hmany : (12 : Int) < (c0 : Int) % 16 ∨ (32 : Int) < c1
  · have HN := hide (show ∀ kind nums nb bs, ¬ Mx.IsBody l kind nums nb bs by
      intro kind nums nb bs hf
      have hmf := may_facts hf.1
      have e0 : l.getD 0 0 = 16 * kind + (nums.length : Int) := by rw [← hf.2.2.2]; rfl
      have e1 : l.getD 1 0 = (nb : Int) := by rw [← hf.2.2.2]; rfl
      rw [H0.out] at e0
      rw [H1.out] at e1
      omega)
    have hfin : ∀ W : World, Below w.heap.size w W → BodyTold w W l (.returned (.tuple #[.agg #[.int .i64 0, .slice none 0 0, .slice none 0 0], .bool false])) := fun W hW => .inr ⟨rfl, HN.out, hW⟩
    by_cases hm1 : (12 : Int) < (c0 : Int) % 16
    all_goals
      refine (callsIn_wide (n := 6)).1 ?_
      refine callsIn_of_wp_marks Try.func49 rfl trivial ?_ rfl
      simp only [Try.ntmps49, List.size_toArray, List.length_cons, List.length_nil, Nat.reduceAdd, Nat.reduceSub, Array.replicate_succ, Array.replicate_zero, List.push_toArray, List.append_toArray, List.nil_append, List.cons_append]
      first | (have hm2 : (32 : Int) < c1 := by omega) | skip
      gi_wp2
      gi_region
      gi_wp2
      refine ⟨.tuple #[.agg #[.int .i64 0, .slice none 0 0, .slice none 0 0], .bool false], by simp [results, Try.results49, go_sem], hfin _ ?_⟩
      exact (((Below.refl _ _).alloc (Nat.le_refl _) _).alloc (by simp) _).drew
  · have hm1 : ¬ (12 : Int) < (c0 : Int) % 16 := by omega
    have hm2 : ¬ (32 : Int) < c1 := by omega
    refine (callsIn_wide (n := 6)).1 ?_
    refine callsIn_of_wp_marks Try.func49 rfl trivial ?_ rfl
    simp only [Try.ntmps49, List.size_toArray, List.length_cons, List.length_nil, Nat.reduceAdd, Nat.reduceSub, Array.replicate_succ, Array.replicate_zero, List.push_toArray, List.append_toArray, List.nil_append, List.cons_append]
    gi_wp2
    gi_region
    gi_wp2
    gi_loopw [7, 8, 9, 36] (fun r _ _ i wr => ∃ (A : Nat) (nums : List Int) (v1 : Value), (nums.length : Int) ≤ (c0 : Int) % 16 ∧ 2 ≤ A ∧ A ≤ len ∧ i = .int .i64 (nums.length : Int) ∧ r = .slice (some ⟨b, off + A, none⟩) (len - A) (cap - A) ∧ Hid (Mx.Body2 l nums A) ∧ Hid (OwnI wr (w.heap.size + 2) v1 nums) ∧ Hid (UInv w wr (.int .i64 ((c0 : Int) / 16)) v1 (.slice none 0 0)))
      (fun _ _ _ i _ => 16 - (intOf i).toNat)
    case atStart => exact ⟨2, [], .slice none 0 0, by simp; omega, by omega, by omega, rfl, rfl, Mx.Body2.start l (by rw [HL.out]; omega), OwnI.nil _ _, (UInv.start w _).drew⟩
    case round =>
      obtain ⟨A, nums, v1, hk, hA2, hA, rfl, rfl, hN, hO, hU⟩ := hrel
      obtain ⟨f0, f1, f2, fz, g0, g1, g2, gz, s1, s2⟩ := hU.out.facts
      by_cases hlt : (nums.length : Int) < (c0 : Int) % 16
      · gi_wp2_with fail
        refine ⟨trivial, ?_⟩
        refine (callsIn_wide.2 (readNumber_any _ _ _ (l.drop A) wr ((HB.out.drop A).later (hU.out.2.2.1)))).mono ?_
        rintro e w1 ⟨n, size, rfl, hna, rfl⟩
        rcases hna with ⟨hn1, hn2, hn3, hn4⟩ | ⟨rfl, rfl, hno⟩
        · have HS := hide (hN.out.step hn2 hn3 hn4)
          have hsz : size ≤ len - A := by rw [List.length_drop, HL.out] at hn2; exact hn2
          have hne : ((size : Int) == 0) = false := by simp; omega
          clear hn2 hn4
          gi_wp2_with (gi_at_builtin; refine wpListIn_append_int rfl _ _ rfl (w.heap.size + 2) nums hO.out (n : Int) rfl ?c1 ?c2 ?_)
          case c1 => omega
          case c2 => omega
          intro ad cc w' hown' hbel' had
          have hU' := hide (hU.out.later hbel')
          obtain ⟨f0', f1', f2', fz', g0', g1', g2', gz', s1', s2'⟩ := hU'.out.facts
          have HO' := hide hown'
          clear hown' hbel'
          have hq1 : (size : Int) ≤ (len : Int) - A := by omega
          have hq2 : ¬ cap - A = size := by omega
          have hq3 : size < cap - A := by omega
          gi_wp2_with fail
          go_roundw
          case rel =>
            refine ⟨A + size, nums ++ [(n : Int)], .slice (some ad) (nums.length + 1) cc, by simp; omega, by omega, by omega, by simp, by rw [Nat.add_assoc, Nat.sub_sub, Nat.sub_sub], HS, ?_, hU'.out.set1 _⟩
            exact ownsRow_setCell_below HO'.out (a := ⟨w.heap.size + 1, 1, none⟩) (by simp) (.slice (some ad) (nums.length + 1) cc)
          case measure => simp [intOf]; omega
        · have HN := hide (hN.out.none (by rw [H0.out]; exact hlt) hno)
          clear hno
          gi_wp2_with fail
          obtain ⟨r0, r1, r2⟩ := hU.out.1.stored (.int .i64 0) (.slice none 0 0) (.slice none 0 0)
          exact ⟨.tuple #[.agg #[.int .i64 0, .slice none 0 0, .slice none 0 0], .bool false], by simp [results, Try.results49, go_sem, r0, r1, r2], .inr ⟨rfl, HN.out, below_stored hU.out.2.2.1 (Nat.le_refl _) _ _ _⟩⟩
      · have hkd : (c0 : Int) % 16 = (nums.length : Int) := by omega
        have HD := hide (hN.out.done (by rw [H0.out]; exact hkd))
        have HKD := hide hkd
        clear hkd
        by_cases hfit : len - A = 8 * c1
        · have hfit2 : (((len - A : Nat) : Int) != (c1 : Int) * 8) = false := by simp; omega
          have HG := hide (hN.out.good H0.out H1.out hc0 HKD.out (by omega) (by omega) (by rw [List.length_drop, HL.out]; exact hfit) HB.out.2.2.1)
          gi_wp2_with fail
          refine ⟨trivial, ?_⟩
          refine (blocksOf_in 5 _ _ _ wr).mono ?_
          rintro e w1 ⟨rfl, rfl⟩
          gi_wp2_with fail
          have hC1 : w.heap.size + 2 ≤ wr.heap.size := hU.out.2.2.2
          have HV1 := hide (show ∀ g, v1.ownBlock = some g → g < wr.heap.size + 1 by
            intro g hg
            have := (World.ownsRow.lt hO.out g hg).2
            omega)
          have hC : w.heap.size + 2 ≤ wr.heap.size + 1 := by have := hU.out.2.2.2; omega
          refine rangeBlocks w (.int .i64 ((c0 : Int) / 16)) v1 nums wr.heap.size b (off + A) (cap - A) c1 (l.drop A) rfl (by omega) (by omega) hbs (by simp) (by simpa using hC) ?hBs ?hc ?h0 ?assign ?body ?done
          case hBs => rw [World.cell?_alloc_new]; rfl
          case hc =>
            intro j hj
            have hby := (HB.out.drop A).later (hU.out.2.2.1.alloc (by omega) (.cells #[.slice (some ⟨b, off + A, none⟩) (8 * c1) (cap - A)] 27))
            obtain ⟨b', off', ha, hcx⟩ := hby.2.2.2 (by omega)
            cases ha
            exact hcx j (by omega)
          case h0 =>
            refine ⟨.slice none 0 0, hU.out.later ((Below.refl _ _).alloc (by omega) _), OwnB.nil _ _, World.ownsRow.alloc hO.out _, Nat.le_refl _⟩
          case assign =>
            intro lp pre x W K hi hK
            simp only [B8.vals, List.setIfInBounds_toArray, List.set_cons_succ, List.set_cons_zero]
            gi_wp2
            have hsz : wr.heap.size + 1 ≤ W.heap.size := by obtain ⟨_, _, _, _, hs⟩ := hi; simpa using hs
            exact hK _ _ ((KeepsOthers.alloc _ _).from _) ⟨(Below.refl _ _).alloc (by omega) _, Below.heap_alloc W _ _ (by omega)⟩ ((linv_own w _ _ _ _ (by simpa using hC)).alloc _ hi) ⟨W.heap.size, by simpa using hsz, heap_alloc_new W _, rfl⟩
          case body =>
            rintro lp pre x a' W ⟨v2, hU2, hB2, hI2, hs2⟩ ⟨Bx, hBx, hcx, rfl⟩ hlt2
            obtain ⟨p0, p1, p2, pz, q0, q1, q2, qz, t1, t2⟩ := hU2.facts
            have x0 := cell_of_cells hcx 0
            have x1 := cell_of_cells hcx 1
            have x2 := cell_of_cells hcx 2
            have x3 := cell_of_cells hcx 3
            have x4 := cell_of_cells hcx 4
            have x5 := cell_of_cells hcx 5
            have x6 := cell_of_cells hcx 6
            have x7 := cell_of_cells hcx 7
            have HU2 := hide hU2
            have HB2 := hide hB2
            have HI2 := hide hI2
            have hs2' : wr.heap.size + 1 ≤ W.heap.size := by simpa using hs2
            clear hU2 hB2 hI2 hcx hs2
            simp only [B8.vals, List.setIfInBounds_toArray, List.set_cons_succ, List.set_cons_zero] at x0 x1 x2 x3 x4 x5 x6 x7 ⊢
            gi_wp2_with (gi_at_builtin; refine wpListIn_append_keep rfl _ _ rfl _ pre.length (flat pre) HB2.out x.list rfl _ rfl rfl ?c1 ?c2 ?_)
            case c1 => omega
            case c2 => simp; omega
            intro ad cc w' hown' hbel' hkeep
            have hbel2 : Below (w.heap.size + 2) W w' := hbel'.mono hC
            have HU' := hide (HU2.out.later hbel2)
            obtain ⟨p0', p1', p2', pz', q0', q1', q2', qz', t1', t2'⟩ := HU'.out.facts
            have HO' := hide hown'
            have HI' := hide (rowKeptBelow HI2.out HV1.out hbel')
            have HBE := hide hbel'
            have HKE := hide hkeep
            clear hown' hbel' hbel2 hkeep
            gi_wp2
            refine ⟨(HKE.out.trans (KeepsOthers.setCell _ _ _)).from _, ⟨(HBE.out.mono (by omega)).setCell (by simp) _, ?_⟩, .slice (some ad) (pre.length + 1) cc, HU'.out.set2 _, ?_, ownsRow_setCell_below HI'.out (by simp) _, ?_⟩
            · rw [Below.heap_setCell _ _ _ _ (by show wr.heap.size ≠ w.heap.size + 1; omega)]
              exact HBE.out.block wr.heap.size (by omega)
            · have hlt3 : w.heap.size + 1 < wr.heap.size + 1 := by omega
              have hrow := ownsRow_setCell_below HO'.out.2 (a := ⟨w.heap.size + 1, 2, none⟩) hlt3 (.slice (some ad) (pre.length + 1) cc)
              refine ⟨by rw [flat_len], ?_⟩
              rw [World.size_alloc, flat_snoc, List.length_append]
              exact hrow
            · have := HBE.out.size
              simp [World.setCell]; omega
          case done =>
            intro D W hD hi hK
            obtain ⟨v2, hU2, hB2, hI2, hs2⟩ := hi
            have hD' : wr.heap.size + 1 ≤ D := by simpa using hD
            rw [flat_blksTo _ _ (by rw [List.length_drop, HL.out]; omega), blksTo_len, List.take_of_length_le (by rw [List.length_drop, HL.out]; omega)] at hB2
            obtain ⟨a1, cc1, rfl, hJ1⟩ := hI2.ints
            obtain ⟨a2, cc2, rfl, hJ2⟩ := hB2.blks HG.out.2.2.1
            obtain ⟨p0, p1, p2, pz, q0, q1, q2, qz, t1, t2⟩ := hU2.facts
            have HA1 := hide hI2.above
            have HA2 := hide hB2.above
            have HC1 := hide hI2.cap
            have HC2 := hide hB2.cap
            have HU2 := hide hU2
            have HJ1 := hide hJ1
            have HJ2 := hide hJ2
            have HK := hide hK
            clear hU2 hB2 hI2 hJ1 hJ2 hK hs2
            gi_wp2
            have hKf : (((W.setCell ⟨w.heap.size, 0, none⟩ (.int .i64 ((c0 : Int) / 16))).setCell ⟨w.heap.size, 1, none⟩ (.slice a1 nums.length cc1)).setCell ⟨w.heap.size, 2, none⟩ (.slice a2 c1 cc2)).heap[D]? = some (.deferred (some [])) := by
              rw [heap_stored W w.heap.size D (by omega)]
              exact HK.out
            have hgO := grownBy_putObj' (((W.setCell ⟨w.heap.size, 0, none⟩ (.int .i64 ((c0 : Int) / 16))).setCell ⟨w.heap.size, 1, none⟩ (.slice a1 nums.length cc1)).setCell ⟨w.heap.size, 2, none⟩ (.slice a2 c1 cc2)) D (.deferred none)
            have hrO : ∀ r, some D = some r → ∃ o : Obj, (((W.setCell ⟨w.heap.size, 0, none⟩ (.int .i64 ((c0 : Int) / 16))).setCell ⟨w.heap.size, 1, none⟩ (.slice a1 nums.length cc1)).setCell ⟨w.heap.size, 2, none⟩ (.slice a2 c1 cc2)).heap[r]? = some o ∧ o.isCells = false := fun r e => by cases e; exact ⟨_, hKf, rfl⟩
            have hbox := cells_kept (((HU2.out.1.set0 (.int .i64 ((c0 : Int) / 16))).set1 (.slice a1 nums.length cc1)).set2 (.slice a2 c1 cc2)) hgO hrO
            have hbl := (below_stored (g := w.heap.size) HU2.out.2.2.1 (Nat.le_refl _) (.int .i64 ((c0 : Int) / 16)) (.slice a1 nums.length cc1) (.slice a2 c1 cc2)).grown hgO (by have := t1; simp [World.setCell]; omega) (fun k e => by cases e; omega)
            have hin := (HJ1.out.stored w.heap.size (fun p hp => by have := HA1.out p hp; omega) (.int .i64 ((c0 : Int) / 16)) (.slice a1 nums.length cc1) (.slice a2 c1 cc2)).grow hgO hrO
            have hbn := (HJ2.out.stored w.heap.size (fun p hp => by have := HA2.out p hp; simp at this; omega) (.int .i64 ((c0 : Int) / 16)) (.slice a1 nums.length cc1) (.slice a2 c1 cc2)).grow hgO hrO
            refine ⟨by simp, .inl ⟨_, _, rfl, run_takeDeferred hKf, ?_⟩⟩
            generalize (((W.setCell ⟨w.heap.size, 0, none⟩ (.int .i64 ((c0 : Int) / 16))).setCell ⟨w.heap.size, 1, none⟩ (.slice a1 nums.length cc1)).setCell ⟨w.heap.size, 2, none⟩ (.slice a2 c1 cc2)).putObj D (.deferred none) = WF at *
            have y0 := BoxAt.cell0 hbox
            have y1 := BoxAt.cell1 hbox
            have y2 := BoxAt.cell2 hbox
            exact ⟨.tuple #[.agg #[.int .i64 ((c0 : Int) / 16), .slice a1 nums.length cc1, .slice a2 c1 cc2], .bool true], by simp [results, Try.results49, go_sem, y0, y1, y2], .inl ⟨_, nums, c1, l.drop A, a1, cc1, a2, cc2, rfl, HG.out, hin, hbn, fun p hp => by have := HA1.out p hp; omega, fun p hp => by have := HA2.out p hp; simp at this; omega, HC1.out, HC2.out, hbl⟩⟩
        · have hfit2 : (((len - A : Nat) : Int) != (c1 : Int) * 8) = true := by simp; omega
          have HN := hide (show ∀ kind nums nb bs, ¬ Mx.IsBody l kind nums nb bs by
            intro kind nums' nb bs hf
            obtain ⟨_, e2, e3, _⟩ := HD.out _ _ _ _ hf
            have := congrArg List.length e2
            rw [List.length_drop, HL.out, hf.2.1] at this
            rw [H1.out] at e3
            omega)
          gi_wp2_with fail
          obtain ⟨r0, r1, r2⟩ := hU.out.1.stored (.int .i64 0) (.slice none 0 0) (.slice none 0 0)
          exact ⟨.tuple #[.agg #[.int .i64 0, .slice none 0 0, .slice none 0 0], .bool false], by simp [results, Try.results49, go_sem, r0, r1, r2], .inr ⟨rfl, HN.out, below_stored hU.out.2.2.1 (Nat.le_refl _) _ _ _⟩⟩
end Go.Proofs.Ytfgonmgmoeoedaa

/-
  The program's own reading (Unpack): the frame that bytes are, or ErrForm.
-/
namespace Go.Proofs.Ytfgonmgmoeoedaa
open Go.RowKit

theorem Bytes.cut {w : World} {b off len : Nat} {l : List Int} (h : Bytes w (some ⟨b, off, none⟩) len l) (A : Nat) (hA : A ≤ len) : Bytes w (some ⟨b, off, none⟩) A (l.take A) := by
  obtain ⟨h1, h2, h3, h4⟩ := h
  refine ⟨by rw [List.length_take, h1]; omega, by omega, fun x hx => h3 x (List.mem_of_mem_take hx), fun hp => ⟨b, off, rfl, fun i hi => ?_⟩⟩
  obtain ⟨b', off', ha, hc⟩ := h4 (by omega)
  cases ha
  rw [hc i (by omega)]
  simp [List.getD_eq_getElem?_getD, hi]

set_option maxHeartbeats 1000000 in
set_option maxRecDepth 100000 in
theorem unpack_own (a : Option Addr) (len cap : Nat) (l : List Int) (w : World) (hl : Bytes w a len l) (hlen : len ≤ 2000) (hcap : len ≤ cap) :
    Calls Try.prog 40 #[.slice a len cap] w fun e w' => ToldA w w' l e .nilIface (.iface 28 (.int .i64 3)) := by
  have HL := hide hl.1
  by_cases h6 : (len : Int) < 6
  · have HN := hide (frame_long (l := l) (by rw [HL.out]; omega))
    clear hl
    go_enter Try.func40, Try.ntmps40
    go_wp2
    refine bodyPost_ret (v := .tuple #[.agg #[.int .i64 0, .slice none 0 0, .slice none 0 0], .iface 28 (.int .i64 3)]) (by simp [results, Try.results40, go_sem]) rfl (.inr ⟨rfl, HN.out, below_alloc _ _⟩)
  · obtain ⟨L, rfl⟩ : ∃ L, len = L + 4 := ⟨len - 4, by omega⟩
    obtain ⟨b, off, c0, rfl, hc0, hd0, hcell0, ht0⟩ := hl.at_ 0 (by omega)
    have hbs := World.block_lt_of_cell? w _ hcell0
    simp only [Nat.add_zero] at hcell0 hbs
    have HB := hide hl
    clear hl hd0 ht0 hcell0
    have hq1 : (L : Int) + 4 ≤ cap := by omega
    have hq2 : L < cap := by omega
    have hq3 : ¬ cap = L := by omega
    go_enter Try.func40, Try.ntmps40
    go_wp2_with fail
    go_quiet (fail)
    go_wp2_with fail
    obtain ⟨W0, hW0, hBX, hB0, hS0⟩ : ∃ W0 : World, Hid (W0 = (w.alloc (.cells #[.int .i64 0, .slice none 0 0, .slice none 0 0] 40)).drewN nq) ∧ Hid (BoxAt W0 w.heap.size (.int .i64 0) (.slice none 0 0) (.slice none 0 0)) ∧ Hid (Below w.heap.size w W0) ∧ W0.heap.size = w.heap.size + 1 :=
      ⟨_, rfl, BoxAt.new w _ _ _, below_drewN (below_alloc _ _) nq, by simp⟩
    rw [← hW0.out]
    have HLT := hide (show l.take L = l.take (l.length - 4) by rw [HL.out]; simp)
    have HLD := hide (show l.drop L = l.drop (l.length - 4) by rw [HL.out]; simp)
    refine (readBody_any b off L cap (l.take L) W0 ((HB.out.cut L (by omega)).later hB0.out) (by omega) (by omega) (by omega)).mono ?_
    rintro e w1 (⟨kind, nums, nb, bs, a1, c1, a2, c2, rfl, hbody, hi, hbk, hab1, hab2, hcap1, hcap2, hbel⟩ | ⟨rfl, hno, hbel⟩)
    · have HBD := hide hbody
      have HI := hide hi
      have HK := hide hbk
      have HAB1 := hide hab1
      have HAB2 := hide hab2
      have hs1 := hbel.size
      have HBX1 := hide (hBX.out.later hbel (by omega))
      have HB1 := hide (hB0.out.trans (hbel.mono (by omega)))
      clear hbody hi hbk hbel hab1 hab2
      go_wp2_with fail
      refine (readSeal_any b (off + L) (cap - L) (l.drop L) _ ?_).mono ?_
      · have hx := (HB.out.drop L).later (HB1.out.alloc (by omega) (.cells #[.int .i64 kind, .slice a1 nums.length c1, .slice a2 nb c2] 40))
        rw [show L + 4 - L = 4 by omega] at hx
        exact hx
      rintro e w2 ⟨rfl, hbel2⟩
      have hs2 := hbel2.size
      rw [World.size_alloc] at hs2
      have HW2 := hide ((Below.refl w1.heap.size w1).alloc (Nat.le_refl _) (.cells #[.int .i64 kind, .slice a1 nums.length c1, .slice a2 nb c2] 40) |>.trans (hbel2.mono (by simp)))
      have HF2 := hide (BoxAt.later (BoxAt.new w1 (.int .i64 kind) (.slice a1 nums.length c1) (.slice a2 nb c2)) hbel2 (by simp))
      clear hbel2
      obtain ⟨X, hX⟩ : ∃ X : Array Value, Hid (X = ((l.drop L).map (Value.int .u8)).toArray) := ⟨_, rfl⟩
      rw [← hX.out]
      go_wp2_with fail
      refine (sealOf_any (some ⟨b, off, none⟩) L cap (l.take L) w2 ((HB.out.cut L (by omega)).later (HB1.out.trans (HW2.out.mono (by omega))))).mono ?_
      rintro e w3 ⟨rfl, hbel3⟩
      have HW3 := hide (HW2.out.trans (hbel3.mono (by omega)))
      have HF3 := hide (HF2.out.later hbel3 (by omega))
      have hs3 := hbel3.size
      clear hbel3
      obtain ⟨Y, hY⟩ : ∃ Y : Array Value, Hid (Y = ((Mx.sealB (Mx.crc (l.take L))).map (Value.int .u8)).toArray) := ⟨_, rfl⟩
      rw [← hY.out]
      have heq : ∀ W : World, Sem.run Try.prog (Op.equalIn 10000 92 (.agg X) (.agg Y)) W = .ok (decide (l.drop L = Mx.sealB (Mx.crc (l.take L)))) W := by
        intro W
        obtain ⟨i0, hi0, _⟩ := info_parts Try.info5
        rw [hX.out, hY.out]
        exact run_equal_bytes W 92 5 4 i0 Try.underlying92 Try.underlying5 hi0 Try.cellsOf5 _ _ (by rw [List.length_drop, HL.out]; omega) rfl
      have HBX3 := hide (HBX1.out.later HW3.out (by omega))
      have e0 := HF3.out.cell0
      have e1 := HF3.out.cell1
      have e2 := HF3.out.cell2
      have g0 := HBX3.out.cell0
      have g1 := HBX3.out.cell1
      have g2 := HBX3.out.cell2
      have gz := HBX3.out.frozen
      have hsw : w.heap.size < w3.heap.size := by omega
      by_cases hse : l.drop L = Mx.sealB (Mx.crc (l.take L))
      · have HFR := hide (show Mx.IsFrame l kind nums nb bs from Mx.IsBody.frame (by rw [← HLT.out]; exact HBD.out) (by rw [← HLD.out, ← HLT.out]; exact hse))
        rw [decide_eq_true hse] at heq
        clear hse
        go_wp2_with fail
        obtain ⟨r0, r1, r2⟩ := HBX3.out.stored (.int .i64 kind) (.slice a1 nums.length c1) (.slice a2 nb c2)
        refine bodyPost_ret (v := .tuple #[.agg #[.int .i64 kind, .slice a1 nums.length c1, .slice a2 nb c2], .nilIface]) (by simp [results, Try.results40, go_sem, r0, r1, r2]) rfl (.inl ⟨kind, nums, nb, bs, a1, c1, a2, c2, rfl, HFR.out, ?_, ?_, fun p hp => by have := HAB1.out p hp; omega, fun p hp => by have := HAB2.out p hp; omega, hcap1, hcap2, below_stored (HB1.out.trans (HW3.out.mono (by omega))) (Nat.le_refl _) _ _ _⟩)
        · exact Ints.stored (HI.out.later HW3.out) _ (fun p hp => by have := HAB1.out p hp; omega) _ _ _
        · exact Blks.stored (HK.out.later HW3.out) _ (fun p hp => by have := HAB2.out p hp; omega) _ _ _
      · have HN := hide (show ∀ kind nums nb bs, ¬ Mx.IsFrame l kind nums nb bs by
          intro k' l' n' s' hf
          have := hf.body.2
          rw [← HLD.out, ← HLT.out] at this
          exact hse this)
        rw [decide_eq_false hse] at heq
        clear hse
        go_wp2_with fail
        obtain ⟨r0, r1, r2⟩ := HBX3.out.stored (.int .i64 0) (.slice none 0 0) (.slice none 0 0)
        exact bodyPost_ret (v := .tuple #[.agg #[.int .i64 0, .slice none 0 0, .slice none 0 0], .iface 28 (.int .i64 3)]) (by simp [results, Try.results40, go_sem, r0, r1, r2]) rfl (.inr ⟨rfl, HN.out, below_stored (HB1.out.trans (HW3.out.mono (by omega))) (Nat.le_refl _) _ _ _⟩)
    · have HN := hide (show ∀ kind nums nb bs, ¬ Mx.IsFrame l kind nums nb bs by
        intro k' l' n' s' hf
        have := hf.body.1
        rw [← HLT.out] at this
        exact hno _ _ _ _ this)
      have hs1 := hbel.size
      have HBX1 := hide (hBX.out.later hbel (by omega))
      have HB1 := hide (hB0.out.trans (hbel.mono (by omega)))
      have g0 := HBX1.out.cell0
      have g1 := HBX1.out.cell1
      have g2 := HBX1.out.cell2
      have gz := HBX1.out.frozen
      have hsw : w.heap.size < w1.heap.size := by omega
      clear hno hbel
      go_wp2_with fail
      have hst := below_stored (g := w.heap.size) HB1.out (Nat.le_refl _) (.int .i64 0) (.slice none 0 0) (.slice none 0 0)
      have hbf := BoxAt.later (((HBX1.out.set0 (.int .i64 0)).set1 (.slice none 0 0)).set2 (.slice none 0 0)) (B := w1.heap.size) ((Below.refl w1.heap.size _).alloc (by simp [World.setCell]) (.cells #[.int .i64 0, .slice none 0 0, .slice none 0 0] 40)) (by omega)
      have r0 := hbf.cell0
      have r1 := hbf.cell1
      have r2 := hbf.cell2
      exact bodyPost_ret (v := .tuple #[.agg #[.int .i64 0, .slice none 0 0, .slice none 0 0], .iface 28 (.int .i64 3)]) (by simp [results, Try.results40, go_sem, r0, r1, r2]) rfl (.inr ⟨rfl, HN.out, hst.alloc (by simp [World.setCell]; omega) _⟩)

theorem unpack_any (a : Option Addr) (len cap : Nat) (l : List Int) (w : World) (hl : Bytes w a len l) (hlen : len ≤ 2000) (hcap : len ≤ cap) :
    Calls Try.prog 40 #[.slice a len cap] w fun e w' => Told w w' l e .nilIface (.iface 28 (.int .i64 3)) :=
  (unpack_own a len cap l w hl hlen hcap).mono fun _ _ h => h.told
end Go.Proofs.Ytfgonmgmoeoedaa

/-
  For all bytes: their sum, and the frame that they are, or that they are none, are what the document's answer says (FrameReads): the walk.
-/
namespace Go.Proofs.Ytfgonmgmoeoedaa
open Go.RowKit

theorem neq_err3 (W : World) : (binOp .neq 32 (.iface 28 (.int .i64 3)) (.iface 28 (.int .i64 3))).run Try.prog W = .ok (.bool false) W := by
  have h := Lib.run_eql_iface_int (P := Try.prog) (k := .i64) W 3 3 Try.underlying32 (by kernel_rfl) Try.underlying28
  simp only [binOp] at h ⊢
  cases hr : (Op.equal 32 (.iface 28 (.int .i64 3)) (.iface 28 (.int .i64 3))).run Try.prog W with
  | ok v w' => simp [hr] at h ⊢; exact h
  | halt x w' => simp [hr] at h

theorem ints_nil (w : World) : Ints w none 0 [] := ⟨rfl, by unfold maxLen; omega, fun h => absurd h (by omega)⟩
theorem blks_nil (w : World) : Blks w none 0 [] := ⟨rfl, by unfold maxLen; omega, by simp, fun h => absurd h (by omega)⟩

end Go.Proofs.Ytfgonmgmoeoedaa

/-
  Disks: blocks and puts as they lie in memory; what B1 says of a disk.
-/
namespace Go.Proofs.Ytfgonmgmoeoedaa
open Go.RowKit

/-- a put: a place, and a block -/
structure Pt where
  at_ : Int
  d : B8

def B8.cs (x : B8) : List Value := [.int .u8 x.z0, .int .u8 x.z1, .int .u8 x.z2, .int .u8 x.z3, .int .u8 x.z4, .int .u8 x.z5, .int .u8 x.z6, .int .u8 x.z7]
def Pt.cs (p : Pt) : List Value := [.int .i64 p.at_, .int .u8 p.d.z0, .int .u8 p.d.z1, .int .u8 p.d.z2, .int .u8 p.d.z3, .int .u8 p.d.z4, .int .u8 p.d.z5, .int .u8 p.d.z6, .int .u8 p.d.z7]
def flatB (l : List B8) : List Value := l.flatMap B8.cs
def flatP (l : List Pt) : List Value := l.flatMap Pt.cs
/-- a block of noughts -/
def zB : B8 := ⟨0, 0, 0, 0, 0, 0, 0, 0⟩

theorem flatMap_len {α : Type} (f : α → List Value) (s : Nat) (h : ∀ x, (f x).length = s) (l : List α) : (l.flatMap f).length = l.length * s := by
  induction l with
  | nil => simp
  | cons x l ih => rw [List.flatMap_cons, List.length_append, h, ih, List.length_cons, Nat.add_mul]; omega

theorem flatMap_at {α : Type} (f : α → List Value) (s : Nat) (h : ∀ x, (f x).length = s) (l : List α) (k j : Nat) (x : α) (hk : l[k]? = some x) (hj : j < s) : (l.flatMap f)[k * s + j]? = (f x)[j]? := by
  induction l generalizing k with
  | nil => simp at hk
  | cons y l ih =>
    rw [List.flatMap_cons]
    cases k with
    | zero =>
      simp at hk
      subst hk
      rw [Nat.zero_mul, Nat.zero_add, List.getElem?_append_left (by rw [h]; exact hj)]
    | succ k =>
      simp at hk
      rw [List.getElem?_append_right (by rw [h, Nat.add_mul]; omega), h, show (k + 1) * s + j - s = k * s + j by rw [Nat.add_mul]; omega]
      exact ih k hk

theorem flatMap_set {α : Type} (f : α → List Value) (s : Nat) (h : ∀ x, (f x).length = s) (l : List α) (k : Nat) (x : α) (hk : k < l.length) :
    (l.set k x).flatMap f = (l.flatMap f).take (k * s) ++ f x ++ (l.flatMap f).drop (k * s + s) := by
  induction l generalizing k with
  | nil => simp at hk
  | cons y l ih =>
    cases k with
    | zero => simp [List.flatMap_cons, ← h y]
    | succ k =>
      rw [List.set_cons_succ, List.flatMap_cons, List.flatMap_cons, ih k (by simpa using hk), List.take_append, List.drop_append]
      rw [List.take_of_length_le (l := f y) (i := (k + 1) * s) (by rw [h, Nat.add_mul]; omega), List.drop_of_length_le (l := f y) (i := (k + 1) * s + s) (by rw [h, Nat.add_mul]; omega), h]
      rw [show (k + 1) * s - s = k * s by rw [Nat.add_mul]; omega, show (k + 1) * s + s - s = k * s + s by rw [Nat.add_mul]; omega]
      simp [List.append_assoc]

theorem flatB_len (l : List B8) : (flatB l).length = l.length * 8 := flatMap_len _ 8 (fun _ => rfl) l
theorem flatP_len (l : List Pt) : (flatP l).length = l.length * 9 := flatMap_len _ 9 (fun _ => rfl) l
theorem flatB_one {l : List B8} : ∀ u ∈ flatB l, u.oneCell' = true := by
  intro u hu
  obtain ⟨x, _, hx⟩ := List.mem_flatMap.1 hu
  simp [B8.cs] at hx
  rcases hx with rfl | rfl | rfl | rfl | rfl | rfl | rfl | rfl <;> rfl
theorem flatP_one {l : List Pt} : ∀ u ∈ flatP l, u.oneCell' = true := by
  intro u hu
  obtain ⟨x, _, hx⟩ := List.mem_flatMap.1 hu
  simp [Pt.cs] at hx
  rcases hx with rfl | rfl | rfl | rfl | rfl | rfl | rfl | rfl | rfl <;> rfl

/-- a slice whose cells are these -/
def RowR (w : World) (a : Option Addr) (n size : Nat) (xs : List Value) : Prop :=
  xs.length = n * size ∧ n ≤ maxLen ∧ (0 < n → ∃ b off, a = some ⟨b, off, none⟩ ∧ b < w.heap.size ∧ ∀ j u, xs[j]? = some u → w.cell? ⟨b, off + j, none⟩ = some u)
/-- blocks; puts -/
def BL (w : World) (a : Option Addr) (n : Nat) (l : List B8) : Prop := l.length = n ∧ RowR w a n 8 (flatB l)
def PL (w : World) (a : Option Addr) (n : Nat) (l : List Pt) : Prop := l.length = n ∧ RowR w a n 9 (flatP l)

theorem RowR.later {w w' : World} {a : Option Addr} {n size : Nat} {xs : List Value} (h : RowR w a n size xs) (hb : Below w.heap.size w w') : RowR w' a n size xs := by
  obtain ⟨h1, h2, h4⟩ := h
  refine ⟨h1, h2, fun hp => ?_⟩
  obtain ⟨b, off, ha, hlt, hc⟩ := h4 hp
  exact ⟨b, off, ha, by have := hb.size; omega, fun j u hj => (hb.cell (p := ⟨b, off + j, none⟩) hlt).trans (hc j u hj)⟩
theorem BL.later {w w' : World} {a : Option Addr} {n : Nat} {l : List B8} (h : BL w a n l) (hb : Below w.heap.size w w') : BL w' a n l := ⟨h.1, h.2.later hb⟩
theorem PL.later {w w' : World} {a : Option Addr} {n : Nat} {l : List Pt} (h : PL w a n l) (hb : Below w.heap.size w w') : PL w' a n l := ⟨h.1, h.2.later hb⟩
theorem BL.nil (w : World) : BL w none 0 [] := ⟨rfl, rfl, by unfold maxLen; omega, fun h => absurd h (by omega)⟩
theorem PL.nil (w : World) : PL w none 0 [] := ⟨rfl, rfl, by unfold maxLen; omega, fun h => absurd h (by omega)⟩

theorem BL.at_ {w : World} {a : Option Addr} {n : Nat} {l : List B8} (h : BL w a n l) (k : Nat) (hk : k < n) :
    ∃ b off, ∃ x : B8, a = some ⟨b, off, none⟩ ∧ b < w.heap.size ∧ l[k]? = some x ∧ w.cell? ⟨b, off + k * 8, none⟩ = some (.int .u8 x.z0) ∧ w.cell? ⟨b, off + k * 8 + 1, none⟩ = some (.int .u8 x.z1) ∧ w.cell? ⟨b, off + k * 8 + 2, none⟩ = some (.int .u8 x.z2) ∧
      w.cell? ⟨b, off + k * 8 + 3, none⟩ = some (.int .u8 x.z3) ∧ w.cell? ⟨b, off + k * 8 + 4, none⟩ = some (.int .u8 x.z4) ∧ w.cell? ⟨b, off + k * 8 + 5, none⟩ = some (.int .u8 x.z5) ∧
      w.cell? ⟨b, off + k * 8 + 6, none⟩ = some (.int .u8 x.z6) ∧ w.cell? ⟨b, off + k * 8 + 7, none⟩ = some (.int .u8 x.z7) := by
  obtain ⟨h0, h1, h2, h4⟩ := h
  obtain ⟨b, off, ha, hlt, hc⟩ := h4 (by omega)
  have hx : l[k]? = some l[k] := List.getElem?_eq_getElem (by omega)
  have e := fun j (hj : j < 8) => flatMap_at B8.cs 8 (fun _ => rfl) l k j _ hx hj
  refine ⟨b, off, l[k], ha, hlt, hx, ?_, ?_, ?_, ?_, ?_, ?_, ?_, ?_⟩
  · exact hc (k * 8) _ (e 0 (by omega))
  · exact hc (k * 8 + 1) _ (e 1 (by omega))
  · exact hc (k * 8 + 2) _ (e 2 (by omega))
  · exact hc (k * 8 + 3) _ (e 3 (by omega))
  · exact hc (k * 8 + 4) _ (e 4 (by omega))
  · exact hc (k * 8 + 5) _ (e 5 (by omega))
  · exact hc (k * 8 + 6) _ (e 6 (by omega))
  · exact hc (k * 8 + 7) _ (e 7 (by omega))

theorem PL.at_ {w : World} {a : Option Addr} {n : Nat} {l : List Pt} (h : PL w a n l) (k : Nat) (hk : k < n) :
    ∃ b off, ∃ p : Pt, a = some ⟨b, off, none⟩ ∧ b < w.heap.size ∧ l[k]? = some p ∧ w.cell? ⟨b, off + k * 9, none⟩ = some (.int .i64 p.at_) ∧ w.cell? ⟨b, off + k * 9 + 1, none⟩ = some (.int .u8 p.d.z0) ∧ w.cell? ⟨b, off + k * 9 + 2, none⟩ = some (.int .u8 p.d.z1) ∧
      w.cell? ⟨b, off + k * 9 + 3, none⟩ = some (.int .u8 p.d.z2) ∧ w.cell? ⟨b, off + k * 9 + 4, none⟩ = some (.int .u8 p.d.z3) ∧ w.cell? ⟨b, off + k * 9 + 5, none⟩ = some (.int .u8 p.d.z4) ∧
      w.cell? ⟨b, off + k * 9 + 6, none⟩ = some (.int .u8 p.d.z5) ∧ w.cell? ⟨b, off + k * 9 + 7, none⟩ = some (.int .u8 p.d.z6) ∧ w.cell? ⟨b, off + k * 9 + 8, none⟩ = some (.int .u8 p.d.z7) := by
  obtain ⟨h0, h1, h2, h4⟩ := h
  obtain ⟨b, off, ha, hlt, hc⟩ := h4 (by omega)
  have hx : l[k]? = some l[k] := List.getElem?_eq_getElem (by omega)
  have e := fun j (hj : j < 9) => flatMap_at Pt.cs 9 (fun _ => rfl) l k j _ hx hj
  refine ⟨b, off, l[k], ha, hlt, hx, ?_, ?_, ?_, ?_, ?_, ?_, ?_, ?_, ?_⟩
  · exact hc (k * 9) _ (e 0 (by omega))
  · exact hc (k * 9 + 1) _ (e 1 (by omega))
  · exact hc (k * 9 + 2) _ (e 2 (by omega))
  · exact hc (k * 9 + 3) _ (e 3 (by omega))
  · exact hc (k * 9 + 4) _ (e 4 (by omega))
  · exact hc (k * 9 + 5) _ (e 5 (by omega))
  · exact hc (k * 9 + 6) _ (e 6 (by omega))
  · exact hc (k * 9 + 7) _ (e 7 (by omega))
  · exact hc (k * 9 + 8) _ (e 8 (by omega))

theorem ownsRow_rowR {w : World} {base e size : Nat} {v : Value} {n : Nat} {xs : List Value} (h : w.ownsRow base e size v n xs) : ∃ a c, v = .slice a n c ∧ n ≤ c ∧ RowR w a n size xs ∧ ∀ p, a = some p → base ≤ p.block := by
  rcases h.2 with ⟨hv, hz⟩ | ⟨g, cap, cur, hv, hb, hh, hle, hmx, _⟩
  · subst hz
    exact ⟨none, 0, hv, Nat.le_refl _, ⟨h.1, by unfold maxLen; omega, fun h => absurd h (by omega)⟩, fun p hp => by cases hp⟩
  · have hc := World.ownsRow.cells h (g := g) (by rw [hv]; rfl)
    refine ⟨_, cap, hv, hle, ⟨h.1, by omega, fun _ => ⟨g, 0, rfl, (Array.getElem?_eq_some_iff.1 hh).1, fun i u hi => ?_⟩⟩, fun p hp => by cases hp; exact hb⟩
    have hadd : (⟨g, 0, none⟩ : Addr).add i = ⟨g, 0 + i, none⟩ := by unfold Addr.add; split <;> simp_all
    rw [← hadd]
    exact hc i u hi

namespace Mx
def outside (n : Nat) (p : Pt) : Bool := decide (p.at_ < 0) || decide ((n : Int) ≤ p.at_)
/-- B1's error, as a number (0: none) -/
def dmay (n : Nat) (ps : List Pt) : Int :=
  if n < 1 ∨ 200 < n ∨ 800 < ps.length then 2 else if ps.any (outside n) then 1 else 0
theorem dmay_long {n : Nat} {ps : List Pt} (h : n < 1 ∨ 200 < n ∨ 800 < ps.length) : dmay n ps = 2 := by unfold dmay; rw [if_pos h]
theorem dmay_bad {n : Nat} {ps : List Pt} (h : ¬ (n < 1 ∨ 200 < n ∨ 800 < ps.length)) (k : Nat) (p : Pt) (hk : ps[k]? = some p) (hp : outside n p = true) : dmay n ps = 1 := by
  unfold dmay
  rw [if_neg h, if_pos]
  rw [List.any_eq_true]
  exact ⟨p, List.mem_of_getElem? hk, hp⟩
theorem dmay_ok {n : Nat} {ps : List Pt} (h : ¬ (n < 1 ∨ 200 < n ∨ 800 < ps.length)) (hp : ∀ k p, k < ps.length → ps[k]? = some p → outside n p = false) : dmay n ps = 0 := by
  unfold dmay
  rw [if_neg h, if_neg]
  rw [List.any_eq_true]
  rintro ⟨p, hx, hb⟩
  obtain ⟨i, hi, rfl⟩ := List.getElem_of_mem hx
  have := hp i _ hi (List.getElem?_eq_getElem hi)
  rw [hb] at this
  cases this
theorem dmay_facts {n : Nat} {ps : List Pt} (h : dmay n ps = 0) : 1 ≤ n ∧ n ≤ 200 ∧ ps.length ≤ 800 ∧ ∀ p ∈ ps, 0 ≤ p.at_ ∧ p.at_ < n := by
  unfold dmay at h
  split at h
  · omega
  · split at h
    · omega
    · rename_i h1 h2
      refine ⟨by omega, by omega, by omega, fun p hp => ?_⟩
      rw [List.any_eq_true] at h2
      have : ¬ outside n p = true := fun hb => h2 ⟨p, hp, hb⟩
      simp [outside] at this
      omega
end Mx
end Go.Proofs.Ytfgonmgmoeoedaa

/-
  Whether a disk may be: the document's answer (DiskMay), the program's (Check), and a place on it (has, checkPlace).
-/
namespace Go.Proofs.Ytfgonmgmoeoedaa
open Go.RowKit

/-- is it a place of a disk of n blocks? -/
def Mx.inside (n : Nat) (x : Int) : Bool := decide (0 ≤ x ∧ x < n)
theorem Mx.inside_yes {n : Nat} {x : Int} (h : 0 ≤ x ∧ x < n) : Mx.inside n x = true := decide_eq_true h
theorem Mx.inside_no {n : Nat} {x : Int} (h : ¬ (0 ≤ x ∧ x < n)) : Mx.inside n x = false := decide_eq_false h

namespace Mx
/-- what is wrong with a disk, or else with a place on it -/
def dplace (n : Nat) (ps : List Pt) (at_ : Int) : Int := if dmay n ps = 0 then (if 0 ≤ at_ ∧ at_ < n then 0 else 1) else dmay n ps
end Mx

end Go.Proofs.Ytfgonmgmoeoedaa

/-
  For bytes of a frame with one of them another one, or cut, or with one more, FrameReads holds (FrameTorn): the walk.
-/
namespace Go.Proofs.Ytfgonmgmoeoedaa
open Go.RowKit

set_option maxHeartbeats 400000 in
set_option maxRecDepth 100000 in
theorem pick_any (c n : Int) (w : World) (h1 : -9223372036854775808 ≤ c) (h2 : c ≤ 9223372036854775807) (hn : 0 < n) (hn2 : n ≤ 1000000) :
    Calls Try.prog 16 #[.int .i64 c, .int .i64 n] w fun e w' => ∃ r : Nat, (r : Int) < n ∧ e = .returned (.int .i64 (r : Int)) ∧ w' = w := by
  have hn0 : ¬ n = 0 := by omega
  by_cases hc : c < 0
  · have hq0 : 0 ≤ (-(c + 1)) % n := Int.emod_nonneg _ hn0
    have hq1 : (-(c + 1)) % n < n := Int.emod_lt_of_pos _ hn
    obtain ⟨r, hr⟩ := Int.eq_ofNat_of_zero_le hq0
    have HR := hide hr
    have HQ := hide hq1
    clear hr hq0 hq1
    go_enter Try.func16, Try.ntmps16
    go_wp2
    go_ret
    refine ⟨r, by rw [← HR.out]; exact HQ.out, ?_, rfl⟩
    rw [← HR.out]
    show Ending.returned (.int .i64 (-((c + 1).tmod n))) = _
    rw [← Int.neg_tmod, Int.tmod_eq_emod_of_nonneg (by omega)]
  · have hq0 : 0 ≤ c % n := Int.emod_nonneg _ hn0
    have hq1 : c % n < n := Int.emod_lt_of_pos _ hn
    obtain ⟨r, hr⟩ := Int.eq_ofNat_of_zero_le hq0
    have HR := hide hr
    have HQ := hide hq1
    clear hr hq0 hq1
    go_enter Try.func16, Try.ntmps16
    go_wp2
    go_ret
    refine ⟨r, by rw [← HR.out]; exact HQ.out, ?_, rfl⟩
    rw [← HR.out]
    rfl

theorem packB_len {w : World} {kind : Int} {a2 : Option Addr} {n2 : Nat} {l bs : List Int} (h2 : Blks w a2 n2 bs) (hm : Mx.may kind l n2 = 0) : (Mx.packB kind l n2 bs).length ≤ 3000 := by
  obtain ⟨_, _, hll, hn2, _⟩ := may_facts hm
  have := Mx.bodyB_len (kind := kind) hll hn2 h2.1
  rw [Mx.packB, List.length_append, Mx.sealB_len]
  omega

theorem own_slice_cap {w : World} {base : Nat} {v : Value} {l : List Int} (h : Own w base v l) (hn : l ≠ []) : ∃ g cap, v = .slice (some ⟨g, 0, none⟩) l.length cap ∧ base ≤ g ∧ g < w.heap.size ∧ l.length ≤ cap := by
  rcases h.2 with ⟨_, hz⟩ | ⟨g, cap, cur, hv, hb, hh, hc, _⟩
  · exact absurd (List.eq_nil_of_length_eq_zero hz) hn
  · exact ⟨g, cap, hv, hb, (Array.getElem?_eq_some_iff.1 hh).1, hc⟩

/-- one byte of the call's own is another one -/
theorem own_put {w : World} {base g n cap : Nat} {l : List Int} (h : Own w base (.slice (some ⟨g, 0, none⟩) n cap) l) (hb : ∀ x ∈ l, 0 ≤ x ∧ x ≤ 255) (k : Nat) (z : Int) (hk : k < n) (h0 : 0 ≤ z) (h1 : z ≤ 255) :
    Bytes (w.setCell ⟨g, k, none⟩ (.int .u8 z)) (some ⟨g, 0, none⟩) n (l.set k z) := by
  have hB := own_bytes h hb
  obtain ⟨b1, b2, b3, b4⟩ := hB
  refine ⟨by rw [List.length_set]; exact b1, b2, fun x hx => ?_, fun hp => ⟨g, 0, rfl, fun i hi => ?_⟩⟩
  · rcases List.mem_or_eq_of_mem_set hx with h | rfl
    · exact b3 x h
    · exact ⟨h0, h1⟩
  · obtain ⟨b', off', ha, hc⟩ := b4 hp
    cases ha
    have hci := hc i hi
    simp only [Nat.zero_add] at hci ⊢
    by_cases hik : i = k
    · subst hik
      rw [World.cell?_setCell_same' _ _ _ (by rw [hci]; rfl)]
      simp [List.getD_eq_getElem?_getD, b1, hi]
    · rw [World.cell?_setCell_other _ _ _ _ (by intro e; apply hik; cases e; rfl), hci]
      simp [List.getD_eq_getElem?_getD, Ne.symm hik]

theorem own_frozen {w : World} {base g n cap : Nat} {l : List Int} (h : Own w base (.slice (some ⟨g, 0, none⟩) n cap) l) (o : Nat) : w.frozen? ⟨g, o, none⟩ = false := by
  rcases h.2 with ⟨hv, _⟩ | ⟨g', cap', cur, hv, _, hh, _⟩
  · simp at hv
  · simp at hv
    obtain ⟨rfl, _, _⟩ := hv
    unfold World.frozen?
    rw [hh]
    simp

end Go.Proofs.Ytfgonmgmoeoedaa

/-
  Plain mathematics: a frame's bytes with one of them another one are no frame's: the sum tells two bodies that differ in one byte apart.
-/
namespace Go.Proofs.Ytfgonmgmoeoedaa
namespace Mx

theorem xor_poly_high (x : Nat) (h : x < 2147483648) : 2147483648 ≤ x ^^^ poly := by
  rcases Nat.lt_or_ge (x ^^^ poly) 2147483648 with hlt | hge
  · exfalso
    have e : (x ^^^ poly) ^^^ x = poly := by rw [Nat.xor_comm x poly, Nat.xor_assoc, Nat.xor_self, Nat.xor_zero]
    have := Nat.xor_lt_two_pow (n := 31) hlt h
    rw [e] at this
    unfold poly at this
    omega
  · exact hge

theorem xor_cancel (a b c : Nat) (h : a ^^^ c = b ^^^ c) : a = b := by
  have e : ∀ x : Nat, (x ^^^ c) ^^^ c = x := fun x => by rw [Nat.xor_assoc, Nat.xor_self, Nat.xor_zero]
  rw [← e a, ← e b, h]

theorem impBit_inj (x y : Nat) (hx : x < 4294967296) (hy : y < 4294967296) (h : impBit x = impBit y) : x = y := by
  unfold impBit at h
  have h1 := xor_poly_high (x / 2) (by omega)
  have h2 := xor_poly_high (y / 2) (by omega)
  split at h <;> split at h
  · have := xor_cancel _ _ _ h
    omega
  · omega
  · omega
  · omega

theorem impBits_inj (k x y : Nat) (hx : x < 4294967296) (hy : y < 4294967296) (h : impBits x k = impBits y k) : x = y := by
  induction k with
  | zero => exact h
  | succ k ih => exact ih (impBit_inj _ _ (impBits_lt x k hx) (impBits_lt y k hy) h)

theorem refBits_inj (x y c : Nat) (hc : c < 256) (hx : x < 4294967296) (hy : y < 4294967296) (h : refBits x c 8 = refBits y c 8) : x = y := by
  rw [← impBits_eight x c hc, ← impBits_eight y c hc] at h
  exact xor_cancel x y c (impBits_inj 8 _ _ (xor_lt _ _ hx (by omega)) (xor_lt _ _ hy (by omega)) h)

theorem refBits_byte (x c d : Nat) (hc : c < 256) (hd : d < 256) (hx : x < 4294967296) (h : refBits x c 8 = refBits x d 8) : c = d := by
  rw [← impBits_eight x c hc, ← impBits_eight x d hd] at h
  have := impBits_inj 8 _ _ (xor_lt _ _ hx (by omega)) (xor_lt _ _ hx (by omega)) h
  rw [Nat.xor_comm x c, Nat.xor_comm x d] at this
  exact xor_cancel c d x this

theorem reg_inj (l : List Int) (x y : Nat) (hb : ∀ c ∈ l, 0 ≤ c ∧ c ≤ 255) (hx : x < 4294967296) (hy : y < 4294967296) (h : reg x l = reg y l) : x = y := by
  induction l generalizing x y with
  | nil => exact h
  | cons c l ih =>
    have hc := hb c (by simp)
    exact refBits_inj x y c.toNat (by omega) hx hy (ih _ _ (fun d hd => hb d (by simp [hd])) (refBits_lt _ _ _ hx) (refBits_lt _ _ _ hy) h)

theorem crc_hurt (pre post : List Int) (c d : Int) (hc : 0 ≤ c ∧ c ≤ 255) (hd : 0 ≤ d ∧ d ≤ 255) (hp : ∀ x ∈ post, 0 ≤ x ∧ x ≤ 255) (h : crc (pre ++ c :: post) = crc (pre ++ d :: post)) : c = d := by
  unfold crc at h
  have h1 := reg_lt 4294967295 (pre ++ c :: post) (by omega)
  have h2 := reg_lt 4294967295 (pre ++ d :: post) (by omega)
  have h3 : reg 4294967295 (pre ++ c :: post) = reg 4294967295 (pre ++ d :: post) := by omega
  rw [reg_append, reg_append] at h3
  have hr := reg_lt 4294967295 pre (by omega)
  have h4 : refBits (reg 4294967295 pre) c.toNat 8 = refBits (reg 4294967295 pre) d.toNat 8 := reg_inj post _ _ hp (refBits_lt _ _ _ hr) (refBits_lt _ _ _ hr) h3
  have := refBits_byte _ _ _ (by omega) (by omega) hr h4
  omega

theorem sealB_inj (a b : Nat) (h : sealB a = sealB b) : a = b := by
  unfold sealB at h
  simp only [List.cons.injEq, and_true] at h
  omega

/-- with one byte another one it is no frame -/
theorem IsFrame.hurt {l : List Int} {kind : Int} {nums : List Int} {nb : Nat} {bs : List Int} (h : IsFrame l kind nums nb bs) (hb : ∀ x ∈ l, 0 ≤ x ∧ x ≤ 255) (r : Nat) (hr : r < l.length) (z : Int) (hz : 0 ≤ z ∧ z ≤ 255) (hne : l.getD r 0 ≠ z) :
    ∀ k' n' m' s', ¬ IsFrame (l.set r z) k' n' m' s' := by
  intro k' n' m' s' hf
  have e1 := h.body.2
  have e2 := hf.body.2
  rw [List.length_set] at e2
  have hl6 := h.head.2.2.1
  rcases Nat.lt_or_ge r (l.length - 4) with hlt | hge
  · rw [List.drop_set_of_lt hlt, e1] at e2
    have hcrc := sealB_inj _ _ e2
    have hlt' : r < (l.take (l.length - 4)).length := by rw [List.length_take]; omega
    have f1 : l.take (l.length - 4) = (l.take (l.length - 4)).take r ++ l.getD r 0 :: (l.take (l.length - 4)).drop (r + 1) := by
      conv => lhs; rw [← List.take_append_drop r (l.take (l.length - 4)), List.drop_eq_getElem_cons hlt']
      simp [List.getD_eq_getElem?_getD, hr]
    have f2 : (l.set r z).take (l.length - 4) = (l.take (l.length - 4)).take r ++ z :: (l.take (l.length - 4)).drop (r + 1) := by
      rw [List.take_set, List.set_eq_take_append_cons_drop, if_pos hlt']
    rw [f1, f2] at hcrc
    have hm := hb (l.getD r 0) (getD_mem l r hr)
    exact hne (crc_hurt _ _ _ _ hm hz (fun x hx => hb x (List.mem_of_mem_take (List.mem_of_mem_drop hx))) hcrc)
  · rw [List.take_set_of_le hge, ← e1] at e2
    have := congrArg (fun (m : List Int) => m.getD (r - (l.length - 4)) 0) e2
    simp only [drop_getD, show l.length - 4 + (r - (l.length - 4)) = r by omega] at this
    rw [List.getD_eq_getElem?_getD, List.getElem?_set, if_pos rfl, if_pos hr] at this
    simp only [Option.getD_some] at this
    exact hne this.symm

/-- the frame of nothing -/
theorem known_frame : IsFrame [0, 0, 65, 217, 18, 255] 0 [] 0 [] := by
  refine ⟨by decide, rfl, by simp, by decide +kernel⟩
end Mx

theorem packB_len2 {w : World} {kind : Int} {a2 : Option Addr} {n2 : Nat} {l bs : List Int} (h2 : Blks w a2 n2 bs) (hm : Mx.may kind l n2 = 0) : (Mx.packB kind l n2 bs).length ≤ 2000 := by
  obtain ⟨_, _, hll, hn2, _⟩ := may_facts hm
  have h1 := Mx.numB_len l
  have h3 := h2.1
  rw [Mx.packB, List.length_append, Mx.sealB_len]
  simp [Mx.bodyB]
  omega
end Go.Proofs.Ytfgonmgmoeoedaa
