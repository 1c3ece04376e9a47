/-
  The blocks that bytes are made of, one by one (blocksOf): what the iterator gives.
-/
import Derived.Test.YtdhmijjphgcdmaaUnpd
import Derived.RangeFuncNested
import Derived.RangeFuncBound
import Derived.RangeFuncCalls
import Derived.RangeFuncLeaves
import Derived.RangeFuncBox
import Derived.Shelf.Abstract
import Derived.OwnWalkIn
import Derived.TacticsInMore
import Derived.LoopNIn
import Derived.LoopIn
import Derived.BigRegionIn
namespace Go.Proofs.Ytdhmijjphgcdmaa
open Go.RowKit Go.Shelf
attribute [local go_sem] Oper.semAt_some

/-- a block -/
structure B8 where
  z0 : Int
  z1 : Int
  z2 : Int
  z3 : Int
  z4 : Int
  z5 : Int
  z6 : Int
  z7 : Int

def B8.vals (x : B8) : Array Value := #[.int .u8 x.z0, .int .u8 x.z1, .int .u8 x.z2, .int .u8 x.z3, .int .u8 x.z4, .int .u8 x.z5, .int .u8 x.z6, .int .u8 x.z7]
def B8.list (x : B8) : List Int := [x.z0, x.z1, x.z2, x.z3, x.z4, x.z5, x.z6, x.z7]
/-- the k-th block of bytes -/
def blkAt (bs : List Int) (k : Nat) : B8 := ⟨bs.getD (8 * k) 0, bs.getD (8 * k + 1) 0, bs.getD (8 * k + 2) 0, bs.getD (8 * k + 3) 0, bs.getD (8 * k + 4) 0, bs.getD (8 * k + 5) 0, bs.getD (8 * k + 6) 0, bs.getD (8 * k + 7) 0⟩
def blksTo (bs : List Int) (k : Nat) : List B8 := (List.range k).map (blkAt bs)
theorem blksTo_succ (bs : List Int) (k : Nat) : blksTo bs (k + 1) = blksTo bs k ++ [blkAt bs k] := by simp [blksTo, List.range_succ]
theorem blksTo_len (bs : List Int) (k : Nat) : (blksTo bs k).length = k := by simp [blksTo]

/-- what a round that goes on keeps: all below n₀, and the iterator's own box -/
def KpS (n₀ Bs : Nat) (W W' : World) : Prop := Below n₀ W W' ∧ W'.heap[Bs]? = W.heap[Bs]?

set_option maxRecDepth 100000 in
set_option maxHeartbeats 1000000 in
theorem iter_in (n : Nat) (hn : 1 ≤ n) (l Bs n₀ b off cap m : Nat) (bs : List Int) (hm : m ≤ 1000) (hcap : 8 * m ≤ cap) (hb : b < n₀) (J Jx : List B8 → World → Prop)
    (W : World) (hn₀ : n₀ ≤ W.heap.size) (hBn : Bs < W.heap.size) (hJ : AbidesFrom W.heap.size J)
    (hY : ∀ pre x W, J pre W → pre.length < m → YieldAt Fence.wide (n - 1) Try.prog l #[.agg x.vals] W fun e W' =>
      (e = .returned (.bool true) ∧ J (pre ++ [x]) W' ∧ KpS n₀ Bs W W') ∨ (e = .returned (.bool false) ∧ Jx (pre ++ [x]) W'))
    (hBs : W.cell? ⟨Bs, 0, none⟩ = some (.slice (some ⟨b, off, none⟩) (8 * m) cap)) (hc : ∀ j, j < 8 * m → W.cell? ⟨b, off + j, none⟩ = some (.int .u8 (bs.getD j 0))) (h0 : J [] W) :
    CallsIn Fence.wide n Try.prog 113 #[.func (.yield l) #[] #[], .pointer (some ⟨Bs, 0, none⟩)] W fun e W' => (∃ v, e = .returned v) ∧
      ((∃ ys, ys = blksTo bs m ∧ J ys W') ∨ (∃ pre, (∃ k, k ≤ m ∧ pre = blksTo bs k) ∧ Jx pre W')) := by
  have HC := hide hc
  clear hc
  refine callsIn_of_wp Try.func113 rfl trivial ?_ rfl
  simp only [Try.ntmps113, List.size_toArray, List.length_cons, List.length_nil, Nat.reduceAdd, Nat.reduceSub, Array.replicate_succ, Array.replicate_zero, List.push_toArray, List.append_toArray, List.nil_append, List.cons_append]
  gi_wp2
  gi_loopw [3] (fun i wr => ∃ k : Nat, k ≤ m ∧ i = .int .i64 ((8 * k : Nat) : Int) ∧ J (blksTo bs k) wr ∧ Below n₀ W wr ∧ wr.heap[Bs]? = W.heap[Bs]?)
    (fun i _ => 8 * m + 8 - (intOf i).toNat)
  case atStart => exact ⟨0, Nat.zero_le _, rfl, h0, Below.refl _ _, rfl⟩
  case round =>
    obtain ⟨k, hk, rfl, hJs, hnx, hbs⟩ := hrel
    have HBS := hide hbs
    have hbx : wr.cell? ⟨Bs, 0, none⟩ = some (.slice (some ⟨b, off, none⟩) (8 * m) cap) := (World.cell?_of_block (w := W) (a := ⟨Bs, 0, none⟩) hbs).trans hBs
    clear hbs
    by_cases hlt : k < m
    · have hBw : Bs < wr.heap.size := by have := hnx.size; omega
      have hq1 : (8 : Int) * k + 8 ≤ cap := by omega
      have hq2 : 8 * k + 8 ≤ cap := by omega
      have hq3 : (8 : Int) * k + 8 ≤ 8 * m := by omega
      have hcp : Sem.run Try.prog (Builtin.copy_ #[28, 28] 3 #[.slice (some ⟨wr.heap.size, 0, none⟩) 8 8, .slice (some ⟨b, off + 8 * k, none⟩) (8 * k + 8 - 8 * k) (cap - 8 * k)])
          ((wr.alloc (.cells #[.int .u8 0, .int .u8 0, .int .u8 0, .int .u8 0, .int .u8 0, .int .u8 0, .int .u8 0, .int .u8 0] 52)).drew) = .ok (.int .i64 8) ((wr.alloc (.cells (blkAt bs k).vals 52)).drew) := by
        rw [show 8 * k + 8 - 8 * k = 8 by omega]
        exact copy_new wr.drew wr.heap.size 8 (cap - 8 * k) b (off + 8 * k) 52 #[.int .u8 0, .int .u8 0, .int .u8 0, .int .u8 0, .int .u8 0, .int .u8 0, .int .u8 0, .int .u8 0] (blkAt bs k).list rfl rfl rfl (by show b < wr.heap.size; have := hnx.size; omega) (by
          intro j hj
          have hx := HC.out (8 * k + j) (by omega)
          rw [← hnx.cell (p := ⟨b, off + (8 * k + j), none⟩) hb, ← Nat.add_assoc] at hx
          show wr.cell? ⟨b, off + 8 * k + j, none⟩ = _
          rw [hx]
          match j, hj with
          | 0, _ => rfl
          | 1, _ => rfl
          | 2, _ => rfl
          | 3, _ => rfl
          | 4, _ => rfl
          | 5, _ => rfl
          | 6, _ => rfl
          | 7, _ => rfl)
      obtain ⟨x, hx⟩ : ∃ x, Hid (x = blkAt bs k) := ⟨_, rfl⟩
      rw [← hx.out] at hcp
      unfold B8.vals at hcp
      have hcp8 := hcp
      rw [show 8 * k + 8 - 8 * k = 8 by omega] at hcp8
      obtain ⟨W1, hW1⟩ : ∃ W1 : World, W1 = (wr.alloc (.cells #[.int .u8 x.z0, .int .u8 x.z1, .int .u8 x.z2, .int .u8 x.z3, .int .u8 x.z4, .int .u8 x.z5, .int .u8 x.z6, .int .u8 x.z7] 52)).drew := ⟨_, rfl⟩
      have hg1 : wr.grownBy W1 none := by
        rw [hW1]
        exact ⟨rfl, rfl, rfl, by simp, fun i hi _ => Below.heap_alloc wr _ i hi⟩
      have hB1 : Below n₀ wr W1 := (Below.refl n₀ wr).grown hg1 (by have := hnx.size; omega) (fun i h => by cases h)
      obtain ⟨fn, tmps, assign, body, hy, hR⟩ := hY (blksTo bs k) x W1 (hJ _ wr W1 none hJs hg1 (fun r h => by cases h)) (by rw [blksTo_len]; exact hlt)
      unfold B8.vals at hy
      rw [hW1] at hy hR
      gi_wp2
      gi_region
      clear hcp hcp8
      gi_wp2
      refine hR.mono ?_
      rintro e W3 (⟨rfl, hJ3, hk3⟩ | ⟨rfl, hJx3⟩)
      · gi_wp2
        go_roundw
        case rel => exact ⟨k + 1, by omega, by go_num, by rw [blksTo_succ, ← hx.out]; exact hJ3, hnx.trans (hB1.trans (by rw [hW1]; exact hk3.1)), hk3.2.trans ((Below.heap_alloc wr _ Bs hBw).trans HBS.out)⟩
        case measure => simp [intOf]; omega
      · gi_wp2
        refine bodyPost_ret (results_none rfl _ _ _) rfl ?_
        exact ⟨⟨_, rfl⟩, .inr ⟨_, ⟨k + 1, by omega, by rw [blksTo_succ, ← hx.out]⟩, hJx3⟩⟩
    · obtain rfl : k = m := by omega
      gi_wp2
      go_end0
      exact ⟨⟨_, rfl⟩, .inl ⟨_, rfl, hJs⟩⟩

set_option maxHeartbeats 1000000 in
theorem blocksOf_in (n : Nat) (a : Option Addr) (len cap : Nat) (w : World) :
    CallsIn Fence.wide n Try.prog 105 #[.slice a len cap] w fun e w' => e = .returned (.func (.func 113) #[] #[.pointer (some ⟨w.heap.size, 0, none⟩)]) ∧ w' = w.alloc (.cells #[.slice a len cap] 28) := by
  refine callsIn_of_wp Try.func105 rfl trivial ?_ rfl
  simp only [Try.ntmps105, List.size_toArray, List.length_cons, List.length_nil, Nat.reduceAdd, Nat.reduceSub, Array.replicate_succ, Array.replicate_zero, List.push_toArray, List.append_toArray, List.nil_append, List.cons_append]
  gi_wp2
  go_ret
  exact ⟨rfl, rfl⟩

theorem iter_stops (n : Nat) (hn : 1 ≤ n) (Bs n₀ b off cap m : Nat) (bs : List Int) (hm : m ≤ 1000) (hcap : 8 * m ≤ cap) (hb : b < n₀) (w : World) (hn₀ : n₀ ≤ w.heap.size) (hBn : Bs < w.heap.size)
    (hBs : w.cell? ⟨Bs, 0, none⟩ = some (.slice (some ⟨b, off, none⟩) (8 * m) cap)) (hc : ∀ j, j < 8 * m → w.cell? ⟨b, off + j, none⟩ = some (.int .u8 (bs.getD j 0))) :
    SeqStopsK Fence.wide n Try.prog 113 #[.pointer (some ⟨Bs, 0, none⟩)] (fun x : B8 => #[.agg x.vals]) (KpS n₀ Bs) (fun ys => ys = blksTo bs m) (fun pre => ∃ k, k ≤ m ∧ pre = blksTo bs k) m w := fun l J Jx W hW hJ _ hY h0 =>
  iter_in n hn l Bs n₀ b off cap m bs hm hcap hb J Jx W (Nat.le_trans hn₀ hW.size) (Nat.lt_of_lt_of_le hBn hW.size) hJ hY ((hW.cell (p := ⟨Bs, 0, none⟩) hBn).trans hBs)
    (fun j hj => (hW.cell (p := ⟨b, off + j, none⟩) (by show b < _; omega)).trans (hc j hj)) h0

theorem kpS_t {n₀ Bs : Nat} {A B C : World} (h : KpS n₀ Bs A B) (k : KpS n₀ Bs B C) : KpS n₀ Bs A C := ⟨h.1.trans k.1, k.2.trans h.2⟩
theorem kpS_b {n₀ Bs : Nat} {w : World} (hn : n₀ ≤ w.heap.size) (hB : Bs < w.heap.size) (W : World) (l : Nat) (o o' : Obj) (hl : w.heap.size ≤ l) (h : W.heap[l]? = some o) (h1 : o.isCells = false) (h2 : o.isWalk = false) : KpS n₀ Bs W (W.putObj l o') :=
  ⟨belowK_b hn W l o o' hl h h1 h2, (grownBy_putObj' W l o').block Bs (by have := (Array.getElem?_eq_some_iff.1 h).1; omega) (fun e => by cases e; omega)⟩
end Go.Proofs.Ytdhmijjphgcdmaa
