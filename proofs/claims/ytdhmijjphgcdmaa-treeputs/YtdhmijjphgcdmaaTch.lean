/-
  slices.Chunk at numbers of 64 bits, four at a time: what the iterator gives.
-/
import Derived.Test.YtdhmijjphgcdmaaTo
import Derived.Test.YtdhmijjphgcdmaaLoopB
import Derived.Test.YtdhmijjphgcdmaaDbox
namespace Go.Proofs.Ytdhmijjphgcdmaa
open Go.RowKit Go.Shelf
attribute [local go_sem] Oper.semAt_some

/-- a piece of a row: where it begins, how many it has -/
structure Ck (m : Nat) where
  s : Nat
  q : Nat
  ok : s + q ≤ m ∧ q ≤ 4
/-- the k-th piece; the first k -/
def ckAt (m k : Nat) : Ck m := ⟨min (k * 4) m, min 4 (m - min (k * 4) m), by omega, by omega⟩
def cksTo (m k : Nat) : List (Ck m) := (List.range k).map (ckAt m)
theorem cksTo_succ (m k : Nat) : cksTo m (k + 1) = cksTo m k ++ [ckAt m k] := by simp [cksTo, List.range_succ]
theorem cksTo_len (m k : Nat) : (cksTo m k).length = k := by simp [cksTo]
def encC (b off : Nat) {m : Nat} (x : Ck m) : Array Value := #[.slice (some ⟨b, off + x.s, none⟩) x.q x.q]

/-- what a round that goes on keeps: all below n₀, and the iterator's own boxes -/
def KpC (n₀ Bs Bn : Nat) (W W' : World) : Prop := Below n₀ W W' ∧ W'.heap[Bs]? = W.heap[Bs]? ∧ W'.heap[Bn]? = W.heap[Bn]?
theorem kpC_t {n₀ Bs Bn : Nat} {A B C : World} (h : KpC n₀ Bs Bn A B) (k : KpC n₀ Bs Bn B C) : KpC n₀ Bs Bn A C := ⟨h.1.trans k.1, k.2.1.trans h.2.1, k.2.2.trans h.2.2⟩
theorem kpC_b {n₀ Bs Bn : Nat} {w : World} (hn : n₀ ≤ w.heap.size) (hB : Bs < w.heap.size) (hB2 : Bn < w.heap.size) (W : World) (l : Nat) (o o' : Obj) (hl : w.heap.size ≤ l) (h : W.heap[l]? = some o) (h1 : o.isCells = false) (h2 : o.isWalk = false) : KpC n₀ Bs Bn W (W.putObj l o') :=
  ⟨(kpS_b hn hB W l o o' hl h h1 h2).1, (kpS_b hn hB W l o o' hl h h1 h2).2, (kpS_b hn hB2 W l o o' hl h h1 h2).2⟩

set_option maxRecDepth 100000 in
set_option maxHeartbeats 2000000 in
theorem chunk_in (n : Nat) (hn : 1 ≤ n) (l Bs Bn n₀ b off cap m : Nat) (hm : m ≤ 1000) (hcap : m ≤ cap) (J Jx : List (Ck m) → World → Prop)
    (W : World) (_hn₀ : n₀ ≤ W.heap.size) (hJ : AbidesFrom W.heap.size J)
    (hY : ∀ pre x W, J pre W → pre.length < (m + 3) / 4 → YieldAt Fence.wide (n - 1) Try.prog l (encC b off x) W fun e W' =>
      (e = .returned (.bool true) ∧ J (pre ++ [x]) W' ∧ KpC n₀ Bs Bn W W') ∨ (e = .returned (.bool false) ∧ Jx (pre ++ [x]) W'))
    (hBs : W.cell? ⟨Bs, 0, none⟩ = some (.slice (some ⟨b, off, none⟩) m cap)) (hBn : W.cell? ⟨Bn, 0, none⟩ = some (.int .i64 4)) (h0 : J [] W) :
    CallsIn Fence.wide n Try.prog 116 #[.func (.yield l) #[] #[], .pointer (some ⟨Bs, 0, none⟩), .pointer (some ⟨Bn, 0, none⟩)] W fun e W' => (∃ v, e = .returned v) ∧
      ((∃ ys, ys = cksTo m ((m + 3) / 4) ∧ J ys W') ∨ (∃ pre, (∃ k, k ≤ (m + 3) / 4 ∧ pre = cksTo m k) ∧ Jx pre W')) := by
  refine callsIn_of_wp Try.func116 rfl trivial ?_ rfl
  simp only [Try.ntmps116, List.size_toArray, List.length_cons, List.length_nil, Nat.reduceAdd, Nat.reduceSub, Array.replicate_succ, Array.replicate_zero, List.push_toArray, List.append_toArray, List.nil_append, List.cons_append]
  gi_wp2
  gi_loopw [4] (fun i wr => ∃ (k I : Nat), Hid (I = k * 4) ∧ Hid (k ≤ (m + 3) / 4) ∧ I ≤ m + 3 ∧ i = .int .i64 (I : Int) ∧ J (cksTo m k) wr ∧ Below n₀ W wr ∧ wr.heap[Bs]? = W.heap[Bs]? ∧ wr.heap[Bn]? = W.heap[Bn]?)
    (fun i _ => m + 4 - (intOf i).toNat)
  case atStart => exact ⟨0, 0, rfl, Nat.zero_le _, by omega, rfl, h0, Below.refl _ _, rfl, rfl⟩
  case round =>
    obtain ⟨k, I, hI, hkN, hIm, rfl, hJs, hnx, hbs, hbn⟩ := hrel
    have HBS := hide hbs
    have HBN := hide hbn
    have hbx : wr.cell? ⟨Bs, 0, none⟩ = some (.slice (some ⟨b, off, none⟩) m cap) := (World.cell?_of_block (w := W) (a := ⟨Bs, 0, none⟩) hbs).trans hBs
    have hby : wr.cell? ⟨Bn, 0, none⟩ = some (.int .i64 4) := (World.cell?_of_block (w := W) (a := ⟨Bn, 0, none⟩) hbn).trans hBn
    clear hbs hbn
    by_cases hlt : (I : Int) < m
    · have hI2 : (I : Int) ≤ cap := by omega
      have hI3 : (I : Int) ≤ m := by omega
      obtain ⟨x, hx⟩ : ∃ x : Ck m, Hid (x = ckAt m k) := ⟨_, rfl⟩
      by_cases h4 : (4 : Int) ≤ (m : Int) - I
      · have hxs : x.s = I ∧ x.q = 4 := by
          have h1 := hI.out
          rw [hx.out]
          constructor
          · show min (k * 4) m = I
            omega
          · show min 4 (m - min (k * 4) m) = 4
            omega
        obtain ⟨W1, hW1⟩ : ∃ W1 : World, W1 = wr.drew := ⟨_, rfl⟩
        have hg1 : wr.grownBy W1 none := by
          rw [hW1]
          exact ⟨rfl, rfl, rfl, Nat.le_refl _, fun i hi _ => rfl⟩
        obtain ⟨fn, tmps, assign, body, hy, hR⟩ := hY (cksTo m k) x W1 (hJ _ wr W1 none hJs hg1 (fun r h => by cases h)) (by rw [cksTo_len]; have := hI.out; omega)
        unfold encC at hy
        rw [hxs.1, hxs.2] at hy
        rw [hW1] at hy hR
        have hc4 : (I : Int) + 4 ≤ cap := by omega
        have e44 : I + 4 - I = 4 := by omega
        gi_wp2
        gi_region
        gi_wp2_with fail
        refine hR.mono ?_
        have HX := hide (show cksTo m (k + 1) = cksTo m k ++ [x] by rw [cksTo_succ, hx.out])
        have HK := hide (show k + 1 ≤ (m + 3) / 4 by have := hI.out; omega)
        rintro e W3 (⟨rfl, hJ3, hk3⟩ | ⟨rfl, hJx3⟩)
        · rw [← HX.out] at hJ3
          have HB3 := hide (show Below n₀ W W3 from hnx.drew.trans hk3.1)
          have HS3 := hide (show W3.heap[Bs]? = W.heap[Bs]? from hk3.2.1.trans HBS.out)
          have HN3 := hide (show W3.heap[Bn]? = W.heap[Bn]? from hk3.2.2.trans HBN.out)
          have hby3 : W3.cell? ⟨Bn, 0, none⟩ = some (.int .i64 4) := (World.cell?_of_block (w := W) (a := ⟨Bn, 0, none⟩) HN3.out).trans hBn
          clear hk3
          gi_wp2_with fail
          go_roundw
          case rel => exact ⟨k + 1, I + 4, by have := hI.out; unfold Hid; omega, HK, by omega, by go_num, hJ3, HB3.out, HS3.out, HN3.out⟩
          case measure => simp [intOf]; omega
        · rw [← HX.out] at hJx3
          gi_wp2
          refine bodyPost_ret (results_none rfl _ _ _) rfl ?_
          refine ⟨⟨_, rfl⟩, .inr ?_⟩
          first
            | exact ⟨_, ⟨k + 1, HK.out, rfl⟩, hJx3⟩
            | exact ⟨k + 1, HK.out, hJx3⟩
      · obtain ⟨d, hd⟩ : ∃ d : Nat, m - I = d := ⟨_, rfl⟩
        have hd0 : (I : Int) + d = m := by omega
        have hxs : x.s = I ∧ x.q = d := by
          have h1 := hI.out
          rw [hx.out]
          constructor
          · show min (k * 4) m = I
            omega
          · show min 4 (m - min (k * 4) m) = d
            omega
        obtain ⟨W1, hW1⟩ : ∃ W1 : World, W1 = wr.drew := ⟨_, rfl⟩
        have hg1 : wr.grownBy W1 none := by
          rw [hW1]
          exact ⟨rfl, rfl, rfl, Nat.le_refl _, fun i hi _ => rfl⟩
        obtain ⟨fn, tmps, assign, body, hy, hR⟩ := hY (cksTo m k) x W1 (hJ _ wr W1 none hJs hg1 (fun r h => by cases h)) (by rw [cksTo_len]; have := hI.out; omega)
        unfold encC at hy
        rw [hxs.1, hxs.2] at hy
        rw [hW1] at hy hR
        have hc4 : (I : Int) + d ≤ cap := by omega
        have hd4 : (d : Int) < 4 := by omega
        have hd1 : (0 : Int) < d := by omega
        have e44 : I + d - I = d := by omega
        gi_wp2
        gi_region
        gi_wp2_with fail
        refine hR.mono ?_
        have HX := hide (show cksTo m (k + 1) = cksTo m k ++ [x] by rw [cksTo_succ, hx.out])
        have HK := hide (show k + 1 ≤ (m + 3) / 4 by have := hI.out; omega)
        rintro e W3 (⟨rfl, hJ3, hk3⟩ | ⟨rfl, hJx3⟩)
        · rw [← HX.out] at hJ3
          have HB3 := hide (show Below n₀ W W3 from hnx.drew.trans hk3.1)
          have HS3 := hide (show W3.heap[Bs]? = W.heap[Bs]? from hk3.2.1.trans HBS.out)
          have HN3 := hide (show W3.heap[Bn]? = W.heap[Bn]? from hk3.2.2.trans HBN.out)
          have hby3 : W3.cell? ⟨Bn, 0, none⟩ = some (.int .i64 4) := (World.cell?_of_block (w := W) (a := ⟨Bn, 0, none⟩) HN3.out).trans hBn
          clear hk3
          gi_wp2_with fail
          go_roundw
          case rel => exact ⟨k + 1, I + 4, by have := hI.out; unfold Hid; omega, HK, by omega, by go_num, hJ3, HB3.out, HS3.out, HN3.out⟩
          case measure => simp [intOf]; omega
        · rw [← HX.out] at hJx3
          gi_wp2
          refine bodyPost_ret (results_none rfl _ _ _) rfl ?_
          refine ⟨⟨_, rfl⟩, .inr ?_⟩
          first
            | exact ⟨_, ⟨k + 1, HK.out, rfl⟩, hJx3⟩
            | exact ⟨k + 1, HK.out, hJx3⟩
    · have HE := hide (show k = (m + 3) / 4 by have := hI.out; have := hkN.out; omega)
      gi_wp2
      go_end0
      have hJe : J (cksTo m ((m + 3) / 4)) wr := by rw [← HE.out]; exact hJs
      refine ⟨⟨_, rfl⟩, .inl ?_⟩
      first
        | exact hJe
        | exact ⟨_, rfl, hJe⟩

set_option maxHeartbeats 1000000 in
theorem chunkOf_in (n : Nat) (a : Option Addr) (len cap : Nat) (w : World) :
    CallsIn Fence.wide n Try.prog 114 #[.slice a len cap, .int .i64 4] w fun e w' => e = .returned (.func (.func 116) #[] #[.pointer (some ⟨w.heap.size, 0, none⟩), .pointer (some ⟨w.heap.size + 1, 0, none⟩)]) ∧ w' = (w.alloc (.cells #[.slice a len cap] 92)).alloc (.cells #[.int .i64 4] 3) := by
  refine callsIn_of_wp Try.func114 rfl trivial ?_ rfl
  simp only [Try.ntmps114, List.size_toArray, List.length_cons, List.length_nil, Nat.reduceAdd, Nat.reduceSub, Array.replicate_succ, Array.replicate_zero, List.push_toArray, List.append_toArray, List.nil_append, List.cons_append]
  gi_wp2
  go_ret
  exact ⟨rfl, rfl⟩

theorem chunk_stops (n : Nat) (hn : 1 ≤ n) (Bs Bn n₀ b off cap m : Nat) (hm : m ≤ 1000) (hcap : m ≤ cap) (w : World) (hn₀ : n₀ ≤ w.heap.size) (hBsl : Bs < w.heap.size) (hBnl : Bn < w.heap.size)
    (hBs : w.cell? ⟨Bs, 0, none⟩ = some (.slice (some ⟨b, off, none⟩) m cap)) (hBn : w.cell? ⟨Bn, 0, none⟩ = some (.int .i64 4)) :
    SeqStopsK Fence.wide n Try.prog 116 #[.pointer (some ⟨Bs, 0, none⟩), .pointer (some ⟨Bn, 0, none⟩)] (encC b off (m := m)) (KpC n₀ Bs Bn) (fun ys => ys = cksTo m ((m + 3) / 4)) (fun pre => ∃ k, k ≤ (m + 3) / 4 ∧ pre = cksTo m k) ((m + 3) / 4) w := fun l J Jx W hW hJ _ hY h0 =>
  chunk_in n hn l Bs Bn n₀ b off cap m hm hcap J Jx W (Nat.le_trans hn₀ hW.size) hJ hY ((hW.cell (p := ⟨Bs, 0, none⟩) hBsl).trans hBs) ((hW.cell (p := ⟨Bn, 0, none⟩) hBnl).trans hBn) h0

end Go.Proofs.Ytdhmijjphgcdmaa
