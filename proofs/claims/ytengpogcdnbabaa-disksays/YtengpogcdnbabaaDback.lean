/-
  slices.Backward at puts: what the iterator gives: the puts, the last one first.
-/
import Derived.Test.YtengpogcdnbabaaDbox
namespace Go.Proofs.Ytengpogcdnbabaa
open Go.RowKit Go.Shelf
attribute [local go_sem] Oper.semAt_some

/-- the first j of the puts from the back, each with its place in the list -/
def backTo (ps : List Pt) (j : Nat) : List (Nat × Pt) := (List.range j).map fun i => (ps.length - 1 - i, ps.getD (ps.length - 1 - i) ⟨0, zB⟩)
theorem backTo_succ (ps : List Pt) (j : Nat) : backTo ps (j + 1) = backTo ps j ++ [(ps.length - 1 - j, ps.getD (ps.length - 1 - j) ⟨0, zB⟩)] := by simp [backTo, List.range_succ]
theorem backTo_len (ps : List Pt) (j : Nat) : (backTo ps j).length = j := by simp [backTo]

def encB (x : Nat × Pt) : Array Value := #[.int .i64 (x.1 : Int), .agg #[.int .i64 x.2.at_, .int .u8 x.2.d.z0, .int .u8 x.2.d.z1, .int .u8 x.2.d.z2, .int .u8 x.2.d.z3, .int .u8 x.2.d.z4, .int .u8 x.2.d.z5, .int .u8 x.2.d.z6, .int .u8 x.2.d.z7]]

set_option maxRecDepth 100000 in
set_option maxHeartbeats 1000000 in
theorem back_in (n : Nat) (hn : 1 ≤ n) (l Bs n₀ cap m : Nat) (pa : Option Addr) (ps : List Pt) (hm : m ≤ 1000) (J Jx : List (Nat × Pt) → World → Prop)
    (W : World) (_hn₀ : n₀ ≤ W.heap.size) (_hBn : Bs < W.heap.size) (_hJ : AbidesFrom W.heap.size J)
    (hY : ∀ pre x W, J pre W → pre.length < m → YieldAt Fence.wide (n - 1) Try.prog l (encB x) W fun e W' =>
      (e = .returned (.bool true) ∧ J (pre ++ [x]) W' ∧ KpS n₀ Bs W W') ∨ (e = .returned (.bool false) ∧ Jx (pre ++ [x]) W'))
    (hBs : W.cell? ⟨Bs, 0, none⟩ = some (.slice pa m cap)) (w0 : World) (hw0 : w0.heap.size ≤ n₀) (hp0 : PL w0 pa m ps) (hW0 : Below w0.heap.size w0 W) (h0 : J [] W) :
    CallsIn Fence.wide n Try.prog 106 #[.func (.yield l) #[] #[], .pointer (some ⟨Bs, 0, none⟩)] W fun e W' => (∃ v, e = .returned v) ∧
      ((∃ ys, ys = backTo ps m ∧ J ys W') ∨ (∃ pre, (∃ k, k ≤ m ∧ pre = backTo ps k) ∧ Jx pre W')) := by
  have HP := hide hp0
  have HPL := hide hp0.1
  have HW0 := hide hW0
  clear hp0 hW0
  refine callsIn_of_wp Try.func106 rfl trivial ?_ rfl
  simp only [Try.ntmps106, List.size_toArray, List.length_cons, List.length_nil, Nat.reduceAdd, Nat.reduceSub, Array.replicate_succ, Array.replicate_zero, List.push_toArray, List.append_toArray, List.nil_append, List.cons_append]
  gi_wp2
  gi_loopw [3] (fun i wr => ∃ k : Nat, k ≤ m ∧ i = .int .i64 ((m : Int) - 1 - (k : Int)) ∧ J (backTo ps k) wr ∧ Below n₀ W wr ∧ wr.heap[Bs]? = W.heap[Bs]?)
    (fun i _ => (intOf i + 1).toNat)
  case atStart => exact ⟨0, Nat.zero_le _, by simp, h0, Below.refl _ _, rfl⟩
  case round =>
    obtain ⟨k, hk, rfl, hJs, hnx, hbs⟩ := hrel
    have HBS := hide hbs
    have hbx : wr.cell? ⟨Bs, 0, none⟩ = some (.slice pa m cap) := (World.cell?_of_block (w := W) (a := ⟨Bs, 0, none⟩) hbs).trans hBs
    clear hbs
    by_cases hlt : k < m
    · obtain ⟨i, hi⟩ : ∃ i : Nat, i + 1 + k = m := ⟨m - 1 - k, by omega⟩
      have hie : (m : Int) - 1 - (k : Int) = (i : Int) := by omega
      have HB0 := hide (HW0.out.trans (hnx.mono hw0))
      obtain ⟨b, off, p, hpa, hb, hx, e0, e1, e2, e3, e4, e5, e6, e7, e8⟩ := (HP.out.later HB0.out).at_ i (by omega)
      subst hpa
      have HX := hide (show backTo ps (k + 1) = backTo ps k ++ [(i, p)] by
        rw [backTo_succ, HPL.out, show m - 1 - k = i by omega, List.getD_eq_getElem?_getD, hx]
        rfl)
      clear hx
      rw [hie]
      have hi0 : (0 : Int) ≤ (i : Int) := by omega
      have him : (i : Int) < (m : Int) := by omega
      obtain ⟨fn, tmps, assign, body, hy, hR⟩ := hY (backTo ps k) (i, p) wr hJs (by rw [backTo_len]; exact hlt)
      unfold encB at hy
      gi_wp2
      refine hR.mono ?_
      rintro e W3 (⟨rfl, hJ3, hk3⟩ | ⟨rfl, hJx3⟩)
      · gi_wp2
        go_roundw
        case rel => exact ⟨k + 1, by omega, congrArg (Value.int .i64) (by omega), by rw [HX.out]; exact hJ3, hnx.trans hk3.1, hk3.2.trans HBS.out⟩
        case measure => simp [intOf]
      · gi_wp2
        refine bodyPost_ret (results_none rfl _ _ _) rfl ?_
        exact ⟨⟨_, rfl⟩, .inr ⟨_, ⟨k + 1, by omega, HX.out.symm⟩, hJx3⟩⟩
    · obtain rfl : k = m := by omega
      have hlast : (k : Int) - 1 - (k : Int) = -1 := by omega
      rw [hlast]
      gi_wp2
      go_end0
      exact ⟨⟨_, rfl⟩, .inl ⟨_, rfl, hJs⟩⟩

set_option maxHeartbeats 1000000 in
theorem backward_in (n : Nat) (a : Option Addr) (len cap : Nat) (w : World) :
    CallsIn Fence.wide n Try.prog 71 #[.slice a len cap] w fun e w' => e = .returned (.func (.func 106) #[] #[.pointer (some ⟨w.heap.size, 0, none⟩)]) ∧ w' = w.alloc (.cells #[.slice a len cap] 48) := by
  refine callsIn_of_wp Try.func71 rfl trivial ?_ rfl
  simp only [Try.ntmps71, List.size_toArray, List.length_cons, List.length_nil, Nat.reduceAdd, Nat.reduceSub, Array.replicate_succ, Array.replicate_zero, List.push_toArray, List.append_toArray, List.nil_append, List.cons_append]
  gi_wp2
  go_ret
  exact ⟨rfl, rfl⟩

theorem back_stops (n : Nat) (hn : 1 ≤ n) (Bs n₀ cap m : Nat) (pa : Option Addr) (ps : List Pt) (hm : m ≤ 1000) (w0 : World) (hw0 : w0.heap.size ≤ n₀) (hp0 : PL w0 pa m ps) (w : World) (hb0 : Below w0.heap.size w0 w) (hn₀ : n₀ ≤ w.heap.size) (hBn : Bs < w.heap.size)
    (hBs : w.cell? ⟨Bs, 0, none⟩ = some (.slice pa m cap)) :
    SeqStopsK Fence.wide n Try.prog 106 #[.pointer (some ⟨Bs, 0, none⟩)] encB (KpS n₀ Bs) (fun ys => ys = backTo ps m) (fun pre => ∃ k, k ≤ m ∧ pre = backTo ps k) m w := fun l J Jx W hW hJ _ hY h0 =>
  back_in n hn l Bs n₀ cap m pa ps hm J Jx W (Nat.le_trans hn₀ hW.size) (Nat.lt_of_lt_of_le hBn hW.size) hJ hY ((hW.cell (p := ⟨Bs, 0, none⟩) hBn).trans hBs) w0 hw0 hp0 (hb0.trans (hW.mono hb0.size)) h0
end Go.Proofs.Ytengpogcdnbabaa
