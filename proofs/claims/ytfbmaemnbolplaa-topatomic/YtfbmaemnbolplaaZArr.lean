/-
  Arrays of bytes compared whole.
-/
import Derived.ChangeKeysEq
import Derived.Test.YtfbmaemnbolplaaZIs

namespace Go.Proofs.Ytfbmaemnbolplaa
open Go.RowKit

theorem all_getD (n : Nat) (xs ys : List Int) (hx : xs.length = n) (hy : ys.length = n) : ((List.range n).all fun i => xs.getD i 0 == ys.getD i 0) = decide (xs = ys) := by
  rw [Bool.eq_iff_iff]
  simp only [List.all_eq_true, List.mem_range, beq_iff_eq, decide_eq_true_eq]
  constructor
  · intro h
    apply List.ext_getElem (by omega)
    intro i h1 h2
    have := h i (by omega)
    rw [List.getD_eq_getElem?_getD, List.getD_eq_getElem?_getD, List.getElem?_eq_getElem h1, List.getElem?_eq_getElem h2] at this
    simpa using this
  · rintro rfl i _
    rfl

section
variable {P : Program} (w : World)

theorem run_eqItems_bytes (d : Nat) {e : TypeId} (he : P.underlying e = some (.int .u8)) (xs ys : List Int) (is : List Nat) (h : ∀ i ∈ is, i < xs.length ∧ i < ys.length) :
    (Op.eqItems (d + 1) e 1 (xs.map (Value.int .u8)).toArray (ys.map (Value.int .u8)).toArray is).run P w = .ok (is.all fun i => xs.getD i 0 == ys.getD i 0) w := by
  induction is with
  | nil => simp [Op.eqItems]
  | cons i is ih =>
    obtain ⟨h1, h2⟩ := h i (by simp)
    have px : (part e (xs.map (Value.int .u8)).toArray (i * 1)).run P w = .ok (.int .u8 (xs.getD i 0)) w := by
      simp [part, isAgg, run_underlying he, List.getD_eq_getElem?_getD, List.getElem?_eq_getElem h1]
    have py : (part e (ys.map (Value.int .u8)).toArray (i * 1)).run P w = .ok (.int .u8 (ys.getD i 0)) w := by
      simp [part, isAgg, run_underlying he, List.getD_eq_getElem?_getD, List.getElem?_eq_getElem h2]
    simp only [Op.eqItems, Sem.run_bind, px, py, Result.andThen_ok, run_equalIn_int w d e .u8 .u8 _ _ he, List.all_cons]
    cases hb : (xs.getD i 0 == ys.getD i 0)
    · simp
    · simp only [Bool.not_true, Bool.false_eq_true, if_false, Bool.true_and]
      exact ih fun j hj => h j (by simp [hj])

theorem run_equal_bytes (t e : TypeId) (n : Nat) (i : TypeInfo) (ht : P.underlying t = some (.array n e)) (he : P.underlying e = some (.int .u8)) (hi : P.info? e = some i) (hc : P.cellsOf e = 1) (xs ys : List Int) (hx : xs.length = n) (hy : ys.length = n) :
    (Op.equal t (.agg (xs.map (Value.int .u8)).toArray) (.agg (ys.map (Value.int .u8)).toArray)).run P w = .ok (decide (xs = ys)) w := by
  unfold Op.equal Op.maxDepth
  rw [run_equalIn_array w 9999 _ _ ht hi, hc, run_eqItems_bytes w 9998 he xs ys _ (fun i hi => by have := List.mem_range.1 hi; omega), all_getD n xs ys hx hy]

theorem run_neq_bytes (t e : TypeId) (n : Nat) (i : TypeInfo) (ht : P.underlying t = some (.array n e)) (he : P.underlying e = some (.int .u8)) (hi : P.info? e = some i) (hc : P.cellsOf e = 1) (xs ys : List Int) (hx : xs.length = n) (hy : ys.length = n) :
    (binOp .neq t (.agg (xs.map (Value.int .u8)).toArray) (.agg (ys.map (Value.int .u8)).toArray)).run P w = .ok (.bool (!decide (xs = ys))) w := by
  have h := run_equal_bytes w t e n i ht he hi hc xs ys hx hy
  simp only [binOp]
  simp [h]
end

theorem Try.cellsOf5 : Try.prog.cellsOf 5 = 1 := by kernel_rfl

theorem equal_block (z0 z1 z2 z3 z4 z5 z6 z7 y0 y1 y2 y3 y4 y5 y6 y7 : Int) (W : World) :
    (Op.equalIn 10000 38 (.agg #[.int .u8 z0, .int .u8 z1, .int .u8 z2, .int .u8 z3, .int .u8 z4, .int .u8 z5, .int .u8 z6, .int .u8 z7]) (.agg #[.int .u8 y0, .int .u8 y1, .int .u8 y2, .int .u8 y3, .int .u8 y4, .int .u8 y5, .int .u8 y6, .int .u8 y7])).run Try.prog W = .ok (decide ([z0, z1, z2, z3, z4, z5, z6, z7] = [y0, y1, y2, y3, y4, y5, y6, y7])) W := by
  obtain ⟨i0, hi, _⟩ := info_parts Try.info5
  exact run_equal_bytes W 38 5 8 i0 Try.underlying38 Try.underlying5 hi Try.cellsOf5 [z0, z1, z2, z3, z4, z5, z6, z7] [y0, y1, y2, y3, y4, y5, y6, y7] rfl rfl

theorem take8_eq_all {l1 l2 : List Int} {n k : Nat} (h1 : l1.length = 8 * n) (h2 : l2.length = 8 * n) (h : l1.take (8 * k) = l2.take (8 * k)) (hk : n ≤ k) : l1 = l2 := by
  rw [← List.take_of_length_le (l := l1) (i := 8 * k) (by omega), ← List.take_of_length_le (l := l2) (i := 8 * k) (by omega), h]

set_option maxHeartbeats 1000000 in
set_option maxRecDepth 100000 in
theorem sameBlocks_gen (a1 a2 : Option Addr) (n1 c1 n2 c2 : Nat) (l1 l2 : List Int) (w : World) (h1 : Blks w a1 n1 l1) (h2 : Blks w a2 n2 l2) :
    Calls Try.prog 23 #[.slice a1 n1 c1, .slice a2 n2 c2] w fun e w' => ∃ r : Bool, e = .returned (.bool r) ∧ (r = true ↔ l1 = l2) ∧ ∃ n, w' = w.drewN n := by
  have hlen : n1 ≤ maxLen := h1.2.1
  have hlen2 : n2 ≤ maxLen := h2.2.1
  unfold maxLen at hlen hlen2
  have H1 := hide h1
  have H2 := hide h2
  clear h1 h2
  by_cases hn : n1 = n2
  · subst hn
    go_enter Try.func23, Try.ntmps23
    go_wp2
    go_loopw [5] (fun i wr => ∃ k : Nat, k ≤ n1 ∧ i = .int .i64 k ∧ Hid (l1.take (8 * k) = l2.take (8 * k)) ∧ ∃ n, wr = w.drewN n) (fun i _ => n1 - (intOf i).toNat)
    case atStart => exact ⟨0, by omega, rfl, rfl, 0, rfl⟩
    case round =>
      obtain ⟨k, hk, rfl, hE, n, rfl⟩ := hrel
      by_cases hlt : k < n1
      · obtain ⟨b, off, rfl, _, hcs⟩ := H1.out.2.2.2 (by omega)
        obtain ⟨z0, z1, z2, z3, z4, z5, z6, z7, e0, e1, e2, e3, e4, e5, e6, e7, htk⟩ := eight (w := w) (b := b) (off := off) l1 n1 k H1.out.1 hlt hcs
        obtain ⟨b', off', rfl, _, hcs'⟩ := H2.out.2.2.2 (by omega)
        obtain ⟨y0, y1, y2, y3, y4, y5, y6, y7, f0, f1, f2, f3, f4, f5, f6, f7, htk'⟩ := eight (w := w) (b := b') (off := off') l2 n1 k H2.out.1 hlt hcs'
        have HT := hide htk
        have HT' := hide htk'
        clear htk htk' hcs hcs'
        have heq := equal_block z0 z1 z2 z3 z4 z5 z6 z7 y0 y1 y2 y3 y4 y5 y6 y7
        by_cases hcc : [z0, z1, z2, z3, z4, z5, z6, z7] = [y0, y1, y2, y3, y4, y5, y6, y7]
        · have HC := hide hcc
          rw [decide_eq_true hcc] at heq
          clear hcc
          go_wp2_with fail
          go_quiet (fail)
          go_wp2
          go_roundw
          case rel => exact ⟨k + 1, by omega, by go_num, by unfold Hid; rw [HT.out, HT'.out, hE.out, HC.out], _, rfl⟩
          case measure => simp [intOf]; omega
        · have HF := hide (show ¬ l1 = l2 by
            intro e
            have h3 := HT.out
            rw [e, HT'.out] at h3
            exact hcc (List.append_inj' h3 rfl).2.symm)
          rw [decide_eq_false hcc] at heq
          clear hcc
          go_wp2_with fail
          go_quiet (fail)
          go_wp2
          go_ret
          exact ⟨false, rfl, ⟨fun h => by simp at h, fun h => absurd h HF.out⟩, _, by rw [World.drewN_drewN]⟩
      · have HF := hide (take8_eq_all H1.out.1 H2.out.1 hE.out (by omega))
        go_wp2
        go_ret
        exact ⟨true, rfl, ⟨fun _ => HF.out, fun _ => rfl⟩, _, rfl⟩
  · have hne : ((n1 : Int) != (n2 : Int)) = true := by simp; omega
    have HF := hide (show ¬ l1 = l2 by
      intro e
      have h3 := H1.out.1
      rw [e, H2.out.1] at h3
      omega)
    clear hn
    go_enter Try.func23, Try.ntmps23
    go_wp2
    go_ret
    exact ⟨false, rfl, ⟨fun h => by simp at h, fun h => absurd h HF.out⟩, 0, rfl⟩
end Go.Proofs.Ytfbmaemnbolplaa
