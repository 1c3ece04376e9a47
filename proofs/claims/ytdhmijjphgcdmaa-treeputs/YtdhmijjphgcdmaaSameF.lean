/-
  Two frames that are the same (SameFrame); the sum at the end of bytes (readSeal).
-/
import Derived.Test.YtdhmijjphgcdmaaArr
import Derived.Deep.WholeRow
namespace Go.Proofs.Ytdhmijjphgcdmaa
open Go.RowKit

theorem sameInts_true (a1 a2 : Option Addr) (n1 c1 n2 c2 : Nat) (l : List Int) (w : World) (h1 : Ints w a1 n1 l) (h2 : Ints w a2 n2 l) :
    Calls Try.prog 54 #[.slice a1 n1 c1, .slice a2 n2 c2] w fun e w' => e = .returned (.bool true) ∧ ∃ n, w' = w.drewN n := by
  refine (sameInts_gen a1 a2 n1 c1 n2 c2 l l w h1 h2).mono ?_
  rintro e w' ⟨r, rfl, hr, hn⟩
  exact ⟨by rw [hr.2 rfl], hn⟩

theorem sameBlocks_true (a1 a2 : Option Addr) (n1 c1 n2 c2 : Nat) (l : List Int) (w : World) (h1 : Blks w a1 n1 l) (h2 : Blks w a2 n2 l) :
    Calls Try.prog 63 #[.slice a1 n1 c1, .slice a2 n2 c2] w fun e w' => e = .returned (.bool true) ∧ ∃ n, w' = w.drewN n := by
  refine (sameBlocks_gen a1 a2 n1 c1 n2 c2 l l w h1 h2).mono ?_
  rintro e w' ⟨r, rfl, hr, hn⟩
  exact ⟨by rw [hr.2 rfl], hn⟩

set_option maxHeartbeats 1000000 in
set_option maxRecDepth 100000 in
theorem sameFrame_true (kind : Int) (a1 a2 a3 a4 : Option Addr) (n1 c1 n2 c2 n3 c3 n4 c4 : Nat) (l bs : List Int) (w : World) (h1 : Ints w a1 n1 l) (h2 : Blks w a2 n2 bs) (h3 : Ints w a3 n3 l) (h4 : Blks w a4 n4 bs) :
    Calls Try.prog 24 #[.agg #[.int .i64 kind, .slice a1 n1 c1, .slice a2 n2 c2], .agg #[.int .i64 kind, .slice a3 n3 c3, .slice a4 n4 c4]] w fun e w' => e = .returned (.bool true) ∧ Below w.heap.size w w' := by
  have H1 := hide h1
  have H2 := hide h2
  have H3 := hide h3
  have H4 := hide h4
  clear h1 h2 h3 h4
  have hkk : (kind == kind) = true := by simp
  go_enter Try.func24, Try.ntmps24
  go_wp2_with fail
  have hb := ((Below.refl w.heap.size w).alloc (Nat.le_refl _) (.cells #[.int .i64 kind, .slice a1 n1 c1, .slice a2 n2 c2] 25)).alloc (by simp) (.cells #[.int .i64 kind, .slice a3 n3 c3, .slice a4 n4 c4] 25)
  have HB := hide hb
  clear hb
  refine (sameInts_true a1 a3 n1 c1 n3 c3 l _ (H1.out.later HB.out) (H3.out.later HB.out)).mono ?_
  rintro e w1 ⟨rfl, nn, rfl⟩
  go_wp2_with fail
  refine (sameBlocks_true a2 a4 n2 c2 n4 c4 bs _ (H2.out.later (below_drewN HB.out nn)) (H4.out.later (below_drewN HB.out nn))).mono ?_
  rintro e w1 ⟨rfl, mm, rfl⟩
  go_wp2
  go_ret
  exact ⟨rfl, below_drewN HB.out _⟩

/-- copy of bytes over the whole of a new array -/
theorem copy_new (W : World) (g n sCap b off : Nat) (t : TypeId) (cur : Array Value) (news : List Int) (hg : g = W.heap.size) (hc : cur.size = n) (hn : news.length = n) (hb : b < W.heap.size) (hsrc : ∀ j, j < n → W.cell? ⟨b, off + j, none⟩ = some (.int .u8 (news.getD j 0))) :
    Sem.run Try.prog (Builtin.copy_ #[28, 28] 3 #[.slice (some ⟨g, 0, none⟩) n n, .slice (some ⟨b, off, none⟩) n sCap]) (W.alloc (.cells cur t)) = .ok (.int .i64 n) (W.alloc (.cells (news.map (Value.int .u8)).toArray t)) := by
  subst hg
  have h := run_copy_row (P := Try.prog) (W.alloc (.cells cur t)) 28 28 3 5 W.heap.size 0 n n ⟨b, off, none⟩ n sCap cur t (news.map (Value.int .u8)) Try.underlying28 (by kernel_rfl) (heap_alloc_new W _) (by simp [hn]) (by
      intro j v hj
      have hlt : j < news.length := by
        rcases Nat.lt_or_ge j news.length with h | h
        · exact h
        · rw [List.getElem?_eq_none (by simpa using h)] at hj; cases hj
      have hadd : (⟨b, off, none⟩ : Addr).add j = ⟨b, off + j, none⟩ := by unfold Addr.add; split <;> simp_all
      rw [hadd, World.cell?_alloc_lt _ _ _ hb, hsrc j (by omega)]
      rw [List.getElem?_map, List.getElem?_eq_getElem hlt] at hj
      rw [List.getD_eq_getElem?_getD, List.getElem?_eq_getElem hlt]
      exact hj) (by simp; omega) (by
      intro v hv
      obtain ⟨z, _, rfl⟩ := List.mem_map.1 hv
      rfl)
  rw [h, World.setRow_alloc_new]
  have e : cur.toList.drop (0 + (news.map (Value.int .u8)).length) = [] := List.drop_eq_nil_of_le (by simp; omega)
  rw [e]
  simp [goInt, hn]

/-- four bytes -/
theorem four {w : World} {b off : Nat} (l : List Int) (hl : l.length = 4) (hc : ∀ i, i < 4 → w.cell? ⟨b, off + i, none⟩ = some (.int .u8 (l.getD i 0))) :
    ∃ z0 z1 z2 z3 : Int, l = [z0, z1, z2, z3] ∧ w.cell? ⟨b, off, none⟩ = some (.int .u8 z0) ∧ w.cell? ⟨b, off + 1, none⟩ = some (.int .u8 z1) ∧ w.cell? ⟨b, off + 2, none⟩ = some (.int .u8 z2) ∧ w.cell? ⟨b, off + 3, none⟩ = some (.int .u8 z3) := by
  match l, hl with
  | [z0, z1, z2, z3], _ => exact ⟨z0, z1, z2, z3, rfl, hc 0 (by omega), hc 1 (by omega), hc 2 (by omega), hc 3 (by omega)⟩

set_option maxHeartbeats 1000000 in
set_option maxRecDepth 100000 in
theorem readSeal_any (b off cap : Nat) (l : List Int) (w : World) (hl : Bytes w (some ⟨b, off, none⟩) 4 l) :
    Calls Try.prog 67 #[.slice (some ⟨b, off, none⟩) 4 cap] w fun e w' => e = .returned (.agg (l.map (Value.int .u8)).toArray) ∧ Below w.heap.size w w' := by
  obtain ⟨z0, z1, z2, z3, rfl, e0, e1, e2, e3⟩ := four (w := w) (b := b) (off := off) l hl.1 (by
    obtain ⟨b', off', ha, hc⟩ := hl.2.2.2 (by omega)
    cases ha
    exact hc)
  clear hl
  have hcp : Sem.run Try.prog (Builtin.copy_ #[28, 28] 3 #[.slice (some ⟨w.heap.size + 1, 0, none⟩) 4 4, .slice (some ⟨b, off, none⟩) 4 cap])
      ((w.alloc (.cells #[.int .u8 0, .int .u8 0, .int .u8 0, .int .u8 0] 114)).alloc (.cells #[.int .u8 0, .int .u8 0, .int .u8 0, .int .u8 0] 114)) =
      .ok (.int .i64 4) ((w.alloc (.cells #[.int .u8 0, .int .u8 0, .int .u8 0, .int .u8 0] 114)).alloc (.cells #[.int .u8 z0, .int .u8 z1, .int .u8 z2, .int .u8 z3] 114)) := by
    have hb : b < w.heap.size := World.block_lt_of_cell? w _ e0
    exact copy_new (w.alloc (.cells #[.int .u8 0, .int .u8 0, .int .u8 0, .int .u8 0] 114)) (w.heap.size + 1) 4 cap b off 114 #[.int .u8 0, .int .u8 0, .int .u8 0, .int .u8 0] [z0, z1, z2, z3] (by simp) rfl rfl (by simp; exact Nat.lt_succ_of_lt hb) (by
      intro j hj
      rw [World.cell?_alloc_lt _ _ ⟨b, off + j, none⟩ hb]
      match j, hj with
      | 0, _ => exact e0
      | 1, _ => exact e1
      | 2, _ => exact e2
      | 3, _ => exact e3)
  go_enter Try.func67, Try.ntmps67
  go_wp2
  refine bodyPost_ret (v := .agg #[.int .u8 z0, .int .u8 z1, .int .u8 z2, .int .u8 z3]) (by simp [results, Try.results67, go_sem]) rfl ⟨rfl, ?_⟩
  exact ((Below.refl _ _).alloc (Nat.le_refl _) _).alloc (by simp) _
end Go.Proofs.Ytdhmijjphgcdmaa
