/-
  A new disk (New); what Crash tells of a disk that may not be.
-/
import Derived.Test.YtengpogcdnbabaaKc
import Derived.Laws.OwnMore
namespace Go.Proofs.Ytengpogcdnbabaa
open Go.RowKit

theorem made_zeros (N : Nat) : (madeCells #[Value.int .u8 0, .int .u8 0, .int .u8 0, .int .u8 0, .int .u8 0, .int .u8 0, .int .u8 0, .int .u8 0] N).toList = List.replicate N (Value.int .u8 0) := by
  rw [List.eq_replicate_iff]
  refine ⟨by simp [madeCells], fun b hb => ?_⟩
  simp only [madeCells, Array.toList_map, List.mem_map] at hb
  obtain ⟨i, _, rfl⟩ := hb
  have h8 : i % 8 = 0 ∨ i % 8 = 1 ∨ i % 8 = 2 ∨ i % 8 = 3 ∨ i % 8 = 4 ∨ i % 8 = 5 ∨ i % 8 = 6 ∨ i % 8 = 7 := by omega
  show #[Value.int .u8 0, .int .u8 0, .int .u8 0, .int .u8 0, .int .u8 0, .int .u8 0, .int .u8 0, .int .u8 0][i % 8]! = _
  rcases h8 with h | h | h | h | h | h | h | h <;> rw [h] <;> rfl
theorem flatB_zeros (n : Nat) : flatB (List.replicate n zB) = List.replicate (n * 8) (Value.int .u8 0) := by
  rw [List.eq_replicate_iff]
  refine ⟨by rw [flatB_len, List.length_replicate], fun b hb => ?_⟩
  obtain ⟨x, hx, hb⟩ := List.mem_flatMap.1 hb
  obtain rfl := List.eq_of_mem_replicate hx
  simpa [B8.cs, zB] using hb

/-- make of blocks: what it yields, in whatever world; the row of it -/
theorem make_blocks (n : Nat) (hn : n ≤ 1000) : ∃ C : Array Value, (∀ w : World, (Instr.makeSlice 23 (.int .i64 (n : Int)) (.int .i64 (n : Int))).run Try.prog w = .ok (.slice (some ⟨w.heap.size, 0, none⟩) n n) (w.alloc (.cells C 52))) ∧
    Hid (∀ (w : World) (base : Nat), base ≤ w.heap.size → OwnBL (w.alloc (.cells C 52)) base (.slice (some ⟨w.heap.size, 0, none⟩) n n) (List.replicate n zB)) := by
  obtain ⟨i0, hi, hz0, hz1, hz2⟩ := info_parts Try.info52
  refine ⟨madeCells #[Value.int .u8 0, .int .u8 0, .int .u8 0, .int .u8 0, .int .u8 0, .int .u8 0, .int .u8 0, .int .u8 0] (n * 8), fun w => ?_, fun w base hb => ?_⟩
  · have h := run_makeSlice (P := Try.prog) w 23 52 i0 _ Try.underlying23 hi hz0 .i64 .i64 (n : Int) (n : Int) (by omega) (Int.le_refl _) (by rw [hz1]; simp; omega) (by rw [hz2]; omega) (by omega)
    rw [hz1] at h
    simpa [Value.cells] using h
  · have h := World.ownsRow_lit (base := base) (e := 52) (size := 8) w (madeCells #[Value.int .u8 0, .int .u8 0, .int .u8 0, .int .u8 0, .int .u8 0, .int .u8 0, .int .u8 0, .int .u8 0] (n * 8)) n hb (by unfold maxLen; omega) (size_madeCells _ _)
    unfold OwnBL
    rw [List.length_replicate, flatB_zeros, ← made_zeros]
    exact h

set_option maxHeartbeats 1000000 in
set_option maxRecDepth 100000 in
theorem new_ok (n : Nat) (w : World) (h1 : (1 : Int) ≤ n) (h2 : (n : Int) ≤ 200) :
    Calls Try.prog 35 #[.int .i64 (n : Int)] w fun e w' =>
      ∃ a c, e = .returned (.tuple #[.agg #[.slice a n c, .slice none 0 0, .int .i64 (-1)], .nilIface]) ∧ Hid (BL w' a n (List.replicate n zB)) ∧ Hid (Below w.heap.size w w') := by
  obtain ⟨C, hC, HC⟩ := make_blocks n (by omega)
  have hd1 : decide ((n : Int) < 1) = false := by simp; omega
  have hd2 : decide ((200 : Int) < n) = false := by simp; omega
  go_enter Try.func35, Try.ntmps35
  go_wp2_with fail
  obtain ⟨r0, r1, r2⟩ := ((Bx.new w #[.slice (some ⟨w.heap.size + 1, 0, none⟩) n n, .slice none 0 0, .int .i64 (-1)] 50).alloc (.cells C 52)).three
  refine bodyPost_ret (v := .tuple #[.agg #[.slice (some ⟨w.heap.size + 1, 0, none⟩) n n, .slice none 0 0, .int .i64 (-1)], .nilIface]) (by simp [results, Try.results35, go_sem, r0, r1, r2]) rfl ⟨some ⟨w.heap.size + 1, 0, none⟩, n, rfl, ?_, (below_alloc _ _).alloc (by simp) _⟩
  have h := HC.out (w.alloc (.cells #[.slice (some ⟨w.heap.size + 1, 0, none⟩) n n, .slice none 0 0, .int .i64 (-1)] 50)) (w.heap.size + 1) (by simp)
  rw [World.size_alloc] at h
  exact h.asRow

set_option maxHeartbeats 1000000 in
set_option maxRecDepth 100000 in
theorem new_err (n : Int) (w : World) (h : n < 1 ∨ 200 < n) :
    Calls Try.prog 35 #[.int .i64 n] w fun e w' =>
      e = .returned (.tuple #[.agg #[.slice none 0 0, .slice none 0 0, .int .i64 0], .iface 26 (.int .i64 1)]) ∧ Below w.heap.size w w' := by
  by_cases h1 : n < 1
  · have hd1 : decide (n < 1) = true := by simpa using h1
    clear h
    go_enter Try.func35, Try.ntmps35
    go_wp2_with fail
    obtain ⟨r0, r1, r2⟩ := (Bx.new w #[.slice none 0 0, .slice none 0 0, .int .i64 0] 50).three
    exact bodyPost_ret (v := .tuple #[.agg #[.slice none 0 0, .slice none 0 0, .int .i64 0], .iface 26 (.int .i64 1)]) (by simp [results, Try.results35, go_sem, r0, r1, r2]) rfl ⟨rfl, below_alloc _ _⟩
  · have h2 : 200 < n := by omega
    have hd1 : decide (n < 1) = false := by simpa using h1
    have hd2 : decide (200 < n) = true := by simpa using h2
    clear h
    go_enter Try.func35, Try.ntmps35
    go_wp2_with fail
    obtain ⟨r0, r1, r2⟩ := (Bx.new w #[.slice none 0 0, .slice none 0 0, .int .i64 0] 50).three
    exact bodyPost_ret (v := .tuple #[.agg #[.slice none 0 0, .slice none 0 0, .int .i64 0], .iface 26 (.int .i64 1)]) (by simp [results, Try.results35, go_sem, r0, r1, r2]) rfl ⟨rfl, below_alloc _ _⟩

set_option maxHeartbeats 2000000 in
set_option maxRecDepth 100000 in
theorem crash_err (sa pa ba : Option Addr) (n sc m pc nb bc : Nat) (left : Int) (ps : List Pt) (w : World) (hn : n ≤ maxLen) (hp : PL w pa m ps) (hm : ¬ Mx.dmay n ps = 0) :
    Calls Try.prog 34 #[.agg #[.slice sa n sc, .slice pa m pc, .int .i64 left], .slice ba nb bc] w fun e w' =>
      e = .returned (.tuple #[.agg #[.slice none 0 0, .slice none 0 0, .int .i64 0], errV (Mx.dmay n ps)]) ∧ Below w.heap.size w w' := by
  have HP := hide hp
  have HM := hide hm
  have HNN := hide hn
  clear hp hm hn
  go_enter Try.func34, Try.ntmps34
  go_wp2_with fail
  refine (dcheck_any sa pa n sc m pc left ps _ (HP.out.later ((below_alloc _ _).alloc (by simp) _)) HNN.out).mono ?_
  rintro e w1 ⟨rfl, hb1⟩
  have HBD := hide (show Bx w1 w.heap.size #[.slice sa n sc, .slice pa m pc, .int .i64 left] 50 from ((Bx.new w _ 50).alloc _).later hb1 (by simp; omega))
  have HBR := hide (show Bx w1 (w.heap.size + 1) #[.slice none 0 0, .slice none 0 0, .int .i64 0] 50 from by
    have h := (Bx.new (w.alloc (.cells #[.slice sa n sc, .slice pa m pc, .int .i64 left] 50)) #[.slice none 0 0, .slice none 0 0, .int .i64 0] 50).later hb1 (by simp)
    rw [World.size_alloc] at h
    exact h)
  have HBel := hide (((below_alloc w (.cells #[.slice sa n sc, .slice pa m pc, .int .i64 left] 50)).alloc (by simp) _).trans (hb1.mono (by simp; omega)))
  clear hb1
  obtain ⟨f0, f1, f2⟩ := HBD.out.three
  obtain ⟨e0, e1, e2⟩ := HBR.out.three
  have ez := HBR.out.frozen
  obtain ⟨r0, r1, r2⟩ := (show Bx _ _ #[.slice none 0 0, .slice none 0 0, .int .i64 0] 50 from (((HBR.out.set 0 (.slice none 0 0)).set 1 (.slice none 0 0)).set 2 (.int .i64 0))).three
  have HBF := hide (((HBel.out.setCell (p := ⟨w.heap.size + 1, 0, none⟩) (by simp) (.slice none 0 0)).setCell (p := ⟨w.heap.size + 1, 1, none⟩) (by simp) (.slice none 0 0)).setCell (p := ⟨w.heap.size + 1, 2, none⟩) (by simp) (.int .i64 0))
  rw [errV_not HM.out]
  go_wp2_with fail
  exact bodyPost_ret (v := .tuple #[.agg #[.slice none 0 0, .slice none 0 0, .int .i64 0], .iface 26 (.int .i64 (Mx.dmay n ps))]) (by simp [results, Try.results34, go_sem, r0, r1, r2]) rfl ⟨by rw [errV_not HM.out], HBF.out⟩

end Go.Proofs.Ytengpogcdnbabaa
