/-
  A new disk (New); what Crash tells of a disk that may not be.
-/
import Derived.Laws.OwnMore
import Derived.Test.YtfbmaemnbolplaaZKc
import Derived.Test.YtfbmaemnbolplaaZMkb

namespace Go.Proofs.Ytfbmaemnbolplaa
open Go.RowKit

set_option maxHeartbeats 1000000 in
set_option maxRecDepth 100000 in
theorem new_own (n : Nat) (w : World) (h1 : (1 : Int) ≤ n) (h2 : (n : Int) ≤ 200) :
    Calls Try.prog 19 #[.int .i64 (n : Int)] w fun e w' =>
      ∃ a c, e = .returned (.tuple #[.agg #[.slice a n c, .slice none 0 0, .int .i64 (-1)], .nilIface]) ∧ Hid (BL w' a n (List.replicate n zB)) ∧ Hid (∀ p, a = some p → w.heap.size ≤ p.block) ∧ Hid (Below w.heap.size w w') := by
  obtain ⟨C, hC, HC⟩ := make_blocks n (by omega)
  have hd1 : decide ((n : Int) < 1) = false := by simp; omega
  have hd2 : decide ((200 : Int) < n) = false := by simp; omega
  go_enter Try.func19, Try.ntmps19
  go_wp2_with fail
  obtain ⟨r0, r1, r2⟩ := ((Bx.new w #[.slice (some ⟨w.heap.size + 1, 0, none⟩) n n, .slice none 0 0, .int .i64 (-1)] 29).alloc (.cells C 38)).three
  refine bodyPost_ret (v := .tuple #[.agg #[.slice (some ⟨w.heap.size + 1, 0, none⟩) n n, .slice none 0 0, .int .i64 (-1)], .nilIface]) (by simp [results, Try.results19, go_sem, r0, r1, r2]) rfl ⟨some ⟨w.heap.size + 1, 0, none⟩, n, rfl, ?_, (fun p hp => by cases hp; show w.heap.size ≤ w.heap.size + 1; omega), (below_alloc _ _).alloc (by simp) _⟩
  have h := HC.out (w.alloc (.cells #[.slice (some ⟨w.heap.size + 1, 0, none⟩) n n, .slice none 0 0, .int .i64 (-1)] 29)) (w.heap.size + 1) (by simp)
  rw [World.size_alloc] at h
  exact h.asRow

theorem new_ok (n : Nat) (w : World) (h1 : (1 : Int) ≤ n) (h2 : (n : Int) ≤ 200) :
    Calls Try.prog 19 #[.int .i64 (n : Int)] w fun e w' =>
      ∃ a c, e = .returned (.tuple #[.agg #[.slice a n c, .slice none 0 0, .int .i64 (-1)], .nilIface]) ∧ Hid (BL w' a n (List.replicate n zB)) ∧ Hid (Below w.heap.size w w') :=
  (new_own n w h1 h2).mono fun e w' h => by
    obtain ⟨a, c, h1, h2, _, h3⟩ := h
    exact ⟨a, c, h1, h2, h3⟩

set_option maxHeartbeats 1000000 in
set_option maxRecDepth 100000 in
theorem new_err (n : Int) (w : World) (h : n < 1 ∨ 200 < n) :
    Calls Try.prog 19 #[.int .i64 n] w fun e w' =>
      e = .returned (.tuple #[.agg #[.slice none 0 0, .slice none 0 0, .int .i64 0], .iface 35 (.int .i64 1)]) ∧ Below w.heap.size w w' := by
  by_cases h1 : n < 1
  · have hd1 : decide (n < 1) = true := by simpa using h1
    clear h
    go_enter Try.func19, Try.ntmps19
    go_wp2_with fail
    obtain ⟨r0, r1, r2⟩ := (Bx.new w #[.slice none 0 0, .slice none 0 0, .int .i64 0] 29).three
    exact bodyPost_ret (v := .tuple #[.agg #[.slice none 0 0, .slice none 0 0, .int .i64 0], .iface 35 (.int .i64 1)]) (by simp [results, Try.results19, go_sem, r0, r1, r2]) rfl ⟨rfl, below_alloc _ _⟩
  · have h2 : 200 < n := by omega
    have hd1 : decide (n < 1) = false := by simpa using h1
    have hd2 : decide (200 < n) = true := by simpa using h2
    clear h
    go_enter Try.func19, Try.ntmps19
    go_wp2_with fail
    obtain ⟨r0, r1, r2⟩ := (Bx.new w #[.slice none 0 0, .slice none 0 0, .int .i64 0] 29).three
    exact bodyPost_ret (v := .tuple #[.agg #[.slice none 0 0, .slice none 0 0, .int .i64 0], .iface 35 (.int .i64 1)]) (by simp [results, Try.results19, go_sem, r0, r1, r2]) rfl ⟨rfl, below_alloc _ _⟩

set_option maxHeartbeats 2000000 in
set_option maxRecDepth 100000 in
theorem crash_err (sa pa ba : Option Addr) (n sc m pc nb bc : Nat) (left : Int) (ps : List Pt) (w : World) (hn : n ≤ maxLen) (hp : PL w pa m ps) (hm : ¬ Mx.dmay n ps = 0) :
    Calls Try.prog 14 #[.agg #[.slice sa n sc, .slice pa m pc, .int .i64 left], .slice ba nb bc] w fun e w' =>
      e = .returned (.tuple #[.agg #[.slice none 0 0, .slice none 0 0, .int .i64 0], errV (Mx.dmay n ps)]) ∧ Below w.heap.size w w' := by
  have HP := hide hp
  have HM := hide hm
  have HNN := hide hn
  clear hp hm hn
  go_enter Try.func14, Try.ntmps14
  go_wp2_with fail
  refine (dcheck_any sa pa n sc m pc left ps _ (HP.out.later ((below_alloc _ _).alloc (by simp) _)) HNN.out).mono ?_
  rintro e w1 ⟨rfl, hb1⟩
  have HBD := hide (show Bx w1 w.heap.size #[.slice sa n sc, .slice pa m pc, .int .i64 left] 29 from ((Bx.new w _ 29).alloc _).later hb1 (by simp; omega))
  have HBR := hide (show Bx w1 (w.heap.size + 1) #[.slice none 0 0, .slice none 0 0, .int .i64 0] 29 from by
    have h := (Bx.new (w.alloc (.cells #[.slice sa n sc, .slice pa m pc, .int .i64 left] 29)) #[.slice none 0 0, .slice none 0 0, .int .i64 0] 29).later hb1 (by simp)
    rw [World.size_alloc] at h
    exact h)
  have HBel := hide (((below_alloc w (.cells #[.slice sa n sc, .slice pa m pc, .int .i64 left] 29)).alloc (by simp) _).trans (hb1.mono (by simp; omega)))
  clear hb1
  obtain ⟨f0, f1, f2⟩ := HBD.out.three
  obtain ⟨e0, e1, e2⟩ := HBR.out.three
  have ez := HBR.out.frozen
  obtain ⟨r0, r1, r2⟩ := (show Bx _ _ #[.slice none 0 0, .slice none 0 0, .int .i64 0] 29 from (((HBR.out.set 0 (.slice none 0 0)).set 1 (.slice none 0 0)).set 2 (.int .i64 0))).three
  have HBF := hide (((HBel.out.setCell (p := ⟨w.heap.size + 1, 0, none⟩) (by simp) (.slice none 0 0)).setCell (p := ⟨w.heap.size + 1, 1, none⟩) (by simp) (.slice none 0 0)).setCell (p := ⟨w.heap.size + 1, 2, none⟩) (by simp) (.int .i64 0))
  rw [errV_not HM.out]
  go_wp2_with fail
  exact bodyPost_ret (v := .tuple #[.agg #[.slice none 0 0, .slice none 0 0, .int .i64 0], .iface 35 (.int .i64 (Mx.dmay n ps))]) (by simp [results, Try.results14, go_sem, r0, r1, r2]) rfl ⟨by rw [errV_not HM.out], HBF.out⟩

end Go.Proofs.Ytfbmaemnbolplaa
