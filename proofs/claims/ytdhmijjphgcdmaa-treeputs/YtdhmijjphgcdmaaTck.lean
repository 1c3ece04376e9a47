/-
  Of's error; whether a tree may be, as the program says it (Check), where it may be.
-/
import Derived.Test.YtdhmijjphgcdmaaTof
namespace Go.Proofs.Ytdhmijjphgcdmaa
open Go.RowKit

set_option maxHeartbeats 1000000 in
set_option maxRecDepth 100000 in
theorem of_err (a : Option Addr) (n c : Nat) (w : World) (hn : n < 1 ∨ 32 < n) :
    Calls Try.prog 44 #[.slice a n c] w fun e w' => e = .returned (.tuple #[.agg #[.slice none 0 0], .iface 26 (.int .i64 1)]) ∧ Below w.heap.size w w' := by
  have HMH := hide (show Mx.mayHave n = false by unfold Mx.mayHave; simp; omega)
  go_enter Try.func44, Try.ntmps44
  go_wp2_with fail
  refine (mayHave_any n _).mono ?_
  rintro e w1 ⟨rfl, rfl⟩
  rw [HMH.out]
  go_wp2_with fail
  have r1 := (Bx.new w #[.slice none 0 0] 82).one
  exact bodyPost_ret (v := .tuple #[.agg #[.slice none 0 0], .iface 26 (.int .i64 1)]) (by simp [results, Try.results44, go_sem, r1]) rfl ⟨rfl, below_alloc _ _⟩

set_option maxHeartbeats 4000000 in
set_option maxRecDepth 100000 in
theorem tcheck_ok (a : Option Addr) (k c : Nat) (l : List Nat) (w : World) (h : Lvls w a k (Mx.levels l)) (hk : 1 ≤ k) (h1 : 1 ≤ l.length) (h2 : l.length ≤ 32) (hz : (Mx.levels l)[0]? = some l) :
    Calls Try.prog 47 #[.agg #[.slice a k c]] w fun e w' => e = .returned .nilIface ∧ Below w.heap.size w w' := by
  have HL := hide h
  have hkl : k ≤ maxLen := h.2.1
  unfold maxLen at hkl
  have HMH := hide (show Mx.mayHave l.length = true by unfold Mx.mayHave; simp; omega)
  obtain ⟨b, off, l0, ai, ni, ci, hab, hbw, hl0, hcell, hu, hnc⟩ := h.at_ 0 (by omega)
  rw [hz] at hl0
  obtain rfl : l = l0 := Option.some.inj hl0
  subst hab
  rw [Nat.add_zero] at hcell
  have hni : ni = l.length := hu.1.symm
  subst hni
  obtain ⟨bi, offi, hai, hbi, _⟩ := hu.2.2.2 h1
  subst hai
  have HU := hide hu
  have HNC := hide hnc
  clear h hz hl0 hu hnc
  have hk0 : ((k : Int) == 0) = false := by simp; omega
  have hkp : (0 : Int) < k := by omega
  have hkr : 0 < k := by omega
  have hks : ¬ k = 0 := by omega
  have hkt : ¬ (k : Int) ≤ 0 := by omega
  obtain ⟨w0, hw0⟩ : ∃ w0 : World, Hid (w0 = w.alloc (.cells #[.slice (some ⟨b, off, none⟩) k c] 82)) := ⟨_, rfl⟩
  have B0 := hide (show Below w.heap.size w w0 by rw [hw0.out]; exact below_alloc _ _)
  have X0 := hide (show Bx w0 w.heap.size #[.slice (some ⟨b, off, none⟩) k c] 82 by rw [hw0.out]; exact Bx.new _ _ _)
  have hc0 : w0.cell? ⟨b, off, none⟩ = some (.slice (some ⟨bi, offi, none⟩) l.length ci) := (B0.out.cell (p := ⟨b, off, none⟩) hbw).trans hcell
  obtain ⟨N, hN⟩ : ∃ N : Nat, Hid (N = l.length) := ⟨_, rfl⟩
  rw [← hN.out] at hc0 hcell HMH HU HNC h1 h2
  have x0 := X0.out.one
  go_enter Try.func47, Try.ntmps47
  go_wp2_with fail
  rw [← hw0.out]
  refine (mayHave_any N w0).mono ?_
  rintro e w1 ⟨rfl, rfl⟩
  rw [HMH.out]
  clear hcell
  have hfd : ∀ (a : Option Addr) (k c : Nat) (W : World), (Instr.field 82 (.agg #[.slice a k c]) 0).run Try.prog W = .ok (.slice a k c) W := fun _ _ _ _ => by kernel_rfl
  go_wp2_with fail
  go_region_held3 (fun w' => w'.cell? ⟨w.heap.size, 0, none⟩ = some (.slice (some ⟨b, off, none⟩) k c) ∧ w'.cell? ⟨b, off, none⟩ = some (.slice (some ⟨bi, offi, none⟩) N ci))
    (first | exact ⟨x0, hc0⟩ | exact ⟨y0, y1⟩)
    (first
    | (go_at_call 95; refine (grow_any bi offi N ci l w1.drew ((HU.out.later B0.out).later (Below.refl _ _).drew) (by show bi < w1.heap.size; have := B0.out.size; omega) h1 (by omega) HNC.out).mono ?_; rintro e w2 ⟨a2, k2, cap2, rfl, hO2, hb2⟩; have y0 := (hb2.out.cell (p := ⟨w.heap.size, 0, none⟩) X0.out.lt).trans x0; have y1 := (hb2.out.cell (p := ⟨b, off, none⟩) (by show b < w1.heap.size; have := B0.out.size; omega)).trans hc0)
    | (go_at_call 97; refine (equalF_any (some ⟨b, off, none⟩) a2 k c k2 cap2 (Mx.levels l) (Mx.levels l) w2 ((HL.out.later (B0.out.drew)).later hb2.out) hO2.out.lv.1).mono ?_; rintro e w3 ⟨r, rfl, hr, q, rfl⟩))
  all_goals
    obtain rfl : r = true := by simpa using hr
    have HB := hide (show Below w.heap.size w w2 from B0.out.drew.trans (hb2.out.mono B0.out.size))
    clear hr
    go_wp2_with fail
    go_ret
    exact ⟨rfl, below_drewN HB.out _⟩

end Go.Proofs.Ytdhmijjphgcdmaa
