/-
  Whether a tree may be, as the program says it (Check): where it has a first level that may be.
-/
import Derived.Test.YtdhmijjphgcdmaaTck
namespace Go.Proofs.Ytdhmijjphgcdmaa
open Go.RowKit

/-- the levels are those of that first one, or the error -/
def Mx.tsame (ls : List (List Nat)) (l : List Nat) : Int := if ls = Mx.levels l then 0 else 3

set_option maxHeartbeats 4000000 in
set_option maxRecDepth 100000 in
theorem tcheck_grow (a : Option Addr) (k c : Nat) (ls : List (List Nat)) (l : List Nat) (w : World) (h : Lvls w a k ls) (hk : 1 ≤ k) (h1 : 1 ≤ l.length) (h2 : l.length ≤ 32) (hz : ls[0]? = some l) :
    Calls Try.prog 47 #[.agg #[.slice a k c]] w fun e w' => e = .returned (errV (Mx.tsame ls l)) ∧ Below w.heap.size w w' := by
  have HL := hide h
  have hkl : k ≤ maxLen := h.2.1
  unfold maxLen at hkl
  have HMH := hide (show Mx.mayHave l.length = true by unfold Mx.mayHave; simp; omega)
  obtain ⟨b, off, l0, ai, ni, ci, hab, hbw, hl0, hcell, hu, hnc⟩ := h.at_ 0 (by omega)
  rw [hz] at hl0
  obtain rfl : l = l0 := Option.some.inj hl0
  subst hab
  rw [Nat.add_zero] at hcell
  have hni : ni = l.length := hu.1.symm
  subst hni
  obtain ⟨bi, offi, hai, hbi, _⟩ := hu.2.2.2 h1
  subst hai
  have HU := hide hu
  have HNC := hide hnc
  clear h hz hl0 hu hnc
  have hk0 : ((k : Int) == 0) = false := by simp; omega
  have hkp : (0 : Int) < k := by omega
  have hkr : 0 < k := by omega
  have hks : ¬ k = 0 := by omega
  have hkt : ¬ (k : Int) ≤ 0 := by omega
  obtain ⟨w0, hw0⟩ : ∃ w0 : World, Hid (w0 = w.alloc (.cells #[.slice (some ⟨b, off, none⟩) k c] 82)) := ⟨_, rfl⟩
  have B0 := hide (show Below w.heap.size w w0 by rw [hw0.out]; exact below_alloc _ _)
  have X0 := hide (show Bx w0 w.heap.size #[.slice (some ⟨b, off, none⟩) k c] 82 by rw [hw0.out]; exact Bx.new _ _ _)
  have hc0 : w0.cell? ⟨b, off, none⟩ = some (.slice (some ⟨bi, offi, none⟩) l.length ci) := (B0.out.cell (p := ⟨b, off, none⟩) hbw).trans hcell
  obtain ⟨N, hN⟩ : ∃ N : Nat, Hid (N = l.length) := ⟨_, rfl⟩
  rw [← hN.out] at hc0 hcell HMH HU HNC h1 h2
  have x0 := X0.out.one
  go_enter Try.func47, Try.ntmps47
  go_wp2_with fail
  rw [← hw0.out]
  refine (mayHave_any N w0).mono ?_
  rintro e w1 ⟨rfl, rfl⟩
  rw [HMH.out]
  clear hcell
  have hfd : ∀ (a : Option Addr) (k c : Nat) (W : World), (Instr.field 82 (.agg #[.slice a k c]) 0).run Try.prog W = .ok (.slice a k c) W := fun _ _ _ _ => by kernel_rfl
  go_wp2_with fail
  go_region_held3 (fun w' => w'.cell? ⟨w.heap.size, 0, none⟩ = some (.slice (some ⟨b, off, none⟩) k c) ∧ w'.cell? ⟨b, off, none⟩ = some (.slice (some ⟨bi, offi, none⟩) N ci))
    (first | exact ⟨x0, hc0⟩ | exact ⟨y0, y1⟩)
    (first
    | (go_at_call 95; refine (grow_any bi offi N ci l w1.drew ((HU.out.later B0.out).later (Below.refl _ _).drew) (by show bi < w1.heap.size; have := B0.out.size; omega) h1 (by omega) HNC.out).mono ?_; rintro e w2 ⟨a2, k2, cap2, rfl, hO2, hb2⟩; have y0 := (hb2.out.cell (p := ⟨w.heap.size, 0, none⟩) X0.out.lt).trans x0; have y1 := (hb2.out.cell (p := ⟨b, off, none⟩) (by show b < w1.heap.size; have := B0.out.size; omega)).trans hc0)
    | (go_at_call 97; refine (equalF_any (some ⟨b, off, none⟩) a2 k c k2 cap2 ls (Mx.levels l) w2 ((HL.out.later (B0.out.drew)).later hb2.out) hO2.out.lv.1).mono ?_; rintro e w3 ⟨r, rfl, hr, q, rfl⟩))
  all_goals
    have HB := hide (show Below w.heap.size w w2 from B0.out.drew.trans (hb2.out.mono B0.out.size))
    cases r with
    | true =>
      have HE := hide (show ls = Mx.levels l from hr.1 rfl)
      clear hr
      go_wp2_with fail
      go_ret
      exact ⟨by rw [Mx.tsame, if_pos HE.out] <;> rfl, below_drewN HB.out _⟩
    | false =>
      have HE := hide (show ¬ ls = Mx.levels l from fun e => by have := hr.2 e; simp at this)
      clear hr
      go_wp2_with fail
      go_ret
      exact ⟨by rw [Mx.tsame, if_neg HE.out] <;> rfl, below_drewN HB.out _⟩

end Go.Proofs.Ytdhmijjphgcdmaa
