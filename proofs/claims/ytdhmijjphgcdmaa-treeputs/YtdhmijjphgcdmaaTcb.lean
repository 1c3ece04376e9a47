/-
  Whether a tree may be, as the program says it (Check), at every tree.
-/
import Derived.Test.YtdhmijjphgcdmaaTca
namespace Go.Proofs.Ytdhmijjphgcdmaa
open Go.RowKit

/-- D1's error of a tree -/
def Mx.tmay (ls : List (List Nat)) : Int := match ls with
  | [] => 3
  | l :: _ => if 1 ≤ l.length ∧ l.length ≤ 32 then Mx.tsame ls l else 3

set_option maxHeartbeats 1000000 in
set_option maxRecDepth 100000 in
theorem tcheck_any (a : Option Addr) (k c : Nat) (ls : List (List Nat)) (w : World) (h : Lvls w a k ls) :
    Calls Try.prog 47 #[.agg #[.slice a k c]] w fun e w' => e = .returned (errV (Mx.tmay ls)) ∧ Below w.heap.size w w' := by
  match ls, h with
  | [], h =>
    obtain rfl : k = 0 := h.1.symm
    clear h
    go_enter Try.func47, Try.ntmps47
    go_wp2_with fail
    go_ret
    exact ⟨rfl, below_alloc _ _⟩
  | l :: r, h =>
    have hk : 1 ≤ k := by rw [← h.1]; simp
    by_cases hl : 1 ≤ l.length ∧ l.length ≤ 32
    · refine (tcheck_grow a k c (l :: r) l w h hk hl.1 hl.2 rfl).mono ?_
      rintro e w' ⟨rfl, hb⟩
      exact ⟨by rw [Mx.tmay, if_pos hl], hb⟩
    · have HT := hide (show Mx.tmay (l :: r) = 3 by rw [Mx.tmay, if_neg hl])
      have hkl : k ≤ maxLen := h.2.1
      unfold maxLen at hkl
      have HMH := hide (show Mx.mayHave l.length = false by unfold Mx.mayHave; simp; omega)
      obtain ⟨b, off, l0, ai, ni, ci, hab, hbw, hl0, hcell, hu, hnc⟩ := h.at_ 0 (by omega)
      obtain rfl : l = l0 := Option.some.inj hl0
      subst hab
      rw [Nat.add_zero] at hcell
      have hni : ni = l.length := hu.1.symm
      subst hni
      obtain ⟨N, hN⟩ : ∃ N : Nat, Hid (N = l.length) := ⟨_, rfl⟩
      have hNm : N ≤ 9223372036854775807 := by have := hu.2.1; rw [hN.out]; unfold maxLen at this; omega
      rw [← hN.out] at hcell HMH
      clear h hl0 hu hnc hl
      have hk0 : ((k : Int) == 0) = false := by simp; omega
      have hkp : (0 : Int) < k := by omega
      go_enter Try.func47, Try.ntmps47
      go_wp2_with fail
      refine (mayHave_any N _).mono ?_
      rintro e w1 ⟨rfl, rfl⟩
      rw [HMH.out]
      go_wp2_with fail
      go_ret
      exact ⟨by rw [HT.out] <;> rfl, below_alloc _ _⟩

end Go.Proofs.Ytdhmijjphgcdmaa
