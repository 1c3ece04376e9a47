/-
  Is a tree greater than the statements ask of (hugeTree)?
-/
import Derived.Test.YtdhmijjphgcdmaaTs
namespace Go.Proofs.Ytdhmijjphgcdmaa
open Go.RowKit

/-- too great to be asked -/
def Mx.huge (ls : List (List Nat)) : Bool := ls.any (fun l => decide (200 < l.length)) || decide (50 < ls.length)
theorem Mx.huge_at {ls : List (List Nat)} {k : Nat} {l : List Nat} (h : ls[k]? = some l) (hl : 200 < l.length) : Mx.huge ls = true := by
  unfold Mx.huge
  rw [List.any_eq_true.2 ⟨l, List.mem_of_getElem? h, by simpa using hl⟩]
  rfl
theorem Mx.huge_no {ls : List (List Nat)} (h : ∀ (j : Nat) (l : List Nat), ls[j]? = some l → ¬ 200 < l.length) : Mx.huge ls = decide (50 < ls.length) := by
  unfold Mx.huge
  rw [List.any_eq_false.2 (fun l hl => ?_)]
  · rfl
  · obtain ⟨j, hj, e⟩ := List.getElem_of_mem hl
    have := h j l (by rw [List.getElem?_eq_getElem hj, e])
    simpa using this

set_option maxHeartbeats 1000000 in
set_option maxRecDepth 100000 in
theorem hugeTree_any (a : Option Addr) (k c : Nat) (ls : List (List Nat)) (w : World) (h : Lvls w a k ls) :
    Calls Try.prog 48 #[.agg #[.slice a k c]] w fun e w' => e = .returned (.bool (Mx.huge ls)) ∧ Below w.heap.size w w' := by
  have hkl : k ≤ maxLen := h.2.1
  unfold maxLen at hkl
  have HN := hide h.1
  obtain ⟨w0, hw0⟩ : ∃ w0 : World, Hid (w0 = w.alloc (.cells #[.slice a k c] 82)) := ⟨_, rfl⟩
  have B0 := hide (show Below w.heap.size w w0 by rw [hw0.out]; exact below_alloc _ _)
  have X0 := hide (show Bx w0 w.heap.size #[.slice a k c] 82 by rw [hw0.out]; exact Bx.new _ _ _)
  have HL := hide (h.later B0.out)
  clear h
  go_enter Try.func48, Try.ntmps48
  go_wp2_with fail
  rw [← hw0.out]
  go_loopw [3] (fun i wr => ∃ j : Nat, j ≤ k ∧ i = .int .i64 j ∧ Hid (∀ (j' : Nat) (l : List Nat), j' < j → ls[j']? = some l → ¬ 200 < l.length) ∧ wr = w0) (fun i _ => k - (intOf i).toNat)
  case atStart => exact ⟨0, by omega, rfl, fun j' l hj => absurd hj (by omega), rfl⟩
  case round =>
    obtain ⟨j, hj, rfl, hG, rfl⟩ := hrel
    have x0 : wr.cell? ⟨w.heap.size, 0, none⟩ = some (.slice a k c) := X0.out.cell 0
    by_cases hlt : j < k
    · obtain ⟨b, off, l, ai, ni, ci, hab, _, hl, e0, hu, _⟩ := HL.out.at_ j hlt
      subst hab
      have HLJ := hide hl
      have hni : l.length = ni := hu.1
      have hnm : ni ≤ 9223372036854775807 := by have := hu.2.1; unfold maxLen at this; omega
      clear hl hu
      by_cases hbig : (200 : Int) < ni
      · have HT := hide (Mx.huge_at HLJ.out (by omega))
        go_wp2_with fail
        go_ret
        exact ⟨by rw [HT.out] <;> rfl, B0.out⟩
      · have HG2 := hide (show ∀ (j' : Nat) (l : List Nat), j' < j + 1 → ls[j']? = some l → ¬ 200 < l.length by
          intro j' l' hj' hl'
          rcases Nat.lt_succ_iff_lt_or_eq.1 hj' with h | h
          · exact hG.out j' l' h hl'
          · subst h
            rw [HLJ.out] at hl'
            cases hl'
            omega)
        clear hni
        go_wp2_with fail
        go_roundw
        case rel => exact ⟨j + 1, by omega, by go_num, HG2, by first | trivial | rfl⟩
        case measure => simp [intOf]; omega
    · have HE := hide (Mx.huge_no (ls := ls) (fun j' l hl => hG.out j' l (by have := (List.getElem?_eq_some_iff.1 hl).1; have := HN.out; omega) hl))
      by_cases h50 : (50 : Int) < k
      · have HD := hide (show Mx.huge ls = true by rw [HE.out]; have := HN.out; simp; omega)
        go_wp2_with fail
        go_ret
        exact ⟨by rw [HD.out] <;> rfl, B0.out⟩
      · have HD := hide (show Mx.huge ls = false by rw [HE.out]; have := HN.out; simp; omega)
        go_wp2_with fail
        go_ret
        exact ⟨by rw [HD.out] <;> rfl, B0.out⟩

end Go.Proofs.Ytdhmijjphgcdmaa
