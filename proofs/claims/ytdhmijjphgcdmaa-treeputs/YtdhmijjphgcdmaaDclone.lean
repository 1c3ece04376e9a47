/-
  Copies in memory of their own: slices.Clone at blocks and at puts, OwnBlocks; lessOne, kept.
-/
import Derived.Test.YtdhmijjphgcdmaaDmay
import Derived.Lib.SliceRun
namespace Go.Proofs.Ytdhmijjphgcdmaa
open Go.RowKit

theorem rowR_empty {w : World} {n size : Nat} {xs : List Value} (h : RowR w none n size xs) : n = 0 ∧ xs = [] := by
  obtain ⟨h1, _, h3⟩ := h
  have : n = 0 := by
    rcases Nat.eq_zero_or_pos n with h | h
    · exact h
    · obtain ⟨b, off, hb, _⟩ := h3 h
      cases hb
  subst this
  exact ⟨rfl, List.eq_nil_of_length_eq_zero (by simpa using h1)⟩
theorem rowR_zero {w : World} {a : Option Addr} {size : Nat} {xs : List Value} (h : RowR w a 0 size xs) : xs = [] := List.eq_nil_of_length_eq_zero (by simpa using h.1)

set_option maxHeartbeats 1000000 in
set_option maxRecDepth 100000 in
theorem cloneB_any (a : Option Addr) (n c : Nat) (l : List B8) (w : World) (hl : BL w a n l) (hn : n ≤ 1000000) :
    Calls Try.prog 72 #[.slice a n c] w fun e w' => ∃ v, e = .returned v ∧ OwnBL w' w.heap.size v l ∧ Below w.heap.size w w' := by
  have q : ∀ (w : World) (a : Option Addr) (n c n' c' : Nat), (binOp .eql 23 (.slice a n c) (.slice none n' c')).run Try.prog w = .ok (.bool a.isNone) w := fun w a n c n' c' => Lib.run_eql_slice_nil w _ _ a n c n' c' Try.underlying23
  have HL := hide hl
  clear hl
  cases a with
  | none =>
    obtain ⟨rfl, hx⟩ := rowR_empty HL.out.2
    have HX := hide (show l = [] from List.eq_nil_of_length_eq_zero HL.out.1)
    clear hx
    go_enter Try.func72, Try.ntmps72
    go_wp2
    go_ret
    refine ⟨_, rfl, ?_, Below.refl _ _⟩
    rw [HX.out]
    exact World.ownsRow_nil w _ 52 8
  | some ad =>
    go_enter Try.func72, Try.ntmps72
    obtain ⟨i0, hi, hz0, hz1, hz2⟩ := info_parts Try.info52
    go_wp2_with (at_builtin; refine wpList_append_own _ rfl _ _ 23 rfl w.heap.size 52 i0 _ 8 8 Try.underlying23 hi hz0 hz1 hz2 rfl (by decide) _ _ _ rfl (World.ownsRow_made w #[] 0 (Nat.le_refl _) (Nat.zero_le _) (by simp)) ad n c (flatB l) rfl ?qc1 ?qc2 ?qc3 ?qc4 ?qc5 ?qc6 ?_)
    case qc1 => exact HL.out.2.1
    case qc2 =>
      intro j u hj
      rcases Nat.eq_zero_or_pos n with h | h
      · subst h
        rw [rowR_zero HL.out.2] at hj
        simp at hj
      · obtain ⟨b, off, hb, hlt, hc⟩ := HL.out.2.2.2 h
        cases hb
        rw [Addr.add_lit]
        exact Lib.cell?_alloc_some _ (hc j u hj)
    case qc3 => exact flatB_one
    case qc4 => unfold maxLen; omega
    case qc5 => omega
    case qc6 => simp
    intro v' w1 hown hgrow hnil
    have HO := hide hown
    have HG := hide hgrow
    clear hown hgrow hnil
    go_wp2
    go_ret
    refine ⟨v', rfl, ?_, ?_⟩
    · have := HO.out
      unfold OwnBL
      rw [HL.out.1]
      simpa using this
    · exact ((Below.refl _ w).alloc (Nat.le_refl _) _).grown HG.out (by simp) (by intro k hk; simp [Value.ownBlock] at hk; omega)

set_option maxHeartbeats 1000000 in
set_option maxRecDepth 100000 in
theorem cloneP_any (a : Option Addr) (n c : Nat) (l : List Pt) (w : World) (hl : PL w a n l) (hn : n ≤ 1000000) :
    Calls Try.prog 73 #[.slice a n c] w fun e w' => ∃ v, e = .returned v ∧ OwnPL w' w.heap.size v l ∧ Below w.heap.size w w' := by
  have q : ∀ (w : World) (a : Option Addr) (n c n' c' : Nat), (binOp .eql 48 (.slice a n c) (.slice none n' c')).run Try.prog w = .ok (.bool a.isNone) w := fun w a n c n' c' => Lib.run_eql_slice_nil w _ _ a n c n' c' Try.underlying48
  have HL := hide hl
  clear hl
  cases a with
  | none =>
    obtain ⟨rfl, hx⟩ := rowR_empty HL.out.2
    have HX := hide (show l = [] from List.eq_nil_of_length_eq_zero HL.out.1)
    clear hx
    go_enter Try.func73, Try.ntmps73
    go_wp2
    go_ret
    refine ⟨_, rfl, ?_, Below.refl _ _⟩
    rw [HX.out]
    exact World.ownsRow_nil w _ 58 9
  | some ad =>
    go_enter Try.func73, Try.ntmps73
    obtain ⟨i0, hi, hz0, hz1, hz2⟩ := info_parts Try.info58
    go_wp2_with (at_builtin; refine wpList_append_own _ rfl _ _ 48 rfl w.heap.size 58 i0 _ 9 16 Try.underlying48 hi hz0 hz1 hz2 rfl (by decide) _ _ _ rfl (World.ownsRow_made w #[] 0 (Nat.le_refl _) (Nat.zero_le _) (by simp)) ad n c (flatP l) rfl ?qc1 ?qc2 ?qc3 ?qc4 ?qc5 ?qc6 ?_)
    case qc1 => exact HL.out.2.1
    case qc2 =>
      intro j u hj
      rcases Nat.eq_zero_or_pos n with h | h
      · subst h
        rw [rowR_zero HL.out.2] at hj
        simp at hj
      · obtain ⟨b, off, hb, hlt, hc⟩ := HL.out.2.2.2 h
        cases hb
        rw [Addr.add_lit]
        exact Lib.cell?_alloc_some _ (hc j u hj)
    case qc3 => exact flatP_one
    case qc4 => unfold maxLen; omega
    case qc5 => omega
    case qc6 => simp
    intro v' w1 hown hgrow hnil
    have HO := hide hown
    have HG := hide hgrow
    clear hown hgrow hnil
    go_wp2
    go_ret
    refine ⟨v', rfl, ?_, ?_⟩
    · have := HO.out
      unfold OwnPL
      rw [HL.out.1]
      simpa using this
    · exact ((Below.refl _ w).alloc (Nat.le_refl _) _).grown HG.out (by simp) (by intro k hk; simp [Value.ownBlock] at hk; omega)

set_option maxHeartbeats 1000000 in
set_option maxRecDepth 100000 in
theorem ownBlocks_any (a : Option Addr) (n c : Nat) (l : List B8) (w : World) (hl : BL w a n l) (hn : n ≤ 1000000) :
    Calls Try.prog 56 #[.slice a n c] w fun e w' => ∃ v, e = .returned v ∧ OwnBL w' w.heap.size v l ∧ Below w.heap.size w w' := by
  have HL := hide hl
  clear hl
  obtain ⟨i0, hi, hz0, hz1, hz2⟩ := info_parts Try.info52
  cases a with
  | none =>
    obtain ⟨rfl, hx⟩ := rowR_empty HL.out.2
    have HX := hide (show l = [] from List.eq_nil_of_length_eq_zero HL.out.1)
    clear hx
    go_enter Try.func56, Try.ntmps56
    go_wp2
    go_ret
    refine ⟨_, rfl, ?_, below_alloc _ _⟩
    rw [HX.out]
    exact World.ownsRow_made w #[] 0 (Nat.le_refl _) (Nat.zero_le _) (by simp)
  | some ad =>
    go_enter Try.func56, Try.ntmps56
    go_wp2_with (at_builtin; refine wpList_append_own _ rfl _ _ 23 rfl w.heap.size 52 i0 _ 8 8 Try.underlying23 hi hz0 hz1 hz2 rfl (by decide) _ _ _ rfl (World.ownsRow_made w #[] 0 (Nat.le_refl _) (Nat.zero_le _) (by simp)) ad n c (flatB l) rfl ?qc1 ?qc2 ?qc3 ?qc4 ?qc5 ?qc6 ?_)
    case qc1 => exact HL.out.2.1
    case qc2 =>
      intro j u hj
      rcases Nat.eq_zero_or_pos n with h | h
      · subst h
        rw [rowR_zero HL.out.2] at hj
        simp at hj
      · obtain ⟨b, off, hb, hlt, hc⟩ := HL.out.2.2.2 h
        cases hb
        rw [Addr.add_lit]
        exact Lib.cell?_alloc_some _ (hc j u hj)
    case qc3 => exact flatB_one
    case qc4 => unfold maxLen; omega
    case qc5 => omega
    case qc6 => simp
    intro v' w1 hown hgrow hnil
    have HO := hide hown
    have HG := hide hgrow
    clear hown hgrow hnil
    go_wp2
    go_ret
    refine ⟨v', rfl, ?_, ?_⟩
    · have := HO.out
      unfold OwnBL
      rw [HL.out.1]
      simpa using this
    · exact ((Below.refl _ w).alloc (Nat.le_refl _) _).grown HG.out (by simp) (by intro k hk; simp [Value.ownBlock] at hk; omega)

/-- what is left of steps behind one -/
def Mx.less (left : Int) : Int := if left < 0 then left else left - 1

set_option maxHeartbeats 1000000 in
theorem lessOne_any (left : Int) (w : World) (h1 : -9223372036854775808 ≤ left) (h2 : left ≤ 9223372036854775807) :
    Calls Try.prog 74 #[.int .i64 left] w fun e w' => e = .returned (.int .i64 (Mx.less left)) ∧ w' = w := by
  by_cases h : left < 0
  · have HR := hide (show Mx.less left = left by unfold Mx.less; rw [if_pos h])
    go_enter Try.func74, Try.ntmps74
    go_wp2
    go_ret
    exact ⟨by rw [HR.out]; rfl, rfl⟩
  · have HR := hide (show Mx.less left = left - 1 by unfold Mx.less; rw [if_neg h])
    go_enter Try.func74, Try.ntmps74
    go_wp2
    go_ret
    exact ⟨by rw [HR.out]; rfl, rfl⟩

/-- B3's number of bytes -/
def Mx.kept (x : Int) : Int := (if x < 0 then -(x + 1) else x) % 9
theorem Mx.kept_lt (x : Int) : 0 ≤ Mx.kept x ∧ Mx.kept x ≤ 8 := by unfold Mx.kept; split <;> omega

set_option maxHeartbeats 1000000 in
theorem kept_any (x : Int) (w : World) (h1 : -9223372036854775808 ≤ x) (h2 : x ≤ 9223372036854775807) :
    Calls Try.prog 76 #[.int .i64 x] w fun e w' => e = .returned (.int .i64 (Mx.kept x)) ∧ w' = w := by
  by_cases h : x < 0
  · have HR := hide (show Mx.kept x = -((x + 1).tmod 9) by unfold Mx.kept; rw [if_pos h, ← Int.neg_tmod, Int.tmod_eq_emod_of_nonneg (by omega)])
    go_enter Try.func76, Try.ntmps76
    go_wp2
    go_ret
    exact ⟨by rw [HR.out]; rfl, rfl⟩
  · have HR := hide (show Mx.kept x = x % 9 by unfold Mx.kept; rw [if_neg h])
    go_enter Try.func76, Try.ntmps76
    go_wp2
    go_ret
    exact ⟨by rw [HR.out]; rfl, rfl⟩

set_option maxHeartbeats 1000000 in
theorem pick9_any (x : Int) (w : World) (h1 : -9223372036854775808 ≤ x) (h2 : x ≤ 9223372036854775807) :
    Calls Try.prog 25 #[.int .i64 x, .int .i64 9] w fun e w' => e = .returned (.int .i64 (Mx.kept x)) ∧ w' = w := by
  by_cases h : x < 0
  · have HR := hide (show Mx.kept x = -((x + 1).tmod 9) by unfold Mx.kept; rw [if_pos h, ← Int.neg_tmod, Int.tmod_eq_emod_of_nonneg (by omega)])
    go_enter Try.func25, Try.ntmps25
    go_wp2
    go_ret
    exact ⟨by rw [HR.out]; rfl, rfl⟩
  · have HR := hide (show Mx.kept x = x % 9 by unfold Mx.kept; rw [if_neg h])
    go_enter Try.func25, Try.ntmps25
    go_wp2
    go_ret
    exact ⟨by rw [HR.out]; rfl, rfl⟩
end Go.Proofs.Ytdhmijjphgcdmaa
