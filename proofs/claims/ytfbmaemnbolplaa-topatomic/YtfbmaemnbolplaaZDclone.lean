/-
  Copies in memory of their own: slices.Clone at blocks and at puts, OwnBlocks; lessOne, kept.
-/
import Derived.Lib.SliceRun
import Derived.Test.YtfbmaemnbolplaaZIter

namespace Go.Proofs.Ytfbmaemnbolplaa
open Go.RowKit

theorem rowR_empty {w : World} {n size : Nat} {xs : List Value} (h : RowR w none n size xs) : n = 0 ∧ xs = [] := by
  obtain ⟨h1, _, h3⟩ := h
  have : n = 0 := by
    rcases Nat.eq_zero_or_pos n with h | h
    · exact h
    · obtain ⟨b, off, hb, _⟩ := h3 h
      cases hb
  subst this
  exact ⟨rfl, List.eq_nil_of_length_eq_zero (by simpa using h1)⟩
theorem rowR_zero {w : World} {a : Option Addr} {size : Nat} {xs : List Value} (h : RowR w a 0 size xs) : xs = [] := List.eq_nil_of_length_eq_zero (by simpa using h.1)

set_option maxHeartbeats 1000000 in
set_option maxRecDepth 100000 in
theorem cloneB_any (a : Option Addr) (n c : Nat) (l : List B8) (w : World) (hl : BL w a n l) (hn : n ≤ 1000000) :
    Calls Try.prog 39 #[.slice a n c] w fun e w' => ∃ v, e = .returned v ∧ OwnBL w' w.heap.size v l ∧ Below w.heap.size w w' := by
  have q : ∀ (w : World) (a : Option Addr) (n c n' c' : Nat), (binOp .eql 27 (.slice a n c) (.slice none n' c')).run Try.prog w = .ok (.bool a.isNone) w := fun w a n c n' c' => Lib.run_eql_slice_nil w _ _ a n c n' c' Try.underlying27
  have HL := hide hl
  clear hl
  cases a with
  | none =>
    obtain ⟨rfl, hx⟩ := rowR_empty HL.out.2
    have HX := hide (show l = [] from List.eq_nil_of_length_eq_zero HL.out.1)
    clear hx
    go_enter Try.func39, Try.ntmps39
    go_wp2
    go_ret
    refine ⟨_, rfl, ?_, Below.refl _ _⟩
    rw [HX.out]
    exact World.ownsRow_nil w _ 38 8
  | some ad =>
    go_enter Try.func39, Try.ntmps39
    obtain ⟨i0, hi, hz0, hz1, hz2⟩ := info_parts Try.info38
    go_wp2_with (at_builtin; refine wpList_append_own _ rfl _ _ 27 rfl w.heap.size 38 i0 _ 8 8 Try.underlying27 hi hz0 hz1 hz2 rfl (by decide) _ _ _ rfl (World.ownsRow_made w #[] 0 (Nat.le_refl _) (Nat.zero_le _) (by simp)) ad n c (flatB l) rfl ?qc1 ?qc2 ?qc3 ?qc4 ?qc5 ?qc6 ?_)
    case qc1 => exact HL.out.2.1
    case qc2 =>
      intro j u hj
      rcases Nat.eq_zero_or_pos n with h | h
      · subst h
        rw [rowR_zero HL.out.2] at hj
        simp at hj
      · obtain ⟨b, off, hb, hlt, hc⟩ := HL.out.2.2.2 h
        cases hb
        rw [Addr.add_lit]
        exact Lib.cell?_alloc_some _ (hc j u hj)
    case qc3 => exact flatB_one
    case qc4 => unfold maxLen; omega
    case qc5 => omega
    case qc6 => simp
    intro v' w1 hown hgrow hnil
    have HO := hide hown
    have HG := hide hgrow
    clear hown hgrow hnil
    go_wp2
    go_ret
    refine ⟨v', rfl, ?_, ?_⟩
    · have := HO.out
      unfold OwnBL
      rw [HL.out.1]
      simpa using this
    · exact ((Below.refl _ w).alloc (Nat.le_refl _) _).grown HG.out (by simp) (by intro k hk; simp [Value.ownBlock] at hk; omega)

set_option maxHeartbeats 1000000 in
set_option maxRecDepth 100000 in
theorem cloneP_any (a : Option Addr) (n c : Nat) (l : List Pt) (w : World) (hl : PL w a n l) (hn : n ≤ 1000000) :
    Calls Try.prog 46 #[.slice a n c] w fun e w' => ∃ v, e = .returned v ∧ OwnPL w' w.heap.size v l ∧ Below w.heap.size w w' := by
  have q : ∀ (w : World) (a : Option Addr) (n c n' c' : Nat), (binOp .eql 22 (.slice a n c) (.slice none n' c')).run Try.prog w = .ok (.bool a.isNone) w := fun w a n c n' c' => Lib.run_eql_slice_nil w _ _ a n c n' c' Try.underlying22
  have HL := hide hl
  clear hl
  cases a with
  | none =>
    obtain ⟨rfl, hx⟩ := rowR_empty HL.out.2
    have HX := hide (show l = [] from List.eq_nil_of_length_eq_zero HL.out.1)
    clear hx
    go_enter Try.func46, Try.ntmps46
    go_wp2
    go_ret
    refine ⟨_, rfl, ?_, Below.refl _ _⟩
    rw [HX.out]
    exact World.ownsRow_nil w _ 40 9
  | some ad =>
    go_enter Try.func46, Try.ntmps46
    obtain ⟨i0, hi, hz0, hz1, hz2⟩ := info_parts Try.info40
    go_wp2_with (at_builtin; refine wpList_append_own _ rfl _ _ 22 rfl w.heap.size 40 i0 _ 9 16 Try.underlying22 hi hz0 hz1 hz2 rfl (by decide) _ _ _ rfl (World.ownsRow_made w #[] 0 (Nat.le_refl _) (Nat.zero_le _) (by simp)) ad n c (flatP l) rfl ?qc1 ?qc2 ?qc3 ?qc4 ?qc5 ?qc6 ?_)
    case qc1 => exact HL.out.2.1
    case qc2 =>
      intro j u hj
      rcases Nat.eq_zero_or_pos n with h | h
      · subst h
        rw [rowR_zero HL.out.2] at hj
        simp at hj
      · obtain ⟨b, off, hb, hlt, hc⟩ := HL.out.2.2.2 h
        cases hb
        rw [Addr.add_lit]
        exact Lib.cell?_alloc_some _ (hc j u hj)
    case qc3 => exact flatP_one
    case qc4 => unfold maxLen; omega
    case qc5 => omega
    case qc6 => simp
    intro v' w1 hown hgrow hnil
    have HO := hide hown
    have HG := hide hgrow
    clear hown hgrow hnil
    go_wp2
    go_ret
    refine ⟨v', rfl, ?_, ?_⟩
    · have := HO.out
      unfold OwnPL
      rw [HL.out.1]
      simpa using this
    · exact ((Below.refl _ w).alloc (Nat.le_refl _) _).grown HG.out (by simp) (by intro k hk; simp [Value.ownBlock] at hk; omega)

set_option maxHeartbeats 1000000 in
set_option maxRecDepth 100000 in
theorem ownBlocks_any (a : Option Addr) (n c : Nat) (l : List B8) (w : World) (hl : BL w a n l) (hn : n ≤ 1000000) :
    Calls Try.prog 16 #[.slice a n c] w fun e w' => ∃ v, e = .returned v ∧ OwnBL w' w.heap.size v l ∧ Below w.heap.size w w' := by
  have HL := hide hl
  clear hl
  obtain ⟨i0, hi, hz0, hz1, hz2⟩ := info_parts Try.info38
  cases a with
  | none =>
    obtain ⟨rfl, hx⟩ := rowR_empty HL.out.2
    have HX := hide (show l = [] from List.eq_nil_of_length_eq_zero HL.out.1)
    clear hx
    go_enter Try.func16, Try.ntmps16
    go_wp2
    go_ret
    refine ⟨_, rfl, ?_, below_alloc _ _⟩
    rw [HX.out]
    exact World.ownsRow_made w #[] 0 (Nat.le_refl _) (Nat.zero_le _) (by simp)
  | some ad =>
    go_enter Try.func16, Try.ntmps16
    go_wp2_with (at_builtin; refine wpList_append_own _ rfl _ _ 27 rfl w.heap.size 38 i0 _ 8 8 Try.underlying27 hi hz0 hz1 hz2 rfl (by decide) _ _ _ rfl (World.ownsRow_made w #[] 0 (Nat.le_refl _) (Nat.zero_le _) (by simp)) ad n c (flatB l) rfl ?qc1 ?qc2 ?qc3 ?qc4 ?qc5 ?qc6 ?_)
    case qc1 => exact HL.out.2.1
    case qc2 =>
      intro j u hj
      rcases Nat.eq_zero_or_pos n with h | h
      · subst h
        rw [rowR_zero HL.out.2] at hj
        simp at hj
      · obtain ⟨b, off, hb, hlt, hc⟩ := HL.out.2.2.2 h
        cases hb
        rw [Addr.add_lit]
        exact Lib.cell?_alloc_some _ (hc j u hj)
    case qc3 => exact flatB_one
    case qc4 => unfold maxLen; omega
    case qc5 => omega
    case qc6 => simp
    intro v' w1 hown hgrow hnil
    have HO := hide hown
    have HG := hide hgrow
    clear hown hgrow hnil
    go_wp2
    go_ret
    refine ⟨v', rfl, ?_, ?_⟩
    · have := HO.out
      unfold OwnBL
      rw [HL.out.1]
      simpa using this
    · exact ((Below.refl _ w).alloc (Nat.le_refl _) _).grown HG.out (by simp) (by intro k hk; simp [Value.ownBlock] at hk; omega)

/-- what is left of steps behind one -/
def Mx.less (left : Int) : Int := if left < 0 then left else left - 1

set_option maxHeartbeats 1000000 in
theorem lessOne_any (left : Int) (w : World) (h1 : -9223372036854775808 ≤ left) (h2 : left ≤ 9223372036854775807) :
    Calls Try.prog 54 #[.int .i64 left] w fun e w' => e = .returned (.int .i64 (Mx.less left)) ∧ w' = w := by
  by_cases h : left < 0
  · have HR := hide (show Mx.less left = left by unfold Mx.less; rw [if_pos h])
    go_enter Try.func54, Try.ntmps54
    go_wp2
    go_ret
    exact ⟨by rw [HR.out]; rfl, rfl⟩
  · have HR := hide (show Mx.less left = left - 1 by unfold Mx.less; rw [if_neg h])
    go_enter Try.func54, Try.ntmps54
    go_wp2
    go_ret
    exact ⟨by rw [HR.out]; rfl, rfl⟩

/-- B3's number of bytes -/
def Mx.kept (x : Int) : Int := (if x < 0 then -(x + 1) else x) % 9
theorem Mx.kept_lt (x : Int) : 0 ≤ Mx.kept x ∧ Mx.kept x ≤ 8 := by unfold Mx.kept; split <;> omega

set_option maxHeartbeats 1000000 in
theorem kept_any (x : Int) (w : World) (h1 : -9223372036854775808 ≤ x) (h2 : x ≤ 9223372036854775807) :
    Calls Try.prog 40 #[.int .i64 x] w fun e w' => e = .returned (.int .i64 (Mx.kept x)) ∧ w' = w := by
  by_cases h : x < 0
  · have HR := hide (show Mx.kept x = -((x + 1).tmod 9) by unfold Mx.kept; rw [if_pos h, ← Int.neg_tmod, Int.tmod_eq_emod_of_nonneg (by omega)])
    go_enter Try.func40, Try.ntmps40
    go_wp2
    go_ret
    exact ⟨by rw [HR.out]; rfl, rfl⟩
  · have HR := hide (show Mx.kept x = x % 9 by unfold Mx.kept; rw [if_neg h])
    go_enter Try.func40, Try.ntmps40
    go_wp2
    go_ret
    exact ⟨by rw [HR.out]; rfl, rfl⟩

set_option maxHeartbeats 1000000 in
theorem pick9_any (x : Int) (w : World) (h1 : -9223372036854775808 ≤ x) (h2 : x ≤ 9223372036854775807) :
    Calls Try.prog 13 #[.int .i64 x, .int .i64 9] w fun e w' => e = .returned (.int .i64 (Mx.kept x)) ∧ w' = w := by
  by_cases h : x < 0
  · have HR := hide (show Mx.kept x = -((x + 1).tmod 9) by unfold Mx.kept; rw [if_pos h, ← Int.neg_tmod, Int.tmod_eq_emod_of_nonneg (by omega)])
    go_enter Try.func13, Try.ntmps13
    go_wp2
    go_ret
    exact ⟨by rw [HR.out]; rfl, rfl⟩
  · have HR := hide (show Mx.kept x = x % 9 by unfold Mx.kept; rw [if_neg h])
    go_enter Try.func13, Try.ntmps13
    go_wp2
    go_ret
    exact ⟨by rw [HR.out]; rfl, rfl⟩
end Go.Proofs.Ytfbmaemnbolplaa

/-
  Two lists of blocks, of puts, two disks: alike or not (SameBlocks, SamePuts, SameDisk).
-/
namespace Go.Proofs.Ytfbmaemnbolplaa
open Go.RowKit

theorem getElem_take_succ {α : Type} (l : List α) (k : Nat) (x : α) (h : l[k]? = some x) : l.take (k + 1) = l.take k ++ [x] := by
  rw [List.take_add_one, h]
  rfl

theorem B8.eq_list (x y : B8) : [x.z0, x.z1, x.z2, x.z3, x.z4, x.z5, x.z6, x.z7] = [y.z0, y.z1, y.z2, y.z3, y.z4, y.z5, y.z6, y.z7] ↔ x = y := by
  constructor
  · intro h
    simp only [List.cons.injEq, and_true] at h
    obtain ⟨h0, h1, h2, h3, h4, h5, h6, h7⟩ := h
    cases x
    cases y
    simp_all
  · rintro rfl
    rfl

theorem take_all_eq {α : Type} {l1 l2 : List α} {k : Nat} (h1 : l1.length ≤ k) (h2 : l2.length ≤ k) (h : l1.take k = l2.take k) : l1 = l2 := by
  rw [← List.take_of_length_le h1, ← List.take_of_length_le h2, h]

theorem take_not_eq {α : Type} {l1 l2 : List α} {k : Nat} {x y : α} (h1 : l1[k]? = some x) (h2 : l2[k]? = some y) (h : x ≠ y) : ¬ l1 = l2 := by
  rintro rfl
  rw [h1] at h2
  exact h (Option.some.inj h2)

set_option maxHeartbeats 1000000 in
set_option maxRecDepth 100000 in
theorem sameBL_gen (a1 a2 : Option Addr) (n1 c1 n2 c2 : Nat) (l1 l2 : List B8) (w : World) (h1 : BL w a1 n1 l1) (h2 : BL w a2 n2 l2) :
    Calls Try.prog 23 #[.slice a1 n1 c1, .slice a2 n2 c2] w fun e w' => ∃ r : Bool, e = .returned (.bool r) ∧ (r = true ↔ l1 = l2) ∧ ∃ n, w' = w.drewN n := by
  have hlen : n1 ≤ maxLen := h1.2.2.1
  have hlen2 : n2 ≤ maxLen := h2.2.2.1
  unfold maxLen at hlen hlen2
  have H1 := hide h1
  have H2 := hide h2
  clear h1 h2
  by_cases hn : n1 = n2
  · subst hn
    go_enter Try.func23, Try.ntmps23
    go_wp2
    go_loopw [5] (fun i wr => ∃ k : Nat, k ≤ n1 ∧ i = .int .i64 k ∧ Hid (l1.take k = l2.take k) ∧ ∃ n, wr = w.drewN n) (fun i _ => n1 - (intOf i).toNat)
    case atStart => exact ⟨0, by omega, rfl, rfl, 0, rfl⟩
    case round =>
      obtain ⟨k, hk, rfl, hE, n, rfl⟩ := hrel
      by_cases hlt : k < n1
      · obtain ⟨b, off, x, rfl, hb, hx, e0, e1, e2, e3, e4, e5, e6, e7⟩ := H1.out.at_ k hlt
        obtain ⟨b', off', y, rfl, hb', hy, f0, f1, f2, f3, f4, f5, f6, f7⟩ := H2.out.at_ k hlt
        have HX := hide hx
        have HY := hide hy
        clear hx hy
        have heq := equal_block x.z0 x.z1 x.z2 x.z3 x.z4 x.z5 x.z6 x.z7 y.z0 y.z1 y.z2 y.z3 y.z4 y.z5 y.z6 y.z7
        by_cases hcc : [x.z0, x.z1, x.z2, x.z3, x.z4, x.z5, x.z6, x.z7] = [y.z0, y.z1, y.z2, y.z3, y.z4, y.z5, y.z6, y.z7]
        · have HC := hide ((B8.eq_list x y).1 hcc)
          rw [decide_eq_true hcc] at heq
          clear hcc
          go_wp2_with fail
          go_quiet (fail)
          go_wp2
          go_roundw
          case rel => exact ⟨k + 1, by omega, by go_num, by unfold Hid; rw [getElem_take_succ _ _ _ HX.out, getElem_take_succ _ _ _ HY.out, hE.out, HC.out], _, rfl⟩
          case measure => simp [intOf]; omega
        · have HF := hide (take_not_eq HX.out HY.out (fun e => hcc ((B8.eq_list x y).2 e)))
          rw [decide_eq_false hcc] at heq
          clear hcc
          go_wp2_with fail
          go_quiet (fail)
          go_wp2
          go_ret
          exact ⟨false, rfl, ⟨fun h => by simp at h, fun h => absurd h HF.out⟩, _, by rw [World.drewN_drewN]⟩
      · have HF := hide (take_all_eq (by rw [H1.out.1]; omega) (by rw [H2.out.1]; omega) hE.out)
        go_wp2
        go_ret
        exact ⟨true, rfl, ⟨fun _ => HF.out, fun _ => rfl⟩, _, rfl⟩
  · have hne : ((n1 : Int) != (n2 : Int)) = true := by simp; omega
    have HF := hide (show ¬ l1 = l2 by
      intro e
      have h3 := H1.out.1
      rw [e, H2.out.1] at h3
      omega)
    clear hn
    go_enter Try.func23, Try.ntmps23
    go_wp2
    go_ret
    exact ⟨false, rfl, ⟨fun h => by simp at h, fun h => absurd h HF.out⟩, 0, rfl⟩

theorem Try.fields58 : (Try.prog.fieldsOf 40).toList.map (fun f => (f.name, f.type, f.offset)) = [("At", 3, 0), ("Data", 38, 1)] := by kernel_rfl
theorem Try.under58 : Try.prog.underlying 40 = some (.struct (Try.prog.fieldsOf 40)) := by kernel_rfl
theorem Try.stood58 : Try.prog.stoodInHeld 40 = false := by kernel_rfl

theorem two_of_map {α β : Type} {φ : α → β} {l : List α} {a b : β} (h : l.map φ = [a, b]) : ∃ x y, l = [x, y] ∧ φ x = a ∧ φ y = b := by
  obtain ⟨x, l1, rfl, h1, h2⟩ := List.map_eq_cons_iff.1 h
  obtain ⟨y, l2, rfl, h3, h4⟩ := List.map_eq_cons_iff.1 h2
  rw [List.map_eq_nil_iff] at h4
  subst h4
  exact ⟨x, y, rfl, h1, h3⟩

theorem part_data (W : World) (p : Pt) : (part 38 #[.int .i64 p.at_, .int .u8 p.d.z0, .int .u8 p.d.z1, .int .u8 p.d.z2, .int .u8 p.d.z3, .int .u8 p.d.z4, .int .u8 p.d.z5, .int .u8 p.d.z6, .int .u8 p.d.z7] 1).run Try.prog W = .ok (.agg #[.int .u8 p.d.z0, .int .u8 p.d.z1, .int .u8 p.d.z2, .int .u8 p.d.z3, .int .u8 p.d.z4, .int .u8 p.d.z5, .int .u8 p.d.z6, .int .u8 p.d.z7]) W := by
  simp [part, isAgg, run_underlying Try.underlying38, sizeOf, go_sem]
  rw [show Try.t38.size = 8 by kernel_rfl]
  rfl
theorem part_at (W : World) (p : Pt) : (part 3 #[.int .i64 p.at_, .int .u8 p.d.z0, .int .u8 p.d.z1, .int .u8 p.d.z2, .int .u8 p.d.z3, .int .u8 p.d.z4, .int .u8 p.d.z5, .int .u8 p.d.z6, .int .u8 p.d.z7] 0).run Try.prog W = .ok (.int .i64 p.at_) W := by
  simp [part, isAgg, run_underlying Try.underlying3]

theorem equal_data (p q : Pt) (W : World) : (Op.equalIn 9999 38 (.agg #[.int .u8 p.d.z0, .int .u8 p.d.z1, .int .u8 p.d.z2, .int .u8 p.d.z3, .int .u8 p.d.z4, .int .u8 p.d.z5, .int .u8 p.d.z6, .int .u8 p.d.z7]) (.agg #[.int .u8 q.d.z0, .int .u8 q.d.z1, .int .u8 q.d.z2, .int .u8 q.d.z3, .int .u8 q.d.z4, .int .u8 q.d.z5, .int .u8 q.d.z6, .int .u8 q.d.z7])).run Try.prog W = .ok (decide ([p.d.z0, p.d.z1, p.d.z2, p.d.z3, p.d.z4, p.d.z5, p.d.z6, p.d.z7] = [q.d.z0, q.d.z1, q.d.z2, q.d.z3, q.d.z4, q.d.z5, q.d.z6, q.d.z7])) W := by
  obtain ⟨i0, hi, _⟩ := info_parts Try.info5
  rw [run_equalIn_array W 9998 _ _ Try.underlying38 hi, Try.cellsOf5]
  exact (run_eqItems_bytes W 9997 Try.underlying5 [p.d.z0, p.d.z1, p.d.z2, p.d.z3, p.d.z4, p.d.z5, p.d.z6, p.d.z7] [q.d.z0, q.d.z1, q.d.z2, q.d.z3, q.d.z4, q.d.z5, q.d.z6, q.d.z7] _ (fun i hi => by have := List.mem_range.1 hi; simp; omega)).trans (by rw [all_getD 8 _ _ rfl rfl])

theorem equal_put (p q : Pt) (W : World) :
    (Op.equalIn 10000 40 (.agg #[.int .i64 p.at_, .int .u8 p.d.z0, .int .u8 p.d.z1, .int .u8 p.d.z2, .int .u8 p.d.z3, .int .u8 p.d.z4, .int .u8 p.d.z5, .int .u8 p.d.z6, .int .u8 p.d.z7]) (.agg #[.int .i64 q.at_, .int .u8 q.d.z0, .int .u8 q.d.z1, .int .u8 q.d.z2, .int .u8 q.d.z3, .int .u8 q.d.z4, .int .u8 q.d.z5, .int .u8 q.d.z6, .int .u8 q.d.z7])).run Try.prog W
      = .ok (p.at_ == q.at_ && decide ([p.d.z0, p.d.z1, p.d.z2, p.d.z3, p.d.z4, p.d.z5, p.d.z6, p.d.z7] = [q.d.z0, q.d.z1, q.d.z2, q.d.z3, q.d.z4, q.d.z5, q.d.z6, q.d.z7])) W := by
  rw [run_equalIn_struct W 9999 40 _ _ Try.under58 Try.stood58]
  have hf := Try.fields58
  obtain ⟨f0, f1, hfs, g0, g1⟩ := two_of_map hf
  simp only [Prod.mk.injEq] at g0 g1
  obtain ⟨n0, t0, o0⟩ := g0
  obtain ⟨n1, t1, o1⟩ := g1
  rw [hfs]
  clear hf hfs
  have h9 := equal_data p q W
  simp only [Op.eqFields, n0, t0, o0, n1, t1, o1, Sem.run_bind, Sem.run_ite, part_at, part_data, Result.andThen_ok, run_equalIn_int W 9998 3 .i64 .i64 _ _ Try.underlying3, h9]
  cases hb : (p.at_ == q.at_)
  · simp
  · cases hd : decide ([p.d.z0, p.d.z1, p.d.z2, p.d.z3, p.d.z4, p.d.z5, p.d.z6, p.d.z7] = [q.d.z0, q.d.z1, q.d.z2, q.d.z3, q.d.z4, q.d.z5, q.d.z6, q.d.z7])
    · simp
    · simp

theorem Pt.eq_iff (p q : Pt) : (p.at_ == q.at_ && decide ([p.d.z0, p.d.z1, p.d.z2, p.d.z3, p.d.z4, p.d.z5, p.d.z6, p.d.z7] = [q.d.z0, q.d.z1, q.d.z2, q.d.z3, q.d.z4, q.d.z5, q.d.z6, q.d.z7])) = true ↔ p = q := by
  rw [Bool.and_eq_true, beq_iff_eq, decide_eq_true_iff, B8.eq_list]
  constructor
  · rintro ⟨h1, h2⟩
    cases p
    cases q
    simp_all
  · rintro rfl
    exact ⟨rfl, rfl⟩

set_option maxHeartbeats 1000000 in
set_option maxRecDepth 100000 in
theorem samePL_gen (a1 a2 : Option Addr) (n1 c1 n2 c2 : Nat) (l1 l2 : List Pt) (w : World) (h1 : PL w a1 n1 l1) (h2 : PL w a2 n2 l2) :
    Calls Try.prog 24 #[.slice a1 n1 c1, .slice a2 n2 c2] w fun e w' => ∃ r : Bool, e = .returned (.bool r) ∧ (r = true ↔ l1 = l2) ∧ ∃ n, w' = w.drewN n := by
  have hlen : n1 ≤ maxLen := h1.2.2.1
  have hlen2 : n2 ≤ maxLen := h2.2.2.1
  unfold maxLen at hlen hlen2
  have H1 := hide h1
  have H2 := hide h2
  clear h1 h2
  by_cases hn : n1 = n2
  · subst hn
    go_enter Try.func24, Try.ntmps24
    go_wp2
    go_loopw [5] (fun i wr => ∃ k : Nat, k ≤ n1 ∧ i = .int .i64 k ∧ Hid (l1.take k = l2.take k) ∧ ∃ n, wr = w.drewN n) (fun i _ => n1 - (intOf i).toNat)
    case atStart => exact ⟨0, by omega, rfl, rfl, 0, rfl⟩
    case round =>
      obtain ⟨k, hk, rfl, hE, n, rfl⟩ := hrel
      by_cases hlt : k < n1
      · obtain ⟨b, off, p, rfl, hb, hx, e0, e1, e2, e3, e4, e5, e6, e7, e8⟩ := H1.out.at_ k hlt
        obtain ⟨b', off', q, rfl, hb', hy, f0, f1, f2, f3, f4, f5, f6, f7, f8⟩ := H2.out.at_ k hlt
        have HX := hide hx
        have HY := hide hy
        clear hx hy
        have heq := equal_put p q
        have HI := hide (Pt.eq_iff p q)
        cases hcc : (p.at_ == q.at_ && decide ([p.d.z0, p.d.z1, p.d.z2, p.d.z3, p.d.z4, p.d.z5, p.d.z6, p.d.z7] = [q.d.z0, q.d.z1, q.d.z2, q.d.z3, q.d.z4, q.d.z5, q.d.z6, q.d.z7])) with
        | true =>
          rw [hcc] at heq
          have HC := hide (HI.out.1 hcc)
          clear hcc
          go_wp2_with fail
          go_quiet (fail)
          go_wp2
          go_roundw
          case rel => exact ⟨k + 1, by omega, by go_num, by unfold Hid; rw [getElem_take_succ _ _ _ HX.out, getElem_take_succ _ _ _ HY.out, hE.out, HC.out], _, rfl⟩
          case measure => simp [intOf]; omega
        | false =>
          have HF := hide (take_not_eq HX.out HY.out (fun e => by rw [HI.out.2 e] at hcc; cases hcc))
          rw [hcc] at heq
          clear hcc
          go_wp2_with fail
          go_quiet (fail)
          go_wp2
          go_ret
          exact ⟨false, rfl, ⟨fun h => by simp at h, fun h => absurd h HF.out⟩, _, by rw [World.drewN_drewN]⟩
      · have HF := hide (take_all_eq (by rw [H1.out.1]; omega) (by rw [H2.out.1]; omega) hE.out)
        go_wp2
        go_ret
        exact ⟨true, rfl, ⟨fun _ => HF.out, fun _ => rfl⟩, _, rfl⟩
  · have hne : ((n1 : Int) != (n2 : Int)) = true := by simp; omega
    have HF := hide (show ¬ l1 = l2 by
      intro e
      have h3 := H1.out.1
      rw [e, H2.out.1] at h3
      omega)
    clear hn
    go_enter Try.func24, Try.ntmps24
    go_wp2
    go_ret
    exact ⟨false, rfl, ⟨fun h => by simp at h, fun h => absurd h HF.out⟩, 0, rfl⟩

set_option maxHeartbeats 1000000 in
set_option maxRecDepth 100000 in
theorem sameDisk_any (sa pa sa' pa' : Option Addr) (n sc m pc n' sc' m' pc' : Nat) (left left' : Int) (ls ls' : List B8) (ps ps' : List Pt) (w : World) (h1 : BL w sa n ls) (h2 : PL w pa m ps) (h3 : BL w sa' n' ls') (h4 : PL w pa' m' ps') (hl : ls = ls') (hp : ps = ps') (he : left = left') :
    Calls Try.prog 8 #[.agg #[.slice sa n sc, .slice pa m pc, .int .i64 left], .agg #[.slice sa' n' sc', .slice pa' m' pc', .int .i64 left']] w fun e w' => e = .returned (.bool true) ∧ Below w.heap.size w w' := by
  have H1 := hide h1
  have H2 := hide h2
  have H3 := hide h3
  have H4 := hide h4
  have HL := hide hl
  have HP := hide hp
  subst he
  clear h1 h2 h3 h4 hl hp
  go_enter Try.func8, Try.ntmps8
  go_wp2_with fail
  have HB := hide ((below_alloc w (.cells #[.slice sa n sc, .slice pa m pc, .int .i64 left] 29)).alloc (by simp) (.cells #[.slice sa' n' sc', .slice pa' m' pc', .int .i64 left] 29))
  refine (sameBL_gen sa sa' n sc n' sc' ls ls' _ (H1.out.later HB.out) (H3.out.later HB.out)).mono ?_
  rintro e w1 ⟨r, rfl, hr, nq, rfl⟩
  obtain rfl : r = true := hr.2 HL.out
  clear hr
  go_wp2_with fail
  refine (samePL_gen pa pa' m pc m' pc' ps ps' _ (H2.out.later (below_drewN HB.out _)) (H4.out.later (below_drewN HB.out _))).mono ?_
  rintro e w2 ⟨r, rfl, hr, nq2, rfl⟩
  obtain rfl : r = true := hr.2 HP.out
  clear hr
  go_wp2
  go_ret
  exact ⟨rfl, below_drewN HB.out _⟩
end Go.Proofs.Ytfbmaemnbolplaa
