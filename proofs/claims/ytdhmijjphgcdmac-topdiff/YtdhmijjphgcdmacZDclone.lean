/-
  Copies in memory of their own: slices.Clone at blocks and at puts, OwnBlocks; lessOne, kept.
-/
import Derived.Lib.SliceRun
import Derived.Test.YtdhmijjphgcdmacZIter

namespace Go.Proofs.Ytdhmijjphgcdmac
open Go.RowKit

theorem rowR_empty {w : World} {n size : Nat} {xs : List Value} (h : RowR w none n size xs) : n = 0 ∧ xs = [] := by
  obtain ⟨h1, _, h3⟩ := h
  have : n = 0 := by
    rcases Nat.eq_zero_or_pos n with h | h
    · exact h
    · obtain ⟨b, off, hb, _⟩ := h3 h
      cases hb
  subst this
  exact ⟨rfl, List.eq_nil_of_length_eq_zero (by simpa using h1)⟩
theorem rowR_zero {w : World} {a : Option Addr} {size : Nat} {xs : List Value} (h : RowR w a 0 size xs) : xs = [] := List.eq_nil_of_length_eq_zero (by simpa using h.1)

set_option maxHeartbeats 1000000 in
set_option maxRecDepth 100000 in
theorem cloneB_any (a : Option Addr) (n c : Nat) (l : List B8) (w : World) (hl : BL w a n l) (hn : n ≤ 1000000) :
    Calls Try.prog 49 #[.slice a n c] w fun e w' => ∃ v, e = .returned v ∧ OwnBL w' w.heap.size v l ∧ Below w.heap.size w w' := by
  have q : ∀ (w : World) (a : Option Addr) (n c n' c' : Nat), (binOp .eql 23 (.slice a n c) (.slice none n' c')).run Try.prog w = .ok (.bool a.isNone) w := fun w a n c n' c' => Lib.run_eql_slice_nil w _ _ a n c n' c' Try.underlying23
  have HL := hide hl
  clear hl
  cases a with
  | none =>
    obtain ⟨rfl, hx⟩ := rowR_empty HL.out.2
    have HX := hide (show l = [] from List.eq_nil_of_length_eq_zero HL.out.1)
    clear hx
    go_enter Try.func49, Try.ntmps49
    go_wp2
    go_ret
    refine ⟨_, rfl, ?_, Below.refl _ _⟩
    rw [HX.out]
    exact World.ownsRow_nil w _ 50 8
  | some ad =>
    go_enter Try.func49, Try.ntmps49
    obtain ⟨i0, hi, hz0, hz1, hz2⟩ := info_parts Try.info50
    go_wp2_with (at_builtin; refine wpList_append_own _ rfl _ _ 23 rfl w.heap.size 50 i0 _ 8 8 Try.underlying23 hi hz0 hz1 hz2 rfl (by decide) _ _ _ rfl (World.ownsRow_made w #[] 0 (Nat.le_refl _) (Nat.zero_le _) (by simp)) ad n c (flatB l) rfl ?qc1 ?qc2 ?qc3 ?qc4 ?qc5 ?qc6 ?_)
    case qc1 => exact HL.out.2.1
    case qc2 =>
      intro j u hj
      rcases Nat.eq_zero_or_pos n with h | h
      · subst h
        rw [rowR_zero HL.out.2] at hj
        simp at hj
      · obtain ⟨b, off, hb, hlt, hc⟩ := HL.out.2.2.2 h
        cases hb
        rw [Addr.add_lit]
        exact Lib.cell?_alloc_some _ (hc j u hj)
    case qc3 => exact flatB_one
    case qc4 => unfold maxLen; omega
    case qc5 => omega
    case qc6 => simp
    intro v' w1 hown hgrow hnil
    have HO := hide hown
    have HG := hide hgrow
    clear hown hgrow hnil
    go_wp2
    go_ret
    refine ⟨v', rfl, ?_, ?_⟩
    · have := HO.out
      unfold OwnBL
      rw [HL.out.1]
      simpa using this
    · exact ((Below.refl _ w).alloc (Nat.le_refl _) _).grown HG.out (by simp) (by intro k hk; simp [Value.ownBlock] at hk; omega)

set_option maxHeartbeats 1000000 in
set_option maxRecDepth 100000 in
theorem cloneP_any (a : Option Addr) (n c : Nat) (l : List Pt) (w : World) (hl : PL w a n l) (hn : n ≤ 1000000) :
    Calls Try.prog 83 #[.slice a n c] w fun e w' => ∃ v, e = .returned v ∧ OwnPL w' w.heap.size v l ∧ Below w.heap.size w w' := by
  have q : ∀ (w : World) (a : Option Addr) (n c n' c' : Nat), (binOp .eql 38 (.slice a n c) (.slice none n' c')).run Try.prog w = .ok (.bool a.isNone) w := fun w a n c n' c' => Lib.run_eql_slice_nil w _ _ a n c n' c' Try.underlying38
  have HL := hide hl
  clear hl
  cases a with
  | none =>
    obtain ⟨rfl, hx⟩ := rowR_empty HL.out.2
    have HX := hide (show l = [] from List.eq_nil_of_length_eq_zero HL.out.1)
    clear hx
    go_enter Try.func83, Try.ntmps83
    go_wp2
    go_ret
    refine ⟨_, rfl, ?_, Below.refl _ _⟩
    rw [HX.out]
    exact World.ownsRow_nil w _ 52 9
  | some ad =>
    go_enter Try.func83, Try.ntmps83
    obtain ⟨i0, hi, hz0, hz1, hz2⟩ := info_parts Try.info52
    go_wp2_with (at_builtin; refine wpList_append_own _ rfl _ _ 38 rfl w.heap.size 52 i0 _ 9 16 Try.underlying38 hi hz0 hz1 hz2 rfl (by decide) _ _ _ rfl (World.ownsRow_made w #[] 0 (Nat.le_refl _) (Nat.zero_le _) (by simp)) ad n c (flatP l) rfl ?qc1 ?qc2 ?qc3 ?qc4 ?qc5 ?qc6 ?_)
    case qc1 => exact HL.out.2.1
    case qc2 =>
      intro j u hj
      rcases Nat.eq_zero_or_pos n with h | h
      · subst h
        rw [rowR_zero HL.out.2] at hj
        simp at hj
      · obtain ⟨b, off, hb, hlt, hc⟩ := HL.out.2.2.2 h
        cases hb
        rw [Addr.add_lit]
        exact Lib.cell?_alloc_some _ (hc j u hj)
    case qc3 => exact flatP_one
    case qc4 => unfold maxLen; omega
    case qc5 => omega
    case qc6 => simp
    intro v' w1 hown hgrow hnil
    have HO := hide hown
    have HG := hide hgrow
    clear hown hgrow hnil
    go_wp2
    go_ret
    refine ⟨v', rfl, ?_, ?_⟩
    · have := HO.out
      unfold OwnPL
      rw [HL.out.1]
      simpa using this
    · exact ((Below.refl _ w).alloc (Nat.le_refl _) _).grown HG.out (by simp) (by intro k hk; simp [Value.ownBlock] at hk; omega)

set_option maxHeartbeats 1000000 in
set_option maxRecDepth 100000 in
theorem ownBlocks_any (a : Option Addr) (n c : Nat) (l : List B8) (w : World) (hl : BL w a n l) (hn : n ≤ 1000000) :
    Calls Try.prog 19 #[.slice a n c] w fun e w' => ∃ v, e = .returned v ∧ OwnBL w' w.heap.size v l ∧ Below w.heap.size w w' := by
  have HL := hide hl
  clear hl
  obtain ⟨i0, hi, hz0, hz1, hz2⟩ := info_parts Try.info50
  cases a with
  | none =>
    obtain ⟨rfl, hx⟩ := rowR_empty HL.out.2
    have HX := hide (show l = [] from List.eq_nil_of_length_eq_zero HL.out.1)
    clear hx
    go_enter Try.func19, Try.ntmps19
    go_wp2
    go_ret
    refine ⟨_, rfl, ?_, below_alloc _ _⟩
    rw [HX.out]
    exact World.ownsRow_made w #[] 0 (Nat.le_refl _) (Nat.zero_le _) (by simp)
  | some ad =>
    go_enter Try.func19, Try.ntmps19
    go_wp2_with (at_builtin; refine wpList_append_own _ rfl _ _ 23 rfl w.heap.size 50 i0 _ 8 8 Try.underlying23 hi hz0 hz1 hz2 rfl (by decide) _ _ _ rfl (World.ownsRow_made w #[] 0 (Nat.le_refl _) (Nat.zero_le _) (by simp)) ad n c (flatB l) rfl ?qc1 ?qc2 ?qc3 ?qc4 ?qc5 ?qc6 ?_)
    case qc1 => exact HL.out.2.1
    case qc2 =>
      intro j u hj
      rcases Nat.eq_zero_or_pos n with h | h
      · subst h
        rw [rowR_zero HL.out.2] at hj
        simp at hj
      · obtain ⟨b, off, hb, hlt, hc⟩ := HL.out.2.2.2 h
        cases hb
        rw [Addr.add_lit]
        exact Lib.cell?_alloc_some _ (hc j u hj)
    case qc3 => exact flatB_one
    case qc4 => unfold maxLen; omega
    case qc5 => omega
    case qc6 => simp
    intro v' w1 hown hgrow hnil
    have HO := hide hown
    have HG := hide hgrow
    clear hown hgrow hnil
    go_wp2
    go_ret
    refine ⟨v', rfl, ?_, ?_⟩
    · have := HO.out
      unfold OwnBL
      rw [HL.out.1]
      simpa using this
    · exact ((Below.refl _ w).alloc (Nat.le_refl _) _).grown HG.out (by simp) (by intro k hk; simp [Value.ownBlock] at hk; omega)

/-- what is left of steps behind one -/
def Mx.less (left : Int) : Int := if left < 0 then left else left - 1

set_option maxHeartbeats 1000000 in
theorem lessOne_any (left : Int) (w : World) (h1 : -9223372036854775808 ≤ left) (h2 : left ≤ 9223372036854775807) :
    Calls Try.prog 110 #[.int .i64 left] w fun e w' => e = .returned (.int .i64 (Mx.less left)) ∧ w' = w := by
  by_cases h : left < 0
  · have HR := hide (show Mx.less left = left by unfold Mx.less; rw [if_pos h])
    go_enter Try.func110, Try.ntmps110
    go_wp2
    go_ret
    exact ⟨by rw [HR.out]; rfl, rfl⟩
  · have HR := hide (show Mx.less left = left - 1 by unfold Mx.less; rw [if_neg h])
    go_enter Try.func110, Try.ntmps110
    go_wp2
    go_ret
    exact ⟨by rw [HR.out]; rfl, rfl⟩

/-- B3's number of bytes -/
def Mx.kept (x : Int) : Int := (if x < 0 then -(x + 1) else x) % 9
theorem Mx.kept_lt (x : Int) : 0 ≤ Mx.kept x ∧ Mx.kept x ≤ 8 := by unfold Mx.kept; split <;> omega

set_option maxHeartbeats 1000000 in
theorem kept_any (x : Int) (w : World) (h1 : -9223372036854775808 ≤ x) (h2 : x ≤ 9223372036854775807) :
    Calls Try.prog 50 #[.int .i64 x] w fun e w' => e = .returned (.int .i64 (Mx.kept x)) ∧ w' = w := by
  by_cases h : x < 0
  · have HR := hide (show Mx.kept x = -((x + 1).tmod 9) by unfold Mx.kept; rw [if_pos h, ← Int.neg_tmod, Int.tmod_eq_emod_of_nonneg (by omega)])
    go_enter Try.func50, Try.ntmps50
    go_wp2
    go_ret
    exact ⟨by rw [HR.out]; rfl, rfl⟩
  · have HR := hide (show Mx.kept x = x % 9 by unfold Mx.kept; rw [if_neg h])
    go_enter Try.func50, Try.ntmps50
    go_wp2
    go_ret
    exact ⟨by rw [HR.out]; rfl, rfl⟩

set_option maxHeartbeats 1000000 in
theorem pick9_any (x : Int) (w : World) (h1 : -9223372036854775808 ≤ x) (h2 : x ≤ 9223372036854775807) :
    Calls Try.prog 14 #[.int .i64 x, .int .i64 9] w fun e w' => e = .returned (.int .i64 (Mx.kept x)) ∧ w' = w := by
  by_cases h : x < 0
  · have HR := hide (show Mx.kept x = -((x + 1).tmod 9) by unfold Mx.kept; rw [if_pos h, ← Int.neg_tmod, Int.tmod_eq_emod_of_nonneg (by omega)])
    go_enter Try.func14, Try.ntmps14
    go_wp2
    go_ret
    exact ⟨by rw [HR.out]; rfl, rfl⟩
  · have HR := hide (show Mx.kept x = x % 9 by unfold Mx.kept; rw [if_neg h])
    go_enter Try.func14, Try.ntmps14
    go_wp2
    go_ret
    exact ⟨by rw [HR.out]; rfl, rfl⟩
end Go.Proofs.Ytdhmijjphgcdmac

/-
  Two lists of blocks, of puts, two disks: alike or not (SameBlocks, SamePuts, SameDisk).
-/
namespace Go.Proofs.Ytdhmijjphgcdmac
open Go.RowKit

theorem getElem_take_succ {α : Type} (l : List α) (k : Nat) (x : α) (h : l[k]? = some x) : l.take (k + 1) = l.take k ++ [x] := by
  rw [List.take_add_one, h]
  rfl

theorem B8.eq_list (x y : B8) : [x.z0, x.z1, x.z2, x.z3, x.z4, x.z5, x.z6, x.z7] = [y.z0, y.z1, y.z2, y.z3, y.z4, y.z5, y.z6, y.z7] ↔ x = y := by
  constructor
  · intro h
    simp only [List.cons.injEq, and_true] at h
    obtain ⟨h0, h1, h2, h3, h4, h5, h6, h7⟩ := h
    cases x
    cases y
    simp_all
  · rintro rfl
    rfl

theorem take_all_eq {α : Type} {l1 l2 : List α} {k : Nat} (h1 : l1.length ≤ k) (h2 : l2.length ≤ k) (h : l1.take k = l2.take k) : l1 = l2 := by
  rw [← List.take_of_length_le h1, ← List.take_of_length_le h2, h]

theorem take_not_eq {α : Type} {l1 l2 : List α} {k : Nat} {x y : α} (h1 : l1[k]? = some x) (h2 : l2[k]? = some y) (h : x ≠ y) : ¬ l1 = l2 := by
  rintro rfl
  rw [h1] at h2
  exact h (Option.some.inj h2)

set_option maxHeartbeats 1000000 in
set_option maxRecDepth 100000 in
theorem sameBL_gen (a1 a2 : Option Addr) (n1 c1 n2 c2 : Nat) (l1 l2 : List B8) (w : World) (h1 : BL w a1 n1 l1) (h2 : BL w a2 n2 l2) :
    Calls Try.prog 34 #[.slice a1 n1 c1, .slice a2 n2 c2] w fun e w' => ∃ r : Bool, e = .returned (.bool r) ∧ (r = true ↔ l1 = l2) ∧ ∃ n, w' = w.drewN n := by
  have hlen : n1 ≤ maxLen := h1.2.2.1
  have hlen2 : n2 ≤ maxLen := h2.2.2.1
  unfold maxLen at hlen hlen2
  have H1 := hide h1
  have H2 := hide h2
  clear h1 h2
  by_cases hn : n1 = n2
  · subst hn
    go_enter Try.func34, Try.ntmps34
    go_wp2
    go_loopw [5] (fun i wr => ∃ k : Nat, k ≤ n1 ∧ i = .int .i64 k ∧ Hid (l1.take k = l2.take k) ∧ ∃ n, wr = w.drewN n) (fun i _ => n1 - (intOf i).toNat)
    case atStart => exact ⟨0, by omega, rfl, rfl, 0, rfl⟩
    case round =>
      obtain ⟨k, hk, rfl, hE, n, rfl⟩ := hrel
      by_cases hlt : k < n1
      · obtain ⟨b, off, x, rfl, hb, hx, e0, e1, e2, e3, e4, e5, e6, e7⟩ := H1.out.at_ k hlt
        obtain ⟨b', off', y, rfl, hb', hy, f0, f1, f2, f3, f4, f5, f6, f7⟩ := H2.out.at_ k hlt
        have HX := hide hx
        have HY := hide hy
        clear hx hy
        have heq := equal_block x.z0 x.z1 x.z2 x.z3 x.z4 x.z5 x.z6 x.z7 y.z0 y.z1 y.z2 y.z3 y.z4 y.z5 y.z6 y.z7
        by_cases hcc : [x.z0, x.z1, x.z2, x.z3, x.z4, x.z5, x.z6, x.z7] = [y.z0, y.z1, y.z2, y.z3, y.z4, y.z5, y.z6, y.z7]
        · have HC := hide ((B8.eq_list x y).1 hcc)
          rw [decide_eq_true hcc] at heq
          clear hcc
          go_wp2_with fail
          go_quiet (fail)
          go_wp2
          go_roundw
          case rel => exact ⟨k + 1, by omega, by go_num, by unfold Hid; rw [getElem_take_succ _ _ _ HX.out, getElem_take_succ _ _ _ HY.out, hE.out, HC.out], _, rfl⟩
          case measure => simp [intOf]; omega
        · have HF := hide (take_not_eq HX.out HY.out (fun e => hcc ((B8.eq_list x y).2 e)))
          rw [decide_eq_false hcc] at heq
          clear hcc
          go_wp2_with fail
          go_quiet (fail)
          go_wp2
          go_ret
          exact ⟨false, rfl, ⟨fun h => by simp at h, fun h => absurd h HF.out⟩, _, by rw [World.drewN_drewN]⟩
      · have HF := hide (take_all_eq (by rw [H1.out.1]; omega) (by rw [H2.out.1]; omega) hE.out)
        go_wp2
        go_ret
        exact ⟨true, rfl, ⟨fun _ => HF.out, fun _ => rfl⟩, _, rfl⟩
  · have hne : ((n1 : Int) != (n2 : Int)) = true := by simp; omega
    have HF := hide (show ¬ l1 = l2 by
      intro e
      have h3 := H1.out.1
      rw [e, H2.out.1] at h3
      omega)
    clear hn
    go_enter Try.func34, Try.ntmps34
    go_wp2
    go_ret
    exact ⟨false, rfl, ⟨fun h => by simp at h, fun h => absurd h HF.out⟩, 0, rfl⟩

theorem Try.fields58 : (Try.prog.fieldsOf 52).toList.map (fun f => (f.name, f.type, f.offset)) = [("At", 3, 0), ("Data", 50, 1)] := by kernel_rfl
theorem Try.under58 : Try.prog.underlying 52 = some (.struct (Try.prog.fieldsOf 52)) := by kernel_rfl
theorem Try.stood58 : Try.prog.stoodInHeld 52 = false := by kernel_rfl

theorem two_of_map {α β : Type} {φ : α → β} {l : List α} {a b : β} (h : l.map φ = [a, b]) : ∃ x y, l = [x, y] ∧ φ x = a ∧ φ y = b := by
  obtain ⟨x, l1, rfl, h1, h2⟩ := List.map_eq_cons_iff.1 h
  obtain ⟨y, l2, rfl, h3, h4⟩ := List.map_eq_cons_iff.1 h2
  rw [List.map_eq_nil_iff] at h4
  subst h4
  exact ⟨x, y, rfl, h1, h3⟩

theorem part_data (W : World) (p : Pt) : (part 50 #[.int .i64 p.at_, .int .u8 p.d.z0, .int .u8 p.d.z1, .int .u8 p.d.z2, .int .u8 p.d.z3, .int .u8 p.d.z4, .int .u8 p.d.z5, .int .u8 p.d.z6, .int .u8 p.d.z7] 1).run Try.prog W = .ok (.agg #[.int .u8 p.d.z0, .int .u8 p.d.z1, .int .u8 p.d.z2, .int .u8 p.d.z3, .int .u8 p.d.z4, .int .u8 p.d.z5, .int .u8 p.d.z6, .int .u8 p.d.z7]) W := by
  simp [part, isAgg, run_underlying Try.underlying50, sizeOf, go_sem]
  rw [show Try.t50.size = 8 by kernel_rfl]
  rfl
theorem part_at (W : World) (p : Pt) : (part 3 #[.int .i64 p.at_, .int .u8 p.d.z0, .int .u8 p.d.z1, .int .u8 p.d.z2, .int .u8 p.d.z3, .int .u8 p.d.z4, .int .u8 p.d.z5, .int .u8 p.d.z6, .int .u8 p.d.z7] 0).run Try.prog W = .ok (.int .i64 p.at_) W := by
  simp [part, isAgg, run_underlying Try.underlying3]

theorem equal_data (p q : Pt) (W : World) : (Op.equalIn 9999 50 (.agg #[.int .u8 p.d.z0, .int .u8 p.d.z1, .int .u8 p.d.z2, .int .u8 p.d.z3, .int .u8 p.d.z4, .int .u8 p.d.z5, .int .u8 p.d.z6, .int .u8 p.d.z7]) (.agg #[.int .u8 q.d.z0, .int .u8 q.d.z1, .int .u8 q.d.z2, .int .u8 q.d.z3, .int .u8 q.d.z4, .int .u8 q.d.z5, .int .u8 q.d.z6, .int .u8 q.d.z7])).run Try.prog W = .ok (decide ([p.d.z0, p.d.z1, p.d.z2, p.d.z3, p.d.z4, p.d.z5, p.d.z6, p.d.z7] = [q.d.z0, q.d.z1, q.d.z2, q.d.z3, q.d.z4, q.d.z5, q.d.z6, q.d.z7])) W := by
  obtain ⟨i0, hi, _⟩ := info_parts Try.info5
  rw [run_equalIn_array W 9998 _ _ Try.underlying50 hi, Try.cellsOf5]
  exact (run_eqItems_bytes W 9997 Try.underlying5 [p.d.z0, p.d.z1, p.d.z2, p.d.z3, p.d.z4, p.d.z5, p.d.z6, p.d.z7] [q.d.z0, q.d.z1, q.d.z2, q.d.z3, q.d.z4, q.d.z5, q.d.z6, q.d.z7] _ (fun i hi => by have := List.mem_range.1 hi; simp; omega)).trans (by rw [all_getD 8 _ _ rfl rfl])

theorem equal_put (p q : Pt) (W : World) :
    (Op.equalIn 10000 52 (.agg #[.int .i64 p.at_, .int .u8 p.d.z0, .int .u8 p.d.z1, .int .u8 p.d.z2, .int .u8 p.d.z3, .int .u8 p.d.z4, .int .u8 p.d.z5, .int .u8 p.d.z6, .int .u8 p.d.z7]) (.agg #[.int .i64 q.at_, .int .u8 q.d.z0, .int .u8 q.d.z1, .int .u8 q.d.z2, .int .u8 q.d.z3, .int .u8 q.d.z4, .int .u8 q.d.z5, .int .u8 q.d.z6, .int .u8 q.d.z7])).run Try.prog W
      = .ok (p.at_ == q.at_ && decide ([p.d.z0, p.d.z1, p.d.z2, p.d.z3, p.d.z4, p.d.z5, p.d.z6, p.d.z7] = [q.d.z0, q.d.z1, q.d.z2, q.d.z3, q.d.z4, q.d.z5, q.d.z6, q.d.z7])) W := by
  rw [run_equalIn_struct W 9999 52 _ _ Try.under58 Try.stood58]
  have hf := Try.fields58
  obtain ⟨f0, f1, hfs, g0, g1⟩ := two_of_map hf
  simp only [Prod.mk.injEq] at g0 g1
  obtain ⟨n0, t0, o0⟩ := g0
  obtain ⟨n1, t1, o1⟩ := g1
  rw [hfs]
  clear hf hfs
  have h9 := equal_data p q W
  simp only [Op.eqFields, n0, t0, o0, n1, t1, o1, Sem.run_bind, Sem.run_ite, part_at, part_data, Result.andThen_ok, run_equalIn_int W 9998 3 .i64 .i64 _ _ Try.underlying3, h9]
  cases hb : (p.at_ == q.at_)
  · simp
  · cases hd : decide ([p.d.z0, p.d.z1, p.d.z2, p.d.z3, p.d.z4, p.d.z5, p.d.z6, p.d.z7] = [q.d.z0, q.d.z1, q.d.z2, q.d.z3, q.d.z4, q.d.z5, q.d.z6, q.d.z7])
    · simp
    · simp

theorem Pt.eq_iff (p q : Pt) : (p.at_ == q.at_ && decide ([p.d.z0, p.d.z1, p.d.z2, p.d.z3, p.d.z4, p.d.z5, p.d.z6, p.d.z7] = [q.d.z0, q.d.z1, q.d.z2, q.d.z3, q.d.z4, q.d.z5, q.d.z6, q.d.z7])) = true ↔ p = q := by
  rw [Bool.and_eq_true, beq_iff_eq, decide_eq_true_iff, B8.eq_list]
  constructor
  · rintro ⟨h1, h2⟩
    cases p
    cases q
    simp_all
  · rintro rfl
    exact ⟨rfl, rfl⟩

end Go.Proofs.Ytdhmijjphgcdmac

/-
  The digest of digests: the program's (ofDigests).
-/
namespace Go.Proofs.Ytdhmijjphgcdmac
open Go.RowKit

theorem be8_at (x : Nat) :
    (Mx.be8 x)[0]? = some ((x / 72057594037927936 % 256 : Nat) : Int) ∧ (Mx.be8 x)[1]? = some ((x / 281474976710656 % 256 : Nat) : Int) ∧ (Mx.be8 x)[2]? = some ((x / 1099511627776 % 256 : Nat) : Int) ∧ (Mx.be8 x)[3]? = some ((x / 4294967296 % 256 : Nat) : Int) ∧
    (Mx.be8 x)[4]? = some ((x / 16777216 % 256 : Nat) : Int) ∧ (Mx.be8 x)[5]? = some ((x / 65536 % 256 : Nat) : Int) ∧ (Mx.be8 x)[6]? = some ((x / 256 % 256 : Nat) : Int) ∧ (Mx.be8 x)[7]? = some ((x % 256 : Nat) : Int) := by
  refine ⟨?_, ?_, ?_, ?_, ?_, ?_, ?_, ?_⟩ <;> simp [Mx.be8]

set_option maxHeartbeats 2000000 in
set_option maxRecDepth 100000 in
theorem ofDigests_any (a : Option Addr) (n c : Nat) (l : List Nat) (w : World) (hl : U64s w a n l) (hn : n ≤ 4) :
    Calls Try.prog 112 #[.slice a n c] w fun e w' => e = .returned (.int .u64 (Mx.overD l : Int)) ∧ Below w.heap.size w w' := by
  have HL := hide hl
  have HN := hide hl.1
  clear hl
  go_enter Try.func112, Try.ntmps112
  go_wp2_with fail
  go_loopw [3, 10] (fun v i wr => ∃ k : Nat, k ≤ n ∧ i = .int .i64 k ∧ Hid (Own wr w.heap.size v (1 :: (l.take k).flatMap Mx.be8)) ∧ Hid (Below w.heap.size w wr)) (fun _ i _ => n - (intOf i).toNat)
  case atStart =>
    refine ⟨0, by omega, rfl, ?_, below_alloc _ _⟩
    exact World.ownsRow_lit (base := w.heap.size) (e := 5) (size := 1) w #[.int .u8 1] 1 (by simp) (by unfold maxLen; omega) rfl
  case round =>
    obtain ⟨k, hk, rfl, hO, hF⟩ := hrel
    by_cases hlt : k < n
    · obtain ⟨b, off, x, rfl, hb, hx, hx2, e0⟩ := (HL.out.later hF.out).at_ k hlt
      have HX := hide hx
      clear hx
      go_wp2_with fail
      clear e0
      go_loopw [3, 6] (fun v s wr => ∃ (j : Nat) (s0 : Int), j ≤ 8 ∧ s = .int .i64 s0 ∧ s0 = 56 - 8 * (j : Int) ∧ Hid (Own wr w.heap.size v (1 :: (l.take k).flatMap Mx.be8 ++ (Mx.be8 x).take j)) ∧ Hid (Below w.heap.size w wr)) (fun _ s _ => (intOf s + 8).toNat)
      case atStart => exact ⟨0, 56, by omega, rfl, by omega, by simpa using hO, hF⟩
      case round =>
        obtain ⟨j, s0, hj, rfl, hs, hO2, hF2⟩ := hrel
        have hsz := hF2.out.size
        have HLEN := hide (show (1 :: (l.take k).flatMap Mx.be8 ++ (Mx.be8 x).take j).length + 1 ≤ 1000000 by
          rw [List.length_append, List.length_cons, Mx.flat_len, List.length_take, List.length_take, Mx.be8_len]
          have := HN.out
          omega)
        obtain ⟨b0, b1, b2, b3, b4, b5, b6, b7⟩ := be8_at x
        obtain ⟨L, hL⟩ : ∃ L : List Int, Hid (L = 1 :: (l.take k).flatMap Mx.be8 ++ (Mx.be8 x).take j) := ⟨_, rfl⟩
        rw [← hL.out] at hO2 HLEN
        by_cases hj8 : j < 8
        · have h8 : j = 0 ∨ j = 1 ∨ j = 2 ∨ j = 3 ∨ j = 4 ∨ j = 5 ∨ j = 6 ∨ j = 7 := by omega
          rcases h8 with rfl | rfl | rfl | rfl | rfl | rfl | rfl | rfl
          · obtain rfl : s0 = 56 := by omega
            have HT := hide (show ∀ (z : Int) (w' : World) (v' : Value), z = ((x / 72057594037927936 % 256 : Nat) : Int) → Own w' w.heap.size v' (L ++ [z]) → Own w' w.heap.size v' (1 :: (l.take k).flatMap Mx.be8 ++ (Mx.be8 x).take (0 + 1)) from fun z w' v' hz h => by
              rw [getElem_take_succ _ _ _ b0, ← hz, ← List.append_assoc, ← hL.out]
              exact h)
            clear hs b0 b1 b2 b3 b4 b5 b6 b7
            go_wp2_with (at_builtin; refine wpList_append_bytes rfl _ _ rfl w.heap.size L (hO2.out.alloc _) ⟨wr.heap.size, 0, none⟩ 1 1 [_] rfl rfl (cell_news _ _ _ rfl) HLEN.out ?c3 ?_)
            case c3 => simp; omega
            intro v' w' hown' hbel'
            have HO := hide (HT.out _ w' v' (by omega) hown')
            have HB := hide (hF2.out.trans (((Below.refl _ _).alloc hsz _).trans hbel'))
            clear hown' hbel'
            go_wp2_with fail
            go_roundw
            case rel => exact ⟨0 + 1, _, by omega, rfl, by omega, HO, HB⟩
            case measure => simp [intOf]
          · obtain rfl : s0 = 48 := by omega
            have HT := hide (show ∀ (z : Int) (w' : World) (v' : Value), z = ((x / 281474976710656 % 256 : Nat) : Int) → Own w' w.heap.size v' (L ++ [z]) → Own w' w.heap.size v' (1 :: (l.take k).flatMap Mx.be8 ++ (Mx.be8 x).take (1 + 1)) from fun z w' v' hz h => by
              rw [getElem_take_succ _ _ _ b1, ← hz, ← List.append_assoc, ← hL.out]
              exact h)
            clear hs b0 b1 b2 b3 b4 b5 b6 b7
            go_wp2_with (at_builtin; refine wpList_append_bytes rfl _ _ rfl w.heap.size L (hO2.out.alloc _) ⟨wr.heap.size, 0, none⟩ 1 1 [_] rfl rfl (cell_news _ _ _ rfl) HLEN.out ?c3 ?_)
            case c3 => simp; omega
            intro v' w' hown' hbel'
            have HO := hide (HT.out _ w' v' (by omega) hown')
            have HB := hide (hF2.out.trans (((Below.refl _ _).alloc hsz _).trans hbel'))
            clear hown' hbel'
            go_wp2_with fail
            go_roundw
            case rel => exact ⟨1 + 1, _, by omega, rfl, by omega, HO, HB⟩
            case measure => simp [intOf]
          · obtain rfl : s0 = 40 := by omega
            have HT := hide (show ∀ (z : Int) (w' : World) (v' : Value), z = ((x / 1099511627776 % 256 : Nat) : Int) → Own w' w.heap.size v' (L ++ [z]) → Own w' w.heap.size v' (1 :: (l.take k).flatMap Mx.be8 ++ (Mx.be8 x).take (2 + 1)) from fun z w' v' hz h => by
              rw [getElem_take_succ _ _ _ b2, ← hz, ← List.append_assoc, ← hL.out]
              exact h)
            clear hs b0 b1 b2 b3 b4 b5 b6 b7
            go_wp2_with (at_builtin; refine wpList_append_bytes rfl _ _ rfl w.heap.size L (hO2.out.alloc _) ⟨wr.heap.size, 0, none⟩ 1 1 [_] rfl rfl (cell_news _ _ _ rfl) HLEN.out ?c3 ?_)
            case c3 => simp; omega
            intro v' w' hown' hbel'
            have HO := hide (HT.out _ w' v' (by omega) hown')
            have HB := hide (hF2.out.trans (((Below.refl _ _).alloc hsz _).trans hbel'))
            clear hown' hbel'
            go_wp2_with fail
            go_roundw
            case rel => exact ⟨2 + 1, _, by omega, rfl, by omega, HO, HB⟩
            case measure => simp [intOf]
          · obtain rfl : s0 = 32 := by omega
            have HT := hide (show ∀ (z : Int) (w' : World) (v' : Value), z = ((x / 4294967296 % 256 : Nat) : Int) → Own w' w.heap.size v' (L ++ [z]) → Own w' w.heap.size v' (1 :: (l.take k).flatMap Mx.be8 ++ (Mx.be8 x).take (3 + 1)) from fun z w' v' hz h => by
              rw [getElem_take_succ _ _ _ b3, ← hz, ← List.append_assoc, ← hL.out]
              exact h)
            clear hs b0 b1 b2 b3 b4 b5 b6 b7
            go_wp2_with (at_builtin; refine wpList_append_bytes rfl _ _ rfl w.heap.size L (hO2.out.alloc _) ⟨wr.heap.size, 0, none⟩ 1 1 [_] rfl rfl (cell_news _ _ _ rfl) HLEN.out ?c3 ?_)
            case c3 => simp; omega
            intro v' w' hown' hbel'
            have HO := hide (HT.out _ w' v' (by omega) hown')
            have HB := hide (hF2.out.trans (((Below.refl _ _).alloc hsz _).trans hbel'))
            clear hown' hbel'
            go_wp2_with fail
            go_roundw
            case rel => exact ⟨3 + 1, _, by omega, rfl, by omega, HO, HB⟩
            case measure => simp [intOf]
          · obtain rfl : s0 = 24 := by omega
            have HT := hide (show ∀ (z : Int) (w' : World) (v' : Value), z = ((x / 16777216 % 256 : Nat) : Int) → Own w' w.heap.size v' (L ++ [z]) → Own w' w.heap.size v' (1 :: (l.take k).flatMap Mx.be8 ++ (Mx.be8 x).take (4 + 1)) from fun z w' v' hz h => by
              rw [getElem_take_succ _ _ _ b4, ← hz, ← List.append_assoc, ← hL.out]
              exact h)
            clear hs b0 b1 b2 b3 b4 b5 b6 b7
            go_wp2_with (at_builtin; refine wpList_append_bytes rfl _ _ rfl w.heap.size L (hO2.out.alloc _) ⟨wr.heap.size, 0, none⟩ 1 1 [_] rfl rfl (cell_news _ _ _ rfl) HLEN.out ?c3 ?_)
            case c3 => simp; omega
            intro v' w' hown' hbel'
            have HO := hide (HT.out _ w' v' (by omega) hown')
            have HB := hide (hF2.out.trans (((Below.refl _ _).alloc hsz _).trans hbel'))
            clear hown' hbel'
            go_wp2_with fail
            go_roundw
            case rel => exact ⟨4 + 1, _, by omega, rfl, by omega, HO, HB⟩
            case measure => simp [intOf]
          · obtain rfl : s0 = 16 := by omega
            have HT := hide (show ∀ (z : Int) (w' : World) (v' : Value), z = ((x / 65536 % 256 : Nat) : Int) → Own w' w.heap.size v' (L ++ [z]) → Own w' w.heap.size v' (1 :: (l.take k).flatMap Mx.be8 ++ (Mx.be8 x).take (5 + 1)) from fun z w' v' hz h => by
              rw [getElem_take_succ _ _ _ b5, ← hz, ← List.append_assoc, ← hL.out]
              exact h)
            clear hs b0 b1 b2 b3 b4 b5 b6 b7
            go_wp2_with (at_builtin; refine wpList_append_bytes rfl _ _ rfl w.heap.size L (hO2.out.alloc _) ⟨wr.heap.size, 0, none⟩ 1 1 [_] rfl rfl (cell_news _ _ _ rfl) HLEN.out ?c3 ?_)
            case c3 => simp; omega
            intro v' w' hown' hbel'
            have HO := hide (HT.out _ w' v' (by omega) hown')
            have HB := hide (hF2.out.trans (((Below.refl _ _).alloc hsz _).trans hbel'))
            clear hown' hbel'
            go_wp2_with fail
            go_roundw
            case rel => exact ⟨5 + 1, _, by omega, rfl, by omega, HO, HB⟩
            case measure => simp [intOf]
          · obtain rfl : s0 = 8 := by omega
            have HT := hide (show ∀ (z : Int) (w' : World) (v' : Value), z = ((x / 256 % 256 : Nat) : Int) → Own w' w.heap.size v' (L ++ [z]) → Own w' w.heap.size v' (1 :: (l.take k).flatMap Mx.be8 ++ (Mx.be8 x).take (6 + 1)) from fun z w' v' hz h => by
              rw [getElem_take_succ _ _ _ b6, ← hz, ← List.append_assoc, ← hL.out]
              exact h)
            clear hs b0 b1 b2 b3 b4 b5 b6 b7
            go_wp2_with (at_builtin; refine wpList_append_bytes rfl _ _ rfl w.heap.size L (hO2.out.alloc _) ⟨wr.heap.size, 0, none⟩ 1 1 [_] rfl rfl (cell_news _ _ _ rfl) HLEN.out ?c3 ?_)
            case c3 => simp; omega
            intro v' w' hown' hbel'
            have HO := hide (HT.out _ w' v' (by omega) hown')
            have HB := hide (hF2.out.trans (((Below.refl _ _).alloc hsz _).trans hbel'))
            clear hown' hbel'
            go_wp2_with fail
            go_roundw
            case rel => exact ⟨6 + 1, _, by omega, rfl, by omega, HO, HB⟩
            case measure => simp [intOf]
          · obtain rfl : s0 = 0 := by omega
            have HT := hide (show ∀ (z : Int) (w' : World) (v' : Value), z = ((x % 256 : Nat) : Int) → Own w' w.heap.size v' (L ++ [z]) → Own w' w.heap.size v' (1 :: (l.take k).flatMap Mx.be8 ++ (Mx.be8 x).take (7 + 1)) from fun z w' v' hz h => by
              rw [getElem_take_succ _ _ _ b7, ← hz, ← List.append_assoc, ← hL.out]
              exact h)
            clear hs b0 b1 b2 b3 b4 b5 b6 b7
            go_wp2_with (at_builtin; refine wpList_append_bytes rfl _ _ rfl w.heap.size L (hO2.out.alloc _) ⟨wr.heap.size, 0, none⟩ 1 1 [_] rfl rfl (cell_news _ _ _ rfl) HLEN.out ?c3 ?_)
            case c3 => simp; omega
            intro v' w' hown' hbel'
            have HO := hide (HT.out _ w' v' (by omega) hown')
            have HB := hide (hF2.out.trans (((Below.refl _ _).alloc hsz _).trans hbel'))
            clear hown' hbel'
            go_wp2_with fail
            go_roundw
            case rel => exact ⟨7 + 1, _, by omega, rfl, by omega, HO, HB⟩
            case measure => simp [intOf]
        · obtain rfl : j = 8 := by omega
          obtain rfl : s0 = -8 := by omega
          have HO := hide (show Own wr w.heap.size _ (1 :: (l.take (k + 1)).flatMap Mx.be8) by
            have h := hO2.out
            rw [hL.out, List.take_of_length_le (l := Mx.be8 x) (by rw [Mx.be8_len]; omega)] at h
            rw [getElem_take_succ _ _ _ HX.out, List.flatMap_append, List.flatMap_cons, List.flatMap_nil, List.append_nil]
            exact h)
          clear hs b0 b1 b2 b3 b4 b5 b6 b7
          go_wp2_with fail
          go_roundw
          case rel => exact ⟨k + 1, by omega, by go_num, HO, hF2⟩
          case measure => simp [intOf]; omega
    · have HO := hide (show Own wr w.heap.size _ (1 :: l.flatMap Mx.be8) by
        have h := hO.out
        rw [List.take_of_length_le (by rw [HN.out]; omega)] at h
        exact h)
      obtain ⟨g, cap, hv, _, _⟩ := own_slice HO.out (by simp)
      obtain ⟨N, hNe⟩ : ∃ N : Nat, Hid (N = (1 :: l.flatMap Mx.be8).length) := ⟨_, rfl⟩
      obtain ⟨M, hM⟩ : ∃ M : List Int, Hid (M = 1 :: l.flatMap Mx.be8) := ⟨_, rfl⟩
      rw [← hNe.out] at hv
      subst hv
      rw [← hM.out] at HO
      have HBY := hide (own_bytes HO.out (by
        rw [hM.out]
        intro z hz
        rcases List.mem_cons.1 hz with h | h
        · omega
        · exact Mx.flat_byte l z h))
      go_wp2_with fail
      refine (digest_any _ _ _ _ _ HBY.out).mono ?_
      rintro e w2 ⟨rfl, rfl⟩
      go_wp2
      go_ret
      refine ⟨?_, hF.out⟩
      unfold Mx.overD
      rw [← hM.out]
      rfl
end Go.Proofs.Ytdhmijjphgcdmac

/-
  A level of what comes below it, as the document's answer has it (above).
-/
namespace Go.Proofs.Ytdhmijjphgcdmac
open Go.RowKit

/-- the first digests of a level -/
def Mx.overP (l : List Nat) (t : Nat) : List Nat := (List.range t).map fun i => Mx.overD ((l.drop (i * 4)).take 4)
theorem Mx.overP_succ (l : List Nat) (t : Nat) : Mx.overP l (t + 1) = Mx.overP l t ++ [Mx.overD ((l.drop (t * 4)).take 4)] := by unfold Mx.overP; rw [List.range_succ, List.map_append]; rfl
theorem Mx.overP_all (l : List Nat) (t : Nat) (h1 : l.length ≤ t * 4) (h2 : t * 4 < l.length + 4) : Mx.overP l t = Mx.overL l := by
  unfold Mx.overP Mx.overL
  rw [show (l.length + 3) / 4 = t by omega]
theorem Mx.overP_len (l : List Nat) (t : Nat) : (Mx.overP l t).length = t := by simp [Mx.overP]
/-- which byte of a number, and what it is divided by -/
def Mx.Dj (j D : Nat) : Prop := (j = 0 ∧ D = 72057594037927936) ∨ (j = 1 ∧ D = 281474976710656) ∨ (j = 2 ∧ D = 1099511627776) ∨ (j = 3 ∧ D = 4294967296) ∨ (j = 4 ∧ D = 16777216) ∨ (j = 5 ∧ D = 65536) ∨ (j = 6 ∧ D = 256) ∨ (j = 7 ∧ D = 1) ∨ (j = 8 ∧ D = 0)
theorem Own.row {w : World} {base : Nat} {v : Value} {l : List Int} (h : Own w base v l) (hn : l ≠ []) (hb : ∀ x ∈ l, 0 ≤ x ∧ x ≤ 255) : ∃ g N cap, v = .slice (some ⟨g, 0, none⟩) N cap ∧ Hid (Bytes w (some ⟨g, 0, none⟩) N l) := by
  obtain ⟨g, cap, hv, _, _⟩ := own_slice h hn
  subst hv
  exact ⟨g, _, cap, rfl, own_bytes h hb⟩

end Go.Proofs.Ytdhmijjphgcdmac
