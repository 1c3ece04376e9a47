/-
  Copies in memory of their own: slices.Clone at blocks and at puts, OwnBlocks; lessOne, kept.
-/
import Derived.Lib.SliceRun
import Derived.Test.YtfbmaemnbolplaaDoorZIter

namespace Go.Proofs.YtfbmaemnbolplaaDoor
open Go.RowKit

theorem rowR_empty {w : World} {n size : Nat} {xs : List Value} (h : RowR w none n size xs) : n = 0 ∧ xs = [] := by
  obtain ⟨h1, _, h3⟩ := h
  have : n = 0 := by
    rcases Nat.eq_zero_or_pos n with h | h
    · exact h
    · obtain ⟨b, off, hb, _⟩ := h3 h
      cases hb
  subst this
  exact ⟨rfl, List.eq_nil_of_length_eq_zero (by simpa using h1)⟩
theorem rowR_zero {w : World} {a : Option Addr} {size : Nat} {xs : List Value} (h : RowR w a 0 size xs) : xs = [] := List.eq_nil_of_length_eq_zero (by simpa using h.1)

set_option maxHeartbeats 1000000 in
set_option maxRecDepth 100000 in
theorem cloneB_any (a : Option Addr) (n c : Nat) (l : List B8) (w : World) (hl : BL w a n l) (hn : n ≤ 1000000) :
    Calls Tryd.prog 11 #[.slice a n c] w fun e w' => ∃ v, e = .returned v ∧ OwnBL w' w.heap.size v l ∧ Below w.heap.size w w' := by
  have q : ∀ (w : World) (a : Option Addr) (n c n' c' : Nat), (binOp .eql 22 (.slice a n c) (.slice none n' c')).run Tryd.prog w = .ok (.bool a.isNone) w := fun w a n c n' c' => Lib.run_eql_slice_nil w _ _ a n c n' c' Tryd.underlying22
  have HL := hide hl
  clear hl
  cases a with
  | none =>
    obtain ⟨rfl, hx⟩ := rowR_empty HL.out.2
    have HX := hide (show l = [] from List.eq_nil_of_length_eq_zero HL.out.1)
    clear hx
    go_enter Tryd.func11, Tryd.ntmps11
    go_wp2
    go_ret
    refine ⟨_, rfl, ?_, Below.refl _ _⟩
    rw [HX.out]
    exact World.ownsRow_nil w _ 25 8
  | some ad =>
    go_enter Tryd.func11, Tryd.ntmps11
    obtain ⟨i0, hi, hz0, hz1, hz2⟩ := info_parts Tryd.info25
    go_wp2_with (at_builtin; refine wpList_append_own _ rfl _ _ 22 rfl w.heap.size 25 i0 _ 8 8 Tryd.underlying22 hi hz0 hz1 hz2 rfl (by decide) _ _ _ rfl (World.ownsRow_made w #[] 0 (Nat.le_refl _) (Nat.zero_le _) (by simp)) ad n c (flatB l) rfl ?qc1 ?qc2 ?qc3 ?qc4 ?qc5 ?qc6 ?_)
    case qc1 => exact HL.out.2.1
    case qc2 =>
      intro j u hj
      rcases Nat.eq_zero_or_pos n with h | h
      · subst h
        rw [rowR_zero HL.out.2] at hj
        simp at hj
      · obtain ⟨b, off, hb, hlt, hc⟩ := HL.out.2.2.2 h
        cases hb
        rw [Addr.add_lit]
        exact Lib.cell?_alloc_some _ (hc j u hj)
    case qc3 => exact flatB_one
    case qc4 => unfold maxLen; omega
    case qc5 => omega
    case qc6 => simp
    intro v' w1 hown hgrow hnil
    have HO := hide hown
    have HG := hide hgrow
    clear hown hgrow hnil
    go_wp2
    go_ret
    refine ⟨v', rfl, ?_, ?_⟩
    · have := HO.out
      unfold OwnBL
      rw [HL.out.1]
      simpa using this
    · exact ((Below.refl _ w).alloc (Nat.le_refl _) _).grown HG.out (by simp) (by intro k hk; simp [Value.ownBlock] at hk; omega)

set_option maxHeartbeats 1000000 in
set_option maxRecDepth 100000 in
theorem ownBlocks_any (a : Option Addr) (n c : Nat) (l : List B8) (w : World) (hl : BL w a n l) (hn : n ≤ 1000000) :
    Calls Tryd.prog 7 #[.slice a n c] w fun e w' => ∃ v, e = .returned v ∧ OwnBL w' w.heap.size v l ∧ Below w.heap.size w w' := by
  have HL := hide hl
  clear hl
  obtain ⟨i0, hi, hz0, hz1, hz2⟩ := info_parts Tryd.info25
  cases a with
  | none =>
    obtain ⟨rfl, hx⟩ := rowR_empty HL.out.2
    have HX := hide (show l = [] from List.eq_nil_of_length_eq_zero HL.out.1)
    clear hx
    go_enter Tryd.func7, Tryd.ntmps7
    go_wp2
    go_ret
    refine ⟨_, rfl, ?_, below_alloc _ _⟩
    rw [HX.out]
    exact World.ownsRow_made w #[] 0 (Nat.le_refl _) (Nat.zero_le _) (by simp)
  | some ad =>
    go_enter Tryd.func7, Tryd.ntmps7
    go_wp2_with (at_builtin; refine wpList_append_own _ rfl _ _ 22 rfl w.heap.size 25 i0 _ 8 8 Tryd.underlying22 hi hz0 hz1 hz2 rfl (by decide) _ _ _ rfl (World.ownsRow_made w #[] 0 (Nat.le_refl _) (Nat.zero_le _) (by simp)) ad n c (flatB l) rfl ?qc1 ?qc2 ?qc3 ?qc4 ?qc5 ?qc6 ?_)
    case qc1 => exact HL.out.2.1
    case qc2 =>
      intro j u hj
      rcases Nat.eq_zero_or_pos n with h | h
      · subst h
        rw [rowR_zero HL.out.2] at hj
        simp at hj
      · obtain ⟨b, off, hb, hlt, hc⟩ := HL.out.2.2.2 h
        cases hb
        rw [Addr.add_lit]
        exact Lib.cell?_alloc_some _ (hc j u hj)
    case qc3 => exact flatB_one
    case qc4 => unfold maxLen; omega
    case qc5 => omega
    case qc6 => simp
    intro v' w1 hown hgrow hnil
    have HO := hide hown
    have HG := hide hgrow
    clear hown hgrow hnil
    go_wp2
    go_ret
    refine ⟨v', rfl, ?_, ?_⟩
    · have := HO.out
      unfold OwnBL
      rw [HL.out.1]
      simpa using this
    · exact ((Below.refl _ w).alloc (Nat.le_refl _) _).grown HG.out (by simp) (by intro k hk; simp [Value.ownBlock] at hk; omega)

/-- what is left of steps behind one -/
def Mx.less (left : Int) : Int := if left < 0 then left else left - 1

/-- B3's number of bytes -/
def Mx.kept (x : Int) : Int := (if x < 0 then -(x + 1) else x) % 9
theorem Mx.kept_lt (x : Int) : 0 ≤ Mx.kept x ∧ Mx.kept x ≤ 8 := by unfold Mx.kept; split <;> omega

end Go.Proofs.YtfbmaemnbolplaaDoor

/-
  Two lists of blocks, of puts, two disks: alike or not (SameBlocks, SamePuts, SameDisk).
-/
namespace Go.Proofs.YtfbmaemnbolplaaDoor
open Go.RowKit

theorem getElem_take_succ {α : Type} (l : List α) (k : Nat) (x : α) (h : l[k]? = some x) : l.take (k + 1) = l.take k ++ [x] := by
  rw [List.take_add_one, h]
  rfl

theorem B8.eq_list (x y : B8) : [x.z0, x.z1, x.z2, x.z3, x.z4, x.z5, x.z6, x.z7] = [y.z0, y.z1, y.z2, y.z3, y.z4, y.z5, y.z6, y.z7] ↔ x = y := by
  constructor
  · intro h
    simp only [List.cons.injEq, and_true] at h
    obtain ⟨h0, h1, h2, h3, h4, h5, h6, h7⟩ := h
    cases x
    cases y
    simp_all
  · rintro rfl
    rfl

theorem take_all_eq {α : Type} {l1 l2 : List α} {k : Nat} (h1 : l1.length ≤ k) (h2 : l2.length ≤ k) (h : l1.take k = l2.take k) : l1 = l2 := by
  rw [← List.take_of_length_le h1, ← List.take_of_length_le h2, h]

theorem take_not_eq {α : Type} {l1 l2 : List α} {k : Nat} {x y : α} (h1 : l1[k]? = some x) (h2 : l2[k]? = some y) (h : x ≠ y) : ¬ l1 = l2 := by
  rintro rfl
  rw [h1] at h2
  exact h (Option.some.inj h2)

theorem Tryd.fields58 : (Tryd.prog.fieldsOf 38).toList.map (fun f => (f.name, f.type, f.offset)) = [("At", 3, 0), ("Data", 25, 1)] := by kernel_rfl
theorem Tryd.under58 : Tryd.prog.underlying 38 = some (.struct (Tryd.prog.fieldsOf 38)) := by kernel_rfl
theorem Tryd.stood58 : Tryd.prog.stoodInHeld 38 = false := by kernel_rfl

theorem two_of_map {α β : Type} {φ : α → β} {l : List α} {a b : β} (h : l.map φ = [a, b]) : ∃ x y, l = [x, y] ∧ φ x = a ∧ φ y = b := by
  obtain ⟨x, l1, rfl, h1, h2⟩ := List.map_eq_cons_iff.1 h
  obtain ⟨y, l2, rfl, h3, h4⟩ := List.map_eq_cons_iff.1 h2
  rw [List.map_eq_nil_iff] at h4
  subst h4
  exact ⟨x, y, rfl, h1, h3⟩

theorem part_data (W : World) (p : Pt) : (part 25 #[.int .i64 p.at_, .int .u8 p.d.z0, .int .u8 p.d.z1, .int .u8 p.d.z2, .int .u8 p.d.z3, .int .u8 p.d.z4, .int .u8 p.d.z5, .int .u8 p.d.z6, .int .u8 p.d.z7] 1).run Tryd.prog W = .ok (.agg #[.int .u8 p.d.z0, .int .u8 p.d.z1, .int .u8 p.d.z2, .int .u8 p.d.z3, .int .u8 p.d.z4, .int .u8 p.d.z5, .int .u8 p.d.z6, .int .u8 p.d.z7]) W := by
  simp [part, isAgg, run_underlying Tryd.underlying25, sizeOf, go_sem]
  rw [show Tryd.t25.size = 8 by kernel_rfl]
  rfl
theorem part_at (W : World) (p : Pt) : (part 3 #[.int .i64 p.at_, .int .u8 p.d.z0, .int .u8 p.d.z1, .int .u8 p.d.z2, .int .u8 p.d.z3, .int .u8 p.d.z4, .int .u8 p.d.z5, .int .u8 p.d.z6, .int .u8 p.d.z7] 0).run Tryd.prog W = .ok (.int .i64 p.at_) W := by
  simp [part, isAgg, run_underlying Tryd.underlying3]

theorem equal_data (p q : Pt) (W : World) : (Op.equalIn 9999 25 (.agg #[.int .u8 p.d.z0, .int .u8 p.d.z1, .int .u8 p.d.z2, .int .u8 p.d.z3, .int .u8 p.d.z4, .int .u8 p.d.z5, .int .u8 p.d.z6, .int .u8 p.d.z7]) (.agg #[.int .u8 q.d.z0, .int .u8 q.d.z1, .int .u8 q.d.z2, .int .u8 q.d.z3, .int .u8 q.d.z4, .int .u8 q.d.z5, .int .u8 q.d.z6, .int .u8 q.d.z7])).run Tryd.prog W = .ok (decide ([p.d.z0, p.d.z1, p.d.z2, p.d.z3, p.d.z4, p.d.z5, p.d.z6, p.d.z7] = [q.d.z0, q.d.z1, q.d.z2, q.d.z3, q.d.z4, q.d.z5, q.d.z6, q.d.z7])) W := by
  obtain ⟨i0, hi, _⟩ := info_parts Tryd.info5
  rw [run_equalIn_array W 9998 _ _ Tryd.underlying25 hi, Tryd.cellsOf5]
  exact (run_eqItems_bytes W 9997 Tryd.underlying5 [p.d.z0, p.d.z1, p.d.z2, p.d.z3, p.d.z4, p.d.z5, p.d.z6, p.d.z7] [q.d.z0, q.d.z1, q.d.z2, q.d.z3, q.d.z4, q.d.z5, q.d.z6, q.d.z7] _ (fun i hi => by have := List.mem_range.1 hi; simp; omega)).trans (by rw [all_getD 8 _ _ rfl rfl])

theorem equal_put (p q : Pt) (W : World) :
    (Op.equalIn 10000 38 (.agg #[.int .i64 p.at_, .int .u8 p.d.z0, .int .u8 p.d.z1, .int .u8 p.d.z2, .int .u8 p.d.z3, .int .u8 p.d.z4, .int .u8 p.d.z5, .int .u8 p.d.z6, .int .u8 p.d.z7]) (.agg #[.int .i64 q.at_, .int .u8 q.d.z0, .int .u8 q.d.z1, .int .u8 q.d.z2, .int .u8 q.d.z3, .int .u8 q.d.z4, .int .u8 q.d.z5, .int .u8 q.d.z6, .int .u8 q.d.z7])).run Tryd.prog W
      = .ok (p.at_ == q.at_ && decide ([p.d.z0, p.d.z1, p.d.z2, p.d.z3, p.d.z4, p.d.z5, p.d.z6, p.d.z7] = [q.d.z0, q.d.z1, q.d.z2, q.d.z3, q.d.z4, q.d.z5, q.d.z6, q.d.z7])) W := by
  rw [run_equalIn_struct W 9999 38 _ _ Tryd.under58 Tryd.stood58]
  have hf := Tryd.fields58
  obtain ⟨f0, f1, hfs, g0, g1⟩ := two_of_map hf
  simp only [Prod.mk.injEq] at g0 g1
  obtain ⟨n0, t0, o0⟩ := g0
  obtain ⟨n1, t1, o1⟩ := g1
  rw [hfs]
  clear hf hfs
  have h9 := equal_data p q W
  simp only [Op.eqFields, n0, t0, o0, n1, t1, o1, Sem.run_bind, Sem.run_ite, part_at, part_data, Result.andThen_ok, run_equalIn_int W 9998 3 .i64 .i64 _ _ Tryd.underlying3, h9]
  cases hb : (p.at_ == q.at_)
  · simp
  · cases hd : decide ([p.d.z0, p.d.z1, p.d.z2, p.d.z3, p.d.z4, p.d.z5, p.d.z6, p.d.z7] = [q.d.z0, q.d.z1, q.d.z2, q.d.z3, q.d.z4, q.d.z5, q.d.z6, q.d.z7])
    · simp
    · simp

theorem Pt.eq_iff (p q : Pt) : (p.at_ == q.at_ && decide ([p.d.z0, p.d.z1, p.d.z2, p.d.z3, p.d.z4, p.d.z5, p.d.z6, p.d.z7] = [q.d.z0, q.d.z1, q.d.z2, q.d.z3, q.d.z4, q.d.z5, q.d.z6, q.d.z7])) = true ↔ p = q := by
  rw [Bool.and_eq_true, beq_iff_eq, decide_eq_true_iff, B8.eq_list]
  constructor
  · rintro ⟨h1, h2⟩
    cases p
    cases q
    simp_all
  · rintro rfl
    exact ⟨rfl, rfl⟩

end Go.Proofs.YtfbmaemnbolplaaDoor
