/-
  Where a block is in a list (First, slices.Index, slices.Contains); whether a list may be what was had (HadMay, cache.Check).
-/
import Derived.Test.YtdhmijjphgcdmaaDbox
import Derived.Test.YtdhmijjphgcdmaaDsame
namespace Go.Proofs.Ytdhmijjphgcdmaa
open Go.RowKit

instance : DecidableEq B8 := fun x y => decidable_of_iff _ (B8.eq_list x y)

namespace Mx
/-- the first place of a block, or -1 -/
def firstI (l : List B8) (b : B8) : Int := if b ∈ l then (l.idxOf b : Int) else -1
/-- what may have been had -/
def hmay (l : List B8) : Int := if 8 < l.length then 2 else if l.Nodup then 0 else 3

theorem firstI_at {l : List B8} {b : B8} {k : Nat} (h : l[k]? = some b) (hn : ∀ j : Nat, j < k → l[j]? ≠ some b) : firstI l b = k := by
  have hm : b ∈ l := List.mem_of_getElem? h
  rw [firstI, if_pos hm]
  congr 1
  have hk : k < l.length := (List.getElem?_eq_some_iff.1 h).1
  have h1 : l.idxOf b < l.length := List.idxOf_lt_length_of_mem hm
  have h2 : l[l.idxOf b]? = some b := by rw [List.getElem?_eq_getElem h1, List.getElem_idxOf h1]
  have h3 : ¬ l.idxOf b < k := fun h => hn _ h h2
  have h4 : ¬ k < l.idxOf b := fun h5 => by
    have h6 := List.not_of_lt_findIdx h5
    have h7 := (List.getElem?_eq_some_iff.1 h).2
    simp [h7] at h6
  omega
theorem firstI_none {l : List B8} {b : B8} (hn : ∀ j : Nat, j < l.length → l[j]? ≠ some b) : firstI l b = -1 := by
  rw [firstI, if_neg]
  intro hm
  obtain ⟨i, hi, e⟩ := List.getElem_of_mem hm
  exact hn i hi (by rw [List.getElem?_eq_getElem hi, e])
theorem firstI_nonneg (l : List B8) (b : B8) : decide (0 ≤ firstI l b) = decide (b ∈ l) := by
  by_cases h : b ∈ l
  · rw [firstI, if_pos h]
    simp [h]
  · rw [firstI, if_neg h]
    simp [h]
theorem firstI_lt {l : List B8} {b : B8} {k : Nat} (h : l[k]? = some b) : (firstI l b < k) ↔ b ∈ l.take k := by
  have hm : b ∈ l := List.mem_of_getElem? h
  have hk : k < l.length := (List.getElem?_eq_some_iff.1 h).1
  have h1 : l.idxOf b < l.length := List.idxOf_lt_length_of_mem hm
  rw [firstI, if_pos hm]
  constructor
  · intro h2
    have h2' : l.idxOf b < k := by omega
    refine List.mem_of_getElem? (i := l.idxOf b) ?_
    rw [List.getElem?_take_of_lt h2', List.getElem?_eq_getElem h1, List.getElem_idxOf h1]
  · intro h2
    obtain ⟨j, hj, e⟩ := List.getElem_of_mem h2
    rw [List.length_take] at hj
    rw [List.getElem_take] at e
    have h4 : ¬ j < l.idxOf b := fun h5 => by
      have h6 := List.not_of_lt_findIdx h5
      simp [e] at h6
    omega
theorem nodup_snoc {l : List B8} {k : Nat} {b : B8} (h : l[k]? = some b) (hn : (l.take k).Nodup) (hb : b ∉ l.take k) : (l.take (k + 1)).Nodup := by
  rw [getElem_take_succ _ _ _ h, List.nodup_append]
  refine ⟨hn, by simp, fun x hx y hy => ?_⟩
  rintro rfl
  simp at hy
  subst hy
  exact hb hx
theorem nodup_not {l : List B8} {k : Nat} {b : B8} (h : l[k]? = some b) (hb : b ∈ l.take k) : ¬ l.Nodup := by
  intro hn
  have h1 : (l.take (k + 1)).Nodup := hn.sublist (List.take_sublist _ _)
  rw [getElem_take_succ _ _ _ h, List.nodup_append] at h1
  exact h1.2.2 b hb b (by simp) rfl
theorem hmay_long {l : List B8} (h : 8 < l.length) : hmay l = 2 := by rw [hmay, if_pos h]
theorem hmay_twice {l : List B8} {k : Nat} {b : B8} (hl : ¬ 8 < l.length) (h : l[k]? = some b) (hb : b ∈ l.take k) : hmay l = 3 := by rw [hmay, if_neg hl, if_neg (nodup_not h hb)]
theorem hmay_good {l : List B8} {k : Nat} (hl : ¬ 8 < l.length) (hk : l.length ≤ k) (h : (l.take k).Nodup) : hmay l = 0 := by
  rw [List.take_of_length_le hk] at h
  rw [hmay, if_neg hl, if_pos h]
end Mx

theorem Bx.drewN {w : World} {g : Nat} {cs : Array Value} {t : TypeId} (h : Bx w g cs t) (n : Nat) : Bx (w.drewN n) g cs t := h
theorem BL.take {w : World} {a : Option Addr} {n : Nat} {l : List B8} (h : BL w a n l) (k : Nat) (hk : k ≤ n) : BL w a k (l.take k) := by
  have hl : (l.take k).length = k := by rw [List.length_take, h.1]; omega
  refine ⟨hl, by rw [flatB_len, hl], by have := h.2.2.1; omega, fun hp => ?_⟩
  obtain ⟨b, off, ha, hb, hc⟩ := h.2.2.2 (by omega)
  refine ⟨b, off, ha, hb, fun j u hj => hc j u ?_⟩
  have e : flatB l = flatB (l.take k) ++ flatB (l.drop k) := by unfold flatB; rw [← List.flatMap_append, List.take_append_drop]
  rw [e, List.getElem?_append_left (List.getElem?_eq_some_iff.1 hj).1]
  exact hj

set_option maxHeartbeats 1000000 in
set_option maxRecDepth 100000 in
theorem first_any (a : Option Addr) (n c : Nat) (l : List B8) (x : B8) (w : World) (hl : BL w a n l) :
    Calls Try.prog 102 #[.slice a n c, .agg #[.int .u8 x.z0, .int .u8 x.z1, .int .u8 x.z2, .int .u8 x.z3, .int .u8 x.z4, .int .u8 x.z5, .int .u8 x.z6, .int .u8 x.z7]] w fun e w' => e = .returned (.int .i64 (Mx.firstI l x)) ∧ Below w.heap.size w w' := by
  have hlen : n ≤ maxLen := hl.2.2.1
  unfold maxLen at hlen
  have HL := hide hl
  clear hl
  go_enter Try.func102, Try.ntmps102
  go_wp2
  go_loopw [5] (fun i wr => ∃ k : Nat, k ≤ n ∧ i = .int .i64 k ∧ Hid (∀ j : Nat, j < k → l[j]? ≠ some x) ∧ Hid (Below w.heap.size w wr ∧ Bx wr w.heap.size #[.int .u8 x.z0, .int .u8 x.z1, .int .u8 x.z2, .int .u8 x.z3, .int .u8 x.z4, .int .u8 x.z5, .int .u8 x.z6, .int .u8 x.z7] 52)) (fun i _ => n - (intOf i).toNat)
  case atStart => exact ⟨0, by omega, rfl, fun j hj => absurd hj (by omega), below_alloc _ _, Bx.new _ _ _⟩
  case round =>
    obtain ⟨k, hk, rfl, hE, hF⟩ := hrel
    by_cases hlt : k < n
    · obtain ⟨b, off, y, rfl, hb, hy, e0, e1, e2, e3, e4, e5, e6, e7⟩ := (HL.out.later hF.out.1).at_ k hlt
      obtain ⟨f0, f1, f2, f3, f4, f5, f6, f7⟩ := hF.out.2.eight
      have HY := hide hy
      clear hy
      have heq := equal_block y.z0 y.z1 y.z2 y.z3 y.z4 y.z5 y.z6 y.z7 x.z0 x.z1 x.z2 x.z3 x.z4 x.z5 x.z6 x.z7
      by_cases hcc : [y.z0, y.z1, y.z2, y.z3, y.z4, y.z5, y.z6, y.z7] = [x.z0, x.z1, x.z2, x.z3, x.z4, x.z5, x.z6, x.z7]
      · have HC := hide ((B8.eq_list y x).1 hcc)
        rw [decide_eq_true hcc] at heq
        clear hcc
        go_wp2_with fail
        go_quiet (fail)
        go_wp2
        go_ret
        exact ⟨by rw [Mx.firstI_at (k := k) (by rw [HY.out, HC.out]) hE.out] <;> rfl, below_drewN hF.out.1 _⟩
      · have HC := hide (fun e => hcc ((B8.eq_list y x).2 e))
        rw [decide_eq_false hcc] at heq
        clear hcc
        go_wp2_with fail
        go_quiet (fail)
        go_wp2
        go_roundw
        case rel =>
          refine ⟨k + 1, by omega, by go_num, fun j hj e => ?_, below_drewN hF.out.1 _, hF.out.2.drewN _⟩
          rcases Nat.lt_succ_iff_lt_or_eq.1 hj with h | h
          · exact hE.out j h e
          · subst h
            rw [HY.out] at e
            exact HC.out (Option.some.inj e)
        case measure => simp [intOf]; omega
    · go_wp2
      go_ret
      exact ⟨by rw [Mx.firstI_none (fun j hj => hE.out j (by have := HL.out.1; omega))] <;> rfl, hF.out.1⟩

set_option maxHeartbeats 1000000 in
set_option maxRecDepth 100000 in
theorem index_any (a : Option Addr) (n c : Nat) (l : List B8) (x : B8) (w : World) (hl : BL w a n l) :
    Calls Try.prog 112 #[.slice a n c, .agg #[.int .u8 x.z0, .int .u8 x.z1, .int .u8 x.z2, .int .u8 x.z3, .int .u8 x.z4, .int .u8 x.z5, .int .u8 x.z6, .int .u8 x.z7]] w fun e w' => e = .returned (.int .i64 (Mx.firstI l x)) ∧ Below w.heap.size w w' := by
  have hlen : n ≤ maxLen := hl.2.2.1
  unfold maxLen at hlen
  have HL := hide hl
  clear hl
  go_enter Try.func112, Try.ntmps112
  go_wp2
  go_loopw [8] (fun i wr => ∃ k : Nat, k ≤ n ∧ i = .int .i64 k ∧ Hid (∀ j : Nat, j < k → l[j]? ≠ some x) ∧ Hid (Below w.heap.size w wr ∧ Bx wr w.heap.size #[.int .u8 x.z0, .int .u8 x.z1, .int .u8 x.z2, .int .u8 x.z3, .int .u8 x.z4, .int .u8 x.z5, .int .u8 x.z6, .int .u8 x.z7] 52)) (fun i _ => n - (intOf i).toNat)
  case atStart => exact ⟨0, by omega, rfl, fun j hj => absurd hj (by omega), below_alloc _ _, Bx.new _ _ _⟩
  case round =>
    obtain ⟨k, hk, rfl, hE, hF⟩ := hrel
    by_cases hlt : k < n
    · obtain ⟨b, off, y, rfl, hb, hy, e0, e1, e2, e3, e4, e5, e6, e7⟩ := (HL.out.later hF.out.1).at_ k hlt
      obtain ⟨f0, f1, f2, f3, f4, f5, f6, f7⟩ := hF.out.2.eight
      have HY := hide hy
      clear hy
      have heq := equal_block x.z0 x.z1 x.z2 x.z3 x.z4 x.z5 x.z6 x.z7 y.z0 y.z1 y.z2 y.z3 y.z4 y.z5 y.z6 y.z7
      by_cases hcc : [x.z0, x.z1, x.z2, x.z3, x.z4, x.z5, x.z6, x.z7] = [y.z0, y.z1, y.z2, y.z3, y.z4, y.z5, y.z6, y.z7]
      · have HC := hide ((B8.eq_list x y).1 hcc)
        rw [decide_eq_true hcc] at heq
        clear hcc
        go_wp2_with fail
        go_quiet (fail)
        go_wp2
        go_ret
        exact ⟨by rw [Mx.firstI_at (k := k) (by rw [HY.out, HC.out]) hE.out] <;> rfl, below_drewN hF.out.1 _⟩
      · have HC := hide (fun e => hcc ((B8.eq_list x y).2 e))
        rw [decide_eq_false hcc] at heq
        clear hcc
        go_wp2_with fail
        go_quiet (fail)
        go_wp2
        go_roundw
        case rel =>
          refine ⟨k + 1, by omega, by go_num, fun j hj e => ?_, below_drewN hF.out.1 _, hF.out.2.drewN _⟩
          rcases Nat.lt_succ_iff_lt_or_eq.1 hj with h | h
          · exact hE.out j h e
          · subst h
            rw [HY.out] at e
            exact HC.out (Option.some.inj e).symm
        case measure => simp [intOf]; omega
    · go_wp2
      go_ret
      exact ⟨by rw [Mx.firstI_none (fun j hj => hE.out j (by have := HL.out.1; omega))] <;> rfl, hF.out.1⟩

set_option maxRecDepth 100000 in
theorem contains_any (a : Option Addr) (n c : Nat) (l : List B8) (x : B8) (w : World) (hl : BL w a n l) :
    Calls Try.prog 103 #[.slice a n c, .agg #[.int .u8 x.z0, .int .u8 x.z1, .int .u8 x.z2, .int .u8 x.z3, .int .u8 x.z4, .int .u8 x.z5, .int .u8 x.z6, .int .u8 x.z7]] w fun e w' => e = .returned (.bool (decide (x ∈ l))) ∧ Below w.heap.size w w' := by
  have HL := hide hl
  clear hl
  go_enter Try.func103, Try.ntmps103
  go_wp2_with fail
  refine (index_any a n c l x _ (HL.out.later (below_alloc _ _))).mono ?_
  rintro e w1 ⟨rfl, hb⟩
  have HB := hide hb
  clear hb
  obtain ⟨r, hr⟩ : ∃ r : Int, Hid (r = Mx.firstI l x) := ⟨_, rfl⟩
  rw [← hr.out]
  go_wp2
  go_ret
  refine ⟨?_, (below_alloc _ _).trans (HB.out.mono (by simp))⟩
  rw [← Mx.firstI_nonneg, ← hr.out]
  try rfl

set_option maxHeartbeats 1000000 in
set_option maxRecDepth 100000 in
theorem hadMay_any (a : Option Addr) (n c : Nat) (l : List B8) (w : World) (hl : BL w a n l) :
    Calls Try.prog 59 #[.slice a n c] w fun e w' => e = .returned (.int .i64 (Mx.hmay l)) ∧ Below w.heap.size w w' := by
  have hlen : n ≤ maxLen := hl.2.2.1
  unfold maxLen at hlen
  have HL := hide hl
  have HN := hide hl.1
  clear hl
  by_cases h8 : (8 : Int) < n
  · go_enter Try.func59, Try.ntmps59
    go_wp2
    go_ret
    exact ⟨by rw [Mx.hmay_long (by rw [HN.out]; omega)] <;> rfl, Below.refl _ _⟩
  · have HN8 := hide (show ¬ 8 < l.length by rw [HN.out]; omega)
    go_enter Try.func59, Try.ntmps59
    go_wp2
    go_loopw [3] (fun i wr => ∃ k : Nat, k ≤ n ∧ i = .int .i64 k ∧ Hid ((l.take k).Nodup) ∧ Hid (Below w.heap.size w wr)) (fun i _ => n - (intOf i).toNat)
    case atStart => exact ⟨0, by omega, rfl, by unfold Hid; simp, Below.refl _ _⟩
    case round =>
      obtain ⟨k, hk, rfl, hE, hF⟩ := hrel
      by_cases hlt : k < n
      · obtain ⟨b, off, y, rfl, hb, hy, e0, e1, e2, e3, e4, e5, e6, e7⟩ := (HL.out.later hF.out).at_ k hlt
        have HY := hide hy
        clear hy
        go_wp2_with fail
        refine (first_any _ n c l y _ (HL.out.later hF.out)).mono ?_
        rintro e w1 ⟨rfl, hb1⟩
        have HB := hide (hF.out.trans (hb1.mono hF.out.size))
        clear hb1 e0 e1 e2 e3 e4 e5 e6 e7
        obtain ⟨r, hr⟩ : ∃ r : Int, Hid (r = Mx.firstI l y) := ⟨_, rfl⟩
        rw [← hr.out]
        by_cases hlr : r < (k : Int)
        · have HT := hide ((Mx.firstI_lt HY.out).1 (by rw [← hr.out]; exact hlr))
          go_wp2
          go_ret
          exact ⟨by rw [Mx.hmay_twice HN8.out HY.out HT.out] <;> rfl, HB.out⟩
        · have HT := hide (fun hm => hlr (by rw [hr.out]; exact (Mx.firstI_lt HY.out).2 hm))
          go_wp2
          go_roundw
          case rel => exact ⟨k + 1, by omega, by go_num, Mx.nodup_snoc HY.out hE.out HT.out, HB⟩
          case measure => simp [intOf]; omega
      · go_wp2
        go_ret
        exact ⟨by rw [Mx.hmay_good HN8.out (k := k) (by rw [HN.out]; omega) hE.out] <;> rfl, hF.out⟩

end Go.Proofs.Ytdhmijjphgcdmaa
