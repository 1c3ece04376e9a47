/-
  Whether a tree may be, as the document's answer says it (TreeMay).
-/
import Derived.Test.YtdhmijjphgcdmaaTcb
import Derived.Test.YtdhmijjphgcdmaaTab
namespace Go.Proofs.Ytdhmijjphgcdmaa
open Go.RowKit

namespace Mx
theorem growF_head (f : Nat) (l : List Nat) : ∃ r, growF f l = l :: r := by
  cases f with
  | zero => exact ⟨[], rfl⟩
  | succ f =>
    rw [growF]
    split
    · exact ⟨[], rfl⟩
    · exact ⟨_, rfl⟩
/-- the first levels are those that come of the first one; here is the last of these -/
def tgo (ls : List (List Nat)) (l cur : List Nat) (i : Nat) : Prop := ∃ (f : Nat) (pre : List (List Nat)), cur.length ≤ f + 1 ∧ pre ++ growF f cur = levels l ∧ pre.length = i ∧ ls.take (i + 1) = pre ++ [cur]
theorem tgo_start {ls : List (List Nat)} {l : List Nat} (h : ls[0]? = some l) : tgo ls l l 0 := by
  refine ⟨l.length, [], by omega, rfl, rfl, ?_⟩
  cases ls with
  | nil => simp at h
  | cons x r =>
    simp at h
    subst h
    rfl
theorem tgo_end {ls : List (List Nat)} {l cur : List Nat} {i : Nat} (h : tgo ls l cur i) (hc : cur.length ≤ 1) : tsame ls l = if i + 1 = ls.length then 0 else 3 := by
  obtain ⟨f, pre, h1, h2, h3, h4⟩ := h
  rw [growF_one f cur hc, ← h4] at h2
  have hl := congrArg List.length h4
  rw [List.length_take, List.length_append, List.length_singleton] at hl
  unfold tsame
  by_cases he : i + 1 = ls.length
  · rw [if_pos he, if_pos]
    rw [← h2, List.take_of_length_le (by omega)]
  · rw [if_neg he, if_neg]
    intro e
    rw [← h2] at e
    have := congrArg List.length e
    rw [List.length_take] at this
    omega
theorem tgo_more {ls : List (List Nat)} {l cur : List Nat} {i : Nat} (h : tgo ls l cur i) (hc : ¬ cur.length ≤ 1) : ∃ (f : Nat) (pre r : List (List Nat)), (overL cur).length ≤ f + 1 ∧ pre ++ [cur] ++ growF f (overL cur) = levels l ∧ pre.length = i ∧ ls.take (i + 1) = pre ++ [cur] ∧ growF f (overL cur) = overL cur :: r := by
  obtain ⟨f, pre, h1, h2, h3, h4⟩ := h
  cases f with
  | zero => omega
  | succ f =>
    rw [growF_more f cur hc] at h2
    obtain ⟨r, hr⟩ := growF_head f (overL cur)
    refine ⟨f, pre, r, ?_, by rw [← h2, List.append_assoc]; rfl, h3, h4, hr⟩
    rw [overL_len]
    omega
theorem tgo_out {ls : List (List Nat)} {l cur : List Nat} {i : Nat} (h : tgo ls l cur i) (hc : ¬ cur.length ≤ 1) (hi : ls.length ≤ i + 1) : tsame ls l = 3 := by
  obtain ⟨f, pre, r, h1, h2, h3, h4, h5⟩ := tgo_more h hc
  unfold tsame
  rw [if_neg]
  intro e
  rw [← e, h5] at h2
  have := congrArg List.length h2
  simp at this
  omega
theorem tgo_unlike {ls : List (List Nat)} {l cur x : List Nat} {i : Nat} (h : tgo ls l cur i) (hc : ¬ cur.length ≤ 1) (hx : ls[i + 1]? = some x) (hne : ¬ overL cur = x) : tsame ls l = 3 := by
  obtain ⟨f, pre, r, h1, h2, h3, h4, h5⟩ := tgo_more h hc
  unfold tsame
  rw [if_neg]
  intro e
  rw [e, ← h2, h5, List.getElem?_append_right (by simp; omega)] at hx
  simp [h3] at hx
  exact hne hx
theorem tgo_next {ls : List (List Nat)} {l cur x : List Nat} {i : Nat} (h : tgo ls l cur i) (hc : ¬ cur.length ≤ 1) (hx : ls[i + 1]? = some x) (he : overL cur = x) : tgo ls l (overL cur) (i + 1) := by
  obtain ⟨f, pre, r, h1, h2, h3, h4, h5⟩ := tgo_more h hc
  refine ⟨f, pre ++ [cur], h1, h2, by simp [h3], ?_⟩
  have hi : i + 1 < ls.length := (List.getElem?_eq_some_iff.1 hx).1
  rw [List.take_succ_eq_append_getElem hi, h4]
  rw [List.getElem?_eq_getElem hi] at hx
  rw [Option.some.inj hx, he]
end Mx

set_option maxHeartbeats 4000000 in
set_option maxRecDepth 100000 in
theorem treeMay_grow (a : Option Addr) (k c : Nat) (ls : List (List Nat)) (l : List Nat) (w : World) (h : Lvls w a k ls) (hk : 1 ≤ k) (h1 : 1 ≤ l.length) (h2 : l.length ≤ 32) (hz : ls[0]? = some l) :
    Calls Try.prog 49 #[.agg #[.slice a k c]] w fun e w' => e = .returned (.int .i64 (Mx.tsame ls l)) ∧ Below w.heap.size w w' := by
  have HL := hide h
  have hkl : k ≤ maxLen := h.2.1
  unfold maxLen at hkl
  have HKL := hide h.1
  obtain ⟨b, off, l0, ai, ni, ci, hab, hbw, hl0, hcell, hu, hnc⟩ := h.at_ 0 (by omega)
  rw [hz] at hl0
  obtain rfl : l = l0 := Option.some.inj hl0
  subst hab
  rw [Nat.add_zero] at hcell
  have hni : ni = l.length := hu.1.symm
  subst hni
  have HU := hide hu
  have HZ := hide (Mx.tgo_start hz)
  obtain ⟨N, hN⟩ : ∃ N : Nat, Hid (N = l.length) := ⟨_, rfl⟩
  rw [← hN.out] at hcell HU h1 h2
  clear h hz hl0 hu hnc
  have hk0 : ((k : Int) == 0) = false := by simp; omega
  have hkp : (0 : Int) < k := by omega
  have hd1 : decide ((N : Int) < 1) = false := by simp; omega
  have hd2 : decide ((32 : Int) < N) = false := by simp; omega
  obtain ⟨w0, hw0⟩ : ∃ w0 : World, Hid (w0 = w.alloc (.cells #[.slice (some ⟨b, off, none⟩) k c] 82)) := ⟨_, rfl⟩
  have B0 := hide (show Below w.heap.size w w0 by rw [hw0.out]; exact below_alloc _ _)
  have X0 := hide (show Bx w0 w.heap.size #[.slice (some ⟨b, off, none⟩) k c] 82 by rw [hw0.out]; exact Bx.new _ _ _)
  go_enter Try.func49, Try.ntmps49
  go_wp2_with fail
  rw [← hw0.out]
  clear hcell
  go_loopw [3, 4] (fun lv i wr => ∃ (n' c' j : Nat) (a' : Option Addr) (cur : List Nat), lv = .slice a' n' c' ∧ i = .int .i64 (j : Int) ∧ n' ≤ 32 ∧ j + 1 ≤ k ∧ Hid (Mx.tgo ls l cur j) ∧ Hid (U64s wr a' n' cur) ∧ Hid (Bx wr w.heap.size #[.slice (some ⟨b, off, none⟩) k c] 82) ∧ Hid (Below w.heap.size w wr)) (fun lv _ _ => sliceLen lv)
  case atStart => exact ⟨N, ci, 0, ai, l, rfl, rfl, by omega, by omega, HZ, HU.out.later B0.out, X0, B0⟩
  case round =>
    obtain ⟨n', c', j, a', cur, rfl, rfl, hn', hj, hG, hU, hX, hB⟩ := hrel
    have HCL := hide hU.out.1
    by_cases hlt : (1 : Int) < n'
    · go_wp2_with fail
      refine (above_any a' n' c' cur wr hU.out (by omega)).mono ?_
      rintro e w2 ⟨v2, rfl, hO2, hb2⟩
      obtain ⟨a2, cap2, hv2⟩ := hO2.out.form
      obtain ⟨N2, hN2⟩ : ∃ N2 : Nat, Hid (N2 = (Mx.overL cur).length) := ⟨_, rfl⟩
      rw [← hN2.out] at hv2
      subst hv2
      have hNlt : N2 + 1 ≤ n' := by
        have h := hN2.out
        rw [Mx.overL_len, HCL.out] at h
        omega
      have HR2 := hide (hO2.out.read (Mx.overL_lt cur)).1
      have X2 := hide (hX.out.later hb2.out hX.out.lt)
      have B2 := hide (hB.out.trans (hb2.out.mono hB.out.size))
      have x2 := X2.out.one
      have HNC := hide (show ¬ cur.length ≤ 1 by rw [HCL.out]; omega)
      obtain ⟨J, hJ⟩ : ∃ J : Nat, Hid (J = j + 1) := ⟨_, rfl⟩
      have hJe : (j : Int) + 1 = (J : Int) := by rw [hJ.out]; rfl
      by_cases hout : (k : Int) ≤ J
      · have hdo : decide ((k : Int) ≤ J) = true := by simpa using hout
        have HT := hide (Mx.tgo_out hG.out HNC.out (by rw [HKL.out]; have := hJ.out; omega))
        go_wp2_with fail
        go_ret
        exact ⟨by rw [HT.out] <;> rfl, B2.out⟩
      · have hdo : decide ((k : Int) ≤ J) = false := by simpa using hout
        obtain ⟨b', off', x, aj, nj, cj, hab, _, hx, e0, hu2, _⟩ := (HL.out.later B2.out).at_ J (by omega)
        cases hab
        have HX := hide hx
        have HU2 := hide hu2
        have hJk : (J : Int) < k := by omega
        have HOut := hide hout
        clear hx hu2 hout hk0 hd1 hd2
        go_wp2_with fail
        refine (sameLevel_any a2 aj N2 cap2 nj cj (Mx.overL cur) x w2 HR2.out HU2.out).mono ?_
        rintro e w3 ⟨r, rfl, hr, q, rfl⟩
        have B3 := hide (below_drewN B2.out q)
        clear e0 x2
        cases r with
        | true =>
          have HG2 := hide (Mx.tgo_next hG.out HNC.out (by rw [← hJ.out]; exact HX.out) (hr.1 rfl))
          rw [← hJ.out] at HG2
          clear hr
          go_wp2_with fail
          go_roundw
          case rel => exact ⟨N2, cap2, J, a2, Mx.overL cur, rfl, rfl, by omega, by omega, HG2, HR2.out.drewN q, X2.out.later (below_drewN (Below.refl _ _) q) X2.out.lt, B3⟩
          case measure => simp [sliceLen]; omega
        | false =>
          have HT := hide (Mx.tgo_unlike hG.out HNC.out (by rw [← hJ.out]; exact HX.out) (fun e => by have := hr.2 e; simp at this))
          clear hr
          go_wp2_with fail
          go_ret
          exact ⟨by rw [HT.out] <;> rfl, B3.out⟩
    · have HT := hide (Mx.tgo_end hG.out (by rw [HCL.out]; omega))
      rw [HKL.out] at HT
      have x2 := hX.out.one
      by_cases hke : j + 1 = k
      · have hne : ((j : Int) != (k : Int) - 1) = false := by simp; omega
        have HT2 := hide (show Mx.tsame ls l = 0 by rw [HT.out, if_pos hke])
        go_wp2_with fail
        go_ret
        exact ⟨by rw [HT2.out] <;> rfl, hB.out⟩
      · have hne : ((j : Int) != (k : Int) - 1) = true := by simp; omega
        have HT2 := hide (show Mx.tsame ls l = 3 by rw [HT.out, if_neg hke])
        clear hke
        go_wp2_with fail
        go_ret
        exact ⟨by rw [HT2.out] <;> rfl, hB.out⟩

set_option maxHeartbeats 1000000 in
set_option maxRecDepth 100000 in
theorem treeMay_any (a : Option Addr) (k c : Nat) (ls : List (List Nat)) (w : World) (h : Lvls w a k ls) :
    Calls Try.prog 49 #[.agg #[.slice a k c]] w fun e w' => e = .returned (.int .i64 (Mx.tmay ls)) ∧ Below w.heap.size w w' := by
  match ls, h with
  | [], h =>
    obtain rfl : k = 0 := h.1.symm
    clear h
    go_enter Try.func49, Try.ntmps49
    go_wp2_with fail
    go_ret
    exact ⟨rfl, below_alloc _ _⟩
  | l :: r, h =>
    have hk : 1 ≤ k := by rw [← h.1]; simp
    by_cases hl : 1 ≤ l.length ∧ l.length ≤ 32
    · refine (treeMay_grow a k c (l :: r) l w h hk hl.1 hl.2 rfl).mono ?_
      rintro e w' ⟨rfl, hb⟩
      exact ⟨by rw [Mx.tmay, if_pos hl], hb⟩
    · have HT := hide (show Mx.tmay (l :: r) = 3 by rw [Mx.tmay, if_neg hl])
      have hkl : k ≤ maxLen := h.2.1
      unfold maxLen at hkl
      obtain ⟨b, off, l0, ai, ni, ci, hab, hbw, hl0, hcell, hu, hnc⟩ := h.at_ 0 (by omega)
      obtain rfl : l = l0 := Option.some.inj hl0
      subst hab
      rw [Nat.add_zero] at hcell
      have hni : ni = l.length := hu.1.symm
      subst hni
      obtain ⟨N, hN⟩ : ∃ N : Nat, Hid (N = l.length) := ⟨_, rfl⟩
      have hNm : N ≤ 9223372036854775807 := by have := hu.2.1; rw [hN.out]; unfold maxLen at this; omega
      rw [← hN.out] at hcell hl
      clear h hl0 hu hnc
      have hk0 : ((k : Int) == 0) = false := by simp; omega
      have hkp : (0 : Int) < k := by omega
      by_cases h1 : (N : Int) < 1
      · have hd1 : decide ((N : Int) < 1) = true := by simpa using h1
        clear hl
        go_enter Try.func49, Try.ntmps49
        go_wp2_with fail
        go_ret
        exact ⟨by rw [HT.out] <;> rfl, below_alloc _ _⟩
      · have hd1 : decide ((N : Int) < 1) = false := by simpa using h1
        have h2 : (32 : Int) < N := by omega
        have hd2 : decide ((32 : Int) < N) = true := by simpa using h2
        clear hl
        go_enter Try.func49, Try.ntmps49
        go_wp2_with fail
        go_ret
        exact ⟨by rw [HT.out] <;> rfl, below_alloc _ _⟩

end Go.Proofs.Ytdhmijjphgcdmaa
