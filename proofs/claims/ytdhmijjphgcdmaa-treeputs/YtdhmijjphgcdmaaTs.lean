/-
  Levels and trees, alike or not: the document's answer (SameLevel, SameTree), and what the program asks (slices.Equal, slices.EqualFunc); how many blocks a tree may have (mayHave).
-/
import Derived.Test.YtdhmijjphgcdmaaTl
import Derived.Test.YtdhmijjphgcdmaaDbox
import Derived.Test.YtdhmijjphgcdmaaDsame
import Derived.Deep.RegionHeld3
namespace Go.Proofs.Ytdhmijjphgcdmaa
open Go.RowKit

set_option maxHeartbeats 1000000 in
set_option maxRecDepth 100000 in
theorem sameLevel_any (a1 a2 : Option Addr) (n1 c1 n2 c2 : Nat) (l1 l2 : List Nat) (w : World) (h1 : U64s w a1 n1 l1) (h2 : U64s w a2 n2 l2) :
    Calls Try.prog 51 #[.slice a1 n1 c1, .slice a2 n2 c2] w fun e w' => ∃ r : Bool, e = .returned (.bool r) ∧ (r = true ↔ l1 = l2) ∧ ∃ n, w' = w.drewN n := by
  have hlen : n1 ≤ maxLen := h1.2.1
  have hlen2 : n2 ≤ maxLen := h2.2.1
  unfold maxLen at hlen hlen2
  have H1 := hide h1
  have H2 := hide h2
  clear h1 h2
  by_cases hn : n1 = n2
  · subst hn
    go_enter Try.func51, Try.ntmps51
    go_wp2
    go_loopw [5] (fun i wr => ∃ k : Nat, k ≤ n1 ∧ i = .int .i64 k ∧ Hid (l1.take k = l2.take k) ∧ ∃ n, wr = w.drewN n) (fun i _ => n1 - (intOf i).toNat)
    case atStart => exact ⟨0, by omega, rfl, rfl, 0, rfl⟩
    case round =>
      obtain ⟨k, hk, rfl, hE, n, rfl⟩ := hrel
      by_cases hlt : k < n1
      · obtain ⟨b, off, x, rfl, hb, hx, hx2, e0⟩ := H1.out.at_ k hlt
        obtain ⟨b', off', y, rfl, hb', hy, hy2, f0⟩ := H2.out.at_ k hlt
        have HX := hide hx
        have HY := hide hy
        clear hx hy
        by_cases hcc : x = y
        · subst hcc
          go_wp2_with fail
          go_quiet (fail)
          go_wp2
          go_roundw
          case rel => exact ⟨k + 1, by omega, by go_num, by unfold Hid; rw [getElem_take_succ _ _ _ HX.out, getElem_take_succ _ _ _ HY.out, hE.out], _, rfl⟩
          case measure => simp [intOf]; omega
        · have HF := hide (take_not_eq HX.out HY.out hcc)
          have hne : ((x : Int) != (y : Int)) = true := by simp; omega
          clear hcc
          go_wp2_with fail
          go_quiet (fail)
          go_wp2
          go_ret
          exact ⟨false, rfl, ⟨fun h => by simp at h, fun h => absurd h HF.out⟩, _, by first | rfl | rw [World.drewN_drewN]⟩
      · have HF := hide (take_all_eq (by rw [H1.out.1]; omega) (by rw [H2.out.1]; omega) hE.out)
        go_wp2
        go_ret
        exact ⟨true, rfl, ⟨fun _ => HF.out, fun _ => rfl⟩, _, rfl⟩
  · have hne : ((n1 : Int) != (n2 : Int)) = true := by simp; omega
    have HF := hide (show ¬ l1 = l2 by
      intro e
      have h3 := H1.out.1
      rw [e, H2.out.1] at h3
      omega)
    clear hn
    go_enter Try.func51, Try.ntmps51
    go_wp2
    go_ret
    exact ⟨false, rfl, ⟨fun h => by simp at h, fun h => absurd h HF.out⟩, 0, rfl⟩

set_option maxHeartbeats 1000000 in
set_option maxRecDepth 100000 in
theorem equalU_any (a1 a2 : Option Addr) (n1 c1 n2 c2 : Nat) (l1 l2 : List Nat) (w : World) (h1 : U64s w a1 n1 l1) (h2 : U64s w a2 n2 l2) :
    Calls Try.prog 98 #[.slice a1 n1 c1, .slice a2 n2 c2] w fun e w' => ∃ r : Bool, e = .returned (.bool r) ∧ (r = true ↔ l1 = l2) ∧ ∃ n, w' = w.drewN n := by
  have hlen : n1 ≤ maxLen := h1.2.1
  have hlen2 : n2 ≤ maxLen := h2.2.1
  unfold maxLen at hlen hlen2
  have H1 := hide h1
  have H2 := hide h2
  clear h1 h2
  by_cases hn : n1 = n2
  · subst hn
    go_enter Try.func98, Try.ntmps98
    go_wp2
    go_loopw [13] (fun i wr => ∃ k : Nat, k ≤ n1 ∧ i = .int .i64 k ∧ Hid (l1.take k = l2.take k) ∧ ∃ n, wr = w.drewN n) (fun i _ => n1 - (intOf i).toNat)
    case atStart => exact ⟨0, by omega, rfl, rfl, 0, rfl⟩
    case round =>
      obtain ⟨k, hk, rfl, hE, n, rfl⟩ := hrel
      by_cases hlt : k < n1
      · obtain ⟨b, off, x, rfl, hb, hx, hx2, e0⟩ := H1.out.at_ k hlt
        obtain ⟨b', off', y, rfl, hb', hy, hy2, f0⟩ := H2.out.at_ k hlt
        have HX := hide hx
        have HY := hide hy
        clear hx hy
        by_cases hcc : x = y
        · subst hcc
          go_wp2_with fail
          go_quiet (fail)
          go_wp2
          go_roundw
          case rel => exact ⟨k + 1, by omega, by go_num, by unfold Hid; rw [getElem_take_succ _ _ _ HX.out, getElem_take_succ _ _ _ HY.out, hE.out], _, rfl⟩
          case measure => simp [intOf]; omega
        · have HF := hide (take_not_eq HX.out HY.out hcc)
          have hne : ((x : Int) != (y : Int)) = true := by simp; omega
          clear hcc
          go_wp2_with fail
          go_quiet (fail)
          go_wp2
          go_ret
          exact ⟨false, rfl, ⟨fun h => by simp at h, fun h => absurd h HF.out⟩, _, by first | rfl | rw [World.drewN_drewN]⟩
      · have HF := hide (take_all_eq (by rw [H1.out.1]; omega) (by rw [H2.out.1]; omega) hE.out)
        go_wp2
        go_ret
        exact ⟨true, rfl, ⟨fun _ => HF.out, fun _ => rfl⟩, _, rfl⟩
  · have hne : ((n1 : Int) != (n2 : Int)) = true := by simp; omega
    have HF := hide (show ¬ l1 = l2 by
      intro e
      have h3 := H1.out.1
      rw [e, H2.out.1] at h3
      omega)
    clear hn
    go_enter Try.func98, Try.ntmps98
    go_wp2
    go_ret
    exact ⟨false, rfl, ⟨fun h => by simp at h, fun h => absurd h HF.out⟩, 0, rfl⟩

/-- how many blocks a tree may have -/
def Mx.mayHave (n : Nat) : Bool := decide (1 ≤ n ∧ n ≤ 32)
set_option maxRecDepth 100000 in
theorem mayHave_any (n : Nat) (w : World) :
    Calls Try.prog 93 #[.int .i64 (n : Int)] w fun e w' => e = .returned (.bool (Mx.mayHave n)) ∧ w' = w := by
  by_cases h1 : (1 : Int) ≤ n
  · by_cases h2 : (n : Int) ≤ 32
    · have HD := hide (show Mx.mayHave n = true by unfold Mx.mayHave; simp; omega)
      go_enter Try.func93, Try.ntmps93
      go_wp2
      go_ret
      exact ⟨by rw [HD.out] <;> rfl, rfl⟩
    · have HD := hide (show Mx.mayHave n = false by unfold Mx.mayHave; simp; omega)
      go_enter Try.func93, Try.ntmps93
      go_wp2
      go_ret
      exact ⟨by rw [HD.out] <;> rfl, rfl⟩
  · have HD := hide (show Mx.mayHave n = false by unfold Mx.mayHave; simp; omega)
    go_enter Try.func93, Try.ntmps93
    go_wp2
    go_ret
    exact ⟨by rw [HD.out] <;> rfl, rfl⟩

/-- a tree's levels, read -/
def Lvls (w : World) (a : Option Addr) (k : Nat) (ls : List (List Nat)) : Prop :=
  ls.length = k ∧ k ≤ maxLen ∧ (0 < k → ∃ b off, a = some ⟨b, off, none⟩ ∧ b < w.heap.size ∧ ∀ i l, ls[i]? = some l → ∃ ai ni ci, w.cell? ⟨b, off + i, none⟩ = some (.slice ai ni ci) ∧ U64s w ai ni l ∧ ni ≤ ci)
theorem Lvls.later {w w' : World} {a : Option Addr} {k : Nat} {ls : List (List Nat)} (h : Lvls w a k ls) (hb : Below w.heap.size w w') : Lvls w' a k ls := by
  obtain ⟨h1, h2, h4⟩ := h
  refine ⟨h1, h2, fun hp => ?_⟩
  obtain ⟨b, off, ha, hlt, hc⟩ := h4 hp
  refine ⟨b, off, ha, by have := hb.size; omega, fun i l hl => ?_⟩
  obtain ⟨ai, ni, ci, c1, c2, c3⟩ := hc i l hl
  exact ⟨ai, ni, ci, (hb.cell (p := ⟨b, off + i, none⟩) hlt).trans c1, c2.later hb, c3⟩
theorem Lvls.at_ {w : World} {a : Option Addr} {k : Nat} {ls : List (List Nat)} (h : Lvls w a k ls) (i : Nat) (hi : i < k) :
    ∃ b off l ai ni ci, a = some ⟨b, off, none⟩ ∧ b < w.heap.size ∧ ls[i]? = some l ∧ w.cell? ⟨b, off + i, none⟩ = some (.slice ai ni ci) ∧ U64s w ai ni l ∧ ni ≤ ci := by
  obtain ⟨h1, h2, h4⟩ := h
  obtain ⟨b, off, ha, hlt, hc⟩ := h4 (by omega)
  have hl : ls[i]? = some ls[i] := List.getElem?_eq_getElem (by omega)
  obtain ⟨ai, ni, ci, c1, c2, c3⟩ := hc i _ hl
  exact ⟨b, off, ls[i], ai, ni, ci, ha, hlt, hl, c1, c2, c3⟩
theorem U64s.drewN {w : World} {a : Option Addr} {n : Nat} {l : List Nat} (h : U64s w a n l) (q : Nat) : U64s (w.drewN q) a n l := h.later (below_drewN (Below.refl _ _) q)

set_option maxHeartbeats 2000000 in
set_option maxRecDepth 100000 in
theorem equalF_any (a1 a2 : Option Addr) (n1 c1 n2 c2 : Nat) (l1 l2 : List (List Nat)) (w : World) (h1 : Lvls w a1 n1 l1) (h2 : Lvls w a2 n2 l2) :
    Calls Try.prog 97 #[.slice a1 n1 c1, .slice a2 n2 c2, .func (.func 98) #[] #[]] w fun e w' => ∃ r : Bool, e = .returned (.bool r) ∧ (r = true ↔ l1 = l2) ∧ ∃ n, w' = w.drewN n := by
  have hlen : n1 ≤ maxLen := h1.2.1
  have hlen2 : n2 ≤ maxLen := h2.2.1
  unfold maxLen at hlen hlen2
  have H1 := hide h1
  have H2 := hide h2
  clear h1 h2
  by_cases hn : n1 = n2
  · subst hn
    go_enter Try.func97, Try.ntmps97
    go_wp2
    go_loopw [17] (fun i wr => ∃ k : Nat, k ≤ n1 ∧ i = .int .i64 k ∧ Hid (l1.take k = l2.take k) ∧ ∃ n, wr = w.drewN n) (fun i _ => n1 - (intOf i).toNat)
    case atStart => exact ⟨0, by omega, rfl, rfl, 0, rfl⟩
    case round =>
      obtain ⟨k, hk, rfl, hE, n, rfl⟩ := hrel
      by_cases hlt : k < n1
      · obtain ⟨b, off, x, ai, ni, ci, rfl, hb, hx, e0, hu1, _⟩ := H1.out.at_ k hlt
        obtain ⟨b', off', y, aj, nj, cj, rfl, hb', hy, f0, hu2, _⟩ := H2.out.at_ k hlt
        have HX := hide hx
        have HY := hide hy
        have HU1 := hide hu1
        have HU2 := hide hu2
        clear hx hy hu1 hu2
        go_wp2_with fail
        refine (equalU_any ai aj ni ci nj cj x y _ (HU1.out.drewN n) (HU2.out.drewN n)).mono ?_
        rintro e w2 ⟨r, rfl, hr, q, rfl⟩
        clear e0 f0
        cases r with
        | true =>
          have HXY := hide (hr.1 rfl)
          clear hr
          go_wp2
          go_roundw
          case rel => exact ⟨k + 1, by omega, by go_num, by unfold Hid; rw [getElem_take_succ _ _ _ HX.out, getElem_take_succ _ _ _ HY.out, hE.out, HXY.out], _, by first | rfl | rw [World.drewN_drewN]⟩
          case measure => simp [intOf]; omega
        | false =>
          have HF := hide (take_not_eq HX.out HY.out (fun e => by have := hr.2 e; simp at this))
          clear hr
          go_wp2
          go_ret
          exact ⟨false, rfl, ⟨fun h => by simp at h, fun h => absurd h HF.out⟩, _, by first | rfl | rw [World.drewN_drewN]⟩
      · have HF := hide (take_all_eq (by rw [H1.out.1]; omega) (by rw [H2.out.1]; omega) hE.out)
        go_wp2
        go_ret
        exact ⟨true, rfl, ⟨fun _ => HF.out, fun _ => rfl⟩, _, rfl⟩
  · have hne : ((n1 : Int) != (n2 : Int)) = true := by simp; omega
    have HF := hide (show ¬ l1 = l2 by
      intro e
      have h3 := H1.out.1
      rw [e, H2.out.1] at h3
      omega)
    clear hn
    go_enter Try.func97, Try.ntmps97
    go_wp2
    go_ret
    exact ⟨false, rfl, ⟨fun h => by simp at h, fun h => absurd h HF.out⟩, 0, rfl⟩

end Go.Proofs.Ytdhmijjphgcdmaa
