/-
  Levels and trees, alike or not: the document's answer (SameLevel, SameTree), and what the program asks (slices.Equal, slices.EqualFunc); how many blocks a tree may have (mayHave).
-/
import Derived.Deep.RegionHeld3
import Derived.Test.YtdhmijjphgcdmacZIter
import Derived.Test.YtdhmijjphgcdmacZDclone
import Derived.Test.YtdhmijjphgcdmacZDbox

namespace Go.Proofs.Ytdhmijjphgcdmac
open Go.RowKit

set_option maxHeartbeats 1000000 in
set_option maxRecDepth 100000 in
theorem sameLevel_any (a1 a2 : Option Addr) (n1 c1 n2 c2 : Nat) (l1 l2 : List Nat) (w : World) (h1 : U64s w a1 n1 l1) (h2 : U64s w a2 n2 l2) :
    Calls Try.prog 69 #[.slice a1 n1 c1, .slice a2 n2 c2] w fun e w' => ∃ r : Bool, e = .returned (.bool r) ∧ (r = true ↔ l1 = l2) ∧ ∃ n, w' = w.drewN n := by
  have hlen : n1 ≤ maxLen := h1.2.1
  have hlen2 : n2 ≤ maxLen := h2.2.1
  unfold maxLen at hlen hlen2
  have H1 := hide h1
  have H2 := hide h2
  clear h1 h2
  by_cases hn : n1 = n2
  · subst hn
    go_enter Try.func69, Try.ntmps69
    go_wp2
    go_loopw [5] (fun i wr => ∃ k : Nat, k ≤ n1 ∧ i = .int .i64 k ∧ Hid (l1.take k = l2.take k) ∧ ∃ n, wr = w.drewN n) (fun i _ => n1 - (intOf i).toNat)
    case atStart => exact ⟨0, by omega, rfl, rfl, 0, rfl⟩
    case round =>
      obtain ⟨k, hk, rfl, hE, n, rfl⟩ := hrel
      by_cases hlt : k < n1
      · obtain ⟨b, off, x, rfl, hb, hx, hx2, e0⟩ := H1.out.at_ k hlt
        obtain ⟨b', off', y, rfl, hb', hy, hy2, f0⟩ := H2.out.at_ k hlt
        have HX := hide hx
        have HY := hide hy
        clear hx hy
        by_cases hcc : x = y
        · subst hcc
          go_wp2_with fail
          go_quiet (fail)
          go_wp2
          go_roundw
          case rel => exact ⟨k + 1, by omega, by go_num, by unfold Hid; rw [getElem_take_succ _ _ _ HX.out, getElem_take_succ _ _ _ HY.out, hE.out], _, rfl⟩
          case measure => simp [intOf]; omega
        · have HF := hide (take_not_eq HX.out HY.out hcc)
          have hne : ((x : Int) != (y : Int)) = true := by simp; omega
          clear hcc
          go_wp2_with fail
          go_quiet (fail)
          go_wp2
          go_ret
          exact ⟨false, rfl, ⟨fun h => by simp at h, fun h => absurd h HF.out⟩, _, by first | rfl | rw [World.drewN_drewN]⟩
      · have HF := hide (take_all_eq (by rw [H1.out.1]; omega) (by rw [H2.out.1]; omega) hE.out)
        go_wp2
        go_ret
        exact ⟨true, rfl, ⟨fun _ => HF.out, fun _ => rfl⟩, _, rfl⟩
  · have hne : ((n1 : Int) != (n2 : Int)) = true := by simp; omega
    have HF := hide (show ¬ l1 = l2 by
      intro e
      have h3 := H1.out.1
      rw [e, H2.out.1] at h3
      omega)
    clear hn
    go_enter Try.func69, Try.ntmps69
    go_wp2
    go_ret
    exact ⟨false, rfl, ⟨fun h => by simp at h, fun h => absurd h HF.out⟩, 0, rfl⟩

set_option maxHeartbeats 1000000 in
set_option maxRecDepth 100000 in
theorem equalU_any (a1 a2 : Option Addr) (n1 c1 n2 c2 : Nat) (l1 l2 : List Nat) (w : World) (h1 : U64s w a1 n1 l1) (h2 : U64s w a2 n2 l2) :
    Calls Try.prog 103 #[.slice a1 n1 c1, .slice a2 n2 c2] w fun e w' => ∃ r : Bool, e = .returned (.bool r) ∧ (r = true ↔ l1 = l2) ∧ ∃ n, w' = w.drewN n := by
  have hlen : n1 ≤ maxLen := h1.2.1
  have hlen2 : n2 ≤ maxLen := h2.2.1
  unfold maxLen at hlen hlen2
  have H1 := hide h1
  have H2 := hide h2
  clear h1 h2
  by_cases hn : n1 = n2
  · subst hn
    go_enter Try.func103, Try.ntmps103
    go_wp2
    go_loopw [13] (fun i wr => ∃ k : Nat, k ≤ n1 ∧ i = .int .i64 k ∧ Hid (l1.take k = l2.take k) ∧ ∃ n, wr = w.drewN n) (fun i _ => n1 - (intOf i).toNat)
    case atStart => exact ⟨0, by omega, rfl, rfl, 0, rfl⟩
    case round =>
      obtain ⟨k, hk, rfl, hE, n, rfl⟩ := hrel
      by_cases hlt : k < n1
      · obtain ⟨b, off, x, rfl, hb, hx, hx2, e0⟩ := H1.out.at_ k hlt
        obtain ⟨b', off', y, rfl, hb', hy, hy2, f0⟩ := H2.out.at_ k hlt
        have HX := hide hx
        have HY := hide hy
        clear hx hy
        by_cases hcc : x = y
        · subst hcc
          go_wp2_with fail
          go_quiet (fail)
          go_wp2
          go_roundw
          case rel => exact ⟨k + 1, by omega, by go_num, by unfold Hid; rw [getElem_take_succ _ _ _ HX.out, getElem_take_succ _ _ _ HY.out, hE.out], _, rfl⟩
          case measure => simp [intOf]; omega
        · have HF := hide (take_not_eq HX.out HY.out hcc)
          have hne : ((x : Int) != (y : Int)) = true := by simp; omega
          clear hcc
          go_wp2_with fail
          go_quiet (fail)
          go_wp2
          go_ret
          exact ⟨false, rfl, ⟨fun h => by simp at h, fun h => absurd h HF.out⟩, _, by first | rfl | rw [World.drewN_drewN]⟩
      · have HF := hide (take_all_eq (by rw [H1.out.1]; omega) (by rw [H2.out.1]; omega) hE.out)
        go_wp2
        go_ret
        exact ⟨true, rfl, ⟨fun _ => HF.out, fun _ => rfl⟩, _, rfl⟩
  · have hne : ((n1 : Int) != (n2 : Int)) = true := by simp; omega
    have HF := hide (show ¬ l1 = l2 by
      intro e
      have h3 := H1.out.1
      rw [e, H2.out.1] at h3
      omega)
    clear hn
    go_enter Try.func103, Try.ntmps103
    go_wp2
    go_ret
    exact ⟨false, rfl, ⟨fun h => by simp at h, fun h => absurd h HF.out⟩, 0, rfl⟩

/-- how many blocks a tree may have -/
def Mx.mayHave (n : Nat) : Bool := decide (1 ≤ n ∧ n ≤ 32)
set_option maxRecDepth 100000 in
theorem mayHave_any (n : Nat) (w : World) :
    Calls Try.prog 64 #[.int .i64 (n : Int)] w fun e w' => e = .returned (.bool (Mx.mayHave n)) ∧ w' = w := by
  by_cases h1 : (1 : Int) ≤ n
  · by_cases h2 : (n : Int) ≤ 32
    · have HD := hide (show Mx.mayHave n = true by unfold Mx.mayHave; simp; omega)
      go_enter Try.func64, Try.ntmps64
      go_wp2
      go_ret
      exact ⟨by rw [HD.out] <;> rfl, rfl⟩
    · have HD := hide (show Mx.mayHave n = false by unfold Mx.mayHave; simp; omega)
      go_enter Try.func64, Try.ntmps64
      go_wp2
      go_ret
      exact ⟨by rw [HD.out] <;> rfl, rfl⟩
  · have HD := hide (show Mx.mayHave n = false by unfold Mx.mayHave; simp; omega)
    go_enter Try.func64, Try.ntmps64
    go_wp2
    go_ret
    exact ⟨by rw [HD.out] <;> rfl, rfl⟩

/-- a tree's levels, read -/
def Lvls (w : World) (a : Option Addr) (k : Nat) (ls : List (List Nat)) : Prop :=
  ls.length = k ∧ k ≤ maxLen ∧ (0 < k → ∃ b off, a = some ⟨b, off, none⟩ ∧ b < w.heap.size ∧ ∀ i l, ls[i]? = some l → ∃ ai ni ci, w.cell? ⟨b, off + i, none⟩ = some (.slice ai ni ci) ∧ U64s w ai ni l ∧ ni ≤ ci)
theorem Lvls.later {w w' : World} {a : Option Addr} {k : Nat} {ls : List (List Nat)} (h : Lvls w a k ls) (hb : Below w.heap.size w w') : Lvls w' a k ls := by
  obtain ⟨h1, h2, h4⟩ := h
  refine ⟨h1, h2, fun hp => ?_⟩
  obtain ⟨b, off, ha, hlt, hc⟩ := h4 hp
  refine ⟨b, off, ha, by have := hb.size; omega, fun i l hl => ?_⟩
  obtain ⟨ai, ni, ci, c1, c2, c3⟩ := hc i l hl
  exact ⟨ai, ni, ci, (hb.cell (p := ⟨b, off + i, none⟩) hlt).trans c1, c2.later hb, c3⟩
theorem Lvls.at_ {w : World} {a : Option Addr} {k : Nat} {ls : List (List Nat)} (h : Lvls w a k ls) (i : Nat) (hi : i < k) :
    ∃ b off l ai ni ci, a = some ⟨b, off, none⟩ ∧ b < w.heap.size ∧ ls[i]? = some l ∧ w.cell? ⟨b, off + i, none⟩ = some (.slice ai ni ci) ∧ U64s w ai ni l ∧ ni ≤ ci := by
  obtain ⟨h1, h2, h4⟩ := h
  obtain ⟨b, off, ha, hlt, hc⟩ := h4 (by omega)
  have hl : ls[i]? = some ls[i] := List.getElem?_eq_getElem (by omega)
  obtain ⟨ai, ni, ci, c1, c2, c3⟩ := hc i _ hl
  exact ⟨b, off, ls[i], ai, ni, ci, ha, hlt, hl, c1, c2, c3⟩
theorem U64s.drewN {w : World} {a : Option Addr} {n : Nat} {l : List Nat} (h : U64s w a n l) (q : Nat) : U64s (w.drewN q) a n l := h.later (below_drewN (Below.refl _ _) q)

set_option maxHeartbeats 2000000 in
set_option maxRecDepth 100000 in
theorem equalF_any (a1 a2 : Option Addr) (n1 c1 n2 c2 : Nat) (l1 l2 : List (List Nat)) (w : World) (h1 : Lvls w a1 n1 l1) (h2 : Lvls w a2 n2 l2) :
    Calls Try.prog 102 #[.slice a1 n1 c1, .slice a2 n2 c2, .func (.func 103) #[] #[]] w fun e w' => ∃ r : Bool, e = .returned (.bool r) ∧ (r = true ↔ l1 = l2) ∧ ∃ n, w' = w.drewN n := by
  have hlen : n1 ≤ maxLen := h1.2.1
  have hlen2 : n2 ≤ maxLen := h2.2.1
  unfold maxLen at hlen hlen2
  have H1 := hide h1
  have H2 := hide h2
  clear h1 h2
  by_cases hn : n1 = n2
  · subst hn
    go_enter Try.func102, Try.ntmps102
    go_wp2
    go_loopw [17] (fun i wr => ∃ k : Nat, k ≤ n1 ∧ i = .int .i64 k ∧ Hid (l1.take k = l2.take k) ∧ ∃ n, wr = w.drewN n) (fun i _ => n1 - (intOf i).toNat)
    case atStart => exact ⟨0, by omega, rfl, rfl, 0, rfl⟩
    case round =>
      obtain ⟨k, hk, rfl, hE, n, rfl⟩ := hrel
      by_cases hlt : k < n1
      · obtain ⟨b, off, x, ai, ni, ci, rfl, hb, hx, e0, hu1, _⟩ := H1.out.at_ k hlt
        obtain ⟨b', off', y, aj, nj, cj, rfl, hb', hy, f0, hu2, _⟩ := H2.out.at_ k hlt
        have HX := hide hx
        have HY := hide hy
        have HU1 := hide hu1
        have HU2 := hide hu2
        clear hx hy hu1 hu2
        go_wp2_with fail
        refine (equalU_any ai aj ni ci nj cj x y _ (HU1.out.drewN n) (HU2.out.drewN n)).mono ?_
        rintro e w2 ⟨r, rfl, hr, q, rfl⟩
        clear e0 f0
        cases r with
        | true =>
          have HXY := hide (hr.1 rfl)
          clear hr
          go_wp2
          go_roundw
          case rel => exact ⟨k + 1, by omega, by go_num, by unfold Hid; rw [getElem_take_succ _ _ _ HX.out, getElem_take_succ _ _ _ HY.out, hE.out, HXY.out], _, by first | rfl | rw [World.drewN_drewN]⟩
          case measure => simp [intOf]; omega
        | false =>
          have HF := hide (take_not_eq HX.out HY.out (fun e => by have := hr.2 e; simp at this))
          clear hr
          go_wp2
          go_ret
          exact ⟨false, rfl, ⟨fun h => by simp at h, fun h => absurd h HF.out⟩, _, by first | rfl | rw [World.drewN_drewN]⟩
      · have HF := hide (take_all_eq (by rw [H1.out.1]; omega) (by rw [H2.out.1]; omega) hE.out)
        go_wp2
        go_ret
        exact ⟨true, rfl, ⟨fun _ => HF.out, fun _ => rfl⟩, _, rfl⟩
  · have hne : ((n1 : Int) != (n2 : Int)) = true := by simp; omega
    have HF := hide (show ¬ l1 = l2 by
      intro e
      have h3 := H1.out.1
      rw [e, H2.out.1] at h3
      omega)
    clear hn
    go_enter Try.func102, Try.ntmps102
    go_wp2
    go_ret
    exact ⟨false, rfl, ⟨fun h => by simp at h, fun h => absurd h HF.out⟩, 0, rfl⟩

end Go.Proofs.Ytdhmijjphgcdmac

/-
  Two trees, alike or not (SameTree).
-/
namespace Go.Proofs.Ytdhmijjphgcdmac
open Go.RowKit

set_option maxHeartbeats 2000000 in
set_option maxRecDepth 100000 in
theorem sameTree_any (a1 a2 : Option Addr) (n1 c1 n2 c2 : Nat) (l1 l2 : List (List Nat)) (w : World) (h1 : Lvls w a1 n1 l1) (h2 : Lvls w a2 n2 l2) :
    Calls Try.prog 26 #[.agg #[.slice a1 n1 c1], .agg #[.slice a2 n2 c2]] w fun e w' => ∃ r : Bool, e = .returned (.bool r) ∧ (r = true ↔ l1 = l2) ∧ Below w.heap.size w w' := by
  have hlen : n1 ≤ maxLen := h1.2.1
  have hlen2 : n2 ≤ maxLen := h2.2.1
  unfold maxLen at hlen hlen2
  obtain ⟨w0, hw0⟩ : ∃ w0 : World, Hid (w0 = (w.alloc (.cells #[.slice a1 n1 c1] 60)).alloc (.cells #[.slice a2 n2 c2] 60)) := ⟨_, rfl⟩
  have B0 := hide (show Below w.heap.size w w0 by rw [hw0.out]; exact (below_alloc _ _).alloc (by simp) _)
  have X0 := hide (show Bx w0 w.heap.size #[.slice a1 n1 c1] 60 by rw [hw0.out]; exact (Bx.new w _ 60).alloc _)
  have Y0 := hide (show Bx w0 (w.heap.size + 1) #[.slice a2 n2 c2] 60 by
    rw [hw0.out]
    have h := Bx.new (w.alloc (.cells #[.slice a1 n1 c1] 60)) #[.slice a2 n2 c2] 60
    rw [World.size_alloc] at h
    exact h)
  have H1 := hide (h1.later B0.out)
  have H2 := hide (h2.later B0.out)
  clear h1 h2
  by_cases hn : n1 = n2
  · subst hn
    go_enter Try.func26, Try.ntmps26
    go_wp2
    rw [← hw0.out]
    go_loopw [5] (fun i wr => ∃ k : Nat, k ≤ n1 ∧ i = .int .i64 k ∧ Hid (l1.take k = l2.take k) ∧ ∃ n, wr = w0.drewN n) (fun i _ => n1 - (intOf i).toNat)
    case atStart => exact ⟨0, by omega, rfl, rfl, 0, rfl⟩
    case round =>
      obtain ⟨k, hk, rfl, hE, n, rfl⟩ := hrel
      obtain ⟨wq, hwq⟩ : ∃ wq : World, Hid (wq = w0.drewN n) := ⟨_, rfl⟩
      rw [← hwq.out]
      have g1 : wq.cell? ⟨w.heap.size, 0, none⟩ = some (.slice a1 n1 c1) := by rw [hwq.out]; exact X0.out.cell 0
      have g2 : wq.cell? ⟨w.heap.size + 1, 0, none⟩ = some (.slice a2 n1 c2) := by rw [hwq.out]; exact Y0.out.cell 0
      by_cases hlt : k < n1
      · obtain ⟨b, off, x, ai, ni, ci, hab, hb, hx, e0, hu1, _⟩ := (H1.out.later (below_drewN (Below.refl _ _) n)).at_ k hlt
        obtain ⟨b', off', y, aj, nj, cj, hab', hb', hy, f0, hu2, _⟩ := (H2.out.later (below_drewN (Below.refl _ _) n)).at_ k hlt
        subst hab hab'
        rw [← hwq.out] at e0 f0 hu1 hu2
        have HX := hide hx
        have HY := hide hy
        have HU1 := hide hu1
        have HU2 := hide hu2
        clear hx hy hu1 hu2 hb hb'
        go_wp2_with fail
        go_region_held3 (fun w' => w'.cell? ⟨w.heap.size, 0, none⟩ = some (.slice (some ⟨b, off, none⟩) n1 c1) ∧ w'.cell? ⟨w.heap.size + 1, 0, none⟩ = some (.slice (some ⟨b', off', none⟩) n1 c2) ∧ w'.cell? ⟨b, off + k, none⟩ = some (.slice ai ni ci) ∧ w'.cell? ⟨b', off' + k, none⟩ = some (.slice aj nj cj))
          (exact ⟨g1, g2, e0, f0⟩)
          (first
          | (go_at_call 69; refine (sameLevel_any ai aj ni ci nj cj x y wq.drew (HU1.out.later (Below.refl _ _).drew) (HU2.out.later (Below.refl _ _).drew)).mono ?_; rintro e w2 ⟨r, rfl, hr, q, rfl⟩))
        all_goals
          clear e0 f0 g1 g2
          cases r with
          | true =>
            have HXY := hide (hr.1 rfl)
            clear hr
            go_wp2
            go_roundw
            case rel => exact ⟨k + 1, by omega, by go_num, by unfold Hid; rw [getElem_take_succ _ _ _ HX.out, getElem_take_succ _ _ _ HY.out, hE.out, HXY.out], _, by rw [hwq.out, World.drewN_drewN]⟩
            case measure => simp [intOf]; omega
          | false =>
            have HF := hide (take_not_eq HX.out HY.out (fun e => by have := hr.2 e; simp at this))
            clear hr
            have HB := hide (show Below w.heap.size w wq by rw [hwq.out]; exact below_drewN B0.out _)
            go_wp2
            go_ret
            exact ⟨false, rfl, ⟨fun h => by simp at h, fun h => absurd h HF.out⟩, below_drewN HB.out _⟩
      · have HF := hide (take_all_eq (by rw [H1.out.1]; omega) (by rw [H2.out.1]; omega) hE.out)
        have HB := hide (show Below w.heap.size w wq by rw [hwq.out]; exact below_drewN B0.out _)
        go_wp2
        go_ret
        exact ⟨true, rfl, ⟨fun _ => HF.out, fun _ => rfl⟩, HB.out⟩
  · have hne : ((n1 : Int) != (n2 : Int)) = true := by simp; omega
    have HF := hide (show ¬ l1 = l2 by
      intro e
      have h3 := H1.out.1
      rw [e, H2.out.1] at h3
      omega)
    clear hn
    go_enter Try.func26, Try.ntmps26
    go_wp2
    rw [← hw0.out]
    go_ret
    exact ⟨false, rfl, ⟨fun h => by simp at h, fun h => absurd h HF.out⟩, B0.out⟩

end Go.Proofs.Ytdhmijjphgcdmac
