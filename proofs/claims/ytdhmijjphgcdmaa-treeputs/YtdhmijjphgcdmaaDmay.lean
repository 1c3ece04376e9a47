/-
  Whether a disk may be: the document's answer (DiskMay), the program's (Check), and a place on it (has, checkPlace).
-/
import Derived.Test.YtdhmijjphgcdmaaDk
import Derived.BigQuiet
namespace Go.Proofs.Ytdhmijjphgcdmaa
open Go.RowKit

/-- a disk's box -/
def DBox (w wr : World) (g : Nat) (s0 s1 s2 : Value) : Prop := wr.cell? ⟨g, 0, none⟩ = some s0 ∧ wr.cell? ⟨g, 1, none⟩ = some s1 ∧ wr.cell? ⟨g, 2, none⟩ = some s2 ∧ Below w.heap.size w wr ∧ g < wr.heap.size
theorem DBox.start (w : World) (s0 s1 s2 : Value) : DBox w (w.alloc (.cells #[s0, s1, s2] 50)) w.heap.size s0 s1 s2 :=
  ⟨by rw [World.cell?_alloc_new]; rfl, by rw [World.cell?_alloc_new]; rfl, by rw [World.cell?_alloc_new]; rfl, below_alloc _ _, by simp⟩
theorem DBox.later {w wr w' : World} {g : Nat} {s0 s1 s2 : Value} (h : DBox w wr g s0 s1 s2) (hb : Below wr.heap.size wr w') : DBox w w' g s0 s1 s2 :=
  ⟨(hb.cell (p := ⟨g, 0, none⟩) h.2.2.2.2).trans h.1, (hb.cell (p := ⟨g, 1, none⟩) h.2.2.2.2).trans h.2.1, (hb.cell (p := ⟨g, 2, none⟩) h.2.2.2.2).trans h.2.2.1, h.2.2.2.1.trans (hb.mono h.2.2.2.1.size), by have := hb.size; have := h.2.2.2.2; omega⟩

set_option maxHeartbeats 1000000 in
set_option maxRecDepth 100000 in
theorem diskMay_any (sa pa : Option Addr) (n sc m pc : Nat) (left : Int) (ps : List Pt) (w : World) (hp : PL w pa m ps) (hn : n ≤ maxLen) :
    Calls Try.prog 26 #[.agg #[.slice sa n sc, .slice pa m pc, .int .i64 left]] w fun e w' => e = .returned (.int .i64 (Mx.dmay n ps)) ∧ Below w.heap.size w w' := by
  have hlen : m ≤ maxLen := hp.2.2.1
  unfold maxLen at hlen hn
  have HB := hide hp
  have HL := hide hp.1
  clear hp
  by_cases h : n < 1 ∨ 200 < n ∨ 800 < m
  · have HM := hide (Mx.dmay_long (n := n) (ps := ps) (by rw [HL.out]; exact h))
    by_cases h1 : (n : Int) < 1
    · clear h
      go_enter Try.func26, Try.ntmps26
      go_wp2
      go_ret
      exact ⟨by rw [HM.out]; rfl, below_alloc _ _⟩
    · by_cases h2 : (200 : Int) < n
      · clear h
        go_enter Try.func26, Try.ntmps26
        go_wp2
        go_ret
        exact ⟨by rw [HM.out]; rfl, below_alloc _ _⟩
      · have h3 : (800 : Int) < m := by omega
        clear h
        go_enter Try.func26, Try.ntmps26
        go_wp2
        go_ret
        exact ⟨by rw [HM.out]; rfl, below_alloc _ _⟩
  · have h1 : ¬ (n : Int) < 1 := by omega
    have h2 : ¬ (200 : Int) < n := by omega
    have h3 : ¬ (800 : Int) < m := by omega
    have HN := hide (show ¬ (n < 1 ∨ 200 < n ∨ 800 < ps.length) by rw [HL.out]; exact h)
    clear h
    go_enter Try.func26, Try.ntmps26
    go_wp2
    go_loopw [3] (fun i wr => ∃ k : Nat, k ≤ m ∧ i = .int .i64 k ∧ Hid (∀ j p, j < k → ps[j]? = some p → Mx.outside n p = false) ∧ ∃ q, wr = (w.alloc (.cells #[.slice sa n sc, .slice pa m pc, .int .i64 left] 50)).drewN q) (fun i _ => m - (intOf i).toNat)
    case atStart => exact ⟨0, by omega, rfl, fun j p hj => absurd hj (by omega), 0, rfl⟩
    case round =>
      obtain ⟨k, hk, rfl, hgood, q, rfl⟩ := hrel
      by_cases hlt : k < m
      · obtain ⟨b, off, p, rfl, hb, hx, c0, _⟩ := HB.out.at_ k hlt
        obtain ⟨x, hxe⟩ : ∃ x : Int, Hid (x = p.at_) := ⟨_, rfl⟩
        rw [← hxe.out] at c0
        have HX := hide hx
        clear hx
        by_cases hx0 : x < 0
        · have HM := hide (Mx.dmay_bad HN.out k p HX.out (by simp [Mx.outside, ← hxe.out, hx0]))
          have hd : decide (x < 0) = true := by simpa using hx0
          go_wp2_with fail
          go_quiet (fail)
          go_wp2
          go_ret
          exact ⟨by rw [HM.out]; rfl, below_drewN (below_drewN (below_alloc _ _) _) _⟩
        · by_cases hx1 : (n : Int) ≤ x
          · have HM := hide (Mx.dmay_bad HN.out k p HX.out (by simp [Mx.outside, ← hxe.out, hx1]))
            have hd : decide (x < 0) = false := by simpa using hx0
            have hd2 : decide ((n : Int) ≤ x) = true := by simpa using hx1
            go_wp2_with fail
            go_quiet (fail)
            go_wp2
            go_ret
            exact ⟨by rw [HM.out]; rfl, below_drewN (below_drewN (below_alloc _ _) _) _⟩
          · have HG := hide (show Mx.outside n p = false by simp [Mx.outside, ← hxe.out]; omega)
            have hd : decide (x < 0) = false := by simpa using hx0
            have hd2 : decide ((n : Int) ≤ x) = false := by simpa using hx1
            go_wp2_with fail
            go_quiet (fail)
            go_wp2
            go_roundw
            case rel =>
              refine ⟨k + 1, by omega, by go_num, fun j p' hj hp' => ?_, _, rfl⟩
              by_cases hjk : j = k
              · subst hjk
                rw [HX.out] at hp'
                cases hp'
                exact HG.out
              · exact hgood j p' (by omega) hp'
            case measure => simp [intOf]; omega
      · have HM := hide (Mx.dmay_ok HN.out (fun j p hj hp => hgood j p (by rw [HL.out] at hj; omega) hp))
        go_wp2
        go_ret
        exact ⟨by rw [HM.out]; rfl, below_drewN (below_alloc _ _) _⟩

/-- is it a place of a disk of n blocks? -/
def Mx.inside (n : Nat) (x : Int) : Bool := decide (0 ≤ x ∧ x < n)
theorem Mx.inside_yes {n : Nat} {x : Int} (h : 0 ≤ x ∧ x < n) : Mx.inside n x = true := decide_eq_true h
theorem Mx.inside_no {n : Nat} {x : Int} (h : ¬ (0 ≤ x ∧ x < n)) : Mx.inside n x = false := decide_eq_false h

set_option maxHeartbeats 1000000 in
set_option maxRecDepth 100000 in
theorem has_any (sa pa : Option Addr) (n sc m pc : Nat) (left at_ : Int) (w : World) (_hn : n ≤ maxLen) :
    Calls Try.prog 69 #[.agg #[.slice sa n sc, .slice pa m pc, .int .i64 left], .int .i64 at_] w fun e w' => e = .returned (.bool (Mx.inside n at_)) ∧ Below w.heap.size w w' := by
  by_cases h0 : 0 ≤ at_
  · by_cases h1 : at_ < n
    · have HR := hide (Mx.inside_yes (And.intro h0 h1))
      go_enter Try.func69, Try.ntmps69
      go_wp2
      go_ret
      exact ⟨by rw [HR.out]; rfl, below_alloc _ _⟩
    · have HR := hide (Mx.inside_no (n := n) (x := at_) (fun h => h1 h.2))
      go_enter Try.func69, Try.ntmps69
      go_wp2
      go_ret
      exact ⟨by rw [HR.out]; rfl, below_alloc _ _⟩
  · have HR := hide (Mx.inside_no (n := n) (x := at_) (fun h => h0 h.1))
    go_enter Try.func69, Try.ntmps69
    go_wp2
    go_ret
    exact ⟨by rw [HR.out]; rfl, below_alloc _ _⟩

set_option maxHeartbeats 1000000 in
set_option maxRecDepth 100000 in
theorem dcheck_any (sa pa : Option Addr) (n sc m pc : Nat) (left : Int) (ps : List Pt) (w : World) (hp : PL w pa m ps) (hn : n ≤ maxLen) :
    Calls Try.prog 27 #[.agg #[.slice sa n sc, .slice pa m pc, .int .i64 left]] w fun e w' => e = .returned (errV (Mx.dmay n ps)) ∧ Below w.heap.size w w' := by
  have hlen : m ≤ maxLen := hp.2.2.1
  have HNN := hide hn
  unfold maxLen at hlen hn
  have HB := hide hp
  have HL := hide hp.1
  clear hp
  by_cases h : n < 1 ∨ 200 < n ∨ 800 < m
  · have HM := hide (Mx.dmay_long (n := n) (ps := ps) (by rw [HL.out]; exact h))
    by_cases h1 : (n : Int) < 1
    · clear h
      go_enter Try.func27, Try.ntmps27
      go_wp2
      go_ret
      exact ⟨by rw [HM.out]; rfl, below_alloc _ _⟩
    · by_cases h2 : (200 : Int) < n
      · clear h
        go_enter Try.func27, Try.ntmps27
        go_wp2
        go_ret
        exact ⟨by rw [HM.out]; rfl, below_alloc _ _⟩
      · have h3 : (800 : Int) < m := by omega
        clear h
        go_enter Try.func27, Try.ntmps27
        go_wp2
        go_ret
        exact ⟨by rw [HM.out]; rfl, below_alloc _ _⟩
  · have h1 : ¬ (n : Int) < 1 := by omega
    have h2 : ¬ (200 : Int) < n := by omega
    have h3 : ¬ (800 : Int) < m := by omega
    have HN := hide (show ¬ (n < 1 ∨ 200 < n ∨ 800 < ps.length) by rw [HL.out]; exact h)
    clear h
    go_enter Try.func27, Try.ntmps27
    go_wp2
    go_loopw [4, 25] (fun _ i wr => ∃ k : Nat, k ≤ m ∧ i = .int .i64 k ∧ Hid (∀ j p, j < k → ps[j]? = some p → Mx.outside n p = false) ∧ Hid (DBox w wr w.heap.size (.slice sa n sc) (.slice pa m pc) (.int .i64 left))) (fun _ i _ => m - (intOf i).toNat)
    case atStart => exact ⟨0, by omega, rfl, fun j p hj => absurd hj (by omega), DBox.start w _ _ _⟩
    case round =>
      obtain ⟨k, hk, rfl, hgood, hbx⟩ := hrel
      by_cases hlt : k < m
      · obtain ⟨b, off, p, rfl, hb, hx, c0, c1, c2, c3, c4, c5, c6, c7, c8⟩ := (HB.out.later hbx.out.2.2.2.1).at_ k hlt
        obtain ⟨f0, f1, f2, _, hg⟩ := hbx.out
        obtain ⟨x, hxe⟩ : ∃ x : Int, Hid (x = p.at_) := ⟨_, rfl⟩
        rw [← hxe.out] at c0
        have HX := hide hx
        clear hx
        go_wp2_with fail
        refine (has_any sa (some ⟨b, off, none⟩) n sc m pc left x _ HNN.out).mono ?_
        rintro e w1 ⟨rfl, hb1⟩
        have HD := hide (hbx.out.later ((below_alloc _ _).trans (hb1.mono (by simp))))
        by_cases hin : 0 ≤ x ∧ x < n
        · have HG := hide (show Mx.outside n p = false by simp [Mx.outside, ← hxe.out]; omega)
          rw [Mx.inside_yes hin]
          clear hin
          go_wp2
          go_roundw
          case rel =>
            refine ⟨k + 1, by omega, by go_num, fun j p' hj hp' => ?_, HD⟩
            by_cases hjk : j = k
            · subst hjk
              rw [HX.out] at hp'
              cases hp'
              exact HG.out
            · exact hgood j p' (by omega) hp'
          case measure => simp [intOf]; omega
        · have HM := hide (Mx.dmay_bad HN.out k p HX.out (by simp [Mx.outside, ← hxe.out]; omega))
          rw [Mx.inside_no hin]
          clear hin
          go_wp2
          go_ret
          exact ⟨by rw [HM.out]; rfl, HD.out.2.2.2.1⟩
      · have HM := hide (Mx.dmay_ok HN.out (fun j p hj hp => hgood j p (by rw [HL.out] at hj; omega) hp))
        go_wp2
        go_ret
        exact ⟨by rw [HM.out]; rfl, hbx.out.2.2.2.1⟩

namespace Mx
/-- what is wrong with a disk, or else with a place on it -/
def dplace (n : Nat) (ps : List Pt) (at_ : Int) : Int := if dmay n ps = 0 then (if 0 ≤ at_ ∧ at_ < n then 0 else 1) else dmay n ps
end Mx

set_option maxHeartbeats 1000000 in
set_option maxRecDepth 100000 in
theorem checkPlace_any (sa pa : Option Addr) (n sc m pc : Nat) (left at_ : Int) (ps : List Pt) (w : World) (hp : PL w pa m ps) (hn : n ≤ maxLen) :
    Calls Try.prog 70 #[.agg #[.slice sa n sc, .slice pa m pc, .int .i64 left], .int .i64 at_] w fun e w' => e = .returned (errV (Mx.dplace n ps at_)) ∧ Below w.heap.size w w' := by
  have HNN := hide hn
  have HB := hide hp
  clear hp hn
  go_enter Try.func70, Try.ntmps70
  go_wp2_with fail
  refine (dcheck_any sa pa n sc m pc left ps _ (HB.out.later (below_alloc _ _)) HNN.out).mono ?_
  rintro e w1 ⟨rfl, hb1⟩
  have HD := hide ((DBox.start w (.slice sa n sc) (.slice pa m pc) (.int .i64 left)).later hb1)
  obtain ⟨f0, f1, f2, _, hg⟩ := HD.out
  clear hb1
  by_cases hm : Mx.dmay n ps = 0
  · have HM := hide hm
    rw [hm, errV_zero]
    clear hm
    go_wp2_with fail
    refine (has_any sa pa n sc m pc left at_ _ HNN.out).mono ?_
    rintro e w2 ⟨rfl, hb2⟩
    have HB2 := hide (HD.out.later hb2).2.2.2.1
    by_cases hin : 0 ≤ at_ ∧ at_ < n
    · have HR := hide (show Mx.dplace n ps at_ = 0 by unfold Mx.dplace; rw [if_pos HM.out, if_pos hin])
      rw [Mx.inside_yes hin]
      clear hin
      go_wp2
      go_ret
      exact ⟨by rw [HR.out]; rfl, HB2.out⟩
    · have HR := hide (show Mx.dplace n ps at_ = 1 by unfold Mx.dplace; rw [if_pos HM.out, if_neg hin])
      rw [Mx.inside_no hin]
      clear hin
      go_wp2
      go_ret
      exact ⟨by rw [HR.out]; rfl, HB2.out⟩
  · have HR := hide (show Mx.dplace n ps at_ = Mx.dmay n ps by unfold Mx.dplace; rw [if_neg hm])
    have HM := hide hm
    rw [errV_not hm]
    clear hm
    go_wp2
    go_ret
    exact ⟨by rw [HR.out, errV_not HM.out]; rfl, HD.out.2.2.2.1⟩
end Go.Proofs.Ytdhmijjphgcdmaa
