/-
  For bytes of a frame with one of them another one, or cut, or with one more, FrameReads holds (FrameTorn): the walk.
-/
import Derived.Test.YtengpogcdnbabacReads
namespace Go.Proofs.Ytengpogcdnbabac
open Go.RowKit

set_option maxHeartbeats 400000 in
set_option maxRecDepth 100000 in
theorem pick_any (c n : Int) (w : World) (h1 : -9223372036854775808 ≤ c) (h2 : c ≤ 9223372036854775807) (hn : 0 < n) (hn2 : n ≤ 1000000) :
    Calls Try.prog 11 #[.int .i64 c, .int .i64 n] w fun e w' => ∃ r : Nat, (r : Int) < n ∧ e = .returned (.int .i64 (r : Int)) ∧ w' = w := by
  have hn0 : ¬ n = 0 := by omega
  by_cases hc : c < 0
  · have hq0 : 0 ≤ (-(c + 1)) % n := Int.emod_nonneg _ hn0
    have hq1 : (-(c + 1)) % n < n := Int.emod_lt_of_pos _ hn
    obtain ⟨r, hr⟩ := Int.eq_ofNat_of_zero_le hq0
    have HR := hide hr
    have HQ := hide hq1
    clear hr hq0 hq1
    go_enter Try.func11, Try.ntmps11
    go_wp2
    go_ret
    refine ⟨r, by rw [← HR.out]; exact HQ.out, ?_, rfl⟩
    rw [← HR.out]
    show Ending.returned (.int .i64 (-((c + 1).tmod n))) = _
    rw [← Int.neg_tmod, Int.tmod_eq_emod_of_nonneg (by omega)]
  · have hq0 : 0 ≤ c % n := Int.emod_nonneg _ hn0
    have hq1 : c % n < n := Int.emod_lt_of_pos _ hn
    obtain ⟨r, hr⟩ := Int.eq_ofNat_of_zero_le hq0
    have HR := hide hr
    have HQ := hide hq1
    clear hr hq0 hq1
    go_enter Try.func11, Try.ntmps11
    go_wp2
    go_ret
    refine ⟨r, by rw [← HR.out]; exact HQ.out, ?_, rfl⟩
    rw [← HR.out]
    rfl

theorem packB_len {w : World} {kind : Int} {a2 : Option Addr} {n2 : Nat} {l bs : List Int} (h2 : Blks w a2 n2 bs) (hm : Mx.may kind l n2 = 0) : (Mx.packB kind l n2 bs).length ≤ 3000 := by
  obtain ⟨_, _, hll, hn2, _⟩ := may_facts hm
  have := Mx.bodyB_len (kind := kind) hll hn2 h2.1
  rw [Mx.packB, List.length_append, Mx.sealB_len]
  omega

theorem own_slice_cap {w : World} {base : Nat} {v : Value} {l : List Int} (h : Own w base v l) (hn : l ≠ []) : ∃ g cap, v = .slice (some ⟨g, 0, none⟩) l.length cap ∧ base ≤ g ∧ g < w.heap.size ∧ l.length ≤ cap := by
  rcases h.2 with ⟨_, hz⟩ | ⟨g, cap, cur, hv, hb, hh, hc, _⟩
  · exact absurd (List.eq_nil_of_length_eq_zero hz) hn
  · exact ⟨g, cap, hv, hb, (Array.getElem?_eq_some_iff.1 hh).1, hc⟩

/-- one byte of the call's own is another one -/
theorem own_put {w : World} {base g n cap : Nat} {l : List Int} (h : Own w base (.slice (some ⟨g, 0, none⟩) n cap) l) (hb : ∀ x ∈ l, 0 ≤ x ∧ x ≤ 255) (k : Nat) (z : Int) (hk : k < n) (h0 : 0 ≤ z) (h1 : z ≤ 255) :
    Bytes (w.setCell ⟨g, k, none⟩ (.int .u8 z)) (some ⟨g, 0, none⟩) n (l.set k z) := by
  have hB := own_bytes h hb
  obtain ⟨b1, b2, b3, b4⟩ := hB
  refine ⟨by rw [List.length_set]; exact b1, b2, fun x hx => ?_, fun hp => ⟨g, 0, rfl, fun i hi => ?_⟩⟩
  · rcases List.mem_or_eq_of_mem_set hx with h | rfl
    · exact b3 x h
    · exact ⟨h0, h1⟩
  · obtain ⟨b', off', ha, hc⟩ := b4 hp
    cases ha
    have hci := hc i hi
    simp only [Nat.zero_add] at hci ⊢
    by_cases hik : i = k
    · subst hik
      rw [World.cell?_setCell_same' _ _ _ (by rw [hci]; rfl)]
      simp [List.getD_eq_getElem?_getD, b1, hi]
    · rw [World.cell?_setCell_other _ _ _ _ (by intro e; apply hik; cases e; rfl), hci]
      simp [List.getD_eq_getElem?_getD, Ne.symm hik]

theorem own_frozen {w : World} {base g n cap : Nat} {l : List Int} (h : Own w base (.slice (some ⟨g, 0, none⟩) n cap) l) (o : Nat) : w.frozen? ⟨g, o, none⟩ = false := by
  rcases h.2 with ⟨hv, _⟩ | ⟨g', cap', cur, hv, _, hh, _⟩
  · simp at hv
  · simp at hv
    obtain ⟨rfl, _, _⟩ := hv
    unfold World.frozen?
    rw [hh]
    simp

end Go.Proofs.Ytengpogcdnbabac
