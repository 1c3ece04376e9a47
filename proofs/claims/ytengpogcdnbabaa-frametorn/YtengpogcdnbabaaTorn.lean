/-
  For bytes of a frame with one of them another one, or cut, or with one more, FrameReads holds (FrameTorn): the walk.
-/
import Derived.Test.YtengpogcdnbabaaReads
namespace Go.Proofs.Ytengpogcdnbabaa
open Go.RowKit

set_option maxHeartbeats 400000 in
set_option maxRecDepth 100000 in
theorem pick_any (c n : Int) (w : World) (h1 : -9223372036854775808 ≤ c) (h2 : c ≤ 9223372036854775807) (hn : 0 < n) (hn2 : n ≤ 1000000) :
    Calls Try.prog 25 #[.int .i64 c, .int .i64 n] w fun e w' => ∃ r : Nat, (r : Int) < n ∧ e = .returned (.int .i64 (r : Int)) ∧ w' = w := by
  have hn0 : ¬ n = 0 := by omega
  by_cases hc : c < 0
  · have hq0 : 0 ≤ (-(c + 1)) % n := Int.emod_nonneg _ hn0
    have hq1 : (-(c + 1)) % n < n := Int.emod_lt_of_pos _ hn
    obtain ⟨r, hr⟩ := Int.eq_ofNat_of_zero_le hq0
    have HR := hide hr
    have HQ := hide hq1
    clear hr hq0 hq1
    go_enter Try.func25, Try.ntmps25
    go_wp2
    go_ret
    refine ⟨r, by rw [← HR.out]; exact HQ.out, ?_, rfl⟩
    rw [← HR.out]
    show Ending.returned (.int .i64 (-((c + 1).tmod n))) = _
    rw [← Int.neg_tmod, Int.tmod_eq_emod_of_nonneg (by omega)]
  · have hq0 : 0 ≤ c % n := Int.emod_nonneg _ hn0
    have hq1 : c % n < n := Int.emod_lt_of_pos _ hn
    obtain ⟨r, hr⟩ := Int.eq_ofNat_of_zero_le hq0
    have HR := hide hr
    have HQ := hide hq1
    clear hr hq0 hq1
    go_enter Try.func25, Try.ntmps25
    go_wp2
    go_ret
    refine ⟨r, by rw [← HR.out]; exact HQ.out, ?_, rfl⟩
    rw [← HR.out]
    rfl

theorem packB_len {w : World} {kind : Int} {a2 : Option Addr} {n2 : Nat} {l bs : List Int} (h2 : Blks w a2 n2 bs) (hm : Mx.may kind l n2 = 0) : (Mx.packB kind l n2 bs).length ≤ 3000 := by
  obtain ⟨_, _, hll, hn2, _⟩ := may_facts hm
  have := Mx.bodyB_len (kind := kind) hll hn2 h2.1
  rw [Mx.packB, List.length_append, Mx.sealB_len]
  omega

theorem own_slice_cap {w : World} {base : Nat} {v : Value} {l : List Int} (h : Own w base v l) (hn : l ≠ []) : ∃ g cap, v = .slice (some ⟨g, 0, none⟩) l.length cap ∧ base ≤ g ∧ g < w.heap.size ∧ l.length ≤ cap := by
  rcases h.2 with ⟨_, hz⟩ | ⟨g, cap, cur, hv, hb, hh, hc, _⟩
  · exact absurd (List.eq_nil_of_length_eq_zero hz) hn
  · exact ⟨g, cap, hv, hb, (Array.getElem?_eq_some_iff.1 hh).1, hc⟩

/-- one byte of the call's own is another one -/
theorem own_put {w : World} {base g n cap : Nat} {l : List Int} (h : Own w base (.slice (some ⟨g, 0, none⟩) n cap) l) (hb : ∀ x ∈ l, 0 ≤ x ∧ x ≤ 255) (k : Nat) (z : Int) (hk : k < n) (h0 : 0 ≤ z) (h1 : z ≤ 255) :
    Bytes (w.setCell ⟨g, k, none⟩ (.int .u8 z)) (some ⟨g, 0, none⟩) n (l.set k z) := by
  have hB := own_bytes h hb
  obtain ⟨b1, b2, b3, b4⟩ := hB
  refine ⟨by rw [List.length_set]; exact b1, b2, fun x hx => ?_, fun hp => ⟨g, 0, rfl, fun i hi => ?_⟩⟩
  · rcases List.mem_or_eq_of_mem_set hx with h | rfl
    · exact b3 x h
    · exact ⟨h0, h1⟩
  · obtain ⟨b', off', ha, hc⟩ := b4 hp
    cases ha
    have hci := hc i hi
    simp only [Nat.zero_add] at hci ⊢
    by_cases hik : i = k
    · subst hik
      rw [World.cell?_setCell_same' _ _ _ (by rw [hci]; rfl)]
      simp [List.getD_eq_getElem?_getD, b1, hi]
    · rw [World.cell?_setCell_other _ _ _ _ (by intro e; apply hik; cases e; rfl), hci]
      simp [List.getD_eq_getElem?_getD, Ne.symm hik]

theorem own_frozen {w : World} {base g n cap : Nat} {l : List Int} (h : Own w base (.slice (some ⟨g, 0, none⟩) n cap) l) (o : Nat) : w.frozen? ⟨g, o, none⟩ = false := by
  rcases h.2 with ⟨hv, _⟩ | ⟨g', cap', cur, hv, _, hh, _⟩
  · simp at hv
  · simp at hv
    obtain ⟨rfl, _, _⟩ := hv
    unfold World.frozen?
    rw [hh]
    simp

set_option maxHeartbeats 1000000 in
set_option maxRecDepth 100000 in
theorem torn_any (kind : Int) (a1 a2 : Option Addr) (n1 c1 n2 c2 : Nat) (l bs : List Int) (at_ by_ how : Int) (w : World) (h1 : Ints w a1 n1 l) (h2 : Blks w a2 n2 bs)
    (hat1 : -9223372036854775808 ≤ at_) (hat2 : at_ ≤ 9223372036854775807) (hby1 : -9223372036854775808 ≤ by_) (hby2 : by_ ≤ 9223372036854775807) (hho1 : -9223372036854775808 ≤ how) (hho2 : how ≤ 9223372036854775807) :
    Calls Try.prog 5 #[.agg #[.int .i64 kind, .slice a1 n1 c1, .slice a2 n2 c2], .int .i64 at_, .int .i64 by_, .int .i64 how] w fun e w' => e = .returned (.bool true) ∧ Below w.heap.size w w' := by
  have H1 := hide h1
  have H2 := hide h2
  have HA := hide (And.intro hat1 hat2)
  have HY := hide (And.intro hby1 hby2)
  have HH := hide (And.intro hho1 hho2)
  clear h1 h2 hat1 hat2 hby1 hby2 hho1 hho2
  by_cases hm : Mx.may kind l n2 = 0
  · have HM := hide hm
    clear hm
    go_enter Try.func5, Try.ntmps5
    go_wp2_with fail
    refine (frameMay_any kind a1 a2 n1 c1 n2 c2 l _ (H1.out.later (below_alloc _ _)) H2.out.2.1).mono ?_
    rintro e w1 ⟨rfl, hb1⟩
    rw [HM.out]
    have X1 := hide ((Boxf.start w (.int .i64 kind) (.slice a1 n1 c1) (.slice a2 n2 c2)).later hb1)
    clear hb1
    obtain ⟨f0, f1, f2, b1, s1⟩ := X1.out
    go_wp2_with fail
    refine (packed_any kind a1 a2 n1 c1 n2 c2 l bs w1 (H1.out.later b1) (H2.out.later b1) HM.out).mono ?_
    rintro e w2 ⟨v, rfl, hown, hb2⟩
    obtain ⟨PB, hPB, hPB2, hPB3⟩ : ∃ PB : List Int, PB.length ≤ 3000 ∧ Hid (∀ x ∈ PB, 0 ≤ x ∧ x ≤ 255) ∧ Hid (PB ≠ [] ∧ Own w2 (w1.heap.size + 1) v PB) :=
      ⟨Mx.packB kind l n2 bs, packB_len H2.out HM.out, packB_byte H2.out HM.out, by simp [Mx.packB, Mx.sealB], hown⟩
    clear hown
    obtain ⟨g, cap, rfl, hg1, hg2, hcap⟩ := own_slice_cap hPB3.out.2 hPB3.out.1
    have hpos : 0 < PB.length := List.length_pos_iff.2 hPB3.out.1
    have HB2 := hide (b1.trans (hb2.mono (by omega)))
    have hsz2 := hb2.size
    clear f0 f1 f2 s1 hb2 X1
    go_wp2_with fail
    refine (pick_any at_ PB.length w2 HA.out.1 HA.out.2 (by omega) (by omega)).mono ?_
    rintro e w3 ⟨r, hr, rfl, rfl⟩
    go_wp2_with fail
    refine (pick_any how 3 w3 HH.out.1 HH.out.2 (by omega) (by omega)).mono ?_
    rintro e w4 ⟨q, hq, rfl, rfl⟩
    obtain rfl | rfl | rfl : q = 0 ∨ q = 1 ∨ q = 2 := by omega
    · go_wp2_with fail
      refine (pick_any by_ 256 w4 HY.out.1 HY.out.2 (by omega) (by omega)).mono ?_
      rintro e w5 ⟨z, hz, rfl, rfl⟩
      have HP := hide (own_put hPB3.out.2 hPB2.out r (z : Int) (by omega) (by omega) (by omega))
      have hcr : ∃ x : Int, w5.cell? ⟨g, r, none⟩ = some (.int .u8 x) := by
        obtain ⟨b', off', c, ha, _, _, hc, _⟩ := (own_bytes hPB3.out.2 hPB2.out).at_ r (by omega)
        cases ha
        exact ⟨_, by simpa using hc⟩
      obtain ⟨x, hcr⟩ := hcr
      have hfz := own_frozen hPB3.out.2
      go_wp2_with fail
      refine (reads_any (some ⟨g, 0, none⟩) PB.length cap _ _ HP.out hcap).mono ?_
      rintro e w6 ⟨rfl, hb6⟩
      go_wp2
      go_ret
      exact ⟨rfl, (HB2.out.setCell (p := ⟨g, r, none⟩) (by show _ ≤ g; have := b1.size; omega) _).trans (hb6.mono (by have := HB2.out.size; simp [World.setCell]; omega))⟩
    · have hq1 : (r : Int) ≤ cap := by omega
      go_wp2_with fail
      refine (reads_any (some ⟨g, 0, none⟩) r cap _ _ ((own_bytes hPB3.out.2 hPB2.out).cut r (by omega)) (by omega)).mono ?_
      rintro e w6 ⟨rfl, hb6⟩
      go_wp2
      go_ret
      exact ⟨rfl, HB2.out.trans (hb6.mono HB2.out.size)⟩
    · go_wp2_with fail
      refine (pick_any by_ 256 w4 HY.out.1 HY.out.2 (by omega) (by omega)).mono ?_
      rintro e w5 ⟨z, hz, rfl, rfl⟩
      go_wp2_with (at_builtin; refine wpList_append_bytes rfl _ _ rfl (w1.heap.size + 1) PB (hPB3.out.2.alloc _) ⟨w5.heap.size, 0, none⟩ 1 1 [(z : Int)] rfl rfl ?c1 ?c2 ?c3 ?_)
      case c1 => exact cell_news _ _ _ rfl
      case c2 => omega
      case c3 => simp; omega
      intro v' w' hown' hbel'
      obtain ⟨g', cap', rfl, _, _, hcap'⟩ := own_slice_cap hown' (by simp)
      have HBY := hide (own_bytes hown' (by
        intro x hx
        rcases List.mem_append.1 hx with h | h
        · exact hPB2.out x h
        · simp at h; omega))
      have HB3 := hide ((HB2.out.alloc HB2.out.size (.cells #[.int .u8 (z : Int)] 5)).trans (hbel'.mono (by have := b1.size; omega)))
      clear hown' hbel'
      rw [show (PB ++ [(z : Int)]).length = PB.length + 1 by simp] at HBY hcap'
      go_wp2_with fail
      refine (reads_any (some ⟨g', 0, none⟩) (PB.length + 1) cap' (PB ++ [(z : Int)]) w' HBY.out hcap').mono ?_
      rintro e w6 ⟨rfl, hb6⟩
      go_wp2
      go_ret
      exact ⟨rfl, HB3.out.trans (hb6.mono HB3.out.size)⟩
  · obtain ⟨E, hE, hE0⟩ : ∃ E : Int, Hid (Mx.may kind l n2 = E) ∧ (E != 0) = true := ⟨_, rfl, by simpa using hm⟩
    clear hm
    go_enter Try.func5, Try.ntmps5
    go_wp2_with fail
    refine (frameMay_any kind a1 a2 n1 c1 n2 c2 l _ (H1.out.later (below_alloc _ _)) H2.out.2.1).mono ?_
    rintro e w1 ⟨rfl, hb1⟩
    rw [hE.out]
    go_wp2
    go_ret
    exact ⟨rfl, (below_alloc _ _).trans (hb1.mono (by simp))⟩
end Go.Proofs.Ytengpogcdnbabaa
