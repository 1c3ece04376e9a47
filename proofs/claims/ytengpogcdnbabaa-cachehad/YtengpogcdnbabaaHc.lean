/-
  Whether a list may be what was had, as the program says it (cache.Check).
-/
import Derived.Test.YtengpogcdnbabaaHk
namespace Go.Proofs.Ytengpogcdnbabaa
open Go.RowKit

set_option maxHeartbeats 2000000 in
set_option maxRecDepth 100000 in
theorem ccheck_any (a : Option Addr) (n c : Nat) (l : List B8) (w : World) (hl : BL w a n l) (hc : n ≤ c) :
    Calls Try.prog 62 #[.slice a n c] w fun e w' => e = .returned (errV (Mx.hmay l)) ∧ Below w.heap.size w w' := by
  have hlen : n ≤ maxLen := hl.2.2.1
  unfold maxLen at hlen
  have HL := hide hl
  have HN := hide hl.1
  clear hl
  by_cases h8 : (8 : Int) < n
  · go_enter Try.func62, Try.ntmps62
    go_wp2
    go_ret
    exact ⟨by rw [Mx.hmay_long (by rw [HN.out]; omega)] <;> rfl, Below.refl _ _⟩
  · have HN8 := hide (show ¬ 8 < l.length by rw [HN.out]; omega)
    go_enter Try.func62, Try.ntmps62
    go_wp2
    go_loopw [11] (fun i wr => ∃ k : Nat, k ≤ n ∧ i = .int .i64 k ∧ Hid ((l.take k).Nodup) ∧ Hid (Below w.heap.size w wr)) (fun i _ => n - (intOf i).toNat)
    case atStart => exact ⟨0, by omega, rfl, by unfold Hid; simp, Below.refl _ _⟩
    case round =>
      obtain ⟨k, hk, rfl, hE, hF⟩ := hrel
      by_cases hlt : k < n
      · obtain ⟨b, off, y, rfl, hb, hy, e0, e1, e2, e3, e4, e5, e6, e7⟩ := (HL.out.later hF.out).at_ k hlt
        have HY := hide hy
        clear hy
        have hkc : (k : Int) ≤ c := by omega
        obtain ⟨w1, hw1⟩ : ∃ w1 : World, Hid (w1 = wr.alloc (.cells #[.int .u8 y.z0, .int .u8 y.z1, .int .u8 y.z2, .int .u8 y.z3, .int .u8 y.z4, .int .u8 y.z5, .int .u8 y.z6, .int .u8 y.z7] 52)) := ⟨_, rfl⟩
        have B1 := hide (show Below w.heap.size w w1 by rw [hw1.out]; exact hF.out.alloc hF.out.size _)
        have Y1 := hide (show Bx w1 wr.heap.size #[.int .u8 y.z0, .int .u8 y.z1, .int .u8 y.z2, .int .u8 y.z3, .int .u8 y.z4, .int .u8 y.z5, .int .u8 y.z6, .int .u8 y.z7] 52 by rw [hw1.out]; exact Bx.new _ _ _)
        have HT1 := hide (show BL w1 (some ⟨b, off, none⟩) k (l.take k) from (HL.out.later B1.out).take k (by omega))
        go_wp2_with fail
        rw [← hw1.out]
        clear e0 e1 e2 e3 e4 e5 e6 e7
        obtain ⟨f0, f1, f2, f3, f4, f5, f6, f7⟩ := Y1.out.eight
        by_cases hm : y ∈ l.take k
        · have HD := hide (decide_eq_true hm)
          have HT := hide hm
          clear hm
          go_region_with (go_at_call 103; refine (contains_any (some ⟨b, off, none⟩) k c (l.take k) y _ ?hbl).mono ?_; (case hbl => first | exact HT1.out | exact HT1.out.later (Below.refl _ _).drew); rintro e w2 ⟨rfl, hb2⟩; rw [HD.out])
          all_goals
            have HB := hide (B1.out.drew.trans (hb2.mono B1.out.size))
            clear hb2
            go_wp2
            go_ret
            exact ⟨by rw [Mx.hmay_twice HN8.out HY.out HT.out] <;> rfl, HB.out⟩
        · have HD := hide (decide_eq_false hm)
          have HT := hide hm
          clear hm
          go_region_with (go_at_call 103; refine (contains_any (some ⟨b, off, none⟩) k c (l.take k) y _ ?hbl).mono ?_; (case hbl => first | exact HT1.out | exact HT1.out.later (Below.refl _ _).drew); rintro e w2 ⟨rfl, hb2⟩; rw [HD.out])
          all_goals
            have HB := hide (B1.out.drew.trans (hb2.mono B1.out.size))
            clear hb2
            go_wp2
            go_roundw
            case rel => exact ⟨k + 1, by omega, by go_num, Mx.nodup_snoc HY.out hE.out HT.out, HB⟩
            case measure => simp [intOf]; omega
      · go_wp2
        go_ret
        exact ⟨by rw [Mx.hmay_good HN8.out (k := k) (by rw [HN.out]; omega) hE.out] <;> rfl, hF.out⟩

end Go.Proofs.Ytengpogcdnbabaa
