/-
  The digest of digests: the program's (ofDigests).
-/
import Derived.Test.YtdhmijjphgcdmaaTl
import Derived.Test.YtdhmijjphgcdmaaDsame
namespace Go.Proofs.Ytdhmijjphgcdmaa
open Go.RowKit

theorem be8_at (x : Nat) :
    (Mx.be8 x)[0]? = some ((x / 72057594037927936 % 256 : Nat) : Int) ∧ (Mx.be8 x)[1]? = some ((x / 281474976710656 % 256 : Nat) : Int) ∧ (Mx.be8 x)[2]? = some ((x / 1099511627776 % 256 : Nat) : Int) ∧ (Mx.be8 x)[3]? = some ((x / 4294967296 % 256 : Nat) : Int) ∧
    (Mx.be8 x)[4]? = some ((x / 16777216 % 256 : Nat) : Int) ∧ (Mx.be8 x)[5]? = some ((x / 65536 % 256 : Nat) : Int) ∧ (Mx.be8 x)[6]? = some ((x / 256 % 256 : Nat) : Int) ∧ (Mx.be8 x)[7]? = some ((x % 256 : Nat) : Int) := by
  refine ⟨?_, ?_, ?_, ?_, ?_, ?_, ?_, ?_⟩ <;> simp [Mx.be8]

set_option maxHeartbeats 2000000 in
set_option maxRecDepth 100000 in
theorem ofDigests_any (a : Option Addr) (n c : Nat) (l : List Nat) (w : World) (hl : U64s w a n l) (hn : n ≤ 4) :
    Calls Try.prog 115 #[.slice a n c] w fun e w' => e = .returned (.int .u64 (Mx.overD l : Int)) ∧ Below w.heap.size w w' := by
  have HL := hide hl
  have HN := hide hl.1
  clear hl
  go_enter Try.func115, Try.ntmps115
  go_wp2_with fail
  go_loopw [3, 10] (fun v i wr => ∃ k : Nat, k ≤ n ∧ i = .int .i64 k ∧ Hid (Own wr w.heap.size v (1 :: (l.take k).flatMap Mx.be8)) ∧ Hid (Below w.heap.size w wr)) (fun _ i _ => n - (intOf i).toNat)
  case atStart =>
    refine ⟨0, by omega, rfl, ?_, below_alloc _ _⟩
    exact World.ownsRow_lit (base := w.heap.size) (e := 5) (size := 1) w #[.int .u8 1] 1 (by simp) (by unfold maxLen; omega) rfl
  case round =>
    obtain ⟨k, hk, rfl, hO, hF⟩ := hrel
    by_cases hlt : k < n
    · obtain ⟨b, off, x, rfl, hb, hx, hx2, e0⟩ := (HL.out.later hF.out).at_ k hlt
      have HX := hide hx
      clear hx
      go_wp2_with fail
      clear e0
      go_loopw [3, 6] (fun v s wr => ∃ (j : Nat) (s0 : Int), j ≤ 8 ∧ s = .int .i64 s0 ∧ s0 = 56 - 8 * (j : Int) ∧ Hid (Own wr w.heap.size v (1 :: (l.take k).flatMap Mx.be8 ++ (Mx.be8 x).take j)) ∧ Hid (Below w.heap.size w wr)) (fun _ s _ => (intOf s + 8).toNat)
      case atStart => exact ⟨0, 56, by omega, rfl, by omega, by simpa using hO, hF⟩
      case round =>
        obtain ⟨j, s0, hj, rfl, hs, hO2, hF2⟩ := hrel
        have hsz := hF2.out.size
        have HLEN := hide (show (1 :: (l.take k).flatMap Mx.be8 ++ (Mx.be8 x).take j).length + 1 ≤ 1000000 by
          rw [List.length_append, List.length_cons, Mx.flat_len, List.length_take, List.length_take, Mx.be8_len]
          have := HN.out
          omega)
        obtain ⟨b0, b1, b2, b3, b4, b5, b6, b7⟩ := be8_at x
        obtain ⟨L, hL⟩ : ∃ L : List Int, Hid (L = 1 :: (l.take k).flatMap Mx.be8 ++ (Mx.be8 x).take j) := ⟨_, rfl⟩
        rw [← hL.out] at hO2 HLEN
        by_cases hj8 : j < 8
        · have h8 : j = 0 ∨ j = 1 ∨ j = 2 ∨ j = 3 ∨ j = 4 ∨ j = 5 ∨ j = 6 ∨ j = 7 := by omega
          rcases h8 with rfl | rfl | rfl | rfl | rfl | rfl | rfl | rfl
          · obtain rfl : s0 = 56 := by omega
            have HT := hide (show ∀ (z : Int) (w' : World) (v' : Value), z = ((x / 72057594037927936 % 256 : Nat) : Int) → Own w' w.heap.size v' (L ++ [z]) → Own w' w.heap.size v' (1 :: (l.take k).flatMap Mx.be8 ++ (Mx.be8 x).take (0 + 1)) from fun z w' v' hz h => by
              rw [getElem_take_succ _ _ _ b0, ← hz, ← List.append_assoc, ← hL.out]
              exact h)
            clear hs b0 b1 b2 b3 b4 b5 b6 b7
            go_wp2_with (at_builtin; refine wpList_append_bytes rfl _ _ rfl w.heap.size L (hO2.out.alloc _) ⟨wr.heap.size, 0, none⟩ 1 1 [_] rfl rfl (cell_news _ _ _ rfl) HLEN.out ?c3 ?_)
            case c3 => simp; omega
            intro v' w' hown' hbel'
            have HO := hide (HT.out _ w' v' (by omega) hown')
            have HB := hide (hF2.out.trans (((Below.refl _ _).alloc hsz _).trans hbel'))
            clear hown' hbel'
            go_wp2_with fail
            go_roundw
            case rel => exact ⟨0 + 1, _, by omega, rfl, by omega, HO, HB⟩
            case measure => simp [intOf]
          · obtain rfl : s0 = 48 := by omega
            have HT := hide (show ∀ (z : Int) (w' : World) (v' : Value), z = ((x / 281474976710656 % 256 : Nat) : Int) → Own w' w.heap.size v' (L ++ [z]) → Own w' w.heap.size v' (1 :: (l.take k).flatMap Mx.be8 ++ (Mx.be8 x).take (1 + 1)) from fun z w' v' hz h => by
              rw [getElem_take_succ _ _ _ b1, ← hz, ← List.append_assoc, ← hL.out]
              exact h)
            clear hs b0 b1 b2 b3 b4 b5 b6 b7
            go_wp2_with (at_builtin; refine wpList_append_bytes rfl _ _ rfl w.heap.size L (hO2.out.alloc _) ⟨wr.heap.size, 0, none⟩ 1 1 [_] rfl rfl (cell_news _ _ _ rfl) HLEN.out ?c3 ?_)
            case c3 => simp; omega
            intro v' w' hown' hbel'
            have HO := hide (HT.out _ w' v' (by omega) hown')
            have HB := hide (hF2.out.trans (((Below.refl _ _).alloc hsz _).trans hbel'))
            clear hown' hbel'
            go_wp2_with fail
            go_roundw
            case rel => exact ⟨1 + 1, _, by omega, rfl, by omega, HO, HB⟩
            case measure => simp [intOf]
          · obtain rfl : s0 = 40 := by omega
            have HT := hide (show ∀ (z : Int) (w' : World) (v' : Value), z = ((x / 1099511627776 % 256 : Nat) : Int) → Own w' w.heap.size v' (L ++ [z]) → Own w' w.heap.size v' (1 :: (l.take k).flatMap Mx.be8 ++ (Mx.be8 x).take (2 + 1)) from fun z w' v' hz h => by
              rw [getElem_take_succ _ _ _ b2, ← hz, ← List.append_assoc, ← hL.out]
              exact h)
            clear hs b0 b1 b2 b3 b4 b5 b6 b7
            go_wp2_with (at_builtin; refine wpList_append_bytes rfl _ _ rfl w.heap.size L (hO2.out.alloc _) ⟨wr.heap.size, 0, none⟩ 1 1 [_] rfl rfl (cell_news _ _ _ rfl) HLEN.out ?c3 ?_)
            case c3 => simp; omega
            intro v' w' hown' hbel'
            have HO := hide (HT.out _ w' v' (by omega) hown')
            have HB := hide (hF2.out.trans (((Below.refl _ _).alloc hsz _).trans hbel'))
            clear hown' hbel'
            go_wp2_with fail
            go_roundw
            case rel => exact ⟨2 + 1, _, by omega, rfl, by omega, HO, HB⟩
            case measure => simp [intOf]
          · obtain rfl : s0 = 32 := by omega
            have HT := hide (show ∀ (z : Int) (w' : World) (v' : Value), z = ((x / 4294967296 % 256 : Nat) : Int) → Own w' w.heap.size v' (L ++ [z]) → Own w' w.heap.size v' (1 :: (l.take k).flatMap Mx.be8 ++ (Mx.be8 x).take (3 + 1)) from fun z w' v' hz h => by
              rw [getElem_take_succ _ _ _ b3, ← hz, ← List.append_assoc, ← hL.out]
              exact h)
            clear hs b0 b1 b2 b3 b4 b5 b6 b7
            go_wp2_with (at_builtin; refine wpList_append_bytes rfl _ _ rfl w.heap.size L (hO2.out.alloc _) ⟨wr.heap.size, 0, none⟩ 1 1 [_] rfl rfl (cell_news _ _ _ rfl) HLEN.out ?c3 ?_)
            case c3 => simp; omega
            intro v' w' hown' hbel'
            have HO := hide (HT.out _ w' v' (by omega) hown')
            have HB := hide (hF2.out.trans (((Below.refl _ _).alloc hsz _).trans hbel'))
            clear hown' hbel'
            go_wp2_with fail
            go_roundw
            case rel => exact ⟨3 + 1, _, by omega, rfl, by omega, HO, HB⟩
            case measure => simp [intOf]
          · obtain rfl : s0 = 24 := by omega
            have HT := hide (show ∀ (z : Int) (w' : World) (v' : Value), z = ((x / 16777216 % 256 : Nat) : Int) → Own w' w.heap.size v' (L ++ [z]) → Own w' w.heap.size v' (1 :: (l.take k).flatMap Mx.be8 ++ (Mx.be8 x).take (4 + 1)) from fun z w' v' hz h => by
              rw [getElem_take_succ _ _ _ b4, ← hz, ← List.append_assoc, ← hL.out]
              exact h)
            clear hs b0 b1 b2 b3 b4 b5 b6 b7
            go_wp2_with (at_builtin; refine wpList_append_bytes rfl _ _ rfl w.heap.size L (hO2.out.alloc _) ⟨wr.heap.size, 0, none⟩ 1 1 [_] rfl rfl (cell_news _ _ _ rfl) HLEN.out ?c3 ?_)
            case c3 => simp; omega
            intro v' w' hown' hbel'
            have HO := hide (HT.out _ w' v' (by omega) hown')
            have HB := hide (hF2.out.trans (((Below.refl _ _).alloc hsz _).trans hbel'))
            clear hown' hbel'
            go_wp2_with fail
            go_roundw
            case rel => exact ⟨4 + 1, _, by omega, rfl, by omega, HO, HB⟩
            case measure => simp [intOf]
          · obtain rfl : s0 = 16 := by omega
            have HT := hide (show ∀ (z : Int) (w' : World) (v' : Value), z = ((x / 65536 % 256 : Nat) : Int) → Own w' w.heap.size v' (L ++ [z]) → Own w' w.heap.size v' (1 :: (l.take k).flatMap Mx.be8 ++ (Mx.be8 x).take (5 + 1)) from fun z w' v' hz h => by
              rw [getElem_take_succ _ _ _ b5, ← hz, ← List.append_assoc, ← hL.out]
              exact h)
            clear hs b0 b1 b2 b3 b4 b5 b6 b7
            go_wp2_with (at_builtin; refine wpList_append_bytes rfl _ _ rfl w.heap.size L (hO2.out.alloc _) ⟨wr.heap.size, 0, none⟩ 1 1 [_] rfl rfl (cell_news _ _ _ rfl) HLEN.out ?c3 ?_)
            case c3 => simp; omega
            intro v' w' hown' hbel'
            have HO := hide (HT.out _ w' v' (by omega) hown')
            have HB := hide (hF2.out.trans (((Below.refl _ _).alloc hsz _).trans hbel'))
            clear hown' hbel'
            go_wp2_with fail
            go_roundw
            case rel => exact ⟨5 + 1, _, by omega, rfl, by omega, HO, HB⟩
            case measure => simp [intOf]
          · obtain rfl : s0 = 8 := by omega
            have HT := hide (show ∀ (z : Int) (w' : World) (v' : Value), z = ((x / 256 % 256 : Nat) : Int) → Own w' w.heap.size v' (L ++ [z]) → Own w' w.heap.size v' (1 :: (l.take k).flatMap Mx.be8 ++ (Mx.be8 x).take (6 + 1)) from fun z w' v' hz h => by
              rw [getElem_take_succ _ _ _ b6, ← hz, ← List.append_assoc, ← hL.out]
              exact h)
            clear hs b0 b1 b2 b3 b4 b5 b6 b7
            go_wp2_with (at_builtin; refine wpList_append_bytes rfl _ _ rfl w.heap.size L (hO2.out.alloc _) ⟨wr.heap.size, 0, none⟩ 1 1 [_] rfl rfl (cell_news _ _ _ rfl) HLEN.out ?c3 ?_)
            case c3 => simp; omega
            intro v' w' hown' hbel'
            have HO := hide (HT.out _ w' v' (by omega) hown')
            have HB := hide (hF2.out.trans (((Below.refl _ _).alloc hsz _).trans hbel'))
            clear hown' hbel'
            go_wp2_with fail
            go_roundw
            case rel => exact ⟨6 + 1, _, by omega, rfl, by omega, HO, HB⟩
            case measure => simp [intOf]
          · obtain rfl : s0 = 0 := by omega
            have HT := hide (show ∀ (z : Int) (w' : World) (v' : Value), z = ((x % 256 : Nat) : Int) → Own w' w.heap.size v' (L ++ [z]) → Own w' w.heap.size v' (1 :: (l.take k).flatMap Mx.be8 ++ (Mx.be8 x).take (7 + 1)) from fun z w' v' hz h => by
              rw [getElem_take_succ _ _ _ b7, ← hz, ← List.append_assoc, ← hL.out]
              exact h)
            clear hs b0 b1 b2 b3 b4 b5 b6 b7
            go_wp2_with (at_builtin; refine wpList_append_bytes rfl _ _ rfl w.heap.size L (hO2.out.alloc _) ⟨wr.heap.size, 0, none⟩ 1 1 [_] rfl rfl (cell_news _ _ _ rfl) HLEN.out ?c3 ?_)
            case c3 => simp; omega
            intro v' w' hown' hbel'
            have HO := hide (HT.out _ w' v' (by omega) hown')
            have HB := hide (hF2.out.trans (((Below.refl _ _).alloc hsz _).trans hbel'))
            clear hown' hbel'
            go_wp2_with fail
            go_roundw
            case rel => exact ⟨7 + 1, _, by omega, rfl, by omega, HO, HB⟩
            case measure => simp [intOf]
        · obtain rfl : j = 8 := by omega
          obtain rfl : s0 = -8 := by omega
          have HO := hide (show Own wr w.heap.size _ (1 :: (l.take (k + 1)).flatMap Mx.be8) by
            have h := hO2.out
            rw [hL.out, List.take_of_length_le (l := Mx.be8 x) (by rw [Mx.be8_len]; omega)] at h
            rw [getElem_take_succ _ _ _ HX.out, List.flatMap_append, List.flatMap_cons, List.flatMap_nil, List.append_nil]
            exact h)
          clear hs b0 b1 b2 b3 b4 b5 b6 b7
          go_wp2_with fail
          go_roundw
          case rel => exact ⟨k + 1, by omega, by go_num, HO, hF2⟩
          case measure => simp [intOf]; omega
    · have HO := hide (show Own wr w.heap.size _ (1 :: l.flatMap Mx.be8) by
        have h := hO.out
        rw [List.take_of_length_le (by rw [HN.out]; omega)] at h
        exact h)
      obtain ⟨g, cap, hv, _, _⟩ := own_slice HO.out (by simp)
      obtain ⟨N, hNe⟩ : ∃ N : Nat, Hid (N = (1 :: l.flatMap Mx.be8).length) := ⟨_, rfl⟩
      obtain ⟨M, hM⟩ : ∃ M : List Int, Hid (M = 1 :: l.flatMap Mx.be8) := ⟨_, rfl⟩
      rw [← hNe.out] at hv
      subst hv
      rw [← hM.out] at HO
      have HBY := hide (own_bytes HO.out (by
        rw [hM.out]
        intro z hz
        rcases List.mem_cons.1 hz with h | h
        · omega
        · exact Mx.flat_byte l z h))
      go_wp2_with fail
      refine (digest_any _ _ _ _ _ HBY.out).mono ?_
      rintro e w2 ⟨rfl, rfl⟩
      go_wp2
      go_ret
      refine ⟨?_, hF.out⟩
      unfold Mx.overD
      rw [← hM.out]
      rfl
end Go.Proofs.Ytdhmijjphgcdmaa
