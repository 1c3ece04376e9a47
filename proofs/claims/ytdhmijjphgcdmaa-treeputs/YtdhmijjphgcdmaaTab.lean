/-
  A level of what comes below it, as the document's answer has it (above).
-/
import Derived.Test.YtdhmijjphgcdmaaTo
namespace Go.Proofs.Ytdhmijjphgcdmaa
open Go.RowKit

/-- the first digests of a level -/
def Mx.overP (l : List Nat) (t : Nat) : List Nat := (List.range t).map fun i => Mx.overD ((l.drop (i * 4)).take 4)
theorem Mx.overP_succ (l : List Nat) (t : Nat) : Mx.overP l (t + 1) = Mx.overP l t ++ [Mx.overD ((l.drop (t * 4)).take 4)] := by unfold Mx.overP; rw [List.range_succ, List.map_append]; rfl
theorem Mx.overP_all (l : List Nat) (t : Nat) (h1 : l.length ≤ t * 4) (h2 : t * 4 < l.length + 4) : Mx.overP l t = Mx.overL l := by
  unfold Mx.overP Mx.overL
  rw [show (l.length + 3) / 4 = t by omega]
theorem Mx.overP_len (l : List Nat) (t : Nat) : (Mx.overP l t).length = t := by simp [Mx.overP]
/-- which byte of a number, and what it is divided by -/
def Mx.Dj (j D : Nat) : Prop := (j = 0 ∧ D = 72057594037927936) ∨ (j = 1 ∧ D = 281474976710656) ∨ (j = 2 ∧ D = 1099511627776) ∨ (j = 3 ∧ D = 4294967296) ∨ (j = 4 ∧ D = 16777216) ∨ (j = 5 ∧ D = 65536) ∨ (j = 6 ∧ D = 256) ∨ (j = 7 ∧ D = 1) ∨ (j = 8 ∧ D = 0)
theorem Own.row {w : World} {base : Nat} {v : Value} {l : List Int} (h : Own w base v l) (hn : l ≠ []) (hb : ∀ x ∈ l, 0 ≤ x ∧ x ≤ 255) : ∃ g N cap, v = .slice (some ⟨g, 0, none⟩) N cap ∧ Hid (Bytes w (some ⟨g, 0, none⟩) N l) := by
  obtain ⟨g, cap, hv, _, _⟩ := own_slice h hn
  subst hv
  exact ⟨g, _, cap, rfl, own_bytes h hb⟩

set_option maxHeartbeats 4000000 in
set_option maxRecDepth 100000 in
theorem above_any (a : Option Addr) (n c : Nat) (l : List Nat) (w : World) (hl : U64s w a n l) (hn : n ≤ 1000) :
    Calls Try.prog 96 #[.slice a n c] w fun e w' => ∃ v', e = .returned v' ∧ Hid (OwnU w' w.heap.size v' (Mx.overL l)) ∧ Hid (Below w.heap.size w w') := by
  have HL := hide hl
  have HN := hide hl.1
  clear hl
  go_enter Try.func96, Try.ntmps96
  go_wp2_with fail
  go_loopw [3, 4] (fun v i wr => ∃ (t I : Nat), Hid (I = t * 4) ∧ I ≤ n + 3 ∧ i = .int .i64 (I : Int) ∧ Hid (OwnU wr w.heap.size v (Mx.overP l t)) ∧ Hid (Below w.heap.size w wr)) (fun _ i _ => n + 4 - (intOf i).toNat)
  case atStart => exact ⟨0, 0, rfl, by omega, rfl, OwnU.nil _ _, Below.refl _ _⟩
  case round =>
    obtain ⟨t, I, hI, hIn, rfl, hO, hF⟩ := hrel
    obtain ⟨wo, rfl⟩ : ∃ wo, wo = wr := ⟨wr, rfl⟩
    by_cases hlt : (I : Int) < n
    · go_wp2_with fail
      go_loopw [5, 6] (fun v i wx => ∃ (q K : Nat), Hid (K = I + q) ∧ I ≤ K ∧ K ≤ n ∧ K ≤ I + 4 ∧ i = .int .i64 (K : Int) ∧ Hid (Own wx wo.heap.size v (1 :: ((l.drop I).take q).flatMap Mx.be8)) ∧ Hid (Below wo.heap.size wo wx)) (fun _ i _ => n - (intOf i).toNat)
      case atStart =>
        refine ⟨0, I, rfl, by omega, by omega, by omega, rfl, ?_, below_alloc _ _⟩
        exact World.ownsRow_lit (base := wo.heap.size) (e := 5) (size := 1) wo #[.int .u8 1] 1 (by simp) (by unfold maxLen; omega) rfl
      case round =>
        obtain ⟨q, K, hK, hIK, hKn, hK4, rfl, hB, hG⟩ := hrel
        obtain ⟨wm, rfl⟩ : ∃ wm, wm = wr := ⟨wr, rfl⟩
        by_cases hc : (K : Int) < (I : Int) + 4 ∧ (K : Int) < n
        · obtain ⟨hc1, hc2⟩ := hc
          have hd1 : decide ((K : Int) < (I : Int) + 4) = true := by simpa using hc1
          have hFm := hide (hF.out.trans (hG.out.mono hF.out.size))
          obtain ⟨b, off, x, hab, _, hx, hx2, _⟩ := (HL.out.later hFm.out).at_ K (by omega)
          subst hab
          have HX := hide hx
          clear hx
          go_wp2_with fail
          go_loopw [5, 7] (fun v d wx => ∃ (j D : Nat), Hid (Mx.Dj j D) ∧ d = .int .u64 (D : Int) ∧ Hid (Own wx wo.heap.size v (1 :: ((l.drop I).take q).flatMap Mx.be8 ++ (Mx.be8 x).take j)) ∧ Hid (Below wo.heap.size wo wx)) (fun _ d _ => (intOf d).toNat)
          case atStart => exact ⟨0, 72057594037927936, .inl ⟨rfl, rfl⟩, rfl, by simpa using hB, hG⟩
          case round =>
            obtain ⟨j, D, hD, rfl, hO2, hG2⟩ := hrel
            have hF2 := hide (hF.out.trans (hG2.out.mono hF.out.size))
            have hsz := hG2.out.size
            obtain ⟨b', off', x', hab, hbl, hx', _, e0⟩ := (HL.out.later hF2.out).at_ K (by omega)
            cases hab
            obtain rfl : x' = x := by rw [HX.out] at hx'; exact (Option.some.inj hx').symm
            clear hx'
            obtain ⟨b0, b1, b2, b3, b4, b5, b6, b7⟩ := be8_at x'
            obtain ⟨L, hL⟩ : ∃ L : List Int, Hid (L = 1 :: ((l.drop I).take q).flatMap Mx.be8 ++ (Mx.be8 x').take j) := ⟨_, rfl⟩
            have HLEN := hide (show L.length + 1 ≤ 1000000 by
              rw [hL.out, List.length_append, List.length_cons, Mx.flat_len, List.length_take, List.length_take, Mx.be8_len, List.length_drop]
              have := HN.out
              omega)
            rw [← hL.out] at hO2
            rcases hD.out with ⟨rfl, rfl⟩ | ⟨rfl, rfl⟩ | ⟨rfl, rfl⟩ | ⟨rfl, rfl⟩ | ⟨rfl, rfl⟩ | ⟨rfl, rfl⟩ | ⟨rfl, rfl⟩ | ⟨rfl, rfl⟩ | ⟨rfl, rfl⟩
            · have HT := hide (show ∀ (z : Int) (w' : World) (v' : Value), z = ((x' / 72057594037927936 % 256 : Nat) : Int) → Own w' wo.heap.size v' (L ++ [z]) → Own w' wo.heap.size v' (1 :: ((l.drop I).take q).flatMap Mx.be8 ++ (Mx.be8 x').take (0 + 1)) from fun z w' v' hz h => by
                rw [getElem_take_succ _ _ _ b0, ← hz, ← List.append_assoc, ← hL.out]
                exact h)
              clear hD b0 b1 b2 b3 b4 b5 b6 b7
              go_wp2_with (at_builtin; refine wpList_append_bytes rfl _ _ rfl wo.heap.size L (hO2.out.alloc _) ⟨wr.heap.size, 0, none⟩ 1 1 [_] rfl rfl (cell_news _ _ _ rfl) HLEN.out ?c3 ?_)
              case c3 => simp; omega
              intro v' w' hown' hbel'
              have HO := hide (HT.out _ w' v' (by omega) hown')
              have HB := hide (hG2.out.trans (((Below.refl _ _).alloc hsz _).trans hbel'))
              clear hown' hbel' e0
              go_wp2_with fail
              go_roundw
              case rel => exact ⟨0 + 1, 281474976710656, .inr (.inl ⟨rfl, rfl⟩), rfl, HO, HB⟩
              case measure => simp [intOf]
            · have HT := hide (show ∀ (z : Int) (w' : World) (v' : Value), z = ((x' / 281474976710656 % 256 : Nat) : Int) → Own w' wo.heap.size v' (L ++ [z]) → Own w' wo.heap.size v' (1 :: ((l.drop I).take q).flatMap Mx.be8 ++ (Mx.be8 x').take (1 + 1)) from fun z w' v' hz h => by
                rw [getElem_take_succ _ _ _ b1, ← hz, ← List.append_assoc, ← hL.out]
                exact h)
              clear hD b0 b1 b2 b3 b4 b5 b6 b7
              go_wp2_with (at_builtin; refine wpList_append_bytes rfl _ _ rfl wo.heap.size L (hO2.out.alloc _) ⟨wr.heap.size, 0, none⟩ 1 1 [_] rfl rfl (cell_news _ _ _ rfl) HLEN.out ?c3 ?_)
              case c3 => simp; omega
              intro v' w' hown' hbel'
              have HO := hide (HT.out _ w' v' (by omega) hown')
              have HB := hide (hG2.out.trans (((Below.refl _ _).alloc hsz _).trans hbel'))
              clear hown' hbel' e0
              go_wp2_with fail
              go_roundw
              case rel => exact ⟨1 + 1, 1099511627776, .inr (.inr (.inl ⟨rfl, rfl⟩)), rfl, HO, HB⟩
              case measure => simp [intOf]
            · have HT := hide (show ∀ (z : Int) (w' : World) (v' : Value), z = ((x' / 1099511627776 % 256 : Nat) : Int) → Own w' wo.heap.size v' (L ++ [z]) → Own w' wo.heap.size v' (1 :: ((l.drop I).take q).flatMap Mx.be8 ++ (Mx.be8 x').take (2 + 1)) from fun z w' v' hz h => by
                rw [getElem_take_succ _ _ _ b2, ← hz, ← List.append_assoc, ← hL.out]
                exact h)
              clear hD b0 b1 b2 b3 b4 b5 b6 b7
              go_wp2_with (at_builtin; refine wpList_append_bytes rfl _ _ rfl wo.heap.size L (hO2.out.alloc _) ⟨wr.heap.size, 0, none⟩ 1 1 [_] rfl rfl (cell_news _ _ _ rfl) HLEN.out ?c3 ?_)
              case c3 => simp; omega
              intro v' w' hown' hbel'
              have HO := hide (HT.out _ w' v' (by omega) hown')
              have HB := hide (hG2.out.trans (((Below.refl _ _).alloc hsz _).trans hbel'))
              clear hown' hbel' e0
              go_wp2_with fail
              go_roundw
              case rel => exact ⟨2 + 1, 4294967296, .inr (.inr (.inr (.inl ⟨rfl, rfl⟩))), rfl, HO, HB⟩
              case measure => simp [intOf]
            · have HT := hide (show ∀ (z : Int) (w' : World) (v' : Value), z = ((x' / 4294967296 % 256 : Nat) : Int) → Own w' wo.heap.size v' (L ++ [z]) → Own w' wo.heap.size v' (1 :: ((l.drop I).take q).flatMap Mx.be8 ++ (Mx.be8 x').take (3 + 1)) from fun z w' v' hz h => by
                rw [getElem_take_succ _ _ _ b3, ← hz, ← List.append_assoc, ← hL.out]
                exact h)
              clear hD b0 b1 b2 b3 b4 b5 b6 b7
              go_wp2_with (at_builtin; refine wpList_append_bytes rfl _ _ rfl wo.heap.size L (hO2.out.alloc _) ⟨wr.heap.size, 0, none⟩ 1 1 [_] rfl rfl (cell_news _ _ _ rfl) HLEN.out ?c3 ?_)
              case c3 => simp; omega
              intro v' w' hown' hbel'
              have HO := hide (HT.out _ w' v' (by omega) hown')
              have HB := hide (hG2.out.trans (((Below.refl _ _).alloc hsz _).trans hbel'))
              clear hown' hbel' e0
              go_wp2_with fail
              go_roundw
              case rel => exact ⟨3 + 1, 16777216, .inr (.inr (.inr (.inr (.inl ⟨rfl, rfl⟩)))), rfl, HO, HB⟩
              case measure => simp [intOf]
            · have HT := hide (show ∀ (z : Int) (w' : World) (v' : Value), z = ((x' / 16777216 % 256 : Nat) : Int) → Own w' wo.heap.size v' (L ++ [z]) → Own w' wo.heap.size v' (1 :: ((l.drop I).take q).flatMap Mx.be8 ++ (Mx.be8 x').take (4 + 1)) from fun z w' v' hz h => by
                rw [getElem_take_succ _ _ _ b4, ← hz, ← List.append_assoc, ← hL.out]
                exact h)
              clear hD b0 b1 b2 b3 b4 b5 b6 b7
              go_wp2_with (at_builtin; refine wpList_append_bytes rfl _ _ rfl wo.heap.size L (hO2.out.alloc _) ⟨wr.heap.size, 0, none⟩ 1 1 [_] rfl rfl (cell_news _ _ _ rfl) HLEN.out ?c3 ?_)
              case c3 => simp; omega
              intro v' w' hown' hbel'
              have HO := hide (HT.out _ w' v' (by omega) hown')
              have HB := hide (hG2.out.trans (((Below.refl _ _).alloc hsz _).trans hbel'))
              clear hown' hbel' e0
              go_wp2_with fail
              go_roundw
              case rel => exact ⟨4 + 1, 65536, .inr (.inr (.inr (.inr (.inr (.inl ⟨rfl, rfl⟩))))), rfl, HO, HB⟩
              case measure => simp [intOf]
            · have HT := hide (show ∀ (z : Int) (w' : World) (v' : Value), z = ((x' / 65536 % 256 : Nat) : Int) → Own w' wo.heap.size v' (L ++ [z]) → Own w' wo.heap.size v' (1 :: ((l.drop I).take q).flatMap Mx.be8 ++ (Mx.be8 x').take (5 + 1)) from fun z w' v' hz h => by
                rw [getElem_take_succ _ _ _ b5, ← hz, ← List.append_assoc, ← hL.out]
                exact h)
              clear hD b0 b1 b2 b3 b4 b5 b6 b7
              go_wp2_with (at_builtin; refine wpList_append_bytes rfl _ _ rfl wo.heap.size L (hO2.out.alloc _) ⟨wr.heap.size, 0, none⟩ 1 1 [_] rfl rfl (cell_news _ _ _ rfl) HLEN.out ?c3 ?_)
              case c3 => simp; omega
              intro v' w' hown' hbel'
              have HO := hide (HT.out _ w' v' (by omega) hown')
              have HB := hide (hG2.out.trans (((Below.refl _ _).alloc hsz _).trans hbel'))
              clear hown' hbel' e0
              go_wp2_with fail
              go_roundw
              case rel => exact ⟨5 + 1, 256, .inr (.inr (.inr (.inr (.inr (.inr (.inl ⟨rfl, rfl⟩)))))), rfl, HO, HB⟩
              case measure => simp [intOf]
            · have HT := hide (show ∀ (z : Int) (w' : World) (v' : Value), z = ((x' / 256 % 256 : Nat) : Int) → Own w' wo.heap.size v' (L ++ [z]) → Own w' wo.heap.size v' (1 :: ((l.drop I).take q).flatMap Mx.be8 ++ (Mx.be8 x').take (6 + 1)) from fun z w' v' hz h => by
                rw [getElem_take_succ _ _ _ b6, ← hz, ← List.append_assoc, ← hL.out]
                exact h)
              clear hD b0 b1 b2 b3 b4 b5 b6 b7
              go_wp2_with (at_builtin; refine wpList_append_bytes rfl _ _ rfl wo.heap.size L (hO2.out.alloc _) ⟨wr.heap.size, 0, none⟩ 1 1 [_] rfl rfl (cell_news _ _ _ rfl) HLEN.out ?c3 ?_)
              case c3 => simp; omega
              intro v' w' hown' hbel'
              have HO := hide (HT.out _ w' v' (by omega) hown')
              have HB := hide (hG2.out.trans (((Below.refl _ _).alloc hsz _).trans hbel'))
              clear hown' hbel' e0
              go_wp2_with fail
              go_roundw
              case rel => exact ⟨6 + 1, 1, .inr (.inr (.inr (.inr (.inr (.inr (.inr (.inl ⟨rfl, rfl⟩))))))), rfl, HO, HB⟩
              case measure => simp [intOf]
            · have HT := hide (show ∀ (z : Int) (w' : World) (v' : Value), z = ((x' % 256 : Nat) : Int) → Own w' wo.heap.size v' (L ++ [z]) → Own w' wo.heap.size v' (1 :: ((l.drop I).take q).flatMap Mx.be8 ++ (Mx.be8 x').take (7 + 1)) from fun z w' v' hz h => by
                rw [getElem_take_succ _ _ _ b7, ← hz, ← List.append_assoc, ← hL.out]
                exact h)
              clear hD b0 b1 b2 b3 b4 b5 b6 b7
              go_wp2_with (at_builtin; refine wpList_append_bytes rfl _ _ rfl wo.heap.size L (hO2.out.alloc _) ⟨wr.heap.size, 0, none⟩ 1 1 [_] rfl rfl (cell_news _ _ _ rfl) HLEN.out ?c3 ?_)
              case c3 => simp; omega
              intro v' w' hown' hbel'
              have HO := hide (HT.out _ w' v' (by omega) hown')
              have HB := hide (hG2.out.trans (((Below.refl _ _).alloc hsz _).trans hbel'))
              clear hown' hbel' e0
              go_wp2_with fail
              go_roundw
              case rel => exact ⟨7 + 1, 0, .inr (.inr (.inr (.inr (.inr (.inr (.inr (.inr (⟨rfl, rfl⟩)))))))), rfl, HO, HB⟩
              case measure => simp [intOf]
            · have HO := hide (show Own wr wo.heap.size _ (1 :: ((l.drop I).take (q + 1)).flatMap Mx.be8) by
                have h := hO2.out
                have hq : (l.drop I)[q]? = some x' := by rw [List.getElem?_drop, ← hK.out]; exact HX.out
                rw [hL.out, List.take_of_length_le (l := Mx.be8 x') (by rw [Mx.be8_len]; omega)] at h
                rw [getElem_take_succ _ _ _ hq, List.flatMap_append, List.flatMap_cons, List.flatMap_nil, List.append_nil]
                exact h)
              clear hD b0 b1 b2 b3 b4 b5 b6 b7 e0
              go_wp2_with fail
              go_roundw
              case rel => exact ⟨q + 1, K + 1, by have := hK.out; unfold Hid; omega, by omega, by omega, by omega, by go_num, HO, hG2⟩
              case measure => simp [intOf]; omega
        · have HM := hide (show Own wm wo.heap.size _ (1 :: ((l.drop (t * 4)).take 4).flatMap Mx.be8) by
            have h := hB.out
            have e : (l.drop I).take q = (l.drop (t * 4)).take 4 := by
              have h1 := hK.out
              have h2 := HN.out
              rw [← hI.out]
              rcases (show q = 4 ∨ l.length ≤ I + q ∧ q ≤ 4 by omega) with rfl | ⟨h3, h4⟩
              · rfl
              · rw [List.take_of_length_le (by rw [List.length_drop]; omega), List.take_of_length_le (by rw [List.length_drop]; omega)]
            rw [e] at h
            exact h)
          obtain ⟨g, N, cap, hv, HBY⟩ := Own.row HM.out (by simp) (by
            intro z hz
            rcases List.mem_cons.1 hz with h | h
            · omega
            · exact Mx.flat_byte _ z h)
          subst hv
          obtain ⟨M, hM⟩ : ∃ M : List Int, Hid (M = 1 :: ((l.drop (t * 4)).take 4).flatMap Mx.be8) := ⟨_, rfl⟩
          rw [← hM.out] at HBY
          have hd : decide ((K : Int) < (I : Int) + 4) = false ∨ (decide ((K : Int) < (I : Int) + 4) = true ∧ ¬ (K : Int) < n) := by
            by_cases h : (K : Int) < (I : Int) + 4
            · exact .inr ⟨by simpa using h, fun h2 => hc ⟨h, h2⟩⟩
            · exact .inl (by simpa using h)
          clear hc HM hB
          have HR := hide (show ∀ q', OwnU (wm.drewN q') w.heap.size _ (Mx.overP l t) from fun q' => rowKept hO.out (below_drewN hG.out q'))
          have HFB := hide (show ∀ q', Below w.heap.size w (wm.drewN q') from fun q' => below_drewN (hF.out.trans (hG.out.mono hF.out.size)) q')
          rcases hd with hd1 | ⟨hd1, hd2⟩
          all_goals
            go_wp2_with fail
            refine (digestOf_any _ _ _ _ _ HBY.out).mono ?_
            rintro e w2 ⟨rfl, q2, rfl⟩
            obtain ⟨Z, hZ⟩ : ∃ Z : Nat, Hid (Z = Mx.digest M) := ⟨_, rfl⟩
            rw [← hZ.out]
            go_wp2_with (at_builtin; refine wpList_append_u64 rfl _ _ rfl w.heap.size (Mx.overP l t) ?c0 Z ?c1 ?c2 ?c3 ?_)
            case c0 => exact HR.out q2
            case c1 => rfl
            case c2 => rw [Mx.overP_len]; have := hI.out; omega
            case c3 => exact (HFB.out q2).size
            intro v' w' hown' hgr'
            have HO := hide (show OwnU w' w.heap.size v' (Mx.overP l (t + 1)) by
              rw [Mx.overP_succ, Mx.overD, ← hM.out, ← hZ.out]
              exact hown')
            have HB := hide ((HFB.out q2).grown hgr' (HFB.out q2).size (fun k hk => (World.ownsRow.lt (HR.out q2) k hk).1))
            clear hown' hgr'
            go_wp2_with fail
            go_roundw
            case rel => exact ⟨t + 1, I + 4, by have := hI.out; unfold Hid; omega, by omega, by go_num, HO, HB⟩
            case measure => simp [intOf]; omega
    · have HE := hide (show Mx.overP l t = Mx.overL l from Mx.overP_all l t (by have := hI.out; have := HN.out; omega) (by have := hI.out; have := HN.out; omega))
      go_wp2
      go_ret
      exact ⟨_, rfl, by rw [← HE.out]; exact hO, hF⟩
end Go.Proofs.Ytdhmijjphgcdmaa
