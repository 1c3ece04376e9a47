/-
  A tree of blocks, as the document's answer has it (TreeOf).
-/
import Derived.Test.YtdhmijjphgcdmaaTck
namespace Go.Proofs.Ytdhmijjphgcdmaa
open Go.RowKit

theorem BL.byteAt {w : World} {b off n : Nat} {l : List B8} (h : BL w (some ⟨b, off, none⟩) n l) (k : Nat) (hk : k < n) {y : B8} (hy : l[k]? = some y) (j : Nat) (hj : j < 8) : ∃ z : Int, (Mx.bytesOf y)[j]? = some z ∧ w.cell? ⟨b, off + k * 8 + j, none⟩ = some (.int .u8 z) := by
  obtain ⟨b', off', x, ha, _, hx, e0, e1, e2, e3, e4, e5, e6, e7⟩ := h.at_ k hk
  cases ha
  obtain rfl : x = y := by rw [hy] at hx; exact (Option.some.inj hx).symm
  match j, hj with
  | 0, _ => exact ⟨_, rfl, e0⟩
  | 1, _ => exact ⟨_, rfl, e1⟩
  | 2, _ => exact ⟨_, rfl, e2⟩
  | 3, _ => exact ⟨_, rfl, e3⟩
  | 4, _ => exact ⟨_, rfl, e4⟩
  | 5, _ => exact ⟨_, rfl, e5⟩
  | 6, _ => exact ⟨_, rfl, e6⟩
  | 7, _ => exact ⟨_, rfl, e7⟩
  | n + 8, h => omega

set_option maxHeartbeats 8000000 in
set_option maxRecDepth 100000 in
theorem treeOf_any (a : Option Addr) (n c : Nat) (l : List B8) (w : World) (hl : BL w a n l) (hok : ∀ x ∈ l, x.ok) (hn0 : 1 ≤ n) (hn : n ≤ 1000) :
    Calls Try.prog 46 #[.slice a n c] w fun e w' => ∃ a' k cap, e = .returned (.agg #[.slice a' k cap]) ∧ Hid (Lvls w' a' k (Mx.levels (l.map Mx.blockD)) ∧ k ≤ cap) ∧ Hid (Below w.heap.size w w') := by
  have HBL := hide hl
  have HBN := hide hl.1
  have HOK := hide hok
  clear hl hok
  go_enter Try.func46, Try.ntmps46
  go_wp2_with fail
  go_loopw [3, 4] (fun v i wr => ∃ k : Nat, k ≤ n ∧ i = .int .i64 k ∧ Hid (Bx wr w.heap.size #[.slice none 0 0] 82 ∧ OwnU wr (w.heap.size + 1) v ((l.take k).map Mx.blockD) ∧ Below w.heap.size w wr ∧ w.heap.size + 1 ≤ wr.heap.size)) (fun _ i _ => n - (intOf i).toNat)
  case atStart => exact ⟨0, by omega, rfl, Bx.new _ _ _, OwnU.nil _ _, below_alloc _ _, by simp⟩
  case round =>
    obtain ⟨k, hk, rfl, hI0⟩ := hrel
    obtain ⟨wo, rfl⟩ : ∃ wo, wo = wr := ⟨wr, rfl⟩
    by_cases hlt : k < n
    · obtain ⟨b, off, y, hab, _, hy, _⟩ := (HBL.out.later hI0.out.2.2.1).at_ k hlt
      subst hab
      have HY := hide hy
      have HYO := hide (HOK.out y (List.mem_of_getElem? hy))
      clear hy
      go_wp2_with fail
      go_loopw [5, 6] (fun v i wx => ∃ j : Nat, j ≤ 8 ∧ i = .int .i64 j ∧ Hid (Own wx wo.heap.size v (0 :: (Mx.bytesOf y).take j)) ∧ Hid (Below wo.heap.size wo wx)) (fun _ i _ => 8 - (intOf i).toNat)
      case atStart =>
        refine ⟨0, by omega, rfl, ?_, below_alloc _ _⟩
        exact World.ownsRow_lit (base := wo.heap.size) (e := 5) (size := 1) wo #[.int .u8 0] 1 (by simp) (by unfold maxLen; omega) rfl
      case round =>
        obtain ⟨j, hj, rfl, hO, hG⟩ := hrel
        have hF2 := hide (hI0.out.2.2.1.trans (hG.out.mono hI0.out.2.2.1.size))
        have hsz := hG.out.size
        by_cases hj8 : (j : Int) < 8
        · obtain ⟨z, hz, e0⟩ := (HBL.out.later hF2.out).byteAt k hlt HY.out j (by omega)
          have HZ := hide hz
          clear hz
          obtain ⟨L, hL⟩ : ∃ L : List Int, Hid (L = 0 :: (Mx.bytesOf y).take j) := ⟨_, rfl⟩
          have HLEN := hide (show L.length + 1 ≤ 1000000 by rw [hL.out, List.length_cons, List.length_take]; omega)
          rw [← hL.out] at hO
          go_wp2_with (at_builtin; refine wpList_append_bytes rfl _ _ rfl wo.heap.size L (hO.out.alloc _) ⟨wr.heap.size, 0, none⟩ 1 1 [z] rfl rfl (cell_news _ _ _ rfl) HLEN.out ?c3 ?_)
          case c3 => simp; omega
          intro v' w' hown' hbel'
          have HO := hide (show Own w' wo.heap.size v' (0 :: (Mx.bytesOf y).take (j + 1)) by
            rw [getElem_take_succ _ _ _ HZ.out, ← List.cons_append, ← hL.out]
            exact hown')
          have HB := hide (hG.out.trans (((Below.refl _ _).alloc hsz _).trans hbel'))
          clear hown' hbel' e0
          go_wp2_with fail
          go_roundw
          case rel => exact ⟨j + 1, by omega, by go_num, HO, HB⟩
          case measure => simp [intOf]; omega
        · obtain ⟨M, hM⟩ : ∃ M : List Int, Hid (M = 0 :: Mx.bytesOf y) := ⟨_, rfl⟩
          have HM := hide (show Own wr wo.heap.size _ M by
            have h := hO.out
            rw [List.take_of_length_le (by show 8 ≤ j; omega), ← hM.out] at h
            exact h)
          obtain ⟨g, N, cap, hv, HBY⟩ := Own.row HM.out (by rw [hM.out]; simp) (by
            rw [hM.out]
            intro z hz
            rcases List.mem_cons.1 hz with h | h
            · omega
            · exact HYO.out z h)
          subst hv
          have HR := hide (show ∀ q', OwnU (wr.drewN q') (w.heap.size + 1) _ ((l.take k).map Mx.blockD) from fun q' => rowKept hI0.out.2.1 (below_drewN hG.out q'))
          have HX := hide (show ∀ q', Bx (wr.drewN q') w.heap.size #[.slice none 0 0] 82 from fun q' => hI0.out.1.later (below_drewN hG.out q') hI0.out.1.lt)
          have HFB := hide (show ∀ q', Below w.heap.size w (wr.drewN q') from fun q' => below_drewN hF2.out q')
          have hs1 := hI0.out.2.2.2
          go_wp2_with fail
          refine (digestOf_any _ _ _ _ _ HBY.out).mono ?_
          rintro e w2 ⟨rfl, q2, rfl⟩
          obtain ⟨Z, hZ⟩ : ∃ Z : Nat, Hid (Z = Mx.digest M) := ⟨_, rfl⟩
          rw [← hZ.out]
          obtain ⟨LU, hLU⟩ : ∃ LU : List Nat, Hid (LU = (l.take k).map Mx.blockD) := ⟨_, rfl⟩
          go_wp2_with (at_builtin; refine wpList_append_u64 rfl _ _ rfl (w.heap.size + 1) LU ?c0 Z ?c1 ?c2 ?c3 ?_)
          case c0 => rw [hLU.out]; exact HR.out q2
          case c1 => rfl
          case c2 => rw [hLU.out, List.length_map, List.length_take]; omega
          case c3 => show w.heap.size + 1 ≤ wr.heap.size; omega
          intro v' w' hown' hgr'
          have HNE := hide (show ∀ kk, Value.ownBlock _ = some kk → w.heap.size + 1 ≤ kk from fun kk hk' => (World.ownsRow.lt (HR.out q2) kk hk').1)
          have HO2 := hide (show OwnU w' (w.heap.size + 1) v' ((l.take (k + 1)).map Mx.blockD) by
            rw [getElem_take_succ _ _ _ HY.out, List.map_append, List.map_cons, List.map_nil, Mx.blockD, ← hM.out, ← hZ.out, ← hLU.out]
            exact hown')
          have HB := hide ((HFB.out q2).grown hgr' (HFB.out q2).size (fun k hk => by have := HNE.out k hk; omega))
          have HX2 := hide (show Bx w' w.heap.size #[.slice none 0 0] 82 from (hgr'.block _ (HX.out q2).lt (fun e => by have := HNE.out _ e.symm; omega)).trans (HX.out q2))
          have hs2 : w.heap.size + 1 ≤ w'.heap.size := by have := hgr'.size; have h3 : wr.heap.size ≤ w'.heap.size := this; omega
          clear hown' hgr'
          go_wp2_with fail
          go_roundw
          case rel => exact ⟨k + 1, by omega, by go_num, HX2.out, HO2.out, HB.out, hs2⟩
          case measure => simp [intOf]; omega
    · obtain ⟨lb, hlb⟩ : ∃ lb : List Nat, Hid (lb = l.map Mx.blockD) := ⟨_, rfl⟩
      have HUO := hide (show OwnU wo (w.heap.size + 1) _ lb by
        have h := hI0.out.2.1
        rw [List.take_of_length_le (by rw [HBN.out]; omega), ← hlb.out] at h
        exact h)
      have HLT := hide (show ∀ x ∈ lb, x < 18446744073709551616 by
        rw [hlb.out]
        intro z hz
        obtain ⟨x, _, rfl⟩ := List.mem_map.1 hz
        exact Mx.blockD_lt x)
      have hlen : lb.length = n := by rw [hlb.out, List.length_map, HBN.out]
      obtain ⟨a1, c1, hv1⟩ := HUO.out.form
      rw [hlen] at hv1
      subst hv1
      have HR1 := hide (HUO.out.read HLT.out)
      obtain ⟨gb, go1, hag, hgbl, _⟩ := HR1.out.1.2.2.2 hn0
      subst hag
      have hgb : w.heap.size + 1 ≤ gb := (World.ownsRow.lt HUO.out gb rfl).1
      obtain ⟨S, hS⟩ : ∃ S : Nat, Hid (S = wo.heap.size) := ⟨_, rfl⟩
      have hwS : w.heap.size + 1 ≤ S := by rw [hS.out]; exact hI0.out.2.2.2
      have hgS : gb < S := by rw [hS.out]; exact hgbl
      obtain ⟨w0, hw0⟩ : ∃ w0 : World, Hid (w0 = (wo.alloc (.cells #[.slice (some ⟨gb, go1, none⟩) n c1] 92)).alloc (.cells #[.slice (some ⟨wo.heap.size, 0, none⟩) 1 1] 82)) := ⟨_, rfl⟩
      have Bo := hide (show Below wo.heap.size wo w0 by rw [hw0.out]; exact (below_alloc _ _).alloc (by simp) _)
      have R0 := hide (hI0.out.1.later Bo.out hI0.out.1.lt)
      have T0 := hide (show Bx w0 (S + 1) #[.slice (some ⟨wo.heap.size, 0, none⟩) 1 1] 82 by
        rw [hw0.out, hS.out]
        have h := Bx.new (wo.alloc (.cells #[.slice (some ⟨gb, go1, none⟩) n c1] 92)) #[.slice (some ⟨wo.heap.size, 0, none⟩) 1 1] 82
        rw [World.size_alloc] at h
        exact h)
      have B0 := hide (hI0.out.2.2.1.trans (Bo.out.mono hI0.out.2.2.1.size))
      have L0 := hide (show OwnLv w0 S (fun q => q = gb ∨ S + 2 ≤ q) (.slice (some ⟨wo.heap.size, 0, none⟩) 1 1) [lb] by
        rw [hw0.out]
        exact (OwnLv.one (w := wo) (base := S) (P := (fun q => q = gb ∨ S + 2 ≤ q)) (by rw [hS.out]; exact Nat.le_refl _) HR1.out.1 HR1.out.2 hn0 (fun p hp => by cases hp; exact .inl rfl)).later (below_alloc _ _))
      have hsz0 : S + 2 ≤ w0.heap.size := by rw [hw0.out, hS.out]; simp
      go_wp2_with fail
      rw [← hw0.out]
      rw [← hS.out]
      go_loopw [3] (fun lv wr => ∃ (f n' c' : Nat) (a' : Option Addr) (cur : List Nat) (pre : List (List Nat)) (vL : Value), lv = .slice a' n' c' ∧ n' ≤ 1000 ∧ Hid (cur.length ≤ f + 1 ∧ pre ++ Mx.growF f cur = Mx.levels lb ∧ pre.length + n' ≤ n) ∧
          Hid (U64s wr a' n' cur ∧ n' ≤ c' ∧ 1 ≤ n' ∧ ∀ p, a' = some p → p.block = gb ∨ S + 2 ≤ p.block) ∧
          Hid (Bx wr (S + 1) #[vL] 82 ∧ Bx wr w.heap.size #[.slice none 0 0] 82 ∧ OwnLv wr S (fun q => q = gb ∨ S + 2 ≤ q) vL (pre ++ [cur]) ∧ Below w.heap.size w wr)) (fun lv _ => sliceLen lv)
      case atStart => exact ⟨n, n, c1, some ⟨gb, go1, none⟩, lb, [], _, rfl, hn, ⟨by omega, by rw [List.nil_append, Mx.levels, hlen], by simp⟩, ⟨HR1.out.1.later Bo.out, HR1.out.2, hn0, fun p hp => by cases hp; exact .inl rfl⟩, T0.out, R0.out, L0.out, B0.out⟩
      case round =>
        obtain ⟨f, n', c', a', cur, pre, vL, rfl, hn', hM, hU, hI⟩ := hrel
        by_cases hlt : (1 : Int) < n'
        · obtain ⟨b', off', ha, hbl, _⟩ := hU.out.1.2.2.2 (by omega)
          subst ha
          have HCL := hide hU.out.1.1
          go_wp2_with fail
          refine (above_any (some ⟨b', off', none⟩) n' c' cur wr hU.out.1 hn').mono ?_
          rintro e W2 ⟨v2, rfl, hO2, hb2⟩
          obtain ⟨a2, cap2, hv2⟩ := hO2.out.form
          obtain ⟨N2, hN2⟩ : ∃ N2 : Nat, Hid (N2 = (Mx.overL cur).length) := ⟨_, rfl⟩
          rw [← hN2.out] at hv2
          subst hv2
          have hNlt : N2 + 1 ≤ n' ∧ 1 ≤ N2 := by
            have h := hN2.out
            rw [Mx.overL_len, HCL.out] at h
            omega
          have HR2 := hide (hO2.out.read (Mx.overL_lt cur))
          have hszr : S + 2 ≤ wr.heap.size := by
            have := hI.out.1.lt
            omega
          have HP2 := hide (show ∀ p, a2 = some p → wr.heap.size ≤ p.block by
            intro p hp
            obtain ⟨b2, off2, ha2, _, _⟩ := HR2.out.1.2.2.2 (by omega)
            rcases hO2.out.2 with ⟨hv, _⟩ | ⟨g2, cap3, cur3, hv, hb3, _⟩
            · simp only [Value.slice.injEq] at hv
              rw [hv.1] at hp
              cases hp
            · simp only [Value.slice.injEq] at hv
              rw [hv.1] at hp
              cases hp
              exact hb3)
          have T2 := hide (hI.out.1.later hb2.out hI.out.1.lt)
          have R2 := hide (hI.out.2.1.later hb2.out hI.out.2.1.lt)
          obtain ⟨PC, hPC⟩ : ∃ PC : List (List Nat), Hid (PC = pre ++ [cur]) := ⟨_, rfl⟩
          have L2 := hide (show OwnLv W2 S (fun q => q = gb ∨ S + 2 ≤ q) vL PC by rw [hPC.out]; exact hI.out.2.2.1.later hb2.out)
          have B2 := hide (hI.out.2.2.2.trans (hb2.out.mono hI.out.2.2.2.size))
          have HVL := hide (show ∀ k, vL.ownBlock = some k → k < wr.heap.size from fun k hk => (World.ownsRow.lt hI.out.2.2.1.choose_spec.1 k hk).2)
          have t2 := T2.out.one
          have hs2 := hb2.out.size
          go_wp2_with (at_builtin; refine wpList_append_lv rfl _ _ rfl S (fun q => q = gb ∨ S + 2 ≤ q) PC ?o1 a2 N2 cap2 (Mx.overL cur) ?o2 ?o3 ?o4 ?o5 ?o6 ?o7 ?o8 ?_)
          case o1 => exact L2.out
          case o2 => exact HR2.out.1
          case o3 => exact HR2.out.2
          case o4 => exact hNlt.2
          case o5 =>
            intro p hp
            have h1 := HP2.out p hp
            exact ⟨fun e => by have := HVL.out _ e; omega, .inr (by omega)⟩
          case o6 => rfl
          case o7 => have := hM.out.2.2; rw [hPC.out, List.length_append, List.length_singleton]; omega
          case o8 => omega
          intro v4 W4 hown4 hgr4
          obtain ⟨a4, cap4, hv4⟩ := hown4.form
          obtain ⟨N4, hN4⟩ : ∃ N4 : Nat, Hid (N4 = (PC ++ [Mx.overL cur]).length) := ⟨_, rfl⟩
          rw [← hN4.out] at hv4
          subst hv4
          have HO4 := hide (show OwnLv W4 S (fun q => q = gb ∨ S + 2 ≤ q) (.slice a4 N4 cap4) (pre ++ [cur] ++ [Mx.overL cur]) by rw [← hPC.out]; exact hown4)
          have q1 := own_ne_bx L2.out.choose_spec.1 T2.out (by decide)
          have q2 := own_ne_bx L2.out.choose_spec.1 R2.out (by decide)
          have T4 := hide (show Bx W4 (S + 1) #[vL] 82 from (hgr4.block _ T2.out.lt (fun e => q1 e.symm)).trans T2.out)
          have R4 := hide (show Bx W4 w.heap.size #[.slice none 0 0] 82 from (hgr4.block _ R2.out.lt (fun e => q2 e.symm)).trans R2.out)
          have B4 := hide (show Below w.heap.size w W4 from B2.out.grown hgr4 B2.out.size (fun k hk => by have := (World.ownsRow.lt L2.out.choose_spec.1 k hk).1; omega))
          have U4 := hide (show U64s W4 a2 N2 (Mx.overL cur) from HR2.out.1.grownBy hgr4 (fun p hp e => by have := HVL.out _ e; have := HP2.out p hp; omega))
          have q4 := own_ne_bx HO4.out.choose_spec.1 T4.out (by decide)
          have t4 := T4.out.one
          have z4 := T4.out.frozen
          obtain ⟨f', rfl⟩ : ∃ f', f = f' + 1 := by
            cases f with
            | zero => have := hM.out.1; have := HCL.out; omega
            | succ f => exact ⟨f, rfl⟩
          have HM5 := hide (show (Mx.overL cur).length ≤ f' + 1 ∧ pre ++ [cur] ++ Mx.growF f' (Mx.overL cur) = Mx.levels lb ∧ (pre ++ [cur]).length + N2 ≤ n by
            obtain ⟨m1, m2, m3⟩ := hM.out
            have h1 := HCL.out
            have h2 := hN2.out
            refine ⟨by omega, ?_, by rw [List.length_append, List.length_singleton]; omega⟩
            rw [Mx.growF_more f' cur (by omega)] at m2
            rw [List.append_assoc]
            exact m2)
          clear hown4 hgr4 t2
          go_wp2_with fail
          go_roundw
          case rel =>
            refine ⟨f', N2, cap2, a2, Mx.overL cur, pre ++ [cur], .slice a4 N4 cap4, rfl, by omega, HM5, ⟨U4.out.setOther _ _ (fun p hp => ?_), HR2.out.2, hNlt.2, fun p hp => .inr (by have := HP2.out p hp; omega)⟩, T4.out.set 0 _, R4.out.other _ _ (by show w.heap.size ≠ S + 1; omega), HO4.out.setOther _ _ q4 ?_, B4.out.setCell (p := ⟨S + 1, 0, none⟩) (by show w.heap.size ≤ S + 1; omega) _⟩
            · have := HP2.out p hp
              show p.block ≠ S + 1
              omega
            · show ¬ (S + 1 = gb ∨ S + 2 ≤ S + 1)
              omega
          case measure => show N2 < n'; omega
        · have HE := hide (show pre ++ [cur] = Mx.levels lb by
            have h1 := hU.out.1.1
            rw [← hM.out.2.1, Mx.growF_one f cur (by omega)])
          obtain ⟨aL, capL, hvL⟩ := hI.out.2.2.1.form
          obtain ⟨NL, hNL⟩ : ∃ NL : Nat, Hid (NL = (pre ++ [cur]).length) := ⟨_, rfl⟩
          rw [← hNL.out] at hvL
          subst hvL
          have t0 := hI.out.1.one
          have r0 := hI.out.2.1.one
          have rz := hI.out.2.1.frozen
          have q1 := own_ne_bx hI.out.2.2.1.choose_spec.1 hI.out.2.1 (by decide)
          go_wp2_with fail
          have r1 := (show Bx _ _ #[.slice aL NL capL] 82 from hI.out.2.1.set 0 (.slice aL NL capL)).one
          refine bodyPost_ret (v := .agg #[.slice aL NL capL]) (by simp [results, Try.results46, go_sem, r1]) rfl ⟨aL, NL, capL, rfl, ?_, hI.out.2.2.2.setCell (p := ⟨w.heap.size, 0, none⟩) (Nat.le_refl _) _⟩
          have h := hI.out.2.2.1.setOther ⟨w.heap.size, 0, none⟩ (.slice aL NL capL) q1 (by show ¬ (w.heap.size = gb ∨ S + 2 ≤ w.heap.size); omega)
          rw [HE.out, hlb.out] at h
          exact h.lv
end Go.Proofs.Ytdhmijjphgcdmaa
