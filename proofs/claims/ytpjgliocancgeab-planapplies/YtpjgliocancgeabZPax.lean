/-
  PlanApplies: the law.
-/
import Derived.Deep.RegionLaw
import Derived.Test.YtpjgliocancgeabZPap

namespace Go.Proofs.Ytpjgliocancgeab
open Go.RowKit

/-- one put more, as one step of a region -/
theorem step_append_put {ops : Array Oper} {o : Oper} {a : Act} {w : World} {K : Act → World → Prop} {Q : Exit → Act → World → Prop} {E : Prop} (hg : o.guard = none) (s x : Operand)
    (hop : o.op = Op.call { callee := Callee.builtin Builtin.append, args := #[s, x], argTypes := #[22, 22] }) (base : Nat) (l : List Pt) (hown : OwnPL w base (a.eval s) l)
    (p : Pt) (hx : a.eval x = .slice (some ⟨w.heap.size, 0, none⟩) 1 1) (h63 : l.length ≤ 1000000) (hbase : base ≤ w.heap.size)
    (hK : ∀ ad c w', OwnPL w' base (.slice (some ad) (l.length + 1) c) (l ++ [p]) → w.grownBy w' (a.eval s).ownBlock → K (a.put o.dst (.slice (some ad) (l.length + 1) c)) w') :
    if Region.wanted o (yielded ops a.tmps) = true then Oper.wp Try.prog o a (w.alloc (.cells #[.int .i64 p.at_, .int .u8 p.d.z0, .int .u8 p.d.z1, .int .u8 p.d.z2, .int .u8 p.d.z3, .int .u8 p.d.z4, .int .u8 p.d.z5, .int .u8 p.d.z6, .int .u8 p.d.z7] 29)) K Q else E := by
  have hw : Region.wanted o (yielded ops a.tmps) = true := by simp [Region.wanted, hg]
  rw [if_pos hw]
  obtain ⟨i0, hi, hz0, hz1, hz2⟩ := info_parts Try.info29
  refine wp_append_own _ s x 22 hop base 29 i0 _ 9 16 Try.underlying22 hi hz0 hz1 hz2 rfl (by decide) (a.eval s) l.length (flatP l) rfl (World.ownsRow.alloc hown _) ⟨w.heap.size, 0, none⟩ 1 1 (flatP [p]) hx (by simp [flatP, Pt.cs]) (cell_newsP w p 29) flatP_one (by unfold maxLen; omega) (by omega) (by simp; omega) ?_
  intro v' w' hown' hg _
  have hI : OwnPL w' base v' (l ++ [p]) := by
    unfold OwnPL
    rw [List.length_append, flatP, List.flatMap_append]
    exact hown'
  have hg' : w.grownBy w' (a.eval s).ownBlock := ⟨hg.os, hg.tape, hg.output, by have := hg.size; simp at this; omega, fun k hk hne => (hg.block k (by simp; omega) hne).trans (Below.heap_alloc w _ k hk)⟩
  rcases hown'.2 with ⟨_, hz⟩ | ⟨g, cap, cur, rfl, hbg, _⟩
  · simp at hz
  · exact hK _ _ w' hI hg'

set_option maxHeartbeats 20000000 in
set_option maxRecDepth 100000 in
theorem pa_ok (ap a ah : Option Addr) (m cm n c nh ch : Nat) (qs : List Pk) (peer had : List B8) (w : World) (hp : QL w ap m qs) (hq : BL w a n peer) (hh : BL w ah nh had) (hc : nh ≤ ch) (hm : m ≤ 100) (hn : n ≤ 100) (hnh : nh ≤ 100) (hP : Mx.pmay n had = 0) (hM : Mx.hmay had = 0) (hE : Mx.qE n qs = 0) :
    Calls Try.prog 6 #[.slice ap m cm, .slice a n c, .slice ah nh ch] w fun e w' => e = .returned (.bool true) ∧ Below w.heap.size w w' := by
  have HH := hide hh
  have HP := hide hp
  have HQ := hide hq
  clear hh hp hq

  have HM := hide hM
  have HP0 := hide hP
  have HE := hide hE
  clear hE hM hP

  go_enter Try.func6, Try.ntmps6
  go_wp2_with fail
  refine (planMay_any a ah n c nh ch had w HH.out).mono ?_
  rintro e w1 ⟨rfl, hb1⟩
  have B1 := hide hb1
  clear hb1
  rw [HP0.out]
  go_wp2_with fail
  go_loopw [7, 8, 9] (fun e l i wr => ∃ (k : Nat) (lv : Int), k ≤ m ∧ e = .int .i64 0 ∧ l = .int .i64 lv ∧ i = .int .i64 (k : Int) ∧ Hid (Below w.heap.size w wr) ∧ Hid (lv = Mx.qNext qs k - 1)) (fun _ _ i _ => m - (intOf i).toNat)
  case atStart => exact ⟨0, -1, by omega, rfl, rfl, rfl, B1, rfl⟩
  case round =>
    obtain ⟨k, lv, hk, rfl, rfl, rfl, hB, hnx⟩ := hrel
    by_cases hlt : k < m
    · obtain ⟨b, off, q, rfl, hb, hq, e0, e1, e2, e3, e4, e5, e6, e7, e8, e9, e10⟩ := (HP.out.later hB.out).at_ k hlt
      have HNS := hide (Mx.qNext_succ hq)
      have HOK := hide (Mx.qE_ok HE.out hq)
      obtain ⟨z, hz⟩ : ∃ z : Int, Hid (z = q.at_) := ⟨_, rfl⟩
      obtain ⟨kd, hkd⟩ : ∃ kd : Int, Hid (kd = q.kind) := ⟨_, rfl⟩
      rw [← hz.out] at e0 HNS
      rw [← hkd.out] at e1
      clear hq
      have B5 := hide (hB.out.alloc hB.out.size (.cells #[.int .i64 z, .int .i64 kd, .int .i64 q.from_, .int .u8 q.d.z0, .int .u8 q.d.z1, .int .u8 q.d.z2, .int .u8 q.d.z3, .int .u8 q.d.z4, .int .u8 q.d.z5, .int .u8 q.d.z6, .int .u8 q.d.z7] 59))
      have hd1 : decide (z ≤ lv) = false := by have h1 := HOK.out; have h2 := hnx.out; have h3 := hz.out; simp; omega
      have hd2 : decide ((n : Int) ≤ z) = false := by have h1 := HOK.out; have h3 := hz.out; simp; omega
      have hd3 : decide (kd < 0) = false := by have h1 := HOK.out; have h3 := hkd.out; simp; omega
      have hd4 : decide (3 < kd) = false := by have h1 := HOK.out; have h3 := hkd.out; simp; omega
      have HR2 := hide (show z = Mx.qNext qs (k + 1) - 1 by rw [HNS.out]; omega)
      go_wp2_with fail
      go_roundw
      case rel => exact ⟨k + 1, z, by omega, rfl, rfl, by go_num, B5, HR2⟩
      case measure => simp [intOf]; omega
    · obtain rfl : k = m := by omega
      clear hlt hk
      go_wp2_with fail
      obtain ⟨wl, hwl⟩ : ∃ wl : World, Hid (wl = wr) := ⟨_, rfl⟩
      rw [← hwl.out] at hB ⊢
      go_loopw [11, 12, 13] (fun v u t wr => ∃ (j r s : Nat) (a1 : Option Addr) (c1 : Nat) (a2 : Option Addr) (c2 : Nat), j ≤ k ∧ t = .int .i64 (j : Int) ∧ v = .slice a1 r c1 ∧ u = .slice a2 s c2 ∧ Hid (r = (Mx.puts (qs.take j) peer had).length) ∧ Hid (s = (Mx.miss (qs.take j) peer had).length) ∧ Hid (OwnPL wr w.heap.size (.slice a1 r c1) (Mx.puts (qs.take j) peer had)) ∧ Hid (OwnI wr w.heap.size (.slice a2 s c2) (Mx.miss (qs.take j) peer had)) ∧ Hid (Below w.heap.size w wr)) (fun _ _ t _ => k - (intOf t).toNat)
      case atStart => exact ⟨0, 0, 0, none, 0, none, 0, by omega, rfl, rfl, rfl, hide (by simp [Mx.puts]), hide (by simp [Mx.miss]), OwnPL.nil _ _, OwnI.nil _ _, hB⟩
      case round =>
        obtain ⟨j, r, s, a1, c1, a2, c2, hj, rfl, rfl, rfl, hr, hs, hO, hI, hBj⟩ := hrel
        by_cases hlt : j < k
        · obtain ⟨b, off, q, rfl, hb, hq, e0, e1, e2, e3, e4, e5, e6, e7, e8, e9, e10⟩ := (HP.out.later hBj.out).at_ j hlt
          have HK := hide hq
          clear hq
          go_wp2_with fail
          refine (said_any q a ah n c nh ch peer had wr (HQ.out.later hBj.out) (HH.out.later hBj.out)).mono ?_
          rintro e w5 ⟨rfl, hb5⟩
          obtain ⟨d, ok, hans, hd⟩ := ansB_at (Mx.saidO q peer had)
          rw [hans]
          have O5 := hide (show OwnPL w5 w.heap.size _ (Mx.puts (qs.take j) peer had) from rowKept hO.out hb5)
          have I5 := hide (show OwnI w5 w.heap.size _ (Mx.miss (qs.take j) peer had) from rowKept hI.out hb5)
          have B5 := hide (hBj.out.trans (hb5.mono hBj.out.size))
          have f5 := (hb5.cell (p := ⟨b, off + j * 11, none⟩) hb).trans e0
          have hb5s : b < w5.heap.size := Nat.lt_of_lt_of_le hb hb5.size
          clear hb5 hans e0 e1 e2 e3 e4 e5 e6 e7 e8 e9 e10 hb
          have L5 := hide (show (Mx.puts (qs.take j) peer had).length ≤ 1000 ∧ (Mx.miss (qs.take j) peer had).length ≤ 1000 by have h1 := Mx.puts_len (qs.take j) peer had; have h2 := Mx.miss_len (qs.take j) peer had; rw [List.length_take] at h1 h2; omega)
          obtain ⟨w6, hw6⟩ : ∃ w6 : World, Hid (w6 = w5.alloc (.cells #[.int .u8 d.z0, .int .u8 d.z1, .int .u8 d.z2, .int .u8 d.z3, .int .u8 d.z4, .int .u8 d.z5, .int .u8 d.z6, .int .u8 d.z7] 27)) := ⟨_, rfl⟩
          have b6 := hide (show Below w5.heap.size w5 w6 by rw [hw6.out]; exact below_alloc _ _)
          have R6 := hide (show Bx w6 w5.heap.size #[.int .u8 d.z0, .int .u8 d.z1, .int .u8 d.z2, .int .u8 d.z3, .int .u8 d.z4, .int .u8 d.z5, .int .u8 d.z6, .int .u8 d.z7] 27 by rw [hw6.out]; exact Bx.new _ _ _)
          cases ok with
          | true =>
            have HS := hide (show Mx.saidO q peer had = some d by
              obtain ⟨h1, h2⟩ := hd.out
              cases hs : Mx.saidO q peer had with
              | none => rw [hs] at h2; exact absurd h2 (by simp)
              | some y => rw [hs] at h1; rw [h1]; rfl)
            have HE2 := hide (Mx.puts_some HK.out HS.out)
            go_wp2_with fail
            rw [← hw6.out]
            have f6 := (b6.out.cell (p := ⟨b, off + j * 11, none⟩) hb5s).trans f5
            obtain ⟨d0, d1, d2, d3, d4, d5, d6, d7⟩ := R6.out.eight
            have O6 := hide (show OwnPL w6 w.heap.size _ (Mx.puts (qs.take j) peer had) from rowKept O5.out b6.out)
            have I6 := hide (show OwnI w6 w.heap.size _ (Mx.miss (qs.take j) peer had) from rowKept I5.out b6.out)
            have B6 := hide (B5.out.trans (b6.out.mono B5.out.size))
            have hbs6 : b < w6.heap.size := Nat.lt_of_lt_of_le hb5s b6.out.size
            have hjk : (j : Int) < k := by omega
            have S6 := hide B6.out.size
            go_region_law (refine step_append_put (w := w6.drew) rfl (.tmp 96) (.tmp 104) rfl w.heap.size (Mx.puts (qs.take j) peer had) ?o1 ⟨q.at_, d⟩ ?o2 ?o3 ?o4 ?_; (case o1 => exact O6.out); (case o2 => rfl); (case o3 => have := L5.out.1; omega); (case o4 => exact S6.out); intro ad cc w7 hown hgr)
            all_goals
              have b7 := hide ((Below.refl w.heap.size w6.drew).grown hgr S6.out (fun k hk => (World.ownsRow.lt O6.out k hk).1))
              have O7 := hide hown
              have I7 := hide (show OwnI w7 w.heap.size _ (Mx.miss (qs.take j) peer had) from own_kept (w := w6.drew) I6.out O6.out (by decide) hgr)
              have B7 := hide (B6.out.drew.trans b7.out)
              rw [← hr.out] at O7 ⊢
              clear hown hgr
              go_wp2_with fail
              go_roundw
              case rel => exact ⟨j + 1, r + 1, s, some ad, cc, a2, c2, by omega, by go_num, rfl, rfl, by rw [HE2.out.1, List.length_append, ← hr.out]; exact hide rfl, by rw [HE2.out.2]; exact hs, by rw [HE2.out.1]; exact O7, by rw [HE2.out.2]; exact I7, B7⟩
              case measure => simp [intOf]; omega
          | false =>
            have HS := hide (show Mx.saidO q peer had = none by
              obtain ⟨h1, h2⟩ := hd.out
              cases hs : Mx.saidO q peer had with
              | none => rfl
              | some y => rw [hs] at h2; exact absurd h2 (by simp))
            have HE2 := hide (Mx.puts_none HK.out HS.out)
            have I6 := hide (show OwnI w6 w.heap.size _ (Mx.miss (qs.take j) peer had) from rowKept I5.out b6.out)
            have O6 := hide (show OwnPL w6 w.heap.size _ (Mx.puts (qs.take j) peer had) from rowKept O5.out b6.out)
            have B6 := hide (B5.out.trans (b6.out.mono B5.out.size))
            have S6 := hide B6.out.size
            go_wp2_with (at_builtin; refine wpList_append_num rfl _ _ rfl w.heap.size (Mx.miss (qs.take j) peer had) ?o1 q.at_ ?o2 ?o3 ?o4 ?_)
            case o1 => rw [← hw6.out]; exact I6.out
            case o2 => first | rfl | simp [Act.eval]
            case o3 => have := L5.out.2; omega
            case o4 => rw [← hw6.out]; exact S6.out
            rw [← hw6.out]
            intro ad cc w7 hown hgr
            have b7 := hide ((Below.refl w.heap.size w6).grown hgr S6.out (fun k hk => (World.ownsRow.lt I6.out k hk).1))
            have I7 := hide hown
            have O7 := hide (show OwnPL w7 w.heap.size _ (Mx.puts (qs.take j) peer had) from own_kept O6.out I6.out (by decide) hgr)
            have B7 := hide (B6.out.trans b7.out)
            rw [← hs.out] at I7 ⊢
            clear hown hgr
            go_wp2_with fail
            go_roundw
            case rel => exact ⟨j + 1, r, s + 1, a1, c1, some ad, cc, by omega, by go_num, rfl, rfl, by rw [HE2.out.1]; exact hr, by rw [HE2.out.2, List.length_append, ← hs.out]; exact hide rfl, by rw [HE2.out.1]; exact O7, by rw [HE2.out.2]; exact I7, B7⟩
            case measure => simp [intOf]; omega
        · obtain rfl : j = k := by omega
          have HT := hide (show qs.take j = qs from List.take_of_length_le (by have := HP.out.1; omega))
          rw [HT.out] at hr hs hO hI
          go_wp2_with fail
          refine (apply_ok ap a ah j cm n c nh ch qs peer had wr (HP.out.later hBj.out) (HQ.out.later hBj.out) (HH.out.later hBj.out) hc (by omega) (by omega) HP0.out HE.out).mono ?_
          rintro e wa ⟨a3, c3, a4, c4, rfl, hPL, hIN, hb⟩
          have BA := hide (hBj.out.trans (hb.out.mono hBj.out.size))
          obtain ⟨a5, c5, hv5, hPL5, _⟩ := (show OwnPL wa w.heap.size _ (Mx.puts qs peer had) from rowKept hO.out hb.out).pl
          obtain ⟨a6, c6, hv6, hIN6⟩ := (show OwnI wa w.heap.size _ (Mx.miss qs peer had) from rowKept hI.out hb.out).ints
          have HPL5 := hide hPL5
          have HIN6 := hide hIN6
          rw [← hr.out] at hv5 hPL HPL5
          rw [← hs.out] at hv6 hIN HIN6
          obtain ⟨rfl, rfl⟩ : a1 = a5 ∧ c1 = c5 := by simpa using hv5
          obtain ⟨rfl, rfl⟩ : a2 = a6 ∧ c2 = c6 := by simpa using hv6
          clear hb hPL5 hIN6 hv5 hv6
          rw [← hr.out, ← hs.out]
          go_wp2_with fail
          refine (is_any 0 0 wa).mono ?_
          rintro e wb ⟨rfl, rfl⟩
          rw [show ((0 : Int) == 0) = true by rfl]
          go_wp2_with fail
          refine (samePL_gen a3 a1 r c3 r c1 _ _ wb hPL.out HPL5.out).mono ?_
          rintro e wd ⟨r1, rfl, h1, q1, rfl⟩
          obtain rfl : r1 = true := h1.2 rfl
          go_wp2_with fail
          refine (sameInts_gen a4 a2 s c4 s c2 _ _ (wb.drewN q1) hIN.out HIN6.out).mono ?_
          rintro e we ⟨r2, rfl, h2, q2, rfl⟩
          obtain rfl : r2 = true := h2.2 rfl
          have BT := hide (below_drewN (below_drewN BA.out q1) q2)
          obtain ⟨wt, hwt⟩ : ∃ wt : World, Hid (wt = (wb.drewN q1).drewN q2) := ⟨_, rfl⟩
          rw [← hwt.out] at BT ⊢
          obtain ⟨m, hmj⟩ : ∃ m : Nat, Hid (m = j) := ⟨_, rfl⟩
          rw [← hmj.out] at HP hm ⊢
          go_wp2_with fail
          refine (hadMay_any ah nh ch had wt (HH.out.later BT.out)).mono ?_
          rintro e u1 ⟨rfl, hb⟩
          rw [HM.out]
          have U1 := hide (BT.out.trans (hb.mono BT.out.size))
          clear hb
          go_wp2_with fail
          refine (ownBlocks_any ah nh ch had u1 (HH.out.later U1.out) (by omega)).mono ?_
          rintro e u2 ⟨v2, rfl, ho2, hb⟩
          have U2 := hide (U1.out.trans (hb.mono U1.out.size))
          obtain ⟨ao, co, rfl, _, hl2⟩ := ho2.room
          have L2 := hide hl2
          clear hb ho2 hl2
          go_wp2_with fail
          go_loopw [19, 20] (fun v t wr => ∃ (k r : Nat) (a' : Option Addr) (c' : Nat), k ≤ m ∧ t = .int .i64 (k : Int) ∧ v = .slice a' r c' ∧ Hid (r = (Mx.hadTo had (qs.take k)).length) ∧ Hid (BL wr a' r (Mx.hadTo had (qs.take k))) ∧ Hid (Below w.heap.size w wr)) (fun _ t _ => m - (intOf t).toNat)
          case atStart => exact ⟨0, had.length, ao, co, by omega, rfl, rfl, hide rfl, L2, U2⟩
          case round =>
            obtain ⟨kt, rt, at_, ct, hkt, rfl, rfl, hrt, hLt, hBt⟩ := hrel
            by_cases hlt : kt < m
            · obtain ⟨b, off, q, rfl, hb, hq, e0, e1, e2, e3, e4, e5, e6, e7, e8, e9, e10⟩ := (HP.out.later hBt.out).at_ kt hlt
              have HK := hide hq
              clear hq
              by_cases hkd : q.kind = 3
              · have HE := hide (show Mx.hadTo had (qs.take (kt + 1)) = Mx.touched (Mx.hadTo had (qs.take kt)) q.d by rw [Mx.hadTo_succ HK.out, if_pos hkd])
                rw [hkd] at e1
                go_wp2_with fail
                clear e0 e1 e2 e3 e4 e5 e6 e7 e8 e9 e10
                refine (touched_any at_ rt ct (Mx.hadTo had (qs.take kt)) q.d wr hLt.out).mono ?_
                rintro e u6 ⟨g6, c6, rfl, ho6, hb6⟩
                obtain ⟨a7, c7, hv7, _, hl7⟩ := ho6.out.room
                have B6 := hide (hBt.out.trans (hb6.out.mono hBt.out.size))
                have L7 := hide hl7
                obtain ⟨rfl, rfl⟩ : some (⟨g6, 0, none⟩ : Addr) = a7 ∧ c6 = c7 := by simpa using hv7
                clear hb6 ho6 hl7 hv7
                obtain ⟨T, hT⟩ : ∃ T : Nat, Hid (T = (Mx.touched (Mx.hadTo had (qs.take kt)) q.d).length) := ⟨_, rfl⟩
                rw [← hT.out] at L7 ⊢
                go_wp2_with fail
                go_roundw
                case rel => exact ⟨kt + 1, T, _, c6, by omega, by go_num, rfl, by rw [HE.out]; exact hT, by rw [HE.out]; exact L7, B6⟩
                case measure => simp [intOf]; omega
              · have HE := hide (show Mx.hadTo had (qs.take (kt + 1)) = Mx.hadTo had (qs.take kt) by rw [Mx.hadTo_succ HK.out, if_neg hkd])
                have hd3 : (q.kind == 3) = false := by simpa using hkd
                go_wp2_with fail
                go_roundw
                case rel => exact ⟨kt + 1, rt, at_, ct, by omega, by go_num, rfl, by rw [HE.out]; exact hrt, by rw [HE.out]; exact hLt, hBt⟩
                case measure => simp [intOf]; omega
            · have HTT := hide (show qs.take kt = qs from List.take_of_length_le (by have := HP.out.1; omega))
              rw [HTT.out] at hrt hLt
              go_wp2_with fail
              refine (had_ok ah ap nh ch m cm had qs wr (HH.out.later hBt.out) (HP.out.later hBt.out) hc HM.out).mono ?_
              rintro e u7 ⟨a8, c8, rfl, _, hl8, hb8⟩
              have L8 := hide (hLt.out.later hb8.out)
              have B8_ := hide (hBt.out.trans (hb8.out.mono hBt.out.size))
              clear hb8
              rw [← hrt.out] at hl8 ⊢
              go_wp2_with fail
              refine (is_any 0 0 u7).mono ?_
              rintro e u8 ⟨rfl, rfl⟩
              rw [show ((0 : Int) == 0) = true by rfl]
              go_wp2_with fail
              refine (sameBL_gen a8 at_ rt c8 rt ct (Mx.hadTo had qs) (Mx.hadTo had qs) u8 hl8.out L8.out).mono ?_
              rintro e u9 ⟨r9, rfl, h9, q9, rfl⟩
              obtain rfl : r9 = true := h9.2 rfl
              go_wp2_with fail
              go_ret
              exact ⟨rfl, below_drewN B8_.out _⟩

end Go.Proofs.Ytpjgliocancgeab

/-
  PlanApplies: the law, at every input.
-/
namespace Go.Proofs.Ytpjgliocancgeab
open Go.RowKit

set_option maxHeartbeats 2000000 in
set_option maxRecDepth 100000 in
theorem pa_long (ap a ah : Option Addr) (m cm n c nh ch : Nat) (w : World) (h : ¬ (m ≤ 100 ∧ n ≤ 100 ∧ nh ≤ 100)) :
    Calls Try.prog 6 #[.slice ap m cm, .slice a n c, .slice ah nh ch] w fun e w' => e = .returned (.bool true) ∧ Below w.heap.size w w' := by
  by_cases h1 : (100 : Int) < m
  · go_enter Try.func6, Try.ntmps6
    go_wp2_with fail
    go_ret
    exact ⟨rfl, Below.refl _ _⟩
  · by_cases h2 : (100 : Int) < n
    · have h1' : (m : Int) ≤ 100 := by omega
      go_enter Try.func6, Try.ntmps6
      go_wp2_with fail
      go_ret
      exact ⟨rfl, Below.refl _ _⟩
    · have h1' : (m : Int) ≤ 100 := by omega
      have h2' : (n : Int) ≤ 100 := by omega
      have h3 : (100 : Int) < nh := by omega
      go_enter Try.func6, Try.ntmps6
      go_wp2_with fail
      go_ret
      exact ⟨rfl, Below.refl _ _⟩

theorem Mx.pmay_had {n : Nat} {had : List B8} (h : Mx.pmay n had = 0) : Mx.hmay had = 0 := by
  unfold Mx.pmay at h
  split at h
  · exact absurd h (by omega)
  · exact h

theorem pa_any (ap a ah : Option Addr) (m cm n c nh ch : Nat) (qs : List Pk) (peer had : List B8) (w : World) (hp : QL w ap m qs) (hq : BL w a n peer) (hh : BL w ah nh had) (hc : nh ≤ ch) :
    Calls Try.prog 6 #[.slice ap m cm, .slice a n c, .slice ah nh ch] w fun e w' => e = .returned (.bool true) ∧ Below w.heap.size w w' := by
  by_cases h : m ≤ 100 ∧ n ≤ 100 ∧ nh ≤ 100
  · obtain ⟨hm, hn, hnh⟩ := h
    by_cases h0 : Mx.pmay n had = 0
    · by_cases h1 : Mx.qE n qs = 0
      · exact pa_ok ap a ah m cm n c nh ch qs peer had w hp hq hh hc hm hn hnh h0 (Mx.pmay_had h0) h1
      · exact pa_err2 ap a ah m cm n c nh ch qs peer had w hp hq hh hc hm hn hnh h0 (Mx.pmay_had h0) h1
    · by_cases h1 : Mx.hmay had = 0
      · exact pa_err1b ap a ah m cm n c nh ch qs peer had w hp hq hh hc hm hn hnh h0 h1
      · exact pa_err1a ap a ah m cm n c nh ch qs peer had w hp hq hh hc hm hn hnh h0 h1
  · exact pa_long ap a ah m cm n c nh ch w h
end Go.Proofs.Ytpjgliocancgeab
