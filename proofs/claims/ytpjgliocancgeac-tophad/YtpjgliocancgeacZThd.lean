/-
  TopHad: the law.
-/
import Derived.Deep.RegionHeld
import Derived.Test.YtpjgliocancgeacZDbox
import Derived.Test.YtpjgliocancgeacZPap
import Derived.Test.YtpjgliocancgeacZMkb

namespace Go.Proofs.Ytpjgliocancgeac
open Go.RowKit

theorem OwnPL.asPL {w : World} {base n c : Nat} {a : Option Addr} {l : List Pt} (h : OwnPL w base (.slice a n c) l) : PL w a n l := by
  obtain ⟨a', c', hv, hl, _⟩ := h.pl
  cases hv
  exact hl
theorem OwnQL.asQL {w : World} {base n c : Nat} {a : Option Addr} {l : List Pk} (h : OwnQL w base (.slice a n c) l) : QL w a n l := by
  obtain ⟨a', c', hv, hl⟩ := h.ql
  cases hv
  exact hl
theorem OwnBL.roomy {w : World} {base n c : Nat} {a : Option Addr} {l : List B8} (h : OwnBL w base (.slice a n c) l) : n ≤ c := by
  obtain ⟨a', c', hv, hl, _⟩ := h.room
  cases hv
  exact hl
theorem grown8 {w w' : World} {g : Nat} (h : w.grownBy w' (some g)) (o : Nat) (x : B8) : w.grownBy (set8 w' g o x).drew (some g) := by
  have key : ∀ v : World, Below g w' v → (∀ k, k ≠ g → v.heap[k]? = w'.heap[k]?) → w.grownBy v.drew (some g) := fun v hb ho => ⟨hb.os.trans h.os, hb.tape.trans h.tape, hb.output.trans h.output, Nat.le_trans h.size hb.size, fun k hk hne => (ho k (fun e => hne (by rw [e]))).trans (h.block k hk hne)⟩
  exact key _ (set8_below (Below.refl g w') (Nat.le_refl g) o x) (fun k hk => set8_other hk x)
theorem grown_refl (w : World) (r : Option Nat) : w.grownBy w r := ⟨rfl, rfl, rfl, Nat.le_refl _, fun _ _ _ => rfl⟩
/-- apart from two blocks -/
def Apart (v : Value) (g h : Nat) : Prop := ∀ x, v.ownBlock = some x → x ≠ g ∧ x ≠ h
theorem Apart.keeps {w w' : World} {base g h : Nat} {v : Value} {l : List B8} (ha : Apart v g h) (ho : OwnBL w base v l) (hg : w.grownBy w' (some g) ∨ w.grownBy w' (some h)) : OwnBL w' base v l := by
  have key : ∀ y, (∀ x, v.ownBlock = some x → x ≠ y) → w.grownBy w' (some y) → OwnBL w' base v l := fun y hy hg => World.ownsRow.kept ho hg (by
    cases hv : v.ownBlock with
    | none => exact .inl rfl
    | some x => exact .inr (fun e => hy x hv (Option.some.inj e)))
  rcases hg with hg | hg
  · exact key g (fun x hx => (ha x hx).1) hg
  · exact key h (fun x hx => (ha x hx).2) hg

set_option maxRecDepth 100000 in
theorem thad_big (a : Option Addr) (n c : Nat) (nn at_ rd : Int) (w : World) (h : 128 < n) :
    Calls Try.prog 8 #[.slice a n c, .int .i64 nn, .int .i64 at_, .int .i64 rd] w fun e w' => e = .returned (.bool true) ∧ Below w.heap.size w w' := by
  have h1 : (128 : Int) < n := by omega
  go_enter Try.func8, Try.ntmps8
  go_wp2
  go_ret
  exact ⟨rfl, Below.refl _ _⟩

set_option maxHeartbeats 16000000 in
set_option maxRecDepth 100000 in
theorem thad_ok (a : Option Addr) (n c : Nat) (l : List Int) (nn at_ rd : Int) (w : World) (hl : Ints w a n l) (hb : I64 l) (hn : n ≤ 128) (h1 : I64x nn) (h2 : I64x at_) (h3 : I64x rd) :
    Calls Try.prog 8 #[.slice a n c, .int .i64 nn, .int .i64 at_, .int .i64 rd] w fun e w' => e = .returned (.bool true) ∧ Below w.heap.size w w' := by
  have HL := hide hl
  have HB := hide hb
  have H1 := hide h1
  have H2 := hide h2
  have H3 := hide h3
  have hnb : ¬ (128 : Int) < n := by omega
  clear hl hb h1 h2 h3
  obtain ⟨N, hN1, hN2, hN⟩ : ∃ N : Nat, 1 ≤ N ∧ N ≤ 32 ∧ Hid (1 + Mx.pick nn 32 = (N : Int)) := ⟨(1 + Mx.pick nn 32).toNat, by have := Mx.pick_pos nn 32 (by omega); omega, by have := Mx.pick_pos nn 32 (by omega); omega, by unfold Hid; have := Mx.pick_pos nn 32 (by omega); omega⟩
  obtain ⟨P, hP1, hP⟩ : ∃ P : Nat, P ≤ 99 ∧ Hid (Mx.pick at_ 100 = (P : Int)) := ⟨(Mx.pick at_ 100).toNat, by have := Mx.pick_pos at_ 100 (by omega); omega, by unfold Hid; have := Mx.pick_pos at_ 100 (by omega); omega⟩
  obtain ⟨R, hR1, hR⟩ : ∃ R : Nat, R ≤ 8 ∧ Hid (Mx.pick rd 9 = (R : Int)) := ⟨(Mx.pick rd 9).toNat, by have := Mx.pick_pos rd 9 (by omega); omega, by unfold Hid; have := Mx.pick_pos rd 9 (by omega); omega⟩
  obtain ⟨C, hC, HC⟩ := make_blocks N (by omega)
  go_enter Try.func8, Try.ntmps8
  go_wp2_with fail
  refine (pickv_any nn 32 w H1.out.1 H1.out.2 (by omega) (by omega)).mono ?_
  rintro e w1 ⟨rfl, hw1⟩
  obtain ⟨Q, hQ⟩ : ∃ Q : Int, Hid (Q = Mx.pick nn 32) := ⟨_, rfl⟩
  rw [← hQ.out] at hN ⊢
  have hQN : 1 + Q = (N : Int) := hN.out
  rw [hw1]
  clear hw1
  go_wp2_with fail
  refine (pickv_any at_ 100 w H2.out.1 H2.out.2 (by omega) (by omega)).mono ?_
  rintro e w2 ⟨rfl, hw2⟩
  rw [hP.out, hw2]
  clear hw2
  obtain ⟨w4, hw4⟩ : ∃ w4 : World, Hid (w4 = (w.alloc (.cells C 50)).alloc (.cells C 50)) := ⟨_, rfl⟩
  have B4 := hide (show Below w.heap.size w w4 by rw [hw4.out]; exact (below_alloc _ _).alloc (by simp) _)
  have X4 := hide (show OwnBL w4 w.heap.size (.slice (some ⟨w.heap.size, 0, none⟩) N N) (List.replicate N zB) by rw [hw4.out]; exact World.ownsRow.alloc (HC.out w w.heap.size (Nat.le_refl _)) _)
  have Y4 := hide (show OwnBL w4 w.heap.size (.slice (some ⟨w.heap.size + 1, 0, none⟩) N N) (List.replicate N zB) by
    rw [hw4.out]
    have h := HC.out (w.alloc (.cells C 50)) w.heap.size (by simp)
    rw [World.size_alloc] at h
    exact h)
  go_wp2_with fail
  rw [← hw4.out]
  go_loopw [11, 12, 13] (fun v u t wr => ∃ (k r : Nat) (am : Option Addr) (cm : Nat) (ai : Option Addr) (ci : Nat) (hs cur : List B8), k ≤ R ∧ t = .int .i64 (k : Int) ∧ v = .slice am r cm ∧ u = .slice ai r ci ∧ Hid (r = hs.length) ∧ Hid (Mx.hmay hs = 0) ∧ Hid (OwnBL wr w.heap.size (.slice am r cm) hs) ∧ Hid (OwnBL wr w.heap.size (.slice ai r ci) hs) ∧ Hid (OwnBL wr w.heap.size (.slice (some ⟨w.heap.size, 0, none⟩) N N) cur) ∧ Hid (OwnBL wr w.heap.size (.slice (some ⟨w.heap.size + 1, 0, none⟩) N N) cur) ∧ Hid (Apart (.slice am r cm) (w.heap.size) (w.heap.size + 1)) ∧ Hid (Apart (.slice ai r ci) (w.heap.size) (w.heap.size + 1)) ∧ Hid (Below w.heap.size w wr)) (fun _ _ t _ => R - (intOf t).toNat)
  case atStart => exact ⟨0, 0, none, 0, none, 0, [], _, by omega, rfl, rfl, rfl, hide rfl, hide rfl, World.ownsRow_nil _ _ 50 8, World.ownsRow_nil _ _ 50 8, X4, Y4, fun x hx => by simp [Value.ownBlock] at hx, fun x hx => by simp [Value.ownBlock] at hx, B4⟩
  case round =>
    obtain ⟨k, r, am, cm, ai, ci, hs, cur, hk, rfl, rfl, rfl, hr, hH, hM, hI, hX, hY, hAm, hAi, hB⟩ := hrel
    go_wp2_with fail
    refine (pickv_any rd 9 wr H3.out.1 H3.out.2 (by omega) (by omega)).mono ?_
    rintro e wq ⟨rfl, hwq⟩
    rw [hR.out, hwq]
    clear hwq wq
    obtain ⟨wv, hwv⟩ : ∃ wv : World, Hid (wv = wr) := ⟨_, rfl⟩
    rw [← hwv.out] at hM hI hX hY hB ⊢
    by_cases hlt : k < R
    · go_wp2_with fail
      refine (putsFrom_any a n c l (P + 13 * k) N wv (HL.out.later hB.out) HB.out (by omega) (by omega) (by omega)).mono ?_
      rintro e w5 ⟨v5, ps, rfl, hps, hO5, hb5⟩
      obtain ⟨a5, c5, hv5, _⟩ := hO5.out.pl
      subst hv5
      have M5 := hide (show OwnBL w5 w.heap.size _ hs from rowKept hM.out hb5.out)
      have I5 := hide (show OwnBL w5 w.heap.size _ hs from rowKept hI.out hb5.out)
      have X5 := hide (show OwnBL w5 w.heap.size _ cur from rowKept hX.out hb5.out)
      have Y5 := hide (show OwnBL w5 w.heap.size _ cur from rowKept hY.out hb5.out)
      have B5 := hide (hB.out.trans (hb5.out.mono hB.out.size))
      obtain ⟨m, hm⟩ : ∃ m : Nat, Hid (m = ps.length) := ⟨_, rfl⟩
      rw [← hm.out] at hO5 ⊢
      have hmN : m ≤ N := by rw [hm.out]; exact hps.out.1
      have HCL := hide (X5.out.fzn (by omega)).2.2.1
      have h8 := ((Mx.hmay_iff hs).1 hH.out).1
      have HPM := hide (show Mx.pmay N hs = 0 by rw [Mx.pmay, if_neg (by omega)]; exact hH.out)
      have HRE := hide (Mx.riseE_of hps.out.2)
      have HQE := hide (Mx.qE_pks cur hs hps.out.2)
      have hr8 : r ≤ 8 := by rw [hr.out]; exact h8
      clear hM hI hX hY hb5 h8
      go_wp2_with fail
      refine (packets_own a5 (some ⟨w.heap.size, 0, none⟩) am m c5 N N r cm ps cur hs w5 hO5.out.asPL X5.out.asBL M5.out.asBL M5.out.roomy (by omega) (by omega) HPM.out HRE.out).mono ?_
      rintro e w6 ⟨a6, c6, rfl, hQ6, hb6⟩
      have M6 := hide (show OwnBL w6 w.heap.size _ hs from rowKept M5.out hb6.out)
      have I6 := hide (show OwnBL w6 w.heap.size _ hs from rowKept I5.out hb6.out)
      have X6 := hide (show OwnBL w6 w.heap.size _ cur from rowKept X5.out hb6.out)
      have Y6 := hide (show OwnBL w6 w.heap.size _ cur from rowKept Y5.out hb6.out)
      have O6 := hide (show OwnPL w6 _ _ ps from rowKept hO5.out hb6.out)
      have B6 := hide (B5.out.trans (hb6.out.mono B5.out.size))
      obtain ⟨K, hK⟩ : ∃ K : Nat, Hid (K = (Mx.pks cur hs ps).length) := ⟨_, rfl⟩
      rw [← hK.out] at hQ6 ⊢
      have hKm : K ≤ m := by have := Mx.pks_len cur hs ps; rw [hK.out, hm.out]; exact this
      have HPI := hide (show ∀ p ∈ ps, 0 ≤ p.at_ ∧ p.at_ < (N : Int) from Mx.riseFrom_at (Mx.riseFrom_of hps.out.2))
      clear hb6 M5 I5 X5 Y5 hO5
      go_wp2_with fail
      go_loopw [17] (fun t wx => ∃ i : Nat, i ≤ m ∧ t = .int .i64 (i : Int) ∧ Hid (OwnBL wx w.heap.size (.slice (some ⟨w.heap.size, 0, none⟩) N N) ((ps.take i).foldl Mx.putIn cur)) ∧ Hid (w6.grownBy wx (some (w.heap.size))) ∧ Hid (Below w.heap.size w wx)) (fun t _ => m - (intOf t).toNat)
      case atStart => exact ⟨0, by omega, rfl, X6, grown_refl _ _, B6⟩
      case round =>
        obtain ⟨i, hi, rfl, hOx, hGx, hBx⟩ := hrel
        by_cases hlt2 : i < m
        · have PX := hide (show OwnPL wr _ _ ps from own_kept O6.out X6.out (by decide) hGx.out)
          have hne := own_apart PX.out hOx.out (by decide)
          obtain ⟨b, off, p, rfl, hb, hp, e0, e1, e2, e3, e4, e5, e6, e7, e8⟩ := PX.out.asPL.at_ i hlt2
          have hin := HPI.out p (List.mem_of_getElem? hp)
          obtain ⟨j, hj⟩ := Int.eq_ofNat_of_zero_le hin.1
          have HXK := hide hp
          have HJ := hide hj
          rw [hj] at e0 hin
          have hin' : (j : Int) < N := hin.2
          have hin0 : (0 : Int) ≤ (j : Int) := hin.1
          obtain ⟨yy, _, y0, y1, y2, y3, y4, y5, y6, y7⟩ := hOx.out.at_ j (by omega)
          obtain ⟨hgl, hgb, hln, yz⟩ := hOx.out.fzn (by omega)
          have n3 : ¬ w.heap.size = b := fun e => hne.elim (fun h => absurd h (by simp [Value.ownBlock])) (fun h => h (by rw [← e]; rfl))
          have HNX := hide (hOx.out.put j (by rw [hln]; omega) p.d)
          have HN2 := hide (show OwnBL (set8 wr (w.heap.size) (j * 8) p.d).drew w.heap.size _ ((ps.take (i + 1)).foldl Mx.putIn cur) ∧ w6.grownBy (set8 wr (w.heap.size) (j * 8) p.d).drew (some (w.heap.size)) ∧ Below w.heap.size w (set8 wr (w.heap.size) (j * 8) p.d).drew from by
            rw [Mx.foldl_succ _ HXK.out, Mx.putIn, HJ.out, Int.toNat_natCast]
            exact ⟨World.ownsRow.drew HNX.out, grown8 hGx.out _ _, (set8_below hBx.out hgb (j * 8) p.d).drew⟩)
          clear HNX hp hj hin hne
          go_wp2_with fail
          go_region_held (fun w' => w'.cell? ⟨b, off + i * 9, none⟩ = some (.int .i64 (j : Int)) ∧ w'.cell? ⟨b, off + i * 9 + 1, none⟩ = some (.int .u8 p.d.z0) ∧ w'.cell? ⟨b, off + i * 9 + 2, none⟩ = some (.int .u8 p.d.z1) ∧ w'.cell? ⟨b, off + i * 9 + 3, none⟩ = some (.int .u8 p.d.z2) ∧ w'.cell? ⟨b, off + i * 9 + 4, none⟩ = some (.int .u8 p.d.z3) ∧ w'.cell? ⟨b, off + i * 9 + 5, none⟩ = some (.int .u8 p.d.z4) ∧ w'.cell? ⟨b, off + i * 9 + 6, none⟩ = some (.int .u8 p.d.z5) ∧ w'.cell? ⟨b, off + i * 9 + 7, none⟩ = some (.int .u8 p.d.z6) ∧ w'.cell? ⟨b, off + i * 9 + 8, none⟩ = some (.int .u8 p.d.z7))
            (simp [*, World.cell?_setCell_far]) (fail)
          go_wp2_with fail
          go_roundw
          case rel => exact ⟨i + 1, by omega, by go_num, HN2.out.1, HN2.out.2.1, HN2.out.2.2⟩
          case measure => simp [intOf]; omega
        · have X7 : Hid (OwnBL wr w.heap.size (.slice (some ⟨w.heap.size, 0, none⟩) N N) (ps.foldl Mx.putIn cur)) := by
            have h := hOx.out
            rw [List.take_of_length_le (by rw [← hm.out]; omega)] at h
            exact h
          have M7 := hide (hAm.out.keeps M6.out (.inl hGx.out))
          have I7 := hide (hAi.out.keeps I6.out (.inl hGx.out))
          have Y7 := hide (show OwnBL wr w.heap.size (.slice (some ⟨w.heap.size + 1, 0, none⟩) N N) cur from World.ownsRow.kept Y6.out hGx.out (.inr (by simp [Value.ownBlock])))
          have Q7 := hide (show OwnQL wr _ _ (Mx.pks cur hs ps) from own_kept hQ6.out X6.out (by decide) hGx.out)
          obtain ⟨w7, hw7⟩ : ∃ w7 : World, Hid (w7 = wr) := ⟨_, rfl⟩
          rw [← hw7.out] at X7 M7 I7 Y7 Q7 hBx ⊢
          clear hOx hGx M6 I6 X6 Y6 O6 hQ6
          go_wp2_with fail
          refine (apply_own a6 (some ⟨w.heap.size + 1, 0, none⟩) ai K c6 N N r ci (Mx.pks cur hs ps) cur hs w7 Q7.out.asQL Y7.out.asBL I7.out.asBL I7.out.roomy (by omega) (by omega) HPM.out HQE.out).mono ?_
          rintro e w8 ⟨a8, c8, a9, c9, rfl, hS8, hM8, hb8⟩
          have hSK : (ps.filter (Mx.sent cur)).length = K := by rw [hK.out, Mx.pks_filter, List.length_map]
          obtain ⟨ss, hss⟩ : ∃ ss : List Pt, Hid (ss = ps.filter (Mx.sent cur)) := ⟨_, rfl⟩
          rw [(Mx.puts_pks cur hs ps).1, ← hss.out] at hS8
          rw [(Mx.puts_pks cur hs ps).1, (Mx.puts_pks cur hs ps).2, ← hss.out]
          rw [← hss.out] at hSK
          rw [hSK] at hS8 ⊢
          rw [show ([] : List Int).length = 0 from rfl]
          have HSI := hide (show ∀ p ∈ ss, 0 ≤ p.at_ ∧ p.at_ < (N : Int) from by rw [hss.out]; exact Mx.riseFrom_at (Mx.riseFrom_filter _ (Mx.riseFrom_of hps.out.2)))
          have HSL := hide hSK
          have X8 := hide (show OwnBL w8 w.heap.size _ (ps.foldl Mx.putIn cur) from rowKept X7.out hb8.out)
          have M8 := hide (show OwnBL w8 w.heap.size _ hs from rowKept M7.out hb8.out)
          have I8 := hide (show OwnBL w8 w.heap.size _ hs from rowKept I7.out hb8.out)
          have Y8 := hide (show OwnBL w8 w.heap.size _ cur from rowKept Y7.out hb8.out)
          have Q8 := hide (show OwnQL w8 _ _ (Mx.pks cur hs ps) from rowKept Q7.out hb8.out)
          have B8_ := hide (hBx.out.trans (hb8.out.mono hBx.out.size))
          clear hb8 hM8 hSK X7 M7 I7 Y7 Q7 hBx
          go_wp2_with fail
          go_loopw [21] (fun t wx => ∃ i : Nat, i ≤ K ∧ t = .int .i64 (i : Int) ∧ Hid (OwnBL wx w.heap.size (.slice (some ⟨w.heap.size + 1, 0, none⟩) N N) ((ss.take i).foldl Mx.putIn cur)) ∧ Hid (w8.grownBy wx (some (w.heap.size + 1))) ∧ Hid (Below w.heap.size w wx)) (fun t _ => K - (intOf t).toNat)
          case atStart => exact ⟨0, by omega, rfl, Y8, grown_refl _ _, B8_⟩
          case round =>
            obtain ⟨i, hi, rfl, hOx, hGx, hBx⟩ := hrel
            by_cases hlt3 : i < K
            · have PX := hide (show OwnPL wr _ _ ss from own_kept hS8.out Y8.out (by decide) hGx.out)
              have hne := own_apart PX.out hOx.out (by decide)
              obtain ⟨b, off, p, rfl, hb, hp, e0, e1, e2, e3, e4, e5, e6, e7, e8⟩ := PX.out.asPL.at_ i hlt3
              have hin := HSI.out p (List.mem_of_getElem? hp)
              obtain ⟨j, hj⟩ := Int.eq_ofNat_of_zero_le hin.1
              have HXK := hide hp
              have HJ := hide hj
              rw [hj] at e0 hin
              have hin' : (j : Int) < N := hin.2
              have hin0 : (0 : Int) ≤ (j : Int) := hin.1
              obtain ⟨yy, _, y0, y1, y2, y3, y4, y5, y6, y7⟩ := hOx.out.at_ j (by omega)
              obtain ⟨hgl, hgb, hln, yz⟩ := hOx.out.fzn (by omega)
              have n3 : ¬ w.heap.size + 1 = b := fun e => hne.elim (fun h => absurd h (by simp [Value.ownBlock])) (fun h => h (by rw [← e]; rfl))
              have HNX := hide (hOx.out.put j (by rw [hln]; omega) p.d)
              have HN2 := hide (show OwnBL (set8 wr (w.heap.size + 1) (j * 8) p.d).drew w.heap.size _ ((ss.take (i + 1)).foldl Mx.putIn cur) ∧ w8.grownBy (set8 wr (w.heap.size + 1) (j * 8) p.d).drew (some (w.heap.size + 1)) ∧ Below w.heap.size w (set8 wr (w.heap.size + 1) (j * 8) p.d).drew from by
                rw [Mx.foldl_succ _ HXK.out, Mx.putIn, HJ.out, Int.toNat_natCast]
                exact ⟨World.ownsRow.drew HNX.out, grown8 hGx.out _ _, (set8_below hBx.out hgb (j * 8) p.d).drew⟩)
              clear HNX hp hj hin hne
              have hd0 : decide ((j : Int) < 0) = false := by simp
              have hd1 : decide ((N : Int) ≤ (j : Int)) = false := by simp; omega
              go_wp2_with fail
              go_region_held (fun w' => w'.cell? ⟨b, off + i * 9, none⟩ = some (.int .i64 (j : Int)) ∧ w'.cell? ⟨b, off + i * 9 + 1, none⟩ = some (.int .u8 p.d.z0) ∧ w'.cell? ⟨b, off + i * 9 + 2, none⟩ = some (.int .u8 p.d.z1) ∧ w'.cell? ⟨b, off + i * 9 + 3, none⟩ = some (.int .u8 p.d.z2) ∧ w'.cell? ⟨b, off + i * 9 + 4, none⟩ = some (.int .u8 p.d.z3) ∧ w'.cell? ⟨b, off + i * 9 + 5, none⟩ = some (.int .u8 p.d.z4) ∧ w'.cell? ⟨b, off + i * 9 + 6, none⟩ = some (.int .u8 p.d.z5) ∧ w'.cell? ⟨b, off + i * 9 + 7, none⟩ = some (.int .u8 p.d.z6) ∧ w'.cell? ⟨b, off + i * 9 + 8, none⟩ = some (.int .u8 p.d.z7))
                (simp [*, World.cell?_setCell_far]) (fail)
              go_wp2_with fail
              go_roundw
              case rel => exact ⟨i + 1, by omega, by go_num, HN2.out.1, HN2.out.2.1, HN2.out.2.2⟩
              case measure => simp [intOf]; omega
            · have Y9 : Hid (OwnBL wr w.heap.size (.slice (some ⟨w.heap.size + 1, 0, none⟩) N N) (ps.foldl Mx.putIn cur)) := by
                have h := hOx.out
                rw [List.take_of_length_le (by rw [HSL.out]; omega), hss.out, Mx.putIn_all hps.out.2] at h
                exact h
              have M9 := hide (hAm.out.keeps M8.out (.inr hGx.out))
              have I9 := hide (hAi.out.keeps I8.out (.inr hGx.out))
              have X9 := hide (show OwnBL wr w.heap.size (.slice (some ⟨w.heap.size, 0, none⟩) N N) (ps.foldl Mx.putIn cur) from World.ownsRow.kept X8.out hGx.out (.inr (by simp [Value.ownBlock])))
              have Q9 := hide (show OwnQL wr _ _ (Mx.pks cur hs ps) from own_kept Q8.out Y8.out (by decide) hGx.out)
              obtain ⟨w9, hw9⟩ : ∃ w9 : World, Hid (w9 = wr) := ⟨_, rfl⟩
              rw [← hw9.out] at X9 M9 I9 Y9 Q9 hBx ⊢
              clear hOx hGx M8 I8 X8 Y8 Q8 hS8
              have hG9 : w.heap.size + 1 < w9.heap.size := (Y9.out.fzn (by omega)).1
              go_wp2_with fail
              refine (had_own am a6 r cm K c6 hs (Mx.pks cur hs ps) w9 M9.out.asBL Q9.out.asQL M9.out.roomy hH.out).mono ?_
              rintro e w10 ⟨ax, cx, rfl, hx10, hb10⟩
              have I10 := hide (show OwnBL w10 w.heap.size _ hs from rowKept I9.out hb10.out)
              have X10 := hide (show OwnBL w10 w.heap.size _ (ps.foldl Mx.putIn cur) from rowKept X9.out hb10.out)
              have Y10 := hide (show OwnBL w10 w.heap.size _ (ps.foldl Mx.putIn cur) from rowKept Y9.out hb10.out)
              have Q10 := hide (show OwnQL w10 _ _ (Mx.pks cur hs ps) from rowKept Q9.out hb10.out)
              have B10 := hide (hBx.out.trans (hb10.out.mono hBx.out.size))
              have S10 := hide hb10.out.size
              obtain ⟨T, hT⟩ : ∃ T : Nat, Hid (T = (Mx.hadTo hs (Mx.pks cur hs ps)).length) := ⟨_, rfl⟩
              rw [← hT.out] at hx10 ⊢
              clear hb10 M9 I9 X9 Y9 Q9
              go_wp2_with fail
              refine (had_own ai a6 r ci K c6 hs (Mx.pks cur hs ps) w10 I10.out.asBL Q10.out.asQL I10.out.roomy hH.out).mono ?_
              rintro e w11 ⟨ay, cy, rfl, hy11, hb11⟩
              have hx11 := hide (show OwnBL w11 w9.heap.size _ (Mx.hadTo hs (Mx.pks cur hs ps)) from rowKept hx10.out hb11.out)
              have X11 := hide (show OwnBL w11 w.heap.size _ (ps.foldl Mx.putIn cur) from rowKept X10.out hb11.out)
              have Y11 := hide (show OwnBL w11 w.heap.size _ (ps.foldl Mx.putIn cur) from rowKept Y10.out hb11.out)
              have B11 := hide (B10.out.trans (hb11.out.mono B10.out.size))
              rw [← hT.out] at hy11 ⊢
              clear hb11 I10 X10 Y10 Q10 hx10
              go_wp2_with fail
              refine (sameBL_gen ax ay T cx T cy _ _ w11 hx11.out.asBL hy11.out.asBL).mono ?_
              rintro e u1 ⟨r1, rfl, h1, q1, rfl⟩
              obtain rfl : r1 = true := h1.2 rfl
              go_wp2_with fail
              refine (sameBL_gen (some ⟨w.heap.size, 0, none⟩) (some ⟨w.heap.size + 1, 0, none⟩) N N N N _ _ (w11.drewN q1) X11.out.asBL Y11.out.asBL).mono ?_
              rintro e u2 ⟨r2, rfl, h2, q2, rfl⟩
              obtain rfl : r2 = true := h2.2 rfl
              obtain ⟨w12, hw12⟩ : ∃ w12 : World, Hid (w12 = (w11.drewN q1).drewN q2) := ⟨_, rfl⟩
              have B12 := hide (below_drewN (below_drewN B11.out q1) q2)
              have x12 := hide (show OwnBL w12 w9.heap.size (.slice ax T cx) (Mx.hadTo hs (Mx.pks cur hs ps)) by rw [hw12.out]; exact hx11.out)
              have y12 := hide (show OwnBL w12 w10.heap.size (.slice ay T cy) (Mx.hadTo hs (Mx.pks cur hs ps)) by rw [hw12.out]; exact hy11.out)
              have X12 := hide (show OwnBL w12 w.heap.size (.slice (some ⟨w.heap.size, 0, none⟩) N N) (ps.foldl Mx.putIn cur) by rw [hw12.out]; exact X11.out)
              have Y12 := hide (show OwnBL w12 w.heap.size (.slice (some ⟨w.heap.size + 1, 0, none⟩) N N) (ps.foldl Mx.putIn cur) by rw [hw12.out]; exact Y11.out)
              rw [← hw12.out] at B12 ⊢
              go_wp2_with fail
              go_roundw
              case rel => exact ⟨k + 1, T, ax, cx, ay, cy, Mx.hadTo hs (Mx.pks cur hs ps), ps.foldl Mx.putIn cur, by omega, by go_num, rfl, rfl, hT, Mx.hadTo_may hH.out _, hide (World.ownsRow.mono x12.out (by omega)), hide (World.ownsRow.mono y12.out (by have := S10.out; omega)), X12, Y12, fun x hx => by have := (World.ownsRow.lt x12.out x hx).1; omega, fun x hx => by have := (World.ownsRow.lt y12.out x hx).1; have := S10.out; omega, B12⟩
              case measure => simp [intOf]; omega
    · go_wp2_with fail
      go_ret
      exact ⟨rfl, hB.out⟩

theorem thad_any (a : Option Addr) (n c : Nat) (l : List Int) (nn at_ rd : Int) (w : World) (hl : Ints w a n l) (hb : I64 l) (h1 : I64x nn) (h2 : I64x at_) (h3 : I64x rd) :
    Calls Try.prog 8 #[.slice a n c, .int .i64 nn, .int .i64 at_, .int .i64 rd] w fun e w' => e = .returned (.bool true) ∧ Below w.heap.size w w' := by
  by_cases h : 128 < n
  · exact thad_big a n c nn at_ rd w h
  · exact thad_ok a n c l nn at_ rd w hl hb (by omega) h1 h2 h3
end Go.Proofs.Ytpjgliocancgeac
