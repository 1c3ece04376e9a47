/-
  What was received: the document's answer (ReceivedOf).
-/
import Derived.Test.YtfgonmgmoeoedaaZEl

namespace Go.Proofs.Ytfgonmgmoeoedaa
open Go.RowKit

/-- what ReceivedOf hands back -/
def RcvO (w w' : World) (l : List Int) (ses want : Int) (e : Ending) : Prop :=
  ((∃ kd nm nb bs v vb, Mx.Msg l ses want kd nm nb bs ∧ want < 2147483647 ∧ e = .returned (.tuple #[.agg #[.int .i64 ses, .int .i64 (want + 1)], v, .bool true, vb]) ∧ FrA w.heap.size w' v ⟨kd, nm, nb, bs⟩ ∧ Own w' w.heap.size vb (Mx.packB 0 [ses, want + 1] 0 [])) ∨
   (∃ x kd nm nb bs vb, Mx.Msg l ses x kd nm nb bs ∧ ¬ (x = want ∧ want < 2147483647) ∧ e = .returned (.tuple #[.agg #[.int .i64 ses, .int .i64 want], .agg #[.int .i64 0, .slice none 0 0, .slice none 0 0], .bool false, vb]) ∧ Own w' w.heap.size vb (Mx.packB 0 [ses, want] 0 [])) ∨
   ((∀ x kd nm nb bs, ¬ Mx.Msg l ses x kd nm nb bs) ∧ e = .returned (.tuple #[.agg #[.int .i64 ses, .int .i64 want], .agg #[.int .i64 0, .slice none 0 0, .slice none 0 0], .bool false, .slice none 0 0]))) ∧ Below w.heap.size w w'

set_option maxHeartbeats 16000000 in
set_option maxRecDepth 100000 in
theorem lro6 {w v : World} {P : Ending → World → Prop} {ses nx : Int} {came : Bool} {kd : Int} {a1 : Option Addr} {n1 c1 : Nat} {a2 : Option Addr} {nb c2 : Nat} {nm bs : List Int} {gm : Nat} (hs0 : 0 ≤ ses) (hs1 : ses ≤ 2147483647) (hn0 : 0 ≤ nx) (hn1 : nx ≤ 2147483647) (hgm : w.heap.size + 3 ≤ gm) (BL : Hid (Below w.heap.size w v)) (XR : Hid (Bx v w.heap.size #[.int .i64 ses, .int .i64 nx] 26)) (XA : Hid (Bx v (w.heap.size + 1) #[.int .i64 0, .int .i64 0] 26)) (XB : Hid (Bx v (w.heap.size + 1 + 1) #[.int .i64 0, .slice none 0 0, .slice none 0 0] 40)) (XM : Hid (Bx v gm #[.int .i64 kd, .slice a1 n1 c1, .slice a2 nb c2] 40)) (HI : Hid (Ints v a1 n1 nm)) (HK : Hid (Blks v a2 nb bs)) (H1 : Hid (0 < n1 → ∀ p, a1 = some p → w.heap.size + 3 ≤ p.block)) (H2 : Hid (0 < nb → ∀ p, a2 = some p → w.heap.size + 3 ≤ p.block)) (hP : Hid (∀ w' vb, Own w' w.heap.size vb (Mx.packB 0 [ses, nx] 0 []) → Ints w' a1 n1 nm → Blks w' a2 nb bs → Below w.heap.size w w' → P (.returned (.tuple #[.agg #[.int .i64 ses, .int .i64 nx], .agg #[.int .i64 kd, .slice a1 n1 c1, .slice a2 nb c2], .bool came, vb])) w')) {u0 u1 u3 u6 u7 u8 u9 u12 u13 u14 u15 u16 u17 u18 u19 u20 u21 u22 u23 u24 u25 u26 u27 u28 u29 u30 u31 u32 u33 u34 u35 u36 u37 u38 u39 u40 u41 u42 u43 u44 u45 u46 u47 u48 u49 u50 u51 u52 u53 u54 u55 u56 u57 u58 u59 u60 u61 u62 u63 u64 u65 u66 u67 u68 u69 u70 u71 u72 u73 u74 u75 u76 u77 u78 u79 u80 u81 u82 u83 u84 u85 : Value} :
    TailG Try.f13 P 6 ⟨#[u0, u1, .pointer (some ⟨w.heap.size, 0, none⟩), u3, .pointer (some ⟨w.heap.size + 1, 0, none⟩), .pointer (some ⟨w.heap.size + 1 + 1, 0, none⟩), u6, u7, u8, u9, .pointer (some ⟨gm, 0, none⟩), .bool came, u12, u13, u14, u15, u16, u17, u18, u19, u20, u21, u22, u23, u24, u25, u26, u27, u28, u29, u30, u31, u32, u33, u34, u35, u36, u37, u38, u39, u40, u41, u42, u43, u44, u45, u46, u47, u48, u49, u50, u51, u52, u53, u54, u55, u56, u57, u58, u59, u60, u61, u62, u63, u64, u65, u66, u67, u68, u69, u70, u71, u72, u73, u74, u75, u76, u77, u78, u79, u80, u81, u82, u83, u84, u85], []⟩ v := by
  refine tailG_last (c := .seq _ .ret) rfl ?_
  obtain ⟨W0, hW0⟩ : ∃ W0 : World, Hid (W0 = (v.alloc (.cells #[.int .i64 ses, .int .i64 nx] 3)).drew) := ⟨_, rfl⟩
  have Z0 := hide (show Bx W0 v.heap.size #[.int .i64 ses, .int .i64 nx] 3 by rw [hW0.out]; exact Bx.newD v _ _)
  have D0 := hide (show Below v.heap.size v W0 by rw [hW0.out]; exact (below_alloc _ _).drew)
  have I0 := hide (show Ints W0 (some ⟨v.heap.size, 0, none⟩) 2 [ses, nx] from ⟨rfl, by rw [maxLen_val]; omega, fun _ => ⟨v.heap.size, 0, rfl, Z0.out.lt, fun i hi => by
    match i, hi with
    | 0, _ => exact Z0.out.cell 0
    | 1, _ => exact Z0.out.cell 1⟩⟩)
  have K0 := hide (show Blks W0 none 0 [] from ⟨rfl, by rw [maxLen_val]; omega, fun _ h => (by cases h), fun h => absurd h (by omega)⟩)
  have HM := hide (Mx.may_two hs0 hs1 hn0 hn1)
  clear hs0 hs1 hn0 hn1
  have hsz := BL.out.size
  have hsv := XB.out.lt
  have hsm := XM.out.lt
  have hW0s : W0.heap.size = v.heap.size + 1 := by rw [hW0.out]; simp
  obtain ⟨x0, x1⟩ := XR.out.pair
  obtain ⟨m0, m1, m2⟩ := XM.out.three
  have hxv : w.heap.size < v.heap.size := XR.out.lt
  have h1r : ¬ w.heap.size + 1 = w.heap.size := by omega
  have h1m : ¬ w.heap.size + 1 = gm := by omega
  have h2r : ¬ w.heap.size + 1 + 1 = w.heap.size := by omega
  have h2m : ¬ w.heap.size + 1 + 1 = gm := by omega
  go_upto_region 9 with fail
  go_region_held3 (fun w' => w'.cell? ⟨w.heap.size, 0, none⟩ = some (.int .i64 ses) ∧ w'.cell? ⟨w.heap.size, 1, none⟩ = some (.int .i64 nx) ∧ w'.cell? ⟨gm, 0, none⟩ = some (.int .i64 kd) ∧ w'.cell? ⟨gm, 1, none⟩ = some (.slice a1 n1 c1) ∧ w'.cell? ⟨gm, 2, none⟩ = some (.slice a2 nb c2))
    (first
      | with_reducible exact ⟨c0, c1_, d0, d1, d2⟩
      | with_reducible exact ⟨x0, x1, m0, m1, m2⟩
      | (simp only [cell_drew]; with_reducible exact ⟨x0, x1, m0, m1, m2⟩)
      | (simp only [cell_alloc_lt hxv, cell_alloc_lt hsm, cell_drew]; with_reducible exact ⟨x0, x1, m0, m1, m2⟩)
      | (simp only [cell_set_far h1r, cell_set_far h1m, cell_set_far h2r, cell_set_far h2m]; with_reducible exact ⟨c0, c1_, d0, d1, d2⟩))
    (first
      | (go_at_call 17; rw [← hW0.out]; refine (packed_any 0 (some ⟨v.heap.size, 0, none⟩) none 2 2 0 0 [ses, nx] [] W0 I0.out K0.out HM.out).mono ?_; rintro e w1 ⟨vb, rfl, O1, D1⟩; have O2 := hide O1; have D01 := hide (D0.out.trans (D1.mono D0.out.size)); have XA1 := hide (XA.out.later D01.out XA.out.lt); have XB1 := hide (XB.out.later D01.out XB.out.lt); obtain ⟨c0, c1_⟩ := (XR.out.later D01.out XR.out.lt).pair; obtain ⟨d0, d1, d2⟩ := (XM.out.later D01.out XM.out.lt).three; obtain ⟨e0, e1⟩ := XA1.out.pair; have ez := XA1.out.frozen; obtain ⟨f0, f1, f2⟩ := XB1.out.three; have fz := XB1.out.frozen; clear x0 x1 m0 m1 m2 O1 D1))
  all_goals
    clear e0 e1 ez f0 f1 f2 fz c0 c1_ d0 d1 d2
    have HI1 := hide (HI.out.later D01.out)
    have HK1 := hide (HK.out.later D01.out)
    have BL1 := hide (BL.out.trans (D01.out.mono BL.out.size))
    have NA := hide (XA1.out.two_set (.int .i64 ses) (.int .i64 nx))
    have MA := hide ((XB1.out.other ⟨w.heap.size + 1, 0, none⟩ (.int .i64 ses) (by simp)).other ⟨w.heap.size + 1, 1, none⟩ (.int .i64 nx) (by simp))
    have NB := hide (NA.out.far3 (g := w.heap.size + 1 + 1) (by omega) (.int .i64 kd) (.slice a1 n1 c1) (.slice a2 nb c2))
    have MB := hide (MA.out.three_set (.int .i64 kd) (.slice a1 n1 c1) (.slice a2 nb c2))
    unfold set3 at NB
    obtain ⟨p0, p1⟩ := NB.out.pair
    obtain ⟨q0, q1, q2⟩ := MB.out.three
    have GA := hide (set2_grown (grow_refl w1 (some (w.heap.size + 1))) (.int .i64 ses) (.int .i64 nx))
    have GB := hide (set3_grown (grow_refl (set2 w1 (w.heap.size + 1) (.int .i64 ses) (.int .i64 nx)) (some (w.heap.size + 1 + 1))) (.int .i64 kd) (.slice a1 n1 c1) (.slice a2 nb c2))
    have IF := hide ((HI1.out.grownBy GA.out (fun h p hp e => by have h1 := H1.out h p hp; have h2 : w.heap.size + 1 = p.block := Option.some.inj e; omega)).grownBy GB.out (fun h p hp e => by have h1 := H1.out h p hp; have h2 : w.heap.size + 1 + 1 = p.block := Option.some.inj e; omega))
    have KF := hide ((HK1.out.grownBy GA.out (fun h p hp e => by have h1 := H2.out h p hp; have h2 : w.heap.size + 1 = p.block := Option.some.inj e; omega)).grownBy GB.out (fun h p hp e => by have h1 := H2.out h p hp; have h2 : w.heap.size + 1 + 1 = p.block := Option.some.inj e; omega))
    have BF := hide (set3_below (set2_below BL1.out (g := w.heap.size + 1) (by omega) (.int .i64 ses) (.int .i64 nx)) (g := w.heap.size + 1 + 1) (by omega) (.int .i64 kd) (.slice a1 n1 c1) (.slice a2 nb c2))
    have OF := hide (World.ownsRow.mono (own_under (own_under O2.out GA.out (by omega)) GB.out (by omega)) (show w.heap.size ≤ W0.heap.size + 1 by omega))
    go_wp2_with fail
    exact bodyPost_ret (v := .tuple #[.agg #[.int .i64 ses, .int .i64 nx], .agg #[.int .i64 kd, .slice a1 n1 c1, .slice a2 nb c2], .bool came, vb]) (by simp [results, Try.results13, go_sem, p0, p1, q0, q1, q2]) rfl (hP.out _ _ OF.out IF.out KF.out BF.out)

theorem Blks.lt_ {w : World} {a : Option Addr} {n : Nat} {bs : List Int} (h : Blks w a n bs) (hn : 0 < n) (p : Addr) (hp : a = some p) : p.block < w.heap.size := by
  obtain ⟨_, _, _, h4⟩ := h
  obtain ⟨b, off, ha, hlt, _⟩ := h4 hn
  rw [ha] at hp
  cases hp
  exact hlt

set_option maxHeartbeats 16000000 in
set_option maxRecDepth 100000 in
theorem lro3 {w v : World} {l : List Int} {ses want : Int} {b off m c1 : Nat} {a2 : Option Addr} {nb c2 : Nat} {y1 y2 : Int} {nm bs : List Int} {gf : Nat} (hs0 : 0 ≤ ses) (hs1 : ses ≤ 2147483647) (hw0 : 0 ≤ want) (hw1 : want ≤ 2147483647) (_hgf : w.heap.size + 3 ≤ gf) (hb : w.heap.size + 3 ≤ b) (hc1 : m + 3 ≤ c1) (BL : Hid (Below w.heap.size w v)) (XR : Hid (Bx v w.heap.size #[.int .i64 ses, .int .i64 want] 26)) (XA : Hid (Bx v (w.heap.size + 1) #[.int .i64 0, .int .i64 0] 26)) (XB : Hid (Bx v (w.heap.size + 1 + 1) #[.int .i64 0, .slice none 0 0, .slice none 0 0] 40)) (XF : Hid (Bx v gf #[.int .i64 1, .slice (some ⟨b, off, none⟩) (m + 3) c1, .slice a2 nb c2] 40)) (HI : Hid (Ints v (some ⟨b, off, none⟩) (m + 3) (ses :: y1 :: y2 :: nm))) (HK : Hid (Blks v a2 nb bs)) (P2 : Hid (0 < nb → ∀ p, a2 = some p → w.heap.size + 3 ≤ p.block)) (C2 : Hid (nb ≤ c2)) (HM : Hid (Mx.Msg l ses y1 y2 nm nb bs)) {u0 u1 u3 u6 u7 u9 u10 u11 u12 u13 u14 u15 u16 u17 u18 u19 u20 u21 u22 u23 u24 u25 u26 u27 u28 u29 u30 u31 u32 u33 u34 u35 u36 u37 u38 u39 u40 u41 u42 u43 u44 u45 u46 u47 u48 u49 u50 u51 u52 u53 u54 u55 u56 u57 u58 u59 u60 u61 u62 u63 u64 u65 u66 u67 u68 u69 u70 u71 u72 u73 u74 u75 u76 u77 u78 u79 u80 u81 u82 u83 u84 u85 : Value} :
    TailG Try.f13 (fun e w' => RcvO w w' l ses want e) 3 ⟨#[u0, u1, .pointer (some ⟨w.heap.size, 0, none⟩), u3, .pointer (some ⟨w.heap.size + 1, 0, none⟩), .pointer (some ⟨w.heap.size + 1 + 1, 0, none⟩), u6, u7, .pointer (some ⟨gf, 0, none⟩), u9, u10, u11, u12, u13, u14, u15, u16, u17, u18, u19, u20, u21, u22, u23, u24, u25, u26, u27, u28, u29, u30, u31, u32, u33, u34, u35, u36, u37, u38, u39, u40, u41, u42, u43, u44, u45, u46, u47, u48, u49, u50, u51, u52, u53, u54, u55, u56, u57, u58, u59, u60, u61, u62, u63, u64, u65, u66, u67, u68, u69, u70, u71, u72, u73, u74, u75, u76, u77, u78, u79, u80, u81, u82, u83, u84, u85], []⟩ v := by
  refine tailG_step rfl ?_
  intro K hK
  have hnl : m + 3 ≤ maxLen := HI.out.2.1
  rw [maxLen_val] at hnl
  have hvb : b < v.heap.size := by
    obtain ⟨b', off', z1, hab', hlt, _⟩ := HI.out.at_ 0 (by omega)
    cases hab'
    exact hlt
  obtain ⟨W4, hW4⟩ : ∃ W4 : World, Hid (W4 = v.alloc (.cells #[.int .i64 0, .slice none 0 0, .slice none 0 0] 40)) := ⟨_, rfl⟩
  have D4 := hide (show Below v.heap.size v W4 by rw [hW4.out]; exact below_alloc _ _)
  have M4 := hide (show Bx W4 v.heap.size #[.int .i64 0, .slice none 0 0, .slice none 0 0] 40 by rw [hW4.out]; exact Bx.new v _ _)
  have X4 := hide (XR.out.later D4.out XR.out.lt)
  have A4 := hide (XA.out.later D4.out XA.out.lt)
  have E4 := hide (XB.out.later D4.out XB.out.lt)
  have F4 := hide (XF.out.later D4.out XF.out.lt)
  have I4 := hide (HI.out.later D4.out)
  have K4 := hide (HK.out.later D4.out)
  have B4 := hide (BL.out.trans (D4.out.mono BL.out.size))
  have hsv := XB.out.lt
  have hsf := XF.out.lt
  have hs4 : v.heap.size < W4.heap.size := M4.out.lt
  have hsK : 0 < nb → ∀ p, a2 = some p → p.block < v.heap.size := fun h p hp => HK.out.lt_ h p hp
  go_wp2_with fail
  rw [← hW4.out]
  refine Met.intro (tailG_step rfl ?_)
  try clear hK K
  intro K hK
  obtain ⟨b', off', z0, hab, hblt, hx0, e0⟩ := I4.out.at_ 0 (by omega)
  cases hab
  obtain ⟨b', off', z1, hab, _, hx1, e1⟩ := I4.out.at_ 1 (by omega)
  cases hab
  obtain ⟨b', off', z2, hab, _, hx2, e2⟩ := I4.out.at_ 2 (by omega)
  cases hab
  have hx0' : ses = z0 := hx0
  have hx1' : y1 = z1 := hx1
  have hx2' : y2 = z2 := hx2
  subst hx0' hx1' hx2'
  rw [Nat.add_zero] at e0
  clear hx0 hx1 hx2
  have hi2 : (2 : Int) < (m : Int) + 3 := by omega
  have hi1 : (1 : Int) < (m : Int) + 3 := by omega
  have hi3 : (3 : Int) ≤ (m : Int) + 3 := by omega
  obtain ⟨x0, x1⟩ := X4.out.pair
  obtain ⟨f0, f1, f2⟩ := F4.out.three
  go_upto_region 5 with fail
  by_cases hx : y1 = want
  · have dx : (y1 == want) = true := by simpa using hx
    have HX := hide hx
    clear hx
    by_cases hm : want < 2147483647
    · have dm : decide (want < 2147483647) = true := by simpa using hm
      go_quiet (fail)
      have hvm : ¬ v.heap.size = gf := by omega
      have hvb' : ¬ v.heap.size = b := by omega
      have g2 := e2
      obtain ⟨W5, hW5⟩ : ∃ W5 : World, Hid (W5 = W4.drewN nq) := ⟨_, rfl⟩
      have D5 := hide (show Below W4.heap.size W4 W5 by rw [hW5.out]; exact below_drewN (Below.refl _ _) nq)
      have X5 := hide (X4.out.later D5.out X4.out.lt)
      have A5 := hide (A4.out.later D5.out A4.out.lt)
      have E5 := hide (E4.out.later D5.out E4.out.lt)
      have M5 := hide (M4.out.later D5.out M4.out.lt)
      have F5 := hide (F4.out.later D5.out F4.out.lt)
      have I5 := hide (I4.out.later D5.out)
      have K5 := hide (K4.out.later D5.out)
      have B5 := hide (B4.out.trans (D5.out.mono B4.out.size))
      have hs5 := D5.out.size
      rw [← hW5.out]
      clear x0 x1 f0 f1 f2 e0 e1 e2
      have e2 := (D5.out.cell (p := ⟨b, off + 2, none⟩) hblt).trans g2
      clear g2
      go_wp2_with fail
      refine Met.intro (tailG_step rfl ?_)
      try clear hK K
      intro K hK
      have hwk : IntKind.i64.wrap (want + 1) = want + 1 := by rw [IntWalk.i64_left, IntWalk.wrap64_in _ (by omega)]
      have h03 : (3 : Int) ≤ c1 := by omega
      obtain ⟨f0, f1, f2⟩ := F5.out.three
      obtain ⟨m0, m1, m2⟩ := M5.out.three
      have mz := M5.out.frozen
      by_cases hc3 : c1 = 3
      · subst hc3
        obtain rfl : m = 0 := by omega
        have IX := hide (show Ints W5 (some ⟨b, off, none⟩) 0 nm from ⟨by have h1 := I5.out.1; simpa using h1, by rw [maxLen_val]; omega, fun h => absurd h (by omega)⟩)
        go_upto_region 7 with fail
        go_region_held3 (fun w' => w'.cell? ⟨gf, 1, none⟩ = some (.slice (some ⟨b, off, none⟩) (0 + 3) 3) ∧ w'.cell? ⟨gf, 2, none⟩ = some (.slice a2 nb c2) ∧ w'.cell? ⟨b, off + 2, none⟩ = some (.int .i64 y2))
          (first
            | with_reducible exact ⟨f1, f2, e2⟩
            | (simp only [cell_drew]; with_reducible exact ⟨f1, f2, e2⟩)
            | (simp only [cell_set_far hvm, cell_set_far hvb', cell_drew]; with_reducible exact ⟨f1, f2, e2⟩))
          (fail)
        all_goals go_upto_region 8 with fail
        all_goals
          clear f0 f1 f2 m0 m1 m2 mz e2
          obtain ⟨W6, hW6⟩ : ∃ W6 : World, Hid (W6 = (set3 W5 v.heap.size (.int .i64 y2) (.slice (some ⟨b, off, none⟩) 0 0) (.slice a2 nb c2)).drew) := ⟨_, rfl⟩
          have G6 := hide (show W5.grownBy W6 (some v.heap.size) by rw [hW6.out]; exact grow_drew (set3_grown (grow_refl _ _) _ _ _))
          have M6 := hide (show Bx W6 v.heap.size #[.int .i64 y2, (.slice (some ⟨b, off, none⟩) 0 0), .slice a2 nb c2] 40 by rw [hW6.out]; exact M5.out.three_set _ _ _)
          have X6 := hide (show Bx W6 w.heap.size #[.int .i64 ses, .int .i64 want] 26 from (G6.out.block _ X5.out.lt (by simp; omega)).trans X5.out)
          have A6 := hide (show Bx W6 (w.heap.size + 1) #[.int .i64 0, .int .i64 0] 26 from (G6.out.block _ A5.out.lt (by simp; omega)).trans A5.out)
          have E6 := hide (show Bx W6 (w.heap.size + 1 + 1) #[.int .i64 0, .slice none 0 0, .slice none 0 0] 40 from (G6.out.block _ E5.out.lt (by simp; omega)).trans E5.out)
          have I6 := hide (IX.out.grownBy G6.out (fun _ p hp e => by cases hp; have h2 : v.heap.size = b := Option.some.inj e; omega))
          have K6 := hide (K5.out.grownBy G6.out (fun h p hp e => by have h1 := hsK h p hp; have h2 : v.heap.size = p.block := Option.some.inj e; omega))
          have B6 := hide (show Below w.heap.size w W6 by rw [hW6.out]; exact (set3_below B5.out (by omega) _ _ _).drew)
          unfold set3 at hW6
          obtain ⟨W7, hW7⟩ : ∃ W7 : World, Hid (W7 = W6.setCell ⟨w.heap.size, 1, none⟩ (.int .i64 (want + 1))) := ⟨_, rfl⟩
          have G7 := hide (show W6.grownBy W7 (some w.heap.size) by rw [hW7.out]; exact grow_set (grow_refl _ _) _ _)
          have X7 := hide (show Bx W7 w.heap.size #[.int .i64 ses, .int .i64 (want + 1)] 26 by rw [hW7.out]; exact X6.out.set 1 _)
          have A7 := hide (show Bx W7 (w.heap.size + 1) #[.int .i64 0, .int .i64 0] 26 from (G7.out.block _ A6.out.lt (by simp)).trans A6.out)
          have E7 := hide (show Bx W7 (w.heap.size + 1 + 1) #[.int .i64 0, .slice none 0 0, .slice none 0 0] 40 from (G7.out.block _ E6.out.lt (by simp; omega)).trans E6.out)
          have M7 := hide (show Bx W7 v.heap.size #[.int .i64 y2, (.slice (some ⟨b, off, none⟩) 0 0), .slice a2 nb c2] 40 from (G7.out.block _ M6.out.lt (by simp; omega)).trans M6.out)
          have I7 := hide (I6.out.grownBy G7.out (fun _ p hp e => by cases hp; have h2 : w.heap.size = b := Option.some.inj e; omega))
          have K7 := hide (K6.out.grownBy G7.out (fun h p hp e => by have h0 := P2.out h p hp; have h2 : w.heap.size = p.block := Option.some.inj e; omega))
          have B7 := hide (show Below w.heap.size w W7 by rw [hW7.out]; exact B6.out.setCell (p := ⟨w.heap.size, 1, none⟩) (Nat.le_refl _) _)
          rw [← hW6.out]
          obtain ⟨x0, x1⟩ := X6.out.pair
          have xz := X6.out.frozen
          go_wp2_with fail
          rw [← hW7.out]
          refine Met.intro (lro6 hs0 hs1 (by omega) (by omega) (by omega) B7 X7 A7 E7 M7 I7 K7 (hide (fun _ p hp => by cases hp; show w.heap.size + 3 ≤ b; omega)) P2 (hide ?_))
          intro w' vb ho hi hk hb
          exact ⟨.inl ⟨y2, nm, nb, bs, _, vb, by have h1 := HM.out; rw [HX.out] at h1; exact h1, hm, rfl, ⟨_, _, _, a2, c2, rfl, hi, hk, Nat.le_refl _, C2.out, fun _ p hp => by cases hp; show w.heap.size ≤ b; omega, fun h p hp => by have h1 := P2.out h p hp; omega⟩, ho⟩, hb⟩
      · have IX := hide I5.out.drop3
        go_upto_region 7 with fail
        go_region_held3 (fun w' => w'.cell? ⟨gf, 1, none⟩ = some (.slice (some ⟨b, off, none⟩) (m + 3) c1) ∧ w'.cell? ⟨gf, 2, none⟩ = some (.slice a2 nb c2) ∧ w'.cell? ⟨b, off + 2, none⟩ = some (.int .i64 y2))
          (first
            | with_reducible exact ⟨f1, f2, e2⟩
            | (simp only [cell_drew]; with_reducible exact ⟨f1, f2, e2⟩)
            | (simp only [cell_set_far hvm, cell_set_far hvb', cell_drew]; with_reducible exact ⟨f1, f2, e2⟩))
          (fail)
        all_goals go_upto_region 8 with fail
        all_goals
          clear f0 f1 f2 m0 m1 m2 mz e2
          obtain ⟨W6, hW6⟩ : ∃ W6 : World, Hid (W6 = (set3 W5 v.heap.size (.int .i64 y2) (.slice (some ⟨b, off + 3, none⟩) m (c1 - 3)) (.slice a2 nb c2)).drew) := ⟨_, rfl⟩
          have G6 := hide (show W5.grownBy W6 (some v.heap.size) by rw [hW6.out]; exact grow_drew (set3_grown (grow_refl _ _) _ _ _))
          have M6 := hide (show Bx W6 v.heap.size #[.int .i64 y2, (.slice (some ⟨b, off + 3, none⟩) m (c1 - 3)), .slice a2 nb c2] 40 by rw [hW6.out]; exact M5.out.three_set _ _ _)
          have X6 := hide (show Bx W6 w.heap.size #[.int .i64 ses, .int .i64 want] 26 from (G6.out.block _ X5.out.lt (by simp; omega)).trans X5.out)
          have A6 := hide (show Bx W6 (w.heap.size + 1) #[.int .i64 0, .int .i64 0] 26 from (G6.out.block _ A5.out.lt (by simp; omega)).trans A5.out)
          have E6 := hide (show Bx W6 (w.heap.size + 1 + 1) #[.int .i64 0, .slice none 0 0, .slice none 0 0] 40 from (G6.out.block _ E5.out.lt (by simp; omega)).trans E5.out)
          have I6 := hide (IX.out.grownBy G6.out (fun _ p hp e => by cases hp; have h2 : v.heap.size = b := Option.some.inj e; omega))
          have K6 := hide (K5.out.grownBy G6.out (fun h p hp e => by have h1 := hsK h p hp; have h2 : v.heap.size = p.block := Option.some.inj e; omega))
          have B6 := hide (show Below w.heap.size w W6 by rw [hW6.out]; exact (set3_below B5.out (by omega) _ _ _).drew)
          unfold set3 at hW6
          obtain ⟨W7, hW7⟩ : ∃ W7 : World, Hid (W7 = W6.setCell ⟨w.heap.size, 1, none⟩ (.int .i64 (want + 1))) := ⟨_, rfl⟩
          have G7 := hide (show W6.grownBy W7 (some w.heap.size) by rw [hW7.out]; exact grow_set (grow_refl _ _) _ _)
          have X7 := hide (show Bx W7 w.heap.size #[.int .i64 ses, .int .i64 (want + 1)] 26 by rw [hW7.out]; exact X6.out.set 1 _)
          have A7 := hide (show Bx W7 (w.heap.size + 1) #[.int .i64 0, .int .i64 0] 26 from (G7.out.block _ A6.out.lt (by simp)).trans A6.out)
          have E7 := hide (show Bx W7 (w.heap.size + 1 + 1) #[.int .i64 0, .slice none 0 0, .slice none 0 0] 40 from (G7.out.block _ E6.out.lt (by simp; omega)).trans E6.out)
          have M7 := hide (show Bx W7 v.heap.size #[.int .i64 y2, (.slice (some ⟨b, off + 3, none⟩) m (c1 - 3)), .slice a2 nb c2] 40 from (G7.out.block _ M6.out.lt (by simp; omega)).trans M6.out)
          have I7 := hide (I6.out.grownBy G7.out (fun _ p hp e => by cases hp; have h2 : w.heap.size = b := Option.some.inj e; omega))
          have K7 := hide (K6.out.grownBy G7.out (fun h p hp e => by have h0 := P2.out h p hp; have h2 : w.heap.size = p.block := Option.some.inj e; omega))
          have B7 := hide (show Below w.heap.size w W7 by rw [hW7.out]; exact B6.out.setCell (p := ⟨w.heap.size, 1, none⟩) (Nat.le_refl _) _)
          rw [← hW6.out]
          obtain ⟨x0, x1⟩ := X6.out.pair
          have xz := X6.out.frozen
          go_wp2_with fail
          rw [← hW7.out]
          refine Met.intro (lro6 hs0 hs1 (by omega) (by omega) (by omega) B7 X7 A7 E7 M7 I7 K7 (hide (fun _ p hp => by cases hp; show w.heap.size + 3 ≤ b; omega)) P2 (hide ?_))
          intro w' vb ho hi hk hb
          exact ⟨.inl ⟨y2, nm, nb, bs, _, vb, by have h1 := HM.out; rw [HX.out] at h1; exact h1, hm, rfl, ⟨_, _, _, a2, c2, rfl, hi, hk, by omega, C2.out, fun _ p hp => by cases hp; show w.heap.size ≤ b; omega, fun h p hp => by have h1 := P2.out h p hp; omega⟩, ho⟩, hb⟩
    · have dm : decide (want < 2147483647) = false := by simpa using hm
      have HNW := hide (show ¬ (y1 = want ∧ want < 2147483647) from fun h => hm h.2)
      go_quiet (fail)
      obtain ⟨W5, hW5⟩ : ∃ W5 : World, Hid (W5 = W4.drewN nq) := ⟨_, rfl⟩
      have D5 := hide (show Below W4.heap.size W4 W5 by rw [hW5.out]; exact below_drewN (Below.refl _ _) nq)
      have X5 := hide (X4.out.later D5.out X4.out.lt)
      have A5 := hide (A4.out.later D5.out A4.out.lt)
      have E5 := hide (E4.out.later D5.out E4.out.lt)
      have M5 := hide (M4.out.later D5.out M4.out.lt)
      have F5 := hide (F4.out.later D5.out F4.out.lt)
      have I5 := hide (I4.out.later D5.out)
      have K5 := hide (K4.out.later D5.out)
      have B5 := hide (B4.out.trans (D5.out.mono B4.out.size))
      have hs5 := D5.out.size
      rw [← hW5.out]
      clear x0 x1 f0 f1 f2 e0 e1 e2
      go_wp2_with fail
      refine Met.intro (tailG_step rfl ?_)
      try clear hK K
      intro K hK
      go_wp2_with fail
      refine Met.intro (lro6 hs0 hs1 hw0 hw1 (by omega) B5 X5 A5 E5 M5 (nm := []) (bs := []) (hide ⟨rfl, by rw [maxLen_val]; omega, fun h => absurd h (by omega)⟩) (hide ⟨rfl, by rw [maxLen_val]; omega, fun _ h => (by cases h), fun h => absurd h (by omega)⟩) (hide (fun h => absurd h (by omega))) (hide (fun h => absurd h (by omega))) (hide ?_))
      intro w' vb ho _ _ hb
      exact ⟨.inr (.inl ⟨y1, y2, nm, nb, bs, vb, HM.out, HNW.out, rfl, ho⟩), hb⟩
  · have dx : (y1 == want) = false := by simpa using hx
    have HNW := hide (show ¬ (y1 = want ∧ want < 2147483647) from fun h => hx h.1)
    clear hx
    go_quiet (fail)
    obtain ⟨W5, hW5⟩ : ∃ W5 : World, Hid (W5 = W4.drewN nq) := ⟨_, rfl⟩
    have D5 := hide (show Below W4.heap.size W4 W5 by rw [hW5.out]; exact below_drewN (Below.refl _ _) nq)
    have X5 := hide (X4.out.later D5.out X4.out.lt)
    have A5 := hide (A4.out.later D5.out A4.out.lt)
    have E5 := hide (E4.out.later D5.out E4.out.lt)
    have M5 := hide (M4.out.later D5.out M4.out.lt)
    have F5 := hide (F4.out.later D5.out F4.out.lt)
    have I5 := hide (I4.out.later D5.out)
    have K5 := hide (K4.out.later D5.out)
    have B5 := hide (B4.out.trans (D5.out.mono B4.out.size))
    have hs5 := D5.out.size
    rw [← hW5.out]
    clear x0 x1 f0 f1 f2 e0 e1 e2
    go_wp2_with fail
    refine Met.intro (tailG_step rfl ?_)
    try clear hK K
    intro K hK
    go_wp2_with fail
    refine Met.intro (lro6 hs0 hs1 hw0 hw1 (by omega) B5 X5 A5 E5 M5 (nm := []) (bs := []) (hide ⟨rfl, by rw [maxLen_val]; omega, fun h => absurd h (by omega)⟩) (hide ⟨rfl, by rw [maxLen_val]; omega, fun _ h => (by cases h), fun h => absurd h (by omega)⟩) (hide (fun h => absurd h (by omega))) (hide (fun h => absurd h (by omega))) (hide ?_))
    intro w' vb ho _ _ hb
    exact ⟨.inr (.inl ⟨y1, y2, nm, nb, bs, vb, HM.out, HNW.out, rfl, ho⟩), hb⟩

set_option maxHeartbeats 16000000 in
set_option maxRecDepth 100000 in
theorem lreceivedOf_any (ses want : Int) (a : Option Addr) (len cap : Nat) (l : List Int) (w : World) (hl : Bytes w a len l) (hlen : len ≤ 2000) (hs0 : 0 ≤ ses) (hs1 : ses ≤ 2147483647) (hw0 : 0 ≤ want) (hw1 : want ≤ 2147483647) :
    Calls Try.prog 13 #[.agg #[.int .i64 ses, .int .i64 want], .slice a len cap] w fun e w' => RcvO w w' l ses want e := by
  have HL := hide hl
  clear hl
  obtain ⟨W0, hW0⟩ : ∃ W0 : World, Hid (W0 = ((w.alloc (.cells #[.int .i64 ses, .int .i64 want] 26)).alloc (.cells #[.int .i64 0, .int .i64 0] 26)).alloc (.cells #[.int .i64 0, .slice none 0 0, .slice none 0 0] 40)) := ⟨_, rfl⟩
  have X0 := hide (show Bx W0 w.heap.size #[.int .i64 ses, .int .i64 want] 26 by rw [hW0.out]; exact ((Bx.new w _ _).alloc _).alloc _)
  have N0 := hide (show Bx W0 (w.heap.size + 1) #[.int .i64 0, .int .i64 0] 26 by
    rw [hW0.out]
    have h := (Bx.new (w.alloc (.cells #[.int .i64 ses, .int .i64 want] 26)) #[.int .i64 0, .int .i64 0] 26).alloc (.cells #[.int .i64 0, .slice none 0 0, .slice none 0 0] 40)
    rw [World.size_alloc] at h
    exact h)
  have M0 := hide (show Bx W0 (w.heap.size + 1 + 1) #[.int .i64 0, .slice none 0 0, .slice none 0 0] 40 by
    rw [hW0.out]
    have h := Bx.new ((w.alloc (.cells #[.int .i64 ses, .int .i64 want] 26)).alloc (.cells #[.int .i64 0, .int .i64 0] 26)) #[.int .i64 0, .slice none 0 0, .slice none 0 0] 40
    rw [World.size_alloc, World.size_alloc] at h
    exact h)
  have S0 := hide (show W0.heap.size = w.heap.size + 3 by rw [hW0.out]; simp)
  have D0 := hide (show Below w.heap.size w W0 by rw [hW0.out]; exact ((below_alloc _ _).alloc (by simp) _).alloc (by simp; omega) _)
  go_enter Try.func13, Try.ntmps13
  change TailG Try.f13 _ 0 _ w
  refine tailG_step rfl ?_
  intro K hK
  go_wp2_with fail
  rw [← hW0.out]
  refine Met.intro (tailG_step rfl ?_)
  try clear hK K
  intro K hK
  go_wp2_with fail
  refine (unpacked_own a len cap l W0 (HL.out.later D0.out) hlen).mono ?_
  rintro e w1 (⟨kd, nums, nb, bs, a1, c1, a2, c2, rfl, hF, hI, hK2, hA1, hA2, hC1, hC2, hB⟩ | ⟨rfl, hno, hB⟩)
  · have HF := hide hF
    have HU := hide (show ∀ y kd' nm' nb' bs', Mx.Msg l ses y kd' nm' nb' bs' → kd = 1 ∧ nums = ses :: y :: kd' :: nm' from fun y kd' nm' nb' bs' hy => by
      obtain ⟨h1, h2, _⟩ := Mx.IsFrame.one HF.out hy.1
      exact ⟨h1, h2⟩)
    obtain ⟨n1, hn1⟩ : ∃ n1 : Nat, Hid (n1 = nums.length) := ⟨_, rfl⟩
    rw [← hn1.out] at hI hC1 ⊢
    have hnb : nb ≤ maxLen := hK2.2.1
    have hnl : n1 ≤ maxLen := hI.2.1
    rw [maxLen_val] at hnb hnl
    obtain ⟨W2, hW2⟩ : ∃ W2 : World, Hid (W2 = w1.alloc (.cells #[.int .i64 kd, .slice a1 n1 c1, .slice a2 nb c2] 40)) := ⟨_, rfl⟩
    have D2 := hide (show Below w1.heap.size w1 W2 by rw [hW2.out]; exact below_alloc _ _)
    have F2 := hide (show Bx W2 w1.heap.size #[.int .i64 kd, .slice a1 n1 c1, .slice a2 nb c2] 40 by rw [hW2.out]; exact Bx.new w1 _ _)
    have X2 := hide ((X0.out.later hB X0.out.lt).later D2.out (X0.out.later hB X0.out.lt).lt)
    have N2 := hide ((N0.out.later hB N0.out.lt).later D2.out (N0.out.later hB N0.out.lt).lt)
    have M2 := hide ((M0.out.later hB M0.out.lt).later D2.out (M0.out.later hB M0.out.lt).lt)
    have hB2 := D0.out.trans (hB.mono D0.out.size)
    have B2 := hide (hB2.trans (D2.out.mono hB2.size))
    have HI := hide (hI.later D2.out)
    have HK := hide (hK2.later D2.out)
    have HA1 := hide hA1
    have HA2 := hide hA2
    have HC1 := hide hC1
    have HC2 := hide hC2
    have hs01' := hB.size
    have hs01 : W0.heap.size ≤ w1.heap.size := hs01'
    clear hF hI hK2 hA1 hA2 hC1 hC2 hB hB2 hs01'
    go_wp2_with fail
    rw [← hW2.out]
    refine Met.intro (tailG_step rfl ?_)
    try clear hK K
    intro K hK
    by_cases h1 : kd = 1
    · subst h1
      by_cases h2 : (n1 : Int) < 3
      · have d2 : decide ((n1 : Int) < 3) = true := by simpa using h2
        have d2n : decide (n1 < 3) = true := by simpa using (show n1 < 3 by omega)
        have HNM := hide (show ∀ y kd nm nb bs, ¬ Mx.Msg l ses y kd nm nb bs from fun y kd' nm' nb' bs' hy => by
          have h3 := (HU.out y kd' nm' nb' bs' hy).2
          have h4 := hn1.out
          rw [h3] at h4
          simp at h4
          omega)
        obtain ⟨x0, x1⟩ := X2.out.pair
        obtain ⟨f0, f1, f2⟩ := F2.out.three
        go_upto_region 2 with fail
        go_quiet (fail)
        have XX := hide (X2.out.drewN nq)
        have NX := hide (N2.out.drewN nq)
        have MX := hide (M2.out.drewN nq)
        have BX := hide (below_drewN B2.out nq)
        obtain ⟨W3, hW3⟩ : ∃ W3 : World, Hid (W3 = W2.drewN nq) := ⟨_, rfl⟩
        rw [← hW3.out] at XX NX MX BX ⊢
        clear x0 x1 f0 f1 f2
        obtain ⟨x0, x1⟩ := XX.out.pair
        obtain ⟨n0_, n1_⟩ := NX.out.pair
        have nz := NX.out.frozen
        obtain ⟨m0, m1, m2⟩ := MX.out.three
        have mz := MX.out.frozen
        go_wp2_with fail
        have NF := hide ((NX.out.two_set (.int .i64 ses) (.int .i64 want)).far3 (g := w.heap.size + 1 + 1) (by omega) (.int .i64 0) (.slice none 0 0) (.slice none 0 0))
        have MF := hide (show Bx (set2 W3 (w.heap.size + 1) (.int .i64 ses) (.int .i64 want)) (w.heap.size + 1 + 1) #[.int .i64 0, .slice none 0 0, .slice none 0 0] 40 from (MX.out.other _ _ (by simp)).other _ _ (by simp))
        obtain ⟨t0, t1⟩ := NF.out.pair
        obtain ⟨r0, r1, r2⟩ := (MF.out.three_set (.int .i64 0) (.slice none 0 0) (.slice none 0 0)).three
        unfold set3 at t0 t1
        unfold set2 at r0 r1 r2
        exact bodyPost_ret (v := .tuple #[.agg #[.int .i64 ses, .int .i64 want], .agg #[.int .i64 0, .slice none 0 0, .slice none 0 0], .bool false, .slice none 0 0]) (by simp [results, Try.results13, go_sem, t0, t1, r0, r1, r2]) rfl ⟨.inr (.inr ⟨HNM.out, rfl⟩), set3_below (set2_below BX.out (by omega) _ _) (by omega) _ _ _⟩
      · have d2 : decide ((n1 : Int) < 3) = false := by simpa using h2
        have d2n : decide (n1 < 3) = false := by simpa using (show ¬ n1 < 3 by omega)
        obtain ⟨y0, y1, y2, nm, hnums⟩ : ∃ y0 y1 y2 nm, nums = y0 :: y1 :: y2 :: nm := by
          match nums, hn1.out with
          | [], h => simp at h; omega
          | [_], h => simp at h; omega
          | [_, _], h => simp at h; omega
          | y0 :: y1 :: y2 :: nm, _ => exact ⟨y0, y1, y2, nm, rfl⟩
        subst hnums
        obtain ⟨m, hm⟩ : ∃ m : Nat, n1 = m + 3 := ⟨n1 - 3, by omega⟩
        subst hm
        obtain ⟨b, off, z0, hab, hblt, hx0, e0⟩ := HI.out.at_ 0 (by omega)
        obtain ⟨b', off', z1, hab', _, hx1, e1⟩ := HI.out.at_ 1 (by omega)
        obtain ⟨b'', off'', z2, hab'', _, hx2, e2⟩ := HI.out.at_ 2 (by omega)
        rw [hab] at hab' hab''
        cases hab'
        cases hab''
        subst hab
        have hx0' : y0 = z0 := hx0
        have hx1' : y1 = z1 := hx1
        have hx2' : y2 = z2 := hx2
        subst hx0' hx1' hx2'
        rw [Nat.add_zero] at e0
        clear hx0 hx1 hx2
        have hbA : W0.heap.size ≤ b := HA1.out _ rfl
        have hi2 : (2 : Int) < (m : Int) + 3 := by omega
        have hi1 : (1 : Int) < (m : Int) + 3 := by omega
        have hi0 : (0 : Int) < (m : Int) + 3 := by omega
        have hi3 : (3 : Int) ≤ (m : Int) + 3 := by omega
        by_cases h3 : y0 = ses
        · subst h3
          have d3 : (y0 != y0) = false := by simp
          by_cases h15 : y2 ≤ 15
          · have d15 : decide (15 < y2) = false := by simpa using h15
            have HMSG := hide (show Mx.Msg l y0 y1 y2 nm nb bs from ⟨HF.out, h15⟩)
            clear h15
            obtain ⟨x0, x1⟩ := X2.out.pair
            obtain ⟨f0, f1, f2⟩ := F2.out.three
            go_upto_region 2 with fail
            go_quiet (fail)
            obtain ⟨W3, hW3⟩ : ∃ W3 : World, Hid (W3 = W2.drewN nq) := ⟨_, rfl⟩
            have D3 := hide (show Below W2.heap.size W2 W3 by rw [hW3.out]; exact below_drewN (Below.refl _ _) nq)
            rw [← hW3.out]
            clear x0 x1 f0 f1 f2 e0 e1 e2
            have d2m : decide ((m : Int) + 3 < 3) = false := by simp; omega
            have P2 := hide (show 0 < nb → ∀ p, a2 = some p → w.heap.size + 3 ≤ p.block from fun _ p hp => by have h1 := HA2.out p hp; have h2 := S0.out; omega)
            have hs3 := S0.out
            go_wp2_with fail
            exact Met.intro (lro3 hs0 hs1 hw0 hw1 (by omega) (by omega) HC1.out (hide (B2.out.trans (D3.out.mono B2.out.size))) (hide (X2.out.later D3.out X2.out.lt)) (hide (N2.out.later D3.out N2.out.lt)) (hide (M2.out.later D3.out M2.out.lt)) (hide (F2.out.later D3.out F2.out.lt)) (hide (HI.out.later D3.out)) (hide (HK.out.later D3.out)) P2 HC2 HMSG)
          · have d15 : decide (15 < y2) = true := by simpa using (show 15 < y2 by omega)
            have HNM := hide (show ∀ y kd nm nb bs, ¬ Mx.Msg l y0 y kd nm nb bs from fun y kd' nm' nb' bs' hy => by
              have h4 := (HU.out y kd' nm' nb' bs' hy).2
              simp at h4
              have h5 := hy.2
              omega)
            obtain ⟨x0, x1⟩ := X2.out.pair
            obtain ⟨f0, f1, f2⟩ := F2.out.three
            go_upto_region 2 with fail
            go_quiet (fail)
            have XX := hide (X2.out.drewN nq)
            have NX := hide (N2.out.drewN nq)
            have MX := hide (M2.out.drewN nq)
            have BX := hide (below_drewN B2.out nq)
            obtain ⟨W3, hW3⟩ : ∃ W3 : World, Hid (W3 = W2.drewN nq) := ⟨_, rfl⟩
            rw [← hW3.out] at XX NX MX BX ⊢
            clear x0 x1 f0 f1 f2
            obtain ⟨x0, x1⟩ := XX.out.pair
            obtain ⟨n0_, n1_⟩ := NX.out.pair
            have nz := NX.out.frozen
            obtain ⟨m0, m1, m2⟩ := MX.out.three
            have mz := MX.out.frozen
            go_wp2_with fail
            have NF := hide ((NX.out.two_set (.int .i64 y0) (.int .i64 want)).far3 (g := w.heap.size + 1 + 1) (by omega) (.int .i64 0) (.slice none 0 0) (.slice none 0 0))
            have MF := hide (show Bx (set2 W3 (w.heap.size + 1) (.int .i64 y0) (.int .i64 want)) (w.heap.size + 1 + 1) #[.int .i64 0, .slice none 0 0, .slice none 0 0] 40 from (MX.out.other _ _ (by simp)).other _ _ (by simp))
            obtain ⟨t0, t1⟩ := NF.out.pair
            obtain ⟨r0, r1, r2⟩ := (MF.out.three_set (.int .i64 0) (.slice none 0 0) (.slice none 0 0)).three
            unfold set3 at t0 t1
            unfold set2 at r0 r1 r2
            exact bodyPost_ret (v := .tuple #[.agg #[.int .i64 y0, .int .i64 want], .agg #[.int .i64 0, .slice none 0 0, .slice none 0 0], .bool false, .slice none 0 0]) (by simp [results, Try.results13, go_sem, t0, t1, r0, r1, r2]) rfl ⟨.inr (.inr ⟨HNM.out, rfl⟩), set3_below (set2_below BX.out (by omega) _ _) (by omega) _ _ _⟩
        · have d3 : (y0 != ses) = true := by simpa using h3
          have HNM := hide (show ∀ y kd nm nb bs, ¬ Mx.Msg l ses y kd nm nb bs from fun y kd' nm' nb' bs' hy => by
            have h4 := (HU.out y kd' nm' nb' bs' hy).2
            simp at h4
            exact h3 h4.1)
          obtain ⟨x0, x1⟩ := X2.out.pair
          obtain ⟨f0, f1, f2⟩ := F2.out.three
          go_upto_region 2 with fail
          go_quiet (fail)
          have XX := hide (X2.out.drewN nq)
          have NX := hide (N2.out.drewN nq)
          have MX := hide (M2.out.drewN nq)
          have BX := hide (below_drewN B2.out nq)
          obtain ⟨W3, hW3⟩ : ∃ W3 : World, Hid (W3 = W2.drewN nq) := ⟨_, rfl⟩
          rw [← hW3.out] at XX NX MX BX ⊢
          clear x0 x1 f0 f1 f2
          obtain ⟨x0, x1⟩ := XX.out.pair
          obtain ⟨n0_, n1_⟩ := NX.out.pair
          have nz := NX.out.frozen
          obtain ⟨m0, m1, m2⟩ := MX.out.three
          have mz := MX.out.frozen
          go_wp2_with fail
          have NF := hide ((NX.out.two_set (.int .i64 ses) (.int .i64 want)).far3 (g := w.heap.size + 1 + 1) (by omega) (.int .i64 0) (.slice none 0 0) (.slice none 0 0))
          have MF := hide (show Bx (set2 W3 (w.heap.size + 1) (.int .i64 ses) (.int .i64 want)) (w.heap.size + 1 + 1) #[.int .i64 0, .slice none 0 0, .slice none 0 0] 40 from (MX.out.other _ _ (by simp)).other _ _ (by simp))
          obtain ⟨t0, t1⟩ := NF.out.pair
          obtain ⟨r0, r1, r2⟩ := (MF.out.three_set (.int .i64 0) (.slice none 0 0) (.slice none 0 0)).three
          unfold set3 at t0 t1
          unfold set2 at r0 r1 r2
          exact bodyPost_ret (v := .tuple #[.agg #[.int .i64 ses, .int .i64 want], .agg #[.int .i64 0, .slice none 0 0, .slice none 0 0], .bool false, .slice none 0 0]) (by simp [results, Try.results13, go_sem, t0, t1, r0, r1, r2]) rfl ⟨.inr (.inr ⟨HNM.out, rfl⟩), set3_below (set2_below BX.out (by omega) _ _) (by omega) _ _ _⟩
    · have d1 : (kd != 1) = true := by simpa using h1
      have HNM := hide (show ∀ y kd nm nb bs, ¬ Mx.Msg l ses y kd nm nb bs from fun y kd' nm' nb' bs' hy => h1 (HU.out y kd' nm' nb' bs' hy).1)
      obtain ⟨x0, x1⟩ := X2.out.pair
      obtain ⟨f0, f1, f2⟩ := F2.out.three
      go_upto_region 2 with fail
      go_quiet (fail)
      have XX := hide (X2.out.drewN nq)
      have NX := hide (N2.out.drewN nq)
      have MX := hide (M2.out.drewN nq)
      have BX := hide (below_drewN B2.out nq)
      obtain ⟨W3, hW3⟩ : ∃ W3 : World, Hid (W3 = W2.drewN nq) := ⟨_, rfl⟩
      rw [← hW3.out] at XX NX MX BX ⊢
      clear x0 x1 f0 f1 f2
      obtain ⟨x0, x1⟩ := XX.out.pair
      obtain ⟨n0_, n1_⟩ := NX.out.pair
      have nz := NX.out.frozen
      obtain ⟨m0, m1, m2⟩ := MX.out.three
      have mz := MX.out.frozen
      go_wp2_with fail
      have NF := hide ((NX.out.two_set (.int .i64 ses) (.int .i64 want)).far3 (g := w.heap.size + 1 + 1) (by omega) (.int .i64 0) (.slice none 0 0) (.slice none 0 0))
      have MF := hide (show Bx (set2 W3 (w.heap.size + 1) (.int .i64 ses) (.int .i64 want)) (w.heap.size + 1 + 1) #[.int .i64 0, .slice none 0 0, .slice none 0 0] 40 from (MX.out.other _ _ (by simp)).other _ _ (by simp))
      obtain ⟨t0, t1⟩ := NF.out.pair
      obtain ⟨r0, r1, r2⟩ := (MF.out.three_set (.int .i64 0) (.slice none 0 0) (.slice none 0 0)).three
      unfold set3 at t0 t1
      unfold set2 at r0 r1 r2
      exact bodyPost_ret (v := .tuple #[.agg #[.int .i64 ses, .int .i64 want], .agg #[.int .i64 0, .slice none 0 0, .slice none 0 0], .bool false, .slice none 0 0]) (by simp [results, Try.results13, go_sem, t0, t1, r0, r1, r2]) rfl ⟨.inr (.inr ⟨HNM.out, rfl⟩), set3_below (set2_below BX.out (by omega) _ _) (by omega) _ _ _⟩
  · have HNM := hide (show ∀ y kd nm nb bs, ¬ Mx.Msg l ses y kd nm nb bs from fun y kd' nm' nb' bs' hy => hno _ _ _ _ hy.1)
    obtain ⟨W2, hW2⟩ : ∃ W2 : World, Hid (W2 = w1.alloc (.cells #[.int .i64 0, .slice none 0 0, .slice none 0 0] 40)) := ⟨_, rfl⟩
    have D2 := hide (show Below w1.heap.size w1 W2 by rw [hW2.out]; exact below_alloc _ _)
    have F2 := hide (show Bx W2 w1.heap.size #[.int .i64 0, .slice none 0 0, .slice none 0 0] 40 by rw [hW2.out]; exact Bx.new w1 _ _)
    have X2 := hide ((X0.out.later hB X0.out.lt).later D2.out (X0.out.later hB X0.out.lt).lt)
    have N2 := hide ((N0.out.later hB N0.out.lt).later D2.out (N0.out.later hB N0.out.lt).lt)
    have M2 := hide ((M0.out.later hB M0.out.lt).later D2.out (M0.out.later hB M0.out.lt).lt)
    have hB2 := D0.out.trans (hB.mono D0.out.size)
    have B2 := hide (hB2.trans (D2.out.mono hB2.size))
    clear hno hB hB2
    go_wp2_with fail
    rw [← hW2.out]
    refine Met.intro (tailG_step rfl ?_)
    try clear hK K
    intro K hK
    obtain ⟨x0, x1⟩ := X2.out.pair
    obtain ⟨f0, f1, f2⟩ := F2.out.three
    go_upto_region 2 with fail
    go_quiet (fail)
    have XX := hide (X2.out.drewN nq)
    have NX := hide (N2.out.drewN nq)
    have MX := hide (M2.out.drewN nq)
    have BX := hide (below_drewN B2.out nq)
    obtain ⟨W3, hW3⟩ : ∃ W3 : World, Hid (W3 = W2.drewN nq) := ⟨_, rfl⟩
    rw [← hW3.out] at XX NX MX BX ⊢
    clear x0 x1 f0 f1 f2
    obtain ⟨x0, x1⟩ := XX.out.pair
    obtain ⟨n0_, n1_⟩ := NX.out.pair
    have nz := NX.out.frozen
    obtain ⟨m0, m1, m2⟩ := MX.out.three
    have mz := MX.out.frozen
    go_wp2_with fail
    have NF := hide ((NX.out.two_set (.int .i64 ses) (.int .i64 want)).far3 (g := w.heap.size + 1 + 1) (by omega) (.int .i64 0) (.slice none 0 0) (.slice none 0 0))
    have MF := hide (show Bx (set2 W3 (w.heap.size + 1) (.int .i64 ses) (.int .i64 want)) (w.heap.size + 1 + 1) #[.int .i64 0, .slice none 0 0, .slice none 0 0] 40 from (MX.out.other _ _ (by simp)).other _ _ (by simp))
    obtain ⟨t0, t1⟩ := NF.out.pair
    obtain ⟨r0, r1, r2⟩ := (MF.out.three_set (.int .i64 0) (.slice none 0 0) (.slice none 0 0)).three
    unfold set3 at t0 t1
    unfold set2 at r0 r1 r2
    exact bodyPost_ret (v := .tuple #[.agg #[.int .i64 ses, .int .i64 want], .agg #[.int .i64 0, .slice none 0 0, .slice none 0 0], .bool false, .slice none 0 0]) (by simp [results, Try.results13, go_sem, t0, t1, r0, r1, r2]) rfl ⟨.inr (.inr ⟨HNM.out, rfl⟩), set3_below (set2_below BX.out (by omega) _ _) (by omega) _ _ _⟩

end Go.Proofs.Ytfgonmgmoeoedaa

/-
  The law LinkHears: what is heard and received.
-/
namespace Go.Proofs.Ytfgonmgmoeoedaa
open Go.RowKit

theorem Try.fieldsRv : (Try.prog.fieldsOf 26).toList.map (fun f => (f.name, f.type, f.offset)) = [("Session", 3, 0), ("Want", 3, 1)] := by kernel_rfl

theorem Try.underRv : Try.prog.underlying 26 = some (.struct (Try.prog.fieldsOf 26)) := by kernel_rfl

theorem Try.stoodRv : Try.prog.stoodInHeld 26 = false := by kernel_rfl

theorem partR_0 (W : World) (x y : Int) : (part 3 #[.int .i64 x, .int .i64 y] 0).run Try.prog W = .ok (.int .i64 x) W := by
  simp [part, isAgg, run_underlying Try.underlying3]

theorem partR_1 (W : World) (x y : Int) : (part 3 #[.int .i64 x, .int .i64 y] 1).run Try.prog W = .ok (.int .i64 y) W := by
  simp [part, isAgg, run_underlying Try.underlying3]

theorem equal_rv (x y : Int) (W : World) : (Op.equalIn 10000 26 (.agg #[.int .i64 x, .int .i64 y]) (.agg #[.int .i64 x, .int .i64 y])).run Try.prog W = .ok true W := by
  rw [run_equalIn_struct W 9999 26 _ _ Try.underRv Try.stoodRv]
  have hf := Try.fieldsRv
  obtain ⟨f0, f1, hfs, g0, g1⟩ := two_of_map hf
  simp only [Prod.mk.injEq] at g0 g1
  obtain ⟨n0, t0, o0⟩ := g0
  obtain ⟨n1, t1, o1⟩ := g1
  rw [hfs]
  clear hf hfs
  simp only [Op.eqFields, n0, t0, o0, n1, t1, o1, Sem.run_bind, Sem.run_ite, partR_0, partR_1, Result.andThen_ok, run_equalIn_int W 9998 3 .i64 .i64 _ _ Try.underlying3]
  simp

/-- bytes that are answered -/
def Ans (w : World) (v : Value) (l : List Int) : Prop := ∃ a n c, v = .slice a n c ∧ Bytes w a n l ∧ n ≤ c

theorem Ans.later {w w' : World} {v : Value} {l : List Int} (h : Ans w v l) (hb : Below w.heap.size w w') : Ans w' v l := by
  obtain ⟨a, n, c, h1, h2, h3⟩ := h
  exact ⟨a, n, c, h1, h2.later hb, h3⟩

theorem own_ans {w : World} {base : Nat} {v : Value} {l : List Int} (h : Own w base v l) (hb : ∀ x ∈ l, 0 ≤ x ∧ x ≤ 255) : Ans w v l := by
  obtain ⟨a, c, hv, hc, _⟩ := Own.br h
  rcases h.2 with ⟨hv0, hz⟩ | ⟨g, cap, cur, hv1, _⟩
  · have hl : l = [] := by
      cases l with
      | nil => rfl
      | cons x l => simp at hz
    subst hl
    exact ⟨none, 0, 0, hv0, bytes_nil w, Nat.le_refl _⟩
  · subst hv1
    simp only [Value.slice.injEq] at hv
    obtain ⟨_, hn, hcc⟩ := hv
    exact ⟨_, _, _, rfl, own_bytes h hb, by omega⟩

namespace Mx
def zeroF : Fr := ⟨0, [], 0, []⟩
/-- what is received: the next number that is wanted, the message, did it come, what is said of it -/
def Rv (l : List Int) (ses want nx : Int) (f : Fr) (is : Bool) (lb : List Int) : Prop :=
  (Msg l ses want f.kind f.nums f.nb f.bs ∧ want < 2147483647 ∧ nx = want + 1 ∧ is = true ∧ lb = packB 0 [ses, want + 1] 0 []) ∨
  (∃ x kd nm nb bs, Msg l ses x kd nm nb bs ∧ ¬ (x = want ∧ want < 2147483647) ∧ nx = want ∧ f = zeroF ∧ is = false ∧ lb = packB 0 [ses, want] 0 []) ∨
  ((∀ x kd nm nb bs, ¬ Msg l ses x kd nm nb bs) ∧ nx = want ∧ f = zeroF ∧ is = false ∧ lb = [])
theorem msg_one {l : List Int} {ses x y kd kd' : Int} {nm nm' : List Int} {nb nb' : Nat} {bs bs' : List Int} (h : Msg l ses x kd nm nb bs) (h' : Msg l ses y kd' nm' nb' bs') : x = y ∧ kd = kd' ∧ nm = nm' ∧ nb = nb' ∧ bs = bs' := by
  obtain ⟨_, h2, h3, h4⟩ := IsFrame.one h.1 h'.1
  simp at h2
  exact ⟨h2.1, h2.2.1, h2.2.2, h3, h4⟩
theorem rv_one {l : List Int} {ses want nx nx' : Int} {f f' : Fr} {is is' : Bool} {lb lb' : List Int} (h : Rv l ses want nx f is lb) (h' : Rv l ses want nx' f' is' lb') : nx = nx' ∧ f = f' ∧ is = is' ∧ lb = lb' := by
  rcases h with ⟨h1, h2, rfl, rfl, rfl⟩ | ⟨x, kd, nm, nb, bs, h1, h2, rfl, rfl, rfl, rfl⟩ | ⟨h1, rfl, rfl, rfl, rfl⟩
  · rcases h' with ⟨k1, k2, rfl, rfl, rfl⟩ | ⟨x, kd, nm, nb, bs, k1, k2, rfl, rfl, rfl, rfl⟩ | ⟨k1, rfl, rfl, rfl, rfl⟩
    · obtain ⟨_, e1, e2, e3, e4⟩ := msg_one h1 k1
      cases f
      cases f'
      simp at e1 e2 e3 e4
      subst e1 e2 e3 e4
      exact ⟨rfl, rfl, rfl, rfl⟩
    · obtain ⟨e, _⟩ := msg_one h1 k1
      exact absurd ⟨e.symm, h2⟩ k2
    · exact absurd h1 (k1 _ _ _ _ _)
  · rcases h' with ⟨k1, k2, rfl, rfl, rfl⟩ | ⟨x', kd', nm', nb', bs', k1, k2, rfl, rfl, rfl, rfl⟩ | ⟨k1, rfl, rfl, rfl, rfl⟩
    · obtain ⟨e, _⟩ := msg_one h1 k1
      exact absurd ⟨e, k2⟩ h2
    · exact ⟨rfl, rfl, rfl, rfl⟩
    · exact absurd h1 (k1 _ _ _ _ _)
  · rcases h' with ⟨k1, k2, rfl, rfl, rfl⟩ | ⟨x', kd', nm', nb', bs', k1, k2, rfl, rfl, rfl, rfl⟩ | ⟨k1, rfl, rfl, rfl, rfl⟩
    · exact absurd k1 (h1 _ _ _ _ _)
    · exact absurd k1 (h1 _ _ _ _ _)
    · exact ⟨rfl, rfl, rfl, rfl⟩
end Mx

theorem FrA.zero (B : Nat) (w : World) : FrA B w (.agg #[.int .i64 0, .slice none 0 0, .slice none 0 0]) Mx.zeroF :=
  ⟨none, 0, 0, none, 0, rfl, ⟨rfl, by rw [maxLen_val]; omega, fun h => absurd h (by omega)⟩, ⟨rfl, by rw [maxLen_val]; show 0 ≤ _; omega, fun _ h => (by cases h), fun h => absurd h (by show ¬ 0 < 0; omega)⟩, Nat.le_refl _, Nat.le_refl _, fun h => absurd h (by omega), fun h => absurd h (by show ¬ 0 < 0; omega)⟩

theorem ack_byte {x y : Int} (hx0 : 0 ≤ x) (hx1 : x ≤ 2147483647) (hy0 : 0 ≤ y) (hy1 : y ≤ 2147483647) : ∀ z ∈ Mx.packB 0 [x, y] 0 [], 0 ≤ z ∧ z ≤ 255 :=
  packB_byte (w := default) (a2 := none) ⟨rfl, by rw [maxLen_val]; omega, fun _ h => (by cases h), fun h => absurd h (by omega)⟩ (Mx.may_two hx0 hx1 hy0 hy1)

theorem lreceive_rv (ses want : Int) (a : Option Addr) (len cap : Nat) (l : List Int) (w : World) (hl : Bytes w a len l) (hlen : len ≤ 2000) (hcap : len ≤ cap) (hs0 : 0 ≤ ses) (hs1 : ses ≤ 2147483647) (hw0 : 0 ≤ want) (hw1 : want ≤ 2147483647) :
    Calls Try.prog 11 #[.agg #[.int .i64 ses, .int .i64 want], .slice a len cap] w fun e w' => ∃ nx f is lb v vb, e = .returned (.tuple #[.agg #[.int .i64 ses, .int .i64 nx], v, .bool is, vb, .nilIface]) ∧ Hid (Mx.Rv l ses want nx f is lb) ∧ Hid (FrA w.heap.size w' v f) ∧ Hid (Ans w' vb lb) ∧ Hid (Below w.heap.size w w') := by
  refine (lreceive_any ses want a len cap l w hl hlen hcap hs0 hs1 hw0 hw1).mono fun e w' h => ?_
  obtain ⟨h, hb⟩ := h
  rcases h with ⟨kd, nm, nb, bs, v, vb, h1, h2, h3, h4, h5⟩ | ⟨x, kd, nm, nb, bs, vb, h1, h2, h3, h4⟩ | ⟨h1, h2⟩
  · exact ⟨want + 1, ⟨kd, nm, nb, bs⟩, true, _, v, vb, h3, .inl ⟨h1, h2, rfl, rfl, rfl⟩, h4, own_ans h5 (ack_byte hs0 hs1 (by omega) (by omega)), hb⟩
  · exact ⟨want, Mx.zeroF, false, _, _, vb, h3, .inr (.inl ⟨x, kd, nm, nb, bs, h1, h2, rfl, rfl, rfl, rfl⟩), FrA.zero _ _, own_ans h4 (ack_byte hs0 hs1 hw0 hw1), hb⟩
  · exact ⟨want, Mx.zeroF, false, [], _, _, h2, .inr (.inr ⟨h1, rfl, rfl, rfl, rfl⟩), FrA.zero _ _, ⟨none, 0, 0, rfl, bytes_nil _, Nat.le_refl _⟩, hb⟩

theorem lreceivedOf_rv (ses want : Int) (a : Option Addr) (len cap : Nat) (l : List Int) (w : World) (hl : Bytes w a len l) (hlen : len ≤ 2000) (hs0 : 0 ≤ ses) (hs1 : ses ≤ 2147483647) (hw0 : 0 ≤ want) (hw1 : want ≤ 2147483647) :
    Calls Try.prog 13 #[.agg #[.int .i64 ses, .int .i64 want], .slice a len cap] w fun e w' => ∃ nx f is lb v vb, e = .returned (.tuple #[.agg #[.int .i64 ses, .int .i64 nx], v, .bool is, vb]) ∧ Hid (Mx.Rv l ses want nx f is lb) ∧ Hid (FrA w.heap.size w' v f) ∧ Hid (Ans w' vb lb) ∧ Hid (Below w.heap.size w w') := by
  refine (lreceivedOf_any ses want a len cap l w hl hlen hs0 hs1 hw0 hw1).mono fun e w' h => ?_
  obtain ⟨h, hb⟩ := h
  rcases h with ⟨kd, nm, nb, bs, v, vb, h1, h2, h3, h4, h5⟩ | ⟨x, kd, nm, nb, bs, vb, h1, h2, h3, h4⟩ | ⟨h1, h2⟩
  · exact ⟨want + 1, ⟨kd, nm, nb, bs⟩, true, _, v, vb, h3, .inl ⟨h1, h2, rfl, rfl, rfl⟩, h4, own_ans h5 (ack_byte hs0 hs1 (by omega) (by omega)), hb⟩
  · exact ⟨want, Mx.zeroF, false, _, _, vb, h3, .inr (.inl ⟨x, kd, nm, nb, bs, h1, h2, rfl, rfl, rfl, rfl⟩), FrA.zero _ _, own_ans h4 (ack_byte hs0 hs1 hw0 hw1), hb⟩
  · exact ⟨want, Mx.zeroF, false, [], _, _, h2, .inr (.inr ⟨h1, rfl, rfl, rfl, rfl⟩), FrA.zero _ _, ⟨none, 0, 0, rfl, bytes_nil _, Nat.le_refl _⟩, hb⟩

set_option maxHeartbeats 16000000 in
set_option maxRecDepth 100000 in
theorem lht7 {w v : World} {l : List Int} {rs rw : Int} {a : Option Addr} {len cap : Nat} (BL : Hid (Below w.heap.size w v)) (XR : Hid (Bx v (w.heap.size + 1) #[.int .i64 rs, .int .i64 rw] 26)) (HL : Hid (Bytes v a len l)) (hlen : len ≤ 2000) (hcap : len ≤ cap) {u0 u1 u3 u5 u6 u7 u8 u9 u10 u11 u12 u13 u14 u15 u16 u17 u18 u19 u20 u21 u22 u23 u24 u25 u26 u27 u28 u29 u30 u31 u32 u33 u34 u35 u36 u37 u38 u39 u40 u41 u42 u43 u44 u45 u46 u47 u48 u49 u50 u51 u52 u53 u54 u55 u56 u57 u58 u59 u60 u61 u62 u63 u64 u65 u66 u67 u68 u69 u70 u71 u72 u73 u74 u75 u76 u77 u78 u79 u80 u81 u82 u83 u84 u85 u86 u87 u88 u89 u90 u91 u92 u93 u94 u95 u96 u97 u98 u99 u100 u101 u102 u103 u104 u105 u106 u107 u108 u109 u110 u111 u112 u113 u114 u115 u116 u117 u118 u119 u120 u121 u122 u123 u124 u125 u126 u127 u128 u129 u130 : Value} :
    TailG Try.f3 (fun e w' => e = .returned (.bool true) ∧ Below w.heap.size w w') 7 ⟨#[u0, u1, .slice a len cap, u3, .pointer (some ⟨w.heap.size + 1, 0, none⟩), u5, u6, u7, u8, u9, u10, u11, u12, u13, u14, u15, u16, u17, u18, u19, u20, u21, u22, u23, u24, u25, u26, u27, u28, u29, u30, u31, u32, u33, u34, u35, u36, u37, u38, u39, u40, u41, u42, u43, u44, u45, u46, u47, u48, u49, u50, u51, u52, u53, u54, u55, u56, u57, u58, u59, u60, u61, u62, u63, u64, u65, u66, u67, u68, u69, u70, u71, u72, u73, u74, u75, u76, u77, u78, u79, u80, u81, u82, u83, u84, u85, u86, u87, u88, u89, u90, u91, u92, u93, u94, u95, u96, u97, u98, u99, u100, u101, u102, u103, u104, u105, u106, u107, u108, u109, u110, u111, u112, u113, u114, u115, u116, u117, u118, u119, u120, u121, u122, u123, u124, u125, u126, u127, u128, u129, u130], []⟩ v := by
  refine tailG_step rfl ?_
  intro K hK
  obtain ⟨x0, x1⟩ := XR.out.pair
  by_cases hbad : Mx.badN rs ∨ Mx.badN rw
  · have HB := hide hbad
    go_wp2_with fail
    refine (lreceive_err rs rw a len cap v HB.out).mono ?_
    rintro e w1 ⟨rfl, D1⟩
    obtain ⟨W2, hW2⟩ : ∃ W2 : World, Hid (W2 = (w1.alloc (.cells #[.int .i64 0, .int .i64 0] 26)).alloc (.cells #[.int .i64 0, .slice none 0 0, .slice none 0 0] 40)) := ⟨_, rfl⟩
    have D2 := hide (show Below w1.heap.size w1 W2 by rw [hW2.out]; exact (below_alloc _ _).alloc (by simp) _)
    have B2 := hide (BL.out.trans ((D1.trans (D2.out.mono D1.size)).mono BL.out.size))
    have D02 := hide (D1.trans (D2.out.mono D1.size))
    have N2 := hide (show Bx W2 w1.heap.size #[.int .i64 0, .int .i64 0] 26 by rw [hW2.out]; exact (Bx.new w1 _ _).alloc _)
    have M2 := hide (show Bx W2 (w1.heap.size + 1) #[.int .i64 0, .slice none 0 0, .slice none 0 0] 40 by
      rw [hW2.out]
      have h := Bx.new (w1.alloc (.cells #[.int .i64 0, .int .i64 0] 26)) #[.int .i64 0, .slice none 0 0, .slice none 0 0] 40
      rw [World.size_alloc] at h
      exact h)
    have X2 := hide (XR.out.later D02.out XR.out.lt)
    clear x0 x1 D1
    go_wp2_with fail
    rw [← hW2.out]
    refine Met.intro (tailG_step rfl ?_)
    try clear hK K
    intro K hK
    obtain ⟨x0, x1⟩ := X2.out.pair
    obtain ⟨n0, n1⟩ := N2.out.pair
    obtain ⟨m0, m1, m2⟩ := M2.out.three
    have heq := equal_rv 0 0
    have hei : ∀ (W : World), (binOp .eql 32 (.iface 28 (.int .i64 1)) (.iface 28 (.int .i64 1))).run Try.prog W = .ok (.bool true) W := fun W => Lib.run_eql_iface_int W 1 1 Try.underlying32 (by kernel_rfl) Try.underlying28
    by_cases h1 : rs < 0
    · have d1 : decide (rs < 0) = true := by simpa using h1
      clear hbad
      go_wp2_with fail
      refine (sameFrame_true 0 none none none none 0 0 0 0 0 0 0 0 [] [] W2 (by exact ⟨rfl, by rw [maxLen_val]; omega, fun h => absurd h (by omega)⟩) (by exact ⟨rfl, by rw [maxLen_val]; omega, fun _ h => (by cases h), fun h => absurd h (by omega)⟩) (by exact ⟨rfl, by rw [maxLen_val]; omega, fun h => absurd h (by omega)⟩) (by exact ⟨rfl, by rw [maxLen_val]; omega, fun _ h => (by cases h), fun h => absurd h (by omega)⟩)).mono ?_
      rintro e w3 ⟨rfl, D3⟩
      go_wp2_with fail
      go_ret
      exact ⟨rfl, B2.out.trans (D3.mono B2.out.size)⟩
    · have d1 : decide (rs < 0) = false := by simpa using h1
      by_cases h2 : 2147483647 < rs
      · have d2 : decide (2147483647 < rs) = true := by simpa using h2
        clear hbad
        go_wp2_with fail
        refine (sameFrame_true 0 none none none none 0 0 0 0 0 0 0 0 [] [] W2 (by exact ⟨rfl, by rw [maxLen_val]; omega, fun h => absurd h (by omega)⟩) (by exact ⟨rfl, by rw [maxLen_val]; omega, fun _ h => (by cases h), fun h => absurd h (by omega)⟩) (by exact ⟨rfl, by rw [maxLen_val]; omega, fun h => absurd h (by omega)⟩) (by exact ⟨rfl, by rw [maxLen_val]; omega, fun _ h => (by cases h), fun h => absurd h (by omega)⟩)).mono ?_
        rintro e w3 ⟨rfl, D3⟩
        go_wp2_with fail
        go_ret
        exact ⟨rfl, B2.out.trans (D3.mono B2.out.size)⟩
      · have d2 : decide (2147483647 < rs) = false := by simpa using h2
        by_cases h3 : rw < 0
        · have d3 : decide (rw < 0) = true := by simpa using h3
          clear hbad
          go_wp2_with fail
          refine (sameFrame_true 0 none none none none 0 0 0 0 0 0 0 0 [] [] W2 (by exact ⟨rfl, by rw [maxLen_val]; omega, fun h => absurd h (by omega)⟩) (by exact ⟨rfl, by rw [maxLen_val]; omega, fun _ h => (by cases h), fun h => absurd h (by omega)⟩) (by exact ⟨rfl, by rw [maxLen_val]; omega, fun h => absurd h (by omega)⟩) (by exact ⟨rfl, by rw [maxLen_val]; omega, fun _ h => (by cases h), fun h => absurd h (by omega)⟩)).mono ?_
          rintro e w3 ⟨rfl, D3⟩
          go_wp2_with fail
          go_ret
          exact ⟨rfl, B2.out.trans (D3.mono B2.out.size)⟩
        · have d3 : decide (rw < 0) = false := by simpa using h3
          have h4 : 2147483647 < rw := by
            have h5 := HB.out
            unfold Mx.badN at h5
            omega
          have d4 : decide (2147483647 < rw) = true := by simpa using h4
          clear hbad
          go_wp2_with fail
          refine (sameFrame_true 0 none none none none 0 0 0 0 0 0 0 0 [] [] W2 (by exact ⟨rfl, by rw [maxLen_val]; omega, fun h => absurd h (by omega)⟩) (by exact ⟨rfl, by rw [maxLen_val]; omega, fun _ h => (by cases h), fun h => absurd h (by omega)⟩) (by exact ⟨rfl, by rw [maxLen_val]; omega, fun h => absurd h (by omega)⟩) (by exact ⟨rfl, by rw [maxLen_val]; omega, fun _ h => (by cases h), fun h => absurd h (by omega)⟩)).mono ?_
          rintro e w3 ⟨rfl, D3⟩
          go_wp2_with fail
          go_ret
          exact ⟨rfl, B2.out.trans (D3.mono B2.out.size)⟩
  · have hr : 0 ≤ rs ∧ rs ≤ 2147483647 ∧ 0 ≤ rw ∧ rw ≤ 2147483647 := by
      unfold Mx.badN at hbad
      omega
    obtain ⟨hr0, hr1, hr2, hr3⟩ := hr
    clear hbad
    go_wp2_with fail
    refine (lreceive_rv rs rw a len cap l v HL.out hlen hcap hr0 hr1 hr2 hr3).mono ?_
    rintro e w1 ⟨nx, f, is, lb, fv, vb, rfl, RV, FA, AB, D1⟩
    obtain ⟨a1, n1, c1, a2, c2, rfl, hI, hK2, _, _, _, _⟩ := FA.out
    obtain ⟨ba, bn, bc, rfl, hBy, _⟩ := AB.out
    obtain ⟨W2, hW2⟩ : ∃ W2 : World, Hid (W2 = (w1.alloc (.cells #[.int .i64 rs, .int .i64 nx] 26)).alloc (.cells #[.int .i64 f.kind, .slice a1 n1 c1, .slice a2 f.nb c2] 40)) := ⟨_, rfl⟩
    have D2 := hide (show Below w1.heap.size w1 W2 by rw [hW2.out]; exact (below_alloc _ _).alloc (by simp) _)
    have D02 := hide (D1.out.trans (D2.out.mono D1.out.size))
    have B2 := hide (BL.out.trans (D02.out.mono BL.out.size))
    have N2 := hide (show Bx W2 w1.heap.size #[.int .i64 rs, .int .i64 nx] 26 by rw [hW2.out]; exact (Bx.new w1 _ _).alloc _)
    have M2 := hide (show Bx W2 (w1.heap.size + 1) #[.int .i64 f.kind, .slice a1 n1 c1, .slice a2 f.nb c2] 40 by
      rw [hW2.out]
      have h := Bx.new (w1.alloc (.cells #[.int .i64 rs, .int .i64 nx] 26)) #[.int .i64 f.kind, .slice a1 n1 c1, .slice a2 f.nb c2] 40
      rw [World.size_alloc] at h
      exact h)
    have X2 := hide (XR.out.later D02.out XR.out.lt)
    have I2 := hide (hI.later D2.out)
    have K2 := hide (hK2.later D2.out)
    have Y2 := hide (hBy.later D2.out)
    have L2 := hide (HL.out.later D02.out)
    clear x0 x1 hI hK2 hBy FA AB D1
    go_wp2_with fail
    rw [← hW2.out]
    refine Met.intro (tailG_step rfl ?_)
    try clear hK K
    intro K hK
    obtain ⟨x0, x1⟩ := X2.out.pair
    have d1 : decide (rs < 0) = false := by simpa using hr0
    have d2 : decide (2147483647 < rs) = false := by simpa using hr1
    have d3 : decide (rw < 0) = false := by simpa using hr2
    have d4 : decide (2147483647 < rw) = false := by simpa using hr3
    go_wp2_with fail
    refine Met.intro (tailG_step rfl ?_)
    try clear hK K
    intro K hK
    go_wp2_with fail
    refine (lreceivedOf_rv rs rw a len cap l W2 L2.out hlen hr0 hr1 hr2 hr3).mono ?_
    rintro e w3 ⟨nx', f', is', lb', fv', vb', rfl, RV', FA', AB', D3⟩
    obtain ⟨rfl, rfl, rfl, rfl⟩ := Mx.rv_one RV.out RV'.out
    obtain ⟨a3, n3, c3, a4, c4, rfl, hI, hK2, _, _, _, _⟩ := FA'.out
    obtain ⟨bb, bm, bd, rfl, hBy, _⟩ := AB'.out
    obtain ⟨W4, hW4⟩ : ∃ W4 : World, Hid (W4 = (w3.alloc (.cells #[.int .i64 rs, .int .i64 nx] 26)).alloc (.cells #[.int .i64 f.kind, .slice a3 n3 c3, .slice a4 f.nb c4] 40)) := ⟨_, rfl⟩
    have D4 := hide (show Below w3.heap.size w3 W4 by rw [hW4.out]; exact (below_alloc _ _).alloc (by simp) _)
    have D24 := hide (D3.out.trans (D4.out.mono D3.out.size))
    have B4 := hide (B2.out.trans (D24.out.mono B2.out.size))
    have N4 := hide (N2.out.later D24.out N2.out.lt)
    have M4 := hide (M2.out.later D24.out M2.out.lt)
    have P4 := hide (show Bx W4 w3.heap.size #[.int .i64 rs, .int .i64 nx] 26 by rw [hW4.out]; exact (Bx.new w3 _ _).alloc _)
    have Q4 := hide (show Bx W4 (w3.heap.size + 1) #[.int .i64 f.kind, .slice a3 n3 c3, .slice a4 f.nb c4] 40 by
      rw [hW4.out]
      have h := Bx.new (w3.alloc (.cells #[.int .i64 rs, .int .i64 nx] 26)) #[.int .i64 f.kind, .slice a3 n3 c3, .slice a4 f.nb c4] 40
      rw [World.size_alloc] at h
      exact h)
    have I4 := hide (hI.later D4.out)
    have K4 := hide (hK2.later D4.out)
    have Y4 := hide (hBy.later D4.out)
    have I5 := hide (I2.out.later D24.out)
    have K5 := hide (K2.out.later D24.out)
    have Y5 := hide (Y2.out.later D24.out)
    clear x0 x1 hI hK2 hBy FA' AB' D3 RV RV'
    go_wp2_with fail
    rw [← hW4.out]
    refine Met.intro (tailG_last (c := .seq _ .ret) rfl ?_)
    try clear hK
    try clear K
    obtain ⟨n0, n1_⟩ := N4.out.pair
    obtain ⟨m0, m1, m2⟩ := M4.out.three
    obtain ⟨p0, p1⟩ := P4.out.pair
    obtain ⟨q0, q1, q2⟩ := Q4.out.three
    have heq := equal_rv rs nx
    have hbb : (is == is) = true := by simp
    go_wp2_with fail
    refine (sameFrame_true f.kind a1 a2 a3 a4 n1 c1 f.nb c2 n3 c3 f.nb c4 f.nums f.bs W4 I5.out K5.out I4.out K4.out).mono ?_
    rintro e w5 ⟨rfl, D5⟩
    have B5 := hide (B4.out.trans (D5.mono B4.out.size))
    have Y6 := hide (Y4.out.later D5)
    have Y7 := hide (Y5.out.later D5)
    clear D5
    go_wp2_with fail
    refine (sameBytes_any ba bb bn bc bm bd lb lb w5 Y7.out Y6.out rfl).mono ?_
    rintro e w6 ⟨rfl, nq, rfl⟩
    go_wp2_with fail
    go_ret
    exact ⟨rfl, below_drewN B5.out nq⟩

set_option maxHeartbeats 16000000 in
set_option maxRecDepth 100000 in
theorem lht5 {w v : World} {ses base : Int} {qa : Option Addr} {qn qc : Nat} {fs : List Fr} {l : List Int} {rs rw : Int} {a : Option Addr} {len cap : Nat} {E s1 b1 : Int} {ga : Option Addr} {gl gc : Nat} {q1 : List Fr} {gw : Nat} (BL : Hid (Below w.heap.size w v)) (XS : Hid (Bx v w.heap.size #[.int .i64 ses, .int .i64 base, .slice qa qn qc] 24)) (XR : Hid (Bx v (w.heap.size + 1) #[.int .i64 rs, .int .i64 rw] 26)) (XW : Hid (Bx v gw #[.int .i64 s1, .int .i64 b1, .slice ga gl gc] 24)) (HQ : Hid (FL v qa qn fs)) (HW : Hid (FL v ga gl q1)) (HL : Hid (Bytes v a len l)) (hqc : qn ≤ qc) (hq100 : qn ≤ 100) (hlen : len ≤ 2000) (hcap : len ≤ cap) (HE : Hid (E = Mx.sdmay ⟨ses, base, fs⟩)) (HX : Hid ((Mx.sdmay ⟨ses, base, fs⟩ ≠ 0 ∧ s1 = 0 ∧ b1 = 0 ∧ q1 = []) ∨ (Mx.sdmay ⟨ses, base, fs⟩ = 0 ∧ ∃ g, Mx.Gone ses base qn l g ∧ s1 = ses ∧ b1 = base + g ∧ q1 = fs.drop g))) {u0 u1 u5 u6 u9 u10 u11 u12 u13 u14 u15 u16 u17 u18 u19 u20 u21 u22 u23 u24 u25 u26 u27 u28 u29 u30 u31 u32 u33 u34 u35 u36 u37 u38 u39 u40 u41 u42 u43 u44 u45 u46 u47 u48 u49 u50 u51 u52 u53 u54 u55 u56 u57 u58 u59 u60 u61 u62 u63 u64 u65 u66 u67 u68 u69 u70 u71 u72 u73 u74 u75 u76 u77 u78 u79 u80 u81 u82 u83 u84 u85 u86 u87 u88 u89 u90 u91 u92 u93 u94 u95 u96 u97 u98 u99 u100 u101 u102 u103 u104 u105 u106 u107 u108 u109 u110 u111 u112 u113 u114 u115 u116 u117 u118 u119 u120 u121 u122 u123 u124 u125 u126 u127 u128 u129 u130 : Value} :
    TailG Try.f3 (fun e w' => e = .returned (.bool true) ∧ Below w.heap.size w w') 5 ⟨#[u0, u1, .slice a len cap, .pointer (some ⟨w.heap.size, 0, none⟩), .pointer (some ⟨w.heap.size + 1, 0, none⟩), u5, u6, .int .i64 E, .pointer (some ⟨gw, 0, none⟩), u9, u10, u11, u12, u13, u14, u15, u16, u17, u18, u19, u20, u21, u22, u23, u24, u25, u26, u27, u28, u29, u30, u31, u32, u33, u34, u35, u36, u37, u38, u39, u40, u41, u42, u43, u44, u45, u46, u47, u48, u49, u50, u51, u52, u53, u54, u55, u56, u57, u58, u59, u60, u61, u62, u63, u64, u65, u66, u67, u68, u69, u70, u71, u72, u73, u74, u75, u76, u77, u78, u79, u80, u81, u82, u83, u84, u85, u86, u87, u88, u89, u90, u91, u92, u93, u94, u95, u96, u97, u98, u99, u100, u101, u102, u103, u104, u105, u106, u107, u108, u109, u110, u111, u112, u113, u114, u115, u116, u117, u118, u119, u120, u121, u122, u123, u124, u125, u126, u127, u128, u129, u130], []⟩ v := by
  refine tailG_step rfl ?_
  intro K hK
  obtain ⟨x0, x1, x2⟩ := XS.out.three
  go_wp2_with fail
  refine (lheard_any ses base qa qn qc fs a len cap l v HQ.out hqc HL.out hlen hcap).mono ?_
  rintro e w1 ⟨v1, rfl, hA, D1⟩
  have SV := hide (show SdV w1 v1 ⟨s1, b1, q1⟩ by
    rcases HX.out with ⟨h1, rfl, rfl, rfl⟩ | ⟨h1, g, h2, rfl, rfl, rfl⟩
    · rcases hA.out with ⟨_, h3⟩ | ⟨h3, _⟩
      · exact h3
      · exact absurd h3 h1
    · rcases hA.out with ⟨h3, _⟩ | ⟨_, g', h3, h4⟩
      · exact absurd h1 h3
      · obtain rfl := Mx.gone_one h2 h3
        exact h4)
  obtain ⟨ra, rn, rc, rfl, hR, _⟩ := SV.out
  obtain ⟨W2, hW2⟩ : ∃ W2 : World, Hid (W2 = w1.alloc (.cells #[.int .i64 s1, .int .i64 b1, .slice ra rn rc] 24)) := ⟨_, rfl⟩
  have D2 := hide (show Below w1.heap.size w1 W2 by rw [hW2.out]; exact below_alloc _ _)
  have D02 := hide (D1.out.trans (D2.out.mono D1.out.size))
  have B2 := hide (BL.out.trans (D02.out.mono BL.out.size))
  have X2 := hide (XR.out.later D02.out XR.out.lt)
  have Z2 := hide (XW.out.later D02.out XW.out.lt)
  have N2 := hide (show Bx W2 w1.heap.size #[.int .i64 s1, .int .i64 b1, .slice ra rn rc] 24 by rw [hW2.out]; exact Bx.new w1 _ _)
  have R2 := hide (hR.later D2.out)
  have Q2 := hide (HW.out.later D02.out)
  have L2 := hide (HL.out.later D02.out)
  have hrn : rn ≤ 1000 := by
    have h3 : q1.length = rn := hR.1
    have h5 := HQ.out.1
    rcases HX.out with ⟨_, _, _, rfl⟩ | ⟨_, g, _, _, _, rfl⟩
    · simp at h3; omega
    · simp at h3; omega
  clear x0 x1 x2 hA hR SV D1 HX
  go_wp2_with fail
  rw [← hW2.out]
  refine Met.intro (tailG_step rfl ?_)
  try clear hK K
  intro K hK
  obtain ⟨n0, n1, n2⟩ := N2.out.three
  obtain ⟨z0, z1, z2⟩ := Z2.out.three
  go_wp2_with fail
  refine (is_any (Mx.sdmay ⟨ses, base, fs⟩) E W2).mono ?_
  rintro e wz ⟨rfl, hz⟩
  obtain rfl := hz.symm
  clear hz
  have hbe : (Mx.sdmay ⟨ses, base, fs⟩ == E) = true := by rw [HE.out]; simp
  rw [hbe]
  go_wp2_with fail
  refine (sameSender_true s1 b1 ra ga rn rc gl gc q1 W2 R2.out Q2.out hrn).mono ?_
  rintro e w3 ⟨rfl, D3⟩
  have X3 := hide (X2.out.later D3 X2.out.lt)
  have L3 := hide (L2.out.later D3)
  have B3 := hide (B2.out.trans (D3.mono B2.out.size))
  go_wp2_with fail
  exact Met.intro (lht7 B3 X3 L3 hlen hcap)

set_option maxHeartbeats 16000000 in
set_option maxRecDepth 100000 in
theorem lhears_any (ses base : Int) (qa : Option Addr) (qn qc : Nat) (fs : List Fr) (rs rw : Int) (a : Option Addr) (len cap : Nat) (l : List Int) (w : World) (hq : FL w qa qn fs) (hqc : qn ≤ qc) (hl : Bytes w a len l) (hcap : len ≤ cap) :
    Calls Try.prog 3 #[.agg #[.int .i64 ses, .int .i64 base, .slice qa qn qc], .agg #[.int .i64 rs, .int .i64 rw], .slice a len cap] w fun e w' => e = .returned (.bool true) ∧ Below w.heap.size w w' := by
  obtain ⟨W0, hW0⟩ : ∃ W0 : World, Hid (W0 = (w.alloc (.cells #[.int .i64 ses, .int .i64 base, .slice qa qn qc] 24)).alloc (.cells #[.int .i64 rs, .int .i64 rw] 26)) := ⟨_, rfl⟩
  have X0 := hide (show Bx W0 w.heap.size #[.int .i64 ses, .int .i64 base, .slice qa qn qc] 24 by rw [hW0.out]; exact (Bx.new w _ _).alloc _)
  have Y0 := hide (show Bx W0 (w.heap.size + 1) #[.int .i64 rs, .int .i64 rw] 26 by
    rw [hW0.out]
    have h := Bx.new (w.alloc (.cells #[.int .i64 ses, .int .i64 base, .slice qa qn qc] 24)) #[.int .i64 rs, .int .i64 rw] 26
    rw [World.size_alloc] at h
    exact h)
  have D0 := hide (show Below w.heap.size w W0 by rw [hW0.out]; exact (below_alloc _ _).alloc (by simp) _)
  have hqm : qn ≤ maxLen := hq.2.1
  have hlm : len ≤ maxLen := hl.2.1
  rw [maxLen_val] at hqm hlm
  have HN := hide hq.1
  have HQ := hide (hq.later D0.out)
  have HL := hide (hl.later D0.out)
  clear hq hl
  go_enter Try.func3, Try.ntmps3
  change TailG Try.f3 _ 0 _ w
  refine tailG_step rfl ?_
  intro K hK
  go_wp2_with fail
  rw [← hW0.out]
  refine Met.intro (tailG_step rfl ?_)
  try clear hK K
  intro K hK
  obtain ⟨x0, x1, x2⟩ := X0.out.three
  by_cases h100 : (100 : Int) < qn
  · have d100 : decide ((100 : Int) < qn) = true := by simpa using h100
    go_wp2_with fail
    go_ret
    exact ⟨rfl, D0.out⟩
  · have d100 : decide ((100 : Int) < qn) = false := by simpa using h100
    by_cases h2000 : (2000 : Int) < len
    · have d2000 : decide ((2000 : Int) < len) = true := by simpa using h2000
      go_wp2_with fail
      go_ret
      exact ⟨rfl, D0.out⟩
    · have d2000 : decide ((2000 : Int) < len) = false := by simpa using h2000
      have q100 : qn ≤ 100 := by omega
      have hlen : len ≤ 2000 := by omega
      clear h100 h2000
      go_wp2_with fail
      refine Met.intro (tailG_step rfl ?_)
      try clear hK K
      intro K hK
      go_wp2_with fail
      refine (senderMay_any ses base qa qn qc fs W0 HQ.out).mono ?_
      rintro e w1 ⟨rfl, D1⟩
      obtain ⟨W2, hW2⟩ : ∃ W2 : World, Hid (W2 = w1.alloc (.cells #[.int .i64 0, .int .i64 0, .slice none 0 0] 24)) := ⟨_, rfl⟩
      have D2 := hide (show Below w1.heap.size w1 W2 by rw [hW2.out]; exact below_alloc _ _)
      have D02 := hide (D1.trans (D2.out.mono D1.size))
      have B2 := hide (D0.out.trans (D02.out.mono D0.out.size))
      have X2 := hide (X0.out.later D02.out X0.out.lt)
      have Y2 := hide (Y0.out.later D02.out Y0.out.lt)
      have Z2 := hide (show Bx W2 w1.heap.size #[.int .i64 0, .int .i64 0, .slice none 0 0] 24 by rw [hW2.out]; exact Bx.new w1 _ _)
      have HQ2 := hide (HQ.out.later D02.out)
      have HL2 := hide (HL.out.later D02.out)
      have hw1 : W0.heap.size ≤ w1.heap.size := D1.size
      clear x0 x1 x2 D1
      go_wp2_with fail
      refine Met.intro (tailG_step rfl ?_)
      try clear hK K
      intro K hK
      go_wp2_with fail
      rw [← hW2.out]
      refine Met.intro (tailG_step rfl ?_)
      try clear hK K
      intro K hK
      by_cases he : Mx.sdmay ⟨ses, base, fs⟩ = 0
      · obtain ⟨⟨hs0, hs1, hb0, hb1⟩, hq64, hqm⟩ := Mx.sdmay_ok he
        have hq64' : qn ≤ 64 := by have h1 := HN.out; simp at hq64; omega
        have HE := hide he
        simp only at hs0 hs1 hb0 hb1
        rw [he]
        clear hqm he hq64
        obtain ⟨x0, x1, x2⟩ := X2.out.three
        obtain ⟨z0, z1, z2⟩ := Z2.out.three
        have zz := Z2.out.frozen
        go_wp2_with fail
        refine (heardOf_any ses base qa qn qc fs a len cap l W2 HQ2.out hqc HL2.out hlen hb0 hb1 hq64').mono ?_
        rintro e w3 ⟨v3, rfl, hg3, D3⟩
        obtain ⟨gn, hG, ga, gl, gc, rfl, _, hF⟩ := hg3.out
        have HG := hide hG
        have Z3 := hide (Z2.out.later D3.out Z2.out.lt)
        have HF3 := hide hF
        clear x0 x1 x2 z0 z1 z2 zz hg3 hF hG
        obtain ⟨z0, z1, z2⟩ := Z3.out.three
        have zz := Z3.out.frozen
        go_wp2_with fail
        obtain ⟨W4, hW4⟩ : ∃ W4 : World, Hid (W4 = set3 w3 w1.heap.size (.int .i64 ses) (.int .i64 (base + (gn : Int))) (.slice ga gl gc)) := ⟨_, rfl⟩
        have D04 := hide (show Below W0.heap.size W0 W4 by rw [hW4.out]; exact set3_below (D02.out.trans (D3.out.mono D02.out.size)) hw1 _ _ _)
        have Z4 := hide (show Bx W4 w1.heap.size #[.int .i64 ses, .int .i64 (base + (gn : Int)), .slice ga gl gc] 24 by rw [hW4.out]; exact Z3.out.three_set _ _ _)
        unfold set3 at hW4
        rw [← hW4.out]
        have HQ4 := hide (HQ.out.later D04.out)
        exact Met.intro (lht5 (hide (D0.out.trans (D04.out.mono D0.out.size))) (hide (X0.out.later D04.out X0.out.lt)) (hide (Y0.out.later D04.out Y0.out.lt)) Z4 HQ4 (hide (HF3.out _ HQ4.out)) (hide (HL.out.later D04.out)) hqc q100 hlen hcap (hide HE.out.symm) (hide (.inr ⟨HE.out, gn, HG.out, rfl, rfl, rfl⟩)))
      · have HE := hide he
        have hne : (Mx.sdmay ⟨ses, base, fs⟩ == 0) = false := by simpa using he
        clear he
        go_wp2_with fail
        exact Met.intro (lht5 B2 X2 Y2 Z2 HQ2 (hide (FL.nil _)) HL2 hqc q100 hlen hcap (hide rfl) (hide (.inl ⟨HE.out, rfl, rfl, rfl⟩)))

end Go.Proofs.Ytfgonmgmoeoedaa
