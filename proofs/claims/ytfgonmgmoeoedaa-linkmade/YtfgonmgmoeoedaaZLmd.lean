/-
  The law LinkMade: bytes that one of two would send, heard and received.
-/
import Derived.Test.YtfgonmgmoeoedaaZIter
import Derived.Test.YtfgonmgmoeoedaaZLro
import Derived.Test.YtfgonmgmoeoedaaZLc

namespace Go.Proofs.Ytfgonmgmoeoedaa
open Go.RowKit

theorem ints_two {w : World} {g : Nat} {x y : Int} (h : Bx w g #[.int .i64 x, .int .i64 y] 3) : Ints w (some ⟨g, 0, none⟩) 2 [x, y] :=
  ⟨rfl, by rw [maxLen_val]; omega, fun _ => ⟨g, 0, rfl, h.lt, fun i hi => by
    match i, hi with
    | 0, _ => exact h.cell 0
    | 1, _ => exact h.cell 1⟩⟩

theorem FL.blks {w : World} {a : Option Addr} {k : Nat} {fs : List Fr} (h : FL w a k fs) {i : Nat} {f : Fr} (hf : fs[i]? = some f) : ∃ a2, Blks w a2 f.nb f.bs := by
  have hi : i < k := by have h1 := (List.getElem?_eq_some_iff.1 hf).1; have h2 := h.1; omega
  obtain ⟨b, off, f', a1, n1, c1, a2, c2, _, _, hf', _, _, _, _, hk, _⟩ := h.at_ i hi
  rw [hf] at hf'
  cases hf'
  exact ⟨a2, hk⟩

set_option maxHeartbeats 16000000 in
set_option maxRecDepth 100000 in
theorem lmt5 {w v : World} {ses base : Int} {qa : Option Addr} {qn qc : Nat} {fs : List Fr} {rw : Int} {a1 : Option Addr} {m1 d1 : Nat} {l1 : List Int} {a2 : Option Addr} {m2 d2 : Nat} {l2 : List Int} {gr : Nat} (BL : Hid (Below w.heap.size w v)) (XS : Hid (Bx v w.heap.size #[.int .i64 ses, .int .i64 base, .slice qa qn qc] 24)) (XR : Hid (Bx v gr #[.int .i64 ses, .int .i64 rw] 26)) (HQ : Hid (FL v qa qn fs)) (H1 : Hid (Bytes v a1 m1 l1)) (H2 : Hid (Bytes v a2 m2 l2)) (hqc : qn ≤ qc) (hq0 : 0 < qn) (hc1 : m1 ≤ d1) (hc2 : m2 ≤ d2) {u0 u1 u2 u3 u5 u6 u7 u8 u12 u13 u14 u15 u16 u17 u18 u19 u20 u21 u22 u23 u24 u25 u26 u27 u28 u29 u30 u31 u32 u33 u34 u35 u36 u37 u38 u39 u40 u41 u42 u43 u44 u45 u46 u47 u48 u49 u50 u51 u52 u53 u54 u55 u56 u57 u58 u59 u60 u61 u62 u63 u64 u65 u66 u67 u68 : Value} :
    TailG Try.f4 (fun e w' => e = .returned (.bool true) ∧ Below w.heap.size w w') 5 ⟨#[u0, u1, u2, u3, .pointer (some ⟨w.heap.size, 0, none⟩), u5, u6, u7, u8, .slice a1 m1 d1, .pointer (some ⟨gr, 0, none⟩), .slice a2 m2 d2, u12, u13, u14, u15, u16, u17, u18, u19, u20, u21, u22, u23, u24, u25, u26, u27, u28, u29, u30, u31, u32, u33, u34, u35, u36, u37, u38, u39, u40, u41, u42, u43, u44, u45, u46, u47, u48, u49, u50, u51, u52, u53, u54, u55, u56, u57, u58, u59, u60, u61, u62, u63, u64, u65, u66, u67, u68], []⟩ v := by
  refine tailG_last (c := .seq _ .ret) rfl ?_
  obtain ⟨x0, x1, x2⟩ := XS.out.three
  obtain ⟨r0, r1⟩ := XR.out.pair
  obtain ⟨b, off, f, b1, n1, c1, b2, c2, hab, hblt, hf0, e0, e1, e2, hI, hK2, hn1, hn2⟩ := HQ.out.at_ 0 hq0
  subst hab
  rw [Nat.zero_mul, Nat.add_zero] at e0 e1 e2
  have HI := hide hI
  have HK := hide hK2
  have hqi : (0 : Int) < qn := by omega
  clear hI hK2 hf0
  go_upto_region 6 with fail
  go_region_held3 (fun w' => w'.cell? ⟨w.heap.size, 0, none⟩ = some (.int .i64 ses) ∧ w'.cell? ⟨w.heap.size, 1, none⟩ = some (.int .i64 base) ∧ w'.cell? ⟨w.heap.size, 2, none⟩ = some (.slice (some ⟨b, off, none⟩) qn qc) ∧ w'.cell? ⟨gr, 0, none⟩ = some (.int .i64 ses) ∧ w'.cell? ⟨gr, 1, none⟩ = some (.int .i64 rw) ∧ w'.cell? ⟨b, off, none⟩ = some (.int .i64 f.kind) ∧ w'.cell? ⟨b, off + 1, none⟩ = some (.slice b1 n1 c1) ∧ w'.cell? ⟨b, off + 2, none⟩ = some (.slice b2 f.nb c2))
    (first
      | with_reducible exact ⟨x0, x1, x2, r0, r1, e0, e1, e2⟩
      | (simp only [cell_drew]; with_reducible exact ⟨x0, x1, x2, r0, r1, e0, e1, e2⟩)
      | with_reducible exact ⟨y0, y1, y2, s0, s1, g0, g1, g2⟩
      | with_reducible exact ⟨z0, z1, z2, t0, t1, h0, h1, h2⟩
      | with_reducible exact ⟨p0, p1, p2, q0, q1, k0, k1, k2⟩)
    (first
      | (go_at_call 3; (with_reducible refine (lhears_any ses base (some ⟨b, off, none⟩) qn qc fs ses rw a1 m1 d1 l1 v.drew (HQ.out.later (Below.refl _ _).drew) hqc (H1.out.later (Below.refl _ _).drew) hc1).mono ?_); rintro e w1 ⟨rfl, D1⟩; have D01 := hide (show Below v.heap.size v w1 from (Below.refl _ _).drew.trans D1); obtain ⟨y0, y1, y2⟩ := (XS.out.later D01.out XS.out.lt).three; obtain ⟨s0, s1⟩ := (XR.out.later D01.out XR.out.lt).pair; have g0 := (D01.out.cell (p := ⟨b, off, none⟩) hblt).trans e0; have g1 := (D01.out.cell (p := ⟨b, off + 1, none⟩) hblt).trans e1; have g2 := (D01.out.cell (p := ⟨b, off + 2, none⟩) hblt).trans e2; clear D1)
      | (go_at_call 3; (with_reducible refine (lhears_any ses base (some ⟨b, off, none⟩) qn qc fs ses rw a2 m2 d2 l2 w1 (HQ.out.later D01.out) hqc (H2.out.later D01.out) hc2).mono ?_); rintro e w2 ⟨rfl, D2⟩; have D02 := hide (D01.out.trans (D2.mono D01.out.size)); obtain ⟨z0, z1, z2⟩ := (XS.out.later D02.out XS.out.lt).three; obtain ⟨t0, t1⟩ := (XR.out.later D02.out XR.out.lt).pair; have h0 := (D02.out.cell (p := ⟨b, off, none⟩) hblt).trans e0; have h1 := (D02.out.cell (p := ⟨b, off + 1, none⟩) hblt).trans e1; have h2 := (D02.out.cell (p := ⟨b, off + 2, none⟩) hblt).trans e2; clear D2)
      | (go_at_call 18; (with_reducible refine (lsays_any ses base (some ⟨b, off, none⟩) qn qc fs f.kind b1 b2 n1 c1 f.nb c2 f.nums f.bs w2 (HQ.out.later D02.out) hqc (HI.out.later D02.out) (HK.out.later D02.out) hn1 hn2).mono ?_); rintro e w3 ⟨rfl, D3⟩; have D03 := hide (D02.out.trans (D3.mono D02.out.size)); obtain ⟨p0, p1, p2⟩ := (XS.out.later D03.out XS.out.lt).three; obtain ⟨q0, q1⟩ := (XR.out.later D03.out XR.out.lt).pair; have k0 := (D03.out.cell (p := ⟨b, off, none⟩) hblt).trans e0; have k1 := (D03.out.cell (p := ⟨b, off + 1, none⟩) hblt).trans e1; have k2 := (D03.out.cell (p := ⟨b, off + 2, none⟩) hblt).trans e2; clear D3))
  all_goals go_wp2_with fail
  all_goals go_ret
  all_goals exact ⟨rfl, BL.out.trans (D03.out.mono BL.out.size)⟩

set_option maxHeartbeats 16000000 in
set_option maxRecDepth 100000 in
theorem lmade_any (ses base : Int) (qa : Option Addr) (qn qc : Nat) (fs : List Fr) (want which shift : Int) (w : World) (hq : FL w qa qn fs) (hqc : qn ≤ qc) (hx0 : -9223372036854775808 ≤ want) (hx1 : want ≤ 9223372036854775807) (hy0 : -9223372036854775808 ≤ which) (hy1 : which ≤ 9223372036854775807) (hz0 : -9223372036854775808 ≤ shift) (hz1 : shift ≤ 9223372036854775807) :
    Calls Try.prog 4 #[.agg #[.int .i64 ses, .int .i64 base, .slice qa qn qc], .int .i64 want, .int .i64 which, .int .i64 shift] w fun e w' => e = .returned (.bool true) ∧ Below w.heap.size w w' := by
  obtain ⟨W0, hW0⟩ : ∃ W0 : World, Hid (W0 = w.alloc (.cells #[.int .i64 ses, .int .i64 base, .slice qa qn qc] 24)) := ⟨_, rfl⟩
  have X0 := hide (show Bx W0 w.heap.size #[.int .i64 ses, .int .i64 base, .slice qa qn qc] 24 by rw [hW0.out]; exact Bx.new w _ _)
  have D0 := hide (show Below w.heap.size w W0 by rw [hW0.out]; exact below_alloc _ _)
  have hqm : qn ≤ maxLen := hq.2.1
  rw [maxLen_val] at hqm
  have HN := hide hq.1
  have HQ := hide (hq.later D0.out)
  have HW1 := hide (And.intro hx0 hx1)
  have HW2 := hide (And.intro hy0 hy1)
  have HW3 := hide (And.intro hz0 hz1)
  clear hq hx0 hx1 hy0 hy1 hz0 hz1
  go_enter Try.func4, Try.ntmps4
  change TailG Try.f4 _ 0 _ w
  refine tailG_step rfl ?_
  intro K hK
  go_wp2_with fail
  rw [← hW0.out]
  refine Met.intro (tailG_step rfl ?_)
  try clear hK K
  intro K hK
  obtain ⟨x0, x1, x2⟩ := X0.out.three
  go_wp2_with fail
  refine (senderMay_any ses base qa qn qc fs W0 HQ.out).mono ?_
  rintro e w1 ⟨rfl, D1⟩
  have D01 := hide D1
  have B1 := hide (D0.out.trans (D1.mono D0.out.size))
  have X1 := hide (X0.out.later D1 X0.out.lt)
  have Q1 := hide (HQ.out.later D1)
  clear x0 x1 x2 D1
  obtain ⟨x0, x1, x2⟩ := X1.out.three
  by_cases he : Mx.sdmay ⟨ses, base, fs⟩ = 0
  · obtain ⟨⟨hs0, hs1, hb0, hb1⟩, hq64, hqmm⟩ := Mx.sdmay_ok he
    have hq64' : qn ≤ 64 := by have h1 := HN.out; simp at hq64; omega
    have HE := hide he
    have HMM := hide hqmm
    simp only at hs0 hs1 hb0 hb1
    rw [he]
    clear hqmm he hq64
    by_cases hq0 : qn = 0
    · subst hq0
      go_wp2_with fail
      go_ret
      exact ⟨rfl, B1.out⟩
    · have dq : ((qn : Int) == 0) = false := by simpa using hq0
      have dqn : (qn == 0) = false := by simpa using hq0
      by_cases hbg : 1073741824 < base
      · have db : decide (1073741824 < base) = true := by simpa using hbg
        go_wp2_with fail
        go_ret
        exact ⟨rfl, B1.out⟩
      · have db : decide (1073741824 < base) = false := by simpa using hbg
        go_wp2_with fail
        refine Met.intro (tailG_step rfl ?_)
        try clear hK K
        intro K hK
        obtain ⟨i, hi⟩ : ∃ i : Nat, Hid ((i : Int) < qn) := ⟨0, hide (by omega)⟩
        clear hi i
        go_upto_region 3 with fail
        go_region_held3 (fun w' => w'.cell? ⟨w.heap.size, 0, none⟩ = some (.int .i64 ses) ∧ w'.cell? ⟨w.heap.size, 1, none⟩ = some (.int .i64 base) ∧ w'.cell? ⟨w.heap.size, 2, none⟩ = some (.slice qa qn qc))
          (first
            | with_reducible exact ⟨x0, x1, x2⟩
            | (simp only [cell_drew]; with_reducible exact ⟨x0, x1, x2⟩)
            | with_reducible exact ⟨y0, y1, y2⟩)
          (first
            | (go_at_call 16; refine (pick_any which qn _ HW2.out.1 HW2.out.2 (by omega) (by omega)).mono ?_; rintro e wz ⟨i, hi, rfl, hz⟩; obtain rfl := hz.symm; clear hz; have hin : i < qn := (by omega); obtain ⟨fr, hfr⟩ : ∃ fr, Hid (fs[i]? = some fr) := ⟨fs[i]'(by rw [HN.out]; exact hin), hide (List.getElem?_eq_getElem _)⟩; have HMF := hide (show Mx.may 1 (ses :: (base + (i : Int)) :: fr.kind :: fr.nums) fr.nb = 0 by rw [Mx.may_wire (HMM.out fr (List.mem_of_getElem? hfr.out)) ⟨hs0, hs1⟩ (by omega), if_neg (by omega)]))
            | (go_at_call 15; refine (dataOf_any ses base qa qn qc fs i fr.kind fr.nums fr.nb fr.bs w1.drew (Q1.out.later (Below.refl _ _).drew) hfr.out hb0 hb1 (by omega) HMF.out).mono ?_; rintro e w2 ⟨v2, rfl, O2, D2⟩; have D12 := hide (show Below w1.heap.size w1 w2 from (Below.refl _ _).drew.trans D2.out); obtain ⟨y0, y1, y2⟩ := (X1.out.later D12.out X1.out.lt).three))
        all_goals
          have B2 := hide (B1.out.trans (D12.out.mono B1.out.size))
          have X2 := hide (X1.out.later D12.out X1.out.lt)
          have Q2 := hide (Q1.out.later D12.out)
          obtain ⟨fa, fn, fc, rfl, hby, hfc⟩ := own_ans O2.out (by
            obtain ⟨ak, hk⟩ := FL.blks Q1.out hfr.out
            exact packB_byte hk HMF.out)
          have Y2 := hide hby
          clear x0 x1 x2 y0 y1 y2 hby O2
          obtain ⟨x0, x1, x2⟩ := X2.out.three
          go_wp2_with fail
          refine Met.intro (tailG_step rfl ?_)
          try clear hK K
          intro K hK
          go_upto_region 4 with fail
          go_region_held3 (fun w' => w'.cell? ⟨w.heap.size, 0, none⟩ = some (.int .i64 ses) ∧ w'.cell? ⟨w.heap.size, 1, none⟩ = some (.int .i64 base) ∧ w'.cell? ⟨w.heap.size, 2, none⟩ = some (.slice qa qn qc))
            (first
              | with_reducible exact ⟨x0, x1, x2⟩
              | (simp only [cell_drew]; with_reducible exact ⟨x0, x1, x2⟩)
              | (simp only [cell_alloc_lt X2.out.lt, cell_drew]; with_reducible exact ⟨x0, x1, x2⟩))
            (first
              | (go_at_call 16; refine (pick_any want 3 _ HW1.out.1 HW1.out.2 (by omega) (by omega)).mono ?_; rintro e wz ⟨rr, hrr, rfl, hz⟩; obtain rfl := hz.symm; clear hz; have hwr : IntKind.i64.wrap (base + (rr : Int)) = base + (rr : Int) := (by rw [IntWalk.i64_left, IntWalk.wrap64_in _ (by omega)])))
          all_goals
            obtain ⟨W3, hW3⟩ : ∃ W3 : World, Hid (W3 = (w2.alloc (.cells #[.int .i64 ses, .int .i64 (base + (rr : Int))] 26)).drew) := ⟨_, rfl⟩
            have D3 := hide (show Below w2.heap.size w2 W3 by rw [hW3.out]; exact (below_alloc _ _).drew)
            have R3 := hide (show Bx W3 w2.heap.size #[.int .i64 ses, .int .i64 (base + (rr : Int))] 26 by rw [hW3.out]; exact Bx.newD w2 _ _)
            have X3 := hide (X2.out.later D3.out X2.out.lt)
            have B3 := hide (B2.out.trans (D3.out.mono B2.out.size))
            rw [← hW3.out]
            clear x0 x1 x2
            obtain ⟨x0, x1, x2⟩ := X3.out.three
            go_wp2_with fail
            refine Met.intro (tailG_step rfl ?_)
            try clear hK K
            intro K hK
            go_upto_region 5 with fail
            go_region_held3 (fun w' => w'.cell? ⟨w.heap.size, 0, none⟩ = some (.int .i64 ses) ∧ w'.cell? ⟨w.heap.size, 1, none⟩ = some (.int .i64 base) ∧ w'.cell? ⟨w.heap.size, 2, none⟩ = some (.slice qa qn qc))
              (first
                | with_reducible exact ⟨x0, x1, x2⟩
                | (simp only [cell_drew]; with_reducible exact ⟨x0, x1, x2⟩)
                | (simp only [cell_alloc_lt X3.out.lt, cell_drew]; with_reducible exact ⟨x0, x1, x2⟩)
                | with_reducible exact ⟨y0, y1, y2⟩)
              (first
                | (go_at_call 16; refine (pick_any shift 8 _ HW3.out.1 HW3.out.2 (by omega) (by omega)).mono ?_; rintro e wz ⟨tt, htt, rfl, hz⟩; obtain rfl := hz.symm; clear hz; have hwt : IntKind.i64.wrap (base + (tt : Int)) = base + (tt : Int) := (by rw [IntWalk.i64_left, IntWalk.wrap64_in _ (by omega)]))
                | (go_at_call 17; obtain ⟨W4, hW4⟩ : ∃ W4 : World, Hid (W4 = (W3.alloc (.cells #[.int .i64 ses, .int .i64 (base + (tt : Int))] 3)).drew) := ⟨_, rfl⟩; have Z4 := hide (show Bx W4 W3.heap.size #[.int .i64 ses, .int .i64 (base + (tt : Int))] 3 by rw [hW4.out]; exact Bx.newD W3 _ _); have D4 := hide (show Below W3.heap.size W3 W4 by rw [hW4.out]; exact (below_alloc _ _).drew); rw [← hW4.out]; refine (packed_any 0 (some ⟨W3.heap.size, 0, none⟩) none 2 2 0 0 [ses, base + (tt : Int)] [] W4 (ints_two Z4.out) (blks_nil W4) (Mx.may_two hs0 hs1 (by omega) (by omega))).mono ?_; rintro e w5 ⟨v5, rfl, O5, D5⟩; have D35 := hide (D4.out.trans (D5.mono D4.out.size)); obtain ⟨y0, y1, y2⟩ := (X3.out.later D35.out X3.out.lt).three))
            all_goals
              obtain ⟨ga, gn, gc, rfl, hby, hgc⟩ := own_ans O5 (ack_byte hs0 hs1 (by omega) (by omega))
              have Y5 := hide hby
              have D25 := hide (D3.out.trans (D35.out.mono D3.out.size))
              clear x0 x1 x2 y0 y1 y2 hby O5
              go_wp2_with fail
              exact Met.intro (lmt5 (hide (B3.out.trans (D35.out.mono B3.out.size))) (hide (X3.out.later D35.out X3.out.lt)) (hide (R3.out.later D35.out R3.out.lt)) (hide (Q2.out.later D25.out)) (hide (Y2.out.later D25.out)) Y5 hqc (by omega) hfc hgc)
  · have HE := hide he
    have hne : (Mx.sdmay ⟨ses, base, fs⟩ != 0) = true := by simpa using he
    clear he
    go_wp2_with fail
    go_ret
    exact ⟨rfl, B1.out⟩

end Go.Proofs.Ytfgonmgmoeoedaa
