/-
  Where two trees differ, as the program asks it (checkBoth, Diff).
-/
import Derived.Laws.EntriesVeiled
import Derived.Test.YtdhmijjphgcdmaaZIs
import Derived.Test.YtdhmijjphgcdmaaZDbox
import Derived.Test.YtdhmijjphgcdmaaZTof

namespace Go.Proofs.Ytdhmijjphgcdmaa
open Go.RowKit

/-- D3's error of two trees -/
def Mx.both (la lb : List (List Nat)) : Int := if Mx.tmay la = 0 then (if Mx.tmay lb = 0 then (if (la.getD 0 []).length = (lb.getD 0 []).length then 0 else 6) else Mx.tmay lb) else Mx.tmay la
theorem Mx.both_a {la lb : List (List Nat)} (h : ¬ Mx.tmay la = 0) : Mx.both la lb = Mx.tmay la := by unfold Mx.both; rw [if_neg h]
theorem Mx.both_b {la lb : List (List Nat)} (h : Mx.tmay la = 0) (h2 : ¬ Mx.tmay lb = 0) : Mx.both la lb = Mx.tmay lb := by unfold Mx.both; rw [if_pos h, if_neg h2]
theorem Mx.both_c {la lb : List (List Nat)} (h : Mx.tmay la = 0) (h2 : Mx.tmay lb = 0) (h3 : ¬ (la.getD 0 []).length = (lb.getD 0 []).length) : Mx.both la lb = 6 := by unfold Mx.both; rw [if_pos h, if_pos h2, if_neg h3]
theorem Mx.both_d {la lb : List (List Nat)} (h : Mx.tmay la = 0) (h2 : Mx.tmay lb = 0) (h3 : (la.getD 0 []).length = (lb.getD 0 []).length) : Mx.both la lb = 0 := by unfold Mx.both; rw [if_pos h, if_pos h2, if_pos h3]
theorem Mx.tmay_head {ls : List (List Nat)} (h : Mx.tmay ls = 0) : 1 ≤ ls.length ∧ 1 ≤ (ls.getD 0 []).length ∧ (ls.getD 0 []).length ≤ 32 := by
  match ls, h with
  | [], h => simp [Mx.tmay] at h
  | l :: r, h =>
    change (if 1 ≤ l.length ∧ l.length ≤ 32 then Mx.tsame (l :: r) l else 3) = 0 at h
    split at h
    · rename_i h1
      exact ⟨by simp, h1.1, h1.2⟩
    · omega

set_option maxHeartbeats 4000000 in
set_option maxRecDepth 100000 in
theorem checkBoth_any (aa ab : Option Addr) (ka ca kb cb : Nat) (la lb : List (List Nat)) (w : World) (hla : Lvls w aa ka la) (hlb : Lvls w ab kb lb) :
    Calls Try.prog 100 #[.agg #[.slice aa ka ca], .agg #[.slice ab kb cb]] w fun e w' => e = .returned (errV (Mx.both la lb)) ∧ Below w.heap.size w w' := by
  have HLA := hide hla
  have HLB := hide hlb
  obtain ⟨w0, hw0⟩ : ∃ w0 : World, Hid (w0 = (w.alloc (.cells #[.slice aa ka ca] 82)).alloc (.cells #[.slice ab kb cb] 82)) := ⟨_, rfl⟩
  have B0 := hide (show Below w.heap.size w w0 by rw [hw0.out]; exact (below_alloc _ _).alloc (by simp) _)
  have X0 := hide (show Bx w0 w.heap.size #[.slice aa ka ca] 82 by rw [hw0.out]; exact (Bx.new w _ 82).alloc _)
  have Y0 := hide (show Bx w0 (w.heap.size + 1) #[.slice ab kb cb] 82 by
    rw [hw0.out]
    have h := Bx.new (w.alloc (.cells #[.slice aa ka ca] 82)) #[.slice ab kb cb] 82
    rw [World.size_alloc] at h
    exact h)
  clear hla hlb
  go_enter Try.func100, Try.ntmps100
  go_wp2_with fail
  rw [← hw0.out]
  refine (tcheck_any aa ka ca la w0 (HLA.out.later B0.out)).mono ?_
  rintro e w1 ⟨rfl, hb1⟩
  have X1 := hide (X0.out.later hb1 X0.out.lt)
  have Y1 := hide (Y0.out.later hb1 Y0.out.lt)
  have B1 := hide (B0.out.trans (hb1.mono B0.out.size))
  clear hb1
  by_cases hA : Mx.tmay la = 0
  · have HA := hide hA
    rw [hA, errV_zero]
    clear hA
    have y1 := Y1.out.one
    go_wp2_with fail
    refine (tcheck_any ab kb cb lb w1 (HLB.out.later B1.out)).mono ?_
    rintro e w2 ⟨rfl, hb2⟩
    have X2 := hide (X1.out.later hb2 X1.out.lt)
    have Y2 := hide (Y1.out.later hb2 Y1.out.lt)
    have B2 := hide (B1.out.trans (hb2.mono B1.out.size))
    clear hb2 y1
    by_cases hB : Mx.tmay lb = 0
    · have HB := hide hB
      rw [hB, errV_zero]
      clear hB
      have x2 := X2.out.one
      have y2 := Y2.out.one
      have hka : 0 < (ka : Int) := by have := (Mx.tmay_head HA.out).1; have := HLA.out.1; omega
      have hkb : 0 < (kb : Int) := by have := (Mx.tmay_head HB.out).1; have := HLB.out.1; omega
      have hkm : ka ≤ 9223372036854775807 := by have := HLA.out.2.1; unfold maxLen at this; omega
      have hkm2 : kb ≤ 9223372036854775807 := by have := HLB.out.2.1; unfold maxLen at this; omega
      obtain ⟨b, off, l, ai, ni, ci, hab, _, hl, hc, hu, _⟩ := (HLA.out.later B2.out).at_ 0 (by omega)
      obtain ⟨b', off', l', aj, nj, cj, hab', _, hl', hc', hu', _⟩ := (HLB.out.later B2.out).at_ 0 (by omega)
      subst hab hab'
      rw [Nat.add_zero] at hc hc'
      have hn : (la.getD 0 []).length = ni := by rw [List.getD_eq_getElem?_getD, hl]; exact hu.1
      have hn' : (lb.getD 0 []).length = nj := by rw [List.getD_eq_getElem?_getD, hl']; exact hu'.1
      have hnm : ni ≤ 9223372036854775807 := by have := hu.2.1; unfold maxLen at this; omega
      have hnm' : nj ≤ 9223372036854775807 := by have := hu'.2.1; unfold maxLen at this; omega
      clear hl hl' hu hu'
      by_cases hE : ni = nj
      · have HF := hide (Mx.both_d HA.out HB.out (by rw [hn, hn', hE]))
        have hne : ((ni : Int) != (nj : Int)) = false := by simp; omega
        clear hn hn' hE
        go_wp2_with fail
        go_quiet (fail)
        go_wp2_with fail
        go_ret
        exact ⟨by rw [HF.out] <;> rfl, below_drewN B2.out _⟩
      · have HF := hide (Mx.both_c HA.out HB.out (by rw [hn, hn']; exact hE))
        have hne : ((ni : Int) != (nj : Int)) = true := by simp; omega
        clear hn hn' hE
        go_wp2_with fail
        go_quiet (fail)
        go_wp2_with fail
        go_ret
        exact ⟨by rw [HF.out] <;> rfl, below_drewN B2.out _⟩
    · have HF := hide (Mx.both_b HA.out hB)
      obtain ⟨E, hEE⟩ : ∃ E : Int, Hid (E = Mx.tmay lb) := ⟨_, rfl⟩
      have HV := hide (show errV (Mx.tmay lb) = .iface 26 (.int .i64 E) by rw [errV_not hB, hEE.out])
      rw [HV.out]
      clear hB
      go_wp2_with fail
      go_ret
      exact ⟨by rw [HF.out, HV.out] <;> rfl, B2.out⟩
  · have HF := hide (Mx.both_a (lb := lb) hA)
    obtain ⟨E, hEE⟩ : ∃ E : Int, Hid (E = Mx.tmay la) := ⟨_, rfl⟩
    have HV := hide (show errV (Mx.tmay la) = .iface 26 (.int .i64 E) by rw [errV_not hA, hEE.out])
    rw [HV.out]
    clear hA
    go_wp2_with fail
    go_ret
    exact ⟨by rw [HF.out, HV.out] <;> rfl, B1.out⟩

theorem ownsRow_lower {w : World} {base base' e size : Nat} {v : Value} {n : Nat} {xs : List Value} (h : w.ownsRow base e size v n xs) (hb : base' ≤ base) : w.ownsRow base' e size v n xs := by
  obtain ⟨h1, h2⟩ := h
  rcases h2 with h2 | ⟨g, cap, cur, hv, hg, h3⟩
  · exact ⟨h1, .inl h2⟩
  · exact ⟨h1, .inr ⟨g, cap, cur, hv, by omega, h3⟩⟩

/-- Diff's four boxes -/
def D4 (w : World) (va vb : Value) : World := (((w.alloc (.cells #[va] 82)).alloc (.cells #[vb] 82)).alloc (.cells #[.slice none 0 0] 22)).alloc (.cells #[.int .i64 0] 3)
theorem D4_box (w : World) (va vb : Value) : Bx (D4 w va vb) w.heap.size #[va] 82 ∧ Bx (D4 w va vb) (w.heap.size + 1) #[vb] 82 ∧ Bx (D4 w va vb) (w.heap.size + 2) #[.slice none 0 0] 22 ∧ Bx (D4 w va vb) (w.heap.size + 3) #[.int .i64 0] 3 ∧ Below w.heap.size w (D4 w va vb) ∧ (D4 w va vb).heap.size = w.heap.size + 4 := by
  refine ⟨((((Bx.new w _ _).alloc _).alloc _).alloc _), ?_, ?_, ?_, ?_, by simp [D4]⟩
  · have h := ((Bx.new (w.alloc (.cells #[va] 82)) #[vb] 82).alloc (.cells #[.slice none 0 0] 22)).alloc (.cells #[.int .i64 0] 3)
    rw [World.size_alloc] at h
    exact h
  · have h := (Bx.new ((w.alloc (.cells #[va] 82)).alloc (.cells #[vb] 82)) #[.slice none 0 0] 22).alloc (.cells #[.int .i64 0] 3)
    rw [World.size_alloc, World.size_alloc] at h
    exact h
  · have h := Bx.new (((w.alloc (.cells #[va] 82)).alloc (.cells #[vb] 82)).alloc (.cells #[.slice none 0 0] 22)) #[.int .i64 0] 3
    rw [World.size_alloc, World.size_alloc, World.size_alloc] at h
    exact h
  · exact (((below_alloc _ _).alloc (by simp) _).alloc (by simp; omega) _).alloc (by simp; omega) _

set_option maxHeartbeats 4000000 in
set_option maxRecDepth 100000 in
theorem diff_err (aa ab : Option Addr) (ka ca kb cb : Nat) (la lb : List (List Nat)) (w : World) (hla : Lvls w aa ka la) (hlb : Lvls w ab kb lb) (hE : ¬ Mx.both la lb = 0) :
    Calls Try.prog 53 #[.agg #[.slice aa ka ca], .agg #[.slice ab kb cb]] w fun e w' => e = .returned (.tuple #[.slice none 0 0, .int .i64 0, errV (Mx.both la lb)]) ∧ Below w.heap.size w w' := by
  have HLA := hide hla
  have HLB := hide hlb
  obtain ⟨w0, hw0⟩ : ∃ w0 : World, Hid (w0 = D4 w (.slice aa ka ca) (.slice ab kb cb)) := ⟨_, rfl⟩
  have BX := hide (D4_box w (.slice aa ka ca) (.slice ab kb cb))
  rw [← hw0.out] at BX
  obtain ⟨E, hEE⟩ : ∃ E : Int, Hid (E = Mx.both la lb) := ⟨_, rfl⟩
  have HV := hide (show errV (Mx.both la lb) = .iface 26 (.int .i64 E) by rw [errV_not hE, hEE.out])
  clear hla hlb hE
  go_enter Try.func53, Try.ntmps53
  go_wp2_with fail
  change Calls Try.prog 100 _ (D4 w (.slice aa ka ca) (.slice ab kb cb)) _
  rw [← hw0.out]
  obtain ⟨h1, h2, h3, h4, h5, h6⟩ := BX.out
  have B0 := hide h5
  refine (checkBoth_any aa ab ka ca kb cb la lb w0 (HLA.out.later B0.out) (HLB.out.later B0.out)).mono ?_
  rintro e w1 ⟨rfl, hb1⟩
  rw [HV.out]
  have P1 := hide (h3.later hb1 h3.lt)
  have Q1 := hide (h4.later hb1 h4.lt)
  have B1 := hide (B0.out.trans (hb1.mono B0.out.size))
  clear hb1 h1 h2 h3 h4 h5 h6
  have p1 := P1.out.one
  have q1 := Q1.out.one
  have pz := P1.out.frozen
  have qz := Q1.out.frozen
  go_wp2_with fail
  have P2 := (show Bx _ _ #[.slice none 0 0] 22 from P1.out.set 0 (.slice none 0 0)).other ⟨w.heap.size + 3, 0, none⟩ (.int .i64 0) (by show w.heap.size + 2 ≠ w.heap.size + 3; omega)
  have Q2 := (show Bx _ _ #[.int .i64 0] 3 from (Q1.out.other ⟨w.heap.size + 2, 0, none⟩ (.slice none 0 0) (by show w.heap.size + 3 ≠ w.heap.size + 2; omega)).set 0 (.int .i64 0))
  have p2 := P2.one
  have q2 := Q2.one
  refine bodyPost_ret (v := .tuple #[.slice none 0 0, .int .i64 0, .iface 26 (.int .i64 E)]) (by simp [results, Try.results53, go_sem, p2, q2]) rfl ⟨by rw [HV.out], (B1.out.setCell (p := ⟨w.heap.size + 2, 0, none⟩) (by show w.heap.size ≤ w.heap.size + 2; omega) _).setCell (p := ⟨w.heap.size + 3, 0, none⟩) (by show w.heap.size ≤ w.heap.size + 3; omega) _⟩

set_option maxHeartbeats 4000000 in
set_option maxRecDepth 100000 in
theorem diff_ok (aa ab : Option Addr) (ka ca kb cb : Nat) (la lb : List (List Nat)) (w : World) (hla : Lvls w aa ka la) (hlb : Lvls w ab kb lb) (hE : Mx.both la lb = 0) (hk : ka = kb) (hk2 : ka ≤ 1000) (hlen : ∀ L, (la.getD L []).length = (lb.getD L []).length) (hsm : ∀ L, (la.getD L []).length ≤ 1000)
    (L : Nat) (hL : ka = L + 1) (h0 : 0 < (la.getD L []).length) (hA : Mx.dasked la lb L 0 ≤ 1000000) (hP : (Mx.dplaces la lb L 0).length ≤ 1000000) :
    Calls Try.prog 53 #[.agg #[.slice aa ka ca], .agg #[.slice ab kb cb]] w fun e w' => ∃ vP, e = .returned (.tuple #[vP, .int .i64 (Mx.dasked la lb L 0 : Int), .nilIface]) ∧ Hid (OwnI w' w.heap.size vP ((Mx.dplaces la lb L 0).map fun x : Nat => (x : Int))) ∧ Hid (Below w.heap.size w w') := by
  subst hk
  have HLA := hide hla
  have HLB := hide hlb
  have HKL := hide hL
  obtain ⟨w0, hw0⟩ : ∃ w0 : World, Hid (w0 = D4 w (.slice aa ka ca) (.slice ab ka cb)) := ⟨_, rfl⟩
  have BX := hide (D4_box w (.slice aa ka ca) (.slice ab ka cb))
  rw [← hw0.out] at BX
  have HV := hide (show errV (Mx.both la lb) = .nilIface by rw [hE, errV_zero])
  have HLEN := hide hlen
  have HSM := hide hsm
  have H0 := hide h0
  have HA := hide hA
  have HP := hide hP
  have hLe : (ka : Int) - 1 = (L : Int) := by omega
  have hmf : ∀ (fn : Fn) (first cap : Array Value) (w : World), (Instr.makeFunc fn first cap).run Try.prog w = .ok (.func fn first cap) w := fun _ _ _ _ => rfl
  clear hla hlb hE hlen hsm h0 hA hP hL
  go_enter Try.func53, Try.ntmps53
  go_wp2_with fail
  change Calls Try.prog 100 _ (D4 w (.slice aa ka ca) (.slice ab ka cb)) _
  rw [← hw0.out]
  obtain ⟨h1, h2, h3, h4, h5, h6⟩ := BX.out
  have B0 := hide h5
  refine (checkBoth_any aa ab ka ca ka cb la lb w0 (HLA.out.later B0.out) (HLB.out.later B0.out)).mono ?_
  rintro e w1 ⟨rfl, hb1⟩
  rw [HV.out]
  have X1 := hide (h1.later hb1 h1.lt)
  have Y1 := hide (h2.later hb1 h2.lt)
  have P1 := hide (h3.later hb1 h3.lt)
  have Q1 := hide (h4.later hb1 h4.lt)
  have B1 := hide (B0.out.trans (hb1.mono B0.out.size))
  have hs1 : w.heap.size + 4 ≤ w1.heap.size := by have := hb1.size; omega
  clear hb1 h1 h2 h3 h4 h5 h6
  have x1 := X1.out.one
  obtain ⟨w2, hw2⟩ : ∃ w2 : World, Hid (w2 = w1.alloc (.cells #[.func (.func 101) #[] #[.pointer (some ⟨w.heap.size + 3, 0, none⟩), .pointer (some ⟨w.heap.size, 0, none⟩), .pointer (some ⟨w.heap.size + 1, 0, none⟩), .pointer (some ⟨w.heap.size + 2, 0, none⟩), .pointer (some ⟨w1.heap.size, 0, none⟩)]] 141)) := ⟨_, rfl⟩
  have H2 := hide (show HI w w1.heap.size (.slice aa ka ca) (.slice ab ka cb) 0 [] w2 by
    rw [hw2.out]
    exact ⟨.slice none 0 0, X1.out.alloc _, Y1.out.alloc _, P1.out.alloc _, Q1.out.alloc _, Bx.new _ _ _, OwnI.nil _ _, B1.out.alloc B1.out.size _, hs1⟩)
  have hx1 : w.heap.size < w1.heap.size := by omega
  go_wp2_with fail
  rw [← hw2.out]
  clear x1
  refine (hold_any w w1.heap.size aa ab ka ca ka cb la lb HLA.out HLB.out rfl hk2 HLEN.out HSM.out L 0 0 [] w2 (by have := HKL.out; omega) H0.out H2.out (by have := HA.out; omega) (by have := HP.out; simpa using this)).mono ?_
  rintro e w3 ⟨rfl, hH3⟩
  rw [Nat.zero_add, List.nil_append] at hH3
  obtain ⟨A, hAe⟩ : ∃ A : Nat, Hid (A = Mx.dasked la lb L 0) := ⟨_, rfl⟩
  rw [← hAe.out] at hH3
  have H3 := hide hH3
  obtain ⟨vP, _, _, p3, q3, _, o3, b3, _⟩ := hH3
  obtain ⟨aP, cP, hvP, _⟩ := o3.ints
  obtain ⟨N, hN⟩ : ∃ N : Nat, Hid (N = ((Mx.dplaces la lb L 0).map fun x : Nat => (x : Int)).length) := ⟨_, rfl⟩
  rw [← hN.out] at hvP
  subst hvP
  have P3 := hide p3
  have Q3 := hide q3
  have O3 := hide o3
  have B3 := hide b3
  clear p3 q3 o3 b3
  have p3 := P3.out.one
  have q3 := Q3.out.one
  have pz := P3.out.frozen
  have qz := Q3.out.frozen
  go_wp2_with fail
  go_region
  have P4 := (show Bx _ _ #[.slice aP N cP] 22 from P3.out.set 0 (.slice aP N cP)).other ⟨w.heap.size + 3, 0, none⟩ (.int .i64 (A : Int)) (by show w.heap.size + 2 ≠ w.heap.size + 3; omega)
  have Q4 := (show Bx _ _ #[.int .i64 (A : Int)] 3 from (Q3.out.other ⟨w.heap.size + 2, 0, none⟩ (.slice aP N cP) (by show w.heap.size + 3 ≠ w.heap.size + 2; omega)).set 0 (.int .i64 (A : Int)))
  have p4 := P4.one
  have q4 := Q4.one
  have hne : ∀ g, (Value.slice aP N cP).ownBlock = some g → w.heap.size + 4 ≤ g := fun g hg => by have := (World.ownsRow.lt O3.out g hg).1; omega
  have HO := hide (show OwnI ((w3.setCell ⟨w.heap.size + 2, 0, none⟩ (.slice aP N cP)).setCell ⟨w.heap.size + 3, 0, none⟩ (.int .i64 (A : Int))) w.heap.size (.slice aP N cP) ((Mx.dplaces la lb L 0).map fun x : Nat => (x : Int)) from
    ownsRow_lower (ownsRow_other (ownsRow_other O3.out ⟨w.heap.size + 2, 0, none⟩ _ (fun e => by have := hne _ e; change w.heap.size + 4 ≤ w.heap.size + 2 at this; omega)) ⟨w.heap.size + 3, 0, none⟩ _ (fun e => by have := hne _ e; change w.heap.size + 4 ≤ w.heap.size + 3 at this; omega)) (by omega))
  have HB := hide ((B3.out.setCell (p := ⟨w.heap.size + 2, 0, none⟩) (by show w.heap.size ≤ w.heap.size + 2; omega) (.slice aP N cP)).setCell (p := ⟨w.heap.size + 3, 0, none⟩) (by show w.heap.size ≤ w.heap.size + 3; omega) (.int .i64 (A : Int)))
  clear hne
  go_wp2_with fail
  refine bodyPost_ret (v := .tuple #[.slice aP N cP, .int .i64 (A : Int), .nilIface]) (by simp [results, Try.results53, go_sem, p4, q4]) rfl ⟨.slice aP N cP, by rw [← hAe.out], ?_, ?_⟩
  · exact rowKept HO.out (Below.refl _ _).drew
  · exact HB.out.drew

end Go.Proofs.Ytdhmijjphgcdmaa

/-
  Where two trees differ, as the document's answer has it (Differs): level by level.
-/
namespace Go.Proofs.Ytdhmijjphgcdmaa
open Go.RowKit

namespace Mx
/-- the first of the places below a place -/
def kidsP (n x k : Nat) : List Nat := (List.range (min (x * 4 + k) n - x * 4)).map fun j => x * 4 + j
theorem kidsP_zero (n x : Nat) : kidsP n x 0 = [] := by unfold kidsP; rw [show min (x * 4 + 0) n - x * 4 = 0 by omega]; rfl
theorem kidsP_four (n x : Nat) : kidsP n x 4 = kids n x := rfl
theorem kidsP_in {n x k : Nat} (h : x * 4 + k < n) : kidsP n x (k + 1) = kidsP n x k ++ [x * 4 + k] := by
  unfold kidsP
  rw [show min (x * 4 + (k + 1)) n - x * 4 = k + 1 by omega, show min (x * 4 + k) n - x * 4 = k by omega, List.range_succ, List.map_append]
  rfl
theorem kidsP_out {n x k : Nat} (h : ¬ x * 4 + k < n) : kidsP n x (k + 1) = kidsP n x k := by
  unfold kidsP
  rw [show min (x * 4 + (k + 1)) n = min (x * 4 + k) n by omega]
theorem kidsP_len (n x k : Nat) : (kidsP n x k).length ≤ k := by unfold kidsP; simp; omega
theorem dnext_same {la lb : List (List Nat)} {L t x : Nat} {now : List Nat} (hx : now[t]? = some x) (h : nd la (L + 1) x = nd lb (L + 1) x) : dnext la lb L (now.take (t + 1)) = dnext la lb L (now.take t) := by
  have ht : t < now.length := (List.getElem?_eq_some_iff.1 hx).1
  have hxe : now[t] = x := by rw [List.getElem?_eq_getElem ht] at hx; exact Option.some.inj hx
  rw [List.take_succ_eq_append_getElem ht, dnext, List.flatMap_append, dnext, hxe]
  simp [h]
theorem dnext_unlike {la lb : List (List Nat)} {L t x : Nat} {now : List Nat} (hx : now[t]? = some x) (h : ¬ nd la (L + 1) x = nd lb (L + 1) x) : dnext la lb L (now.take (t + 1)) = dnext la lb L (now.take t) ++ kids (la.getD L []).length x := by
  have ht : t < now.length := (List.getElem?_eq_some_iff.1 hx).1
  have hxe : now[t] = x := by rw [List.getElem?_eq_getElem ht] at hx; exact Option.some.inj hx
  rw [List.take_succ_eq_append_getElem ht, dnext, List.flatMap_append, dnext, hxe]
  simp [h]
theorem dplacesL_same {la lb : List (List Nat)} {t x : Nat} {now : List Nat} (hx : now[t]? = some x) (h : nd la 0 x = nd lb 0 x) : dplacesL la lb 0 (now.take (t + 1)) = dplacesL la lb 0 (now.take t) := by
  have ht : t < now.length := (List.getElem?_eq_some_iff.1 hx).1
  have hxe : now[t] = x := by rw [List.getElem?_eq_getElem ht] at hx; exact Option.some.inj hx
  rw [List.take_succ_eq_append_getElem ht, dplacesL, List.flatMap_append, dplacesL, hxe]
  simp [dplaces, h]
theorem dplacesL_unlike {la lb : List (List Nat)} {t x : Nat} {now : List Nat} (hx : now[t]? = some x) (h : ¬ nd la 0 x = nd lb 0 x) : dplacesL la lb 0 (now.take (t + 1)) = dplacesL la lb 0 (now.take t) ++ [x] := by
  have ht : t < now.length := (List.getElem?_eq_some_iff.1 hx).1
  have hxe : now[t] = x := by rw [List.getElem?_eq_getElem ht] at hx; exact Option.some.inj hx
  rw [List.take_succ_eq_append_getElem ht, dplacesL, List.flatMap_append, dplacesL, hxe]
  simp [dplaces, h]
theorem daskedL_ge (la lb : List (List Nat)) (L : Nat) (now : List Nat) : now.length ≤ daskedL la lb L now := by
  unfold daskedL
  induction now with
  | nil => simp
  | cons x now ih =>
    rw [List.map_cons, List.sum_cons, List.length_cons]
    have := dasked_pos la lb L x
    omega
theorem dplacesL_len (la lb : List (List Nat)) (now : List Nat) : (dplacesL la lb 0 now).length ≤ now.length := by
  unfold dplacesL
  induction now with
  | nil => simp
  | cons x now ih =>
    rw [List.flatMap_cons, List.length_append, List.length_cons]
    have := dplaces_le la lb 0 x
    omega
end Mx

/-- numbers from 0 on, read -/
def NI (w : World) (a : Option Addr) (n : Nat) (l : List Nat) : Prop := Ints w a n (l.map fun x : Nat => (x : Int))
theorem NI.later {w w' : World} {a : Option Addr} {n : Nat} {l : List Nat} (h : NI w a n l) (hb : Below w.heap.size w w') : NI w' a n l := Ints.later h hb
theorem NI.at_ {w : World} {a : Option Addr} {n : Nat} {l : List Nat} (h : NI w a n l) (k : Nat) (hk : k < n) :
    ∃ b off, ∃ x : Nat, a = some ⟨b, off, none⟩ ∧ b < w.heap.size ∧ l[k]? = some x ∧ w.cell? ⟨b, off + k, none⟩ = some (.int .i64 (x : Int)) := by
  obtain ⟨b, off, x, ha, hb, hx, hc⟩ := Ints.at_ h k hk
  have hl : k < l.length := by have := h.1; simp at this; omega
  refine ⟨b, off, l[k], ha, hb, List.getElem?_eq_getElem hl, ?_⟩
  rw [hc, ← hx, List.getD_eq_getElem?_getD, List.getElem?_map, List.getElem?_eq_getElem hl]
  rfl

/-- where the answer stands, so many levels to go -/
def DW (la lb : List (List Nat)) (w wr : World) (total : List Nat) (many R : Nat) (As : Nat) (vP : Value) (aN : Option Addr) (nN : Nat) : Prop :=
  match R with
  | 0 => OwnI wr w.heap.size vP (total.map fun x : Nat => (x : Int)) ∧ As = many
  | R + 1 => vP = .slice none 0 0 ∧ ∃ Nw, NI wr aN nN Nw ∧ (∀ x ∈ Nw, x < (la.getD R []).length) ∧ Mx.dplacesL la lb R Nw = total ∧ As + Mx.daskedL la lb R Nw = many

set_option maxHeartbeats 8000000 in
set_option maxRecDepth 100000 in
theorem differs_any (aa ab : Option Addr) (ka ca cb : Nat) (la lb : List (List Nat)) (w : World) (hla : Lvls w aa ka la) (hlb : Lvls w ab ka lb) (hk2 : ka ≤ 1000) (hlen : ∀ L, (la.getD L []).length = (lb.getD L []).length) (hsm : ∀ L, (la.getD L []).length ≤ 1000)
    (L : Nat) (hL : ka = L + 1) (h0 : 0 < (la.getD L []).length) (hA : Mx.dasked la lb L 0 ≤ 1000) :
    Calls Try.prog 52 #[.agg #[.slice aa ka ca], .agg #[.slice ab ka cb]] w fun e w' => ∃ vP, e = .returned (.tuple #[vP, .int .i64 (Mx.dasked la lb L 0 : Int)]) ∧ Hid (OwnI w' w.heap.size vP ((Mx.dplaces la lb L 0).map fun x : Nat => (x : Int))) ∧ Hid (Below w.heap.size w w') := by
  have HLA := hide hla
  have HLB := hide hlb
  have HKL := hide hL
  have HLEN := hide hlen
  have HSM := hide hsm
  have H0 := hide h0
  obtain ⟨A, hAe⟩ : ∃ A : Nat, Hid (A = Mx.dasked la lb L 0) := ⟨_, rfl⟩
  have hA2 : A ≤ 1000 := by rw [hAe.out]; exact hA
  obtain ⟨w0, hw0⟩ : ∃ w0 : World, Hid (w0 = ((w.alloc (.cells #[.slice aa ka ca] 82)).alloc (.cells #[.slice ab ka cb] 82)).alloc (.cells #[.int .i64 0] 3)) := ⟨_, rfl⟩
  have X0 := hide (show Bx w0 w.heap.size #[.slice aa ka ca] 82 by rw [hw0.out]; exact ((Bx.new w _ _).alloc _).alloc _)
  have Y0 := hide (show Bx w0 (w.heap.size + 1) #[.slice ab ka cb] 82 by
    rw [hw0.out]
    have h := (Bx.new (w.alloc (.cells #[.slice aa ka ca] 82)) #[.slice ab ka cb] 82).alloc (.cells #[.int .i64 0] 3)
    rw [World.size_alloc] at h
    exact h)
  have Z0 := hide (show Bx w0 (w.heap.size + 2) #[.int .i64 0] 3 by
    rw [hw0.out]
    have h := Bx.new ((w.alloc (.cells #[.slice aa ka ca] 82)).alloc (.cells #[.slice ab ka cb] 82)) #[.int .i64 0] 3
    rw [World.size_alloc, World.size_alloc] at h
    exact h)
  have B0 := hide (show Below w.heap.size w w0 by rw [hw0.out]; exact ((below_alloc _ _).alloc (by simp) _).alloc (by simp; omega) _)
  have hLe : (ka : Int) - 1 = (L : Int) := by omega
  have x0 := X0.out.one
  clear hla hlb hlen hsm h0 hA hL
  rw [show Mx.dasked la lb L 0 = A from hAe.out.symm]
  go_enter Try.func52, Try.ntmps52
  go_wp2_with fail
  rw [← hw0.out]
  clear x0
  go_loopw [6, 7, 8, 9] (fun p q nw l wr => ∃ (R As nN cN : Nat) (aN : Option Addr), q = .int .i64 (As : Int) ∧ nw = .slice aN nN cN ∧ l = .int .i64 ((R : Int) - 1) ∧ R ≤ ka ∧ As ≤ 1000 ∧ Hid (DW la lb w wr (Mx.dplaces la lb L 0) A R As p aN nN) ∧ Hid (Bx wr w.heap.size #[.slice aa ka ca] 82) ∧ Hid (Bx wr (w.heap.size + 1) #[.slice ab ka cb] 82) ∧ Hid (Below w.heap.size w wr)) (fun _ _ _ l _ => (intOf l + 1).toNat)
  case atStart =>
    refine ⟨L + 1, 0, 1, 1, some ⟨w.heap.size + 2, 0, none⟩, rfl, rfl, by go_num, by have := HKL.out; omega, by omega, ?_, X0, Y0, B0⟩
    refine ⟨rfl, [0], ⟨rfl, by unfold maxLen; omega, fun _ => ⟨w.heap.size + 2, 0, rfl, Z0.out.lt, fun i hi => ?_⟩⟩, ?_, ?_, ?_⟩
    · rw [show i = 0 by omega]
      exact Z0.out.one
    · intro x hx
      simp at hx
      rw [hx]
      exact H0.out
    · simp [Mx.dplacesL]
    · simp [Mx.daskedL, hAe.out]
  case round =>
    obtain ⟨R, As, nN, cN, aN, rfl, rfl, rfl, hR, hAs, hD, hX, hY, hB⟩ := hrel
    obtain ⟨wo, rfl⟩ : ∃ wo, wo = wr := ⟨wr, rfl⟩
    have x1 := hX.out.one
    have y1 := hY.out.one
    match R, hR, hD with
    | 0, hR, hD =>
      obtain ⟨ho, hA3⟩ := hD.out
      have HO := hide ho
      have HA3 := hide hA3
      clear ho hA3
      go_wp2_with fail
      go_ret2
      exact ⟨_, by rw [HA3.out] <;> rfl, HO, hB⟩
    | 1, hR, hD =>
      obtain ⟨hp, Nw, hN0, hlt0, hpl, has⟩ := hD.out
      subst hp
      have hN := hide hN0
      have hlt2 := hide hlt0
      have HPL := hide hpl
      have HAS := hide (show As + nN = A by rw [← has, Mx.dasked_zero]; have := hN0.1; simp at this; omega)
      have hNA : nN ≤ 1000 := by have := HAS.out; omega
      clear hN0 hlt0 hpl has hD
      go_wp2_with fail
      go_loopw [6, 7, 10, 11] (fun p q nx i wx => ∃ t : Nat, i = .int .i64 (t : Int) ∧ t ≤ nN ∧ q = .int .i64 ((As : Int) + (t : Int)) ∧ nx = .slice none 0 0 ∧ Hid (OwnI wx wo.heap.size p ((Mx.dplacesL la lb 0 (Nw.take t)).map fun x : Nat => (x : Int))) ∧ Hid (Below wo.heap.size wo wx)) (fun _ _ _ i _ => nN - (intOf i).toNat)
      case atStart => exact ⟨0, rfl, Nat.zero_le _, by go_num, rfl, OwnI.nil _ _, Below.refl _ _⟩
      case round =>
        obtain ⟨t, rfl, ht, rfl, rfl, hO, hG⟩ := hrel
        obtain ⟨wm, rfl⟩ : ∃ wm, wm = wr := ⟨wr, rfl⟩
        clear x1 y1
        by_cases hlt : t < nN
        · have BWX := hide (hB.out.trans (hG.out.mono hB.out.size))
          have X2 := hide (hX.out.later hG.out hX.out.lt)
          have Y2 := hide (hY.out.later hG.out hY.out.lt)
          have x2 := X2.out.one
          have y2 := Y2.out.one
          obtain ⟨b3, off3, x, hab3, _, hx, e3⟩ := (hN.out.later hG.out).at_ t hlt
          subst hab3
          have HXM := hide hx
          have HXL := hide (hlt2.out x (List.mem_of_getElem? hx))
          clear hx
          obtain ⟨b, off, bi, offi, ni, ci, d, hab, _, c1, hni, c2, hd⟩ := (HLA.out.later BWX.out).nd_ 0 x (by omega) HXL.out
          obtain ⟨b', off', bj, offj, nj, cj, d', hab', _, d1, hnj, d2, hd'⟩ := (HLB.out.later BWX.out).nd_ 0 x (by omega) (by rw [← HLEN.out 0]; exact HXL.out)
          cases hab
          cases hab'
          have hin : (x : Int) < ni := by have := HXL.out; omega
          have hinj : (x : Int) < nj := by have := HXL.out; have := HLEN.out 0; omega
          have hni2 : (ni : Int) ≤ 1000 := by have := HSM.out 0; omega
          have hnj2 : (nj : Int) ≤ 1000 := by have := HSM.out 0; have := HLEN.out 0; omega
          have HDA := hide hd
          have HDB := hide hd'
          clear hni hnj hd hd'
          rw [Nat.add_zero] at c1 d1
          have hti : (t : Int) < nN := by omega
          by_cases hE : Mx.nd la 0 x = Mx.nd lb 0 x
          · obtain rfl : d = d' := by rw [HDA.out, HDB.out, hE]
            have HO2 := hide (show OwnI wm wo.heap.size _ ((Mx.dplacesL la lb 0 (Nw.take (t + 1))).map fun x : Nat => (x : Int)) by rw [Mx.dplacesL_same HXM.out hE]; exact hO.out)
            clear hE
            go_wp2_with fail
            go_quiet (fail)
            go_wp2_with fail
            go_roundw
            case rel => exact ⟨t + 1, by go_num, by omega, by go_num, rfl, rowKept HO2.out (below_drewN (Below.refl _ _) _), below_drewN hG.out _⟩
            case measure => simp [intOf]; omega
          · have hne : ((d : Int) == (d' : Int)) = false := by
              have : ¬ d = d' := by rw [HDA.out, HDB.out]; exact hE
              simp
              omega
            have HE := hide hE
            clear hE
            have HSZ := hide hG.out.size
            go_wp2_with fail
            go_quiet (fail)
            go_wp2_with (at_builtin; refine wpList_append_int rfl _ _ rfl wo.heap.size ((Mx.dplacesL la lb 0 (Nw.take t)).map fun x : Nat => (x : Int)) ?o1 (x : Int) ?o2 ?o3 ?o4 ?_)
            case o1 => exact rowKept hO.out (below_drewN (Below.refl _ _) _)
            case o2 => rfl
            case o3 =>
              rw [List.length_map]
              have h1 := Mx.dplacesL_len la lb (Nw.take t)
              have h2 := List.length_take_le t Nw
              omega
            case o4 => exact HSZ.out
            intro ad c5 w5 hown5 hbel5 hge5
            obtain ⟨N5, hN5⟩ : ∃ N5 : Nat, Hid (N5 = (Mx.dplacesL la lb 0 (Nw.take t)).length) := ⟨_, rfl⟩
            rw [← hN5.out] at hown5
            have HO5 := hide (show OwnI w5 wo.heap.size (.slice (some ad) (N5 + 1) c5) ((Mx.dplacesL la lb 0 (Nw.take (t + 1))).map fun x : Nat => (x : Int)) by rw [Mx.dplacesL_unlike HXM.out HE.out, List.map_append]; exact hown5)
            have HG5 := hide (show Below wo.heap.size wo w5 from (below_drewN hG.out _).trans hbel5)
            rw [← hN5.out]
            clear hown5 hbel5 hge5 x2 y2 e3 c1 c2 d1 d2
            go_wp2_with fail
            go_roundw
            case rel => exact ⟨t + 1, by go_num, by omega, by go_num, rfl, HO5, HG5⟩
            case measure => simp [intOf]; omega
        · have HT := hide (show Nw.take t = Nw from List.take_of_length_le (by have := hN.out.1; simp at this; omega))
          have hti : ¬ (t : Int) < nN := by omega
          have HO2 := hide (show OwnI wm w.heap.size _ ((Mx.dplaces la lb L 0).map fun x : Nat => (x : Int)) by rw [← HPL.out, ← HT.out]; exact ownsRow_lower hO.out hB.out.size)
          have BWX := hide (hB.out.trans (hG.out.mono hB.out.size))
          have X2 := hide (hX.out.later hG.out hX.out.lt)
          have Y2 := hide (hY.out.later hG.out hY.out.lt)
          go_wp2_with fail
          go_roundw
          case rel => exact ⟨0, As + t, 0, 0, none, by go_num, rfl, by go_num, by omega, by have := HAS.out; omega, ⟨HO2.out, by have := HAS.out; omega⟩, X2, Y2, BWX⟩
          case measure => simp [intOf]
    | R + 2, hR, hD =>
      obtain ⟨hp, Nw, hN0, hlt0, hpl, has⟩ := hD.out
      subst hp
      have hN := hide hN0
      have hlt2 := hide hlt0
      have HPL := hide hpl
      have HAS := hide has
      have hNA : nN ≤ 1000 := by have h1 := Mx.daskedL_ge la lb (R + 1) Nw; have h2 := hN0.1; simp at h2; omega
      clear hN0 hlt0 hpl has hD
      obtain ⟨LV, hLV⟩ : ∃ LV : Nat, Hid (LV = R + 1) := ⟨_, rfl⟩
      have hLVe : (((R + 2 : Nat) : Int) - 1) = (LV : Int) := by have := hLV.out; omega
      rw [hLVe]
      clear hLVe
      have hLVk : LV < ka := by have := hLV.out; omega
      have hLVi : (LV : Int) < ka := by omega
      have hLV1 : (LV : Int) - 1 = (R : Int) := by have := hLV.out; omega
      have hLV0 : ((LV : Int) == 0) = false := by have := hLV.out; simp; omega
      have hLVp : (0 : Int) ≤ LV := by omega
      rw [← hLV.out] at hlt2
      obtain ⟨n, hn⟩ : ∃ n : Nat, Hid (n = (la.getD R []).length) := ⟨_, rfl⟩
      have hn2 : (n : Int) ≤ 1000 := by have := HSM.out R; have := hn.out; omega
      go_wp2_with fail
      go_loopw [6, 7, 10, 11] (fun p q nx i wx => ∃ t : Nat, i = .int .i64 (t : Int) ∧ t ≤ nN ∧ q = .int .i64 ((As : Int) + (t : Int)) ∧ p = .slice none 0 0 ∧ Hid (OwnI wx wo.heap.size nx ((Mx.dnext la lb R (Nw.take t)).map fun x : Nat => (x : Int))) ∧ Hid (Below wo.heap.size wo wx)) (fun _ _ _ i _ => nN - (intOf i).toNat)
      case atStart => exact ⟨0, rfl, Nat.zero_le _, by go_num, rfl, OwnI.nil _ _, Below.refl _ _⟩
      case round =>
        obtain ⟨t, rfl, ht, rfl, rfl, hO, hG⟩ := hrel
        obtain ⟨wm, rfl⟩ : ∃ wm, wm = wr := ⟨wr, rfl⟩
        clear x1 y1
        by_cases hlt : t < nN
        · have BWX := hide (hB.out.trans (hG.out.mono hB.out.size))
          have X2 := hide (hX.out.later hG.out hX.out.lt)
          have Y2 := hide (hY.out.later hG.out hY.out.lt)
          have x2 := X2.out.one
          have y2 := Y2.out.one
          obtain ⟨b3, off3, x, hab3, _, hx, e3⟩ := (hN.out.later hG.out).at_ t hlt
          subst hab3
          have HXM := hide hx
          have HXL := hide (hlt2.out x (List.mem_of_getElem? hx))
          clear hx
          obtain ⟨b, off, bi, offi, ni, ci, d, hab, _, c1, hni, c2, hd⟩ := (HLA.out.later BWX.out).nd_ LV x (by omega) HXL.out
          obtain ⟨b', off', bj, offj, nj, cj, d', hab', _, d1, hnj, d2, hd'⟩ := (HLB.out.later BWX.out).nd_ LV x (by omega) (by rw [← HLEN.out LV]; exact HXL.out)
          cases hab
          cases hab'
          have hin : (x : Int) < ni := by have := HXL.out; omega
          have hinj : (x : Int) < nj := by have := HXL.out; have := HLEN.out LV; omega
          have hni2 : (ni : Int) ≤ 1000 := by have := HSM.out LV; omega
          have hnj2 : (nj : Int) ≤ 1000 := by have := HSM.out LV; have := HLEN.out LV; omega
          have HDA := hide hd
          have HDB := hide hd'
          clear hni hnj hd hd'
          have hti : (t : Int) < nN := by omega
          by_cases hE : Mx.nd la LV x = Mx.nd lb LV x
          · obtain rfl : d = d' := by rw [HDA.out, HDB.out, hE]
            have HO2 := hide (show OwnI wm wo.heap.size _ ((Mx.dnext la lb R (Nw.take (t + 1))).map fun x : Nat => (x : Int)) by rw [Mx.dnext_same HXM.out (by rw [← hLV.out]; exact hE)]; exact hO.out)
            clear hE
            go_wp2_with fail
            go_quiet (fail)
            go_wp2_with fail
            go_roundw
            case rel => exact ⟨t + 1, by go_num, by omega, by go_num, rfl, rowKept HO2.out (below_drewN (Below.refl _ _) _), below_drewN hG.out _⟩
            case measure => simp [intOf]; omega
          · have hne : ((d : Int) == (d' : Int)) = false := by
              have : ¬ d = d' := by rw [HDA.out, HDB.out]; exact hE
              simp
              omega
            have HNX := hide (Mx.dnext_unlike (lb := lb) HXM.out (by rw [← hLV.out]; exact hE))
            rw [← hn.out] at HNX
            clear hE
            obtain ⟨NP, hNP⟩ : ∃ NP : List Nat, Hid (NP = Mx.dnext la lb R (Nw.take t)) := ⟨_, rfl⟩
            rw [← hNP.out] at HNX hO
            have HNPL := hide (show NP.length ≤ 4000 by
              rw [hNP.out]
              have h1 := Mx.dnext_len la lb R (Nw.take t)
              have h2 := List.length_take_le t Nw
              omega)
            go_wp2_with fail
            go_quiet (fail)
            go_wp2_with fail
            clear x2 y2 e3 c1 c2 d1 d2
            go_loopw [10, 12] (fun nx kk wy => ∃ k : Nat, kk = .int .i64 (k : Int) ∧ k ≤ 4 ∧ Hid (OwnI wy wo.heap.size nx ((NP ++ Mx.kidsP n x k).map fun x : Nat => (x : Int))) ∧ Hid (Below wo.heap.size wo wy)) (fun _ kk _ => 4 - (intOf kk).toNat)
            case atStart => exact ⟨0, rfl, by omega, by unfold Hid; rw [Mx.kidsP_zero, List.append_nil]; exact rowKept hO.out (below_drewN (Below.refl _ _) _), below_drewN hG.out _⟩
            case round =>
              obtain ⟨k, rfl, hk4, hO4, hG4⟩ := hrel
              obtain ⟨wz, rfl⟩ : ∃ wz, wz = wr := ⟨wr, rfl⟩
              by_cases hk : (k : Int) < 4
              · have BW4 := hide (hB.out.trans (hG4.out.mono hB.out.size))
                have X4 := hide (hX.out.later hG4.out hX.out.lt)
                have x4 := X4.out.one
                obtain ⟨b4, off4, x', hab4, _, hx4, e4⟩ := (hN.out.later hG4.out).at_ t hlt
                cases hab4
                obtain rfl : x' = x := by rw [HXM.out] at hx4; exact (Option.some.inj hx4).symm
                clear hx4
                obtain ⟨b5, off5, l5, a5, n5, c5, hab5, _, hl5, e5, hu5, _⟩ := (HLA.out.later BW4.out).at_ R (by omega)
                cases hab5
                obtain rfl : n5 = n := by rw [← hu5.1, hn.out, List.getD_eq_getElem?_getD, hl5]; rfl
                clear hl5 hu5
                by_cases hin2 : (x' : Int) * 4 + (k : Int) < n5
                · have HO5 := hide (Mx.kidsP_in (n := n5) (x := x') (k := k) (by omega))
                  have HSZ := hide hG4.out.size
                  go_wp2_with fail
                  go_quiet (fail)
                  go_wp2_with (at_builtin; refine wpList_append_int rfl _ _ rfl wo.heap.size ((NP ++ Mx.kidsP n5 x' k).map fun x : Nat => (x : Int)) ?o1 ((x' : Int) * 4 + (k : Int)) ?o2 ?o3 ?o4 ?_)
                  case o1 => exact rowKept hO4.out (below_drewN (Below.refl _ _) _)
                  case o2 => rfl
                  case o3 =>
                    rw [List.length_map, List.length_append]
                    have h1 := Mx.kidsP_len n5 x' k
                    have h2 := HNPL.out
                    omega
                  case o4 => exact HSZ.out
                  intro ad c6 w6 hown6 hbel6 hge6
                  obtain ⟨N6, hN6⟩ : ∃ N6 : Nat, Hid (N6 = NP.length + (Mx.kidsP n5 x' k).length) := ⟨_, rfl⟩
                  rw [← hN6.out] at hown6
                  have HO6 := hide (show OwnI w6 wo.heap.size (.slice (some ad) (N6 + 1) c6) ((NP ++ Mx.kidsP n5 x' (k + 1)).map fun x : Nat => (x : Int)) by
                    rw [HO5.out, List.map_append, List.map_append]
                    exact hown6)
                  have HG6 := hide (show Below wo.heap.size wo w6 from (below_drewN hG4.out _).trans hbel6)
                  rw [← hN6.out]
                  clear hown6 hbel6 hge6 x4 e4 e5
                  go_wp2_with fail
                  go_roundw
                  case rel => exact ⟨k + 1, by go_num, by omega, HO6, HG6⟩
                  case measure => simp [intOf]; omega
                · have HO5 := hide (Mx.kidsP_out (n := n5) (x := x') (k := k) (by omega))
                  go_wp2_with fail
                  go_quiet (fail)
                  go_wp2_with fail
                  go_roundw
                  case rel => exact ⟨k + 1, by go_num, by omega, by unfold Hid; rw [HO5.out]; exact rowKept hO4.out (below_drewN (Below.refl _ _) _), below_drewN hG4.out _⟩
                  case measure => simp [intOf]; omega
              · obtain rfl : k = 4 := by omega
                have HO5 := hide (show OwnI wz wo.heap.size _ ((Mx.dnext la lb R (Nw.take (t + 1))).map fun x : Nat => (x : Int)) by rw [HNX.out, ← Mx.kidsP_four]; exact hO4.out)
                go_wp2_with fail
                go_roundw
                case rel => exact ⟨t + 1, by go_num, by omega, by go_num, rfl, HO5, hG4⟩
                case measure => simp [intOf]; omega
        · have HT := hide (show Nw.take t = Nw from List.take_of_length_le (by have := hN.out.1; simp at this; omega))
          have hti : ¬ (t : Int) < nN := by omega
          have BWX := hide (hB.out.trans (hG.out.mono hB.out.size))
          have X2 := hide (hX.out.later hG.out hX.out.lt)
          have Y2 := hide (hY.out.later hG.out hY.out.lt)
          obtain ⟨aX, cX, hvX, hIX⟩ := hO.out.ints
          obtain ⟨NX, hNX⟩ : ∃ NX : Nat, Hid (NX = ((Mx.dnext la lb R (Nw.take t)).map fun x : Nat => (x : Int)).length) := ⟨_, rfl⟩
          rw [← hNX.out] at hvX hIX
          subst hvX
          have HIX := hide (show NI wm aX NX (Mx.dnext la lb R Nw) by unfold NI; rw [HT.out] at hIX; exact hIX)
          clear hIX
          have HLN := hide (show nN = Nw.length by have := hN.out.1; simp at this; omega)
          have HAS2 := hide (show As + nN + Mx.daskedL la lb R (Mx.dnext la lb R Nw) = A by rw [← HAS.out, ← Mx.dasked_next, HLN.out]; omega)
          go_wp2_with fail
          go_roundw
          case rel => exact ⟨R + 1, As + t, NX, cX, aX, by go_num, rfl, by go_num, by omega, by have := HAS2.out; omega, ⟨rfl, _, HIX.out, Mx.dnext_lt la lb R Nw, by rw [Mx.dplaces_next]; exact HPL.out, by have := HAS2.out; rw [show t = nN by omega]; exact this⟩, X2, Y2, BWX⟩
          case measure => simp [intOf]; have := hLV.out; omega

end Go.Proofs.Ytdhmijjphgcdmaa

/-
  For all trees of numbers whatever, where they differ, and how much was asked, are what D3 says (TreeDiffs): the walk.
-/
namespace Go.Proofs.Ytdhmijjphgcdmaa
open Go.RowKit

set_option maxHeartbeats 4000000 in
set_option maxRecDepth 100000 in
theorem tdiffs_ha (aa ab : Option Addr) (ka ca kb cb : Nat) (la lb : List (List Nat)) (w : World) (hla : Lvls w aa ka la) (hlb : Lvls w ab kb lb) (hHA : Mx.huge la = true) :
    Calls Try.prog 11 #[.agg #[.slice aa ka ca], .agg #[.slice ab kb cb]] w fun e w' => e = .returned (.bool true) ∧ Below w.heap.size w w' := by
  have HLA := hide hla
  have HLB := hide hlb
  obtain ⟨w0, hw0⟩ : ∃ w0 : World, Hid (w0 = (w.alloc (.cells #[.slice aa ka ca] 82)).alloc (.cells #[.slice ab kb cb] 82)) := ⟨_, rfl⟩
  have B0 := hide (show Below w.heap.size w w0 by rw [hw0.out]; exact (below_alloc _ _).alloc (by simp) _)
  have X0 := hide (show Bx w0 w.heap.size #[.slice aa ka ca] 82 by rw [hw0.out]; exact (Bx.new w _ 82).alloc _)
  have Y0 := hide (show Bx w0 (w.heap.size + 1) #[.slice ab kb cb] 82 by
    rw [hw0.out]
    have h := Bx.new (w.alloc (.cells #[.slice aa ka ca] 82)) #[.slice ab kb cb] 82
    rw [World.size_alloc] at h
    exact h)
  have HHA := hide hHA
  clear hla hlb hHA
  go_enter Try.func11, Try.ntmps11
  go_wp2_with fail
  rw [← hw0.out]
  refine (hugeTree_any aa ka ca la w0 (HLA.out.later B0.out)).mono ?_
  rintro e w1 ⟨rfl, hb1⟩
  rw [HHA.out]
  have X1 := hide (X0.out.later hb1 X0.out.lt)
  have Y1 := hide (Y0.out.later hb1 Y0.out.lt)
  have B1 := hide (B0.out.trans (hb1.mono B0.out.size))
  clear hb1
  go_wp2_with fail
  go_ret
  exact ⟨rfl, B1.out⟩

set_option maxHeartbeats 4000000 in
set_option maxRecDepth 100000 in
theorem tdiffs_hb (aa ab : Option Addr) (ka ca kb cb : Nat) (la lb : List (List Nat)) (w : World) (hla : Lvls w aa ka la) (hlb : Lvls w ab kb lb) (hHA : Mx.huge la = false) (hHB : Mx.huge lb = true) :
    Calls Try.prog 11 #[.agg #[.slice aa ka ca], .agg #[.slice ab kb cb]] w fun e w' => e = .returned (.bool true) ∧ Below w.heap.size w w' := by
  have HLA := hide hla
  have HLB := hide hlb
  obtain ⟨w0, hw0⟩ : ∃ w0 : World, Hid (w0 = (w.alloc (.cells #[.slice aa ka ca] 82)).alloc (.cells #[.slice ab kb cb] 82)) := ⟨_, rfl⟩
  have B0 := hide (show Below w.heap.size w w0 by rw [hw0.out]; exact (below_alloc _ _).alloc (by simp) _)
  have X0 := hide (show Bx w0 w.heap.size #[.slice aa ka ca] 82 by rw [hw0.out]; exact (Bx.new w _ 82).alloc _)
  have Y0 := hide (show Bx w0 (w.heap.size + 1) #[.slice ab kb cb] 82 by
    rw [hw0.out]
    have h := Bx.new (w.alloc (.cells #[.slice aa ka ca] 82)) #[.slice ab kb cb] 82
    rw [World.size_alloc] at h
    exact h)
  have HHA := hide hHA
  have HHB := hide hHB
  clear hla hlb hHA hHB
  go_enter Try.func11, Try.ntmps11
  go_wp2_with fail
  rw [← hw0.out]
  refine (hugeTree_any aa ka ca la w0 (HLA.out.later B0.out)).mono ?_
  rintro e w1 ⟨rfl, hb1⟩
  rw [HHA.out]
  have X1 := hide (X0.out.later hb1 X0.out.lt)
  have Y1 := hide (Y0.out.later hb1 Y0.out.lt)
  have B1 := hide (B0.out.trans (hb1.mono B0.out.size))
  clear hb1
  have y1 := Y1.out.one
  go_wp2_with fail
  refine (hugeTree_any ab kb cb lb w1 (HLB.out.later B1.out)).mono ?_
  rintro e w2 ⟨rfl, hb2⟩
  rw [HHB.out]
  have X2 := hide (X1.out.later hb2 X1.out.lt)
  have Y2 := hide (Y1.out.later hb2 Y1.out.lt)
  have B2 := hide (B1.out.trans (hb2.mono B1.out.size))
  clear hb2 y1
  go_wp2_with fail
  go_ret
  exact ⟨rfl, B2.out⟩

set_option maxHeartbeats 4000000 in
set_option maxRecDepth 100000 in
theorem tdiffs_ea (aa ab : Option Addr) (ka ca kb cb : Nat) (la lb : List (List Nat)) (w : World) (hla : Lvls w aa ka la) (hlb : Lvls w ab kb lb) (hHA : Mx.huge la = false) (hHB : Mx.huge lb = false) (hA : ¬ Mx.tmay la = 0) :
    Calls Try.prog 11 #[.agg #[.slice aa ka ca], .agg #[.slice ab kb cb]] w fun e w' => e = .returned (.bool true) ∧ Below w.heap.size w w' := by
  have HLA := hide hla
  have HLB := hide hlb
  obtain ⟨w0, hw0⟩ : ∃ w0 : World, Hid (w0 = (w.alloc (.cells #[.slice aa ka ca] 82)).alloc (.cells #[.slice ab kb cb] 82)) := ⟨_, rfl⟩
  have B0 := hide (show Below w.heap.size w w0 by rw [hw0.out]; exact (below_alloc _ _).alloc (by simp) _)
  have X0 := hide (show Bx w0 w.heap.size #[.slice aa ka ca] 82 by rw [hw0.out]; exact (Bx.new w _ 82).alloc _)
  have Y0 := hide (show Bx w0 (w.heap.size + 1) #[.slice ab kb cb] 82 by
    rw [hw0.out]
    have h := Bx.new (w.alloc (.cells #[.slice aa ka ca] 82)) #[.slice ab kb cb] 82
    rw [World.size_alloc] at h
    exact h)
  have HHA := hide hHA
  have HHB := hide hHB
  obtain ⟨E, hEE⟩ : ∃ E : Int, Hid (E = Mx.tmay la) := ⟨_, rfl⟩
  have HE := hide (show ¬ E = 0 by rw [hEE.out]; exact hA)
  have HBO := hide (show Mx.both la lb = E by rw [Mx.both_a hA, hEE.out])
  have hE0 : (E == 0) = false := by have := HE.out; simpa using this
  clear hla hlb hHA hHB hA
  go_enter Try.func11, Try.ntmps11
  go_wp2_with fail
  rw [← hw0.out]
  refine (hugeTree_any aa ka ca la w0 (HLA.out.later B0.out)).mono ?_
  rintro e w1 ⟨rfl, hb1⟩
  rw [HHA.out]
  have X1 := hide (X0.out.later hb1 X0.out.lt)
  have Y1 := hide (Y0.out.later hb1 Y0.out.lt)
  have B1 := hide (B0.out.trans (hb1.mono B0.out.size))
  clear hb1
  have y1 := Y1.out.one
  go_wp2_with fail
  refine (hugeTree_any ab kb cb lb w1 (HLB.out.later B1.out)).mono ?_
  rintro e w2 ⟨rfl, hb2⟩
  rw [HHB.out]
  have X2 := hide (X1.out.later hb2 X1.out.lt)
  have Y2 := hide (Y1.out.later hb2 Y1.out.lt)
  have B2 := hide (B1.out.trans (hb2.mono B1.out.size))
  clear hb2 y1
  have x2 := X2.out.one
  go_wp2_with fail
  refine (treeMay_any aa ka ca la w2 (HLA.out.later B2.out)).mono ?_
  rintro e w3 ⟨rfl, hb3⟩
  have X3 := hide (X2.out.later hb3 X2.out.lt)
  have Y3 := hide (Y2.out.later hb3 Y2.out.lt)
  have B3 := hide (B2.out.trans (hb3.mono B2.out.size))
  clear hb3 x2
  rw [← hEE.out]
  have x3 := X3.out.one
  have y3 := Y3.out.one
  go_wp2_with fail
  go_quiet (fail)
  go_wp2_with fail
  refine (diff_err aa ab ka ca kb cb la lb _ ((HLA.out.later B3.out).later (below_drewN (Below.refl _ _) _)) ((HLB.out.later B3.out).later (below_drewN (Below.refl _ _) _)) (by rw [HBO.out]; exact HE.out)).mono ?_
  rintro e w5 ⟨rfl, hb5⟩
  rw [HBO.out]
  have B5 := hide ((below_drewN B3.out _).trans (hb5.mono (below_drewN B3.out _).size))
  clear hb5 x3 y3
  go_wp2_with fail
  refine (is_any E E w5).mono ?_
  rintro e w6 ⟨rfl, rfl⟩
  rw [show ((E : Int) == E) = true by simp]
  go_wp2_with fail
  refine (sameInts_gen none none 0 0 0 0 [] [] w6 ⟨rfl, by unfold maxLen; omega, fun h => absurd h (by omega)⟩ ⟨rfl, by unfold maxLen; omega, fun h => absurd h (by omega)⟩).mono ?_
  rintro e w7 ⟨r, rfl, hr, q, rfl⟩
  obtain rfl : r = true := hr.2 rfl
  go_wp2_with fail
  go_ret
  exact ⟨rfl, below_drewN B5.out q⟩

set_option maxHeartbeats 4000000 in
set_option maxRecDepth 100000 in
theorem tdiffs_eb (aa ab : Option Addr) (ka ca kb cb : Nat) (la lb : List (List Nat)) (w : World) (hla : Lvls w aa ka la) (hlb : Lvls w ab kb lb) (hHA : Mx.huge la = false) (hHB : Mx.huge lb = false) (hA : Mx.tmay la = 0) (hB : ¬ Mx.tmay lb = 0) :
    Calls Try.prog 11 #[.agg #[.slice aa ka ca], .agg #[.slice ab kb cb]] w fun e w' => e = .returned (.bool true) ∧ Below w.heap.size w w' := by
  have HLA := hide hla
  have HLB := hide hlb
  obtain ⟨w0, hw0⟩ : ∃ w0 : World, Hid (w0 = (w.alloc (.cells #[.slice aa ka ca] 82)).alloc (.cells #[.slice ab kb cb] 82)) := ⟨_, rfl⟩
  have B0 := hide (show Below w.heap.size w w0 by rw [hw0.out]; exact (below_alloc _ _).alloc (by simp) _)
  have X0 := hide (show Bx w0 w.heap.size #[.slice aa ka ca] 82 by rw [hw0.out]; exact (Bx.new w _ 82).alloc _)
  have Y0 := hide (show Bx w0 (w.heap.size + 1) #[.slice ab kb cb] 82 by
    rw [hw0.out]
    have h := Bx.new (w.alloc (.cells #[.slice aa ka ca] 82)) #[.slice ab kb cb] 82
    rw [World.size_alloc] at h
    exact h)
  have HHA := hide hHA
  have HHB := hide hHB
  have HA := hide hA
  obtain ⟨E, hEE⟩ : ∃ E : Int, Hid (E = Mx.tmay lb) := ⟨_, rfl⟩
  have HE := hide (show ¬ E = 0 by rw [hEE.out]; exact hB)
  have HBO := hide (show Mx.both la lb = E by rw [Mx.both_b hA hB, hEE.out])
  have hE0 : (E == 0) = false := by have := HE.out; simpa using this
  clear hla hlb hHA hHB hA hB
  go_enter Try.func11, Try.ntmps11
  go_wp2_with fail
  rw [← hw0.out]
  refine (hugeTree_any aa ka ca la w0 (HLA.out.later B0.out)).mono ?_
  rintro e w1 ⟨rfl, hb1⟩
  rw [HHA.out]
  have X1 := hide (X0.out.later hb1 X0.out.lt)
  have Y1 := hide (Y0.out.later hb1 Y0.out.lt)
  have B1 := hide (B0.out.trans (hb1.mono B0.out.size))
  clear hb1
  have y1 := Y1.out.one
  go_wp2_with fail
  refine (hugeTree_any ab kb cb lb w1 (HLB.out.later B1.out)).mono ?_
  rintro e w2 ⟨rfl, hb2⟩
  rw [HHB.out]
  have X2 := hide (X1.out.later hb2 X1.out.lt)
  have Y2 := hide (Y1.out.later hb2 Y1.out.lt)
  have B2 := hide (B1.out.trans (hb2.mono B1.out.size))
  clear hb2 y1
  have x2 := X2.out.one
  go_wp2_with fail
  refine (treeMay_any aa ka ca la w2 (HLA.out.later B2.out)).mono ?_
  rintro e w3 ⟨rfl, hb3⟩
  have X3 := hide (X2.out.later hb3 X2.out.lt)
  have Y3 := hide (Y2.out.later hb3 Y2.out.lt)
  have B3 := hide (B2.out.trans (hb3.mono B2.out.size))
  clear hb3 x2
  rw [HA.out]
  have y3 := Y3.out.one
  go_wp2_with fail
  refine (treeMay_any ab kb cb lb w3 (HLB.out.later B3.out)).mono ?_
  rintro e w4 ⟨rfl, hb4⟩
  have X4 := hide (X3.out.later hb4 X3.out.lt)
  have Y4 := hide (Y3.out.later hb4 Y3.out.lt)
  have B4 := hide (B3.out.trans (hb4.mono B3.out.size))
  clear hb4 y3
  rw [← hEE.out]
  have x4 := X4.out.one
  have y4 := Y4.out.one
  go_wp2_with fail
  go_quiet (fail)
  go_wp2_with fail
  refine (diff_err aa ab ka ca kb cb la lb _ ((HLA.out.later B4.out).later (below_drewN (Below.refl _ _) _)) ((HLB.out.later B4.out).later (below_drewN (Below.refl _ _) _)) (by rw [HBO.out]; exact HE.out)).mono ?_
  rintro e w5 ⟨rfl, hb5⟩
  rw [HBO.out]
  have B5 := hide ((below_drewN B4.out _).trans (hb5.mono (below_drewN B4.out _).size))
  clear hb5 x4 y4
  go_wp2_with fail
  refine (is_any E E w5).mono ?_
  rintro e w6 ⟨rfl, rfl⟩
  rw [show ((E : Int) == E) = true by simp]
  go_wp2_with fail
  refine (sameInts_gen none none 0 0 0 0 [] [] w6 ⟨rfl, by unfold maxLen; omega, fun h => absurd h (by omega)⟩ ⟨rfl, by unfold maxLen; omega, fun h => absurd h (by omega)⟩).mono ?_
  rintro e w7 ⟨r, rfl, hr, q, rfl⟩
  obtain rfl : r = true := hr.2 rfl
  go_wp2_with fail
  go_ret
  exact ⟨rfl, below_drewN B5.out q⟩

set_option maxHeartbeats 4000000 in
set_option maxRecDepth 100000 in
theorem tdiffs_ec (aa ab : Option Addr) (ka ca kb cb : Nat) (la lb : List (List Nat)) (w : World) (hla : Lvls w aa ka la) (hlb : Lvls w ab kb lb) (hHA : Mx.huge la = false) (hHB : Mx.huge lb = false) (hA : Mx.tmay la = 0) (hB : Mx.tmay lb = 0) (hU : ¬ (la.getD 0 []).length = (lb.getD 0 []).length) :
    Calls Try.prog 11 #[.agg #[.slice aa ka ca], .agg #[.slice ab kb cb]] w fun e w' => e = .returned (.bool true) ∧ Below w.heap.size w w' := by
  have HLA := hide hla
  have HLB := hide hlb
  obtain ⟨w0, hw0⟩ : ∃ w0 : World, Hid (w0 = (w.alloc (.cells #[.slice aa ka ca] 82)).alloc (.cells #[.slice ab kb cb] 82)) := ⟨_, rfl⟩
  have B0 := hide (show Below w.heap.size w w0 by rw [hw0.out]; exact (below_alloc _ _).alloc (by simp) _)
  have X0 := hide (show Bx w0 w.heap.size #[.slice aa ka ca] 82 by rw [hw0.out]; exact (Bx.new w _ 82).alloc _)
  have Y0 := hide (show Bx w0 (w.heap.size + 1) #[.slice ab kb cb] 82 by
    rw [hw0.out]
    have h := Bx.new (w.alloc (.cells #[.slice aa ka ca] 82)) #[.slice ab kb cb] 82
    rw [World.size_alloc] at h
    exact h)
  have HHA := hide hHA
  have HHB := hide hHB
  have HA := hide hA
  have HBB := hide hB
  have HUU := hide hU
  have HBO := hide (Mx.both_c hA hB hU)
  have HE := hide (show ¬ (6 : Int) = 0 by omega)
  have HIS := hide (fun W => is_any 6 6 W)
  rw [errV_not (by decide)] at HIS
  have HV6 := hide (show errV 6 = .iface 26 (.int .i64 6) from errV_not (by decide))
  clear hla hlb hHA hHB hA hB hU
  go_enter Try.func11, Try.ntmps11
  go_wp2_with fail
  rw [← hw0.out]
  refine (hugeTree_any aa ka ca la w0 (HLA.out.later B0.out)).mono ?_
  rintro e w1 ⟨rfl, hb1⟩
  rw [HHA.out]
  have X1 := hide (X0.out.later hb1 X0.out.lt)
  have Y1 := hide (Y0.out.later hb1 Y0.out.lt)
  have B1 := hide (B0.out.trans (hb1.mono B0.out.size))
  clear hb1
  have y1 := Y1.out.one
  go_wp2_with fail
  refine (hugeTree_any ab kb cb lb w1 (HLB.out.later B1.out)).mono ?_
  rintro e w2 ⟨rfl, hb2⟩
  rw [HHB.out]
  have X2 := hide (X1.out.later hb2 X1.out.lt)
  have Y2 := hide (Y1.out.later hb2 Y1.out.lt)
  have B2 := hide (B1.out.trans (hb2.mono B1.out.size))
  clear hb2 y1
  have x2 := X2.out.one
  go_wp2_with fail
  refine (treeMay_any aa ka ca la w2 (HLA.out.later B2.out)).mono ?_
  rintro e w3 ⟨rfl, hb3⟩
  have X3 := hide (X2.out.later hb3 X2.out.lt)
  have Y3 := hide (Y2.out.later hb3 Y2.out.lt)
  have B3 := hide (B2.out.trans (hb3.mono B2.out.size))
  clear hb3 x2
  rw [HA.out]
  have y3 := Y3.out.one
  go_wp2_with fail
  refine (treeMay_any ab kb cb lb w3 (HLB.out.later B3.out)).mono ?_
  rintro e w4 ⟨rfl, hb4⟩
  have X4 := hide (X3.out.later hb4 X3.out.lt)
  have Y4 := hide (Y3.out.later hb4 Y3.out.lt)
  have B4 := hide (B3.out.trans (hb4.mono B3.out.size))
  clear hb4 y3
  rw [HBB.out]
  have hka : 0 < (ka : Int) := by have := (Mx.tmay_head HA.out).1; have := HLA.out.1; omega
  have hkb : 0 < (kb : Int) := by have := (Mx.tmay_head HBB.out).1; have := HLB.out.1; omega
  have hkm : ka ≤ 9223372036854775807 := by have := HLA.out.2.1; unfold maxLen at this; omega
  have hkm2 : kb ≤ 9223372036854775807 := by have := HLB.out.2.1; unfold maxLen at this; omega
  obtain ⟨b, off, l, ai, ni, ci, hab, _, hl, hc, hu, _⟩ := (HLA.out.later B4.out).at_ 0 (by omega)
  obtain ⟨b', off', l', aj, nj, cj, hab', _, hl', hc', hu', _⟩ := (HLB.out.later B4.out).at_ 0 (by omega)
  subst hab hab'
  rw [Nat.add_zero] at hc hc'
  have hn : (la.getD 0 []).length = ni := by rw [List.getD_eq_getElem?_getD, hl]; exact hu.1
  have hn' : (lb.getD 0 []).length = nj := by rw [List.getD_eq_getElem?_getD, hl']; exact hu'.1
  have hnm : ni ≤ 9223372036854775807 := by have := hu.2.1; unfold maxLen at this; omega
  have hnm' : nj ≤ 9223372036854775807 := by have := hu'.2.1; unfold maxLen at this; omega
  have hne : ((ni : Int) != (nj : Int)) = true := by have := HUU.out; simp; omega
  clear hl hl' hu hu' hn hn'
  have x4 := X4.out.one
  have y4 := Y4.out.one
  go_wp2_with fail
  go_quiet (fail)
  go_wp2_with fail
  refine (diff_err (some ⟨b, off, none⟩) (some ⟨b', off', none⟩) ka ca kb cb la lb _ ((HLA.out.later B4.out).later (below_drewN (Below.refl _ _) _)) ((HLB.out.later B4.out).later (below_drewN (Below.refl _ _) _)) (by rw [HBO.out]; exact HE.out)).mono ?_
  rintro e w5 ⟨rfl, hb5⟩
  rw [HBO.out, HV6.out]
  have B5 := hide ((below_drewN B4.out _).trans (hb5.mono (below_drewN B4.out _).size))
  clear hb5 x4 y4 hc hc'
  go_wp2_with fail
  refine (HIS.out w5).mono ?_
  rintro e w6 ⟨rfl, rfl⟩
  rw [show ((6 : Int) == 6) = true by simp]
  go_wp2_with fail
  refine (sameInts_gen none none 0 0 0 0 [] [] w6 ⟨rfl, by unfold maxLen; omega, fun h => absurd h (by omega)⟩ ⟨rfl, by unfold maxLen; omega, fun h => absurd h (by omega)⟩).mono ?_
  rintro e w7 ⟨r, rfl, hr, q, rfl⟩
  obtain rfl : r = true := hr.2 rfl
  go_wp2_with fail
  go_ret
  exact ⟨rfl, below_drewN B5.out q⟩

set_option maxHeartbeats 4000000 in
set_option maxRecDepth 100000 in
theorem tdiffs_ok (aa ab : Option Addr) (ka ca kb cb : Nat) (la lb : List (List Nat)) (w : World) (hla : Lvls w aa ka la) (hlb : Lvls w ab kb lb) (hHA : Mx.huge la = false) (hHB : Mx.huge lb = false) (hA : Mx.tmay la = 0) (hB : Mx.tmay lb = 0) (hU : (la.getD 0 []).length = (lb.getD 0 []).length) (hk : ka = kb) (hk2 : ka ≤ 1000) (hlen : ∀ L, (la.getD L []).length = (lb.getD L []).length) (hsm : ∀ L, (la.getD L []).length ≤ 1000)
    (L : Nat) (hL : ka = L + 1) (h0 : 0 < (la.getD L []).length) (hAK : Mx.dasked la lb L 0 ≤ 1000) (hPK : (Mx.dplaces la lb L 0).length ≤ 1000) :
    Calls Try.prog 11 #[.agg #[.slice aa ka ca], .agg #[.slice ab kb cb]] w fun e w' => e = .returned (.bool true) ∧ Below w.heap.size w w' := by
  subst hk
  have HLA := hide hla
  have HLB := hide hlb
  obtain ⟨w0, hw0⟩ : ∃ w0 : World, Hid (w0 = (w.alloc (.cells #[.slice aa ka ca] 82)).alloc (.cells #[.slice ab ka cb] 82)) := ⟨_, rfl⟩
  have B0 := hide (show Below w.heap.size w w0 by rw [hw0.out]; exact (below_alloc _ _).alloc (by simp) _)
  have X0 := hide (show Bx w0 w.heap.size #[.slice aa ka ca] 82 by rw [hw0.out]; exact (Bx.new w _ 82).alloc _)
  have Y0 := hide (show Bx w0 (w.heap.size + 1) #[.slice ab ka cb] 82 by
    rw [hw0.out]
    have h := Bx.new (w.alloc (.cells #[.slice aa ka ca] 82)) #[.slice ab ka cb] 82
    rw [World.size_alloc] at h
    exact h)
  have HHA := hide hHA
  have HHB := hide hHB
  have HA := hide hA
  have HBB := hide hB
  have HUU := hide hU
  have HBO := hide (Mx.both_d hA hB hU)
  have HLEN := hide hlen
  have HSM := hide hsm
  have HKL := hide hL
  have H0 := hide h0
  have HAK := hide hAK
  have HPK := hide hPK
  have HIS := hide (fun W => is_any 0 0 W)
  rw [errV_zero] at HIS
  clear hla hlb hHA hHB hA hB hU hlen hsm hL h0 hAK hPK
  go_enter Try.func11, Try.ntmps11
  go_wp2_with fail
  rw [← hw0.out]
  refine (hugeTree_any aa ka ca la w0 (HLA.out.later B0.out)).mono ?_
  rintro e w1 ⟨rfl, hb1⟩
  rw [HHA.out]
  have X1 := hide (X0.out.later hb1 X0.out.lt)
  have Y1 := hide (Y0.out.later hb1 Y0.out.lt)
  have B1 := hide (B0.out.trans (hb1.mono B0.out.size))
  clear hb1
  have y1 := Y1.out.one
  go_wp2_with fail
  refine (hugeTree_any ab ka cb lb w1 (HLB.out.later B1.out)).mono ?_
  rintro e w2 ⟨rfl, hb2⟩
  rw [HHB.out]
  have X2 := hide (X1.out.later hb2 X1.out.lt)
  have Y2 := hide (Y1.out.later hb2 Y1.out.lt)
  have B2 := hide (B1.out.trans (hb2.mono B1.out.size))
  clear hb2 y1
  have x2 := X2.out.one
  go_wp2_with fail
  refine (treeMay_any aa ka ca la w2 (HLA.out.later B2.out)).mono ?_
  rintro e w3 ⟨rfl, hb3⟩
  have X3 := hide (X2.out.later hb3 X2.out.lt)
  have Y3 := hide (Y2.out.later hb3 Y2.out.lt)
  have B3 := hide (B2.out.trans (hb3.mono B2.out.size))
  clear hb3 x2
  rw [HA.out]
  have y3 := Y3.out.one
  go_wp2_with fail
  refine (treeMay_any ab ka cb lb w3 (HLB.out.later B3.out)).mono ?_
  rintro e w4 ⟨rfl, hb4⟩
  have X4 := hide (X3.out.later hb4 X3.out.lt)
  have Y4 := hide (Y3.out.later hb4 Y3.out.lt)
  have B4 := hide (B3.out.trans (hb4.mono B3.out.size))
  clear hb4 y3
  rw [HBB.out]
  have hka : 0 < (ka : Int) := by have := (Mx.tmay_head HA.out).1; have := HLA.out.1; omega
  have hkb : 0 < (ka : Int) := by have := (Mx.tmay_head HBB.out).1; have := HLB.out.1; omega
  have hkm : ka ≤ 9223372036854775807 := by have := HLA.out.2.1; unfold maxLen at this; omega
  have hkm2 : ka ≤ 9223372036854775807 := by have := HLB.out.2.1; unfold maxLen at this; omega
  obtain ⟨b, off, l, ai, ni, ci, hab, _, hl, hc, hu, _⟩ := (HLA.out.later B4.out).at_ 0 (by omega)
  obtain ⟨b', off', l', aj, nj, cj, hab', _, hl', hc', hu', _⟩ := (HLB.out.later B4.out).at_ 0 (by omega)
  subst hab hab'
  rw [Nat.add_zero] at hc hc'
  have hn : (la.getD 0 []).length = ni := by rw [List.getD_eq_getElem?_getD, hl]; exact hu.1
  have hn' : (lb.getD 0 []).length = nj := by rw [List.getD_eq_getElem?_getD, hl']; exact hu'.1
  have hnm : ni ≤ 9223372036854775807 := by have := hu.2.1; unfold maxLen at this; omega
  have hnm' : nj ≤ 9223372036854775807 := by have := hu'.2.1; unfold maxLen at this; omega
  have hne : ((ni : Int) != (nj : Int)) = false := by have := HUU.out; simp; omega
  clear hl hl' hu hu' hn hn' hkb hkm2
  have x4 := X4.out.one
  have y4 := Y4.out.one
  go_wp2_with fail
  go_quiet (fail)
  go_wp2_with fail
  refine (differs_any (some ⟨b, off, none⟩) (some ⟨b', off', none⟩) ka ca cb la lb _ ((HLA.out.later B4.out).later (below_drewN (Below.refl _ _) _)) ((HLB.out.later B4.out).later (below_drewN (Below.refl _ _) _)) hk2 HLEN.out HSM.out L HKL.out H0.out HAK.out).mono ?_
  rintro e w5 ⟨vP, rfl, hO5, hb5⟩
  obtain ⟨A, hA⟩ : ∃ A : Nat, Hid (A = Mx.dasked la lb L 0) := ⟨_, rfl⟩
  obtain ⟨PL, hPL⟩ : ∃ PL : List Int, Hid (PL = (Mx.dplaces la lb L 0).map fun x : Nat => (x : Int)) := ⟨_, rfl⟩
  rw [← hA.out]
  rw [← hPL.out] at hO5
  obtain ⟨N, hN⟩ : ∃ N : Nat, Hid (N = PL.length) := ⟨_, rfl⟩
  obtain ⟨aP, cP, hvP, hIP⟩ := hO5.out.ints
  rw [← hN.out] at hvP hIP
  subst hvP
  have IP5 := hide hIP
  have B5 := hide ((below_drewN B4.out _).trans (hb5.out.mono (below_drewN B4.out _).size))
  have X5 := hide ((X4.out.later (below_drewN (Below.refl _ _) _) X4.out.lt).later hb5.out X4.out.lt)
  have Y5 := hide ((Y4.out.later (below_drewN (Below.refl _ _) _) Y4.out.lt).later hb5.out Y4.out.lt)
  clear hIP hO5 hb5 x4 y4 hc hc'
  have x5 := X5.out.one
  have y5 := Y5.out.one
  go_wp2_with fail
  refine (diff_ok (some ⟨b, off, none⟩) (some ⟨b', off', none⟩) ka ca ka cb la lb w5 (HLA.out.later B5.out) (HLB.out.later B5.out) HBO.out rfl hk2 HLEN.out HSM.out L HKL.out H0.out (by have := HAK.out; omega) (by have := HPK.out; omega)).mono ?_
  rintro e w6 ⟨vQ, rfl, hO6, hb6⟩
  rw [← hA.out]
  rw [← hPL.out] at hO6
  obtain ⟨aQ, cQ, hvQ, hIQ⟩ := hO6.out.ints
  rw [← hN.out] at hvQ hIQ
  subst hvQ
  have IQ6 := hide hIQ
  have IP6 := hide (IP5.out.later hb6.out)
  have B6 := hide (B5.out.trans (hb6.out.mono B5.out.size))
  clear hIQ hO6 hb6 x5 y5
  go_wp2_with fail
  refine (HIS.out w6).mono ?_
  rintro e w7 ⟨rfl, rfl⟩
  rw [show ((0 : Int) == 0) = true from rfl]
  go_wp2_with fail
  refine (sameInts_gen aQ aP N cQ N cP PL PL w7 IQ6.out IP6.out).mono ?_
  rintro e w8 ⟨r, rfl, hr, q, rfl⟩
  obtain rfl : r = true := hr.2 rfl
  have hAA : ((A : Int) == (A : Int)) = true := by simp
  clear hr
  go_wp2_with fail
  go_ret
  exact ⟨rfl, below_drewN B6.out q⟩

theorem tdiffs_any (aa ab : Option Addr) (ka ca kb cb : Nat) (la lb : List (List Nat)) (w : World) (hla : Lvls w aa ka la) (hlb : Lvls w ab kb lb) :
    Calls Try.prog 11 #[.agg #[.slice aa ka ca], .agg #[.slice ab kb cb]] w fun e w' => e = .returned (.bool true) ∧ Below w.heap.size w w' := by
  cases hHA : Mx.huge la with
  | true => exact tdiffs_ha aa ab ka ca kb cb la lb w hla hlb hHA
  | false =>
    cases hHB : Mx.huge lb with
    | true => exact tdiffs_hb aa ab ka ca kb cb la lb w hla hlb hHA hHB
    | false =>
      by_cases hA : Mx.tmay la = 0
      · by_cases hB : Mx.tmay lb = 0
        · by_cases hU : (la.getD 0 []).length = (lb.getD 0 []).length
          · obtain ⟨l, rfl, h1, h2, h3, h4⟩ := Mx.tmay_zero hA
            obtain ⟨m, rfl, m1, m2, m3, m4⟩ := Mx.tmay_zero hB
            have e1 : (Mx.levels l).getD 0 [] = l := by rw [List.getD_eq_getElem?_getD, h3]; rfl
            have e2 : (Mx.levels m).getD 0 [] = m := by rw [List.getD_eq_getElem?_getD, m3]; rfl
            have hU' := hU
            rw [e1, e2] at hU'
            have k1 := hla.1
            have k2 := hlb.1
            have k3 := Mx.levels_len l m hU'
            have k4 := Mx.levels_four l h2
            exact tdiffs_ok aa ab ka ca kb cb _ _ w hla hlb hHA hHB hA hB hU (by omega) (by omega) (fun L => Mx.levels_lens l m hU' L) (fun L => by have := Mx.levels_small l L; omega) (ka - 1) (by omega) (Mx.growF_pos _ l (ka - 1) h1 (by have : (Mx.growF l.length l).length = ka := k1; omega)) (by have := Mx.dasked_few (Mx.levels l) (Mx.levels m) (ka - 1) 0 (by omega); omega) (by have := Mx.dplaces_few (Mx.levels l) (Mx.levels m) (ka - 1) 0 (by omega); omega)
          · exact tdiffs_ec aa ab ka ca kb cb la lb w hla hlb hHA hHB hA hB hU
        · exact tdiffs_eb aa ab ka ca kb cb la lb w hla hlb hHA hHB hA hB
      · exact tdiffs_ea aa ab ka ca kb cb la lb w hla hlb hHA hHB hA

end Go.Proofs.Ytdhmijjphgcdmaa

/-
  For trees of blocks made of raw numbers, TreePuts and TreeDiffs hold (TreeMade): the walk.
-/
namespace Go.Proofs.Ytdhmijjphgcdmaa
open Go.RowKit

/-- blocks; a tree: each in a form that is not laid open -/
structure BkS (W : World) (a : Option Addr) (n : Nat) : Prop where
  out : ∃ l, BL W a n l ∧ (∀ x ∈ l, x.ok) ∧ 1 ≤ n ∧ n ≤ 1000
structure LvS (w : World) (a : Option Addr) (k : Nat) : Prop where
  out : ∃ ls, Lvls w a k ls
theorem treeOf_from (W v : World) (a : Option Addr) (n c : Nat) (hv : BelS W v) (hl : BkS W a n) :
    Calls Try.prog 46 #[.slice a n c] v fun e w' => ∃ a' k cap, e = .returned (.agg #[.slice a' k cap]) ∧ LvS w' a' k ∧ (∀ a k, LvS v a k → LvS w' a k) ∧ BelS W w' := by
  obtain ⟨l, h1, h2, h3, h4⟩ := hl.out
  exact (treeOf_any a n c l v (h1.later hv.out) h2 h3 h4).mono fun _ _ ⟨a', k, cap, h1, h2, h3⟩ => ⟨a', k, cap, h1, ⟨_, h2.out.1⟩, fun a k h => ⟨h.out.choose, h.out.choose_spec.later h3.out⟩, ⟨hv.out.trans (h3.out.mono hv.out.size)⟩⟩
theorem tsays_from (W v : World) (a : Option Addr) (n c : Nat) (hv : BelS W v) (hl : BkS W a n) :
    Calls Try.prog 9 #[.slice a n c, .slice none 0 0] v fun e w' => e = .returned (.bool true) ∧ BelS W w' := by
  obtain ⟨l, h1, h2, h3, h4⟩ := hl.out
  exact (tsays_any a none n c 0 0 l [] v (h1.later hv.out) h2 (bytes_nil v)).mono fun _ _ ⟨h1, h3⟩ => ⟨h1, ⟨hv.out.trans (h3.mono hv.out.size)⟩⟩
theorem tdiffs_from (W v : World) (aa ab : Option Addr) (ka ca kb cb : Nat) (hv : BelS W v) (hla : LvS v aa ka) (hlb : LvS v ab kb) :
    Calls Try.prog 11 #[.agg #[.slice aa ka ca], .agg #[.slice ab kb cb]] v fun e w' => e = .returned (.bool true) ∧ BelS W w' :=
  (tdiffs_any aa ab ka ca kb cb _ _ v hla.out.choose_spec hlb.out.choose_spec).mono fun _ _ ⟨h1, h3⟩ => ⟨h1, ⟨hv.out.trans (h3.mono hv.out.size)⟩⟩
theorem tputs_from (W v : World) (a : Option Addr) (k c : Nat) (at_ : Int) (x : B8) (hv : BelS W v) (h : LvS v a k) (hx : x.ok) :
    Calls Try.prog 10 #[.agg #[.slice a k c], .int .i64 at_, .agg #[.int .u8 x.z0, .int .u8 x.z1, .int .u8 x.z2, .int .u8 x.z3, .int .u8 x.z4, .int .u8 x.z5, .int .u8 x.z6, .int .u8 x.z7]] v fun e w' => e = .returned (.bool true) ∧ BelS W w' :=
  (tputs_any a k c _ at_ x v h.out.choose_spec hx).mono fun _ _ ⟨h1, h3⟩ => ⟨h1, ⟨hv.out.trans (h3.mono hv.out.size)⟩⟩

/-- eight cells -/
def C8 (g : Nat) (x : B8) (w : World) : Prop := w.cell? ⟨g, 0, none⟩ = some (.int .u8 x.z0) ∧ w.cell? ⟨g, 1, none⟩ = some (.int .u8 x.z1) ∧ w.cell? ⟨g, 2, none⟩ = some (.int .u8 x.z2) ∧ w.cell? ⟨g, 3, none⟩ = some (.int .u8 x.z3) ∧ w.cell? ⟨g, 4, none⟩ = some (.int .u8 x.z4) ∧ w.cell? ⟨g, 5, none⟩ = some (.int .u8 x.z5) ∧ w.cell? ⟨g, 6, none⟩ = some (.int .u8 x.z6) ∧ w.cell? ⟨g, 7, none⟩ = some (.int .u8 x.z7)
theorem C8.later {g : Nat} {x : B8} {W w : World} (h : C8 g x W) (hg : g < W.heap.size) (hb : BelS W w) : C8 g x w := by
  obtain ⟨h0, h1, h2, h3, h4, h5, h6, h7⟩ := h
  have e := fun j => hb.out.cell (p := ⟨g, j, none⟩) hg
  exact ⟨(e 0).trans h0, (e 1).trans h1, (e 2).trans h2, (e 3).trans h3, (e 4).trans h4, (e 5).trans h5, (e 6).trans h6, (e 7).trans h7⟩

set_option maxRecDepth 100000 in
theorem tmade_big (a : Option Addr) (n c : Nat) (nn at_ more : Int) (w : World) (h : 256 < n) :
    Calls Try.prog 12 #[.slice a n c, .int .i64 nn, .int .i64 at_, .int .i64 more] w fun e w' => e = .returned (.bool true) ∧ Below w.heap.size w w' := by
  have h1 : (256 : Int) < n := by omega
  go_enter Try.func12, Try.ntmps12
  go_wp2
  go_ret
  exact ⟨rfl, Below.refl _ _⟩

set_option maxHeartbeats 8000000 in
set_option maxRecDepth 100000 in
theorem tmade_ok (a : Option Addr) (n c : Nat) (l : List Int) (nn at_ more : Int) (w : World) (hl : Ints w a n l) (hb : I64 l) (hn : n ≤ 256) (h1 : I64x nn) (h2 : I64x at_) (h3 : I64x more) :
    Calls Try.prog 12 #[.slice a n c, .int .i64 nn, .int .i64 at_, .int .i64 more] w fun e w' => e = .returned (.bool true) ∧ Below w.heap.size w w' := by
  have HL := hide hl
  have HB := hide hb
  have H1 := hide h1
  have H2 := hide h2
  have H3 := hide h3
  have hnb : ¬ (256 : Int) < n := by omega
  clear hl hb h1 h2 h3
  obtain ⟨N, hN1, hN2, hN⟩ : ∃ N : Nat, 1 ≤ N ∧ N ≤ 32 ∧ Hid (1 + Mx.pick nn 32 = (N : Int)) := ⟨(1 + Mx.pick nn 32).toNat, by have := Mx.pick_pos nn 32 (by omega); omega, by have := Mx.pick_pos nn 32 (by omega); omega, by unfold Hid; have := Mx.pick_pos nn 32 (by omega); omega⟩
  obtain ⟨P, hP1, hP⟩ : ∃ P : Nat, P ≤ 99 ∧ Hid (Mx.pick at_ 100 = (P : Int)) := ⟨(Mx.pick at_ 100).toNat, by have := Mx.pick_pos at_ 100 (by omega); omega, by unfold Hid; have := Mx.pick_pos at_ 100 (by omega); omega⟩
  obtain ⟨M, hM1, hM⟩ : ∃ M : Nat, M ≤ 5 ∧ Hid (Mx.pick more 6 = (M : Int)) := ⟨(Mx.pick more 6).toNat, by have := Mx.pick_pos more 6 (by omega); omega, by unfold Hid; have := Mx.pick_pos more 6 (by omega); omega⟩
  obtain ⟨T, hT1, hT⟩ : ∃ T : Nat, T ≤ 33 ∧ Hid (Mx.pick at_ ((N : Int) + 2) = (T : Int)) := ⟨(Mx.pick at_ ((N : Int) + 2)).toNat, by have := Mx.pick_pos at_ ((N : Int) + 2) (by omega); omega, by unfold Hid; have := Mx.pick_pos at_ ((N : Int) + 2) (by omega); omega⟩
  go_enter Try.func12, Try.ntmps12
  go_wp2_with fail
  refine (pickv_any nn 32 w H1.out.1 H1.out.2 (by omega) (by omega)).mono ?_
  rintro e w1 ⟨rfl, rfl⟩
  obtain ⟨Q, hQ⟩ : ∃ Q : Int, Hid (Q = Mx.pick nn 32) := ⟨_, rfl⟩
  rw [← hQ.out] at hN ⊢
  have hQN : 1 + Q = (N : Int) := hN.out
  go_wp2_with fail
  refine (pickv_any at_ 100 w1 H2.out.1 H2.out.2 (by omega) (by omega)).mono ?_
  rintro e w2 ⟨rfl, rfl⟩
  rw [hP.out]
  go_wp2_with fail
  refine (blocksFrom_any a n c l P N w2 HL.out HB.out (by omega) (by omega) (by omega)).mono ?_
  rintro e w3 ⟨v3, bs, rfl, hbs, hbo, hO3, hb3⟩
  obtain ⟨a3, c3, hv3, hB3, _⟩ := hO3.out.bl
  rw [hbs] at hv3 hB3
  subst hv3
  have BL3 := hide hB3
  have HBS := hide hbs
  have HBO := hide hbo
  clear hbs hbo hB3 hQN
  go_wp2_with fail
  refine (ownBlocks_any a3 N c3 bs w3 BL3.out (by omega)).mono ?_
  rintro e w4 ⟨v4, rfl, hO4, hb4⟩
  obtain ⟨a4, c4, hv4, _, _⟩ := hO4.bl
  rw [HBS.out] at hv4
  subst hv4
  obtain ⟨g, rfl, hg1, hg2, _, _⟩ := OwnBL.form hO4 (by omega)
  have O4 := hide hO4
  have B34 := hide hb4
  have B4 := hide (hb3.out.trans (hb4.mono hb3.out.size))
  clear hO4 hb4
  go_wp2_with fail
  go_loopw [11] (fun t wr => ∃ (k : Nat) (ms : List B8), t = .int .i64 (k : Int) ∧ k ≤ 6 ∧ Hid (ms.length = N) ∧ Hid (∀ x ∈ ms, x.ok) ∧ Hid (OwnBL wr w3.heap.size (.slice (some ⟨g, 0, none⟩) N c4) ms) ∧ Hid (Below w3.heap.size w3 wr)) (fun t _ => 6 - (intOf t).toNat)
  case atStart => exact ⟨0, bs, rfl, by omega, HBS, HBO, O4, B34⟩
  case round =>
    obtain ⟨k, ms, rfl, hk, hms, hmo, hO, hB⟩ := hrel
    go_wp2_with fail
    refine (pickv_any more 6 wr H3.out.1 H3.out.2 (by omega) (by omega)).mono ?_
    rintro e w5 ⟨rfl, rfl⟩
    rw [hM.out]
    have BW := hide (hb3.out.trans (hB.out.mono hb3.out.size))
    by_cases hlt : (k : Int) < M
    · go_wp2_with fail
      refine (raw_any a n c l (k + 7) w5 (HL.out.later BW.out) HB.out (by omega) (by omega)).mono ?_
      rintro e w6 ⟨r, hr, rfl, q, rfl⟩
      go_wp2_with fail
      refine (pickv_any (r : Int) (N : Int) _ (by omega) (by omega) (by omega) (by omega)).mono ?_
      rintro e w7 ⟨rfl, rfl⟩
      obtain ⟨J, hJ1, hJ⟩ : ∃ J : Nat, J < N ∧ Hid (Mx.pick (r : Int) (N : Int) = (J : Int)) := ⟨(Mx.pick (r : Int) (N : Int)).toNat, by have := Mx.pick_pos (r : Int) (N : Int) (by omega); omega, by unfold Hid; have := Mx.pick_pos (r : Int) (N : Int) (by omega); omega⟩
      rw [hJ.out]
      go_wp2_with fail
      refine (blockFrom_any a n c l (k + 11) _ (HL.out.later (below_drewN BW.out q)) HB.out (by omega) (by omega)).mono ?_
      rintro e w8 ⟨x, hx, rfl, hb8⟩
      have HX := hide hx
      have B8 := hide (show Below w3.heap.size w3 w8 from (below_drewN hB.out q).trans (hb8.out.mono (below_drewN hB.out q).size))
      have O8 := hide (show OwnBL w8 w3.heap.size (.slice (some ⟨g, 0, none⟩) N c4) ms from rowKept (rowKept hO.out (below_drewN (Below.refl _ _) q)) hb8.out)
      clear hx hb8
      obtain ⟨y, _, e0, e1, e2, e3, e4, e5, e6, e7⟩ := O8.out.at_ J (by omega)
      have hfz : ∀ o, w8.frozen? ⟨g, o, none⟩ = false := by
        obtain ⟨g', hg', _, _, _, hz⟩ := OwnBL.form O8.out (by omega)
        cases hg'
        exact hz
      have hJi : (J : Int) < N := by omega
      have O9 := hide (OwnBL.put O8.out J (by have := hms.out; omega) x)
      have B9 := hide (set8_below B8.out hg1 (J * 8) x)
      have HM9 := hide (show (ms.set J x).length = N by rw [List.length_set]; exact hms.out)
      have HO9 := hide (show ∀ z ∈ ms.set J x, z.ok from fun z hz => (List.mem_or_eq_of_mem_set hz).elim (hmo.out z) (fun h => by rw [h]; exact HX.out))
      go_wp2_with fail
      exact ⟨⟨k + 1, ms.set J x, by go_num, by omega, HM9, HO9, O9, B9⟩, by simp [intOf]; omega⟩
    · obtain ⟨y0, hy0, e0, e1, e2, e3, e4, e5, e6, e7⟩ := hO.out.at_ 0 (by omega)
      have HY0 := hide (hmo.out y0 (List.mem_of_getElem? hy0))
      simp only [Nat.zero_mul, Nat.zero_add] at e0 e1 e2 e3 e4 e5 e6 e7
      have C0 := hide (show C8 g y0 w5 from ⟨e0, e1, e2, e3, e4, e5, e6, e7⟩)
      have hgw : g < w5.heap.size := (World.ownsRow.lt hO.out g rfl).2
      have BKm : BkS w5 (some ⟨g, 0, none⟩) N := ⟨ms, hO.out.asBL, hmo.out, by omega, by omega⟩
      have BKl : BkS w5 a3 N := ⟨bs, BL3.out.later hB.out, HBO.out, by omega, by omega⟩
      have B0 : BelS w5 w5.drew := ⟨(Below.refl w5.heap.size w5).drew⟩
      have B00 : BelS w5 w5 := ⟨Below.refl w5.heap.size w5⟩
      have hTi : (T : Int) - 1 ≤ 1000 := by omega
      have hNp : (0 : Int) < N := by omega
      have hNr : 0 < N := by omega
      have hW1 : IntKind.i64.wrap ((N : Int) + 2) = (N : Int) + 2 := by rw [IntWalk.i64_left, IntWalk.wrap64_in _ (by omega)]
      have hW2 : IntKind.i64.wrap ((T : Int) - 1) = (T : Int) - 1 := by rw [IntWalk.i64_left, IntWalk.wrap64_in _ (by omega)]
      have hNs : ¬ (N : Int) ≤ 0 := by omega
      clear hy0 e0 e1 e2 e3 e4 e5 e6 e7
      go_wp2_with fail
      go_region_held3 (fun w' => w'.cell? ⟨g, 0, none⟩ = some (.int .u8 y0.z0) ∧ w'.cell? ⟨g, 1, none⟩ = some (.int .u8 y0.z1) ∧ w'.cell? ⟨g, 2, none⟩ = some (.int .u8 y0.z2) ∧ w'.cell? ⟨g, 3, none⟩ = some (.int .u8 y0.z3) ∧ w'.cell? ⟨g, 4, none⟩ = some (.int .u8 y0.z4) ∧ w'.cell? ⟨g, 5, none⟩ = some (.int .u8 y0.z5) ∧ w'.cell? ⟨g, 6, none⟩ = some (.int .u8 y0.z6) ∧ w'.cell? ⟨g, 7, none⟩ = some (.int .u8 y0.z7))
        (exact C0.out.later hgw (by assumption))
        (first
        | (go_at_call 9; refine (tsays_from w5 _ a3 N c3 (by assumption) BKl).mono ?_; rintro e ws ⟨rfl, Bs⟩)
        | (go_at_call 46; refine (treeOf_from w5 _ _ _ _ (by assumption) (by assumption)).mono ?_; rintro e wl ⟨al, kl, cl, rfl, hLl, hKl, Bl⟩)
        | (go_at_call 11; refine (tdiffs_from w5 _ _ _ _ _ _ _ (by assumption) (by first | assumption | exact hKl _ _ (by assumption)) (by first | assumption | exact hKl _ _ (by assumption))).mono ?_; rintro e wd ⟨rfl, Bd⟩)
        | (go_at_call 25; refine (pickv_any at_ ((N : Int) + 2) _ H2.out.1 H2.out.2 (by omega) (by omega)).mono ?_; rintro e wp ⟨rfl, rfl⟩; rw [hT.out])
        | (go_at_call 10; refine (tputs_from w5 _ _ _ _ _ y0 (by assumption) (by first | assumption | exact hKl _ _ (by assumption)) HY0.out).mono ?_; rintro e wq ⟨rfl, Bp⟩))
      all_goals
        have HF := hide (BW.out.trans (Bp.out.mono BW.out.size))
        go_wp2_with fail
        go_ret
        exact ⟨rfl, HF.out⟩

theorem tmade_any (a : Option Addr) (n c : Nat) (l : List Int) (nn at_ more : Int) (w : World) (hl : Ints w a n l) (hb : I64 l) (h1 : I64x nn) (h2 : I64x at_) (h3 : I64x more) :
    Calls Try.prog 12 #[.slice a n c, .int .i64 nn, .int .i64 at_, .int .i64 more] w fun e w' => e = .returned (.bool true) ∧ Below w.heap.size w w' := by
  by_cases h : 256 < n
  · exact tmade_big a n c nn at_ more w h
  · exact tmade_ok a n c l nn at_ more w hl hb (by omega) h1 h2 h3

end Go.Proofs.Ytdhmijjphgcdmaa
