/-
  Where two trees differ, as the program asks it (checkBoth, Diff).
-/
import Derived.Laws.EntriesVeiled
import Derived.Test.YtdhmijjphgcdmacZIs
import Derived.Test.YtdhmijjphgcdmacZDclone
import Derived.Test.YtdhmijjphgcdmacZDbox
import Derived.Test.YtdhmijjphgcdmacZTof

namespace Go.Proofs.Ytdhmijjphgcdmac
open Go.RowKit

/-- D3's error of two trees -/
def Mx.both (la lb : List (List Nat)) : Int := if Mx.tmay la = 0 then (if Mx.tmay lb = 0 then (if (la.getD 0 []).length = (lb.getD 0 []).length then 0 else 6) else Mx.tmay lb) else Mx.tmay la
theorem Mx.both_a {la lb : List (List Nat)} (h : ¬ Mx.tmay la = 0) : Mx.both la lb = Mx.tmay la := by unfold Mx.both; rw [if_neg h]
theorem Mx.both_b {la lb : List (List Nat)} (h : Mx.tmay la = 0) (h2 : ¬ Mx.tmay lb = 0) : Mx.both la lb = Mx.tmay lb := by unfold Mx.both; rw [if_pos h, if_neg h2]
theorem Mx.both_c {la lb : List (List Nat)} (h : Mx.tmay la = 0) (h2 : Mx.tmay lb = 0) (h3 : ¬ (la.getD 0 []).length = (lb.getD 0 []).length) : Mx.both la lb = 6 := by unfold Mx.both; rw [if_pos h, if_pos h2, if_neg h3]
theorem Mx.both_d {la lb : List (List Nat)} (h : Mx.tmay la = 0) (h2 : Mx.tmay lb = 0) (h3 : (la.getD 0 []).length = (lb.getD 0 []).length) : Mx.both la lb = 0 := by unfold Mx.both; rw [if_pos h, if_pos h2, if_pos h3]
theorem Mx.tmay_head {ls : List (List Nat)} (h : Mx.tmay ls = 0) : 1 ≤ ls.length ∧ 1 ≤ (ls.getD 0 []).length ∧ (ls.getD 0 []).length ≤ 32 := by
  match ls, h with
  | [], h => simp [Mx.tmay] at h
  | l :: r, h =>
    change (if 1 ≤ l.length ∧ l.length ≤ 32 then Mx.tsame (l :: r) l else 3) = 0 at h
    split at h
    · rename_i h1
      exact ⟨by simp, h1.1, h1.2⟩
    · omega

set_option maxHeartbeats 4000000 in
set_option maxRecDepth 100000 in
theorem checkBoth_any (aa ab : Option Addr) (ka ca kb cb : Nat) (la lb : List (List Nat)) (w : World) (hla : Lvls w aa ka la) (hlb : Lvls w ab kb lb) :
    Calls Try.prog 70 #[.agg #[.slice aa ka ca], .agg #[.slice ab kb cb]] w fun e w' => e = .returned (errV (Mx.both la lb)) ∧ Below w.heap.size w w' := by
  have HLA := hide hla
  have HLB := hide hlb
  obtain ⟨w0, hw0⟩ : ∃ w0 : World, Hid (w0 = (w.alloc (.cells #[.slice aa ka ca] 60)).alloc (.cells #[.slice ab kb cb] 60)) := ⟨_, rfl⟩
  have B0 := hide (show Below w.heap.size w w0 by rw [hw0.out]; exact (below_alloc _ _).alloc (by simp) _)
  have X0 := hide (show Bx w0 w.heap.size #[.slice aa ka ca] 60 by rw [hw0.out]; exact (Bx.new w _ 60).alloc _)
  have Y0 := hide (show Bx w0 (w.heap.size + 1) #[.slice ab kb cb] 60 by
    rw [hw0.out]
    have h := Bx.new (w.alloc (.cells #[.slice aa ka ca] 60)) #[.slice ab kb cb] 60
    rw [World.size_alloc] at h
    exact h)
  clear hla hlb
  go_enter Try.func70, Try.ntmps70
  go_wp2_with fail
  rw [← hw0.out]
  refine (tcheck_any aa ka ca la w0 (HLA.out.later B0.out)).mono ?_
  rintro e w1 ⟨rfl, hb1⟩
  have X1 := hide (X0.out.later hb1 X0.out.lt)
  have Y1 := hide (Y0.out.later hb1 Y0.out.lt)
  have B1 := hide (B0.out.trans (hb1.mono B0.out.size))
  clear hb1
  by_cases hA : Mx.tmay la = 0
  · have HA := hide hA
    rw [hA, errV_zero]
    clear hA
    have y1 := Y1.out.one
    go_wp2_with fail
    refine (tcheck_any ab kb cb lb w1 (HLB.out.later B1.out)).mono ?_
    rintro e w2 ⟨rfl, hb2⟩
    have X2 := hide (X1.out.later hb2 X1.out.lt)
    have Y2 := hide (Y1.out.later hb2 Y1.out.lt)
    have B2 := hide (B1.out.trans (hb2.mono B1.out.size))
    clear hb2 y1
    by_cases hB : Mx.tmay lb = 0
    · have HB := hide hB
      rw [hB, errV_zero]
      clear hB
      have x2 := X2.out.one
      have y2 := Y2.out.one
      have hka : 0 < (ka : Int) := by have := (Mx.tmay_head HA.out).1; have := HLA.out.1; omega
      have hkb : 0 < (kb : Int) := by have := (Mx.tmay_head HB.out).1; have := HLB.out.1; omega
      have hkm : ka ≤ 9223372036854775807 := by have := HLA.out.2.1; unfold maxLen at this; omega
      have hkm2 : kb ≤ 9223372036854775807 := by have := HLB.out.2.1; unfold maxLen at this; omega
      obtain ⟨b, off, l, ai, ni, ci, hab, _, hl, hc, hu, _⟩ := (HLA.out.later B2.out).at_ 0 (by omega)
      obtain ⟨b', off', l', aj, nj, cj, hab', _, hl', hc', hu', _⟩ := (HLB.out.later B2.out).at_ 0 (by omega)
      subst hab hab'
      rw [Nat.add_zero] at hc hc'
      have hn : (la.getD 0 []).length = ni := by rw [List.getD_eq_getElem?_getD, hl]; exact hu.1
      have hn' : (lb.getD 0 []).length = nj := by rw [List.getD_eq_getElem?_getD, hl']; exact hu'.1
      have hnm : ni ≤ 9223372036854775807 := by have := hu.2.1; unfold maxLen at this; omega
      have hnm' : nj ≤ 9223372036854775807 := by have := hu'.2.1; unfold maxLen at this; omega
      clear hl hl' hu hu'
      by_cases hE : ni = nj
      · have HF := hide (Mx.both_d HA.out HB.out (by rw [hn, hn', hE]))
        have hne : ((ni : Int) != (nj : Int)) = false := by simp; omega
        clear hn hn' hE
        go_wp2_with fail
        go_quiet (fail)
        go_wp2_with fail
        go_ret
        exact ⟨by rw [HF.out] <;> rfl, below_drewN B2.out _⟩
      · have HF := hide (Mx.both_c HA.out HB.out (by rw [hn, hn']; exact hE))
        have hne : ((ni : Int) != (nj : Int)) = true := by simp; omega
        clear hn hn' hE
        go_wp2_with fail
        go_quiet (fail)
        go_wp2_with fail
        go_ret
        exact ⟨by rw [HF.out] <;> rfl, below_drewN B2.out _⟩
    · have HF := hide (Mx.both_b HA.out hB)
      obtain ⟨E, hEE⟩ : ∃ E : Int, Hid (E = Mx.tmay lb) := ⟨_, rfl⟩
      have HV := hide (show errV (Mx.tmay lb) = .iface 36 (.int .i64 E) by rw [errV_not hB, hEE.out])
      rw [HV.out]
      clear hB
      go_wp2_with fail
      go_ret
      exact ⟨by rw [HF.out, HV.out] <;> rfl, B2.out⟩
  · have HF := hide (Mx.both_a (lb := lb) hA)
    obtain ⟨E, hEE⟩ : ∃ E : Int, Hid (E = Mx.tmay la) := ⟨_, rfl⟩
    have HV := hide (show errV (Mx.tmay la) = .iface 36 (.int .i64 E) by rw [errV_not hA, hEE.out])
    rw [HV.out]
    clear hA
    go_wp2_with fail
    go_ret
    exact ⟨by rw [HF.out, HV.out] <;> rfl, B1.out⟩

theorem ownsRow_lower {w : World} {base base' e size : Nat} {v : Value} {n : Nat} {xs : List Value} (h : w.ownsRow base e size v n xs) (hb : base' ≤ base) : w.ownsRow base' e size v n xs := by
  obtain ⟨h1, h2⟩ := h
  rcases h2 with h2 | ⟨g, cap, cur, hv, hg, h3⟩
  · exact ⟨h1, .inl h2⟩
  · exact ⟨h1, .inr ⟨g, cap, cur, hv, by omega, h3⟩⟩

/-- Diff's four boxes -/
def D4 (w : World) (va vb : Value) : World := (((w.alloc (.cells #[va] 60)).alloc (.cells #[vb] 60)).alloc (.cells #[.slice none 0 0] 22)).alloc (.cells #[.int .i64 0] 3)
theorem D4_box (w : World) (va vb : Value) : Bx (D4 w va vb) w.heap.size #[va] 60 ∧ Bx (D4 w va vb) (w.heap.size + 1) #[vb] 60 ∧ Bx (D4 w va vb) (w.heap.size + 2) #[.slice none 0 0] 22 ∧ Bx (D4 w va vb) (w.heap.size + 3) #[.int .i64 0] 3 ∧ Below w.heap.size w (D4 w va vb) ∧ (D4 w va vb).heap.size = w.heap.size + 4 := by
  refine ⟨((((Bx.new w _ _).alloc _).alloc _).alloc _), ?_, ?_, ?_, ?_, by simp [D4]⟩
  · have h := ((Bx.new (w.alloc (.cells #[va] 60)) #[vb] 60).alloc (.cells #[.slice none 0 0] 22)).alloc (.cells #[.int .i64 0] 3)
    rw [World.size_alloc] at h
    exact h
  · have h := (Bx.new ((w.alloc (.cells #[va] 60)).alloc (.cells #[vb] 60)) #[.slice none 0 0] 22).alloc (.cells #[.int .i64 0] 3)
    rw [World.size_alloc, World.size_alloc] at h
    exact h
  · have h := Bx.new (((w.alloc (.cells #[va] 60)).alloc (.cells #[vb] 60)).alloc (.cells #[.slice none 0 0] 22)) #[.int .i64 0] 3
    rw [World.size_alloc, World.size_alloc, World.size_alloc] at h
    exact h
  · exact (((below_alloc _ _).alloc (by simp) _).alloc (by simp; omega) _).alloc (by simp; omega) _

set_option maxHeartbeats 4000000 in
set_option maxRecDepth 100000 in
theorem diff_err (aa ab : Option Addr) (ka ca kb cb : Nat) (la lb : List (List Nat)) (w : World) (hla : Lvls w aa ka la) (hlb : Lvls w ab kb lb) (hE : ¬ Mx.both la lb = 0) :
    Calls Try.prog 29 #[.agg #[.slice aa ka ca], .agg #[.slice ab kb cb]] w fun e w' => e = .returned (.tuple #[.slice none 0 0, .int .i64 0, errV (Mx.both la lb)]) ∧ Below w.heap.size w w' := by
  have HLA := hide hla
  have HLB := hide hlb
  obtain ⟨w0, hw0⟩ : ∃ w0 : World, Hid (w0 = D4 w (.slice aa ka ca) (.slice ab kb cb)) := ⟨_, rfl⟩
  have BX := hide (D4_box w (.slice aa ka ca) (.slice ab kb cb))
  rw [← hw0.out] at BX
  obtain ⟨E, hEE⟩ : ∃ E : Int, Hid (E = Mx.both la lb) := ⟨_, rfl⟩
  have HV := hide (show errV (Mx.both la lb) = .iface 36 (.int .i64 E) by rw [errV_not hE, hEE.out])
  clear hla hlb hE
  go_enter Try.func29, Try.ntmps29
  go_wp2_with fail
  change Calls Try.prog 70 _ (D4 w (.slice aa ka ca) (.slice ab kb cb)) _
  rw [← hw0.out]
  obtain ⟨h1, h2, h3, h4, h5, h6⟩ := BX.out
  have B0 := hide h5
  refine (checkBoth_any aa ab ka ca kb cb la lb w0 (HLA.out.later B0.out) (HLB.out.later B0.out)).mono ?_
  rintro e w1 ⟨rfl, hb1⟩
  rw [HV.out]
  have P1 := hide (h3.later hb1 h3.lt)
  have Q1 := hide (h4.later hb1 h4.lt)
  have B1 := hide (B0.out.trans (hb1.mono B0.out.size))
  clear hb1 h1 h2 h3 h4 h5 h6
  have p1 := P1.out.one
  have q1 := Q1.out.one
  have pz := P1.out.frozen
  have qz := Q1.out.frozen
  go_wp2_with fail
  have P2 := (show Bx _ _ #[.slice none 0 0] 22 from P1.out.set 0 (.slice none 0 0)).other ⟨w.heap.size + 3, 0, none⟩ (.int .i64 0) (by show w.heap.size + 2 ≠ w.heap.size + 3; omega)
  have Q2 := (show Bx _ _ #[.int .i64 0] 3 from (Q1.out.other ⟨w.heap.size + 2, 0, none⟩ (.slice none 0 0) (by show w.heap.size + 3 ≠ w.heap.size + 2; omega)).set 0 (.int .i64 0))
  have p2 := P2.one
  have q2 := Q2.one
  refine bodyPost_ret (v := .tuple #[.slice none 0 0, .int .i64 0, .iface 36 (.int .i64 E)]) (by simp [results, Try.results29, go_sem, p2, q2]) rfl ⟨by rw [HV.out], (B1.out.setCell (p := ⟨w.heap.size + 2, 0, none⟩) (by show w.heap.size ≤ w.heap.size + 2; omega) _).setCell (p := ⟨w.heap.size + 3, 0, none⟩) (by show w.heap.size ≤ w.heap.size + 3; omega) _⟩

set_option maxHeartbeats 4000000 in
set_option maxRecDepth 100000 in
theorem diff_ok (aa ab : Option Addr) (ka ca kb cb : Nat) (la lb : List (List Nat)) (w : World) (hla : Lvls w aa ka la) (hlb : Lvls w ab kb lb) (hE : Mx.both la lb = 0) (hk : ka = kb) (hk2 : ka ≤ 1000) (hlen : ∀ L, (la.getD L []).length = (lb.getD L []).length) (hsm : ∀ L, (la.getD L []).length ≤ 1000)
    (L : Nat) (hL : ka = L + 1) (h0 : 0 < (la.getD L []).length) (hA : Mx.dasked la lb L 0 ≤ 1000000) (hP : (Mx.dplaces la lb L 0).length ≤ 1000000) :
    Calls Try.prog 29 #[.agg #[.slice aa ka ca], .agg #[.slice ab kb cb]] w fun e w' => ∃ vP, e = .returned (.tuple #[vP, .int .i64 (Mx.dasked la lb L 0 : Int), .nilIface]) ∧ Hid (OwnI w' w.heap.size vP ((Mx.dplaces la lb L 0).map fun x : Nat => (x : Int))) ∧ Hid (Below w.heap.size w w') := by
  subst hk
  have HLA := hide hla
  have HLB := hide hlb
  have HKL := hide hL
  obtain ⟨w0, hw0⟩ : ∃ w0 : World, Hid (w0 = D4 w (.slice aa ka ca) (.slice ab ka cb)) := ⟨_, rfl⟩
  have BX := hide (D4_box w (.slice aa ka ca) (.slice ab ka cb))
  rw [← hw0.out] at BX
  have HV := hide (show errV (Mx.both la lb) = .nilIface by rw [hE, errV_zero])
  have HLEN := hide hlen
  have HSM := hide hsm
  have H0 := hide h0
  have HA := hide hA
  have HP := hide hP
  have hLe : (ka : Int) - 1 = (L : Int) := by omega
  have hmf : ∀ (fn : Fn) (first cap : Array Value) (w : World), (Instr.makeFunc fn first cap).run Try.prog w = .ok (.func fn first cap) w := fun _ _ _ _ => rfl
  clear hla hlb hE hlen hsm h0 hA hP hL
  go_enter Try.func29, Try.ntmps29
  go_wp2_with fail
  change Calls Try.prog 70 _ (D4 w (.slice aa ka ca) (.slice ab ka cb)) _
  rw [← hw0.out]
  obtain ⟨h1, h2, h3, h4, h5, h6⟩ := BX.out
  have B0 := hide h5
  refine (checkBoth_any aa ab ka ca ka cb la lb w0 (HLA.out.later B0.out) (HLB.out.later B0.out)).mono ?_
  rintro e w1 ⟨rfl, hb1⟩
  rw [HV.out]
  have X1 := hide (h1.later hb1 h1.lt)
  have Y1 := hide (h2.later hb1 h2.lt)
  have P1 := hide (h3.later hb1 h3.lt)
  have Q1 := hide (h4.later hb1 h4.lt)
  have B1 := hide (B0.out.trans (hb1.mono B0.out.size))
  have hs1 : w.heap.size + 4 ≤ w1.heap.size := by have := hb1.size; omega
  clear hb1 h1 h2 h3 h4 h5 h6
  have x1 := X1.out.one
  obtain ⟨w2, hw2⟩ : ∃ w2 : World, Hid (w2 = w1.alloc (.cells #[.func (.func 71) #[] #[.pointer (some ⟨w.heap.size + 3, 0, none⟩), .pointer (some ⟨w.heap.size, 0, none⟩), .pointer (some ⟨w.heap.size + 1, 0, none⟩), .pointer (some ⟨w.heap.size + 2, 0, none⟩), .pointer (some ⟨w1.heap.size, 0, none⟩)]] 128)) := ⟨_, rfl⟩
  have H2 := hide (show HI w w1.heap.size (.slice aa ka ca) (.slice ab ka cb) 0 [] w2 by
    rw [hw2.out]
    exact ⟨.slice none 0 0, X1.out.alloc _, Y1.out.alloc _, P1.out.alloc _, Q1.out.alloc _, Bx.new _ _ _, OwnI.nil _ _, B1.out.alloc B1.out.size _, hs1⟩)
  have hx1 : w.heap.size < w1.heap.size := by omega
  go_wp2_with fail
  rw [← hw2.out]
  clear x1
  refine (hold_any w w1.heap.size aa ab ka ca ka cb la lb HLA.out HLB.out rfl hk2 HLEN.out HSM.out L 0 0 [] w2 (by have := HKL.out; omega) H0.out H2.out (by have := HA.out; omega) (by have := HP.out; simpa using this)).mono ?_
  rintro e w3 ⟨rfl, hH3⟩
  rw [Nat.zero_add, List.nil_append] at hH3
  obtain ⟨A, hAe⟩ : ∃ A : Nat, Hid (A = Mx.dasked la lb L 0) := ⟨_, rfl⟩
  rw [← hAe.out] at hH3
  have H3 := hide hH3
  obtain ⟨vP, _, _, p3, q3, _, o3, b3, _⟩ := hH3
  obtain ⟨aP, cP, hvP, _⟩ := o3.ints
  obtain ⟨N, hN⟩ : ∃ N : Nat, Hid (N = ((Mx.dplaces la lb L 0).map fun x : Nat => (x : Int)).length) := ⟨_, rfl⟩
  rw [← hN.out] at hvP
  subst hvP
  have P3 := hide p3
  have Q3 := hide q3
  have O3 := hide o3
  have B3 := hide b3
  clear p3 q3 o3 b3
  have p3 := P3.out.one
  have q3 := Q3.out.one
  have pz := P3.out.frozen
  have qz := Q3.out.frozen
  go_wp2_with fail
  go_region
  have P4 := (show Bx _ _ #[.slice aP N cP] 22 from P3.out.set 0 (.slice aP N cP)).other ⟨w.heap.size + 3, 0, none⟩ (.int .i64 (A : Int)) (by show w.heap.size + 2 ≠ w.heap.size + 3; omega)
  have Q4 := (show Bx _ _ #[.int .i64 (A : Int)] 3 from (Q3.out.other ⟨w.heap.size + 2, 0, none⟩ (.slice aP N cP) (by show w.heap.size + 3 ≠ w.heap.size + 2; omega)).set 0 (.int .i64 (A : Int)))
  have p4 := P4.one
  have q4 := Q4.one
  have hne : ∀ g, (Value.slice aP N cP).ownBlock = some g → w.heap.size + 4 ≤ g := fun g hg => by have := (World.ownsRow.lt O3.out g hg).1; omega
  have HO := hide (show OwnI ((w3.setCell ⟨w.heap.size + 2, 0, none⟩ (.slice aP N cP)).setCell ⟨w.heap.size + 3, 0, none⟩ (.int .i64 (A : Int))) w.heap.size (.slice aP N cP) ((Mx.dplaces la lb L 0).map fun x : Nat => (x : Int)) from
    ownsRow_lower (ownsRow_other (ownsRow_other O3.out ⟨w.heap.size + 2, 0, none⟩ _ (fun e => by have := hne _ e; change w.heap.size + 4 ≤ w.heap.size + 2 at this; omega)) ⟨w.heap.size + 3, 0, none⟩ _ (fun e => by have := hne _ e; change w.heap.size + 4 ≤ w.heap.size + 3 at this; omega)) (by omega))
  have HB := hide ((B3.out.setCell (p := ⟨w.heap.size + 2, 0, none⟩) (by show w.heap.size ≤ w.heap.size + 2; omega) (.slice aP N cP)).setCell (p := ⟨w.heap.size + 3, 0, none⟩) (by show w.heap.size ≤ w.heap.size + 3; omega) (.int .i64 (A : Int)))
  clear hne
  go_wp2_with fail
  refine bodyPost_ret (v := .tuple #[.slice aP N cP, .int .i64 (A : Int), .nilIface]) (by simp [results, Try.results29, go_sem, p4, q4]) rfl ⟨.slice aP N cP, by rw [← hAe.out], ?_, ?_⟩
  · exact rowKept HO.out (Below.refl _ _).drew
  · exact HB.out.drew

end Go.Proofs.Ytdhmijjphgcdmac

/-
  Where two trees differ, as the document's answer has it (Differs): level by level.
-/
namespace Go.Proofs.Ytdhmijjphgcdmac
open Go.RowKit

namespace Mx
/-- the first of the places below a place -/
def kidsP (n x k : Nat) : List Nat := (List.range (min (x * 4 + k) n - x * 4)).map fun j => x * 4 + j
theorem kidsP_zero (n x : Nat) : kidsP n x 0 = [] := by unfold kidsP; rw [show min (x * 4 + 0) n - x * 4 = 0 by omega]; rfl
theorem kidsP_four (n x : Nat) : kidsP n x 4 = kids n x := rfl
theorem kidsP_in {n x k : Nat} (h : x * 4 + k < n) : kidsP n x (k + 1) = kidsP n x k ++ [x * 4 + k] := by
  unfold kidsP
  rw [show min (x * 4 + (k + 1)) n - x * 4 = k + 1 by omega, show min (x * 4 + k) n - x * 4 = k by omega, List.range_succ, List.map_append]
  rfl
theorem kidsP_out {n x k : Nat} (h : ¬ x * 4 + k < n) : kidsP n x (k + 1) = kidsP n x k := by
  unfold kidsP
  rw [show min (x * 4 + (k + 1)) n = min (x * 4 + k) n by omega]
theorem kidsP_len (n x k : Nat) : (kidsP n x k).length ≤ k := by unfold kidsP; simp; omega
theorem dnext_same {la lb : List (List Nat)} {L t x : Nat} {now : List Nat} (hx : now[t]? = some x) (h : nd la (L + 1) x = nd lb (L + 1) x) : dnext la lb L (now.take (t + 1)) = dnext la lb L (now.take t) := by
  have ht : t < now.length := (List.getElem?_eq_some_iff.1 hx).1
  have hxe : now[t] = x := by rw [List.getElem?_eq_getElem ht] at hx; exact Option.some.inj hx
  rw [List.take_succ_eq_append_getElem ht, dnext, List.flatMap_append, dnext, hxe]
  simp [h]
theorem dnext_unlike {la lb : List (List Nat)} {L t x : Nat} {now : List Nat} (hx : now[t]? = some x) (h : ¬ nd la (L + 1) x = nd lb (L + 1) x) : dnext la lb L (now.take (t + 1)) = dnext la lb L (now.take t) ++ kids (la.getD L []).length x := by
  have ht : t < now.length := (List.getElem?_eq_some_iff.1 hx).1
  have hxe : now[t] = x := by rw [List.getElem?_eq_getElem ht] at hx; exact Option.some.inj hx
  rw [List.take_succ_eq_append_getElem ht, dnext, List.flatMap_append, dnext, hxe]
  simp [h]
theorem dplacesL_same {la lb : List (List Nat)} {t x : Nat} {now : List Nat} (hx : now[t]? = some x) (h : nd la 0 x = nd lb 0 x) : dplacesL la lb 0 (now.take (t + 1)) = dplacesL la lb 0 (now.take t) := by
  have ht : t < now.length := (List.getElem?_eq_some_iff.1 hx).1
  have hxe : now[t] = x := by rw [List.getElem?_eq_getElem ht] at hx; exact Option.some.inj hx
  rw [List.take_succ_eq_append_getElem ht, dplacesL, List.flatMap_append, dplacesL, hxe]
  simp [dplaces, h]
theorem dplacesL_unlike {la lb : List (List Nat)} {t x : Nat} {now : List Nat} (hx : now[t]? = some x) (h : ¬ nd la 0 x = nd lb 0 x) : dplacesL la lb 0 (now.take (t + 1)) = dplacesL la lb 0 (now.take t) ++ [x] := by
  have ht : t < now.length := (List.getElem?_eq_some_iff.1 hx).1
  have hxe : now[t] = x := by rw [List.getElem?_eq_getElem ht] at hx; exact Option.some.inj hx
  rw [List.take_succ_eq_append_getElem ht, dplacesL, List.flatMap_append, dplacesL, hxe]
  simp [dplaces, h]
theorem daskedL_ge (la lb : List (List Nat)) (L : Nat) (now : List Nat) : now.length ≤ daskedL la lb L now := by
  unfold daskedL
  induction now with
  | nil => simp
  | cons x now ih =>
    rw [List.map_cons, List.sum_cons, List.length_cons]
    have := dasked_pos la lb L x
    omega
theorem dplacesL_len (la lb : List (List Nat)) (now : List Nat) : (dplacesL la lb 0 now).length ≤ now.length := by
  unfold dplacesL
  induction now with
  | nil => simp
  | cons x now ih =>
    rw [List.flatMap_cons, List.length_append, List.length_cons]
    have := dplaces_le la lb 0 x
    omega
end Mx

/-- numbers from 0 on, read -/
def NI (w : World) (a : Option Addr) (n : Nat) (l : List Nat) : Prop := Ints w a n (l.map fun x : Nat => (x : Int))
theorem NI.later {w w' : World} {a : Option Addr} {n : Nat} {l : List Nat} (h : NI w a n l) (hb : Below w.heap.size w w') : NI w' a n l := Ints.later h hb
theorem NI.at_ {w : World} {a : Option Addr} {n : Nat} {l : List Nat} (h : NI w a n l) (k : Nat) (hk : k < n) :
    ∃ b off, ∃ x : Nat, a = some ⟨b, off, none⟩ ∧ b < w.heap.size ∧ l[k]? = some x ∧ w.cell? ⟨b, off + k, none⟩ = some (.int .i64 (x : Int)) := by
  obtain ⟨b, off, x, ha, hb, hx, hc⟩ := Ints.at_ h k hk
  have hl : k < l.length := by have := h.1; simp at this; omega
  refine ⟨b, off, l[k], ha, hb, List.getElem?_eq_getElem hl, ?_⟩
  rw [hc, ← hx, List.getD_eq_getElem?_getD, List.getElem?_map, List.getElem?_eq_getElem hl]
  rfl

/-- where the answer stands, so many levels to go -/
def DW (la lb : List (List Nat)) (w wr : World) (total : List Nat) (many R : Nat) (As : Nat) (vP : Value) (aN : Option Addr) (nN : Nat) : Prop :=
  match R with
  | 0 => OwnI wr w.heap.size vP (total.map fun x : Nat => (x : Int)) ∧ As = many
  | R + 1 => vP = .slice none 0 0 ∧ ∃ Nw, NI wr aN nN Nw ∧ (∀ x ∈ Nw, x < (la.getD R []).length) ∧ Mx.dplacesL la lb R Nw = total ∧ As + Mx.daskedL la lb R Nw = many

end Go.Proofs.Ytdhmijjphgcdmac

/-
  Where two lists of blocks differ is found, unless digests of unlike things are alike; and few pairs are asked (TopDiff): the walk.
-/
namespace Go.Proofs.Ytdhmijjphgcdmac
open Go.RowKit

/-- two trees' boxes, and two blocks' cells, in a world that has all that was there -/
def S18 (W : World) (ga gb bl ol bm om : Nat) (va vb : Value) (x y : B8) (w : World) : Prop := BelS W w ∧ w.cell? ⟨ga, 0, none⟩ = some va ∧ w.cell? ⟨gb, 0, none⟩ = some vb ∧ w.cell? ⟨bl, ol, none⟩ = some (.int .u8 x.z0) ∧ w.cell? ⟨bl, ol + 1, none⟩ = some (.int .u8 x.z1) ∧ w.cell? ⟨bl, ol + 2, none⟩ = some (.int .u8 x.z2) ∧ w.cell? ⟨bl, ol + 3, none⟩ = some (.int .u8 x.z3) ∧ w.cell? ⟨bl, ol + 4, none⟩ = some (.int .u8 x.z4) ∧ w.cell? ⟨bl, ol + 5, none⟩ = some (.int .u8 x.z5) ∧ w.cell? ⟨bl, ol + 6, none⟩ = some (.int .u8 x.z6) ∧ w.cell? ⟨bl, ol + 7, none⟩ = some (.int .u8 x.z7) ∧ w.cell? ⟨bm, om, none⟩ = some (.int .u8 y.z0) ∧ w.cell? ⟨bm, om + 1, none⟩ = some (.int .u8 y.z1) ∧ w.cell? ⟨bm, om + 2, none⟩ = some (.int .u8 y.z2) ∧ w.cell? ⟨bm, om + 3, none⟩ = some (.int .u8 y.z3) ∧ w.cell? ⟨bm, om + 4, none⟩ = some (.int .u8 y.z4) ∧ w.cell? ⟨bm, om + 5, none⟩ = some (.int .u8 y.z5) ∧ w.cell? ⟨bm, om + 6, none⟩ = some (.int .u8 y.z6) ∧ w.cell? ⟨bm, om + 7, none⟩ = some (.int .u8 y.z7)
theorem S18.of {W w : World} {ga gb bl ol bm om : Nat} {va vb : Value} {x y : B8} (h : S18 W ga gb bl ol bm om va vb x y W) (h1 : ga < W.heap.size) (h2 : gb < W.heap.size) (h3 : bl < W.heap.size) (h4 : bm < W.heap.size) (hb : BelS W w) : S18 W ga gb bl ol bm om va vb x y w := by
  obtain ⟨_, g1, g2, a0, a1, a2, a3, a4, a5, a6, a7, b0, b1, b2, b3, b4, b5, b6, b7⟩ := h
  have e := fun j => hb.out.cell (p := ⟨bl, j, none⟩) h3
  have f := fun j => hb.out.cell (p := ⟨bm, j, none⟩) h4
  exact ⟨hb, (hb.out.cell (p := ⟨ga, 0, none⟩) h1).trans g1, (hb.out.cell (p := ⟨gb, 0, none⟩) h2).trans g2, (e _).trans a0, (e _).trans a1, (e _).trans a2, (e _).trans a3, (e _).trans a4, (e _).trans a5, (e _).trans a6, (e _).trans a7, (f _).trans b0, (f _).trans b1, (f _).trans b2, (f _).trans b3, (f _).trans b4, (f _).trans b5, (f _).trans b6, (f _).trans b7⟩
theorem clash_from (W v : World) (aa ab al am : Option Addr) (ka ca cb n cl cm : Nat) (la lb : List (List Nat)) (l m : List B8) (hv : BelS W v) (hla : Lvls W aa ka la) (hlb : Lvls W ab ka lb) (hl : BL W al n l) (hm : BL W am n m) (hk2 : ka ≤ 50) (hn2 : n ≤ 50) (hn : (la.getD 0 []).length = n) (hlen : ∀ L, (la.getD L []).length = (lb.getD L []).length) (hsm : ∀ L, (la.getD L []).length ≤ 50)
    (hc : ∃ L k, L < ka ∧ Mx.clashAt la lb (unl l m) L k) :
    Calls Try.prog 30 #[.agg #[.slice aa ka ca], .agg #[.slice ab ka cb], .slice al n cl, .slice am n cm] v fun e w' => e = .returned (.bool true) ∧ BelS W w' :=
  (clash_true aa ab al am ka ca cb n cl cm la lb l m v (hla.later hv.out) (hlb.later hv.out) (hl.later hv.out) (hm.later hv.out) hk2 hn2 hn hlen hsm hc).mono fun _ _ ⟨h1, h2⟩ => ⟨h1, ⟨hv.out.trans (h2.out.mono hv.out.size)⟩⟩

namespace Mx
/-- the first places, those below a place, and the rest -/
def split (PL : List Nat) (kk i : Nat) : Prop := (∀ p ∈ PL.take kk, p < i) ∧ (∀ p ∈ PL.drop kk, i ≤ p)
theorem split_at {PL : List Nat} {kk i : Nat} (hr : PL.Pairwise (· < ·)) (h : split PL kk i) (hx : PL[kk]? = some i) : split PL (kk + 1) (i + 1) := by
  have hk : kk < PL.length := (List.getElem?_eq_some_iff.1 hx).1
  have hxe : PL[kk] = i := by rw [List.getElem?_eq_getElem hk] at hx; exact Option.some.inj hx
  refine ⟨fun p hp => ?_, fun p hp => ?_⟩
  · rw [List.take_succ_eq_append_getElem hk, List.mem_append] at hp
    rcases hp with hp | hp
    · have := h.1 p hp
      omega
    · simp at hp
      omega
  · have h1 : PL.drop kk = PL[kk] :: PL.drop (kk + 1) := List.drop_eq_getElem_cons hk
    have h2 := hr.sublist (List.drop_sublist kk PL)
    rw [h1, List.pairwise_cons] at h2
    have := h2.1 p hp
    omega
theorem split_not {PL : List Nat} {kk i : Nat} (hr : PL.Pairwise (· < ·)) (h : split PL kk i) (hx : PL[kk]? ≠ some i) : split PL kk (i + 1) ∧ ¬ i ∈ PL := by
  have key : ∀ p ∈ PL.drop kk, i + 1 ≤ p := by
    intro p hp
    have h0 := h.2 p hp
    rcases Nat.lt_or_ge i p with h1 | h1
    · exact h1
    · exfalso
      obtain rfl : p = i := by omega
      have hk : kk < PL.length := by
        rcases Nat.lt_or_ge kk PL.length with h2 | h2
        · exact h2
        · rw [List.drop_of_length_le h2] at hp
          simp at hp
      have h3 : PL.drop kk = PL[kk] :: PL.drop (kk + 1) := List.drop_eq_getElem_cons hk
      have h4 := hr.sublist (List.drop_sublist kk PL)
      rw [h3, List.pairwise_cons] at h4
      rw [h3, List.mem_cons] at hp
      rcases hp with hp | hp
      · exact hx (by rw [List.getElem?_eq_getElem hk, hp])
      · have h5 := h4.1 p hp
        have h6 := h.2 PL[kk] (by rw [h3]; exact List.mem_cons_self ..)
        omega
  refine ⟨⟨fun p hp => by have := h.1 p hp; omega, key⟩, fun hp => ?_⟩
  rw [← List.take_append_drop kk PL, List.mem_append] at hp
  rcases hp with hp | hp
  · have := h.1 i hp
    omega
  · have := key i hp
    omega
theorem split_end {PL : List Nat} {kk n : Nat} (h : split PL kk n) (hk : kk ≤ PL.length) (hl : ∀ p ∈ PL, p < n) : kk = PL.length := by
  rcases Nat.lt_or_ge kk PL.length with h1 | h1
  · exfalso
    have h3 : PL.drop kk = PL[kk] :: PL.drop (kk + 1) := List.drop_eq_getElem_cons h1
    have h2 := h.2 PL[kk] (by rw [h3]; exact List.mem_cons_self ..)
    have h4 := hl PL[kk] (List.getElem_mem _)
    omega
  · omega
end Mx

set_option maxRecDepth 100000 in
theorem tdiff_big (a : Option Addr) (n c : Nat) (nn at_ more : Int) (w : World) (h : 128 < n) :
    Calls Try.prog 6 #[.slice a n c, .int .i64 nn, .int .i64 at_, .int .i64 more] w fun e w' => e = .returned (.bool true) ∧ Below w.heap.size w w' := by
  have h1 : (128 : Int) < n := by omega
  go_enter Try.func6, Try.ntmps6
  go_wp2
  go_ret
  exact ⟨rfl, Below.refl _ _⟩

set_option maxHeartbeats 8000000 in
set_option maxRecDepth 100000 in
theorem tdiff_ok (a : Option Addr) (n c : Nat) (l : List Int) (nn at_ more : Int) (w : World) (hl : Ints w a n l) (hb : I64 l) (hn : n ≤ 128) (h1 : I64x nn) (h2 : I64x at_) (h3 : I64x more) :
    Calls Try.prog 6 #[.slice a n c, .int .i64 nn, .int .i64 at_, .int .i64 more] w fun e w' => e = .returned (.bool true) ∧ Below w.heap.size w w' := by
  have HL := hide hl
  have HB := hide hb
  have H1 := hide h1
  have H2 := hide h2
  have H3 := hide h3
  have hnb : ¬ (128 : Int) < n := by omega
  clear hl hb h1 h2 h3
  obtain ⟨N, hN1, hN2, hN⟩ : ∃ N : Nat, 1 ≤ N ∧ N ≤ 32 ∧ Hid (1 + Mx.pick nn 32 = (N : Int)) := ⟨(1 + Mx.pick nn 32).toNat, by have := Mx.pick_pos nn 32 (by omega); omega, by have := Mx.pick_pos nn 32 (by omega); omega, by unfold Hid; have := Mx.pick_pos nn 32 (by omega); omega⟩
  obtain ⟨P, hP1, hP⟩ : ∃ P : Nat, P ≤ 99 ∧ Hid (Mx.pick at_ 100 = (P : Int)) := ⟨(Mx.pick at_ 100).toNat, by have := Mx.pick_pos at_ 100 (by omega); omega, by unfold Hid; have := Mx.pick_pos at_ 100 (by omega); omega⟩
  obtain ⟨M, hM1, hM⟩ : ∃ M : Nat, M ≤ 7 ∧ Hid (Mx.pick more 8 = (M : Int)) := ⟨(Mx.pick more 8).toNat, by have := Mx.pick_pos more 8 (by omega); omega, by unfold Hid; have := Mx.pick_pos more 8 (by omega); omega⟩
  go_enter Try.func6, Try.ntmps6
  go_wp2_with fail
  refine (pickv_any nn 32 w H1.out.1 H1.out.2 (by omega) (by omega)).mono ?_
  rintro e w1 ⟨rfl, rfl⟩
  obtain ⟨Q, hQ⟩ : ∃ Q : Int, Hid (Q = Mx.pick nn 32) := ⟨_, rfl⟩
  rw [← hQ.out] at hN ⊢
  have hQN : 1 + Q = (N : Int) := hN.out
  go_wp2_with fail
  refine (pickv_any at_ 100 w1 H2.out.1 H2.out.2 (by omega) (by omega)).mono ?_
  rintro e w2 ⟨rfl, rfl⟩
  rw [hP.out]
  go_wp2_with fail
  refine (blocksFrom_any a n c l P N w2 HL.out HB.out (by omega) (by omega) (by omega)).mono ?_
  rintro e w3 ⟨v3, bs, rfl, hbs, hbo, hO3, hb3⟩
  obtain ⟨a3, c3, hv3, hB3, _⟩ := hO3.out.bl
  rw [hbs] at hv3 hB3
  subst hv3
  have BL3 := hide hB3
  have HBS := hide hbs
  have HBO := hide hbo
  clear hbs hbo hB3 hQN
  go_wp2_with fail
  refine (ownBlocks_any a3 N c3 bs w3 BL3.out (by omega)).mono ?_
  rintro e w4 ⟨v4, rfl, hO4, hb4⟩
  obtain ⟨a4, c4, hv4, _, _⟩ := hO4.bl
  rw [HBS.out] at hv4
  subst hv4
  obtain ⟨g, rfl, hg1, hg2, _, _⟩ := OwnBL.form hO4 (by omega)
  have O4 := hide hO4
  have B34 := hide hb4
  have B4 := hide (hb3.out.trans (hb4.mono hb3.out.size))
  clear hO4 hb4
  go_wp2_with fail
  go_loopw [11] (fun t wr => ∃ (k : Nat) (ms : List B8), t = .int .i64 (k : Int) ∧ k ≤ 8 ∧ Hid (ms.length = N) ∧ Hid (∀ x ∈ ms, x.ok) ∧ Hid (OwnBL wr w3.heap.size (.slice (some ⟨g, 0, none⟩) N c4) ms) ∧ Hid (Below w3.heap.size w3 wr)) (fun t _ => 8 - (intOf t).toNat)
  case atStart => exact ⟨0, bs, rfl, by omega, HBS, HBO, O4, B34⟩
  case round =>
    obtain ⟨k, ms, rfl, hk, hms, hmo, hO, hB⟩ := hrel
    go_wp2_with fail
    refine (pickv_any more 8 wr H3.out.1 H3.out.2 (by omega) (by omega)).mono ?_
    rintro e w5 ⟨rfl, rfl⟩
    rw [hM.out]
    have BW := hide (hb3.out.trans (hB.out.mono hb3.out.size))
    by_cases hlt : (k : Int) < M
    · go_wp2_with fail
      refine (raw_any a n c l (k + 3) w5 (HL.out.later BW.out) HB.out (by omega) (by omega)).mono ?_
      rintro e w6 ⟨r, hr, rfl, q, rfl⟩
      go_wp2_with fail
      refine (pickv_any (r : Int) (N : Int) _ (by omega) (by omega) (by omega) (by omega)).mono ?_
      rintro e w7 ⟨rfl, rfl⟩
      obtain ⟨J, hJ1, hJ⟩ : ∃ J : Nat, J < N ∧ Hid (Mx.pick (r : Int) (N : Int) = (J : Int)) := ⟨(Mx.pick (r : Int) (N : Int)).toNat, by have := Mx.pick_pos (r : Int) (N : Int) (by omega); omega, by unfold Hid; have := Mx.pick_pos (r : Int) (N : Int) (by omega); omega⟩
      rw [hJ.out]
      go_wp2_with fail
      refine (blockFrom_any a n c l (k + 5) _ (HL.out.later (below_drewN BW.out q)) HB.out (by omega) (by omega)).mono ?_
      rintro e w8 ⟨x, hx, rfl, hb8⟩
      have HX := hide hx
      have B8 := hide (show Below w3.heap.size w3 w8 from (below_drewN hB.out q).trans (hb8.out.mono (below_drewN hB.out q).size))
      have O8 := hide (show OwnBL w8 w3.heap.size (.slice (some ⟨g, 0, none⟩) N c4) ms from rowKept (rowKept hO.out (below_drewN (Below.refl _ _) q)) hb8.out)
      clear hx hb8
      obtain ⟨y, _, e0, e1, e2, e3, e4, e5, e6, e7⟩ := O8.out.at_ J (by omega)
      have hfz : ∀ o, w8.frozen? ⟨g, o, none⟩ = false := by
        obtain ⟨g', hg', _, _, _, hz⟩ := OwnBL.form O8.out (by omega)
        cases hg'
        exact hz
      have hJi : (J : Int) < N := by omega
      have O9 := hide (OwnBL.put O8.out J (by have := hms.out; omega) x)
      have B9 := hide (set8_below B8.out hg1 (J * 8) x)
      have HM9 := hide (show (ms.set J x).length = N by rw [List.length_set]; exact hms.out)
      have HO9 := hide (show ∀ z ∈ ms.set J x, z.ok from fun z hz => (List.mem_or_eq_of_mem_set hz).elim (hmo.out z) (fun h => by rw [h]; exact HX.out))
      go_wp2_with fail
      exact ⟨⟨k + 1, ms.set J x, by go_num, by omega, HM9, HO9, O9, B9⟩, by simp [intOf]; omega⟩
    · have BLl := hide (BL3.out.later hB.out)
      have BLm := hide (show BL w5 (some ⟨g, 0, none⟩) N ms from hO.out.asBL)
      go_wp2_with fail
      refine (of_any a3 N c3 bs w5 BLl.out HBO.out hN1 hN2).mono ?_
      rintro e w6 ⟨a6, k6, c6, rfl, hL6, hb6⟩
      obtain ⟨w7, hw7⟩ : ∃ w7 : World, Hid (w7 = w6.alloc (.cells #[.slice a6 k6 c6] 60)) := ⟨_, rfl⟩
      have B67 := hide (show Below w6.heap.size w6 w7 by rw [hw7.out]; exact below_alloc _ _)
      have X7 := hide (show Bx w7 w6.heap.size #[.slice a6 k6 c6] 60 by rw [hw7.out]; exact Bx.new _ _ _)
      have L7 := hide (hL6.out.1.later B67.out)
      have B57 := hide (hb6.out.trans (B67.out.mono hb6.out.size))
      have BLm7 := hide (BLm.out.later B57.out)
      have BLl7 := hide (BLl.out.later B57.out)
      clear hL6 hb6
      go_upto_region 11 with fail
      rw [← hw7.out]
      go_wp2_with fail
      refine (of_any (some ⟨g, 0, none⟩) N c4 ms w7 BLm7.out hmo.out hN1 hN2).mono ?_
      rintro e w8 ⟨a8, k8, c8, rfl, hL8, hb8⟩
      obtain ⟨LA, hLA⟩ : ∃ LA : List (List Nat), Hid (LA = Mx.levels (bs.map Mx.blockD)) := ⟨_, rfl⟩
      obtain ⟨LB, hLB⟩ : ∃ LB : List (List Nat), Hid (LB = Mx.levels (ms.map Mx.blockD)) := ⟨_, rfl⟩
      have HKK := hide (show k8 = k6 by
        rw [← hL8.out.1.1, ← L7.out.1]
        exact Mx.levels_len _ _ (by rw [List.length_map, List.length_map, hms.out, HBS.out]))
      have hk8 := HKK.out
      subst hk8
      obtain ⟨w9, hw9⟩ : ∃ w9 : World, Hid (w9 = w8.alloc (.cells #[.slice a8 k8 c8] 60)) := ⟨_, rfl⟩
      have B89 := hide (show Below w8.heap.size w8 w9 by rw [hw9.out]; exact below_alloc _ _)
      have Y9 := hide (show Bx w9 w8.heap.size #[.slice a8 k8 c8] 60 by rw [hw9.out]; exact Bx.new _ _ _)
      have B79 := hide (hb8.out.trans (B89.out.mono hb8.out.size))
      have X9 := hide (X7.out.later B79.out X7.out.lt)
      have LA9 := hide (show Lvls w9 a6 k8 LA by rw [hLA.out]; exact L7.out.later B79.out)
      have LB9 := hide (show Lvls w9 a8 k8 LB by rw [hLB.out]; exact hL8.out.1.later B89.out)
      have BLm9 := hide (BLm7.out.later B79.out)
      have BLl9 := hide (BLl7.out.later B79.out)
      have B59 := hide (B57.out.trans (B79.out.mono B57.out.size))
      have BW9 := hide (BW.out.trans (B59.out.mono BW.out.size))
      have HAL := hide (show (bs.map Mx.blockD).length = N by rw [List.length_map, HBS.out])
      have HBL := hide (show (ms.map Mx.blockD).length = N by rw [List.length_map, hms.out])
      have HA0 := hide (show LA.getD 0 [] = bs.map Mx.blockD by rw [hLA.out, List.getD_eq_getElem?_getD, (Mx.levels_head _).1]; rfl)
      have HB0 := hide (show LB.getD 0 [] = ms.map Mx.blockD by rw [hLB.out, List.getD_eq_getElem?_getD, (Mx.levels_head _).1]; rfl)
      have HBO2 := hide (show Mx.both LA LB = 0 from Mx.both_d (by rw [hLA.out]; exact Mx.tmay_levels _ (by rw [HAL.out]; exact hN1) (by rw [HAL.out]; exact hN2)) (by rw [hLB.out]; exact Mx.tmay_levels _ (by rw [HBL.out]; exact hN1) (by rw [HBL.out]; exact hN2)) (by rw [HA0.out, HB0.out, HAL.out, HBL.out]))
      have HLEN := hide (show ∀ L, (LA.getD L []).length = (LB.getD L []).length by intro L; rw [hLA.out, hLB.out]; exact Mx.levels_lens _ _ (by rw [HAL.out, HBL.out]) L)
      have HSM := hide (show ∀ L, (LA.getD L []).length ≤ 50 by intro L; rw [hLA.out]; have := Mx.levels_small (bs.map Mx.blockD) L; have := HAL.out; omega)
      have HK4 := hide (show 1 ≤ k8 ∧ k8 ≤ 4 by
        have h1 := LA9.out.1
        have h2 := Mx.levels_four (bs.map Mx.blockD) (by rw [HAL.out]; exact hN2)
        have h3 := (Mx.levels_head (bs.map Mx.blockD)).2
        rw [hLA.out] at h1
        omega)
      obtain ⟨L, hL⟩ : ∃ L : Nat, Hid (k8 = L + 1) := ⟨k8 - 1, by unfold Hid; have := HK4.out; omega⟩
      have H0 := hide (show 0 < (LA.getD L []).length by
        rw [hLA.out]
        exact Mx.growF_pos _ _ L (by rw [HAL.out]; exact hN1) (by have h1 := LA9.out.1; rw [hLA.out] at h1; have h2 : (Mx.growF (bs.map Mx.blockD).length (bs.map Mx.blockD)).length = k8 := h1; have := hL.out; omega))
      have hk80 : ((k8 : Int) == 0) = false := by have := HK4.out; simp; omega
      have hk4 : (k8 : Int) ≤ 4 := by have := HK4.out; omega
      clear hL8 hb8
      go_upto_region 12 with fail
      rw [← hw9.out]
      have x9 := X9.out.one
      have y9 := Y9.out.one
      go_wp2_with fail
      refine (diff_ok a6 a8 k8 c6 k8 c8 LA LB w9 LA9.out LB9.out HBO2.out rfl (by omega) HLEN.out (fun L => by have := HSM.out L; omega) L hL.out H0.out (by have := Mx.dasked_few LA LB L 0 (by have := hL.out; have := HK4.out; omega); omega) (by have := Mx.dplaces_few LA LB L 0 (by have := hL.out; have := HK4.out; omega); omega)).mono ?_
      rintro e w10 ⟨vP, rfl, hO10, hb10⟩
      obtain ⟨A, hA⟩ : ∃ A : Nat, Hid (A = Mx.dasked LA LB L 0) := ⟨_, rfl⟩
      obtain ⟨PL, hPL⟩ : ∃ PL : List Nat, Hid (PL = Mx.dplaces LA LB L 0) := ⟨_, rfl⟩
      rw [← hA.out]
      rw [← hPL.out] at hO10
      obtain ⟨aP, cP, hvP, hIP⟩ := hO10.out.ints
      obtain ⟨NP, hNP⟩ : ∃ NP : Nat, Hid (NP = (PL.map fun x : Nat => (x : Int)).length) := ⟨_, rfl⟩
      rw [← hNP.out] at hvP hIP
      subst hvP
      have NI10 := hide (show NI w10 aP NP PL from hIP)
      have HNPL := hide (show NP = PL.length by rw [hNP.out, List.length_map])
      have X10 := hide (X9.out.later hb10.out X9.out.lt)
      have Y10 := hide (Y9.out.later hb10.out Y9.out.lt)
      have LA10 := hide (LA9.out.later hb10.out)
      have LB10 := hide (LB9.out.later hb10.out)
      have BLl10 := hide (BLl9.out.later hb10.out)
      have BLm10 := hide (BLm9.out.later hb10.out)
      have BW10 := hide (BW9.out.trans (hb10.out.mono BW9.out.size))
      have HRI := hide (show PL.Pairwise (· < ·) by rw [hPL.out]; exact Mx.dplaces_rise LA LB L 0)
      have HIN2 := hide (show ∀ p ∈ PL, p < N by
        intro p hp
        rw [hPL.out] at hp
        have h1 := Mx.dplaces_in LA LB L 0 (fun h => by have h2 := H0.out; rw [h] at h2; exact h2) p hp
        rw [HA0.out, HAL.out] at h1
        exact h1)
      have HUN2 := hide (show ∀ p ∈ PL, ¬ Mx.nd LA 0 p = Mx.nd LB 0 p by rw [hPL.out]; exact Mx.dplaces_unl LA LB L 0)
      have hNPb : (NP : Int) ≤ 64 := by have h1 := Mx.dplaces_few LA LB L 0 (by have := hL.out; have := HK4.out; omega); rw [← hPL.out, ← HNPL.out] at h1; omega
      have hA1 : (1 : Int) ≤ A := by have := Mx.dasked_pos LA LB L 0; rw [← hA.out] at this; omega
      have hAm : (A : Int) ≤ 1000 := by have := Mx.dasked_few LA LB L 0 (by have := hL.out; have := HK4.out; omega); rw [← hA.out] at this; omega
      obtain ⟨M4, hM4⟩ : ∃ M4 : Nat, Hid (M4 = NP * 4) := ⟨_, rfl⟩
      have hM4e : (NP : Int) * 4 = (M4 : Int) := by have := hM4.out; omega
      obtain ⟨M5, hM5⟩ : ∃ M5 : Nat, Hid (M5 = M4 * k8) := ⟨_, rfl⟩
      have hM5e : (M4 : Int) * (k8 : Int) = (M5 : Int) := by rw [hM5.out]; exact (Int.natCast_mul M4 k8).symm
      have hM5b : (M5 : Int) ≤ 1024 := by
        have h1 := hM5.out
        have h2 : M4 * k8 ≤ 256 * 4 := Nat.mul_le_mul (by omega) (by omega)
        omega
      have HAB := hide (show A ≤ M5 + 1 by
        have h1 := Mx.dasked_bound (la := LA) (lb := LB) (M := L) (by
          rw [hLA.out, hLB.out]
          refine Mx.levels_over _ _ (fun l => by have := HLEN.out l; rw [hLA.out, hLB.out] at this; exact this) (by have h1 := LA10.out.1; have h2 := LB10.out.1; rw [hLA.out] at h1; rw [hLB.out] at h2; omega) L (by have h1 := LA10.out.1; rw [hLA.out] at h1; have := hL.out; omega)) L 0 (Nat.le_refl _) H0.out
        rw [← hA.out, ← hPL.out, ← HNPL.out] at h1
        have h2 : 4 * L * NP ≤ M5 := by
          rw [hM5.out, hM4.out, hL.out]
          have h3 : 4 * L * NP = NP * 4 * L := by rw [Nat.mul_comm (4 * L) NP, ← Nat.mul_assoc]
          rw [h3]
          exact Nat.mul_le_mul_left _ (by omega)
        omega)
      have hAB : (A : Int) ≤ (M5 : Int) + 1 := by have := HAB.out; omega
      have hd1 : decide ((A : Int) < 1) = false := by simp; omega
      have hd2 : decide ((M5 : Int) + 1 < (A : Int)) = false := by simp; omega
      clear hO10 hb10 hIP x9 y9
      have x10 := X10.out.one
      go_wp2_with fail
      clear x10
      go_loopw [19, 20] (fun t1 t2 wr => ∃ kk i : Nat, t1 = .int .i64 (kk : Int) ∧ t2 = .int .i64 (i : Int) ∧ i ≤ N ∧ kk ≤ NP ∧ Hid (Mx.split PL kk i) ∧ BelS w10 wr) (fun _ t2 _ => N - (intOf t2).toNat)
      case atStart => exact ⟨0, 0, rfl, rfl, Nat.zero_le _, Nat.zero_le _, ⟨fun p hp => by simp at hp, fun p _ => Nat.zero_le _⟩, ⟨Below.refl _ _⟩⟩
      case round =>
        obtain ⟨kk, i, rfl, rfl, hi, hkk, hS, hW⟩ := hrel
        by_cases hit : (i : Int) < N
        · obtain ⟨bl, ol, x, hal, hblw, hx, e0, e1, e2, e3, e4, e5, e6, e7⟩ := BLl10.out.at_ i (by omega)
          obtain ⟨bm, om, y, ham, hgw, hy, d0, d1, d2, d3, d4, d5, d6, d7⟩ := BLm10.out.at_ i (by omega)
          subst hal
          cases ham
          simp only [Nat.zero_add] at d0 d1 d2 d3 d4 d5 d6 d7
          have HXE := hide (show bs.getD i zB = x by rw [List.getD_eq_getElem?_getD, hx]; rfl)
          have HYE := hide (show ms.getD i zB = y by rw [List.getD_eq_getElem?_getD, hy]; rfl)
          have HXN := hide (show Mx.nd LA 0 i = Mx.blockD x by rw [Mx.nd, HA0.out, List.getD_eq_getElem?_getD, List.getElem?_map, hx, Option.map_some, Option.getD_some])
          have HYN := hide (show Mx.nd LB 0 i = Mx.blockD y by rw [Mx.nd, HB0.out, List.getD_eq_getElem?_getD, List.getElem?_map, hy, Option.map_some, Option.getD_some])
          have SW := hide (show S18 w10 w6.heap.size w8.heap.size bl (ol + i * 8) g (i * 8) (.slice a6 k8 c6) (.slice a8 k8 c8) x y w10 from ⟨⟨Below.refl _ _⟩, X10.out.one, Y10.out.one, e0, e1, e2, e3, e4, e5, e6, e7, d0, d1, d2, d3, d4, d5, d6, d7⟩)
          obtain ⟨_, _, _, p0, p1, p2, p3, p4, p5, p6, p7, q0, q1, q2, q3, q4, q5, q6, q7⟩ := S18.of SW.out X10.out.lt Y10.out.lt hblw hgw hW
          clear hx hy e0 e1 e2 e3 e4 e5 e6 e7 d0 d1 d2 d3 d4 d5 d6 d7
          by_cases hkN : (kk : Int) < NP
          · have hdk : decide ((kk : Int) < NP) = true := by simpa using hkN
            obtain ⟨bp, op, p, hap, _, hpx, cp⟩ := (NI10.out.later hW.out).at_ kk (by omega)
            subst hap
            by_cases hpi : p = i
            · subst hpi
              have HPX := hide hpx
              have heq := equal_block x.z0 x.z1 x.z2 x.z3 x.z4 x.z5 x.z6 x.z7 y.z0 y.z1 y.z2 y.z3 y.z4 y.z5 y.z6 y.z7
              have hcc : ¬ [x.z0, x.z1, x.z2, x.z3, x.z4, x.z5, x.z6, x.z7] = [y.z0, y.z1, y.z2, y.z3, y.z4, y.z5, y.z6, y.z7] := by
                intro e
                have h1 := HUN2.out p (List.mem_of_getElem? hpx)
                rw [HXN.out, HYN.out, (B8.eq_list x y).1 e] at h1
                exact h1 rfl
              rw [decide_eq_false hcc] at heq
              have HSN := hide (Mx.split_at HRI.out hS.out HPX.out)
              clear hcc hpx
              go_wp2_with fail
              go_quiet (fail)
              go_wp2_with fail
              go_roundw
              case rel => exact ⟨kk + 1, p + 1, by go_num, by go_num, by omega, by omega, HSN, ⟨below_drewN hW.out _⟩⟩
              case measure => simp [intOf]; omega
            · have hne : ((p : Int) == (i : Int)) = false := by simp; omega
              have HNE := hide (show PL[kk]? ≠ some i by rw [hpx]; intro e; exact hpi (Option.some.inj e))
              clear hpi hpx
              have heq := equal_block x.z0 x.z1 x.z2 x.z3 x.z4 x.z5 x.z6 x.z7 y.z0 y.z1 y.z2 y.z3 y.z4 y.z5 y.z6 y.z7
              obtain ⟨HSN, HIN⟩ := Mx.split_not HRI.out hS.out HNE.out
              have HSN := hide HSN
              have HIN := hide HIN
              by_cases hcc : [x.z0, x.z1, x.z2, x.z3, x.z4, x.z5, x.z6, x.z7] = [y.z0, y.z1, y.z2, y.z3, y.z4, y.z5, y.z6, y.z7]
              · rw [decide_eq_true hcc] at heq
                clear hcc
                go_wp2_with fail
                go_quiet (fail)
                go_wp2_with fail
                go_roundw
                case rel => exact ⟨kk, i + 1, rfl, by go_num, by omega, hkk, HSN, ⟨below_drewN hW.out _⟩⟩
                case measure => simp [intOf]; omega
              · have HUN := hide (show unl bs ms i by unfold unl; rw [HXE.out, HYE.out]; exact fun e => hcc ((B8.eq_list x y).2 e))
                rw [decide_eq_false hcc] at heq
                clear hcc
                obtain ⟨L', k', hL', hcl⟩ := Mx.clash_else (bs.map Mx.blockD) (ms.map Mx.blockD) (unl bs ms) L i (by rw [HAL.out]; omega) (by have h1 := LA10.out.1; rw [hLA.out] at h1; rw [h1]; exact hL.out.symm) HUN.out (by rw [← hLA.out, ← hLB.out, ← hPL.out]; exact HIN.out)
                have HCL := hide (show ∃ L' k', L' < k8 ∧ Mx.clashAt LA LB (unl bs ms) L' k' by rw [hLA.out, hLB.out]; exact ⟨L', k', by have := hL.out; omega, hcl⟩)
                clear hcl
                have BD : BelS w10 wr.drew := ⟨hW.out.drew⟩
                clear p0 p1 p2 p3 p4 p5 p6 p7 q0 q1 q2 q3 q4 q5 q6 q7
                go_wp2_with fail
                go_region_held3 (fun w' => BelS w10 w' ∧ w'.cell? ⟨w6.heap.size, 0, none⟩ = some (.slice a6 k8 c6) ∧ w'.cell? ⟨w8.heap.size, 0, none⟩ = some (.slice a8 k8 c8) ∧ w'.cell? ⟨bl, ol + i * 8, none⟩ = some (.int .u8 x.z0) ∧ w'.cell? ⟨bl, ol + i * 8 + 1, none⟩ = some (.int .u8 x.z1) ∧ w'.cell? ⟨bl, ol + i * 8 + 2, none⟩ = some (.int .u8 x.z2) ∧ w'.cell? ⟨bl, ol + i * 8 + 3, none⟩ = some (.int .u8 x.z3) ∧ w'.cell? ⟨bl, ol + i * 8 + 4, none⟩ = some (.int .u8 x.z4) ∧ w'.cell? ⟨bl, ol + i * 8 + 5, none⟩ = some (.int .u8 x.z5) ∧ w'.cell? ⟨bl, ol + i * 8 + 6, none⟩ = some (.int .u8 x.z6) ∧ w'.cell? ⟨bl, ol + i * 8 + 7, none⟩ = some (.int .u8 x.z7) ∧ w'.cell? ⟨g, i * 8, none⟩ = some (.int .u8 y.z0) ∧ w'.cell? ⟨g, i * 8 + 1, none⟩ = some (.int .u8 y.z1) ∧ w'.cell? ⟨g, i * 8 + 2, none⟩ = some (.int .u8 y.z2) ∧ w'.cell? ⟨g, i * 8 + 3, none⟩ = some (.int .u8 y.z3) ∧ w'.cell? ⟨g, i * 8 + 4, none⟩ = some (.int .u8 y.z4) ∧ w'.cell? ⟨g, i * 8 + 5, none⟩ = some (.int .u8 y.z5) ∧ w'.cell? ⟨g, i * 8 + 6, none⟩ = some (.int .u8 y.z6) ∧ w'.cell? ⟨g, i * 8 + 7, none⟩ = some (.int .u8 y.z7))
                  (exact S18.of SW.out X10.out.lt Y10.out.lt hblw hgw (by assumption))
                  (first
                  | (go_at_call 30; refine (clash_from w10 _ a6 a8 (some ⟨bl, ol, none⟩) (some ⟨g, 0, none⟩) k8 c6 c8 N c3 c4 LA LB bs ms (by assumption) LA10.out LB10.out BLl10.out BLm10.out (by omega) (by omega) (by rw [HA0.out, HAL.out]) HLEN.out HSM.out HCL.out).mono ?_; rintro e wc ⟨rfl, BC⟩))
                all_goals
                  go_wp2_with fail
                  go_roundw
                  case rel => exact ⟨kk, i + 1, rfl, by go_num, by omega, hkk, HSN, BC⟩
                  case measure => simp [intOf]; omega
          · have hdk : decide ((kk : Int) < NP) = false := by simpa using hkN
            have HNE := hide (show PL[kk]? ≠ some i by rw [List.getElem?_eq_none (by have := HNPL.out; omega)]; intro e; cases e)
            have heq := equal_block x.z0 x.z1 x.z2 x.z3 x.z4 x.z5 x.z6 x.z7 y.z0 y.z1 y.z2 y.z3 y.z4 y.z5 y.z6 y.z7
            obtain ⟨HSN, HIN⟩ := Mx.split_not HRI.out hS.out HNE.out
            have HSN := hide HSN
            have HIN := hide HIN
            by_cases hcc : [x.z0, x.z1, x.z2, x.z3, x.z4, x.z5, x.z6, x.z7] = [y.z0, y.z1, y.z2, y.z3, y.z4, y.z5, y.z6, y.z7]
            · rw [decide_eq_true hcc] at heq
              clear hcc
              go_wp2_with fail
              go_quiet (fail)
              go_wp2_with fail
              go_roundw
              case rel => exact ⟨kk, i + 1, rfl, by go_num, by omega, hkk, HSN, ⟨below_drewN hW.out _⟩⟩
              case measure => simp [intOf]; omega
            · have HUN := hide (show unl bs ms i by unfold unl; rw [HXE.out, HYE.out]; exact fun e => hcc ((B8.eq_list x y).2 e))
              rw [decide_eq_false hcc] at heq
              clear hcc
              obtain ⟨L', k', hL', hcl⟩ := Mx.clash_else (bs.map Mx.blockD) (ms.map Mx.blockD) (unl bs ms) L i (by rw [HAL.out]; omega) (by have h1 := LA10.out.1; rw [hLA.out] at h1; rw [h1]; exact hL.out.symm) HUN.out (by rw [← hLA.out, ← hLB.out, ← hPL.out]; exact HIN.out)
              have HCL := hide (show ∃ L' k', L' < k8 ∧ Mx.clashAt LA LB (unl bs ms) L' k' by rw [hLA.out, hLB.out]; exact ⟨L', k', by have := hL.out; omega, hcl⟩)
              clear hcl
              have BD : BelS w10 wr.drew := ⟨hW.out.drew⟩
              clear p0 p1 p2 p3 p4 p5 p6 p7 q0 q1 q2 q3 q4 q5 q6 q7
              go_wp2_with fail
              go_region_held3 (fun w' => BelS w10 w' ∧ w'.cell? ⟨w6.heap.size, 0, none⟩ = some (.slice a6 k8 c6) ∧ w'.cell? ⟨w8.heap.size, 0, none⟩ = some (.slice a8 k8 c8) ∧ w'.cell? ⟨bl, ol + i * 8, none⟩ = some (.int .u8 x.z0) ∧ w'.cell? ⟨bl, ol + i * 8 + 1, none⟩ = some (.int .u8 x.z1) ∧ w'.cell? ⟨bl, ol + i * 8 + 2, none⟩ = some (.int .u8 x.z2) ∧ w'.cell? ⟨bl, ol + i * 8 + 3, none⟩ = some (.int .u8 x.z3) ∧ w'.cell? ⟨bl, ol + i * 8 + 4, none⟩ = some (.int .u8 x.z4) ∧ w'.cell? ⟨bl, ol + i * 8 + 5, none⟩ = some (.int .u8 x.z5) ∧ w'.cell? ⟨bl, ol + i * 8 + 6, none⟩ = some (.int .u8 x.z6) ∧ w'.cell? ⟨bl, ol + i * 8 + 7, none⟩ = some (.int .u8 x.z7) ∧ w'.cell? ⟨g, i * 8, none⟩ = some (.int .u8 y.z0) ∧ w'.cell? ⟨g, i * 8 + 1, none⟩ = some (.int .u8 y.z1) ∧ w'.cell? ⟨g, i * 8 + 2, none⟩ = some (.int .u8 y.z2) ∧ w'.cell? ⟨g, i * 8 + 3, none⟩ = some (.int .u8 y.z3) ∧ w'.cell? ⟨g, i * 8 + 4, none⟩ = some (.int .u8 y.z4) ∧ w'.cell? ⟨g, i * 8 + 5, none⟩ = some (.int .u8 y.z5) ∧ w'.cell? ⟨g, i * 8 + 6, none⟩ = some (.int .u8 y.z6) ∧ w'.cell? ⟨g, i * 8 + 7, none⟩ = some (.int .u8 y.z7))
                (exact S18.of SW.out X10.out.lt Y10.out.lt hblw hgw (by assumption))
                (first
                | (go_at_call 30; refine (clash_from w10 _ a6 a8 (some ⟨bl, ol, none⟩) (some ⟨g, 0, none⟩) k8 c6 c8 N c3 c4 LA LB bs ms (by assumption) LA10.out LB10.out BLl10.out BLm10.out (by omega) (by omega) (by rw [HA0.out, HAL.out]) HLEN.out HSM.out HCL.out).mono ?_; rintro e wc ⟨rfl, BC⟩))
              all_goals
                go_wp2_with fail
                go_roundw
                case rel => exact ⟨kk, i + 1, rfl, by go_num, by omega, hkk, HSN, BC⟩
                case measure => simp [intOf]; omega
        · have HEN := hide (Mx.split_end (n := N) (by have h1 := hS.out; rw [show i = N by omega] at h1; exact h1) (by have := HNPL.out; omega) HIN2.out)
          have hkN : ((kk : Int) == (NP : Int)) = true := by have h1 := HEN.out; have h2 := HNPL.out; simp; omega
          have HF := hide (BW10.out.trans (hW.out.mono BW10.out.size))
          go_wp2_with fail
          go_ret
          exact ⟨rfl, HF.out⟩

theorem tdiff_any (a : Option Addr) (n c : Nat) (l : List Int) (nn at_ more : Int) (w : World) (hl : Ints w a n l) (hb : I64 l) (h1 : I64x nn) (h2 : I64x at_) (h3 : I64x more) :
    Calls Try.prog 6 #[.slice a n c, .int .i64 nn, .int .i64 at_, .int .i64 more] w fun e w' => e = .returned (.bool true) ∧ Below w.heap.size w w' := by
  by_cases h : 128 < n
  · exact tdiff_big a n c nn at_ more w h
  · exact tdiff_ok a n c l nn at_ more w hl hb (by omega) h1 h2 h3

end Go.Proofs.Ytdhmijjphgcdmac
