/-
  A block put into a tree, as the program does it (Put): where there is such a place.
-/
import Derived.Test.YtdhmijjphgcdmaaTpe
namespace Go.Proofs.Ytdhmijjphgcdmaa
open Go.RowKit

set_option maxHeartbeats 4000000 in
set_option maxRecDepth 100000 in
theorem tput_ok (a : Option Addr) (k c : Nat) (l : List Nat) (j : Nat) (x : B8) (w : World) (h : Lvls w a k (Mx.levels l)) (hk : 1 ≤ k) (h1 : 1 ≤ l.length) (h2 : l.length ≤ 32) (hz : (Mx.levels l)[0]? = some l) (hm : Mx.tmay (Mx.levels l) = 0) (hx : x.ok) (hj : j < l.length) :
    Calls Try.prog 50 #[.agg #[.slice a k c], .int .i64 (j : Int), .agg #[.int .u8 x.z0, .int .u8 x.z1, .int .u8 x.z2, .int .u8 x.z3, .int .u8 x.z4, .int .u8 x.z5, .int .u8 x.z6, .int .u8 x.z7]] w fun e w' =>
      ∃ a' k' cap', e = .returned (.tuple #[.agg #[.slice a' k' cap'], .nilIface]) ∧ Hid (Lvls w' a' k' (Mx.levels (l.set j (Mx.blockD x))) ∧ k' ≤ cap') ∧ Hid (Below w.heap.size w w') := by
  have HL := hide h
  have HM := hide hm
  have HXO := hide hx
  have hkl : k ≤ maxLen := h.2.1
  unfold maxLen at hkl
  obtain ⟨b, off, l0, ai, ni, ci, hab, hbw, hl0, hcell, hu, hnc⟩ := h.at_ 0 (by omega)
  rw [hz] at hl0
  obtain rfl : l = l0 := Option.some.inj hl0
  subst hab
  rw [Nat.add_zero] at hcell
  have hni : ni = l.length := hu.1.symm
  subst hni
  obtain ⟨bi, offi, hai, hbi, _⟩ := hu.2.2.2 h1
  subst hai
  have HU := hide hu
  obtain ⟨N, hN⟩ : ∃ N : Nat, Hid (N = l.length) := ⟨_, rfl⟩
  rw [← hN.out] at hcell HU h1 h2 hj
  clear h hz hl0 hu hnc hm hx
  have hkp : (0 : Int) < k := by omega
  have hkr : 0 < k := by omega
  have hd0 : decide ((j : Int) < 0) = false := by simp
  have hjN : (j : Int) < N := by omega
  have hdN : decide ((N : Int) ≤ j) = false := by simp; omega
  obtain ⟨w0, hw0⟩ : ∃ w0 : World, Hid (w0 = ((w.alloc (.cells #[.slice (some ⟨b, off, none⟩) k c] 82)).alloc (.cells #[.int .u8 x.z0, .int .u8 x.z1, .int .u8 x.z2, .int .u8 x.z3, .int .u8 x.z4, .int .u8 x.z5, .int .u8 x.z6, .int .u8 x.z7] 52)).alloc (.cells #[.slice none 0 0] 82)) := ⟨_, rfl⟩
  have B0 := hide (show Below w.heap.size w w0 by rw [hw0.out]; exact ((below_alloc _ _).alloc (by simp) _).alloc (by simp; omega) _)
  have T0 := hide (show Bx w0 w.heap.size #[.slice (some ⟨b, off, none⟩) k c] 82 by rw [hw0.out]; exact ((Bx.new w _ _).alloc _).alloc _)
  have X0 := hide (show Bx w0 (w.heap.size + 1) #[.int .u8 x.z0, .int .u8 x.z1, .int .u8 x.z2, .int .u8 x.z3, .int .u8 x.z4, .int .u8 x.z5, .int .u8 x.z6, .int .u8 x.z7] 52 by
    rw [hw0.out]
    have h := (Bx.new (w.alloc (.cells #[.slice (some ⟨b, off, none⟩) k c] 82)) #[.int .u8 x.z0, .int .u8 x.z1, .int .u8 x.z2, .int .u8 x.z3, .int .u8 x.z4, .int .u8 x.z5, .int .u8 x.z6, .int .u8 x.z7] 52).alloc (.cells #[.slice none 0 0] 82)
    rw [World.size_alloc] at h
    exact h)
  have R0 := hide (show Bx w0 (w.heap.size + 2) #[.slice none 0 0] 82 by
    rw [hw0.out]
    have h := Bx.new ((w.alloc (.cells #[.slice (some ⟨b, off, none⟩) k c] 82)).alloc (.cells #[.int .u8 x.z0, .int .u8 x.z1, .int .u8 x.z2, .int .u8 x.z3, .int .u8 x.z4, .int .u8 x.z5, .int .u8 x.z6, .int .u8 x.z7] 52)) #[.slice none 0 0] 82
    rw [World.size_alloc, World.size_alloc] at h
    exact h)
  go_enter Try.func50, Try.ntmps50
  go_wp2_with fail
  rw [← hw0.out]
  refine (tcheck_any (some ⟨b, off, none⟩) k c (Mx.levels l) w0 (HL.out.later B0.out)).mono ?_
  rintro e w1 ⟨rfl, hb1⟩
  rw [HM.out, errV_zero]
  have T1 := hide (T0.out.later hb1 T0.out.lt)
  have X1 := hide (X0.out.later hb1 X0.out.lt)
  have R1 := hide (R0.out.later hb1 R0.out.lt)
  have B1 := hide (B0.out.trans (hb1.mono B0.out.size))
  clear hb1
  have t1 := T1.out.one
  have hc1 : w1.cell? ⟨b, off, none⟩ = some (.slice (some ⟨bi, offi, none⟩) N ci) := (B1.out.cell (p := ⟨b, off, none⟩) hbw).trans hcell
  clear hcell
  go_wp2_with fail
  refine (cloneU_any bi offi N ci l w1 (HU.out.later B1.out) h1 (by omega)).mono ?_
  rintro e w2 ⟨v2, rfl, hO2, hb2⟩
  obtain ⟨a2, c2, hv2⟩ := hO2.out.form
  rw [← hN.out] at hv2
  subst hv2
  have HRD := hide (hO2.out.read HU.out.2.2.1)
  obtain ⟨g, go, hag, _, _⟩ := HRD.out.1.2.2.2 h1
  obtain rfl : go = 0 := by
    rcases hO2.out.2 with ⟨hv, _⟩ | ⟨g', cap', cur, hv, _⟩
    · simp only [Value.slice.injEq] at hv
      omega
    · simp only [Value.slice.injEq] at hv
      rw [hv.1] at hag
      simp only [Option.some.injEq, Addr.mk.injEq, and_true] at hag
      exact hag.2.symm
  subst hag
  have hgl := World.ownsRow.lt hO2.out g rfl
  have X2 := hide (X1.out.later hb2.out X1.out.lt)
  have R2 := hide (R1.out.later hb2.out R1.out.lt)
  have B2 := hide (B1.out.trans (hb2.out.mono B1.out.size))
  have hR1 := R1.out.lt
  clear t1 hc1
  obtain ⟨f0, f1, f2, f3, f4, f5, f6, f7⟩ := X2.out.eight
  go_wp2_with fail
  refine (ofBlock_any x HXO.out w2).mono ?_
  rintro e w3 ⟨rfl, hb3⟩
  have R3 := hide (R2.out.later hb3 R2.out.lt)
  have B3 := hide (B2.out.trans (hb3.mono B2.out.size))
  have U3 := hide (show OwnU w3 w1.heap.size (.slice (some ⟨g, 0, none⟩) N c2) l from rowKept hO2.out hb3)
  clear hb3 f0 f1 f2 f3 f4 f5 f6 f7
  obtain ⟨Z, hZ⟩ : ∃ Z : Nat, Hid (Z = Mx.blockD x) := ⟨_, rfl⟩
  rw [← hZ.out]
  obtain ⟨b5, off5, x5, hab, _, _, _, u0⟩ := (U3.out.read HU.out.2.2.1).1.at_ j hj
  simp only [Option.some.injEq, Addr.mk.injEq, and_true] at hab
  obtain ⟨rfl, rfl⟩ := hab
  rw [Nat.zero_add] at u0
  have uz : ∀ o, w3.frozen? ⟨g, o, none⟩ = false := by
    rcases U3.out.2 with ⟨hv, _⟩ | ⟨g', cap', cur, hv, _, hh, _⟩
    · cases hv
    · simp only [Value.slice.injEq, Option.some.injEq, Addr.mk.injEq, and_true] at hv
      obtain ⟨rfl, _, _⟩ := hv
      exact fun o => (show Bx w3 g cur 78 from hh).frozen o
  obtain ⟨w4, hw4⟩ : ∃ w4 : World, Hid (w4 = w3.setCell ⟨g, j, none⟩ (.int .u64 (Z : Int))) := ⟨_, rfl⟩
  have U4 := hide (show OwnU w4 w1.heap.size (.slice (some ⟨g, 0, none⟩) N c2) (l.set j Z) by rw [hw4.out]; exact (U3.out.set1 j Z).1)
  have R4 := hide (show Bx w4 (w.heap.size + 2) #[.slice none 0 0] 82 by rw [hw4.out]; exact R3.out.other _ _ (by show w.heap.size + 2 ≠ g; omega))
  have B4 := hide (show Below w.heap.size w w4 by rw [hw4.out]; exact B3.out.setCell (p := ⟨g, j, none⟩) (by show w.heap.size ≤ g; omega) _)
  have HU4 := hide (U4.out.read (by
    intro z hz'
    rcases List.mem_or_eq_of_mem_set hz' with h | h
    · exact HU.out.2.2.1 z h
    · rw [h, hZ.out]
      exact Mx.blockD_lt x))
  go_wp2_with fail
  rw [← hw4.out]
  have hg4 := (World.ownsRow.lt U4.out g rfl).2
  refine (grow_any g 0 N c2 (l.set j Z) w4 HU4.out.1 hg4 h1 (by omega) HU4.out.2).mono ?_
  rintro e w5 ⟨a5, k5, cap5, rfl, hO5, hb5⟩
  have R5 := hide (R4.out.later hb5.out R4.out.lt)
  have B5 := hide (B4.out.trans (hb5.out.mono B4.out.size))
  have r0 := R5.out.one
  have rz := R5.out.frozen
  have q5 := own_ne_bx hO5.out.choose_spec.1 R5.out (by decide)
  have hsz4 := R4.out.lt
  go_wp2_with fail
  have r1 := (show Bx _ _ #[.slice a5 k5 cap5] 82 from R5.out.set 0 (.slice a5 k5 cap5)).one
  refine bodyPost_ret (v := .tuple #[.agg #[.slice a5 k5 cap5], .nilIface]) (by simp [results, Try.results50, go_sem, r1]) rfl ⟨a5, k5, cap5, rfl, ?_, B5.out.setCell (p := ⟨w.heap.size + 2, 0, none⟩) (by show w.heap.size ≤ w.heap.size + 2; omega) _⟩
  rw [← hZ.out]
  exact (hO5.out.setOther ⟨w.heap.size + 2, 0, none⟩ (.slice a5 k5 cap5) q5 (by show ¬ (w.heap.size + 2 = g ∨ w4.heap.size + 3 ≤ w.heap.size + 2); omega)).lv

end Go.Proofs.Ytdhmijjphgcdmaa
