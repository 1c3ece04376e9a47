/-
  A block put into a tree, as the program does it (Put): where there is no such place.
-/
import Derived.Test.YtdhmijjphgcdmaaTpe
namespace Go.Proofs.Ytdhmijjphgcdmaa
open Go.RowKit

set_option maxHeartbeats 4000000 in
set_option maxRecDepth 100000 in
theorem tput_range (a : Option Addr) (k c : Nat) (l : List Nat) (at_ : Int) (x : B8) (w : World) (h : Lvls w a k (Mx.levels l)) (hk : 1 ≤ k) (h1 : 1 ≤ l.length) (h2 : l.length ≤ 32) (hz : (Mx.levels l)[0]? = some l) (hm : Mx.tmay (Mx.levels l) = 0) (hj : at_ < 0 ∨ (l.length : Int) ≤ at_) :
    Calls Try.prog 50 #[.agg #[.slice a k c], .int .i64 at_, .agg #[.int .u8 x.z0, .int .u8 x.z1, .int .u8 x.z2, .int .u8 x.z3, .int .u8 x.z4, .int .u8 x.z5, .int .u8 x.z6, .int .u8 x.z7]] w fun e w' =>
      e = .returned (.tuple #[.agg #[.slice none 0 0], .iface 26 (.int .i64 1)]) ∧ Below w.heap.size w w' := by
  have HL := hide h
  have HM := hide hm
  have hkl : k ≤ maxLen := h.2.1
  unfold maxLen at hkl
  obtain ⟨b, off, l0, ai, ni, ci, hab, hbw, hl0, hcell, hu, hnc⟩ := h.at_ 0 (by omega)
  rw [hz] at hl0
  obtain rfl : l = l0 := Option.some.inj hl0
  subst hab
  rw [Nat.add_zero] at hcell
  have hni : ni = l.length := hu.1.symm
  subst hni
  obtain ⟨bi, offi, hai, hbi, _⟩ := hu.2.2.2 h1
  subst hai
  have HU := hide hu
  obtain ⟨N, hN⟩ : ∃ N : Nat, Hid (N = l.length) := ⟨_, rfl⟩
  rw [← hN.out] at hcell HU h1 h2 hj
  clear h hz hl0 hu hnc hm
  have hkp : (0 : Int) < k := by omega
  have hkr : 0 < k := by omega
  obtain ⟨w0, hw0⟩ : ∃ w0 : World, Hid (w0 = ((w.alloc (.cells #[.slice (some ⟨b, off, none⟩) k c] 82)).alloc (.cells #[.int .u8 x.z0, .int .u8 x.z1, .int .u8 x.z2, .int .u8 x.z3, .int .u8 x.z4, .int .u8 x.z5, .int .u8 x.z6, .int .u8 x.z7] 52)).alloc (.cells #[.slice none 0 0] 82)) := ⟨_, rfl⟩
  have B0 := hide (show Below w.heap.size w w0 by rw [hw0.out]; exact ((below_alloc _ _).alloc (by simp) _).alloc (by simp; omega) _)
  have T0 := hide (show Bx w0 w.heap.size #[.slice (some ⟨b, off, none⟩) k c] 82 by rw [hw0.out]; exact ((Bx.new w _ _).alloc _).alloc _)
  have X0 := hide (show Bx w0 (w.heap.size + 1) #[.int .u8 x.z0, .int .u8 x.z1, .int .u8 x.z2, .int .u8 x.z3, .int .u8 x.z4, .int .u8 x.z5, .int .u8 x.z6, .int .u8 x.z7] 52 by
    rw [hw0.out]
    have h := (Bx.new (w.alloc (.cells #[.slice (some ⟨b, off, none⟩) k c] 82)) #[.int .u8 x.z0, .int .u8 x.z1, .int .u8 x.z2, .int .u8 x.z3, .int .u8 x.z4, .int .u8 x.z5, .int .u8 x.z6, .int .u8 x.z7] 52).alloc (.cells #[.slice none 0 0] 82)
    rw [World.size_alloc] at h
    exact h)
  have R0 := hide (show Bx w0 (w.heap.size + 2) #[.slice none 0 0] 82 by
    rw [hw0.out]
    have h := Bx.new ((w.alloc (.cells #[.slice (some ⟨b, off, none⟩) k c] 82)).alloc (.cells #[.int .u8 x.z0, .int .u8 x.z1, .int .u8 x.z2, .int .u8 x.z3, .int .u8 x.z4, .int .u8 x.z5, .int .u8 x.z6, .int .u8 x.z7] 52)) #[.slice none 0 0] 82
    rw [World.size_alloc, World.size_alloc] at h
    exact h)
  go_enter Try.func50, Try.ntmps50
  go_wp2_with fail
  rw [← hw0.out]
  refine (tcheck_any (some ⟨b, off, none⟩) k c (Mx.levels l) w0 (HL.out.later B0.out)).mono ?_
  rintro e w1 ⟨rfl, hb1⟩
  rw [HM.out, errV_zero]
  have T1 := hide (T0.out.later hb1 T0.out.lt)
  have X1 := hide (X0.out.later hb1 X0.out.lt)
  have R1 := hide (R0.out.later hb1 R0.out.lt)
  have B1 := hide (B0.out.trans (hb1.mono B0.out.size))
  clear hb1
  have t1 := T1.out.one
  have hc1 : w1.cell? ⟨b, off, none⟩ = some (.slice (some ⟨bi, offi, none⟩) N ci) := (B1.out.cell (p := ⟨b, off, none⟩) hbw).trans hcell
  clear hcell
  go_wp2_with fail
  refine (cloneU_any bi offi N ci l w1 (HU.out.later B1.out) h1 (by omega)).mono ?_
  rintro e w2 ⟨v2, rfl, hO2, hb2⟩
  obtain ⟨a2, c2, hv2⟩ := hO2.out.form
  rw [← hN.out] at hv2
  subst hv2
  have HRD := hide (hO2.out.read HU.out.2.2.1)
  obtain ⟨g, go, hag, _, _⟩ := HRD.out.1.2.2.2 h1
  obtain rfl : go = 0 := by
    rcases hO2.out.2 with ⟨hv, _⟩ | ⟨g', cap', cur, hv, _⟩
    · simp only [Value.slice.injEq] at hv
      omega
    · simp only [Value.slice.injEq] at hv
      rw [hv.1] at hag
      simp only [Option.some.injEq, Addr.mk.injEq, and_true] at hag
      exact hag.2.symm
  subst hag
  have R2 := hide (R1.out.later hb2.out R1.out.lt)
  have B2 := hide (B1.out.trans (hb2.out.mono B1.out.size))
  clear t1 hc1
  have r0 := R2.out.one
  have rz := R2.out.frozen
  have r1 := (show Bx _ _ #[.slice none 0 0] 82 from R2.out.set 0 (.slice none 0 0)).one
  by_cases hn0 : at_ < 0
  · have hd0 : decide (at_ < 0) = true := by simpa using hn0
    go_wp2_with fail
    exact bodyPost_ret (v := .tuple #[.agg #[.slice none 0 0], .iface 26 (.int .i64 1)]) (by simp [results, Try.results50, go_sem, r1]) rfl ⟨rfl, B2.out.setCell (p := ⟨w.heap.size + 2, 0, none⟩) (by show w.heap.size ≤ w.heap.size + 2; omega) _⟩
  · have hd0 : decide (at_ < 0) = false := by simpa using hn0
    have hn1 : (N : Int) ≤ at_ := by omega
    have hd1 : decide ((N : Int) ≤ at_) = true := by simpa using hn1
    go_wp2_with fail
    exact bodyPost_ret (v := .tuple #[.agg #[.slice none 0 0], .iface 26 (.int .i64 1)]) (by simp [results, Try.results50, go_sem, r1]) rfl ⟨rfl, B2.out.setCell (p := ⟨w.heap.size + 2, 0, none⟩) (by show w.heap.size ≤ w.heap.size + 2; omega) _⟩

end Go.Proofs.Ytdhmijjphgcdmaa
