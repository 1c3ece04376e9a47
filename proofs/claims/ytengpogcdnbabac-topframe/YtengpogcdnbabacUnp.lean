/-
  The program's own reading (Unpack): the frame that bytes are, or ErrForm.
-/
import Derived.Test.YtengpogcdnbabacRbody
namespace Go.Proofs.Ytengpogcdnbabac
open Go.RowKit

theorem Bytes.cut {w : World} {b off len : Nat} {l : List Int} (h : Bytes w (some ⟨b, off, none⟩) len l) (A : Nat) (hA : A ≤ len) : Bytes w (some ⟨b, off, none⟩) A (l.take A) := by
  obtain ⟨h1, h2, h3, h4⟩ := h
  refine ⟨by rw [List.length_take, h1]; omega, by omega, fun x hx => h3 x (List.mem_of_mem_take hx), fun hp => ⟨b, off, rfl, fun i hi => ?_⟩⟩
  obtain ⟨b', off', ha, hc⟩ := h4 (by omega)
  cases ha
  rw [hc i (by omega)]
  simp [List.getD_eq_getElem?_getD, hi]

set_option maxHeartbeats 1000000 in
set_option maxRecDepth 100000 in
theorem unpack_any (a : Option Addr) (len cap : Nat) (l : List Int) (w : World) (hl : Bytes w a len l) (hlen : len ≤ 2000) (hcap : len ≤ cap) :
    Calls Try.prog 8 #[.slice a len cap] w fun e w' => Told w w' l e .nilIface (.iface 36 (.int .i64 3)) := by
  have HL := hide hl.1
  by_cases h6 : (len : Int) < 6
  · have HN := hide (frame_long (l := l) (by rw [HL.out]; omega))
    clear hl
    go_enter Try.func8, Try.ntmps8
    go_wp2
    refine bodyPost_ret (v := .tuple #[.agg #[.int .i64 0, .slice none 0 0, .slice none 0 0], .iface 36 (.int .i64 3)]) (by simp [results, Try.results8, go_sem]) rfl (.inr ⟨rfl, HN.out, below_alloc _ _⟩)
  · obtain ⟨L, rfl⟩ : ∃ L, len = L + 4 := ⟨len - 4, by omega⟩
    obtain ⟨b, off, c0, rfl, hc0, hd0, hcell0, ht0⟩ := hl.at_ 0 (by omega)
    have hbs := World.block_lt_of_cell? w _ hcell0
    simp only [Nat.add_zero] at hcell0 hbs
    have HB := hide hl
    clear hl hd0 ht0 hcell0
    have hq1 : (L : Int) + 4 ≤ cap := by omega
    have hq2 : L < cap := by omega
    have hq3 : ¬ cap = L := by omega
    go_enter Try.func8, Try.ntmps8
    go_wp2_with fail
    go_quiet (fail)
    go_wp2_with fail
    obtain ⟨W0, hW0, hBX, hB0, hS0⟩ : ∃ W0 : World, Hid (W0 = (w.alloc (.cells #[.int .i64 0, .slice none 0 0, .slice none 0 0] 25)).drewN nq) ∧ Hid (BoxAt W0 w.heap.size (.int .i64 0) (.slice none 0 0) (.slice none 0 0)) ∧ Hid (Below w.heap.size w W0) ∧ W0.heap.size = w.heap.size + 1 :=
      ⟨_, rfl, BoxAt.new w _ _ _, below_drewN (below_alloc _ _) nq, by simp⟩
    rw [← hW0.out]
    have HLT := hide (show l.take L = l.take (l.length - 4) by rw [HL.out]; simp)
    have HLD := hide (show l.drop L = l.drop (l.length - 4) by rw [HL.out]; simp)
    refine (readBody_any b off L cap (l.take L) W0 ((HB.out.cut L (by omega)).later hB0.out) (by omega) (by omega) (by omega)).mono ?_
    rintro e w1 (⟨kind, nums, nb, bs, a1, c1, a2, c2, rfl, hbody, hi, hbk, hab1, hab2, hbel⟩ | ⟨rfl, hno, hbel⟩)
    · have HBD := hide hbody
      have HI := hide hi
      have HK := hide hbk
      have HAB1 := hide hab1
      have HAB2 := hide hab2
      have hs1 := hbel.size
      have HBX1 := hide (hBX.out.later hbel (by omega))
      have HB1 := hide (hB0.out.trans (hbel.mono (by omega)))
      clear hbody hi hbk hbel hab1 hab2
      go_wp2_with fail
      refine (readSeal_any b (off + L) (cap - L) (l.drop L) _ ?_).mono ?_
      · have hx := (HB.out.drop L).later (HB1.out.alloc (by omega) (.cells #[.int .i64 kind, .slice a1 nums.length c1, .slice a2 nb c2] 25))
        rw [show L + 4 - L = 4 by omega] at hx
        exact hx
      rintro e w2 ⟨rfl, hbel2⟩
      have hs2 := hbel2.size
      rw [World.size_alloc] at hs2
      have HW2 := hide ((Below.refl w1.heap.size w1).alloc (Nat.le_refl _) (.cells #[.int .i64 kind, .slice a1 nums.length c1, .slice a2 nb c2] 25) |>.trans (hbel2.mono (by simp)))
      have HF2 := hide (BoxAt.later (BoxAt.new w1 (.int .i64 kind) (.slice a1 nums.length c1) (.slice a2 nb c2)) hbel2 (by simp))
      clear hbel2
      obtain ⟨X, hX⟩ : ∃ X : Array Value, Hid (X = ((l.drop L).map (Value.int .u8)).toArray) := ⟨_, rfl⟩
      rw [← hX.out]
      go_wp2_with fail
      refine (sealOf_any (some ⟨b, off, none⟩) L cap (l.take L) w2 ((HB.out.cut L (by omega)).later (HB1.out.trans (HW2.out.mono (by omega))))).mono ?_
      rintro e w3 ⟨rfl, hbel3⟩
      have HW3 := hide (HW2.out.trans (hbel3.mono (by omega)))
      have HF3 := hide (HF2.out.later hbel3 (by omega))
      have hs3 := hbel3.size
      clear hbel3
      obtain ⟨Y, hY⟩ : ∃ Y : Array Value, Hid (Y = ((Mx.sealB (Mx.crc (l.take L))).map (Value.int .u8)).toArray) := ⟨_, rfl⟩
      rw [← hY.out]
      have heq : ∀ W : World, Sem.run Try.prog (Op.equalIn 10000 74 (.agg X) (.agg Y)) W = .ok (decide (l.drop L = Mx.sealB (Mx.crc (l.take L)))) W := by
        intro W
        obtain ⟨i0, hi0, _⟩ := info_parts Try.info5
        rw [hX.out, hY.out]
        exact run_equal_bytes W 74 5 4 i0 Try.underlying74 Try.underlying5 hi0 Try.cellsOf5 _ _ (by rw [List.length_drop, HL.out]; omega) rfl
      have HBX3 := hide (HBX1.out.later HW3.out (by omega))
      have e0 := HF3.out.cell0
      have e1 := HF3.out.cell1
      have e2 := HF3.out.cell2
      have g0 := HBX3.out.cell0
      have g1 := HBX3.out.cell1
      have g2 := HBX3.out.cell2
      have gz := HBX3.out.frozen
      have hsw : w.heap.size < w3.heap.size := by omega
      by_cases hse : l.drop L = Mx.sealB (Mx.crc (l.take L))
      · have HFR := hide (show Mx.IsFrame l kind nums nb bs from Mx.IsBody.frame (by rw [← HLT.out]; exact HBD.out) (by rw [← HLD.out, ← HLT.out]; exact hse))
        rw [decide_eq_true hse] at heq
        clear hse
        go_wp2_with fail
        obtain ⟨r0, r1, r2⟩ := HBX3.out.stored (.int .i64 kind) (.slice a1 nums.length c1) (.slice a2 nb c2)
        refine bodyPost_ret (v := .tuple #[.agg #[.int .i64 kind, .slice a1 nums.length c1, .slice a2 nb c2], .nilIface]) (by simp [results, Try.results8, go_sem, r0, r1, r2]) rfl (.inl ⟨kind, nums, nb, bs, a1, c1, a2, c2, rfl, HFR.out, ?_, ?_, below_stored (HB1.out.trans (HW3.out.mono (by omega))) (Nat.le_refl _) _ _ _⟩)
        · exact Ints.stored (HI.out.later HW3.out) _ (fun p hp => by have := HAB1.out p hp; omega) _ _ _
        · exact Blks.stored (HK.out.later HW3.out) _ (fun p hp => by have := HAB2.out p hp; omega) _ _ _
      · have HN := hide (show ∀ kind nums nb bs, ¬ Mx.IsFrame l kind nums nb bs by
          intro k' l' n' s' hf
          have := hf.body.2
          rw [← HLD.out, ← HLT.out] at this
          exact hse this)
        rw [decide_eq_false hse] at heq
        clear hse
        go_wp2_with fail
        obtain ⟨r0, r1, r2⟩ := HBX3.out.stored (.int .i64 0) (.slice none 0 0) (.slice none 0 0)
        exact bodyPost_ret (v := .tuple #[.agg #[.int .i64 0, .slice none 0 0, .slice none 0 0], .iface 36 (.int .i64 3)]) (by simp [results, Try.results8, go_sem, r0, r1, r2]) rfl (.inr ⟨rfl, HN.out, below_stored (HB1.out.trans (HW3.out.mono (by omega))) (Nat.le_refl _) _ _ _⟩)
    · have HN := hide (show ∀ kind nums nb bs, ¬ Mx.IsFrame l kind nums nb bs by
        intro k' l' n' s' hf
        have := hf.body.1
        rw [← HLT.out] at this
        exact hno _ _ _ _ this)
      have hs1 := hbel.size
      have HBX1 := hide (hBX.out.later hbel (by omega))
      have HB1 := hide (hB0.out.trans (hbel.mono (by omega)))
      have g0 := HBX1.out.cell0
      have g1 := HBX1.out.cell1
      have g2 := HBX1.out.cell2
      have gz := HBX1.out.frozen
      have hsw : w.heap.size < w1.heap.size := by omega
      clear hno hbel
      go_wp2_with fail
      have hst := below_stored (g := w.heap.size) HB1.out (Nat.le_refl _) (.int .i64 0) (.slice none 0 0) (.slice none 0 0)
      have hbf := BoxAt.later (((HBX1.out.set0 (.int .i64 0)).set1 (.slice none 0 0)).set2 (.slice none 0 0)) (B := w1.heap.size) ((Below.refl w1.heap.size _).alloc (by simp [World.setCell]) (.cells #[.int .i64 0, .slice none 0 0, .slice none 0 0] 25)) (by omega)
      have r0 := hbf.cell0
      have r1 := hbf.cell1
      have r2 := hbf.cell2
      exact bodyPost_ret (v := .tuple #[.agg #[.int .i64 0, .slice none 0 0, .slice none 0 0], .iface 36 (.int .i64 3)]) (by simp [results, Try.results8, go_sem, r0, r1, r2]) rfl (.inr ⟨rfl, HN.out, hst.alloc (by simp [World.setCell]; omega) _⟩)
end Go.Proofs.Ytengpogcdnbabac
