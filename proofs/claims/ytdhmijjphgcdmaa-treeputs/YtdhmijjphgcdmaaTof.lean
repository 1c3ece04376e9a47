/-
  A tree of blocks, as the program makes it (Of).
-/
import Derived.Test.YtdhmijjphgcdmaaTgr
import Derived.Laws.OwnMore
namespace Go.Proofs.Ytdhmijjphgcdmaa
open Go.RowKit

theorem made_u64 (N : Nat) : (madeCells #[Value.int .u64 0] N).toList = List.replicate N (Value.int .u64 0) := by
  rw [List.eq_replicate_iff]
  refine ⟨by simp [madeCells], fun b hb => ?_⟩
  simp only [madeCells, Array.toList_map, List.mem_map] at hb
  obtain ⟨i, _, rfl⟩ := hb
  show #[Value.int .u64 0][i % 1]! = _
  rw [Nat.mod_one]
  rfl
theorem make_u64s (n : Nat) (hn : n ≤ 1000) : ∃ C : Array Value, (∀ w : World, (Instr.makeSlice 92 (.int .i64 (n : Int)) (.int .i64 (n : Int))).run Try.prog w = .ok (.slice (some ⟨w.heap.size, 0, none⟩) n n) (w.alloc (.cells C 78))) ∧
    Hid (∀ (w : World) (base : Nat), base ≤ w.heap.size → OwnU (w.alloc (.cells C 78)) base (.slice (some ⟨w.heap.size, 0, none⟩) n n) (List.replicate n 0)) := by
  obtain ⟨i0, hi, hz0, hz1, hz2⟩ := info_parts Try.info78
  refine ⟨madeCells #[Value.int .u64 0] (n * 1), fun w => ?_, fun w base hb => ?_⟩
  · have h := run_makeSlice (P := Try.prog) w 92 78 i0 _ Try.underlying92 hi hz0 .i64 .i64 (n : Int) (n : Int) (by omega) (Int.le_refl _) (by rw [hz1]; simp; omega) (by rw [hz2]; omega) (by omega)
    rw [hz1] at h
    simpa [Value.cells] using h
  · have h := World.ownsRow_lit (base := base) (e := 78) (size := 1) w (madeCells #[Value.int .u64 0] (n * 1)) n hb (by unfold maxLen; omega) (size_madeCells _ _)
    unfold OwnU
    rw [List.length_replicate, List.map_replicate]
    rw [made_u64, Nat.mul_one] at h
    rw [Nat.mul_one]
    exact h

theorem OwnU.set1 {w : World} {base g n cap : Nat} {l : List Nat} (h : OwnU w base (.slice (some ⟨g, 0, none⟩) n cap) l) (k z : Nat) : OwnU (w.setCell ⟨g, k, none⟩ (.int .u64 (z : Int))) base (.slice (some ⟨g, 0, none⟩) n cap) (l.set k z) ∧ base ≤ g ∧ g < w.heap.size ∧ l.length = n := by
  rcases h.2 with ⟨hv, _⟩ | ⟨g', cap', cur, hv, hb, hh, hle, hmx, hcs, htk⟩
  · cases hv
  · simp only [Value.slice.injEq, Option.some.injEq, Addr.mk.injEq, and_true] at hv
    obtain ⟨rfl, hn, rfl⟩ := hv
    have hbx : Bx w g cur 78 := hh
    refine ⟨⟨by simp, .inr ⟨g, cap, _, by rw [List.length_set, hn], hb, hbx.set k (.int .u64 (z : Int)), by rw [List.length_set]; exact hle, hmx, by simpa using hcs, ?_⟩⟩, hb, hbx.lt, hn.symm⟩
    simp only [Array.toList_setIfInBounds, List.take_set, List.length_set]
    rw [htk, List.map_set]

set_option maxHeartbeats 4000000 in
set_option maxRecDepth 100000 in
theorem of_any (a : Option Addr) (n c : Nat) (l : List B8) (w : World) (hl : BL w a n l) (hok : ∀ x ∈ l, x.ok) (hn0 : 1 ≤ n) (hn : n ≤ 32) :
    Calls Try.prog 44 #[.slice a n c] w fun e w' => ∃ a' k cap, e = .returned (.tuple #[.agg #[.slice a' k cap], .nilIface]) ∧ Hid (Lvls w' a' k (Mx.levels (l.map Mx.blockD)) ∧ k ≤ cap) ∧ Hid (Below w.heap.size w w') := by
  have HL := hide hl
  have HN := hide hl.1
  have HOK := hide hok
  have HMH := hide (show Mx.mayHave n = true by unfold Mx.mayHave; simp; omega)
  clear hl hok
  obtain ⟨C, hC, HC⟩ := make_u64s n (by omega)
  go_enter Try.func44, Try.ntmps44
  go_wp2_with fail
  refine (mayHave_any n _).mono ?_
  rintro e w1 ⟨rfl, rfl⟩
  rw [HMH.out]
  go_wp2_with fail
  obtain ⟨w0, hw0⟩ : ∃ w0 : World, Hid (w0 = (w.alloc (.cells #[.slice none 0 0] 82)).alloc (.cells C 78)) := ⟨_, rfl⟩
  rw [← hw0.out]
  have R0 := hide (show Bx w0 w.heap.size #[.slice none 0 0] 82 by rw [hw0.out]; exact (Bx.new w _ _).alloc _)
  have U0 := hide (show OwnU w0 (w.heap.size + 1) (.slice (some ⟨w.heap.size + 1, 0, none⟩) n n) (List.replicate n 0) by
    rw [hw0.out]
    have h := HC.out (w.alloc (.cells #[.slice none 0 0] 82)) (w.heap.size + 1) (by simp)
    rw [World.size_alloc] at h
    exact h)
  have B0 := hide (show Below w.heap.size w w0 by rw [hw0.out]; exact (below_alloc _ _).alloc (by simp) _)
  go_loopw [18] (fun i wr => ∃ k : Nat, k ≤ n ∧ i = .int .i64 k ∧ Hid (Bx wr w.heap.size #[.slice none 0 0] 82 ∧ OwnU wr (w.heap.size + 1) (.slice (some ⟨w.heap.size + 1, 0, none⟩) n n) ((l.take k).map Mx.blockD ++ List.replicate (n - k) 0) ∧ Below w.heap.size w wr)) (fun i _ => n - (intOf i).toNat)
  case atStart => exact ⟨0, by omega, rfl, R0.out, by simpa using U0.out, B0.out⟩
  case round =>
    obtain ⟨k, hk, rfl, hI⟩ := hrel
    by_cases hlt : k < n
    · obtain ⟨b, off, y, rfl, hb, hy, e0, e1, e2, e3, e4, e5, e6, e7⟩ := (HL.out.later hI.out.2.2).at_ k hlt
      have HY := hide hy
      have HYO := hide (HOK.out y (List.mem_of_getElem? hy))
      clear hy
      obtain ⟨w2, hw2⟩ : ∃ w2 : World, Hid (w2 = wr.alloc (.cells #[.int .u8 y.z0, .int .u8 y.z1, .int .u8 y.z2, .int .u8 y.z3, .int .u8 y.z4, .int .u8 y.z5, .int .u8 y.z6, .int .u8 y.z7] 52)) := ⟨_, rfl⟩
      have I2 := hide (show Bx w2 w.heap.size #[.slice none 0 0] 82 ∧ OwnU w2 (w.heap.size + 1) (.slice (some ⟨w.heap.size + 1, 0, none⟩) n n) ((l.take k).map Mx.blockD ++ List.replicate (n - k) 0) ∧ Below w.heap.size w w2 by
        rw [hw2.out]
        exact ⟨hI.out.1.alloc _, World.ownsRow.alloc hI.out.2.1 _, hI.out.2.2.alloc hI.out.2.2.size _⟩)
      go_wp2_with fail
      rw [← hw2.out]
      clear e0 e1 e2 e3 e4 e5 e6 e7
      refine (ofBlock_any y HYO.out w2).mono ?_
      rintro e w3 ⟨rfl, hb3⟩
      have R3 := hide (I2.out.1.later hb3 I2.out.1.lt)
      have U3 := hide (show OwnU w3 (w.heap.size + 1) (.slice (some ⟨w.heap.size + 1, 0, none⟩) n n) ((l.take k).map Mx.blockD ++ List.replicate (n - k) 0) from rowKept I2.out.2.1 hb3)
      have B3 := hide (I2.out.2.2.trans (hb3.mono I2.out.2.2.size))
      clear hb3
      obtain ⟨Z, hZ⟩ : ∃ Z : Nat, Hid (Z = Mx.blockD y) := ⟨_, rfl⟩
      rw [← hZ.out]
      have HS := hide (U3.out.set1 k Z)
      have HRD := hide (U3.out.read (by
        intro z hz
        rcases List.mem_append.1 hz with h | h
        · obtain ⟨x, _, rfl⟩ := List.mem_map.1 h
          exact Mx.blockD_lt x
        · rw [List.eq_of_mem_replicate h]
          decide)).1
      obtain ⟨b5, off5, x5, hab, _, _, _, u0⟩ := HRD.out.at_ k hlt
      simp only [Option.some.injEq, Addr.mk.injEq, and_true] at hab
      obtain ⟨rfl, rfl⟩ := hab
      rw [Nat.zero_add] at u0
      have uz : ∀ o, w3.frozen? ⟨w.heap.size + 1, o, none⟩ = false := by
        rcases U3.out.2 with ⟨hv, _⟩ | ⟨g', cap', cur, hv, _, hh, _⟩
        · cases hv
        · simp only [Value.slice.injEq, Option.some.injEq, Addr.mk.injEq, and_true] at hv
          obtain ⟨rfl, _, _⟩ := hv
          exact fun o => (show Bx w3 (w.heap.size + 1) cur 78 from hh).frozen o
      have HNX := hide (show OwnU (w3.setCell ⟨w.heap.size + 1, k, none⟩ (.int .u64 (Z : Int))) (w.heap.size + 1) (.slice (some ⟨w.heap.size + 1, 0, none⟩) n n) ((l.take (k + 1)).map Mx.blockD ++ List.replicate (n - (k + 1)) 0) by
        have h := HS.out.1
        have hlen : ((l.take k).map Mx.blockD).length = k := by rw [List.length_map, List.length_take, HN.out]; omega
        rw [List.set_append_right _ _ (by omega), hlen, Nat.sub_self, show n - k = (n - (k + 1)) + 1 by omega, List.replicate_succ, List.set_cons_zero] at h
        rw [getElem_take_succ _ _ _ HY.out, List.map_append, List.map_cons, List.map_nil, ← hZ.out, List.append_assoc]
        exact h)
      go_wp2_with fail
      go_roundw
      case rel => exact ⟨k + 1, by omega, by go_num, R3.out.other _ _ (by show w.heap.size ≠ w.heap.size + 1; omega), HNX.out, B3.out.setCell (p := ⟨w.heap.size + 1, k, none⟩) (by show w.heap.size ≤ w.heap.size + 1; omega) _⟩
      case measure => simp [intOf]; omega
    · have HE := hide (show (l.take k).map Mx.blockD ++ List.replicate (n - k) 0 = l.map Mx.blockD by
        rw [List.take_of_length_le (by rw [HN.out]; omega), show n - k = 0 by omega]
        simp)
      have HU := hide (show U64s wr (some ⟨w.heap.size + 1, 0, none⟩) n (l.map Mx.blockD) by
        have h := (hI.out.2.1.read (by
          rw [HE.out]
          intro z hz
          obtain ⟨x, _, rfl⟩ := List.mem_map.1 hz
          exact Mx.blockD_lt x)).1
        rw [HE.out] at h
        exact h)
      go_wp2_with fail
      have hgl : w.heap.size + 1 < wr.heap.size := (World.ownsRow.lt hI.out.2.1 _ rfl).2
      refine (grow_any (w.heap.size + 1) 0 n n _ wr HU.out hgl hn0 (by omega) (Nat.le_refl _)).mono ?_
      rintro e w5 ⟨a5, k5, cap5, rfl, hO5, hb5⟩
      have R5 := hide (hI.out.1.later hb5.out hI.out.1.lt)
      have B5 := hide (hI.out.2.2.trans (hb5.out.mono hI.out.2.2.size))
      have r0 := R5.out.one
      have rz := R5.out.frozen
      have q5 := own_ne_bx hO5.out.choose_spec.1 R5.out (by decide)
      go_wp2_with fail
      have r1 := (show Bx _ _ #[.slice a5 k5 cap5] 82 from R5.out.set 0 (.slice a5 k5 cap5)).one
      refine bodyPost_ret (v := .tuple #[.agg #[.slice a5 k5 cap5], .nilIface]) (by simp [results, Try.results44, go_sem, r1]) rfl ⟨a5, k5, cap5, rfl, ?_, B5.out.setCell (p := ⟨w.heap.size, 0, none⟩) (Nat.le_refl _) _⟩
      exact (hO5.out.setOther ⟨w.heap.size, 0, none⟩ (.slice a5 k5 cap5) q5 (by show ¬ (w.heap.size = w.heap.size + 1 ∨ wr.heap.size + 3 ≤ w.heap.size); omega)).lv

end Go.Proofs.Ytdhmijjphgcdmaa
