/-
  A tree of blocks, as the program makes it (Of).
-/
import Derived.Laws.OwnMore
import Derived.Lib.SliceRun
import Derived.Test.YtdhmijjphgcdmaaZIs
import Derived.Test.YtdhmijjphgcdmaaZDclone
import Derived.Test.YtdhmijjphgcdmaaZDbox
import Derived.Test.YtdhmijjphgcdmaaZTs
import Derived.Test.YtdhmijjphgcdmaaZTg

namespace Go.Proofs.Ytdhmijjphgcdmaa
open Go.RowKit

theorem made_u64 (N : Nat) : (madeCells #[Value.int .u64 0] N).toList = List.replicate N (Value.int .u64 0) := by
  rw [List.eq_replicate_iff]
  refine ⟨by simp [madeCells], fun b hb => ?_⟩
  simp only [madeCells, Array.toList_map, List.mem_map] at hb
  obtain ⟨i, _, rfl⟩ := hb
  show #[Value.int .u64 0][i % 1]! = _
  rw [Nat.mod_one]
  rfl
theorem make_u64s (n : Nat) (hn : n ≤ 1000) : ∃ C : Array Value, (∀ w : World, (Instr.makeSlice 92 (.int .i64 (n : Int)) (.int .i64 (n : Int))).run Try.prog w = .ok (.slice (some ⟨w.heap.size, 0, none⟩) n n) (w.alloc (.cells C 78))) ∧
    Hid (∀ (w : World) (base : Nat), base ≤ w.heap.size → OwnU (w.alloc (.cells C 78)) base (.slice (some ⟨w.heap.size, 0, none⟩) n n) (List.replicate n 0)) := by
  obtain ⟨i0, hi, hz0, hz1, hz2⟩ := info_parts Try.info78
  refine ⟨madeCells #[Value.int .u64 0] (n * 1), fun w => ?_, fun w base hb => ?_⟩
  · have h := run_makeSlice (P := Try.prog) w 92 78 i0 _ Try.underlying92 hi hz0 .i64 .i64 (n : Int) (n : Int) (by omega) (Int.le_refl _) (by rw [hz1]; simp; omega) (by rw [hz2]; omega) (by omega)
    rw [hz1] at h
    simpa [Value.cells] using h
  · have h := World.ownsRow_lit (base := base) (e := 78) (size := 1) w (madeCells #[Value.int .u64 0] (n * 1)) n hb (by unfold maxLen; omega) (size_madeCells _ _)
    unfold OwnU
    rw [List.length_replicate, List.map_replicate]
    rw [made_u64, Nat.mul_one] at h
    rw [Nat.mul_one]
    exact h

theorem OwnU.set1 {w : World} {base g n cap : Nat} {l : List Nat} (h : OwnU w base (.slice (some ⟨g, 0, none⟩) n cap) l) (k z : Nat) : OwnU (w.setCell ⟨g, k, none⟩ (.int .u64 (z : Int))) base (.slice (some ⟨g, 0, none⟩) n cap) (l.set k z) ∧ base ≤ g ∧ g < w.heap.size ∧ l.length = n := by
  rcases h.2 with ⟨hv, _⟩ | ⟨g', cap', cur, hv, hb, hh, hle, hmx, hcs, htk⟩
  · cases hv
  · simp only [Value.slice.injEq, Option.some.injEq, Addr.mk.injEq, and_true] at hv
    obtain ⟨rfl, hn, rfl⟩ := hv
    have hbx : Bx w g cur 78 := hh
    refine ⟨⟨by simp, .inr ⟨g, cap, _, by rw [List.length_set, hn], hb, hbx.set k (.int .u64 (z : Int)), by rw [List.length_set]; exact hle, hmx, by simpa using hcs, ?_⟩⟩, hb, hbx.lt, hn.symm⟩
    simp only [Array.toList_setIfInBounds, List.take_set, List.length_set]
    rw [htk, List.map_set]

set_option maxHeartbeats 4000000 in
set_option maxRecDepth 100000 in
theorem of_any (a : Option Addr) (n c : Nat) (l : List B8) (w : World) (hl : BL w a n l) (hok : ∀ x ∈ l, x.ok) (hn0 : 1 ≤ n) (hn : n ≤ 32) :
    Calls Try.prog 44 #[.slice a n c] w fun e w' => ∃ a' k cap, e = .returned (.tuple #[.agg #[.slice a' k cap], .nilIface]) ∧ Hid (Lvls w' a' k (Mx.levels (l.map Mx.blockD)) ∧ k ≤ cap) ∧ Hid (Below w.heap.size w w') := by
  have HL := hide hl
  have HN := hide hl.1
  have HOK := hide hok
  have HMH := hide (show Mx.mayHave n = true by unfold Mx.mayHave; simp; omega)
  clear hl hok
  obtain ⟨C, hC, HC⟩ := make_u64s n (by omega)
  go_enter Try.func44, Try.ntmps44
  go_wp2_with fail
  refine (mayHave_any n _).mono ?_
  rintro e w1 ⟨rfl, rfl⟩
  rw [HMH.out]
  go_wp2_with fail
  obtain ⟨w0, hw0⟩ : ∃ w0 : World, Hid (w0 = (w.alloc (.cells #[.slice none 0 0] 82)).alloc (.cells C 78)) := ⟨_, rfl⟩
  rw [← hw0.out]
  have R0 := hide (show Bx w0 w.heap.size #[.slice none 0 0] 82 by rw [hw0.out]; exact (Bx.new w _ _).alloc _)
  have U0 := hide (show OwnU w0 (w.heap.size + 1) (.slice (some ⟨w.heap.size + 1, 0, none⟩) n n) (List.replicate n 0) by
    rw [hw0.out]
    have h := HC.out (w.alloc (.cells #[.slice none 0 0] 82)) (w.heap.size + 1) (by simp)
    rw [World.size_alloc] at h
    exact h)
  have B0 := hide (show Below w.heap.size w w0 by rw [hw0.out]; exact (below_alloc _ _).alloc (by simp) _)
  go_loopw [18] (fun i wr => ∃ k : Nat, k ≤ n ∧ i = .int .i64 k ∧ Hid (Bx wr w.heap.size #[.slice none 0 0] 82 ∧ OwnU wr (w.heap.size + 1) (.slice (some ⟨w.heap.size + 1, 0, none⟩) n n) ((l.take k).map Mx.blockD ++ List.replicate (n - k) 0) ∧ Below w.heap.size w wr)) (fun i _ => n - (intOf i).toNat)
  case atStart => exact ⟨0, by omega, rfl, R0.out, by simpa using U0.out, B0.out⟩
  case round =>
    obtain ⟨k, hk, rfl, hI⟩ := hrel
    by_cases hlt : k < n
    · obtain ⟨b, off, y, rfl, hb, hy, e0, e1, e2, e3, e4, e5, e6, e7⟩ := (HL.out.later hI.out.2.2).at_ k hlt
      have HY := hide hy
      have HYO := hide (HOK.out y (List.mem_of_getElem? hy))
      clear hy
      obtain ⟨w2, hw2⟩ : ∃ w2 : World, Hid (w2 = wr.alloc (.cells #[.int .u8 y.z0, .int .u8 y.z1, .int .u8 y.z2, .int .u8 y.z3, .int .u8 y.z4, .int .u8 y.z5, .int .u8 y.z6, .int .u8 y.z7] 52)) := ⟨_, rfl⟩
      have I2 := hide (show Bx w2 w.heap.size #[.slice none 0 0] 82 ∧ OwnU w2 (w.heap.size + 1) (.slice (some ⟨w.heap.size + 1, 0, none⟩) n n) ((l.take k).map Mx.blockD ++ List.replicate (n - k) 0) ∧ Below w.heap.size w w2 by
        rw [hw2.out]
        exact ⟨hI.out.1.alloc _, World.ownsRow.alloc hI.out.2.1 _, hI.out.2.2.alloc hI.out.2.2.size _⟩)
      go_wp2_with fail
      rw [← hw2.out]
      clear e0 e1 e2 e3 e4 e5 e6 e7
      refine (ofBlock_any y HYO.out w2).mono ?_
      rintro e w3 ⟨rfl, hb3⟩
      have R3 := hide (I2.out.1.later hb3 I2.out.1.lt)
      have U3 := hide (show OwnU w3 (w.heap.size + 1) (.slice (some ⟨w.heap.size + 1, 0, none⟩) n n) ((l.take k).map Mx.blockD ++ List.replicate (n - k) 0) from rowKept I2.out.2.1 hb3)
      have B3 := hide (I2.out.2.2.trans (hb3.mono I2.out.2.2.size))
      clear hb3
      obtain ⟨Z, hZ⟩ : ∃ Z : Nat, Hid (Z = Mx.blockD y) := ⟨_, rfl⟩
      rw [← hZ.out]
      have HS := hide (U3.out.set1 k Z)
      have HRD := hide (U3.out.read (by
        intro z hz
        rcases List.mem_append.1 hz with h | h
        · obtain ⟨x, _, rfl⟩ := List.mem_map.1 h
          exact Mx.blockD_lt x
        · rw [List.eq_of_mem_replicate h]
          decide)).1
      obtain ⟨b5, off5, x5, hab, _, _, _, u0⟩ := HRD.out.at_ k hlt
      simp only [Option.some.injEq, Addr.mk.injEq, and_true] at hab
      obtain ⟨rfl, rfl⟩ := hab
      rw [Nat.zero_add] at u0
      have uz : ∀ o, w3.frozen? ⟨w.heap.size + 1, o, none⟩ = false := by
        rcases U3.out.2 with ⟨hv, _⟩ | ⟨g', cap', cur, hv, _, hh, _⟩
        · cases hv
        · simp only [Value.slice.injEq, Option.some.injEq, Addr.mk.injEq, and_true] at hv
          obtain ⟨rfl, _, _⟩ := hv
          exact fun o => (show Bx w3 (w.heap.size + 1) cur 78 from hh).frozen o
      have HNX := hide (show OwnU (w3.setCell ⟨w.heap.size + 1, k, none⟩ (.int .u64 (Z : Int))) (w.heap.size + 1) (.slice (some ⟨w.heap.size + 1, 0, none⟩) n n) ((l.take (k + 1)).map Mx.blockD ++ List.replicate (n - (k + 1)) 0) by
        have h := HS.out.1
        have hlen : ((l.take k).map Mx.blockD).length = k := by rw [List.length_map, List.length_take, HN.out]; omega
        rw [List.set_append_right _ _ (by omega), hlen, Nat.sub_self, show n - k = (n - (k + 1)) + 1 by omega, List.replicate_succ, List.set_cons_zero] at h
        rw [getElem_take_succ _ _ _ HY.out, List.map_append, List.map_cons, List.map_nil, ← hZ.out, List.append_assoc]
        exact h)
      go_wp2_with fail
      go_roundw
      case rel => exact ⟨k + 1, by omega, by go_num, R3.out.other _ _ (by show w.heap.size ≠ w.heap.size + 1; omega), HNX.out, B3.out.setCell (p := ⟨w.heap.size + 1, k, none⟩) (by show w.heap.size ≤ w.heap.size + 1; omega) _⟩
      case measure => simp [intOf]; omega
    · have HE := hide (show (l.take k).map Mx.blockD ++ List.replicate (n - k) 0 = l.map Mx.blockD by
        rw [List.take_of_length_le (by rw [HN.out]; omega), show n - k = 0 by omega]
        simp)
      have HU := hide (show U64s wr (some ⟨w.heap.size + 1, 0, none⟩) n (l.map Mx.blockD) by
        have h := (hI.out.2.1.read (by
          rw [HE.out]
          intro z hz
          obtain ⟨x, _, rfl⟩ := List.mem_map.1 hz
          exact Mx.blockD_lt x)).1
        rw [HE.out] at h
        exact h)
      go_wp2_with fail
      have hgl : w.heap.size + 1 < wr.heap.size := (World.ownsRow.lt hI.out.2.1 _ rfl).2
      refine (grow_any (w.heap.size + 1) 0 n n _ wr HU.out hgl hn0 (by omega) (Nat.le_refl _)).mono ?_
      rintro e w5 ⟨a5, k5, cap5, rfl, hO5, hb5⟩
      have R5 := hide (hI.out.1.later hb5.out hI.out.1.lt)
      have B5 := hide (hI.out.2.2.trans (hb5.out.mono hI.out.2.2.size))
      have r0 := R5.out.one
      have rz := R5.out.frozen
      have q5 := own_ne_bx hO5.out.choose_spec.1 R5.out (by decide)
      go_wp2_with fail
      have r1 := (show Bx _ _ #[.slice a5 k5 cap5] 82 from R5.out.set 0 (.slice a5 k5 cap5)).one
      refine bodyPost_ret (v := .tuple #[.agg #[.slice a5 k5 cap5], .nilIface]) (by simp [results, Try.results44, go_sem, r1]) rfl ⟨a5, k5, cap5, rfl, ?_, B5.out.setCell (p := ⟨w.heap.size, 0, none⟩) (Nat.le_refl _) _⟩
      exact (hO5.out.setOther ⟨w.heap.size, 0, none⟩ (.slice a5 k5 cap5) q5 (by show ¬ (w.heap.size = w.heap.size + 1 ∨ wr.heap.size + 3 ≤ w.heap.size); omega)).lv

end Go.Proofs.Ytdhmijjphgcdmaa

/-
  Of's error; whether a tree may be, as the program says it (Check), where it may be.
-/
namespace Go.Proofs.Ytdhmijjphgcdmaa
open Go.RowKit

set_option maxHeartbeats 1000000 in
set_option maxRecDepth 100000 in
theorem of_err (a : Option Addr) (n c : Nat) (w : World) (hn : n < 1 ∨ 32 < n) :
    Calls Try.prog 44 #[.slice a n c] w fun e w' => e = .returned (.tuple #[.agg #[.slice none 0 0], .iface 26 (.int .i64 1)]) ∧ Below w.heap.size w w' := by
  have HMH := hide (show Mx.mayHave n = false by unfold Mx.mayHave; simp; omega)
  go_enter Try.func44, Try.ntmps44
  go_wp2_with fail
  refine (mayHave_any n _).mono ?_
  rintro e w1 ⟨rfl, rfl⟩
  rw [HMH.out]
  go_wp2_with fail
  have r1 := (Bx.new w #[.slice none 0 0] 82).one
  exact bodyPost_ret (v := .tuple #[.agg #[.slice none 0 0], .iface 26 (.int .i64 1)]) (by simp [results, Try.results44, go_sem, r1]) rfl ⟨rfl, below_alloc _ _⟩

set_option maxHeartbeats 4000000 in
set_option maxRecDepth 100000 in
theorem tcheck_ok (a : Option Addr) (k c : Nat) (l : List Nat) (w : World) (h : Lvls w a k (Mx.levels l)) (hk : 1 ≤ k) (h1 : 1 ≤ l.length) (h2 : l.length ≤ 32) (hz : (Mx.levels l)[0]? = some l) :
    Calls Try.prog 47 #[.agg #[.slice a k c]] w fun e w' => e = .returned .nilIface ∧ Below w.heap.size w w' := by
  have HL := hide h
  have hkl : k ≤ maxLen := h.2.1
  unfold maxLen at hkl
  have HMH := hide (show Mx.mayHave l.length = true by unfold Mx.mayHave; simp; omega)
  obtain ⟨b, off, l0, ai, ni, ci, hab, hbw, hl0, hcell, hu, hnc⟩ := h.at_ 0 (by omega)
  rw [hz] at hl0
  obtain rfl : l = l0 := Option.some.inj hl0
  subst hab
  rw [Nat.add_zero] at hcell
  have hni : ni = l.length := hu.1.symm
  subst hni
  obtain ⟨bi, offi, hai, hbi, _⟩ := hu.2.2.2 h1
  subst hai
  have HU := hide hu
  have HNC := hide hnc
  clear h hz hl0 hu hnc
  have hk0 : ((k : Int) == 0) = false := by simp; omega
  have hkp : (0 : Int) < k := by omega
  have hkr : 0 < k := by omega
  have hks : ¬ k = 0 := by omega
  have hkt : ¬ (k : Int) ≤ 0 := by omega
  obtain ⟨w0, hw0⟩ : ∃ w0 : World, Hid (w0 = w.alloc (.cells #[.slice (some ⟨b, off, none⟩) k c] 82)) := ⟨_, rfl⟩
  have B0 := hide (show Below w.heap.size w w0 by rw [hw0.out]; exact below_alloc _ _)
  have X0 := hide (show Bx w0 w.heap.size #[.slice (some ⟨b, off, none⟩) k c] 82 by rw [hw0.out]; exact Bx.new _ _ _)
  have hc0 : w0.cell? ⟨b, off, none⟩ = some (.slice (some ⟨bi, offi, none⟩) l.length ci) := (B0.out.cell (p := ⟨b, off, none⟩) hbw).trans hcell
  obtain ⟨N, hN⟩ : ∃ N : Nat, Hid (N = l.length) := ⟨_, rfl⟩
  rw [← hN.out] at hc0 hcell HMH HU HNC h1 h2
  have x0 := X0.out.one
  go_enter Try.func47, Try.ntmps47
  go_wp2_with fail
  rw [← hw0.out]
  refine (mayHave_any N w0).mono ?_
  rintro e w1 ⟨rfl, rfl⟩
  rw [HMH.out]
  clear hcell
  have hfd : ∀ (a : Option Addr) (k c : Nat) (W : World), (Instr.field 82 (.agg #[.slice a k c]) 0).run Try.prog W = .ok (.slice a k c) W := fun _ _ _ _ => by kernel_rfl
  go_wp2_with fail
  go_region_held3 (fun w' => w'.cell? ⟨w.heap.size, 0, none⟩ = some (.slice (some ⟨b, off, none⟩) k c) ∧ w'.cell? ⟨b, off, none⟩ = some (.slice (some ⟨bi, offi, none⟩) N ci))
    (first | exact ⟨x0, hc0⟩ | exact ⟨y0, y1⟩)
    (first
    | (go_at_call 95; refine (grow_any bi offi N ci l w1.drew ((HU.out.later B0.out).later (Below.refl _ _).drew) (by show bi < w1.heap.size; have := B0.out.size; omega) h1 (by omega) HNC.out).mono ?_; rintro e w2 ⟨a2, k2, cap2, rfl, hO2, hb2⟩; have y0 := (hb2.out.cell (p := ⟨w.heap.size, 0, none⟩) X0.out.lt).trans x0; have y1 := (hb2.out.cell (p := ⟨b, off, none⟩) (by show b < w1.heap.size; have := B0.out.size; omega)).trans hc0)
    | (go_at_call 97; refine (equalF_any (some ⟨b, off, none⟩) a2 k c k2 cap2 (Mx.levels l) (Mx.levels l) w2 ((HL.out.later (B0.out.drew)).later hb2.out) hO2.out.lv.1).mono ?_; rintro e w3 ⟨r, rfl, hr, q, rfl⟩))
  all_goals
    obtain rfl : r = true := by simpa using hr
    have HB := hide (show Below w.heap.size w w2 from B0.out.drew.trans (hb2.out.mono B0.out.size))
    clear hr
    go_wp2_with fail
    go_ret
    exact ⟨rfl, below_drewN HB.out _⟩

end Go.Proofs.Ytdhmijjphgcdmaa

/-
  Whether a tree may be, as the program says it (Check): where it has a first level that may be.
-/
namespace Go.Proofs.Ytdhmijjphgcdmaa
open Go.RowKit

/-- the levels are those of that first one, or the error -/
def Mx.tsame (ls : List (List Nat)) (l : List Nat) : Int := if ls = Mx.levels l then 0 else 3

set_option maxHeartbeats 4000000 in
set_option maxRecDepth 100000 in
theorem tcheck_grow (a : Option Addr) (k c : Nat) (ls : List (List Nat)) (l : List Nat) (w : World) (h : Lvls w a k ls) (hk : 1 ≤ k) (h1 : 1 ≤ l.length) (h2 : l.length ≤ 32) (hz : ls[0]? = some l) :
    Calls Try.prog 47 #[.agg #[.slice a k c]] w fun e w' => e = .returned (errV (Mx.tsame ls l)) ∧ Below w.heap.size w w' := by
  have HL := hide h
  have hkl : k ≤ maxLen := h.2.1
  unfold maxLen at hkl
  have HMH := hide (show Mx.mayHave l.length = true by unfold Mx.mayHave; simp; omega)
  obtain ⟨b, off, l0, ai, ni, ci, hab, hbw, hl0, hcell, hu, hnc⟩ := h.at_ 0 (by omega)
  rw [hz] at hl0
  obtain rfl : l = l0 := Option.some.inj hl0
  subst hab
  rw [Nat.add_zero] at hcell
  have hni : ni = l.length := hu.1.symm
  subst hni
  obtain ⟨bi, offi, hai, hbi, _⟩ := hu.2.2.2 h1
  subst hai
  have HU := hide hu
  have HNC := hide hnc
  clear h hz hl0 hu hnc
  have hk0 : ((k : Int) == 0) = false := by simp; omega
  have hkp : (0 : Int) < k := by omega
  have hkr : 0 < k := by omega
  have hks : ¬ k = 0 := by omega
  have hkt : ¬ (k : Int) ≤ 0 := by omega
  obtain ⟨w0, hw0⟩ : ∃ w0 : World, Hid (w0 = w.alloc (.cells #[.slice (some ⟨b, off, none⟩) k c] 82)) := ⟨_, rfl⟩
  have B0 := hide (show Below w.heap.size w w0 by rw [hw0.out]; exact below_alloc _ _)
  have X0 := hide (show Bx w0 w.heap.size #[.slice (some ⟨b, off, none⟩) k c] 82 by rw [hw0.out]; exact Bx.new _ _ _)
  have hc0 : w0.cell? ⟨b, off, none⟩ = some (.slice (some ⟨bi, offi, none⟩) l.length ci) := (B0.out.cell (p := ⟨b, off, none⟩) hbw).trans hcell
  obtain ⟨N, hN⟩ : ∃ N : Nat, Hid (N = l.length) := ⟨_, rfl⟩
  rw [← hN.out] at hc0 hcell HMH HU HNC h1 h2
  have x0 := X0.out.one
  go_enter Try.func47, Try.ntmps47
  go_wp2_with fail
  rw [← hw0.out]
  refine (mayHave_any N w0).mono ?_
  rintro e w1 ⟨rfl, rfl⟩
  rw [HMH.out]
  clear hcell
  have hfd : ∀ (a : Option Addr) (k c : Nat) (W : World), (Instr.field 82 (.agg #[.slice a k c]) 0).run Try.prog W = .ok (.slice a k c) W := fun _ _ _ _ => by kernel_rfl
  go_wp2_with fail
  go_region_held3 (fun w' => w'.cell? ⟨w.heap.size, 0, none⟩ = some (.slice (some ⟨b, off, none⟩) k c) ∧ w'.cell? ⟨b, off, none⟩ = some (.slice (some ⟨bi, offi, none⟩) N ci))
    (first | exact ⟨x0, hc0⟩ | exact ⟨y0, y1⟩)
    (first
    | (go_at_call 95; refine (grow_any bi offi N ci l w1.drew ((HU.out.later B0.out).later (Below.refl _ _).drew) (by show bi < w1.heap.size; have := B0.out.size; omega) h1 (by omega) HNC.out).mono ?_; rintro e w2 ⟨a2, k2, cap2, rfl, hO2, hb2⟩; have y0 := (hb2.out.cell (p := ⟨w.heap.size, 0, none⟩) X0.out.lt).trans x0; have y1 := (hb2.out.cell (p := ⟨b, off, none⟩) (by show b < w1.heap.size; have := B0.out.size; omega)).trans hc0)
    | (go_at_call 97; refine (equalF_any (some ⟨b, off, none⟩) a2 k c k2 cap2 ls (Mx.levels l) w2 ((HL.out.later (B0.out.drew)).later hb2.out) hO2.out.lv.1).mono ?_; rintro e w3 ⟨r, rfl, hr, q, rfl⟩))
  all_goals
    have HB := hide (show Below w.heap.size w w2 from B0.out.drew.trans (hb2.out.mono B0.out.size))
    cases r with
    | true =>
      have HE := hide (show ls = Mx.levels l from hr.1 rfl)
      clear hr
      go_wp2_with fail
      go_ret
      exact ⟨by rw [Mx.tsame, if_pos HE.out] <;> rfl, below_drewN HB.out _⟩
    | false =>
      have HE := hide (show ¬ ls = Mx.levels l from fun e => by have := hr.2 e; simp at this)
      clear hr
      go_wp2_with fail
      go_ret
      exact ⟨by rw [Mx.tsame, if_neg HE.out] <;> rfl, below_drewN HB.out _⟩

end Go.Proofs.Ytdhmijjphgcdmaa

/-
  Whether a tree may be, as the program says it (Check), at every tree.
-/
namespace Go.Proofs.Ytdhmijjphgcdmaa
open Go.RowKit

/-- D1's error of a tree -/
def Mx.tmay (ls : List (List Nat)) : Int := match ls with
  | [] => 3
  | l :: _ => if 1 ≤ l.length ∧ l.length ≤ 32 then Mx.tsame ls l else 3

set_option maxHeartbeats 1000000 in
set_option maxRecDepth 100000 in
theorem tcheck_any (a : Option Addr) (k c : Nat) (ls : List (List Nat)) (w : World) (h : Lvls w a k ls) :
    Calls Try.prog 47 #[.agg #[.slice a k c]] w fun e w' => e = .returned (errV (Mx.tmay ls)) ∧ Below w.heap.size w w' := by
  match ls, h with
  | [], h =>
    obtain rfl : k = 0 := h.1.symm
    clear h
    go_enter Try.func47, Try.ntmps47
    go_wp2_with fail
    go_ret
    exact ⟨rfl, below_alloc _ _⟩
  | l :: r, h =>
    have hk : 1 ≤ k := by rw [← h.1]; simp
    by_cases hl : 1 ≤ l.length ∧ l.length ≤ 32
    · refine (tcheck_grow a k c (l :: r) l w h hk hl.1 hl.2 rfl).mono ?_
      rintro e w' ⟨rfl, hb⟩
      exact ⟨by rw [Mx.tmay, if_pos hl], hb⟩
    · have HT := hide (show Mx.tmay (l :: r) = 3 by rw [Mx.tmay, if_neg hl])
      have hkl : k ≤ maxLen := h.2.1
      unfold maxLen at hkl
      have HMH := hide (show Mx.mayHave l.length = false by unfold Mx.mayHave; simp; omega)
      obtain ⟨b, off, l0, ai, ni, ci, hab, hbw, hl0, hcell, hu, hnc⟩ := h.at_ 0 (by omega)
      obtain rfl : l = l0 := Option.some.inj hl0
      subst hab
      rw [Nat.add_zero] at hcell
      have hni : ni = l.length := hu.1.symm
      subst hni
      obtain ⟨N, hN⟩ : ∃ N : Nat, Hid (N = l.length) := ⟨_, rfl⟩
      have hNm : N ≤ 9223372036854775807 := by have := hu.2.1; rw [hN.out]; unfold maxLen at this; omega
      rw [← hN.out] at hcell HMH
      clear h hl0 hu hnc hl
      have hk0 : ((k : Int) == 0) = false := by simp; omega
      have hkp : (0 : Int) < k := by omega
      go_enter Try.func47, Try.ntmps47
      go_wp2_with fail
      refine (mayHave_any N _).mono ?_
      rintro e w1 ⟨rfl, rfl⟩
      rw [HMH.out]
      go_wp2_with fail
      go_ret
      exact ⟨by rw [HT.out] <;> rfl, below_alloc _ _⟩

end Go.Proofs.Ytdhmijjphgcdmaa

/-
  Where two trees differ, and how many pairs are asked: plain mathematics.
-/
namespace Go.Proofs.Ytdhmijjphgcdmaa
open Go.RowKit

namespace Mx
/-- a digest of a tree: level, place -/
def nd (ls : List (List Nat)) (L i : Nat) : Nat := (ls.getD L []).getD i 0
/-- the places below a place, of n -/
def kids (n i : Nat) : List Nat := (List.range (min (i * 4 + 4) n - i * 4)).map fun k => i * 4 + k
/-- where two trees differ below a place -/
def dplaces (la lb : List (List Nat)) : Nat → Nat → List Nat
  | 0, i => if nd la 0 i = nd lb 0 i then [] else [i]
  | L + 1, i => if nd la (L + 1) i = nd lb (L + 1) i then [] else (kids (la.getD L []).length i).flatMap (dplaces la lb L)
/-- how many pairs are asked there -/
def dasked (la lb : List (List Nat)) : Nat → Nat → Nat
  | 0, _ => 1
  | L + 1, i => if nd la (L + 1) i = nd lb (L + 1) i then 1 else 1 + ((kids (la.getD L []).length i).map (dasked la lb L)).sum
/-- below these places -/
def dnext (la lb : List (List Nat)) (L : Nat) (now : List Nat) : List Nat := now.flatMap fun i => if nd la (L + 1) i = nd lb (L + 1) i then [] else kids (la.getD L []).length i
def dplacesL (la lb : List (List Nat)) (L : Nat) (now : List Nat) : List Nat := now.flatMap (dplaces la lb L)
def daskedL (la lb : List (List Nat)) (L : Nat) (now : List Nat) : Nat := (now.map (dasked la lb L)).sum

theorem dplaces_next (la lb : List (List Nat)) (L : Nat) (now : List Nat) : dplacesL la lb L (dnext la lb L now) = dplacesL la lb (L + 1) now := by
  unfold dplacesL dnext
  rw [List.flatMap_assoc]
  congr 1
  funext i
  rw [dplaces]
  split
  · rfl
  · rfl
theorem dasked_next (la lb : List (List Nat)) (L : Nat) (now : List Nat) : daskedL la lb L (dnext la lb L now) + now.length = daskedL la lb (L + 1) now := by
  unfold daskedL dnext
  induction now with
  | nil => rfl
  | cons i now ih =>
    rw [List.flatMap_cons, List.map_append, List.sum_append, List.map_cons, List.sum_cons, List.length_cons, ← ih, dasked]
    split
    · simp
      omega
    · omega
theorem dasked_zero (la lb : List (List Nat)) (now : List Nat) : daskedL la lb 0 now = now.length := by
  unfold daskedL
  induction now with
  | nil => rfl
  | cons i now ih => rw [List.map_cons, List.sum_cons, ih, List.length_cons, dasked]; omega
theorem kids_len (n i : Nat) : (kids n i).length ≤ 4 := by unfold kids; simp; omega
theorem kids_lt (n i : Nat) : ∀ x ∈ kids n i, x < n := by
  intro x hx
  unfold kids at hx
  obtain ⟨k, hk, rfl⟩ := List.mem_map.1 hx
  have := List.mem_range.1 hk
  omega
theorem dnext_lt (la lb : List (List Nat)) (L : Nat) (now : List Nat) : ∀ x ∈ dnext la lb L now, x < (la.getD L []).length := by
  intro x hx
  obtain ⟨i, _, hi⟩ := List.mem_flatMap.1 hx
  split at hi
  · simp at hi
  · exact kids_lt _ _ x hi
theorem dnext_len (la lb : List (List Nat)) (L : Nat) (now : List Nat) : (dnext la lb L now).length ≤ 4 * now.length := by
  unfold dnext
  induction now with
  | nil => simp
  | cons i now ih =>
    rw [List.flatMap_cons, List.length_append, List.length_cons]
    have : (if nd la (L + 1) i = nd lb (L + 1) i then [] else kids (la.getD L []).length i).length ≤ 4 := by
      split
      · simp
      · exact kids_len _ _
    omega
theorem sum_le (l : List Nat) (b : Nat) (h : ∀ x ∈ l, x ≤ b) : l.sum ≤ l.length * b := by
  induction l with
  | nil => simp
  | cons x l ih =>
    rw [List.sum_cons, List.length_cons, Nat.add_mul]
    have := h x (by simp)
    have := ih (fun y hy => h y (by simp [hy]))
    omega
theorem dasked_le (la lb : List (List Nat)) (L i : Nat) : dasked la lb L i ≤ 5 ^ L := by
  induction L generalizing i with
  | zero => simp [dasked]
  | succ L ih =>
    rw [dasked]
    have h5 : 1 ≤ 5 ^ L := Nat.pow_pos (by omega)
    have h6 : 5 ^ (L + 1) = 5 * 5 ^ L := by rw [Nat.pow_succ]; omega
    split
    · omega
    · have := sum_le ((kids (la.getD L []).length i).map (dasked la lb L)) (5 ^ L) (by
        intro x hx
        obtain ⟨k, _, rfl⟩ := List.mem_map.1 hx
        exact ih k)
      rw [List.length_map] at this
      have h4 := kids_len (la.getD L []).length i
      have := Nat.mul_le_mul_right (5 ^ L) h4
      omega
theorem dasked_pos (la lb : List (List Nat)) (L i : Nat) : 1 ≤ dasked la lb L i := by
  cases L with
  | zero => simp [dasked]
  | succ L =>
    rw [dasked]
    split <;> omega
theorem dplaces_le (la lb : List (List Nat)) (L i : Nat) : (dplaces la lb L i).length ≤ 4 ^ L := by
  induction L generalizing i with
  | zero =>
    rw [dplaces]
    split <;> simp
  | succ L ih =>
    rw [dplaces]
    split
    · simp
    · rw [List.length_flatMap]
      have := sum_le ((kids (la.getD L []).length i).map fun x => (dplaces la lb L x).length) (4 ^ L) (by
        intro x hx
        obtain ⟨k, _, rfl⟩ := List.mem_map.1 hx
        exact ih k)
      rw [List.length_map] at this
      have h4 := kids_len (la.getD L []).length i
      have := Nat.mul_le_mul_right (4 ^ L) h4
      rw [Nat.pow_succ]
      omega
end Mx

/-- a digest of a tree, read -/
theorem Lvls.nd_ {w : World} {a : Option Addr} {k : Nat} {ls : List (List Nat)} (h : Lvls w a k ls) (L i : Nat) (hL : L < k) (hi : i < (ls.getD L []).length) :
    ∃ b off bi offi ni ci, ∃ x : Nat, a = some ⟨b, off, none⟩ ∧ b < w.heap.size ∧ w.cell? ⟨b, off + L, none⟩ = some (.slice (some ⟨bi, offi, none⟩) ni ci) ∧ ni = (ls.getD L []).length ∧ w.cell? ⟨bi, offi + i, none⟩ = some (.int .u64 (x : Int)) ∧ x = Mx.nd ls L i := by
  obtain ⟨b, off, l, ai, ni, ci, ha, hb, hl, hc, hu, _⟩ := h.at_ L hL
  have hg : ls.getD L [] = l := by rw [List.getD_eq_getElem?_getD, hl]; rfl
  rw [hg] at hi
  obtain ⟨bi, offi, x, hai, _, hx, _, hcx⟩ := hu.at_ i (by rw [← hu.1]; exact hi)
  subst hai
  refine ⟨b, off, bi, offi, ni, ci, x, ha, hb, hc, by rw [hg, hu.1], hcx, ?_⟩
  rw [Mx.nd, hg, List.getD_eq_getElem?_getD, hx]
  rfl

end Go.Proofs.Ytdhmijjphgcdmaa

/-
  Copies in memory of their own: slices.Clone at numbers of 64 bits.
-/
namespace Go.Proofs.Ytdhmijjphgcdmaa
open Go.RowKit

set_option maxHeartbeats 1000000 in
set_option maxRecDepth 100000 in
theorem cloneU_any (b off n c : Nat) (l : List Nat) (w : World) (hl : U64s w (some ⟨b, off, none⟩) n l) (hn0 : 1 ≤ n) (hn : n ≤ 1000000) :
    Calls Try.prog 99 #[.slice (some ⟨b, off, none⟩) n c] w fun e w' => ∃ v, e = .returned v ∧ Hid (OwnU w' w.heap.size v l) ∧ Hid (Below w.heap.size w w') := by
  have q : ∀ (w : World) (a : Option Addr) (n c n' c' : Nat), (binOp .eql 92 (.slice a n c) (.slice none n' c')).run Try.prog w = .ok (.bool a.isNone) w := fun w a n c n' c' => Lib.run_eql_slice_nil w _ _ a n c n' c' Try.underlying92
  have HL := hide hl
  clear hl
  obtain ⟨i0, hi, hz0, hz1, hz2⟩ := info_parts Try.info78
  go_enter Try.func99, Try.ntmps99
  go_wp2_with (at_builtin; refine wpList_append_own _ rfl _ _ 92 rfl w.heap.size 78 i0 _ 1 8 Try.underlying92 hi hz0 hz1 hz2 rfl (by decide) _ _ _ rfl (World.ownsRow_made w #[] 0 (Nat.le_refl _) (Nat.zero_le _) (by simp)) ⟨b, off, none⟩ n c (l.map fun x : Nat => Value.int .u64 (x : Int)) rfl ?qc1 ?qc2 ?qc3 ?qc4 ?qc5 ?qc6 ?_)
  case qc1 => rw [List.length_map, HL.out.1, Nat.mul_one]
  case qc2 =>
    intro j u hj
    obtain ⟨b', off', hb, hlt, hc⟩ := HL.out.2.2.2 hn0
    cases hb
    rw [Addr.add_lit]
    have hjl : j < l.length := by have := (List.getElem?_eq_some_iff.1 hj).1; simpa using this
    have h1 := hc j (by rw [← HL.out.1]; exact hjl)
    rw [List.getElem?_map, List.getElem?_eq_getElem hjl] at hj
    rw [List.getD_eq_getElem?_getD, List.getElem?_eq_getElem hjl] at h1
    simp at hj h1
    subst hj
    exact Lib.cell?_alloc_some _ h1
  case qc3 =>
    intro u hu
    obtain ⟨z, _, rfl⟩ := List.mem_map.1 hu
    rfl
  case qc4 => unfold maxLen; omega
  case qc5 => omega
  case qc6 => simp
  intro v' w1 hown hgrow hnil
  have HO := hide hown
  have HG := hide hgrow
  clear hown hgrow hnil
  go_wp2
  go_ret
  refine ⟨v', rfl, ?_, ?_⟩
  · have := HO.out
    unfold Hid OwnU
    rw [HL.out.1]
    simpa using this
  · exact ((Below.refl _ w).alloc (Nat.le_refl _) _).grown HG.out (by simp) (by intro k hk; simp [Value.ownBlock] at hk; omega)

end Go.Proofs.Ytdhmijjphgcdmaa

/-
  A block put into a tree, as the program does it (Put): its errors.
-/
namespace Go.Proofs.Ytdhmijjphgcdmaa
open Go.RowKit

set_option maxHeartbeats 2000000 in
set_option maxRecDepth 100000 in
theorem tput_err (a : Option Addr) (k c : Nat) (ls : List (List Nat)) (at_ : Int) (x : B8) (w : World) (h : Lvls w a k ls) (hE : ¬ Mx.tmay ls = 0) :
    Calls Try.prog 50 #[.agg #[.slice a k c], .int .i64 at_, .agg #[.int .u8 x.z0, .int .u8 x.z1, .int .u8 x.z2, .int .u8 x.z3, .int .u8 x.z4, .int .u8 x.z5, .int .u8 x.z6, .int .u8 x.z7]] w fun e w' =>
      e = .returned (.tuple #[.agg #[.slice none 0 0], errV (Mx.tmay ls)]) ∧ Below w.heap.size w w' := by
  have HL := hide h
  have HE := hide hE
  clear h hE
  obtain ⟨w0, hw0⟩ : ∃ w0 : World, Hid (w0 = ((w.alloc (.cells #[.slice a k c] 82)).alloc (.cells #[.int .u8 x.z0, .int .u8 x.z1, .int .u8 x.z2, .int .u8 x.z3, .int .u8 x.z4, .int .u8 x.z5, .int .u8 x.z6, .int .u8 x.z7] 52)).alloc (.cells #[.slice none 0 0] 82)) := ⟨_, rfl⟩
  have B0 := hide (show Below w.heap.size w w0 by rw [hw0.out]; exact ((below_alloc _ _).alloc (by simp) _).alloc (by simp; omega) _)
  have R0 := hide (show Bx w0 (w.heap.size + 2) #[.slice none 0 0] 82 by
    rw [hw0.out]
    have h := Bx.new ((w.alloc (.cells #[.slice a k c] 82)).alloc (.cells #[.int .u8 x.z0, .int .u8 x.z1, .int .u8 x.z2, .int .u8 x.z3, .int .u8 x.z4, .int .u8 x.z5, .int .u8 x.z6, .int .u8 x.z7] 52)) #[.slice none 0 0] 82
    rw [World.size_alloc, World.size_alloc] at h
    exact h)
  go_enter Try.func50, Try.ntmps50
  go_wp2_with fail
  rw [← hw0.out]
  refine (tcheck_any a k c ls w0 (HL.out.later B0.out)).mono ?_
  rintro e w1 ⟨rfl, hb1⟩
  have R1 := hide (R0.out.later hb1 R0.out.lt)
  have B1 := hide (B0.out.trans (hb1.mono B0.out.size))
  clear hb1
  obtain ⟨E, hEE⟩ : ∃ E : Int, Hid (E = Mx.tmay ls) := ⟨_, rfl⟩
  have HV := hide (show errV (Mx.tmay ls) = .iface 26 (.int .i64 E) by rw [errV_not HE.out, hEE.out])
  rw [HV.out]
  have r0 := R1.out.one
  have rz := R1.out.frozen
  have r1 := (show Bx _ _ #[.slice none 0 0] 82 from R1.out.set 0 (.slice none 0 0)).one
  go_wp2_with fail
  exact bodyPost_ret (v := .tuple #[.agg #[.slice none 0 0], .iface 26 (.int .i64 E)]) (by simp [results, Try.results50, go_sem, r1]) rfl ⟨by rw [HV.out], B1.out.setCell (p := ⟨w.heap.size + 2, 0, none⟩) (by show w.heap.size ≤ w.heap.size + 2; omega) _⟩

end Go.Proofs.Ytdhmijjphgcdmaa

/-
  A block put into a tree, as the program does it (Put): where there is such a place.
-/
namespace Go.Proofs.Ytdhmijjphgcdmaa
open Go.RowKit

set_option maxHeartbeats 4000000 in
set_option maxRecDepth 100000 in
theorem tput_ok (a : Option Addr) (k c : Nat) (l : List Nat) (j : Nat) (x : B8) (w : World) (h : Lvls w a k (Mx.levels l)) (hk : 1 ≤ k) (h1 : 1 ≤ l.length) (h2 : l.length ≤ 32) (hz : (Mx.levels l)[0]? = some l) (hm : Mx.tmay (Mx.levels l) = 0) (hx : x.ok) (hj : j < l.length) :
    Calls Try.prog 50 #[.agg #[.slice a k c], .int .i64 (j : Int), .agg #[.int .u8 x.z0, .int .u8 x.z1, .int .u8 x.z2, .int .u8 x.z3, .int .u8 x.z4, .int .u8 x.z5, .int .u8 x.z6, .int .u8 x.z7]] w fun e w' =>
      ∃ a' k' cap', e = .returned (.tuple #[.agg #[.slice a' k' cap'], .nilIface]) ∧ Hid (Lvls w' a' k' (Mx.levels (l.set j (Mx.blockD x))) ∧ k' ≤ cap' ∧ LvlsA w.heap.size w' a' k' (Mx.levels (l.set j (Mx.blockD x)))) ∧ Hid (Below w.heap.size w w') := by
  have HL := hide h
  have HM := hide hm
  have HXO := hide hx
  have hkl : k ≤ maxLen := h.2.1
  unfold maxLen at hkl
  obtain ⟨b, off, l0, ai, ni, ci, hab, hbw, hl0, hcell, hu, hnc⟩ := h.at_ 0 (by omega)
  rw [hz] at hl0
  obtain rfl : l = l0 := Option.some.inj hl0
  subst hab
  rw [Nat.add_zero] at hcell
  have hni : ni = l.length := hu.1.symm
  subst hni
  obtain ⟨bi, offi, hai, hbi, _⟩ := hu.2.2.2 h1
  subst hai
  have HU := hide hu
  obtain ⟨N, hN⟩ : ∃ N : Nat, Hid (N = l.length) := ⟨_, rfl⟩
  rw [← hN.out] at hcell HU h1 h2 hj
  clear h hz hl0 hu hnc hm hx
  have hkp : (0 : Int) < k := by omega
  have hkr : 0 < k := by omega
  have hd0 : decide ((j : Int) < 0) = false := by simp
  have hjN : (j : Int) < N := by omega
  have hdN : decide ((N : Int) ≤ j) = false := by simp; omega
  obtain ⟨w0, hw0⟩ : ∃ w0 : World, Hid (w0 = ((w.alloc (.cells #[.slice (some ⟨b, off, none⟩) k c] 82)).alloc (.cells #[.int .u8 x.z0, .int .u8 x.z1, .int .u8 x.z2, .int .u8 x.z3, .int .u8 x.z4, .int .u8 x.z5, .int .u8 x.z6, .int .u8 x.z7] 52)).alloc (.cells #[.slice none 0 0] 82)) := ⟨_, rfl⟩
  have B0 := hide (show Below w.heap.size w w0 by rw [hw0.out]; exact ((below_alloc _ _).alloc (by simp) _).alloc (by simp; omega) _)
  have T0 := hide (show Bx w0 w.heap.size #[.slice (some ⟨b, off, none⟩) k c] 82 by rw [hw0.out]; exact ((Bx.new w _ _).alloc _).alloc _)
  have X0 := hide (show Bx w0 (w.heap.size + 1) #[.int .u8 x.z0, .int .u8 x.z1, .int .u8 x.z2, .int .u8 x.z3, .int .u8 x.z4, .int .u8 x.z5, .int .u8 x.z6, .int .u8 x.z7] 52 by
    rw [hw0.out]
    have h := (Bx.new (w.alloc (.cells #[.slice (some ⟨b, off, none⟩) k c] 82)) #[.int .u8 x.z0, .int .u8 x.z1, .int .u8 x.z2, .int .u8 x.z3, .int .u8 x.z4, .int .u8 x.z5, .int .u8 x.z6, .int .u8 x.z7] 52).alloc (.cells #[.slice none 0 0] 82)
    rw [World.size_alloc] at h
    exact h)
  have R0 := hide (show Bx w0 (w.heap.size + 2) #[.slice none 0 0] 82 by
    rw [hw0.out]
    have h := Bx.new ((w.alloc (.cells #[.slice (some ⟨b, off, none⟩) k c] 82)).alloc (.cells #[.int .u8 x.z0, .int .u8 x.z1, .int .u8 x.z2, .int .u8 x.z3, .int .u8 x.z4, .int .u8 x.z5, .int .u8 x.z6, .int .u8 x.z7] 52)) #[.slice none 0 0] 82
    rw [World.size_alloc, World.size_alloc] at h
    exact h)
  go_enter Try.func50, Try.ntmps50
  go_wp2_with fail
  rw [← hw0.out]
  refine (tcheck_any (some ⟨b, off, none⟩) k c (Mx.levels l) w0 (HL.out.later B0.out)).mono ?_
  rintro e w1 ⟨rfl, hb1⟩
  rw [HM.out, errV_zero]
  have T1 := hide (T0.out.later hb1 T0.out.lt)
  have X1 := hide (X0.out.later hb1 X0.out.lt)
  have R1 := hide (R0.out.later hb1 R0.out.lt)
  have B1 := hide (B0.out.trans (hb1.mono B0.out.size))
  clear hb1
  have t1 := T1.out.one
  have hc1 : w1.cell? ⟨b, off, none⟩ = some (.slice (some ⟨bi, offi, none⟩) N ci) := (B1.out.cell (p := ⟨b, off, none⟩) hbw).trans hcell
  clear hcell
  go_wp2_with fail
  refine (cloneU_any bi offi N ci l w1 (HU.out.later B1.out) h1 (by omega)).mono ?_
  rintro e w2 ⟨v2, rfl, hO2, hb2⟩
  obtain ⟨a2, c2, hv2⟩ := hO2.out.form
  rw [← hN.out] at hv2
  subst hv2
  have HRD := hide (hO2.out.read HU.out.2.2.1)
  obtain ⟨g, go, hag, _, _⟩ := HRD.out.1.2.2.2 h1
  obtain rfl : go = 0 := by
    rcases hO2.out.2 with ⟨hv, _⟩ | ⟨g', cap', cur, hv, _⟩
    · simp only [Value.slice.injEq] at hv
      omega
    · simp only [Value.slice.injEq] at hv
      rw [hv.1] at hag
      simp only [Option.some.injEq, Addr.mk.injEq, and_true] at hag
      exact hag.2.symm
  subst hag
  have hgl := World.ownsRow.lt hO2.out g rfl
  have X2 := hide (X1.out.later hb2.out X1.out.lt)
  have R2 := hide (R1.out.later hb2.out R1.out.lt)
  have B2 := hide (B1.out.trans (hb2.out.mono B1.out.size))
  have hR1 := R1.out.lt
  clear t1 hc1
  obtain ⟨f0, f1, f2, f3, f4, f5, f6, f7⟩ := X2.out.eight
  go_wp2_with fail
  refine (ofBlock_any x HXO.out w2).mono ?_
  rintro e w3 ⟨rfl, hb3⟩
  have R3 := hide (R2.out.later hb3 R2.out.lt)
  have B3 := hide (B2.out.trans (hb3.mono B2.out.size))
  have U3 := hide (show OwnU w3 w1.heap.size (.slice (some ⟨g, 0, none⟩) N c2) l from rowKept hO2.out hb3)
  clear hb3 f0 f1 f2 f3 f4 f5 f6 f7
  obtain ⟨Z, hZ⟩ : ∃ Z : Nat, Hid (Z = Mx.blockD x) := ⟨_, rfl⟩
  rw [← hZ.out]
  obtain ⟨b5, off5, x5, hab, _, _, _, u0⟩ := (U3.out.read HU.out.2.2.1).1.at_ j hj
  simp only [Option.some.injEq, Addr.mk.injEq, and_true] at hab
  obtain ⟨rfl, rfl⟩ := hab
  rw [Nat.zero_add] at u0
  have uz : ∀ o, w3.frozen? ⟨g, o, none⟩ = false := by
    rcases U3.out.2 with ⟨hv, _⟩ | ⟨g', cap', cur, hv, _, hh, _⟩
    · cases hv
    · simp only [Value.slice.injEq, Option.some.injEq, Addr.mk.injEq, and_true] at hv
      obtain ⟨rfl, _, _⟩ := hv
      exact fun o => (show Bx w3 g cur 78 from hh).frozen o
  obtain ⟨w4, hw4⟩ : ∃ w4 : World, Hid (w4 = w3.setCell ⟨g, j, none⟩ (.int .u64 (Z : Int))) := ⟨_, rfl⟩
  have U4 := hide (show OwnU w4 w1.heap.size (.slice (some ⟨g, 0, none⟩) N c2) (l.set j Z) by rw [hw4.out]; exact (U3.out.set1 j Z).1)
  have R4 := hide (show Bx w4 (w.heap.size + 2) #[.slice none 0 0] 82 by rw [hw4.out]; exact R3.out.other _ _ (by show w.heap.size + 2 ≠ g; omega))
  have B4 := hide (show Below w.heap.size w w4 by rw [hw4.out]; exact B3.out.setCell (p := ⟨g, j, none⟩) (by show w.heap.size ≤ g; omega) _)
  have HU4 := hide (U4.out.read (by
    intro z hz'
    rcases List.mem_or_eq_of_mem_set hz' with h | h
    · exact HU.out.2.2.1 z h
    · rw [h, hZ.out]
      exact Mx.blockD_lt x))
  go_wp2_with fail
  rw [← hw4.out]
  have hg4 := (World.ownsRow.lt U4.out g rfl).2
  refine (grow_any g 0 N c2 (l.set j Z) w4 HU4.out.1 hg4 h1 (by omega) HU4.out.2).mono ?_
  rintro e w5 ⟨a5, k5, cap5, rfl, hO5, hb5⟩
  have R5 := hide (R4.out.later hb5.out R4.out.lt)
  have B5 := hide (B4.out.trans (hb5.out.mono B4.out.size))
  have r0 := R5.out.one
  have rz := R5.out.frozen
  have q5 := own_ne_bx hO5.out.choose_spec.1 R5.out (by decide)
  have hsz4 := R4.out.lt
  go_wp2_with fail
  have r1 := (show Bx _ _ #[.slice a5 k5 cap5] 82 from R5.out.set 0 (.slice a5 k5 cap5)).one
  refine bodyPost_ret (v := .tuple #[.agg #[.slice a5 k5 cap5], .nilIface]) (by simp [results, Try.results50, go_sem, r1]) rfl ⟨a5, k5, cap5, rfl, ?_, B5.out.setCell (p := ⟨w.heap.size + 2, 0, none⟩) (by show w.heap.size ≤ w.heap.size + 2; omega) _⟩
  rw [← hZ.out]
  have HF := (hO5.out.setOther ⟨w.heap.size + 2, 0, none⟩ (.slice a5 k5 cap5) q5 (by show ¬ (w.heap.size + 2 = g ∨ w4.heap.size + 3 ≤ w.heap.size + 2); omega))
  exact ⟨HF.lv.1, HF.lv.2, HF.lvA (by omega) (fun q hq => by
    rcases hq with hq | hq
    · omega
    · omega)⟩

end Go.Proofs.Ytdhmijjphgcdmaa

/-
  Where two trees differ, as the program asks it (Diff): the closure that goes down (hold).
-/
namespace Go.Proofs.Ytdhmijjphgcdmaa
open Go.RowKit

namespace Mx
/-- how many places there are below a place -/
def kidsT (n i : Nat) : Nat := min (i * 4 + 4) n - i * 4
/-- what the first of these say -/
def daskedK (la lb : List (List Nat)) (L i t : Nat) : Nat := ((List.range t).map fun k => dasked la lb L (i * 4 + k)).sum
def dplacesK (la lb : List (List Nat)) (L i t : Nat) : List Nat := (List.range t).flatMap fun k => dplaces la lb L (i * 4 + k)
theorem daskedK_succ (la lb : List (List Nat)) (L i t : Nat) : daskedK la lb L i (t + 1) = daskedK la lb L i t + dasked la lb L (i * 4 + t) := by
  unfold daskedK
  rw [List.range_succ, List.map_append, List.sum_append]
  simp
theorem dplacesK_succ (la lb : List (List Nat)) (L i t : Nat) : dplacesK la lb L i (t + 1) = dplacesK la lb L i t ++ dplaces la lb L (i * 4 + t) := by
  unfold dplacesK
  rw [List.range_succ, List.flatMap_append]
  simp
theorem daskedK_mono (la lb : List (List Nat)) (L i t T : Nat) (h : t ≤ T) : daskedK la lb L i t ≤ daskedK la lb L i T := by
  induction T with
  | zero => rw [Nat.le_zero.1 h]; exact Nat.le_refl _
  | succ T ih =>
    rcases Nat.lt_or_ge t (T + 1) with h1 | h1
    · rw [daskedK_succ]
      have := ih (by omega)
      omega
    · rw [show t = T + 1 by omega]
      exact Nat.le_refl _
theorem dplacesK_mono (la lb : List (List Nat)) (L i t T : Nat) (h : t ≤ T) : (dplacesK la lb L i t).length ≤ (dplacesK la lb L i T).length := by
  induction T with
  | zero => rw [Nat.le_zero.1 h]; exact Nat.le_refl _
  | succ T ih =>
    rcases Nat.lt_or_ge t (T + 1) with h1 | h1
    · rw [dplacesK_succ, List.length_append]
      have := ih (by omega)
      omega
    · rw [show t = T + 1 by omega]
      exact Nat.le_refl _
theorem dasked_same {la lb : List (List Nat)} {L i : Nat} (h : nd la L i = nd lb L i) : dasked la lb L i = 1 := by
  cases L with
  | zero => rfl
  | succ L => rw [dasked, if_pos h]
theorem dplaces_same {la lb : List (List Nat)} {L i : Nat} (h : nd la L i = nd lb L i) : dplaces la lb L i = [] := by
  cases L with
  | zero => rw [dplaces, if_pos h]
  | succ L => rw [dplaces, if_pos h]
theorem dasked_unlike {la lb : List (List Nat)} {L i n : Nat} (h : ¬ nd la (L + 1) i = nd lb (L + 1) i) (hn : (la.getD L []).length = n) : dasked la lb (L + 1) i = 1 + daskedK la lb L i (kidsT n i) := by
  rw [dasked, if_neg h, kids, List.map_map, hn]
  rfl
theorem dplaces_unlike {la lb : List (List Nat)} {L i n : Nat} (h : ¬ nd la (L + 1) i = nd lb (L + 1) i) (hn : (la.getD L []).length = n) : dplaces la lb (L + 1) i = dplacesK la lb L i (kidsT n i) := by
  rw [dplaces, if_neg h, kids, List.flatMap_map, hn]
  rfl
theorem dplaces_zero {la lb : List (List Nat)} {i : Nat} (h : ¬ nd la 0 i = nd lb 0 i) : dplaces la lb 0 i = [i] := by rw [dplaces, if_neg h]
end Mx

/-- where the closure stands: its boxes; how many were asked; which places differ -/
def HI (w0 : World) (gh : Nat) (va vb : Value) (A : Nat) (P : List Nat) (w : World) : Prop :=
  ∃ vP, Bx w w0.heap.size #[va] 82 ∧ Bx w (w0.heap.size + 1) #[vb] 82 ∧ Bx w (w0.heap.size + 2) #[vP] 22 ∧ Bx w (w0.heap.size + 3) #[.int .i64 (A : Int)] 3 ∧
    Bx w gh #[.func (.func 101) #[] #[.pointer (some ⟨w0.heap.size + 3, 0, none⟩), .pointer (some ⟨w0.heap.size, 0, none⟩), .pointer (some ⟨w0.heap.size + 1, 0, none⟩), .pointer (some ⟨w0.heap.size + 2, 0, none⟩), .pointer (some ⟨gh, 0, none⟩)]] 141 ∧
    OwnI w (gh + 1) vP (P.map fun x : Nat => (x : Int)) ∧ Below w0.heap.size w0 w ∧ w0.heap.size + 4 ≤ gh

theorem HI.drewN {w0 w : World} {gh : Nat} {va vb : Value} {A : Nat} {P : List Nat} (h : HI w0 gh va vb A P w) (q : Nat) : HI w0 gh va vb A P (w.drewN q) := by
  obtain ⟨vP, h1, h2, h3, h4, h5, h6, h7, h8⟩ := h
  have hb := below_drewN (Below.refl w.heap.size w) q
  exact ⟨vP, h1.later hb h1.lt, h2.later hb h2.lt, h3.later hb h3.lt, h4.later hb h4.lt, h5.later hb h5.lt, rowKept h6 hb, below_drewN h7 q, h8⟩
/-- one more was asked -/
theorem HI.ask {w0 w : World} {gh : Nat} {va vb : Value} {A : Nat} {P : List Nat} (h : HI w0 gh va vb A P w) : HI w0 gh va vb (A + 1) P (w.setCell ⟨w0.heap.size + 3, 0, none⟩ (.int .i64 ((A : Int) + 1))) := by
  obtain ⟨vP, h1, h2, h3, h4, h5, h6, h7, h8⟩ := h
  refine ⟨vP, h1.other _ _ (by show _ ≠ w0.heap.size + 3; omega), h2.other _ _ (by show _ ≠ w0.heap.size + 3; omega), h3.other _ _ (by show _ ≠ w0.heap.size + 3; omega), ?_, h5.other _ _ (by show _ ≠ w0.heap.size + 3; omega), ownsRow_other h6 _ _ (fun e => ?_), h7.setCell (p := ⟨w0.heap.size + 3, 0, none⟩) (by show _ ≤ w0.heap.size + 3; omega) _, h8⟩
  · exact h4.set 0 _
  · have := (World.ownsRow.lt h6 _ e).1
    change gh + 1 ≤ w0.heap.size + 3 at this
    omega

/-- a place more -/
theorem HI.put {w0 w w2 : World} {gh : Nat} {va vb v' : Value} {A : Nat} {P P' : List Nat} (h : HI w0 gh va vb A P w) (hb : Below (gh + 1) w w2) (ho : OwnI w2 (gh + 1) v' (P'.map fun x : Nat => (x : Int))) : HI w0 gh va vb A P' (w2.setCell ⟨w0.heap.size + 2, 0, none⟩ v') := by
  obtain ⟨vP, h1, h2, h3, h4, h5, h6, h7, h8⟩ := h
  refine ⟨v', (h1.later hb (by omega)).other _ _ (by show _ ≠ w0.heap.size + 2; omega), (h2.later hb (by omega)).other _ _ (by show _ ≠ w0.heap.size + 2; omega), (h3.later hb (by omega)).set 0 _, (h4.later hb (by omega)).other _ _ (by show _ ≠ w0.heap.size + 2; omega), (h5.later hb (by omega)).other _ _ (by show _ ≠ w0.heap.size + 2; omega), ownsRow_other ho _ _ (fun e => ?_), (h7.trans (hb.mono (by omega))).setCell (p := ⟨w0.heap.size + 2, 0, none⟩) (by show _ ≤ w0.heap.size + 2; omega) _, h8⟩
  have := (World.ownsRow.lt ho _ e).1
  change gh + 1 ≤ w0.heap.size + 2 at this
  omega

set_option maxHeartbeats 4000000 in
set_option maxRecDepth 100000 in
theorem hold_same (w0 : World) (gh : Nat) (aa ab : Option Addr) (ka ca kb cb : Nat) (la lb : List (List Nat)) (hla : Lvls w0 aa ka la) (hlb : Lvls w0 ab kb lb) (hk : ka = kb) (_hk2 : ka ≤ 1000) (hlen : ∀ L, (la.getD L []).length = (lb.getD L []).length) (hsm : ∀ L, (la.getD L []).length ≤ 1000)
    (L i A : Nat) (P : List Nat) (w : World) (hL : L < ka) (hi : i < (la.getD L []).length) (h : HI w0 gh (.slice aa ka ca) (.slice ab kb cb) A P w) (hA : A ≤ 1000000) (hE : Mx.nd la L i = Mx.nd lb L i) :
    Calls Try.prog 101 #[.int .i64 (L : Int), .int .i64 (i : Int), .pointer (some ⟨w0.heap.size + 3, 0, none⟩), .pointer (some ⟨w0.heap.size, 0, none⟩), .pointer (some ⟨w0.heap.size + 1, 0, none⟩), .pointer (some ⟨w0.heap.size + 2, 0, none⟩), .pointer (some ⟨gh, 0, none⟩)] w fun e w' =>
      e = .returned (.tuple #[]) ∧ HI w0 gh (.slice aa ka ca) (.slice ab kb cb) (A + 1) P w' := by
  have HIW := hide h
  obtain ⟨vP, h1, h2, h3, h4, h5, h6, h7, h8⟩ := h
  obtain ⟨w1, hw1⟩ : ∃ w1 : World, Hid (w1 = w.setCell ⟨w0.heap.size + 3, 0, none⟩ (.int .i64 ((A : Int) + 1))) := ⟨_, rfl⟩
  have H1 := hide (show HI w0 gh (.slice aa ka ca) (.slice ab kb cb) (A + 1) P w1 by rw [hw1.out]; exact HIW.out.ask)
  have q0 := h4.one
  have qz := h4.frozen
  have B1 := hide (show Below w0.heap.size w0 w1 by obtain ⟨_, _, _, _, _, _, _, h, _⟩ := H1.out; exact h)
  have x1 : w1.cell? ⟨w0.heap.size, 0, none⟩ = some (.slice aa ka ca) := by obtain ⟨_, h, _⟩ := H1.out; exact h.one
  have y1 : w1.cell? ⟨w0.heap.size + 1, 0, none⟩ = some (.slice ab kb cb) := by obtain ⟨_, _, h, _⟩ := H1.out; exact h.one
  obtain ⟨b, off, bi, offi, ni, ci, x, hab, _, c1, hni, c2, hx⟩ := (hla.later B1.out).nd_ L i hL hi
  obtain ⟨b', off', bj, offj, nj, cj, y, hab', _, d1, hnj, d2, hy⟩ := (hlb.later B1.out).nd_ L i (by omega) (by rw [← hlen L]; exact hi)
  subst hab hab'
  have HX := hide hx
  have HY := hide hy
  have hin : (i : Int) < ni := by omega
  have hinj : (i : Int) < nj := by have := hlen L; omega
  have hni2 : (ni : Int) ≤ 1000 := by have := hsm L; omega
  have hnj2 : (nj : Int) ≤ 1000 := by have := hsm L; have := hlen L; omega
  subst hk
  have hLk : (L : Int) < ka := by omega
  obtain rfl : x = y := by rw [hx, hy, hE]
  clear hla hlb hlen hsm hx hy h1 h2 h3 h4 h5 h6 h7 hE hni hnj hi hL
  go_enter Try.func101, Try.ntmps101
  go_wp2_with fail
  rw [← hw1.out]
  go_quiet (fail)
  go_wp2_with fail
  refine bodyPost_ret (results_none rfl _ _ _) rfl ?_
  exact ⟨rfl, H1.out.drewN _⟩

set_option maxHeartbeats 4000000 in
set_option maxRecDepth 100000 in
theorem hold_leaf (w0 : World) (gh : Nat) (aa ab : Option Addr) (ka ca kb cb : Nat) (la lb : List (List Nat)) (hla : Lvls w0 aa ka la) (hlb : Lvls w0 ab kb lb) (hk : ka = kb) (_hk2 : ka ≤ 1000) (hlen : ∀ L, (la.getD L []).length = (lb.getD L []).length) (hsm : ∀ L, (la.getD L []).length ≤ 1000)
    (i A : Nat) (P : List Nat) (w : World) (hL : 0 < ka) (hi : i < (la.getD 0 []).length) (h : HI w0 gh (.slice aa ka ca) (.slice ab kb cb) A P w) (hA : A ≤ 1000000) (hP : P.length ≤ 1000000) (hE : ¬ Mx.nd la 0 i = Mx.nd lb 0 i) :
    Calls Try.prog 101 #[.int .i64 (0 : Int), .int .i64 (i : Int), .pointer (some ⟨w0.heap.size + 3, 0, none⟩), .pointer (some ⟨w0.heap.size, 0, none⟩), .pointer (some ⟨w0.heap.size + 1, 0, none⟩), .pointer (some ⟨w0.heap.size + 2, 0, none⟩), .pointer (some ⟨gh, 0, none⟩)] w fun e w' =>
      e = .returned (.tuple #[]) ∧ HI w0 gh (.slice aa ka ca) (.slice ab kb cb) (A + 1) (P ++ [i]) w' := by
  have HIW := hide h
  obtain ⟨vP, h1, h2, h3, h4, h5, h6, h7, h8⟩ := h
  obtain ⟨w1, hw1⟩ : ∃ w1 : World, Hid (w1 = w.setCell ⟨w0.heap.size + 3, 0, none⟩ (.int .i64 ((A : Int) + 1))) := ⟨_, rfl⟩
  have H1 := hide (show HI w0 gh (.slice aa ka ca) (.slice ab kb cb) (A + 1) P w1 by rw [hw1.out]; exact HIW.out.ask)
  have q0 := h4.one
  have qz := h4.frozen
  have B1 := hide (show Below w0.heap.size w0 w1 by obtain ⟨_, _, _, _, _, _, _, h, _⟩ := H1.out; exact h)
  have x1 : w1.cell? ⟨w0.heap.size, 0, none⟩ = some (.slice aa ka ca) := by obtain ⟨_, h, _⟩ := H1.out; exact h.one
  have y1 : w1.cell? ⟨w0.heap.size + 1, 0, none⟩ = some (.slice ab kb cb) := by obtain ⟨_, _, h, _⟩ := H1.out; exact h.one
  obtain ⟨b, off, bi, offi, ni, ci, x, hab, _, c1, hni, c2, hx⟩ := (hla.later B1.out).nd_ 0 i hL hi
  obtain ⟨b', off', bj, offj, nj, cj, y, hab', _, d1, hnj, d2, hy⟩ := (hlb.later B1.out).nd_ 0 i (by omega) (by rw [← hlen 0]; exact hi)
  subst hab hab'
  have HX := hide hx
  have HY := hide hy
  have hin : (i : Int) < ni := by omega
  have hinj : (i : Int) < nj := by have := hlen 0; omega
  have hni2 : (ni : Int) ≤ 1000 := by have := hsm 0; omega
  have hnj2 : (nj : Int) ≤ 1000 := by have := hsm 0; have := hlen 0; omega
  subst hk
  have hLk : (0 : Int) < ka := by omega
  have hne : ((x : Int) == (y : Int)) = false := by
    have : ¬ x = y := by rw [hx, hy]; exact hE
    simp
    omega
  rw [Nat.add_zero] at c1 d1
  have p1 : ∃ vP, Bx w1 (w0.heap.size + 2) #[vP] 22 ∧ OwnI w1 (gh + 1) vP (P.map fun x : Nat => (x : Int)) := by obtain ⟨vP, _, _, h, _, _, ho, _⟩ := H1.out; exact ⟨vP, h, ho⟩
  clear vP hla hlb hlen hsm hx hy h1 h2 h3 h4 h5 h6 h7 hE hni hnj hi hL
  obtain ⟨vP, pb, ho1⟩ := p1
  have HO1 := hide ho1
  have PB := hide pb
  have p1 := pb.one
  clear pb
  obtain ⟨N, hN⟩ : ∃ N : Nat, Hid (N = P.length) := ⟨_, rfl⟩
  have hgh : gh + 1 ≤ w1.heap.size := by obtain ⟨_, _, _, _, _, h, _⟩ := H1.out; exact h.lt
  have HP := hide hP
  clear ho1 hP
  go_enter Try.func101, Try.ntmps101
  go_wp2_with fail
  rw [← hw1.out]
  go_quiet (fail)
  go_wp2_with (at_builtin; refine wpList_append_int rfl _ _ rfl (gh + 1) (P.map fun x : Nat => (x : Int)) ?o1 (i : Int) ?o2 ?o3 ?o4 ?_)
  case o1 => exact rowKept HO1.out (below_drewN (Below.refl _ _) _)
  case o2 => rfl
  case o3 => rw [List.length_map]; exact HP.out
  case o4 => exact hgh
  intro ad c3 w2 hown2 hbel2 hge
  rw [← hN.out]
  rw [← hN.out] at hown2
  have O2 := hide (show OwnI w2 (gh + 1) (.slice (some ad) (N + 1) c3) ((P ++ [i]).map fun x : Nat => (x : Int)) by rw [List.map_append]; exact hown2)
  have BE := hide hbel2
  have PB2 := hide (PB.out.later (show Below (gh + 1) w1 w2 from ⟨hbel2.os, hbel2.tape, hbel2.output, hbel2.size, hbel2.block⟩) (by omega))
  have pz := PB2.out.frozen
  have p2 := PB2.out.one
  clear hown2 hbel2 hge p1 c1 c2 d1 d2 x1 y1 q0 qz
  go_wp2_with fail
  refine bodyPost_ret (results_none rfl _ _ _) rfl ?_
  exact ⟨rfl, (H1.out.drewN _).put BE.out O2.out⟩

set_option maxHeartbeats 4000000 in
set_option maxRecDepth 100000 in
theorem hold_down (w0 : World) (gh : Nat) (aa ab : Option Addr) (ka ca kb cb : Nat) (la lb : List (List Nat)) (hla : Lvls w0 aa ka la) (hlb : Lvls w0 ab kb lb) (hk : ka = kb) (_hk2 : ka ≤ 1000) (hlen : ∀ L, (la.getD L []).length = (lb.getD L []).length) (hsm : ∀ L, (la.getD L []).length ≤ 1000)
    (L1 i A : Nat) (P : List Nat) (w : World) (L : Nat) (hL1 : L1 = L + 1) (hL : L1 < ka) (hi : i < (la.getD L1 []).length) (h : HI w0 gh (.slice aa ka ca) (.slice ab kb cb) A P w) (hA : A + Mx.dasked la lb L1 i ≤ 1000000) (hP : P.length + (Mx.dplaces la lb L1 i).length ≤ 1000000) (hE : ¬ Mx.nd la L1 i = Mx.nd lb L1 i)
    (ih : (∀ (i A : Nat) (P : List Nat) (w : World), i < (la.getD L []).length → HI w0 gh (.slice aa ka ca) (.slice ab kb cb) A P w → A + Mx.dasked la lb L i ≤ 1000000 → P.length + (Mx.dplaces la lb L i).length ≤ 1000000 → Calls Try.prog 101 #[.int .i64 (L : Int), .int .i64 (i : Int), .pointer (some ⟨w0.heap.size + 3, 0, none⟩), .pointer (some ⟨w0.heap.size, 0, none⟩), .pointer (some ⟨w0.heap.size + 1, 0, none⟩), .pointer (some ⟨w0.heap.size + 2, 0, none⟩), .pointer (some ⟨gh, 0, none⟩)] w fun e w' => e = .returned (.tuple #[]) ∧ HI w0 gh (.slice aa ka ca) (.slice ab kb cb) (A + Mx.dasked la lb L i) (P ++ Mx.dplaces la lb L i) w')) :
    Calls Try.prog 101 #[.int .i64 (L1 : Int), .int .i64 (i : Int), .pointer (some ⟨w0.heap.size + 3, 0, none⟩), .pointer (some ⟨w0.heap.size, 0, none⟩), .pointer (some ⟨w0.heap.size + 1, 0, none⟩), .pointer (some ⟨w0.heap.size + 2, 0, none⟩), .pointer (some ⟨gh, 0, none⟩)] w fun e w' =>
      e = .returned (.tuple #[]) ∧ HI w0 gh (.slice aa ka ca) (.slice ab kb cb) (A + Mx.dasked la lb L1 i) (P ++ Mx.dplaces la lb L1 i) w' := by
  have IH := hide ih
  clear ih
  have HIW := hide h
  obtain ⟨vP, h1, h2, h3, h4, h5, h6, h7, h8⟩ := h
  obtain ⟨w1, hw1⟩ : ∃ w1 : World, Hid (w1 = w.setCell ⟨w0.heap.size + 3, 0, none⟩ (.int .i64 ((A : Int) + 1))) := ⟨_, rfl⟩
  have H1 := hide (show HI w0 gh (.slice aa ka ca) (.slice ab kb cb) (A + 1) P w1 by rw [hw1.out]; exact HIW.out.ask)
  have q0 := h4.one
  have qz := h4.frozen
  have B1 := hide (show Below w0.heap.size w0 w1 by obtain ⟨_, _, _, _, _, _, _, h, _⟩ := H1.out; exact h)
  have x1 : w1.cell? ⟨w0.heap.size, 0, none⟩ = some (.slice aa ka ca) := by obtain ⟨_, h, _⟩ := H1.out; exact h.one
  have y1 : w1.cell? ⟨w0.heap.size + 1, 0, none⟩ = some (.slice ab kb cb) := by obtain ⟨_, _, h, _⟩ := H1.out; exact h.one
  obtain ⟨b, off, bi, offi, ni, ci, x, hab, _, c1, hni, c2, hx⟩ := (hla.later B1.out).nd_ L1 i hL hi
  obtain ⟨b', off', bj, offj, nj, cj, y, hab', _, d1, hnj, d2, hy⟩ := (hlb.later B1.out).nd_ L1 i (by omega) (by rw [← hlen L1]; exact hi)
  subst hab hab'
  have HX := hide hx
  have HY := hide hy
  have hin : (i : Int) < ni := by omega
  have hinj : (i : Int) < nj := by have := hlen L1; omega
  have hni2 : (ni : Int) ≤ 1000 := by have := hsm L1; omega
  have hnj2 : (nj : Int) ≤ 1000 := by have := hsm L1; have := hlen L1; omega
  subst hk
  have hLk : (L1 : Int) < ka := by omega
  have hne : ((x : Int) == (y : Int)) = false := by
    have : ¬ x = y := by rw [hx, hy]; exact hE
    simp
    omega
  have HLA := hide hla
  have hLe : (L1 : Int) - 1 = (L : Int) := by omega
  have hL0 : ((L1 : Int) == 0) = false := by simp; omega
  obtain ⟨n, hn⟩ : ∃ n : Nat, Hid (n = (la.getD L []).length) := ⟨_, rfl⟩
  have hn2 : (n : Int) ≤ 1000 := by have := hsm L; have := hn.out; omega
  obtain ⟨I, hI⟩ : ∃ I : Nat, Hid (I = i * 4) := ⟨_, rfl⟩
  have hIe : (i : Int) * 4 = (I : Int) := by have := hI.out; omega
  have hI2 : (I : Int) ≤ 4000 := by have := hI.out; omega
  obtain ⟨T, hT⟩ : ∃ T : Nat, Hid (T = Mx.kidsT n i) := ⟨_, rfl⟩
  have HAK := hide (show Mx.dasked la lb L1 i = 1 + Mx.daskedK la lb L i T by rw [hT.out, hL1]; exact Mx.dasked_unlike (by rw [← hL1]; exact hE) hn.out.symm)
  have HPK := hide (show Mx.dplaces la lb L1 i = Mx.dplacesK la lb L i T by rw [hT.out, hL1]; exact Mx.dplaces_unlike (by rw [← hL1]; exact hE) hn.out.symm)
  have HAB := hide (show A + (1 + Mx.daskedK la lb L i T) ≤ 1000000 by rw [← HAK.out]; exact hA)
  have HPB := hide (show P.length + (Mx.dplacesK la lb L i T).length ≤ 1000000 by rw [← HPK.out]; exact hP)
  have hA1 : A ≤ 1000000 := by omega
  rw [HAK.out, HPK.out]
  have hTI : ∀ t : Nat, t < T ↔ I + t < I + 4 ∧ I + t < n := by
    intro t
    have h1 := hT.out
    have h2 := hI.out
    unfold Mx.kidsT at h1
    omega
  have HTI := hide hTI
  have HL1 := hide hL1
  have HLk := hide (show L < ka by omega)
  clear hla hlb hlen hsm hx hy h1 h2 h3 h4 h5 h6 h7 hE hni hnj hi hL hA hP hTI hL1 vP
  go_enter Try.func101, Try.ntmps101
  go_wp2_with fail
  rw [← hw1.out]
  go_quiet (fail)
  go_wp2_with fail
  clear x1 y1 c1 c2 d1 d2 q0 qz
  go_loopw [10] (fun bl wr => ∃ (t K : Nat), bl = .int .i64 (K : Int) ∧ Hid (K = I + t) ∧ (K : Int) ≤ (I : Int) + 4 ∧ Hid (t ≤ T) ∧ Hid (HI w0 gh (.slice (some ⟨b, off, none⟩) ka ca) (.slice (some ⟨b', off', none⟩) ka cb) (A + (1 + Mx.daskedK la lb L i t)) (P ++ Mx.dplacesK la lb L i t) wr)) (fun bl _ => I + 4 - (intOf bl).toNat)
  case atStart => exact ⟨0, I, rfl, rfl, by omega, Nat.zero_le _, by unfold Hid; simpa [Mx.daskedK, Mx.dplacesK] using H1.out.drewN _⟩
  case round =>
    obtain ⟨t, K, rfl, hK, hK4, ht, hH⟩ := hrel
    have BW := hide (show Below w0.heap.size w0 wr by obtain ⟨_, _, _, _, _, _, _, h, _⟩ := hH.out; exact h)
    have x2 : wr.cell? ⟨w0.heap.size, 0, none⟩ = some (.slice (some ⟨b, off, none⟩) ka ca) := by obtain ⟨_, h, _⟩ := hH.out; exact h.one
    obtain ⟨b3, off3, l3, a3, n3, c3, hab3, _, hl3, e3, hu3, _⟩ := (HLA.out.later BW.out).at_ L HLk.out
    cases hab3
    obtain rfl : n3 = n := by rw [← hu3.1, hn.out, List.getD_eq_getElem?_getD, hl3]; rfl
    clear hl3 hu3
    by_cases hlt : t < T
    · have hK5 : (K : Int) < (I : Int) + 4 := by have := (HTI.out t).1 hlt; have := hK.out; omega
      have hK6 : (K : Int) < n3 := by have := (HTI.out t).1 hlt; have := hK.out; omega
      have g2 : wr.cell? ⟨gh, 0, none⟩ = some (.func (.func 101) #[] #[.pointer (some ⟨w0.heap.size + 3, 0, none⟩), .pointer (some ⟨w0.heap.size, 0, none⟩), .pointer (some ⟨w0.heap.size + 1, 0, none⟩), .pointer (some ⟨w0.heap.size + 2, 0, none⟩), .pointer (some ⟨gh, 0, none⟩)]) := by obtain ⟨_, _, _, _, _, h, _⟩ := hH.out; exact h.one
      have HT := hide hlt
      clear hlt
      go_wp2_with fail
      all_goals
        refine (IH.out K (A + (1 + Mx.daskedK la lb L i t)) (P ++ Mx.dplacesK la lb L i t) wr (by rw [← hn.out]; omega) hH.out ?b1 ?b2).mono ?_
        case b1 =>
          have h1 := Mx.daskedK_mono la lb L i (t + 1) T HT.out
          rw [Mx.daskedK_succ, ← hI.out, ← hK.out] at h1
          have := HAB.out
          omega
        case b2 =>
          have h1 := Mx.dplacesK_mono la lb L i (t + 1) T HT.out
          rw [Mx.dplacesK_succ, ← hI.out, ← hK.out, List.length_append] at h1
          rw [List.length_append]
          have := HPB.out
          omega
        rintro e w2 ⟨rfl, hH2⟩
        have H2 := hide (show HI w0 gh (.slice (some ⟨b, off, none⟩) ka ca) (.slice (some ⟨b', off', none⟩) ka cb) (A + (1 + Mx.daskedK la lb L i (t + 1))) (P ++ Mx.dplacesK la lb L i (t + 1)) w2 by
          rw [Mx.daskedK_succ, Mx.dplacesK_succ, ← hI.out, ← hK.out, ← List.append_assoc, ← Nat.add_assoc 1, ← Nat.add_assoc A]
          exact hH2)
        clear hH2 x2 e3 g2
        go_wp2_with fail
        go_roundw
        case rel => exact ⟨t + 1, K + 1, by go_num, by unfold Hid; have := hK.out; omega, by omega, HT, H2⟩
        case measure => simp [intOf]; omega
    · have HE := hide (show t = T by have := ht.out; omega)
      have hnot : ¬ ((K : Int) < (I : Int) + 4 ∧ (K : Int) < n3) := by
        intro hc
        have := (HTI.out t).2 (by have := hK.out; omega)
        omega
      have H2 := hide (show HI w0 gh (.slice (some ⟨b, off, none⟩) ka ca) (.slice (some ⟨b', off', none⟩) ka cb) (A + (1 + Mx.daskedK la lb L i T)) (P ++ Mx.dplacesK la lb L i T) wr by rw [← HE.out]; exact hH.out)
      clear hlt
      by_cases h5 : (K : Int) < (I : Int) + 4
      · have h6 : ¬ (K : Int) < n3 := fun h => hnot ⟨h5, h⟩
        clear hnot
        go_wp2_with fail
        all_goals
          go_end0
          exact ⟨rfl, H2.out⟩
      · clear hnot
        go_wp2_with fail
        all_goals
          go_end0
          exact ⟨rfl, H2.out⟩

theorem hold_any (w0 : World) (gh : Nat) (aa ab : Option Addr) (ka ca kb cb : Nat) (la lb : List (List Nat)) (hla : Lvls w0 aa ka la) (hlb : Lvls w0 ab kb lb) (hk : ka = kb) (hk2 : ka ≤ 1000) (hlen : ∀ L, (la.getD L []).length = (lb.getD L []).length) (hsm : ∀ L, (la.getD L []).length ≤ 1000) :
    ∀ (L i A : Nat) (P : List Nat) (w : World), L < ka → i < (la.getD L []).length → HI w0 gh (.slice aa ka ca) (.slice ab kb cb) A P w → A + Mx.dasked la lb L i ≤ 1000000 → P.length + (Mx.dplaces la lb L i).length ≤ 1000000 →
    Calls Try.prog 101 #[.int .i64 (L : Int), .int .i64 (i : Int), .pointer (some ⟨w0.heap.size + 3, 0, none⟩), .pointer (some ⟨w0.heap.size, 0, none⟩), .pointer (some ⟨w0.heap.size + 1, 0, none⟩), .pointer (some ⟨w0.heap.size + 2, 0, none⟩), .pointer (some ⟨gh, 0, none⟩)] w fun e w' =>
      e = .returned (.tuple #[]) ∧ HI w0 gh (.slice aa ka ca) (.slice ab kb cb) (A + Mx.dasked la lb L i) (P ++ Mx.dplaces la lb L i) w' := by
  intro L
  induction L with
  | zero =>
    intro i A P w hL hi h hA hP
    by_cases hE : Mx.nd la 0 i = Mx.nd lb 0 i
    · rw [Mx.dasked_same hE, Mx.dplaces_same hE, List.append_nil]
      exact hold_same w0 gh aa ab ka ca kb cb la lb hla hlb hk hk2 hlen hsm 0 i A P w hL hi h (by omega) hE
    · rw [Mx.dplaces_zero hE]
      exact hold_leaf w0 gh aa ab ka ca kb cb la lb hla hlb hk hk2 hlen hsm i A P w hL hi h (by omega) (by omega) hE
  | succ L ih =>
    intro i A P w hL hi h hA hP
    by_cases hE : Mx.nd la (L + 1) i = Mx.nd lb (L + 1) i
    · rw [Mx.dasked_same hE, Mx.dplaces_same hE, List.append_nil]
      exact hold_same w0 gh aa ab ka ca kb cb la lb hla hlb hk hk2 hlen hsm (L + 1) i A P w hL hi h (by omega) hE
    · exact hold_down w0 gh aa ab ka ca kb cb la lb hla hlb hk hk2 hlen hsm (L + 1) i A P w L rfl hL hi h hA hP hE (fun i A P w hi h hA hP => ih i A P w (by omega) hi h hA hP)

end Go.Proofs.Ytdhmijjphgcdmaa

/-
  Whether a tree may be, as the document's answer says it (TreeMay).
-/
namespace Go.Proofs.Ytdhmijjphgcdmaa
open Go.RowKit

namespace Mx
theorem growF_head (f : Nat) (l : List Nat) : ∃ r, growF f l = l :: r := by
  cases f with
  | zero => exact ⟨[], rfl⟩
  | succ f =>
    rw [growF]
    split
    · exact ⟨[], rfl⟩
    · exact ⟨_, rfl⟩
/-- the first levels are those that come of the first one; here is the last of these -/
def tgo (ls : List (List Nat)) (l cur : List Nat) (i : Nat) : Prop := ∃ (f : Nat) (pre : List (List Nat)), cur.length ≤ f + 1 ∧ pre ++ growF f cur = levels l ∧ pre.length = i ∧ ls.take (i + 1) = pre ++ [cur]
theorem tgo_start {ls : List (List Nat)} {l : List Nat} (h : ls[0]? = some l) : tgo ls l l 0 := by
  refine ⟨l.length, [], by omega, rfl, rfl, ?_⟩
  cases ls with
  | nil => simp at h
  | cons x r =>
    simp at h
    subst h
    rfl
theorem tgo_end {ls : List (List Nat)} {l cur : List Nat} {i : Nat} (h : tgo ls l cur i) (hc : cur.length ≤ 1) : tsame ls l = if i + 1 = ls.length then 0 else 3 := by
  obtain ⟨f, pre, h1, h2, h3, h4⟩ := h
  rw [growF_one f cur hc, ← h4] at h2
  have hl := congrArg List.length h4
  rw [List.length_take, List.length_append, List.length_singleton] at hl
  unfold tsame
  by_cases he : i + 1 = ls.length
  · rw [if_pos he, if_pos]
    rw [← h2, List.take_of_length_le (by omega)]
  · rw [if_neg he, if_neg]
    intro e
    rw [← h2] at e
    have := congrArg List.length e
    rw [List.length_take] at this
    omega
theorem tgo_more {ls : List (List Nat)} {l cur : List Nat} {i : Nat} (h : tgo ls l cur i) (hc : ¬ cur.length ≤ 1) : ∃ (f : Nat) (pre r : List (List Nat)), (overL cur).length ≤ f + 1 ∧ pre ++ [cur] ++ growF f (overL cur) = levels l ∧ pre.length = i ∧ ls.take (i + 1) = pre ++ [cur] ∧ growF f (overL cur) = overL cur :: r := by
  obtain ⟨f, pre, h1, h2, h3, h4⟩ := h
  cases f with
  | zero => omega
  | succ f =>
    rw [growF_more f cur hc] at h2
    obtain ⟨r, hr⟩ := growF_head f (overL cur)
    refine ⟨f, pre, r, ?_, by rw [← h2, List.append_assoc]; rfl, h3, h4, hr⟩
    rw [overL_len]
    omega
theorem tgo_out {ls : List (List Nat)} {l cur : List Nat} {i : Nat} (h : tgo ls l cur i) (hc : ¬ cur.length ≤ 1) (hi : ls.length ≤ i + 1) : tsame ls l = 3 := by
  obtain ⟨f, pre, r, h1, h2, h3, h4, h5⟩ := tgo_more h hc
  unfold tsame
  rw [if_neg]
  intro e
  rw [← e, h5] at h2
  have := congrArg List.length h2
  simp at this
  omega
theorem tgo_unlike {ls : List (List Nat)} {l cur x : List Nat} {i : Nat} (h : tgo ls l cur i) (hc : ¬ cur.length ≤ 1) (hx : ls[i + 1]? = some x) (hne : ¬ overL cur = x) : tsame ls l = 3 := by
  obtain ⟨f, pre, r, h1, h2, h3, h4, h5⟩ := tgo_more h hc
  unfold tsame
  rw [if_neg]
  intro e
  rw [e, ← h2, h5, List.getElem?_append_right (by simp; omega)] at hx
  simp [h3] at hx
  exact hne hx
theorem tgo_next {ls : List (List Nat)} {l cur x : List Nat} {i : Nat} (h : tgo ls l cur i) (hc : ¬ cur.length ≤ 1) (hx : ls[i + 1]? = some x) (he : overL cur = x) : tgo ls l (overL cur) (i + 1) := by
  obtain ⟨f, pre, r, h1, h2, h3, h4, h5⟩ := tgo_more h hc
  refine ⟨f, pre ++ [cur], h1, h2, by simp [h3], ?_⟩
  have hi : i + 1 < ls.length := (List.getElem?_eq_some_iff.1 hx).1
  rw [List.take_succ_eq_append_getElem hi, h4]
  rw [List.getElem?_eq_getElem hi] at hx
  rw [Option.some.inj hx, he]
theorem growF_len (f : Nat) (l l' : List Nat) (h : l.length = l'.length) : (growF f l).length = (growF f l').length := by
  induction f generalizing l l' with
  | zero => rfl
  | succ f ih =>
    rw [growF, growF, h]
    split
    · rfl
    · rw [List.length_cons, List.length_cons, ih (overL l) (overL l') (by rw [overL_len, overL_len, h])]
theorem levels_len (l l' : List Nat) (h : l.length = l'.length) : (levels l).length = (levels l').length := by
  unfold levels
  rw [h]
  exact growF_len _ l l' h
theorem tmay_levels (l : List Nat) (h1 : 1 ≤ l.length) (h2 : l.length ≤ 32) : tmay (levels l) = 0 := by
  obtain ⟨r, hr⟩ := growF_head l.length l
  have e : levels l = l :: r := hr
  rw [e]
  show (if 1 ≤ l.length ∧ l.length ≤ 32 then tsame (l :: r) l else 3) = 0
  rw [if_pos ⟨h1, h2⟩, tsame, if_pos e.symm]
theorem tmay_zero {ls : List (List Nat)} (h : tmay ls = 0) : ∃ l, ls = levels l ∧ 1 ≤ l.length ∧ l.length ≤ 32 ∧ ls[0]? = some l ∧ 1 ≤ ls.length := by
  match ls, h with
  | [], h => simp [tmay] at h
  | l :: r, h =>
    change (if 1 ≤ l.length ∧ l.length ≤ 32 then tsame (l :: r) l else 3) = 0 at h
    split at h
    · rename_i h1
      unfold tsame at h
      split at h
      · rename_i h2
        exact ⟨l, h2, h1.1, h1.2, rfl, by simp⟩
      · omega
    · omega
end Mx

set_option maxHeartbeats 4000000 in
set_option maxRecDepth 100000 in
theorem treeMay_grow (a : Option Addr) (k c : Nat) (ls : List (List Nat)) (l : List Nat) (w : World) (h : Lvls w a k ls) (hk : 1 ≤ k) (h1 : 1 ≤ l.length) (h2 : l.length ≤ 32) (hz : ls[0]? = some l) :
    Calls Try.prog 49 #[.agg #[.slice a k c]] w fun e w' => e = .returned (.int .i64 (Mx.tsame ls l)) ∧ Below w.heap.size w w' := by
  have HL := hide h
  have hkl : k ≤ maxLen := h.2.1
  unfold maxLen at hkl
  have HKL := hide h.1
  obtain ⟨b, off, l0, ai, ni, ci, hab, hbw, hl0, hcell, hu, hnc⟩ := h.at_ 0 (by omega)
  rw [hz] at hl0
  obtain rfl : l = l0 := Option.some.inj hl0
  subst hab
  rw [Nat.add_zero] at hcell
  have hni : ni = l.length := hu.1.symm
  subst hni
  have HU := hide hu
  have HZ := hide (Mx.tgo_start hz)
  obtain ⟨N, hN⟩ : ∃ N : Nat, Hid (N = l.length) := ⟨_, rfl⟩
  rw [← hN.out] at hcell HU h1 h2
  clear h hz hl0 hu hnc
  have hk0 : ((k : Int) == 0) = false := by simp; omega
  have hkp : (0 : Int) < k := by omega
  have hd1 : decide ((N : Int) < 1) = false := by simp; omega
  have hd2 : decide ((32 : Int) < N) = false := by simp; omega
  obtain ⟨w0, hw0⟩ : ∃ w0 : World, Hid (w0 = w.alloc (.cells #[.slice (some ⟨b, off, none⟩) k c] 82)) := ⟨_, rfl⟩
  have B0 := hide (show Below w.heap.size w w0 by rw [hw0.out]; exact below_alloc _ _)
  have X0 := hide (show Bx w0 w.heap.size #[.slice (some ⟨b, off, none⟩) k c] 82 by rw [hw0.out]; exact Bx.new _ _ _)
  go_enter Try.func49, Try.ntmps49
  go_wp2_with fail
  rw [← hw0.out]
  clear hcell
  go_loopw [3, 4] (fun lv i wr => ∃ (n' c' j : Nat) (a' : Option Addr) (cur : List Nat), lv = .slice a' n' c' ∧ i = .int .i64 (j : Int) ∧ n' ≤ 32 ∧ j + 1 ≤ k ∧ Hid (Mx.tgo ls l cur j) ∧ Hid (U64s wr a' n' cur) ∧ Hid (Bx wr w.heap.size #[.slice (some ⟨b, off, none⟩) k c] 82) ∧ Hid (Below w.heap.size w wr)) (fun lv _ _ => sliceLen lv)
  case atStart => exact ⟨N, ci, 0, ai, l, rfl, rfl, by omega, by omega, HZ, HU.out.later B0.out, X0, B0⟩
  case round =>
    obtain ⟨n', c', j, a', cur, rfl, rfl, hn', hj, hG, hU, hX, hB⟩ := hrel
    have HCL := hide hU.out.1
    by_cases hlt : (1 : Int) < n'
    · go_wp2_with fail
      refine (above_any a' n' c' cur wr hU.out (by omega)).mono ?_
      rintro e w2 ⟨v2, rfl, hO2, hb2⟩
      obtain ⟨a2, cap2, hv2⟩ := hO2.out.form
      obtain ⟨N2, hN2⟩ : ∃ N2 : Nat, Hid (N2 = (Mx.overL cur).length) := ⟨_, rfl⟩
      rw [← hN2.out] at hv2
      subst hv2
      have hNlt : N2 + 1 ≤ n' := by
        have h := hN2.out
        rw [Mx.overL_len, HCL.out] at h
        omega
      have HR2 := hide (hO2.out.read (Mx.overL_lt cur)).1
      have X2 := hide (hX.out.later hb2.out hX.out.lt)
      have B2 := hide (hB.out.trans (hb2.out.mono hB.out.size))
      have x2 := X2.out.one
      have HNC := hide (show ¬ cur.length ≤ 1 by rw [HCL.out]; omega)
      obtain ⟨J, hJ⟩ : ∃ J : Nat, Hid (J = j + 1) := ⟨_, rfl⟩
      have hJe : (j : Int) + 1 = (J : Int) := by rw [hJ.out]; rfl
      by_cases hout : (k : Int) ≤ J
      · have hdo : decide ((k : Int) ≤ J) = true := by simpa using hout
        have HT := hide (Mx.tgo_out hG.out HNC.out (by rw [HKL.out]; have := hJ.out; omega))
        go_wp2_with fail
        go_ret
        exact ⟨by rw [HT.out] <;> rfl, B2.out⟩
      · have hdo : decide ((k : Int) ≤ J) = false := by simpa using hout
        obtain ⟨b', off', x, aj, nj, cj, hab, _, hx, e0, hu2, _⟩ := (HL.out.later B2.out).at_ J (by omega)
        cases hab
        have HX := hide hx
        have HU2 := hide hu2
        have hJk : (J : Int) < k := by omega
        have HOut := hide hout
        clear hx hu2 hout hk0 hd1 hd2
        go_wp2_with fail
        refine (sameLevel_any a2 aj N2 cap2 nj cj (Mx.overL cur) x w2 HR2.out HU2.out).mono ?_
        rintro e w3 ⟨r, rfl, hr, q, rfl⟩
        have B3 := hide (below_drewN B2.out q)
        clear e0 x2
        cases r with
        | true =>
          have HG2 := hide (Mx.tgo_next hG.out HNC.out (by rw [← hJ.out]; exact HX.out) (hr.1 rfl))
          rw [← hJ.out] at HG2
          clear hr
          go_wp2_with fail
          go_roundw
          case rel => exact ⟨N2, cap2, J, a2, Mx.overL cur, rfl, rfl, by omega, by omega, HG2, HR2.out.drewN q, X2.out.later (below_drewN (Below.refl _ _) q) X2.out.lt, B3⟩
          case measure => simp [sliceLen]; omega
        | false =>
          have HT := hide (Mx.tgo_unlike hG.out HNC.out (by rw [← hJ.out]; exact HX.out) (fun e => by have := hr.2 e; simp at this))
          clear hr
          go_wp2_with fail
          go_ret
          exact ⟨by rw [HT.out] <;> rfl, B3.out⟩
    · have HT := hide (Mx.tgo_end hG.out (by rw [HCL.out]; omega))
      rw [HKL.out] at HT
      have x2 := hX.out.one
      by_cases hke : j + 1 = k
      · have hne : ((j : Int) != (k : Int) - 1) = false := by simp; omega
        have HT2 := hide (show Mx.tsame ls l = 0 by rw [HT.out, if_pos hke])
        go_wp2_with fail
        go_ret
        exact ⟨by rw [HT2.out] <;> rfl, hB.out⟩
      · have hne : ((j : Int) != (k : Int) - 1) = true := by simp; omega
        have HT2 := hide (show Mx.tsame ls l = 3 by rw [HT.out, if_neg hke])
        clear hke
        go_wp2_with fail
        go_ret
        exact ⟨by rw [HT2.out] <;> rfl, hB.out⟩

set_option maxHeartbeats 1000000 in
set_option maxRecDepth 100000 in
theorem treeMay_any (a : Option Addr) (k c : Nat) (ls : List (List Nat)) (w : World) (h : Lvls w a k ls) :
    Calls Try.prog 49 #[.agg #[.slice a k c]] w fun e w' => e = .returned (.int .i64 (Mx.tmay ls)) ∧ Below w.heap.size w w' := by
  match ls, h with
  | [], h =>
    obtain rfl : k = 0 := h.1.symm
    clear h
    go_enter Try.func49, Try.ntmps49
    go_wp2_with fail
    go_ret
    exact ⟨rfl, below_alloc _ _⟩
  | l :: r, h =>
    have hk : 1 ≤ k := by rw [← h.1]; simp
    by_cases hl : 1 ≤ l.length ∧ l.length ≤ 32
    · refine (treeMay_grow a k c (l :: r) l w h hk hl.1 hl.2 rfl).mono ?_
      rintro e w' ⟨rfl, hb⟩
      exact ⟨by rw [Mx.tmay, if_pos hl], hb⟩
    · have HT := hide (show Mx.tmay (l :: r) = 3 by rw [Mx.tmay, if_neg hl])
      have hkl : k ≤ maxLen := h.2.1
      unfold maxLen at hkl
      obtain ⟨b, off, l0, ai, ni, ci, hab, hbw, hl0, hcell, hu, hnc⟩ := h.at_ 0 (by omega)
      obtain rfl : l = l0 := Option.some.inj hl0
      subst hab
      rw [Nat.add_zero] at hcell
      have hni : ni = l.length := hu.1.symm
      subst hni
      obtain ⟨N, hN⟩ : ∃ N : Nat, Hid (N = l.length) := ⟨_, rfl⟩
      have hNm : N ≤ 9223372036854775807 := by have := hu.2.1; rw [hN.out]; unfold maxLen at this; omega
      rw [← hN.out] at hcell hl
      clear h hl0 hu hnc
      have hk0 : ((k : Int) == 0) = false := by simp; omega
      have hkp : (0 : Int) < k := by omega
      by_cases h1 : (N : Int) < 1
      · have hd1 : decide ((N : Int) < 1) = true := by simpa using h1
        clear hl
        go_enter Try.func49, Try.ntmps49
        go_wp2_with fail
        go_ret
        exact ⟨by rw [HT.out] <;> rfl, below_alloc _ _⟩
      · have hd1 : decide ((N : Int) < 1) = false := by simpa using h1
        have h2 : (32 : Int) < N := by omega
        have hd2 : decide ((32 : Int) < N) = true := by simpa using h2
        clear hl
        go_enter Try.func49, Try.ntmps49
        go_wp2_with fail
        go_ret
        exact ⟨by rw [HT.out] <;> rfl, below_alloc _ _⟩

end Go.Proofs.Ytdhmijjphgcdmaa

/-
  A tree of blocks, as the document's answer has it (TreeOf).
-/
namespace Go.Proofs.Ytdhmijjphgcdmaa
open Go.RowKit

theorem BL.byteAt {w : World} {b off n : Nat} {l : List B8} (h : BL w (some ⟨b, off, none⟩) n l) (k : Nat) (hk : k < n) {y : B8} (hy : l[k]? = some y) (j : Nat) (hj : j < 8) : ∃ z : Int, (Mx.bytesOf y)[j]? = some z ∧ w.cell? ⟨b, off + k * 8 + j, none⟩ = some (.int .u8 z) := by
  obtain ⟨b', off', x, ha, _, hx, e0, e1, e2, e3, e4, e5, e6, e7⟩ := h.at_ k hk
  cases ha
  obtain rfl : x = y := by rw [hy] at hx; exact (Option.some.inj hx).symm
  match j, hj with
  | 0, _ => exact ⟨_, rfl, e0⟩
  | 1, _ => exact ⟨_, rfl, e1⟩
  | 2, _ => exact ⟨_, rfl, e2⟩
  | 3, _ => exact ⟨_, rfl, e3⟩
  | 4, _ => exact ⟨_, rfl, e4⟩
  | 5, _ => exact ⟨_, rfl, e5⟩
  | 6, _ => exact ⟨_, rfl, e6⟩
  | 7, _ => exact ⟨_, rfl, e7⟩
  | n + 8, h => omega

set_option maxHeartbeats 8000000 in
set_option maxRecDepth 100000 in
theorem treeOf_any (a : Option Addr) (n c : Nat) (l : List B8) (w : World) (hl : BL w a n l) (hok : ∀ x ∈ l, x.ok) (hn0 : 1 ≤ n) (hn : n ≤ 1000) :
    Calls Try.prog 46 #[.slice a n c] w fun e w' => ∃ a' k cap, e = .returned (.agg #[.slice a' k cap]) ∧ Hid (Lvls w' a' k (Mx.levels (l.map Mx.blockD)) ∧ k ≤ cap) ∧ Hid (Below w.heap.size w w') := by
  have HBL := hide hl
  have HBN := hide hl.1
  have HOK := hide hok
  clear hl hok
  go_enter Try.func46, Try.ntmps46
  go_wp2_with fail
  go_loopw [3, 4] (fun v i wr => ∃ k : Nat, k ≤ n ∧ i = .int .i64 k ∧ Hid (Bx wr w.heap.size #[.slice none 0 0] 82 ∧ OwnU wr (w.heap.size + 1) v ((l.take k).map Mx.blockD) ∧ Below w.heap.size w wr ∧ w.heap.size + 1 ≤ wr.heap.size)) (fun _ i _ => n - (intOf i).toNat)
  case atStart => exact ⟨0, by omega, rfl, Bx.new _ _ _, OwnU.nil _ _, below_alloc _ _, by simp⟩
  case round =>
    obtain ⟨k, hk, rfl, hI0⟩ := hrel
    obtain ⟨wo, rfl⟩ : ∃ wo, wo = wr := ⟨wr, rfl⟩
    by_cases hlt : k < n
    · obtain ⟨b, off, y, hab, _, hy, _⟩ := (HBL.out.later hI0.out.2.2.1).at_ k hlt
      subst hab
      have HY := hide hy
      have HYO := hide (HOK.out y (List.mem_of_getElem? hy))
      clear hy
      go_wp2_with fail
      go_loopw [5, 6] (fun v i wx => ∃ j : Nat, j ≤ 8 ∧ i = .int .i64 j ∧ Hid (Own wx wo.heap.size v (0 :: (Mx.bytesOf y).take j)) ∧ Hid (Below wo.heap.size wo wx)) (fun _ i _ => 8 - (intOf i).toNat)
      case atStart =>
        refine ⟨0, by omega, rfl, ?_, below_alloc _ _⟩
        exact World.ownsRow_lit (base := wo.heap.size) (e := 5) (size := 1) wo #[.int .u8 0] 1 (by simp) (by unfold maxLen; omega) rfl
      case round =>
        obtain ⟨j, hj, rfl, hO, hG⟩ := hrel
        have hF2 := hide (hI0.out.2.2.1.trans (hG.out.mono hI0.out.2.2.1.size))
        have hsz := hG.out.size
        by_cases hj8 : (j : Int) < 8
        · obtain ⟨z, hz, e0⟩ := (HBL.out.later hF2.out).byteAt k hlt HY.out j (by omega)
          have HZ := hide hz
          clear hz
          obtain ⟨L, hL⟩ : ∃ L : List Int, Hid (L = 0 :: (Mx.bytesOf y).take j) := ⟨_, rfl⟩
          have HLEN := hide (show L.length + 1 ≤ 1000000 by rw [hL.out, List.length_cons, List.length_take]; omega)
          rw [← hL.out] at hO
          go_wp2_with (at_builtin; refine wpList_append_bytes rfl _ _ rfl wo.heap.size L (hO.out.alloc _) ⟨wr.heap.size, 0, none⟩ 1 1 [z] rfl rfl (cell_news _ _ _ rfl) HLEN.out ?c3 ?_)
          case c3 => simp; omega
          intro v' w' hown' hbel'
          have HO := hide (show Own w' wo.heap.size v' (0 :: (Mx.bytesOf y).take (j + 1)) by
            rw [getElem_take_succ _ _ _ HZ.out, ← List.cons_append, ← hL.out]
            exact hown')
          have HB := hide (hG.out.trans (((Below.refl _ _).alloc hsz _).trans hbel'))
          clear hown' hbel' e0
          go_wp2_with fail
          go_roundw
          case rel => exact ⟨j + 1, by omega, by go_num, HO, HB⟩
          case measure => simp [intOf]; omega
        · obtain ⟨M, hM⟩ : ∃ M : List Int, Hid (M = 0 :: Mx.bytesOf y) := ⟨_, rfl⟩
          have HM := hide (show Own wr wo.heap.size _ M by
            have h := hO.out
            rw [List.take_of_length_le (by show 8 ≤ j; omega), ← hM.out] at h
            exact h)
          obtain ⟨g, N, cap, hv, HBY⟩ := Own.row HM.out (by rw [hM.out]; simp) (by
            rw [hM.out]
            intro z hz
            rcases List.mem_cons.1 hz with h | h
            · omega
            · exact HYO.out z h)
          subst hv
          have HR := hide (show ∀ q', OwnU (wr.drewN q') (w.heap.size + 1) _ ((l.take k).map Mx.blockD) from fun q' => rowKept hI0.out.2.1 (below_drewN hG.out q'))
          have HX := hide (show ∀ q', Bx (wr.drewN q') w.heap.size #[.slice none 0 0] 82 from fun q' => hI0.out.1.later (below_drewN hG.out q') hI0.out.1.lt)
          have HFB := hide (show ∀ q', Below w.heap.size w (wr.drewN q') from fun q' => below_drewN hF2.out q')
          have hs1 := hI0.out.2.2.2
          go_wp2_with fail
          refine (digestOf_any _ _ _ _ _ HBY.out).mono ?_
          rintro e w2 ⟨rfl, q2, rfl⟩
          obtain ⟨Z, hZ⟩ : ∃ Z : Nat, Hid (Z = Mx.digest M) := ⟨_, rfl⟩
          rw [← hZ.out]
          obtain ⟨LU, hLU⟩ : ∃ LU : List Nat, Hid (LU = (l.take k).map Mx.blockD) := ⟨_, rfl⟩
          go_wp2_with (at_builtin; refine wpList_append_u64 rfl _ _ rfl (w.heap.size + 1) LU ?c0 Z ?c1 ?c2 ?c3 ?_)
          case c0 => rw [hLU.out]; exact HR.out q2
          case c1 => rfl
          case c2 => rw [hLU.out, List.length_map, List.length_take]; omega
          case c3 => show w.heap.size + 1 ≤ wr.heap.size; omega
          intro v' w' hown' hgr'
          have HNE := hide (show ∀ kk, Value.ownBlock _ = some kk → w.heap.size + 1 ≤ kk from fun kk hk' => (World.ownsRow.lt (HR.out q2) kk hk').1)
          have HO2 := hide (show OwnU w' (w.heap.size + 1) v' ((l.take (k + 1)).map Mx.blockD) by
            rw [getElem_take_succ _ _ _ HY.out, List.map_append, List.map_cons, List.map_nil, Mx.blockD, ← hM.out, ← hZ.out, ← hLU.out]
            exact hown')
          have HB := hide ((HFB.out q2).grown hgr' (HFB.out q2).size (fun k hk => by have := HNE.out k hk; omega))
          have HX2 := hide (show Bx w' w.heap.size #[.slice none 0 0] 82 from (hgr'.block _ (HX.out q2).lt (fun e => by have := HNE.out _ e.symm; omega)).trans (HX.out q2))
          have hs2 : w.heap.size + 1 ≤ w'.heap.size := by have := hgr'.size; have h3 : wr.heap.size ≤ w'.heap.size := this; omega
          clear hown' hgr'
          go_wp2_with fail
          go_roundw
          case rel => exact ⟨k + 1, by omega, by go_num, HX2.out, HO2.out, HB.out, hs2⟩
          case measure => simp [intOf]; omega
    · obtain ⟨lb, hlb⟩ : ∃ lb : List Nat, Hid (lb = l.map Mx.blockD) := ⟨_, rfl⟩
      have HUO := hide (show OwnU wo (w.heap.size + 1) _ lb by
        have h := hI0.out.2.1
        rw [List.take_of_length_le (by rw [HBN.out]; omega), ← hlb.out] at h
        exact h)
      have HLT := hide (show ∀ x ∈ lb, x < 18446744073709551616 by
        rw [hlb.out]
        intro z hz
        obtain ⟨x, _, rfl⟩ := List.mem_map.1 hz
        exact Mx.blockD_lt x)
      have hlen : lb.length = n := by rw [hlb.out, List.length_map, HBN.out]
      obtain ⟨a1, c1, hv1⟩ := HUO.out.form
      rw [hlen] at hv1
      subst hv1
      have HR1 := hide (HUO.out.read HLT.out)
      obtain ⟨gb, go1, hag, hgbl, _⟩ := HR1.out.1.2.2.2 hn0
      subst hag
      have hgb : w.heap.size + 1 ≤ gb := (World.ownsRow.lt HUO.out gb rfl).1
      obtain ⟨S, hS⟩ : ∃ S : Nat, Hid (S = wo.heap.size) := ⟨_, rfl⟩
      have hwS : w.heap.size + 1 ≤ S := by rw [hS.out]; exact hI0.out.2.2.2
      have hgS : gb < S := by rw [hS.out]; exact hgbl
      obtain ⟨w0, hw0⟩ : ∃ w0 : World, Hid (w0 = (wo.alloc (.cells #[.slice (some ⟨gb, go1, none⟩) n c1] 92)).alloc (.cells #[.slice (some ⟨wo.heap.size, 0, none⟩) 1 1] 82)) := ⟨_, rfl⟩
      have Bo := hide (show Below wo.heap.size wo w0 by rw [hw0.out]; exact (below_alloc _ _).alloc (by simp) _)
      have R0 := hide (hI0.out.1.later Bo.out hI0.out.1.lt)
      have T0 := hide (show Bx w0 (S + 1) #[.slice (some ⟨wo.heap.size, 0, none⟩) 1 1] 82 by
        rw [hw0.out, hS.out]
        have h := Bx.new (wo.alloc (.cells #[.slice (some ⟨gb, go1, none⟩) n c1] 92)) #[.slice (some ⟨wo.heap.size, 0, none⟩) 1 1] 82
        rw [World.size_alloc] at h
        exact h)
      have B0 := hide (hI0.out.2.2.1.trans (Bo.out.mono hI0.out.2.2.1.size))
      have L0 := hide (show OwnLv w0 S (fun q => q = gb ∨ S + 2 ≤ q) (.slice (some ⟨wo.heap.size, 0, none⟩) 1 1) [lb] by
        rw [hw0.out]
        exact (OwnLv.one (w := wo) (base := S) (P := (fun q => q = gb ∨ S + 2 ≤ q)) (by rw [hS.out]; exact Nat.le_refl _) HR1.out.1 HR1.out.2 hn0 (fun p hp => by cases hp; exact .inl rfl)).later (below_alloc _ _))
      have hsz0 : S + 2 ≤ w0.heap.size := by rw [hw0.out, hS.out]; simp
      go_wp2_with fail
      rw [← hw0.out]
      rw [← hS.out]
      go_loopw [3] (fun lv wr => ∃ (f n' c' : Nat) (a' : Option Addr) (cur : List Nat) (pre : List (List Nat)) (vL : Value), lv = .slice a' n' c' ∧ n' ≤ 1000 ∧ Hid (cur.length ≤ f + 1 ∧ pre ++ Mx.growF f cur = Mx.levels lb ∧ pre.length + n' ≤ n) ∧
          Hid (U64s wr a' n' cur ∧ n' ≤ c' ∧ 1 ≤ n' ∧ ∀ p, a' = some p → p.block = gb ∨ S + 2 ≤ p.block) ∧
          Hid (Bx wr (S + 1) #[vL] 82 ∧ Bx wr w.heap.size #[.slice none 0 0] 82 ∧ OwnLv wr S (fun q => q = gb ∨ S + 2 ≤ q) vL (pre ++ [cur]) ∧ Below w.heap.size w wr)) (fun lv _ => sliceLen lv)
      case atStart => exact ⟨n, n, c1, some ⟨gb, go1, none⟩, lb, [], _, rfl, hn, ⟨by omega, by rw [List.nil_append, Mx.levels, hlen], by simp⟩, ⟨HR1.out.1.later Bo.out, HR1.out.2, hn0, fun p hp => by cases hp; exact .inl rfl⟩, T0.out, R0.out, L0.out, B0.out⟩
      case round =>
        obtain ⟨f, n', c', a', cur, pre, vL, rfl, hn', hM, hU, hI⟩ := hrel
        by_cases hlt : (1 : Int) < n'
        · obtain ⟨b', off', ha, hbl, _⟩ := hU.out.1.2.2.2 (by omega)
          subst ha
          have HCL := hide hU.out.1.1
          go_wp2_with fail
          refine (above_any (some ⟨b', off', none⟩) n' c' cur wr hU.out.1 hn').mono ?_
          rintro e W2 ⟨v2, rfl, hO2, hb2⟩
          obtain ⟨a2, cap2, hv2⟩ := hO2.out.form
          obtain ⟨N2, hN2⟩ : ∃ N2 : Nat, Hid (N2 = (Mx.overL cur).length) := ⟨_, rfl⟩
          rw [← hN2.out] at hv2
          subst hv2
          have hNlt : N2 + 1 ≤ n' ∧ 1 ≤ N2 := by
            have h := hN2.out
            rw [Mx.overL_len, HCL.out] at h
            omega
          have HR2 := hide (hO2.out.read (Mx.overL_lt cur))
          have hszr : S + 2 ≤ wr.heap.size := by
            have := hI.out.1.lt
            omega
          have HP2 := hide (show ∀ p, a2 = some p → wr.heap.size ≤ p.block by
            intro p hp
            obtain ⟨b2, off2, ha2, _, _⟩ := HR2.out.1.2.2.2 (by omega)
            rcases hO2.out.2 with ⟨hv, _⟩ | ⟨g2, cap3, cur3, hv, hb3, _⟩
            · simp only [Value.slice.injEq] at hv
              rw [hv.1] at hp
              cases hp
            · simp only [Value.slice.injEq] at hv
              rw [hv.1] at hp
              cases hp
              exact hb3)
          have T2 := hide (hI.out.1.later hb2.out hI.out.1.lt)
          have R2 := hide (hI.out.2.1.later hb2.out hI.out.2.1.lt)
          obtain ⟨PC, hPC⟩ : ∃ PC : List (List Nat), Hid (PC = pre ++ [cur]) := ⟨_, rfl⟩
          have L2 := hide (show OwnLv W2 S (fun q => q = gb ∨ S + 2 ≤ q) vL PC by rw [hPC.out]; exact hI.out.2.2.1.later hb2.out)
          have B2 := hide (hI.out.2.2.2.trans (hb2.out.mono hI.out.2.2.2.size))
          have HVL := hide (show ∀ k, vL.ownBlock = some k → k < wr.heap.size from fun k hk => (World.ownsRow.lt hI.out.2.2.1.choose_spec.1 k hk).2)
          have t2 := T2.out.one
          have hs2 := hb2.out.size
          go_wp2_with (at_builtin; refine wpList_append_lv rfl _ _ rfl S (fun q => q = gb ∨ S + 2 ≤ q) PC ?o1 a2 N2 cap2 (Mx.overL cur) ?o2 ?o3 ?o4 ?o5 ?o6 ?o7 ?o8 ?_)
          case o1 => exact L2.out
          case o2 => exact HR2.out.1
          case o3 => exact HR2.out.2
          case o4 => exact hNlt.2
          case o5 =>
            intro p hp
            have h1 := HP2.out p hp
            exact ⟨fun e => by have := HVL.out _ e; omega, .inr (by omega)⟩
          case o6 => rfl
          case o7 => have := hM.out.2.2; rw [hPC.out, List.length_append, List.length_singleton]; omega
          case o8 => omega
          intro v4 W4 hown4 hgr4
          obtain ⟨a4, cap4, hv4⟩ := hown4.form
          obtain ⟨N4, hN4⟩ : ∃ N4 : Nat, Hid (N4 = (PC ++ [Mx.overL cur]).length) := ⟨_, rfl⟩
          rw [← hN4.out] at hv4
          subst hv4
          have HO4 := hide (show OwnLv W4 S (fun q => q = gb ∨ S + 2 ≤ q) (.slice a4 N4 cap4) (pre ++ [cur] ++ [Mx.overL cur]) by rw [← hPC.out]; exact hown4)
          have q1 := own_ne_bx L2.out.choose_spec.1 T2.out (by decide)
          have q2 := own_ne_bx L2.out.choose_spec.1 R2.out (by decide)
          have T4 := hide (show Bx W4 (S + 1) #[vL] 82 from (hgr4.block _ T2.out.lt (fun e => q1 e.symm)).trans T2.out)
          have R4 := hide (show Bx W4 w.heap.size #[.slice none 0 0] 82 from (hgr4.block _ R2.out.lt (fun e => q2 e.symm)).trans R2.out)
          have B4 := hide (show Below w.heap.size w W4 from B2.out.grown hgr4 B2.out.size (fun k hk => by have := (World.ownsRow.lt L2.out.choose_spec.1 k hk).1; omega))
          have U4 := hide (show U64s W4 a2 N2 (Mx.overL cur) from HR2.out.1.grownBy hgr4 (fun p hp e => by have := HVL.out _ e; have := HP2.out p hp; omega))
          have q4 := own_ne_bx HO4.out.choose_spec.1 T4.out (by decide)
          have t4 := T4.out.one
          have z4 := T4.out.frozen
          obtain ⟨f', rfl⟩ : ∃ f', f = f' + 1 := by
            cases f with
            | zero => have := hM.out.1; have := HCL.out; omega
            | succ f => exact ⟨f, rfl⟩
          have HM5 := hide (show (Mx.overL cur).length ≤ f' + 1 ∧ pre ++ [cur] ++ Mx.growF f' (Mx.overL cur) = Mx.levels lb ∧ (pre ++ [cur]).length + N2 ≤ n by
            obtain ⟨m1, m2, m3⟩ := hM.out
            have h1 := HCL.out
            have h2 := hN2.out
            refine ⟨by omega, ?_, by rw [List.length_append, List.length_singleton]; omega⟩
            rw [Mx.growF_more f' cur (by omega)] at m2
            rw [List.append_assoc]
            exact m2)
          clear hown4 hgr4 t2
          go_wp2_with fail
          go_roundw
          case rel =>
            refine ⟨f', N2, cap2, a2, Mx.overL cur, pre ++ [cur], .slice a4 N4 cap4, rfl, by omega, HM5, ⟨U4.out.setOther _ _ (fun p hp => ?_), HR2.out.2, hNlt.2, fun p hp => .inr (by have := HP2.out p hp; omega)⟩, T4.out.set 0 _, R4.out.other _ _ (by show w.heap.size ≠ S + 1; omega), HO4.out.setOther _ _ q4 ?_, B4.out.setCell (p := ⟨S + 1, 0, none⟩) (by show w.heap.size ≤ S + 1; omega) _⟩
            · have := HP2.out p hp
              show p.block ≠ S + 1
              omega
            · show ¬ (S + 1 = gb ∨ S + 2 ≤ S + 1)
              omega
          case measure => show N2 < n'; omega
        · have HE := hide (show pre ++ [cur] = Mx.levels lb by
            have h1 := hU.out.1.1
            rw [← hM.out.2.1, Mx.growF_one f cur (by omega)])
          obtain ⟨aL, capL, hvL⟩ := hI.out.2.2.1.form
          obtain ⟨NL, hNL⟩ : ∃ NL : Nat, Hid (NL = (pre ++ [cur]).length) := ⟨_, rfl⟩
          rw [← hNL.out] at hvL
          subst hvL
          have t0 := hI.out.1.one
          have r0 := hI.out.2.1.one
          have rz := hI.out.2.1.frozen
          have q1 := own_ne_bx hI.out.2.2.1.choose_spec.1 hI.out.2.1 (by decide)
          go_wp2_with fail
          have r1 := (show Bx _ _ #[.slice aL NL capL] 82 from hI.out.2.1.set 0 (.slice aL NL capL)).one
          refine bodyPost_ret (v := .agg #[.slice aL NL capL]) (by simp [results, Try.results46, go_sem, r1]) rfl ⟨aL, NL, capL, rfl, ?_, hI.out.2.2.2.setCell (p := ⟨w.heap.size, 0, none⟩) (Nat.le_refl _) _⟩
          have h := hI.out.2.2.1.setOther ⟨w.heap.size, 0, none⟩ (.slice aL NL capL) q1 (by show ¬ (w.heap.size = gb ∨ S + 2 ≤ w.heap.size); omega)
          rw [HE.out, hlb.out] at h
          exact h.lv
end Go.Proofs.Ytdhmijjphgcdmaa

/-
  For all blocks and bytes, their digests are what D1 says (TreeSays): the walk.
-/
namespace Go.Proofs.Ytdhmijjphgcdmaa
open Go.RowKit

theorem Mx.levels_head (l : List Nat) : (Mx.levels l)[0]? = some l ∧ 1 ≤ (Mx.levels l).length := by
  unfold Mx.levels
  cases l.length with
  | zero => exact ⟨rfl, Nat.le_refl _⟩
  | succ f =>
    rw [Mx.growF]
    split
    · exact ⟨rfl, Nat.le_refl _⟩
    · exact ⟨rfl, by simp⟩

set_option maxRecDepth 100000 in
theorem tsays_big (a ba : Option Addr) (n c nb bc : Nat) (w : World) (h : 100 < n ∨ 2000 < nb) :
    Calls Try.prog 9 #[.slice a n c, .slice ba nb bc] w fun e w' => e = .returned (.bool true) ∧ Below w.heap.size w w' := by
  by_cases h1 : (100 : Int) < n
  · clear h
    go_enter Try.func9, Try.ntmps9
    go_wp2
    go_ret
    exact ⟨rfl, Below.refl _ _⟩
  · have h2 : (2000 : Int) < nb := by omega
    clear h
    go_enter Try.func9, Try.ntmps9
    go_wp2
    go_ret
    exact ⟨rfl, Below.refl _ _⟩

set_option maxHeartbeats 4000000 in
set_option maxRecDepth 100000 in
theorem tsays_err (a ba : Option Addr) (n c nb bc : Nat) (bs : List Int) (w : World) (hb : Bytes w ba nb bs) (hn1 : n ≤ 100) (hb1 : nb ≤ 2000) (hn : n < 1 ∨ 32 < n) :
    Calls Try.prog 9 #[.slice a n c, .slice ba nb bc] w fun e w' => e = .returned (.bool true) ∧ Below w.heap.size w w' := by
  have HB := hide hb
  clear hb
  have h100 : ¬ (100 : Int) < n := by omega
  have h2000 : ¬ (2000 : Int) < nb := by omega
  have he : ∀ (a b : Int) (W : World), (binOp .eql 31 (.iface 26 (.int .i64 a)) (.iface 26 (.int .i64 b))).run Try.prog W = .ok (.bool (a == b)) W :=
    fun a b W => Lib.run_eql_iface_int W a b Try.underlying31 (by kernel_rfl) Try.underlying26
  go_enter Try.func9, Try.ntmps9
  go_wp2_with fail
  refine (digest_any ba nb bc bs w HB.out).mono ?_
  rintro e w1 ⟨rfl, rfl⟩
  obtain ⟨Z, hZ⟩ : ∃ Z : Nat, Hid (Z = Mx.digest bs) := ⟨_, rfl⟩
  rw [← hZ.out]
  go_wp2_with fail
  refine (digestOf_any ba nb bc bs w1 HB.out).mono ?_
  rintro e w2 ⟨rfl, q, rfl⟩
  rw [← hZ.out]
  go_wp2_with fail
  refine (of_err a n c _ hn).mono ?_
  rintro e w3 ⟨rfl, hb3⟩
  have HB3 := hide ((below_drewN (Below.refl _ w1) q).trans hb3)
  clear hb3
  by_cases h1 : (n : Int) < 1
  · have hd1 : decide ((n : Int) < 1) = true := by simpa using h1
    go_wp2
    go_ret
    exact ⟨rfl, HB3.out.alloc HB3.out.size _⟩
  · have hd1 : decide ((n : Int) < 1) = false := by simpa using h1
    have h2 : (32 : Int) < n := by omega
    have hd2 : decide ((32 : Int) < n) = true := by simpa using h2
    go_wp2
    go_ret
    exact ⟨rfl, HB3.out.alloc HB3.out.size _⟩

set_option maxHeartbeats 4000000 in
set_option maxRecDepth 100000 in
theorem tsays_ok (a ba : Option Addr) (n c nb bc : Nat) (l : List B8) (bs : List Int) (w : World) (hl : BL w a n l) (hok : ∀ x ∈ l, x.ok) (hb : Bytes w ba nb bs) (hb1 : nb ≤ 2000) (hn0 : 1 ≤ n) (hn : n ≤ 32) :
    Calls Try.prog 9 #[.slice a n c, .slice ba nb bc] w fun e w' => e = .returned (.bool true) ∧ Below w.heap.size w w' := by
  have HB := hide hb
  have HL := hide hl
  have HOK := hide hok
  have HLN := hide (show (l.map Mx.blockD).length = n by rw [List.length_map]; exact hl.1)
  clear hb hl hok
  have h100 : ¬ (100 : Int) < n := by omega
  have h2000 : ¬ (2000 : Int) < nb := by omega
  have hd1 : decide ((n : Int) < 1) = false := by simp; omega
  have hd2 : decide ((32 : Int) < n) = false := by simp; omega
  go_enter Try.func9, Try.ntmps9
  go_wp2_with fail
  refine (digest_any ba nb bc bs w HB.out).mono ?_
  rintro e w1 ⟨rfl, rfl⟩
  obtain ⟨Z, hZ⟩ : ∃ Z : Nat, Hid (Z = Mx.digest bs) := ⟨_, rfl⟩
  rw [← hZ.out]
  go_wp2_with fail
  refine (digestOf_any ba nb bc bs w1 HB.out).mono ?_
  rintro e w2 ⟨rfl, q, rfl⟩
  rw [← hZ.out]
  go_wp2_with fail
  refine (of_any a n c l _ (HL.out.later (below_drewN (Below.refl _ _) q)) HOK.out hn0 hn).mono ?_
  rintro e w3 ⟨a1, k1, cap1, rfl, hL1, hb3⟩
  obtain ⟨w4, hw4⟩ : ∃ w4 : World, Hid (w4 = w3.alloc (.cells #[.slice a1 k1 cap1] 82)) := ⟨_, rfl⟩
  have B34 := hide (show Below w3.heap.size w3 w4 by rw [hw4.out]; exact below_alloc _ _)
  have B3 := hide (show Below w1.heap.size w1 w3 from (below_drewN (Below.refl _ w1) q).trans hb3.out)
  have B4 := hide (B3.out.trans (B34.out.mono B3.out.size))
  have X4 := hide (show Bx w4 w3.heap.size #[.slice a1 k1 cap1] 82 by rw [hw4.out]; exact Bx.new _ _ _)
  have LV4 := hide (hL1.out.1.later B34.out)
  have x0 := X4.out.one
  obtain ⟨LL, hLL⟩ : ∃ LL : List Nat, Hid (LL = l.map Mx.blockD) := ⟨_, rfl⟩
  have HK1 := hide (show 1 ≤ k1 by rw [← hL1.out.1.1]; exact (Mx.levels_head _).2)
  go_upto_region 8 with fail
  rw [← hw4.out]
  go_region_held3 (fun w' => w'.cell? ⟨w3.heap.size, 0, none⟩ = some (.slice a1 k1 cap1))
    (first | exact x0 | exact y0 | exact z0 | exact v0)
    (first
    | (go_at_call 46; refine (treeOf_any a n c l w4.drew ((HL.out.later B4.out).later (Below.refl _ _).drew) HOK.out hn0 (by omega)).mono ?_; rintro e w5 ⟨a5, k5, cap5, rfl, hL5, hb5⟩; have y0 := (hb5.out.cell (p := ⟨w3.heap.size, 0, none⟩) X4.out.lt).trans x0)
    | (go_at_call 45; refine (sameTree_any a1 a5 k1 cap1 k5 cap5 (Mx.levels (l.map Mx.blockD)) (Mx.levels (l.map Mx.blockD)) w5 ((LV4.out.later (Below.refl _ _).drew).later hb5.out) hL5.out.1).mono ?_; rintro e w6 ⟨r, rfl, hr, hb6⟩; obtain rfl : r = true := hr.2 rfl; have HB6 := hide hb6; clear hb6 hr; have z0 := (HB6.out.cell (p := ⟨w3.heap.size, 0, none⟩) (by show w3.heap.size < w5.heap.size; have h1 := X4.out.lt; have h2 : w4.heap.size ≤ w5.heap.size := hb5.out.size; omega)).trans y0)
    | (go_at_call 47; refine (tcheck_ok a1 k1 cap1 (l.map Mx.blockD) w6 (((LV4.out.later (Below.refl _ _).drew).later hb5.out).later HB6.out) HK1.out (by rw [HLN.out]; exact hn0) (by rw [HLN.out]; exact hn) (Mx.levels_head _).1).mono ?_; rintro e w7 ⟨rfl, hb7⟩; have HB7 := hide hb7; clear hb7; have v0 := (HB7.out.cell (p := ⟨w3.heap.size, 0, none⟩) (by show w3.heap.size < w6.heap.size; have h1 := X4.out.lt; have h2 : w4.heap.size ≤ w5.heap.size := hb5.out.size; have h3 := HB6.out.size; omega)).trans z0))
  all_goals
    have HF := hide (show Below w1.heap.size w1 w7 from ((B4.out.drew.trans (hb5.out.mono B4.out.size)).trans (HB6.out.mono (by have h2 : w4.heap.size ≤ w5.heap.size := hb5.out.size; have := B4.out.size; omega))).trans (HB7.out.mono (by have h2 : w4.heap.size ≤ w5.heap.size := hb5.out.size; have := B4.out.size; have := HB6.out.size; omega)))
    go_wp2
    go_ret
    exact ⟨rfl, HF.out⟩

theorem tsays_any (a ba : Option Addr) (n c nb bc : Nat) (l : List B8) (bs : List Int) (w : World) (hl : BL w a n l) (hok : ∀ x ∈ l, x.ok) (hb : Bytes w ba nb bs) :
    Calls Try.prog 9 #[.slice a n c, .slice ba nb bc] w fun e w' => e = .returned (.bool true) ∧ Below w.heap.size w w' := by
  by_cases hbig : 100 < n ∨ 2000 < nb
  · exact tsays_big a ba n c nb bc w hbig
  by_cases hn : 1 ≤ n ∧ n ≤ 32
  · exact tsays_ok a ba n c nb bc l bs w hl hok hb (by omega) hn.1 hn.2
  · exact tsays_err a ba n c nb bc bs w hb (by omega) (by omega) (by omega)

end Go.Proofs.Ytdhmijjphgcdmaa

/-
  How long a tree's levels are, and how many there are: plain mathematics.
-/
namespace Go.Proofs.Ytdhmijjphgcdmaa
open Go.RowKit

namespace Mx
def lensF : Nat → Nat → Nat → Nat
  | _, n, 0 => n
  | 0, _, _ + 1 => 0
  | f + 1, n, L + 1 => if n ≤ 1 then 0 else lensF f ((n + 3) / 4) L
theorem growF_lens (f : Nat) (l : List Nat) (L : Nat) : ((growF f l).getD L []).length = lensF f l.length L := by
  induction f generalizing l L with
  | zero =>
    cases L with
    | zero => rfl
    | succ L => rfl
  | succ f ih =>
    cases L with
    | zero =>
      obtain ⟨r, hr⟩ := growF_head (f + 1) l
      rw [hr]
      rfl
    | succ L =>
      rw [growF, lensF]
      split
      · rfl
      · rw [List.getD_cons_succ, ih (overL l) L, overL_len]
theorem lensF_le (f n L : Nat) : lensF f n L ≤ n := by
  induction f generalizing n L with
  | zero =>
    cases L with
    | zero => exact Nat.le_refl _
    | succ L => exact Nat.zero_le _
  | succ f ih =>
    cases L with
    | zero => exact Nat.le_refl _
    | succ L =>
      rw [lensF]
      split
      · omega
      · have := ih ((n + 3) / 4) L
        omega
theorem levels_lens (l l' : List Nat) (h : l.length = l'.length) (L : Nat) : ((levels l).getD L []).length = ((levels l').getD L []).length := by
  unfold levels
  rw [growF_lens, growF_lens, h]
theorem levels_small (l : List Nat) (L : Nat) : ((levels l).getD L []).length ≤ l.length := by
  unfold levels
  rw [growF_lens]
  exact lensF_le _ _ _
theorem growF_pos (f : Nat) (l : List Nat) (L : Nat) (h : 1 ≤ l.length) (hL : L < (growF f l).length) : 0 < ((growF f l).getD L []).length := by
  induction f generalizing l L with
  | zero =>
    cases L with
    | zero => exact h
    | succ L => simp [growF] at hL
  | succ f ih =>
    cases L with
    | zero =>
      obtain ⟨r, hr⟩ := growF_head (f + 1) l
      rw [hr]
      exact h
    | succ L =>
      rw [growF] at hL ⊢
      split
      · rename_i h1
        rw [if_pos h1] at hL
        simp at hL
      · rename_i h1
        rw [if_neg h1] at hL
        rw [List.getD_cons_succ]
        exact ih (overL l) L (by rw [overL_len]; omega) (by simpa using hL)
theorem growF_one' (f : Nat) (l : List Nat) (h : l.length ≤ 1) : (growF f l).length ≤ 1 := by rw [growF_one f l h]; simp
theorem growF_two (f : Nat) (l : List Nat) (h : l.length ≤ 4) : (growF f l).length ≤ 2 := by
  cases f with
  | zero => simp [growF]
  | succ f =>
    rw [growF]
    split
    · simp
    · have := growF_one' f (overL l) (by rw [overL_len]; omega)
      rw [List.length_cons]
      omega
theorem growF_three (f : Nat) (l : List Nat) (h : l.length ≤ 16) : (growF f l).length ≤ 3 := by
  cases f with
  | zero => simp [growF]
  | succ f =>
    rw [growF]
    split
    · simp
    · have := growF_two f (overL l) (by rw [overL_len]; omega)
      rw [List.length_cons]
      omega
theorem levels_four (l : List Nat) (h : l.length ≤ 32) : (levels l).length ≤ 4 := by
  unfold levels
  cases l.length with
  | zero => simp [growF]
  | succ f =>
    rw [growF]
    split
    · simp
    · have := growF_three f (overL l) (by rw [overL_len]; omega)
      rw [List.length_cons]
      omega
theorem dasked_few (la lb : List (List Nat)) (L i : Nat) (h : L ≤ 3) : dasked la lb L i ≤ 125 := by
  have h1 := dasked_le la lb L i
  have h2 := Nat.pow_le_pow_right (n := 5) (by omega) h
  omega
theorem dplaces_few (la lb : List (List Nat)) (L i : Nat) (h : L ≤ 3) : (dplaces la lb L i).length ≤ 64 := by
  have h1 := dplaces_le la lb L i
  have h2 := Nat.pow_le_pow_right (n := 4) (by omega) h
  omega
end Mx
end Go.Proofs.Ytdhmijjphgcdmaa

/-
  A block put into a tree, as the program does it (Put): where there is no such place.
-/
namespace Go.Proofs.Ytdhmijjphgcdmaa
open Go.RowKit

set_option maxHeartbeats 4000000 in
set_option maxRecDepth 100000 in
theorem tput_range (a : Option Addr) (k c : Nat) (l : List Nat) (at_ : Int) (x : B8) (w : World) (h : Lvls w a k (Mx.levels l)) (hk : 1 ≤ k) (h1 : 1 ≤ l.length) (h2 : l.length ≤ 32) (hz : (Mx.levels l)[0]? = some l) (hm : Mx.tmay (Mx.levels l) = 0) (hj : at_ < 0 ∨ (l.length : Int) ≤ at_) :
    Calls Try.prog 50 #[.agg #[.slice a k c], .int .i64 at_, .agg #[.int .u8 x.z0, .int .u8 x.z1, .int .u8 x.z2, .int .u8 x.z3, .int .u8 x.z4, .int .u8 x.z5, .int .u8 x.z6, .int .u8 x.z7]] w fun e w' =>
      e = .returned (.tuple #[.agg #[.slice none 0 0], .iface 26 (.int .i64 1)]) ∧ Below w.heap.size w w' := by
  have HL := hide h
  have HM := hide hm
  have hkl : k ≤ maxLen := h.2.1
  unfold maxLen at hkl
  obtain ⟨b, off, l0, ai, ni, ci, hab, hbw, hl0, hcell, hu, hnc⟩ := h.at_ 0 (by omega)
  rw [hz] at hl0
  obtain rfl : l = l0 := Option.some.inj hl0
  subst hab
  rw [Nat.add_zero] at hcell
  have hni : ni = l.length := hu.1.symm
  subst hni
  obtain ⟨bi, offi, hai, hbi, _⟩ := hu.2.2.2 h1
  subst hai
  have HU := hide hu
  obtain ⟨N, hN⟩ : ∃ N : Nat, Hid (N = l.length) := ⟨_, rfl⟩
  rw [← hN.out] at hcell HU h1 h2 hj
  clear h hz hl0 hu hnc hm
  have hkp : (0 : Int) < k := by omega
  have hkr : 0 < k := by omega
  obtain ⟨w0, hw0⟩ : ∃ w0 : World, Hid (w0 = ((w.alloc (.cells #[.slice (some ⟨b, off, none⟩) k c] 82)).alloc (.cells #[.int .u8 x.z0, .int .u8 x.z1, .int .u8 x.z2, .int .u8 x.z3, .int .u8 x.z4, .int .u8 x.z5, .int .u8 x.z6, .int .u8 x.z7] 52)).alloc (.cells #[.slice none 0 0] 82)) := ⟨_, rfl⟩
  have B0 := hide (show Below w.heap.size w w0 by rw [hw0.out]; exact ((below_alloc _ _).alloc (by simp) _).alloc (by simp; omega) _)
  have T0 := hide (show Bx w0 w.heap.size #[.slice (some ⟨b, off, none⟩) k c] 82 by rw [hw0.out]; exact ((Bx.new w _ _).alloc _).alloc _)
  have X0 := hide (show Bx w0 (w.heap.size + 1) #[.int .u8 x.z0, .int .u8 x.z1, .int .u8 x.z2, .int .u8 x.z3, .int .u8 x.z4, .int .u8 x.z5, .int .u8 x.z6, .int .u8 x.z7] 52 by
    rw [hw0.out]
    have h := (Bx.new (w.alloc (.cells #[.slice (some ⟨b, off, none⟩) k c] 82)) #[.int .u8 x.z0, .int .u8 x.z1, .int .u8 x.z2, .int .u8 x.z3, .int .u8 x.z4, .int .u8 x.z5, .int .u8 x.z6, .int .u8 x.z7] 52).alloc (.cells #[.slice none 0 0] 82)
    rw [World.size_alloc] at h
    exact h)
  have R0 := hide (show Bx w0 (w.heap.size + 2) #[.slice none 0 0] 82 by
    rw [hw0.out]
    have h := Bx.new ((w.alloc (.cells #[.slice (some ⟨b, off, none⟩) k c] 82)).alloc (.cells #[.int .u8 x.z0, .int .u8 x.z1, .int .u8 x.z2, .int .u8 x.z3, .int .u8 x.z4, .int .u8 x.z5, .int .u8 x.z6, .int .u8 x.z7] 52)) #[.slice none 0 0] 82
    rw [World.size_alloc, World.size_alloc] at h
    exact h)
  go_enter Try.func50, Try.ntmps50
  go_wp2_with fail
  rw [← hw0.out]
  refine (tcheck_any (some ⟨b, off, none⟩) k c (Mx.levels l) w0 (HL.out.later B0.out)).mono ?_
  rintro e w1 ⟨rfl, hb1⟩
  rw [HM.out, errV_zero]
  have T1 := hide (T0.out.later hb1 T0.out.lt)
  have X1 := hide (X0.out.later hb1 X0.out.lt)
  have R1 := hide (R0.out.later hb1 R0.out.lt)
  have B1 := hide (B0.out.trans (hb1.mono B0.out.size))
  clear hb1
  have t1 := T1.out.one
  have hc1 : w1.cell? ⟨b, off, none⟩ = some (.slice (some ⟨bi, offi, none⟩) N ci) := (B1.out.cell (p := ⟨b, off, none⟩) hbw).trans hcell
  clear hcell
  go_wp2_with fail
  refine (cloneU_any bi offi N ci l w1 (HU.out.later B1.out) h1 (by omega)).mono ?_
  rintro e w2 ⟨v2, rfl, hO2, hb2⟩
  obtain ⟨a2, c2, hv2⟩ := hO2.out.form
  rw [← hN.out] at hv2
  subst hv2
  have HRD := hide (hO2.out.read HU.out.2.2.1)
  obtain ⟨g, go, hag, _, _⟩ := HRD.out.1.2.2.2 h1
  obtain rfl : go = 0 := by
    rcases hO2.out.2 with ⟨hv, _⟩ | ⟨g', cap', cur, hv, _⟩
    · simp only [Value.slice.injEq] at hv
      omega
    · simp only [Value.slice.injEq] at hv
      rw [hv.1] at hag
      simp only [Option.some.injEq, Addr.mk.injEq, and_true] at hag
      exact hag.2.symm
  subst hag
  have R2 := hide (R1.out.later hb2.out R1.out.lt)
  have B2 := hide (B1.out.trans (hb2.out.mono B1.out.size))
  clear t1 hc1
  have r0 := R2.out.one
  have rz := R2.out.frozen
  have r1 := (show Bx _ _ #[.slice none 0 0] 82 from R2.out.set 0 (.slice none 0 0)).one
  by_cases hn0 : at_ < 0
  · have hd0 : decide (at_ < 0) = true := by simpa using hn0
    go_wp2_with fail
    exact bodyPost_ret (v := .tuple #[.agg #[.slice none 0 0], .iface 26 (.int .i64 1)]) (by simp [results, Try.results50, go_sem, r1]) rfl ⟨rfl, B2.out.setCell (p := ⟨w.heap.size + 2, 0, none⟩) (by show w.heap.size ≤ w.heap.size + 2; omega) _⟩
  · have hd0 : decide (at_ < 0) = false := by simpa using hn0
    have hn1 : (N : Int) ≤ at_ := by omega
    have hd1 : decide ((N : Int) ≤ at_) = true := by simpa using hn1
    go_wp2_with fail
    exact bodyPost_ret (v := .tuple #[.agg #[.slice none 0 0], .iface 26 (.int .i64 1)]) (by simp [results, Try.results50, go_sem, r1]) rfl ⟨rfl, B2.out.setCell (p := ⟨w.heap.size + 2, 0, none⟩) (by show w.heap.size ≤ w.heap.size + 2; omega) _⟩

end Go.Proofs.Ytdhmijjphgcdmaa

/-
  For every tree of numbers whatever, whether it may be, and a block put into it, are what D1 and D2 say (TreePuts): the walk.
-/
namespace Go.Proofs.Ytdhmijjphgcdmaa
open Go.RowKit

/-- numbers behind the call's own ones -/
theorem wpList_append_u64row {w : World} {ops : Array Oper} {rest : List Oper} {o : Oper} {a : Act} {Q : Exit → Act → World → Prop} (hgd : o.guard = none) (s x : Operand)
    (ho : o.op = .call { callee := .builtin .append, args := #[s, x], argTypes := #[92, 92] }) (base : Nat) (l0 : List Nat) (hown : OwnU w base (a.eval s) l0)
    (b off n c : Nat) (l : List Nat) (hl : U64s w (some ⟨b, off, none⟩) n l) (hx : a.eval x = .slice (some ⟨b, off, none⟩) n c) (hn0 : 1 ≤ n) (hn : l0.length + n ≤ 1000000) (hbase : base ≤ w.heap.size)
    (h : ∀ v' w', OwnU w' base v' (l0 ++ l) → w.grownBy w' (a.eval s).ownBlock → wpList Try.prog ops Q rest (a.put o.dst v') w') :
    wpList Try.prog ops Q (o :: rest) a w := by
  obtain ⟨i0, hi, hz0, hz1, hz2⟩ := info_parts Try.info78
  refine wpList_append_own _ hgd s x 92 ho base 78 i0 _ 1 8 Try.underlying92 hi hz0 hz1 hz2 rfl (by decide) (a.eval s) l0.length (l0.map fun x : Nat => Value.int .u64 (x : Int)) rfl hown ⟨b, off, none⟩ n c (l.map fun x : Nat => Value.int .u64 (x : Int)) hx ?_ ?_ ?_ (by unfold maxLen; omega) (by omega) hbase ?_
  · rw [List.length_map, hl.1, Nat.mul_one]
  · intro j u hj
    obtain ⟨b', off', hb, hlt, hc⟩ := hl.2.2.2 hn0
    cases hb
    rw [Addr.add_lit]
    have hjl : j < l.length := by have := (List.getElem?_eq_some_iff.1 hj).1; simpa using this
    have h1 := hc j (by rw [← hl.1]; exact hjl)
    rw [List.getElem?_map, List.getElem?_eq_getElem hjl] at hj
    rw [List.getD_eq_getElem?_getD, List.getElem?_eq_getElem hjl] at h1
    simp at hj h1
    subst hj
    exact h1
  · intro u hu
    obtain ⟨z, _, rfl⟩ := List.mem_map.1 hu
    rfl
  · intro v' w' hown' hg _
    refine h v' w' ?_ hg
    unfold OwnU
    rw [List.length_append, List.map_append, hl.1]
    exact hown'

set_option maxHeartbeats 1000000 in
set_option maxRecDepth 100000 in
theorem tputs_huge (a : Option Addr) (k c : Nat) (ls : List (List Nat)) (at_ : Int) (x : B8) (w : World) (h : Lvls w a k ls) (hH : Mx.huge ls = true) :
    Calls Try.prog 10 #[.agg #[.slice a k c], .int .i64 at_, .agg #[.int .u8 x.z0, .int .u8 x.z1, .int .u8 x.z2, .int .u8 x.z3, .int .u8 x.z4, .int .u8 x.z5, .int .u8 x.z6, .int .u8 x.z7]] w fun e w' => e = .returned (.bool true) ∧ Below w.heap.size w w' := by
  have HL := hide h
  have HH := hide hH
  clear h hH
  obtain ⟨w0, hw0⟩ : ∃ w0 : World, Hid (w0 = (w.alloc (.cells #[.slice a k c] 82)).alloc (.cells #[.int .u8 x.z0, .int .u8 x.z1, .int .u8 x.z2, .int .u8 x.z3, .int .u8 x.z4, .int .u8 x.z5, .int .u8 x.z6, .int .u8 x.z7] 52)) := ⟨_, rfl⟩
  have B0 := hide (show Below w.heap.size w w0 by rw [hw0.out]; exact (below_alloc _ _).alloc (by simp) _)
  go_enter Try.func10, Try.ntmps10
  go_wp2_with fail
  rw [← hw0.out]
  refine (hugeTree_any a k c ls w0 (HL.out.later B0.out)).mono ?_
  rintro e w1 ⟨rfl, hb1⟩
  rw [HH.out]
  go_wp2_with fail
  go_ret
  exact ⟨rfl, B0.out.trans (hb1.mono B0.out.size)⟩

set_option maxHeartbeats 4000000 in
set_option maxRecDepth 100000 in
theorem tputs_err (a : Option Addr) (k c : Nat) (ls : List (List Nat)) (at_ : Int) (x : B8) (w : World) (h : Lvls w a k ls) (hH : Mx.huge ls = false) (hE : ¬ Mx.tmay ls = 0) :
    Calls Try.prog 10 #[.agg #[.slice a k c], .int .i64 at_, .agg #[.int .u8 x.z0, .int .u8 x.z1, .int .u8 x.z2, .int .u8 x.z3, .int .u8 x.z4, .int .u8 x.z5, .int .u8 x.z6, .int .u8 x.z7]] w fun e w' => e = .returned (.bool true) ∧ Below w.heap.size w w' := by
  have HL := hide h
  have HH := hide hH
  have HE := hide hE
  clear h hH hE
  obtain ⟨w0, hw0⟩ : ∃ w0 : World, Hid (w0 = (w.alloc (.cells #[.slice a k c] 82)).alloc (.cells #[.int .u8 x.z0, .int .u8 x.z1, .int .u8 x.z2, .int .u8 x.z3, .int .u8 x.z4, .int .u8 x.z5, .int .u8 x.z6, .int .u8 x.z7] 52)) := ⟨_, rfl⟩
  have B0 := hide (show Below w.heap.size w w0 by rw [hw0.out]; exact (below_alloc _ _).alloc (by simp) _)
  have T0 := hide (show Bx w0 w.heap.size #[.slice a k c] 82 by rw [hw0.out]; exact (Bx.new w _ _).alloc _)
  have X0 := hide (show Bx w0 (w.heap.size + 1) #[.int .u8 x.z0, .int .u8 x.z1, .int .u8 x.z2, .int .u8 x.z3, .int .u8 x.z4, .int .u8 x.z5, .int .u8 x.z6, .int .u8 x.z7] 52 by
    rw [hw0.out]
    have h := Bx.new (w.alloc (.cells #[.slice a k c] 82)) #[.int .u8 x.z0, .int .u8 x.z1, .int .u8 x.z2, .int .u8 x.z3, .int .u8 x.z4, .int .u8 x.z5, .int .u8 x.z6, .int .u8 x.z7] 52
    rw [World.size_alloc] at h
    exact h)
  obtain ⟨E, hEE⟩ : ∃ E : Int, Hid (E = Mx.tmay ls) := ⟨_, rfl⟩
  go_enter Try.func10, Try.ntmps10
  go_wp2_with fail
  rw [← hw0.out]
  refine (hugeTree_any a k c ls w0 (HL.out.later B0.out)).mono ?_
  rintro e w1 ⟨rfl, hb1⟩
  rw [HH.out]
  have T1 := hide (T0.out.later hb1 T0.out.lt)
  have X1 := hide (X0.out.later hb1 X0.out.lt)
  have B1 := hide (B0.out.trans (hb1.mono B0.out.size))
  clear hb1
  have t1 := T1.out.one
  go_wp2_with fail
  refine (treeMay_any a k c ls w1 (HL.out.later B1.out)).mono ?_
  rintro e w2 ⟨rfl, hb2⟩
  rw [← hEE.out]
  have T2 := hide (T1.out.later hb2 T1.out.lt)
  have X2 := hide (X1.out.later hb2 X1.out.lt)
  have B2 := hide (B1.out.trans (hb2.mono B1.out.size))
  clear hb2 t1
  have t2 := T2.out.one
  go_wp2_with fail
  refine (tcheck_any a k c ls w2 (HL.out.later B2.out)).mono ?_
  rintro e w3 ⟨rfl, hb3⟩
  rw [← hEE.out]
  have T3 := hide (T2.out.later hb3 T2.out.lt)
  have X3 := hide (X2.out.later hb3 X2.out.lt)
  have B3 := hide (B2.out.trans (hb3.mono B2.out.size))
  clear hb3 t2
  go_wp2_with fail
  refine (is_any E E w3).mono ?_
  rintro e w4 ⟨rfl, rfl⟩
  rw [show (E == E) = true by simp]
  have t3 := T3.out.one
  obtain ⟨f0, f1, f2, f3, f4, f5, f6, f7⟩ := X3.out.eight
  go_wp2_with fail
  refine (tput_err a k c ls at_ x w4 (HL.out.later B3.out) HE.out).mono ?_
  rintro e w5 ⟨rfl, hb5⟩
  rw [← hEE.out]
  have B5 := hide (B3.out.trans (hb5.mono B3.out.size))
  clear hb5 t3 f0 f1 f2 f3 f4 f5 f6 f7
  have hE0 : (E == 0) = false := by rw [hEE.out]; have := HE.out; simpa using this
  have hE1 : (E != 0) = true := by rw [hEE.out]; have := HE.out; simpa using this
  go_wp2_with fail
  refine (is_any E E _).mono ?_
  rintro e w6 ⟨rfl, rfl⟩
  rw [show (E == E) = true by simp]
  go_wp2_with fail
  go_ret
  exact ⟨rfl, B5.out.alloc B5.out.size _⟩

set_option maxHeartbeats 4000000 in
set_option maxRecDepth 100000 in
theorem tputs_range (a : Option Addr) (k c : Nat) (l : List Nat) (at_ : Int) (x : B8) (w : World) (h : Lvls w a k (Mx.levels l)) (hH : Mx.huge (Mx.levels l) = false) (h1 : 1 ≤ l.length) (h2 : l.length ≤ 32) (hj : at_ < 0 ∨ (l.length : Int) ≤ at_) :
    Calls Try.prog 10 #[.agg #[.slice a k c], .int .i64 at_, .agg #[.int .u8 x.z0, .int .u8 x.z1, .int .u8 x.z2, .int .u8 x.z3, .int .u8 x.z4, .int .u8 x.z5, .int .u8 x.z6, .int .u8 x.z7]] w fun e w' => e = .returned (.bool true) ∧ Below w.heap.size w w' := by
  have HL := hide h
  have HH := hide hH
  have HE := hide (show Mx.tmay (Mx.levels l) = 0 from Mx.tmay_levels l h1 h2)
  have HZ := hide (Mx.levels_head l)
  have hk : 1 ≤ k := by rw [← h.1]; exact HZ.out.2
  have hkl : k ≤ maxLen := h.2.1
  unfold maxLen at hkl
  obtain ⟨b, off, l0, ai, ni, ci, hab, hbw, hl0, hcell, hu, hnc⟩ := h.at_ 0 (by omega)
  rw [HZ.out.1] at hl0
  obtain rfl : l = l0 := Option.some.inj hl0
  subst hab
  rw [Nat.add_zero] at hcell
  have hni : ni = l.length := hu.1.symm
  subst hni
  obtain ⟨bi, offi, hai, hbi, _⟩ := hu.2.2.2 h1
  subst hai
  have HU := hide hu
  have HC := hide hcell
  obtain ⟨N, hN⟩ : ∃ N : Nat, Hid (N = l.length) := ⟨_, rfl⟩
  have HJ := hide hj
  have HN1 := hide (show 1 ≤ N ∧ N ≤ 32 by rw [hN.out]; exact ⟨h1, h2⟩)
  rw [← hN.out] at HC HU hj
  clear h hH hl0 hu hnc hcell
  have hkp : (0 : Int) < k := by omega
  obtain ⟨w0, hw0⟩ : ∃ w0 : World, Hid (w0 = (w.alloc (.cells #[.slice (some ⟨b, off, none⟩) k c] 82)).alloc (.cells #[.int .u8 x.z0, .int .u8 x.z1, .int .u8 x.z2, .int .u8 x.z3, .int .u8 x.z4, .int .u8 x.z5, .int .u8 x.z6, .int .u8 x.z7] 52)) := ⟨_, rfl⟩
  have B0 := hide (show Below w.heap.size w w0 by rw [hw0.out]; exact (below_alloc _ _).alloc (by simp) _)
  have T0 := hide (show Bx w0 w.heap.size #[.slice (some ⟨b, off, none⟩) k c] 82 by rw [hw0.out]; exact (Bx.new w _ _).alloc _)
  have X0 := hide (show Bx w0 (w.heap.size + 1) #[.int .u8 x.z0, .int .u8 x.z1, .int .u8 x.z2, .int .u8 x.z3, .int .u8 x.z4, .int .u8 x.z5, .int .u8 x.z6, .int .u8 x.z7] 52 by
    rw [hw0.out]
    have h := Bx.new (w.alloc (.cells #[.slice (some ⟨b, off, none⟩) k c] 82)) #[.int .u8 x.z0, .int .u8 x.z1, .int .u8 x.z2, .int .u8 x.z3, .int .u8 x.z4, .int .u8 x.z5, .int .u8 x.z6, .int .u8 x.z7] 52
    rw [World.size_alloc] at h
    exact h)
  go_enter Try.func10, Try.ntmps10
  go_wp2_with fail
  rw [← hw0.out]
  refine (hugeTree_any (some ⟨b, off, none⟩) k c (Mx.levels l) w0 (HL.out.later B0.out)).mono ?_
  rintro e w1 ⟨rfl, hb1⟩
  rw [HH.out]
  have T1 := hide (T0.out.later hb1 T0.out.lt)
  have X1 := hide (X0.out.later hb1 X0.out.lt)
  have B1 := hide (B0.out.trans (hb1.mono B0.out.size))
  clear hb1
  have t1 := T1.out.one
  go_wp2_with fail
  refine (treeMay_any (some ⟨b, off, none⟩) k c (Mx.levels l) w1 (HL.out.later B1.out)).mono ?_
  rintro e w2 ⟨rfl, hb2⟩
  rw [HE.out]
  have T2 := hide (T1.out.later hb2 T1.out.lt)
  have X2 := hide (X1.out.later hb2 X1.out.lt)
  have B2 := hide (B1.out.trans (hb2.mono B1.out.size))
  clear hb2 t1
  have t2 := T2.out.one
  go_wp2_with fail
  refine (tcheck_any (some ⟨b, off, none⟩) k c (Mx.levels l) w2 (HL.out.later B2.out)).mono ?_
  rintro e w3 ⟨rfl, hb3⟩
  rw [HE.out]
  have T3 := hide (T2.out.later hb3 T2.out.lt)
  have X3 := hide (X2.out.later hb3 X2.out.lt)
  have B3 := hide (B2.out.trans (hb3.mono B2.out.size))
  clear hb3 t2
  go_wp2_with fail
  refine (is_any 0 0 w3).mono ?_
  rintro e w4 ⟨rfl, rfl⟩
  rw [show ((0 : Int) == 0) = true from rfl]
  have t3 := T3.out.one
  obtain ⟨f0, f1, f2, f3, f4, f5, f6, f7⟩ := X3.out.eight
  go_wp2_with fail
  refine (tput_range (some ⟨b, off, none⟩) k c l at_ x w4 (HL.out.later B3.out) hk h1 h2 HZ.out.1 HE.out HJ.out).mono ?_
  rintro e w5 ⟨rfl, hb5⟩
  have T5 := hide (T3.out.later hb5 T3.out.lt)
  have B5 := hide (B3.out.trans (hb5.mono B3.out.size))
  clear hb5 t3 f0 f1 f2 f3 f4 f5 f6 f7
  obtain ⟨w6, hw6⟩ : ∃ w6 : World, Hid (w6 = w5.alloc (.cells #[.slice none 0 0] 82)) := ⟨_, rfl⟩
  have B6 := hide (show Below w.heap.size w w6 by rw [hw6.out]; exact B5.out.alloc B5.out.size _)
  have T6 := hide (show Bx w6 w.heap.size #[.slice (some ⟨b, off, none⟩) k c] 82 by rw [hw6.out]; exact T5.out.alloc _)
  have R6 := hide (show Bx w6 w5.heap.size #[.slice none 0 0] 82 by rw [hw6.out]; exact Bx.new _ _ _)
  have t5 := T5.out.one
  have s5 := T5.out.lt
  have b5 : b < w5.heap.size := by have := B5.out.size; omega
  have c5 : w5.cell? ⟨b, off, none⟩ = some (.slice (some ⟨bi, offi, none⟩) N ci) := (B5.out.cell (p := ⟨b, off, none⟩) hbw).trans HC.out
  have HIS := hide (is_any 1 1 w6)
  rw [errV_not (by decide)] at HIS
  by_cases hn0 : at_ < 0
  · have hd0 : decide (at_ < 0) = true := by simpa using hn0
    clear hj
    go_wp2_with fail
    rw [← hw6.out]
    clear t5 c5
    have r6 := R6.out.one
    refine HIS.out.mono ?_
    rintro e w7 ⟨rfl, rfl⟩
    rw [show ((1 : Int) == 1) = true from rfl]
    go_wp2_with fail
    go_ret
    exact ⟨rfl, B6.out⟩
  · have hd0 : decide (at_ < 0) = false := by simpa using hn0
    have hn1 : (N : Int) ≤ at_ := by omega
    have hd1 : decide ((N : Int) ≤ at_) = true := by simpa using hn1
    clear hj
    go_wp2_with fail
    rw [← hw6.out]
    clear t5 c5
    have r6 := R6.out.one
    refine HIS.out.mono ?_
    rintro e w7 ⟨rfl, rfl⟩
    rw [show ((1 : Int) == 1) = true from rfl]
    go_wp2_with fail
    go_ret
    exact ⟨rfl, B6.out⟩

set_option maxHeartbeats 4000000 in
set_option maxRecDepth 100000 in
theorem tputs_ok (a : Option Addr) (k c : Nat) (l : List Nat) (j : Nat) (x : B8) (w : World) (h : Lvls w a k (Mx.levels l)) (hH : Mx.huge (Mx.levels l) = false) (h1 : 1 ≤ l.length) (h2 : l.length ≤ 32) (hx : x.ok) (hj : j < l.length) :
    Calls Try.prog 10 #[.agg #[.slice a k c], .int .i64 (j : Int), .agg #[.int .u8 x.z0, .int .u8 x.z1, .int .u8 x.z2, .int .u8 x.z3, .int .u8 x.z4, .int .u8 x.z5, .int .u8 x.z6, .int .u8 x.z7]] w fun e w' => e = .returned (.bool true) ∧ Below w.heap.size w w' := by
  have HL := hide h
  have HXO := hide hx
  have HH := hide hH
  have HE := hide (show Mx.tmay (Mx.levels l) = 0 from Mx.tmay_levels l h1 h2)
  have HZ := hide (Mx.levels_head l)
  have hk : 1 ≤ k := by rw [← h.1]; exact HZ.out.2
  have hkl : k ≤ maxLen := h.2.1
  unfold maxLen at hkl
  obtain ⟨b, off, l0, ai, ni, ci, hab, hbw, hl0, hcell, hu, hnc⟩ := h.at_ 0 (by omega)
  rw [HZ.out.1] at hl0
  obtain rfl : l = l0 := Option.some.inj hl0
  subst hab
  rw [Nat.add_zero] at hcell
  have hni : ni = l.length := hu.1.symm
  subst hni
  obtain ⟨bi, offi, hai, hbi, _⟩ := hu.2.2.2 h1
  subst hai
  have HU := hide hu
  have HC := hide hcell
  obtain ⟨N, hN⟩ : ∃ N : Nat, Hid (N = l.length) := ⟨_, rfl⟩
  have HJ := hide hj
  have HN1 := hide (show 1 ≤ N ∧ N ≤ 32 by rw [hN.out]; exact ⟨h1, h2⟩)
  rw [← hN.out] at HC HU hj
  clear h hH hl0 hu hnc hcell hx
  have hkp : (0 : Int) < k := by omega
  have hd0 : decide ((j : Int) < 0) = false := by simp
  have hjN : (j : Int) < N := by omega
  have hdN : decide ((N : Int) ≤ j) = false := by simp; omega
  obtain ⟨w0, hw0⟩ : ∃ w0 : World, Hid (w0 = (w.alloc (.cells #[.slice (some ⟨b, off, none⟩) k c] 82)).alloc (.cells #[.int .u8 x.z0, .int .u8 x.z1, .int .u8 x.z2, .int .u8 x.z3, .int .u8 x.z4, .int .u8 x.z5, .int .u8 x.z6, .int .u8 x.z7] 52)) := ⟨_, rfl⟩
  have B0 := hide (show Below w.heap.size w w0 by rw [hw0.out]; exact (below_alloc _ _).alloc (by simp) _)
  have T0 := hide (show Bx w0 w.heap.size #[.slice (some ⟨b, off, none⟩) k c] 82 by rw [hw0.out]; exact (Bx.new w _ _).alloc _)
  have X0 := hide (show Bx w0 (w.heap.size + 1) #[.int .u8 x.z0, .int .u8 x.z1, .int .u8 x.z2, .int .u8 x.z3, .int .u8 x.z4, .int .u8 x.z5, .int .u8 x.z6, .int .u8 x.z7] 52 by
    rw [hw0.out]
    have h := Bx.new (w.alloc (.cells #[.slice (some ⟨b, off, none⟩) k c] 82)) #[.int .u8 x.z0, .int .u8 x.z1, .int .u8 x.z2, .int .u8 x.z3, .int .u8 x.z4, .int .u8 x.z5, .int .u8 x.z6, .int .u8 x.z7] 52
    rw [World.size_alloc] at h
    exact h)
  go_enter Try.func10, Try.ntmps10
  go_wp2_with fail
  rw [← hw0.out]
  refine (hugeTree_any (some ⟨b, off, none⟩) k c (Mx.levels l) w0 (HL.out.later B0.out)).mono ?_
  rintro e w1 ⟨rfl, hb1⟩
  rw [HH.out]
  have T1 := hide (T0.out.later hb1 T0.out.lt)
  have X1 := hide (X0.out.later hb1 X0.out.lt)
  have B1 := hide (B0.out.trans (hb1.mono B0.out.size))
  clear hb1
  have t1 := T1.out.one
  go_wp2_with fail
  refine (treeMay_any (some ⟨b, off, none⟩) k c (Mx.levels l) w1 (HL.out.later B1.out)).mono ?_
  rintro e w2 ⟨rfl, hb2⟩
  rw [HE.out]
  have T2 := hide (T1.out.later hb2 T1.out.lt)
  have X2 := hide (X1.out.later hb2 X1.out.lt)
  have B2 := hide (B1.out.trans (hb2.mono B1.out.size))
  clear hb2 t1
  have t2 := T2.out.one
  go_wp2_with fail
  refine (tcheck_any (some ⟨b, off, none⟩) k c (Mx.levels l) w2 (HL.out.later B2.out)).mono ?_
  rintro e w3 ⟨rfl, hb3⟩
  rw [HE.out]
  have T3 := hide (T2.out.later hb3 T2.out.lt)
  have X3 := hide (X2.out.later hb3 X2.out.lt)
  have B3 := hide (B2.out.trans (hb3.mono B2.out.size))
  clear hb3 t2
  go_wp2_with fail
  refine (is_any 0 0 w3).mono ?_
  rintro e w4 ⟨rfl, rfl⟩
  rw [show ((0 : Int) == 0) = true from rfl]
  have t3 := T3.out.one
  obtain ⟨f0, f1, f2, f3, f4, f5, f6, f7⟩ := X3.out.eight
  go_wp2_with fail
  refine (tput_ok (some ⟨b, off, none⟩) k c l j x w4 (HL.out.later B3.out) hk h1 h2 HZ.out.1 HE.out HXO.out HJ.out).mono ?_
  rintro e w5 ⟨a', k', cap', rfl, hLv, hb5⟩
  obtain ⟨Z, hZ⟩ : ∃ Z : Nat, Hid (Z = Mx.blockD x) := ⟨_, rfl⟩
  rw [← hZ.out] at hLv
  obtain rfl : k' = k := by
    have e1 := hLv.out.1.1
    have e2 := HL.out.1
    rw [← e1, ← e2]
    exact Mx.levels_len _ _ (by simp)
  have T5 := hide (T3.out.later hb5.out T3.out.lt)
  have X5 := hide (X3.out.later hb5.out X3.out.lt)
  have B5 := hide (B3.out.trans (hb5.out.mono B3.out.size))
  clear hb5 t3 f0 f1 f2 f3 f4 f5 f6 f7
  obtain ⟨w6, hw6⟩ : ∃ w6 : World, Hid (w6 = w5.alloc (.cells #[.slice a' k' cap'] 82)) := ⟨_, rfl⟩
  have B6 := hide (show Below w.heap.size w w6 by rw [hw6.out]; exact B5.out.alloc B5.out.size _)
  have B56 := hide (show Below w5.heap.size w5 w6 by rw [hw6.out]; exact below_alloc _ _)
  have T6 := hide (show Bx w6 w.heap.size #[.slice (some ⟨b, off, none⟩) k' c] 82 by rw [hw6.out]; exact T5.out.alloc _)
  have X6 := hide (X5.out.later B56.out X5.out.lt)
  have R6 := hide (show Bx w6 w5.heap.size #[.slice a' k' cap'] 82 by rw [hw6.out]; exact Bx.new _ _ _)
  have LV6 := hide (hLv.out.1.later B56.out)
  have t5 := T5.out.one
  have s5 := T5.out.lt
  have b5 : b < w5.heap.size := by have := B5.out.size; omega
  have c5 : w5.cell? ⟨b, off, none⟩ = some (.slice (some ⟨bi, offi, none⟩) N ci) := (B5.out.cell (p := ⟨b, off, none⟩) hbw).trans HC.out
  have HS6 := hide (show w6.heap.size = w5.heap.size + 1 by rw [hw6.out]; simp)
  go_wp2_with (at_builtin; refine wpList_append_u64row rfl _ _ rfl w6.heap.size [] ?o1 bi offi N ci l ?o2 rfl ?o3 ?o4 ?o5 ?_)
  case o1 =>
    rw [← hw6.out]
    have h := World.ownsRow_made (e := 78) (size := 1) w6 #[] 0 (Nat.le_refl _) (Nat.zero_le _) (by simp)
    rw [HS6.out] at h
    rw [HS6.out]
    exact h
  case o2 =>
    rw [← hw6.out]
    exact (HU.out.later B6.out).later (below_alloc _ _)
  case o3 => exact HN1.out.1
  case o4 => have := HN1.out.2; simp; omega
  case o5 => rw [← hw6.out]; simp
  intro v8 w8 hown hgrow
  rw [← hw6.out] at hgrow
  have O8 := hide (show OwnU w8 w6.heap.size v8 l by simpa using hown)
  have B68 := hide (show Below w6.heap.size w6 w8 from ((Below.refl _ w6).alloc (Nat.le_refl _) _).grown hgrow (by simp) (by intro k hk; simp [Value.ownBlock] at hk; have := HS6.out; omega))
  clear hown hgrow t5 c5
  obtain ⟨a8, c8, hv8⟩ := O8.out.form
  rw [← hN.out] at hv8
  subst hv8
  obtain ⟨g, hag⟩ : ∃ g, a8 = some ⟨g, 0, none⟩ := by
    rcases O8.out.2 with ⟨hv, hz⟩ | ⟨g', cap', cur, hv, _⟩
    · omega
    · simp only [Value.slice.injEq] at hv
      exact ⟨g', hv.1⟩
  subst hag
  have hgl := World.ownsRow.lt O8.out g rfl
  have X8 := hide (X6.out.later B68.out X6.out.lt)
  have B8 := hide (B6.out.trans (B68.out.mono B6.out.size))
  obtain ⟨f0, f1, f2, f3, f4, f5, f6, f7⟩ := X8.out.eight
  obtain ⟨w9, hw9⟩ : ∃ w9 : World, Hid (w9 = w8.alloc (.cells #[.int .u8 x.z0, .int .u8 x.z1, .int .u8 x.z2, .int .u8 x.z3, .int .u8 x.z4, .int .u8 x.z5, .int .u8 x.z6, .int .u8 x.z7] 52)) := ⟨_, rfl⟩
  have B89 := hide (show Below w8.heap.size w8 w9 by rw [hw9.out]; exact below_alloc _ _)
  have L9 := hide (show BL w9 (some ⟨w8.heap.size, 0, none⟩) 1 [x] by rw [hw9.out]; exact (OwnBL.one w8 w8.heap.size (Nat.le_refl _) x).asBL)
  go_wp2_with fail
  rw [← hw9.out]
  refine (treeOf_any (some ⟨w8.heap.size, 0, none⟩) 1 1 [x] w9 L9.out (by intro y hy; simp at hy; rw [hy]; exact HXO.out) (Nat.le_refl _) (by omega)).mono ?_
  rintro e w10 ⟨a10, k10, cap10, rfl, hL10, hb10⟩
  have HG10 := hide (show (Mx.levels ([x].map Mx.blockD)).getD 0 [] = [Z] by rw [List.getD_eq_getElem?_getD, (Mx.levels_head _).1, hZ.out]; rfl)
  have HK10 := hide (show 1 ≤ k10 by rw [← hL10.out.1.1]; exact (Mx.levels_head _).2)
  obtain ⟨b10, off10, bj, offj, nj, cj, z10, hab10, _, d1, hnj, d2, hz10⟩ := hL10.out.1.nd_ 0 0 HK10.out (by rw [HG10.out]; simp)
  subst hab10
  have HNJ := hide (show nj = 1 by rw [hnj, HG10.out]; rfl)
  rw [HNJ.out] at d1
  have HZ10 := hide (show z10 = Z by rw [hz10, Mx.nd, HG10.out]; rfl)
  rw [HZ10.out] at d2
  rw [Nat.add_zero] at d1 d2
  clear hnj hz10 f0 f1 f2 f3 f4 f5 f6 f7
  have hk10 : (0 : Int) < k10 := by have := HK10.out; omega
  have B810 := hide (B89.out.trans (hb10.out.mono B89.out.size))
  have O10 := hide (show OwnU w10 w6.heap.size (.slice (some ⟨g, 0, none⟩) N c8) l from rowKept O8.out B810.out)
  have B610 := hide (B68.out.trans (B810.out.mono B68.out.size))
  obtain ⟨b11, off11, x11, hab11, _, _, _, u0⟩ := (O10.out.read HU.out.2.2.1).1.at_ j (by omega)
  simp only [Option.some.injEq, Addr.mk.injEq, and_true] at hab11
  obtain ⟨rfl, rfl⟩ := hab11
  rw [Nat.zero_add] at u0
  have uz : ∀ o, w10.frozen? ⟨g, o, none⟩ = false := by
    rcases O10.out.2 with ⟨hv, _⟩ | ⟨g', cap', cur, hv, _, hh, _⟩
    · cases hv
    · simp only [Value.slice.injEq, Option.some.injEq, Addr.mk.injEq, and_true] at hv
      obtain ⟨rfl, _, _⟩ := hv
      exact fun o => (show Bx w10 g cur 78 from hh).frozen o
  obtain ⟨w11, hw11⟩ : ∃ w11 : World, Hid (w11 = w10.setCell ⟨g, j, none⟩ (.int .u64 (Z : Int))) := ⟨_, rfl⟩
  have O11 := hide (show OwnU w11 w6.heap.size (.slice (some ⟨g, 0, none⟩) N c8) (l.set j Z) by rw [hw11.out]; exact (O10.out.set1 j Z).1)
  have B611 := hide (show Below w6.heap.size w6 w11 by rw [hw11.out]; exact B610.out.setCell (p := ⟨g, j, none⟩) hgl.1 _)
  have HU11 := hide (O11.out.read (by
    intro z hz'
    rcases List.mem_or_eq_of_mem_set hz' with h | h
    · exact HU.out.2.2.1 z h
    · rw [h, hZ.out]
      exact Mx.blockD_lt x))
  have hfd : ∀ (a : Option Addr) (k c : Nat) (W : World), (Instr.field 82 (.agg #[.slice a k c]) 0).run Try.prog W = .ok (.slice a k c) W := fun _ _ _ _ => by kernel_rfl
  have T11 := hide (T6.out.later B611.out T6.out.lt)
  have R11 := hide (R6.out.later B611.out R6.out.lt)
  have LV11 := hide (LV6.out.later B611.out)
  have B11 := hide (B6.out.trans (B611.out.mono B6.out.size))
  go_upto_region 13 with fail
  rw [← hw11.out]
  clear d1 d2 u0 uz hfd
  have t11 := T11.out.one
  have r11 := R11.out.one
  obtain ⟨b12, off12, l12, ai12, ni12, ci12, hab12, _, hl12, e12, hu12, _⟩ := LV11.out.at_ 0 hk
  subst hab12
  rw [(Mx.levels_head _).1] at hl12
  obtain rfl : l.set j Z = l12 := Option.some.inj hl12
  rw [Nat.add_zero] at e12
  have HU12 := hide hu12
  clear hl12 hu12
  go_wp2_with fail
  refine (sameLevel_any ai12 (some ⟨g, 0, none⟩) ni12 ci12 N c8 (l.set j Z) (l.set j Z) w11 HU12.out HU11.out.1).mono ?_
  rintro e w12 ⟨r, rfl, hr, q, rfl⟩
  obtain rfl : r = true := hr.2 rfl
  clear hr e12
  go_wp2_with fail
  refine (treeMay_any (some ⟨b12, off12, none⟩) k' cap' (Mx.levels (l.set j Z)) _ (LV11.out.later (below_drewN (Below.refl _ _) q))).mono ?_
  rintro e w13 ⟨rfl, hb13⟩
  have HE13 := hide (show Mx.tmay (Mx.levels (l.set j Z)) = 0 from Mx.tmay_levels _ (by simpa using h1) (by simpa using h2))
  rw [HE13.out]
  have B13 := hide ((below_drewN B11.out q).trans (hb13.mono (below_drewN B11.out q).size))
  go_wp2_with fail
  go_ret
  exact ⟨rfl, B13.out⟩

theorem tputs_any (a : Option Addr) (k c : Nat) (ls : List (List Nat)) (at_ : Int) (x : B8) (w : World) (h : Lvls w a k ls) (hx : x.ok) :
    Calls Try.prog 10 #[.agg #[.slice a k c], .int .i64 at_, .agg #[.int .u8 x.z0, .int .u8 x.z1, .int .u8 x.z2, .int .u8 x.z3, .int .u8 x.z4, .int .u8 x.z5, .int .u8 x.z6, .int .u8 x.z7]] w fun e w' => e = .returned (.bool true) ∧ Below w.heap.size w w' := by
  cases hH : Mx.huge ls with
  | true => exact tputs_huge a k c ls at_ x w h hH
  | false =>
    by_cases hE : Mx.tmay ls = 0
    · obtain ⟨l, rfl, h1, h2, _, _⟩ := Mx.tmay_zero hE
      by_cases hj : at_ < 0 ∨ (l.length : Int) ≤ at_
      · exact tputs_range a k c l at_ x w h hH h1 h2 hj
      · have := tputs_ok a k c l at_.toNat x w h hH h1 h2 hx (by omega)
        rw [show ((at_.toNat : Nat) : Int) = at_ by omega] at this
        exact this
    · exact tputs_err a k c ls at_ x w h hH hE

end Go.Proofs.Ytdhmijjphgcdmaa
