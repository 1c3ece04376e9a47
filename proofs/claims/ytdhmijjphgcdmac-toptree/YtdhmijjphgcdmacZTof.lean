/-
  A tree of blocks, as the program makes it (Of).
-/
import Derived.Laws.OwnMore
import Derived.Lib.SliceRun
import Derived.Test.YtdhmijjphgcdmacZIs
import Derived.Test.YtdhmijjphgcdmacZDclone
import Derived.Test.YtdhmijjphgcdmacZTs
import Derived.Test.YtdhmijjphgcdmacZTg

namespace Go.Proofs.Ytdhmijjphgcdmac
open Go.RowKit

theorem made_u64 (N : Nat) : (madeCells #[Value.int .u64 0] N).toList = List.replicate N (Value.int .u64 0) := by
  rw [List.eq_replicate_iff]
  refine ⟨by simp [madeCells], fun b hb => ?_⟩
  simp only [madeCells, Array.toList_map, List.mem_map] at hb
  obtain ⟨i, _, rfl⟩ := hb
  show #[Value.int .u64 0][i % 1]! = _
  rw [Nat.mod_one]
  rfl
theorem make_u64s (n : Nat) (hn : n ≤ 1000) : ∃ C : Array Value, (∀ w : World, (Instr.makeSlice 120 (.int .i64 (n : Int)) (.int .i64 (n : Int))).run Try.prog w = .ok (.slice (some ⟨w.heap.size, 0, none⟩) n n) (w.alloc (.cells C 121))) ∧
    Hid (∀ (w : World) (base : Nat), base ≤ w.heap.size → OwnU (w.alloc (.cells C 121)) base (.slice (some ⟨w.heap.size, 0, none⟩) n n) (List.replicate n 0)) := by
  obtain ⟨i0, hi, hz0, hz1, hz2⟩ := info_parts Try.info121
  refine ⟨madeCells #[Value.int .u64 0] (n * 1), fun w => ?_, fun w base hb => ?_⟩
  · have h := run_makeSlice (P := Try.prog) w 120 121 i0 _ Try.underlying120 hi hz0 .i64 .i64 (n : Int) (n : Int) (by omega) (Int.le_refl _) (by rw [hz1]; simp; omega) (by rw [hz2]; omega) (by omega)
    rw [hz1] at h
    simpa [Value.cells] using h
  · have h := World.ownsRow_lit (base := base) (e := 121) (size := 1) w (madeCells #[Value.int .u64 0] (n * 1)) n hb (by unfold maxLen; omega) (size_madeCells _ _)
    unfold OwnU
    rw [List.length_replicate, List.map_replicate]
    rw [made_u64, Nat.mul_one] at h
    rw [Nat.mul_one]
    exact h

theorem OwnU.set1 {w : World} {base g n cap : Nat} {l : List Nat} (h : OwnU w base (.slice (some ⟨g, 0, none⟩) n cap) l) (k z : Nat) : OwnU (w.setCell ⟨g, k, none⟩ (.int .u64 (z : Int))) base (.slice (some ⟨g, 0, none⟩) n cap) (l.set k z) ∧ base ≤ g ∧ g < w.heap.size ∧ l.length = n := by
  rcases h.2 with ⟨hv, _⟩ | ⟨g', cap', cur, hv, hb, hh, hle, hmx, hcs, htk⟩
  · cases hv
  · simp only [Value.slice.injEq, Option.some.injEq, Addr.mk.injEq, and_true] at hv
    obtain ⟨rfl, hn, rfl⟩ := hv
    have hbx : Bx w g cur 121 := hh
    refine ⟨⟨by simp, .inr ⟨g, cap, _, by rw [List.length_set, hn], hb, hbx.set k (.int .u64 (z : Int)), by rw [List.length_set]; exact hle, hmx, by simpa using hcs, ?_⟩⟩, hb, hbx.lt, hn.symm⟩
    simp only [Array.toList_setIfInBounds, List.take_set, List.length_set]
    rw [htk, List.map_set]

set_option maxHeartbeats 4000000 in
set_option maxRecDepth 100000 in
theorem of_any (a : Option Addr) (n c : Nat) (l : List B8) (w : World) (hl : BL w a n l) (hok : ∀ x ∈ l, x.ok) (hn0 : 1 ≤ n) (hn : n ≤ 32) :
    Calls Try.prog 24 #[.slice a n c] w fun e w' => ∃ a' k cap, e = .returned (.tuple #[.agg #[.slice a' k cap], .nilIface]) ∧ Hid (Lvls w' a' k (Mx.levels (l.map Mx.blockD)) ∧ k ≤ cap) ∧ Hid (Below w.heap.size w w') := by
  have HL := hide hl
  have HN := hide hl.1
  have HOK := hide hok
  have HMH := hide (show Mx.mayHave n = true by unfold Mx.mayHave; simp; omega)
  clear hl hok
  obtain ⟨C, hC, HC⟩ := make_u64s n (by omega)
  go_enter Try.func24, Try.ntmps24
  go_wp2_with fail
  refine (mayHave_any n _).mono ?_
  rintro e w1 ⟨rfl, rfl⟩
  rw [HMH.out]
  go_wp2_with fail
  obtain ⟨w0, hw0⟩ : ∃ w0 : World, Hid (w0 = (w.alloc (.cells #[.slice none 0 0] 60)).alloc (.cells C 121)) := ⟨_, rfl⟩
  rw [← hw0.out]
  have R0 := hide (show Bx w0 w.heap.size #[.slice none 0 0] 60 by rw [hw0.out]; exact (Bx.new w _ _).alloc _)
  have U0 := hide (show OwnU w0 (w.heap.size + 1) (.slice (some ⟨w.heap.size + 1, 0, none⟩) n n) (List.replicate n 0) by
    rw [hw0.out]
    have h := HC.out (w.alloc (.cells #[.slice none 0 0] 60)) (w.heap.size + 1) (by simp)
    rw [World.size_alloc] at h
    exact h)
  have B0 := hide (show Below w.heap.size w w0 by rw [hw0.out]; exact (below_alloc _ _).alloc (by simp) _)
  go_loopw [18] (fun i wr => ∃ k : Nat, k ≤ n ∧ i = .int .i64 k ∧ Hid (Bx wr w.heap.size #[.slice none 0 0] 60 ∧ OwnU wr (w.heap.size + 1) (.slice (some ⟨w.heap.size + 1, 0, none⟩) n n) ((l.take k).map Mx.blockD ++ List.replicate (n - k) 0) ∧ Below w.heap.size w wr)) (fun i _ => n - (intOf i).toNat)
  case atStart => exact ⟨0, by omega, rfl, R0.out, by simpa using U0.out, B0.out⟩
  case round =>
    obtain ⟨k, hk, rfl, hI⟩ := hrel
    by_cases hlt : k < n
    · obtain ⟨b, off, y, rfl, hb, hy, e0, e1, e2, e3, e4, e5, e6, e7⟩ := (HL.out.later hI.out.2.2).at_ k hlt
      have HY := hide hy
      have HYO := hide (HOK.out y (List.mem_of_getElem? hy))
      clear hy
      obtain ⟨w2, hw2⟩ : ∃ w2 : World, Hid (w2 = wr.alloc (.cells #[.int .u8 y.z0, .int .u8 y.z1, .int .u8 y.z2, .int .u8 y.z3, .int .u8 y.z4, .int .u8 y.z5, .int .u8 y.z6, .int .u8 y.z7] 50)) := ⟨_, rfl⟩
      have I2 := hide (show Bx w2 w.heap.size #[.slice none 0 0] 60 ∧ OwnU w2 (w.heap.size + 1) (.slice (some ⟨w.heap.size + 1, 0, none⟩) n n) ((l.take k).map Mx.blockD ++ List.replicate (n - k) 0) ∧ Below w.heap.size w w2 by
        rw [hw2.out]
        exact ⟨hI.out.1.alloc _, World.ownsRow.alloc hI.out.2.1 _, hI.out.2.2.alloc hI.out.2.2.size _⟩)
      go_wp2_with fail
      rw [← hw2.out]
      clear e0 e1 e2 e3 e4 e5 e6 e7
      refine (ofBlock_any y HYO.out w2).mono ?_
      rintro e w3 ⟨rfl, hb3⟩
      have R3 := hide (I2.out.1.later hb3 I2.out.1.lt)
      have U3 := hide (show OwnU w3 (w.heap.size + 1) (.slice (some ⟨w.heap.size + 1, 0, none⟩) n n) ((l.take k).map Mx.blockD ++ List.replicate (n - k) 0) from rowKept I2.out.2.1 hb3)
      have B3 := hide (I2.out.2.2.trans (hb3.mono I2.out.2.2.size))
      clear hb3
      obtain ⟨Z, hZ⟩ : ∃ Z : Nat, Hid (Z = Mx.blockD y) := ⟨_, rfl⟩
      rw [← hZ.out]
      have HS := hide (U3.out.set1 k Z)
      have HRD := hide (U3.out.read (by
        intro z hz
        rcases List.mem_append.1 hz with h | h
        · obtain ⟨x, _, rfl⟩ := List.mem_map.1 h
          exact Mx.blockD_lt x
        · rw [List.eq_of_mem_replicate h]
          decide)).1
      obtain ⟨b5, off5, x5, hab, _, _, _, u0⟩ := HRD.out.at_ k hlt
      simp only [Option.some.injEq, Addr.mk.injEq, and_true] at hab
      obtain ⟨rfl, rfl⟩ := hab
      rw [Nat.zero_add] at u0
      have uz : ∀ o, w3.frozen? ⟨w.heap.size + 1, o, none⟩ = false := by
        rcases U3.out.2 with ⟨hv, _⟩ | ⟨g', cap', cur, hv, _, hh, _⟩
        · cases hv
        · simp only [Value.slice.injEq, Option.some.injEq, Addr.mk.injEq, and_true] at hv
          obtain ⟨rfl, _, _⟩ := hv
          exact fun o => (show Bx w3 (w.heap.size + 1) cur 121 from hh).frozen o
      have HNX := hide (show OwnU (w3.setCell ⟨w.heap.size + 1, k, none⟩ (.int .u64 (Z : Int))) (w.heap.size + 1) (.slice (some ⟨w.heap.size + 1, 0, none⟩) n n) ((l.take (k + 1)).map Mx.blockD ++ List.replicate (n - (k + 1)) 0) by
        have h := HS.out.1
        have hlen : ((l.take k).map Mx.blockD).length = k := by rw [List.length_map, List.length_take, HN.out]; omega
        rw [List.set_append_right _ _ (by omega), hlen, Nat.sub_self, show n - k = (n - (k + 1)) + 1 by omega, List.replicate_succ, List.set_cons_zero] at h
        rw [getElem_take_succ _ _ _ HY.out, List.map_append, List.map_cons, List.map_nil, ← hZ.out, List.append_assoc]
        exact h)
      go_wp2_with fail
      go_roundw
      case rel => exact ⟨k + 1, by omega, by go_num, R3.out.other _ _ (by show w.heap.size ≠ w.heap.size + 1; omega), HNX.out, B3.out.setCell (p := ⟨w.heap.size + 1, k, none⟩) (by show w.heap.size ≤ w.heap.size + 1; omega) _⟩
      case measure => simp [intOf]; omega
    · have HE := hide (show (l.take k).map Mx.blockD ++ List.replicate (n - k) 0 = l.map Mx.blockD by
        rw [List.take_of_length_le (by rw [HN.out]; omega), show n - k = 0 by omega]
        simp)
      have HU := hide (show U64s wr (some ⟨w.heap.size + 1, 0, none⟩) n (l.map Mx.blockD) by
        have h := (hI.out.2.1.read (by
          rw [HE.out]
          intro z hz
          obtain ⟨x, _, rfl⟩ := List.mem_map.1 hz
          exact Mx.blockD_lt x)).1
        rw [HE.out] at h
        exact h)
      go_wp2_with fail
      have hgl : w.heap.size + 1 < wr.heap.size := (World.ownsRow.lt hI.out.2.1 _ rfl).2
      refine (grow_any (w.heap.size + 1) 0 n n _ wr HU.out hgl hn0 (by omega) (Nat.le_refl _)).mono ?_
      rintro e w5 ⟨a5, k5, cap5, rfl, hO5, hb5⟩
      have R5 := hide (hI.out.1.later hb5.out hI.out.1.lt)
      have B5 := hide (hI.out.2.2.trans (hb5.out.mono hI.out.2.2.size))
      have r0 := R5.out.one
      have rz := R5.out.frozen
      have q5 := own_ne_bx hO5.out.choose_spec.1 R5.out (by decide)
      go_wp2_with fail
      have r1 := (show Bx _ _ #[.slice a5 k5 cap5] 60 from R5.out.set 0 (.slice a5 k5 cap5)).one
      refine bodyPost_ret (v := .tuple #[.agg #[.slice a5 k5 cap5], .nilIface]) (by simp [results, Try.results24, go_sem, r1]) rfl ⟨a5, k5, cap5, rfl, ?_, B5.out.setCell (p := ⟨w.heap.size, 0, none⟩) (Nat.le_refl _) _⟩
      exact (hO5.out.setOther ⟨w.heap.size, 0, none⟩ (.slice a5 k5 cap5) q5 (by show ¬ (w.heap.size = w.heap.size + 1 ∨ wr.heap.size + 3 ≤ w.heap.size); omega)).lv

end Go.Proofs.Ytdhmijjphgcdmac

/-
  Of's error; whether a tree may be, as the program says it (Check), where it may be.
-/
namespace Go.Proofs.Ytdhmijjphgcdmac
open Go.RowKit

set_option maxHeartbeats 1000000 in
set_option maxRecDepth 100000 in
theorem of_err (a : Option Addr) (n c : Nat) (w : World) (hn : n < 1 ∨ 32 < n) :
    Calls Try.prog 24 #[.slice a n c] w fun e w' => e = .returned (.tuple #[.agg #[.slice none 0 0], .iface 36 (.int .i64 1)]) ∧ Below w.heap.size w w' := by
  have HMH := hide (show Mx.mayHave n = false by unfold Mx.mayHave; simp; omega)
  go_enter Try.func24, Try.ntmps24
  go_wp2_with fail
  refine (mayHave_any n _).mono ?_
  rintro e w1 ⟨rfl, rfl⟩
  rw [HMH.out]
  go_wp2_with fail
  have r1 := (Bx.new w #[.slice none 0 0] 60).one
  exact bodyPost_ret (v := .tuple #[.agg #[.slice none 0 0], .iface 36 (.int .i64 1)]) (by simp [results, Try.results24, go_sem, r1]) rfl ⟨rfl, below_alloc _ _⟩

set_option maxHeartbeats 4000000 in
set_option maxRecDepth 100000 in
theorem tcheck_ok (a : Option Addr) (k c : Nat) (l : List Nat) (w : World) (h : Lvls w a k (Mx.levels l)) (hk : 1 ≤ k) (h1 : 1 ≤ l.length) (h2 : l.length ≤ 32) (hz : (Mx.levels l)[0]? = some l) :
    Calls Try.prog 67 #[.agg #[.slice a k c]] w fun e w' => e = .returned .nilIface ∧ Below w.heap.size w w' := by
  have HL := hide h
  have hkl : k ≤ maxLen := h.2.1
  unfold maxLen at hkl
  have HMH := hide (show Mx.mayHave l.length = true by unfold Mx.mayHave; simp; omega)
  obtain ⟨b, off, l0, ai, ni, ci, hab, hbw, hl0, hcell, hu, hnc⟩ := h.at_ 0 (by omega)
  rw [hz] at hl0
  obtain rfl : l = l0 := Option.some.inj hl0
  subst hab
  rw [Nat.add_zero] at hcell
  have hni : ni = l.length := hu.1.symm
  subst hni
  obtain ⟨bi, offi, hai, hbi, _⟩ := hu.2.2.2 h1
  subst hai
  have HU := hide hu
  have HNC := hide hnc
  clear h hz hl0 hu hnc
  have hk0 : ((k : Int) == 0) = false := by simp; omega
  have hkp : (0 : Int) < k := by omega
  have hkr : 0 < k := by omega
  have hks : ¬ k = 0 := by omega
  have hkt : ¬ (k : Int) ≤ 0 := by omega
  obtain ⟨w0, hw0⟩ : ∃ w0 : World, Hid (w0 = w.alloc (.cells #[.slice (some ⟨b, off, none⟩) k c] 60)) := ⟨_, rfl⟩
  have B0 := hide (show Below w.heap.size w w0 by rw [hw0.out]; exact below_alloc _ _)
  have X0 := hide (show Bx w0 w.heap.size #[.slice (some ⟨b, off, none⟩) k c] 60 by rw [hw0.out]; exact Bx.new _ _ _)
  have hc0 : w0.cell? ⟨b, off, none⟩ = some (.slice (some ⟨bi, offi, none⟩) l.length ci) := (B0.out.cell (p := ⟨b, off, none⟩) hbw).trans hcell
  obtain ⟨N, hN⟩ : ∃ N : Nat, Hid (N = l.length) := ⟨_, rfl⟩
  rw [← hN.out] at hc0 hcell HMH HU HNC h1 h2
  have x0 := X0.out.one
  go_enter Try.func67, Try.ntmps67
  go_wp2_with fail
  rw [← hw0.out]
  refine (mayHave_any N w0).mono ?_
  rintro e w1 ⟨rfl, rfl⟩
  rw [HMH.out]
  clear hcell
  have hfd : ∀ (a : Option Addr) (k c : Nat) (W : World), (Instr.field 60 (.agg #[.slice a k c]) 0).run Try.prog W = .ok (.slice a k c) W := fun _ _ _ _ => by kernel_rfl
  go_wp2_with fail
  go_region_held3 (fun w' => w'.cell? ⟨w.heap.size, 0, none⟩ = some (.slice (some ⟨b, off, none⟩) k c) ∧ w'.cell? ⟨b, off, none⟩ = some (.slice (some ⟨bi, offi, none⟩) N ci))
    (first | exact ⟨x0, hc0⟩ | exact ⟨y0, y1⟩)
    (first
    | (go_at_call 66; refine (grow_any bi offi N ci l w1.drew ((HU.out.later B0.out).later (Below.refl _ _).drew) (by show bi < w1.heap.size; have := B0.out.size; omega) h1 (by omega) HNC.out).mono ?_; rintro e w2 ⟨a2, k2, cap2, rfl, hO2, hb2⟩; have y0 := (hb2.out.cell (p := ⟨w.heap.size, 0, none⟩) X0.out.lt).trans x0; have y1 := (hb2.out.cell (p := ⟨b, off, none⟩) (by show b < w1.heap.size; have := B0.out.size; omega)).trans hc0)
    | (go_at_call 102; refine (equalF_any (some ⟨b, off, none⟩) a2 k c k2 cap2 (Mx.levels l) (Mx.levels l) w2 ((HL.out.later (B0.out.drew)).later hb2.out) hO2.out.lv.1).mono ?_; rintro e w3 ⟨r, rfl, hr, q, rfl⟩))
  all_goals
    obtain rfl : r = true := by simpa using hr
    have HB := hide (show Below w.heap.size w w2 from B0.out.drew.trans (hb2.out.mono B0.out.size))
    clear hr
    go_wp2_with fail
    go_ret
    exact ⟨rfl, below_drewN HB.out _⟩

end Go.Proofs.Ytdhmijjphgcdmac

/-
  Whether a tree may be, as the program says it (Check): where it has a first level that may be.
-/
namespace Go.Proofs.Ytdhmijjphgcdmac
open Go.RowKit

/-- the levels are those of that first one, or the error -/
def Mx.tsame (ls : List (List Nat)) (l : List Nat) : Int := if ls = Mx.levels l then 0 else 3

set_option maxHeartbeats 4000000 in
set_option maxRecDepth 100000 in
theorem tcheck_grow (a : Option Addr) (k c : Nat) (ls : List (List Nat)) (l : List Nat) (w : World) (h : Lvls w a k ls) (hk : 1 ≤ k) (h1 : 1 ≤ l.length) (h2 : l.length ≤ 32) (hz : ls[0]? = some l) :
    Calls Try.prog 67 #[.agg #[.slice a k c]] w fun e w' => e = .returned (errV (Mx.tsame ls l)) ∧ Below w.heap.size w w' := by
  have HL := hide h
  have hkl : k ≤ maxLen := h.2.1
  unfold maxLen at hkl
  have HMH := hide (show Mx.mayHave l.length = true by unfold Mx.mayHave; simp; omega)
  obtain ⟨b, off, l0, ai, ni, ci, hab, hbw, hl0, hcell, hu, hnc⟩ := h.at_ 0 (by omega)
  rw [hz] at hl0
  obtain rfl : l = l0 := Option.some.inj hl0
  subst hab
  rw [Nat.add_zero] at hcell
  have hni : ni = l.length := hu.1.symm
  subst hni
  obtain ⟨bi, offi, hai, hbi, _⟩ := hu.2.2.2 h1
  subst hai
  have HU := hide hu
  have HNC := hide hnc
  clear h hz hl0 hu hnc
  have hk0 : ((k : Int) == 0) = false := by simp; omega
  have hkp : (0 : Int) < k := by omega
  have hkr : 0 < k := by omega
  have hks : ¬ k = 0 := by omega
  have hkt : ¬ (k : Int) ≤ 0 := by omega
  obtain ⟨w0, hw0⟩ : ∃ w0 : World, Hid (w0 = w.alloc (.cells #[.slice (some ⟨b, off, none⟩) k c] 60)) := ⟨_, rfl⟩
  have B0 := hide (show Below w.heap.size w w0 by rw [hw0.out]; exact below_alloc _ _)
  have X0 := hide (show Bx w0 w.heap.size #[.slice (some ⟨b, off, none⟩) k c] 60 by rw [hw0.out]; exact Bx.new _ _ _)
  have hc0 : w0.cell? ⟨b, off, none⟩ = some (.slice (some ⟨bi, offi, none⟩) l.length ci) := (B0.out.cell (p := ⟨b, off, none⟩) hbw).trans hcell
  obtain ⟨N, hN⟩ : ∃ N : Nat, Hid (N = l.length) := ⟨_, rfl⟩
  rw [← hN.out] at hc0 hcell HMH HU HNC h1 h2
  have x0 := X0.out.one
  go_enter Try.func67, Try.ntmps67
  go_wp2_with fail
  rw [← hw0.out]
  refine (mayHave_any N w0).mono ?_
  rintro e w1 ⟨rfl, rfl⟩
  rw [HMH.out]
  clear hcell
  have hfd : ∀ (a : Option Addr) (k c : Nat) (W : World), (Instr.field 60 (.agg #[.slice a k c]) 0).run Try.prog W = .ok (.slice a k c) W := fun _ _ _ _ => by kernel_rfl
  go_wp2_with fail
  go_region_held3 (fun w' => w'.cell? ⟨w.heap.size, 0, none⟩ = some (.slice (some ⟨b, off, none⟩) k c) ∧ w'.cell? ⟨b, off, none⟩ = some (.slice (some ⟨bi, offi, none⟩) N ci))
    (first | exact ⟨x0, hc0⟩ | exact ⟨y0, y1⟩)
    (first
    | (go_at_call 66; refine (grow_any bi offi N ci l w1.drew ((HU.out.later B0.out).later (Below.refl _ _).drew) (by show bi < w1.heap.size; have := B0.out.size; omega) h1 (by omega) HNC.out).mono ?_; rintro e w2 ⟨a2, k2, cap2, rfl, hO2, hb2⟩; have y0 := (hb2.out.cell (p := ⟨w.heap.size, 0, none⟩) X0.out.lt).trans x0; have y1 := (hb2.out.cell (p := ⟨b, off, none⟩) (by show b < w1.heap.size; have := B0.out.size; omega)).trans hc0)
    | (go_at_call 102; refine (equalF_any (some ⟨b, off, none⟩) a2 k c k2 cap2 ls (Mx.levels l) w2 ((HL.out.later (B0.out.drew)).later hb2.out) hO2.out.lv.1).mono ?_; rintro e w3 ⟨r, rfl, hr, q, rfl⟩))
  all_goals
    have HB := hide (show Below w.heap.size w w2 from B0.out.drew.trans (hb2.out.mono B0.out.size))
    cases r with
    | true =>
      have HE := hide (show ls = Mx.levels l from hr.1 rfl)
      clear hr
      go_wp2_with fail
      go_ret
      exact ⟨by rw [Mx.tsame, if_pos HE.out] <;> rfl, below_drewN HB.out _⟩
    | false =>
      have HE := hide (show ¬ ls = Mx.levels l from fun e => by have := hr.2 e; simp at this)
      clear hr
      go_wp2_with fail
      go_ret
      exact ⟨by rw [Mx.tsame, if_neg HE.out] <;> rfl, below_drewN HB.out _⟩

end Go.Proofs.Ytdhmijjphgcdmac

/-
  Whether a tree may be, as the program says it (Check), at every tree.
-/
namespace Go.Proofs.Ytdhmijjphgcdmac
open Go.RowKit

/-- D1's error of a tree -/
def Mx.tmay (ls : List (List Nat)) : Int := match ls with
  | [] => 3
  | l :: _ => if 1 ≤ l.length ∧ l.length ≤ 32 then Mx.tsame ls l else 3

set_option maxHeartbeats 1000000 in
set_option maxRecDepth 100000 in
theorem tcheck_any (a : Option Addr) (k c : Nat) (ls : List (List Nat)) (w : World) (h : Lvls w a k ls) :
    Calls Try.prog 67 #[.agg #[.slice a k c]] w fun e w' => e = .returned (errV (Mx.tmay ls)) ∧ Below w.heap.size w w' := by
  match ls, h with
  | [], h =>
    obtain rfl : k = 0 := h.1.symm
    clear h
    go_enter Try.func67, Try.ntmps67
    go_wp2_with fail
    go_ret
    exact ⟨rfl, below_alloc _ _⟩
  | l :: r, h =>
    have hk : 1 ≤ k := by rw [← h.1]; simp
    by_cases hl : 1 ≤ l.length ∧ l.length ≤ 32
    · refine (tcheck_grow a k c (l :: r) l w h hk hl.1 hl.2 rfl).mono ?_
      rintro e w' ⟨rfl, hb⟩
      exact ⟨by rw [Mx.tmay, if_pos hl], hb⟩
    · have HT := hide (show Mx.tmay (l :: r) = 3 by rw [Mx.tmay, if_neg hl])
      have hkl : k ≤ maxLen := h.2.1
      unfold maxLen at hkl
      have HMH := hide (show Mx.mayHave l.length = false by unfold Mx.mayHave; simp; omega)
      obtain ⟨b, off, l0, ai, ni, ci, hab, hbw, hl0, hcell, hu, hnc⟩ := h.at_ 0 (by omega)
      obtain rfl : l = l0 := Option.some.inj hl0
      subst hab
      rw [Nat.add_zero] at hcell
      have hni : ni = l.length := hu.1.symm
      subst hni
      obtain ⟨N, hN⟩ : ∃ N : Nat, Hid (N = l.length) := ⟨_, rfl⟩
      have hNm : N ≤ 9223372036854775807 := by have := hu.2.1; rw [hN.out]; unfold maxLen at this; omega
      rw [← hN.out] at hcell HMH
      clear h hl0 hu hnc hl
      have hk0 : ((k : Int) == 0) = false := by simp; omega
      have hkp : (0 : Int) < k := by omega
      go_enter Try.func67, Try.ntmps67
      go_wp2_with fail
      refine (mayHave_any N _).mono ?_
      rintro e w1 ⟨rfl, rfl⟩
      rw [HMH.out]
      go_wp2_with fail
      go_ret
      exact ⟨by rw [HT.out] <;> rfl, below_alloc _ _⟩

end Go.Proofs.Ytdhmijjphgcdmac

/-
  Copies in memory of their own: slices.Clone at numbers of 64 bits.
-/
namespace Go.Proofs.Ytdhmijjphgcdmac
open Go.RowKit

set_option maxHeartbeats 1000000 in
set_option maxRecDepth 100000 in
theorem cloneU_any (b off n c : Nat) (l : List Nat) (w : World) (hl : U64s w (some ⟨b, off, none⟩) n l) (hn0 : 1 ≤ n) (hn : n ≤ 1000000) :
    Calls Try.prog 68 #[.slice (some ⟨b, off, none⟩) n c] w fun e w' => ∃ v, e = .returned v ∧ Hid (OwnU w' w.heap.size v l) ∧ Hid (Below w.heap.size w w') := by
  have q : ∀ (w : World) (a : Option Addr) (n c n' c' : Nat), (binOp .eql 120 (.slice a n c) (.slice none n' c')).run Try.prog w = .ok (.bool a.isNone) w := fun w a n c n' c' => Lib.run_eql_slice_nil w _ _ a n c n' c' Try.underlying120
  have HL := hide hl
  clear hl
  obtain ⟨i0, hi, hz0, hz1, hz2⟩ := info_parts Try.info121
  go_enter Try.func68, Try.ntmps68
  go_wp2_with (at_builtin; refine wpList_append_own _ rfl _ _ 120 rfl w.heap.size 121 i0 _ 1 8 Try.underlying120 hi hz0 hz1 hz2 rfl (by decide) _ _ _ rfl (World.ownsRow_made w #[] 0 (Nat.le_refl _) (Nat.zero_le _) (by simp)) ⟨b, off, none⟩ n c (l.map fun x : Nat => Value.int .u64 (x : Int)) rfl ?qc1 ?qc2 ?qc3 ?qc4 ?qc5 ?qc6 ?_)
  case qc1 => rw [List.length_map, HL.out.1, Nat.mul_one]
  case qc2 =>
    intro j u hj
    obtain ⟨b', off', hb, hlt, hc⟩ := HL.out.2.2.2 hn0
    cases hb
    rw [Addr.add_lit]
    have hjl : j < l.length := by have := (List.getElem?_eq_some_iff.1 hj).1; simpa using this
    have h1 := hc j (by rw [← HL.out.1]; exact hjl)
    rw [List.getElem?_map, List.getElem?_eq_getElem hjl] at hj
    rw [List.getD_eq_getElem?_getD, List.getElem?_eq_getElem hjl] at h1
    simp at hj h1
    subst hj
    exact Lib.cell?_alloc_some _ h1
  case qc3 =>
    intro u hu
    obtain ⟨z, _, rfl⟩ := List.mem_map.1 hu
    rfl
  case qc4 => unfold maxLen; omega
  case qc5 => omega
  case qc6 => simp
  intro v' w1 hown hgrow hnil
  have HO := hide hown
  have HG := hide hgrow
  clear hown hgrow hnil
  go_wp2
  go_ret
  refine ⟨v', rfl, ?_, ?_⟩
  · have := HO.out
    unfold Hid OwnU
    rw [HL.out.1]
    simpa using this
  · exact ((Below.refl _ w).alloc (Nat.le_refl _) _).grown HG.out (by simp) (by intro k hk; simp [Value.ownBlock] at hk; omega)

end Go.Proofs.Ytdhmijjphgcdmac

/-
  A block put into a tree, as the program does it (Put): its errors.
-/
namespace Go.Proofs.Ytdhmijjphgcdmac
open Go.RowKit

set_option maxHeartbeats 2000000 in
set_option maxRecDepth 100000 in
theorem tput_err (a : Option Addr) (k c : Nat) (ls : List (List Nat)) (at_ : Int) (x : B8) (w : World) (h : Lvls w a k ls) (hE : ¬ Mx.tmay ls = 0) :
    Calls Try.prog 25 #[.agg #[.slice a k c], .int .i64 at_, .agg #[.int .u8 x.z0, .int .u8 x.z1, .int .u8 x.z2, .int .u8 x.z3, .int .u8 x.z4, .int .u8 x.z5, .int .u8 x.z6, .int .u8 x.z7]] w fun e w' =>
      e = .returned (.tuple #[.agg #[.slice none 0 0], errV (Mx.tmay ls)]) ∧ Below w.heap.size w w' := by
  have HL := hide h
  have HE := hide hE
  clear h hE
  obtain ⟨w0, hw0⟩ : ∃ w0 : World, Hid (w0 = ((w.alloc (.cells #[.slice a k c] 60)).alloc (.cells #[.int .u8 x.z0, .int .u8 x.z1, .int .u8 x.z2, .int .u8 x.z3, .int .u8 x.z4, .int .u8 x.z5, .int .u8 x.z6, .int .u8 x.z7] 50)).alloc (.cells #[.slice none 0 0] 60)) := ⟨_, rfl⟩
  have B0 := hide (show Below w.heap.size w w0 by rw [hw0.out]; exact ((below_alloc _ _).alloc (by simp) _).alloc (by simp; omega) _)
  have R0 := hide (show Bx w0 (w.heap.size + 2) #[.slice none 0 0] 60 by
    rw [hw0.out]
    have h := Bx.new ((w.alloc (.cells #[.slice a k c] 60)).alloc (.cells #[.int .u8 x.z0, .int .u8 x.z1, .int .u8 x.z2, .int .u8 x.z3, .int .u8 x.z4, .int .u8 x.z5, .int .u8 x.z6, .int .u8 x.z7] 50)) #[.slice none 0 0] 60
    rw [World.size_alloc, World.size_alloc] at h
    exact h)
  go_enter Try.func25, Try.ntmps25
  go_wp2_with fail
  rw [← hw0.out]
  refine (tcheck_any a k c ls w0 (HL.out.later B0.out)).mono ?_
  rintro e w1 ⟨rfl, hb1⟩
  have R1 := hide (R0.out.later hb1 R0.out.lt)
  have B1 := hide (B0.out.trans (hb1.mono B0.out.size))
  clear hb1
  obtain ⟨E, hEE⟩ : ∃ E : Int, Hid (E = Mx.tmay ls) := ⟨_, rfl⟩
  have HV := hide (show errV (Mx.tmay ls) = .iface 36 (.int .i64 E) by rw [errV_not HE.out, hEE.out])
  rw [HV.out]
  have r0 := R1.out.one
  have rz := R1.out.frozen
  have r1 := (show Bx _ _ #[.slice none 0 0] 60 from R1.out.set 0 (.slice none 0 0)).one
  go_wp2_with fail
  exact bodyPost_ret (v := .tuple #[.agg #[.slice none 0 0], .iface 36 (.int .i64 E)]) (by simp [results, Try.results25, go_sem, r1]) rfl ⟨by rw [HV.out], B1.out.setCell (p := ⟨w.heap.size + 2, 0, none⟩) (by show w.heap.size ≤ w.heap.size + 2; omega) _⟩

end Go.Proofs.Ytdhmijjphgcdmac

/-
  A block put into a tree, as the program does it (Put): where there is such a place.
-/
namespace Go.Proofs.Ytdhmijjphgcdmac
open Go.RowKit

set_option maxHeartbeats 4000000 in
set_option maxRecDepth 100000 in
theorem tput_ok (a : Option Addr) (k c : Nat) (l : List Nat) (j : Nat) (x : B8) (w : World) (h : Lvls w a k (Mx.levels l)) (hk : 1 ≤ k) (h1 : 1 ≤ l.length) (h2 : l.length ≤ 32) (hz : (Mx.levels l)[0]? = some l) (hm : Mx.tmay (Mx.levels l) = 0) (hx : x.ok) (hj : j < l.length) :
    Calls Try.prog 25 #[.agg #[.slice a k c], .int .i64 (j : Int), .agg #[.int .u8 x.z0, .int .u8 x.z1, .int .u8 x.z2, .int .u8 x.z3, .int .u8 x.z4, .int .u8 x.z5, .int .u8 x.z6, .int .u8 x.z7]] w fun e w' =>
      ∃ a' k' cap', e = .returned (.tuple #[.agg #[.slice a' k' cap'], .nilIface]) ∧ Hid (Lvls w' a' k' (Mx.levels (l.set j (Mx.blockD x))) ∧ k' ≤ cap' ∧ LvlsA w.heap.size w' a' k' (Mx.levels (l.set j (Mx.blockD x)))) ∧ Hid (Below w.heap.size w w') := by
  have HL := hide h
  have HM := hide hm
  have HXO := hide hx
  have hkl : k ≤ maxLen := h.2.1
  unfold maxLen at hkl
  obtain ⟨b, off, l0, ai, ni, ci, hab, hbw, hl0, hcell, hu, hnc⟩ := h.at_ 0 (by omega)
  rw [hz] at hl0
  obtain rfl : l = l0 := Option.some.inj hl0
  subst hab
  rw [Nat.add_zero] at hcell
  have hni : ni = l.length := hu.1.symm
  subst hni
  obtain ⟨bi, offi, hai, hbi, _⟩ := hu.2.2.2 h1
  subst hai
  have HU := hide hu
  obtain ⟨N, hN⟩ : ∃ N : Nat, Hid (N = l.length) := ⟨_, rfl⟩
  rw [← hN.out] at hcell HU h1 h2 hj
  clear h hz hl0 hu hnc hm hx
  have hkp : (0 : Int) < k := by omega
  have hkr : 0 < k := by omega
  have hd0 : decide ((j : Int) < 0) = false := by simp
  have hjN : (j : Int) < N := by omega
  have hdN : decide ((N : Int) ≤ j) = false := by simp; omega
  obtain ⟨w0, hw0⟩ : ∃ w0 : World, Hid (w0 = ((w.alloc (.cells #[.slice (some ⟨b, off, none⟩) k c] 60)).alloc (.cells #[.int .u8 x.z0, .int .u8 x.z1, .int .u8 x.z2, .int .u8 x.z3, .int .u8 x.z4, .int .u8 x.z5, .int .u8 x.z6, .int .u8 x.z7] 50)).alloc (.cells #[.slice none 0 0] 60)) := ⟨_, rfl⟩
  have B0 := hide (show Below w.heap.size w w0 by rw [hw0.out]; exact ((below_alloc _ _).alloc (by simp) _).alloc (by simp; omega) _)
  have T0 := hide (show Bx w0 w.heap.size #[.slice (some ⟨b, off, none⟩) k c] 60 by rw [hw0.out]; exact ((Bx.new w _ _).alloc _).alloc _)
  have X0 := hide (show Bx w0 (w.heap.size + 1) #[.int .u8 x.z0, .int .u8 x.z1, .int .u8 x.z2, .int .u8 x.z3, .int .u8 x.z4, .int .u8 x.z5, .int .u8 x.z6, .int .u8 x.z7] 50 by
    rw [hw0.out]
    have h := (Bx.new (w.alloc (.cells #[.slice (some ⟨b, off, none⟩) k c] 60)) #[.int .u8 x.z0, .int .u8 x.z1, .int .u8 x.z2, .int .u8 x.z3, .int .u8 x.z4, .int .u8 x.z5, .int .u8 x.z6, .int .u8 x.z7] 50).alloc (.cells #[.slice none 0 0] 60)
    rw [World.size_alloc] at h
    exact h)
  have R0 := hide (show Bx w0 (w.heap.size + 2) #[.slice none 0 0] 60 by
    rw [hw0.out]
    have h := Bx.new ((w.alloc (.cells #[.slice (some ⟨b, off, none⟩) k c] 60)).alloc (.cells #[.int .u8 x.z0, .int .u8 x.z1, .int .u8 x.z2, .int .u8 x.z3, .int .u8 x.z4, .int .u8 x.z5, .int .u8 x.z6, .int .u8 x.z7] 50)) #[.slice none 0 0] 60
    rw [World.size_alloc, World.size_alloc] at h
    exact h)
  go_enter Try.func25, Try.ntmps25
  go_wp2_with fail
  rw [← hw0.out]
  refine (tcheck_any (some ⟨b, off, none⟩) k c (Mx.levels l) w0 (HL.out.later B0.out)).mono ?_
  rintro e w1 ⟨rfl, hb1⟩
  rw [HM.out, errV_zero]
  have T1 := hide (T0.out.later hb1 T0.out.lt)
  have X1 := hide (X0.out.later hb1 X0.out.lt)
  have R1 := hide (R0.out.later hb1 R0.out.lt)
  have B1 := hide (B0.out.trans (hb1.mono B0.out.size))
  clear hb1
  have t1 := T1.out.one
  have hc1 : w1.cell? ⟨b, off, none⟩ = some (.slice (some ⟨bi, offi, none⟩) N ci) := (B1.out.cell (p := ⟨b, off, none⟩) hbw).trans hcell
  clear hcell
  go_wp2_with fail
  refine (cloneU_any bi offi N ci l w1 (HU.out.later B1.out) h1 (by omega)).mono ?_
  rintro e w2 ⟨v2, rfl, hO2, hb2⟩
  obtain ⟨a2, c2, hv2⟩ := hO2.out.form
  rw [← hN.out] at hv2
  subst hv2
  have HRD := hide (hO2.out.read HU.out.2.2.1)
  obtain ⟨g, go, hag, _, _⟩ := HRD.out.1.2.2.2 h1
  obtain rfl : go = 0 := by
    rcases hO2.out.2 with ⟨hv, _⟩ | ⟨g', cap', cur, hv, _⟩
    · simp only [Value.slice.injEq] at hv
      omega
    · simp only [Value.slice.injEq] at hv
      rw [hv.1] at hag
      simp only [Option.some.injEq, Addr.mk.injEq, and_true] at hag
      exact hag.2.symm
  subst hag
  have hgl := World.ownsRow.lt hO2.out g rfl
  have X2 := hide (X1.out.later hb2.out X1.out.lt)
  have R2 := hide (R1.out.later hb2.out R1.out.lt)
  have B2 := hide (B1.out.trans (hb2.out.mono B1.out.size))
  have hR1 := R1.out.lt
  clear t1 hc1
  obtain ⟨f0, f1, f2, f3, f4, f5, f6, f7⟩ := X2.out.eight
  go_wp2_with fail
  refine (ofBlock_any x HXO.out w2).mono ?_
  rintro e w3 ⟨rfl, hb3⟩
  have R3 := hide (R2.out.later hb3 R2.out.lt)
  have B3 := hide (B2.out.trans (hb3.mono B2.out.size))
  have U3 := hide (show OwnU w3 w1.heap.size (.slice (some ⟨g, 0, none⟩) N c2) l from rowKept hO2.out hb3)
  clear hb3 f0 f1 f2 f3 f4 f5 f6 f7
  obtain ⟨Z, hZ⟩ : ∃ Z : Nat, Hid (Z = Mx.blockD x) := ⟨_, rfl⟩
  rw [← hZ.out]
  obtain ⟨b5, off5, x5, hab, _, _, _, u0⟩ := (U3.out.read HU.out.2.2.1).1.at_ j hj
  simp only [Option.some.injEq, Addr.mk.injEq, and_true] at hab
  obtain ⟨rfl, rfl⟩ := hab
  rw [Nat.zero_add] at u0
  have uz : ∀ o, w3.frozen? ⟨g, o, none⟩ = false := by
    rcases U3.out.2 with ⟨hv, _⟩ | ⟨g', cap', cur, hv, _, hh, _⟩
    · cases hv
    · simp only [Value.slice.injEq, Option.some.injEq, Addr.mk.injEq, and_true] at hv
      obtain ⟨rfl, _, _⟩ := hv
      exact fun o => (show Bx w3 g cur 121 from hh).frozen o
  obtain ⟨w4, hw4⟩ : ∃ w4 : World, Hid (w4 = w3.setCell ⟨g, j, none⟩ (.int .u64 (Z : Int))) := ⟨_, rfl⟩
  have U4 := hide (show OwnU w4 w1.heap.size (.slice (some ⟨g, 0, none⟩) N c2) (l.set j Z) by rw [hw4.out]; exact (U3.out.set1 j Z).1)
  have R4 := hide (show Bx w4 (w.heap.size + 2) #[.slice none 0 0] 60 by rw [hw4.out]; exact R3.out.other _ _ (by show w.heap.size + 2 ≠ g; omega))
  have B4 := hide (show Below w.heap.size w w4 by rw [hw4.out]; exact B3.out.setCell (p := ⟨g, j, none⟩) (by show w.heap.size ≤ g; omega) _)
  have HU4 := hide (U4.out.read (by
    intro z hz'
    rcases List.mem_or_eq_of_mem_set hz' with h | h
    · exact HU.out.2.2.1 z h
    · rw [h, hZ.out]
      exact Mx.blockD_lt x))
  go_wp2_with fail
  rw [← hw4.out]
  have hg4 := (World.ownsRow.lt U4.out g rfl).2
  refine (grow_any g 0 N c2 (l.set j Z) w4 HU4.out.1 hg4 h1 (by omega) HU4.out.2).mono ?_
  rintro e w5 ⟨a5, k5, cap5, rfl, hO5, hb5⟩
  have R5 := hide (R4.out.later hb5.out R4.out.lt)
  have B5 := hide (B4.out.trans (hb5.out.mono B4.out.size))
  have r0 := R5.out.one
  have rz := R5.out.frozen
  have q5 := own_ne_bx hO5.out.choose_spec.1 R5.out (by decide)
  have hsz4 := R4.out.lt
  go_wp2_with fail
  have r1 := (show Bx _ _ #[.slice a5 k5 cap5] 60 from R5.out.set 0 (.slice a5 k5 cap5)).one
  refine bodyPost_ret (v := .tuple #[.agg #[.slice a5 k5 cap5], .nilIface]) (by simp [results, Try.results25, go_sem, r1]) rfl ⟨a5, k5, cap5, rfl, ?_, B5.out.setCell (p := ⟨w.heap.size + 2, 0, none⟩) (by show w.heap.size ≤ w.heap.size + 2; omega) _⟩
  rw [← hZ.out]
  have HF := (hO5.out.setOther ⟨w.heap.size + 2, 0, none⟩ (.slice a5 k5 cap5) q5 (by show ¬ (w.heap.size + 2 = g ∨ w4.heap.size + 3 ≤ w.heap.size + 2); omega))
  exact ⟨HF.lv.1, HF.lv.2, HF.lvA (by omega) (fun q hq => by
    rcases hq with hq | hq
    · omega
    · omega)⟩

end Go.Proofs.Ytdhmijjphgcdmac

/-
  A tree of blocks, as the document's answer has it (TreeOf).
-/
namespace Go.Proofs.Ytdhmijjphgcdmac
open Go.RowKit

theorem BL.byteAt {w : World} {b off n : Nat} {l : List B8} (h : BL w (some ⟨b, off, none⟩) n l) (k : Nat) (hk : k < n) {y : B8} (hy : l[k]? = some y) (j : Nat) (hj : j < 8) : ∃ z : Int, (Mx.bytesOf y)[j]? = some z ∧ w.cell? ⟨b, off + k * 8 + j, none⟩ = some (.int .u8 z) := by
  obtain ⟨b', off', x, ha, _, hx, e0, e1, e2, e3, e4, e5, e6, e7⟩ := h.at_ k hk
  cases ha
  obtain rfl : x = y := by rw [hy] at hx; exact (Option.some.inj hx).symm
  match j, hj with
  | 0, _ => exact ⟨_, rfl, e0⟩
  | 1, _ => exact ⟨_, rfl, e1⟩
  | 2, _ => exact ⟨_, rfl, e2⟩
  | 3, _ => exact ⟨_, rfl, e3⟩
  | 4, _ => exact ⟨_, rfl, e4⟩
  | 5, _ => exact ⟨_, rfl, e5⟩
  | 6, _ => exact ⟨_, rfl, e6⟩
  | 7, _ => exact ⟨_, rfl, e7⟩
  | n + 8, h => omega

end Go.Proofs.Ytdhmijjphgcdmac

/-
  For all blocks and bytes, their digests are what D1 says (TreeSays): the walk.
-/
namespace Go.Proofs.Ytdhmijjphgcdmac
open Go.RowKit

theorem Mx.levels_head (l : List Nat) : (Mx.levels l)[0]? = some l ∧ 1 ≤ (Mx.levels l).length := by
  unfold Mx.levels
  cases l.length with
  | zero => exact ⟨rfl, Nat.le_refl _⟩
  | succ f =>
    rw [Mx.growF]
    split
    · exact ⟨rfl, Nat.le_refl _⟩
    · exact ⟨rfl, by simp⟩

end Go.Proofs.Ytdhmijjphgcdmac

/-
  Whether a tree may be, as the document's answer says it (TreeMay).
-/
namespace Go.Proofs.Ytdhmijjphgcdmac
open Go.RowKit

namespace Mx
theorem growF_head (f : Nat) (l : List Nat) : ∃ r, growF f l = l :: r := by
  cases f with
  | zero => exact ⟨[], rfl⟩
  | succ f =>
    rw [growF]
    split
    · exact ⟨[], rfl⟩
    · exact ⟨_, rfl⟩
/-- the first levels are those that come of the first one; here is the last of these -/
def tgo (ls : List (List Nat)) (l cur : List Nat) (i : Nat) : Prop := ∃ (f : Nat) (pre : List (List Nat)), cur.length ≤ f + 1 ∧ pre ++ growF f cur = levels l ∧ pre.length = i ∧ ls.take (i + 1) = pre ++ [cur]
theorem tgo_start {ls : List (List Nat)} {l : List Nat} (h : ls[0]? = some l) : tgo ls l l 0 := by
  refine ⟨l.length, [], by omega, rfl, rfl, ?_⟩
  cases ls with
  | nil => simp at h
  | cons x r =>
    simp at h
    subst h
    rfl
theorem tgo_end {ls : List (List Nat)} {l cur : List Nat} {i : Nat} (h : tgo ls l cur i) (hc : cur.length ≤ 1) : tsame ls l = if i + 1 = ls.length then 0 else 3 := by
  obtain ⟨f, pre, h1, h2, h3, h4⟩ := h
  rw [growF_one f cur hc, ← h4] at h2
  have hl := congrArg List.length h4
  rw [List.length_take, List.length_append, List.length_singleton] at hl
  unfold tsame
  by_cases he : i + 1 = ls.length
  · rw [if_pos he, if_pos]
    rw [← h2, List.take_of_length_le (by omega)]
  · rw [if_neg he, if_neg]
    intro e
    rw [← h2] at e
    have := congrArg List.length e
    rw [List.length_take] at this
    omega
theorem tgo_more {ls : List (List Nat)} {l cur : List Nat} {i : Nat} (h : tgo ls l cur i) (hc : ¬ cur.length ≤ 1) : ∃ (f : Nat) (pre r : List (List Nat)), (overL cur).length ≤ f + 1 ∧ pre ++ [cur] ++ growF f (overL cur) = levels l ∧ pre.length = i ∧ ls.take (i + 1) = pre ++ [cur] ∧ growF f (overL cur) = overL cur :: r := by
  obtain ⟨f, pre, h1, h2, h3, h4⟩ := h
  cases f with
  | zero => omega
  | succ f =>
    rw [growF_more f cur hc] at h2
    obtain ⟨r, hr⟩ := growF_head f (overL cur)
    refine ⟨f, pre, r, ?_, by rw [← h2, List.append_assoc]; rfl, h3, h4, hr⟩
    rw [overL_len]
    omega
theorem tgo_out {ls : List (List Nat)} {l cur : List Nat} {i : Nat} (h : tgo ls l cur i) (hc : ¬ cur.length ≤ 1) (hi : ls.length ≤ i + 1) : tsame ls l = 3 := by
  obtain ⟨f, pre, r, h1, h2, h3, h4, h5⟩ := tgo_more h hc
  unfold tsame
  rw [if_neg]
  intro e
  rw [← e, h5] at h2
  have := congrArg List.length h2
  simp at this
  omega
theorem tgo_unlike {ls : List (List Nat)} {l cur x : List Nat} {i : Nat} (h : tgo ls l cur i) (hc : ¬ cur.length ≤ 1) (hx : ls[i + 1]? = some x) (hne : ¬ overL cur = x) : tsame ls l = 3 := by
  obtain ⟨f, pre, r, h1, h2, h3, h4, h5⟩ := tgo_more h hc
  unfold tsame
  rw [if_neg]
  intro e
  rw [e, ← h2, h5, List.getElem?_append_right (by simp; omega)] at hx
  simp [h3] at hx
  exact hne hx
theorem tgo_next {ls : List (List Nat)} {l cur x : List Nat} {i : Nat} (h : tgo ls l cur i) (hc : ¬ cur.length ≤ 1) (hx : ls[i + 1]? = some x) (he : overL cur = x) : tgo ls l (overL cur) (i + 1) := by
  obtain ⟨f, pre, r, h1, h2, h3, h4, h5⟩ := tgo_more h hc
  refine ⟨f, pre ++ [cur], h1, h2, by simp [h3], ?_⟩
  have hi : i + 1 < ls.length := (List.getElem?_eq_some_iff.1 hx).1
  rw [List.take_succ_eq_append_getElem hi, h4]
  rw [List.getElem?_eq_getElem hi] at hx
  rw [Option.some.inj hx, he]
theorem growF_len (f : Nat) (l l' : List Nat) (h : l.length = l'.length) : (growF f l).length = (growF f l').length := by
  induction f generalizing l l' with
  | zero => rfl
  | succ f ih =>
    rw [growF, growF, h]
    split
    · rfl
    · rw [List.length_cons, List.length_cons, ih (overL l) (overL l') (by rw [overL_len, overL_len, h])]
theorem levels_len (l l' : List Nat) (h : l.length = l'.length) : (levels l).length = (levels l').length := by
  unfold levels
  rw [h]
  exact growF_len _ l l' h
theorem tmay_levels (l : List Nat) (h1 : 1 ≤ l.length) (h2 : l.length ≤ 32) : tmay (levels l) = 0 := by
  obtain ⟨r, hr⟩ := growF_head l.length l
  have e : levels l = l :: r := hr
  rw [e]
  show (if 1 ≤ l.length ∧ l.length ≤ 32 then tsame (l :: r) l else 3) = 0
  rw [if_pos ⟨h1, h2⟩, tsame, if_pos e.symm]
theorem tmay_zero {ls : List (List Nat)} (h : tmay ls = 0) : ∃ l, ls = levels l ∧ 1 ≤ l.length ∧ l.length ≤ 32 ∧ ls[0]? = some l ∧ 1 ≤ ls.length := by
  match ls, h with
  | [], h => simp [tmay] at h
  | l :: r, h =>
    change (if 1 ≤ l.length ∧ l.length ≤ 32 then tsame (l :: r) l else 3) = 0 at h
    split at h
    · rename_i h1
      unfold tsame at h
      split at h
      · rename_i h2
        exact ⟨l, h2, h1.1, h1.2, rfl, by simp⟩
      · omega
    · omega
end Mx

end Go.Proofs.Ytdhmijjphgcdmac
