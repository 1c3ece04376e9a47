/-
  A tree of blocks, as the program makes it (Of).
-/
import Derived.Laws.OwnMore
import Derived.Lib.SliceRun
import Derived.Test.YtdhmijjphgcdmacZSums
import Derived.Test.YtdhmijjphgcdmacZIs
import Derived.Test.YtdhmijjphgcdmacZDclone
import Derived.Test.YtdhmijjphgcdmacZDbox
import Derived.Test.YtdhmijjphgcdmacZTs
import Derived.Test.YtdhmijjphgcdmacZTg

namespace Go.Proofs.Ytdhmijjphgcdmac
open Go.RowKit

theorem made_u64 (N : Nat) : (madeCells #[Value.int .u64 0] N).toList = List.replicate N (Value.int .u64 0) := by
  rw [List.eq_replicate_iff]
  refine ⟨by simp [madeCells], fun b hb => ?_⟩
  simp only [madeCells, Array.toList_map, List.mem_map] at hb
  obtain ⟨i, _, rfl⟩ := hb
  show #[Value.int .u64 0][i % 1]! = _
  rw [Nat.mod_one]
  rfl
theorem make_u64s (n : Nat) (hn : n ≤ 1000) : ∃ C : Array Value, (∀ w : World, (Instr.makeSlice 120 (.int .i64 (n : Int)) (.int .i64 (n : Int))).run Try.prog w = .ok (.slice (some ⟨w.heap.size, 0, none⟩) n n) (w.alloc (.cells C 121))) ∧
    Hid (∀ (w : World) (base : Nat), base ≤ w.heap.size → OwnU (w.alloc (.cells C 121)) base (.slice (some ⟨w.heap.size, 0, none⟩) n n) (List.replicate n 0)) := by
  obtain ⟨i0, hi, hz0, hz1, hz2⟩ := info_parts Try.info121
  refine ⟨madeCells #[Value.int .u64 0] (n * 1), fun w => ?_, fun w base hb => ?_⟩
  · have h := run_makeSlice (P := Try.prog) w 120 121 i0 _ Try.underlying120 hi hz0 .i64 .i64 (n : Int) (n : Int) (by omega) (Int.le_refl _) (by rw [hz1]; simp; omega) (by rw [hz2]; omega) (by omega)
    rw [hz1] at h
    simpa [Value.cells] using h
  · have h := World.ownsRow_lit (base := base) (e := 121) (size := 1) w (madeCells #[Value.int .u64 0] (n * 1)) n hb (by unfold maxLen; omega) (size_madeCells _ _)
    unfold OwnU
    rw [List.length_replicate, List.map_replicate]
    rw [made_u64, Nat.mul_one] at h
    rw [Nat.mul_one]
    exact h

theorem OwnU.set1 {w : World} {base g n cap : Nat} {l : List Nat} (h : OwnU w base (.slice (some ⟨g, 0, none⟩) n cap) l) (k z : Nat) : OwnU (w.setCell ⟨g, k, none⟩ (.int .u64 (z : Int))) base (.slice (some ⟨g, 0, none⟩) n cap) (l.set k z) ∧ base ≤ g ∧ g < w.heap.size ∧ l.length = n := by
  rcases h.2 with ⟨hv, _⟩ | ⟨g', cap', cur, hv, hb, hh, hle, hmx, hcs, htk⟩
  · cases hv
  · simp only [Value.slice.injEq, Option.some.injEq, Addr.mk.injEq, and_true] at hv
    obtain ⟨rfl, hn, rfl⟩ := hv
    have hbx : Bx w g cur 121 := hh
    refine ⟨⟨by simp, .inr ⟨g, cap, _, by rw [List.length_set, hn], hb, hbx.set k (.int .u64 (z : Int)), by rw [List.length_set]; exact hle, hmx, by simpa using hcs, ?_⟩⟩, hb, hbx.lt, hn.symm⟩
    simp only [Array.toList_setIfInBounds, List.take_set, List.length_set]
    rw [htk, List.map_set]

set_option maxHeartbeats 4000000 in
set_option maxRecDepth 100000 in
theorem of_any (a : Option Addr) (n c : Nat) (l : List B8) (w : World) (hl : BL w a n l) (hok : ∀ x ∈ l, x.ok) (hn0 : 1 ≤ n) (hn : n ≤ 32) :
    Calls Try.prog 24 #[.slice a n c] w fun e w' => ∃ a' k cap, e = .returned (.tuple #[.agg #[.slice a' k cap], .nilIface]) ∧ Hid (Lvls w' a' k (Mx.levels (l.map Mx.blockD)) ∧ k ≤ cap) ∧ Hid (Below w.heap.size w w') := by
  have HL := hide hl
  have HN := hide hl.1
  have HOK := hide hok
  have HMH := hide (show Mx.mayHave n = true by unfold Mx.mayHave; simp; omega)
  clear hl hok
  obtain ⟨C, hC, HC⟩ := make_u64s n (by omega)
  go_enter Try.func24, Try.ntmps24
  go_wp2_with fail
  refine (mayHave_any n _).mono ?_
  rintro e w1 ⟨rfl, rfl⟩
  rw [HMH.out]
  go_wp2_with fail
  obtain ⟨w0, hw0⟩ : ∃ w0 : World, Hid (w0 = (w.alloc (.cells #[.slice none 0 0] 60)).alloc (.cells C 121)) := ⟨_, rfl⟩
  rw [← hw0.out]
  have R0 := hide (show Bx w0 w.heap.size #[.slice none 0 0] 60 by rw [hw0.out]; exact (Bx.new w _ _).alloc _)
  have U0 := hide (show OwnU w0 (w.heap.size + 1) (.slice (some ⟨w.heap.size + 1, 0, none⟩) n n) (List.replicate n 0) by
    rw [hw0.out]
    have h := HC.out (w.alloc (.cells #[.slice none 0 0] 60)) (w.heap.size + 1) (by simp)
    rw [World.size_alloc] at h
    exact h)
  have B0 := hide (show Below w.heap.size w w0 by rw [hw0.out]; exact (below_alloc _ _).alloc (by simp) _)
  go_loopw [18] (fun i wr => ∃ k : Nat, k ≤ n ∧ i = .int .i64 k ∧ Hid (Bx wr w.heap.size #[.slice none 0 0] 60 ∧ OwnU wr (w.heap.size + 1) (.slice (some ⟨w.heap.size + 1, 0, none⟩) n n) ((l.take k).map Mx.blockD ++ List.replicate (n - k) 0) ∧ Below w.heap.size w wr)) (fun i _ => n - (intOf i).toNat)
  case atStart => exact ⟨0, by omega, rfl, R0.out, by simpa using U0.out, B0.out⟩
  case round =>
    obtain ⟨k, hk, rfl, hI⟩ := hrel
    by_cases hlt : k < n
    · obtain ⟨b, off, y, rfl, hb, hy, e0, e1, e2, e3, e4, e5, e6, e7⟩ := (HL.out.later hI.out.2.2).at_ k hlt
      have HY := hide hy
      have HYO := hide (HOK.out y (List.mem_of_getElem? hy))
      clear hy
      obtain ⟨w2, hw2⟩ : ∃ w2 : World, Hid (w2 = wr.alloc (.cells #[.int .u8 y.z0, .int .u8 y.z1, .int .u8 y.z2, .int .u8 y.z3, .int .u8 y.z4, .int .u8 y.z5, .int .u8 y.z6, .int .u8 y.z7] 50)) := ⟨_, rfl⟩
      have I2 := hide (show Bx w2 w.heap.size #[.slice none 0 0] 60 ∧ OwnU w2 (w.heap.size + 1) (.slice (some ⟨w.heap.size + 1, 0, none⟩) n n) ((l.take k).map Mx.blockD ++ List.replicate (n - k) 0) ∧ Below w.heap.size w w2 by
        rw [hw2.out]
        exact ⟨hI.out.1.alloc _, World.ownsRow.alloc hI.out.2.1 _, hI.out.2.2.alloc hI.out.2.2.size _⟩)
      go_wp2_with fail
      rw [← hw2.out]
      clear e0 e1 e2 e3 e4 e5 e6 e7
      refine (ofBlock_any y HYO.out w2).mono ?_
      rintro e w3 ⟨rfl, hb3⟩
      have R3 := hide (I2.out.1.later hb3 I2.out.1.lt)
      have U3 := hide (show OwnU w3 (w.heap.size + 1) (.slice (some ⟨w.heap.size + 1, 0, none⟩) n n) ((l.take k).map Mx.blockD ++ List.replicate (n - k) 0) from rowKept I2.out.2.1 hb3)
      have B3 := hide (I2.out.2.2.trans (hb3.mono I2.out.2.2.size))
      clear hb3
      obtain ⟨Z, hZ⟩ : ∃ Z : Nat, Hid (Z = Mx.blockD y) := ⟨_, rfl⟩
      rw [← hZ.out]
      have HS := hide (U3.out.set1 k Z)
      have HRD := hide (U3.out.read (by
        intro z hz
        rcases List.mem_append.1 hz with h | h
        · obtain ⟨x, _, rfl⟩ := List.mem_map.1 h
          exact Mx.blockD_lt x
        · rw [List.eq_of_mem_replicate h]
          decide)).1
      obtain ⟨b5, off5, x5, hab, _, _, _, u0⟩ := HRD.out.at_ k hlt
      simp only [Option.some.injEq, Addr.mk.injEq, and_true] at hab
      obtain ⟨rfl, rfl⟩ := hab
      rw [Nat.zero_add] at u0
      have uz : ∀ o, w3.frozen? ⟨w.heap.size + 1, o, none⟩ = false := by
        rcases U3.out.2 with ⟨hv, _⟩ | ⟨g', cap', cur, hv, _, hh, _⟩
        · cases hv
        · simp only [Value.slice.injEq, Option.some.injEq, Addr.mk.injEq, and_true] at hv
          obtain ⟨rfl, _, _⟩ := hv
          exact fun o => (show Bx w3 (w.heap.size + 1) cur 121 from hh).frozen o
      have HNX := hide (show OwnU (w3.setCell ⟨w.heap.size + 1, k, none⟩ (.int .u64 (Z : Int))) (w.heap.size + 1) (.slice (some ⟨w.heap.size + 1, 0, none⟩) n n) ((l.take (k + 1)).map Mx.blockD ++ List.replicate (n - (k + 1)) 0) by
        have h := HS.out.1
        have hlen : ((l.take k).map Mx.blockD).length = k := by rw [List.length_map, List.length_take, HN.out]; omega
        rw [List.set_append_right _ _ (by omega), hlen, Nat.sub_self, show n - k = (n - (k + 1)) + 1 by omega, List.replicate_succ, List.set_cons_zero] at h
        rw [getElem_take_succ _ _ _ HY.out, List.map_append, List.map_cons, List.map_nil, ← hZ.out, List.append_assoc]
        exact h)
      go_wp2_with fail
      go_roundw
      case rel => exact ⟨k + 1, by omega, by go_num, R3.out.other _ _ (by show w.heap.size ≠ w.heap.size + 1; omega), HNX.out, B3.out.setCell (p := ⟨w.heap.size + 1, k, none⟩) (by show w.heap.size ≤ w.heap.size + 1; omega) _⟩
      case measure => simp [intOf]; omega
    · have HE := hide (show (l.take k).map Mx.blockD ++ List.replicate (n - k) 0 = l.map Mx.blockD by
        rw [List.take_of_length_le (by rw [HN.out]; omega), show n - k = 0 by omega]
        simp)
      have HU := hide (show U64s wr (some ⟨w.heap.size + 1, 0, none⟩) n (l.map Mx.blockD) by
        have h := (hI.out.2.1.read (by
          rw [HE.out]
          intro z hz
          obtain ⟨x, _, rfl⟩ := List.mem_map.1 hz
          exact Mx.blockD_lt x)).1
        rw [HE.out] at h
        exact h)
      go_wp2_with fail
      have hgl : w.heap.size + 1 < wr.heap.size := (World.ownsRow.lt hI.out.2.1 _ rfl).2
      refine (grow_any (w.heap.size + 1) 0 n n _ wr HU.out hgl hn0 (by omega) (Nat.le_refl _)).mono ?_
      rintro e w5 ⟨a5, k5, cap5, rfl, hO5, hb5⟩
      have R5 := hide (hI.out.1.later hb5.out hI.out.1.lt)
      have B5 := hide (hI.out.2.2.trans (hb5.out.mono hI.out.2.2.size))
      have r0 := R5.out.one
      have rz := R5.out.frozen
      have q5 := own_ne_bx hO5.out.choose_spec.1 R5.out (by decide)
      go_wp2_with fail
      have r1 := (show Bx _ _ #[.slice a5 k5 cap5] 60 from R5.out.set 0 (.slice a5 k5 cap5)).one
      refine bodyPost_ret (v := .tuple #[.agg #[.slice a5 k5 cap5], .nilIface]) (by simp [results, Try.results24, go_sem, r1]) rfl ⟨a5, k5, cap5, rfl, ?_, B5.out.setCell (p := ⟨w.heap.size, 0, none⟩) (Nat.le_refl _) _⟩
      exact (hO5.out.setOther ⟨w.heap.size, 0, none⟩ (.slice a5 k5 cap5) q5 (by show ¬ (w.heap.size = w.heap.size + 1 ∨ wr.heap.size + 3 ≤ w.heap.size); omega)).lv

end Go.Proofs.Ytdhmijjphgcdmac

/-
  Of's error; whether a tree may be, as the program says it (Check), where it may be.
-/
namespace Go.Proofs.Ytdhmijjphgcdmac
open Go.RowKit

set_option maxHeartbeats 1000000 in
set_option maxRecDepth 100000 in
theorem of_err (a : Option Addr) (n c : Nat) (w : World) (hn : n < 1 ∨ 32 < n) :
    Calls Try.prog 24 #[.slice a n c] w fun e w' => e = .returned (.tuple #[.agg #[.slice none 0 0], .iface 36 (.int .i64 1)]) ∧ Below w.heap.size w w' := by
  have HMH := hide (show Mx.mayHave n = false by unfold Mx.mayHave; simp; omega)
  go_enter Try.func24, Try.ntmps24
  go_wp2_with fail
  refine (mayHave_any n _).mono ?_
  rintro e w1 ⟨rfl, rfl⟩
  rw [HMH.out]
  go_wp2_with fail
  have r1 := (Bx.new w #[.slice none 0 0] 60).one
  exact bodyPost_ret (v := .tuple #[.agg #[.slice none 0 0], .iface 36 (.int .i64 1)]) (by simp [results, Try.results24, go_sem, r1]) rfl ⟨rfl, below_alloc _ _⟩

set_option maxHeartbeats 4000000 in
set_option maxRecDepth 100000 in
theorem tcheck_ok (a : Option Addr) (k c : Nat) (l : List Nat) (w : World) (h : Lvls w a k (Mx.levels l)) (hk : 1 ≤ k) (h1 : 1 ≤ l.length) (h2 : l.length ≤ 32) (hz : (Mx.levels l)[0]? = some l) :
    Calls Try.prog 67 #[.agg #[.slice a k c]] w fun e w' => e = .returned .nilIface ∧ Below w.heap.size w w' := by
  have HL := hide h
  have hkl : k ≤ maxLen := h.2.1
  unfold maxLen at hkl
  have HMH := hide (show Mx.mayHave l.length = true by unfold Mx.mayHave; simp; omega)
  obtain ⟨b, off, l0, ai, ni, ci, hab, hbw, hl0, hcell, hu, hnc⟩ := h.at_ 0 (by omega)
  rw [hz] at hl0
  obtain rfl : l = l0 := Option.some.inj hl0
  subst hab
  rw [Nat.add_zero] at hcell
  have hni : ni = l.length := hu.1.symm
  subst hni
  obtain ⟨bi, offi, hai, hbi, _⟩ := hu.2.2.2 h1
  subst hai
  have HU := hide hu
  have HNC := hide hnc
  clear h hz hl0 hu hnc
  have hk0 : ((k : Int) == 0) = false := by simp; omega
  have hkp : (0 : Int) < k := by omega
  have hkr : 0 < k := by omega
  have hks : ¬ k = 0 := by omega
  have hkt : ¬ (k : Int) ≤ 0 := by omega
  obtain ⟨w0, hw0⟩ : ∃ w0 : World, Hid (w0 = w.alloc (.cells #[.slice (some ⟨b, off, none⟩) k c] 60)) := ⟨_, rfl⟩
  have B0 := hide (show Below w.heap.size w w0 by rw [hw0.out]; exact below_alloc _ _)
  have X0 := hide (show Bx w0 w.heap.size #[.slice (some ⟨b, off, none⟩) k c] 60 by rw [hw0.out]; exact Bx.new _ _ _)
  have hc0 : w0.cell? ⟨b, off, none⟩ = some (.slice (some ⟨bi, offi, none⟩) l.length ci) := (B0.out.cell (p := ⟨b, off, none⟩) hbw).trans hcell
  obtain ⟨N, hN⟩ : ∃ N : Nat, Hid (N = l.length) := ⟨_, rfl⟩
  rw [← hN.out] at hc0 hcell HMH HU HNC h1 h2
  have x0 := X0.out.one
  go_enter Try.func67, Try.ntmps67
  go_wp2_with fail
  rw [← hw0.out]
  refine (mayHave_any N w0).mono ?_
  rintro e w1 ⟨rfl, rfl⟩
  rw [HMH.out]
  clear hcell
  have hfd : ∀ (a : Option Addr) (k c : Nat) (W : World), (Instr.field 60 (.agg #[.slice a k c]) 0).run Try.prog W = .ok (.slice a k c) W := fun _ _ _ _ => by kernel_rfl
  go_wp2_with fail
  go_region_held3 (fun w' => w'.cell? ⟨w.heap.size, 0, none⟩ = some (.slice (some ⟨b, off, none⟩) k c) ∧ w'.cell? ⟨b, off, none⟩ = some (.slice (some ⟨bi, offi, none⟩) N ci))
    (first | exact ⟨x0, hc0⟩ | exact ⟨y0, y1⟩)
    (first
    | (go_at_call 66; refine (grow_any bi offi N ci l w1.drew ((HU.out.later B0.out).later (Below.refl _ _).drew) (by show bi < w1.heap.size; have := B0.out.size; omega) h1 (by omega) HNC.out).mono ?_; rintro e w2 ⟨a2, k2, cap2, rfl, hO2, hb2⟩; have y0 := (hb2.out.cell (p := ⟨w.heap.size, 0, none⟩) X0.out.lt).trans x0; have y1 := (hb2.out.cell (p := ⟨b, off, none⟩) (by show b < w1.heap.size; have := B0.out.size; omega)).trans hc0)
    | (go_at_call 102; refine (equalF_any (some ⟨b, off, none⟩) a2 k c k2 cap2 (Mx.levels l) (Mx.levels l) w2 ((HL.out.later (B0.out.drew)).later hb2.out) hO2.out.lv.1).mono ?_; rintro e w3 ⟨r, rfl, hr, q, rfl⟩))
  all_goals
    obtain rfl : r = true := by simpa using hr
    have HB := hide (show Below w.heap.size w w2 from B0.out.drew.trans (hb2.out.mono B0.out.size))
    clear hr
    go_wp2_with fail
    go_ret
    exact ⟨rfl, below_drewN HB.out _⟩

end Go.Proofs.Ytdhmijjphgcdmac

/-
  Whether a tree may be, as the program says it (Check): where it has a first level that may be.
-/
namespace Go.Proofs.Ytdhmijjphgcdmac
open Go.RowKit

/-- the levels are those of that first one, or the error -/
def Mx.tsame (ls : List (List Nat)) (l : List Nat) : Int := if ls = Mx.levels l then 0 else 3

set_option maxHeartbeats 4000000 in
set_option maxRecDepth 100000 in
theorem tcheck_grow (a : Option Addr) (k c : Nat) (ls : List (List Nat)) (l : List Nat) (w : World) (h : Lvls w a k ls) (hk : 1 ≤ k) (h1 : 1 ≤ l.length) (h2 : l.length ≤ 32) (hz : ls[0]? = some l) :
    Calls Try.prog 67 #[.agg #[.slice a k c]] w fun e w' => e = .returned (errV (Mx.tsame ls l)) ∧ Below w.heap.size w w' := by
  have HL := hide h
  have hkl : k ≤ maxLen := h.2.1
  unfold maxLen at hkl
  have HMH := hide (show Mx.mayHave l.length = true by unfold Mx.mayHave; simp; omega)
  obtain ⟨b, off, l0, ai, ni, ci, hab, hbw, hl0, hcell, hu, hnc⟩ := h.at_ 0 (by omega)
  rw [hz] at hl0
  obtain rfl : l = l0 := Option.some.inj hl0
  subst hab
  rw [Nat.add_zero] at hcell
  have hni : ni = l.length := hu.1.symm
  subst hni
  obtain ⟨bi, offi, hai, hbi, _⟩ := hu.2.2.2 h1
  subst hai
  have HU := hide hu
  have HNC := hide hnc
  clear h hz hl0 hu hnc
  have hk0 : ((k : Int) == 0) = false := by simp; omega
  have hkp : (0 : Int) < k := by omega
  have hkr : 0 < k := by omega
  have hks : ¬ k = 0 := by omega
  have hkt : ¬ (k : Int) ≤ 0 := by omega
  obtain ⟨w0, hw0⟩ : ∃ w0 : World, Hid (w0 = w.alloc (.cells #[.slice (some ⟨b, off, none⟩) k c] 60)) := ⟨_, rfl⟩
  have B0 := hide (show Below w.heap.size w w0 by rw [hw0.out]; exact below_alloc _ _)
  have X0 := hide (show Bx w0 w.heap.size #[.slice (some ⟨b, off, none⟩) k c] 60 by rw [hw0.out]; exact Bx.new _ _ _)
  have hc0 : w0.cell? ⟨b, off, none⟩ = some (.slice (some ⟨bi, offi, none⟩) l.length ci) := (B0.out.cell (p := ⟨b, off, none⟩) hbw).trans hcell
  obtain ⟨N, hN⟩ : ∃ N : Nat, Hid (N = l.length) := ⟨_, rfl⟩
  rw [← hN.out] at hc0 hcell HMH HU HNC h1 h2
  have x0 := X0.out.one
  go_enter Try.func67, Try.ntmps67
  go_wp2_with fail
  rw [← hw0.out]
  refine (mayHave_any N w0).mono ?_
  rintro e w1 ⟨rfl, rfl⟩
  rw [HMH.out]
  clear hcell
  have hfd : ∀ (a : Option Addr) (k c : Nat) (W : World), (Instr.field 60 (.agg #[.slice a k c]) 0).run Try.prog W = .ok (.slice a k c) W := fun _ _ _ _ => by kernel_rfl
  go_wp2_with fail
  go_region_held3 (fun w' => w'.cell? ⟨w.heap.size, 0, none⟩ = some (.slice (some ⟨b, off, none⟩) k c) ∧ w'.cell? ⟨b, off, none⟩ = some (.slice (some ⟨bi, offi, none⟩) N ci))
    (first | exact ⟨x0, hc0⟩ | exact ⟨y0, y1⟩)
    (first
    | (go_at_call 66; refine (grow_any bi offi N ci l w1.drew ((HU.out.later B0.out).later (Below.refl _ _).drew) (by show bi < w1.heap.size; have := B0.out.size; omega) h1 (by omega) HNC.out).mono ?_; rintro e w2 ⟨a2, k2, cap2, rfl, hO2, hb2⟩; have y0 := (hb2.out.cell (p := ⟨w.heap.size, 0, none⟩) X0.out.lt).trans x0; have y1 := (hb2.out.cell (p := ⟨b, off, none⟩) (by show b < w1.heap.size; have := B0.out.size; omega)).trans hc0)
    | (go_at_call 102; refine (equalF_any (some ⟨b, off, none⟩) a2 k c k2 cap2 ls (Mx.levels l) w2 ((HL.out.later (B0.out.drew)).later hb2.out) hO2.out.lv.1).mono ?_; rintro e w3 ⟨r, rfl, hr, q, rfl⟩))
  all_goals
    have HB := hide (show Below w.heap.size w w2 from B0.out.drew.trans (hb2.out.mono B0.out.size))
    cases r with
    | true =>
      have HE := hide (show ls = Mx.levels l from hr.1 rfl)
      clear hr
      go_wp2_with fail
      go_ret
      exact ⟨by rw [Mx.tsame, if_pos HE.out] <;> rfl, below_drewN HB.out _⟩
    | false =>
      have HE := hide (show ¬ ls = Mx.levels l from fun e => by have := hr.2 e; simp at this)
      clear hr
      go_wp2_with fail
      go_ret
      exact ⟨by rw [Mx.tsame, if_neg HE.out] <;> rfl, below_drewN HB.out _⟩

end Go.Proofs.Ytdhmijjphgcdmac

/-
  Whether a tree may be, as the program says it (Check), at every tree.
-/
namespace Go.Proofs.Ytdhmijjphgcdmac
open Go.RowKit

/-- D1's error of a tree -/
def Mx.tmay (ls : List (List Nat)) : Int := match ls with
  | [] => 3
  | l :: _ => if 1 ≤ l.length ∧ l.length ≤ 32 then Mx.tsame ls l else 3

set_option maxHeartbeats 1000000 in
set_option maxRecDepth 100000 in
theorem tcheck_any (a : Option Addr) (k c : Nat) (ls : List (List Nat)) (w : World) (h : Lvls w a k ls) :
    Calls Try.prog 67 #[.agg #[.slice a k c]] w fun e w' => e = .returned (errV (Mx.tmay ls)) ∧ Below w.heap.size w w' := by
  match ls, h with
  | [], h =>
    obtain rfl : k = 0 := h.1.symm
    clear h
    go_enter Try.func67, Try.ntmps67
    go_wp2_with fail
    go_ret
    exact ⟨rfl, below_alloc _ _⟩
  | l :: r, h =>
    have hk : 1 ≤ k := by rw [← h.1]; simp
    by_cases hl : 1 ≤ l.length ∧ l.length ≤ 32
    · refine (tcheck_grow a k c (l :: r) l w h hk hl.1 hl.2 rfl).mono ?_
      rintro e w' ⟨rfl, hb⟩
      exact ⟨by rw [Mx.tmay, if_pos hl], hb⟩
    · have HT := hide (show Mx.tmay (l :: r) = 3 by rw [Mx.tmay, if_neg hl])
      have hkl : k ≤ maxLen := h.2.1
      unfold maxLen at hkl
      have HMH := hide (show Mx.mayHave l.length = false by unfold Mx.mayHave; simp; omega)
      obtain ⟨b, off, l0, ai, ni, ci, hab, hbw, hl0, hcell, hu, hnc⟩ := h.at_ 0 (by omega)
      obtain rfl : l = l0 := Option.some.inj hl0
      subst hab
      rw [Nat.add_zero] at hcell
      have hni : ni = l.length := hu.1.symm
      subst hni
      obtain ⟨N, hN⟩ : ∃ N : Nat, Hid (N = l.length) := ⟨_, rfl⟩
      have hNm : N ≤ 9223372036854775807 := by have := hu.2.1; rw [hN.out]; unfold maxLen at this; omega
      rw [← hN.out] at hcell HMH
      clear h hl0 hu hnc hl
      have hk0 : ((k : Int) == 0) = false := by simp; omega
      have hkp : (0 : Int) < k := by omega
      go_enter Try.func67, Try.ntmps67
      go_wp2_with fail
      refine (mayHave_any N _).mono ?_
      rintro e w1 ⟨rfl, rfl⟩
      rw [HMH.out]
      go_wp2_with fail
      go_ret
      exact ⟨by rw [HT.out] <;> rfl, below_alloc _ _⟩

end Go.Proofs.Ytdhmijjphgcdmac

/-
  Where two trees differ, and how many pairs are asked: plain mathematics.
-/
namespace Go.Proofs.Ytdhmijjphgcdmac
open Go.RowKit

namespace Mx
/-- a digest of a tree: level, place -/
def nd (ls : List (List Nat)) (L i : Nat) : Nat := (ls.getD L []).getD i 0
/-- the places below a place, of n -/
def kids (n i : Nat) : List Nat := (List.range (min (i * 4 + 4) n - i * 4)).map fun k => i * 4 + k
/-- where two trees differ below a place -/
def dplaces (la lb : List (List Nat)) : Nat → Nat → List Nat
  | 0, i => if nd la 0 i = nd lb 0 i then [] else [i]
  | L + 1, i => if nd la (L + 1) i = nd lb (L + 1) i then [] else (kids (la.getD L []).length i).flatMap (dplaces la lb L)
/-- how many pairs are asked there -/
def dasked (la lb : List (List Nat)) : Nat → Nat → Nat
  | 0, _ => 1
  | L + 1, i => if nd la (L + 1) i = nd lb (L + 1) i then 1 else 1 + ((kids (la.getD L []).length i).map (dasked la lb L)).sum
/-- below these places -/
def dnext (la lb : List (List Nat)) (L : Nat) (now : List Nat) : List Nat := now.flatMap fun i => if nd la (L + 1) i = nd lb (L + 1) i then [] else kids (la.getD L []).length i
def dplacesL (la lb : List (List Nat)) (L : Nat) (now : List Nat) : List Nat := now.flatMap (dplaces la lb L)
def daskedL (la lb : List (List Nat)) (L : Nat) (now : List Nat) : Nat := (now.map (dasked la lb L)).sum

theorem dplaces_next (la lb : List (List Nat)) (L : Nat) (now : List Nat) : dplacesL la lb L (dnext la lb L now) = dplacesL la lb (L + 1) now := by
  unfold dplacesL dnext
  rw [List.flatMap_assoc]
  congr 1
  funext i
  rw [dplaces]
  split
  · rfl
  · rfl
theorem dasked_next (la lb : List (List Nat)) (L : Nat) (now : List Nat) : daskedL la lb L (dnext la lb L now) + now.length = daskedL la lb (L + 1) now := by
  unfold daskedL dnext
  induction now with
  | nil => rfl
  | cons i now ih =>
    rw [List.flatMap_cons, List.map_append, List.sum_append, List.map_cons, List.sum_cons, List.length_cons, ← ih, dasked]
    split
    · simp
      omega
    · omega
theorem dasked_zero (la lb : List (List Nat)) (now : List Nat) : daskedL la lb 0 now = now.length := by
  unfold daskedL
  induction now with
  | nil => rfl
  | cons i now ih => rw [List.map_cons, List.sum_cons, ih, List.length_cons, dasked]; omega
theorem kids_len (n i : Nat) : (kids n i).length ≤ 4 := by unfold kids; simp; omega
theorem kids_lt (n i : Nat) : ∀ x ∈ kids n i, x < n := by
  intro x hx
  unfold kids at hx
  obtain ⟨k, hk, rfl⟩ := List.mem_map.1 hx
  have := List.mem_range.1 hk
  omega
theorem dnext_lt (la lb : List (List Nat)) (L : Nat) (now : List Nat) : ∀ x ∈ dnext la lb L now, x < (la.getD L []).length := by
  intro x hx
  obtain ⟨i, _, hi⟩ := List.mem_flatMap.1 hx
  split at hi
  · simp at hi
  · exact kids_lt _ _ x hi
theorem dnext_len (la lb : List (List Nat)) (L : Nat) (now : List Nat) : (dnext la lb L now).length ≤ 4 * now.length := by
  unfold dnext
  induction now with
  | nil => simp
  | cons i now ih =>
    rw [List.flatMap_cons, List.length_append, List.length_cons]
    have : (if nd la (L + 1) i = nd lb (L + 1) i then [] else kids (la.getD L []).length i).length ≤ 4 := by
      split
      · simp
      · exact kids_len _ _
    omega
theorem sum_le (l : List Nat) (b : Nat) (h : ∀ x ∈ l, x ≤ b) : l.sum ≤ l.length * b := by
  induction l with
  | nil => simp
  | cons x l ih =>
    rw [List.sum_cons, List.length_cons, Nat.add_mul]
    have := h x (by simp)
    have := ih (fun y hy => h y (by simp [hy]))
    omega
theorem dasked_le (la lb : List (List Nat)) (L i : Nat) : dasked la lb L i ≤ 5 ^ L := by
  induction L generalizing i with
  | zero => simp [dasked]
  | succ L ih =>
    rw [dasked]
    have h5 : 1 ≤ 5 ^ L := Nat.pow_pos (by omega)
    have h6 : 5 ^ (L + 1) = 5 * 5 ^ L := by rw [Nat.pow_succ]; omega
    split
    · omega
    · have := sum_le ((kids (la.getD L []).length i).map (dasked la lb L)) (5 ^ L) (by
        intro x hx
        obtain ⟨k, _, rfl⟩ := List.mem_map.1 hx
        exact ih k)
      rw [List.length_map] at this
      have h4 := kids_len (la.getD L []).length i
      have := Nat.mul_le_mul_right (5 ^ L) h4
      omega
theorem dasked_pos (la lb : List (List Nat)) (L i : Nat) : 1 ≤ dasked la lb L i := by
  cases L with
  | zero => simp [dasked]
  | succ L =>
    rw [dasked]
    split <;> omega
theorem dplaces_le (la lb : List (List Nat)) (L i : Nat) : (dplaces la lb L i).length ≤ 4 ^ L := by
  induction L generalizing i with
  | zero =>
    rw [dplaces]
    split <;> simp
  | succ L ih =>
    rw [dplaces]
    split
    · simp
    · rw [List.length_flatMap]
      have := sum_le ((kids (la.getD L []).length i).map fun x => (dplaces la lb L x).length) (4 ^ L) (by
        intro x hx
        obtain ⟨k, _, rfl⟩ := List.mem_map.1 hx
        exact ih k)
      rw [List.length_map] at this
      have h4 := kids_len (la.getD L []).length i
      have := Nat.mul_le_mul_right (4 ^ L) h4
      rw [Nat.pow_succ]
      omega
end Mx

/-- a digest of a tree, read -/
theorem Lvls.nd_ {w : World} {a : Option Addr} {k : Nat} {ls : List (List Nat)} (h : Lvls w a k ls) (L i : Nat) (hL : L < k) (hi : i < (ls.getD L []).length) :
    ∃ b off bi offi ni ci, ∃ x : Nat, a = some ⟨b, off, none⟩ ∧ b < w.heap.size ∧ w.cell? ⟨b, off + L, none⟩ = some (.slice (some ⟨bi, offi, none⟩) ni ci) ∧ ni = (ls.getD L []).length ∧ w.cell? ⟨bi, offi + i, none⟩ = some (.int .u64 (x : Int)) ∧ x = Mx.nd ls L i := by
  obtain ⟨b, off, l, ai, ni, ci, ha, hb, hl, hc, hu, _⟩ := h.at_ L hL
  have hg : ls.getD L [] = l := by rw [List.getD_eq_getElem?_getD, hl]; rfl
  rw [hg] at hi
  obtain ⟨bi, offi, x, hai, _, hx, _, hcx⟩ := hu.at_ i (by rw [← hu.1]; exact hi)
  subst hai
  refine ⟨b, off, bi, offi, ni, ci, x, ha, hb, hc, by rw [hg, hu.1], hcx, ?_⟩
  rw [Mx.nd, hg, List.getD_eq_getElem?_getD, hx]
  rfl

end Go.Proofs.Ytdhmijjphgcdmac

/-
  Whether a tree may be, as the document's answer says it (TreeMay).
-/
namespace Go.Proofs.Ytdhmijjphgcdmac
open Go.RowKit

namespace Mx
theorem growF_head (f : Nat) (l : List Nat) : ∃ r, growF f l = l :: r := by
  cases f with
  | zero => exact ⟨[], rfl⟩
  | succ f =>
    rw [growF]
    split
    · exact ⟨[], rfl⟩
    · exact ⟨_, rfl⟩
/-- the first levels are those that come of the first one; here is the last of these -/
def tgo (ls : List (List Nat)) (l cur : List Nat) (i : Nat) : Prop := ∃ (f : Nat) (pre : List (List Nat)), cur.length ≤ f + 1 ∧ pre ++ growF f cur = levels l ∧ pre.length = i ∧ ls.take (i + 1) = pre ++ [cur]
theorem tgo_start {ls : List (List Nat)} {l : List Nat} (h : ls[0]? = some l) : tgo ls l l 0 := by
  refine ⟨l.length, [], by omega, rfl, rfl, ?_⟩
  cases ls with
  | nil => simp at h
  | cons x r =>
    simp at h
    subst h
    rfl
theorem tgo_end {ls : List (List Nat)} {l cur : List Nat} {i : Nat} (h : tgo ls l cur i) (hc : cur.length ≤ 1) : tsame ls l = if i + 1 = ls.length then 0 else 3 := by
  obtain ⟨f, pre, h1, h2, h3, h4⟩ := h
  rw [growF_one f cur hc, ← h4] at h2
  have hl := congrArg List.length h4
  rw [List.length_take, List.length_append, List.length_singleton] at hl
  unfold tsame
  by_cases he : i + 1 = ls.length
  · rw [if_pos he, if_pos]
    rw [← h2, List.take_of_length_le (by omega)]
  · rw [if_neg he, if_neg]
    intro e
    rw [← h2] at e
    have := congrArg List.length e
    rw [List.length_take] at this
    omega
theorem tgo_more {ls : List (List Nat)} {l cur : List Nat} {i : Nat} (h : tgo ls l cur i) (hc : ¬ cur.length ≤ 1) : ∃ (f : Nat) (pre r : List (List Nat)), (overL cur).length ≤ f + 1 ∧ pre ++ [cur] ++ growF f (overL cur) = levels l ∧ pre.length = i ∧ ls.take (i + 1) = pre ++ [cur] ∧ growF f (overL cur) = overL cur :: r := by
  obtain ⟨f, pre, h1, h2, h3, h4⟩ := h
  cases f with
  | zero => omega
  | succ f =>
    rw [growF_more f cur hc] at h2
    obtain ⟨r, hr⟩ := growF_head f (overL cur)
    refine ⟨f, pre, r, ?_, by rw [← h2, List.append_assoc]; rfl, h3, h4, hr⟩
    rw [overL_len]
    omega
theorem tgo_out {ls : List (List Nat)} {l cur : List Nat} {i : Nat} (h : tgo ls l cur i) (hc : ¬ cur.length ≤ 1) (hi : ls.length ≤ i + 1) : tsame ls l = 3 := by
  obtain ⟨f, pre, r, h1, h2, h3, h4, h5⟩ := tgo_more h hc
  unfold tsame
  rw [if_neg]
  intro e
  rw [← e, h5] at h2
  have := congrArg List.length h2
  simp at this
  omega
theorem tgo_unlike {ls : List (List Nat)} {l cur x : List Nat} {i : Nat} (h : tgo ls l cur i) (hc : ¬ cur.length ≤ 1) (hx : ls[i + 1]? = some x) (hne : ¬ overL cur = x) : tsame ls l = 3 := by
  obtain ⟨f, pre, r, h1, h2, h3, h4, h5⟩ := tgo_more h hc
  unfold tsame
  rw [if_neg]
  intro e
  rw [e, ← h2, h5, List.getElem?_append_right (by simp; omega)] at hx
  simp [h3] at hx
  exact hne hx
theorem tgo_next {ls : List (List Nat)} {l cur x : List Nat} {i : Nat} (h : tgo ls l cur i) (hc : ¬ cur.length ≤ 1) (hx : ls[i + 1]? = some x) (he : overL cur = x) : tgo ls l (overL cur) (i + 1) := by
  obtain ⟨f, pre, r, h1, h2, h3, h4, h5⟩ := tgo_more h hc
  refine ⟨f, pre ++ [cur], h1, h2, by simp [h3], ?_⟩
  have hi : i + 1 < ls.length := (List.getElem?_eq_some_iff.1 hx).1
  rw [List.take_succ_eq_append_getElem hi, h4]
  rw [List.getElem?_eq_getElem hi] at hx
  rw [Option.some.inj hx, he]
theorem growF_len (f : Nat) (l l' : List Nat) (h : l.length = l'.length) : (growF f l).length = (growF f l').length := by
  induction f generalizing l l' with
  | zero => rfl
  | succ f ih =>
    rw [growF, growF, h]
    split
    · rfl
    · rw [List.length_cons, List.length_cons, ih (overL l) (overL l') (by rw [overL_len, overL_len, h])]
theorem levels_len (l l' : List Nat) (h : l.length = l'.length) : (levels l).length = (levels l').length := by
  unfold levels
  rw [h]
  exact growF_len _ l l' h
theorem tmay_levels (l : List Nat) (h1 : 1 ≤ l.length) (h2 : l.length ≤ 32) : tmay (levels l) = 0 := by
  obtain ⟨r, hr⟩ := growF_head l.length l
  have e : levels l = l :: r := hr
  rw [e]
  show (if 1 ≤ l.length ∧ l.length ≤ 32 then tsame (l :: r) l else 3) = 0
  rw [if_pos ⟨h1, h2⟩, tsame, if_pos e.symm]
theorem tmay_zero {ls : List (List Nat)} (h : tmay ls = 0) : ∃ l, ls = levels l ∧ 1 ≤ l.length ∧ l.length ≤ 32 ∧ ls[0]? = some l ∧ 1 ≤ ls.length := by
  match ls, h with
  | [], h => simp [tmay] at h
  | l :: r, h =>
    change (if 1 ≤ l.length ∧ l.length ≤ 32 then tsame (l :: r) l else 3) = 0 at h
    split at h
    · rename_i h1
      unfold tsame at h
      split at h
      · rename_i h2
        exact ⟨l, h2, h1.1, h1.2, rfl, by simp⟩
      · omega
    · omega
end Mx

end Go.Proofs.Ytdhmijjphgcdmac

/-
  How long a tree's levels are, and how many there are: plain mathematics.
-/
namespace Go.Proofs.Ytdhmijjphgcdmac
open Go.RowKit

namespace Mx
def lensF : Nat → Nat → Nat → Nat
  | _, n, 0 => n
  | 0, _, _ + 1 => 0
  | f + 1, n, L + 1 => if n ≤ 1 then 0 else lensF f ((n + 3) / 4) L
theorem growF_lens (f : Nat) (l : List Nat) (L : Nat) : ((growF f l).getD L []).length = lensF f l.length L := by
  induction f generalizing l L with
  | zero =>
    cases L with
    | zero => rfl
    | succ L => rfl
  | succ f ih =>
    cases L with
    | zero =>
      obtain ⟨r, hr⟩ := growF_head (f + 1) l
      rw [hr]
      rfl
    | succ L =>
      rw [growF, lensF]
      split
      · rfl
      · rw [List.getD_cons_succ, ih (overL l) L, overL_len]
theorem lensF_le (f n L : Nat) : lensF f n L ≤ n := by
  induction f generalizing n L with
  | zero =>
    cases L with
    | zero => exact Nat.le_refl _
    | succ L => exact Nat.zero_le _
  | succ f ih =>
    cases L with
    | zero => exact Nat.le_refl _
    | succ L =>
      rw [lensF]
      split
      · omega
      · have := ih ((n + 3) / 4) L
        omega
theorem levels_lens (l l' : List Nat) (h : l.length = l'.length) (L : Nat) : ((levels l).getD L []).length = ((levels l').getD L []).length := by
  unfold levels
  rw [growF_lens, growF_lens, h]
theorem levels_small (l : List Nat) (L : Nat) : ((levels l).getD L []).length ≤ l.length := by
  unfold levels
  rw [growF_lens]
  exact lensF_le _ _ _
theorem growF_pos (f : Nat) (l : List Nat) (L : Nat) (h : 1 ≤ l.length) (hL : L < (growF f l).length) : 0 < ((growF f l).getD L []).length := by
  induction f generalizing l L with
  | zero =>
    cases L with
    | zero => exact h
    | succ L => simp [growF] at hL
  | succ f ih =>
    cases L with
    | zero =>
      obtain ⟨r, hr⟩ := growF_head (f + 1) l
      rw [hr]
      exact h
    | succ L =>
      rw [growF] at hL ⊢
      split
      · rename_i h1
        rw [if_pos h1] at hL
        simp at hL
      · rename_i h1
        rw [if_neg h1] at hL
        rw [List.getD_cons_succ]
        exact ih (overL l) L (by rw [overL_len]; omega) (by simpa using hL)
theorem growF_one' (f : Nat) (l : List Nat) (h : l.length ≤ 1) : (growF f l).length ≤ 1 := by rw [growF_one f l h]; simp
theorem growF_two (f : Nat) (l : List Nat) (h : l.length ≤ 4) : (growF f l).length ≤ 2 := by
  cases f with
  | zero => simp [growF]
  | succ f =>
    rw [growF]
    split
    · simp
    · have := growF_one' f (overL l) (by rw [overL_len]; omega)
      rw [List.length_cons]
      omega
theorem growF_three (f : Nat) (l : List Nat) (h : l.length ≤ 16) : (growF f l).length ≤ 3 := by
  cases f with
  | zero => simp [growF]
  | succ f =>
    rw [growF]
    split
    · simp
    · have := growF_two f (overL l) (by rw [overL_len]; omega)
      rw [List.length_cons]
      omega
theorem levels_four (l : List Nat) (h : l.length ≤ 32) : (levels l).length ≤ 4 := by
  unfold levels
  cases l.length with
  | zero => simp [growF]
  | succ f =>
    rw [growF]
    split
    · simp
    · have := growF_three f (overL l) (by rw [overL_len]; omega)
      rw [List.length_cons]
      omega
theorem dasked_few (la lb : List (List Nat)) (L i : Nat) (h : L ≤ 3) : dasked la lb L i ≤ 125 := by
  have h1 := dasked_le la lb L i
  have h2 := Nat.pow_le_pow_right (n := 5) (by omega) h
  omega
theorem dplaces_few (la lb : List (List Nat)) (L i : Nat) (h : L ≤ 3) : (dplaces la lb L i).length ≤ 64 := by
  have h1 := dplaces_le la lb L i
  have h2 := Nat.pow_le_pow_right (n := 4) (by omega) h
  omega
end Mx
end Go.Proofs.Ytdhmijjphgcdmac

/-
  Where two trees differ: which places, in what order, how many are asked, and what clashes: plain mathematics.
-/
namespace Go.Proofs.Ytdhmijjphgcdmac
open Go.RowKit

namespace Mx
/-- whatever lies below a place that is unlike is not all alike -/
def Over (la lb : List (List Nat)) (M : Nat) : Prop := ∀ L i, L < M → i < (la.getD (L + 1) []).length → (∀ k ∈ kids (la.getD L []).length i, nd la L k = nd lb L k) → nd la (L + 1) i = nd lb (L + 1) i
/-- a place's places below are places -/
def Wide (la : List (List Nat)) (M : Nat) : Prop := ∀ L i, L < M → i < (la.getD (L + 1) []).length → ∀ k ∈ kids (la.getD L []).length i, k < (la.getD L []).length
theorem dplaces_some {la lb : List (List Nat)} {M : Nat} (ho : Over la lb M) (L i : Nat) (hL : L ≤ M) (hi : i < (la.getD L []).length) (h : ¬ nd la L i = nd lb L i) : 1 ≤ (dplaces la lb L i).length := by
  induction L generalizing i with
  | zero => rw [dplaces, if_neg h]; simp
  | succ L ih =>
    rw [dplaces, if_neg h]
    rcases Nat.eq_zero_or_pos ((kids (la.getD L []).length i).flatMap (dplaces la lb L)).length with hz | hz
    · exfalso
      apply h
      apply ho L i (by omega) hi
      intro k hk
      by_cases hkk : nd la L k = nd lb L k
      · exact hkk
      · have h1 := ih k (by omega) (kids_lt _ _ k hk) hkk
        have h2 : dplaces la lb L k = [] := List.flatMap_eq_nil_iff.1 (List.eq_nil_of_length_eq_zero hz) k hk
        rw [h2] at h1
        simp at h1
    · exact hz
theorem sum_bound (L : Nat) (la lb : List (List Nat)) (ks : List Nat) (h : ∀ k ∈ ks, dasked la lb L k ≤ 4 * L * (dplaces la lb L k).length + 1) : (ks.map (dasked la lb L)).sum ≤ 4 * L * (ks.flatMap (dplaces la lb L)).length + ks.length := by
  induction ks with
  | nil => simp
  | cons k ks ih =>
    rw [List.map_cons, List.sum_cons, List.flatMap_cons, List.length_append, List.length_cons, Nat.mul_add]
    have h1 := h k (by simp)
    have h2 := ih (fun x hx => h x (by simp [hx]))
    omega
theorem dasked_bound {la lb : List (List Nat)} {M : Nat} (ho : Over la lb M) (L i : Nat) (hL : L ≤ M) (hi : i < (la.getD L []).length) : dasked la lb L i ≤ 4 * L * (dplaces la lb L i).length + 1 := by
  induction L generalizing i with
  | zero => simp [dasked]
  | succ L ih =>
    by_cases h : nd la (L + 1) i = nd lb (L + 1) i
    · rw [dasked, if_pos h]
      omega
    · have h1 := dplaces_some ho (L + 1) i hL hi h
      have h2 := sum_bound L la lb (kids (la.getD L []).length i) (fun k hk => ih k (by omega) (kids_lt _ _ k hk))
      have h3 := kids_len (la.getD L []).length i
      rw [dasked, if_neg h]
      rw [dplaces, if_neg h] at h1 ⊢
      have h4 : 4 * (L + 1) * ((kids (la.getD L []).length i).flatMap (dplaces la lb L)).length = 4 * L * ((kids (la.getD L []).length i).flatMap (dplaces la lb L)).length + 4 * ((kids (la.getD L []).length i).flatMap (dplaces la lb L)).length := by rw [Nat.mul_add, Nat.add_mul]
      omega
/-- the places below a place, of the first level -/
def under (L i : Nat) (p : Nat) : Prop := i * 4 ^ L ≤ p ∧ p < (i + 1) * 4 ^ L
theorem dplaces_under (la lb : List (List Nat)) (L i : Nat) : ∀ p ∈ dplaces la lb L i, under L i p := by
  induction L generalizing i with
  | zero =>
    intro p hp
    rw [dplaces] at hp
    split at hp
    · simp at hp
    · simp at hp
      subst hp
      exact ⟨by simp, by simp⟩
  | succ L ih =>
    intro p hp
    rw [dplaces] at hp
    split at hp
    · simp at hp
    · obtain ⟨k, hk, hp⟩ := List.mem_flatMap.1 hp
      have h1 := ih k p hp
      unfold kids at hk
      obtain ⟨j, hj, rfl⟩ := List.mem_map.1 hk
      have hj4 : j < 4 := by have := List.mem_range.1 hj; omega
      obtain ⟨h2, h3⟩ := h1
      refine ⟨?_, ?_⟩
      · rw [Nat.pow_succ]
        have : i * (4 ^ L * 4) = (i * 4) * 4 ^ L := by rw [Nat.mul_comm (4 ^ L) 4, ← Nat.mul_assoc]
        rw [this]
        exact Nat.le_trans (Nat.mul_le_mul_right _ (by omega)) h2
      · rw [Nat.pow_succ]
        have : (i + 1) * (4 ^ L * 4) = ((i + 1) * 4) * 4 ^ L := by rw [Nat.mul_comm (4 ^ L) 4, ← Nat.mul_assoc]
        rw [this]
        exact Nat.lt_of_lt_of_le h3 (Nat.mul_le_mul_right _ (by omega))
/-- they rise -/
theorem dplaces_rise (la lb : List (List Nat)) (L i : Nat) : (dplaces la lb L i).Pairwise (· < ·) := by
  induction L generalizing i with
  | zero =>
    rw [dplaces]
    split <;> simp
  | succ L ih =>
    rw [dplaces]
    split
    · simp
    · rw [List.pairwise_flatMap]
      refine ⟨fun k _ => ih k, ?_⟩
      unfold kids
      rw [List.pairwise_map]
      refine List.Pairwise.imp ?_ List.pairwise_lt_range
      intro a b hab x hx y hy
      have h1 := (dplaces_under la lb L _ x hx).2
      have h2 := (dplaces_under la lb L _ y hy).1
      have h3 : (i * 4 + a + 1) * 4 ^ L ≤ (i * 4 + b) * 4 ^ L := Nat.mul_le_mul_right _ (by omega)
      omega
/-- no digests of unlike things are alike (along the first level's place p, up to level M) -/
theorem dplaces_mem {la lb : List (List Nat)} (L i p : Nat) (hp : p < (la.getD 0 []).length) (hu : under L i p) (hd : ∀ l, l ≤ L → ¬ nd la l (p / 4 ^ l) = nd lb l (p / 4 ^ l)) (hlen : ∀ l, l < L → p / 4 ^ l < (la.getD l []).length) : p ∈ dplaces la lb L i := by
  induction L generalizing i with
  | zero =>
    obtain ⟨h1, h2⟩ := hu
    simp at h1 h2
    obtain rfl : i = p := by omega
    have := hd 0 (Nat.le_refl _)
    simp at this
    rw [dplaces, if_neg this]
    simp
  | succ L ih =>
    have hpi : p / 4 ^ (L + 1) = i := by
      obtain ⟨h1, h2⟩ := hu
      have hpos : 0 < 4 ^ (L + 1) := Nat.pow_pos (by omega)
      apply Nat.div_eq_of_lt_le
      · exact h1
      · exact h2
    have h0 := hd (L + 1) (Nat.le_refl _)
    rw [hpi] at h0
    rw [dplaces, if_neg h0]
    refine List.mem_flatMap.2 ⟨p / 4 ^ L, ?_, ih (p / 4 ^ L) ⟨Nat.div_mul_le_self _ _, ?_⟩ (fun l hl => hd l (by omega)) (fun l hl => hlen l (by omega))⟩
    · have h3 := hlen L (by omega)
      have h4 : p / 4 ^ L / 4 = i := by rw [Nat.div_div_eq_div_mul, ← Nat.pow_succ]; exact hpi
      unfold kids
      refine List.mem_map.2 ⟨p / 4 ^ L - i * 4, List.mem_range.2 (by omega), by omega⟩
    · have hpos : 0 < 4 ^ L := Nat.pow_pos (by omega)
      rw [Nat.add_mul, Nat.one_mul]
      have := Nat.div_add_mod p (4 ^ L)
      have h5 := Nat.mod_lt p hpos
      rw [Nat.mul_comm] at this
      omega
theorem growF_step (f : Nat) (l : List Nat) (L : Nat) (h : L + 1 < (growF f l).length) : (growF f l).getD (L + 1) [] = overL ((growF f l).getD L []) := by
  induction f generalizing l L with
  | zero => simp [growF] at h
  | succ f ih =>
    rw [growF] at h ⊢
    split
    · rename_i h1
      rw [if_pos h1] at h
      simp at h
    · rename_i h1
      rw [if_neg h1] at h
      rw [List.getD_cons_succ]
      cases L with
      | zero =>
        obtain ⟨r, hr⟩ := growF_head f (overL l)
        rw [hr]
        rfl
      | succ L =>
        rw [List.getD_cons_succ]
        exact ih (overL l) L (by simpa using h)
theorem growF_last (f : Nat) (l : List Nat) (h : l.length ≤ f + 1) (L : Nat) (hL : L + 1 = (growF f l).length) : ((growF f l).getD L []).length ≤ 1 := by
  induction f generalizing l L with
  | zero =>
    simp [growF] at hL
    subst hL
    show l.length ≤ 1
    omega
  | succ f ih =>
    rw [growF] at hL ⊢
    split
    · rename_i h1
      rw [if_pos h1] at hL
      simp at hL
      subst hL
      exact h1
    · rename_i h1
      rw [if_neg h1] at hL
      obtain ⟨r, hr⟩ := growF_head f (overL l)
      cases L with
      | zero =>
        rw [hr] at hL
        simp at hL
      | succ L =>
        rw [List.getD_cons_succ]
        exact ih (overL l) (by rw [overL_len]; omega) L (by simpa using hL)
theorem overL_at (l : List Nat) (i : Nat) (h : i < (overL l).length) : (overL l).getD i 0 = overD ((l.drop (i * 4)).take 4) := by
  rw [overL_len] at h
  rw [List.getD_eq_getElem?_getD, overL, List.getElem?_map, List.getElem?_range h]
  rfl
theorem four_eq (l m : List Nat) (i : Nat) (hlen : l.length = m.length) (h : ∀ k ∈ kids l.length i, l.getD k 0 = m.getD k 0) : (l.drop (i * 4)).take 4 = (m.drop (i * 4)).take 4 := by
  apply List.ext_getElem?
  intro j
  by_cases hj : j < 4
  · rw [List.getElem?_take_of_lt hj, List.getElem?_take_of_lt hj, List.getElem?_drop, List.getElem?_drop]
    by_cases hk : i * 4 + j < l.length
    · have h1 := h (i * 4 + j) (List.mem_map.2 ⟨j, List.mem_range.2 (by omega), rfl⟩)
      rw [List.getD_eq_getElem?_getD, List.getD_eq_getElem?_getD, List.getElem?_eq_getElem hk, List.getElem?_eq_getElem (by omega)] at h1
      rw [List.getElem?_eq_getElem hk, List.getElem?_eq_getElem (by omega)]
      exact congrArg some h1
    · rw [List.getElem?_eq_none (by omega), List.getElem?_eq_none (by omega)]
  · rw [List.getElem?_eq_none (by rw [List.length_take]; omega), List.getElem?_eq_none (by rw [List.length_take]; omega)]
theorem levels_over (l m : List Nat) (hlen : ∀ L, ((levels l).getD L []).length = ((levels m).getD L []).length) (hk : (levels l).length = (levels m).length) (M : Nat) (hM : M + 1 ≤ (levels l).length) : Over (levels l) (levels m) M := by
  intro L i hL hi h
  have h1 := growF_step l.length l L (by have : (levels l).length = (growF l.length l).length := rfl; omega)
  have h2 := growF_step m.length m L (by have : (levels m).length = (growF m.length m).length := rfl; omega)
  unfold nd at h ⊢
  change (levels l).getD (L + 1) [] = overL ((levels l).getD L []) at h1
  change (levels m).getD (L + 1) [] = overL ((levels m).getD L []) at h2
  have hi2 := hi
  rw [hlen (L + 1)] at hi2
  rw [h1] at hi ⊢
  rw [h2] at hi2 ⊢
  rw [overL_at _ i hi, overL_at _ i hi2, four_eq _ _ i (hlen L) h]
theorem lens_under (l : List Nat) (p : Nat) (hp : p < l.length) (L : Nat) (hL : L < (levels l).length) : p / 4 ^ L < ((levels l).getD L []).length := by
  induction L with
  | zero =>
    obtain ⟨r, hr⟩ := growF_head l.length l
    have : (levels l).getD 0 [] = l := by unfold levels; rw [hr]; rfl
    rw [this]
    simpa using hp
  | succ L ih =>
    have h1 := growF_step l.length l L hL
    change (levels l).getD (L + 1) [] = overL ((levels l).getD L []) at h1
    have h2 := ih (by omega)
    rw [h1, overL_len, Nat.pow_succ, ← Nat.div_div_eq_div_mul]
    omega
theorem top_under (l : List Nat) (p : Nat) (hp : p < l.length) (L : Nat) (hL : L + 1 = (levels l).length) : under L 0 p := by
  have h1 := lens_under l p hp L (by omega)
  have h2 := growF_last l.length l (by omega) L hL
  change ((levels l).getD L []).length ≤ 1 at h2
  have h3 : p / 4 ^ L = 0 := Nat.lt_one_iff.1 (Nat.lt_of_lt_of_le h1 h2)
  have hpos : 0 < 4 ^ L := Nat.pow_pos (by omega)
  refine ⟨by omega, ?_⟩
  rw [Nat.zero_add, Nat.one_mul]
  exact (Nat.div_eq_zero_iff_lt hpos).1 h3
/-- digests of unlike things are alike at this place -/
def clashAt (la lb : List (List Nat)) (un : Nat → Prop) (L k : Nat) : Prop := k < (la.getD L []).length ∧ nd la L k = nd lb L k ∧ match L with
  | 0 => un k
  | L + 1 => ∃ j ∈ kids (la.getD L []).length k, ¬ nd la L j = nd lb L j
theorem clash_else (l m : List Nat) (un : Nat → Prop) (L p : Nat) (hp : p < l.length) (hL : L + 1 = (levels l).length) (hun : un p) (hno : ¬ p ∈ dplaces (levels l) (levels m) L 0) : ∃ l' k, l' ≤ L ∧ clashAt (levels l) (levels m) un l' k := by
  apply Classical.byContradiction
  intro hc
  apply hno
  refine dplaces_mem L 0 p ?_ (top_under l p hp L hL) ?_ (fun l' hl' => lens_under l p hp l' (by omega))
  · have := lens_under l p hp 0 (by omega)
    simpa using this
  · intro l' hl'
    induction l' with
    | zero =>
      intro he
      exact hc ⟨0, p / 4 ^ 0, Nat.zero_le _, lens_under l p hp 0 (by omega), he, by simpa using hun⟩
    | succ l' ih =>
      intro he
      have h1 := ih (by omega)
      refine hc ⟨l' + 1, p / 4 ^ (l' + 1), hl', lens_under l p hp (l' + 1) (by omega), he, p / 4 ^ l', ?_, h1⟩
      have h2 := lens_under l p hp l' (by omega)
      unfold kids
      have h4 : p / 4 ^ l' / 4 = p / 4 ^ (l' + 1) := by rw [Nat.div_div_eq_div_mul, ← Nat.pow_succ]
      exact List.mem_map.2 ⟨p / 4 ^ l' - p / 4 ^ (l' + 1) * 4, List.mem_range.2 (by omega), by omega⟩
theorem dplaces_unl (la lb : List (List Nat)) (L i : Nat) : ∀ p ∈ dplaces la lb L i, ¬ nd la 0 p = nd lb 0 p := by
  induction L generalizing i with
  | zero =>
    intro p hp
    rw [dplaces] at hp
    split at hp
    · simp at hp
    · rename_i h
      simp at hp
      subst hp
      exact h
  | succ L ih =>
    intro p hp
    rw [dplaces] at hp
    split at hp
    · simp at hp
    · obtain ⟨k, _, hp⟩ := List.mem_flatMap.1 hp
      exact ih k p hp
theorem dplaces_in (la lb : List (List Nat)) (L i : Nat) (hi : L = 0 → i < (la.getD 0 []).length) : ∀ p ∈ dplaces la lb L i, p < (la.getD 0 []).length := by
  induction L generalizing i with
  | zero =>
    intro p hp
    rw [dplaces] at hp
    split at hp
    · simp at hp
    · simp at hp
      subst hp
      exact hi rfl
  | succ L ih =>
    intro p hp
    rw [dplaces] at hp
    split at hp
    · simp at hp
    · obtain ⟨k, hk, hp⟩ := List.mem_flatMap.1 hp
      exact ih k (fun h => by subst h; exact kids_lt _ _ k hk) p hp
end Mx
end Go.Proofs.Ytdhmijjphgcdmac

/-
  Digests of unlike things that are alike (clash): where there are such, it says so.
-/
namespace Go.Proofs.Ytdhmijjphgcdmac
open Go.RowKit

/-- two lists of blocks are unlike there -/
def unl (l m : List B8) (k : Nat) : Prop := ¬ l.getD k zB = m.getD k zB

set_option maxHeartbeats 8000000 in
set_option maxRecDepth 100000 in
theorem clash_true (aa ab al am : Option Addr) (ka ca cb n cl cm : Nat) (la lb : List (List Nat)) (l m : List B8) (w : World) (hla : Lvls w aa ka la) (hlb : Lvls w ab ka lb) (hl : BL w al n l) (hm : BL w am n m) (hk2 : ka ≤ 50) (hn2 : n ≤ 50) (hn : (la.getD 0 []).length = n) (hlen : ∀ L, (la.getD L []).length = (lb.getD L []).length) (hsm : ∀ L, (la.getD L []).length ≤ 50)
    (hc : ∃ L k, L < ka ∧ Mx.clashAt la lb (unl l m) L k) :
    Calls Try.prog 30 #[.agg #[.slice aa ka ca], .agg #[.slice ab ka cb], .slice al n cl, .slice am n cm] w fun e w' => e = .returned (.bool true) ∧ BelS w w' := by
  have HLA := hide hla
  have HLB := hide hlb
  have HL := hide hl
  have HM := hide hm
  have HN := hide hn
  have HLEN := hide hlen
  have HSM := hide hsm
  have HC := hide hc
  obtain ⟨w0, hw0⟩ : ∃ w0 : World, Hid (w0 = (w.alloc (.cells #[.slice aa ka ca] 60)).alloc (.cells #[.slice ab ka cb] 60)) := ⟨_, rfl⟩
  have X0 := hide (show Bx w0 w.heap.size #[.slice aa ka ca] 60 by rw [hw0.out]; exact (Bx.new w _ _).alloc _)
  have Y0 := hide (show Bx w0 (w.heap.size + 1) #[.slice ab ka cb] 60 by
    rw [hw0.out]
    have h := Bx.new (w.alloc (.cells #[.slice aa ka ca] 60)) #[.slice ab ka cb] 60
    rw [World.size_alloc] at h
    exact h)
  have B0 := hide (show Below w.heap.size w w0 by rw [hw0.out]; exact (below_alloc _ _).alloc (by simp) _)
  clear hla hlb hl hm hn hlen hsm hc
  go_enter Try.func30, Try.ntmps30
  go_wp2_with fail
  rw [← hw0.out]
  go_loopw [9] (fun t wr => ∃ i q : Nat, t = .int .i64 (i : Int) ∧ i ≤ ka ∧ wr = w0.drewN q ∧ Hid (∀ L k, L < i → ¬ Mx.clashAt la lb (unl l m) L k)) (fun t _ => ka - (intOf t).toNat)
  case atStart => exact ⟨0, 0, rfl, Nat.zero_le _, rfl, fun L k h => absurd h (by omega)⟩
  case round =>
    obtain ⟨i, q, rfl, hi, rfl, hNo⟩ := hrel
    have x1 : (w0.drewN q).cell? ⟨w.heap.size, 0, none⟩ = some (.slice aa ka ca) := X0.out.one
    have y1 : (w0.drewN q).cell? ⟨w.heap.size + 1, 0, none⟩ = some (.slice ab ka cb) := Y0.out.one
    by_cases hlt : (i : Int) < ka
    · obtain ⟨n1, hn1⟩ : ∃ n1 : Nat, Hid (n1 = (la.getD i []).length) := ⟨_, rfl⟩
      have hn1b : (n1 : Int) ≤ 50 := by have := HSM.out i; have := hn1.out; omega
      go_wp2_with fail
      clear x1 y1
      go_loopw [10] (fun t wr => ∃ k q : Nat, t = .int .i64 (k : Int) ∧ k ≤ n1 ∧ wr = w0.drewN q ∧ Hid (∀ k', k' < k → ¬ Mx.clashAt la lb (unl l m) i k')) (fun t _ => n1 - (intOf t).toNat)
      case atStart => exact ⟨0, q, rfl, Nat.zero_le _, rfl, fun k h => absurd h (by omega)⟩
      case round =>
        obtain ⟨k, q, rfl, hk, rfl, hNk⟩ := hrel
        obtain ⟨w1, hw1⟩ : ∃ w1 : World, Hid (w1 = w0.drewN q) := ⟨_, rfl⟩
        have x1 : w1.cell? ⟨w.heap.size, 0, none⟩ = some (.slice aa ka ca) := by rw [hw1.out]; exact X0.out.one
        have y1 : w1.cell? ⟨w.heap.size + 1, 0, none⟩ = some (.slice ab ka cb) := by rw [hw1.out]; exact Y0.out.one
        have B1 := hide (show Below w.heap.size w w1 by rw [hw1.out]; exact below_drewN B0.out q)
        rw [← hw1.out]
        obtain ⟨b, off, l1, a1, m1, c1, hab, _, hl1, f1, hu1, _⟩ := (HLA.out.later B1.out).at_ i (by omega)
        obtain ⟨b', off', l2, a2, m2, c2, hab', _, hl2, g1, hu2, _⟩ := (HLB.out.later B1.out).at_ i (by omega)
        subst hab hab'
        obtain rfl : m1 = n1 := by rw [← hu1.1, hn1.out, List.getD_eq_getElem?_getD, hl1]; rfl
        obtain rfl : m2 = m1 := by rw [← hu2.1, hn1.out, HLEN.out i, List.getD_eq_getElem?_getD, hl2]; rfl
        by_cases hkt : (k : Int) < m2
        · obtain ⟨bi, offi, x, ha1, _, hx, _, f2⟩ := hu1.at_ k (by omega)
          obtain ⟨bj, offj, y, ha2, _, hy, _, g2⟩ := hu2.at_ k (by omega)
          subst ha1 ha2
          have HX := hide (show x = Mx.nd la i k by rw [Mx.nd, List.getD_eq_getElem?_getD (l := la), hl1, Option.getD_some, List.getD_eq_getElem?_getD, hx]; rfl)
          have HY := hide (show y = Mx.nd lb i k by rw [Mx.nd, List.getD_eq_getElem?_getD (l := lb), hl2, Option.getD_some, List.getD_eq_getElem?_getD, hy]; rfl)
          clear hu1 hu2 hl1 hl2 hx hy
          have hdk : decide ((k : Int) < m2) = true := by simpa using hkt
          by_cases hE : x = y
          · subst hE
            have HEQ := hide (show Mx.nd la i k = Mx.nd lb i k by rw [← HX.out, ← HY.out])
            by_cases hi0 : i = 0
            · subst hi0
              have hmn : m2 = n := by rw [hn1.out, HN.out]
              subst hmn
              obtain ⟨bl, ol, u, hal, _, hu, e0, e1, e2, e3, e4, e5, e6, e7⟩ := (HL.out.later B1.out).at_ k (by omega)
              obtain ⟨bm, om, v, ham, _, hv, d0, d1, d2, d3, d4, d5, d6, d7⟩ := (HM.out.later B1.out).at_ k (by omega)
              subst hal ham
              have HU := hide (show l.getD k zB = u by rw [List.getD_eq_getElem?_getD, hu]; rfl)
              have HV := hide (show m.getD k zB = v by rw [List.getD_eq_getElem?_getD, hv]; rfl)
              have heq := equal_block u.z0 u.z1 u.z2 u.z3 u.z4 u.z5 u.z6 u.z7 v.z0 v.z1 v.z2 v.z3 v.z4 v.z5 v.z6 v.z7
              rw [Nat.add_zero] at f1 g1
              clear hu hv
              by_cases hcc : [u.z0, u.z1, u.z2, u.z3, u.z4, u.z5, u.z6, u.z7] = [v.z0, v.z1, v.z2, v.z3, v.z4, v.z5, v.z6, v.z7]
              · have HCC := hide ((B8.eq_list u v).1 hcc)
                rw [decide_eq_true hcc] at heq
                have HNX := hide (show ∀ k', k' < k + 1 → ¬ Mx.clashAt la lb (unl l m) 0 k' by
                  intro k' hk' hcl
                  rcases Nat.lt_succ_iff_lt_or_eq.1 hk' with h | h
                  · exact hNk.out k' h hcl
                  · subst h
                    exact hcl.2.2 (by rw [HU.out, HV.out, HCC.out]))
                clear hcc
                go_wp2_with fail
                go_quiet (fail)
                go_wp2_with fail
                go_quiet (fail)
                go_wp2_with fail
                go_loopw [11] (fun t wr => ∃ J q' : Nat, t = .int .i64 (J : Int) ∧ wr = w0.drewN q') (fun _ _ => 0)
                case atStart => exact ⟨k * 4, _, by go_num, by rw [hw1.out, World.drewN_drewN]⟩
                case round =>
                  obtain ⟨J, q', rfl, rfl⟩ := hrel
                  go_wp2_with fail
                  go_roundw
                  case rel => exact ⟨k + 1, q', by go_num, by omega, rfl, HNX⟩
                  case measure => simp [intOf]; omega
              · rw [decide_eq_false hcc] at heq
                clear hcc
                go_wp2_with fail
                go_quiet (fail)
                go_wp2_with fail
                go_quiet (fail)
                go_wp2_with fail
                go_ret
                exact ⟨rfl, ⟨below_drewN (below_drewN B1.out _) _⟩⟩
            · obtain ⟨I, hI⟩ : ∃ I : Nat, Hid (i = I + 1) := ⟨i - 1, by unfold Hid; omega⟩
              have hIe : (i : Int) - 1 = (I : Int) := by have := hI.out; omega
              have hig : decide ((0 : Int) < (i : Int)) = true := by simp; omega
              have hig2 : (0 : Int) < (i : Int) := by omega
              have hig3 : 0 < i := by omega
              have hig4 : decide (0 < i) = true := by simpa using hig3
              have hi0' : ((i : Int) == 0) = false := by simp; omega
              obtain ⟨n3, hn3⟩ : ∃ n3 : Nat, Hid (n3 = (la.getD I []).length) := ⟨_, rfl⟩
              have hn3b : (n3 : Int) ≤ 50 := by have := HSM.out I; have := hn3.out; omega
              obtain ⟨K4, hK4⟩ : ∃ K4 : Nat, Hid (K4 = k * 4) := ⟨_, rfl⟩
              have hK4e : (k : Int) * 4 = (K4 : Int) := by have := hK4.out; omega
              have hK4b : (K4 : Int) ≤ 200 := by omega
              go_wp2_with fail
              go_quiet (fail)
              go_wp2_with fail
              go_quiet (fail)
              go_wp2_with fail
              clear f1 f2 g1 g2 x1 y1
              go_loopw [11] (fun t wr => ∃ t' J q' : Nat, t = .int .i64 (J : Int) ∧ Hid (J = K4 + t') ∧ (J : Int) ≤ (K4 : Int) + 4 ∧ wr = w0.drewN q' ∧ Hid (∀ j', j' < t' → Mx.nd la I (k * 4 + j') = Mx.nd lb I (k * 4 + j'))) (fun t _ => K4 + 4 - (intOf t).toNat)
              case atStart => exact ⟨0, K4, _, by go_num, rfl, by omega, by rw [hw1.out, World.drewN_drewN], fun j h => absurd h (by omega)⟩
              case round =>
                obtain ⟨t', J, q', rfl, hJ, hJ4, rfl, hNj⟩ := hrel
                obtain ⟨w2, hw2⟩ : ∃ w2 : World, Hid (w2 = w0.drewN q') := ⟨_, rfl⟩
                have x2 : w2.cell? ⟨w.heap.size, 0, none⟩ = some (.slice (some ⟨b, off, none⟩) ka ca) := by rw [hw2.out]; exact X0.out.one
                have y2 : w2.cell? ⟨w.heap.size + 1, 0, none⟩ = some (.slice (some ⟨b', off', none⟩) ka cb) := by rw [hw2.out]; exact Y0.out.one
                have B2 := hide (show Below w.heap.size w w2 by rw [hw2.out]; exact below_drewN B0.out q')
                rw [← hw2.out]
                obtain ⟨b3, off3, l3, a3, m3, c3, hab3, _, hl3, f3, hu3, _⟩ := (HLA.out.later B2.out).at_ I (by have := hI.out; omega)
                obtain ⟨b4, off4, l4, a4, m4, c4, hab4, _, hl4, g3, hu4, _⟩ := (HLB.out.later B2.out).at_ I (by have := hI.out; omega)
                cases hab3
                cases hab4
                obtain rfl : m3 = n3 := by rw [← hu3.1, hn3.out, List.getD_eq_getElem?_getD, hl3]; rfl
                obtain rfl : m4 = m3 := by rw [← hu4.1, hn3.out, HLEN.out I, List.getD_eq_getElem?_getD, hl4]; rfl
                by_cases hgo : (J : Int) < (K4 : Int) + 4 ∧ (J : Int) < m4
                · obtain ⟨hg1, hg2⟩ := hgo
                  have hdg1 : decide ((J : Int) < (K4 : Int) + 4) = true := by simpa using hg1
                  obtain ⟨b5, off5, z, ha5, _, hz, _, f5⟩ := hu3.at_ J (by omega)
                  obtain ⟨b6, off6, z', ha6, _, hz', _, g5⟩ := hu4.at_ J (by omega)
                  subst ha5 ha6
                  have HZ := hide (show z = Mx.nd la I J by rw [Mx.nd, List.getD_eq_getElem?_getD (l := la), hl3, Option.getD_some, List.getD_eq_getElem?_getD, hz]; rfl)
                  have HZ' := hide (show z' = Mx.nd lb I J by rw [Mx.nd, List.getD_eq_getElem?_getD (l := lb), hl4, Option.getD_some, List.getD_eq_getElem?_getD, hz']; rfl)
                  clear hu3 hu4 hl3 hl4 hz hz'
                  by_cases hzz : z = z'
                  · subst hzz
                    have HNJ := hide (show ∀ j', j' < t' + 1 → Mx.nd la I (k * 4 + j') = Mx.nd lb I (k * 4 + j') by
                      intro j' hj'
                      rcases Nat.lt_succ_iff_lt_or_eq.1 hj' with h | h
                      · exact hNj.out j' h
                      · subst h
                        rw [← hK4.out, ← hJ.out, ← HZ.out, ← HZ'.out])
                    go_wp2_with fail
                    go_quiet (fail)
                    go_wp2_with fail
                    go_roundw
                    case rel => exact ⟨t' + 1, J + 1, _, by go_num, by unfold Hid; have := hJ.out; omega, by omega, by rw [hw2.out, World.drewN_drewN], HNJ⟩
                    case measure => simp [intOf]; omega
                  · have hne : ((z : Int) != (z' : Int)) = true := by simp; omega
                    clear hzz
                    go_wp2_with fail
                    go_quiet (fail)
                    go_wp2_with fail
                    go_ret
                    exact ⟨rfl, ⟨below_drewN B2.out _⟩⟩
                · have HNX := hide (show ∀ k', k' < k + 1 → ¬ Mx.clashAt la lb (unl l m) i k' by
                    intro k' hk' hcl
                    rcases Nat.lt_succ_iff_lt_or_eq.1 hk' with h | h
                    · exact hNk.out k' h hcl
                    · subst h
                      rw [hI.out] at hcl
                      obtain ⟨j, hj, hjn⟩ := hcl.2.2
                      rw [← hn3.out] at hj
                      unfold Mx.kids at hj
                      obtain ⟨jj, hjj, rfl⟩ := List.mem_map.1 hj
                      have h3 := List.mem_range.1 hjj
                      exact hjn (hNj.out jj (by have := hJ.out; have := hK4.out; omega)))
                  clear hu3 hu4 hl3 hl4
                  by_cases hg1 : (J : Int) < (K4 : Int) + 4
                  · have hdg1 : decide ((J : Int) < (K4 : Int) + 4) = true := by simpa using hg1
                    have hg2 : ¬ (J : Int) < m4 := fun h => hgo ⟨hg1, h⟩
                    have hdg2 : decide ((J : Int) < m4) = false := by simpa using hg2
                    clear hgo
                    go_wp2_with fail
                    go_roundw
                    case rel => exact ⟨k + 1, q', by go_num, by omega, hw2.out, HNX⟩
                    case measure => simp [intOf]; omega
                  · have hdg1 : decide ((J : Int) < (K4 : Int) + 4) = false := by simpa using hg1
                    clear hgo
                    go_wp2_with fail
                    go_roundw
                    case rel => exact ⟨k + 1, q', by go_num, by omega, hw2.out, HNX⟩
                    case measure => simp [intOf]; omega
          · have hne : ((x : Int) != (y : Int)) = true := by simp; omega
            have HNX := hide (show ∀ k', k' < k + 1 → ¬ Mx.clashAt la lb (unl l m) i k' by
              intro k' hk' hcl
              rcases Nat.lt_succ_iff_lt_or_eq.1 hk' with h | h
              · exact hNk.out k' h hcl
              · subst h
                exact hE (by rw [HX.out, HY.out]; exact hcl.2.1))
            clear hE
            go_wp2_with fail
            go_quiet (fail)
            go_wp2_with fail
            go_roundw
            case rel => exact ⟨k + 1, _, by go_num, by omega, by rw [hw1.out, World.drewN_drewN], HNX⟩
            case measure => simp [intOf]; omega
        · have hdk : decide ((k : Int) < m2) = false := by simpa using hkt
          have HNX := hide (show ∀ L k', L < i + 1 → ¬ Mx.clashAt la lb (unl l m) L k' by
            intro L k' hL hcl
            rcases Nat.lt_succ_iff_lt_or_eq.1 hL with h | h
            · exact hNo.out L k' h hcl
            · subst h
              exact hNk.out k' (by have := hcl.1; have := hn1.out; omega) hcl)
          clear hu1 hu2 hl1 hl2
          go_wp2_with fail
          go_roundw
          case rel => exact ⟨i + 1, q, by go_num, by omega, hw1.out, HNX⟩
          case measure => simp [intOf]; omega
    · exfalso
      obtain ⟨L, k, hL, hcl⟩ := HC.out
      exact hNo.out L k (by omega) hcl

end Go.Proofs.Ytdhmijjphgcdmac

/-
  Copies in memory of their own: slices.Clone at numbers of 64 bits.
-/
namespace Go.Proofs.Ytdhmijjphgcdmac
open Go.RowKit

set_option maxHeartbeats 1000000 in
set_option maxRecDepth 100000 in
theorem cloneU_any (b off n c : Nat) (l : List Nat) (w : World) (hl : U64s w (some ⟨b, off, none⟩) n l) (hn0 : 1 ≤ n) (hn : n ≤ 1000000) :
    Calls Try.prog 68 #[.slice (some ⟨b, off, none⟩) n c] w fun e w' => ∃ v, e = .returned v ∧ Hid (OwnU w' w.heap.size v l) ∧ Hid (Below w.heap.size w w') := by
  have q : ∀ (w : World) (a : Option Addr) (n c n' c' : Nat), (binOp .eql 120 (.slice a n c) (.slice none n' c')).run Try.prog w = .ok (.bool a.isNone) w := fun w a n c n' c' => Lib.run_eql_slice_nil w _ _ a n c n' c' Try.underlying120
  have HL := hide hl
  clear hl
  obtain ⟨i0, hi, hz0, hz1, hz2⟩ := info_parts Try.info121
  go_enter Try.func68, Try.ntmps68
  go_wp2_with (at_builtin; refine wpList_append_own _ rfl _ _ 120 rfl w.heap.size 121 i0 _ 1 8 Try.underlying120 hi hz0 hz1 hz2 rfl (by decide) _ _ _ rfl (World.ownsRow_made w #[] 0 (Nat.le_refl _) (Nat.zero_le _) (by simp)) ⟨b, off, none⟩ n c (l.map fun x : Nat => Value.int .u64 (x : Int)) rfl ?qc1 ?qc2 ?qc3 ?qc4 ?qc5 ?qc6 ?_)
  case qc1 => rw [List.length_map, HL.out.1, Nat.mul_one]
  case qc2 =>
    intro j u hj
    obtain ⟨b', off', hb, hlt, hc⟩ := HL.out.2.2.2 hn0
    cases hb
    rw [Addr.add_lit]
    have hjl : j < l.length := by have := (List.getElem?_eq_some_iff.1 hj).1; simpa using this
    have h1 := hc j (by rw [← HL.out.1]; exact hjl)
    rw [List.getElem?_map, List.getElem?_eq_getElem hjl] at hj
    rw [List.getD_eq_getElem?_getD, List.getElem?_eq_getElem hjl] at h1
    simp at hj h1
    subst hj
    exact Lib.cell?_alloc_some _ h1
  case qc3 =>
    intro u hu
    obtain ⟨z, _, rfl⟩ := List.mem_map.1 hu
    rfl
  case qc4 => unfold maxLen; omega
  case qc5 => omega
  case qc6 => simp
  intro v' w1 hown hgrow hnil
  have HO := hide hown
  have HG := hide hgrow
  clear hown hgrow hnil
  go_wp2
  go_ret
  refine ⟨v', rfl, ?_, ?_⟩
  · have := HO.out
    unfold Hid OwnU
    rw [HL.out.1]
    simpa using this
  · exact ((Below.refl _ w).alloc (Nat.le_refl _) _).grown HG.out (by simp) (by intro k hk; simp [Value.ownBlock] at hk; omega)

end Go.Proofs.Ytdhmijjphgcdmac

/-
  A block put into a tree, as the program does it (Put): its errors.
-/
namespace Go.Proofs.Ytdhmijjphgcdmac
open Go.RowKit

set_option maxHeartbeats 2000000 in
set_option maxRecDepth 100000 in
theorem tput_err (a : Option Addr) (k c : Nat) (ls : List (List Nat)) (at_ : Int) (x : B8) (w : World) (h : Lvls w a k ls) (hE : ¬ Mx.tmay ls = 0) :
    Calls Try.prog 25 #[.agg #[.slice a k c], .int .i64 at_, .agg #[.int .u8 x.z0, .int .u8 x.z1, .int .u8 x.z2, .int .u8 x.z3, .int .u8 x.z4, .int .u8 x.z5, .int .u8 x.z6, .int .u8 x.z7]] w fun e w' =>
      e = .returned (.tuple #[.agg #[.slice none 0 0], errV (Mx.tmay ls)]) ∧ Below w.heap.size w w' := by
  have HL := hide h
  have HE := hide hE
  clear h hE
  obtain ⟨w0, hw0⟩ : ∃ w0 : World, Hid (w0 = ((w.alloc (.cells #[.slice a k c] 60)).alloc (.cells #[.int .u8 x.z0, .int .u8 x.z1, .int .u8 x.z2, .int .u8 x.z3, .int .u8 x.z4, .int .u8 x.z5, .int .u8 x.z6, .int .u8 x.z7] 50)).alloc (.cells #[.slice none 0 0] 60)) := ⟨_, rfl⟩
  have B0 := hide (show Below w.heap.size w w0 by rw [hw0.out]; exact ((below_alloc _ _).alloc (by simp) _).alloc (by simp; omega) _)
  have R0 := hide (show Bx w0 (w.heap.size + 2) #[.slice none 0 0] 60 by
    rw [hw0.out]
    have h := Bx.new ((w.alloc (.cells #[.slice a k c] 60)).alloc (.cells #[.int .u8 x.z0, .int .u8 x.z1, .int .u8 x.z2, .int .u8 x.z3, .int .u8 x.z4, .int .u8 x.z5, .int .u8 x.z6, .int .u8 x.z7] 50)) #[.slice none 0 0] 60
    rw [World.size_alloc, World.size_alloc] at h
    exact h)
  go_enter Try.func25, Try.ntmps25
  go_wp2_with fail
  rw [← hw0.out]
  refine (tcheck_any a k c ls w0 (HL.out.later B0.out)).mono ?_
  rintro e w1 ⟨rfl, hb1⟩
  have R1 := hide (R0.out.later hb1 R0.out.lt)
  have B1 := hide (B0.out.trans (hb1.mono B0.out.size))
  clear hb1
  obtain ⟨E, hEE⟩ : ∃ E : Int, Hid (E = Mx.tmay ls) := ⟨_, rfl⟩
  have HV := hide (show errV (Mx.tmay ls) = .iface 36 (.int .i64 E) by rw [errV_not HE.out, hEE.out])
  rw [HV.out]
  have r0 := R1.out.one
  have rz := R1.out.frozen
  have r1 := (show Bx _ _ #[.slice none 0 0] 60 from R1.out.set 0 (.slice none 0 0)).one
  go_wp2_with fail
  exact bodyPost_ret (v := .tuple #[.agg #[.slice none 0 0], .iface 36 (.int .i64 E)]) (by simp [results, Try.results25, go_sem, r1]) rfl ⟨by rw [HV.out], B1.out.setCell (p := ⟨w.heap.size + 2, 0, none⟩) (by show w.heap.size ≤ w.heap.size + 2; omega) _⟩

end Go.Proofs.Ytdhmijjphgcdmac

/-
  A block put into a tree, as the program does it (Put): where there is such a place.
-/
namespace Go.Proofs.Ytdhmijjphgcdmac
open Go.RowKit

set_option maxHeartbeats 4000000 in
set_option maxRecDepth 100000 in
theorem tput_ok (a : Option Addr) (k c : Nat) (l : List Nat) (j : Nat) (x : B8) (w : World) (h : Lvls w a k (Mx.levels l)) (hk : 1 ≤ k) (h1 : 1 ≤ l.length) (h2 : l.length ≤ 32) (hz : (Mx.levels l)[0]? = some l) (hm : Mx.tmay (Mx.levels l) = 0) (hx : x.ok) (hj : j < l.length) :
    Calls Try.prog 25 #[.agg #[.slice a k c], .int .i64 (j : Int), .agg #[.int .u8 x.z0, .int .u8 x.z1, .int .u8 x.z2, .int .u8 x.z3, .int .u8 x.z4, .int .u8 x.z5, .int .u8 x.z6, .int .u8 x.z7]] w fun e w' =>
      ∃ a' k' cap', e = .returned (.tuple #[.agg #[.slice a' k' cap'], .nilIface]) ∧ Hid (Lvls w' a' k' (Mx.levels (l.set j (Mx.blockD x))) ∧ k' ≤ cap' ∧ LvlsA w.heap.size w' a' k' (Mx.levels (l.set j (Mx.blockD x)))) ∧ Hid (Below w.heap.size w w') := by
  have HL := hide h
  have HM := hide hm
  have HXO := hide hx
  have hkl : k ≤ maxLen := h.2.1
  unfold maxLen at hkl
  obtain ⟨b, off, l0, ai, ni, ci, hab, hbw, hl0, hcell, hu, hnc⟩ := h.at_ 0 (by omega)
  rw [hz] at hl0
  obtain rfl : l = l0 := Option.some.inj hl0
  subst hab
  rw [Nat.add_zero] at hcell
  have hni : ni = l.length := hu.1.symm
  subst hni
  obtain ⟨bi, offi, hai, hbi, _⟩ := hu.2.2.2 h1
  subst hai
  have HU := hide hu
  obtain ⟨N, hN⟩ : ∃ N : Nat, Hid (N = l.length) := ⟨_, rfl⟩
  rw [← hN.out] at hcell HU h1 h2 hj
  clear h hz hl0 hu hnc hm hx
  have hkp : (0 : Int) < k := by omega
  have hkr : 0 < k := by omega
  have hd0 : decide ((j : Int) < 0) = false := by simp
  have hjN : (j : Int) < N := by omega
  have hdN : decide ((N : Int) ≤ j) = false := by simp; omega
  obtain ⟨w0, hw0⟩ : ∃ w0 : World, Hid (w0 = ((w.alloc (.cells #[.slice (some ⟨b, off, none⟩) k c] 60)).alloc (.cells #[.int .u8 x.z0, .int .u8 x.z1, .int .u8 x.z2, .int .u8 x.z3, .int .u8 x.z4, .int .u8 x.z5, .int .u8 x.z6, .int .u8 x.z7] 50)).alloc (.cells #[.slice none 0 0] 60)) := ⟨_, rfl⟩
  have B0 := hide (show Below w.heap.size w w0 by rw [hw0.out]; exact ((below_alloc _ _).alloc (by simp) _).alloc (by simp; omega) _)
  have T0 := hide (show Bx w0 w.heap.size #[.slice (some ⟨b, off, none⟩) k c] 60 by rw [hw0.out]; exact ((Bx.new w _ _).alloc _).alloc _)
  have X0 := hide (show Bx w0 (w.heap.size + 1) #[.int .u8 x.z0, .int .u8 x.z1, .int .u8 x.z2, .int .u8 x.z3, .int .u8 x.z4, .int .u8 x.z5, .int .u8 x.z6, .int .u8 x.z7] 50 by
    rw [hw0.out]
    have h := (Bx.new (w.alloc (.cells #[.slice (some ⟨b, off, none⟩) k c] 60)) #[.int .u8 x.z0, .int .u8 x.z1, .int .u8 x.z2, .int .u8 x.z3, .int .u8 x.z4, .int .u8 x.z5, .int .u8 x.z6, .int .u8 x.z7] 50).alloc (.cells #[.slice none 0 0] 60)
    rw [World.size_alloc] at h
    exact h)
  have R0 := hide (show Bx w0 (w.heap.size + 2) #[.slice none 0 0] 60 by
    rw [hw0.out]
    have h := Bx.new ((w.alloc (.cells #[.slice (some ⟨b, off, none⟩) k c] 60)).alloc (.cells #[.int .u8 x.z0, .int .u8 x.z1, .int .u8 x.z2, .int .u8 x.z3, .int .u8 x.z4, .int .u8 x.z5, .int .u8 x.z6, .int .u8 x.z7] 50)) #[.slice none 0 0] 60
    rw [World.size_alloc, World.size_alloc] at h
    exact h)
  go_enter Try.func25, Try.ntmps25
  go_wp2_with fail
  rw [← hw0.out]
  refine (tcheck_any (some ⟨b, off, none⟩) k c (Mx.levels l) w0 (HL.out.later B0.out)).mono ?_
  rintro e w1 ⟨rfl, hb1⟩
  rw [HM.out, errV_zero]
  have T1 := hide (T0.out.later hb1 T0.out.lt)
  have X1 := hide (X0.out.later hb1 X0.out.lt)
  have R1 := hide (R0.out.later hb1 R0.out.lt)
  have B1 := hide (B0.out.trans (hb1.mono B0.out.size))
  clear hb1
  have t1 := T1.out.one
  have hc1 : w1.cell? ⟨b, off, none⟩ = some (.slice (some ⟨bi, offi, none⟩) N ci) := (B1.out.cell (p := ⟨b, off, none⟩) hbw).trans hcell
  clear hcell
  go_wp2_with fail
  refine (cloneU_any bi offi N ci l w1 (HU.out.later B1.out) h1 (by omega)).mono ?_
  rintro e w2 ⟨v2, rfl, hO2, hb2⟩
  obtain ⟨a2, c2, hv2⟩ := hO2.out.form
  rw [← hN.out] at hv2
  subst hv2
  have HRD := hide (hO2.out.read HU.out.2.2.1)
  obtain ⟨g, go, hag, _, _⟩ := HRD.out.1.2.2.2 h1
  obtain rfl : go = 0 := by
    rcases hO2.out.2 with ⟨hv, _⟩ | ⟨g', cap', cur, hv, _⟩
    · simp only [Value.slice.injEq] at hv
      omega
    · simp only [Value.slice.injEq] at hv
      rw [hv.1] at hag
      simp only [Option.some.injEq, Addr.mk.injEq, and_true] at hag
      exact hag.2.symm
  subst hag
  have hgl := World.ownsRow.lt hO2.out g rfl
  have X2 := hide (X1.out.later hb2.out X1.out.lt)
  have R2 := hide (R1.out.later hb2.out R1.out.lt)
  have B2 := hide (B1.out.trans (hb2.out.mono B1.out.size))
  have hR1 := R1.out.lt
  clear t1 hc1
  obtain ⟨f0, f1, f2, f3, f4, f5, f6, f7⟩ := X2.out.eight
  go_wp2_with fail
  refine (ofBlock_any x HXO.out w2).mono ?_
  rintro e w3 ⟨rfl, hb3⟩
  have R3 := hide (R2.out.later hb3 R2.out.lt)
  have B3 := hide (B2.out.trans (hb3.mono B2.out.size))
  have U3 := hide (show OwnU w3 w1.heap.size (.slice (some ⟨g, 0, none⟩) N c2) l from rowKept hO2.out hb3)
  clear hb3 f0 f1 f2 f3 f4 f5 f6 f7
  obtain ⟨Z, hZ⟩ : ∃ Z : Nat, Hid (Z = Mx.blockD x) := ⟨_, rfl⟩
  rw [← hZ.out]
  obtain ⟨b5, off5, x5, hab, _, _, _, u0⟩ := (U3.out.read HU.out.2.2.1).1.at_ j hj
  simp only [Option.some.injEq, Addr.mk.injEq, and_true] at hab
  obtain ⟨rfl, rfl⟩ := hab
  rw [Nat.zero_add] at u0
  have uz : ∀ o, w3.frozen? ⟨g, o, none⟩ = false := by
    rcases U3.out.2 with ⟨hv, _⟩ | ⟨g', cap', cur, hv, _, hh, _⟩
    · cases hv
    · simp only [Value.slice.injEq, Option.some.injEq, Addr.mk.injEq, and_true] at hv
      obtain ⟨rfl, _, _⟩ := hv
      exact fun o => (show Bx w3 g cur 121 from hh).frozen o
  obtain ⟨w4, hw4⟩ : ∃ w4 : World, Hid (w4 = w3.setCell ⟨g, j, none⟩ (.int .u64 (Z : Int))) := ⟨_, rfl⟩
  have U4 := hide (show OwnU w4 w1.heap.size (.slice (some ⟨g, 0, none⟩) N c2) (l.set j Z) by rw [hw4.out]; exact (U3.out.set1 j Z).1)
  have R4 := hide (show Bx w4 (w.heap.size + 2) #[.slice none 0 0] 60 by rw [hw4.out]; exact R3.out.other _ _ (by show w.heap.size + 2 ≠ g; omega))
  have B4 := hide (show Below w.heap.size w w4 by rw [hw4.out]; exact B3.out.setCell (p := ⟨g, j, none⟩) (by show w.heap.size ≤ g; omega) _)
  have HU4 := hide (U4.out.read (by
    intro z hz'
    rcases List.mem_or_eq_of_mem_set hz' with h | h
    · exact HU.out.2.2.1 z h
    · rw [h, hZ.out]
      exact Mx.blockD_lt x))
  go_wp2_with fail
  rw [← hw4.out]
  have hg4 := (World.ownsRow.lt U4.out g rfl).2
  refine (grow_any g 0 N c2 (l.set j Z) w4 HU4.out.1 hg4 h1 (by omega) HU4.out.2).mono ?_
  rintro e w5 ⟨a5, k5, cap5, rfl, hO5, hb5⟩
  have R5 := hide (R4.out.later hb5.out R4.out.lt)
  have B5 := hide (B4.out.trans (hb5.out.mono B4.out.size))
  have r0 := R5.out.one
  have rz := R5.out.frozen
  have q5 := own_ne_bx hO5.out.choose_spec.1 R5.out (by decide)
  have hsz4 := R4.out.lt
  go_wp2_with fail
  have r1 := (show Bx _ _ #[.slice a5 k5 cap5] 60 from R5.out.set 0 (.slice a5 k5 cap5)).one
  refine bodyPost_ret (v := .tuple #[.agg #[.slice a5 k5 cap5], .nilIface]) (by simp [results, Try.results25, go_sem, r1]) rfl ⟨a5, k5, cap5, rfl, ?_, B5.out.setCell (p := ⟨w.heap.size + 2, 0, none⟩) (by show w.heap.size ≤ w.heap.size + 2; omega) _⟩
  rw [← hZ.out]
  have HF := (hO5.out.setOther ⟨w.heap.size + 2, 0, none⟩ (.slice a5 k5 cap5) q5 (by show ¬ (w.heap.size + 2 = g ∨ w4.heap.size + 3 ≤ w.heap.size + 2); omega))
  exact ⟨HF.lv.1, HF.lv.2, HF.lvA (by omega) (fun q hq => by
    rcases hq with hq | hq
    · omega
    · omega)⟩

end Go.Proofs.Ytdhmijjphgcdmac

/-
  Where two trees differ, as the program asks it (Diff): the closure that goes down (hold).
-/
namespace Go.Proofs.Ytdhmijjphgcdmac
open Go.RowKit

namespace Mx
/-- how many places there are below a place -/
def kidsT (n i : Nat) : Nat := min (i * 4 + 4) n - i * 4
/-- what the first of these say -/
def daskedK (la lb : List (List Nat)) (L i t : Nat) : Nat := ((List.range t).map fun k => dasked la lb L (i * 4 + k)).sum
def dplacesK (la lb : List (List Nat)) (L i t : Nat) : List Nat := (List.range t).flatMap fun k => dplaces la lb L (i * 4 + k)
theorem daskedK_succ (la lb : List (List Nat)) (L i t : Nat) : daskedK la lb L i (t + 1) = daskedK la lb L i t + dasked la lb L (i * 4 + t) := by
  unfold daskedK
  rw [List.range_succ, List.map_append, List.sum_append]
  simp
theorem dplacesK_succ (la lb : List (List Nat)) (L i t : Nat) : dplacesK la lb L i (t + 1) = dplacesK la lb L i t ++ dplaces la lb L (i * 4 + t) := by
  unfold dplacesK
  rw [List.range_succ, List.flatMap_append]
  simp
theorem daskedK_mono (la lb : List (List Nat)) (L i t T : Nat) (h : t ≤ T) : daskedK la lb L i t ≤ daskedK la lb L i T := by
  induction T with
  | zero => rw [Nat.le_zero.1 h]; exact Nat.le_refl _
  | succ T ih =>
    rcases Nat.lt_or_ge t (T + 1) with h1 | h1
    · rw [daskedK_succ]
      have := ih (by omega)
      omega
    · rw [show t = T + 1 by omega]
      exact Nat.le_refl _
theorem dplacesK_mono (la lb : List (List Nat)) (L i t T : Nat) (h : t ≤ T) : (dplacesK la lb L i t).length ≤ (dplacesK la lb L i T).length := by
  induction T with
  | zero => rw [Nat.le_zero.1 h]; exact Nat.le_refl _
  | succ T ih =>
    rcases Nat.lt_or_ge t (T + 1) with h1 | h1
    · rw [dplacesK_succ, List.length_append]
      have := ih (by omega)
      omega
    · rw [show t = T + 1 by omega]
      exact Nat.le_refl _
theorem dasked_same {la lb : List (List Nat)} {L i : Nat} (h : nd la L i = nd lb L i) : dasked la lb L i = 1 := by
  cases L with
  | zero => rfl
  | succ L => rw [dasked, if_pos h]
theorem dplaces_same {la lb : List (List Nat)} {L i : Nat} (h : nd la L i = nd lb L i) : dplaces la lb L i = [] := by
  cases L with
  | zero => rw [dplaces, if_pos h]
  | succ L => rw [dplaces, if_pos h]
theorem dasked_unlike {la lb : List (List Nat)} {L i n : Nat} (h : ¬ nd la (L + 1) i = nd lb (L + 1) i) (hn : (la.getD L []).length = n) : dasked la lb (L + 1) i = 1 + daskedK la lb L i (kidsT n i) := by
  rw [dasked, if_neg h, kids, List.map_map, hn]
  rfl
theorem dplaces_unlike {la lb : List (List Nat)} {L i n : Nat} (h : ¬ nd la (L + 1) i = nd lb (L + 1) i) (hn : (la.getD L []).length = n) : dplaces la lb (L + 1) i = dplacesK la lb L i (kidsT n i) := by
  rw [dplaces, if_neg h, kids, List.flatMap_map, hn]
  rfl
theorem dplaces_zero {la lb : List (List Nat)} {i : Nat} (h : ¬ nd la 0 i = nd lb 0 i) : dplaces la lb 0 i = [i] := by rw [dplaces, if_neg h]
end Mx

/-- where the closure stands: its boxes; how many were asked; which places differ -/
def HI (w0 : World) (gh : Nat) (va vb : Value) (A : Nat) (P : List Nat) (w : World) : Prop :=
  ∃ vP, Bx w w0.heap.size #[va] 60 ∧ Bx w (w0.heap.size + 1) #[vb] 60 ∧ Bx w (w0.heap.size + 2) #[vP] 22 ∧ Bx w (w0.heap.size + 3) #[.int .i64 (A : Int)] 3 ∧
    Bx w gh #[.func (.func 71) #[] #[.pointer (some ⟨w0.heap.size + 3, 0, none⟩), .pointer (some ⟨w0.heap.size, 0, none⟩), .pointer (some ⟨w0.heap.size + 1, 0, none⟩), .pointer (some ⟨w0.heap.size + 2, 0, none⟩), .pointer (some ⟨gh, 0, none⟩)]] 128 ∧
    OwnI w (gh + 1) vP (P.map fun x : Nat => (x : Int)) ∧ Below w0.heap.size w0 w ∧ w0.heap.size + 4 ≤ gh

theorem HI.drewN {w0 w : World} {gh : Nat} {va vb : Value} {A : Nat} {P : List Nat} (h : HI w0 gh va vb A P w) (q : Nat) : HI w0 gh va vb A P (w.drewN q) := by
  obtain ⟨vP, h1, h2, h3, h4, h5, h6, h7, h8⟩ := h
  have hb := below_drewN (Below.refl w.heap.size w) q
  exact ⟨vP, h1.later hb h1.lt, h2.later hb h2.lt, h3.later hb h3.lt, h4.later hb h4.lt, h5.later hb h5.lt, rowKept h6 hb, below_drewN h7 q, h8⟩
/-- one more was asked -/
theorem HI.ask {w0 w : World} {gh : Nat} {va vb : Value} {A : Nat} {P : List Nat} (h : HI w0 gh va vb A P w) : HI w0 gh va vb (A + 1) P (w.setCell ⟨w0.heap.size + 3, 0, none⟩ (.int .i64 ((A : Int) + 1))) := by
  obtain ⟨vP, h1, h2, h3, h4, h5, h6, h7, h8⟩ := h
  refine ⟨vP, h1.other _ _ (by show _ ≠ w0.heap.size + 3; omega), h2.other _ _ (by show _ ≠ w0.heap.size + 3; omega), h3.other _ _ (by show _ ≠ w0.heap.size + 3; omega), ?_, h5.other _ _ (by show _ ≠ w0.heap.size + 3; omega), ownsRow_other h6 _ _ (fun e => ?_), h7.setCell (p := ⟨w0.heap.size + 3, 0, none⟩) (by show _ ≤ w0.heap.size + 3; omega) _, h8⟩
  · exact h4.set 0 _
  · have := (World.ownsRow.lt h6 _ e).1
    change gh + 1 ≤ w0.heap.size + 3 at this
    omega

/-- a place more -/
theorem HI.put {w0 w w2 : World} {gh : Nat} {va vb v' : Value} {A : Nat} {P P' : List Nat} (h : HI w0 gh va vb A P w) (hb : Below (gh + 1) w w2) (ho : OwnI w2 (gh + 1) v' (P'.map fun x : Nat => (x : Int))) : HI w0 gh va vb A P' (w2.setCell ⟨w0.heap.size + 2, 0, none⟩ v') := by
  obtain ⟨vP, h1, h2, h3, h4, h5, h6, h7, h8⟩ := h
  refine ⟨v', (h1.later hb (by omega)).other _ _ (by show _ ≠ w0.heap.size + 2; omega), (h2.later hb (by omega)).other _ _ (by show _ ≠ w0.heap.size + 2; omega), (h3.later hb (by omega)).set 0 _, (h4.later hb (by omega)).other _ _ (by show _ ≠ w0.heap.size + 2; omega), (h5.later hb (by omega)).other _ _ (by show _ ≠ w0.heap.size + 2; omega), ownsRow_other ho _ _ (fun e => ?_), (h7.trans (hb.mono (by omega))).setCell (p := ⟨w0.heap.size + 2, 0, none⟩) (by show _ ≤ w0.heap.size + 2; omega) _, h8⟩
  have := (World.ownsRow.lt ho _ e).1
  change gh + 1 ≤ w0.heap.size + 2 at this
  omega

set_option maxHeartbeats 4000000 in
set_option maxRecDepth 100000 in
theorem hold_same (w0 : World) (gh : Nat) (aa ab : Option Addr) (ka ca kb cb : Nat) (la lb : List (List Nat)) (hla : Lvls w0 aa ka la) (hlb : Lvls w0 ab kb lb) (hk : ka = kb) (_hk2 : ka ≤ 1000) (hlen : ∀ L, (la.getD L []).length = (lb.getD L []).length) (hsm : ∀ L, (la.getD L []).length ≤ 1000)
    (L i A : Nat) (P : List Nat) (w : World) (hL : L < ka) (hi : i < (la.getD L []).length) (h : HI w0 gh (.slice aa ka ca) (.slice ab kb cb) A P w) (hA : A ≤ 1000000) (hE : Mx.nd la L i = Mx.nd lb L i) :
    Calls Try.prog 71 #[.int .i64 (L : Int), .int .i64 (i : Int), .pointer (some ⟨w0.heap.size + 3, 0, none⟩), .pointer (some ⟨w0.heap.size, 0, none⟩), .pointer (some ⟨w0.heap.size + 1, 0, none⟩), .pointer (some ⟨w0.heap.size + 2, 0, none⟩), .pointer (some ⟨gh, 0, none⟩)] w fun e w' =>
      e = .returned (.tuple #[]) ∧ HI w0 gh (.slice aa ka ca) (.slice ab kb cb) (A + 1) P w' := by
  have HIW := hide h
  obtain ⟨vP, h1, h2, h3, h4, h5, h6, h7, h8⟩ := h
  obtain ⟨w1, hw1⟩ : ∃ w1 : World, Hid (w1 = w.setCell ⟨w0.heap.size + 3, 0, none⟩ (.int .i64 ((A : Int) + 1))) := ⟨_, rfl⟩
  have H1 := hide (show HI w0 gh (.slice aa ka ca) (.slice ab kb cb) (A + 1) P w1 by rw [hw1.out]; exact HIW.out.ask)
  have q0 := h4.one
  have qz := h4.frozen
  have B1 := hide (show Below w0.heap.size w0 w1 by obtain ⟨_, _, _, _, _, _, _, h, _⟩ := H1.out; exact h)
  have x1 : w1.cell? ⟨w0.heap.size, 0, none⟩ = some (.slice aa ka ca) := by obtain ⟨_, h, _⟩ := H1.out; exact h.one
  have y1 : w1.cell? ⟨w0.heap.size + 1, 0, none⟩ = some (.slice ab kb cb) := by obtain ⟨_, _, h, _⟩ := H1.out; exact h.one
  obtain ⟨b, off, bi, offi, ni, ci, x, hab, _, c1, hni, c2, hx⟩ := (hla.later B1.out).nd_ L i hL hi
  obtain ⟨b', off', bj, offj, nj, cj, y, hab', _, d1, hnj, d2, hy⟩ := (hlb.later B1.out).nd_ L i (by omega) (by rw [← hlen L]; exact hi)
  subst hab hab'
  have HX := hide hx
  have HY := hide hy
  have hin : (i : Int) < ni := by omega
  have hinj : (i : Int) < nj := by have := hlen L; omega
  have hni2 : (ni : Int) ≤ 1000 := by have := hsm L; omega
  have hnj2 : (nj : Int) ≤ 1000 := by have := hsm L; have := hlen L; omega
  subst hk
  have hLk : (L : Int) < ka := by omega
  obtain rfl : x = y := by rw [hx, hy, hE]
  clear hla hlb hlen hsm hx hy h1 h2 h3 h4 h5 h6 h7 hE hni hnj hi hL
  go_enter Try.func71, Try.ntmps71
  go_wp2_with fail
  rw [← hw1.out]
  go_quiet (fail)
  go_wp2_with fail
  refine bodyPost_ret (results_none rfl _ _ _) rfl ?_
  exact ⟨rfl, H1.out.drewN _⟩

set_option maxHeartbeats 4000000 in
set_option maxRecDepth 100000 in
theorem hold_leaf (w0 : World) (gh : Nat) (aa ab : Option Addr) (ka ca kb cb : Nat) (la lb : List (List Nat)) (hla : Lvls w0 aa ka la) (hlb : Lvls w0 ab kb lb) (hk : ka = kb) (_hk2 : ka ≤ 1000) (hlen : ∀ L, (la.getD L []).length = (lb.getD L []).length) (hsm : ∀ L, (la.getD L []).length ≤ 1000)
    (i A : Nat) (P : List Nat) (w : World) (hL : 0 < ka) (hi : i < (la.getD 0 []).length) (h : HI w0 gh (.slice aa ka ca) (.slice ab kb cb) A P w) (hA : A ≤ 1000000) (hP : P.length ≤ 1000000) (hE : ¬ Mx.nd la 0 i = Mx.nd lb 0 i) :
    Calls Try.prog 71 #[.int .i64 (0 : Int), .int .i64 (i : Int), .pointer (some ⟨w0.heap.size + 3, 0, none⟩), .pointer (some ⟨w0.heap.size, 0, none⟩), .pointer (some ⟨w0.heap.size + 1, 0, none⟩), .pointer (some ⟨w0.heap.size + 2, 0, none⟩), .pointer (some ⟨gh, 0, none⟩)] w fun e w' =>
      e = .returned (.tuple #[]) ∧ HI w0 gh (.slice aa ka ca) (.slice ab kb cb) (A + 1) (P ++ [i]) w' := by
  have HIW := hide h
  obtain ⟨vP, h1, h2, h3, h4, h5, h6, h7, h8⟩ := h
  obtain ⟨w1, hw1⟩ : ∃ w1 : World, Hid (w1 = w.setCell ⟨w0.heap.size + 3, 0, none⟩ (.int .i64 ((A : Int) + 1))) := ⟨_, rfl⟩
  have H1 := hide (show HI w0 gh (.slice aa ka ca) (.slice ab kb cb) (A + 1) P w1 by rw [hw1.out]; exact HIW.out.ask)
  have q0 := h4.one
  have qz := h4.frozen
  have B1 := hide (show Below w0.heap.size w0 w1 by obtain ⟨_, _, _, _, _, _, _, h, _⟩ := H1.out; exact h)
  have x1 : w1.cell? ⟨w0.heap.size, 0, none⟩ = some (.slice aa ka ca) := by obtain ⟨_, h, _⟩ := H1.out; exact h.one
  have y1 : w1.cell? ⟨w0.heap.size + 1, 0, none⟩ = some (.slice ab kb cb) := by obtain ⟨_, _, h, _⟩ := H1.out; exact h.one
  obtain ⟨b, off, bi, offi, ni, ci, x, hab, _, c1, hni, c2, hx⟩ := (hla.later B1.out).nd_ 0 i hL hi
  obtain ⟨b', off', bj, offj, nj, cj, y, hab', _, d1, hnj, d2, hy⟩ := (hlb.later B1.out).nd_ 0 i (by omega) (by rw [← hlen 0]; exact hi)
  subst hab hab'
  have HX := hide hx
  have HY := hide hy
  have hin : (i : Int) < ni := by omega
  have hinj : (i : Int) < nj := by have := hlen 0; omega
  have hni2 : (ni : Int) ≤ 1000 := by have := hsm 0; omega
  have hnj2 : (nj : Int) ≤ 1000 := by have := hsm 0; have := hlen 0; omega
  subst hk
  have hLk : (0 : Int) < ka := by omega
  have hne : ((x : Int) == (y : Int)) = false := by
    have : ¬ x = y := by rw [hx, hy]; exact hE
    simp
    omega
  rw [Nat.add_zero] at c1 d1
  have p1 : ∃ vP, Bx w1 (w0.heap.size + 2) #[vP] 22 ∧ OwnI w1 (gh + 1) vP (P.map fun x : Nat => (x : Int)) := by obtain ⟨vP, _, _, h, _, _, ho, _⟩ := H1.out; exact ⟨vP, h, ho⟩
  clear vP hla hlb hlen hsm hx hy h1 h2 h3 h4 h5 h6 h7 hE hni hnj hi hL
  obtain ⟨vP, pb, ho1⟩ := p1
  have HO1 := hide ho1
  have PB := hide pb
  have p1 := pb.one
  clear pb
  obtain ⟨N, hN⟩ : ∃ N : Nat, Hid (N = P.length) := ⟨_, rfl⟩
  have hgh : gh + 1 ≤ w1.heap.size := by obtain ⟨_, _, _, _, _, h, _⟩ := H1.out; exact h.lt
  have HP := hide hP
  clear ho1 hP
  go_enter Try.func71, Try.ntmps71
  go_wp2_with fail
  rw [← hw1.out]
  go_quiet (fail)
  go_wp2_with (at_builtin; refine wpList_append_int rfl _ _ rfl (gh + 1) (P.map fun x : Nat => (x : Int)) ?o1 (i : Int) ?o2 ?o3 ?o4 ?_)
  case o1 => exact rowKept HO1.out (below_drewN (Below.refl _ _) _)
  case o2 => rfl
  case o3 => rw [List.length_map]; exact HP.out
  case o4 => exact hgh
  intro ad c3 w2 hown2 hbel2 hge
  rw [← hN.out]
  rw [← hN.out] at hown2
  have O2 := hide (show OwnI w2 (gh + 1) (.slice (some ad) (N + 1) c3) ((P ++ [i]).map fun x : Nat => (x : Int)) by rw [List.map_append]; exact hown2)
  have BE := hide hbel2
  have PB2 := hide (PB.out.later (show Below (gh + 1) w1 w2 from ⟨hbel2.os, hbel2.tape, hbel2.output, hbel2.size, hbel2.block⟩) (by omega))
  have pz := PB2.out.frozen
  have p2 := PB2.out.one
  clear hown2 hbel2 hge p1 c1 c2 d1 d2 x1 y1 q0 qz
  go_wp2_with fail
  refine bodyPost_ret (results_none rfl _ _ _) rfl ?_
  exact ⟨rfl, (H1.out.drewN _).put BE.out O2.out⟩

set_option maxHeartbeats 4000000 in
set_option maxRecDepth 100000 in
theorem hold_down (w0 : World) (gh : Nat) (aa ab : Option Addr) (ka ca kb cb : Nat) (la lb : List (List Nat)) (hla : Lvls w0 aa ka la) (hlb : Lvls w0 ab kb lb) (hk : ka = kb) (_hk2 : ka ≤ 1000) (hlen : ∀ L, (la.getD L []).length = (lb.getD L []).length) (hsm : ∀ L, (la.getD L []).length ≤ 1000)
    (L1 i A : Nat) (P : List Nat) (w : World) (L : Nat) (hL1 : L1 = L + 1) (hL : L1 < ka) (hi : i < (la.getD L1 []).length) (h : HI w0 gh (.slice aa ka ca) (.slice ab kb cb) A P w) (hA : A + Mx.dasked la lb L1 i ≤ 1000000) (hP : P.length + (Mx.dplaces la lb L1 i).length ≤ 1000000) (hE : ¬ Mx.nd la L1 i = Mx.nd lb L1 i)
    (ih : (∀ (i A : Nat) (P : List Nat) (w : World), i < (la.getD L []).length → HI w0 gh (.slice aa ka ca) (.slice ab kb cb) A P w → A + Mx.dasked la lb L i ≤ 1000000 → P.length + (Mx.dplaces la lb L i).length ≤ 1000000 → Calls Try.prog 71 #[.int .i64 (L : Int), .int .i64 (i : Int), .pointer (some ⟨w0.heap.size + 3, 0, none⟩), .pointer (some ⟨w0.heap.size, 0, none⟩), .pointer (some ⟨w0.heap.size + 1, 0, none⟩), .pointer (some ⟨w0.heap.size + 2, 0, none⟩), .pointer (some ⟨gh, 0, none⟩)] w fun e w' => e = .returned (.tuple #[]) ∧ HI w0 gh (.slice aa ka ca) (.slice ab kb cb) (A + Mx.dasked la lb L i) (P ++ Mx.dplaces la lb L i) w')) :
    Calls Try.prog 71 #[.int .i64 (L1 : Int), .int .i64 (i : Int), .pointer (some ⟨w0.heap.size + 3, 0, none⟩), .pointer (some ⟨w0.heap.size, 0, none⟩), .pointer (some ⟨w0.heap.size + 1, 0, none⟩), .pointer (some ⟨w0.heap.size + 2, 0, none⟩), .pointer (some ⟨gh, 0, none⟩)] w fun e w' =>
      e = .returned (.tuple #[]) ∧ HI w0 gh (.slice aa ka ca) (.slice ab kb cb) (A + Mx.dasked la lb L1 i) (P ++ Mx.dplaces la lb L1 i) w' := by
  have IH := hide ih
  clear ih
  have HIW := hide h
  obtain ⟨vP, h1, h2, h3, h4, h5, h6, h7, h8⟩ := h
  obtain ⟨w1, hw1⟩ : ∃ w1 : World, Hid (w1 = w.setCell ⟨w0.heap.size + 3, 0, none⟩ (.int .i64 ((A : Int) + 1))) := ⟨_, rfl⟩
  have H1 := hide (show HI w0 gh (.slice aa ka ca) (.slice ab kb cb) (A + 1) P w1 by rw [hw1.out]; exact HIW.out.ask)
  have q0 := h4.one
  have qz := h4.frozen
  have B1 := hide (show Below w0.heap.size w0 w1 by obtain ⟨_, _, _, _, _, _, _, h, _⟩ := H1.out; exact h)
  have x1 : w1.cell? ⟨w0.heap.size, 0, none⟩ = some (.slice aa ka ca) := by obtain ⟨_, h, _⟩ := H1.out; exact h.one
  have y1 : w1.cell? ⟨w0.heap.size + 1, 0, none⟩ = some (.slice ab kb cb) := by obtain ⟨_, _, h, _⟩ := H1.out; exact h.one
  obtain ⟨b, off, bi, offi, ni, ci, x, hab, _, c1, hni, c2, hx⟩ := (hla.later B1.out).nd_ L1 i hL hi
  obtain ⟨b', off', bj, offj, nj, cj, y, hab', _, d1, hnj, d2, hy⟩ := (hlb.later B1.out).nd_ L1 i (by omega) (by rw [← hlen L1]; exact hi)
  subst hab hab'
  have HX := hide hx
  have HY := hide hy
  have hin : (i : Int) < ni := by omega
  have hinj : (i : Int) < nj := by have := hlen L1; omega
  have hni2 : (ni : Int) ≤ 1000 := by have := hsm L1; omega
  have hnj2 : (nj : Int) ≤ 1000 := by have := hsm L1; have := hlen L1; omega
  subst hk
  have hLk : (L1 : Int) < ka := by omega
  have hne : ((x : Int) == (y : Int)) = false := by
    have : ¬ x = y := by rw [hx, hy]; exact hE
    simp
    omega
  have HLA := hide hla
  have hLe : (L1 : Int) - 1 = (L : Int) := by omega
  have hL0 : ((L1 : Int) == 0) = false := by simp; omega
  obtain ⟨n, hn⟩ : ∃ n : Nat, Hid (n = (la.getD L []).length) := ⟨_, rfl⟩
  have hn2 : (n : Int) ≤ 1000 := by have := hsm L; have := hn.out; omega
  obtain ⟨I, hI⟩ : ∃ I : Nat, Hid (I = i * 4) := ⟨_, rfl⟩
  have hIe : (i : Int) * 4 = (I : Int) := by have := hI.out; omega
  have hI2 : (I : Int) ≤ 4000 := by have := hI.out; omega
  obtain ⟨T, hT⟩ : ∃ T : Nat, Hid (T = Mx.kidsT n i) := ⟨_, rfl⟩
  have HAK := hide (show Mx.dasked la lb L1 i = 1 + Mx.daskedK la lb L i T by rw [hT.out, hL1]; exact Mx.dasked_unlike (by rw [← hL1]; exact hE) hn.out.symm)
  have HPK := hide (show Mx.dplaces la lb L1 i = Mx.dplacesK la lb L i T by rw [hT.out, hL1]; exact Mx.dplaces_unlike (by rw [← hL1]; exact hE) hn.out.symm)
  have HAB := hide (show A + (1 + Mx.daskedK la lb L i T) ≤ 1000000 by rw [← HAK.out]; exact hA)
  have HPB := hide (show P.length + (Mx.dplacesK la lb L i T).length ≤ 1000000 by rw [← HPK.out]; exact hP)
  have hA1 : A ≤ 1000000 := by omega
  rw [HAK.out, HPK.out]
  have hTI : ∀ t : Nat, t < T ↔ I + t < I + 4 ∧ I + t < n := by
    intro t
    have h1 := hT.out
    have h2 := hI.out
    unfold Mx.kidsT at h1
    omega
  have HTI := hide hTI
  have HL1 := hide hL1
  have HLk := hide (show L < ka by omega)
  clear hla hlb hlen hsm hx hy h1 h2 h3 h4 h5 h6 h7 hE hni hnj hi hL hA hP hTI hL1 vP
  go_enter Try.func71, Try.ntmps71
  go_wp2_with fail
  rw [← hw1.out]
  go_quiet (fail)
  go_wp2_with fail
  clear x1 y1 c1 c2 d1 d2 q0 qz
  go_loopw [10] (fun bl wr => ∃ (t K : Nat), bl = .int .i64 (K : Int) ∧ Hid (K = I + t) ∧ (K : Int) ≤ (I : Int) + 4 ∧ Hid (t ≤ T) ∧ Hid (HI w0 gh (.slice (some ⟨b, off, none⟩) ka ca) (.slice (some ⟨b', off', none⟩) ka cb) (A + (1 + Mx.daskedK la lb L i t)) (P ++ Mx.dplacesK la lb L i t) wr)) (fun bl _ => I + 4 - (intOf bl).toNat)
  case atStart => exact ⟨0, I, rfl, rfl, by omega, Nat.zero_le _, by unfold Hid; simpa [Mx.daskedK, Mx.dplacesK] using H1.out.drewN _⟩
  case round =>
    obtain ⟨t, K, rfl, hK, hK4, ht, hH⟩ := hrel
    have BW := hide (show Below w0.heap.size w0 wr by obtain ⟨_, _, _, _, _, _, _, h, _⟩ := hH.out; exact h)
    have x2 : wr.cell? ⟨w0.heap.size, 0, none⟩ = some (.slice (some ⟨b, off, none⟩) ka ca) := by obtain ⟨_, h, _⟩ := hH.out; exact h.one
    obtain ⟨b3, off3, l3, a3, n3, c3, hab3, _, hl3, e3, hu3, _⟩ := (HLA.out.later BW.out).at_ L HLk.out
    cases hab3
    obtain rfl : n3 = n := by rw [← hu3.1, hn.out, List.getD_eq_getElem?_getD, hl3]; rfl
    clear hl3 hu3
    by_cases hlt : t < T
    · have hK5 : (K : Int) < (I : Int) + 4 := by have := (HTI.out t).1 hlt; have := hK.out; omega
      have hK6 : (K : Int) < n3 := by have := (HTI.out t).1 hlt; have := hK.out; omega
      have g2 : wr.cell? ⟨gh, 0, none⟩ = some (.func (.func 71) #[] #[.pointer (some ⟨w0.heap.size + 3, 0, none⟩), .pointer (some ⟨w0.heap.size, 0, none⟩), .pointer (some ⟨w0.heap.size + 1, 0, none⟩), .pointer (some ⟨w0.heap.size + 2, 0, none⟩), .pointer (some ⟨gh, 0, none⟩)]) := by obtain ⟨_, _, _, _, _, h, _⟩ := hH.out; exact h.one
      have HT := hide hlt
      clear hlt
      go_wp2_with fail
      all_goals
        refine (IH.out K (A + (1 + Mx.daskedK la lb L i t)) (P ++ Mx.dplacesK la lb L i t) wr (by rw [← hn.out]; omega) hH.out ?b1 ?b2).mono ?_
        case b1 =>
          have h1 := Mx.daskedK_mono la lb L i (t + 1) T HT.out
          rw [Mx.daskedK_succ, ← hI.out, ← hK.out] at h1
          have := HAB.out
          omega
        case b2 =>
          have h1 := Mx.dplacesK_mono la lb L i (t + 1) T HT.out
          rw [Mx.dplacesK_succ, ← hI.out, ← hK.out, List.length_append] at h1
          rw [List.length_append]
          have := HPB.out
          omega
        rintro e w2 ⟨rfl, hH2⟩
        have H2 := hide (show HI w0 gh (.slice (some ⟨b, off, none⟩) ka ca) (.slice (some ⟨b', off', none⟩) ka cb) (A + (1 + Mx.daskedK la lb L i (t + 1))) (P ++ Mx.dplacesK la lb L i (t + 1)) w2 by
          rw [Mx.daskedK_succ, Mx.dplacesK_succ, ← hI.out, ← hK.out, ← List.append_assoc, ← Nat.add_assoc 1, ← Nat.add_assoc A]
          exact hH2)
        clear hH2 x2 e3 g2
        go_wp2_with fail
        go_roundw
        case rel => exact ⟨t + 1, K + 1, by go_num, by unfold Hid; have := hK.out; omega, by omega, HT, H2⟩
        case measure => simp [intOf]; omega
    · have HE := hide (show t = T by have := ht.out; omega)
      have hnot : ¬ ((K : Int) < (I : Int) + 4 ∧ (K : Int) < n3) := by
        intro hc
        have := (HTI.out t).2 (by have := hK.out; omega)
        omega
      have H2 := hide (show HI w0 gh (.slice (some ⟨b, off, none⟩) ka ca) (.slice (some ⟨b', off', none⟩) ka cb) (A + (1 + Mx.daskedK la lb L i T)) (P ++ Mx.dplacesK la lb L i T) wr by rw [← HE.out]; exact hH.out)
      clear hlt
      by_cases h5 : (K : Int) < (I : Int) + 4
      · have h6 : ¬ (K : Int) < n3 := fun h => hnot ⟨h5, h⟩
        clear hnot
        go_wp2_with fail
        all_goals
          go_end0
          exact ⟨rfl, H2.out⟩
      · clear hnot
        go_wp2_with fail
        all_goals
          go_end0
          exact ⟨rfl, H2.out⟩

theorem hold_any (w0 : World) (gh : Nat) (aa ab : Option Addr) (ka ca kb cb : Nat) (la lb : List (List Nat)) (hla : Lvls w0 aa ka la) (hlb : Lvls w0 ab kb lb) (hk : ka = kb) (hk2 : ka ≤ 1000) (hlen : ∀ L, (la.getD L []).length = (lb.getD L []).length) (hsm : ∀ L, (la.getD L []).length ≤ 1000) :
    ∀ (L i A : Nat) (P : List Nat) (w : World), L < ka → i < (la.getD L []).length → HI w0 gh (.slice aa ka ca) (.slice ab kb cb) A P w → A + Mx.dasked la lb L i ≤ 1000000 → P.length + (Mx.dplaces la lb L i).length ≤ 1000000 →
    Calls Try.prog 71 #[.int .i64 (L : Int), .int .i64 (i : Int), .pointer (some ⟨w0.heap.size + 3, 0, none⟩), .pointer (some ⟨w0.heap.size, 0, none⟩), .pointer (some ⟨w0.heap.size + 1, 0, none⟩), .pointer (some ⟨w0.heap.size + 2, 0, none⟩), .pointer (some ⟨gh, 0, none⟩)] w fun e w' =>
      e = .returned (.tuple #[]) ∧ HI w0 gh (.slice aa ka ca) (.slice ab kb cb) (A + Mx.dasked la lb L i) (P ++ Mx.dplaces la lb L i) w' := by
  intro L
  induction L with
  | zero =>
    intro i A P w hL hi h hA hP
    by_cases hE : Mx.nd la 0 i = Mx.nd lb 0 i
    · rw [Mx.dasked_same hE, Mx.dplaces_same hE, List.append_nil]
      exact hold_same w0 gh aa ab ka ca kb cb la lb hla hlb hk hk2 hlen hsm 0 i A P w hL hi h (by omega) hE
    · rw [Mx.dplaces_zero hE]
      exact hold_leaf w0 gh aa ab ka ca kb cb la lb hla hlb hk hk2 hlen hsm i A P w hL hi h (by omega) (by omega) hE
  | succ L ih =>
    intro i A P w hL hi h hA hP
    by_cases hE : Mx.nd la (L + 1) i = Mx.nd lb (L + 1) i
    · rw [Mx.dasked_same hE, Mx.dplaces_same hE, List.append_nil]
      exact hold_same w0 gh aa ab ka ca kb cb la lb hla hlb hk hk2 hlen hsm (L + 1) i A P w hL hi h (by omega) hE
    · exact hold_down w0 gh aa ab ka ca kb cb la lb hla hlb hk hk2 hlen hsm (L + 1) i A P w L rfl hL hi h hA hP hE (fun i A P w hi h hA hP => ih i A P w (by omega) hi h hA hP)

end Go.Proofs.Ytdhmijjphgcdmac

/-
  A tree of blocks, as the document's answer has it (TreeOf).
-/
namespace Go.Proofs.Ytdhmijjphgcdmac
open Go.RowKit

theorem BL.byteAt {w : World} {b off n : Nat} {l : List B8} (h : BL w (some ⟨b, off, none⟩) n l) (k : Nat) (hk : k < n) {y : B8} (hy : l[k]? = some y) (j : Nat) (hj : j < 8) : ∃ z : Int, (Mx.bytesOf y)[j]? = some z ∧ w.cell? ⟨b, off + k * 8 + j, none⟩ = some (.int .u8 z) := by
  obtain ⟨b', off', x, ha, _, hx, e0, e1, e2, e3, e4, e5, e6, e7⟩ := h.at_ k hk
  cases ha
  obtain rfl : x = y := by rw [hy] at hx; exact (Option.some.inj hx).symm
  match j, hj with
  | 0, _ => exact ⟨_, rfl, e0⟩
  | 1, _ => exact ⟨_, rfl, e1⟩
  | 2, _ => exact ⟨_, rfl, e2⟩
  | 3, _ => exact ⟨_, rfl, e3⟩
  | 4, _ => exact ⟨_, rfl, e4⟩
  | 5, _ => exact ⟨_, rfl, e5⟩
  | 6, _ => exact ⟨_, rfl, e6⟩
  | 7, _ => exact ⟨_, rfl, e7⟩
  | n + 8, h => omega

end Go.Proofs.Ytdhmijjphgcdmac

/-
  For all blocks and bytes, their digests are what D1 says (TreeSays): the walk.
-/
namespace Go.Proofs.Ytdhmijjphgcdmac
open Go.RowKit

theorem Mx.levels_head (l : List Nat) : (Mx.levels l)[0]? = some l ∧ 1 ≤ (Mx.levels l).length := by
  unfold Mx.levels
  cases l.length with
  | zero => exact ⟨rfl, Nat.le_refl _⟩
  | succ f =>
    rw [Mx.growF]
    split
    · exact ⟨rfl, Nat.le_refl _⟩
    · exact ⟨rfl, by simp⟩

end Go.Proofs.Ytdhmijjphgcdmac
