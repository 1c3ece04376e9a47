/-
  A packed frame is read as it was; with one byte another one it is no frame (TopFrame): the walk.
-/
import Derived.Test.YtengpogcdnbabacHurt
import Derived.Deep.RegionWith
namespace Go.Proofs.Ytengpogcdnbabac
open Go.RowKit

theorem eql_err3 (W : World) : (binOp .eql 28 (.iface 36 (.int .i64 3)) (.iface 36 (.int .i64 3))).run Try.prog W = .ok (.bool true) W :=
  Lib.run_eql_iface_int (P := Try.prog) (k := .i64) W 3 3 Try.underlying28 (by kernel_rfl) Try.underlying36

theorem known_bytes (w : World) (g : Nat) (h : w.heap[g]? = some (.cells #[.int .u8 0, .int .u8 0, .int .u8 65, .int .u8 217, .int .u8 18, .int .u8 255] 5 (0, 0))) : Bytes w (some ⟨g, 0, none⟩) 6 [0, 0, 65, 217, 18, 255] := by
  refine ⟨rfl, by unfold maxLen; omega, by decide, fun _ => ⟨g, 0, rfl, fun i hi => ?_⟩⟩
  rw [cell_of_cells h]
  match i, hi with
  | 0, _ => rfl
  | 1, _ => rfl
  | 2, _ => rfl
  | 3, _ => rfl
  | 4, _ => rfl
  | 5, _ => rfl

set_option maxHeartbeats 1000000 in
set_option maxRecDepth 100000 in
theorem top_err (kind : Int) (a1 a2 : Option Addr) (n1 c1 n2 c2 : Nat) (l : List Int) (at_ by_ : Int) (w : World) (h1 : Ints w a1 n1 l) (h2 : n2 ≤ maxLen) (hm : Mx.may kind l n2 ≠ 0) :
    Calls Try.prog 3 #[.agg #[.int .i64 kind, .slice a1 n1 c1, .slice a2 n2 c2], .int .i64 at_, .int .i64 by_] w fun e w' => e = .returned (.bool true) ∧ Below w.heap.size w w' := by
  have H1 := hide h1
  have H2 := hide h2
  have HM := hide hm
  clear h1 h2 hm
  go_enter Try.func3, Try.ntmps3
  go_wp2_with fail
  refine (pack_err kind a1 a2 n1 c1 n2 c2 l _ (H1.out.later (below_alloc _ _)) H2.out HM.out).mono ?_
  rintro e w1 ⟨rfl, hb1⟩
  have X1 := hide ((Boxf.start w (.int .i64 kind) (.slice a1 n1 c1) (.slice a2 n2 c2)).later hb1)
  clear hb1
  obtain ⟨f0, f1, f2, b1, s1⟩ := X1.out
  obtain ⟨E, hE, hE0⟩ : ∃ E : Int, Hid (Mx.may kind l n2 = E) ∧ Hid (E ≠ 0) := ⟨_, rfl, HM.out⟩
  rw [hE.out, errV_not hE0.out]
  go_wp2_with fail
  refine (unpack_any (some ⟨w1.heap.size, 0, none⟩) 6 6 [0, 0, 65, 217, 18, 255] _ (known_bytes _ _ (heap_alloc_new w1 _)) (by omega) (by omega)).mono ?_
  rintro e w2 (⟨kind', nums', nb', bs', a1', c1', a2', c2', rfl, hfr, hi, hbk, hbel⟩ | ⟨rfl, hno, hbel⟩)
  · obtain ⟨rfl, rfl, rfl, rfl⟩ := Mx.known_frame.one hfr
    have X2 := hide (X1.out.later ((below_alloc w1 _).trans (hbel.mono (by simp))))
    clear f0 f1 f2 b1 s1 hfr hi hbk hbel
    obtain ⟨f0, f1, f2, b1, s1⟩ := X2.out
    go_wp2_with fail
    refine (check_any kind a1 a2 n1 c1 n2 c2 l _ (H1.out.later (b1.alloc (by omega) _)) H2.out).mono ?_
    rintro e w4 ⟨rfl, hb4⟩
    rw [hE.out, errV_not hE0.out]
    go_wp2
    go_ret
    exact ⟨rfl, (b1.alloc (by omega) _).trans (hb4.mono (by simp; omega))⟩
  · exact absurd Mx.known_frame (hno _ _ _ _)

theorem hurt_byte (x z : Nat) (hx : x ≤ 255) (hz : (z : Int) < 255) : ∃ y : Nat, bits .xor .u8 (x : Int) (IntKind.u8.wrap (IntKind.i64.wrap (1 + (z : Int)))) = (y : Int) ∧ y ≤ 255 ∧ y ≠ x := by
  have e : IntKind.u8.wrap (IntKind.i64.wrap (1 + (z : Int))) = ((1 + z : Nat) : Int) := by
    rw [IntWalk.i64_left, IntWalk.wrap64_in _ (by omega), IntKind.wrap_u8']
    omega
  refine ⟨x ^^^ (1 + z), by rw [e, u8_xor_nat x (1 + z) (by omega) (by omega)], ?_, ?_⟩
  · have := Nat.xor_lt_two_pow (n := 8) (x := x) (y := 1 + z) (by omega) (by omega)
    omega
  · intro h
    have h2 : (x ^^^ (1 + z)) ^^^ x = 0 := by rw [h, Nat.xor_self]
    rw [Nat.xor_comm x, Nat.xor_assoc, Nat.xor_self, Nat.xor_zero] at h2
    omega

set_option maxHeartbeats 2000000 in
set_option maxRecDepth 100000 in
theorem top_ok (kind : Int) (a1 a2 : Option Addr) (n1 c1 n2 c2 : Nat) (l bs : List Int) (at_ by_ : Int) (w : World) (h1 : Ints w a1 n1 l) (h2 : Blks w a2 n2 bs) (hm : Mx.may kind l n2 = 0)
    (hat1 : -9223372036854775808 ≤ at_) (hat2 : at_ ≤ 9223372036854775807) (hby1 : -9223372036854775808 ≤ by_) (hby2 : by_ ≤ 9223372036854775807) :
    Calls Try.prog 3 #[.agg #[.int .i64 kind, .slice a1 n1 c1, .slice a2 n2 c2], .int .i64 at_, .int .i64 by_] w fun e w' => e = .returned (.bool true) ∧ Below w.heap.size w w' := by
  have H1 := hide h1
  have H2 := hide h2
  have HM := hide hm
  have HA := hide (And.intro hat1 hat2)
  have HY := hide (And.intro hby1 hby2)
  clear h1 h2 hm hat1 hat2 hby1 hby2
  go_enter Try.func3, Try.ntmps3
  go_wp2_with fail
  refine (pack_ok kind a1 a2 n1 c1 n2 c2 l bs _ (H1.out.later (below_alloc _ _)) (H2.out.later (below_alloc _ _)) HM.out).mono ?_
  rintro e w1 ⟨v, rfl, hown, hb1⟩
  have X1 := hide ((Boxf.start w (.int .i64 kind) (.slice a1 n1 c1) (.slice a2 n2 c2)).later hb1)
  clear hb1
  obtain ⟨f0, f1, f2, b1, s1⟩ := X1.out
  obtain ⟨PB, hPBf, hPBl, hPB2, hPB3, hPB6⟩ : ∃ PB : List Int, Hid (Mx.IsFrame PB kind l n2 bs) ∧ PB.length ≤ 2000 ∧ Hid (∀ x ∈ PB, 0 ≤ x ∧ x ≤ 255) ∧ Hid (PB ≠ [] ∧ Own w1 ((w.alloc (.cells #[.int .i64 kind, .slice a1 n1 c1, .slice a2 n2 c2] 25)).heap.size + 1) v PB) ∧ 6 ≤ PB.length :=
    ⟨Mx.packB kind l n2 bs, ⟨HM.out, H2.out.1, H2.out.2.2.1, rfl⟩, packB_len2 H2.out HM.out, packB_byte H2.out HM.out, ⟨by simp [Mx.packB, Mx.sealB], hown⟩, by have := (show Mx.IsFrame (Mx.packB kind l n2 bs) kind l n2 bs from ⟨HM.out, H2.out.1, H2.out.2.2.1, rfl⟩).head.2.2.1; omega⟩
  clear hown
  obtain ⟨g, cap, rfl, hg1, hg2, hcap⟩ := own_slice_cap hPB3.out.2 hPB3.out.1
  have hg1' : w.heap.size + 1 < g := by simp at hg1; omega
  go_wp2_with fail
  refine (unpack_any (some ⟨w1.heap.size, 0, none⟩) 6 6 [0, 0, 65, 217, 18, 255] _ (known_bytes _ _ (heap_alloc_new w1 _)) (by omega) (by omega)).mono ?_
  rintro e w2 (⟨kind', nums', nb', bs', a1', c1', a2', c2', rfl, hfr, hi, hbk, hbel⟩ | ⟨rfl, hno, hbel⟩)
  · obtain ⟨rfl, rfl, rfl, rfl⟩ := Mx.known_frame.one hfr
    have hB2 : Below w1.heap.size w1 w2 := (below_alloc w1 _).trans (hbel.mono (by simp))
    have X2 := hide (X1.out.later hB2)
    have HO2 := hide (own_below hPB3.out.2 hB2)
    have hs12 := hB2.size
    clear f0 f1 f2 b1 s1 hfr hi hbk hbel hB2 X1
    obtain ⟨f0, f1, f2, b1, s1⟩ := X2.out
    go_wp2_with fail
    refine (unpack_any (some ⟨g, 0, none⟩) PB.length cap PB _ ((own_bytes HO2.out hPB2.out).later (below_alloc _ _)) hPBl hcap).mono ?_
    rintro e w3 (⟨kind2, nums2, nb2, bs2, a3, c3, a4, c4, rfl, hfr, hi, hbk, hbel⟩ | ⟨rfl, hno, hbel⟩)
    · obtain ⟨rfl, rfl, rfl, rfl⟩ := hPBf.out.one hfr
      have hB3 : Below w2.heap.size w2 w3 := (below_alloc w2 _).trans (hbel.mono (by simp))
      have X3 := hide (X2.out.later hB3)
      have HO3 := hide (own_below HO2.out hB3)
      have hs23 := hB3.size
      have HI := hide hi
      have HK := hide hbk
      clear f0 f1 f2 b1 s1 hfr hi hbk hbel hB3 X2 HO2
      obtain ⟨f0, f1, f2, b1, s1⟩ := X3.out
      have hp6 : (6 : Int) ≤ PB.length := by omega
      go_wp2_with fail
      have HB4 := hide (below_alloc w3 (.cells #[.int .i64 kind, .slice a3 l.length c3, .slice a4 n2 c4] 25))
      refine (sameFrame_true kind a1 a2 a3 a4 n1 c1 n2 c2 l.length c3 n2 c4 l bs _ ((H1.out.later b1).later HB4.out) ((H2.out.later b1).later HB4.out) (HI.out.later HB4.out) (HK.out.later HB4.out)).mono ?_
      rintro e w4 ⟨rfl, hb4⟩
      have hB4 : Below w3.heap.size w3 w4 := HB4.out.trans (hb4.mono (by simp))
      have HBw := hide (b1.trans (hB4.mono (by omega)))
      have HO4 := hide (own_below HO3.out hB4)
      have hs34 := hB4.size
      clear f0 f1 f2 b1 s1 hb4 hB4 HB4 X3 HO3 HI HK
      go_wp2_with fail
      refine (pick_any at_ PB.length w4 HA.out.1 HA.out.2 (by omega) (by omega)).mono ?_
      rintro e w5 ⟨r, hr, rfl, rfl⟩
      obtain ⟨x, hx, hxd, hxc⟩ : ∃ x : Nat, x ≤ 255 ∧ Hid (PB.getD r 0 = (x : Int)) ∧ w5.cell? ⟨g, r, none⟩ = some (.int .u8 (x : Int)) := by
        obtain ⟨b', off', c, ha, e1, e2, hc, _⟩ := (own_bytes HO4.out hPB2.out).at_ r (by omega)
        cases ha
        exact ⟨c, e1, e2, by simpa using hc⟩
      have hfz := own_frozen HO4.out
      go_wp2_with fail
      go_region_with (go_at_call 11; refine (pick_any by_ 255 _ HY.out.1 HY.out.2 (by omega) (by omega)).mono ?_; rintro e w6 ⟨z, hz, rfl, rfl⟩)
      all_goals
        obtain ⟨y, hy1, hy2, hy3⟩ := hurt_byte x z hx hz
        rw [hy1]
        have HP := hide (show Bytes (w5.setCell ⟨g, r, none⟩ (.int .u8 (y : Int))).drew (some ⟨g, 0, none⟩) PB.length (PB.set r (y : Int)) from own_put HO4.out hPB2.out r (y : Int) (by omega) (by omega) (by omega))
        have HNF := hide (hPBf.out.hurt hPB2.out r (by omega) (y : Int) ⟨by omega, by omega⟩ (by rw [hxd.out]; omega))
        have HBw2 := hide ((HBw.out.setCell (p := ⟨g, r, none⟩) (by show _ ≤ g; omega) (.int .u8 (y : Int))).drew)
        have he3 := eql_err3
        go_wp2_with fail
        refine (unpack_any (some ⟨g, 0, none⟩) PB.length cap (PB.set r (y : Int)) _ HP.out hPBl hcap).mono ?_
        rintro e w7 (⟨kind3, nums3, nb3, bs3, a5, c5, a6, c6, rfl, hfr, hi, hbk, hbel⟩ | ⟨rfl, hno, hbel⟩)
        · exact absurd hfr (HNF.out _ _ _ _)
        · have HL7 := hide (HBw2.out.trans (hbel.mono (by have := HBw2.out.size; exact this)))
          clear hno hbel
          go_wp2
          go_ret
          exact ⟨rfl, HL7.out⟩
    · exact absurd hPBf.out (hno _ _ _ _)
  · exact absurd Mx.known_frame (hno _ _ _ _)

theorem top_any (kind : Int) (a1 a2 : Option Addr) (n1 c1 n2 c2 : Nat) (l bs : List Int) (at_ by_ : Int) (w : World) (h1 : Ints w a1 n1 l) (h2 : Blks w a2 n2 bs)
    (hat1 : -9223372036854775808 ≤ at_) (hat2 : at_ ≤ 9223372036854775807) (hby1 : -9223372036854775808 ≤ by_) (hby2 : by_ ≤ 9223372036854775807) :
    Calls Try.prog 3 #[.agg #[.int .i64 kind, .slice a1 n1 c1, .slice a2 n2 c2], .int .i64 at_, .int .i64 by_] w fun e w' => e = .returned (.bool true) ∧ Below w.heap.size w w' := by
  by_cases hm : Mx.may kind l n2 = 0
  · exact top_ok kind a1 a2 n1 c1 n2 c2 l bs at_ by_ w h1 h2 hm hat1 hat2 hby1 hby2
  · exact top_err kind a1 a2 n1 c1 n2 c2 l at_ by_ w h1 h2.2.1 hm
end Go.Proofs.Ytengpogcdnbabac
