/-
  A block touched: the document's answer (Touched).
-/
import Derived.Test.YtengpogcdnbabaaHm
import Derived.Test.YtengpogcdnbabaaHc
namespace Go.Proofs.Ytengpogcdnbabaa
open Go.RowKit

set_option maxHeartbeats 2000000 in
set_option maxRecDepth 100000 in
theorem touched_any (a : Option Addr) (n c : Nat) (l : List B8) (x : B8) (w : World) (hl : BL w a n l) :
    Calls Try.prog 60 #[.slice a n c, .agg #[.int .u8 x.z0, .int .u8 x.z1, .int .u8 x.z2, .int .u8 x.z3, .int .u8 x.z4, .int .u8 x.z5, .int .u8 x.z6, .int .u8 x.z7]] w fun e w' => ∃ g c', e = .returned (.slice (some ⟨g, 0, none⟩) (Mx.touched l x).length c') ∧ Hid (OwnBL w' w.heap.size (.slice (some ⟨g, 0, none⟩) (Mx.touched l x).length c') (Mx.touched l x)) ∧ Hid (Below w.heap.size w w') := by
  have hlen : n ≤ maxLen := hl.2.2.1
  unfold maxLen at hlen
  have HL := hide hl
  have HN := hide hl.1
  clear hl
  go_enter Try.func60, Try.ntmps60
  go_wp2
  go_loopw [5, 6] (fun v i wr => ∃ (k g c' m : Nat), k ≤ n ∧ i = .int .i64 k ∧ m ≤ 8 ∧ v = .slice (some ⟨g, 0, none⟩) m c' ∧ Hid (m = (Mx.touched (l.take k) x).length) ∧ Hid (Tch w (w.heap.size + 1) w.heap.size x (Mx.touched (l.take k) x) (.slice (some ⟨g, 0, none⟩) m c') wr)) (fun _ i _ => n - (intOf i).toNat)
  case atStart =>
    refine ⟨0, w.heap.size + 1, 1, 1, by omega, rfl, by omega, by simp, by simp [Hid, Mx.touched], ?_⟩
    have ht : Mx.touched (l.take 0) x = [x] := by simp [Mx.touched]
    rw [ht]
    have hone := OwnBL.one (w.alloc (.cells #[.int .u8 x.z0, .int .u8 x.z1, .int .u8 x.z2, .int .u8 x.z3, .int .u8 x.z4, .int .u8 x.z5, .int .u8 x.z6, .int .u8 x.z7] 52)) (w.heap.size + 1) (by simp) x
    rw [World.size_alloc] at hone
    exact ⟨(below_alloc _ _).alloc (by simp) _, (Bx.new _ _ _).alloc _, hone, by simp⟩
  case round =>
    obtain ⟨k, g, c', m, hk, rfl, hm8, rfl, hm, hT⟩ := hrel
    by_cases hlt : k < n
    · by_cases hmlt : (m : Int) < 8
      · obtain ⟨b, off, y, rfl, hb, hy, e0, e1, e2, e3, e4, e5, e6, e7⟩ := (HL.out.later hT.out.1).at_ k hlt
        obtain ⟨f0, f1, f2, f3, f4, f5, f6, f7⟩ := hT.out.2.1.eight
        have HY := hide hy
        clear hy
        have heq := equal_block y.z0 y.z1 y.z2 y.z3 y.z4 y.z5 y.z6 y.z7 x.z0 x.z1 x.z2 x.z3 x.z4 x.z5 x.z6 x.z7
        by_cases hcc : [y.z0, y.z1, y.z2, y.z3, y.z4, y.z5, y.z6, y.z7] = [x.z0, x.z1, x.z2, x.z3, x.z4, x.z5, x.z6, x.z7]
        · have HC := hide (Mx.touched_skip HY.out ((B8.eq_list y x).1 hcc))
          rw [decide_eq_true hcc] at heq
          clear hcc
          go_wp2_with fail
          go_quiet (fail)
          go_wp2
          go_roundw
          case rel => exact ⟨k + 1, g, c', m, by omega, by go_num, hm8, rfl, by rw [HC.out]; exact hm, by rw [HC.out]; exact hT.out.drewN _⟩
          case measure => simp [intOf]; omega
        · have HC := hide (Mx.touched_snoc (b := x) HY.out (fun e => hcc ((B8.eq_list y x).2 e)) (by rw [← hm.out]; omega))
          rw [decide_eq_false hcc] at heq
          clear hcc
          go_wp2_with fail
          go_quiet (fail)
          go_wp2_with (at_builtin; refine wpList_append_blk rfl _ _ rfl (w.heap.size + 1) (Mx.touched (l.take k) x) ?c0 y ?c1 ?c2 ?c3 ?_)
          case c0 => exact (hT.out.drewN _).2.2.1
          case c1 => rfl
          case c2 => have := Mx.touched_len (l.take k) x; omega
          case c3 => exact hT.out.2.2.2
          intro g' c2 w' hbg hcap hown hgr
          have hOP := hide hown
          have hG := hide hgr
          clear hown hgr hbg hcap e0 e1 e2 e3 e4 e5 e6 e7 f0 f1 f2 f3 f4 f5 f6 f7 heq
          rw [← hm.out]
          go_wp2
          go_roundw
          case rel => exact ⟨k + 1, g', c2, m + 1, by omega, by go_num, by omega, rfl, by rw [HC.out]; unfold Hid; rw [hm.out]; simp, by rw [HC.out]; exact Tch.grown (hT.out.drewN _) (by omega) (by omega) hG.out (by rw [hm.out]; exact hOP.out)⟩
          case measure => simp [intOf]; omega
      · have HS := hide (Mx.touched_stop (l := l) (k := k) (b := x) (by rw [← hm.out]; omega))
        go_wp2
        go_ret
        exact ⟨g, c', by rw [HS.out, ← hm.out] <;> rfl, by rw [HS.out, ← hm.out]; exact OwnBL.lower hT.out.2.2.1 (by omega), hT.out.1⟩
    · have HS := hide (Mx.touched_all (l := l) (k := k) (b := x) (by rw [HN.out]; omega))
      go_wp2
      go_ret
      exact ⟨g, c', by rw [← HS.out, ← hm.out] <;> rfl, by rw [← HS.out, ← hm.out]; exact OwnBL.lower hT.out.2.2.1 (by omega), hT.out.1⟩

set_option maxHeartbeats 2000000 in
set_option maxRecDepth 100000 in
theorem touch_err (a : Option Addr) (n c : Nat) (l : List B8) (x : B8) (w : World) (hl : BL w a n l) (hc : n ≤ c) (hE : ¬ Mx.hmay l = 0) :
    Calls Try.prog 61 #[.slice a n c, .agg #[.int .u8 x.z0, .int .u8 x.z1, .int .u8 x.z2, .int .u8 x.z3, .int .u8 x.z4, .int .u8 x.z5, .int .u8 x.z6, .int .u8 x.z7]] w fun e w' => e = .returned (.tuple #[.slice none 0 0, errV (Mx.hmay l)]) ∧ Below w.heap.size w w' := by
  have HL := hide hl
  clear hl
  go_enter Try.func61, Try.ntmps61
  go_wp2_with fail
  refine (ccheck_any a n c l _ (HL.out.later (below_alloc _ _)) hc).mono ?_
  rintro e w1 ⟨rfl, hb⟩
  have HB := hide ((below_alloc w (.cells #[.int .u8 x.z0, .int .u8 x.z1, .int .u8 x.z2, .int .u8 x.z3, .int .u8 x.z4, .int .u8 x.z5, .int .u8 x.z6, .int .u8 x.z7] 52)).trans (hb.mono (by simp)))
  obtain ⟨E, hEE⟩ : ∃ E : Int, Hid (E = Mx.hmay l) := ⟨_, rfl⟩
  rw [← hEE.out] at hE ⊢
  have hev : errV E = .iface 26 (.int .i64 E) := by rw [errV, if_neg hE]
  rw [hev]
  have HV := hide hev
  clear hev hE hb
  go_wp2_with fail
  exact bodyPost_ret (v := .tuple #[.slice none 0 0, .iface 26 (.int .i64 E)]) (by simp [results, Try.results61, go_sem]) rfl ⟨by rw [← hEE.out, HV.out], HB.out⟩

set_option maxHeartbeats 2000000 in
set_option maxRecDepth 100000 in
theorem touch_any (a : Option Addr) (n c : Nat) (l : List B8) (x : B8) (w : World) (hl : BL w a n l) (hc : n ≤ c) (hE : Mx.hmay l = 0) :
    Calls Try.prog 61 #[.slice a n c, .agg #[.int .u8 x.z0, .int .u8 x.z1, .int .u8 x.z2, .int .u8 x.z3, .int .u8 x.z4, .int .u8 x.z5, .int .u8 x.z6, .int .u8 x.z7]] w fun e w' => ∃ g c', e = .returned (.tuple #[.slice (some ⟨g, 0, none⟩) (Mx.touched l x).length c', .nilIface]) ∧ Hid (OwnBL w' w.heap.size (.slice (some ⟨g, 0, none⟩) (Mx.touched l x).length c') (Mx.touched l x)) ∧ Hid (Below w.heap.size w w') := by
  have hlen : n ≤ maxLen := hl.2.2.1
  unfold maxLen at hlen
  have HL := hide hl
  have HN := hide hl.1
  have HE := hide hE
  clear hl hE
  go_enter Try.func61, Try.ntmps61
  go_wp2_with fail
  refine (ccheck_any a n c l _ (HL.out.later (below_alloc _ _)) hc).mono ?_
  rintro e w1 ⟨rfl, hb⟩
  rw [HE.out, show errV 0 = Value.nilIface from rfl]
  have HB := hide ((below_alloc w (.cells #[.int .u8 x.z0, .int .u8 x.z1, .int .u8 x.z2, .int .u8 x.z3, .int .u8 x.z4, .int .u8 x.z5, .int .u8 x.z6, .int .u8 x.z7] 52)).trans (hb.mono (by simp)))
  have X1 := hide (show Bx w1 w.heap.size #[.int .u8 x.z0, .int .u8 x.z1, .int .u8 x.z2, .int .u8 x.z3, .int .u8 x.z4, .int .u8 x.z5, .int .u8 x.z6, .int .u8 x.z7] 52 from (Bx.new w _ _).later hb (by simp))
  have L1 := hide (show w.heap.size + 1 ≤ w1.heap.size by have := hb.size; simpa using this)
  clear hb
  obtain ⟨f0, f1, f2, f3, f4, f5, f6, f7⟩ := X1.out.eight
  go_wp2_with fail
  go_loopw [7, 19] (fun v i wr => ∃ (k g c' m : Nat), k ≤ n ∧ i = .int .i64 k ∧ m ≤ 8 ∧ v = .slice (some ⟨g, 0, none⟩) m c' ∧ Hid (m = (Mx.touched (l.take k) x).length) ∧ Hid (Tch w w1.heap.size w.heap.size x (Mx.touched (l.take k) x) (.slice (some ⟨g, 0, none⟩) m c') wr)) (fun _ i _ => n - (intOf i).toNat)
  case atStart =>
    refine ⟨0, w1.heap.size, 1, 1, by omega, rfl, by omega, by simp, by simp [Hid, Mx.touched], ?_⟩
    have ht : Mx.touched (l.take 0) x = [x] := by simp [Mx.touched]
    rw [ht]
    exact ⟨HB.out.alloc HB.out.size _, X1.out.alloc _, OwnBL.one w1 w1.heap.size (Nat.le_refl _) x, by simp⟩
  case round =>
    clear f0 f1 f2 f3 f4 f5 f6 f7
    obtain ⟨k, g, c', m, hk, rfl, hm8, rfl, hm, hT⟩ := hrel
    by_cases hlt : k < n
    · obtain ⟨b, off, y, rfl, hb, hy, e0, e1, e2, e3, e4, e5, e6, e7⟩ := (HL.out.later hT.out.1).at_ k hlt
      obtain ⟨f0, f1, f2, f3, f4, f5, f6, f7⟩ := hT.out.2.1.eight
      have hxl := hT.out.2.1.lt
      have HY := hide hy
      clear hy
      have heq := equal_block y.z0 y.z1 y.z2 y.z3 y.z4 y.z5 y.z6 y.z7 x.z0 x.z1 x.z2 x.z3 x.z4 x.z5 x.z6 x.z7
      by_cases hcc : [y.z0, y.z1, y.z2, y.z3, y.z4, y.z5, y.z6, y.z7] = [x.z0, x.z1, x.z2, x.z3, x.z4, x.z5, x.z6, x.z7]
      · have HC := hide (Mx.touched_skip HY.out ((B8.eq_list y x).1 hcc))
        rw [decide_eq_true hcc] at heq
        clear hcc
        go_wp2_with fail
        go_roundw
        case rel => exact ⟨k + 1, g, c', m, by omega, by go_num, hm8, rfl, by rw [HC.out]; exact hm, by rw [HC.out]; exact hT.out.alloc _⟩
        case measure => simp [intOf]; omega
      · by_cases hmlt : (m : Int) < 8
        · have HC := hide (Mx.touched_snoc (b := x) HY.out (fun e => hcc ((B8.eq_list y x).2 e)) (by rw [← hm.out]; omega))
          rw [decide_eq_false hcc] at heq
          clear hcc
          go_wp2_with (at_builtin; refine wpList_append_blk rfl _ _ rfl w1.heap.size (Mx.touched (l.take k) x) ?c0 y ?c1 ?c2 ?c3 ?_)
          case c0 => exact (hT.out.alloc _).2.2.1
          case c1 => rw [World.size_alloc]; rfl
          case c2 => have := Mx.touched_len (l.take k) x; omega
          case c3 => have := hT.out.2.2.2; simp; omega
          intro g' c2 w' hbg hcap hown hgr
          have hOP := hide hown
          have hG := hide hgr
          clear hown hgr hbg hcap e0 e1 e2 e3 e4 e5 e6 e7 f0 f1 f2 f3 f4 f5 f6 f7 heq
          rw [← hm.out]
          go_wp2
          go_roundw
          case rel => exact ⟨k + 1, g', c2, m + 1, by omega, by go_num, by omega, rfl, by rw [HC.out]; unfold Hid; rw [hm.out]; simp, by rw [HC.out]; exact Tch.grown (hT.out.alloc _) (by have := L1.out; omega) (by have := L1.out; omega) hG.out (by rw [hm.out]; exact hOP.out)⟩
          case measure => simp [intOf]; omega
        · have HC := hide (Mx.touched_full (b := x) HY.out (by rw [← hm.out]; omega))
          rw [decide_eq_false hcc] at heq
          clear hcc
          go_wp2_with fail
          go_roundw
          case rel => exact ⟨k + 1, g, c', m, by omega, by go_num, hm8, rfl, by rw [HC.out]; exact hm, by rw [HC.out]; exact hT.out.alloc _⟩
          case measure => simp [intOf]; omega
    · have HS := hide (Mx.touched_all (l := l) (k := k) (b := x) (by rw [HN.out]; omega))
      go_wp2_with fail
      exact bodyPost_ret (v := .tuple #[.slice (some ⟨g, 0, none⟩) m c', .nilIface]) (by simp [results, Try.results61, go_sem]) rfl ⟨g, c', by rw [← HS.out, ← hm.out], by rw [← HS.out, ← hm.out]; exact OwnBL.lower hT.out.2.2.1 (by have := L1.out; omega), hT.out.1⟩

end Go.Proofs.Ytengpogcdnbabaa
