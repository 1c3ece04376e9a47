/-
  Indexes of blocks: a new one (New).
-/
import Derived.Carry
import Derived.Deep.RegionHeld3
import Derived.Deep.RegionLaw
import Derived.Deep.RegionHeld
import Derived.Test.YtfbmaemnbolplaaDoorZDbox
import Derived.Test.YtfbmaemnbolplaaDoorZCa

namespace Go.Proofs.YtfbmaemnbolplaaDoor
open Go.RowKit

/-- an index in memory of the call's own -/
structure IX (B : Nat) (w : World) (g n b c m : Nat) (es : List MapEntry) (ck : Nat) (l : List B8) : Prop where
  bx : Bx w g #[.slice (some ⟨b, 0, none⟩) n c, .map (some m)] 43
  ow : OwnBL w B (.slice (some ⟨b, 0, none⟩) n c) l
  mp : Mp 25 w m es ck
  ct : Cont es (fun i => l[i]?)
  ok : ∀ x ∈ l, x.ok
  n1 : 1 ≤ n
  n2 : n ≤ 32
  gB : B ≤ g
  mB : B ≤ m
theorem IX.later {B : Nat} {w w' : World} {g n b c m : Nat} {es : List MapEntry} {ck : Nat} {l : List B8} (h : IX B w g n b c m es ck l) (hb : Below w.heap.size w w') : IX B w' g n b c m es ck l :=
  { h with bx := h.bx.later hb h.bx.lt, ow := rowKept h.ow hb, mp := h.mp.later hb }

theorem Mx.upd_take {l : List B8} {k : Nat} {x : B8} (h : l[k]? = some x) : Mx.upd (fun i => (l.take k)[i]?) k (some x) = fun i => (l.take (k + 1))[i]? := by
  funext j
  show (if j = k then some x else (l.take k)[j]?) = _
  rw [List.getElem?_take, List.getElem?_take]
  by_cases hj : j = k
  · subst hj
    rw [if_pos rfl, if_pos (by omega), h]
  · rw [if_neg hj]
    by_cases hk : j < k
    · rw [if_pos hk, if_pos (by omega)]
    · rw [if_neg hk, if_neg (by omega)]
theorem Mx.upd_set {l : List B8} {k : Nat} {x : B8} (h : k < l.length) : Mx.upd (Mx.upd (fun i => l[i]?) k none) k (some x) = fun i => (l.set k x)[i]? := by
  funext j
  unfold Mx.upd
  rw [List.getElem?_set]
  by_cases hj : j = k
  · subst hj
    rw [if_pos rfl, if_pos rfl, if_pos h]
  · rw [if_neg hj, if_neg hj, if_neg (fun e => hj e.symm)]

set_option maxHeartbeats 16000000 in
set_option maxRecDepth 100000 in
theorem cnew_err (a : Option Addr) (n c : Nat) (w : World) (hn : n < 1 ∨ 32 < n) (hl : n ≤ maxLen) :
    Calls Tryd.prog 6 #[.slice a n c] w fun e w' => e = .returned (.tuple #[.pointer none, .iface 34 (.int .i64 1)]) ∧ w' = w := by
  unfold maxLen at hl
  by_cases h1 : n < 1
  · have d1 : decide ((n : Int) < 1) = true := by simp; omega
    have d1n : decide (n < 1) = true := by simpa using h1
    have d0 : n = 0 := by omega
    subst d0
    clear hn
    go_enter Tryd.func6, Tryd.ntmps6
    go_wp2_with fail
    go_ret2
    exact ⟨rfl, rfl⟩
  · have d1 : decide ((n : Int) < 1) = false := by simp; omega
    have d1n : decide (n < 1) = false := by simpa using h1
    have d2 : decide ((32 : Int) < n) = true := by simp; omega
    have d2n : decide (32 < n) = true := by simp; omega
    clear hn h1
    go_enter Tryd.func6, Tryd.ntmps6
    go_wp2_with fail
    go_ret2
    exact ⟨rfl, rfl⟩

set_option maxHeartbeats 16000000 in
set_option maxRecDepth 100000 in
theorem cnew_ok (a : Option Addr) (n c : Nat) (l : List B8) (w : World) (hl : BL w a n l) (hok : ∀ x ∈ l, x.ok) (hn1 : 1 ≤ n) (hn2 : n ≤ 32) :
    Calls Tryd.prog 6 #[.slice a n c] w fun e w' => ∃ g b c' m es ck, e = .returned (.tuple #[.pointer (some ⟨g, 0, none⟩), .nilIface]) ∧ Hid (IX w.heap.size w' g n b c' m es ck l) ∧ Hid (Below w.heap.size w w') := by
  have d1 : decide ((n : Int) < 1) = false := by simp; omega
  have d1n : decide (n < 1) = false := by simp; omega
  have d2 : decide ((32 : Int) < n) = false := by simp; omega
  have d2n : decide (32 < n) = false := by simp; omega
  have HL := hide hl
  have HOK := hide hok
  clear hl hok
  go_enter Tryd.func6, Tryd.ntmps6
  change TailG Tryd.f6 _ 0 _ w
  refine tailG_step rfl ?_
  intro K hK
  go_wp2_with fail
  refine Met.intro (tailG_step rfl ?_)
  try clear hK
  try clear K
  intro K hK
  go_wp2_with fail
  refine Met.intro (tailG_step rfl ?_)
  try clear hK
  try clear K
  intro K hK
  go_wp2_with fail
  refine (cloneB_any a n c l w HL.out (by omega)).mono ?_
  rintro e w1 ⟨v, rfl, hO1, E1⟩
  obtain ⟨ba, c', hv, _, _⟩ := hO1.bl
  rw [HL.out.1] at hv
  subst hv
  obtain ⟨b, rfl, hb1, hb2, _, _⟩ := hO1.form (by omega)
  have O1 := hide hO1
  have D1 := hide E1
  clear hO1 E1
  have hmm : ∀ W : World, (Instr.makeMap 41 none).run Tryd.prog W = .ok (.map (some W.heap.size)) (W.alloc (.map #[] 0)) := fun W => run_makeMap _ W
  obtain ⟨W2, hW2⟩ : ∃ W2 : World, Hid (W2 = (w1.alloc (.map #[] 0)).alloc (.cells #[.slice (some ⟨b, 0, none⟩) n c', .map (some w1.heap.size)] 43)) := ⟨_, rfl⟩
  go_wp2_with fail
  rw [← hW2.out]
  have E2 := hide (show Below w1.heap.size w1 W2 by rw [hW2.out]; exact (below_alloc _ _).alloc (below_alloc _ _).size _)
  have D2 := hide (show Below w.heap.size w W2 from D1.out.trans (E2.out.mono D1.out.size))
  have O2 := hide (show OwnBL W2 w.heap.size (.slice (some ⟨b, 0, none⟩) n c') l from rowKept O1.out E2.out)
  have X2 := hide (show Bx W2 (w1.heap.size + 1) #[.slice (some ⟨b, 0, none⟩) n c', .map (some w1.heap.size)] 43 by rw [hW2.out]; simpa using (Bx.new (w1.alloc (.map #[] 0)) #[.slice (some ⟨b, 0, none⟩) n c', .map (some w1.heap.size)] 43))
  have M2 := hide (show Mp 25 W2 w1.heap.size [] 0 by
    refine ⟨?_, fun e he => by simp at he, by simp, by simp, fun e he => by simp at he⟩
    rw [hW2.out]
    exact (Below.heap_alloc _ _ _ (by simp)).trans (heap_alloc_new w1 _))
  have hbm := hide (show ¬ b = w1.heap.size by omega)
  refine Met.intro (tailG_step rfl ?_)
  try clear hK
  try clear K
  intro K hK
  go_wp2_with fail
  go_loopw [23] (fun s23 wr => ∃ (k : Nat) (es : List MapEntry) (ck : Nat), k ≤ n ∧ s23 = .int .i64 (k : Int) ∧ Hid (Mp 25 wr w1.heap.size es ck) ∧ Hid (Cont es (fun i => (l.take k)[i]?)) ∧ Hid (W2.grownBy wr (some w1.heap.size))) (fun s23 _ => n - (intOf s23).toNat)
  case atStart => exact ⟨0, [], 0, by omega, rfl, M2, (show Cont [] (fun i => (l.take 0)[i]?) from by simpa using Cont.nil), ⟨rfl, rfl, rfl, Nat.le_refl _, fun _ _ _ => rfl⟩⟩
  case round =>
    obtain ⟨k, es, ck, hk, rfl, hM, hC, hG⟩ := hrel
    obtain ⟨v, hv⟩ : ∃ v : World, Hid (v = wr) := ⟨_, rfl⟩
    rw [← hv.out] at hM hG ⊢
    have D3 := hide (below_of_grown D2.out hG.out D1.out.size)
    have X3 := hide (X2.out.grow hG.out (by simp))
    have O3 := hide (show OwnBL v w.heap.size (.slice (some ⟨b, 0, none⟩) n c') l from World.ownsRow.kept O2.out hG.out (.inr (fun e => hbm.out (Option.some.inj e))))
    by_cases hkn : k < n
    · have hki : (k : Int) < n := by omega
      obtain ⟨bb, off, x, hba, hbw, hx, c0, c1, c2, c3, c4, c5, c6, c7⟩ := (HL.out.later D3.out).at_ k hkn
      subst hba
      have HX := hide hx
      have hxo := hide (HOK.out x (List.mem_of_getElem? hx))
      clear hx
      obtain ⟨W4, hW4⟩ : ∃ W4 : World, Hid (W4 = v.alloc (.cells #[.int .u8 x.z0, .int .u8 x.z1, .int .u8 x.z2, .int .u8 x.z3, .int .u8 x.z4, .int .u8 x.z5, .int .u8 x.z6, .int .u8 x.z7] 25)) := ⟨_, rfl⟩
      have F4 := hide (show Below v.heap.size v W4 by rw [hW4.out]; exact below_alloc _ _)
      have Y4 := hide (show Bx W4.drew v.heap.size #[.int .u8 x.z0, .int .u8 x.z1, .int .u8 x.z2, .int .u8 x.z3, .int .u8 x.z4, .int .u8 x.z5, .int .u8 x.z6, .int .u8 x.z7] 25 by rw [hW4.out]; exact Bx.newD v _ _)
      have X4 := hide (show Bx W4.drew (w1.heap.size + 1) #[.slice (some ⟨b, 0, none⟩) n c', .map (some w1.heap.size)] 43 from (X3.out.later F4.out.drew X3.out.lt))
      have M4 := hide (show Mp 25 W4.drew w1.heap.size es ck from { hM.out.later F4.out with at_ := (hM.out.later F4.out).at_ })
      obtain ⟨W5, W6, va, bn, es', ck', A, hC', hva⟩ := asg_or M4.out hC.out hxo.out (at_ := k) (by omega) (List.getElem?_eq_none (by rw [List.length_take]; omega))
      rw [Mx.upd_take HX.out] at hC'
      go_upto_region 7 with fail
      rw [← hW4.out]
      clear c0 c1 c2 c3 c4 c5 c6 c7
      obtain ⟨x0, x1⟩ := X4.out.two
      obtain ⟨t0, t1, t2, t3, t4, t5, t6, t7⟩ := Y4.out.eight
      obtain ⟨al1, ae1, al2, as2, amp, ag2, ag3⟩ := A
      unfold B8.agg at al1 ae1 al2
      have hne5 : some v.heap.size ≠ some w1.heap.size := by have h9 := X3.out.lt; simp; omega
      have Y5 := hide (Y4.out.grow ag2 hne5)
      have X5 := hide (X4.out.grow ag2 (by simp))
      have Y6 := hide (Y4.out.grow ag3 hne5)
      have X6 := hide (X4.out.grow ag3 (by simp))
      obtain ⟨r0, r1⟩ := X5.out.two
      obtain ⟨q0, q1⟩ := X6.out.two
      obtain ⟨o0, o1, o2, o3, o4, o5, o6, o7⟩ := Y6.out.eight
      obtain ⟨s0, s1, s2, s3, s4, s5, s6, s7⟩ := Y5.out.eight
      obtain ⟨p, hp⟩ : ∃ p : Nat, Hid (p = 2 ^ k) := ⟨_, rfl⟩
      obtain ⟨nv, hnv⟩ : ∃ nv : Nat, Hid (nv = va ||| 2 ^ k) := ⟨_, rfl⟩
      have hor : bits .or .u64 (va : Int) (p : Int) = (nv : Int) := by
        rw [hnv.out, hp.out]
        exact u64_or_nat va (2 ^ k) (by omega) (by have : 2 ^ k < 2 ^ 32 := Nat.pow_lt_pow_right (by omega) (by omega); omega)
      rw [← hnv.out] at as2
      have HM6 := hide amp
      have HG6 := hide ag3
      have HC6 := hide hC'
      clear amp ag2 ag3 hC' hva
      go_region_held3 (fun w' => w'.cell? ⟨w1.heap.size + 1, 0, none⟩ = some (.slice (some ⟨b, 0, none⟩) n c') ∧ w'.cell? ⟨w1.heap.size + 1, 1, none⟩ = some (.map (some w1.heap.size)) ∧ w'.cell? ⟨v.heap.size, 0, none⟩ = some (.int .u8 x.z0) ∧ w'.cell? ⟨v.heap.size, 1, none⟩ = some (.int .u8 x.z1) ∧ w'.cell? ⟨v.heap.size, 2, none⟩ = some (.int .u8 x.z2) ∧ w'.cell? ⟨v.heap.size, 3, none⟩ = some (.int .u8 x.z3) ∧ w'.cell? ⟨v.heap.size, 4, none⟩ = some (.int .u8 x.z4) ∧ w'.cell? ⟨v.heap.size, 5, none⟩ = some (.int .u8 x.z5) ∧ w'.cell? ⟨v.heap.size, 6, none⟩ = some (.int .u8 x.z6) ∧ w'.cell? ⟨v.heap.size, 7, none⟩ = some (.int .u8 x.z7))
        (first
          | with_reducible exact ⟨x0, x1, t0, t1, t2, t3, t4, t5, t6, t7⟩
          | with_reducible exact ⟨r0, r1, s0, s1, s2, s3, s4, s5, s6, s7⟩
          | with_reducible exact ⟨q0, q1, o0, o1, o2, o3, o4, o5, o6, o7⟩)
        (first
          | (go_at_call 12; (with_reducible refine (spot_any k _ (by omega)).mono ?_); rintro e wz ⟨rfl, hz⟩; obtain rfl := hz.symm; clear hz; rw [← hp.out]))
      all_goals
        have GN := hide (show W2.grownBy W6 (some w1.heap.size) from hG.out.trans ((grow_of_below F4.out.drew _).trans HG6.out))
        clear x0 x1 t0 t1 t2 t3 t4 t5 t6 t7 r0 r1 s0 s1 s2 s3 s4 s5 s6 s7 q0 q1 o0 o1 o2 o3 o4 o5 o6 o7 al1 ae1 al2 as2
        go_wp2_with fail
        exact ⟨⟨k + 1, es', ck', by omega, by go_num, HM6, HC6, GN⟩, by simp [intOf]; omega⟩
    · obtain rfl : n = k := by omega
      have HT := hide (show l.take n = l from List.take_of_length_le (by rw [HL.out.1]; exact Nat.le_refl _))
      rw [HT.out] at hC
      have IXF := hide (show IX w.heap.size v (w1.heap.size + 1) n b c' w1.heap.size es ck l from { bx := X3.out, ow := O3.out, mp := hM.out, ct := hC.out, ok := HOK.out, n1 := hn1, n2 := hn2, gB := by have := D1.out.size; omega, mB := D1.out.size })
      go_wp2_with fail
      refine Met.intro (tailG_last (c := .seq _ .ret) rfl ?_)
      try clear hK
      try clear K
      go_wp2_with fail
      exact bodyPost_ret (v := .tuple #[.pointer (some ⟨w1.heap.size + 1, 0, none⟩), .nilIface]) (by simp [results, Tryd.results6, go_sem]) rfl ⟨_, b, c', _, es, ck, rfl, IXF, D3⟩


end Go.Proofs.YtfbmaemnbolplaaDoor

/-
  Indexes of blocks: a place struck (forget).
-/
namespace Go.Proofs.YtfbmaemnbolplaaDoor
open Go.RowKit
open Go.ChangeMaps (setBlock)

theorem u64_andnot (a b : Nat) (ha : a < 18446744073709551616) (hb : b < 18446744073709551616) : bits .andNot .u64 (a : Int) (b : Int) = ((a &&& (18446744073709551615 - b) : Nat) : Int) := by
  have h1 : (BitVec.ofInt 64 (a : Int)).toNat = a := by rw [BitVec.ofInt_natCast, BitVec.toNat_ofNat]; omega
  have h2 : (BitVec.ofInt 64 (b : Int)).toNat = b := by rw [BitVec.ofInt_natCast, BitVec.toNat_ofNat]; omega
  have h3 : (BitVec.ofInt 64 (a : Int) &&& ~~~ BitVec.ofInt 64 (b : Int)).toNat = a &&& (18446744073709551615 - b) := by
    rw [BitVec.toNat_and, BitVec.toNat_not, h1, h2]
  have h4 : a &&& (18446744073709551615 - b) ≤ a := Nat.and_le_left
  show IntKind.u64.wrap ((BitVec.ofInt 64 (a : Int) &&& ~~~ BitVec.ofInt 64 (b : Int)).toNat : Int) = _
  rw [h3]
  unfold IntKind.wrap
  simp only [IntKind.bits, IntKind.signed, Bool.false_and, Bool.false_eq_true, if_false]
  omega

set_option maxHeartbeats 16000000 in
set_option maxRecDepth 100000 in
theorem cforget_any (B : Nat) (w : World) (g n b c m : Nat) (es : List MapEntry) (ck : Nat) (l : List B8) (h : IX B w g n b c m es ck l) (at_ : Nat) (hat : at_ < n) :
    Calls Tryd.prog 14 #[.pointer (some ⟨g, 0, none⟩), .int .i64 (at_ : Int)] w fun e w' => ∃ es' ck', e = .returned (.tuple #[]) ∧ Hid (Mp 25 w' m es' ck') ∧ Hid (Cont es' (Mx.upd (fun i => l[i]?) at_ none)) ∧ Hid (w.grownBy w' (some m)) := by
  have HI := hide h
  clear h
  have hn1 := HI.out.n1
  have hn2 := HI.out.n2
  obtain ⟨x, hx0, y0, y1, y2, y3, y4, y5, y6, y7⟩ := HI.out.ow.at_ at_ hat
  have HX := hide hx0
  have hxo := hide (HI.out.ok x (List.mem_of_getElem? hx0))
  clear hx0
  obtain ⟨i, va, bn, hi, hsp⟩ := HI.out.ct.has (show (fun i : Nat => l[i]?) at_ = some x from HX.out)
  obtain ⟨W4, hW4⟩ : ∃ W4 : World, Hid (W4 = w.alloc (.cells #[.int .u8 x.z0, .int .u8 x.z1, .int .u8 x.z2, .int .u8 x.z3, .int .u8 x.z4, .int .u8 x.z5, .int .u8 x.z6, .int .u8 x.z7] 25)) := ⟨_, rfl⟩
  have F4 := hide (show Below w.heap.size w W4 by rw [hW4.out]; exact below_alloc _ _)
  have Y4 := hide (show Bx W4.drew w.heap.size #[.int .u8 x.z0, .int .u8 x.z1, .int .u8 x.z2, .int .u8 x.z3, .int .u8 x.z4, .int .u8 x.z5, .int .u8 x.z6, .int .u8 x.z7] 25 by rw [hW4.out]; exact Bx.newD w _ _)
  have X4 := hide (show Bx W4.drew g #[.slice (some ⟨b, 0, none⟩) n c, .map (some m)] 43 from HI.out.bx.later F4.out.drew HI.out.bx.lt)
  have M4 := hide (show Mp 25 W4.drew m es ck from HI.out.mp.later F4.out.drew)
  obtain ⟨nv, hnv⟩ : ∃ nv : Nat, Hid (nv = va &&& (18446744073709551615 - 2 ^ at_)) := ⟨_, rfl⟩
  have A := asg_has M4.out hxo.out hi nv
  obtain ⟨W6, hW6⟩ : ∃ W6 : World, Hid (W6 = setBlock W4.drew m (.map (setE es i (.int .u64 (nv : Int))).toArray ck)) := ⟨_, rfl⟩
  rw [← hW6.out] at A
  have hCL := hide (cont_less HI.out.mp HI.out.ct (show at_ < 32 by omega) (show (fun i : Nat => l[i]?) at_ = some x from HX.out) hi hsp hnv.out)
  have hgm := hide (show g ≠ m by
    intro e
    have h1 := HI.out.bx
    have h2 := HI.out.mp.at_
    subst e
    have h3 := h1.symm.trans h2
    cases h3)
  have hmw := HI.out.mp.ltm
  have hva := hsp.1
  have hne5 : some w.heap.size ≠ some m := by simp; omega
  have hne6 : some g ≠ some m := fun e => hgm.out (Option.some.inj e)
  have Y6 := hide (Y4.out.grow A.g3 hne5)
  have X6 := hide (X4.out.grow A.g3 hne6)
  have hi6 : (setE es i (.int .u64 (nv : Int)))[i]? = some ⟨B8.agg x, .int .u64 (nv : Int), bn⟩ := by unfold setE; rw [List.getElem?_modify, hi]; simp
  obtain ⟨lx, hlx⟩ := blk_key x hxo.out
  have L6 := hide (show ∀ W : World, Mp 25 W m (setE es i (.int .u64 (nv : Int))) ck → (Instr.lookup 41 (.map (some m)) (B8.agg x) false).run Tryd.prog W = .ok (.int .u64 (nv : Int)) W from fun W hW => hW.lookup blk_keyed Tryd.mapIx hlx hi6 rfl false)
  have DE := hide (show ∀ W : World, Mp 25 W m (setE es i (.int .u64 (nv : Int))) ck → (Builtin.delete_ #[41, 25] 0 #[.map (some m), B8.agg x]).run Tryd.prog W = .ok (.tuple #[]) (setBlock W m (.map ((setE es i (.int .u64 (nv : Int))).eraseIdx i).toArray ck)) from fun W hW => hW.del blk_keyed Tryd.mapIx hlx hi6 rfl)
  obtain ⟨al1, ae1, al2, as2, amp, ag2, ag3⟩ := A
  unfold B8.agg at al1 ae1 al2
  obtain ⟨p, hp⟩ : ∃ p : Nat, Hid (p = 2 ^ at_) := ⟨_, rfl⟩
  have hpb : p < 4294967296 := by rw [hp.out]; exact (Nat.pow_lt_pow_right (by omega) (by omega) : 2 ^ at_ < 2 ^ 32)
  have han : bits .andNot .u64 (va : Int) (p : Int) = (nv : Int) := by
    rw [u64_andnot va p (by omega) (by omega), hnv.out, hp.out]
  have HM6 := hide amp
  have HG6 := hide ag3
  have hati : (at_ : Int) < n := by omega
  obtain ⟨x0, x1⟩ := HI.out.bx.two
  clear amp ag2 ag3 hva hsp hi hi6 hlx
  go_enter Tryd.func14, Tryd.ntmps14
  change TailG Tryd.f14 _ 0 _ w
  refine tailG_step rfl ?_
  intro K hK
  go_wp2_with fail
  rw [← hW4.out]
  clear y0 y1 y2 y3 y4 y5 y6 y7 x0 x1
  refine Met.intro (tailG_step rfl ?_)
  try clear hK
  try clear K
  intro K hK
  obtain ⟨x0, x1⟩ := X4.out.two
  obtain ⟨t0, t1, t2, t3, t4, t5, t6, t7⟩ := Y4.out.eight
  obtain ⟨q0, q1⟩ := X6.out.two
  obtain ⟨o0, o1, o2, o3, o4, o5, o6, o7⟩ := Y6.out.eight
  go_region_held3 (fun w' => w'.cell? ⟨g, 0, none⟩ = some (.slice (some ⟨b, 0, none⟩) n c) ∧ w'.cell? ⟨g, 1, none⟩ = some (.map (some m)) ∧ w'.cell? ⟨w.heap.size, 0, none⟩ = some (.int .u8 x.z0) ∧ w'.cell? ⟨w.heap.size, 1, none⟩ = some (.int .u8 x.z1) ∧ w'.cell? ⟨w.heap.size, 2, none⟩ = some (.int .u8 x.z2) ∧ w'.cell? ⟨w.heap.size, 3, none⟩ = some (.int .u8 x.z3) ∧ w'.cell? ⟨w.heap.size, 4, none⟩ = some (.int .u8 x.z4) ∧ w'.cell? ⟨w.heap.size, 5, none⟩ = some (.int .u8 x.z5) ∧ w'.cell? ⟨w.heap.size, 6, none⟩ = some (.int .u8 x.z6) ∧ w'.cell? ⟨w.heap.size, 7, none⟩ = some (.int .u8 x.z7))
    (first
      | with_reducible exact ⟨x0, x1, t0, t1, t2, t3, t4, t5, t6, t7⟩
      | with_reducible exact ⟨q0, q1, o0, o1, o2, o3, o4, o5, o6, o7⟩)
    (first
      | (go_at_call 12; (with_reducible refine (spot_any at_ _ (by omega)).mono ?_); rintro e wz ⟨rfl, hz⟩; obtain rfl := hz.symm; clear hz; rw [← hp.out]))
  all_goals
    clear al1 ae1 al2 as2 x0 x1 t0 t1 t2 t3 t4 t5 t6 t7 q0 q1 o0 o1 o2 o3 o4 o5 o6 o7
    go_wp2_with fail
    refine Met.intro (tailG_last (c := .seq _ (.cond _ _ _)) rfl ?_)
    try clear hK
    try clear K
    have X7 := hide (show Bx W6.drew g #[.slice (some ⟨b, 0, none⟩) n c, .map (some m)] 43 from X6.out)
    have Y7 := hide (show Bx W6.drew w.heap.size #[.int .u8 x.z0, .int .u8 x.z1, .int .u8 x.z2, .int .u8 x.z3, .int .u8 x.z4, .int .u8 x.z5, .int .u8 x.z6, .int .u8 x.z7] 25 from Y6.out)
    have M7 := hide (show Mp 25 W6.drew m (setE es i (.int .u64 (nv : Int))) ck from ⟨HM6.out.at_, HM6.out.keys, HM6.out.nd, HM6.out.bn, HM6.out.lt⟩)
    have G7 := hide (show w.grownBy W6.drew (some m) from (grow_of_below F4.out.drew _).trans (show W4.drew.grownBy W6.drew (some m) from ⟨HG6.out.os, HG6.out.tape, HG6.out.output, HG6.out.size, HG6.out.block⟩))
    have l7 := L6.out _ M7.out
    unfold B8.agg at l7
    obtain ⟨x0, x1⟩ := X7.out.two
    obtain ⟨t0, t1, t2, t3, t4, t5, t6, t7⟩ := Y7.out.eight
    by_cases hz : nv = 0
    · have HZ := hide (hCL.out.1 hz)
      have dz : ((nv : Int) == 0) = true := by rw [hz]; rfl
      have dzn : (nv == 0) = true := by rw [hz]; rfl
      clear hz
      go_upto_region 2 with fail
      go_region_held3 (fun w' => w'.cell? ⟨g, 0, none⟩ = some (.slice (some ⟨b, 0, none⟩) n c) ∧ w'.cell? ⟨g, 1, none⟩ = some (.map (some m)) ∧ w'.cell? ⟨w.heap.size, 0, none⟩ = some (.int .u8 x.z0) ∧ w'.cell? ⟨w.heap.size, 1, none⟩ = some (.int .u8 x.z1) ∧ w'.cell? ⟨w.heap.size, 2, none⟩ = some (.int .u8 x.z2) ∧ w'.cell? ⟨w.heap.size, 3, none⟩ = some (.int .u8 x.z3) ∧ w'.cell? ⟨w.heap.size, 4, none⟩ = some (.int .u8 x.z4) ∧ w'.cell? ⟨w.heap.size, 5, none⟩ = some (.int .u8 x.z5) ∧ w'.cell? ⟨w.heap.size, 6, none⟩ = some (.int .u8 x.z6) ∧ w'.cell? ⟨w.heap.size, 7, none⟩ = some (.int .u8 x.z7))
        (first
          | with_reducible exact ⟨x0, x1, t0, t1, t2, t3, t4, t5, t6, t7⟩)
        (fail)
      have X8 := hide (show Bx W6.drew.drew g #[.slice (some ⟨b, 0, none⟩) n c, .map (some m)] 43 from X6.out)
      have Y8 := hide (show Bx W6.drew.drew w.heap.size #[.int .u8 x.z0, .int .u8 x.z1, .int .u8 x.z2, .int .u8 x.z3, .int .u8 x.z4, .int .u8 x.z5, .int .u8 x.z6, .int .u8 x.z7] 25 from Y6.out)
      have M8 := hide (show Mp 25 W6.drew.drew m (setE es i (.int .u64 (nv : Int))) ck from ⟨HM6.out.at_, HM6.out.keys, HM6.out.nd, HM6.out.bn, HM6.out.lt⟩)
      have d8 := DE.out _ M8.out
      unfold B8.agg at d8
      clear x0 x1 t0 t1 t2 t3 t4 t5 t6 t7 l7
      obtain ⟨x0, x1⟩ := X8.out.two
      obtain ⟨t0, t1, t2, t3, t4, t5, t6, t7⟩ := Y8.out.eight
      obtain ⟨W9, hW9⟩ : ∃ W9 : World, Hid (W9 = setBlock W6.drew.drew m (.map ((setE es i (.int .u64 (nv : Int))).eraseIdx i).toArray ck)) := ⟨_, rfl⟩
      rw [← hW9.out] at d8
      have G9 := hide (show W6.drew.drew.grownBy W9 (some m) by rw [hW9.out]; exact setBlock_grown _)
      have X9 := hide (X8.out.grow G9.out hne6)
      have Y9 := hide (Y8.out.grow G9.out hne5)
      obtain ⟨q0, q1⟩ := X9.out.two
      obtain ⟨o0, o1, o2, o3, o4, o5, o6, o7⟩ := Y9.out.eight
      have M9 := hide (M8.out.erase i (w' := W9) (by rw [hW9.out]; exact setBlock_at M8.out.ltm _))
      have GN := hide (show w.grownBy W9 (some m) from (show w.grownBy W6.drew.drew (some m) from ⟨G7.out.os, G7.out.tape, G7.out.output, G7.out.size, G7.out.block⟩).trans G9.out)
      go_upto_region 3 with fail
      go_region_held3 (fun w' => w'.cell? ⟨g, 0, none⟩ = some (.slice (some ⟨b, 0, none⟩) n c) ∧ w'.cell? ⟨g, 1, none⟩ = some (.map (some m)) ∧ w'.cell? ⟨w.heap.size, 0, none⟩ = some (.int .u8 x.z0) ∧ w'.cell? ⟨w.heap.size, 1, none⟩ = some (.int .u8 x.z1) ∧ w'.cell? ⟨w.heap.size, 2, none⟩ = some (.int .u8 x.z2) ∧ w'.cell? ⟨w.heap.size, 3, none⟩ = some (.int .u8 x.z3) ∧ w'.cell? ⟨w.heap.size, 4, none⟩ = some (.int .u8 x.z4) ∧ w'.cell? ⟨w.heap.size, 5, none⟩ = some (.int .u8 x.z5) ∧ w'.cell? ⟨w.heap.size, 6, none⟩ = some (.int .u8 x.z6) ∧ w'.cell? ⟨w.heap.size, 7, none⟩ = some (.int .u8 x.z7))
        (first
          | with_reducible exact ⟨x0, x1, t0, t1, t2, t3, t4, t5, t6, t7⟩
          | with_reducible exact ⟨q0, q1, o0, o1, o2, o3, o4, o5, o6, o7⟩)
        (fail)
      exact bodyPost_end (v := .tuple #[]) (by simp [results, Tryd.results14, go_sem]) rfl ⟨_, _, rfl, M9, HZ, GN⟩
    · have HZ := hide (hCL.out.2 hz)
      have dz : ((nv : Int) == 0) = false := by simp; omega
      have dzn : (nv == 0) = false := by simpa using hz
      clear hz
      go_upto_region 2 with fail
      go_region_held3 (fun w' => w'.cell? ⟨g, 0, none⟩ = some (.slice (some ⟨b, 0, none⟩) n c) ∧ w'.cell? ⟨g, 1, none⟩ = some (.map (some m)) ∧ w'.cell? ⟨w.heap.size, 0, none⟩ = some (.int .u8 x.z0) ∧ w'.cell? ⟨w.heap.size, 1, none⟩ = some (.int .u8 x.z1) ∧ w'.cell? ⟨w.heap.size, 2, none⟩ = some (.int .u8 x.z2) ∧ w'.cell? ⟨w.heap.size, 3, none⟩ = some (.int .u8 x.z3) ∧ w'.cell? ⟨w.heap.size, 4, none⟩ = some (.int .u8 x.z4) ∧ w'.cell? ⟨w.heap.size, 5, none⟩ = some (.int .u8 x.z5) ∧ w'.cell? ⟨w.heap.size, 6, none⟩ = some (.int .u8 x.z6) ∧ w'.cell? ⟨w.heap.size, 7, none⟩ = some (.int .u8 x.z7))
        (first
          | with_reducible exact ⟨x0, x1, t0, t1, t2, t3, t4, t5, t6, t7⟩)
        (fail)
      go_wp2_with fail
      exact bodyPost_end (v := .tuple #[]) (by simp [results, Tryd.results14, go_sem]) rfl ⟨_, _, rfl, M7, HZ, G7⟩


end Go.Proofs.YtfbmaemnbolplaaDoor

/-
  Indexes of blocks: a block put (Put).
-/
namespace Go.Proofs.YtfbmaemnbolplaaDoor
open Go.RowKit
open Go.ChangeMaps (setBlock)

/-- no block but two has changed -/
structure G2 (w w' : World) (m b : Nat) : Prop where
  os : w'.os = w.os
  tape : w'.tape = w.tape
  output : w'.output = w.output
  size : w.heap.size ≤ w'.heap.size
  block : ∀ k, k < w.heap.size → k ≠ m → k ≠ b → w'.heap[k]? = w.heap[k]?
theorem G2.of1 {w w' : World} {m b : Nat} (h : w.grownBy w' (some m)) : G2 w w' m b := ⟨h.os, h.tape, h.output, h.size, fun k hk h1 _ => h.block k hk (fun e => h1 (Option.some.inj e))⟩
theorem G2.of2 {w w' : World} {m b : Nat} (h : w.grownBy w' (some b)) : G2 w w' m b := ⟨h.os, h.tape, h.output, h.size, fun k hk _ h2 => h.block k hk (fun e => h2 (Option.some.inj e))⟩
theorem G2.trans {w v w' : World} {m b : Nat} (h : G2 w v m b) (k : G2 v w' m b) : G2 w w' m b :=
  ⟨k.os.trans h.os, k.tape.trans h.tape, k.output.trans h.output, Nat.le_trans h.size k.size, fun j hj h1 h2 => (k.block j (Nat.lt_of_lt_of_le hj h.size) h1 h2).trans (h.block j hj h1 h2)⟩
theorem G2.below {w v w' : World} {m b : Nat} (hb : Below w.heap.size w v) (hg : G2 v w' m b) (hm : w.heap.size ≤ m) (hbb : w.heap.size ≤ b) : Below w.heap.size w w' :=
  ⟨hg.os.trans hb.os, hg.tape.trans hb.tape, hg.output.trans hb.output, Nat.le_trans hb.size hg.size, fun k hk => (hg.block k (Nat.lt_of_lt_of_le hk hb.size) (by omega) (by omega)).trans (hb.block k hk)⟩
theorem G2.own {w w' : World} {m b base la n c : Nat} {l : List B8} (h : OwnBL w base (.slice (some ⟨la, 0, none⟩) n c) l) (hg : G2 w w' m b) (h1 : la ≠ m) (h2 : la ≠ b) : OwnBL w' base (.slice (some ⟨la, 0, none⟩) n c) l := by
  obtain ⟨p, q | ⟨g, cap, cur, hv, hb, hh, rest⟩⟩ := h
  · exact ⟨p, .inl q⟩
  · cases hv
    refine ⟨p, .inr ⟨_, _, cur, rfl, hb, ?_, rest⟩⟩
    exact (hg.block la (Array.getElem?_eq_some_iff.1 hh).1 h1 h2).trans hh
theorem grown8q {w w' : World} {g : Nat} (h : w.grownBy w' (some g)) (o : Nat) (x : B8) : w.grownBy (set8 w' g o x).drew (some g) := by
  have key : ∀ v : World, Below g w' v → (∀ k, k ≠ g → v.heap[k]? = w'.heap[k]?) → w.grownBy v.drew (some g) := fun v hb ho => ⟨hb.os.trans h.os, hb.tape.trans h.tape, hb.output.trans h.output, Nat.le_trans h.size hb.size, fun k hk hne => (ho k (fun e => hne (by rw [e]))).trans (h.block k hk hne)⟩
  exact key _ (set8_below (Below.refl g w') (Nat.le_refl g) o x) (fun k hk => set8_other hk x)

set_option maxHeartbeats 16000000 in
set_option maxRecDepth 100000 in
theorem cput_out (B : Nat) (w : World) (g n b c m : Nat) (es : List MapEntry) (ck : Nat) (l : List B8) (h : IX B w g n b c m es ck l) (at_ : Int) (ho : at_ < 0 ∨ (n : Int) ≤ at_) (y : B8) :
    Calls Tryd.prog 9 #[.pointer (some ⟨g, 0, none⟩), .int .i64 at_, .agg #[.int .u8 y.z0, .int .u8 y.z1, .int .u8 y.z2, .int .u8 y.z3, .int .u8 y.z4, .int .u8 y.z5, .int .u8 y.z6, .int .u8 y.z7]] w fun e w' => e = .returned (.iface 34 (.int .i64 1)) ∧ Below w.heap.size w w' := by
  obtain ⟨x0, x1⟩ := (h.bx.later (below_alloc w (.cells #[.int .u8 y.z0, .int .u8 y.z1, .int .u8 y.z2, .int .u8 y.z3, .int .u8 y.z4, .int .u8 y.z5, .int .u8 y.z6, .int .u8 y.z7] 25)) h.bx.lt).two
  have DA := hide (below_alloc w (.cells #[.int .u8 y.z0, .int .u8 y.z1, .int .u8 y.z2, .int .u8 y.z3, .int .u8 y.z4, .int .u8 y.z5, .int .u8 y.z6, .int .u8 y.z7] 25))
  obtain ⟨W1, hW1⟩ : ∃ W1 : World, Hid (W1 = w.alloc (.cells #[.int .u8 y.z0, .int .u8 y.z1, .int .u8 y.z2, .int .u8 y.z3, .int .u8 y.z4, .int .u8 y.z5, .int .u8 y.z6, .int .u8 y.z7] 25)) := ⟨_, rfl⟩
  rw [← hW1.out] at x0 x1 DA
  by_cases h0 : at_ < 0
  · have d0 : decide (at_ < 0) = true := by simpa using h0
    clear h ho h0
    go_enter Tryd.func9, Tryd.ntmps9
    change TailG Tryd.f9 _ 0 _ w
    refine tailG_step rfl ?_
    intro K hK
    go_wp2_with fail
    rw [← hW1.out]
    refine Met.intro (tailG_step rfl ?_)
    try clear hK
    try clear K
    intro K hK
    go_wp2_with fail
    exact bodyPost_ret (v := .iface 34 (.int .i64 1)) (by simp [results, Tryd.results9, go_sem]) rfl ⟨rfl, DA.out⟩
  · have d0 : decide (at_ < 0) = false := by simpa using h0
    have d1 : decide ((n : Int) ≤ at_) = true := by simp; omega
    clear h ho h0
    go_enter Tryd.func9, Tryd.ntmps9
    change TailG Tryd.f9 _ 0 _ w
    refine tailG_step rfl ?_
    intro K hK
    go_wp2_with fail
    rw [← hW1.out]
    refine Met.intro (tailG_step rfl ?_)
    try clear hK
    try clear K
    intro K hK
    go_wp2_with fail
    exact bodyPost_ret (v := .iface 34 (.int .i64 1)) (by simp [results, Tryd.results9, go_sem]) rfl ⟨rfl, DA.out⟩

set_option maxHeartbeats 16000000 in
set_option maxRecDepth 100000 in
theorem cput_ok (B : Nat) (w : World) (g n b c m : Nat) (es : List MapEntry) (ck : Nat) (l : List B8) (h : IX B w g n b c m es ck l) (at_ : Nat) (hat : at_ < n) (y : B8) (hy : y.ok) :
    Calls Tryd.prog 9 #[.pointer (some ⟨g, 0, none⟩), .int .i64 (at_ : Int), .agg #[.int .u8 y.z0, .int .u8 y.z1, .int .u8 y.z2, .int .u8 y.z3, .int .u8 y.z4, .int .u8 y.z5, .int .u8 y.z6, .int .u8 y.z7]] w fun e w' => ∃ es' ck', e = .returned .nilIface ∧ Hid (IX B w' g n b c m es' ck' (l.set at_ y)) ∧ Hid (G2 w w' m b) := by
  have HI := hide h
  have HY := hide hy
  clear h hy
  have hn1 := HI.out.n1
  have hn2 := HI.out.n2
  have hgm := hide (show g ≠ m by
    intro e
    have h1 := HI.out.bx
    have h2 := HI.out.mp.at_
    subst e
    have h3 := h1.symm.trans h2
    cases h3)
  have hbm := hide (show b ≠ m by
    intro e
    obtain ⟨p, q | ⟨g', cap, cur, hv, _, hh, _⟩⟩ := HI.out.ow
    · cases q.1
    · cases hv
      have h2 := HI.out.mp.at_
      rw [← e, hh] at h2
      cases h2)
  have hbg := hide (show b ≠ g by
    intro e
    obtain ⟨p, q | ⟨g', cap, cur, hv, _, hh, _⟩⟩ := HI.out.ow
    · cases q.1
    · cases hv
      have h2 := HI.out.bx
      rw [← e] at h2
      have h3 := hh.symm.trans h2
      simp at h3)
  have hln := hide (show l.length = n from (by obtain ⟨_, _, _, _, h9, _⟩ := HI.out.ow.form (by omega); exact h9))
  have d0 : decide ((at_ : Int) < 0) = false := by simp
  have d1 : decide ((n : Int) ≤ (at_ : Int)) = false := by simp; omega
  have d1n : decide (n ≤ at_) = false := by simp; omega
  have hati : (at_ : Int) < n := by omega
  obtain ⟨W1, hW1⟩ : ∃ W1 : World, Hid (W1 = w.alloc (.cells #[.int .u8 y.z0, .int .u8 y.z1, .int .u8 y.z2, .int .u8 y.z3, .int .u8 y.z4, .int .u8 y.z5, .int .u8 y.z6, .int .u8 y.z7] 25)) := ⟨_, rfl⟩
  have F1 := hide (show Below w.heap.size w W1 by rw [hW1.out]; exact below_alloc _ _)
  have I1 := hide (HI.out.later F1.out)
  have Y1 := hide (show Bx W1 w.heap.size #[.int .u8 y.z0, .int .u8 y.z1, .int .u8 y.z2, .int .u8 y.z3, .int .u8 y.z4, .int .u8 y.z5, .int .u8 y.z6, .int .u8 y.z7] 25 by rw [hW1.out]; exact Bx.new w _ _)
  have hmw := hide HI.out.mp.ltm
  have hne5 : some w.heap.size ≠ some m := by have := hmw.out; simp; omega
  have hne6 : some g ≠ some m := fun e => hgm.out (Option.some.inj e)
  obtain ⟨x0, x1⟩ := I1.out.bx.two
  go_enter Tryd.func9, Tryd.ntmps9
  change TailG Tryd.f9 _ 0 _ w
  refine tailG_step rfl ?_
  intro K hK
  go_wp2_with fail
  rw [← hW1.out]
  refine Met.intro (tailG_step rfl ?_)
  try clear hK
  try clear K
  intro K hK
  go_wp2_with fail
  refine Met.intro (tailG_step rfl ?_)
  try clear hK
  try clear K
  intro K hK
  go_wp2_with fail
  refine (cforget_any B W1 g n b c m es ck l I1.out at_ hat).mono ?_
  rintro e w2 ⟨es2, ck2, rfl, M2, C2, G2'⟩
  clear x0 x1
  have X2 := hide (I1.out.bx.grow G2'.out hne6)
  have Y2 := hide (Y1.out.grow G2'.out hne5)
  have O2 := hide (show OwnBL w2 B (.slice (some ⟨b, 0, none⟩) n c) l from World.ownsRow.kept I1.out.ow G2'.out (.inr (fun e => hbm.out (Option.some.inj e))))
  go_wp2_with fail
  refine Met.intro (tailG_step rfl ?_)
  try clear hK
  try clear K
  intro K hK
  obtain ⟨x0, x1⟩ := X2.out.two
  obtain ⟨t0, t1, t2, t3, t4, t5, t6, t7⟩ := Y2.out.eight
  obtain ⟨yy, _, y0, y1, y2, y3, y4, y5, y6, y7⟩ := O2.out.at_ at_ hat
  obtain ⟨b', hb', hgb, hgl, _, yz⟩ := O2.out.form (by omega)
  cases hb'
  obtain ⟨W3, hW3⟩ : ∃ W3 : World, Hid (W3 = (set8 w2 b (at_ * 8) y).drew) := ⟨_, rfl⟩
  have G3 := hide (show w2.grownBy W3 (some b) by rw [hW3.out]; exact grown8q (grow_of_below (Below.refl _ _) _) (at_ * 8) y)
  have O3 := hide (show OwnBL W3 B (.slice (some ⟨b, 0, none⟩) n c) (l.set at_ y) by rw [hW3.out]; exact World.ownsRow.drew (OwnBL.put O2.out at_ (by rw [hln.out]; exact hat) y))
  have hnb : ¬ b = g := hbg.out
  have hbw := hide (show b < w.heap.size from (by obtain ⟨b', hb', _, h9, _, _⟩ := HI.out.ow.form (by omega); cases hb'; exact h9))
  have hnw : ¬ b = w.heap.size := by have := hbw.out; omega
  have X3 := hide (X2.out.grow G3.out (fun e => hbg.out (Option.some.inj e).symm))
  have Y3 := hide (Y2.out.grow G3.out (fun e => hnw (Option.some.inj e).symm))
  have M3 := hide (M2.out.grow G3.out (fun e => hbm.out (Option.some.inj e).symm))
  unfold set8 at hW3
  go_region_held (fun w' => w'.cell? ⟨g, 0, none⟩ = some (.slice (some ⟨b, 0, none⟩) n c) ∧ w'.cell? ⟨g, 1, none⟩ = some (.map (some m)) ∧ w'.cell? ⟨w.heap.size, 0, none⟩ = some (.int .u8 y.z0) ∧ w'.cell? ⟨w.heap.size, 1, none⟩ = some (.int .u8 y.z1) ∧ w'.cell? ⟨w.heap.size, 2, none⟩ = some (.int .u8 y.z2) ∧ w'.cell? ⟨w.heap.size, 3, none⟩ = some (.int .u8 y.z3) ∧ w'.cell? ⟨w.heap.size, 4, none⟩ = some (.int .u8 y.z4) ∧ w'.cell? ⟨w.heap.size, 5, none⟩ = some (.int .u8 y.z5) ∧ w'.cell? ⟨w.heap.size, 6, none⟩ = some (.int .u8 y.z6) ∧ w'.cell? ⟨w.heap.size, 7, none⟩ = some (.int .u8 y.z7)) (simp [*, World.cell?_setCell_far]) (fail)
  all_goals
    rw [← hW3.out]
    clear x0 x1 t0 t1 t2 t3 t4 t5 t6 t7 y0 y1 y2 y3 y4 y5 y6 y7 yz
    go_wp2_with fail
    refine Met.intro (tailG_step rfl ?_)
    try clear hK
    try clear K
    intro K hK
    have X4 := hide (show Bx W3.drew g #[.slice (some ⟨b, 0, none⟩) n c, .map (some m)] 43 from X3.out)
    have Y4 := hide (show Bx W3.drew w.heap.size #[.int .u8 y.z0, .int .u8 y.z1, .int .u8 y.z2, .int .u8 y.z3, .int .u8 y.z4, .int .u8 y.z5, .int .u8 y.z6, .int .u8 y.z7] 25 from Y3.out)
    have M4 := hide (show Mp 25 W3.drew m es2 ck2 from ⟨M3.out.at_, M3.out.keys, M3.out.nd, M3.out.bn, M3.out.lt⟩)
    obtain ⟨W5, W6, va, bn, es', ck', A, hC', hva⟩ := asg_or M4.out C2.out HY.out (at_ := at_) (by omega) (Mx.upd_at _ _ _)
    rw [Mx.upd_set (by rw [hln.out]; exact hat)] at hC'
    have X5 := hide (X4.out.grow A.g2 hne6)
    have Y5 := hide (Y4.out.grow A.g2 hne5)
    have X6 := hide (X4.out.grow A.g3 hne6)
    have Y6 := hide (Y4.out.grow A.g3 hne5)
    obtain ⟨al1, ae1, al2, as2, amp, ag2, ag3⟩ := A
    unfold B8.agg at al1 ae1 al2
    obtain ⟨x0, x1⟩ := X4.out.two
    obtain ⟨t0, t1, t2, t3, t4, t5, t6, t7⟩ := Y4.out.eight
    obtain ⟨r0, r1⟩ := X5.out.two
    obtain ⟨s0, s1, s2, s3, s4, s5, s6, s7⟩ := Y5.out.eight
    obtain ⟨q0, q1⟩ := X6.out.two
    obtain ⟨o0, o1, o2, o3, o4, o5, o6, o7⟩ := Y6.out.eight
    obtain ⟨p, hp⟩ : ∃ p : Nat, Hid (p = 2 ^ at_) := ⟨_, rfl⟩
    obtain ⟨nv, hnv⟩ : ∃ nv : Nat, Hid (nv = va ||| 2 ^ at_) := ⟨_, rfl⟩
    have hor : bits .or .u64 (va : Int) (p : Int) = (nv : Int) := by
      rw [hnv.out, hp.out]
      exact u64_or_nat va (2 ^ at_) (by omega) (by have : 2 ^ at_ < 2 ^ 32 := Nat.pow_lt_pow_right (by omega) (by omega); omega)
    rw [← hnv.out] at as2
    have HG6 := hide ag3
    have GN := hide (show G2 w W6 m b from (((G2.of1 (grow_of_below F1.out _)).trans (G2.of1 G2'.out)).trans (G2.of2 G3.out)).trans (show G2 W3 W6 m b from G2.of1 (show W3.grownBy W6 (some m) from ⟨ag3.os, ag3.tape, ag3.output, ag3.size, ag3.block⟩)))
    have IN := hide (show IX B W6 g n b c m es' ck' (l.set at_ y) from
      { bx := X6.out, ow := World.ownsRow.kept (World.ownsRow.drew O3.out) ag3 (.inr (fun e => hbm.out (Option.some.inj e))), mp := amp, ct := hC',
        ok := fun z hz => by rcases List.mem_or_eq_of_mem_set hz with h9 | h9; exact HI.out.ok z h9; rw [h9]; exact HY.out,
        n1 := hn1, n2 := hn2, gB := HI.out.gB, mB := HI.out.mB })
    clear amp ag2 ag3 hC' hva
    go_region_held3 (fun w' => w'.cell? ⟨g, 0, none⟩ = some (.slice (some ⟨b, 0, none⟩) n c) ∧ w'.cell? ⟨g, 1, none⟩ = some (.map (some m)) ∧ w'.cell? ⟨w.heap.size, 0, none⟩ = some (.int .u8 y.z0) ∧ w'.cell? ⟨w.heap.size, 1, none⟩ = some (.int .u8 y.z1) ∧ w'.cell? ⟨w.heap.size, 2, none⟩ = some (.int .u8 y.z2) ∧ w'.cell? ⟨w.heap.size, 3, none⟩ = some (.int .u8 y.z3) ∧ w'.cell? ⟨w.heap.size, 4, none⟩ = some (.int .u8 y.z4) ∧ w'.cell? ⟨w.heap.size, 5, none⟩ = some (.int .u8 y.z5) ∧ w'.cell? ⟨w.heap.size, 6, none⟩ = some (.int .u8 y.z6) ∧ w'.cell? ⟨w.heap.size, 7, none⟩ = some (.int .u8 y.z7))
      (first
        | with_reducible exact ⟨x0, x1, t0, t1, t2, t3, t4, t5, t6, t7⟩
        | with_reducible exact ⟨r0, r1, s0, s1, s2, s3, s4, s5, s6, s7⟩
        | with_reducible exact ⟨q0, q1, o0, o1, o2, o3, o4, o5, o6, o7⟩)
      (first
        | (go_at_call 12; (with_reducible refine (spot_any at_ _ (by omega)).mono ?_); rintro e wz ⟨rfl, hz⟩; obtain rfl := hz.symm; clear hz; rw [← hp.out]))
    all_goals
      clear al1 ae1 al2 as2 x0 x1 t0 t1 t2 t3 t4 t5 t6 t7 q0 q1 o0 o1 o2 o3 o4 o5 o6 o7 r0 r1 s0 s1 s2 s3 s4 s5 s6 s7
      go_wp2_with fail
      refine Met.intro (tailG_last (c := .seq _ .ret) rfl ?_)
      try clear hK
      try clear K
      go_wp2_with fail
      exact bodyPost_ret (v := .nilIface) (by simp [results, Tryd.results9, go_sem]) rfl ⟨es', ck', rfl, IN, GN⟩


end Go.Proofs.YtfbmaemnbolplaaDoor

/-
  Indexes of blocks: a block looked for (Find).
-/
namespace Go.Proofs.YtfbmaemnbolplaaDoor
open Go.RowKit
open Go.ChangeMaps (setBlock)

/-- what Find answers -/
def Mx.fndA (l : List B8) (y : B8) : Int := if y ∈ l then Mx.firstI l y else 0
theorem Tb.later {w w' : World} (h : Tb w) (hb : Below w.heap.size w w') (h0 : 0 < w.heap.size) : Tb w' := fun j hj => (hb.cell (p := ⟨0, j, none⟩) h0).trans (h j hj)
theorem Mx.first_has {l : List B8} {y : B8} (h : y ∈ l) : ∃ k : Nat, Mx.firstI l y = (k : Int) ∧ l[k]? = some y ∧ ∀ j : Nat, j < k → l[j]? ≠ some y := by
  have key : ∀ n, (∃ k, k < n ∧ l[k]? = some y ∧ ∀ j : Nat, j < k → l[j]? ≠ some y) ∨ ∀ j : Nat, j < n → l[j]? ≠ some y := by
    intro n
    induction n with
    | zero => exact .inr (fun j hj => absurd hj (by omega))
    | succ n ih =>
      rcases ih with ⟨k, h1, h2, h3⟩ | h1
      · exact .inl ⟨k, by omega, h2, h3⟩
      · by_cases he : l[n]? = some y
        · exact .inl ⟨n, by omega, he, h1⟩
        · exact .inr (fun j hj => by
            by_cases hjn : j = n
            · rw [hjn]; exact he
            · exact h1 j (by omega))
  rcases key l.length with ⟨k, _, h2, h3⟩ | h1
  · exact ⟨k, Mx.firstI_at h2 h3, h2, h3⟩
  · obtain ⟨i, hi⟩ := List.getElem?_of_mem h
    exact absurd hi (h1 i (List.getElem?_eq_some_iff.1 hi).1)

set_option maxHeartbeats 16000000 in
set_option maxRecDepth 100000 in
theorem cfind_any (B : Nat) (w : World) (g n b c m : Nat) (es : List MapEntry) (ck : Nat) (l : List B8) (h : IX B w g n b c m es ck l) (ht : Tb w) (hw0 : 0 < w.heap.size) (y : B8) (hy : y.ok) :
    Calls Tryd.prog 8 #[.pointer (some ⟨g, 0, none⟩), .agg #[.int .u8 y.z0, .int .u8 y.z1, .int .u8 y.z2, .int .u8 y.z3, .int .u8 y.z4, .int .u8 y.z5, .int .u8 y.z6, .int .u8 y.z7]] w fun e w' => e = .returned (.tuple #[.int .i64 (Mx.fndA l y), .bool (decide (y ∈ l))]) ∧ Below w.heap.size w w' := by
  have HI := hide h
  have HY := hide hy
  have HT := hide ht
  clear h hy ht
  obtain ⟨W1, hW1⟩ : ∃ W1 : World, Hid (W1 = w.alloc (.cells #[.int .u8 y.z0, .int .u8 y.z1, .int .u8 y.z2, .int .u8 y.z3, .int .u8 y.z4, .int .u8 y.z5, .int .u8 y.z6, .int .u8 y.z7] 25)) := ⟨_, rfl⟩
  have F1 := hide (show Below w.heap.size w W1 by rw [hW1.out]; exact below_alloc _ _)
  have X4 := hide (show Bx W1.drew g #[.slice (some ⟨b, 0, none⟩) n c, .map (some m)] 43 from HI.out.bx.later F1.out.drew HI.out.bx.lt)
  have Y4 := hide (show Bx W1.drew w.heap.size #[.int .u8 y.z0, .int .u8 y.z1, .int .u8 y.z2, .int .u8 y.z3, .int .u8 y.z4, .int .u8 y.z5, .int .u8 y.z6, .int .u8 y.z7] 25 by rw [hW1.out]; exact Bx.newD w _ _)
  have M4 := hide (show Mp 25 W1.drew m es ck from HI.out.mp.later F1.out.drew)
  obtain ⟨x0, x1⟩ := X4.out.two
  obtain ⟨t0, t1, t2, t3, t4, t5, t6, t7⟩ := Y4.out.eight
  obtain ⟨lx, hlx⟩ := blk_key y HY.out
  by_cases hm : y ∈ l
  · obtain ⟨k, hk1, hk2, hk3⟩ := Mx.first_has hm
    have HA := hide (show Mx.fndA l y = (k : Int) by unfold Mx.fndA; rw [if_pos hm, hk1])
    have HB := hide (show decide (y ∈ l) = true from decide_eq_true hm)
    obtain ⟨i, va, bn, hi, hsp⟩ := HI.out.ct.has (show (fun i : Nat => l[i]?) k = some y from hk2)
    have l4 := M4.out.lookup blk_keyed Tryd.mapIx hlx hi rfl true
    have T1 := hide (hsp.2 k |>.trans (decide_eq_true hk2))
    have T2 := hide (show ∀ j, j < k → va.testBit j = false from fun j hj => (hsp.2 j).trans (decide_eq_false (hk3 j hj)))
    have T3 := hide hsp.1
    clear hk1 hk2 hk3 hm hi hsp
    unfold B8.agg at l4
    clear hlx
    go_enter Tryd.func8, Tryd.ntmps8
    change TailG Tryd.f8 _ 0 _ w
    refine tailG_step rfl ?_
    intro K hK
    go_wp2_with fail
    rw [← hW1.out]
    refine Met.intro (tailG_step rfl ?_)
    try clear hK
    try clear K
    intro K hK
    go_wp2_with fail
    refine Met.intro (tailG_step rfl ?_)
    try clear hK
    try clear K
    intro K hK
    go_region_held3 (fun w' => w'.cell? ⟨g, 0, none⟩ = some (.slice (some ⟨b, 0, none⟩) n c) ∧ w'.cell? ⟨g, 1, none⟩ = some (.map (some m)) ∧ w'.cell? ⟨w.heap.size, 0, none⟩ = some (.int .u8 y.z0) ∧ w'.cell? ⟨w.heap.size, 1, none⟩ = some (.int .u8 y.z1) ∧ w'.cell? ⟨w.heap.size, 2, none⟩ = some (.int .u8 y.z2) ∧ w'.cell? ⟨w.heap.size, 3, none⟩ = some (.int .u8 y.z3) ∧ w'.cell? ⟨w.heap.size, 4, none⟩ = some (.int .u8 y.z4) ∧ w'.cell? ⟨w.heap.size, 5, none⟩ = some (.int .u8 y.z5) ∧ w'.cell? ⟨w.heap.size, 6, none⟩ = some (.int .u8 y.z6) ∧ w'.cell? ⟨w.heap.size, 7, none⟩ = some (.int .u8 y.z7))
      (first
        | with_reducible exact ⟨x0, x1, t0, t1, t2, t3, t4, t5, t6, t7⟩)
      (fail)
    all_goals
      clear x0 x1 t0 t1 t2 t3 t4 t5 t6 t7 l4
      go_wp2_with fail
      refine Met.intro (tailG_step rfl ?_)
      try clear hK
      try clear K
      intro K hK
      go_wp2_with fail
      refine Met.intro (tailG_last (c := .seq _ .ret) rfl ?_)
      try clear hK
      try clear K
      go_wp2_with fail
      refine (tz_any va k W1.drew (HT.out.later F1.out.drew hw0) T3.out T1.out T2.out).mono ?_
      rintro e wz ⟨rfl, hz⟩
      obtain rfl := hz.symm
      clear hz
      go_wp2_with fail
      exact bodyPost_ret (v := .tuple #[.int .i64 (k : Int), .bool true]) (by simp [results, Tryd.results8, go_sem]) rfl ⟨by rw [HA.out, HB.out], F1.out.drew⟩
  · have HA := hide (show Mx.fndA l y = 0 by unfold Mx.fndA; rw [if_neg hm])
    have HB := hide (show decide (y ∈ l) = false from decide_eq_false hm)
    have l4 := M4.out.lookupNot blk_keyed Tryd.mapIx hlx (HI.out.ct.not (fun i e => hm (List.mem_of_getElem? e))) (Tryd.zeroSpots _) true
    clear hm
    unfold B8.agg at l4
    clear hlx
    go_enter Tryd.func8, Tryd.ntmps8
    change TailG Tryd.f8 _ 0 _ w
    refine tailG_step rfl ?_
    intro K hK
    go_wp2_with fail
    rw [← hW1.out]
    refine Met.intro (tailG_step rfl ?_)
    try clear hK
    try clear K
    intro K hK
    go_wp2_with fail
    refine Met.intro (tailG_step rfl ?_)
    try clear hK
    try clear K
    intro K hK
    go_region_held3 (fun w' => w'.cell? ⟨g, 0, none⟩ = some (.slice (some ⟨b, 0, none⟩) n c) ∧ w'.cell? ⟨g, 1, none⟩ = some (.map (some m)) ∧ w'.cell? ⟨w.heap.size, 0, none⟩ = some (.int .u8 y.z0) ∧ w'.cell? ⟨w.heap.size, 1, none⟩ = some (.int .u8 y.z1) ∧ w'.cell? ⟨w.heap.size, 2, none⟩ = some (.int .u8 y.z2) ∧ w'.cell? ⟨w.heap.size, 3, none⟩ = some (.int .u8 y.z3) ∧ w'.cell? ⟨w.heap.size, 4, none⟩ = some (.int .u8 y.z4) ∧ w'.cell? ⟨w.heap.size, 5, none⟩ = some (.int .u8 y.z5) ∧ w'.cell? ⟨w.heap.size, 6, none⟩ = some (.int .u8 y.z6) ∧ w'.cell? ⟨w.heap.size, 7, none⟩ = some (.int .u8 y.z7))
      (first
        | with_reducible exact ⟨x0, x1, t0, t1, t2, t3, t4, t5, t6, t7⟩)
      (fail)
    all_goals
      clear x0 x1 t0 t1 t2 t3 t4 t5 t6 t7 l4
      go_wp2_with fail
      refine Met.intro (tailG_step rfl ?_)
      try clear hK
      try clear K
      intro K hK
      go_wp2_with fail
      exact bodyPost_ret (v := .tuple #[.int .i64 0, .bool false]) (by simp [results, Tryd.results8, go_sem]) rfl ⟨by rw [HA.out, HB.out], F1.out.drew⟩


end Go.Proofs.YtfbmaemnbolplaaDoor
