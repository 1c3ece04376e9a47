/-
  Blocks as keys; one place alone (spot); the first place of several (TrailingZeros64).
-/
import Derived.Test.YtfbmaemnbolplaaDoorZDclone
import Derived.Test.YtfbmaemnbolplaaDoorZDbox
import Derived.Test.YtfbmaemnbolplaaDoorZMq
import Derived.Test.YtfbmaemnbolplaaDoorZDopen

namespace Go.Proofs.YtfbmaemnbolplaaDoor
open Go.RowKit
open Go.Maps (Keyed)

theorem blk_keyed : Keyed Tryd.prog 25 := Keyed.of_law (deep_law_laid Tryd.laidOut (m := 2) (by omega) (by decide +kernel) (by kernel_rfl) (by kernel_rfl))

/-- a block as a value -/
def B8.agg (x : B8) : Value := .agg #[.int .u8 x.z0, .int .u8 x.z1, .int .u8 x.z2, .int .u8 x.z3, .int .u8 x.z4, .int .u8 x.z5, .int .u8 x.z6, .int .u8 x.z7]
theorem B8.agg_inj {x y : B8} (h : x.agg = y.agg) : x = y := by
  unfold B8.agg at h
  simp at h
  cases x
  cases y
  simp_all

theorem blk_key (x : B8) (hx : x.ok) : ∃ l, keyOf Tryd.prog 25 x.agg = some l := by
  have e := fun t ht => hx t ht
  simp only [Mx.bytesOf, List.mem_cons, List.not_mem_nil, or_false, forall_eq_or_imp, forall_eq] at e
  obtain ⟨e0, e1, e2, e3, e4, e5, e6, e7⟩ := e
  have w : ∀ z : Int, 0 ≤ z ∧ z ≤ 255 → (Lit.int .u8 z).wf = true := fun z hz => by
    simp [Lit.wf, IntKind.min, IntKind.max, IntKind.signed, IntKind.bits]
    omega
  have hk : Tryd.prog.keyType 25 = true := by kernel_rfl
  have hf : x.agg.formed Tryd.prog 25 = true := by
    unfold B8.agg Value.formed
    rw [Tryd.underlying25]
    kernel_rfl
  have hn : ∃ N, Tryd.prog.types.size + 1 = N + 2 := ⟨Tryd.prog.types.size - 1, by have h : 2 ≤ Tryd.prog.types.size := (by decide +kernel); omega⟩
  obtain ⟨N, hN⟩ := hn
  have hc : Tryd.prog.cellsOf 5 = 1 := Tryd.cellsOf5
  have hl : ∃ ls, Tryd.prog.keyLits (Tryd.prog.types.size + 1) 25 x.agg.cells.toList = some ls := by
    rw [hN]
    have h1 : ∀ z : Int, 0 ≤ z ∧ z ≤ 255 → Tryd.prog.keyLits (N + 1) 5 [.int .u8 z] = some [.int .u8 z] := fun z hz => by
      unfold Program.keyLits
      rw [Tryd.underlying5]
      simp [w z hz]
    have h2 : x.agg.cells.toList = [.int .u8 x.z0, .int .u8 x.z1, .int .u8 x.z2, .int .u8 x.z3, .int .u8 x.z4, .int .u8 x.z5, .int .u8 x.z6, .int .u8 x.z7] := rfl
    have h3 : Tryd.prog.cellsOf 25 = 8 := by kernel_rfl
    rw [h2]
    unfold Program.keyLits
    rw [Tryd.underlying25]
    simp [hc, h3, List.range, List.range.loop, h1 _ e0, h1 _ e1, h1 _ e2, h1 _ e3, h1 _ e4, h1 _ e5, h1 _ e6, h1 _ e7]
  obtain ⟨ls, hls⟩ := hl
  unfold keyOf
  rw [Tryd.underlying25]
  simp only [hk, hf, hls]
  exact ⟨_, rfl⟩

end Go.Proofs.YtfbmaemnbolplaaDoor

/-
  One place alone (spot); the first place of several (TrailingZeros64).
-/
namespace Go.Proofs.YtfbmaemnbolplaaDoor
open Go.RowKit

theorem spot_any (i : Nat) (w : World) (hi : i < 32) :
    Calls Tryd.prog 12 #[.int .i64 (i : Int)] w fun e w' => e = .returned (.int .u64 ((2 ^ i : Nat) : Int)) ∧ w' = w := by
  obtain ⟨p, hp⟩ : ∃ p : Nat, Hid (p = 2 ^ i) := ⟨_, rfl⟩
  have hp2 : p < 4294967296 := by rw [hp.out]; exact (Nat.pow_lt_pow_right (by omega) hi : 2 ^ i < 2 ^ 32)
  have e : ((2 : Int) ^ i) = (p : Int) := by rw [hp.out, Int.natCast_pow]; rfl
  have hw : IntKind.u64.wrap ((2 : Int) ^ i) = (p : Int) := by
    rw [e]
    unfold IntKind.wrap
    simp only [IntKind.bits, IntKind.signed, Bool.false_and, Bool.false_eq_true, if_false]
    omega
  rw [← hp.out]
  clear e
  go_enter Tryd.func12, Tryd.ntmps12
  go_wp2_with fail
  exact bodyPost_ret (v := .int .u64 (p : Int)) (by simp [results, Tryd.results12, go_sem]) rfl ⟨rfl, rfl⟩

namespace Mx
theorem low_bit {v k : Nat} (h1 : v.testBit k = true) (h2 : ∀ j, j < k → v.testBit j = false) : ∃ a, v = 2 ^ k * a ∧ a % 2 = 1 := by
  have hz : v % 2 ^ k = 0 := by
    apply Nat.eq_of_testBit_eq
    intro j
    rw [Nat.testBit_mod_two_pow, Nat.zero_testBit]
    by_cases hj : j < k
    · rw [h2 j hj, Bool.and_false]
    · rw [decide_eq_false hj, Bool.false_and]
  refine ⟨v / 2 ^ k, ?_, ?_⟩
  · have := Nat.div_add_mod v (2 ^ k)
    omega
  · have h3 : (v / 2 ^ k).testBit 0 = true := by rw [Nat.testBit_div_two_pow]; simpa using h1
    rw [Nat.testBit_zero] at h3
    simpa using h3
theorem and_neg {v k : Nat} (hv : v < 2 ^ 64) (h1 : v.testBit k = true) (h2 : ∀ j, j < k → v.testBit j = false) : v &&& (2 ^ 64 - v) = 2 ^ k := by
  obtain ⟨a, ha, ha1⟩ := low_bit h1 h2
  have hp : 0 < 2 ^ k := Nat.two_pow_pos k
  have h0 : 0 < v := by
    rw [ha]
    exact Nat.mul_pos hp (by omega)
  have hk : k < 64 := by
    rcases Nat.lt_or_ge k 64 with h | h
    · exact h
    · have := Nat.testBit_lt_two_pow (x := v) (i := k) (Nat.lt_of_lt_of_le hv (Nat.pow_le_pow_right (by omega) h))
      rw [this] at h1
      cases h1
  have hm : v - 1 = 2 ^ k * (a - 1) + (2 ^ k - 1) := by
    have h3 : 2 ^ k * a = 2 ^ k * (a - 1) + 2 ^ k := by
      have h4 : a = (a - 1) + 1 := by omega
      rw [h4, Nat.mul_add, Nat.mul_one]
      simp
    omega
  apply Nat.eq_of_testBit_eq
  intro j
  have h5 : 2 ^ 64 - v = 2 ^ 64 - ((v - 1) + 1) := by omega
  rw [Nat.testBit_and, h5, Nat.testBit_two_pow_sub_succ (by omega), hm, Nat.testBit_two_pow_mul_add _ (by omega), Nat.testBit_two_pow]
  rcases Nat.lt_trichotomy j k with hj | hj | hj
  · rw [h2 j hj, decide_eq_false (show ¬ k = j by omega)]
    rfl
  · subst hj
    rw [h1, decide_eq_true rfl, decide_eq_true hk, if_neg (by omega), Nat.sub_self, Nat.testBit_zero]
    have : (a - 1) % 2 = 0 := by omega
    simp [this]
  · rw [decide_eq_false (show ¬ k = j by omega), if_neg (by omega)]
    have h6 : v.testBit j = a.testBit (j - k) := by
      rw [ha]
      have := Nat.testBit_two_pow_mul_add a (b := 0) (i := k) hp j
      rw [Nat.add_zero, if_neg (by omega)] at this
      exact this
    have h7 : (a - 1).testBit (j - k) = a.testBit (j - k) := by
      have e1 : a = 2 ^ 1 * ((a - 1) / 2) + 1 := by omega
      have e2 : a - 1 = 2 ^ 1 * ((a - 1) / 2) + 0 := by omega
      have x1 := Nat.testBit_two_pow_mul_add ((a - 1) / 2) (b := 1) (i := 1) (by omega) (j - k)
      have x2 := Nat.testBit_two_pow_mul_add ((a - 1) / 2) (b := 0) (i := 1) (by omega) (j - k)
      rw [← e1, if_neg (by omega)] at x1
      rw [← e2, if_neg (by omega)] at x2
      rw [x1, x2]
    rw [h6, h7]
    cases a.testBit (j - k) <;> simp

/-- the table of TrailingZeros64 -/
def tab : List Int := [0, 1, 56, 2, 57, 49, 28, 3, 61, 58, 42, 50, 38, 29, 17, 4, 62, 47, 59, 36, 45, 43, 51, 22, 53, 39, 33, 30, 24, 18, 12, 5, 63, 55, 48, 27, 60, 41, 37, 16, 46, 35, 44, 21, 52, 32, 23, 11, 54, 26, 40, 15, 34, 20, 31, 10, 25, 14, 19, 9, 13, 8, 7, 6]
theorem tab_at : ∀ k : Fin 64, (2 ^ k.val * 285870213051353865) % 18446744073709551616 / 288230376151711744 < 64 ∧ tab.getD ((2 ^ k.val * 285870213051353865) % 18446744073709551616 / 288230376151711744) 0 = (k.val : Int) := by decide +kernel
end Mx

/-- the table lies where it lies -/
def Tb (w : World) : Prop := ∀ j, j < 64 → w.cell? ⟨0, j, none⟩ = some (.int .u8 (Mx.tab.getD j 0))

theorem u64_and_nat (a b : Nat) (ha : a < 18446744073709551616) (hb : b < 18446744073709551616) : bits .and .u64 (a : Int) (b : Int) = ((a &&& b : Nat) : Int) :=
  (bits_nat .u64 64 (by decide) (fun n h0 h1 => by unfold IntKind.wrap; simp only [IntKind.bits, IntKind.signed, Bool.false_and, Bool.false_eq_true, if_false]; exact Int.emod_eq_of_lt h0 h1) a b ha hb).1

theorem tz_any (v k : Nat) (w : World) (ht : Tb w) (h0 : v < 4294967296) (h1 : v.testBit k = true) (h2 : ∀ j, j < k → v.testBit j = false) :
    Calls Tryd.prog 13 #[.int .u64 (v : Int)] w fun e w' => e = .returned (.int .i64 (k : Int)) ∧ w' = w := by
  have hv0 : v ≠ 0 := fun e => by rw [e] at h1; simp at h1
  have hk : k < 64 := by
    rcases Nat.lt_or_ge k 64 with h | h
    · exact h
    · have := Nat.testBit_lt_two_pow (x := v) (i := k) (Nat.lt_of_lt_of_le (show v < 2 ^ 32 from h0) (Nat.pow_le_pow_right (by omega) (by omega)))
      rw [this] at h1
      cases h1
  obtain ⟨p, hp⟩ : ∃ p : Nat, Hid (p = 2 ^ k) := ⟨_, rfl⟩
  have e0 : IntKind.u64.wrap (-(v : Int)) = ((2 ^ 64 - v : Nat) : Int) := by
    unfold IntKind.wrap
    simp only [IntKind.bits, IntKind.signed, Bool.false_and, Bool.false_eq_true, if_false]
    omega
  have e1 : bits .and .u64 (v : Int) (IntKind.u64.wrap (-(v : Int))) = (p : Int) := by
    rw [e0, u64_and_nat v (2 ^ 64 - v) (by omega) (by omega), Mx.and_neg (by omega) h1 h2, hp.out]
  obtain ⟨j, hj⟩ : ∃ j : Nat, Hid (j = (2 ^ k * 285870213051353865) % 18446744073709551616 / 288230376151711744) := ⟨_, rfl⟩
  have hj64 : j < 64 := by rw [hj.out]; exact (Mx.tab_at ⟨k, hk⟩).1
  have htk : Mx.tab.getD j 0 = (k : Int) := by rw [hj.out]; exact (Mx.tab_at ⟨k, hk⟩).2
  have e2 : IntKind.u64.wrap ((p : Int) * 285870213051353865) / 288230376151711744 = (j : Int) := by
    unfold IntKind.wrap
    simp only [IntKind.bits, IntKind.signed, Bool.false_and, Bool.false_eq_true, if_false]
    have h9 := hj.out
    rw [← hp.out] at h9
    rw [h9]
    show (p : Int) * 285870213051353865 % 18446744073709551616 / 288230376151711744 = _
    simp only [Int.natCast_ediv, Int.natCast_emod, Int.natCast_mul, Int.cast_ofNat_Int]
  have c0 := ht j hj64
  rw [htk] at c0
  have d : ((v : Int) == 0) = false := by simp; omega
  have dn : (v == 0) = false := by simpa using hv0
  have hji : (j : Int) < 64 := by omega
  have hk255 : (k : Int) ≤ 255 := by omega
  clear ht htk h1 h2 e0 h0
  go_enter Tryd.func13, Tryd.ntmps13
  go_wp2_with fail
  exact bodyPost_ret (v := .int .i64 (k : Int)) (by simp [results, Tryd.results13, go_sem]) rfl ⟨rfl, rfl⟩

end Go.Proofs.YtfbmaemnbolplaaDoor

/-
  Indexes of blocks: what their maps hold; a value changed in place.
-/
namespace Go.Proofs.YtfbmaemnbolplaaDoor
open Go.RowKit
open Go.Maps (Keyed)
open Go.ChangeMaps (setBlock)

namespace Mx
/-- the places of a block, as bits -/
def Sp (f : Nat → Option B8) (x : B8) (v : Nat) : Prop := v < 4294967296 ∧ ∀ i, v.testBit i = decide (f i = some x)
/-- another at a place -/
def upd (f : Nat → Option B8) (i : Nat) (y : Option B8) : Nat → Option B8 := fun j => if j = i then y else f j
theorem upd_at (f : Nat → Option B8) (i : Nat) (y : Option B8) : upd f i y i = y := by unfold upd; rw [if_pos rfl]
theorem upd_ne (f : Nat → Option B8) {i j : Nat} (y : Option B8) (h : j ≠ i) : upd f i y j = f j := by unfold upd; rw [if_neg h]
theorem Sp.one {f : Nat → Option B8} {x : B8} {v i : Nat} (h : Sp f x v) (hi : i < 32) : Sp (upd f i (some x)) x (v ||| 2 ^ i) := by
  refine ⟨?_, fun j => ?_⟩
  · exact Nat.or_lt_two_pow (n := 32) h.1 (Nat.pow_lt_pow_right (by omega) hi)
  · rw [Nat.testBit_or, h.2, Nat.testBit_two_pow]
    by_cases hj : i = j
    · subst hj
      rw [decide_eq_true (rfl : i = i), upd_at]
      simp
    · rw [decide_eq_false hj, Bool.or_false, upd_ne f _ (fun e => hj e.symm)]
theorem Sp.less {f : Nat → Option B8} {x : B8} {v i : Nat} (h : Sp f x v) (hi : i < 32) : Sp (upd f i none) x (v &&& (18446744073709551615 - 2 ^ i)) := by
  have hb : ∀ j, (v &&& (18446744073709551615 - 2 ^ i)).testBit j = (v.testBit j && !decide (i = j)) := fun j => by
    rw [Nat.testBit_and]
    by_cases hj : j < 64
    · have e : 18446744073709551615 - 2 ^ i = 2 ^ 64 - (2 ^ i + 1) := by omega
      have hlt : 2 ^ i < 2 ^ 64 := Nat.pow_lt_pow_right (by omega) (by omega)
      rw [e, Nat.testBit_two_pow_sub_succ hlt, decide_eq_true hj, Nat.testBit_two_pow, Bool.true_and]
    · have hv : v.testBit j = false := Nat.testBit_lt_two_pow (Nat.lt_of_lt_of_le (show v < 2 ^ 32 from h.1) (Nat.pow_le_pow_right (by omega) (by omega)))
      rw [hv, Bool.false_and, Bool.false_and]
  refine ⟨Nat.lt_of_le_of_lt Nat.and_le_left h.1, fun j => ?_⟩
  rw [hb, h.2]
  by_cases hj : i = j
  · subst hj
    rw [upd_at]
    simp
  · rw [upd_ne f _ (fun e => hj e.symm), decide_eq_false hj]
    simp
theorem Sp.other {f f' : Nat → Option B8} {x : B8} {v : Nat} (h : Sp f x v) (hl : ∀ j : Nat, (f j = some x) ↔ (f' j = some x)) : Sp f' x v :=
  ⟨h.1, fun j => by rw [h.2]; exact decide_eq_decide.2 (hl j)⟩
theorem Sp.zero {f : Nat → Option B8} {x : B8} (h : ∀ i, f i ≠ some x) : Sp f x 0 := ⟨by omega, fun i => by
  rw [Nat.zero_testBit, decide_eq_false (h i)]⟩
theorem Sp.pos {f : Nat → Option B8} {x : B8} {v : Nat} (h : Sp f x v) : (v = 0) ↔ ∀ i, f i ≠ some x := by
  constructor
  · intro e i hi
    have h1 := h.2 i
    rw [e, Nat.zero_testBit, decide_eq_true hi] at h1
    cases h1
  · intro hx
    apply Nat.eq_of_testBit_eq
    intro i
    rw [h.2, Nat.zero_testBit, decide_eq_false (hx i)]
end Mx

/-- a map that tells the places of blocks -/
structure Cont (es : List MapEntry) (f : Nat → Option B8) : Prop where
  each : ∀ e ∈ es, ∃ x v, e.key = B8.agg x ∧ e.val = .int .u64 ((v : Nat) : Int) ∧ Mx.Sp f x v ∧ ∃ i, f i = some x
  all : ∀ i x, f i = some x → ∃ e ∈ es, e.key = B8.agg x
theorem Cont.nil : Cont [] (fun _ => none) := ⟨fun e he => by simp at he, fun i x hx => by simp at hx⟩
theorem Cont.not {es : List MapEntry} {f : Nat → Option B8} (h : Cont es f) {x : B8} (hx : ∀ i, f i ≠ some x) : ∀ e ∈ es, e.key ≠ B8.agg x := fun e he hk => by
  obtain ⟨y, v, h1, _, _, i, h4⟩ := h.each e he
  exact hx i (by rw [h4, B8.agg_inj (hk.symm.trans h1)])
theorem Cont.has {es : List MapEntry} {f : Nat → Option B8} (h : Cont es f) {x : B8} {j : Nat} (hx : f j = some x) : ∃ (i : Nat) (v b : Nat), es[i]? = some ⟨B8.agg x, .int .u64 (v : Int), b⟩ ∧ Mx.Sp f x v := by
  obtain ⟨e, he, hk⟩ := h.all j x hx
  obtain ⟨i, hi⟩ := List.getElem?_of_mem he
  obtain ⟨y, v, h1, h2, h3, h4⟩ := h.each e he
  have hxy : y = x := B8.agg_inj (h1.symm.trans hk)
  subst hxy
  refine ⟨i, v, e.born, ?_, h3⟩
  rw [hi]
  cases e
  simp_all

theorem Tryd.mapIx : Tryd.prog.underlying 41 = some (.map 25 45) := by kernel_rfl
theorem Tryd.zeroSpots (w : World) : (zeroValue 45).run Tryd.prog w = .ok (.int .u64 0) w := by kernel_rfl

theorem setE_push (es : List MapEntry) (key v0 v : Value) (ck : Nat) : setE (pushE es key v0 ck) es.length v = pushE es key v ck := by
  unfold setE pushE
  apply List.ext_getElem?
  intro j
  rw [List.getElem?_modify, List.getElem?_append, List.getElem?_append]
  by_cases hj : j < es.length
  · rw [if_pos hj, if_pos hj]
    have hne : ¬ es.length = j := by omega
    cases es[j]? <;> simp [hne]
  · rw [if_neg hj, if_neg hj]
    by_cases he : es.length = j
    · subst he
      simp
    · have h1 : ¬ j - es.length = 0 := by omega
      rw [List.getElem?_eq_none (by simp; omega), List.getElem?_eq_none (by simp; omega)]
      rfl

/-- what 'm[key] op= ..' meets -/
structure Asg (W W2 W3 : World) (m : Nat) (key : Value) (v nv : Nat) (bn : Nat) (es' : List MapEntry) (ck' : Nat) : Prop where
  l1 : (Instr.lookup 41 (.map (some m)) key false).run Tryd.prog W = .ok (.int .u64 (v : Int)) W
  e1 : (Instr.mapEntry 41 (.map (some m)) key).run Tryd.prog W = .ok (.tuple #[.int .u64 (v : Int), .int .i64 (bn : Int)]) W2
  l2 : (Instr.lookup 41 (.map (some m)) key false).run Tryd.prog W2 = .ok (.int .u64 (v : Int)) W2
  s2 : (Instr.entryStore 41 (.map (some m)) (.int .i64 (bn : Int)) (.int .u64 (nv : Int))).run Tryd.prog W2 = .ok () W3
  mp : Mp 25 W3 m es' ck'
  g2 : W.grownBy W2 (some m)
  g3 : W.grownBy W3 (some m)

theorem asg_has {W : World} {m : Nat} {es : List MapEntry} {ck : Nat} (h : Mp 25 W m es ck) {x : B8} (hx : x.ok) {i v b : Nat} (hi : es[i]? = some ⟨B8.agg x, .int .u64 (v : Int), b⟩) (nv : Nat) :
    Asg W W (setBlock W m (.map (setE es i (.int .u64 (nv : Int))).toArray ck)) m (B8.agg x) v nv b (setE es i (.int .u64 (nv : Int))) ck := by
  obtain ⟨lx, hk⟩ := blk_key x hx
  have l1 := h.lookup blk_keyed Tryd.mapIx hk hi rfl false
  exact ⟨l1, h.entry blk_keyed Tryd.mapIx hk hi rfl, l1, h.store hi _, h.setv i _ (setBlock_at h.ltm _), ⟨rfl, rfl, rfl, Nat.le_refl _, fun _ _ _ => rfl⟩, setBlock_grown _⟩

theorem asg_not {W : World} {m : Nat} {es : List MapEntry} {ck : Nat} (h : Mp 25 W m es ck) {x : B8} (hx : x.ok) (hn : ∀ e ∈ es, e.key ≠ B8.agg x) (nv : Nat) :
    Asg W (setBlock W m (.map (pushE es (B8.agg x) (.int .u64 0) ck).toArray (ck + 1))) (setBlock (setBlock W m (.map (pushE es (B8.agg x) (.int .u64 0) ck).toArray (ck + 1))) m (.map (pushE es (B8.agg x) (.int .u64 (nv : Int)) ck).toArray (ck + 1))) m (B8.agg x) 0 nv ck (pushE es (B8.agg x) (.int .u64 (nv : Int)) ck) (ck + 1) := by
  obtain ⟨lx, hk⟩ := blk_key x hx
  have hp := h.push hk hn (.int .u64 0) (setBlock_at h.ltm _)
  have hi : (pushE es (B8.agg x) (.int .u64 0) ck)[es.length]? = some ⟨B8.agg x, .int .u64 0, ck⟩ := by unfold pushE; simp
  have hs := hp.store (t := 41) hi (.int .u64 (nv : Int))
  rw [setE_push] at hs
  refine ⟨h.lookupNot blk_keyed Tryd.mapIx hk hn (Tryd.zeroSpots _) false, h.entryNot blk_keyed Tryd.mapIx hk hn (Tryd.zeroSpots _), hp.lookup blk_keyed Tryd.mapIx hk hi rfl false, hs, ?_, setBlock_grown _, (setBlock_grown _).trans (setBlock_grown _)⟩
  have h9 := hp.setv es.length (.int .u64 (nv : Int)) (w' := setBlock (setBlock W m (.map (pushE es (B8.agg x) (.int .u64 0) ck).toArray (ck + 1))) m (.map (pushE es (B8.agg x) (.int .u64 (nv : Int)) ck).toArray (ck + 1))) (by rw [setE_push]; exact setBlock_at hp.ltm _)
  rw [setE_push] at h9
  exact h9

/-- an entry of a map with one value another -/
theorem mem_setE {es : List MapEntry} {i : Nat} {v : Value} {e : MapEntry} (h : e ∈ setE es i v) : (∃ x, es[i]? = some x ∧ e = { x with val := v }) ∨ ∃ j, j ≠ i ∧ es[j]? = some e := by
  obtain ⟨j, hj⟩ := List.getElem?_of_mem h
  unfold setE at hj
  rw [List.getElem?_modify] at hj
  by_cases he : i = j
  · subst he
    cases hx : es[i]? with
    | none => rw [hx] at hj; simp at hj
    | some x => rw [hx] at hj; simp at hj; exact .inl ⟨x, rfl, hj.symm⟩
  · cases hx : es[j]? with
    | none => rw [hx] at hj; simp at hj
    | some x => rw [hx] at hj; simp [he] at hj; exact .inr ⟨j, fun e => he e.symm, by rw [hx, hj]⟩
theorem setE_mem {es : List MapEntry} {i j : Nat} {v : Value} {e : MapEntry} (h : es[j]? = some e) : ∃ e' ∈ setE es i v, e'.key = e.key := by
  by_cases he : i = j
  · subst he
    exact ⟨{ e with val := v }, List.mem_of_getElem? (i := i) (by unfold setE; rw [List.getElem?_modify, h]; simp), rfl⟩
  · exact ⟨e, List.mem_of_getElem? (i := j) (by unfold setE; rw [List.getElem?_modify, h]; simp [he]), rfl⟩

theorem asg_or {W : World} {m : Nat} {es : List MapEntry} {ck : Nat} {f : Nat → Option B8} (h : Mp 25 W m es ck) (hc : Cont es f) {x : B8} (hx : x.ok) {at_ : Nat} (ha : at_ < 32) (hf : f at_ = none) :
    ∃ W2 W3 v bn es' ck', Asg W W2 W3 m (B8.agg x) v (v ||| 2 ^ at_) bn es' ck' ∧ Cont es' (Mx.upd f at_ (some x)) ∧ v < 4294967296 := by
  have keep : ∀ (y : B8), y ≠ x → ∀ j, (f j = some y) ↔ (Mx.upd f at_ (some x) j = some y) := fun y hy j => by
    by_cases hj : j = at_
    · subst hj
      rw [Mx.upd_at, hf]
      exact ⟨fun e => (by cases e), fun e => absurd (Option.some.inj e).symm hy⟩
    · rw [Mx.upd_ne f _ hj]
  by_cases hh : ∃ j, f j = some x
  · obtain ⟨j0, hj0⟩ := hh
    obtain ⟨i, v, b, hi, hsp⟩ := hc.has hj0
    refine ⟨W, _, v, b, _, ck, asg_has h hx hi _, ⟨fun e he => ?_, fun j y hy => ?_⟩, hsp.1⟩
    · rcases mem_setE he with ⟨e0, h1, rfl⟩ | ⟨j, hj, h1⟩
      · rw [hi] at h1
        cases h1
        exact ⟨x, v ||| 2 ^ at_, rfl, rfl, hsp.one ha, at_, Mx.upd_at _ _ _⟩
      · obtain ⟨y, v', k1, k2, k3, p, k4⟩ := hc.each e (List.mem_of_getElem? h1)
        have hyx : y ≠ x := fun e9 => by
          subst e9
          have q1 : (es.map (·.key))[i]? = some (B8.agg y) := by rw [List.getElem?_map, hi]; rfl
          have q2 : (es.map (·.key))[j]? = some (B8.agg y) := by rw [List.getElem?_map, h1, Option.map_some, k1]
          exact hj (nodup_inj h.nd q2 q1)
        exact ⟨y, v', k1, k2, k3.other (keep y hyx), p, (keep y hyx p).1 k4⟩
    · by_cases hyx : y = x
      · subst hyx
        exact setE_mem hi
      · obtain ⟨e, he, k1⟩ := hc.all j y ((keep y hyx j).2 hy)
        obtain ⟨p, hp⟩ := List.getElem?_of_mem he
        obtain ⟨e', h1, h2⟩ := setE_mem (i := i) (v := .int .u64 ((v ||| 2 ^ at_ : Nat) : Int)) hp
        exact ⟨e', h1, h2.trans k1⟩
  · have hn : ∀ j, f j ≠ some x := fun j e => hh ⟨j, e⟩
    refine ⟨_, _, 0, ck, _, ck + 1, asg_not h hx (hc.not hn) _, ⟨fun e he => ?_, fun j y hy => ?_⟩, by omega⟩
    · rcases List.mem_append.1 he with h1 | h1
      · obtain ⟨y, v', k1, k2, k3, p, k4⟩ := hc.each e h1
        have hyx : y ≠ x := fun e9 => hn p (by rw [k4, e9])
        exact ⟨y, v', k1, k2, k3.other (keep y hyx), p, (keep y hyx p).1 k4⟩
      · rw [List.mem_singleton] at h1
        subst h1
        exact ⟨x, 0 ||| 2 ^ at_, rfl, rfl, (Mx.Sp.zero hn).one ha, at_, Mx.upd_at _ _ _⟩
    · by_cases hyx : y = x
      · subst hyx
        exact ⟨_, List.mem_append.2 (.inr (List.mem_singleton.2 rfl)), rfl⟩
      · obtain ⟨e, he, k1⟩ := hc.all j y ((keep y hyx j).2 hy)
        exact ⟨e, List.mem_append.2 (.inl he), k1⟩

/-- a place struck: what is left of its block's entry -/
theorem cont_less {k : TypeId} {W : World} {m : Nat} {es : List MapEntry} {ck : Nat} {f : Nat → Option B8} (h : Mp k W m es ck) (hc : Cont es f) {x : B8} {at_ : Nat} (ha : at_ < 32) (hf : f at_ = some x) {i v b : Nat} (hi : es[i]? = some ⟨B8.agg x, .int .u64 (v : Int), b⟩) (hsp : Mx.Sp f x v) {nv : Nat} (hnv : nv = v &&& (18446744073709551615 - 2 ^ at_)) :
    (nv = 0 → Cont ((setE es i (.int .u64 (nv : Int))).eraseIdx i) (Mx.upd f at_ none)) ∧ (nv ≠ 0 → Cont (setE es i (.int .u64 (nv : Int))) (Mx.upd f at_ none)) := by
  have hsn : Mx.Sp (Mx.upd f at_ none) x nv := by rw [hnv]; exact hsp.less ha
  have keep : ∀ (y : B8), y ≠ x → ∀ j, (f j = some y) ↔ (Mx.upd f at_ none j = some y) := fun y hy j => by
    by_cases hj : j = at_
    · subst hj
      rw [Mx.upd_at, hf]
      exact ⟨fun e => absurd (Option.some.inj e).symm hy, fun e => (by cases e)⟩
    · rw [Mx.upd_ne f _ hj]
  have apart : ∀ (j : Nat) (e : MapEntry), j ≠ i → es[j]? = some e → ∃ y v', e.key = B8.agg y ∧ e.val = .int .u64 ((v' : Nat) : Int) ∧ Mx.Sp (Mx.upd f at_ none) y v' ∧ (∃ p, Mx.upd f at_ none p = some y) ∧ y ≠ x := fun j e hj h1 => by
    obtain ⟨y, v', k1, k2, k3, p, k4⟩ := hc.each e (List.mem_of_getElem? h1)
    have hyx : y ≠ x := fun e9 => by
      subst e9
      have q1 : (es.map (·.key))[i]? = some (B8.agg y) := by rw [List.getElem?_map, hi]; rfl
      have q2 : (es.map (·.key))[j]? = some (B8.agg y) := by rw [List.getElem?_map, h1, Option.map_some, k1]
      exact hj (nodup_inj h.nd q2 q1)
    exact ⟨y, v', k1, k2, k3.other (keep y hyx), ⟨p, (keep y hyx p).1 k4⟩, hyx⟩
  have back : ∀ (j : Nat) (y : B8), Mx.upd f at_ none j = some y → f j = some y := fun j y hy => by
    by_cases hj : j = at_
    · subst hj
      rw [Mx.upd_at] at hy
      cases hy
    · rwa [Mx.upd_ne f _ hj] at hy
  constructor
  · intro h0
    have hno := hsn.pos.1 h0
    refine ⟨fun e he => ?_, fun j y hy => ?_⟩
    · obtain ⟨p, hp⟩ := List.getElem?_of_mem he
      rw [List.getElem?_eraseIdx] at hp
      have hq : ∃ q, q ≠ i ∧ (setE es i (.int .u64 (nv : Int)))[q]? = some e := by
        split at hp
        · exact ⟨p, by omega, hp⟩
        · exact ⟨p + 1, by omega, hp⟩
      obtain ⟨q, hq1, hq2⟩ := hq
      unfold setE at hq2
      rw [List.getElem?_modify] at hq2
      have hiq : ¬ i = q := fun e9 => hq1 e9.symm
      have hq3 : es[q]? = some e := by
        cases hx : es[q]? with
        | none => rw [hx] at hq2; simp at hq2
        | some x0 => rw [hx] at hq2; simp [hiq] at hq2; rw [hq2]
      obtain ⟨y, v', k1, k2, k3, k4, _⟩ := apart q e hq1 hq3
      exact ⟨y, v', k1, k2, k3, k4⟩
    · have hyx : y ≠ x := fun e9 => hno j (by rw [← e9]; exact hy)
      obtain ⟨e, he, k1⟩ := hc.all j y (back j y hy)
      obtain ⟨q, hq⟩ := List.getElem?_of_mem he
      have hqi : q ≠ i := fun e9 => by
        subst e9
        rw [hi] at hq
        cases hq
        exact hyx (B8.agg_inj k1).symm
      have hiq : ¬ i = q := fun e9 => hqi e9.symm
      have hs : (setE es i (.int .u64 (nv : Int)))[q]? = some e := by unfold setE; rw [List.getElem?_modify, hq]; simp [hiq]
      refine ⟨e, ?_, k1⟩
      rcases Nat.lt_or_gt_of_ne hqi with hlt | hgt
      · exact List.mem_of_getElem? (i := q) (by rw [List.getElem?_eraseIdx, if_pos hlt]; exact hs)
      · exact List.mem_of_getElem? (i := q - 1) (by rw [List.getElem?_eraseIdx, if_neg (by omega), Nat.sub_add_cancel (by omega)]; exact hs)
  · intro h0
    have hyes : ∃ p, Mx.upd f at_ none p = some x := by
      apply Classical.byContradiction
      intro hcon
      exact h0 (hsn.pos.2 (fun i e => hcon ⟨i, e⟩))
    refine ⟨fun e he => ?_, fun j y hy => ?_⟩
    · rcases mem_setE he with ⟨e0, h1, rfl⟩ | ⟨j, hj, h1⟩
      · rw [hi] at h1
        cases h1
        exact ⟨x, nv, rfl, rfl, hsn, hyes⟩
      · obtain ⟨y, v', k1, k2, k3, k4, _⟩ := apart j e hj h1
        exact ⟨y, v', k1, k2, k3, k4⟩
    · obtain ⟨e, he, k1⟩ := hc.all j y (back j y hy)
      obtain ⟨q, hq⟩ := List.getElem?_of_mem he
      obtain ⟨e', h1, h2⟩ := setE_mem (i := i) (v := .int .u64 (nv : Int)) hq
      exact ⟨e', h1, h2.trans k1⟩

end Go.Proofs.YtfbmaemnbolplaaDoor
