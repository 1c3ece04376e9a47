/-
  What the two sums do: the document's answer's (mixed, SumOf) and the program's (Sum): each answers the register's number, and turns nothing in memory.
-/
import Derived.WalkKit
import Derived.WalkSpells
import Derived.WalkLawsBesides
import Derived.Deep.QuietTactic
import Derived.BigQuiet
import Derived.Test.YtfbmaemnbolplaaDoorRows
import Derived.Test.YtfbmaemnbolplaaDoorZMath

namespace Go.Proofs.YtfbmaemnbolplaaDoor
open Go.RowKit

theorem hide {p : Prop} (h : p) : Hid p := h
theorem unhide {p : Prop} (h : Hid p) : p := h

/-- 2 to the 32nd, behind a name -/
def m32 : Nat := 4294967296
theorem m32_def : m32 = 4294967296 := rfl

theorem mixed_step (x k D O : Nat) (hD : D = 2 ^ k) (hO : O = (x ^^^ Mx.poly) % D) (hlt : D < 4294967296) :
    D * 2 = 2 ^ (k + 1) ∧ k < 32 ∧
    (((x : Int) / (D : Int) % 2 != (3988292384 : Int) / (D : Int) % 2) = true → O + D = (x ^^^ Mx.poly) % (D * 2)) ∧
    (((x : Int) / (D : Int) % 2 != (3988292384 : Int) / (D : Int) % 2) = false → O = (x ^^^ Mx.poly) % (D * 2)) ∧ D * 2 ≤ 4294967296 := by
  have e := Mx.xor_mod_succ x Mx.poly k
  have h32 : k < 32 := by
    rcases Nat.lt_or_ge k 32 with h | h
    · exact h
    · have := Nat.pow_le_pow_right (n := 2) (by omega) h
      omega
  have hp : D * 2 = 2 ^ (k + 1) := by rw [hD, Nat.pow_succ]
  rw [← hp, ← hD, ← hO] at e
  have c1 : (x : Int) / (D : Int) % 2 = ((x / D % 2 : Nat) : Int) := by simp
  have c2 : (3988292384 : Int) / (D : Int) % 2 = ((Mx.poly / D % 2 : Nat) : Int) := by
    rw [show (3988292384 : Int) = ((Mx.poly : Nat) : Int) from rfl]
    generalize Mx.poly = P
    simp
  rw [c1, c2]
  refine ⟨hp, h32, ?_, ?_, ?_⟩
  · intro h
    rw [e, if_neg]
    intro h2
    rw [h2] at h
    simp at h
  · intro h
    rw [e, if_pos]
    · rfl
    · simp at h
      omega
  · have := Nat.pow_le_pow_right (n := 2) (by omega) (show k + 1 ≤ 32 by omega)
    omega

theorem mixed_end (x k D O : Nat) (hD : D = 2 ^ k) (hO : O = (x ^^^ Mx.poly) % D) (hk : k ≤ 32) (hge : 4294967296 ≤ D) (hx : x < 4294967296) : O = x ^^^ Mx.poly := by
  have h32 : k = 32 := by
    rcases Nat.lt_or_ge k 32 with h | h
    · have := Nat.pow_le_pow_right (n := 2) (by omega) (show k ≤ 31 by omega)
      omega
    · omega
  subst h32
  rw [hO, hD]
  exact Nat.mod_eq_of_lt (Mx.xor_lt _ _ hx Mx.poly_lt)

/-- the slice reads as these bytes -/
def Bytes (w : World) (a : Option Addr) (len : Nat) (l : List Int) : Prop :=
  l.length = len ∧ len ≤ maxLen ∧ (∀ x ∈ l, 0 ≤ x ∧ x ≤ 255) ∧ (0 < len → ∃ b off, a = some ⟨b, off, none⟩ ∧ ∀ i, i < len → w.cell? ⟨b, off + i, none⟩ = some (.int .u8 (l.getD i 0)))

theorem Bytes.at_ {w : World} {a : Option Addr} {len : Nat} {l : List Int} (h : Bytes w a len l) (k : Nat) (hk : k < len) :
    ∃ b off, ∃ c : Nat, a = some ⟨b, off, none⟩ ∧ c ≤ 255 ∧ l.getD k 0 = (c : Int) ∧ w.cell? ⟨b, off + k, none⟩ = some (.int .u8 (c : Int)) ∧ l.take (k + 1) = l.take k ++ [(c : Int)] := by
  obtain ⟨h1, h2, h3, h4⟩ := h
  obtain ⟨b, off, ha, hc⟩ := h4 (by omega)
  have hkl : k < l.length := by omega
  have hm := h3 (l.getD k 0) (by rw [List.getD_eq_getElem?_getD, List.getElem?_eq_getElem hkl]; exact List.getElem_mem hkl)
  obtain ⟨c, hcc⟩ := Int.eq_ofNat_of_zero_le hm.1
  refine ⟨b, off, c, ha, by omega, hcc, by rw [hc k hk, hcc], ?_⟩
  rw [List.take_succ_eq_append_getElem hkl]
  rw [List.getD_eq_getElem?_getD, List.getElem?_eq_getElem hkl] at hcc
  simp at hcc
  rw [hcc]

theorem sum_step (X c j D Y : Nat) (hD : D = 2 ^ j) (hY : Y = Mx.refBits X c j) (hd : D < 256) :
    D * 2 = 2 ^ (j + 1) ∧ j < 8 ∧ ((((Y : Int) + (c : Int) / (D : Int)) % 2 == 1) = true → (Y / 2) ^^^ Mx.poly = Mx.refBits X c (j + 1)) ∧
    ((((Y : Int) + (c : Int) / (D : Int)) % 2 == 1) = false → Y / 2 = Mx.refBits X c (j + 1)) ∧ D * 2 ≤ 256 := by
  have h8 : j < 8 := by
    rcases Nat.lt_or_ge j 8 with h | h
    · exact h
    · have := Nat.pow_le_pow_right (n := 2) (by omega) h
      omega
  have hc : ((Y : Int) + (c : Int) / (D : Int)) % 2 = (((Y + c / D) % 2 : Nat) : Int) := by simp
  rw [hc]
  refine ⟨by rw [hD, Nat.pow_succ], h8, ?_, ?_, ?_⟩
  · intro h
    rw [Mx.refBits, Mx.refBit, ← hY, ← hD, if_pos]
    simp at h
    omega
  · intro h
    rw [Mx.refBits, Mx.refBit, ← hY, ← hD, if_neg]
    simp at h
    omega
  · have := Nat.pow_le_pow_right (n := 2) (by omega) (show j + 1 ≤ 8 by omega)
    rw [hD, ← Nat.pow_succ]
    omega

theorem sum_end (X c j D Y : Nat) (hD : D = 2 ^ j) (hY : Y = Mx.refBits X c j) (hj : j ≤ 8) (hd : 256 ≤ D) : j = 8 ∧ Y = Mx.refBits X c 8 := by
  have h8 : j = 8 := by
    rcases Nat.lt_or_ge j 8 with h | h
    · have := Nat.pow_le_pow_right (n := 2) (by omega) (show j ≤ 7 by omega)
      omega
    · omega
  subst h8
  exact ⟨rfl, hY⟩

end Go.Proofs.YtfbmaemnbolplaaDoor

/-
  What the program's own sum does (Sum): it answers the register's number, and turns nothing in memory.
-/
namespace Go.Proofs.YtfbmaemnbolplaaDoor
open Go.RowKit

theorem u32_low (Y : Nat) (h : Y < 4294967296) : bits .and .u32 (Y : Int) 1 = ((Y % 2 : Nat) : Int) := by
  have e := u32_and_nat Y 1 h (by omega)
  rw [Nat.and_one_is_mod] at e
  exact e

theorem u32_mix (Y : Nat) (h : Y < 4294967296) : bits .xor .u32 ((Y : Int) / 2) 3988292384 = (((Y / 2) ^^^ Mx.poly : Nat) : Int) := by
  rw [show (Y : Int) / 2 = ((Y / 2 : Nat) : Int) by omega, show (3988292384 : Int) = ((Mx.poly : Nat) : Int) from rfl]
  exact u32_xor_nat _ _ (by omega) Mx.poly_lt

theorem u32_not (X : Nat) (h : X < 4294967296) : bits .xor .u32 (if IntKind.u32.signed = true then -1 else IntKind.u32.max) (X : Int) = ((4294967295 - X : Nat) : Int) := by
  have e := u32_xor_nat 4294967295 X (by omega) h
  rw [show (if IntKind.u32.signed = true then (-1 : Int) else IntKind.u32.max) = ((4294967295 : Nat) : Int) from rfl, e]
  congr 1
  apply Nat.eq_of_testBit_eq
  intro i
  have h1 := Nat.testBit_two_pow_sub_succ (n := 32) h i
  rw [show 2 ^ 32 - (X + 1) = 4294967295 - X by omega] at h1
  have h2 := Nat.testBit_two_pow_sub_one 32 i
  rw [show 2 ^ 32 - 1 = 4294967295 by rfl] at h2
  rw [Nat.testBit_xor, h1, h2]
  by_cases hi : i < 32
  · simp [hi]
  · have : X.testBit i = false := Nat.testBit_lt_two_pow (Nat.lt_of_lt_of_le h (by
      have : 2 ^ 32 ≤ 2 ^ i := Nat.pow_le_pow_right (by omega) (by omega)
      omega))
    simp [hi, this]

end Go.Proofs.YtfbmaemnbolplaaDoor

/-
  Whether a frame may be: the document's answer (FrameMay) and the program's (Check) answer the same number; nothing that was there is turned.
-/
namespace Go.Proofs.YtfbmaemnbolplaaDoor
open Go.RowKit

namespace Mx
def badNum (x : Int) : Bool := decide (x < 0) || decide (2147483647 < x)
/-- A1's error, as a number (0: none) -/
def may (kind : Int) (nums : List Int) (nb : Nat) : Int :=
  if kind < 0 ∨ 15 < kind then 1 else if 12 < nums.length ∨ 32 < nb then 2 else if nums.any badNum then 1 else 0
theorem may_kind {kind : Int} {nums : List Int} {nb : Nat} (h : kind < 0 ∨ 15 < kind) : may kind nums nb = 1 := by unfold may; rw [if_pos h]
theorem may_long {kind : Int} {nums : List Int} {nb : Nat} (h : ¬ (kind < 0 ∨ 15 < kind)) (h2 : 12 < nums.length ∨ 32 < nb) : may kind nums nb = 2 := by unfold may; rw [if_neg h, if_pos h2]
theorem may_bad {kind : Int} {nums : List Int} {nb : Nat} (h : ¬ (kind < 0 ∨ 15 < kind)) (h2 : ¬ (12 < nums.length ∨ 32 < nb)) (k : Nat) (hk : k < nums.length) (h3 : badNum (nums.getD k 0) = true) : may kind nums nb = 1 := by
  unfold may
  rw [if_neg h, if_neg h2, if_pos]
  rw [List.any_eq_true]
  rw [List.getD_eq_getElem?_getD, List.getElem?_eq_getElem hk] at h3
  exact ⟨nums[k], List.getElem_mem hk, h3⟩
theorem may_ok {kind : Int} {nums : List Int} {nb : Nat} (h : ¬ (kind < 0 ∨ 15 < kind)) (h2 : ¬ (12 < nums.length ∨ 32 < nb)) (h3 : ∀ j, j < nums.length → badNum (nums.getD j 0) = false) : may kind nums nb = 0 := by
  unfold may
  rw [if_neg h, if_neg h2, if_neg]
  rw [List.any_eq_true]
  rintro ⟨x, hx, hb⟩
  obtain ⟨i, hi, rfl⟩ := List.getElem_of_mem hx
  have := h3 i hi
  rw [List.getD_eq_getElem?_getD, List.getElem?_eq_getElem hi] at this
  simp only [Option.getD_some] at this
  rw [hb] at this
  cases this
end Mx

/-- the slice reads as these numbers -/
def Ints (w : World) (a : Option Addr) (len : Nat) (l : List Int) : Prop :=
  l.length = len ∧ len ≤ maxLen ∧ (0 < len → ∃ b off, a = some ⟨b, off, none⟩ ∧ b < w.heap.size ∧ ∀ i, i < len → w.cell? ⟨b, off + i, none⟩ = some (.int .i64 (l.getD i 0)))

theorem Ints.at_ {w : World} {a : Option Addr} {len : Nat} {l : List Int} (h : Ints w a len l) (k : Nat) (hk : k < len) :
    ∃ b off, ∃ x : Int, a = some ⟨b, off, none⟩ ∧ b < w.heap.size ∧ l.getD k 0 = x ∧ w.cell? ⟨b, off + k, none⟩ = some (.int .i64 x) := by
  obtain ⟨b, off, ha, hb, hc⟩ := h.2.2 (by omega)
  exact ⟨b, off, _, ha, hb, rfl, hc k hk⟩

end Go.Proofs.YtfbmaemnbolplaaDoor

/-
  Whether a frame may be: the program's own answer (Check): the error of that number; nothing that was there is turned.
-/
namespace Go.Proofs.YtfbmaemnbolplaaDoor
open Go.RowKit

/-- an error of that number, or none -/
def errV (n : Int) : Value := if n = 0 then .nilIface else .iface 34 (.int .i64 n)

end Go.Proofs.YtfbmaemnbolplaaDoor

/-
  Digests: plain mathematics. One byte of a digest, as the program takes it in and as the document's answer does.
-/
namespace Go.Proofs.YtfbmaemnbolplaaDoor
namespace Mx

/-- one byte more of a digest -/
def dstep (h c : Nat) : Nat := ((h ^^^ c) * 1099511628211) % 18446744073709551616
/-- the digest of bytes -/
def dfold (h : Nat) (l : List Int) : Nat := l.foldl (fun h c => dstep h c.toNat) h
def digest (l : List Int) : Nat := dfold 14695981039346656037 l
theorem dfold_snoc (h : Nat) (l : List Int) (c : Int) : dfold h (l ++ [c]) = dstep (dfold h l) c.toNat := by unfold dfold; rw [List.foldl_append, List.foldl_cons, List.foldl_nil]
theorem dstep_lt (h c : Nat) : dstep h c < 18446744073709551616 := by unfold dstep; exact Nat.mod_lt _ (by decide)
theorem dfold_lt (h : Nat) (l : List Int) (hh : h < 18446744073709551616) : dfold h l < 18446744073709551616 := by
  induction l generalizing h with
  | nil => exact hh
  | cons c l ih =>
    unfold dfold at ih ⊢
    rw [List.foldl_cons]
    exact ih _ (dstep_lt _ _)
theorem digest_lt (l : List Int) : digest l < 18446744073709551616 := by unfold digest; exact dfold_lt _ _ (by decide)
theorem xor64_lt (a b : Nat) (ha : a < 18446744073709551616) (hb : b < 18446744073709551616) : a ^^^ b < 18446744073709551616 := Nat.xor_lt_two_pow (n := 64) ha hb

/-- a number and its lowest eight bits with others in their place -/
theorem xor_low (h c : Nat) (hc : c < 256) : h ^^^ c = h - h % 256 + ((h % 256) ^^^ c) := by
  have e : h ^^^ c = 256 * ((h ^^^ c) / 256) + (h ^^^ c) % 256 := (Nat.div_add_mod _ _).symm
  have e1 : (h ^^^ c) / 256 = h / 256 := by
    have := Nat.shiftRight_xor_distrib (a := h) (b := c) (i := 8)
    simp only [Nat.shiftRight_eq_div_pow] at this
    rw [show (2 : Nat) ^ 8 = 256 from rfl] at this
    rw [this, Nat.div_eq_of_lt hc, Nat.xor_zero]
  have e2 : (h ^^^ c) % 256 = (h % 256) ^^^ c := by
    have := Nat.xor_mod_two_pow (a := h) (b := c) (n := 8)
    rw [show (2 : Nat) ^ 8 = 256 from rfl] at this
    rw [this, Nat.mod_eq_of_lt hc]
  rw [e, e1, e2]
  have := Nat.div_add_mod h 256
  omega

/-- the exclusive or, bit by bit, up to some of them -/
theorem xor_bit (x y k D : Nat) (hD : D = 2 ^ k) : (x ^^^ y) % (2 * D) = (x ^^^ y) % D + (if x / D % 2 ≠ y / D % 2 then D else 0) := by
  subst hD
  rw [show 2 * 2 ^ k = 2 ^ k * 2 by omega, Nat.mod_mul]
  have h1 : (x ^^^ y) / 2 ^ k % 2 = (x / 2 ^ k + y / 2 ^ k) % 2 := by
    have := Nat.shiftRight_xor_distrib (a := x) (b := y) (i := k)
    simp only [Nat.shiftRight_eq_div_pow] at this
    rw [this, xor_mod_two]
  rw [h1]
  split
  · rename_i h
    have : (x / 2 ^ k + y / 2 ^ k) % 2 = 1 := by omega
    rw [this, Nat.mul_one]
  · rename_i h
    have : (x / 2 ^ k + y / 2 ^ k) % 2 = 0 := by omega
    rw [this, Nat.mul_zero]
end Mx

end Go.Proofs.YtfbmaemnbolplaaDoor

/-
  The digest of bytes: the program's (Digest), and the document's answer (DigestOf).
-/
namespace Go.Proofs.YtfbmaemnbolplaaDoor
open Go.RowKit

theorem u64_mul (Z : Nat) : IntKind.u64.wrap ((Z : Int) * 1099511628211) = (((Z * 1099511628211) % 18446744073709551616 : Nat) : Int) := by
  simp [IntKind.wrap, IntKind.signed, IntKind.bits]

theorem dig_step (L c j D M : Nat) (hD : D = 2 ^ j) (hM : M = (L ^^^ c) % D) (hd : D < 256) :
    D * 2 = 2 ^ (j + 1) ∧ j < 8 ∧ D * 2 ≤ 256 ∧ (L / D % 2 ≠ c / D % 2 → M + D = (L ^^^ c) % (D * 2)) ∧ (L / D % 2 = c / D % 2 → M = (L ^^^ c) % (D * 2)) ∧ M < D := by
  have h8 : j < 8 := by
    rcases Nat.lt_or_ge j 8 with h | h
    · exact h
    · have := Nat.pow_le_pow_right (n := 2) (by omega) h
      omega
  have hb := Mx.xor_bit L c j D hD
  have hp : 0 < D := by rw [hD]; exact Nat.pow_pos (by omega)
  refine ⟨by rw [hD, Nat.pow_succ], h8, ?_, fun h => ?_, fun h => ?_, by rw [hM]; exact Nat.mod_lt _ hp⟩
  · have := Nat.pow_le_pow_right (n := 2) (by omega) (show j + 1 ≤ 8 by omega)
    rw [hD, ← Nat.pow_succ]
    omega
  · rw [Nat.mul_comm, hb, if_pos h, hM]
  · rw [Nat.mul_comm, hb, if_neg (fun hn => hn h), hM, Nat.add_zero]

theorem dig_end (L c j D M : Nat) (hD : D = 2 ^ j) (hM : M = (L ^^^ c) % D) (hj : j ≤ 8) (hd : 256 ≤ D) (hL : L < 256) (hc : c < 256) : M = L ^^^ c := by
  have h8 : j = 8 := by
    rcases Nat.lt_or_ge j 8 with h | h
    · have := Nat.pow_le_pow_right (n := 2) (by omega) (show j ≤ 7 by omega)
      omega
    · omega
  subst h8
  rw [hM, hD]
  exact Nat.mod_eq_of_lt (Nat.xor_lt_two_pow (n := 8) hL hc)

end Go.Proofs.YtfbmaemnbolplaaDoor
