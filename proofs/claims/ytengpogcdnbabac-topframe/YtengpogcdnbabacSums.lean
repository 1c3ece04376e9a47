/-
  What the two sums do: the document's answer's (mixed, SumOf) and the program's (Sum): each answers the register's number, and turns nothing in memory.
-/
import Derived.Test.YtengpogcdnbabacRows
import Derived.Test.YtengpogcdnbabacMath
import Derived.WalkKit
import Derived.WalkSpells
import Derived.WalkLawsBesides
import Derived.Deep.QuietTactic
import Derived.BigQuiet
namespace Go.Proofs.Ytengpogcdnbabac
open Go.RowKit

theorem hide {p : Prop} (h : p) : Hid p := h
theorem unhide {p : Prop} (h : Hid p) : p := h

/-- 2 to the 32nd, behind a name -/
def m32 : Nat := 4294967296
theorem m32_def : m32 = 4294967296 := rfl

theorem mixed_step (x k D O : Nat) (hD : D = 2 ^ k) (hO : O = (x ^^^ Mx.poly) % D) (hlt : D < 4294967296) :
    D * 2 = 2 ^ (k + 1) ∧ k < 32 ∧
    (((x : Int) / (D : Int) % 2 != (3988292384 : Int) / (D : Int) % 2) = true → O + D = (x ^^^ Mx.poly) % (D * 2)) ∧
    (((x : Int) / (D : Int) % 2 != (3988292384 : Int) / (D : Int) % 2) = false → O = (x ^^^ Mx.poly) % (D * 2)) ∧ D * 2 ≤ 4294967296 := by
  have e := Mx.xor_mod_succ x Mx.poly k
  have h32 : k < 32 := by
    rcases Nat.lt_or_ge k 32 with h | h
    · exact h
    · have := Nat.pow_le_pow_right (n := 2) (by omega) h
      omega
  have hp : D * 2 = 2 ^ (k + 1) := by rw [hD, Nat.pow_succ]
  rw [← hp, ← hD, ← hO] at e
  have c1 : (x : Int) / (D : Int) % 2 = ((x / D % 2 : Nat) : Int) := by simp
  have c2 : (3988292384 : Int) / (D : Int) % 2 = ((Mx.poly / D % 2 : Nat) : Int) := by
    rw [show (3988292384 : Int) = ((Mx.poly : Nat) : Int) from rfl]
    generalize Mx.poly = P
    simp
  rw [c1, c2]
  refine ⟨hp, h32, ?_, ?_, ?_⟩
  · intro h
    rw [e, if_neg]
    intro h2
    rw [h2] at h
    simp at h
  · intro h
    rw [e, if_pos]
    · rfl
    · simp at h
      omega
  · have := Nat.pow_le_pow_right (n := 2) (by omega) (show k + 1 ≤ 32 by omega)
    omega

theorem mixed_end (x k D O : Nat) (hD : D = 2 ^ k) (hO : O = (x ^^^ Mx.poly) % D) (hk : k ≤ 32) (hge : 4294967296 ≤ D) (hx : x < 4294967296) : O = x ^^^ Mx.poly := by
  have h32 : k = 32 := by
    rcases Nat.lt_or_ge k 32 with h | h
    · have := Nat.pow_le_pow_right (n := 2) (by omega) (show k ≤ 31 by omega)
      omega
    · omega
  subst h32
  rw [hO, hD]
  exact Nat.mod_eq_of_lt (Mx.xor_lt _ _ hx Mx.poly_lt)

/-- the slice reads as these bytes -/
def Bytes (w : World) (a : Option Addr) (len : Nat) (l : List Int) : Prop :=
  l.length = len ∧ len ≤ maxLen ∧ (∀ x ∈ l, 0 ≤ x ∧ x ≤ 255) ∧ (0 < len → ∃ b off, a = some ⟨b, off, none⟩ ∧ ∀ i, i < len → w.cell? ⟨b, off + i, none⟩ = some (.int .u8 (l.getD i 0)))

theorem Bytes.at_ {w : World} {a : Option Addr} {len : Nat} {l : List Int} (h : Bytes w a len l) (k : Nat) (hk : k < len) :
    ∃ b off, ∃ c : Nat, a = some ⟨b, off, none⟩ ∧ c ≤ 255 ∧ l.getD k 0 = (c : Int) ∧ w.cell? ⟨b, off + k, none⟩ = some (.int .u8 (c : Int)) ∧ l.take (k + 1) = l.take k ++ [(c : Int)] := by
  obtain ⟨h1, h2, h3, h4⟩ := h
  obtain ⟨b, off, ha, hc⟩ := h4 (by omega)
  have hkl : k < l.length := by omega
  have hm := h3 (l.getD k 0) (by rw [List.getD_eq_getElem?_getD, List.getElem?_eq_getElem hkl]; exact List.getElem_mem hkl)
  obtain ⟨c, hcc⟩ := Int.eq_ofNat_of_zero_le hm.1
  refine ⟨b, off, c, ha, by omega, hcc, by rw [hc k hk, hcc], ?_⟩
  rw [List.take_succ_eq_append_getElem hkl]
  rw [List.getD_eq_getElem?_getD, List.getElem?_eq_getElem hkl] at hcc
  simp at hcc
  rw [hcc]

theorem sum_step (X c j D Y : Nat) (hD : D = 2 ^ j) (hY : Y = Mx.refBits X c j) (hd : D < 256) :
    D * 2 = 2 ^ (j + 1) ∧ j < 8 ∧ ((((Y : Int) + (c : Int) / (D : Int)) % 2 == 1) = true → (Y / 2) ^^^ Mx.poly = Mx.refBits X c (j + 1)) ∧
    ((((Y : Int) + (c : Int) / (D : Int)) % 2 == 1) = false → Y / 2 = Mx.refBits X c (j + 1)) ∧ D * 2 ≤ 256 := by
  have h8 : j < 8 := by
    rcases Nat.lt_or_ge j 8 with h | h
    · exact h
    · have := Nat.pow_le_pow_right (n := 2) (by omega) h
      omega
  have hc : ((Y : Int) + (c : Int) / (D : Int)) % 2 = (((Y + c / D) % 2 : Nat) : Int) := by simp
  rw [hc]
  refine ⟨by rw [hD, Nat.pow_succ], h8, ?_, ?_, ?_⟩
  · intro h
    rw [Mx.refBits, Mx.refBit, ← hY, ← hD, if_pos]
    simp at h
    omega
  · intro h
    rw [Mx.refBits, Mx.refBit, ← hY, ← hD, if_neg]
    simp at h
    omega
  · have := Nat.pow_le_pow_right (n := 2) (by omega) (show j + 1 ≤ 8 by omega)
    rw [hD, ← Nat.pow_succ]
    omega

theorem sum_end (X c j D Y : Nat) (hD : D = 2 ^ j) (hY : Y = Mx.refBits X c j) (hj : j ≤ 8) (hd : 256 ≤ D) : j = 8 ∧ Y = Mx.refBits X c 8 := by
  have h8 : j = 8 := by
    rcases Nat.lt_or_ge j 8 with h | h
    · have := Nat.pow_le_pow_right (n := 2) (by omega) (show j ≤ 7 by omega)
      omega
    · omega
  subst h8
  exact ⟨rfl, hY⟩

end Go.Proofs.Ytengpogcdnbabac
