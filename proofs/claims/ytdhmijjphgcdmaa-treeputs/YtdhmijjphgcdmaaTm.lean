/-
  Digests: plain mathematics. One byte of a digest, as the program takes it in and as the document's answer does.
-/
import Derived.Test.YtdhmijjphgcdmaaSum
namespace Go.Proofs.Ytdhmijjphgcdmaa
namespace Mx

/-- one byte more of a digest -/
def dstep (h c : Nat) : Nat := ((h ^^^ c) * 1099511628211) % 18446744073709551616
/-- the digest of bytes -/
def dfold (h : Nat) (l : List Int) : Nat := l.foldl (fun h c => dstep h c.toNat) h
def digest (l : List Int) : Nat := dfold 14695981039346656037 l
theorem dfold_snoc (h : Nat) (l : List Int) (c : Int) : dfold h (l ++ [c]) = dstep (dfold h l) c.toNat := by unfold dfold; rw [List.foldl_append, List.foldl_cons, List.foldl_nil]
theorem dstep_lt (h c : Nat) : dstep h c < 18446744073709551616 := by unfold dstep; exact Nat.mod_lt _ (by decide)
theorem dfold_lt (h : Nat) (l : List Int) (hh : h < 18446744073709551616) : dfold h l < 18446744073709551616 := by
  induction l generalizing h with
  | nil => exact hh
  | cons c l ih =>
    unfold dfold at ih ⊢
    rw [List.foldl_cons]
    exact ih _ (dstep_lt _ _)
theorem digest_lt (l : List Int) : digest l < 18446744073709551616 := by unfold digest; exact dfold_lt _ _ (by decide)
theorem xor64_lt (a b : Nat) (ha : a < 18446744073709551616) (hb : b < 18446744073709551616) : a ^^^ b < 18446744073709551616 := Nat.xor_lt_two_pow (n := 64) ha hb

/-- a number and its lowest eight bits with others in their place -/
theorem xor_low (h c : Nat) (hc : c < 256) : h ^^^ c = h - h % 256 + ((h % 256) ^^^ c) := by
  have e : h ^^^ c = 256 * ((h ^^^ c) / 256) + (h ^^^ c) % 256 := (Nat.div_add_mod _ _).symm
  have e1 : (h ^^^ c) / 256 = h / 256 := by
    have := Nat.shiftRight_xor_distrib (a := h) (b := c) (i := 8)
    simp only [Nat.shiftRight_eq_div_pow] at this
    rw [show (2 : Nat) ^ 8 = 256 from rfl] at this
    rw [this, Nat.div_eq_of_lt hc, Nat.xor_zero]
  have e2 : (h ^^^ c) % 256 = (h % 256) ^^^ c := by
    have := Nat.xor_mod_two_pow (a := h) (b := c) (n := 8)
    rw [show (2 : Nat) ^ 8 = 256 from rfl] at this
    rw [this, Nat.mod_eq_of_lt hc]
  rw [e, e1, e2]
  have := Nat.div_add_mod h 256
  omega

/-- the exclusive or, bit by bit, up to some of them -/
theorem xor_bit (x y k D : Nat) (hD : D = 2 ^ k) : (x ^^^ y) % (2 * D) = (x ^^^ y) % D + (if x / D % 2 ≠ y / D % 2 then D else 0) := by
  subst hD
  rw [show 2 * 2 ^ k = 2 ^ k * 2 by omega, Nat.mod_mul]
  have h1 : (x ^^^ y) / 2 ^ k % 2 = (x / 2 ^ k + y / 2 ^ k) % 2 := by
    have := Nat.shiftRight_xor_distrib (a := x) (b := y) (i := k)
    simp only [Nat.shiftRight_eq_div_pow] at this
    rw [this, xor_mod_two]
  rw [h1]
  split
  · rename_i h
    have : (x / 2 ^ k + y / 2 ^ k) % 2 = 1 := by omega
    rw [this, Nat.mul_one]
  · rename_i h
    have : (x / 2 ^ k + y / 2 ^ k) % 2 = 0 := by omega
    rw [this, Nat.mul_zero]
end Mx

end Go.Proofs.Ytdhmijjphgcdmaa
