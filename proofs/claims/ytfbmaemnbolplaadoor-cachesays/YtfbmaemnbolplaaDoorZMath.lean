/-
  Plain mathematics for the frame's statements: the sum (a cyclic redundancy check) as the document's answer reckons it and as the program does, and that both are one. No program is named here.
-/

namespace Go.Proofs.YtfbmaemnbolplaaDoor
namespace Mx

def poly : Nat := 3988292384

/-- one bit of the document's division -/
def refBit (x b : Nat) : Nat := if (x + b) % 2 = 1 then (x / 2) ^^^ poly else x / 2

def refBits (x c : Nat) : Nat → Nat
  | 0 => x
  | k + 1 => refBit (refBits x c k) (c / 2 ^ k)

/-- one bit of the program's -/
def impBit (y : Nat) : Nat := if y % 2 = 1 then (y / 2) ^^^ poly else y / 2

def impBits (y : Nat) : Nat → Nat
  | 0 => y
  | k + 1 => impBit (impBits y k)

/-- what stands in the register behind some bytes -/
def reg (x : Nat) (l : List Int) : Nat := l.foldl (fun x c => refBits x c.toNat 8) x

def crc (l : List Int) : Nat := 4294967295 - reg 4294967295 l

theorem xor_div_two (a b : Nat) : (a ^^^ b) / 2 = (a / 2) ^^^ (b / 2) := by
  apply Nat.eq_of_testBit_eq
  intro i
  simp [Nat.testBit_div_two, Nat.testBit_xor]

theorem xor_mod_two (a b : Nat) : (a ^^^ b) % 2 = (a + b) % 2 := by
  have h := Nat.testBit_xor a b 0
  simp only [Nat.testBit_zero] at h
  rcases Nat.mod_two_eq_zero_or_one a with ha | ha <;> rcases Nat.mod_two_eq_zero_or_one b with hb | hb <;>
    rcases Nat.mod_two_eq_zero_or_one (a ^^^ b) with hc | hc <;> simp [ha, hb, hc] at h <;> omega

theorem xor_swap (a b c : Nat) : (a ^^^ b) ^^^ c = (a ^^^ c) ^^^ b := by
  rw [Nat.xor_assoc, Nat.xor_comm b c, ← Nat.xor_assoc]

theorem impBit_xor (x d : Nat) : impBit (x ^^^ d) = refBit x d ^^^ (d / 2) := by
  unfold impBit refBit
  rw [xor_mod_two, xor_div_two]
  by_cases h : (x + d) % 2 = 1
  · rw [if_pos h, if_pos h, xor_swap]
  · rw [if_neg h, if_neg h]

theorem impBits_xor (x c : Nat) (k : Nat) : impBits (x ^^^ c) k = refBits x c k ^^^ (c / 2 ^ k) := by
  induction k with
  | zero => simp [impBits, refBits]
  | succ k ih =>
    rw [impBits, refBits, ih, impBit_xor, Nat.div_div_eq_div_mul, Nat.pow_succ]

theorem impBits_eight (x c : Nat) (h : c < 256) : impBits (x ^^^ c) 8 = refBits x c 8 := by
  rw [impBits_xor, Nat.div_eq_of_lt (by simpa using h), Nat.xor_zero]

theorem poly_lt : poly < 4294967296 := by decide

theorem xor_lt (a b : Nat) (ha : a < 4294967296) (hb : b < 4294967296) : a ^^^ b < 4294967296 :=
  Nat.xor_lt_two_pow (n := 32) ha hb

theorem refBit_lt (x b : Nat) (h : x < 4294967296) : refBit x b < 4294967296 := by
  unfold refBit
  split
  · exact xor_lt _ _ (by omega) poly_lt
  · omega

theorem impBit_lt (x : Nat) (h : x < 4294967296) : impBit x < 4294967296 := by
  unfold impBit
  split
  · exact xor_lt _ _ (by omega) poly_lt
  · omega

theorem refBits_lt (x c k : Nat) (h : x < 4294967296) : refBits x c k < 4294967296 := by
  induction k with
  | zero => exact h
  | succ k ih => exact refBit_lt _ _ ih

theorem impBits_lt (x k : Nat) (h : x < 4294967296) : impBits x k < 4294967296 := by
  induction k with
  | zero => exact h
  | succ k ih => exact impBit_lt _ ih

theorem reg_lt (x : Nat) (l : List Int) (h : x < 4294967296) : reg x l < 4294967296 := by
  unfold reg
  induction l generalizing x with
  | nil => exact h
  | cons c l ih => exact ih _ (refBits_lt _ _ _ h)

theorem reg_snoc (x : Nat) (l : List Int) (c : Int) : reg x (l ++ [c]) = refBits (reg x l) c.toNat 8 := by
  simp [reg, List.foldl_append]

theorem reg_append (x : Nat) (l m : List Int) : reg x (l ++ m) = reg (reg x l) m := by
  simp [reg, List.foldl_append]

theorem crc_lt (l : List Int) : crc l < 4294967296 := by unfold crc; omega

/-- the exclusive or of two numbers, its lowest bits one by one -/
theorem xor_mod_succ (a b k : Nat) : (a ^^^ b) % 2 ^ (k + 1) = (a ^^^ b) % 2 ^ k + if a / 2 ^ k % 2 = b / 2 ^ k % 2 then 0 else 2 ^ k := by
  have e := Nat.mod_pow_succ (b := 2) (k := k) (x := a ^^^ b)
  rw [e]
  have d : (a ^^^ b) / 2 ^ k = (a / 2 ^ k) ^^^ (b / 2 ^ k) := by
    apply Nat.eq_of_testBit_eq
    intro i
    simp [Nat.testBit_div_two_pow, Nat.testBit_xor]
  rw [d, xor_mod_two]
  split
  · have : (a / 2 ^ k + b / 2 ^ k) % 2 = 0 := by omega
    rw [this, Nat.mul_zero]
  · have : (a / 2 ^ k + b / 2 ^ k) % 2 = 1 := by omega
    rw [this]; simp

end Mx
end Go.Proofs.YtfbmaemnbolplaaDoor
