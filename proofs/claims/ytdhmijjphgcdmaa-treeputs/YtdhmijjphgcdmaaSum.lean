/-
  What the program's own sum does (Sum): it answers the register's number, and turns nothing in memory.
-/
import Derived.Test.YtdhmijjphgcdmaaSums
namespace Go.Proofs.Ytdhmijjphgcdmaa
open Go.RowKit

theorem u32_low (Y : Nat) (h : Y < 4294967296) : bits .and .u32 (Y : Int) 1 = ((Y % 2 : Nat) : Int) := by
  have e := u32_and_nat Y 1 h (by omega)
  rw [Nat.and_one_is_mod] at e
  exact e

theorem u32_mix (Y : Nat) (h : Y < 4294967296) : bits .xor .u32 ((Y : Int) / 2) 3988292384 = (((Y / 2) ^^^ Mx.poly : Nat) : Int) := by
  rw [show (Y : Int) / 2 = ((Y / 2 : Nat) : Int) by omega, show (3988292384 : Int) = ((Mx.poly : Nat) : Int) from rfl]
  exact u32_xor_nat _ _ (by omega) Mx.poly_lt

theorem u32_not (X : Nat) (h : X < 4294967296) : bits .xor .u32 (if IntKind.u32.signed = true then -1 else IntKind.u32.max) (X : Int) = ((4294967295 - X : Nat) : Int) := by
  have e := u32_xor_nat 4294967295 X (by omega) h
  rw [show (if IntKind.u32.signed = true then (-1 : Int) else IntKind.u32.max) = ((4294967295 : Nat) : Int) from rfl, e]
  congr 1
  apply Nat.eq_of_testBit_eq
  intro i
  have h1 := Nat.testBit_two_pow_sub_succ (n := 32) h i
  rw [show 2 ^ 32 - (X + 1) = 4294967295 - X by omega] at h1
  have h2 := Nat.testBit_two_pow_sub_one 32 i
  rw [show 2 ^ 32 - 1 = 4294967295 by rfl] at h2
  rw [Nat.testBit_xor, h1, h2]
  by_cases hi : i < 32
  · simp [hi]
  · have : X.testBit i = false := Nat.testBit_lt_two_pow (Nat.lt_of_lt_of_le h (by
      have : 2 ^ 32 ≤ 2 ^ i := Nat.pow_le_pow_right (by omega) (by omega)
      omega))
    simp [hi, this]

set_option maxHeartbeats 400000 in
set_option maxRecDepth 100000 in
theorem sum_any (a : Option Addr) (len cap : Nat) (l : List Int) (w : World) (hl : Bytes w a len l) :
    Calls Try.prog 22 #[.slice a len cap] w fun e w' => e = .returned (.int .u32 (Mx.crc l : Int)) ∧ w' = w := by
  have hlen : len ≤ maxLen := hl.2.1
  unfold maxLen at hlen
  have HB := hide hl
  clear hl
  go_enter Try.func22, Try.ntmps22
  go_wp2
  go_loop [3, 9] (fun x i => ∃ k X : Nat, k ≤ len ∧ Hid (X = Mx.reg 4294967295 (l.take k)) ∧ (X : Int) < 4294967296 ∧ i = .int .i64 k ∧ x = .int .u32 X)
    (fun _ i => len - (intOf i).toNat)
  case atStart => exact ⟨0, 4294967295, by omega, rfl, by omega, rfl, rfl⟩
  case round =>
    obtain ⟨k, X, hk, hX, hX2, rfl, rfl⟩ := hrel
    by_cases hlt : k < len
    · obtain ⟨b, off, c, rfl, hc1, hc2, hcell, htk⟩ := (unhide HB).at_ k hlt
      have HC := hide hc2
      have HT := hide htk
      clear hc2 htk
      go_wp2
      go_loop [3, 17] (fun x i => ∃ j Y : Nat, j ≤ 8 ∧ Hid (Y = Mx.impBits (X ^^^ c) j) ∧ (Y : Int) < 4294967296 ∧ i = .int .i64 j ∧ x = .int .u32 Y)
        (fun _ i => 8 - (intOf i).toNat)
      case atStart => exact ⟨0, X ^^^ c, by omega, rfl, by have := Mx.xor_lt X c (by omega) (by omega); omega, rfl, by rw [u32_xor_nat X c (by omega) (by omega)]⟩
      case round =>
        obtain ⟨j, Y, hj, hY, hY2, rfl, rfl⟩ := hrel
        by_cases hd : (j : Int) < 8
        · have ha := u32_low Y (by omega)
          obtain ⟨Z, hZ, hxo⟩ : ∃ Z : Nat, Hid (Z = (Y / 2) ^^^ Mx.poly) ∧ bits .xor .u32 ((Y : Int) / 2) 3988292384 = (Z : Int) := ⟨_, rfl, u32_mix Y (by omega)⟩
          by_cases hb : Y % 2 = 1
          · rw [hb] at ha
            have ST := hide (show Z = Mx.impBits (X ^^^ c) (j + 1) by rw [Mx.impBits, ← hY.out, Mx.impBit, if_pos hb, hZ.out])
            have hZ2 := hide (show Z < 4294967296 by rw [hZ.out]; exact Mx.xor_lt _ _ (by omega) Mx.poly_lt)
            clear hb
            go_wp2_with fail
            go_round
            case rel => exact ⟨j + 1, Z, by omega, ST, by have := unhide hZ2; omega, by go_num, rfl⟩
            case measure => simp [intOf]; omega
          · have hb0 : Y % 2 = 0 := by omega
            rw [hb0] at ha
            have ST := hide (show Y / 2 = Mx.impBits (X ^^^ c) (j + 1) by rw [Mx.impBits, ← hY.out, Mx.impBit, if_neg hb])
            clear hb hb0
            go_wp2_with fail
            go_round
            case rel => exact ⟨j + 1, Y / 2, by omega, ST, by omega, by go_num, by go_num⟩
            case measure => simp [intOf]; omega
        · have he : Y = Mx.refBits X c 8 := by rw [hY.out, show j = 8 by omega, Mx.impBits_eight _ _ (by omega)]
          have HE := hide he
          clear he
          go_wp2
          go_round
          case rel =>
            exact ⟨k + 1, Y, by omega, by unfold Hid; rw [unhide HT, Mx.reg_snoc, ← hX.out, unhide HE]; simp, hY2, by go_num, rfl⟩
          case measure => simp [intOf]; omega
    · have hke : X = Mx.reg 4294967295 l := by rw [hX.out, List.take_of_length_le (by have := (unhide HB).1; omega)]
      have HK := hide hke
      clear hke
      have hn := u32_not X (by omega)
      go_wp2
      go_ret
      exact ⟨by rw [Mx.crc, ← unhide HK]; rfl, rfl⟩
end Go.Proofs.Ytdhmijjphgcdmaa
