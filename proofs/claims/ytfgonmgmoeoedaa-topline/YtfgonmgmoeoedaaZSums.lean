/-
  What the two sums do: the document's answer's (mixed, SumOf) and the program's (Sum): each answers the register's number, and turns nothing in memory.
-/
import Derived.WalkKit
import Derived.WalkSpells
import Derived.WalkLawsBesides
import Derived.Deep.QuietTactic
import Derived.BigQuiet
import Derived.Test.YtfgonmgmoeoedaaRows
import Derived.Test.YtfgonmgmoeoedaaZMath

namespace Go.Proofs.Ytfgonmgmoeoedaa
open Go.RowKit

theorem hide {p : Prop} (h : p) : Hid p := h
theorem unhide {p : Prop} (h : Hid p) : p := h

/-- 2 to the 32nd, behind a name -/
def m32 : Nat := 4294967296
theorem m32_def : m32 = 4294967296 := rfl

theorem mixed_step (x k D O : Nat) (hD : D = 2 ^ k) (hO : O = (x ^^^ Mx.poly) % D) (hlt : D < 4294967296) :
    D * 2 = 2 ^ (k + 1) ∧ k < 32 ∧
    (((x : Int) / (D : Int) % 2 != (3988292384 : Int) / (D : Int) % 2) = true → O + D = (x ^^^ Mx.poly) % (D * 2)) ∧
    (((x : Int) / (D : Int) % 2 != (3988292384 : Int) / (D : Int) % 2) = false → O = (x ^^^ Mx.poly) % (D * 2)) ∧ D * 2 ≤ 4294967296 := by
  have e := Mx.xor_mod_succ x Mx.poly k
  have h32 : k < 32 := by
    rcases Nat.lt_or_ge k 32 with h | h
    · exact h
    · have := Nat.pow_le_pow_right (n := 2) (by omega) h
      omega
  have hp : D * 2 = 2 ^ (k + 1) := by rw [hD, Nat.pow_succ]
  rw [← hp, ← hD, ← hO] at e
  have c1 : (x : Int) / (D : Int) % 2 = ((x / D % 2 : Nat) : Int) := by simp
  have c2 : (3988292384 : Int) / (D : Int) % 2 = ((Mx.poly / D % 2 : Nat) : Int) := by
    rw [show (3988292384 : Int) = ((Mx.poly : Nat) : Int) from rfl]
    generalize Mx.poly = P
    simp
  rw [c1, c2]
  refine ⟨hp, h32, ?_, ?_, ?_⟩
  · intro h
    rw [e, if_neg]
    intro h2
    rw [h2] at h
    simp at h
  · intro h
    rw [e, if_pos]
    · rfl
    · simp at h
      omega
  · have := Nat.pow_le_pow_right (n := 2) (by omega) (show k + 1 ≤ 32 by omega)
    omega

theorem mixed_end (x k D O : Nat) (hD : D = 2 ^ k) (hO : O = (x ^^^ Mx.poly) % D) (hk : k ≤ 32) (hge : 4294967296 ≤ D) (hx : x < 4294967296) : O = x ^^^ Mx.poly := by
  have h32 : k = 32 := by
    rcases Nat.lt_or_ge k 32 with h | h
    · have := Nat.pow_le_pow_right (n := 2) (by omega) (show k ≤ 31 by omega)
      omega
    · omega
  subst h32
  rw [hO, hD]
  exact Nat.mod_eq_of_lt (Mx.xor_lt _ _ hx Mx.poly_lt)

set_option maxHeartbeats 400000 in
set_option maxRecDepth 100000 in
theorem mixed_any (x : Nat) (w : World) (hx : (x : Int) < 4294967296) :
    Calls Try.prog 45 #[.int .i64 x] w fun e w' => e = .returned (.int .i64 ((x ^^^ Mx.poly : Nat) : Int)) ∧ ∃ n, w' = w.drewN n := by
  go_enter Try.func45, Try.ntmps45
  go_wp2
  go_loopw [4, 5] (fun o d wr => ∃ k D O : Nat, Hid (D = 2 ^ k) ∧ Hid (O = (x ^^^ Mx.poly) % D) ∧ k ≤ 32 ∧ (1 : Int) ≤ D ∧ (D : Int) ≤ 4294967296 ∧ (O : Int) < D ∧ d = .int .i64 D ∧ o = .int .i64 O ∧ ∃ n, wr = w.drewN n)
    (fun _ d _ => m32 - (intOf d).toNat)
  case atStart => exact ⟨0, 1, 0, rfl, by unfold Hid; rw [Nat.mod_one], by omega, by omega, by omega, by omega, rfl, rfl, 0, rfl⟩
  case round =>
    obtain ⟨k, D, O, hD, hO, hk, h1, h2, h3, rfl, rfl, n, rfl⟩ := hrel
    by_cases hlt : (D : Int) < 4294967296
    · have hq0 : 0 ≤ (x : Int) / (D : Int) := Int.ediv_nonneg (by omega) (by omega)
      have hq1 : (x : Int) / (D : Int) ≤ 4294967295 := by
        have := Int.ediv_le_self (D : Int) (a := (x : Int)) (by omega)
        omega
      have hp0 : 0 ≤ (3988292384 : Int) / (D : Int) := Int.ediv_nonneg (by omega) (by omega)
      have ST := hide (mixed_step x k D O hD.out hO.out (by omega))
      by_cases hb : ((x : Int) / (D : Int) % 2 != (3988292384 : Int) / (D : Int) % 2) = true
      · go_wp2_with fail
        go_quiet (fail)
        go_wp2
        go_roundw
        case rel =>
          obtain ⟨e1, e2, e3, e4, e5⟩ := unhide ST
          exact ⟨k + 1, D * 2, O + D, e1, e3 hb, by omega, by omega, by omega, by omega, by go_num, by go_num, _, rfl⟩
        case measure => simp [intOf, m32_def]; omega
      · have hb' : ((x : Int) / (D : Int) % 2 != (3988292384 : Int) / (D : Int) % 2) = false := by simpa using hb
        clear hb
        go_wp2_with fail
        go_quiet (fail)
        go_wp2
        go_roundw
        case rel =>
          obtain ⟨e1, e2, e3, e4, e5⟩ := unhide ST
          exact ⟨k + 1, D * 2, O, e1, e4 hb', by omega, by omega, by omega, by omega, by go_num, by go_num, _, rfl⟩
        case measure => simp [intOf, m32_def]; omega
    · have hk32 : O = x ^^^ Mx.poly := mixed_end x k D O hD.out hO.out (by omega) (by omega) (by omega)
      have HK := hide hk32
      clear hk32
      go_wp2
      go_ret
      exact ⟨by rw [unhide HK]; rfl, _, rfl⟩

theorem mixed_int (z : Int) (w : World) (h0 : 0 ≤ z) (h1 : z < 4294967296) :
    Calls Try.prog 45 #[.int .i64 z] w fun e w' => ∃ Z : Nat, Hid (Z = z.toNat ^^^ Mx.poly) ∧ (Z : Int) < 4294967296 ∧ e = .returned (.int .i64 Z) ∧ ∃ n, w' = w.drewN n := by
  obtain ⟨x, rfl⟩ := Int.eq_ofNat_of_zero_le h0
  refine (mixed_any x w h1).mono ?_
  rintro e w' ⟨rfl, n, rfl⟩
  exact ⟨_, rfl, by have := Mx.xor_lt x Mx.poly (by omega) Mx.poly_lt; rw [Int.toNat_natCast]; omega, by rw [Int.toNat_natCast], n, rfl⟩

/-- the slice reads as these bytes -/
def Bytes (w : World) (a : Option Addr) (len : Nat) (l : List Int) : Prop :=
  l.length = len ∧ len ≤ maxLen ∧ (∀ x ∈ l, 0 ≤ x ∧ x ≤ 255) ∧ (0 < len → ∃ b off, a = some ⟨b, off, none⟩ ∧ ∀ i, i < len → w.cell? ⟨b, off + i, none⟩ = some (.int .u8 (l.getD i 0)))

theorem Bytes.at_ {w : World} {a : Option Addr} {len : Nat} {l : List Int} (h : Bytes w a len l) (k : Nat) (hk : k < len) :
    ∃ b off, ∃ c : Nat, a = some ⟨b, off, none⟩ ∧ c ≤ 255 ∧ l.getD k 0 = (c : Int) ∧ w.cell? ⟨b, off + k, none⟩ = some (.int .u8 (c : Int)) ∧ l.take (k + 1) = l.take k ++ [(c : Int)] := by
  obtain ⟨h1, h2, h3, h4⟩ := h
  obtain ⟨b, off, ha, hc⟩ := h4 (by omega)
  have hkl : k < l.length := by omega
  have hm := h3 (l.getD k 0) (by rw [List.getD_eq_getElem?_getD, List.getElem?_eq_getElem hkl]; exact List.getElem_mem hkl)
  obtain ⟨c, hcc⟩ := Int.eq_ofNat_of_zero_le hm.1
  refine ⟨b, off, c, ha, by omega, hcc, by rw [hc k hk, hcc], ?_⟩
  rw [List.take_succ_eq_append_getElem hkl]
  rw [List.getD_eq_getElem?_getD, List.getElem?_eq_getElem hkl] at hcc
  simp at hcc
  rw [hcc]

theorem sum_step (X c j D Y : Nat) (hD : D = 2 ^ j) (hY : Y = Mx.refBits X c j) (hd : D < 256) :
    D * 2 = 2 ^ (j + 1) ∧ j < 8 ∧ ((((Y : Int) + (c : Int) / (D : Int)) % 2 == 1) = true → (Y / 2) ^^^ Mx.poly = Mx.refBits X c (j + 1)) ∧
    ((((Y : Int) + (c : Int) / (D : Int)) % 2 == 1) = false → Y / 2 = Mx.refBits X c (j + 1)) ∧ D * 2 ≤ 256 := by
  have h8 : j < 8 := by
    rcases Nat.lt_or_ge j 8 with h | h
    · exact h
    · have := Nat.pow_le_pow_right (n := 2) (by omega) h
      omega
  have hc : ((Y : Int) + (c : Int) / (D : Int)) % 2 = (((Y + c / D) % 2 : Nat) : Int) := by simp
  rw [hc]
  refine ⟨by rw [hD, Nat.pow_succ], h8, ?_, ?_, ?_⟩
  · intro h
    rw [Mx.refBits, Mx.refBit, ← hY, ← hD, if_pos]
    simp at h
    omega
  · intro h
    rw [Mx.refBits, Mx.refBit, ← hY, ← hD, if_neg]
    simp at h
    omega
  · have := Nat.pow_le_pow_right (n := 2) (by omega) (show j + 1 ≤ 8 by omega)
    rw [hD, ← Nat.pow_succ]
    omega

theorem sum_end (X c j D Y : Nat) (hD : D = 2 ^ j) (hY : Y = Mx.refBits X c j) (hj : j ≤ 8) (hd : 256 ≤ D) : j = 8 ∧ Y = Mx.refBits X c 8 := by
  have h8 : j = 8 := by
    rcases Nat.lt_or_ge j 8 with h | h
    · have := Nat.pow_le_pow_right (n := 2) (by omega) (show j ≤ 7 by omega)
      omega
    · omega
  subst h8
  exact ⟨rfl, hY⟩

set_option maxHeartbeats 400000 in
set_option maxRecDepth 100000 in
theorem sumOf_any (a : Option Addr) (len cap : Nat) (l : List Int) (w : World) (hl : Bytes w a len l) :
    Calls Try.prog 35 #[.slice a len cap] w fun e w' => e = .returned (.int .u32 (Mx.crc l : Int)) ∧ ∃ n, w' = w.drewN n := by
  have hlen : len ≤ maxLen := hl.2.1
  unfold maxLen at hlen
  have HB := hide hl
  clear hl
  go_enter Try.func35, Try.ntmps35
  go_wp2
  go_loopw [3, 4] (fun x i wr => ∃ k X : Nat, k ≤ len ∧ Hid (X = Mx.reg 4294967295 (l.take k)) ∧ (X : Int) < 4294967296 ∧ i = .int .i64 k ∧ x = .int .i64 X ∧ ∃ n, wr = w.drewN n)
    (fun _ i _ => len - (intOf i).toNat)
  case atStart => exact ⟨0, 4294967295, by omega, rfl, by omega, rfl, rfl, 0, rfl⟩
  case round =>
    obtain ⟨k, X, hk, hX, hX2, rfl, rfl, n, rfl⟩ := hrel
    by_cases hlt : k < len
    · obtain ⟨b, off, c, rfl, hc1, hc2, hcell, htk⟩ := (unhide HB).at_ k hlt
      have HC := hide hc2
      have HT := hide htk
      clear hc2 htk
      go_wp2
      go_loopw [3, 5] (fun x d wr => ∃ j D Y : Nat, j ≤ 8 ∧ Hid (D = 2 ^ j) ∧ (1 : Int) ≤ D ∧ (D : Int) ≤ 256 ∧ Hid (Y = Mx.refBits X c j) ∧ (Y : Int) < 4294967296 ∧ d = .int .i64 D ∧ x = .int .i64 Y ∧ ∃ n, wr = w.drewN n)
        (fun _ d _ => 256 - (intOf d).toNat)
      case atStart => exact ⟨0, 1, X, by omega, rfl, by omega, by omega, rfl, by omega, rfl, rfl, n, rfl⟩
      case round =>
        obtain ⟨j, D, Y, hj, hD, hD1, hD2, hY, hY2, rfl, rfl, m, rfl⟩ := hrel
        by_cases hd : (D : Int) < 256
        · have hq0 : 0 ≤ (c : Int) / (D : Int) := Int.ediv_nonneg (by omega) (by omega)
          have hq1 : (c : Int) / (D : Int) ≤ 255 := by
            have := Int.ediv_le_self (D : Int) (a := (c : Int)) (by omega)
            omega
          have ST := hide (sum_step X c j D Y hD.out hY.out (by omega))
          by_cases hb : (((Y : Int) + (c : Int) / (D : Int)) % 2 == 1) = true
          · go_wp2_with fail
            refine (mixed_int ((Y : Int) / 2) _ (by omega) (by omega)).mono ?_
            rintro e w' ⟨Z, hZ, hZ2, rfl, m', rfl⟩
            go_wp2_with fail
            go_roundw
            case rel =>
              obtain ⟨e1, e2, e3, e4, e5⟩ := unhide ST
              exact ⟨j + 1, D * 2, Z, by omega, e1, by omega, by omega, by unfold Hid; rw [hZ.out, ← e3 hb]; congr 1, hZ2, by go_num, by go_num, _, rfl⟩
            case measure => simp [intOf]; omega
          · have hb' : (((Y : Int) + (c : Int) / (D : Int)) % 2 == 1) = false := by simpa using hb
            clear hb
            go_wp2_with fail
            go_roundw
            case rel =>
              obtain ⟨e1, e2, e3, e4, e5⟩ := unhide ST
              exact ⟨j + 1, D * 2, Y / 2, by omega, e1, by omega, by omega, e4 hb', by omega, by go_num, by go_num, _, rfl⟩
            case measure => simp [intOf]; omega
        · have he : j = 8 ∧ Y = Mx.refBits X c 8 := sum_end X c j D Y hD.out hY.out hj (by omega)
          have HE := hide he
          clear he
          go_wp2
          go_roundw
          case rel =>
            exact ⟨k + 1, Y, by omega, by unfold Hid; rw [unhide HT, Mx.reg_snoc, ← hX.out, (unhide HE).2]; simp, hY2, by go_num, rfl, _, rfl⟩
          case measure => simp [intOf]; omega
    · have hke : X = Mx.reg 4294967295 l := by rw [hX.out, List.take_of_length_le (by have := (unhide HB).1; omega)]
      have HK := hide hke
      clear hke
      go_wp2
      go_ret
      exact ⟨by rw [Mx.crc, ← unhide HK]; show Ending.returned (.int .u32 _) = _; congr 2; omega, _, rfl⟩
end Go.Proofs.Ytfgonmgmoeoedaa

/-
  What the program's own sum does (Sum): it answers the register's number, and turns nothing in memory.
-/
namespace Go.Proofs.Ytfgonmgmoeoedaa
open Go.RowKit

theorem u32_low (Y : Nat) (h : Y < 4294967296) : bits .and .u32 (Y : Int) 1 = ((Y % 2 : Nat) : Int) := by
  have e := u32_and_nat Y 1 h (by omega)
  rw [Nat.and_one_is_mod] at e
  exact e

theorem u32_mix (Y : Nat) (h : Y < 4294967296) : bits .xor .u32 ((Y : Int) / 2) 3988292384 = (((Y / 2) ^^^ Mx.poly : Nat) : Int) := by
  rw [show (Y : Int) / 2 = ((Y / 2 : Nat) : Int) by omega, show (3988292384 : Int) = ((Mx.poly : Nat) : Int) from rfl]
  exact u32_xor_nat _ _ (by omega) Mx.poly_lt

theorem u32_not (X : Nat) (h : X < 4294967296) : bits .xor .u32 (if IntKind.u32.signed = true then -1 else IntKind.u32.max) (X : Int) = ((4294967295 - X : Nat) : Int) := by
  have e := u32_xor_nat 4294967295 X (by omega) h
  rw [show (if IntKind.u32.signed = true then (-1 : Int) else IntKind.u32.max) = ((4294967295 : Nat) : Int) from rfl, e]
  congr 1
  apply Nat.eq_of_testBit_eq
  intro i
  have h1 := Nat.testBit_two_pow_sub_succ (n := 32) h i
  rw [show 2 ^ 32 - (X + 1) = 4294967295 - X by omega] at h1
  have h2 := Nat.testBit_two_pow_sub_one 32 i
  rw [show 2 ^ 32 - 1 = 4294967295 by rfl] at h2
  rw [Nat.testBit_xor, h1, h2]
  by_cases hi : i < 32
  · simp [hi]
  · have : X.testBit i = false := Nat.testBit_lt_two_pow (Nat.lt_of_lt_of_le h (by
      have : 2 ^ 32 ≤ 2 ^ i := Nat.pow_le_pow_right (by omega) (by omega)
      omega))
    simp [hi, this]

set_option maxHeartbeats 400000 in
set_option maxRecDepth 100000 in
theorem sum_any (a : Option Addr) (len cap : Nat) (l : List Int) (w : World) (hl : Bytes w a len l) :
    Calls Try.prog 51 #[.slice a len cap] w fun e w' => e = .returned (.int .u32 (Mx.crc l : Int)) ∧ w' = w := by
  have hlen : len ≤ maxLen := hl.2.1
  unfold maxLen at hlen
  have HB := hide hl
  clear hl
  go_enter Try.func51, Try.ntmps51
  go_wp2
  go_loop [3, 9] (fun x i => ∃ k X : Nat, k ≤ len ∧ Hid (X = Mx.reg 4294967295 (l.take k)) ∧ (X : Int) < 4294967296 ∧ i = .int .i64 k ∧ x = .int .u32 X)
    (fun _ i => len - (intOf i).toNat)
  case atStart => exact ⟨0, 4294967295, by omega, rfl, by omega, rfl, rfl⟩
  case round =>
    obtain ⟨k, X, hk, hX, hX2, rfl, rfl⟩ := hrel
    by_cases hlt : k < len
    · obtain ⟨b, off, c, rfl, hc1, hc2, hcell, htk⟩ := (unhide HB).at_ k hlt
      have HC := hide hc2
      have HT := hide htk
      clear hc2 htk
      go_wp2
      go_loop [3, 17] (fun x i => ∃ j Y : Nat, j ≤ 8 ∧ Hid (Y = Mx.impBits (X ^^^ c) j) ∧ (Y : Int) < 4294967296 ∧ i = .int .i64 j ∧ x = .int .u32 Y)
        (fun _ i => 8 - (intOf i).toNat)
      case atStart => exact ⟨0, X ^^^ c, by omega, rfl, by have := Mx.xor_lt X c (by omega) (by omega); omega, rfl, by rw [u32_xor_nat X c (by omega) (by omega)]⟩
      case round =>
        obtain ⟨j, Y, hj, hY, hY2, rfl, rfl⟩ := hrel
        by_cases hd : (j : Int) < 8
        · have ha := u32_low Y (by omega)
          obtain ⟨Z, hZ, hxo⟩ : ∃ Z : Nat, Hid (Z = (Y / 2) ^^^ Mx.poly) ∧ bits .xor .u32 ((Y : Int) / 2) 3988292384 = (Z : Int) := ⟨_, rfl, u32_mix Y (by omega)⟩
          by_cases hb : Y % 2 = 1
          · rw [hb] at ha
            have ST := hide (show Z = Mx.impBits (X ^^^ c) (j + 1) by rw [Mx.impBits, ← hY.out, Mx.impBit, if_pos hb, hZ.out])
            have hZ2 := hide (show Z < 4294967296 by rw [hZ.out]; exact Mx.xor_lt _ _ (by omega) Mx.poly_lt)
            clear hb
            go_wp2_with fail
            go_round
            case rel => exact ⟨j + 1, Z, by omega, ST, by have := unhide hZ2; omega, by go_num, rfl⟩
            case measure => simp [intOf]; omega
          · have hb0 : Y % 2 = 0 := by omega
            rw [hb0] at ha
            have ST := hide (show Y / 2 = Mx.impBits (X ^^^ c) (j + 1) by rw [Mx.impBits, ← hY.out, Mx.impBit, if_neg hb])
            clear hb hb0
            go_wp2_with fail
            go_round
            case rel => exact ⟨j + 1, Y / 2, by omega, ST, by omega, by go_num, by go_num⟩
            case measure => simp [intOf]; omega
        · have he : Y = Mx.refBits X c 8 := by rw [hY.out, show j = 8 by omega, Mx.impBits_eight _ _ (by omega)]
          have HE := hide he
          clear he
          go_wp2
          go_round
          case rel =>
            exact ⟨k + 1, Y, by omega, by unfold Hid; rw [unhide HT, Mx.reg_snoc, ← hX.out, unhide HE]; simp, hY2, by go_num, rfl⟩
          case measure => simp [intOf]; omega
    · have hke : X = Mx.reg 4294967295 l := by rw [hX.out, List.take_of_length_le (by have := (unhide HB).1; omega)]
      have HK := hide hke
      clear hke
      have hn := u32_not X (by omega)
      go_wp2
      go_ret
      exact ⟨by rw [Mx.crc, ← unhide HK]; rfl, rfl⟩
end Go.Proofs.Ytfgonmgmoeoedaa

/-
  Whether a frame may be: the document's answer (FrameMay) and the program's (Check) answer the same number; nothing that was there is turned.
-/
namespace Go.Proofs.Ytfgonmgmoeoedaa
open Go.RowKit

namespace Mx
def badNum (x : Int) : Bool := decide (x < 0) || decide (2147483647 < x)
/-- A1's error, as a number (0: none) -/
def may (kind : Int) (nums : List Int) (nb : Nat) : Int :=
  if kind < 0 ∨ 15 < kind then 1 else if 12 < nums.length ∨ 32 < nb then 2 else if nums.any badNum then 1 else 0
theorem may_kind {kind : Int} {nums : List Int} {nb : Nat} (h : kind < 0 ∨ 15 < kind) : may kind nums nb = 1 := by unfold may; rw [if_pos h]
theorem may_long {kind : Int} {nums : List Int} {nb : Nat} (h : ¬ (kind < 0 ∨ 15 < kind)) (h2 : 12 < nums.length ∨ 32 < nb) : may kind nums nb = 2 := by unfold may; rw [if_neg h, if_pos h2]
theorem may_bad {kind : Int} {nums : List Int} {nb : Nat} (h : ¬ (kind < 0 ∨ 15 < kind)) (h2 : ¬ (12 < nums.length ∨ 32 < nb)) (k : Nat) (hk : k < nums.length) (h3 : badNum (nums.getD k 0) = true) : may kind nums nb = 1 := by
  unfold may
  rw [if_neg h, if_neg h2, if_pos]
  rw [List.any_eq_true]
  rw [List.getD_eq_getElem?_getD, List.getElem?_eq_getElem hk] at h3
  exact ⟨nums[k], List.getElem_mem hk, h3⟩
theorem may_ok {kind : Int} {nums : List Int} {nb : Nat} (h : ¬ (kind < 0 ∨ 15 < kind)) (h2 : ¬ (12 < nums.length ∨ 32 < nb)) (h3 : ∀ j, j < nums.length → badNum (nums.getD j 0) = false) : may kind nums nb = 0 := by
  unfold may
  rw [if_neg h, if_neg h2, if_neg]
  rw [List.any_eq_true]
  rintro ⟨x, hx, hb⟩
  obtain ⟨i, hi, rfl⟩ := List.getElem_of_mem hx
  have := h3 i hi
  rw [List.getD_eq_getElem?_getD, List.getElem?_eq_getElem hi] at this
  simp only [Option.getD_some] at this
  rw [hb] at this
  cases this
end Mx

/-- the slice reads as these numbers -/
def Ints (w : World) (a : Option Addr) (len : Nat) (l : List Int) : Prop :=
  l.length = len ∧ len ≤ maxLen ∧ (0 < len → ∃ b off, a = some ⟨b, off, none⟩ ∧ b < w.heap.size ∧ ∀ i, i < len → w.cell? ⟨b, off + i, none⟩ = some (.int .i64 (l.getD i 0)))

theorem Ints.at_ {w : World} {a : Option Addr} {len : Nat} {l : List Int} (h : Ints w a len l) (k : Nat) (hk : k < len) :
    ∃ b off, ∃ x : Int, a = some ⟨b, off, none⟩ ∧ b < w.heap.size ∧ l.getD k 0 = x ∧ w.cell? ⟨b, off + k, none⟩ = some (.int .i64 x) := by
  obtain ⟨b, off, ha, hb, hc⟩ := h.2.2 (by omega)
  exact ⟨b, off, _, ha, hb, rfl, hc k hk⟩

set_option maxHeartbeats 400000 in
set_option maxRecDepth 100000 in
theorem frameMay_any (kind : Int) (a1 a2 : Option Addr) (n1 c1 n2 c2 : Nat) (l : List Int) (w : World) (hl : Ints w a1 n1 l) (h2 : n2 ≤ maxLen) :
    Calls Try.prog 39 #[.agg #[.int .i64 kind, .slice a1 n1 c1, .slice a2 n2 c2]] w fun e w' => e = .returned (.int .i64 (Mx.may kind l n2)) ∧ Below w.heap.size w w' := by
  have hlen : n1 ≤ maxLen := hl.2.1
  unfold maxLen at hlen h2
  have HB := hide hl
  clear hl
  by_cases hk : kind < 0 ∨ 15 < kind
  · have HM := hide (Mx.may_kind (nums := l) (nb := n2) hk)
    rcases hk with hk | hk
    · go_enter Try.func39, Try.ntmps39
      go_wp2
      go_ret
      exact ⟨by rw [unhide HM]; rfl, (Below.refl _ _).alloc (Nat.le_refl _) _⟩
    · have hk' : ¬ kind < 0 := by omega
      go_enter Try.func39, Try.ntmps39
      go_wp2
      go_ret
      exact ⟨by rw [unhide HM]; rfl, (Below.refl _ _).alloc (Nat.le_refl _) _⟩
  · have hk1 : ¬ kind < 0 := by omega
    have hk2 : ¬ 15 < kind := by omega
    have HL := hide ((unhide HB).1)
    by_cases hn : 12 < n1 ∨ 32 < n2
    · have HM := hide (Mx.may_long (nums := l) (nb := n2) hk (by rw [unhide HL]; exact hn))
      clear hk
      rcases hn with hn | hn
      · have hn' : (12 : Int) < (n1 : Int) := by omega
        go_enter Try.func39, Try.ntmps39
        go_wp2
        go_ret
        exact ⟨by rw [unhide HM]; rfl, (Below.refl _ _).alloc (Nat.le_refl _) _⟩
      · by_cases hm : (12 : Int) < (n1 : Int)
        · go_enter Try.func39, Try.ntmps39
          go_wp2
          go_ret
          exact ⟨by rw [unhide HM]; rfl, (Below.refl _ _).alloc (Nat.le_refl _) _⟩
        · have hn' : (32 : Int) < (n2 : Int) := by omega
          go_enter Try.func39, Try.ntmps39
          go_wp2
          go_ret
          exact ⟨by rw [unhide HM]; rfl, (Below.refl _ _).alloc (Nat.le_refl _) _⟩
    · have hm1 : ¬ (12 : Int) < (n1 : Int) := by omega
      have hm2 : ¬ (32 : Int) < (n2 : Int) := by omega
      have HN := hide hn
      have HK := hide hk
      clear hn hk
      go_enter Try.func39, Try.ntmps39
      go_wp2
      go_loop [3] (fun i => ∃ k : Nat, k ≤ n1 ∧ i = .int .i64 k ∧ Hid (∀ j, j < k → Mx.badNum (l.getD j 0) = false))
        (fun i => n1 - (intOf i).toNat)
      case atStart => exact ⟨0, by omega, rfl, fun j hj => absurd hj (by omega)⟩
      case round =>
        obtain ⟨k, hkn, rfl, hgood⟩ := hrel
        by_cases hlt : k < n1
        · obtain ⟨b, off, x, rfl, hb, hx, hcell⟩ := (unhide HB).at_ k hlt
          have HX := hide hx
          clear hx
          by_cases hbad : Mx.badNum x = true
          · have HM := hide (Mx.may_bad (nb := n2) (unhide HK) (by rw [unhide HL]; exact unhide HN) k (by rw [unhide HL]; exact hlt) (by rw [unhide HX]; exact hbad))
            have hbb : x < 0 ∨ 2147483647 < x := by simpa [Mx.badNum] using hbad
            clear hbad
            by_cases hx0 : x < 0
            · go_wp2
              go_ret
              exact ⟨by rw [unhide HM]; rfl, (Below.refl _ _).alloc (Nat.le_refl _) _⟩
            · have hx1 : 2147483647 < x := by omega
              go_wp2
              go_ret
              exact ⟨by rw [unhide HM]; rfl, (Below.refl _ _).alloc (Nat.le_refl _) _⟩
          · have hbb : ¬ (x < 0 ∨ 2147483647 < x) := by simpa [Mx.badNum] using hbad
            have hx0 : ¬ x < 0 := by omega
            have hx1 : ¬ 2147483647 < x := by omega
            have HB2 := hide (show Mx.badNum x = false by simpa using hbad)
            clear hbad hbb
            go_wp2
            go_round
            case rel =>
              refine ⟨k + 1, by omega, by go_num, fun j hj => ?_⟩
              by_cases hjk : j = k
              · rw [hjk, unhide HX]; exact unhide HB2
              · exact hgood j (by omega)
            case measure => simp [intOf]; omega
        · have HM := hide (Mx.may_ok (nb := n2) (unhide HK) (by rw [unhide HL]; exact unhide HN) (fun j hj => hgood j (by rw [unhide HL] at hj; omega)))
          go_wp2
          go_ret
          exact ⟨by rw [unhide HM]; rfl, (Below.refl _ _).alloc (Nat.le_refl _) _⟩
end Go.Proofs.Ytfgonmgmoeoedaa

/-
  Whether a frame may be: the program's own answer (Check): the error of that number; nothing that was there is turned.
-/
namespace Go.Proofs.Ytfgonmgmoeoedaa
open Go.RowKit

/-- an error of that number, or none -/
def errV (n : Int) : Value := if n = 0 then .nilIface else .iface 28 (.int .i64 n)

set_option maxHeartbeats 400000 in
set_option maxRecDepth 100000 in
theorem check_any (kind : Int) (a1 a2 : Option Addr) (n1 c1 n2 c2 : Nat) (l : List Int) (w : World) (hl : Ints w a1 n1 l) (h2 : n2 ≤ maxLen) :
    Calls Try.prog 42 #[.agg #[.int .i64 kind, .slice a1 n1 c1, .slice a2 n2 c2]] w fun e w' => e = .returned (errV (Mx.may kind l n2)) ∧ Below w.heap.size w w' := by
  have hlen : n1 ≤ maxLen := hl.2.1
  unfold maxLen at hlen h2
  have HB := hide hl
  clear hl
  by_cases hk : kind < 0 ∨ 15 < kind
  · have HM := hide (Mx.may_kind (nums := l) (nb := n2) hk)
    rcases hk with hk | hk
    · go_enter Try.func42, Try.ntmps42
      go_wp2
      go_ret
      exact ⟨by rw [unhide HM]; rfl, (Below.refl _ _).alloc (Nat.le_refl _) _⟩
    · have hk' : ¬ kind < 0 := by omega
      go_enter Try.func42, Try.ntmps42
      go_wp2
      go_ret
      exact ⟨by rw [unhide HM]; rfl, (Below.refl _ _).alloc (Nat.le_refl _) _⟩
  · have hk1 : ¬ kind < 0 := by omega
    have hk2 : ¬ 15 < kind := by omega
    have HL := hide ((unhide HB).1)
    by_cases hn : 12 < n1 ∨ 32 < n2
    · have HM := hide (Mx.may_long (nums := l) (nb := n2) hk (by rw [unhide HL]; exact hn))
      clear hk
      rcases hn with hn | hn
      · have hn' : (12 : Int) < (n1 : Int) := by omega
        go_enter Try.func42, Try.ntmps42
        go_wp2
        go_ret
        exact ⟨by rw [unhide HM]; rfl, (Below.refl _ _).alloc (Nat.le_refl _) _⟩
      · by_cases hm : (12 : Int) < (n1 : Int)
        · go_enter Try.func42, Try.ntmps42
          go_wp2
          go_ret
          exact ⟨by rw [unhide HM]; rfl, (Below.refl _ _).alloc (Nat.le_refl _) _⟩
        · have hn' : (32 : Int) < (n2 : Int) := by omega
          go_enter Try.func42, Try.ntmps42
          go_wp2
          go_ret
          exact ⟨by rw [unhide HM]; rfl, (Below.refl _ _).alloc (Nat.le_refl _) _⟩
    · have hm1 : ¬ (12 : Int) < (n1 : Int) := by omega
      have hm2 : ¬ (32 : Int) < (n2 : Int) := by omega
      have HN := hide hn
      have HK := hide hk
      clear hn hk
      go_enter Try.func42, Try.ntmps42
      go_wp2
      go_loop [28] (fun i => ∃ k : Nat, k ≤ n1 ∧ i = .int .i64 k ∧ Hid (∀ j, j < k → Mx.badNum (l.getD j 0) = false))
        (fun i => n1 - (intOf i).toNat)
      case atStart => exact ⟨0, by omega, rfl, fun j hj => absurd hj (by omega)⟩
      case round =>
        obtain ⟨k, hkn, rfl, hgood⟩ := hrel
        by_cases hlt : k < n1
        · obtain ⟨b, off, x, rfl, hb, hx, hcell⟩ := (unhide HB).at_ k hlt
          have HX := hide hx
          clear hx
          by_cases hbad : Mx.badNum x = true
          · have HM := hide (Mx.may_bad (nb := n2) (unhide HK) (by rw [unhide HL]; exact unhide HN) k (by rw [unhide HL]; exact hlt) (by rw [unhide HX]; exact hbad))
            have hbb : x < 0 ∨ 2147483647 < x := by simpa [Mx.badNum] using hbad
            clear hbad
            by_cases hx0 : x < 0
            · go_wp2
              go_ret
              exact ⟨by rw [unhide HM]; rfl, (Below.refl _ _).alloc (Nat.le_refl _) _⟩
            · have hx1 : 2147483647 < x := by omega
              go_wp2
              go_ret
              exact ⟨by rw [unhide HM]; rfl, (Below.refl _ _).alloc (Nat.le_refl _) _⟩
          · have hbb : ¬ (x < 0 ∨ 2147483647 < x) := by simpa [Mx.badNum] using hbad
            have hx0 : ¬ x < 0 := by omega
            have hx1 : ¬ 2147483647 < x := by omega
            have HB2 := hide (show Mx.badNum x = false by simpa using hbad)
            clear hbad hbb
            go_wp2
            go_round
            case rel =>
              refine ⟨k + 1, by omega, by go_num, fun j hj => ?_⟩
              by_cases hjk : j = k
              · rw [hjk, unhide HX]; exact unhide HB2
              · exact hgood j (by omega)
            case measure => simp [intOf]; omega
        · have HM := hide (Mx.may_ok (nb := n2) (unhide HK) (by rw [unhide HL]; exact unhide HN) (fun j hj => hgood j (by rw [unhide HL] at hj; omega)))
          go_wp2
          go_ret
          exact ⟨by rw [unhide HM]; rfl, (Below.refl _ _).alloc (Nat.le_refl _) _⟩
end Go.Proofs.Ytfgonmgmoeoedaa

/-
  What is made of raw numbers: Pick, Raw.
-/
namespace Go.Proofs.Ytfgonmgmoeoedaa
open Go.RowKit

/-- all that was there is there as it was: in a form that is not laid open -/
structure BelS (W v : World) : Prop where
  out : Below W.heap.size W v
/-- which of n things a raw number speaks of -/
def Mx.pick (c n : Int) : Int := (if c < 0 then -(c + 1) else c) % n
theorem Mx.pick_pos (c n : Int) (hn : 0 < n) : 0 ≤ Mx.pick c n ∧ Mx.pick c n < n := ⟨Int.emod_nonneg _ (by omega), Int.emod_lt_of_pos _ hn⟩

set_option maxHeartbeats 400000 in
set_option maxRecDepth 100000 in
theorem pickv_any (c n : Int) (w : World) (h1 : -9223372036854775808 ≤ c) (h2 : c ≤ 9223372036854775807) (hn : 0 < n) (hn2 : n ≤ 10000000) :
    Calls Try.prog 16 #[.int .i64 c, .int .i64 n] w fun e w' => e = .returned (.int .i64 (Mx.pick c n)) ∧ w' = w := by
  have hn0 : ¬ n = 0 := by omega
  by_cases hc : c < 0
  · have HR := hide (show Mx.pick c n = (-(c + 1)) % n by unfold Mx.pick; rw [if_pos hc])
    go_enter Try.func16, Try.ntmps16
    go_wp2
    go_ret
    refine ⟨?_, rfl⟩
    rw [HR.out]
    show Ending.returned (.int .i64 (-((c + 1).tmod n))) = _
    rw [← Int.neg_tmod, Int.tmod_eq_emod_of_nonneg (by omega)]
  · have HR := hide (show Mx.pick c n = c % n by unfold Mx.pick; rw [if_neg hc])
    go_enter Try.func16, Try.ntmps16
    go_wp2
    go_ret
    refine ⟨?_, rfl⟩
    rw [HR.out]
    rfl

/-- a number as the machine has it -/
def I64x (x : Int) : Prop := -9223372036854775808 ≤ x ∧ x ≤ 9223372036854775807
/-- numbers as the machine has them -/
def I64 (l : List Int) : Prop := ∀ x ∈ l, -9223372036854775808 ≤ x ∧ x ≤ 9223372036854775807

end Go.Proofs.Ytfgonmgmoeoedaa
