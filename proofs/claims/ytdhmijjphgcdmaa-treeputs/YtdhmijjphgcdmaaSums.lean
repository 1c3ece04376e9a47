/-
  What the two sums do: the document's answer's (mixed, SumOf) and the program's (Sum): each answers the register's number, and turns nothing in memory.
-/
import Derived.Test.YtdhmijjphgcdmaaRows
import Derived.Test.YtdhmijjphgcdmaaMath
import Derived.WalkKit
import Derived.WalkSpells
import Derived.WalkLawsBesides
import Derived.Deep.QuietTactic
import Derived.BigQuiet
namespace Go.Proofs.Ytdhmijjphgcdmaa
open Go.RowKit

theorem hide {p : Prop} (h : p) : Hid p := h
theorem unhide {p : Prop} (h : Hid p) : p := h

/-- 2 to the 32nd, behind a name -/
def m32 : Nat := 4294967296
theorem m32_def : m32 = 4294967296 := rfl

theorem mixed_step (x k D O : Nat) (hD : D = 2 ^ k) (hO : O = (x ^^^ Mx.poly) % D) (hlt : D < 4294967296) :
    D * 2 = 2 ^ (k + 1) ∧ k < 32 ∧
    (((x : Int) / (D : Int) % 2 != (3988292384 : Int) / (D : Int) % 2) = true → O + D = (x ^^^ Mx.poly) % (D * 2)) ∧
    (((x : Int) / (D : Int) % 2 != (3988292384 : Int) / (D : Int) % 2) = false → O = (x ^^^ Mx.poly) % (D * 2)) ∧ D * 2 ≤ 4294967296 := by
  have e := Mx.xor_mod_succ x Mx.poly k
  have h32 : k < 32 := by
    rcases Nat.lt_or_ge k 32 with h | h
    · exact h
    · have := Nat.pow_le_pow_right (n := 2) (by omega) h
      omega
  have hp : D * 2 = 2 ^ (k + 1) := by rw [hD, Nat.pow_succ]
  rw [← hp, ← hD, ← hO] at e
  have c1 : (x : Int) / (D : Int) % 2 = ((x / D % 2 : Nat) : Int) := by simp
  have c2 : (3988292384 : Int) / (D : Int) % 2 = ((Mx.poly / D % 2 : Nat) : Int) := by
    rw [show (3988292384 : Int) = ((Mx.poly : Nat) : Int) from rfl]
    generalize Mx.poly = P
    simp
  rw [c1, c2]
  refine ⟨hp, h32, ?_, ?_, ?_⟩
  · intro h
    rw [e, if_neg]
    intro h2
    rw [h2] at h
    simp at h
  · intro h
    rw [e, if_pos]
    · rfl
    · simp at h
      omega
  · have := Nat.pow_le_pow_right (n := 2) (by omega) (show k + 1 ≤ 32 by omega)
    omega

theorem mixed_end (x k D O : Nat) (hD : D = 2 ^ k) (hO : O = (x ^^^ Mx.poly) % D) (hk : k ≤ 32) (hge : 4294967296 ≤ D) (hx : x < 4294967296) : O = x ^^^ Mx.poly := by
  have h32 : k = 32 := by
    rcases Nat.lt_or_ge k 32 with h | h
    · have := Nat.pow_le_pow_right (n := 2) (by omega) (show k ≤ 31 by omega)
      omega
    · omega
  subst h32
  rw [hO, hD]
  exact Nat.mod_eq_of_lt (Mx.xor_lt _ _ hx Mx.poly_lt)

set_option maxHeartbeats 400000 in
set_option maxRecDepth 100000 in
theorem mixed_any (x : Nat) (w : World) (hx : (x : Int) < 4294967296) :
    Calls Try.prog 68 #[.int .i64 x] w fun e w' => e = .returned (.int .i64 ((x ^^^ Mx.poly : Nat) : Int)) ∧ ∃ n, w' = w.drewN n := by
  go_enter Try.func68, Try.ntmps68
  go_wp2
  go_loopw [4, 5] (fun o d wr => ∃ k D O : Nat, Hid (D = 2 ^ k) ∧ Hid (O = (x ^^^ Mx.poly) % D) ∧ k ≤ 32 ∧ (1 : Int) ≤ D ∧ (D : Int) ≤ 4294967296 ∧ (O : Int) < D ∧ d = .int .i64 D ∧ o = .int .i64 O ∧ ∃ n, wr = w.drewN n)
    (fun _ d _ => m32 - (intOf d).toNat)
  case atStart => exact ⟨0, 1, 0, rfl, by unfold Hid; rw [Nat.mod_one], by omega, by omega, by omega, by omega, rfl, rfl, 0, rfl⟩
  case round =>
    obtain ⟨k, D, O, hD, hO, hk, h1, h2, h3, rfl, rfl, n, rfl⟩ := hrel
    by_cases hlt : (D : Int) < 4294967296
    · have hq0 : 0 ≤ (x : Int) / (D : Int) := Int.ediv_nonneg (by omega) (by omega)
      have hq1 : (x : Int) / (D : Int) ≤ 4294967295 := by
        have := Int.ediv_le_self (D : Int) (a := (x : Int)) (by omega)
        omega
      have hp0 : 0 ≤ (3988292384 : Int) / (D : Int) := Int.ediv_nonneg (by omega) (by omega)
      have ST := hide (mixed_step x k D O hD.out hO.out (by omega))
      by_cases hb : ((x : Int) / (D : Int) % 2 != (3988292384 : Int) / (D : Int) % 2) = true
      · go_wp2_with fail
        go_quiet (fail)
        go_wp2
        go_roundw
        case rel =>
          obtain ⟨e1, e2, e3, e4, e5⟩ := unhide ST
          exact ⟨k + 1, D * 2, O + D, e1, e3 hb, by omega, by omega, by omega, by omega, by go_num, by go_num, _, rfl⟩
        case measure => simp [intOf, m32_def]; omega
      · have hb' : ((x : Int) / (D : Int) % 2 != (3988292384 : Int) / (D : Int) % 2) = false := by simpa using hb
        clear hb
        go_wp2_with fail
        go_quiet (fail)
        go_wp2
        go_roundw
        case rel =>
          obtain ⟨e1, e2, e3, e4, e5⟩ := unhide ST
          exact ⟨k + 1, D * 2, O, e1, e4 hb', by omega, by omega, by omega, by omega, by go_num, by go_num, _, rfl⟩
        case measure => simp [intOf, m32_def]; omega
    · have hk32 : O = x ^^^ Mx.poly := mixed_end x k D O hD.out hO.out (by omega) (by omega) (by omega)
      have HK := hide hk32
      clear hk32
      go_wp2
      go_ret
      exact ⟨by rw [unhide HK]; rfl, _, rfl⟩

theorem mixed_int (z : Int) (w : World) (h0 : 0 ≤ z) (h1 : z < 4294967296) :
    Calls Try.prog 68 #[.int .i64 z] w fun e w' => ∃ Z : Nat, Hid (Z = z.toNat ^^^ Mx.poly) ∧ (Z : Int) < 4294967296 ∧ e = .returned (.int .i64 Z) ∧ ∃ n, w' = w.drewN n := by
  obtain ⟨x, rfl⟩ := Int.eq_ofNat_of_zero_le h0
  refine (mixed_any x w h1).mono ?_
  rintro e w' ⟨rfl, n, rfl⟩
  exact ⟨_, rfl, by have := Mx.xor_lt x Mx.poly (by omega) Mx.poly_lt; rw [Int.toNat_natCast]; omega, by rw [Int.toNat_natCast], n, rfl⟩

/-- the slice reads as these bytes -/
def Bytes (w : World) (a : Option Addr) (len : Nat) (l : List Int) : Prop :=
  l.length = len ∧ len ≤ maxLen ∧ (∀ x ∈ l, 0 ≤ x ∧ x ≤ 255) ∧ (0 < len → ∃ b off, a = some ⟨b, off, none⟩ ∧ ∀ i, i < len → w.cell? ⟨b, off + i, none⟩ = some (.int .u8 (l.getD i 0)))

theorem Bytes.at_ {w : World} {a : Option Addr} {len : Nat} {l : List Int} (h : Bytes w a len l) (k : Nat) (hk : k < len) :
    ∃ b off, ∃ c : Nat, a = some ⟨b, off, none⟩ ∧ c ≤ 255 ∧ l.getD k 0 = (c : Int) ∧ w.cell? ⟨b, off + k, none⟩ = some (.int .u8 (c : Int)) ∧ l.take (k + 1) = l.take k ++ [(c : Int)] := by
  obtain ⟨h1, h2, h3, h4⟩ := h
  obtain ⟨b, off, ha, hc⟩ := h4 (by omega)
  have hkl : k < l.length := by omega
  have hm := h3 (l.getD k 0) (by rw [List.getD_eq_getElem?_getD, List.getElem?_eq_getElem hkl]; exact List.getElem_mem hkl)
  obtain ⟨c, hcc⟩ := Int.eq_ofNat_of_zero_le hm.1
  refine ⟨b, off, c, ha, by omega, hcc, by rw [hc k hk, hcc], ?_⟩
  rw [List.take_succ_eq_append_getElem hkl]
  rw [List.getD_eq_getElem?_getD, List.getElem?_eq_getElem hkl] at hcc
  simp at hcc
  rw [hcc]

theorem sum_step (X c j D Y : Nat) (hD : D = 2 ^ j) (hY : Y = Mx.refBits X c j) (hd : D < 256) :
    D * 2 = 2 ^ (j + 1) ∧ j < 8 ∧ ((((Y : Int) + (c : Int) / (D : Int)) % 2 == 1) = true → (Y / 2) ^^^ Mx.poly = Mx.refBits X c (j + 1)) ∧
    ((((Y : Int) + (c : Int) / (D : Int)) % 2 == 1) = false → Y / 2 = Mx.refBits X c (j + 1)) ∧ D * 2 ≤ 256 := by
  have h8 : j < 8 := by
    rcases Nat.lt_or_ge j 8 with h | h
    · exact h
    · have := Nat.pow_le_pow_right (n := 2) (by omega) h
      omega
  have hc : ((Y : Int) + (c : Int) / (D : Int)) % 2 = (((Y + c / D) % 2 : Nat) : Int) := by simp
  rw [hc]
  refine ⟨by rw [hD, Nat.pow_succ], h8, ?_, ?_, ?_⟩
  · intro h
    rw [Mx.refBits, Mx.refBit, ← hY, ← hD, if_pos]
    simp at h
    omega
  · intro h
    rw [Mx.refBits, Mx.refBit, ← hY, ← hD, if_neg]
    simp at h
    omega
  · have := Nat.pow_le_pow_right (n := 2) (by omega) (show j + 1 ≤ 8 by omega)
    rw [hD, ← Nat.pow_succ]
    omega

theorem sum_end (X c j D Y : Nat) (hD : D = 2 ^ j) (hY : Y = Mx.refBits X c j) (hj : j ≤ 8) (hd : 256 ≤ D) : j = 8 ∧ Y = Mx.refBits X c 8 := by
  have h8 : j = 8 := by
    rcases Nat.lt_or_ge j 8 with h | h
    · have := Nat.pow_le_pow_right (n := 2) (by omega) (show j ≤ 7 by omega)
      omega
    · omega
  subst h8
  exact ⟨rfl, hY⟩

set_option maxHeartbeats 400000 in
set_option maxRecDepth 100000 in
theorem sumOf_any (a : Option Addr) (len cap : Nat) (l : List Int) (w : World) (hl : Bytes w a len l) :
    Calls Try.prog 23 #[.slice a len cap] w fun e w' => e = .returned (.int .u32 (Mx.crc l : Int)) ∧ ∃ n, w' = w.drewN n := by
  have hlen : len ≤ maxLen := hl.2.1
  unfold maxLen at hlen
  have HB := hide hl
  clear hl
  go_enter Try.func23, Try.ntmps23
  go_wp2
  go_loopw [3, 4] (fun x i wr => ∃ k X : Nat, k ≤ len ∧ Hid (X = Mx.reg 4294967295 (l.take k)) ∧ (X : Int) < 4294967296 ∧ i = .int .i64 k ∧ x = .int .i64 X ∧ ∃ n, wr = w.drewN n)
    (fun _ i _ => len - (intOf i).toNat)
  case atStart => exact ⟨0, 4294967295, by omega, rfl, by omega, rfl, rfl, 0, rfl⟩
  case round =>
    obtain ⟨k, X, hk, hX, hX2, rfl, rfl, n, rfl⟩ := hrel
    by_cases hlt : k < len
    · obtain ⟨b, off, c, rfl, hc1, hc2, hcell, htk⟩ := (unhide HB).at_ k hlt
      have HC := hide hc2
      have HT := hide htk
      clear hc2 htk
      go_wp2
      go_loopw [3, 5] (fun x d wr => ∃ j D Y : Nat, j ≤ 8 ∧ Hid (D = 2 ^ j) ∧ (1 : Int) ≤ D ∧ (D : Int) ≤ 256 ∧ Hid (Y = Mx.refBits X c j) ∧ (Y : Int) < 4294967296 ∧ d = .int .i64 D ∧ x = .int .i64 Y ∧ ∃ n, wr = w.drewN n)
        (fun _ d _ => 256 - (intOf d).toNat)
      case atStart => exact ⟨0, 1, X, by omega, rfl, by omega, by omega, rfl, by omega, rfl, rfl, n, rfl⟩
      case round =>
        obtain ⟨j, D, Y, hj, hD, hD1, hD2, hY, hY2, rfl, rfl, m, rfl⟩ := hrel
        by_cases hd : (D : Int) < 256
        · have hq0 : 0 ≤ (c : Int) / (D : Int) := Int.ediv_nonneg (by omega) (by omega)
          have hq1 : (c : Int) / (D : Int) ≤ 255 := by
            have := Int.ediv_le_self (D : Int) (a := (c : Int)) (by omega)
            omega
          have ST := hide (sum_step X c j D Y hD.out hY.out (by omega))
          by_cases hb : (((Y : Int) + (c : Int) / (D : Int)) % 2 == 1) = true
          · go_wp2_with fail
            refine (mixed_int ((Y : Int) / 2) _ (by omega) (by omega)).mono ?_
            rintro e w' ⟨Z, hZ, hZ2, rfl, m', rfl⟩
            go_wp2_with fail
            go_roundw
            case rel =>
              obtain ⟨e1, e2, e3, e4, e5⟩ := unhide ST
              exact ⟨j + 1, D * 2, Z, by omega, e1, by omega, by omega, by unfold Hid; rw [hZ.out, ← e3 hb]; congr 1, hZ2, by go_num, by go_num, _, rfl⟩
            case measure => simp [intOf]; omega
          · have hb' : (((Y : Int) + (c : Int) / (D : Int)) % 2 == 1) = false := by simpa using hb
            clear hb
            go_wp2_with fail
            go_roundw
            case rel =>
              obtain ⟨e1, e2, e3, e4, e5⟩ := unhide ST
              exact ⟨j + 1, D * 2, Y / 2, by omega, e1, by omega, by omega, e4 hb', by omega, by go_num, by go_num, _, rfl⟩
            case measure => simp [intOf]; omega
        · have he : j = 8 ∧ Y = Mx.refBits X c 8 := sum_end X c j D Y hD.out hY.out hj (by omega)
          have HE := hide he
          clear he
          go_wp2
          go_roundw
          case rel =>
            exact ⟨k + 1, Y, by omega, by unfold Hid; rw [unhide HT, Mx.reg_snoc, ← hX.out, (unhide HE).2]; simp, hY2, by go_num, rfl, _, rfl⟩
          case measure => simp [intOf]; omega
    · have hke : X = Mx.reg 4294967295 l := by rw [hX.out, List.take_of_length_le (by have := (unhide HB).1; omega)]
      have HK := hide hke
      clear hke
      go_wp2
      go_ret
      exact ⟨by rw [Mx.crc, ← unhide HK]; show Ending.returned (.int .u32 _) = _; congr 2; omega, _, rfl⟩
end Go.Proofs.Ytdhmijjphgcdmaa
