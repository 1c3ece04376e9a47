/-
  The digest of bytes: the program's (Digest), and the document's answer (DigestOf).
-/
import Derived.Test.YtdhmijjphgcdmaaTm
import Derived.BigQuiet
namespace Go.Proofs.Ytdhmijjphgcdmaa
open Go.RowKit

theorem u64_mul (Z : Nat) : IntKind.u64.wrap ((Z : Int) * 1099511628211) = (((Z * 1099511628211) % 18446744073709551616 : Nat) : Int) := by
  simp [IntKind.wrap, IntKind.signed, IntKind.bits]

set_option maxHeartbeats 1000000 in
theorem digest_any (a : Option Addr) (len cap : Nat) (l : List Int) (w : World) (hl : Bytes w a len l) :
    Calls Try.prog 42 #[.slice a len cap] w fun e w' => e = .returned (.int .u64 (Mx.digest l : Int)) ∧ w' = w := by
  have hlen : len ≤ maxLen := hl.2.1
  unfold maxLen at hlen
  have HB := hide hl
  clear hl
  go_enter Try.func42, Try.ntmps42
  go_wp2
  go_loop [3, 8] (fun x i => ∃ k X : Nat, k ≤ len ∧ Hid (X = Mx.dfold 14695981039346656037 (l.take k)) ∧ (X : Int) < 18446744073709551616 ∧ i = .int .i64 k ∧ x = .int .u64 X)
    (fun _ i => len - (intOf i).toNat)
  case atStart => exact ⟨0, 14695981039346656037, by omega, rfl, by omega, rfl, rfl⟩
  case round =>
    obtain ⟨k, X, hk, hX, hX2, rfl, rfl⟩ := hrel
    by_cases hlt : k < len
    · obtain ⟨b, off, c, rfl, hc1, hc2, hcell, htk⟩ := (unhide HB).at_ k hlt
      have HC := hide hc2
      have HT := hide htk
      clear hc2 htk
      obtain ⟨Z, hZ, hxo⟩ : ∃ Z : Nat, Hid (Z = X ^^^ c) ∧ bits .xor .u64 (X : Int) (c : Int) = (Z : Int) := ⟨_, rfl, u64_xor_nat X c (by omega) (by omega)⟩
      have hmul := u64_mul Z
      obtain ⟨Y, hY⟩ : ∃ Y : Nat, Hid (Y = (Z * 1099511628211) % 18446744073709551616) := ⟨_, rfl⟩
      rw [← hY.out] at hmul
      have HS := hide (show Y = Mx.dfold 14695981039346656037 (l.take (k + 1)) by
        rw [HT.out, Mx.dfold_snoc, ← hX.out, Mx.dstep, Int.toNat_natCast, ← hZ.out, hY.out])
      have hY2 : (Y : Int) < 18446744073709551616 := by have := hY.out; omega
      go_wp2_with fail
      go_round
      case rel => exact ⟨k + 1, Y, by omega, HS, hY2, by go_num, rfl⟩
      case measure => simp [intOf]; omega
    · have HK := hide (show X = Mx.digest l by rw [hX.out, List.take_of_length_le (by have := (unhide HB).1; omega), Mx.digest])
      go_wp2
      go_ret
      exact ⟨by rw [← unhide HK] <;> rfl, rfl⟩

theorem dig_step (L c j D M : Nat) (hD : D = 2 ^ j) (hM : M = (L ^^^ c) % D) (hd : D < 256) :
    D * 2 = 2 ^ (j + 1) ∧ j < 8 ∧ D * 2 ≤ 256 ∧ (L / D % 2 ≠ c / D % 2 → M + D = (L ^^^ c) % (D * 2)) ∧ (L / D % 2 = c / D % 2 → M = (L ^^^ c) % (D * 2)) ∧ M < D := by
  have h8 : j < 8 := by
    rcases Nat.lt_or_ge j 8 with h | h
    · exact h
    · have := Nat.pow_le_pow_right (n := 2) (by omega) h
      omega
  have hb := Mx.xor_bit L c j D hD
  have hp : 0 < D := by rw [hD]; exact Nat.pow_pos (by omega)
  refine ⟨by rw [hD, Nat.pow_succ], h8, ?_, fun h => ?_, fun h => ?_, by rw [hM]; exact Nat.mod_lt _ hp⟩
  · have := Nat.pow_le_pow_right (n := 2) (by omega) (show j + 1 ≤ 8 by omega)
    rw [hD, ← Nat.pow_succ]
    omega
  · rw [Nat.mul_comm, hb, if_pos h, hM]
  · rw [Nat.mul_comm, hb, if_neg (fun hn => hn h), hM, Nat.add_zero]

theorem dig_end (L c j D M : Nat) (hD : D = 2 ^ j) (hM : M = (L ^^^ c) % D) (hj : j ≤ 8) (hd : 256 ≤ D) (hL : L < 256) (hc : c < 256) : M = L ^^^ c := by
  have h8 : j = 8 := by
    rcases Nat.lt_or_ge j 8 with h | h
    · have := Nat.pow_le_pow_right (n := 2) (by omega) (show j ≤ 7 by omega)
      omega
    · omega
  subst h8
  rw [hM, hD]
  exact Nat.mod_eq_of_lt (Nat.xor_lt_two_pow (n := 8) hL hc)

set_option maxHeartbeats 1000000 in
set_option maxRecDepth 100000 in
theorem digestOf_any (a : Option Addr) (len cap : Nat) (l : List Int) (w : World) (hl : Bytes w a len l) :
    Calls Try.prog 43 #[.slice a len cap] w fun e w' => e = .returned (.int .u64 (Mx.digest l : Int)) ∧ ∃ n, w' = w.drewN n := by
  have hlen : len ≤ maxLen := hl.2.1
  unfold maxLen at hlen
  have HB := hide hl
  clear hl
  go_enter Try.func43, Try.ntmps43
  go_wp2
  go_loopw [3, 4] (fun x i wr => ∃ k X : Nat, k ≤ len ∧ Hid (X = Mx.dfold 14695981039346656037 (l.take k)) ∧ (X : Int) < 18446744073709551616 ∧ i = .int .i64 k ∧ x = .int .u64 X ∧ ∃ n, wr = w.drewN n)
    (fun _ i _ => len - (intOf i).toNat)
  case atStart => exact ⟨0, 14695981039346656037, by omega, rfl, by omega, rfl, rfl, 0, rfl⟩
  case round =>
    obtain ⟨k, X, hk, hX, hX2, rfl, rfl, n, rfl⟩ := hrel
    by_cases hlt : k < len
    · obtain ⟨b, off, c, rfl, hc1, hc2, hcell, htk⟩ := (unhide HB).at_ k hlt
      have HC := hide hc2
      have HT := hide htk
      clear hc2 htk
      obtain ⟨L, hL, hLe⟩ : ∃ L : Nat, Hid (L = X % 256) ∧ ((X : Int) % 256) = (L : Int) := ⟨X % 256, rfl, by omega⟩
      have hL1 : (L : Int) ≤ 255 := by omega
      have hL2 : (L : Int) ≤ X := by omega
      go_wp2_with fail
      go_loopw [6, 7] (fun x d wr => ∃ j D M : Nat, j ≤ 8 ∧ Hid (D = 2 ^ j) ∧ (1 : Int) ≤ D ∧ (D : Int) ≤ 256 ∧ Hid (M = (L ^^^ c) % D) ∧ (M : Int) < D ∧ d = .int .u64 D ∧ x = .int .u64 M ∧ ∃ n, wr = w.drewN n)
        (fun _ d _ => 256 - (intOf d).toNat)
      case atStart => exact ⟨0, 1, 0, by omega, rfl, by omega, by omega, by unfold Hid; omega, by omega, rfl, rfl, n, rfl⟩
      case round =>
        obtain ⟨j, D, M, hj, hD, hD1, hD2, hM, hM2, rfl, rfl, m, rfl⟩ := hrel
        by_cases hd : (D : Int) < 256
        · have hq0 : 0 ≤ (c : Int) / (D : Int) := Int.ediv_nonneg (by omega) (by omega)
          have hq1 : (c : Int) / (D : Int) ≤ 255 := by
            have := Int.ediv_le_self (D : Int) (a := (c : Int)) (by omega)
            omega
          have hp0 : 0 ≤ (L : Int) / (D : Int) := Int.ediv_nonneg (by omega) (by omega)
          have hp1 : (L : Int) / (D : Int) ≤ 255 := by
            have := Int.ediv_le_self (D : Int) (a := (L : Int)) (by omega)
            omega
          have ST := hide (dig_step L c j D M hD.out hM.out (by omega))
          have e1 : (L : Int) / (D : Int) % 2 = ((L / D % 2 : Nat) : Int) := by simp
          have e2 : (c : Int) / (D : Int) % 2 = ((c / D % 2 : Nat) : Int) := by simp
          by_cases hb : L / D % 2 = c / D % 2
          · have hbb : ((L : Int) / (D : Int) % 2 != (c : Int) / (D : Int) % 2) = false := by rw [e1, e2, hb]; simp
            have HBB := hide hb
            clear hb e1 e2
            go_wp2_with fail
            go_quiet (fail)
            go_wp2_with fail
            go_roundw
            case rel =>
              obtain ⟨e1, e2, e3, e4, e5, e6⟩ := unhide ST
              exact ⟨j + 1, D * 2, M, by omega, e1, by omega, by omega, e5 HBB.out, by omega, by go_num, rfl, _, rfl⟩
            case measure => simp [intOf]; omega
          · have hbb : ((L : Int) / (D : Int) % 2 != (c : Int) / (D : Int) % 2) = true := by
              rw [e1, e2]
              simp only [bne_iff_ne, ne_eq]
              omega
            have HBB := hide hb
            clear hb e1 e2
            go_wp2_with fail
            go_quiet (fail)
            go_wp2_with fail
            go_roundw
            case rel =>
              obtain ⟨e1, e2, e3, e4, e5, e6⟩ := unhide ST
              exact ⟨j + 1, D * 2, M + D, by omega, e1, by omega, by omega, e4 HBB.out, by omega, by go_num, by go_num, _, rfl⟩
            case measure => simp [intOf]; omega
        · have hMe : M = L ^^^ c := dig_end L c j D M hD.out hM.out hj (by omega) (by omega) (by omega)
          obtain ⟨Z, hZ⟩ : ∃ Z : Nat, Hid (Z = X ^^^ c) := ⟨_, rfl⟩
          have hZe : (X : Int) - (L : Int) + (M : Int) = (Z : Int) := by
            have h1 := Mx.xor_low X c (by omega)
            rw [← hZ.out, ← hL.out, ← hMe] at h1
            omega
          have hZ2 : (Z : Int) < 18446744073709551616 := by
            have := Mx.xor64_lt X c (by omega) (by omega)
            rw [← hZ.out] at this
            omega
          have hmul := u64_mul Z
          obtain ⟨Y, hY⟩ : ∃ Y : Nat, Hid (Y = (Z * 1099511628211) % 18446744073709551616) := ⟨_, rfl⟩
          rw [← hY.out] at hmul
          have HS := hide (show Y = Mx.dfold 14695981039346656037 (l.take (k + 1)) by
            rw [HT.out, Mx.dfold_snoc, ← hX.out, Mx.dstep, Int.toNat_natCast, ← hZ.out, hY.out])
          have hY2 : (Y : Int) < 18446744073709551616 := by have := hY.out; omega
          clear hMe
          go_wp2_with fail
          go_roundw
          case rel => exact ⟨k + 1, Y, by omega, HS, hY2, by go_num, rfl, _, rfl⟩
          case measure => simp [intOf]; omega
    · have HK := hide (show X = Mx.digest l by rw [hX.out, List.take_of_length_le (by have := (unhide HB).1; omega), Mx.digest])
      go_wp2
      go_ret
      exact ⟨by rw [← unhide HK] <;> rfl, _, rfl⟩
end Go.Proofs.Ytdhmijjphgcdmaa
