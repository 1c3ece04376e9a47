/-
  Stores: numbers in blocks (number, block).
-/
import Derived.Laws.BitsAllLaws
import Derived.Test.YtfbmaemnbolplaaZKx

namespace Go.Proofs.Ytfbmaemnbolplaa
open Go.RowKit

theorem wrap_i64_nat (n : Nat) (h : n < 9223372036854775808) : IntKind.i64.wrap (n : Int) = (n : Int) := by
  rw [IntWalk.i64_left, IntWalk.wrap64_in _ (by omega)]

theorem or_join (N c : Nat) (hN : N < 1099511627776) (hc : c < 256) : bits .or .i64 ((N : Int) * 256) (c : Int) = ((N * 256 + c : Nat) : Int) := by
  have e : (N : Int) * 256 = ((N * 256 : Nat) : Int) := by omega
  rw [e]
  show IntKind.i64.wrap ((BitVec.ofInt 64 ((N * 256 : Nat) : Int) ||| BitVec.ofInt 64 (c : Int)).toNat : Int) = _
  rw [BitVec.toNat_or, ofInt_u64 (N * 256) (by omega), ofInt_u64 c (by omega)]
  have h := Nat.two_pow_add_eq_or_of_lt (i := 8) (b := c) (by omega) N
  rw [show N * 256 = 2 ^ 8 * N by omega, ← h]
  exact wrap_i64_nat _ (by omega)

namespace Mx
def numL (l : List Int) : Int := l.foldl (fun v x => v * 256 + x) 0
theorem numL_snoc (l : List Int) (x : Int) : numL (l ++ [x]) = numL l * 256 + x := by unfold numL; rw [List.foldl_append]; rfl
theorem numL_four (x y z t : Int) : numL [x, y, z, t] = num4 x y z t := by unfold numL num4; simp
end Mx

set_option maxHeartbeats 4000000 in
set_option maxRecDepth 100000 in
theorem number_any (a : Option Addr) (cap : Nat) (l : List Int) (w : World) (hl : Bytes w a 4 l) :
    Calls Try.prog 48 #[.slice a 4 cap] w fun e w' => e = .returned (.int .i64 (Mx.numL l)) ∧ w' = w := by
  have HL := hide hl
  clear hl
  go_enter Try.func48, Try.ntmps48
  go_wp2_with fail
  go_loopw [3, 8] (fun t u wr => ∃ k V : Nat, k ≤ 4 ∧ V < 256 ^ k ∧ t = .int .i64 (V : Int) ∧ u = .int .i64 (k : Int) ∧ Hid ((V : Int) = Mx.numL (l.take k)) ∧ wr = w) (fun _ u _ => 4 - (intOf u).toNat)
  case atStart => exact ⟨0, 0, by omega, by omega, rfl, rfl, hide rfl, rfl⟩
  case round =>
    obtain ⟨k, V, hk, hV, rfl, rfl, hN, rfl⟩ := hrel
    have hV4 : V < 4294967296 := Nat.lt_of_lt_of_le hV (by have := Nat.pow_le_pow_right (n := 256) (by omega) hk; omega)
    have HV := hide hV
    clear hV
    by_cases hlt : k < 4
    · obtain ⟨b, off, c, hab, hc, _, e0, htk⟩ := HL.out.at_ k hlt
      subst hab
      have HT := hide htk
      obtain ⟨Z, hZ⟩ : ∃ Z : Nat, Hid (Z = V * 256 + c) := ⟨_, rfl⟩
      have hor : bits .or .i64 ((V : Int) * 256) (c : Int) = (Z : Int) := by rw [hZ.out]; exact or_join V c (by omega) (by omega)
      have HZ := hide (show (Z : Int) = Mx.numL (l.take (k + 1)) by rw [HT.out, Mx.numL_snoc, ← hN.out, hZ.out]; omega)
      have HZB := hide (show Z < 256 ^ (k + 1) by have h1 := HV.out; rw [hZ.out, Nat.pow_succ]; omega)
      have hki : (k : Int) < 4 := by omega
      clear htk
      go_wp2_with fail
      go_roundw
      case rel => exact ⟨k + 1, Z, by omega, HZB.out, rfl, by go_num, HZ, trivial⟩
      case measure => simp [intOf]; omega
    · obtain rfl : k = 4 := by omega
      have HF := hide (show Mx.numL l = (V : Int) by rw [hN.out, List.take_of_length_le (by rw [HL.out.1]; omega)])
      go_wp2_with fail
      go_ret
      exact ⟨by rw [HF.out] <;> rfl, rfl⟩

end Go.Proofs.Ytfbmaemnbolplaa
