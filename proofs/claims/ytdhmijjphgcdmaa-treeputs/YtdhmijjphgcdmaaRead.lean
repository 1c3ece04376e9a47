/-
  A number at the front of bytes (readNumber): found, or there is none.
-/
import Derived.Test.YtdhmijjphgcdmaaCode
namespace Go.Proofs.Ytdhmijjphgcdmaa
open Go.RowKit

/-- what readNumber says of bytes: a number and how many bytes it takes, or 0, 0 where no frame's number is there -/
def NumAt (l : List Int) (n size : Nat) : Prop :=
  (1 ≤ size ∧ size ≤ l.length ∧ n ≤ 2147483647 ∧ l.take size = Mx.groups n) ∨ (size = 0 ∧ n = 0 ∧ ∀ x t, x ≤ 2147483647 → l ≠ Mx.groups x ++ t)

theorem or_add (V c m : Nat) (j : Nat) (hV : V < 2 ^ j) (hm : m = 2 ^ j) (hj : j ≤ 28) : bits .or .u64 (V : Int) ((c : Int) % 128 * (m : Int)) = ((V + c % 128 * m : Nat) : Int) := by
  have hp : 2 ^ j ≤ 2 ^ 28 := Nat.pow_le_pow_right (by omega) hj
  have hm28 : m ≤ 268435456 := by rw [hm]; exact hp
  have hb : c % 128 * m ≤ 127 * 268435456 := Nat.mul_le_mul (by omega) hm28
  have e : (c : Int) % 128 * (m : Int) = ((c % 128 * m : Nat) : Int) := by simp
  rw [e, u64_or_nat V (c % 128 * m) (by omega) (by omega)]
  congr 1
  have := Nat.two_pow_add_eq_or_of_lt (i := j) hV (c % 128)
  rw [hm, Nat.or_comm, Nat.mul_comm (c % 128), ← this, Nat.add_comm]

/-- behind j high bytes one more is read -/
theorem read_step (l : List Int) (j V c Z : Nat) (hl : j < l.length) (hV : V = Mx.gval (l.take j)) (hc : l.take (j + 1) = l.take j ++ [(c : Int)]) (hZ : Z = V + c % 128 * 128 ^ j) : Z = Mx.gval (l.take (j + 1)) := by
  rw [hc, Mx.gval_snoc, hZ, hV, List.length_take, Nat.min_eq_left (by omega)]
  simp

theorem read_bound (l : List Int) (j V : Nat) (hV : V = Mx.gval (l.take j)) : V < 128 ^ j := by
  have h1 := Mx.gval_lt (l.take j)
  have h2 : 128 ^ (l.take j).length ≤ 128 ^ j := Nat.pow_le_pow_right (by omega) (by rw [List.length_take]; omega)
  omega

theorem high_snoc (l : List Int) (j c : Nat) (hH : Mx.High (l.take j)) (ht : l.take (j + 1) = l.take j ++ [(c : Int)]) (h1 : 128 ≤ (c : Int)) (h2 : c ≤ 255) : Mx.High (l.take (j + 1)) := by
  rw [ht]
  intro d hd
  rcases List.mem_append.1 hd with h | h
  · exact hH d h
  · simp at h; omega

theorem drop_at (l : List Int) (j c : Nat) (hl : j < l.length) (hc : l.getD j 0 = (c : Int)) : l.drop j = (c : Int) :: l.drop (j + 1) := by
  rw [List.drop_eq_getElem_cons hl]
  rw [List.getD_eq_getElem?_getD, List.getElem?_eq_getElem hl] at hc
  simp at hc
  rw [hc]

/-- a low byte behind j high ones, and the number is good -/
theorem num_good (l : List Int) (j c Z : Nat) (hj : j < l.length) (hj4 : j ≤ 4) (hH : Mx.High (l.take j)) (ht : l.take (j + 1) = l.take j ++ [(c : Int)]) (hc : (c : Int) < 128) (hn : ¬ c = 0 ∨ j = 0) (hZ : Z = Mx.gval (l.take (j + 1))) (hm : (Z : Int) ≤ 2147483647) :
    NumAt l Z (j + 1) := by
  refine .inl ⟨by omega, by omega, by omega, ?_⟩
  have h2 := Mx.groups_of (l.take j) (c : Int) 9 hH (by omega) hc (by rcases hn with h | h; exact .inl (by omega); exact .inr (by rw [h]; simp)) (by rw [List.length_take]; omega)
  rw [ht] at hZ ⊢
  rw [hZ]
  exact h2.symm

/-- .. and it is none: a nought that pads, or too great -/
theorem num_bad (l : List Int) (j c Z : Nat) (hj : j < l.length) (hH : Mx.High (l.take j)) (hd : l.getD j 0 = (c : Int)) (hc : (c : Int) < 128) (hZ : Z = Mx.gval (l.take (j + 1))) (hb : (c = 0 ∧ j ≠ 0) ∨ 2147483647 < (Z : Int)) : NumAt l 0 0 := by
  refine .inr ⟨rfl, rfl, fun x t hx e => ?_⟩
  obtain ⟨_, _, h⟩ := Mx.scan l x j hx t e (by omega) hH
  obtain ⟨_, h2, h3, _⟩ := h _ _ (drop_at l j c hj hd) hc
  rcases hb with ⟨h4, h5⟩ | h4
  · rcases h3 with h3 | h3 <;> omega
  · omega

/-- .. all bytes are high, or five of them -/
theorem num_none (l : List Int) (j : Nat) (hj : j ≤ l.length) (hH : Mx.High (l.take j)) (he : j = l.length ∨ j = 5) : NumAt l 0 0 := by
  refine .inr ⟨rfl, rfl, fun x t hx e => ?_⟩
  obtain ⟨h1, h2, _⟩ := Mx.scan l x j hx t e hj hH
  rcases he with he | he
  · have := congrArg List.length e
    rw [List.length_append] at this
    omega
  · omega

set_option maxHeartbeats 1000000 in
set_option maxRecDepth 100000 in
theorem readNumber_any (a : Option Addr) (len cap : Nat) (l : List Int) (w : World) (hl : Bytes w a len l) :
    Calls Try.prog 104 #[.slice a len cap] w fun e w' => ∃ n size : Nat, e = .returned (.tuple #[.int .i64 n, .int .i64 size]) ∧ NumAt l n size ∧ w' = w := by
  have hlen : len ≤ maxLen := hl.2.1
  unfold maxLen at hlen
  have HL := hide hl.1
  have HB := hide hl
  clear hl
  go_enter Try.func104, Try.ntmps104
  go_wp2
  go_loop [4, 10] (fun v i => ∃ j V : Nat, j ≤ len ∧ j ≤ 5 ∧ Hid (V = Mx.gval (l.take j)) ∧ Hid (Mx.High (l.take j)) ∧ i = .int .i64 j ∧ v = .int .u64 V)
    (fun _ i => len - (intOf i).toNat)
  case atStart => exact ⟨0, 0, by omega, by omega, rfl, (fun c hc => absurd hc (by simp)), rfl, rfl⟩
  case round =>
    obtain ⟨j, V, hj, hj5, hV, hH, rfl, rfl⟩ := hrel
    by_cases hlt : j < len
    · obtain ⟨b, off, c, rfl, hc1, hc2, hcell, htk⟩ := (unhide HB).at_ j hlt
      have HC := hide hc2
      have HT := hide htk
      clear hc2 htk
      by_cases h5 : j = 5
      · have HN := hide (num_none l j (by rw [HL.out]; omega) hH.out (.inr h5))
        have h5' : ((j : Int) == 5) = true := by simp; omega
        clear h5
        go_wp2
        go_ret2
        exact ⟨0, 0, rfl, HN.out, rfl⟩
      · have HVB := hide (read_bound l j V hV.out)
        obtain rfl | rfl | rfl | rfl | rfl : j = 0 ∨ j = 1 ∨ j = 2 ∨ j = 3 ∨ j = 4 := by omega
        · obtain ⟨Z, hZ, hor⟩ : ∃ Z : Nat, Hid (Z = V + c % 128 * 1) ∧ bits .or .u64 (V : Int) ((c : Int) % 128) = (Z : Int) := ⟨_, rfl, by simpa using or_add V c 1 0 (by have := HVB.out; omega) rfl (by omega)⟩
          have HZ := hide (read_step l 0 V c Z (by rw [HL.out]; omega) hV.out HT.out (by rw [hZ.out]))
          have HJ := hide (show 0 < l.length by rw [HL.out]; omega)
          have hZs : (Z : Int) ≤ 2147483647 := by have := hZ.out; have := HVB.out; omega
          clear h5
          have hcell0 : w.cell? ⟨b, off, none⟩ = some (.int .u8 (c : Int)) := by simpa using hcell
          by_cases hc0 : c = 0
          · have hc0' : ((c : Int) == 0) = true := by simp; omega
            have hlow : (c : Int) < 128 := by omega
            clear hc0
            go_wp2_with fail
            go_ret2
            exact ⟨Z, 1, by go_num, num_good l 0 c Z HJ.out (by omega) hH.out HT.out ‹_› (.inr rfl) HZ.out ‹_›, rfl⟩
          · have hc0' : ((c : Int) == 0) = false := by simp; omega
            clear hc0
            go_wp2_with fail
            · go_ret2
              exact ⟨Z, 1, by go_num, num_good l 0 c Z HJ.out (by omega) hH.out HT.out ‹_› (.inr rfl) HZ.out ‹_›, rfl⟩
            · go_round
              case rel => exact ⟨1, Z, by omega, by omega, HZ, high_snoc l 0 c hH.out HT.out ‹_› hc1, rfl, rfl⟩
              case measure => simp [intOf]; omega
        · obtain ⟨Z, hZ, hor⟩ : ∃ Z : Nat, Hid (Z = V + c % 128 * 128) ∧ bits .or .u64 (V : Int) ((c : Int) % 128 * 128) = (Z : Int) := ⟨_, rfl, or_add V c 128 7 (by have := HVB.out; omega) rfl (by omega)⟩
          have HZ := hide (read_step l 1 V c Z (by rw [HL.out]; omega) hV.out HT.out (by rw [hZ.out]))
          have HJ := hide (show 1 < l.length by rw [HL.out]; omega)
          clear h5
          go_wp2_with fail
          · go_ret2
            exact ⟨0, 0, rfl, num_bad l 1 c Z HJ.out hH.out HC.out ‹_› HZ.out (.inl ⟨‹_›, by omega⟩), rfl⟩
          · go_ret2
            exact ⟨0, 0, rfl, num_bad l 1 c Z HJ.out hH.out HC.out ‹_› HZ.out (.inr ‹_›), rfl⟩
          · go_ret2
            exact ⟨Z, 2, by go_num, num_good l 1 c Z HJ.out (by omega) hH.out HT.out ‹_› (.inl ‹_›) HZ.out ‹_›, rfl⟩
          · go_round
            case rel => exact ⟨2, Z, by omega, by omega, HZ, high_snoc l 1 c hH.out HT.out ‹_› hc1, rfl, rfl⟩
            case measure => simp [intOf]; omega
        · obtain ⟨Z, hZ, hor⟩ : ∃ Z : Nat, Hid (Z = V + c % 128 * 16384) ∧ bits .or .u64 (V : Int) ((c : Int) % 128 * 16384) = (Z : Int) := ⟨_, rfl, or_add V c 16384 14 (by have := HVB.out; omega) rfl (by omega)⟩
          have HZ := hide (read_step l 2 V c Z (by rw [HL.out]; omega) hV.out HT.out (by rw [hZ.out]))
          have HJ := hide (show 2 < l.length by rw [HL.out]; omega)
          clear h5
          go_wp2_with fail
          · go_ret2
            exact ⟨0, 0, rfl, num_bad l 2 c Z HJ.out hH.out HC.out ‹_› HZ.out (.inl ⟨‹_›, by omega⟩), rfl⟩
          · go_ret2
            exact ⟨0, 0, rfl, num_bad l 2 c Z HJ.out hH.out HC.out ‹_› HZ.out (.inr ‹_›), rfl⟩
          · go_ret2
            exact ⟨Z, 3, by go_num, num_good l 2 c Z HJ.out (by omega) hH.out HT.out ‹_› (.inl ‹_›) HZ.out ‹_›, rfl⟩
          · go_round
            case rel => exact ⟨3, Z, by omega, by omega, HZ, high_snoc l 2 c hH.out HT.out ‹_› hc1, rfl, rfl⟩
            case measure => simp [intOf]; omega
        · obtain ⟨Z, hZ, hor⟩ : ∃ Z : Nat, Hid (Z = V + c % 128 * 2097152) ∧ bits .or .u64 (V : Int) ((c : Int) % 128 * 2097152) = (Z : Int) := ⟨_, rfl, or_add V c 2097152 21 (by have := HVB.out; omega) rfl (by omega)⟩
          have HZ := hide (read_step l 3 V c Z (by rw [HL.out]; omega) hV.out HT.out (by rw [hZ.out]))
          have HJ := hide (show 3 < l.length by rw [HL.out]; omega)
          clear h5
          go_wp2_with fail
          · go_ret2
            exact ⟨0, 0, rfl, num_bad l 3 c Z HJ.out hH.out HC.out ‹_› HZ.out (.inl ⟨‹_›, by omega⟩), rfl⟩
          · go_ret2
            exact ⟨0, 0, rfl, num_bad l 3 c Z HJ.out hH.out HC.out ‹_› HZ.out (.inr ‹_›), rfl⟩
          · go_ret2
            exact ⟨Z, 4, by go_num, num_good l 3 c Z HJ.out (by omega) hH.out HT.out ‹_› (.inl ‹_›) HZ.out ‹_›, rfl⟩
          · go_round
            case rel => exact ⟨4, Z, by omega, by omega, HZ, high_snoc l 3 c hH.out HT.out ‹_› hc1, rfl, rfl⟩
            case measure => simp [intOf]; omega
        · obtain ⟨Z, hZ, hor⟩ : ∃ Z : Nat, Hid (Z = V + c % 128 * 268435456) ∧ bits .or .u64 (V : Int) ((c : Int) % 128 * 268435456) = (Z : Int) := ⟨_, rfl, or_add V c 268435456 28 (by have := HVB.out; omega) rfl (by omega)⟩
          have HZ := hide (read_step l 4 V c Z (by rw [HL.out]; omega) hV.out HT.out (by rw [hZ.out]))
          have HJ := hide (show 4 < l.length by rw [HL.out]; omega)
          clear h5
          go_wp2_with fail
          · go_ret2
            exact ⟨0, 0, rfl, num_bad l 4 c Z HJ.out hH.out HC.out ‹_› HZ.out (.inl ⟨‹_›, by omega⟩), rfl⟩
          · go_ret2
            exact ⟨0, 0, rfl, num_bad l 4 c Z HJ.out hH.out HC.out ‹_› HZ.out (.inr ‹_›), rfl⟩
          · go_ret2
            exact ⟨Z, 5, by go_num, num_good l 4 c Z HJ.out (by omega) hH.out HT.out ‹_› (.inl ‹_›) HZ.out ‹_›, rfl⟩
          · go_round
            case rel => exact ⟨5, Z, by omega, by omega, HZ, high_snoc l 4 c hH.out HT.out ‹_› hc1, rfl, rfl⟩
            case measure => simp [intOf]; omega
    · have HN := hide (num_none l j (by rw [HL.out]; omega) hH.out (.inl (by rw [HL.out]; omega)))
      go_wp2
      go_ret2
      exact ⟨0, 0, rfl, HN.out, rfl⟩
end Go.Proofs.Ytdhmijjphgcdmaa
