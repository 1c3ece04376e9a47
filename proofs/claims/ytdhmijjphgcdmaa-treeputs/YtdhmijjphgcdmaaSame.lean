/-
  Two lists, two frames: are they the same? (SameBytes, SameInts, SameBlocks, SameFrame)
-/
import Derived.Test.YtdhmijjphgcdmaaRead
namespace Go.Proofs.Ytdhmijjphgcdmaa
open Go.RowKit

theorem take_eq_all {l1 l2 : List Int} {n k : Nat} (h1 : l1.length = n) (h2 : l2.length = n) (h : l1.take k = l2.take k) (hk : n ≤ k) : l1 = l2 := by
  rw [← List.take_of_length_le (l := l1) (i := k) (by omega), ← List.take_of_length_le (l := l2) (i := k) (by omega), h]

set_option maxHeartbeats 400000 in
set_option maxRecDepth 100000 in
theorem sameBytes_gen (a1 a2 : Option Addr) (n1 c1 n2 c2 : Nat) (l1 l2 : List Int) (w : World) (h1 : Bytes w a1 n1 l1) (h2 : Bytes w a2 n2 l2) :
    Calls Try.prog 19 #[.slice a1 n1 c1, .slice a2 n2 c2] w fun e w' => ∃ r : Bool, e = .returned (.bool r) ∧ (r = true ↔ l1 = l2) ∧ ∃ n, w' = w.drewN n := by
  have hlen : n1 ≤ maxLen := h1.2.1
  have hlen2 : n2 ≤ maxLen := h2.2.1
  unfold maxLen at hlen hlen2
  have H1 := hide h1
  have H2 := hide h2
  clear h1 h2
  by_cases hn : n1 = n2
  · subst hn
    go_enter Try.func19, Try.ntmps19
    go_wp2
    go_loopw [5] (fun i wr => ∃ k : Nat, k ≤ n1 ∧ i = .int .i64 k ∧ Hid (l1.take k = l2.take k) ∧ ∃ n, wr = w.drewN n) (fun i _ => n1 - (intOf i).toNat)
    case atStart => exact ⟨0, by omega, rfl, rfl, 0, rfl⟩
    case round =>
      obtain ⟨k, hk, rfl, hE, n, rfl⟩ := hrel
      by_cases hlt : k < n1
      · obtain ⟨b, off, c, rfl, hc1, hc2, hcell, htk⟩ := (unhide H1).at_ k hlt
        obtain ⟨b', off', c', rfl, hc1', hc2', hcell', htk'⟩ := (unhide H2).at_ k hlt
        have HT := hide htk
        have HT' := hide htk'
        clear hc2 hc2' htk htk'
        by_cases hcc : c = c'
        · subst hcc
          go_wp2_with fail
          go_quiet (fail)
          go_wp2
          go_roundw
          case rel => exact ⟨k + 1, by omega, by go_num, by unfold Hid; rw [HT.out, HT'.out, hE.out], _, rfl⟩
          case measure => simp [intOf]; omega
        · have hne : ((c : Int) != (c' : Int)) = true := by simp; omega
          have HF := hide (show ¬ l1 = l2 by
            intro e
            have h3 := HT.out
            rw [e, HT'.out] at h3
            have := (List.append_inj' h3 rfl).2
            simp at this
            omega)
          clear hcc
          go_wp2_with fail
          go_quiet (fail)
          go_wp2
          go_ret
          exact ⟨false, rfl, ⟨fun h => by simp at h, fun h => absurd h HF.out⟩, _, by rw [World.drewN_drewN]⟩
      · have HF := hide (take_eq_all H1.out.1 H2.out.1 hE.out (by omega))
        go_wp2
        go_ret
        exact ⟨true, rfl, ⟨fun _ => HF.out, fun _ => rfl⟩, _, rfl⟩
  · have hne : ((n1 : Int) != (n2 : Int)) = true := by simp; omega
    have HF := hide (show ¬ l1 = l2 by
      intro e
      have h3 := H1.out.1
      rw [e, H2.out.1] at h3
      omega)
    clear hn
    go_enter Try.func19, Try.ntmps19
    go_wp2
    go_ret
    exact ⟨false, rfl, ⟨fun h => by simp at h, fun h => absurd h HF.out⟩, 0, rfl⟩

theorem ints_take {w : World} {a : Option Addr} {len : Nat} {l : List Int} (h : Ints w a len l) (k : Nat) (hk : k < len) :
    ∃ b off, ∃ x : Int, a = some ⟨b, off, none⟩ ∧ w.cell? ⟨b, off + k, none⟩ = some (.int .i64 x) ∧ l.take (k + 1) = l.take k ++ [x] := by
  obtain ⟨b, off, x, ha, _, hx, hc⟩ := h.at_ k hk
  exact ⟨b, off, x, ha, hc, Mx.take_snoc l k x (by rw [h.1]; exact hk) hx⟩

set_option maxHeartbeats 400000 in
set_option maxRecDepth 100000 in
theorem sameInts_gen (a1 a2 : Option Addr) (n1 c1 n2 c2 : Nat) (l1 l2 : List Int) (w : World) (h1 : Ints w a1 n1 l1) (h2 : Ints w a2 n2 l2) :
    Calls Try.prog 54 #[.slice a1 n1 c1, .slice a2 n2 c2] w fun e w' => ∃ r : Bool, e = .returned (.bool r) ∧ (r = true ↔ l1 = l2) ∧ ∃ n, w' = w.drewN n := by
  have hlen : n1 ≤ maxLen := h1.2.1
  have hlen2 : n2 ≤ maxLen := h2.2.1
  unfold maxLen at hlen hlen2
  have H1 := hide h1
  have H2 := hide h2
  clear h1 h2
  by_cases hn : n1 = n2
  · subst hn
    go_enter Try.func54, Try.ntmps54
    go_wp2
    go_loopw [5] (fun i wr => ∃ k : Nat, k ≤ n1 ∧ i = .int .i64 k ∧ Hid (l1.take k = l2.take k) ∧ ∃ n, wr = w.drewN n) (fun i _ => n1 - (intOf i).toNat)
    case atStart => exact ⟨0, by omega, rfl, rfl, 0, rfl⟩
    case round =>
      obtain ⟨k, hk, rfl, hE, n, rfl⟩ := hrel
      by_cases hlt : k < n1
      · obtain ⟨b, off, c, rfl, hcell, htk⟩ := ints_take (unhide H1) k hlt
        obtain ⟨b', off', c', rfl, hcell', htk'⟩ := ints_take (unhide H2) k hlt
        have HT := hide htk
        have HT' := hide htk'
        clear htk htk'
        by_cases hcc : c = c'
        · subst hcc
          go_wp2_with fail
          go_quiet (fail)
          go_wp2
          go_roundw
          case rel => exact ⟨k + 1, by omega, by go_num, by unfold Hid; rw [HT.out, HT'.out, hE.out], _, rfl⟩
          case measure => simp [intOf]; omega
        · have hne : (c != c') = true := by simpa using hcc
          have HF := hide (show ¬ l1 = l2 by
            intro e
            have h3 := HT.out
            rw [e, HT'.out] at h3
            have := (List.append_inj' h3 rfl).2
            simp at this
            exact hcc this.symm)
          clear hcc
          go_wp2_with fail
          go_quiet (fail)
          go_wp2
          go_ret
          exact ⟨false, rfl, ⟨fun h => by simp at h, fun h => absurd h HF.out⟩, _, by rw [World.drewN_drewN]⟩
      · have HF := hide (take_eq_all H1.out.1 H2.out.1 hE.out (by omega))
        go_wp2
        go_ret
        exact ⟨true, rfl, ⟨fun _ => HF.out, fun _ => rfl⟩, _, rfl⟩
  · have hne : ((n1 : Int) != (n2 : Int)) = true := by simp; omega
    have HF := hide (show ¬ l1 = l2 by
      intro e
      have h3 := H1.out.1
      rw [e, H2.out.1] at h3
      omega)
    clear hn
    go_enter Try.func54, Try.ntmps54
    go_wp2
    go_ret
    exact ⟨false, rfl, ⟨fun h => by simp at h, fun h => absurd h HF.out⟩, 0, rfl⟩
end Go.Proofs.Ytdhmijjphgcdmaa
