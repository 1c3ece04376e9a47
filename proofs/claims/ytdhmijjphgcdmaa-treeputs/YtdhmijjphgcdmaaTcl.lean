/-
  Copies in memory of their own: slices.Clone at numbers of 64 bits.
-/
import Derived.Test.YtdhmijjphgcdmaaTof
import Derived.Lib.SliceRun
namespace Go.Proofs.Ytdhmijjphgcdmaa
open Go.RowKit

set_option maxHeartbeats 1000000 in
set_option maxRecDepth 100000 in
theorem cloneU_any (b off n c : Nat) (l : List Nat) (w : World) (hl : U64s w (some ⟨b, off, none⟩) n l) (hn0 : 1 ≤ n) (hn : n ≤ 1000000) :
    Calls Try.prog 99 #[.slice (some ⟨b, off, none⟩) n c] w fun e w' => ∃ v, e = .returned v ∧ Hid (OwnU w' w.heap.size v l) ∧ Hid (Below w.heap.size w w') := by
  have q : ∀ (w : World) (a : Option Addr) (n c n' c' : Nat), (binOp .eql 92 (.slice a n c) (.slice none n' c')).run Try.prog w = .ok (.bool a.isNone) w := fun w a n c n' c' => Lib.run_eql_slice_nil w _ _ a n c n' c' Try.underlying92
  have HL := hide hl
  clear hl
  obtain ⟨i0, hi, hz0, hz1, hz2⟩ := info_parts Try.info78
  go_enter Try.func99, Try.ntmps99
  go_wp2_with (at_builtin; refine wpList_append_own _ rfl _ _ 92 rfl w.heap.size 78 i0 _ 1 8 Try.underlying92 hi hz0 hz1 hz2 rfl (by decide) _ _ _ rfl (World.ownsRow_made w #[] 0 (Nat.le_refl _) (Nat.zero_le _) (by simp)) ⟨b, off, none⟩ n c (l.map fun x : Nat => Value.int .u64 (x : Int)) rfl ?qc1 ?qc2 ?qc3 ?qc4 ?qc5 ?qc6 ?_)
  case qc1 => rw [List.length_map, HL.out.1, Nat.mul_one]
  case qc2 =>
    intro j u hj
    obtain ⟨b', off', hb, hlt, hc⟩ := HL.out.2.2.2 hn0
    cases hb
    rw [Addr.add_lit]
    have hjl : j < l.length := by have := (List.getElem?_eq_some_iff.1 hj).1; simpa using this
    have h1 := hc j (by rw [← HL.out.1]; exact hjl)
    rw [List.getElem?_map, List.getElem?_eq_getElem hjl] at hj
    rw [List.getD_eq_getElem?_getD, List.getElem?_eq_getElem hjl] at h1
    simp at hj h1
    subst hj
    exact Lib.cell?_alloc_some _ h1
  case qc3 =>
    intro u hu
    obtain ⟨z, _, rfl⟩ := List.mem_map.1 hu
    rfl
  case qc4 => unfold maxLen; omega
  case qc5 => omega
  case qc6 => simp
  intro v' w1 hown hgrow hnil
  have HO := hide hown
  have HG := hide hgrow
  clear hown hgrow hnil
  go_wp2
  go_ret
  refine ⟨v', rfl, ?_, ?_⟩
  · have := HO.out
    unfold Hid OwnU
    rw [HL.out.1]
    simpa using this
  · exact ((Below.refl _ w).alloc (Nat.le_refl _) _).grown HG.out (by simp) (by intro k hk; simp [Value.ownBlock] at hk; omega)

end Go.Proofs.Ytdhmijjphgcdmaa
