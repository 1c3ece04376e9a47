/-
  A frame that comes in, read: a number, numbers, blocks.
-/
import Derived.ProofKit
import Derived.OpenShut
import Derived.ChangeOld
import Derived.Below
import Derived.Deep.Slices
import Derived.Lib.SmallJoins
import Derived.Test.YtfbmaemnbolplaaDoorZIs

namespace Go.Proofs.YtfbmaemnbolplaaDoor
open Go.ChangeShapes Go.WideShapes Go.ChangeAt Go.RowKit

theorem Tryd.own : ownKnob Tryd.prog.godebug = none := by kernel_rfl
theorem Tryd.laidOut : laidOutB Tryd.prog = true := by kernel_rfl

theorem Tryd.cells3 : Tryd.prog.cellsOf 3 = 1 := by kernel_rfl
theorem Tryd.cells5 : Tryd.prog.cellsOf 5 = 1 := by kernel_rfl
theorem Tryd.cells25 : Tryd.prog.cellsOf 25 = 8 := by kernel_rfl

section
variable {H : Type} {enc : TypeId × Value → H} {W : World}

theorem addr_form {x : Addr} {v : Value} (h : W.cell? (x.add 0) = some v) : ∃ b off, x = ⟨b, off, none⟩ ∧ b < W.heap.size := by
  obtain ⟨b, off, spot⟩ := x
  have hs : spot = none := by simpa [Addr.add] using World.cell?_spot h
  subst hs
  exact ⟨b, off, rfl, by simpa [Addr.add] using World.block_lt_of_cell? W _ h⟩

theorem addr_add (b off i : Nat) : (⟨b, off, none⟩ : Addr).add i = ⟨b, off + i, none⟩ := by
  unfold Addr.add
  by_cases h : i = 0 <;> simp [h]

/-- one block: eight bytes -/
theorem open_block {fuel : Nat} {cs : List Value} {x : DataW H × List MemPlace} (h : DataW.trod enc Tryd.prog W 0 (fun _ => true) true fuel 25 cs = some x) :
    ∀ j, j < 8 → ∃ z : Int, cs[j]? = some (.int .u8 z) ∧ 0 ≤ z ∧ z ≤ 255 := by
  obtain ⟨xs, m, _, _, hl, hx, hr⟩ := DataW.trod_array Tryd.underlying25 h
  rw [Tryd.cells25] at hl
  intro j hj
  have h1 := hr j hj
  rw [Tryd.cells5, Nat.mul_one, List.getElem?_eq_getElem (by omega)] at h1
  obtain ⟨n, hn, _, hw⟩ := DataW.trod_int Tryd.underlying5 h1
  have hb := bounds_u8 hw
  refine ⟨n, ?_, by omega, by omega⟩
  have := congrArg (fun l => l[0]?) hn
  simpa using this

/-- blocks -/
theorem open_blocks {fuel : Nat} {v : Value} {x : DataW H × List MemPlace} (h : DataW.trod enc Tryd.prog W 0 (fun _ => true) true fuel 22 [v] = some x) :
    ∃ a len cap l, v = .slice a len cap ∧ Blks W a len l := by
  rcases Deep.open_slice Tryd.underlying22 h with ⟨hcs, _⟩ | ⟨x, len, cap, m, n, D, Pl, hcs, _, hl, hm, hmm, _, hcell⟩
  · simp at hcs
    exact ⟨none, 0, 0, [], hcs, rfl, by unfold maxLen; omega, by simp, fun h => absurd h (by omega)⟩
  · simp at hcs hmm
    have each : ∀ i, i < 8 * len → ∃ z : Int, W.cell? (x.add i) = some (.int .u8 z) ∧ 0 ≤ z ∧ z ≤ 255 := by
      intro i hi
      obtain ⟨cs', h1, h2⟩ := hcell (i / 8) (by omega)
      rw [Tryd.cells25] at h1
      obtain ⟨z, hz, h3, h4⟩ := open_block h2 (i % 8) (by omega)
      have := (World.cells?_some h1).2.2 (i % 8) (by omega)
      rw [Deep.add_add, show i / 8 * 8 + i % 8 = i by omega] at this
      exact ⟨z, by rw [this, hz], h3, h4⟩
    obtain ⟨f, hf⟩ := Deep.choose_lt each
    refine ⟨some x, len, cap, (List.range (8 * len)).map f, hcs, by simp, by omega, fun z hz => ?_, fun hp => ?_⟩
    · obtain ⟨i, hi, rfl⟩ := List.mem_map.1 hz
      exact (hf i (List.mem_range.1 hi)).2
    · obtain ⟨b, off, rfl, hb⟩ := addr_form (hf 0 (by omega)).1
      refine ⟨b, off, rfl, hb, fun i hi => ?_⟩
      have := (hf i hi).1
      rw [addr_add] at this
      rw [this]
      simp [List.getD_eq_getElem?_getD, hi]

end
end Go.Proofs.YtfbmaemnbolplaaDoor
