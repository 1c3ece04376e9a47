/-
  A frame that comes in, read: a number, numbers, blocks.
-/
import Derived.ProofKit
import Derived.OpenShut
import Derived.ChangeOld
import Derived.Below
import Derived.Deep.Slices
import Derived.Lib.SmallJoins
import Derived.Test.YtfbmaemnbolplaaZSums
import Derived.Test.YtfbmaemnbolplaaZIs

namespace Go.Proofs.Ytfbmaemnbolplaa
open Go.ChangeShapes Go.WideShapes Go.ChangeAt Go.RowKit

theorem Try.own : ownKnob Try.prog.godebug = none := by kernel_rfl
theorem Try.laidOut : laidOutB Try.prog = true := by kernel_rfl

theorem Try.cells3 : Try.prog.cellsOf 3 = 1 := by kernel_rfl
theorem Try.cells5 : Try.prog.cellsOf 5 = 1 := by kernel_rfl
theorem Try.cells38 : Try.prog.cellsOf 38 = 8 := by kernel_rfl

section
variable {H : Type} {enc : TypeId × Value → H} {W : World}

theorem addr_form {x : Addr} {v : Value} (h : W.cell? (x.add 0) = some v) : ∃ b off, x = ⟨b, off, none⟩ ∧ b < W.heap.size := by
  obtain ⟨b, off, spot⟩ := x
  have hs : spot = none := by simpa [Addr.add] using World.cell?_spot h
  subst hs
  exact ⟨b, off, rfl, by simpa [Addr.add] using World.block_lt_of_cell? W _ h⟩

theorem addr_add (b off i : Nat) : (⟨b, off, none⟩ : Addr).add i = ⟨b, off + i, none⟩ := by
  unfold Addr.add
  by_cases h : i = 0 <;> simp [h]

/-- numbers -/
theorem open_nums {fuel : Nat} {v : Value} {x : DataW H × List MemPlace} (h : DataW.trod enc Try.prog W 0 (fun _ => true) true fuel 46 [v] = some x) :
    ∃ a len cap l, v = .slice a len cap ∧ Ints W a len l := by
  rcases open_ints Try.underlying46 Try.underlying3 Try.cells3 h with ⟨hcs, _⟩ | ⟨x, len, cap, zs, hcs, _, hl, hm, hz, _, hcell, _⟩
  · simp at hcs
    exact ⟨none, 0, 0, [], hcs, rfl, by unfold maxLen; omega, fun h => absurd h (by omega)⟩
  · simp at hcs hz
    refine ⟨some x, len, cap, zs.take len, hcs, by rw [List.length_take]; omega, by omega, fun hp => ?_⟩
    obtain ⟨b, off, rfl, hb⟩ := addr_form (hcell 0 (by omega))
    refine ⟨b, off, rfl, hb, fun i hi => ?_⟩
    have := hcell i (by omega)
    rw [addr_add] at this
    rw [this]
    simp [List.getD_eq_getElem?_getD, hi]

/-- bytes -/
theorem open_bytes {fuel : Nat} {v : Value} {x : DataW H × List MemPlace} (h : DataW.trod enc Try.prog W 0 (fun _ => true) true fuel 72 [v] = some x) :
    ∃ a len cap l, v = .slice a len cap ∧ Bytes W a len l := by
  rcases open_ints Try.underlying72 Try.underlying5 Try.cells5 h with ⟨hcs, _⟩ | ⟨x, len, cap, zs, hcs, _, hl, hm, hz, _, hcell, hwf⟩
  · simp at hcs
    exact ⟨none, 0, 0, [], hcs, bytes_nil W⟩
  · simp at hcs hz
    refine ⟨some x, len, cap, zs.take len, hcs, by rw [List.length_take]; omega, by omega, fun z hz' => ?_, fun hp => ?_⟩
    · have := bounds_u8 (hwf z (List.mem_of_mem_take hz'))
      omega
    · obtain ⟨b, off, rfl, hb⟩ := addr_form (hcell 0 (by omega))
      refine ⟨b, off, rfl, fun i hi => ?_⟩
      have := hcell i (by omega)
      rw [addr_add] at this
      rw [this]
      simp [List.getD_eq_getElem?_getD, hi]

/-- one block: eight bytes -/
theorem open_block {fuel : Nat} {cs : List Value} {x : DataW H × List MemPlace} (h : DataW.trod enc Try.prog W 0 (fun _ => true) true fuel 38 cs = some x) :
    ∀ j, j < 8 → ∃ z : Int, cs[j]? = some (.int .u8 z) ∧ 0 ≤ z ∧ z ≤ 255 := by
  obtain ⟨xs, m, _, _, hl, hx, hr⟩ := DataW.trod_array Try.underlying38 h
  rw [Try.cells38] at hl
  intro j hj
  have h1 := hr j hj
  rw [Try.cells5, Nat.mul_one, List.getElem?_eq_getElem (by omega)] at h1
  obtain ⟨n, hn, _, hw⟩ := DataW.trod_int Try.underlying5 h1
  have hb := bounds_u8 hw
  refine ⟨n, ?_, by omega, by omega⟩
  have := congrArg (fun l => l[0]?) hn
  simpa using this

/-- blocks -/
theorem open_blocks {fuel : Nat} {v : Value} {x : DataW H × List MemPlace} (h : DataW.trod enc Try.prog W 0 (fun _ => true) true fuel 27 [v] = some x) :
    ∃ a len cap l, v = .slice a len cap ∧ Blks W a len l := by
  rcases Deep.open_slice Try.underlying27 h with ⟨hcs, _⟩ | ⟨x, len, cap, m, n, D, Pl, hcs, _, hl, hm, hmm, _, hcell⟩
  · simp at hcs
    exact ⟨none, 0, 0, [], hcs, rfl, by unfold maxLen; omega, by simp, fun h => absurd h (by omega)⟩
  · simp at hcs hmm
    have each : ∀ i, i < 8 * len → ∃ z : Int, W.cell? (x.add i) = some (.int .u8 z) ∧ 0 ≤ z ∧ z ≤ 255 := by
      intro i hi
      obtain ⟨cs', h1, h2⟩ := hcell (i / 8) (by omega)
      rw [Try.cells38] at h1
      obtain ⟨z, hz, h3, h4⟩ := open_block h2 (i % 8) (by omega)
      have := (World.cells?_some h1).2.2 (i % 8) (by omega)
      rw [Deep.add_add, show i / 8 * 8 + i % 8 = i by omega] at this
      exact ⟨z, by rw [this, hz], h3, h4⟩
    obtain ⟨f, hf⟩ := Deep.choose_lt each
    refine ⟨some x, len, cap, (List.range (8 * len)).map f, hcs, by simp, by omega, fun z hz => ?_, fun hp => ?_⟩
    · obtain ⟨i, hi, rfl⟩ := List.mem_map.1 hz
      exact (hf i (List.mem_range.1 hi)).2
    · obtain ⟨b, off, rfl, hb⟩ := addr_form (hf 0 (by omega)).1
      refine ⟨b, off, rfl, hb, fun i hi => ?_⟩
      have := (hf i hi).1
      rw [addr_add] at this
      rw [this]
      simp [List.getD_eq_getElem?_getD, hi]

end
end Go.Proofs.Ytfbmaemnbolplaa

/-
  Numbers that come in, each as the machine has it.
-/
namespace Go.Proofs.Ytfbmaemnbolplaa
open Go.ChangeShapes Go.WideShapes Go.ChangeAt Go.RowKit

section
variable {H : Type} {enc : TypeId × Value → H} {W : World}
/-- numbers, in their bounds -/
theorem open_numsb {fuel : Nat} {v : Value} {x : DataW H × List MemPlace} (h : DataW.trod enc Try.prog W 0 (fun _ => true) true fuel 46 [v] = some x) :
    ∃ a len cap l, v = .slice a len cap ∧ Ints W a len l ∧ I64 l := by
  rcases open_ints Try.underlying46 Try.underlying3 Try.cells3 h with ⟨hcs, _⟩ | ⟨x, len, cap, zs, hcs, _, hl, hm, hz, _, hcell, hwf⟩
  · simp at hcs
    exact ⟨none, 0, 0, [], hcs, ⟨rfl, by unfold maxLen; omega, fun h => absurd h (by omega)⟩, fun x hx => by simp at hx⟩
  · simp at hcs hz
    refine ⟨some x, len, cap, zs.take len, hcs, ⟨by rw [List.length_take]; omega, by omega, fun hp => ?_⟩, fun z hz' => ?_⟩
    · obtain ⟨b, off, rfl, hb⟩ := addr_form (hcell 0 (by omega))
      refine ⟨b, off, rfl, hb, fun i hi => ?_⟩
      have := hcell i (by omega)
      rw [addr_add] at this
      rw [this]
      simp [List.getD_eq_getElem?_getD, hi]
    · have := bounds_i64 (hwf z (List.mem_of_mem_take hz'))
      exact ⟨by omega, by omega⟩
theorem wf_i64x {x : Int} (h : (Lit.int .i64 x).wf = true) : I64x x := by
  have := bounds_i64 h
  exact ⟨by omega, by omega⟩
end
end Go.Proofs.Ytfbmaemnbolplaa

/-
  A row of numbers as an argument, with its room.
-/
namespace Go.Proofs.Ytfbmaemnbolplaa
open Go.ChangeShapes Go.WideShapes Go.ChangeAt Go.RowKit

theorem open_numsR {H : Type} {enc : TypeId × Value → H} {W : World} {fuel : Nat} {v : Value} {x : DataW H × List MemPlace} (h : DataW.trod enc Try.prog W 0 (fun _ => true) true fuel 46 [v] = some x) :
    ∃ a len cap l, v = .slice a len cap ∧ Ints W a len l ∧ I64 l ∧ len ≤ cap := by
  obtain ⟨a, len, cap, l, hv, hb, hi⟩ := open_numsb h
  refine ⟨a, len, cap, l, hv, hb, hi, ?_⟩
  rcases open_ints Try.underlying46 Try.underlying3 Try.cells3 h with ⟨hcs, _⟩ | ⟨x, len', cap', zs, hcs, _, hl, _⟩
  · rw [hv] at hcs
    simp at hcs
    omega
  · rw [hv] at hcs
    simp at hcs
    omega

end Go.Proofs.Ytfbmaemnbolplaa
