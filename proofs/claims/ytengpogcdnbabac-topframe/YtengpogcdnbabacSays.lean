/-
  For every frame: whether it may be, and its bytes, are what the document's answer says (FrameSays): the walk.
-/
import Derived.Test.YtengpogcdnbabacPack
namespace Go.Proofs.Ytengpogcdnbabac
open Go.RowKit

theorem bytes_nil (w : World) : Bytes w none 0 [] := ⟨rfl, by unfold maxLen; omega, by simp, fun h => absurd h (by omega)⟩

theorem packB_byte {w : World} {kind : Int} {a2 : Option Addr} {n2 : Nat} {l bs : List Int} (h2 : Blks w a2 n2 bs) (hm : Mx.may kind l n2 = 0) : ∀ x ∈ Mx.packB kind l n2 bs, 0 ≤ x ∧ x ≤ 255 := by
  obtain ⟨hk0, hk1, hll, hn2, hg⟩ := may_facts hm
  intro x hx
  rw [Mx.packB, List.mem_append] at hx
  rcases hx with hx | hx
  · exact Mx.bodyB_byte hk0 hk1 hll hn2 hg h2.2.2.1 x hx
  · have := Mx.crc_lt (Mx.bodyB kind l n2 bs)
    simp only [Mx.sealB, List.mem_cons, List.not_mem_nil, or_false] at hx
    rcases hx with rfl | rfl | rfl | rfl <;> omega

/-- a frame in its box, and all that was there -/
def Boxf (w wr : World) (s0 s1 s2 : Value) : Prop :=
  wr.cell? ⟨w.heap.size, 0, none⟩ = some s0 ∧ wr.cell? ⟨w.heap.size, 1, none⟩ = some s1 ∧ wr.cell? ⟨w.heap.size, 2, none⟩ = some s2 ∧ Below w.heap.size w wr ∧ w.heap.size < wr.heap.size

theorem Boxf.start (w : World) (s0 s1 s2 : Value) : Boxf w (w.alloc (.cells #[s0, s1, s2] 25)) s0 s1 s2 :=
  ⟨by rw [World.cell?_alloc_new]; rfl, by rw [World.cell?_alloc_new]; rfl, by rw [World.cell?_alloc_new]; rfl, below_alloc _ _, by simp⟩

theorem Boxf.later {w wr w' : World} {s0 s1 s2 : Value} (h : Boxf w wr s0 s1 s2) (hb : Below wr.heap.size wr w') : Boxf w w' s0 s1 s2 :=
  ⟨(hb.cell (p := ⟨w.heap.size, 0, none⟩) h.2.2.2.2).trans h.1, (hb.cell (p := ⟨w.heap.size, 1, none⟩) h.2.2.2.2).trans h.2.1, (hb.cell (p := ⟨w.heap.size, 2, none⟩) h.2.2.2.2).trans h.2.2.1,
    h.2.2.2.1.trans (hb.mono (by have := h.2.2.2.2; omega)), by have := hb.size; have := h.2.2.2.2; omega⟩

end Go.Proofs.Ytengpogcdnbabac
