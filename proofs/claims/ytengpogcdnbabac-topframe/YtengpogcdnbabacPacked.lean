/-
  The document's own packing (Packed): the bytes that A1 says.
-/
import Derived.Test.YtengpogcdnbabacSeal
namespace Go.Proofs.Ytengpogcdnbabac
open Go.RowKit

namespace Mx
/-- the numbers' groups, one behind the other -/
def numB (nums : List Int) : List Int := nums.flatMap fun x => groups x.toNat
/-- what stands ahead of the sum -/
def bodyB (kind : Int) (nums : List Int) (nb : Nat) (bs : List Int) : List Int := [16 * kind + (nums.length : Int), (nb : Int)] ++ (numB nums ++ bs)
def packB (kind : Int) (nums : List Int) (nb : Nat) (bs : List Int) : List Int := bodyB kind nums nb bs ++ sealB (crc (bodyB kind nums nb bs))
theorem numB_snoc (l : List Int) (k : Nat) (x : Int) (hk : k < l.length) (hx : l.getD k 0 = x) : numB (l.take (k + 1)) = numB (l.take k) ++ groups x.toNat := by
  rw [List.take_succ_eq_append_getElem hk]
  rw [List.getD_eq_getElem?_getD, List.getElem?_eq_getElem hk] at hx
  simp only [Option.getD_some] at hx
  simp [numB, hx]
theorem groups_len (x : Nat) : (groups x).length ≤ 10 := groupsF_len 9 x
theorem numB_len (l : List Int) : (numB l).length ≤ 10 * l.length := by
  induction l with
  | nil => simp [numB]
  | cons x l ih => simp [numB] at *; have := groups_len x.toNat; omega
theorem numB_byte (l : List Int) (h : ∀ x ∈ l, 0 ≤ x ∧ x ≤ 2147483647) : ∀ c ∈ numB l, 0 ≤ c ∧ c ≤ 255 := by
  intro c hc
  simp only [numB, List.mem_flatMap] at hc
  obtain ⟨x, hx, hc⟩ := hc
  have hb := h x hx
  exact groupsF_byte 9 x.toNat (by omega) c hc
theorem bodyB_byte {kind : Int} {l : List Int} {nb : Nat} {bs : List Int} (h0 : 0 ≤ kind) (h1 : kind ≤ 15) (hl : l.length ≤ 12) (hn : nb ≤ 32) (hg : ∀ x ∈ l, 0 ≤ x ∧ x ≤ 2147483647) (hb : ∀ x ∈ bs, 0 ≤ x ∧ x ≤ 255) :
    ∀ x ∈ bodyB kind l nb bs, 0 ≤ x ∧ x ≤ 255 := by
  intro x hx
  simp only [bodyB, List.mem_append, List.mem_cons, List.not_mem_nil, or_false] at hx
  rcases hx with (rfl | rfl) | hx | hx
  · omega
  · omega
  · exact numB_byte l hg x hx
  · exact hb x hx
theorem bodyB_len {kind : Int} {l : List Int} {nb : Nat} {bs : List Int} (hl : l.length ≤ 12) (hn : nb ≤ 32) (hb : bs.length = 8 * nb) : (bodyB kind l nb bs).length ≤ 2000 := by
  have := numB_len l
  simp [bodyB]
  omega
theorem take_snoc (l : List Int) (k : Nat) (x : Int) (hk : k < l.length) (hx : l.getD k 0 = x) : l.take (k + 1) = l.take k ++ [x] := by
  rw [List.take_succ_eq_append_getElem hk]
  rw [List.getD_eq_getElem?_getD, List.getElem?_eq_getElem hk] at hx
  simp only [Option.getD_some] at hx
  rw [hx]
end Mx

theorem own_bytes {w : World} {base g n cap : Nat} {l : List Int} (h : Own w base (.slice (some ⟨g, 0, none⟩) n cap) l) (hb : ∀ x ∈ l, 0 ≤ x ∧ x ≤ 255) : Bytes w (some ⟨g, 0, none⟩) n l := by
  have hc := World.ownsRow.cells h (g := g) rfl
  rcases h.2 with ⟨hv, _⟩ | ⟨g', cap', cur, hv, _, _, hle, hmx, _⟩
  · simp at hv
  · simp at hv
    obtain ⟨rfl, rfl, rfl⟩ := hv
    refine ⟨rfl, by omega, hb, fun _ => ⟨g, 0, rfl, fun i hi => ?_⟩⟩
    have := hc i (.int .u8 (l.getD i 0)) (by rw [List.getElem?_map, List.getD_eq_getElem?_getD, List.getElem?_eq_getElem hi]; rfl)
    have hadd : (⟨g, 0, none⟩ : Addr).add i = ⟨g, 0 + i, none⟩ := by unfold Addr.add; split <;> simp_all
    rw [← hadd]
    exact this

theorem own_drewN {w : World} {base : Nat} {v : Value} {l : List Int} (h : Own w base v l) (n : Nat) : Own (w.drewN n) base v l := h

/-- the slice of blocks reads as these bytes, eight a block -/
def Blks (w : World) (a : Option Addr) (n : Nat) (bs : List Int) : Prop :=
  bs.length = 8 * n ∧ n ≤ maxLen ∧ (∀ x ∈ bs, 0 ≤ x ∧ x ≤ 255) ∧ (0 < n → ∃ b off, a = some ⟨b, off, none⟩ ∧ b < w.heap.size ∧ ∀ i, i < 8 * n → w.cell? ⟨b, off + i, none⟩ = some (.int .u8 (bs.getD i 0)))

theorem own_made (w : World) (base : Nat) (l : List Int) (arr : Array Value) (h : arr = (l.map (Value.int .u8)).toArray) (hb : base ≤ w.heap.size) (hl : l.length ≤ 1000000) :
    Own (w.alloc (.cells arr 5)) base (.slice (some ⟨w.heap.size, 0, none⟩) l.length l.length) l := by
  subst h
  refine ⟨by simp, .inr ⟨w.heap.size, l.length, (l.map (Value.int .u8)).toArray, rfl, hb, heap_alloc_new w _, Nat.le_refl _, by unfold maxLen; omega, by simp, ?_⟩⟩
  rw [List.take_of_length_le (by simp)]

/-- what a packing keeps: the box of the frame, and all that was there -/
def Boxed (w wr : World) (s1 s2 : Value) : Prop :=
  wr.cell? ⟨w.heap.size, 1, none⟩ = some s1 ∧ wr.cell? ⟨w.heap.size, 2, none⟩ = some s2 ∧ Below w.heap.size w wr ∧ w.heap.size + 1 ≤ wr.heap.size

theorem Boxed.later {w wr w' : World} {s1 s2 : Value} (h : Boxed w wr s1 s2) (hb : Below (w.heap.size + 1) wr w') : Boxed w w' s1 s2 :=
  ⟨(hb.cell (p := ⟨w.heap.size, 1, none⟩) (by simp)).trans h.1, (hb.cell (p := ⟨w.heap.size, 2, none⟩) (by simp)).trans h.2.1, h.2.2.1.trans (hb.mono (by omega)), by have := hb.size; have := h.2.2.2; omega⟩

theorem Boxed.start (w : World) (k0 s1 s2 : Value) : Boxed w (w.alloc (.cells #[k0, s1, s2] 25)) s1 s2 :=
  ⟨by rw [World.cell?_alloc_new]; rfl, by rw [World.cell?_alloc_new]; rfl, below_alloc _ _, by simp⟩

theorem may_facts {kind : Int} {l : List Int} {n2 : Nat} (hm : Mx.may kind l n2 = 0) : 0 ≤ kind ∧ kind ≤ 15 ∧ l.length ≤ 12 ∧ n2 ≤ 32 ∧ ∀ x ∈ l, 0 ≤ x ∧ x ≤ 2147483647 := by
  unfold Mx.may at hm
  split at hm
  · omega
  · split at hm
    · omega
    · split at hm
      · omega
      · rename_i h1 h2 h3
        refine ⟨by omega, by omega, by omega, by omega, fun x hx => ?_⟩
        rw [List.any_eq_true] at h3
        have : ¬ Mx.badNum x = true := fun hb => h3 ⟨x, hx, hb⟩
        simp [Mx.badNum] at this
        omega

theorem getD_mem (l : List Int) (k : Nat) (hk : k < l.length) : l.getD k 0 ∈ l := by
  rw [List.getD_eq_getElem?_getD, List.getElem?_eq_getElem hk]
  exact List.getElem_mem hk

theorem Blks.later {w w' : World} {a : Option Addr} {n : Nat} {bs : List Int} (h : Blks w a n bs) (hb : Below w.heap.size w w') : Blks w' a n bs := by
  obtain ⟨h1, h2, h3, h4⟩ := h
  refine ⟨h1, h2, h3, fun hp => ?_⟩
  obtain ⟨b, off, ha, hlt, hc⟩ := h4 hp
  refine ⟨b, off, ha, by have := hb.size; omega, fun i hi => ?_⟩
  have := hc i hi
  rw [hb.cell (p := ⟨b, off + i, none⟩) hlt]
  exact this

end Go.Proofs.Ytengpogcdnbabac
