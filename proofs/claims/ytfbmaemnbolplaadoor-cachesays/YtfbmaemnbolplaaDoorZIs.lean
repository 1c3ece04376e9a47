/-
  Small askers of the document's answer: Is (is an error just that?), SameBytes (two lists).
-/
import Derived.Lib.IfaceEq
import Derived.Test.YtfbmaemnbolplaaDoorZSums

namespace Go.Proofs.YtfbmaemnbolplaaDoor
open Go.RowKit

theorem errV_zero : errV 0 = .nilIface := rfl
theorem errV_not {n : Int} (h : n ≠ 0) : errV n = .iface 34 (.int .i64 n) := by unfold errV; rw [if_neg h]

end Go.Proofs.YtfbmaemnbolplaaDoor

/-
  Bytes that the call itself gathers (Own), and a number's groups behind them (appendNumber).
-/
namespace Go.Proofs.YtfbmaemnbolplaaDoor
open Go.RowKit

namespace Mx
/-- a number's groups of seven bits, the lowest first -/
def groupsF : Nat → Nat → List Int
  | 0, x => [(x : Int)]
  | f + 1, x => if x < 128 then [(x : Int)] else ((x % 128 + 128 : Nat) : Int) :: groupsF f (x / 128)
def groups (x : Nat) : List Int := groupsF 9 x
theorem groupsF_low (f x : Nat) (h : x < 128) : groupsF f x = [(x : Int)] := by
  cases f with
  | zero => rfl
  | succ f => rw [groupsF, if_pos h]
theorem groupsF_high (f x : Nat) (h : 128 ≤ x) : groupsF (f + 1) x = ((x % 128 + 128 : Nat) : Int) :: groupsF f (x / 128) := by
  rw [groupsF, if_neg (by omega)]
theorem groupsF_len (f x : Nat) : (groupsF f x).length ≤ f + 1 := by
  induction f generalizing x with
  | zero => simp [groupsF]
  | succ f ih =>
    rw [groupsF]
    split
    · simp
    · simp [ih]
theorem groupsF_byte (f x : Nat) (h : x < 128 ^ (f + 1)) : ∀ c ∈ groupsF f x, 0 ≤ c ∧ c ≤ 255 := by
  induction f generalizing x with
  | zero => intro c hc; simp [groupsF] at hc; subst hc; simp at h; omega
  | succ f ih =>
    intro c hc
    rw [groupsF] at hc
    split at hc
    · simp at hc; subst hc; omega
    · rcases List.mem_cons.1 hc with rfl | hc
      · omega
      · exact ih (x / 128) (by rw [Nat.pow_succ] at h; exact Nat.div_lt_of_lt_mul (by omega)) c hc
end Mx

/-- the call's own bytes -/
def Own (w : World) (base : Nat) (v : Value) (l : List Int) : Prop := w.ownsRow base 5 1 v l.length (l.map (Value.int .u8))

theorem Tryd.info5 : (Tryd.prog.info? 5).map (fun i => (i.zero, i.size, i.bytes)) = some (some (.int .u8 0), 1, 1) := by kernel_rfl

theorem Own.alloc {w : World} {base : Nat} {v : Value} {l : List Int} (h : Own w base v l) (o : Obj) : Own (w.alloc o) base v l := World.ownsRow.alloc h o

theorem own_slice {w : World} {base : Nat} {v : Value} {l : List Int} (h : Own w base v l) (hn : l ≠ []) : ∃ g cap, v = .slice (some ⟨g, 0, none⟩) l.length cap ∧ base ≤ g ∧ g < w.heap.size := by
  rcases h.2 with ⟨_, hz⟩ | ⟨g, cap, cur, hv, hb, hh, _⟩
  · exact absurd (List.eq_nil_of_length_eq_zero hz) hn
  · exact ⟨g, cap, hv, hb, (Array.getElem?_eq_some_iff.1 hh).1⟩

theorem cell_news (w : World) (news : List Int) (arr : Array Value) (h : arr = (news.map (Value.int .u8)).toArray) :
    ∀ j u, (news.map (Value.int .u8))[j]? = some u → (w.alloc (.cells arr 5)).cell? ((⟨w.heap.size, 0, none⟩ : Addr).add j) = some u := by
  intro j u hj
  subst h
  have hadd : (⟨w.heap.size, 0, none⟩ : Addr).add j = ⟨w.heap.size, j, none⟩ := by unfold Addr.add; split <;> simp_all
  rw [hadd, World.cell?_alloc_new]
  simpa using hj

end Go.Proofs.YtfbmaemnbolplaaDoor

/-
  The sum as it stands at a frame's end (sealOf).
-/
namespace Go.Proofs.YtfbmaemnbolplaaDoor
open Go.RowKit

namespace Mx
/-- the four bytes of a sum, the highest first -/
def sealB (s : Nat) : List Int := [((s / 16777216 : Nat) : Int), ((s / 65536 % 256 : Nat) : Int), ((s / 256 % 256 : Nat) : Int), ((s % 256 : Nat) : Int)]
end Mx

/-- bytes read as before behind whatever turned nothing that was there -/
theorem Bytes.later {w w' : World} {a : Option Addr} {len : Nat} {l : List Int} (h : Bytes w a len l) (hb : Below w.heap.size w w') : Bytes w' a len l := by
  obtain ⟨h1, h2, h3, h4⟩ := h
  refine ⟨h1, h2, h3, fun hp => ?_⟩
  obtain ⟨b, off, ha, hc⟩ := h4 hp
  refine ⟨b, off, ha, fun i hi => ?_⟩
  have := hc i hi
  rw [hb.cell (p := ⟨b, off + i, none⟩) (World.block_lt_of_cell? w _ this)]
  exact this

theorem Ints.later {w w' : World} {a : Option Addr} {len : Nat} {l : List Int} (h : Ints w a len l) (hb : Below w.heap.size w w') : Ints w' a len l := by
  obtain ⟨h1, h2, h4⟩ := h
  refine ⟨h1, h2, fun hp => ?_⟩
  obtain ⟨b, off, ha, hlt, hc⟩ := h4 hp
  refine ⟨b, off, ha, by have := hb.size; omega, fun i hi => ?_⟩
  have := hc i hi
  rw [hb.cell (p := ⟨b, off + i, none⟩) hlt]
  exact this

theorem below_alloc (w : World) (o : Obj) : Below w.heap.size w (w.alloc o) := (Below.refl _ _).alloc (Nat.le_refl _) _

theorem sealB_vals (S : Nat) : ((Mx.sealB S).map (Value.int .u8)).toArray = #[.int .u8 ((S : Int) / 16777216), .int .u8 ((S : Int) / 65536 % 256), .int .u8 ((S : Int) / 256 % 256), .int .u8 ((S : Int) % 256)] := by
  simp [Mx.sealB]

end Go.Proofs.YtfbmaemnbolplaaDoor

/-
  The document's own packing (Packed): the bytes that A1 says.
-/
namespace Go.Proofs.YtfbmaemnbolplaaDoor
open Go.RowKit

namespace Mx
/-- the numbers' groups, one behind the other -/
def numB (nums : List Int) : List Int := nums.flatMap fun x => groups x.toNat
/-- what stands ahead of the sum -/
def bodyB (kind : Int) (nums : List Int) (nb : Nat) (bs : List Int) : List Int := [16 * kind + (nums.length : Int), (nb : Int)] ++ (numB nums ++ bs)
def packB (kind : Int) (nums : List Int) (nb : Nat) (bs : List Int) : List Int := bodyB kind nums nb bs ++ sealB (crc (bodyB kind nums nb bs))
theorem numB_snoc (l : List Int) (k : Nat) (x : Int) (hk : k < l.length) (hx : l.getD k 0 = x) : numB (l.take (k + 1)) = numB (l.take k) ++ groups x.toNat := by
  rw [List.take_succ_eq_append_getElem hk]
  rw [List.getD_eq_getElem?_getD, List.getElem?_eq_getElem hk] at hx
  simp only [Option.getD_some] at hx
  simp [numB, hx]
theorem groups_len (x : Nat) : (groups x).length ≤ 10 := groupsF_len 9 x
theorem numB_len (l : List Int) : (numB l).length ≤ 10 * l.length := by
  induction l with
  | nil => simp [numB]
  | cons x l ih => simp [numB] at *; have := groups_len x.toNat; omega
theorem numB_byte (l : List Int) (h : ∀ x ∈ l, 0 ≤ x ∧ x ≤ 2147483647) : ∀ c ∈ numB l, 0 ≤ c ∧ c ≤ 255 := by
  intro c hc
  simp only [numB, List.mem_flatMap] at hc
  obtain ⟨x, hx, hc⟩ := hc
  have hb := h x hx
  exact groupsF_byte 9 x.toNat (by omega) c hc
theorem bodyB_byte {kind : Int} {l : List Int} {nb : Nat} {bs : List Int} (h0 : 0 ≤ kind) (h1 : kind ≤ 15) (hl : l.length ≤ 12) (hn : nb ≤ 32) (hg : ∀ x ∈ l, 0 ≤ x ∧ x ≤ 2147483647) (hb : ∀ x ∈ bs, 0 ≤ x ∧ x ≤ 255) :
    ∀ x ∈ bodyB kind l nb bs, 0 ≤ x ∧ x ≤ 255 := by
  intro x hx
  simp only [bodyB, List.mem_append, List.mem_cons, List.not_mem_nil, or_false] at hx
  rcases hx with (rfl | rfl) | hx | hx
  · omega
  · omega
  · exact numB_byte l hg x hx
  · exact hb x hx
theorem bodyB_len {kind : Int} {l : List Int} {nb : Nat} {bs : List Int} (hl : l.length ≤ 12) (hn : nb ≤ 32) (hb : bs.length = 8 * nb) : (bodyB kind l nb bs).length ≤ 2000 := by
  have := numB_len l
  simp [bodyB]
  omega
theorem take_snoc (l : List Int) (k : Nat) (x : Int) (hk : k < l.length) (hx : l.getD k 0 = x) : l.take (k + 1) = l.take k ++ [x] := by
  rw [List.take_succ_eq_append_getElem hk]
  rw [List.getD_eq_getElem?_getD, List.getElem?_eq_getElem hk] at hx
  simp only [Option.getD_some] at hx
  rw [hx]
end Mx

theorem own_bytes {w : World} {base g n cap : Nat} {l : List Int} (h : Own w base (.slice (some ⟨g, 0, none⟩) n cap) l) (hb : ∀ x ∈ l, 0 ≤ x ∧ x ≤ 255) : Bytes w (some ⟨g, 0, none⟩) n l := by
  have hc := World.ownsRow.cells h (g := g) rfl
  rcases h.2 with ⟨hv, _⟩ | ⟨g', cap', cur, hv, _, _, hle, hmx, _⟩
  · simp at hv
  · simp at hv
    obtain ⟨rfl, rfl, rfl⟩ := hv
    refine ⟨rfl, by omega, hb, fun _ => ⟨g, 0, rfl, fun i hi => ?_⟩⟩
    have := hc i (.int .u8 (l.getD i 0)) (by rw [List.getElem?_map, List.getD_eq_getElem?_getD, List.getElem?_eq_getElem hi]; rfl)
    have hadd : (⟨g, 0, none⟩ : Addr).add i = ⟨g, 0 + i, none⟩ := by unfold Addr.add; split <;> simp_all
    rw [← hadd]
    exact this

theorem own_drewN {w : World} {base : Nat} {v : Value} {l : List Int} (h : Own w base v l) (n : Nat) : Own (w.drewN n) base v l := h

/-- the slice of blocks reads as these bytes, eight a block -/
def Blks (w : World) (a : Option Addr) (n : Nat) (bs : List Int) : Prop :=
  bs.length = 8 * n ∧ n ≤ maxLen ∧ (∀ x ∈ bs, 0 ≤ x ∧ x ≤ 255) ∧ (0 < n → ∃ b off, a = some ⟨b, off, none⟩ ∧ b < w.heap.size ∧ ∀ i, i < 8 * n → w.cell? ⟨b, off + i, none⟩ = some (.int .u8 (bs.getD i 0)))

theorem own_made (w : World) (base : Nat) (l : List Int) (arr : Array Value) (h : arr = (l.map (Value.int .u8)).toArray) (hb : base ≤ w.heap.size) (hl : l.length ≤ 1000000) :
    Own (w.alloc (.cells arr 5)) base (.slice (some ⟨w.heap.size, 0, none⟩) l.length l.length) l := by
  subst h
  refine ⟨by simp, .inr ⟨w.heap.size, l.length, (l.map (Value.int .u8)).toArray, rfl, hb, heap_alloc_new w _, Nat.le_refl _, by unfold maxLen; omega, by simp, ?_⟩⟩
  rw [List.take_of_length_le (by simp)]

/-- what a packing keeps: the box of the frame, and all that was there -/
def Boxed (w wr : World) (s1 s2 : Value) : Prop :=
  wr.cell? ⟨w.heap.size, 1, none⟩ = some s1 ∧ wr.cell? ⟨w.heap.size, 2, none⟩ = some s2 ∧ Below w.heap.size w wr ∧ w.heap.size + 1 ≤ wr.heap.size

theorem Boxed.later {w wr w' : World} {s1 s2 : Value} (h : Boxed w wr s1 s2) (hb : Below (w.heap.size + 1) wr w') : Boxed w w' s1 s2 :=
  ⟨(hb.cell (p := ⟨w.heap.size, 1, none⟩) (by simp)).trans h.1, (hb.cell (p := ⟨w.heap.size, 2, none⟩) (by simp)).trans h.2.1, h.2.2.1.trans (hb.mono (by omega)), by have := hb.size; have := h.2.2.2; omega⟩

theorem may_facts {kind : Int} {l : List Int} {n2 : Nat} (hm : Mx.may kind l n2 = 0) : 0 ≤ kind ∧ kind ≤ 15 ∧ l.length ≤ 12 ∧ n2 ≤ 32 ∧ ∀ x ∈ l, 0 ≤ x ∧ x ≤ 2147483647 := by
  unfold Mx.may at hm
  split at hm
  · omega
  · split at hm
    · omega
    · split at hm
      · omega
      · rename_i h1 h2 h3
        refine ⟨by omega, by omega, by omega, by omega, fun x hx => ?_⟩
        rw [List.any_eq_true] at h3
        have : ¬ Mx.badNum x = true := fun hb => h3 ⟨x, hx, hb⟩
        simp [Mx.badNum] at this
        omega

theorem getD_mem (l : List Int) (k : Nat) (hk : k < l.length) : l.getD k 0 ∈ l := by
  rw [List.getD_eq_getElem?_getD, List.getElem?_eq_getElem hk]
  exact List.getElem_mem hk

theorem Blks.later {w w' : World} {a : Option Addr} {n : Nat} {bs : List Int} (h : Blks w a n bs) (hb : Below w.heap.size w w') : Blks w' a n bs := by
  obtain ⟨h1, h2, h3, h4⟩ := h
  refine ⟨h1, h2, h3, fun hp => ?_⟩
  obtain ⟨b, off, ha, hlt, hc⟩ := h4 hp
  refine ⟨b, off, ha, by have := hb.size; omega, fun i hi => ?_⟩
  have := hc i hi
  rw [hb.cell (p := ⟨b, off + i, none⟩) hlt]
  exact this

end Go.Proofs.YtfbmaemnbolplaaDoor

/-
  The program's own packing (Pack): the error that A1 says, or the bytes that A1 says.
-/
namespace Go.Proofs.YtfbmaemnbolplaaDoor
open Go.RowKit

theorem cell_newsT (w : World) (news : List Int) (arr : Array Value) (t : TypeId) (h : arr = (news.map (Value.int .u8)).toArray) :
    ∀ j u, (news.map (Value.int .u8))[j]? = some u → (w.alloc (.cells arr t)).cell? ((⟨w.heap.size, 0, none⟩ : Addr).add j) = some u := by
  intro j u hj
  subst h
  have hadd : (⟨w.heap.size, 0, none⟩ : Addr).add j = ⟨w.heap.size, j, none⟩ := by unfold Addr.add; split <;> simp_all
  rw [hadd, World.cell?_alloc_new]
  simpa using hj

theorem own_below {w w' : World} {base : Nat} {v : Value} {l : List Int} (h : Own w base v l) (hb : Below w.heap.size w w') : Own w' base v l :=
  World.ownsRow.kept h (row := none) ⟨hb.os, hb.tape, hb.output, hb.size, fun k hk _ => hb.block k hk⟩ (by cases v.ownBlock <;> simp)

theorem eight {w : World} {b off : Nat} (bs : List Int) (n m : Nat) (hl : bs.length = 8 * n) (hm : m < n) (hc : ∀ i, i < 8 * n → w.cell? ⟨b, off + i, none⟩ = some (.int .u8 (bs.getD i 0))) :
    ∃ z0 z1 z2 z3 z4 z5 z6 z7 : Int, w.cell? ⟨b, off + m * 8, none⟩ = some (.int .u8 z0) ∧ w.cell? ⟨b, off + m * 8 + 1, none⟩ = some (.int .u8 z1) ∧ w.cell? ⟨b, off + m * 8 + 2, none⟩ = some (.int .u8 z2) ∧
      w.cell? ⟨b, off + m * 8 + 3, none⟩ = some (.int .u8 z3) ∧ w.cell? ⟨b, off + m * 8 + 4, none⟩ = some (.int .u8 z4) ∧ w.cell? ⟨b, off + m * 8 + 5, none⟩ = some (.int .u8 z5) ∧
      w.cell? ⟨b, off + m * 8 + 6, none⟩ = some (.int .u8 z6) ∧ w.cell? ⟨b, off + m * 8 + 7, none⟩ = some (.int .u8 z7) ∧ bs.take (8 * (m + 1)) = bs.take (8 * m) ++ [z0, z1, z2, z3, z4, z5, z6, z7] := by
  refine ⟨bs.getD (8 * m) 0, bs.getD (8 * m + 1) 0, bs.getD (8 * m + 1 + 1) 0, bs.getD (8 * m + 1 + 1 + 1) 0, bs.getD (8 * m + 1 + 1 + 1 + 1) 0, bs.getD (8 * m + 1 + 1 + 1 + 1 + 1) 0, bs.getD (8 * m + 1 + 1 + 1 + 1 + 1 + 1) 0, bs.getD (8 * m + 1 + 1 + 1 + 1 + 1 + 1 + 1) 0, ?_, ?_, ?_, ?_, ?_, ?_, ?_, ?_, ?_⟩
  rotate_left 8
  · rw [show 8 * (m + 1) = 8 * m + 1 + 1 + 1 + 1 + 1 + 1 + 1 + 1 by omega]
    rw [Mx.take_snoc bs _ _ (by omega) rfl, Mx.take_snoc bs _ _ (by omega) rfl, Mx.take_snoc bs _ _ (by omega) rfl, Mx.take_snoc bs _ _ (by omega) rfl,
      Mx.take_snoc bs _ _ (by omega) rfl, Mx.take_snoc bs _ _ (by omega) rfl, Mx.take_snoc bs _ _ (by omega) rfl, Mx.take_snoc bs _ _ (by omega) rfl]
    simp only [List.append_assoc, List.cons_append, List.nil_append]
  · have := hc (8 * m) (by omega); rw [show off + 8 * m = off + m * 8 by omega] at this; exact this
  · have := hc (8 * m + 1) (by omega); rw [show off + (8 * m + 1) = off + m * 8 + 1 by omega] at this; exact this
  · have := hc (8 * m + 1 + 1) (by omega); rw [show off + (8 * m + 1 + 1) = off + m * 8 + 2 by omega] at this; exact this
  · have := hc (8 * m + 1 + 1 + 1) (by omega); rw [show off + (8 * m + 1 + 1 + 1) = off + m * 8 + 3 by omega] at this; exact this
  · have := hc (8 * m + 1 + 1 + 1 + 1) (by omega); rw [show off + (8 * m + 1 + 1 + 1 + 1) = off + m * 8 + 4 by omega] at this; exact this
  · have := hc (8 * m + 1 + 1 + 1 + 1 + 1) (by omega); rw [show off + (8 * m + 1 + 1 + 1 + 1 + 1) = off + m * 8 + 5 by omega] at this; exact this
  · have := hc (8 * m + 1 + 1 + 1 + 1 + 1 + 1) (by omega); rw [show off + (8 * m + 1 + 1 + 1 + 1 + 1 + 1) = off + m * 8 + 6 by omega] at this; exact this
  · have := hc (8 * m + 1 + 1 + 1 + 1 + 1 + 1 + 1) (by omega); rw [show off + (8 * m + 1 + 1 + 1 + 1 + 1 + 1 + 1) = off + m * 8 + 7 by omega] at this; exact this

end Go.Proofs.YtfbmaemnbolplaaDoor

/-
  For every frame: whether it may be, and its bytes, are what the document's answer says (FrameSays): the walk.
-/
namespace Go.Proofs.YtfbmaemnbolplaaDoor
open Go.RowKit

theorem bytes_nil (w : World) : Bytes w none 0 [] := ⟨rfl, by unfold maxLen; omega, by simp, fun h => absurd h (by omega)⟩

theorem packB_byte {w : World} {kind : Int} {a2 : Option Addr} {n2 : Nat} {l bs : List Int} (h2 : Blks w a2 n2 bs) (hm : Mx.may kind l n2 = 0) : ∀ x ∈ Mx.packB kind l n2 bs, 0 ≤ x ∧ x ≤ 255 := by
  obtain ⟨hk0, hk1, hll, hn2, hg⟩ := may_facts hm
  intro x hx
  rw [Mx.packB, List.mem_append] at hx
  rcases hx with hx | hx
  · exact Mx.bodyB_byte hk0 hk1 hll hn2 hg h2.2.2.1 x hx
  · have := Mx.crc_lt (Mx.bodyB kind l n2 bs)
    simp only [Mx.sealB, List.mem_cons, List.not_mem_nil, or_false] at hx
    rcases hx with rfl | rfl | rfl | rfl <;> omega

/-- a frame in its box, and all that was there -/
def Boxf (w wr : World) (s0 s1 s2 : Value) : Prop :=
  wr.cell? ⟨w.heap.size, 0, none⟩ = some s0 ∧ wr.cell? ⟨w.heap.size, 1, none⟩ = some s1 ∧ wr.cell? ⟨w.heap.size, 2, none⟩ = some s2 ∧ Below w.heap.size w wr ∧ w.heap.size < wr.heap.size

theorem Boxf.later {w wr w' : World} {s0 s1 s2 : Value} (h : Boxf w wr s0 s1 s2) (hb : Below wr.heap.size wr w') : Boxf w w' s0 s1 s2 :=
  ⟨(hb.cell (p := ⟨w.heap.size, 0, none⟩) h.2.2.2.2).trans h.1, (hb.cell (p := ⟨w.heap.size, 1, none⟩) h.2.2.2.2).trans h.2.1, (hb.cell (p := ⟨w.heap.size, 2, none⟩) h.2.2.2.2).trans h.2.2.1,
    h.2.2.2.1.trans (hb.mono (by have := h.2.2.2.2; omega)), by have := hb.size; have := h.2.2.2.2; omega⟩

end Go.Proofs.YtfbmaemnbolplaaDoor

/-
  Plain mathematics: the bytes of a frame are those of no other one; how a number is found at the front of bytes.
-/
namespace Go.Proofs.YtfbmaemnbolplaaDoor
namespace Mx

/-- the number that groups say -/
def gval : List Int → Nat
  | [] => 0
  | c :: l => c.toNat % 128 + 128 * gval l

theorem gval_snoc (l : List Int) (c : Int) : gval (l ++ [c]) = gval l + c.toNat % 128 * 128 ^ l.length := by
  induction l with
  | nil => simp [gval]
  | cons d l ih =>
    simp only [List.cons_append, gval, ih, List.length_cons, Nat.pow_succ]
    rw [Nat.mul_add, ← Nat.add_assoc]
    congr 1
    rw [Nat.mul_comm 128, Nat.mul_assoc]

theorem gval_lt (l : List Int) : gval l < 128 ^ l.length := by
  induction l with
  | nil => simp [gval]
  | cons d l ih =>
    simp only [gval, List.length_cons, Nat.pow_succ]
    omega

theorem gval_pos (l : List Int) (c : Int) (h0 : 1 ≤ c) (h1 : c < 128) : 1 ≤ gval (l ++ [c]) := by
  rw [gval_snoc]
  have : 1 ≤ c.toNat % 128 := by omega
  have h2 : 0 < 128 ^ l.length := Nat.pow_pos (by omega)
  have := Nat.mul_le_mul this h2
  omega

/-- groups as they are written -/
def High (l : List Int) : Prop := ∀ c ∈ l, 128 ≤ c ∧ c ≤ 255

theorem groups_of (pre : List Int) (c : Int) (f : Nat) (hp : High pre) (hc0 : 0 ≤ c) (hc : c < 128) (hn : 1 ≤ c ∨ pre = []) (hf : pre.length ≤ f) : groupsF f (gval (pre ++ [c])) = pre ++ [c] := by
  induction pre generalizing f with
  | nil =>
    have : gval ([] ++ [c]) = c.toNat := by simp [gval]; omega
    rw [this, groupsF_low _ _ (by omega)]
    simp; omega
  | cons p ps ih =>
    have hc1 : 1 ≤ c := by rcases hn with h | h; exact h; simp at h
    cases f with
    | zero => simp at hf
    | succ f =>
      have hpp := hp p (by simp)
      have hv : gval (p :: ps ++ [c]) = p.toNat % 128 + 128 * gval (ps ++ [c]) := rfl
      have h1 := gval_pos ps c hc1 hc
      rw [hv, groupsF_high _ _ (by omega)]
      have e1 : (p.toNat % 128 + 128 * gval (ps ++ [c])) / 128 = gval (ps ++ [c]) := by omega
      have e2 : (((p.toNat % 128 + 128 * gval (ps ++ [c])) % 128 + 128 : Nat) : Int) = p := by omega
      rw [e1, e2, ih f (fun x hx => hp x (by simp [hx])) (.inl hc1) (by simp at hf; omega)]
      rfl

theorem groupsF_form (f x : Nat) (h : x < 128 ^ (f + 1)) : ∃ pre c, groupsF f x = pre ++ [c] ∧ High pre ∧ 0 ≤ c ∧ c < 128 ∧ (1 ≤ c ∨ pre = []) ∧ gval (pre ++ [c]) = x ∧ pre.length ≤ f := by
  induction f generalizing x with
  | zero =>
    simp at h
    exact ⟨[], (x : Int), rfl, (fun c hc => absurd hc (by simp)), by omega, by omega, .inr rfl, by simp [gval]; omega, Nat.le_refl _⟩
  | succ f ih =>
    by_cases hx : x < 128
    · exact ⟨[], (x : Int), by rw [groupsF_low _ _ hx]; rfl, (fun c hc => absurd hc (by simp)), by omega, by omega, .inr rfl, by simp [gval]; omega, by simp⟩
    · obtain ⟨pre, c, h1, h2, h3, h4, h5, h6, h7⟩ := ih (x / 128) (by rw [Nat.pow_succ] at h; exact Nat.div_lt_of_lt_mul (by omega))
      refine ⟨((x % 128 + 128 : Nat) : Int) :: pre, c, by rw [groupsF_high _ _ (by omega), h1]; rfl, ?_, h3, h4, ?_, ?_, by simp; omega⟩
      · intro d hd
        rcases List.mem_cons.1 hd with rfl | hd
        · omega
        · exact h2 d hd
      · rcases h5 with h | h
        · exact .inl h
        · subst h
          simp [gval] at h6
          left; omega
      · show (((x % 128 + 128 : Nat) : Int)).toNat % 128 + 128 * gval (pre ++ [c]) = x
        rw [h6]; omega

theorem groupsF_mono (f k x : Nat) (h : x < 128 ^ (k + 1)) (hk : k ≤ f) : groupsF f x = groupsF k x := by
  obtain ⟨pre, c, h1, h2, h3, h4, h5, h6, h7⟩ := groupsF_form k x h
  rw [h1, ← h6]
  exact groups_of pre c f h2 h3 h4 h5 (by omega)

theorem groups_form (x : Nat) (h : x ≤ 2147483647) : ∃ pre c, groups x = pre ++ [c] ∧ High pre ∧ 0 ≤ c ∧ c < 128 ∧ (1 ≤ c ∨ pre = []) ∧ gval (pre ++ [c]) = x ∧ pre.length ≤ 4 := by
  obtain ⟨pre, c, h1, h2⟩ := groupsF_form 4 x (by omega)
  exact ⟨pre, c, by unfold groups; rw [groupsF_mono 9 4 x (by omega) (by omega), h1], h2⟩

theorem cut_high (pre pre' r r' : List Int) (c c' : Int) (h : pre ++ c :: r = pre' ++ c' :: r') (h1 : High pre) (h2 : High pre') (hc : c < 128) (hc' : c' < 128) : pre = pre' ∧ c = c' ∧ r = r' := by
  induction pre generalizing pre' with
  | nil =>
    cases pre' with
    | nil => simp at h; exact ⟨rfl, h.1, h.2⟩
    | cons q qs => simp at h; have := h2 q (by simp); omega
  | cons p ps ih =>
    cases pre' with
    | nil => simp at h; have := h1 p (by simp); omega
    | cons q qs =>
      simp only [List.cons_append, List.cons.injEq] at h
      obtain ⟨e1, e2, e3⟩ := ih qs h.2 (fun x hx => h1 x (by simp [hx])) (fun x hx => h2 x (by simp [hx]))
      exact ⟨by rw [h.1, e1], e2, e3⟩

theorem groups_cut (x y : Nat) (r r' : List Int) (hx : x ≤ 2147483647) (hy : y ≤ 2147483647) (h : groups x ++ r = groups y ++ r') : x = y ∧ r = r' := by
  obtain ⟨pre, c, h1, h2, h3, h4, h5, h6, h7⟩ := groups_form x hx
  obtain ⟨pre', c', g1, g2, g3, g4, g5, g6, g7⟩ := groups_form y hy
  rw [h1, g1, List.append_assoc, List.append_assoc] at h
  obtain ⟨e1, e2, e3⟩ := cut_high pre pre' r r' c c' h h2 g2 h4 g4
  subst e1 e2
  exact ⟨h6.symm.trans g6, e3⟩

theorem numB_cut (l m r r' : List Int) (hl : ∀ x ∈ l, 0 ≤ x ∧ x ≤ 2147483647) (hm : ∀ x ∈ m, 0 ≤ x ∧ x ≤ 2147483647) (hlen : l.length = m.length) (h : numB l ++ r = numB m ++ r') : l = m ∧ r = r' := by
  induction l generalizing m with
  | nil =>
    cases m with
    | nil => exact ⟨rfl, by simpa [numB] using h⟩
    | cons y m => simp at hlen
  | cons x l ih =>
    cases m with
    | nil => simp at hlen
    | cons y m =>
      have e : ∀ z (l : List Int), numB (z :: l) = groups z.toNat ++ numB l := fun z l => by simp [numB]
      rw [e, e, List.append_assoc, List.append_assoc] at h
      have hx := hl x (by simp)
      have hy := hm y (by simp)
      obtain ⟨e1, e2⟩ := groups_cut _ _ _ _ (by omega) (by omega) h
      obtain ⟨e3, e4⟩ := ih m (fun z hz => hl z (by simp [hz])) (fun z hz => hm z (by simp [hz])) (by simpa using hlen) e2
      exact ⟨by rw [e3, show x = y by omega], e4⟩

/-- these bytes are that frame's -/
def IsFrame (b : List Int) (kind : Int) (nums : List Int) (nb : Nat) (bs : List Int) : Prop :=
  may kind nums nb = 0 ∧ bs.length = 8 * nb ∧ (∀ x ∈ bs, 0 ≤ x ∧ x ≤ 255) ∧ packB kind nums nb bs = b

theorem sealB_len (s : Nat) : (sealB s).length = 4 := rfl

theorem IsFrame.one {b : List Int} {k k' : Int} {l l' : List Int} {n n' : Nat} {s s' : List Int} (h : IsFrame b k l n s) (h' : IsFrame b k' l' n' s') : k = k' ∧ l = l' ∧ n = n' ∧ s = s' := by
  obtain ⟨m1, m2, m3, m4⟩ := h
  obtain ⟨m1', m2', m3', m4'⟩ := h'
  obtain ⟨a1, a2, a3, a4, a5⟩ := may_facts m1
  obtain ⟨b1, b2, b3, b4, b5⟩ := may_facts m1'
  rw [← m4'] at m4
  unfold packB at m4
  have hb := (List.append_inj' m4 (by simp [sealB_len])).1
  unfold bodyB at hb
  simp only [List.cons_append, List.nil_append, List.cons.injEq] at hb
  obtain ⟨c1, c2, c3⟩ := hb
  have hn : n = n' := by omega
  obtain ⟨d1, d2⟩ := numB_cut l l' s s' a5 b5 (by omega) c3
  subst d1
  exact ⟨by omega, rfl, hn, d2⟩

/-- bytes from a place on whose first are all high: a number there is longer, and where a low one follows it is just what was read -/
theorem scan (r : List Int) (x j : Nat) (hx : x ≤ 2147483647) (t : List Int) (hr : r = groups x ++ t) (hj : j ≤ r.length) (hh : High (r.take j)) :
    j ≤ 4 ∧ j < (groups x).length ∧ ∀ c rest, r.drop j = c :: rest → c < 128 → (groups x).length = j + 1 ∧ gval (r.take (j + 1)) = x ∧ (1 ≤ c ∨ j = 0) ∧ 0 ≤ c := by
  obtain ⟨pre, d, h1, h2, h3, h4, h5, h6, h7⟩ := groups_form x hx
  have hlen : (groups x).length = pre.length + 1 := by rw [h1]; simp
  have hr2 : r = pre ++ d :: t := by rw [hr, h1]; simp
  have hjp : j ≤ pre.length := by
    rcases Nat.lt_or_ge pre.length j with hlt | hge
    · exfalso
      have : d ∈ r.take j := by
        rw [List.mem_take_iff_getElem]
        refine ⟨pre.length, by rw [hr2] at *; simp at *; omega, ?_⟩
        simp [hr2]
      have := hh d this
      omega
    · exact hge
  refine ⟨by omega, by omega, fun c rest hd hc => ?_⟩
  have e : r.take j ++ c :: rest = pre ++ d :: t := by rw [← hd, List.take_append_drop, hr2]
  obtain ⟨e1, e2, e3⟩ := cut_high _ _ _ _ _ _ e hh h2 hc h4
  have hjl : j = pre.length := by rw [← e1, List.length_take]; omega
  refine ⟨by omega, ?_, ?_, by omega⟩
  · have : r.take (j + 1) = pre ++ [d] := by rw [hr2, hjl, List.take_append]; simp [List.take_of_length_le]
    rw [this, h6]
  · rcases h5 with h | h
    · exact .inl (by omega)
    · exact .inr (by rw [hjl, h]; rfl)
end Mx
end Go.Proofs.YtfbmaemnbolplaaDoor

/-
  A number at the front of bytes (readNumber): found, or there is none.
-/
namespace Go.Proofs.YtfbmaemnbolplaaDoor
open Go.RowKit

/-- what readNumber says of bytes: a number and how many bytes it takes, or 0, 0 where no frame's number is there -/
def NumAt (l : List Int) (n size : Nat) : Prop :=
  (1 ≤ size ∧ size ≤ l.length ∧ n ≤ 2147483647 ∧ l.take size = Mx.groups n) ∨ (size = 0 ∧ n = 0 ∧ ∀ x t, x ≤ 2147483647 → l ≠ Mx.groups x ++ t)

theorem or_add (V c m : Nat) (j : Nat) (hV : V < 2 ^ j) (hm : m = 2 ^ j) (hj : j ≤ 28) : bits .or .u64 (V : Int) ((c : Int) % 128 * (m : Int)) = ((V + c % 128 * m : Nat) : Int) := by
  have hp : 2 ^ j ≤ 2 ^ 28 := Nat.pow_le_pow_right (by omega) hj
  have hm28 : m ≤ 268435456 := by rw [hm]; exact hp
  have hb : c % 128 * m ≤ 127 * 268435456 := Nat.mul_le_mul (by omega) hm28
  have e : (c : Int) % 128 * (m : Int) = ((c % 128 * m : Nat) : Int) := by simp
  rw [e, u64_or_nat V (c % 128 * m) (by omega) (by omega)]
  congr 1
  have := Nat.two_pow_add_eq_or_of_lt (i := j) hV (c % 128)
  rw [hm, Nat.or_comm, Nat.mul_comm (c % 128), ← this, Nat.add_comm]

/-- behind j high bytes one more is read -/
theorem read_step (l : List Int) (j V c Z : Nat) (hl : j < l.length) (hV : V = Mx.gval (l.take j)) (hc : l.take (j + 1) = l.take j ++ [(c : Int)]) (hZ : Z = V + c % 128 * 128 ^ j) : Z = Mx.gval (l.take (j + 1)) := by
  rw [hc, Mx.gval_snoc, hZ, hV, List.length_take, Nat.min_eq_left (by omega)]
  simp

theorem read_bound (l : List Int) (j V : Nat) (hV : V = Mx.gval (l.take j)) : V < 128 ^ j := by
  have h1 := Mx.gval_lt (l.take j)
  have h2 : 128 ^ (l.take j).length ≤ 128 ^ j := Nat.pow_le_pow_right (by omega) (by rw [List.length_take]; omega)
  omega

theorem high_snoc (l : List Int) (j c : Nat) (hH : Mx.High (l.take j)) (ht : l.take (j + 1) = l.take j ++ [(c : Int)]) (h1 : 128 ≤ (c : Int)) (h2 : c ≤ 255) : Mx.High (l.take (j + 1)) := by
  rw [ht]
  intro d hd
  rcases List.mem_append.1 hd with h | h
  · exact hH d h
  · simp at h; omega

theorem drop_at (l : List Int) (j c : Nat) (hl : j < l.length) (hc : l.getD j 0 = (c : Int)) : l.drop j = (c : Int) :: l.drop (j + 1) := by
  rw [List.drop_eq_getElem_cons hl]
  rw [List.getD_eq_getElem?_getD, List.getElem?_eq_getElem hl] at hc
  simp at hc
  rw [hc]

/-- a low byte behind j high ones, and the number is good -/
theorem num_good (l : List Int) (j c Z : Nat) (hj : j < l.length) (hj4 : j ≤ 4) (hH : Mx.High (l.take j)) (ht : l.take (j + 1) = l.take j ++ [(c : Int)]) (hc : (c : Int) < 128) (hn : ¬ c = 0 ∨ j = 0) (hZ : Z = Mx.gval (l.take (j + 1))) (hm : (Z : Int) ≤ 2147483647) :
    NumAt l Z (j + 1) := by
  refine .inl ⟨by omega, by omega, by omega, ?_⟩
  have h2 := Mx.groups_of (l.take j) (c : Int) 9 hH (by omega) hc (by rcases hn with h | h; exact .inl (by omega); exact .inr (by rw [h]; simp)) (by rw [List.length_take]; omega)
  rw [ht] at hZ ⊢
  rw [hZ]
  exact h2.symm

/-- .. and it is none: a nought that pads, or too great -/
theorem num_bad (l : List Int) (j c Z : Nat) (hj : j < l.length) (hH : Mx.High (l.take j)) (hd : l.getD j 0 = (c : Int)) (hc : (c : Int) < 128) (hZ : Z = Mx.gval (l.take (j + 1))) (hb : (c = 0 ∧ j ≠ 0) ∨ 2147483647 < (Z : Int)) : NumAt l 0 0 := by
  refine .inr ⟨rfl, rfl, fun x t hx e => ?_⟩
  obtain ⟨_, _, h⟩ := Mx.scan l x j hx t e (by omega) hH
  obtain ⟨_, h2, h3, _⟩ := h _ _ (drop_at l j c hj hd) hc
  rcases hb with ⟨h4, h5⟩ | h4
  · rcases h3 with h3 | h3 <;> omega
  · omega

/-- .. all bytes are high, or five of them -/
theorem num_none (l : List Int) (j : Nat) (hj : j ≤ l.length) (hH : Mx.High (l.take j)) (he : j = l.length ∨ j = 5) : NumAt l 0 0 := by
  refine .inr ⟨rfl, rfl, fun x t hx e => ?_⟩
  obtain ⟨h1, h2, _⟩ := Mx.scan l x j hx t e hj hH
  rcases he with he | he
  · have := congrArg List.length e
    rw [List.length_append] at this
    omega
  · omega

end Go.Proofs.YtfbmaemnbolplaaDoor

/-
  Two lists, two frames: are they the same? (SameBytes, SameInts, SameBlocks, SameFrame)
-/
namespace Go.Proofs.YtfbmaemnbolplaaDoor
open Go.RowKit

theorem take_eq_all {l1 l2 : List Int} {n k : Nat} (h1 : l1.length = n) (h2 : l2.length = n) (h : l1.take k = l2.take k) (hk : n ≤ k) : l1 = l2 := by
  rw [← List.take_of_length_le (l := l1) (i := k) (by omega), ← List.take_of_length_le (l := l2) (i := k) (by omega), h]

theorem ints_take {w : World} {a : Option Addr} {len : Nat} {l : List Int} (h : Ints w a len l) (k : Nat) (hk : k < len) :
    ∃ b off, ∃ x : Int, a = some ⟨b, off, none⟩ ∧ w.cell? ⟨b, off + k, none⟩ = some (.int .i64 x) ∧ l.take (k + 1) = l.take k ++ [x] := by
  obtain ⟨b, off, x, ha, _, hx, hc⟩ := h.at_ k hk
  exact ⟨b, off, x, ha, hc, Mx.take_snoc l k x (by rw [h.1]; exact hk) hx⟩

end Go.Proofs.YtfbmaemnbolplaaDoor
