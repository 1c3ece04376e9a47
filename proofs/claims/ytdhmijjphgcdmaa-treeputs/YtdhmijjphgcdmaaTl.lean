/-
  Digests of blocks and of digests: what they are (mathematics), rows of numbers of 64 bits in memory, and the program's ofBlock.
-/
import Derived.Test.YtdhmijjphgcdmaaTd
import Derived.Test.YtdhmijjphgcdmaaPacked
import Derived.Test.YtdhmijjphgcdmaaDk
namespace Go.Proofs.Ytdhmijjphgcdmaa
open Go.RowKit

namespace Mx
/-- a block's bytes -/
def bytesOf (x : B8) : List Int := [x.z0, x.z1, x.z2, x.z3, x.z4, x.z5, x.z6, x.z7]
/-- its digest in a tree -/
def blockD (x : B8) : Nat := digest (0 :: bytesOf x)
/-- a number's eight bytes, the highest first -/
def be8 (d : Nat) : List Int := (List.range 8).map fun j => ((d / 256 ^ (7 - j) % 256 : Nat) : Int)
/-- the digest of digests -/
def overD (l : List Nat) : Nat := digest (1 :: l.flatMap be8)
/-- a level of what comes below it -/
def overL (l : List Nat) : List Nat := (List.range ((l.length + 3) / 4)).map fun i => overD ((l.drop (i * 4)).take 4)
/-- all levels -/
def growF : Nat → List Nat → List (List Nat)
  | 0, l => [l]
  | f + 1, l => if l.length ≤ 1 then [l] else l :: growF f (overL l)
def levels (l : List Nat) : List (List Nat) := growF l.length l
theorem overL_len (l : List Nat) : (overL l).length = (l.length + 3) / 4 := by simp [overL]
theorem overD_lt (l : List Nat) : overD l < 18446744073709551616 := digest_lt _
theorem blockD_lt (x : B8) : blockD x < 18446744073709551616 := digest_lt _
theorem overL_lt (l : List Nat) : ∀ x ∈ overL l, x < 18446744073709551616 := by
  intro x hx
  obtain ⟨i, _, rfl⟩ := List.mem_map.1 hx
  exact overD_lt _
theorem be8_len (d : Nat) : (be8 d).length = 8 := by simp [be8]
theorem be8_byte (d : Nat) : ∀ z ∈ be8 d, 0 ≤ z ∧ z ≤ 255 := by
  intro z hz
  obtain ⟨j, _, rfl⟩ := List.mem_map.1 hz
  omega
theorem flat_byte (l : List Nat) : ∀ z ∈ l.flatMap be8, 0 ≤ z ∧ z ≤ 255 := by
  intro z hz
  obtain ⟨d, _, hz⟩ := List.mem_flatMap.1 hz
  exact be8_byte d z hz
theorem flat_len (l : List Nat) : (l.flatMap be8).length = l.length * 8 := by
  induction l with
  | nil => rfl
  | cons x l ih => rw [List.flatMap_cons, List.length_append, ih, be8_len, List.length_cons, Nat.add_mul]; omega
end Mx

/-- bytes in their bounds -/
def B8.ok (x : B8) : Prop := ∀ z ∈ Mx.bytesOf x, 0 ≤ z ∧ z ≤ 255

/-- numbers of 64 bits, read; the call's own -/
def U64s (w : World) (a : Option Addr) (len : Nat) (l : List Nat) : Prop :=
  l.length = len ∧ len ≤ maxLen ∧ (∀ x ∈ l, x < 18446744073709551616) ∧ (0 < len → ∃ b off, a = some ⟨b, off, none⟩ ∧ b < w.heap.size ∧ ∀ i, i < len → w.cell? ⟨b, off + i, none⟩ = some (.int .u64 ((l.getD i 0 : Nat) : Int)))
def OwnU (w : World) (base : Nat) (v : Value) (l : List Nat) : Prop := w.ownsRow base 78 1 v l.length (l.map fun x : Nat => Value.int .u64 (x : Int))
theorem Try.info78 : (Try.prog.info? 78).map (fun i => (i.zero, i.size, i.bytes)) = some (some (.int .u64 0), 1, 8) := by kernel_rfl

theorem U64s.later {w w' : World} {a : Option Addr} {n : Nat} {l : List Nat} (h : U64s w a n l) (hb : Below w.heap.size w w') : U64s w' a n l := by
  obtain ⟨h1, h2, h3, h4⟩ := h
  refine ⟨h1, h2, h3, fun hp => ?_⟩
  obtain ⟨b, off, ha, hlt, hc⟩ := h4 hp
  exact ⟨b, off, ha, by have := hb.size; omega, fun i hi => (hb.cell (p := ⟨b, off + i, none⟩) hlt).trans (hc i hi)⟩
theorem U64s.nil (w : World) : U64s w none 0 [] := ⟨rfl, by unfold maxLen; omega, by simp, fun h => absurd h (by omega)⟩
theorem U64s.at_ {w : World} {a : Option Addr} {n : Nat} {l : List Nat} (h : U64s w a n l) (k : Nat) (hk : k < n) :
    ∃ b off, ∃ x : Nat, a = some ⟨b, off, none⟩ ∧ b < w.heap.size ∧ l[k]? = some x ∧ (x : Int) < 18446744073709551616 ∧ w.cell? ⟨b, off + k, none⟩ = some (.int .u64 (x : Int)) := by
  obtain ⟨h1, h2, h3, h4⟩ := h
  obtain ⟨b, off, ha, hlt, hc⟩ := h4 (by omega)
  have hx : l[k]? = some l[k] := List.getElem?_eq_getElem (by omega)
  have h5 := h3 l[k] (List.getElem_mem _)
  refine ⟨b, off, l[k], ha, hlt, hx, by omega, ?_⟩
  rw [hc k hk, List.getD_eq_getElem?_getD, hx]
  rfl
/-- a part of them -/
theorem U64s.cut {w : World} {b off n : Nat} {l : List Nat} (h : U64s w (some ⟨b, off, none⟩) n l) (i m : Nat) (hi : i + m ≤ n) : U64s w (some ⟨b, off + i, none⟩) m ((l.drop i).take m) := by
  obtain ⟨h1, h2, h3, h4⟩ := h
  refine ⟨by rw [List.length_take, List.length_drop]; omega, by omega, fun x hx => h3 x (List.mem_of_mem_drop (List.mem_of_mem_take hx)), fun hp => ?_⟩
  obtain ⟨b', off', ha, hlt, hc⟩ := h4 (by omega)
  cases ha
  refine ⟨b, off + i, rfl, hlt, fun k hk => ?_⟩
  have := hc (i + k) (by omega)
  rw [← Nat.add_assoc] at this
  rw [this]
  congr 3
  rw [List.getD_eq_getElem?_getD, List.getD_eq_getElem?_getD, List.getElem?_take_of_lt hk, List.getElem?_drop]
theorem OwnU.nil (w : World) (base : Nat) : OwnU w base (.slice none 0 0) [] := World.ownsRow_nil w base 78 1
theorem OwnU.read {w : World} {base n cap : Nat} {a : Option Addr} {l : List Nat} (h : OwnU w base (.slice a n cap) l) (hl : ∀ x ∈ l, x < 18446744073709551616) : U64s w a n l ∧ n ≤ cap := by
  rcases h.2 with ⟨hv, hz⟩ | ⟨g, cap', cur, hv, hb, hh, hle, hmx, hcs, htk⟩
  · simp only [Value.slice.injEq] at hv
    obtain ⟨rfl, rfl, rfl⟩ := hv
    exact ⟨⟨hz, by unfold maxLen; omega, hl, fun h => absurd h (by omega)⟩, Nat.le_refl _⟩
  · simp only [Value.slice.injEq] at hv
    obtain ⟨rfl, rfl, rfl⟩ := hv
    refine ⟨⟨rfl, by omega, hl, fun hp => ⟨g, 0, rfl, (Array.getElem?_eq_some_iff.1 hh).1, fun i hi => ?_⟩⟩, hle⟩
    rw [cell_of_cells hh, Nat.zero_add, ← Array.getElem?_toList]
    have h5 : (cur.toList.take (l.length * 1))[i]? = (l.map fun x : Nat => Value.int .u64 (x : Int))[i]? := by rw [htk]
    rw [List.getElem?_take_of_lt (by omega)] at h5
    rw [h5, List.getElem?_map, List.getElem?_eq_getElem hi, List.getD_eq_getElem?_getD, List.getElem?_eq_getElem hi]
    rfl
theorem OwnU.form {w : World} {base : Nat} {v : Value} {l : List Nat} (h : OwnU w base v l) : ∃ a cap, v = .slice a l.length cap := by
  rcases h.2 with ⟨hv, hz⟩ | ⟨g, cap', cur, hv, _⟩
  · exact ⟨none, 0, by rw [hv, hz]⟩
  · exact ⟨_, _, hv⟩

/-- one number more -/
theorem wpList_append_u64 {w : World} {ops : Array Oper} {rest : List Oper} {o : Oper} {a : Act} {Q : Exit → Act → World → Prop} (hgd : o.guard = none) (s x : Operand)
    (ho : o.op = .call { callee := .builtin .append, args := #[s, x], argTypes := #[92, 92] }) (base : Nat) (l : List Nat) (hown : OwnU w base (a.eval s) l)
    (z : Nat) (hx : a.eval x = .slice (some ⟨w.heap.size, 0, none⟩) 1 1) (h63 : l.length ≤ 1000000) (hbase : base ≤ w.heap.size)
    (h : ∀ v' w', OwnU w' base v' (l ++ [z]) → w.grownBy w' (a.eval s).ownBlock → wpList Try.prog ops Q rest (a.put o.dst v') w') :
    wpList Try.prog ops Q (o :: rest) a (w.alloc (.cells #[.int .u64 (z : Int)] 78)) := by
  obtain ⟨i0, hi, hz0, hz1, hz2⟩ := info_parts Try.info78
  refine wpList_append_own _ hgd s x 92 ho base 78 i0 _ 1 8 Try.underlying92 hi hz0 hz1 hz2 rfl (by decide) (a.eval s) l.length (l.map fun x : Nat => Value.int .u64 (x : Int)) rfl (World.ownsRow.alloc hown _) ⟨w.heap.size, 0, none⟩ 1 1 [.int .u64 (z : Int)] hx rfl (fun j u hj => ?_) (by simp [Value.oneCell']) (by unfold maxLen; omega) (by omega) (by simp; omega) ?_
  · rw [Addr.add_lit, World.cell?_alloc_new]
    simpa using hj
  · intro v' w' hown' hg _
    refine h v' w' ?_ ⟨hg.os, hg.tape, hg.output, by have := hg.size; simp at this; omega, fun k hk hne => (hg.block k (by simp; omega) hne).trans (Below.heap_alloc w _ k hk)⟩
    unfold OwnU
    rw [List.length_append, List.map_append]
    exact hown'

set_option maxHeartbeats 1000000 in
set_option maxRecDepth 100000 in
theorem ofBlock_any (x : B8) (hx : x.ok) (w : World) :
    Calls Try.prog 94 #[.agg #[.int .u8 x.z0, .int .u8 x.z1, .int .u8 x.z2, .int .u8 x.z3, .int .u8 x.z4, .int .u8 x.z5, .int .u8 x.z6, .int .u8 x.z7]] w fun e w' => e = .returned (.int .u64 (Mx.blockD x : Int)) ∧ Below w.heap.size w w' := by
  have HX := hide hx
  clear hx
  go_enter Try.func94, Try.ntmps94
  go_wp2_with (at_builtin; refine wpList_append_bytes rfl _ _ rfl (w.heap.size + 1) [0] ?c0 ⟨w.heap.size, 0, none⟩ 8 8 (Mx.bytesOf x) ?c1 rfl ?c2 ?c3 ?c4 ?_)
  case c0 =>
    have h := World.ownsRow_lit (base := w.heap.size + 1) (e := 5) (size := 1) (w.alloc (.cells #[.int .u8 x.z0, .int .u8 x.z1, .int .u8 x.z2, .int .u8 x.z3, .int .u8 x.z4, .int .u8 x.z5, .int .u8 x.z6, .int .u8 x.z7] 52)) #[.int .u8 0] 1 (by simp) (by unfold maxLen; omega) rfl
    rw [World.size_alloc] at h
    exact h
  case c1 => rfl
  case c2 =>
    intro j u hj
    rw [Addr.add_lit, World.cell?_alloc_lt _ _ _ (by simp), World.cell?_alloc_new, Nat.zero_add]
    simpa [Mx.bytesOf] using hj
  case c3 => simp
  case c4 => simp
  intro v' w' hown hbel
  obtain ⟨g, cap, rfl, _, _⟩ := own_slice hown (by simp)
  have HO := hide (own_bytes hown (by
    intro z hz
    rcases List.mem_cons.1 hz with h | h
    · omega
    · exact HX.out z h))
  have HB := hide (((below_alloc w (.cells #[.int .u8 x.z0, .int .u8 x.z1, .int .u8 x.z2, .int .u8 x.z3, .int .u8 x.z4, .int .u8 x.z5, .int .u8 x.z6, .int .u8 x.z7] 52)).alloc (by simp) (.cells #[.int .u8 0] 5)).trans (hbel.mono (by omega)))
  clear hown hbel
  go_wp2_with fail
  refine (digest_any _ _ _ _ _ HO.out).mono ?_
  rintro e w2 ⟨rfl, rfl⟩
  go_wp2
  go_ret
  exact ⟨rfl, HB.out⟩

end Go.Proofs.Ytdhmijjphgcdmaa
