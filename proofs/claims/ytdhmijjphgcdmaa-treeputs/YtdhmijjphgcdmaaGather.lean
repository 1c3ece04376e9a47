/-
  Numbers and blocks that the call itself gathers, and a frame's box that it writes into.
-/
import Derived.Test.YtdhmijjphgcdmaaParse
namespace Go.Proofs.Ytdhmijjphgcdmaa
open Go.RowKit

/-- the call's own numbers; its own blocks -/
def OwnI (w : World) (base : Nat) (v : Value) (l : List Int) : Prop := w.ownsRow base 3 1 v l.length (l.map (Value.int .i64))
def OwnB (w : World) (base : Nat) (v : Value) (n : Nat) (bs : List Int) : Prop := bs.length = 8 * n ∧ w.ownsRow base 52 8 v n (bs.map (Value.int .u8))

theorem Try.info3 : (Try.prog.info? 3).map (fun i => (i.zero, i.size, i.bytes)) = some (some (.int .i64 0), 1, 8) := by kernel_rfl
theorem Try.info52 : (Try.prog.info? 52).map (fun i => (i.zero, i.size, i.bytes)) = some (some (.agg #[.int .u8 0, .int .u8 0, .int .u8 0, .int .u8 0, .int .u8 0, .int .u8 0, .int .u8 0, .int .u8 0]), 8, 8) := by kernel_rfl

theorem OwnI.nil (w : World) (base : Nat) : OwnI w base (.slice none 0 0) [] := World.ownsRow_nil w base 3 1
theorem OwnB.nil (w : World) (base : Nat) : OwnB w base (.slice none 0 0) 0 [] := ⟨rfl, World.ownsRow_nil w base 52 8⟩

theorem rowKept {w w' : World} {base e size : Nat} {v : Value} {n : Nat} {xs : List Value} (h : w.ownsRow base e size v n xs) (hb : Below w.heap.size w w') : w'.ownsRow base e size v n xs :=
  World.ownsRow.kept h (row := none) ⟨hb.os, hb.tape, hb.output, hb.size, fun k hk _ => hb.block k hk⟩ (by cases v.ownBlock <;> simp)

/-- one number more -/
theorem wpList_append_int {w : World} {ops : Array Oper} {rest : List Oper} {o : Oper} {a : Act} {Q : Exit → Act → World → Prop} (hgd : o.guard = none) (s x : Operand)
    (ho : o.op = .call { callee := .builtin .append, args := #[s, x], argTypes := #[22, 22] }) (base : Nat) (l : List Int) (hown : OwnI w base (a.eval s) l)
    (z : Int) (hx : a.eval x = .slice (some ⟨w.heap.size, 0, none⟩) 1 1) (h63 : l.length ≤ 1000000) (hbase : base ≤ w.heap.size)
    (h : ∀ ad c w', OwnI w' base (.slice (some ad) (l.length + 1) c) (l ++ [z]) → Below base w w' → base ≤ ad.block → wpList Try.prog ops Q rest (a.put o.dst (.slice (some ad) (l.length + 1) c)) w') :
    wpList Try.prog ops Q (o :: rest) a (w.alloc (.cells #[.int .i64 z] 3)) := by
  obtain ⟨i0, hi, hz0, hz1, hz2⟩ := info_parts Try.info3
  refine wpList_append_own _ hgd s x 22 ho base 3 i0 (.int .i64 0) 1 8 Try.underlying22 hi hz0 hz1 hz2 rfl (by decide) (a.eval s) l.length (l.map (Value.int .i64)) rfl (World.ownsRow.alloc hown _) ⟨w.heap.size, 0, none⟩ 1 1 [.int .i64 z] hx (by simp) ?_ ?_ (by unfold maxLen; omega) (by omega) (by simp; omega) ?_
  · intro j u hj
    match j, hj with
    | 0, hj => simp at hj; subst hj; simp [Addr.add]
  · intro u hu
    simp at hu; subst hu; rfl
  · intro v' w' hown' hg _
    have hb : Below base w w' := ((Below.refl base w).alloc hbase _).grown hg (by simp; omega) (fun k hk => (World.ownsRow.lt hown k hk).1)
    have hI : OwnI w' base v' (l ++ [z]) := by
      unfold OwnI
      rw [List.length_append, List.map_append]
      exact hown'
    rcases hown'.2 with ⟨_, hz⟩ | ⟨g, cap, cur, rfl, hbg, _⟩
    · simp at hz
    · exact h _ _ w' hI hb hbg

/-- one block more -/
theorem wpList_append_block {w : World} {ops : Array Oper} {rest : List Oper} {o : Oper} {a : Act} {Q : Exit → Act → World → Prop} (hgd : o.guard = none) (s x : Operand)
    (ho : o.op = .call { callee := .builtin .append, args := #[s, x], argTypes := #[23, 23] }) (base n : Nat) (bs : List Int) (hown : OwnB w base (a.eval s) n bs)
    (zs : List Int) (hz8 : zs.length = 8) (arr : Array Value) (harr : arr = (zs.map (Value.int .u8)).toArray) (hx : a.eval x = .slice (some ⟨w.heap.size, 0, none⟩) 1 1) (h63 : n ≤ 1000000) (hbase : base ≤ w.heap.size)
    (h : ∀ ad c w', OwnB w' base (.slice (some ad) (n + 1) c) (n + 1) (bs ++ zs) → Below base w w' → base ≤ ad.block → wpList Try.prog ops Q rest (a.put o.dst (.slice (some ad) (n + 1) c)) w') :
    wpList Try.prog ops Q (o :: rest) a (w.alloc (.cells arr 52)) := by
  obtain ⟨i0, hi, hz0, hz1, hz2⟩ := info_parts Try.info52
  refine wpList_append_own _ hgd s x 23 ho base 52 i0 _ 8 8 Try.underlying23 hi hz0 hz1 hz2 rfl (by decide) (a.eval s) n (bs.map (Value.int .u8)) rfl (World.ownsRow.alloc hown.2 _) ⟨w.heap.size, 0, none⟩ 1 1 (zs.map (Value.int .u8)) hx (by simp [hz8]) (cell_newsT w zs arr 52 harr) ?_ (by unfold maxLen; omega) (by omega) (by simp; omega) ?_
  · intro u hu
    obtain ⟨z, _, rfl⟩ := List.mem_map.1 hu
    rfl
  · intro v' w' hown' hg _
    have hb : Below base w w' := ((Below.refl base w).alloc hbase _).grown hg (by simp; omega) (fun k hk => (World.ownsRow.lt hown.2 k hk).1)
    have hI : OwnB w' base v' (n + 1) (bs ++ zs) := ⟨by rw [List.length_append, hown.1, hz8]; omega, by rw [List.map_append]; exact hown'⟩
    rcases hown'.2 with ⟨_, hz⟩ | ⟨g, cap, cur, rfl, hbg, _⟩
    · simp at hz
    · exact h _ _ w' hI hb hbg

/-- what is gathered reads as numbers, as blocks -/
theorem OwnI.ints {w : World} {base : Nat} {v : Value} {l : List Int} (h : OwnI w base v l) : ∃ a c, v = .slice a l.length c ∧ Ints w a l.length l := by
  rcases h.2 with ⟨hv, hz⟩ | ⟨g, cap, cur, hv, _, hh, hle, hmx, _⟩
  · have hnil : l = [] := List.eq_nil_of_length_eq_zero hz
    subst hnil
    exact ⟨none, 0, hv, rfl, by unfold maxLen; simp, fun h => absurd h (by simp)⟩
  · have hc := World.ownsRow.cells h (g := g) (by rw [hv]; rfl)
    refine ⟨_, cap, hv, rfl, by omega, fun _ => ⟨g, 0, rfl, (Array.getElem?_eq_some_iff.1 hh).1, fun i hi => ?_⟩⟩
    have := hc i (.int .i64 (l.getD i 0)) (by rw [List.getElem?_map, List.getD_eq_getElem?_getD, List.getElem?_eq_getElem hi]; rfl)
    have hadd : (⟨g, 0, none⟩ : Addr).add i = ⟨g, 0 + i, none⟩ := by unfold Addr.add; split <;> simp_all
    rw [← hadd]
    exact this

theorem OwnB.blks {w : World} {base n : Nat} {v : Value} {bs : List Int} (h : OwnB w base v n bs) (hb : ∀ x ∈ bs, 0 ≤ x ∧ x ≤ 255) : ∃ a c, v = .slice a n c ∧ Blks w a n bs := by
  obtain ⟨h8, h⟩ := h
  rcases h.2 with ⟨hv, hz⟩ | ⟨g, cap, cur, hv, _, hh, hle, hmx, _⟩
  · subst hz
    exact ⟨none, 0, hv, h8, by unfold maxLen; simp, hb, fun h => absurd h (by simp)⟩
  · have hc := World.ownsRow.cells h (g := g) (by rw [hv]; rfl)
    refine ⟨_, cap, hv, h8, by omega, hb, fun _ => ⟨g, 0, rfl, (Array.getElem?_eq_some_iff.1 hh).1, fun i hi => ?_⟩⟩
    have := hc i (.int .u8 (bs.getD i 0)) (by rw [List.getElem?_map, List.getD_eq_getElem?_getD, List.getElem?_eq_getElem (show i < bs.length by omega)]; rfl)
    have hadd : (⟨g, 0, none⟩ : Addr).add i = ⟨g, 0 + i, none⟩ := by unfold Addr.add; split <;> simp_all
    rw [← hadd]
    exact this

/-- a frame's box, whole -/
def BoxAt (w : World) (g : Nat) (s0 s1 s2 : Value) : Prop := w.heap[g]? = some (.cells #[s0, s1, s2] 25 (0, 0))

theorem BoxAt.cell0 {w : World} {g : Nat} {s0 s1 s2 : Value} (h : BoxAt w g s0 s1 s2) : w.cell? ⟨g, 0, none⟩ = some s0 := by unfold World.cell?; rw [h]; rfl
theorem BoxAt.cell1 {w : World} {g : Nat} {s0 s1 s2 : Value} (h : BoxAt w g s0 s1 s2) : w.cell? ⟨g, 1, none⟩ = some s1 := by unfold World.cell?; rw [h]; rfl
theorem BoxAt.cell2 {w : World} {g : Nat} {s0 s1 s2 : Value} (h : BoxAt w g s0 s1 s2) : w.cell? ⟨g, 2, none⟩ = some s2 := by unfold World.cell?; rw [h]; rfl
theorem BoxAt.frozen {w : World} {g : Nat} {s0 s1 s2 : Value} (h : BoxAt w g s0 s1 s2) (o : Nat) : w.frozen? ⟨g, o, none⟩ = false := by unfold World.frozen?; rw [h]; simp
theorem BoxAt.lt {w : World} {g : Nat} {s0 s1 s2 : Value} (h : BoxAt w g s0 s1 s2) : g < w.heap.size := (Array.getElem?_eq_some_iff.1 h).1
theorem BoxAt.later {w w' : World} {g B : Nat} {s0 s1 s2 : Value} (h : BoxAt w g s0 s1 s2) (hb : Below B w w') (hg : g < B) : BoxAt w' g s0 s1 s2 := (hb.block g hg).trans h
theorem BoxAt.other {w : World} {g : Nat} {s0 s1 s2 : Value} (h : BoxAt w g s0 s1 s2) (p : Addr) (v : Value) (hp : g ≠ p.block) : BoxAt (w.setCell p v) g s0 s1 s2 := (Below.heap_setCell w p v g hp).trans h
theorem BoxAt.set0 {w : World} {g : Nat} {s0 s1 s2 : Value} (h : BoxAt w g s0 s1 s2) (v : Value) : BoxAt (w.setCell ⟨g, 0, none⟩ v) g v s1 s2 := by
  unfold BoxAt at *
  simp [World.setCell, Array.getElem?_modify, h]
theorem BoxAt.set1 {w : World} {g : Nat} {s0 s1 s2 : Value} (h : BoxAt w g s0 s1 s2) (v : Value) : BoxAt (w.setCell ⟨g, 1, none⟩ v) g s0 v s2 := by
  unfold BoxAt at *
  simp [World.setCell, Array.getElem?_modify, h]
theorem BoxAt.set2 {w : World} {g : Nat} {s0 s1 s2 : Value} (h : BoxAt w g s0 s1 s2) (v : Value) : BoxAt (w.setCell ⟨g, 2, none⟩ v) g s0 s1 v := by
  unfold BoxAt at *
  simp [World.setCell, Array.getElem?_modify, h]
/-- the three cells of a box, stored one behind the other -/
theorem BoxAt.stored {w : World} {g : Nat} {s0 s1 s2 : Value} (h : BoxAt w g s0 s1 s2) (x y z : Value) :
    (w.setCell ⟨g, 0, none⟩ x).cell? ⟨g, 0, none⟩ = some x ∧ ((w.setCell ⟨g, 0, none⟩ x).setCell ⟨g, 1, none⟩ y).cell? ⟨g, 1, none⟩ = some y ∧
    (((w.setCell ⟨g, 0, none⟩ x).setCell ⟨g, 1, none⟩ y).setCell ⟨g, 2, none⟩ z).cell? ⟨g, 2, none⟩ = some z :=
  ⟨(h.set0 x).cell0, ((h.set0 x).set1 y).cell1, (((h.set0 x).set1 y).set2 z).cell2⟩
theorem below_stored {B g : Nat} {w w' : World} (h : Below B w w') (hg : B ≤ g) (x y z : Value) : Below B w (((w'.setCell ⟨g, 0, none⟩ x).setCell ⟨g, 1, none⟩ y).setCell ⟨g, 2, none⟩ z) :=
  ((h.setCell (p := ⟨g, 0, none⟩) hg x).setCell (p := ⟨g, 1, none⟩) hg y).setCell (p := ⟨g, 2, none⟩) hg z
theorem heap_stored (w : World) (g k : Nat) (h : k ≠ g) (x y z : Value) : (((w.setCell ⟨g, 0, none⟩ x).setCell ⟨g, 1, none⟩ y).setCell ⟨g, 2, none⟩ z).heap[k]? = w.heap[k]? := by
  rw [Below.heap_setCell _ _ _ _ h, Below.heap_setCell _ _ _ _ h, Below.heap_setCell _ _ _ _ h]
theorem Ints.stored {w : World} {a : Option Addr} {n : Nat} {l : List Int} (h : Ints w a n l) (g : Nat) (hg : ∀ p, a = some p → g < p.block) (x y z : Value) : Ints (((w.setCell ⟨g, 0, none⟩ x).setCell ⟨g, 1, none⟩ y).setCell ⟨g, 2, none⟩ z) a n l := by
  obtain ⟨h1, h2, h4⟩ := h
  refine ⟨h1, h2, fun hp => ?_⟩
  obtain ⟨b, off, ha, hlt, hc⟩ := h4 hp
  have hb := hg _ ha
  refine ⟨b, off, ha, by simpa [World.setCell] using hlt, fun i hi => ?_⟩
  rw [World.cell?_of_block (w := w) (a := ⟨b, off + i, none⟩) (heap_stored w g b (by simp at hb; omega) x y z)]
  exact hc i hi
theorem Blks.stored {w : World} {a : Option Addr} {n : Nat} {l : List Int} (h : Blks w a n l) (g : Nat) (hg : ∀ p, a = some p → g < p.block) (x y z : Value) : Blks (((w.setCell ⟨g, 0, none⟩ x).setCell ⟨g, 1, none⟩ y).setCell ⟨g, 2, none⟩ z) a n l := by
  obtain ⟨h1, h2, h3, h4⟩ := h
  refine ⟨h1, h2, h3, fun hp => ?_⟩
  obtain ⟨b, off, ha, hlt, hc⟩ := h4 hp
  have hb := hg _ ha
  refine ⟨b, off, ha, by simpa [World.setCell] using hlt, fun i hi => ?_⟩
  rw [World.cell?_of_block (w := w) (a := ⟨b, off + i, none⟩) (heap_stored w g b (by simp at hb; omega) x y z)]
  exact hc i hi
theorem OwnI.above {w : World} {base n c : Nat} {a : Option Addr} {l : List Int} (h : OwnI w base (.slice a n c) l) : ∀ p, a = some p → base ≤ p.block := fun p hp => (World.ownsRow.lt h p.block (by rw [hp]; rfl)).1
theorem OwnB.above {w : World} {base m n c : Nat} {a : Option Addr} {l : List Int} (h : OwnB w base (.slice a n c) m l) : ∀ p, a = some p → base ≤ p.block := fun p hp => (World.ownsRow.lt h.2 p.block (by rw [hp]; rfl)).1
theorem BoxAt.new (w : World) (s0 s1 s2 : Value) : BoxAt (w.alloc (.cells #[s0, s1, s2] 25)) w.heap.size s0 s1 s2 := heap_alloc_new w _
end Go.Proofs.Ytdhmijjphgcdmaa
