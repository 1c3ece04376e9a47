/-
  Boxes of memory, copies as a region's calls hand them on, a disk that is being made.
-/
import Derived.Deep.RegionHeld
import Derived.Deep.CutRange
import Derived.Deep.DeepCutAuto
import Derived.Deep.Onto
import Derived.Test.YtfbmaemnbolplaaDoorZDclone

namespace Go.Proofs.YtfbmaemnbolplaaDoor
open Go.RowKit

/-- a block of memory, whole -/
def Bx (w : World) (g : Nat) (cs : Array Value) (t : TypeId) : Prop := w.heap[g]? = some (.cells cs t (0, 0))
theorem Bx.new (w : World) (cs : Array Value) (t : TypeId) : Bx (w.alloc (.cells cs t)) w.heap.size cs t := heap_alloc_new w _
theorem Bx.newD (w : World) (cs : Array Value) (t : TypeId) : Bx (w.alloc (.cells cs t)).drew w.heap.size cs t := heap_alloc_new w _
theorem Bx.lt {w : World} {g : Nat} {cs : Array Value} {t : TypeId} (h : Bx w g cs t) : g < w.heap.size := (Array.getElem?_eq_some_iff.1 h).1
theorem Bx.alloc {w : World} {g : Nat} {cs : Array Value} {t : TypeId} (h : Bx w g cs t) (o : Obj) : Bx (w.alloc o) g cs t := (Below.heap_alloc w o g h.lt).trans h
theorem Bx.later {w w' : World} {g B : Nat} {cs : Array Value} {t : TypeId} (h : Bx w g cs t) (hb : Below B w w') (hg : g < B) : Bx w' g cs t := (hb.block g hg).trans h
theorem Bx.cell {w : World} {g : Nat} {cs : Array Value} {t : TypeId} (h : Bx w g cs t) (j : Nat) : w.cell? ⟨g, j, none⟩ = cs[j]? := cell_of_cells h j
theorem Bx.frozen {w : World} {g : Nat} {cs : Array Value} {t : TypeId} (h : Bx w g cs t) (o : Nat) : w.frozen? ⟨g, o, none⟩ = false := by unfold World.frozen?; rw [h]; simp
theorem Bx.set {w : World} {g : Nat} {cs : Array Value} {t : TypeId} (h : Bx w g cs t) (j : Nat) (v : Value) : Bx (w.setCell ⟨g, j, none⟩ v) g (cs.setIfInBounds j v) t := by
  unfold Bx at *
  simp [World.setCell, Array.getElem?_modify, h]
theorem Bx.other {w : World} {g : Nat} {cs : Array Value} {t : TypeId} (h : Bx w g cs t) (p : Addr) (v : Value) (hp : g ≠ p.block) : Bx (w.setCell p v) g cs t := (Below.heap_setCell w p v g hp).trans h
theorem Bx.three {w : World} {g : Nat} {s0 s1 s2 : Value} {t : TypeId} (h : Bx w g #[s0, s1, s2] t) : w.cell? ⟨g, 0, none⟩ = some s0 ∧ w.cell? ⟨g, 1, none⟩ = some s1 ∧ w.cell? ⟨g, 2, none⟩ = some s2 := ⟨h.cell 0, h.cell 1, h.cell 2⟩
theorem Bx.eight {w : World} {g : Nat} {x : B8} {t : TypeId} (h : Bx w g #[.int .u8 x.z0, .int .u8 x.z1, .int .u8 x.z2, .int .u8 x.z3, .int .u8 x.z4, .int .u8 x.z5, .int .u8 x.z6, .int .u8 x.z7] t) :
    w.cell? ⟨g, 0, none⟩ = some (.int .u8 x.z0) ∧ w.cell? ⟨g, 1, none⟩ = some (.int .u8 x.z1) ∧ w.cell? ⟨g, 2, none⟩ = some (.int .u8 x.z2) ∧ w.cell? ⟨g, 3, none⟩ = some (.int .u8 x.z3) ∧
    w.cell? ⟨g, 4, none⟩ = some (.int .u8 x.z4) ∧ w.cell? ⟨g, 5, none⟩ = some (.int .u8 x.z5) ∧ w.cell? ⟨g, 6, none⟩ = some (.int .u8 x.z6) ∧ w.cell? ⟨g, 7, none⟩ = some (.int .u8 x.z7) :=
  ⟨h.cell 0, h.cell 1, h.cell 2, h.cell 3, h.cell 4, h.cell 5, h.cell 6, h.cell 7⟩

/-- what lies below is as it was: as rules for the walk -/
theorem Below.keeps {W w' : World} (h : Below W.heap.size W w') : (∀ k j, k < W.heap.size → w'.cell? ⟨k, j, none⟩ = W.cell? ⟨k, j, none⟩) ∧ (∀ k j, k < W.heap.size → w'.frozen? ⟨k, j, none⟩ = W.frozen? ⟨k, j, none⟩) ∧ ∀ k, k < W.heap.size → k < w'.heap.size :=
  ⟨fun k j hk => h.cell (p := ⟨k, j, none⟩) hk, fun k j hk => by unfold World.frozen?; rw [show w'.heap[k]? = W.heap[k]? from h.block k hk], fun k hk => Nat.lt_of_lt_of_le hk h.size⟩

/-- what a call hands on to the rest of a region: all that was there is as it was; the disk's box, and the box that is being made -/
def Past (w1 w w' : World) : Prop := Below w1.heap.size w1 w' ∧ Below w.heap.size w w'
def DC (w : World) (g : Nat) (s0 s1 s2 : Value) : Prop := w.cell? ⟨g, 0, none⟩ = some s0 ∧ w.cell? ⟨g, 1, none⟩ = some s1 ∧ w.cell? ⟨g, 2, none⟩ = some s2 ∧ g < w.heap.size ∧ ∀ o, w.frozen? ⟨g, o, none⟩ = false
theorem Bx.dc {w : World} {g : Nat} {s0 s1 s2 : Value} {t : TypeId} (h : Bx w g #[s0, s1, s2] t) : DC w g s0 s1 s2 := ⟨h.cell 0, h.cell 1, h.cell 2, h.lt, h.frozen⟩

/-- the disk's box lies, and all that was there -/
abbrev Held (w1 : World) (g : Nat) (s0 s1 s2 : Value) (w' : World) : Prop := w'.cell? ⟨g, 0, none⟩ = some s0 ∧ w'.cell? ⟨g, 1, none⟩ = some s1 ∧ w'.cell? ⟨g, 2, none⟩ = some s2 ∧ Below w1.heap.size w1 w'
theorem Held.of {w1 w' : World} {g : Nat} {s0 s1 s2 : Value} {t : TypeId} (hd : Bx w1 g #[s0, s1, s2] t) (h : Below w1.heap.size w1 w') : Held w1 g s0 s1 s2 w' := by
  obtain ⟨h0, h1, h2⟩ := (hd.later h hd.lt).three
  exact ⟨h0, h1, h2, h⟩
theorem Held.alloc {w1 w' : World} {g : Nat} {s0 s1 s2 : Value} {t : TypeId} (hd : Bx w1 g #[s0, s1, s2] t) (h : Held w1 g s0 s1 s2 w') (o : Obj) : Held w1 g s0 s1 s2 (w'.alloc o) := Held.of hd (h.2.2.2.alloc h.2.2.2.size o)
theorem Held.drew {w1 : World} {g : Nat} {s0 s1 s2 : Value} {t : TypeId} (hd : Bx w1 g #[s0, s1, s2] t) : Held w1 g s0 s1 s2 w1.drew := Held.of hd (Below.refl _ _).drew
theorem Held.set {w1 w' : World} {g : Nat} {s0 s1 s2 : Value} {t : TypeId} (hd : Bx w1 g #[s0, s1, s2] t) (h : Held w1 g s0 s1 s2 w') (p : Addr) (hp : w1.heap.size ≤ p.block) (v : Value) : Held w1 g s0 s1 s2 (w'.setCell p v) := Held.of hd (h.2.2.2.setCell hp v)

theorem cloneB_at {w1 : World} {g : Nat} {s0 s1 s2 : Value} {t : TypeId} (a : Option Addr) (n c : Nat) (l : List B8) (w : World) (hl : BL w1 a n l) (hn : n ≤ 1000000) (hd : Bx w1 g #[s0, s1, s2] t) (hb : Below w1.heap.size w1 w) :
    Calls Tryd.prog 11 #[.slice a n c] w fun e w' => ∃ a' c', e = .returned (.slice a' n c') ∧ Hid (OwnBL w' w.heap.size (.slice a' n c') l) ∧ Hid (Past w1 w w') ∧ DC w' g s0 s1 s2 := by
  refine (cloneB_any a n c l w (hl.later hb) hn).mono ?_
  rintro e w' ⟨v, rfl, ho, hb'⟩
  obtain ⟨a', c', hv, _⟩ := ownsRow_rowR ho
  rw [hl.1] at hv
  subst hv
  have h2 := hb.trans (hb'.mono hb.size)
  exact ⟨a', c', rfl, ho, ⟨h2, hb'⟩, (hd.later h2 hd.lt).dc⟩
theorem cloneB_at2 {w1 : World} {g g' : Nat} {s0 s1 s2 s0' s1' s2' : Value} {t t' : TypeId} (a : Option Addr) (n c : Nat) (l : List B8) (w : World) (hl : BL w1 a n l) (hn : n ≤ 1000000) (hd : Bx w1 g #[s0, s1, s2] t) (hx : Bx w g' #[s0', s1', s2'] t') (hge : w1.heap.size ≤ g') (hb : Below w1.heap.size w1 w) :
    Calls Tryd.prog 11 #[.slice a n c] w fun e w' => ∃ a' c', e = .returned (.slice a' n c') ∧ Hid (OwnBL w' w.heap.size (.slice a' n c') l) ∧ Hid (Past w1 w w') ∧ DC w' g s0 s1 s2 ∧ Hid (Bx w' g' #[s0', s1', s2'] t') ∧ w1.heap.size ≤ g' ∧ DC w' g' s0' s1' s2' := by
  refine (cloneB_at a n c l w hl hn hd hb).mono ?_
  rintro e w' ⟨a', c', rfl, ho, hp, hdc⟩
  have h := hx.later hp.2 hx.lt
  exact ⟨a', c', rfl, ho, hp, hdc, h, hge, h.dc⟩

theorem cell_newsP (w : World) (p : Pt) (t : TypeId) :
    ∀ j u, (flatP [p])[j]? = some u → (w.alloc (.cells #[.int .i64 p.at_, .int .u8 p.d.z0, .int .u8 p.d.z1, .int .u8 p.d.z2, .int .u8 p.d.z3, .int .u8 p.d.z4, .int .u8 p.d.z5, .int .u8 p.d.z6, .int .u8 p.d.z7] t)).cell? ((⟨w.heap.size, 0, none⟩ : Addr).add j) = some u := by
  intro j u hj
  have hadd : (⟨w.heap.size, 0, none⟩ : Addr).add j = ⟨w.heap.size, j, none⟩ := by unfold Addr.add; split <;> simp_all
  rw [hadd, World.cell?_alloc_new]
  simpa [flatP, Pt.cs] using hj

/-- one put more -/
theorem wpList_append_put {w : World} {ops : Array Oper} {rest : List Oper} {o : Oper} {a : Act} {Q : Exit → Act → World → Prop} (hgd : o.guard = none) (s x : Operand)
    (ho : o.op = .call { callee := .builtin .append, args := #[s, x], argTypes := #[23, 23] }) (base : Nat) (l : List Pt) (hown : OwnPL w base (a.eval s) l)
    (p : Pt) (hx : a.eval x = .slice (some ⟨w.heap.size, 0, none⟩) 1 1) (h63 : l.length ≤ 1000000) (hbase : base ≤ w.heap.size)
    (h : ∀ ad c w', OwnPL w' base (.slice (some ad) (l.length + 1) c) (l ++ [p]) → w.grownBy w' (a.eval s).ownBlock → wpList Tryd.prog ops Q rest (a.put o.dst (.slice (some ad) (l.length + 1) c)) w') :
    wpList Tryd.prog ops Q (o :: rest) a (w.alloc (.cells #[.int .i64 p.at_, .int .u8 p.d.z0, .int .u8 p.d.z1, .int .u8 p.d.z2, .int .u8 p.d.z3, .int .u8 p.d.z4, .int .u8 p.d.z5, .int .u8 p.d.z6, .int .u8 p.d.z7] 38)) := by
  obtain ⟨i0, hi, hz0, hz1, hz2⟩ := info_parts Tryd.info38
  refine wpList_append_own _ hgd s x 23 ho base 38 i0 _ 9 16 Tryd.underlying23 hi hz0 hz1 hz2 rfl (by decide) (a.eval s) l.length (flatP l) rfl (World.ownsRow.alloc hown _) ⟨w.heap.size, 0, none⟩ 1 1 (flatP [p]) hx (by simp [flatP, Pt.cs]) (cell_newsP w p 38) flatP_one (by unfold maxLen; omega) (by omega) (by simp; omega) ?_
  intro v' w' hown' hg _
  have hI : OwnPL w' base v' (l ++ [p]) := by
    unfold OwnPL
    rw [List.length_append, flatP, List.flatMap_append]
    exact hown'
  have hg' : w.grownBy w' (a.eval s).ownBlock := ⟨hg.os, hg.tape, hg.output, by have := hg.size; simp at this; omega, fun k hk hne => (hg.block k (by simp; omega) hne).trans (Below.heap_alloc w _ k hk)⟩
  rcases hown'.2 with ⟨_, hz⟩ | ⟨g, cap, cur, rfl, hbg, _⟩
  · simp at hz
  · exact h _ _ w' hI hg'

theorem ownsRow_other {w : World} {base e size : Nat} {v : Value} {n : Nat} {xs : List Value} (h : w.ownsRow base e size v n xs) (p : Addr) (u : Value) (hne : v.ownBlock ≠ some p.block) : (w.setCell p u).ownsRow base e size v n xs := by
  refine ⟨h.1, ?_⟩
  rcases h.2 with h | ⟨g, cap, cur, hv, hb, hh, rest⟩
  · exact .inl h
  · exact .inr ⟨g, cap, cur, hv, hb, (Below.heap_setCell w p u g (fun e => hne (by rw [hv]; exact congrArg some e))).trans hh, rest⟩

theorem own_ne_bx {w : World} {base e size g : Nat} {v : Value} {n : Nat} {xs : List Value} {cs : Array Value} {t : TypeId} (h : w.ownsRow base e size v n xs) (hb : Bx w g cs t) (hne : e ≠ t) : v.ownBlock ≠ some g := by
  rcases h.2 with ⟨hv, _⟩ | ⟨g', cap, cur, hv, _, hh, _⟩
  · rw [hv]
    simp [Value.ownBlock]
  · rw [hv]
    intro e'
    have e2 : g' = g := Option.some.inj e'
    subst e2
    rw [hb] at hh
    cases hh
    exact hne rfl


theorem set8_list {α : Type} (L : List α) (o : Nat) (a0 a1 a2 a3 a4 a5 a6 a7 : α) (h : o + 8 ≤ L.length) :
    (((((((L.set o a0).set (o + 1) a1).set (o + 2) a2).set (o + 3) a3).set (o + 4) a4).set (o + 5) a5).set (o + 6) a6).set (o + 7) a7 = L.take o ++ [a0, a1, a2, a3, a4, a5, a6, a7] ++ L.drop (o + 8) := by
  have hL : L = L.take o ++ ((L.drop o).take 8 ++ L.drop (o + 8)) := by
    rw [show L.drop (o + 8) = (L.drop o).drop 8 by rw [List.drop_drop], List.take_append_drop, List.take_append_drop]
  have hl : (L.take o).length = o := by rw [List.length_take]; omega
  have h8 : ((L.drop o).take 8).length = 8 := by rw [List.length_take, List.length_drop]; omega
  generalize L.take o = A at *
  generalize (L.drop o).take 8 = B at *
  generalize L.drop (o + 8) = C at *
  match B, h8 with
  | [b0, b1, b2, b3, b4, b5, b6, b7], _ =>
    subst hL
    subst hl
    have e := fun (X : List α) (i : Nat) (v : α) => List.set_append_right (s := A) (t := X) (A.length + i) v (by omega)
    have e0 := fun (X : List α) (v : α) => List.set_append_right (s := A) (t := X) A.length v (Nat.le_refl _)
    simp only [Nat.add_sub_cancel_left, Nat.sub_self] at e e0
    simp only [e, e0, List.cons_append, List.nil_append, List.set_cons_zero, List.set_cons_succ, List.append_assoc]

/-- a block stored into a row: its eight cells -/
def set8 (w : World) (g o : Nat) (x : B8) : World :=
  (((((((w.setCell ⟨g, o, none⟩ (.int .u8 x.z0)).setCell ⟨g, o + 1, none⟩ (.int .u8 x.z1)).setCell ⟨g, o + 2, none⟩ (.int .u8 x.z2)).setCell ⟨g, o + 3, none⟩ (.int .u8 x.z3)).setCell ⟨g, o + 4, none⟩ (.int .u8 x.z4)).setCell ⟨g, o + 5, none⟩ (.int .u8 x.z5)).setCell ⟨g, o + 6, none⟩ (.int .u8 x.z6)).setCell ⟨g, o + 7, none⟩ (.int .u8 x.z7)

theorem OwnBL.put {w : World} {base g n cap : Nat} {l : List B8} (h : OwnBL w base (.slice (some ⟨g, 0, none⟩) n cap) l) (j : Nat) (hj : j < l.length) (x : B8) : OwnBL (set8 w g (j * 8) x) base (.slice (some ⟨g, 0, none⟩) n cap) (l.set j x) := by
  rcases h.2 with ⟨hv, _⟩ | ⟨g', cap', cur, hv, hb, hh, hle, hmx, hcs, htk⟩
  · cases hv
  · simp only [Value.slice.injEq, Option.some.injEq, Addr.mk.injEq, and_true] at hv
    obtain ⟨rfl, hn, rfl⟩ := hv
    have hbx : Bx w g cur 25 := hh
    have h8 := (((((((hbx.set (j * 8) (.int .u8 x.z0)).set (j * 8 + 1) (.int .u8 x.z1)).set (j * 8 + 2) (.int .u8 x.z2)).set (j * 8 + 3) (.int .u8 x.z3)).set (j * 8 + 4) (.int .u8 x.z4)).set (j * 8 + 5) (.int .u8 x.z5)).set (j * 8 + 6) (.int .u8 x.z6)).set (j * 8 + 7) (.int .u8 x.z7)
    refine ⟨by rw [flatB_len, List.length_set], .inr ⟨g, cap, _, by rw [List.length_set, hn], hb, h8, by rw [List.length_set]; omega, hmx, by simpa using hcs, ?_⟩⟩
    have hf : flatB (l.set j x) = (flatB l).take (j * 8) ++ x.cs ++ (flatB l).drop (j * 8 + 8) := flatMap_set B8.cs 8 (fun _ => rfl) l j x hj
    simp only [Array.toList_setIfInBounds, List.take_set]
    rw [List.length_set, htk, set8_list (flatB l) (j * 8) _ _ _ _ _ _ _ _ (by rw [flatB_len]; omega), hf]
    rfl

theorem set8_below {B g : Nat} {w w' : World} (h : Below B w w') (hg : B ≤ g) (o : Nat) (x : B8) : Below B w (set8 w' g o x) :=
  (((((((h.setCell (p := ⟨g, o, none⟩) hg _).setCell (p := ⟨g, o + 1, none⟩) hg _).setCell (p := ⟨g, o + 2, none⟩) hg _).setCell (p := ⟨g, o + 3, none⟩) hg _).setCell (p := ⟨g, o + 4, none⟩) hg _).setCell (p := ⟨g, o + 5, none⟩) hg _).setCell (p := ⟨g, o + 6, none⟩) hg _).setCell (p := ⟨g, o + 7, none⟩) hg _

theorem set8_other {w : World} {g o k : Nat} (hk : k ≠ g) (x : B8) : (set8 w g o x).heap[k]? = w.heap[k]? := by
  unfold set8
  rw [Below.heap_setCell _ _ _ _ hk, Below.heap_setCell _ _ _ _ hk, Below.heap_setCell _ _ _ _ hk, Below.heap_setCell _ _ _ _ hk, Below.heap_setCell _ _ _ _ hk, Below.heap_setCell _ _ _ _ hk, Below.heap_setCell _ _ _ _ hk, Below.heap_setCell _ _ _ _ hk]

theorem Bx.set8 {w : World} {g k : Nat} {cs : Array Value} {t : TypeId} (h : Bx w k cs t) (hk : k ≠ g) (o : Nat) (x : B8) : Bx (set8 w g o x) k cs t := (set8_other hk x).trans h

theorem OwnBL.form {w : World} {base n c : Nat} {a : Option Addr} {l : List B8} (h : OwnBL w base (.slice a n c) l) (hn : 0 < n) : ∃ g, a = some ⟨g, 0, none⟩ ∧ base ≤ g ∧ g < w.heap.size ∧ l.length = n ∧ ∀ o, w.frozen? ⟨g, o, none⟩ = false := by
  rcases h.2 with ⟨hv, _⟩ | ⟨g, cap, cur, hv, hb, hh, _⟩
  · simp only [Value.slice.injEq] at hv
    omega
  · simp only [Value.slice.injEq] at hv
    obtain ⟨rfl, rfl, rfl⟩ := hv
    exact ⟨g, rfl, hb, (Array.getElem?_eq_some_iff.1 hh).1, rfl, fun o => (show Bx w g cur 25 from hh).frozen o⟩

theorem OwnBL.at_ {w : World} {base g n c : Nat} {l : List B8} (h : OwnBL w base (.slice (some ⟨g, 0, none⟩) n c) l) (k : Nat) (hk : k < n) :
    ∃ x : B8, l[k]? = some x ∧ w.cell? ⟨g, k * 8, none⟩ = some (.int .u8 x.z0) ∧ w.cell? ⟨g, k * 8 + 1, none⟩ = some (.int .u8 x.z1) ∧ w.cell? ⟨g, k * 8 + 2, none⟩ = some (.int .u8 x.z2) ∧
      w.cell? ⟨g, k * 8 + 3, none⟩ = some (.int .u8 x.z3) ∧ w.cell? ⟨g, k * 8 + 4, none⟩ = some (.int .u8 x.z4) ∧ w.cell? ⟨g, k * 8 + 5, none⟩ = some (.int .u8 x.z5) ∧
      w.cell? ⟨g, k * 8 + 6, none⟩ = some (.int .u8 x.z6) ∧ w.cell? ⟨g, k * 8 + 7, none⟩ = some (.int .u8 x.z7) := by
  obtain ⟨a, c', hv, hb, _⟩ := h.bl
  simp only [Value.slice.injEq] at hv
  obtain ⟨rfl, rfl, rfl⟩ := hv
  obtain ⟨b, off, x, ha, _, hx, hcs⟩ := hb.at_ k hk
  simp only [Option.some.injEq, Addr.mk.injEq, and_true] at ha
  obtain ⟨rfl, rfl⟩ := ha
  simp only [Nat.zero_add] at hcs
  exact ⟨x, hx, hcs⟩
end Go.Proofs.YtfbmaemnbolplaaDoor

/-
  A great function in parts: its tail from a statement on, as a proposition of its own, whatever the function and what is said of it.
-/
namespace Go.Proofs.YtfbmaemnbolplaaDoor
open Go.RowKit

def sndG : Code → Code
  | .seq _ b => b
  | c => c

def itsG : Nat → Code → Code
  | 0, c => c
  | k + 1, c => sndG (itsG k c)

def TailG (f : Func) (P : Ending → World → Prop) (k : Nat) (a : Act) (x : World) : Prop :=
  Code.wp Tryd.prog (itsG k (f.body.getD .skip)) (bodyPost Tryd.prog f P) a x

theorem tailG_step {f : Func} {P : Ending → World → Prop} {k : Nat} {x : World} {a : Act} {s : Code} (h : itsG k (f.body.getD .skip) = .seq s (itsG (k + 1) (f.body.getD .skip)))
    (hs : ∀ K : Act → World → Prop, (∀ a' x', Met (TailG f P (k + 1)) a' x' → K a' x') → Code.wp Tryd.prog s (Exit.then K (bodyPost Tryd.prog f P)) a x) : TailG f P k a x := by
  unfold TailG
  rw [h]
  refine wp_seq_k (fun K hK => hs K (fun a' x' hm => hK a' x' hm))

theorem tailG_last {f : Func} {P : Ending → World → Prop} {k : Nat} {x : World} {a : Act} {c : Code} (h : itsG k (f.body.getD .skip) = c)
    (hs : Code.wp Tryd.prog c (bodyPost Tryd.prog f P) a x) : TailG f P k a x := by
  unfold TailG
  rw [h]
  exact hs

end Go.Proofs.YtfbmaemnbolplaaDoor

/-
  Tails of a part of a function: the code from a statement on.
-/
namespace Go.Proofs.YtfbmaemnbolplaaDoor
open Go.RowKit

/-- a part of a function, from a statement on -/
def TailQ (c : Code) (Q : Exit → Act → World → Prop) (k : Nat) (a : Act) (x : World) : Prop := Code.wp Tryd.prog (itsG k c) Q a x

theorem tailQ_step {c : Code} {Q : Exit → Act → World → Prop} {k : Nat} {x : World} {a : Act} {s : Code} (h : itsG k c = .seq s (itsG (k + 1) c))
    (hs : ∀ K : Act → World → Prop, (∀ a' x', Met (TailQ c Q (k + 1)) a' x' → K a' x') → Code.wp Tryd.prog s (Exit.then K Q) a x) : TailQ c Q k a x := by
  unfold TailQ
  rw [h]
  refine wp_seq_k (fun K hK => hs K (fun a' x' hm => hK a' x' hm))

theorem tailQ_last {c c' : Code} {Q : Exit → Act → World → Prop} {k : Nat} {x : World} {a : Act} (h : itsG k c = c') (hs : Code.wp Tryd.prog c' Q a x) : TailQ c Q k a x := by
  unfold TailQ
  rw [h]
  exact hs

theorem seq_step {s c : Code} {Q : Exit → Act → World → Prop} {a : Act} {x : World} (hs : ∀ K : Act → World → Prop, (∀ a' x', Met (fun a'' x'' => Code.wp Tryd.prog c Q a'' x'') a' x' → K a' x') → Code.wp Tryd.prog s (Exit.then K Q) a x) : Code.wp Tryd.prog (.seq s c) Q a x :=
  wp_seq_k (fun K hK => hs K (fun a' x' hm => hK a' x' hm))

def fstG : Code → Code
  | .seq s _ => s
  | c => c

/-- the way of an 'if' that is gone -/
def thenG : Code → Code
  | .seq _ (.cond _ t _) => t
  | c => c

/-- the body of a 'for' with a condition -/
def bodyG : Code → Code
  | .seq _ (.block _ (.loop (.seq _ (.seq (.block _ b) _)))) => b
  | c => c

end Go.Proofs.YtfbmaemnbolplaaDoor

/-
  Where a block is in a list (First, slices.Index, slices.Contains); whether a list may be what was had (HadMay, cache.Check).
-/
namespace Go.Proofs.YtfbmaemnbolplaaDoor
open Go.RowKit

instance : DecidableEq B8 := fun x y => decidable_of_iff _ (B8.eq_list x y)

namespace Mx
/-- the first place of a block, or -1 -/
def firstI (l : List B8) (b : B8) : Int := if b ∈ l then (l.idxOf b : Int) else -1
/-- what may have been had -/
def hmay (l : List B8) : Int := if 8 < l.length then 2 else if l.Nodup then 0 else 3

theorem firstI_at {l : List B8} {b : B8} {k : Nat} (h : l[k]? = some b) (hn : ∀ j : Nat, j < k → l[j]? ≠ some b) : firstI l b = k := by
  have hm : b ∈ l := List.mem_of_getElem? h
  rw [firstI, if_pos hm]
  congr 1
  have hk : k < l.length := (List.getElem?_eq_some_iff.1 h).1
  have h1 : l.idxOf b < l.length := List.idxOf_lt_length_of_mem hm
  have h2 : l[l.idxOf b]? = some b := by rw [List.getElem?_eq_getElem h1, List.getElem_idxOf h1]
  have h3 : ¬ l.idxOf b < k := fun h => hn _ h h2
  have h4 : ¬ k < l.idxOf b := fun h5 => by
    have h6 := List.not_of_lt_findIdx h5
    have h7 := (List.getElem?_eq_some_iff.1 h).2
    simp [h7] at h6
  omega
theorem firstI_none {l : List B8} {b : B8} (hn : ∀ j : Nat, j < l.length → l[j]? ≠ some b) : firstI l b = -1 := by
  rw [firstI, if_neg]
  intro hm
  obtain ⟨i, hi, e⟩ := List.getElem_of_mem hm
  exact hn i hi (by rw [List.getElem?_eq_getElem hi, e])
theorem firstI_nonneg (l : List B8) (b : B8) : decide (0 ≤ firstI l b) = decide (b ∈ l) := by
  by_cases h : b ∈ l
  · rw [firstI, if_pos h]
    simp [h]
  · rw [firstI, if_neg h]
    simp [h]
theorem firstI_lt {l : List B8} {b : B8} {k : Nat} (h : l[k]? = some b) : (firstI l b < k) ↔ b ∈ l.take k := by
  have hm : b ∈ l := List.mem_of_getElem? h
  have hk : k < l.length := (List.getElem?_eq_some_iff.1 h).1
  have h1 : l.idxOf b < l.length := List.idxOf_lt_length_of_mem hm
  rw [firstI, if_pos hm]
  constructor
  · intro h2
    have h2' : l.idxOf b < k := by omega
    refine List.mem_of_getElem? (i := l.idxOf b) ?_
    rw [List.getElem?_take_of_lt h2', List.getElem?_eq_getElem h1, List.getElem_idxOf h1]
  · intro h2
    obtain ⟨j, hj, e⟩ := List.getElem_of_mem h2
    rw [List.length_take] at hj
    rw [List.getElem_take] at e
    have h4 : ¬ j < l.idxOf b := fun h5 => by
      have h6 := List.not_of_lt_findIdx h5
      simp [e] at h6
    omega
theorem nodup_snoc {l : List B8} {k : Nat} {b : B8} (h : l[k]? = some b) (hn : (l.take k).Nodup) (hb : b ∉ l.take k) : (l.take (k + 1)).Nodup := by
  rw [getElem_take_succ _ _ _ h, List.nodup_append]
  refine ⟨hn, by simp, fun x hx y hy => ?_⟩
  rintro rfl
  simp at hy
  subst hy
  exact hb hx
theorem nodup_not {l : List B8} {k : Nat} {b : B8} (h : l[k]? = some b) (hb : b ∈ l.take k) : ¬ l.Nodup := by
  intro hn
  have h1 : (l.take (k + 1)).Nodup := hn.sublist (List.take_sublist _ _)
  rw [getElem_take_succ _ _ _ h, List.nodup_append] at h1
  exact h1.2.2 b hb b (by simp) rfl
theorem hmay_long {l : List B8} (h : 8 < l.length) : hmay l = 2 := by rw [hmay, if_pos h]
theorem hmay_twice {l : List B8} {k : Nat} {b : B8} (hl : ¬ 8 < l.length) (h : l[k]? = some b) (hb : b ∈ l.take k) : hmay l = 3 := by rw [hmay, if_neg hl, if_neg (nodup_not h hb)]
theorem hmay_good {l : List B8} {k : Nat} (hl : ¬ 8 < l.length) (hk : l.length ≤ k) (h : (l.take k).Nodup) : hmay l = 0 := by
  rw [List.take_of_length_le hk] at h
  rw [hmay, if_neg hl, if_pos h]
end Mx

theorem Bx.drewN {w : World} {g : Nat} {cs : Array Value} {t : TypeId} (h : Bx w g cs t) (n : Nat) : Bx (w.drewN n) g cs t := h
theorem BL.take {w : World} {a : Option Addr} {n : Nat} {l : List B8} (h : BL w a n l) (k : Nat) (hk : k ≤ n) : BL w a k (l.take k) := by
  have hl : (l.take k).length = k := by rw [List.length_take, h.1]; omega
  refine ⟨hl, by rw [flatB_len, hl], by have := h.2.2.1; omega, fun hp => ?_⟩
  obtain ⟨b, off, ha, hb, hc⟩ := h.2.2.2 (by omega)
  refine ⟨b, off, ha, hb, fun j u hj => hc j u ?_⟩
  have e : flatB l = flatB (l.take k) ++ flatB (l.drop k) := by unfold flatB; rw [← List.flatMap_append, List.take_append_drop]
  rw [e, List.getElem?_append_left (List.getElem?_eq_some_iff.1 hj).1]
  exact hj

set_option maxHeartbeats 1000000 in
set_option maxRecDepth 100000 in
theorem first_any (a : Option Addr) (n c : Nat) (l : List B8) (x : B8) (w : World) (hl : BL w a n l) :
    Calls Tryd.prog 5 #[.slice a n c, .agg #[.int .u8 x.z0, .int .u8 x.z1, .int .u8 x.z2, .int .u8 x.z3, .int .u8 x.z4, .int .u8 x.z5, .int .u8 x.z6, .int .u8 x.z7]] w fun e w' => e = .returned (.int .i64 (Mx.firstI l x)) ∧ Below w.heap.size w w' := by
  have hlen : n ≤ maxLen := hl.2.2.1
  unfold maxLen at hlen
  have HL := hide hl
  clear hl
  go_enter Tryd.func5, Tryd.ntmps5
  go_wp2
  go_loopw [5] (fun i wr => ∃ k : Nat, k ≤ n ∧ i = .int .i64 k ∧ Hid (∀ j : Nat, j < k → l[j]? ≠ some x) ∧ Hid (Below w.heap.size w wr ∧ Bx wr w.heap.size #[.int .u8 x.z0, .int .u8 x.z1, .int .u8 x.z2, .int .u8 x.z3, .int .u8 x.z4, .int .u8 x.z5, .int .u8 x.z6, .int .u8 x.z7] 25)) (fun i _ => n - (intOf i).toNat)
  case atStart => exact ⟨0, by omega, rfl, fun j hj => absurd hj (by omega), below_alloc _ _, Bx.new _ _ _⟩
  case round =>
    obtain ⟨k, hk, rfl, hE, hF⟩ := hrel
    by_cases hlt : k < n
    · obtain ⟨b, off, y, rfl, hb, hy, e0, e1, e2, e3, e4, e5, e6, e7⟩ := (HL.out.later hF.out.1).at_ k hlt
      obtain ⟨f0, f1, f2, f3, f4, f5, f6, f7⟩ := hF.out.2.eight
      have HY := hide hy
      clear hy
      have heq := equal_block y.z0 y.z1 y.z2 y.z3 y.z4 y.z5 y.z6 y.z7 x.z0 x.z1 x.z2 x.z3 x.z4 x.z5 x.z6 x.z7
      by_cases hcc : [y.z0, y.z1, y.z2, y.z3, y.z4, y.z5, y.z6, y.z7] = [x.z0, x.z1, x.z2, x.z3, x.z4, x.z5, x.z6, x.z7]
      · have HC := hide ((B8.eq_list y x).1 hcc)
        rw [decide_eq_true hcc] at heq
        clear hcc
        go_wp2_with fail
        go_quiet (fail)
        go_wp2
        go_ret
        exact ⟨by rw [Mx.firstI_at (k := k) (by rw [HY.out, HC.out]) hE.out] <;> rfl, below_drewN hF.out.1 _⟩
      · have HC := hide (fun e => hcc ((B8.eq_list y x).2 e))
        rw [decide_eq_false hcc] at heq
        clear hcc
        go_wp2_with fail
        go_quiet (fail)
        go_wp2
        go_roundw
        case rel =>
          refine ⟨k + 1, by omega, by go_num, fun j hj e => ?_, below_drewN hF.out.1 _, hF.out.2.drewN _⟩
          rcases Nat.lt_succ_iff_lt_or_eq.1 hj with h | h
          · exact hE.out j h e
          · subst h
            rw [HY.out] at e
            exact HC.out (Option.some.inj e)
        case measure => simp [intOf]; omega
    · go_wp2
      go_ret
      exact ⟨by rw [Mx.firstI_none (fun j hj => hE.out j (by have := HL.out.1; omega))] <;> rfl, hF.out.1⟩

set_option maxHeartbeats 1000000 in
set_option maxRecDepth 100000 in
theorem index_any (a : Option Addr) (n c : Nat) (l : List B8) (x : B8) (w : World) (hl : BL w a n l) :
    Calls Tryd.prog 10 #[.slice a n c, .agg #[.int .u8 x.z0, .int .u8 x.z1, .int .u8 x.z2, .int .u8 x.z3, .int .u8 x.z4, .int .u8 x.z5, .int .u8 x.z6, .int .u8 x.z7]] w fun e w' => e = .returned (.int .i64 (Mx.firstI l x)) ∧ Below w.heap.size w w' := by
  have hlen : n ≤ maxLen := hl.2.2.1
  unfold maxLen at hlen
  have HL := hide hl
  clear hl
  go_enter Tryd.func10, Tryd.ntmps10
  go_wp2
  go_loopw [8] (fun i wr => ∃ k : Nat, k ≤ n ∧ i = .int .i64 k ∧ Hid (∀ j : Nat, j < k → l[j]? ≠ some x) ∧ Hid (Below w.heap.size w wr ∧ Bx wr w.heap.size #[.int .u8 x.z0, .int .u8 x.z1, .int .u8 x.z2, .int .u8 x.z3, .int .u8 x.z4, .int .u8 x.z5, .int .u8 x.z6, .int .u8 x.z7] 25)) (fun i _ => n - (intOf i).toNat)
  case atStart => exact ⟨0, by omega, rfl, fun j hj => absurd hj (by omega), below_alloc _ _, Bx.new _ _ _⟩
  case round =>
    obtain ⟨k, hk, rfl, hE, hF⟩ := hrel
    by_cases hlt : k < n
    · obtain ⟨b, off, y, rfl, hb, hy, e0, e1, e2, e3, e4, e5, e6, e7⟩ := (HL.out.later hF.out.1).at_ k hlt
      obtain ⟨f0, f1, f2, f3, f4, f5, f6, f7⟩ := hF.out.2.eight
      have HY := hide hy
      clear hy
      have heq := equal_block x.z0 x.z1 x.z2 x.z3 x.z4 x.z5 x.z6 x.z7 y.z0 y.z1 y.z2 y.z3 y.z4 y.z5 y.z6 y.z7
      by_cases hcc : [x.z0, x.z1, x.z2, x.z3, x.z4, x.z5, x.z6, x.z7] = [y.z0, y.z1, y.z2, y.z3, y.z4, y.z5, y.z6, y.z7]
      · have HC := hide ((B8.eq_list x y).1 hcc)
        rw [decide_eq_true hcc] at heq
        clear hcc
        go_wp2_with fail
        go_quiet (fail)
        go_wp2
        go_ret
        exact ⟨by rw [Mx.firstI_at (k := k) (by rw [HY.out, HC.out]) hE.out] <;> rfl, below_drewN hF.out.1 _⟩
      · have HC := hide (fun e => hcc ((B8.eq_list x y).2 e))
        rw [decide_eq_false hcc] at heq
        clear hcc
        go_wp2_with fail
        go_quiet (fail)
        go_wp2
        go_roundw
        case rel =>
          refine ⟨k + 1, by omega, by go_num, fun j hj e => ?_, below_drewN hF.out.1 _, hF.out.2.drewN _⟩
          rcases Nat.lt_succ_iff_lt_or_eq.1 hj with h | h
          · exact hE.out j h e
          · subst h
            rw [HY.out] at e
            exact HC.out (Option.some.inj e).symm
        case measure => simp [intOf]; omega
    · go_wp2
      go_ret
      exact ⟨by rw [Mx.firstI_none (fun j hj => hE.out j (by have := HL.out.1; omega))] <;> rfl, hF.out.1⟩

end Go.Proofs.YtfbmaemnbolplaaDoor

/-
  What stays where one block changes and others are made.
-/
namespace Go.Proofs.YtfbmaemnbolplaaDoor
open Go.RowKit

theorem Bx.grow {w w' : World} {g : Nat} {row : Option Nat} {cs : Array Value} {t : TypeId} (h : Bx w g cs t) (hg : w.grownBy w' row) (hne : some g ≠ row) : Bx w' g cs t := (hg.block g h.lt hne).trans h
theorem below_of_grown {w v w' : World} {y : Nat} (hb : Below w.heap.size w v) (hg : v.grownBy w' (some y)) (hy : w.heap.size ≤ y) : Below w.heap.size w w' :=
  ⟨hg.os.trans hb.os, hg.tape.trans hb.tape, hg.output.trans hb.output, Nat.le_trans hb.size hg.size, fun k hk =>
    (hg.block k (Nat.lt_of_lt_of_le hk hb.size) (fun e => absurd (Option.some.inj e) (by omega))).trans (hb.block k hk)⟩

theorem grow_of_below {w w' : World} (h : Below w.heap.size w w') (row : Option Nat) : w.grownBy w' row := ⟨h.os, h.tape, h.output, h.size, fun b hb _ => h.block b hb⟩
theorem Bx.two {w : World} {g : Nat} {s0 s1 : Value} {t : TypeId} (h : Bx w g #[s0, s1] t) : w.cell? ⟨g, 0, none⟩ = some s0 ∧ w.cell? ⟨g, 1, none⟩ = some s1 := ⟨h.cell 0, h.cell 1⟩

end Go.Proofs.YtfbmaemnbolplaaDoor
