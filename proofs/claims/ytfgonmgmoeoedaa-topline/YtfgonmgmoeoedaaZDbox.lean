/-
  Boxes of memory, copies as a region's calls hand them on, a disk that is being made.
-/
import Derived.Deep.RegionHeld
import Derived.Deep.CutRange
import Derived.Deep.DeepCutAuto
import Derived.Deep.Onto
import Derived.Test.YtfgonmgmoeoedaaZIs
import Derived.Test.YtfgonmgmoeoedaaZDclone

namespace Go.Proofs.Ytfgonmgmoeoedaa
open Go.RowKit

/-- a block of memory, whole -/
def Bx (w : World) (g : Nat) (cs : Array Value) (t : TypeId) : Prop := w.heap[g]? = some (.cells cs t (0, 0))
theorem Bx.new (w : World) (cs : Array Value) (t : TypeId) : Bx (w.alloc (.cells cs t)) w.heap.size cs t := heap_alloc_new w _
theorem Bx.newD (w : World) (cs : Array Value) (t : TypeId) : Bx (w.alloc (.cells cs t)).drew w.heap.size cs t := heap_alloc_new w _
theorem Bx.lt {w : World} {g : Nat} {cs : Array Value} {t : TypeId} (h : Bx w g cs t) : g < w.heap.size := (Array.getElem?_eq_some_iff.1 h).1
theorem Bx.alloc {w : World} {g : Nat} {cs : Array Value} {t : TypeId} (h : Bx w g cs t) (o : Obj) : Bx (w.alloc o) g cs t := (Below.heap_alloc w o g h.lt).trans h
theorem Bx.later {w w' : World} {g B : Nat} {cs : Array Value} {t : TypeId} (h : Bx w g cs t) (hb : Below B w w') (hg : g < B) : Bx w' g cs t := (hb.block g hg).trans h
theorem Bx.cell {w : World} {g : Nat} {cs : Array Value} {t : TypeId} (h : Bx w g cs t) (j : Nat) : w.cell? ⟨g, j, none⟩ = cs[j]? := cell_of_cells h j
theorem Bx.frozen {w : World} {g : Nat} {cs : Array Value} {t : TypeId} (h : Bx w g cs t) (o : Nat) : w.frozen? ⟨g, o, none⟩ = false := by unfold World.frozen?; rw [h]; simp
theorem Bx.set {w : World} {g : Nat} {cs : Array Value} {t : TypeId} (h : Bx w g cs t) (j : Nat) (v : Value) : Bx (w.setCell ⟨g, j, none⟩ v) g (cs.setIfInBounds j v) t := by
  unfold Bx at *
  simp [World.setCell, Array.getElem?_modify, h]
theorem Bx.other {w : World} {g : Nat} {cs : Array Value} {t : TypeId} (h : Bx w g cs t) (p : Addr) (v : Value) (hp : g ≠ p.block) : Bx (w.setCell p v) g cs t := (Below.heap_setCell w p v g hp).trans h
theorem Bx.three {w : World} {g : Nat} {s0 s1 s2 : Value} {t : TypeId} (h : Bx w g #[s0, s1, s2] t) : w.cell? ⟨g, 0, none⟩ = some s0 ∧ w.cell? ⟨g, 1, none⟩ = some s1 ∧ w.cell? ⟨g, 2, none⟩ = some s2 := ⟨h.cell 0, h.cell 1, h.cell 2⟩
theorem Bx.eight {w : World} {g : Nat} {x : B8} {t : TypeId} (h : Bx w g #[.int .u8 x.z0, .int .u8 x.z1, .int .u8 x.z2, .int .u8 x.z3, .int .u8 x.z4, .int .u8 x.z5, .int .u8 x.z6, .int .u8 x.z7] t) :
    w.cell? ⟨g, 0, none⟩ = some (.int .u8 x.z0) ∧ w.cell? ⟨g, 1, none⟩ = some (.int .u8 x.z1) ∧ w.cell? ⟨g, 2, none⟩ = some (.int .u8 x.z2) ∧ w.cell? ⟨g, 3, none⟩ = some (.int .u8 x.z3) ∧
    w.cell? ⟨g, 4, none⟩ = some (.int .u8 x.z4) ∧ w.cell? ⟨g, 5, none⟩ = some (.int .u8 x.z5) ∧ w.cell? ⟨g, 6, none⟩ = some (.int .u8 x.z6) ∧ w.cell? ⟨g, 7, none⟩ = some (.int .u8 x.z7) :=
  ⟨h.cell 0, h.cell 1, h.cell 2, h.cell 3, h.cell 4, h.cell 5, h.cell 6, h.cell 7⟩

/-- what lies below is as it was: as rules for the walk -/
theorem Below.keeps {W w' : World} (h : Below W.heap.size W w') : (∀ k j, k < W.heap.size → w'.cell? ⟨k, j, none⟩ = W.cell? ⟨k, j, none⟩) ∧ (∀ k j, k < W.heap.size → w'.frozen? ⟨k, j, none⟩ = W.frozen? ⟨k, j, none⟩) ∧ ∀ k, k < W.heap.size → k < w'.heap.size :=
  ⟨fun k j hk => h.cell (p := ⟨k, j, none⟩) hk, fun k j hk => by unfold World.frozen?; rw [show w'.heap[k]? = W.heap[k]? from h.block k hk], fun k hk => Nat.lt_of_lt_of_le hk h.size⟩

/-- what a call hands on to the rest of a region: all that was there is as it was; the disk's box, and the box that is being made -/
def Past (w1 w w' : World) : Prop := Below w1.heap.size w1 w' ∧ Below w.heap.size w w'
def DC (w : World) (g : Nat) (s0 s1 s2 : Value) : Prop := w.cell? ⟨g, 0, none⟩ = some s0 ∧ w.cell? ⟨g, 1, none⟩ = some s1 ∧ w.cell? ⟨g, 2, none⟩ = some s2 ∧ g < w.heap.size ∧ ∀ o, w.frozen? ⟨g, o, none⟩ = false
theorem Bx.dc {w : World} {g : Nat} {s0 s1 s2 : Value} {t : TypeId} (h : Bx w g #[s0, s1, s2] t) : DC w g s0 s1 s2 := ⟨h.cell 0, h.cell 1, h.cell 2, h.lt, h.frozen⟩

/-- the disk's box lies, and all that was there -/
abbrev Held (w1 : World) (g : Nat) (s0 s1 s2 : Value) (w' : World) : Prop := w'.cell? ⟨g, 0, none⟩ = some s0 ∧ w'.cell? ⟨g, 1, none⟩ = some s1 ∧ w'.cell? ⟨g, 2, none⟩ = some s2 ∧ Below w1.heap.size w1 w'
theorem Held.of {w1 w' : World} {g : Nat} {s0 s1 s2 : Value} {t : TypeId} (hd : Bx w1 g #[s0, s1, s2] t) (h : Below w1.heap.size w1 w') : Held w1 g s0 s1 s2 w' := by
  obtain ⟨h0, h1, h2⟩ := (hd.later h hd.lt).three
  exact ⟨h0, h1, h2, h⟩
theorem Held.alloc {w1 w' : World} {g : Nat} {s0 s1 s2 : Value} {t : TypeId} (hd : Bx w1 g #[s0, s1, s2] t) (h : Held w1 g s0 s1 s2 w') (o : Obj) : Held w1 g s0 s1 s2 (w'.alloc o) := Held.of hd (h.2.2.2.alloc h.2.2.2.size o)
theorem Held.drew {w1 : World} {g : Nat} {s0 s1 s2 : Value} {t : TypeId} (hd : Bx w1 g #[s0, s1, s2] t) : Held w1 g s0 s1 s2 w1.drew := Held.of hd (Below.refl _ _).drew
theorem Held.set {w1 w' : World} {g : Nat} {s0 s1 s2 : Value} {t : TypeId} (hd : Bx w1 g #[s0, s1, s2] t) (h : Held w1 g s0 s1 s2 w') (p : Addr) (hp : w1.heap.size ≤ p.block) (v : Value) : Held w1 g s0 s1 s2 (w'.setCell p v) := Held.of hd (h.2.2.2.setCell hp v)

theorem cell_newsP (w : World) (p : Pt) (t : TypeId) :
    ∀ j u, (flatP [p])[j]? = some u → (w.alloc (.cells #[.int .i64 p.at_, .int .u8 p.d.z0, .int .u8 p.d.z1, .int .u8 p.d.z2, .int .u8 p.d.z3, .int .u8 p.d.z4, .int .u8 p.d.z5, .int .u8 p.d.z6, .int .u8 p.d.z7] t)).cell? ((⟨w.heap.size, 0, none⟩ : Addr).add j) = some u := by
  intro j u hj
  have hadd : (⟨w.heap.size, 0, none⟩ : Addr).add j = ⟨w.heap.size, j, none⟩ := by unfold Addr.add; split <;> simp_all
  rw [hadd, World.cell?_alloc_new]
  simpa [flatP, Pt.cs] using hj

theorem ownsRow_other {w : World} {base e size : Nat} {v : Value} {n : Nat} {xs : List Value} (h : w.ownsRow base e size v n xs) (p : Addr) (u : Value) (hne : v.ownBlock ≠ some p.block) : (w.setCell p u).ownsRow base e size v n xs := by
  refine ⟨h.1, ?_⟩
  rcases h.2 with h | ⟨g, cap, cur, hv, hb, hh, rest⟩
  · exact .inl h
  · exact .inr ⟨g, cap, cur, hv, hb, (Below.heap_setCell w p u g (fun e => hne (by rw [hv]; exact congrArg some e))).trans hh, rest⟩

theorem own_ne_bx {w : World} {base e size g : Nat} {v : Value} {n : Nat} {xs : List Value} {cs : Array Value} {t : TypeId} (h : w.ownsRow base e size v n xs) (hb : Bx w g cs t) (hne : e ≠ t) : v.ownBlock ≠ some g := by
  rcases h.2 with ⟨hv, _⟩ | ⟨g', cap, cur, hv, _, hh, _⟩
  · rw [hv]
    simp [Value.ownBlock]
  · rw [hv]
    intro e'
    have e2 : g' = g := Option.some.inj e'
    subst e2
    rw [hb] at hh
    cases hh
    exact hne rfl


theorem set8_list {α : Type} (L : List α) (o : Nat) (a0 a1 a2 a3 a4 a5 a6 a7 : α) (h : o + 8 ≤ L.length) :
    (((((((L.set o a0).set (o + 1) a1).set (o + 2) a2).set (o + 3) a3).set (o + 4) a4).set (o + 5) a5).set (o + 6) a6).set (o + 7) a7 = L.take o ++ [a0, a1, a2, a3, a4, a5, a6, a7] ++ L.drop (o + 8) := by
  have hL : L = L.take o ++ ((L.drop o).take 8 ++ L.drop (o + 8)) := by
    rw [show L.drop (o + 8) = (L.drop o).drop 8 by rw [List.drop_drop], List.take_append_drop, List.take_append_drop]
  have hl : (L.take o).length = o := by rw [List.length_take]; omega
  have h8 : ((L.drop o).take 8).length = 8 := by rw [List.length_take, List.length_drop]; omega
  generalize L.take o = A at *
  generalize (L.drop o).take 8 = B at *
  generalize L.drop (o + 8) = C at *
  match B, h8 with
  | [b0, b1, b2, b3, b4, b5, b6, b7], _ =>
    subst hL
    subst hl
    have e := fun (X : List α) (i : Nat) (v : α) => List.set_append_right (s := A) (t := X) (A.length + i) v (by omega)
    have e0 := fun (X : List α) (v : α) => List.set_append_right (s := A) (t := X) A.length v (Nat.le_refl _)
    simp only [Nat.add_sub_cancel_left, Nat.sub_self] at e e0
    simp only [e, e0, List.cons_append, List.nil_append, List.set_cons_zero, List.set_cons_succ, List.append_assoc]

/-- a block stored into a row: its eight cells -/
def set8 (w : World) (g o : Nat) (x : B8) : World :=
  (((((((w.setCell ⟨g, o, none⟩ (.int .u8 x.z0)).setCell ⟨g, o + 1, none⟩ (.int .u8 x.z1)).setCell ⟨g, o + 2, none⟩ (.int .u8 x.z2)).setCell ⟨g, o + 3, none⟩ (.int .u8 x.z3)).setCell ⟨g, o + 4, none⟩ (.int .u8 x.z4)).setCell ⟨g, o + 5, none⟩ (.int .u8 x.z5)).setCell ⟨g, o + 6, none⟩ (.int .u8 x.z6)).setCell ⟨g, o + 7, none⟩ (.int .u8 x.z7)

theorem set8_below {B g : Nat} {w w' : World} (h : Below B w w') (hg : B ≤ g) (o : Nat) (x : B8) : Below B w (set8 w' g o x) :=
  (((((((h.setCell (p := ⟨g, o, none⟩) hg _).setCell (p := ⟨g, o + 1, none⟩) hg _).setCell (p := ⟨g, o + 2, none⟩) hg _).setCell (p := ⟨g, o + 3, none⟩) hg _).setCell (p := ⟨g, o + 4, none⟩) hg _).setCell (p := ⟨g, o + 5, none⟩) hg _).setCell (p := ⟨g, o + 6, none⟩) hg _).setCell (p := ⟨g, o + 7, none⟩) hg _

theorem set8_other {w : World} {g o k : Nat} (hk : k ≠ g) (x : B8) : (set8 w g o x).heap[k]? = w.heap[k]? := by
  unfold set8
  rw [Below.heap_setCell _ _ _ _ hk, Below.heap_setCell _ _ _ _ hk, Below.heap_setCell _ _ _ _ hk, Below.heap_setCell _ _ _ _ hk, Below.heap_setCell _ _ _ _ hk, Below.heap_setCell _ _ _ _ hk, Below.heap_setCell _ _ _ _ hk, Below.heap_setCell _ _ _ _ hk]

theorem Bx.set8 {w : World} {g k : Nat} {cs : Array Value} {t : TypeId} (h : Bx w k cs t) (hk : k ≠ g) (o : Nat) (x : B8) : Bx (set8 w g o x) k cs t := (set8_other hk x).trans h

end Go.Proofs.Ytfgonmgmoeoedaa

/-
  Packets: as they lie in memory; one more; alike or not.
-/
namespace Go.Proofs.Ytfgonmgmoeoedaa
open Go.RowKit

end Go.Proofs.Ytfgonmgmoeoedaa

/-
  Where a block is in a list (First, slices.Index, slices.Contains); whether a list may be what was had (HadMay, cache.Check).
-/
namespace Go.Proofs.Ytfgonmgmoeoedaa
open Go.RowKit

instance : DecidableEq B8 := fun x y => decidable_of_iff _ (B8.eq_list x y)

namespace Mx
/-- the first place of a block, or -1 -/
def firstI (l : List B8) (b : B8) : Int := if b ∈ l then (l.idxOf b : Int) else -1
/-- what may have been had -/
def hmay (l : List B8) : Int := if 8 < l.length then 2 else if l.Nodup then 0 else 3

theorem firstI_at {l : List B8} {b : B8} {k : Nat} (h : l[k]? = some b) (hn : ∀ j : Nat, j < k → l[j]? ≠ some b) : firstI l b = k := by
  have hm : b ∈ l := List.mem_of_getElem? h
  rw [firstI, if_pos hm]
  congr 1
  have hk : k < l.length := (List.getElem?_eq_some_iff.1 h).1
  have h1 : l.idxOf b < l.length := List.idxOf_lt_length_of_mem hm
  have h2 : l[l.idxOf b]? = some b := by rw [List.getElem?_eq_getElem h1, List.getElem_idxOf h1]
  have h3 : ¬ l.idxOf b < k := fun h => hn _ h h2
  have h4 : ¬ k < l.idxOf b := fun h5 => by
    have h6 := List.not_of_lt_findIdx h5
    have h7 := (List.getElem?_eq_some_iff.1 h).2
    simp [h7] at h6
  omega
theorem firstI_none {l : List B8} {b : B8} (hn : ∀ j : Nat, j < l.length → l[j]? ≠ some b) : firstI l b = -1 := by
  rw [firstI, if_neg]
  intro hm
  obtain ⟨i, hi, e⟩ := List.getElem_of_mem hm
  exact hn i hi (by rw [List.getElem?_eq_getElem hi, e])
theorem firstI_nonneg (l : List B8) (b : B8) : decide (0 ≤ firstI l b) = decide (b ∈ l) := by
  by_cases h : b ∈ l
  · rw [firstI, if_pos h]
    simp [h]
  · rw [firstI, if_neg h]
    simp [h]
theorem firstI_lt {l : List B8} {b : B8} {k : Nat} (h : l[k]? = some b) : (firstI l b < k) ↔ b ∈ l.take k := by
  have hm : b ∈ l := List.mem_of_getElem? h
  have hk : k < l.length := (List.getElem?_eq_some_iff.1 h).1
  have h1 : l.idxOf b < l.length := List.idxOf_lt_length_of_mem hm
  rw [firstI, if_pos hm]
  constructor
  · intro h2
    have h2' : l.idxOf b < k := by omega
    refine List.mem_of_getElem? (i := l.idxOf b) ?_
    rw [List.getElem?_take_of_lt h2', List.getElem?_eq_getElem h1, List.getElem_idxOf h1]
  · intro h2
    obtain ⟨j, hj, e⟩ := List.getElem_of_mem h2
    rw [List.length_take] at hj
    rw [List.getElem_take] at e
    have h4 : ¬ j < l.idxOf b := fun h5 => by
      have h6 := List.not_of_lt_findIdx h5
      simp [e] at h6
    omega
theorem nodup_snoc {l : List B8} {k : Nat} {b : B8} (h : l[k]? = some b) (hn : (l.take k).Nodup) (hb : b ∉ l.take k) : (l.take (k + 1)).Nodup := by
  rw [getElem_take_succ _ _ _ h, List.nodup_append]
  refine ⟨hn, by simp, fun x hx y hy => ?_⟩
  rintro rfl
  simp at hy
  subst hy
  exact hb hx
theorem nodup_not {l : List B8} {k : Nat} {b : B8} (h : l[k]? = some b) (hb : b ∈ l.take k) : ¬ l.Nodup := by
  intro hn
  have h1 : (l.take (k + 1)).Nodup := hn.sublist (List.take_sublist _ _)
  rw [getElem_take_succ _ _ _ h, List.nodup_append] at h1
  exact h1.2.2 b hb b (by simp) rfl
theorem hmay_long {l : List B8} (h : 8 < l.length) : hmay l = 2 := by rw [hmay, if_pos h]
theorem hmay_twice {l : List B8} {k : Nat} {b : B8} (hl : ¬ 8 < l.length) (h : l[k]? = some b) (hb : b ∈ l.take k) : hmay l = 3 := by rw [hmay, if_neg hl, if_neg (nodup_not h hb)]
theorem hmay_good {l : List B8} {k : Nat} (hl : ¬ 8 < l.length) (hk : l.length ≤ k) (h : (l.take k).Nodup) : hmay l = 0 := by
  rw [List.take_of_length_le hk] at h
  rw [hmay, if_neg hl, if_pos h]
end Mx

theorem Bx.drewN {w : World} {g : Nat} {cs : Array Value} {t : TypeId} (h : Bx w g cs t) (n : Nat) : Bx (w.drewN n) g cs t := h
theorem BL.take {w : World} {a : Option Addr} {n : Nat} {l : List B8} (h : BL w a n l) (k : Nat) (hk : k ≤ n) : BL w a k (l.take k) := by
  have hl : (l.take k).length = k := by rw [List.length_take, h.1]; omega
  refine ⟨hl, by rw [flatB_len, hl], by have := h.2.2.1; omega, fun hp => ?_⟩
  obtain ⟨b, off, ha, hb, hc⟩ := h.2.2.2 (by omega)
  refine ⟨b, off, ha, hb, fun j u hj => hc j u ?_⟩
  have e : flatB l = flatB (l.take k) ++ flatB (l.drop k) := by unfold flatB; rw [← List.flatMap_append, List.take_append_drop]
  rw [e, List.getElem?_append_left (List.getElem?_eq_some_iff.1 hj).1]
  exact hj

end Go.Proofs.Ytfgonmgmoeoedaa

/-
  Whether a list may be what was had, as the program says it (cache.Check).
-/
namespace Go.Proofs.Ytfgonmgmoeoedaa
open Go.RowKit

end Go.Proofs.Ytfgonmgmoeoedaa

/-
  Puts whose places rise: the document's answer (Rising), and the program's (checkPuts, step); what a peer may be (PlanMay, checkPeer); where a block is (Find).
-/
namespace Go.Proofs.Ytfgonmgmoeoedaa
open Go.RowKit

namespace Mx
def dP : Pt := ⟨0, zB⟩
/-- the least place that the k-th put may have -/
def nextOf (ps : List Pt) : Nat → Int
  | 0 => 0
  | k + 1 => (ps.getD k dP).at_ + 1
def goodAt (n : Int) (ps : List Pt) (k : Nat) : Bool := decide (nextOf ps k ≤ (ps.getD k dP).at_) && decide ((ps.getD k dP).at_ < n)
/-- the places rise, and are of n -/
def riseB (n : Int) (ps : List Pt) : Bool := (List.range ps.length).all (goodAt n ps)
theorem riseB_not {n : Int} {ps : List Pt} {k : Nat} (hk : k < ps.length) (h : goodAt n ps k = false) : riseB n ps = false := by
  unfold riseB
  rw [List.all_eq_false]
  exact ⟨k, List.mem_range.2 hk, by rw [h]; simp⟩
theorem riseB_all {n : Int} {ps : List Pt} (h : ∀ k, k < ps.length → goodAt n ps k = true) : riseB n ps = true := by
  unfold riseB
  rw [List.all_eq_true]
  exact fun k hk => h k (List.mem_range.1 hk)
theorem riseB_at {n : Int} {ps : List Pt} (h : riseB n ps = true) {k : Nat} {p : Pt} (hp : ps[k]? = some p) : nextOf ps k ≤ p.at_ ∧ p.at_ < n := by
  unfold riseB at h
  rw [List.all_eq_true] at h
  have h1 := h k (List.mem_range.2 (List.getElem?_eq_some_iff.1 hp).1)
  unfold goodAt at h1
  rw [List.getD_eq_getElem?_getD, hp] at h1
  simpa using h1
/-- so far they rise -/
def riseTo (n : Int) (ps : List Pt) (k : Nat) : Prop := ∀ j, j < k → goodAt n ps j = true
theorem riseTo_next {n : Int} {ps : List Pt} {k : Nat} (h : riseTo n ps k) : 0 ≤ nextOf ps k := by
  induction k with
  | zero => exact Int.le_refl _
  | succ k ih =>
    have h1 := h k (by omega)
    have h2 := ih (fun j hj => h j (by omega))
    unfold goodAt at h1
    simp only [Bool.and_eq_true, decide_eq_true_eq] at h1
    show 0 ≤ (ps.getD k dP).at_ + 1
    omega
theorem riseTo_succ {n : Int} {ps : List Pt} {k : Nat} (h : riseTo n ps k) (hg : goodAt n ps k = true) : riseTo n ps (k + 1) := by
  intro j hj
  rcases Nat.lt_succ_iff_lt_or_eq.1 hj with h1 | h1
  · exact h j h1
  · subst h1
    exact hg
theorem riseB_zero {n : Int} {ps : List Pt} (h : riseB n ps = true) {k : Nat} : riseTo n ps k ∨ ps.length ≤ k := by
  by_cases hk : k ≤ ps.length
  · left
    intro j hj
    unfold riseB at h
    rw [List.all_eq_true] at h
    exact h j (List.mem_range.2 (by omega))
  · right
    omega
end Mx

end Go.Proofs.Ytfgonmgmoeoedaa

/-
  Epochs: mathematics: the last put of each place; epochs and builders, and what F1 to F3 say of them.
-/
namespace Go.Proofs.Ytfgonmgmoeoedaa
open Go.RowKit

/-- an epoch; a builder -/
structure Ep where
  num : Int
  puts : List Pt
structure Bu where
  num : Int
  op : List Pt
  se : List Ep
  be : Bool

namespace Mx
/-- places rise from k on, and are below 32 -/
def Rk : Int → List Pt → Prop
  | _, [] => True
  | k, p :: l => k ≤ p.at_ ∧ p.at_ < 32 ∧ Rk (p.at_ + 1) l
/-- what is at a place -/
def lk : List Pt → Nat → Option B8
  | [], _ => none
  | p :: l, i => if p.at_ = (i : Int) then some p.d else lk l i
/-- a put put in -/
def putR : List Pt → Pt → List Pt
  | [], p => [p]
  | q :: l, p => if q.at_ < p.at_ then q :: putR l p else if q.at_ = p.at_ then p :: l else p :: q :: l
/-- the last puts as an array; what they are -/
def takeF (fs : List (Option B8)) (ps : List Pt) : List (Option B8) := ps.foldl (fun fs p => fs.set p.at_.toNat (some p.d)) fs
def putsFrom : Nat → List (Option B8) → List Pt
  | _, [] => []
  | k, none :: fs => putsFrom (k + 1) fs
  | k, some d :: fs => ⟨(k : Int), d⟩ :: putsFrom (k + 1) fs
def toL (k m : Nat) (ps : List Pt) : List (Option B8) := (List.range' k m).map (lk ps)

theorem putsFrom_append (k : Nat) (l m : List (Option B8)) : putsFrom k (l ++ m) = putsFrom k l ++ putsFrom (k + l.length) m := by
  induction l generalizing k with
  | nil => simp [putsFrom]
  | cons o l ih =>
    cases o with
    | none =>
      rw [List.cons_append, putsFrom, putsFrom, ih, List.length_cons, show k + 1 + l.length = k + (l.length + 1) by omega]
    | some d =>
      rw [List.cons_append, putsFrom, putsFrom, ih, List.length_cons, show k + 1 + l.length = k + (l.length + 1) by omega, List.cons_append]
theorem rk_lower {k j : Int} {l : List Pt} (h : Rk k l) (hj : j ≤ k) : Rk j l := by
  cases l with
  | nil => trivial
  | cons p l => exact ⟨by have := h.1; omega, h.2.1, h.2.2⟩
theorem rk_mem {k : Int} {l : List Pt} (h : Rk k l) : ∀ q ∈ l, k ≤ q.at_ ∧ q.at_ < 32 := by
  induction l generalizing k with
  | nil => intro q hq; cases hq
  | cons p l ih =>
    intro q hq
    rcases List.mem_cons.1 hq with rfl | hq
    · exact ⟨h.1, h.2.1⟩
    · have h1 := ih h.2.2 q hq
      have h2 := h.1
      exact ⟨by omega, h1.2⟩
theorem lk_none {k : Int} {l : List Pt} (h : Rk k l) {i : Nat} (hi : (i : Int) < k) : lk l i = none := by
  induction l generalizing k with
  | nil => rfl
  | cons p l ih =>
    have h1 := h.1
    rw [lk, if_neg (by omega)]
    exact ih h.2.2 (by omega)
theorem putsFrom_toL (m k : Nat) (l : List Pt) (h : Rk (k : Int) l) (hm : ∀ q ∈ l, q.at_ < (k : Int) + m) : putsFrom k (toL k m l) = l := by
  induction m generalizing k l with
  | zero =>
    cases l with
    | nil => rfl
    | cons p l =>
      have h1 := h.1
      have h2 := hm p (List.mem_cons_self ..)
      exfalso
      omega
  | succ m ih =>
    unfold toL
    rw [List.range'_succ, List.map_cons]
    cases l with
    | nil =>
      rw [show lk [] k = none from rfl, putsFrom]
      exact ih (k + 1) [] trivial (fun q hq => by cases hq)
    | cons p l =>
      by_cases he : p.at_ = (k : Int)
      · rw [show lk (p :: l) k = some p.d by rw [lk, if_pos he], putsFrom]
        have hc : (List.range' (k + 1) m).map (lk (p :: l)) = toL (k + 1) m l := by
          unfold toL
          refine List.map_congr_left fun i hi => ?_
          have := List.mem_range'_1.1 hi
          rw [lk, if_neg (by omega)]
        rw [hc, ih (k + 1) l (by have := h.2.2; rw [he] at this; exact_mod_cast this) (fun q hq => by have := hm q (List.mem_cons_of_mem _ hq); push_cast at this ⊢; omega)]
        rw [← he]
      · rw [show lk (p :: l) k = none by rw [lk, if_neg he]; exact lk_none h.2.2 (by have := h.1; omega), putsFrom]
        exact ih (k + 1) (p :: l) ⟨by have := h.1; push_cast; omega, h.2.1, h.2.2⟩ (fun q hq => by have := hm q hq; push_cast at this ⊢; omega)
theorem lk_putR (l : List Pt) (p : Pt) (i : Nat) : lk (putR l p) i = if p.at_ = (i : Int) then some p.d else lk l i := by
  induction l with
  | nil => rfl
  | cons q l ih =>
    rw [putR]
    split
    · rw [lk, lk, ih]
      split
      · rw [if_neg (by omega)]
      · rfl
    · split
      · rw [lk, lk]
        split
        · rfl
        · rw [if_neg (by omega)]
      · rw [lk]
theorem rk_putR {k : Int} {l : List Pt} {p : Pt} (h : Rk k l) (h1 : k ≤ p.at_) (h2 : p.at_ < 32) : Rk k (putR l p) := by
  induction l generalizing k with
  | nil => exact ⟨h1, h2, trivial⟩
  | cons q l ih =>
    have h3 := h.1
    rw [putR]
    split
    · exact ⟨h.1, h.2.1, ih h.2.2 (by omega)⟩
    · split
      · next he => exact ⟨h1, h2, by have := h.2.2; rw [he] at this; exact this⟩
      · exact ⟨h1, h2, by omega, h.2.1, h.2.2⟩
theorem toL_putR {l : List Pt} {p : Pt} (h1 : 0 ≤ p.at_) (_h2 : p.at_ < 32) : (toL 0 32 l).set p.at_.toNat (some p.d) = toL 0 32 (putR l p) := by
  apply List.ext_getElem?
  intro i
  unfold toL
  rw [List.getElem?_set]
  simp only [List.getElem?_map, List.length_map, List.length_range']
  by_cases hi : i < 32
  · rw [List.getElem?_range' hi]
    by_cases he : p.at_.toNat = i
    · rw [if_pos he, if_pos (by omega), Option.map_some, lk_putR, if_pos (by omega)]
    · rw [if_neg he, Option.map_some, Option.map_some, lk_putR, if_neg (by omega)]
  · have hn : (List.range' 0 32)[i]? = none := List.getElem?_eq_none (by simp; omega)
    rw [hn]
    split
    · rw [if_neg (by omega)]
      rfl
    · rfl
theorem takeF_toL (ps l : List Pt) (h : ∀ q ∈ ps, 0 ≤ q.at_ ∧ q.at_ < 32) : takeF (toL 0 32 l) ps = toL 0 32 (ps.foldl putR l) := by
  induction ps generalizing l with
  | nil => rfl
  | cons p ps ih =>
    have hp := h p (List.mem_cons_self ..)
    have h1 := ih (putR l p) (fun q hq => h q (List.mem_cons_of_mem _ hq))
    unfold takeF at h1 ⊢
    rw [List.foldl_cons, toL_putR hp.1 hp.2, h1, List.foldl_cons]
theorem rk_foldl {ps l : List Pt} (hl : Rk 0 l) (h : ∀ q ∈ ps, 0 ≤ q.at_ ∧ q.at_ < 32) : Rk 0 (ps.foldl putR l) := by
  induction ps generalizing l with
  | nil => exact hl
  | cons p ps ih =>
    have hp := h p (List.mem_cons_self ..)
    exact ih (rk_putR hl hp.1 hp.2) (fun q hq => h q (List.mem_cons_of_mem _ hq))
theorem putR_end {l : List Pt} {p : Pt} (h : ∀ q ∈ l, q.at_ < p.at_) : putR l p = l ++ [p] := by
  induction l with
  | nil => rfl
  | cons q l ih => rw [putR, if_pos (h q (List.mem_cons_self ..)), ih (fun x hx => h x (List.mem_cons_of_mem _ hx)), List.cons_append]
theorem foldl_rise {k : Int} {ps l : List Pt} (h : Rk k ps) (hl : ∀ q ∈ l, q.at_ < k) : ps.foldl putR l = l ++ ps := by
  induction ps generalizing k l with
  | nil => simp
  | cons p ps ih =>
    have h1 := h.1
    rw [List.foldl_cons, putR_end (fun q hq => by have := hl q hq; omega), ih h.2.2 (fun q hq => by
      rcases List.mem_append.1 hq with h2 | h2
      · have := hl q h2
        omega
      · simp at h2
        subst h2
        omega), List.append_assoc]
    rfl
def noneL : List (Option B8) := List.replicate 32 none
theorem noneL_toL : noneL = toL 0 32 [] := by
  rfl
/-- what the array says when puts were taken, one behind the other -/
theorem puts_take {ps : List Pt} (h : ∀ q ∈ ps, 0 ≤ q.at_ ∧ q.at_ < 32) : putsFrom 0 (takeF noneL ps) = ps.foldl putR [] := by
  rw [noneL_toL, takeF_toL ps [] h]
  have hr := rk_foldl (l := []) trivial h
  exact putsFrom_toL 32 0 _ hr (fun q hq => by have := (rk_mem hr q hq).2; omega)
theorem takeF_append (fs : List (Option B8)) (p q : List Pt) : takeF fs (p ++ q) = takeF (takeF fs p) q := by unfold takeF; rw [List.foldl_append]
theorem puts_add {ps : List Pt} {p : Pt} (h : Rk 0 ps) (h1 : 0 ≤ p.at_) (h2 : p.at_ < 32) : putsFrom 0 (takeF (takeF noneL ps) [p]) = putR ps p := by
  rw [← takeF_append, puts_take (fun q hq => by
    rcases List.mem_append.1 hq with h3 | h3
    · exact rk_mem h q h3
    · simp at h3
      subst h3
      exact ⟨h1, h2⟩), List.foldl_append, foldl_rise h (fun q hq => by cases hq)]
  rfl

/-- the document's way to put it in -/
def stepF (p : Pt) (s : List Pt × Bool) (q : Pt) : List Pt × Bool :=
  let s1 := if !s.2 && decide (p.at_ ≤ q.at_) then (s.1 ++ [p], true) else s
  (if q.at_ = p.at_ then s1.1 else s1.1 ++ [q], s1.2)
def finF (p : Pt) (s : List Pt × Bool) : List Pt := if s.2 then s.1 else s.1 ++ [p]
def putF (l : List Pt) (p : Pt) : List Pt := finF p (l.foldl (stepF p) ([], false))
theorem fold_done (p : Pt) (l out : List Pt) (h : ∀ q ∈ l, q.at_ ≠ p.at_) : l.foldl (stepF p) (out, true) = (out ++ l, true) := by
  induction l generalizing out with
  | nil => simp
  | cons q l ih =>
    rw [List.foldl_cons, show stepF p (out, true) q = (out ++ [q], true) by unfold stepF; simp [h q (List.mem_cons_self ..)], ih _ (fun x hx => h x (List.mem_cons_of_mem _ hx)), List.append_assoc]
    rfl
theorem fold_fin {k : Int} (p : Pt) (l out : List Pt) (h : Rk k l) : finF p (l.foldl (stepF p) (out, false)) = out ++ putR l p := by
  induction l generalizing k out with
  | nil => simp [finF, putR]
  | cons q l ih =>
    rw [List.foldl_cons, putR]
    by_cases h1 : q.at_ < p.at_
    · rw [if_pos h1, show stepF p (out, false) q = (out ++ [q], false) by unfold stepF; rw [show decide (p.at_ ≤ q.at_) = false by simp; omega]; simp; omega, ih (out ++ [q]) h.2.2, List.append_assoc]
      rfl
    · rw [if_neg h1]
      have hd : decide (p.at_ ≤ q.at_) = true := by simp; omega
      by_cases h2 : q.at_ = p.at_
      · rw [if_pos h2, show stepF p (out, false) q = (out ++ [p], true) by unfold stepF; rw [hd]; simp [h2], fold_done p l _ (fun x hx => by have := (rk_mem h.2.2 x hx).1; omega)]
        simp [finF]
      · rw [if_neg h2, show stepF p (out, false) q = (out ++ [p] ++ [q], true) by unfold stepF; rw [hd]; simp [h2], fold_done p l _ (fun x hx => by have := (rk_mem h.2.2 x hx).1; omega)]
        simp [finF]
theorem putF_eq {k : Int} {l : List Pt} (p : Pt) (h : Rk k l) : putF l p = putR l p := by
  unfold putF
  rw [fold_fin p l [] h]
  rfl

/-- from the places that rise -/
theorem rk_of {n : Int} {ps : List Pt} (h : riseB n ps = true) (hn : n ≤ 32) : Rk 0 ps := by
  have key : ∀ m j, ps.length - j = m → Rk (nextOf ps j) (ps.drop j) := by
    intro m
    induction m with
    | zero =>
      intro j hj
      rw [List.drop_of_length_le (by omega)]
      trivial
    | succ m ih =>
      intro j hj
      have hlt : j < ps.length := by omega
      rw [List.drop_eq_getElem_cons hlt]
      have h1 := riseB_at h (List.getElem?_eq_getElem hlt)
      refine ⟨h1.1, by omega, ?_⟩
      have h2 := ih (j + 1) (by omega)
      rw [nextOf, List.getD_eq_getElem?_getD, List.getElem?_eq_getElem hlt] at h2
      exact h2
  exact key ps.length 0 (by omega)

/-- F1 -/
def goodE (n num : Int) (len i : Nat) (e : Ep) : Bool := riseB n e.puts && decide (e.num = num - len + 1 + i)
def dE : Ep := ⟨0, []⟩
def folB (es : List Ep) (num n : Int) : Bool := decide ((es.length : Int) ≤ num) && (List.range es.length).all (fun i => goodE n num es.length i (es.getD i dE))
def folTo (es : List Ep) (num n : Int) (k : Nat) : Prop := ∀ i, i < k → goodE n num es.length i (es.getD i dE) = true
def goodB (b : Bu) (n : Int) : Bool := !(b.be && decide (0 < b.se.length)) && riseB n b.op && folB b.se b.num n
def bmay (b : Bu) (n : Int) : Int :=
  if n < 1 ∨ 32 < n ∨ b.num < 0 ∨ 2147483647 < b.num then 1 else if 4 < b.se.length then 2 else if goodB b n then 0 else 3
theorem folB_not {es : List Ep} {num n : Int} {i : Nat} (hi : i < es.length) (h : goodE n num es.length i (es.getD i dE) = false) : folB es num n = false := by
  unfold folB
  rw [Bool.and_eq_false_iff]
  right
  rw [List.all_eq_false]
  exact ⟨i, List.mem_range.2 hi, by rw [h]; simp⟩
theorem folB_neg {es : List Ep} {num n : Int} (h : num < es.length) : folB es num n = false := by
  unfold folB
  rw [Bool.and_eq_false_iff]
  left
  simp
  omega
theorem folB_all {es : List Ep} {num n : Int} (h0 : (es.length : Int) ≤ num) (h : folTo es num n es.length) : folB es num n = true := by
  unfold folB
  rw [Bool.and_eq_true]
  refine ⟨by simpa using h0, ?_⟩
  rw [List.all_eq_true]
  exact fun i hi => h i (List.mem_range.1 hi)
theorem folTo_succ {es : List Ep} {num n : Int} {k : Nat} (h : folTo es num n k) (hg : goodE n num es.length k (es.getD k dE) = true) : folTo es num n (k + 1) := by
  intro j hj
  rcases Nat.lt_succ_iff_lt_or_eq.1 hj with h1 | h1
  · exact h j h1
  · subst h1
    exact hg
theorem folB_at {es : List Ep} {num n : Int} (h : folB es num n = true) {i : Nat} {e : Ep} (he : es[i]? = some e) : riseB n e.puts = true ∧ e.num = num - es.length + 1 + i := by
  unfold folB at h
  rw [Bool.and_eq_true, List.all_eq_true] at h
  have h1 := h.2 i (List.mem_range.2 (List.getElem?_eq_some_iff.1 he).1)
  unfold goodE at h1
  rw [List.getD_eq_getElem?_getD, he] at h1
  simpa using h1
theorem folB_len {es : List Ep} {num n : Int} (h : folB es num n = true) : (es.length : Int) ≤ num := by
  unfold folB at h
  rw [Bool.and_eq_true] at h
  simpa using h.1

/-- F2, F3 -/
def many (b : Bu) (k : Int) : Nat := min (b.num - k).toNat b.se.length
def keptE (b : Bu) (k : Int) : List Ep := b.se.drop (b.se.length - many b k)
def addB (b : Bu) (p : Pt) : Bu := ⟨b.num, putR b.op p, b.se, b.be⟩
def fullB (b : Bu) : Bool := b.be || decide (b.se.length = 4)
def sealE (b : Bu) : Bu := ⟨b.num + 1, [], if fullB b then [] else b.se ++ [⟨b.num + 1, b.op⟩], fullB b⟩
def dropB (b : Bu) (k : Int) : Bu := ⟨b.num, b.op, keptE b k, b.be && decide (k ≠ b.num)⟩
def putsOf (es : List Ep) : List Pt := (es.flatMap (·.puts)).foldl putR []
def zBu : Bu := ⟨0, [], [], false⟩

theorem keptE_filter {b : Bu} {n k : Int} (h : folB b.se b.num n = true) (hk : k ≤ b.num) : b.se.filter (fun e => decide (k < e.num)) = keptE b k := by
  have hlen := folB_len h
  have key : ∀ m i, b.se.length - i = m → (b.se.drop i).filter (fun e => decide (k < e.num)) = b.se.drop (max i (b.se.length - many b k)) := by
    intro m
    induction m with
    | zero =>
      intro i hi
      rw [List.drop_of_length_le (by omega), List.drop_of_length_le (by omega)]
      rfl
    | succ m ih =>
      intro i hi
      have hlt : i < b.se.length := by omega
      have h1 := (folB_at h (List.getElem?_eq_getElem hlt)).2
      have h2 := ih (i + 1) (by omega)
      rw [List.drop_eq_getElem_cons hlt, List.filter_cons]
      by_cases hc : k < (b.se[i]).num
      · rw [if_pos (by simpa using hc), h2]
        have hm : b.se.length - many b k ≤ i := by unfold many; omega
        rw [show max (i + 1) (b.se.length - many b k) = i + 1 by omega, show max i (b.se.length - many b k) = i by omega, List.drop_eq_getElem_cons hlt]
      · rw [if_neg (by simpa using hc), h2]
        have hm : i < b.se.length - many b k := by unfold many; omega
        rw [show max (i + 1) (b.se.length - many b k) = b.se.length - many b k by omega, show max i (b.se.length - many b k) = b.se.length - many b k by omega]
  have := key b.se.length 0 (by omega)
  rw [List.drop_zero] at this
  rw [this]
  unfold keptE
  rw [Nat.zero_max]
end Mx
end Go.Proofs.Ytfgonmgmoeoedaa

/-
  A great function in parts: its tail from a statement on, as a proposition of its own, whatever the function and what is said of it.
-/
namespace Go.Proofs.Ytfgonmgmoeoedaa
open Go.RowKit

def sndG : Code → Code
  | .seq _ b => b
  | c => c

def itsG : Nat → Code → Code
  | 0, c => c
  | k + 1, c => sndG (itsG k c)

def TailG (f : Func) (P : Ending → World → Prop) (k : Nat) (a : Act) (x : World) : Prop :=
  Code.wp Try.prog (itsG k (f.body.getD .skip)) (bodyPost Try.prog f P) a x

theorem tailG_step {f : Func} {P : Ending → World → Prop} {k : Nat} {x : World} {a : Act} {s : Code} (h : itsG k (f.body.getD .skip) = .seq s (itsG (k + 1) (f.body.getD .skip)))
    (hs : ∀ K : Act → World → Prop, (∀ a' x', Met (TailG f P (k + 1)) a' x' → K a' x') → Code.wp Try.prog s (Exit.then K (bodyPost Try.prog f P)) a x) : TailG f P k a x := by
  unfold TailG
  rw [h]
  refine wp_seq_k (fun K hK => hs K (fun a' x' hm => hK a' x' hm))

theorem tailG_last {f : Func} {P : Ending → World → Prop} {k : Nat} {x : World} {a : Act} {c : Code} (h : itsG k (f.body.getD .skip) = c)
    (hs : Code.wp Try.prog c (bodyPost Try.prog f P) a x) : TailG f P k a x := by
  unfold TailG
  rw [h]
  exact hs

end Go.Proofs.Ytfgonmgmoeoedaa
