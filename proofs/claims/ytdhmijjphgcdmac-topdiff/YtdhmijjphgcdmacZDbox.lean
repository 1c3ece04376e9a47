/-
  Boxes of memory, copies as a region's calls hand them on, a disk that is being made.
-/
import Derived.Deep.RegionHeld
import Derived.Deep.CutRange
import Derived.Deep.DeepCutAuto
import Derived.Deep.Onto
import Derived.Test.YtdhmijjphgcdmacZSums
import Derived.Test.YtdhmijjphgcdmacZIter
import Derived.Test.YtdhmijjphgcdmacZDclone

namespace Go.Proofs.Ytdhmijjphgcdmac
open Go.RowKit

/-- a block of memory, whole -/
def Bx (w : World) (g : Nat) (cs : Array Value) (t : TypeId) : Prop := w.heap[g]? = some (.cells cs t (0, 0))
theorem Bx.new (w : World) (cs : Array Value) (t : TypeId) : Bx (w.alloc (.cells cs t)) w.heap.size cs t := heap_alloc_new w _
theorem Bx.newD (w : World) (cs : Array Value) (t : TypeId) : Bx (w.alloc (.cells cs t)).drew w.heap.size cs t := heap_alloc_new w _
theorem Bx.lt {w : World} {g : Nat} {cs : Array Value} {t : TypeId} (h : Bx w g cs t) : g < w.heap.size := (Array.getElem?_eq_some_iff.1 h).1
theorem Bx.alloc {w : World} {g : Nat} {cs : Array Value} {t : TypeId} (h : Bx w g cs t) (o : Obj) : Bx (w.alloc o) g cs t := (Below.heap_alloc w o g h.lt).trans h
theorem Bx.later {w w' : World} {g B : Nat} {cs : Array Value} {t : TypeId} (h : Bx w g cs t) (hb : Below B w w') (hg : g < B) : Bx w' g cs t := (hb.block g hg).trans h
theorem Bx.cell {w : World} {g : Nat} {cs : Array Value} {t : TypeId} (h : Bx w g cs t) (j : Nat) : w.cell? ⟨g, j, none⟩ = cs[j]? := cell_of_cells h j
theorem Bx.frozen {w : World} {g : Nat} {cs : Array Value} {t : TypeId} (h : Bx w g cs t) (o : Nat) : w.frozen? ⟨g, o, none⟩ = false := by unfold World.frozen?; rw [h]; simp
theorem Bx.set {w : World} {g : Nat} {cs : Array Value} {t : TypeId} (h : Bx w g cs t) (j : Nat) (v : Value) : Bx (w.setCell ⟨g, j, none⟩ v) g (cs.setIfInBounds j v) t := by
  unfold Bx at *
  simp [World.setCell, Array.getElem?_modify, h]
theorem Bx.other {w : World} {g : Nat} {cs : Array Value} {t : TypeId} (h : Bx w g cs t) (p : Addr) (v : Value) (hp : g ≠ p.block) : Bx (w.setCell p v) g cs t := (Below.heap_setCell w p v g hp).trans h
theorem Bx.three {w : World} {g : Nat} {s0 s1 s2 : Value} {t : TypeId} (h : Bx w g #[s0, s1, s2] t) : w.cell? ⟨g, 0, none⟩ = some s0 ∧ w.cell? ⟨g, 1, none⟩ = some s1 ∧ w.cell? ⟨g, 2, none⟩ = some s2 := ⟨h.cell 0, h.cell 1, h.cell 2⟩
theorem Bx.eight {w : World} {g : Nat} {x : B8} {t : TypeId} (h : Bx w g #[.int .u8 x.z0, .int .u8 x.z1, .int .u8 x.z2, .int .u8 x.z3, .int .u8 x.z4, .int .u8 x.z5, .int .u8 x.z6, .int .u8 x.z7] t) :
    w.cell? ⟨g, 0, none⟩ = some (.int .u8 x.z0) ∧ w.cell? ⟨g, 1, none⟩ = some (.int .u8 x.z1) ∧ w.cell? ⟨g, 2, none⟩ = some (.int .u8 x.z2) ∧ w.cell? ⟨g, 3, none⟩ = some (.int .u8 x.z3) ∧
    w.cell? ⟨g, 4, none⟩ = some (.int .u8 x.z4) ∧ w.cell? ⟨g, 5, none⟩ = some (.int .u8 x.z5) ∧ w.cell? ⟨g, 6, none⟩ = some (.int .u8 x.z6) ∧ w.cell? ⟨g, 7, none⟩ = some (.int .u8 x.z7) :=
  ⟨h.cell 0, h.cell 1, h.cell 2, h.cell 3, h.cell 4, h.cell 5, h.cell 6, h.cell 7⟩

/-- what lies below is as it was: as rules for the walk -/
theorem Below.keeps {W w' : World} (h : Below W.heap.size W w') : (∀ k j, k < W.heap.size → w'.cell? ⟨k, j, none⟩ = W.cell? ⟨k, j, none⟩) ∧ (∀ k j, k < W.heap.size → w'.frozen? ⟨k, j, none⟩ = W.frozen? ⟨k, j, none⟩) ∧ ∀ k, k < W.heap.size → k < w'.heap.size :=
  ⟨fun k j hk => h.cell (p := ⟨k, j, none⟩) hk, fun k j hk => by unfold World.frozen?; rw [show w'.heap[k]? = W.heap[k]? from h.block k hk], fun k hk => Nat.lt_of_lt_of_le hk h.size⟩

/-- what a call hands on to the rest of a region: all that was there is as it was; the disk's box, and the box that is being made -/
def Past (w1 w w' : World) : Prop := Below w1.heap.size w1 w' ∧ Below w.heap.size w w'
def DC (w : World) (g : Nat) (s0 s1 s2 : Value) : Prop := w.cell? ⟨g, 0, none⟩ = some s0 ∧ w.cell? ⟨g, 1, none⟩ = some s1 ∧ w.cell? ⟨g, 2, none⟩ = some s2 ∧ g < w.heap.size ∧ ∀ o, w.frozen? ⟨g, o, none⟩ = false
theorem Bx.dc {w : World} {g : Nat} {s0 s1 s2 : Value} {t : TypeId} (h : Bx w g #[s0, s1, s2] t) : DC w g s0 s1 s2 := ⟨h.cell 0, h.cell 1, h.cell 2, h.lt, h.frozen⟩

/-- the disk's box lies, and all that was there -/
abbrev Held (w1 : World) (g : Nat) (s0 s1 s2 : Value) (w' : World) : Prop := w'.cell? ⟨g, 0, none⟩ = some s0 ∧ w'.cell? ⟨g, 1, none⟩ = some s1 ∧ w'.cell? ⟨g, 2, none⟩ = some s2 ∧ Below w1.heap.size w1 w'
theorem Held.of {w1 w' : World} {g : Nat} {s0 s1 s2 : Value} {t : TypeId} (hd : Bx w1 g #[s0, s1, s2] t) (h : Below w1.heap.size w1 w') : Held w1 g s0 s1 s2 w' := by
  obtain ⟨h0, h1, h2⟩ := (hd.later h hd.lt).three
  exact ⟨h0, h1, h2, h⟩
theorem Held.alloc {w1 w' : World} {g : Nat} {s0 s1 s2 : Value} {t : TypeId} (hd : Bx w1 g #[s0, s1, s2] t) (h : Held w1 g s0 s1 s2 w') (o : Obj) : Held w1 g s0 s1 s2 (w'.alloc o) := Held.of hd (h.2.2.2.alloc h.2.2.2.size o)
theorem Held.drew {w1 : World} {g : Nat} {s0 s1 s2 : Value} {t : TypeId} (hd : Bx w1 g #[s0, s1, s2] t) : Held w1 g s0 s1 s2 w1.drew := Held.of hd (Below.refl _ _).drew
theorem Held.set {w1 w' : World} {g : Nat} {s0 s1 s2 : Value} {t : TypeId} (hd : Bx w1 g #[s0, s1, s2] t) (h : Held w1 g s0 s1 s2 w') (p : Addr) (hp : w1.heap.size ≤ p.block) (v : Value) : Held w1 g s0 s1 s2 (w'.setCell p v) := Held.of hd (h.2.2.2.setCell hp v)

theorem cloneB_at {w1 : World} {g : Nat} {s0 s1 s2 : Value} {t : TypeId} (a : Option Addr) (n c : Nat) (l : List B8) (w : World) (hl : BL w1 a n l) (hn : n ≤ 1000000) (hd : Bx w1 g #[s0, s1, s2] t) (hb : Below w1.heap.size w1 w) :
    Calls Try.prog 49 #[.slice a n c] w fun e w' => ∃ a' c', e = .returned (.slice a' n c') ∧ Hid (OwnBL w' w.heap.size (.slice a' n c') l) ∧ Hid (Past w1 w w') ∧ DC w' g s0 s1 s2 := by
  refine (cloneB_any a n c l w (hl.later hb) hn).mono ?_
  rintro e w' ⟨v, rfl, ho, hb'⟩
  obtain ⟨a', c', hv, _⟩ := ownsRow_rowR ho
  rw [hl.1] at hv
  subst hv
  have h2 := hb.trans (hb'.mono hb.size)
  exact ⟨a', c', rfl, ho, ⟨h2, hb'⟩, (hd.later h2 hd.lt).dc⟩
theorem cloneB_at2 {w1 : World} {g g' : Nat} {s0 s1 s2 s0' s1' s2' : Value} {t t' : TypeId} (a : Option Addr) (n c : Nat) (l : List B8) (w : World) (hl : BL w1 a n l) (hn : n ≤ 1000000) (hd : Bx w1 g #[s0, s1, s2] t) (hx : Bx w g' #[s0', s1', s2'] t') (hge : w1.heap.size ≤ g') (hb : Below w1.heap.size w1 w) :
    Calls Try.prog 49 #[.slice a n c] w fun e w' => ∃ a' c', e = .returned (.slice a' n c') ∧ Hid (OwnBL w' w.heap.size (.slice a' n c') l) ∧ Hid (Past w1 w w') ∧ DC w' g s0 s1 s2 ∧ Hid (Bx w' g' #[s0', s1', s2'] t') ∧ w1.heap.size ≤ g' ∧ DC w' g' s0' s1' s2' := by
  refine (cloneB_at a n c l w hl hn hd hb).mono ?_
  rintro e w' ⟨a', c', rfl, ho, hp, hdc⟩
  have h := hx.later hp.2 hx.lt
  exact ⟨a', c', rfl, ho, hp, hdc, h, hge, h.dc⟩

theorem cloneP_at {w1 : World} {g : Nat} {s0 s1 s2 : Value} {t : TypeId} (a : Option Addr) (n c : Nat) (l : List Pt) (w : World) (hl : PL w1 a n l) (hn : n ≤ 1000000) (hd : Bx w1 g #[s0, s1, s2] t) (hb : Below w1.heap.size w1 w) :
    Calls Try.prog 83 #[.slice a n c] w fun e w' => ∃ a' c', e = .returned (.slice a' n c') ∧ Hid (OwnPL w' w.heap.size (.slice a' n c') l) ∧ Hid (Past w1 w w') ∧ DC w' g s0 s1 s2 := by
  refine (cloneP_any a n c l w (hl.later hb) hn).mono ?_
  rintro e w' ⟨v, rfl, ho, hb'⟩
  obtain ⟨a', c', hv, _⟩ := ownsRow_rowR ho
  rw [hl.1] at hv
  subst hv
  have h2 := hb.trans (hb'.mono hb.size)
  exact ⟨a', c', rfl, ho, ⟨h2, hb'⟩, (hd.later h2 hd.lt).dc⟩
theorem cloneP_at2 {w1 : World} {g g' : Nat} {s0 s1 s2 s0' s1' s2' : Value} {t t' : TypeId} (a : Option Addr) (n c : Nat) (l : List Pt) (w : World) (hl : PL w1 a n l) (hn : n ≤ 1000000) (hd : Bx w1 g #[s0, s1, s2] t) (hx : Bx w g' #[s0', s1', s2'] t') (hge : w1.heap.size ≤ g') (hb : Below w1.heap.size w1 w) :
    Calls Try.prog 83 #[.slice a n c] w fun e w' => ∃ a' c', e = .returned (.slice a' n c') ∧ Hid (OwnPL w' w.heap.size (.slice a' n c') l) ∧ Hid (Past w1 w w') ∧ DC w' g s0 s1 s2 ∧ Hid (Bx w' g' #[s0', s1', s2'] t') ∧ w1.heap.size ≤ g' ∧ DC w' g' s0' s1' s2' := by
  refine (cloneP_at a n c l w hl hn hd hb).mono ?_
  rintro e w' ⟨a', c', rfl, ho, hp, hdc⟩
  have h := hx.later hp.2 hx.lt
  exact ⟨a', c', rfl, ho, hp, hdc, h, hge, h.dc⟩

theorem cell_newsP (w : World) (p : Pt) (t : TypeId) :
    ∀ j u, (flatP [p])[j]? = some u → (w.alloc (.cells #[.int .i64 p.at_, .int .u8 p.d.z0, .int .u8 p.d.z1, .int .u8 p.d.z2, .int .u8 p.d.z3, .int .u8 p.d.z4, .int .u8 p.d.z5, .int .u8 p.d.z6, .int .u8 p.d.z7] t)).cell? ((⟨w.heap.size, 0, none⟩ : Addr).add j) = some u := by
  intro j u hj
  have hadd : (⟨w.heap.size, 0, none⟩ : Addr).add j = ⟨w.heap.size, j, none⟩ := by unfold Addr.add; split <;> simp_all
  rw [hadd, World.cell?_alloc_new]
  simpa [flatP, Pt.cs] using hj

/-- one put more -/
theorem wpList_append_put {w : World} {ops : Array Oper} {rest : List Oper} {o : Oper} {a : Act} {Q : Exit → Act → World → Prop} (hgd : o.guard = none) (s x : Operand)
    (ho : o.op = .call { callee := .builtin .append, args := #[s, x], argTypes := #[38, 38] }) (base : Nat) (l : List Pt) (hown : OwnPL w base (a.eval s) l)
    (p : Pt) (hx : a.eval x = .slice (some ⟨w.heap.size, 0, none⟩) 1 1) (h63 : l.length ≤ 1000000) (hbase : base ≤ w.heap.size)
    (h : ∀ ad c w', OwnPL w' base (.slice (some ad) (l.length + 1) c) (l ++ [p]) → w.grownBy w' (a.eval s).ownBlock → wpList Try.prog ops Q rest (a.put o.dst (.slice (some ad) (l.length + 1) c)) w') :
    wpList Try.prog ops Q (o :: rest) a (w.alloc (.cells #[.int .i64 p.at_, .int .u8 p.d.z0, .int .u8 p.d.z1, .int .u8 p.d.z2, .int .u8 p.d.z3, .int .u8 p.d.z4, .int .u8 p.d.z5, .int .u8 p.d.z6, .int .u8 p.d.z7] 52)) := by
  obtain ⟨i0, hi, hz0, hz1, hz2⟩ := info_parts Try.info52
  refine wpList_append_own _ hgd s x 38 ho base 52 i0 _ 9 16 Try.underlying38 hi hz0 hz1 hz2 rfl (by decide) (a.eval s) l.length (flatP l) rfl (World.ownsRow.alloc hown _) ⟨w.heap.size, 0, none⟩ 1 1 (flatP [p]) hx (by simp [flatP, Pt.cs]) (cell_newsP w p 52) flatP_one (by unfold maxLen; omega) (by omega) (by simp; omega) ?_
  intro v' w' hown' hg _
  have hI : OwnPL w' base v' (l ++ [p]) := by
    unfold OwnPL
    rw [List.length_append, flatP, List.flatMap_append]
    exact hown'
  have hg' : w.grownBy w' (a.eval s).ownBlock := ⟨hg.os, hg.tape, hg.output, by have := hg.size; simp at this; omega, fun k hk hne => (hg.block k (by simp; omega) hne).trans (Below.heap_alloc w _ k hk)⟩
  rcases hown'.2 with ⟨_, hz⟩ | ⟨g, cap, cur, rfl, hbg, _⟩
  · simp at hz
  · exact h _ _ w' hI hg'

theorem ownsRow_other {w : World} {base e size : Nat} {v : Value} {n : Nat} {xs : List Value} (h : w.ownsRow base e size v n xs) (p : Addr) (u : Value) (hne : v.ownBlock ≠ some p.block) : (w.setCell p u).ownsRow base e size v n xs := by
  refine ⟨h.1, ?_⟩
  rcases h.2 with h | ⟨g, cap, cur, hv, hb, hh, rest⟩
  · exact .inl h
  · exact .inr ⟨g, cap, cur, hv, hb, (Below.heap_setCell w p u g (fun e => hne (by rw [hv]; exact congrArg some e))).trans hh, rest⟩

theorem own_ne_bx {w : World} {base e size g : Nat} {v : Value} {n : Nat} {xs : List Value} {cs : Array Value} {t : TypeId} (h : w.ownsRow base e size v n xs) (hb : Bx w g cs t) (hne : e ≠ t) : v.ownBlock ≠ some g := by
  rcases h.2 with ⟨hv, _⟩ | ⟨g', cap, cur, hv, _, hh, _⟩
  · rw [hv]
    simp [Value.ownBlock]
  · rw [hv]
    intro e'
    have e2 : g' = g := Option.some.inj e'
    subst e2
    rw [hb] at hh
    cases hh
    exact hne rfl

/-- a disk that is being made: its box, its rows -/
def Made (w1 wf : World) (gn : Nat) (v1 v2 s2 : Value) (ls : List B8) (ps : List Pt) : Prop :=
  Bx wf gn #[v1, v2, s2] 40 ∧ OwnBL wf w1.heap.size v1 ls ∧ OwnPL wf w1.heap.size v2 ps ∧ Below w1.heap.size w1 wf ∧ w1.heap.size ≤ gn ∧ v1.ownBlock ≠ some gn ∧ v2.ownBlock ≠ some gn ∧ ∀ g, v1.ownBlock = some g → v2.ownBlock ≠ some g

theorem made_set {w1 wX : World} {gn : Nat} {v1 v2 s2 z0 z1 z2 : Value} {ls : List B8} {ps : List Pt} (hx : Bx wX gn #[z0, z1, z2] 40) (h1 : OwnBL wX w1.heap.size v1 ls) (h2 : OwnPL wX w1.heap.size v2 ps) (hb : Below w1.heap.size w1 wX) (hge : w1.heap.size ≤ gn)
    (n1 : v1.ownBlock ≠ some gn) (n2 : v2.ownBlock ≠ some gn) (d : ∀ g, v1.ownBlock = some g → v2.ownBlock ≠ some g) :
    Made w1 (((wX.setCell ⟨gn, 0, none⟩ v1).setCell ⟨gn, 1, none⟩ v2).setCell ⟨gn, 2, none⟩ s2) gn v1 v2 s2 ls ps :=
  ⟨((hx.set 0 v1).set 1 v2).set 2 s2, ownsRow_other (ownsRow_other (ownsRow_other h1 _ _ n1) _ _ n1) _ _ n1, ownsRow_other (ownsRow_other (ownsRow_other h2 _ _ n2) _ _ n2) _ _ n2,
    ((hb.setCell (p := ⟨gn, 0, none⟩) hge v1).setCell (p := ⟨gn, 1, none⟩) hge v2).setCell (p := ⟨gn, 2, none⟩) hge s2, hge, n1, n2, d⟩

theorem made1 {w1 wB wX : World} {v1 v2 s2 : Value} {ls : List B8} {ps : List Pt} {W : World} (hW : w1.heap.size ≤ W.heap.size) (hoB : OwnBL wB W.heap.size v1 ls) (hoP : OwnPL wX wB.heap.size v2 ps) (hbP : Past w1 wB wX) (hbB : Past w1 W wB) :
    Made w1 (wX.alloc (.cells #[v1, v2, s2] 40)) wX.heap.size v1 v2 s2 ls ps := by
  have b1 := World.ownsRow.lt hoB
  have b2 := World.ownsRow.lt hoP
  have e1 := hbP.2.size
  have e2 := hbB.1.size
  refine ⟨Bx.new _ _ _, World.ownsRow.alloc (rowKept (World.ownsRow.mono hoB hW) hbP.2) _, World.ownsRow.alloc (World.ownsRow.mono hoP e2) _, hbP.1.alloc hbP.1.size _, hbP.1.size, fun e => ?_, fun e => ?_, fun g e1 e2 => ?_⟩
  · have := (b1 _ e).2; omega
  · have := (b2 _ e).2; omega
  · have := (b1 _ e1).2; have := (b2 _ e2).1; omega

theorem made2 {w1 wB wX : World} {v1 v2 s2 z0 z1 z2 : Value} {ls : List B8} {ps : List Pt} {W : World} (hW : w1.heap.size ≤ W.heap.size) (hoB : OwnBL wB W.heap.size v1 ls) (hbB : Past w1 W wB) (hoP : OwnPL wX (wB.alloc (.cells #[z0, z1, z2] 40)).heap.size v2 ps) (hbP : Past w1 (wB.alloc (.cells #[z0, z1, z2] 40)) wX) :
    Made w1 (((wX.setCell ⟨wB.heap.size, 0, none⟩ v1).setCell ⟨wB.heap.size, 1, none⟩ v2).setCell ⟨wB.heap.size, 2, none⟩ s2) wB.heap.size v1 v2 s2 ls ps := by
  have b1 := World.ownsRow.lt hoB
  have b2 := World.ownsRow.lt hoP
  have e1 := hbP.2.size
  have e2 := hbB.1.size
  simp only [World.size_alloc] at b2 e1
  refine made_set ((Bx.new wB #[z0, z1, z2] 40).later hbP.2 (by simp)) (rowKept (World.ownsRow.alloc (World.ownsRow.mono hoB hW) _) hbP.2) (World.ownsRow.mono hoP (by simp; omega)) hbP.1 e2 (fun e => ?_) (fun e => ?_) (fun g e1 e2 => ?_)
  · have := (b1 _ e).2; omega
  · have := (b2 _ e).1; omega
  · have := (b1 _ e1).2; have := (b2 _ e2).1; omega

theorem made3 {w1 wB wX : World} {v1 v2 s2 z0 z1 z2 : Value} {ls : List B8} {ps : List Pt} (hoB : OwnBL wB (w1.alloc (.cells #[z0, z1, z2] 40)).drew.heap.size v1 ls) (hbB : Past w1 (w1.alloc (.cells #[z0, z1, z2] 40)).drew wB) (hoP : OwnPL wX wB.heap.size v2 ps) (hbP : Past w1 wB wX) :
    Made w1 (((wX.setCell ⟨w1.heap.size, 0, none⟩ v1).setCell ⟨w1.heap.size, 1, none⟩ v2).setCell ⟨w1.heap.size, 2, none⟩ s2) w1.heap.size v1 v2 s2 ls ps := by
  have b1 := World.ownsRow.lt hoB
  have b2 := World.ownsRow.lt hoP
  have e1 := hbP.2.size
  have e2 := hbB.2.size
  have e3 : (w1.alloc (.cells #[z0, z1, z2] 40)).drew.heap.size = w1.heap.size + 1 := World.size_alloc _ _
  rw [e3] at b1 e2
  refine made_set (((Bx.newD w1 #[z0, z1, z2] 40).later hbB.2 (by rw [e3]; omega)).later hbP.2 (by omega)) (rowKept (World.ownsRow.mono hoB (by rw [e3]; omega)) hbP.2) (World.ownsRow.mono hoP (by omega)) hbP.1 (Nat.le_refl _) (fun e => ?_) (fun e => ?_) (fun g e1 e2 => ?_)
  · have := (b1 _ e).1; omega
  · have := (b2 _ e).1; omega
  · have := (b1 _ e1).2; have := (b2 _ e2).1; omega


theorem set8_list {α : Type} (L : List α) (o : Nat) (a0 a1 a2 a3 a4 a5 a6 a7 : α) (h : o + 8 ≤ L.length) :
    (((((((L.set o a0).set (o + 1) a1).set (o + 2) a2).set (o + 3) a3).set (o + 4) a4).set (o + 5) a5).set (o + 6) a6).set (o + 7) a7 = L.take o ++ [a0, a1, a2, a3, a4, a5, a6, a7] ++ L.drop (o + 8) := by
  have hL : L = L.take o ++ ((L.drop o).take 8 ++ L.drop (o + 8)) := by
    rw [show L.drop (o + 8) = (L.drop o).drop 8 by rw [List.drop_drop], List.take_append_drop, List.take_append_drop]
  have hl : (L.take o).length = o := by rw [List.length_take]; omega
  have h8 : ((L.drop o).take 8).length = 8 := by rw [List.length_take, List.length_drop]; omega
  generalize L.take o = A at *
  generalize (L.drop o).take 8 = B at *
  generalize L.drop (o + 8) = C at *
  match B, h8 with
  | [b0, b1, b2, b3, b4, b5, b6, b7], _ =>
    subst hL
    subst hl
    have e := fun (X : List α) (i : Nat) (v : α) => List.set_append_right (s := A) (t := X) (A.length + i) v (by omega)
    have e0 := fun (X : List α) (v : α) => List.set_append_right (s := A) (t := X) A.length v (Nat.le_refl _)
    simp only [Nat.add_sub_cancel_left, Nat.sub_self] at e e0
    simp only [e, e0, List.cons_append, List.nil_append, List.set_cons_zero, List.set_cons_succ, List.append_assoc]

/-- a block stored into a row: its eight cells -/
def set8 (w : World) (g o : Nat) (x : B8) : World :=
  (((((((w.setCell ⟨g, o, none⟩ (.int .u8 x.z0)).setCell ⟨g, o + 1, none⟩ (.int .u8 x.z1)).setCell ⟨g, o + 2, none⟩ (.int .u8 x.z2)).setCell ⟨g, o + 3, none⟩ (.int .u8 x.z3)).setCell ⟨g, o + 4, none⟩ (.int .u8 x.z4)).setCell ⟨g, o + 5, none⟩ (.int .u8 x.z5)).setCell ⟨g, o + 6, none⟩ (.int .u8 x.z6)).setCell ⟨g, o + 7, none⟩ (.int .u8 x.z7)

theorem OwnBL.put {w : World} {base g n cap : Nat} {l : List B8} (h : OwnBL w base (.slice (some ⟨g, 0, none⟩) n cap) l) (j : Nat) (hj : j < l.length) (x : B8) : OwnBL (set8 w g (j * 8) x) base (.slice (some ⟨g, 0, none⟩) n cap) (l.set j x) := by
  rcases h.2 with ⟨hv, _⟩ | ⟨g', cap', cur, hv, hb, hh, hle, hmx, hcs, htk⟩
  · cases hv
  · simp only [Value.slice.injEq, Option.some.injEq, Addr.mk.injEq, and_true] at hv
    obtain ⟨rfl, hn, rfl⟩ := hv
    have hbx : Bx w g cur 50 := hh
    have h8 := (((((((hbx.set (j * 8) (.int .u8 x.z0)).set (j * 8 + 1) (.int .u8 x.z1)).set (j * 8 + 2) (.int .u8 x.z2)).set (j * 8 + 3) (.int .u8 x.z3)).set (j * 8 + 4) (.int .u8 x.z4)).set (j * 8 + 5) (.int .u8 x.z5)).set (j * 8 + 6) (.int .u8 x.z6)).set (j * 8 + 7) (.int .u8 x.z7)
    refine ⟨by rw [flatB_len, List.length_set], .inr ⟨g, cap, _, by rw [List.length_set, hn], hb, h8, by rw [List.length_set]; omega, hmx, by simpa using hcs, ?_⟩⟩
    have hf : flatB (l.set j x) = (flatB l).take (j * 8) ++ x.cs ++ (flatB l).drop (j * 8 + 8) := flatMap_set B8.cs 8 (fun _ => rfl) l j x hj
    simp only [Array.toList_setIfInBounds, List.take_set]
    rw [List.length_set, htk, set8_list (flatB l) (j * 8) _ _ _ _ _ _ _ _ (by rw [flatB_len]; omega), hf]
    rfl

theorem set8_below {B g : Nat} {w w' : World} (h : Below B w w') (hg : B ≤ g) (o : Nat) (x : B8) : Below B w (set8 w' g o x) :=
  (((((((h.setCell (p := ⟨g, o, none⟩) hg _).setCell (p := ⟨g, o + 1, none⟩) hg _).setCell (p := ⟨g, o + 2, none⟩) hg _).setCell (p := ⟨g, o + 3, none⟩) hg _).setCell (p := ⟨g, o + 4, none⟩) hg _).setCell (p := ⟨g, o + 5, none⟩) hg _).setCell (p := ⟨g, o + 6, none⟩) hg _).setCell (p := ⟨g, o + 7, none⟩) hg _

theorem set8_other {w : World} {g o k : Nat} (hk : k ≠ g) (x : B8) : (set8 w g o x).heap[k]? = w.heap[k]? := by
  unfold set8
  rw [Below.heap_setCell _ _ _ _ hk, Below.heap_setCell _ _ _ _ hk, Below.heap_setCell _ _ _ _ hk, Below.heap_setCell _ _ _ _ hk, Below.heap_setCell _ _ _ _ hk, Below.heap_setCell _ _ _ _ hk, Below.heap_setCell _ _ _ _ hk, Below.heap_setCell _ _ _ _ hk]

theorem Bx.set8 {w : World} {g k : Nat} {cs : Array Value} {t : TypeId} (h : Bx w k cs t) (hk : k ≠ g) (o : Nat) (x : B8) : Bx (set8 w g o x) k cs t := (set8_other hk x).trans h

theorem OwnBL.form {w : World} {base n c : Nat} {a : Option Addr} {l : List B8} (h : OwnBL w base (.slice a n c) l) (hn : 0 < n) : ∃ g, a = some ⟨g, 0, none⟩ ∧ base ≤ g ∧ g < w.heap.size ∧ l.length = n ∧ ∀ o, w.frozen? ⟨g, o, none⟩ = false := by
  rcases h.2 with ⟨hv, _⟩ | ⟨g, cap, cur, hv, hb, hh, _⟩
  · simp only [Value.slice.injEq] at hv
    omega
  · simp only [Value.slice.injEq] at hv
    obtain ⟨rfl, rfl, rfl⟩ := hv
    exact ⟨g, rfl, hb, (Array.getElem?_eq_some_iff.1 hh).1, rfl, fun o => (show Bx w g cur 50 from hh).frozen o⟩

theorem OwnBL.at_ {w : World} {base g n c : Nat} {l : List B8} (h : OwnBL w base (.slice (some ⟨g, 0, none⟩) n c) l) (k : Nat) (hk : k < n) :
    ∃ x : B8, l[k]? = some x ∧ w.cell? ⟨g, k * 8, none⟩ = some (.int .u8 x.z0) ∧ w.cell? ⟨g, k * 8 + 1, none⟩ = some (.int .u8 x.z1) ∧ w.cell? ⟨g, k * 8 + 2, none⟩ = some (.int .u8 x.z2) ∧
      w.cell? ⟨g, k * 8 + 3, none⟩ = some (.int .u8 x.z3) ∧ w.cell? ⟨g, k * 8 + 4, none⟩ = some (.int .u8 x.z4) ∧ w.cell? ⟨g, k * 8 + 5, none⟩ = some (.int .u8 x.z5) ∧
      w.cell? ⟨g, k * 8 + 6, none⟩ = some (.int .u8 x.z6) ∧ w.cell? ⟨g, k * 8 + 7, none⟩ = some (.int .u8 x.z7) := by
  obtain ⟨a, c', hv, hb, _⟩ := h.bl
  simp only [Value.slice.injEq] at hv
  obtain ⟨rfl, rfl, rfl⟩ := hv
  obtain ⟨b, off, x, ha, _, hx, hcs⟩ := hb.at_ k hk
  simp only [Option.some.injEq, Addr.mk.injEq, and_true] at ha
  obtain ⟨rfl, rfl⟩ := ha
  simp only [Nat.zero_add] at hcs
  exact ⟨x, hx, hcs⟩
end Go.Proofs.Ytdhmijjphgcdmac

/-
  slices.Chunk at numbers of 64 bits, four at a time: what the iterator gives.
-/
namespace Go.Proofs.Ytdhmijjphgcdmac
open Go.RowKit Go.Shelf
attribute [local go_sem] Oper.semAt_some

/-- a piece of a row: where it begins, how many it has -/
structure Ck (m : Nat) where
  s : Nat
  q : Nat
  ok : s + q ≤ m ∧ q ≤ 4
/-- the k-th piece; the first k -/
def ckAt (m k : Nat) : Ck m := ⟨min (k * 4) m, min 4 (m - min (k * 4) m), by omega, by omega⟩
def cksTo (m k : Nat) : List (Ck m) := (List.range k).map (ckAt m)
theorem cksTo_succ (m k : Nat) : cksTo m (k + 1) = cksTo m k ++ [ckAt m k] := by simp [cksTo, List.range_succ]
theorem cksTo_len (m k : Nat) : (cksTo m k).length = k := by simp [cksTo]
def encC (b off : Nat) {m : Nat} (x : Ck m) : Array Value := #[.slice (some ⟨b, off + x.s, none⟩) x.q x.q]

/-- what a round that goes on keeps: all below n₀, and the iterator's own boxes -/
def KpC (n₀ Bs Bn : Nat) (W W' : World) : Prop := Below n₀ W W' ∧ W'.heap[Bs]? = W.heap[Bs]? ∧ W'.heap[Bn]? = W.heap[Bn]?
theorem kpC_t {n₀ Bs Bn : Nat} {A B C : World} (h : KpC n₀ Bs Bn A B) (k : KpC n₀ Bs Bn B C) : KpC n₀ Bs Bn A C := ⟨h.1.trans k.1, k.2.1.trans h.2.1, k.2.2.trans h.2.2⟩
theorem kpC_b {n₀ Bs Bn : Nat} {w : World} (hn : n₀ ≤ w.heap.size) (hB : Bs < w.heap.size) (hB2 : Bn < w.heap.size) (W : World) (l : Nat) (o o' : Obj) (hl : w.heap.size ≤ l) (h : W.heap[l]? = some o) (h1 : o.isCells = false) (h2 : o.isWalk = false) : KpC n₀ Bs Bn W (W.putObj l o') :=
  ⟨(kpS_b hn hB W l o o' hl h h1 h2).1, (kpS_b hn hB W l o o' hl h h1 h2).2, (kpS_b hn hB2 W l o o' hl h h1 h2).2⟩

set_option maxRecDepth 100000 in
set_option maxHeartbeats 2000000 in
theorem chunk_in (n : Nat) (hn : 1 ≤ n) (l Bs Bn n₀ b off cap m : Nat) (hm : m ≤ 1000) (hcap : m ≤ cap) (J Jx : List (Ck m) → World → Prop)
    (W : World) (_hn₀ : n₀ ≤ W.heap.size) (hJ : AbidesFrom W.heap.size J)
    (hY : ∀ pre x W, J pre W → pre.length < (m + 3) / 4 → YieldAt Fence.wide (n - 1) Try.prog l (encC b off x) W fun e W' =>
      (e = .returned (.bool true) ∧ J (pre ++ [x]) W' ∧ KpC n₀ Bs Bn W W') ∨ (e = .returned (.bool false) ∧ Jx (pre ++ [x]) W'))
    (hBs : W.cell? ⟨Bs, 0, none⟩ = some (.slice (some ⟨b, off, none⟩) m cap)) (hBn : W.cell? ⟨Bn, 0, none⟩ = some (.int .i64 4)) (h0 : J [] W) :
    CallsIn Fence.wide n Try.prog 114 #[.func (.yield l) #[] #[], .pointer (some ⟨Bs, 0, none⟩), .pointer (some ⟨Bn, 0, none⟩)] W fun e W' => (∃ v, e = .returned v) ∧
      ((∃ ys, ys = cksTo m ((m + 3) / 4) ∧ J ys W') ∨ (∃ pre, (∃ k, k ≤ (m + 3) / 4 ∧ pre = cksTo m k) ∧ Jx pre W')) := by
  refine callsIn_of_wp Try.func114 rfl trivial ?_ rfl
  simp only [Try.ntmps114, List.size_toArray, List.length_cons, List.length_nil, Nat.reduceAdd, Nat.reduceSub, Array.replicate_succ, Array.replicate_zero, List.push_toArray, List.append_toArray, List.nil_append, List.cons_append]
  gi_wp2
  gi_loopw [4] (fun i wr => ∃ (k I : Nat), Hid (I = k * 4) ∧ Hid (k ≤ (m + 3) / 4) ∧ I ≤ m + 3 ∧ i = .int .i64 (I : Int) ∧ J (cksTo m k) wr ∧ Below n₀ W wr ∧ wr.heap[Bs]? = W.heap[Bs]? ∧ wr.heap[Bn]? = W.heap[Bn]?)
    (fun i _ => m + 4 - (intOf i).toNat)
  case atStart => exact ⟨0, 0, rfl, Nat.zero_le _, by omega, rfl, h0, Below.refl _ _, rfl, rfl⟩
  case round =>
    obtain ⟨k, I, hI, hkN, hIm, rfl, hJs, hnx, hbs, hbn⟩ := hrel
    have HBS := hide hbs
    have HBN := hide hbn
    have hbx : wr.cell? ⟨Bs, 0, none⟩ = some (.slice (some ⟨b, off, none⟩) m cap) := (World.cell?_of_block (w := W) (a := ⟨Bs, 0, none⟩) hbs).trans hBs
    have hby : wr.cell? ⟨Bn, 0, none⟩ = some (.int .i64 4) := (World.cell?_of_block (w := W) (a := ⟨Bn, 0, none⟩) hbn).trans hBn
    clear hbs hbn
    by_cases hlt : (I : Int) < m
    · have hI2 : (I : Int) ≤ cap := by omega
      have hI3 : (I : Int) ≤ m := by omega
      obtain ⟨x, hx⟩ : ∃ x : Ck m, Hid (x = ckAt m k) := ⟨_, rfl⟩
      by_cases h4 : (4 : Int) ≤ (m : Int) - I
      · have hxs : x.s = I ∧ x.q = 4 := by
          have h1 := hI.out
          rw [hx.out]
          constructor
          · show min (k * 4) m = I
            omega
          · show min 4 (m - min (k * 4) m) = 4
            omega
        obtain ⟨W1, hW1⟩ : ∃ W1 : World, W1 = wr.drew := ⟨_, rfl⟩
        have hg1 : wr.grownBy W1 none := by
          rw [hW1]
          exact ⟨rfl, rfl, rfl, Nat.le_refl _, fun i hi _ => rfl⟩
        obtain ⟨fn, tmps, assign, body, hy, hR⟩ := hY (cksTo m k) x W1 (hJ _ wr W1 none hJs hg1 (fun r h => by cases h)) (by rw [cksTo_len]; have := hI.out; omega)
        unfold encC at hy
        rw [hxs.1, hxs.2] at hy
        rw [hW1] at hy hR
        have hc4 : (I : Int) + 4 ≤ cap := by omega
        have e44 : I + 4 - I = 4 := by omega
        gi_wp2
        gi_region
        gi_wp2_with fail
        refine hR.mono ?_
        have HX := hide (show cksTo m (k + 1) = cksTo m k ++ [x] by rw [cksTo_succ, hx.out])
        have HK := hide (show k + 1 ≤ (m + 3) / 4 by have := hI.out; omega)
        rintro e W3 (⟨rfl, hJ3, hk3⟩ | ⟨rfl, hJx3⟩)
        · rw [← HX.out] at hJ3
          have HB3 := hide (show Below n₀ W W3 from hnx.drew.trans hk3.1)
          have HS3 := hide (show W3.heap[Bs]? = W.heap[Bs]? from hk3.2.1.trans HBS.out)
          have HN3 := hide (show W3.heap[Bn]? = W.heap[Bn]? from hk3.2.2.trans HBN.out)
          have hby3 : W3.cell? ⟨Bn, 0, none⟩ = some (.int .i64 4) := (World.cell?_of_block (w := W) (a := ⟨Bn, 0, none⟩) HN3.out).trans hBn
          clear hk3
          gi_wp2_with fail
          go_roundw
          case rel => exact ⟨k + 1, I + 4, by have := hI.out; unfold Hid; omega, HK, by omega, by go_num, hJ3, HB3.out, HS3.out, HN3.out⟩
          case measure => simp [intOf]; omega
        · rw [← HX.out] at hJx3
          gi_wp2
          refine bodyPost_ret (results_none rfl _ _ _) rfl ?_
          refine ⟨⟨_, rfl⟩, .inr ?_⟩
          first
            | exact ⟨_, ⟨k + 1, HK.out, rfl⟩, hJx3⟩
            | exact ⟨k + 1, HK.out, hJx3⟩
      · obtain ⟨d, hd⟩ : ∃ d : Nat, m - I = d := ⟨_, rfl⟩
        have hd0 : (I : Int) + d = m := by omega
        have hxs : x.s = I ∧ x.q = d := by
          have h1 := hI.out
          rw [hx.out]
          constructor
          · show min (k * 4) m = I
            omega
          · show min 4 (m - min (k * 4) m) = d
            omega
        obtain ⟨W1, hW1⟩ : ∃ W1 : World, W1 = wr.drew := ⟨_, rfl⟩
        have hg1 : wr.grownBy W1 none := by
          rw [hW1]
          exact ⟨rfl, rfl, rfl, Nat.le_refl _, fun i hi _ => rfl⟩
        obtain ⟨fn, tmps, assign, body, hy, hR⟩ := hY (cksTo m k) x W1 (hJ _ wr W1 none hJs hg1 (fun r h => by cases h)) (by rw [cksTo_len]; have := hI.out; omega)
        unfold encC at hy
        rw [hxs.1, hxs.2] at hy
        rw [hW1] at hy hR
        have hc4 : (I : Int) + d ≤ cap := by omega
        have hd4 : (d : Int) < 4 := by omega
        have hd1 : (0 : Int) < d := by omega
        have e44 : I + d - I = d := by omega
        gi_wp2
        gi_region
        gi_wp2_with fail
        refine hR.mono ?_
        have HX := hide (show cksTo m (k + 1) = cksTo m k ++ [x] by rw [cksTo_succ, hx.out])
        have HK := hide (show k + 1 ≤ (m + 3) / 4 by have := hI.out; omega)
        rintro e W3 (⟨rfl, hJ3, hk3⟩ | ⟨rfl, hJx3⟩)
        · rw [← HX.out] at hJ3
          have HB3 := hide (show Below n₀ W W3 from hnx.drew.trans hk3.1)
          have HS3 := hide (show W3.heap[Bs]? = W.heap[Bs]? from hk3.2.1.trans HBS.out)
          have HN3 := hide (show W3.heap[Bn]? = W.heap[Bn]? from hk3.2.2.trans HBN.out)
          have hby3 : W3.cell? ⟨Bn, 0, none⟩ = some (.int .i64 4) := (World.cell?_of_block (w := W) (a := ⟨Bn, 0, none⟩) HN3.out).trans hBn
          clear hk3
          gi_wp2_with fail
          go_roundw
          case rel => exact ⟨k + 1, I + 4, by have := hI.out; unfold Hid; omega, HK, by omega, by go_num, hJ3, HB3.out, HS3.out, HN3.out⟩
          case measure => simp [intOf]; omega
        · rw [← HX.out] at hJx3
          gi_wp2
          refine bodyPost_ret (results_none rfl _ _ _) rfl ?_
          refine ⟨⟨_, rfl⟩, .inr ?_⟩
          first
            | exact ⟨_, ⟨k + 1, HK.out, rfl⟩, hJx3⟩
            | exact ⟨k + 1, HK.out, hJx3⟩
    · have HE := hide (show k = (m + 3) / 4 by have := hI.out; have := hkN.out; omega)
      gi_wp2
      go_end0
      have hJe : J (cksTo m ((m + 3) / 4)) wr := by rw [← HE.out]; exact hJs
      refine ⟨⟨_, rfl⟩, .inl ?_⟩
      first
        | exact hJe
        | exact ⟨_, rfl, hJe⟩

set_option maxHeartbeats 1000000 in
theorem chunkOf_in (n : Nat) (a : Option Addr) (len cap : Nat) (w : World) :
    CallsIn Fence.wide n Try.prog 111 #[.slice a len cap, .int .i64 4] w fun e w' => e = .returned (.func (.func 114) #[] #[.pointer (some ⟨w.heap.size, 0, none⟩), .pointer (some ⟨w.heap.size + 1, 0, none⟩)]) ∧ w' = (w.alloc (.cells #[.slice a len cap] 120)).alloc (.cells #[.int .i64 4] 3) := by
  refine callsIn_of_wp Try.func111 rfl trivial ?_ rfl
  simp only [Try.ntmps111, List.size_toArray, List.length_cons, List.length_nil, Nat.reduceAdd, Nat.reduceSub, Array.replicate_succ, Array.replicate_zero, List.push_toArray, List.append_toArray, List.nil_append, List.cons_append]
  gi_wp2
  go_ret
  exact ⟨rfl, rfl⟩

theorem chunk_stops (n : Nat) (hn : 1 ≤ n) (Bs Bn n₀ b off cap m : Nat) (hm : m ≤ 1000) (hcap : m ≤ cap) (w : World) (hn₀ : n₀ ≤ w.heap.size) (hBsl : Bs < w.heap.size) (hBnl : Bn < w.heap.size)
    (hBs : w.cell? ⟨Bs, 0, none⟩ = some (.slice (some ⟨b, off, none⟩) m cap)) (hBn : w.cell? ⟨Bn, 0, none⟩ = some (.int .i64 4)) :
    SeqStopsK Fence.wide n Try.prog 114 #[.pointer (some ⟨Bs, 0, none⟩), .pointer (some ⟨Bn, 0, none⟩)] (encC b off (m := m)) (KpC n₀ Bs Bn) (fun ys => ys = cksTo m ((m + 3) / 4)) (fun pre => ∃ k, k ≤ (m + 3) / 4 ∧ pre = cksTo m k) ((m + 3) / 4) w := fun l J Jx W hW hJ _ hY h0 =>
  chunk_in n hn l Bs Bn n₀ b off cap m hm hcap J Jx W (Nat.le_trans hn₀ hW.size) hJ hY ((hW.cell (p := ⟨Bs, 0, none⟩) hBsl).trans hBs) ((hW.cell (p := ⟨Bn, 0, none⟩) hBnl).trans hBn) h0

end Go.Proofs.Ytdhmijjphgcdmac

/-
  Where a block is in a list (First, slices.Index, slices.Contains); whether a list may be what was had (HadMay, cache.Check).
-/
namespace Go.Proofs.Ytdhmijjphgcdmac
open Go.RowKit

instance : DecidableEq B8 := fun x y => decidable_of_iff _ (B8.eq_list x y)

namespace Mx
/-- the first place of a block, or -1 -/
def firstI (l : List B8) (b : B8) : Int := if b ∈ l then (l.idxOf b : Int) else -1
/-- what may have been had -/
def hmay (l : List B8) : Int := if 8 < l.length then 2 else if l.Nodup then 0 else 3

theorem firstI_at {l : List B8} {b : B8} {k : Nat} (h : l[k]? = some b) (hn : ∀ j : Nat, j < k → l[j]? ≠ some b) : firstI l b = k := by
  have hm : b ∈ l := List.mem_of_getElem? h
  rw [firstI, if_pos hm]
  congr 1
  have hk : k < l.length := (List.getElem?_eq_some_iff.1 h).1
  have h1 : l.idxOf b < l.length := List.idxOf_lt_length_of_mem hm
  have h2 : l[l.idxOf b]? = some b := by rw [List.getElem?_eq_getElem h1, List.getElem_idxOf h1]
  have h3 : ¬ l.idxOf b < k := fun h => hn _ h h2
  have h4 : ¬ k < l.idxOf b := fun h5 => by
    have h6 := List.not_of_lt_findIdx h5
    have h7 := (List.getElem?_eq_some_iff.1 h).2
    simp [h7] at h6
  omega
theorem firstI_none {l : List B8} {b : B8} (hn : ∀ j : Nat, j < l.length → l[j]? ≠ some b) : firstI l b = -1 := by
  rw [firstI, if_neg]
  intro hm
  obtain ⟨i, hi, e⟩ := List.getElem_of_mem hm
  exact hn i hi (by rw [List.getElem?_eq_getElem hi, e])
theorem firstI_nonneg (l : List B8) (b : B8) : decide (0 ≤ firstI l b) = decide (b ∈ l) := by
  by_cases h : b ∈ l
  · rw [firstI, if_pos h]
    simp [h]
  · rw [firstI, if_neg h]
    simp [h]
theorem firstI_lt {l : List B8} {b : B8} {k : Nat} (h : l[k]? = some b) : (firstI l b < k) ↔ b ∈ l.take k := by
  have hm : b ∈ l := List.mem_of_getElem? h
  have hk : k < l.length := (List.getElem?_eq_some_iff.1 h).1
  have h1 : l.idxOf b < l.length := List.idxOf_lt_length_of_mem hm
  rw [firstI, if_pos hm]
  constructor
  · intro h2
    have h2' : l.idxOf b < k := by omega
    refine List.mem_of_getElem? (i := l.idxOf b) ?_
    rw [List.getElem?_take_of_lt h2', List.getElem?_eq_getElem h1, List.getElem_idxOf h1]
  · intro h2
    obtain ⟨j, hj, e⟩ := List.getElem_of_mem h2
    rw [List.length_take] at hj
    rw [List.getElem_take] at e
    have h4 : ¬ j < l.idxOf b := fun h5 => by
      have h6 := List.not_of_lt_findIdx h5
      simp [e] at h6
    omega
theorem nodup_snoc {l : List B8} {k : Nat} {b : B8} (h : l[k]? = some b) (hn : (l.take k).Nodup) (hb : b ∉ l.take k) : (l.take (k + 1)).Nodup := by
  rw [getElem_take_succ _ _ _ h, List.nodup_append]
  refine ⟨hn, by simp, fun x hx y hy => ?_⟩
  rintro rfl
  simp at hy
  subst hy
  exact hb hx
theorem nodup_not {l : List B8} {k : Nat} {b : B8} (h : l[k]? = some b) (hb : b ∈ l.take k) : ¬ l.Nodup := by
  intro hn
  have h1 : (l.take (k + 1)).Nodup := hn.sublist (List.take_sublist _ _)
  rw [getElem_take_succ _ _ _ h, List.nodup_append] at h1
  exact h1.2.2 b hb b (by simp) rfl
theorem hmay_long {l : List B8} (h : 8 < l.length) : hmay l = 2 := by rw [hmay, if_pos h]
theorem hmay_twice {l : List B8} {k : Nat} {b : B8} (hl : ¬ 8 < l.length) (h : l[k]? = some b) (hb : b ∈ l.take k) : hmay l = 3 := by rw [hmay, if_neg hl, if_neg (nodup_not h hb)]
theorem hmay_good {l : List B8} {k : Nat} (hl : ¬ 8 < l.length) (hk : l.length ≤ k) (h : (l.take k).Nodup) : hmay l = 0 := by
  rw [List.take_of_length_le hk] at h
  rw [hmay, if_neg hl, if_pos h]
end Mx

theorem Bx.drewN {w : World} {g : Nat} {cs : Array Value} {t : TypeId} (h : Bx w g cs t) (n : Nat) : Bx (w.drewN n) g cs t := h
theorem BL.take {w : World} {a : Option Addr} {n : Nat} {l : List B8} (h : BL w a n l) (k : Nat) (hk : k ≤ n) : BL w a k (l.take k) := by
  have hl : (l.take k).length = k := by rw [List.length_take, h.1]; omega
  refine ⟨hl, by rw [flatB_len, hl], by have := h.2.2.1; omega, fun hp => ?_⟩
  obtain ⟨b, off, ha, hb, hc⟩ := h.2.2.2 (by omega)
  refine ⟨b, off, ha, hb, fun j u hj => hc j u ?_⟩
  have e : flatB l = flatB (l.take k) ++ flatB (l.drop k) := by unfold flatB; rw [← List.flatMap_append, List.take_append_drop]
  rw [e, List.getElem?_append_left (List.getElem?_eq_some_iff.1 hj).1]
  exact hj

set_option maxHeartbeats 1000000 in
set_option maxRecDepth 100000 in
theorem first_any (a : Option Addr) (n c : Nat) (l : List B8) (x : B8) (w : World) (hl : BL w a n l) :
    Calls Try.prog 31 #[.slice a n c, .agg #[.int .u8 x.z0, .int .u8 x.z1, .int .u8 x.z2, .int .u8 x.z3, .int .u8 x.z4, .int .u8 x.z5, .int .u8 x.z6, .int .u8 x.z7]] w fun e w' => e = .returned (.int .i64 (Mx.firstI l x)) ∧ Below w.heap.size w w' := by
  have hlen : n ≤ maxLen := hl.2.2.1
  unfold maxLen at hlen
  have HL := hide hl
  clear hl
  go_enter Try.func31, Try.ntmps31
  go_wp2
  go_loopw [5] (fun i wr => ∃ k : Nat, k ≤ n ∧ i = .int .i64 k ∧ Hid (∀ j : Nat, j < k → l[j]? ≠ some x) ∧ Hid (Below w.heap.size w wr ∧ Bx wr w.heap.size #[.int .u8 x.z0, .int .u8 x.z1, .int .u8 x.z2, .int .u8 x.z3, .int .u8 x.z4, .int .u8 x.z5, .int .u8 x.z6, .int .u8 x.z7] 50)) (fun i _ => n - (intOf i).toNat)
  case atStart => exact ⟨0, by omega, rfl, fun j hj => absurd hj (by omega), below_alloc _ _, Bx.new _ _ _⟩
  case round =>
    obtain ⟨k, hk, rfl, hE, hF⟩ := hrel
    by_cases hlt : k < n
    · obtain ⟨b, off, y, rfl, hb, hy, e0, e1, e2, e3, e4, e5, e6, e7⟩ := (HL.out.later hF.out.1).at_ k hlt
      obtain ⟨f0, f1, f2, f3, f4, f5, f6, f7⟩ := hF.out.2.eight
      have HY := hide hy
      clear hy
      have heq := equal_block y.z0 y.z1 y.z2 y.z3 y.z4 y.z5 y.z6 y.z7 x.z0 x.z1 x.z2 x.z3 x.z4 x.z5 x.z6 x.z7
      by_cases hcc : [y.z0, y.z1, y.z2, y.z3, y.z4, y.z5, y.z6, y.z7] = [x.z0, x.z1, x.z2, x.z3, x.z4, x.z5, x.z6, x.z7]
      · have HC := hide ((B8.eq_list y x).1 hcc)
        rw [decide_eq_true hcc] at heq
        clear hcc
        go_wp2_with fail
        go_quiet (fail)
        go_wp2
        go_ret
        exact ⟨by rw [Mx.firstI_at (k := k) (by rw [HY.out, HC.out]) hE.out] <;> rfl, below_drewN hF.out.1 _⟩
      · have HC := hide (fun e => hcc ((B8.eq_list y x).2 e))
        rw [decide_eq_false hcc] at heq
        clear hcc
        go_wp2_with fail
        go_quiet (fail)
        go_wp2
        go_roundw
        case rel =>
          refine ⟨k + 1, by omega, by go_num, fun j hj e => ?_, below_drewN hF.out.1 _, hF.out.2.drewN _⟩
          rcases Nat.lt_succ_iff_lt_or_eq.1 hj with h | h
          · exact hE.out j h e
          · subst h
            rw [HY.out] at e
            exact HC.out (Option.some.inj e)
        case measure => simp [intOf]; omega
    · go_wp2
      go_ret
      exact ⟨by rw [Mx.firstI_none (fun j hj => hE.out j (by have := HL.out.1; omega))] <;> rfl, hF.out.1⟩

set_option maxHeartbeats 1000000 in
set_option maxRecDepth 100000 in
theorem index_any (a : Option Addr) (n c : Nat) (l : List B8) (x : B8) (w : World) (hl : BL w a n l) :
    Calls Try.prog 113 #[.slice a n c, .agg #[.int .u8 x.z0, .int .u8 x.z1, .int .u8 x.z2, .int .u8 x.z3, .int .u8 x.z4, .int .u8 x.z5, .int .u8 x.z6, .int .u8 x.z7]] w fun e w' => e = .returned (.int .i64 (Mx.firstI l x)) ∧ Below w.heap.size w w' := by
  have hlen : n ≤ maxLen := hl.2.2.1
  unfold maxLen at hlen
  have HL := hide hl
  clear hl
  go_enter Try.func113, Try.ntmps113
  go_wp2
  go_loopw [8] (fun i wr => ∃ k : Nat, k ≤ n ∧ i = .int .i64 k ∧ Hid (∀ j : Nat, j < k → l[j]? ≠ some x) ∧ Hid (Below w.heap.size w wr ∧ Bx wr w.heap.size #[.int .u8 x.z0, .int .u8 x.z1, .int .u8 x.z2, .int .u8 x.z3, .int .u8 x.z4, .int .u8 x.z5, .int .u8 x.z6, .int .u8 x.z7] 50)) (fun i _ => n - (intOf i).toNat)
  case atStart => exact ⟨0, by omega, rfl, fun j hj => absurd hj (by omega), below_alloc _ _, Bx.new _ _ _⟩
  case round =>
    obtain ⟨k, hk, rfl, hE, hF⟩ := hrel
    by_cases hlt : k < n
    · obtain ⟨b, off, y, rfl, hb, hy, e0, e1, e2, e3, e4, e5, e6, e7⟩ := (HL.out.later hF.out.1).at_ k hlt
      obtain ⟨f0, f1, f2, f3, f4, f5, f6, f7⟩ := hF.out.2.eight
      have HY := hide hy
      clear hy
      have heq := equal_block x.z0 x.z1 x.z2 x.z3 x.z4 x.z5 x.z6 x.z7 y.z0 y.z1 y.z2 y.z3 y.z4 y.z5 y.z6 y.z7
      by_cases hcc : [x.z0, x.z1, x.z2, x.z3, x.z4, x.z5, x.z6, x.z7] = [y.z0, y.z1, y.z2, y.z3, y.z4, y.z5, y.z6, y.z7]
      · have HC := hide ((B8.eq_list x y).1 hcc)
        rw [decide_eq_true hcc] at heq
        clear hcc
        go_wp2_with fail
        go_quiet (fail)
        go_wp2
        go_ret
        exact ⟨by rw [Mx.firstI_at (k := k) (by rw [HY.out, HC.out]) hE.out] <;> rfl, below_drewN hF.out.1 _⟩
      · have HC := hide (fun e => hcc ((B8.eq_list x y).2 e))
        rw [decide_eq_false hcc] at heq
        clear hcc
        go_wp2_with fail
        go_quiet (fail)
        go_wp2
        go_roundw
        case rel =>
          refine ⟨k + 1, by omega, by go_num, fun j hj e => ?_, below_drewN hF.out.1 _, hF.out.2.drewN _⟩
          rcases Nat.lt_succ_iff_lt_or_eq.1 hj with h | h
          · exact hE.out j h e
          · subst h
            rw [HY.out] at e
            exact HC.out (Option.some.inj e).symm
        case measure => simp [intOf]; omega
    · go_wp2
      go_ret
      exact ⟨by rw [Mx.firstI_none (fun j hj => hE.out j (by have := HL.out.1; omega))] <;> rfl, hF.out.1⟩

set_option maxRecDepth 100000 in
theorem contains_any (a : Option Addr) (n c : Nat) (l : List B8) (x : B8) (w : World) (hl : BL w a n l) :
    Calls Try.prog 105 #[.slice a n c, .agg #[.int .u8 x.z0, .int .u8 x.z1, .int .u8 x.z2, .int .u8 x.z3, .int .u8 x.z4, .int .u8 x.z5, .int .u8 x.z6, .int .u8 x.z7]] w fun e w' => e = .returned (.bool (decide (x ∈ l))) ∧ Below w.heap.size w w' := by
  have HL := hide hl
  clear hl
  go_enter Try.func105, Try.ntmps105
  go_wp2_with fail
  refine (index_any a n c l x _ (HL.out.later (below_alloc _ _))).mono ?_
  rintro e w1 ⟨rfl, hb⟩
  have HB := hide hb
  clear hb
  obtain ⟨r, hr⟩ : ∃ r : Int, Hid (r = Mx.firstI l x) := ⟨_, rfl⟩
  rw [← hr.out]
  go_wp2
  go_ret
  refine ⟨?_, (below_alloc _ _).trans (HB.out.mono (by simp))⟩
  rw [← Mx.firstI_nonneg, ← hr.out]
  try rfl

end Go.Proofs.Ytdhmijjphgcdmac

/-
  What is made of raw numbers: a block (BlockFrom).
-/
namespace Go.Proofs.Ytdhmijjphgcdmac
open Go.RowKit

def B8.arr (x : B8) : Array Value := #[.int .u8 x.z0, .int .u8 x.z1, .int .u8 x.z2, .int .u8 x.z3, .int .u8 x.z4, .int .u8 x.z5, .int .u8 x.z6, .int .u8 x.z7]
theorem zB_ok : zB.ok := by intro z hz; simp [Mx.bytesOf, zB] at hz; omega
/-- a block with one byte another -/
theorem B8.setAt (x : B8) (hx : x.ok) (i : Nat) (hi : i < 8) (z : Int) (h0 : 0 ≤ z) (h1 : z ≤ 255) : ∃ y : B8, y.ok ∧ x.arr.setIfInBounds i (.int .u8 z) = y.arr := by
  have e := fun t ht => hx t ht
  simp only [Mx.bytesOf, List.mem_cons, List.not_mem_nil, or_false, forall_eq_or_imp, forall_eq] at e
  obtain ⟨e0, e1, e2, e3, e4, e5, e6, e7⟩ := e
  have key : ∀ y : B8, ((0 ≤ y.z0 ∧ y.z0 ≤ 255) ∧ (0 ≤ y.z1 ∧ y.z1 ≤ 255) ∧ (0 ≤ y.z2 ∧ y.z2 ≤ 255) ∧ (0 ≤ y.z3 ∧ y.z3 ≤ 255) ∧ (0 ≤ y.z4 ∧ y.z4 ≤ 255) ∧ (0 ≤ y.z5 ∧ y.z5 ≤ 255) ∧ (0 ≤ y.z6 ∧ y.z6 ≤ 255) ∧ (0 ≤ y.z7 ∧ y.z7 ≤ 255)) → y.ok := by
    intro y hy
    unfold B8.ok
    simp only [Mx.bytesOf, List.mem_cons, List.not_mem_nil, or_false, forall_eq_or_imp, forall_eq]
    exact hy
  match i, hi with
  | 0, _ => exact ⟨{ x with z0 := z }, key _ ⟨⟨h0, h1⟩, e1, e2, e3, e4, e5, e6, e7⟩, rfl⟩
  | 1, _ => exact ⟨{ x with z1 := z }, key _ ⟨e0, ⟨h0, h1⟩, e2, e3, e4, e5, e6, e7⟩, rfl⟩
  | 2, _ => exact ⟨{ x with z2 := z }, key _ ⟨e0, e1, ⟨h0, h1⟩, e3, e4, e5, e6, e7⟩, rfl⟩
  | 3, _ => exact ⟨{ x with z3 := z }, key _ ⟨e0, e1, e2, ⟨h0, h1⟩, e4, e5, e6, e7⟩, rfl⟩
  | 4, _ => exact ⟨{ x with z4 := z }, key _ ⟨e0, e1, e2, e3, ⟨h0, h1⟩, e5, e6, e7⟩, rfl⟩
  | 5, _ => exact ⟨{ x with z5 := z }, key _ ⟨e0, e1, e2, e3, e4, ⟨h0, h1⟩, e6, e7⟩, rfl⟩
  | 6, _ => exact ⟨{ x with z6 := z }, key _ ⟨e0, e1, e2, e3, e4, e5, ⟨h0, h1⟩, e7⟩, rfl⟩
  | 7, _ => exact ⟨{ x with z7 := z }, key _ ⟨e0, e1, e2, e3, e4, e5, e6, ⟨h0, h1⟩⟩, rfl⟩
  | n + 8, h => omega

theorem bx_put8 {w : World} {g : Nat} {y : B8} {t : TypeId} (h : Bx w g y.arr t) (x : B8) : Bx (set8 w g 0 x) g x.arr t := by
  have h8 := (((((((h.set 0 (.int .u8 x.z0)).set 1 (.int .u8 x.z1)).set 2 (.int .u8 x.z2)).set 3 (.int .u8 x.z3)).set 4 (.int .u8 x.z4)).set 5 (.int .u8 x.z5)).set 6 (.int .u8 x.z6)).set 7 (.int .u8 x.z7)
  have e : ((((((((y.arr.setIfInBounds 0 (.int .u8 x.z0)).setIfInBounds 1 (.int .u8 x.z1)).setIfInBounds 2 (.int .u8 x.z2)).setIfInBounds 3 (.int .u8 x.z3)).setIfInBounds 4 (.int .u8 x.z4)).setIfInBounds 5 (.int .u8 x.z5)).setIfInBounds 6 (.int .u8 x.z6)).setIfInBounds 7 (.int .u8 x.z7)) = x.arr := by simp [B8.arr]
  rw [e] at h8
  unfold set8
  simp only [Nat.zero_add]
  exact h8

set_option maxHeartbeats 4000000 in
set_option maxRecDepth 100000 in
theorem blockFrom_any (a : Option Addr) (n c : Nat) (l : List Int) (i : Nat) (w : World) (hl : Ints w a n l) (hb : I64 l) (hn : n ≤ 1000) (hi : i ≤ 90000) :
    Calls Try.prog 27 #[.slice a n c, .int .i64 (i : Int)] w fun e w' => ∃ x : B8, x.ok ∧ e = .returned (.agg #[.int .u8 x.z0, .int .u8 x.z1, .int .u8 x.z2, .int .u8 x.z3, .int .u8 x.z4, .int .u8 x.z5, .int .u8 x.z6, .int .u8 x.z7]) ∧ Hid (Below w.heap.size w w') := by
  have HL := hide hl
  have HB := hide hb
  clear hl hb
  obtain ⟨w0, hw0⟩ : ∃ w0 : World, Hid (w0 = (w.alloc (.cells #[.int .u8 0, .int .u8 0, .int .u8 0, .int .u8 0, .int .u8 0, .int .u8 0, .int .u8 0, .int .u8 0] 50)).alloc (.cells #[.int .u8 0, .int .u8 0, .int .u8 0, .int .u8 0, .int .u8 0, .int .u8 0, .int .u8 0, .int .u8 0] 50)) := ⟨_, rfl⟩
  have R0 := hide (show Bx w0 w.heap.size zB.arr 50 by rw [hw0.out]; exact (Bx.new w _ _).alloc _)
  have K0 := hide (show Bx w0 (w.heap.size + 1) zB.arr 50 by
    rw [hw0.out]
    have h := Bx.new (w.alloc (.cells #[.int .u8 0, .int .u8 0, .int .u8 0, .int .u8 0, .int .u8 0, .int .u8 0, .int .u8 0, .int .u8 0] 50)) #[.int .u8 0, .int .u8 0, .int .u8 0, .int .u8 0, .int .u8 0, .int .u8 0, .int .u8 0, .int .u8 0] 50
    rw [World.size_alloc] at h
    exact h)
  have B0 := hide (show Below w.heap.size w w0 by rw [hw0.out]; exact (below_alloc _ _).alloc (by simp) _)
  go_enter Try.func27, Try.ntmps27
  go_wp2_with fail
  rw [← hw0.out]
  refine (raw_any a n c l i w0 (HL.out.later B0.out) HB.out hn (by omega)).mono ?_
  rintro e w1 ⟨r, hr, rfl, q, rfl⟩
  have R1 := hide (R0.out.later (below_drewN (Below.refl _ _) q) R0.out.lt)
  have K1 := hide (K0.out.later (below_drewN (Below.refl _ _) q) K0.out.lt)
  have B1 := hide (below_drewN B0.out q)
  obtain ⟨w1, hw1⟩ : ∃ w1 : World, Hid (w1 = w0.drewN q) := ⟨_, rfl⟩
  rw [← hw1.out] at R1 K1 B1 ⊢
  have kz := K1.out.frozen
  have rz := R1.out.frozen
  obtain ⟨r0, r1, r2, r3, r4, r5, r6, r7⟩ := Bx.eight (x := zB) R1.out
  obtain ⟨f0, f1, f2, f3, f4, f5, f6, f7⟩ := Bx.eight (x := zB) K1.out
  by_cases h0 : (r : Int) % 3 = 0
  · have hd0 : ((r : Int) % 3 == 0) = true := by simpa using h0
    clear h0
    go_wp2_with fail
    change bodyPost Try.prog Try.f27 _ _ _ (set8 w1 w.heap.size 0 zB)
    have R2 := hide (bx_put8 R1.out zB)
    have B2 := hide (set8_below B1.out (Nat.le_refl w.heap.size) 0 zB)
    obtain ⟨w2, hw2⟩ : ∃ w2 : World, Hid (w2 = set8 w1 w.heap.size 0 zB) := ⟨_, rfl⟩
    rw [← hw2.out] at R2 B2 ⊢
    obtain ⟨s0, s1, s2, s3, s4, s5, s6, s7⟩ := Bx.eight (x := zB) R2.out
    exact bodyPost_ret (v := .agg #[.int .u8 zB.z0, .int .u8 zB.z1, .int .u8 zB.z2, .int .u8 zB.z3, .int .u8 zB.z4, .int .u8 zB.z5, .int .u8 zB.z6, .int .u8 zB.z7]) (by simp [results, Try.results27, go_sem, s0, s1, s2, s3, s4, s5, s6, s7]) rfl ⟨zB, zB_ok, rfl, B2⟩
  · have hd0 : ((r : Int) % 3 == 0) = false := by simpa using h0
    clear h0
    have hkb : w.heap.size + 1 ≠ w.heap.size := by omega
    obtain ⟨Z, hZ⟩ : ∃ Z : Int, Hid (Z = 1 + (r : Int) / 3 % 5) := ⟨_, rfl⟩
    obtain ⟨x1, hx1, he1⟩ := zB.setAt zB_ok 0 (by omega) Z (by have := hZ.out; omega) (by have := hZ.out; omega)
    have K2 := hide (show Bx (w1.setCell ⟨w.heap.size + 1, 0, none⟩ (.int .u8 Z)) (w.heap.size + 1) x1.arr 50 by rw [← he1]; exact K1.out.set 0 _)
    have R2 := hide (R1.out.other ⟨w.heap.size + 1, 0, none⟩ (.int .u8 Z) (by show w.heap.size ≠ w.heap.size + 1; omega))
    have B2 := hide (B1.out.setCell (p := ⟨w.heap.size + 1, 0, none⟩) (by show w.heap.size ≤ w.heap.size + 1; omega) (.int .u8 Z))
    have HX1 := hide hx1
    obtain ⟨w2, hw2⟩ : ∃ w2 : World, Hid (w2 = w1.setCell ⟨w.heap.size + 1, 0, none⟩ (.int .u8 Z)) := ⟨_, rfl⟩
    rw [← hw2.out] at K2 R2 B2
    rw [hZ.out] at hw2
    clear he1 hx1
    by_cases h2 : (r : Int) % 3 = 2
    · have hd2 : ((r : Int) % 3 == 2) = true := by simpa using h2
      clear h2
      go_wp2_with fail
      rw [← hw2.out]
      clear r0 r1 r2 r3 r4 r5 r6 r7 f0 f1 f2 f3 f4 f5 f6 f7 kz rz
      go_loopw [7] (fun t wr => ∃ (k : Nat) (x : B8), t = .int .i64 (k : Int) ∧ 1 ≤ k ∧ k ≤ 8 ∧ Hid (x.ok) ∧ Hid (Bx wr (w.heap.size + 1) x.arr 50) ∧ Hid (Bx wr w.heap.size zB.arr 50) ∧ Hid (Below w.heap.size w wr)) (fun t _ => 8 - (intOf t).toNat)
      case atStart => exact ⟨1, x1, rfl, by omega, by omega, HX1, K2, R2, B2⟩
      case round =>
        obtain ⟨k, x, rfl, hk1, hk8, hx, hK, hR, hB⟩ := hrel
        by_cases hlt : (k : Int) < 8
        · go_wp2_with fail
          refine (raw_any a n c l (i + k) wr (HL.out.later hB.out) HB.out hn (by omega)).mono ?_
          rintro e w3 ⟨r3, hr3, rfl, q3, rfl⟩
          obtain ⟨Y, hY⟩ : ∃ Y : Int, Hid (Y = (r3 : Int) / 7 % 256) := ⟨_, rfl⟩
          obtain ⟨y, hy, hye⟩ := x.setAt hx.out k (by omega) Y (by have := hY.out; omega) (by have := hY.out; omega)
          have HY := hide hy
          have K3 := hide (hK.out.later (below_drewN (Below.refl _ _) q3) hK.out.lt)
          have R3 := hide (hR.out.later (below_drewN (Below.refl _ _) q3) hR.out.lt)
          have B3 := hide (below_drewN hB.out q3)
          obtain ⟨w3, hw3⟩ : ∃ w3 : World, Hid (w3 = wr.drewN q3) := ⟨_, rfl⟩
          rw [← hw3.out] at K3 R3 B3 ⊢
          have K4 := hide (show Bx (w3.setCell ⟨w.heap.size + 1, k, none⟩ (.int .u8 Y)) (w.heap.size + 1) y.arr 50 by rw [← hye]; exact K3.out.set k _)
          have R4 := hide (R3.out.other ⟨w.heap.size + 1, k, none⟩ (.int .u8 Y) (by show w.heap.size ≠ w.heap.size + 1; omega))
          have B4 := hide (B3.out.setCell (p := ⟨w.heap.size + 1, k, none⟩) (by show w.heap.size ≤ w.heap.size + 1; omega) (.int .u8 Y))
          obtain ⟨v, hv⟩ : ∃ v, w3.cell? ⟨w.heap.size + 1, k, none⟩ = some v := ⟨x.arr[k]'(by show k < 8; omega), by rw [K3.out.cell k]; exact Array.getElem?_eq_getElem _⟩
          have kz := K3.out.frozen
          obtain ⟨w4, hw4⟩ : ∃ w4 : World, Hid (w4 = w3.setCell ⟨w.heap.size + 1, k, none⟩ (.int .u8 Y)) := ⟨_, rfl⟩
          rw [← hw4.out] at K4 R4 B4
          rw [hY.out] at hw4
          clear hye hy
          go_wp2_with fail
          go_roundw
          case rel => exact ⟨k + 1, y, by go_num, by omega, by omega, HY, by rw [← hw4.out]; exact K4, by rw [← hw4.out]; exact R4, by rw [← hw4.out]; exact B4⟩
          case measure => simp [intOf]; omega
        · have HK := hide hlt
          obtain ⟨f0, f1, f2, f3, f4, f5, f6, f7⟩ := Bx.eight (x := x) hK.out
          obtain ⟨r0, r1, r2, r3, r4, r5, r6, r7⟩ := Bx.eight (x := zB) hR.out
          have rz := hR.out.frozen
          go_wp2_with fail
          change bodyPost Try.prog Try.f27 _ _ _ (set8 wr w.heap.size 0 x)
          have RF := hide (bx_put8 hR.out x)
          have BF := hide (set8_below hB.out (Nat.le_refl w.heap.size) 0 x)
          obtain ⟨wf, hwf⟩ : ∃ wf : World, Hid (wf = set8 wr w.heap.size 0 x) := ⟨_, rfl⟩
          rw [← hwf.out] at RF BF ⊢
          obtain ⟨s0, s1, s2, s3, s4, s5, s6, s7⟩ := Bx.eight (x := x) RF.out
          exact bodyPost_ret (v := .agg #[.int .u8 x.z0, .int .u8 x.z1, .int .u8 x.z2, .int .u8 x.z3, .int .u8 x.z4, .int .u8 x.z5, .int .u8 x.z6, .int .u8 x.z7]) (by simp [results, Try.results27, go_sem, s0, s1, s2, s3, s4, s5, s6, s7]) rfl ⟨x, hx.out, rfl, BF⟩
    · have hd2 : ((r : Int) % 3 == 2) = false := by simpa using h2
      clear h2
      go_upto_region 11 with fail
      rw [← hw2.out]
      clear r0 r1 r2 r3 r4 r5 r6 r7 f0 f1 f2 f3 f4 f5 f6 f7 kz rz
      obtain ⟨f0, f1, f2, f3, f4, f5, f6, f7⟩ := Bx.eight (x := x1) K2.out
      obtain ⟨r0, r1, r2, r3, r4, r5, r6, r7⟩ := Bx.eight (x := zB) R2.out
      have rz := R2.out.frozen
      go_wp2_with fail
      change bodyPost Try.prog Try.f27 _ _ _ (set8 w2 w.heap.size 0 x1)
      have RF := hide (bx_put8 R2.out x1)
      have BF := hide (set8_below B2.out (Nat.le_refl w.heap.size) 0 x1)
      obtain ⟨wf, hwf⟩ : ∃ wf : World, Hid (wf = set8 w2 w.heap.size 0 x1) := ⟨_, rfl⟩
      rw [← hwf.out] at RF BF ⊢
      obtain ⟨s0, s1, s2, s3, s4, s5, s6, s7⟩ := Bx.eight (x := x1) RF.out
      exact bodyPost_ret (v := .agg #[.int .u8 x1.z0, .int .u8 x1.z1, .int .u8 x1.z2, .int .u8 x1.z3, .int .u8 x1.z4, .int .u8 x1.z5, .int .u8 x1.z6, .int .u8 x1.z7]) (by simp [results, Try.results27, go_sem, s0, s1, s2, s3, s4, s5, s6, s7]) rfl ⟨x1, HX1.out, rfl, BF⟩

end Go.Proofs.Ytdhmijjphgcdmac

/-
  A block touched: what comes of it; one block more in memory of its own.
-/
namespace Go.Proofs.Ytdhmijjphgcdmac
open Go.RowKit

/-- a block touched -/
def Mx.touched (l : List B8) (b : B8) : List B8 := (b :: l.filter (fun y => decide (¬ y = b))).take 8
theorem Mx.touched_len (l : List B8) (b : B8) : (Mx.touched l b).length ≤ 8 := by unfold Mx.touched; rw [List.length_take]; omega
theorem Mx.touched_pos (l : List B8) (b : B8) : 0 < (Mx.touched l b).length := by unfold Mx.touched; simp
theorem Mx.touched_snoc {l : List B8} {k : Nat} {y b : B8} (h : l[k]? = some y) (hy : ¬ y = b) (hlt : (Mx.touched (l.take k) b).length < 8) : Mx.touched (l.take (k + 1)) b = Mx.touched (l.take k) b ++ [y] := by
  have key : ∀ xs : List B8, xs.length < 8 → (xs ++ [y]).take 8 = xs.take 8 ++ [y] := fun xs h => by rw [List.take_of_length_le (by simp; omega), List.take_of_length_le (by omega)]
  unfold Mx.touched at hlt ⊢
  rw [List.length_take] at hlt
  have hf : [y].filter (fun y => decide (¬ y = b)) = [y] := by simp [hy]
  rw [getElem_take_succ _ _ _ h, List.filter_append, hf, ← List.cons_append]
  exact key _ (by omega)
theorem Mx.touched_full {l : List B8} {k : Nat} {y b : B8} (h : l[k]? = some y) (hge : ¬ (Mx.touched (l.take k) b).length < 8) : Mx.touched (l.take (k + 1)) b = Mx.touched (l.take k) b := by
  unfold Mx.touched at hge ⊢
  rw [List.length_take] at hge
  rw [getElem_take_succ _ _ _ h, List.filter_append, ← List.cons_append, List.take_append]
  rw [show 8 - (b :: List.filter (fun y => decide (¬ y = b)) (l.take k)).length = 0 by omega]
  simp
theorem Mx.touched_skip {l : List B8} {k : Nat} {y b : B8} (h : l[k]? = some y) (hy : y = b) : Mx.touched (l.take (k + 1)) b = Mx.touched (l.take k) b := by
  unfold Mx.touched
  rw [getElem_take_succ _ _ _ h, List.filter_append]
  have hf : [y].filter (fun y => decide (¬ y = b)) = [] := by simp [hy]
  rw [hf, List.append_nil]
theorem Mx.touched_all {l : List B8} {k : Nat} {b : B8} (hk : l.length ≤ k) : Mx.touched (l.take k) b = Mx.touched l b := by rw [List.take_of_length_le hk]
/-- full already: nothing more comes -/
theorem Mx.touched_stop {l : List B8} {k : Nat} {b : B8} (hge : ¬ (Mx.touched (l.take k) b).length < 8) : Mx.touched l b = Mx.touched (l.take k) b := by
  have hs : l = l.take k ++ l.drop k := (List.take_append_drop k l).symm
  unfold Mx.touched at hge ⊢
  rw [List.length_take] at hge
  conv => lhs; rw [hs]
  rw [List.filter_append, ← List.cons_append, List.take_append]
  rw [show 8 - (b :: List.filter (fun y => decide (¬ y = b)) (l.take k)).length = 0 by omega]
  simp

theorem cell_newsB (w : World) (p : B8) (t : TypeId) :
    ∀ j u, (flatB [p])[j]? = some u → (w.alloc (.cells #[.int .u8 p.z0, .int .u8 p.z1, .int .u8 p.z2, .int .u8 p.z3, .int .u8 p.z4, .int .u8 p.z5, .int .u8 p.z6, .int .u8 p.z7] t)).cell? ((⟨w.heap.size, 0, none⟩ : Addr).add j) = some u := by
  intro j u hj
  have hadd : (⟨w.heap.size, 0, none⟩ : Addr).add j = ⟨w.heap.size, j, none⟩ := by unfold Addr.add; split <;> simp_all
  rw [hadd, World.cell?_alloc_new]
  simpa [flatB, B8.cs] using hj

/-- one block more -/
theorem wpList_append_blk {w : World} {ops : Array Oper} {rest : List Oper} {o : Oper} {a : Act} {Q : Exit → Act → World → Prop} (hgd : o.guard = none) (s x : Operand)
    (ho : o.op = .call { callee := .builtin .append, args := #[s, x], argTypes := #[23, 23] }) (base : Nat) (l : List B8) (hown : OwnBL w base (a.eval s) l)
    (p : B8) (hx : a.eval x = .slice (some ⟨w.heap.size, 0, none⟩) 1 1) (h63 : l.length ≤ 1000000) (hbase : base ≤ w.heap.size)
    (h : ∀ g c w', base ≤ g → l.length + 1 ≤ c → OwnBL w' base (.slice (some ⟨g, 0, none⟩) (l.length + 1) c) (l ++ [p]) → w.grownBy w' (a.eval s).ownBlock → wpList Try.prog ops Q rest (a.put o.dst (.slice (some ⟨g, 0, none⟩) (l.length + 1) c)) w') :
    wpList Try.prog ops Q (o :: rest) a (w.alloc (.cells #[.int .u8 p.z0, .int .u8 p.z1, .int .u8 p.z2, .int .u8 p.z3, .int .u8 p.z4, .int .u8 p.z5, .int .u8 p.z6, .int .u8 p.z7] 50)) := by
  obtain ⟨i0, hi, hz0, hz1, hz2⟩ := info_parts Try.info50
  refine wpList_append_own _ hgd s x 23 ho base 50 i0 _ 8 8 Try.underlying23 hi hz0 hz1 hz2 rfl (by decide) (a.eval s) l.length (flatB l) rfl (World.ownsRow.alloc hown _) ⟨w.heap.size, 0, none⟩ 1 1 (flatB [p]) hx (by simp [flatB, B8.cs]) (cell_newsB w p 50) flatB_one (by unfold maxLen; omega) (by omega) (by simp; omega) ?_
  intro v' w' hown' hg _
  have hI : OwnBL w' base v' (l ++ [p]) := by
    unfold OwnBL
    rw [List.length_append, flatB, List.flatMap_append]
    exact hown'
  have hg' : w.grownBy w' (a.eval s).ownBlock := ⟨hg.os, hg.tape, hg.output, by have := hg.size; simp at this; omega, fun k hk hne => (hg.block k (by simp; omega) hne).trans (Below.heap_alloc w _ k hk)⟩
  rcases hown'.2 with ⟨_, hz⟩ | ⟨g, cap, cur, rfl, hbg, _, hcap, _⟩
  · simp at hz
  · exact h _ _ w' hbg (by simpa using hcap) hI hg'

/-- one block, alone, in memory of its own -/
theorem OwnBL.one (w : World) (base : Nat) (hb : base ≤ w.heap.size) (x : B8) : OwnBL (w.alloc (.cells #[.int .u8 x.z0, .int .u8 x.z1, .int .u8 x.z2, .int .u8 x.z3, .int .u8 x.z4, .int .u8 x.z5, .int .u8 x.z6, .int .u8 x.z7] 50)) base (.slice (some ⟨w.heap.size, 0, none⟩) 1 1) [x] := by
  unfold OwnBL
  refine ⟨by simp [flatB, B8.cs], .inr ⟨w.heap.size, 1, _, rfl, hb, heap_alloc_new w _, Nat.le_refl _, by unfold maxLen; omega, by simp, ?_⟩⟩
  simp [flatB, B8.cs]

theorem OwnBL.lower {w : World} {base base' : Nat} {v : Value} {l : List B8} (h : OwnBL w base v l) (hb : base' ≤ base) : OwnBL w base' v l := by
  obtain ⟨h1, h2⟩ := h
  refine ⟨h1, ?_⟩
  rcases h2 with h2 | ⟨g, cap, cur, e, hg, hr⟩
  · exact .inl h2
  · exact .inr ⟨g, cap, cur, e, by omega, hr⟩
theorem OwnBL.asBL {w : World} {base n c : Nat} {a : Option Addr} {l : List B8} (h : OwnBL w base (.slice a n c) l) : BL w a n l := by
  obtain ⟨a', c', hv, hb, _⟩ := h.bl
  simp only [Value.slice.injEq] at hv
  obtain ⟨rfl, rfl, rfl⟩ := hv
  exact hb

/-- what Touch and Touched hold, round by round: the block's box, and the list so far -/
def Tch (w : World) (base gx : Nat) (x : B8) (t : List B8) (v : Value) (wr : World) : Prop :=
  Below w.heap.size w wr ∧ Bx wr gx #[.int .u8 x.z0, .int .u8 x.z1, .int .u8 x.z2, .int .u8 x.z3, .int .u8 x.z4, .int .u8 x.z5, .int .u8 x.z6, .int .u8 x.z7] 50 ∧ OwnBL wr base v t ∧ base ≤ wr.heap.size
theorem Tch.alloc {w wr : World} {base gx : Nat} {x : B8} {t : List B8} {v : Value} (h : Tch w base gx x t v wr) (o : Obj) : Tch w base gx x t v (wr.alloc o) :=
  ⟨h.1.alloc h.1.size _, h.2.1.alloc _, World.ownsRow.alloc h.2.2.1 _, by have := h.2.2.2; simp; omega⟩
theorem Tch.drewN {w wr : World} {base gx : Nat} {x : B8} {t : List B8} {v : Value} (h : Tch w base gx x t v wr) (n : Nat) : Tch w base gx x t v (wr.drewN n) :=
  ⟨below_drewN h.1 _, h.2.1.drewN _, by
    obtain ⟨h1, h2⟩ := h.2.2.1
    exact ⟨h1, h2⟩, h.2.2.2⟩
theorem Tch.grown {w wr w' : World} {base gx : Nat} {x : B8} {t t' : List B8} {v v' : Value} (h : Tch w base gx x t v wr) (hgx : gx < base) (hwb : w.heap.size ≤ base) (hg : wr.grownBy w' v.ownBlock) (ho : OwnBL w' base v' t') : Tch w base gx x t' v' w' := by
  have hlt : ∀ k, v.ownBlock = some k → base ≤ k := fun k hk => (World.ownsRow.lt h.2.2.1 k hk).1
  refine ⟨h.1.grown hg h.1.size (fun k hk => Nat.le_trans hwb (hlt k hk)), (hg.block gx h.2.1.lt (fun e => ?_)).trans h.2.1, ho, ?_⟩
  · have := hlt gx e.symm
    omega
  · have := hg.size
    have := h.2.2.2
    omega

end Go.Proofs.Ytdhmijjphgcdmac

/-
  What is made of raw numbers: blocks (BlocksFrom).
-/
namespace Go.Proofs.Ytdhmijjphgcdmac
open Go.RowKit

set_option maxHeartbeats 4000000 in
set_option maxRecDepth 100000 in
theorem blocksFrom_any (a : Option Addr) (n c : Nat) (l : List Int) (i m : Nat) (w : World) (hl : Ints w a n l) (hb : I64 l) (hn : n ≤ 1000) (hi : i ≤ 10000) (hm : m ≤ 1000) :
    Calls Try.prog 23 #[.slice a n c, .int .i64 (i : Int), .int .i64 (m : Int)] w fun e w' => ∃ (v : Value) (bs : List B8), e = .returned v ∧ bs.length = m ∧ (∀ x ∈ bs, x.ok) ∧ Hid (OwnBL w' w.heap.size v bs) ∧ Hid (Below w.heap.size w w') := by
  have HL := hide hl
  have HB := hide hb
  clear hl hb
  go_enter Try.func23, Try.ntmps23
  go_wp2_with fail
  go_loopw [7, 8] (fun v t wr => ∃ (k : Nat) (bs : List B8), t = .int .i64 (k : Int) ∧ k ≤ m ∧ Hid (bs.length = k) ∧ Hid (∀ x ∈ bs, x.ok) ∧ Hid (OwnBL wr w.heap.size v bs) ∧ Hid (Below w.heap.size w wr)) (fun _ t _ => m - (intOf t).toNat)
  case atStart => exact ⟨0, [], rfl, Nat.zero_le _, rfl, by unfold Hid; simp, World.ownsRow_nil w w.heap.size 50 8, Below.refl _ _⟩
  case round =>
    obtain ⟨k, bs, rfl, hk, hbl, hok, hO, hB⟩ := hrel
    by_cases hlt : (k : Int) < m
    · go_wp2_with fail
      refine (blockFrom_any a n c l (i + 9 * k) wr (HL.out.later hB.out) HB.out hn (by omega)).mono ?_
      rintro e w1 ⟨x, hx, rfl, hb1⟩
      have HX := hide hx
      have O1 := hide (show OwnBL w1 w.heap.size _ bs from rowKept hO.out hb1.out)
      have B1 := hide (hB.out.trans (hb1.out.mono hB.out.size))
      have S1 := hide B1.out.size
      clear hx hb1
      go_wp2_with (at_builtin; refine wpList_append_blk rfl _ _ rfl w.heap.size bs ?o1 x ?o2 ?o3 ?o4 ?_)
      case o1 => exact O1.out
      case o2 => rfl
      case o3 => have := hbl.out; omega
      case o4 => exact S1.out
      intro g c2 w2 hg hc2 hown2 hgr2
      have O2 := hide hown2
      have B2 := hide (B1.out.grown hgr2 S1.out (fun k hk => (World.ownsRow.lt O1.out k hk).1))
      obtain ⟨N, hN⟩ : ∃ N : Nat, Hid (N = bs.length) := ⟨_, rfl⟩
      rw [← hN.out] at O2 ⊢
      clear hown2 hgr2 hg hc2
      go_wp2_with fail
      go_roundw
      case rel => exact ⟨k + 1, bs ++ [x], by go_num, by omega, by unfold Hid; rw [List.length_append, hbl.out]; rfl, fun y hy => (List.mem_append.1 hy).elim (hok.out y) (fun h => by simp at h; rw [h]; exact HX.out), O2, B2⟩
      case measure => simp [intOf]; omega
    · go_wp2_with fail
      go_ret
      exact ⟨_, rfl, bs, by have := hbl.out; omega, hok.out, hO, hB⟩
end Go.Proofs.Ytdhmijjphgcdmac
