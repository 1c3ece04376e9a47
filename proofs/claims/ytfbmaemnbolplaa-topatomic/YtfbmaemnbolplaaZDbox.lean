/-
  Boxes of memory, copies as a region's calls hand them on, a disk that is being made.
-/
import Derived.Deep.RegionHeld
import Derived.Deep.CutRange
import Derived.Deep.DeepCutAuto
import Derived.Deep.Onto
import Derived.Test.YtfbmaemnbolplaaZSums
import Derived.Test.YtfbmaemnbolplaaZIs
import Derived.Test.YtfbmaemnbolplaaZIter
import Derived.Test.YtfbmaemnbolplaaZDclone

namespace Go.Proofs.Ytfbmaemnbolplaa
open Go.RowKit

/-- a block of memory, whole -/
def Bx (w : World) (g : Nat) (cs : Array Value) (t : TypeId) : Prop := w.heap[g]? = some (.cells cs t (0, 0))
theorem Bx.new (w : World) (cs : Array Value) (t : TypeId) : Bx (w.alloc (.cells cs t)) w.heap.size cs t := heap_alloc_new w _
theorem Bx.newD (w : World) (cs : Array Value) (t : TypeId) : Bx (w.alloc (.cells cs t)).drew w.heap.size cs t := heap_alloc_new w _
theorem Bx.lt {w : World} {g : Nat} {cs : Array Value} {t : TypeId} (h : Bx w g cs t) : g < w.heap.size := (Array.getElem?_eq_some_iff.1 h).1
theorem Bx.alloc {w : World} {g : Nat} {cs : Array Value} {t : TypeId} (h : Bx w g cs t) (o : Obj) : Bx (w.alloc o) g cs t := (Below.heap_alloc w o g h.lt).trans h
theorem Bx.later {w w' : World} {g B : Nat} {cs : Array Value} {t : TypeId} (h : Bx w g cs t) (hb : Below B w w') (hg : g < B) : Bx w' g cs t := (hb.block g hg).trans h
theorem Bx.cell {w : World} {g : Nat} {cs : Array Value} {t : TypeId} (h : Bx w g cs t) (j : Nat) : w.cell? ⟨g, j, none⟩ = cs[j]? := cell_of_cells h j
theorem Bx.frozen {w : World} {g : Nat} {cs : Array Value} {t : TypeId} (h : Bx w g cs t) (o : Nat) : w.frozen? ⟨g, o, none⟩ = false := by unfold World.frozen?; rw [h]; simp
theorem Bx.set {w : World} {g : Nat} {cs : Array Value} {t : TypeId} (h : Bx w g cs t) (j : Nat) (v : Value) : Bx (w.setCell ⟨g, j, none⟩ v) g (cs.setIfInBounds j v) t := by
  unfold Bx at *
  simp [World.setCell, Array.getElem?_modify, h]
theorem Bx.other {w : World} {g : Nat} {cs : Array Value} {t : TypeId} (h : Bx w g cs t) (p : Addr) (v : Value) (hp : g ≠ p.block) : Bx (w.setCell p v) g cs t := (Below.heap_setCell w p v g hp).trans h
theorem Bx.three {w : World} {g : Nat} {s0 s1 s2 : Value} {t : TypeId} (h : Bx w g #[s0, s1, s2] t) : w.cell? ⟨g, 0, none⟩ = some s0 ∧ w.cell? ⟨g, 1, none⟩ = some s1 ∧ w.cell? ⟨g, 2, none⟩ = some s2 := ⟨h.cell 0, h.cell 1, h.cell 2⟩
theorem Bx.eight {w : World} {g : Nat} {x : B8} {t : TypeId} (h : Bx w g #[.int .u8 x.z0, .int .u8 x.z1, .int .u8 x.z2, .int .u8 x.z3, .int .u8 x.z4, .int .u8 x.z5, .int .u8 x.z6, .int .u8 x.z7] t) :
    w.cell? ⟨g, 0, none⟩ = some (.int .u8 x.z0) ∧ w.cell? ⟨g, 1, none⟩ = some (.int .u8 x.z1) ∧ w.cell? ⟨g, 2, none⟩ = some (.int .u8 x.z2) ∧ w.cell? ⟨g, 3, none⟩ = some (.int .u8 x.z3) ∧
    w.cell? ⟨g, 4, none⟩ = some (.int .u8 x.z4) ∧ w.cell? ⟨g, 5, none⟩ = some (.int .u8 x.z5) ∧ w.cell? ⟨g, 6, none⟩ = some (.int .u8 x.z6) ∧ w.cell? ⟨g, 7, none⟩ = some (.int .u8 x.z7) :=
  ⟨h.cell 0, h.cell 1, h.cell 2, h.cell 3, h.cell 4, h.cell 5, h.cell 6, h.cell 7⟩

/-- what lies below is as it was: as rules for the walk -/
theorem Below.keeps {W w' : World} (h : Below W.heap.size W w') : (∀ k j, k < W.heap.size → w'.cell? ⟨k, j, none⟩ = W.cell? ⟨k, j, none⟩) ∧ (∀ k j, k < W.heap.size → w'.frozen? ⟨k, j, none⟩ = W.frozen? ⟨k, j, none⟩) ∧ ∀ k, k < W.heap.size → k < w'.heap.size :=
  ⟨fun k j hk => h.cell (p := ⟨k, j, none⟩) hk, fun k j hk => by unfold World.frozen?; rw [show w'.heap[k]? = W.heap[k]? from h.block k hk], fun k hk => Nat.lt_of_lt_of_le hk h.size⟩

/-- what a call hands on to the rest of a region: all that was there is as it was; the disk's box, and the box that is being made -/
def Past (w1 w w' : World) : Prop := Below w1.heap.size w1 w' ∧ Below w.heap.size w w'
def DC (w : World) (g : Nat) (s0 s1 s2 : Value) : Prop := w.cell? ⟨g, 0, none⟩ = some s0 ∧ w.cell? ⟨g, 1, none⟩ = some s1 ∧ w.cell? ⟨g, 2, none⟩ = some s2 ∧ g < w.heap.size ∧ ∀ o, w.frozen? ⟨g, o, none⟩ = false
theorem Bx.dc {w : World} {g : Nat} {s0 s1 s2 : Value} {t : TypeId} (h : Bx w g #[s0, s1, s2] t) : DC w g s0 s1 s2 := ⟨h.cell 0, h.cell 1, h.cell 2, h.lt, h.frozen⟩

/-- the disk's box lies, and all that was there -/
abbrev Held (w1 : World) (g : Nat) (s0 s1 s2 : Value) (w' : World) : Prop := w'.cell? ⟨g, 0, none⟩ = some s0 ∧ w'.cell? ⟨g, 1, none⟩ = some s1 ∧ w'.cell? ⟨g, 2, none⟩ = some s2 ∧ Below w1.heap.size w1 w'
theorem Held.of {w1 w' : World} {g : Nat} {s0 s1 s2 : Value} {t : TypeId} (hd : Bx w1 g #[s0, s1, s2] t) (h : Below w1.heap.size w1 w') : Held w1 g s0 s1 s2 w' := by
  obtain ⟨h0, h1, h2⟩ := (hd.later h hd.lt).three
  exact ⟨h0, h1, h2, h⟩
theorem Held.alloc {w1 w' : World} {g : Nat} {s0 s1 s2 : Value} {t : TypeId} (hd : Bx w1 g #[s0, s1, s2] t) (h : Held w1 g s0 s1 s2 w') (o : Obj) : Held w1 g s0 s1 s2 (w'.alloc o) := Held.of hd (h.2.2.2.alloc h.2.2.2.size o)
theorem Held.drew {w1 : World} {g : Nat} {s0 s1 s2 : Value} {t : TypeId} (hd : Bx w1 g #[s0, s1, s2] t) : Held w1 g s0 s1 s2 w1.drew := Held.of hd (Below.refl _ _).drew
theorem Held.set {w1 w' : World} {g : Nat} {s0 s1 s2 : Value} {t : TypeId} (hd : Bx w1 g #[s0, s1, s2] t) (h : Held w1 g s0 s1 s2 w') (p : Addr) (hp : w1.heap.size ≤ p.block) (v : Value) : Held w1 g s0 s1 s2 (w'.setCell p v) := Held.of hd (h.2.2.2.setCell hp v)

theorem cloneB_at {w1 : World} {g : Nat} {s0 s1 s2 : Value} {t : TypeId} (a : Option Addr) (n c : Nat) (l : List B8) (w : World) (hl : BL w1 a n l) (hn : n ≤ 1000000) (hd : Bx w1 g #[s0, s1, s2] t) (hb : Below w1.heap.size w1 w) :
    Calls Try.prog 39 #[.slice a n c] w fun e w' => ∃ a' c', e = .returned (.slice a' n c') ∧ Hid (OwnBL w' w.heap.size (.slice a' n c') l) ∧ Hid (Past w1 w w') ∧ DC w' g s0 s1 s2 := by
  refine (cloneB_any a n c l w (hl.later hb) hn).mono ?_
  rintro e w' ⟨v, rfl, ho, hb'⟩
  obtain ⟨a', c', hv, _⟩ := ownsRow_rowR ho
  rw [hl.1] at hv
  subst hv
  have h2 := hb.trans (hb'.mono hb.size)
  exact ⟨a', c', rfl, ho, ⟨h2, hb'⟩, (hd.later h2 hd.lt).dc⟩
theorem cloneB_at2 {w1 : World} {g g' : Nat} {s0 s1 s2 s0' s1' s2' : Value} {t t' : TypeId} (a : Option Addr) (n c : Nat) (l : List B8) (w : World) (hl : BL w1 a n l) (hn : n ≤ 1000000) (hd : Bx w1 g #[s0, s1, s2] t) (hx : Bx w g' #[s0', s1', s2'] t') (hge : w1.heap.size ≤ g') (hb : Below w1.heap.size w1 w) :
    Calls Try.prog 39 #[.slice a n c] w fun e w' => ∃ a' c', e = .returned (.slice a' n c') ∧ Hid (OwnBL w' w.heap.size (.slice a' n c') l) ∧ Hid (Past w1 w w') ∧ DC w' g s0 s1 s2 ∧ Hid (Bx w' g' #[s0', s1', s2'] t') ∧ w1.heap.size ≤ g' ∧ DC w' g' s0' s1' s2' := by
  refine (cloneB_at a n c l w hl hn hd hb).mono ?_
  rintro e w' ⟨a', c', rfl, ho, hp, hdc⟩
  have h := hx.later hp.2 hx.lt
  exact ⟨a', c', rfl, ho, hp, hdc, h, hge, h.dc⟩

theorem cloneP_at {w1 : World} {g : Nat} {s0 s1 s2 : Value} {t : TypeId} (a : Option Addr) (n c : Nat) (l : List Pt) (w : World) (hl : PL w1 a n l) (hn : n ≤ 1000000) (hd : Bx w1 g #[s0, s1, s2] t) (hb : Below w1.heap.size w1 w) :
    Calls Try.prog 46 #[.slice a n c] w fun e w' => ∃ a' c', e = .returned (.slice a' n c') ∧ Hid (OwnPL w' w.heap.size (.slice a' n c') l) ∧ Hid (Past w1 w w') ∧ DC w' g s0 s1 s2 := by
  refine (cloneP_any a n c l w (hl.later hb) hn).mono ?_
  rintro e w' ⟨v, rfl, ho, hb'⟩
  obtain ⟨a', c', hv, _⟩ := ownsRow_rowR ho
  rw [hl.1] at hv
  subst hv
  have h2 := hb.trans (hb'.mono hb.size)
  exact ⟨a', c', rfl, ho, ⟨h2, hb'⟩, (hd.later h2 hd.lt).dc⟩
theorem cloneP_at2 {w1 : World} {g g' : Nat} {s0 s1 s2 s0' s1' s2' : Value} {t t' : TypeId} (a : Option Addr) (n c : Nat) (l : List Pt) (w : World) (hl : PL w1 a n l) (hn : n ≤ 1000000) (hd : Bx w1 g #[s0, s1, s2] t) (hx : Bx w g' #[s0', s1', s2'] t') (hge : w1.heap.size ≤ g') (hb : Below w1.heap.size w1 w) :
    Calls Try.prog 46 #[.slice a n c] w fun e w' => ∃ a' c', e = .returned (.slice a' n c') ∧ Hid (OwnPL w' w.heap.size (.slice a' n c') l) ∧ Hid (Past w1 w w') ∧ DC w' g s0 s1 s2 ∧ Hid (Bx w' g' #[s0', s1', s2'] t') ∧ w1.heap.size ≤ g' ∧ DC w' g' s0' s1' s2' := by
  refine (cloneP_at a n c l w hl hn hd hb).mono ?_
  rintro e w' ⟨a', c', rfl, ho, hp, hdc⟩
  have h := hx.later hp.2 hx.lt
  exact ⟨a', c', rfl, ho, hp, hdc, h, hge, h.dc⟩

theorem cell_newsP (w : World) (p : Pt) (t : TypeId) :
    ∀ j u, (flatP [p])[j]? = some u → (w.alloc (.cells #[.int .i64 p.at_, .int .u8 p.d.z0, .int .u8 p.d.z1, .int .u8 p.d.z2, .int .u8 p.d.z3, .int .u8 p.d.z4, .int .u8 p.d.z5, .int .u8 p.d.z6, .int .u8 p.d.z7] t)).cell? ((⟨w.heap.size, 0, none⟩ : Addr).add j) = some u := by
  intro j u hj
  have hadd : (⟨w.heap.size, 0, none⟩ : Addr).add j = ⟨w.heap.size, j, none⟩ := by unfold Addr.add; split <;> simp_all
  rw [hadd, World.cell?_alloc_new]
  simpa [flatP, Pt.cs] using hj

/-- one put more -/
theorem wpList_append_put {w : World} {ops : Array Oper} {rest : List Oper} {o : Oper} {a : Act} {Q : Exit → Act → World → Prop} (hgd : o.guard = none) (s x : Operand)
    (ho : o.op = .call { callee := .builtin .append, args := #[s, x], argTypes := #[22, 22] }) (base : Nat) (l : List Pt) (hown : OwnPL w base (a.eval s) l)
    (p : Pt) (hx : a.eval x = .slice (some ⟨w.heap.size, 0, none⟩) 1 1) (h63 : l.length ≤ 1000000) (hbase : base ≤ w.heap.size)
    (h : ∀ ad c w', OwnPL w' base (.slice (some ad) (l.length + 1) c) (l ++ [p]) → w.grownBy w' (a.eval s).ownBlock → wpList Try.prog ops Q rest (a.put o.dst (.slice (some ad) (l.length + 1) c)) w') :
    wpList Try.prog ops Q (o :: rest) a (w.alloc (.cells #[.int .i64 p.at_, .int .u8 p.d.z0, .int .u8 p.d.z1, .int .u8 p.d.z2, .int .u8 p.d.z3, .int .u8 p.d.z4, .int .u8 p.d.z5, .int .u8 p.d.z6, .int .u8 p.d.z7] 40)) := by
  obtain ⟨i0, hi, hz0, hz1, hz2⟩ := info_parts Try.info40
  refine wpList_append_own _ hgd s x 22 ho base 40 i0 _ 9 16 Try.underlying22 hi hz0 hz1 hz2 rfl (by decide) (a.eval s) l.length (flatP l) rfl (World.ownsRow.alloc hown _) ⟨w.heap.size, 0, none⟩ 1 1 (flatP [p]) hx (by simp [flatP, Pt.cs]) (cell_newsP w p 40) flatP_one (by unfold maxLen; omega) (by omega) (by simp; omega) ?_
  intro v' w' hown' hg _
  have hI : OwnPL w' base v' (l ++ [p]) := by
    unfold OwnPL
    rw [List.length_append, flatP, List.flatMap_append]
    exact hown'
  have hg' : w.grownBy w' (a.eval s).ownBlock := ⟨hg.os, hg.tape, hg.output, by have := hg.size; simp at this; omega, fun k hk hne => (hg.block k (by simp; omega) hne).trans (Below.heap_alloc w _ k hk)⟩
  rcases hown'.2 with ⟨_, hz⟩ | ⟨g, cap, cur, rfl, hbg, _⟩
  · simp at hz
  · exact h _ _ w' hI hg'

theorem ownsRow_other {w : World} {base e size : Nat} {v : Value} {n : Nat} {xs : List Value} (h : w.ownsRow base e size v n xs) (p : Addr) (u : Value) (hne : v.ownBlock ≠ some p.block) : (w.setCell p u).ownsRow base e size v n xs := by
  refine ⟨h.1, ?_⟩
  rcases h.2 with h | ⟨g, cap, cur, hv, hb, hh, rest⟩
  · exact .inl h
  · exact .inr ⟨g, cap, cur, hv, hb, (Below.heap_setCell w p u g (fun e => hne (by rw [hv]; exact congrArg some e))).trans hh, rest⟩

theorem own_ne_bx {w : World} {base e size g : Nat} {v : Value} {n : Nat} {xs : List Value} {cs : Array Value} {t : TypeId} (h : w.ownsRow base e size v n xs) (hb : Bx w g cs t) (hne : e ≠ t) : v.ownBlock ≠ some g := by
  rcases h.2 with ⟨hv, _⟩ | ⟨g', cap, cur, hv, _, hh, _⟩
  · rw [hv]
    simp [Value.ownBlock]
  · rw [hv]
    intro e'
    have e2 : g' = g := Option.some.inj e'
    subst e2
    rw [hb] at hh
    cases hh
    exact hne rfl

/-- a disk that is being made: its box, its rows -/
def Made (w1 wf : World) (gn : Nat) (v1 v2 s2 : Value) (ls : List B8) (ps : List Pt) : Prop :=
  Bx wf gn #[v1, v2, s2] 29 ∧ OwnBL wf w1.heap.size v1 ls ∧ OwnPL wf w1.heap.size v2 ps ∧ Below w1.heap.size w1 wf ∧ w1.heap.size ≤ gn ∧ v1.ownBlock ≠ some gn ∧ v2.ownBlock ≠ some gn ∧ ∀ g, v1.ownBlock = some g → v2.ownBlock ≠ some g

theorem made_set {w1 wX : World} {gn : Nat} {v1 v2 s2 z0 z1 z2 : Value} {ls : List B8} {ps : List Pt} (hx : Bx wX gn #[z0, z1, z2] 29) (h1 : OwnBL wX w1.heap.size v1 ls) (h2 : OwnPL wX w1.heap.size v2 ps) (hb : Below w1.heap.size w1 wX) (hge : w1.heap.size ≤ gn)
    (n1 : v1.ownBlock ≠ some gn) (n2 : v2.ownBlock ≠ some gn) (d : ∀ g, v1.ownBlock = some g → v2.ownBlock ≠ some g) :
    Made w1 (((wX.setCell ⟨gn, 0, none⟩ v1).setCell ⟨gn, 1, none⟩ v2).setCell ⟨gn, 2, none⟩ s2) gn v1 v2 s2 ls ps :=
  ⟨((hx.set 0 v1).set 1 v2).set 2 s2, ownsRow_other (ownsRow_other (ownsRow_other h1 _ _ n1) _ _ n1) _ _ n1, ownsRow_other (ownsRow_other (ownsRow_other h2 _ _ n2) _ _ n2) _ _ n2,
    ((hb.setCell (p := ⟨gn, 0, none⟩) hge v1).setCell (p := ⟨gn, 1, none⟩) hge v2).setCell (p := ⟨gn, 2, none⟩) hge s2, hge, n1, n2, d⟩

theorem made1 {w1 wB wX : World} {v1 v2 s2 : Value} {ls : List B8} {ps : List Pt} {W : World} (hW : w1.heap.size ≤ W.heap.size) (hoB : OwnBL wB W.heap.size v1 ls) (hoP : OwnPL wX wB.heap.size v2 ps) (hbP : Past w1 wB wX) (hbB : Past w1 W wB) :
    Made w1 (wX.alloc (.cells #[v1, v2, s2] 29)) wX.heap.size v1 v2 s2 ls ps := by
  have b1 := World.ownsRow.lt hoB
  have b2 := World.ownsRow.lt hoP
  have e1 := hbP.2.size
  have e2 := hbB.1.size
  refine ⟨Bx.new _ _ _, World.ownsRow.alloc (rowKept (World.ownsRow.mono hoB hW) hbP.2) _, World.ownsRow.alloc (World.ownsRow.mono hoP e2) _, hbP.1.alloc hbP.1.size _, hbP.1.size, fun e => ?_, fun e => ?_, fun g e1 e2 => ?_⟩
  · have := (b1 _ e).2; omega
  · have := (b2 _ e).2; omega
  · have := (b1 _ e1).2; have := (b2 _ e2).1; omega

theorem made2 {w1 wB wX : World} {v1 v2 s2 z0 z1 z2 : Value} {ls : List B8} {ps : List Pt} {W : World} (hW : w1.heap.size ≤ W.heap.size) (hoB : OwnBL wB W.heap.size v1 ls) (hbB : Past w1 W wB) (hoP : OwnPL wX (wB.alloc (.cells #[z0, z1, z2] 29)).heap.size v2 ps) (hbP : Past w1 (wB.alloc (.cells #[z0, z1, z2] 29)) wX) :
    Made w1 (((wX.setCell ⟨wB.heap.size, 0, none⟩ v1).setCell ⟨wB.heap.size, 1, none⟩ v2).setCell ⟨wB.heap.size, 2, none⟩ s2) wB.heap.size v1 v2 s2 ls ps := by
  have b1 := World.ownsRow.lt hoB
  have b2 := World.ownsRow.lt hoP
  have e1 := hbP.2.size
  have e2 := hbB.1.size
  simp only [World.size_alloc] at b2 e1
  refine made_set ((Bx.new wB #[z0, z1, z2] 29).later hbP.2 (by simp)) (rowKept (World.ownsRow.alloc (World.ownsRow.mono hoB hW) _) hbP.2) (World.ownsRow.mono hoP (by simp; omega)) hbP.1 e2 (fun e => ?_) (fun e => ?_) (fun g e1 e2 => ?_)
  · have := (b1 _ e).2; omega
  · have := (b2 _ e).1; omega
  · have := (b1 _ e1).2; have := (b2 _ e2).1; omega

theorem made3 {w1 wB wX : World} {v1 v2 s2 z0 z1 z2 : Value} {ls : List B8} {ps : List Pt} (hoB : OwnBL wB (w1.alloc (.cells #[z0, z1, z2] 29)).drew.heap.size v1 ls) (hbB : Past w1 (w1.alloc (.cells #[z0, z1, z2] 29)).drew wB) (hoP : OwnPL wX wB.heap.size v2 ps) (hbP : Past w1 wB wX) :
    Made w1 (((wX.setCell ⟨w1.heap.size, 0, none⟩ v1).setCell ⟨w1.heap.size, 1, none⟩ v2).setCell ⟨w1.heap.size, 2, none⟩ s2) w1.heap.size v1 v2 s2 ls ps := by
  have b1 := World.ownsRow.lt hoB
  have b2 := World.ownsRow.lt hoP
  have e1 := hbP.2.size
  have e2 := hbB.2.size
  have e3 : (w1.alloc (.cells #[z0, z1, z2] 29)).drew.heap.size = w1.heap.size + 1 := World.size_alloc _ _
  rw [e3] at b1 e2
  refine made_set (((Bx.newD w1 #[z0, z1, z2] 29).later hbB.2 (by rw [e3]; omega)).later hbP.2 (by omega)) (rowKept (World.ownsRow.mono hoB (by rw [e3]; omega)) hbP.2) (World.ownsRow.mono hoP (by omega)) hbP.1 (Nat.le_refl _) (fun e => ?_) (fun e => ?_) (fun g e1 e2 => ?_)
  · have := (b1 _ e).1; omega
  · have := (b2 _ e).1; omega
  · have := (b1 _ e1).2; have := (b2 _ e2).1; omega


theorem set8_list {α : Type} (L : List α) (o : Nat) (a0 a1 a2 a3 a4 a5 a6 a7 : α) (h : o + 8 ≤ L.length) :
    (((((((L.set o a0).set (o + 1) a1).set (o + 2) a2).set (o + 3) a3).set (o + 4) a4).set (o + 5) a5).set (o + 6) a6).set (o + 7) a7 = L.take o ++ [a0, a1, a2, a3, a4, a5, a6, a7] ++ L.drop (o + 8) := by
  have hL : L = L.take o ++ ((L.drop o).take 8 ++ L.drop (o + 8)) := by
    rw [show L.drop (o + 8) = (L.drop o).drop 8 by rw [List.drop_drop], List.take_append_drop, List.take_append_drop]
  have hl : (L.take o).length = o := by rw [List.length_take]; omega
  have h8 : ((L.drop o).take 8).length = 8 := by rw [List.length_take, List.length_drop]; omega
  generalize L.take o = A at *
  generalize (L.drop o).take 8 = B at *
  generalize L.drop (o + 8) = C at *
  match B, h8 with
  | [b0, b1, b2, b3, b4, b5, b6, b7], _ =>
    subst hL
    subst hl
    have e := fun (X : List α) (i : Nat) (v : α) => List.set_append_right (s := A) (t := X) (A.length + i) v (by omega)
    have e0 := fun (X : List α) (v : α) => List.set_append_right (s := A) (t := X) A.length v (Nat.le_refl _)
    simp only [Nat.add_sub_cancel_left, Nat.sub_self] at e e0
    simp only [e, e0, List.cons_append, List.nil_append, List.set_cons_zero, List.set_cons_succ, List.append_assoc]

/-- a block stored into a row: its eight cells -/
def set8 (w : World) (g o : Nat) (x : B8) : World :=
  (((((((w.setCell ⟨g, o, none⟩ (.int .u8 x.z0)).setCell ⟨g, o + 1, none⟩ (.int .u8 x.z1)).setCell ⟨g, o + 2, none⟩ (.int .u8 x.z2)).setCell ⟨g, o + 3, none⟩ (.int .u8 x.z3)).setCell ⟨g, o + 4, none⟩ (.int .u8 x.z4)).setCell ⟨g, o + 5, none⟩ (.int .u8 x.z5)).setCell ⟨g, o + 6, none⟩ (.int .u8 x.z6)).setCell ⟨g, o + 7, none⟩ (.int .u8 x.z7)

theorem OwnBL.put {w : World} {base g n cap : Nat} {l : List B8} (h : OwnBL w base (.slice (some ⟨g, 0, none⟩) n cap) l) (j : Nat) (hj : j < l.length) (x : B8) : OwnBL (set8 w g (j * 8) x) base (.slice (some ⟨g, 0, none⟩) n cap) (l.set j x) := by
  rcases h.2 with ⟨hv, _⟩ | ⟨g', cap', cur, hv, hb, hh, hle, hmx, hcs, htk⟩
  · cases hv
  · simp only [Value.slice.injEq, Option.some.injEq, Addr.mk.injEq, and_true] at hv
    obtain ⟨rfl, hn, rfl⟩ := hv
    have hbx : Bx w g cur 38 := hh
    have h8 := (((((((hbx.set (j * 8) (.int .u8 x.z0)).set (j * 8 + 1) (.int .u8 x.z1)).set (j * 8 + 2) (.int .u8 x.z2)).set (j * 8 + 3) (.int .u8 x.z3)).set (j * 8 + 4) (.int .u8 x.z4)).set (j * 8 + 5) (.int .u8 x.z5)).set (j * 8 + 6) (.int .u8 x.z6)).set (j * 8 + 7) (.int .u8 x.z7)
    refine ⟨by rw [flatB_len, List.length_set], .inr ⟨g, cap, _, by rw [List.length_set, hn], hb, h8, by rw [List.length_set]; omega, hmx, by simpa using hcs, ?_⟩⟩
    have hf : flatB (l.set j x) = (flatB l).take (j * 8) ++ x.cs ++ (flatB l).drop (j * 8 + 8) := flatMap_set B8.cs 8 (fun _ => rfl) l j x hj
    simp only [Array.toList_setIfInBounds, List.take_set]
    rw [List.length_set, htk, set8_list (flatB l) (j * 8) _ _ _ _ _ _ _ _ (by rw [flatB_len]; omega), hf]
    rfl

theorem set8_below {B g : Nat} {w w' : World} (h : Below B w w') (hg : B ≤ g) (o : Nat) (x : B8) : Below B w (set8 w' g o x) :=
  (((((((h.setCell (p := ⟨g, o, none⟩) hg _).setCell (p := ⟨g, o + 1, none⟩) hg _).setCell (p := ⟨g, o + 2, none⟩) hg _).setCell (p := ⟨g, o + 3, none⟩) hg _).setCell (p := ⟨g, o + 4, none⟩) hg _).setCell (p := ⟨g, o + 5, none⟩) hg _).setCell (p := ⟨g, o + 6, none⟩) hg _).setCell (p := ⟨g, o + 7, none⟩) hg _

theorem set8_other {w : World} {g o k : Nat} (hk : k ≠ g) (x : B8) : (set8 w g o x).heap[k]? = w.heap[k]? := by
  unfold set8
  rw [Below.heap_setCell _ _ _ _ hk, Below.heap_setCell _ _ _ _ hk, Below.heap_setCell _ _ _ _ hk, Below.heap_setCell _ _ _ _ hk, Below.heap_setCell _ _ _ _ hk, Below.heap_setCell _ _ _ _ hk, Below.heap_setCell _ _ _ _ hk, Below.heap_setCell _ _ _ _ hk]

theorem Bx.set8 {w : World} {g k : Nat} {cs : Array Value} {t : TypeId} (h : Bx w k cs t) (hk : k ≠ g) (o : Nat) (x : B8) : Bx (set8 w g o x) k cs t := (set8_other hk x).trans h

theorem OwnBL.form {w : World} {base n c : Nat} {a : Option Addr} {l : List B8} (h : OwnBL w base (.slice a n c) l) (hn : 0 < n) : ∃ g, a = some ⟨g, 0, none⟩ ∧ base ≤ g ∧ g < w.heap.size ∧ l.length = n ∧ ∀ o, w.frozen? ⟨g, o, none⟩ = false := by
  rcases h.2 with ⟨hv, _⟩ | ⟨g, cap, cur, hv, hb, hh, _⟩
  · simp only [Value.slice.injEq] at hv
    omega
  · simp only [Value.slice.injEq] at hv
    obtain ⟨rfl, rfl, rfl⟩ := hv
    exact ⟨g, rfl, hb, (Array.getElem?_eq_some_iff.1 hh).1, rfl, fun o => (show Bx w g cur 38 from hh).frozen o⟩

theorem OwnBL.at_ {w : World} {base g n c : Nat} {l : List B8} (h : OwnBL w base (.slice (some ⟨g, 0, none⟩) n c) l) (k : Nat) (hk : k < n) :
    ∃ x : B8, l[k]? = some x ∧ w.cell? ⟨g, k * 8, none⟩ = some (.int .u8 x.z0) ∧ w.cell? ⟨g, k * 8 + 1, none⟩ = some (.int .u8 x.z1) ∧ w.cell? ⟨g, k * 8 + 2, none⟩ = some (.int .u8 x.z2) ∧
      w.cell? ⟨g, k * 8 + 3, none⟩ = some (.int .u8 x.z3) ∧ w.cell? ⟨g, k * 8 + 4, none⟩ = some (.int .u8 x.z4) ∧ w.cell? ⟨g, k * 8 + 5, none⟩ = some (.int .u8 x.z5) ∧
      w.cell? ⟨g, k * 8 + 6, none⟩ = some (.int .u8 x.z6) ∧ w.cell? ⟨g, k * 8 + 7, none⟩ = some (.int .u8 x.z7) := by
  obtain ⟨a, c', hv, hb, _⟩ := h.bl
  simp only [Value.slice.injEq] at hv
  obtain ⟨rfl, rfl, rfl⟩ := hv
  obtain ⟨b, off, x, ha, _, hx, hcs⟩ := hb.at_ k hk
  simp only [Option.some.injEq, Addr.mk.injEq, and_true] at ha
  obtain ⟨rfl, rfl⟩ := ha
  simp only [Nat.zero_add] at hcs
  exact ⟨x, hx, hcs⟩
end Go.Proofs.Ytfbmaemnbolplaa

/-
  Flush: all that is pending is safe, in order.
-/
namespace Go.Proofs.Ytfbmaemnbolplaa
open Go.RowKit

namespace Mx
/-- what is safe behind these puts -/
def flushed (ls : List B8) (ps : List Pt) : List B8 := ps.foldl (fun s p => s.set p.at_.toNat p.d) ls
theorem flushed_len (ls : List B8) (ps : List Pt) : (flushed ls ps).length = ls.length := by
  induction ps generalizing ls with
  | nil => rfl
  | cons p ps ih => rw [flushed, List.foldl_cons, ← flushed, ih, List.length_set]
theorem flushed_snoc (ls : List B8) (ps : List Pt) (k : Nat) (p : Pt) (h : ps[k]? = some p) : flushed ls (ps.take (k + 1)) = (flushed ls (ps.take k)).set p.at_.toNat p.d := by
  rw [flushed, List.take_add_one, h, Option.toList_some, List.foldl_append, ← flushed]
  rfl
/-- B2's error of a Flush -/
def dflush (n : Nat) (ps : List Pt) (left : Int) : Int := if dmay n ps = 0 then (if left = 0 then 4 else 0) else dmay n ps
end Mx

/-- a disk that is being made, with nothing pending -/
def MadeF (w1 wf : World) (gn : Nat) (v1 s2 : Value) (ls : List B8) : Prop :=
  Bx wf gn #[v1, .slice none 0 0, s2] 29 ∧ OwnBL wf w1.heap.size v1 ls ∧ Below w1.heap.size w1 wf ∧ w1.heap.size ≤ gn

theorem madeF1 {w1 wB : World} {v1 s2 : Value} {ls : List B8} (hoB : OwnBL wB w1.drew.heap.size v1 ls) (hbB : Past w1 w1.drew wB) : MadeF w1 (wB.alloc (.cells #[v1, .slice none 0 0, s2] 29)) wB.heap.size v1 s2 ls :=
  ⟨Bx.new _ _ _, World.ownsRow.alloc hoB _, hbB.1.alloc hbB.1.size _, hbB.1.size⟩

theorem madeF2 {w1 wB : World} {v1 s2 z0 z1 z2 : Value} {ls : List B8} (hoB : OwnBL wB (w1.alloc (.cells #[z0, z1, z2] 29)).drew.heap.size v1 ls) (hbB : Past w1 (w1.alloc (.cells #[z0, z1, z2] 29)).drew wB) :
    MadeF w1 (((wB.setCell ⟨w1.heap.size, 0, none⟩ v1).setCell ⟨w1.heap.size, 1, none⟩ (.slice none 0 0)).setCell ⟨w1.heap.size, 2, none⟩ s2) w1.heap.size v1 s2 ls := by
  have e3 : (w1.alloc (.cells #[z0, z1, z2] 29)).drew.heap.size = w1.heap.size + 1 := World.size_alloc _ _
  have hx : Bx wB w1.heap.size #[z0, z1, z2] 29 := (Bx.newD w1 #[z0, z1, z2] 29).later hbB.2 (by rw [e3]; omega)
  have n1 := own_ne_bx hoB hx (by decide)
  exact ⟨((hx.set 0 v1).set 1 (.slice none 0 0)).set 2 s2, World.ownsRow.mono (ownsRow_other (ownsRow_other (ownsRow_other hoB _ _ n1) _ _ n1) _ _ n1) (by rw [e3]; omega),
    ((hbB.1.setCell (p := ⟨w1.heap.size, 0, none⟩) (Nat.le_refl _) v1).setCell (p := ⟨w1.heap.size, 1, none⟩) (Nat.le_refl _) (.slice none 0 0)).setCell (p := ⟨w1.heap.size, 2, none⟩) (Nat.le_refl _) s2, Nat.le_refl _⟩

theorem OwnBL.fz {w : World} {base g n c : Nat} {l : List B8} (h : OwnBL w base (.slice (some ⟨g, 0, none⟩) n c) l) : g < w.heap.size ∧ base ≤ g ∧ ∀ o, w.frozen? ⟨g, o, none⟩ = false := by
  rcases h.2 with ⟨hv, _⟩ | ⟨g', cap, cur, hv, hb, hh, _⟩
  · cases hv
  · simp only [Value.slice.injEq, Option.some.injEq, Addr.mk.injEq, and_true] at hv
    obtain ⟨rfl, rfl, rfl⟩ := hv
    exact ⟨(Array.getElem?_eq_some_iff.1 hh).1, hb, fun o => (show Bx w g cur 38 from hh).frozen o⟩

theorem MadeF.put {w1 wf : World} {gn g n c : Nat} {s2 : Value} {ls : List B8} (h : MadeF w1 wf gn (.slice (some ⟨g, 0, none⟩) n c) s2 ls) (o : Obj) (j : Nat) (hj : j < ls.length) (x : B8) : MadeF w1 ((set8 wf g (j * 8) x).alloc o) gn (.slice (some ⟨g, 0, none⟩) n c) s2 (ls.set j x) := by
  have n1 := own_ne_bx h.2.1 h.1 (by decide)
  have hg := (World.ownsRow.lt h.2.1 g rfl).1
  have hb := set8_below h.2.2.1 hg (j * 8) x
  exact ⟨(h.1.set8 (fun e => n1 (by rw [e]; rfl)) _ x).alloc o, World.ownsRow.alloc (OwnBL.put h.2.1 j hj x) o, hb.alloc hb.size o, h.2.2.2⟩

set_option maxHeartbeats 4000000 in
set_option maxRecDepth 100000 in
theorem flush_any (sa pa : Option Addr) (n sc m pc : Nat) (left : Int) (ls : List B8) (ps : List Pt) (w : World) (hs : BL w sa n ls) (hp : PL w pa m ps) (hl1 : -9223372036854775808 ≤ left) (hl2 : left ≤ 9223372036854775807) (hm : Mx.dflush n ps left = 0) :
    Calls Try.prog 52 #[.agg #[.slice sa n sc, .slice pa m pc, .int .i64 left]] w fun e w' =>
      ∃ v1, e = .returned (.tuple #[.agg #[v1, .slice none 0 0, .int .i64 (Mx.less left)], .nilIface]) ∧ OwnBL w' w.heap.size v1 (Mx.flushed ls ps) ∧ Below w.heap.size w w' := by
  obtain ⟨hmay, hleft⟩ : Hid (Mx.dmay n ps = 0) ∧ ¬ left = 0 := by
    unfold Mx.dflush at hm
    split at hm
    · rename_i h1
      split at hm
      · omega
      · rename_i h2
        exact ⟨h1, h2⟩
    · contradiction
  have HS := hide hs
  have HP := hide hp
  have HNN := hide (show n ≤ maxLen from hs.2.2.1)
  have HL := hide (And.intro hl1 hl2)
  obtain ⟨hn0, hn1, hm8, HIN⟩ : 1 ≤ n ∧ n ≤ 200 ∧ m ≤ 800 ∧ Hid (∀ p ∈ ps, 0 ≤ p.at_ ∧ p.at_ < n) := by
    obtain ⟨h1, h2, h3, h4⟩ := Mx.dmay_facts hmay.out
    exact ⟨h1, h2, by rw [← hp.1]; exact h3, h4⟩
  have HLS := hide hs.1
  have HPS := hide hp.1
  clear hs hp hm hl1 hl2
  have hle : (left == 0) = false := by simpa using hleft
  go_enter Try.func52, Try.ntmps52
  go_wp2_with fail
  refine (dcheck_any sa pa n sc m pc left ps _ (HP.out.later ((below_alloc _ _).alloc (by simp) _)) HNN.out).mono ?_
  rintro e w1 ⟨rfl, hb1⟩
  rw [hmay.out, errV_zero]
  have HBD := hide (show Bx w1 w.heap.size #[.slice sa n sc, .slice pa m pc, .int .i64 left] 29 from ((Bx.new w _ 29).alloc _).later hb1 (by simp; omega))
  have HBR := hide (show Bx w1 (w.heap.size + 1) #[.slice none 0 0, .slice none 0 0, .int .i64 0] 29 from by
    have h := (Bx.new (w.alloc (.cells #[.slice sa n sc, .slice pa m pc, .int .i64 left] 29)) #[.slice none 0 0, .slice none 0 0, .int .i64 0] 29).later hb1 (by simp)
    rw [World.size_alloc] at h
    exact h)
  have HBel := hide (((below_alloc w (.cells #[.slice sa n sc, .slice pa m pc, .int .i64 left] 29)).alloc (by simp) _).trans (hb1.mono (by simp; omega)))
  have hsz : w.heap.size + 2 ≤ w1.heap.size := by have := hb1.size; simp at this; omega
  clear hb1
  have HS1 := hide (HS.out.later HBel.out)
  have HP1 := hide (HP.out.later HBel.out)
  obtain ⟨f0, f1, f2⟩ := HBD.out.three
  have hg1 : w.heap.size < w1.heap.size := by omega
  have HN6 := hide (show n ≤ 1000000 by omega)
  go_wp2_with fail
  go_cut [5] (fun s5 wx => ∃ gn a1 c1, s5 = .pointer (some ⟨gn, 0, none⟩) ∧ Hid (MadeF w1 wx gn (.slice a1 n c1) (.int .i64 (Mx.less left)) ls))
  case first =>
    go_region_held (fun w' => w'.cell? ⟨w.heap.size, 0, none⟩ = some (.slice sa n sc) ∧ w'.cell? ⟨w.heap.size, 1, none⟩ = some (.slice pa m pc) ∧ w'.cell? ⟨w.heap.size, 2, none⟩ = some (.int .i64 left) ∧ Below w1.heap.size w1 w')
      (first | exact Held.drew HBD.out | exact Held.of HBD.out hbB.out.1 | assumption | (refine Held.alloc HBD.out ?_ _; assumption) | exact Held.of HBD.out (hbB.out.1.alloc hbB.out.1.size _) | exact Held.of HBD.out ((Below.refl _ _).drew.alloc (Nat.le_refl _) _) | (refine Held.set HBD.out (Held.set HBD.out (Held.set HBD.out ?_ _ ?_ _) _ ?_ _) _ ?_ _ <;> assumption))
      (first
      | (go_at_call 39; refine (cloneB_at2 (w1 := w1) sa n sc ls _ HS1.out HN6.out HBD.out (Bx.newD _ _ _) ?hge ?hbS).mono ?_; (case hge => exact Nat.le_refl _); (case hbS => simp only [*]); rintro e wB ⟨a1, c1, rfl, hoB, hbB, ⟨q0, q1, q2, q3, q4⟩, hxB, hgB, r0, r1, r2, r3, r4⟩)
      | (go_at_call 39; refine (cloneB_at (w1 := w1) sa n sc ls _ HS1.out HN6.out HBD.out ?hbS).mono ?_; (case hbS => simp only [*]); rintro e wB ⟨a1, c1, rfl, hoB, hbB, q0, q1, q2, q3, q4⟩)
      | (go_at_call 54; refine (lessOne_any left _ HL.out.1 HL.out.2).mono ?_; rintro e wL ⟨rfl, rfl⟩))
    all_goals go_wp2_with fail
    all_goals go_meet
    all_goals first
      | exact ⟨_, _, _, rfl, madeF1 hoB.out hbB.out⟩
      | exact ⟨_, _, _, rfl, madeF2 hoB.out hbB.out⟩
  case rest =>
  obtain ⟨gn, a1, c1, rfl, hmd⟩ := hcut
  obtain ⟨g, rfl, hg, hgl, hgn, _⟩ := hmd.out.2.1.form (by omega)
  clear hgn
  have hne1 : ¬ gn = w.heap.size := by have := hmd.out.2.2.2; omega
  obtain ⟨d0, d1, d2⟩ := (HBD.out.later hmd.out.2.2.1 (by omega)).three
  clear f0 f1 f2
  go_wp2_with fail
  go_loopw [7, 29] (fun _ i wr => ∃ k : Nat, k ≤ m ∧ i = .int .i64 k ∧ Hid (MadeF w1 wr gn (.slice (some ⟨g, 0, none⟩) n c1) (.int .i64 (Mx.less left)) (Mx.flushed ls (ps.take k)))) (fun _ i _ => m - (intOf i).toNat)
  case atStart => exact ⟨0, by omega, rfl, by simpa [Mx.flushed] using hmd⟩
  case round =>
    clear d0 d1 d2
    obtain ⟨k, hk, rfl, hmk⟩ := hrel
    by_cases hlt : k < m
    · obtain ⟨b, off, p, hpa, hb, hx, e0, e1, e2, e3, e4, e5, e6, e7, e8⟩ := (HP1.out.later hmk.out.2.2.1).at_ k hlt
      subst hpa
      have hin := HIN.out p (List.mem_of_getElem? hx)
      obtain ⟨j, hj⟩ := Int.eq_ofNat_of_zero_le hin.1
      have HX := hide hx
      have HJ := hide hj
      rw [hj] at e0 hin
      clear hx hj
      have hjn : (j : Int) < n := hin.2
      obtain ⟨y, _, y0, y1, y2, y3, y4, y5, y6, y7⟩ := hmk.out.2.1.at_ j (by omega)
      obtain ⟨hgl2, _, yz⟩ := hmk.out.2.1.fz
      obtain ⟨b0, b1, b2⟩ := hmk.out.1.three
      have bl := hmk.out.1.lt
      have HNX := hide (hmk.out.put (.cells #[.int .i64 j, .int .u8 p.d.z0, .int .u8 p.d.z1, .int .u8 p.d.z2, .int .u8 p.d.z3, .int .u8 p.d.z4, .int .u8 p.d.z5, .int .u8 p.d.z6, .int .u8 p.d.z7] 40) j (by rw [Mx.flushed_len, HLS.out]; omega) p.d)
      go_wp2_with fail
      go_roundw
      case rel =>
        refine ⟨k + 1, by omega, by go_num, ?_⟩
        unfold Hid
        rw [Mx.flushed_snoc ls ps k p HX.out, HJ.out, Int.toNat_natCast]
        exact HNX.out
      case measure => simp [intOf]; omega
    · obtain rfl : k = m := by omega
      have HF := hide (show MadeF w1 wr gn (.slice (some ⟨g, 0, none⟩) n c1) (.int .i64 (Mx.less left)) (Mx.flushed ls ps) from by
        have h := hmk.out
        rw [List.take_of_length_le (Nat.le_of_eq HPS.out)] at h
        exact h)
      obtain ⟨b0, b1, b2⟩ := hmk.out.1.three
      have HR2 := hide (HBR.out.later hmk.out.2.2.1 (by omega))
      obtain ⟨t0, t1, t2⟩ := HR2.out.three
      have tz := HR2.out.frozen
      go_wp2_with fail
      obtain ⟨r0, r1, r2⟩ := (show Bx _ _ #[.slice (some ⟨g, 0, none⟩) n c1, .slice none 0 0, .int .i64 (Mx.less left)] 29 from ((HR2.out.set 0 (.slice (some ⟨g, 0, none⟩) n c1)).set 1 (.slice none 0 0)).set 2 (.int .i64 (Mx.less left))).three
      refine bodyPost_ret (v := .tuple #[.agg #[.slice (some ⟨g, 0, none⟩) n c1, .slice none 0 0, .int .i64 (Mx.less left)], .nilIface]) (by simp [results, Try.results52, go_sem, r0, r1, r2]) rfl ⟨_, rfl, ?_, ?_⟩
      · have k2 := own_ne_bx HF.out.2.1 HR2.out (by decide)
        exact World.ownsRow.mono (ownsRow_other (ownsRow_other (ownsRow_other HF.out.2.1 _ _ k2) _ _ k2) _ _ k2) HBel.out.size
      · have hb := HBel.out.trans (HF.out.2.2.1.mono HBel.out.size)
        exact ((hb.setCell (p := ⟨w.heap.size + 1, 0, none⟩) (by simp) _).setCell (p := ⟨w.heap.size + 1, 1, none⟩) (by simp) _).setCell (p := ⟨w.heap.size + 1, 2, none⟩) (by simp) _

set_option maxHeartbeats 2000000 in
set_option maxRecDepth 100000 in
theorem flush_err (sa pa : Option Addr) (n sc m pc : Nat) (left : Int) (ps : List Pt) (w : World) (hn : n ≤ maxLen) (hp : PL w pa m ps) (hm : ¬ Mx.dflush n ps left = 0) :
    Calls Try.prog 52 #[.agg #[.slice sa n sc, .slice pa m pc, .int .i64 left]] w fun e w' =>
      e = .returned (.tuple #[.agg #[.slice none 0 0, .slice none 0 0, .int .i64 0], errV (Mx.dflush n ps left)]) ∧ Below w.heap.size w w' := by
  have HP := hide hp
  have HM := hide hm
  have HNN := hide hn
  clear hp hm hn
  go_enter Try.func52, Try.ntmps52
  go_wp2_with fail
  refine (dcheck_any sa pa n sc m pc left ps _ (HP.out.later ((below_alloc _ _).alloc (by simp) _)) HNN.out).mono ?_
  rintro e w1 ⟨rfl, hb1⟩
  have HBD := hide (show Bx w1 w.heap.size #[.slice sa n sc, .slice pa m pc, .int .i64 left] 29 from ((Bx.new w _ 29).alloc _).later hb1 (by simp; omega))
  have HBR := hide (show Bx w1 (w.heap.size + 1) #[.slice none 0 0, .slice none 0 0, .int .i64 0] 29 from by
    have h := (Bx.new (w.alloc (.cells #[.slice sa n sc, .slice pa m pc, .int .i64 left] 29)) #[.slice none 0 0, .slice none 0 0, .int .i64 0] 29).later hb1 (by simp)
    rw [World.size_alloc] at h
    exact h)
  have HBel := hide (((below_alloc w (.cells #[.slice sa n sc, .slice pa m pc, .int .i64 left] 29)).alloc (by simp) _).trans (hb1.mono (by simp; omega)))
  clear hb1
  obtain ⟨f0, f1, f2⟩ := HBD.out.three
  obtain ⟨e0, e1, e2⟩ := HBR.out.three
  have ez := HBR.out.frozen
  obtain ⟨r0, r1, r2⟩ := (show Bx _ _ #[.slice none 0 0, .slice none 0 0, .int .i64 0] 29 from (((HBR.out.set 0 (.slice none 0 0)).set 1 (.slice none 0 0)).set 2 (.int .i64 0))).three
  have HBF := hide (((HBel.out.setCell (p := ⟨w.heap.size + 1, 0, none⟩) (by simp) (.slice none 0 0)).setCell (p := ⟨w.heap.size + 1, 1, none⟩) (by simp) (.slice none 0 0)).setCell (p := ⟨w.heap.size + 1, 2, none⟩) (by simp) (.int .i64 0))
  by_cases hpl : Mx.dmay n ps = 0
  · have HPL := hide hpl
    rw [hpl, errV_zero]
    clear hpl
    by_cases hl : left = 0
    · have HE := hide (show Mx.dflush n ps left = 4 by unfold Mx.dflush; rw [if_pos HPL.out, if_pos hl])
      have hle : (left == 0) = true := by simpa using hl
      clear hl
      go_wp2_with fail
      exact bodyPost_ret (v := .tuple #[.agg #[.slice none 0 0, .slice none 0 0, .int .i64 0], .iface 35 (.int .i64 4)]) (by simp [results, Try.results52, go_sem, r0, r1, r2]) rfl ⟨by rw [HE.out]; rfl, HBF.out⟩
    · exact absurd (show Mx.dflush n ps left = 0 by unfold Mx.dflush; rw [if_pos HPL.out, if_neg hl]) HM.out
  · have HE := hide (show Mx.dflush n ps left = Mx.dmay n ps by unfold Mx.dflush; rw [if_neg hpl])
    rw [errV_not hpl]
    have HPL := hide hpl
    clear hpl
    go_wp2_with fail
    exact bodyPost_ret (v := .tuple #[.agg #[.slice none 0 0, .slice none 0 0, .int .i64 0], .iface 35 (.int .i64 (Mx.dmay n ps))]) (by simp [results, Try.results52, go_sem, r0, r1, r2]) rfl ⟨by rw [HE.out, errV_not HPL.out], HBF.out⟩
end Go.Proofs.Ytfbmaemnbolplaa

/-
  slices.Backward at puts: what the iterator gives: the puts, the last one first.
-/
namespace Go.Proofs.Ytfbmaemnbolplaa
open Go.RowKit Go.Shelf
attribute [local go_sem] Oper.semAt_some

/-- the first j of the puts from the back, each with its place in the list -/
def backTo (ps : List Pt) (j : Nat) : List (Nat × Pt) := (List.range j).map fun i => (ps.length - 1 - i, ps.getD (ps.length - 1 - i) ⟨0, zB⟩)
theorem backTo_succ (ps : List Pt) (j : Nat) : backTo ps (j + 1) = backTo ps j ++ [(ps.length - 1 - j, ps.getD (ps.length - 1 - j) ⟨0, zB⟩)] := by simp [backTo, List.range_succ]
theorem backTo_len (ps : List Pt) (j : Nat) : (backTo ps j).length = j := by simp [backTo]

def encB (x : Nat × Pt) : Array Value := #[.int .i64 (x.1 : Int), .agg #[.int .i64 x.2.at_, .int .u8 x.2.d.z0, .int .u8 x.2.d.z1, .int .u8 x.2.d.z2, .int .u8 x.2.d.z3, .int .u8 x.2.d.z4, .int .u8 x.2.d.z5, .int .u8 x.2.d.z6, .int .u8 x.2.d.z7]]

set_option maxRecDepth 100000 in
set_option maxHeartbeats 1000000 in
theorem back_in (n : Nat) (hn : 1 ≤ n) (l Bs n₀ cap m : Nat) (pa : Option Addr) (ps : List Pt) (hm : m ≤ 1000) (J Jx : List (Nat × Pt) → World → Prop)
    (W : World) (_hn₀ : n₀ ≤ W.heap.size) (_hBn : Bs < W.heap.size) (_hJ : AbidesFrom W.heap.size J)
    (hY : ∀ pre x W, J pre W → pre.length < m → YieldAt Fence.wide (n - 1) Try.prog l (encB x) W fun e W' =>
      (e = .returned (.bool true) ∧ J (pre ++ [x]) W' ∧ KpS n₀ Bs W W') ∨ (e = .returned (.bool false) ∧ Jx (pre ++ [x]) W'))
    (hBs : W.cell? ⟨Bs, 0, none⟩ = some (.slice pa m cap)) (w0 : World) (hw0 : w0.heap.size ≤ n₀) (hp0 : PL w0 pa m ps) (hW0 : Below w0.heap.size w0 W) (h0 : J [] W) :
    CallsIn Fence.wide n Try.prog 53 #[.func (.yield l) #[] #[], .pointer (some ⟨Bs, 0, none⟩)] W fun e W' => (∃ v, e = .returned v) ∧
      ((∃ ys, ys = backTo ps m ∧ J ys W') ∨ (∃ pre, (∃ k, k ≤ m ∧ pre = backTo ps k) ∧ Jx pre W')) := by
  have HP := hide hp0
  have HPL := hide hp0.1
  have HW0 := hide hW0
  clear hp0 hW0
  refine callsIn_of_wp Try.func53 rfl trivial ?_ rfl
  simp only [Try.ntmps53, List.size_toArray, List.length_cons, List.length_nil, Nat.reduceAdd, Nat.reduceSub, Array.replicate_succ, Array.replicate_zero, List.push_toArray, List.append_toArray, List.nil_append, List.cons_append]
  gi_wp2
  gi_loopw [3] (fun i wr => ∃ k : Nat, k ≤ m ∧ i = .int .i64 ((m : Int) - 1 - (k : Int)) ∧ J (backTo ps k) wr ∧ Below n₀ W wr ∧ wr.heap[Bs]? = W.heap[Bs]?)
    (fun i _ => (intOf i + 1).toNat)
  case atStart => exact ⟨0, Nat.zero_le _, by simp, h0, Below.refl _ _, rfl⟩
  case round =>
    obtain ⟨k, hk, rfl, hJs, hnx, hbs⟩ := hrel
    have HBS := hide hbs
    have hbx : wr.cell? ⟨Bs, 0, none⟩ = some (.slice pa m cap) := (World.cell?_of_block (w := W) (a := ⟨Bs, 0, none⟩) hbs).trans hBs
    clear hbs
    by_cases hlt : k < m
    · obtain ⟨i, hi⟩ : ∃ i : Nat, i + 1 + k = m := ⟨m - 1 - k, by omega⟩
      have hie : (m : Int) - 1 - (k : Int) = (i : Int) := by omega
      have HB0 := hide (HW0.out.trans (hnx.mono hw0))
      obtain ⟨b, off, p, hpa, hb, hx, e0, e1, e2, e3, e4, e5, e6, e7, e8⟩ := (HP.out.later HB0.out).at_ i (by omega)
      subst hpa
      have HX := hide (show backTo ps (k + 1) = backTo ps k ++ [(i, p)] by
        rw [backTo_succ, HPL.out, show m - 1 - k = i by omega, List.getD_eq_getElem?_getD, hx]
        rfl)
      clear hx
      rw [hie]
      have hi0 : (0 : Int) ≤ (i : Int) := by omega
      have him : (i : Int) < (m : Int) := by omega
      obtain ⟨fn, tmps, assign, body, hy, hR⟩ := hY (backTo ps k) (i, p) wr hJs (by rw [backTo_len]; exact hlt)
      unfold encB at hy
      gi_wp2
      refine hR.mono ?_
      rintro e W3 (⟨rfl, hJ3, hk3⟩ | ⟨rfl, hJx3⟩)
      · gi_wp2
        go_roundw
        case rel => exact ⟨k + 1, by omega, congrArg (Value.int .i64) (by omega), by rw [HX.out]; exact hJ3, hnx.trans hk3.1, hk3.2.trans HBS.out⟩
        case measure => simp [intOf]
      · gi_wp2
        refine bodyPost_ret (results_none rfl _ _ _) rfl ?_
        exact ⟨⟨_, rfl⟩, .inr ⟨_, ⟨k + 1, by omega, HX.out.symm⟩, hJx3⟩⟩
    · obtain rfl : k = m := by omega
      have hlast : (k : Int) - 1 - (k : Int) = -1 := by omega
      rw [hlast]
      gi_wp2
      go_end0
      exact ⟨⟨_, rfl⟩, .inl ⟨_, rfl, hJs⟩⟩

set_option maxHeartbeats 1000000 in
theorem backward_in (n : Nat) (a : Option Addr) (len cap : Nat) (w : World) :
    CallsIn Fence.wide n Try.prog 45 #[.slice a len cap] w fun e w' => e = .returned (.func (.func 53) #[] #[.pointer (some ⟨w.heap.size, 0, none⟩)]) ∧ w' = w.alloc (.cells #[.slice a len cap] 22) := by
  refine callsIn_of_wp Try.func45 rfl trivial ?_ rfl
  simp only [Try.ntmps45, List.size_toArray, List.length_cons, List.length_nil, Nat.reduceAdd, Nat.reduceSub, Array.replicate_succ, Array.replicate_zero, List.push_toArray, List.append_toArray, List.nil_append, List.cons_append]
  gi_wp2
  go_ret
  exact ⟨rfl, rfl⟩

theorem back_stops (n : Nat) (hn : 1 ≤ n) (Bs n₀ cap m : Nat) (pa : Option Addr) (ps : List Pt) (hm : m ≤ 1000) (w0 : World) (hw0 : w0.heap.size ≤ n₀) (hp0 : PL w0 pa m ps) (w : World) (hb0 : Below w0.heap.size w0 w) (hn₀ : n₀ ≤ w.heap.size) (hBn : Bs < w.heap.size)
    (hBs : w.cell? ⟨Bs, 0, none⟩ = some (.slice pa m cap)) :
    SeqStopsK Fence.wide n Try.prog 53 #[.pointer (some ⟨Bs, 0, none⟩)] encB (KpS n₀ Bs) (fun ys => ys = backTo ps m) (fun pre => ∃ k, k ≤ m ∧ pre = backTo ps k) m w := fun l J Jx W hW hJ _ hY h0 =>
  back_in n hn l Bs n₀ cap m pa ps hm J Jx W (Nat.le_trans hn₀ hW.size) (Nat.lt_of_lt_of_le hBn hW.size) hJ hY ((hW.cell (p := ⟨Bs, 0, none⟩) hBn).trans hBs) w0 hw0 hp0 (hb0.trans (hW.mono hb0.size)) h0
end Go.Proofs.Ytfbmaemnbolplaa

/-
  The range over the puts from the back, for a body that ends the call at the first one of a place.
-/
namespace Go.Proofs.Ytfbmaemnbolplaa
open Go.RowKit Go.Shelf
attribute [local go_sem] Oper.semAt_some

namespace Mx
/-- what a place holds: the last put there, or else what is safe -/
def readB (ls : List B8) (ps : List Pt) (at_ : Int) : B8 :=
  match ps.reverse.find? (fun p => p.at_ == at_) with
  | some p => p.d
  | none => ls.getD at_.toNat zB
/-- B2's error of a Read -/
def dread (n : Nat) (ps : List Pt) (left at_ : Int) : Int := if dplace n ps at_ = 0 then (if left = 0 then 4 else 0) else dplace n ps at_
end Mx

theorem backTo_snd (ps : List Pt) (k : Nat) (hk : k ≤ ps.length) : (backTo ps k).map Prod.snd = ps.reverse.take k := by
  apply List.ext_getElem?
  intro i
  by_cases h : i < k
  · rw [List.getElem?_take, if_pos h, List.getElem?_reverse (by omega)]
    simp only [backTo, List.map_map, List.getElem?_map, List.getElem?_range h]
    simp [List.getD_eq_getElem?_getD, List.getElem?_eq_getElem (show ps.length - 1 - i < ps.length by omega)]
  · rw [List.getElem?_eq_none (by simp [backTo]; omega), List.getElem?_eq_none (by simp; omega)]

theorem readB_found {ls : List B8} {ps : List Pt} {at_ : Int} {k i : Nat} {pre : List (Nat × Pt)} {p : Pt} (hk : k ≤ ps.length) (h : pre ++ [(i, p)] = backTo ps k) (hp : p.at_ = at_) (hn : ∀ x ∈ pre, x.2.at_ ≠ at_) : Mx.readB ls ps at_ = p.d := by
  have h1 := congrArg (List.map Prod.snd) h
  rw [backTo_snd ps k hk, List.map_append] at h1
  have h2 : ps.reverse = (pre.map Prod.snd ++ [p]) ++ ps.reverse.drop k := by
    have := List.take_append_drop k ps.reverse
    rw [← h1] at this
    simpa using this.symm
  unfold Mx.readB
  rw [h2, List.find?_append, List.find?_append, List.find?_eq_none.2 (by
    intro q hq
    obtain ⟨x, hx, rfl⟩ := List.mem_map.1 hq
    simpa using hn x hx)]
  simp [hp]

theorem readB_none {ls : List B8} {ps : List Pt} {at_ : Int} (hn : ∀ x ∈ backTo ps ps.length, x.2.at_ ≠ at_) : Mx.readB ls ps at_ = ls.getD at_.toNat zB := by
  have h1 := backTo_snd ps ps.length (Nat.le_refl _)
  rw [List.take_of_length_le (by simp)] at h1
  unfold Mx.readB
  rw [← h1, List.find?_eq_none.2 (by
    intro q hq
    obtain ⟨x, hx, rfl⟩ := List.mem_map.1 hq
    simpa using hn x hx)]

/-- between two rounds -/
def RI (w : World) (D : Array Value) (at_ : Int) (pre : List (Nat × Pt)) (W : World) : Prop :=
  Bx W w.heap.size D 29 ∧ Bx W (w.heap.size + 1) #[.int .i64 at_] 3 ∧ Bx W (w.heap.size + 2) #[.int .u8 0, .int .u8 0, .int .u8 0, .int .u8 0, .int .u8 0, .int .u8 0, .int .u8 0, .int .u8 0] 38 ∧ Bx W (w.heap.size + 3) #[.nilIface] 24 ∧ Below w.heap.size w W ∧ w.heap.size + 4 ≤ W.heap.size ∧ ∀ x ∈ pre, x.2.at_ ≠ at_
def RIc (w : World) (D : Array Value) (at_ : Int) (C : Nat) (pre : List (Nat × Pt)) (W : World) : Prop := RI w D at_ pre W ∧ C ≤ W.heap.size
/-- a round that ended the call -/
def RIx (w : World) (at_ : Int) (c : Code) (pre : List (Nat × Pt)) (W : World) : Prop :=
  c = .ret ∧ ∃ pre' i p, pre = pre' ++ [(i, p)] ∧ p.at_ = at_ ∧ (∀ x ∈ pre', x.2.at_ ≠ at_) ∧
    Bx W (w.heap.size + 2) #[.int .u8 p.d.z0, .int .u8 p.d.z1, .int .u8 p.d.z2, .int .u8 p.d.z3, .int .u8 p.d.z4, .int .u8 p.d.z5, .int .u8 p.d.z6, .int .u8 p.d.z7] 38 ∧ Bx W (w.heap.size + 3) #[.nilIface] 24 ∧ Below w.heap.size w W ∧ w.heap.size + 4 ≤ W.heap.size
/-- the round's own variable -/
def RAx (C : Nat) (T : Array Value) (x : Nat × Pt) (a' : Act) (W : World) : Prop :=
  ∃ g, C ≤ g ∧ Bx W g #[.int .i64 x.2.at_, .int .u8 x.2.d.z0, .int .u8 x.2.d.z1, .int .u8 x.2.d.z2, .int .u8 x.2.d.z3, .int .u8 x.2.d.z4, .int .u8 x.2.d.z5, .int .u8 x.2.d.z6, .int .u8 x.2.d.z7] 40 ∧
    a' = { tmps := ((T.setIfInBounds 24 (.int .i64 (x.1 : Int))).setIfInBounds 25 (.agg #[.int .i64 x.2.at_, .int .u8 x.2.d.z0, .int .u8 x.2.d.z1, .int .u8 x.2.d.z2, .int .u8 x.2.d.z3, .int .u8 x.2.d.z4, .int .u8 x.2.d.z5, .int .u8 x.2.d.z6, .int .u8 x.2.d.z7])).setIfInBounds 8 (.pointer (some ⟨g, 0, none⟩)), defers := [] }

theorem ri_own (w : World) (D : Array Value) (at_ : Int) (C : Nat) (hC : w.heap.size + 4 ≤ C) : OwnFrom C (RI w D at_) := by
  rintro pre W W' row ⟨b0, b1, b2, b3, bb, bs, hn⟩ hg hr
  have hr' : ∀ r, row = some r → ∃ o : Obj, W.heap[r]? = some o ∧ o.isCells = false := fun r e => (hr r e).2
  exact ⟨cells_kept b0 hg hr', cells_kept b1 hg hr', cells_kept b2 hg hr', cells_kept b3 hg hr', bb.grown hg (by omega) (fun k e => by have := (hr k e).1; omega), by have := hg.size; omega, hn⟩
theorem ric_own (w : World) (D : Array Value) (at_ : Int) (C : Nat) (hC : w.heap.size + 4 ≤ C) : OwnFrom C (RIc w D at_ C) := fun pre W W' row h hg hr => ⟨ri_own w D at_ C hC pre W W' row h.1 hg hr, Nat.le_trans h.2 hg.size⟩
theorem rix_own (w : World) (at_ : Int) (c : Code) (C : Nat) (hC : w.heap.size + 4 ≤ C) : OwnFrom C (RIx w at_ c) := by
  rintro pre W W' row ⟨rfl, pre', i, p, e1, e2, e3, b2, b3, bb, bs⟩ hg hr
  have hr' : ∀ r, row = some r → ∃ o : Obj, W.heap[r]? = some o ∧ o.isCells = false := fun r e => (hr r e).2
  exact ⟨rfl, pre', i, p, e1, e2, e3, cells_kept b2 hg hr', cells_kept b3 hg hr', bb.grown hg (by omega) (fun k e => by have := (hr k e).1; omega), by have := hg.size; omega⟩
theorem rax_own (C : Nat) (T : Array Value) (x : Nat × Pt) (a' : Act) : OwnFrom C (fun (_ : Unit) W => RAx C T x a' W) := by
  rintro _ W W' row ⟨g, h1, h2, h3⟩ hg hr
  exact ⟨g, h1, cells_kept h2 hg (fun r e => (hr r e).2), h3⟩

theorem rangeBack {g : Operand} {assign body : Code} {Q : Exit → Act → World → Prop} {a : Act} {wl : World} (w : World) (D : Array Value) (at_ : Int) (Bs cap m : Nat) (pa : Option Addr) (ps : List Pt)
    (hg : a.eval g = .func (.func 53) #[] #[.pointer (some ⟨Bs, 0, none⟩)]) (hm : m ≤ 1000) (hp : PL w pa m ps) (hb0 : Below w.heap.size w wl) (hBn : Bs < wl.heap.size) (hC : w.heap.size + 4 ≤ wl.heap.size)
    (hBs : wl.cell? ⟨Bs, 0, none⟩ = some (.slice pa m cap)) (h0 : RI w D at_ [] wl)
    (hassign : ∀ (l : Nat) (pre : List (Nat × Pt)) (x : Nat × Pt) (W : World) (K : Act → World → Prop), RIc w D at_ wl.heap.size pre W → (∀ a' W', KeepsFrom wl.heap.size W W' → KpS w.heap.size Bs W W' → RIc w D at_ wl.heap.size pre W' → RAx wl.heap.size a.tmps x a' W' → K a' W') →
      assign.wpIn (Fence.wide.inRound l) (6 - 1 - 1) Try.prog (Exit.then K (fun _ _ _ => False)) { tmps := (a.tmps.setIfInBounds 24 (.int .i64 (x.1 : Int))).setIfInBounds 25 (.agg #[.int .i64 x.2.at_, .int .u8 x.2.d.z0, .int .u8 x.2.d.z1, .int .u8 x.2.d.z2, .int .u8 x.2.d.z3, .int .u8 x.2.d.z4, .int .u8 x.2.d.z5, .int .u8 x.2.d.z6, .int .u8 x.2.d.z7]), defers := [] } W)
    (hbody : ∀ (l : Nat) (pre : List (Nat × Pt)) (x : Nat × Pt) (a' : Act) (W : World), RIc w D at_ wl.heap.size pre W → RAx wl.heap.size a.tmps x a' W → pre.length < m →
      body.wpIn (Fence.wide.inRound l) (6 - 1 - 1) Try.prog (ownPostG wl.heap.size (KpS w.heap.size Bs) (RIc w D at_ wl.heap.size) (RIx w at_) (pre ++ [x]) W) a' W)
    (hdone : ∀ (Dd : Nat) (W : World), wl.heap.size ≤ Dd → RIc w D at_ wl.heap.size (backTo ps m) W → W.heap[Dd]? = some (.deferred (some [])) → Q .normal { a with defers := { target := .collected Dd, args := #[] } :: a.defers } W)
    (hstop : ∀ (Dd : Nat) (pre : List (Nat × Pt)) (W : World), wl.heap.size ≤ Dd → (∃ k, k ≤ m ∧ pre = backTo ps k) → RIx w at_ .ret pre W → W.heap[Dd]? = some (.deferred (some [])) → Code.ret.wpIn Fence.wide 6 Try.prog Q { a with defers := { target := .collected Dd, args := #[] } :: a.defers } W) :
    (Code.rangeFunc g #[24, 25] assign body).wpIn Fence.wide 6 Try.prog Q a wl := by
  refine wpIn_rangeFunc_ownH rfl (by omega) (gf := 53) (lb := #[.pointer (some ⟨Bs, 0, none⟩)]) hg trivial (enters_of Try.func53 (by kernel_rfl) rfl)
    (back_stops 5 (by omega) Bs w.heap.size cap m pa ps hm w (Nat.le_refl _) hp wl hb0 hb0.size hBn hBs) kpS_t (kpS_b hb0.size hBn) (Below.refl _ _) (fun _ => rfl)
    (RIc w D at_ wl.heap.size) (RIx w at_) (ric_own w D at_ _ hC) (fun c => rix_own w at_ c _ hC) ⟨h0, Nat.le_refl _⟩ (RAx wl.heap.size a.tmps) (rax_own wl.heap.size a.tmps) ?_ ?_ ?_ ?_
  · intro l pre x W K hi hK
    have h := hassign l pre x W K hi hK
    have e : (#[24, 25].zip (encB x)).foldl (fun (t : Array Value) (x : Nat × Value) => match x with | (p, v) => t.setIfInBounds p v) a.tmps = (a.tmps.setIfInBounds 24 (.int .i64 (x.1 : Int))).setIfInBounds 25 (.agg #[.int .i64 x.2.at_, .int .u8 x.2.d.z0, .int .u8 x.2.d.z1, .int .u8 x.2.d.z2, .int .u8 x.2.d.z3, .int .u8 x.2.d.z4, .int .u8 x.2.d.z5, .int .u8 x.2.d.z6, .int .u8 x.2.d.z7]) := by simp [encB]
    rw [e]
    exact h
  · intro l pre x a' W _ _ hi ha hlt
    exact hbody l pre x a' W hi ha hlt
  · rintro Dd xs W hD rfl hi hK
    exact hdone Dd W hD hi hK
  · intro Dd c pre W hD hs hx hK
    have hc := hx.1
    subst hc
    exact hstop Dd pre W hD hs hx hK
end Go.Proofs.Ytfbmaemnbolplaa

/-
  Packets: as they lie in memory; one more; alike or not.
-/
namespace Go.Proofs.Ytfbmaemnbolplaa
open Go.RowKit

end Go.Proofs.Ytfbmaemnbolplaa

/-
  Where a block is in a list (First, slices.Index, slices.Contains); whether a list may be what was had (HadMay, cache.Check).
-/
namespace Go.Proofs.Ytfbmaemnbolplaa
open Go.RowKit

instance : DecidableEq B8 := fun x y => decidable_of_iff _ (B8.eq_list x y)

namespace Mx
/-- the first place of a block, or -1 -/
def firstI (l : List B8) (b : B8) : Int := if b ∈ l then (l.idxOf b : Int) else -1
/-- what may have been had -/
def hmay (l : List B8) : Int := if 8 < l.length then 2 else if l.Nodup then 0 else 3

theorem firstI_at {l : List B8} {b : B8} {k : Nat} (h : l[k]? = some b) (hn : ∀ j : Nat, j < k → l[j]? ≠ some b) : firstI l b = k := by
  have hm : b ∈ l := List.mem_of_getElem? h
  rw [firstI, if_pos hm]
  congr 1
  have hk : k < l.length := (List.getElem?_eq_some_iff.1 h).1
  have h1 : l.idxOf b < l.length := List.idxOf_lt_length_of_mem hm
  have h2 : l[l.idxOf b]? = some b := by rw [List.getElem?_eq_getElem h1, List.getElem_idxOf h1]
  have h3 : ¬ l.idxOf b < k := fun h => hn _ h h2
  have h4 : ¬ k < l.idxOf b := fun h5 => by
    have h6 := List.not_of_lt_findIdx h5
    have h7 := (List.getElem?_eq_some_iff.1 h).2
    simp [h7] at h6
  omega
theorem firstI_none {l : List B8} {b : B8} (hn : ∀ j : Nat, j < l.length → l[j]? ≠ some b) : firstI l b = -1 := by
  rw [firstI, if_neg]
  intro hm
  obtain ⟨i, hi, e⟩ := List.getElem_of_mem hm
  exact hn i hi (by rw [List.getElem?_eq_getElem hi, e])
theorem firstI_nonneg (l : List B8) (b : B8) : decide (0 ≤ firstI l b) = decide (b ∈ l) := by
  by_cases h : b ∈ l
  · rw [firstI, if_pos h]
    simp [h]
  · rw [firstI, if_neg h]
    simp [h]
theorem firstI_lt {l : List B8} {b : B8} {k : Nat} (h : l[k]? = some b) : (firstI l b < k) ↔ b ∈ l.take k := by
  have hm : b ∈ l := List.mem_of_getElem? h
  have hk : k < l.length := (List.getElem?_eq_some_iff.1 h).1
  have h1 : l.idxOf b < l.length := List.idxOf_lt_length_of_mem hm
  rw [firstI, if_pos hm]
  constructor
  · intro h2
    have h2' : l.idxOf b < k := by omega
    refine List.mem_of_getElem? (i := l.idxOf b) ?_
    rw [List.getElem?_take_of_lt h2', List.getElem?_eq_getElem h1, List.getElem_idxOf h1]
  · intro h2
    obtain ⟨j, hj, e⟩ := List.getElem_of_mem h2
    rw [List.length_take] at hj
    rw [List.getElem_take] at e
    have h4 : ¬ j < l.idxOf b := fun h5 => by
      have h6 := List.not_of_lt_findIdx h5
      simp [e] at h6
    omega
theorem nodup_snoc {l : List B8} {k : Nat} {b : B8} (h : l[k]? = some b) (hn : (l.take k).Nodup) (hb : b ∉ l.take k) : (l.take (k + 1)).Nodup := by
  rw [getElem_take_succ _ _ _ h, List.nodup_append]
  refine ⟨hn, by simp, fun x hx y hy => ?_⟩
  rintro rfl
  simp at hy
  subst hy
  exact hb hx
theorem nodup_not {l : List B8} {k : Nat} {b : B8} (h : l[k]? = some b) (hb : b ∈ l.take k) : ¬ l.Nodup := by
  intro hn
  have h1 : (l.take (k + 1)).Nodup := hn.sublist (List.take_sublist _ _)
  rw [getElem_take_succ _ _ _ h, List.nodup_append] at h1
  exact h1.2.2 b hb b (by simp) rfl
theorem hmay_long {l : List B8} (h : 8 < l.length) : hmay l = 2 := by rw [hmay, if_pos h]
theorem hmay_twice {l : List B8} {k : Nat} {b : B8} (hl : ¬ 8 < l.length) (h : l[k]? = some b) (hb : b ∈ l.take k) : hmay l = 3 := by rw [hmay, if_neg hl, if_neg (nodup_not h hb)]
theorem hmay_good {l : List B8} {k : Nat} (hl : ¬ 8 < l.length) (hk : l.length ≤ k) (h : (l.take k).Nodup) : hmay l = 0 := by
  rw [List.take_of_length_le hk] at h
  rw [hmay, if_neg hl, if_pos h]
end Mx

theorem Bx.drewN {w : World} {g : Nat} {cs : Array Value} {t : TypeId} (h : Bx w g cs t) (n : Nat) : Bx (w.drewN n) g cs t := h
theorem BL.take {w : World} {a : Option Addr} {n : Nat} {l : List B8} (h : BL w a n l) (k : Nat) (hk : k ≤ n) : BL w a k (l.take k) := by
  have hl : (l.take k).length = k := by rw [List.length_take, h.1]; omega
  refine ⟨hl, by rw [flatB_len, hl], by have := h.2.2.1; omega, fun hp => ?_⟩
  obtain ⟨b, off, ha, hb, hc⟩ := h.2.2.2 (by omega)
  refine ⟨b, off, ha, hb, fun j u hj => hc j u ?_⟩
  have e : flatB l = flatB (l.take k) ++ flatB (l.drop k) := by unfold flatB; rw [← List.flatMap_append, List.take_append_drop]
  rw [e, List.getElem?_append_left (List.getElem?_eq_some_iff.1 hj).1]
  exact hj

end Go.Proofs.Ytfbmaemnbolplaa

/-
  Whether a list may be what was had, as the program says it (cache.Check).
-/
namespace Go.Proofs.Ytfbmaemnbolplaa
open Go.RowKit

end Go.Proofs.Ytfbmaemnbolplaa

/-
  Puts whose places rise: the document's answer (Rising), and the program's (checkPuts, step); what a peer may be (PlanMay, checkPeer); where a block is (Find).
-/
namespace Go.Proofs.Ytfbmaemnbolplaa
open Go.RowKit

namespace Mx
def dP : Pt := ⟨0, zB⟩
/-- the least place that the k-th put may have -/
def nextOf (ps : List Pt) : Nat → Int
  | 0 => 0
  | k + 1 => (ps.getD k dP).at_ + 1
def goodAt (n : Int) (ps : List Pt) (k : Nat) : Bool := decide (nextOf ps k ≤ (ps.getD k dP).at_) && decide ((ps.getD k dP).at_ < n)
/-- the places rise, and are of n -/
def riseB (n : Int) (ps : List Pt) : Bool := (List.range ps.length).all (goodAt n ps)
theorem riseB_not {n : Int} {ps : List Pt} {k : Nat} (hk : k < ps.length) (h : goodAt n ps k = false) : riseB n ps = false := by
  unfold riseB
  rw [List.all_eq_false]
  exact ⟨k, List.mem_range.2 hk, by rw [h]; simp⟩
theorem riseB_all {n : Int} {ps : List Pt} (h : ∀ k, k < ps.length → goodAt n ps k = true) : riseB n ps = true := by
  unfold riseB
  rw [List.all_eq_true]
  exact fun k hk => h k (List.mem_range.1 hk)
theorem riseB_at {n : Int} {ps : List Pt} (h : riseB n ps = true) {k : Nat} {p : Pt} (hp : ps[k]? = some p) : nextOf ps k ≤ p.at_ ∧ p.at_ < n := by
  unfold riseB at h
  rw [List.all_eq_true] at h
  have h1 := h k (List.mem_range.2 (List.getElem?_eq_some_iff.1 hp).1)
  unfold goodAt at h1
  rw [List.getD_eq_getElem?_getD, hp] at h1
  simpa using h1
/-- so far they rise -/
def riseTo (n : Int) (ps : List Pt) (k : Nat) : Prop := ∀ j, j < k → goodAt n ps j = true
theorem riseTo_next {n : Int} {ps : List Pt} {k : Nat} (h : riseTo n ps k) : 0 ≤ nextOf ps k := by
  induction k with
  | zero => exact Int.le_refl _
  | succ k ih =>
    have h1 := h k (by omega)
    have h2 := ih (fun j hj => h j (by omega))
    unfold goodAt at h1
    simp only [Bool.and_eq_true, decide_eq_true_eq] at h1
    show 0 ≤ (ps.getD k dP).at_ + 1
    omega
theorem riseTo_succ {n : Int} {ps : List Pt} {k : Nat} (h : riseTo n ps k) (hg : goodAt n ps k = true) : riseTo n ps (k + 1) := by
  intro j hj
  rcases Nat.lt_succ_iff_lt_or_eq.1 hj with h1 | h1
  · exact h j h1
  · subst h1
    exact hg
theorem riseB_zero {n : Int} {ps : List Pt} (h : riseB n ps = true) {k : Nat} : riseTo n ps k ∨ ps.length ≤ k := by
  by_cases hk : k ≤ ps.length
  · left
    intro j hj
    unfold riseB at h
    rw [List.all_eq_true] at h
    exact h j (List.mem_range.2 (by omega))
  · right
    omega
end Mx

end Go.Proofs.Ytfbmaemnbolplaa

/-
  Epochs: mathematics: the last put of each place; epochs and builders, and what F1 to F3 say of them.
-/
namespace Go.Proofs.Ytfbmaemnbolplaa
open Go.RowKit

/-- an epoch; a builder -/
structure Ep where
  num : Int
  puts : List Pt
structure Bu where
  num : Int
  op : List Pt
  se : List Ep
  be : Bool

namespace Mx
/-- places rise from k on, and are below 32 -/
def Rk : Int → List Pt → Prop
  | _, [] => True
  | k, p :: l => k ≤ p.at_ ∧ p.at_ < 32 ∧ Rk (p.at_ + 1) l
/-- what is at a place -/
def lk : List Pt → Nat → Option B8
  | [], _ => none
  | p :: l, i => if p.at_ = (i : Int) then some p.d else lk l i
/-- a put put in -/
def putR : List Pt → Pt → List Pt
  | [], p => [p]
  | q :: l, p => if q.at_ < p.at_ then q :: putR l p else if q.at_ = p.at_ then p :: l else p :: q :: l
/-- the last puts as an array; what they are -/
def takeF (fs : List (Option B8)) (ps : List Pt) : List (Option B8) := ps.foldl (fun fs p => fs.set p.at_.toNat (some p.d)) fs
def putsFrom : Nat → List (Option B8) → List Pt
  | _, [] => []
  | k, none :: fs => putsFrom (k + 1) fs
  | k, some d :: fs => ⟨(k : Int), d⟩ :: putsFrom (k + 1) fs
def toL (k m : Nat) (ps : List Pt) : List (Option B8) := (List.range' k m).map (lk ps)

theorem putsFrom_append (k : Nat) (l m : List (Option B8)) : putsFrom k (l ++ m) = putsFrom k l ++ putsFrom (k + l.length) m := by
  induction l generalizing k with
  | nil => simp [putsFrom]
  | cons o l ih =>
    cases o with
    | none =>
      rw [List.cons_append, putsFrom, putsFrom, ih, List.length_cons, show k + 1 + l.length = k + (l.length + 1) by omega]
    | some d =>
      rw [List.cons_append, putsFrom, putsFrom, ih, List.length_cons, show k + 1 + l.length = k + (l.length + 1) by omega, List.cons_append]
theorem rk_lower {k j : Int} {l : List Pt} (h : Rk k l) (hj : j ≤ k) : Rk j l := by
  cases l with
  | nil => trivial
  | cons p l => exact ⟨by have := h.1; omega, h.2.1, h.2.2⟩
theorem rk_mem {k : Int} {l : List Pt} (h : Rk k l) : ∀ q ∈ l, k ≤ q.at_ ∧ q.at_ < 32 := by
  induction l generalizing k with
  | nil => intro q hq; cases hq
  | cons p l ih =>
    intro q hq
    rcases List.mem_cons.1 hq with rfl | hq
    · exact ⟨h.1, h.2.1⟩
    · have h1 := ih h.2.2 q hq
      have h2 := h.1
      exact ⟨by omega, h1.2⟩
theorem lk_none {k : Int} {l : List Pt} (h : Rk k l) {i : Nat} (hi : (i : Int) < k) : lk l i = none := by
  induction l generalizing k with
  | nil => rfl
  | cons p l ih =>
    have h1 := h.1
    rw [lk, if_neg (by omega)]
    exact ih h.2.2 (by omega)
theorem putsFrom_toL (m k : Nat) (l : List Pt) (h : Rk (k : Int) l) (hm : ∀ q ∈ l, q.at_ < (k : Int) + m) : putsFrom k (toL k m l) = l := by
  induction m generalizing k l with
  | zero =>
    cases l with
    | nil => rfl
    | cons p l =>
      have h1 := h.1
      have h2 := hm p (List.mem_cons_self ..)
      exfalso
      omega
  | succ m ih =>
    unfold toL
    rw [List.range'_succ, List.map_cons]
    cases l with
    | nil =>
      rw [show lk [] k = none from rfl, putsFrom]
      exact ih (k + 1) [] trivial (fun q hq => by cases hq)
    | cons p l =>
      by_cases he : p.at_ = (k : Int)
      · rw [show lk (p :: l) k = some p.d by rw [lk, if_pos he], putsFrom]
        have hc : (List.range' (k + 1) m).map (lk (p :: l)) = toL (k + 1) m l := by
          unfold toL
          refine List.map_congr_left fun i hi => ?_
          have := List.mem_range'_1.1 hi
          rw [lk, if_neg (by omega)]
        rw [hc, ih (k + 1) l (by have := h.2.2; rw [he] at this; exact_mod_cast this) (fun q hq => by have := hm q (List.mem_cons_of_mem _ hq); push_cast at this ⊢; omega)]
        rw [← he]
      · rw [show lk (p :: l) k = none by rw [lk, if_neg he]; exact lk_none h.2.2 (by have := h.1; omega), putsFrom]
        exact ih (k + 1) (p :: l) ⟨by have := h.1; push_cast; omega, h.2.1, h.2.2⟩ (fun q hq => by have := hm q hq; push_cast at this ⊢; omega)
theorem lk_putR (l : List Pt) (p : Pt) (i : Nat) : lk (putR l p) i = if p.at_ = (i : Int) then some p.d else lk l i := by
  induction l with
  | nil => rfl
  | cons q l ih =>
    rw [putR]
    split
    · rw [lk, lk, ih]
      split
      · rw [if_neg (by omega)]
      · rfl
    · split
      · rw [lk, lk]
        split
        · rfl
        · rw [if_neg (by omega)]
      · rw [lk]
theorem rk_putR {k : Int} {l : List Pt} {p : Pt} (h : Rk k l) (h1 : k ≤ p.at_) (h2 : p.at_ < 32) : Rk k (putR l p) := by
  induction l generalizing k with
  | nil => exact ⟨h1, h2, trivial⟩
  | cons q l ih =>
    have h3 := h.1
    rw [putR]
    split
    · exact ⟨h.1, h.2.1, ih h.2.2 (by omega)⟩
    · split
      · next he => exact ⟨h1, h2, by have := h.2.2; rw [he] at this; exact this⟩
      · exact ⟨h1, h2, by omega, h.2.1, h.2.2⟩
theorem toL_putR {l : List Pt} {p : Pt} (h1 : 0 ≤ p.at_) (_h2 : p.at_ < 32) : (toL 0 32 l).set p.at_.toNat (some p.d) = toL 0 32 (putR l p) := by
  apply List.ext_getElem?
  intro i
  unfold toL
  rw [List.getElem?_set]
  simp only [List.getElem?_map, List.length_map, List.length_range']
  by_cases hi : i < 32
  · rw [List.getElem?_range' hi]
    by_cases he : p.at_.toNat = i
    · rw [if_pos he, if_pos (by omega), Option.map_some, lk_putR, if_pos (by omega)]
    · rw [if_neg he, Option.map_some, Option.map_some, lk_putR, if_neg (by omega)]
  · have hn : (List.range' 0 32)[i]? = none := List.getElem?_eq_none (by simp; omega)
    rw [hn]
    split
    · rw [if_neg (by omega)]
      rfl
    · rfl
theorem takeF_toL (ps l : List Pt) (h : ∀ q ∈ ps, 0 ≤ q.at_ ∧ q.at_ < 32) : takeF (toL 0 32 l) ps = toL 0 32 (ps.foldl putR l) := by
  induction ps generalizing l with
  | nil => rfl
  | cons p ps ih =>
    have hp := h p (List.mem_cons_self ..)
    have h1 := ih (putR l p) (fun q hq => h q (List.mem_cons_of_mem _ hq))
    unfold takeF at h1 ⊢
    rw [List.foldl_cons, toL_putR hp.1 hp.2, h1, List.foldl_cons]
theorem rk_foldl {ps l : List Pt} (hl : Rk 0 l) (h : ∀ q ∈ ps, 0 ≤ q.at_ ∧ q.at_ < 32) : Rk 0 (ps.foldl putR l) := by
  induction ps generalizing l with
  | nil => exact hl
  | cons p ps ih =>
    have hp := h p (List.mem_cons_self ..)
    exact ih (rk_putR hl hp.1 hp.2) (fun q hq => h q (List.mem_cons_of_mem _ hq))
theorem putR_end {l : List Pt} {p : Pt} (h : ∀ q ∈ l, q.at_ < p.at_) : putR l p = l ++ [p] := by
  induction l with
  | nil => rfl
  | cons q l ih => rw [putR, if_pos (h q (List.mem_cons_self ..)), ih (fun x hx => h x (List.mem_cons_of_mem _ hx)), List.cons_append]
theorem foldl_rise {k : Int} {ps l : List Pt} (h : Rk k ps) (hl : ∀ q ∈ l, q.at_ < k) : ps.foldl putR l = l ++ ps := by
  induction ps generalizing k l with
  | nil => simp
  | cons p ps ih =>
    have h1 := h.1
    rw [List.foldl_cons, putR_end (fun q hq => by have := hl q hq; omega), ih h.2.2 (fun q hq => by
      rcases List.mem_append.1 hq with h2 | h2
      · have := hl q h2
        omega
      · simp at h2
        subst h2
        omega), List.append_assoc]
    rfl
def noneL : List (Option B8) := List.replicate 32 none
theorem noneL_toL : noneL = toL 0 32 [] := by
  rfl
/-- what the array says when puts were taken, one behind the other -/
theorem puts_take {ps : List Pt} (h : ∀ q ∈ ps, 0 ≤ q.at_ ∧ q.at_ < 32) : putsFrom 0 (takeF noneL ps) = ps.foldl putR [] := by
  rw [noneL_toL, takeF_toL ps [] h]
  have hr := rk_foldl (l := []) trivial h
  exact putsFrom_toL 32 0 _ hr (fun q hq => by have := (rk_mem hr q hq).2; omega)
theorem takeF_append (fs : List (Option B8)) (p q : List Pt) : takeF fs (p ++ q) = takeF (takeF fs p) q := by unfold takeF; rw [List.foldl_append]
theorem puts_add {ps : List Pt} {p : Pt} (h : Rk 0 ps) (h1 : 0 ≤ p.at_) (h2 : p.at_ < 32) : putsFrom 0 (takeF (takeF noneL ps) [p]) = putR ps p := by
  rw [← takeF_append, puts_take (fun q hq => by
    rcases List.mem_append.1 hq with h3 | h3
    · exact rk_mem h q h3
    · simp at h3
      subst h3
      exact ⟨h1, h2⟩), List.foldl_append, foldl_rise h (fun q hq => by cases hq)]
  rfl

/-- the document's way to put it in -/
def stepF (p : Pt) (s : List Pt × Bool) (q : Pt) : List Pt × Bool :=
  let s1 := if !s.2 && decide (p.at_ ≤ q.at_) then (s.1 ++ [p], true) else s
  (if q.at_ = p.at_ then s1.1 else s1.1 ++ [q], s1.2)
def finF (p : Pt) (s : List Pt × Bool) : List Pt := if s.2 then s.1 else s.1 ++ [p]
def putF (l : List Pt) (p : Pt) : List Pt := finF p (l.foldl (stepF p) ([], false))
theorem fold_done (p : Pt) (l out : List Pt) (h : ∀ q ∈ l, q.at_ ≠ p.at_) : l.foldl (stepF p) (out, true) = (out ++ l, true) := by
  induction l generalizing out with
  | nil => simp
  | cons q l ih =>
    rw [List.foldl_cons, show stepF p (out, true) q = (out ++ [q], true) by unfold stepF; simp [h q (List.mem_cons_self ..)], ih _ (fun x hx => h x (List.mem_cons_of_mem _ hx)), List.append_assoc]
    rfl
theorem fold_fin {k : Int} (p : Pt) (l out : List Pt) (h : Rk k l) : finF p (l.foldl (stepF p) (out, false)) = out ++ putR l p := by
  induction l generalizing k out with
  | nil => simp [finF, putR]
  | cons q l ih =>
    rw [List.foldl_cons, putR]
    by_cases h1 : q.at_ < p.at_
    · rw [if_pos h1, show stepF p (out, false) q = (out ++ [q], false) by unfold stepF; rw [show decide (p.at_ ≤ q.at_) = false by simp; omega]; simp; omega, ih (out ++ [q]) h.2.2, List.append_assoc]
      rfl
    · rw [if_neg h1]
      have hd : decide (p.at_ ≤ q.at_) = true := by simp; omega
      by_cases h2 : q.at_ = p.at_
      · rw [if_pos h2, show stepF p (out, false) q = (out ++ [p], true) by unfold stepF; rw [hd]; simp [h2], fold_done p l _ (fun x hx => by have := (rk_mem h.2.2 x hx).1; omega)]
        simp [finF]
      · rw [if_neg h2, show stepF p (out, false) q = (out ++ [p] ++ [q], true) by unfold stepF; rw [hd]; simp [h2], fold_done p l _ (fun x hx => by have := (rk_mem h.2.2 x hx).1; omega)]
        simp [finF]
theorem putF_eq {k : Int} {l : List Pt} (p : Pt) (h : Rk k l) : putF l p = putR l p := by
  unfold putF
  rw [fold_fin p l [] h]
  rfl

/-- from the places that rise -/
theorem rk_of {n : Int} {ps : List Pt} (h : riseB n ps = true) (hn : n ≤ 32) : Rk 0 ps := by
  have key : ∀ m j, ps.length - j = m → Rk (nextOf ps j) (ps.drop j) := by
    intro m
    induction m with
    | zero =>
      intro j hj
      rw [List.drop_of_length_le (by omega)]
      trivial
    | succ m ih =>
      intro j hj
      have hlt : j < ps.length := by omega
      rw [List.drop_eq_getElem_cons hlt]
      have h1 := riseB_at h (List.getElem?_eq_getElem hlt)
      refine ⟨h1.1, by omega, ?_⟩
      have h2 := ih (j + 1) (by omega)
      rw [nextOf, List.getD_eq_getElem?_getD, List.getElem?_eq_getElem hlt] at h2
      exact h2
  exact key ps.length 0 (by omega)

/-- F1 -/
def goodE (n num : Int) (len i : Nat) (e : Ep) : Bool := riseB n e.puts && decide (e.num = num - len + 1 + i)
def dE : Ep := ⟨0, []⟩
def folB (es : List Ep) (num n : Int) : Bool := decide ((es.length : Int) ≤ num) && (List.range es.length).all (fun i => goodE n num es.length i (es.getD i dE))
def folTo (es : List Ep) (num n : Int) (k : Nat) : Prop := ∀ i, i < k → goodE n num es.length i (es.getD i dE) = true
def goodB (b : Bu) (n : Int) : Bool := !(b.be && decide (0 < b.se.length)) && riseB n b.op && folB b.se b.num n
def bmay (b : Bu) (n : Int) : Int :=
  if n < 1 ∨ 32 < n ∨ b.num < 0 ∨ 2147483647 < b.num then 1 else if 4 < b.se.length then 2 else if goodB b n then 0 else 3
theorem folB_not {es : List Ep} {num n : Int} {i : Nat} (hi : i < es.length) (h : goodE n num es.length i (es.getD i dE) = false) : folB es num n = false := by
  unfold folB
  rw [Bool.and_eq_false_iff]
  right
  rw [List.all_eq_false]
  exact ⟨i, List.mem_range.2 hi, by rw [h]; simp⟩
theorem folB_neg {es : List Ep} {num n : Int} (h : num < es.length) : folB es num n = false := by
  unfold folB
  rw [Bool.and_eq_false_iff]
  left
  simp
  omega
theorem folB_all {es : List Ep} {num n : Int} (h0 : (es.length : Int) ≤ num) (h : folTo es num n es.length) : folB es num n = true := by
  unfold folB
  rw [Bool.and_eq_true]
  refine ⟨by simpa using h0, ?_⟩
  rw [List.all_eq_true]
  exact fun i hi => h i (List.mem_range.1 hi)
theorem folTo_succ {es : List Ep} {num n : Int} {k : Nat} (h : folTo es num n k) (hg : goodE n num es.length k (es.getD k dE) = true) : folTo es num n (k + 1) := by
  intro j hj
  rcases Nat.lt_succ_iff_lt_or_eq.1 hj with h1 | h1
  · exact h j h1
  · subst h1
    exact hg
theorem folB_at {es : List Ep} {num n : Int} (h : folB es num n = true) {i : Nat} {e : Ep} (he : es[i]? = some e) : riseB n e.puts = true ∧ e.num = num - es.length + 1 + i := by
  unfold folB at h
  rw [Bool.and_eq_true, List.all_eq_true] at h
  have h1 := h.2 i (List.mem_range.2 (List.getElem?_eq_some_iff.1 he).1)
  unfold goodE at h1
  rw [List.getD_eq_getElem?_getD, he] at h1
  simpa using h1
theorem folB_len {es : List Ep} {num n : Int} (h : folB es num n = true) : (es.length : Int) ≤ num := by
  unfold folB at h
  rw [Bool.and_eq_true] at h
  simpa using h.1

/-- F2, F3 -/
def many (b : Bu) (k : Int) : Nat := min (b.num - k).toNat b.se.length
def keptE (b : Bu) (k : Int) : List Ep := b.se.drop (b.se.length - many b k)
def addB (b : Bu) (p : Pt) : Bu := ⟨b.num, putR b.op p, b.se, b.be⟩
def fullB (b : Bu) : Bool := b.be || decide (b.se.length = 4)
def sealE (b : Bu) : Bu := ⟨b.num + 1, [], if fullB b then [] else b.se ++ [⟨b.num + 1, b.op⟩], fullB b⟩
def dropB (b : Bu) (k : Int) : Bu := ⟨b.num, b.op, keptE b k, b.be && decide (k ≠ b.num)⟩
def putsOf (es : List Ep) : List Pt := (es.flatMap (·.puts)).foldl putR []
def zBu : Bu := ⟨0, [], [], false⟩

theorem keptE_filter {b : Bu} {n k : Int} (h : folB b.se b.num n = true) (hk : k ≤ b.num) : b.se.filter (fun e => decide (k < e.num)) = keptE b k := by
  have hlen := folB_len h
  have key : ∀ m i, b.se.length - i = m → (b.se.drop i).filter (fun e => decide (k < e.num)) = b.se.drop (max i (b.se.length - many b k)) := by
    intro m
    induction m with
    | zero =>
      intro i hi
      rw [List.drop_of_length_le (by omega), List.drop_of_length_le (by omega)]
      rfl
    | succ m ih =>
      intro i hi
      have hlt : i < b.se.length := by omega
      have h1 := (folB_at h (List.getElem?_eq_getElem hlt)).2
      have h2 := ih (i + 1) (by omega)
      rw [List.drop_eq_getElem_cons hlt, List.filter_cons]
      by_cases hc : k < (b.se[i]).num
      · rw [if_pos (by simpa using hc), h2]
        have hm : b.se.length - many b k ≤ i := by unfold many; omega
        rw [show max (i + 1) (b.se.length - many b k) = i + 1 by omega, show max i (b.se.length - many b k) = i by omega, List.drop_eq_getElem_cons hlt]
      · rw [if_neg (by simpa using hc), h2]
        have hm : i < b.se.length - many b k := by unfold many; omega
        rw [show max (i + 1) (b.se.length - many b k) = b.se.length - many b k by omega, show max i (b.se.length - many b k) = b.se.length - many b k by omega]
  have := key b.se.length 0 (by omega)
  rw [List.drop_zero] at this
  rw [this]
  unfold keptE
  rw [Nat.zero_max]
end Mx
end Go.Proofs.Ytfbmaemnbolplaa

/-
  A great function in parts: its tail from a statement on, as a proposition of its own, whatever the function and what is said of it.
-/
namespace Go.Proofs.Ytfbmaemnbolplaa
open Go.RowKit

def sndG : Code → Code
  | .seq _ b => b
  | c => c

def itsG : Nat → Code → Code
  | 0, c => c
  | k + 1, c => sndG (itsG k c)

def TailG (f : Func) (P : Ending → World → Prop) (k : Nat) (a : Act) (x : World) : Prop :=
  Code.wp Try.prog (itsG k (f.body.getD .skip)) (bodyPost Try.prog f P) a x

theorem tailG_step {f : Func} {P : Ending → World → Prop} {k : Nat} {x : World} {a : Act} {s : Code} (h : itsG k (f.body.getD .skip) = .seq s (itsG (k + 1) (f.body.getD .skip)))
    (hs : ∀ K : Act → World → Prop, (∀ a' x', Met (TailG f P (k + 1)) a' x' → K a' x') → Code.wp Try.prog s (Exit.then K (bodyPost Try.prog f P)) a x) : TailG f P k a x := by
  unfold TailG
  rw [h]
  refine wp_seq_k (fun K hK => hs K (fun a' x' hm => hK a' x' hm))

theorem tailG_last {f : Func} {P : Ending → World → Prop} {k : Nat} {x : World} {a : Act} {c : Code} (h : itsG k (f.body.getD .skip) = c)
    (hs : Code.wp Try.prog c (bodyPost Try.prog f P) a x) : TailG f P k a x := by
  unfold TailG
  rw [h]
  exact hs

end Go.Proofs.Ytfbmaemnbolplaa

/-
  Read: the last pending block of a place, or else the safe one.
-/
namespace Go.Proofs.Ytfbmaemnbolplaa
open Go.RowKit Go.Shelf
attribute [local go_sem] Oper.semAt_some

theorem keeps_set8 (W : World) (g o : Nat) (x : B8) : KeepsOthers W (set8 W g o x) :=
  ((((((((KeepsOthers.setCell _ _ _).trans (KeepsOthers.setCell _ _ _)).trans (KeepsOthers.setCell _ _ _)).trans (KeepsOthers.setCell _ _ _)).trans (KeepsOthers.setCell _ _ _)).trans (KeepsOthers.setCell _ _ _)).trans (KeepsOthers.setCell _ _ _)).trans (KeepsOthers.setCell _ _ _))

theorem box_fill8 {W : World} {g : Nat} {a0 a1 a2 a3 a4 a5 a6 a7 : Value} {t : TypeId} (h : Bx W g #[a0, a1, a2, a3, a4, a5, a6, a7] t) (x : B8) : Bx (set8 W g 0 x) g #[.int .u8 x.z0, .int .u8 x.z1, .int .u8 x.z2, .int .u8 x.z3, .int .u8 x.z4, .int .u8 x.z5, .int .u8 x.z6, .int .u8 x.z7] t := by
  unfold Bx at *
  unfold set8
  simp [World.setCell, Array.getElem?_modify, h]

theorem RI.later {w W W' : World} {D : Array Value} {at_ : Int} {pre : List (Nat × Pt)} (h : RI w D at_ pre W) (hb : Below W.heap.size W W') : RI w D at_ pre W' := by
  obtain ⟨b0, b1, b2, b3, bb, bs, hn⟩ := h
  exact ⟨b0.later hb b0.lt, b1.later hb b1.lt, b2.later hb b2.lt, b3.later hb b3.lt, bb.trans (hb.mono bb.size), by have := hb.size; omega, hn⟩

theorem RI.start (w : World) (D : Array Value) (at_ : Int) (w0 : World) (hw0 : w0 = (((w.alloc (.cells D 29)).alloc (.cells #[.int .i64 at_] 3)).alloc (.cells #[.int .u8 0, .int .u8 0, .int .u8 0, .int .u8 0, .int .u8 0, .int .u8 0, .int .u8 0, .int .u8 0] 38)).alloc (.cells #[.nilIface] 24)) : RI w D at_ [] w0 := by
  subst hw0
  refine ⟨(((Bx.new w D 29).alloc _).alloc _).alloc _, ?_, ?_, ?_, (((below_alloc _ _).alloc (by simp) _).alloc (by simp; omega) _).alloc (by simp; omega) _, by simp, by simp⟩
  · have h := ((Bx.new (w.alloc (.cells D 29)) #[.int .i64 at_] 3).alloc (.cells #[.int .u8 0, .int .u8 0, .int .u8 0, .int .u8 0, .int .u8 0, .int .u8 0, .int .u8 0, .int .u8 0] 38)).alloc (.cells #[.nilIface] 24)
    rw [World.size_alloc] at h
    exact h
  · have h := (Bx.new ((w.alloc (.cells D 29)).alloc (.cells #[.int .i64 at_] 3)) #[.int .u8 0, .int .u8 0, .int .u8 0, .int .u8 0, .int .u8 0, .int .u8 0, .int .u8 0, .int .u8 0] 38).alloc (.cells #[.nilIface] 24)
    rw [World.size_alloc, World.size_alloc] at h
    exact h
  · have h := Bx.new (((w.alloc (.cells D 29)).alloc (.cells #[.int .i64 at_] 3)).alloc (.cells #[.int .u8 0, .int .u8 0, .int .u8 0, .int .u8 0, .int .u8 0, .int .u8 0, .int .u8 0, .int .u8 0] 38)) #[.nilIface] 24
    rw [World.size_alloc, World.size_alloc, World.size_alloc] at h
    exact h

set_option maxHeartbeats 2000000 in
set_option maxRecDepth 100000 in
theorem read_any (sa pa : Option Addr) (n sc m pc : Nat) (left at_ : Int) (ls : List B8) (ps : List Pt) (w : World) (hs : BL w sa n ls) (hp : PL w pa m ps) (hm : Mx.dread n ps left at_ = 0) (x : B8) (hx : x = Mx.readB ls ps at_) :
    Calls Try.prog 21 #[.agg #[.slice sa n sc, .slice pa m pc, .int .i64 left], .int .i64 at_] w fun e w' =>
      e = .returned (.tuple #[.agg #[.int .u8 x.z0, .int .u8 x.z1, .int .u8 x.z2, .int .u8 x.z3, .int .u8 x.z4, .int .u8 x.z5, .int .u8 x.z6, .int .u8 x.z7], .nilIface]) ∧ Below w.heap.size w w' := by
  obtain ⟨hpl, hleft⟩ : Hid (Mx.dplace n ps at_ = 0) ∧ ¬ left = 0 := by
    unfold Mx.dread at hm
    split at hm
    · rename_i h1
      split at hm
      · omega
      · rename_i h2
        exact ⟨h1, h2⟩
    · contradiction
  obtain ⟨hn1, hm8, hat0, hat1⟩ : n ≤ 200 ∧ m ≤ 800 ∧ 0 ≤ at_ ∧ at_ < n := by
    have h := hpl.out
    unfold Mx.dplace at h
    split at h
    · rename_i h1
      obtain ⟨_, h3, h4, _⟩ := Mx.dmay_facts h1
      split at h
      · rename_i h2
        exact ⟨h3, by rw [← hp.1]; exact h4, h2.1, h2.2⟩
      · omega
    · contradiction
  have HS := hide hs
  have HP := hide hp
  have HX := hide hx
  have HPL := hide hp.1
  have HNN := hide (show n ≤ maxLen from hs.2.2.1)
  clear hs hp hm hx
  have hle : (left == 0) = false := by simpa using hleft
  refine (callsIn_wide (n := 6)).1 ?_
  refine callsIn_of_wp_marks Try.func21 rfl trivial ?_ rfl
  simp only [Try.ntmps21, List.size_toArray, List.length_cons, List.length_nil, Nat.reduceAdd, Nat.reduceSub, Array.replicate_succ, Array.replicate_zero, List.push_toArray, List.append_toArray, List.nil_append, List.cons_append]
  gi_wp2_with fail
  refine ⟨trivial, ?_⟩
  obtain ⟨w0, hw0⟩ : ∃ w0 : World, Hid (w0 = (((w.alloc (.cells #[.slice sa n sc, .slice pa m pc, .int .i64 left] 29)).alloc (.cells #[.int .i64 at_] 3)).alloc (.cells #[.int .u8 0, .int .u8 0, .int .u8 0, .int .u8 0, .int .u8 0, .int .u8 0, .int .u8 0, .int .u8 0] 38)).alloc (.cells #[.nilIface] 24)) := ⟨_, rfl⟩
  have HR0 := hide (RI.start w #[.slice sa n sc, .slice pa m pc, .int .i64 left] at_ w0 hw0.out)
  rw [← hw0.out]
  refine (callsIn_wide.2 (checkPlace_any sa pa n sc m pc left at_ ps w0 (HP.out.later HR0.out.2.2.2.2.1) HNN.out)).mono ?_
  rintro e w1 ⟨rfl, hb1⟩
  rw [hpl.out, errV_zero]
  have HR1 := hide (HR0.out.later hb1)
  clear hb1
  obtain ⟨f0, f1, f2⟩ := HR1.out.1.three
  have hsz := HR1.out.2.2.2.2.2.1
  gi_wp2_with fail
  refine ⟨trivial, ?_⟩
  refine (backward_in 5 pa m pc w1).mono ?_
  rintro e w2 ⟨rfl, rfl⟩
  gi_wp2_with fail
  have HRL := hide (HR1.out.later (below_alloc w1 (.cells #[.slice pa m pc] 22)))
  refine rangeBack w #[.slice sa n sc, .slice pa m pc, .int .i64 left] at_ w1.heap.size pc m pa ps rfl (by omega) HP.out HRL.out.2.2.2.2.1 (by simp) HRL.out.2.2.2.2.2.1 ?hBs HRL.out ?assign ?body ?done ?stop
  case hBs => rw [World.cell?_alloc_new]; rfl
  case assign =>
    intro lp pre x W K hi hK
    simp only [List.setIfInBounds_toArray, List.set_cons_succ, List.set_cons_zero]
    gi_wp2
    have hsW : w1.heap.size + 1 ≤ W.heap.size := by have := hi.2; simpa using this
    exact hK _ _ ((KeepsOthers.alloc _ _).from _) ⟨(Below.refl _ _).alloc (by omega) _, Below.heap_alloc W _ _ (by omega)⟩ ⟨hi.1.later (below_alloc _ _), by simp; omega⟩ ⟨W.heap.size, by simpa using hsW, heap_alloc_new W _, rfl⟩
  case body =>
    rintro lp pre ⟨i, p⟩ a' W ⟨hi, hsW⟩ ⟨gx, hgx, hbx, rfl⟩ hlt
    have HI := hide hi
    have HSW := hide hsW
    obtain ⟨d0, d1, d2⟩ := hi.1.three
    have at0 := hi.2.1.cell 0
    obtain ⟨y0, y1, y2, y3, y4, y5, y6, y7⟩ := (show Bx W (w.heap.size + 2) #[.int .u8 zB.z0, .int .u8 zB.z1, .int .u8 zB.z2, .int .u8 zB.z3, .int .u8 zB.z4, .int .u8 zB.z5, .int .u8 zB.z6, .int .u8 zB.z7] 38 from hi.2.2.1).eight
    have yz := hi.2.2.1.frozen
    have v0 := hi.2.2.2.1.cell 0
    have vz := hi.2.2.2.1.frozen
    have x0 := hbx.cell 0
    have x1 := hbx.cell 1
    have x2 := hbx.cell 2
    have x3 := hbx.cell 3
    have x4 := hbx.cell 4
    have x5 := hbx.cell 5
    have x6 := hbx.cell 6
    have x7 := hbx.cell 7
    have x8 := hbx.cell 8
    have hgw : w1.heap.size + 1 ≤ gx := by simpa using hgx
    have HBX := hide hbx
    clear hi hsW hbx hgx
    simp only [List.setIfInBounds_toArray, List.set_cons_succ, List.set_cons_zero] at at0 v0 x0 x1 x2 x3 x4 x5 x6 x7 x8 ⊢
    by_cases hpe : p.at_ = at_
    · have hpe2 : (p.at_ == at_) = true := by simpa using hpe
      have HPE := hide hpe
      clear hpe
      gi_wp2_with fail
      show KeepsFrom _ W ((set8 W (w.heap.size + 2) 0 p.d).setCell ⟨w.heap.size + 3, 0, none⟩ .nilIface) ∧ RIx w at_ .ret (pre ++ [(i, p)]) ((set8 W (w.heap.size + 2) 0 p.d).setCell ⟨w.heap.size + 3, 0, none⟩ .nilIface)
      obtain ⟨b0, b1, b2, b3, bb, bs, hn⟩ := HI.out
      refine ⟨((keeps_set8 _ _ _ _).trans (KeepsOthers.setCell _ _ _)).from _, rfl, pre, i, p, rfl, HPE.out, hn, (box_fill8 b2 p.d).other _ _ (by show w.heap.size + 2 ≠ w.heap.size + 3; omega), (Bx.set8 b3 (by omega) 0 p.d).set 0 .nilIface, (set8_below bb (by omega) 0 p.d).setCell (p := ⟨w.heap.size + 3, 0, none⟩) (by show w.heap.size ≤ w.heap.size + 3; omega) _, ?_⟩
      simp [set8, World.setCell]
      omega
    · have hpe2 : (p.at_ == at_) = false := by simpa using hpe
      have HPE := hide hpe
      clear hpe
      gi_wp2
      refine ⟨(KeepsOthers.refl _).from _, ⟨Below.refl _ _, rfl⟩, ⟨HI.out.1, HI.out.2.1, HI.out.2.2.1, HI.out.2.2.2.1, HI.out.2.2.2.2.1, HI.out.2.2.2.2.2.1, ?_⟩, by have := HSW.out; simpa using this⟩
      intro z hz
      rcases List.mem_append.1 hz with h | h
      · exact HI.out.2.2.2.2.2.2 z h
      · simp at h
        subst h
        exact HPE.out
  case done =>
    intro Dd W hD hi hK
    have HI := hide hi.1
    have HK := hide hK
    have hD' : w1.heap.size + 1 ≤ Dd := by simpa using hD
    obtain ⟨d0, d1, d2⟩ := hi.1.1.three
    have at0 := hi.1.2.1.cell 0
    obtain ⟨y0, y1, y2, y3, y4, y5, y6, y7⟩ := (show Bx W (w.heap.size + 2) #[.int .u8 zB.z0, .int .u8 zB.z1, .int .u8 zB.z2, .int .u8 zB.z3, .int .u8 zB.z4, .int .u8 zB.z5, .int .u8 zB.z6, .int .u8 zB.z7] 38 from hi.1.2.2.1).eight
    have yz := hi.1.2.2.1.frozen
    have v0 := hi.1.2.2.2.1.cell 0
    have vz := hi.1.2.2.2.1.frozen
    clear hi hK hD
    obtain ⟨j, hj⟩ := Int.eq_ofNat_of_zero_le hat0
    obtain ⟨b, off, z, hsa, hb, hz, c0, c1, c2, c3, c4, c5, c6, c7⟩ := (HS.out.later HI.out.2.2.2.2.1).at_ j (by omega)
    subst hsa
    have HZ := hide (show x = z by
      rw [HX.out, readB_none (by rw [HPL.out]; exact HI.out.2.2.2.2.2.2), hj, Int.toNat_natCast, List.getD_eq_getElem?_getD, hz]
      rfl)
    have hjn : (j : Int) < n := by omega
    subst hj
    clear hz
    simp only [List.getElem?_toArray, List.getElem?_cons_zero] at at0 v0
    gi_wp2
    show bodyPostM Fence.wide 6 Try.prog Try.f21 _ Exit.ret _ ((set8 W (w.heap.size + 2) 0 z).setCell ⟨w.heap.size + 3, 0, none⟩ .nilIface)
    obtain ⟨WF, hWF⟩ : ∃ WF : World, Hid (WF = (set8 W (w.heap.size + 2) 0 z).setCell ⟨w.heap.size + 3, 0, none⟩ .nilIface) := ⟨_, rfl⟩
    rw [← hWF.out]
    obtain ⟨b0, b1, b2, b3, bb, bs, hn⟩ := HI.out
    have B2 : Bx WF (w.heap.size + 2) #[.int .u8 z.z0, .int .u8 z.z1, .int .u8 z.z2, .int .u8 z.z3, .int .u8 z.z4, .int .u8 z.z5, .int .u8 z.z6, .int .u8 z.z7] 38 := by rw [hWF.out]; exact (box_fill8 b2 z).other _ _ (by show w.heap.size + 2 ≠ w.heap.size + 3; omega)
    have B3 : Bx WF (w.heap.size + 3) #[.nilIface] 24 := by rw [hWF.out]; exact (Bx.set8 b3 (by omega) 0 z).set 0 .nilIface
    have BB : Below w.heap.size w WF := by rw [hWF.out]; exact (set8_below bb (by omega) 0 z).setCell (p := ⟨w.heap.size + 3, 0, none⟩) (by show w.heap.size ≤ w.heap.size + 3; omega) _
    have hKf : WF.heap[Dd]? = some (.deferred (some [])) := by
      rw [hWF.out, Below.heap_setCell _ _ _ _ (by show Dd ≠ w.heap.size + 3; omega), set8_other (by omega)]
      exact HK.out
    have hgO := grownBy_putObj' WF Dd (.deferred none)
    have hrO : ∀ r, some Dd = some r → ∃ o : Obj, WF.heap[r]? = some o ∧ o.isCells = false := fun r e => by cases e; exact ⟨_, hKf, rfl⟩
    have hb2 : Bx (WF.putObj Dd (.deferred none)) (w.heap.size + 2) #[.int .u8 z.z0, .int .u8 z.z1, .int .u8 z.z2, .int .u8 z.z3, .int .u8 z.z4, .int .u8 z.z5, .int .u8 z.z6, .int .u8 z.z7] 38 := cells_kept B2 hgO hrO
    have hb3 : Bx (WF.putObj Dd (.deferred none)) (w.heap.size + 3) #[.nilIface] 24 := cells_kept B3 hgO hrO
    have hbl := BB.grown hgO BB.size (fun k e => by cases e; omega)
    refine ⟨by simp, .inl ⟨_, _, rfl, run_takeDeferred hKf, ?_⟩⟩
    generalize WF.putObj Dd (.deferred none) = WG at *
    obtain ⟨q0, q1, q2, q3, q4, q5, q6, q7⟩ := hb2.eight
    have qv := hb3.cell 0
    simp only [List.getElem?_toArray, List.getElem?_cons_zero] at qv
    exact ⟨.tuple #[.agg #[.int .u8 z.z0, .int .u8 z.z1, .int .u8 z.z2, .int .u8 z.z3, .int .u8 z.z4, .int .u8 z.z5, .int .u8 z.z6, .int .u8 z.z7], .nilIface], by simp [results, Try.results21, go_sem, q0, q1, q2, q3, q4, q5, q6, q7, qv], by rw [HZ.out], hbl⟩
  case stop =>
    rintro Dd pre W hD ⟨k, hk, rfl⟩ ⟨_, pre', i, p, e1, e2, e3, b2, b3, bb, bs⟩ hK
    have hD' : w1.heap.size + 1 ≤ Dd := by simpa using hD
    have HZ := hide (show x = p.d by rw [HX.out, readB_found (by rw [HPL.out]; exact hk) e1.symm e2 e3])
    have hgO := grownBy_putObj' W Dd (.deferred none)
    have hrO : ∀ r, some Dd = some r → ∃ o : Obj, W.heap[r]? = some o ∧ o.isCells = false := fun r e => by cases e; exact ⟨_, hK, rfl⟩
    have hb2 : Bx (W.putObj Dd (.deferred none)) (w.heap.size + 2) #[.int .u8 p.d.z0, .int .u8 p.d.z1, .int .u8 p.d.z2, .int .u8 p.d.z3, .int .u8 p.d.z4, .int .u8 p.d.z5, .int .u8 p.d.z6, .int .u8 p.d.z7] 38 := cells_kept b2 hgO hrO
    have hb3 : Bx (W.putObj Dd (.deferred none)) (w.heap.size + 3) #[.nilIface] 24 := cells_kept b3 hgO hrO
    have hbl := bb.grown hgO bb.size (fun k e => by cases e; omega)
    gi_wp2
    refine ⟨by simp, .inl ⟨_, _, rfl, run_takeDeferred hK, ?_⟩⟩
    generalize W.putObj Dd (.deferred none) = WG at *
    obtain ⟨q0, q1, q2, q3, q4, q5, q6, q7⟩ := hb2.eight
    have qv := hb3.cell 0
    simp only [List.getElem?_toArray, List.getElem?_cons_zero] at qv
    exact ⟨.tuple #[.agg #[.int .u8 p.d.z0, .int .u8 p.d.z1, .int .u8 p.d.z2, .int .u8 p.d.z3, .int .u8 p.d.z4, .int .u8 p.d.z5, .int .u8 p.d.z6, .int .u8 p.d.z7], .nilIface], by simp [results, Try.results21, go_sem, q0, q1, q2, q3, q4, q5, q6, q7, qv], by rw [HZ.out], hbl⟩

theorem read_fin {w w1 : World} {D : Array Value} {at_ : Int} {pre : List (Nat × Pt)} (h : RI w D at_ pre w1) (v : Value) : Bx ((set8 w1 (w.heap.size + 2) 0 zB).setCell ⟨w.heap.size + 3, 0, none⟩ v) (w.heap.size + 2) #[.int .u8 0, .int .u8 0, .int .u8 0, .int .u8 0, .int .u8 0, .int .u8 0, .int .u8 0, .int .u8 0] 38 ∧ Bx ((set8 w1 (w.heap.size + 2) 0 zB).setCell ⟨w.heap.size + 3, 0, none⟩ v) (w.heap.size + 3) #[v] 24 ∧ Below w.heap.size w ((set8 w1 (w.heap.size + 2) 0 zB).setCell ⟨w.heap.size + 3, 0, none⟩ v) := by
  obtain ⟨b0, b1, b2, b3, bb, bs, hn⟩ := h
  exact ⟨(box_fill8 b2 zB).other _ _ (by show w.heap.size + 2 ≠ w.heap.size + 3; omega), (Bx.set8 b3 (by omega) 0 zB).set 0 v, (set8_below bb (by omega) 0 zB).setCell (p := ⟨w.heap.size + 3, 0, none⟩) (by show w.heap.size ≤ w.heap.size + 3; omega) _⟩

set_option maxHeartbeats 2000000 in
set_option maxRecDepth 100000 in
theorem read_err (sa pa : Option Addr) (n sc m pc : Nat) (left at_ : Int) (ps : List Pt) (w : World) (hn : n ≤ maxLen) (hp : PL w pa m ps) (hm : ¬ Mx.dread n ps left at_ = 0) :
    Calls Try.prog 21 #[.agg #[.slice sa n sc, .slice pa m pc, .int .i64 left], .int .i64 at_] w fun e w' =>
      e = .returned (.tuple #[.agg #[.int .u8 0, .int .u8 0, .int .u8 0, .int .u8 0, .int .u8 0, .int .u8 0, .int .u8 0, .int .u8 0], errV (Mx.dread n ps left at_)]) ∧ Below w.heap.size w w' := by
  have HP := hide hp
  have HM := hide hm
  have HNN := hide hn
  clear hp hm hn
  refine (callsIn_wide (n := 6)).1 ?_
  refine callsIn_of_wp_marks Try.func21 rfl trivial ?_ rfl
  simp only [Try.ntmps21, List.size_toArray, List.length_cons, List.length_nil, Nat.reduceAdd, Nat.reduceSub, Array.replicate_succ, Array.replicate_zero, List.push_toArray, List.append_toArray, List.nil_append, List.cons_append]
  gi_wp2_with fail
  refine ⟨trivial, ?_⟩
  obtain ⟨w0, hw0⟩ : ∃ w0 : World, Hid (w0 = (((w.alloc (.cells #[.slice sa n sc, .slice pa m pc, .int .i64 left] 29)).alloc (.cells #[.int .i64 at_] 3)).alloc (.cells #[.int .u8 0, .int .u8 0, .int .u8 0, .int .u8 0, .int .u8 0, .int .u8 0, .int .u8 0, .int .u8 0] 38)).alloc (.cells #[.nilIface] 24)) := ⟨_, rfl⟩
  have HR0 := hide (RI.start w #[.slice sa n sc, .slice pa m pc, .int .i64 left] at_ w0 hw0.out)
  rw [← hw0.out]
  refine (callsIn_wide.2 (checkPlace_any sa pa n sc m pc left at_ ps w0 (HP.out.later HR0.out.2.2.2.2.1) HNN.out)).mono ?_
  rintro e w1 ⟨rfl, hb1⟩
  have HR1 := hide (HR0.out.later hb1)
  clear hb1
  obtain ⟨f0, f1, f2⟩ := HR1.out.1.three
  obtain ⟨y0, y1, y2, y3, y4, y5, y6, y7⟩ := (show Bx w1 (w.heap.size + 2) #[.int .u8 zB.z0, .int .u8 zB.z1, .int .u8 zB.z2, .int .u8 zB.z3, .int .u8 zB.z4, .int .u8 zB.z5, .int .u8 zB.z6, .int .u8 zB.z7] 38 from HR1.out.2.2.1).eight
  have yz := HR1.out.2.2.1.frozen
  have v0 := HR1.out.2.2.2.1.cell 0
  have vz := HR1.out.2.2.2.1.frozen
  simp only [List.getElem?_toArray, List.getElem?_cons_zero] at v0
  have hsz := HR1.out.2.2.2.2.2.1
  by_cases hpl : Mx.dplace n ps at_ = 0
  · have HPL := hide hpl
    rw [hpl, errV_zero]
    clear hpl
    by_cases hl : left = 0
    · have HE := hide (show Mx.dread n ps left at_ = 4 by unfold Mx.dread; rw [if_pos HPL.out, if_pos hl])
      have hle : (left == 0) = true := by simpa using hl
      clear hl
      gi_wp2_with fail
      obtain ⟨B2, B3, BB⟩ := read_fin HR1.out (.iface 35 (.int .i64 4))
      show bodyPostM Fence.wide 6 Try.prog Try.f21 _ Exit.ret _ ((set8 w1 (w.heap.size + 2) 0 zB).setCell ⟨w.heap.size + 3, 0, none⟩ (.iface 35 (.int .i64 4)))
      generalize (set8 w1 (w.heap.size + 2) 0 zB).setCell ⟨w.heap.size + 3, 0, none⟩ (.iface 35 (.int .i64 4)) = WG at *
      obtain ⟨q0, q1, q2, q3, q4, q5, q6, q7⟩ := Bx.eight (x := zB) B2
      have qv := B3.cell 0
      simp only [List.getElem?_toArray, List.getElem?_cons_zero] at qv
      exact ⟨.tuple #[.agg #[.int .u8 0, .int .u8 0, .int .u8 0, .int .u8 0, .int .u8 0, .int .u8 0, .int .u8 0, .int .u8 0], .iface 35 (.int .i64 4)], by simp [results, Try.results21, go_sem, q0, q1, q2, q3, q4, q5, q6, q7, qv, zB], by rw [HE.out]; rfl, BB⟩
    · exact absurd (show Mx.dread n ps left at_ = 0 by unfold Mx.dread; rw [if_pos HPL.out, if_neg hl]) HM.out
  · have HE := hide (show Mx.dread n ps left at_ = Mx.dplace n ps at_ by unfold Mx.dread; rw [if_neg hpl])
    rw [errV_not hpl]
    have HPL := hide hpl
    clear hpl
    gi_wp2_with fail
    obtain ⟨B2, B3, BB⟩ := read_fin HR1.out (.iface 35 (.int .i64 (Mx.dplace n ps at_)))
    show bodyPostM Fence.wide 6 Try.prog Try.f21 _ Exit.ret _ ((set8 w1 (w.heap.size + 2) 0 zB).setCell ⟨w.heap.size + 3, 0, none⟩ (.iface 35 (.int .i64 (Mx.dplace n ps at_))))
    generalize (set8 w1 (w.heap.size + 2) 0 zB).setCell ⟨w.heap.size + 3, 0, none⟩ (.iface 35 (.int .i64 (Mx.dplace n ps at_))) = WG at *
    obtain ⟨q0, q1, q2, q3, q4, q5, q6, q7⟩ := Bx.eight (x := zB) B2
    have qv := B3.cell 0
    simp only [List.getElem?_toArray, List.getElem?_cons_zero] at qv
    exact ⟨.tuple #[.agg #[.int .u8 0, .int .u8 0, .int .u8 0, .int .u8 0, .int .u8 0, .int .u8 0, .int .u8 0, .int .u8 0], .iface 35 (.int .i64 (Mx.dplace n ps at_))], by simp [results, Try.results21, go_sem, q0, q1, q2, q3, q4, q5, q6, q7, qv, zB], by rw [HE.out, errV_not HPL.out], BB⟩
end Go.Proofs.Ytfbmaemnbolplaa

/-
  Write: the put is pending, behind the others, in fresh memory.
-/
namespace Go.Proofs.Ytfbmaemnbolplaa
open Go.RowKit

namespace Mx
/-- B2's error of a Write -/
def dwrite (n : Nat) (ps : List Pt) (left at_ : Int) : Int := if dplace n ps at_ = 0 then (if ps.length = 800 then 2 else if left = 0 then 4 else 0) else dplace n ps at_
end Mx

set_option maxHeartbeats 8000000 in
set_option maxRecDepth 100000 in
theorem write_any (sa pa : Option Addr) (n sc m pc : Nat) (left at_ : Int) (x : B8) (ls : List B8) (ps : List Pt) (w : World) (hs : BL w sa n ls) (hp : PL w pa m ps) (hl1 : -9223372036854775808 ≤ left) (hl2 : left ≤ 9223372036854775807) (hm : Mx.dwrite n ps left at_ = 0) :
    Calls Try.prog 51 #[.agg #[.slice sa n sc, .slice pa m pc, .int .i64 left], .int .i64 at_, .agg #[.int .u8 x.z0, .int .u8 x.z1, .int .u8 x.z2, .int .u8 x.z3, .int .u8 x.z4, .int .u8 x.z5, .int .u8 x.z6, .int .u8 x.z7]] w fun e w' =>
      ∃ v1 v2, e = .returned (.tuple #[.agg #[v1, v2, .int .i64 (Mx.less left)], .nilIface]) ∧ OwnBL w' w.heap.size v1 ls ∧ OwnPL w' w.heap.size v2 (ps ++ [⟨at_, x⟩]) ∧ Below w.heap.size w w' := by
  have HS := hide hs
  have HP := hide hp
  have HM := hide hm
  have HNN := hide (show n ≤ maxLen from hs.2.2.1)
  have HL := hide (And.intro hl1 hl2)
  clear hs hp hm hl1 hl2
  obtain ⟨hpl, h8, hleft⟩ : Hid (Mx.dplace n ps at_ = 0) ∧ ¬ ps.length = 800 ∧ ¬ left = 0 := by
    have h := HM.out
    unfold Mx.dwrite at h
    split at h
    · rename_i h1
      split at h
      · omega
      · rename_i h2
        split at h
        · omega
        · rename_i h3
          exact ⟨h1, h2, h3⟩
    · contradiction
  have hn1 : Hid (n ≤ 200 ∧ m ≤ 800) := by
    have h := hpl.out
    unfold Mx.dplace at h
    split at h
    · rename_i h1
      obtain ⟨_, h3, h4, _⟩ := Mx.dmay_facts h1
      exact ⟨h3, by rw [← HP.out.1]; exact h4⟩
    · contradiction
  have hm8 : ¬ m = 800 := by rw [← HP.out.1]; exact h8
  clear h8
  have hnm := hn1.out
  have hme : ((m : Int) == 800) = false := by simp; omega
  have hle : (left == 0) = false := by simpa using hleft
  go_enter Try.func51, Try.ntmps51
  go_wp2_with fail
  refine (checkPlace_any sa pa n sc m pc left at_ ps _ (HP.out.later (((below_alloc _ _).alloc (by simp) _).alloc (by simp; omega) _)) HNN.out).mono ?_
  rintro e w1 ⟨rfl, hb1⟩
  rw [hpl.out, errV_zero]
  have HBD := hide (show Bx w1 w.heap.size #[.slice sa n sc, .slice pa m pc, .int .i64 left] 29 from (((Bx.new w _ 29).alloc _).alloc _).later hb1 (by simp; omega))
  have HBX := hide (show Bx w1 (w.heap.size + 1) #[.int .u8 x.z0, .int .u8 x.z1, .int .u8 x.z2, .int .u8 x.z3, .int .u8 x.z4, .int .u8 x.z5, .int .u8 x.z6, .int .u8 x.z7] 38 from by
    have h := ((Bx.new (w.alloc (.cells #[.slice sa n sc, .slice pa m pc, .int .i64 left] 29)) #[.int .u8 x.z0, .int .u8 x.z1, .int .u8 x.z2, .int .u8 x.z3, .int .u8 x.z4, .int .u8 x.z5, .int .u8 x.z6, .int .u8 x.z7] 38).alloc (.cells #[.slice none 0 0, .slice none 0 0, .int .i64 0] 29)).later hb1 (by simp)
    rw [World.size_alloc] at h
    exact h)
  have HBR := hide (show Bx w1 (w.heap.size + 2) #[.slice none 0 0, .slice none 0 0, .int .i64 0] 29 from by
    have h := (Bx.new ((w.alloc (.cells #[.slice sa n sc, .slice pa m pc, .int .i64 left] 29)).alloc (.cells #[.int .u8 x.z0, .int .u8 x.z1, .int .u8 x.z2, .int .u8 x.z3, .int .u8 x.z4, .int .u8 x.z5, .int .u8 x.z6, .int .u8 x.z7] 38)) #[.slice none 0 0, .slice none 0 0, .int .i64 0] 29).later hb1 (by simp)
    rw [World.size_alloc, World.size_alloc] at h
    exact h)
  have HBel := hide ((((below_alloc w (.cells #[.slice sa n sc, .slice pa m pc, .int .i64 left] 29)).alloc (by simp) _).alloc (by simp; omega) _).trans (hb1.mono (by simp; omega)))
  have hsz : w.heap.size + 3 ≤ w1.heap.size := by have := hb1.size; simp at this; omega
  clear hb1
  have HS1 := hide (HS.out.later HBel.out)
  have HP1 := hide (HP.out.later HBel.out)
  obtain ⟨f0, f1, f2⟩ := HBD.out.three
  have hg1 : w.heap.size < w1.heap.size := by omega
  have HN6 := hide (show n ≤ 1000000 ∧ m ≤ 1000000 by omega)
  go_wp2_with fail
  go_cut [9] (fun s9 wx => ∃ gn a1 c1 a2 c2, s9 = .pointer (some ⟨gn, 0, none⟩) ∧ Hid (Made w1 wx gn (.slice a1 n c1) (.slice a2 m c2) (.int .i64 (Mx.less left)) ls ps))
  case first =>
    go_region_held (fun w' => w'.cell? ⟨w.heap.size, 0, none⟩ = some (.slice sa n sc) ∧ w'.cell? ⟨w.heap.size, 1, none⟩ = some (.slice pa m pc) ∧ w'.cell? ⟨w.heap.size, 2, none⟩ = some (.int .i64 left) ∧ Below w1.heap.size w1 w')
      (first | exact Held.drew HBD.out | exact Held.of HBD.out hbB.out.1 | exact Held.of HBD.out hbP.out.1 | assumption | (refine Held.alloc HBD.out ?_ _; assumption) | exact Held.of HBD.out (hbP.out.1.alloc hbP.out.1.size _) | exact Held.of HBD.out (hbB.out.1.alloc hbB.out.1.size _) | exact Held.of HBD.out ((Below.refl _ _).drew.alloc (Nat.le_refl _) _) | (refine Held.set HBD.out (Held.set HBD.out (Held.set HBD.out ?_ _ ?_ _) _ ?_ _) _ ?_ _ <;> assumption))
      (first
      | (go_at_call 39; refine (cloneB_at2 (w1 := w1) sa n sc ls _ HS1.out HN6.out.1 HBD.out (Bx.new _ _ _) ?hge ?hbS).mono ?_; (case hge => first | exact Nat.le_refl _ | exact hbP.out.1.size); (case hbS => simp only [*]); rintro e wB ⟨a1, c1, rfl, hoB, hbB, ⟨q0, q1, q2, q3, q4⟩, hxB, hgB, r0, r1, r2, r3, r4⟩)
      | (go_at_call 39; refine (cloneB_at2 (w1 := w1) sa n sc ls _ HS1.out HN6.out.1 HBD.out (Bx.newD _ _ _) ?hge ?hbS).mono ?_; (case hge => first | exact Nat.le_refl _ | exact hbP.out.1.size); (case hbS => simp only [*]); rintro e wB ⟨a1, c1, rfl, hoB, hbB, ⟨q0, q1, q2, q3, q4⟩, hxB, hgB, r0, r1, r2, r3, r4⟩)
      | (go_at_call 39; refine (cloneB_at2 (w1 := w1) sa n sc ls _ HS1.out HN6.out.1 HBD.out hxP.out hgP ?hbS).mono ?_; (case hbS => simp only [*]); rintro e wB ⟨a1, c1, rfl, hoB, hbB, ⟨q0, q1, q2, q3, q4⟩, hxB, hgB, r0, r1, r2, r3, r4⟩)
      | (go_at_call 39; refine (cloneB_at (w1 := w1) sa n sc ls _ HS1.out HN6.out.1 HBD.out ?hbS).mono ?_; (case hbS => simp only [*]); rintro e wB ⟨a1, c1, rfl, hoB, hbB, q0, q1, q2, q3, q4⟩)
      | (go_at_call 46; refine (cloneP_at2 (w1 := w1) pa m pc ps _ HP1.out HN6.out.2 HBD.out (Bx.new _ _ _) ?hge ?hbS).mono ?_; (case hge => first | exact Nat.le_refl _ | exact hbB.out.1.size); (case hbS => simp only [*]); rintro e wP ⟨a2, c2, rfl, hoP, hbP, ⟨q0, q1, q2, q3, q4⟩, hxP, hgP, r0, r1, r2, r3, r4⟩)
      | (go_at_call 46; refine (cloneP_at2 (w1 := w1) pa m pc ps _ HP1.out HN6.out.2 HBD.out (Bx.newD _ _ _) ?hge ?hbS).mono ?_; (case hge => first | exact Nat.le_refl _ | exact hbB.out.1.size); (case hbS => simp only [*]); rintro e wP ⟨a2, c2, rfl, hoP, hbP, ⟨q0, q1, q2, q3, q4⟩, hxP, hgP, r0, r1, r2, r3, r4⟩)
      | (go_at_call 46; refine (cloneP_at2 (w1 := w1) pa m pc ps _ HP1.out HN6.out.2 HBD.out hxB.out hgB ?hbS).mono ?_; (case hbS => simp only [*]); rintro e wP ⟨a2, c2, rfl, hoP, hbP, ⟨q0, q1, q2, q3, q4⟩, hxP, hgP, r0, r1, r2, r3, r4⟩)
      | (go_at_call 46; refine (cloneP_at (w1 := w1) pa m pc ps _ HP1.out HN6.out.2 HBD.out ?hbS).mono ?_; (case hbS => simp only [*]); rintro e wP ⟨a2, c2, rfl, hoP, hbP, q0, q1, q2, q3, q4⟩)
      | (go_at_call 54; refine (lessOne_any left _ HL.out.1 HL.out.2).mono ?_; rintro e wL ⟨rfl, rfl⟩))
    all_goals go_wp2_with fail
    all_goals go_meet
    all_goals first
      | exact ⟨_, _, _, _, _, rfl, made1 (W := w1.drew) (Nat.le_refl _) hoB.out hoP.out hbP.out hbB.out⟩
      | exact ⟨_, _, _, _, _, rfl, made2 (W := w1.drew) (Nat.le_refl _) hoB.out hbB.out hoP.out hbP.out⟩
      | exact ⟨_, _, _, _, _, rfl, made3 hoB.out hbB.out hoP.out hbP.out⟩
  case rest =>
  obtain ⟨gn, a1, c1, a2, c2, rfl, hmd⟩ := hcut
  obtain ⟨b0, b1, b2⟩ := hmd.out.1.three
  have bz := hmd.out.1.frozen
  have bl := hmd.out.1.lt
  obtain ⟨x0, x1, x2, x3, x4, x5, x6, x7⟩ := (HBX.out.later hmd.out.2.2.2.1 (by omega)).eight
  have HPL := hide (show ps.length = m from HP.out.1)
  have HMS := hide hmd.out.2.2.2.1.size
  have hgn : ¬ gn = w.heap.size + 2 := by have := hmd.out.2.2.2.2.1; omega
  go_wp2_with (at_builtin; refine wpList_append_put (w := wc) rfl _ _ rfl w1.heap.size ps ?c0 ⟨at_, x⟩ ?c1 ?c2 ?c3 ?_)
  case c0 => exact hmd.out.2.2.1
  case c1 => rfl
  case c2 => rw [HPL.out]; exact HN6.out.2
  case c3 => exact HMS.out
  intro ad cc w2 hown2 hg2
  obtain ⟨hOP, hG⟩ : Hid (OwnPL w2 w1.heap.size (.slice (some ad) (m + 1) cc) (ps ++ [⟨at_, x⟩])) ∧ Hid (wc.grownBy w2 (Value.slice a2 m c2).ownBlock) := by
    rw [HPL.out] at hown2
    exact ⟨hown2, hg2⟩
  rw [HPL.out]
  clear hown2 hg2
  have HB2 := hide (show Bx w2 gn #[.slice a1 n c1, .slice a2 m c2, .int .i64 (Mx.less left)] 29 from (hG.out.block gn bl (fun e => hmd.out.2.2.2.2.2.2.1 e.symm)).trans hmd.out.1)
  have HW2 := hide (show Below w1.heap.size w1 w2 from hmd.out.2.2.2.1.grown hG.out HMS.out (fun k hk => (World.ownsRow.lt hmd.out.2.2.1 k hk).1))
  have HO2 := hide (show OwnBL w2 w1.heap.size (.slice a1 n c1) ls from World.ownsRow.kept hmd.out.2.1 hG.out (by
    rcases hb : (Value.slice a1 n c1).ownBlock with _ | g
    · exact .inl rfl
    · exact .inr (fun e => hmd.out.2.2.2.2.2.2.2 g hb e.symm)))
  have HR2 := hide (HBR.out.later HW2.out (by omega))
  obtain ⟨d0, d1, d2⟩ := HB2.out.three
  have dz := HB2.out.frozen
  obtain ⟨e0, e1, e2⟩ := HR2.out.three
  have ez := HR2.out.frozen
  have hl2 : w.heap.size + 2 < w2.heap.size := HR2.out.lt
  clear b0 b1 b2 bz bl x0 x1 x2 x3 x4 x5 x6 x7 f0 f1 f2
  go_wp2_with fail
  have HBF := hide (((HR2.out.other ⟨gn, 1, none⟩ (.slice (some ad) (m + 1) cc) (fun e => hgn e.symm)).set 0 (.slice a1 n c1)).set 1 (.slice (some ad) (m + 1) cc) |>.set 2 (.int .i64 (Mx.less left)))
  obtain ⟨r0, r1, r2⟩ := (show Bx _ _ #[.slice a1 n c1, .slice (some ad) (m + 1) cc, .int .i64 (Mx.less left)] 29 from HBF.out).three
  refine bodyPost_ret (v := .tuple #[.agg #[.slice a1 n c1, .slice (some ad) (m + 1) cc, .int .i64 (Mx.less left)], .nilIface]) (by simp [results, Try.results51, go_sem, r0, r1, r2]) rfl ⟨_, _, rfl, ?_, ?_, ?_⟩
  · have k1 := own_ne_bx HO2.out HB2.out (by decide)
    have k2 := own_ne_bx HO2.out HR2.out (by decide)
    exact World.ownsRow.mono (ownsRow_other (ownsRow_other (ownsRow_other (ownsRow_other HO2.out _ _ k1) _ _ k2) _ _ k2) _ _ k2) HBel.out.size
  · have k1 := own_ne_bx hOP.out HB2.out (by decide)
    have k2 := own_ne_bx hOP.out HR2.out (by decide)
    have h := World.ownsRow.mono (ownsRow_other (ownsRow_other (ownsRow_other (ownsRow_other hOP.out ⟨gn, 1, none⟩ (.slice (some ad) (m + 1) cc) k1) ⟨w.heap.size + 2, 0, none⟩ (.slice a1 n c1) k2) ⟨w.heap.size + 2, 1, none⟩ (.slice (some ad) (m + 1) cc) k2) ⟨w.heap.size + 2, 2, none⟩ (.int .i64 (Mx.less left)) k2) HBel.out.size
    exact h
  · have hb := HBel.out.trans (HW2.out.mono HBel.out.size)
    have g1 : w.heap.size ≤ gn := by have := hmd.out.2.2.2.2.1; omega
    exact (((hb.setCell (p := ⟨gn, 1, none⟩) g1 _).setCell (p := ⟨w.heap.size + 2, 0, none⟩) (by simp) _).setCell (p := ⟨w.heap.size + 2, 1, none⟩) (by simp) _).setCell (p := ⟨w.heap.size + 2, 2, none⟩) (by simp) _

set_option maxHeartbeats 2000000 in
set_option maxRecDepth 100000 in
theorem write_err (sa pa : Option Addr) (n sc m pc : Nat) (left at_ : Int) (x : B8) (ps : List Pt) (w : World) (hn : n ≤ maxLen) (hp : PL w pa m ps) (hm : ¬ Mx.dwrite n ps left at_ = 0) :
    Calls Try.prog 51 #[.agg #[.slice sa n sc, .slice pa m pc, .int .i64 left], .int .i64 at_, .agg #[.int .u8 x.z0, .int .u8 x.z1, .int .u8 x.z2, .int .u8 x.z3, .int .u8 x.z4, .int .u8 x.z5, .int .u8 x.z6, .int .u8 x.z7]] w fun e w' =>
      e = .returned (.tuple #[.agg #[.slice none 0 0, .slice none 0 0, .int .i64 0], errV (Mx.dwrite n ps left at_)]) ∧ Below w.heap.size w w' := by
  have HP := hide hp
  have HM := hide hm
  have HNN := hide hn
  have HML := hide (show m ≤ maxLen from hp.2.2.1)
  clear hp hm hn
  go_enter Try.func51, Try.ntmps51
  go_wp2_with fail
  refine (checkPlace_any sa pa n sc m pc left at_ ps _ (HP.out.later (((below_alloc _ _).alloc (by simp) _).alloc (by simp; omega) _)) HNN.out).mono ?_
  rintro e w1 ⟨rfl, hb1⟩
  have HBD := hide (show Bx w1 w.heap.size #[.slice sa n sc, .slice pa m pc, .int .i64 left] 29 from (((Bx.new w _ 29).alloc _).alloc _).later hb1 (by simp; omega))
  have HBR := hide (show Bx w1 (w.heap.size + 2) #[.slice none 0 0, .slice none 0 0, .int .i64 0] 29 from by
    have h := (Bx.new ((w.alloc (.cells #[.slice sa n sc, .slice pa m pc, .int .i64 left] 29)).alloc (.cells #[.int .u8 x.z0, .int .u8 x.z1, .int .u8 x.z2, .int .u8 x.z3, .int .u8 x.z4, .int .u8 x.z5, .int .u8 x.z6, .int .u8 x.z7] 38)) #[.slice none 0 0, .slice none 0 0, .int .i64 0] 29).later hb1 (by simp)
    rw [World.size_alloc, World.size_alloc] at h
    exact h)
  have HBel := hide ((((below_alloc w (.cells #[.slice sa n sc, .slice pa m pc, .int .i64 left] 29)).alloc (by simp) _).alloc (by simp; omega) _).trans (hb1.mono (by simp; omega)))
  clear hb1
  obtain ⟨f0, f1, f2⟩ := HBD.out.three
  obtain ⟨e0, e1, e2⟩ := HBR.out.three
  have ez := HBR.out.frozen
  obtain ⟨r0, r1, r2⟩ := (show Bx _ _ #[.slice none 0 0, .slice none 0 0, .int .i64 0] 29 from (((HBR.out.set 0 (.slice none 0 0)).set 1 (.slice none 0 0)).set 2 (.int .i64 0))).three
  have HBF := hide (((HBel.out.setCell (p := ⟨w.heap.size + 2, 0, none⟩) (by simp) (.slice none 0 0)).setCell (p := ⟨w.heap.size + 2, 1, none⟩) (by simp) (.slice none 0 0)).setCell (p := ⟨w.heap.size + 2, 2, none⟩) (by simp) (.int .i64 0))
  by_cases hpl : Mx.dplace n ps at_ = 0
  · have HPL := hide hpl
    rw [hpl, errV_zero]
    clear hpl
    by_cases h8 : (m : Int) = 800
    · have HE := hide (show Mx.dwrite n ps left at_ = 2 by unfold Mx.dwrite; rw [if_pos HPL.out, if_pos (by rw [HP.out.1]; omega)])
      have hme : ((m : Int) == 800) = true := by simpa using h8
      clear h8
      go_wp2_with fail
      exact bodyPost_ret (v := .tuple #[.agg #[.slice none 0 0, .slice none 0 0, .int .i64 0], .iface 35 (.int .i64 2)]) (by simp [results, Try.results51, go_sem, r0, r1, r2]) rfl ⟨by rw [HE.out]; rfl, HBF.out⟩
    · have hme : ((m : Int) == 800) = false := by simpa using h8
      by_cases hl : left = 0
      · have HE := hide (show Mx.dwrite n ps left at_ = 4 by unfold Mx.dwrite; rw [if_pos HPL.out, if_neg (by rw [HP.out.1]; omega), if_pos hl])
        have hle : (left == 0) = true := by simpa using hl
        clear h8 hl
        go_wp2_with fail
        exact bodyPost_ret (v := .tuple #[.agg #[.slice none 0 0, .slice none 0 0, .int .i64 0], .iface 35 (.int .i64 4)]) (by simp [results, Try.results51, go_sem, r0, r1, r2]) rfl ⟨by rw [HE.out]; rfl, HBF.out⟩
      · exact absurd (show Mx.dwrite n ps left at_ = 0 by unfold Mx.dwrite; rw [if_pos HPL.out, if_neg (by rw [HP.out.1]; omega), if_neg hl]) HM.out
  · have HE := hide (show Mx.dwrite n ps left at_ = Mx.dplace n ps at_ by unfold Mx.dwrite; rw [if_neg hpl])
    rw [errV_not hpl]
    have HPL := hide hpl
    clear hpl
    go_wp2_with fail
    exact bodyPost_ret (v := .tuple #[.agg #[.slice none 0 0, .slice none 0 0, .int .i64 0], .iface 35 (.int .i64 (Mx.dplace n ps at_))]) (by simp [results, Try.results51, go_sem, r0, r1, r2]) rfl ⟨by rw [HE.out, errV_not HPL.out], HBF.out⟩
end Go.Proofs.Ytfbmaemnbolplaa

/-
  Tails of a part of a function: the code from a statement on.
-/
namespace Go.Proofs.Ytfbmaemnbolplaa
open Go.RowKit

/-- a part of a function, from a statement on -/
def TailQ (c : Code) (Q : Exit → Act → World → Prop) (k : Nat) (a : Act) (x : World) : Prop := Code.wp Try.prog (itsG k c) Q a x

theorem tailQ_step {c : Code} {Q : Exit → Act → World → Prop} {k : Nat} {x : World} {a : Act} {s : Code} (h : itsG k c = .seq s (itsG (k + 1) c))
    (hs : ∀ K : Act → World → Prop, (∀ a' x', Met (TailQ c Q (k + 1)) a' x' → K a' x') → Code.wp Try.prog s (Exit.then K Q) a x) : TailQ c Q k a x := by
  unfold TailQ
  rw [h]
  refine wp_seq_k (fun K hK => hs K (fun a' x' hm => hK a' x' hm))

theorem tailQ_last {c c' : Code} {Q : Exit → Act → World → Prop} {k : Nat} {x : World} {a : Act} (h : itsG k c = c') (hs : Code.wp Try.prog c' Q a x) : TailQ c Q k a x := by
  unfold TailQ
  rw [h]
  exact hs

theorem seq_step {s c : Code} {Q : Exit → Act → World → Prop} {a : Act} {x : World} (hs : ∀ K : Act → World → Prop, (∀ a' x', Met (fun a'' x'' => Code.wp Try.prog c Q a'' x'') a' x' → K a' x') → Code.wp Try.prog s (Exit.then K Q) a x) : Code.wp Try.prog (.seq s c) Q a x :=
  wp_seq_k (fun K hK => hs K (fun a' x' hm => hK a' x' hm))

def fstG : Code → Code
  | .seq s _ => s
  | c => c

/-- the way of an 'if' that is gone -/
def thenG : Code → Code
  | .seq _ (.cond _ t _) => t
  | c => c

/-- the body of a 'for' with a condition -/
def bodyG : Code → Code
  | .seq _ (.block _ (.loop (.seq _ (.seq (.block _ b) _)))) => b
  | c => c

end Go.Proofs.Ytfbmaemnbolplaa

/-
  What is made of raw numbers: a block (BlockFrom).
-/
namespace Go.Proofs.Ytfbmaemnbolplaa
open Go.RowKit

def B8.arr (x : B8) : Array Value := #[.int .u8 x.z0, .int .u8 x.z1, .int .u8 x.z2, .int .u8 x.z3, .int .u8 x.z4, .int .u8 x.z5, .int .u8 x.z6, .int .u8 x.z7]
theorem zB_ok : zB.ok := by intro z hz; simp [Mx.bytesOf, zB] at hz; omega
/-- a block with one byte another -/
theorem B8.setAt (x : B8) (hx : x.ok) (i : Nat) (hi : i < 8) (z : Int) (h0 : 0 ≤ z) (h1 : z ≤ 255) : ∃ y : B8, y.ok ∧ x.arr.setIfInBounds i (.int .u8 z) = y.arr := by
  have e := fun t ht => hx t ht
  simp only [Mx.bytesOf, List.mem_cons, List.not_mem_nil, or_false, forall_eq_or_imp, forall_eq] at e
  obtain ⟨e0, e1, e2, e3, e4, e5, e6, e7⟩ := e
  have key : ∀ y : B8, ((0 ≤ y.z0 ∧ y.z0 ≤ 255) ∧ (0 ≤ y.z1 ∧ y.z1 ≤ 255) ∧ (0 ≤ y.z2 ∧ y.z2 ≤ 255) ∧ (0 ≤ y.z3 ∧ y.z3 ≤ 255) ∧ (0 ≤ y.z4 ∧ y.z4 ≤ 255) ∧ (0 ≤ y.z5 ∧ y.z5 ≤ 255) ∧ (0 ≤ y.z6 ∧ y.z6 ≤ 255) ∧ (0 ≤ y.z7 ∧ y.z7 ≤ 255)) → y.ok := by
    intro y hy
    unfold B8.ok
    simp only [Mx.bytesOf, List.mem_cons, List.not_mem_nil, or_false, forall_eq_or_imp, forall_eq]
    exact hy
  match i, hi with
  | 0, _ => exact ⟨{ x with z0 := z }, key _ ⟨⟨h0, h1⟩, e1, e2, e3, e4, e5, e6, e7⟩, rfl⟩
  | 1, _ => exact ⟨{ x with z1 := z }, key _ ⟨e0, ⟨h0, h1⟩, e2, e3, e4, e5, e6, e7⟩, rfl⟩
  | 2, _ => exact ⟨{ x with z2 := z }, key _ ⟨e0, e1, ⟨h0, h1⟩, e3, e4, e5, e6, e7⟩, rfl⟩
  | 3, _ => exact ⟨{ x with z3 := z }, key _ ⟨e0, e1, e2, ⟨h0, h1⟩, e4, e5, e6, e7⟩, rfl⟩
  | 4, _ => exact ⟨{ x with z4 := z }, key _ ⟨e0, e1, e2, e3, ⟨h0, h1⟩, e5, e6, e7⟩, rfl⟩
  | 5, _ => exact ⟨{ x with z5 := z }, key _ ⟨e0, e1, e2, e3, e4, ⟨h0, h1⟩, e6, e7⟩, rfl⟩
  | 6, _ => exact ⟨{ x with z6 := z }, key _ ⟨e0, e1, e2, e3, e4, e5, ⟨h0, h1⟩, e7⟩, rfl⟩
  | 7, _ => exact ⟨{ x with z7 := z }, key _ ⟨e0, e1, e2, e3, e4, e5, e6, ⟨h0, h1⟩⟩, rfl⟩
  | n + 8, h => omega

theorem bx_put8 {w : World} {g : Nat} {y : B8} {t : TypeId} (h : Bx w g y.arr t) (x : B8) : Bx (set8 w g 0 x) g x.arr t := by
  have h8 := (((((((h.set 0 (.int .u8 x.z0)).set 1 (.int .u8 x.z1)).set 2 (.int .u8 x.z2)).set 3 (.int .u8 x.z3)).set 4 (.int .u8 x.z4)).set 5 (.int .u8 x.z5)).set 6 (.int .u8 x.z6)).set 7 (.int .u8 x.z7)
  have e : ((((((((y.arr.setIfInBounds 0 (.int .u8 x.z0)).setIfInBounds 1 (.int .u8 x.z1)).setIfInBounds 2 (.int .u8 x.z2)).setIfInBounds 3 (.int .u8 x.z3)).setIfInBounds 4 (.int .u8 x.z4)).setIfInBounds 5 (.int .u8 x.z5)).setIfInBounds 6 (.int .u8 x.z6)).setIfInBounds 7 (.int .u8 x.z7)) = x.arr := by simp [B8.arr]
  rw [e] at h8
  unfold set8
  simp only [Nat.zero_add]
  exact h8

set_option maxHeartbeats 4000000 in
set_option maxRecDepth 100000 in
theorem blockFrom_any (a : Option Addr) (n c : Nat) (l : List Int) (i : Nat) (w : World) (hl : Ints w a n l) (hb : I64 l) (hn : n ≤ 1000) (hi : i ≤ 90000) :
    Calls Try.prog 42 #[.slice a n c, .int .i64 (i : Int)] w fun e w' => ∃ x : B8, x.ok ∧ e = .returned (.agg #[.int .u8 x.z0, .int .u8 x.z1, .int .u8 x.z2, .int .u8 x.z3, .int .u8 x.z4, .int .u8 x.z5, .int .u8 x.z6, .int .u8 x.z7]) ∧ Hid (Below w.heap.size w w') := by
  have HL := hide hl
  have HB := hide hb
  clear hl hb
  obtain ⟨w0, hw0⟩ : ∃ w0 : World, Hid (w0 = (w.alloc (.cells #[.int .u8 0, .int .u8 0, .int .u8 0, .int .u8 0, .int .u8 0, .int .u8 0, .int .u8 0, .int .u8 0] 38)).alloc (.cells #[.int .u8 0, .int .u8 0, .int .u8 0, .int .u8 0, .int .u8 0, .int .u8 0, .int .u8 0, .int .u8 0] 38)) := ⟨_, rfl⟩
  have R0 := hide (show Bx w0 w.heap.size zB.arr 38 by rw [hw0.out]; exact (Bx.new w _ _).alloc _)
  have K0 := hide (show Bx w0 (w.heap.size + 1) zB.arr 38 by
    rw [hw0.out]
    have h := Bx.new (w.alloc (.cells #[.int .u8 0, .int .u8 0, .int .u8 0, .int .u8 0, .int .u8 0, .int .u8 0, .int .u8 0, .int .u8 0] 38)) #[.int .u8 0, .int .u8 0, .int .u8 0, .int .u8 0, .int .u8 0, .int .u8 0, .int .u8 0, .int .u8 0] 38
    rw [World.size_alloc] at h
    exact h)
  have B0 := hide (show Below w.heap.size w w0 by rw [hw0.out]; exact (below_alloc _ _).alloc (by simp) _)
  go_enter Try.func42, Try.ntmps42
  go_wp2_with fail
  rw [← hw0.out]
  refine (raw_any a n c l i w0 (HL.out.later B0.out) HB.out hn (by omega)).mono ?_
  rintro e w1 ⟨r, hr, rfl, q, rfl⟩
  have R1 := hide (R0.out.later (below_drewN (Below.refl _ _) q) R0.out.lt)
  have K1 := hide (K0.out.later (below_drewN (Below.refl _ _) q) K0.out.lt)
  have B1 := hide (below_drewN B0.out q)
  obtain ⟨w1, hw1⟩ : ∃ w1 : World, Hid (w1 = w0.drewN q) := ⟨_, rfl⟩
  rw [← hw1.out] at R1 K1 B1 ⊢
  have kz := K1.out.frozen
  have rz := R1.out.frozen
  obtain ⟨r0, r1, r2, r3, r4, r5, r6, r7⟩ := Bx.eight (x := zB) R1.out
  obtain ⟨f0, f1, f2, f3, f4, f5, f6, f7⟩ := Bx.eight (x := zB) K1.out
  by_cases h0 : (r : Int) % 3 = 0
  · have hd0 : ((r : Int) % 3 == 0) = true := by simpa using h0
    clear h0
    go_wp2_with fail
    change bodyPost Try.prog Try.f42 _ _ _ (set8 w1 w.heap.size 0 zB)
    have R2 := hide (bx_put8 R1.out zB)
    have B2 := hide (set8_below B1.out (Nat.le_refl w.heap.size) 0 zB)
    obtain ⟨w2, hw2⟩ : ∃ w2 : World, Hid (w2 = set8 w1 w.heap.size 0 zB) := ⟨_, rfl⟩
    rw [← hw2.out] at R2 B2 ⊢
    obtain ⟨s0, s1, s2, s3, s4, s5, s6, s7⟩ := Bx.eight (x := zB) R2.out
    exact bodyPost_ret (v := .agg #[.int .u8 zB.z0, .int .u8 zB.z1, .int .u8 zB.z2, .int .u8 zB.z3, .int .u8 zB.z4, .int .u8 zB.z5, .int .u8 zB.z6, .int .u8 zB.z7]) (by simp [results, Try.results42, go_sem, s0, s1, s2, s3, s4, s5, s6, s7]) rfl ⟨zB, zB_ok, rfl, B2⟩
  · have hd0 : ((r : Int) % 3 == 0) = false := by simpa using h0
    clear h0
    have hkb : w.heap.size + 1 ≠ w.heap.size := by omega
    obtain ⟨Z, hZ⟩ : ∃ Z : Int, Hid (Z = 1 + (r : Int) / 3 % 5) := ⟨_, rfl⟩
    obtain ⟨x1, hx1, he1⟩ := zB.setAt zB_ok 0 (by omega) Z (by have := hZ.out; omega) (by have := hZ.out; omega)
    have K2 := hide (show Bx (w1.setCell ⟨w.heap.size + 1, 0, none⟩ (.int .u8 Z)) (w.heap.size + 1) x1.arr 38 by rw [← he1]; exact K1.out.set 0 _)
    have R2 := hide (R1.out.other ⟨w.heap.size + 1, 0, none⟩ (.int .u8 Z) (by show w.heap.size ≠ w.heap.size + 1; omega))
    have B2 := hide (B1.out.setCell (p := ⟨w.heap.size + 1, 0, none⟩) (by show w.heap.size ≤ w.heap.size + 1; omega) (.int .u8 Z))
    have HX1 := hide hx1
    obtain ⟨w2, hw2⟩ : ∃ w2 : World, Hid (w2 = w1.setCell ⟨w.heap.size + 1, 0, none⟩ (.int .u8 Z)) := ⟨_, rfl⟩
    rw [← hw2.out] at K2 R2 B2
    rw [hZ.out] at hw2
    clear he1 hx1
    by_cases h2 : (r : Int) % 3 = 2
    · have hd2 : ((r : Int) % 3 == 2) = true := by simpa using h2
      clear h2
      go_wp2_with fail
      rw [← hw2.out]
      clear r0 r1 r2 r3 r4 r5 r6 r7 f0 f1 f2 f3 f4 f5 f6 f7 kz rz
      go_loopw [7] (fun t wr => ∃ (k : Nat) (x : B8), t = .int .i64 (k : Int) ∧ 1 ≤ k ∧ k ≤ 8 ∧ Hid (x.ok) ∧ Hid (Bx wr (w.heap.size + 1) x.arr 38) ∧ Hid (Bx wr w.heap.size zB.arr 38) ∧ Hid (Below w.heap.size w wr)) (fun t _ => 8 - (intOf t).toNat)
      case atStart => exact ⟨1, x1, rfl, by omega, by omega, HX1, K2, R2, B2⟩
      case round =>
        obtain ⟨k, x, rfl, hk1, hk8, hx, hK, hR, hB⟩ := hrel
        by_cases hlt : (k : Int) < 8
        · go_wp2_with fail
          refine (raw_any a n c l (i + k) wr (HL.out.later hB.out) HB.out hn (by omega)).mono ?_
          rintro e w3 ⟨r3, hr3, rfl, q3, rfl⟩
          obtain ⟨Y, hY⟩ : ∃ Y : Int, Hid (Y = (r3 : Int) / 7 % 256) := ⟨_, rfl⟩
          obtain ⟨y, hy, hye⟩ := x.setAt hx.out k (by omega) Y (by have := hY.out; omega) (by have := hY.out; omega)
          have HY := hide hy
          have K3 := hide (hK.out.later (below_drewN (Below.refl _ _) q3) hK.out.lt)
          have R3 := hide (hR.out.later (below_drewN (Below.refl _ _) q3) hR.out.lt)
          have B3 := hide (below_drewN hB.out q3)
          obtain ⟨w3, hw3⟩ : ∃ w3 : World, Hid (w3 = wr.drewN q3) := ⟨_, rfl⟩
          rw [← hw3.out] at K3 R3 B3 ⊢
          have K4 := hide (show Bx (w3.setCell ⟨w.heap.size + 1, k, none⟩ (.int .u8 Y)) (w.heap.size + 1) y.arr 38 by rw [← hye]; exact K3.out.set k _)
          have R4 := hide (R3.out.other ⟨w.heap.size + 1, k, none⟩ (.int .u8 Y) (by show w.heap.size ≠ w.heap.size + 1; omega))
          have B4 := hide (B3.out.setCell (p := ⟨w.heap.size + 1, k, none⟩) (by show w.heap.size ≤ w.heap.size + 1; omega) (.int .u8 Y))
          obtain ⟨v, hv⟩ : ∃ v, w3.cell? ⟨w.heap.size + 1, k, none⟩ = some v := ⟨x.arr[k]'(by show k < 8; omega), by rw [K3.out.cell k]; exact Array.getElem?_eq_getElem _⟩
          have kz := K3.out.frozen
          obtain ⟨w4, hw4⟩ : ∃ w4 : World, Hid (w4 = w3.setCell ⟨w.heap.size + 1, k, none⟩ (.int .u8 Y)) := ⟨_, rfl⟩
          rw [← hw4.out] at K4 R4 B4
          rw [hY.out] at hw4
          clear hye hy
          go_wp2_with fail
          go_roundw
          case rel => exact ⟨k + 1, y, by go_num, by omega, by omega, HY, by rw [← hw4.out]; exact K4, by rw [← hw4.out]; exact R4, by rw [← hw4.out]; exact B4⟩
          case measure => simp [intOf]; omega
        · have HK := hide hlt
          obtain ⟨f0, f1, f2, f3, f4, f5, f6, f7⟩ := Bx.eight (x := x) hK.out
          obtain ⟨r0, r1, r2, r3, r4, r5, r6, r7⟩ := Bx.eight (x := zB) hR.out
          have rz := hR.out.frozen
          go_wp2_with fail
          change bodyPost Try.prog Try.f42 _ _ _ (set8 wr w.heap.size 0 x)
          have RF := hide (bx_put8 hR.out x)
          have BF := hide (set8_below hB.out (Nat.le_refl w.heap.size) 0 x)
          obtain ⟨wf, hwf⟩ : ∃ wf : World, Hid (wf = set8 wr w.heap.size 0 x) := ⟨_, rfl⟩
          rw [← hwf.out] at RF BF ⊢
          obtain ⟨s0, s1, s2, s3, s4, s5, s6, s7⟩ := Bx.eight (x := x) RF.out
          exact bodyPost_ret (v := .agg #[.int .u8 x.z0, .int .u8 x.z1, .int .u8 x.z2, .int .u8 x.z3, .int .u8 x.z4, .int .u8 x.z5, .int .u8 x.z6, .int .u8 x.z7]) (by simp [results, Try.results42, go_sem, s0, s1, s2, s3, s4, s5, s6, s7]) rfl ⟨x, hx.out, rfl, BF⟩
    · have hd2 : ((r : Int) % 3 == 2) = false := by simpa using h2
      clear h2
      go_upto_region 11 with fail
      rw [← hw2.out]
      clear r0 r1 r2 r3 r4 r5 r6 r7 f0 f1 f2 f3 f4 f5 f6 f7 kz rz
      obtain ⟨f0, f1, f2, f3, f4, f5, f6, f7⟩ := Bx.eight (x := x1) K2.out
      obtain ⟨r0, r1, r2, r3, r4, r5, r6, r7⟩ := Bx.eight (x := zB) R2.out
      have rz := R2.out.frozen
      go_wp2_with fail
      change bodyPost Try.prog Try.f42 _ _ _ (set8 w2 w.heap.size 0 x1)
      have RF := hide (bx_put8 R2.out x1)
      have BF := hide (set8_below B2.out (Nat.le_refl w.heap.size) 0 x1)
      obtain ⟨wf, hwf⟩ : ∃ wf : World, Hid (wf = set8 w2 w.heap.size 0 x1) := ⟨_, rfl⟩
      rw [← hwf.out] at RF BF ⊢
      obtain ⟨s0, s1, s2, s3, s4, s5, s6, s7⟩ := Bx.eight (x := x1) RF.out
      exact bodyPost_ret (v := .agg #[.int .u8 x1.z0, .int .u8 x1.z1, .int .u8 x1.z2, .int .u8 x1.z3, .int .u8 x1.z4, .int .u8 x1.z5, .int .u8 x1.z6, .int .u8 x1.z7]) (by simp [results, Try.results42, go_sem, s0, s1, s2, s3, s4, s5, s6, s7]) rfl ⟨x1, HX1.out, rfl, BF⟩

end Go.Proofs.Ytfbmaemnbolplaa

/-
  A block touched: what comes of it; one block more in memory of its own.
-/
namespace Go.Proofs.Ytfbmaemnbolplaa
open Go.RowKit

/-- a block touched -/
def Mx.touched (l : List B8) (b : B8) : List B8 := (b :: l.filter (fun y => decide (¬ y = b))).take 8
theorem Mx.touched_len (l : List B8) (b : B8) : (Mx.touched l b).length ≤ 8 := by unfold Mx.touched; rw [List.length_take]; omega
theorem Mx.touched_pos (l : List B8) (b : B8) : 0 < (Mx.touched l b).length := by unfold Mx.touched; simp
theorem Mx.touched_snoc {l : List B8} {k : Nat} {y b : B8} (h : l[k]? = some y) (hy : ¬ y = b) (hlt : (Mx.touched (l.take k) b).length < 8) : Mx.touched (l.take (k + 1)) b = Mx.touched (l.take k) b ++ [y] := by
  have key : ∀ xs : List B8, xs.length < 8 → (xs ++ [y]).take 8 = xs.take 8 ++ [y] := fun xs h => by rw [List.take_of_length_le (by simp; omega), List.take_of_length_le (by omega)]
  unfold Mx.touched at hlt ⊢
  rw [List.length_take] at hlt
  have hf : [y].filter (fun y => decide (¬ y = b)) = [y] := by simp [hy]
  rw [getElem_take_succ _ _ _ h, List.filter_append, hf, ← List.cons_append]
  exact key _ (by omega)
theorem Mx.touched_full {l : List B8} {k : Nat} {y b : B8} (h : l[k]? = some y) (hge : ¬ (Mx.touched (l.take k) b).length < 8) : Mx.touched (l.take (k + 1)) b = Mx.touched (l.take k) b := by
  unfold Mx.touched at hge ⊢
  rw [List.length_take] at hge
  rw [getElem_take_succ _ _ _ h, List.filter_append, ← List.cons_append, List.take_append]
  rw [show 8 - (b :: List.filter (fun y => decide (¬ y = b)) (l.take k)).length = 0 by omega]
  simp
theorem Mx.touched_skip {l : List B8} {k : Nat} {y b : B8} (h : l[k]? = some y) (hy : y = b) : Mx.touched (l.take (k + 1)) b = Mx.touched (l.take k) b := by
  unfold Mx.touched
  rw [getElem_take_succ _ _ _ h, List.filter_append]
  have hf : [y].filter (fun y => decide (¬ y = b)) = [] := by simp [hy]
  rw [hf, List.append_nil]
theorem Mx.touched_all {l : List B8} {k : Nat} {b : B8} (hk : l.length ≤ k) : Mx.touched (l.take k) b = Mx.touched l b := by rw [List.take_of_length_le hk]
/-- full already: nothing more comes -/
theorem Mx.touched_stop {l : List B8} {k : Nat} {b : B8} (hge : ¬ (Mx.touched (l.take k) b).length < 8) : Mx.touched l b = Mx.touched (l.take k) b := by
  have hs : l = l.take k ++ l.drop k := (List.take_append_drop k l).symm
  unfold Mx.touched at hge ⊢
  rw [List.length_take] at hge
  conv => lhs; rw [hs]
  rw [List.filter_append, ← List.cons_append, List.take_append]
  rw [show 8 - (b :: List.filter (fun y => decide (¬ y = b)) (l.take k)).length = 0 by omega]
  simp

theorem cell_newsB (w : World) (p : B8) (t : TypeId) :
    ∀ j u, (flatB [p])[j]? = some u → (w.alloc (.cells #[.int .u8 p.z0, .int .u8 p.z1, .int .u8 p.z2, .int .u8 p.z3, .int .u8 p.z4, .int .u8 p.z5, .int .u8 p.z6, .int .u8 p.z7] t)).cell? ((⟨w.heap.size, 0, none⟩ : Addr).add j) = some u := by
  intro j u hj
  have hadd : (⟨w.heap.size, 0, none⟩ : Addr).add j = ⟨w.heap.size, j, none⟩ := by unfold Addr.add; split <;> simp_all
  rw [hadd, World.cell?_alloc_new]
  simpa [flatB, B8.cs] using hj

/-- one block more -/
theorem wpList_append_blk {w : World} {ops : Array Oper} {rest : List Oper} {o : Oper} {a : Act} {Q : Exit → Act → World → Prop} (hgd : o.guard = none) (s x : Operand)
    (ho : o.op = .call { callee := .builtin .append, args := #[s, x], argTypes := #[27, 27] }) (base : Nat) (l : List B8) (hown : OwnBL w base (a.eval s) l)
    (p : B8) (hx : a.eval x = .slice (some ⟨w.heap.size, 0, none⟩) 1 1) (h63 : l.length ≤ 1000000) (hbase : base ≤ w.heap.size)
    (h : ∀ g c w', base ≤ g → l.length + 1 ≤ c → OwnBL w' base (.slice (some ⟨g, 0, none⟩) (l.length + 1) c) (l ++ [p]) → w.grownBy w' (a.eval s).ownBlock → wpList Try.prog ops Q rest (a.put o.dst (.slice (some ⟨g, 0, none⟩) (l.length + 1) c)) w') :
    wpList Try.prog ops Q (o :: rest) a (w.alloc (.cells #[.int .u8 p.z0, .int .u8 p.z1, .int .u8 p.z2, .int .u8 p.z3, .int .u8 p.z4, .int .u8 p.z5, .int .u8 p.z6, .int .u8 p.z7] 38)) := by
  obtain ⟨i0, hi, hz0, hz1, hz2⟩ := info_parts Try.info38
  refine wpList_append_own _ hgd s x 27 ho base 38 i0 _ 8 8 Try.underlying27 hi hz0 hz1 hz2 rfl (by decide) (a.eval s) l.length (flatB l) rfl (World.ownsRow.alloc hown _) ⟨w.heap.size, 0, none⟩ 1 1 (flatB [p]) hx (by simp [flatB, B8.cs]) (cell_newsB w p 38) flatB_one (by unfold maxLen; omega) (by omega) (by simp; omega) ?_
  intro v' w' hown' hg _
  have hI : OwnBL w' base v' (l ++ [p]) := by
    unfold OwnBL
    rw [List.length_append, flatB, List.flatMap_append]
    exact hown'
  have hg' : w.grownBy w' (a.eval s).ownBlock := ⟨hg.os, hg.tape, hg.output, by have := hg.size; simp at this; omega, fun k hk hne => (hg.block k (by simp; omega) hne).trans (Below.heap_alloc w _ k hk)⟩
  rcases hown'.2 with ⟨_, hz⟩ | ⟨g, cap, cur, rfl, hbg, _, hcap, _⟩
  · simp at hz
  · exact h _ _ w' hbg (by simpa using hcap) hI hg'

/-- one block, alone, in memory of its own -/
theorem OwnBL.one (w : World) (base : Nat) (hb : base ≤ w.heap.size) (x : B8) : OwnBL (w.alloc (.cells #[.int .u8 x.z0, .int .u8 x.z1, .int .u8 x.z2, .int .u8 x.z3, .int .u8 x.z4, .int .u8 x.z5, .int .u8 x.z6, .int .u8 x.z7] 38)) base (.slice (some ⟨w.heap.size, 0, none⟩) 1 1) [x] := by
  unfold OwnBL
  refine ⟨by simp [flatB, B8.cs], .inr ⟨w.heap.size, 1, _, rfl, hb, heap_alloc_new w _, Nat.le_refl _, by unfold maxLen; omega, by simp, ?_⟩⟩
  simp [flatB, B8.cs]

theorem OwnBL.lower {w : World} {base base' : Nat} {v : Value} {l : List B8} (h : OwnBL w base v l) (hb : base' ≤ base) : OwnBL w base' v l := by
  obtain ⟨h1, h2⟩ := h
  refine ⟨h1, ?_⟩
  rcases h2 with h2 | ⟨g, cap, cur, e, hg, hr⟩
  · exact .inl h2
  · exact .inr ⟨g, cap, cur, e, by omega, hr⟩
theorem OwnBL.asBL {w : World} {base n c : Nat} {a : Option Addr} {l : List B8} (h : OwnBL w base (.slice a n c) l) : BL w a n l := by
  obtain ⟨a', c', hv, hb, _⟩ := h.bl
  simp only [Value.slice.injEq] at hv
  obtain ⟨rfl, rfl, rfl⟩ := hv
  exact hb

/-- what Touch and Touched hold, round by round: the block's box, and the list so far -/
def Tch (w : World) (base gx : Nat) (x : B8) (t : List B8) (v : Value) (wr : World) : Prop :=
  Below w.heap.size w wr ∧ Bx wr gx #[.int .u8 x.z0, .int .u8 x.z1, .int .u8 x.z2, .int .u8 x.z3, .int .u8 x.z4, .int .u8 x.z5, .int .u8 x.z6, .int .u8 x.z7] 38 ∧ OwnBL wr base v t ∧ base ≤ wr.heap.size
theorem Tch.alloc {w wr : World} {base gx : Nat} {x : B8} {t : List B8} {v : Value} (h : Tch w base gx x t v wr) (o : Obj) : Tch w base gx x t v (wr.alloc o) :=
  ⟨h.1.alloc h.1.size _, h.2.1.alloc _, World.ownsRow.alloc h.2.2.1 _, by have := h.2.2.2; simp; omega⟩
theorem Tch.drewN {w wr : World} {base gx : Nat} {x : B8} {t : List B8} {v : Value} (h : Tch w base gx x t v wr) (n : Nat) : Tch w base gx x t v (wr.drewN n) :=
  ⟨below_drewN h.1 _, h.2.1.drewN _, by
    obtain ⟨h1, h2⟩ := h.2.2.1
    exact ⟨h1, h2⟩, h.2.2.2⟩
theorem Tch.grown {w wr w' : World} {base gx : Nat} {x : B8} {t t' : List B8} {v v' : Value} (h : Tch w base gx x t v wr) (hgx : gx < base) (hwb : w.heap.size ≤ base) (hg : wr.grownBy w' v.ownBlock) (ho : OwnBL w' base v' t') : Tch w base gx x t' v' w' := by
  have hlt : ∀ k, v.ownBlock = some k → base ≤ k := fun k hk => (World.ownsRow.lt h.2.2.1 k hk).1
  refine ⟨h.1.grown hg h.1.size (fun k hk => Nat.le_trans hwb (hlt k hk)), (hg.block gx h.2.1.lt (fun e => ?_)).trans h.2.1, ho, ?_⟩
  · have := hlt gx e.symm
    omega
  · have := hg.size
    have := h.2.2.2
    omega

end Go.Proofs.Ytfbmaemnbolplaa

/-
  What is made of raw numbers: blocks (BlocksFrom).
-/
namespace Go.Proofs.Ytfbmaemnbolplaa
open Go.RowKit

end Go.Proofs.Ytfbmaemnbolplaa

/-
  What is made of raw numbers: puts at rising places (PutsFrom).
-/
namespace Go.Proofs.Ytfbmaemnbolplaa
open Go.RowKit

namespace Mx
theorem riseB_good {n : Int} {ps : List Pt} (h : riseB n ps = true) {j : Nat} (hj : j < ps.length) : goodAt n ps j = true := by
  unfold riseB at h
  rw [List.all_eq_true] at h
  exact h j (List.mem_range.2 hj)
theorem getD_left {ps : List Pt} {p : Pt} {j : Nat} (hj : j < ps.length) : (ps ++ [p]).getD j dP = ps.getD j dP := by
  rw [List.getD_eq_getElem?_getD, List.getD_eq_getElem?_getD, List.getElem?_append_left hj]
theorem nextOf_left {ps : List Pt} {p : Pt} {j : Nat} (hj : j ≤ ps.length) : nextOf (ps ++ [p]) j = nextOf ps j := by
  cases j with
  | zero => rfl
  | succ j =>
    show ((ps ++ [p]).getD j dP).at_ + 1 = (ps.getD j dP).at_ + 1
    rw [getD_left (by omega)]
theorem riseB_mono {n m : Int} {ps : List Pt} (h : riseB n ps = true) (hm : n ≤ m) : riseB m ps = true := by
  refine riseB_all fun j hj => ?_
  have h1 := riseB_good h hj
  unfold goodAt at h1 ⊢
  simp only [Bool.and_eq_true, decide_eq_true_eq] at h1 ⊢
  omega
theorem riseB_next {n : Int} {ps : List Pt} (h : riseB n ps = true) (hn : 0 ≤ n) : nextOf ps ps.length ≤ n := by
  cases hl : ps.length with
  | zero => exact hn
  | succ j =>
    have h1 := riseB_good h (j := j) (by omega)
    unfold goodAt at h1
    simp only [Bool.and_eq_true, decide_eq_true_eq] at h1
    show (ps.getD j dP).at_ + 1 ≤ n
    omega
theorem riseB_snoc {n : Int} {ps : List Pt} (h : riseB n ps = true) (hn : 0 ≤ n) (d : B8) : riseB (n + 1) (ps ++ [⟨n, d⟩]) = true := by
  refine riseB_all fun j hj => ?_
  rw [List.length_append] at hj
  simp only [List.length_cons, List.length_nil] at hj
  by_cases hlt : j < ps.length
  · have h1 := riseB_good h hlt
    unfold goodAt at h1 ⊢
    rw [nextOf_left (by omega), getD_left hlt]
    simp only [Bool.and_eq_true, decide_eq_true_eq] at h1 ⊢
    omega
  · obtain rfl : j = ps.length := by omega
    have h2 := riseB_next h hn
    unfold goodAt
    rw [nextOf_left (Nat.le_refl _)]
    simp only [List.getD_eq_getElem?_getD, List.getElem?_append_right (Nat.le_refl _), Nat.sub_self, List.getElem?_cons_zero, Option.getD_some, Bool.and_eq_true, decide_eq_true_eq]
    omega
end Mx

set_option maxHeartbeats 4000000 in
set_option maxRecDepth 100000 in
theorem putsFrom_any (a : Option Addr) (n c : Nat) (l : List Int) (i m : Nat) (w : World) (hl : Ints w a n l) (hb : I64 l) (hn : n ≤ 1000) (hi : i ≤ 10000) (hm : m ≤ 1000) :
    Calls Try.prog 15 #[.slice a n c, .int .i64 (i : Int), .int .i64 (m : Int)] w fun e w' => ∃ (v : Value) (ps : List Pt), e = .returned v ∧ Hid (ps.length ≤ m ∧ Mx.riseB m ps = true) ∧ Hid (OwnPL w' w.heap.size v ps) ∧ Hid (Below w.heap.size w w') := by
  have HL := hide hl
  have HB := hide hb
  clear hl hb
  go_enter Try.func15, Try.ntmps15
  go_wp2_with fail
  go_loopw [7, 8] (fun v t wr => ∃ (k : Nat) (ps : List Pt), t = .int .i64 (k : Int) ∧ k ≤ m ∧ Hid (ps.length ≤ k ∧ Mx.riseB k ps = true) ∧ Hid (OwnPL wr w.heap.size v ps) ∧ Hid (Below w.heap.size w wr)) (fun _ t _ => m - (intOf t).toNat)
  case atStart => exact ⟨0, [], rfl, Nat.zero_le _, ⟨Nat.le_refl _, rfl⟩, World.ownsRow_nil w w.heap.size 40 9, Below.refl _ _⟩
  case round =>
    obtain ⟨k, ps, rfl, hk, hR, hO, hB⟩ := hrel
    by_cases hlt : (k : Int) < m
    · go_wp2_with fail
      refine (raw_any a n c l (i + k) wr (HL.out.later hB.out) HB.out hn (by omega)).mono ?_
      rintro e w1 ⟨x, hx, rfl, q, rfl⟩
      have O1 := hide (show OwnPL (wr.drewN q) w.heap.size _ ps from hO.out)
      have B1 := hide (below_drewN hB.out q)
      obtain ⟨w1, hw1⟩ : ∃ w1 : World, Hid (w1 = wr.drewN q) := ⟨_, rfl⟩
      rw [← hw1.out] at O1 B1 ⊢
      by_cases h3 : (x : Int) % 3 = 0
      · have hd : ((x : Int) % 3 == 0) = true := by simpa using h3
        go_wp2_with fail
        refine (blockFrom_any a n c l (i + 5 * k + 1) w1 (HL.out.later B1.out) HB.out hn (by omega)).mono ?_
        rintro e w2 ⟨y, _, rfl, hb2⟩
        have O2 := hide (show OwnPL w2 w.heap.size _ ps from rowKept O1.out hb2.out)
        have B2 := hide (B1.out.trans (hb2.out.mono B1.out.size))
        have S2 := hide B2.out.size
        clear hb2
        go_wp2_with (at_builtin; refine wpList_append_put rfl _ _ rfl w.heap.size ps ?o1 ⟨(k : Int), y⟩ ?o2 ?o3 ?o4 ?_)
        case o1 => exact O2.out
        case o2 => rfl
        case o3 => have := hR.out.1; omega
        case o4 => exact S2.out
        intro ad c2 w3 hown hgr
        have O3 := hide hown
        have B3 := hide (B2.out.grown hgr S2.out (fun k hk => (World.ownsRow.lt O2.out k hk).1))
        obtain ⟨N, hN⟩ : ∃ N : Nat, Hid (N = ps.length) := ⟨_, rfl⟩
        rw [← hN.out] at O3 ⊢
        clear hown hgr
        go_wp2_with fail
        go_roundw
        case rel => exact ⟨k + 1, ps ++ [⟨(k : Int), y⟩], by go_num, by omega, ⟨by rw [List.length_append]; have := hR.out.1; simp; omega, by have h := Mx.riseB_snoc hR.out.2 (by omega) y; rw [show ((k + 1 : Nat) : Int) = (k : Int) + 1 by omega]; exact h⟩, O3, B3⟩
        case measure => simp [intOf]; omega
      · have hd : ((x : Int) % 3 == 0) = false := by simpa using h3
        go_wp2_with fail
        go_roundw
        case rel => exact ⟨k + 1, ps, by go_num, by omega, ⟨by have := hR.out.1; omega, Mx.riseB_mono hR.out.2 (by omega)⟩, O1, B1⟩
        case measure => simp [intOf]; omega
    · obtain rfl : k = m := by omega
      go_wp2_with fail
      go_ret
      exact ⟨_, rfl, ps, hR, hO, hB⟩
end Go.Proofs.Ytfbmaemnbolplaa
