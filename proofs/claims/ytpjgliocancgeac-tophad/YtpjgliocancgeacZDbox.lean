/-
  Boxes of memory, copies as a region's calls hand them on, a disk that is being made.
-/
import Derived.Deep.RegionHeld
import Derived.Deep.CutRange
import Derived.Deep.DeepCutAuto
import Derived.Deep.Onto
import Derived.Test.YtpjgliocancgeacZSums
import Derived.Test.YtpjgliocancgeacZIs
import Derived.Test.YtpjgliocancgeacZIter
import Derived.Test.YtpjgliocancgeacZDclone

namespace Go.Proofs.Ytpjgliocancgeac
open Go.RowKit

/-- a block of memory, whole -/
def Bx (w : World) (g : Nat) (cs : Array Value) (t : TypeId) : Prop := w.heap[g]? = some (.cells cs t (0, 0))
theorem Bx.new (w : World) (cs : Array Value) (t : TypeId) : Bx (w.alloc (.cells cs t)) w.heap.size cs t := heap_alloc_new w _
theorem Bx.newD (w : World) (cs : Array Value) (t : TypeId) : Bx (w.alloc (.cells cs t)).drew w.heap.size cs t := heap_alloc_new w _
theorem Bx.lt {w : World} {g : Nat} {cs : Array Value} {t : TypeId} (h : Bx w g cs t) : g < w.heap.size := (Array.getElem?_eq_some_iff.1 h).1
theorem Bx.alloc {w : World} {g : Nat} {cs : Array Value} {t : TypeId} (h : Bx w g cs t) (o : Obj) : Bx (w.alloc o) g cs t := (Below.heap_alloc w o g h.lt).trans h
theorem Bx.later {w w' : World} {g B : Nat} {cs : Array Value} {t : TypeId} (h : Bx w g cs t) (hb : Below B w w') (hg : g < B) : Bx w' g cs t := (hb.block g hg).trans h
theorem Bx.cell {w : World} {g : Nat} {cs : Array Value} {t : TypeId} (h : Bx w g cs t) (j : Nat) : w.cell? ⟨g, j, none⟩ = cs[j]? := cell_of_cells h j
theorem Bx.frozen {w : World} {g : Nat} {cs : Array Value} {t : TypeId} (h : Bx w g cs t) (o : Nat) : w.frozen? ⟨g, o, none⟩ = false := by unfold World.frozen?; rw [h]; simp
theorem Bx.set {w : World} {g : Nat} {cs : Array Value} {t : TypeId} (h : Bx w g cs t) (j : Nat) (v : Value) : Bx (w.setCell ⟨g, j, none⟩ v) g (cs.setIfInBounds j v) t := by
  unfold Bx at *
  simp [World.setCell, Array.getElem?_modify, h]
theorem Bx.other {w : World} {g : Nat} {cs : Array Value} {t : TypeId} (h : Bx w g cs t) (p : Addr) (v : Value) (hp : g ≠ p.block) : Bx (w.setCell p v) g cs t := (Below.heap_setCell w p v g hp).trans h
theorem Bx.three {w : World} {g : Nat} {s0 s1 s2 : Value} {t : TypeId} (h : Bx w g #[s0, s1, s2] t) : w.cell? ⟨g, 0, none⟩ = some s0 ∧ w.cell? ⟨g, 1, none⟩ = some s1 ∧ w.cell? ⟨g, 2, none⟩ = some s2 := ⟨h.cell 0, h.cell 1, h.cell 2⟩
theorem Bx.eight {w : World} {g : Nat} {x : B8} {t : TypeId} (h : Bx w g #[.int .u8 x.z0, .int .u8 x.z1, .int .u8 x.z2, .int .u8 x.z3, .int .u8 x.z4, .int .u8 x.z5, .int .u8 x.z6, .int .u8 x.z7] t) :
    w.cell? ⟨g, 0, none⟩ = some (.int .u8 x.z0) ∧ w.cell? ⟨g, 1, none⟩ = some (.int .u8 x.z1) ∧ w.cell? ⟨g, 2, none⟩ = some (.int .u8 x.z2) ∧ w.cell? ⟨g, 3, none⟩ = some (.int .u8 x.z3) ∧
    w.cell? ⟨g, 4, none⟩ = some (.int .u8 x.z4) ∧ w.cell? ⟨g, 5, none⟩ = some (.int .u8 x.z5) ∧ w.cell? ⟨g, 6, none⟩ = some (.int .u8 x.z6) ∧ w.cell? ⟨g, 7, none⟩ = some (.int .u8 x.z7) :=
  ⟨h.cell 0, h.cell 1, h.cell 2, h.cell 3, h.cell 4, h.cell 5, h.cell 6, h.cell 7⟩

/-- what lies below is as it was: as rules for the walk -/
theorem Below.keeps {W w' : World} (h : Below W.heap.size W w') : (∀ k j, k < W.heap.size → w'.cell? ⟨k, j, none⟩ = W.cell? ⟨k, j, none⟩) ∧ (∀ k j, k < W.heap.size → w'.frozen? ⟨k, j, none⟩ = W.frozen? ⟨k, j, none⟩) ∧ ∀ k, k < W.heap.size → k < w'.heap.size :=
  ⟨fun k j hk => h.cell (p := ⟨k, j, none⟩) hk, fun k j hk => by unfold World.frozen?; rw [show w'.heap[k]? = W.heap[k]? from h.block k hk], fun k hk => Nat.lt_of_lt_of_le hk h.size⟩

/-- what a call hands on to the rest of a region: all that was there is as it was; the disk's box, and the box that is being made -/
def Past (w1 w w' : World) : Prop := Below w1.heap.size w1 w' ∧ Below w.heap.size w w'
def DC (w : World) (g : Nat) (s0 s1 s2 : Value) : Prop := w.cell? ⟨g, 0, none⟩ = some s0 ∧ w.cell? ⟨g, 1, none⟩ = some s1 ∧ w.cell? ⟨g, 2, none⟩ = some s2 ∧ g < w.heap.size ∧ ∀ o, w.frozen? ⟨g, o, none⟩ = false
theorem Bx.dc {w : World} {g : Nat} {s0 s1 s2 : Value} {t : TypeId} (h : Bx w g #[s0, s1, s2] t) : DC w g s0 s1 s2 := ⟨h.cell 0, h.cell 1, h.cell 2, h.lt, h.frozen⟩

/-- the disk's box lies, and all that was there -/
abbrev Held (w1 : World) (g : Nat) (s0 s1 s2 : Value) (w' : World) : Prop := w'.cell? ⟨g, 0, none⟩ = some s0 ∧ w'.cell? ⟨g, 1, none⟩ = some s1 ∧ w'.cell? ⟨g, 2, none⟩ = some s2 ∧ Below w1.heap.size w1 w'
theorem Held.of {w1 w' : World} {g : Nat} {s0 s1 s2 : Value} {t : TypeId} (hd : Bx w1 g #[s0, s1, s2] t) (h : Below w1.heap.size w1 w') : Held w1 g s0 s1 s2 w' := by
  obtain ⟨h0, h1, h2⟩ := (hd.later h hd.lt).three
  exact ⟨h0, h1, h2, h⟩
theorem Held.alloc {w1 w' : World} {g : Nat} {s0 s1 s2 : Value} {t : TypeId} (hd : Bx w1 g #[s0, s1, s2] t) (h : Held w1 g s0 s1 s2 w') (o : Obj) : Held w1 g s0 s1 s2 (w'.alloc o) := Held.of hd (h.2.2.2.alloc h.2.2.2.size o)
theorem Held.drew {w1 : World} {g : Nat} {s0 s1 s2 : Value} {t : TypeId} (hd : Bx w1 g #[s0, s1, s2] t) : Held w1 g s0 s1 s2 w1.drew := Held.of hd (Below.refl _ _).drew
theorem Held.set {w1 w' : World} {g : Nat} {s0 s1 s2 : Value} {t : TypeId} (hd : Bx w1 g #[s0, s1, s2] t) (h : Held w1 g s0 s1 s2 w') (p : Addr) (hp : w1.heap.size ≤ p.block) (v : Value) : Held w1 g s0 s1 s2 (w'.setCell p v) := Held.of hd (h.2.2.2.setCell hp v)

theorem cloneB_at {w1 : World} {g : Nat} {s0 s1 s2 : Value} {t : TypeId} (a : Option Addr) (n c : Nat) (l : List B8) (w : World) (hl : BL w1 a n l) (hn : n ≤ 1000000) (hd : Bx w1 g #[s0, s1, s2] t) (hb : Below w1.heap.size w1 w) :
    Calls Try.prog 54 #[.slice a n c] w fun e w' => ∃ a' c', e = .returned (.slice a' n c') ∧ Hid (OwnBL w' w.heap.size (.slice a' n c') l) ∧ Hid (Past w1 w w') ∧ DC w' g s0 s1 s2 := by
  refine (cloneB_any a n c l w (hl.later hb) hn).mono ?_
  rintro e w' ⟨v, rfl, ho, hb'⟩
  obtain ⟨a', c', hv, _⟩ := ownsRow_rowR ho
  rw [hl.1] at hv
  subst hv
  have h2 := hb.trans (hb'.mono hb.size)
  exact ⟨a', c', rfl, ho, ⟨h2, hb'⟩, (hd.later h2 hd.lt).dc⟩
theorem cloneB_at2 {w1 : World} {g g' : Nat} {s0 s1 s2 s0' s1' s2' : Value} {t t' : TypeId} (a : Option Addr) (n c : Nat) (l : List B8) (w : World) (hl : BL w1 a n l) (hn : n ≤ 1000000) (hd : Bx w1 g #[s0, s1, s2] t) (hx : Bx w g' #[s0', s1', s2'] t') (hge : w1.heap.size ≤ g') (hb : Below w1.heap.size w1 w) :
    Calls Try.prog 54 #[.slice a n c] w fun e w' => ∃ a' c', e = .returned (.slice a' n c') ∧ Hid (OwnBL w' w.heap.size (.slice a' n c') l) ∧ Hid (Past w1 w w') ∧ DC w' g s0 s1 s2 ∧ Hid (Bx w' g' #[s0', s1', s2'] t') ∧ w1.heap.size ≤ g' ∧ DC w' g' s0' s1' s2' := by
  refine (cloneB_at a n c l w hl hn hd hb).mono ?_
  rintro e w' ⟨a', c', rfl, ho, hp, hdc⟩
  have h := hx.later hp.2 hx.lt
  exact ⟨a', c', rfl, ho, hp, hdc, h, hge, h.dc⟩

theorem cloneP_at {w1 : World} {g : Nat} {s0 s1 s2 : Value} {t : TypeId} (a : Option Addr) (n c : Nat) (l : List Pt) (w : World) (hl : PL w1 a n l) (hn : n ≤ 1000000) (hd : Bx w1 g #[s0, s1, s2] t) (hb : Below w1.heap.size w1 w) :
    Calls Try.prog 88 #[.slice a n c] w fun e w' => ∃ a' c', e = .returned (.slice a' n c') ∧ Hid (OwnPL w' w.heap.size (.slice a' n c') l) ∧ Hid (Past w1 w w') ∧ DC w' g s0 s1 s2 := by
  refine (cloneP_any a n c l w (hl.later hb) hn).mono ?_
  rintro e w' ⟨v, rfl, ho, hb'⟩
  obtain ⟨a', c', hv, _⟩ := ownsRow_rowR ho
  rw [hl.1] at hv
  subst hv
  have h2 := hb.trans (hb'.mono hb.size)
  exact ⟨a', c', rfl, ho, ⟨h2, hb'⟩, (hd.later h2 hd.lt).dc⟩
theorem cloneP_at2 {w1 : World} {g g' : Nat} {s0 s1 s2 s0' s1' s2' : Value} {t t' : TypeId} (a : Option Addr) (n c : Nat) (l : List Pt) (w : World) (hl : PL w1 a n l) (hn : n ≤ 1000000) (hd : Bx w1 g #[s0, s1, s2] t) (hx : Bx w g' #[s0', s1', s2'] t') (hge : w1.heap.size ≤ g') (hb : Below w1.heap.size w1 w) :
    Calls Try.prog 88 #[.slice a n c] w fun e w' => ∃ a' c', e = .returned (.slice a' n c') ∧ Hid (OwnPL w' w.heap.size (.slice a' n c') l) ∧ Hid (Past w1 w w') ∧ DC w' g s0 s1 s2 ∧ Hid (Bx w' g' #[s0', s1', s2'] t') ∧ w1.heap.size ≤ g' ∧ DC w' g' s0' s1' s2' := by
  refine (cloneP_at a n c l w hl hn hd hb).mono ?_
  rintro e w' ⟨a', c', rfl, ho, hp, hdc⟩
  have h := hx.later hp.2 hx.lt
  exact ⟨a', c', rfl, ho, hp, hdc, h, hge, h.dc⟩

theorem cell_newsP (w : World) (p : Pt) (t : TypeId) :
    ∀ j u, (flatP [p])[j]? = some u → (w.alloc (.cells #[.int .i64 p.at_, .int .u8 p.d.z0, .int .u8 p.d.z1, .int .u8 p.d.z2, .int .u8 p.d.z3, .int .u8 p.d.z4, .int .u8 p.d.z5, .int .u8 p.d.z6, .int .u8 p.d.z7] t)).cell? ((⟨w.heap.size, 0, none⟩ : Addr).add j) = some u := by
  intro j u hj
  have hadd : (⟨w.heap.size, 0, none⟩ : Addr).add j = ⟨w.heap.size, j, none⟩ := by unfold Addr.add; split <;> simp_all
  rw [hadd, World.cell?_alloc_new]
  simpa [flatP, Pt.cs] using hj

/-- one put more -/
theorem wpList_append_put {w : World} {ops : Array Oper} {rest : List Oper} {o : Oper} {a : Act} {Q : Exit → Act → World → Prop} (hgd : o.guard = none) (s x : Operand)
    (ho : o.op = .call { callee := .builtin .append, args := #[s, x], argTypes := #[38, 38] }) (base : Nat) (l : List Pt) (hown : OwnPL w base (a.eval s) l)
    (p : Pt) (hx : a.eval x = .slice (some ⟨w.heap.size, 0, none⟩) 1 1) (h63 : l.length ≤ 1000000) (hbase : base ≤ w.heap.size)
    (h : ∀ ad c w', OwnPL w' base (.slice (some ad) (l.length + 1) c) (l ++ [p]) → w.grownBy w' (a.eval s).ownBlock → wpList Try.prog ops Q rest (a.put o.dst (.slice (some ad) (l.length + 1) c)) w') :
    wpList Try.prog ops Q (o :: rest) a (w.alloc (.cells #[.int .i64 p.at_, .int .u8 p.d.z0, .int .u8 p.d.z1, .int .u8 p.d.z2, .int .u8 p.d.z3, .int .u8 p.d.z4, .int .u8 p.d.z5, .int .u8 p.d.z6, .int .u8 p.d.z7] 52)) := by
  obtain ⟨i0, hi, hz0, hz1, hz2⟩ := info_parts Try.info52
  refine wpList_append_own _ hgd s x 38 ho base 52 i0 _ 9 16 Try.underlying38 hi hz0 hz1 hz2 rfl (by decide) (a.eval s) l.length (flatP l) rfl (World.ownsRow.alloc hown _) ⟨w.heap.size, 0, none⟩ 1 1 (flatP [p]) hx (by simp [flatP, Pt.cs]) (cell_newsP w p 52) flatP_one (by unfold maxLen; omega) (by omega) (by simp; omega) ?_
  intro v' w' hown' hg _
  have hI : OwnPL w' base v' (l ++ [p]) := by
    unfold OwnPL
    rw [List.length_append, flatP, List.flatMap_append]
    exact hown'
  have hg' : w.grownBy w' (a.eval s).ownBlock := ⟨hg.os, hg.tape, hg.output, by have := hg.size; simp at this; omega, fun k hk hne => (hg.block k (by simp; omega) hne).trans (Below.heap_alloc w _ k hk)⟩
  rcases hown'.2 with ⟨_, hz⟩ | ⟨g, cap, cur, rfl, hbg, _⟩
  · simp at hz
  · exact h _ _ w' hI hg'

theorem ownsRow_other {w : World} {base e size : Nat} {v : Value} {n : Nat} {xs : List Value} (h : w.ownsRow base e size v n xs) (p : Addr) (u : Value) (hne : v.ownBlock ≠ some p.block) : (w.setCell p u).ownsRow base e size v n xs := by
  refine ⟨h.1, ?_⟩
  rcases h.2 with h | ⟨g, cap, cur, hv, hb, hh, rest⟩
  · exact .inl h
  · exact .inr ⟨g, cap, cur, hv, hb, (Below.heap_setCell w p u g (fun e => hne (by rw [hv]; exact congrArg some e))).trans hh, rest⟩

theorem own_ne_bx {w : World} {base e size g : Nat} {v : Value} {n : Nat} {xs : List Value} {cs : Array Value} {t : TypeId} (h : w.ownsRow base e size v n xs) (hb : Bx w g cs t) (hne : e ≠ t) : v.ownBlock ≠ some g := by
  rcases h.2 with ⟨hv, _⟩ | ⟨g', cap, cur, hv, _, hh, _⟩
  · rw [hv]
    simp [Value.ownBlock]
  · rw [hv]
    intro e'
    have e2 : g' = g := Option.some.inj e'
    subst e2
    rw [hb] at hh
    cases hh
    exact hne rfl

/-- a disk that is being made: its box, its rows -/
def Made (w1 wf : World) (gn : Nat) (v1 v2 s2 : Value) (ls : List B8) (ps : List Pt) : Prop :=
  Bx wf gn #[v1, v2, s2] 40 ∧ OwnBL wf w1.heap.size v1 ls ∧ OwnPL wf w1.heap.size v2 ps ∧ Below w1.heap.size w1 wf ∧ w1.heap.size ≤ gn ∧ v1.ownBlock ≠ some gn ∧ v2.ownBlock ≠ some gn ∧ ∀ g, v1.ownBlock = some g → v2.ownBlock ≠ some g

theorem made_set {w1 wX : World} {gn : Nat} {v1 v2 s2 z0 z1 z2 : Value} {ls : List B8} {ps : List Pt} (hx : Bx wX gn #[z0, z1, z2] 40) (h1 : OwnBL wX w1.heap.size v1 ls) (h2 : OwnPL wX w1.heap.size v2 ps) (hb : Below w1.heap.size w1 wX) (hge : w1.heap.size ≤ gn)
    (n1 : v1.ownBlock ≠ some gn) (n2 : v2.ownBlock ≠ some gn) (d : ∀ g, v1.ownBlock = some g → v2.ownBlock ≠ some g) :
    Made w1 (((wX.setCell ⟨gn, 0, none⟩ v1).setCell ⟨gn, 1, none⟩ v2).setCell ⟨gn, 2, none⟩ s2) gn v1 v2 s2 ls ps :=
  ⟨((hx.set 0 v1).set 1 v2).set 2 s2, ownsRow_other (ownsRow_other (ownsRow_other h1 _ _ n1) _ _ n1) _ _ n1, ownsRow_other (ownsRow_other (ownsRow_other h2 _ _ n2) _ _ n2) _ _ n2,
    ((hb.setCell (p := ⟨gn, 0, none⟩) hge v1).setCell (p := ⟨gn, 1, none⟩) hge v2).setCell (p := ⟨gn, 2, none⟩) hge s2, hge, n1, n2, d⟩

theorem made1 {w1 wB wX : World} {v1 v2 s2 : Value} {ls : List B8} {ps : List Pt} {W : World} (hW : w1.heap.size ≤ W.heap.size) (hoB : OwnBL wB W.heap.size v1 ls) (hoP : OwnPL wX wB.heap.size v2 ps) (hbP : Past w1 wB wX) (hbB : Past w1 W wB) :
    Made w1 (wX.alloc (.cells #[v1, v2, s2] 40)) wX.heap.size v1 v2 s2 ls ps := by
  have b1 := World.ownsRow.lt hoB
  have b2 := World.ownsRow.lt hoP
  have e1 := hbP.2.size
  have e2 := hbB.1.size
  refine ⟨Bx.new _ _ _, World.ownsRow.alloc (rowKept (World.ownsRow.mono hoB hW) hbP.2) _, World.ownsRow.alloc (World.ownsRow.mono hoP e2) _, hbP.1.alloc hbP.1.size _, hbP.1.size, fun e => ?_, fun e => ?_, fun g e1 e2 => ?_⟩
  · have := (b1 _ e).2; omega
  · have := (b2 _ e).2; omega
  · have := (b1 _ e1).2; have := (b2 _ e2).1; omega

theorem made2 {w1 wB wX : World} {v1 v2 s2 z0 z1 z2 : Value} {ls : List B8} {ps : List Pt} {W : World} (hW : w1.heap.size ≤ W.heap.size) (hoB : OwnBL wB W.heap.size v1 ls) (hbB : Past w1 W wB) (hoP : OwnPL wX (wB.alloc (.cells #[z0, z1, z2] 40)).heap.size v2 ps) (hbP : Past w1 (wB.alloc (.cells #[z0, z1, z2] 40)) wX) :
    Made w1 (((wX.setCell ⟨wB.heap.size, 0, none⟩ v1).setCell ⟨wB.heap.size, 1, none⟩ v2).setCell ⟨wB.heap.size, 2, none⟩ s2) wB.heap.size v1 v2 s2 ls ps := by
  have b1 := World.ownsRow.lt hoB
  have b2 := World.ownsRow.lt hoP
  have e1 := hbP.2.size
  have e2 := hbB.1.size
  simp only [World.size_alloc] at b2 e1
  refine made_set ((Bx.new wB #[z0, z1, z2] 40).later hbP.2 (by simp)) (rowKept (World.ownsRow.alloc (World.ownsRow.mono hoB hW) _) hbP.2) (World.ownsRow.mono hoP (by simp; omega)) hbP.1 e2 (fun e => ?_) (fun e => ?_) (fun g e1 e2 => ?_)
  · have := (b1 _ e).2; omega
  · have := (b2 _ e).1; omega
  · have := (b1 _ e1).2; have := (b2 _ e2).1; omega

theorem made3 {w1 wB wX : World} {v1 v2 s2 z0 z1 z2 : Value} {ls : List B8} {ps : List Pt} (hoB : OwnBL wB (w1.alloc (.cells #[z0, z1, z2] 40)).drew.heap.size v1 ls) (hbB : Past w1 (w1.alloc (.cells #[z0, z1, z2] 40)).drew wB) (hoP : OwnPL wX wB.heap.size v2 ps) (hbP : Past w1 wB wX) :
    Made w1 (((wX.setCell ⟨w1.heap.size, 0, none⟩ v1).setCell ⟨w1.heap.size, 1, none⟩ v2).setCell ⟨w1.heap.size, 2, none⟩ s2) w1.heap.size v1 v2 s2 ls ps := by
  have b1 := World.ownsRow.lt hoB
  have b2 := World.ownsRow.lt hoP
  have e1 := hbP.2.size
  have e2 := hbB.2.size
  have e3 : (w1.alloc (.cells #[z0, z1, z2] 40)).drew.heap.size = w1.heap.size + 1 := World.size_alloc _ _
  rw [e3] at b1 e2
  refine made_set (((Bx.newD w1 #[z0, z1, z2] 40).later hbB.2 (by rw [e3]; omega)).later hbP.2 (by omega)) (rowKept (World.ownsRow.mono hoB (by rw [e3]; omega)) hbP.2) (World.ownsRow.mono hoP (by omega)) hbP.1 (Nat.le_refl _) (fun e => ?_) (fun e => ?_) (fun g e1 e2 => ?_)
  · have := (b1 _ e).1; omega
  · have := (b2 _ e).1; omega
  · have := (b1 _ e1).2; have := (b2 _ e2).1; omega


theorem set8_list {α : Type} (L : List α) (o : Nat) (a0 a1 a2 a3 a4 a5 a6 a7 : α) (h : o + 8 ≤ L.length) :
    (((((((L.set o a0).set (o + 1) a1).set (o + 2) a2).set (o + 3) a3).set (o + 4) a4).set (o + 5) a5).set (o + 6) a6).set (o + 7) a7 = L.take o ++ [a0, a1, a2, a3, a4, a5, a6, a7] ++ L.drop (o + 8) := by
  have hL : L = L.take o ++ ((L.drop o).take 8 ++ L.drop (o + 8)) := by
    rw [show L.drop (o + 8) = (L.drop o).drop 8 by rw [List.drop_drop], List.take_append_drop, List.take_append_drop]
  have hl : (L.take o).length = o := by rw [List.length_take]; omega
  have h8 : ((L.drop o).take 8).length = 8 := by rw [List.length_take, List.length_drop]; omega
  generalize L.take o = A at *
  generalize (L.drop o).take 8 = B at *
  generalize L.drop (o + 8) = C at *
  match B, h8 with
  | [b0, b1, b2, b3, b4, b5, b6, b7], _ =>
    subst hL
    subst hl
    have e := fun (X : List α) (i : Nat) (v : α) => List.set_append_right (s := A) (t := X) (A.length + i) v (by omega)
    have e0 := fun (X : List α) (v : α) => List.set_append_right (s := A) (t := X) A.length v (Nat.le_refl _)
    simp only [Nat.add_sub_cancel_left, Nat.sub_self] at e e0
    simp only [e, e0, List.cons_append, List.nil_append, List.set_cons_zero, List.set_cons_succ, List.append_assoc]

/-- a block stored into a row: its eight cells -/
def set8 (w : World) (g o : Nat) (x : B8) : World :=
  (((((((w.setCell ⟨g, o, none⟩ (.int .u8 x.z0)).setCell ⟨g, o + 1, none⟩ (.int .u8 x.z1)).setCell ⟨g, o + 2, none⟩ (.int .u8 x.z2)).setCell ⟨g, o + 3, none⟩ (.int .u8 x.z3)).setCell ⟨g, o + 4, none⟩ (.int .u8 x.z4)).setCell ⟨g, o + 5, none⟩ (.int .u8 x.z5)).setCell ⟨g, o + 6, none⟩ (.int .u8 x.z6)).setCell ⟨g, o + 7, none⟩ (.int .u8 x.z7)

theorem OwnBL.put {w : World} {base g n cap : Nat} {l : List B8} (h : OwnBL w base (.slice (some ⟨g, 0, none⟩) n cap) l) (j : Nat) (hj : j < l.length) (x : B8) : OwnBL (set8 w g (j * 8) x) base (.slice (some ⟨g, 0, none⟩) n cap) (l.set j x) := by
  rcases h.2 with ⟨hv, _⟩ | ⟨g', cap', cur, hv, hb, hh, hle, hmx, hcs, htk⟩
  · cases hv
  · simp only [Value.slice.injEq, Option.some.injEq, Addr.mk.injEq, and_true] at hv
    obtain ⟨rfl, hn, rfl⟩ := hv
    have hbx : Bx w g cur 50 := hh
    have h8 := (((((((hbx.set (j * 8) (.int .u8 x.z0)).set (j * 8 + 1) (.int .u8 x.z1)).set (j * 8 + 2) (.int .u8 x.z2)).set (j * 8 + 3) (.int .u8 x.z3)).set (j * 8 + 4) (.int .u8 x.z4)).set (j * 8 + 5) (.int .u8 x.z5)).set (j * 8 + 6) (.int .u8 x.z6)).set (j * 8 + 7) (.int .u8 x.z7)
    refine ⟨by rw [flatB_len, List.length_set], .inr ⟨g, cap, _, by rw [List.length_set, hn], hb, h8, by rw [List.length_set]; omega, hmx, by simpa using hcs, ?_⟩⟩
    have hf : flatB (l.set j x) = (flatB l).take (j * 8) ++ x.cs ++ (flatB l).drop (j * 8 + 8) := flatMap_set B8.cs 8 (fun _ => rfl) l j x hj
    simp only [Array.toList_setIfInBounds, List.take_set]
    rw [List.length_set, htk, set8_list (flatB l) (j * 8) _ _ _ _ _ _ _ _ (by rw [flatB_len]; omega), hf]
    rfl

theorem set8_below {B g : Nat} {w w' : World} (h : Below B w w') (hg : B ≤ g) (o : Nat) (x : B8) : Below B w (set8 w' g o x) :=
  (((((((h.setCell (p := ⟨g, o, none⟩) hg _).setCell (p := ⟨g, o + 1, none⟩) hg _).setCell (p := ⟨g, o + 2, none⟩) hg _).setCell (p := ⟨g, o + 3, none⟩) hg _).setCell (p := ⟨g, o + 4, none⟩) hg _).setCell (p := ⟨g, o + 5, none⟩) hg _).setCell (p := ⟨g, o + 6, none⟩) hg _).setCell (p := ⟨g, o + 7, none⟩) hg _

theorem set8_other {w : World} {g o k : Nat} (hk : k ≠ g) (x : B8) : (set8 w g o x).heap[k]? = w.heap[k]? := by
  unfold set8
  rw [Below.heap_setCell _ _ _ _ hk, Below.heap_setCell _ _ _ _ hk, Below.heap_setCell _ _ _ _ hk, Below.heap_setCell _ _ _ _ hk, Below.heap_setCell _ _ _ _ hk, Below.heap_setCell _ _ _ _ hk, Below.heap_setCell _ _ _ _ hk, Below.heap_setCell _ _ _ _ hk]

theorem Bx.set8 {w : World} {g k : Nat} {cs : Array Value} {t : TypeId} (h : Bx w k cs t) (hk : k ≠ g) (o : Nat) (x : B8) : Bx (set8 w g o x) k cs t := (set8_other hk x).trans h

theorem OwnBL.form {w : World} {base n c : Nat} {a : Option Addr} {l : List B8} (h : OwnBL w base (.slice a n c) l) (hn : 0 < n) : ∃ g, a = some ⟨g, 0, none⟩ ∧ base ≤ g ∧ g < w.heap.size ∧ l.length = n ∧ ∀ o, w.frozen? ⟨g, o, none⟩ = false := by
  rcases h.2 with ⟨hv, _⟩ | ⟨g, cap, cur, hv, hb, hh, _⟩
  · simp only [Value.slice.injEq] at hv
    omega
  · simp only [Value.slice.injEq] at hv
    obtain ⟨rfl, rfl, rfl⟩ := hv
    exact ⟨g, rfl, hb, (Array.getElem?_eq_some_iff.1 hh).1, rfl, fun o => (show Bx w g cur 50 from hh).frozen o⟩

theorem OwnBL.at_ {w : World} {base g n c : Nat} {l : List B8} (h : OwnBL w base (.slice (some ⟨g, 0, none⟩) n c) l) (k : Nat) (hk : k < n) :
    ∃ x : B8, l[k]? = some x ∧ w.cell? ⟨g, k * 8, none⟩ = some (.int .u8 x.z0) ∧ w.cell? ⟨g, k * 8 + 1, none⟩ = some (.int .u8 x.z1) ∧ w.cell? ⟨g, k * 8 + 2, none⟩ = some (.int .u8 x.z2) ∧
      w.cell? ⟨g, k * 8 + 3, none⟩ = some (.int .u8 x.z3) ∧ w.cell? ⟨g, k * 8 + 4, none⟩ = some (.int .u8 x.z4) ∧ w.cell? ⟨g, k * 8 + 5, none⟩ = some (.int .u8 x.z5) ∧
      w.cell? ⟨g, k * 8 + 6, none⟩ = some (.int .u8 x.z6) ∧ w.cell? ⟨g, k * 8 + 7, none⟩ = some (.int .u8 x.z7) := by
  obtain ⟨a, c', hv, hb, _⟩ := h.bl
  simp only [Value.slice.injEq] at hv
  obtain ⟨rfl, rfl, rfl⟩ := hv
  obtain ⟨b, off, x, ha, _, hx, hcs⟩ := hb.at_ k hk
  simp only [Option.some.injEq, Addr.mk.injEq, and_true] at ha
  obtain ⟨rfl, rfl⟩ := ha
  simp only [Nat.zero_add] at hcs
  exact ⟨x, hx, hcs⟩
end Go.Proofs.Ytpjgliocancgeac

/-
  Packets: as they lie in memory; one more; alike or not.
-/
namespace Go.Proofs.Ytpjgliocancgeac
open Go.RowKit

/-- a packet: a place, a kind, where from, a block -/
structure Pk where
  at_ : Int
  kind : Int
  from_ : Int
  d : B8
def Pk.cs (p : Pk) : List Value := [.int .i64 p.at_, .int .i64 p.kind, .int .i64 p.from_, .int .u8 p.d.z0, .int .u8 p.d.z1, .int .u8 p.d.z2, .int .u8 p.d.z3, .int .u8 p.d.z4, .int .u8 p.d.z5, .int .u8 p.d.z6, .int .u8 p.d.z7]
def flatQ (l : List Pk) : List Value := l.flatMap Pk.cs
theorem flatQ_len (l : List Pk) : (flatQ l).length = l.length * 11 := flatMap_len _ 11 (fun _ => rfl) l
theorem flatQ_one {l : List Pk} : ∀ u ∈ flatQ l, u.oneCell' = true := by
  intro u hu
  obtain ⟨x, _, hx⟩ := List.mem_flatMap.1 hu
  simp [Pk.cs] at hx
  rcases hx with rfl | rfl | rfl | rfl | rfl | rfl | rfl | rfl | rfl | rfl | rfl <;> rfl
/-- packets, read; the call's own -/
def QL (w : World) (a : Option Addr) (n : Nat) (l : List Pk) : Prop := l.length = n ∧ RowR w a n 11 (flatQ l)
def OwnQL (w : World) (base : Nat) (v : Value) (l : List Pk) : Prop := w.ownsRow base 79 11 v l.length (flatQ l)
theorem QL.later {w w' : World} {a : Option Addr} {n : Nat} {l : List Pk} (h : QL w a n l) (hb : Below w.heap.size w w') : QL w' a n l := ⟨h.1, h.2.later hb⟩
theorem QL.nil (w : World) : QL w none 0 [] := ⟨rfl, rfl, by unfold maxLen; omega, fun h => absurd h (by omega)⟩
theorem OwnQL.nil (w : World) (base : Nat) : OwnQL w base (.slice none 0 0) [] := World.ownsRow_nil w base 79 11
theorem OwnQL.ql {w : World} {base : Nat} {v : Value} {l : List Pk} (h : OwnQL w base v l) : ∃ a c, v = .slice a l.length c ∧ QL w a l.length l := by
  obtain ⟨a, c, hv, _, hr, _⟩ := ownsRow_rowR h
  exact ⟨a, c, hv, rfl, hr⟩
theorem QL.at_ {w : World} {a : Option Addr} {n : Nat} {l : List Pk} (h : QL w a n l) (k : Nat) (hk : k < n) :
    ∃ b off, ∃ p : Pk, a = some ⟨b, off, none⟩ ∧ b < w.heap.size ∧ l[k]? = some p ∧ w.cell? ⟨b, off + k * 11, none⟩ = some (.int .i64 p.at_) ∧ w.cell? ⟨b, off + k * 11 + 1, none⟩ = some (.int .i64 p.kind) ∧ w.cell? ⟨b, off + k * 11 + 2, none⟩ = some (.int .i64 p.from_) ∧
      w.cell? ⟨b, off + k * 11 + 3, none⟩ = some (.int .u8 p.d.z0) ∧ w.cell? ⟨b, off + k * 11 + 4, none⟩ = some (.int .u8 p.d.z1) ∧ w.cell? ⟨b, off + k * 11 + 5, none⟩ = some (.int .u8 p.d.z2) ∧ w.cell? ⟨b, off + k * 11 + 6, none⟩ = some (.int .u8 p.d.z3) ∧ w.cell? ⟨b, off + k * 11 + 7, none⟩ = some (.int .u8 p.d.z4) ∧ w.cell? ⟨b, off + k * 11 + 8, none⟩ = some (.int .u8 p.d.z5) ∧ w.cell? ⟨b, off + k * 11 + 9, none⟩ = some (.int .u8 p.d.z6) ∧ w.cell? ⟨b, off + k * 11 + 10, none⟩ = some (.int .u8 p.d.z7) := by
  obtain ⟨h0, h1, h2, h4⟩ := h
  obtain ⟨b, off, ha, hlt, hc⟩ := h4 (by omega)
  have hx : l[k]? = some l[k] := List.getElem?_eq_getElem (by omega)
  have e := fun j (hj : j < 11) => flatMap_at Pk.cs 11 (fun _ => rfl) l k j _ hx hj
  refine ⟨b, off, l[k], ha, hlt, hx, ?_, ?_, ?_, ?_, ?_, ?_, ?_, ?_, ?_, ?_, ?_⟩
  · exact hc (k * 11) _ (e 0 (by omega))
  · exact hc (k * 11 + 1) _ (e 1 (by omega))
  · exact hc (k * 11 + 2) _ (e 2 (by omega))
  · exact hc (k * 11 + 3) _ (e 3 (by omega))
  · exact hc (k * 11 + 4) _ (e 4 (by omega))
  · exact hc (k * 11 + 5) _ (e 5 (by omega))
  · exact hc (k * 11 + 6) _ (e 6 (by omega))
  · exact hc (k * 11 + 7) _ (e 7 (by omega))
  · exact hc (k * 11 + 8) _ (e 8 (by omega))
  · exact hc (k * 11 + 9) _ (e 9 (by omega))
  · exact hc (k * 11 + 10) _ (e 10 (by omega))

theorem Try.info79 : (Try.prog.info? 79).map (fun i => (i.zero, i.size, i.bytes)) = some (some (.agg #[.int .i64 0, .int .i64 0, .int .i64 0, .int .u8 0, .int .u8 0, .int .u8 0, .int .u8 0, .int .u8 0, .int .u8 0, .int .u8 0, .int .u8 0]), 11, 32) := by kernel_rfl

theorem cell_newsQ (w : World) (p : Pk) (t : TypeId) :
    ∀ j u, (flatQ [p])[j]? = some u → (w.alloc (.cells #[.int .i64 p.at_, .int .i64 p.kind, .int .i64 p.from_, .int .u8 p.d.z0, .int .u8 p.d.z1, .int .u8 p.d.z2, .int .u8 p.d.z3, .int .u8 p.d.z4, .int .u8 p.d.z5, .int .u8 p.d.z6, .int .u8 p.d.z7] t)).cell? ((⟨w.heap.size, 0, none⟩ : Addr).add j) = some u := by
  intro j u hj
  have hadd : (⟨w.heap.size, 0, none⟩ : Addr).add j = ⟨w.heap.size, j, none⟩ := by unfold Addr.add; split <;> simp_all
  rw [hadd, World.cell?_alloc_new]
  simpa [flatQ, Pk.cs] using hj

/-- one packet more -/
theorem wpList_append_pk {w : World} {ops : Array Oper} {rest : List Oper} {o : Oper} {a : Act} {Q : Exit → Act → World → Prop} (hgd : o.guard = none) (s x : Operand)
    (ho : o.op = .call { callee := .builtin .append, args := #[s, x], argTypes := #[73, 73] }) (base : Nat) (l : List Pk) (hown : OwnQL w base (a.eval s) l)
    (p : Pk) (hx : a.eval x = .slice (some ⟨w.heap.size, 0, none⟩) 1 1) (h63 : l.length ≤ 1000000) (hbase : base ≤ w.heap.size)
    (h : ∀ ad c w', OwnQL w' base (.slice (some ad) (l.length + 1) c) (l ++ [p]) → w.grownBy w' (a.eval s).ownBlock → wpList Try.prog ops Q rest (a.put o.dst (.slice (some ad) (l.length + 1) c)) w') :
    wpList Try.prog ops Q (o :: rest) a (w.alloc (.cells #[.int .i64 p.at_, .int .i64 p.kind, .int .i64 p.from_, .int .u8 p.d.z0, .int .u8 p.d.z1, .int .u8 p.d.z2, .int .u8 p.d.z3, .int .u8 p.d.z4, .int .u8 p.d.z5, .int .u8 p.d.z6, .int .u8 p.d.z7] 79)) := by
  obtain ⟨i0, hi, hz0, hz1, hz2⟩ := info_parts Try.info79
  refine wpList_append_own _ hgd s x 73 ho base 79 i0 _ 11 32 Try.underlying73 hi hz0 hz1 hz2 rfl (by decide) (a.eval s) l.length (flatQ l) rfl (World.ownsRow.alloc hown _) ⟨w.heap.size, 0, none⟩ 1 1 (flatQ [p]) hx (by simp [flatQ, Pk.cs]) (cell_newsQ w p 79) flatQ_one (by unfold maxLen; omega) (by omega) (by simp; omega) ?_
  intro v' w' hown' hg _
  have hI : OwnQL w' base v' (l ++ [p]) := by
    unfold OwnQL
    rw [List.length_append, flatQ, List.flatMap_append]
    exact hown'
  have hg' : w.grownBy w' (a.eval s).ownBlock := ⟨hg.os, hg.tape, hg.output, by have := hg.size; simp at this; omega, fun k hk hne => (hg.block k (by simp; omega) hne).trans (Below.heap_alloc w _ k hk)⟩
  rcases hown'.2 with ⟨_, hz⟩ | ⟨g, cap, cur, rfl, hbg, _⟩
  · simp at hz
  · exact h _ _ w' hI hg'

theorem Try.fieldsPk : (Try.prog.fieldsOf 79).toList.map (fun f => (f.name, f.type, f.offset)) = [("At", 3, 0), ("Kind", 3, 1), ("From", 3, 2), ("Data", 50, 3)] := by kernel_rfl
theorem Try.underPk : Try.prog.underlying 79 = some (.struct (Try.prog.fieldsOf 79)) := by kernel_rfl
theorem Try.stoodPk : Try.prog.stoodInHeld 79 = false := by kernel_rfl
theorem four_of_map {α β : Type} {φ : α → β} {l : List α} {a b c d : β} (h : l.map φ = [a, b, c, d]) : ∃ x y z u, l = [x, y, z, u] ∧ φ x = a ∧ φ y = b ∧ φ z = c ∧ φ u = d := by
  obtain ⟨x, l1, rfl, h1, h2⟩ := List.map_eq_cons_iff.1 h
  obtain ⟨y, l2, rfl, h3, h4⟩ := List.map_eq_cons_iff.1 h2
  obtain ⟨z, l3, rfl, h5, h6⟩ := List.map_eq_cons_iff.1 h4
  obtain ⟨u, l4, rfl, h7, h8⟩ := List.map_eq_cons_iff.1 h6
  rw [List.map_eq_nil_iff] at h8
  subst h8
  exact ⟨x, y, z, u, rfl, h1, h3, h5, h7⟩
theorem partQ_data (W : World) (p : Pk) : (part 50 #[.int .i64 p.at_, .int .i64 p.kind, .int .i64 p.from_, .int .u8 p.d.z0, .int .u8 p.d.z1, .int .u8 p.d.z2, .int .u8 p.d.z3, .int .u8 p.d.z4, .int .u8 p.d.z5, .int .u8 p.d.z6, .int .u8 p.d.z7] 3).run Try.prog W = .ok (.agg #[.int .u8 p.d.z0, .int .u8 p.d.z1, .int .u8 p.d.z2, .int .u8 p.d.z3, .int .u8 p.d.z4, .int .u8 p.d.z5, .int .u8 p.d.z6, .int .u8 p.d.z7]) W := by
  simp [part, isAgg, run_underlying Try.underlying50, sizeOf, go_sem]
  rw [show Try.t50.size = 8 by kernel_rfl]
  rfl
theorem partQ_at (W : World) (p : Pk) : (part 3 #[.int .i64 p.at_, .int .i64 p.kind, .int .i64 p.from_, .int .u8 p.d.z0, .int .u8 p.d.z1, .int .u8 p.d.z2, .int .u8 p.d.z3, .int .u8 p.d.z4, .int .u8 p.d.z5, .int .u8 p.d.z6, .int .u8 p.d.z7] 0).run Try.prog W = .ok (.int .i64 p.at_) W := by
  simp [part, isAgg, run_underlying Try.underlying3]
theorem partQ_kind (W : World) (p : Pk) : (part 3 #[.int .i64 p.at_, .int .i64 p.kind, .int .i64 p.from_, .int .u8 p.d.z0, .int .u8 p.d.z1, .int .u8 p.d.z2, .int .u8 p.d.z3, .int .u8 p.d.z4, .int .u8 p.d.z5, .int .u8 p.d.z6, .int .u8 p.d.z7] 1).run Try.prog W = .ok (.int .i64 p.kind) W := by
  simp [part, isAgg, run_underlying Try.underlying3]
theorem partQ_from (W : World) (p : Pk) : (part 3 #[.int .i64 p.at_, .int .i64 p.kind, .int .i64 p.from_, .int .u8 p.d.z0, .int .u8 p.d.z1, .int .u8 p.d.z2, .int .u8 p.d.z3, .int .u8 p.d.z4, .int .u8 p.d.z5, .int .u8 p.d.z6, .int .u8 p.d.z7] 2).run Try.prog W = .ok (.int .i64 p.from_) W := by
  simp [part, isAgg, run_underlying Try.underlying3]

/-- two packets, alike or not -/
def Pk.same (p q : Pk) : Bool := p.at_ == q.at_ && (p.kind == q.kind && (p.from_ == q.from_ && decide ([p.d.z0, p.d.z1, p.d.z2, p.d.z3, p.d.z4, p.d.z5, p.d.z6, p.d.z7] = [q.d.z0, q.d.z1, q.d.z2, q.d.z3, q.d.z4, q.d.z5, q.d.z6, q.d.z7])))
theorem Pk.same_iff (p q : Pk) : Pk.same p q = true ↔ p = q := by
  unfold Pk.same
  rw [Bool.and_eq_true, Bool.and_eq_true, Bool.and_eq_true, beq_iff_eq, beq_iff_eq, beq_iff_eq, decide_eq_true_iff, B8.eq_list]
  constructor
  · rintro ⟨h1, h2, h3, h4⟩
    cases p
    cases q
    simp_all
  · rintro rfl
    exact ⟨rfl, rfl, rfl, rfl⟩
theorem equal_pk (p q : Pk) (W : World) :
    (Op.equalIn 10000 79 (.agg #[.int .i64 p.at_, .int .i64 p.kind, .int .i64 p.from_, .int .u8 p.d.z0, .int .u8 p.d.z1, .int .u8 p.d.z2, .int .u8 p.d.z3, .int .u8 p.d.z4, .int .u8 p.d.z5, .int .u8 p.d.z6, .int .u8 p.d.z7]) (.agg #[.int .i64 q.at_, .int .i64 q.kind, .int .i64 q.from_, .int .u8 q.d.z0, .int .u8 q.d.z1, .int .u8 q.d.z2, .int .u8 q.d.z3, .int .u8 q.d.z4, .int .u8 q.d.z5, .int .u8 q.d.z6, .int .u8 q.d.z7])).run Try.prog W = .ok (Pk.same p q) W := by
  rw [run_equalIn_struct W 9999 79 _ _ Try.underPk Try.stoodPk]
  have hf := Try.fieldsPk
  obtain ⟨f0, f1, f2, f3, hfs, g0, g1, g2, g3⟩ := four_of_map hf
  simp only [Prod.mk.injEq] at g0 g1 g2 g3
  obtain ⟨n0, t0, o0⟩ := g0
  obtain ⟨n1, t1, o1⟩ := g1
  obtain ⟨n2, t2, o2⟩ := g2
  obtain ⟨n3, t3, o3⟩ := g3
  rw [hfs]
  clear hf hfs
  have h9 := equal_data ⟨0, p.d⟩ ⟨0, q.d⟩ W
  simp only [Op.eqFields, n0, t0, o0, n1, t1, o1, n2, t2, o2, n3, t3, o3, Sem.run_bind, Sem.run_ite, partQ_at, partQ_kind, partQ_from, partQ_data, Result.andThen_ok, run_equalIn_int W 9998 3 .i64 .i64 _ _ Try.underlying3, h9]
  unfold Pk.same
  cases hb : (p.at_ == q.at_)
  · simp
  · cases hc : (p.kind == q.kind)
    · simp
    · cases hd : (p.from_ == q.from_)
      · simp
      · cases he : decide ([p.d.z0, p.d.z1, p.d.z2, p.d.z3, p.d.z4, p.d.z5, p.d.z6, p.d.z7] = [q.d.z0, q.d.z1, q.d.z2, q.d.z3, q.d.z4, q.d.z5, q.d.z6, q.d.z7])
        · simp
        · simp
def Pk.arr (p : Pk) : Array Value := #[.int .i64 p.at_, .int .i64 p.kind, .int .i64 p.from_, .int .u8 p.d.z0, .int .u8 p.d.z1, .int .u8 p.d.z2, .int .u8 p.d.z3, .int .u8 p.d.z4, .int .u8 p.d.z5, .int .u8 p.d.z6, .int .u8 p.d.z7]
/-- a packet stored -/
def set11 (w : World) (g : Nat) (p : Pk) : World := ((((((((((w.setCell ⟨g, 0, none⟩ (.int .i64 p.at_)).setCell ⟨g, 1, none⟩ (.int .i64 p.kind)).setCell ⟨g, 2, none⟩ (.int .i64 p.from_)).setCell ⟨g, 3, none⟩ (.int .u8 p.d.z0)).setCell ⟨g, 4, none⟩ (.int .u8 p.d.z1)).setCell ⟨g, 5, none⟩ (.int .u8 p.d.z2)).setCell ⟨g, 6, none⟩ (.int .u8 p.d.z3)).setCell ⟨g, 7, none⟩ (.int .u8 p.d.z4)).setCell ⟨g, 8, none⟩ (.int .u8 p.d.z5)).setCell ⟨g, 9, none⟩ (.int .u8 p.d.z6)).setCell ⟨g, 10, none⟩ (.int .u8 p.d.z7)
theorem bx_put11 {w : World} {g : Nat} {q : Pk} {t : TypeId} (h : Bx w g q.arr t) (p : Pk) : Bx (set11 w g p) g p.arr t := by
  have h8 := (((((((((((h.set 0 (.int .i64 p.at_)).set 1 (.int .i64 p.kind)).set 2 (.int .i64 p.from_)).set 3 (.int .u8 p.d.z0)).set 4 (.int .u8 p.d.z1)).set 5 (.int .u8 p.d.z2)).set 6 (.int .u8 p.d.z3)).set 7 (.int .u8 p.d.z4)).set 8 (.int .u8 p.d.z5)).set 9 (.int .u8 p.d.z6)).set 10 (.int .u8 p.d.z7))
  have e : (((((((((((q.arr.setIfInBounds 0 (.int .i64 p.at_)).setIfInBounds 1 (.int .i64 p.kind)).setIfInBounds 2 (.int .i64 p.from_)).setIfInBounds 3 (.int .u8 p.d.z0)).setIfInBounds 4 (.int .u8 p.d.z1)).setIfInBounds 5 (.int .u8 p.d.z2)).setIfInBounds 6 (.int .u8 p.d.z3)).setIfInBounds 7 (.int .u8 p.d.z4)).setIfInBounds 8 (.int .u8 p.d.z5)).setIfInBounds 9 (.int .u8 p.d.z6)).setIfInBounds 10 (.int .u8 p.d.z7)) = p.arr := by simp [Pk.arr]
  rw [e] at h8
  exact h8
theorem set11_below {B g : Nat} {w w' : World} (h : Below B w w') (hg : B ≤ g) (p : Pk) : Below B w (set11 w' g p) := (((((((((((h.setCell (p := ⟨g, 0, none⟩) hg _).setCell (p := ⟨g, 1, none⟩) hg _).setCell (p := ⟨g, 2, none⟩) hg _).setCell (p := ⟨g, 3, none⟩) hg _).setCell (p := ⟨g, 4, none⟩) hg _).setCell (p := ⟨g, 5, none⟩) hg _).setCell (p := ⟨g, 6, none⟩) hg _).setCell (p := ⟨g, 7, none⟩) hg _).setCell (p := ⟨g, 8, none⟩) hg _).setCell (p := ⟨g, 9, none⟩) hg _).setCell (p := ⟨g, 10, none⟩) hg _)
theorem Bx.eleven {w : World} {g : Nat} {p : Pk} {t : TypeId} (h : Bx w g p.arr t) : w.cell? ⟨g, 0, none⟩ = some (.int .i64 p.at_) ∧ w.cell? ⟨g, 1, none⟩ = some (.int .i64 p.kind) ∧ w.cell? ⟨g, 2, none⟩ = some (.int .i64 p.from_) ∧ w.cell? ⟨g, 3, none⟩ = some (.int .u8 p.d.z0) ∧ w.cell? ⟨g, 4, none⟩ = some (.int .u8 p.d.z1) ∧ w.cell? ⟨g, 5, none⟩ = some (.int .u8 p.d.z2) ∧ w.cell? ⟨g, 6, none⟩ = some (.int .u8 p.d.z3) ∧ w.cell? ⟨g, 7, none⟩ = some (.int .u8 p.d.z4) ∧ w.cell? ⟨g, 8, none⟩ = some (.int .u8 p.d.z5) ∧ w.cell? ⟨g, 9, none⟩ = some (.int .u8 p.d.z6) ∧ w.cell? ⟨g, 10, none⟩ = some (.int .u8 p.d.z7) := ⟨h.cell 0, h.cell 1, h.cell 2, h.cell 3, h.cell 4, h.cell 5, h.cell 6, h.cell 7, h.cell 8, h.cell 9, h.cell 10⟩
end Go.Proofs.Ytpjgliocancgeac

/-
  Where a block is in a list (First, slices.Index, slices.Contains); whether a list may be what was had (HadMay, cache.Check).
-/
namespace Go.Proofs.Ytpjgliocancgeac
open Go.RowKit

instance : DecidableEq B8 := fun x y => decidable_of_iff _ (B8.eq_list x y)

namespace Mx
/-- the first place of a block, or -1 -/
def firstI (l : List B8) (b : B8) : Int := if b ∈ l then (l.idxOf b : Int) else -1
/-- what may have been had -/
def hmay (l : List B8) : Int := if 8 < l.length then 2 else if l.Nodup then 0 else 3

theorem firstI_at {l : List B8} {b : B8} {k : Nat} (h : l[k]? = some b) (hn : ∀ j : Nat, j < k → l[j]? ≠ some b) : firstI l b = k := by
  have hm : b ∈ l := List.mem_of_getElem? h
  rw [firstI, if_pos hm]
  congr 1
  have hk : k < l.length := (List.getElem?_eq_some_iff.1 h).1
  have h1 : l.idxOf b < l.length := List.idxOf_lt_length_of_mem hm
  have h2 : l[l.idxOf b]? = some b := by rw [List.getElem?_eq_getElem h1, List.getElem_idxOf h1]
  have h3 : ¬ l.idxOf b < k := fun h => hn _ h h2
  have h4 : ¬ k < l.idxOf b := fun h5 => by
    have h6 := List.not_of_lt_findIdx h5
    have h7 := (List.getElem?_eq_some_iff.1 h).2
    simp [h7] at h6
  omega
theorem firstI_none {l : List B8} {b : B8} (hn : ∀ j : Nat, j < l.length → l[j]? ≠ some b) : firstI l b = -1 := by
  rw [firstI, if_neg]
  intro hm
  obtain ⟨i, hi, e⟩ := List.getElem_of_mem hm
  exact hn i hi (by rw [List.getElem?_eq_getElem hi, e])
theorem firstI_nonneg (l : List B8) (b : B8) : decide (0 ≤ firstI l b) = decide (b ∈ l) := by
  by_cases h : b ∈ l
  · rw [firstI, if_pos h]
    simp [h]
  · rw [firstI, if_neg h]
    simp [h]
theorem firstI_lt {l : List B8} {b : B8} {k : Nat} (h : l[k]? = some b) : (firstI l b < k) ↔ b ∈ l.take k := by
  have hm : b ∈ l := List.mem_of_getElem? h
  have hk : k < l.length := (List.getElem?_eq_some_iff.1 h).1
  have h1 : l.idxOf b < l.length := List.idxOf_lt_length_of_mem hm
  rw [firstI, if_pos hm]
  constructor
  · intro h2
    have h2' : l.idxOf b < k := by omega
    refine List.mem_of_getElem? (i := l.idxOf b) ?_
    rw [List.getElem?_take_of_lt h2', List.getElem?_eq_getElem h1, List.getElem_idxOf h1]
  · intro h2
    obtain ⟨j, hj, e⟩ := List.getElem_of_mem h2
    rw [List.length_take] at hj
    rw [List.getElem_take] at e
    have h4 : ¬ j < l.idxOf b := fun h5 => by
      have h6 := List.not_of_lt_findIdx h5
      simp [e] at h6
    omega
theorem nodup_snoc {l : List B8} {k : Nat} {b : B8} (h : l[k]? = some b) (hn : (l.take k).Nodup) (hb : b ∉ l.take k) : (l.take (k + 1)).Nodup := by
  rw [getElem_take_succ _ _ _ h, List.nodup_append]
  refine ⟨hn, by simp, fun x hx y hy => ?_⟩
  rintro rfl
  simp at hy
  subst hy
  exact hb hx
theorem nodup_not {l : List B8} {k : Nat} {b : B8} (h : l[k]? = some b) (hb : b ∈ l.take k) : ¬ l.Nodup := by
  intro hn
  have h1 : (l.take (k + 1)).Nodup := hn.sublist (List.take_sublist _ _)
  rw [getElem_take_succ _ _ _ h, List.nodup_append] at h1
  exact h1.2.2 b hb b (by simp) rfl
theorem hmay_long {l : List B8} (h : 8 < l.length) : hmay l = 2 := by rw [hmay, if_pos h]
theorem hmay_twice {l : List B8} {k : Nat} {b : B8} (hl : ¬ 8 < l.length) (h : l[k]? = some b) (hb : b ∈ l.take k) : hmay l = 3 := by rw [hmay, if_neg hl, if_neg (nodup_not h hb)]
theorem hmay_good {l : List B8} {k : Nat} (hl : ¬ 8 < l.length) (hk : l.length ≤ k) (h : (l.take k).Nodup) : hmay l = 0 := by
  rw [List.take_of_length_le hk] at h
  rw [hmay, if_neg hl, if_pos h]
end Mx

theorem Bx.drewN {w : World} {g : Nat} {cs : Array Value} {t : TypeId} (h : Bx w g cs t) (n : Nat) : Bx (w.drewN n) g cs t := h
theorem BL.take {w : World} {a : Option Addr} {n : Nat} {l : List B8} (h : BL w a n l) (k : Nat) (hk : k ≤ n) : BL w a k (l.take k) := by
  have hl : (l.take k).length = k := by rw [List.length_take, h.1]; omega
  refine ⟨hl, by rw [flatB_len, hl], by have := h.2.2.1; omega, fun hp => ?_⟩
  obtain ⟨b, off, ha, hb, hc⟩ := h.2.2.2 (by omega)
  refine ⟨b, off, ha, hb, fun j u hj => hc j u ?_⟩
  have e : flatB l = flatB (l.take k) ++ flatB (l.drop k) := by unfold flatB; rw [← List.flatMap_append, List.take_append_drop]
  rw [e, List.getElem?_append_left (List.getElem?_eq_some_iff.1 hj).1]
  exact hj

set_option maxHeartbeats 1000000 in
set_option maxRecDepth 100000 in
theorem first_any (a : Option Addr) (n c : Nat) (l : List B8) (x : B8) (w : World) (hl : BL w a n l) :
    Calls Try.prog 32 #[.slice a n c, .agg #[.int .u8 x.z0, .int .u8 x.z1, .int .u8 x.z2, .int .u8 x.z3, .int .u8 x.z4, .int .u8 x.z5, .int .u8 x.z6, .int .u8 x.z7]] w fun e w' => e = .returned (.int .i64 (Mx.firstI l x)) ∧ Below w.heap.size w w' := by
  have hlen : n ≤ maxLen := hl.2.2.1
  unfold maxLen at hlen
  have HL := hide hl
  clear hl
  go_enter Try.func32, Try.ntmps32
  go_wp2
  go_loopw [5] (fun i wr => ∃ k : Nat, k ≤ n ∧ i = .int .i64 k ∧ Hid (∀ j : Nat, j < k → l[j]? ≠ some x) ∧ Hid (Below w.heap.size w wr ∧ Bx wr w.heap.size #[.int .u8 x.z0, .int .u8 x.z1, .int .u8 x.z2, .int .u8 x.z3, .int .u8 x.z4, .int .u8 x.z5, .int .u8 x.z6, .int .u8 x.z7] 50)) (fun i _ => n - (intOf i).toNat)
  case atStart => exact ⟨0, by omega, rfl, fun j hj => absurd hj (by omega), below_alloc _ _, Bx.new _ _ _⟩
  case round =>
    obtain ⟨k, hk, rfl, hE, hF⟩ := hrel
    by_cases hlt : k < n
    · obtain ⟨b, off, y, rfl, hb, hy, e0, e1, e2, e3, e4, e5, e6, e7⟩ := (HL.out.later hF.out.1).at_ k hlt
      obtain ⟨f0, f1, f2, f3, f4, f5, f6, f7⟩ := hF.out.2.eight
      have HY := hide hy
      clear hy
      have heq := equal_block y.z0 y.z1 y.z2 y.z3 y.z4 y.z5 y.z6 y.z7 x.z0 x.z1 x.z2 x.z3 x.z4 x.z5 x.z6 x.z7
      by_cases hcc : [y.z0, y.z1, y.z2, y.z3, y.z4, y.z5, y.z6, y.z7] = [x.z0, x.z1, x.z2, x.z3, x.z4, x.z5, x.z6, x.z7]
      · have HC := hide ((B8.eq_list y x).1 hcc)
        rw [decide_eq_true hcc] at heq
        clear hcc
        go_wp2_with fail
        go_quiet (fail)
        go_wp2
        go_ret
        exact ⟨by rw [Mx.firstI_at (k := k) (by rw [HY.out, HC.out]) hE.out] <;> rfl, below_drewN hF.out.1 _⟩
      · have HC := hide (fun e => hcc ((B8.eq_list y x).2 e))
        rw [decide_eq_false hcc] at heq
        clear hcc
        go_wp2_with fail
        go_quiet (fail)
        go_wp2
        go_roundw
        case rel =>
          refine ⟨k + 1, by omega, by go_num, fun j hj e => ?_, below_drewN hF.out.1 _, hF.out.2.drewN _⟩
          rcases Nat.lt_succ_iff_lt_or_eq.1 hj with h | h
          · exact hE.out j h e
          · subst h
            rw [HY.out] at e
            exact HC.out (Option.some.inj e)
        case measure => simp [intOf]; omega
    · go_wp2
      go_ret
      exact ⟨by rw [Mx.firstI_none (fun j hj => hE.out j (by have := HL.out.1; omega))] <;> rfl, hF.out.1⟩

set_option maxHeartbeats 1000000 in
set_option maxRecDepth 100000 in
theorem index_any (a : Option Addr) (n c : Nat) (l : List B8) (x : B8) (w : World) (hl : BL w a n l) :
    Calls Try.prog 132 #[.slice a n c, .agg #[.int .u8 x.z0, .int .u8 x.z1, .int .u8 x.z2, .int .u8 x.z3, .int .u8 x.z4, .int .u8 x.z5, .int .u8 x.z6, .int .u8 x.z7]] w fun e w' => e = .returned (.int .i64 (Mx.firstI l x)) ∧ Below w.heap.size w w' := by
  have hlen : n ≤ maxLen := hl.2.2.1
  unfold maxLen at hlen
  have HL := hide hl
  clear hl
  go_enter Try.func132, Try.ntmps132
  go_wp2
  go_loopw [8] (fun i wr => ∃ k : Nat, k ≤ n ∧ i = .int .i64 k ∧ Hid (∀ j : Nat, j < k → l[j]? ≠ some x) ∧ Hid (Below w.heap.size w wr ∧ Bx wr w.heap.size #[.int .u8 x.z0, .int .u8 x.z1, .int .u8 x.z2, .int .u8 x.z3, .int .u8 x.z4, .int .u8 x.z5, .int .u8 x.z6, .int .u8 x.z7] 50)) (fun i _ => n - (intOf i).toNat)
  case atStart => exact ⟨0, by omega, rfl, fun j hj => absurd hj (by omega), below_alloc _ _, Bx.new _ _ _⟩
  case round =>
    obtain ⟨k, hk, rfl, hE, hF⟩ := hrel
    by_cases hlt : k < n
    · obtain ⟨b, off, y, rfl, hb, hy, e0, e1, e2, e3, e4, e5, e6, e7⟩ := (HL.out.later hF.out.1).at_ k hlt
      obtain ⟨f0, f1, f2, f3, f4, f5, f6, f7⟩ := hF.out.2.eight
      have HY := hide hy
      clear hy
      have heq := equal_block x.z0 x.z1 x.z2 x.z3 x.z4 x.z5 x.z6 x.z7 y.z0 y.z1 y.z2 y.z3 y.z4 y.z5 y.z6 y.z7
      by_cases hcc : [x.z0, x.z1, x.z2, x.z3, x.z4, x.z5, x.z6, x.z7] = [y.z0, y.z1, y.z2, y.z3, y.z4, y.z5, y.z6, y.z7]
      · have HC := hide ((B8.eq_list x y).1 hcc)
        rw [decide_eq_true hcc] at heq
        clear hcc
        go_wp2_with fail
        go_quiet (fail)
        go_wp2
        go_ret
        exact ⟨by rw [Mx.firstI_at (k := k) (by rw [HY.out, HC.out]) hE.out] <;> rfl, below_drewN hF.out.1 _⟩
      · have HC := hide (fun e => hcc ((B8.eq_list x y).2 e))
        rw [decide_eq_false hcc] at heq
        clear hcc
        go_wp2_with fail
        go_quiet (fail)
        go_wp2
        go_roundw
        case rel =>
          refine ⟨k + 1, by omega, by go_num, fun j hj e => ?_, below_drewN hF.out.1 _, hF.out.2.drewN _⟩
          rcases Nat.lt_succ_iff_lt_or_eq.1 hj with h | h
          · exact hE.out j h e
          · subst h
            rw [HY.out] at e
            exact HC.out (Option.some.inj e).symm
        case measure => simp [intOf]; omega
    · go_wp2
      go_ret
      exact ⟨by rw [Mx.firstI_none (fun j hj => hE.out j (by have := HL.out.1; omega))] <;> rfl, hF.out.1⟩

set_option maxRecDepth 100000 in
theorem contains_any (a : Option Addr) (n c : Nat) (l : List B8) (x : B8) (w : World) (hl : BL w a n l) :
    Calls Try.prog 117 #[.slice a n c, .agg #[.int .u8 x.z0, .int .u8 x.z1, .int .u8 x.z2, .int .u8 x.z3, .int .u8 x.z4, .int .u8 x.z5, .int .u8 x.z6, .int .u8 x.z7]] w fun e w' => e = .returned (.bool (decide (x ∈ l))) ∧ Below w.heap.size w w' := by
  have HL := hide hl
  clear hl
  go_enter Try.func117, Try.ntmps117
  go_wp2_with fail
  refine (index_any a n c l x _ (HL.out.later (below_alloc _ _))).mono ?_
  rintro e w1 ⟨rfl, hb⟩
  have HB := hide hb
  clear hb
  obtain ⟨r, hr⟩ : ∃ r : Int, Hid (r = Mx.firstI l x) := ⟨_, rfl⟩
  rw [← hr.out]
  go_wp2
  go_ret
  refine ⟨?_, (below_alloc _ _).trans (HB.out.mono (by simp))⟩
  rw [← Mx.firstI_nonneg, ← hr.out]
  try rfl

end Go.Proofs.Ytpjgliocancgeac

/-
  Whether a list may be what was had, as the program says it (cache.Check).
-/
namespace Go.Proofs.Ytpjgliocancgeac
open Go.RowKit

set_option maxHeartbeats 2000000 in
set_option maxRecDepth 100000 in
theorem ccheck_any (a : Option Addr) (n c : Nat) (l : List B8) (w : World) (hl : BL w a n l) (hc : n ≤ c) :
    Calls Try.prog 82 #[.slice a n c] w fun e w' => e = .returned (errV (Mx.hmay l)) ∧ Below w.heap.size w w' := by
  have hlen : n ≤ maxLen := hl.2.2.1
  unfold maxLen at hlen
  have HL := hide hl
  have HN := hide hl.1
  clear hl
  by_cases h8 : (8 : Int) < n
  · go_enter Try.func82, Try.ntmps82
    go_wp2
    go_ret
    exact ⟨by rw [Mx.hmay_long (by rw [HN.out]; omega)] <;> rfl, Below.refl _ _⟩
  · have HN8 := hide (show ¬ 8 < l.length by rw [HN.out]; omega)
    go_enter Try.func82, Try.ntmps82
    go_wp2
    go_loopw [11] (fun i wr => ∃ k : Nat, k ≤ n ∧ i = .int .i64 k ∧ Hid ((l.take k).Nodup) ∧ Hid (Below w.heap.size w wr)) (fun i _ => n - (intOf i).toNat)
    case atStart => exact ⟨0, by omega, rfl, by unfold Hid; simp, Below.refl _ _⟩
    case round =>
      obtain ⟨k, hk, rfl, hE, hF⟩ := hrel
      by_cases hlt : k < n
      · obtain ⟨b, off, y, rfl, hb, hy, e0, e1, e2, e3, e4, e5, e6, e7⟩ := (HL.out.later hF.out).at_ k hlt
        have HY := hide hy
        clear hy
        have hkc : (k : Int) ≤ c := by omega
        obtain ⟨w1, hw1⟩ : ∃ w1 : World, Hid (w1 = wr.alloc (.cells #[.int .u8 y.z0, .int .u8 y.z1, .int .u8 y.z2, .int .u8 y.z3, .int .u8 y.z4, .int .u8 y.z5, .int .u8 y.z6, .int .u8 y.z7] 50)) := ⟨_, rfl⟩
        have B1 := hide (show Below w.heap.size w w1 by rw [hw1.out]; exact hF.out.alloc hF.out.size _)
        have Y1 := hide (show Bx w1 wr.heap.size #[.int .u8 y.z0, .int .u8 y.z1, .int .u8 y.z2, .int .u8 y.z3, .int .u8 y.z4, .int .u8 y.z5, .int .u8 y.z6, .int .u8 y.z7] 50 by rw [hw1.out]; exact Bx.new _ _ _)
        have HT1 := hide (show BL w1 (some ⟨b, off, none⟩) k (l.take k) from (HL.out.later B1.out).take k (by omega))
        go_wp2_with fail
        rw [← hw1.out]
        clear e0 e1 e2 e3 e4 e5 e6 e7
        obtain ⟨f0, f1, f2, f3, f4, f5, f6, f7⟩ := Y1.out.eight
        by_cases hm : y ∈ l.take k
        · have HD := hide (decide_eq_true hm)
          have HT := hide hm
          clear hm
          go_region_with (go_at_call 117; refine (contains_any (some ⟨b, off, none⟩) k c (l.take k) y _ ?hbl).mono ?_; (case hbl => first | exact HT1.out | exact HT1.out.later (Below.refl _ _).drew); rintro e w2 ⟨rfl, hb2⟩; rw [HD.out])
          all_goals
            have HB := hide (B1.out.drew.trans (hb2.mono B1.out.size))
            clear hb2
            go_wp2
            go_ret
            exact ⟨by rw [Mx.hmay_twice HN8.out HY.out HT.out] <;> rfl, HB.out⟩
        · have HD := hide (decide_eq_false hm)
          have HT := hide hm
          clear hm
          go_region_with (go_at_call 117; refine (contains_any (some ⟨b, off, none⟩) k c (l.take k) y _ ?hbl).mono ?_; (case hbl => first | exact HT1.out | exact HT1.out.later (Below.refl _ _).drew); rintro e w2 ⟨rfl, hb2⟩; rw [HD.out])
          all_goals
            have HB := hide (B1.out.drew.trans (hb2.mono B1.out.size))
            clear hb2
            go_wp2
            go_roundw
            case rel => exact ⟨k + 1, by omega, by go_num, Mx.nodup_snoc HY.out hE.out HT.out, HB⟩
            case measure => simp [intOf]; omega
      · go_wp2
        go_ret
        exact ⟨by rw [Mx.hmay_good HN8.out (k := k) (by rw [HN.out]; omega) hE.out] <;> rfl, hF.out⟩

end Go.Proofs.Ytpjgliocancgeac

/-
  Puts whose places rise: the document's answer (Rising), and the program's (checkPuts, step); what a peer may be (PlanMay, checkPeer); where a block is (Find).
-/
namespace Go.Proofs.Ytpjgliocancgeac
open Go.RowKit

namespace Mx
def dP : Pt := ⟨0, zB⟩
/-- the least place that the k-th put may have -/
def nextOf (ps : List Pt) : Nat → Int
  | 0 => 0
  | k + 1 => (ps.getD k dP).at_ + 1
def goodAt (n : Int) (ps : List Pt) (k : Nat) : Bool := decide (nextOf ps k ≤ (ps.getD k dP).at_) && decide ((ps.getD k dP).at_ < n)
/-- the places rise, and are of n -/
def riseB (n : Int) (ps : List Pt) : Bool := (List.range ps.length).all (goodAt n ps)
theorem riseB_not {n : Int} {ps : List Pt} {k : Nat} (hk : k < ps.length) (h : goodAt n ps k = false) : riseB n ps = false := by
  unfold riseB
  rw [List.all_eq_false]
  exact ⟨k, List.mem_range.2 hk, by rw [h]; simp⟩
theorem riseB_all {n : Int} {ps : List Pt} (h : ∀ k, k < ps.length → goodAt n ps k = true) : riseB n ps = true := by
  unfold riseB
  rw [List.all_eq_true]
  exact fun k hk => h k (List.mem_range.1 hk)
theorem riseB_at {n : Int} {ps : List Pt} (h : riseB n ps = true) {k : Nat} {p : Pt} (hp : ps[k]? = some p) : nextOf ps k ≤ p.at_ ∧ p.at_ < n := by
  unfold riseB at h
  rw [List.all_eq_true] at h
  have h1 := h k (List.mem_range.2 (List.getElem?_eq_some_iff.1 hp).1)
  unfold goodAt at h1
  rw [List.getD_eq_getElem?_getD, hp] at h1
  simpa using h1
/-- so far they rise -/
def riseTo (n : Int) (ps : List Pt) (k : Nat) : Prop := ∀ j, j < k → goodAt n ps j = true
theorem riseTo_next {n : Int} {ps : List Pt} {k : Nat} (h : riseTo n ps k) : 0 ≤ nextOf ps k := by
  induction k with
  | zero => exact Int.le_refl _
  | succ k ih =>
    have h1 := h k (by omega)
    have h2 := ih (fun j hj => h j (by omega))
    unfold goodAt at h1
    simp only [Bool.and_eq_true, decide_eq_true_eq] at h1
    show 0 ≤ (ps.getD k dP).at_ + 1
    omega
theorem riseTo_succ {n : Int} {ps : List Pt} {k : Nat} (h : riseTo n ps k) (hg : goodAt n ps k = true) : riseTo n ps (k + 1) := by
  intro j hj
  rcases Nat.lt_succ_iff_lt_or_eq.1 hj with h1 | h1
  · exact h j h1
  · subst h1
    exact hg
theorem riseB_zero {n : Int} {ps : List Pt} (h : riseB n ps = true) {k : Nat} : riseTo n ps k ∨ ps.length ≤ k := by
  by_cases hk : k ≤ ps.length
  · left
    intro j hj
    unfold riseB at h
    rw [List.all_eq_true] at h
    exact h j (List.mem_range.2 (by omega))
  · right
    omega
end Mx

end Go.Proofs.Ytpjgliocancgeac

/-
  Puts whose places rise, as the program asks it (step, checkPuts); what a peer may be (PlanMay, checkPeer); where a block is (Find).
-/
namespace Go.Proofs.Ytpjgliocancgeac
open Go.RowKit

theorem Bx.two {w : World} {g : Nat} {s0 s1 : Value} {t : TypeId} (h : Bx w g #[s0, s1] t) : w.cell? ⟨g, 0, none⟩ = some s0 ∧ w.cell? ⟨g, 1, none⟩ = some s1 := ⟨h.cell 0, h.cell 1⟩

set_option maxHeartbeats 1000000 in
set_option maxRecDepth 100000 in
theorem step_yes (g : Nat) (nx n z : Int) (w : World) (hb : Bx w g #[.int .i64 nx, .int .i64 n] 196) (h1 : nx ≤ z) (h2 : z < n) (h3 : n ≤ 1000) (h4 : 0 ≤ nx) :
    Calls Try.prog 116 #[.pointer (some ⟨g, 0, none⟩), .int .i64 z] w fun e w' => e = .returned (.bool true) ∧ w' = w.setCell ⟨g, 0, none⟩ (.int .i64 (z + 1)) := by
  obtain ⟨c0, c1⟩ := hb.two
  have cz := hb.frozen
  have hd1 : decide (z < nx) = false := by simp; omega
  have hd2 : decide (n ≤ z) = false := by simp; omega
  clear hb
  go_enter Try.func116, Try.ntmps116
  go_wp2_with fail
  go_ret
  exact ⟨rfl, rfl⟩

set_option maxHeartbeats 1000000 in
set_option maxRecDepth 100000 in
theorem step_no (g : Nat) (nx n z : Int) (w : World) (hb : Bx w g #[.int .i64 nx, .int .i64 n] 196) (h : z < nx ∨ n ≤ z) :
    Calls Try.prog 116 #[.pointer (some ⟨g, 0, none⟩), .int .i64 z] w fun e w' => e = .returned (.bool false) ∧ w' = w := by
  obtain ⟨c0, c1⟩ := hb.two
  clear hb
  by_cases h1 : z < nx
  · have hd1 : decide (z < nx) = true := by simpa using h1
    clear h
    go_enter Try.func116, Try.ntmps116
    go_wp2_with fail
    go_ret
    exact ⟨rfl, rfl⟩
  · have hd1 : decide (z < nx) = false := by simpa using h1
    have h2 : n ≤ z := by omega
    have hd2 : decide (n ≤ z) = true := by simpa using h2
    clear h
    go_enter Try.func116, Try.ntmps116
    go_wp2_with fail
    go_ret
    exact ⟨rfl, rfl⟩

/-- the error of puts -/
def Mx.riseE (n : Int) (ps : List Pt) : Int := if Mx.riseB n ps = true then 0 else 1

set_option maxHeartbeats 2000000 in
set_option maxRecDepth 100000 in
theorem checkPuts_any (a : Option Addr) (m c : Nat) (ps : List Pt) (n : Nat) (w : World) (hp : PL w a m ps) (hn : n ≤ 1000) :
    Calls Try.prog 78 #[.slice a m c, .int .i64 (n : Int)] w fun e w' => e = .returned (errV (Mx.riseE n ps)) ∧ Below w.heap.size w w' := by
  have hlen : m ≤ maxLen := hp.2.2.1
  unfold maxLen at hlen
  have HP := hide hp
  have HN := hide hp.1
  clear hp
  go_enter Try.func78, Try.ntmps78
  go_wp2_with fail
  go_loopw [12] (fun t wr => ∃ k : Nat, k ≤ m ∧ t = .int .i64 (k : Int) ∧ Hid (Mx.riseTo n ps k) ∧ Hid (Bx wr w.heap.size #[.int .i64 (Mx.nextOf ps k), .int .i64 (n : Int)] 196) ∧ Hid (Below w.heap.size w wr)) (fun t _ => m - (intOf t).toNat)
  case atStart => exact ⟨0, by omega, rfl, fun j hj => absurd hj (by omega), Bx.new _ _ _, below_alloc _ _⟩
  case round =>
    obtain ⟨k, hk, rfl, hR, hX, hB⟩ := hrel
    by_cases hlt : k < m
    · obtain ⟨b, off, p, hab, _, hpk, e0, e1, e2, e3, e4, e5, e6, e7, e8⟩ := (HP.out.later hB.out).at_ k hlt
      subst hab
      have HG := hide (show Mx.goodAt n ps k = (decide (Mx.nextOf ps k ≤ p.at_) && decide (p.at_ < n)) by unfold Mx.goodAt; rw [List.getD_eq_getElem?_getD, hpk]; rfl)
      have HNX := hide (show Mx.nextOf ps (k + 1) = p.at_ + 1 by rw [Mx.nextOf, List.getD_eq_getElem?_getD, hpk]; rfl)
      have HNN := hide (Mx.riseTo_next hR.out)
      obtain ⟨z, hz⟩ : ∃ z : Int, Hid (z = p.at_) := ⟨_, rfl⟩
      obtain ⟨nx, hnx⟩ : ∃ nx : Int, Hid (nx = Mx.nextOf ps k) := ⟨_, rfl⟩
      rw [← hz.out] at e0 HG HNX
      rw [← hnx.out] at HG hX HNN
      have hki : (k : Int) < m := by omega
      clear hpk
      obtain ⟨w1, hw1⟩ : ∃ w1 : World, Hid (w1 = wr.alloc (.cells #[.int .i64 z, .int .u8 p.d.z0, .int .u8 p.d.z1, .int .u8 p.d.z2, .int .u8 p.d.z3, .int .u8 p.d.z4, .int .u8 p.d.z5, .int .u8 p.d.z6, .int .u8 p.d.z7] 52)) := ⟨_, rfl⟩
      have X1 := hide (show Bx w1 w.heap.size #[.int .i64 nx, .int .i64 (n : Int)] 196 by rw [hw1.out]; exact hX.out.alloc _)
      have B1 := hide (show Below w.heap.size w w1 by rw [hw1.out]; exact hB.out.alloc hB.out.size _)
      go_wp2_with fail
      rw [← hw1.out]
      by_cases hg : nx ≤ z ∧ z < (n : Int)
      · have HR2 := hide (Mx.riseTo_succ hR.out (by rw [HG.out]; simp; omega))
        refine (step_yes w.heap.size nx n z w1 X1.out hg.1 hg.2 (by omega) HNN.out).mono ?_
        rintro e w2 ⟨rfl, rfl⟩
        have X2 := hide (show Bx (w1.setCell ⟨w.heap.size, 0, none⟩ (.int .i64 (z + 1))) w.heap.size #[.int .i64 (Mx.nextOf ps (k + 1)), .int .i64 (n : Int)] 196 by rw [HNX.out]; exact X1.out.set 0 _)
        have B2 := hide (B1.out.setCell (p := ⟨w.heap.size, 0, none⟩) (Nat.le_refl w.heap.size) (.int .i64 (z + 1)))
        obtain ⟨w2, hw2⟩ : ∃ w2 : World, Hid (w2 = w1.setCell ⟨w.heap.size, 0, none⟩ (.int .i64 (z + 1))) := ⟨_, rfl⟩
        rw [← hw2.out] at X2 B2 ⊢
        clear e0 e1 e2 e3 e4 e5 e6 e7 e8 hg
        go_wp2_with fail
        go_roundw
        case rel => exact ⟨k + 1, by omega, by go_num, HR2, X2, B2⟩
        case measure => simp [intOf]; omega
      · have HF := hide (show Mx.riseE n ps = 1 by
          rw [Mx.riseE, Mx.riseB_not (k := k) (by rw [HN.out]; exact hlt) (by rw [HG.out, Bool.and_eq_false_iff]; simp; omega)]
          rfl)
        refine (step_no w.heap.size nx n z w1 X1.out (by omega)).mono ?_
        rintro e w2 ⟨rfl, rfl⟩
        clear e0 e1 e2 e3 e4 e5 e6 e7 e8 hg
        go_wp2_with fail
        go_ret
        exact ⟨by rw [HF.out] <;> rfl, B1.out⟩
    · have HF := hide (show Mx.riseE n ps = 0 by
        rw [Mx.riseE, Mx.riseB_all (n := n) (ps := ps) (fun j hj => hR.out j (by have := HN.out; omega))]
        rfl)
      go_wp2_with fail
      go_ret
      exact ⟨by rw [HF.out] <;> rfl, hB.out⟩

/-- G1's error of a peer -/
def Mx.pmay (n : Nat) (had : List B8) : Int := if n < 1 ∨ 32 < n then 1 else Mx.hmay had

set_option maxHeartbeats 1000000 in
set_option maxRecDepth 100000 in
theorem checkPeer_any (a ah : Option Addr) (n c nh ch : Nat) (had : List B8) (w : World) (hh : BL w ah nh had) (hc : nh ≤ ch) :
    Calls Try.prog 77 #[.slice a n c, .slice ah nh ch] w fun e w' => e = .returned (errV (Mx.pmay n had)) ∧ Below w.heap.size w w' := by
  have HH := hide hh
  clear hh
  by_cases h1 : (n : Int) < 1
  · have hd1 : decide ((n : Int) < 1) = true := by simpa using h1
    have HF := hide (show Mx.pmay n had = 1 by rw [Mx.pmay, if_pos (by omega)])
    go_enter Try.func77, Try.ntmps77
    go_wp2_with fail
    go_ret
    exact ⟨by rw [HF.out] <;> rfl, Below.refl _ _⟩
  · have hd1 : decide ((n : Int) < 1) = false := by simpa using h1
    by_cases h2 : (32 : Int) < n
    · have hd2 : decide ((32 : Int) < n) = true := by simpa using h2
      have HF := hide (show Mx.pmay n had = 1 by rw [Mx.pmay, if_pos (by omega)])
      go_enter Try.func77, Try.ntmps77
      go_wp2_with fail
      go_ret
      exact ⟨by rw [HF.out] <;> rfl, Below.refl _ _⟩
    · have hd2 : decide ((32 : Int) < n) = false := by simpa using h2
      have HF := hide (show Mx.pmay n had = Mx.hmay had by rw [Mx.pmay, if_neg (by omega)])
      go_enter Try.func77, Try.ntmps77
      go_wp2_with fail
      refine (ccheck_any ah nh ch had w HH.out hc).mono ?_
      rintro e w1 ⟨rfl, hb⟩
      go_wp2_with fail
      go_ret
      exact ⟨by rw [HF.out] <;> rfl, hb⟩

/-- where a block is, and whether it is -/
def Mx.findI (l : List B8) (b : B8) : Int := if Mx.firstI l b < 0 then 0 else Mx.firstI l b
def Mx.findB (l : List B8) (b : B8) : Bool := decide (0 ≤ Mx.firstI l b)

set_option maxHeartbeats 1000000 in
set_option maxRecDepth 100000 in
theorem find_any (a : Option Addr) (n c : Nat) (l : List B8) (x : B8) (w : World) (hl : BL w a n l) :
    Calls Try.prog 154 #[.slice a n c, .agg #[.int .u8 x.z0, .int .u8 x.z1, .int .u8 x.z2, .int .u8 x.z3, .int .u8 x.z4, .int .u8 x.z5, .int .u8 x.z6, .int .u8 x.z7]] w fun e w' => e = .returned (.tuple #[.int .i64 (Mx.findI l x), .bool (Mx.findB l x)]) ∧ Below w.heap.size w w' := by
  have HL := hide hl
  clear hl
  go_enter Try.func154, Try.ntmps154
  go_wp2_with fail
  refine (index_any a n c l x _ (HL.out.later (below_alloc _ _))).mono ?_
  rintro e w1 ⟨rfl, hb1⟩
  have B1 := hide ((below_alloc w (.cells #[.int .u8 x.z0, .int .u8 x.z1, .int .u8 x.z2, .int .u8 x.z3, .int .u8 x.z4, .int .u8 x.z5, .int .u8 x.z6, .int .u8 x.z7] 50)).trans (hb1.mono (by simp)))
  clear hb1
  obtain ⟨F, hF⟩ : ∃ F : Int, Hid (F = Mx.firstI l x) := ⟨_, rfl⟩
  rw [← hF.out]
  by_cases h : F < 0
  · have HA := hide (show Mx.findI l x = 0 by rw [Mx.findI, if_pos (by rw [← hF.out]; exact h)])
    have HB := hide (show Mx.findB l x = false by rw [Mx.findB, ← hF.out]; simp; omega)
    go_wp2_with fail
    go_ret2
    exact ⟨by rw [HA.out, HB.out] <;> rfl, B1.out⟩
  · have HA := hide (show Mx.findI l x = F by rw [Mx.findI, if_neg (by rw [← hF.out]; exact h), hF.out])
    have HB := hide (show Mx.findB l x = true by rw [Mx.findB, ← hF.out]; simp; omega)
    go_wp2_with fail
    go_ret2
    exact ⟨by rw [HA.out, HB.out] <;> rfl, B1.out⟩
end Go.Proofs.Ytpjgliocancgeac

/-
  Ways to tell a block (tell), and the packet for a put (packet), as the program does it; what the document's answer says (PacketOf).
-/
namespace Go.Proofs.Ytpjgliocancgeac
open Go.RowKit

set_option maxRecDepth 100000 in
theorem equal_zB (x : B8) (W : World) : (Op.equalIn 10000 50 (.agg #[.int .u8 x.z0, .int .u8 x.z1, .int .u8 x.z2, .int .u8 x.z3, .int .u8 x.z4, .int .u8 x.z5, .int .u8 x.z6, .int .u8 x.z7]) (.agg #[.int .u8 0, .int .u8 0, .int .u8 0, .int .u8 0, .int .u8 0, .int .u8 0, .int .u8 0, .int .u8 0])).run Try.prog W = .ok (decide (x = zB)) W := by
  have h := equal_block x.z0 x.z1 x.z2 x.z3 x.z4 x.z5 x.z6 x.z7 0 0 0 0 0 0 0 0 W
  have e : decide ([x.z0, x.z1, x.z2, x.z3, x.z4, x.z5, x.z6, x.z7] = [(0 : Int), 0, 0, 0, 0, 0, 0, 0]) = decide (x = zB) := decide_eq_decide.2 (B8.eq_list x zB)
  rw [e] at h
  exact h

set_option maxHeartbeats 2000000 in
set_option maxRecDepth 100000 in
theorem tell_noughts (x : B8) (w : World) :
    Calls Try.prog 151 #[.agg #[], .agg #[.int .u8 x.z0, .int .u8 x.z1, .int .u8 x.z2, .int .u8 x.z3, .int .u8 x.z4, .int .u8 x.z5, .int .u8 x.z6, .int .u8 x.z7]] w fun e w' => e = .returned (.tuple #[.agg #[.int .i64 0, .int .i64 0, .int .i64 0, .int .u8 0, .int .u8 0, .int .u8 0, .int .u8 0, .int .u8 0, .int .u8 0, .int .u8 0, .int .u8 0], .bool (decide (x = zB))]) ∧ Below w.heap.size w w' := by
  have heq := equal_zB x
  obtain ⟨r, hr⟩ : ∃ r : Bool, Hid (r = decide (x = zB)) := ⟨_, rfl⟩
  rw [← hr.out] at heq ⊢
  go_enter Try.func151, Try.ntmps151
  go_wp2_with fail
  go_region
  go_wp2_with fail
  exact bodyPost_ret (v := .tuple #[.agg #[.int .i64 0, .int .i64 0, .int .i64 0, .int .u8 0, .int .u8 0, .int .u8 0, .int .u8 0, .int .u8 0, .int .u8 0, .int .u8 0, .int .u8 0], .bool r]) (by simp [results, Try.results151, go_sem]) rfl ⟨rfl, (((below_alloc _ _).alloc (by simp) _).alloc (by simp; omega) _).drew⟩

set_option maxHeartbeats 2000000 in
set_option maxRecDepth 100000 in
theorem tell_listed (a : Option Addr) (n c : Nat) (l : List B8) (x : B8) (w : World) (hl : BL w a n l) :
    Calls Try.prog 153 #[.slice a n c, .agg #[.int .u8 x.z0, .int .u8 x.z1, .int .u8 x.z2, .int .u8 x.z3, .int .u8 x.z4, .int .u8 x.z5, .int .u8 x.z6, .int .u8 x.z7]] w fun e w' => e = .returned (.tuple #[.agg #[.int .i64 0, .int .i64 0, .int .i64 (Mx.findI l x), .int .u8 0, .int .u8 0, .int .u8 0, .int .u8 0, .int .u8 0, .int .u8 0, .int .u8 0, .int .u8 0], .bool (Mx.findB l x)]) ∧ Below w.heap.size w w' := by
  have HL := hide hl
  clear hl
  obtain ⟨w0, hw0⟩ : ∃ w0 : World, Hid (w0 = (w.alloc (.cells #[.int .u8 x.z0, .int .u8 x.z1, .int .u8 x.z2, .int .u8 x.z3, .int .u8 x.z4, .int .u8 x.z5, .int .u8 x.z6, .int .u8 x.z7] 50)).alloc (.cells #[.int .i64 0, .int .i64 0, .int .i64 0, .int .u8 0, .int .u8 0, .int .u8 0, .int .u8 0, .int .u8 0, .int .u8 0, .int .u8 0, .int .u8 0] 79)) := ⟨_, rfl⟩
  have B0 := hide (show Below w.heap.size w w0 by rw [hw0.out]; exact (below_alloc _ _).alloc (by simp) _)
  have R0 := hide (show Bx w0 (w.heap.size + 1) #[.int .i64 0, .int .i64 0, .int .i64 0, .int .u8 0, .int .u8 0, .int .u8 0, .int .u8 0, .int .u8 0, .int .u8 0, .int .u8 0, .int .u8 0] 79 by
    rw [hw0.out]
    have h := Bx.new (w.alloc (.cells #[.int .u8 x.z0, .int .u8 x.z1, .int .u8 x.z2, .int .u8 x.z3, .int .u8 x.z4, .int .u8 x.z5, .int .u8 x.z6, .int .u8 x.z7] 50)) #[.int .i64 0, .int .i64 0, .int .i64 0, .int .u8 0, .int .u8 0, .int .u8 0, .int .u8 0, .int .u8 0, .int .u8 0, .int .u8 0, .int .u8 0] 79
    rw [World.size_alloc] at h
    exact h)
  go_enter Try.func153, Try.ntmps153
  go_wp2_with fail
  rw [← hw0.out]
  refine (find_any a n c l x w0 (HL.out.later B0.out)).mono ?_
  rintro e w1 ⟨rfl, hb1⟩
  have R1 := hide (R0.out.later hb1 R0.out.lt)
  have B1 := hide (B0.out.trans (hb1.mono B0.out.size))
  clear hb1
  obtain ⟨F, hF⟩ : ∃ F : Int, Hid (F = Mx.findI l x) := ⟨_, rfl⟩
  obtain ⟨r, hr⟩ : ∃ r : Bool, Hid (r = Mx.findB l x) := ⟨_, rfl⟩
  rw [← hF.out, ← hr.out]
  have rz := R1.out.frozen
  obtain ⟨q0, q1, q2, q3, q4, q5, q6, q7, q8, q9, q10⟩ := Bx.eleven (p := ⟨0, 0, 0, zB⟩) R1.out
  go_wp2_with fail
  change bodyPost Try.prog Try.f153 _ _ _ (set11 w1 (w.heap.size + 1) ⟨0, 0, F, zB⟩)
  have R2 := hide (bx_put11 (q := ⟨0, 0, 0, zB⟩) R1.out ⟨0, 0, F, zB⟩)
  have B2 := hide (set11_below B1.out (by omega : w.heap.size ≤ w.heap.size + 1) ⟨0, 0, F, zB⟩)
  obtain ⟨w2, hw2⟩ : ∃ w2 : World, Hid (w2 = set11 w1 (w.heap.size + 1) ⟨0, 0, F, zB⟩) := ⟨_, rfl⟩
  rw [← hw2.out] at R2 B2 ⊢
  obtain ⟨s0, s1, s2, s3, s4, s5, s6, s7, s8, s9, s10⟩ := Bx.eleven (p := ⟨0, 0, F, zB⟩) R2.out
  exact bodyPost_ret (v := .tuple #[.agg #[.int .i64 0, .int .i64 0, .int .i64 F, .int .u8 0, .int .u8 0, .int .u8 0, .int .u8 0, .int .u8 0, .int .u8 0, .int .u8 0, .int .u8 0], .bool r]) (by simp [results, Try.results153, go_sem, s0, s1, s2, s3, s4, s5, s6, s7, s8, s9, s10, zB]) rfl ⟨by rw [hF.out, hr.out], B2.out⟩

set_option maxHeartbeats 2000000 in
set_option maxRecDepth 100000 in
theorem tell_literal (x : B8) (w : World) :
    Calls Try.prog 156 #[.agg #[], .agg #[.int .u8 x.z0, .int .u8 x.z1, .int .u8 x.z2, .int .u8 x.z3, .int .u8 x.z4, .int .u8 x.z5, .int .u8 x.z6, .int .u8 x.z7]] w fun e w' => e = .returned (.tuple #[.agg #[.int .i64 0, .int .i64 0, .int .i64 0, .int .u8 x.z0, .int .u8 x.z1, .int .u8 x.z2, .int .u8 x.z3, .int .u8 x.z4, .int .u8 x.z5, .int .u8 x.z6, .int .u8 x.z7], .bool true]) ∧ Below w.heap.size w w' := by
  go_enter Try.func156, Try.ntmps156
  go_wp2_with fail
  exact bodyPost_ret (v := .tuple #[.agg #[.int .i64 0, .int .i64 0, .int .i64 0, .int .u8 x.z0, .int .u8 x.z1, .int .u8 x.z2, .int .u8 x.z3, .int .u8 x.z4, .int .u8 x.z5, .int .u8 x.z6, .int .u8 x.z7], .bool true]) (by simp [results, Try.results156, go_sem]) rfl ⟨rfl, ((below_alloc _ _).alloc (by simp) _).alloc (by simp; omega) _⟩

theorem ways_at0 (a ah : Option Addr) (n c nh ch : Nat) (W : World) : (Instr.index 149 (.agg #[.iface 198 (.agg #[]), .iface 199 (.slice a n c), .iface 199 (.slice ah nh ch), .iface 200 (.agg #[])]) (.int .i64 0)).run Try.prog W = .ok (.iface 198 (.agg #[])) W := by kernel_rfl
theorem ways_at1 (a ah : Option Addr) (n c nh ch : Nat) (W : World) : (Instr.index 149 (.agg #[.iface 198 (.agg #[]), .iface 199 (.slice a n c), .iface 199 (.slice ah nh ch), .iface 200 (.agg #[])]) (.int .i64 1)).run Try.prog W = .ok (.iface 199 (.slice a n c)) W := by kernel_rfl
theorem ways_at2 (a ah : Option Addr) (n c nh ch : Nat) (W : World) : (Instr.index 149 (.agg #[.iface 198 (.agg #[]), .iface 199 (.slice a n c), .iface 199 (.slice ah nh ch), .iface 200 (.agg #[])]) (.int .i64 2)).run Try.prog W = .ok (.iface 199 (.slice ah nh ch)) W := by kernel_rfl
theorem ways_at3 (a ah : Option Addr) (n c nh ch : Nat) (W : World) : (Instr.index 149 (.agg #[.iface 198 (.agg #[]), .iface 199 (.slice a n c), .iface 199 (.slice ah nh ch), .iface 200 (.agg #[])]) (.int .i64 3)).run Try.prog W = .ok (.iface 200 (.agg #[])) W := by kernel_rfl

/-- the packet for a put -/
def Mx.pkOf (p : Pt) (peer had : List B8) : Pk :=
  if p.d = zB then ⟨p.at_, 0, 0, zB⟩ else if Mx.findB peer p.d = true then ⟨p.at_, 1, Mx.findI peer p.d, zB⟩ else if Mx.findB had p.d = true then ⟨p.at_, 2, Mx.findI had p.d, zB⟩ else ⟨p.at_, 3, 0, p.d⟩

theorem bx_pk2 {w : World} {g : Nat} {F : Int} {d : B8} {t : TypeId} (h : Bx w g (Pk.arr ⟨0, 0, F, d⟩) t) (A K : Int) : Bx (set11 ((w.setCell ⟨g, 0, none⟩ (.int .i64 A)).setCell ⟨g, 1, none⟩ (.int .i64 K)) g ⟨A, K, F, d⟩) g (Pk.arr ⟨A, K, F, d⟩) t := by
  have h2 := (h.set 0 (.int .i64 A)).set 1 (.int .i64 K)
  have e : ((Pk.arr ⟨0, 0, F, d⟩).setIfInBounds 0 (.int .i64 A)).setIfInBounds 1 (.int .i64 K) = Pk.arr ⟨A, K, F, d⟩ := by simp [Pk.arr]
  rw [e] at h2
  exact bx_put11 h2 _

set_option maxHeartbeats 4000000 in
set_option maxRecDepth 100000 in
theorem packet_any (a ah : Option Addr) (n c nh ch : Nat) (peer had : List B8) (p : Pt) (w : World) (hp : BL w a n peer) (hh : BL w ah nh had) :
    Calls Try.prog 80 #[.agg #[.iface 198 (.agg #[]), .iface 199 (.slice a n c), .iface 199 (.slice ah nh ch), .iface 200 (.agg #[])], .agg #[.int .i64 p.at_, .int .u8 p.d.z0, .int .u8 p.d.z1, .int .u8 p.d.z2, .int .u8 p.d.z3, .int .u8 p.d.z4, .int .u8 p.d.z5, .int .u8 p.d.z6, .int .u8 p.d.z7]] w fun e w' => ∃ q : Pk, q = Mx.pkOf p peer had ∧ e = .returned (.agg #[.int .i64 q.at_, .int .i64 q.kind, .int .i64 q.from_, .int .u8 q.d.z0, .int .u8 q.d.z1, .int .u8 q.d.z2, .int .u8 q.d.z3, .int .u8 q.d.z4, .int .u8 q.d.z5, .int .u8 q.d.z6, .int .u8 q.d.z7]) ∧ Hid (Below w.heap.size w w') := by
  have HP := hide hp
  have HH := hide hh
  clear hp hh
  obtain ⟨w0, hw0⟩ : ∃ w0 : World, Hid (w0 = ((w.alloc (.cells #[.iface 198 (.agg #[]), .iface 199 (.slice a n c), .iface 199 (.slice ah nh ch), .iface 200 (.agg #[])] 149)).alloc (.cells #[.int .i64 p.at_, .int .u8 p.d.z0, .int .u8 p.d.z1, .int .u8 p.d.z2, .int .u8 p.d.z3, .int .u8 p.d.z4, .int .u8 p.d.z5, .int .u8 p.d.z6, .int .u8 p.d.z7] 52)).alloc (.cells #[.int .i64 0, .int .i64 0, .int .i64 0, .int .u8 0, .int .u8 0, .int .u8 0, .int .u8 0, .int .u8 0, .int .u8 0, .int .u8 0, .int .u8 0] 79)) := ⟨_, rfl⟩
  have B0 := hide (show Below w.heap.size w w0 by rw [hw0.out]; exact ((below_alloc _ _).alloc (by simp) _).alloc (by simp; omega) _)
  have P0 := hide (show Bx w0 (w.heap.size + 1) #[.int .i64 p.at_, .int .u8 p.d.z0, .int .u8 p.d.z1, .int .u8 p.d.z2, .int .u8 p.d.z3, .int .u8 p.d.z4, .int .u8 p.d.z5, .int .u8 p.d.z6, .int .u8 p.d.z7] 52 by
    rw [hw0.out]
    have h := (Bx.new (w.alloc (.cells #[.iface 198 (.agg #[]), .iface 199 (.slice a n c), .iface 199 (.slice ah nh ch), .iface 200 (.agg #[])] 149)) #[.int .i64 p.at_, .int .u8 p.d.z0, .int .u8 p.d.z1, .int .u8 p.d.z2, .int .u8 p.d.z3, .int .u8 p.d.z4, .int .u8 p.d.z5, .int .u8 p.d.z6, .int .u8 p.d.z7] 52).alloc (.cells #[.int .i64 0, .int .i64 0, .int .i64 0, .int .u8 0, .int .u8 0, .int .u8 0, .int .u8 0, .int .u8 0, .int .u8 0, .int .u8 0, .int .u8 0] 79)
    rw [World.size_alloc] at h
    exact h)
  have R0 := hide (show Bx w0 (w.heap.size + 2) (Pk.arr ⟨0, 0, 0, zB⟩) 79 by
    rw [hw0.out]
    have h := Bx.new ((w.alloc (.cells #[.iface 198 (.agg #[]), .iface 199 (.slice a n c), .iface 199 (.slice ah nh ch), .iface 200 (.agg #[])] 149)).alloc (.cells #[.int .i64 p.at_, .int .u8 p.d.z0, .int .u8 p.d.z1, .int .u8 p.d.z2, .int .u8 p.d.z3, .int .u8 p.d.z4, .int .u8 p.d.z5, .int .u8 p.d.z6, .int .u8 p.d.z7] 52)) #[.int .i64 0, .int .i64 0, .int .i64 0, .int .u8 0, .int .u8 0, .int .u8 0, .int .u8 0, .int .u8 0, .int .u8 0, .int .u8 0, .int .u8 0] 79
    rw [World.size_alloc, World.size_alloc] at h
    exact h)
  go_enter Try.func80, Try.ntmps80
  go_wp2_with fail
  rw [← hw0.out]
  go_loopw [9] (fun t wr => ∃ (k : Nat) (q : Pk), t = .int .i64 (k : Int) ∧ k ≤ 3 ∧ Hid (0 < k → ¬ p.d = zB) ∧ Hid (1 < k → ¬ Mx.findB peer p.d = true) ∧ Hid (2 < k → ¬ Mx.findB had p.d = true) ∧ Hid (Bx wr (w.heap.size + 1) #[.int .i64 p.at_, .int .u8 p.d.z0, .int .u8 p.d.z1, .int .u8 p.d.z2, .int .u8 p.d.z3, .int .u8 p.d.z4, .int .u8 p.d.z5, .int .u8 p.d.z6, .int .u8 p.d.z7] 52) ∧ Hid (Bx wr (w.heap.size + 2) q.arr 79) ∧ Hid (Below w.heap.size w wr)) (fun t _ => 4 - (intOf t).toNat)
  case atStart => exact ⟨0, _, rfl, by omega, fun h => absurd h (by omega), fun h => absurd h (by omega), fun h => absurd h (by omega), P0, R0, B0⟩
  case round =>
    obtain ⟨k, q, rfl, hk, h0, h1, h2, hX, hR, hB⟩ := hrel
    obtain ⟨p0, p1, p2, p3, p4, p5, p6, p7, p8⟩ := (show wr.cell? ⟨w.heap.size + 1, 0, none⟩ = some (.int .i64 p.at_) ∧ wr.cell? ⟨w.heap.size + 1, 1, none⟩ = some (.int .u8 p.d.z0) ∧ wr.cell? ⟨w.heap.size + 1, 2, none⟩ = some (.int .u8 p.d.z1) ∧ wr.cell? ⟨w.heap.size + 1, 3, none⟩ = some (.int .u8 p.d.z2) ∧ wr.cell? ⟨w.heap.size + 1, 4, none⟩ = some (.int .u8 p.d.z3) ∧ wr.cell? ⟨w.heap.size + 1, 5, none⟩ = some (.int .u8 p.d.z4) ∧ wr.cell? ⟨w.heap.size + 1, 6, none⟩ = some (.int .u8 p.d.z5) ∧ wr.cell? ⟨w.heap.size + 1, 7, none⟩ = some (.int .u8 p.d.z6) ∧ wr.cell? ⟨w.heap.size + 1, 8, none⟩ = some (.int .u8 p.d.z7) from ⟨hX.out.cell 0, hX.out.cell 1, hX.out.cell 2, hX.out.cell 3, hX.out.cell 4, hX.out.cell 5, hX.out.cell 6, hX.out.cell 7, hX.out.cell 8⟩)
    have ix0 := ways_at0 a ah n c nh ch
    have ix1 := ways_at1 a ah n c nh ch
    have ix2 := ways_at2 a ah n c nh ch
    have ix3 := ways_at3 a ah n c nh ch
    have hm0 : ∀ W : World, (method 341 198 (.agg #[]) "stillwater/plan.tell").run Try.prog W = .ok (151, .agg #[]) W := fun _ => by kernel_rfl
    have hm1 : ∀ (a : Option Addr) (n c : Nat) (W : World), (method 341 199 (.slice a n c) "stillwater/plan.tell").run Try.prog W = .ok (153, .slice a n c) W := fun _ _ _ _ => by kernel_rfl
    have hm3 : ∀ W : World, (method 341 200 (.agg #[]) "stillwater/plan.tell").run Try.prog W = .ok (156, .agg #[]) W := fun _ => by kernel_rfl
    rcases (show k = 0 ∨ k = 1 ∨ k = 2 ∨ k = 3 by omega) with rfl | rfl | rfl | rfl
    · go_wp2_with fail
      refine (tell_noughts p.d wr).mono ?_
      rintro e w1 ⟨rfl, hb1⟩
      have X1 := hide (hX.out.later hb1 hX.out.lt)
      have R1 := hide (hR.out.later hb1 hR.out.lt)
      have B1 := hide (hB.out.trans (hb1.mono hB.out.size))
      clear hb1 p0 p1 p2 p3 p4 p5 p6 p7 p8
      have x0 := X1.out.cell 0
      have rz := R1.out.frozen
      obtain ⟨q0, q1, q2, q3, q4, q5, q6, q7, q8, q9, q10⟩ := Bx.eleven R1.out
      by_cases hz : p.d = zB
      · rw [show decide (p.d = zB) = true from decide_eq_true hz]
        have hZ := hide hz
        clear hz
        dsimp only
        iterate 12 (first | go_step | skip)
        obtain ⟨w2, hw2⟩ : ∃ w2 : World, Hid (w2 = set11 w1 (w.heap.size + 1 + 1) ⟨0, 0, 0, zB⟩) := ⟨_, rfl⟩
        have X2 := hide (X1.out.later (set11_below (Below.refl (w.heap.size + 2) w1) (Nat.le_refl _) ⟨0, 0, 0, zB⟩) (by omega))
        have R2 := hide (bx_put11 R1.out ⟨0, 0, 0, zB⟩)
        have B2 := hide (set11_below B1.out (by omega : w.heap.size ≤ w.heap.size + 2) ⟨0, 0, 0, zB⟩)
        have hw2' := hw2.out
        rw [← hw2'] at X2 R2 B2
        dsimp only [set11, zB] at hw2'
        rw [← hw2']
        clear hw2' x0 rz q0 q1 q2 q3 q4 q5 q6 q7 q8 q9 q10 R1 X1 B1
        have x0 : w2.cell? ⟨w.heap.size + 1, 0, none⟩ = some (.int .i64 p.at_) := X2.out.cell 0
        have rz := R2.out.frozen
        obtain ⟨q0, q1, q2, q3, q4, q5, q6, q7, q8, q9, q10⟩ := Bx.eleven R2.out
        go_wp2_with fail
        change bodyPost Try.prog Try.f80 _ _ _ (set11 ((w2.setCell ⟨w.heap.size + 2, 0, none⟩ (.int .i64 p.at_)).setCell ⟨w.heap.size + 2, 1, none⟩ (.int .i64 0)) (w.heap.size + 2) ⟨p.at_, 0, 0, zB⟩)
        have R3 := hide (bx_pk2 R2.out p.at_ 0)
        have B3 := hide (set11_below ((B2.out.setCell (p := ⟨w.heap.size + 2, 0, none⟩) (by simp) (.int .i64 p.at_)).setCell (p := ⟨w.heap.size + 2, 1, none⟩) (by simp) (.int .i64 0)) (by omega : w.heap.size ≤ w.heap.size + 2) ⟨p.at_, 0, 0, zB⟩)
        obtain ⟨w3, hw3⟩ : ∃ w3 : World, Hid (w3 = set11 ((w2.setCell ⟨w.heap.size + 2, 0, none⟩ (.int .i64 p.at_)).setCell ⟨w.heap.size + 2, 1, none⟩ (.int .i64 0)) (w.heap.size + 2) ⟨p.at_, 0, 0, zB⟩) := ⟨_, rfl⟩
        rw [← hw3.out] at R3 B3 ⊢
        obtain ⟨s0, s1, s2, s3, s4, s5, s6, s7, s8, s9, s10⟩ := Bx.eleven R3.out
        have hpk : Mx.pkOf p peer had = ⟨p.at_, 0, 0, zB⟩ := by rw [Mx.pkOf, if_pos hZ.out]
        exact bodyPost_ret (v := .agg #[.int .i64 p.at_, .int .i64 0, .int .i64 0, .int .u8 zB.z0, .int .u8 zB.z1, .int .u8 zB.z2, .int .u8 zB.z3, .int .u8 zB.z4, .int .u8 zB.z5, .int .u8 zB.z6, .int .u8 zB.z7]) (by simp [results, Try.results80, go_sem, s0, s1, s2, s3, s4, s5, s6, s7, s8, s9, s10]) rfl ⟨by rw [hpk], B3⟩
      · rw [show decide (p.d = zB) = false from decide_eq_false hz]
        have hZ := hide hz
        clear hz
        dsimp only
        iterate 12 (first | go_step | skip)
        obtain ⟨w2, hw2⟩ : ∃ w2 : World, Hid (w2 = set11 w1 (w.heap.size + 1 + 1) ⟨0, 0, 0, zB⟩) := ⟨_, rfl⟩
        have X2 := hide (X1.out.later (set11_below (Below.refl (w.heap.size + 2) w1) (Nat.le_refl _) ⟨0, 0, 0, zB⟩) (by omega))
        have R2 := hide (bx_put11 R1.out ⟨0, 0, 0, zB⟩)
        have B2 := hide (set11_below B1.out (by omega : w.heap.size ≤ w.heap.size + 2) ⟨0, 0, 0, zB⟩)
        have hw2' := hw2.out
        rw [← hw2'] at X2 R2 B2
        dsimp only [set11, zB] at hw2'
        rw [← hw2']
        clear hw2' x0 rz q0 q1 q2 q3 q4 q5 q6 q7 q8 q9 q10 R1 X1 B1
        go_wp2_with fail
        go_roundw
        case rel => exact ⟨1, _, by go_num, by omega, hide (fun _ => hZ.out), hide (fun h => absurd h (by omega)), hide (fun h => absurd h (by omega)), X2, R2, B2⟩
        case measure => simp [intOf]
    · go_wp2_with fail
      refine (tell_listed a n c peer p.d wr (HP.out.later hB.out)).mono ?_
      rintro e w1 ⟨rfl, hb1⟩
      have X1 := hide (hX.out.later hb1 hX.out.lt)
      have R1 := hide (hR.out.later hb1 hR.out.lt)
      have B1 := hide (hB.out.trans (hb1.mono hB.out.size))
      clear hb1 p0 p1 p2 p3 p4 p5 p6 p7 p8
      have x0 := X1.out.cell 0
      have rz := R1.out.frozen
      obtain ⟨q0, q1, q2, q3, q4, q5, q6, q7, q8, q9, q10⟩ := Bx.eleven R1.out
      obtain ⟨F, hF⟩ : ∃ F : Int, Hid (F = Mx.findI peer p.d) := ⟨_, rfl⟩
      rw [← hF.out]
      by_cases hz : Mx.findB peer p.d = true
      · rw [hz]
        have hZ := hide hz
        clear hz
        dsimp only
        iterate 12 (first | go_step | skip)
        obtain ⟨w2, hw2⟩ : ∃ w2 : World, Hid (w2 = set11 w1 (w.heap.size + 1 + 1) ⟨0, 0, F, zB⟩) := ⟨_, rfl⟩
        have X2 := hide (X1.out.later (set11_below (Below.refl (w.heap.size + 2) w1) (Nat.le_refl _) ⟨0, 0, F, zB⟩) (by omega))
        have R2 := hide (bx_put11 R1.out ⟨0, 0, F, zB⟩)
        have B2 := hide (set11_below B1.out (by omega : w.heap.size ≤ w.heap.size + 2) ⟨0, 0, F, zB⟩)
        have hw2' := hw2.out
        rw [← hw2'] at X2 R2 B2
        dsimp only [set11, zB] at hw2'
        rw [← hw2']
        clear hw2' x0 rz q0 q1 q2 q3 q4 q5 q6 q7 q8 q9 q10 R1 X1 B1
        have x0 : w2.cell? ⟨w.heap.size + 1, 0, none⟩ = some (.int .i64 p.at_) := X2.out.cell 0
        have rz := R2.out.frozen
        obtain ⟨q0, q1, q2, q3, q4, q5, q6, q7, q8, q9, q10⟩ := Bx.eleven R2.out
        go_wp2_with fail
        change bodyPost Try.prog Try.f80 _ _ _ (set11 ((w2.setCell ⟨w.heap.size + 2, 0, none⟩ (.int .i64 p.at_)).setCell ⟨w.heap.size + 2, 1, none⟩ (.int .i64 1)) (w.heap.size + 2) ⟨p.at_, 1, F, zB⟩)
        have R3 := hide (bx_pk2 R2.out p.at_ 1)
        have B3 := hide (set11_below ((B2.out.setCell (p := ⟨w.heap.size + 2, 0, none⟩) (by simp) (.int .i64 p.at_)).setCell (p := ⟨w.heap.size + 2, 1, none⟩) (by simp) (.int .i64 1)) (by omega : w.heap.size ≤ w.heap.size + 2) ⟨p.at_, 1, F, zB⟩)
        obtain ⟨w3, hw3⟩ : ∃ w3 : World, Hid (w3 = set11 ((w2.setCell ⟨w.heap.size + 2, 0, none⟩ (.int .i64 p.at_)).setCell ⟨w.heap.size + 2, 1, none⟩ (.int .i64 1)) (w.heap.size + 2) ⟨p.at_, 1, F, zB⟩) := ⟨_, rfl⟩
        rw [← hw3.out] at R3 B3 ⊢
        obtain ⟨s0, s1, s2, s3, s4, s5, s6, s7, s8, s9, s10⟩ := Bx.eleven R3.out
        have hpk : Mx.pkOf p peer had = ⟨p.at_, 1, F, zB⟩ := by rw [Mx.pkOf, if_neg (h0.out (by omega)), if_pos hZ.out, hF.out]
        exact bodyPost_ret (v := .agg #[.int .i64 p.at_, .int .i64 1, .int .i64 F, .int .u8 zB.z0, .int .u8 zB.z1, .int .u8 zB.z2, .int .u8 zB.z3, .int .u8 zB.z4, .int .u8 zB.z5, .int .u8 zB.z6, .int .u8 zB.z7]) (by simp [results, Try.results80, go_sem, s0, s1, s2, s3, s4, s5, s6, s7, s8, s9, s10]) rfl ⟨by rw [hpk], B3⟩
      · rw [show Mx.findB peer p.d = false from Bool.eq_false_iff.mpr hz]
        have hZ := hide hz
        clear hz
        dsimp only
        iterate 12 (first | go_step | skip)
        obtain ⟨w2, hw2⟩ : ∃ w2 : World, Hid (w2 = set11 w1 (w.heap.size + 1 + 1) ⟨0, 0, F, zB⟩) := ⟨_, rfl⟩
        have X2 := hide (X1.out.later (set11_below (Below.refl (w.heap.size + 2) w1) (Nat.le_refl _) ⟨0, 0, F, zB⟩) (by omega))
        have R2 := hide (bx_put11 R1.out ⟨0, 0, F, zB⟩)
        have B2 := hide (set11_below B1.out (by omega : w.heap.size ≤ w.heap.size + 2) ⟨0, 0, F, zB⟩)
        have hw2' := hw2.out
        rw [← hw2'] at X2 R2 B2
        dsimp only [set11, zB] at hw2'
        rw [← hw2']
        clear hw2' x0 rz q0 q1 q2 q3 q4 q5 q6 q7 q8 q9 q10 R1 X1 B1
        go_wp2_with fail
        go_roundw
        case rel => exact ⟨2, _, by go_num, by omega, hide (fun _ => h0.out (by omega)), hide (fun _ => hZ.out), hide (fun h => absurd h (by omega)), X2, R2, B2⟩
        case measure => simp [intOf]
    · go_wp2_with fail
      refine (tell_listed ah nh ch had p.d wr (HH.out.later hB.out)).mono ?_
      rintro e w1 ⟨rfl, hb1⟩
      have X1 := hide (hX.out.later hb1 hX.out.lt)
      have R1 := hide (hR.out.later hb1 hR.out.lt)
      have B1 := hide (hB.out.trans (hb1.mono hB.out.size))
      clear hb1 p0 p1 p2 p3 p4 p5 p6 p7 p8
      have x0 := X1.out.cell 0
      have rz := R1.out.frozen
      obtain ⟨q0, q1, q2, q3, q4, q5, q6, q7, q8, q9, q10⟩ := Bx.eleven R1.out
      obtain ⟨F, hF⟩ : ∃ F : Int, Hid (F = Mx.findI had p.d) := ⟨_, rfl⟩
      rw [← hF.out]
      by_cases hz : Mx.findB had p.d = true
      · rw [hz]
        have hZ := hide hz
        clear hz
        dsimp only
        iterate 12 (first | go_step | skip)
        obtain ⟨w2, hw2⟩ : ∃ w2 : World, Hid (w2 = set11 w1 (w.heap.size + 1 + 1) ⟨0, 0, F, zB⟩) := ⟨_, rfl⟩
        have X2 := hide (X1.out.later (set11_below (Below.refl (w.heap.size + 2) w1) (Nat.le_refl _) ⟨0, 0, F, zB⟩) (by omega))
        have R2 := hide (bx_put11 R1.out ⟨0, 0, F, zB⟩)
        have B2 := hide (set11_below B1.out (by omega : w.heap.size ≤ w.heap.size + 2) ⟨0, 0, F, zB⟩)
        have hw2' := hw2.out
        rw [← hw2'] at X2 R2 B2
        dsimp only [set11, zB] at hw2'
        rw [← hw2']
        clear hw2' x0 rz q0 q1 q2 q3 q4 q5 q6 q7 q8 q9 q10 R1 X1 B1
        have x0 : w2.cell? ⟨w.heap.size + 1, 0, none⟩ = some (.int .i64 p.at_) := X2.out.cell 0
        have rz := R2.out.frozen
        obtain ⟨q0, q1, q2, q3, q4, q5, q6, q7, q8, q9, q10⟩ := Bx.eleven R2.out
        go_wp2_with fail
        change bodyPost Try.prog Try.f80 _ _ _ (set11 ((w2.setCell ⟨w.heap.size + 2, 0, none⟩ (.int .i64 p.at_)).setCell ⟨w.heap.size + 2, 1, none⟩ (.int .i64 2)) (w.heap.size + 2) ⟨p.at_, 2, F, zB⟩)
        have R3 := hide (bx_pk2 R2.out p.at_ 2)
        have B3 := hide (set11_below ((B2.out.setCell (p := ⟨w.heap.size + 2, 0, none⟩) (by simp) (.int .i64 p.at_)).setCell (p := ⟨w.heap.size + 2, 1, none⟩) (by simp) (.int .i64 2)) (by omega : w.heap.size ≤ w.heap.size + 2) ⟨p.at_, 2, F, zB⟩)
        obtain ⟨w3, hw3⟩ : ∃ w3 : World, Hid (w3 = set11 ((w2.setCell ⟨w.heap.size + 2, 0, none⟩ (.int .i64 p.at_)).setCell ⟨w.heap.size + 2, 1, none⟩ (.int .i64 2)) (w.heap.size + 2) ⟨p.at_, 2, F, zB⟩) := ⟨_, rfl⟩
        rw [← hw3.out] at R3 B3 ⊢
        obtain ⟨s0, s1, s2, s3, s4, s5, s6, s7, s8, s9, s10⟩ := Bx.eleven R3.out
        have hpk : Mx.pkOf p peer had = ⟨p.at_, 2, F, zB⟩ := by rw [Mx.pkOf, if_neg (h0.out (by omega)), if_neg (h1.out (by omega)), if_pos hZ.out, hF.out]
        exact bodyPost_ret (v := .agg #[.int .i64 p.at_, .int .i64 2, .int .i64 F, .int .u8 zB.z0, .int .u8 zB.z1, .int .u8 zB.z2, .int .u8 zB.z3, .int .u8 zB.z4, .int .u8 zB.z5, .int .u8 zB.z6, .int .u8 zB.z7]) (by simp [results, Try.results80, go_sem, s0, s1, s2, s3, s4, s5, s6, s7, s8, s9, s10]) rfl ⟨by rw [hpk], B3⟩
      · rw [show Mx.findB had p.d = false from Bool.eq_false_iff.mpr hz]
        have hZ := hide hz
        clear hz
        dsimp only
        iterate 12 (first | go_step | skip)
        obtain ⟨w2, hw2⟩ : ∃ w2 : World, Hid (w2 = set11 w1 (w.heap.size + 1 + 1) ⟨0, 0, F, zB⟩) := ⟨_, rfl⟩
        have X2 := hide (X1.out.later (set11_below (Below.refl (w.heap.size + 2) w1) (Nat.le_refl _) ⟨0, 0, F, zB⟩) (by omega))
        have R2 := hide (bx_put11 R1.out ⟨0, 0, F, zB⟩)
        have B2 := hide (set11_below B1.out (by omega : w.heap.size ≤ w.heap.size + 2) ⟨0, 0, F, zB⟩)
        have hw2' := hw2.out
        rw [← hw2'] at X2 R2 B2
        dsimp only [set11, zB] at hw2'
        rw [← hw2']
        clear hw2' x0 rz q0 q1 q2 q3 q4 q5 q6 q7 q8 q9 q10 R1 X1 B1
        go_wp2_with fail
        go_roundw
        case rel => exact ⟨3, _, by go_num, by omega, hide (fun _ => h0.out (by omega)), hide (fun _ => h1.out (by omega)), hide (fun _ => hZ.out), X2, R2, B2⟩
        case measure => simp [intOf]
    · go_wp2_with fail
      refine (tell_literal p.d wr).mono ?_
      rintro e w1 ⟨rfl, hb1⟩
      have X1 := hide (hX.out.later hb1 hX.out.lt)
      have R1 := hide (hR.out.later hb1 hR.out.lt)
      have B1 := hide (hB.out.trans (hb1.mono hB.out.size))
      clear hb1 p0 p1 p2 p3 p4 p5 p6 p7 p8
      have x0 := X1.out.cell 0
      have rz := R1.out.frozen
      obtain ⟨q0, q1, q2, q3, q4, q5, q6, q7, q8, q9, q10⟩ := Bx.eleven R1.out
      dsimp only
      iterate 12 (first | go_step | skip)
      obtain ⟨w2, hw2⟩ : ∃ w2 : World, Hid (w2 = set11 w1 (w.heap.size + 1 + 1) ⟨0, 0, 0, p.d⟩) := ⟨_, rfl⟩
      have X2 := hide (X1.out.later (set11_below (Below.refl (w.heap.size + 2) w1) (Nat.le_refl _) ⟨0, 0, 0, p.d⟩) (by omega))
      have R2 := hide (bx_put11 R1.out ⟨0, 0, 0, p.d⟩)
      have B2 := hide (set11_below B1.out (by omega : w.heap.size ≤ w.heap.size + 2) ⟨0, 0, 0, p.d⟩)
      have hw2' := hw2.out
      rw [← hw2'] at X2 R2 B2
      dsimp only [set11, zB] at hw2'
      rw [← hw2']
      clear hw2' x0 rz q0 q1 q2 q3 q4 q5 q6 q7 q8 q9 q10 R1 X1 B1
      have x0 : w2.cell? ⟨w.heap.size + 1, 0, none⟩ = some (.int .i64 p.at_) := X2.out.cell 0
      have rz := R2.out.frozen
      obtain ⟨q0, q1, q2, q3, q4, q5, q6, q7, q8, q9, q10⟩ := Bx.eleven R2.out
      go_wp2_with fail
      change bodyPost Try.prog Try.f80 _ _ _ (set11 ((w2.setCell ⟨w.heap.size + 2, 0, none⟩ (.int .i64 p.at_)).setCell ⟨w.heap.size + 2, 1, none⟩ (.int .i64 3)) (w.heap.size + 2) ⟨p.at_, 3, 0, p.d⟩)
      have R3 := hide (bx_pk2 R2.out p.at_ 3)
      have B3 := hide (set11_below ((B2.out.setCell (p := ⟨w.heap.size + 2, 0, none⟩) (by simp) (.int .i64 p.at_)).setCell (p := ⟨w.heap.size + 2, 1, none⟩) (by simp) (.int .i64 3)) (by omega : w.heap.size ≤ w.heap.size + 2) ⟨p.at_, 3, 0, p.d⟩)
      obtain ⟨w3, hw3⟩ : ∃ w3 : World, Hid (w3 = set11 ((w2.setCell ⟨w.heap.size + 2, 0, none⟩ (.int .i64 p.at_)).setCell ⟨w.heap.size + 2, 1, none⟩ (.int .i64 3)) (w.heap.size + 2) ⟨p.at_, 3, 0, p.d⟩) := ⟨_, rfl⟩
      rw [← hw3.out] at R3 B3 ⊢
      obtain ⟨s0, s1, s2, s3, s4, s5, s6, s7, s8, s9, s10⟩ := Bx.eleven R3.out
      have hpk : Mx.pkOf p peer had = ⟨p.at_, 3, 0, p.d⟩ := by rw [Mx.pkOf, if_neg (h0.out (by omega)), if_neg (h1.out (by omega)), if_neg (h2.out (by omega))]
      exact bodyPost_ret (v := .agg #[.int .i64 p.at_, .int .i64 3, .int .i64 0, .int .u8 p.d.z0, .int .u8 p.d.z1, .int .u8 p.d.z2, .int .u8 p.d.z3, .int .u8 p.d.z4, .int .u8 p.d.z5, .int .u8 p.d.z6, .int .u8 p.d.z7]) (by simp [results, Try.results80, go_sem, s0, s1, s2, s3, s4, s5, s6, s7, s8, s9, s10]) rfl ⟨by rw [hpk], B3⟩
end Go.Proofs.Ytpjgliocancgeac

/-
  The four ways to tell a block (waysTo).
-/
namespace Go.Proofs.Ytpjgliocancgeac
open Go.RowKit

set_option maxHeartbeats 2000000 in
set_option maxRecDepth 100000 in
theorem waysTo_any (a ah : Option Addr) (n c nh ch : Nat) (w : World) :
    Calls Try.prog 79 #[.slice a n c, .slice ah nh ch] w fun e w' => e = .returned (.agg #[.iface 198 (.agg #[]), .iface 199 (.slice a n c), .iface 199 (.slice ah nh ch), .iface 200 (.agg #[])]) ∧ Below w.heap.size w w' := by
  go_enter Try.func79, Try.ntmps79
  go_wp2_with fail
  exact bodyPost_ret (v := .agg #[.iface 198 (.agg #[]), .iface 199 (.slice a n c), .iface 199 (.slice ah nh ch), .iface 200 (.agg #[])]) (by simp [results, Try.results79, go_sem]) rfl ⟨rfl, below_alloc _ _⟩
end Go.Proofs.Ytpjgliocancgeac

/-
  The packet for a put, as the document's answer says it (PacketOf).
-/
namespace Go.Proofs.Ytpjgliocancgeac
open Go.RowKit

end Go.Proofs.Ytpjgliocancgeac

/-
  The packet for a put where the peer has another block, as the document's answer says it (PacketOf).
-/
namespace Go.Proofs.Ytpjgliocancgeac
open Go.RowKit

end Go.Proofs.Ytpjgliocancgeac

/-
  Packets where the peer, what was had, or the puts may not be.
-/
namespace Go.Proofs.Ytpjgliocancgeac
open Go.RowKit

set_option maxHeartbeats 2000000 in
set_option maxRecDepth 100000 in
theorem packets_err1 (ap a ah : Option Addr) (m cm n c nh ch : Nat) (had : List B8) (w : World) (hh : BL w ah nh had) (hc : nh ≤ ch) (hE : ¬ Mx.pmay n had = 0) :
    Calls Try.prog 33 #[.slice ap m cm, .slice a n c, .slice ah nh ch] w fun e w' => e = .returned (.tuple #[.slice none 0 0, errV (Mx.pmay n had)]) ∧ Below w.heap.size w w' := by
  have HH := hide hh
  obtain ⟨E, hEE⟩ : ∃ E : Int, Hid (E = Mx.pmay n had) := ⟨_, rfl⟩
  have HV := hide (show errV (Mx.pmay n had) = .iface 36 (.int .i64 E) by rw [errV_not hE, hEE.out])
  clear hh hE
  go_enter Try.func33, Try.ntmps33
  go_wp2_with fail
  refine (checkPeer_any a ah n c nh ch had w HH.out hc).mono ?_
  rintro e w1 ⟨rfl, hb1⟩
  rw [HV.out]
  have B1 := hide hb1
  clear hb1
  go_wp2_with fail
  exact bodyPost_ret (v := .tuple #[.slice none 0 0, .iface 36 (.int .i64 E)]) (by simp [results, Try.results33, go_sem]) rfl ⟨by rw [HV.out], B1.out⟩

set_option maxHeartbeats 2000000 in
set_option maxRecDepth 100000 in
theorem packets_err2 (ap a ah : Option Addr) (m cm n c nh ch : Nat) (ps : List Pt) (had : List B8) (w : World) (hp : PL w ap m ps) (hh : BL w ah nh had) (hc : nh ≤ ch) (hn : n ≤ 1000) (h0 : Mx.pmay n had = 0) (hE : ¬ Mx.riseE n ps = 0) :
    Calls Try.prog 33 #[.slice ap m cm, .slice a n c, .slice ah nh ch] w fun e w' => e = .returned (.tuple #[.slice none 0 0, errV (Mx.riseE n ps)]) ∧ Below w.heap.size w w' := by
  have HH := hide hh
  have HP := hide hp
  obtain ⟨E, hEE⟩ : ∃ E : Int, Hid (E = Mx.riseE n ps) := ⟨_, rfl⟩
  have HV := hide (show errV (Mx.riseE n ps) = .iface 36 (.int .i64 E) by rw [errV_not hE, hEE.out])
  have H0 := hide (show errV (Mx.pmay n had) = .nilIface by rw [h0]; rfl)
  clear hh hp hE h0
  go_enter Try.func33, Try.ntmps33
  go_wp2_with fail
  refine (checkPeer_any a ah n c nh ch had w HH.out hc).mono ?_
  rintro e w1 ⟨rfl, hb1⟩
  rw [H0.out]
  have B1 := hide hb1
  clear hb1
  go_wp2_with fail
  refine (checkPuts_any ap m cm ps n w1 (HP.out.later B1.out) hn).mono ?_
  rintro e w2 ⟨rfl, hb2⟩
  rw [HV.out]
  have B2 := hide (B1.out.trans (hb2.mono B1.out.size))
  clear hb2
  go_wp2_with fail
  exact bodyPost_ret (v := .tuple #[.slice none 0 0, .iface 36 (.int .i64 E)]) (by simp [results, Try.results33, go_sem]) rfl ⟨by rw [HV.out], B2.out⟩
end Go.Proofs.Ytpjgliocancgeac

/-
  Packets where all may be: the loop over the puts.
-/
namespace Go.Proofs.Ytpjgliocancgeac
open Go.RowKit

def Mx.pkAt (peer had : List B8) (p : Pt) : List Pk := if peer[p.at_.toNat]? = some p.d then [] else [Mx.pkOf p peer had]
def Mx.pks (peer had : List B8) (ps : List Pt) : List Pk := ps.flatMap (Mx.pkAt peer had)
theorem Mx.pks_succ {peer had : List B8} {ps : List Pt} {k : Nat} {p : Pt} (h : ps[k]? = some p) : Mx.pks peer had (ps.take (k + 1)) = Mx.pks peer had (ps.take k) ++ Mx.pkAt peer had p := by
  rw [List.take_add_one, h, Mx.pks, List.flatMap_append]
  simp [Mx.pks]
theorem Mx.pks_len (peer had : List B8) : ∀ ps : List Pt, (Mx.pks peer had ps).length ≤ ps.length
  | [] => by simp [Mx.pks]
  | p :: ps => by
    have h := Mx.pks_len peer had ps
    have e : Mx.pks peer had (p :: ps) = Mx.pkAt peer had p ++ Mx.pks peer had ps := by simp [Mx.pks]
    rw [e, List.length_append, List.length_cons]
    have : (Mx.pkAt peer had p).length ≤ 1 := by unfold Mx.pkAt; split <;> simp
    omega

set_option maxHeartbeats 2000000 in
set_option maxRecDepth 100000 in
theorem packets_own (ap a ah : Option Addr) (m cm n c nh ch : Nat) (ps : List Pt) (peer had : List B8) (w : World) (hp : PL w ap m ps) (hq : BL w a n peer) (hh : BL w ah nh had) (hc : nh ≤ ch) (hn : n ≤ 1000) (hm : m ≤ 1000) (h0 : Mx.pmay n had = 0) (hE : Mx.riseE n ps = 0) :
    Calls Try.prog 33 #[.slice ap m cm, .slice a n c, .slice ah nh ch] w fun e w' => ∃ a' c', e = .returned (.tuple #[.slice a' (Mx.pks peer had ps).length c', .nilIface]) ∧ Hid (OwnQL w' w.heap.size (.slice a' (Mx.pks peer had ps).length c') (Mx.pks peer had ps)) ∧ Hid (Below w.heap.size w w') := by
  have HH := hide hh
  have HP := hide hp
  have HQ := hide hq
  have H0 := hide (show errV (Mx.pmay n had) = .nilIface by rw [h0]; rfl)
  have HR := hide (show Mx.riseB n ps = true by unfold Mx.riseE at hE; by_cases h : Mx.riseB n ps = true; exact h; rw [if_neg h] at hE; exact absurd hE (by omega))
  have H1 := hide (show errV (Mx.riseE n ps) = .nilIface by rw [hE]; rfl)
  clear hh hp hq hE h0
  go_enter Try.func33, Try.ntmps33
  go_wp2_with fail
  refine (checkPeer_any a ah n c nh ch had w HH.out hc).mono ?_
  rintro e w1 ⟨rfl, hb1⟩
  rw [H0.out]
  have B1 := hide hb1
  clear hb1
  go_wp2_with fail
  refine (checkPuts_any ap m cm ps n w1 (HP.out.later B1.out) hn).mono ?_
  rintro e w2 ⟨rfl, hb2⟩
  rw [H1.out]
  have B2 := hide (B1.out.trans (hb2.mono B1.out.size))
  clear hb2
  go_wp2_with fail
  refine (waysTo_any a ah n c nh ch w2).mono ?_
  rintro e w3 ⟨rfl, hb3⟩
  have B3 := hide (B2.out.trans (hb3.mono B2.out.size))
  clear hb3
  go_wp2_with fail
  have K0 := hide (Bx.new w3 #[.iface 198 (.agg #[]), .iface 199 (.slice a n c), .iface 199 (.slice ah nh ch), .iface 200 (.agg #[])] 149)
  have B4 := hide (B3.out.alloc B3.out.size (.cells #[.iface 198 (.agg #[]), .iface 199 (.slice a n c), .iface 199 (.slice ah nh ch), .iface 200 (.agg #[])] 149))
  obtain ⟨w4, hw4⟩ : ∃ w4 : World, Hid (w4 = w3.alloc (.cells #[.iface 198 (.agg #[]), .iface 199 (.slice a n c), .iface 199 (.slice ah nh ch), .iface 200 (.agg #[])] 149)) := ⟨_, rfl⟩
  rw [← hw4.out] at K0 B4 ⊢
  go_loopw [10, 32] (fun v t wr => ∃ (k r : Nat) (a' : Option Addr) (c' : Nat), k ≤ m ∧ t = .int .i64 (k : Int) ∧ v = .slice a' r c' ∧ Hid (r = (Mx.pks peer had (ps.take k)).length) ∧ Hid (OwnQL wr (w3.heap.size + 1) (.slice a' r c') (Mx.pks peer had (ps.take k))) ∧ Hid (Bx wr w3.heap.size #[.iface 198 (.agg #[]), .iface 199 (.slice a n c), .iface 199 (.slice ah nh ch), .iface 200 (.agg #[])] 149) ∧ Hid (Below w.heap.size w wr)) (fun _ t _ => m - (intOf t).toNat)
  case atStart => exact ⟨0, 0, none, 0, by omega, rfl, rfl, hide (by simp [Mx.pks]), OwnQL.nil _ _, K0, B4⟩
  case round =>
    obtain ⟨k, r, a', c', hk, rfl, rfl, hr, hO, hX, hB⟩ := hrel
    by_cases hlt : k < m
    · obtain ⟨b, off, p, rfl, hb, hp, e0, e1, e2, e3, e4, e5, e6, e7, e8⟩ := (HP.out.later hB.out).at_ k hlt
      have hr0 : 0 ≤ Mx.nextOf ps k := by
        rcases Mx.riseB_zero HR.out (k := k) with h | h
        · exact Mx.riseTo_next h
        · have := HP.out.1; omega
      obtain ⟨ha0, ha1⟩ := Mx.riseB_at HR.out hp
      obtain ⟨j, hj⟩ : ∃ j : Nat, p.at_ = j := ⟨p.at_.toNat, by omega⟩
      have hjn : j < n := by omega
      have HJ := hide hj
      have HK := hide hp
      rw [hj] at e0
      clear ha0 ha1 hr0 hj hp
      obtain ⟨bq, oq, y, rfl, hbq, hy, y0, y1, y2, y3, y4, y5, y6, y7⟩ := (HQ.out.later hB.out).at_ j hjn
      have HY := hide hy
      clear hy
      have heq := equal_block y.z0 y.z1 y.z2 y.z3 y.z4 y.z5 y.z6 y.z7 p.d.z0 p.d.z1 p.d.z2 p.d.z3 p.d.z4 p.d.z5 p.d.z6 p.d.z7
      obtain ⟨x0, x1, x2, x3⟩ := (show wr.cell? ⟨w3.heap.size, 0, none⟩ = some (.iface 198 (.agg #[])) ∧ wr.cell? ⟨w3.heap.size, 1, none⟩ = some (.iface 199 (.slice (some ⟨bq, oq, none⟩) n c)) ∧ wr.cell? ⟨w3.heap.size, 2, none⟩ = some (.iface 199 (.slice ah nh ch)) ∧ wr.cell? ⟨w3.heap.size, 3, none⟩ = some (.iface 200 (.agg #[])) from ⟨hX.out.cell 0, hX.out.cell 1, hX.out.cell 2, hX.out.cell 3⟩)
      have hx3 := hX.out.lt
      by_cases hcc : [y.z0, y.z1, y.z2, y.z3, y.z4, y.z5, y.z6, y.z7] = [p.d.z0, p.d.z1, p.d.z2, p.d.z3, p.d.z4, p.d.z5, p.d.z6, p.d.z7]
      · have HC := hide ((B8.eq_list y p.d).1 hcc)
        rw [decide_eq_true hcc] at heq
        clear hcc
        have HE := hide (show Mx.pks peer had (ps.take (k + 1)) = Mx.pks peer had (ps.take k) by rw [Mx.pks_succ HK.out, Mx.pkAt, if_pos (by rw [HJ.out, Int.toNat_natCast, HY.out, HC.out]), List.append_nil])
        go_wp2_with fail
        go_quiet (fail)
        go_wp2_with fail
        have b5 := hide (below_drewN (below_alloc wr (.cells #[.int .i64 (j : Int), .int .u8 p.d.z0, .int .u8 p.d.z1, .int .u8 p.d.z2, .int .u8 p.d.z3, .int .u8 p.d.z4, .int .u8 p.d.z5, .int .u8 p.d.z6, .int .u8 p.d.z7] 52)) nq)
        obtain ⟨w5, hw5⟩ : ∃ w5 : World, Hid (w5 = (wr.alloc (.cells #[.int .i64 (j : Int), .int .u8 p.d.z0, .int .u8 p.d.z1, .int .u8 p.d.z2, .int .u8 p.d.z3, .int .u8 p.d.z4, .int .u8 p.d.z5, .int .u8 p.d.z6, .int .u8 p.d.z7] 52)).drewN nq) := ⟨_, rfl⟩
        rw [← hw5.out] at b5 ⊢
        have X5 := hide (hX.out.later b5.out hX.out.lt)
        have O5 := hide (show OwnQL w5 (w3.heap.size + 1) _ (Mx.pks peer had (ps.take k)) from rowKept hO.out b5.out)
        have B5 := hide (hB.out.trans (b5.out.mono hB.out.size))
        go_roundw
        case rel => exact ⟨k + 1, r, a', c', by omega, by go_num, rfl, by rw [HE.out]; exact hr, by rw [HE.out]; exact O5, X5, B5⟩
        case measure => simp [intOf]; omega
      · have HC := hide (fun e => hcc ((B8.eq_list y p.d).2 e))
        rw [decide_eq_false hcc] at heq
        clear hcc
        have HE := hide (show Mx.pks peer had (ps.take (k + 1)) = Mx.pks peer had (ps.take k) ++ [Mx.pkOf ⟨(j : Int), p.d⟩ peer had] by rw [Mx.pks_succ HK.out, Mx.pkAt, if_neg (by rw [HJ.out, Int.toNat_natCast, HY.out]; exact fun e => HC.out (Option.some.inj e)), ← HJ.out])
        have HL := hide (show (Mx.pks peer had (ps.take k)).length ≤ 1000 by have h1 := Mx.pks_len peer had (ps.take k); rw [List.length_take] at h1; omega)
        go_wp2_with fail
        go_quiet (fail)
        go_wp2_with fail
        have b5 := hide (below_drewN (below_alloc wr (.cells #[.int .i64 (j : Int), .int .u8 p.d.z0, .int .u8 p.d.z1, .int .u8 p.d.z2, .int .u8 p.d.z3, .int .u8 p.d.z4, .int .u8 p.d.z5, .int .u8 p.d.z6, .int .u8 p.d.z7] 52)) nq)
        obtain ⟨w5, hw5⟩ : ∃ w5 : World, Hid (w5 = (wr.alloc (.cells #[.int .i64 (j : Int), .int .u8 p.d.z0, .int .u8 p.d.z1, .int .u8 p.d.z2, .int .u8 p.d.z3, .int .u8 p.d.z4, .int .u8 p.d.z5, .int .u8 p.d.z6, .int .u8 p.d.z7] 52)).drewN nq) := ⟨_, rfl⟩
        rw [← hw5.out] at b5 ⊢
        have X5 := hide (hX.out.later b5.out hX.out.lt)
        have O5 := hide (show OwnQL w5 (w3.heap.size + 1) _ (Mx.pks peer had (ps.take k)) from rowKept hO.out b5.out)
        have B5 := hide (hB.out.trans (b5.out.mono hB.out.size))
        clear e0 e1 e2 e3 e4 e5 e6 e7 e8 y0 y1 y2 y3 y4 y5 y6 y7 x0 x1 x2 x3 heq
        refine (packet_any (some ⟨bq, oq, none⟩) ah n c nh ch peer had ⟨(j : Int), p.d⟩ w5 (HQ.out.later B5.out) (HH.out.later B5.out)).mono ?_
        rintro e w6 ⟨q, hq, rfl, hb6⟩
        have HQQ := hide hq
        clear hq
        have X6 := hide (X5.out.later hb6.out X5.out.lt)
        have O6 := hide (show OwnQL w6 (w3.heap.size + 1) _ (Mx.pks peer had (ps.take k)) from rowKept O5.out hb6.out)
        have B6 := hide (B5.out.trans (hb6.out.mono B5.out.size))
        have S6 := hide X6.out.lt
        go_wp2_with (at_builtin; refine wpList_append_pk rfl _ _ rfl (w3.heap.size + 1) (Mx.pks peer had (ps.take k)) ?o1 q ?o2 ?o3 ?o4 ?_)
        case o1 => exact O6.out
        case o2 => rfl
        case o3 => have := HL.out; omega
        case o4 => exact S6.out
        intro ad c2 w7 hown hgr
        have b7 := hide ((Below.refl (w3.heap.size + 1) w6).grown hgr S6.out (fun k hk => (World.ownsRow.lt O6.out k hk).1))
        have O7 := hide hown
        have X7 := hide (X6.out.later b7.out (Nat.lt_succ_self _))
        have B7 := hide (B6.out.trans (b7.out.mono (Nat.le_succ_of_le B3.out.size)))
        rw [← hr.out] at O7 ⊢
        clear hown hgr
        go_wp2_with fail
        go_roundw
        case rel => exact ⟨k + 1, r + 1, some ad, c2, by omega, by go_num, rfl, by rw [HE.out, List.length_append, ← hr.out]; exact hide rfl, by rw [HE.out, ← HQQ.out]; exact O7, X7, B7⟩
        case measure => simp [intOf]; omega
    · have HT := hide (show ps.take k = ps from List.take_of_length_le (by have := HP.out.1; omega))
      go_wp2_with fail
      rw [HT.out] at hr hO
      have hr' := hr.out
      subst hr'
      refine bodyPost_ret (v := .tuple #[.slice a' (Mx.pks peer had ps).length c', .nilIface]) (by simp [results, Try.results33, go_sem]) rfl ⟨a', c', rfl, hide (World.ownsRow.mono hO.out (Nat.le_succ_of_le B3.out.size)), hB⟩

theorem packets_ok (ap a ah : Option Addr) (m cm n c nh ch : Nat) (ps : List Pt) (peer had : List B8) (w : World) (hp : PL w ap m ps) (hq : BL w a n peer) (hh : BL w ah nh had) (hc : nh ≤ ch) (hn : n ≤ 1000) (hm : m ≤ 1000) (h0 : Mx.pmay n had = 0) (hE : Mx.riseE n ps = 0) :
    Calls Try.prog 33 #[.slice ap m cm, .slice a n c, .slice ah nh ch] w fun e w' => ∃ a' c', e = .returned (.tuple #[.slice a' (Mx.pks peer had ps).length c', .nilIface]) ∧ Hid (QL w' a' (Mx.pks peer had ps).length (Mx.pks peer had ps)) ∧ Hid (Below w.heap.size w w') := by
  refine (packets_own ap a ah m cm n c nh ch ps peer had w hp hq hh hc hn hm h0 hE).mono ?_
  rintro e w' ⟨a', c', rfl, hO, hb⟩
  obtain ⟨a2, c2, hv, hQL⟩ := hO.out.ql
  obtain ⟨rfl, rfl⟩ : a' = a2 ∧ c' = c2 := by simpa using hv
  exact ⟨a', c', rfl, hQL, hb⟩
end Go.Proofs.Ytpjgliocancgeac

/-
  A block touched: what comes of it; one block more in memory of its own.
-/
namespace Go.Proofs.Ytpjgliocancgeac
open Go.RowKit

/-- a block touched -/
def Mx.touched (l : List B8) (b : B8) : List B8 := (b :: l.filter (fun y => decide (¬ y = b))).take 8
theorem Mx.touched_len (l : List B8) (b : B8) : (Mx.touched l b).length ≤ 8 := by unfold Mx.touched; rw [List.length_take]; omega
theorem Mx.touched_pos (l : List B8) (b : B8) : 0 < (Mx.touched l b).length := by unfold Mx.touched; simp
theorem Mx.touched_snoc {l : List B8} {k : Nat} {y b : B8} (h : l[k]? = some y) (hy : ¬ y = b) (hlt : (Mx.touched (l.take k) b).length < 8) : Mx.touched (l.take (k + 1)) b = Mx.touched (l.take k) b ++ [y] := by
  have key : ∀ xs : List B8, xs.length < 8 → (xs ++ [y]).take 8 = xs.take 8 ++ [y] := fun xs h => by rw [List.take_of_length_le (by simp; omega), List.take_of_length_le (by omega)]
  unfold Mx.touched at hlt ⊢
  rw [List.length_take] at hlt
  have hf : [y].filter (fun y => decide (¬ y = b)) = [y] := by simp [hy]
  rw [getElem_take_succ _ _ _ h, List.filter_append, hf, ← List.cons_append]
  exact key _ (by omega)
theorem Mx.touched_full {l : List B8} {k : Nat} {y b : B8} (h : l[k]? = some y) (hge : ¬ (Mx.touched (l.take k) b).length < 8) : Mx.touched (l.take (k + 1)) b = Mx.touched (l.take k) b := by
  unfold Mx.touched at hge ⊢
  rw [List.length_take] at hge
  rw [getElem_take_succ _ _ _ h, List.filter_append, ← List.cons_append, List.take_append]
  rw [show 8 - (b :: List.filter (fun y => decide (¬ y = b)) (l.take k)).length = 0 by omega]
  simp
theorem Mx.touched_skip {l : List B8} {k : Nat} {y b : B8} (h : l[k]? = some y) (hy : y = b) : Mx.touched (l.take (k + 1)) b = Mx.touched (l.take k) b := by
  unfold Mx.touched
  rw [getElem_take_succ _ _ _ h, List.filter_append]
  have hf : [y].filter (fun y => decide (¬ y = b)) = [] := by simp [hy]
  rw [hf, List.append_nil]
theorem Mx.touched_all {l : List B8} {k : Nat} {b : B8} (hk : l.length ≤ k) : Mx.touched (l.take k) b = Mx.touched l b := by rw [List.take_of_length_le hk]
/-- full already: nothing more comes -/
theorem Mx.touched_stop {l : List B8} {k : Nat} {b : B8} (hge : ¬ (Mx.touched (l.take k) b).length < 8) : Mx.touched l b = Mx.touched (l.take k) b := by
  have hs : l = l.take k ++ l.drop k := (List.take_append_drop k l).symm
  unfold Mx.touched at hge ⊢
  rw [List.length_take] at hge
  conv => lhs; rw [hs]
  rw [List.filter_append, ← List.cons_append, List.take_append]
  rw [show 8 - (b :: List.filter (fun y => decide (¬ y = b)) (l.take k)).length = 0 by omega]
  simp

theorem cell_newsB (w : World) (p : B8) (t : TypeId) :
    ∀ j u, (flatB [p])[j]? = some u → (w.alloc (.cells #[.int .u8 p.z0, .int .u8 p.z1, .int .u8 p.z2, .int .u8 p.z3, .int .u8 p.z4, .int .u8 p.z5, .int .u8 p.z6, .int .u8 p.z7] t)).cell? ((⟨w.heap.size, 0, none⟩ : Addr).add j) = some u := by
  intro j u hj
  have hadd : (⟨w.heap.size, 0, none⟩ : Addr).add j = ⟨w.heap.size, j, none⟩ := by unfold Addr.add; split <;> simp_all
  rw [hadd, World.cell?_alloc_new]
  simpa [flatB, B8.cs] using hj

/-- one block more -/
theorem wpList_append_blk {w : World} {ops : Array Oper} {rest : List Oper} {o : Oper} {a : Act} {Q : Exit → Act → World → Prop} (hgd : o.guard = none) (s x : Operand)
    (ho : o.op = .call { callee := .builtin .append, args := #[s, x], argTypes := #[23, 23] }) (base : Nat) (l : List B8) (hown : OwnBL w base (a.eval s) l)
    (p : B8) (hx : a.eval x = .slice (some ⟨w.heap.size, 0, none⟩) 1 1) (h63 : l.length ≤ 1000000) (hbase : base ≤ w.heap.size)
    (h : ∀ g c w', base ≤ g → l.length + 1 ≤ c → OwnBL w' base (.slice (some ⟨g, 0, none⟩) (l.length + 1) c) (l ++ [p]) → w.grownBy w' (a.eval s).ownBlock → wpList Try.prog ops Q rest (a.put o.dst (.slice (some ⟨g, 0, none⟩) (l.length + 1) c)) w') :
    wpList Try.prog ops Q (o :: rest) a (w.alloc (.cells #[.int .u8 p.z0, .int .u8 p.z1, .int .u8 p.z2, .int .u8 p.z3, .int .u8 p.z4, .int .u8 p.z5, .int .u8 p.z6, .int .u8 p.z7] 50)) := by
  obtain ⟨i0, hi, hz0, hz1, hz2⟩ := info_parts Try.info50
  refine wpList_append_own _ hgd s x 23 ho base 50 i0 _ 8 8 Try.underlying23 hi hz0 hz1 hz2 rfl (by decide) (a.eval s) l.length (flatB l) rfl (World.ownsRow.alloc hown _) ⟨w.heap.size, 0, none⟩ 1 1 (flatB [p]) hx (by simp [flatB, B8.cs]) (cell_newsB w p 50) flatB_one (by unfold maxLen; omega) (by omega) (by simp; omega) ?_
  intro v' w' hown' hg _
  have hI : OwnBL w' base v' (l ++ [p]) := by
    unfold OwnBL
    rw [List.length_append, flatB, List.flatMap_append]
    exact hown'
  have hg' : w.grownBy w' (a.eval s).ownBlock := ⟨hg.os, hg.tape, hg.output, by have := hg.size; simp at this; omega, fun k hk hne => (hg.block k (by simp; omega) hne).trans (Below.heap_alloc w _ k hk)⟩
  rcases hown'.2 with ⟨_, hz⟩ | ⟨g, cap, cur, rfl, hbg, _, hcap, _⟩
  · simp at hz
  · exact h _ _ w' hbg (by simpa using hcap) hI hg'

/-- one block, alone, in memory of its own -/
theorem OwnBL.one (w : World) (base : Nat) (hb : base ≤ w.heap.size) (x : B8) : OwnBL (w.alloc (.cells #[.int .u8 x.z0, .int .u8 x.z1, .int .u8 x.z2, .int .u8 x.z3, .int .u8 x.z4, .int .u8 x.z5, .int .u8 x.z6, .int .u8 x.z7] 50)) base (.slice (some ⟨w.heap.size, 0, none⟩) 1 1) [x] := by
  unfold OwnBL
  refine ⟨by simp [flatB, B8.cs], .inr ⟨w.heap.size, 1, _, rfl, hb, heap_alloc_new w _, Nat.le_refl _, by unfold maxLen; omega, by simp, ?_⟩⟩
  simp [flatB, B8.cs]

theorem OwnBL.lower {w : World} {base base' : Nat} {v : Value} {l : List B8} (h : OwnBL w base v l) (hb : base' ≤ base) : OwnBL w base' v l := by
  obtain ⟨h1, h2⟩ := h
  refine ⟨h1, ?_⟩
  rcases h2 with h2 | ⟨g, cap, cur, e, hg, hr⟩
  · exact .inl h2
  · exact .inr ⟨g, cap, cur, e, by omega, hr⟩
theorem OwnBL.asBL {w : World} {base n c : Nat} {a : Option Addr} {l : List B8} (h : OwnBL w base (.slice a n c) l) : BL w a n l := by
  obtain ⟨a', c', hv, hb, _⟩ := h.bl
  simp only [Value.slice.injEq] at hv
  obtain ⟨rfl, rfl, rfl⟩ := hv
  exact hb

/-- what Touch and Touched hold, round by round: the block's box, and the list so far -/
def Tch (w : World) (base gx : Nat) (x : B8) (t : List B8) (v : Value) (wr : World) : Prop :=
  Below w.heap.size w wr ∧ Bx wr gx #[.int .u8 x.z0, .int .u8 x.z1, .int .u8 x.z2, .int .u8 x.z3, .int .u8 x.z4, .int .u8 x.z5, .int .u8 x.z6, .int .u8 x.z7] 50 ∧ OwnBL wr base v t ∧ base ≤ wr.heap.size
theorem Tch.alloc {w wr : World} {base gx : Nat} {x : B8} {t : List B8} {v : Value} (h : Tch w base gx x t v wr) (o : Obj) : Tch w base gx x t v (wr.alloc o) :=
  ⟨h.1.alloc h.1.size _, h.2.1.alloc _, World.ownsRow.alloc h.2.2.1 _, by have := h.2.2.2; simp; omega⟩
theorem Tch.drewN {w wr : World} {base gx : Nat} {x : B8} {t : List B8} {v : Value} (h : Tch w base gx x t v wr) (n : Nat) : Tch w base gx x t v (wr.drewN n) :=
  ⟨below_drewN h.1 _, h.2.1.drewN _, by
    obtain ⟨h1, h2⟩ := h.2.2.1
    exact ⟨h1, h2⟩, h.2.2.2⟩
theorem Tch.grown {w wr w' : World} {base gx : Nat} {x : B8} {t t' : List B8} {v v' : Value} (h : Tch w base gx x t v wr) (hgx : gx < base) (hwb : w.heap.size ≤ base) (hg : wr.grownBy w' v.ownBlock) (ho : OwnBL w' base v' t') : Tch w base gx x t' v' w' := by
  have hlt : ∀ k, v.ownBlock = some k → base ≤ k := fun k hk => (World.ownsRow.lt h.2.2.1 k hk).1
  refine ⟨h.1.grown hg h.1.size (fun k hk => Nat.le_trans hwb (hlt k hk)), (hg.block gx h.2.1.lt (fun e => ?_)).trans h.2.1, ho, ?_⟩
  · have := hlt gx e.symm
    omega
  · have := hg.size
    have := h.2.2.2
    omega

end Go.Proofs.Ytpjgliocancgeac

/-
  A block touched: the document's answer (Touched).
-/
namespace Go.Proofs.Ytpjgliocancgeac
open Go.RowKit

set_option maxHeartbeats 2000000 in
set_option maxRecDepth 100000 in
theorem touch_err (a : Option Addr) (n c : Nat) (l : List B8) (x : B8) (w : World) (hl : BL w a n l) (hc : n ≤ c) (hE : ¬ Mx.hmay l = 0) :
    Calls Try.prog 83 #[.slice a n c, .agg #[.int .u8 x.z0, .int .u8 x.z1, .int .u8 x.z2, .int .u8 x.z3, .int .u8 x.z4, .int .u8 x.z5, .int .u8 x.z6, .int .u8 x.z7]] w fun e w' => e = .returned (.tuple #[.slice none 0 0, errV (Mx.hmay l)]) ∧ Below w.heap.size w w' := by
  have HL := hide hl
  clear hl
  go_enter Try.func83, Try.ntmps83
  go_wp2_with fail
  refine (ccheck_any a n c l _ (HL.out.later (below_alloc _ _)) hc).mono ?_
  rintro e w1 ⟨rfl, hb⟩
  have HB := hide ((below_alloc w (.cells #[.int .u8 x.z0, .int .u8 x.z1, .int .u8 x.z2, .int .u8 x.z3, .int .u8 x.z4, .int .u8 x.z5, .int .u8 x.z6, .int .u8 x.z7] 50)).trans (hb.mono (by simp)))
  obtain ⟨E, hEE⟩ : ∃ E : Int, Hid (E = Mx.hmay l) := ⟨_, rfl⟩
  rw [← hEE.out] at hE ⊢
  have hev : errV E = .iface 36 (.int .i64 E) := by rw [errV, if_neg hE]
  rw [hev]
  have HV := hide hev
  clear hev hE hb
  go_wp2_with fail
  exact bodyPost_ret (v := .tuple #[.slice none 0 0, .iface 36 (.int .i64 E)]) (by simp [results, Try.results83, go_sem]) rfl ⟨by rw [← hEE.out, HV.out], HB.out⟩

set_option maxHeartbeats 2000000 in
set_option maxRecDepth 100000 in
theorem touch_any (a : Option Addr) (n c : Nat) (l : List B8) (x : B8) (w : World) (hl : BL w a n l) (hc : n ≤ c) (hE : Mx.hmay l = 0) :
    Calls Try.prog 83 #[.slice a n c, .agg #[.int .u8 x.z0, .int .u8 x.z1, .int .u8 x.z2, .int .u8 x.z3, .int .u8 x.z4, .int .u8 x.z5, .int .u8 x.z6, .int .u8 x.z7]] w fun e w' => ∃ g c', e = .returned (.tuple #[.slice (some ⟨g, 0, none⟩) (Mx.touched l x).length c', .nilIface]) ∧ Hid (OwnBL w' w.heap.size (.slice (some ⟨g, 0, none⟩) (Mx.touched l x).length c') (Mx.touched l x)) ∧ Hid (Below w.heap.size w w') := by
  have hlen : n ≤ maxLen := hl.2.2.1
  unfold maxLen at hlen
  have HL := hide hl
  have HN := hide hl.1
  have HE := hide hE
  clear hl hE
  go_enter Try.func83, Try.ntmps83
  go_wp2_with fail
  refine (ccheck_any a n c l _ (HL.out.later (below_alloc _ _)) hc).mono ?_
  rintro e w1 ⟨rfl, hb⟩
  rw [HE.out, show errV 0 = Value.nilIface from rfl]
  have HB := hide ((below_alloc w (.cells #[.int .u8 x.z0, .int .u8 x.z1, .int .u8 x.z2, .int .u8 x.z3, .int .u8 x.z4, .int .u8 x.z5, .int .u8 x.z6, .int .u8 x.z7] 50)).trans (hb.mono (by simp)))
  have X1 := hide (show Bx w1 w.heap.size #[.int .u8 x.z0, .int .u8 x.z1, .int .u8 x.z2, .int .u8 x.z3, .int .u8 x.z4, .int .u8 x.z5, .int .u8 x.z6, .int .u8 x.z7] 50 from (Bx.new w _ _).later hb (by simp))
  have L1 := hide (show w.heap.size + 1 ≤ w1.heap.size by have := hb.size; simpa using this)
  clear hb
  obtain ⟨f0, f1, f2, f3, f4, f5, f6, f7⟩ := X1.out.eight
  go_wp2_with fail
  go_loopw [7, 19] (fun v i wr => ∃ (k g c' m : Nat), k ≤ n ∧ i = .int .i64 k ∧ m ≤ 8 ∧ v = .slice (some ⟨g, 0, none⟩) m c' ∧ Hid (m = (Mx.touched (l.take k) x).length) ∧ Hid (Tch w w1.heap.size w.heap.size x (Mx.touched (l.take k) x) (.slice (some ⟨g, 0, none⟩) m c') wr)) (fun _ i _ => n - (intOf i).toNat)
  case atStart =>
    refine ⟨0, w1.heap.size, 1, 1, by omega, rfl, by omega, by simp, by simp [Hid, Mx.touched], ?_⟩
    have ht : Mx.touched (l.take 0) x = [x] := by simp [Mx.touched]
    rw [ht]
    exact ⟨HB.out.alloc HB.out.size _, X1.out.alloc _, OwnBL.one w1 w1.heap.size (Nat.le_refl _) x, by simp⟩
  case round =>
    clear f0 f1 f2 f3 f4 f5 f6 f7
    obtain ⟨k, g, c', m, hk, rfl, hm8, rfl, hm, hT⟩ := hrel
    by_cases hlt : k < n
    · obtain ⟨b, off, y, rfl, hb, hy, e0, e1, e2, e3, e4, e5, e6, e7⟩ := (HL.out.later hT.out.1).at_ k hlt
      obtain ⟨f0, f1, f2, f3, f4, f5, f6, f7⟩ := hT.out.2.1.eight
      have hxl := hT.out.2.1.lt
      have HY := hide hy
      clear hy
      have heq := equal_block y.z0 y.z1 y.z2 y.z3 y.z4 y.z5 y.z6 y.z7 x.z0 x.z1 x.z2 x.z3 x.z4 x.z5 x.z6 x.z7
      by_cases hcc : [y.z0, y.z1, y.z2, y.z3, y.z4, y.z5, y.z6, y.z7] = [x.z0, x.z1, x.z2, x.z3, x.z4, x.z5, x.z6, x.z7]
      · have HC := hide (Mx.touched_skip HY.out ((B8.eq_list y x).1 hcc))
        rw [decide_eq_true hcc] at heq
        clear hcc
        go_wp2_with fail
        go_roundw
        case rel => exact ⟨k + 1, g, c', m, by omega, by go_num, hm8, rfl, by rw [HC.out]; exact hm, by rw [HC.out]; exact hT.out.alloc _⟩
        case measure => simp [intOf]; omega
      · by_cases hmlt : (m : Int) < 8
        · have HC := hide (Mx.touched_snoc (b := x) HY.out (fun e => hcc ((B8.eq_list y x).2 e)) (by rw [← hm.out]; omega))
          rw [decide_eq_false hcc] at heq
          clear hcc
          go_wp2_with (at_builtin; refine wpList_append_blk rfl _ _ rfl w1.heap.size (Mx.touched (l.take k) x) ?c0 y ?c1 ?c2 ?c3 ?_)
          case c0 => exact (hT.out.alloc _).2.2.1
          case c1 => rw [World.size_alloc]; rfl
          case c2 => have := Mx.touched_len (l.take k) x; omega
          case c3 => have := hT.out.2.2.2; simp; omega
          intro g' c2 w' hbg hcap hown hgr
          have hOP := hide hown
          have hG := hide hgr
          clear hown hgr hbg hcap e0 e1 e2 e3 e4 e5 e6 e7 f0 f1 f2 f3 f4 f5 f6 f7 heq
          rw [← hm.out]
          go_wp2
          go_roundw
          case rel => exact ⟨k + 1, g', c2, m + 1, by omega, by go_num, by omega, rfl, by rw [HC.out]; unfold Hid; rw [hm.out]; simp, by rw [HC.out]; exact Tch.grown (hT.out.alloc _) (by have := L1.out; omega) (by have := L1.out; omega) hG.out (by rw [hm.out]; exact hOP.out)⟩
          case measure => simp [intOf]; omega
        · have HC := hide (Mx.touched_full (b := x) HY.out (by rw [← hm.out]; omega))
          rw [decide_eq_false hcc] at heq
          clear hcc
          go_wp2_with fail
          go_roundw
          case rel => exact ⟨k + 1, g, c', m, by omega, by go_num, hm8, rfl, by rw [HC.out]; exact hm, by rw [HC.out]; exact hT.out.alloc _⟩
          case measure => simp [intOf]; omega
    · have HS := hide (Mx.touched_all (l := l) (k := k) (b := x) (by rw [HN.out]; omega))
      go_wp2_with fail
      exact bodyPost_ret (v := .tuple #[.slice (some ⟨g, 0, none⟩) m c', .nilIface]) (by simp [results, Try.results83, go_sem]) rfl ⟨g, c', by rw [← HS.out, ← hm.out], by rw [← HS.out, ← hm.out]; exact OwnBL.lower hT.out.2.2.1 (by have := L1.out; omega), hT.out.1⟩

end Go.Proofs.Ytpjgliocancgeac

/-
  Packets applied: the mathematics of it.
-/
namespace Go.Proofs.Ytpjgliocancgeac
open Go.RowKit

namespace Mx
def dQ : Pk := ⟨0, 0, 0, zB⟩
/-- the least place that the k-th packet may have -/
def qNext (qs : List Pk) : Nat → Int
  | 0 => 0
  | k + 1 => (qs.getD k dQ).at_ + 1
def qOk (n nx : Int) (q : Pk) : Bool := decide (nx ≤ q.at_) && (decide (q.at_ < n) && (decide (0 ≤ q.kind) && decide (q.kind < 4)))
def qGood (n : Int) (qs : List Pk) (k : Nat) : Bool := qOk n (qNext qs k) (qs.getD k dQ)
/-- the packets may be -/
def qRise (n : Int) (qs : List Pk) : Bool := (List.range qs.length).all (qGood n qs)
def qE (n : Int) (qs : List Pk) : Int := if qRise n qs = true then 0 else 1
theorem qRise_not {n : Int} {qs : List Pk} {k : Nat} (hk : k < qs.length) (h : qGood n qs k = false) : qRise n qs = false := by
  unfold qRise
  rw [List.all_eq_false]
  exact ⟨k, List.mem_range.2 hk, by rw [h]; simp⟩
theorem qE_not {n : Int} {qs : List Pk} {k : Nat} {q : Pk} (hq : qs[k]? = some q) (h : qOk n (qNext qs k) q = false) : qE n qs = 1 := by
  rw [qE, qRise_not (k := k) (List.getElem?_eq_some_iff.1 hq).1 (by unfold qGood; rw [List.getD_eq_getElem?_getD, hq]; exact h)]
  rfl
/-- so far they may be -/
def qTo (n : Int) (qs : List Pk) (k : Nat) : Prop := ∀ j, j < k → qGood n qs j = true
theorem qTo_zero (n : Int) (qs : List Pk) : qTo n qs 0 := fun _ hj => absurd hj (by omega)
theorem qTo_next {n : Int} {qs : List Pk} {k : Nat} (h : qTo n qs k) : 0 ≤ qNext qs k := by
  induction k with
  | zero => exact Int.le_refl _
  | succ k ih =>
    have h1 := h k (by omega)
    have h2 := ih (fun j hj => h j (by omega))
    unfold qGood qOk at h1
    simp only [Bool.and_eq_true, decide_eq_true_eq] at h1
    show 0 ≤ (qs.getD k dQ).at_ + 1
    omega
theorem qTo_succ {n : Int} {qs : List Pk} {k : Nat} {q : Pk} (h : qTo n qs k) (hq : qs[k]? = some q) (hg : qOk n (qNext qs k) q = true) : qTo n qs (k + 1) := by
  intro j hj
  rcases Nat.lt_succ_iff_lt_or_eq.1 hj with h1 | h1
  · exact h j h1
  · subst h1
    unfold qGood
    rw [List.getD_eq_getElem?_getD, hq]
    exact hg
theorem qNext_succ {qs : List Pk} {k : Nat} {q : Pk} (hq : qs[k]? = some q) : qNext qs (k + 1) = q.at_ + 1 := by
  rw [qNext, List.getD_eq_getElem?_getD, hq]
  rfl
theorem qE_all {n : Int} {qs : List Pk} {k : Nat} (h : qTo n qs k) (hk : qs.length ≤ k) : qE n qs = 0 := by
  rw [qE, show qRise n qs = true by
    unfold qRise
    rw [List.all_eq_true]
    exact fun j hj => h j (by have := List.mem_range.1 hj; omega)]
  rfl
theorem qE_at {n : Int} {qs : List Pk} (h : qE n qs = 0) {k : Nat} {q : Pk} (hq : qs[k]? = some q) : 0 ≤ q.at_ ∧ q.at_ < n ∧ 0 ≤ q.kind ∧ q.kind < 4 := by
  have h0 : qRise n qs = true := by
    unfold qE at h
    by_cases h1 : qRise n qs = true
    · exact h1
    · rw [if_neg h1] at h
      exact absurd h (by omega)
  have hT : ∀ j, j < qs.length → qGood n qs j = true := by
    unfold qRise at h0
    rw [List.all_eq_true] at h0
    exact fun j hj => h0 j (List.mem_range.2 hj)
  have hk := (List.getElem?_eq_some_iff.1 hq).1
  have hx := qTo_next (n := n) (k := k) (fun j hj => hT j (by omega))
  have h1 := hT k hk
  unfold qGood qOk at h1
  rw [List.getD_eq_getElem?_getD, hq] at h1
  simp only [Bool.and_eq_true, decide_eq_true_eq, Option.getD_some] at h1
  omega

/-- the block at such a place, if there is one -/
def atI (l : List B8) (i : Int) : Option B8 := if i < 0 then none else l[i.toNat]?
theorem atI_none {l : List B8} {i : Int} (h : i < 0 ∨ (l.length : Int) ≤ i) : atI l i = none := by
  unfold atI
  split
  · rfl
  · exact List.getElem?_eq_none (by omega)
theorem atI_some {l : List B8} {i : Int} {k : Nat} {y : B8} (h : i = k) (hy : l[k]? = some y) : atI l i = some y := by
  subst h
  rw [atI, if_neg (by omega), Int.toNat_natCast, hy]
/-- what a packet says -/
def saidO (q : Pk) (peer had : List B8) : Option B8 := if q.kind = 0 then some zB else if q.kind = 3 then some q.d else if q.kind = 2 then atI had q.from_ else atI peer q.from_
def putO (q : Pk) (peer had : List B8) : List Pt := match saidO q peer had with | some d => [⟨q.at_, d⟩] | none => []
def misO (q : Pk) (peer had : List B8) : List Int := match saidO q peer had with | some _ => [] | none => [q.at_]
def puts (qs : List Pk) (peer had : List B8) : List Pt := qs.flatMap (fun q => putO q peer had)
def miss (qs : List Pk) (peer had : List B8) : List Int := qs.flatMap (fun q => misO q peer had)
theorem flatM_succ {α β : Type} (f : α → List β) {l : List α} {k : Nat} {x : α} (h : l[k]? = some x) : (l.take (k + 1)).flatMap f = (l.take k).flatMap f ++ f x := by
  rw [List.take_add_one, h, List.flatMap_append]
  simp
theorem flatM_len {α β : Type} (f : α → List β) (h1 : ∀ x, (f x).length ≤ 1) : ∀ l : List α, (l.flatMap f).length ≤ l.length
  | [] => by simp
  | x :: l => by
    have h := flatM_len f h1 l
    rw [List.flatMap_cons, List.length_append, List.length_cons]
    have := h1 x
    omega
theorem puts_some {qs : List Pk} {peer had : List B8} {k : Nat} {q : Pk} {d : B8} (h : qs[k]? = some q) (hs : saidO q peer had = some d) : puts (qs.take (k + 1)) peer had = puts (qs.take k) peer had ++ [⟨q.at_, d⟩] ∧ miss (qs.take (k + 1)) peer had = miss (qs.take k) peer had := by
  unfold puts miss
  rw [flatM_succ _ h, flatM_succ _ h, show putO q peer had = [⟨q.at_, d⟩] by rw [putO, hs], show misO q peer had = [] by rw [misO, hs], List.append_nil]
  exact ⟨rfl, rfl⟩
theorem puts_none {qs : List Pk} {peer had : List B8} {k : Nat} {q : Pk} (h : qs[k]? = some q) (hs : saidO q peer had = none) : puts (qs.take (k + 1)) peer had = puts (qs.take k) peer had ∧ miss (qs.take (k + 1)) peer had = miss (qs.take k) peer had ++ [q.at_] := by
  unfold puts miss
  rw [flatM_succ _ h, flatM_succ _ h, show putO q peer had = [] by rw [putO, hs], show misO q peer had = [q.at_] by rw [misO, hs], List.append_nil]
  exact ⟨rfl, rfl⟩
theorem puts_len (qs : List Pk) (peer had : List B8) : (puts qs peer had).length ≤ qs.length := flatM_len _ (fun q => by unfold putO; split <;> simp) qs
theorem miss_len (qs : List Pk) (peer had : List B8) : (miss qs peer had).length ≤ qs.length := flatM_len _ (fun q => by unfold misO; split <;> simp) qs

/-- what was had, behind packets -/
def hadTo (had : List B8) (qs : List Pk) : List B8 := qs.foldl (fun l q => if q.kind = 3 then Mx.touched l q.d else l) had
theorem hadTo_succ {had : List B8} {qs : List Pk} {k : Nat} {q : Pk} (h : qs[k]? = some q) : hadTo had (qs.take (k + 1)) = if q.kind = 3 then Mx.touched (hadTo had (qs.take k)) q.d else hadTo had (qs.take k) := by
  unfold hadTo
  rw [List.take_add_one, h, List.foldl_append]
  rfl
theorem hmay_iff (l : List B8) : hmay l = 0 ↔ l.length ≤ 8 ∧ l.Nodup := by
  unfold hmay
  by_cases h : 8 < l.length
  · rw [if_pos h]
    constructor
    · intro h1
      exact absurd h1 (by omega)
    · intro h1
      omega
  · rw [if_neg h]
    by_cases h2 : l.Nodup
    · rw [if_pos h2]
      exact ⟨fun _ => ⟨by omega, h2⟩, fun _ => rfl⟩
    · rw [if_neg h2]
      exact ⟨fun h1 => absurd h1 (by omega), fun h1 => absurd h1.2 h2⟩
theorem hmay_touched {l : List B8} (b : B8) (h : hmay l = 0) : hmay (touched l b) = 0 := by
  rw [hmay_iff] at h ⊢
  refine ⟨touched_len l b, ?_⟩
  unfold touched
  refine List.Sublist.nodup (List.take_sublist _ _) ?_
  rw [List.nodup_cons]
  exact ⟨by simp, h.2.filter _⟩
theorem hadTo_may {had : List B8} (h : hmay had = 0) : ∀ (qs : List Pk), hmay (hadTo had qs) = 0 := by
  intro qs
  unfold hadTo
  induction qs generalizing had with
  | nil => exact h
  | cons q qs ih =>
    rw [List.foldl_cons]
    refine ih ?_
    by_cases hq : q.kind = 3
    · rw [if_pos hq]
      exact hmay_touched _ h
    · rw [if_neg hq]
      exact h
end Mx
end Go.Proofs.Ytpjgliocancgeac

/-
  Packets, applied: mathematics: what is said is what was to be put, where it is another block.
-/
namespace Go.Proofs.Ytpjgliocancgeac
open Go.RowKit

namespace Mx
/-- a put that is sent -/
def sent (peer : List B8) (p : Pt) : Bool := decide (¬ peer[p.at_.toNat]? = some p.d)
theorem pks_filter (peer had : List B8) (ps : List Pt) : pks peer had ps = (ps.filter (sent peer)).map (fun p => pkOf p peer had) := by
  induction ps with
  | nil => rfl
  | cons p ps ih =>
    have e : pks peer had (p :: ps) = pkAt peer had p ++ pks peer had ps := by simp [pks]
    rw [e, ih]
    unfold pkAt
    by_cases h : peer[p.at_.toNat]? = some p.d
    · rw [if_pos h, List.filter_cons_of_neg (by simp [sent, h])]
      rfl
    · rw [if_neg h, List.filter_cons_of_pos (by simp [sent, h])]
      rfl
theorem firstI_get {l : List B8} {b : B8} (h : b ∈ l) : atI l (firstI l b) = some b := by
  obtain ⟨j, hj⟩ := List.getElem?_of_mem h
  have key : ∃ k : Nat, l[k]? = some b ∧ ∀ i : Nat, i < k → l[i]? ≠ some b := by
    induction j using Nat.strongRecOn with
    | _ j ih =>
      by_cases hx : ∃ i, i < j ∧ l[i]? = some b
      · obtain ⟨i, hi, hib⟩ := hx
        exact ih i hi hib
      · exact ⟨j, hj, fun i hi hib => hx ⟨i, hi, hib⟩⟩
  obtain ⟨k, hk, hmin⟩ := key
  rw [firstI_at hk hmin]
  exact atI_some rfl hk
theorem findB_mem {l : List B8} {b : B8} : findB l b = true ↔ b ∈ l := by
  unfold findB
  rw [firstI_nonneg]
  simp
theorem findI_get {l : List B8} {b : B8} (h : findB l b = true) : atI l (findI l b) = some b := by
  have h0 : 0 ≤ firstI l b := by simpa [findB] using h
  rw [findI, if_neg (by omega)]
  exact firstI_get (findB_mem.1 h)
/-- what a packet for a put says is the put's block -/
theorem said_pkOf (p : Pt) (peer had : List B8) : saidO (pkOf p peer had) peer had = some p.d ∧ (pkOf p peer had).at_ = p.at_ ∧ 0 ≤ (pkOf p peer had).kind ∧ (pkOf p peer had).kind < 4 := by
  unfold pkOf
  by_cases h0 : p.d = zB
  · rw [if_pos h0]
    refine ⟨?_, rfl, by simp, by simp⟩
    rw [saidO, if_pos rfl, h0]
  · rw [if_neg h0]
    by_cases h1 : findB peer p.d = true
    · rw [if_pos h1]
      refine ⟨?_, rfl, by simp, by simp⟩
      simp only [saidO]
      exact findI_get h1
    · rw [if_neg h1]
      by_cases h2 : findB had p.d = true
      · rw [if_pos h2]
        refine ⟨?_, rfl, by simp, by simp⟩
        simp only [saidO]
        exact findI_get h2
      · rw [if_neg h2]
        exact ⟨rfl, rfl, by simp, by simp⟩
theorem puts_pks (peer had : List B8) (ps : List Pt) : puts (pks peer had ps) peer had = ps.filter (sent peer) ∧ miss (pks peer had ps) peer had = [] := by
  rw [pks_filter]
  induction ps.filter (sent peer) with
  | nil => exact ⟨rfl, rfl⟩
  | cons p l ih =>
    obtain ⟨h1, h2, _⟩ := said_pkOf p peer had
    constructor
    · rw [List.map_cons, puts, List.flatMap_cons, putO, h1, h2]
      exact congrArg (p :: ·) ih.1
    · rw [List.map_cons, miss, List.flatMap_cons, misO, h1]
      exact ih.2
/-- a literal packet is for what is neither noughts nor there -/
theorem pkOf_lit {p : Pt} {peer had : List B8} (h : (pkOf p peer had).kind = 3) : (pkOf p peer had).d = p.d ∧ ¬ p.d = zB ∧ p.d ∉ peer ∧ p.d ∉ had := by
  unfold pkOf at h ⊢
  by_cases h0 : p.d = zB
  · rw [if_pos h0] at h
    exact absurd h (by simp)
  · rw [if_neg h0] at h ⊢
    by_cases h1 : findB peer p.d = true
    · rw [if_pos h1] at h
      exact absurd h (by simp)
    · rw [if_neg h1] at h ⊢
      by_cases h2 : findB had p.d = true
      · rw [if_pos h2] at h
        exact absurd h (by simp)
      · rw [if_neg h2]
        exact ⟨rfl, h0, fun hm => h1 (findB_mem.2 hm), fun hm => h2 (findB_mem.2 hm)⟩
/-- places that rise, from one on -/
def riseFrom (n : Int) : Int → List Pt → Prop
  | _, [] => True
  | s, p :: ps => s ≤ p.at_ ∧ p.at_ < n ∧ riseFrom n (p.at_ + 1) ps
theorem riseFrom_drop {n : Int} {ps : List Pt} (h : riseB n ps = true) : ∀ (m k : Nat), ps.length - k = m → riseFrom n (nextOf ps k) (ps.drop k) := by
  intro m
  induction m with
  | zero =>
    intro k hk
    rw [List.drop_eq_nil_of_le (by omega)]
    trivial
  | succ m ih =>
    intro k hk
    have hlt : k < ps.length := by omega
    rw [List.drop_eq_getElem_cons hlt]
    have h1 := riseB_at h (List.getElem?_eq_getElem hlt)
    have h2 := ih (k + 1) (by omega)
    have e : nextOf ps (k + 1) = ps[k].at_ + 1 := by rw [nextOf, List.getD_eq_getElem?_getD, List.getElem?_eq_getElem hlt]; rfl
    rw [e] at h2
    exact ⟨h1.1, h1.2, h2⟩
theorem riseFrom_of {n : Int} {ps : List Pt} (h : riseB n ps = true) : riseFrom n 0 ps := riseFrom_drop h _ 0 rfl
theorem riseFrom_less {n : Int} : ∀ {ps : List Pt} {s t : Int}, riseFrom n s ps → t ≤ s → riseFrom n t ps
  | [], _, _, _, _ => trivial
  | _ :: _, _, _, h, ht => ⟨by have := h.1; omega, h.2.1, h.2.2⟩
theorem riseFrom_filter {n : Int} (f : Pt → Bool) : ∀ {ps : List Pt} {s : Int}, riseFrom n s ps → riseFrom n s (ps.filter f)
  | [], _, _ => trivial
  | p :: ps, s, h => by
    have ih := riseFrom_filter f h.2.2
    by_cases hf : f p = true
    · rw [List.filter_cons_of_pos hf]
      exact ⟨h.1, h.2.1, ih⟩
    · rw [List.filter_cons_of_neg hf]
      exact riseFrom_less ih (by have := h.1; omega)
theorem riseFrom_at {n : Int} : ∀ {ps : List Pt} {s : Int}, riseFrom n s ps → ∀ p ∈ ps, s ≤ p.at_ ∧ p.at_ < n
  | [], _, _, p, hp => by simp at hp
  | p :: ps, s, h, q, hq => by
    rcases List.mem_cons.1 hq with rfl | h1
    · exact ⟨h.1, h.2.1⟩
    · have := riseFrom_at h.2.2 q h1
      have := h.1
      omega
def qFrom (n : Int) : Int → List Pk → Prop
  | _, [] => True
  | s, q :: qs => s ≤ q.at_ ∧ q.at_ < n ∧ (0 ≤ q.kind ∧ q.kind < 4) ∧ qFrom n (q.at_ + 1) qs
theorem qFrom_pks (peer had : List B8) {n : Int} : ∀ {ps : List Pt} {s : Int}, riseFrom n s ps → qFrom n s (ps.map (fun p => pkOf p peer had))
  | [], _, _ => trivial
  | p :: ps, s, h => by
    obtain ⟨_, h2, h3, h4⟩ := said_pkOf p peer had
    have ih := qFrom_pks peer had h.2.2
    rw [List.map_cons]
    refine ⟨by rw [h2]; exact h.1, by rw [h2]; exact h.2.1, ⟨h3, h4⟩, ?_⟩
    rw [h2]
    exact ih
theorem qTo_of {n : Int} {qs : List Pk} (h : qFrom n 0 qs) : ∀ k : Nat, k ≤ qs.length → qTo n qs k ∧ qFrom n (qNext qs k) (qs.drop k) := by
  intro k
  induction k with
  | zero => intro _; exact ⟨qTo_zero _ _, h⟩
  | succ k ih =>
    intro hk
    obtain ⟨h1, h2⟩ := ih (by omega)
    have hlt : k < qs.length := by omega
    rw [List.drop_eq_getElem_cons hlt] at h2
    have hg := List.getElem?_eq_getElem hlt
    refine ⟨qTo_succ h1 hg ?_, ?_⟩
    · unfold qOk
      simp only [Bool.and_eq_true, decide_eq_true_eq]
      exact ⟨h2.1, h2.2.1, h2.2.2.1.1, h2.2.2.1.2⟩
    · rw [qNext_succ hg]
      exact h2.2.2.2
theorem qE_pks (peer had : List B8) {n : Int} {ps : List Pt} (h : riseB n ps = true) : qE n (pks peer had ps) = 0 := by
  rw [pks_filter]
  exact qE_all (qTo_of (qFrom_pks peer had (riseFrom_filter _ (riseFrom_of h))) _ (Nat.le_refl _)).1 (Nat.le_refl _)
theorem riseE_of {n : Int} {ps : List Pt} (h : riseB n ps = true) : riseE n ps = 0 := by rw [riseE, if_pos h]

/-- a put done -/
def putIn (l : List B8) (p : Pt) : List B8 := l.set p.at_.toNat p.d
theorem putIn_len (ps : List Pt) : ∀ l : List B8, (ps.foldl putIn l).length = l.length := by
  induction ps with
  | nil => intro l; rfl
  | cons p ps ih => intro l; rw [List.foldl_cons, ih, putIn, List.length_set]
theorem putIn_sent {peer : List B8} {n : Int} : ∀ {ps : List Pt} {s : Int} {l : List B8}, 0 ≤ s → riseFrom n s ps → (∀ i : Nat, s ≤ (i : Int) → l[i]? = peer[i]?) → ps.foldl putIn l = (ps.filter (sent peer)).foldl putIn l
  | [], _, _, _, _, _ => rfl
  | p :: ps, s, l, hs, h, hl => by
    have hp0 : 0 ≤ p.at_ := by have := h.1; omega
    have hpe : ((p.at_.toNat : Nat) : Int) = p.at_ := Int.toNat_of_nonneg hp0
    rw [List.foldl_cons]
    by_cases hf : peer[p.at_.toNat]? = some p.d
    · rw [List.filter_cons_of_neg (by simp [sent, hf])]
      have e : putIn l p = l := by
        unfold putIn
        apply List.ext_getElem?
        intro i
        by_cases hi : p.at_.toNat = i
        · subst hi
          rw [hl _ (by rw [hpe]; exact h.1)]
          have hlen : p.at_.toNat < l.length := by
            have h1 := hl p.at_.toNat (by rw [hpe]; exact h.1)
            rw [hf] at h1
            exact (List.getElem?_eq_some_iff.1 h1).1
          rw [List.getElem?_set_self hlen, hf]
        · rw [List.getElem?_set_ne hi]
      rw [e]
      exact putIn_sent (by omega) h.2.2 (fun i hi => hl i (by have := h.1; omega))
    · rw [List.filter_cons_of_pos (by simp [sent, hf]), List.foldl_cons]
      refine putIn_sent (by omega) h.2.2 (fun i hi => ?_)
      unfold putIn
      rw [List.getElem?_set_ne (by omega)]
      exact hl i (by have := h.1; omega)
/-- applied: what they are to be -/
theorem putIn_all {peer : List B8} {n : Int} {ps : List Pt} (h : riseB n ps = true) : (ps.filter (sent peer)).foldl putIn peer = ps.foldl putIn peer :=
  (putIn_sent (Int.le_refl 0) (riseFrom_of h) (fun _ _ => rfl)).symm
theorem foldl_succ {α β : Type} (f : β → α → β) {l : List α} {k : Nat} {x : α} (h : l[k]? = some x) (b : β) : (l.take (k + 1)).foldl f b = f ((l.take k).foldl f b) x := by
  rw [List.take_add_one, h, List.foldl_append]
  rfl
end Mx
end Go.Proofs.Ytpjgliocancgeac

/-
  What is made of raw numbers: a block (BlockFrom).
-/
namespace Go.Proofs.Ytpjgliocancgeac
open Go.RowKit

def B8.arr (x : B8) : Array Value := #[.int .u8 x.z0, .int .u8 x.z1, .int .u8 x.z2, .int .u8 x.z3, .int .u8 x.z4, .int .u8 x.z5, .int .u8 x.z6, .int .u8 x.z7]
theorem zB_ok : zB.ok := by intro z hz; simp [Mx.bytesOf, zB] at hz; omega
/-- a block with one byte another -/
theorem B8.setAt (x : B8) (hx : x.ok) (i : Nat) (hi : i < 8) (z : Int) (h0 : 0 ≤ z) (h1 : z ≤ 255) : ∃ y : B8, y.ok ∧ x.arr.setIfInBounds i (.int .u8 z) = y.arr := by
  have e := fun t ht => hx t ht
  simp only [Mx.bytesOf, List.mem_cons, List.not_mem_nil, or_false, forall_eq_or_imp, forall_eq] at e
  obtain ⟨e0, e1, e2, e3, e4, e5, e6, e7⟩ := e
  have key : ∀ y : B8, ((0 ≤ y.z0 ∧ y.z0 ≤ 255) ∧ (0 ≤ y.z1 ∧ y.z1 ≤ 255) ∧ (0 ≤ y.z2 ∧ y.z2 ≤ 255) ∧ (0 ≤ y.z3 ∧ y.z3 ≤ 255) ∧ (0 ≤ y.z4 ∧ y.z4 ≤ 255) ∧ (0 ≤ y.z5 ∧ y.z5 ≤ 255) ∧ (0 ≤ y.z6 ∧ y.z6 ≤ 255) ∧ (0 ≤ y.z7 ∧ y.z7 ≤ 255)) → y.ok := by
    intro y hy
    unfold B8.ok
    simp only [Mx.bytesOf, List.mem_cons, List.not_mem_nil, or_false, forall_eq_or_imp, forall_eq]
    exact hy
  match i, hi with
  | 0, _ => exact ⟨{ x with z0 := z }, key _ ⟨⟨h0, h1⟩, e1, e2, e3, e4, e5, e6, e7⟩, rfl⟩
  | 1, _ => exact ⟨{ x with z1 := z }, key _ ⟨e0, ⟨h0, h1⟩, e2, e3, e4, e5, e6, e7⟩, rfl⟩
  | 2, _ => exact ⟨{ x with z2 := z }, key _ ⟨e0, e1, ⟨h0, h1⟩, e3, e4, e5, e6, e7⟩, rfl⟩
  | 3, _ => exact ⟨{ x with z3 := z }, key _ ⟨e0, e1, e2, ⟨h0, h1⟩, e4, e5, e6, e7⟩, rfl⟩
  | 4, _ => exact ⟨{ x with z4 := z }, key _ ⟨e0, e1, e2, e3, ⟨h0, h1⟩, e5, e6, e7⟩, rfl⟩
  | 5, _ => exact ⟨{ x with z5 := z }, key _ ⟨e0, e1, e2, e3, e4, ⟨h0, h1⟩, e6, e7⟩, rfl⟩
  | 6, _ => exact ⟨{ x with z6 := z }, key _ ⟨e0, e1, e2, e3, e4, e5, ⟨h0, h1⟩, e7⟩, rfl⟩
  | 7, _ => exact ⟨{ x with z7 := z }, key _ ⟨e0, e1, e2, e3, e4, e5, e6, ⟨h0, h1⟩⟩, rfl⟩
  | n + 8, h => omega

theorem bx_put8 {w : World} {g : Nat} {y : B8} {t : TypeId} (h : Bx w g y.arr t) (x : B8) : Bx (set8 w g 0 x) g x.arr t := by
  have h8 := (((((((h.set 0 (.int .u8 x.z0)).set 1 (.int .u8 x.z1)).set 2 (.int .u8 x.z2)).set 3 (.int .u8 x.z3)).set 4 (.int .u8 x.z4)).set 5 (.int .u8 x.z5)).set 6 (.int .u8 x.z6)).set 7 (.int .u8 x.z7)
  have e : ((((((((y.arr.setIfInBounds 0 (.int .u8 x.z0)).setIfInBounds 1 (.int .u8 x.z1)).setIfInBounds 2 (.int .u8 x.z2)).setIfInBounds 3 (.int .u8 x.z3)).setIfInBounds 4 (.int .u8 x.z4)).setIfInBounds 5 (.int .u8 x.z5)).setIfInBounds 6 (.int .u8 x.z6)).setIfInBounds 7 (.int .u8 x.z7)) = x.arr := by simp [B8.arr]
  rw [e] at h8
  unfold set8
  simp only [Nat.zero_add]
  exact h8

set_option maxHeartbeats 4000000 in
set_option maxRecDepth 100000 in
theorem blockFrom_any (a : Option Addr) (n c : Nat) (l : List Int) (i : Nat) (w : World) (hl : Ints w a n l) (hb : I64 l) (hn : n ≤ 1000) (hi : i ≤ 90000) :
    Calls Try.prog 28 #[.slice a n c, .int .i64 (i : Int)] w fun e w' => ∃ x : B8, x.ok ∧ e = .returned (.agg #[.int .u8 x.z0, .int .u8 x.z1, .int .u8 x.z2, .int .u8 x.z3, .int .u8 x.z4, .int .u8 x.z5, .int .u8 x.z6, .int .u8 x.z7]) ∧ Hid (Below w.heap.size w w') := by
  have HL := hide hl
  have HB := hide hb
  clear hl hb
  obtain ⟨w0, hw0⟩ : ∃ w0 : World, Hid (w0 = (w.alloc (.cells #[.int .u8 0, .int .u8 0, .int .u8 0, .int .u8 0, .int .u8 0, .int .u8 0, .int .u8 0, .int .u8 0] 50)).alloc (.cells #[.int .u8 0, .int .u8 0, .int .u8 0, .int .u8 0, .int .u8 0, .int .u8 0, .int .u8 0, .int .u8 0] 50)) := ⟨_, rfl⟩
  have R0 := hide (show Bx w0 w.heap.size zB.arr 50 by rw [hw0.out]; exact (Bx.new w _ _).alloc _)
  have K0 := hide (show Bx w0 (w.heap.size + 1) zB.arr 50 by
    rw [hw0.out]
    have h := Bx.new (w.alloc (.cells #[.int .u8 0, .int .u8 0, .int .u8 0, .int .u8 0, .int .u8 0, .int .u8 0, .int .u8 0, .int .u8 0] 50)) #[.int .u8 0, .int .u8 0, .int .u8 0, .int .u8 0, .int .u8 0, .int .u8 0, .int .u8 0, .int .u8 0] 50
    rw [World.size_alloc] at h
    exact h)
  have B0 := hide (show Below w.heap.size w w0 by rw [hw0.out]; exact (below_alloc _ _).alloc (by simp) _)
  go_enter Try.func28, Try.ntmps28
  go_wp2_with fail
  rw [← hw0.out]
  refine (raw_any a n c l i w0 (HL.out.later B0.out) HB.out hn (by omega)).mono ?_
  rintro e w1 ⟨r, hr, rfl, q, rfl⟩
  have R1 := hide (R0.out.later (below_drewN (Below.refl _ _) q) R0.out.lt)
  have K1 := hide (K0.out.later (below_drewN (Below.refl _ _) q) K0.out.lt)
  have B1 := hide (below_drewN B0.out q)
  obtain ⟨w1, hw1⟩ : ∃ w1 : World, Hid (w1 = w0.drewN q) := ⟨_, rfl⟩
  rw [← hw1.out] at R1 K1 B1 ⊢
  have kz := K1.out.frozen
  have rz := R1.out.frozen
  obtain ⟨r0, r1, r2, r3, r4, r5, r6, r7⟩ := Bx.eight (x := zB) R1.out
  obtain ⟨f0, f1, f2, f3, f4, f5, f6, f7⟩ := Bx.eight (x := zB) K1.out
  by_cases h0 : (r : Int) % 3 = 0
  · have hd0 : ((r : Int) % 3 == 0) = true := by simpa using h0
    clear h0
    go_wp2_with fail
    change bodyPost Try.prog Try.f28 _ _ _ (set8 w1 w.heap.size 0 zB)
    have R2 := hide (bx_put8 R1.out zB)
    have B2 := hide (set8_below B1.out (Nat.le_refl w.heap.size) 0 zB)
    obtain ⟨w2, hw2⟩ : ∃ w2 : World, Hid (w2 = set8 w1 w.heap.size 0 zB) := ⟨_, rfl⟩
    rw [← hw2.out] at R2 B2 ⊢
    obtain ⟨s0, s1, s2, s3, s4, s5, s6, s7⟩ := Bx.eight (x := zB) R2.out
    exact bodyPost_ret (v := .agg #[.int .u8 zB.z0, .int .u8 zB.z1, .int .u8 zB.z2, .int .u8 zB.z3, .int .u8 zB.z4, .int .u8 zB.z5, .int .u8 zB.z6, .int .u8 zB.z7]) (by simp [results, Try.results28, go_sem, s0, s1, s2, s3, s4, s5, s6, s7]) rfl ⟨zB, zB_ok, rfl, B2⟩
  · have hd0 : ((r : Int) % 3 == 0) = false := by simpa using h0
    clear h0
    have hkb : w.heap.size + 1 ≠ w.heap.size := by omega
    obtain ⟨Z, hZ⟩ : ∃ Z : Int, Hid (Z = 1 + (r : Int) / 3 % 5) := ⟨_, rfl⟩
    obtain ⟨x1, hx1, he1⟩ := zB.setAt zB_ok 0 (by omega) Z (by have := hZ.out; omega) (by have := hZ.out; omega)
    have K2 := hide (show Bx (w1.setCell ⟨w.heap.size + 1, 0, none⟩ (.int .u8 Z)) (w.heap.size + 1) x1.arr 50 by rw [← he1]; exact K1.out.set 0 _)
    have R2 := hide (R1.out.other ⟨w.heap.size + 1, 0, none⟩ (.int .u8 Z) (by show w.heap.size ≠ w.heap.size + 1; omega))
    have B2 := hide (B1.out.setCell (p := ⟨w.heap.size + 1, 0, none⟩) (by show w.heap.size ≤ w.heap.size + 1; omega) (.int .u8 Z))
    have HX1 := hide hx1
    obtain ⟨w2, hw2⟩ : ∃ w2 : World, Hid (w2 = w1.setCell ⟨w.heap.size + 1, 0, none⟩ (.int .u8 Z)) := ⟨_, rfl⟩
    rw [← hw2.out] at K2 R2 B2
    rw [hZ.out] at hw2
    clear he1 hx1
    by_cases h2 : (r : Int) % 3 = 2
    · have hd2 : ((r : Int) % 3 == 2) = true := by simpa using h2
      clear h2
      go_wp2_with fail
      rw [← hw2.out]
      clear r0 r1 r2 r3 r4 r5 r6 r7 f0 f1 f2 f3 f4 f5 f6 f7 kz rz
      go_loopw [7] (fun t wr => ∃ (k : Nat) (x : B8), t = .int .i64 (k : Int) ∧ 1 ≤ k ∧ k ≤ 8 ∧ Hid (x.ok) ∧ Hid (Bx wr (w.heap.size + 1) x.arr 50) ∧ Hid (Bx wr w.heap.size zB.arr 50) ∧ Hid (Below w.heap.size w wr)) (fun t _ => 8 - (intOf t).toNat)
      case atStart => exact ⟨1, x1, rfl, by omega, by omega, HX1, K2, R2, B2⟩
      case round =>
        obtain ⟨k, x, rfl, hk1, hk8, hx, hK, hR, hB⟩ := hrel
        by_cases hlt : (k : Int) < 8
        · go_wp2_with fail
          refine (raw_any a n c l (i + k) wr (HL.out.later hB.out) HB.out hn (by omega)).mono ?_
          rintro e w3 ⟨r3, hr3, rfl, q3, rfl⟩
          obtain ⟨Y, hY⟩ : ∃ Y : Int, Hid (Y = (r3 : Int) / 7 % 256) := ⟨_, rfl⟩
          obtain ⟨y, hy, hye⟩ := x.setAt hx.out k (by omega) Y (by have := hY.out; omega) (by have := hY.out; omega)
          have HY := hide hy
          have K3 := hide (hK.out.later (below_drewN (Below.refl _ _) q3) hK.out.lt)
          have R3 := hide (hR.out.later (below_drewN (Below.refl _ _) q3) hR.out.lt)
          have B3 := hide (below_drewN hB.out q3)
          obtain ⟨w3, hw3⟩ : ∃ w3 : World, Hid (w3 = wr.drewN q3) := ⟨_, rfl⟩
          rw [← hw3.out] at K3 R3 B3 ⊢
          have K4 := hide (show Bx (w3.setCell ⟨w.heap.size + 1, k, none⟩ (.int .u8 Y)) (w.heap.size + 1) y.arr 50 by rw [← hye]; exact K3.out.set k _)
          have R4 := hide (R3.out.other ⟨w.heap.size + 1, k, none⟩ (.int .u8 Y) (by show w.heap.size ≠ w.heap.size + 1; omega))
          have B4 := hide (B3.out.setCell (p := ⟨w.heap.size + 1, k, none⟩) (by show w.heap.size ≤ w.heap.size + 1; omega) (.int .u8 Y))
          obtain ⟨v, hv⟩ : ∃ v, w3.cell? ⟨w.heap.size + 1, k, none⟩ = some v := ⟨x.arr[k]'(by show k < 8; omega), by rw [K3.out.cell k]; exact Array.getElem?_eq_getElem _⟩
          have kz := K3.out.frozen
          obtain ⟨w4, hw4⟩ : ∃ w4 : World, Hid (w4 = w3.setCell ⟨w.heap.size + 1, k, none⟩ (.int .u8 Y)) := ⟨_, rfl⟩
          rw [← hw4.out] at K4 R4 B4
          rw [hY.out] at hw4
          clear hye hy
          go_wp2_with fail
          go_roundw
          case rel => exact ⟨k + 1, y, by go_num, by omega, by omega, HY, by rw [← hw4.out]; exact K4, by rw [← hw4.out]; exact R4, by rw [← hw4.out]; exact B4⟩
          case measure => simp [intOf]; omega
        · have HK := hide hlt
          obtain ⟨f0, f1, f2, f3, f4, f5, f6, f7⟩ := Bx.eight (x := x) hK.out
          obtain ⟨r0, r1, r2, r3, r4, r5, r6, r7⟩ := Bx.eight (x := zB) hR.out
          have rz := hR.out.frozen
          go_wp2_with fail
          change bodyPost Try.prog Try.f28 _ _ _ (set8 wr w.heap.size 0 x)
          have RF := hide (bx_put8 hR.out x)
          have BF := hide (set8_below hB.out (Nat.le_refl w.heap.size) 0 x)
          obtain ⟨wf, hwf⟩ : ∃ wf : World, Hid (wf = set8 wr w.heap.size 0 x) := ⟨_, rfl⟩
          rw [← hwf.out] at RF BF ⊢
          obtain ⟨s0, s1, s2, s3, s4, s5, s6, s7⟩ := Bx.eight (x := x) RF.out
          exact bodyPost_ret (v := .agg #[.int .u8 x.z0, .int .u8 x.z1, .int .u8 x.z2, .int .u8 x.z3, .int .u8 x.z4, .int .u8 x.z5, .int .u8 x.z6, .int .u8 x.z7]) (by simp [results, Try.results28, go_sem, s0, s1, s2, s3, s4, s5, s6, s7]) rfl ⟨x, hx.out, rfl, BF⟩
    · have hd2 : ((r : Int) % 3 == 2) = false := by simpa using h2
      clear h2
      go_upto_region 11 with fail
      rw [← hw2.out]
      clear r0 r1 r2 r3 r4 r5 r6 r7 f0 f1 f2 f3 f4 f5 f6 f7 kz rz
      obtain ⟨f0, f1, f2, f3, f4, f5, f6, f7⟩ := Bx.eight (x := x1) K2.out
      obtain ⟨r0, r1, r2, r3, r4, r5, r6, r7⟩ := Bx.eight (x := zB) R2.out
      have rz := R2.out.frozen
      go_wp2_with fail
      change bodyPost Try.prog Try.f28 _ _ _ (set8 w2 w.heap.size 0 x1)
      have RF := hide (bx_put8 R2.out x1)
      have BF := hide (set8_below B2.out (Nat.le_refl w.heap.size) 0 x1)
      obtain ⟨wf, hwf⟩ : ∃ wf : World, Hid (wf = set8 w2 w.heap.size 0 x1) := ⟨_, rfl⟩
      rw [← hwf.out] at RF BF ⊢
      obtain ⟨s0, s1, s2, s3, s4, s5, s6, s7⟩ := Bx.eight (x := x1) RF.out
      exact bodyPost_ret (v := .agg #[.int .u8 x1.z0, .int .u8 x1.z1, .int .u8 x1.z2, .int .u8 x1.z3, .int .u8 x1.z4, .int .u8 x1.z5, .int .u8 x1.z6, .int .u8 x1.z7]) (by simp [results, Try.results28, go_sem, s0, s1, s2, s3, s4, s5, s6, s7]) rfl ⟨x1, HX1.out, rfl, BF⟩

end Go.Proofs.Ytpjgliocancgeac

/-
  What is made of raw numbers: blocks (BlocksFrom).
-/
namespace Go.Proofs.Ytpjgliocancgeac
open Go.RowKit

set_option maxHeartbeats 4000000 in
set_option maxRecDepth 100000 in
theorem blocksFrom_any (a : Option Addr) (n c : Nat) (l : List Int) (i m : Nat) (w : World) (hl : Ints w a n l) (hb : I64 l) (hn : n ≤ 1000) (hi : i ≤ 10000) (hm : m ≤ 1000) :
    Calls Try.prog 24 #[.slice a n c, .int .i64 (i : Int), .int .i64 (m : Int)] w fun e w' => ∃ (v : Value) (bs : List B8), e = .returned v ∧ bs.length = m ∧ (∀ x ∈ bs, x.ok) ∧ Hid (OwnBL w' w.heap.size v bs) ∧ Hid (Below w.heap.size w w') := by
  have HL := hide hl
  have HB := hide hb
  clear hl hb
  go_enter Try.func24, Try.ntmps24
  go_wp2_with fail
  go_loopw [7, 8] (fun v t wr => ∃ (k : Nat) (bs : List B8), t = .int .i64 (k : Int) ∧ k ≤ m ∧ Hid (bs.length = k) ∧ Hid (∀ x ∈ bs, x.ok) ∧ Hid (OwnBL wr w.heap.size v bs) ∧ Hid (Below w.heap.size w wr)) (fun _ t _ => m - (intOf t).toNat)
  case atStart => exact ⟨0, [], rfl, Nat.zero_le _, rfl, by unfold Hid; simp, World.ownsRow_nil w w.heap.size 50 8, Below.refl _ _⟩
  case round =>
    obtain ⟨k, bs, rfl, hk, hbl, hok, hO, hB⟩ := hrel
    by_cases hlt : (k : Int) < m
    · go_wp2_with fail
      refine (blockFrom_any a n c l (i + 9 * k) wr (HL.out.later hB.out) HB.out hn (by omega)).mono ?_
      rintro e w1 ⟨x, hx, rfl, hb1⟩
      have HX := hide hx
      have O1 := hide (show OwnBL w1 w.heap.size _ bs from rowKept hO.out hb1.out)
      have B1 := hide (hB.out.trans (hb1.out.mono hB.out.size))
      have S1 := hide B1.out.size
      clear hx hb1
      go_wp2_with (at_builtin; refine wpList_append_blk rfl _ _ rfl w.heap.size bs ?o1 x ?o2 ?o3 ?o4 ?_)
      case o1 => exact O1.out
      case o2 => rfl
      case o3 => have := hbl.out; omega
      case o4 => exact S1.out
      intro g c2 w2 hg hc2 hown2 hgr2
      have O2 := hide hown2
      have B2 := hide (B1.out.grown hgr2 S1.out (fun k hk => (World.ownsRow.lt O1.out k hk).1))
      obtain ⟨N, hN⟩ : ∃ N : Nat, Hid (N = bs.length) := ⟨_, rfl⟩
      rw [← hN.out] at O2 ⊢
      clear hown2 hgr2 hg hc2
      go_wp2_with fail
      go_roundw
      case rel => exact ⟨k + 1, bs ++ [x], by go_num, by omega, by unfold Hid; rw [List.length_append, hbl.out]; rfl, fun y hy => (List.mem_append.1 hy).elim (hok.out y) (fun h => by simp at h; rw [h]; exact HX.out), O2, B2⟩
      case measure => simp [intOf]; omega
    · go_wp2_with fail
      go_ret
      exact ⟨_, rfl, bs, by have := hbl.out; omega, hok.out, hO, hB⟩
end Go.Proofs.Ytpjgliocancgeac

/-
  What is made of raw numbers: puts at rising places (PutsFrom).
-/
namespace Go.Proofs.Ytpjgliocancgeac
open Go.RowKit

namespace Mx
theorem riseB_good {n : Int} {ps : List Pt} (h : riseB n ps = true) {j : Nat} (hj : j < ps.length) : goodAt n ps j = true := by
  unfold riseB at h
  rw [List.all_eq_true] at h
  exact h j (List.mem_range.2 hj)
theorem getD_left {ps : List Pt} {p : Pt} {j : Nat} (hj : j < ps.length) : (ps ++ [p]).getD j dP = ps.getD j dP := by
  rw [List.getD_eq_getElem?_getD, List.getD_eq_getElem?_getD, List.getElem?_append_left hj]
theorem nextOf_left {ps : List Pt} {p : Pt} {j : Nat} (hj : j ≤ ps.length) : nextOf (ps ++ [p]) j = nextOf ps j := by
  cases j with
  | zero => rfl
  | succ j =>
    show ((ps ++ [p]).getD j dP).at_ + 1 = (ps.getD j dP).at_ + 1
    rw [getD_left (by omega)]
theorem riseB_mono {n m : Int} {ps : List Pt} (h : riseB n ps = true) (hm : n ≤ m) : riseB m ps = true := by
  refine riseB_all fun j hj => ?_
  have h1 := riseB_good h hj
  unfold goodAt at h1 ⊢
  simp only [Bool.and_eq_true, decide_eq_true_eq] at h1 ⊢
  omega
theorem riseB_next {n : Int} {ps : List Pt} (h : riseB n ps = true) (hn : 0 ≤ n) : nextOf ps ps.length ≤ n := by
  cases hl : ps.length with
  | zero => exact hn
  | succ j =>
    have h1 := riseB_good h (j := j) (by omega)
    unfold goodAt at h1
    simp only [Bool.and_eq_true, decide_eq_true_eq] at h1
    show (ps.getD j dP).at_ + 1 ≤ n
    omega
theorem riseB_snoc {n : Int} {ps : List Pt} (h : riseB n ps = true) (hn : 0 ≤ n) (d : B8) : riseB (n + 1) (ps ++ [⟨n, d⟩]) = true := by
  refine riseB_all fun j hj => ?_
  rw [List.length_append] at hj
  simp only [List.length_cons, List.length_nil] at hj
  by_cases hlt : j < ps.length
  · have h1 := riseB_good h hlt
    unfold goodAt at h1 ⊢
    rw [nextOf_left (by omega), getD_left hlt]
    simp only [Bool.and_eq_true, decide_eq_true_eq] at h1 ⊢
    omega
  · obtain rfl : j = ps.length := by omega
    have h2 := riseB_next h hn
    unfold goodAt
    rw [nextOf_left (Nat.le_refl _)]
    simp only [List.getD_eq_getElem?_getD, List.getElem?_append_right (Nat.le_refl _), Nat.sub_self, List.getElem?_cons_zero, Option.getD_some, Bool.and_eq_true, decide_eq_true_eq]
    omega
end Mx

set_option maxHeartbeats 4000000 in
set_option maxRecDepth 100000 in
theorem putsFrom_any (a : Option Addr) (n c : Nat) (l : List Int) (i m : Nat) (w : World) (hl : Ints w a n l) (hb : I64 l) (hn : n ≤ 1000) (hi : i ≤ 10000) (hm : m ≤ 1000) :
    Calls Try.prog 19 #[.slice a n c, .int .i64 (i : Int), .int .i64 (m : Int)] w fun e w' => ∃ (v : Value) (ps : List Pt), e = .returned v ∧ Hid (ps.length ≤ m ∧ Mx.riseB m ps = true) ∧ Hid (OwnPL w' w.heap.size v ps) ∧ Hid (Below w.heap.size w w') := by
  have HL := hide hl
  have HB := hide hb
  clear hl hb
  go_enter Try.func19, Try.ntmps19
  go_wp2_with fail
  go_loopw [7, 8] (fun v t wr => ∃ (k : Nat) (ps : List Pt), t = .int .i64 (k : Int) ∧ k ≤ m ∧ Hid (ps.length ≤ k ∧ Mx.riseB k ps = true) ∧ Hid (OwnPL wr w.heap.size v ps) ∧ Hid (Below w.heap.size w wr)) (fun _ t _ => m - (intOf t).toNat)
  case atStart => exact ⟨0, [], rfl, Nat.zero_le _, ⟨Nat.le_refl _, rfl⟩, World.ownsRow_nil w w.heap.size 52 9, Below.refl _ _⟩
  case round =>
    obtain ⟨k, ps, rfl, hk, hR, hO, hB⟩ := hrel
    by_cases hlt : (k : Int) < m
    · go_wp2_with fail
      refine (raw_any a n c l (i + k) wr (HL.out.later hB.out) HB.out hn (by omega)).mono ?_
      rintro e w1 ⟨x, hx, rfl, q, rfl⟩
      have O1 := hide (show OwnPL (wr.drewN q) w.heap.size _ ps from hO.out)
      have B1 := hide (below_drewN hB.out q)
      obtain ⟨w1, hw1⟩ : ∃ w1 : World, Hid (w1 = wr.drewN q) := ⟨_, rfl⟩
      rw [← hw1.out] at O1 B1 ⊢
      by_cases h3 : (x : Int) % 3 = 0
      · have hd : ((x : Int) % 3 == 0) = true := by simpa using h3
        go_wp2_with fail
        refine (blockFrom_any a n c l (i + 5 * k + 1) w1 (HL.out.later B1.out) HB.out hn (by omega)).mono ?_
        rintro e w2 ⟨y, _, rfl, hb2⟩
        have O2 := hide (show OwnPL w2 w.heap.size _ ps from rowKept O1.out hb2.out)
        have B2 := hide (B1.out.trans (hb2.out.mono B1.out.size))
        have S2 := hide B2.out.size
        clear hb2
        go_wp2_with (at_builtin; refine wpList_append_put rfl _ _ rfl w.heap.size ps ?o1 ⟨(k : Int), y⟩ ?o2 ?o3 ?o4 ?_)
        case o1 => exact O2.out
        case o2 => rfl
        case o3 => have := hR.out.1; omega
        case o4 => exact S2.out
        intro ad c2 w3 hown hgr
        have O3 := hide hown
        have B3 := hide (B2.out.grown hgr S2.out (fun k hk => (World.ownsRow.lt O2.out k hk).1))
        obtain ⟨N, hN⟩ : ∃ N : Nat, Hid (N = ps.length) := ⟨_, rfl⟩
        rw [← hN.out] at O3 ⊢
        clear hown hgr
        go_wp2_with fail
        go_roundw
        case rel => exact ⟨k + 1, ps ++ [⟨(k : Int), y⟩], by go_num, by omega, ⟨by rw [List.length_append]; have := hR.out.1; simp; omega, by have h := Mx.riseB_snoc hR.out.2 (by omega) y; rw [show ((k + 1 : Nat) : Int) = (k : Int) + 1 by omega]; exact h⟩, O3, B3⟩
        case measure => simp [intOf]; omega
      · have hd : ((x : Int) % 3 == 0) = false := by simpa using h3
        go_wp2_with fail
        go_roundw
        case rel => exact ⟨k + 1, ps, by go_num, by omega, ⟨by have := hR.out.1; omega, Mx.riseB_mono hR.out.2 (by omega)⟩, O1, B1⟩
        case measure => simp [intOf]; omega
    · obtain rfl : k = m := by omega
      go_wp2_with fail
      go_ret
      exact ⟨_, rfl, ps, hR, hO, hB⟩
end Go.Proofs.Ytpjgliocancgeac

/-
  What a packet says: the document's answer (Said).
-/
namespace Go.Proofs.Ytpjgliocancgeac
open Go.RowKit

theorem Mx.saidO_zero {q : Pk} {peer had : List B8} (h : q.kind = 0) : Mx.saidO q peer had = some zB := by rw [Mx.saidO, if_pos h]
theorem Mx.saidO_lit {q : Pk} {peer had : List B8} (h : q.kind = 3) : Mx.saidO q peer had = some q.d := by rw [Mx.saidO, if_neg (by omega), if_pos h]
theorem Mx.saidO_had {q : Pk} {peer had : List B8} (h : q.kind = 2) : Mx.saidO q peer had = Mx.atI had q.from_ := by rw [Mx.saidO, if_neg (by omega), if_neg (by omega), if_pos h]
theorem Mx.saidO_peer {q : Pk} {peer had : List B8} (h0 : ¬ q.kind = 0) (h2 : ¬ q.kind = 2) (h3 : ¬ q.kind = 3) : Mx.saidO q peer had = Mx.atI peer q.from_ := by rw [Mx.saidO, if_neg h0, if_neg h3, if_neg h2]

/-- an answer: the block, or none -/
def ansB : Option B8 → Value
  | some y => .tuple #[.agg #[.int .u8 y.z0, .int .u8 y.z1, .int .u8 y.z2, .int .u8 y.z3, .int .u8 y.z4, .int .u8 y.z5, .int .u8 y.z6, .int .u8 y.z7], .bool true]
  | none => .tuple #[.agg #[.int .u8 0, .int .u8 0, .int .u8 0, .int .u8 0, .int .u8 0, .int .u8 0, .int .u8 0, .int .u8 0], .bool false]

set_option maxHeartbeats 2000000 in
set_option maxRecDepth 100000 in
theorem hear_noughts (q : Pk) (w : World) :
    Calls Try.prog 150 #[.agg #[], .agg #[.int .i64 q.at_, .int .i64 q.kind, .int .i64 q.from_, .int .u8 q.d.z0, .int .u8 q.d.z1, .int .u8 q.d.z2, .int .u8 q.d.z3, .int .u8 q.d.z4, .int .u8 q.d.z5, .int .u8 q.d.z6, .int .u8 q.d.z7]] w fun e w' => e = .returned (ansB (some zB)) ∧ Below w.heap.size w w' := by
  go_enter Try.func150, Try.ntmps150
  go_wp2_with fail
  exact bodyPost_ret (v := .tuple #[.agg #[.int .u8 0, .int .u8 0, .int .u8 0, .int .u8 0, .int .u8 0, .int .u8 0, .int .u8 0, .int .u8 0], .bool true]) (by simp [results, Try.results150, go_sem]) rfl ⟨rfl, (((below_alloc _ _).alloc (by simp) _).alloc (by simp; omega) _)⟩

set_option maxHeartbeats 2000000 in
set_option maxRecDepth 100000 in
theorem hear_literal (q : Pk) (w : World) :
    Calls Try.prog 155 #[.agg #[], .agg #[.int .i64 q.at_, .int .i64 q.kind, .int .i64 q.from_, .int .u8 q.d.z0, .int .u8 q.d.z1, .int .u8 q.d.z2, .int .u8 q.d.z3, .int .u8 q.d.z4, .int .u8 q.d.z5, .int .u8 q.d.z6, .int .u8 q.d.z7]] w fun e w' => e = .returned (ansB (some q.d)) ∧ Below w.heap.size w w' := by
  go_enter Try.func155, Try.ntmps155
  go_wp2_with fail
  exact bodyPost_ret (v := .tuple #[.agg #[.int .u8 q.d.z0, .int .u8 q.d.z1, .int .u8 q.d.z2, .int .u8 q.d.z3, .int .u8 q.d.z4, .int .u8 q.d.z5, .int .u8 q.d.z6, .int .u8 q.d.z7], .bool true]) (by simp [results, Try.results155, go_sem]) rfl ⟨rfl, (((below_alloc _ _).alloc (by simp) _).alloc (by simp; omega) _)⟩

set_option maxHeartbeats 2000000 in
set_option maxRecDepth 100000 in
theorem hear_listed (q : Pk) (a : Option Addr) (n c : Nat) (l : List B8) (w : World) (hl : BL w a n l) :
    Calls Try.prog 152 #[.slice a n c, .agg #[.int .i64 q.at_, .int .i64 q.kind, .int .i64 q.from_, .int .u8 q.d.z0, .int .u8 q.d.z1, .int .u8 q.d.z2, .int .u8 q.d.z3, .int .u8 q.d.z4, .int .u8 q.d.z5, .int .u8 q.d.z6, .int .u8 q.d.z7]] w fun e w' => e = .returned (ansB (Mx.atI l q.from_)) ∧ Below w.heap.size w w' := by
  have hlen : n ≤ maxLen := hl.2.2.1
  unfold maxLen at hlen
  have HL := hide hl
  clear hl
  by_cases hf0 : q.from_ < 0
  · have HS := hide (Mx.atI_none (l := l) (i := q.from_) (.inl hf0))
    have hd0 : decide (q.from_ < 0) = true := by simpa using hf0
    go_enter Try.func152, Try.ntmps152
    go_wp2_with fail
    exact bodyPost_ret (v := .tuple #[.agg #[.int .u8 0, .int .u8 0, .int .u8 0, .int .u8 0, .int .u8 0, .int .u8 0, .int .u8 0, .int .u8 0], .bool false]) (by simp [results, Try.results152, go_sem]) rfl ⟨by rw [HS.out] <;> rfl, ((below_alloc _ _).alloc (by simp) _)⟩
  · have hd0 : decide (q.from_ < 0) = false := by simpa using hf0
    by_cases hf1 : (n : Int) ≤ q.from_
    · have HS := hide (Mx.atI_none (l := l) (i := q.from_) (.inr (by rw [HL.out.1]; exact hf1)))
      have hd1 : decide ((n : Int) ≤ q.from_) = true := by simpa using hf1
      go_enter Try.func152, Try.ntmps152
      go_wp2_with fail
      exact bodyPost_ret (v := .tuple #[.agg #[.int .u8 0, .int .u8 0, .int .u8 0, .int .u8 0, .int .u8 0, .int .u8 0, .int .u8 0, .int .u8 0], .bool false]) (by simp [results, Try.results152, go_sem]) rfl ⟨by rw [HS.out] <;> rfl, ((below_alloc _ _).alloc (by simp) _)⟩
    · have hd1 : decide ((n : Int) ≤ q.from_) = false := by simpa using hf1
      obtain ⟨k, hk⟩ : ∃ k : Nat, q.from_ = k := ⟨q.from_.toNat, by omega⟩
      obtain ⟨b, off, y, rfl, hb, hy, e0, e1, e2, e3, e4, e5, e6, e7⟩ := HL.out.at_ k (by omega)
      have HS := hide (show Mx.atI l (k : Int) = some y from Mx.atI_some rfl hy)
      have hkn : (k : Int) < n := by omega
      rw [hk] at hd0 hd1 ⊢
      clear hk hf0 hf1
      go_enter Try.func152, Try.ntmps152
      go_wp2_with fail
      exact bodyPost_ret (v := .tuple #[.agg #[.int .u8 y.z0, .int .u8 y.z1, .int .u8 y.z2, .int .u8 y.z3, .int .u8 y.z4, .int .u8 y.z5, .int .u8 y.z6, .int .u8 y.z7], .bool true]) (by simp [results, Try.results152, go_sem]) rfl ⟨by rw [HS.out] <;> rfl, ((below_alloc _ _).alloc (by simp) _)⟩
end Go.Proofs.Ytpjgliocancgeac

/-
  Packets that may be, as the program asks it (checkPackets).
-/
namespace Go.Proofs.Ytpjgliocancgeac
open Go.RowKit

set_option maxHeartbeats 2000000 in
set_option maxRecDepth 100000 in
theorem checkPackets_any (a : Option Addr) (m c : Nat) (qs : List Pk) (n : Nat) (w : World) (hp : QL w a m qs) (hn : n ≤ 1000) :
    Calls Try.prog 81 #[.slice a m c, .int .i64 (n : Int)] w fun e w' => e = .returned (errV (Mx.qE n qs)) ∧ Below w.heap.size w w' := by
  have hlen : m ≤ maxLen := hp.2.2.1
  unfold maxLen at hlen
  have HP := hide hp
  have HN := hide hp.1
  clear hp
  go_enter Try.func81, Try.ntmps81
  go_wp2_with fail
  go_loopw [12] (fun t wr => ∃ k : Nat, k ≤ m ∧ t = .int .i64 (k : Int) ∧ Hid (Mx.qTo n qs k) ∧ Hid (Bx wr w.heap.size #[.int .i64 (Mx.qNext qs k), .int .i64 (n : Int)] 196) ∧ Hid (Below w.heap.size w wr)) (fun t _ => m - (intOf t).toNat)
  case atStart => exact ⟨0, by omega, rfl, Mx.qTo_zero _ _, Bx.new _ _ _, below_alloc _ _⟩
  case round =>
    obtain ⟨k, hk, rfl, hR, hX, hB⟩ := hrel
    by_cases hlt : k < m
    · obtain ⟨b, off, p, hab, _, hpk, e0, e1, e2, e3, e4, e5, e6, e7, e8, e9, e10⟩ := (HP.out.later hB.out).at_ k hlt
      subst hab
      have HPK := hide hpk
      have HNX := hide (Mx.qNext_succ hpk)
      have HNN := hide (Mx.qTo_next hR.out)
      obtain ⟨z, hz⟩ : ∃ z : Int, Hid (z = p.at_) := ⟨_, rfl⟩
      obtain ⟨kd, hkd⟩ : ∃ kd : Int, Hid (kd = p.kind) := ⟨_, rfl⟩
      obtain ⟨nx, hnx⟩ : ∃ nx : Int, Hid (nx = Mx.qNext qs k) := ⟨_, rfl⟩
      rw [← hz.out] at e0 HNX
      rw [← hkd.out] at e1
      rw [← hnx.out] at hX HNN
      clear hpk
      obtain ⟨w1, hw1⟩ : ∃ w1 : World, Hid (w1 = wr.alloc (.cells #[.int .i64 z, .int .i64 kd, .int .i64 p.from_, .int .u8 p.d.z0, .int .u8 p.d.z1, .int .u8 p.d.z2, .int .u8 p.d.z3, .int .u8 p.d.z4, .int .u8 p.d.z5, .int .u8 p.d.z6, .int .u8 p.d.z7] 79)) := ⟨_, rfl⟩
      have X1 := hide (show Bx w1 w.heap.size #[.int .i64 nx, .int .i64 (n : Int)] 196 by rw [hw1.out]; exact hX.out.alloc _)
      have P1 := hide (show Bx w1 wr.heap.size #[.int .i64 z, .int .i64 kd, .int .i64 p.from_, .int .u8 p.d.z0, .int .u8 p.d.z1, .int .u8 p.d.z2, .int .u8 p.d.z3, .int .u8 p.d.z4, .int .u8 p.d.z5, .int .u8 p.d.z6, .int .u8 p.d.z7] 79 by rw [hw1.out]; exact Bx.new _ _ _)
      have B1 := hide (show Below w.heap.size w w1 by rw [hw1.out]; exact hB.out.alloc hB.out.size _)
      have hsz := hX.out.lt
      go_wp2_with fail
      rw [← hw1.out]
      by_cases hg : nx ≤ z ∧ z < (n : Int)
      · refine (step_yes w.heap.size nx n z w1 X1.out hg.1 hg.2 (by omega) HNN.out).mono ?_
        rintro e w2 ⟨rfl, rfl⟩
        have X2 := hide (show Bx (w1.setCell ⟨w.heap.size, 0, none⟩ (.int .i64 (z + 1))) w.heap.size #[.int .i64 (Mx.qNext qs (k + 1)), .int .i64 (n : Int)] 196 by rw [HNX.out]; exact X1.out.set 0 _)
        have B2 := hide (B1.out.setCell (p := ⟨w.heap.size, 0, none⟩) (Nat.le_refl w.heap.size) (.int .i64 (z + 1)))
        have P2 := hide (P1.out.other ⟨w.heap.size, 0, none⟩ (.int .i64 (z + 1)) (by show wr.heap.size ≠ w.heap.size; omega))
        obtain ⟨w2, hw2⟩ : ∃ w2 : World, Hid (w2 = w1.setCell ⟨w.heap.size, 0, none⟩ (.int .i64 (z + 1))) := ⟨_, rfl⟩
        rw [← hw2.out] at X2 B2 P2 ⊢
        clear e0 e1 e2 e3 e4 e5 e6 e7 e8 e9 e10
        have c1 : w2.cell? ⟨wr.heap.size, 1, none⟩ = some (.int .i64 kd) := P2.out.cell 1
        by_cases hq : 0 ≤ kd ∧ kd < 4
        · have HR2 := hide (Mx.qTo_succ hR.out HPK.out (by rw [← hnx.out, Mx.qOk, ← hz.out, ← hkd.out]; simp; omega))
          have hd1 : decide (kd < 0) = false := by simp; omega
          have hd2 : decide (4 ≤ kd) = false := by simp; omega
          go_wp2_with fail
          go_roundw
          case rel => exact ⟨k + 1, by omega, by go_num, HR2, X2, B2⟩
          case measure => simp [intOf]; omega
        · have HF := hide (Mx.qE_not HPK.out (by rw [← hnx.out, Mx.qOk, ← hz.out, ← hkd.out]; simp; omega) : Mx.qE n qs = 1)
          by_cases h0 : kd < 0
          · have hd1 : decide (kd < 0) = true := by simpa using h0
            go_wp2_with fail
            go_ret
            exact ⟨by rw [HF.out] <;> rfl, B2.out⟩
          · have hd1 : decide (kd < 0) = false := by simpa using h0
            have hd2 : decide (4 ≤ kd) = true := by simp; omega
            go_wp2_with fail
            go_ret
            exact ⟨by rw [HF.out] <;> rfl, B2.out⟩
      · have HF := hide (Mx.qE_not HPK.out (by rw [← hnx.out, Mx.qOk, ← hz.out, ← hkd.out]; simp; omega) : Mx.qE n qs = 1)
        refine (step_no w.heap.size nx n z w1 X1.out (by omega)).mono ?_
        rintro e w2 ⟨rfl, rfl⟩
        clear e0 e1 e2 e3 e4 e5 e6 e7 e8 e9 e10 hg
        go_wp2_with fail
        go_ret
        exact ⟨by rw [HF.out] <;> rfl, B1.out⟩
    · have HF := hide (Mx.qE_all hR.out (by have := HN.out; omega))
      go_wp2_with fail
      go_ret
      exact ⟨by rw [HF.out] <;> rfl, hB.out⟩
end Go.Proofs.Ytpjgliocancgeac

/-
  Packets applied where something may not be; what was had behind packets (Had).
-/
namespace Go.Proofs.Ytpjgliocancgeac
open Go.RowKit

set_option maxHeartbeats 2000000 in
set_option maxRecDepth 100000 in
theorem apply_err1 (ap a ah : Option Addr) (m cm n c nh ch : Nat) (had : List B8) (w : World) (hh : BL w ah nh had) (hc : nh ≤ ch) (hE : ¬ Mx.pmay n had = 0) :
    Calls Try.prog 34 #[.slice ap m cm, .slice a n c, .slice ah nh ch] w fun e w' => e = .returned (.tuple #[.slice none 0 0, .slice none 0 0, errV (Mx.pmay n had)]) ∧ Below w.heap.size w w' := by
  have HH := hide hh
  obtain ⟨E, hEE⟩ : ∃ E : Int, Hid (E = Mx.pmay n had) := ⟨_, rfl⟩
  have HV := hide (show errV (Mx.pmay n had) = .iface 36 (.int .i64 E) by rw [errV_not hE, hEE.out])
  clear hh hE
  go_enter Try.func34, Try.ntmps34
  go_wp2_with fail
  refine (checkPeer_any a ah n c nh ch had w HH.out hc).mono ?_
  rintro e w1 ⟨rfl, hb1⟩
  rw [HV.out]
  have B1 := hide hb1
  clear hb1
  go_wp2_with fail
  exact bodyPost_ret (v := .tuple #[.slice none 0 0, .slice none 0 0, .iface 36 (.int .i64 E)]) (by simp [results, Try.results34, go_sem]) rfl ⟨by rw [HV.out], B1.out⟩

set_option maxHeartbeats 2000000 in
set_option maxRecDepth 100000 in
theorem apply_err2 (ap a ah : Option Addr) (m cm n c nh ch : Nat) (qs : List Pk) (had : List B8) (w : World) (hp : QL w ap m qs) (hh : BL w ah nh had) (hc : nh ≤ ch) (hn : n ≤ 1000) (h0 : Mx.pmay n had = 0) (hE : ¬ Mx.qE n qs = 0) :
    Calls Try.prog 34 #[.slice ap m cm, .slice a n c, .slice ah nh ch] w fun e w' => e = .returned (.tuple #[.slice none 0 0, .slice none 0 0, errV (Mx.qE n qs)]) ∧ Below w.heap.size w w' := by
  have HH := hide hh
  have HP := hide hp
  obtain ⟨E, hEE⟩ : ∃ E : Int, Hid (E = Mx.qE n qs) := ⟨_, rfl⟩
  have HV := hide (show errV (Mx.qE n qs) = .iface 36 (.int .i64 E) by rw [errV_not hE, hEE.out])
  have H0 := hide (show errV (Mx.pmay n had) = .nilIface by rw [h0]; rfl)
  clear hh hp hE h0
  go_enter Try.func34, Try.ntmps34
  go_wp2_with fail
  refine (checkPeer_any a ah n c nh ch had w HH.out hc).mono ?_
  rintro e w1 ⟨rfl, hb1⟩
  rw [H0.out]
  have B1 := hide hb1
  clear hb1
  go_wp2_with fail
  refine (checkPackets_any ap m cm qs n w1 (HP.out.later B1.out) hn).mono ?_
  rintro e w2 ⟨rfl, hb2⟩
  rw [HV.out]
  have B2 := hide (B1.out.trans (hb2.mono B1.out.size))
  clear hb2
  go_wp2_with fail
  exact bodyPost_ret (v := .tuple #[.slice none 0 0, .slice none 0 0, .iface 36 (.int .i64 E)]) (by simp [results, Try.results34, go_sem]) rfl ⟨by rw [HV.out], B2.out⟩

theorem OwnBL.room {w : World} {base : Nat} {v : Value} {l : List B8} (h : OwnBL w base v l) : ∃ a c, v = .slice a l.length c ∧ l.length ≤ c ∧ BL w a l.length l := by
  obtain ⟨a, c, hv, hc, hr, _⟩ := ownsRow_rowR h
  exact ⟨a, c, hv, hc, rfl, hr⟩

theorem OwnBL.fzn {w : World} {base g n c : Nat} {l : List B8} (h : OwnBL w base (.slice (some ⟨g, 0, none⟩) n c) l) (hn : 0 < n) : g < w.heap.size ∧ base ≤ g ∧ l.length = n ∧ ∀ o, w.frozen? ⟨g, o, none⟩ = false := by
  obtain ⟨g', he, h1, h2, h3, h4⟩ := h.form hn
  cases he
  exact ⟨h2, h1, h3, h4⟩

set_option maxHeartbeats 2000000 in
set_option maxRecDepth 100000 in
theorem had_err (ah ap : Option Addr) (nh ch m cm : Nat) (had : List B8) (w : World) (hh : BL w ah nh had) (hc : nh ≤ ch) (hE : ¬ Mx.hmay had = 0) :
    Calls Try.prog 36 #[.slice ah nh ch, .slice ap m cm] w fun e w' => e = .returned (.tuple #[.slice none 0 0, errV (Mx.hmay had)]) ∧ Below w.heap.size w w' := by
  have HH := hide hh
  obtain ⟨E, hEE⟩ : ∃ E : Int, Hid (E = Mx.hmay had) := ⟨_, rfl⟩
  have HV := hide (show errV (Mx.hmay had) = .iface 36 (.int .i64 E) by rw [errV_not hE, hEE.out])
  clear hh hE
  go_enter Try.func36, Try.ntmps36
  go_wp2_with fail
  refine (ccheck_any ah nh ch had w HH.out hc).mono ?_
  rintro e w1 ⟨rfl, hb1⟩
  rw [HV.out]
  have B1 := hide hb1
  clear hb1
  go_wp2_with fail
  exact bodyPost_ret (v := .tuple #[.slice none 0 0, .iface 36 (.int .i64 E)]) (by simp [results, Try.results36, go_sem]) rfl ⟨by rw [HV.out], B1.out⟩

set_option maxHeartbeats 2000000 in
set_option maxRecDepth 100000 in
theorem had_own (ah ap : Option Addr) (nh ch m cm : Nat) (had : List B8) (qs : List Pk) (w : World) (hh : BL w ah nh had) (hp : QL w ap m qs) (hc : nh ≤ ch) (hE : Mx.hmay had = 0) :
    Calls Try.prog 36 #[.slice ah nh ch, .slice ap m cm] w fun e w' => ∃ a' c', e = .returned (.tuple #[.slice a' (Mx.hadTo had qs).length c', .nilIface]) ∧ Hid (OwnBL w' w.heap.size (.slice a' (Mx.hadTo had qs).length c') (Mx.hadTo had qs)) ∧ Hid (Below w.heap.size w w') := by
  have hlen : m ≤ maxLen := hp.2.2.1
  unfold maxLen at hlen
  have HH := hide hh
  have HP := hide hp
  have H8 := hide (show nh ≤ 8 by have h1 := ((Mx.hmay_iff had).1 hE).1; have h2 := hh.1; omega)
  have HE0 := hide hE
  have HV := hide (show errV (Mx.hmay had) = .nilIface by rw [hE]; rfl)
  clear hh hp hE
  go_enter Try.func36, Try.ntmps36
  go_wp2_with fail
  refine (ccheck_any ah nh ch had w HH.out hc).mono ?_
  rintro e w1 ⟨rfl, hb1⟩
  rw [HV.out]
  have B1 := hide hb1
  clear hb1
  go_wp2_with fail
  refine (cloneB_any ah nh ch had w1 (HH.out.later B1.out) (by have := H8.out; omega)).mono ?_
  rintro e w2 ⟨v2, rfl, ho2, hb2⟩
  have B2 := hide (B1.out.trans (hb2.mono B1.out.size))
  obtain ⟨a2, c2, rfl, _⟩ := ho2.room
  have L2 := hide (show OwnBL w2 w.heap.size _ had from World.ownsRow.mono ho2 B1.out.size)
  clear hb2 ho2
  go_wp2_with fail
  go_loopw [7, 21] (fun v t wr => ∃ (k r : Nat) (a' : Option Addr) (c' : Nat), k ≤ m ∧ t = .int .i64 (k : Int) ∧ v = .slice a' r c' ∧ Hid (r = (Mx.hadTo had (qs.take k)).length) ∧ Hid (OwnBL wr w.heap.size (.slice a' r c') (Mx.hadTo had (qs.take k))) ∧ Hid (Below w.heap.size w wr)) (fun _ t _ => m - (intOf t).toNat)
  case atStart => exact ⟨0, had.length, a2, c2, by omega, rfl, rfl, hide rfl, L2, B2⟩
  case round =>
    obtain ⟨k, r, a', c', hk, rfl, rfl, hr, hL, hB⟩ := hrel
    by_cases hlt : k < m
    · obtain ⟨b, off, q, rfl, hb, hp, e0, e1, e2, e3, e4, e5, e6, e7, e8, e9, e10⟩ := (HP.out.later hB.out).at_ k hlt
      have HK := hide hp
      clear hp
      have b5 := hide (below_alloc wr (.cells #[.int .i64 q.at_, .int .i64 q.kind, .int .i64 q.from_, .int .u8 q.d.z0, .int .u8 q.d.z1, .int .u8 q.d.z2, .int .u8 q.d.z3, .int .u8 q.d.z4, .int .u8 q.d.z5, .int .u8 q.d.z6, .int .u8 q.d.z7] 79))
      by_cases hkd : q.kind = 3
      · have HE := hide (show Mx.hadTo had (qs.take (k + 1)) = Mx.touched (Mx.hadTo had (qs.take k)) q.d by rw [Mx.hadTo_succ HK.out, if_pos hkd])
        rw [hkd] at e1
        obtain ⟨w5, hw5⟩ : ∃ w5 : World, Hid (w5 = wr.alloc (.cells #[.int .i64 q.at_, .int .i64 3, .int .i64 q.from_, .int .u8 q.d.z0, .int .u8 q.d.z1, .int .u8 q.d.z2, .int .u8 q.d.z3, .int .u8 q.d.z4, .int .u8 q.d.z5, .int .u8 q.d.z6, .int .u8 q.d.z7] 79)) := ⟨_, rfl⟩
        go_wp2_with fail
        rw [← hw5.out]
        rw [hkd, ← hw5.out] at b5
        have L5 := hide (show OwnBL w5 w.heap.size _ (Mx.hadTo had (qs.take k)) from rowKept hL.out b5.out)
        have B5 := hide (hB.out.trans (b5.out.mono hB.out.size))
        clear e0 e1 e2 e3 e4 e5 e6 e7 e8 e9 e10 b5
        obtain ⟨ax, cx, hvx, hrc, hLx⟩ := L5.out.room
        rw [← hr.out] at hvx hrc hLx
        obtain ⟨rfl, rfl⟩ : a' = ax ∧ c' = cx := by simpa using hvx
        refine (touch_any a' r c' (Mx.hadTo had (qs.take k)) q.d w5 hLx hrc (Mx.hadTo_may HE0.out _)).mono ?_
        clear hvx hrc hLx
        rintro e w6 ⟨g6, c6, rfl, ho6, hb6⟩
        have B6 := hide (B5.out.trans (hb6.out.mono B5.out.size))
        have L7 := hide (show OwnBL w6 w.heap.size _ (Mx.touched (Mx.hadTo had (qs.take k)) q.d) from World.ownsRow.mono ho6.out B5.out.size)
        clear hb6 ho6
        obtain ⟨T, hT⟩ : ∃ T : Nat, Hid (T = (Mx.touched (Mx.hadTo had (qs.take k)) q.d).length) := ⟨_, rfl⟩
        rw [← hT.out] at L7 ⊢
        go_wp2_with fail
        go_roundw
        case rel => exact ⟨k + 1, T, _, c6, by omega, by go_num, rfl, by rw [HE.out]; exact hT, by rw [HE.out]; exact L7, B6⟩
        case measure => simp [intOf]; omega
      · have HE := hide (show Mx.hadTo had (qs.take (k + 1)) = Mx.hadTo had (qs.take k) by rw [Mx.hadTo_succ HK.out, if_neg hkd])
        have hd3 : (q.kind == 3) = false := by simpa using hkd
        obtain ⟨w5, hw5⟩ : ∃ w5 : World, Hid (w5 = wr.alloc (.cells #[.int .i64 q.at_, .int .i64 q.kind, .int .i64 q.from_, .int .u8 q.d.z0, .int .u8 q.d.z1, .int .u8 q.d.z2, .int .u8 q.d.z3, .int .u8 q.d.z4, .int .u8 q.d.z5, .int .u8 q.d.z6, .int .u8 q.d.z7] 79)) := ⟨_, rfl⟩
        go_wp2_with fail
        rw [← hw5.out]
        rw [← hw5.out] at b5
        have L5 := hide (show OwnBL w5 w.heap.size _ (Mx.hadTo had (qs.take k)) from rowKept hL.out b5.out)
        have B5 := hide (hB.out.trans (b5.out.mono hB.out.size))
        go_roundw
        case rel => exact ⟨k + 1, r, a', c', by omega, by go_num, rfl, by rw [HE.out]; exact hr, by rw [HE.out]; exact L5, B5⟩
        case measure => simp [intOf]; omega
    · have HT := hide (show qs.take k = qs from List.take_of_length_le (by have := HP.out.1; omega))
      go_wp2_with fail
      rw [HT.out] at hr hL
      have hr' := hr.out
      subst hr'
      exact bodyPost_ret (v := .tuple #[.slice a' (Mx.hadTo had qs).length c', .nilIface]) (by simp [results, Try.results36, go_sem]) rfl ⟨a', c', rfl, hL, hB⟩

theorem had_ok (ah ap : Option Addr) (nh ch m cm : Nat) (had : List B8) (qs : List Pk) (w : World) (hh : BL w ah nh had) (hp : QL w ap m qs) (hc : nh ≤ ch) (hE : Mx.hmay had = 0) :
    Calls Try.prog 36 #[.slice ah nh ch, .slice ap m cm] w fun e w' => ∃ a' c', e = .returned (.tuple #[.slice a' (Mx.hadTo had qs).length c', .nilIface]) ∧ (Mx.hadTo had qs).length ≤ c' ∧ Hid (BL w' a' (Mx.hadTo had qs).length (Mx.hadTo had qs)) ∧ Hid (Below w.heap.size w w') := by
  refine (had_own ah ap nh ch m cm had qs w hh hp hc hE).mono ?_
  rintro e w' ⟨a', c', rfl, hO, hb⟩
  obtain ⟨a2, c2, hv, hr, hl⟩ := hO.out.room
  obtain ⟨rfl, rfl⟩ : a' = a2 ∧ c' = c2 := by simpa using hv
  exact ⟨a', c', rfl, hr, hl, hb⟩
end Go.Proofs.Ytpjgliocancgeac
