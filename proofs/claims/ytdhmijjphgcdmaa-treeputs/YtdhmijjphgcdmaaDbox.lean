/-
  Boxes of memory, copies as a region's calls hand them on, a disk that is being made.
-/
import Derived.Test.YtdhmijjphgcdmaaDclone
import Derived.Deep.RegionHeld
import Derived.Deep.CutRange
import Derived.Deep.DeepCutAuto
import Derived.Deep.Onto
namespace Go.Proofs.Ytdhmijjphgcdmaa
open Go.RowKit

/-- a block of memory, whole -/
def Bx (w : World) (g : Nat) (cs : Array Value) (t : TypeId) : Prop := w.heap[g]? = some (.cells cs t (0, 0))
theorem Bx.new (w : World) (cs : Array Value) (t : TypeId) : Bx (w.alloc (.cells cs t)) w.heap.size cs t := heap_alloc_new w _
theorem Bx.newD (w : World) (cs : Array Value) (t : TypeId) : Bx (w.alloc (.cells cs t)).drew w.heap.size cs t := heap_alloc_new w _
theorem Bx.lt {w : World} {g : Nat} {cs : Array Value} {t : TypeId} (h : Bx w g cs t) : g < w.heap.size := (Array.getElem?_eq_some_iff.1 h).1
theorem Bx.alloc {w : World} {g : Nat} {cs : Array Value} {t : TypeId} (h : Bx w g cs t) (o : Obj) : Bx (w.alloc o) g cs t := (Below.heap_alloc w o g h.lt).trans h
theorem Bx.later {w w' : World} {g B : Nat} {cs : Array Value} {t : TypeId} (h : Bx w g cs t) (hb : Below B w w') (hg : g < B) : Bx w' g cs t := (hb.block g hg).trans h
theorem Bx.cell {w : World} {g : Nat} {cs : Array Value} {t : TypeId} (h : Bx w g cs t) (j : Nat) : w.cell? ⟨g, j, none⟩ = cs[j]? := cell_of_cells h j
theorem Bx.frozen {w : World} {g : Nat} {cs : Array Value} {t : TypeId} (h : Bx w g cs t) (o : Nat) : w.frozen? ⟨g, o, none⟩ = false := by unfold World.frozen?; rw [h]; simp
theorem Bx.set {w : World} {g : Nat} {cs : Array Value} {t : TypeId} (h : Bx w g cs t) (j : Nat) (v : Value) : Bx (w.setCell ⟨g, j, none⟩ v) g (cs.setIfInBounds j v) t := by
  unfold Bx at *
  simp [World.setCell, Array.getElem?_modify, h]
theorem Bx.other {w : World} {g : Nat} {cs : Array Value} {t : TypeId} (h : Bx w g cs t) (p : Addr) (v : Value) (hp : g ≠ p.block) : Bx (w.setCell p v) g cs t := (Below.heap_setCell w p v g hp).trans h
theorem Bx.three {w : World} {g : Nat} {s0 s1 s2 : Value} {t : TypeId} (h : Bx w g #[s0, s1, s2] t) : w.cell? ⟨g, 0, none⟩ = some s0 ∧ w.cell? ⟨g, 1, none⟩ = some s1 ∧ w.cell? ⟨g, 2, none⟩ = some s2 := ⟨h.cell 0, h.cell 1, h.cell 2⟩
theorem Bx.eight {w : World} {g : Nat} {x : B8} {t : TypeId} (h : Bx w g #[.int .u8 x.z0, .int .u8 x.z1, .int .u8 x.z2, .int .u8 x.z3, .int .u8 x.z4, .int .u8 x.z5, .int .u8 x.z6, .int .u8 x.z7] t) :
    w.cell? ⟨g, 0, none⟩ = some (.int .u8 x.z0) ∧ w.cell? ⟨g, 1, none⟩ = some (.int .u8 x.z1) ∧ w.cell? ⟨g, 2, none⟩ = some (.int .u8 x.z2) ∧ w.cell? ⟨g, 3, none⟩ = some (.int .u8 x.z3) ∧
    w.cell? ⟨g, 4, none⟩ = some (.int .u8 x.z4) ∧ w.cell? ⟨g, 5, none⟩ = some (.int .u8 x.z5) ∧ w.cell? ⟨g, 6, none⟩ = some (.int .u8 x.z6) ∧ w.cell? ⟨g, 7, none⟩ = some (.int .u8 x.z7) :=
  ⟨h.cell 0, h.cell 1, h.cell 2, h.cell 3, h.cell 4, h.cell 5, h.cell 6, h.cell 7⟩

/-- what lies below is as it was: as rules for the walk -/
theorem Below.keeps {W w' : World} (h : Below W.heap.size W w') : (∀ k j, k < W.heap.size → w'.cell? ⟨k, j, none⟩ = W.cell? ⟨k, j, none⟩) ∧ (∀ k j, k < W.heap.size → w'.frozen? ⟨k, j, none⟩ = W.frozen? ⟨k, j, none⟩) ∧ ∀ k, k < W.heap.size → k < w'.heap.size :=
  ⟨fun k j hk => h.cell (p := ⟨k, j, none⟩) hk, fun k j hk => by unfold World.frozen?; rw [show w'.heap[k]? = W.heap[k]? from h.block k hk], fun k hk => Nat.lt_of_lt_of_le hk h.size⟩

/-- what a call hands on to the rest of a region: all that was there is as it was; the disk's box, and the box that is being made -/
def Past (w1 w w' : World) : Prop := Below w1.heap.size w1 w' ∧ Below w.heap.size w w'
def DC (w : World) (g : Nat) (s0 s1 s2 : Value) : Prop := w.cell? ⟨g, 0, none⟩ = some s0 ∧ w.cell? ⟨g, 1, none⟩ = some s1 ∧ w.cell? ⟨g, 2, none⟩ = some s2 ∧ g < w.heap.size ∧ ∀ o, w.frozen? ⟨g, o, none⟩ = false
theorem Bx.dc {w : World} {g : Nat} {s0 s1 s2 : Value} {t : TypeId} (h : Bx w g #[s0, s1, s2] t) : DC w g s0 s1 s2 := ⟨h.cell 0, h.cell 1, h.cell 2, h.lt, h.frozen⟩

/-- the disk's box lies, and all that was there -/
abbrev Held (w1 : World) (g : Nat) (s0 s1 s2 : Value) (w' : World) : Prop := w'.cell? ⟨g, 0, none⟩ = some s0 ∧ w'.cell? ⟨g, 1, none⟩ = some s1 ∧ w'.cell? ⟨g, 2, none⟩ = some s2 ∧ Below w1.heap.size w1 w'
theorem Held.of {w1 w' : World} {g : Nat} {s0 s1 s2 : Value} {t : TypeId} (hd : Bx w1 g #[s0, s1, s2] t) (h : Below w1.heap.size w1 w') : Held w1 g s0 s1 s2 w' := by
  obtain ⟨h0, h1, h2⟩ := (hd.later h hd.lt).three
  exact ⟨h0, h1, h2, h⟩
theorem Held.alloc {w1 w' : World} {g : Nat} {s0 s1 s2 : Value} {t : TypeId} (hd : Bx w1 g #[s0, s1, s2] t) (h : Held w1 g s0 s1 s2 w') (o : Obj) : Held w1 g s0 s1 s2 (w'.alloc o) := Held.of hd (h.2.2.2.alloc h.2.2.2.size o)
theorem Held.drew {w1 : World} {g : Nat} {s0 s1 s2 : Value} {t : TypeId} (hd : Bx w1 g #[s0, s1, s2] t) : Held w1 g s0 s1 s2 w1.drew := Held.of hd (Below.refl _ _).drew
theorem Held.set {w1 w' : World} {g : Nat} {s0 s1 s2 : Value} {t : TypeId} (hd : Bx w1 g #[s0, s1, s2] t) (h : Held w1 g s0 s1 s2 w') (p : Addr) (hp : w1.heap.size ≤ p.block) (v : Value) : Held w1 g s0 s1 s2 (w'.setCell p v) := Held.of hd (h.2.2.2.setCell hp v)

theorem cloneB_at {w1 : World} {g : Nat} {s0 s1 s2 : Value} {t : TypeId} (a : Option Addr) (n c : Nat) (l : List B8) (w : World) (hl : BL w1 a n l) (hn : n ≤ 1000000) (hd : Bx w1 g #[s0, s1, s2] t) (hb : Below w1.heap.size w1 w) :
    Calls Try.prog 72 #[.slice a n c] w fun e w' => ∃ a' c', e = .returned (.slice a' n c') ∧ Hid (OwnBL w' w.heap.size (.slice a' n c') l) ∧ Hid (Past w1 w w') ∧ DC w' g s0 s1 s2 := by
  refine (cloneB_any a n c l w (hl.later hb) hn).mono ?_
  rintro e w' ⟨v, rfl, ho, hb'⟩
  obtain ⟨a', c', hv, _⟩ := ownsRow_rowR ho
  rw [hl.1] at hv
  subst hv
  have h2 := hb.trans (hb'.mono hb.size)
  exact ⟨a', c', rfl, ho, ⟨h2, hb'⟩, (hd.later h2 hd.lt).dc⟩
theorem cloneB_at2 {w1 : World} {g g' : Nat} {s0 s1 s2 s0' s1' s2' : Value} {t t' : TypeId} (a : Option Addr) (n c : Nat) (l : List B8) (w : World) (hl : BL w1 a n l) (hn : n ≤ 1000000) (hd : Bx w1 g #[s0, s1, s2] t) (hx : Bx w g' #[s0', s1', s2'] t') (hge : w1.heap.size ≤ g') (hb : Below w1.heap.size w1 w) :
    Calls Try.prog 72 #[.slice a n c] w fun e w' => ∃ a' c', e = .returned (.slice a' n c') ∧ Hid (OwnBL w' w.heap.size (.slice a' n c') l) ∧ Hid (Past w1 w w') ∧ DC w' g s0 s1 s2 ∧ Hid (Bx w' g' #[s0', s1', s2'] t') ∧ w1.heap.size ≤ g' ∧ DC w' g' s0' s1' s2' := by
  refine (cloneB_at a n c l w hl hn hd hb).mono ?_
  rintro e w' ⟨a', c', rfl, ho, hp, hdc⟩
  have h := hx.later hp.2 hx.lt
  exact ⟨a', c', rfl, ho, hp, hdc, h, hge, h.dc⟩

theorem cloneP_at {w1 : World} {g : Nat} {s0 s1 s2 : Value} {t : TypeId} (a : Option Addr) (n c : Nat) (l : List Pt) (w : World) (hl : PL w1 a n l) (hn : n ≤ 1000000) (hd : Bx w1 g #[s0, s1, s2] t) (hb : Below w1.heap.size w1 w) :
    Calls Try.prog 73 #[.slice a n c] w fun e w' => ∃ a' c', e = .returned (.slice a' n c') ∧ Hid (OwnPL w' w.heap.size (.slice a' n c') l) ∧ Hid (Past w1 w w') ∧ DC w' g s0 s1 s2 := by
  refine (cloneP_any a n c l w (hl.later hb) hn).mono ?_
  rintro e w' ⟨v, rfl, ho, hb'⟩
  obtain ⟨a', c', hv, _⟩ := ownsRow_rowR ho
  rw [hl.1] at hv
  subst hv
  have h2 := hb.trans (hb'.mono hb.size)
  exact ⟨a', c', rfl, ho, ⟨h2, hb'⟩, (hd.later h2 hd.lt).dc⟩
theorem cloneP_at2 {w1 : World} {g g' : Nat} {s0 s1 s2 s0' s1' s2' : Value} {t t' : TypeId} (a : Option Addr) (n c : Nat) (l : List Pt) (w : World) (hl : PL w1 a n l) (hn : n ≤ 1000000) (hd : Bx w1 g #[s0, s1, s2] t) (hx : Bx w g' #[s0', s1', s2'] t') (hge : w1.heap.size ≤ g') (hb : Below w1.heap.size w1 w) :
    Calls Try.prog 73 #[.slice a n c] w fun e w' => ∃ a' c', e = .returned (.slice a' n c') ∧ Hid (OwnPL w' w.heap.size (.slice a' n c') l) ∧ Hid (Past w1 w w') ∧ DC w' g s0 s1 s2 ∧ Hid (Bx w' g' #[s0', s1', s2'] t') ∧ w1.heap.size ≤ g' ∧ DC w' g' s0' s1' s2' := by
  refine (cloneP_at a n c l w hl hn hd hb).mono ?_
  rintro e w' ⟨a', c', rfl, ho, hp, hdc⟩
  have h := hx.later hp.2 hx.lt
  exact ⟨a', c', rfl, ho, hp, hdc, h, hge, h.dc⟩

theorem cell_newsP (w : World) (p : Pt) (t : TypeId) :
    ∀ j u, (flatP [p])[j]? = some u → (w.alloc (.cells #[.int .i64 p.at_, .int .u8 p.d.z0, .int .u8 p.d.z1, .int .u8 p.d.z2, .int .u8 p.d.z3, .int .u8 p.d.z4, .int .u8 p.d.z5, .int .u8 p.d.z6, .int .u8 p.d.z7] t)).cell? ((⟨w.heap.size, 0, none⟩ : Addr).add j) = some u := by
  intro j u hj
  have hadd : (⟨w.heap.size, 0, none⟩ : Addr).add j = ⟨w.heap.size, j, none⟩ := by unfold Addr.add; split <;> simp_all
  rw [hadd, World.cell?_alloc_new]
  simpa [flatP, Pt.cs] using hj

/-- one put more -/
theorem wpList_append_put {w : World} {ops : Array Oper} {rest : List Oper} {o : Oper} {a : Act} {Q : Exit → Act → World → Prop} (hgd : o.guard = none) (s x : Operand)
    (ho : o.op = .call { callee := .builtin .append, args := #[s, x], argTypes := #[48, 48] }) (base : Nat) (l : List Pt) (hown : OwnPL w base (a.eval s) l)
    (p : Pt) (hx : a.eval x = .slice (some ⟨w.heap.size, 0, none⟩) 1 1) (h63 : l.length ≤ 1000000) (hbase : base ≤ w.heap.size)
    (h : ∀ ad c w', OwnPL w' base (.slice (some ad) (l.length + 1) c) (l ++ [p]) → w.grownBy w' (a.eval s).ownBlock → wpList Try.prog ops Q rest (a.put o.dst (.slice (some ad) (l.length + 1) c)) w') :
    wpList Try.prog ops Q (o :: rest) a (w.alloc (.cells #[.int .i64 p.at_, .int .u8 p.d.z0, .int .u8 p.d.z1, .int .u8 p.d.z2, .int .u8 p.d.z3, .int .u8 p.d.z4, .int .u8 p.d.z5, .int .u8 p.d.z6, .int .u8 p.d.z7] 58)) := by
  obtain ⟨i0, hi, hz0, hz1, hz2⟩ := info_parts Try.info58
  refine wpList_append_own _ hgd s x 48 ho base 58 i0 _ 9 16 Try.underlying48 hi hz0 hz1 hz2 rfl (by decide) (a.eval s) l.length (flatP l) rfl (World.ownsRow.alloc hown _) ⟨w.heap.size, 0, none⟩ 1 1 (flatP [p]) hx (by simp [flatP, Pt.cs]) (cell_newsP w p 58) flatP_one (by unfold maxLen; omega) (by omega) (by simp; omega) ?_
  intro v' w' hown' hg _
  have hI : OwnPL w' base v' (l ++ [p]) := by
    unfold OwnPL
    rw [List.length_append, flatP, List.flatMap_append]
    exact hown'
  have hg' : w.grownBy w' (a.eval s).ownBlock := ⟨hg.os, hg.tape, hg.output, by have := hg.size; simp at this; omega, fun k hk hne => (hg.block k (by simp; omega) hne).trans (Below.heap_alloc w _ k hk)⟩
  rcases hown'.2 with ⟨_, hz⟩ | ⟨g, cap, cur, rfl, hbg, _⟩
  · simp at hz
  · exact h _ _ w' hI hg'

theorem ownsRow_other {w : World} {base e size : Nat} {v : Value} {n : Nat} {xs : List Value} (h : w.ownsRow base e size v n xs) (p : Addr) (u : Value) (hne : v.ownBlock ≠ some p.block) : (w.setCell p u).ownsRow base e size v n xs := by
  refine ⟨h.1, ?_⟩
  rcases h.2 with h | ⟨g, cap, cur, hv, hb, hh, rest⟩
  · exact .inl h
  · exact .inr ⟨g, cap, cur, hv, hb, (Below.heap_setCell w p u g (fun e => hne (by rw [hv]; exact congrArg some e))).trans hh, rest⟩

theorem own_ne_bx {w : World} {base e size g : Nat} {v : Value} {n : Nat} {xs : List Value} {cs : Array Value} {t : TypeId} (h : w.ownsRow base e size v n xs) (hb : Bx w g cs t) (hne : e ≠ t) : v.ownBlock ≠ some g := by
  rcases h.2 with ⟨hv, _⟩ | ⟨g', cap, cur, hv, _, hh, _⟩
  · rw [hv]
    simp [Value.ownBlock]
  · rw [hv]
    intro e'
    have e2 : g' = g := Option.some.inj e'
    subst e2
    rw [hb] at hh
    cases hh
    exact hne rfl

/-- a disk that is being made: its box, its rows -/
def Made (w1 wf : World) (gn : Nat) (v1 v2 s2 : Value) (ls : List B8) (ps : List Pt) : Prop :=
  Bx wf gn #[v1, v2, s2] 50 ∧ OwnBL wf w1.heap.size v1 ls ∧ OwnPL wf w1.heap.size v2 ps ∧ Below w1.heap.size w1 wf ∧ w1.heap.size ≤ gn ∧ v1.ownBlock ≠ some gn ∧ v2.ownBlock ≠ some gn ∧ ∀ g, v1.ownBlock = some g → v2.ownBlock ≠ some g

theorem made_set {w1 wX : World} {gn : Nat} {v1 v2 s2 z0 z1 z2 : Value} {ls : List B8} {ps : List Pt} (hx : Bx wX gn #[z0, z1, z2] 50) (h1 : OwnBL wX w1.heap.size v1 ls) (h2 : OwnPL wX w1.heap.size v2 ps) (hb : Below w1.heap.size w1 wX) (hge : w1.heap.size ≤ gn)
    (n1 : v1.ownBlock ≠ some gn) (n2 : v2.ownBlock ≠ some gn) (d : ∀ g, v1.ownBlock = some g → v2.ownBlock ≠ some g) :
    Made w1 (((wX.setCell ⟨gn, 0, none⟩ v1).setCell ⟨gn, 1, none⟩ v2).setCell ⟨gn, 2, none⟩ s2) gn v1 v2 s2 ls ps :=
  ⟨((hx.set 0 v1).set 1 v2).set 2 s2, ownsRow_other (ownsRow_other (ownsRow_other h1 _ _ n1) _ _ n1) _ _ n1, ownsRow_other (ownsRow_other (ownsRow_other h2 _ _ n2) _ _ n2) _ _ n2,
    ((hb.setCell (p := ⟨gn, 0, none⟩) hge v1).setCell (p := ⟨gn, 1, none⟩) hge v2).setCell (p := ⟨gn, 2, none⟩) hge s2, hge, n1, n2, d⟩

theorem made1 {w1 wB wX : World} {v1 v2 s2 : Value} {ls : List B8} {ps : List Pt} {W : World} (hW : w1.heap.size ≤ W.heap.size) (hoB : OwnBL wB W.heap.size v1 ls) (hoP : OwnPL wX wB.heap.size v2 ps) (hbP : Past w1 wB wX) (hbB : Past w1 W wB) :
    Made w1 (wX.alloc (.cells #[v1, v2, s2] 50)) wX.heap.size v1 v2 s2 ls ps := by
  have b1 := World.ownsRow.lt hoB
  have b2 := World.ownsRow.lt hoP
  have e1 := hbP.2.size
  have e2 := hbB.1.size
  refine ⟨Bx.new _ _ _, World.ownsRow.alloc (rowKept (World.ownsRow.mono hoB hW) hbP.2) _, World.ownsRow.alloc (World.ownsRow.mono hoP e2) _, hbP.1.alloc hbP.1.size _, hbP.1.size, fun e => ?_, fun e => ?_, fun g e1 e2 => ?_⟩
  · have := (b1 _ e).2; omega
  · have := (b2 _ e).2; omega
  · have := (b1 _ e1).2; have := (b2 _ e2).1; omega

theorem made2 {w1 wB wX : World} {v1 v2 s2 z0 z1 z2 : Value} {ls : List B8} {ps : List Pt} {W : World} (hW : w1.heap.size ≤ W.heap.size) (hoB : OwnBL wB W.heap.size v1 ls) (hbB : Past w1 W wB) (hoP : OwnPL wX (wB.alloc (.cells #[z0, z1, z2] 50)).heap.size v2 ps) (hbP : Past w1 (wB.alloc (.cells #[z0, z1, z2] 50)) wX) :
    Made w1 (((wX.setCell ⟨wB.heap.size, 0, none⟩ v1).setCell ⟨wB.heap.size, 1, none⟩ v2).setCell ⟨wB.heap.size, 2, none⟩ s2) wB.heap.size v1 v2 s2 ls ps := by
  have b1 := World.ownsRow.lt hoB
  have b2 := World.ownsRow.lt hoP
  have e1 := hbP.2.size
  have e2 := hbB.1.size
  simp only [World.size_alloc] at b2 e1
  refine made_set ((Bx.new wB #[z0, z1, z2] 50).later hbP.2 (by simp)) (rowKept (World.ownsRow.alloc (World.ownsRow.mono hoB hW) _) hbP.2) (World.ownsRow.mono hoP (by simp; omega)) hbP.1 e2 (fun e => ?_) (fun e => ?_) (fun g e1 e2 => ?_)
  · have := (b1 _ e).2; omega
  · have := (b2 _ e).1; omega
  · have := (b1 _ e1).2; have := (b2 _ e2).1; omega

theorem made3 {w1 wB wX : World} {v1 v2 s2 z0 z1 z2 : Value} {ls : List B8} {ps : List Pt} (hoB : OwnBL wB (w1.alloc (.cells #[z0, z1, z2] 50)).drew.heap.size v1 ls) (hbB : Past w1 (w1.alloc (.cells #[z0, z1, z2] 50)).drew wB) (hoP : OwnPL wX wB.heap.size v2 ps) (hbP : Past w1 wB wX) :
    Made w1 (((wX.setCell ⟨w1.heap.size, 0, none⟩ v1).setCell ⟨w1.heap.size, 1, none⟩ v2).setCell ⟨w1.heap.size, 2, none⟩ s2) w1.heap.size v1 v2 s2 ls ps := by
  have b1 := World.ownsRow.lt hoB
  have b2 := World.ownsRow.lt hoP
  have e1 := hbP.2.size
  have e2 := hbB.2.size
  have e3 : (w1.alloc (.cells #[z0, z1, z2] 50)).drew.heap.size = w1.heap.size + 1 := World.size_alloc _ _
  rw [e3] at b1 e2
  refine made_set (((Bx.newD w1 #[z0, z1, z2] 50).later hbB.2 (by rw [e3]; omega)).later hbP.2 (by omega)) (rowKept (World.ownsRow.mono hoB (by rw [e3]; omega)) hbP.2) (World.ownsRow.mono hoP (by omega)) hbP.1 (Nat.le_refl _) (fun e => ?_) (fun e => ?_) (fun g e1 e2 => ?_)
  · have := (b1 _ e).1; omega
  · have := (b2 _ e).1; omega
  · have := (b1 _ e1).2; have := (b2 _ e2).1; omega


theorem set8_list {α : Type} (L : List α) (o : Nat) (a0 a1 a2 a3 a4 a5 a6 a7 : α) (h : o + 8 ≤ L.length) :
    (((((((L.set o a0).set (o + 1) a1).set (o + 2) a2).set (o + 3) a3).set (o + 4) a4).set (o + 5) a5).set (o + 6) a6).set (o + 7) a7 = L.take o ++ [a0, a1, a2, a3, a4, a5, a6, a7] ++ L.drop (o + 8) := by
  have hL : L = L.take o ++ ((L.drop o).take 8 ++ L.drop (o + 8)) := by
    rw [show L.drop (o + 8) = (L.drop o).drop 8 by rw [List.drop_drop], List.take_append_drop, List.take_append_drop]
  have hl : (L.take o).length = o := by rw [List.length_take]; omega
  have h8 : ((L.drop o).take 8).length = 8 := by rw [List.length_take, List.length_drop]; omega
  generalize L.take o = A at *
  generalize (L.drop o).take 8 = B at *
  generalize L.drop (o + 8) = C at *
  match B, h8 with
  | [b0, b1, b2, b3, b4, b5, b6, b7], _ =>
    subst hL
    subst hl
    have e := fun (X : List α) (i : Nat) (v : α) => List.set_append_right (s := A) (t := X) (A.length + i) v (by omega)
    have e0 := fun (X : List α) (v : α) => List.set_append_right (s := A) (t := X) A.length v (Nat.le_refl _)
    simp only [Nat.add_sub_cancel_left, Nat.sub_self] at e e0
    simp only [e, e0, List.cons_append, List.nil_append, List.set_cons_zero, List.set_cons_succ, List.append_assoc]

/-- a block stored into a row: its eight cells -/
def set8 (w : World) (g o : Nat) (x : B8) : World :=
  (((((((w.setCell ⟨g, o, none⟩ (.int .u8 x.z0)).setCell ⟨g, o + 1, none⟩ (.int .u8 x.z1)).setCell ⟨g, o + 2, none⟩ (.int .u8 x.z2)).setCell ⟨g, o + 3, none⟩ (.int .u8 x.z3)).setCell ⟨g, o + 4, none⟩ (.int .u8 x.z4)).setCell ⟨g, o + 5, none⟩ (.int .u8 x.z5)).setCell ⟨g, o + 6, none⟩ (.int .u8 x.z6)).setCell ⟨g, o + 7, none⟩ (.int .u8 x.z7)

theorem OwnBL.put {w : World} {base g n cap : Nat} {l : List B8} (h : OwnBL w base (.slice (some ⟨g, 0, none⟩) n cap) l) (j : Nat) (hj : j < l.length) (x : B8) : OwnBL (set8 w g (j * 8) x) base (.slice (some ⟨g, 0, none⟩) n cap) (l.set j x) := by
  rcases h.2 with ⟨hv, _⟩ | ⟨g', cap', cur, hv, hb, hh, hle, hmx, hcs, htk⟩
  · cases hv
  · simp only [Value.slice.injEq, Option.some.injEq, Addr.mk.injEq, and_true] at hv
    obtain ⟨rfl, hn, rfl⟩ := hv
    have hbx : Bx w g cur 52 := hh
    have h8 := (((((((hbx.set (j * 8) (.int .u8 x.z0)).set (j * 8 + 1) (.int .u8 x.z1)).set (j * 8 + 2) (.int .u8 x.z2)).set (j * 8 + 3) (.int .u8 x.z3)).set (j * 8 + 4) (.int .u8 x.z4)).set (j * 8 + 5) (.int .u8 x.z5)).set (j * 8 + 6) (.int .u8 x.z6)).set (j * 8 + 7) (.int .u8 x.z7)
    refine ⟨by rw [flatB_len, List.length_set], .inr ⟨g, cap, _, by rw [List.length_set, hn], hb, h8, by rw [List.length_set]; omega, hmx, by simpa using hcs, ?_⟩⟩
    have hf : flatB (l.set j x) = (flatB l).take (j * 8) ++ x.cs ++ (flatB l).drop (j * 8 + 8) := flatMap_set B8.cs 8 (fun _ => rfl) l j x hj
    simp only [Array.toList_setIfInBounds, List.take_set]
    rw [List.length_set, htk, set8_list (flatB l) (j * 8) _ _ _ _ _ _ _ _ (by rw [flatB_len]; omega), hf]
    rfl

theorem set8_below {B g : Nat} {w w' : World} (h : Below B w w') (hg : B ≤ g) (o : Nat) (x : B8) : Below B w (set8 w' g o x) :=
  (((((((h.setCell (p := ⟨g, o, none⟩) hg _).setCell (p := ⟨g, o + 1, none⟩) hg _).setCell (p := ⟨g, o + 2, none⟩) hg _).setCell (p := ⟨g, o + 3, none⟩) hg _).setCell (p := ⟨g, o + 4, none⟩) hg _).setCell (p := ⟨g, o + 5, none⟩) hg _).setCell (p := ⟨g, o + 6, none⟩) hg _).setCell (p := ⟨g, o + 7, none⟩) hg _

theorem set8_other {w : World} {g o k : Nat} (hk : k ≠ g) (x : B8) : (set8 w g o x).heap[k]? = w.heap[k]? := by
  unfold set8
  rw [Below.heap_setCell _ _ _ _ hk, Below.heap_setCell _ _ _ _ hk, Below.heap_setCell _ _ _ _ hk, Below.heap_setCell _ _ _ _ hk, Below.heap_setCell _ _ _ _ hk, Below.heap_setCell _ _ _ _ hk, Below.heap_setCell _ _ _ _ hk, Below.heap_setCell _ _ _ _ hk]

theorem Bx.set8 {w : World} {g k : Nat} {cs : Array Value} {t : TypeId} (h : Bx w k cs t) (hk : k ≠ g) (o : Nat) (x : B8) : Bx (set8 w g o x) k cs t := (set8_other hk x).trans h

theorem OwnBL.form {w : World} {base n c : Nat} {a : Option Addr} {l : List B8} (h : OwnBL w base (.slice a n c) l) (hn : 0 < n) : ∃ g, a = some ⟨g, 0, none⟩ ∧ base ≤ g ∧ g < w.heap.size ∧ l.length = n ∧ ∀ o, w.frozen? ⟨g, o, none⟩ = false := by
  rcases h.2 with ⟨hv, _⟩ | ⟨g, cap, cur, hv, hb, hh, _⟩
  · simp only [Value.slice.injEq] at hv
    omega
  · simp only [Value.slice.injEq] at hv
    obtain ⟨rfl, rfl, rfl⟩ := hv
    exact ⟨g, rfl, hb, (Array.getElem?_eq_some_iff.1 hh).1, rfl, fun o => (show Bx w g cur 52 from hh).frozen o⟩

theorem OwnBL.at_ {w : World} {base g n c : Nat} {l : List B8} (h : OwnBL w base (.slice (some ⟨g, 0, none⟩) n c) l) (k : Nat) (hk : k < n) :
    ∃ x : B8, l[k]? = some x ∧ w.cell? ⟨g, k * 8, none⟩ = some (.int .u8 x.z0) ∧ w.cell? ⟨g, k * 8 + 1, none⟩ = some (.int .u8 x.z1) ∧ w.cell? ⟨g, k * 8 + 2, none⟩ = some (.int .u8 x.z2) ∧
      w.cell? ⟨g, k * 8 + 3, none⟩ = some (.int .u8 x.z3) ∧ w.cell? ⟨g, k * 8 + 4, none⟩ = some (.int .u8 x.z4) ∧ w.cell? ⟨g, k * 8 + 5, none⟩ = some (.int .u8 x.z5) ∧
      w.cell? ⟨g, k * 8 + 6, none⟩ = some (.int .u8 x.z6) ∧ w.cell? ⟨g, k * 8 + 7, none⟩ = some (.int .u8 x.z7) := by
  obtain ⟨a, c', hv, hb, _⟩ := h.bl
  simp only [Value.slice.injEq] at hv
  obtain ⟨rfl, rfl, rfl⟩ := hv
  obtain ⟨b, off, x, ha, _, hx, hcs⟩ := hb.at_ k hk
  simp only [Option.some.injEq, Addr.mk.injEq, and_true] at ha
  obtain ⟨rfl, rfl⟩ := ha
  simp only [Nat.zero_add] at hcs
  exact ⟨x, hx, hcs⟩
end Go.Proofs.Ytdhmijjphgcdmaa
