/-
  The document's copy of a disk (OwnDisk), a new disk (New).
-/
import Derived.Test.YtengpogcdnbabaaDbox
import Derived.Deep.RegionLaw
namespace Go.Proofs.Ytengpogcdnbabaa
open Go.RowKit

theorem ownBlocks_at {w1 : World} {g r : Nat} {s0 s1 s2 t0 t1 t2 : Value} {t : TypeId} (a : Option Addr) (n c : Nat) (l : List B8) (w : World) (hl : BL w1 a n l) (hn : n ≤ 1000000) (hd : Bx w1 g #[s0, s1, s2] t) (hr : Bx w1 r #[t0, t1, t2] t) (hb : Below w1.heap.size w1 w) :
    Calls Try.prog 56 #[.slice a n c] w fun e w' => ∃ a' c', e = .returned (.slice a' n c') ∧ Hid (OwnBL w' w.heap.size (.slice a' n c') l) ∧ Hid (Past w1 w w') ∧ DC w' g s0 s1 s2 ∧ DC w' r t0 t1 t2 := by
  refine (ownBlocks_any a n c l w (hl.later hb) hn).mono ?_
  rintro e w' ⟨v, rfl, ho, hb'⟩
  obtain ⟨a', c', hv, _⟩ := ownsRow_rowR ho
  rw [hl.1] at hv
  subst hv
  have h2 := hb.trans (hb'.mono hb.size)
  exact ⟨a', c', rfl, ho, ⟨h2, hb'⟩, (hd.later h2 hd.lt).dc, (hr.later h2 hr.lt).dc⟩
theorem ownBlocks_at2 {w1 : World} {g r g' : Nat} {s0 s1 s2 t0 t1 t2 : Value} {cs : Array Value} {t t' : TypeId} (a : Option Addr) (n c : Nat) (l : List B8) (w : World) (hl : BL w1 a n l) (hn : n ≤ 1000000) (hd : Bx w1 g #[s0, s1, s2] t) (hr : Bx w1 r #[t0, t1, t2] t) (hx : Bx w g' cs t') (hb : Below w1.heap.size w1 w) :
    Calls Try.prog 56 #[.slice a n c] w fun e w' => ∃ a' c', e = .returned (.slice a' n c') ∧ Hid (OwnBL w' w.heap.size (.slice a' n c') l) ∧ Hid (Past w1 w w') ∧ DC w' g s0 s1 s2 ∧ DC w' r t0 t1 t2 ∧ Hid (Bx w' g' cs t') := by
  refine (ownBlocks_at a n c l w hl hn hd hr hb).mono ?_
  rintro e w' ⟨a', c', rfl, ho, hp, hdc, hdr⟩
  exact ⟨a', c', rfl, ho, hp, hdc, hdr, hx.later hp.2 hx.lt⟩

/-- what an append onto the empty list leaves -/
theorem grown_dc {w1 W w' : World} {g r gE : Nat} {s0 s1 s2 t0 t1 t2 : Value} {t : TypeId} (hd : Bx w1 g #[s0, s1, s2] t) (hr : Bx w1 r #[t0, t1, t2] t) (hb : Below w1.heap.size w1 W) (hg : W.grownBy w' (some gE)) (hE : w1.heap.size ≤ gE) : Hid (Below w1.heap.size w1 w') ∧ DC w' g s0 s1 s2 ∧ DC w' r t0 t1 t2 := by
  have h := hb.grown hg hb.size (fun k e => by cases e; exact hE)
  exact ⟨h, (hd.later h hd.lt).dc, (hr.later h hr.lt).dc⟩

/-- append onto an empty list of the call's own, as one step of a region -/
theorem step_append_puts {ops : Array Oper} {o : Oper} {a : Act} {w : World} {K : Act → World → Prop} {Q : Exit → Act → World → Prop} {E : Prop} (hg : o.guard = none) (s x : Operand)
    (hop : o.op = Op.call { callee := Callee.builtin Builtin.append, args := #[s, x], argTypes := #[48, 48] }) (gE : Nat) (hs : a.eval s = .slice (some ⟨gE, 0, none⟩) 0 0) (hE : Bx w gE #[] 58)
    (ad : Addr) (m c : Nat) (ps : List Pt) (hx : a.eval x = .slice (some ad) m c) (hp : PL w (some ad) m ps) (hm : m ≤ 1000000)
    (hK : ∀ a' c' w', OwnPL w' gE (.slice a' m c') ps → w.grownBy w' (some gE) → K (a.put o.dst (.slice a' m c')) w') :
    if Region.wanted o (yielded ops a.tmps) = true then Oper.wp Try.prog o a w K Q else E := by
  have hw : Region.wanted o (yielded ops a.tmps) = true := by simp [Region.wanted, hg]
  rw [if_pos hw]
  obtain ⟨i0, hi, hz0, hz1, hz2⟩ := info_parts Try.info58
  have hown : w.ownsRow gE 58 9 (.slice (some ⟨gE, 0, none⟩) 0 0) 0 [] := ⟨rfl, .inr ⟨gE, 0, #[], rfl, Nat.le_refl _, hE, Nat.le_refl _, Nat.zero_le _, rfl, rfl⟩⟩
  refine wp_append_own w s x 48 hop gE 58 i0 _ 9 16 Try.underlying48 hi hz0 hz1 hz2 rfl (by decide) _ 0 [] hs hown ad m c (flatP ps) hx hp.2.1 ?_ flatP_one (by unfold maxLen; omega) (by omega) (Nat.le_of_lt hE.lt) ?_
  · intro j u hj
    rcases Nat.eq_zero_or_pos m with h | h
    · subst h
      rw [rowR_zero hp.2] at hj
      simp at hj
    · obtain ⟨b, off, hb, hlt, hc⟩ := hp.2.2.2 h
      cases hb
      rw [Addr.add_lit]
      exact hc j u hj
  · intro v' w' hown' hgr _
    have hO : OwnPL w' gE v' ps := by
      unfold OwnPL
      rw [hp.1]
      simpa using hown'
    obtain ⟨a', c', hv, _⟩ := ownsRow_rowR hO
    rw [hp.1] at hv
    subst hv
    exact hK a' c' w' hO hgr

theorem own_own_ne {w : World} {b1 b2 e1 e2 z1 z2 : Nat} {v1 v2 : Value} {n1 n2 : Nat} {xs ys : List Value} (h1 : w.ownsRow b1 e1 z1 v1 n1 xs) (h2 : w.ownsRow b2 e2 z2 v2 n2 ys) (hne : e2 ≠ e1) : ∀ g, v1.ownBlock = some g → v2.ownBlock ≠ some g := by
  intro g hg
  rcases h1.2 with ⟨hv, _⟩ | ⟨g', cap, cur, hv, _, hh, _⟩
  · rw [hv] at hg
    cases hg
  · rw [hv] at hg
    have e : g' = g := Option.some.inj hg
    subst e
    exact own_ne_bx h2 (show Bx w g' cur e1 from hh) hne

/-- the disk's copy, written into the result's box -/
theorem ownD_end {w w1 wP : World} {v1 v2 s2 z0 z1 z2 : Value} {ls : List B8} {ps : List Pt} (hr : Bx w1 (w.heap.size + 1) #[z0, z1, z2] 50) (hb : Below w.heap.size w w1) (hP : Below w1.heap.size w1 wP) (h1 : OwnBL wP w1.heap.size v1 ls) (h2 : OwnPL wP w1.heap.size v2 ps) :
    Bx (((wP.setCell ⟨w.heap.size + 1, 0, none⟩ v1).setCell ⟨w.heap.size + 1, 1, none⟩ v2).setCell ⟨w.heap.size + 1, 2, none⟩ s2) (w.heap.size + 1) #[v1, v2, s2] 50 ∧
    OwnBL (((wP.setCell ⟨w.heap.size + 1, 0, none⟩ v1).setCell ⟨w.heap.size + 1, 1, none⟩ v2).setCell ⟨w.heap.size + 1, 2, none⟩ s2) w.heap.size v1 ls ∧
    OwnPL (((wP.setCell ⟨w.heap.size + 1, 0, none⟩ v1).setCell ⟨w.heap.size + 1, 1, none⟩ v2).setCell ⟨w.heap.size + 1, 2, none⟩ s2) w.heap.size v2 ps ∧
    (∀ g, v1.ownBlock = some g → v2.ownBlock ≠ some g) ∧
    Below w.heap.size w (((wP.setCell ⟨w.heap.size + 1, 0, none⟩ v1).setCell ⟨w.heap.size + 1, 1, none⟩ v2).setCell ⟨w.heap.size + 1, 2, none⟩ s2) := by
  have hx := hr.later hP hr.lt
  have k1 := own_ne_bx h1 hx (by decide)
  have k2 := own_ne_bx h2 hx (by decide)
  have hb2 := hb.trans (hP.mono hb.size)
  exact ⟨((hx.set 0 v1).set 1 v2).set 2 s2, World.ownsRow.mono (ownsRow_other (ownsRow_other (ownsRow_other h1 _ _ k1) _ _ k1) _ _ k1) hb.size, World.ownsRow.mono (ownsRow_other (ownsRow_other (ownsRow_other h2 _ _ k2) _ _ k2) _ _ k2) hb.size, own_own_ne h1 h2 (by decide),
    ((hb2.setCell (p := ⟨w.heap.size + 1, 0, none⟩) (by simp) v1).setCell (p := ⟨w.heap.size + 1, 1, none⟩) (by simp) v2).setCell (p := ⟨w.heap.size + 1, 2, none⟩) (by simp) s2⟩

theorem ownD_1 {w1 wB wP : World} {v1 : Value} {ls : List B8} (hoB : OwnBL wB w1.drew.heap.size v1 ls) (hgP : (wB.alloc (.cells #[] 58)).grownBy wP (some wB.heap.size)) : OwnBL wP w1.heap.size v1 ls :=
  World.ownsRow.kept (World.ownsRow.alloc hoB _) hgP (by
    rcases hb : v1.ownBlock with _ | g
    · exact .inl rfl
    · exact .inr (fun e => by have := (World.ownsRow.lt hoB g hb).2; have e2 := Option.some.inj e; omega))
theorem ownD_2 {w1 wB wP : World} {v1 : Value} {ls : List B8} (hoB : OwnBL wB (w1.alloc (.cells #[] 58)).drew.heap.size v1 ls) (hgP : wB.grownBy wP (some w1.heap.size)) : OwnBL wP w1.heap.size v1 ls := by
  have e3 : (w1.alloc (.cells #[] 58)).drew.heap.size = w1.heap.size + 1 := World.size_alloc _ _
  rw [e3] at hoB
  refine World.ownsRow.mono (World.ownsRow.kept hoB hgP ?_) (by omega)
  rcases hb : v1.ownBlock with _ | g
  · exact .inl rfl
  · exact .inr (fun e => by have := (World.ownsRow.lt hoB g hb).1; have e2 := Option.some.inj e; omega)

end Go.Proofs.Ytengpogcdnbabaa
