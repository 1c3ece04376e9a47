/-
  The range over the puts from the back, for a body that ends the call at the first one of a place.
-/
import Derived.Test.YtengpogcdnbabaaDback
namespace Go.Proofs.Ytengpogcdnbabaa
open Go.RowKit Go.Shelf
attribute [local go_sem] Oper.semAt_some

namespace Mx
/-- what a place holds: the last put there, or else what is safe -/
def readB (ls : List B8) (ps : List Pt) (at_ : Int) : B8 :=
  match ps.reverse.find? (fun p => p.at_ == at_) with
  | some p => p.d
  | none => ls.getD at_.toNat zB
/-- B2's error of a Read -/
def dread (n : Nat) (ps : List Pt) (left at_ : Int) : Int := if dplace n ps at_ = 0 then (if left = 0 then 4 else 0) else dplace n ps at_
end Mx

theorem backTo_snd (ps : List Pt) (k : Nat) (hk : k ≤ ps.length) : (backTo ps k).map Prod.snd = ps.reverse.take k := by
  apply List.ext_getElem?
  intro i
  by_cases h : i < k
  · rw [List.getElem?_take, if_pos h, List.getElem?_reverse (by omega)]
    simp only [backTo, List.map_map, List.getElem?_map, List.getElem?_range h]
    simp [List.getD_eq_getElem?_getD, List.getElem?_eq_getElem (show ps.length - 1 - i < ps.length by omega)]
  · rw [List.getElem?_eq_none (by simp [backTo]; omega), List.getElem?_eq_none (by simp; omega)]

theorem readB_found {ls : List B8} {ps : List Pt} {at_ : Int} {k i : Nat} {pre : List (Nat × Pt)} {p : Pt} (hk : k ≤ ps.length) (h : pre ++ [(i, p)] = backTo ps k) (hp : p.at_ = at_) (hn : ∀ x ∈ pre, x.2.at_ ≠ at_) : Mx.readB ls ps at_ = p.d := by
  have h1 := congrArg (List.map Prod.snd) h
  rw [backTo_snd ps k hk, List.map_append] at h1
  have h2 : ps.reverse = (pre.map Prod.snd ++ [p]) ++ ps.reverse.drop k := by
    have := List.take_append_drop k ps.reverse
    rw [← h1] at this
    simpa using this.symm
  unfold Mx.readB
  rw [h2, List.find?_append, List.find?_append, List.find?_eq_none.2 (by
    intro q hq
    obtain ⟨x, hx, rfl⟩ := List.mem_map.1 hq
    simpa using hn x hx)]
  simp [hp]

theorem readB_none {ls : List B8} {ps : List Pt} {at_ : Int} (hn : ∀ x ∈ backTo ps ps.length, x.2.at_ ≠ at_) : Mx.readB ls ps at_ = ls.getD at_.toNat zB := by
  have h1 := backTo_snd ps ps.length (Nat.le_refl _)
  rw [List.take_of_length_le (by simp)] at h1
  unfold Mx.readB
  rw [← h1, List.find?_eq_none.2 (by
    intro q hq
    obtain ⟨x, hx, rfl⟩ := List.mem_map.1 hq
    simpa using hn x hx)]

/-- between two rounds -/
def RI (w : World) (D : Array Value) (at_ : Int) (pre : List (Nat × Pt)) (W : World) : Prop :=
  Bx W w.heap.size D 50 ∧ Bx W (w.heap.size + 1) #[.int .i64 at_] 3 ∧ Bx W (w.heap.size + 2) #[.int .u8 0, .int .u8 0, .int .u8 0, .int .u8 0, .int .u8 0, .int .u8 0, .int .u8 0, .int .u8 0] 52 ∧ Bx W (w.heap.size + 3) #[.nilIface] 31 ∧ Below w.heap.size w W ∧ w.heap.size + 4 ≤ W.heap.size ∧ ∀ x ∈ pre, x.2.at_ ≠ at_
def RIc (w : World) (D : Array Value) (at_ : Int) (C : Nat) (pre : List (Nat × Pt)) (W : World) : Prop := RI w D at_ pre W ∧ C ≤ W.heap.size
/-- a round that ended the call -/
def RIx (w : World) (at_ : Int) (c : Code) (pre : List (Nat × Pt)) (W : World) : Prop :=
  c = .ret ∧ ∃ pre' i p, pre = pre' ++ [(i, p)] ∧ p.at_ = at_ ∧ (∀ x ∈ pre', x.2.at_ ≠ at_) ∧
    Bx W (w.heap.size + 2) #[.int .u8 p.d.z0, .int .u8 p.d.z1, .int .u8 p.d.z2, .int .u8 p.d.z3, .int .u8 p.d.z4, .int .u8 p.d.z5, .int .u8 p.d.z6, .int .u8 p.d.z7] 52 ∧ Bx W (w.heap.size + 3) #[.nilIface] 31 ∧ Below w.heap.size w W ∧ w.heap.size + 4 ≤ W.heap.size
/-- the round's own variable -/
def RAx (C : Nat) (T : Array Value) (x : Nat × Pt) (a' : Act) (W : World) : Prop :=
  ∃ g, C ≤ g ∧ Bx W g #[.int .i64 x.2.at_, .int .u8 x.2.d.z0, .int .u8 x.2.d.z1, .int .u8 x.2.d.z2, .int .u8 x.2.d.z3, .int .u8 x.2.d.z4, .int .u8 x.2.d.z5, .int .u8 x.2.d.z6, .int .u8 x.2.d.z7] 58 ∧
    a' = { tmps := ((T.setIfInBounds 24 (.int .i64 (x.1 : Int))).setIfInBounds 25 (.agg #[.int .i64 x.2.at_, .int .u8 x.2.d.z0, .int .u8 x.2.d.z1, .int .u8 x.2.d.z2, .int .u8 x.2.d.z3, .int .u8 x.2.d.z4, .int .u8 x.2.d.z5, .int .u8 x.2.d.z6, .int .u8 x.2.d.z7])).setIfInBounds 8 (.pointer (some ⟨g, 0, none⟩)), defers := [] }

theorem ri_own (w : World) (D : Array Value) (at_ : Int) (C : Nat) (hC : w.heap.size + 4 ≤ C) : OwnFrom C (RI w D at_) := by
  rintro pre W W' row ⟨b0, b1, b2, b3, bb, bs, hn⟩ hg hr
  have hr' : ∀ r, row = some r → ∃ o : Obj, W.heap[r]? = some o ∧ o.isCells = false := fun r e => (hr r e).2
  exact ⟨cells_kept b0 hg hr', cells_kept b1 hg hr', cells_kept b2 hg hr', cells_kept b3 hg hr', bb.grown hg (by omega) (fun k e => by have := (hr k e).1; omega), by have := hg.size; omega, hn⟩
theorem ric_own (w : World) (D : Array Value) (at_ : Int) (C : Nat) (hC : w.heap.size + 4 ≤ C) : OwnFrom C (RIc w D at_ C) := fun pre W W' row h hg hr => ⟨ri_own w D at_ C hC pre W W' row h.1 hg hr, Nat.le_trans h.2 hg.size⟩
theorem rix_own (w : World) (at_ : Int) (c : Code) (C : Nat) (hC : w.heap.size + 4 ≤ C) : OwnFrom C (RIx w at_ c) := by
  rintro pre W W' row ⟨rfl, pre', i, p, e1, e2, e3, b2, b3, bb, bs⟩ hg hr
  have hr' : ∀ r, row = some r → ∃ o : Obj, W.heap[r]? = some o ∧ o.isCells = false := fun r e => (hr r e).2
  exact ⟨rfl, pre', i, p, e1, e2, e3, cells_kept b2 hg hr', cells_kept b3 hg hr', bb.grown hg (by omega) (fun k e => by have := (hr k e).1; omega), by have := hg.size; omega⟩
theorem rax_own (C : Nat) (T : Array Value) (x : Nat × Pt) (a' : Act) : OwnFrom C (fun (_ : Unit) W => RAx C T x a' W) := by
  rintro _ W W' row ⟨g, h1, h2, h3⟩ hg hr
  exact ⟨g, h1, cells_kept h2 hg (fun r e => (hr r e).2), h3⟩

theorem rangeBack {g : Operand} {assign body : Code} {Q : Exit → Act → World → Prop} {a : Act} {wl : World} (w : World) (D : Array Value) (at_ : Int) (Bs cap m : Nat) (pa : Option Addr) (ps : List Pt)
    (hg : a.eval g = .func (.func 106) #[] #[.pointer (some ⟨Bs, 0, none⟩)]) (hm : m ≤ 1000) (hp : PL w pa m ps) (hb0 : Below w.heap.size w wl) (hBn : Bs < wl.heap.size) (hC : w.heap.size + 4 ≤ wl.heap.size)
    (hBs : wl.cell? ⟨Bs, 0, none⟩ = some (.slice pa m cap)) (h0 : RI w D at_ [] wl)
    (hassign : ∀ (l : Nat) (pre : List (Nat × Pt)) (x : Nat × Pt) (W : World) (K : Act → World → Prop), RIc w D at_ wl.heap.size pre W → (∀ a' W', KeepsFrom wl.heap.size W W' → KpS w.heap.size Bs W W' → RIc w D at_ wl.heap.size pre W' → RAx wl.heap.size a.tmps x a' W' → K a' W') →
      assign.wpIn (Fence.wide.inRound l) (6 - 1 - 1) Try.prog (Exit.then K (fun _ _ _ => False)) { tmps := (a.tmps.setIfInBounds 24 (.int .i64 (x.1 : Int))).setIfInBounds 25 (.agg #[.int .i64 x.2.at_, .int .u8 x.2.d.z0, .int .u8 x.2.d.z1, .int .u8 x.2.d.z2, .int .u8 x.2.d.z3, .int .u8 x.2.d.z4, .int .u8 x.2.d.z5, .int .u8 x.2.d.z6, .int .u8 x.2.d.z7]), defers := [] } W)
    (hbody : ∀ (l : Nat) (pre : List (Nat × Pt)) (x : Nat × Pt) (a' : Act) (W : World), RIc w D at_ wl.heap.size pre W → RAx wl.heap.size a.tmps x a' W → pre.length < m →
      body.wpIn (Fence.wide.inRound l) (6 - 1 - 1) Try.prog (ownPostG wl.heap.size (KpS w.heap.size Bs) (RIc w D at_ wl.heap.size) (RIx w at_) (pre ++ [x]) W) a' W)
    (hdone : ∀ (Dd : Nat) (W : World), wl.heap.size ≤ Dd → RIc w D at_ wl.heap.size (backTo ps m) W → W.heap[Dd]? = some (.deferred (some [])) → Q .normal { a with defers := { target := .collected Dd, args := #[] } :: a.defers } W)
    (hstop : ∀ (Dd : Nat) (pre : List (Nat × Pt)) (W : World), wl.heap.size ≤ Dd → (∃ k, k ≤ m ∧ pre = backTo ps k) → RIx w at_ .ret pre W → W.heap[Dd]? = some (.deferred (some [])) → Code.ret.wpIn Fence.wide 6 Try.prog Q { a with defers := { target := .collected Dd, args := #[] } :: a.defers } W) :
    (Code.rangeFunc g #[24, 25] assign body).wpIn Fence.wide 6 Try.prog Q a wl := by
  refine wpIn_rangeFunc_ownH rfl (by omega) (gf := 106) (lb := #[.pointer (some ⟨Bs, 0, none⟩)]) hg trivial (enters_of Try.func106 (by kernel_rfl) rfl)
    (back_stops 5 (by omega) Bs w.heap.size cap m pa ps hm w (Nat.le_refl _) hp wl hb0 hb0.size hBn hBs) kpS_t (kpS_b hb0.size hBn) (Below.refl _ _) (fun _ => rfl)
    (RIc w D at_ wl.heap.size) (RIx w at_) (ric_own w D at_ _ hC) (fun c => rix_own w at_ c _ hC) ⟨h0, Nat.le_refl _⟩ (RAx wl.heap.size a.tmps) (rax_own wl.heap.size a.tmps) ?_ ?_ ?_ ?_
  · intro l pre x W K hi hK
    have h := hassign l pre x W K hi hK
    have e : (#[24, 25].zip (encB x)).foldl (fun (t : Array Value) (x : Nat × Value) => match x with | (p, v) => t.setIfInBounds p v) a.tmps = (a.tmps.setIfInBounds 24 (.int .i64 (x.1 : Int))).setIfInBounds 25 (.agg #[.int .i64 x.2.at_, .int .u8 x.2.d.z0, .int .u8 x.2.d.z1, .int .u8 x.2.d.z2, .int .u8 x.2.d.z3, .int .u8 x.2.d.z4, .int .u8 x.2.d.z5, .int .u8 x.2.d.z6, .int .u8 x.2.d.z7]) := by simp [encB]
    rw [e]
    exact h
  · intro l pre x a' W _ _ hi ha hlt
    exact hbody l pre x a' W hi ha hlt
  · rintro Dd xs W hD rfl hi hK
    exact hdone Dd W hD hi hK
  · intro Dd c pre W hD hs hx hK
    have hc := hx.1
    subst hc
    exact hstop Dd pre W hD hs hx hK
end Go.Proofs.Ytengpogcdnbabaa
