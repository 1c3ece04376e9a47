/-
  Rows of epochs as they lie in memory; more of them.
-/
import Derived.Maps.AppendAt
import Derived.Deep.RegionHeld3
import Derived.Test.YtfbmaemnbolplaaZDclone
import Derived.Test.YtfbmaemnbolplaaZDbox

namespace Go.Proofs.Ytfbmaemnbolplaa
open Go.RowKit

theorem PL.grownBy {w w' : World} {a : Option Addr} {n : Nat} {l : List Pt} {row : Option Nat} (h : PL w a n l) (hg : w.grownBy w' row) (hne : 0 < n → ∀ p, a = some p → row ≠ some p.block) : PL w' a n l := by
  obtain ⟨h0, h1, h2, h3⟩ := h
  refine ⟨h0, h1, h2, fun hp => ?_⟩
  obtain ⟨b, off, ha, hlt, hc⟩ := h3 hp
  exact ⟨b, off, ha, by have := hg.size; omega, fun j u hj => hg.cell (hc j u hj) (fun e => hne hp _ ha e.symm)⟩
theorem PL.drewN {w : World} {a : Option Addr} {n : Nat} {l : List Pt} (h : PL w a n l) (q : Nat) : PL (w.drewN q) a n l := h.later (below_drewN (Below.refl _ _) q)

/-- epochs, read -/
def EL (w : World) (a : Option Addr) (k : Nat) (es : List Ep) : Prop :=
  es.length = k ∧ k ≤ maxLen ∧ (0 < k → ∃ b off, a = some ⟨b, off, none⟩ ∧ b < w.heap.size ∧ ∀ i e, es[i]? = some e → ∃ ai ni ci, w.cell? ⟨b, off + i * 2, none⟩ = some (.int .i64 e.num) ∧ w.cell? ⟨b, off + i * 2 + 1, none⟩ = some (.slice ai ni ci) ∧ PL w ai ni e.puts ∧ ni ≤ ci)
theorem EL.nil (w : World) : EL w none 0 [] := ⟨rfl, by unfold maxLen; omega, fun h => absurd h (by omega)⟩
theorem EL.later {w w' : World} {a : Option Addr} {k : Nat} {es : List Ep} (h : EL w a k es) (hb : Below w.heap.size w w') : EL w' a k es := by
  obtain ⟨h1, h2, h4⟩ := h
  refine ⟨h1, h2, fun hp => ?_⟩
  obtain ⟨b, off, ha, hlt, hc⟩ := h4 hp
  refine ⟨b, off, ha, by have := hb.size; omega, fun i e he => ?_⟩
  obtain ⟨ai, ni, ci, c1, c2, c3, c4⟩ := hc i e he
  exact ⟨ai, ni, ci, (hb.cell (p := ⟨b, off + i * 2, none⟩) hlt).trans c1, (hb.cell (p := ⟨b, off + i * 2 + 1, none⟩) hlt).trans c2, c3.later hb, c4⟩
theorem EL.drewN {w : World} {a : Option Addr} {n : Nat} {l : List Ep} (h : EL w a n l) (q : Nat) : EL (w.drewN q) a n l := h.later (below_drewN (Below.refl _ _) q)
theorem EL.at_ {w : World} {a : Option Addr} {k : Nat} {es : List Ep} (h : EL w a k es) (i : Nat) (hi : i < k) :
    ∃ b off e ai ni ci, a = some ⟨b, off, none⟩ ∧ b < w.heap.size ∧ es[i]? = some e ∧ w.cell? ⟨b, off + i * 2, none⟩ = some (.int .i64 e.num) ∧ w.cell? ⟨b, off + i * 2 + 1, none⟩ = some (.slice ai ni ci) ∧ PL w ai ni e.puts ∧ ni ≤ ci := by
  obtain ⟨h1, h2, h4⟩ := h
  obtain ⟨b, off, ha, hlt, hc⟩ := h4 (by omega)
  have hl : es[i]? = some es[i] := List.getElem?_eq_getElem (by omega)
  obtain ⟨ai, ni, ci, c1, c2, c3⟩ := hc i _ hl
  exact ⟨b, off, es[i], ai, ni, ci, ha, hlt, hl, c1, c2, c3⟩
theorem EL.drop {w : World} {b off : Nat} {k : Nat} {es : List Ep} (h : EL w (some ⟨b, off, none⟩) k es) (j : Nat) (hj : j ≤ k) : EL w (some ⟨b, off + j * 2, none⟩) (k - j) (es.drop j) := by
  obtain ⟨h1, h2, h4⟩ := h
  refine ⟨by rw [List.length_drop, h1], by omega, fun hp => ?_⟩
  obtain ⟨b', off', ha, hlt, hc⟩ := h4 (by omega)
  simp only [Option.some.injEq, Addr.mk.injEq, and_true] at ha
  obtain ⟨rfl, rfl⟩ := ha
  refine ⟨b, off + j * 2, rfl, hlt, fun i e he => ?_⟩
  rw [List.getElem?_drop] at he
  obtain ⟨ai, ni, ci, c1, c2, c3⟩ := hc (j + i) e he
  rw [show off + (j + i) * 2 = off + j * 2 + i * 2 by rw [Nat.add_mul]; omega] at c1 c2
  exact ⟨ai, ni, ci, c1, c2, c3⟩

/-- epochs, read, all of it in blocks from B on -/
def ELA (B : Nat) (w : World) (a : Option Addr) (k : Nat) (es : List Ep) : Prop :=
  es.length = k ∧ k ≤ maxLen ∧ (0 < k → ∃ b off, a = some ⟨b, off, none⟩ ∧ B ≤ b ∧ b < w.heap.size ∧ ∀ i e, es[i]? = some e → ∃ ai ni ci, w.cell? ⟨b, off + i * 2, none⟩ = some (.int .i64 e.num) ∧ w.cell? ⟨b, off + i * 2 + 1, none⟩ = some (.slice ai ni ci) ∧ PL w ai ni e.puts ∧ ni ≤ ci ∧ (0 < ni → ∀ p, ai = some p → B ≤ p.block))
theorem ELA.el {B : Nat} {w : World} {a : Option Addr} {k : Nat} {es : List Ep} (h : ELA B w a k es) : EL w a k es := by
  obtain ⟨h1, h2, h4⟩ := h
  refine ⟨h1, h2, fun hp => ?_⟩
  obtain ⟨b, off, ha, _, hlt, hc⟩ := h4 hp
  refine ⟨b, off, ha, hlt, fun i e he => ?_⟩
  obtain ⟨ai, ni, ci, c1, c2, c3, c4, _⟩ := hc i e he
  exact ⟨ai, ni, ci, c1, c2, c3, c4⟩
theorem ELA.later {B : Nat} {w w' : World} {a : Option Addr} {k : Nat} {es : List Ep} (h : ELA B w a k es) (hb : Below w.heap.size w w') : ELA B w' a k es := by
  obtain ⟨h1, h2, h4⟩ := h
  refine ⟨h1, h2, fun hp => ?_⟩
  obtain ⟨b, off, ha, hB, hlt, hc⟩ := h4 hp
  refine ⟨b, off, ha, hB, by have := hb.size; omega, fun i e he => ?_⟩
  obtain ⟨ai, ni, ci, c1, c2, c3, c4⟩ := hc i e he
  exact ⟨ai, ni, ci, (hb.cell (p := ⟨b, off + i * 2, none⟩) hlt).trans c1, (hb.cell (p := ⟨b, off + i * 2 + 1, none⟩) hlt).trans c2, c3.later hb, c4⟩
/-- a block below B may be written into -/
theorem ELA.grown {B g : Nat} {w w' : World} {a : Option Addr} {k : Nat} {es : List Ep} (h : ELA B w a k es) (hg : w.grownBy w' (some g)) (hB : g < B) : ELA B w' a k es := by
  obtain ⟨h1, h2, h4⟩ := h
  refine ⟨h1, h2, fun hp => ?_⟩
  obtain ⟨b, off, ha, hb, hlt, hc⟩ := h4 hp
  have hne : ∀ o, some (⟨b, o, none⟩ : Addr).block ≠ some g := fun o e => by have : b = g := Option.some.inj e; omega
  refine ⟨b, off, ha, hb, by have := hg.size; omega, fun i e he => ?_⟩
  obtain ⟨ai, ni, ci, c1, c2, c3, c4, c5⟩ := hc i e he
  exact ⟨ai, ni, ci, hg.cell c1 (hne _), hg.cell c2 (hne _), c3.grownBy hg (fun h0 p hp e => by have := c5 h0 p hp; have : g = p.block := Option.some.inj e; omega), c4, c5⟩

end Go.Proofs.Ytfbmaemnbolplaa

/-
  The last put of each place, in an array: puts taken (take), and told again (puts).
-/
namespace Go.Proofs.Ytfbmaemnbolplaa
open Go.RowKit

theorem grow_set {w w' : World} {g : Nat} (h : w.grownBy w' (some g)) (o : Nat) (v : Value) : w.grownBy (w'.setCell ⟨g, o, none⟩ v) (some g) :=
  ⟨h.os, h.tape, h.output, by have := h.size; simpa [World.setCell] using this, fun k hk hne => (Below.heap_setCell w' ⟨g, o, none⟩ v k (fun e => hne (by rw [e]))).trans (h.block k hk hne)⟩
theorem grow_drew {w w' : World} {row : Option Nat} (h : w.grownBy w' row) : w.grownBy w'.drew row := ⟨h.os, h.tape, h.output, h.size, h.block⟩
theorem grow_alloc {w w' : World} {row : Option Nat} (h : w.grownBy w' row) (o : Obj) : w.grownBy (w'.alloc o) row := h.trans (World.grownBy_alloc w' o row)
theorem grow_refl (w : World) (row : Option Nat) : w.grownBy w row := ⟨rfl, rfl, rfl, Nat.le_refl _, fun _ _ _ => rfl⟩
theorem grow_set8 {w w' : World} {g : Nat} (h : w.grownBy w' (some g)) (o : Nat) (x : B8) : w.grownBy (set8 w' g o x) (some g) :=
  grow_set (grow_set (grow_set (grow_set (grow_set (grow_set (grow_set (grow_set h _ _) _ _) _ _) _ _) _ _) _ _) _ _) _ _

theorem cell_set_far {w : World} {g o q i : Nat} (h : ¬ g = q) (v : Value) : (w.setCell ⟨g, o, none⟩ v).cell? ⟨q, i, none⟩ = w.cell? ⟨q, i, none⟩ := World.cell?_setCell_far w ⟨g, o, none⟩ ⟨q, i, none⟩ v h

theorem cell_alloc_lt {w : World} {g i : Nat} (h : g < w.heap.size) (o : Obj) : (w.alloc o).cell? ⟨g, i, none⟩ = w.cell? ⟨g, i, none⟩ := (below_alloc w o).cell (p := ⟨g, i, none⟩) h
theorem cell_drew (w : World) (a : Addr) : w.drew.cell? a = w.cell? a := rfl

theorem Mx.takeF_succ {fs : List (Option B8)} {ps : List Pt} {k : Nat} {p : Pt} (h : ps[k]? = some p) : Mx.takeF fs (ps.take (k + 1)) = (Mx.takeF fs (ps.take k)).set p.at_.toNat (some p.d) := by
  unfold Mx.takeF
  rw [getElem_take_succ _ _ _ h, List.foldl_append]
  rfl

def Mx.oneP (k : Nat) : Option B8 → List Pt
  | none => []
  | some d => [⟨(k : Int), d⟩]
theorem Mx.putsFrom_succ {fs : List (Option B8)} {k : Nat} {o : Option B8} (h : fs[k]? = some o) : Mx.putsFrom 0 (fs.take (k + 1)) = Mx.putsFrom 0 (fs.take k) ++ Mx.oneP k o := by
  have hk : k < fs.length := (List.getElem?_eq_some_iff.1 h).1
  rw [getElem_take_succ _ _ _ h, Mx.putsFrom_append, List.length_take, Nat.min_eq_left (by omega), Nat.zero_add]
  cases o <;> rfl
theorem Mx.putsFrom_len (k : Nat) (fs : List (Option B8)) : (Mx.putsFrom k fs).length ≤ fs.length := by
  induction fs generalizing k with
  | nil => exact Nat.le_refl _
  | cons o fs ih =>
    cases o with
    | none => have := ih (k + 1); simp only [Mx.putsFrom, List.length_cons]; omega
    | some d => have := ih (k + 1); simp only [Mx.putsFrom, List.length_cons]; omega

end Go.Proofs.Ytfbmaemnbolplaa

/-
  A box of two cells.
-/
namespace Go.Proofs.Ytfbmaemnbolplaa
open Go.RowKit

theorem Bx.pair {w : World} {g : Nat} {s0 s1 : Value} {t : TypeId} (h : Bx w g #[s0, s1] t) : w.cell? ⟨g, 0, none⟩ = some s0 ∧ w.cell? ⟨g, 1, none⟩ = some s1 := ⟨h.cell 0, h.cell 1⟩
theorem Bx.two_set {w : World} {g : Nat} {a0 a1 : Value} {t : TypeId} (h : Bx w g #[a0, a1] t) (s0 s1 : Value) : Bx ((w.setCell ⟨g, 0, none⟩ s0).setCell ⟨g, 1, none⟩ s1) g #[s0, s1] t := (h.set 0 s0).set 1 s1
def set2 (w : World) (g : Nat) (s0 s1 : Value) : World := (w.setCell ⟨g, 0, none⟩ s0).setCell ⟨g, 1, none⟩ s1
theorem set2_below {B g : Nat} {w w' : World} (h : Below B w w') (hg : B ≤ g) (s0 s1 : Value) : Below B w (set2 w' g s0 s1) := (h.setCell (p := ⟨g, 0, none⟩) hg _).setCell (p := ⟨g, 1, none⟩) hg _
theorem set2_grown {w w' : World} {g : Nat} (h : w.grownBy w' (some g)) (s0 s1 : Value) : w.grownBy (set2 w' g s0 s1) (some g) := grow_set (grow_set h _ _) _ _
theorem Bx.three_set {w : World} {g : Nat} {a0 a1 a2 : Value} {t : TypeId} (h : Bx w g #[a0, a1, a2] t) (s0 s1 s2 : Value) : Bx (((w.setCell ⟨g, 0, none⟩ s0).setCell ⟨g, 1, none⟩ s1).setCell ⟨g, 2, none⟩ s2) g #[s0, s1, s2] t := ((h.set 0 s0).set 1 s1).set 2 s2
def set3 (w : World) (g : Nat) (s0 s1 s2 : Value) : World := ((w.setCell ⟨g, 0, none⟩ s0).setCell ⟨g, 1, none⟩ s1).setCell ⟨g, 2, none⟩ s2
theorem set3_below {B g : Nat} {w w' : World} (h : Below B w w') (hg : B ≤ g) (s0 s1 s2 : Value) : Below B w (set3 w' g s0 s1 s2) := ((h.setCell (p := ⟨g, 0, none⟩) hg _).setCell (p := ⟨g, 1, none⟩) hg _).setCell (p := ⟨g, 2, none⟩) hg _
theorem set3_grown {w w' : World} {g : Nat} (h : w.grownBy w' (some g)) (s0 s1 s2 : Value) : w.grownBy (set3 w' g s0 s1 s2) (some g) := grow_set (grow_set (grow_set h _ _) _ _) _ _

end Go.Proofs.Ytfbmaemnbolplaa
