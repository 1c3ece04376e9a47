/-
  Rows of epochs as they lie in memory; more of them.
-/
import Derived.Maps.AppendAt
import Derived.Deep.RegionHeld3
import Derived.BigQuiet
import Derived.Test.YtfgonmgmoeoedaaZIs
import Derived.Test.YtfgonmgmoeoedaaZIter
import Derived.Test.YtfgonmgmoeoedaaZDclone
import Derived.Test.YtfgonmgmoeoedaaZDbox

namespace Go.Proofs.Ytfgonmgmoeoedaa
open Go.RowKit

theorem PL.grownBy {w w' : World} {a : Option Addr} {n : Nat} {l : List Pt} {row : Option Nat} (h : PL w a n l) (hg : w.grownBy w' row) (hne : 0 < n → ∀ p, a = some p → row ≠ some p.block) : PL w' a n l := by
  obtain ⟨h0, h1, h2, h3⟩ := h
  refine ⟨h0, h1, h2, fun hp => ?_⟩
  obtain ⟨b, off, ha, hlt, hc⟩ := h3 hp
  exact ⟨b, off, ha, by have := hg.size; omega, fun j u hj => hg.cell (hc j u hj) (fun e => hne hp _ ha e.symm)⟩
theorem PL.drewN {w : World} {a : Option Addr} {n : Nat} {l : List Pt} (h : PL w a n l) (q : Nat) : PL (w.drewN q) a n l := h.later (below_drewN (Below.refl _ _) q)

/-- epochs, read -/
def EL (w : World) (a : Option Addr) (k : Nat) (es : List Ep) : Prop :=
  es.length = k ∧ k ≤ maxLen ∧ (0 < k → ∃ b off, a = some ⟨b, off, none⟩ ∧ b < w.heap.size ∧ ∀ i e, es[i]? = some e → ∃ ai ni ci, w.cell? ⟨b, off + i * 2, none⟩ = some (.int .i64 e.num) ∧ w.cell? ⟨b, off + i * 2 + 1, none⟩ = some (.slice ai ni ci) ∧ PL w ai ni e.puts ∧ ni ≤ ci)
theorem EL.nil (w : World) : EL w none 0 [] := ⟨rfl, by unfold maxLen; omega, fun h => absurd h (by omega)⟩
theorem EL.later {w w' : World} {a : Option Addr} {k : Nat} {es : List Ep} (h : EL w a k es) (hb : Below w.heap.size w w') : EL w' a k es := by
  obtain ⟨h1, h2, h4⟩ := h
  refine ⟨h1, h2, fun hp => ?_⟩
  obtain ⟨b, off, ha, hlt, hc⟩ := h4 hp
  refine ⟨b, off, ha, by have := hb.size; omega, fun i e he => ?_⟩
  obtain ⟨ai, ni, ci, c1, c2, c3, c4⟩ := hc i e he
  exact ⟨ai, ni, ci, (hb.cell (p := ⟨b, off + i * 2, none⟩) hlt).trans c1, (hb.cell (p := ⟨b, off + i * 2 + 1, none⟩) hlt).trans c2, c3.later hb, c4⟩
theorem EL.drewN {w : World} {a : Option Addr} {n : Nat} {l : List Ep} (h : EL w a n l) (q : Nat) : EL (w.drewN q) a n l := h.later (below_drewN (Below.refl _ _) q)
theorem EL.at_ {w : World} {a : Option Addr} {k : Nat} {es : List Ep} (h : EL w a k es) (i : Nat) (hi : i < k) :
    ∃ b off e ai ni ci, a = some ⟨b, off, none⟩ ∧ b < w.heap.size ∧ es[i]? = some e ∧ w.cell? ⟨b, off + i * 2, none⟩ = some (.int .i64 e.num) ∧ w.cell? ⟨b, off + i * 2 + 1, none⟩ = some (.slice ai ni ci) ∧ PL w ai ni e.puts ∧ ni ≤ ci := by
  obtain ⟨h1, h2, h4⟩ := h
  obtain ⟨b, off, ha, hlt, hc⟩ := h4 (by omega)
  have hl : es[i]? = some es[i] := List.getElem?_eq_getElem (by omega)
  obtain ⟨ai, ni, ci, c1, c2, c3⟩ := hc i _ hl
  exact ⟨b, off, es[i], ai, ni, ci, ha, hlt, hl, c1, c2, c3⟩
theorem EL.drop {w : World} {b off : Nat} {k : Nat} {es : List Ep} (h : EL w (some ⟨b, off, none⟩) k es) (j : Nat) (hj : j ≤ k) : EL w (some ⟨b, off + j * 2, none⟩) (k - j) (es.drop j) := by
  obtain ⟨h1, h2, h4⟩ := h
  refine ⟨by rw [List.length_drop, h1], by omega, fun hp => ?_⟩
  obtain ⟨b', off', ha, hlt, hc⟩ := h4 (by omega)
  simp only [Option.some.injEq, Addr.mk.injEq, and_true] at ha
  obtain ⟨rfl, rfl⟩ := ha
  refine ⟨b, off + j * 2, rfl, hlt, fun i e he => ?_⟩
  rw [List.getElem?_drop] at he
  obtain ⟨ai, ni, ci, c1, c2, c3⟩ := hc (j + i) e he
  rw [show off + (j + i) * 2 = off + j * 2 + i * 2 by rw [Nat.add_mul]; omega] at c1 c2
  exact ⟨ai, ni, ci, c1, c2, c3⟩

/-- epochs, read, all of it in blocks from B on -/
def ELA (B : Nat) (w : World) (a : Option Addr) (k : Nat) (es : List Ep) : Prop :=
  es.length = k ∧ k ≤ maxLen ∧ (0 < k → ∃ b off, a = some ⟨b, off, none⟩ ∧ B ≤ b ∧ b < w.heap.size ∧ ∀ i e, es[i]? = some e → ∃ ai ni ci, w.cell? ⟨b, off + i * 2, none⟩ = some (.int .i64 e.num) ∧ w.cell? ⟨b, off + i * 2 + 1, none⟩ = some (.slice ai ni ci) ∧ PL w ai ni e.puts ∧ ni ≤ ci ∧ (0 < ni → ∀ p, ai = some p → B ≤ p.block))
theorem ELA.el {B : Nat} {w : World} {a : Option Addr} {k : Nat} {es : List Ep} (h : ELA B w a k es) : EL w a k es := by
  obtain ⟨h1, h2, h4⟩ := h
  refine ⟨h1, h2, fun hp => ?_⟩
  obtain ⟨b, off, ha, _, hlt, hc⟩ := h4 hp
  refine ⟨b, off, ha, hlt, fun i e he => ?_⟩
  obtain ⟨ai, ni, ci, c1, c2, c3, c4, _⟩ := hc i e he
  exact ⟨ai, ni, ci, c1, c2, c3, c4⟩
theorem ELA.later {B : Nat} {w w' : World} {a : Option Addr} {k : Nat} {es : List Ep} (h : ELA B w a k es) (hb : Below w.heap.size w w') : ELA B w' a k es := by
  obtain ⟨h1, h2, h4⟩ := h
  refine ⟨h1, h2, fun hp => ?_⟩
  obtain ⟨b, off, ha, hB, hlt, hc⟩ := h4 hp
  refine ⟨b, off, ha, hB, by have := hb.size; omega, fun i e he => ?_⟩
  obtain ⟨ai, ni, ci, c1, c2, c3, c4⟩ := hc i e he
  exact ⟨ai, ni, ci, (hb.cell (p := ⟨b, off + i * 2, none⟩) hlt).trans c1, (hb.cell (p := ⟨b, off + i * 2 + 1, none⟩) hlt).trans c2, c3.later hb, c4⟩
/-- a block below B may be written into -/
theorem ELA.grown {B g : Nat} {w w' : World} {a : Option Addr} {k : Nat} {es : List Ep} (h : ELA B w a k es) (hg : w.grownBy w' (some g)) (hB : g < B) : ELA B w' a k es := by
  obtain ⟨h1, h2, h4⟩ := h
  refine ⟨h1, h2, fun hp => ?_⟩
  obtain ⟨b, off, ha, hb, hlt, hc⟩ := h4 hp
  have hne : ∀ o, some (⟨b, o, none⟩ : Addr).block ≠ some g := fun o e => by have : b = g := Option.some.inj e; omega
  refine ⟨b, off, ha, hb, by have := hg.size; omega, fun i e he => ?_⟩
  obtain ⟨ai, ni, ci, c1, c2, c3, c4, c5⟩ := hc i e he
  exact ⟨ai, ni, ci, hg.cell c1 (hne _), hg.cell c2 (hne _), c3.grownBy hg (fun h0 p hp e => by have := c5 h0 p hp; have : g = p.block := Option.some.inj e; omega), c4, c5⟩

end Go.Proofs.Ytfgonmgmoeoedaa

/-
  The last put of each place, in an array: puts taken (take), and told again (puts).
-/
namespace Go.Proofs.Ytfgonmgmoeoedaa
open Go.RowKit

theorem grow_set {w w' : World} {g : Nat} (h : w.grownBy w' (some g)) (o : Nat) (v : Value) : w.grownBy (w'.setCell ⟨g, o, none⟩ v) (some g) :=
  ⟨h.os, h.tape, h.output, by have := h.size; simpa [World.setCell] using this, fun k hk hne => (Below.heap_setCell w' ⟨g, o, none⟩ v k (fun e => hne (by rw [e]))).trans (h.block k hk hne)⟩
theorem grow_drew {w w' : World} {row : Option Nat} (h : w.grownBy w' row) : w.grownBy w'.drew row := ⟨h.os, h.tape, h.output, h.size, h.block⟩
theorem grow_alloc {w w' : World} {row : Option Nat} (h : w.grownBy w' row) (o : Obj) : w.grownBy (w'.alloc o) row := h.trans (World.grownBy_alloc w' o row)
theorem grow_refl (w : World) (row : Option Nat) : w.grownBy w row := ⟨rfl, rfl, rfl, Nat.le_refl _, fun _ _ _ => rfl⟩
theorem grow_set8 {w w' : World} {g : Nat} (h : w.grownBy w' (some g)) (o : Nat) (x : B8) : w.grownBy (set8 w' g o x) (some g) :=
  grow_set (grow_set (grow_set (grow_set (grow_set (grow_set (grow_set (grow_set h _ _) _ _) _ _) _ _) _ _) _ _) _ _) _ _

theorem cell_set_far {w : World} {g o q i : Nat} (h : ¬ g = q) (v : Value) : (w.setCell ⟨g, o, none⟩ v).cell? ⟨q, i, none⟩ = w.cell? ⟨q, i, none⟩ := World.cell?_setCell_far w ⟨g, o, none⟩ ⟨q, i, none⟩ v h

theorem cell_alloc_lt {w : World} {g i : Nat} (h : g < w.heap.size) (o : Obj) : (w.alloc o).cell? ⟨g, i, none⟩ = w.cell? ⟨g, i, none⟩ := (below_alloc w o).cell (p := ⟨g, i, none⟩) h
theorem cell_drew (w : World) (a : Addr) : w.drew.cell? a = w.cell? a := rfl

theorem Mx.takeF_succ {fs : List (Option B8)} {ps : List Pt} {k : Nat} {p : Pt} (h : ps[k]? = some p) : Mx.takeF fs (ps.take (k + 1)) = (Mx.takeF fs (ps.take k)).set p.at_.toNat (some p.d) := by
  unfold Mx.takeF
  rw [getElem_take_succ _ _ _ h, List.foldl_append]
  rfl

def Mx.oneP (k : Nat) : Option B8 → List Pt
  | none => []
  | some d => [⟨(k : Int), d⟩]
theorem Mx.putsFrom_succ {fs : List (Option B8)} {k : Nat} {o : Option B8} (h : fs[k]? = some o) : Mx.putsFrom 0 (fs.take (k + 1)) = Mx.putsFrom 0 (fs.take k) ++ Mx.oneP k o := by
  have hk : k < fs.length := (List.getElem?_eq_some_iff.1 h).1
  rw [getElem_take_succ _ _ _ h, Mx.putsFrom_append, List.length_take, Nat.min_eq_left (by omega), Nat.zero_add]
  cases o <;> rfl
theorem Mx.putsFrom_len (k : Nat) (fs : List (Option B8)) : (Mx.putsFrom k fs).length ≤ fs.length := by
  induction fs generalizing k with
  | nil => exact Nat.le_refl _
  | cons o fs ih =>
    cases o with
    | none => have := ih (k + 1); simp only [Mx.putsFrom, List.length_cons]; omega
    | some d => have := ih (k + 1); simp only [Mx.putsFrom, List.length_cons]; omega

end Go.Proofs.Ytfgonmgmoeoedaa

/-
  Messages and senders: what H1 says of them: the document's answer (MessageMay, SenderMay), and the program's (checkNumbers, checkMessage, Check).
-/
namespace Go.Proofs.Ytfgonmgmoeoedaa
open Go.RowKit

structure Fr where
  kind : Int
  nums : List Int
  nb : Nat
  bs : List Int

structure Sd where
  ses : Int
  base : Int
  q : List Fr

namespace Mx
def mmay (f : Fr) : Int := if may f.kind f.nums f.nb = 0 then (if 9 < f.nums.length then 2 else 0) else may f.kind f.nums f.nb
theorem mmay_no {f : Fr} (h : may f.kind f.nums f.nb ≠ 0) : mmay f = may f.kind f.nums f.nb := by unfold mmay; rw [if_neg h]
theorem mmay_2 {f : Fr} (h : may f.kind f.nums f.nb = 0) (h2 : 9 < f.nums.length) : mmay f = 2 := by unfold mmay; rw [if_pos h, if_pos h2]
theorem mmay_0 {f : Fr} (h : may f.kind f.nums f.nb = 0) (h2 : ¬ 9 < f.nums.length) : mmay f = 0 := by unfold mmay; rw [if_pos h, if_neg h2]
theorem mmay_ok {f : Fr} (h : mmay f = 0) : may f.kind f.nums f.nb = 0 ∧ f.nums.length ≤ 9 := by
  unfold mmay at h
  split at h
  · next h1 =>
    split at h
    · omega
    · exact ⟨h1, by omega⟩
  · next h1 => exact absurd h h1
/-- the first that is none, its error -/
def qmay : List Fr → Int
  | [] => 0
  | f :: l => if mmay f = 0 then qmay l else mmay f
theorem qmay_all {l : List Fr} (h : ∀ f ∈ l, mmay f = 0) : qmay l = 0 := by
  induction l with
  | nil => rfl
  | cons f l ih => rw [qmay, if_pos (h f (List.mem_cons_self ..))]; exact ih (fun g hg => h g (List.mem_cons_of_mem _ hg))
theorem qmay_at {l : List Fr} {j : Nat} {f : Fr} (h : ∀ g ∈ l.take j, mmay g = 0) (hf : l[j]? = some f) (hm : mmay f ≠ 0) : qmay l = mmay f := by
  induction l generalizing j with
  | nil => simp at hf
  | cons g l ih =>
    cases j with
    | zero =>
      simp at hf
      subst hf
      rw [qmay, if_neg hm]
    | succ j =>
      rw [qmay, if_pos (h g (by simp))]
      exact ih (fun x hx => h x (List.mem_cons_of_mem _ hx)) (by simpa using hf)
theorem qmay_ok {l : List Fr} (h : qmay l = 0) : ∀ f ∈ l, mmay f = 0 := by
  induction l with
  | nil => intro f hf; cases hf
  | cons g l ih =>
    rw [qmay] at h
    split at h
    · next h1 =>
      intro f hf
      rcases List.mem_cons.1 hf with rfl | hf
      · exact h1
      · exact ih h f hf
    · next h1 => exact absurd h h1
def badN (x : Int) : Prop := x < 0 ∨ 2147483647 < x
instance (x : Int) : Decidable (badN x) := by unfold badN; infer_instance
def sdmay (s : Sd) : Int := if badN s.ses ∨ badN s.base then 1 else if 64 < s.q.length then 2 else qmay s.q
theorem sdmay_1 {s : Sd} (h : badN s.ses ∨ badN s.base) : sdmay s = 1 := by unfold sdmay; rw [if_pos h]
theorem sdmay_2 {s : Sd} (h : ¬ (badN s.ses ∨ badN s.base)) (h2 : 64 < s.q.length) : sdmay s = 2 := by unfold sdmay; rw [if_neg h, if_pos h2]
theorem sdmay_q {s : Sd} (h : ¬ (badN s.ses ∨ badN s.base)) (h2 : ¬ 64 < s.q.length) : sdmay s = qmay s.q := by unfold sdmay; rw [if_neg h, if_neg h2]
theorem sdmay_ok {s : Sd} (h : sdmay s = 0) : (0 ≤ s.ses ∧ s.ses ≤ 2147483647 ∧ 0 ≤ s.base ∧ s.base ≤ 2147483647) ∧ s.q.length ≤ 64 ∧ ∀ f ∈ s.q, mmay f = 0 := by
  unfold sdmay at h
  split at h
  · omega
  · next h1 =>
    split at h
    · omega
    · next h2 =>
      unfold badN at h1
      exact ⟨by omega, by omega, qmay_ok h⟩
end Mx

/-- messages, read -/
def FL (w : World) (a : Option Addr) (k : Nat) (fs : List Fr) : Prop :=
  fs.length = k ∧ k ≤ maxLen ∧ (0 < k → ∃ b off, a = some ⟨b, off, none⟩ ∧ b < w.heap.size ∧ ∀ i f, fs[i]? = some f → ∃ a1 n1 c1 a2 c2, w.cell? ⟨b, off + i * 3, none⟩ = some (.int .i64 f.kind) ∧ w.cell? ⟨b, off + i * 3 + 1, none⟩ = some (.slice a1 n1 c1) ∧ w.cell? ⟨b, off + i * 3 + 2, none⟩ = some (.slice a2 f.nb c2) ∧ Ints w a1 n1 f.nums ∧ Blks w a2 f.nb f.bs ∧ n1 ≤ c1 ∧ f.nb ≤ c2)
theorem FL.nil (w : World) : FL w none 0 [] := ⟨rfl, by unfold maxLen; omega, fun h => absurd h (by omega)⟩
theorem FL.later {w w' : World} {a : Option Addr} {k : Nat} {fs : List Fr} (h : FL w a k fs) (hb : Below w.heap.size w w') : FL w' a k fs := by
  obtain ⟨h1, h2, h4⟩ := h
  refine ⟨h1, h2, fun hp => ?_⟩
  obtain ⟨b, off, ha, hlt, hc⟩ := h4 hp
  refine ⟨b, off, ha, by have := hb.size; omega, fun i f hf => ?_⟩
  obtain ⟨a1, n1, c1, a2, c2, e1, e2, e3, e4, e5, e6⟩ := hc i f hf
  exact ⟨a1, n1, c1, a2, c2, (hb.cell (p := ⟨b, off + i * 3, none⟩) hlt).trans e1, (hb.cell (p := ⟨b, off + i * 3 + 1, none⟩) hlt).trans e2, (hb.cell (p := ⟨b, off + i * 3 + 2, none⟩) hlt).trans e3, e4.later hb, e5.later hb, e6⟩
theorem FL.at_ {w : World} {a : Option Addr} {k : Nat} {fs : List Fr} (h : FL w a k fs) (i : Nat) (hi : i < k) :
    ∃ b off f a1 n1 c1 a2 c2, a = some ⟨b, off, none⟩ ∧ b < w.heap.size ∧ fs[i]? = some f ∧ w.cell? ⟨b, off + i * 3, none⟩ = some (.int .i64 f.kind) ∧ w.cell? ⟨b, off + i * 3 + 1, none⟩ = some (.slice a1 n1 c1) ∧ w.cell? ⟨b, off + i * 3 + 2, none⟩ = some (.slice a2 f.nb c2) ∧ Ints w a1 n1 f.nums ∧ Blks w a2 f.nb f.bs ∧ n1 ≤ c1 ∧ f.nb ≤ c2 := by
  obtain ⟨h1, h2, h4⟩ := h
  obtain ⟨b, off, ha, hlt, hc⟩ := h4 (by omega)
  have hl : fs[i]? = some fs[i] := List.getElem?_eq_getElem (by omega)
  obtain ⟨a1, n1, c1, a2, c2, e⟩ := hc i _ hl
  exact ⟨b, off, fs[i], a1, n1, c1, a2, c2, ha, hlt, hl, e⟩

set_option maxHeartbeats 4000000 in
set_option maxRecDepth 100000 in
theorem messageMay_any (kind : Int) (a1 a2 : Option Addr) (n1 c1 n2 c2 : Nat) (l bs : List Int) (w : World) (hl : Ints w a1 n1 l) (h2 : n2 ≤ maxLen) :
    Calls Try.prog 23 #[.agg #[.int .i64 kind, .slice a1 n1 c1, .slice a2 n2 c2]] w fun e w' => e = .returned (.int .i64 (Mx.mmay ⟨kind, l, n2, bs⟩)) ∧ Below w.heap.size w w' := by
  have HL := hide hl
  have HN := hide hl.1
  have hlm : n1 ≤ maxLen := hl.2.1
  have HM := hide h2
  clear hl h2
  unfold maxLen at hlm
  have X0 := hide (Bx.new w #[.int .i64 kind, .slice a1 n1 c1, .slice a2 n2 c2] 40)
  go_enter Try.func23, Try.ntmps23
  go_wp2_with fail
  refine (frameMay_any kind a1 a2 n1 c1 n2 c2 l _ (HL.out.later (below_alloc _ _)) HM.out).mono ?_
  rintro e w1 ⟨rfl, hb1⟩
  have X1 := hide (X0.out.later hb1 X0.out.lt)
  have B1 := hide ((below_alloc w _).trans (hb1.mono (by simp)))
  clear hb1
  obtain ⟨f0, f1, f2⟩ := X1.out.three
  by_cases hm : Mx.may kind l n2 = 0
  · rw [hm]
    by_cases h9 : (9 : Int) < n1
    · have d9 : decide ((9 : Int) < n1) = true := by simpa using h9
      have HF := hide (Mx.mmay_2 (f := ⟨kind, l, n2, bs⟩) hm (by have := HN.out; show 9 < l.length; omega))
      clear hm
      go_wp2_with fail
      go_ret
      exact ⟨by rw [HF.out] <;> rfl, B1.out⟩
    · have d9 : decide ((9 : Int) < n1) = false := by simpa using h9
      have HF := hide (Mx.mmay_0 (f := ⟨kind, l, n2, bs⟩) hm (by have := HN.out; show ¬ 9 < l.length; omega))
      clear hm
      go_wp2_with fail
      go_ret
      exact ⟨by rw [HF.out] <;> rfl, B1.out⟩
  · have HF := hide (Mx.mmay_no (f := ⟨kind, l, n2, bs⟩) hm)
    have hmb : (Mx.may kind l n2 == 0) = false := by simpa using hm
    go_wp2_with fail
    go_ret
    exact ⟨by rw [HF.out] <;> rfl, B1.out⟩

set_option maxHeartbeats 4000000 in
set_option maxRecDepth 100000 in
theorem checkMessage_any (kind : Int) (a1 a2 : Option Addr) (n1 c1 n2 c2 : Nat) (l bs : List Int) (w : World) (hl : Ints w a1 n1 l) (h2 : n2 ≤ maxLen) :
    Calls Try.prog 37 #[.agg #[.int .i64 kind, .slice a1 n1 c1, .slice a2 n2 c2]] w fun e w' => e = .returned (errV (Mx.mmay ⟨kind, l, n2, bs⟩)) ∧ Below w.heap.size w w' := by
  have HL := hide hl
  have HN := hide hl.1
  have hlm : n1 ≤ maxLen := hl.2.1
  have HM := hide h2
  clear hl h2
  unfold maxLen at hlm
  have X0 := hide (Bx.new w #[.int .i64 kind, .slice a1 n1 c1, .slice a2 n2 c2] 40)
  go_enter Try.func37, Try.ntmps37
  go_wp2_with fail
  refine (check_any kind a1 a2 n1 c1 n2 c2 l _ (HL.out.later (below_alloc _ _)) HM.out).mono ?_
  rintro e w1 ⟨rfl, hb1⟩
  have X1 := hide (X0.out.later hb1 X0.out.lt)
  have B1 := hide ((below_alloc w _).trans (hb1.mono (by simp)))
  clear hb1
  obtain ⟨f0, f1, f2⟩ := X1.out.three
  by_cases hm : Mx.may kind l n2 = 0
  · rw [hm, errV_zero]
    by_cases h9 : (9 : Int) < n1
    · have d9 : decide ((9 : Int) < n1) = true := by simpa using h9
      have HF := hide (Mx.mmay_2 (f := ⟨kind, l, n2, bs⟩) hm (by have := HN.out; show 9 < l.length; omega))
      clear hm
      go_wp2_with fail
      go_ret
      exact ⟨by rw [HF.out] <;> rfl, B1.out⟩
    · have d9 : decide ((9 : Int) < n1) = false := by simpa using h9
      have HF := hide (Mx.mmay_0 (f := ⟨kind, l, n2, bs⟩) hm (by have := HN.out; show ¬ 9 < l.length; omega))
      clear hm
      go_wp2_with fail
      go_ret
      exact ⟨by rw [HF.out] <;> rfl, B1.out⟩
  · have HF := hide (Mx.mmay_no (f := ⟨kind, l, n2, bs⟩) hm)
    have HE := hide (errV_not hm)
    rw [HE.out]
    clear hm
    go_wp2_with fail
    go_ret
    exact ⟨by rw [HF.out]; dsimp only; rw [HE.out]; rfl, B1.out⟩

namespace Mx
theorem bad_not {x : Int} (h : ¬ badN x) : badNum x = false := by unfold badN at h; unfold badNum; simp; omega
def nbad (l : List Int) : Int := if l.any badNum then 1 else 0
theorem any_at {l : List Int} {k : Nat} (hk : k < l.length) (h : badN (l.getD k 0)) : nbad l = 1 := by
  unfold nbad
  rw [if_pos]
  rw [List.any_eq_true]
  refine ⟨l[k], List.getElem_mem hk, ?_⟩
  rw [List.getD_eq_getElem?_getD, List.getElem?_eq_getElem hk] at h
  unfold badN at h
  unfold badNum
  simp at h ⊢
  omega
theorem any_none {l : List Int} (h : ∀ k, k < l.length → ¬ badN (l.getD k 0)) : nbad l = 0 := by
  unfold nbad
  rw [if_neg]
  intro h1
  rw [List.any_eq_true] at h1
  obtain ⟨x, hx, h2⟩ := h1
  obtain ⟨k, hk, rfl⟩ := List.getElem_of_mem hx
  have h3 := h k hk
  rw [List.getD_eq_getElem?_getD, List.getElem?_eq_getElem hk] at h3
  have h4 := bad_not h3
  simp at h4
  rw [h4] at h2
  cases h2
end Mx

set_option maxHeartbeats 4000000 in
set_option maxRecDepth 100000 in
theorem checkNumbers_any (a : Option Addr) (n c : Nat) (l : List Int) (w : World) (hl : Ints w a n l) (hn : n ≤ 1000) :
    Calls Try.prog 30 #[.slice a n c] w fun e w' => e = .returned (errV (Mx.nbad l)) ∧ w' = w := by
  have HL := hide hl
  have HN := hide hl.1
  clear hl
  go_enter Try.func30, Try.ntmps30
  go_wp2_with fail
  go_loopw [7] (fun t wr => ∃ k : Nat, k ≤ n ∧ t = .int .i64 (k : Int) ∧ Hid (∀ j, j < k → ¬ Mx.badN (l.getD j 0)) ∧ wr = w) (fun t _ => n - (intOf t).toNat)
  case atStart => exact ⟨0, by omega, rfl, hide (fun j hj => absurd hj (by omega)), rfl⟩
  case round =>
    obtain ⟨k, hk, rfl, hG, rfl⟩ := hrel
    by_cases hlt : k < n
    · obtain ⟨b, off, x, hab, _, hx0, e0⟩ := HL.out.at_ k hlt
      subst hab
      have hx := hide hx0.symm
      clear hx0
      by_cases h1 : x < 0
      · have d1 : decide (x < 0) = true := by simpa using h1
        have HF := hide (Mx.any_at (l := l) (k := k) (by rw [HN.out]; exact hlt) (by rw [← hx.out]; exact .inl h1))
        go_wp2_with fail
        go_ret
        exact ⟨by rw [HF.out] <;> rfl, rfl⟩
      · have d1 : decide (x < 0) = false := by simpa using h1
        by_cases h2 : 2147483647 < x
        · have d2 : decide (2147483647 < x) = true := by simpa using h2
          have HF := hide (Mx.any_at (l := l) (k := k) (by rw [HN.out]; exact hlt) (by rw [← hx.out]; exact .inr h2))
          go_wp2_with fail
          go_ret
          exact ⟨by rw [HF.out] <;> rfl, rfl⟩
        · have d2 : decide (2147483647 < x) = false := by simpa using h2
          have HG := hide (show ∀ j, j < k + 1 → ¬ Mx.badN (l.getD j 0) from fun j hj => by
            by_cases hjk : j = k
            · subst hjk
              rw [← hx.out]
              unfold Mx.badN
              omega
            · exact hG.out j (by omega))
          go_wp2_with fail
          go_roundw
          case rel => exact ⟨k + 1, by omega, by go_num, HG, trivial⟩
          case measure => simp [intOf]; omega
    · obtain rfl : k = n := by omega
      have HF := hide (Mx.any_none (l := l) (fun j hj => hG.out j (by rw [HN.out] at hj; exact hj)))
      go_wp2_with fail
      go_ret
      exact ⟨by rw [HF.out] <;> rfl, rfl⟩
end Go.Proofs.Ytfgonmgmoeoedaa

/-
  Senders: what may be (SenderMay, Check); the window.
-/
namespace Go.Proofs.Ytfgonmgmoeoedaa
open Go.RowKit

theorem maxLen_val : maxLen = 9223372036854775807 := rfl

set_option maxHeartbeats 4000000 in
set_option maxRecDepth 100000 in
theorem senderMay_any (ses base : Int) (qa : Option Addr) (qn qc : Nat) (fs : List Fr) (w : World) (hq : FL w qa qn fs) :
    Calls Try.prog 6 #[.agg #[.int .i64 ses, .int .i64 base, .slice qa qn qc]] w fun e w' => e = .returned (.int .i64 (Mx.sdmay ⟨ses, base, fs⟩)) ∧ Below w.heap.size w w' := by
  have hlm : qn ≤ maxLen := hq.2.1
  rw [maxLen_val] at hlm
  have HQ := hide hq
  have HN := hide hq.1
  clear hq
  have X0 := hide (Bx.new w #[.int .i64 ses, .int .i64 base, .slice qa qn qc] 24)
  by_cases h1 : ses < 0
  · have d1 : decide (ses < 0) = true := by simpa using h1
    have HF := hide (Mx.sdmay_1 (s := ⟨ses, base, fs⟩) (.inl (.inl h1)))
    go_enter Try.func6, Try.ntmps6
    go_wp2_with fail
    go_ret
    exact ⟨by rw [HF.out] <;> rfl, below_alloc _ _⟩
  have d1 : decide (ses < 0) = false := by simpa using h1
  by_cases h2 : 2147483647 < ses
  · have d2 : decide (2147483647 < ses) = true := by simpa using h2
    have HF := hide (Mx.sdmay_1 (s := ⟨ses, base, fs⟩) (.inl (.inr h2)))
    go_enter Try.func6, Try.ntmps6
    go_wp2_with fail
    go_ret
    exact ⟨by rw [HF.out] <;> rfl, below_alloc _ _⟩
  have d2 : decide (2147483647 < ses) = false := by simpa using h2
  by_cases h3 : base < 0
  · have d3 : decide (base < 0) = true := by simpa using h3
    have HF := hide (Mx.sdmay_1 (s := ⟨ses, base, fs⟩) (.inr (.inl h3)))
    go_enter Try.func6, Try.ntmps6
    go_wp2_with fail
    go_ret
    exact ⟨by rw [HF.out] <;> rfl, below_alloc _ _⟩
  have d3 : decide (base < 0) = false := by simpa using h3
  by_cases h4 : 2147483647 < base
  · have d4 : decide (2147483647 < base) = true := by simpa using h4
    have HF := hide (Mx.sdmay_1 (s := ⟨ses, base, fs⟩) (.inr (.inr h4)))
    go_enter Try.func6, Try.ntmps6
    go_wp2_with fail
    go_ret
    exact ⟨by rw [HF.out] <;> rfl, below_alloc _ _⟩
  have d4 : decide (2147483647 < base) = false := by simpa using h4
  have HR := hide (show ¬ (Mx.badN ses ∨ Mx.badN base) by unfold Mx.badN; omega)
  by_cases h5 : (64 : Int) < qn
  · have d5 : decide ((64 : Int) < qn) = true := by simpa using h5
    have HF := hide (Mx.sdmay_2 (s := ⟨ses, base, fs⟩) HR.out (by have := HN.out; show 64 < fs.length; omega))
    go_enter Try.func6, Try.ntmps6
    go_wp2_with fail
    go_ret
    exact ⟨by rw [HF.out] <;> rfl, below_alloc _ _⟩
  have d5 : decide ((64 : Int) < qn) = false := by simpa using h5
  have HF := hide (Mx.sdmay_q (s := ⟨ses, base, fs⟩) HR.out (by have := HN.out; show ¬ 64 < fs.length; omega))
  have hq64 : qn ≤ 64 := by omega
  clear h1 h2 h3 h4 h5
  obtain ⟨w1, hw1⟩ : ∃ w1 : World, Hid (w1 = w.alloc (.cells #[.int .i64 ses, .int .i64 base, .slice qa qn qc] 24)) := ⟨_, rfl⟩
  have D1 := hide (show Below w.heap.size w w1 by rw [hw1.out]; exact below_alloc _ _)
  rw [← hw1.out] at X0
  go_enter Try.func6, Try.ntmps6
  go_wp2_with fail
  rw [← hw1.out]
  go_loopw [3] (fun t wr => ∃ k : Nat, k ≤ qn ∧ t = .int .i64 (k : Int) ∧ Hid (∀ g ∈ fs.take k, Mx.mmay g = 0) ∧ Hid (Below w1.heap.size w1 wr)) (fun t _ => qn - (intOf t).toNat)
  case atStart => exact ⟨0, by omega, rfl, hide (fun g hg => by simp at hg), hide (Below.refl _ _)⟩
  case round =>
    obtain ⟨k, hk, rfl, hG, hB⟩ := hrel
    have BF := hide (D1.out.trans (hB.out.mono D1.out.size))
    obtain ⟨f0, f1, f2⟩ := (X0.out.later hB.out X0.out.lt).three
    by_cases hlt : k < qn
    · obtain ⟨b, off, f, a1, n1, c1, a2, c2, hab, hblt, hx, e0, e1, e2, hi, hbk, _⟩ := (HQ.out.later BF.out).at_ k hlt
      subst hab
      have HX := hide hx
      obtain ⟨kd, nm, nb, bs⟩ := f
      dsimp only at e0 e1 e2 hi hbk
      have HI := hide hi
      have HBK := hide hbk
      clear hx hi hbk
      go_wp2_with fail
      refine (messageMay_any kd a1 a2 n1 c1 nb c2 nm bs wr HI.out HBK.out.2.1).mono ?_
      rintro e w2 ⟨rfl, hb2⟩
      have BG := hide (hB.out.trans (hb2.mono hB.out.size))
      by_cases hm : Mx.mmay ⟨kd, nm, nb, bs⟩ = 0
      · have HG := hide (show ∀ g ∈ fs.take (k + 1), Mx.mmay g = 0 from fun g hg => by
          rw [getElem_take_succ _ _ _ HX.out] at hg
          rcases List.mem_append.1 hg with h | h
          · exact hG.out g h
          · simp at h
            subst h
            exact hm)
        rw [hm]
        clear hm
        go_wp2_with fail
        go_roundw
        case rel => exact ⟨k + 1, by omega, by go_num, HG, BG⟩
        case measure => simp [intOf]; omega
      · have HF2 := hide (Mx.qmay_at hG.out HX.out hm)
        have hmb : (Mx.mmay ⟨kd, nm, nb, bs⟩ != 0) = true := by simpa using hm
        clear hm
        go_wp2_with fail
        go_ret
        exact ⟨by rw [HF.out, HF2.out] <;> rfl, D1.out.trans (BG.out.mono D1.out.size)⟩
    · obtain rfl : k = qn := by omega
      have HF2 := hide (Mx.qmay_all (l := fs) (fun g hg => hG.out g (by rw [List.take_of_length_le (by rw [HN.out]; omega)]; exact hg)))
      go_wp2_with fail
      go_ret
      exact ⟨by rw [HF.out, HF2.out] <;> rfl, BF.out⟩

theorem Mx.nbad_two {x y : Int} : Mx.nbad [x, y] = if Mx.badN x ∨ Mx.badN y then 1 else 0 := by
  unfold Mx.nbad Mx.badN Mx.badNum
  simp

set_option maxHeartbeats 4000000 in
set_option maxRecDepth 100000 in
theorem lcheck_any (ses base : Int) (qa : Option Addr) (qn qc : Nat) (fs : List Fr) (w : World) (hq : FL w qa qn fs) :
    Calls Try.prog 26 #[.agg #[.int .i64 ses, .int .i64 base, .slice qa qn qc]] w fun e w' => e = .returned (errV (Mx.sdmay ⟨ses, base, fs⟩)) ∧ Below w.heap.size w w' := by
  have hlm : qn ≤ maxLen := hq.2.1
  rw [maxLen_val] at hlm
  have HQ := hide hq
  have HN := hide hq.1
  clear hq
  obtain ⟨w1, hw1⟩ : ∃ w1 : World, Hid (w1 = (w.alloc (.cells #[.int .i64 ses, .int .i64 base, .slice qa qn qc] 24)).alloc (.cells #[.int .i64 ses, .int .i64 base] 3)) := ⟨_, rfl⟩
  have X1 := hide (show Bx w1 w.heap.size #[.int .i64 ses, .int .i64 base, .slice qa qn qc] 24 by rw [hw1.out]; exact (Bx.new w _ _).alloc _)
  have Z1 := hide (show Bx w1 (w.heap.size + 1) #[.int .i64 ses, .int .i64 base] 3 by
    rw [hw1.out]
    have h := Bx.new (w.alloc (.cells #[.int .i64 ses, .int .i64 base, .slice qa qn qc] 24)) #[.int .i64 ses, .int .i64 base] 3
    rw [World.size_alloc] at h
    exact h)
  have I1 := hide (show Ints w1 (some ⟨w.heap.size + 1, 0, none⟩) 2 [ses, base] from ⟨rfl, by rw [maxLen_val]; omega, fun _ => ⟨w.heap.size + 1, 0, rfl, Z1.out.lt, fun i hi => by
    match i, hi with
    | 0, _ => exact Z1.out.cell 0
    | 1, _ => exact Z1.out.cell 1⟩⟩)
  have D1 := hide (show Below w.heap.size w w1 by rw [hw1.out]; exact (below_alloc _ _).alloc (by simp) _)
  obtain ⟨x0, x1, x2⟩ := X1.out.three
  go_enter Try.func26, Try.ntmps26
  go_wp2_with fail
  rw [← hw1.out]
  refine (checkNumbers_any (some ⟨w.heap.size + 1, 0, none⟩) 2 2 [ses, base] w1 I1.out (by omega)).mono ?_
  rintro e wz ⟨rfl, hz⟩
  obtain rfl := hz.symm
  clear hz
  by_cases hr : Mx.badN ses ∨ Mx.badN base
  · have HB := hide (show Mx.nbad [ses, base] = 1 by rw [Mx.nbad_two, if_pos hr])
    have HF := hide (Mx.sdmay_1 (s := ⟨ses, base, fs⟩) hr)
    have he1 : errV 1 = .iface 28 (.int .i64 1) := rfl
    rw [HB.out, he1]
    clear hr
    go_wp2_with fail
    go_ret
    exact ⟨by rw [HF.out] <;> rfl, D1.out⟩
  have HR := hide hr
  have HB := hide (show Mx.nbad [ses, base] = 0 by rw [Mx.nbad_two, if_neg hr])
  rw [HB.out, errV_zero]
  clear hr
  by_cases h5 : (64 : Int) < qn
  · have d5 : decide ((64 : Int) < qn) = true := by simpa using h5
    have HF := hide (Mx.sdmay_2 (s := ⟨ses, base, fs⟩) HR.out (by have := HN.out; show 64 < fs.length; omega))
    go_wp2_with fail
    go_ret
    exact ⟨by rw [HF.out] <;> rfl, D1.out⟩
  have d5 : decide ((64 : Int) < qn) = false := by simpa using h5
  have HF := hide (Mx.sdmay_q (s := ⟨ses, base, fs⟩) HR.out (by have := HN.out; show ¬ 64 < fs.length; omega))
  have hq64 : qn ≤ 64 := by omega
  clear h5
  go_wp2_with fail
  go_loopw [24] (fun t wr => ∃ k : Nat, k ≤ qn ∧ t = .int .i64 (k : Int) ∧ Hid (∀ g ∈ fs.take k, Mx.mmay g = 0) ∧ Hid (Below w1.heap.size w1 wr)) (fun t _ => qn - (intOf t).toNat)
  case atStart => exact ⟨0, by omega, rfl, hide (fun g hg => by simp at hg), hide (Below.refl _ _)⟩
  case round =>
    obtain ⟨k, hk, rfl, hG, hB⟩ := hrel
    have BF := hide (D1.out.trans (hB.out.mono D1.out.size))
    by_cases hlt : k < qn
    · obtain ⟨b, off, f, a1, n1, c1, a2, c2, hab, hblt, hx, e0, e1, e2, hi, hbk, _⟩ := (HQ.out.later BF.out).at_ k hlt
      subst hab
      have HX := hide hx
      obtain ⟨kd, nm, nb, bs⟩ := f
      dsimp only at e0 e1 e2 hi hbk
      obtain ⟨w2, hw2⟩ : ∃ w2 : World, Hid (w2 = wr.alloc (.cells #[.int .i64 kd, .slice a1 n1 c1, .slice a2 nb c2] 40)) := ⟨_, rfl⟩
      have D2 := hide (show Below wr.heap.size wr w2 by rw [hw2.out]; exact below_alloc _ _)
      have HI := hide (hi.later D2.out)
      have HBK := hide hbk
      have BG2 := hide (hB.out.trans (D2.out.mono hB.out.size))
      clear hx hi hbk
      go_wp2_with fail
      rw [← hw2.out]
      refine (checkMessage_any kd a1 a2 n1 c1 nb c2 nm bs w2 HI.out HBK.out.2.1).mono ?_
      rintro e w3 ⟨rfl, hb3⟩
      have BG := hide (BG2.out.trans (hb3.mono BG2.out.size))
      by_cases hm : Mx.mmay ⟨kd, nm, nb, bs⟩ = 0
      · have HG := hide (show ∀ g ∈ fs.take (k + 1), Mx.mmay g = 0 from fun g hg => by
          rw [getElem_take_succ _ _ _ HX.out] at hg
          rcases List.mem_append.1 hg with h | h
          · exact hG.out g h
          · simp at h
            subst h
            exact hm)
        rw [hm, errV_zero]
        clear hm
        go_wp2_with fail
        go_roundw
        case rel => exact ⟨k + 1, by omega, by go_num, HG, BG⟩
        case measure => simp [intOf]; omega
      · have HF2 := hide (Mx.qmay_at hG.out HX.out hm)
        have HE := hide (errV_not hm)
        rw [HE.out]
        clear hm
        go_wp2_with fail
        go_ret
        exact ⟨by rw [HF.out, HF2.out, HE.out] <;> rfl, D1.out.trans (BG.out.mono D1.out.size)⟩
    · obtain rfl : k = qn := by omega
      have HF2 := hide (Mx.qmay_all (l := fs) (fun g hg => hG.out g (by rw [List.take_of_length_le (by rw [HN.out]; omega)]; exact hg)))
      go_wp2_with fail
      go_ret
      exact ⟨by rw [HF.out, HF2.out] <;> rfl, BF.out⟩
end Go.Proofs.Ytfgonmgmoeoedaa

/-
  Messages in memory of the call's own: copies (slices.Clone at numbers and at blocks), rows of messages, one message more.
-/
namespace Go.Proofs.Ytfgonmgmoeoedaa
open Go.RowKit

theorem Ints.row {w : World} {a : Option Addr} {n : Nat} {l : List Int} (h : Ints w a n l) : RowR w a n 1 (l.map (Value.int .i64)) := by
  obtain ⟨h1, h2, h3⟩ := h
  refine ⟨by rw [List.length_map, h1, Nat.mul_one], h2, fun hp => ?_⟩
  obtain ⟨b, off, ha, hlt, hc⟩ := h3 hp
  refine ⟨b, off, ha, hlt, fun j u hj => ?_⟩
  have hjl : j < l.length := by have := (List.getElem?_eq_some_iff.1 hj).1; simpa using this
  have h4 := hc j (by omega)
  rw [List.getElem?_map, List.getElem?_eq_getElem hjl] at hj
  rw [List.getD_eq_getElem?_getD, List.getElem?_eq_getElem hjl] at h4
  simp at hj h4
  rw [h4, hj]
theorem Ints.of_row {w : World} {a : Option Addr} {n : Nat} {l : List Int} (hl : l.length = n) (h : RowR w a n 1 (l.map (Value.int .i64))) : Ints w a n l := by
  obtain ⟨_, h2, h3⟩ := h
  refine ⟨hl, h2, fun hp => ?_⟩
  obtain ⟨b, off, ha, hlt, hc⟩ := h3 hp
  refine ⟨b, off, ha, hlt, fun i hi => ?_⟩
  have hil : i < l.length := by omega
  refine hc i _ ?_
  rw [List.getElem?_map, List.getElem?_eq_getElem hil, List.getD_eq_getElem?_getD, List.getElem?_eq_getElem hil]
  rfl
theorem Blks.row {w : World} {a : Option Addr} {n : Nat} {l : List Int} (h : Blks w a n l) : RowR w a n 8 (l.map (Value.int .u8)) := by
  obtain ⟨h1, h2, _, h3⟩ := h
  refine ⟨by rw [List.length_map, h1, Nat.mul_comm], h2, fun hp => ?_⟩
  obtain ⟨b, off, ha, hlt, hc⟩ := h3 hp
  refine ⟨b, off, ha, hlt, fun j u hj => ?_⟩
  have hjl : j < l.length := by have := (List.getElem?_eq_some_iff.1 hj).1; simpa using this
  have h4 := hc j (by omega)
  rw [List.getElem?_map, List.getElem?_eq_getElem hjl] at hj
  rw [List.getD_eq_getElem?_getD, List.getElem?_eq_getElem hjl] at h4
  simp at hj h4
  rw [h4, hj]
theorem Blks.of_row {w : World} {a : Option Addr} {n : Nat} {l : List Int} (hl : l.length = 8 * n) (hb : ∀ x ∈ l, 0 ≤ x ∧ x ≤ 255) (h : RowR w a n 8 (l.map (Value.int .u8))) : Blks w a n l := by
  obtain ⟨_, h2, h3⟩ := h
  refine ⟨hl, h2, hb, fun hp => ?_⟩
  obtain ⟨b, off, ha, hlt, hc⟩ := h3 hp
  refine ⟨b, off, ha, hlt, fun i hi => ?_⟩
  have hil : i < l.length := by omega
  refine hc i _ ?_
  rw [List.getElem?_map, List.getElem?_eq_getElem hil, List.getD_eq_getElem?_getD, List.getElem?_eq_getElem hil]
  rfl
theorem RowR.grownBy {w w' : World} {a : Option Addr} {n size : Nat} {xs : List Value} {row : Option Nat} (h : RowR w a n size xs) (hg : w.grownBy w' row) (hne : 0 < n → ∀ p, a = some p → row ≠ some p.block) : RowR w' a n size xs := by
  obtain ⟨h1, h2, h3⟩ := h
  refine ⟨h1, h2, fun hp => ?_⟩
  obtain ⟨b, off, ha, hlt, hc⟩ := h3 hp
  exact ⟨b, off, ha, by have := hg.size; omega, fun j u hj => hg.cell (hc j u hj) (fun e => hne hp _ ha e.symm)⟩
theorem Ints.grownBy {w w' : World} {a : Option Addr} {n : Nat} {l : List Int} {row : Option Nat} (h : Ints w a n l) (hg : w.grownBy w' row) (hne : 0 < n → ∀ p, a = some p → row ≠ some p.block) : Ints w' a n l := Ints.of_row h.1 (h.row.grownBy hg hne)
theorem Blks.grownBy {w w' : World} {a : Option Addr} {n : Nat} {l : List Int} {row : Option Nat} (h : Blks w a n l) (hg : w.grownBy w' row) (hne : 0 < n → ∀ p, a = some p → row ≠ some p.block) : Blks w' a n l := Blks.of_row h.1 h.2.2.1 (h.row.grownBy hg hne)
theorem RowR.off {w : World} {a : Option Addr} {n size : Nat} {xs : List Value} (h : RowR w a n size xs) : 0 < n → ∀ p, a = some p → p.block < w.heap.size := by
  intro h0 p hp
  obtain ⟨b, off, ha, hlt, _⟩ := h.2.2 h0
  rw [ha] at hp
  cases hp
  exact hlt

set_option maxHeartbeats 1000000 in
set_option maxRecDepth 100000 in
theorem cloneI_any (a : Option Addr) (n c : Nat) (l : List Int) (w : World) (hl : Ints w a n l) (hn : n ≤ 1000000) :
    Calls Try.prog 47 #[.slice a n c] w fun e w' => ∃ a2 c2, e = .returned (.slice a2 n c2) ∧ Hid (Ints w' a2 n l) ∧ Hid (n ≤ c2) ∧ Hid (∀ p, a2 = some p → w.heap.size ≤ p.block) ∧ Hid (Below w.heap.size w w') := by
  have q : ∀ (w : World) (a : Option Addr) (n c n' c' : Nat), (binOp .eql 37 (.slice a n c) (.slice none n' c')).run Try.prog w = .ok (.bool a.isNone) w := fun w a n c n' c' => Lib.run_eql_slice_nil w _ _ a n c n' c' Try.underlying37
  have HR := hide hl.row
  have HN := hide hl.1
  clear hl
  cases a with
  | none =>
    obtain ⟨rfl, hx⟩ := rowR_empty HR.out
    have HX := hide (show l = [] from List.eq_nil_of_length_eq_zero HN.out)
    clear hx
    go_enter Try.func47, Try.ntmps47
    go_wp2
    go_ret
    exact ⟨none, 0, rfl, hide (by rw [HX.out]; exact ⟨rfl, by rw [maxLen_val]; omega, fun h => absurd h (by omega)⟩), hide (Nat.le_refl _), hide (fun p hp => by cases hp), hide (Below.refl _ _)⟩
  | some ad =>
    go_enter Try.func47, Try.ntmps47
    obtain ⟨i0, hi, hz0, hz1, hz2⟩ := info_parts Try.info3
    go_wp2_with (at_builtin; refine wpList_append_own _ rfl _ _ 37 rfl w.heap.size 3 i0 _ 1 8 Try.underlying37 hi hz0 hz1 hz2 rfl (by decide) _ _ _ rfl (World.ownsRow_made w #[] 0 (Nat.le_refl _) (Nat.zero_le _) (by simp)) ad n c (l.map (Value.int .i64)) rfl ?qc1 ?qc2 ?qc3 ?qc4 ?qc5 ?qc6 ?_)
    case qc1 => exact HR.out.1
    case qc2 =>
      intro j u hj
      rcases Nat.eq_zero_or_pos n with h | h
      · subst h
        rw [rowR_zero HR.out] at hj
        simp at hj
      · obtain ⟨b, off, hb, hlt, hc⟩ := HR.out.2.2 h
        cases hb
        rw [Addr.add_lit]
        exact Lib.cell?_alloc_some _ (hc j u hj)
    case qc3 =>
      intro u hu
      obtain ⟨z, _, rfl⟩ := List.mem_map.1 hu
      rfl
    case qc4 => rw [maxLen_val]; omega
    case qc5 => omega
    case qc6 => simp
    intro v' w1 hown hgrow hnil
    have HO := hide hown
    have HG := hide hgrow
    clear hown hgrow hnil
    obtain ⟨a2, c2, hv, hc, hr, ha⟩ := ownsRow_rowR HO.out
    subst hv
    have HP := hide (show Ints w1 a2 n l from Ints.of_row HN.out hr)
    have HA := hide ha
    clear hr ha
    go_wp2
    go_ret
    exact ⟨a2, c2, rfl, HP, hide hc, HA, hide (((Below.refl _ w).alloc (Nat.le_refl _) _).grown HG.out (by simp) (by intro k hk; simp [Value.ownBlock] at hk; omega))⟩

set_option maxHeartbeats 1000000 in
set_option maxRecDepth 100000 in
theorem cloneK_any (a : Option Addr) (n c : Nat) (l : List Int) (w : World) (hl : Blks w a n l) (hn : n ≤ 1000000) :
    Calls Try.prog 48 #[.slice a n c] w fun e w' => ∃ a2 c2, e = .returned (.slice a2 n c2) ∧ Hid (Blks w' a2 n l) ∧ Hid (n ≤ c2) ∧ Hid (∀ p, a2 = some p → w.heap.size ≤ p.block) ∧ Hid (Below w.heap.size w w') := by
  have q : ∀ (w : World) (a : Option Addr) (n c n' c' : Nat), (binOp .eql 38 (.slice a n c) (.slice none n' c')).run Try.prog w = .ok (.bool a.isNone) w := fun w a n c n' c' => Lib.run_eql_slice_nil w _ _ a n c n' c' Try.underlying38
  have HR := hide hl.row
  have HN := hide hl.1
  have HBD := hide hl.2.2.1
  clear hl
  cases a with
  | none =>
    obtain ⟨rfl, hx⟩ := rowR_empty HR.out
    have HX := hide (show l = [] from List.eq_nil_of_length_eq_zero HN.out)
    clear hx
    go_enter Try.func48, Try.ntmps48
    go_wp2
    go_ret
    exact ⟨none, 0, rfl, hide (by rw [HX.out]; exact ⟨rfl, by rw [maxLen_val]; omega, by simp, fun h => absurd h (by omega)⟩), hide (Nat.le_refl _), hide (fun p hp => by cases hp), hide (Below.refl _ _)⟩
  | some ad =>
    go_enter Try.func48, Try.ntmps48
    obtain ⟨i0, hi, hz0, hz1, hz2⟩ := info_parts Try.info79
    go_wp2_with (at_builtin; refine wpList_append_own _ rfl _ _ 38 rfl w.heap.size 79 i0 _ 8 8 Try.underlying38 hi hz0 hz1 hz2 rfl (by decide) _ _ _ rfl (World.ownsRow_made w #[] 0 (Nat.le_refl _) (Nat.zero_le _) (by simp)) ad n c (l.map (Value.int .u8)) rfl ?qc1 ?qc2 ?qc3 ?qc4 ?qc5 ?qc6 ?_)
    case qc1 => exact HR.out.1
    case qc2 =>
      intro j u hj
      rcases Nat.eq_zero_or_pos n with h | h
      · subst h
        rw [rowR_zero HR.out] at hj
        simp at hj
      · obtain ⟨b, off, hb, hlt, hc⟩ := HR.out.2.2 h
        cases hb
        rw [Addr.add_lit]
        exact Lib.cell?_alloc_some _ (hc j u hj)
    case qc3 =>
      intro u hu
      obtain ⟨z, _, rfl⟩ := List.mem_map.1 hu
      rfl
    case qc4 => rw [maxLen_val]; omega
    case qc5 => omega
    case qc6 => simp
    intro v' w1 hown hgrow hnil
    have HO := hide hown
    have HG := hide hgrow
    clear hown hgrow hnil
    obtain ⟨a2, c2, hv, hc, hr, ha⟩ := ownsRow_rowR HO.out
    subst hv
    have HP := hide (show Blks w1 a2 n l from Blks.of_row HN.out HBD.out hr)
    have HA := hide ha
    clear hr ha
    go_wp2
    go_ret
    exact ⟨a2, c2, rfl, HP, hide hc, HA, hide (((Below.refl _ w).alloc (Nat.le_refl _) _).grown HG.out (by simp) (by intro k hk; simp [Value.ownBlock] at hk; omega))⟩

/-- messages, read, all of it in blocks from B on -/
def FLA (B : Nat) (w : World) (a : Option Addr) (k : Nat) (fs : List Fr) : Prop :=
  fs.length = k ∧ k ≤ maxLen ∧ (0 < k → ∃ b off, a = some ⟨b, off, none⟩ ∧ B ≤ b ∧ b < w.heap.size ∧ ∀ i f, fs[i]? = some f → ∃ a1 n1 c1 a2 c2, w.cell? ⟨b, off + i * 3, none⟩ = some (.int .i64 f.kind) ∧ w.cell? ⟨b, off + i * 3 + 1, none⟩ = some (.slice a1 n1 c1) ∧ w.cell? ⟨b, off + i * 3 + 2, none⟩ = some (.slice a2 f.nb c2) ∧ Ints w a1 n1 f.nums ∧ Blks w a2 f.nb f.bs ∧ n1 ≤ c1 ∧ f.nb ≤ c2 ∧ (0 < n1 → ∀ p, a1 = some p → B ≤ p.block) ∧ (0 < f.nb → ∀ p, a2 = some p → B ≤ p.block))
theorem FLA.nil (B : Nat) (w : World) : FLA B w none 0 [] := ⟨rfl, by rw [maxLen_val]; omega, fun h => absurd h (by omega)⟩
theorem FLA.fl {B : Nat} {w : World} {a : Option Addr} {k : Nat} {fs : List Fr} (h : FLA B w a k fs) : FL w a k fs := by
  obtain ⟨h1, h2, h4⟩ := h
  refine ⟨h1, h2, fun hp => ?_⟩
  obtain ⟨b, off, ha, _, hlt, hc⟩ := h4 hp
  refine ⟨b, off, ha, hlt, fun i f hf => ?_⟩
  obtain ⟨a1, n1, c1, a2, c2, e1, e2, e3, e4, e5, e6, e7, _⟩ := hc i f hf
  exact ⟨a1, n1, c1, a2, c2, e1, e2, e3, e4, e5, e6, e7⟩
theorem FLA.later {B : Nat} {w w' : World} {a : Option Addr} {k : Nat} {fs : List Fr} (h : FLA B w a k fs) (hb : Below w.heap.size w w') : FLA B w' a k fs := by
  obtain ⟨h1, h2, h4⟩ := h
  refine ⟨h1, h2, fun hp => ?_⟩
  obtain ⟨b, off, ha, hB, hlt, hc⟩ := h4 hp
  refine ⟨b, off, ha, hB, by have := hb.size; omega, fun i f hf => ?_⟩
  obtain ⟨a1, n1, c1, a2, c2, e1, e2, e3, e4, e5, e6⟩ := hc i f hf
  exact ⟨a1, n1, c1, a2, c2, (hb.cell (p := ⟨b, off + i * 3, none⟩) hlt).trans e1, (hb.cell (p := ⟨b, off + i * 3 + 1, none⟩) hlt).trans e2, (hb.cell (p := ⟨b, off + i * 3 + 2, none⟩) hlt).trans e3, e4.later hb, e5.later hb, e6⟩
/-- a block below B may be written into -/
theorem FLA.grown {B g : Nat} {w w' : World} {a : Option Addr} {k : Nat} {fs : List Fr} (h : FLA B w a k fs) (hg : w.grownBy w' (some g)) (hB : g < B) : FLA B w' a k fs := by
  obtain ⟨h1, h2, h4⟩ := h
  refine ⟨h1, h2, fun hp => ?_⟩
  obtain ⟨b, off, ha, hb, hlt, hc⟩ := h4 hp
  have hne : ∀ o, some (⟨b, o, none⟩ : Addr).block ≠ some g := fun o e => by have : b = g := Option.some.inj e; omega
  refine ⟨b, off, ha, hb, by have := hg.size; omega, fun i f hf => ?_⟩
  obtain ⟨a1, n1, c1, a2, c2, e1, e2, e3, e4, e5, e6, e7, e8, e9⟩ := hc i f hf
  exact ⟨a1, n1, c1, a2, c2, hg.cell e1 (hne _), hg.cell e2 (hne _), hg.cell e3 (hne _), e4.grownBy hg (fun h0 p hp e => by have := e8 h0 p hp; have : g = p.block := Option.some.inj e; omega), e5.grownBy hg (fun h0 p hp e => by have := e9 h0 p hp; have : g = p.block := Option.some.inj e; omega), e6, e7, e8, e9⟩

/-- what cells say of messages -/
def Fps (B : Nat) (w : World) (vs : List Value) (fs : List Fr) (row : Option Nat) : Prop :=
  ∀ (i : Nat) (f : Fr), fs[i]? = some f → ∃ (a1 : Option Addr) (n1 c1 : Nat) (a2 : Option Addr) (c2 : Nat), vs[i * 3]? = some (.int .i64 f.kind) ∧ vs[i * 3 + 1]? = some (.slice a1 n1 c1) ∧ vs[i * 3 + 2]? = some (.slice a2 f.nb c2) ∧ Ints w a1 n1 f.nums ∧ Blks w a2 f.nb f.bs ∧ n1 ≤ c1 ∧ f.nb ≤ c2 ∧
    (0 < n1 → ∀ p, a1 = some p → row ≠ some p.block ∧ B ≤ p.block) ∧ (0 < f.nb → ∀ p, a2 = some p → row ≠ some p.block ∧ B ≤ p.block)
/-- messages in a row of the call's own; their numbers and blocks lie elsewhere, from B on -/
def OwnFL (B : Nat) (w : World) (base : Nat) (v : Value) (fs : List Fr) : Prop := ∃ vs : List Value, w.ownsRow base 40 3 v fs.length vs ∧ Fps B w vs fs v.ownBlock
theorem Try.infoFr : (Try.prog.info? 40).map (fun i => (i.zero, i.size, i.bytes)) = some (some (.agg #[.int .i64 0, .slice none 0 0, .slice none 0 0]), 3, 56) := by kernel_rfl
theorem OwnFL.nil (B : Nat) (w : World) (base : Nat) : OwnFL B w base (.slice none 0 0) [] := ⟨[], World.ownsRow_nil w base _ 3, fun i e he => by simp at he⟩
theorem OwnFL.later {B : Nat} {w w' : World} {base : Nat} {v : Value} {fs : List Fr} (h : OwnFL B w base v fs) (hb : Below w.heap.size w w') : OwnFL B w' base v fs := by
  obtain ⟨vs, h1, h2⟩ := h
  refine ⟨vs, rowKept h1 hb, fun i f hf => ?_⟩
  obtain ⟨a1, n1, c1, a2, c2, e1, e2, e3, e4, e5, e6⟩ := h2 i f hf
  exact ⟨a1, n1, c1, a2, c2, e1, e2, e3, e4.later hb, e5.later hb, e6⟩
theorem OwnFL.lt {B : Nat} {w : World} {base : Nat} {v : Value} {fs : List Fr} (h : OwnFL B w base v fs) : ∀ k, v.ownBlock = some k → base ≤ k ∧ k < w.heap.size := by
  obtain ⟨vs, h1, _⟩ := h
  exact World.ownsRow.lt h1
theorem OwnFL.fla {B : Nat} {w : World} {base : Nat} {v : Value} {fs : List Fr} (h : OwnFL B w base v fs) (hB : B ≤ base) : ∃ a c, v = .slice a fs.length c ∧ fs.length ≤ c ∧ FLA B w a fs.length fs := by
  obtain ⟨vs, h1, h2⟩ := h
  obtain ⟨a, c, hv, hle, hr, hp⟩ := ownsRow_rowR h1
  refine ⟨a, c, hv, hle, rfl, hr.2.1, fun h0 => ?_⟩
  obtain ⟨b, off, ha, hlt, hc⟩ := hr.2.2 h0
  have hbb : base ≤ b := hp _ ha
  refine ⟨b, off, ha, by omega, hlt, fun i f hf => ?_⟩
  obtain ⟨a1, n1, c1, a2, c2, e1, e2, e3, e4, e5, e6, e7, e8, e9⟩ := h2 i f hf
  exact ⟨a1, n1, c1, a2, c2, hc _ _ e1, hc _ _ e2, hc _ _ e3, e4, e5, e6, e7, fun h0 p hp => (e8 h0 p hp).2, fun h0 p hp => (e9 h0 p hp).2⟩

theorem fps_after {w w' : World} {B base m : Nat} {v v' : Value} {fs fs2 : List Fr} {vs news : List Value} (h1 : w.ownsRow base 40 3 v fs.length vs) (h2 : Fps B w vs fs v.ownBlock) (hfs : Fps B w news fs2 v.ownBlock) (hm : fs2.length = m)
    (hown' : w'.ownsRow base 40 3 v' (fs.length + m) (vs ++ news)) (hg : w.grownBy w' v.ownBlock) (hat : v'.ownBlock = v.ownBlock ∨ v'.ownBlock = some w.heap.size) : OwnFL B w' base v' (fs ++ fs2) := by
  have hvne : ∀ (p : Addr), p.block < w.heap.size → v.ownBlock ≠ some p.block → v'.ownBlock ≠ some p.block := by
    intro p hlt hne e
    rcases hat with h | h
    · exact hne (h.symm.trans e)
    · rw [h] at e
      simp at e
      omega
  have hvl : vs.length = fs.length * 3 := h1.1
  have fI : ∀ {a' : Option Addr} {n' : Nat} {l : List Int}, Ints w a' n' l → (0 < n' → ∀ p, a' = some p → v.ownBlock ≠ some p.block ∧ B ≤ p.block) → Ints w' a' n' l ∧ (0 < n' → ∀ p, a' = some p → v'.ownBlock ≠ some p.block ∧ B ≤ p.block) :=
    fun hp hne => ⟨hp.grownBy hg (fun h0 p hpa => (hne h0 p hpa).1), fun h0 p hpa => ⟨hvne _ (hp.row.off h0 p hpa) (hne h0 p hpa).1, (hne h0 p hpa).2⟩⟩
  have fK : ∀ {a' : Option Addr} {n' : Nat} {l : List Int}, Blks w a' n' l → (0 < n' → ∀ p, a' = some p → v.ownBlock ≠ some p.block ∧ B ≤ p.block) → Blks w' a' n' l ∧ (0 < n' → ∀ p, a' = some p → v'.ownBlock ≠ some p.block ∧ B ≤ p.block) :=
    fun hp hne => ⟨hp.grownBy hg (fun h0 p hpa => (hne h0 p hpa).1), fun h0 p hpa => ⟨hvne _ (hp.row.off h0 p hpa) (hne h0 p hpa).1, (hne h0 p hpa).2⟩⟩
  refine ⟨vs ++ news, by rw [List.length_append, hm]; exact hown', fun i f hf => ?_⟩
  by_cases hi' : i < fs.length
  · rw [List.getElem?_append_left hi'] at hf
    obtain ⟨a1, n1, c1, a2, c2, e1, e2, e3, e4, e5, e6, e7, e8, e9⟩ := h2 i f hf
    have g1 := fI e4 e8
    have g2 := fK e5 e9
    exact ⟨a1, n1, c1, a2, c2, by rw [List.getElem?_append_left (by omega)]; exact e1, by rw [List.getElem?_append_left (by omega)]; exact e2, by rw [List.getElem?_append_left (by omega)]; exact e3, g1.1, g2.1, e6, e7, g1.2, g2.2⟩
  · rw [List.getElem?_append_right (by omega)] at hf
    obtain ⟨a1, n1, c1, a2, c2, e1, e2, e3, e4, e5, e6, e7, e8, e9⟩ := hfs _ f hf
    have g1 := fI e4 e8
    have g2 := fK e5 e9
    refine ⟨a1, n1, c1, a2, c2, ?_, ?_, ?_, g1.1, g2.1, e6, e7, g1.2, g2.2⟩
    · rw [List.getElem?_append_right (by omega), hvl, show i * 3 - fs.length * 3 = (i - fs.length) * 3 by omega]
      exact e1
    · rw [List.getElem?_append_right (by omega), hvl, show i * 3 + 1 - fs.length * 3 = (i - fs.length) * 3 + 1 by omega]
      exact e2
    · rw [List.getElem?_append_right (by omega), hvl, show i * 3 + 2 - fs.length * 3 = (i - fs.length) * 3 + 2 by omega]
      exact e3

/-- one message more -/
theorem run_append_fr {w : World} (ty : TypeId) (B base : Nat) (v : Value) (fs : List Fr) (hown : OwnFL B w base v fs) (h0 : Nat) (kd : Int) (a1 : Option Addr) (n1 c1 : Nat) (a2 : Option Addr) (n2 c2 : Nat) (nm bs : List Int)
    (hB : Bx w h0 #[.int .i64 kd, .slice a1 n1 c1, .slice a2 n2 c2] 40) (hi : Ints w a1 n1 nm) (hk : Blks w a2 n2 bs) (hc1 : n1 ≤ c1) (hc2 : n2 ≤ c2)
    (hp1 : 0 < n1 → ∀ p, a1 = some p → v.ownBlock ≠ some p.block ∧ B ≤ p.block) (hp2 : 0 < n2 → ∀ p, a2 = some p → v.ownBlock ≠ some p.block ∧ B ≤ p.block) (hl : fs.length ≤ 100000) (hbase : base ≤ w.heap.size) :
    ∃ v' w', (Builtin.append_ #[22, 22] ty #[v, .slice (some ⟨h0, 0, none⟩) 1 1]).run Try.prog w = .ok v' w' ∧ OwnFL B w' base v' (fs ++ [⟨kd, nm, n2, bs⟩]) ∧ w.grownBy w' v.ownBlock := by
  obtain ⟨vs, h1, h2⟩ := hown
  obtain ⟨i0, hi0, hz0, hz1, hz2⟩ := info_parts Try.infoFr
  obtain ⟨v', w', hr, hown', hg, _, hat⟩ := run_append_own_at (P := Try.prog) w base 22 ty 40 i0 _ 3 56 Try.underlying22 hi0 hz0 hz1 hz2 rfl (by decide) v fs.length vs h1 ⟨h0, 0, none⟩ 1 1 [.int .i64 kd, .slice a1 n1 c1, .slice a2 n2 c2] rfl (fun j u hj => by
    rw [Addr.add_lit, Nat.zero_add, hB.cell j]
    simpa using hj) (by simp [Value.oneCell']) (by rw [maxLen_val]; omega) (by omega) hbase
  refine ⟨v', w', hr, fps_after h1 h2 (fun i f hf => ?_) rfl hown' hg hat, hg⟩
  match i, hf with
  | 0, hf =>
    simp at hf
    subst hf
    exact ⟨a1, n1, c1, a2, c2, rfl, rfl, rfl, hi, hk, hc1, hc2, hp1, hp2⟩
  | i + 1, hf => simp at hf

theorem step_append_fr {ops : Array Oper} {o : Oper} {a : Act} {w : World} {K : Act → World → Prop} {Q : Exit → Act → World → Prop} {E : Prop} (hgd : o.guard = none) (s y : Operand)
    (ho : o.op = Op.call { callee := Callee.builtin Builtin.append, args := #[s, y], argTypes := #[22, 22] }) (B base : Nat) {v : Value} {fs : List Fr} (hs : a.eval s = v) (hown : OwnFL B w base v fs) (h0 : Nat) {kd : Int} {a1 : Option Addr} {n1 c1 : Nat} {a2 : Option Addr} {n2 c2 : Nat} {nm bs : List Int}
    (hy : a.eval y = .slice (some ⟨h0, 0, none⟩) 1 1) (hB : Bx w h0 #[.int .i64 kd, .slice a1 n1 c1, .slice a2 n2 c2] 40) (hi : Ints w a1 n1 nm) (hk : Blks w a2 n2 bs) (hc1 : n1 ≤ c1) (hc2 : n2 ≤ c2)
    (hp1 : 0 < n1 → ∀ p, a1 = some p → v.ownBlock ≠ some p.block ∧ B ≤ p.block) (hp2 : 0 < n2 → ∀ p, a2 = some p → v.ownBlock ≠ some p.block ∧ B ≤ p.block) (hl : fs.length ≤ 100000) (hbase : base ≤ w.heap.size)
    (hK : ∀ v' w', Hid (OwnFL B w' base v' (fs ++ [⟨kd, nm, n2, bs⟩])) → Hid (w.grownBy w' v.ownBlock) → K (a.put o.dst v') w') :
    if Region.wanted o (yielded ops a.tmps) = true then Oper.wp Try.prog o a w K Q else E := by
  have hw : Region.wanted o (yielded ops a.tmps) = true := by simp [Region.wanted, hgd]
  rw [if_pos hw]
  subst hs
  obtain ⟨v', w', hr, h1, h2⟩ := run_append_fr o.type B base (a.eval s) fs hown h0 kd a1 n1 c1 a2 n2 c2 nm bs hB hi hk hc1 hc2 hp1 hp2 hl hbase
  unfold Oper.wp execOp
  simp only [ho, resolve, invoke, builtin, Sem.run_bind, Sem.run_pure, Result.andThen_ok, List.map_toArray, List.map_cons, List.map_nil, hy, hr]
  exact hK _ _ h1 h2
end Go.Proofs.Ytfgonmgmoeoedaa

/-
  A message in memory of its own (clone); messages (fresh).
-/
namespace Go.Proofs.Ytfgonmgmoeoedaa
open Go.RowKit

theorem ld_below {w1 w2 : World} (h : Below w1.drew.heap.size w1.drew w2) : Below w1.heap.size w1 w2 := (Below.refl _ _).drew.trans h

theorem Bx.three_set {w : World} {g : Nat} {a0 a1 a2 : Value} {t : TypeId} (h : Bx w g #[a0, a1, a2] t) (s0 s1 s2 : Value) : Bx (((w.setCell ⟨g, 0, none⟩ s0).setCell ⟨g, 1, none⟩ s1).setCell ⟨g, 2, none⟩ s2) g #[s0, s1, s2] t := ((h.set 0 s0).set 1 s1).set 2 s2
def set3 (w : World) (g : Nat) (s0 s1 s2 : Value) : World := ((w.setCell ⟨g, 0, none⟩ s0).setCell ⟨g, 1, none⟩ s1).setCell ⟨g, 2, none⟩ s2
theorem set3_below {B g : Nat} {w w' : World} (h : Below B w w') (hg : B ≤ g) (s0 s1 s2 : Value) : Below B w (set3 w' g s0 s1 s2) := ((h.setCell (p := ⟨g, 0, none⟩) hg _).setCell (p := ⟨g, 1, none⟩) hg _).setCell (p := ⟨g, 2, none⟩) hg _
theorem set3_grown {w w' : World} {g : Nat} (h : w.grownBy w' (some g)) (s0 s1 s2 : Value) : w.grownBy (set3 w' g s0 s1 s2) (some g) := grow_set (grow_set (grow_set h _ _) _ _) _ _

/-- a message, copied -/
def FrA (B : Nat) (w : World) (v : Value) (f : Fr) : Prop :=
  ∃ (a1 : Option Addr) (n1 c1 : Nat) (a2 : Option Addr) (c2 : Nat), v = .agg #[.int .i64 f.kind, .slice a1 n1 c1, .slice a2 f.nb c2] ∧ Ints w a1 n1 f.nums ∧ Blks w a2 f.nb f.bs ∧ n1 ≤ c1 ∧ f.nb ≤ c2 ∧ (0 < n1 → ∀ p, a1 = some p → B ≤ p.block) ∧ (0 < f.nb → ∀ p, a2 = some p → B ≤ p.block)

set_option maxHeartbeats 4000000 in
set_option maxRecDepth 100000 in
theorem lclone_any (kd : Int) (a1 a2 : Option Addr) (n1 c1 n2 c2 : Nat) (l bs : List Int) (w : World) (h1 : Ints w a1 n1 l) (h2 : Blks w a2 n2 bs) (hn1 : n1 ≤ 1000) (hn2 : n2 ≤ 1000) :
    Calls Try.prog 38 #[.agg #[.int .i64 kd, .slice a1 n1 c1, .slice a2 n2 c2]] w fun e w' => ∃ v, e = .returned v ∧ Hid (FrA w.heap.size w' v ⟨kd, l, n2, bs⟩) ∧ Hid (Below w.heap.size w w') := by
  obtain ⟨W0, hW0⟩ : ∃ W0 : World, Hid (W0 = (w.alloc (.cells #[.int .i64 kd, .slice a1 n1 c1, .slice a2 n2 c2] 40)).alloc (.cells #[.int .i64 0, .slice none 0 0, .slice none 0 0] 40)) := ⟨_, rfl⟩
  have X0 := hide (show Bx W0 w.heap.size #[.int .i64 kd, .slice a1 n1 c1, .slice a2 n2 c2] 40 by rw [hW0.out]; exact (Bx.new w _ _).alloc _)
  have R0 := hide (show Bx W0 (w.heap.size + 1) #[.int .i64 0, .slice none 0 0, .slice none 0 0] 40 by
    rw [hW0.out]
    have h := Bx.new (w.alloc (.cells #[.int .i64 kd, .slice a1 n1 c1, .slice a2 n2 c2] 40)) #[.int .i64 0, .slice none 0 0, .slice none 0 0] 40
    rw [World.size_alloc] at h
    exact h)
  have D0 := hide (show Below w.heap.size w W0 by rw [hW0.out]; exact (below_alloc _ _).alloc (by simp) _)
  have HI := hide (h1.later D0.out)
  have HK := hide (h2.later D0.out)
  have hx0 : w.heap.size < W0.heap.size := X0.out.lt
  have hr0 : w.heap.size + 1 < W0.heap.size := R0.out.lt
  have hrx : ¬ w.heap.size + 1 = w.heap.size := by omega
  have hi6 : n1 ≤ 1000000 := by omega
  have hk6 : n2 ≤ 1000000 := by omega
  clear h1 h2
  obtain ⟨b0, b1, b2⟩ := X0.out.three
  go_enter Try.func38, Try.ntmps38
  go_wp2_with fail
  rw [← hW0.out]
  go_region_held3 (fun w' => w'.cell? ⟨w.heap.size, 0, none⟩ = some (.int .i64 kd) ∧ w'.cell? ⟨w.heap.size, 1, none⟩ = some (.slice a1 n1 c1) ∧ w'.cell? ⟨w.heap.size, 2, none⟩ = some (.slice a2 n2 c2))
    (first
      | with_reducible exact ⟨b0, b1, b2⟩
      | (simp only [cell_drew]; with_reducible exact ⟨b0, b1, b2⟩)
      | with_reducible exact ⟨d0, d1, d2⟩
      | with_reducible exact ⟨e0, e1, e2⟩
      | (simp only [cell_set_far hrx]; with_reducible exact ⟨d0, d1, d2⟩))
    (first
      | (go_at_call 47; (with_reducible refine (cloneI_any a1 n1 c1 l W0.drew (HI.out.later (Below.refl _ _).drew) hi6).mono ?_); rintro e w2 ⟨x1, k1, rfl, P1, C1, A1, B1⟩; have D2 := hide (ld_below B1.out); obtain ⟨e0, e1, e2⟩ := (X0.out.later D2.out hx0).three)
      | (go_at_call 48; (with_reducible refine (cloneK_any a2 n2 c2 bs W0.drew (HK.out.later (Below.refl _ _).drew) hk6).mono ?_); rintro e w2 ⟨x2, k2, rfl, P2, C2, A2, B2⟩; have D2 := hide (ld_below B2.out); obtain ⟨e0, e1, e2⟩ := (X0.out.later D2.out hx0).three)
      | (go_at_call 48; (with_reducible refine (cloneK_any a2 n2 c2 bs w2 (HK.out.later D2.out) hk6).mono ?_); rintro e w3 ⟨x2, k2, rfl, P2', C2, A2', B2⟩; have D3 := hide (show Below W0.heap.size W0 w3 from D2.out.trans (B2.out.mono D2.out.size)); have P1' := hide (P1.out.later B2.out); have A1' := hide (show ∀ p, x1 = some p → W0.heap.size ≤ p.block from A1.out); have A2'' := hide (show ∀ p, x2 = some p → W0.heap.size ≤ p.block from fun p hp => Nat.le_trans D2.out.size (A2'.out p hp)); obtain ⟨d0, d1, d2⟩ := (X0.out.later D3.out hx0).three; have R3 := hide (R0.out.later D3.out hr0); obtain ⟨r0, r1, r2⟩ := R3.out.three; have rz := R3.out.frozen)
      | (go_at_call 47; (with_reducible refine (cloneI_any a1 n1 c1 l w2 (HI.out.later D2.out) hi6).mono ?_); rintro e w3 ⟨x1, k1, rfl, P1', C1, A1, B1⟩; have D3 := hide (show Below W0.heap.size W0 w3 from D2.out.trans (B1.out.mono D2.out.size)); have P2' := hide (P2.out.later B1.out); have A2'' := hide (show ∀ p, x2 = some p → W0.heap.size ≤ p.block from A2.out); have A1' := hide (show ∀ p, x1 = some p → W0.heap.size ≤ p.block from fun p hp => Nat.le_trans D2.out.size (A1.out p hp)); obtain ⟨d0, d1, d2⟩ := (X0.out.later D3.out hx0).three; have R3 := hide (R0.out.later D3.out hr0); obtain ⟨r0, r1, r2⟩ := R3.out.three; have rz := R3.out.frozen))
  all_goals
    have GF := hide (set3_grown (grow_refl w3 (some (w.heap.size + 1))) (.int .i64 kd) (.slice x1 n1 k1) (.slice x2 n2 k2))
    have PF := hide (P1'.out.grownBy GF.out (fun _ p hp e => by have h1 := A1'.out p hp; have h2 : w.heap.size + 1 = p.block := Option.some.inj e; omega))
    have KF := hide (P2'.out.grownBy GF.out (fun _ p hp e => by have h1 := A2''.out p hp; have h2 : w.heap.size + 1 = p.block := Option.some.inj e; omega))
    have BF := hide (show Below w.heap.size w (set3 w3 (w.heap.size + 1) (.int .i64 kd) (.slice x1 n1 k1) (.slice x2 n2 k2)) from set3_below (D0.out.trans (D3.out.mono D0.out.size)) (by omega) _ _ _)
    go_wp2_with fail
    obtain ⟨t0, t1, t2⟩ := (R3.out.three_set (.int .i64 kd) (.slice x1 n1 k1) (.slice x2 n2 k2)).three
    exact bodyPost_ret (v := .agg #[.int .i64 kd, .slice x1 n1 k1, .slice x2 n2 k2]) (by simp [results, Try.results38, go_sem, t0, t1, t2]) rfl ⟨_, rfl, ⟨x1, n1, k1, x2, k2, rfl, PF.out, KF.out, C1.out, C2.out, fun _ p hp => by have h1 := A1'.out p hp; omega, fun _ p hp => by have h1 := A2''.out p hp; omega⟩, BF⟩

theorem wpList_append_fr {w : World} {ops : Array Oper} {rest : List Oper} {o : Oper} {a : Act} {Q : Exit → Act → World → Prop} (hgd : o.guard = none) (s x : Operand)
    (ho : o.op = .call { callee := .builtin .append, args := #[s, x], argTypes := #[22, 22] }) (B base : Nat) (fs : List Fr) (hown : OwnFL B w base (a.eval s) fs) (h0 : Nat) (kd : Int) (a1 : Option Addr) (n1 c1 : Nat) (a2 : Option Addr) (n2 c2 : Nat) (nm bs : List Int)
    (hx : a.eval x = .slice (some ⟨h0, 0, none⟩) 1 1) (hB : Bx w h0 #[.int .i64 kd, .slice a1 n1 c1, .slice a2 n2 c2] 40) (hi : Ints w a1 n1 nm) (hk : Blks w a2 n2 bs) (hc1 : n1 ≤ c1) (hc2 : n2 ≤ c2)
    (hp1 : 0 < n1 → ∀ p, a1 = some p → (a.eval s).ownBlock ≠ some p.block ∧ B ≤ p.block) (hp2 : 0 < n2 → ∀ p, a2 = some p → (a.eval s).ownBlock ≠ some p.block ∧ B ≤ p.block) (hl : fs.length ≤ 100000) (hbase : base ≤ w.heap.size)
    (h : ∀ v' w', OwnFL B w' base v' (fs ++ [⟨kd, nm, n2, bs⟩]) → w.grownBy w' (a.eval s).ownBlock → wpList Try.prog ops Q rest (a.put o.dst v') w') :
    wpList Try.prog ops Q (o :: rest) a w := by
  obtain ⟨vs, h1, h2⟩ := hown
  obtain ⟨i0, hi0, hz0, hz1, hz2⟩ := info_parts Try.infoFr
  refine wpList_append_own_at _ hgd s x 22 ho base 40 i0 _ 3 56 Try.underlying22 hi0 hz0 hz1 hz2 rfl (by decide) (a.eval s) fs.length vs rfl h1 ⟨h0, 0, none⟩ 1 1 [.int .i64 kd, .slice a1 n1 c1, .slice a2 n2 c2] hx rfl (fun j u hj => by
    rw [Addr.add_lit, Nat.zero_add, hB.cell j]
    simpa using hj) (by simp [Value.oneCell']) (by rw [maxLen_val]; omega) (by omega) hbase ?_
  intro v' w' hown' hg _ hat
  refine h v' w' (fps_after h1 h2 (fun i f hf => ?_) rfl hown' hg hat) hg
  match i, hf with
  | 0, hf =>
    simp at hf
    subst hf
    exact ⟨a1, n1, c1, a2, c2, rfl, rfl, rfl, hi, hk, hc1, hc2, hp1, hp2⟩
  | i + 1, hf => simp at hf

set_option maxHeartbeats 8000000 in
set_option maxRecDepth 100000 in
theorem lfresh_any (qa : Option Addr) (qn qc : Nat) (fs : List Fr) (w : World) (hq : FL w qa qn fs) (hn : qn ≤ 1000) (hps : ∀ f ∈ fs, f.nums.length ≤ 1000 ∧ f.nb ≤ 1000) :
    Calls Try.prog 29 #[.slice qa qn qc] w fun e w' => ∃ v, e = .returned v ∧ Hid (OwnFL w.heap.size w' w.heap.size v fs) ∧ Hid (Below w.heap.size w w') := by
  have HQ := hide hq
  have HN := hide hq.1
  have HPS := hide hps
  clear hq hps
  go_enter Try.func29, Try.ntmps29
  go_wp2_with fail
  go_loopw [3, 8] (fun s t wr => ∃ (j : Nat), j ≤ qn ∧ t = .int .i64 (j : Int) ∧ Hid (OwnFL w.heap.size wr w.heap.size s (fs.take j)) ∧ Hid (Below w.heap.size w wr)) (fun _ t _ => qn - (intOf t).toNat)
  case atStart => exact ⟨0, by omega, rfl, OwnFL.nil _ _ _, Below.refl _ _⟩
  case round =>
    obtain ⟨j, hj, rfl, hO, hB⟩ := hrel
    by_cases hlt : j < qn
    · obtain ⟨b, off, f, a1, n1, c1, a2, c2, hab, hblt, hx, e0, e1, e2, hi, hbk, _⟩ := (HQ.out.later hB.out).at_ j hlt
      subst hab
      have HX := hide hx
      have hsz := HPS.out _ (List.mem_of_getElem? hx)
      obtain ⟨kd, nm, nb, bs⟩ := f
      dsimp only at e0 e1 e2 hi hbk hsz
      have hn1 : n1 ≤ 1000 := by have := hi.1; omega
      have hn2 : nb ≤ 1000 := hsz.2
      obtain ⟨w2, hw2⟩ : ∃ w2 : World, Hid (w2 = wr.alloc (.cells #[.int .i64 kd, .slice a1 n1 c1, .slice a2 nb c2] 40)) := ⟨_, rfl⟩
      have D2 := hide (show Below wr.heap.size wr w2 by rw [hw2.out]; exact below_alloc _ _)
      have HI := hide (hi.later D2.out)
      have HK := hide (hbk.later D2.out)
      have HO2 := hide (hO.out.later D2.out)
      have BG := hide (hB.out.trans (D2.out.mono hB.out.size))
      have HTL := hide (show (fs.take j).length ≤ 100000 by rw [List.length_take]; omega)
      clear hx hi hbk hsz
      go_wp2_with fail
      rw [← hw2.out]
      refine (lclone_any kd a1 a2 n1 c1 nb c2 nm bs w2 HI.out HK.out hn1 hn2).mono ?_
      rintro e w3 ⟨v3, rfl, F3, D3⟩
      have F3' := F3.out
      obtain ⟨x1, m1, k1, x2, k2, rfl, g1, g2, g3, g4, g5, g6⟩ := F3'
      dsimp only at g1 g2 g4 g5 g6
      obtain ⟨w4, hw4⟩ : ∃ w4 : World, Hid (w4 = w3.alloc (.cells #[.int .i64 kd, .slice x1 m1 k1, .slice x2 nb k2] 40)) := ⟨_, rfl⟩
      have D4 := hide (show Below w3.heap.size w3 w4 by rw [hw4.out]; exact below_alloc _ _)
      have Z4 := hide (show Bx w4 w3.heap.size #[.int .i64 kd, .slice x1 m1 k1, .slice x2 nb k2] 40 by rw [hw4.out]; exact Bx.new w3 _ _)
      have I4 := hide (g1.later D4.out)
      have K4 := hide (g2.later D4.out)
      have HC1 := hide g3
      have HC2 := hide g4
      have D24 := hide (show Below w2.heap.size w2 w4 from D3.out.trans (D4.out.mono D3.out.size))
      have O4 := hide (HO2.out.later D24.out)
      have B4 := hide (BG.out.trans (D24.out.mono BG.out.size))
      have Q1 := hide (show 0 < m1 → ∀ p, x1 = some p → u3.ownBlock ≠ some p.block ∧ w.heap.size ≤ p.block from fun h0 p hp => ⟨fun e => by have h1 := (HO2.out.lt _ e).2; have h2 := g5 h0 p hp; omega, by have h2 := g5 h0 p hp; have h3 := BG.out.size; omega⟩)
      have Q2 := hide (show 0 < nb → ∀ p, x2 = some p → u3.ownBlock ≠ some p.block ∧ w.heap.size ≤ p.block from fun h0 p hp => ⟨fun e => by have h1 := (HO2.out.lt _ e).2; have h2 := g6 h0 p hp; omega, by have h2 := g6 h0 p hp; have h3 := BG.out.size; omega⟩)
      clear g1 g2 g3 g4 g5 g6
      go_wp2_with (at_builtin; rw [← hw4.out]; refine wpList_append_fr (w := w4) rfl _ _ rfl w.heap.size w.heap.size (fs.take j) ?o1 w3.heap.size kd x1 m1 k1 x2 nb k2 nm bs ?o2 ?o3 ?o4 ?o5 ?o6 ?o7 ?o8 ?o9 ?o10 ?o11 ?_)
      case o1 => exact O4.out
      case o2 => rfl
      case o3 => exact Z4.out
      case o4 => exact I4.out
      case o5 => exact K4.out
      case o6 => exact HC1.out
      case o7 => exact HC2.out
      case o8 => exact Q1.out
      case o9 => exact Q2.out
      case o10 => exact HTL.out
      case o11 => exact B4.out.size
      intro v5 w5 hO5 hG5
      have O5 := hide (show OwnFL w.heap.size w5 w.heap.size v5 (fs.take (j + 1)) by rw [getElem_take_succ _ _ _ HX.out]; exact hO5)
      have B5 := hide (show Below w.heap.size w w5 from B4.out.grown hG5 B4.out.size (fun i hi => (O4.out.lt i hi).1))
      clear hO5 hG5
      go_wp2_with fail
      go_roundw
      case rel => exact ⟨j + 1, by omega, by go_num, O5, B5⟩
      case measure => simp [intOf]; omega
    · obtain rfl : j = qn := by omega
      have OF := hide (show OwnFL w.heap.size wr w.heap.size u3 fs by
        have h := hO.out
        rw [List.take_of_length_le (by rw [HN.out]; omega)] at h
        exact h)
      go_wp2_with fail
      go_ret
      exact ⟨_, rfl, OF, hB⟩
end Go.Proofs.Ytfgonmgmoeoedaa

/-
  Two readings of one sender (SameSender); the window (window, Window); how many came (cameAhead).
-/
namespace Go.Proofs.Ytfgonmgmoeoedaa
open Go.RowKit

set_option maxHeartbeats 8000000 in
set_option maxRecDepth 100000 in
theorem sameSender_true (ses base : Int) (qa qb : Option Addr) (qn qc qm qd : Nat) (fs : List Fr) (w : World) (h1 : FL w qa qn fs) (h2 : FL w qb qm fs) (hn : qn ≤ 1000) :
    Calls Try.prog 10 #[.agg #[.int .i64 ses, .int .i64 base, .slice qa qn qc], .agg #[.int .i64 ses, .int .i64 base, .slice qb qm qd]] w fun e w' => e = .returned (.bool true) ∧ Below w.heap.size w w' := by
  obtain rfl : qm = qn := by rw [← h1.1, ← h2.1]
  obtain ⟨W0, hW0⟩ : ∃ W0 : World, Hid (W0 = (w.alloc (.cells #[.int .i64 ses, .int .i64 base, .slice qa qm qc] 24)).alloc (.cells #[.int .i64 ses, .int .i64 base, .slice qb qm qd] 24)) := ⟨_, rfl⟩
  have X0 := hide (show Bx W0 w.heap.size #[.int .i64 ses, .int .i64 base, .slice qa qm qc] 24 by rw [hW0.out]; exact (Bx.new w _ _).alloc _)
  have Y0 := hide (show Bx W0 (w.heap.size + 1) #[.int .i64 ses, .int .i64 base, .slice qb qm qd] 24 by
    rw [hW0.out]
    have h := Bx.new (w.alloc (.cells #[.int .i64 ses, .int .i64 base, .slice qa qm qc] 24)) #[.int .i64 ses, .int .i64 base, .slice qb qm qd] 24
    rw [World.size_alloc] at h
    exact h)
  have D0 := hide (show Below w.heap.size w W0 by rw [hW0.out]; exact (below_alloc _ _).alloc (by simp) _)
  have H1 := hide (h1.later D0.out)
  have H2 := hide (h2.later D0.out)
  clear h1 h2
  go_enter Try.func10, Try.ntmps10
  go_wp2_with fail
  rw [← hW0.out]
  go_loopw [5] (fun t wr => ∃ k : Nat, k ≤ qm ∧ t = .int .i64 (k : Int) ∧ Hid (Below W0.heap.size W0 wr)) (fun t _ => qm - (intOf t).toNat)
  case atStart => exact ⟨0, by omega, rfl, Below.refl _ _⟩
  case round =>
    obtain ⟨k, hk, rfl, hB⟩ := hrel
    obtain ⟨x0, x1, x2⟩ := (X0.out.later hB.out X0.out.lt).three
    obtain ⟨y0, y1, y2⟩ := (Y0.out.later hB.out Y0.out.lt).three
    by_cases hlt : k < qm
    · obtain ⟨b, off, f, a1, n1, c1, a2, c2, hab, hblt, hx, e0, e1, e2, hi, hbk, _⟩ := (H1.out.later hB.out).at_ k hlt
      obtain ⟨b', off', f', a3, n3, c3, a4, c4, hab', hblt', hx', e3, e4, e5, hi', hbk', _⟩ := (H2.out.later hB.out).at_ k hlt
      rw [hx] at hx'
      cases hx'
      subst hab hab'
      obtain ⟨kd, nm, nb, bs⟩ := f
      dsimp only at e0 e1 e2 hi hbk e3 e4 e5 hi' hbk'
      have I1 := hide hi
      have K1 := hide hbk
      have I2 := hide hi'
      have K2 := hide hbk'
      clear hx hi hbk hi' hbk'
      go_upto_region 6 with fail
      go_region_held3 (fun w' => w'.cell? ⟨w.heap.size, 2, none⟩ = some (.slice (some ⟨b, off, none⟩) qm qc) ∧ w'.cell? ⟨w.heap.size + 1, 2, none⟩ = some (.slice (some ⟨b', off', none⟩) qm qd) ∧ w'.cell? ⟨b, off + k * 3, none⟩ = some (.int .i64 kd) ∧ w'.cell? ⟨b, off + k * 3 + 1, none⟩ = some (.slice a1 n1 c1) ∧ w'.cell? ⟨b, off + k * 3 + 2, none⟩ = some (.slice a2 nb c2) ∧ w'.cell? ⟨b', off' + k * 3, none⟩ = some (.int .i64 kd) ∧ w'.cell? ⟨b', off' + k * 3 + 1, none⟩ = some (.slice a3 n3 c3) ∧ w'.cell? ⟨b', off' + k * 3 + 2, none⟩ = some (.slice a4 nb c4))
        (first
          | with_reducible exact ⟨x2, y2, e0, e1, e2, e3, e4, e5⟩
          | (simp only [cell_drew]; with_reducible exact ⟨x2, y2, e0, e1, e2, e3, e4, e5⟩)
          | with_reducible exact ⟨z2, z3, z4, z5, z6, z7, z8, z9⟩)
        (first
          | (go_at_call 12; refine (sameFrame_true kd a1 a2 a3 a4 n1 c1 nb c2 n3 c3 nb c4 nm bs wr.drew (I1.out.later (Below.refl _ _).drew) (K1.out.later (Below.refl _ _).drew) (I2.out.later (Below.refl _ _).drew) (K2.out.later (Below.refl _ _).drew)).mono ?_; rintro e w2 ⟨rfl, hb2⟩; have D2 := hide (ld_below hb2); have z2 := ((X0.out.later hB.out X0.out.lt).later D2.out (X0.out.later hB.out X0.out.lt).lt).cell 2; have z3 := ((Y0.out.later hB.out Y0.out.lt).later D2.out (Y0.out.later hB.out Y0.out.lt).lt).cell 2; have z4 := (D2.out.cell (p := ⟨b, off + k * 3, none⟩) hblt).trans e0; have z5 := (D2.out.cell (p := ⟨b, off + k * 3 + 1, none⟩) hblt).trans e1; have z6 := (D2.out.cell (p := ⟨b, off + k * 3 + 2, none⟩) hblt).trans e2; have z7 := (D2.out.cell (p := ⟨b', off' + k * 3, none⟩) hblt').trans e3; have z8 := (D2.out.cell (p := ⟨b', off' + k * 3 + 1, none⟩) hblt').trans e4; have z9 := (D2.out.cell (p := ⟨b', off' + k * 3 + 2, none⟩) hblt').trans e5; simp only [List.getElem?_toArray, List.getElem?_cons_zero, List.getElem?_cons_succ] at z2 z3))
      all_goals
        have B2 := hide (hB.out.trans (D2.out.mono hB.out.size))
        go_wp2_with fail
        go_roundw
        case rel => exact ⟨k + 1, by omega, by go_num, B2⟩
        case measure => simp [intOf]; omega
    · obtain rfl : k = qm := by omega
      go_wp2_with fail
      go_ret
      exact ⟨rfl, D0.out.trans (hB.out.mono D0.out.size)⟩

theorem FL.take {w : World} {a : Option Addr} {k : Nat} {fs : List Fr} (h : FL w a k fs) (j : Nat) (hj : j ≤ k) : FL w a j (fs.take j) := by
  obtain ⟨h1, h2, h4⟩ := h
  refine ⟨by rw [List.length_take]; omega, by omega, fun hp => ?_⟩
  obtain ⟨b, off, ha, hlt, hc⟩ := h4 (by omega)
  refine ⟨b, off, ha, hlt, fun i f hf => hc i f ?_⟩
  rw [List.getElem?_take] at hf
  split at hf
  · exact hf
  · cases hf

set_option maxHeartbeats 2000000 in
set_option maxRecDepth 100000 in
theorem window_any (ses base : Int) (qa : Option Addr) (qn qc : Nat) (w : World) (hn : qn ≤ 1000) (hc : qn ≤ qc) :
    Calls Try.prog 41 #[.agg #[.int .i64 ses, .int .i64 base, .slice qa qn qc]] w fun e w' => e = .returned (.slice qa (min qn 4) qc) ∧ Below w.heap.size w w' := by
  by_cases h4 : qn ≤ 4
  · have hm : min qn 4 = qn := by omega
    rw [hm]
    have h4i : (qn : Int) ≤ 4 := by omega
    go_enter Try.func41, Try.ntmps41
    go_wp2_with fail
    go_ret
    exact ⟨rfl, below_alloc _ _⟩
  · have hm : min qn 4 = 4 := by omega
    rw [hm]
    have h4i : ¬ (qn : Int) ≤ 4 := by omega
    have h4c : (4 : Int) ≤ qc := by omega
    go_enter Try.func41, Try.ntmps41
    go_wp2_with fail
    go_ret
    exact ⟨rfl, below_alloc _ _⟩

set_option maxHeartbeats 2000000 in
set_option maxRecDepth 100000 in
theorem windowR_any (ses base : Int) (qa : Option Addr) (qn qc : Nat) (w : World) (hn : qn ≤ 1000) :
    Calls Try.prog 25 #[.agg #[.int .i64 ses, .int .i64 base, .slice qa qn qc]] w fun e w' => e = .returned (.int .i64 ((min qn 4 : Nat) : Int)) ∧ Below w.heap.size w w' := by
  by_cases h4 : (qn : Int) < 4
  · have d4 : decide ((qn : Int) < 4) = true := by simpa using h4
    have hm : min qn 4 = qn := by omega
    rw [hm]
    go_enter Try.func25, Try.ntmps25
    go_wp2_with fail
    go_ret
    exact ⟨rfl, below_alloc _ _⟩
  · have d4 : decide ((qn : Int) < 4) = false := by simpa using h4
    have hm : min qn 4 = 4 := by omega
    rw [hm]
    go_enter Try.func25, Try.ntmps25
    go_wp2_with fail
    go_ret
    exact ⟨rfl, below_alloc _ _⟩

def Mx.came (base want : Int) (qn : Nat) : Nat := if want ≤ base ∨ ((min qn 4 : Nat) : Int) < want - base then 0 else (want - base).toNat

set_option maxHeartbeats 4000000 in
set_option maxRecDepth 100000 in
theorem cameAhead_any (ses base want : Int) (qa : Option Addr) (qn qc : Nat) (w : World) (hn : qn ≤ 1000) (hc : qn ≤ qc) (h0 : 0 ≤ base) (h1 : base ≤ 2147483647) (h2 : 0 ≤ want) (h3 : want ≤ 2147483647) :
    Calls Try.prog 28 #[.agg #[.int .i64 ses, .int .i64 base, .slice qa qn qc], .int .i64 want] w fun e w' => e = .returned (.int .i64 (Mx.came base want qn : Int)) ∧ Below w.heap.size w w' := by
  obtain ⟨W0, hW0⟩ : ∃ W0 : World, Hid (W0 = w.alloc (.cells #[.int .i64 ses, .int .i64 base, .slice qa qn qc] 24)) := ⟨_, rfl⟩
  have X0 := hide (show Bx W0 w.heap.size #[.int .i64 ses, .int .i64 base, .slice qa qn qc] 24 by rw [hW0.out]; exact Bx.new w _ _)
  have D0 := hide (show Below w.heap.size w W0 by rw [hW0.out]; exact below_alloc _ _)
  obtain ⟨x0, x1, x2⟩ := X0.out.three
  by_cases hw : want ≤ base
  · have dw : decide (want ≤ base) = true := by simpa using hw
    have HF := hide (show Mx.came base want qn = 0 by unfold Mx.came; rw [if_pos (.inl hw)])
    rw [HF.out]
    clear hw
    go_enter Try.func28, Try.ntmps28
    go_wp2_with fail
    rw [← hW0.out]
    go_quiet (fail)
    go_wp2_with fail
    go_ret
    exact ⟨rfl, below_drewN D0.out _⟩
  · have dw : decide (want ≤ base) = false := by simpa using hw
    obtain ⟨M, hM⟩ : ∃ M : Nat, Hid (M = min qn 4) := ⟨_, rfl⟩
    have hwd : IntKind.i64.wrap (want - base) = want - base := by rw [IntWalk.i64_left, IntWalk.wrap64_in _ (by omega)]
    have HWIN := hide (show ∀ W : World, Calls Try.prog 41 #[.agg #[.int .i64 ses, .int .i64 base, .slice qa qn qc]] W fun e w' => e = .returned (.slice qa M qc) ∧ Below W.heap.size W w' from fun W => by rw [hM.out]; exact window_any ses base qa qn qc W hn hc)
    go_enter Try.func28, Try.ntmps28
    go_wp2_with fail
    rw [← hW0.out]
    go_region_held3 (fun w' => w'.cell? ⟨w.heap.size, 0, none⟩ = some (.int .i64 ses) ∧ w'.cell? ⟨w.heap.size, 1, none⟩ = some (.int .i64 base) ∧ w'.cell? ⟨w.heap.size, 2, none⟩ = some (.slice qa qn qc))
      (first
        | with_reducible exact ⟨x0, x1, x2⟩
        | (simp only [cell_drew]; with_reducible exact ⟨x0, x1, x2⟩)
        | with_reducible exact ⟨y0, y1, y2⟩)
      (first
        | (go_at_call 41; (with_reducible refine (HWIN.out W0.drew).mono ?_); rintro e w2 ⟨rfl, hb2⟩; have D2 := hide (ld_below hb2); obtain ⟨y0, y1, y2⟩ := (X0.out.later D2.out X0.out.lt).three))
    all_goals
      have B2 := hide (D0.out.trans (D2.out.mono D0.out.size))
      by_cases hg : (M : Int) < want - base
      · have dg : decide ((M : Int) < want - base) = true := by simpa using hg
        have HF := hide (show Mx.came base want qn = 0 by unfold Mx.came; rw [if_pos (.inr (by rw [← hM.out]; exact hg))])
        go_wp2_with fail
        go_ret
        exact ⟨by rw [HF.out] <;> rfl, B2.out⟩
      · have dg : decide ((M : Int) < want - base) = false := by simpa using hg
        have HF := hide (show ((Mx.came base want qn : Nat) : Int) = want - base by unfold Mx.came; rw [if_neg (by rw [← hM.out]; omega)]; omega)
        go_wp2_with fail
        go_ret
        exact ⟨by rw [HF.out] <;> rfl, B2.out⟩
end Go.Proofs.Ytfgonmgmoeoedaa

/-
  What bytes that came back say (readBack).
-/
namespace Go.Proofs.Ytfgonmgmoeoedaa
open Go.RowKit

namespace Mx
/-- bytes that say which message is wanted -/
def Ack (l : List Int) (ses x : Int) : Prop := IsFrame l 0 [ses, x] 0 []
theorem ack_of {l : List Int} {ses : Int} {kd : Int} {nums : List Int} {nb : Nat} {bs : List Int} (h : IsFrame l kd nums nb bs) (h1 : kd = 0) (h2 : nb = 0) (h3 : nums.length = 2) (h4 : nums.getD 0 0 = ses) : Ack l ses (nums.getD 1 0) := by
  obtain ⟨x, y, rfl⟩ : ∃ x y, nums = [x, y] := by
    match nums, h3 with
    | [x, y], _ => exact ⟨x, y, rfl⟩
  subst h1 h2
  obtain rfl : bs = [] := List.eq_nil_of_length_eq_zero (by have := h.2.1; omega)
  have h5 : x = ses := h4
  subst h5
  exact h
theorem ack_range {l : List Int} {ses x : Int} (h : Ack l ses x) : 0 ≤ x ∧ x ≤ 2147483647 := by
  have h1 := h.1
  unfold may at h1
  split at h1
  · omega
  · split at h1
    · omega
    · split at h1
      · omega
      · next h2 =>
        simp [badNum] at h2
        omega
end Mx

set_option maxHeartbeats 4000000 in
set_option maxRecDepth 100000 in
theorem readBack_any (ses : Int) (a : Option Addr) (len cap : Nat) (l : List Int) (w : World) (hl : Bytes w a len l) (hlen : len ≤ 2000) (hcap : len ≤ cap) :
    Calls Try.prog 27 #[.int .i64 ses, .slice a len cap] w fun e w' => ∃ (x : Int) (ok : Bool), e = .returned (.tuple #[.int .i64 x, .bool ok]) ∧ Hid ((ok = true ∧ Mx.Ack l ses x) ∨ (ok = false ∧ x = 0 ∧ ∀ y, ¬ Mx.Ack l ses y)) ∧ Hid (Below w.heap.size w w') := by
  have HL := hide hl
  clear hl
  go_enter Try.func27, Try.ntmps27
  go_wp2_with fail
  refine (unpack_any a len cap l w HL.out hlen hcap).mono ?_
  rintro e w1 (⟨kd, nums, nb, bs, a1, c1, a2, c2, rfl, hF, hI, hK, hB⟩ | ⟨rfl, hno, hB⟩)
  · have HF := hide hF
    have HI := hide hI
    have B1 := hide hB
    clear hB
    have hnb : nb ≤ maxLen := hK.2.1
    rw [maxLen_val] at hnb
    have hnl : nums.length ≤ maxLen := hI.2.1
    rw [maxLen_val] at hnl
    clear hF hI hK
    have HNO := hide (show ∀ y, Mx.Ack l ses y → kd = 0 ∧ nums = [ses, y] ∧ nb = 0 from fun y hy => by
      obtain ⟨h1, h2, h3, _⟩ := Mx.IsFrame.one HF.out hy
      exact ⟨h1, h2, h3⟩)
    by_cases h1 : kd = 0
    · by_cases h2 : (0 : Int) < nb
      · have d2 : decide ((0 : Int) < nb) = true := by simpa using h2
        have HN := hide (show ∀ y, ¬ Mx.Ack l ses y from fun y hy => by have := (HNO.out y hy).2.2; omega)
        subst h1
        go_wp2_with fail
        exact bodyPost_ret (v := .tuple #[.int .i64 0, .bool false]) (by simp [results, Try.results27, go_sem]) rfl ⟨0, false, rfl, .inr ⟨rfl, rfl, HN.out⟩, B1.out.alloc B1.out.size _⟩
      · have d2 : decide ((0 : Int) < nb) = false := by simpa using h2
        by_cases h3 : nums.length = 2
        · obtain ⟨b, off, x0, hab, hblt, hx0, e0⟩ := HI.out.at_ 0 (by omega)
          obtain ⟨b', off', x1, hab', _, hx1, e1⟩ := HI.out.at_ 1 (by omega)
          rw [hab] at hab'
          cases hab'
          subst hab
          rw [Nat.add_zero] at e0
          have HA := hide (show x0 = ses → Mx.Ack l ses x1 from fun h => by
            have h5 := Mx.ack_of (ses := ses) HF.out h1 (by omega) h3 (hx0.trans h)
            rw [hx1] at h5
            exact h5)
          have HN := hide (show x0 ≠ ses → ∀ y, ¬ Mx.Ack l ses y from fun hne y hy => by
            have h5 := (HNO.out y hy).2.1
            rw [h5] at hx0
            exact hne hx0.symm)
          have H3 := hide h3
          clear hx0 hx1 h3
          subst h1
          rw [H3.out]
          by_cases h4 : x0 = ses
          · have d4 : (x0 != ses) = false := by simpa using h4
            go_wp2_with fail
            exact bodyPost_ret (v := .tuple #[.int .i64 x1, .bool true]) (by simp [results, Try.results27, go_sem]) rfl ⟨x1, true, rfl, .inl ⟨rfl, HA.out h4⟩, B1.out.alloc B1.out.size _⟩
          · have d4 : (x0 != ses) = true := by simpa using h4
            go_wp2_with fail
            exact bodyPost_ret (v := .tuple #[.int .i64 0, .bool false]) (by simp [results, Try.results27, go_sem]) rfl ⟨0, false, rfl, .inr ⟨rfl, rfl, HN.out h4⟩, B1.out.alloc B1.out.size _⟩
        · have HN := hide (show ∀ y, ¬ Mx.Ack l ses y from fun y hy => h3 (by rw [(HNO.out y hy).2.1]; rfl))
          have d3 : ((nums.length : Int) != 2) = true := by simpa using (show ¬ ((nums.length : Int) = 2) by omega)
          clear h3
          subst h1
          go_wp2_with fail
          exact bodyPost_ret (v := .tuple #[.int .i64 0, .bool false]) (by simp [results, Try.results27, go_sem]) rfl ⟨0, false, rfl, .inr ⟨rfl, rfl, HN.out⟩, B1.out.alloc B1.out.size _⟩
    · have HN := hide (show ∀ y, ¬ Mx.Ack l ses y from fun y hy => h1 (HNO.out y hy).1)
      have d1 : (kd != 0) = true := by simpa using h1
      go_wp2_with fail
      exact bodyPost_ret (v := .tuple #[.int .i64 0, .bool false]) (by simp [results, Try.results27, go_sem]) rfl ⟨0, false, rfl, .inr ⟨rfl, rfl, HN.out⟩, B1.out.alloc B1.out.size _⟩
  · have HN := hide (show ∀ y, ¬ Mx.Ack l ses y from fun y hy => hno _ _ _ _ hy)
    have B1 := hide hB
    clear hB
    clear hno
    go_wp2_with fail
    exact bodyPost_ret (v := .tuple #[.int .i64 0, .bool false]) (by simp [results, Try.results27, go_sem]) rfl ⟨0, false, rfl, .inr ⟨rfl, rfl, HN.out⟩, B1.out.alloc B1.out.size _⟩
end Go.Proofs.Ytfgonmgmoeoedaa

/-
  What was heard (Heard).
-/
namespace Go.Proofs.Ytfgonmgmoeoedaa
open Go.RowKit

/-- a sender, read -/
def SdV (w : World) (v : Value) (s : Sd) : Prop := ∃ (qa : Option Addr) (qn qc : Nat), v = .agg #[.int .i64 s.ses, .int .i64 s.base, .slice qa qn qc] ∧ FL w qa qn s.q ∧ qn ≤ qc

theorem SdV.zero (w : World) : SdV w (.agg #[.int .i64 0, .int .i64 0, .slice none 0 0]) ⟨0, 0, []⟩ := ⟨none, 0, 0, rfl, FL.nil w, Nat.le_refl _⟩

theorem SdV.later {w w' : World} {v : Value} {s : Sd} (h : SdV w v s) (hb : Below w.heap.size w w') : SdV w' v s := by
  obtain ⟨qa, qn, qc, h1, h2, h3⟩ := h
  exact ⟨qa, qn, qc, h1, h2.later hb, h3⟩

theorem FLA.low {B B' : Nat} {w : World} {a : Option Addr} {k : Nat} {fs : List Fr} (h : FLA B w a k fs) (hB : B' ≤ B) : FLA B' w a k fs := by
  obtain ⟨h1, h2, h4⟩ := h
  refine ⟨h1, h2, fun hp => ?_⟩
  obtain ⟨b, off, ha, hb, hlt, hc⟩ := h4 hp
  refine ⟨b, off, ha, by omega, hlt, fun i f hf => ?_⟩
  obtain ⟨a1, n1, c1, a2, c2, e1, e2, e3, e4, e5, e6, e7, e8, e9⟩ := hc i f hf
  exact ⟨a1, n1, c1, a2, c2, e1, e2, e3, e4, e5, e6, e7, fun h p hp => Nat.le_trans hB (e8 h p hp), fun h p hp => Nat.le_trans hB (e9 h p hp)⟩

/-- a sender, all of it in blocks from B on -/
def SdA (B : Nat) (w : World) (v : Value) (s : Sd) : Prop := ∃ (qa : Option Addr) (qn qc : Nat), v = .agg #[.int .i64 s.ses, .int .i64 s.base, .slice qa qn qc] ∧ FLA B w qa qn s.q ∧ qn ≤ qc

theorem SdA.zero (B : Nat) (w : World) : SdA B w (.agg #[.int .i64 0, .int .i64 0, .slice none 0 0]) ⟨0, 0, []⟩ := ⟨none, 0, 0, rfl, FLA.nil B w, Nat.le_refl _⟩

theorem SdA.sdv {B : Nat} {w : World} {v : Value} {s : Sd} (h : SdA B w v s) : SdV w v s := by
  obtain ⟨qa, qn, qc, h1, h2, h3⟩ := h
  exact ⟨qa, qn, qc, h1, h2.fl, h3⟩

theorem FL.drop {w : World} {b off : Nat} {k : Nat} {fs : List Fr} (h : FL w (some ⟨b, off, none⟩) k fs) (j : Nat) (hj : j ≤ k) : FL w (some ⟨b, off + j * 3, none⟩) (k - j) (fs.drop j) := by
  obtain ⟨h1, h2, h4⟩ := h
  refine ⟨by rw [List.length_drop, h1], by omega, fun hp => ?_⟩
  obtain ⟨b', off', ha, hlt, hc⟩ := h4 (by omega)
  simp only [Option.some.injEq, Addr.mk.injEq, and_true] at ha
  obtain ⟨rfl, rfl⟩ := ha
  refine ⟨b, off + j * 3, rfl, hlt, fun i f hf => ?_⟩
  rw [List.getElem?_drop] at hf
  obtain ⟨a1, n1, c1, a2, c2, e⟩ := hc (j + i) f hf
  rw [show off + (j + i) * 3 = off + j * 3 + i * 3 by rw [Nat.add_mul]; omega] at e
  exact ⟨a1, n1, c1, a2, c2, e⟩

namespace Mx
/-- how many messages go -/
def Gone (ses base : Int) (qn : Nat) (l : List Int) (g : Nat) : Prop := (∃ x, Ack l ses x ∧ g = came base x qn) ∨ ((∀ x, ¬ Ack l ses x) ∧ g = 0)
theorem gone_one {ses base : Int} {qn : Nat} {l : List Int} {g g' : Nat} (h : Gone ses base qn l g) (h' : Gone ses base qn l g') : g = g' := by
  rcases h with ⟨x, h1, rfl⟩ | ⟨h1, rfl⟩
  · rcases h' with ⟨y, h2, rfl⟩ | ⟨h2, rfl⟩
    · have h3 := (IsFrame.one h1 h2).2.1
      simp at h3
      rw [h3]
    · exact absurd h1 (h2 x)
  · rcases h' with ⟨y, h2, rfl⟩ | ⟨h2, rfl⟩
    · exact absurd h2 (h1 y)
    · rfl
theorem came_le (base x : Int) (qn : Nat) : came base x qn ≤ min qn 4 := by
  unfold came
  split
  · omega
  · omega
theorem mmay_size {f : Fr} (h : mmay f = 0) : f.nums.length ≤ 1000 ∧ f.nb ≤ 1000 := by
  obtain ⟨h1, h2⟩ := mmay_ok h
  unfold may at h1
  split at h1
  · omega
  · split at h1
    · omega
    · exact ⟨by omega, by omega⟩
end Mx

set_option maxHeartbeats 16000000 in
set_option maxRecDepth 100000 in
theorem lheard_own (ses base : Int) (qa : Option Addr) (qn qc : Nat) (fs : List Fr) (a : Option Addr) (len cap : Nat) (l : List Int) (w : World) (hq : FL w qa qn fs) (hqc : qn ≤ qc) (hl : Bytes w a len l) (hlen : len ≤ 2000) (hcap : len ≤ cap) :
    Calls Try.prog 8 #[.agg #[.int .i64 ses, .int .i64 base, .slice qa qn qc], .slice a len cap] w fun e w' => ∃ v, e = .returned (.tuple #[v, errV (Mx.sdmay ⟨ses, base, fs⟩)]) ∧ Hid ((Mx.sdmay ⟨ses, base, fs⟩ ≠ 0 ∧ SdA w.heap.size w' v ⟨0, 0, []⟩) ∨ (Mx.sdmay ⟨ses, base, fs⟩ = 0 ∧ ∃ g, Mx.Gone ses base qn l g ∧ SdA w.heap.size w' v ⟨ses, base + g, fs.drop g⟩)) ∧ Hid (Below w.heap.size w w') := by
  obtain ⟨W0, hW0⟩ : ∃ W0 : World, Hid (W0 = (w.alloc (.cells #[.int .i64 ses, .int .i64 base, .slice qa qn qc] 24)).alloc (.cells #[.int .i64 0, .int .i64 0, .slice none 0 0] 24)) := ⟨_, rfl⟩
  have X0 := hide (show Bx W0 w.heap.size #[.int .i64 ses, .int .i64 base, .slice qa qn qc] 24 by rw [hW0.out]; exact (Bx.new w _ _).alloc _)
  have R0 := hide (show Bx W0 (w.heap.size + 1) #[.int .i64 0, .int .i64 0, .slice none 0 0] 24 by
    rw [hW0.out]
    have h := Bx.new (w.alloc (.cells #[.int .i64 ses, .int .i64 base, .slice qa qn qc] 24)) #[.int .i64 0, .int .i64 0, .slice none 0 0] 24
    rw [World.size_alloc] at h
    exact h)
  have D0 := hide (show Below w.heap.size w W0 by rw [hW0.out]; exact (below_alloc _ _).alloc (by simp) _)
  have HQ := hide (hq.later D0.out)
  have HL := hide (hl.later D0.out)
  have HN := hide hq.1
  clear hq hl
  obtain ⟨x0, x1, x2⟩ := X0.out.three
  go_enter Try.func8, Try.ntmps8
  go_wp2_with fail
  rw [← hW0.out]
  refine (lcheck_any ses base qa qn qc fs W0 HQ.out).mono ?_
  rintro e w1 ⟨rfl, D1⟩
  have X1 := hide (X0.out.later D1 X0.out.lt)
  have R1 := hide (R0.out.later D1 R0.out.lt)
  have B1 := hide (D0.out.trans (D1.mono D0.out.size))
  clear x0 x1 x2
  by_cases hm : Mx.sdmay ⟨ses, base, fs⟩ = 0
  · have HM := hide hm
    have HOK := hide (Mx.sdmay_ok hm)
    have hq64 : qn ≤ 64 := by have h1 : fs.length ≤ 64 := HOK.out.2.1; have h2 := HN.out; omega
    have hb0 : 0 ≤ base := HOK.out.1.2.2.1
    have hb1 : base ≤ 2147483647 := HOK.out.1.2.2.2
    have HPS := hide (show ∀ f ∈ fs, f.nums.length ≤ 1000 ∧ f.nb ≤ 1000 from fun f hf => Mx.mmay_size (HOK.out.2.2 f hf))
    have HE := hide (show errV (Mx.sdmay ⟨ses, base, fs⟩) = .nilIface by rw [HM.out, errV_zero])
    rw [HE.out]
    clear hm
    obtain ⟨x0, x1, x2⟩ := X1.out.three
    have HL1 := hide (HL.out.later D1)
    go_wp2_with fail
    refine (readBack_any ses a len cap l w1 HL1.out hlen hcap).mono ?_
    rintro e w2 ⟨x, ok, rfl, HA, D2⟩
    have X2 := hide (X1.out.later D2.out X1.out.lt)
    have R2 := hide (R1.out.later D2.out R1.out.lt)
    have B2 := hide (B1.out.trans (D2.out.mono B1.out.size))
    clear x0 x1 x2
    cases ok with
    | false =>
      have HG := hide (show Mx.Gone ses base qn l 0 by
        rcases HA.out with ⟨h, _⟩ | ⟨_, _, h⟩
        · cases h
        · exact .inr ⟨h, rfl⟩)
      clear HA
      obtain ⟨x0, x1, x2⟩ := X2.out.three
      have X3 := X2
      have R3 := R2
      have B3 := B2
      have Q3 := hide ((HQ.out.later D1).later D2.out)
      obtain ⟨w3, hw3⟩ : ∃ w3 : World, Hid (w3 = w2) := ⟨_, rfl⟩
      rw [← hw3.out] at X3 R3 B3 Q3 x0 x1 x2 ⊢
      have QD := Q3
      have hwb : IntKind.i64.wrap base = base := by rw [IntWalk.i64_left, IntWalk.wrap64_in _ (by omega)]
      have hqd : qn ≤ 1000 := by omega
      have HPD := HPS
      have hx3 : w.heap.size < w3.heap.size := X3.out.lt
      have hr3 : w.heap.size + 1 < w3.heap.size := R3.out.lt
      have hrx : ¬ w.heap.size + 1 = w.heap.size := by omega
      go_upto_region 8 with fail
      go_region_held3 (fun w' => w'.cell? ⟨w.heap.size, 0, none⟩ = some (.int .i64 ses) ∧ w'.cell? ⟨w.heap.size, 1, none⟩ = some (.int .i64 base) ∧ w'.cell? ⟨w.heap.size, 2, none⟩ = some (.slice qa qn qc))
        (first
          | with_reducible exact ⟨x0, x1, x2⟩
          | (simp only [cell_drew]; with_reducible exact ⟨x0, x1, x2⟩)
          | with_reducible exact ⟨y0, y1, y2⟩
          | (simp only [cell_set_far hrx]; with_reducible exact ⟨y0, y1, y2⟩))
        (first
          | (go_at_call 29; refine (lfresh_any qa qn qc fs w3.drew (QD.out.later (Below.refl _ _).drew) hqd HPD.out).mono ?_; rintro e w4 ⟨v4, rfl, O4, E4⟩; have D4 := hide (ld_below E4.out); have FA := hide (O4.out.fla (Nat.le_refl _)); have FB := FA.out; obtain ⟨za, zc, hv, hzc, hfa⟩ := FB; obtain ⟨zn, hzn⟩ : ∃ zn : Nat, Hid (zn = fs.length) := ⟨_, rfl⟩; rw [← hzn.out] at hv hzc hfa; subst hv; have ZA := hide (show FLA w3.heap.size w4 za zn fs from hfa); have ZC := hide hzc; clear hfa hzc; obtain ⟨y0, y1, y2⟩ := (X3.out.later D4.out hx3).three; have R4 := hide (R3.out.later D4.out hr3); obtain ⟨r0, r1, r2⟩ := R4.out.three; have rz := R4.out.frozen))
      all_goals
        have GF := hide (set3_grown (grow_refl w4 (some (w.heap.size + 1))) (.int .i64 ses) (.int .i64 base) (.slice za zn zc))
        have ZF := hide ((ZA.out.grown GF.out hr3).low (show w.heap.size ≤ w3.heap.size by omega))
        have BF := hide (show Below w.heap.size w (set3 w4 (w.heap.size + 1) (.int .i64 ses) (.int .i64 base) (.slice za zn zc)) from set3_below (B3.out.trans (D4.out.mono B3.out.size)) (by omega) _ _ _)
        go_wp2_with fail
        obtain ⟨t0, t1, t2⟩ := (R4.out.three_set (.int .i64 ses) (.int .i64 base) (.slice za zn zc)).three
        exact bodyPost_ret (v := .tuple #[.agg #[.int .i64 ses, .int .i64 base, .slice za zn zc], .nilIface]) (by simp [results, Try.results8, go_sem, t0, t1, t2]) rfl ⟨_, by rw [HE.out], .inr ⟨HM.out, 0, HG.out, by rw [show base + ((0 : Nat) : Int) = base by omega, List.drop_zero]; exact ⟨za, _, zc, rfl, ZF.out, ZC.out⟩⟩, BF⟩
    | true =>
      have HAK := hide (show Mx.Ack l ses x by
        rcases HA.out with ⟨_, h⟩ | ⟨h, _⟩
        · exact h
        · cases h)
      have hx := Mx.ack_range HAK.out
      clear HA
      obtain ⟨x0, x1, x2⟩ := X2.out.three
      go_wp2_with fail
      refine (cameAhead_any ses base x qa qn qc w2 (by omega) hqc hb0 hb1 hx.1 hx.2).mono ?_
      rintro e w3 ⟨rfl, D3⟩
      have X3 := hide (X2.out.later D3 X2.out.lt)
      have R3 := hide (R2.out.later D3 R2.out.lt)
      have B3 := hide (B2.out.trans (D3.mono B2.out.size))
      have Q3 := hide (((HQ.out.later D1).later D2.out).later D3)
      clear x0 x1 x2
      obtain ⟨x0, x1, x2⟩ := X3.out.three
      have HCL := hide (Mx.came_le base x qn)
      have HG0 := hide (show Mx.Gone ses base qn l (Mx.came base x qn) from .inl ⟨x, HAK.out, rfl⟩)
      obtain ⟨g, hg⟩ : ∃ g : Nat, Hid (g = Mx.came base x qn) := ⟨_, rfl⟩
      rw [← hg.out] at HCL HG0 ⊢
      have HG := HG0
      have hgq : g ≤ qn := by have := HCL.out; omega
      have hg4 : g ≤ 4 := by have := HCL.out; omega
      by_cases hgz : g = 0
      · subst hgz
        have QD := Q3
        have hwb : IntKind.i64.wrap base = base := by rw [IntWalk.i64_left, IntWalk.wrap64_in _ (by omega)]
        have hqd : qn ≤ 1000 := by omega
        have HPD := HPS
        have hx3 : w.heap.size < w3.heap.size := X3.out.lt
        have hr3 : w.heap.size + 1 < w3.heap.size := R3.out.lt
        have hrx : ¬ w.heap.size + 1 = w.heap.size := by omega
        go_upto_region 8 with fail
        go_region_held3 (fun w' => w'.cell? ⟨w.heap.size, 0, none⟩ = some (.int .i64 ses) ∧ w'.cell? ⟨w.heap.size, 1, none⟩ = some (.int .i64 base) ∧ w'.cell? ⟨w.heap.size, 2, none⟩ = some (.slice qa qn qc))
          (first
            | with_reducible exact ⟨x0, x1, x2⟩
            | (simp only [cell_drew]; with_reducible exact ⟨x0, x1, x2⟩)
            | with_reducible exact ⟨y0, y1, y2⟩
            | (simp only [cell_set_far hrx]; with_reducible exact ⟨y0, y1, y2⟩))
          (first
            | (go_at_call 29; refine (lfresh_any qa qn qc fs w3.drew (QD.out.later (Below.refl _ _).drew) hqd HPD.out).mono ?_; rintro e w4 ⟨v4, rfl, O4, E4⟩; have D4 := hide (ld_below E4.out); have FA := hide (O4.out.fla (Nat.le_refl _)); have FB := FA.out; obtain ⟨za, zc, hv, hzc, hfa⟩ := FB; obtain ⟨zn, hzn⟩ : ∃ zn : Nat, Hid (zn = fs.length) := ⟨_, rfl⟩; rw [← hzn.out] at hv hzc hfa; subst hv; have ZA := hide (show FLA w3.heap.size w4 za zn fs from hfa); have ZC := hide hzc; clear hfa hzc; obtain ⟨y0, y1, y2⟩ := (X3.out.later D4.out hx3).three; have R4 := hide (R3.out.later D4.out hr3); obtain ⟨r0, r1, r2⟩ := R4.out.three; have rz := R4.out.frozen))
        all_goals
          have GF := hide (set3_grown (grow_refl w4 (some (w.heap.size + 1))) (.int .i64 ses) (.int .i64 base) (.slice za zn zc))
          have ZF := hide ((ZA.out.grown GF.out hr3).low (show w.heap.size ≤ w3.heap.size by omega))
          have BF := hide (show Below w.heap.size w (set3 w4 (w.heap.size + 1) (.int .i64 ses) (.int .i64 base) (.slice za zn zc)) from set3_below (B3.out.trans (D4.out.mono B3.out.size)) (by omega) _ _ _)
          go_wp2_with fail
          obtain ⟨t0, t1, t2⟩ := (R4.out.three_set (.int .i64 ses) (.int .i64 base) (.slice za zn zc)).three
          exact bodyPost_ret (v := .tuple #[.agg #[.int .i64 ses, .int .i64 base, .slice za zn zc], .nilIface]) (by simp [results, Try.results8, go_sem, t0, t1, t2]) rfl ⟨_, by rw [HE.out], .inr ⟨HM.out, 0, HG.out, by rw [show base + ((0 : Nat) : Int) = base by omega, List.drop_zero]; exact ⟨za, _, zc, rfl, ZF.out, ZC.out⟩⟩, BF⟩
      · obtain ⟨b, off, hab, _⟩ := Q3.out.2.2 (by omega)
        subst hab
        have hwg : IntKind.i64.wrap (base + (g : Int)) = base + (g : Int) := by rw [IntWalk.i64_left, IntWalk.wrap64_in _ (by omega)]
        have hgi : (g : Int) ≤ qn := by omega
        have hgc : (g : Int) ≤ qc := by omega
        have hg0 : (0 : Int) ≤ (g : Int) := by omega
        by_cases hcg : qc = g
        · have hqn : qn = g := by omega
          have HDR := hide (show fs.drop g = [] from List.drop_of_length_le (by rw [HN.out]; omega))
          have QD := hide (show FL w3 (some ⟨b, off, none⟩) 0 (fs.drop g) by rw [HDR.out]; exact ⟨rfl, by rw [maxLen_val]; omega, fun h => absurd h (by omega)⟩)
          have hqd : 0 ≤ 1000 := by omega
          have HPD := hide (show ∀ f ∈ fs.drop g, f.nums.length ≤ 1000 ∧ f.nb ≤ 1000 from fun f hf => HPS.out f (List.mem_of_mem_drop hf))
          subst hcg
          subst hqn
          have hx3 : w.heap.size < w3.heap.size := X3.out.lt
          have hr3 : w.heap.size + 1 < w3.heap.size := R3.out.lt
          have hrx : ¬ w.heap.size + 1 = w.heap.size := by omega
          go_upto_region 8 with fail
          go_region_held3 (fun w' => w'.cell? ⟨w.heap.size, 0, none⟩ = some (.int .i64 ses) ∧ w'.cell? ⟨w.heap.size, 1, none⟩ = some (.int .i64 base) ∧ w'.cell? ⟨w.heap.size, 2, none⟩ = some (.slice (some ⟨b, off, none⟩) qn qn))
            (first
              | with_reducible exact ⟨x0, x1, x2⟩
              | (simp only [cell_drew]; with_reducible exact ⟨x0, x1, x2⟩)
              | with_reducible exact ⟨y0, y1, y2⟩
              | (simp only [cell_set_far hrx]; with_reducible exact ⟨y0, y1, y2⟩))
            (first
              | (go_at_call 29; refine (lfresh_any (some ⟨b, off, none⟩) 0 0 (fs.drop qn) w3.drew (QD.out.later (Below.refl _ _).drew) hqd HPD.out).mono ?_; rintro e w4 ⟨v4, rfl, O4, E4⟩; have D4 := hide (ld_below E4.out); have FA := hide (O4.out.fla (Nat.le_refl _)); have FB := FA.out; obtain ⟨za, zc, hv, hzc, hfa⟩ := FB; obtain ⟨zn, hzn⟩ : ∃ zn : Nat, Hid (zn = (fs.drop qn).length) := ⟨_, rfl⟩; rw [← hzn.out] at hv hzc hfa; subst hv; have ZA := hide (show FLA w3.heap.size w4 za zn (fs.drop qn) from hfa); have ZC := hide hzc; clear hfa hzc; obtain ⟨y0, y1, y2⟩ := (X3.out.later D4.out hx3).three; have R4 := hide (R3.out.later D4.out hr3); obtain ⟨r0, r1, r2⟩ := R4.out.three; have rz := R4.out.frozen))
          all_goals
            have GF := hide (set3_grown (grow_refl w4 (some (w.heap.size + 1))) (.int .i64 ses) (.int .i64 (base + (qn : Int))) (.slice za zn zc))
            have ZF := hide ((ZA.out.grown GF.out hr3).low (show w.heap.size ≤ w3.heap.size by omega))
            have BF := hide (show Below w.heap.size w (set3 w4 (w.heap.size + 1) (.int .i64 ses) (.int .i64 (base + (qn : Int))) (.slice za zn zc)) from set3_below (B3.out.trans (D4.out.mono B3.out.size)) (by omega) _ _ _)
            go_wp2_with fail
            obtain ⟨t0, t1, t2⟩ := (R4.out.three_set (.int .i64 ses) (.int .i64 (base + (qn : Int))) (.slice za zn zc)).three
            exact bodyPost_ret (v := .tuple #[.agg #[.int .i64 ses, .int .i64 (base + (qn : Int)), .slice za zn zc], .nilIface]) (by simp [results, Try.results8, go_sem, t0, t1, t2]) rfl ⟨_, by rw [HE.out], .inr ⟨HM.out, qn, HG.out, ⟨za, _, zc, rfl, ZF.out, ZC.out⟩⟩, BF⟩
        · have QD := hide (Q3.out.drop g hgq)
          have hqd : qn - g ≤ 1000 := by omega
          have HPD := hide (show ∀ f ∈ fs.drop g, f.nums.length ≤ 1000 ∧ f.nb ≤ 1000 from fun f hf => HPS.out f (List.mem_of_mem_drop hf))
          have hx3 : w.heap.size < w3.heap.size := X3.out.lt
          have hr3 : w.heap.size + 1 < w3.heap.size := R3.out.lt
          have hrx : ¬ w.heap.size + 1 = w.heap.size := by omega
          go_upto_region 8 with fail
          go_region_held3 (fun w' => w'.cell? ⟨w.heap.size, 0, none⟩ = some (.int .i64 ses) ∧ w'.cell? ⟨w.heap.size, 1, none⟩ = some (.int .i64 base) ∧ w'.cell? ⟨w.heap.size, 2, none⟩ = some (.slice (some ⟨b, off, none⟩) qn qc))
            (first
              | with_reducible exact ⟨x0, x1, x2⟩
              | (simp only [cell_drew]; with_reducible exact ⟨x0, x1, x2⟩)
              | with_reducible exact ⟨y0, y1, y2⟩
              | (simp only [cell_set_far hrx]; with_reducible exact ⟨y0, y1, y2⟩))
            (first
              | (go_at_call 29; refine (lfresh_any (some ⟨b, off + g * 3, none⟩) (qn - g) (qc - g) (fs.drop g) w3.drew (QD.out.later (Below.refl _ _).drew) hqd HPD.out).mono ?_; rintro e w4 ⟨v4, rfl, O4, E4⟩; have D4 := hide (ld_below E4.out); have FA := hide (O4.out.fla (Nat.le_refl _)); have FB := FA.out; obtain ⟨za, zc, hv, hzc, hfa⟩ := FB; obtain ⟨zn, hzn⟩ : ∃ zn : Nat, Hid (zn = (fs.drop g).length) := ⟨_, rfl⟩; rw [← hzn.out] at hv hzc hfa; subst hv; have ZA := hide (show FLA w3.heap.size w4 za zn (fs.drop g) from hfa); have ZC := hide hzc; clear hfa hzc; obtain ⟨y0, y1, y2⟩ := (X3.out.later D4.out hx3).three; have R4 := hide (R3.out.later D4.out hr3); obtain ⟨r0, r1, r2⟩ := R4.out.three; have rz := R4.out.frozen))
          all_goals
            have GF := hide (set3_grown (grow_refl w4 (some (w.heap.size + 1))) (.int .i64 ses) (.int .i64 (base + (g : Int))) (.slice za zn zc))
            have ZF := hide ((ZA.out.grown GF.out hr3).low (show w.heap.size ≤ w3.heap.size by omega))
            have BF := hide (show Below w.heap.size w (set3 w4 (w.heap.size + 1) (.int .i64 ses) (.int .i64 (base + (g : Int))) (.slice za zn zc)) from set3_below (B3.out.trans (D4.out.mono B3.out.size)) (by omega) _ _ _)
            go_wp2_with fail
            obtain ⟨t0, t1, t2⟩ := (R4.out.three_set (.int .i64 ses) (.int .i64 (base + (g : Int))) (.slice za zn zc)).three
            exact bodyPost_ret (v := .tuple #[.agg #[.int .i64 ses, .int .i64 (base + (g : Int)), .slice za zn zc], .nilIface]) (by simp [results, Try.results8, go_sem, t0, t1, t2]) rfl ⟨_, by rw [HE.out], .inr ⟨HM.out, g, HG.out, ⟨za, _, zc, rfl, ZF.out, ZC.out⟩⟩, BF⟩
  · have HM := hide hm
    have HE := hide (errV_not hm)
    rw [HE.out]
    clear hm
    obtain ⟨r0, r1, r2⟩ := R1.out.three
    have rz := R1.out.frozen
    go_wp2_with fail
    obtain ⟨t0, t1, t2⟩ := (R1.out.three_set (.int .i64 0) (.int .i64 0) (.slice none 0 0)).three
    exact bodyPost_ret (v := .tuple #[.agg #[.int .i64 0, .int .i64 0, .slice none 0 0], .iface 28 (.int .i64 (Mx.sdmay ⟨ses, base, fs⟩))]) (by simp [results, Try.results8, go_sem, t0, t1, t2]) rfl ⟨_, by rw [HE.out], .inl ⟨HM.out, SdA.zero _ _⟩, set3_below B1.out (by omega) _ _ _⟩
theorem lheard_any (ses base : Int) (qa : Option Addr) (qn qc : Nat) (fs : List Fr) (a : Option Addr) (len cap : Nat) (l : List Int) (w : World) (hq : FL w qa qn fs) (hqc : qn ≤ qc) (hl : Bytes w a len l) (hlen : len ≤ 2000) (hcap : len ≤ cap) :
    Calls Try.prog 8 #[.agg #[.int .i64 ses, .int .i64 base, .slice qa qn qc], .slice a len cap] w fun e w' => ∃ v, e = .returned (.tuple #[v, errV (Mx.sdmay ⟨ses, base, fs⟩)]) ∧ Hid ((Mx.sdmay ⟨ses, base, fs⟩ ≠ 0 ∧ SdV w' v ⟨0, 0, []⟩) ∨ (Mx.sdmay ⟨ses, base, fs⟩ = 0 ∧ ∃ g, Mx.Gone ses base qn l g ∧ SdV w' v ⟨ses, base + g, fs.drop g⟩)) ∧ Hid (Below w.heap.size w w') :=
  (lheard_own ses base qa qn qc fs a len cap l w hq hqc hl hlen hcap).mono fun e w' h => by
    obtain ⟨v, h1, h2, h3⟩ := h
    refine ⟨v, h1, ?_, h3⟩
    rcases h2.out with ⟨h4, h5⟩ | ⟨h4, g, h5, h6⟩
    · exact .inl ⟨h4, h5.sdv⟩
    · exact .inr ⟨h4, g, h5, h6.sdv⟩
end Go.Proofs.Ytfgonmgmoeoedaa

/-
  A message offered (Offer).
-/
namespace Go.Proofs.Ytfgonmgmoeoedaa
open Go.RowKit

theorem OwnFL.low {B B' : Nat} {w : World} {base : Nat} {v : Value} {fs : List Fr} (h : OwnFL B w base v fs) (hB : B' ≤ B) : OwnFL B' w base v fs := by
  obtain ⟨vs, h1, h2⟩ := h
  refine ⟨vs, h1, fun i f hf => ?_⟩
  obtain ⟨a1, n1, c1, a2, c2, e1, e2, e3, e4, e5, e6, e7, e8, e9⟩ := h2 i f hf
  exact ⟨a1, n1, c1, a2, c2, e1, e2, e3, e4, e5, e6, e7, fun h0 p hp => ⟨(e8 h0 p hp).1, Nat.le_trans hB (e8 h0 p hp).2⟩, fun h0 p hp => ⟨(e9 h0 p hp).1, Nat.le_trans hB (e9 h0 p hp).2⟩⟩

theorem OwnFL.mono {B : Nat} {w : World} {base base' : Nat} {v : Value} {fs : List Fr} (h : OwnFL B w base v fs) (hb : base' ≤ base) : OwnFL B w base' v fs := by
  obtain ⟨vs, h1, h2⟩ := h
  exact ⟨vs, World.ownsRow.mono h1 hb, h2⟩

namespace Mx
/-- the error of an offer -/
def omay (s : Sd) (f : Fr) : Int := if sdmay s = 0 then (if mmay f = 0 then (if s.q.length = 64 ∨ 2147483647 ≤ s.base + s.q.length then 2 else 0) else mmay f) else sdmay s
theorem omay_s {s : Sd} {f : Fr} (h : sdmay s ≠ 0) : omay s f = sdmay s := by unfold omay; rw [if_neg h]
theorem omay_m {s : Sd} {f : Fr} (h : sdmay s = 0) (h2 : mmay f ≠ 0) : omay s f = mmay f := by unfold omay; rw [if_pos h, if_neg h2]
theorem omay_2 {s : Sd} {f : Fr} (h : sdmay s = 0) (h2 : mmay f = 0) (h3 : s.q.length = 64 ∨ 2147483647 ≤ s.base + s.q.length) : omay s f = 2 := by unfold omay; rw [if_pos h, if_pos h2, if_pos h3]
theorem omay_0 {s : Sd} {f : Fr} (h : sdmay s = 0) (h2 : mmay f = 0) (h3 : ¬ (s.q.length = 64 ∨ 2147483647 ≤ s.base + s.q.length)) : omay s f = 0 := by unfold omay; rw [if_pos h, if_pos h2, if_neg h3]
end Mx

set_option maxHeartbeats 16000000 in
set_option maxRecDepth 100000 in
theorem loffer_own (ses base : Int) (qa : Option Addr) (qn qc : Nat) (fs : List Fr) (kd : Int) (a1 a2 : Option Addr) (n1 c1 n2 c2 : Nat) (nm bs : List Int) (w : World) (hq : FL w qa qn fs) (hi : Ints w a1 n1 nm) (hk : Blks w a2 n2 bs) :
    Calls Try.prog 19 #[.agg #[.int .i64 ses, .int .i64 base, .slice qa qn qc], .agg #[.int .i64 kd, .slice a1 n1 c1, .slice a2 n2 c2]] w fun e w' => ∃ v, e = .returned (.tuple #[v, errV (Mx.omay ⟨ses, base, fs⟩ ⟨kd, nm, n2, bs⟩)]) ∧ Hid ((Mx.omay ⟨ses, base, fs⟩ ⟨kd, nm, n2, bs⟩ ≠ 0 ∧ SdA w.heap.size w' v ⟨0, 0, []⟩) ∨ (Mx.omay ⟨ses, base, fs⟩ ⟨kd, nm, n2, bs⟩ = 0 ∧ SdA w.heap.size w' v ⟨ses, base, fs ++ [⟨kd, nm, n2, bs⟩]⟩)) ∧ Hid (Below w.heap.size w w') := by
  obtain ⟨W0, hW0⟩ : ∃ W0 : World, Hid (W0 = ((w.alloc (.cells #[.int .i64 ses, .int .i64 base, .slice qa qn qc] 24)).alloc (.cells #[.int .i64 kd, .slice a1 n1 c1, .slice a2 n2 c2] 40)).alloc (.cells #[.int .i64 0, .int .i64 0, .slice none 0 0] 24)) := ⟨_, rfl⟩
  have X0 := hide (show Bx W0 w.heap.size #[.int .i64 ses, .int .i64 base, .slice qa qn qc] 24 by rw [hW0.out]; exact ((Bx.new w _ _).alloc _).alloc _)
  have Y0 := hide (show Bx W0 (w.heap.size + 1) #[.int .i64 kd, .slice a1 n1 c1, .slice a2 n2 c2] 40 by
    rw [hW0.out]
    have h := (Bx.new (w.alloc (.cells #[.int .i64 ses, .int .i64 base, .slice qa qn qc] 24)) #[.int .i64 kd, .slice a1 n1 c1, .slice a2 n2 c2] 40).alloc (.cells #[.int .i64 0, .int .i64 0, .slice none 0 0] 24)
    rw [World.size_alloc] at h
    exact h)
  have R0 := hide (show Bx W0 (w.heap.size + 2) #[.int .i64 0, .int .i64 0, .slice none 0 0] 24 by
    rw [hW0.out]
    have h := Bx.new ((w.alloc (.cells #[.int .i64 ses, .int .i64 base, .slice qa qn qc] 24)).alloc (.cells #[.int .i64 kd, .slice a1 n1 c1, .slice a2 n2 c2] 40)) #[.int .i64 0, .int .i64 0, .slice none 0 0] 24
    rw [World.size_alloc, World.size_alloc] at h
    exact h)
  have D0 := hide (show Below w.heap.size w W0 by rw [hW0.out]; exact ((below_alloc _ _).alloc (by simp) _).alloc (by simp; omega) _)
  have HQ := hide (hq.later D0.out)
  have HI := hide (hi.later D0.out)
  have HK := hide (hk.later D0.out)
  have HN := hide hq.1
  have HIN := hide hi.1
  clear hq hi hk
  obtain ⟨x0, x1, x2⟩ := X0.out.three
  go_enter Try.func19, Try.ntmps19
  go_wp2_with fail
  rw [← hW0.out]
  refine (lcheck_any ses base qa qn qc fs W0 HQ.out).mono ?_
  rintro e w1 ⟨rfl, D1⟩
  have X1 := hide (X0.out.later D1 X0.out.lt)
  have Y1 := hide (Y0.out.later D1 Y0.out.lt)
  have R1 := hide (R0.out.later D1 R0.out.lt)
  have B1 := hide (D0.out.trans (D1.mono D0.out.size))
  clear x0 x1 x2
  by_cases hm : Mx.sdmay ⟨ses, base, fs⟩ = 0
  · have HM := hide hm
    have HOK := hide (Mx.sdmay_ok hm)
    have hq64 : qn ≤ 64 := by have h1 : fs.length ≤ 64 := HOK.out.2.1; have h2 := HN.out; omega
    have hb0 : 0 ≤ base := HOK.out.1.2.2.1
    have hb1 : base ≤ 2147483647 := HOK.out.1.2.2.2
    have HPS := hide (show ∀ f ∈ fs, f.nums.length ≤ 1000 ∧ f.nb ≤ 1000 from fun f hf => Mx.mmay_size (HOK.out.2.2 f hf))
    rw [hm, errV_zero]
    clear hm
    obtain ⟨y0, y1, y2⟩ := Y1.out.three
    have HI1 := hide (HI.out.later D1)
    have HK1 := hide (HK.out.later D1)
    go_wp2_with fail
    refine (checkMessage_any kd a1 a2 n1 c1 n2 c2 nm bs w1 HI1.out HK1.out.2.1).mono ?_
    rintro e w2 ⟨rfl, D2⟩
    have X2 := hide (X1.out.later D2 X1.out.lt)
    have Y2 := hide (Y1.out.later D2 Y1.out.lt)
    have R2 := hide (R1.out.later D2 R1.out.lt)
    have B2 := hide (B1.out.trans (D2.mono B1.out.size))
    clear y0 y1 y2
    by_cases hf : Mx.mmay ⟨kd, nm, n2, bs⟩ = 0
    · have HF := hide hf
      have HSZ := hide (Mx.mmay_size hf)
      rw [hf, errV_zero]
      clear hf
      obtain ⟨x0, x1, x2⟩ := X2.out.three
      have hwq : IntKind.i64.wrap (2147483647 - (qn : Int)) = 2147483647 - (qn : Int) := by rw [IntWalk.i64_left, IntWalk.wrap64_in _ (by omega)]
      by_cases h64 : qn = 64
      · have HO := hide (Mx.omay_2 (s := ⟨ses, base, fs⟩) (f := ⟨kd, nm, n2, bs⟩) HM.out HF.out (.inl (by rw [HN.out]; exact h64)))
        have d64 : ((qn : Int) == 64) = true := by simpa using (show (qn : Int) = 64 by omega)
        have d64n : (qn == 64) = true := by simpa using h64
        clear h64
        obtain ⟨r0, r1, r2⟩ := R2.out.three
        have rz := R2.out.frozen
        go_wp2_with fail
        obtain ⟨t0, t1, t2⟩ := (R2.out.three_set (.int .i64 0) (.int .i64 0) (.slice none 0 0)).three
        exact bodyPost_ret (v := .tuple #[.agg #[.int .i64 0, .int .i64 0, .slice none 0 0], .iface 28 (.int .i64 2)]) (by simp [results, Try.results19, go_sem, t0, t1, t2]) rfl ⟨_, by rw [HO.out] <;> rfl, .inl ⟨by rw [HO.out]; decide, SdA.zero _ _⟩, set3_below B2.out (by omega) _ _ _⟩
      · have d64 : ((qn : Int) == 64) = false := by simpa using (show ¬ (qn : Int) = 64 by omega)
        have d64n : (qn == 64) = false := by simpa using h64
        by_cases hbq : 2147483647 - (qn : Int) ≤ base
        · have HO := hide (Mx.omay_2 (s := ⟨ses, base, fs⟩) (f := ⟨kd, nm, n2, bs⟩) HM.out HF.out (.inr (by show 2147483647 ≤ base + (fs.length : Int); rw [HN.out]; omega)))
          have dbq : decide (2147483647 - (qn : Int) ≤ base) = true := by simpa using hbq
          clear hbq
          obtain ⟨r0, r1, r2⟩ := R2.out.three
          have rz := R2.out.frozen
          go_wp2_with fail
          obtain ⟨t0, t1, t2⟩ := (R2.out.three_set (.int .i64 0) (.int .i64 0) (.slice none 0 0)).three
          exact bodyPost_ret (v := .tuple #[.agg #[.int .i64 0, .int .i64 0, .slice none 0 0], .iface 28 (.int .i64 2)]) (by simp [results, Try.results19, go_sem, t0, t1, t2]) rfl ⟨_, by rw [HO.out] <;> rfl, .inl ⟨by rw [HO.out]; decide, SdA.zero _ _⟩, set3_below B2.out (by omega) _ _ _⟩
        · have HO := hide (Mx.omay_0 (s := ⟨ses, base, fs⟩) (f := ⟨kd, nm, n2, bs⟩) HM.out HF.out (by show ¬ (fs.length = 64 ∨ 2147483647 ≤ base + (fs.length : Int)); rw [HN.out]; omega))
          have dbq : decide (2147483647 - (qn : Int) ≤ base) = false := by simpa using hbq
          have hn1 : n1 ≤ 1000 := by have h1 : nm.length ≤ 1000 := HSZ.out.1; have h2 := HIN.out; omega
          have hn2 : n2 ≤ 1000 := HSZ.out.2
          clear hbq h64
          obtain ⟨w3, hw3⟩ : ∃ w3 : World, Hid (w3 = w2) := ⟨_, rfl⟩
          rw [← hw3.out] at X2 Y2 R2 B2 x0 x1 x2 ⊢
          have X3 := X2
          have Y3 := Y2
          have R3 := R2
          have B3 := B2
          have Q3 := hide (show FL w3 qa qn fs by rw [hw3.out]; exact (HQ.out.later D1).later D2)
          have I3 := hide (show Ints w3 a1 n1 nm by rw [hw3.out]; exact HI1.out.later D2)
          have K3 := hide (show Blks w3 a2 n2 bs by rw [hw3.out]; exact HK1.out.later D2)
          have hx3 : w.heap.size < w3.heap.size := X3.out.lt
          have hy3 : w.heap.size + 1 < w3.heap.size := Y3.out.lt
          have hr3 : w.heap.size + 2 < w3.heap.size := R3.out.lt
          have hqd : qn ≤ 1000 := by omega
          have hql : fs.length ≤ 100000 := by have := HN.out; omega
          clear x0 x1 x2
          obtain ⟨x0, x1, x2⟩ := X3.out.three
          obtain ⟨y0, y1, y2⟩ := Y3.out.three
          go_upto_region 10 with fail
          go_region_held3 (fun w' => w'.cell? ⟨w.heap.size, 2, none⟩ = some (.slice qa qn qc) ∧ w'.cell? ⟨w.heap.size + 1, 0, none⟩ = some (.int .i64 kd) ∧ w'.cell? ⟨w.heap.size + 1, 1, none⟩ = some (.slice a1 n1 c1) ∧ w'.cell? ⟨w.heap.size + 1, 2, none⟩ = some (.slice a2 n2 c2))
            (first
              | with_reducible exact ⟨x2, y0, y1, y2⟩
              | (simp only [cell_drew]; with_reducible exact ⟨x2, y0, y1, y2⟩)
              | with_reducible exact ⟨s2, p0, p1, p2⟩
              | (simp only [cell_alloc_lt hs4x, cell_alloc_lt hs4y]; with_reducible exact ⟨s2, p0, p1, p2⟩)
              | with_reducible exact ⟨u2, v0, v1, v2⟩
              | (simp only [cell_alloc_lt hs5x, cell_alloc_lt hs5y]; with_reducible exact ⟨u2, v0, v1, v2⟩)
              | with_reducible exact ⟨i2, j0, j1, j2⟩)
            (first
              | (go_at_call 29; (with_reducible refine (lfresh_any qa qn qc fs w3.drew (Q3.out.later (Below.refl _ _).drew) hqd HPS.out).mono ?_); rintro e w4 ⟨vq, rfl, OQ, E4⟩; have D4 := hide (ld_below E4.out); obtain ⟨s0, s1, s2⟩ := (X3.out.later D4.out hx3).three; obtain ⟨p0, p1, p2⟩ := (Y3.out.later D4.out hy3).three)
              | (go_at_call 38; (with_reducible refine (lclone_any kd a1 a2 n1 c1 n2 c2 nm bs w3.drew (I3.out.later (Below.refl _ _).drew) (K3.out.later (Below.refl _ _).drew) hn1 hn2).mono ?_); rintro e w4 ⟨vf, rfl, FV, E4⟩; have D4 := hide (ld_below E4.out); have FV' := FV.out; obtain ⟨x1', m1, k1, x2', k2, rfl, g1, g2, g3, g4, g5, g6⟩ := FV'; dsimp only at g1 g2 g4 g5 g6; have G1 := hide g1; have G2 := hide g2; have G3 := hide g3; have G4 := hide g4; have G5 := hide g5; have G6 := hide g6; clear g1 g2 g3 g4 g5 g6; obtain ⟨s0, s1, s2⟩ := (X3.out.later D4.out hx3).three; obtain ⟨p0, p1, p2⟩ := (Y3.out.later D4.out hy3).three; have hs4x : w.heap.size < w4.heap.size := Nat.lt_of_lt_of_le hx3 D4.out.size; have hs4y : w.heap.size + 1 < w4.heap.size := Nat.lt_of_lt_of_le hy3 D4.out.size)
              | (go_at_call 38; (with_reducible refine (lclone_any kd a1 a2 n1 c1 n2 c2 nm bs w4 (I3.out.later D4.out) (K3.out.later D4.out) hn1 hn2).mono ?_); rintro e w5 ⟨vf, rfl, FV, E5⟩; have D5 := hide (show Below w3.heap.size w3 w5 from D4.out.trans (E5.out.mono D4.out.size)); have FV' := FV.out; obtain ⟨x1', m1, k1, x2', k2, rfl, g1, g2, g3, g4, g5, g6⟩ := FV'; dsimp only at g1 g2 g4 g5 g6; have G1 := hide g1; have G2 := hide g2; have G3 := hide g3; have G4 := hide g4; have G5 := hide g5; have G6 := hide g6; clear g1 g2 g3 g4 g5 g6; have OQ5 := hide ((OQ.out.later E5.out).low (show w3.heap.size ≤ w3.drew.heap.size from Nat.le_refl _)); replace OQ5 := hide (OQ5.out.mono (show w3.heap.size ≤ w3.drew.heap.size from Nat.le_refl _)); have Q15 := hide (show 0 < m1 → ∀ p, x1' = some p → vq.ownBlock ≠ some p.block ∧ w3.heap.size ≤ p.block from fun h0 p hp => ⟨fun e => by have h1 := (OQ.out.lt _ e).2; have h2 := G5.out h0 p hp; omega, by have h2 := G5.out h0 p hp; have h3 := D4.out.size; omega⟩); have Q25 := hide (show 0 < n2 → ∀ p, x2' = some p → vq.ownBlock ≠ some p.block ∧ w3.heap.size ≤ p.block from fun h0 p hp => ⟨fun e => by have h1 := (OQ.out.lt _ e).2; have h2 := G6.out h0 p hp; omega, by have h2 := G6.out h0 p hp; have h3 := D4.out.size; omega⟩); obtain ⟨u0, u1, u2⟩ := (X3.out.later D5.out hx3).three; obtain ⟨v0, v1, v2⟩ := (Y3.out.later D5.out hy3).three; have hs5x : w.heap.size < w5.heap.size := Nat.lt_of_lt_of_le hx3 D5.out.size; have hs5y : w.heap.size + 1 < w5.heap.size := Nat.lt_of_lt_of_le hy3 D5.out.size)
              | (go_at_call 29; (with_reducible refine (lfresh_any qa qn qc fs w4 (Q3.out.later D4.out) hqd HPS.out).mono ?_); rintro e w5 ⟨vq, rfl, OQ, E5⟩; have D5 := hide (show Below w3.heap.size w3 w5 from D4.out.trans (E5.out.mono D4.out.size)); have OQ5 := hide ((OQ.out.low (show w3.heap.size ≤ w4.heap.size from D4.out.size)).mono (show w3.heap.size ≤ w4.heap.size from D4.out.size)); have Q15 := hide (show 0 < m1 → ∀ p, x1' = some p → vq.ownBlock ≠ some p.block ∧ w3.heap.size ≤ p.block from fun h0 p hp => ⟨fun e => by have h1 := (OQ.out.lt _ e).1; have h2 := G1.out.row.off h0 p hp; omega, G5.out h0 p hp⟩); have Q25 := hide (show 0 < n2 → ∀ p, x2' = some p → vq.ownBlock ≠ some p.block ∧ w3.heap.size ≤ p.block from fun h0 p hp => ⟨fun e => by have h1 := (OQ.out.lt _ e).1; have h2 := G2.out.row.off h0 p hp; omega, G6.out h0 p hp⟩); replace G1 := hide (G1.out.later E5.out); replace G2 := hide (G2.out.later E5.out); obtain ⟨u0, u1, u2⟩ := (X3.out.later D5.out hx3).three; obtain ⟨v0, v1, v2⟩ := (Y3.out.later D5.out hy3).three; have hs5x : w.heap.size < w5.heap.size := Nat.lt_of_lt_of_le hx3 D5.out.size; have hs5y : w.heap.size + 1 < w5.heap.size := Nat.lt_of_lt_of_le hy3 D5.out.size)
              | (go_at_call 29; (with_reducible refine (lfresh_any qa qn qc fs (w4.alloc (.cells #[.int .i64 kd, .slice x1' m1 k1, .slice x2' n2 k2] 40)) (Q3.out.later (D4.out.alloc D4.out.size _)) hqd HPS.out).mono ?_); rintro e w5 ⟨vq, rfl, OQ, E5⟩; have D45 := hide (show Below w4.heap.size w4 w5 from (below_alloc w4 _).trans (E5.out.mono (by simp))); have D5 := hide (show Below w3.heap.size w3 w5 from D4.out.trans (D45.out.mono D4.out.size)); have XEP := hide ((Bx.new w4 #[.int .i64 kd, .slice x1' m1 k1, .slice x2' n2 k2] 40).later E5.out (by simp)); have hw45 : w4.heap.size + 1 = (w4.alloc (.cells #[.int .i64 kd, .slice x1' m1 k1, .slice x2' n2 k2] 40)).heap.size := by simp; have OQ5 := hide ((OQ.out.low (show w3.heap.size ≤ (w4.alloc (.cells #[.int .i64 kd, .slice x1' m1 k1, .slice x2' n2 k2] 40)).heap.size by have := D4.out.size; omega)).mono (show w3.heap.size ≤ (w4.alloc (.cells #[.int .i64 kd, .slice x1' m1 k1, .slice x2' n2 k2] 40)).heap.size by have := D4.out.size; omega)); have Q15 := hide (show 0 < m1 → ∀ p, x1' = some p → vq.ownBlock ≠ some p.block ∧ w3.heap.size ≤ p.block from fun h0 p hp => ⟨fun e => by have h1 := (OQ.out.lt _ e).1; have h2 := G1.out.row.off h0 p hp; omega, G5.out h0 p hp⟩); have Q25 := hide (show 0 < n2 → ∀ p, x2' = some p → vq.ownBlock ≠ some p.block ∧ w3.heap.size ≤ p.block from fun h0 p hp => ⟨fun e => by have h1 := (OQ.out.lt _ e).1; have h2 := G2.out.row.off h0 p hp; omega, G6.out h0 p hp⟩); replace G1 := hide (G1.out.later D45.out); replace G2 := hide (G2.out.later D45.out); obtain ⟨u0, u1, u2⟩ := (X3.out.later D5.out hx3).three; obtain ⟨v0, v1, v2⟩ := (Y3.out.later D5.out hy3).three)
              | (refine step_append_fr (w := w5.alloc (.cells #[.int .i64 kd, .slice x1' m1 k1, .slice x2' n2 k2] 40)) rfl (.tmp 38) (.tmp 41) rfl w3.heap.size w3.heap.size (v := vq) (fs := fs) rfl ?o1 w5.heap.size (kd := kd) (a1 := x1') (n1 := m1) (c1 := k1) (a2 := x2') (n2 := n2) (c2 := k2) (nm := nm) (bs := bs) rfl (Bx.new _ _ _) ?o2 ?o3 G3.out G4.out Q15.out Q25.out hql ?o4 ?_; (case o1 => exact OQ5.out.later (below_alloc _ _)); (case o2 => exact G1.out.later (below_alloc _ _)); (case o3 => exact G2.out.later (below_alloc _ _)); (case o4 => exact Nat.le_trans D5.out.size (by simp)); intro v6 w6 O6 G6'; have FB := O6.out.fla (Nat.le_refl _); obtain ⟨za, zc, hv, hzc, hfa⟩ := FB; rw [List.length_append, List.length_singleton, HN.out] at hv hzc hfa; subst hv; have ZA := hide hfa; have ZCq := hide hzc; clear hfa hzc; have D6 := hide (show Below w3.heap.size w3 w6 from (D5.out.alloc D5.out.size _).grown G6'.out (Nat.le_trans D5.out.size (by simp)) (fun i hi => (OQ5.out.lt i hi).1)); obtain ⟨i0, i1, i2⟩ := (X3.out.later D6.out hx3).three; obtain ⟨j0, j1, j2⟩ := (Y3.out.later D6.out hy3).three)
              | (refine step_append_fr (w := w5) rfl (.tmp 38) (.tmp 41) rfl w3.heap.size w3.heap.size (v := vq) (fs := fs) rfl OQ5.out w4.heap.size (kd := kd) (a1 := x1') (n1 := m1) (c1 := k1) (a2 := x2') (n2 := n2) (c2 := k2) (nm := nm) (bs := bs) rfl XEP.out G1.out G2.out G3.out G4.out Q15.out Q25.out hql D5.out.size ?_; intro v6 w6 O6 G6'; have FB := O6.out.fla (Nat.le_refl _); obtain ⟨za, zc, hv, hzc, hfa⟩ := FB; rw [List.length_append, List.length_singleton, HN.out] at hv hzc hfa; subst hv; have ZA := hide hfa; have ZCq := hide hzc; clear hfa hzc; have D6 := hide (show Below w3.heap.size w3 w6 from D5.out.grown G6'.out D5.out.size (fun i hi => (OQ5.out.lt i hi).1)); obtain ⟨i0, i1, i2⟩ := (X3.out.later D6.out hx3).three; obtain ⟨j0, j1, j2⟩ := (Y3.out.later D6.out hy3).three))
          all_goals
            have X6 := hide (X3.out.later D6.out hx3)
            have R6 := hide (R3.out.later D6.out hr3)
            have B6 := hide (B3.out.trans (D6.out.mono B3.out.size))
            obtain ⟨z0, z1, z2⟩ := X6.out.three
            obtain ⟨r0, r1, r2⟩ := R6.out.three
            have rz := R6.out.frozen
            have GF := hide (set3_grown (grow_refl w6 (some (w.heap.size + 2))) (.int .i64 ses) (.int .i64 base) (.slice za (qn + 1) zc))
            have ZF := hide ((ZA.out.grown GF.out hr3).low (show w.heap.size ≤ _ by omega))
            have BF := hide (show Below w.heap.size w (set3 w6 (w.heap.size + 2) (.int .i64 ses) (.int .i64 base) (.slice za (qn + 1) zc)) from set3_below B6.out (by omega) _ _ _)
            go_wp2_with fail
            obtain ⟨t0, t1, t2⟩ := (R6.out.three_set (.int .i64 ses) (.int .i64 base) (.slice za (qn + 1) zc)).three
            exact bodyPost_ret (v := .tuple #[.agg #[.int .i64 ses, .int .i64 base, .slice za (qn + 1) zc], .nilIface]) (by simp [results, Try.results19, go_sem, t0, t1, t2]) rfl ⟨_, by rw [HO.out, errV_zero], .inr ⟨HO.out, ⟨za, qn + 1, zc, rfl, ZF.out, ZCq.out⟩⟩, BF⟩
    · have HO := hide (Mx.omay_m (s := ⟨ses, base, fs⟩) (f := ⟨kd, nm, n2, bs⟩) HM.out hf)
      have HE := hide (errV_not hf)
      have HNE := hide hf
      rw [HE.out]
      clear hf
      obtain ⟨r0, r1, r2⟩ := R2.out.three
      have rz := R2.out.frozen
      go_wp2_with fail
      obtain ⟨t0, t1, t2⟩ := (R2.out.three_set (.int .i64 0) (.int .i64 0) (.slice none 0 0)).three
      exact bodyPost_ret (v := .tuple #[.agg #[.int .i64 0, .int .i64 0, .slice none 0 0], .iface 28 (.int .i64 (Mx.mmay ⟨kd, nm, n2, bs⟩))]) (by simp [results, Try.results19, go_sem, t0, t1, t2]) rfl ⟨_, by rw [HO.out]; rw [HE.out], .inl ⟨by rw [HO.out]; exact HNE.out, SdA.zero _ _⟩, set3_below B2.out (by omega) _ _ _⟩
  · have HO := hide (Mx.omay_s (f := ⟨kd, nm, n2, bs⟩) hm)
    have HE := hide (errV_not hm)
    have HNE := hide hm
    rw [HE.out]
    clear hm
    obtain ⟨r0, r1, r2⟩ := R1.out.three
    have rz := R1.out.frozen
    go_wp2_with fail
    obtain ⟨t0, t1, t2⟩ := (R1.out.three_set (.int .i64 0) (.int .i64 0) (.slice none 0 0)).three
    exact bodyPost_ret (v := .tuple #[.agg #[.int .i64 0, .int .i64 0, .slice none 0 0], .iface 28 (.int .i64 (Mx.sdmay ⟨ses, base, fs⟩))]) (by simp [results, Try.results19, go_sem, t0, t1, t2]) rfl ⟨_, by rw [HO.out]; rw [HE.out], .inl ⟨by rw [HO.out]; exact HNE.out, SdA.zero _ _⟩, set3_below B1.out (by omega) _ _ _⟩
theorem loffer_any (ses base : Int) (qa : Option Addr) (qn qc : Nat) (fs : List Fr) (kd : Int) (a1 a2 : Option Addr) (n1 c1 n2 c2 : Nat) (nm bs : List Int) (w : World) (hq : FL w qa qn fs) (hi : Ints w a1 n1 nm) (hk : Blks w a2 n2 bs) :
    Calls Try.prog 19 #[.agg #[.int .i64 ses, .int .i64 base, .slice qa qn qc], .agg #[.int .i64 kd, .slice a1 n1 c1, .slice a2 n2 c2]] w fun e w' => ∃ v, e = .returned (.tuple #[v, errV (Mx.omay ⟨ses, base, fs⟩ ⟨kd, nm, n2, bs⟩)]) ∧ Hid ((Mx.omay ⟨ses, base, fs⟩ ⟨kd, nm, n2, bs⟩ ≠ 0 ∧ SdV w' v ⟨0, 0, []⟩) ∨ (Mx.omay ⟨ses, base, fs⟩ ⟨kd, nm, n2, bs⟩ = 0 ∧ SdV w' v ⟨ses, base, fs ++ [⟨kd, nm, n2, bs⟩]⟩)) ∧ Hid (Below w.heap.size w w') :=
  (loffer_own ses base qa qn qc fs kd a1 a2 n1 c1 n2 c2 nm bs w hq hi hk).mono fun e w' h => by
    obtain ⟨v, h1, h2, h3⟩ := h
    refine ⟨v, h1, ?_, h3⟩
    rcases h2.out with ⟨h4, h5⟩ | ⟨h4, h5⟩
    · exact .inl ⟨h4, h5.sdv⟩
    · exact .inr ⟨h4, h5.sdv⟩
end Go.Proofs.Ytfgonmgmoeoedaa

/-
  What was heard: the document's answer (HeardOf).
-/
namespace Go.Proofs.Ytfgonmgmoeoedaa
open Go.RowKit

theorem Mx.came_at {base x : Int} {qn k : Nat} (h : x = base + (k : Int)) (h1 : 1 ≤ k) (h2 : k ≤ min qn 4) : Mx.came base x qn = k := by
  unfold Mx.came
  rw [if_neg (by omega)]
  omega
theorem Mx.came_no {base x : Int} {qn : Nat} (h : ∀ k : Nat, 1 ≤ k → k ≤ min qn 4 → x ≠ base + (k : Int)) : Mx.came base x qn = 0 := by
  unfold Mx.came
  split
  · rfl
  · next h1 =>
    have h2 := h (x - base).toNat (by omega) (by omega)
    omega

/-- a sender whose messages lie where others did that were handed in -/
def SdQ (qa : Option Addr) (qn : Nat) (fs : List Fr) (v : Value) (s : Sd) : Prop := ∃ (ga : Option Addr) (gl gc : Nat), v = .agg #[.int .i64 s.ses, .int .i64 s.base, .slice ga gl gc] ∧ gl ≤ gc ∧ ∀ W, FL W qa qn fs → FL W ga gl s.q

set_option maxHeartbeats 16000000 in
set_option maxRecDepth 100000 in
theorem heardOf_any (ses base : Int) (qa : Option Addr) (qn qc : Nat) (fs : List Fr) (a : Option Addr) (len cap : Nat) (l : List Int) (w : World) (hq : FL w qa qn fs) (hqc : qn ≤ qc) (hl : Bytes w a len l) (hlen : len ≤ 2000) (hb0 : 0 ≤ base) (hb1 : base ≤ 2147483647) (hq64 : qn ≤ 64) :
    Calls Try.prog 7 #[.agg #[.int .i64 ses, .int .i64 base, .slice qa qn qc], .slice a len cap] w fun e w' => ∃ v, e = .returned v ∧ Hid (∃ g, Mx.Gone ses base qn l g ∧ SdQ qa qn fs v ⟨ses, base + g, fs.drop g⟩) ∧ Hid (Below w.heap.size w w') := by
  obtain ⟨W0, hW0⟩ : ∃ W0 : World, Hid (W0 = (w.alloc (.cells #[.int .i64 ses, .int .i64 base, .slice qa qn qc] 24)).alloc (.cells #[.int .i64 0, .int .i64 0, .slice none 0 0] 24)) := ⟨_, rfl⟩
  have X0 := hide (show Bx W0 w.heap.size #[.int .i64 ses, .int .i64 base, .slice qa qn qc] 24 by rw [hW0.out]; exact (Bx.new w _ _).alloc _)
  have R0 := hide (show Bx W0 (w.heap.size + 1) #[.int .i64 0, .int .i64 0, .slice none 0 0] 24 by
    rw [hW0.out]
    have h := Bx.new (w.alloc (.cells #[.int .i64 ses, .int .i64 base, .slice qa qn qc] 24)) #[.int .i64 0, .int .i64 0, .slice none 0 0] 24
    rw [World.size_alloc] at h
    exact h)
  have D0 := hide (show Below w.heap.size w W0 by rw [hW0.out]; exact (below_alloc _ _).alloc (by simp) _)
  have HQ := hide hq
  have HL := hide (hl.later D0.out)
  have HN := hide hq.1
  clear hq hl
  go_enter Try.func7, Try.ntmps7
  go_wp2_with fail
  rw [← hW0.out]
  refine (unpacked_any a len cap l W0 HL.out hlen).mono ?_
  rintro e w1 (⟨kd, nums, nb, bs, a1, c1, a2, c2, rfl, hF, hI, hK, hB⟩ | ⟨rfl, hno, hB⟩)
  · have HF := hide hF
    obtain ⟨n1, hn1⟩ : ∃ n1 : Nat, Hid (n1 = nums.length) := ⟨_, rfl⟩
    rw [← hn1.out] at hI ⊢
    have hnb : nb ≤ maxLen := hK.2.1
    have hnl : n1 ≤ maxLen := hI.2.1
    rw [maxLen_val] at hnb hnl
    obtain ⟨W2, hW2⟩ : ∃ W2 : World, Hid (W2 = w1.alloc (.cells #[.int .i64 kd, .slice a1 n1 c1, .slice a2 nb c2] 40)) := ⟨_, rfl⟩
    have D2 := hide (show Below w1.heap.size w1 W2 by rw [hW2.out]; exact below_alloc _ _)
    have F2 := hide (show Bx W2 w1.heap.size #[.int .i64 kd, .slice a1 n1 c1, .slice a2 nb c2] 40 by rw [hW2.out]; exact Bx.new w1 _ _)
    have X2 := hide ((X0.out.later hB X0.out.lt).later D2.out (X0.out.later hB X0.out.lt).lt)
    have R2 := hide ((R0.out.later hB R0.out.lt).later D2.out (R0.out.later hB R0.out.lt).lt)
    have HI := hide (hI.later D2.out)
    have hB2 := D0.out.trans (hB.mono D0.out.size)
    have B2 := hide (hB2.trans (D2.out.mono hB2.size))
    have HNO := hide (show ∀ y, Mx.Ack l ses y → kd = 0 ∧ nums = [ses, y] ∧ nb = 0 from fun y hy => by
      obtain ⟨h1, h2, h3, _⟩ := Mx.IsFrame.one HF.out hy
      exact ⟨h1, h2, h3⟩)
    clear hF hI hK hB hB2
    go_wp2_with fail
    rw [← hW2.out]
    by_cases h1 : kd = 0
    · subst h1
      by_cases h2 : (0 : Int) < nb
      · have d2 : decide ((0 : Int) < nb) = true := by simpa using h2
        have d2n : decide (0 < nb) = true := by simpa using (show 0 < nb by omega)
        have HNA := hide (show ∀ y, ¬ Mx.Ack l ses y from fun y hy => by have := (HNO.out y hy).2.2; omega)
        have HG := hide (show Mx.Gone ses base qn l 0 from .inr ⟨HNA.out, rfl⟩)
        obtain ⟨x0, x1, x2⟩ := X2.out.three
        obtain ⟨r0, r1, r2⟩ := R2.out.three
        have rz := R2.out.frozen
        obtain ⟨f0, f1, f2⟩ := F2.out.three
        go_quiet (fail)
        have RX := hide (show Bx (W2.drewN nq) (w.heap.size + 1) #[.int .i64 0, .int .i64 0, .slice none 0 0] 24 from R2.out.drewN nq)
        have BX := hide (below_drewN B2.out nq)
        go_wp2_with fail
        obtain ⟨t0, t1, t2⟩ := (RX.out.three_set (.int .i64 ses) (.int .i64 base) (.slice qa qn qc)).three
        exact bodyPost_ret (v := .agg #[.int .i64 ses, .int .i64 base, .slice qa qn qc]) (by simp [results, Try.results7, go_sem, t0, t1, t2]) rfl ⟨_, rfl, ⟨0, HG.out, by rw [show base + ((0 : Nat) : Int) = base by omega, List.drop_zero]; exact ⟨qa, qn, qc, rfl, hqc, fun _ h => h⟩⟩, set3_below BX.out (by omega) _ _ _⟩
      · have d2 : decide ((0 : Int) < nb) = false := by simpa using h2
        have d2n : decide (0 < nb) = false := by simpa using (show ¬ 0 < nb by omega)
        by_cases h3 : n1 = 2
        · subst h3
          obtain ⟨b, off, y0, hab, hblt, hx0, e0⟩ := HI.out.at_ 0 (by omega)
          obtain ⟨b', off', y1, hab', _, hx1, e1⟩ := HI.out.at_ 1 (by omega)
          rw [hab] at hab'
          cases hab'
          subst hab
          rw [Nat.add_zero] at e0
          have HA := hide (show y0 = ses → Mx.Ack l ses y1 from fun h => by
            have h5 := Mx.ack_of (ses := ses) HF.out rfl (by omega) hn1.out.symm (hx0.trans h)
            rw [hx1] at h5
            exact h5)
          have HN4 := hide (show y0 ≠ ses → ∀ y, ¬ Mx.Ack l ses y from fun hne y hy => by
            have h5 := (HNO.out y hy).2.1
            rw [h5] at hx0
            exact hne hx0.symm)
          clear hx0 hx1
          by_cases h4 : y0 = ses
          · have d4 : (y0 != ses) = false := by simpa using h4
            have HAK := hide (HA.out h4)
            have hxr := Mx.ack_range HAK.out
            clear d4
            have hx2 : w.heap.size < W2.heap.size := X2.out.lt
            obtain ⟨x0, x1, x2⟩ := X2.out.three
            obtain ⟨f0, f1, f2⟩ := F2.out.three
            have d4 : (y0 != ses) = false := by simpa using h4
            go_quiet (fail)
            obtain ⟨W3, hW3⟩ : ∃ W3 : World, Hid (W3 = W2.drewN nq) := ⟨_, rfl⟩
            have D3 := hide (show Below W2.heap.size W2 W3 by rw [hW3.out]; exact below_drewN (Below.refl _ _) nq)
            rw [← hW3.out]
            clear x0 x1 x2 f0 f1 f2
            obtain ⟨M, hM⟩ : ∃ M : Nat, Hid (M = min qn 4) := ⟨_, rfl⟩
            have hM4 : M ≤ 4 := by rw [hM.out]; omega
            have hMq : M ≤ qn := by rw [hM.out]; omega
            go_wp2_with fail
            go_loopw [7] (fun t wr => ∃ k : Nat, 1 ≤ k ∧ k ≤ M + 1 ∧ t = .int .i64 (k : Int) ∧ Hid (∀ j : Nat, 1 ≤ j → j < k → y1 ≠ base + (j : Int)) ∧ Hid (Below W2.heap.size W2 wr)) (fun t _ => M + 1 - (intOf t).toNat)
            case atStart => exact ⟨1, by omega, by omega, rfl, hide (fun j h1 h2 => by omega), D3⟩
            case round =>
              obtain ⟨k, hk1, hk2, rfl, hG, hB⟩ := hrel
              have X4 := hide (X2.out.later hB.out X2.out.lt)
              have R4 := hide (R2.out.later hB.out R2.out.lt)
              have F4 := hide (F2.out.later hB.out F2.out.lt)
              have B4 := hide (B2.out.trans (hB.out.mono B2.out.size))
              have HI4 := hide (HI.out.later hB.out)
              obtain ⟨x0, x1, x2⟩ := X4.out.three
              go_wp2_with fail
              refine (windowR_any ses base qa qn qc wr (by omega)).mono ?_
              rintro e w5 ⟨rfl, D5⟩
              rw [← hM.out]
              have X5 := hide (X4.out.later D5 X4.out.lt)
              have R5 := hide (R4.out.later D5 R4.out.lt)
              have F5 := hide (F4.out.later D5 F4.out.lt)
              have B5 := hide (B4.out.trans (D5.mono B4.out.size))
              have E5 := hide (hB.out.trans (D5.mono hB.out.size))
              clear x0 x1 x2
              obtain ⟨x0, x1, x2⟩ := X5.out.three
              obtain ⟨f0, f1, f2⟩ := F5.out.three
              have g0 := (E5.out.cell (p := ⟨b, off, none⟩) hblt).trans e0
              have g1 := (E5.out.cell (p := ⟨b, off + 1, none⟩) hblt).trans e1
              by_cases hkm : k ≤ M
              · have dkm : decide ((k : Int) ≤ M) = true := by simpa using (show (k : Int) ≤ M by omega)
                have dkn : decide (k ≤ M) = true := by simpa using hkm
                have hwk : IntKind.i64.wrap (base + (k : Int)) = base + (k : Int) := by rw [IntWalk.i64_left, IntWalk.wrap64_in _ (by omega)]
                by_cases hy : y1 = base + (k : Int)
                · have HC := hide (Mx.came_at hy hk1 (by rw [← hM.out]; exact hkm))
                  have HG := hide (show Mx.Gone ses base qn l k from .inl ⟨y1, HAK.out, HC.out.symm⟩)
                  have dy : (y1 == base + (k : Int)) = true := by simpa using hy
                  clear hy
                  go_upto_region 7 with fail
                  go_quiet (fail)
                  obtain ⟨W6, hW6⟩ : ∃ W6 : World, Hid (W6 = w5.drewN nq) := ⟨_, rfl⟩
                  have D6 := hide (show Below w5.heap.size w5 W6 by rw [hW6.out]; exact below_drewN (Below.refl _ _) nq)
                  rw [← hW6.out]
                  clear x0 x1 x2 f0 f1 f2 g0 g1
                  have X6 := hide (X5.out.later D6.out X5.out.lt)
                  have R6 := hide (R5.out.later D6.out R5.out.lt)
                  have B6 := hide (B5.out.trans (D6.out.mono B5.out.size))
                  have hrx : ¬ w.heap.size + 1 = w.heap.size := by omega
                  obtain ⟨b2, off2, hab2, _⟩ := HQ.out.2.2 (by omega)
                  subst hab2
                  obtain ⟨x0, x1, x2⟩ := X6.out.three
                  obtain ⟨r0, r1, r2⟩ := R6.out.three
                  have rz := R6.out.frozen
                  have hgi : (k : Int) ≤ qn := by omega
                  have hgc : (k : Int) ≤ qc := by omega
                  by_cases hcg : qc = k
                  · have hqn : qn = k := by omega
                    have HDR := hide (show fs.drop k = [] from List.drop_of_length_le (by rw [HN.out]; omega))
                    have HG2 := HG
                    subst hcg
                    subst hqn
                    go_upto_region 8 with fail
                    go_region_held3 (fun w' => w'.cell? ⟨w.heap.size, 0, none⟩ = some (.int .i64 ses) ∧ w'.cell? ⟨w.heap.size, 1, none⟩ = some (.int .i64 base) ∧ w'.cell? ⟨w.heap.size, 2, none⟩ = some (.slice (some ⟨b2, off2, none⟩) qn qn))
                      (first
                        | with_reducible exact ⟨x0, x1, x2⟩
                        | (simp only [cell_drew]; with_reducible exact ⟨x0, x1, x2⟩)
                        | (simp only [cell_set_far hrx, cell_drew]; with_reducible exact ⟨x0, x1, x2⟩))
                      (fail)
                    all_goals
                      go_wp2_with fail
                      obtain ⟨t0, t1, t2⟩ := (R6.out.three_set (.int .i64 ses) (.int .i64 (base + (qn : Int))) (.slice (some ⟨b2, off2, none⟩) 0 0)).three
                      exact bodyPost_ret (v := .agg #[.int .i64 ses, .int .i64 (base + (qn : Int)), .slice (some ⟨b2, off2, none⟩) 0 0]) (by simp [results, Try.results7, go_sem, t0, t1, t2]) rfl ⟨_, rfl, ⟨qn, HG2.out, some ⟨b2, off2, none⟩, 0, 0, rfl, Nat.le_refl _, fun W _ => by show FL W _ 0 (fs.drop qn); rw [HDR.out]; exact ⟨rfl, by rw [maxLen_val]; omega, fun h => absurd h (by omega)⟩⟩, (set3_below B6.out (by omega) _ _ _).drew⟩
                  · go_upto_region 8 with fail
                    go_region_held3 (fun w' => w'.cell? ⟨w.heap.size, 0, none⟩ = some (.int .i64 ses) ∧ w'.cell? ⟨w.heap.size, 1, none⟩ = some (.int .i64 base) ∧ w'.cell? ⟨w.heap.size, 2, none⟩ = some (.slice (some ⟨b2, off2, none⟩) qn qc))
                      (first
                        | with_reducible exact ⟨x0, x1, x2⟩
                        | (simp only [cell_drew]; with_reducible exact ⟨x0, x1, x2⟩)
                        | (simp only [cell_set_far hrx, cell_drew]; with_reducible exact ⟨x0, x1, x2⟩))
                      (fail)
                    all_goals
                      go_wp2_with fail
                      obtain ⟨t0, t1, t2⟩ := (R6.out.three_set (.int .i64 ses) (.int .i64 (base + (k : Int))) (.slice (some ⟨b2, off2 + k * 3, none⟩) (qn - k) (qc - k))).three
                      exact bodyPost_ret (v := .agg #[.int .i64 ses, .int .i64 (base + (k : Int)), .slice (some ⟨b2, off2 + k * 3, none⟩) (qn - k) (qc - k)]) (by simp [results, Try.results7, go_sem, t0, t1, t2]) rfl ⟨_, rfl, ⟨k, HG.out, some ⟨b2, off2 + k * 3, none⟩, qn - k, qc - k, rfl, by omega, fun _ h => h.drop k (by omega)⟩, (set3_below B6.out (by omega) _ _ _).drew⟩
                · have dy : (y1 == base + (k : Int)) = false := by simpa using hy
                  have HG2 := hide (show ∀ j : Nat, 1 ≤ j → j < k + 1 → y1 ≠ base + (j : Int) from fun j h1 h2 => by
                    by_cases hjk : j = k
                    · subst hjk
                      exact hy
                    · exact hG.out j h1 (by omega))
                  clear hy
                  go_upto_region 7 with fail
                  go_quiet (fail)
                  obtain ⟨W6, hW6⟩ : ∃ W6 : World, Hid (W6 = w5.drewN nq) := ⟨_, rfl⟩
                  have D6 := hide (show Below w5.heap.size w5 W6 by rw [hW6.out]; exact below_drewN (Below.refl _ _) nq)
                  have E6 := hide (E5.out.trans (D6.out.mono E5.out.size))
                  rw [← hW6.out]
                  clear x0 x1 x2 f0 f1 f2 g0 g1
                  go_wp2_with fail
                  go_roundw
                  case rel => exact ⟨k + 1, by omega, by omega, by go_num, HG2, E6⟩
                  case measure => simp [intOf]; omega
              · have dkm : decide ((k : Int) ≤ M) = false := by simpa using (show ¬ (k : Int) ≤ M by omega)
                have dkn : decide (k ≤ M) = false := by simpa using hkm
                have HC := hide (Mx.came_no (base := base) (x := y1) (qn := qn) (fun j h1 h2 => hG.out j h1 (by rw [← hM.out] at h2; omega)))
                have HG := hide (show Mx.Gone ses base qn l 0 from .inl ⟨y1, HAK.out, HC.out.symm⟩)
                obtain ⟨r0, r1, r2⟩ := R5.out.three
                have rz := R5.out.frozen
                have RX := R5
                have BX := B5
                go_wp2_with fail
                obtain ⟨t0, t1, t2⟩ := (RX.out.three_set (.int .i64 ses) (.int .i64 base) (.slice qa qn qc)).three
                exact bodyPost_ret (v := .agg #[.int .i64 ses, .int .i64 base, .slice qa qn qc]) (by simp [results, Try.results7, go_sem, t0, t1, t2]) rfl ⟨_, rfl, ⟨0, HG.out, by rw [show base + ((0 : Nat) : Int) = base by omega, List.drop_zero]; exact ⟨qa, qn, qc, rfl, hqc, fun _ h => h⟩⟩, set3_below BX.out (by omega) _ _ _⟩
          · have d4 : (y0 != ses) = true := by simpa using h4
            have HNA := hide (HN4.out h4)
            have HG := hide (show Mx.Gone ses base qn l 0 from .inr ⟨HNA.out, rfl⟩)
            obtain ⟨x0, x1, x2⟩ := X2.out.three
            obtain ⟨r0, r1, r2⟩ := R2.out.three
            have rz := R2.out.frozen
            obtain ⟨f0, f1, f2⟩ := F2.out.three
            go_quiet (fail)
            have RX := hide (show Bx (W2.drewN nq) (w.heap.size + 1) #[.int .i64 0, .int .i64 0, .slice none 0 0] 24 from R2.out.drewN nq)
            have BX := hide (below_drewN B2.out nq)
            go_wp2_with fail
            obtain ⟨t0, t1, t2⟩ := (RX.out.three_set (.int .i64 ses) (.int .i64 base) (.slice qa qn qc)).three
            exact bodyPost_ret (v := .agg #[.int .i64 ses, .int .i64 base, .slice qa qn qc]) (by simp [results, Try.results7, go_sem, t0, t1, t2]) rfl ⟨_, rfl, ⟨0, HG.out, by rw [show base + ((0 : Nat) : Int) = base by omega, List.drop_zero]; exact ⟨qa, qn, qc, rfl, hqc, fun _ h => h⟩⟩, set3_below BX.out (by omega) _ _ _⟩
        · have d3 : ((n1 : Int) != 2) = true := by simpa using (show ¬ ((n1 : Int) = 2) by omega)
          have d3n : (n1 != 2) = true := by simpa using h3
          have HNA := hide (show ∀ y, ¬ Mx.Ack l ses y from fun y hy => h3 (by rw [hn1.out, (HNO.out y hy).2.1]; rfl))
          clear h3
          have HG := hide (show Mx.Gone ses base qn l 0 from .inr ⟨HNA.out, rfl⟩)
          obtain ⟨x0, x1, x2⟩ := X2.out.three
          obtain ⟨r0, r1, r2⟩ := R2.out.three
          have rz := R2.out.frozen
          obtain ⟨f0, f1, f2⟩ := F2.out.three
          go_quiet (fail)
          have RX := hide (show Bx (W2.drewN nq) (w.heap.size + 1) #[.int .i64 0, .int .i64 0, .slice none 0 0] 24 from R2.out.drewN nq)
          have BX := hide (below_drewN B2.out nq)
          go_wp2_with fail
          obtain ⟨t0, t1, t2⟩ := (RX.out.three_set (.int .i64 ses) (.int .i64 base) (.slice qa qn qc)).three
          exact bodyPost_ret (v := .agg #[.int .i64 ses, .int .i64 base, .slice qa qn qc]) (by simp [results, Try.results7, go_sem, t0, t1, t2]) rfl ⟨_, rfl, ⟨0, HG.out, by rw [show base + ((0 : Nat) : Int) = base by omega, List.drop_zero]; exact ⟨qa, qn, qc, rfl, hqc, fun _ h => h⟩⟩, set3_below BX.out (by omega) _ _ _⟩
    · have d1 : (kd != 0) = true := by simpa using h1
      have HNA := hide (show ∀ y, ¬ Mx.Ack l ses y from fun y hy => h1 (HNO.out y hy).1)
      have HG := hide (show Mx.Gone ses base qn l 0 from .inr ⟨HNA.out, rfl⟩)
      obtain ⟨x0, x1, x2⟩ := X2.out.three
      obtain ⟨r0, r1, r2⟩ := R2.out.three
      have rz := R2.out.frozen
      obtain ⟨f0, f1, f2⟩ := F2.out.three
      go_quiet (fail)
      have RX := hide (show Bx (W2.drewN nq) (w.heap.size + 1) #[.int .i64 0, .int .i64 0, .slice none 0 0] 24 from R2.out.drewN nq)
      have BX := hide (below_drewN B2.out nq)
      go_wp2_with fail
      obtain ⟨t0, t1, t2⟩ := (RX.out.three_set (.int .i64 ses) (.int .i64 base) (.slice qa qn qc)).three
      exact bodyPost_ret (v := .agg #[.int .i64 ses, .int .i64 base, .slice qa qn qc]) (by simp [results, Try.results7, go_sem, t0, t1, t2]) rfl ⟨_, rfl, ⟨0, HG.out, by rw [show base + ((0 : Nat) : Int) = base by omega, List.drop_zero]; exact ⟨qa, qn, qc, rfl, hqc, fun _ h => h⟩⟩, set3_below BX.out (by omega) _ _ _⟩
  · have HNA := hide (show ∀ y, ¬ Mx.Ack l ses y from fun y hy => hno _ _ _ _ hy)
    obtain ⟨W2, hW2⟩ : ∃ W2 : World, Hid (W2 = w1.alloc (.cells #[.int .i64 0, .slice none 0 0, .slice none 0 0] 40)) := ⟨_, rfl⟩
    have D2 := hide (show Below w1.heap.size w1 W2 by rw [hW2.out]; exact below_alloc _ _)
    have F2 := hide (show Bx W2 w1.heap.size #[.int .i64 0, .slice none 0 0, .slice none 0 0] 40 by rw [hW2.out]; exact Bx.new w1 _ _)
    have X2 := hide ((X0.out.later hB X0.out.lt).later D2.out (X0.out.later hB X0.out.lt).lt)
    have R2 := hide ((R0.out.later hB R0.out.lt).later D2.out (R0.out.later hB R0.out.lt).lt)
    have hB2 := D0.out.trans (hB.mono D0.out.size)
    have B2 := hide (hB2.trans (D2.out.mono hB2.size))
    clear hno hB hB2
    go_wp2_with fail
    rw [← hW2.out]
    have HG := hide (show Mx.Gone ses base qn l 0 from .inr ⟨HNA.out, rfl⟩)
    obtain ⟨x0, x1, x2⟩ := X2.out.three
    obtain ⟨r0, r1, r2⟩ := R2.out.three
    have rz := R2.out.frozen
    obtain ⟨f0, f1, f2⟩ := F2.out.three
    go_quiet (fail)
    have RX := hide (show Bx (W2.drewN nq) (w.heap.size + 1) #[.int .i64 0, .int .i64 0, .slice none 0 0] 24 from R2.out.drewN nq)
    have BX := hide (below_drewN B2.out nq)
    go_wp2_with fail
    obtain ⟨t0, t1, t2⟩ := (RX.out.three_set (.int .i64 ses) (.int .i64 base) (.slice qa qn qc)).three
    exact bodyPost_ret (v := .agg #[.int .i64 ses, .int .i64 base, .slice qa qn qc]) (by simp [results, Try.results7, go_sem, t0, t1, t2]) rfl ⟨_, rfl, ⟨0, HG.out, by rw [show base + ((0 : Nat) : Int) = base by omega, List.drop_zero]; exact ⟨qa, qn, qc, rfl, hqc, fun _ h => h⟩⟩, set3_below BX.out (by omega) _ _ _⟩
end Go.Proofs.Ytfgonmgmoeoedaa

/-
  A message found in bytes that came (unwrap).
-/
namespace Go.Proofs.Ytfgonmgmoeoedaa
open Go.RowKit

namespace Mx
/-- bytes that are a message of a session, its number, the message -/
def Msg (l : List Int) (ses x kd : Int) (nm : List Int) (nb : Nat) (bs : List Int) : Prop := IsFrame l 1 (ses :: x :: kd :: nm) nb bs ∧ kd ≤ 15
theorem mmay_msg {l : List Int} {ses x kd : Int} {nm : List Int} {nb : Nat} {bs : List Int} (h : IsFrame l 1 (ses :: x :: kd :: nm) nb bs) : mmay ⟨kd, nm, nb, bs⟩ = if kd ≤ 15 then 0 else 1 := by
  have h1 := h.1
  unfold may at h1
  split at h1
  · omega
  · split at h1
    · omega
    · next h2 =>
      split at h1
      · omega
      · next h3 =>
        simp only [List.length_cons] at h2
        simp only [List.any_cons, Bool.or_eq_true, not_or] at h3
        have hk : badNum kd = false := by simpa using h3.2.2.1
        have hn : nm.any badNum = false := by simpa using h3.2.2.2
        have hk0 : 0 ≤ kd := by unfold badNum at hk; simp at hk; omega
        by_cases h15 : kd ≤ 15
        · rw [if_pos h15]
          refine mmay_0 (f := ⟨kd, nm, nb, bs⟩) ?_ (by show ¬ 9 < nm.length; omega)
          show may kd nm nb = 0
          unfold may
          rw [if_neg (by omega), if_neg (by omega), if_neg (by rw [hn]; simp)]
        · rw [if_neg h15]
          have h4 : may kd nm nb = 1 := by unfold may; rw [if_pos (by omega)]
          rw [mmay_no (f := ⟨kd, nm, nb, bs⟩) (by show may kd nm nb ≠ 0; omega)]
          exact h4
end Mx

theorem Ints.drop3 {w : World} {b off m : Nat} {x y z : Int} {nm : List Int} (h : Ints w (some ⟨b, off, none⟩) (m + 3) (x :: y :: z :: nm)) : Ints w (some ⟨b, off + 3, none⟩) m nm := by
  obtain ⟨h1, h2, h3⟩ := h
  refine ⟨by simpa using h1, by omega, fun hp => ?_⟩
  obtain ⟨b', off', ha, hlt, hc⟩ := h3 (by omega)
  simp only [Option.some.injEq, Addr.mk.injEq, and_true] at ha
  obtain ⟨rfl, rfl⟩ := ha
  refine ⟨b, off + 3, rfl, hlt, fun i hi => ?_⟩
  have h4 := hc (i + 3) (by omega)
  rw [show off + (i + 3) = off + 3 + i by omega] at h4
  rw [h4]
  rfl

/-- what unwrap hands back -/
def Unwd (w w' : World) (l : List Int) (ses : Int) (e : Ending) : Prop :=
  ∃ (x : Int) (v : Value) (ok : Bool), e = .returned (.tuple #[.int .i64 x, v, .bool ok]) ∧ Hid ((ok = true ∧ ∃ kd nm nb bs, Mx.Msg l ses x kd nm nb bs ∧ FrA w.heap.size w' v ⟨kd, nm, nb, bs⟩) ∨ (ok = false ∧ x = 0 ∧ v = .agg #[.int .i64 0, .slice none 0 0, .slice none 0 0] ∧ ∀ y kd nm nb bs, ¬ Mx.Msg l ses y kd nm nb bs)) ∧ Hid (Below w.heap.size w w')

set_option maxHeartbeats 16000000 in
set_option maxRecDepth 100000 in
theorem lunwrap_any (ses : Int) (a : Option Addr) (len cap : Nat) (l : List Int) (w : World) (hl : Bytes w a len l) (hlen : len ≤ 2000) (hcap : len ≤ cap) :
    Calls Try.prog 31 #[.int .i64 ses, .slice a len cap] w fun e w' => Unwd w w' l ses e := by
  obtain ⟨W0, hW0⟩ : ∃ W0 : World, Hid (W0 = w.alloc (.cells #[.int .i64 0, .slice none 0 0, .slice none 0 0] 40)) := ⟨_, rfl⟩
  have R0 := hide (show Bx W0 w.heap.size #[.int .i64 0, .slice none 0 0, .slice none 0 0] 40 by rw [hW0.out]; exact Bx.new w _ _)
  have D0 := hide (show Below w.heap.size w W0 by rw [hW0.out]; exact below_alloc _ _)
  have HL := hide (hl.later D0.out)
  have S0 := hide (show W0.heap.size = w.heap.size + 1 by rw [hW0.out]; simp)
  clear hl
  go_enter Try.func31, Try.ntmps31
  go_wp2_with fail
  rw [← hW0.out]
  refine (unpack_own a len cap l W0 HL.out hlen hcap).mono ?_
  rintro e w1 (⟨kd, nums, nb, bs, a1, c1, a2, c2, rfl, hF, hI, hK, hA1, hA2, hC1, hC2, hB⟩ | ⟨rfl, hno, hB⟩)
  · have HF := hide hF
    have HU := hide (show ∀ y kd' nm' nb' bs', Mx.Msg l ses y kd' nm' nb' bs' → kd = 1 ∧ nums = ses :: y :: kd' :: nm' from fun y kd' nm' nb' bs' hy => by
      obtain ⟨h1, h2, _⟩ := Mx.IsFrame.one HF.out hy.1
      exact ⟨h1, h2⟩)
    obtain ⟨n1, hn1⟩ : ∃ n1 : Nat, Hid (n1 = nums.length) := ⟨_, rfl⟩
    rw [← hn1.out] at hI hC1 ⊢
    have hnb : nb ≤ maxLen := hK.2.1
    have hnl : n1 ≤ maxLen := hI.2.1
    rw [maxLen_val] at hnb hnl
    obtain ⟨W2, hW2⟩ : ∃ W2 : World, Hid (W2 = w1.alloc (.cells #[.int .i64 kd, .slice a1 n1 c1, .slice a2 nb c2] 40)) := ⟨_, rfl⟩
    have D2 := hide (show Below w1.heap.size w1 W2 by rw [hW2.out]; exact below_alloc _ _)
    have F2 := hide (show Bx W2 w1.heap.size #[.int .i64 kd, .slice a1 n1 c1, .slice a2 nb c2] 40 by rw [hW2.out]; exact Bx.new w1 _ _)
    have R2 := hide ((R0.out.later hB R0.out.lt).later D2.out (R0.out.later hB R0.out.lt).lt)
    have hB2 := D0.out.trans (hB.mono D0.out.size)
    have B2 := hide (hB2.trans (D2.out.mono hB2.size))
    have HI := hide (hI.later D2.out)
    have HK := hide (hK.later D2.out)
    have HA1 := hide hA1
    have HA2 := hide hA2
    have HC1 := hide hC1
    have HC2 := hide hC2
    have hs01' := hB.size
    clear hF hI hK hA1 hA2 hC1 hC2 hB hB2
    have hs01 : W0.heap.size ≤ w1.heap.size := hs01'
    go_upto_region 2 with fail
    rw [← hW2.out]
    by_cases h1 : kd = 1
    · subst h1
      by_cases h2 : (n1 : Int) < 3
      · have d2 : decide ((n1 : Int) < 3) = true := by simpa using h2
        have d2n : decide (n1 < 3) = true := by simpa using (show n1 < 3 by omega)
        have HNM := hide (show ∀ y kd nm nb bs, ¬ Mx.Msg l ses y kd nm nb bs from fun y kd' nm' nb' bs' hy => by
          have h3 := (HU.out y kd' nm' nb' bs' hy).2
          have h4 := hn1.out
          rw [h3] at h4
          simp at h4
          omega)
        obtain ⟨r0, r1, r2⟩ := R2.out.three
        have rz := R2.out.frozen
        obtain ⟨f0, f1, f2⟩ := F2.out.three
        go_wp2_with fail
        obtain ⟨t0, t1, t2⟩ := (R2.out.three_set (.int .i64 0) (.slice none 0 0) (.slice none 0 0)).three
        exact bodyPost_ret (v := .tuple #[.int .i64 0, .agg #[.int .i64 0, .slice none 0 0, .slice none 0 0], .bool false]) (by simp [results, Try.results31, go_sem, t0, t1, t2]) rfl ⟨0, _, false, rfl, .inr ⟨rfl, rfl, rfl, HNM.out⟩, set3_below B2.out (Nat.le_refl _) _ _ _⟩
      · have d2 : decide ((n1 : Int) < 3) = false := by simpa using h2
        have d2n : decide (n1 < 3) = false := by simpa using (show ¬ n1 < 3 by omega)
        obtain ⟨y0, y1, y2, nm, hnums⟩ : ∃ y0 y1 y2 nm, nums = y0 :: y1 :: y2 :: nm := by
          match nums, hn1.out with
          | [], h => simp at h; omega
          | [_], h => simp at h; omega
          | [_, _], h => simp at h; omega
          | y0 :: y1 :: y2 :: nm, _ => exact ⟨y0, y1, y2, nm, rfl⟩
        subst hnums
        obtain ⟨m, hm⟩ : ∃ m : Nat, n1 = m + 3 := ⟨n1 - 3, by omega⟩
        subst hm
        obtain ⟨b, off, z0, hab, hblt, hx0, e0⟩ := HI.out.at_ 0 (by omega)
        obtain ⟨b', off', z1, hab', _, hx1, e1⟩ := HI.out.at_ 1 (by omega)
        obtain ⟨b'', off'', z2, hab'', _, hx2, e2⟩ := HI.out.at_ 2 (by omega)
        rw [hab] at hab' hab''
        cases hab'
        cases hab''
        subst hab
        have hx0' : y0 = z0 := hx0
        have hx1' : y1 = z1 := hx1
        have hx2' : y2 = z2 := hx2
        subst hx0' hx1' hx2'
        rw [Nat.add_zero] at e0
        clear hx0 hx1 hx2
        have hbA : W0.heap.size ≤ b := HA1.out _ rfl
        by_cases h3 : y0 = ses
        · subst h3
          have d3 : (y0 != y0) = false := by simp
          have HMM := hide (Mx.mmay_msg HF.out)
          have hwf : ¬ w.heap.size = w1.heap.size := by have h1 := S0.out; have h2 := R0.out.lt; have h3 := F2.out.lt; have h4 := D2.out.size; intro e; have h5 : W0.heap.size ≤ w1.heap.size := hs01; omega
          have hwb : ¬ w.heap.size = b := by have h1 := S0.out; omega
          have h03 : (3 : Int) ≤ c1 := by have h1 := HC1.out; omega
          have hi2 : (2 : Int) < (m : Int) + 3 := by omega
          have hi1 : (1 : Int) < (m : Int) + 3 := by omega
          have hi3 : (3 : Int) ≤ (m : Int) + 3 := by omega
          obtain ⟨f0, f1, f2⟩ := F2.out.three
          obtain ⟨r0, r1, r2⟩ := R2.out.three
          have rz := R2.out.frozen
          by_cases h15 : y2 ≤ 15
          · have HM0 := hide (show Mx.mmay ⟨y2, nm, nb, bs⟩ = 0 by rw [HMM.out, if_pos h15])
            have HMSG := hide (show Mx.Msg l y0 y1 y2 nm nb bs from ⟨HF.out, h15⟩)
            clear h15
            by_cases hc3 : c1 = 3
            · subst hc3
              obtain rfl : m = 0 := by have h1 := HC1.out; omega
              have IX := hide (show Ints W2 (some ⟨b, off, none⟩) 0 nm from ⟨by have h1 := HI.out.1; simpa using h1, by rw [maxLen_val]; omega, fun h => absurd h (by omega)⟩)
              go_upto_region 4 with fail
              go_region_held3 (fun w' => w'.cell? ⟨w1.heap.size, 1, none⟩ = some (.slice (some ⟨b, off, none⟩) (0 + 3) 3) ∧ w'.cell? ⟨w1.heap.size, 2, none⟩ = some (.slice a2 nb c2) ∧ w'.cell? ⟨b, off + 2, none⟩ = some (.int .i64 y2))
                (first
                  | with_reducible exact ⟨f1, f2, e2⟩
                  | (simp only [cell_drew]; with_reducible exact ⟨f1, f2, e2⟩)
                  | (simp only [cell_set_far hwf, cell_set_far hwb, cell_drew]; with_reducible exact ⟨f1, f2, e2⟩))
                (fail)
              all_goals go_upto_region 5 with fail
              all_goals
                obtain ⟨W3, hW3⟩ : ∃ W3 : World, Hid (W3 = (set3 W2 w.heap.size (.int .i64 y2) (.slice (some ⟨b, off, none⟩) 0 0) (.slice a2 nb c2)).drew) := ⟨_, rfl⟩
                have G3 := hide (show W2.grownBy W3 (some w.heap.size) by rw [hW3.out]; exact grow_drew (set3_grown (grow_refl _ _) _ _ _))
                have R3 := hide (show Bx W3 w.heap.size #[.int .i64 y2, (.slice (some ⟨b, off, none⟩) 0 0), .slice a2 nb c2] 40 by rw [hW3.out]; exact R2.out.three_set _ _ _)
                have F3 := hide (show Bx W3 w1.heap.size #[.int .i64 1, (.slice (some ⟨b, off, none⟩) (0 + 3) 3), .slice a2 nb c2] 40 from (G3.out.block _ F2.out.lt (fun e => hwf (Option.some.inj e).symm)).trans F2.out)
                have I3 := hide (IX.out.grownBy G3.out (fun _ p hp e => by cases hp; exact hwb (Option.some.inj e)))
                have K3 := hide (HK.out.grownBy G3.out (fun _ p hp e => by have h1 := HA2.out p hp; have h2 := S0.out; have h3 : w.heap.size = p.block := Option.some.inj e; omega))
                have B3 := hide (show Below w.heap.size w W3 by rw [hW3.out]; exact (set3_below B2.out (Nat.le_refl _) _ _ _).drew)
                have E1 := hide (G3.out.cell (a := ⟨b, off + 1, none⟩) e1 (fun e => hwb (Option.some.inj e).symm))
                have hbl3 : b < W3.heap.size := Nat.lt_of_lt_of_le hblt G3.out.size
                unfold set3 at hW3
                rw [← hW3.out]
                clear f0 f1 f2 r0 r1 r2 rz e0 e1 e2
                obtain ⟨r0, r1, r2⟩ := R3.out.three
                go_wp2_with fail
                refine (checkMessage_any y2 (some ⟨b, off, none⟩) a2 0 0 nb c2 nm bs W3 I3.out K3.out.2.1).mono ?_
                rintro e w4 ⟨rfl, D4⟩
                have R4 := hide (R3.out.later D4 R3.out.lt)
                have F4 := hide (F3.out.later D4 F3.out.lt)
                have B4 := hide (B3.out.trans (D4.mono B3.out.size))
                have I4 := hide (I3.out.later D4)
                have K4 := hide (K3.out.later D4)
                have e1 := (D4.cell (p := ⟨b, off + 1, none⟩) hbl3).trans E1.out
                clear r0 r1 r2
                obtain ⟨f0, f1, f2⟩ := F4.out.three
                obtain ⟨r0, r1, r2⟩ := R4.out.three
                have rz := R4.out.frozen
                rw [HM0.out, errV_zero]
                go_upto_region 7 with fail
                go_region_held3 (fun w' => w'.cell? ⟨w1.heap.size, 1, none⟩ = some (.slice (some ⟨b, off, none⟩) (0 + 3) 3) ∧ w'.cell? ⟨b, off + 1, none⟩ = some (.int .i64 y1) ∧ w'.cell? ⟨w.heap.size, 0, none⟩ = some (.int .i64 y2) ∧ w'.cell? ⟨w.heap.size, 1, none⟩ = some (.slice (some ⟨b, off, none⟩) 0 0) ∧ w'.cell? ⟨w.heap.size, 2, none⟩ = some (.slice a2 nb c2))
                  (first
                    | with_reducible exact ⟨f1, e1, r0, r1, r2⟩
                    | (simp only [cell_drew]; with_reducible exact ⟨f1, e1, r0, r1, r2⟩)
                    | exact ⟨by simp only [cell_set_far hwf, cell_drew]; exact f1, by simp only [cell_set_far hwb, cell_drew]; exact e1, (R4.out.three_set _ _ _).three⟩)
                  (fail)
                all_goals
                  have GF := hide (set3_grown (grow_refl w4 (some w.heap.size)) (.int .i64 y2) (.slice (some ⟨b, off, none⟩) 0 0) (.slice a2 nb c2))
                  have IF := hide (I4.out.grownBy GF.out (fun _ p hp e => by cases hp; exact hwb (Option.some.inj e)))
                  have KF := hide (K4.out.grownBy GF.out (fun _ p hp e => by have h1 := HA2.out p hp; have h2 := S0.out; have h3 : w.heap.size = p.block := Option.some.inj e; omega))
                  have BF := hide (set3_below B4.out (Nat.le_refl _) (.int .i64 y2) (.slice (some ⟨b, off, none⟩) 0 0) (.slice a2 nb c2))
                  have DR := hide (show Below (set3 w4 w.heap.size (.int .i64 y2) (.slice (some ⟨b, off, none⟩) 0 0) (.slice a2 nb c2)).heap.size (set3 w4 w.heap.size (.int .i64 y2) (.slice (some ⟨b, off, none⟩) 0 0) (.slice a2 nb c2)) (set3 w4 w.heap.size (.int .i64 y2) (.slice (some ⟨b, off, none⟩) 0 0) (.slice a2 nb c2)).drew from (Below.refl _ _).drew)
                  go_wp2_with fail
                  obtain ⟨t0, t1, t2⟩ := (R4.out.three_set (.int .i64 y2) (.slice (some ⟨b, off, none⟩) 0 0) (.slice a2 nb c2)).three
                  exact bodyPost_ret (v := .tuple #[.int .i64 y1, .agg #[.int .i64 y2, (.slice (some ⟨b, off, none⟩) 0 0), .slice a2 nb c2], .bool true]) (by simp [results, Try.results31, go_sem, t0, t1, t2]) rfl ⟨y1, _, true, rfl, .inl ⟨rfl, y2, nm, nb, bs, HMSG.out, (some ⟨b, off, none⟩), 0, 0, a2, c2, rfl, IF.out.later DR.out, KF.out.later DR.out, by have := HC1.out; omega, HC2.out, fun _ p hp => by cases hp; show w.heap.size ≤ b; have h9 := S0.out; omega, fun _ p hp => by have h1 := HA2.out p hp; have h2 := S0.out; omega⟩, BF.out.drew⟩
            · have IX := hide HI.out.drop3
              go_upto_region 4 with fail
              go_region_held3 (fun w' => w'.cell? ⟨w1.heap.size, 1, none⟩ = some (.slice (some ⟨b, off, none⟩) (m + 3) c1) ∧ w'.cell? ⟨w1.heap.size, 2, none⟩ = some (.slice a2 nb c2) ∧ w'.cell? ⟨b, off + 2, none⟩ = some (.int .i64 y2))
                (first
                  | with_reducible exact ⟨f1, f2, e2⟩
                  | (simp only [cell_drew]; with_reducible exact ⟨f1, f2, e2⟩)
                  | (simp only [cell_set_far hwf, cell_set_far hwb, cell_drew]; with_reducible exact ⟨f1, f2, e2⟩))
                (fail)
              all_goals go_upto_region 5 with fail
              all_goals
                obtain ⟨W3, hW3⟩ : ∃ W3 : World, Hid (W3 = (set3 W2 w.heap.size (.int .i64 y2) (.slice (some ⟨b, off + 3, none⟩) m (c1 - 3)) (.slice a2 nb c2)).drew) := ⟨_, rfl⟩
                have G3 := hide (show W2.grownBy W3 (some w.heap.size) by rw [hW3.out]; exact grow_drew (set3_grown (grow_refl _ _) _ _ _))
                have R3 := hide (show Bx W3 w.heap.size #[.int .i64 y2, (.slice (some ⟨b, off + 3, none⟩) m (c1 - 3)), .slice a2 nb c2] 40 by rw [hW3.out]; exact R2.out.three_set _ _ _)
                have F3 := hide (show Bx W3 w1.heap.size #[.int .i64 1, (.slice (some ⟨b, off, none⟩) (m + 3) c1), .slice a2 nb c2] 40 from (G3.out.block _ F2.out.lt (fun e => hwf (Option.some.inj e).symm)).trans F2.out)
                have I3 := hide (IX.out.grownBy G3.out (fun _ p hp e => by cases hp; exact hwb (Option.some.inj e)))
                have K3 := hide (HK.out.grownBy G3.out (fun _ p hp e => by have h1 := HA2.out p hp; have h2 := S0.out; have h3 : w.heap.size = p.block := Option.some.inj e; omega))
                have B3 := hide (show Below w.heap.size w W3 by rw [hW3.out]; exact (set3_below B2.out (Nat.le_refl _) _ _ _).drew)
                have E1 := hide (G3.out.cell (a := ⟨b, off + 1, none⟩) e1 (fun e => hwb (Option.some.inj e).symm))
                have hbl3 : b < W3.heap.size := Nat.lt_of_lt_of_le hblt G3.out.size
                unfold set3 at hW3
                rw [← hW3.out]
                clear f0 f1 f2 r0 r1 r2 rz e0 e1 e2
                obtain ⟨r0, r1, r2⟩ := R3.out.three
                go_wp2_with fail
                refine (checkMessage_any y2 (some ⟨b, off + 3, none⟩) a2 m (c1 - 3) nb c2 nm bs W3 I3.out K3.out.2.1).mono ?_
                rintro e w4 ⟨rfl, D4⟩
                have R4 := hide (R3.out.later D4 R3.out.lt)
                have F4 := hide (F3.out.later D4 F3.out.lt)
                have B4 := hide (B3.out.trans (D4.mono B3.out.size))
                have I4 := hide (I3.out.later D4)
                have K4 := hide (K3.out.later D4)
                have e1 := (D4.cell (p := ⟨b, off + 1, none⟩) hbl3).trans E1.out
                clear r0 r1 r2
                obtain ⟨f0, f1, f2⟩ := F4.out.three
                obtain ⟨r0, r1, r2⟩ := R4.out.three
                have rz := R4.out.frozen
                rw [HM0.out, errV_zero]
                go_upto_region 7 with fail
                go_region_held3 (fun w' => w'.cell? ⟨w1.heap.size, 1, none⟩ = some (.slice (some ⟨b, off, none⟩) (m + 3) c1) ∧ w'.cell? ⟨b, off + 1, none⟩ = some (.int .i64 y1) ∧ w'.cell? ⟨w.heap.size, 0, none⟩ = some (.int .i64 y2) ∧ w'.cell? ⟨w.heap.size, 1, none⟩ = some (.slice (some ⟨b, off + 3, none⟩) m (c1 - 3)) ∧ w'.cell? ⟨w.heap.size, 2, none⟩ = some (.slice a2 nb c2))
                  (first
                    | with_reducible exact ⟨f1, e1, r0, r1, r2⟩
                    | (simp only [cell_drew]; with_reducible exact ⟨f1, e1, r0, r1, r2⟩)
                    | exact ⟨by simp only [cell_set_far hwf, cell_drew]; exact f1, by simp only [cell_set_far hwb, cell_drew]; exact e1, (R4.out.three_set _ _ _).three⟩)
                  (fail)
                all_goals
                  have GF := hide (set3_grown (grow_refl w4 (some w.heap.size)) (.int .i64 y2) (.slice (some ⟨b, off + 3, none⟩) m (c1 - 3)) (.slice a2 nb c2))
                  have IF := hide (I4.out.grownBy GF.out (fun _ p hp e => by cases hp; exact hwb (Option.some.inj e)))
                  have KF := hide (K4.out.grownBy GF.out (fun _ p hp e => by have h1 := HA2.out p hp; have h2 := S0.out; have h3 : w.heap.size = p.block := Option.some.inj e; omega))
                  have BF := hide (set3_below B4.out (Nat.le_refl _) (.int .i64 y2) (.slice (some ⟨b, off + 3, none⟩) m (c1 - 3)) (.slice a2 nb c2))
                  have DR := hide (show Below (set3 w4 w.heap.size (.int .i64 y2) (.slice (some ⟨b, off + 3, none⟩) m (c1 - 3)) (.slice a2 nb c2)).heap.size (set3 w4 w.heap.size (.int .i64 y2) (.slice (some ⟨b, off + 3, none⟩) m (c1 - 3)) (.slice a2 nb c2)) (set3 w4 w.heap.size (.int .i64 y2) (.slice (some ⟨b, off + 3, none⟩) m (c1 - 3)) (.slice a2 nb c2)).drew from (Below.refl _ _).drew)
                  go_wp2_with fail
                  obtain ⟨t0, t1, t2⟩ := (R4.out.three_set (.int .i64 y2) (.slice (some ⟨b, off + 3, none⟩) m (c1 - 3)) (.slice a2 nb c2)).three
                  exact bodyPost_ret (v := .tuple #[.int .i64 y1, .agg #[.int .i64 y2, (.slice (some ⟨b, off + 3, none⟩) m (c1 - 3)), .slice a2 nb c2], .bool true]) (by simp [results, Try.results31, go_sem, t0, t1, t2]) rfl ⟨y1, _, true, rfl, .inl ⟨rfl, y2, nm, nb, bs, HMSG.out, (some ⟨b, off + 3, none⟩), m, (c1 - 3), a2, c2, rfl, IF.out.later DR.out, KF.out.later DR.out, by have := HC1.out; omega, HC2.out, fun _ p hp => by cases hp; show w.heap.size ≤ b; have h9 := S0.out; omega, fun _ p hp => by have h1 := HA2.out p hp; have h2 := S0.out; omega⟩, BF.out.drew⟩
          · have HM1 := hide (show Mx.mmay ⟨y2, nm, nb, bs⟩ = 1 by rw [HMM.out, if_neg h15])
            have HNM := hide (show ∀ y kd nm nb bs, ¬ Mx.Msg l y0 y kd nm nb bs from fun y kd' nm' nb' bs' hy => by
              have h4 := (HU.out y kd' nm' nb' bs' hy).2
              simp at h4
              have h5 := hy.2
              omega)
            clear h15
            by_cases hc3 : c1 = 3
            · subst hc3
              obtain rfl : m = 0 := by have h1 := HC1.out; omega
              have IX := hide (show Ints W2 (some ⟨b, off, none⟩) 0 nm from ⟨by have h1 := HI.out.1; simpa using h1, by rw [maxLen_val]; omega, fun h => absurd h (by omega)⟩)
              go_upto_region 4 with fail
              go_region_held3 (fun w' => w'.cell? ⟨w1.heap.size, 1, none⟩ = some (.slice (some ⟨b, off, none⟩) (0 + 3) 3) ∧ w'.cell? ⟨w1.heap.size, 2, none⟩ = some (.slice a2 nb c2) ∧ w'.cell? ⟨b, off + 2, none⟩ = some (.int .i64 y2))
                (first
                  | with_reducible exact ⟨f1, f2, e2⟩
                  | (simp only [cell_drew]; with_reducible exact ⟨f1, f2, e2⟩)
                  | (simp only [cell_set_far hwf, cell_set_far hwb, cell_drew]; with_reducible exact ⟨f1, f2, e2⟩))
                (fail)
              all_goals go_upto_region 5 with fail
              all_goals
                obtain ⟨W3, hW3⟩ : ∃ W3 : World, Hid (W3 = (set3 W2 w.heap.size (.int .i64 y2) (.slice (some ⟨b, off, none⟩) 0 0) (.slice a2 nb c2)).drew) := ⟨_, rfl⟩
                have G3 := hide (show W2.grownBy W3 (some w.heap.size) by rw [hW3.out]; exact grow_drew (set3_grown (grow_refl _ _) _ _ _))
                have R3 := hide (show Bx W3 w.heap.size #[.int .i64 y2, (.slice (some ⟨b, off, none⟩) 0 0), .slice a2 nb c2] 40 by rw [hW3.out]; exact R2.out.three_set _ _ _)
                have F3 := hide (show Bx W3 w1.heap.size #[.int .i64 1, (.slice (some ⟨b, off, none⟩) (0 + 3) 3), .slice a2 nb c2] 40 from (G3.out.block _ F2.out.lt (fun e => hwf (Option.some.inj e).symm)).trans F2.out)
                have I3 := hide (IX.out.grownBy G3.out (fun _ p hp e => by cases hp; exact hwb (Option.some.inj e)))
                have K3 := hide (HK.out.grownBy G3.out (fun _ p hp e => by have h1 := HA2.out p hp; have h2 := S0.out; have h3 : w.heap.size = p.block := Option.some.inj e; omega))
                have B3 := hide (show Below w.heap.size w W3 by rw [hW3.out]; exact (set3_below B2.out (Nat.le_refl _) _ _ _).drew)
                have E1 := hide (G3.out.cell (a := ⟨b, off + 1, none⟩) e1 (fun e => hwb (Option.some.inj e).symm))
                have hbl3 : b < W3.heap.size := Nat.lt_of_lt_of_le hblt G3.out.size
                unfold set3 at hW3
                rw [← hW3.out]
                clear f0 f1 f2 r0 r1 r2 rz e0 e1 e2
                obtain ⟨r0, r1, r2⟩ := R3.out.three
                go_wp2_with fail
                refine (checkMessage_any y2 (some ⟨b, off, none⟩) a2 0 0 nb c2 nm bs W3 I3.out K3.out.2.1).mono ?_
                rintro e w4 ⟨rfl, D4⟩
                have R4 := hide (R3.out.later D4 R3.out.lt)
                have F4 := hide (F3.out.later D4 F3.out.lt)
                have B4 := hide (B3.out.trans (D4.mono B3.out.size))
                have I4 := hide (I3.out.later D4)
                have K4 := hide (K3.out.later D4)
                have e1 := (D4.cell (p := ⟨b, off + 1, none⟩) hbl3).trans E1.out
                clear r0 r1 r2
                obtain ⟨f0, f1, f2⟩ := F4.out.three
                obtain ⟨r0, r1, r2⟩ := R4.out.three
                have rz := R4.out.frozen
                have he1 : errV 1 = .iface 28 (.int .i64 1) := rfl
                rw [HM1.out, he1]
                go_wp2_with fail
                obtain ⟨t0, t1, t2⟩ := (R4.out.three_set (.int .i64 0) (.slice none 0 0) (.slice none 0 0)).three
                exact bodyPost_ret (v := .tuple #[.int .i64 0, .agg #[.int .i64 0, .slice none 0 0, .slice none 0 0], .bool false]) (by simp [results, Try.results31, go_sem, t0, t1, t2]) rfl ⟨0, _, false, rfl, .inr ⟨rfl, rfl, rfl, HNM.out⟩, set3_below B4.out (Nat.le_refl _) _ _ _⟩
            · have IX := hide HI.out.drop3
              go_upto_region 4 with fail
              go_region_held3 (fun w' => w'.cell? ⟨w1.heap.size, 1, none⟩ = some (.slice (some ⟨b, off, none⟩) (m + 3) c1) ∧ w'.cell? ⟨w1.heap.size, 2, none⟩ = some (.slice a2 nb c2) ∧ w'.cell? ⟨b, off + 2, none⟩ = some (.int .i64 y2))
                (first
                  | with_reducible exact ⟨f1, f2, e2⟩
                  | (simp only [cell_drew]; with_reducible exact ⟨f1, f2, e2⟩)
                  | (simp only [cell_set_far hwf, cell_set_far hwb, cell_drew]; with_reducible exact ⟨f1, f2, e2⟩))
                (fail)
              all_goals go_upto_region 5 with fail
              all_goals
                obtain ⟨W3, hW3⟩ : ∃ W3 : World, Hid (W3 = (set3 W2 w.heap.size (.int .i64 y2) (.slice (some ⟨b, off + 3, none⟩) m (c1 - 3)) (.slice a2 nb c2)).drew) := ⟨_, rfl⟩
                have G3 := hide (show W2.grownBy W3 (some w.heap.size) by rw [hW3.out]; exact grow_drew (set3_grown (grow_refl _ _) _ _ _))
                have R3 := hide (show Bx W3 w.heap.size #[.int .i64 y2, (.slice (some ⟨b, off + 3, none⟩) m (c1 - 3)), .slice a2 nb c2] 40 by rw [hW3.out]; exact R2.out.three_set _ _ _)
                have F3 := hide (show Bx W3 w1.heap.size #[.int .i64 1, (.slice (some ⟨b, off, none⟩) (m + 3) c1), .slice a2 nb c2] 40 from (G3.out.block _ F2.out.lt (fun e => hwf (Option.some.inj e).symm)).trans F2.out)
                have I3 := hide (IX.out.grownBy G3.out (fun _ p hp e => by cases hp; exact hwb (Option.some.inj e)))
                have K3 := hide (HK.out.grownBy G3.out (fun _ p hp e => by have h1 := HA2.out p hp; have h2 := S0.out; have h3 : w.heap.size = p.block := Option.some.inj e; omega))
                have B3 := hide (show Below w.heap.size w W3 by rw [hW3.out]; exact (set3_below B2.out (Nat.le_refl _) _ _ _).drew)
                have E1 := hide (G3.out.cell (a := ⟨b, off + 1, none⟩) e1 (fun e => hwb (Option.some.inj e).symm))
                have hbl3 : b < W3.heap.size := Nat.lt_of_lt_of_le hblt G3.out.size
                unfold set3 at hW3
                rw [← hW3.out]
                clear f0 f1 f2 r0 r1 r2 rz e0 e1 e2
                obtain ⟨r0, r1, r2⟩ := R3.out.three
                go_wp2_with fail
                refine (checkMessage_any y2 (some ⟨b, off + 3, none⟩) a2 m (c1 - 3) nb c2 nm bs W3 I3.out K3.out.2.1).mono ?_
                rintro e w4 ⟨rfl, D4⟩
                have R4 := hide (R3.out.later D4 R3.out.lt)
                have F4 := hide (F3.out.later D4 F3.out.lt)
                have B4 := hide (B3.out.trans (D4.mono B3.out.size))
                have I4 := hide (I3.out.later D4)
                have K4 := hide (K3.out.later D4)
                have e1 := (D4.cell (p := ⟨b, off + 1, none⟩) hbl3).trans E1.out
                clear r0 r1 r2
                obtain ⟨f0, f1, f2⟩ := F4.out.three
                obtain ⟨r0, r1, r2⟩ := R4.out.three
                have rz := R4.out.frozen
                have he1 : errV 1 = .iface 28 (.int .i64 1) := rfl
                rw [HM1.out, he1]
                go_wp2_with fail
                obtain ⟨t0, t1, t2⟩ := (R4.out.three_set (.int .i64 0) (.slice none 0 0) (.slice none 0 0)).three
                exact bodyPost_ret (v := .tuple #[.int .i64 0, .agg #[.int .i64 0, .slice none 0 0, .slice none 0 0], .bool false]) (by simp [results, Try.results31, go_sem, t0, t1, t2]) rfl ⟨0, _, false, rfl, .inr ⟨rfl, rfl, rfl, HNM.out⟩, set3_below B4.out (Nat.le_refl _) _ _ _⟩
        · have d3 : (y0 != ses) = true := by simpa using h3
          have HNM := hide (show ∀ y kd nm nb bs, ¬ Mx.Msg l ses y kd nm nb bs from fun y kd' nm' nb' bs' hy => by
            have h4 := (HU.out y kd' nm' nb' bs' hy).2
            simp at h4
            exact h3 h4.1)
          obtain ⟨r0, r1, r2⟩ := R2.out.three
          have rz := R2.out.frozen
          obtain ⟨f0, f1, f2⟩ := F2.out.three
          go_wp2_with fail
          obtain ⟨t0, t1, t2⟩ := (R2.out.three_set (.int .i64 0) (.slice none 0 0) (.slice none 0 0)).three
          exact bodyPost_ret (v := .tuple #[.int .i64 0, .agg #[.int .i64 0, .slice none 0 0, .slice none 0 0], .bool false]) (by simp [results, Try.results31, go_sem, t0, t1, t2]) rfl ⟨0, _, false, rfl, .inr ⟨rfl, rfl, rfl, HNM.out⟩, set3_below B2.out (Nat.le_refl _) _ _ _⟩
    · have d1 : (kd != 1) = true := by simpa using h1
      have HNM := hide (show ∀ y kd nm nb bs, ¬ Mx.Msg l ses y kd nm nb bs from fun y kd' nm' nb' bs' hy => h1 (HU.out y kd' nm' nb' bs' hy).1)
      obtain ⟨r0, r1, r2⟩ := R2.out.three
      have rz := R2.out.frozen
      obtain ⟨f0, f1, f2⟩ := F2.out.three
      go_wp2_with fail
      obtain ⟨t0, t1, t2⟩ := (R2.out.three_set (.int .i64 0) (.slice none 0 0) (.slice none 0 0)).three
      exact bodyPost_ret (v := .tuple #[.int .i64 0, .agg #[.int .i64 0, .slice none 0 0, .slice none 0 0], .bool false]) (by simp [results, Try.results31, go_sem, t0, t1, t2]) rfl ⟨0, _, false, rfl, .inr ⟨rfl, rfl, rfl, HNM.out⟩, set3_below B2.out (Nat.le_refl _) _ _ _⟩
  · have HNM := hide (show ∀ y kd nm nb bs, ¬ Mx.Msg l ses y kd nm nb bs from fun y kd' nm' nb' bs' hy => hno _ _ _ _ hy.1)
    obtain ⟨W2, hW2⟩ : ∃ W2 : World, Hid (W2 = w1.alloc (.cells #[.int .i64 0, .slice none 0 0, .slice none 0 0] 40)) := ⟨_, rfl⟩
    have D2 := hide (show Below w1.heap.size w1 W2 by rw [hW2.out]; exact below_alloc _ _)
    have F2 := hide (show Bx W2 w1.heap.size #[.int .i64 0, .slice none 0 0, .slice none 0 0] 40 by rw [hW2.out]; exact Bx.new w1 _ _)
    have R2 := hide ((R0.out.later hB R0.out.lt).later D2.out (R0.out.later hB R0.out.lt).lt)
    have hB2 := D0.out.trans (hB.mono D0.out.size)
    have B2 := hide (hB2.trans (D2.out.mono hB2.size))
    clear hno hB hB2
    go_upto_region 2 with fail
    rw [← hW2.out]
    obtain ⟨r0, r1, r2⟩ := R2.out.three
    have rz := R2.out.frozen
    obtain ⟨f0, f1, f2⟩ := F2.out.three
    go_wp2_with fail
    obtain ⟨t0, t1, t2⟩ := (R2.out.three_set (.int .i64 0) (.slice none 0 0) (.slice none 0 0)).three
    exact bodyPost_ret (v := .tuple #[.int .i64 0, .agg #[.int .i64 0, .slice none 0 0, .slice none 0 0], .bool false]) (by simp [results, Try.results31, go_sem, t0, t1, t2]) rfl ⟨0, _, false, rfl, .inr ⟨rfl, rfl, rfl, HNM.out⟩, set3_below B2.out (Nat.le_refl _) _ _ _⟩
end Go.Proofs.Ytfgonmgmoeoedaa

/-
  A message's frame on the line: the program's (wrap), the document's (DataOf).
-/
namespace Go.Proofs.Ytfgonmgmoeoedaa
open Go.RowKit

theorem run_append_nil {P : Program} {w : World} (base : Nat) (t ty e : TypeId) (i : TypeInfo) (size c : Nat) (ht : P.underlying t = some (.slice e)) (hi : P.info? e = some i)
    (v : Value) (n : Nat) (xs : List Value) (hown : w.ownsRow base e size v n xs) : (Builtin.append_ #[t, t] ty #[v, .slice none 0 c]).run P w = .ok v w := by
  have key := hown.2
  rcases key with ⟨h1, h2⟩ | ⟨g, cap, cur, h1, _, _, hle, _⟩
  · subst h1 h2
    simp [Builtin.append_, Builtin.lenOf, Builtin.firstCells, sizeOf, typeInfo, hi, run_underlying ht]
  · subst h1
    simp [Builtin.append_, Builtin.lenOf, Builtin.firstCells, sizeOf, typeInfo, hi, run_underlying ht, storeCells, hle]

/-- numbers more, whatever row they come from -/
theorem run_append_ints {w : World} (ty : TypeId) (base : Nat) (v : Value) (l0 : List Int) (hown : OwnI w base v l0) (a : Option Addr) (n c : Nat) (l : List Int) (hl : Ints w a n l) (h63 : l0.length + n ≤ 1000000) (hbase : base ≤ w.heap.size) :
    ∃ v' w', (Builtin.append_ #[37, 37] ty #[v, .slice a n c]).run Try.prog w = .ok v' w' ∧ OwnI w' base v' (l0 ++ l) ∧ w.grownBy w' v.ownBlock := by
  obtain ⟨i0, hi0, hz0, hz1, hz2⟩ := info_parts Try.info3
  have hR := hl.row
  have hln := hl.1
  cases a with
  | none =>
    obtain ⟨rfl, hx⟩ := rowR_empty hR
    obtain rfl : l = [] := List.eq_nil_of_length_eq_zero hln
    exact ⟨v, w, run_append_nil base 37 ty 3 i0 1 c Try.underlying37 hi0 v l0.length _ hown, by rw [List.append_nil]; exact hown, ⟨rfl, rfl, rfl, Nat.le_refl _, fun _ _ _ => rfl⟩⟩
  | some ad =>
    obtain ⟨v', w', hr, hown', hg, _, _⟩ := run_append_own_at (P := Try.prog) w base 37 ty 3 i0 _ 1 8 Try.underlying37 hi0 hz0 hz1 hz2 rfl (by decide) v l0.length _ hown ad n c (l.map (Value.int .i64)) hR.1 (fun j u hj => by
      rcases Nat.eq_zero_or_pos n with h | h
      · subst h
        rw [rowR_zero hR] at hj
        simp at hj
      · obtain ⟨b, off, hb, hlt, hc⟩ := hR.2.2 h
        cases hb
        rw [Addr.add_lit]
        exact hc j u hj) (fun u hu => by
      obtain ⟨z, _, rfl⟩ := List.mem_map.1 hu
      rfl) (by rw [maxLen_val]; omega) (by omega) hbase
    refine ⟨v', w', hr, ?_, hg⟩
    unfold OwnI
    rw [List.length_append, List.map_append, hln]
    exact hown'

theorem wpList_append_ints {w : World} {ops : Array Oper} {rest : List Oper} {o : Oper} {a : Act} {Q : Exit → Act → World → Prop} (hgd : o.guard = none) (s x : Operand)
    (ho : o.op = .call { callee := .builtin .append, args := #[s, x], argTypes := #[37, 37] }) (base : Nat) (v : Value) (l0 : List Int) (hs : a.eval s = v) (hown : OwnI w base v l0) (xa : Option Addr) (n c : Nat) (l : List Int) (hx : a.eval x = .slice xa n c) (hl : Ints w xa n l) (h63 : l0.length + n ≤ 1000000) (hbase : base ≤ w.heap.size)
    (h : ∀ v' w', OwnI w' base v' (l0 ++ l) → w.grownBy w' v.ownBlock → wpList Try.prog ops Q rest (a.put o.dst v') w') :
    wpList Try.prog ops Q (o :: rest) a w := by
  refine wpList_plain hgd fun K hK => ?_
  obtain ⟨v', w', hr, h2, h3⟩ := run_append_ints o.type base v l0 hown xa n c l hl h63 hbase
  unfold Oper.wp execOp
  simp only [ho, resolve, invoke, builtin, Sem.run_bind, Sem.run_pure, Result.andThen_ok, List.map_toArray, List.map_cons, List.map_nil, hs, hx, hr]
  exact hK _ _ (h v' w' h2 h3)

theorem step_append_ints {ops : Array Oper} {o : Oper} {a : Act} {w : World} {K : Act → World → Prop} {Q : Exit → Act → World → Prop} {E : Prop} (hgd : o.guard = none) (s x : Operand)
    (ho : o.op = Op.call { callee := Callee.builtin Builtin.append, args := #[s, x], argTypes := #[37, 37] }) (base : Nat) (v : Value) (l0 : List Int) (hs : a.eval s = v) (hown : OwnI w base v l0) (xa : Option Addr) (n c : Nat) (l : List Int) (hx : a.eval x = .slice xa n c) (hl : Ints w xa n l) (h63 : l0.length + n ≤ 1000000) (hbase : base ≤ w.heap.size)
    (hK : ∀ v' w', Hid (OwnI w' base v' (l0 ++ l)) → Hid (w.grownBy w' v.ownBlock) → K (a.put o.dst v') w') :
    if Region.wanted o (yielded ops a.tmps) = true then Oper.wp Try.prog o a w K Q else E := by
  have hw : Region.wanted o (yielded ops a.tmps) = true := by simp [Region.wanted, hgd]
  rw [if_pos hw]
  obtain ⟨v', w', hr, h2, h3⟩ := run_append_ints o.type base v l0 hown xa n c l hl h63 hbase
  unfold Oper.wp execOp
  simp only [ho, resolve, invoke, builtin, Sem.run_bind, Sem.run_pure, Result.andThen_ok, List.map_toArray, List.map_cons, List.map_nil, hs, hx, hr]
  exact hK _ _ h2 h3

theorem OwnI.lit3 (w : World) (x y z : Int) : OwnI (w.alloc (.cells #[.int .i64 x, .int .i64 y, .int .i64 z] 3)) w.heap.size (.slice (some ⟨w.heap.size, 0, none⟩) 3 3) [x, y, z] :=
  World.ownsRow_lit (base := w.heap.size) (e := 3) (size := 1) w #[.int .i64 x, .int .i64 y, .int .i64 z] 3 (Nat.le_refl _) (by rw [maxLen_val]; omega) rfl
theorem OwnI.intsA {w : World} {base : Nat} {v : Value} {l : List Int} (h : OwnI w base v l) : ∃ a c, v = .slice a l.length c ∧ l.length ≤ c ∧ Ints w a l.length l ∧ ∀ p, a = some p → base ≤ p.block := by
  obtain ⟨a, c, hv, hle, hr, hp⟩ := ownsRow_rowR h
  exact ⟨a, c, hv, hle, Ints.of_row rfl hr, hp⟩
theorem OwnI.blk {w : World} {base : Nat} {v : Value} {l : List Int} (h : OwnI w base v l) : ∀ k, v.ownBlock = some k → base ≤ k ∧ k < w.heap.size := World.ownsRow.lt h

set_option maxHeartbeats 4000000 in
set_option maxRecDepth 100000 in
theorem lwrap_any (ses num kd : Int) (a1 a2 : Option Addr) (n1 c1 n2 c2 : Nat) (nm : List Int) (w : World) (h1 : Ints w a1 n1 nm) (hn1 : n1 ≤ 1000) :
    Calls Try.prog 46 #[.int .i64 ses, .int .i64 num, .agg #[.int .i64 kd, .slice a1 n1 c1, .slice a2 n2 c2]] w fun e w' => ∃ xa xc, e = .returned (.agg #[.int .i64 1, .slice xa (n1 + 3) xc, .slice a2 n2 c2]) ∧ Hid (Ints w' xa (n1 + 3) (ses :: num :: kd :: nm)) ∧ Hid (Below w.heap.size w w') := by
  obtain ⟨W0, hW0⟩ : ∃ W0 : World, Hid (W0 = (w.alloc (.cells #[.int .i64 kd, .slice a1 n1 c1, .slice a2 n2 c2] 40)).alloc (.cells #[.int .i64 0, .slice none 0 0, .slice none 0 0] 40)) := ⟨_, rfl⟩
  have X0 := hide (show Bx W0 w.heap.size #[.int .i64 kd, .slice a1 n1 c1, .slice a2 n2 c2] 40 by rw [hW0.out]; exact (Bx.new w _ _).alloc _)
  have R0 := hide (show Bx W0 (w.heap.size + 1) #[.int .i64 0, .slice none 0 0, .slice none 0 0] 40 by
    rw [hW0.out]
    have h := Bx.new (w.alloc (.cells #[.int .i64 kd, .slice a1 n1 c1, .slice a2 n2 c2] 40)) #[.int .i64 0, .slice none 0 0, .slice none 0 0] 40
    rw [World.size_alloc] at h
    exact h)
  have D0 := hide (show Below w.heap.size w W0 by rw [hW0.out]; exact (below_alloc _ _).alloc (by simp) _)
  obtain ⟨W1, hW1⟩ : ∃ W1 : World, Hid (W1 = W0.alloc (.cells #[.int .i64 ses, .int .i64 num, .int .i64 kd] 3)) := ⟨_, rfl⟩
  have D1 := hide (show Below W0.heap.size W0 W1 by rw [hW1.out]; exact below_alloc _ _)
  have O1 := hide (show OwnI W1 W0.heap.size (.slice (some ⟨W0.heap.size, 0, none⟩) 3 3) [ses, num, kd] by rw [hW1.out]; exact OwnI.lit3 W0 ses num kd)
  have I1 := hide ((h1.later D0.out).later D1.out)
  have HN := hide h1.1
  have hx0 : w.heap.size < W0.heap.size := X0.out.lt
  have hr0 : w.heap.size + 1 < W0.heap.size := R0.out.lt
  clear h1
  obtain ⟨b0, b1, b2⟩ := X0.out.three
  go_enter Try.func46, Try.ntmps46
  go_upto_region 1 with fail
  rw [← hW0.out]
  go_wp2_with (at_builtin; rw [← hW1.out]; refine wpList_append_ints (w := W1) rfl _ _ rfl W0.heap.size (.slice (some ⟨W0.heap.size, 0, none⟩) 3 3) [ses, num, kd] rfl ?o1 a1 n1 c1 nm rfl ?o2 ?o3 ?o4 ?_)
  case o1 => exact O1.out
  case o2 => exact I1.out
  case o3 => simp; omega
  case o4 => exact D1.out.size
  intro v2 w2 hO2 hG2
  have O2 := hide (show OwnI w2 W0.heap.size v2 (ses :: num :: kd :: nm) from hO2)
  have D2 := hide (show Below W0.heap.size W0 w2 from D1.out.grown hG2 D1.out.size (fun i hi => (O1.out.blk i hi).1))
  clear hO2 hG2
  obtain ⟨xa, xc, hv, _, hi2, ha2⟩ := O2.out.intsA
  have hlen : (ses :: num :: kd :: nm).length = n1 + 3 := by simp [HN.out]
  rw [hlen] at hv hi2
  subst hv
  have I2 := hide hi2
  have A2 := hide ha2
  clear hi2 ha2 hlen
  have X2 := hide (X0.out.later D2.out hx0)
  have R2 := hide (R0.out.later D2.out hr0)
  clear b0 b1 b2
  obtain ⟨b0, b1, b2⟩ := X2.out.three
  obtain ⟨r0, r1, r2⟩ := R2.out.three
  have rz := R2.out.frozen
  have GF := hide (set3_grown (grow_refl w2 (some (w.heap.size + 1))) (.int .i64 1) (.slice xa (n1 + 3) xc) (.slice a2 n2 c2))
  have IF := hide (I2.out.grownBy GF.out (fun _ p hp e => by have h1 := A2.out p hp; have h2 : w.heap.size + 1 = p.block := Option.some.inj e; omega))
  have BF := hide (show Below w.heap.size w (set3 w2 (w.heap.size + 1) (.int .i64 1) (.slice xa (n1 + 3) xc) (.slice a2 n2 c2)) from set3_below (D0.out.trans (D2.out.mono D0.out.size)) (by omega) _ _ _)
  go_wp2_with fail
  obtain ⟨t0, t1, t2⟩ := (R2.out.three_set (.int .i64 1) (.slice xa (n1 + 3) xc) (.slice a2 n2 c2)).three
  exact bodyPost_ret (v := .agg #[.int .i64 1, .slice xa (n1 + 3) xc, .slice a2 n2 c2]) (by simp [results, Try.results46, go_sem, t0, t1, t2]) rfl ⟨xa, xc, rfl, IF, BF⟩

theorem ints3_after {w : World} {base : Nat} {v : Value} {x y z : Int} {nm : List Int} {n1 : Nat} (h : OwnI w base v ([x, y, z] ++ nm)) (hn : nm.length = n1) : ∃ xa xc, v = .slice xa (n1 + 3) xc ∧ Ints w xa (n1 + 3) (x :: y :: z :: nm) := by
  obtain ⟨xa, xc, hv, _, hi, _⟩ := h.intsA
  have e : ([x, y, z] ++ nm).length = n1 + 3 := by rw [List.length_append, hn]; exact Nat.add_comm 3 n1
  rw [e] at hv hi
  exact ⟨xa, xc, hv, hi⟩
theorem lit3_below {W w2 : World} {x y z : Int} (h : (W.alloc (.cells #[.int .i64 x, .int .i64 y, .int .i64 z] 3)).drew.grownBy w2 (Value.slice (some ⟨W.heap.size, 0, none⟩) 3 3).ownBlock) : Below W.heap.size W w2 :=
  ((below_alloc W _).drew).grown h (Nat.le_of_lt (by show W.heap.size < (W.alloc _).heap.size; simp)) (fun q hq => by
    have : W.heap.size = q := Option.some.inj hq
    omega)

set_option maxHeartbeats 8000000 in
set_option maxRecDepth 100000 in
theorem dataOf_any (ses base : Int) (qa : Option Addr) (qn qc : Nat) (fs : List Fr) (i : Nat) (kd : Int) (nm : List Int) (nb : Nat) (bs : List Int) (w : World) (hq : FL w qa qn fs) (hf : fs[i]? = some ⟨kd, nm, nb, bs⟩) (hb0 : 0 ≤ base) (hb1 : base ≤ 2147483647) (hi64 : i ≤ 1000) (hm : Mx.may 1 (ses :: (base + i) :: kd :: nm) nb = 0) :
    Calls Try.prog 15 #[.agg #[.int .i64 ses, .int .i64 base, .slice qa qn qc], .int .i64 (i : Int)] w fun e w' => ∃ v, e = .returned v ∧ Hid (Own w' w.heap.size v (Mx.packB 1 (ses :: (base + i) :: kd :: nm) nb bs)) ∧ Hid (Below w.heap.size w w') := by
  have hin : i < qn := by have h1 := (List.getElem?_eq_some_iff.1 hf).1; have h2 := hq.1; omega
  obtain ⟨b, off, f, a1, n1, c1, a2, c2, hab, hblt, hx, e0, e1, e2, hi, hbk, _⟩ := hq.at_ i hin
  rw [hf] at hx
  cases hx
  subst hab
  dsimp only at e0 e1 e2 hi hbk
  have HM := hide hm
  have hn1 : n1 ≤ 1000 := by
    have h1 := hi.1
    have h2 := hm
    unfold Mx.may at h2
    split at h2
    · omega
    · split at h2
      · omega
      · next h3 => simp at h3; omega
  obtain ⟨W0, hW0⟩ : ∃ W0 : World, Hid (W0 = w.alloc (.cells #[.int .i64 ses, .int .i64 base, .slice (some ⟨b, off, none⟩) qn qc] 24)) := ⟨_, rfl⟩
  have X0 := hide (show Bx W0 w.heap.size #[.int .i64 ses, .int .i64 base, .slice (some ⟨b, off, none⟩) qn qc] 24 by rw [hW0.out]; exact Bx.new w _ _)
  have D0 := hide (show Below w.heap.size w W0 by rw [hW0.out]; exact below_alloc _ _)
  obtain ⟨W1, hW1⟩ : ∃ W1 : World, Hid (W1 = W0.alloc (.cells #[.int .i64 kd, .slice a1 n1 c1, .slice a2 nb c2] 40)) := ⟨_, rfl⟩
  have D1 := hide (show Below W0.heap.size W0 W1 by rw [hW1.out]; exact below_alloc _ _)
  have Y1 := hide (show Bx W1 W0.heap.size #[.int .i64 kd, .slice a1 n1 c1, .slice a2 nb c2] 40 by rw [hW1.out]; exact Bx.new W0 _ _)
  have X1 := hide (X0.out.later D1.out X0.out.lt)
  have B1 := hide (D0.out.trans (D1.out.mono D0.out.size))
  have I1 := hide (hi.later B1.out)
  have K1 := hide (hbk.later B1.out)
  have i0 := (D0.out.cell (p := ⟨b, off + i * 3, none⟩) hblt).trans e0
  have i1 := (D0.out.cell (p := ⟨b, off + i * 3 + 1, none⟩) hblt).trans e1
  have i2 := (D0.out.cell (p := ⟨b, off + i * 3 + 2, none⟩) hblt).trans e2
  have HN := hide hi.1
  clear e0 e1 e2 hi hbk hm hf hq
  obtain ⟨x0, x1, x2⟩ := X0.out.three
  have hwi : IntKind.i64.wrap (base + (i : Int)) = base + (i : Int) := by rw [IntWalk.i64_left, IntWalk.wrap64_in _ (by omega)]
  have hx1 : w.heap.size < W1.heap.size := X1.out.lt
  have hy1 : W0.heap.size < W1.heap.size := Y1.out.lt
  go_enter Try.func15, Try.ntmps15
  go_upto_region 1 with fail
  rw [← hW0.out]
  go_upto_region 2 with fail
  rw [← hW1.out]
  clear x0 x1 x2 i0 i1 i2
  obtain ⟨x0, x1, x2⟩ := X1.out.three
  obtain ⟨y0, y1, y2⟩ := Y1.out.three
  go_region_held3 (fun w' => w'.cell? ⟨w.heap.size, 0, none⟩ = some (.int .i64 ses) ∧ w'.cell? ⟨w.heap.size, 1, none⟩ = some (.int .i64 base) ∧ w'.cell? ⟨W0.heap.size, 0, none⟩ = some (.int .i64 kd) ∧ w'.cell? ⟨W0.heap.size, 1, none⟩ = some (.slice a1 n1 c1) ∧ w'.cell? ⟨W0.heap.size, 2, none⟩ = some (.slice a2 nb c2))
    (first
      | with_reducible exact ⟨x0, x1, y0, y1, y2⟩
      | (simp only [cell_drew]; with_reducible exact ⟨x0, x1, y0, y1, y2⟩)
      | (simp only [cell_drew, cell_alloc_lt hx1, cell_alloc_lt hy1]; with_reducible exact ⟨x0, x1, y0, y1, y2⟩)
      | with_reducible exact ⟨p0, p1, q0, q1, q2⟩
      | with_reducible exact ⟨r0, r1, s0, s1, s2⟩)
    (first
      | (refine step_append_ints (w := (W1.alloc (.cells #[.int .i64 ses, .int .i64 (base + (i : Int)), .int .i64 kd] 3)).drew) rfl (.tmp 19) (.tmp 21) rfl W1.heap.size (.slice (some ⟨W1.heap.size, 0, none⟩) 3 3) [ses, base + (i : Int), kd] rfl ?o1 a1 n1 c1 nm rfl ?o2 ?o3 ?o4 ?_; (case o1 => exact OwnI.lit3 W1 ses (base + (i : Int)) kd); (case o2 => exact I1.out.later (below_alloc _ _).drew); (case o3 => simp; omega); (case o4 => exact Nat.le_of_lt (by show W1.heap.size < (W1.alloc _).heap.size; simp)); intro v2 w2 O2 G2; have D2 := hide (lit3_below G2.out); have FB := ints3_after O2.out HN.out; obtain ⟨xa, xc, hv, hi2⟩ := FB; subst hv; have I2 := hide hi2; clear hi2; have K2 := hide (K1.out.later D2.out); obtain ⟨p0, p1, _⟩ := (X1.out.later D2.out hx1).three; obtain ⟨q0, q1, q2⟩ := (Y1.out.later D2.out hy1).three)
      | (go_at_call 17; refine (packed_any 1 xa a2 (n1 + 3) xc nb c2 (ses :: (base + (i : Int)) :: kd :: nm) bs w2 I2.out K2.out HM.out).mono ?_; rintro e w3 ⟨v3, rfl, O3, E3⟩; have D3 := hide (show Below W1.heap.size W1 w3 from D2.out.trans (E3.mono D2.out.size)); have O3' := hide O3; clear O3 E3; obtain ⟨r0, r1, _⟩ := (X1.out.later D3.out hx1).three; obtain ⟨s0, s1, s2⟩ := (Y1.out.later D3.out hy1).three))
  all_goals
    have BF := hide (B1.out.trans (D3.out.mono B1.out.size))
    go_wp2_with fail
    go_ret
    exact ⟨_, rfl, hide (World.ownsRow.mono O3'.out (by have h1 := D2.out.size; omega)), BF⟩
end Go.Proofs.Ytfgonmgmoeoedaa

/-
  Rows of rows of bytes, as the call makes them; one row more.
-/
namespace Go.Proofs.Ytfgonmgmoeoedaa
open Go.RowKit

/-- bytes, read as a row -/
def BR (w : World) (a : Option Addr) (n : Nat) (l : List Int) : Prop := l.length = n ∧ RowR w a n 1 (l.map (Value.int .u8))
theorem BR.later {w w' : World} {a : Option Addr} {n : Nat} {l : List Int} (h : BR w a n l) (hb : Below w.heap.size w w') : BR w' a n l := ⟨h.1, h.2.later hb⟩
theorem BR.bytes {w : World} {a : Option Addr} {n : Nat} {l : List Int} (h : BR w a n l) (hb : ∀ x ∈ l, 0 ≤ x ∧ x ≤ 255) : Bytes w a n l := by
  obtain ⟨h0, h1, h2, h3⟩ := h
  refine ⟨h0, h2, hb, fun hp => ?_⟩
  obtain ⟨b, off, ha, hlt, hc⟩ := h3 hp
  refine ⟨b, off, ha, fun i hi => hc i _ ?_⟩
  have hil : i < l.length := by omega
  rw [List.getElem?_map, List.getElem?_eq_getElem hil, List.getD_eq_getElem?_getD, List.getElem?_eq_getElem hil]
  rfl
theorem Own.br {w : World} {base : Nat} {v : Value} {l : List Int} (h : Own w base v l) : ∃ a c, v = .slice a l.length c ∧ l.length ≤ c ∧ BR w a l.length l ∧ ∀ p, a = some p → base ≤ p.block := by
  obtain ⟨a, c, hv, hle, hr, hp⟩ := ownsRow_rowR h
  exact ⟨a, c, hv, hle, ⟨rfl, hr⟩, hp⟩

theorem BR.grownBy {w w' : World} {a : Option Addr} {n : Nat} {l : List Int} {row : Option Nat} (h : BR w a n l) (hg : w.grownBy w' row) (hne : 0 < n → ∀ p, a = some p → row ≠ some p.block) : BR w' a n l := by
  obtain ⟨h0, h1, h2, h3⟩ := h
  refine ⟨h0, h1, h2, fun hp => ?_⟩
  obtain ⟨b, off, ha, hlt, hc⟩ := h3 hp
  exact ⟨b, off, ha, by have := hg.size; omega, fun j u hj => hg.cell (hc j u hj) (fun e => hne hp _ ha e.symm)⟩

/-- rows of bytes, read -/
def Bn (w : World) (a : Option Addr) (k : Nat) (ls : List (List Int)) : Prop :=
  ls.length = k ∧ k ≤ maxLen ∧ (0 < k → ∃ b off, a = some ⟨b, off, none⟩ ∧ b < w.heap.size ∧ ∀ i l, ls[i]? = some l → ∃ ai ni ci, w.cell? ⟨b, off + i, none⟩ = some (.slice ai ni ci) ∧ BR w ai ni l ∧ ni ≤ ci)
theorem Bn.later {w w' : World} {a : Option Addr} {k : Nat} {ls : List (List Int)} (h : Bn w a k ls) (hb : Below w.heap.size w w') : Bn w' a k ls := by
  obtain ⟨h1, h2, h4⟩ := h
  refine ⟨h1, h2, fun hp => ?_⟩
  obtain ⟨b, off, ha, hlt, hc⟩ := h4 hp
  refine ⟨b, off, ha, by have := hb.size; omega, fun i l hl => ?_⟩
  obtain ⟨ai, ni, ci, c1, c2, c3⟩ := hc i l hl
  exact ⟨ai, ni, ci, (hb.cell (p := ⟨b, off + i, none⟩) hlt).trans c1, c2.later hb, c3⟩
theorem Bn.at_ {w : World} {a : Option Addr} {k : Nat} {ls : List (List Int)} (h : Bn w a k ls) (i : Nat) (hi : i < k) :
    ∃ b off l ai ni ci, a = some ⟨b, off, none⟩ ∧ b < w.heap.size ∧ ls[i]? = some l ∧ w.cell? ⟨b, off + i, none⟩ = some (.slice ai ni ci) ∧ BR w ai ni l ∧ ni ≤ ci := by
  obtain ⟨h1, h2, h4⟩ := h
  obtain ⟨b, off, ha, hlt, hc⟩ := h4 (by omega)
  have hl : ls[i]? = some ls[i] := List.getElem?_eq_getElem (by omega)
  obtain ⟨ai, ni, ci, c1, c2, c3⟩ := hc i _ hl
  exact ⟨b, off, ls[i], ai, ni, ci, ha, hlt, hl, c1, c2, c3⟩

/-- rows of bytes in a row of the call's own; they lie elsewhere, from B on -/
def OwnBn (B : Nat) (w : World) (base : Nat) (v : Value) (ls : List (List Int)) : Prop :=
  ∃ vs : List Value, w.ownsRow base 27 1 v ls.length vs ∧ ∀ (i : Nat) (l : List Int), ls[i]? = some l → ∃ (a : Option Addr) (n c : Nat), vs[i]? = some (.slice a n c) ∧ BR w a n l ∧ n ≤ c ∧ (0 < n → ∀ p, a = some p → v.ownBlock ≠ some p.block ∧ B ≤ p.block)
theorem Try.info27 : (Try.prog.info? 27).map (fun i => (i.zero, i.size, i.bytes)) = some (some (.slice none 0 0), 1, 24) := by kernel_rfl
theorem OwnBn.later {B : Nat} {w w' : World} {base : Nat} {v : Value} {ls : List (List Int)} (h : OwnBn B w base v ls) (hb : Below w.heap.size w w') : OwnBn B w' base v ls := by
  obtain ⟨vs, h1, h2⟩ := h
  refine ⟨vs, rowKept h1 hb, fun i l hl => ?_⟩
  obtain ⟨a, n, c, e1, e2, e3⟩ := h2 i l hl
  exact ⟨a, n, c, e1, e2.later hb, e3⟩
/-- a block ahead of all of it may be written into -/
theorem OwnBn.grown {B g : Nat} {w w' : World} {base : Nat} {v : Value} {ls : List (List Int)} (h : OwnBn B w base v ls) (hg : w.grownBy w' (some g)) (hB : g < B) (hb : g < base) : OwnBn B w' base v ls := by
  obtain ⟨vs, h1, h2⟩ := h
  refine ⟨vs, World.ownsRow.kept h1 hg ?_, fun i l hl => ?_⟩
  · rcases hbk : v.ownBlock with _ | k
    · exact .inl rfl
    · right
      intro e
      have h3 := (World.ownsRow.lt h1 k hbk).1
      have : k = g := Option.some.inj e
      omega
  · obtain ⟨a, n, c, e1, e2, e3, e4⟩ := h2 i l hl
    exact ⟨a, n, c, e1, e2.grownBy hg (fun h0 p hp e => by have h5 := (e4 h0 p hp).2; have : g = p.block := Option.some.inj e; omega), e3, e4⟩
theorem OwnBn.bn {B : Nat} {w : World} {base : Nat} {v : Value} {ls : List (List Int)} (h : OwnBn B w base v ls) : ∃ a c, v = .slice a ls.length c ∧ ls.length ≤ c ∧ Bn w a ls.length ls := by
  obtain ⟨vs, h1, h2⟩ := h
  obtain ⟨a, c, hv, hle, hr, _⟩ := ownsRow_rowR h1
  refine ⟨a, c, hv, hle, rfl, hr.2.1, fun h0 => ?_⟩
  obtain ⟨b, off, ha, hlt, hc⟩ := hr.2.2 h0
  refine ⟨b, off, ha, hlt, fun i l hl => ?_⟩
  obtain ⟨ai, ni, ci, e1, e2, e3, _⟩ := h2 i l hl
  exact ⟨ai, ni, ci, hc _ _ e1, e2, e3⟩
theorem OwnBn.lt {B : Nat} {w : World} {base : Nat} {v : Value} {ls : List (List Int)} (h : OwnBn B w base v ls) : ∀ k, v.ownBlock = some k → base ≤ k ∧ k < w.heap.size := by
  obtain ⟨vs, h1, _⟩ := h
  exact World.ownsRow.lt h1
theorem OwnBn.one {B base : Nat} {w : World} (hb : base ≤ w.heap.size) {a : Option Addr} {n c : Nat} {l : List Int} (hl : BR w a n l) (hc : n ≤ c) (hp : 0 < n → ∀ p, a = some p → B ≤ p.block) :
    OwnBn B (w.alloc (.cells #[.slice a n c] 27)) base (.slice (some ⟨w.heap.size, 0, none⟩) 1 1) [l] := by
  refine ⟨[.slice a n c], World.ownsRow_lit (base := base) (e := 27) (size := 1) w #[.slice a n c] 1 hb (by unfold maxLen; omega) rfl, fun i l' hl' => ?_⟩
  match i, hl' with
  | 0, hl' =>
    simp at hl'
    subst hl'
    refine ⟨a, n, c, rfl, hl.later (below_alloc _ _), hc, fun h0 p hp' => ⟨fun e => ?_, hp h0 p hp'⟩⟩
    obtain ⟨b, off, ha, hlt, _⟩ := hl.2.2.2 h0
    rw [ha] at hp'
    cases hp'
    simp [Value.ownBlock] at e
    omega
  | i + 1, hl' => simp at hl'
/-- one row more -/
theorem wpList_append_bn {w : World} {ops : Array Oper} {rest : List Oper} {o : Oper} {a : Act} {Q : Exit → Act → World → Prop} (hgd : o.guard = none) (s x : Operand)
    (ho : o.op = .call { callee := .builtin .append, args := #[s, x], argTypes := #[82, 82] }) (B base : Nat) (ls : List (List Int)) (hown : OwnBn B w base (a.eval s) ls)
    (ad : Option Addr) (n c : Nat) (l : List Int) (hl : BR w ad n l) (hc : n ≤ c) (hp : 0 < n → ∀ p, ad = some p → (a.eval s).ownBlock ≠ some p.block ∧ B ≤ p.block)
    (hx : a.eval x = .slice (some ⟨w.heap.size, 0, none⟩) 1 1) (h63 : ls.length ≤ 1000000) (hbase : base ≤ w.heap.size)
    (h : ∀ v' w', OwnBn B w' base v' (ls ++ [l]) → w.grownBy w' (a.eval s).ownBlock → wpList Try.prog ops Q rest (a.put o.dst v') w') :
    wpList Try.prog ops Q (o :: rest) a (w.alloc (.cells #[.slice ad n c] 27)) := by
  obtain ⟨vs, h1, h2⟩ := hown
  obtain ⟨i0, hi0, hz0, hz1, hz2⟩ := info_parts Try.info27
  refine wpList_append_own_at _ hgd s x 82 ho base 27 i0 _ 1 24 Try.underlying82 hi0 hz0 hz1 hz2 rfl (by decide) (a.eval s) ls.length vs rfl (World.ownsRow.alloc h1 _) ⟨w.heap.size, 0, none⟩ 1 1 [.slice ad n c] hx rfl (fun j u hj => ?_) (by simp [Value.oneCell']) (by unfold maxLen; omega) (by omega) (by simp; omega) ?_
  · rw [Addr.add_lit, World.cell?_alloc_new]
    simpa using hj
  · intro v' w' hown' hg _ hat
    have hg' : w.grownBy w' (a.eval s).ownBlock := ⟨hg.os, hg.tape, hg.output, by have := hg.size; simp at this; omega, fun k hk hne => (hg.block k (by simp; omega) hne).trans (Below.heap_alloc w _ k hk)⟩
    have hvne : ∀ (p : Addr), p.block < w.heap.size → (a.eval s).ownBlock ≠ some p.block → v'.ownBlock ≠ some p.block := by
      intro p hlt hne e
      rcases hat with h | h
      · exact hne (h.symm.trans e)
      · rw [h] at e
        simp at e
        omega
    have fin : ∀ {a' : Option Addr} {n' : Nat} {l' : List Int}, BR w a' n' l' → (0 < n' → ∀ p, a' = some p → (a.eval s).ownBlock ≠ some p.block ∧ B ≤ p.block) → BR w' a' n' l' ∧ (0 < n' → ∀ p, a' = some p → v'.ownBlock ≠ some p.block ∧ B ≤ p.block) := by
      intro a' n' l' hp hne
      refine ⟨hp.grownBy hg' (fun h0 p hpa => (hne h0 p hpa).1), fun h0 p hpa => ⟨?_, (hne h0 p hpa).2⟩⟩
      obtain ⟨b, off, ha, hlt, _⟩ := hp.2.2.2 h0
      have hpa' := hpa
      rw [ha] at hpa
      cases hpa
      exact hvne _ hlt (hne h0 _ hpa').1
    have hvl : vs.length = ls.length := by have := h1.1; simpa using this
    refine h v' w' ⟨vs ++ [.slice ad n c], by rw [List.length_append]; exact hown', fun i l' hl' => ?_⟩ hg'
    by_cases hi' : i < ls.length
    · rw [List.getElem?_append_left hi'] at hl'
      obtain ⟨a', n', c', e1, e2, e3, e4⟩ := h2 i l' hl'
      have hf := fin e2 e4
      exact ⟨a', n', c', by rw [List.getElem?_append_left (by omega)]; exact e1, hf.1, e3, hf.2⟩
    · have hlen : i < (ls ++ [l]).length := (List.getElem?_eq_some_iff.1 hl').1
      rw [List.length_append, List.length_singleton] at hlen
      obtain rfl : i = ls.length := by omega
      rw [List.getElem?_append_right (Nat.le_refl _), Nat.sub_self] at hl'
      simp at hl'
      subst hl'
      have hf := fin hl hp
      exact ⟨ad, n, c, by rw [List.getElem?_append_right (by omega), hvl, Nat.sub_self]; rfl, hf.1, hc, hf.2⟩
end Go.Proofs.Ytfgonmgmoeoedaa

/-
  What is sent (Send).
-/
namespace Go.Proofs.Ytfgonmgmoeoedaa
open Go.RowKit

theorem OwnBn.nil (B : Nat) (w : World) (base : Nat) : OwnBn B w base (.slice none 0 0) [] := ⟨[], World.ownsRow_nil w base _ 1, fun i e he => by simp at he⟩

theorem OwnBn.mono {B : Nat} {w : World} {base base' : Nat} {v : Value} {ls : List (List Int)} (h : OwnBn B w base v ls) (hb : base' ≤ base) : OwnBn B w base' v ls := by
  obtain ⟨vs, h1, h2⟩ := h
  exact ⟨vs, World.ownsRow.mono h1 hb, h2⟩

namespace Mx
/-- the bytes of message number i of a sender -/
def wireAt (s : Sd) (i : Nat) : List Int := match s.q[i]? with
  | some f => packB 1 (s.ses :: (s.base + (i : Int)) :: f.kind :: f.nums) f.nb f.bs
  | none => []
theorem wireAt_some {s : Sd} {i : Nat} {f : Fr} (h : s.q[i]? = some f) : wireAt s i = packB 1 (s.ses :: (s.base + (i : Int)) :: f.kind :: f.nums) f.nb f.bs := by unfold wireAt; rw [h]
def wires (s : Sd) (k : Nat) : List (List Int) := (List.range k).map (wireAt s)
theorem wires_succ (s : Sd) (k : Nat) : wires s (k + 1) = wires s k ++ [wireAt s k] := by unfold wires; rw [List.range_succ, List.map_append]; rfl
theorem wires_len (s : Sd) (k : Nat) : (wires s k).length = k := by unfold wires; simp
def winN (s : Sd) : Nat := min s.q.length 4
def sendE (s : Sd) : Int := if sdmay s = 0 then (if 0 < s.q.length ∧ 2147483647 < s.base + (winN s : Int) - 1 then 1 else 0) else sdmay s
def sendL (s : Sd) : List (List Int) := if sendE s = 0 then wires s (winN s) else []
theorem sendE_no {s : Sd} (h : sdmay s ≠ 0) : sendE s = sdmay s := by unfold sendE; rw [if_neg h]
theorem sendE_1 {s : Sd} {k : Nat} (h : sdmay s = 0) (hk : k < winN s) (h2 : 2147483647 < s.base + (k : Int)) : sendE s = 1 := by
  unfold sendE
  rw [if_pos h, if_pos]
  unfold winN at hk ⊢
  omega
theorem sendE_0 {s : Sd} (h : sdmay s = 0) (h2 : ∀ k : Nat, k < winN s → s.base + (k : Int) ≤ 2147483647) : sendE s = 0 := by
  unfold sendE
  rw [if_pos h, if_neg]
  intro h3
  have h4 := h2 (winN s - 1) (by unfold winN; omega)
  unfold winN at h3 h4
  omega
theorem may_parts {f : Fr} (h : may f.kind f.nums f.nb = 0) : 0 ≤ f.kind ∧ f.kind ≤ 15 ∧ f.nb ≤ 32 ∧ f.nums.any badNum = false := by
  unfold may at h
  split at h
  · omega
  · next h1 =>
    split at h
    · omega
    · next h2 =>
      split at h
      · omega
      · next h3 => exact ⟨by omega, by omega, by omega, by simpa using h3⟩
theorem may_wire {f : Fr} {ses x : Int} (h : mmay f = 0) (h1 : 0 ≤ ses ∧ ses ≤ 2147483647) (h2 : 0 ≤ x) : may 1 (ses :: x :: f.kind :: f.nums) f.nb = if 2147483647 < x then 1 else 0 := by
  obtain ⟨h3, h4⟩ := mmay_ok h
  obtain ⟨k0, k1, k2, k3⟩ := may_parts h3
  unfold may
  rw [if_neg (by omega), if_neg (by simp; omega)]
  have e1 : badNum ses = false := by unfold badNum; simp; omega
  have e3 : badNum f.kind = false := by unfold badNum; simp; omega
  rw [List.any_cons, List.any_cons, List.any_cons, e1, e3, k3]
  by_cases hx : 2147483647 < x
  · rw [if_pos hx, if_pos (by unfold badNum; simp; omega)]
  · rw [if_neg hx, if_neg (by unfold badNum; simp; omega)]
end Mx

set_option maxHeartbeats 8000000 in
set_option maxRecDepth 100000 in
theorem lsend_any (ses base : Int) (qa : Option Addr) (qn qc : Nat) (fs : List Fr) (w : World) (hq : FL w qa qn fs) (hqc : qn ≤ qc) :
    Calls Try.prog 36 #[.agg #[.int .i64 ses, .int .i64 base, .slice qa qn qc]] w fun e w' => ∃ v, e = .returned (.tuple #[v, errV (Mx.sendE ⟨ses, base, fs⟩)]) ∧ Hid (OwnBn w.heap.size w' w.heap.size v (Mx.sendL ⟨ses, base, fs⟩)) ∧ Hid (Below w.heap.size w w') := by
  obtain ⟨W0, hW0⟩ : ∃ W0 : World, Hid (W0 = w.alloc (.cells #[.int .i64 ses, .int .i64 base, .slice qa qn qc] 24)) := ⟨_, rfl⟩
  have X0 := hide (show Bx W0 w.heap.size #[.int .i64 ses, .int .i64 base, .slice qa qn qc] 24 by rw [hW0.out]; exact Bx.new w _ _)
  have D0 := hide (show Below w.heap.size w W0 by rw [hW0.out]; exact below_alloc _ _)
  have HQ := hide (hq.later D0.out)
  have HN := hide hq.1
  clear hq
  go_enter Try.func36, Try.ntmps36
  go_wp2_with fail
  rw [← hW0.out]
  refine (lcheck_any ses base qa qn qc fs W0 HQ.out).mono ?_
  rintro e w1 ⟨rfl, D1⟩
  have X1 := hide (X0.out.later D1 X0.out.lt)
  have B1 := hide (D0.out.trans (D1.mono D0.out.size))
  by_cases hm : Mx.sdmay ⟨ses, base, fs⟩ = 0
  · have HM := hide hm
    have HOK := hide (Mx.sdmay_ok hm)
    have hq64 : qn ≤ 64 := by have h1 : fs.length ≤ 64 := HOK.out.2.1; have h2 := HN.out; omega
    have hb0 : 0 ≤ base := HOK.out.1.2.2.1
    have hb1 : base ≤ 2147483647 := HOK.out.1.2.2.2
    rw [hm, errV_zero]
    clear hm
    obtain ⟨x0, x1, x2⟩ := X1.out.three
    have Q1 := hide (HQ.out.later D1)
    go_wp2_with fail
    refine (window_any ses base qa qn qc w1 (by omega) hqc).mono ?_
    rintro e w2 ⟨rfl, D2⟩
    have X2 := hide (X1.out.later D2 X1.out.lt)
    have B2 := hide (B1.out.trans (D2.mono B1.out.size))
    have Q2 := hide (Q1.out.later D2)
    obtain ⟨M, hM⟩ : ∃ M : Nat, Hid (M = min qn 4) := ⟨_, rfl⟩
    rw [← hM.out]
    have HWN := hide (show Mx.winN ⟨ses, base, fs⟩ = M by rw [hM.out, ← HN.out]; rfl)
    have hM4 : M ≤ 4 := by rw [hM.out]; omega
    have hMq : M ≤ qn := by rw [hM.out]; omega
    have T2 := hide (Q2.out.take M hMq)
    clear x0 x1 x2
    go_wp2_with fail
    go_loopw [5, 18] (fun v t wr => ∃ k : Nat, k ≤ M ∧ t = .int .i64 (k : Int) ∧ Hid (∀ j : Nat, j < k → base + (j : Int) ≤ 2147483647) ∧ Hid (OwnBn w.heap.size wr w2.heap.size v (Mx.wires ⟨ses, base, fs⟩ k)) ∧ Hid (Below w2.heap.size w2 wr)) (fun _ t _ => M - (intOf t).toNat)
    case atStart => exact ⟨0, by omega, rfl, hide (fun j hj => by omega), OwnBn.nil _ _ _, Below.refl _ _⟩
    case round =>
      obtain ⟨k, hk, rfl, hG, hO, hB⟩ := hrel
      have BR_ := hide (B2.out.trans (hB.out.mono B2.out.size))
      by_cases hlt : k < M
      · obtain ⟨b, off, f, a1, n1, c1, a2, c2, hab, hblt, hx, e0, e1, e2, hi, hbk, _⟩ := (T2.out.later hB.out).at_ k hlt
        subst hab
        have HX := hide (show fs[k]? = some f by rw [List.getElem?_take, if_pos hlt] at hx; exact hx)
        have HMF := hide (HOK.out.2.2 f (List.mem_of_getElem? HX.out))
        have HSZ := hide (Mx.mmay_size HMF.out)
        have HWR := hide (Mx.may_wire (x := base + (k : Int)) HMF.out ⟨HOK.out.1.1, HOK.out.1.2.1⟩ (by omega))
        have HWA := hide (Mx.wireAt_some (s := ⟨ses, base, fs⟩) HX.out)
        obtain ⟨kd, nm, nb, bs⟩ := f
        dsimp only at e0 e1 e2 hi hbk
        have hn1 : n1 ≤ 1000 := by have h1 : nm.length ≤ 1000 := HSZ.out.1; have h2 := hi.1; omega
        obtain ⟨w3, hw3⟩ : ∃ w3 : World, Hid (w3 = wr.alloc (.cells #[.int .i64 kd, .slice a1 n1 c1, .slice a2 nb c2] 40)) := ⟨_, rfl⟩
        have D3 := hide (show Below wr.heap.size wr w3 by rw [hw3.out]; exact below_alloc _ _)
        have Y3 := hide (show Bx w3 wr.heap.size #[.int .i64 kd, .slice a1 n1 c1, .slice a2 nb c2] 40 by rw [hw3.out]; exact Bx.new wr _ _)
        have X3 := hide ((X2.out.later hB.out X2.out.lt).later D3.out (X2.out.later hB.out X2.out.lt).lt)
        have I3 := hide (hi.later D3.out)
        have K3 := hide (hbk.later D3.out)
        have O3 := hide (hO.out.later D3.out)
        have B3 := hide (BR_.out.trans (D3.out.mono BR_.out.size))
        have E3 := hide (hB.out.trans (D3.out.mono hB.out.size))
        have hwk : IntKind.i64.wrap (base + (k : Int)) = base + (k : Int) := by rw [IntWalk.i64_left, IntWalk.wrap64_in _ (by omega)]
        clear hx hi hbk
        go_upto_region 8 with fail
        rw [← hw3.out]
        clear e0 e1 e2
        obtain ⟨x0, x1, x2⟩ := X3.out.three
        obtain ⟨y0, y1, y2⟩ := Y3.out.three
        go_wp2_with fail
        refine (lwrap_any ses (base + (k : Int)) kd a1 a2 n1 c1 nb c2 nm w3 I3.out hn1).mono ?_
        rintro e w4 ⟨xa, xc, rfl, I4, D4⟩
        have K4 := hide (K3.out.later D4.out)
        have O4 := hide (O3.out.later D4.out)
        have B4 := hide (B3.out.trans (D4.out.mono B3.out.size))
        have E4 := hide (E3.out.trans (D4.out.mono E3.out.size))
        clear x0 x1 x2 y0 y1 y2
        by_cases hbig : 2147483647 < base + (k : Int)
        · have HP := hide (show Mx.may 1 (ses :: (base + (k : Int)) :: kd :: nm) nb = 1 by have h := HWR.out; rw [if_pos hbig] at h; exact h)
          have HSE := hide (Mx.sendE_1 (s := ⟨ses, base, fs⟩) (k := k) HM.out (by rw [HWN.out]; exact hlt) hbig)
          have HSL := hide (show Mx.sendL ⟨ses, base, fs⟩ = [] by unfold Mx.sendL; rw [HSE.out, if_neg (by decide)])
          have he1 : errV 1 = .iface 28 (.int .i64 1) := rfl
          clear hbig
          go_wp2_with fail
          refine (pack_err 1 xa a2 (n1 + 3) xc nb c2 (ses :: (base + (k : Int)) :: kd :: nm) w4 I4.out K4.out.2.1 (by rw [HP.out]; decide)).mono ?_
          rintro e w5 ⟨rfl, D5⟩
          rw [HP.out, he1]
          have B5 := hide (B4.out.trans (D5.mono B4.out.size))
          go_wp2_with fail
          exact bodyPost_ret (v := .tuple #[.slice none 0 0, .iface 28 (.int .i64 1)]) (by simp [results, Try.results36, go_sem]) rfl ⟨_, by rw [HSE.out] <;> rfl, by rw [HSL.out]; exact OwnBn.nil _ _ _, B5⟩
        · have HP := hide (show Mx.may 1 (ses :: (base + (k : Int)) :: kd :: nm) nb = 0 by have h := HWR.out; rw [if_neg hbig] at h; exact h)
          have HG := hide (show ∀ j : Nat, j < k + 1 → base + (j : Int) ≤ 2147483647 from fun j hj => by
            by_cases hjk : j = k
            · subst hjk
              omega
            · exact hG.out j (by omega))
          clear hbig
          go_wp2_with fail
          refine (pack_ok 1 xa a2 (n1 + 3) xc nb c2 (ses :: (base + (k : Int)) :: kd :: nm) bs w4 I4.out K4.out HP.out).mono ?_
          rintro e w5 ⟨v5, rfl, hO5, D5⟩
          obtain ⟨pa, pc, hv5, hpc, hbr, hpa⟩ := hO5.br
          obtain ⟨pn, hpn⟩ : ∃ pn : Nat, Hid (pn = (Mx.packB 1 (ses :: (base + (k : Int)) :: kd :: nm) nb bs).length) := ⟨_, rfl⟩
          rw [← hpn.out] at hv5 hpc hbr
          subst hv5
          have P5 := hide (show BR w5 pa pn (Mx.wireAt ⟨ses, base, fs⟩ k) by rw [HWA.out]; exact hbr)
          have C5 := hide hpc
          have B5 := hide (B4.out.trans (D5.mono B4.out.size))
          have E5 := hide (E4.out.trans (D5.mono E4.out.size))
          have O5 := hide (O4.out.later D5)
          have Q5 := hide (show 0 < pn → ∀ p, pa = some p → u5.ownBlock ≠ some p.block ∧ w.heap.size ≤ p.block from fun _ p hp => ⟨fun e => by have h1 := (O4.out.lt _ e).2; have h2 := hpa p hp; omega, by have h2 := hpa p hp; have h3 := B4.out.size; omega⟩)
          have HTL := hide (show (Mx.wires ⟨ses, base, fs⟩ k).length ≤ 1000000 by rw [Mx.wires_len]; omega)
          clear hpc hbr hpa hO5
          go_wp2_with (at_builtin; refine wpList_append_bn (w := w5) rfl _ _ rfl w.heap.size w2.heap.size (Mx.wires ⟨ses, base, fs⟩ k) ?o1 pa pn pc (Mx.wireAt ⟨ses, base, fs⟩ k) ?o2 ?o3 ?o4 rfl ?o6 ?o7 ?_)
          case o1 => exact O5.out
          case o2 => exact P5.out
          case o3 => exact C5.out
          case o4 => exact Q5.out
          case o6 => exact HTL.out
          case o7 => exact E5.out.size
          intro v6 w6 hO6 hG6
          have O6 := hide (show OwnBn w.heap.size w6 w2.heap.size v6 (Mx.wires ⟨ses, base, fs⟩ (k + 1)) by rw [Mx.wires_succ]; exact hO6)
          have E6 := hide (show Below w2.heap.size w2 w6 from E5.out.grown hG6 E5.out.size (fun i hi => (O5.out.lt i hi).1))
          clear hO6 hG6
          go_wp2_with fail
          go_roundw
          case rel => exact ⟨k + 1, by omega, by go_num, HG, O6, E6⟩
          case measure => simp [intOf]; omega
      · obtain rfl : k = M := by omega
        have HSE := hide (Mx.sendE_0 (s := ⟨ses, base, fs⟩) HM.out (fun j hj => hG.out j (by rw [HWN.out] at hj; exact hj)))
        have HSL := hide (show Mx.sendL ⟨ses, base, fs⟩ = Mx.wires ⟨ses, base, fs⟩ k by unfold Mx.sendL; rw [HSE.out, if_pos rfl, HWN.out])
        go_wp2_with fail
        exact bodyPost_ret (v := .tuple #[u5, .nilIface]) (by simp [results, Try.results36, go_sem]) rfl ⟨_, by rw [HSE.out] <;> rfl, by rw [HSL.out]; exact hO.out.mono B2.out.size, BR_⟩
  · have HSE := hide (Mx.sendE_no hm)
    have HSL := hide (show Mx.sendL ⟨ses, base, fs⟩ = [] by unfold Mx.sendL; rw [HSE.out, if_neg hm])
    have HE := hide (errV_not hm)
    rw [HE.out]
    clear hm
    go_wp2_with fail
    exact bodyPost_ret (v := .tuple #[.slice none 0 0, .iface 28 (.int .i64 (Mx.sdmay ⟨ses, base, fs⟩))]) (by simp [results, Try.results36, go_sem]) rfl ⟨_, by rw [HSE.out, HE.out], by rw [HSL.out]; exact OwnBn.nil _ _ _, B1⟩
end Go.Proofs.Ytfgonmgmoeoedaa

/-
  A box of two cells.
-/
namespace Go.Proofs.Ytfgonmgmoeoedaa
open Go.RowKit

theorem Bx.pair {w : World} {g : Nat} {s0 s1 : Value} {t : TypeId} (h : Bx w g #[s0, s1] t) : w.cell? ⟨g, 0, none⟩ = some s0 ∧ w.cell? ⟨g, 1, none⟩ = some s1 := ⟨h.cell 0, h.cell 1⟩
theorem Bx.two_set {w : World} {g : Nat} {a0 a1 : Value} {t : TypeId} (h : Bx w g #[a0, a1] t) (s0 s1 : Value) : Bx ((w.setCell ⟨g, 0, none⟩ s0).setCell ⟨g, 1, none⟩ s1) g #[s0, s1] t := (h.set 0 s0).set 1 s1
def set2 (w : World) (g : Nat) (s0 s1 : Value) : World := (w.setCell ⟨g, 0, none⟩ s0).setCell ⟨g, 1, none⟩ s1
theorem set2_below {B g : Nat} {w w' : World} (h : Below B w w') (hg : B ≤ g) (s0 s1 : Value) : Below B w (set2 w' g s0 s1) := (h.setCell (p := ⟨g, 0, none⟩) hg _).setCell (p := ⟨g, 1, none⟩) hg _
theorem set2_grown {w w' : World} {g : Nat} (h : w.grownBy w' (some g)) (s0 s1 : Value) : w.grownBy (set2 w' g s0 s1) (some g) := grow_set (grow_set h _ _) _ _

end Go.Proofs.Ytfgonmgmoeoedaa

/-
  What is received (Receive).
-/
namespace Go.Proofs.Ytfgonmgmoeoedaa
open Go.RowKit

theorem own_under {w w' : World} {base g : Nat} {v : Value} {l : List Int} (h : Own w base v l) (hg : w.grownBy w' (some g)) (hgb : g < base) : Own w' base v l :=
  World.ownsRow.kept h hg (by
    cases hv : v.ownBlock with
    | none => exact .inl rfl
    | some k =>
      right
      intro e
      have h1 := (World.ownsRow.lt h k hv).1
      have h2 : k = g := Option.some.inj e
      omega)

theorem Bx.far3 {w : World} {k g : Nat} {cs : Array Value} {t : TypeId} (h : Bx w k cs t) (hk : k ≠ g) (s0 s1 s2 : Value) : Bx (set3 w g s0 s1 s2) k cs t := ((h.other _ _ hk).other _ _ hk).other _ _ hk

/-- what Receive hands back, where the receiver may be -/
def Rcvd (w w' : World) (l : List Int) (ses want : Int) (e : Ending) : Prop :=
  ((∃ kd nm nb bs v vb, Mx.Msg l ses want kd nm nb bs ∧ want < 2147483647 ∧ e = .returned (.tuple #[.agg #[.int .i64 ses, .int .i64 (want + 1)], v, .bool true, vb, .nilIface]) ∧ FrA w.heap.size w' v ⟨kd, nm, nb, bs⟩ ∧ Own w' w.heap.size vb (Mx.packB 0 [ses, want + 1] 0 [])) ∨
   (∃ x kd nm nb bs vb, Mx.Msg l ses x kd nm nb bs ∧ ¬ (x = want ∧ want < 2147483647) ∧ e = .returned (.tuple #[.agg #[.int .i64 ses, .int .i64 want], .agg #[.int .i64 0, .slice none 0 0, .slice none 0 0], .bool false, vb, .nilIface]) ∧ Own w' w.heap.size vb (Mx.packB 0 [ses, want] 0 [])) ∨
   ((∀ x kd nm nb bs, ¬ Mx.Msg l ses x kd nm nb bs) ∧ e = .returned (.tuple #[.agg #[.int .i64 ses, .int .i64 want], .agg #[.int .i64 0, .slice none 0 0, .slice none 0 0], .bool false, .slice none 0 0, .nilIface]))) ∧ Below w.heap.size w w'

theorem Mx.may_two {x y : Int} (hx0 : 0 ≤ x) (hx1 : x ≤ 2147483647) (hy0 : 0 ≤ y) (hy1 : y ≤ 2147483647) : Mx.may 0 [x, y] 0 = 0 := by
  unfold Mx.may
  rw [if_neg (by omega), if_neg (by simp), if_neg]
  simp [Mx.badNum]
  omega

set_option maxHeartbeats 16000000 in
set_option maxRecDepth 100000 in
theorem lrc6 {w v : World} {P : Ending → World → Prop} {ses nx : Int} {came : Bool} {kd : Int} {a1 : Option Addr} {n1 c1 : Nat} {a2 : Option Addr} {nb c2 : Nat} {nm bs : List Int} (hs0 : 0 ≤ ses) (hs1 : ses ≤ 2147483647) (hn0 : 0 ≤ nx) (hn1 : nx ≤ 2147483647) (BL : Hid (Below w.heap.size w v)) (XN : Hid (Bx v (w.heap.size + 1) #[.int .i64 ses, .int .i64 nx] 26)) (XM : Hid (Bx v (w.heap.size + 1 + 1) #[.int .i64 kd, .slice a1 n1 c1, .slice a2 nb c2] 40)) (HI : Hid (Ints v a1 n1 nm)) (HK : Hid (Blks v a2 nb bs)) (H1 : Hid (0 < n1 → ∀ p, a1 = some p → w.heap.size + 3 ≤ p.block)) (H2 : Hid (0 < nb → ∀ p, a2 = some p → w.heap.size + 3 ≤ p.block)) (hP : Hid (∀ w' vb, Own w' w.heap.size vb (Mx.packB 0 [ses, nx] 0 []) → Ints w' a1 n1 nm → Blks w' a2 nb bs → Below w.heap.size w w' → P (.returned (.tuple #[.agg #[.int .i64 ses, .int .i64 nx], .agg #[.int .i64 kd, .slice a1 n1 c1, .slice a2 nb c2], .bool came, vb, .nilIface])) w')) {u0 u1 u3 u7 u8 u9 u10 u11 u12 u13 u14 u15 u16 u17 u18 u19 u20 u21 u22 u23 u24 u25 u26 u27 u28 u29 u30 u31 u32 u33 u34 u35 u36 u37 u38 u39 u40 u41 u42 u43 u44 u45 u46 u47 u48 u49 u50 u51 u52 u53 u54 u55 u56 u57 u58 u59 u60 u61 u62 u63 u64 u65 : Value} :
    TailG Try.f11 P 6 ⟨#[u0, u1, .pointer (some ⟨w.heap.size, 0, none⟩), u3, .pointer (some ⟨w.heap.size + 1, 0, none⟩), .pointer (some ⟨w.heap.size + 1 + 1, 0, none⟩), .bool came, u7, u8, u9, u10, u11, u12, u13, u14, u15, u16, u17, u18, u19, u20, u21, u22, u23, u24, u25, u26, u27, u28, u29, u30, u31, u32, u33, u34, u35, u36, u37, u38, u39, u40, u41, u42, u43, u44, u45, u46, u47, u48, u49, u50, u51, u52, u53, u54, u55, u56, u57, u58, u59, u60, u61, u62, u63, u64, u65], []⟩ v := by
  refine tailG_step rfl ?_
  intro K hK
  obtain ⟨W0, hW0⟩ : ∃ W0 : World, Hid (W0 = v.alloc (.cells #[.int .i64 ses, .int .i64 nx] 3)) := ⟨_, rfl⟩
  have Z0 := hide (show Bx W0 v.heap.size #[.int .i64 ses, .int .i64 nx] 3 by rw [hW0.out]; exact Bx.new v _ _)
  have D0 := hide (show Below v.heap.size v W0 by rw [hW0.out]; exact below_alloc _ _)
  have I0 := hide (show Ints W0 (some ⟨v.heap.size, 0, none⟩) 2 [ses, nx] from ⟨rfl, by rw [maxLen_val]; omega, fun _ => ⟨v.heap.size, 0, rfl, Z0.out.lt, fun i hi => by
    match i, hi with
    | 0, _ => exact Z0.out.cell 0
    | 1, _ => exact Z0.out.cell 1⟩⟩)
  have K0 := hide (show Blks W0 none 0 [] from ⟨rfl, by rw [maxLen_val]; omega, fun _ h => (by cases h), fun h => absurd h (by omega)⟩)
  have HM := hide (Mx.may_two hs0 hs1 hn0 hn1)
  clear hs0 hs1 hn0 hn1
  obtain ⟨x0, x1⟩ := XN.out.pair
  go_wp2_with fail
  rw [← hW0.out]
  refine (pack_ok 0 (some ⟨v.heap.size, 0, none⟩) none 2 2 0 0 [ses, nx] [] W0 I0.out K0.out HM.out).mono ?_
  rintro e w1 ⟨vb, rfl, O1, D1⟩
  have D01 := hide (D0.out.trans (D1.mono D0.out.size))
  have hsz := BL.out.size
  have hsv := XM.out.lt
  have hW0s : W0.heap.size = v.heap.size + 1 := by rw [hW0.out]; simp
  have XN1 := hide (XN.out.later D01.out XN.out.lt)
  have XM1 := hide (XM.out.later D01.out XM.out.lt)
  have HI1 := hide (HI.out.later D01.out)
  have HK1 := hide (HK.out.later D01.out)
  have BL1 := hide (BL.out.trans (D01.out.mono BL.out.size))
  have O2 := hide O1
  clear O1 D1 x0 x1
  go_wp2_with fail
  refine Met.intro (tailG_last (c := .seq _ .ret) rfl ?_)
  try clear hK
  try clear K
  obtain ⟨x0, x1⟩ := XN1.out.pair
  obtain ⟨m0, m1, m2⟩ := XM1.out.three
  have xz := XN1.out.frozen
  have mz := XM1.out.frozen
  have h12 : ¬ w.heap.size + 1 = w.heap.size + 1 + 1 := by omega
  have h21 : ¬ w.heap.size + 1 + 1 = w.heap.size + 1 := by omega
  have NA := hide (XN1.out.two_set (.int .i64 ses) (.int .i64 nx))
  have MA := hide ((XM1.out.other ⟨w.heap.size + 1, 0, none⟩ (.int .i64 ses) (by simp)).other ⟨w.heap.size + 1, 1, none⟩ (.int .i64 nx) (by simp))
  have NB := hide (NA.out.far3 (g := w.heap.size + 1 + 1) (by omega) (.int .i64 kd) (.slice a1 n1 c1) (.slice a2 nb c2))
  have MB := hide (MA.out.three_set (.int .i64 kd) (.slice a1 n1 c1) (.slice a2 nb c2))
  unfold set3 at NB
  obtain ⟨y0, y1⟩ := NA.out.pair
  obtain ⟨z0, z1, z2⟩ := MA.out.three
  obtain ⟨p0, p1⟩ := NB.out.pair
  obtain ⟨q0, q1, q2⟩ := MB.out.three
  go_upto_region 11 with fail
  go_region_held3 (fun w' => w'.cell? ⟨w.heap.size + 1, 0, none⟩ = some (.int .i64 ses) ∧ w'.cell? ⟨w.heap.size + 1, 1, none⟩ = some (.int .i64 nx) ∧ w'.cell? ⟨w.heap.size + 1 + 1, 0, none⟩ = some (.int .i64 kd) ∧ w'.cell? ⟨w.heap.size + 1 + 1, 1, none⟩ = some (.slice a1 n1 c1) ∧ w'.cell? ⟨w.heap.size + 1 + 1, 2, none⟩ = some (.slice a2 nb c2))
    (first
      | with_reducible exact ⟨x0, x1, m0, m1, m2⟩
      | (simp only [cell_drew]; with_reducible exact ⟨x0, x1, m0, m1, m2⟩)
      | (simp only [cell_drew]; with_reducible exact ⟨y0, y1, z0, z1, z2⟩)
      | (simp only [cell_drew]; with_reducible exact ⟨p0, p1, q0, q1, q2⟩)
      | (with_reducible exact ⟨y0, y1, z0, z1, z2⟩)
      | (with_reducible exact ⟨p0, p1, q0, q1, q2⟩))
    (fail)
  all_goals go_wp2_with fail
  all_goals
    have GA := hide (set2_grown (grow_refl w1 (some (w.heap.size + 1))) (.int .i64 ses) (.int .i64 nx))
    have GB := hide (grow_drew (set3_grown (grow_refl (set2 w1 (w.heap.size + 1) (.int .i64 ses) (.int .i64 nx)) (some (w.heap.size + 1 + 1))) (.int .i64 kd) (.slice a1 n1 c1) (.slice a2 nb c2)))
    have IF := hide ((HI1.out.grownBy GA.out (fun h p hp e => by have h1 := H1.out h p hp; have h2 : w.heap.size + 1 = p.block := Option.some.inj e; omega)).grownBy GB.out (fun h p hp e => by have h1 := H1.out h p hp; have h2 : w.heap.size + 1 + 1 = p.block := Option.some.inj e; omega))
    have KF := hide ((HK1.out.grownBy GA.out (fun h p hp e => by have h1 := H2.out h p hp; have h2 : w.heap.size + 1 = p.block := Option.some.inj e; omega)).grownBy GB.out (fun h p hp e => by have h1 := H2.out h p hp; have h2 : w.heap.size + 1 + 1 = p.block := Option.some.inj e; omega))
    have BF := hide ((set3_below (set2_below BL1.out (g := w.heap.size + 1) (by omega) (.int .i64 ses) (.int .i64 nx)) (g := w.heap.size + 1 + 1) (by omega) (.int .i64 kd) (.slice a1 n1 c1) (.slice a2 nb c2)).drew)
    have OF := hide (World.ownsRow.mono (own_under (own_under O2.out GA.out (by omega)) GB.out (by omega)) (show w.heap.size ≤ W0.heap.size + 1 by omega))
    exact bodyPost_ret (v := .tuple #[.agg #[.int .i64 ses, .int .i64 nx], .agg #[.int .i64 kd, .slice a1 n1 c1, .slice a2 nb c2], .bool came, vb, .nilIface]) (by simp [results, Try.results11, go_sem, p0, p1, q0, q1, q2]) rfl (hP.out _ _ OF.out IF.out KF.out BF.out)

set_option maxHeartbeats 16000000 in
set_option maxRecDepth 100000 in
theorem lreceive_err (ses want : Int) (a : Option Addr) (len cap : Nat) (w : World) (hb : Mx.badN ses ∨ Mx.badN want) :
    Calls Try.prog 11 #[.agg #[.int .i64 ses, .int .i64 want], .slice a len cap] w fun e w' => e = .returned (.tuple #[.agg #[.int .i64 0, .int .i64 0], .agg #[.int .i64 0, .slice none 0 0, .slice none 0 0], .bool false, .slice none 0 0, .iface 28 (.int .i64 1)]) ∧ Below w.heap.size w w' := by
  obtain ⟨W0, hW0⟩ : ∃ W0 : World, Hid (W0 = ((w.alloc (.cells #[.int .i64 ses, .int .i64 want] 26)).alloc (.cells #[.int .i64 0, .int .i64 0] 26)).alloc (.cells #[.int .i64 0, .slice none 0 0, .slice none 0 0] 40)) := ⟨_, rfl⟩
  have X0 := hide (show Bx W0 w.heap.size #[.int .i64 ses, .int .i64 want] 26 by rw [hW0.out]; exact ((Bx.new w _ _).alloc _).alloc _)
  have N0 := hide (show Bx W0 (w.heap.size + 1) #[.int .i64 0, .int .i64 0] 26 by
    rw [hW0.out]
    have h := (Bx.new (w.alloc (.cells #[.int .i64 ses, .int .i64 want] 26)) #[.int .i64 0, .int .i64 0] 26).alloc (.cells #[.int .i64 0, .slice none 0 0, .slice none 0 0] 40)
    rw [World.size_alloc] at h
    exact h)
  have M0 := hide (show Bx W0 (w.heap.size + 1 + 1) #[.int .i64 0, .slice none 0 0, .slice none 0 0] 40 by
    rw [hW0.out]
    have h := Bx.new ((w.alloc (.cells #[.int .i64 ses, .int .i64 want] 26)).alloc (.cells #[.int .i64 0, .int .i64 0] 26)) #[.int .i64 0, .slice none 0 0, .slice none 0 0] 40
    rw [World.size_alloc, World.size_alloc] at h
    exact h)
  have S0 := hide (show W0.heap.size = w.heap.size + 3 by rw [hW0.out]; simp)
  have D0 := hide (show Below w.heap.size w W0 by rw [hW0.out]; exact ((below_alloc _ _).alloc (by simp) _).alloc (by simp; omega) _)
  obtain ⟨W1, hW1⟩ : ∃ W1 : World, Hid (W1 = W0.alloc (.cells #[.int .i64 ses, .int .i64 want] 3)) := ⟨_, rfl⟩
  have Z1 := hide (show Bx W1 W0.heap.size #[.int .i64 ses, .int .i64 want] 3 by rw [hW1.out]; exact Bx.new W0 _ _)
  have D1 := hide (show Below W0.heap.size W0 W1 by rw [hW1.out]; exact below_alloc _ _)
  have X1 := hide (X0.out.later D1.out X0.out.lt)
  have N1 := hide (N0.out.later D1.out N0.out.lt)
  have M1 := hide (M0.out.later D1.out M0.out.lt)
  have B1 := hide (D0.out.trans (D1.out.mono D0.out.size))
  have I1 := hide (show Ints W1 (some ⟨W0.heap.size, 0, none⟩) 2 [ses, want] from ⟨rfl, by rw [maxLen_val]; omega, fun _ => ⟨W0.heap.size, 0, rfl, Z1.out.lt, fun i hi => by
    match i, hi with
    | 0, _ => exact Z1.out.cell 0
    | 1, _ => exact Z1.out.cell 1⟩⟩)
  go_enter Try.func11, Try.ntmps11
  change TailG Try.f11 _ 0 _ w
  refine tailG_step rfl ?_
  intro K hK
  go_wp2_with fail
  rw [← hW0.out]
  refine Met.intro (tailG_step rfl ?_)
  try clear hK K
  intro K hK
  obtain ⟨x0, x1⟩ := X0.out.pair
  go_wp2_with fail
  rw [← hW1.out]
  refine (checkNumbers_any (some ⟨W0.heap.size, 0, none⟩) 2 2 [ses, want] W1 I1.out (by omega)).mono ?_
  rintro e wz ⟨rfl, hz⟩
  obtain rfl := hz.symm
  clear hz x0 x1
  have HB := hide (show Mx.nbad [ses, want] = 1 by rw [Mx.nbad_two, if_pos hb])
  have he1 : errV 1 = .iface 28 (.int .i64 1) := rfl
  rw [HB.out, he1]
  clear hb
  obtain ⟨n0, n1⟩ := N1.out.pair
  have nz := N1.out.frozen
  obtain ⟨m0, m1, m2⟩ := M1.out.three
  have mz := M1.out.frozen
  go_wp2_with fail
  have NF := hide ((N1.out.two_set (.int .i64 0) (.int .i64 0)).far3 (g := w.heap.size + 1 + 1) (by omega) (.int .i64 0) (.slice none 0 0) (.slice none 0 0))
  have M2 := hide (show Bx (set2 W1 (w.heap.size + 1) (.int .i64 0) (.int .i64 0)) (w.heap.size + 1 + 1) #[.int .i64 0, .slice none 0 0, .slice none 0 0] 40 from (M1.out.other _ _ (by simp)).other _ _ (by simp))
  obtain ⟨t0, t1⟩ := NF.out.pair
  obtain ⟨r0, r1, r2⟩ := (M2.out.three_set (.int .i64 0) (.slice none 0 0) (.slice none 0 0)).three
  unfold set3 at t0 t1
  unfold set2 at r0 r1 r2
  exact bodyPost_ret (v := .tuple #[.agg #[.int .i64 0, .int .i64 0], .agg #[.int .i64 0, .slice none 0 0, .slice none 0 0], .bool false, .slice none 0 0, .iface 28 (.int .i64 1)]) (by simp [results, Try.results11, go_sem, t0, t1, r0, r1, r2]) rfl ⟨rfl, set3_below (set2_below B1.out (by omega) _ _) (by omega) _ _ _⟩

set_option maxHeartbeats 16000000 in
set_option maxRecDepth 100000 in
theorem lreceive_any (ses want : Int) (a : Option Addr) (len cap : Nat) (l : List Int) (w : World) (hl : Bytes w a len l) (hlen : len ≤ 2000) (hcap : len ≤ cap) (hs0 : 0 ≤ ses) (hs1 : ses ≤ 2147483647) (hw0 : 0 ≤ want) (hw1 : want ≤ 2147483647) :
    Calls Try.prog 11 #[.agg #[.int .i64 ses, .int .i64 want], .slice a len cap] w fun e w' => Rcvd w w' l ses want e := by
  have HL := hide hl
  clear hl
  obtain ⟨W0, hW0⟩ : ∃ W0 : World, Hid (W0 = ((w.alloc (.cells #[.int .i64 ses, .int .i64 want] 26)).alloc (.cells #[.int .i64 0, .int .i64 0] 26)).alloc (.cells #[.int .i64 0, .slice none 0 0, .slice none 0 0] 40)) := ⟨_, rfl⟩
  have X0 := hide (show Bx W0 w.heap.size #[.int .i64 ses, .int .i64 want] 26 by rw [hW0.out]; exact ((Bx.new w _ _).alloc _).alloc _)
  have N0 := hide (show Bx W0 (w.heap.size + 1) #[.int .i64 0, .int .i64 0] 26 by
    rw [hW0.out]
    have h := (Bx.new (w.alloc (.cells #[.int .i64 ses, .int .i64 want] 26)) #[.int .i64 0, .int .i64 0] 26).alloc (.cells #[.int .i64 0, .slice none 0 0, .slice none 0 0] 40)
    rw [World.size_alloc] at h
    exact h)
  have M0 := hide (show Bx W0 (w.heap.size + 1 + 1) #[.int .i64 0, .slice none 0 0, .slice none 0 0] 40 by
    rw [hW0.out]
    have h := Bx.new ((w.alloc (.cells #[.int .i64 ses, .int .i64 want] 26)).alloc (.cells #[.int .i64 0, .int .i64 0] 26)) #[.int .i64 0, .slice none 0 0, .slice none 0 0] 40
    rw [World.size_alloc, World.size_alloc] at h
    exact h)
  have S0 := hide (show W0.heap.size = w.heap.size + 3 by rw [hW0.out]; simp)
  have D0 := hide (show Below w.heap.size w W0 by rw [hW0.out]; exact ((below_alloc _ _).alloc (by simp) _).alloc (by simp; omega) _)
  obtain ⟨W1, hW1⟩ : ∃ W1 : World, Hid (W1 = W0.alloc (.cells #[.int .i64 ses, .int .i64 want] 3)) := ⟨_, rfl⟩
  have Z1 := hide (show Bx W1 W0.heap.size #[.int .i64 ses, .int .i64 want] 3 by rw [hW1.out]; exact Bx.new W0 _ _)
  have D1 := hide (show Below W0.heap.size W0 W1 by rw [hW1.out]; exact below_alloc _ _)
  have X1 := hide (X0.out.later D1.out X0.out.lt)
  have N1 := hide (N0.out.later D1.out N0.out.lt)
  have M1 := hide (M0.out.later D1.out M0.out.lt)
  have B1 := hide (D0.out.trans (D1.out.mono D0.out.size))
  have I1 := hide (show Ints W1 (some ⟨W0.heap.size, 0, none⟩) 2 [ses, want] from ⟨rfl, by rw [maxLen_val]; omega, fun _ => ⟨W0.heap.size, 0, rfl, Z1.out.lt, fun i hi => by
    match i, hi with
    | 0, _ => exact Z1.out.cell 0
    | 1, _ => exact Z1.out.cell 1⟩⟩)
  go_enter Try.func11, Try.ntmps11
  change TailG Try.f11 _ 0 _ w
  refine tailG_step rfl ?_
  intro K hK
  go_wp2_with fail
  rw [← hW0.out]
  refine Met.intro (tailG_step rfl ?_)
  try clear hK K
  intro K hK
  obtain ⟨x0, x1⟩ := X0.out.pair
  go_wp2_with fail
  rw [← hW1.out]
  refine (checkNumbers_any (some ⟨W0.heap.size, 0, none⟩) 2 2 [ses, want] W1 I1.out (by omega)).mono ?_
  rintro e wz ⟨rfl, hz⟩
  obtain rfl := hz.symm
  clear hz x0 x1
  have HB := hide (show Mx.nbad [ses, want] = 0 by rw [Mx.nbad_two, if_neg (by unfold Mx.badN; omega)])
  rw [HB.out, errV_zero]
  go_wp2_with fail
  refine Met.intro (tailG_step rfl ?_)
  try clear hK K
  intro K hK
  obtain ⟨x0, x1⟩ := X1.out.pair
  go_wp2_with fail
  refine (lunwrap_any ses a len cap l W1 (HL.out.later B1.out) hlen hcap).mono ?_
  rintro e w2 ⟨x, v, ok, rfl, hA, hB⟩
  have S1 := hide (show W1.heap.size = w.heap.size + 4 by rw [hW1.out]; simp; exact S0.out)
  have X2 := hide (X1.out.later hB.out X1.out.lt)
  have N2 := hide (N1.out.later hB.out N1.out.lt)
  have M2 := hide (M1.out.later hB.out M1.out.lt)
  have B2 := hide (B1.out.trans (hB.out.mono B1.out.size))
  clear x0 x1
  rcases hA.out with ⟨rfl, kd, nm, nb, bs, hM, hFR⟩ | ⟨rfl, rfl, rfl, hno⟩
  · have HM := hide hM
    obtain ⟨a1, n1, c1, a2, c2, rfl, hI, hK2, hc1, hc2, hp1, hp2⟩ := hFR
    obtain ⟨W3, hW3⟩ : ∃ W3 : World, Hid (W3 = w2.alloc (.cells #[.int .i64 kd, .slice a1 n1 c1, .slice a2 nb c2] 40)) := ⟨_, rfl⟩
    have D3 := hide (show Below w2.heap.size w2 W3 by rw [hW3.out]; exact below_alloc _ _)
    have F3 := hide (show Bx W3 w2.heap.size #[.int .i64 kd, .slice a1 n1 c1, .slice a2 nb c2] 40 by rw [hW3.out]; exact Bx.new w2 _ _)
    have X3 := hide (X2.out.later D3.out X2.out.lt)
    have N3 := hide (N2.out.later D3.out N2.out.lt)
    have M3 := hide (M2.out.later D3.out M2.out.lt)
    have B3 := hide (B2.out.trans (D3.out.mono B2.out.size))
    have I3 := hide (hI.later D3.out)
    have K3 := hide (hK2.later D3.out)
    have P1 := hide (show 0 < n1 → ∀ p, a1 = some p → w.heap.size + 3 ≤ p.block from fun h p hp => by have h1 := hp1 h p hp; have h2 := S1.out; omega)
    have P2 := hide (show 0 < nb → ∀ p, a2 = some p → w.heap.size + 3 ≤ p.block from fun h p hp => by have h1 := hp2 h p hp; have h2 := S1.out; omega)
    have C1 := hide hc1
    have C2 := hide hc2
    have hs2 : w.heap.size + 4 ≤ w2.heap.size := by have h1 := hB.out.size; have h2 := S1.out; omega
    clear hI hK2 hc1 hc2 hp1 hp2 hM hA
    go_wp2_with fail
    rw [← hW3.out]
    refine Met.intro (tailG_step rfl ?_)
    try clear hK K
    intro K hK
    go_wp2_with fail
    refine Met.intro (tailG_step rfl ?_)
    try clear hK K
    intro K hK
    obtain ⟨x0, x1⟩ := X3.out.pair
    obtain ⟨n0, n1_⟩ := N3.out.pair
    have nz := N3.out.frozen
    obtain ⟨W4, hW4⟩ : ∃ W4 : World, Hid (W4 = set2 W3 (w.heap.size + 1) (.int .i64 ses) (.int .i64 want)) := ⟨_, rfl⟩
    have G4 := hide (show W3.grownBy W4 (some (w.heap.size + 1)) by rw [hW4.out]; exact set2_grown (grow_refl _ _) _ _)
    have N4 := hide (show Bx W4 (w.heap.size + 1) #[.int .i64 ses, .int .i64 want] 26 by rw [hW4.out]; exact N3.out.two_set _ _)
    have X4 := hide (show Bx W4 w.heap.size #[.int .i64 ses, .int .i64 want] 26 from (G4.out.block _ X3.out.lt (by simp)).trans X3.out)
    have M4 := hide (show Bx W4 (w.heap.size + 1 + 1) #[.int .i64 0, .slice none 0 0, .slice none 0 0] 40 from (G4.out.block _ M3.out.lt (by simp)).trans M3.out)
    have F4 := hide (show Bx W4 w2.heap.size #[.int .i64 kd, .slice a1 n1 c1, .slice a2 nb c2] 40 from (G4.out.block _ F3.out.lt (by simp; omega)).trans F3.out)
    have I4 := hide (I3.out.grownBy G4.out (fun h p hp e => by have h1 := P1.out h p hp; have h2 : w.heap.size + 1 = p.block := Option.some.inj e; omega))
    have K4 := hide (K3.out.grownBy G4.out (fun h p hp e => by have h1 := P2.out h p hp; have h2 : w.heap.size + 1 = p.block := Option.some.inj e; omega))
    have B4 := hide (show Below w.heap.size w W4 by rw [hW4.out]; exact set2_below B3.out (by omega) _ _)
    go_wp2_with fail
    unfold set2 at hW4
    rw [← hW4.out]
    clear x0 x1 n0 n1_ nz
    refine Met.intro (tailG_step rfl ?_)
    try clear hK K
    intro K hK
    obtain ⟨x0, x1⟩ := X4.out.pair
    by_cases hx : x = want
    · have dx : (x == want) = true := by simpa using hx
      have HX := hide hx
      clear hx
      by_cases hm : want < 2147483647
      · have dm : decide (want < 2147483647) = true := by simpa using hm
        obtain ⟨n0, n1_⟩ := N4.out.pair
        obtain ⟨m0, m1, m2⟩ := M4.out.three
        obtain ⟨f0, f1, f2⟩ := F4.out.three
        have nz := N4.out.frozen
        have mz := M4.out.frozen
        have hwk : IntKind.i64.wrap (want + 1) = want + 1 := by rw [IntWalk.i64_left, IntWalk.wrap64_in _ (by omega)]
        have hff : ¬ w.heap.size + 1 = w2.heap.size := by omega
        have hfg : ¬ w.heap.size + 1 = w.heap.size + 1 + 1 := by omega
        have hfx : ¬ w.heap.size + 1 = w.heap.size := by omega
        have hfy : ¬ w.heap.size + 1 + 1 = w.heap.size := by omega
        have hfz : ¬ w.heap.size + 1 + 1 = w2.heap.size := by omega
        go_upto_region 9 with fail
        go_region_held3 (fun w' => w'.cell? ⟨w.heap.size, 1, none⟩ = some (.int .i64 want) ∧ w'.cell? ⟨w2.heap.size, 0, none⟩ = some (.int .i64 kd) ∧ w'.cell? ⟨w2.heap.size, 1, none⟩ = some (.slice a1 n1 c1) ∧ w'.cell? ⟨w2.heap.size, 2, none⟩ = some (.slice a2 nb c2))
          (first
            | with_reducible exact ⟨x1, f0, f1, f2⟩
            | (simp only [cell_drew]; with_reducible exact ⟨x1, f0, f1, f2⟩)
            | (simp only [cell_set_far hff, cell_set_far hfx, cell_set_far hfy, cell_set_far hfz, cell_drew]; with_reducible exact ⟨x1, f0, f1, f2⟩))
          (fail)
        all_goals go_wp2_with fail
        all_goals
          obtain ⟨W5, hW5⟩ : ∃ W5 : World, Hid (W5 = W4.setCell ⟨w.heap.size + 1, 1, none⟩ (.int .i64 (want + 1))) := ⟨_, rfl⟩
          obtain ⟨W6, hW6⟩ : ∃ W6 : World, Hid (W6 = (set3 W5 (w.heap.size + 1 + 1) (.int .i64 kd) (.slice a1 n1 c1) (.slice a2 nb c2)).drew) := ⟨_, rfl⟩
          have G5 := hide (show W4.grownBy W5 (some (w.heap.size + 1)) by rw [hW5.out]; exact grow_set (grow_refl _ _) _ _)
          have G6 := hide (show W5.grownBy W6 (some (w.heap.size + 1 + 1)) by rw [hW6.out]; exact grow_drew (set3_grown (grow_refl _ _) _ _ _))
          have N5 := hide (show Bx W5 (w.heap.size + 1) #[.int .i64 ses, .int .i64 (want + 1)] 26 by rw [hW5.out]; exact N4.out.set 1 _)
          have N6 := hide (show Bx W6 (w.heap.size + 1) #[.int .i64 ses, .int .i64 (want + 1)] 26 from (G6.out.block _ N5.out.lt (by simp)).trans N5.out)
          have M5 := hide (show Bx W5 (w.heap.size + 1 + 1) #[.int .i64 0, .slice none 0 0, .slice none 0 0] 40 from (G5.out.block _ M4.out.lt (by simp)).trans M4.out)
          have M6 := hide (show Bx W6 (w.heap.size + 1 + 1) #[.int .i64 kd, .slice a1 n1 c1, .slice a2 nb c2] 40 by rw [hW6.out]; exact M5.out.three_set _ _ _)
          have I6 := hide ((I4.out.grownBy G5.out (fun h p hp e => by have h1 := P1.out h p hp; have h2 : w.heap.size + 1 = p.block := Option.some.inj e; omega)).grownBy G6.out (fun h p hp e => by have h1 := P1.out h p hp; have h2 : w.heap.size + 1 + 1 = p.block := Option.some.inj e; omega))
          have K6 := hide ((K4.out.grownBy G5.out (fun h p hp e => by have h1 := P2.out h p hp; have h2 : w.heap.size + 1 = p.block := Option.some.inj e; omega)).grownBy G6.out (fun h p hp e => by have h1 := P2.out h p hp; have h2 : w.heap.size + 1 + 1 = p.block := Option.some.inj e; omega))
          have B6 := hide (show Below w.heap.size w W6 by rw [hW6.out, hW5.out]; exact (set3_below (B4.out.setCell (p := ⟨w.heap.size + 1, 1, none⟩) (by simp) _) (by omega) _ _ _).drew)
          unfold set3 at hW6
          rw [← hW5.out, ← hW6.out]
          refine Met.intro (lrc6 hs0 hs1 (by omega) (by omega) B6 N6 M6 I6 K6 P1 P2 (hide ?_))
          intro w' vb ho hi hk hb
          exact ⟨.inl ⟨kd, nm, nb, bs, _, vb, by have h1 := HM.out; rw [HX.out] at h1; exact h1, hm, rfl, ⟨a1, n1, c1, a2, c2, rfl, hi, hk, C1.out, C2.out, fun h p hp => by have h1 := P1.out h p hp; omega, fun h p hp => by have h1 := P2.out h p hp; omega⟩, ho⟩, hb⟩
      · have dm : decide (want < 2147483647) = false := by simpa using hm
        go_wp2_with fail
        refine Met.intro (lrc6 hs0 hs1 hw0 hw1 B4 N4 M4 (nm := []) (bs := []) (hide ⟨rfl, by rw [maxLen_val]; omega, fun h => absurd h (by omega)⟩) (hide ⟨rfl, by rw [maxLen_val]; omega, fun _ h => (by cases h), fun h => absurd h (by omega)⟩) (hide (fun h => absurd h (by omega))) (hide (fun h => absurd h (by omega))) (hide ?_))
        intro w' vb ho _ _ hb
        exact ⟨.inr (.inl ⟨x, kd, nm, nb, bs, vb, HM.out, fun h => (by have := h.2; omega), rfl, ho⟩), hb⟩
    · have dx : (x == want) = false := by simpa using hx
      have HX := hide hx
      clear hx
      go_wp2_with fail
      refine Met.intro (lrc6 hs0 hs1 hw0 hw1 B4 N4 M4 (nm := []) (bs := []) (hide ⟨rfl, by rw [maxLen_val]; omega, fun h => absurd h (by omega)⟩) (hide ⟨rfl, by rw [maxLen_val]; omega, fun _ h => (by cases h), fun h => absurd h (by omega)⟩) (hide (fun h => absurd h (by omega))) (hide (fun h => absurd h (by omega))) (hide ?_))
      intro w' vb ho _ _ hb
      exact ⟨.inr (.inl ⟨x, kd, nm, nb, bs, vb, HM.out, fun h => HX.out h.1, rfl, ho⟩), hb⟩
  · have HNO := hide hno
    obtain ⟨W3, hW3⟩ : ∃ W3 : World, Hid (W3 = w2.alloc (.cells #[.int .i64 0, .slice none 0 0, .slice none 0 0] 40)) := ⟨_, rfl⟩
    have D3 := hide (show Below w2.heap.size w2 W3 by rw [hW3.out]; exact below_alloc _ _)
    have X3 := hide (X2.out.later D3.out X2.out.lt)
    have N3 := hide (N2.out.later D3.out N2.out.lt)
    have M3 := hide (M2.out.later D3.out M2.out.lt)
    have B3 := hide (B2.out.trans (D3.out.mono B2.out.size))
    clear hA hno
    go_wp2_with fail
    rw [← hW3.out]
    refine Met.intro (tailG_step rfl ?_)
    try clear hK K
    intro K hK
    obtain ⟨x0, x1⟩ := X3.out.pair
    obtain ⟨n0, n1⟩ := N3.out.pair
    have nz := N3.out.frozen
    obtain ⟨m0, m1, m2⟩ := M3.out.three
    have mz := M3.out.frozen
    go_wp2_with fail
    have NF := hide ((N3.out.two_set (.int .i64 ses) (.int .i64 want)).far3 (g := w.heap.size + 1 + 1) (by omega) (.int .i64 0) (.slice none 0 0) (.slice none 0 0))
    have MF := hide (show Bx (set2 W3 (w.heap.size + 1) (.int .i64 ses) (.int .i64 want)) (w.heap.size + 1 + 1) #[.int .i64 0, .slice none 0 0, .slice none 0 0] 40 from (M3.out.other _ _ (by simp)).other _ _ (by simp))
    obtain ⟨t0, t1⟩ := NF.out.pair
    obtain ⟨r0, r1, r2⟩ := (MF.out.three_set (.int .i64 0) (.slice none 0 0) (.slice none 0 0)).three
    unfold set3 at t0 t1
    unfold set2 at r0 r1 r2
    exact bodyPost_ret (v := .tuple #[.agg #[.int .i64 ses, .int .i64 want], .agg #[.int .i64 0, .slice none 0 0, .slice none 0 0], .bool false, .slice none 0 0, .nilIface]) (by simp [results, Try.results11, go_sem, t0, t1, r0, r1, r2]) rfl ⟨.inr (.inr ⟨HNO.out, rfl⟩), set3_below (set2_below B3.out (by omega) _ _) (by omega) _ _ _⟩

end Go.Proofs.Ytfgonmgmoeoedaa
