/-
  Rows of epochs as they lie in memory; more of them.
-/
import Derived.Maps.AppendAt
import Derived.Deep.RegionHeld3
import Derived.Test.YtkebmfocgalinabZDclone
import Derived.Test.YtkebmfocgalinabZDbox

namespace Go.Proofs.Ytkebmfocgalinab
open Go.RowKit

theorem PL.grownBy {w w' : World} {a : Option Addr} {n : Nat} {l : List Pt} {row : Option Nat} (h : PL w a n l) (hg : w.grownBy w' row) (hne : 0 < n → ∀ p, a = some p → row ≠ some p.block) : PL w' a n l := by
  obtain ⟨h0, h1, h2, h3⟩ := h
  refine ⟨h0, h1, h2, fun hp => ?_⟩
  obtain ⟨b, off, ha, hlt, hc⟩ := h3 hp
  exact ⟨b, off, ha, by have := hg.size; omega, fun j u hj => hg.cell (hc j u hj) (fun e => hne hp _ ha e.symm)⟩
theorem PL.drewN {w : World} {a : Option Addr} {n : Nat} {l : List Pt} (h : PL w a n l) (q : Nat) : PL (w.drewN q) a n l := h.later (below_drewN (Below.refl _ _) q)

/-- epochs, read -/
def EL (w : World) (a : Option Addr) (k : Nat) (es : List Ep) : Prop :=
  es.length = k ∧ k ≤ maxLen ∧ (0 < k → ∃ b off, a = some ⟨b, off, none⟩ ∧ b < w.heap.size ∧ ∀ i e, es[i]? = some e → ∃ ai ni ci, w.cell? ⟨b, off + i * 2, none⟩ = some (.int .i64 e.num) ∧ w.cell? ⟨b, off + i * 2 + 1, none⟩ = some (.slice ai ni ci) ∧ PL w ai ni e.puts ∧ ni ≤ ci)
theorem EL.nil (w : World) : EL w none 0 [] := ⟨rfl, by unfold maxLen; omega, fun h => absurd h (by omega)⟩
theorem EL.later {w w' : World} {a : Option Addr} {k : Nat} {es : List Ep} (h : EL w a k es) (hb : Below w.heap.size w w') : EL w' a k es := by
  obtain ⟨h1, h2, h4⟩ := h
  refine ⟨h1, h2, fun hp => ?_⟩
  obtain ⟨b, off, ha, hlt, hc⟩ := h4 hp
  refine ⟨b, off, ha, by have := hb.size; omega, fun i e he => ?_⟩
  obtain ⟨ai, ni, ci, c1, c2, c3, c4⟩ := hc i e he
  exact ⟨ai, ni, ci, (hb.cell (p := ⟨b, off + i * 2, none⟩) hlt).trans c1, (hb.cell (p := ⟨b, off + i * 2 + 1, none⟩) hlt).trans c2, c3.later hb, c4⟩
theorem EL.drewN {w : World} {a : Option Addr} {n : Nat} {l : List Ep} (h : EL w a n l) (q : Nat) : EL (w.drewN q) a n l := h.later (below_drewN (Below.refl _ _) q)
theorem EL.at_ {w : World} {a : Option Addr} {k : Nat} {es : List Ep} (h : EL w a k es) (i : Nat) (hi : i < k) :
    ∃ b off e ai ni ci, a = some ⟨b, off, none⟩ ∧ b < w.heap.size ∧ es[i]? = some e ∧ w.cell? ⟨b, off + i * 2, none⟩ = some (.int .i64 e.num) ∧ w.cell? ⟨b, off + i * 2 + 1, none⟩ = some (.slice ai ni ci) ∧ PL w ai ni e.puts ∧ ni ≤ ci := by
  obtain ⟨h1, h2, h4⟩ := h
  obtain ⟨b, off, ha, hlt, hc⟩ := h4 (by omega)
  have hl : es[i]? = some es[i] := List.getElem?_eq_getElem (by omega)
  obtain ⟨ai, ni, ci, c1, c2, c3⟩ := hc i _ hl
  exact ⟨b, off, es[i], ai, ni, ci, ha, hlt, hl, c1, c2, c3⟩
theorem EL.drop {w : World} {b off : Nat} {k : Nat} {es : List Ep} (h : EL w (some ⟨b, off, none⟩) k es) (j : Nat) (hj : j ≤ k) : EL w (some ⟨b, off + j * 2, none⟩) (k - j) (es.drop j) := by
  obtain ⟨h1, h2, h4⟩ := h
  refine ⟨by rw [List.length_drop, h1], by omega, fun hp => ?_⟩
  obtain ⟨b', off', ha, hlt, hc⟩ := h4 (by omega)
  simp only [Option.some.injEq, Addr.mk.injEq, and_true] at ha
  obtain ⟨rfl, rfl⟩ := ha
  refine ⟨b, off + j * 2, rfl, hlt, fun i e he => ?_⟩
  rw [List.getElem?_drop] at he
  obtain ⟨ai, ni, ci, c1, c2, c3⟩ := hc (j + i) e he
  rw [show off + (j + i) * 2 = off + j * 2 + i * 2 by rw [Nat.add_mul]; omega] at c1 c2
  exact ⟨ai, ni, ci, c1, c2, c3⟩

/-- epochs, read, all of it in blocks from B on -/
def ELA (B : Nat) (w : World) (a : Option Addr) (k : Nat) (es : List Ep) : Prop :=
  es.length = k ∧ k ≤ maxLen ∧ (0 < k → ∃ b off, a = some ⟨b, off, none⟩ ∧ B ≤ b ∧ b < w.heap.size ∧ ∀ i e, es[i]? = some e → ∃ ai ni ci, w.cell? ⟨b, off + i * 2, none⟩ = some (.int .i64 e.num) ∧ w.cell? ⟨b, off + i * 2 + 1, none⟩ = some (.slice ai ni ci) ∧ PL w ai ni e.puts ∧ ni ≤ ci ∧ (0 < ni → ∀ p, ai = some p → B ≤ p.block))
theorem ELA.el {B : Nat} {w : World} {a : Option Addr} {k : Nat} {es : List Ep} (h : ELA B w a k es) : EL w a k es := by
  obtain ⟨h1, h2, h4⟩ := h
  refine ⟨h1, h2, fun hp => ?_⟩
  obtain ⟨b, off, ha, _, hlt, hc⟩ := h4 hp
  refine ⟨b, off, ha, hlt, fun i e he => ?_⟩
  obtain ⟨ai, ni, ci, c1, c2, c3, c4, _⟩ := hc i e he
  exact ⟨ai, ni, ci, c1, c2, c3, c4⟩
theorem ELA.later {B : Nat} {w w' : World} {a : Option Addr} {k : Nat} {es : List Ep} (h : ELA B w a k es) (hb : Below w.heap.size w w') : ELA B w' a k es := by
  obtain ⟨h1, h2, h4⟩ := h
  refine ⟨h1, h2, fun hp => ?_⟩
  obtain ⟨b, off, ha, hB, hlt, hc⟩ := h4 hp
  refine ⟨b, off, ha, hB, by have := hb.size; omega, fun i e he => ?_⟩
  obtain ⟨ai, ni, ci, c1, c2, c3, c4⟩ := hc i e he
  exact ⟨ai, ni, ci, (hb.cell (p := ⟨b, off + i * 2, none⟩) hlt).trans c1, (hb.cell (p := ⟨b, off + i * 2 + 1, none⟩) hlt).trans c2, c3.later hb, c4⟩
/-- a block below B may be written into -/
theorem ELA.grown {B g : Nat} {w w' : World} {a : Option Addr} {k : Nat} {es : List Ep} (h : ELA B w a k es) (hg : w.grownBy w' (some g)) (hB : g < B) : ELA B w' a k es := by
  obtain ⟨h1, h2, h4⟩ := h
  refine ⟨h1, h2, fun hp => ?_⟩
  obtain ⟨b, off, ha, hb, hlt, hc⟩ := h4 hp
  have hne : ∀ o, some (⟨b, o, none⟩ : Addr).block ≠ some g := fun o e => by have : b = g := Option.some.inj e; omega
  refine ⟨b, off, ha, hb, by have := hg.size; omega, fun i e he => ?_⟩
  obtain ⟨ai, ni, ci, c1, c2, c3, c4, c5⟩ := hc i e he
  exact ⟨ai, ni, ci, hg.cell c1 (hne _), hg.cell c2 (hne _), c3.grownBy hg (fun h0 p hp e => by have := c5 h0 p hp; have : g = p.block := Option.some.inj e; omega), c4, c5⟩

/-- what n cells say of epochs -/
def Eps (B : Nat) (w : World) (vs : List Value) (es : List Ep) (row : Option Nat) : Prop :=
  ∀ (i : Nat) (e : Ep), es[i]? = some e → ∃ (a : Option Addr) (n c : Nat), vs[i * 2]? = some (.int .i64 e.num) ∧ vs[i * 2 + 1]? = some (.slice a n c) ∧ PL w a n e.puts ∧ n ≤ c ∧ (0 < n → ∀ p, a = some p → row ≠ some p.block ∧ B ≤ p.block)
/-- epochs in a row of the call's own; their puts lie elsewhere, from B on -/
def OwnEL (B : Nat) (w : World) (base : Nat) (v : Value) (es : List Ep) : Prop := ∃ vs : List Value, w.ownsRow base 42 2 v es.length vs ∧ Eps B w vs es v.ownBlock
theorem Try.info42 : (Try.prog.info? 42).map (fun i => (i.zero, i.size, i.bytes)) = some (some (.agg #[.int .i64 0, .slice none 0 0]), 2, 32) := by kernel_rfl

theorem OwnEL.nil (B : Nat) (w : World) (base : Nat) : OwnEL B w base (.slice none 0 0) [] := ⟨[], World.ownsRow_nil w base _ 2, fun i e he => by simp at he⟩
theorem OwnEL.later {B : Nat} {w w' : World} {base : Nat} {v : Value} {es : List Ep} (h : OwnEL B w base v es) (hb : Below w.heap.size w w') : OwnEL B w' base v es := by
  obtain ⟨vs, h1, h2⟩ := h
  refine ⟨vs, rowKept h1 hb, fun i e he => ?_⟩
  obtain ⟨a, n, c, e1, e2, e3, e4⟩ := h2 i e he
  exact ⟨a, n, c, e1, e2, e3.later hb, e4⟩
theorem OwnEL.mono {B : Nat} {w : World} {base base' : Nat} {v : Value} {es : List Ep} (h : OwnEL B w base v es) (hb : base' ≤ base) : OwnEL B w base' v es := by
  obtain ⟨vs, h1, h2⟩ := h
  exact ⟨vs, World.ownsRow.mono h1 hb, h2⟩
theorem OwnEL.lt {B : Nat} {w : World} {base : Nat} {v : Value} {es : List Ep} (h : OwnEL B w base v es) : ∀ k, v.ownBlock = some k → base ≤ k ∧ k < w.heap.size := by
  obtain ⟨vs, h1, _⟩ := h
  exact World.ownsRow.lt h1
theorem OwnEL.el {B : Nat} {w : World} {base : Nat} {v : Value} {es : List Ep} (h : OwnEL B w base v es) : ∃ a c, v = .slice a es.length c ∧ es.length ≤ c ∧ EL w a es.length es := by
  obtain ⟨vs, h1, h2⟩ := h
  obtain ⟨a, c, hv, hle, hr, hp⟩ := ownsRow_rowR h1
  refine ⟨a, c, hv, hle, rfl, hr.2.1, fun h0 => ?_⟩
  obtain ⟨b, off, ha, hlt, hc⟩ := hr.2.2 h0
  refine ⟨b, off, ha, hlt, fun i e he => ?_⟩
  obtain ⟨ai, ni, ci, e1, e2, e3, e4, _⟩ := h2 i e he
  exact ⟨ai, ni, ci, hc _ _ e1, hc _ _ e2, e3, e4⟩

theorem eps_after {w w' : World} {B base m : Nat} {v v' : Value} {es es2 : List Ep} {vs news : List Value} (h1 : w.ownsRow base 42 2 v es.length vs) (h2 : Eps B w vs es v.ownBlock) (hes : Eps B w news es2 v.ownBlock) (hm : es2.length = m)
    (hown' : w'.ownsRow base 42 2 v' (es.length + m) (vs ++ news)) (hg : w.grownBy w' v.ownBlock) (hat : v'.ownBlock = v.ownBlock ∨ v'.ownBlock = some w.heap.size) : OwnEL B w' base v' (es ++ es2) := by
  have hvne : ∀ (p : Addr), p.block < w.heap.size → v.ownBlock ≠ some p.block → v'.ownBlock ≠ some p.block := by
    intro p hlt hne e
    rcases hat with h | h
    · exact hne (h.symm.trans e)
    · rw [h] at e
      simp at e
      omega
  have hvl : vs.length = es.length * 2 := h1.1
  refine ⟨vs ++ news, by rw [List.length_append, hm]; exact hown', fun i e he => ?_⟩
  have fin : ∀ {a' : Option Addr} {n' : Nat} {l : List Pt}, PL w a' n' l → (0 < n' → ∀ p, a' = some p → v.ownBlock ≠ some p.block ∧ B ≤ p.block) → PL w' a' n' l ∧ (0 < n' → ∀ p, a' = some p → v'.ownBlock ≠ some p.block ∧ B ≤ p.block) := by
    intro a' n' l hp hne
    refine ⟨hp.grownBy hg (fun h0 p hpa => (hne h0 p hpa).1), fun h0 p hpa => ⟨?_, (hne h0 p hpa).2⟩⟩
    obtain ⟨b, off, ha, hlt, _⟩ := hp.2.2.2 h0
    have hpa' := hpa
    rw [ha] at hpa
    cases hpa
    exact hvne _ hlt (hne h0 _ hpa').1
  by_cases hi' : i < es.length
  · rw [List.getElem?_append_left hi'] at he
    obtain ⟨a', n', c', e1, e2, e3, e4, e5⟩ := h2 i e he
    have hf := fin e3 e5
    exact ⟨a', n', c', by rw [List.getElem?_append_left (by omega)]; exact e1, by rw [List.getElem?_append_left (by omega)]; exact e2, hf.1, e4, hf.2⟩
  · rw [List.getElem?_append_right (by omega)] at he
    obtain ⟨a', n', c', e1, e2, e3, e4, e5⟩ := hes _ e he
    have hf := fin e3 e5
    refine ⟨a', n', c', ?_, ?_, hf.1, e4, hf.2⟩
    · rw [List.getElem?_append_right (by omega), hvl, show i * 2 - es.length * 2 = (i - es.length) * 2 by omega]
      exact e1
    · rw [List.getElem?_append_right (by omega), hvl, show i * 2 + 1 - es.length * 2 = (i - es.length) * 2 + 1 by omega]
      exact e2

theorem OwnEL.ela {B : Nat} {w : World} {base : Nat} {v : Value} {es : List Ep} (h : OwnEL B w base v es) (hB : B ≤ base) : ∃ a c, v = .slice a es.length c ∧ es.length ≤ c ∧ ELA B w a es.length es := by
  obtain ⟨vs, h1, h2⟩ := h
  obtain ⟨a, c, hv, hle, hr, hp⟩ := ownsRow_rowR h1
  refine ⟨a, c, hv, hle, rfl, hr.2.1, fun h0 => ?_⟩
  obtain ⟨b, off, ha, hlt, hc⟩ := hr.2.2 h0
  have hbb : base ≤ b := hp _ ha
  refine ⟨b, off, ha, by omega, hlt, fun i e he => ?_⟩
  obtain ⟨ai, ni, ci, e1, e2, e3, e4, e5⟩ := h2 i e he
  exact ⟨ai, ni, ci, hc _ _ e1, hc _ _ e2, e3, e4, fun h0 p hp => (e5 h0 p hp).2⟩

/-- epochs more -/
theorem wpList_append_eps {w : World} {ops : Array Oper} {rest : List Oper} {o : Oper} {a : Act} {Q : Exit → Act → World → Prop} (hgd : o.guard = none) (s x : Operand)
    (ho : o.op = .call { callee := .builtin .append, args := #[s, x], argTypes := #[23, 23] }) (B base : Nat) (es : List Ep) (hown : OwnEL B w base (a.eval s) es)
    (xa : Addr) (m c : Nat) (es2 : List Ep) (news : List Value) (hx : a.eval x = .slice (some xa) m c) (hm : es2.length = m) (hl : news.length = m * 2) (hnews : ∀ j u, news[j]? = some u → w.cell? (xa.add j) = some u) (h1c : ∀ u ∈ news, u.oneCell' = true)
    (hes : Eps B w news es2 (a.eval s).ownBlock) (h63 : es.length + m ≤ 1000000) (hbase : base ≤ w.heap.size)
    (h : ∀ v' w', OwnEL B w' base v' (es ++ es2) → w.grownBy w' (a.eval s).ownBlock → wpList Try.prog ops Q rest (a.put o.dst v') w') :
    wpList Try.prog ops Q (o :: rest) a w := by
  obtain ⟨vs, h1, h2⟩ := hown
  obtain ⟨i0, hi0, hz0, hz1, hz2⟩ := info_parts Try.info42
  refine wpList_append_own_at _ hgd s x 23 ho base 42 i0 _ 2 32 Try.underlying23 hi0 hz0 hz1 hz2 rfl (by decide) (a.eval s) es.length vs rfl h1 xa m c news hx hl hnews h1c (by unfold maxLen; omega) (by omega) hbase ?_
  intro v' w' hown' hg _ hat
  exact h v' w' (eps_after h1 h2 hes hm hown' hg hat) hg

/-- one epoch more, as a step of a region that draws its order -/
theorem step_append_ep {ops : Array Oper} {o : Oper} {a : Act} {w : World} {K : Act → World → Prop} {Q : Exit → Act → World → Prop} {E : Prop} (hgd : o.guard = none) (s x : Operand)
    (ho : o.op = Op.call { callee := Callee.builtin Builtin.append, args := #[s, x], argTypes := #[23, 23] }) (B base : Nat) (es : List Ep) (hown : OwnEL B w base (a.eval s) es)
    (z : Int) (ad : Option Addr) (n c : Nat) (ps : List Pt) (hl : PL w ad n ps) (hc : n ≤ c) (hp : 0 < n → ∀ p, ad = some p → (a.eval s).ownBlock ≠ some p.block ∧ B ≤ p.block)
    (hx : a.eval x = .slice (some ⟨w.heap.size, 0, none⟩) 1 1) (h63 : es.length ≤ 100000) (hbase : base ≤ w.heap.size)
    (hK : ∀ v' w', OwnEL B w' base v' (es ++ [⟨z, ps⟩]) → w.grownBy w' (a.eval s).ownBlock → K (a.put o.dst v') w') :
    if Region.wanted o (yielded ops a.tmps) = true then Oper.wp Try.prog o a (w.alloc (.cells #[.int .i64 z, .slice ad n c] 42)) K Q else E := by
  have hw : Region.wanted o (yielded ops a.tmps) = true := by simp [Region.wanted, hgd]
  rw [if_pos hw]
  obtain ⟨vs, h1, h2⟩ := hown.later (below_alloc w (.cells #[.int .i64 z, .slice ad n c] 42))
  obtain ⟨i0, hi0, hz0, hz1, hz2⟩ := info_parts Try.info42
  obtain ⟨v', w', hr, hown', hg, _, hat⟩ := run_append_own_at (P := Try.prog) (w.alloc (.cells #[.int .i64 z, .slice ad n c] 42)) base 23 o.type 42 i0 _ 2 32 Try.underlying23 hi0 hz0 hz1 hz2 rfl (by decide) (a.eval s) es.length vs h1 ⟨w.heap.size, 0, none⟩ 1 1 [.int .i64 z, .slice ad n c] rfl (fun j u hj => by
    rw [Addr.add_lit, World.cell?_alloc_new]
    simpa using hj) (by simp [Value.oneCell']) (by unfold maxLen; omega) (by omega) (by simp; omega)
  have hes : Eps B (w.alloc (.cells #[.int .i64 z, .slice ad n c] 42)) [.int .i64 z, .slice ad n c] [⟨z, ps⟩] (a.eval s).ownBlock := by
    intro i e he
    match i, he with
    | 0, he =>
      simp at he
      subst he
      exact ⟨ad, n, c, rfl, rfl, hl.later (below_alloc _ _), hc, hp⟩
    | i + 1, he => simp at he
  unfold Oper.wp execOp
  simp only [ho, resolve, invoke, builtin, Sem.run_bind, Sem.run_pure, Result.andThen_ok, List.map_toArray, List.map_cons, List.map_nil, hx, hr]
  exact hK _ _ (eps_after h1 h2 hes rfl hown' hg hat) ⟨hg.os, hg.tape, hg.output, by have := hg.size; simp at this; omega, fun k hk hne => (hg.block k (by simp; omega) hne).trans (Below.heap_alloc w _ k hk)⟩

/-- one epoch more -/
theorem wpList_append_ep {w : World} {ops : Array Oper} {rest : List Oper} {o : Oper} {a : Act} {Q : Exit → Act → World → Prop} (hgd : o.guard = none) (s x : Operand)
    (ho : o.op = .call { callee := .builtin .append, args := #[s, x], argTypes := #[23, 23] }) (B base : Nat) (es : List Ep) (hown : OwnEL B w base (a.eval s) es)
    (z : Int) (ad : Option Addr) (n c : Nat) (ps : List Pt) (hl : PL w ad n ps) (hc : n ≤ c) (hp : 0 < n → ∀ p, ad = some p → (a.eval s).ownBlock ≠ some p.block ∧ B ≤ p.block)
    (hx : a.eval x = .slice (some ⟨w.heap.size, 0, none⟩) 1 1) (h63 : es.length ≤ 100000) (hbase : base ≤ w.heap.size)
    (h : ∀ v' w', OwnEL B w' base v' (es ++ [⟨z, ps⟩]) → w.grownBy w' (a.eval s).ownBlock → wpList Try.prog ops Q rest (a.put o.dst v') w') :
    wpList Try.prog ops Q (o :: rest) a (w.alloc (.cells #[.int .i64 z, .slice ad n c] 42)) := by
  refine wpList_append_eps (w := w.alloc (.cells #[.int .i64 z, .slice ad n c] 42)) hgd s x ho B base es (hown.later (below_alloc _ _)) ⟨w.heap.size, 0, none⟩ 1 1 [⟨z, ps⟩] [.int .i64 z, .slice ad n c] hx rfl rfl (fun j u hj => ?_) (by simp [Value.oneCell']) (fun i e he => ?_) (by omega) (by simp; omega) ?_
  · rw [Addr.add_lit, World.cell?_alloc_new]
    simpa using hj
  · match i, he with
    | 0, he =>
      simp at he
      subst he
      exact ⟨ad, n, c, rfl, rfl, hl.later (below_alloc _ _), hc, hp⟩
    | i + 1, he => simp at he
  · intro v' w' ho' hg
    exact h v' w' ho' ⟨hg.os, hg.tape, hg.output, by have := hg.size; simp at this; omega, fun k hk hne => (hg.block k (by simp; omega) hne).trans (Below.heap_alloc w _ k hk)⟩

set_option maxHeartbeats 2000000 in
set_option maxRecDepth 100000 in
theorem sameEL_gen (a1 a2 : Option Addr) (n1 c1 n2 c2 : Nat) (l1 l2 : List Ep) (w : World) (h1 : EL w a1 n1 l1) (h2 : EL w a2 n2 l2) :
    Calls Try.prog 59 #[.slice a1 n1 c1, .slice a2 n2 c2] w fun e w' => ∃ r : Bool, e = .returned (.bool r) ∧ (r = true ↔ l1 = l2) ∧ ∃ n, w' = w.drewN n := by
  have hlen : n1 ≤ maxLen := h1.2.1
  have hlen2 : n2 ≤ maxLen := h2.2.1
  unfold maxLen at hlen hlen2
  have H1 := hide h1
  have H2 := hide h2
  clear h1 h2
  by_cases hn : n1 = n2
  · subst hn
    go_enter Try.func59, Try.ntmps59
    go_wp2
    go_loopw [5] (fun i wr => ∃ k : Nat, k ≤ n1 ∧ i = .int .i64 k ∧ Hid (l1.take k = l2.take k) ∧ ∃ n, wr = w.drewN n) (fun i _ => n1 - (intOf i).toNat)
    case atStart => exact ⟨0, by omega, rfl, rfl, 0, rfl⟩
    case round =>
      obtain ⟨k, hk, rfl, hE, n, rfl⟩ := hrel
      obtain ⟨wq, hwq⟩ : ∃ wq : World, Hid (wq = w.drewN n) := ⟨_, rfl⟩
      rw [← hwq.out]
      by_cases hlt : k < n1
      · obtain ⟨b, off, x, ai, ni, ci, hab, hb, hx, e0, e1, hu1, _⟩ := (H1.out.drewN n).at_ k hlt
        obtain ⟨b', off', y, aj, nj, cj, hab', hb', hy, f0, f1, hu2, _⟩ := (H2.out.drewN n).at_ k hlt
        subst hab hab'
        rw [← hwq.out] at e0 e1 f0 f1 hu1 hu2
        obtain ⟨zx, px⟩ := x
        obtain ⟨zy, py⟩ := y
        have HX := hide hx
        have HY := hide hy
        have HU1 := hide hu1
        have HU2 := hide hu2
        clear hx hy hu1 hu2 hb hb'
        dsimp only at e0 f0
        by_cases hz : zx = zy
        · subst hz
          go_wp2_with fail
          go_region_held3 (fun w' => w'.cell? ⟨b, off + k * 2, none⟩ = some (.int .i64 zx) ∧ w'.cell? ⟨b, off + k * 2 + 1, none⟩ = some (.slice ai ni ci) ∧ w'.cell? ⟨b', off' + k * 2, none⟩ = some (.int .i64 zx) ∧ w'.cell? ⟨b', off' + k * 2 + 1, none⟩ = some (.slice aj nj cj))
            (exact ⟨e0, e1, f0, f1⟩)
            (first
            | (go_at_call 20; refine (samePL_gen ai aj ni ci nj cj px py wq.drew (HU1.out.later (Below.refl _ _).drew) (HU2.out.later (Below.refl _ _).drew)).mono ?_; rintro e w2 ⟨r, rfl, hr, q, rfl⟩))
          all_goals
            clear e0 f0 e1 f1
            cases r with
            | true =>
              have HXY := hide (hr.1 rfl)
              clear hr
              go_wp2
              go_roundw
              case rel => exact ⟨k + 1, by omega, by go_num, by unfold Hid; rw [getElem_take_succ _ _ _ HX.out, getElem_take_succ _ _ _ HY.out, hE.out, HXY.out], _, by rw [hwq.out, World.drewN_drewN]⟩
              case measure => simp [intOf]; omega
            | false =>
              have HF := hide (take_not_eq HX.out HY.out (fun e => by simp only [Ep.mk.injEq, true_and] at e; have := hr.2 e; simp at this))
              clear hr
              go_wp2
              go_ret
              exact ⟨false, rfl, ⟨fun h => by simp at h, fun h => absurd h HF.out⟩, _, by rw [hwq.out, World.drewN_drewN]⟩
        · have HF := hide (take_not_eq HX.out HY.out (fun e => hz (by simp only [Ep.mk.injEq] at e; exact e.1)))
          have hne : (zx != zy) = true := by simpa using hz
          clear hz
          go_wp2_with fail
          go_quiet (fail)
          go_wp2
          go_ret
          exact ⟨false, rfl, ⟨fun h => by simp at h, fun h => absurd h HF.out⟩, _, by first | rw [hwq.out, World.drewN_drewN] | exact hwq.out⟩
      · have HF := hide (take_all_eq (by rw [H1.out.1]; omega) (by rw [H2.out.1]; omega) hE.out)
        go_wp2
        go_ret
        exact ⟨true, rfl, ⟨fun _ => HF.out, fun _ => rfl⟩, _, hwq.out⟩
  · have hne : ((n1 : Int) != (n2 : Int)) = true := by simp; omega
    have HF := hide (show ¬ l1 = l2 by
      intro e
      have h3 := H1.out.1
      rw [e, H2.out.1] at h3
      omega)
    clear hn
    go_enter Try.func59, Try.ntmps59
    go_wp2
    go_ret
    exact ⟨false, rfl, ⟨fun h => by simp at h, fun h => absurd h HF.out⟩, 0, rfl⟩
end Go.Proofs.Ytkebmfocgalinab

/-
  Builders: what F1 says of them: the document's answer (BuilderMay), and the program's (follow, Check, checkNumber); a builder of which nothing is said (hugeBuilder).
-/
namespace Go.Proofs.Ytkebmfocgalinab
open Go.RowKit

theorem Bx.four {w : World} {g : Nat} {s0 s1 s2 s3 : Value} {t : TypeId} (h : Bx w g #[s0, s1, s2, s3] t) : w.cell? ⟨g, 0, none⟩ = some s0 ∧ w.cell? ⟨g, 1, none⟩ = some s1 ∧ w.cell? ⟨g, 2, none⟩ = some s2 ∧ w.cell? ⟨g, 3, none⟩ = some s3 := ⟨h.cell 0, h.cell 1, h.cell 2, h.cell 3⟩

namespace Mx
theorem bmay_1 {b : Bu} {n : Int} (h : n < 1 ∨ 32 < n ∨ b.num < 0 ∨ 2147483647 < b.num) : bmay b n = 1 := by rw [bmay, if_pos h]
theorem bmay_2 {b : Bu} {n : Int} (h : ¬ (n < 1 ∨ 32 < n ∨ b.num < 0 ∨ 2147483647 < b.num)) (h2 : 4 < b.se.length) : bmay b n = 2 := by rw [bmay, if_neg h, if_pos h2]
theorem bmay_3 {b : Bu} {n : Int} (h : ¬ (n < 1 ∨ 32 < n ∨ b.num < 0 ∨ 2147483647 < b.num)) (h2 : ¬ 4 < b.se.length) (h3 : goodB b n = false) : bmay b n = 3 := by rw [bmay, if_neg h, if_neg h2, h3]; rfl
theorem bmay_0 {b : Bu} {n : Int} (h : ¬ (n < 1 ∨ 32 < n ∨ b.num < 0 ∨ 2147483647 < b.num)) (h2 : ¬ 4 < b.se.length) (h3 : goodB b n = true) : bmay b n = 0 := by rw [bmay, if_neg h, if_neg h2, h3]; rfl
theorem bmay_ok {b : Bu} {n : Int} (h : bmay b n = 0) : (1 ≤ n ∧ n ≤ 32 ∧ 0 ≤ b.num ∧ b.num ≤ 2147483647) ∧ b.se.length ≤ 4 ∧ goodB b n = true := by
  unfold bmay at h
  split at h
  · omega
  · split at h
    · omega
    · split at h
      · next h1 h2 h3 => exact ⟨by omega, by omega, h3⟩
      · omega
/-- the error of a number -/
def nmay (b : Bu) (n k : Int) : Int := if bmay b n = 0 then (if k < 0 ∨ b.num < k then 1 else 0) else bmay b n
theorem nmay_1 {b : Bu} {n k : Int} (h : bmay b n = 0) (hk : k < 0 ∨ b.num < k) : nmay b n k = 1 := by rw [nmay, if_pos h, if_pos hk]
theorem nmay_0 {b : Bu} {n k : Int} (h : bmay b n = 0) (hk : ¬ (k < 0 ∨ b.num < k)) : nmay b n k = 0 := by rw [nmay, if_pos h, if_neg hk]
theorem nmay_not {b : Bu} {n k : Int} (h : bmay b n ≠ 0) : nmay b n k = bmay b n := by rw [nmay, if_neg h]
theorem goodB_parts {b : Bu} {n : Int} (h : goodB b n = true) : (b.be = true → b.se = []) ∧ riseB n b.op = true ∧ folB b.se b.num n = true := by
  unfold goodB at h
  simp only [Bool.and_eq_true, Bool.not_eq_true', Bool.and_eq_false_iff] at h
  refine ⟨fun hb => ?_, h.1.2, h.2⟩
  rcases h.1.1 with h1 | h1
  · rw [hb] at h1
    cases h1
  · simpa using h1
end Mx

set_option maxHeartbeats 4000000 in
set_option maxRecDepth 100000 in
theorem follow_any (a : Option Addr) (k c : Nat) (es : List Ep) (num : Int) (n : Nat) (w : World) (he : EL w a k es) (hn : n ≤ 1000) (h0 : 0 ≤ num) (h1 : num ≤ 2147483647) :
    Calls Try.prog 52 #[.slice a k c, .int .i64 num, .int .i64 (n : Int)] w fun e w' => e = .returned (.bool (Mx.folB es num n)) ∧ Below w.heap.size w w' := by
  have hlen : k ≤ maxLen := he.2.1
  unfold maxLen at hlen
  have HE := hide he
  have HN := hide he.1
  clear he
  by_cases hk : (k : Int) ≤ num
  · have hd : decide (num - (k : Int) < 0) = false := by simp; omega
    go_enter Try.func52, Try.ntmps52
    go_wp2_with fail
    go_loopw [18] (fun t wr => ∃ j : Nat, j ≤ k ∧ t = .int .i64 (j : Int) ∧ Hid (Mx.folTo es num n j) ∧ Hid (Below w.heap.size w wr)) (fun t _ => k - (intOf t).toNat)
    case atStart => exact ⟨0, by omega, rfl, fun i hi => absurd hi (by omega), Below.refl _ _⟩
    case round =>
      obtain ⟨j, hj, rfl, hR, hB⟩ := hrel
      by_cases hlt : j < k
      · obtain ⟨b, off, e, ai, ni, ci, hab, _, hx, e0, e1, hp, hc⟩ := (HE.out.later hB.out).at_ j hlt
        subst hab
        obtain ⟨z, ps⟩ := e
        have HG := hide (show Mx.goodE n num es.length j (es.getD j Mx.dE) = (Mx.riseB n ps && decide (z = num - k + 1 + j)) by unfold Mx.goodE; rw [List.getD_eq_getElem?_getD, hx, HN.out]; rfl)
        have HP := hide hp
        dsimp only at e0
        clear hx hp
        have B1 := hide (hB.out.alloc hB.out.size (.cells #[.int .i64 z, .slice ai ni ci] 42))
        have hji : (j : Int) < k := by omega
        by_cases hz : z = num - k + 1 + j
        · subst hz
          go_wp2_with fail
          refine (erising_any ai ni ci ps n _ (HP.out.later (below_alloc _ _)) hn).mono ?_
          rintro e w2 ⟨rfl, hb2⟩
          have B2 := hide (B1.out.trans (hb2.mono B1.out.size))
          clear hb2 e0 e1
          cases hr : Mx.riseB (n : Int) ps with
          | true =>
            have HR2 := hide (Mx.folTo_succ hR.out (by rw [HG.out, hr]; simp))
            clear hr
            go_wp2_with fail
            go_roundw
            case rel => exact ⟨j + 1, by omega, by go_num, HR2, B2⟩
            case measure => simp [intOf]; omega
          | false =>
            have HF := hide (Mx.folB_not (n := n) (num := num) (by rw [HN.out]; exact hlt) (by rw [HG.out, hr]; rfl))
            clear hr
            go_wp2_with fail
            go_ret
            exact ⟨by rw [HF.out] <;> rfl, B2.out⟩
        · have hne : (z != num - (k : Int) + 1 + (j : Int)) = true := by simpa using hz
          have HF := hide (Mx.folB_not (n := n) (num := num) (by rw [HN.out]; exact hlt) (by rw [HG.out]; simp [hz]))
          clear hz
          go_wp2_with fail
          go_ret
          exact ⟨by rw [HF.out] <;> rfl, B1.out⟩
      · have HF := hide (Mx.folB_all (es := es) (num := num) (n := n) (by rw [HN.out]; exact hk) (fun i hi => hR.out i (by have := HN.out; omega)))
        go_wp2_with fail
        go_ret
        exact ⟨by rw [HF.out] <;> rfl, hB.out⟩
  · have hd : decide (num - (k : Int) < 0) = true := by simp; omega
    have HF := hide (Mx.folB_neg (es := es) (num := num) (n := n) (by rw [HN.out]; omega))
    go_enter Try.func52, Try.ntmps52
    go_wp2_with fail
    go_ret
    exact ⟨by rw [HF.out] <;> rfl, Below.refl _ _⟩

set_option maxHeartbeats 4000000 in
set_option maxRecDepth 100000 in
theorem echeck_any (num : Int) (oa : Option Addr) (on oc : Nat) (sa : Option Addr) (sn sc : Nat) (be : Bool) (ops : List Pt) (es : List Ep) (n : Int) (w : World) (hp : PL w oa on ops) (he : EL w sa sn es) :
    Calls Try.prog 13 #[.agg #[.int .i64 num, .slice oa on oc, .slice sa sn sc, .bool be], .int .i64 n] w fun e w' => e = .returned (errV (Mx.bmay ⟨num, ops, es, be⟩ n)) ∧ Below w.heap.size w w' := by
  have hlen : sn ≤ maxLen := he.2.1
  unfold maxLen at hlen
  have HP := hide hp
  have HE := hide he
  have HN := hide he.1
  clear hp he
  by_cases h1 : n < 1
  · have dh1 : decide (n < 1) = true := by simpa using h1
    have HF := hide (Mx.bmay_1 (b := ⟨num, ops, es, be⟩) (n := n) (.inl h1))
    go_enter Try.func13, Try.ntmps13
    go_wp2_with fail
    go_ret
    exact ⟨by rw [HF.out] <;> rfl, below_alloc _ _⟩
  have dh1 : decide (n < 1) = false := by simpa using h1
  by_cases h2 : 32 < n
  · have dh2 : decide (32 < n) = true := by simpa using h2
    have HF := hide (Mx.bmay_1 (b := ⟨num, ops, es, be⟩) (n := n) (.inr (.inl h2)))
    go_enter Try.func13, Try.ntmps13
    go_wp2_with fail
    go_ret
    exact ⟨by rw [HF.out] <;> rfl, below_alloc _ _⟩
  have dh2 : decide (32 < n) = false := by simpa using h2
  by_cases h3 : num < 0
  · have dh3 : decide (num < 0) = true := by simpa using h3
    have HF := hide (Mx.bmay_1 (b := ⟨num, ops, es, be⟩) (n := n) (.inr (.inr (.inl h3))))
    go_enter Try.func13, Try.ntmps13
    go_wp2_with fail
    go_ret
    exact ⟨by rw [HF.out] <;> rfl, below_alloc _ _⟩
  have dh3 : decide (num < 0) = false := by simpa using h3
  by_cases h4 : 2147483647 < num
  · have dh4 : decide (2147483647 < num) = true := by simpa using h4
    have HF := hide (Mx.bmay_1 (b := ⟨num, ops, es, be⟩) (n := n) (.inr (.inr (.inr h4))))
    go_enter Try.func13, Try.ntmps13
    go_wp2_with fail
    go_ret
    exact ⟨by rw [HF.out] <;> rfl, below_alloc _ _⟩
  have dh4 : decide (2147483647 < num) = false := by simpa using h4
  have hrg : ¬ (n < 1 ∨ 32 < n ∨ num < 0 ∨ 2147483647 < num) := by omega
  by_cases h5 : (4 : Int) < sn
  · have dh5 : decide ((4 : Int) < sn) = true := by simpa using h5
    have HF := hide (Mx.bmay_2 (b := ⟨num, ops, es, be⟩) (n := n) hrg (by have := HN.out; show 4 < es.length; omega))
    go_enter Try.func13, Try.ntmps13
    go_wp2_with fail
    go_ret
    exact ⟨by rw [HF.out] <;> rfl, below_alloc _ _⟩
  have dh5 : decide ((4 : Int) < sn) = false := by simpa using h5
  have hsl : ¬ 4 < es.length := by have := HN.out; omega
  obtain ⟨N, rfl⟩ := Int.eq_ofNat_of_zero_le (show 0 ≤ n by omega)
  have hbe : be = true ∧ (0 : Int) < sn ∨ be = true ∧ ¬ (0 : Int) < sn ∨ be = false := by cases be <;> simp; omega
  rcases hbe with ⟨rfl, hs⟩ | hbe
  · have dhs : decide ((0 : Int) < sn) = true := by simpa using hs
    have HF := hide (Mx.bmay_3 (b := ⟨num, ops, es, true⟩) (n := N) hrg hsl (by unfold Mx.goodB; rw [show decide (0 < es.length) = true by have := HN.out; simp; omega]; rfl))
    go_enter Try.func13, Try.ntmps13
    go_wp2_with fail
    go_ret
    exact ⟨by rw [HF.out] <;> rfl, below_alloc _ _⟩
  have HBE := hide (show (be && decide (0 < es.length)) = false by
    rcases hbe with ⟨rfl, hs⟩ | rfl
    · have := HN.out
      rw [Bool.true_and, decide_eq_false_iff_not]
      omega
    · rfl)
  have HM3r := hide (show Mx.riseB (N : Int) ops = false → Mx.bmay ⟨num, ops, es, be⟩ N = 3 from fun hr => Mx.bmay_3 hrg hsl (by unfold Mx.goodB; rw [hr]; simp))
  have HM3f := hide (show Mx.folB es num (N : Int) = false → Mx.bmay ⟨num, ops, es, be⟩ N = 3 from fun hf => Mx.bmay_3 hrg hsl (by unfold Mx.goodB; rw [hf]; simp))
  have HM0 := hide (show Mx.riseB (N : Int) ops = true → Mx.folB es num (N : Int) = true → Mx.bmay ⟨num, ops, es, be⟩ N = 0 from fun hr hf => Mx.bmay_0 hrg hsl (by unfold Mx.goodB; rw [hr, hf, HBE.out]; rfl))
  have X0 := hide (Bx.new w #[.int .i64 num, .slice oa on oc, .slice sa sn sc, .bool be] 25)
  rcases hbe with ⟨rfl, hs⟩ | rfl
  all_goals
    first | have dhs : decide ((0 : Int) < sn) = false := by simpa using hs | skip
    go_enter Try.func13, Try.ntmps13
    go_wp2_with fail
    refine (erising_any oa on oc ops N _ (HP.out.later (below_alloc _ _)) (by omega)).mono ?_
    rintro e w1 ⟨rfl, hb1⟩
    have X1 := hide (X0.out.later hb1 X0.out.lt)
    have B1 := hide ((below_alloc w _).trans (hb1.mono (by simp)))
    have HE1 := hide (HE.out.later B1.out)
    clear hb1
    obtain ⟨f0, f1, f2, f3⟩ := X1.out.four
    cases hr : Mx.riseB (N : Int) ops with
    | false =>
      have HF := hide (HM3r.out hr)
      clear hr
      go_wp2_with fail
      go_ret
      exact ⟨by rw [HF.out] <;> rfl, B1.out⟩
    | true =>
      have HR := hide hr
      clear hr
      go_wp2_with fail
      refine (follow_any sa sn sc es num N w1 HE1.out (by omega) (by omega) (by omega)).mono ?_
      rintro e w2 ⟨rfl, hb2⟩
      have B2 := hide (B1.out.trans (hb2.mono B1.out.size))
      clear hb2 f0 f1 f2 f3
      cases hf : Mx.folB es num (N : Int) with
      | false =>
        have HF := hide (HM3f.out hf)
        clear hf
        go_wp2_with fail
        go_ret
        exact ⟨by rw [HF.out] <;> rfl, B2.out⟩
      | true =>
        have HF := hide (HM0.out HR.out hf)
        clear hf
        go_wp2_with fail
        go_ret
        exact ⟨by rw [HF.out] <;> rfl, B2.out⟩

set_option maxHeartbeats 4000000 in
set_option maxRecDepth 100000 in
theorem echeckNumber_any (num : Int) (oa : Option Addr) (on oc : Nat) (sa : Option Addr) (sn sc : Nat) (be : Bool) (ops : List Pt) (es : List Ep) (n k : Int) (w : World) (hp : PL w oa on ops) (he : EL w sa sn es) :
    Calls Try.prog 57 #[.agg #[.int .i64 num, .slice oa on oc, .slice sa sn sc, .bool be], .int .i64 n, .int .i64 k] w fun e w' =>
      e = .returned (errV (Mx.nmay ⟨num, ops, es, be⟩ n k)) ∧ Below w.heap.size w w' := by
  have HP := hide hp
  have HE := hide he
  clear hp he
  have X0 := hide (Bx.new w #[.int .i64 num, .slice oa on oc, .slice sa sn sc, .bool be] 25)
  go_enter Try.func57, Try.ntmps57
  go_wp2_with fail
  refine (echeck_any num oa on oc sa sn sc be ops es n _ (HP.out.later (below_alloc _ _)) (HE.out.later (below_alloc _ _))).mono ?_
  rintro e w1 ⟨rfl, hb1⟩
  have X1 := hide (X0.out.later hb1 X0.out.lt)
  have B1 := hide ((below_alloc w _).trans (hb1.mono (by simp)))
  clear hb1
  obtain ⟨f0, f1, f2, f3⟩ := X1.out.four
  by_cases hb : Mx.bmay ⟨num, ops, es, be⟩ n = 0
  · have HB := hide hb
    rw [hb, errV_zero]
    clear hb
    by_cases h1 : k < 0
    · have dh1 : decide (k < 0) = true := by simpa using h1
      have HF := hide (Mx.nmay_1 (b := ⟨num, ops, es, be⟩) HB.out (.inl h1))
      go_wp2_with fail
      go_ret
      exact ⟨by rw [HF.out] <;> rfl, B1.out⟩
    · have dh1 : decide (k < 0) = false := by simpa using h1
      by_cases h2 : num < k
      · have dh2 : decide (num < k) = true := by simpa using h2
        have HF := hide (Mx.nmay_1 (b := ⟨num, ops, es, be⟩) HB.out (.inr h2))
        go_wp2_with fail
        go_ret
        exact ⟨by rw [HF.out] <;> rfl, B1.out⟩
      · have dh2 : decide (num < k) = false := by simpa using h2
        have HF := hide (Mx.nmay_0 (b := ⟨num, ops, es, be⟩) (k := k) HB.out (by show ¬ (k < 0 ∨ num < k); omega))
        go_wp2_with fail
        go_ret
        exact ⟨by rw [HF.out] <;> rfl, B1.out⟩
  · rw [errV_not hb]
    have HB := hide hb
    clear hb
    go_wp2_with fail
    go_ret
    exact ⟨by rw [Mx.nmay_not HB.out, errV_not HB.out] <;> rfl, B1.out⟩

end Go.Proofs.Ytkebmfocgalinab

/-
  Epochs in memory of their own (fresh), and those behind a number (keptBehind).
-/
namespace Go.Proofs.Ytkebmfocgalinab
open Go.RowKit

theorem cloneP_ep (a : Option Addr) (n c : Nat) (ps : List Pt) (w : World) (hp : PL w a n ps) (hn : n ≤ 1000) :
    Calls Try.prog 56 #[.slice a n c] w fun e w' => ∃ a2 c2, e = .returned (.slice a2 n c2) ∧ Hid (PL w' a2 n ps) ∧ Hid (n ≤ c2) ∧ Hid (∀ p, a2 = some p → w.heap.size ≤ p.block) ∧ Hid (Below w.heap.size w w') := by
  refine (cloneP_any a n c ps w hp (by omega)).mono ?_
  rintro e w' ⟨v, rfl, ho, hb⟩
  obtain ⟨a2, c2, hv, hc, hr, ha⟩ := ownsRow_rowR ho
  have hl := hp.1
  rw [hl] at hv hc hr
  subst hv
  exact ⟨a2, c2, rfl, ⟨hl, hr⟩, hc, ha, hb⟩
/-- what a copy of puts leaves of a row of epochs that is being made -/
theorem own_off {B : Nat} {w w1 : World} {base : Nat} {v : Value} {es : List Ep} (h : OwnEL B w base v es) (hle : w.heap.size ≤ w1.heap.size) (hB : B ≤ w1.heap.size) {a : Option Addr} (ha : ∀ p, a = some p → w1.heap.size ≤ p.block) (n : Nat) : 0 < n → ∀ p, a = some p → v.ownBlock ≠ some p.block ∧ B ≤ p.block :=
  fun _ p hp => ⟨fun e => by have h1 := (h.lt _ e).2; have h2 := ha p hp; omega, by have h2 := ha p hp; omega⟩

set_option maxHeartbeats 8000000 in
set_option maxRecDepth 100000 in
theorem fresh_any (a : Option Addr) (k c : Nat) (es : List Ep) (w : World) (he : EL w a k es) (hk : k ≤ 1000) (hps : ∀ e ∈ es, e.puts.length ≤ 1000) :
    Calls Try.prog 55 #[.slice a k c] w fun e w' => ∃ a' c', e = .returned (.slice a' k c') ∧ Hid (OwnEL w.heap.size w' w.heap.size (.slice a' k c') es) ∧ Hid (Below w.heap.size w w') := by
  have HE := hide he
  have HN := hide he.1
  have HPS := hide hps
  clear he hps
  go_enter Try.func55, Try.ntmps55
  go_wp2_with fail
  go_loopw [3, 8] (fun s t wr => ∃ (j : Nat) (a' : Option Addr) (c' : Nat), j ≤ k ∧ t = .int .i64 (j : Int) ∧ s = .slice a' j c' ∧ Hid (OwnEL w.heap.size wr w.heap.size (.slice a' j c') (es.take j)) ∧ Hid (Below w.heap.size w wr)) (fun _ t _ => k - (intOf t).toNat)
  case atStart => exact ⟨0, none, 0, by omega, rfl, rfl, OwnEL.nil _ _ _, Below.refl _ _⟩
  case round =>
    obtain ⟨j, a', c', hj, rfl, rfl, hO, hB⟩ := hrel
    by_cases hlt : j < k
    · obtain ⟨b, off, e, ai, ni, ci, hab, _, hx, e0, e1, hp, hc⟩ := (HE.out.later hB.out).at_ j hlt
      subst hab
      obtain ⟨z, ps⟩ := e
      have HX := hide hx
      have hpn := HPS.out _ (List.mem_of_getElem? hx)
      have HNI := hide hp.1
      have hni : ni ≤ 1000 := by have h1 : ps.length = ni := hp.1; have h2 : ps.length ≤ 1000 := hpn; omega
      have HP := hide hp
      dsimp only at e0
      clear hx hp hpn
      obtain ⟨W1, hW1⟩ : ∃ W1 : World, Hid (W1 = wr.alloc (.cells #[.int .i64 z, .slice ai ni ci] 42)) := ⟨_, rfl⟩
      have X1 := hide (show Bx W1 wr.heap.size #[.int .i64 z, .slice ai ni ci] 42 by rw [hW1.out]; exact Bx.new wr _ _)
      have BW := hide (show Below wr.heap.size wr W1 by rw [hW1.out]; exact below_alloc _ _)
      have B1 := hide (hB.out.trans (BW.out.mono hB.out.size))
      have O1 := hide (hO.out.later BW.out)
      have P1 := hide (HP.out.later BW.out)
      have hsz := X1.out.lt
      have hbs := B1.out.size
      go_wp2_with fail
      rw [← hW1.out]
      clear e0 e1
      have q0 := X1.out.cell 0
      have q1 := X1.out.cell 1
      simp only [List.getElem?_toArray, List.getElem?_cons_zero, List.getElem?_cons_succ] at q0 q1
      go_region_held3 (fun w' => w'.cell? ⟨wr.heap.size, 0, none⟩ = some (.int .i64 z) ∧ w'.cell? ⟨wr.heap.size, 1, none⟩ = some (.slice ai ni ci))
        (first
          | exact ⟨q0, q1⟩
          | exact ⟨r0, r1⟩
          | exact ⟨((below_alloc w2 _).cell (p := ⟨wr.heap.size, 0, none⟩) hs2).trans r0, ((below_alloc w2 _).cell (p := ⟨wr.heap.size, 1, none⟩) hs2).trans r1⟩
          | exact ⟨(hG3.cell (a := ⟨wr.heap.size, 0, none⟩) r0 (fun e => NE2.out e.symm)), (hG3.cell (a := ⟨wr.heap.size, 1, none⟩) r1 (fun e => NE2.out e.symm))⟩)
        (first
          | (refine step_append_ep (w := w2) rfl (.tmp 12) (.tmp 19) rfl w.heap.size w.heap.size (es.take j) ?o1 z a2 ni c2 ps ?o5 ?o6 ?o7 ?o8 ?o9 ?o10 ?_; (case o1 => exact O2.out); (case o5 => exact P2.out); (case o6 => exact C2.out); (case o7 => exact N2.out ni); (case o8 => rfl); (case o9 => have := HN.out; rw [List.length_take]; omega); (case o10 => exact S2.out); intro v3 w3 hO3 hG3)
          | (go_at_call 56; refine (cloneP_ep ai ni ci ps W1.drew (P1.out.later (Below.refl _ _).drew) hni).mono ?_; rintro e w2 ⟨a2, c2, rfl, P2, C2, A2, B2⟩; have r0 := (B2.out.cell (p := ⟨wr.heap.size, 0, none⟩) hsz).trans q0; have r1 := (B2.out.cell (p := ⟨wr.heap.size, 1, none⟩) hsz).trans q1; have hs2 := Nat.lt_of_lt_of_le hsz B2.out.size; have D2 := hide (show Below W1.heap.size W1 w2 from (Below.refl _ _).drew.trans B2.out); have O2 := hide (O1.out.later D2.out); have N2 := hide (own_off (w1 := W1) O1.out (Nat.le_refl _) hbs A2.out); have S2 := hide (Nat.le_trans hbs B2.out.size); have NE2 := hide (show (Value.slice a' j c').ownBlock ≠ some wr.heap.size from fun e => by have := (hO.out.lt _ e).2; omega)))
      all_goals
        have G3 := hide (show w2.grownBy w3 (Value.slice a' j c').ownBlock from hG3)
        have B3 := hide (B1.out.trans ((D2.out.mono hbs).trans ((Below.refl _ _).grown G3.out S2.out (fun i hi => (O2.out.lt i hi).1))))
        obtain ⟨a3, c3, hv3, _⟩ := hO3.el
        have hl3 : (es.take j ++ [(⟨z, ps⟩ : Ep)]).length = j + 1 := by rw [List.length_append, List.length_take]; have := HN.out; simp; omega
        rw [hl3] at hv3
        subst hv3
        have O3 := hide (show OwnEL w.heap.size w3 w.heap.size (.slice a3 (j + 1) c3) (es.take (j + 1)) by rw [getElem_take_succ _ _ _ HX.out]; exact hO3)
        clear hO3 hG3 q0 q1 r0 r1
        go_wp2_with fail
        go_roundw
        case rel => exact ⟨j + 1, a3, c3, by omega, by go_num, rfl, O3, B3⟩
        case measure => simp [intOf]; omega
    · obtain rfl : j = k := by omega
      have OF := hide (show OwnEL w.heap.size wr w.heap.size (.slice a' j c') es by
        have h := hO.out
        rw [List.take_of_length_le (by rw [HN.out]; omega)] at h
        exact h)
      go_wp2_with fail
      go_ret
      exact ⟨a', c', rfl, OF, hB⟩

set_option maxHeartbeats 2000000 in
set_option maxRecDepth 100000 in
theorem keptBehind_any (num : Int) (oa : Option Addr) (on oc : Nat) (sa : Option Addr) (sn sc : Nat) (be : Bool) (b : Bu) (k : Int) (w : World) (hn : b.num = num) (he : EL w sa sn b.se) (hc : sn ≤ sc) (h0 : 0 ≤ k) (hk : k ≤ num) (hm : num ≤ 2147483647) (hs : sn ≤ 1000) :
    Calls Try.prog 58 #[.agg #[.int .i64 num, .slice oa on oc, .slice sa sn sc, .bool be], .int .i64 k] w fun e w' => ∃ a' c', e = .returned (.slice a' (Mx.keptE b k).length c') ∧ Hid (EL w' a' (Mx.keptE b k).length (Mx.keptE b k)) ∧ Hid (Below w.heap.size w w') := by
  have HE := hide he
  have HN := hide he.1
  have HNUM := hide hn
  clear he hn
  by_cases hA : (sn : Int) ≤ num - k
  · have HK := hide (show Mx.keptE b k = b.se by
      unfold Mx.keptE Mx.many
      rw [HN.out, HNUM.out, show sn - min (num - k).toNat sn = 0 by omega, List.drop_zero])
    rw [HK.out, HN.out]
    have B0 := hide (below_alloc w (.cells #[.int .i64 num, .slice oa on oc, .slice sa sn sc, .bool be] 25))
    have HE0 := hide (HE.out.later B0.out)
    rcases Int.lt_or_eq_of_le hA with h1 | h1
    · go_enter Try.func58, Try.ntmps58
      go_wp2_with fail
      go_ret
      exact ⟨sa, sc, rfl, HE0, B0⟩
    · obtain rfl : num = k + sn := by omega
      have hkd : k + (sn : Int) - k = sn := by omega
      clear h1 hA
      go_enter Try.func58, Try.ntmps58
      go_wp2_with fail
      go_ret
      exact ⟨sa, sc, rfl, HE0, B0⟩
  · obtain ⟨D, hD⟩ := Int.eq_ofNat_of_zero_le (show 0 ≤ num - k by omega)
    obtain rfl : num = k + D := by omega
    have hDs : (D : Int) < sn := by omega
    have hDn : D < sn := by omega
    have HK := hide (show Mx.keptE b k = b.se.drop (sn - D) by
      unfold Mx.keptE Mx.many
      rw [HN.out, HNUM.out, show min (k + (D : Int) - k).toNat sn = D by omega])
    have HKL := hide (show (Mx.keptE b k).length = D by rw [HK.out, List.length_drop, HN.out]; omega)
    rw [HKL.out]
    obtain ⟨bb, off, e, ai, ni, ci, hab, _⟩ := HE.out.at_ 0 (by omega)
    subst hab
    have B0 := hide (below_alloc w (.cells #[.int .i64 (k + D), .slice oa on oc, .slice (some ⟨bb, off, none⟩) sn sc, .bool be] 25))
    have HE0 := hide (HE.out.later B0.out)
    obtain ⟨lo, hlo⟩ : ∃ lo : Nat, Hid (lo = sn - D) := ⟨_, rfl⟩
    have hli : (sn : Int) - D = (lo : Int) := by rw [hlo.out]; omega
    have hls : lo ≤ sn := by rw [hlo.out]; omega
    have hsl : sn - lo = D := by rw [hlo.out]; omega
    have hkd : k + (D : Int) - k = D := by omega
    clear hA hD
    by_cases hsc : sc = lo
    · have HD0 := hide (show D = 0 by omega)
      go_enter Try.func58, Try.ntmps58
      go_wp2_with fail
      go_ret
      exact ⟨_, _, rfl, by rw [HK.out, HD0.out, Nat.sub_zero, List.drop_of_length_le (by rw [HN.out]; omega)]; exact ⟨rfl, by unfold maxLen; omega, fun h => absurd h (by omega)⟩, by first | exact B0 | (subst hsc; exact B0)⟩
    · have HF := hide (show EL _ (some ⟨bb, off + lo * 2, none⟩) D (b.se.drop (sn - D)) by
        have h := HE0.out.drop lo hls
        rw [hsl, hlo.out] at h
        rw [hlo.out]
        exact h)
      go_enter Try.func58, Try.ntmps58
      go_wp2_with fail
      go_ret
      exact ⟨_, _, rfl, by rw [HK.out]; exact HF, B0⟩
end Go.Proofs.Ytkebmfocgalinab

/-
  The last put of each place, in an array: puts taken (take), and told again (puts).
-/
namespace Go.Proofs.Ytkebmfocgalinab
open Go.RowKit

theorem grow_set {w w' : World} {g : Nat} (h : w.grownBy w' (some g)) (o : Nat) (v : Value) : w.grownBy (w'.setCell ⟨g, o, none⟩ v) (some g) :=
  ⟨h.os, h.tape, h.output, by have := h.size; simpa [World.setCell] using this, fun k hk hne => (Below.heap_setCell w' ⟨g, o, none⟩ v k (fun e => hne (by rw [e]))).trans (h.block k hk hne)⟩
theorem grow_drew {w w' : World} {row : Option Nat} (h : w.grownBy w' row) : w.grownBy w'.drew row := ⟨h.os, h.tape, h.output, h.size, h.block⟩
theorem grow_alloc {w w' : World} {row : Option Nat} (h : w.grownBy w' row) (o : Obj) : w.grownBy (w'.alloc o) row := h.trans (World.grownBy_alloc w' o row)
theorem grow_refl (w : World) (row : Option Nat) : w.grownBy w row := ⟨rfl, rfl, rfl, Nat.le_refl _, fun _ _ _ => rfl⟩
theorem grow_set8 {w w' : World} {g : Nat} (h : w.grownBy w' (some g)) (o : Nat) (x : B8) : w.grownBy (set8 w' g o x) (some g) :=
  grow_set (grow_set (grow_set (grow_set (grow_set (grow_set (grow_set (grow_set h _ _) _ _) _ _) _ _) _ _) _ _) _ _) _ _

theorem cell_set_far {w : World} {g o q i : Nat} (h : ¬ g = q) (v : Value) : (w.setCell ⟨g, o, none⟩ v).cell? ⟨q, i, none⟩ = w.cell? ⟨q, i, none⟩ := World.cell?_setCell_far w ⟨g, o, none⟩ ⟨q, i, none⟩ v h

theorem cell_alloc_lt {w : World} {g i : Nat} (h : g < w.heap.size) (o : Obj) : (w.alloc o).cell? ⟨g, i, none⟩ = w.cell? ⟨g, i, none⟩ := (below_alloc w o).cell (p := ⟨g, i, none⟩) h
theorem cell_drew (w : World) (a : Addr) : w.drew.cell? a = w.cell? a := rfl

def Oc (o : Option B8) : List Value := [.int .u8 (o.getD zB).z0, .int .u8 (o.getD zB).z1, .int .u8 (o.getD zB).z2, .int .u8 (o.getD zB).z3, .int .u8 (o.getD zB).z4, .int .u8 (o.getD zB).z5, .int .u8 (o.getD zB).z6, .int .u8 (o.getD zB).z7, .bool o.isSome]
def flatO (fs : List (Option B8)) : List Value := fs.flatMap Oc
theorem flatO_len (fs : List (Option B8)) : (flatO fs).length = fs.length * 9 := flatMap_len _ 9 (fun _ => rfl) fs
/-- the array, whole -/
def LB (w : World) (g : Nat) (fs : List (Option B8)) : Prop := fs.length = 32 ∧ Bx w g (flatO fs).toArray 111
theorem LB.at_ {w : World} {g : Nat} {fs : List (Option B8)} (h : LB w g fs) (j : Nat) (hj : j < 32) :
    ∃ o : Option B8, fs[j]? = some o ∧ w.cell? ⟨g, j * 9, none⟩ = some (.int .u8 (o.getD zB).z0) ∧ w.cell? ⟨g, j * 9 + 1, none⟩ = some (.int .u8 (o.getD zB).z1) ∧ w.cell? ⟨g, j * 9 + 2, none⟩ = some (.int .u8 (o.getD zB).z2) ∧
      w.cell? ⟨g, j * 9 + 3, none⟩ = some (.int .u8 (o.getD zB).z3) ∧ w.cell? ⟨g, j * 9 + 4, none⟩ = some (.int .u8 (o.getD zB).z4) ∧ w.cell? ⟨g, j * 9 + 5, none⟩ = some (.int .u8 (o.getD zB).z5) ∧
      w.cell? ⟨g, j * 9 + 6, none⟩ = some (.int .u8 (o.getD zB).z6) ∧ w.cell? ⟨g, j * 9 + 7, none⟩ = some (.int .u8 (o.getD zB).z7) ∧ w.cell? ⟨g, j * 9 + 8, none⟩ = some (.bool o.isSome) := by
  have hjl : j < fs.length := by have := h.1; omega
  have hx : fs[j]? = some fs[j] := List.getElem?_eq_getElem hjl
  have e := fun i (hi : i < 9) => flatMap_at Oc 9 (fun _ => rfl) fs j i _ hx hi
  have c := fun i (hi : i < 9) => (h.2.cell (j * 9 + i)).trans ((List.getElem?_toArray ..).trans (e i hi))
  exact ⟨fs[j], hx, c 0 (by omega), c 1 (by omega), c 2 (by omega), c 3 (by omega), c 4 (by omega), c 5 (by omega), c 6 (by omega), c 7 (by omega), c 8 (by omega)⟩
theorem set9_list {α : Type} (L : List α) (o : Nat) (a0 a1 a2 a3 a4 a5 a6 a7 a8 : α) (h : o + 9 ≤ L.length) :
    ((((((((L.set o a0).set (o + 1) a1).set (o + 2) a2).set (o + 3) a3).set (o + 4) a4).set (o + 5) a5).set (o + 6) a6).set (o + 7) a7).set (o + 8) a8 = L.take o ++ [a0, a1, a2, a3, a4, a5, a6, a7, a8] ++ L.drop (o + 9) := by
  have hL : L = L.take o ++ ((L.drop o).take 9 ++ L.drop (o + 9)) := by
    rw [show L.drop (o + 9) = (L.drop o).drop 9 by rw [List.drop_drop], List.take_append_drop, List.take_append_drop]
  have hl : (L.take o).length = o := by rw [List.length_take]; omega
  have h9 : ((L.drop o).take 9).length = 9 := by rw [List.length_take, List.length_drop]; omega
  generalize L.take o = A at *
  generalize (L.drop o).take 9 = B at *
  generalize L.drop (o + 9) = C at *
  match B, h9 with
  | [b0, b1, b2, b3, b4, b5, b6, b7, b8], _ =>
    subst hL
    subst hl
    have e := fun (X : List α) (i : Nat) (v : α) => List.set_append_right (s := A) (t := X) (A.length + i) v (by omega)
    have e0 := fun (X : List α) (v : α) => List.set_append_right (s := A) (t := X) A.length v (Nat.le_refl _)
    simp only [Nat.add_sub_cancel_left, Nat.sub_self] at e e0
    simp only [e, e0, List.cons_append, List.nil_append, List.set_cons_zero, List.set_cons_succ, List.append_assoc]
/-- a put stored into the array -/
def set9 (w : World) (g o : Nat) (x : B8) : World := (set8 w g o x).setCell ⟨g, o + 8, none⟩ (.bool true)
theorem LB.put {w : World} {g : Nat} {fs : List (Option B8)} (h : LB w g fs) (j : Nat) (hj : j < 32) (x : B8) : LB (set9 w g (j * 9) x) g (fs.set j (some x)) := by
  have hl := h.1
  refine ⟨by rw [List.length_set]; exact hl, ?_⟩
  have h8 := ((((((((h.2.set (j * 9) (.int .u8 x.z0)).set (j * 9 + 1) (.int .u8 x.z1)).set (j * 9 + 2) (.int .u8 x.z2)).set (j * 9 + 3) (.int .u8 x.z3)).set (j * 9 + 4) (.int .u8 x.z4)).set (j * 9 + 5) (.int .u8 x.z5)).set (j * 9 + 6) (.int .u8 x.z6)).set (j * 9 + 7) (.int .u8 x.z7)).set (j * 9 + 8) (.bool true)
  have hf : flatO (fs.set j (some x)) = (flatO fs).take (j * 9) ++ Oc (some x) ++ (flatO fs).drop (j * 9 + 9) := flatMap_set Oc 9 (fun _ => rfl) fs j (some x) (by omega)
  have ha : ((((((((((flatO fs).toArray.setIfInBounds (j * 9) (.int .u8 x.z0)).setIfInBounds (j * 9 + 1) (.int .u8 x.z1)).setIfInBounds (j * 9 + 2) (.int .u8 x.z2)).setIfInBounds (j * 9 + 3) (.int .u8 x.z3)).setIfInBounds (j * 9 + 4) (.int .u8 x.z4)).setIfInBounds (j * 9 + 5) (.int .u8 x.z5)).setIfInBounds (j * 9 + 6) (.int .u8 x.z6)).setIfInBounds (j * 9 + 7) (.int .u8 x.z7)).setIfInBounds (j * 9 + 8) (.bool true)) = (flatO (fs.set j (some x))).toArray := by
    apply Array.ext'
    simp only [Array.toList_setIfInBounds]
    rw [set9_list (flatO fs) (j * 9) _ _ _ _ _ _ _ _ _ (by rw [flatO_len]; omega), hf]
    rfl
  rw [ha] at h8
  exact h8
theorem LB.later {w w' : World} {g B : Nat} {fs : List (Option B8)} (h : LB w g fs) (hb : Below B w w') (hg : g < B) : LB w' g fs := ⟨h.1, h.2.later hb hg⟩
theorem LB.drew {w : World} {g : Nat} {fs : List (Option B8)} (h : LB w g fs) : LB w.drew g fs := h
theorem grow_set9 {w w' : World} {g : Nat} (h : w.grownBy w' (some g)) (o : Nat) (x : B8) : w.grownBy (set9 w' g o x) (some g) := grow_set (grow_set8 h o x) _ _

theorem Mx.takeF_succ {fs : List (Option B8)} {ps : List Pt} {k : Nat} {p : Pt} (h : ps[k]? = some p) : Mx.takeF fs (ps.take (k + 1)) = (Mx.takeF fs (ps.take k)).set p.at_.toNat (some p.d) := by
  unfold Mx.takeF
  rw [getElem_take_succ _ _ _ h, List.foldl_append]
  rfl

set_option maxHeartbeats 4000000 in
set_option maxRecDepth 100000 in
theorem take_any (g : Nat) (a : Option Addr) (m c : Nat) (ps : List Pt) (fs : List (Option B8)) (w : World) (hl : LB w g fs) (hp : PL w a m ps) (hne : 0 < m → ∀ p, a = some p → p.block ≠ g) (hin : ∀ q ∈ ps, 0 ≤ q.at_ ∧ q.at_ < 32) :
    Calls Try.prog 53 #[.pointer (some ⟨g, 0, none⟩), .slice a m c] w fun e w' => e = .returned (.tuple #[]) ∧ Hid (LB w' g (Mx.takeF fs ps)) ∧ Hid (w.grownBy w' (some g)) := by
  have hlen : m ≤ maxLen := hp.2.2.1
  unfold maxLen at hlen
  have HP := hide hp
  have HN := hide hp.1
  have HI := hide hin
  have HNE := hide hne
  have HL := hide hl
  have hgw := hl.2.lt
  clear hp hin hne hl
  go_enter Try.func53, Try.ntmps53
  go_wp2_with fail
  go_loopw [8] (fun t wr => ∃ k : Nat, k ≤ m ∧ t = .int .i64 (k : Int) ∧ Hid (LB wr g (Mx.takeF fs (ps.take k))) ∧ Hid (w.grownBy wr (some g))) (fun t _ => m - (intOf t).toNat)
  case atStart => exact ⟨0, by omega, rfl, HL, grow_refl _ _⟩
  case round =>
    obtain ⟨k, hk, rfl, hLx, hGx⟩ := hrel
    by_cases hlt : k < m
    · obtain ⟨b, off, p, hab, hbw, hpk, e0, e1, e2, e3, e4, e5, e6, e7, e8⟩ := (HP.out.grownBy hGx.out (fun h0 p hp e => HNE.out h0 p hp (Option.some.inj e).symm)).at_ k hlt
      subst hab
      have hpi := HI.out p (List.mem_of_getElem? hpk)
      obtain ⟨j, hj⟩ := Int.eq_ofNat_of_zero_le hpi.1
      have HK := hide hpk
      have HJ := hide hj
      rw [hj] at e0 hpi
      have hj32 : (j : Int) < 32 := hpi.2
      have hj32n : j < 32 := by omega
      have hj0 : (0 : Int) ≤ (j : Int) := hpi.1
      clear hpk hj hpi
      obtain ⟨W1, hW1⟩ : ∃ W1 : World, Hid (W1 = wr.alloc (.cells #[.int .i64 (j : Int), .int .u8 p.d.z0, .int .u8 p.d.z1, .int .u8 p.d.z2, .int .u8 p.d.z3, .int .u8 p.d.z4, .int .u8 p.d.z5, .int .u8 p.d.z6, .int .u8 p.d.z7] 29)) := ⟨_, rfl⟩
      have XP := hide (show Bx W1 wr.heap.size #[.int .i64 (j : Int), .int .u8 p.d.z0, .int .u8 p.d.z1, .int .u8 p.d.z2, .int .u8 p.d.z3, .int .u8 p.d.z4, .int .u8 p.d.z5, .int .u8 p.d.z6, .int .u8 p.d.z7] 29 by rw [hW1.out]; exact Bx.new wr _ _)
      have L1 := hide (show LB W1 g _ by rw [hW1.out]; exact hLx.out.later (below_alloc _ _) hLx.out.2.lt)
      have G1 := hide (show w.grownBy W1 (some g) by rw [hW1.out]; exact grow_alloc hGx.out _)
      have hgq : ¬ g = wr.heap.size := by have := hLx.out.2.lt; omega
      go_wp2_with fail
      rw [← hW1.out]
      clear e0 e1 e2 e3 e4 e5 e6 e7 e8
      have p0 := XP.out.cell 0
      have p1 := XP.out.cell 1
      have p2 := XP.out.cell 2
      have p3 := XP.out.cell 3
      have p4 := XP.out.cell 4
      have p5 := XP.out.cell 5
      have p6 := XP.out.cell 6
      have p7 := XP.out.cell 7
      have p8 := XP.out.cell 8
      simp only [List.getElem?_toArray, List.getElem?_cons_zero, List.getElem?_cons_succ] at p0 p1 p2 p3 p4 p5 p6 p7 p8
      obtain ⟨o, _, y0, y1, y2, y3, y4, y5, y6, y7, y8⟩ := L1.out.at_ j hj32n
      have yz := L1.out.2.frozen
      have HN2 := hide (show LB (set9 W1 g (j * 9) p.d).drew g (Mx.takeF fs (ps.take (k + 1))) ∧ w.grownBy (set9 W1 g (j * 9) p.d).drew (some g) from by
        rw [Mx.takeF_succ HK.out, HJ.out, Int.toNat_natCast]
        exact ⟨(L1.out.put j hj32n p.d).drew, grow_drew (grow_set9 G1.out _ _)⟩)
      go_region_held (fun w' => w'.cell? ⟨wr.heap.size, 0, none⟩ = some (.int .i64 (j : Int)) ∧ w'.cell? ⟨wr.heap.size, 1, none⟩ = some (.int .u8 p.d.z0) ∧ w'.cell? ⟨wr.heap.size, 2, none⟩ = some (.int .u8 p.d.z1) ∧ w'.cell? ⟨wr.heap.size, 3, none⟩ = some (.int .u8 p.d.z2) ∧ w'.cell? ⟨wr.heap.size, 4, none⟩ = some (.int .u8 p.d.z3) ∧ w'.cell? ⟨wr.heap.size, 5, none⟩ = some (.int .u8 p.d.z4) ∧ w'.cell? ⟨wr.heap.size, 6, none⟩ = some (.int .u8 p.d.z5) ∧ w'.cell? ⟨wr.heap.size, 7, none⟩ = some (.int .u8 p.d.z6) ∧ w'.cell? ⟨wr.heap.size, 8, none⟩ = some (.int .u8 p.d.z7))
        ((simp only [cell_drew, cell_set_far hgq]; with_reducible exact ⟨p0, p1, p2, p3, p4, p5, p6, p7, p8⟩)) (fail)
      go_wp2_with fail
      go_roundw
      case rel => exact ⟨k + 1, by omega, by go_num, HN2.out.1, HN2.out.2⟩
      case measure => simp [intOf]; omega
    · have HF := hide (show LB wr g (Mx.takeF fs ps) by
        have h := hLx.out
        rw [List.take_of_length_le (by rw [HN.out]; omega)] at h
        exact h)
      go_wp2_with fail
      exact bodyPost_end (v := .tuple #[]) (by simp [results, Try.results53, go_sem]) rfl ⟨rfl, HF, hGx⟩

def Mx.oneP (k : Nat) : Option B8 → List Pt
  | none => []
  | some d => [⟨(k : Int), d⟩]
theorem Mx.putsFrom_succ {fs : List (Option B8)} {k : Nat} {o : Option B8} (h : fs[k]? = some o) : Mx.putsFrom 0 (fs.take (k + 1)) = Mx.putsFrom 0 (fs.take k) ++ Mx.oneP k o := by
  have hk : k < fs.length := (List.getElem?_eq_some_iff.1 h).1
  rw [getElem_take_succ _ _ _ h, Mx.putsFrom_append, List.length_take, Nat.min_eq_left (by omega), Nat.zero_add]
  cases o <;> rfl
theorem Mx.putsFrom_len (k : Nat) (fs : List (Option B8)) : (Mx.putsFrom k fs).length ≤ fs.length := by
  induction fs generalizing k with
  | nil => exact Nat.le_refl _
  | cons o fs ih =>
    cases o with
    | none => have := ih (k + 1); simp only [Mx.putsFrom, List.length_cons]; omega
    | some d => have := ih (k + 1); simp only [Mx.putsFrom, List.length_cons]; omega

set_option maxHeartbeats 4000000 in
set_option maxRecDepth 100000 in
theorem puts_any (g : Nat) (fs : List (Option B8)) (w : World) (hl : LB w g fs) :
    Calls Try.prog 54 #[.pointer (some ⟨g, 0, none⟩)] w fun e w' => ∃ a' c', e = .returned (.slice a' (Mx.putsFrom 0 fs).length c') ∧ Hid (OwnPL w' w.heap.size (.slice a' (Mx.putsFrom 0 fs).length c') (Mx.putsFrom 0 fs)) ∧ Hid (Below w.heap.size w w') := by
  have HL := hide hl
  have hgw := hl.2.lt
  clear hl
  go_enter Try.func54, Try.ntmps54
  go_wp2_with fail
  go_loopw [3, 8] (fun s t wr => ∃ (k : Nat) (a' : Option Addr) (c' : Nat), k ≤ 32 ∧ t = .int .i64 (k : Int) ∧ s = .slice a' (Mx.putsFrom 0 (fs.take k)).length c' ∧ Hid (OwnPL wr w.heap.size (.slice a' (Mx.putsFrom 0 (fs.take k)).length c') (Mx.putsFrom 0 (fs.take k))) ∧ Hid (Below w.heap.size w wr)) (fun _ t _ => 32 - (intOf t).toNat)
  case atStart => exact ⟨0, none, 0, by omega, rfl, rfl, World.ownsRow_nil _ _ _ _, Below.refl _ _⟩
  case round =>
    obtain ⟨k, a', c', hk, rfl, rfl, hO, hB⟩ := hrel
    have HLEN := hide (show (Mx.putsFrom 0 (fs.take k)).length ≤ 32 by have := Mx.putsFrom_len 0 (fs.take k); rw [List.length_take] at this; omega)
    by_cases hlt : k < 32
    · obtain ⟨o, ho, y0, y1, y2, y3, y4, y5, y6, y7, y8⟩ := (HL.out.later hB.out hgw).at_ k hlt
      have HS := hide (Mx.putsFrom_succ ho)
      obtain ⟨L, hL⟩ : ∃ L, Hid (L = Mx.putsFrom 0 (fs.take k)) := ⟨_, rfl⟩
      rw [← hL.out] at hO HLEN HS ⊢
      have hki : (k : Int) < 32 := by omega
      have hgr : g < wr.heap.size := Nat.lt_of_lt_of_le hgw hB.out.size
      have hgn : ¬ wr.heap.size = g := by omega
      clear ho
      cases o with
      | none =>
        dsimp only [Option.getD, Option.isSome] at y0 y1 y2 y3 y4 y5 y6 y7 y8
        go_wp2_with fail
        go_region_held (fun w' => w'.cell? ⟨g, k * 9, none⟩ = some (.int .u8 zB.z0) ∧ w'.cell? ⟨g, k * 9 + 1, none⟩ = some (.int .u8 zB.z1) ∧ w'.cell? ⟨g, k * 9 + 2, none⟩ = some (.int .u8 zB.z2) ∧ w'.cell? ⟨g, k * 9 + 3, none⟩ = some (.int .u8 zB.z3) ∧ w'.cell? ⟨g, k * 9 + 4, none⟩ = some (.int .u8 zB.z4) ∧ w'.cell? ⟨g, k * 9 + 5, none⟩ = some (.int .u8 zB.z5) ∧ w'.cell? ⟨g, k * 9 + 6, none⟩ = some (.int .u8 zB.z6) ∧ w'.cell? ⟨g, k * 9 + 7, none⟩ = some (.int .u8 zB.z7) ∧ w'.cell? ⟨g, k * 9 + 8, none⟩ = some (.bool false))
          ((simp only [cell_drew, cell_alloc_lt hgr]; with_reducible exact ⟨y0, y1, y2, y3, y4, y5, y6, y7, y8⟩)) (fail)
        obtain ⟨W2, hW2⟩ : ∃ W2 : World, Hid (W2 = (wr.alloc (.cells #[.int .u8 zB.z0, .int .u8 zB.z1, .int .u8 zB.z2, .int .u8 zB.z3, .int .u8 zB.z4, .int .u8 zB.z5, .int .u8 zB.z6, .int .u8 zB.z7, .bool false] 109)).drew) := ⟨_, rfl⟩
        rw [← hW2.out]
        have X2 := hide (show Bx W2 wr.heap.size #[.int .u8 zB.z0, .int .u8 zB.z1, .int .u8 zB.z2, .int .u8 zB.z3, .int .u8 zB.z4, .int .u8 zB.z5, .int .u8 zB.z6, .int .u8 zB.z7, .bool false] 109 by rw [hW2.out]; exact Bx.newD wr _ _)
        have BW := hide (show Below wr.heap.size wr W2 by rw [hW2.out]; exact (below_alloc _ _).drew)
        have B2 := hide (hB.out.trans (BW.out.mono hB.out.size))
        have O2 := hide (show OwnPL W2 w.heap.size _ _ from rowKept hO.out BW.out)
        clear y0 y1 y2 y3 y4 y5 y6 y7 y8
        have q0 := X2.out.cell 0
        have q1 := X2.out.cell 1
        have q2 := X2.out.cell 2
        have q3 := X2.out.cell 3
        have q4 := X2.out.cell 4
        have q5 := X2.out.cell 5
        have q6 := X2.out.cell 6
        have q7 := X2.out.cell 7
        have q8 := X2.out.cell 8
        simp only [List.getElem?_toArray, List.getElem?_cons_zero, List.getElem?_cons_succ] at q0 q1 q2 q3 q4 q5 q6 q7 q8
        have HE := hide (show Mx.putsFrom 0 (fs.take (k + 1)) = L by rw [HS.out, Mx.oneP, List.append_nil])
        go_wp2_with fail
        go_roundw
        case rel =>
          refine ⟨k + 1, a', c', by omega, by go_num, by rw [HE.out], ?_, B2⟩
          rw [HE.out]
          exact O2
        case measure => simp [intOf]; omega
      | some d =>
        dsimp only [Option.getD, Option.isSome] at y0 y1 y2 y3 y4 y5 y6 y7 y8
        go_wp2_with fail
        go_region_held (fun w' => w'.cell? ⟨g, k * 9, none⟩ = some (.int .u8 d.z0) ∧ w'.cell? ⟨g, k * 9 + 1, none⟩ = some (.int .u8 d.z1) ∧ w'.cell? ⟨g, k * 9 + 2, none⟩ = some (.int .u8 d.z2) ∧ w'.cell? ⟨g, k * 9 + 3, none⟩ = some (.int .u8 d.z3) ∧ w'.cell? ⟨g, k * 9 + 4, none⟩ = some (.int .u8 d.z4) ∧ w'.cell? ⟨g, k * 9 + 5, none⟩ = some (.int .u8 d.z5) ∧ w'.cell? ⟨g, k * 9 + 6, none⟩ = some (.int .u8 d.z6) ∧ w'.cell? ⟨g, k * 9 + 7, none⟩ = some (.int .u8 d.z7) ∧ w'.cell? ⟨g, k * 9 + 8, none⟩ = some (.bool true))
          ((simp only [cell_drew, cell_alloc_lt hgr]; with_reducible exact ⟨y0, y1, y2, y3, y4, y5, y6, y7, y8⟩)) (fail)
        obtain ⟨W2, hW2⟩ : ∃ W2 : World, Hid (W2 = (wr.alloc (.cells #[.int .u8 d.z0, .int .u8 d.z1, .int .u8 d.z2, .int .u8 d.z3, .int .u8 d.z4, .int .u8 d.z5, .int .u8 d.z6, .int .u8 d.z7, .bool true] 109)).drew) := ⟨_, rfl⟩
        rw [← hW2.out]
        have X2 := hide (show Bx W2 wr.heap.size #[.int .u8 d.z0, .int .u8 d.z1, .int .u8 d.z2, .int .u8 d.z3, .int .u8 d.z4, .int .u8 d.z5, .int .u8 d.z6, .int .u8 d.z7, .bool true] 109 by rw [hW2.out]; exact Bx.newD wr _ _)
        have BW := hide (show Below wr.heap.size wr W2 by rw [hW2.out]; exact (below_alloc _ _).drew)
        have B2 := hide (hB.out.trans (BW.out.mono hB.out.size))
        have O2 := hide (show OwnPL W2 w.heap.size _ _ from rowKept hO.out BW.out)
        clear y0 y1 y2 y3 y4 y5 y6 y7 y8
        have q0 := X2.out.cell 0
        have q1 := X2.out.cell 1
        have q2 := X2.out.cell 2
        have q3 := X2.out.cell 3
        have q4 := X2.out.cell 4
        have q5 := X2.out.cell 5
        have q6 := X2.out.cell 6
        have q7 := X2.out.cell 7
        have q8 := X2.out.cell 8
        simp only [List.getElem?_toArray, List.getElem?_cons_zero, List.getElem?_cons_succ] at q0 q1 q2 q3 q4 q5 q6 q7 q8
        have HE := hide (show Mx.putsFrom 0 (fs.take (k + 1)) = L ++ [⟨(k : Int), d⟩] by rw [HS.out, Mx.oneP])
        go_wp2_with (at_builtin; refine wpList_append_put (w := W2) rfl _ _ rfl w.heap.size L ?c0 ⟨(k : Int), d⟩ ?c1 ?c2 ?c3 ?_)
        case c0 => exact O2.out
        case c1 => rfl
        case c2 => have := HLEN.out; omega
        case c3 => exact B2.out.size
        intro ad3 cc3 w3 hown3 hg3
        have O3 := hide hown3
        have B3 := hide (B2.out.grown hg3 B2.out.size (fun i hi => (World.ownsRow.lt O2.out i hi).1))
        clear hown3 hg3
        go_wp2_with fail
        go_roundw
        case rel =>
          refine ⟨k + 1, some ad3, cc3, by omega, by go_num, by rw [HE.out, List.length_append] <;> rfl, ?_, B3⟩
          rw [HE.out, List.length_append]
          exact O3
        case measure => simp [intOf]; omega
    · have HE := hide (show fs.take k = fs by rw [List.take_of_length_le (by rw [HL.out.1]; omega)])
      rw [HE.out] at hO ⊢
      go_wp2_with fail
      go_ret
      exact ⟨a', c', rfl, hO, hB⟩
end Go.Proofs.Ytkebmfocgalinab

/-
  Builders: the document's answer (BuilderMay); a builder of which nothing is said (hugeBuilder).
-/
namespace Go.Proofs.Ytkebmfocgalinab
open Go.RowKit

set_option maxHeartbeats 8000000 in
set_option maxRecDepth 100000 in
theorem builderMay_any (num : Int) (oa : Option Addr) (on oc : Nat) (sa : Option Addr) (sn sc : Nat) (be : Bool) (ops : List Pt) (es : List Ep) (n : Int) (w : World) (hp : PL w oa on ops) (he : EL w sa sn es) :
    Calls Try.prog 11 #[.agg #[.int .i64 num, .slice oa on oc, .slice sa sn sc, .bool be], .int .i64 n] w fun e w' => e = .returned (.int .i64 (Mx.bmay ⟨num, ops, es, be⟩ n)) ∧ Below w.heap.size w w' := by
  have hlen : sn ≤ maxLen := he.2.1
  unfold maxLen at hlen
  have HP := hide hp
  have HE := hide he
  have HN := hide he.1
  clear hp he
  by_cases h1 : n < 1
  · have dh1 : decide (n < 1) = true := by simpa using h1
    have HF := hide (Mx.bmay_1 (b := ⟨num, ops, es, be⟩) (n := n) (.inl h1))
    go_enter Try.func11, Try.ntmps11
    go_wp2_with fail
    go_ret
    exact ⟨by rw [HF.out] <;> rfl, below_alloc _ _⟩
  have dh1 : decide (n < 1) = false := by simpa using h1
  by_cases h2 : 32 < n
  · have dh2 : decide (32 < n) = true := by simpa using h2
    have HF := hide (Mx.bmay_1 (b := ⟨num, ops, es, be⟩) (n := n) (.inr (.inl h2)))
    go_enter Try.func11, Try.ntmps11
    go_wp2_with fail
    go_ret
    exact ⟨by rw [HF.out] <;> rfl, below_alloc _ _⟩
  have dh2 : decide (32 < n) = false := by simpa using h2
  by_cases h3 : num < 0
  · have dh3 : decide (num < 0) = true := by simpa using h3
    have HF := hide (Mx.bmay_1 (b := ⟨num, ops, es, be⟩) (n := n) (.inr (.inr (.inl h3))))
    go_enter Try.func11, Try.ntmps11
    go_wp2_with fail
    go_ret
    exact ⟨by rw [HF.out] <;> rfl, below_alloc _ _⟩
  have dh3 : decide (num < 0) = false := by simpa using h3
  by_cases h4 : 2147483647 < num
  · have dh4 : decide (2147483647 < num) = true := by simpa using h4
    have HF := hide (Mx.bmay_1 (b := ⟨num, ops, es, be⟩) (n := n) (.inr (.inr (.inr h4))))
    go_enter Try.func11, Try.ntmps11
    go_wp2_with fail
    go_ret
    exact ⟨by rw [HF.out] <;> rfl, below_alloc _ _⟩
  have dh4 : decide (2147483647 < num) = false := by simpa using h4
  have hrg : ¬ (n < 1 ∨ 32 < n ∨ num < 0 ∨ 2147483647 < num) := by omega
  by_cases h5 : (4 : Int) < sn
  · have dh5 : decide ((4 : Int) < sn) = true := by simpa using h5
    have HF := hide (Mx.bmay_2 (b := ⟨num, ops, es, be⟩) (n := n) hrg (by have := HN.out; show 4 < es.length; omega))
    go_enter Try.func11, Try.ntmps11
    go_wp2_with fail
    go_ret
    exact ⟨by rw [HF.out] <;> rfl, below_alloc _ _⟩
  have dh5 : decide ((4 : Int) < sn) = false := by simpa using h5
  have hsl : ¬ 4 < es.length := by have := HN.out; omega
  obtain ⟨N, rfl⟩ := Int.eq_ofNat_of_zero_le (show 0 ≤ n by omega)
  obtain ⟨w0, hw0⟩ : ∃ w0 : World, Hid (w0 = w.alloc (.cells #[.int .i64 num, .slice oa on oc, .slice sa sn sc, .bool be] 25)) := ⟨_, rfl⟩
  have X0 := hide (show Bx w0 w.heap.size #[.int .i64 num, .slice oa on oc, .slice sa sn sc, .bool be] 25 by rw [hw0.out]; exact Bx.new w _ _)
  have B0 := hide (show Below w.heap.size w w0 by rw [hw0.out]; exact below_alloc _ _)
  have HE0 := hide (HE.out.later B0.out)
  have HP0 := hide (HP.out.later B0.out)
  go_enter Try.func11, Try.ntmps11
  go_wp2_with fail
  rw [← hw0.out]
  refine (rising_any oa on oc ops N _ HP0.out).mono ?_
  rintro e w1 ⟨rfl, q1, hq1⟩
  have X1 := hide (show Bx w1 w.heap.size _ _ by rw [hq1]; exact X0.out.later (below_drewN (Below.refl _ _) q1) X0.out.lt)
  have B1 := hide (show Below w.heap.size w w1 by rw [hq1]; exact below_drewN B0.out q1)
  have HE1 := hide (HE.out.later B1.out)
  obtain ⟨f0, f1, f2, f3⟩ := X1.out.four
  clear hq1
  cases hr : Mx.riseB (N : Int) ops with
  | false =>
    have HF := hide (Mx.bmay_3 (b := ⟨num, ops, es, be⟩) (n := N) hrg hsl (by unfold Mx.goodB; rw [hr]; simp))
    clear hr
    go_wp2_with fail
    go_ret
    exact ⟨by rw [HF.out] <;> rfl, B1.out⟩
  | true =>
    have HR := hide hr
    clear hr
    have hbe : be = true ∧ (0 : Int) < sn ∨ be = true ∧ ¬ (0 : Int) < sn ∨ be = false := by cases be <;> simp; omega
    rcases hbe with ⟨rfl, hs⟩ | hbe
    · have dhs : decide ((0 : Int) < sn) = true := by simpa using hs
      have HF := hide (Mx.bmay_3 (b := ⟨num, ops, es, true⟩) (n := N) hrg hsl (by unfold Mx.goodB; rw [show decide (0 < es.length) = true by have := HN.out; simp; omega]; rfl))
      go_wp2_with fail
      go_ret
      exact ⟨by rw [HF.out] <;> rfl, B1.out⟩
    have HBE := hide (show (be && decide (0 < es.length)) = false by
      rcases hbe with ⟨rfl, hs⟩ | rfl
      · have := HN.out
        rw [Bool.true_and, decide_eq_false_iff_not]
        omega
      · rfl)
    have HM3r := hide (show Mx.riseB (N : Int) ops = false → Mx.bmay ⟨num, ops, es, be⟩ N = 3 from fun hr => Mx.bmay_3 hrg hsl (by unfold Mx.goodB; rw [hr]; simp))
    have HM3f := hide (show Mx.folB es num (N : Int) = false → Mx.bmay ⟨num, ops, es, be⟩ N = 3 from fun hf => Mx.bmay_3 hrg hsl (by unfold Mx.goodB; rw [hf]; simp))
    have HM0 := hide (show Mx.riseB (N : Int) ops = true → Mx.folB es num (N : Int) = true → Mx.bmay ⟨num, ops, es, be⟩ N = 0 from fun hr hf => Mx.bmay_0 hrg hsl (by unfold Mx.goodB; rw [hr, hf, HBE.out]; rfl))
    by_cases h6 : num < (sn : Int)
    · have dh6 : decide (num < (sn : Int)) = true := by simpa using h6
      have HF := hide (Mx.bmay_3 (b := ⟨num, ops, es, be⟩) (n := N) hrg hsl (by unfold Mx.goodB; rw [Mx.folB_neg (by have := HN.out; show num < es.length; omega)]; simp))
      rcases hbe with ⟨rfl, hs⟩ | rfl
      · exfalso
        omega
      · go_wp2_with fail
        go_ret
        exact ⟨by rw [HF.out] <;> rfl, B1.out⟩
    have dh6 : decide (num < (sn : Int)) = false := by simpa using h6
    rcases hbe with ⟨rfl, hs⟩ | rfl
    · have dhs : decide ((0 : Int) < sn) = false := by simpa using hs
      go_wp2_with fail
      go_loopw [5] (fun t wr => ∃ j q : Nat, j ≤ sn ∧ t = .int .i64 (j : Int) ∧ Hid (Mx.folTo es num N j) ∧ wr = w1.drewN q) (fun t _ => sn - (intOf t).toNat)
      case atStart => exact ⟨0, 0, by omega, rfl, fun i hi => absurd hi (by omega), rfl⟩
      case round =>
        obtain ⟨j, q, hj, rfl, hR, rfl⟩ := hrel
        obtain ⟨wq, hwq⟩ : ∃ wq : World, Hid (wq = w1.drewN q) := ⟨_, rfl⟩
        rw [← hwq.out]
        have BQ := hide (show Below w.heap.size w wq by rw [hwq.out]; exact below_drewN B1.out q)
        have XQ := hide (show Bx wq w.heap.size _ _ by rw [hwq.out]; exact X1.out.later (below_drewN (Below.refl _ _) q) X1.out.lt)
        clear f0 f1 f2 f3
        obtain ⟨f0, f1, f2, f3⟩ := XQ.out.four
        have hlt : ¬ j < sn := by omega
        have HF := hide (HM0.out HR.out (Mx.folB_all (by rw [HN.out]; omega) (fun i hi => hR.out i (by have := HN.out; omega))))
        go_wp2_with fail
        go_ret
        exact ⟨by rw [HF.out] <;> rfl, BQ.out⟩
    · go_wp2_with fail
      go_loopw [5] (fun t wr => ∃ j q : Nat, j ≤ sn ∧ t = .int .i64 (j : Int) ∧ Hid (Mx.folTo es num N j) ∧ wr = w1.drewN q) (fun t _ => sn - (intOf t).toNat)
      case atStart => exact ⟨0, 0, by omega, rfl, fun i hi => absurd hi (by omega), rfl⟩
      case round =>
        obtain ⟨j, q, hj, rfl, hR, rfl⟩ := hrel
        obtain ⟨wq, hwq⟩ : ∃ wq : World, Hid (wq = w1.drewN q) := ⟨_, rfl⟩
        rw [← hwq.out]
        have BQ := hide (show Below w.heap.size w wq by rw [hwq.out]; exact below_drewN B1.out q)
        have XQ := hide (show Bx wq w.heap.size _ _ by rw [hwq.out]; exact X1.out.later (below_drewN (Below.refl _ _) q) X1.out.lt)
        clear f0 f1 f2 f3
        obtain ⟨f0, f1, f2, f3⟩ := XQ.out.four
        by_cases hlt : j < sn
        · obtain ⟨b, off, e, ai, ni, ci, hab, _, hx, e0, e1, hp, hc⟩ := (HE.out.later BQ.out).at_ j hlt
          subst hab
          obtain ⟨z, ps⟩ := e
          have HG := hide (show Mx.goodE N num es.length j (es.getD j Mx.dE) = (Mx.riseB N ps && decide (z = num - sn + 1 + j)) by unfold Mx.goodE; rw [List.getD_eq_getElem?_getD, hx, HN.out]; rfl)
          have HPQ := hide hp
          dsimp only at e0
          clear hx hp
          have hji : (j : Int) < sn := by omega
          cases hr : Mx.riseB (N : Int) ps with
          | false =>
            have HRZ := hide hr
            have HF := hide (HM3f.out (Mx.folB_not (by rw [HN.out]; exact hlt) (by rw [HG.out, hr]; rfl)))
            clear hr
            go_wp2_with fail
            go_quiet ((go_at_call 25; refine Calls.quiet_of (v := .bool false) ?_; rw [← HRZ.out]; exact rising_any ai ni ci ps N _ (HPQ.out.later (below_drewN (Below.refl _ _) _))))
            all_goals
              go_wp2_with fail
              go_ret
              exact ⟨by rw [HF.out] <;> rfl, below_drewN BQ.out _⟩
          | true =>
            have HRZ := hide hr
            by_cases hz : z = num - ((sn : Int) - 1 - (j : Int))
            · have HR2 := hide (Mx.folTo_succ hR.out (by rw [HG.out, hr]; simp; omega))
              clear hr
              subst hz
              go_wp2_with fail
              go_quiet ((go_at_call 25; refine Calls.quiet_of (v := .bool true) ?_; rw [← HRZ.out]; exact rising_any ai ni ci ps N _ (HPQ.out.later (below_drewN (Below.refl _ _) _))))
              all_goals
                go_wp2_with fail
                go_roundw
                case rel => exact ⟨j + 1, _, by omega, by go_num, HR2, by rw [hwq.out, World.drewN_drewN]⟩
                case measure => simp [intOf]; omega
            · have hne : (z != num - ((sn : Int) - 1 - (j : Int))) = true := by simpa using hz
              have HF := hide (HM3f.out (Mx.folB_not (by rw [HN.out]; exact hlt) (by rw [HG.out, Bool.and_eq_false_iff]; right; rw [decide_eq_false_iff_not]; omega)))
              clear hr hz
              go_wp2_with fail
              go_quiet ((go_at_call 25; refine Calls.quiet_of (v := .bool true) ?_; rw [← HRZ.out]; exact rising_any ai ni ci ps N _ (HPQ.out.later (below_drewN (Below.refl _ _) _))))
              all_goals
                go_wp2_with fail
                go_ret
                exact ⟨by rw [HF.out] <;> rfl, below_drewN BQ.out _⟩
        · have HF := hide (HM0.out HR.out (Mx.folB_all (by rw [HN.out]; omega) (fun i hi => hR.out i (by have := HN.out; omega))))
          go_wp2_with fail
          go_ret
          exact ⟨by rw [HF.out] <;> rfl, BQ.out⟩

/-- not huge -/
def Mx.small (ops : List Pt) (es : List Ep) : Prop := (∀ e ∈ es, e.puts.length ≤ 100) ∧ es.length ≤ 20 ∧ ops.length ≤ 100
def Mx.hugeB (ops : List Pt) (es : List Ep) : Bool := es.any (fun e => decide (100 < e.puts.length)) || decide (20 < es.length) || decide (100 < ops.length)
theorem Mx.small_of {ops : List Pt} {es : List Ep} (h : Mx.hugeB ops es = false) : Mx.small ops es := by
  unfold Mx.hugeB at h
  simp only [Bool.or_eq_false_iff, List.any_eq_false, decide_eq_true_eq, decide_eq_false_iff_not] at h
  exact ⟨fun e he => by have := h.1.1 e he; omega, by omega, by omega⟩
theorem Mx.huge_1 {ops : List Pt} {es : List Ep} {j : Nat} {e : Ep} (he : es[j]? = some e) (h : 100 < e.puts.length) : Mx.hugeB ops es = true := by
  unfold Mx.hugeB
  rw [show es.any (fun e => decide (100 < e.puts.length)) = true from List.any_eq_true.2 ⟨e, List.mem_of_getElem? he, by simpa using h⟩]
  rfl
theorem Mx.huge_2 {ops : List Pt} {es : List Ep} (h : 20 < es.length) : Mx.hugeB ops es = true := by
  unfold Mx.hugeB
  simp [h]
theorem Mx.huge_3 {ops : List Pt} {es : List Ep} (h : 100 < ops.length) : Mx.hugeB ops es = true := by
  unfold Mx.hugeB
  simp [h]
theorem Mx.huge_0 {ops : List Pt} {es : List Ep} (h : Mx.small ops es) : Mx.hugeB ops es = false := by
  unfold Mx.hugeB
  simp only [Bool.or_eq_false_iff, List.any_eq_false, decide_eq_true_eq, decide_eq_false_iff_not]
  exact ⟨⟨fun e he => by have := h.1 e he; omega, by have := h.2.1; omega⟩, by have := h.2.2; omega⟩

set_option maxHeartbeats 4000000 in
set_option maxRecDepth 100000 in
theorem hugeBuilder_any (num : Int) (oa : Option Addr) (on oc : Nat) (sa : Option Addr) (sn sc : Nat) (be : Bool) (ops : List Pt) (es : List Ep) (w : World) (hp : PL w oa on ops) (he : EL w sa sn es) :
    Calls Try.prog 10 #[.agg #[.int .i64 num, .slice oa on oc, .slice sa sn sc, .bool be]] w fun e w' => e = .returned (.bool (Mx.hugeB ops es)) ∧ Below w.heap.size w w' := by
  have hlen : sn ≤ maxLen := he.2.1
  have hlen2 : on ≤ maxLen := hp.2.2.1
  unfold maxLen at hlen hlen2
  have HE := hide he
  have HN := hide he.1
  have HPN := hide hp.1
  clear hp he
  obtain ⟨w0, hw0⟩ : ∃ w0 : World, Hid (w0 = w.alloc (.cells #[.int .i64 num, .slice oa on oc, .slice sa sn sc, .bool be] 25)) := ⟨_, rfl⟩
  have X0 := hide (show Bx w0 w.heap.size #[.int .i64 num, .slice oa on oc, .slice sa sn sc, .bool be] 25 by rw [hw0.out]; exact Bx.new w _ _)
  have B0 := hide (show Below w.heap.size w w0 by rw [hw0.out]; exact below_alloc _ _)
  go_enter Try.func10, Try.ntmps10
  go_wp2_with fail
  rw [← hw0.out]
  obtain ⟨f0, f1, f2, f3⟩ := X0.out.four
  go_loopw [3] (fun t wr => ∃ j : Nat, j ≤ sn ∧ t = .int .i64 (j : Int) ∧ Hid (∀ i e, i < j → es[i]? = some e → e.puts.length ≤ 100) ∧ Hid (wr = w0)) (fun t _ => sn - (intOf t).toNat)
  case atStart => exact ⟨0, by omega, rfl, fun i e hi => absurd hi (by omega), hide rfl⟩
  case round =>
    obtain ⟨j, hj, rfl, hR, hwr⟩ := hrel
    obtain rfl := hwr.out
    by_cases hlt : j < sn
    · obtain ⟨b, off, e, ai, ni, ci, hab, _, hx, e0, e1, hp, hc⟩ := (HE.out.later B0.out).at_ j hlt
      subst hab
      have hnm : ni ≤ maxLen := hp.2.2.1
      unfold maxLen at hnm
      have HX := hide hx
      have HL := hide hp.1
      have hji : (j : Int) < sn := by omega
      clear hx hp e0 f0 f1 f3
      by_cases h1 : (100 : Int) < ni
      · have dh1 : decide ((100 : Int) < ni) = true := by simpa using h1
        have HF := hide (Mx.huge_1 (ops := ops) HX.out (by rw [HL.out]; omega))
        go_wp2_with fail
        go_ret
        exact ⟨by rw [HF.out] <;> rfl, B0.out⟩
      · have dh1 : decide ((100 : Int) < ni) = false := by simpa using h1
        have HR2 := hide (show ∀ i e, i < j + 1 → es[i]? = some e → e.puts.length ≤ 100 by
          intro i e' hi he'
          rcases Nat.lt_succ_iff_lt_or_eq.1 hi with h | h
          · exact hR.out i e' h he'
          · subst h
            rw [HX.out] at he'
            cases he'
            rw [HL.out]
            omega)
        go_wp2_with fail
        go_roundw
        case rel => exact ⟨j + 1, by omega, by go_num, HR2, by first | exact trivial | exact hide rfl⟩
        case measure => simp [intOf]; omega
    · by_cases h2 : (20 : Int) < sn
      · have dh2 : decide ((20 : Int) < sn) = true := by simpa using h2
        have HF := hide (Mx.huge_2 (ops := ops) (es := es) (by rw [HN.out]; omega))
        go_wp2_with fail
        go_ret
        exact ⟨by rw [HF.out] <;> rfl, B0.out⟩
      · have dh2 : decide ((20 : Int) < sn) = false := by simpa using h2
        by_cases h3 : (100 : Int) < on
        · have dh3 : decide ((100 : Int) < on) = true := by simpa using h3
          have HF := hide (Mx.huge_3 (ops := ops) (es := es) (by rw [HPN.out]; omega))
          go_wp2_with fail
          go_ret
          exact ⟨by rw [HF.out] <;> rfl, B0.out⟩
        · have dh3 : decide ((100 : Int) < on) = false := by simpa using h3
          have HS := hide (show Mx.small ops es from ⟨fun e he => by
            obtain ⟨i, hi⟩ := List.mem_iff_getElem?.1 he
            exact hR.out i e (by have := (List.getElem?_eq_some_iff.1 hi).1; have := HN.out; omega) hi, by have := HN.out; omega, by have := HPN.out; omega⟩)
          go_wp2_with fail
          go_ret
          exact ⟨by rw [Mx.huge_0 HS.out] <;> rfl, B0.out⟩

end Go.Proofs.Ytkebmfocgalinab

/-
  A put put into puts that rise: the document's answer (Put).
-/
namespace Go.Proofs.Ytkebmfocgalinab
open Go.RowKit

theorem OwnPL.laterN {w : World} {base : Nat} {v : Value} {l : List Pt} (h : OwnPL w base v l) (q : Nat) : OwnPL (w.drewN q) base v l := rowKept h (below_drewN (Below.refl _ _) q)
theorem Bx.nine {w : World} {g : Nat} {p : Pt} {t : TypeId} (h : Bx w g #[.int .i64 p.at_, .int .u8 p.d.z0, .int .u8 p.d.z1, .int .u8 p.d.z2, .int .u8 p.d.z3, .int .u8 p.d.z4, .int .u8 p.d.z5, .int .u8 p.d.z6, .int .u8 p.d.z7] t) :
    w.cell? ⟨g, 0, none⟩ = some (.int .i64 p.at_) ∧ w.cell? ⟨g, 1, none⟩ = some (.int .u8 p.d.z0) ∧ w.cell? ⟨g, 2, none⟩ = some (.int .u8 p.d.z1) ∧ w.cell? ⟨g, 3, none⟩ = some (.int .u8 p.d.z2) ∧ w.cell? ⟨g, 4, none⟩ = some (.int .u8 p.d.z3) ∧
    w.cell? ⟨g, 5, none⟩ = some (.int .u8 p.d.z4) ∧ w.cell? ⟨g, 6, none⟩ = some (.int .u8 p.d.z5) ∧ w.cell? ⟨g, 7, none⟩ = some (.int .u8 p.d.z6) ∧ w.cell? ⟨g, 8, none⟩ = some (.int .u8 p.d.z7) :=
  ⟨h.cell 0, h.cell 1, h.cell 2, h.cell 3, h.cell 4, h.cell 5, h.cell 6, h.cell 7, h.cell 8⟩

namespace Mx
/-- the state behind k rounds -/
def stTo (l : List Pt) (p : Pt) (k : Nat) : List Pt × Bool := (l.take k).foldl (stepF p) ([], false)
theorem stTo_succ {l : List Pt} {p q : Pt} {k : Nat} (h : l[k]? = some q) : stTo l p (k + 1) = stepF p (stTo l p k) q := by
  unfold stTo
  rw [getElem_take_succ _ _ _ h, List.foldl_append]
  rfl
theorem stTo_len (l : List Pt) (p : Pt) (k : Nat) (hk : k ≤ l.length) : (stTo l p k).1.length ≤ 2 * k := by
  induction k with
  | zero => simp [stTo]
  | succ k ih =>
    have h1 := ih (by omega)
    rw [stTo_succ (List.getElem?_eq_getElem (show k < l.length by omega))]
    generalize stTo l p k = s at *
    unfold stepF
    dsimp only
    split <;> split <;> simp at * <;> omega
end Mx

set_option maxHeartbeats 8000000 in
set_option maxRecDepth 100000 in
theorem put_any (a : Option Addr) (m c : Nat) (l : List Pt) (p : Pt) (w : World) (hp : PL w a m l) (hm : m ≤ 1000) :
    Calls Try.prog 19 #[.slice a m c, .agg #[.int .i64 p.at_, .int .u8 p.d.z0, .int .u8 p.d.z1, .int .u8 p.d.z2, .int .u8 p.d.z3, .int .u8 p.d.z4, .int .u8 p.d.z5, .int .u8 p.d.z6, .int .u8 p.d.z7]] w fun e w' => ∃ a' c', e = .returned (.slice a' (Mx.putF l p).length c') ∧ Hid (OwnPL w' w.heap.size (.slice a' (Mx.putF l p).length c') (Mx.putF l p)) ∧ Hid (Below w.heap.size w w') := by
  obtain ⟨w0, hw0⟩ : ∃ w0 : World, Hid (w0 = w.alloc (.cells #[.int .i64 p.at_, .int .u8 p.d.z0, .int .u8 p.d.z1, .int .u8 p.d.z2, .int .u8 p.d.z3, .int .u8 p.d.z4, .int .u8 p.d.z5, .int .u8 p.d.z6, .int .u8 p.d.z7] 29)) := ⟨_, rfl⟩
  have X0 := hide (show Bx w0 w.heap.size #[.int .i64 p.at_, .int .u8 p.d.z0, .int .u8 p.d.z1, .int .u8 p.d.z2, .int .u8 p.d.z3, .int .u8 p.d.z4, .int .u8 p.d.z5, .int .u8 p.d.z6, .int .u8 p.d.z7] 29 by rw [hw0.out]; exact Bx.new w _ _)
  have BB := hide (show Below w.heap.size w w0 by rw [hw0.out]; exact below_alloc _ _)
  have HP0 := hide (hp.later BB.out)
  have HN := hide hp.1
  clear hp
  go_enter Try.func19, Try.ntmps19
  go_wp2_with fail
  rw [← hw0.out]
  go_loopw [5, 6, 7] (fun s d t wr => ∃ (k : Nat) (a' : Option Addr) (c' : Nat), k ≤ m ∧ t = .int .i64 (k : Int) ∧ d = .bool (Mx.stTo l p k).2 ∧ s = .slice a' (Mx.stTo l p k).1.length c' ∧ Hid (OwnPL wr w0.heap.size (.slice a' (Mx.stTo l p k).1.length c') (Mx.stTo l p k).1) ∧ Hid (Below w0.heap.size w0 wr)) (fun _ _ t _ => m - (intOf t).toNat)
  case atStart => exact ⟨0, none, 0, by omega, rfl, rfl, rfl, World.ownsRow_nil _ _ _ _, Below.refl _ _⟩
  case round =>
    obtain ⟨k, a', c', hk, rfl, rfl, rfl, hO, hB⟩ := hrel
    have HLEN := hide (Mx.stTo_len l p k (by rw [HN.out]; exact hk))
    obtain ⟨L, hL⟩ : ∃ L, Hid (L = (Mx.stTo l p k).1) := ⟨_, rfl⟩
    obtain ⟨d, hd⟩ : ∃ d, Hid (d = (Mx.stTo l p k).2) := ⟨_, rfl⟩
    have HST := hide (show Mx.stTo l p k = (L, d) by rw [hL.out, hd.out])
    rw [← hL.out] at hO HLEN ⊢
    rw [← hd.out]
    obtain ⟨f0, f1, f2, f3, f4, f5, f6, f7, f8⟩ := (X0.out.later hB.out X0.out.lt).nine
    by_cases hlt : k < m
    · obtain ⟨b, off, q, hab, hbw, hqk, e0, e1, e2, e3, e4, e5, e6, e7, e8⟩ := (HP0.out.later hB.out).at_ k hlt
      subst hab
      have HQ := hide hqk
      have HS := hide (Mx.stTo_succ (p := p) hqk)
      have hki : (k : Int) < m := by omega
      clear hqk
      obtain ⟨px, pd⟩ := p
      obtain ⟨qx, qd⟩ := q
      dsimp only at *
      cases d with
      | false =>
        by_cases h1 : px ≤ qx
        · have hd1 : decide (px ≤ qx) = true := by simpa using h1
          go_wp2_with fail
          go_quiet (fail)
          go_wp2_with (at_builtin; refine wpList_append_put rfl _ _ rfl w0.heap.size L ?c0 ⟨px, pd⟩ ?c1 ?c2 ?c3 ?_)
          case c0 => first | exact OwnPL.laterN hO.out _ | exact OwnPL.laterN (OwnPL.laterN hO.out _) _ | exact hO.out
          case c1 => rfl
          case c2 => have := HLEN.out; (try simp only [List.length_append, List.length_singleton]); omega
          case c3 => exact hB.out.size
          intro ad2 cc2 w2 hown2 hg2
          have O2 := hide hown2
          have B2 := hide (show Below w0.heap.size w0 w2 from by first | exact (below_drewN hB.out _).grown hg2 hB.out.size (fun i hi => (World.ownsRow.lt hO.out i hi).1) | exact (below_drewN (below_drewN hB.out _) _).grown hg2 hB.out.size (fun i hi => (World.ownsRow.lt hO.out i hi).1) | exact hB.out.grown hg2 hB.out.size (fun i hi => (World.ownsRow.lt hO.out i hi).1))
          clear hown2 hg2
          clear f0 f1 f2 f3 f4 f5 f6 f7 f8 e0 e1 e2 e3 e4 e5 e6 e7 e8
          obtain ⟨f0, f1, f2, f3, f4, f5, f6, f7, f8⟩ := Bx.nine (p := ⟨px, pd⟩) (X0.out.later B2.out X0.out.lt)
          obtain ⟨b', off', q', hab', _, hqk', e0, e1, e2, e3, e4, e5, e6, e7, e8⟩ := (HP0.out.later B2.out).at_ k hlt
          cases hab'
          have hqq := HQ.out.symm.trans hqk'
          cases hqq
          clear hqk'
          dsimp only at *
          by_cases h2 : qx = px
          · subst h2
            go_wp2_with fail
            go_quiet (fail)
            have HS2 := hide (show Mx.stTo l ⟨qx, pd⟩ (k + 1) = (L ++ [⟨qx, pd⟩], true) by rw [HS.out, HST.out]; unfold Mx.stepF; simp)
            go_wp2_with fail
            go_roundw
            case rel =>
              refine ⟨k + 1, some ad2, cc2, by omega, by go_num, by rw [HS2.out], by rw [HS2.out]; simp, ?_, hide (below_drewN B2.out _)⟩
              rw [HS2.out]
              dsimp only
              rw [List.length_append]
              first | exact hide (OwnPL.laterN O2.out _) | simpa [List.append_assoc] using hide (OwnPL.laterN O2.out _)
            case measure => simp [intOf]; omega
          · have hne : (qx != px) = true := by simpa using h2
            go_wp2_with fail
            go_quiet (fail)
            go_wp2_with (at_builtin; refine wpList_append_put rfl _ _ rfl w0.heap.size (L ++ [⟨px, pd⟩]) ?c0 ⟨qx, qd⟩ ?c1 ?c2 ?c3 ?_)
            case c0 => first | exact OwnPL.laterN O2.out _ | exact OwnPL.laterN (OwnPL.laterN O2.out _) _ | exact O2.out
            case c1 => rfl
            case c2 => have := HLEN.out; (try simp only [List.length_append, List.length_singleton]); omega
            case c3 => exact B2.out.size
            intro ad3 cc3 w3 hown3 hg3
            have O3 := hide hown3
            have B3 := hide (show Below w0.heap.size w0 w3 from by first | exact (below_drewN B2.out _).grown hg3 B2.out.size (fun i hi => (World.ownsRow.lt O2.out i hi).1) | exact (below_drewN (below_drewN B2.out _) _).grown hg3 B2.out.size (fun i hi => (World.ownsRow.lt O2.out i hi).1) | exact B2.out.grown hg3 B2.out.size (fun i hi => (World.ownsRow.lt O2.out i hi).1))
            clear hown3 hg3
            have HS2 := hide (show Mx.stTo l ⟨px, pd⟩ (k + 1) = (L ++ [⟨px, pd⟩] ++ [⟨qx, qd⟩], true) by rw [HS.out, HST.out]; unfold Mx.stepF; simp [h1, h2])
            go_wp2_with fail
            go_roundw
            case rel =>
              refine ⟨k + 1, some ad3, cc3, by omega, by go_num, by rw [HS2.out], by rw [HS2.out]; simp, ?_, B3⟩
              rw [HS2.out]
              dsimp only
              rw [List.length_append]
              first | exact O3 | simpa [List.append_assoc] using O3
            case measure => simp [intOf]; omega
        · have hd1 : decide (px ≤ qx) = false := by simpa using h1
          have hne : (qx != px) = true := by simp; omega
          go_wp2_with fail
          go_quiet (fail)
          go_wp2_with fail
          go_quiet (fail)
          go_wp2_with (at_builtin; refine wpList_append_put rfl _ _ rfl w0.heap.size L ?c0 ⟨qx, qd⟩ ?c1 ?c2 ?c3 ?_)
          case c0 => first | exact OwnPL.laterN hO.out _ | exact OwnPL.laterN (OwnPL.laterN hO.out _) _ | exact hO.out
          case c1 => rfl
          case c2 => have := HLEN.out; (try simp only [List.length_append, List.length_singleton]); omega
          case c3 => exact hB.out.size
          intro ad2 cc2 w2 hown2 hg2
          have O2 := hide hown2
          have B2 := hide (show Below w0.heap.size w0 w2 from by first | exact (below_drewN hB.out _).grown hg2 hB.out.size (fun i hi => (World.ownsRow.lt hO.out i hi).1) | exact (below_drewN (below_drewN hB.out _) _).grown hg2 hB.out.size (fun i hi => (World.ownsRow.lt hO.out i hi).1) | exact hB.out.grown hg2 hB.out.size (fun i hi => (World.ownsRow.lt hO.out i hi).1))
          clear hown2 hg2
          have HS2 := hide (show Mx.stTo l ⟨px, pd⟩ (k + 1) = (L ++ [⟨qx, qd⟩], false) by rw [HS.out, HST.out]; unfold Mx.stepF; simp [show ¬ px ≤ qx by omega, show ¬ qx = px by omega])
          go_wp2_with fail
          go_roundw
          case rel =>
            refine ⟨k + 1, some ad2, cc2, by omega, by go_num, by rw [HS2.out], by rw [HS2.out]; simp, ?_, B2⟩
            rw [HS2.out]
            dsimp only
            rw [List.length_append]
            first | exact O2 | simpa [List.append_assoc] using O2
          case measure => simp [intOf]; omega
      | true =>
        by_cases h2 : qx = px
        · subst h2
          go_wp2_with fail
          go_quiet (fail)
          go_wp2_with fail
          go_quiet (fail)
          have HS2 := hide (show Mx.stTo l ⟨qx, pd⟩ (k + 1) = (L, true) by rw [HS.out, HST.out]; unfold Mx.stepF; simp)
          go_wp2_with fail
          go_roundw
          case rel =>
            refine ⟨k + 1, a', c', by omega, by go_num, by rw [HS2.out], by rw [HS2.out], ?_, hide (by first | exact below_drewN hB.out _ | exact below_drewN (below_drewN hB.out _) _)⟩
            rw [HS2.out]
            first | exact hide (by first | exact OwnPL.laterN hO.out _ | exact OwnPL.laterN (OwnPL.laterN hO.out _) _) | simpa [List.append_assoc] using hide (by first | exact OwnPL.laterN hO.out _ | exact OwnPL.laterN (OwnPL.laterN hO.out _) _)
          case measure => simp [intOf]; omega
        · have hne : (qx != px) = true := by simpa using h2
          go_wp2_with fail
          go_quiet (fail)
          go_wp2_with fail
          go_quiet (fail)
          go_wp2_with (at_builtin; refine wpList_append_put rfl _ _ rfl w0.heap.size L ?c0 ⟨qx, qd⟩ ?c1 ?c2 ?c3 ?_)
          case c0 => first | exact OwnPL.laterN hO.out _ | exact OwnPL.laterN (OwnPL.laterN hO.out _) _ | exact hO.out
          case c1 => rfl
          case c2 => have := HLEN.out; (try simp only [List.length_append, List.length_singleton]); omega
          case c3 => exact hB.out.size
          intro ad2 cc2 w2 hown2 hg2
          have O2 := hide hown2
          have B2 := hide (show Below w0.heap.size w0 w2 from by first | exact (below_drewN hB.out _).grown hg2 hB.out.size (fun i hi => (World.ownsRow.lt hO.out i hi).1) | exact (below_drewN (below_drewN hB.out _) _).grown hg2 hB.out.size (fun i hi => (World.ownsRow.lt hO.out i hi).1) | exact hB.out.grown hg2 hB.out.size (fun i hi => (World.ownsRow.lt hO.out i hi).1))
          clear hown2 hg2
          have HS2 := hide (show Mx.stTo l ⟨px, pd⟩ (k + 1) = (L ++ [⟨qx, qd⟩], true) by rw [HS.out, HST.out]; unfold Mx.stepF; simp [h2])
          go_wp2_with fail
          go_roundw
          case rel =>
            refine ⟨k + 1, some ad2, cc2, by omega, by go_num, by rw [HS2.out], by rw [HS2.out]; simp, ?_, B2⟩
            rw [HS2.out]
            dsimp only
            rw [List.length_append]
            first | exact O2 | simpa [List.append_assoc] using O2
          case measure => simp [intOf]; omega
    · have HM := hide (show l.take k = l by rw [List.take_of_length_le (by rw [HN.out]; omega)])
      have BF := hide (BB.out.trans (hB.out.mono BB.out.size))
      cases d with
      | true =>
        have HF := hide (show Mx.putF l p = L by unfold Mx.putF; have h := HST.out; unfold Mx.stTo at h; rw [HM.out] at h; rw [h]; rfl)
        go_wp2_with fail
        go_ret
        refine ⟨a', c', by rw [HF.out] <;> rfl, ?_, BF⟩
        rw [HF.out]
        exact World.ownsRow.mono hO.out BB.out.size
      | false =>
        have HF := hide (show Mx.putF l p = L ++ [p] by unfold Mx.putF; have h := HST.out; unfold Mx.stTo at h; rw [HM.out] at h; rw [h]; rfl)
        go_wp2_with (at_builtin; refine wpList_append_put rfl _ _ rfl w0.heap.size L ?c0 p ?c1 ?c2 ?c3 ?_)
        case c0 => first | exact OwnPL.laterN hO.out _ | exact OwnPL.laterN (OwnPL.laterN hO.out _) _ | exact hO.out
        case c1 => rfl
        case c2 => have := HLEN.out; (try simp only [List.length_append, List.length_singleton]); omega
        case c3 => exact hB.out.size
        intro ad2 cc2 w2 hown2 hg2
        have O2 := hide hown2
        have B2 := hide (show Below w0.heap.size w0 w2 from by first | exact (below_drewN hB.out _).grown hg2 hB.out.size (fun i hi => (World.ownsRow.lt hO.out i hi).1) | exact (below_drewN (below_drewN hB.out _) _).grown hg2 hB.out.size (fun i hi => (World.ownsRow.lt hO.out i hi).1) | exact hB.out.grown hg2 hB.out.size (fun i hi => (World.ownsRow.lt hO.out i hi).1))
        clear hown2 hg2
        have BF2 := hide (BB.out.trans (B2.out.mono BB.out.size))
        have OF := hide (World.ownsRow.mono O2.out BB.out.size)
        go_wp2_with fail
        go_ret
        refine ⟨some ad2, cc2, by rw [HF.out, List.length_append] <;> rfl, ?_, BF2⟩
        rw [HF.out, List.length_append]
        exact OF
end Go.Proofs.Ytkebmfocgalinab

/-
  A builder with a put more (Add).
-/
namespace Go.Proofs.Ytkebmfocgalinab
open Go.RowKit

/-- a builder, read -/
def BuV (w : World) (v : Value) (b : Bu) : Prop :=
  ∃ (oa : Option Addr) (on oc : Nat) (sa : Option Addr) (sn sc : Nat), v = .agg #[.int .i64 b.num, .slice oa on oc, .slice sa sn sc, .bool b.be] ∧ PL w oa on b.op ∧ EL w sa sn b.se ∧ on ≤ oc ∧ sn ≤ sc
theorem BuV.later {w w' : World} {v : Value} {b : Bu} (h : BuV w v b) (hb : Below w.heap.size w w') : BuV w' v b := by
  obtain ⟨oa, on, oc, sa, sn, sc, hv, h1, h2, h3, h4⟩ := h
  exact ⟨oa, on, oc, sa, sn, sc, hv, h1.later hb, h2.later hb, h3, h4⟩
theorem BuV.zero (w : World) : BuV w (.agg #[.int .i64 0, .slice none 0 0, .slice none 0 0, .bool false]) Mx.zBu := ⟨none, 0, 0, none, 0, 0, rfl, PL.nil w, EL.nil w, Nat.le_refl _, Nat.le_refl _⟩
/-- a builder, read, all of it in blocks from B on -/
def BuVA (B : Nat) (w : World) (v : Value) (b : Bu) : Prop :=
  ∃ (oa : Option Addr) (on oc : Nat) (sa : Option Addr) (sn sc : Nat), v = .agg #[.int .i64 b.num, .slice oa on oc, .slice sa sn sc, .bool b.be] ∧ PL w oa on b.op ∧ (0 < on → ∀ p, oa = some p → B ≤ p.block) ∧ ELA B w sa sn b.se ∧ on ≤ oc ∧ sn ≤ sc
theorem BuVA.buv {B : Nat} {w : World} {v : Value} {b : Bu} (h : BuVA B w v b) : BuV w v b := by
  obtain ⟨oa, on, oc, sa, sn, sc, hv, h1, _, h2, h3, h4⟩ := h
  exact ⟨oa, on, oc, sa, sn, sc, hv, h1, h2.el, h3, h4⟩
theorem BuVA.later {B : Nat} {w w' : World} {v : Value} {b : Bu} (h : BuVA B w v b) (hb : Below w.heap.size w w') : BuVA B w' v b := by
  obtain ⟨oa, on, oc, sa, sn, sc, hv, h1, h5, h2, h3, h4⟩ := h
  exact ⟨oa, on, oc, sa, sn, sc, hv, h1.later hb, h5, h2.later hb, h3, h4⟩
theorem BuVA.grown {B g : Nat} {w w' : World} {v : Value} {b : Bu} (h : BuVA B w v b) (hg : w.grownBy w' (some g)) (hB : g < B) : BuVA B w' v b := by
  obtain ⟨oa, on, oc, sa, sn, sc, hv, h1, h5, h2, h3, h4⟩ := h
  exact ⟨oa, on, oc, sa, sn, sc, hv, h1.grownBy hg (fun h0 p hp e => by have h6 := h5 h0 p hp; have h7 : g = p.block := Option.some.inj e; omega), h5, h2.grown hg hB, h3, h4⟩
theorem ELA.nil (B : Nat) (w : World) : ELA B w none 0 [] := ⟨rfl, by unfold maxLen; omega, fun h => absurd h (by omega)⟩
theorem ELA.lower {B B' : Nat} {w : World} {a : Option Addr} {k : Nat} {es : List Ep} (h : ELA B w a k es) (hB : B' ≤ B) : ELA B' w a k es := by
  obtain ⟨h1, h2, h4⟩ := h
  refine ⟨h1, h2, fun hp => ?_⟩
  obtain ⟨b, off, ha, hb, hlt, hc⟩ := h4 hp
  refine ⟨b, off, ha, by omega, hlt, fun i e he => ?_⟩
  obtain ⟨ai, ni, ci, c1, c2, c3, c4, c5⟩ := hc i e he
  exact ⟨ai, ni, ci, c1, c2, c3, c4, fun h0 p hp => by have := c5 h0 p hp; omega⟩
theorem BuVA.zero (B : Nat) (w : World) : BuVA B w (.agg #[.int .i64 0, .slice none 0 0, .slice none 0 0, .bool false]) Mx.zBu := ⟨none, 0, 0, none, 0, 0, rfl, PL.nil w, fun h => absurd h (by omega), ELA.nil B w, Nat.le_refl _, Nat.le_refl _⟩
theorem Bx.four_set {w : World} {g : Nat} {a0 a1 a2 a3 : Value} {t : TypeId} (h : Bx w g #[a0, a1, a2, a3] t) (s0 s1 s2 s3 : Value) : Bx ((((w.setCell ⟨g, 0, none⟩ s0).setCell ⟨g, 1, none⟩ s1).setCell ⟨g, 2, none⟩ s2).setCell ⟨g, 3, none⟩ s3) g #[s0, s1, s2, s3] t :=
  (((h.set 0 s0).set 1 s1).set 2 s2).set 3 s3
def set4 (w : World) (g : Nat) (s0 s1 s2 s3 : Value) : World := (((w.setCell ⟨g, 0, none⟩ s0).setCell ⟨g, 1, none⟩ s1).setCell ⟨g, 2, none⟩ s2).setCell ⟨g, 3, none⟩ s3
theorem set4_below {B g : Nat} {w w' : World} (h : Below B w w') (hg : B ≤ g) (s0 s1 s2 s3 : Value) : Below B w (set4 w' g s0 s1 s2 s3) :=
  (((h.setCell (p := ⟨g, 0, none⟩) hg _).setCell (p := ⟨g, 1, none⟩) hg _).setCell (p := ⟨g, 2, none⟩) hg _).setCell (p := ⟨g, 3, none⟩) hg _
theorem set4_grown {w w' : World} {g : Nat} (h : w.grownBy w' (some g)) (s0 s1 s2 s3 : Value) : w.grownBy (set4 w' g s0 s1 s2 s3) (some g) := grow_set (grow_set (grow_set (grow_set h _ _) _ _) _ _) _ _
theorem Bx.set4 {w : World} {g : Nat} {a0 a1 a2 a3 : Value} {t : TypeId} (h : Bx w g #[a0, a1, a2, a3] t) (s0 s1 s2 s3 : Value) : Bx (set4 w g s0 s1 s2 s3) g #[s0, s1, s2, s3] t := h.four_set s0 s1 s2 s3
def Zc : Array Value := (flatO Mx.noneL).toArray
theorem zero_latest (w : World) : (zeroValue 111).run Try.prog w = .ok (.agg Zc) w := by kernel_rfl
theorem LB.new (w : World) : LB (w.alloc (.cells Zc 111)) w.heap.size Mx.noneL := ⟨rfl, Bx.new w _ _⟩
theorem PL.one {w : World} {g : Nat} {px : Int} {pd : B8} {t : TypeId} (h : Bx w g #[.int .i64 px, .int .u8 pd.z0, .int .u8 pd.z1, .int .u8 pd.z2, .int .u8 pd.z3, .int .u8 pd.z4, .int .u8 pd.z5, .int .u8 pd.z6, .int .u8 pd.z7] t) : PL w (some ⟨g, 0, none⟩) 1 [⟨px, pd⟩] :=
  ⟨rfl, by simp [flatP, Pt.cs], by unfold maxLen; omega, fun _ => ⟨g, 0, rfl, h.lt, fun j u hj => by rw [Nat.zero_add, h.cell]; simpa [flatP, Pt.cs] using hj⟩⟩
theorem grown_below {w w' : World} {g : Nat} (h : w.grownBy w' (some g)) (hg : g ≤ w.heap.size) : Below g w w' := ⟨h.os, h.tape, h.output, h.size, fun k hk => h.block k (by omega) (fun e => by have : k = g := Option.some.inj e; omega)⟩
theorem PL.off {w : World} {a : Option Addr} {n : Nat} {l : List Pt} {g : Nat} (h : PL w a n l) (hg : w.heap.size ≤ g) : 0 < n → ∀ p, a = some p → p.block ≠ g := by
  intro h0 p hp
  obtain ⟨b, off, ha, hlt, _⟩ := h.2.2.2 h0
  rw [ha] at hp
  cases hp
  intro e
  change b = g at e
  omega

theorem OwnPL.full {w : World} {base : Nat} {a : Option Addr} {n c : Nat} {l : List Pt} (h : OwnPL w base (.slice a n c) l) : PL w a n l ∧ n ≤ c ∧ ∀ p, a = some p → base ≤ p.block := by
  obtain ⟨a', c', hv, hc, hr, hp⟩ := ownsRow_rowR h
  simp only [Value.slice.injEq] at hv
  obtain ⟨rfl, rfl, rfl⟩ := hv
  exact ⟨⟨rfl, hr⟩, hc, hp⟩
theorem OwnEL.full {B : Nat} {w : World} {base : Nat} {a : Option Addr} {n c : Nat} {es : List Ep} (h : OwnEL B w base (.slice a n c) es) (hB : B ≤ base) : ELA B w a n es ∧ n ≤ c := by
  obtain ⟨a', c', hv, hc, hr⟩ := h.ela hB
  simp only [Value.slice.injEq] at hv
  obtain ⟨rfl, rfl, rfl⟩ := hv
  exact ⟨hr, hc⟩

namespace Mx
def amay (b : Bu) (n : Int) (p : Pt) : Int := if bmay b n = 0 then (if p.at_ < 0 ∨ n ≤ p.at_ then 1 else 0) else bmay b n
theorem amay_not {b : Bu} {n : Int} {p : Pt} (h : bmay b n ≠ 0) : amay b n p = bmay b n := by rw [amay, if_neg h]
theorem amay_1 {b : Bu} {n : Int} {p : Pt} (h : bmay b n = 0) (hp : p.at_ < 0 ∨ n ≤ p.at_) : amay b n p = 1 := by rw [amay, if_pos h, if_pos hp]
theorem amay_0 {b : Bu} {n : Int} {p : Pt} (h : bmay b n = 0) (hp : ¬ (p.at_ < 0 ∨ n ≤ p.at_)) : amay b n p = 0 := by rw [amay, if_pos h, if_neg hp]
/-- what Add answers -/
def added (b : Bu) (n : Int) (p : Pt) : Bu := if amay b n p = 0 then addB b p else zBu
theorem added_not {b : Bu} {n : Int} {p : Pt} {k : Int} (h : amay b n p = k) (hk : k ≠ 0) : added b n p = zBu := by rw [added, if_neg (by rw [h]; exact hk)]
theorem added_ok {b : Bu} {n : Int} {p : Pt} (h : amay b n p = 0) : added b n p = addB b p := by rw [added, if_pos h]
end Mx

set_option maxHeartbeats 8000000 in
set_option maxRecDepth 100000 in
theorem add_own (num : Int) (oa : Option Addr) (on oc : Nat) (sa : Option Addr) (sn sc : Nat) (be : Bool) (ops : List Pt) (es : List Ep) (n : Int) (px : Int) (pd : B8) (w : World) (hp : PL w oa on ops) (he : EL w sa sn es) (hsm : Mx.small ops es) :
    Calls Try.prog 14 #[.agg #[.int .i64 num, .slice oa on oc, .slice sa sn sc, .bool be], .int .i64 n, .agg #[.int .i64 px, .int .u8 pd.z0, .int .u8 pd.z1, .int .u8 pd.z2, .int .u8 pd.z3, .int .u8 pd.z4, .int .u8 pd.z5, .int .u8 pd.z6, .int .u8 pd.z7]] w fun e w' =>
      ∃ v, e = .returned (.tuple #[v, errV (Mx.amay ⟨num, ops, es, be⟩ n ⟨px, pd⟩)]) ∧ Hid (BuVA w.heap.size w' v (Mx.added ⟨num, ops, es, be⟩ n ⟨px, pd⟩)) ∧ Hid (Below w.heap.size w w') := by
  obtain ⟨w0, hw0⟩ : ∃ w0 : World, Hid (w0 = ((w.alloc (.cells #[.int .i64 num, .slice oa on oc, .slice sa sn sc, .bool be] 25)).alloc (.cells #[.int .i64 px, .int .u8 pd.z0, .int .u8 pd.z1, .int .u8 pd.z2, .int .u8 pd.z3, .int .u8 pd.z4, .int .u8 pd.z5, .int .u8 pd.z6, .int .u8 pd.z7] 29)).alloc (.cells #[.int .i64 0, .slice none 0 0, .slice none 0 0, .bool false] 25)) := ⟨_, rfl⟩
  have XB := hide (show Bx w0 w.heap.size #[.int .i64 num, .slice oa on oc, .slice sa sn sc, .bool be] 25 by rw [hw0.out]; exact ((Bx.new w _ _).alloc _).alloc _)
  have XP := hide (show Bx w0 (w.heap.size + 1) #[.int .i64 px, .int .u8 pd.z0, .int .u8 pd.z1, .int .u8 pd.z2, .int .u8 pd.z3, .int .u8 pd.z4, .int .u8 pd.z5, .int .u8 pd.z6, .int .u8 pd.z7] 29 by
    rw [hw0.out]
    have h := (Bx.new (w.alloc (.cells #[.int .i64 num, .slice oa on oc, .slice sa sn sc, .bool be] 25)) #[.int .i64 px, .int .u8 pd.z0, .int .u8 pd.z1, .int .u8 pd.z2, .int .u8 pd.z3, .int .u8 pd.z4, .int .u8 pd.z5, .int .u8 pd.z6, .int .u8 pd.z7] 29).alloc (.cells #[.int .i64 0, .slice none 0 0, .slice none 0 0, .bool false] 25)
    rw [World.size_alloc] at h
    exact h)
  have XR := hide (show Bx w0 (w.heap.size + 1 + 1) #[.int .i64 0, .slice none 0 0, .slice none 0 0, .bool false] 25 by
    rw [hw0.out]
    have h := Bx.new ((w.alloc (.cells #[.int .i64 num, .slice oa on oc, .slice sa sn sc, .bool be] 25)).alloc (.cells #[.int .i64 px, .int .u8 pd.z0, .int .u8 pd.z1, .int .u8 pd.z2, .int .u8 pd.z3, .int .u8 pd.z4, .int .u8 pd.z5, .int .u8 pd.z6, .int .u8 pd.z7] 29)) #[.int .i64 0, .slice none 0 0, .slice none 0 0, .bool false] 25
    rw [World.size_alloc, World.size_alloc] at h
    exact h)
  have B0 := hide (show Below w.heap.size w w0 by rw [hw0.out]; exact ((below_alloc _ _).alloc (by simp) _).alloc (by simp; omega) _)
  have HP0 := hide (hp.later B0.out)
  have HE0 := hide (he.later B0.out)
  have HEN := hide he.1
  have HPN := hide hp.1
  have HSM := hide hsm
  clear hp he hsm
  go_enter Try.func14, Try.ntmps14
  go_wp2_with fail
  rw [← hw0.out]
  refine (echeck_any num oa on oc sa sn sc be ops es n w0 HP0.out HE0.out).mono ?_
  rintro e w1 ⟨rfl, hb1⟩
  have XB1 := hide (XB.out.later hb1 XB.out.lt)
  have XP1 := hide (XP.out.later hb1 XP.out.lt)
  have XR1 := hide (XR.out.later hb1 XR.out.lt)
  have B1 := hide (B0.out.trans (hb1.mono B0.out.size))
  have HP1 := hide (HP0.out.later hb1)
  have HE1 := hide (HE0.out.later hb1)
  clear hb1
  have hr1 : w.heap.size + 1 + 1 < w1.heap.size := XR1.out.lt
  have hr0 : w.heap.size < w1.heap.size := XB1.out.lt
  have hrp : w.heap.size + 1 < w1.heap.size := XP1.out.lt
  obtain ⟨b0, b1, b2, b3⟩ := XB1.out.four
  obtain ⟨q0, q1, q2, q3, q4, q5, q6, q7, q8⟩ := Bx.nine (p := ⟨px, pd⟩) XP1.out
  dsimp only at q0 q1 q2 q3 q4 q5 q6 q7 q8
  obtain ⟨r0, r1, r2, r3⟩ := XR1.out.four
  have rz := XR1.out.frozen
  by_cases hb : Mx.bmay ⟨num, ops, es, be⟩ n = 0
  · have HB := hide hb
    rw [hb, errV_zero]
    clear hb
    have HOK := hide (Mx.bmay_ok HB.out)
    by_cases h1 : px < 0
    · have dh1 : decide (px < 0) = true := by simpa using h1
      have HF := hide (Mx.amay_1 (b := ⟨num, ops, es, be⟩) (n := n) (p := ⟨px, pd⟩) HB.out (.inl h1))
      have HA := hide (Mx.added_not HF.out (by omega))
      go_wp2_with fail
      obtain ⟨t0, t1, t2, t3⟩ := (XR1.out.four_set (.int .i64 0) (.slice none 0 0) (.slice none 0 0) (.bool false)).four
      exact bodyPost_ret (v := .tuple #[.agg #[.int .i64 0, .slice none 0 0, .slice none 0 0, .bool false], .iface 31 (.int .i64 1)]) (by simp [results, Try.results14, go_sem, t0, t1, t2, t3]) rfl ⟨_, by rw [HF.out] <;> rfl, by rw [HA.out]; exact BuVA.zero _ _, hide (set4_below B1.out (by omega) _ _ _ _)⟩
    · have dh1 : decide (px < 0) = false := by simpa using h1
      by_cases h2 : n ≤ px
      · have dh2 : decide (n ≤ px) = true := by simpa using h2
        have HF := hide (Mx.amay_1 (b := ⟨num, ops, es, be⟩) (n := n) (p := ⟨px, pd⟩) HB.out (.inr h2))
        have HA := hide (Mx.added_not HF.out (by omega))
        go_wp2_with fail
        obtain ⟨t0, t1, t2, t3⟩ := (XR1.out.four_set (.int .i64 0) (.slice none 0 0) (.slice none 0 0) (.bool false)).four
        exact bodyPost_ret (v := .tuple #[.agg #[.int .i64 0, .slice none 0 0, .slice none 0 0, .bool false], .iface 31 (.int .i64 1)]) (by simp [results, Try.results14, go_sem, t0, t1, t2, t3]) rfl ⟨_, by rw [HF.out] <;> rfl, by rw [HA.out]; exact BuVA.zero _ _, hide (set4_below B1.out (by omega) _ _ _ _)⟩
      · have dh2 : decide (n ≤ px) = false := by simpa using h2
        have HF := hide (Mx.amay_0 (b := ⟨num, ops, es, be⟩) (p := ⟨px, pd⟩) (n := n) HB.out (by show ¬ (px < 0 ∨ n ≤ px); omega))
        have HA := hide (Mx.added_ok HF.out)
        have HPX := hide (show 0 ≤ px ∧ px < 32 by have := HOK.out.1; omega)
        have HRK := hide (Mx.rk_of (Mx.goodB_parts HOK.out.2.2).2.1 (by have := HOK.out.1; omega))
        have hz := zero_latest
        go_wp2_with fail
        clear hz
        obtain ⟨W1, hW1⟩ : ∃ W1 : World, Hid (W1 = w1.alloc (.cells Zc 111)) := ⟨_, rfl⟩
        rw [← hW1.out]
        have L1 := hide (show LB W1 w1.heap.size Mx.noneL by rw [hW1.out]; exact LB.new w1)
        have C1 := hide (show Below w1.heap.size w1 W1 by rw [hW1.out]; exact below_alloc _ _)
        refine (take_any w1.heap.size oa on oc ops Mx.noneL W1 L1.out (HP1.out.later C1.out) (HP1.out.off (Nat.le_refl _)) (Mx.rk_mem HRK.out)).mono ?_
        rintro e w2 ⟨rfl, L2, G2⟩
        have C2 := hide (show Below w1.heap.size w1 w2 from C1.out.trans (grown_below G2.out C1.out.size))
        clear b0 b1 b2 b3 q0 q1 q2 q3 q4 q5 q6 q7 q8 r0 r1 r2 r3 rz
        obtain ⟨q0, q1, q2, q3, q4, q5, q6, q7, q8⟩ := Bx.nine (p := ⟨px, pd⟩) (XP1.out.later C2.out XP1.out.lt)
        dsimp only at q0 q1 q2 q3 q4 q5 q6 q7 q8
        go_wp2_with fail
        clear q0 q1 q2 q3 q4 q5 q6 q7 q8
        obtain ⟨W3, hW3⟩ : ∃ W3 : World, Hid (W3 = w2.alloc (.cells #[.int .i64 px, .int .u8 pd.z0, .int .u8 pd.z1, .int .u8 pd.z2, .int .u8 pd.z3, .int .u8 pd.z4, .int .u8 pd.z5, .int .u8 pd.z6, .int .u8 pd.z7] 29)) := ⟨_, rfl⟩
        rw [← hW3.out]
        have C23 := hide (show Below w2.heap.size w2 W3 by rw [hW3.out]; exact below_alloc _ _)
        have hg2 : w1.heap.size < w2.heap.size := L2.out.2.lt
        have L3 := hide (L2.out.later C23.out hg2)
        have P3 := hide (show PL W3 (some ⟨w2.heap.size, 0, none⟩) 1 [⟨px, pd⟩] by rw [hW3.out]; exact PL.one (Bx.new w2 _ _))
        refine (take_any w1.heap.size _ 1 1 [⟨px, pd⟩] _ W3 L3.out P3.out (fun _ p hp => by cases hp; show ¬ w2.heap.size = w1.heap.size; omega) (fun q hq => by simp at hq; subst hq; exact HPX.out)).mono ?_
        rintro e w4 ⟨rfl, L4, G4⟩
        have C4 := hide (show Below w1.heap.size w1 w4 from C2.out.trans ((C23.out.mono (by omega)).trans (grown_below G4.out (by have := C23.out.size; omega))))
        have HPA := hide (Mx.puts_add (p := ⟨px, pd⟩) HRK.out HPX.out.1 HPX.out.2)
        have XB4 := hide (XB1.out.later C4.out XB1.out.lt)
        have XR4 := hide (XR1.out.later C4.out XR1.out.lt)
        have HE4 := hide (HE1.out.later C4.out)
        have hs4 : w1.heap.size ≤ w4.heap.size := C4.out.size
        have hs0 : w.heap.size < w4.heap.size := XB4.out.lt
        have hr4 : w.heap.size + 1 + 1 < w4.heap.size := XR4.out.lt
        obtain ⟨b0, b1, b2, b3⟩ := XB4.out.four
        have hsn : sn ≤ 1000 := by have := HEN.out; have := HSM.out.2.1; omega
        have HPS := hide (show ∀ e ∈ es, e.puts.length ≤ 1000 from fun e he => by have := HSM.out.1 e he; omega)
        have hrb : ¬ w.heap.size + 1 + 1 = w.heap.size := by omega
        have rz := XR4.out.frozen
        obtain ⟨r0, r1, r2, r3⟩ := XR4.out.four
        go_wp2_with fail
        go_region_held3 (fun w' => w'.cell? ⟨w.heap.size, 0, none⟩ = some (.int .i64 num) ∧ w'.cell? ⟨w.heap.size, 1, none⟩ = some (.slice oa on oc) ∧ w'.cell? ⟨w.heap.size, 2, none⟩ = some (.slice sa sn sc) ∧ w'.cell? ⟨w.heap.size, 3, none⟩ = some (.bool be))
          (first
            | with_reducible exact ⟨d0, d1, d2, d3⟩
            | with_reducible exact ⟨c0, c1, c2, c3⟩
            | (simp only [cell_drew]; with_reducible exact ⟨b0, b1, b2, b3⟩)
            | (simp only [cell_set_far hrb]; with_reducible exact ⟨d0, d1, d2, d3⟩))
          (first
            | (go_at_call 54; refine (puts_any w1.heap.size _ w4.drew L4.out.drew).mono ?_; rintro e w5 ⟨a5, k5, rfl, O5, B5⟩; have D5 := hide (show Below w4.heap.size w4 w5 from (Below.refl _ _).drew.trans B5.out); have hs5 : w.heap.size < w5.heap.size := Nat.lt_of_lt_of_le hs0 D5.out.size; obtain ⟨c0, c1, c2, c3⟩ := (XB4.out.later D5.out hs0).four; have E5 := hide (HE4.out.later D5.out))
            | (go_at_call 55; refine (fresh_any sa sn sc es w5 E5.out hsn HPS.out).mono ?_; rintro e w6 ⟨a6, k6, rfl, O6, B6⟩; have D6 := hide (show Below w4.heap.size w4 w6 from D5.out.trans (B6.out.mono D5.out.size)); obtain ⟨d0, d1, d2, d3⟩ := (XB4.out.later D6.out hs0).four; have ez := (XR4.out.later D6.out hr4).frozen; obtain ⟨e0, e1, e2, e3⟩ := (XR4.out.later D6.out hr4).four; clear b0 b1 b2 b3 c0 c1 c2 c3 r0 r1 r2 r3 rz))
        all_goals
          clear e0 e1 e2 e3 d0 d1 d2 d3 ez
          obtain ⟨N5, hN5⟩ : ∃ N5 : Nat, Hid (N5 = (Mx.putsFrom 0 (Mx.takeF (Mx.takeF Mx.noneL ops) [⟨px, pd⟩])).length) := ⟨_, rfl⟩
          rw [← hN5.out] at O5 ⊢
          rw [HPA.out] at O5
          have F5 := hide (O5.out.full)
          have F6 := hide (O6.out.full (Nat.le_refl _))
          have GF := hide (set4_grown (grow_refl w6 (some (w.heap.size + 1 + 1))) (.int .i64 num) (.slice a5 N5 k5) (.slice a6 sn k6) (.bool be))
          have BF := hide (show Below w.heap.size w (set4 w6 (w.heap.size + 1 + 1) (.int .i64 num) (.slice a5 N5 k5) (.slice a6 sn k6) (.bool be)) from set4_below (B1.out.trans ((C4.out.trans (D6.out.mono hs4)).mono (by omega))) (by omega) _ _ _ _)
          have XF := hide ((XR4.out.later D6.out hr4).four_set (.int .i64 num) (.slice a5 N5 k5) (.slice a6 sn k6) (.bool be))
          have PF := hide (show PL (set4 w6 (w.heap.size + 1 + 1) (.int .i64 num) (.slice a5 N5 k5) (.slice a6 sn k6) (.bool be)) a5 N5 (Mx.putR ops ⟨px, pd⟩) from (F5.out.1.later B6.out).grownBy GF.out (fun _ p hp e => by have h1 : w4.heap.size ≤ p.block := F5.out.2.2 p hp; have h2 : w.heap.size + 1 + 1 = p.block := Option.some.inj e; omega))
          have EF := hide (show ELA w5.heap.size (set4 w6 (w.heap.size + 1 + 1) (.int .i64 num) (.slice a5 N5 k5) (.slice a6 sn k6) (.bool be)) a6 sn es from F6.out.1.grown GF.out (Nat.lt_of_lt_of_le hr4 D5.out.size))
          go_wp2_with fail
          obtain ⟨t0, t1, t2, t3⟩ := XF.out.four
          exact bodyPost_ret (v := .tuple #[.agg #[.int .i64 num, .slice a5 N5 k5, .slice a6 sn k6, .bool be], .nilIface]) (by simp [results, Try.results14, go_sem, t0, t1, t2, t3]) rfl ⟨_, by rw [HF.out] <;> rfl, by rw [HA.out]; exact ⟨a5, N5, k5, a6, sn, k6, rfl, PF.out, fun _ p hp => by have h1 : w4.heap.size ≤ p.block := F5.out.2.2 p hp; omega, EF.out.lower (by have := D5.out.size; omega), F5.out.2.1, F6.out.2⟩, BF⟩
  · rw [errV_not hb]
    have HB := hide hb
    have HF := hide (Mx.amay_not (p := ⟨px, pd⟩) hb)
    clear hb
    have HA := hide (Mx.added_not HF.out HB.out)
    go_wp2_with fail
    obtain ⟨t0, t1, t2, t3⟩ := (XR1.out.four_set (.int .i64 0) (.slice none 0 0) (.slice none 0 0) (.bool false)).four
    exact bodyPost_ret (v := .tuple #[.agg #[.int .i64 0, .slice none 0 0, .slice none 0 0, .bool false], .iface 31 (.int .i64 (Mx.bmay ⟨num, ops, es, be⟩ n))]) (by simp [results, Try.results14, go_sem, t0, t1, t2, t3]) rfl ⟨_, by rw [HF.out, errV_not HB.out] <;> rfl, by rw [HA.out]; exact BuVA.zero _ _, hide (set4_below B1.out (by omega) _ _ _ _)⟩

theorem add_any (num : Int) (oa : Option Addr) (on oc : Nat) (sa : Option Addr) (sn sc : Nat) (be : Bool) (ops : List Pt) (es : List Ep) (n : Int) (px : Int) (pd : B8) (w : World) (hp : PL w oa on ops) (he : EL w sa sn es) (hsm : Mx.small ops es) :
    Calls Try.prog 14 #[.agg #[.int .i64 num, .slice oa on oc, .slice sa sn sc, .bool be], .int .i64 n, .agg #[.int .i64 px, .int .u8 pd.z0, .int .u8 pd.z1, .int .u8 pd.z2, .int .u8 pd.z3, .int .u8 pd.z4, .int .u8 pd.z5, .int .u8 pd.z6, .int .u8 pd.z7]] w fun e w' =>
      ∃ v, e = .returned (.tuple #[v, errV (Mx.amay ⟨num, ops, es, be⟩ n ⟨px, pd⟩)]) ∧ Hid (BuV w' v (Mx.added ⟨num, ops, es, be⟩ n ⟨px, pd⟩)) ∧ Hid (Below w.heap.size w w') := by
  refine (add_own num oa on oc sa sn sc be ops es n px pd w hp he hsm).mono ?_
  rintro e w' ⟨v, rfl, hv, hb⟩
  exact ⟨v, rfl, hv.out.buv, hb⟩
end Go.Proofs.Ytkebmfocgalinab

/-
  A barrier (Seal).
-/
namespace Go.Proofs.Ytkebmfocgalinab
open Go.RowKit

theorem cell_set_near {w : World} {g o o' : Nat} (h : ¬ o = o') (v : Value) : (w.setCell ⟨g, o, none⟩ v).cell? ⟨g, o', none⟩ = w.cell? ⟨g, o', none⟩ := World.cell?_setCell_other w ⟨g, o, none⟩ ⟨g, o', none⟩ v (fun e => h (by cases e; rfl))

namespace Mx
def smay (b : Bu) (n : Int) : Int := if bmay b n = 0 then (if b.num = 2147483647 then 2 else 0) else bmay b n
theorem smay_not {b : Bu} {n : Int} (h : bmay b n ≠ 0) : smay b n = bmay b n := by rw [smay, if_neg h]
theorem smay_2 {b : Bu} {n : Int} (h : bmay b n = 0) (hp : b.num = 2147483647) : smay b n = 2 := by rw [smay, if_pos h, if_pos hp]
theorem smay_0 {b : Bu} {n : Int} (h : bmay b n = 0) (hp : ¬ b.num = 2147483647) : smay b n = 0 := by rw [smay, if_pos h, if_neg hp]
/-- what Seal answers -/
def sealed (b : Bu) (n : Int) : Bu := if smay b n = 0 then sealE b else zBu
theorem sealed_not {b : Bu} {n : Int} {k : Int} (h : smay b n = k) (hk : k ≠ 0) : sealed b n = zBu := by rw [sealed, if_neg (by rw [h]; exact hk)]
theorem sealed_ok {b : Bu} {n : Int} (h : smay b n = 0) : sealed b n = sealE b := by rw [sealed, if_pos h]
end Mx

set_option maxHeartbeats 8000000 in
set_option maxRecDepth 100000 in
theorem seal_own (num : Int) (oa : Option Addr) (on oc : Nat) (sa : Option Addr) (sn sc : Nat) (be : Bool) (ops : List Pt) (es : List Ep) (n : Int) (w : World) (hp : PL w oa on ops) (he : EL w sa sn es) (hsm : Mx.small ops es) :
    Calls Try.prog 15 #[.agg #[.int .i64 num, .slice oa on oc, .slice sa sn sc, .bool be], .int .i64 n] w fun e w' =>
      ∃ v, e = .returned (.tuple #[v, errV (Mx.smay ⟨num, ops, es, be⟩ n)]) ∧ Hid (BuVA w.heap.size w' v (Mx.sealed ⟨num, ops, es, be⟩ n)) ∧ Hid (Below w.heap.size w w') := by
  obtain ⟨w0, hw0⟩ : ∃ w0 : World, Hid (w0 = (w.alloc (.cells #[.int .i64 num, .slice oa on oc, .slice sa sn sc, .bool be] 25)).alloc (.cells #[.int .i64 0, .slice none 0 0, .slice none 0 0, .bool false] 25)) := ⟨_, rfl⟩
  have XB := hide (show Bx w0 w.heap.size #[.int .i64 num, .slice oa on oc, .slice sa sn sc, .bool be] 25 by rw [hw0.out]; exact (Bx.new w _ _).alloc _)
  have XR := hide (show Bx w0 (w.heap.size + 1) #[.int .i64 0, .slice none 0 0, .slice none 0 0, .bool false] 25 by
    rw [hw0.out]
    have h := Bx.new (w.alloc (.cells #[.int .i64 num, .slice oa on oc, .slice sa sn sc, .bool be] 25)) #[.int .i64 0, .slice none 0 0, .slice none 0 0, .bool false] 25
    rw [World.size_alloc] at h
    exact h)
  have B0 := hide (show Below w.heap.size w w0 by rw [hw0.out]; exact (below_alloc _ _).alloc (by simp) _)
  have HP0 := hide (hp.later B0.out)
  have HE0 := hide (he.later B0.out)
  have HEN := hide he.1
  have HPN := hide hp.1
  have HSM := hide hsm
  have hsn : sn ≤ 1000 := by have := he.1; have := hsm.2.1; omega
  have hon : on ≤ 1000 := by have := hp.1; have := hsm.2.2; omega
  clear hp he hsm
  go_enter Try.func15, Try.ntmps15
  go_wp2_with fail
  rw [← hw0.out]
  refine (echeck_any num oa on oc sa sn sc be ops es n w0 HP0.out HE0.out).mono ?_
  rintro e w1 ⟨rfl, hb1⟩
  have XB1 := hide (XB.out.later hb1 XB.out.lt)
  have XR1 := hide (XR.out.later hb1 XR.out.lt)
  have B1 := hide (B0.out.trans (hb1.mono B0.out.size))
  have HP1 := hide (HP0.out.later hb1)
  have HE1 := hide (HE0.out.later hb1)
  clear hb1
  have hr1 : w.heap.size + 1 < w1.heap.size := XR1.out.lt
  have hr0 : w.heap.size < w1.heap.size := XB1.out.lt
  have hrb : ¬ w.heap.size + 1 = w.heap.size := by omega
  obtain ⟨b0, b1, b2, b3⟩ := XB1.out.four
  obtain ⟨r0, r1, r2, r3⟩ := XR1.out.four
  have rz := XR1.out.frozen
  by_cases hb : Mx.bmay ⟨num, ops, es, be⟩ n = 0
  · have HB := hide hb
    rw [hb, errV_zero]
    clear hb
    have HOK := hide (Mx.bmay_ok HB.out)
    have hnum : num ≤ 2147483647 := HOK.out.1.2.2.2
    have hnum0 : 0 ≤ num := HOK.out.1.2.2.1
    have hs4 : sn ≤ 4 := by have h1 : es.length ≤ 4 := HOK.out.2.1; have := HEN.out; omega
    by_cases h1 : num = 2147483647
    · have HF := hide (Mx.smay_2 (b := ⟨num, ops, es, be⟩) HB.out h1)
      subst h1
      have HA := hide (Mx.sealed_not HF.out (by omega))
      go_wp2_with fail
      obtain ⟨t0, t1, t2, t3⟩ := (XR1.out.four_set (.int .i64 0) (.slice none 0 0) (.slice none 0 0) (.bool false)).four
      exact bodyPost_ret (v := .tuple #[.agg #[.int .i64 0, .slice none 0 0, .slice none 0 0, .bool false], .iface 31 (.int .i64 2)]) (by simp [results, Try.results15, go_sem, t0, t1, t2, t3]) rfl ⟨_, by rw [HF.out] <;> rfl, by rw [HA.out]; exact BuVA.zero _ _, hide (set4_below B1.out (by omega) _ _ _ _)⟩
    · have dh1 : (num == 2147483647) = false := by simpa using h1
      have HF := hide (Mx.smay_0 (b := ⟨num, ops, es, be⟩) HB.out h1)
      have HA := hide (Mx.sealed_ok HF.out)
      by_cases hfull : be = true ∨ sn = 4
      · have HFU := hide (show Mx.sealE ⟨num, ops, es, be⟩ = ⟨num + 1, [], [], true⟩ by
          unfold Mx.sealE
          rw [show Mx.fullB ⟨num, ops, es, be⟩ = true by
            unfold Mx.fullB
            rcases hfull with h | h
            · simp [h]
            · simp [HEN.out, h]]
          rfl)
        have hcase : be = true ∨ be = false ∧ sn = 4 := by
          cases be
          · right
            simpa using hfull
          · exact .inl rfl
        have HX := hide (show Bx w1 (w.heap.size + 1) #[.int .i64 0, .slice none 0 0, .slice none 0 0, .bool false] 25 from XR1.out)
        clear hfull
        rcases hcase with rfl | ⟨rfl, rfl⟩
        all_goals
          go_wp2_with fail
          obtain ⟨t0, t1, t2, t3⟩ := ((HX.out.four_set (.int .i64 (num + 1)) (.slice none 0 0) (.slice none 0 0) (.bool true)).alloc (.cells #[.int .i64 (num + 1), .slice none 0 0, .slice none 0 0, .bool true] 25)).four
          exact bodyPost_ret (v := .tuple #[.agg #[.int .i64 (num + 1), .slice none 0 0, .slice none 0 0, .bool true], .nilIface]) (by simp [results, Try.results15, go_sem, t0, t1, t2, t3]) rfl ⟨_, by rw [HF.out] <;> rfl, by rw [HA.out, HFU.out]; exact ⟨none, 0, 0, none, 0, 0, rfl, PL.nil _, fun h => absurd h (by omega), ELA.nil _ _, Nat.le_refl _, Nat.le_refl _⟩, hide ((set4_below B1.out (by omega) _ _ _ _).alloc (set4_below B1.out (by omega) _ _ _ _).size _)⟩
      · have hbe : be = false := by cases be <;> simp_all
        have h4 : ¬ sn = 4 := fun h => hfull (.inr h)
        have d4 : ((sn : Int) == 4) = false := by simp; omega
        have HFU := hide (show Mx.sealE ⟨num, ops, es, be⟩ = ⟨num + 1, [], es ++ [⟨num + 1, ops⟩], false⟩ by
          unfold Mx.sealE
          rw [show Mx.fullB ⟨num, ops, es, be⟩ = false by
            unfold Mx.fullB
            rw [hbe, HEN.out]
            simp [h4]]
          rfl)
        subst hbe
        clear hfull h4
        go_wp2_with fail
        obtain ⟨W2, hW2⟩ : ∃ W2 : World, Hid (W2 = w1.alloc (.cells #[.int .i64 (num + 1), .slice none 0 0, .slice none 0 0, .bool false] 25)) := ⟨_, rfl⟩
        rw [← hW2.out]
        have XN := hide (show Bx W2 w1.heap.size #[.int .i64 (num + 1), .slice none 0 0, .slice none 0 0, .bool false] 25 by rw [hW2.out]; exact Bx.new w1 _ _)
        have D2 := hide (show Below w1.heap.size w1 W2 by rw [hW2.out]; exact below_alloc _ _)
        have XB2 := hide (XB1.out.later D2.out hr0)
        have XR2 := hide (XR1.out.later D2.out hr1)
        have HP2 := hide (HP1.out.later D2.out)
        have HE2 := hide (HE1.out.later D2.out)
        have hnl : w1.heap.size < W2.heap.size := XN.out.lt
        have hbl : w.heap.size < W2.heap.size := XB2.out.lt
        have hrl : w.heap.size + 1 < W2.heap.size := XR2.out.lt
        have hnb : ¬ w1.heap.size = w.heap.size := by omega
        have hnr : ¬ w1.heap.size = w.heap.size + 1 := by omega
        have HPS := hide (show ∀ e ∈ es, e.puts.length ≤ 1000 from fun e he => by have := HSM.out.1 e he; omega)
        clear b0 b1 b2 b3 r0 r1 r2 r3 rz
        obtain ⟨_, b1, b2, _⟩ := XB2.out.four
        obtain ⟨n0, _, _, _⟩ := XN.out.four
        go_region_held3 (fun w' => w'.cell? ⟨w.heap.size, 1, none⟩ = some (.slice oa on oc) ∧ w'.cell? ⟨w.heap.size, 2, none⟩ = some (.slice sa sn sc) ∧ w'.cell? ⟨w1.heap.size, 0, none⟩ = some (.int .i64 (num + 1)))
          (first
            | with_reducible exact ⟨e1, e2, e0⟩
            | with_reducible exact ⟨d1, d2, d0⟩
            | with_reducible exact ⟨c1, c2, c0⟩
            | (simp only [cell_drew]; with_reducible exact ⟨b1, b2, n0⟩)
            | (simp only [cell_alloc_lt hs4b, cell_alloc_lt hs4n]; with_reducible exact ⟨d1, d2, d0⟩)
            | (simp only [cell_set_far hnb, cell_set_near (show ¬ 2 = 0 by omega)]; with_reducible exact ⟨e1, e2, e0⟩))
          (first
            | (go_at_call 55; refine (fresh_any sa sn sc es W2.drew (HE2.out.later (Below.refl _ _).drew) hsn HPS.out).mono ?_; rintro e w3 ⟨a3, k3, rfl, O3, B3⟩; have D3 := hide (show Below W2.heap.size W2 w3 from (Below.refl _ _).drew.trans B3.out); obtain ⟨_, c1, c2, _⟩ := (XB2.out.later D3.out hbl).four; obtain ⟨c0, _, _, _⟩ := (XN.out.later D3.out hnl).four; have P3 := hide (HP2.out.later D3.out))
            | (go_at_call 56; refine (cloneP_ep oa on oc ops w3 P3.out hon).mono ?_; rintro e w4 ⟨a4, k4, rfl, P4, C4, A4, B4⟩; have D4 := hide (show Below W2.heap.size W2 w4 from D3.out.trans (B4.out.mono D3.out.size)); obtain ⟨_, d1, d2, _⟩ := (XB2.out.later D4.out hbl).four; obtain ⟨d0, _, _, _⟩ := (XN.out.later D4.out hnl).four; have O4 := hide (O3.out.later B4.out); have N4 := hide (own_off (w1 := w3) O3.out (Nat.le_refl _) D3.out.size A4.out); have hs4b : w.heap.size < w4.heap.size := Nat.lt_of_lt_of_le hbl D4.out.size; have hs4n : w1.heap.size < w4.heap.size := Nat.lt_of_lt_of_le hnl D4.out.size)
            | (refine step_append_ep (w := w4) rfl (.tmp 37) (.tmp 44) rfl W2.drew.heap.size W2.drew.heap.size es ?o1 (num + 1) a4 on k4 ops ?o5 ?o6 ?o7 ?o8 ?o9 ?o10 ?_; (case o1 => exact O4.out); (case o5 => exact P4.out); (case o6 => exact C4.out); (case o7 => exact N4.out on); (case o8 => rfl); (case o9 => have := HEN.out; omega); (case o10 => exact D4.out.size); intro v5 w5 hO5 hG5; have D5 := hide (show Below W2.heap.size W2 w5 from D4.out.trans ((Below.refl _ _).grown hG5 D4.out.size (fun i hi => (O4.out.lt i hi).1))); obtain ⟨_, e1, e2, _⟩ := (XB2.out.later D5.out hbl).four; obtain ⟨e0, n1, n2, n3⟩ := (XN.out.later D5.out hnl).four; have nz := (XN.out.later D5.out hnl).frozen; obtain ⟨a5, k5, hv5, hk5, hE5⟩ := hO5.ela (Nat.le_refl _); rw [List.length_append, List.length_singleton, HEN.out] at hv5 hk5 hE5; subst hv5; have E5 := hide hE5; have K5 := hide hk5; clear hO5 hG5 hE5 hk5 b1 b2 n0 c0 c1 c2 d0 d1 d2))
        all_goals
          have XN6 := hide (show Bx (w5.setCell ⟨w1.heap.size, 2, none⟩ (.slice a5 (sn + 1) k5)) w1.heap.size #[.int .i64 (num + 1), .slice none 0 0, .slice a5 (sn + 1) k5, .bool false] 25 from (XN.out.later D5.out hnl).set 2 _)
          have XR6 := hide (show Bx (w5.setCell ⟨w1.heap.size, 2, none⟩ (.slice a5 (sn + 1) k5)) (w.heap.size + 1) _ _ from (XR2.out.later D5.out hrl).other ⟨w1.heap.size, 2, none⟩ _ (fun e => hnr e.symm))
          obtain ⟨W6, hW6⟩ : ∃ W6 : World, Hid (W6 = w5.setCell ⟨w1.heap.size, 2, none⟩ (.slice a5 (sn + 1) k5)) := ⟨_, rfl⟩
          have G6 := hide (show w5.grownBy W6 (some w1.heap.size) by rw [hW6.out]; exact grow_set (grow_refl _ _) _ _)
          have B6 := hide (show Below w.heap.size w W6 by rw [hW6.out]; exact (B1.out.trans ((D2.out.trans (D5.out.mono (by omega))).mono (by omega))).setCell (by show w.heap.size ≤ w1.heap.size; omega) _)
          rw [← hW6.out] at XN6 XR6 ⊢
          clear e0 e1 e2 n1 n2 n3 nz
          obtain ⟨m0, m1, m2, m3⟩ := XN6.out.four
          obtain ⟨r0, r1, r2, r3⟩ := XR6.out.four
          have rz := XR6.out.frozen
          have EF := hide (show ELA W2.drew.heap.size (set4 W6 (w.heap.size + 1) (.int .i64 (num + 1)) (.slice none 0 0) (.slice a5 (sn + 1) k5) (.bool false)) a5 (sn + 1) (es ++ [⟨num + 1, ops⟩]) from (E5.out.grown G6.out hnl).grown (set4_grown (grow_refl W6 (some (w.heap.size + 1))) _ _ _ _) hrl)
          have BF := hide (show Below w.heap.size w (set4 W6 (w.heap.size + 1) (.int .i64 (num + 1)) (.slice none 0 0) (.slice a5 (sn + 1) k5) (.bool false)) from set4_below B6.out (by omega) _ _ _ _)
          go_wp2_with fail
          obtain ⟨t0, t1, t2, t3⟩ := (XR6.out.four_set (.int .i64 (num + 1)) (.slice none 0 0) (.slice a5 (sn + 1) k5) (.bool false)).four
          exact bodyPost_ret (v := .tuple #[.agg #[.int .i64 (num + 1), .slice none 0 0, .slice a5 (sn + 1) k5, .bool false], .nilIface]) (by simp [results, Try.results15, go_sem, t0, t1, t2, t3]) rfl ⟨_, by rw [HF.out] <;> rfl, by rw [HA.out, HFU.out]; exact ⟨none, 0, 0, a5, sn + 1, k5, rfl, PL.nil _, fun h => absurd h (by omega), EF.out.lower (by show w.heap.size ≤ W2.heap.size; omega), Nat.le_refl _, K5.out⟩, BF⟩
  · rw [errV_not hb]
    have HB := hide hb
    have HF := hide (Mx.smay_not hb)
    clear hb
    have HA := hide (Mx.sealed_not HF.out HB.out)
    go_wp2_with fail
    obtain ⟨t0, t1, t2, t3⟩ := (XR1.out.four_set (.int .i64 0) (.slice none 0 0) (.slice none 0 0) (.bool false)).four
    exact bodyPost_ret (v := .tuple #[.agg #[.int .i64 0, .slice none 0 0, .slice none 0 0, .bool false], .iface 31 (.int .i64 (Mx.bmay ⟨num, ops, es, be⟩ n))]) (by simp [results, Try.results15, go_sem, t0, t1, t2, t3]) rfl ⟨_, by rw [HF.out, errV_not HB.out] <;> rfl, by rw [HA.out]; exact BuVA.zero _ _, hide (set4_below B1.out (by omega) _ _ _ _)⟩

theorem seal_any (num : Int) (oa : Option Addr) (on oc : Nat) (sa : Option Addr) (sn sc : Nat) (be : Bool) (ops : List Pt) (es : List Ep) (n : Int) (w : World) (hp : PL w oa on ops) (he : EL w sa sn es) (hsm : Mx.small ops es) :
    Calls Try.prog 15 #[.agg #[.int .i64 num, .slice oa on oc, .slice sa sn sc, .bool be], .int .i64 n] w fun e w' =>
      ∃ v, e = .returned (.tuple #[v, errV (Mx.smay ⟨num, ops, es, be⟩ n)]) ∧ Hid (BuV w' v (Mx.sealed ⟨num, ops, es, be⟩ n)) ∧ Hid (Below w.heap.size w w') := by
  refine (seal_own num oa on oc sa sn sc be ops es n w hp he hsm).mono ?_
  rintro e w' ⟨v, rfl, hv, hb⟩
  exact ⟨v, rfl, hv.out.buv, hb⟩
end Go.Proofs.Ytkebmfocgalinab

/-
  Epochs dropped (Drop).
-/
namespace Go.Proofs.Ytkebmfocgalinab
open Go.RowKit

theorem drew_below {w1 w2 : World} (h : Below w1.drew.heap.size w1.drew w2) : Below w1.heap.size w1 w2 := (Below.refl _ _).drew.trans h
theorem alloc_drew_below {w1 w2 : World} {o : Obj} (h : Below (w1.alloc o).drew.heap.size (w1.alloc o).drew w2) : Below w1.heap.size w1 w2 := (below_alloc w1 o).drew.trans (h.mono (by show w1.heap.size ≤ (w1.alloc o).heap.size; simp))

namespace Mx
/-- what Drop answers -/
def dropped (b : Bu) (n k : Int) : Bu := if nmay b n k = 0 then dropB b k else zBu
theorem dropped_not {b : Bu} {n k : Int} {j : Int} (h : nmay b n k = j) (hk : j ≠ 0) : dropped b n k = zBu := by rw [dropped, if_neg (by rw [h]; exact hk)]
theorem dropped_ok {b : Bu} {n k : Int} (h : nmay b n k = 0) : dropped b n k = dropB b k := by rw [dropped, if_pos h]
theorem nmay_ok {b : Bu} {n k : Int} (h : nmay b n k = 0) : bmay b n = 0 ∧ 0 ≤ k ∧ k ≤ b.num := by
  unfold nmay at h
  split at h
  · next h1 =>
    split at h
    · omega
    · exact ⟨h1, by omega, by omega⟩
  · omega
theorem keptE_len {b : Bu} {k : Int} : (keptE b k).length ≤ b.se.length := by
  unfold keptE
  rw [List.length_drop]
  omega
theorem keptE_mem {b : Bu} {k : Int} : ∀ e ∈ keptE b k, e ∈ b.se := fun _ he => List.mem_of_mem_drop he
end Mx

set_option maxHeartbeats 8000000 in
set_option maxRecDepth 100000 in
theorem drop_own (num : Int) (oa : Option Addr) (on oc : Nat) (sa : Option Addr) (sn sc : Nat) (be : Bool) (ops : List Pt) (es : List Ep) (n : Int) (k : Int) (w : World) (hp : PL w oa on ops) (he : EL w sa sn es) (hsm : Mx.small ops es) (hsc : sn ≤ sc) :
    Calls Try.prog 16 #[.agg #[.int .i64 num, .slice oa on oc, .slice sa sn sc, .bool be], .int .i64 n, .int .i64 k] w fun e w' =>
      ∃ v, e = .returned (.tuple #[v, errV (Mx.nmay ⟨num, ops, es, be⟩ n k)]) ∧ Hid (BuVA w.heap.size w' v (Mx.dropped ⟨num, ops, es, be⟩ n k)) ∧ Hid (Below w.heap.size w w') := by
  obtain ⟨w0, hw0⟩ : ∃ w0 : World, Hid (w0 = (w.alloc (.cells #[.int .i64 num, .slice oa on oc, .slice sa sn sc, .bool be] 25)).alloc (.cells #[.int .i64 0, .slice none 0 0, .slice none 0 0, .bool false] 25)) := ⟨_, rfl⟩
  have XB := hide (show Bx w0 w.heap.size #[.int .i64 num, .slice oa on oc, .slice sa sn sc, .bool be] 25 by rw [hw0.out]; exact (Bx.new w _ _).alloc _)
  have XR := hide (show Bx w0 (w.heap.size + 1) #[.int .i64 0, .slice none 0 0, .slice none 0 0, .bool false] 25 by
    rw [hw0.out]
    have h := Bx.new (w.alloc (.cells #[.int .i64 num, .slice oa on oc, .slice sa sn sc, .bool be] 25)) #[.int .i64 0, .slice none 0 0, .slice none 0 0, .bool false] 25
    rw [World.size_alloc] at h
    exact h)
  have B0 := hide (show Below w.heap.size w w0 by rw [hw0.out]; exact (below_alloc _ _).alloc (by simp) _)
  have HP0 := hide (hp.later B0.out)
  have HE0 := hide (he.later B0.out)
  have HEN := hide he.1
  have HPN := hide hp.1
  have HSM := hide hsm
  have hsn : sn ≤ 1000 := by have := he.1; have := hsm.2.1; omega
  have hon : on ≤ 1000 := by have := hp.1; have := hsm.2.2; omega
  clear hp he hsm
  go_enter Try.func16, Try.ntmps16
  go_wp2_with fail
  rw [← hw0.out]
  refine (echeckNumber_any num oa on oc sa sn sc be ops es n k w0 HP0.out HE0.out).mono ?_
  rintro e w1 ⟨rfl, hb1⟩
  have XB1 := hide (XB.out.later hb1 XB.out.lt)
  have XR1 := hide (XR.out.later hb1 XR.out.lt)
  have B1 := hide (B0.out.trans (hb1.mono B0.out.size))
  have HP1 := hide (HP0.out.later hb1)
  have HE1 := hide (HE0.out.later hb1)
  clear hb1
  have hr1 : w.heap.size + 1 < w1.heap.size := XR1.out.lt
  have hr0 : w.heap.size < w1.heap.size := XB1.out.lt
  have hrb : ¬ w.heap.size + 1 = w.heap.size := by omega
  obtain ⟨b0, b1, b2, b3⟩ := XB1.out.four
  obtain ⟨r0, r1, r2, r3⟩ := XR1.out.four
  have rz := XR1.out.frozen
  by_cases hb : Mx.nmay ⟨num, ops, es, be⟩ n k = 0
  · have HF := hide hb
    have HA := hide (Mx.dropped_ok hb)
    obtain ⟨hb1, hk0, hkn⟩ := Mx.nmay_ok hb
    rw [hb, errV_zero]
    clear hb
    have HOK := hide (Mx.bmay_ok hb1)
    have hnum : num ≤ 2147483647 := HOK.out.1.2.2.2
    have HPS := hide (show ∀ e ∈ Mx.keptE ⟨num, ops, es, be⟩ k, e.puts.length ≤ 1000 from fun e he => by have := HSM.out.1 e (Mx.keptE_mem e he); omega)
    have HKL := hide (show (Mx.keptE ⟨num, ops, es, be⟩ k).length ≤ 1000 by have h1 := Mx.keptE_len (b := ⟨num, ops, es, be⟩) (k := k); have h2 : es.length = sn := HEN.out; have h3 : (Mx.keptE ⟨num, ops, es, be⟩ k).length ≤ es.length := h1; omega)
    clear hb1
    obtain ⟨bq, hbq⟩ : ∃ bq : Bool, Hid (bq = (be && decide (k ≠ num))) := ⟨_, rfl⟩
    have HDB := hide (show Mx.dropB ⟨num, ops, es, be⟩ k = ⟨num, ops, Mx.keptE ⟨num, ops, es, be⟩ k, bq⟩ by unfold Mx.dropB; rw [hbq.out])
    obtain ⟨KE, hKE⟩ : ∃ KE, Hid (KE = Mx.keptE ⟨num, ops, es, be⟩ k) := ⟨_, rfl⟩
    rw [← hKE.out] at HDB HPS HKL
    have KB := fun (w : World) (he : EL w sa sn es) => keptBehind_any num oa on oc sa sn sc be ⟨num, ops, es, be⟩ k w rfl he hsc hk0 hkn hnum hsn
    have HKB := hide KB
    clear KB
    rw [← hKE.out] at HKB
    cases be with
    | false =>
      have Dbq := hide (show bq = false by rw [hbq.out]; rfl)
      clear r0 r1 r2 r3 rz
      go_wp2_with fail
      refine wp_region_held_drew (S := (fun w' => w'.cell? ⟨w.heap.size, 0, none⟩ = some (.int .i64 num) ∧ w'.cell? ⟨w.heap.size, 1, none⟩ = some (.slice oa on oc) ∧ w'.cell? ⟨w.heap.size, 3, none⟩ = some (.bool false))) (by kernel_rfl) ?_ (fun hHeld => ?_)
      · exact ⟨b0, b1, b3⟩
      refine wpAnyH_take (i := 0) (oi := _) (v := ?v0f) rfl (by kernel_rfl) (by kernel_rfl) (by kernel_rfl) (fun _ _ _ h => h) (Or.inl ⟨by rfl, ?y0f⟩) (by assumption) ?r0f
      case y0f =>
        intro w hSw
        (try dsimp only at hSw)
        go_simp
        first | done | with_reducible rfl
      skip
      refine wpAnyH_take (i := 1) (oi := _) (v := ?v1f) rfl (by kernel_rfl) (by kernel_rfl) (by kernel_rfl) (fun _ _ _ h => h) (Or.inl ⟨by rfl, ?y1f⟩) (by assumption) ?r1f
      case y1f =>
        intro w hSw
        (try dsimp only at hSw)
        go_simp
        first | done | with_reducible rfl
      skip
      refine wpAnyH_take (i := 2) (oi := _) (v := ?v2f) rfl (by kernel_rfl) (by kernel_rfl) (by kernel_rfl) (fun _ _ _ h => h) (Or.inl ⟨by rfl, ?y2f⟩) (by assumption) ?r2f
      case y2f =>
        intro w hSw
        (try dsimp only at hSw)
        go_simp
        first | done | with_reducible rfl
      skip
      refine wpAnyH_take (i := 3) (oi := _) (v := ?v3f) rfl (by kernel_rfl) (by kernel_rfl) (by kernel_rfl) (fun _ _ _ h => h) (Or.inl ⟨by rfl, ?y3f⟩) (by assumption) ?r3f
      case y3f =>
        intro w hSw
        (try dsimp only at hSw)
        go_simp
        first | done | with_reducible rfl
      skip
      refine wpAnyH_take (i := 5) (oi := _) (v := ?v5f) rfl (by kernel_rfl) (by kernel_rfl) (by kernel_rfl) (fun _ _ _ h => h) (Or.inl ⟨by rfl, ?y5f⟩) (by assumption) ?r5f
      case y5f =>
        intro w hSw
        (try dsimp only at hSw)
        go_simp
        first | done | with_reducible rfl
      skip
      refine wpAnyH_take (i := 6) (oi := _) (v := ?v6f) rfl (by kernel_rfl) (by kernel_rfl) (by kernel_rfl) (fun _ _ _ h => h) (Or.inl ⟨by rfl, ?y6f⟩) (by assumption) ?r6f
      case y6f =>
        intro w hSw
        (try dsimp only at hSw)
        go_simp
        first | done | with_reducible rfl
      skip
      refine wpAnyH_ready (rs := [4, 14]) (by kernel_rfl) (by simp) ?_
      refine AllReadyH.cons (o := _) rfl (fun K hK => ?_) (AllReadyH.cons (o := _) rfl (fun K hK => ?_) AllReadyH.nil)
      · go_simp
        (go_at_call 56; refine (cloneP_ep oa on oc ops w1.drew (HP1.out.later (Below.refl _ _).drew) hon).mono ?_; rintro e w2 ⟨a2, k2, rfl, P2, C2, A2, B2⟩; have D2 := hide (drew_below B2.out); have hs2 : w.heap.size < w2.heap.size := Nat.lt_of_lt_of_le hr0 D2.out.size; obtain ⟨c0, c1, c2, c3⟩ := (XB1.out.later D2.out hr0).four)
        refine hK.out _ _ ?_ (fun hHeld => ?_)
        · exact ⟨c0, c1, c3⟩
        clear hK K
        refine wpAnyH_take (i := 7) (oi := _) (v := ?v7bf) rfl (by kernel_rfl) (by kernel_rfl) (by kernel_rfl) (fun _ _ _ h => h) (Or.inl ⟨by rfl, ?y7bf⟩) (by assumption) ?r7bf
        case y7bf =>
          intro w hSw
          (try dsimp only at hSw)
          go_simp
          first | done | with_reducible rfl
        skip
        refine wpAnyH_take (i := 8) (oi := _) (v := undef) rfl (by kernel_rfl) (by kernel_rfl) (by kernel_rfl) (fun _ _ _ h => h) (Or.inr ⟨by rfl, rfl⟩) (by assumption) ?_
        skip
        refine wpAnyH_take (i := 9) (oi := _) (v := undef) rfl (by kernel_rfl) (by kernel_rfl) (by kernel_rfl) (fun _ _ _ h => h) (Or.inr ⟨by rfl, rfl⟩) (by assumption) ?_
        skip
        refine wpAnyH_take (i := 10) (oi := _) (v := undef) rfl (by kernel_rfl) (by kernel_rfl) (by kernel_rfl) (fun _ _ _ h => h) (Or.inr ⟨by rfl, rfl⟩) (by assumption) ?_
        skip
        refine wpAnyH_take (i := 11) (oi := _) (v := undef) rfl (by kernel_rfl) (by kernel_rfl) (by kernel_rfl) (fun _ _ _ h => h) (Or.inr ⟨by rfl, rfl⟩) (by assumption) ?_
        skip
        refine wpAnyH_take (i := 12) (oi := _) (v := ?v12bf) rfl (by kernel_rfl) (by kernel_rfl) (by kernel_rfl) (fun _ _ _ h => h) (Or.inl ⟨by rfl, ?y12bf⟩) (by assumption) ?r12bf
        case y12bf =>
          intro w hSw
          (try dsimp only at hSw)
          go_simp
          first | done | with_reducible rfl
        skip
        refine wpAnyH_take (i := 13) (oi := _) (v := ?v13bf) rfl (by kernel_rfl) (by kernel_rfl) (by kernel_rfl) (fun _ _ _ h => h) (Or.inl ⟨by rfl, ?y13bf⟩) (by assumption) ?r13bf
        case y13bf =>
          intro w hSw
          (try dsimp only at hSw)
          go_simp
          first | done | with_reducible rfl
        skip
        refine wpAnyH_ready (rs := [14]) (by kernel_rfl) (by simp) ?_
        refine AllReadyH.cons (o := _) rfl (fun K hK => ?_) AllReadyH.nil
        go_simp
        skip
        refine hK.out _ _ ?_ (fun hHeld => ?_)
        · (simp only [cell_alloc_lt hs2]; exact ⟨c0, c1, c3⟩)
        clear hK K
        refine wpAnyH_ready (rs := [15]) (by kernel_rfl) (by simp) ?_
        refine AllReadyH.cons (o := _) rfl (fun K hK => ?_) AllReadyH.nil
        go_simp
        skip
        refine hK.out _ _ ?_ (fun hHeld => ?_)
        · (simp only [cell_alloc_lt hs2]; exact ⟨c0, c1, c3⟩)
        clear hK K
        refine wpAnyH_done (by kernel_rfl) ?_ _
        obtain ⟨W3, hW3⟩ : ∃ W3 : World, Hid (W3 = w2.alloc (.cells #[.int .i64 num, .slice a2 on k2, .slice none 0 0, .bool false] 25)) := ⟨_, rfl⟩
        skip
        rw [← hW3.out]
        have hg1 : w1.heap.size ≤ w2.heap.size := D2.out.size
        have XN3 := hide (show Bx W3 w2.heap.size #[.int .i64 num, .slice a2 on k2, .slice none 0 0, .bool false] 25 by rw [hW3.out]; exact Bx.new w2 _ _)
        have D3 := hide (show Below w1.heap.size w1 W3 by rw [hW3.out]; exact D2.out.trans ((below_alloc w2 _).mono D2.out.size))
        have P3 := hide (show PL W3 a2 on ops by rw [hW3.out]; exact P2.out.later (below_alloc w2 _))
        have A3 := hide (show 0 < on → ∀ p, a2 = some p → w1.heap.size ≤ p.block ∧ p.block ≠ w2.heap.size from fun h0 p hp => ⟨A2.out p hp, fun e => by obtain ⟨b, off, ha, hlt, _⟩ := P2.out.2.2.2 h0; rw [ha] at hp; cases hp; change b = w2.heap.size at e; omega⟩)
        have XB3 := hide (XB1.out.later D3.out hr0)
        have XR3 := hide (XR1.out.later D3.out hr1)
        have HE3 := hide (HE1.out.later D3.out)
        have hr3 : w.heap.size + 1 < W3.heap.size := XR3.out.lt
        have hg3 : w2.heap.size < W3.heap.size := XN3.out.lt
        have hgr : ¬ w2.heap.size = w.heap.size + 1 := by omega
        clear b0 b1 b2 b3 c0 c1 c2 c3
        obtain ⟨b0, b1, b2, b3⟩ := XB3.out.four
        go_wp2_with fail
        refine (HKB.out W3 HE3.out).mono ?_
        rintro e w4 ⟨a4, k4, rfl, E4, B4⟩
        clear b0 b1 b2 b3
        go_wp2_with fail
        refine (fresh_any a4 KE.length k4 KE w4 E4.out HKL.out HPS.out).mono ?_
        rintro e w5 ⟨a5, k5, rfl, O5, B5⟩
        have D5 := hide (show Below W3.heap.size W3 w5 from B4.out.trans (B5.out.mono B4.out.size))
        have XN5 := hide (XN3.out.later D5.out hg3)
        have XR5 := hide (XR3.out.later D5.out hr3)
        have F5 := hide (O5.out.full (Nat.le_refl _))
        have hg4 : w2.heap.size < w4.heap.size := Nat.lt_of_lt_of_le hg3 B4.out.size
        have hr4 : w.heap.size + 1 < w4.heap.size := Nat.lt_of_lt_of_le hr3 B4.out.size
        obtain ⟨W6, hW6⟩ : ∃ W6 : World, Hid (W6 = w5.setCell ⟨w2.heap.size, 2, none⟩ (.slice a5 KE.length k5)) := ⟨_, rfl⟩
        have G6 := hide (show w5.grownBy W6 (some w2.heap.size) by rw [hW6.out]; exact grow_set (grow_refl _ _) _ _)
        have XN6 := hide (show Bx W6 w2.heap.size #[.int .i64 num, .slice a2 on k2, .slice a5 KE.length k5, .bool false] 25 by rw [hW6.out]; exact XN5.out.set 2 _)
        have XR6 := hide (show Bx W6 (w.heap.size + 1) #[.int .i64 0, .slice none 0 0, .slice none 0 0, .bool false] 25 by rw [hW6.out]; exact XR5.out.other ⟨w2.heap.size, 2, none⟩ _ (fun e => hgr e.symm))
        have B6 := hide (show Below w.heap.size w W6 by rw [hW6.out]; exact (B1.out.trans ((D3.out.trans (D5.out.mono D3.out.size)).mono (by omega))).setCell (by show w.heap.size ≤ w2.heap.size; omega) _)
        obtain ⟨n0, n1, n2, n3⟩ := XN5.out.four
        have nz := XN5.out.frozen
        obtain ⟨r0, r1, r2, r3⟩ := XR5.out.four
        have rz := XR5.out.frozen
        have hrg : ¬ w.heap.size + 1 = w2.heap.size := fun e => hgr e.symm
        have GF := hide (set4_grown (grow_refl W6 (some (w.heap.size + 1))) (.int .i64 num) (.slice a2 on k2) (.slice a5 KE.length k5) (.bool false))
        have EF := hide (show ELA w.heap.size (set4 W6 (w.heap.size + 1) (.int .i64 num) (.slice a2 on k2) (.slice a5 KE.length k5) (.bool false)) a5 KE.length KE from ((F5.out.1.grown G6.out hg4).grown GF.out hr4).lower (by omega))
        have PF := hide (show PL (set4 W6 (w.heap.size + 1) (.int .i64 num) (.slice a2 on k2) (.slice a5 KE.length k5) (.bool false)) a2 on ops from ((P3.out.later D5.out).grownBy G6.out (fun h0 p hp e => (A3.out h0 p hp).2 (Option.some.inj e).symm)).grownBy GF.out (fun h0 p hp e => by have h1 := (A3.out h0 p hp).1; have h2 : w.heap.size + 1 = p.block := Option.some.inj e; omega))
        have BF := hide (show Below w.heap.size w (set4 W6 (w.heap.size + 1) (.int .i64 num) (.slice a2 on k2) (.slice a5 KE.length k5) (.bool false)) from set4_below B6.out (by omega) _ _ _ _)
        go_wp2_with fail
        rw [← hW6.out]
        obtain ⟨t0, t1, t2, t3⟩ := (XR6.out.four_set (.int .i64 num) (.slice a2 on k2) (.slice a5 KE.length k5) (.bool false)).four
        exact bodyPost_ret (v := .tuple #[.agg #[.int .i64 num, .slice a2 on k2, .slice a5 KE.length k5, .bool false], .nilIface]) (by simp [results, Try.results16, go_sem, t0, t1, t2, t3]) rfl ⟨_, by rw [HF.out] <;> rfl, by rw [HA.out, HDB.out, Dbq.out]; exact ⟨a2, on, k2, a5, KE.length, k5, rfl, PF.out, fun h0 p hp => by have h1 := (A3.out h0 p hp).1; omega, EF.out, C2.out, F5.out.2⟩, BF⟩
      · go_simp
        skip
        refine hK.out _ _ ?_ (fun hHeld => ?_)
        · (simp only [cell_drew, cell_alloc_lt hr0]; exact ⟨b0, b1, b3⟩)
        clear hK K
        refine wpAnyH_ready (rs := [4]) (by kernel_rfl) (by simp) ?_
        refine AllReadyH.cons (o := _) rfl (fun K hK => ?_) AllReadyH.nil
        go_simp
        (go_at_call 56; refine (cloneP_ep oa on oc ops (w1.alloc (.cells #[.int .i64 0, .slice none 0 0, .slice none 0 0, .bool false] 25)).drew (HP1.out.later (below_alloc _ _).drew) hon).mono ?_; rintro e w2 ⟨a2, k2, rfl, P2, C2, A2, B2⟩; have D2 := hide (alloc_drew_below B2.out); have hs2 : w.heap.size < w2.heap.size := Nat.lt_of_lt_of_le hr0 D2.out.size; have hgb : ¬ w1.heap.size = w.heap.size := (by omega); have XZ := hide ((Bx.newD w1 #[.int .i64 0, .slice none 0 0, .slice none 0 0, .bool false] 25).later B2.out (by show w1.heap.size < (w1.alloc _).heap.size; simp)); obtain ⟨z0, z1, z2, z3⟩ := XZ.out.four; have zz := XZ.out.frozen; obtain ⟨c0, c1, c2, c3⟩ := (XB1.out.later D2.out hr0).four)
        refine hK.out _ _ ?_ (fun hHeld => ?_)
        · exact ⟨c0, c1, c3⟩
        clear hK K
        refine wpAnyH_take (i := 7) (oi := _) (v := ?v7af) rfl (by kernel_rfl) (by kernel_rfl) (by kernel_rfl) (fun _ _ _ h => h) (Or.inl ⟨by rfl, ?y7af⟩) (by assumption) ?r7af
        case y7af =>
          intro w hSw
          (try dsimp only at hSw)
          go_simp
          first | done | with_reducible rfl
        skip
        refine wpAnyH_take (i := 8) (oi := _) (v := undef) rfl (by kernel_rfl) (by kernel_rfl) (by kernel_rfl) (fun _ _ _ h => h) (Or.inr ⟨by rfl, rfl⟩) (by assumption) ?_
        skip
        refine wpAnyH_take (i := 9) (oi := _) (v := undef) rfl (by kernel_rfl) (by kernel_rfl) (by kernel_rfl) (fun _ _ _ h => h) (Or.inr ⟨by rfl, rfl⟩) (by assumption) ?_
        skip
        refine wpAnyH_take (i := 10) (oi := _) (v := undef) rfl (by kernel_rfl) (by kernel_rfl) (by kernel_rfl) (fun _ _ _ h => h) (Or.inr ⟨by rfl, rfl⟩) (by assumption) ?_
        skip
        refine wpAnyH_take (i := 11) (oi := _) (v := undef) rfl (by kernel_rfl) (by kernel_rfl) (by kernel_rfl) (fun _ _ _ h => h) (Or.inr ⟨by rfl, rfl⟩) (by assumption) ?_
        skip
        refine wpAnyH_take (i := 12) (oi := _) (v := ?v12af) rfl (by kernel_rfl) (by kernel_rfl) (by kernel_rfl) (fun _ _ _ h => h) (Or.inl ⟨by rfl, ?y12af⟩) (by assumption) ?r12af
        case y12af =>
          intro w hSw
          (try dsimp only at hSw)
          go_simp
          first | done | with_reducible rfl
        skip
        refine wpAnyH_take (i := 13) (oi := _) (v := ?v13af) rfl (by kernel_rfl) (by kernel_rfl) (by kernel_rfl) (fun _ _ _ h => h) (Or.inl ⟨by rfl, ?y13af⟩) (by assumption) ?r13af
        case y13af =>
          intro w hSw
          (try dsimp only at hSw)
          go_simp
          first | done | with_reducible rfl
        skip
        refine wpAnyH_ready (rs := [15]) (by kernel_rfl) (by simp) ?_
        refine AllReadyH.cons (o := _) rfl (fun K hK => ?_) AllReadyH.nil
        go_simp
        skip
        refine hK.out _ _ ?_ (fun hHeld => ?_)
        · (simp only [cell_set_far hgb]; exact ⟨c0, c1, c3⟩)
        clear hK K
        refine wpAnyH_done (by kernel_rfl) ?_ _
        obtain ⟨W3, hW3⟩ : ∃ W3 : World, Hid (W3 = set4 w2 w1.heap.size (.int .i64 num) (.slice a2 on k2) (.slice none 0 0) (.bool false)) := ⟨_, rfl⟩
        unfold set4 at hW3
        rw [← hW3.out]
        have hg1 : w1.heap.size ≤ w1.heap.size := Nat.le_refl _
        clear z0 z1 z2 z3 zz
        have XN3 := hide (show Bx W3 w1.heap.size #[.int .i64 num, .slice a2 on k2, .slice none 0 0, .bool false] 25 by rw [hW3.out]; exact XZ.out.four_set _ _ _ _)
        have D3 := hide (show Below w1.heap.size w1 W3 by rw [hW3.out]; exact set4_below D2.out (Nat.le_refl _) _ _ _ _)
        have P3 := hide (show PL W3 a2 on ops by rw [hW3.out]; exact P2.out.grownBy (set4_grown (grow_refl w2 (some w1.heap.size)) _ _ _ _) (fun _ p hp e => by have h1 : (w1.alloc (.cells #[.int .i64 0, .slice none 0 0, .slice none 0 0, .bool false] 25)).heap.size ≤ p.block := A2.out p hp; rw [World.size_alloc] at h1; have h2 : w1.heap.size = p.block := Option.some.inj e; omega))
        have A3 := hide (show 0 < on → ∀ p, a2 = some p → w1.heap.size ≤ p.block ∧ p.block ≠ w1.heap.size from fun _ p hp => by have h1 : (w1.alloc (.cells #[.int .i64 0, .slice none 0 0, .slice none 0 0, .bool false] 25)).heap.size ≤ p.block := A2.out p hp; rw [World.size_alloc] at h1; exact ⟨by omega, by omega⟩)
        have XB3 := hide (XB1.out.later D3.out hr0)
        have XR3 := hide (XR1.out.later D3.out hr1)
        have HE3 := hide (HE1.out.later D3.out)
        have hr3 : w.heap.size + 1 < W3.heap.size := XR3.out.lt
        have hg3 : w1.heap.size < W3.heap.size := XN3.out.lt
        have hgr : ¬ w1.heap.size = w.heap.size + 1 := by omega
        clear b0 b1 b2 b3 c0 c1 c2 c3
        obtain ⟨b0, b1, b2, b3⟩ := XB3.out.four
        go_wp2_with fail
        refine (HKB.out W3 HE3.out).mono ?_
        rintro e w4 ⟨a4, k4, rfl, E4, B4⟩
        clear b0 b1 b2 b3
        go_wp2_with fail
        refine (fresh_any a4 KE.length k4 KE w4 E4.out HKL.out HPS.out).mono ?_
        rintro e w5 ⟨a5, k5, rfl, O5, B5⟩
        have D5 := hide (show Below W3.heap.size W3 w5 from B4.out.trans (B5.out.mono B4.out.size))
        have XN5 := hide (XN3.out.later D5.out hg3)
        have XR5 := hide (XR3.out.later D5.out hr3)
        have F5 := hide (O5.out.full (Nat.le_refl _))
        have hg4 : w1.heap.size < w4.heap.size := Nat.lt_of_lt_of_le hg3 B4.out.size
        have hr4 : w.heap.size + 1 < w4.heap.size := Nat.lt_of_lt_of_le hr3 B4.out.size
        obtain ⟨W6, hW6⟩ : ∃ W6 : World, Hid (W6 = w5.setCell ⟨w1.heap.size, 2, none⟩ (.slice a5 KE.length k5)) := ⟨_, rfl⟩
        have G6 := hide (show w5.grownBy W6 (some w1.heap.size) by rw [hW6.out]; exact grow_set (grow_refl _ _) _ _)
        have XN6 := hide (show Bx W6 w1.heap.size #[.int .i64 num, .slice a2 on k2, .slice a5 KE.length k5, .bool false] 25 by rw [hW6.out]; exact XN5.out.set 2 _)
        have XR6 := hide (show Bx W6 (w.heap.size + 1) #[.int .i64 0, .slice none 0 0, .slice none 0 0, .bool false] 25 by rw [hW6.out]; exact XR5.out.other ⟨w1.heap.size, 2, none⟩ _ (fun e => hgr e.symm))
        have B6 := hide (show Below w.heap.size w W6 by rw [hW6.out]; exact (B1.out.trans ((D3.out.trans (D5.out.mono D3.out.size)).mono (by omega))).setCell (by show w.heap.size ≤ w1.heap.size; omega) _)
        obtain ⟨n0, n1, n2, n3⟩ := XN5.out.four
        have nz := XN5.out.frozen
        obtain ⟨r0, r1, r2, r3⟩ := XR5.out.four
        have rz := XR5.out.frozen
        have hrg : ¬ w.heap.size + 1 = w1.heap.size := fun e => hgr e.symm
        have GF := hide (set4_grown (grow_refl W6 (some (w.heap.size + 1))) (.int .i64 num) (.slice a2 on k2) (.slice a5 KE.length k5) (.bool false))
        have EF := hide (show ELA w.heap.size (set4 W6 (w.heap.size + 1) (.int .i64 num) (.slice a2 on k2) (.slice a5 KE.length k5) (.bool false)) a5 KE.length KE from ((F5.out.1.grown G6.out hg4).grown GF.out hr4).lower (by omega))
        have PF := hide (show PL (set4 W6 (w.heap.size + 1) (.int .i64 num) (.slice a2 on k2) (.slice a5 KE.length k5) (.bool false)) a2 on ops from ((P3.out.later D5.out).grownBy G6.out (fun h0 p hp e => (A3.out h0 p hp).2 (Option.some.inj e).symm)).grownBy GF.out (fun h0 p hp e => by have h1 := (A3.out h0 p hp).1; have h2 : w.heap.size + 1 = p.block := Option.some.inj e; omega))
        have BF := hide (show Below w.heap.size w (set4 W6 (w.heap.size + 1) (.int .i64 num) (.slice a2 on k2) (.slice a5 KE.length k5) (.bool false)) from set4_below B6.out (by omega) _ _ _ _)
        go_wp2_with fail
        rw [← hW6.out]
        obtain ⟨t0, t1, t2, t3⟩ := (XR6.out.four_set (.int .i64 num) (.slice a2 on k2) (.slice a5 KE.length k5) (.bool false)).four
        exact bodyPost_ret (v := .tuple #[.agg #[.int .i64 num, .slice a2 on k2, .slice a5 KE.length k5, .bool false], .nilIface]) (by simp [results, Try.results16, go_sem, t0, t1, t2, t3]) rfl ⟨_, by rw [HF.out] <;> rfl, by rw [HA.out, HDB.out, Dbq.out]; exact ⟨a2, on, k2, a5, KE.length, k5, rfl, PF.out, fun h0 p hp => by have h1 := (A3.out h0 p hp).1; omega, EF.out, C2.out, F5.out.2⟩, BF⟩
    | true =>
      by_cases hkn2 : num = k
      · have Dbq := hide (show bq = false by rw [hbq.out, hkn2]; simp)
        subst hkn2
        clear r0 r1 r2 r3 rz
        go_wp2_with fail
        refine wp_region_held_drew (S := (fun w' => w'.cell? ⟨w.heap.size, 0, none⟩ = some (.int .i64 num) ∧ w'.cell? ⟨w.heap.size, 1, none⟩ = some (.slice oa on oc) ∧ w'.cell? ⟨w.heap.size, 3, none⟩ = some (.bool true))) (by kernel_rfl) ?_ (fun hHeld => ?_)
        · exact ⟨b0, b1, b3⟩
        refine wpAnyH_take (i := 0) (oi := _) (v := ?v0t) rfl (by kernel_rfl) (by kernel_rfl) (by kernel_rfl) (fun _ _ _ h => h) (Or.inl ⟨by rfl, ?y0t⟩) (by assumption) ?r0t
        case y0t =>
          intro w hSw
          (try dsimp only at hSw)
          go_simp
          first | done | with_reducible rfl
        skip
        refine wpAnyH_take (i := 1) (oi := _) (v := ?v1t) rfl (by kernel_rfl) (by kernel_rfl) (by kernel_rfl) (fun _ _ _ h => h) (Or.inl ⟨by rfl, ?y1t⟩) (by assumption) ?r1t
        case y1t =>
          intro w hSw
          (try dsimp only at hSw)
          go_simp
          first | done | with_reducible rfl
        skip
        refine wpAnyH_take (i := 2) (oi := _) (v := ?v2t) rfl (by kernel_rfl) (by kernel_rfl) (by kernel_rfl) (fun _ _ _ h => h) (Or.inl ⟨by rfl, ?y2t⟩) (by assumption) ?r2t
        case y2t =>
          intro w hSw
          (try dsimp only at hSw)
          go_simp
          first | done | with_reducible rfl
        skip
        refine wpAnyH_take (i := 3) (oi := _) (v := ?v3t) rfl (by kernel_rfl) (by kernel_rfl) (by kernel_rfl) (fun _ _ _ h => h) (Or.inl ⟨by rfl, ?y3t⟩) (by assumption) ?r3t
        case y3t =>
          intro w hSw
          (try dsimp only at hSw)
          go_simp
          first | done | with_reducible rfl
        skip
        refine wpAnyH_take (i := 5) (oi := _) (v := ?v5t) rfl (by kernel_rfl) (by kernel_rfl) (by kernel_rfl) (fun _ _ _ h => h) (Or.inl ⟨by rfl, ?y5t⟩) (by assumption) ?r5t
        case y5t =>
          intro w hSw
          (try dsimp only at hSw)
          go_simp
          first | done | with_reducible rfl
        skip
        refine wpAnyH_take (i := 6) (oi := _) (v := ?v6t) rfl (by kernel_rfl) (by kernel_rfl) (by kernel_rfl) (fun _ _ _ h => h) (Or.inl ⟨by rfl, ?y6t⟩) (by assumption) ?r6t
        case y6t =>
          intro w hSw
          (try dsimp only at hSw)
          go_simp
          first | done | with_reducible rfl
        skip
        refine wpAnyH_ready (rs := [4, 14]) (by kernel_rfl) (by simp) ?_
        refine AllReadyH.cons (o := _) rfl (fun K hK => ?_) (AllReadyH.cons (o := _) rfl (fun K hK => ?_) AllReadyH.nil)
        · go_simp
          (go_at_call 56; refine (cloneP_ep oa on oc ops w1.drew (HP1.out.later (Below.refl _ _).drew) hon).mono ?_; rintro e w2 ⟨a2, k2, rfl, P2, C2, A2, B2⟩; have D2 := hide (drew_below B2.out); have hs2 : w.heap.size < w2.heap.size := Nat.lt_of_lt_of_le hr0 D2.out.size; obtain ⟨c0, c1, c2, c3⟩ := (XB1.out.later D2.out hr0).four)
          refine hK.out _ _ ?_ (fun hHeld => ?_)
          · exact ⟨c0, c1, c3⟩
          clear hK K
          refine wpAnyH_take (i := 7) (oi := _) (v := ?v7bt) rfl (by kernel_rfl) (by kernel_rfl) (by kernel_rfl) (fun _ _ _ h => h) (Or.inl ⟨by rfl, ?y7bt⟩) (by assumption) ?r7bt
          case y7bt =>
            intro w hSw
            (try dsimp only at hSw)
            go_simp
            first | done | with_reducible rfl
          skip
          refine wpAnyH_take (i := 8) (oi := _) (v := ?v8bt) rfl (by kernel_rfl) (by kernel_rfl) (by kernel_rfl) (fun _ _ _ h => h) (Or.inl ⟨by rfl, ?y8bt⟩) (by assumption) ?r8bt
          case y8bt =>
            intro w hSw
            (try dsimp only at hSw)
            go_simp
            first | done | with_reducible rfl
          skip
          refine wpAnyH_take (i := 9) (oi := _) (v := ?v9bt) rfl (by kernel_rfl) (by kernel_rfl) (by kernel_rfl) (fun _ _ _ h => h) (Or.inl ⟨by rfl, ?y9bt⟩) (by assumption) ?r9bt
          case y9bt =>
            intro w hSw
            (try dsimp only at hSw)
            go_simp
            first | done | with_reducible rfl
          skip
          refine wpAnyH_take (i := 10) (oi := _) (v := ?v10bt) rfl (by kernel_rfl) (by kernel_rfl) (by kernel_rfl) (fun _ _ _ h => h) (Or.inl ⟨by rfl, ?y10bt⟩) (by assumption) ?r10bt
          case y10bt =>
            intro w hSw
            (try dsimp only at hSw)
            go_simp
            first | done | with_reducible rfl
          skip
          refine wpAnyH_take (i := 11) (oi := _) (v := ?v11bt) rfl (by kernel_rfl) (by kernel_rfl) (by kernel_rfl) (fun _ _ _ h => h) (Or.inl ⟨by rfl, ?y11bt⟩) (by assumption) ?r11bt
          case y11bt =>
            intro w hSw
            (try dsimp only at hSw)
            go_simp
            first | done | with_reducible rfl
          skip
          refine wpAnyH_take (i := 12) (oi := _) (v := ?v12bt) rfl (by kernel_rfl) (by kernel_rfl) (by kernel_rfl) (fun _ _ _ h => h) (Or.inl ⟨by rfl, ?y12bt⟩) (by assumption) ?r12bt
          case y12bt =>
            intro w hSw
            (try dsimp only at hSw)
            go_simp
            first | done | with_reducible rfl
          skip
          refine wpAnyH_take (i := 13) (oi := _) (v := ?v13bt) rfl (by kernel_rfl) (by kernel_rfl) (by kernel_rfl) (fun _ _ _ h => h) (Or.inl ⟨by rfl, ?y13bt⟩) (by assumption) ?r13bt
          case y13bt =>
            intro w hSw
            (try dsimp only at hSw)
            go_simp
            first | done | with_reducible rfl
          skip
          refine wpAnyH_ready (rs := [14]) (by kernel_rfl) (by simp) ?_
          refine AllReadyH.cons (o := _) rfl (fun K hK => ?_) AllReadyH.nil
          go_simp
          skip
          refine hK.out _ _ ?_ (fun hHeld => ?_)
          · (simp only [cell_alloc_lt hs2]; exact ⟨c0, c1, c3⟩)
          clear hK K
          refine wpAnyH_ready (rs := [15]) (by kernel_rfl) (by simp) ?_
          refine AllReadyH.cons (o := _) rfl (fun K hK => ?_) AllReadyH.nil
          go_simp
          skip
          refine hK.out _ _ ?_ (fun hHeld => ?_)
          · (simp only [cell_alloc_lt hs2]; exact ⟨c0, c1, c3⟩)
          clear hK K
          refine wpAnyH_done (by kernel_rfl) ?_ _
          obtain ⟨W3, hW3⟩ : ∃ W3 : World, Hid (W3 = w2.alloc (.cells #[.int .i64 num, .slice a2 on k2, .slice none 0 0, .bool false] 25)) := ⟨_, rfl⟩
          skip
          rw [← hW3.out]
          have hg1 : w1.heap.size ≤ w2.heap.size := D2.out.size
          have XN3 := hide (show Bx W3 w2.heap.size #[.int .i64 num, .slice a2 on k2, .slice none 0 0, .bool false] 25 by rw [hW3.out]; exact Bx.new w2 _ _)
          have D3 := hide (show Below w1.heap.size w1 W3 by rw [hW3.out]; exact D2.out.trans ((below_alloc w2 _).mono D2.out.size))
          have P3 := hide (show PL W3 a2 on ops by rw [hW3.out]; exact P2.out.later (below_alloc w2 _))
          have A3 := hide (show 0 < on → ∀ p, a2 = some p → w1.heap.size ≤ p.block ∧ p.block ≠ w2.heap.size from fun h0 p hp => ⟨A2.out p hp, fun e => by obtain ⟨b, off, ha, hlt, _⟩ := P2.out.2.2.2 h0; rw [ha] at hp; cases hp; change b = w2.heap.size at e; omega⟩)
          have XB3 := hide (XB1.out.later D3.out hr0)
          have XR3 := hide (XR1.out.later D3.out hr1)
          have HE3 := hide (HE1.out.later D3.out)
          have hr3 : w.heap.size + 1 < W3.heap.size := XR3.out.lt
          have hg3 : w2.heap.size < W3.heap.size := XN3.out.lt
          have hgr : ¬ w2.heap.size = w.heap.size + 1 := by omega
          clear b0 b1 b2 b3 c0 c1 c2 c3
          obtain ⟨b0, b1, b2, b3⟩ := XB3.out.four
          go_wp2_with fail
          refine (HKB.out W3 HE3.out).mono ?_
          rintro e w4 ⟨a4, k4, rfl, E4, B4⟩
          clear b0 b1 b2 b3
          go_wp2_with fail
          refine (fresh_any a4 KE.length k4 KE w4 E4.out HKL.out HPS.out).mono ?_
          rintro e w5 ⟨a5, k5, rfl, O5, B5⟩
          have D5 := hide (show Below W3.heap.size W3 w5 from B4.out.trans (B5.out.mono B4.out.size))
          have XN5 := hide (XN3.out.later D5.out hg3)
          have XR5 := hide (XR3.out.later D5.out hr3)
          have F5 := hide (O5.out.full (Nat.le_refl _))
          have hg4 : w2.heap.size < w4.heap.size := Nat.lt_of_lt_of_le hg3 B4.out.size
          have hr4 : w.heap.size + 1 < w4.heap.size := Nat.lt_of_lt_of_le hr3 B4.out.size
          obtain ⟨W6, hW6⟩ : ∃ W6 : World, Hid (W6 = w5.setCell ⟨w2.heap.size, 2, none⟩ (.slice a5 KE.length k5)) := ⟨_, rfl⟩
          have G6 := hide (show w5.grownBy W6 (some w2.heap.size) by rw [hW6.out]; exact grow_set (grow_refl _ _) _ _)
          have XN6 := hide (show Bx W6 w2.heap.size #[.int .i64 num, .slice a2 on k2, .slice a5 KE.length k5, .bool false] 25 by rw [hW6.out]; exact XN5.out.set 2 _)
          have XR6 := hide (show Bx W6 (w.heap.size + 1) #[.int .i64 0, .slice none 0 0, .slice none 0 0, .bool false] 25 by rw [hW6.out]; exact XR5.out.other ⟨w2.heap.size, 2, none⟩ _ (fun e => hgr e.symm))
          have B6 := hide (show Below w.heap.size w W6 by rw [hW6.out]; exact (B1.out.trans ((D3.out.trans (D5.out.mono D3.out.size)).mono (by omega))).setCell (by show w.heap.size ≤ w2.heap.size; omega) _)
          obtain ⟨n0, n1, n2, n3⟩ := XN5.out.four
          have nz := XN5.out.frozen
          obtain ⟨r0, r1, r2, r3⟩ := XR5.out.four
          have rz := XR5.out.frozen
          have hrg : ¬ w.heap.size + 1 = w2.heap.size := fun e => hgr e.symm
          have GF := hide (set4_grown (grow_refl W6 (some (w.heap.size + 1))) (.int .i64 num) (.slice a2 on k2) (.slice a5 KE.length k5) (.bool false))
          have EF := hide (show ELA w.heap.size (set4 W6 (w.heap.size + 1) (.int .i64 num) (.slice a2 on k2) (.slice a5 KE.length k5) (.bool false)) a5 KE.length KE from ((F5.out.1.grown G6.out hg4).grown GF.out hr4).lower (by omega))
          have PF := hide (show PL (set4 W6 (w.heap.size + 1) (.int .i64 num) (.slice a2 on k2) (.slice a5 KE.length k5) (.bool false)) a2 on ops from ((P3.out.later D5.out).grownBy G6.out (fun h0 p hp e => (A3.out h0 p hp).2 (Option.some.inj e).symm)).grownBy GF.out (fun h0 p hp e => by have h1 := (A3.out h0 p hp).1; have h2 : w.heap.size + 1 = p.block := Option.some.inj e; omega))
          have BF := hide (show Below w.heap.size w (set4 W6 (w.heap.size + 1) (.int .i64 num) (.slice a2 on k2) (.slice a5 KE.length k5) (.bool false)) from set4_below B6.out (by omega) _ _ _ _)
          go_wp2_with fail
          rw [← hW6.out]
          obtain ⟨t0, t1, t2, t3⟩ := (XR6.out.four_set (.int .i64 num) (.slice a2 on k2) (.slice a5 KE.length k5) (.bool false)).four
          exact bodyPost_ret (v := .tuple #[.agg #[.int .i64 num, .slice a2 on k2, .slice a5 KE.length k5, .bool false], .nilIface]) (by simp [results, Try.results16, go_sem, t0, t1, t2, t3]) rfl ⟨_, by rw [HF.out] <;> rfl, by rw [HA.out, HDB.out, Dbq.out]; exact ⟨a2, on, k2, a5, KE.length, k5, rfl, PF.out, fun h0 p hp => by have h1 := (A3.out h0 p hp).1; omega, EF.out, C2.out, F5.out.2⟩, BF⟩
        · go_simp
          skip
          refine hK.out _ _ ?_ (fun hHeld => ?_)
          · (simp only [cell_drew, cell_alloc_lt hr0]; exact ⟨b0, b1, b3⟩)
          clear hK K
          refine wpAnyH_ready (rs := [4]) (by kernel_rfl) (by simp) ?_
          refine AllReadyH.cons (o := _) rfl (fun K hK => ?_) AllReadyH.nil
          go_simp
          (go_at_call 56; refine (cloneP_ep oa on oc ops (w1.alloc (.cells #[.int .i64 0, .slice none 0 0, .slice none 0 0, .bool false] 25)).drew (HP1.out.later (below_alloc _ _).drew) hon).mono ?_; rintro e w2 ⟨a2, k2, rfl, P2, C2, A2, B2⟩; have D2 := hide (alloc_drew_below B2.out); have hs2 : w.heap.size < w2.heap.size := Nat.lt_of_lt_of_le hr0 D2.out.size; have hgb : ¬ w1.heap.size = w.heap.size := (by omega); have XZ := hide ((Bx.newD w1 #[.int .i64 0, .slice none 0 0, .slice none 0 0, .bool false] 25).later B2.out (by show w1.heap.size < (w1.alloc _).heap.size; simp)); obtain ⟨z0, z1, z2, z3⟩ := XZ.out.four; have zz := XZ.out.frozen; obtain ⟨c0, c1, c2, c3⟩ := (XB1.out.later D2.out hr0).four)
          refine hK.out _ _ ?_ (fun hHeld => ?_)
          · exact ⟨c0, c1, c3⟩
          clear hK K
          refine wpAnyH_take (i := 7) (oi := _) (v := ?v7at) rfl (by kernel_rfl) (by kernel_rfl) (by kernel_rfl) (fun _ _ _ h => h) (Or.inl ⟨by rfl, ?y7at⟩) (by assumption) ?r7at
          case y7at =>
            intro w hSw
            (try dsimp only at hSw)
            go_simp
            first | done | with_reducible rfl
          skip
          refine wpAnyH_take (i := 8) (oi := _) (v := ?v8at) rfl (by kernel_rfl) (by kernel_rfl) (by kernel_rfl) (fun _ _ _ h => h) (Or.inl ⟨by rfl, ?y8at⟩) (by assumption) ?r8at
          case y8at =>
            intro w hSw
            (try dsimp only at hSw)
            go_simp
            first | done | with_reducible rfl
          skip
          refine wpAnyH_take (i := 9) (oi := _) (v := ?v9at) rfl (by kernel_rfl) (by kernel_rfl) (by kernel_rfl) (fun _ _ _ h => h) (Or.inl ⟨by rfl, ?y9at⟩) (by assumption) ?r9at
          case y9at =>
            intro w hSw
            (try dsimp only at hSw)
            go_simp
            first | done | with_reducible rfl
          skip
          refine wpAnyH_take (i := 10) (oi := _) (v := ?v10at) rfl (by kernel_rfl) (by kernel_rfl) (by kernel_rfl) (fun _ _ _ h => h) (Or.inl ⟨by rfl, ?y10at⟩) (by assumption) ?r10at
          case y10at =>
            intro w hSw
            (try dsimp only at hSw)
            go_simp
            first | done | with_reducible rfl
          skip
          refine wpAnyH_take (i := 11) (oi := _) (v := ?v11at) rfl (by kernel_rfl) (by kernel_rfl) (by kernel_rfl) (fun _ _ _ h => h) (Or.inl ⟨by rfl, ?y11at⟩) (by assumption) ?r11at
          case y11at =>
            intro w hSw
            (try dsimp only at hSw)
            go_simp
            first | done | with_reducible rfl
          skip
          refine wpAnyH_take (i := 12) (oi := _) (v := ?v12at) rfl (by kernel_rfl) (by kernel_rfl) (by kernel_rfl) (fun _ _ _ h => h) (Or.inl ⟨by rfl, ?y12at⟩) (by assumption) ?r12at
          case y12at =>
            intro w hSw
            (try dsimp only at hSw)
            go_simp
            first | done | with_reducible rfl
          skip
          refine wpAnyH_take (i := 13) (oi := _) (v := ?v13at) rfl (by kernel_rfl) (by kernel_rfl) (by kernel_rfl) (fun _ _ _ h => h) (Or.inl ⟨by rfl, ?y13at⟩) (by assumption) ?r13at
          case y13at =>
            intro w hSw
            (try dsimp only at hSw)
            go_simp
            first | done | with_reducible rfl
          skip
          refine wpAnyH_ready (rs := [15]) (by kernel_rfl) (by simp) ?_
          refine AllReadyH.cons (o := _) rfl (fun K hK => ?_) AllReadyH.nil
          go_simp
          skip
          refine hK.out _ _ ?_ (fun hHeld => ?_)
          · (simp only [cell_set_far hgb]; exact ⟨c0, c1, c3⟩)
          clear hK K
          refine wpAnyH_done (by kernel_rfl) ?_ _
          obtain ⟨W3, hW3⟩ : ∃ W3 : World, Hid (W3 = set4 w2 w1.heap.size (.int .i64 num) (.slice a2 on k2) (.slice none 0 0) (.bool false)) := ⟨_, rfl⟩
          unfold set4 at hW3
          rw [← hW3.out]
          have hg1 : w1.heap.size ≤ w1.heap.size := Nat.le_refl _
          clear z0 z1 z2 z3 zz
          have XN3 := hide (show Bx W3 w1.heap.size #[.int .i64 num, .slice a2 on k2, .slice none 0 0, .bool false] 25 by rw [hW3.out]; exact XZ.out.four_set _ _ _ _)
          have D3 := hide (show Below w1.heap.size w1 W3 by rw [hW3.out]; exact set4_below D2.out (Nat.le_refl _) _ _ _ _)
          have P3 := hide (show PL W3 a2 on ops by rw [hW3.out]; exact P2.out.grownBy (set4_grown (grow_refl w2 (some w1.heap.size)) _ _ _ _) (fun _ p hp e => by have h1 : (w1.alloc (.cells #[.int .i64 0, .slice none 0 0, .slice none 0 0, .bool false] 25)).heap.size ≤ p.block := A2.out p hp; rw [World.size_alloc] at h1; have h2 : w1.heap.size = p.block := Option.some.inj e; omega))
          have A3 := hide (show 0 < on → ∀ p, a2 = some p → w1.heap.size ≤ p.block ∧ p.block ≠ w1.heap.size from fun _ p hp => by have h1 : (w1.alloc (.cells #[.int .i64 0, .slice none 0 0, .slice none 0 0, .bool false] 25)).heap.size ≤ p.block := A2.out p hp; rw [World.size_alloc] at h1; exact ⟨by omega, by omega⟩)
          have XB3 := hide (XB1.out.later D3.out hr0)
          have XR3 := hide (XR1.out.later D3.out hr1)
          have HE3 := hide (HE1.out.later D3.out)
          have hr3 : w.heap.size + 1 < W3.heap.size := XR3.out.lt
          have hg3 : w1.heap.size < W3.heap.size := XN3.out.lt
          have hgr : ¬ w1.heap.size = w.heap.size + 1 := by omega
          clear b0 b1 b2 b3 c0 c1 c2 c3
          obtain ⟨b0, b1, b2, b3⟩ := XB3.out.four
          go_wp2_with fail
          refine (HKB.out W3 HE3.out).mono ?_
          rintro e w4 ⟨a4, k4, rfl, E4, B4⟩
          clear b0 b1 b2 b3
          go_wp2_with fail
          refine (fresh_any a4 KE.length k4 KE w4 E4.out HKL.out HPS.out).mono ?_
          rintro e w5 ⟨a5, k5, rfl, O5, B5⟩
          have D5 := hide (show Below W3.heap.size W3 w5 from B4.out.trans (B5.out.mono B4.out.size))
          have XN5 := hide (XN3.out.later D5.out hg3)
          have XR5 := hide (XR3.out.later D5.out hr3)
          have F5 := hide (O5.out.full (Nat.le_refl _))
          have hg4 : w1.heap.size < w4.heap.size := Nat.lt_of_lt_of_le hg3 B4.out.size
          have hr4 : w.heap.size + 1 < w4.heap.size := Nat.lt_of_lt_of_le hr3 B4.out.size
          obtain ⟨W6, hW6⟩ : ∃ W6 : World, Hid (W6 = w5.setCell ⟨w1.heap.size, 2, none⟩ (.slice a5 KE.length k5)) := ⟨_, rfl⟩
          have G6 := hide (show w5.grownBy W6 (some w1.heap.size) by rw [hW6.out]; exact grow_set (grow_refl _ _) _ _)
          have XN6 := hide (show Bx W6 w1.heap.size #[.int .i64 num, .slice a2 on k2, .slice a5 KE.length k5, .bool false] 25 by rw [hW6.out]; exact XN5.out.set 2 _)
          have XR6 := hide (show Bx W6 (w.heap.size + 1) #[.int .i64 0, .slice none 0 0, .slice none 0 0, .bool false] 25 by rw [hW6.out]; exact XR5.out.other ⟨w1.heap.size, 2, none⟩ _ (fun e => hgr e.symm))
          have B6 := hide (show Below w.heap.size w W6 by rw [hW6.out]; exact (B1.out.trans ((D3.out.trans (D5.out.mono D3.out.size)).mono (by omega))).setCell (by show w.heap.size ≤ w1.heap.size; omega) _)
          obtain ⟨n0, n1, n2, n3⟩ := XN5.out.four
          have nz := XN5.out.frozen
          obtain ⟨r0, r1, r2, r3⟩ := XR5.out.four
          have rz := XR5.out.frozen
          have hrg : ¬ w.heap.size + 1 = w1.heap.size := fun e => hgr e.symm
          have GF := hide (set4_grown (grow_refl W6 (some (w.heap.size + 1))) (.int .i64 num) (.slice a2 on k2) (.slice a5 KE.length k5) (.bool false))
          have EF := hide (show ELA w.heap.size (set4 W6 (w.heap.size + 1) (.int .i64 num) (.slice a2 on k2) (.slice a5 KE.length k5) (.bool false)) a5 KE.length KE from ((F5.out.1.grown G6.out hg4).grown GF.out hr4).lower (by omega))
          have PF := hide (show PL (set4 W6 (w.heap.size + 1) (.int .i64 num) (.slice a2 on k2) (.slice a5 KE.length k5) (.bool false)) a2 on ops from ((P3.out.later D5.out).grownBy G6.out (fun h0 p hp e => (A3.out h0 p hp).2 (Option.some.inj e).symm)).grownBy GF.out (fun h0 p hp e => by have h1 := (A3.out h0 p hp).1; have h2 : w.heap.size + 1 = p.block := Option.some.inj e; omega))
          have BF := hide (show Below w.heap.size w (set4 W6 (w.heap.size + 1) (.int .i64 num) (.slice a2 on k2) (.slice a5 KE.length k5) (.bool false)) from set4_below B6.out (by omega) _ _ _ _)
          go_wp2_with fail
          rw [← hW6.out]
          obtain ⟨t0, t1, t2, t3⟩ := (XR6.out.four_set (.int .i64 num) (.slice a2 on k2) (.slice a5 KE.length k5) (.bool false)).four
          exact bodyPost_ret (v := .tuple #[.agg #[.int .i64 num, .slice a2 on k2, .slice a5 KE.length k5, .bool false], .nilIface]) (by simp [results, Try.results16, go_sem, t0, t1, t2, t3]) rfl ⟨_, by rw [HF.out] <;> rfl, by rw [HA.out, HDB.out, Dbq.out]; exact ⟨a2, on, k2, a5, KE.length, k5, rfl, PF.out, fun h0 p hp => by have h1 := (A3.out h0 p hp).1; omega, EF.out, C2.out, F5.out.2⟩, BF⟩
      · have Dbq := hide (show bq = true by rw [hbq.out]; simp; exact fun h => hkn2 h.symm)
        have dk : (k != num) = true := by simp; exact fun h => hkn2 h.symm
        clear hkn2
        clear r0 r1 r2 r3 rz
        go_wp2_with fail
        refine wp_region_held_drew (S := (fun w' => w'.cell? ⟨w.heap.size, 0, none⟩ = some (.int .i64 num) ∧ w'.cell? ⟨w.heap.size, 1, none⟩ = some (.slice oa on oc) ∧ w'.cell? ⟨w.heap.size, 3, none⟩ = some (.bool true))) (by kernel_rfl) ?_ (fun hHeld => ?_)
        · exact ⟨b0, b1, b3⟩
        refine wpAnyH_take (i := 0) (oi := _) (v := ?v0u) rfl (by kernel_rfl) (by kernel_rfl) (by kernel_rfl) (fun _ _ _ h => h) (Or.inl ⟨by rfl, ?y0u⟩) (by assumption) ?r0u
        case y0u =>
          intro w hSw
          (try dsimp only at hSw)
          go_simp
          first | done | with_reducible rfl
        skip
        refine wpAnyH_take (i := 1) (oi := _) (v := ?v1u) rfl (by kernel_rfl) (by kernel_rfl) (by kernel_rfl) (fun _ _ _ h => h) (Or.inl ⟨by rfl, ?y1u⟩) (by assumption) ?r1u
        case y1u =>
          intro w hSw
          (try dsimp only at hSw)
          go_simp
          first | done | with_reducible rfl
        skip
        refine wpAnyH_take (i := 2) (oi := _) (v := ?v2u) rfl (by kernel_rfl) (by kernel_rfl) (by kernel_rfl) (fun _ _ _ h => h) (Or.inl ⟨by rfl, ?y2u⟩) (by assumption) ?r2u
        case y2u =>
          intro w hSw
          (try dsimp only at hSw)
          go_simp
          first | done | with_reducible rfl
        skip
        refine wpAnyH_take (i := 3) (oi := _) (v := ?v3u) rfl (by kernel_rfl) (by kernel_rfl) (by kernel_rfl) (fun _ _ _ h => h) (Or.inl ⟨by rfl, ?y3u⟩) (by assumption) ?r3u
        case y3u =>
          intro w hSw
          (try dsimp only at hSw)
          go_simp
          first | done | with_reducible rfl
        skip
        refine wpAnyH_take (i := 5) (oi := _) (v := ?v5u) rfl (by kernel_rfl) (by kernel_rfl) (by kernel_rfl) (fun _ _ _ h => h) (Or.inl ⟨by rfl, ?y5u⟩) (by assumption) ?r5u
        case y5u =>
          intro w hSw
          (try dsimp only at hSw)
          go_simp
          first | done | with_reducible rfl
        skip
        refine wpAnyH_take (i := 6) (oi := _) (v := ?v6u) rfl (by kernel_rfl) (by kernel_rfl) (by kernel_rfl) (fun _ _ _ h => h) (Or.inl ⟨by rfl, ?y6u⟩) (by assumption) ?r6u
        case y6u =>
          intro w hSw
          (try dsimp only at hSw)
          go_simp
          first | done | with_reducible rfl
        skip
        refine wpAnyH_ready (rs := [4, 14]) (by kernel_rfl) (by simp) ?_
        refine AllReadyH.cons (o := _) rfl (fun K hK => ?_) (AllReadyH.cons (o := _) rfl (fun K hK => ?_) AllReadyH.nil)
        · go_simp
          (go_at_call 56; refine (cloneP_ep oa on oc ops w1.drew (HP1.out.later (Below.refl _ _).drew) hon).mono ?_; rintro e w2 ⟨a2, k2, rfl, P2, C2, A2, B2⟩; have D2 := hide (drew_below B2.out); have hs2 : w.heap.size < w2.heap.size := Nat.lt_of_lt_of_le hr0 D2.out.size; obtain ⟨c0, c1, c2, c3⟩ := (XB1.out.later D2.out hr0).four)
          refine hK.out _ _ ?_ (fun hHeld => ?_)
          · exact ⟨c0, c1, c3⟩
          clear hK K
          refine wpAnyH_take (i := 7) (oi := _) (v := ?v7bu) rfl (by kernel_rfl) (by kernel_rfl) (by kernel_rfl) (fun _ _ _ h => h) (Or.inl ⟨by rfl, ?y7bu⟩) (by assumption) ?r7bu
          case y7bu =>
            intro w hSw
            (try dsimp only at hSw)
            go_simp
            first | done | with_reducible rfl
          skip
          refine wpAnyH_take (i := 8) (oi := _) (v := ?v8bu) rfl (by kernel_rfl) (by kernel_rfl) (by kernel_rfl) (fun _ _ _ h => h) (Or.inl ⟨by rfl, ?y8bu⟩) (by assumption) ?r8bu
          case y8bu =>
            intro w hSw
            (try dsimp only at hSw)
            go_simp
            first | done | with_reducible rfl
          skip
          refine wpAnyH_take (i := 9) (oi := _) (v := ?v9bu) rfl (by kernel_rfl) (by kernel_rfl) (by kernel_rfl) (fun _ _ _ h => h) (Or.inl ⟨by rfl, ?y9bu⟩) (by assumption) ?r9bu
          case y9bu =>
            intro w hSw
            (try dsimp only at hSw)
            go_simp
            first | done | with_reducible rfl
          skip
          refine wpAnyH_take (i := 10) (oi := _) (v := ?v10bu) rfl (by kernel_rfl) (by kernel_rfl) (by kernel_rfl) (fun _ _ _ h => h) (Or.inl ⟨by rfl, ?y10bu⟩) (by assumption) ?r10bu
          case y10bu =>
            intro w hSw
            (try dsimp only at hSw)
            go_simp
            first | done | with_reducible rfl
          skip
          refine wpAnyH_take (i := 11) (oi := _) (v := ?v11bu) rfl (by kernel_rfl) (by kernel_rfl) (by kernel_rfl) (fun _ _ _ h => h) (Or.inl ⟨by rfl, ?y11bu⟩) (by assumption) ?r11bu
          case y11bu =>
            intro w hSw
            (try dsimp only at hSw)
            go_simp
            first | done | with_reducible rfl
          skip
          refine wpAnyH_take (i := 12) (oi := _) (v := ?v12bu) rfl (by kernel_rfl) (by kernel_rfl) (by kernel_rfl) (fun _ _ _ h => h) (Or.inl ⟨by rfl, ?y12bu⟩) (by assumption) ?r12bu
          case y12bu =>
            intro w hSw
            (try dsimp only at hSw)
            go_simp
            first | done | with_reducible rfl
          skip
          refine wpAnyH_take (i := 13) (oi := _) (v := ?v13bu) rfl (by kernel_rfl) (by kernel_rfl) (by kernel_rfl) (fun _ _ _ h => h) (Or.inl ⟨by rfl, ?y13bu⟩) (by assumption) ?r13bu
          case y13bu =>
            intro w hSw
            (try dsimp only at hSw)
            go_simp
            first | done | with_reducible rfl
          skip
          refine wpAnyH_ready (rs := [14]) (by kernel_rfl) (by simp) ?_
          refine AllReadyH.cons (o := _) rfl (fun K hK => ?_) AllReadyH.nil
          go_simp
          skip
          refine hK.out _ _ ?_ (fun hHeld => ?_)
          · (simp only [cell_alloc_lt hs2]; exact ⟨c0, c1, c3⟩)
          clear hK K
          refine wpAnyH_ready (rs := [15]) (by kernel_rfl) (by simp) ?_
          refine AllReadyH.cons (o := _) rfl (fun K hK => ?_) AllReadyH.nil
          go_simp
          skip
          refine hK.out _ _ ?_ (fun hHeld => ?_)
          · (simp only [cell_alloc_lt hs2]; exact ⟨c0, c1, c3⟩)
          clear hK K
          refine wpAnyH_done (by kernel_rfl) ?_ _
          obtain ⟨W3, hW3⟩ : ∃ W3 : World, Hid (W3 = w2.alloc (.cells #[.int .i64 num, .slice a2 on k2, .slice none 0 0, .bool true] 25)) := ⟨_, rfl⟩
          skip
          rw [← hW3.out]
          have hg1 : w1.heap.size ≤ w2.heap.size := D2.out.size
          have XN3 := hide (show Bx W3 w2.heap.size #[.int .i64 num, .slice a2 on k2, .slice none 0 0, .bool true] 25 by rw [hW3.out]; exact Bx.new w2 _ _)
          have D3 := hide (show Below w1.heap.size w1 W3 by rw [hW3.out]; exact D2.out.trans ((below_alloc w2 _).mono D2.out.size))
          have P3 := hide (show PL W3 a2 on ops by rw [hW3.out]; exact P2.out.later (below_alloc w2 _))
          have A3 := hide (show 0 < on → ∀ p, a2 = some p → w1.heap.size ≤ p.block ∧ p.block ≠ w2.heap.size from fun h0 p hp => ⟨A2.out p hp, fun e => by obtain ⟨b, off, ha, hlt, _⟩ := P2.out.2.2.2 h0; rw [ha] at hp; cases hp; change b = w2.heap.size at e; omega⟩)
          have XB3 := hide (XB1.out.later D3.out hr0)
          have XR3 := hide (XR1.out.later D3.out hr1)
          have HE3 := hide (HE1.out.later D3.out)
          have hr3 : w.heap.size + 1 < W3.heap.size := XR3.out.lt
          have hg3 : w2.heap.size < W3.heap.size := XN3.out.lt
          have hgr : ¬ w2.heap.size = w.heap.size + 1 := by omega
          clear b0 b1 b2 b3 c0 c1 c2 c3
          obtain ⟨b0, b1, b2, b3⟩ := XB3.out.four
          go_wp2_with fail
          refine (HKB.out W3 HE3.out).mono ?_
          rintro e w4 ⟨a4, k4, rfl, E4, B4⟩
          clear b0 b1 b2 b3
          go_wp2_with fail
          refine (fresh_any a4 KE.length k4 KE w4 E4.out HKL.out HPS.out).mono ?_
          rintro e w5 ⟨a5, k5, rfl, O5, B5⟩
          have D5 := hide (show Below W3.heap.size W3 w5 from B4.out.trans (B5.out.mono B4.out.size))
          have XN5 := hide (XN3.out.later D5.out hg3)
          have XR5 := hide (XR3.out.later D5.out hr3)
          have F5 := hide (O5.out.full (Nat.le_refl _))
          have hg4 : w2.heap.size < w4.heap.size := Nat.lt_of_lt_of_le hg3 B4.out.size
          have hr4 : w.heap.size + 1 < w4.heap.size := Nat.lt_of_lt_of_le hr3 B4.out.size
          obtain ⟨W6, hW6⟩ : ∃ W6 : World, Hid (W6 = w5.setCell ⟨w2.heap.size, 2, none⟩ (.slice a5 KE.length k5)) := ⟨_, rfl⟩
          have G6 := hide (show w5.grownBy W6 (some w2.heap.size) by rw [hW6.out]; exact grow_set (grow_refl _ _) _ _)
          have XN6 := hide (show Bx W6 w2.heap.size #[.int .i64 num, .slice a2 on k2, .slice a5 KE.length k5, .bool true] 25 by rw [hW6.out]; exact XN5.out.set 2 _)
          have XR6 := hide (show Bx W6 (w.heap.size + 1) #[.int .i64 0, .slice none 0 0, .slice none 0 0, .bool false] 25 by rw [hW6.out]; exact XR5.out.other ⟨w2.heap.size, 2, none⟩ _ (fun e => hgr e.symm))
          have B6 := hide (show Below w.heap.size w W6 by rw [hW6.out]; exact (B1.out.trans ((D3.out.trans (D5.out.mono D3.out.size)).mono (by omega))).setCell (by show w.heap.size ≤ w2.heap.size; omega) _)
          obtain ⟨n0, n1, n2, n3⟩ := XN5.out.four
          have nz := XN5.out.frozen
          obtain ⟨r0, r1, r2, r3⟩ := XR5.out.four
          have rz := XR5.out.frozen
          have hrg : ¬ w.heap.size + 1 = w2.heap.size := fun e => hgr e.symm
          have GF := hide (set4_grown (grow_refl W6 (some (w.heap.size + 1))) (.int .i64 num) (.slice a2 on k2) (.slice a5 KE.length k5) (.bool true))
          have EF := hide (show ELA w.heap.size (set4 W6 (w.heap.size + 1) (.int .i64 num) (.slice a2 on k2) (.slice a5 KE.length k5) (.bool true)) a5 KE.length KE from ((F5.out.1.grown G6.out hg4).grown GF.out hr4).lower (by omega))
          have PF := hide (show PL (set4 W6 (w.heap.size + 1) (.int .i64 num) (.slice a2 on k2) (.slice a5 KE.length k5) (.bool true)) a2 on ops from ((P3.out.later D5.out).grownBy G6.out (fun h0 p hp e => (A3.out h0 p hp).2 (Option.some.inj e).symm)).grownBy GF.out (fun h0 p hp e => by have h1 := (A3.out h0 p hp).1; have h2 : w.heap.size + 1 = p.block := Option.some.inj e; omega))
          have BF := hide (show Below w.heap.size w (set4 W6 (w.heap.size + 1) (.int .i64 num) (.slice a2 on k2) (.slice a5 KE.length k5) (.bool true)) from set4_below B6.out (by omega) _ _ _ _)
          go_wp2_with fail
          rw [← hW6.out]
          obtain ⟨t0, t1, t2, t3⟩ := (XR6.out.four_set (.int .i64 num) (.slice a2 on k2) (.slice a5 KE.length k5) (.bool true)).four
          exact bodyPost_ret (v := .tuple #[.agg #[.int .i64 num, .slice a2 on k2, .slice a5 KE.length k5, .bool true], .nilIface]) (by simp [results, Try.results16, go_sem, t0, t1, t2, t3]) rfl ⟨_, by rw [HF.out] <;> rfl, by rw [HA.out, HDB.out, Dbq.out]; exact ⟨a2, on, k2, a5, KE.length, k5, rfl, PF.out, fun h0 p hp => by have h1 := (A3.out h0 p hp).1; omega, EF.out, C2.out, F5.out.2⟩, BF⟩
        · go_simp
          skip
          refine hK.out _ _ ?_ (fun hHeld => ?_)
          · (simp only [cell_drew, cell_alloc_lt hr0]; exact ⟨b0, b1, b3⟩)
          clear hK K
          refine wpAnyH_ready (rs := [4]) (by kernel_rfl) (by simp) ?_
          refine AllReadyH.cons (o := _) rfl (fun K hK => ?_) AllReadyH.nil
          go_simp
          (go_at_call 56; refine (cloneP_ep oa on oc ops (w1.alloc (.cells #[.int .i64 0, .slice none 0 0, .slice none 0 0, .bool false] 25)).drew (HP1.out.later (below_alloc _ _).drew) hon).mono ?_; rintro e w2 ⟨a2, k2, rfl, P2, C2, A2, B2⟩; have D2 := hide (alloc_drew_below B2.out); have hs2 : w.heap.size < w2.heap.size := Nat.lt_of_lt_of_le hr0 D2.out.size; have hgb : ¬ w1.heap.size = w.heap.size := (by omega); have XZ := hide ((Bx.newD w1 #[.int .i64 0, .slice none 0 0, .slice none 0 0, .bool false] 25).later B2.out (by show w1.heap.size < (w1.alloc _).heap.size; simp)); obtain ⟨z0, z1, z2, z3⟩ := XZ.out.four; have zz := XZ.out.frozen; obtain ⟨c0, c1, c2, c3⟩ := (XB1.out.later D2.out hr0).four)
          refine hK.out _ _ ?_ (fun hHeld => ?_)
          · exact ⟨c0, c1, c3⟩
          clear hK K
          refine wpAnyH_take (i := 7) (oi := _) (v := ?v7au) rfl (by kernel_rfl) (by kernel_rfl) (by kernel_rfl) (fun _ _ _ h => h) (Or.inl ⟨by rfl, ?y7au⟩) (by assumption) ?r7au
          case y7au =>
            intro w hSw
            (try dsimp only at hSw)
            go_simp
            first | done | with_reducible rfl
          skip
          refine wpAnyH_take (i := 8) (oi := _) (v := ?v8au) rfl (by kernel_rfl) (by kernel_rfl) (by kernel_rfl) (fun _ _ _ h => h) (Or.inl ⟨by rfl, ?y8au⟩) (by assumption) ?r8au
          case y8au =>
            intro w hSw
            (try dsimp only at hSw)
            go_simp
            first | done | with_reducible rfl
          skip
          refine wpAnyH_take (i := 9) (oi := _) (v := ?v9au) rfl (by kernel_rfl) (by kernel_rfl) (by kernel_rfl) (fun _ _ _ h => h) (Or.inl ⟨by rfl, ?y9au⟩) (by assumption) ?r9au
          case y9au =>
            intro w hSw
            (try dsimp only at hSw)
            go_simp
            first | done | with_reducible rfl
          skip
          refine wpAnyH_take (i := 10) (oi := _) (v := ?v10au) rfl (by kernel_rfl) (by kernel_rfl) (by kernel_rfl) (fun _ _ _ h => h) (Or.inl ⟨by rfl, ?y10au⟩) (by assumption) ?r10au
          case y10au =>
            intro w hSw
            (try dsimp only at hSw)
            go_simp
            first | done | with_reducible rfl
          skip
          refine wpAnyH_take (i := 11) (oi := _) (v := ?v11au) rfl (by kernel_rfl) (by kernel_rfl) (by kernel_rfl) (fun _ _ _ h => h) (Or.inl ⟨by rfl, ?y11au⟩) (by assumption) ?r11au
          case y11au =>
            intro w hSw
            (try dsimp only at hSw)
            go_simp
            first | done | with_reducible rfl
          skip
          refine wpAnyH_take (i := 12) (oi := _) (v := ?v12au) rfl (by kernel_rfl) (by kernel_rfl) (by kernel_rfl) (fun _ _ _ h => h) (Or.inl ⟨by rfl, ?y12au⟩) (by assumption) ?r12au
          case y12au =>
            intro w hSw
            (try dsimp only at hSw)
            go_simp
            first | done | with_reducible rfl
          skip
          refine wpAnyH_take (i := 13) (oi := _) (v := ?v13au) rfl (by kernel_rfl) (by kernel_rfl) (by kernel_rfl) (fun _ _ _ h => h) (Or.inl ⟨by rfl, ?y13au⟩) (by assumption) ?r13au
          case y13au =>
            intro w hSw
            (try dsimp only at hSw)
            go_simp
            first | done | with_reducible rfl
          skip
          refine wpAnyH_ready (rs := [15]) (by kernel_rfl) (by simp) ?_
          refine AllReadyH.cons (o := _) rfl (fun K hK => ?_) AllReadyH.nil
          go_simp
          skip
          refine hK.out _ _ ?_ (fun hHeld => ?_)
          · (simp only [cell_set_far hgb]; exact ⟨c0, c1, c3⟩)
          clear hK K
          refine wpAnyH_done (by kernel_rfl) ?_ _
          obtain ⟨W3, hW3⟩ : ∃ W3 : World, Hid (W3 = set4 w2 w1.heap.size (.int .i64 num) (.slice a2 on k2) (.slice none 0 0) (.bool true)) := ⟨_, rfl⟩
          unfold set4 at hW3
          rw [← hW3.out]
          have hg1 : w1.heap.size ≤ w1.heap.size := Nat.le_refl _
          clear z0 z1 z2 z3 zz
          have XN3 := hide (show Bx W3 w1.heap.size #[.int .i64 num, .slice a2 on k2, .slice none 0 0, .bool true] 25 by rw [hW3.out]; exact XZ.out.four_set _ _ _ _)
          have D3 := hide (show Below w1.heap.size w1 W3 by rw [hW3.out]; exact set4_below D2.out (Nat.le_refl _) _ _ _ _)
          have P3 := hide (show PL W3 a2 on ops by rw [hW3.out]; exact P2.out.grownBy (set4_grown (grow_refl w2 (some w1.heap.size)) _ _ _ _) (fun _ p hp e => by have h1 : (w1.alloc (.cells #[.int .i64 0, .slice none 0 0, .slice none 0 0, .bool false] 25)).heap.size ≤ p.block := A2.out p hp; rw [World.size_alloc] at h1; have h2 : w1.heap.size = p.block := Option.some.inj e; omega))
          have A3 := hide (show 0 < on → ∀ p, a2 = some p → w1.heap.size ≤ p.block ∧ p.block ≠ w1.heap.size from fun _ p hp => by have h1 : (w1.alloc (.cells #[.int .i64 0, .slice none 0 0, .slice none 0 0, .bool false] 25)).heap.size ≤ p.block := A2.out p hp; rw [World.size_alloc] at h1; exact ⟨by omega, by omega⟩)
          have XB3 := hide (XB1.out.later D3.out hr0)
          have XR3 := hide (XR1.out.later D3.out hr1)
          have HE3 := hide (HE1.out.later D3.out)
          have hr3 : w.heap.size + 1 < W3.heap.size := XR3.out.lt
          have hg3 : w1.heap.size < W3.heap.size := XN3.out.lt
          have hgr : ¬ w1.heap.size = w.heap.size + 1 := by omega
          clear b0 b1 b2 b3 c0 c1 c2 c3
          obtain ⟨b0, b1, b2, b3⟩ := XB3.out.four
          go_wp2_with fail
          refine (HKB.out W3 HE3.out).mono ?_
          rintro e w4 ⟨a4, k4, rfl, E4, B4⟩
          clear b0 b1 b2 b3
          go_wp2_with fail
          refine (fresh_any a4 KE.length k4 KE w4 E4.out HKL.out HPS.out).mono ?_
          rintro e w5 ⟨a5, k5, rfl, O5, B5⟩
          have D5 := hide (show Below W3.heap.size W3 w5 from B4.out.trans (B5.out.mono B4.out.size))
          have XN5 := hide (XN3.out.later D5.out hg3)
          have XR5 := hide (XR3.out.later D5.out hr3)
          have F5 := hide (O5.out.full (Nat.le_refl _))
          have hg4 : w1.heap.size < w4.heap.size := Nat.lt_of_lt_of_le hg3 B4.out.size
          have hr4 : w.heap.size + 1 < w4.heap.size := Nat.lt_of_lt_of_le hr3 B4.out.size
          obtain ⟨W6, hW6⟩ : ∃ W6 : World, Hid (W6 = w5.setCell ⟨w1.heap.size, 2, none⟩ (.slice a5 KE.length k5)) := ⟨_, rfl⟩
          have G6 := hide (show w5.grownBy W6 (some w1.heap.size) by rw [hW6.out]; exact grow_set (grow_refl _ _) _ _)
          have XN6 := hide (show Bx W6 w1.heap.size #[.int .i64 num, .slice a2 on k2, .slice a5 KE.length k5, .bool true] 25 by rw [hW6.out]; exact XN5.out.set 2 _)
          have XR6 := hide (show Bx W6 (w.heap.size + 1) #[.int .i64 0, .slice none 0 0, .slice none 0 0, .bool false] 25 by rw [hW6.out]; exact XR5.out.other ⟨w1.heap.size, 2, none⟩ _ (fun e => hgr e.symm))
          have B6 := hide (show Below w.heap.size w W6 by rw [hW6.out]; exact (B1.out.trans ((D3.out.trans (D5.out.mono D3.out.size)).mono (by omega))).setCell (by show w.heap.size ≤ w1.heap.size; omega) _)
          obtain ⟨n0, n1, n2, n3⟩ := XN5.out.four
          have nz := XN5.out.frozen
          obtain ⟨r0, r1, r2, r3⟩ := XR5.out.four
          have rz := XR5.out.frozen
          have hrg : ¬ w.heap.size + 1 = w1.heap.size := fun e => hgr e.symm
          have GF := hide (set4_grown (grow_refl W6 (some (w.heap.size + 1))) (.int .i64 num) (.slice a2 on k2) (.slice a5 KE.length k5) (.bool true))
          have EF := hide (show ELA w.heap.size (set4 W6 (w.heap.size + 1) (.int .i64 num) (.slice a2 on k2) (.slice a5 KE.length k5) (.bool true)) a5 KE.length KE from ((F5.out.1.grown G6.out hg4).grown GF.out hr4).lower (by omega))
          have PF := hide (show PL (set4 W6 (w.heap.size + 1) (.int .i64 num) (.slice a2 on k2) (.slice a5 KE.length k5) (.bool true)) a2 on ops from ((P3.out.later D5.out).grownBy G6.out (fun h0 p hp e => (A3.out h0 p hp).2 (Option.some.inj e).symm)).grownBy GF.out (fun h0 p hp e => by have h1 := (A3.out h0 p hp).1; have h2 : w.heap.size + 1 = p.block := Option.some.inj e; omega))
          have BF := hide (show Below w.heap.size w (set4 W6 (w.heap.size + 1) (.int .i64 num) (.slice a2 on k2) (.slice a5 KE.length k5) (.bool true)) from set4_below B6.out (by omega) _ _ _ _)
          go_wp2_with fail
          rw [← hW6.out]
          obtain ⟨t0, t1, t2, t3⟩ := (XR6.out.four_set (.int .i64 num) (.slice a2 on k2) (.slice a5 KE.length k5) (.bool true)).four
          exact bodyPost_ret (v := .tuple #[.agg #[.int .i64 num, .slice a2 on k2, .slice a5 KE.length k5, .bool true], .nilIface]) (by simp [results, Try.results16, go_sem, t0, t1, t2, t3]) rfl ⟨_, by rw [HF.out] <;> rfl, by rw [HA.out, HDB.out, Dbq.out]; exact ⟨a2, on, k2, a5, KE.length, k5, rfl, PF.out, fun h0 p hp => by have h1 := (A3.out h0 p hp).1; omega, EF.out, C2.out, F5.out.2⟩, BF⟩
  · rw [errV_not hb]
    have HB := hide hb
    have HF := hide (show Mx.nmay ⟨num, ops, es, be⟩ n k = Mx.nmay ⟨num, ops, es, be⟩ n k from rfl)
    clear hb
    have HA := hide (Mx.dropped_not HF.out HB.out)
    go_wp2_with fail
    obtain ⟨t0, t1, t2, t3⟩ := (XR1.out.four_set (.int .i64 0) (.slice none 0 0) (.slice none 0 0) (.bool false)).four
    exact bodyPost_ret (v := .tuple #[.agg #[.int .i64 0, .slice none 0 0, .slice none 0 0, .bool false], .iface 31 (.int .i64 (Mx.nmay ⟨num, ops, es, be⟩ n k))]) (by simp [results, Try.results16, go_sem, t0, t1, t2, t3]) rfl ⟨_, by rw [errV_not HB.out] <;> rfl, by rw [HA.out]; exact BuVA.zero _ _, hide (set4_below B1.out (by omega) _ _ _ _)⟩

theorem drop_any (num : Int) (oa : Option Addr) (on oc : Nat) (sa : Option Addr) (sn sc : Nat) (be : Bool) (ops : List Pt) (es : List Ep) (n : Int) (k : Int) (w : World) (hp : PL w oa on ops) (he : EL w sa sn es) (hsm : Mx.small ops es) (hsc : sn ≤ sc) :
    Calls Try.prog 16 #[.agg #[.int .i64 num, .slice oa on oc, .slice sa sn sc, .bool be], .int .i64 n, .int .i64 k] w fun e w' =>
      ∃ v, e = .returned (.tuple #[v, errV (Mx.nmay ⟨num, ops, es, be⟩ n k)]) ∧ Hid (BuV w' v (Mx.dropped ⟨num, ops, es, be⟩ n k)) ∧ Hid (Below w.heap.size w w') :=
  (drop_own num oa on oc sa sn sc be ops es n k w hp he hsm hsc).mono fun _ _ ⟨v, h1, h2, h3⟩ => ⟨v, h1, hide h2.out.buv, h3⟩
end Go.Proofs.Ytkebmfocgalinab

/-
  What was written since (Since).
-/
namespace Go.Proofs.Ytkebmfocgalinab
open Go.RowKit

theorem Bx.pair {w : World} {g : Nat} {s0 s1 : Value} {t : TypeId} (h : Bx w g #[s0, s1] t) : w.cell? ⟨g, 0, none⟩ = some s0 ∧ w.cell? ⟨g, 1, none⟩ = some s1 := ⟨h.cell 0, h.cell 1⟩
theorem Bx.two_set {w : World} {g : Nat} {a0 a1 : Value} {t : TypeId} (h : Bx w g #[a0, a1] t) (s0 s1 : Value) : Bx ((w.setCell ⟨g, 0, none⟩ s0).setCell ⟨g, 1, none⟩ s1) g #[s0, s1] t := (h.set 0 s0).set 1 s1
def set2 (w : World) (g : Nat) (s0 s1 : Value) : World := (w.setCell ⟨g, 0, none⟩ s0).setCell ⟨g, 1, none⟩ s1
theorem set2_below {B g : Nat} {w w' : World} (h : Below B w w') (hg : B ≤ g) (s0 s1 : Value) : Below B w (set2 w' g s0 s1) := (h.setCell (p := ⟨g, 0, none⟩) hg _).setCell (p := ⟨g, 1, none⟩) hg _
theorem set2_grown {w w' : World} {g : Nat} (h : w.grownBy w' (some g)) (s0 s1 : Value) : w.grownBy (set2 w' g s0 s1) (some g) := grow_set (grow_set h _ _) _ _

namespace Mx
/-- what was since: not known any more, or the puts -/
def sinceB (b : Bu) (n k : Int) : Bool := decide (nmay b n k = 0) && decide (b.num - k ≤ (keptE b k).length)
def sinceE (b : Bu) (n k : Int) : Ep := if sinceB b n k then ⟨b.num, putsOf (keptE b k)⟩ else ⟨0, []⟩
theorem since_not {b : Bu} {n k : Int} (h : nmay b n k ≠ 0) : sinceB b n k = false ∧ sinceE b n k = ⟨0, []⟩ := by
  have h1 : sinceB b n k = false := by unfold sinceB; simp [h]
  exact ⟨h1, by unfold sinceE; rw [h1]; rfl⟩
theorem since_far {b : Bu} {n k : Int} (h : ((keptE b k).length : Int) < b.num - k) : sinceB b n k = false ∧ sinceE b n k = ⟨0, []⟩ := by
  have h1 : sinceB b n k = false := by unfold sinceB; rw [show decide (b.num - k ≤ (keptE b k).length) = false by simp; omega]; simp
  exact ⟨h1, by unfold sinceE; rw [h1]; rfl⟩
theorem since_ok {b : Bu} {n k : Int} (h : nmay b n k = 0) (h2 : ¬ ((keptE b k).length : Int) < b.num - k) : sinceB b n k = true ∧ sinceE b n k = ⟨b.num, putsOf (keptE b k)⟩ := by
  have h1 : sinceB b n k = true := by unfold sinceB; simp [h]; omega
  exact ⟨h1, by unfold sinceE; rw [h1]; rfl⟩
/-- puts of epochs, taken one behind the other -/
def takeEs (es : List Ep) : List (Option B8) := takeF noneL (es.flatMap (·.puts))
theorem takeEs_succ {es : List Ep} {j : Nat} {e : Ep} (h : es[j]? = some e) : takeEs (es.take (j + 1)) = takeF (takeEs (es.take j)) e.puts := by
  unfold takeEs
  rw [getElem_take_succ _ _ _ h, List.flatMap_append, takeF_append]
  simp
theorem keptE_rise {b : Bu} {n k : Int} (h : goodB b n = true) (hn : n ≤ 32) : ∀ e ∈ keptE b k, ∀ q ∈ e.puts, 0 ≤ q.at_ ∧ q.at_ < 32 := by
  intro e he q hq
  obtain ⟨i, hi⟩ := List.mem_iff_getElem?.1 (keptE_mem e he)
  exact rk_mem (rk_of (folB_at (goodB_parts h).2.2 hi).1 hn) q hq
theorem puts_es {es : List Ep} (h : ∀ e ∈ es, ∀ q ∈ e.puts, 0 ≤ q.at_ ∧ q.at_ < 32) : putsFrom 0 (takeEs es) = putsOf es := by
  unfold takeEs putsOf
  exact puts_take (fun q hq => by
    obtain ⟨e, he, hq'⟩ := List.mem_flatMap.1 hq
    exact h e he q hq')
end Mx

set_option maxHeartbeats 8000000 in
set_option maxRecDepth 100000 in
theorem since_any (num : Int) (oa : Option Addr) (on oc : Nat) (sa : Option Addr) (sn sc : Nat) (be : Bool) (ops : List Pt) (es : List Ep) (n : Int) (k : Int) (w : World) (hp : PL w oa on ops) (he : EL w sa sn es) (hsm : Mx.small ops es) (hsc : sn ≤ sc) :
    Calls Try.prog 17 #[.agg #[.int .i64 num, .slice oa on oc, .slice sa sn sc, .bool be], .int .i64 n, .int .i64 k] w fun e w' =>
      ∃ (pa : Option Addr) (pn pk : Nat), e = .returned (.tuple #[.agg #[.int .i64 (Mx.sinceE ⟨num, ops, es, be⟩ n k).num, .slice pa pn pk], .bool (Mx.sinceB ⟨num, ops, es, be⟩ n k), errV (Mx.nmay ⟨num, ops, es, be⟩ n k)]) ∧ Hid (PL w' pa pn (Mx.sinceE ⟨num, ops, es, be⟩ n k).puts) ∧ Hid (Below w.heap.size w w') := by
  obtain ⟨w0, hw0⟩ : ∃ w0 : World, Hid (w0 = (w.alloc (.cells #[.int .i64 num, .slice oa on oc, .slice sa sn sc, .bool be] 25)).alloc (.cells #[.int .i64 0, .slice none 0 0] 42)) := ⟨_, rfl⟩
  have XB := hide (show Bx w0 w.heap.size #[.int .i64 num, .slice oa on oc, .slice sa sn sc, .bool be] 25 by rw [hw0.out]; exact (Bx.new w _ _).alloc _)
  have XR := hide (show Bx w0 (w.heap.size + 1) #[.int .i64 0, .slice none 0 0] 42 by
    rw [hw0.out]
    have h := Bx.new (w.alloc (.cells #[.int .i64 num, .slice oa on oc, .slice sa sn sc, .bool be] 25)) #[.int .i64 0, .slice none 0 0] 42
    rw [World.size_alloc] at h
    exact h)
  have B0 := hide (show Below w.heap.size w w0 by rw [hw0.out]; exact (below_alloc _ _).alloc (by simp) _)
  have HP0 := hide (hp.later B0.out)
  have HE0 := hide (he.later B0.out)
  have HEN := hide he.1
  have HPN := hide hp.1
  have HSM := hide hsm
  have hsn : sn ≤ 1000 := by have := he.1; have := hsm.2.1; omega
  have hon : on ≤ 1000 := by have := hp.1; have := hsm.2.2; omega
  clear hp he hsm
  go_enter Try.func17, Try.ntmps17
  go_wp2_with fail
  rw [← hw0.out]
  refine (echeckNumber_any num oa on oc sa sn sc be ops es n k w0 HP0.out HE0.out).mono ?_
  rintro e w1 ⟨rfl, hb1⟩
  have XB1 := hide (XB.out.later hb1 XB.out.lt)
  have XR1 := hide (XR.out.later hb1 XR.out.lt)
  have B1 := hide (B0.out.trans (hb1.mono B0.out.size))
  have HP1 := hide (HP0.out.later hb1)
  have HE1 := hide (HE0.out.later hb1)
  clear hb1
  have hr1 : w.heap.size + 1 < w1.heap.size := XR1.out.lt
  have hr0 : w.heap.size < w1.heap.size := XB1.out.lt
  have hrb : ¬ w.heap.size + 1 = w.heap.size := by omega
  obtain ⟨b0, b1, b2, b3⟩ := XB1.out.four
  obtain ⟨r0, r1⟩ := XR1.out.pair
  have rz := XR1.out.frozen
  by_cases hb : Mx.nmay ⟨num, ops, es, be⟩ n k = 0
  · have HF := hide hb
    obtain ⟨hb1, hk0, hkn⟩ := Mx.nmay_ok hb
    rw [hb, errV_zero]
    clear hb
    have HOK := hide (Mx.bmay_ok hb1)
    have hnum : num ≤ 2147483647 := HOK.out.1.2.2.2
    have HKL := hide (show (Mx.keptE ⟨num, ops, es, be⟩ k).length ≤ 1000 by have h1 := Mx.keptE_len (b := ⟨num, ops, es, be⟩) (k := k); have h2 : es.length = sn := HEN.out; have h3 : (Mx.keptE ⟨num, ops, es, be⟩ k).length ≤ es.length := h1; omega)
    have HRI := hide (Mx.keptE_rise (k := k) HOK.out.2.2 HOK.out.1.2.1)
    have HPE := hide (Mx.puts_es HRI.out)
    clear hb1
    have KB := fun (w : World) (he : EL w sa sn es) => keptBehind_any num oa on oc sa sn sc be ⟨num, ops, es, be⟩ k w rfl he hsc hk0 hkn hnum hsn
    have HKB := hide KB
    clear KB
    have HFAR := hide (Mx.since_far (b := ⟨num, ops, es, be⟩) (n := n) (k := k))
    have HOKS := hide (Mx.since_ok (b := ⟨num, ops, es, be⟩) (n := n) (k := k) HF.out)
    obtain ⟨KE, hKE⟩ : ∃ KE, Hid (KE = Mx.keptE ⟨num, ops, es, be⟩ k) := ⟨_, rfl⟩
    rw [← hKE.out] at HKB HKL HRI HPE HFAR HOKS
    obtain ⟨KN, hKN⟩ : ∃ KN : Nat, Hid (KN = KE.length) := ⟨_, rfl⟩
    rw [← hKN.out] at HKB HKL HFAR HOKS
    go_wp2_with fail
    refine (HKB.out w1 HE1.out).mono ?_
    rintro e w2 ⟨a2, k2, rfl, E2, B2⟩
    have C2 := hide (B1.out.trans (B2.out.mono B1.out.size))
    have XB2 := hide (XB1.out.later B2.out hr0)
    have XR2 := hide (XR1.out.later B2.out hr1)
    have hr2 : w.heap.size + 1 < w2.heap.size := XR2.out.lt
    have hb2 : w.heap.size < w2.heap.size := XB2.out.lt
    have hkl : KN ≤ 1000 := HKL.out
    clear b0 b1 b2 b3 r0 r1 rz
    obtain ⟨b0, b1, b2, b3⟩ := XB2.out.four
    obtain ⟨r0, r1⟩ := XR2.out.pair
    have rz := XR2.out.frozen
    by_cases hfar : (KN : Int) < num - k
    · have df : decide ((KN : Int) < num - k) = true := by simpa using hfar
      have HSN := hide (HFAR.out hfar)
      go_wp2_with fail
      obtain ⟨t0, t1⟩ := (XR2.out.two_set (.int .i64 0) (.slice none 0 0)).pair
      exact bodyPost_ret (v := .tuple #[.agg #[.int .i64 0, .slice none 0 0], .bool false, .nilIface]) (by simp [results, Try.results17, go_sem, t0, t1]) rfl ⟨none, 0, 0, by rw [HSN.out.1, HSN.out.2, HF.out] <;> rfl, by rw [HSN.out.2]; exact PL.nil _, hide (set2_below C2.out (by omega) _ _)⟩
    · have df : decide ((KN : Int) < num - k) = false := by simpa using hfar
      have HSN := hide (HOKS.out (by omega))
      clear hfar
      have hz := zero_latest
      go_wp2_with fail
      clear hz
      obtain ⟨W3, hW3⟩ : ∃ W3 : World, Hid (W3 = w2.alloc (.cells Zc 111)) := ⟨_, rfl⟩
      rw [← hW3.out]
      have L3 := hide (show LB W3 w2.heap.size Mx.noneL by rw [hW3.out]; exact LB.new w2)
      have D3 := hide (show Below w2.heap.size w2 W3 by rw [hW3.out]; exact below_alloc _ _)
      clear b0 b1 b2 b3 r0 r1 rz
      go_loopw [35] (fun t wr => ∃ j : Nat, j ≤ KN ∧ t = .int .i64 (j : Int) ∧ Hid (LB wr w2.heap.size (Mx.takeEs (KE.take j))) ∧ Hid (Below w2.heap.size w2 wr)) (fun t _ => KN - (intOf t).toNat)
      case atStart => exact ⟨0, by omega, rfl, L3, D3⟩
      case round =>
        obtain ⟨j, hj, rfl, hL, hB⟩ := hrel
        by_cases hlt : j < KN
        · obtain ⟨b, off, e, ai, ni, ci, hab, hbl, hx, e0, e1, hp, hc⟩ := E2.out.at_ j hlt
          subst hab
          obtain ⟨z, ps⟩ := e
          have f0 := (hB.out.cell (p := ⟨b, off + j * 2, none⟩) hbl).trans e0
          have f1 := (hB.out.cell (p := ⟨b, off + j * 2 + 1, none⟩) hbl).trans e1
          have HP := hide hp
          have HX := hide hx
          have HRJ := hide (HRI.out _ (List.mem_of_getElem? hx))
          dsimp only at f0
          clear hx hp e0 e1
          obtain ⟨W4, hW4⟩ : ∃ W4 : World, Hid (W4 = wr.alloc (.cells #[.int .i64 z, .slice ai ni ci] 42)) := ⟨_, rfl⟩
          have D4 := hide (show Below wr.heap.size wr W4 by rw [hW4.out]; exact below_alloc _ _)
          have C4 := hide (hB.out.trans (D4.out.mono hB.out.size))
          have L4 := hide (hL.out.later D4.out hL.out.2.lt)
          have hgw : w2.heap.size < W4.heap.size := L4.out.2.lt
          go_wp2_with fail
          rw [← hW4.out]
          refine (take_any w2.heap.size ai ni ci ps _ W4 L4.out (HP.out.later C4.out) (HP.out.off (Nat.le_refl _)) HRJ.out).mono ?_
          rintro e w5 ⟨rfl, L5, G5⟩
          have C5 := hide (C4.out.trans (grown_below G5.out (Nat.le_of_lt hgw)))
          have LN := hide (show LB w5 w2.heap.size (Mx.takeEs (KE.take (j + 1))) by rw [Mx.takeEs_succ HX.out]; exact L5.out)
          clear f0 f1
          go_wp2_with fail
          go_roundw
          case rel => exact ⟨j + 1, by omega, by go_num, LN, C5⟩
          case measure => simp [intOf]; omega
        · have LF := hide (show LB wr w2.heap.size (Mx.takeEs KE) by
            have h := hL.out
            rw [List.take_of_length_le (by rw [← hKN.out]; omega)] at h
            exact h)
          have XB4 := hide (XB2.out.later hB.out hb2)
          have XR4 := hide (XR2.out.later hB.out hr2)
          have hb4 : w.heap.size < wr.heap.size := XB4.out.lt
          have hr4 : w.heap.size + 1 < wr.heap.size := XR4.out.lt
          obtain ⟨b0, b1, b2, b3⟩ := XB4.out.four
          go_wp2_with fail
          go_region_held3 (fun w' => w'.cell? ⟨w.heap.size, 0, none⟩ = some (.int .i64 num))
            (first
              | with_reducible exact c0
              | (simp only [cell_drew]; with_reducible exact b0)
              | (simp only [cell_set_far hrb]; with_reducible exact c0))
            (first
              | (go_at_call 54; refine (puts_any w2.heap.size _ wr.drew LF.out.drew).mono ?_; rintro e w5 ⟨a5, k5, rfl, O5, B5⟩; have D5 := hide (drew_below B5.out); have c0 := (XB4.out.later D5.out hb4).cell 0; simp only [List.getElem?_toArray, List.getElem?_cons_zero] at c0; obtain ⟨r0, r1⟩ := (XR4.out.later D5.out hr4).pair; have rz := (XR4.out.later D5.out hr4).frozen))
          all_goals
            clear b0 b1 b2 b3 c0 r0 r1 rz
            rw [HPE.out] at O5 ⊢
            obtain ⟨N5, hN5⟩ : ∃ N5 : Nat, Hid (N5 = (Mx.putsOf KE).length) := ⟨_, rfl⟩
            rw [← hN5.out] at O5 ⊢
            have F5 := hide (O5.out.full)
            have XR5 := hide (XR4.out.later D5.out hr4)
            have BF := hide (show Below w.heap.size w (set2 w5 (w.heap.size + 1) (.int .i64 num) (.slice a5 N5 k5)) from set2_below (C2.out.trans ((hB.out.trans (D5.out.mono hB.out.size)).mono (by omega))) (by omega) _ _)
            have PF := hide (show PL (set2 w5 (w.heap.size + 1) (.int .i64 num) (.slice a5 N5 k5)) a5 N5 (Mx.putsOf KE) from F5.out.1.grownBy (set2_grown (grow_refl w5 (some (w.heap.size + 1))) _ _) (fun _ p hp e => by have h1 : wr.heap.size ≤ p.block := F5.out.2.2 p hp; have h2 : w.heap.size + 1 = p.block := Option.some.inj e; omega))
            go_wp2_with fail
            obtain ⟨t0, t1⟩ := (XR5.out.two_set (.int .i64 num) (.slice a5 N5 k5)).pair
            exact bodyPost_ret (v := .tuple #[.agg #[.int .i64 num, .slice a5 N5 k5], .bool true, .nilIface]) (by simp [results, Try.results17, go_sem, t0, t1]) rfl ⟨a5, N5, k5, by rw [HSN.out.1, HSN.out.2, HF.out] <;> rfl, by rw [HSN.out.2]; exact PF, BF⟩
  · rw [errV_not hb]
    have HB := hide hb
    clear hb
    have HSN := hide (Mx.since_not (b := ⟨num, ops, es, be⟩) HB.out)
    go_wp2_with fail
    obtain ⟨t0, t1⟩ := (XR1.out.two_set (.int .i64 0) (.slice none 0 0)).pair
    exact bodyPost_ret (v := .tuple #[.agg #[.int .i64 0, .slice none 0 0], .bool false, .iface 31 (.int .i64 (Mx.nmay ⟨num, ops, es, be⟩ n k))]) (by simp [results, Try.results17, go_sem, t0, t1]) rfl ⟨none, 0, 0, by rw [HSN.out.1, HSN.out.2, errV_not HB.out] <;> rfl, by rw [HSN.out.2]; exact PL.nil _, hide (set2_below B1.out (by omega) _ _)⟩
end Go.Proofs.Ytkebmfocgalinab

/-
  Two builders alike (SameBuilder).
-/
namespace Go.Proofs.Ytkebmfocgalinab
open Go.RowKit

set_option maxHeartbeats 4000000 in
set_option maxRecDepth 100000 in
theorem sameBu_true (v1 v2 : Value) (b : Bu) (w : World) (h1 : BuV w v1 b) (h2 : BuV w v2 b) :
    Calls Try.prog 18 #[v1, v2] w fun e w' => e = .returned (.bool true) ∧ Below w.heap.size w w' := by
  obtain ⟨oa, on, oc, sa, sn, sc, rfl, hp1, he1, _, _⟩ := h1
  obtain ⟨oa', on', oc', sa', sn', sc', rfl, hp2, he2, _, _⟩ := h2
  obtain ⟨num, ops, es, be⟩ := b
  dsimp only at *
  obtain ⟨w0, hw0⟩ : ∃ w0 : World, Hid (w0 = (w.alloc (.cells #[.int .i64 num, .slice oa on oc, .slice sa sn sc, .bool be] 25)).alloc (.cells #[.int .i64 num, .slice oa' on' oc', .slice sa' sn' sc', .bool be] 25)) := ⟨_, rfl⟩
  have X0 := hide (show Bx w0 w.heap.size #[.int .i64 num, .slice oa on oc, .slice sa sn sc, .bool be] 25 by rw [hw0.out]; exact (Bx.new w _ _).alloc _)
  have Y0 := hide (show Bx w0 (w.heap.size + 1) #[.int .i64 num, .slice oa' on' oc', .slice sa' sn' sc', .bool be] 25 by
    rw [hw0.out]
    have h := Bx.new (w.alloc (.cells #[.int .i64 num, .slice oa on oc, .slice sa sn sc, .bool be] 25)) #[.int .i64 num, .slice oa' on' oc', .slice sa' sn' sc', .bool be] 25
    rw [World.size_alloc] at h
    exact h)
  have B0 := hide (show Below w.heap.size w w0 by rw [hw0.out]; exact (below_alloc _ _).alloc (by simp) _)
  have P1 := hide (hp1.later B0.out)
  have P2 := hide (hp2.later B0.out)
  have E1 := hide (he1.later B0.out)
  have E2 := hide (he2.later B0.out)
  clear hp1 hp2 he1 he2
  cases be
  all_goals
    go_enter Try.func18, Try.ntmps18
    go_wp2_with fail
    rw [← hw0.out]
    refine (samePL_gen oa oa' on oc on' oc' ops ops w0 P1.out P2.out).mono ?_
    rintro e w1 ⟨r, rfl, hr, q, hq⟩
    obtain rfl : r = true := hr.2 rfl
    have B01 := hide (show Below w0.heap.size w0 w1 by rw [hq]; exact below_drewN (Below.refl _ _) q)
    clear hr hq
    obtain ⟨x0, x1, x2, x3⟩ := (X0.out.later B01.out X0.out.lt).four
    obtain ⟨y0, y1, y2, y3⟩ := (Y0.out.later B01.out Y0.out.lt).four
    go_wp2_with fail
    refine (sameEL_gen sa sa' sn sc sn' sc' es es w1 (E1.out.later B01.out) (E2.out.later B01.out)).mono ?_
    rintro e w2 ⟨r, rfl, hr, q, hq⟩
    obtain rfl : r = true := hr.2 rfl
    have BF := hide (show Below w.heap.size w w2 by rw [hq]; exact below_drewN (B0.out.trans (B01.out.mono B0.out.size)) q)
    clear hr hq x0 x1 x2 x3 y0 y1 y2 y3
    go_wp2_with fail
    go_ret
    exact ⟨rfl, BF.out⟩
end Go.Proofs.Ytkebmfocgalinab

/-
  The law EpochSays.
-/
namespace Go.Proofs.Ytkebmfocgalinab
open Go.RowKit

set_option maxHeartbeats 16000000 in
set_option maxRecDepth 100000 in
theorem esays_err (num : Int) (oa : Option Addr) (on oc : Nat) (sa : Option Addr) (sn sc : Nat) (be : Bool) (ops : List Pt) (es : List Ep) (n : Int) (px : Int) (pd : B8) (k : Int) (w : World) (hp : PL w oa on ops) (he : EL w sa sn es) (_hoc : on ≤ oc) (hsc : sn ≤ sc) (hb : Mx.bmay ⟨num, ops, es, be⟩ n ≠ 0) :
    Calls Try.prog 3 #[.agg #[.int .i64 num, .slice oa on oc, .slice sa sn sc, .bool be], .int .i64 n, .agg #[.int .i64 px, .int .u8 pd.z0, .int .u8 pd.z1, .int .u8 pd.z2, .int .u8 pd.z3, .int .u8 pd.z4, .int .u8 pd.z5, .int .u8 pd.z6, .int .u8 pd.z7], .int .i64 k] w fun e w' => e = .returned (.bool true) ∧ Below w.heap.size w w' := by
  obtain ⟨w0, hw0⟩ : ∃ w0 : World, Hid (w0 = (w.alloc (.cells #[.int .i64 num, .slice oa on oc, .slice sa sn sc, .bool be] 25)).alloc (.cells #[.int .i64 px, .int .u8 pd.z0, .int .u8 pd.z1, .int .u8 pd.z2, .int .u8 pd.z3, .int .u8 pd.z4, .int .u8 pd.z5, .int .u8 pd.z6, .int .u8 pd.z7] 29)) := ⟨_, rfl⟩
  have XB0 := hide (show Bx w0 w.heap.size #[.int .i64 num, .slice oa on oc, .slice sa sn sc, .bool be] 25 by rw [hw0.out]; exact (Bx.new w _ _).alloc _)
  have XP0 := hide (show Bx w0 (w.heap.size + 1) #[.int .i64 px, .int .u8 pd.z0, .int .u8 pd.z1, .int .u8 pd.z2, .int .u8 pd.z3, .int .u8 pd.z4, .int .u8 pd.z5, .int .u8 pd.z6, .int .u8 pd.z7] 29 by
    rw [hw0.out]
    have h := Bx.new (w.alloc (.cells #[.int .i64 num, .slice oa on oc, .slice sa sn sc, .bool be] 25)) #[.int .i64 px, .int .u8 pd.z0, .int .u8 pd.z1, .int .u8 pd.z2, .int .u8 pd.z3, .int .u8 pd.z4, .int .u8 pd.z5, .int .u8 pd.z6, .int .u8 pd.z7] 29
    rw [World.size_alloc] at h
    exact h)
  have B0 := hide (show Below w.heap.size w w0 by rw [hw0.out]; exact (below_alloc _ _).alloc (by simp) _)
  have HP0 := hide (hp.later B0.out)
  have HE0 := hide (he.later B0.out)
  clear hp he
  go_enter Try.func3, Try.ntmps3
  go_wp2_with fail
  rw [← hw0.out]
  refine (hugeBuilder_any num oa on oc sa sn sc be ops es w0 HP0.out HE0.out).mono ?_
  rintro e w1 ⟨rfl, D⟩
  have HP1 := hide (HP0.out.later D)
  have HE1 := hide (HE0.out.later D)
  have XB1 := hide (XB0.out.later D XB0.out.lt)
  have XP1 := hide (XP0.out.later D XP0.out.lt)
  have B1 := hide (B0.out.trans (D.mono B0.out.size))
  clear XB0 XP0 HP0 HE0 D
  obtain ⟨b0, b1, b2, b3⟩ := XB1.out.four
  cases hh : Mx.hugeB ops es with
  | true =>
    clear hh
    go_wp2_with fail
    go_ret
    exact ⟨rfl, B1.out⟩
  | false =>
    have HSM := hide (Mx.small_of hh)
    clear hh
    go_wp2_with fail
    refine (builderMay_any num oa on oc sa sn sc be ops es n w1 HP1.out HE1.out).mono ?_
    rintro e w2 ⟨rfl, D⟩
    have XB2 := hide (XB1.out.later D XB1.out.lt)
    have XP2 := hide (XP1.out.later D XP1.out.lt)
    have HP2 := hide (HP1.out.later D)
    have HE2 := hide (HE1.out.later D)
    have B2 := hide (B1.out.trans ((D).mono B1.out.size))
    clear XB1 XP1 HP1 HE1
    clear D
    clear b0 b1 b2 b3
    obtain ⟨b0, b1, b2, b3⟩ := XB2.out.four
    go_wp2_with fail
    refine (echeck_any num oa on oc sa sn sc be ops es n w2 HP2.out HE2.out).mono ?_
    rintro e w3 ⟨rfl, D⟩
    have XB3 := hide (XB2.out.later D XB2.out.lt)
    have XP3 := hide (XP2.out.later D XP2.out.lt)
    have HP3 := hide (HP2.out.later D)
    have HE3 := hide (HE2.out.later D)
    have B3 := hide (B2.out.trans ((D).mono B2.out.size))
    clear XB2 XP2 HP2 HE2
    clear D
    clear b0 b1 b2 b3
    go_wp2_with fail
    refine (is_any (Mx.bmay ⟨num, ops, es, be⟩ n) (Mx.bmay ⟨num, ops, es, be⟩ n) w3).mono ?_
    rintro e wz ⟨rfl, hz⟩
    obtain rfl := hz.symm
    rw [beq_self_eq_true]
    obtain ⟨b0, b1, b2, b3⟩ := XB3.out.four
    obtain ⟨q0, q1, q2, q3, q4, q5, q6, q7, q8⟩ := Bx.nine (p := ⟨px, pd⟩) XP3.out
    dsimp only at q0 q1 q2 q3 q4 q5 q6 q7 q8
    go_wp2_with fail
    refine (add_any num oa on oc sa sn sc be ops es n px pd w3 HP3.out HE3.out HSM.out).mono ?_
    rintro e w4 ⟨vA, rfl, VA, D⟩
    have VB := VA.out
    obtain ⟨xa, xn, xk, ya, yn, yk, rfl, _⟩ := VB
    have XB4 := hide (XB3.out.later D.out XB3.out.lt)
    have XP4 := hide (XP3.out.later D.out XP3.out.lt)
    have HP4 := hide (HP3.out.later D.out)
    have HE4 := hide (HE3.out.later D.out)
    have B4 := hide (B3.out.trans ((D.out).mono B3.out.size))
    clear XB3 XP3 HP3 HE3
    clear D
    clear b0 b1 b2 b3
    clear q0 q1 q2 q3 q4 q5 q6 q7 q8
    have VA4 := VA
    clear VA
    obtain ⟨b0, b1, b2, b3⟩ := XB4.out.four
    have hlt4 : w.heap.size < w4.heap.size := XB4.out.lt
    go_wp2_with fail
    clear b0 b1 b2 b3
    obtain ⟨w5, hw5⟩ : ∃ x : World, Hid (x = w4.alloc (.cells #[.int .i64 (Mx.added ⟨num, ops, es, be⟩ n ⟨px, pd⟩).num, .slice xa xn xk, .slice ya yn yk, .bool (Mx.added ⟨num, ops, es, be⟩ n ⟨px, pd⟩).be] 25)) := ⟨_, rfl⟩
    have D := hide (show Below w4.heap.size w4 w5 by rw [hw5.out]; exact below_alloc _ _)
    have XA5 := hide (show Bx w5 w4.heap.size #[.int .i64 (Mx.added ⟨num, ops, es, be⟩ n ⟨px, pd⟩).num, .slice xa xn xk, .slice ya yn yk, .bool (Mx.added ⟨num, ops, es, be⟩ n ⟨px, pd⟩).be] 25 by rw [hw5.out]; exact Bx.new w4 _ _)
    rw [← hw5.out]
    have XB5 := hide (XB4.out.later D.out XB4.out.lt)
    have XP5 := hide (XP4.out.later D.out XP4.out.lt)
    have HP5 := hide (HP4.out.later D.out)
    have HE5 := hide (HE4.out.later D.out)
    have VA5 := hide (VA4.out.later D.out)
    have B5 := hide (B4.out.trans ((D.out).mono B4.out.size))
    clear XB4 XP4 HP4 HE4 VA4
    clear D
    refine (seal_any num oa on oc sa sn sc be ops es n w5 HP5.out HE5.out HSM.out).mono ?_
    rintro e w6 ⟨vS, rfl, VS6, D⟩
    have VB := VS6.out
    obtain ⟨sxa, sxn, sxk, sya, syn, syk, rfl, _⟩ := VB
    have XB6 := hide (XB5.out.later D.out XB5.out.lt)
    have XP6 := hide (XP5.out.later D.out XP5.out.lt)
    have HP6 := hide (HP5.out.later D.out)
    have HE6 := hide (HE5.out.later D.out)
    have VA6 := hide (VA5.out.later D.out)
    have XA6 := hide (XA5.out.later D.out XA5.out.lt)
    have B6 := hide (B5.out.trans ((D.out).mono B5.out.size))
    clear XB5 XP5 HP5 HE5 VA5 XA5
    clear D
    obtain ⟨b0, b1, b2, b3⟩ := XB6.out.four
    have hlt6 : w.heap.size < w6.heap.size := XB6.out.lt
    go_wp2_with fail
    clear b0 b1 b2 b3
    obtain ⟨w7, hw7⟩ : ∃ x : World, Hid (x = w6.alloc (.cells #[.int .i64 (Mx.sealed ⟨num, ops, es, be⟩ n).num, .slice sxa sxn sxk, .slice sya syn syk, .bool (Mx.sealed ⟨num, ops, es, be⟩ n).be] 25)) := ⟨_, rfl⟩
    have D := hide (show Below w6.heap.size w6 w7 by rw [hw7.out]; exact below_alloc _ _)
    have XS7 := hide (show Bx w7 w6.heap.size #[.int .i64 (Mx.sealed ⟨num, ops, es, be⟩ n).num, .slice sxa sxn sxk, .slice sya syn syk, .bool (Mx.sealed ⟨num, ops, es, be⟩ n).be] 25 by rw [hw7.out]; exact Bx.new w6 _ _)
    rw [← hw7.out]
    have XB7 := hide (XB6.out.later D.out XB6.out.lt)
    have XP7 := hide (XP6.out.later D.out XP6.out.lt)
    have HP7 := hide (HP6.out.later D.out)
    have HE7 := hide (HE6.out.later D.out)
    have VA7 := hide (VA6.out.later D.out)
    have XA7 := hide (XA6.out.later D.out XA6.out.lt)
    have VS7 := hide (VS6.out.later D.out)
    have B7 := hide (B6.out.trans ((D.out).mono B6.out.size))
    clear XB6 XP6 HP6 HE6 VA6 XA6 VS6
    clear D
    refine (drop_any num oa on oc sa sn sc be ops es n k w7 HP7.out HE7.out HSM.out hsc).mono ?_
    rintro e w8 ⟨vD, rfl, VD8, D⟩
    have VB := VD8.out
    obtain ⟨dxa, dxn, dxk, dya, dyn, dyk, rfl, _⟩ := VB
    have XB8 := hide (XB7.out.later D.out XB7.out.lt)
    have XP8 := hide (XP7.out.later D.out XP7.out.lt)
    have HP8 := hide (HP7.out.later D.out)
    have HE8 := hide (HE7.out.later D.out)
    have VA8 := hide (VA7.out.later D.out)
    have XA8 := hide (XA7.out.later D.out XA7.out.lt)
    have VS8 := hide (VS7.out.later D.out)
    have XS8 := hide (XS7.out.later D.out XS7.out.lt)
    have B8 := hide (B7.out.trans ((D.out).mono B7.out.size))
    clear XB7 XP7 HP7 HE7 VA7 XA7 VS7 XS7
    clear D
    obtain ⟨b0, b1, b2, b3⟩ := XB8.out.four
    have hlt8 : w.heap.size < w8.heap.size := XB8.out.lt
    go_wp2_with fail
    clear b0 b1 b2 b3
    obtain ⟨w9, hw9⟩ : ∃ x : World, Hid (x = w8.alloc (.cells #[.int .i64 (Mx.dropped ⟨num, ops, es, be⟩ n k).num, .slice dxa dxn dxk, .slice dya dyn dyk, .bool (Mx.dropped ⟨num, ops, es, be⟩ n k).be] 25)) := ⟨_, rfl⟩
    have D := hide (show Below w8.heap.size w8 w9 by rw [hw9.out]; exact below_alloc _ _)
    have XD9 := hide (show Bx w9 w8.heap.size #[.int .i64 (Mx.dropped ⟨num, ops, es, be⟩ n k).num, .slice dxa dxn dxk, .slice dya dyn dyk, .bool (Mx.dropped ⟨num, ops, es, be⟩ n k).be] 25 by rw [hw9.out]; exact Bx.new w8 _ _)
    rw [← hw9.out]
    have XB9 := hide (XB8.out.later D.out XB8.out.lt)
    have XP9 := hide (XP8.out.later D.out XP8.out.lt)
    have HP9 := hide (HP8.out.later D.out)
    have HE9 := hide (HE8.out.later D.out)
    have VA9 := hide (VA8.out.later D.out)
    have XA9 := hide (XA8.out.later D.out XA8.out.lt)
    have VS9 := hide (VS8.out.later D.out)
    have XS9 := hide (XS8.out.later D.out XS8.out.lt)
    have VD9 := hide (VD8.out.later D.out)
    have B9 := hide (B8.out.trans ((D.out).mono B8.out.size))
    clear XB8 XP8 HP8 HE8 VA8 XA8 VS8 XS8 VD8
    clear D
    refine (since_any num oa on oc sa sn sc be ops es n k w9 HP9.out HE9.out HSM.out hsc).mono ?_
    rintro e w10 ⟨pa, pn, pk, rfl, VP10, D⟩
    have XB10 := hide (XB9.out.later D.out XB9.out.lt)
    have XP10 := hide (XP9.out.later D.out XP9.out.lt)
    have HP10 := hide (HP9.out.later D.out)
    have HE10 := hide (HE9.out.later D.out)
    have VA10 := hide (VA9.out.later D.out)
    have XA10 := hide (XA9.out.later D.out XA9.out.lt)
    have VS10 := hide (VS9.out.later D.out)
    have XS10 := hide (XS9.out.later D.out XS9.out.lt)
    have VD10 := hide (VD9.out.later D.out)
    have XD10 := hide (XD9.out.later D.out XD9.out.lt)
    have B10 := hide (B9.out.trans ((D.out).mono B9.out.size))
    clear XB9 XP9 HP9 HE9 VA9 XA9 VS9 XS9 VD9 XD9
    clear D
    have HAM := hide (Mx.amay_not (p := ⟨px, pd⟩) hb)
    have HSMY := hide (Mx.smay_not hb)
    have HNM := hide (Mx.nmay_not (k := k) hb)
    have HAD := hide (Mx.added_not HAM.out hb)
    have HSD := hide (Mx.sealed_not HSMY.out hb)
    have HDD := hide (Mx.dropped_not HNM.out hb)
    have HSI := hide (Mx.since_not (b := ⟨num, ops, es, be⟩) (n := n) (k := k) (by rw [HNM.out]; exact hb))
    have hbm : ((Mx.bmay ⟨num, ops, es, be⟩ n) != 0) = true := by simpa using hb
    have HB := hide hb
    clear hb
    obtain rfl : pn = 0 := by have h := VP10.out.1; rw [HSI.out.2] at h; exact h.symm
    rw [HSI.out.1, HSI.out.2]
    have VZA10 := hide (show BuV w10 (.agg #[.int .i64 (Mx.added ⟨num, ops, es, be⟩ n ⟨px, pd⟩).num, .slice xa xn xk, .slice ya yn yk, .bool (Mx.added ⟨num, ops, es, be⟩ n ⟨px, pd⟩).be]) Mx.zBu by rw [← HAD.out]; exact VA10.out)
    have VZS10 := hide (show BuV w10 (.agg #[.int .i64 (Mx.sealed ⟨num, ops, es, be⟩ n).num, .slice sxa sxn sxk, .slice sya syn syk, .bool (Mx.sealed ⟨num, ops, es, be⟩ n).be]) Mx.zBu by rw [← HSD.out]; exact VS10.out)
    have VZD10 := hide (show BuV w10 (.agg #[.int .i64 (Mx.dropped ⟨num, ops, es, be⟩ n k).num, .slice dxa dxn dxk, .slice dya dyn dyk, .bool (Mx.dropped ⟨num, ops, es, be⟩ n k).be]) Mx.zBu by rw [← HDD.out]; exact VD10.out)
    clear VA10 VS10 VD10 VP10 HP10 HE10 XB10 XP10
    obtain ⟨a0, a1, a2, a3⟩ := XA10.out.four
    have hla : w4.heap.size < w10.heap.size := XA10.out.lt
    go_wp2_with fail
    clear a0 a1 a2 a3
    obtain ⟨w11, hw11⟩ : ∃ x : World, Hid (x = w10.alloc (.cells #[.int .i64 0, .slice pa 0 pk] 42)) := ⟨_, rfl⟩
    have D := hide (show Below w10.heap.size w10 w11 by rw [hw11.out]; exact below_alloc _ _)
    have XE11 := hide (show Bx w11 w10.heap.size #[.int .i64 0, .slice pa 0 pk] 42 by rw [hw11.out]; exact Bx.new w10 _ _)
    rw [← hw11.out]
    have XA11 := hide (XA10.out.later D.out XA10.out.lt)
    have XS11 := hide (XS10.out.later D.out XS10.out.lt)
    have XD11 := hide (XD10.out.later D.out XD10.out.lt)
    have VZA11 := hide (VZA10.out.later D.out)
    have VZS11 := hide (VZS10.out.later D.out)
    have VZD11 := hide (VZD10.out.later D.out)
    have B11 := hide (B10.out.trans ((D.out).mono B10.out.size))
    clear XA10 XS10 XD10 VZA10 VZS10 VZD10
    clear D
    refine (sameBu_true _ _ Mx.zBu w11 VZA11.out (BuV.zero _)).mono ?_
    rintro e w12 ⟨rfl, D⟩
    have XA12 := hide (XA11.out.later D XA11.out.lt)
    have XS12 := hide (XS11.out.later D XS11.out.lt)
    have XD12 := hide (XD11.out.later D XD11.out.lt)
    have VZA12 := hide (VZA11.out.later D)
    have VZS12 := hide (VZS11.out.later D)
    have VZD12 := hide (VZD11.out.later D)
    have XE12 := hide (XE11.out.later D XE11.out.lt)
    have B12 := hide (B11.out.trans ((D).mono B11.out.size))
    clear XA11 XS11 XD11 VZA11 VZS11 VZD11 XE11
    clear D
    obtain ⟨a0, a1, a2, a3⟩ := XS12.out.four
    go_wp2_with fail
    clear a0 a1 a2 a3
    refine (sameBu_true _ _ Mx.zBu w12 VZS12.out (BuV.zero _)).mono ?_
    rintro e w13 ⟨rfl, D⟩
    have XA13 := hide (XA12.out.later D XA12.out.lt)
    have XS13 := hide (XS12.out.later D XS12.out.lt)
    have XD13 := hide (XD12.out.later D XD12.out.lt)
    have VZA13 := hide (VZA12.out.later D)
    have VZS13 := hide (VZS12.out.later D)
    have VZD13 := hide (VZD12.out.later D)
    have XE13 := hide (XE12.out.later D XE12.out.lt)
    have B13 := hide (B12.out.trans ((D).mono B12.out.size))
    clear XA12 XS12 XD12 VZA12 VZS12 VZD12 XE12
    clear D
    obtain ⟨a0, a1, a2, a3⟩ := XD13.out.four
    go_wp2_with fail
    clear a0 a1 a2 a3
    refine (sameBu_true _ _ Mx.zBu w13 VZD13.out (BuV.zero _)).mono ?_
    rintro e w14 ⟨rfl, D⟩
    have XA14 := hide (XA13.out.later D XA13.out.lt)
    have XS14 := hide (XS13.out.later D XS13.out.lt)
    have XD14 := hide (XD13.out.later D XD13.out.lt)
    have VZA14 := hide (VZA13.out.later D)
    have VZS14 := hide (VZS13.out.later D)
    have VZD14 := hide (VZD13.out.later D)
    have XE14 := hide (XE13.out.later D XE13.out.lt)
    have B14 := hide (B13.out.trans ((D).mono B13.out.size))
    clear XA13 XS13 XD13 VZA13 VZS13 VZD13 XE13
    clear D
    go_wp2_with fail
    refine (is_any (Mx.amay ⟨num, ops, es, be⟩ n ⟨px, pd⟩) (Mx.bmay ⟨num, ops, es, be⟩ n) w14).mono ?_
    rintro e wz ⟨rfl, hz⟩
    obtain rfl := hz.symm
    clear hz
    rw [HAM.out, beq_self_eq_true]
    go_wp2_with fail
    refine (is_any (Mx.smay ⟨num, ops, es, be⟩ n) (Mx.bmay ⟨num, ops, es, be⟩ n) w14).mono ?_
    rintro e wz ⟨rfl, hz⟩
    obtain rfl := hz.symm
    clear hz
    rw [HSMY.out, beq_self_eq_true]
    go_wp2_with fail
    refine (is_any (Mx.nmay ⟨num, ops, es, be⟩ n k) (Mx.bmay ⟨num, ops, es, be⟩ n) w14).mono ?_
    rintro e wz ⟨rfl, hz⟩
    obtain rfl := hz.symm
    clear hz
    rw [HNM.out, beq_self_eq_true]
    go_wp2_with fail
    refine (is_any (Mx.bmay ⟨num, ops, es, be⟩ n) (Mx.bmay ⟨num, ops, es, be⟩ n) w14).mono ?_
    rintro e wz ⟨rfl, hz⟩
    obtain rfl := hz.symm
    clear hz
    rw [beq_self_eq_true]
    obtain ⟨e0, e1⟩ := XE14.out.pair
    go_wp2_with fail
    go_ret
    exact ⟨rfl, B14.out⟩
end Go.Proofs.Ytkebmfocgalinab

/-
  A row of epochs appended to one of the call's own, as a step of a region that draws its order.
-/
namespace Go.Proofs.Ytkebmfocgalinab
open Go.RowKit

/-- the cells of a row of epochs -/
theorem EL.cells {w : World} {b off n : Nat} {es : List Ep} (h : EL w (some ⟨b, off, none⟩) n es) :
    ∃ news : List Value, news.length = n * 2 ∧ (∀ j u, news[j]? = some u → w.cell? ((⟨b, off, none⟩ : Addr).add j) = some u) ∧ (∀ u ∈ news, u.oneCell' = true) ∧
      ∀ (i : Nat) (e : Ep), es[i]? = some e → ∃ (a : Option Addr) (k c : Nat), news[i * 2]? = some (.int .i64 e.num) ∧ news[i * 2 + 1]? = some (.slice a k c) ∧ PL w a k e.puts ∧ k ≤ c := by
  obtain ⟨h1, h2, h3⟩ := h
  by_cases hn : 0 < n
  · obtain ⟨b', off', ha, hlt, hc⟩ := h3 hn
    simp only [Option.some.injEq, Addr.mk.injEq, and_true] at ha
    obtain ⟨rfl, rfl⟩ := ha
    have hcell : ∀ j, j < n * 2 → ∃ u, w.cell? ⟨b, off + j, none⟩ = some u ∧ u.oneCell' = true := by
      intro j hj
      have hi : j / 2 < es.length := by omega
      obtain ⟨ai, ni, ci, c1, c2, _⟩ := hc (j / 2) _ (List.getElem?_eq_getElem hi)
      rcases Nat.mod_two_eq_zero_or_one j with hm | hm
      · rw [show off + j / 2 * 2 = off + j by omega] at c1
        exact ⟨_, c1, rfl⟩
      · rw [show off + j / 2 * 2 + 1 = off + j by omega] at c2
        exact ⟨_, c2, rfl⟩
    have hg : ∀ j, j < n * 2 → ((List.range (n * 2)).map (fun j => (w.cell? ⟨b, off + j, none⟩).getD undef))[j]? = some ((w.cell? ⟨b, off + j, none⟩).getD undef) := by
      intro j hj
      rw [List.getElem?_map, List.getElem?_range hj]
      rfl
    refine ⟨(List.range (n * 2)).map (fun j => (w.cell? ⟨b, off + j, none⟩).getD undef), by simp, fun j u hj => ?_, fun u hu => ?_, fun i e he => ?_⟩
    · have hjl : j < n * 2 := by have := (List.getElem?_eq_some_iff.1 hj).1; simpa using this
      obtain ⟨v, hv, _⟩ := hcell j hjl
      rw [hg j hjl, hv] at hj
      rw [Addr.add_lit, hv]
      exact hj
    · obtain ⟨j, hj, rfl⟩ := List.mem_map.1 hu
      obtain ⟨v, hv, ho⟩ := hcell j (List.mem_range.1 hj)
      rw [hv]
      exact ho
    · have hi : i < es.length := (List.getElem?_eq_some_iff.1 he).1
      obtain ⟨ai, ni, ci, c1, c2, c3, c4⟩ := hc i e he
      refine ⟨ai, ni, ci, ?_, ?_, c3, c4⟩
      · rw [hg _ (by omega), ← Nat.add_zero (i * 2), Nat.add_zero, c1]
        rfl
      · rw [hg _ (by omega), ← Nat.add_assoc, c2]
        rfl
  · obtain rfl : n = 0 := by omega
    exact ⟨[], rfl, fun j u hj => by simp at hj, fun u hu => by simp at hu, fun i e he => by
      rw [List.eq_nil_of_length_eq_zero h1] at he
      simp at he⟩
/-- none of the puts of a row lies in a block -/
def ELoff (w : World) (es : List Ep) (a : Option Addr) (row : Option Nat) (B : Nat) : Prop :=
  ∀ b off i e ai ni ci, a = some ⟨b, off, none⟩ → es[i]? = some e → w.cell? ⟨b, off + i * 2 + 1, none⟩ = some (.slice ai ni ci) → 0 < ni → ∀ p, ai = some p → row ≠ some p.block ∧ B ≤ p.block
/-- what was there ahead of the call is in none of its rows -/
theorem EL.off {w0 w : World} {a : Option Addr} {n : Nat} {es : List Ep} {row : Option Nat} (h : EL w0 a n es) (hb : Below w0.heap.size w0 w) (hr : ∀ g, row = some g → w0.heap.size ≤ g) : ELoff w es a row 0 := by
  intro b off i e ai ni ci ha he hc h0 p hp
  refine ⟨fun hrow => ?_, Nat.zero_le _⟩
  have hin : i < n := by have := (List.getElem?_eq_some_iff.1 he).1; have := h.1; omega
  obtain ⟨b', off', ha', hlt, hcs⟩ := h.2.2 (by omega)
  rw [ha] at ha'
  simp only [Option.some.injEq, Addr.mk.injEq, and_true] at ha'
  obtain ⟨rfl, rfl⟩ := ha'
  obtain ⟨ai', ni', ci', _, c2, c3, _⟩ := hcs i e he
  rw [hb.cell (p := ⟨b, off + i * 2 + 1, none⟩) hlt, c2] at hc
  simp only [Option.some.injEq, Value.slice.injEq] at hc
  obtain ⟨rfl, rfl, rfl⟩ := hc
  obtain ⟨b2, off2, ha2, hlt2, _⟩ := c3.2.2.2 h0
  rw [ha2] at hp
  cases hp
  have h5 : w0.heap.size ≤ b2 := hr _ hrow
  omega

/-- a row of epochs more, as a step of a region that draws its order -/
theorem step_append_row {ops : Array Oper} {o : Oper} {a : Act} {w : World} {K : Act → World → Prop} {Q : Exit → Act → World → Prop} {E : Prop} (hgd : o.guard = none) (s x : Operand)
    (ho : o.op = Op.call { callee := Callee.builtin Builtin.append, args := #[s, x], argTypes := #[23, 23] }) (B base : Nat) (es : List Ep) (hown : OwnEL B w base (a.eval s) es)
    (sa : Option Addr) (n c : Nat) (es2 : List Ep) (hl : EL w sa n es2) (hoff : ELoff w es2 sa (a.eval s).ownBlock B) (hnil : sa = none → n = 0 ∧ c = 0) (hadr : ∀ p, sa = some p → ∃ b off, p = ⟨b, off, none⟩)
    (hx : a.eval x = .slice sa n c) (h63 : es.length + n ≤ 1000000) (hbase : base ≤ w.heap.size)
    (hK : ∀ v' w', OwnEL B w' base v' (es ++ es2) → w.grownBy w' (a.eval s).ownBlock → K (a.put o.dst v') w') :
    if Region.wanted o (yielded ops a.tmps) = true then Oper.wp Try.prog o a w K Q else E := by
  have hw : Region.wanted o (yielded ops a.tmps) = true := by simp [Region.wanted, hgd]
  rw [if_pos hw]
  obtain ⟨vs, h1, h2⟩ := hown
  obtain ⟨i0, hi0, hz0, hz1, hz2⟩ := info_parts Try.info42
  cases sa with
  | none =>
    obtain ⟨rfl, rfl⟩ := hnil rfl
    obtain rfl : es2 = [] := List.eq_nil_of_length_eq_zero hl.1
    have hr := run_append_owned_none (P := Try.prog) (w := w) base 23 o.type 42 i0 2 Try.underlying23 hi0 (a.eval s) es.length vs h1
    unfold Oper.wp execOp
    simp only [ho, resolve, invoke, builtin, Sem.run_bind, Sem.run_pure, Result.andThen_ok, List.map_toArray, List.map_cons, List.map_nil, hx, hr]
    exact hK _ _ (by rw [List.append_nil]; exact ⟨vs, h1, h2⟩) ⟨rfl, rfl, rfl, Nat.le_refl _, fun _ _ _ => rfl⟩
  | some ad =>
    obtain ⟨b, off, rfl⟩ := hadr _ rfl
    obtain ⟨news, hn1, hn2, hn3, hn4⟩ := hl.cells
    have hes : Eps B w news es2 (a.eval s).ownBlock := by
      intro i e he
      obtain ⟨ai, ni, ci, e1, e2, e3, e4⟩ := hn4 i e he
      refine ⟨ai, ni, ci, e1, e2, e3, e4, fun h0 p hp => ?_⟩
      have hcell := hn2 _ _ e2
      rw [Addr.add_lit] at hcell
      exact hoff b off i e ai ni ci rfl he (by rw [Nat.add_assoc]; exact hcell) h0 p hp
    obtain ⟨v', w', hr, hown', hg, _, hat⟩ := run_append_own_at (P := Try.prog) w base 23 o.type 42 i0 _ 2 32 Try.underlying23 hi0 hz0 hz1 hz2 rfl (by decide) (a.eval s) es.length vs h1 ⟨b, off, none⟩ n c news hn1 hn2 hn3 (by unfold maxLen; omega) (by omega) hbase
    unfold Oper.wp execOp
    simp only [ho, resolve, invoke, builtin, Sem.run_bind, Sem.run_pure, Result.andThen_ok, List.map_toArray, List.map_cons, List.map_nil, hx, hr]
    exact hK _ _ (eps_after h1 h2 hes hl.1 hown' hg hat) hg
end Go.Proofs.Ytkebmfocgalinab

/-
  Epochs: mathematics: what Add, Seal and Drop make of a builder that may be may be again.
-/
namespace Go.Proofs.Ytkebmfocgalinab
open Go.RowKit

namespace Mx
def nextFrom (j : Int) (l : List Pt) : Nat → Int
  | 0 => j
  | k + 1 => (l.getD k dP).at_ + 1
theorem nextFrom_zero (l : List Pt) (k : Nat) : nextFrom 0 l k = nextOf l k := by cases k <;> rfl
theorem rk_next {j : Int} {l : List Pt} (h : Rk j l) {k : Nat} {p : Pt} (hp : l[k]? = some p) : nextFrom j l k ≤ p.at_ := by
  induction l generalizing j k with
  | nil => simp at hp
  | cons q l ih =>
    cases k with
    | zero =>
      simp at hp
      subst hp
      exact h.1
    | succ k =>
      have h1 := ih h.2.2 (k := k) (by simpa using hp)
      cases k with
      | zero => exact h1
      | succ k => exact h1
theorem rise_of {n : Int} {l : List Pt} (h : Rk 0 l) (hn : ∀ q ∈ l, q.at_ < n) : riseB n l = true := by
  refine riseB_all (fun k hk => ?_)
  have hp : l[k]? = some l[k] := List.getElem?_eq_getElem hk
  have h1 := rk_next h hp
  rw [nextFrom_zero] at h1
  unfold goodAt
  rw [List.getD_eq_getElem?_getD, hp]
  simp only [Option.getD_some, Bool.and_eq_true, decide_eq_true_eq]
  exact ⟨h1, hn _ (List.getElem_mem hk)⟩
theorem rise_lt {n : Int} {l : List Pt} (h : riseB n l = true) : ∀ q ∈ l, q.at_ < n := by
  intro q hq
  obtain ⟨k, hk⟩ := List.mem_iff_getElem?.1 hq
  exact (riseB_at h hk).2
theorem putR_mem {l : List Pt} {p q : Pt} (h : q ∈ putR l p) : q = p ∨ q ∈ l := by
  induction l with
  | nil =>
    simp [putR] at h
    exact .inl h
  | cons x l ih =>
    rw [putR] at h
    split at h
    · rcases List.mem_cons.1 h with h | h
      · exact .inr (by rw [h]; exact List.mem_cons_self ..)
      · rcases ih h with h | h
        · exact .inl h
        · exact .inr (List.mem_cons_of_mem _ h)
    · split at h
      · rcases List.mem_cons.1 h with h | h
        · exact .inl h
        · exact .inr (List.mem_cons_of_mem _ h)
      · rcases List.mem_cons.1 h with h | h
        · exact .inl h
        · exact .inr h
theorem rise_put {n : Int} {l : List Pt} {p : Pt} (h : riseB n l = true) (hn : n ≤ 32) (h0 : 0 ≤ p.at_) (h1 : p.at_ < n) : riseB n (putR l p) = true :=
  rise_of (rk_putR (rk_of h hn) h0 (by omega)) (fun q hq => by
    rcases putR_mem hq with h2 | h2
    · rw [h2]
      exact h1
    · exact rise_lt h q h2)
theorem rk_len {j : Int} {l : List Pt} (h : Rk j l) (hj : j ≤ 32) : (l.length : Int) ≤ 32 - j := by
  induction l generalizing j with
  | nil => simp; omega
  | cons p l ih =>
    have h1 := h.1
    have h2 := h.2.1
    have h3 := ih h.2.2 (by omega)
    rw [List.length_cons]
    push_cast
    omega
theorem rise_len {n : Int} {l : List Pt} (h : riseB n l = true) (hn : n ≤ 32) : l.length ≤ 32 := by
  have := rk_len (rk_of h hn) (by omega)
  omega
theorem good_of {b : Bu} {n : Int} (h1 : b.be = true → b.se = []) (h2 : riseB n b.op = true) (h3 : folB b.se b.num n = true) : goodB b n = true := by
  unfold goodB
  rw [h2, h3]
  cases hb : b.be with
  | false => rfl
  | true => rw [h1 hb]; rfl
theorem bmay_of {b : Bu} {n : Int} (hn : 1 ≤ n ∧ n ≤ 32) (h0 : 0 ≤ b.num) (h1 : b.num ≤ 2147483647) (h2 : b.se.length ≤ 4) (h3 : goodB b n = true) : bmay b n = 0 := bmay_0 (by omega) (by omega) h3
theorem small_may {b : Bu} {n : Int} (h : bmay b n = 0) : b.op.length ≤ 32 ∧ b.se.length ≤ 4 ∧ ∀ e ∈ b.se, e.puts.length ≤ 32 := by
  obtain ⟨h1, h2, h3⟩ := bmay_ok h
  obtain ⟨_, h4, h5⟩ := goodB_parts h3
  refine ⟨rise_len h4 h1.2.1, h2, fun e he => ?_⟩
  obtain ⟨i, hi⟩ := List.mem_iff_getElem?.1 he
  exact rise_len (folB_at h5 hi).1 h1.2.1
theorem add_may {b : Bu} {n : Int} {p : Pt} (h : bmay b n = 0) (h0 : 0 ≤ p.at_) (h1 : p.at_ < n) : bmay (addB b p) n = 0 := by
  obtain ⟨k1, k2, k3⟩ := bmay_ok h
  obtain ⟨g1, g2, g3⟩ := goodB_parts k3
  exact bmay_of ⟨k1.1, k1.2.1⟩ k1.2.2.1 k1.2.2.2 k2 (good_of (b := addB b p) g1 (rise_put g2 k1.2.1 h0 h1) g3)
theorem fol_snoc {es : List Ep} {num n : Int} {ps : List Pt} (h : folB es num n = true) (hp : riseB n ps = true) : folB (es ++ [⟨num + 1, ps⟩]) (num + 1) n = true := by
  have hl := folB_len h
  refine folB_all (by rw [List.length_append, List.length_singleton]; push_cast; omega) (fun i hi => ?_)
  rw [List.length_append, List.length_singleton] at hi
  unfold goodE
  by_cases hlt : i < es.length
  · have he : es[i]? = some es[i] := List.getElem?_eq_getElem hlt
    have h1 := folB_at h he
    rw [List.getD_eq_getElem?_getD, List.getElem?_append_left hlt, he, List.length_append, List.length_singleton]
    simp only [Option.getD_some, Bool.and_eq_true, decide_eq_true_eq]
    exact ⟨h1.1, by rw [h1.2]; push_cast; omega⟩
  · obtain rfl : i = es.length := by omega
    rw [List.getD_eq_getElem?_getD, List.getElem?_append_right (Nat.le_refl _), Nat.sub_self, List.length_append, List.length_singleton]
    simp only [List.getElem?_cons_zero, Option.getD_some, Bool.and_eq_true, decide_eq_true_eq]
    exact ⟨hp, by push_cast; omega⟩
theorem fol_drop {es : List Ep} {num n : Int} (h : folB es num n = true) (k : Nat) : folB (es.drop k) num n = true := by
  have hl := folB_len h
  refine folB_all (by rw [List.length_drop]; omega) (fun i hi => ?_)
  rw [List.length_drop] at hi
  have he : es[k + i]? = some (es[k + i]'(by omega)) := List.getElem?_eq_getElem (by omega)
  have h1 := folB_at h he
  unfold goodE
  rw [List.getD_eq_getElem?_getD, List.getElem?_drop, he, List.length_drop]
  simp only [Option.getD_some, Bool.and_eq_true, decide_eq_true_eq]
  exact ⟨h1.1, by rw [h1.2]; omega⟩
theorem seal_may {b : Bu} {n : Int} (h : bmay b n = 0) (hm : b.num ≠ 2147483647) : bmay (sealE b) n = 0 := by
  obtain ⟨k1, k2, k3⟩ := bmay_ok h
  obtain ⟨g1, g2, g3⟩ := goodB_parts k3
  have hl := folB_len g3
  unfold sealE
  cases hf : fullB b with
  | true => exact bmay_of ⟨k1.1, k1.2.1⟩ (by show 0 ≤ b.num + 1; omega) (by show b.num + 1 ≤ _; omega) (Nat.zero_le _) (good_of (fun _ => rfl) rfl (folB_all (by show (0 : Int) ≤ b.num + 1; omega) (fun i hi => absurd hi (by simp))))
  | false =>
    have h4 : b.se.length ≠ 4 := by
      unfold fullB at hf
      simp at hf
      exact hf.2
    exact bmay_of ⟨k1.1, k1.2.1⟩ (by show 0 ≤ b.num + 1; omega) (by show b.num + 1 ≤ _; omega) (by show (b.se ++ [_]).length ≤ 4; rw [List.length_append, List.length_singleton]; omega) (good_of (fun hb => by cases hb) rfl (fol_snoc g3 g2))
theorem drop_may {b : Bu} {n k : Int} (h : bmay b n = 0) : bmay (dropB b k) n = 0 := by
  obtain ⟨k1, k2, k3⟩ := bmay_ok h
  obtain ⟨g1, g2, g3⟩ := goodB_parts k3
  refine bmay_of ⟨k1.1, k1.2.1⟩ k1.2.2.1 k1.2.2.2 (Nat.le_trans (keptE_len (b := b) (k := k)) k2) (good_of (fun hb => ?_) g2 (fol_drop g3 _))
  unfold dropB at hb
  simp only [Bool.and_eq_true] at hb
  show keptE b k = []
  unfold keptE
  rw [g1 hb.1, List.drop_nil]
/-- puts laid into blocks -/
def layIn (l : List B8) (p : Pt) : List B8 := l.set p.at_.toNat p.d
def lay (l : List B8) (ps : List Pt) : List B8 := ps.foldl layIn l
theorem lay_comm (ps : List Pt) (l : List B8) (i : Nat) (d : B8) (h : ∀ q ∈ ps, q.at_.toNat ≠ i) : lay (l.set i d) ps = (lay l ps).set i d := by
  induction ps generalizing l with
  | nil => rfl
  | cons q ps ih =>
    have h1 := h q (List.mem_cons_self ..)
    have h2 := ih (l.set q.at_.toNat q.d) (fun x hx => h x (List.mem_cons_of_mem _ hx))
    unfold lay at h2 ⊢
    rw [List.foldl_cons, List.foldl_cons]
    unfold layIn at h2 ⊢
    rw [List.set_comm _ _ (fun e => h1 e.symm)]
    exact h2
theorem lay_putR {k : Int} (hk : 0 ≤ k) {ps : List Pt} {p : Pt} (h : Rk k ps) (h0 : 0 ≤ p.at_) (l : List B8) : lay l (putR ps p) = layIn (lay l ps) p := by
  induction ps generalizing k l with
  | nil => rfl
  | cons q ps ih =>
    have h1 := h.1
    rw [putR]
    split
    · exact ih (by omega) h.2.2 _
    · have hne : ∀ x ∈ ps, x.at_.toNat ≠ p.at_.toNat := fun x hx => by have := (rk_mem h.2.2 x hx).1; omega
      split
      · next he =>
        have h2 := lay_comm ps (l.set q.at_.toNat q.d) p.at_.toNat p.d hne
        have h3 : (l.set q.at_.toNat q.d).set p.at_.toNat p.d = layIn l p := by unfold layIn; rw [he, List.set_set]
        rw [h3] at h2
        exact h2
      · have h2 := lay_comm (q :: ps) l p.at_.toNat p.d (fun x hx => by
          rcases List.mem_cons.1 hx with rfl | hx
          · omega
          · exact hne x hx)
        exact h2
theorem lay_fold (ps acc : List Pt) (l : List B8) (ha : Rk 0 acc) (h : ∀ q ∈ ps, 0 ≤ q.at_ ∧ q.at_ < 32) : lay l (ps.foldl putR acc) = lay (lay l acc) ps := by
  induction ps generalizing acc with
  | nil => rfl
  | cons p ps ih =>
    have hp := h p (List.mem_cons_self ..)
    rw [List.foldl_cons, ih (putR acc p) (rk_putR ha hp.1 hp.2) (fun q hq => h q (List.mem_cons_of_mem _ hq)), lay_putR (Int.le_refl 0) ha hp.1]
    rfl
/-- epochs as one epoch do what they do one by one -/
theorem lay_putsOf {es : List Ep} (l : List B8) (h : ∀ e ∈ es, ∀ q ∈ e.puts, 0 ≤ q.at_ ∧ q.at_ < 32) : lay l (putsOf es) = es.foldl (fun l e => lay l e.puts) l := by
  unfold putsOf
  rw [lay_fold _ [] l trivial (fun q hq => by
    obtain ⟨e, he, hq'⟩ := List.mem_flatMap.1 hq
    exact h e he q hq')]
  show lay l (es.flatMap (·.puts)) = _
  induction es generalizing l with
  | nil => rfl
  | cons e es ih =>
    rw [List.flatMap_cons, List.foldl_cons]
    unfold lay
    rw [List.foldl_append]
    exact ih _ (fun x hx => h x (List.mem_cons_of_mem _ hx))
end Mx
end Go.Proofs.Ytkebmfocgalinab
