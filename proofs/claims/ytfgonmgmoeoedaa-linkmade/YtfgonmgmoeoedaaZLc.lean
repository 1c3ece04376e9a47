/-
  Rows of messages whose numbers and blocks lie in blocks of which something is said; a row more, and one more.
-/
import Derived.Test.YtfgonmgmoeoedaaZEl

namespace Go.Proofs.Ytfgonmgmoeoedaa
open Go.RowKit

/-- what cells say of messages -/
def FpsR (R : Nat → Prop) (w : World) (vs : List Value) (fs : List Fr) (row : Option Nat) : Prop :=
  ∀ (i : Nat) (f : Fr), fs[i]? = some f → ∃ (a1 : Option Addr) (n1 c1 : Nat) (a2 : Option Addr) (c2 : Nat), vs[i * 3]? = some (.int .i64 f.kind) ∧ vs[i * 3 + 1]? = some (.slice a1 n1 c1) ∧ vs[i * 3 + 2]? = some (.slice a2 f.nb c2) ∧ Ints w a1 n1 f.nums ∧ Blks w a2 f.nb f.bs ∧ n1 ≤ c1 ∧ f.nb ≤ c2 ∧
    (0 < n1 → ∀ p, a1 = some p → row ≠ some p.block ∧ R p.block) ∧ (0 < f.nb → ∀ p, a2 = some p → row ≠ some p.block ∧ R p.block)
/-- messages in a row of the call's own; their numbers and blocks lie elsewhere, from B on -/
def OwnFR (R : Nat → Prop) (w : World) (base : Nat) (v : Value) (fs : List Fr) : Prop := ∃ vs : List Value, w.ownsRow base 40 3 v fs.length vs ∧ FpsR R w vs fs v.ownBlock
theorem OwnFR.nil (R : Nat → Prop) (w : World) (base : Nat) : OwnFR R w base (.slice none 0 0) [] := ⟨[], World.ownsRow_nil w base _ 3, fun i e he => by simp at he⟩
theorem OwnFR.later {R : Nat → Prop} {w w' : World} {base : Nat} {v : Value} {fs : List Fr} (h : OwnFR R w base v fs) (hb : Below w.heap.size w w') : OwnFR R w' base v fs := by
  obtain ⟨vs, h1, h2⟩ := h
  refine ⟨vs, rowKept h1 hb, fun i f hf => ?_⟩
  obtain ⟨a1, n1, c1, a2, c2, e1, e2, e3, e4, e5, e6⟩ := h2 i f hf
  exact ⟨a1, n1, c1, a2, c2, e1, e2, e3, e4.later hb, e5.later hb, e6⟩
theorem OwnFR.lt {R : Nat → Prop} {w : World} {base : Nat} {v : Value} {fs : List Fr} (h : OwnFR R w base v fs) : ∀ k, v.ownBlock = some k → base ≤ k ∧ k < w.heap.size := by
  obtain ⟨vs, h1, _⟩ := h
  exact World.ownsRow.lt h1
theorem fpsR_after {w w' : World} {R : Nat → Prop} {base m : Nat} {v v' : Value} {fs fs2 : List Fr} {vs news : List Value} (h1 : w.ownsRow base 40 3 v fs.length vs) (h2 : FpsR R w vs fs v.ownBlock) (hfs : FpsR R w news fs2 v.ownBlock) (hm : fs2.length = m)
    (hown' : w'.ownsRow base 40 3 v' (fs.length + m) (vs ++ news)) (hg : w.grownBy w' v.ownBlock) (hat : v'.ownBlock = v.ownBlock ∨ v'.ownBlock = some w.heap.size) : OwnFR R w' base v' (fs ++ fs2) := by
  have hvne : ∀ (p : Addr), p.block < w.heap.size → v.ownBlock ≠ some p.block → v'.ownBlock ≠ some p.block := by
    intro p hlt hne e
    rcases hat with h | h
    · exact hne (h.symm.trans e)
    · rw [h] at e
      simp at e
      omega
  have hvl : vs.length = fs.length * 3 := h1.1
  have fI : ∀ {a' : Option Addr} {n' : Nat} {l : List Int}, Ints w a' n' l → (0 < n' → ∀ p, a' = some p → v.ownBlock ≠ some p.block ∧ R p.block) → Ints w' a' n' l ∧ (0 < n' → ∀ p, a' = some p → v'.ownBlock ≠ some p.block ∧ R p.block) :=
    fun hp hne => ⟨hp.grownBy hg (fun h0 p hpa => (hne h0 p hpa).1), fun h0 p hpa => ⟨hvne _ (hp.row.off h0 p hpa) (hne h0 p hpa).1, (hne h0 p hpa).2⟩⟩
  have fK : ∀ {a' : Option Addr} {n' : Nat} {l : List Int}, Blks w a' n' l → (0 < n' → ∀ p, a' = some p → v.ownBlock ≠ some p.block ∧ R p.block) → Blks w' a' n' l ∧ (0 < n' → ∀ p, a' = some p → v'.ownBlock ≠ some p.block ∧ R p.block) :=
    fun hp hne => ⟨hp.grownBy hg (fun h0 p hpa => (hne h0 p hpa).1), fun h0 p hpa => ⟨hvne _ (hp.row.off h0 p hpa) (hne h0 p hpa).1, (hne h0 p hpa).2⟩⟩
  refine ⟨vs ++ news, by rw [List.length_append, hm]; exact hown', fun i f hf => ?_⟩
  by_cases hi' : i < fs.length
  · rw [List.getElem?_append_left hi'] at hf
    obtain ⟨a1, n1, c1, a2, c2, e1, e2, e3, e4, e5, e6, e7, e8, e9⟩ := h2 i f hf
    have g1 := fI e4 e8
    have g2 := fK e5 e9
    exact ⟨a1, n1, c1, a2, c2, by rw [List.getElem?_append_left (by omega)]; exact e1, by rw [List.getElem?_append_left (by omega)]; exact e2, by rw [List.getElem?_append_left (by omega)]; exact e3, g1.1, g2.1, e6, e7, g1.2, g2.2⟩
  · rw [List.getElem?_append_right (by omega)] at hf
    obtain ⟨a1, n1, c1, a2, c2, e1, e2, e3, e4, e5, e6, e7, e8, e9⟩ := hfs _ f hf
    have g1 := fI e4 e8
    have g2 := fK e5 e9
    refine ⟨a1, n1, c1, a2, c2, ?_, ?_, ?_, g1.1, g2.1, e6, e7, g1.2, g2.2⟩
    · rw [List.getElem?_append_right (by omega), hvl, show i * 3 - fs.length * 3 = (i - fs.length) * 3 by omega]
      exact e1
    · rw [List.getElem?_append_right (by omega), hvl, show i * 3 + 1 - fs.length * 3 = (i - fs.length) * 3 + 1 by omega]
      exact e2
    · rw [List.getElem?_append_right (by omega), hvl, show i * 3 + 2 - fs.length * 3 = (i - fs.length) * 3 + 2 by omega]
      exact e3

/-- one message more -/
theorem run_append_fR {w : World} (ty : TypeId) (R : Nat → Prop) (base : Nat) (v : Value) (fs : List Fr) (hown : OwnFR R w base v fs) (h0 : Nat) (kd : Int) (a1 : Option Addr) (n1 c1 : Nat) (a2 : Option Addr) (n2 c2 : Nat) (nm bs : List Int)
    (hB : Bx w h0 #[.int .i64 kd, .slice a1 n1 c1, .slice a2 n2 c2] 40) (hi : Ints w a1 n1 nm) (hk : Blks w a2 n2 bs) (hc1 : n1 ≤ c1) (hc2 : n2 ≤ c2)
    (hp1 : 0 < n1 → ∀ p, a1 = some p → v.ownBlock ≠ some p.block ∧ R p.block) (hp2 : 0 < n2 → ∀ p, a2 = some p → v.ownBlock ≠ some p.block ∧ R p.block) (hl : fs.length ≤ 100000) (hbase : base ≤ w.heap.size) :
    ∃ v' w', (Builtin.append_ #[22, 22] ty #[v, .slice (some ⟨h0, 0, none⟩) 1 1]).run Try.prog w = .ok v' w' ∧ OwnFR R w' base v' (fs ++ [⟨kd, nm, n2, bs⟩]) ∧ w.grownBy w' v.ownBlock ∧ (v'.ownBlock = v.ownBlock ∨ v'.ownBlock = some w.heap.size) := by
  obtain ⟨vs, h1, h2⟩ := hown
  obtain ⟨i0, hi0, hz0, hz1, hz2⟩ := info_parts Try.infoFr
  obtain ⟨v', w', hr, hown', hg, _, hat⟩ := run_append_own_at (P := Try.prog) w base 22 ty 40 i0 _ 3 56 Try.underlying22 hi0 hz0 hz1 hz2 rfl (by decide) v fs.length vs h1 ⟨h0, 0, none⟩ 1 1 [.int .i64 kd, .slice a1 n1 c1, .slice a2 n2 c2] rfl (fun j u hj => by
    rw [Addr.add_lit, Nat.zero_add, hB.cell j]
    simpa using hj) (by simp [Value.oneCell']) (by rw [maxLen_val]; omega) (by omega) hbase
  refine ⟨v', w', hr, fpsR_after h1 h2 (fun i f hf => ?_) rfl hown' hg hat, hg, hat⟩
  match i, hf with
  | 0, hf =>
    simp at hf
    subst hf
    exact ⟨a1, n1, c1, a2, c2, rfl, rfl, rfl, hi, hk, hc1, hc2, hp1, hp2⟩
  | i + 1, hf => simp at hf

theorem step_append_fR {ops : Array Oper} {o : Oper} {a : Act} {w : World} {K : Act → World → Prop} {Q : Exit → Act → World → Prop} {E : Prop} (hgd : o.guard = none) (s y : Operand)
    (ho : o.op = Op.call { callee := Callee.builtin Builtin.append, args := #[s, y], argTypes := #[22, 22] }) (R : Nat → Prop) (base : Nat) {v : Value} {fs : List Fr} (hs : a.eval s = v) (hown : OwnFR R w base v fs) (h0 : Nat) {kd : Int} {a1 : Option Addr} {n1 c1 : Nat} {a2 : Option Addr} {n2 c2 : Nat} {nm bs : List Int}
    (hy : a.eval y = .slice (some ⟨h0, 0, none⟩) 1 1) (hB : Bx w h0 #[.int .i64 kd, .slice a1 n1 c1, .slice a2 n2 c2] 40) (hi : Ints w a1 n1 nm) (hk : Blks w a2 n2 bs) (hc1 : n1 ≤ c1) (hc2 : n2 ≤ c2)
    (hp1 : 0 < n1 → ∀ p, a1 = some p → v.ownBlock ≠ some p.block ∧ R p.block) (hp2 : 0 < n2 → ∀ p, a2 = some p → v.ownBlock ≠ some p.block ∧ R p.block) (hl : fs.length ≤ 100000) (hbase : base ≤ w.heap.size)
    (hK : ∀ v' w', Hid (OwnFR R w' base v' (fs ++ [⟨kd, nm, n2, bs⟩])) → Hid (w.grownBy w' v.ownBlock) → Hid (v'.ownBlock = v.ownBlock ∨ v'.ownBlock = some w.heap.size) → K (a.put o.dst v') w') :
    if Region.wanted o (yielded ops a.tmps) = true then Oper.wp Try.prog o a w K Q else E := by
  have hw : Region.wanted o (yielded ops a.tmps) = true := by simp [Region.wanted, hgd]
  rw [if_pos hw]
  subst hs
  obtain ⟨v', w', hr, h1, h2, h3⟩ := run_append_fR o.type R base (a.eval s) fs hown h0 kd a1 n1 c1 a2 n2 c2 nm bs hB hi hk hc1 hc2 hp1 hp2 hl hbase
  unfold Oper.wp execOp
  simp only [ho, resolve, invoke, builtin, Sem.run_bind, Sem.run_pure, Result.andThen_ok, List.map_toArray, List.map_cons, List.map_nil, hy, hr]
  exact hK _ _ h1 h2 h3

theorem FL.cells {w : World} {b off n : Nat} {fs : List Fr} (h : FL w (some ⟨b, off, none⟩) n fs) :
    ∃ news : List Value, news.length = n * 3 ∧ (∀ j u, news[j]? = some u → b < w.heap.size ∧ w.cell? ((⟨b, off, none⟩ : Addr).add j) = some u) ∧ (∀ u ∈ news, u.oneCell' = true) ∧
      ∀ (i : Nat) (f : Fr), fs[i]? = some f → ∃ (a1 : Option Addr) (n1 c1 : Nat) (a2 : Option Addr) (c2 : Nat), news[i * 3]? = some (.int .i64 f.kind) ∧ news[i * 3 + 1]? = some (.slice a1 n1 c1) ∧ news[i * 3 + 2]? = some (.slice a2 f.nb c2) ∧ Ints w a1 n1 f.nums ∧ Blks w a2 f.nb f.bs ∧ n1 ≤ c1 ∧ f.nb ≤ c2 := by
  obtain ⟨h1, h2, h3⟩ := h
  by_cases hn : 0 < n
  · obtain ⟨b', off', ha, hlt, hc⟩ := h3 hn
    simp only [Option.some.injEq, Addr.mk.injEq, and_true] at ha
    obtain ⟨rfl, rfl⟩ := ha
    have hcell : ∀ j, j < n * 3 → ∃ u, w.cell? ⟨b, off + j, none⟩ = some u ∧ u.oneCell' = true := by
      intro j hj
      have hi : j / 3 < fs.length := by omega
      obtain ⟨a1, n1, c1, a2, c2, e1, e2, e3, _⟩ := hc (j / 3) _ (List.getElem?_eq_getElem hi)
      rcases (show j % 3 = 0 ∨ j % 3 = 1 ∨ j % 3 = 2 by omega) with hm | hm | hm
      · rw [show off + j / 3 * 3 = off + j by omega] at e1
        exact ⟨_, e1, rfl⟩
      · rw [show off + j / 3 * 3 + 1 = off + j by omega] at e2
        exact ⟨_, e2, rfl⟩
      · rw [show off + j / 3 * 3 + 2 = off + j by omega] at e3
        exact ⟨_, e3, rfl⟩
    have hg : ∀ j, j < n * 3 → ((List.range (n * 3)).map (fun j => (w.cell? ⟨b, off + j, none⟩).getD undef))[j]? = some ((w.cell? ⟨b, off + j, none⟩).getD undef) := by
      intro j hj
      rw [List.getElem?_map, List.getElem?_range hj]
      rfl
    refine ⟨(List.range (n * 3)).map (fun j => (w.cell? ⟨b, off + j, none⟩).getD undef), by simp, fun j u hj => ⟨hlt, ?_⟩, fun u hu => ?_, fun i f hf => ?_⟩
    · have hjl : j < n * 3 := by have := (List.getElem?_eq_some_iff.1 hj).1; simpa using this
      obtain ⟨v, hv, _⟩ := hcell j hjl
      rw [hg j hjl, hv] at hj
      rw [Addr.add_lit, hv]
      exact hj
    · obtain ⟨j, hj, rfl⟩ := List.mem_map.1 hu
      obtain ⟨v, hv, ho⟩ := hcell j (List.mem_range.1 hj)
      rw [hv]
      exact ho
    · have hi : i < fs.length := (List.getElem?_eq_some_iff.1 hf).1
      obtain ⟨a1, n1, c1, a2, c2, e1, e2, e3, e4, e5, e6, e7⟩ := hc i f hf
      refine ⟨a1, n1, c1, a2, c2, ?_, ?_, ?_, e4, e5, e6, e7⟩
      · rw [hg _ (by omega), e1]
        rfl
      · rw [hg _ (by omega), ← Nat.add_assoc, e2]
        rfl
      · rw [hg _ (by omega), ← Nat.add_assoc, e3]
        rfl
  · obtain rfl : n = 0 := by omega
    exact ⟨[], rfl, fun j u hj => by simp at hj, fun u hu => by simp at hu, fun i e he => by
      rw [List.eq_nil_of_length_eq_zero h1] at he
      simp at he⟩

theorem ownFR_empty {R : Nat → Prop} {w : World} {base h0 : Nat} (hB : Bx w h0 #[] 40) (hge : base ≤ h0) : OwnFR R w base (.slice (some ⟨h0, 0, none⟩) 0 0) [] :=
  ⟨[], ⟨rfl, .inr ⟨h0, 0, #[], rfl, hge, hB, Nat.le_refl _, by rw [maxLen_val]; omega, rfl, rfl⟩⟩, fun i e he => by simp at he⟩

/-- a row of messages more: append(own, row...) -/
theorem lz_row {x : World} {ops : Array Oper} {o : Oper} {a : Act} {w : World} {K : Act → World → Prop} {Q : Exit → Act → World → Prop} {E : Prop} (hgd : o.guard = none) (s y : Operand)
    (ho : o.op = Op.call { callee := Callee.builtin Builtin.append, args := #[s, y], argTypes := #[22, 22] }) (h0 : Nat) (hW : Below x.heap.size x w)
    (hB : Bx w h0 #[] 40) (hge : x.heap.size ≤ h0) (hs : a.eval s = .slice (some ⟨h0, 0, none⟩) 0 0) {qa : Option Addr} {qn qc : Nat} {fs : List Fr} (hy : a.eval y = .slice qa qn qc) (he : FL x qa qn fs) (hl : qn ≤ 1000)
    (hK : ∀ v' w', Hid (OwnFR (· < x.heap.size) w' x.heap.size v' fs) → Hid (Below x.heap.size x w') → Hid (∀ h cs t, h ≠ h0 → Bx w h cs t → Bx w' h cs t) → Hid (∀ h, h < w.heap.size → h ≠ h0 → v'.ownBlock ≠ some h) → K (a.put o.dst v') w') :
    if Region.wanted o (yielded ops a.tmps) = true then Oper.wp Try.prog o a w K Q else E := by
  have hw : Region.wanted o (yielded ops a.tmps) = true := by simp [Region.wanted, hgd]
  rw [if_pos hw]
  have hO : OwnFR (· < x.heap.size) w x.heap.size (.slice (some ⟨h0, 0, none⟩) 0 0) [] := ownFR_empty hB hge
  obtain ⟨vs, h1, h2⟩ := hO
  obtain ⟨i0, hi0, hz0, hz1, hz2⟩ := info_parts Try.infoFr
  have hln := he.1
  cases qa with
  | none =>
    obtain rfl : qn = 0 := by
      rcases Nat.eq_zero_or_pos qn with h | h
      · exact h
      · obtain ⟨b, off, hb, _⟩ := he.2.2 h
        cases hb
    obtain rfl : fs = [] := List.eq_nil_of_length_eq_zero hln
    have hr := run_append_nil (P := Try.prog) (w := w) x.heap.size 22 o.type 40 i0 3 qc Try.underlying22 hi0 (.slice (some ⟨h0, 0, none⟩) 0 0) 0 vs h1
    unfold Oper.wp execOp
    simp only [ho, resolve, invoke, builtin, Sem.run_bind, Sem.run_pure, Result.andThen_ok, List.map_toArray, List.map_cons, List.map_nil, hs, hy, hr]
    exact hK _ _ (hide ⟨vs, h1, h2⟩) (hide hW) (hide (fun _ _ _ _ hb => hb)) (hide (fun h _ hne e => hne (Option.some.inj e).symm))
  | some ad =>
    obtain ⟨news, e1, e2, e3, e4⟩ : ∃ news : List Value, news.length = qn * 3 ∧ (∀ j u, news[j]? = some u → w.cell? (ad.add j) = some u) ∧ (∀ u ∈ news, u.oneCell' = true) ∧ FpsR (· < x.heap.size) w news fs (some h0) := by
      rcases Nat.eq_zero_or_pos qn with h | h
      · subst h
        obtain rfl : fs = [] := List.eq_nil_of_length_eq_zero hln
        exact ⟨[], rfl, fun j u hj => by simp at hj, fun u hu => by simp at hu, fun i f hf => by simp at hf⟩
      · obtain ⟨b, off, hb, _⟩ := he.2.2 h
        cases hb
        obtain ⟨news, c1, c2, c3, c4⟩ := he.cells
        refine ⟨news, c1, fun j u hj => ?_, c3, fun i f hf => ?_⟩
        · obtain ⟨hlt, hc⟩ := c2 j u hj
          rw [Addr.add_lit] at hc ⊢
          exact (hW.cell (p := ⟨b, off + j, none⟩) hlt).trans hc
        · obtain ⟨a1, n1, k1, a2, k2, g1, g2, g3, g4, g5, g6, g7⟩ := c4 i f hf
          exact ⟨a1, n1, k1, a2, k2, g1, g2, g3, g4.later hW, g5.later hW, g6, g7, fun hp p hpa => ⟨fun e => by have h3 := g4.row.off hp p hpa; have h4 : h0 = p.block := Option.some.inj e; omega, g4.row.off hp p hpa⟩, fun hp p hpa => ⟨fun e => by have h3 := g5.row.off hp p hpa; have h4 : h0 = p.block := Option.some.inj e; omega, g5.row.off hp p hpa⟩⟩
    obtain ⟨v', w', hr, hown', hg, _, hat⟩ := run_append_own_at (P := Try.prog) w x.heap.size 22 o.type 40 i0 _ 3 56 Try.underlying22 hi0 hz0 hz1 hz2 rfl (by decide) (.slice (some ⟨h0, 0, none⟩) 0 0) 0 vs h1 ad qn qc news e1 e2 e3 (by rw [maxLen_val]; omega) (by omega) hW.size
    unfold Oper.wp execOp
    simp only [ho, resolve, invoke, builtin, Sem.run_bind, Sem.run_pure, Result.andThen_ok, List.map_toArray, List.map_cons, List.map_nil, hs, hy, hr]
    have hO' : OwnFR (· < x.heap.size) w' x.heap.size v' ([] ++ fs) := fpsR_after (fs := []) h1 h2 e4 hln hown' hg hat
    exact hK _ _ (hide hO') (hide (hW.grown hg hW.size (fun q hq => by have : h0 = q := Option.some.inj hq; omega))) (hide (fun h cs t hne hb => (hg.block h hb.lt (fun e => hne (Option.some.inj e))).trans hb)) (hide (fun h hlt hne e => by
      rcases hat with q | q
      · rw [q] at e
        exact hne (Option.some.inj e).symm
      · rw [q] at e
        have : w.heap.size = h := Option.some.inj e
        omega))

theorem OwnFR.fl {R : Nat → Prop} {w : World} {base : Nat} {v : Value} {fs : List Fr} (h : OwnFR R w base v fs) : ∃ a c, v = .slice a fs.length c ∧ fs.length ≤ c ∧ FL w a fs.length fs := by
  obtain ⟨vs, h1, h2⟩ := h
  obtain ⟨a, c, hv, hle, hr, hp⟩ := ownsRow_rowR h1
  refine ⟨a, c, hv, hle, rfl, hr.2.1, fun h0 => ?_⟩
  obtain ⟨b, off, ha, hlt, hc⟩ := hr.2.2 h0
  refine ⟨b, off, ha, hlt, fun i f hf => ?_⟩
  obtain ⟨a1, n1, c1, a2, c2, e1, e2, e3, e4, e5, e6, e7, _⟩ := h2 i f hf
  exact ⟨a1, n1, c1, a2, c2, hc _ _ e1, hc _ _ e2, hc _ _ e3, e4, e5, e6, e7⟩
theorem OwnFR.kept {U : Nat} {w w' : World} {base hA : Nat} {v : Value} {fs : List Fr} (h : OwnFR (· < U) w base v fs) (hne : v.ownBlock ≠ some hA) (hU : U ≤ hA) (hg : w.grownBy w' (some hA)) : OwnFR (· < U) w' base v fs := by
  obtain ⟨vs, h1, h2⟩ := h
  refine ⟨vs, h1.kept hg (.inr hne), fun i f hf => ?_⟩
  obtain ⟨a1, n1, c1, a2, c2, e1, e2, e3, e4, e5, e6, e7, e8, e9⟩ := h2 i f hf
  exact ⟨a1, n1, c1, a2, c2, e1, e2, e3, e4.grownBy hg (fun h0 p hp e => by have h3 : p.block < U := (e8 h0 p hp).2; have : hA = p.block := Option.some.inj e; omega), e5.grownBy hg (fun h0 p hp e => by have h3 : p.block < U := (e9 h0 p hp).2; have : hA = p.block := Option.some.inj e; omega), e6, e7, e8, e9⟩
theorem ne6 {v4 v6 : Value} {W : World} {hA : Nat} (hat : v6.ownBlock = v4.ownBlock ∨ v6.ownBlock = some W.heap.size) (ne : v4.ownBlock ≠ some hA) (lt : hA < W.heap.size) : v6.ownBlock ≠ some hA := by
  intro e
  rcases hat with q | q
  · exact ne (q.symm.trans e)
  · rw [q] at e
    have h2 := Option.some.inj e
    omega
theorem OwnFR.fl2 {R : Nat → Prop} {w : World} {base n zc : Nat} {za : Option Addr} {fs : List Fr} (h : OwnFR R w base (.slice za n zc) fs) (hn : fs.length = n) : FL w za n fs := by
  obtain ⟨a, c, hv, _, hf⟩ := h.fl
  rw [hn] at hv hf
  cases hv
  exact hf
theorem nb1_1 (x : World) (C : Array Value) (t : TypeId) : Bx (x.alloc (.cells C t)).drew x.heap.size C t := Bx.newD x C t
theorem nb1_2 (x : World) (C : Array Value) (t : TypeId) (o : Obj) : Bx ((x.alloc (.cells C t)).alloc o).drew x.heap.size C t := (Bx.new x C t).alloc o
theorem nb2_2 (x : World) (o : Obj) (C : Array Value) (t : TypeId) : Bx ((x.alloc o).alloc (.cells C t)).drew (x.heap.size + 1) C t := by
  have h := Bx.new (x.alloc o) C t
  rw [World.size_alloc] at h
  exact h
theorem nb1_3 (x : World) (C : Array Value) (t : TypeId) (o o' : Obj) : Bx (((x.alloc (.cells C t)).alloc o).alloc o').drew x.heap.size C t := ((Bx.new x C t).alloc o).alloc o'
theorem nb2_3 (x : World) (o : Obj) (C : Array Value) (t : TypeId) (o' : Obj) : Bx (((x.alloc o).alloc (.cells C t)).alloc o').drew (x.heap.size + 1) C t := by
  have h := (Bx.new (x.alloc o) C t).alloc o'
  rw [World.size_alloc] at h
  exact h
theorem nb3_3 (x : World) (o o' : Obj) (C : Array Value) (t : TypeId) : Bx (((x.alloc o).alloc o').alloc (.cells C t)).drew (x.heap.size + 2) C t := by
  have h := Bx.new ((x.alloc o).alloc o') C t
  rw [World.size_alloc, World.size_alloc] at h
  exact h
theorem nbB_1 (x : World) (o : Obj) : Below x.heap.size x (x.alloc o).drew := (below_alloc x o).drew
theorem nbB_2 (x : World) (o o' : Obj) : Below x.heap.size x ((x.alloc o).alloc o').drew := ((below_alloc x o).alloc (by simp) o').drew
theorem nbB_3 (x : World) (o o' o'' : Obj) : Below x.heap.size x (((x.alloc o).alloc o').alloc o'').drew := (((below_alloc x o).alloc (by simp) o').alloc (by simp; omega) o'').drew
theorem nbA_2 (x : World) (o o' : Obj) : Below x.heap.size x ((x.alloc o).alloc o') := (below_alloc x o).alloc (by simp) o'
theorem nbA_3 (x : World) (o o' o'' : Obj) : Below x.heap.size x (((x.alloc o).alloc o').alloc o'') := ((below_alloc x o).alloc (by simp) o').alloc (by simp; omega) o''
theorem nbD_1 {x w : World} (h : Below x.heap.size x w) (o : Obj) : Below x.heap.size x (w.alloc o) := h.alloc h.size o
theorem nbD_2 {x w : World} (h : Below x.heap.size x w) (o o' : Obj) : Below x.heap.size x ((w.alloc o).alloc o') := nbD_1 (nbD_1 h o) o'
theorem nw1_2 (w : World) (o : Obj) (C : Array Value) (t : TypeId) : Bx ((w.alloc o).alloc (.cells C t)) (w.heap.size + 1) C t := by
  have h := Bx.new (w.alloc o) C t
  rw [World.size_alloc] at h
  exact h
end Go.Proofs.Ytfgonmgmoeoedaa

/-
  The law LinkSays in parts: behind the sender that is to be.
-/
namespace Go.Proofs.Ytfgonmgmoeoedaa
open Go.RowKit

set_option maxHeartbeats 16000000 in
set_option maxRecDepth 100000 in
theorem lt14_A {w v : World} {ses base : Int} {qa : Option Addr} {qn qc : Nat} {fs : List Fr} {kd : Int} {a1 : Option Addr} {n1 c1 : Nat} {a2 : Option Addr} {n2 c2 : Nat} {nm bs : List Int} {la : Option Addr} {ln lc : Nat} {u0 u1 u4 u5 u8 u9 u10 u11 u14 u15 u16 u17 u18 u19 u20 u21 u22 u23 u24 u25 u26 u27 u28 u29 u30 u31 u32 u33 u34 u35 u36 u37 u38 u39 u40 u41 u42 u43 u44 u45 u46 u47 u48 u49 u50 u51 u52 u53 u54 u55 u56 u57 u58 u59 u60 u61 u62 u63 u64 u65 u66 u67 u68 u69 u70 u71 u72 u73 u74 u75 u76 u77 u78 u79 u80 u81 u82 u83 u84 u85 u86 u87 u88 u89 u90 u91 u92 u93 u94 u95 u96 u97 u98 u99 u100 u101 u102 u103 u104 u105 u106 u107 u108 u109 u110 u111 u112 u113 u114 u115 u116 u117 u118 u119 u120 u121 u122 u123 u124 u125 u126 u127 u128 u129 u130 u131 u132 u133 u134 u135 u136 u137 u138 : Value} {x : World} {gx hA zc : Nat} {za : Option Addr} {p0 p1 p2 : Value} {w6 : World} (F : Lf w v ses base qa qn qc fs kd a1 n1 c1 a2 n2 c2 nm bs la ln lc) (D : Hid (Below v.heap.size v x)) (XX : Hid (Bx x gx #[p0, p1, p2] 24)) (VX : Hid (SdV x (.agg #[p0, p1, p2]) ⟨ses, base, fs ++ [⟨kd, nm, n2, bs⟩]⟩)) (D6 : Hid (Below x.heap.size x w6)) (O6 : Hid (OwnFR (fun q => q < x.heap.size) w6 x.heap.size (.slice za (qn + 1) zc) (fs ++ [⟨kd, nm, n2, bs⟩]))) (NA6 : Hid ((Value.slice za (qn + 1) zc).ownBlock ≠ some hA)) (HGA6 : Hid (x.heap.size ≤ hA)) (XA6 : Hid (Bx w6 hA #[.int .i64 0, .int .i64 0, .slice none 0 0] 24)) (ZCq : Hid (qn + 1 ≤ zc)) :
    TailL 15 w ⟨#[u0, u1, .pointer (some ⟨w.heap.size, 0, none⟩), .pointer (some ⟨(w.heap.size + 1), 0, none⟩), u4, u5, .slice la ln lc, .nilIface, u8, u9, u10, u11, .pointer (some ⟨gx, 0, none⟩), .pointer (some ⟨hA, 0, none⟩), u14, u15, u16, u17, u18, u19, u20, u21, u22, u23, u24, u25, u26, u27, u28, u29, u30, u31, u32, u33, u34, u35, u36, u37, u38, u39, u40, u41, u42, u43, u44, u45, u46, u47, u48, u49, u50, u51, u52, u53, u54, u55, u56, u57, u58, u59, u60, u61, u62, u63, u64, u65, u66, u67, u68, u69, u70, u71, u72, u73, u74, u75, u76, u77, u78, u79, u80, u81, u82, u83, u84, u85, u86, u87, u88, u89, u90, u91, u92, u93, u94, u95, u96, u97, u98, u99, u100, u101, u102, u103, u104, u105, u106, u107, u108, u109, u110, u111, u112, u113, u114, u115, u116, u117, u118, u119, u120, u121, u122, u123, u124, u125, u126, u127, u128, u129, u130, u131, u132, u133, u134, u135, u136, u137, u138], []⟩ (((w6.setCell ⟨hA, 0, none⟩ (.int .i64 ses)).setCell ⟨hA, 1, none⟩ (.int .i64 base)).setCell ⟨hA, 2, none⟩ (.slice za (qn + 1) zc)) := by
  have HL6 := hide (show (fs ++ [(⟨kd, nm, n2, bs⟩ : Fr)]).length = qn + 1 by rw [List.length_append, List.length_singleton, F.hq.1])
  have BA := hide (set3_below D6.out HGA6.out (.int .i64 ses) (.int .i64 base) (.slice za (qn + 1) zc))
  have GF := hide (set3_grown (grow_refl w6 (some hA)) (.int .i64 ses) (.int .i64 base) (.slice za (qn + 1) zc))
  have O7 := hide (O6.out.kept NA6.out HGA6.out GF.out)
  exact lt15 F (hide (D.out.trans (BA.out.mono D.out.size))) (hide (XX.out.later BA.out XX.out.lt)) (hide (VX.out.later BA.out)) (hide (XA6.out.three_set _ _ _)) (hide ⟨za, qn + 1, zc, rfl, O7.out.fl2 HL6.out, ZCq.out⟩)

set_option maxHeartbeats 16000000 in
set_option maxRecDepth 100000 in
theorem lt14_N {w v : World} {ses base : Int} {qa : Option Addr} {qn qc : Nat} {fs : List Fr} {kd : Int} {a1 : Option Addr} {n1 c1 : Nat} {a2 : Option Addr} {n2 c2 : Nat} {nm bs : List Int} {la : Option Addr} {ln lc : Nat} {u0 u1 u4 u5 u8 u9 u10 u11 u14 u15 u16 u17 u18 u19 u20 u21 u22 u23 u24 u25 u26 u27 u28 u29 u30 u31 u32 u33 u34 u35 u36 u37 u38 u39 u40 u41 u42 u43 u44 u45 u46 u47 u48 u49 u50 u51 u52 u53 u54 u55 u56 u57 u58 u59 u60 u61 u62 u63 u64 u65 u66 u67 u68 u69 u70 u71 u72 u73 u74 u75 u76 u77 u78 u79 u80 u81 u82 u83 u84 u85 u86 u87 u88 u89 u90 u91 u92 u93 u94 u95 u96 u97 u98 u99 u100 u101 u102 u103 u104 u105 u106 u107 u108 u109 u110 u111 u112 u113 u114 u115 u116 u117 u118 u119 u120 u121 u122 u123 u124 u125 u126 u127 u128 u129 u130 u131 u132 u133 u134 u135 u136 u137 u138 : Value} {x : World} {gx zc : Nat} {za : Option Addr} {p0 p1 p2 : Value} {w6 : World} (F : Lf w v ses base qa qn qc fs kd a1 n1 c1 a2 n2 c2 nm bs la ln lc) (D : Hid (Below v.heap.size v x)) (XX : Hid (Bx x gx #[p0, p1, p2] 24)) (VX : Hid (SdV x (.agg #[p0, p1, p2]) ⟨ses, base, fs ++ [⟨kd, nm, n2, bs⟩]⟩)) (D6 : Hid (Below x.heap.size x w6)) (O6 : Hid (OwnFR (fun q => q < x.heap.size) w6 x.heap.size (.slice za (qn + 1) zc) (fs ++ [⟨kd, nm, n2, bs⟩]))) (ZCq : Hid (qn + 1 ≤ zc)) :
    TailL 15 w ⟨#[u0, u1, .pointer (some ⟨w.heap.size, 0, none⟩), .pointer (some ⟨(w.heap.size + 1), 0, none⟩), u4, u5, .slice la ln lc, .nilIface, u8, u9, u10, u11, .pointer (some ⟨gx, 0, none⟩), .pointer (some ⟨w6.heap.size, 0, none⟩), u14, u15, u16, u17, u18, u19, u20, u21, u22, u23, u24, u25, u26, u27, u28, u29, u30, u31, u32, u33, u34, u35, u36, u37, u38, u39, u40, u41, u42, u43, u44, u45, u46, u47, u48, u49, u50, u51, u52, u53, u54, u55, u56, u57, u58, u59, u60, u61, u62, u63, u64, u65, u66, u67, u68, u69, u70, u71, u72, u73, u74, u75, u76, u77, u78, u79, u80, u81, u82, u83, u84, u85, u86, u87, u88, u89, u90, u91, u92, u93, u94, u95, u96, u97, u98, u99, u100, u101, u102, u103, u104, u105, u106, u107, u108, u109, u110, u111, u112, u113, u114, u115, u116, u117, u118, u119, u120, u121, u122, u123, u124, u125, u126, u127, u128, u129, u130, u131, u132, u133, u134, u135, u136, u137, u138], []⟩ (w6.alloc (.cells #[.int .i64 ses, .int .i64 base, .slice za (qn + 1) zc] 24)) := by
  have HL6 := hide (show (fs ++ [(⟨kd, nm, n2, bs⟩ : Fr)]).length = qn + 1 by rw [List.length_append, List.length_singleton, F.hq.1])
  have BA := hide (nbD_1 D6.out (.cells #[.int .i64 ses, .int .i64 base, .slice za (qn + 1) zc] 24))
  exact lt15 F (hide (D.out.trans (BA.out.mono D.out.size))) (hide (XX.out.later BA.out XX.out.lt)) (hide (VX.out.later BA.out)) (hide (Bx.new w6 _ _)) (hide ⟨za, qn + 1, zc, rfl, (O6.out.fl2 HL6.out).later (below_alloc _ _), ZCq.out⟩)

end Go.Proofs.Ytfgonmgmoeoedaa

/-
  The law LinkSays in parts: the sender that is to be.
-/
namespace Go.Proofs.Ytfgonmgmoeoedaa
open Go.RowKit

set_option maxHeartbeats 16000000 in
set_option maxRecDepth 100000 in
theorem lt14 {w v : World} {ses base : Int} {qa : Option Addr} {qn qc : Nat} {fs : List Fr} {kd : Int} {a1 : Option Addr} {n1 c1 : Nat} {a2 : Option Addr} {n2 c2 : Nat} {nm bs : List Int} {la : Option Addr} {ln lc : Nat} {u0 u1 u4 u5 u8 u9 u10 u11 u13 u14 u15 u16 u17 u18 u19 u20 u21 u22 u23 u24 u25 u26 u27 u28 u29 u30 u31 u32 u33 u34 u35 u36 u37 u38 u39 u40 u41 u42 u43 u44 u45 u46 u47 u48 u49 u50 u51 u52 u53 u54 u55 u56 u57 u58 u59 u60 u61 u62 u63 u64 u65 u66 u67 u68 u69 u70 u71 u72 u73 u74 u75 u76 u77 u78 u79 u80 u81 u82 u83 u84 u85 u86 u87 u88 u89 u90 u91 u92 u93 u94 u95 u96 u97 u98 u99 u100 u101 u102 u103 u104 u105 u106 u107 u108 u109 u110 u111 u112 u113 u114 u115 u116 u117 u118 u119 u120 u121 u122 u123 u124 u125 u126 u127 u128 u129 u130 u131 u132 u133 u134 u135 u136 u137 u138 : Value} {x : World} {gx : Nat} {p0 p1 p2 : Value} (F : Lf w v ses base qa qn qc fs kd a1 n1 c1 a2 n2 c2 nm bs la ln lc) (D : Hid (Below v.heap.size v x)) (XX : Hid (Bx x gx #[p0, p1, p2] 24)) (VX : Hid (SdV x (.agg #[p0, p1, p2]) ⟨ses, base, fs ++ [⟨kd, nm, n2, bs⟩]⟩)):
    TailL 14 w ⟨#[u0, u1, .pointer (some ⟨w.heap.size, 0, none⟩), .pointer (some ⟨(w.heap.size + 1), 0, none⟩), u4, u5, .slice la ln lc, .nilIface, u8, u9, u10, u11, .pointer (some ⟨gx, 0, none⟩), u13, u14, u15, u16, u17, u18, u19, u20, u21, u22, u23, u24, u25, u26, u27, u28, u29, u30, u31, u32, u33, u34, u35, u36, u37, u38, u39, u40, u41, u42, u43, u44, u45, u46, u47, u48, u49, u50, u51, u52, u53, u54, u55, u56, u57, u58, u59, u60, u61, u62, u63, u64, u65, u66, u67, u68, u69, u70, u71, u72, u73, u74, u75, u76, u77, u78, u79, u80, u81, u82, u83, u84, u85, u86, u87, u88, u89, u90, u91, u92, u93, u94, u95, u96, u97, u98, u99, u100, u101, u102, u103, u104, u105, u106, u107, u108, u109, u110, u111, u112, u113, u114, u115, u116, u117, u118, u119, u120, u121, u122, u123, u124, u125, u126, u127, u128, u129, u130, u131, u132, u133, u134, u135, u136, u137, u138], []⟩ x := by
  refine tailL_step rfl ?_
  intro K hK
  have HQ := hide (F.hq.later D.out)
  have HI := hide (F.hi.later D.out)
  have HK := hide (F.hk.later D.out)
  have HN := hide F.hq.1
  have hq1000 : qn ≤ 1000 := by have := F.q100; omega
  have hql : fs.length ≤ 100000 := by have h1 := HN.out; omega
  have XB := hide (F.xb.later D.out F.xb.lt)
  have XF := hide (F.xf.later D.out F.xf.lt)
  have KS := hide (show ∀ W : World, Below x.heap.size x W → W.cell? ⟨w.heap.size, 0, none⟩ = some (.int .i64 ses) ∧ W.cell? ⟨w.heap.size, 1, none⟩ = some (.int .i64 base) ∧ W.cell? ⟨w.heap.size, 2, none⟩ = some (.slice qa qn qc) ∧ W.cell? ⟨w.heap.size + 1, 0, none⟩ = some (.int .i64 kd) ∧ W.cell? ⟨w.heap.size + 1, 1, none⟩ = some (.slice a1 n1 c1) ∧ W.cell? ⟨w.heap.size + 1, 2, none⟩ = some (.slice a2 n2 c2) from fun W hW => by
    obtain ⟨y0, y1, y2⟩ := (XB.out.later hW XB.out.lt).three
    obtain ⟨z0, z1, z2⟩ := (XF.out.later hW XF.out.lt).three
    exact ⟨y0, y1, y2, z0, z1, z2⟩)
  obtain ⟨x0, x1, x2⟩ := XB.out.three
  obtain ⟨f0, f1, f2⟩ := XF.out.three
  go_region_held3 (fun w' => w'.cell? ⟨w.heap.size, 0, none⟩ = some (.int .i64 ses) ∧ w'.cell? ⟨w.heap.size, 1, none⟩ = some (.int .i64 base) ∧ w'.cell? ⟨w.heap.size, 2, none⟩ = some (.slice qa qn qc) ∧ w'.cell? ⟨w.heap.size + 1, 0, none⟩ = some (.int .i64 kd) ∧ w'.cell? ⟨w.heap.size + 1, 1, none⟩ = some (.slice a1 n1 c1) ∧ w'.cell? ⟨w.heap.size + 1, 2, none⟩ = some (.slice a2 n2 c2))
    (first
      | with_reducible exact KS.out _ (Below.refl _ _)
      | with_reducible exact KS.out _ (Below.refl _ _).drew
      | with_reducible exact KS.out _ (below_alloc x _)
      | with_reducible exact KS.out _ (nbB_1 x _)
      | with_reducible exact KS.out _ (nbA_2 x _ _)
      | with_reducible exact KS.out _ (nbB_2 x _ _)
      | with_reducible exact KS.out _ (nbA_3 x _ _ _)
      | with_reducible exact KS.out _ (nbB_3 x _ _ _)
      | with_reducible exact KS.out _ D4.out
      | with_reducible exact KS.out _ (nbD_1 D4.out _)
      | with_reducible exact KS.out _ (nbD_2 D4.out _ _)
      | with_reducible exact KS.out _ D6.out
      | with_reducible exact KS.out _ (nbD_1 D6.out _)
      | exact KS.out _ (set3_below D6.out HGA6.out _ _ _))
    (first
      | ((with_reducible show @ite _ _ _ (Oper.wp _ _ _ (x.alloc (.cells #[] 40)).drew _ _) _); refine lz_row (x := x) (w := (x.alloc (.cells #[] 40)).drew) rfl (.tmp 124) (.tmp 126) rfl x.heap.size (nbB_1 x (.cells #[] 40)) (nb1_1 x #[] 40 ) (by omega) rfl rfl HQ.out hq1000 ?_; intro v4 w4 O4 D4 T4 N4; have Q14 := hide (show 0 < n1 → ∀ p, a1 = some p → v4.ownBlock ≠ some p.block ∧ p.block < x.heap.size from fun h0 p hp => ⟨fun e => by have h1 := (O4.out.lt _ e).1; have h2 := HI.out.row.off h0 p hp; omega, HI.out.row.off h0 p hp⟩); have Q24 := hide (show 0 < n2 → ∀ p, a2 = some p → v4.ownBlock ≠ some p.block ∧ p.block < x.heap.size from fun h0 p hp => ⟨fun e => by have h1 := (O4.out.lt _ e).1; have h2 := HK.out.row.off h0 p hp; omega, HK.out.row.off h0 p hp⟩))
      | ((with_reducible show @ite _ _ _ (Oper.wp _ _ _ ((x.alloc (.cells #[] 40)).alloc (.cells #[.int .i64 kd, .slice a1 n1 c1, .slice a2 n2 c2] 40)).drew _ _) _); refine lz_row (x := x) (w := ((x.alloc (.cells #[] 40)).alloc (.cells #[.int .i64 kd, .slice a1 n1 c1, .slice a2 n2 c2] 40)).drew) rfl (.tmp 124) (.tmp 126) rfl x.heap.size (nbB_2 x (.cells #[] 40) (.cells #[.int .i64 kd, .slice a1 n1 c1, .slice a2 n2 c2] 40)) (nb1_2 x #[] 40 (.cells #[.int .i64 kd, .slice a1 n1 c1, .slice a2 n2 c2] 40)) (by omega) rfl rfl HQ.out hq1000 ?_; intro v4 w4 O4 D4 T4 N4; have XB4 := hide (T4.out (x.heap.size + 1) _ _ (by omega) (nb2_2 x (.cells #[] 40) #[.int .i64 kd, .slice a1 n1 c1, .slice a2 n2 c2] 40 )); have Q14 := hide (show 0 < n1 → ∀ p, a1 = some p → v4.ownBlock ≠ some p.block ∧ p.block < x.heap.size from fun h0 p hp => ⟨fun e => by have h1 := (O4.out.lt _ e).1; have h2 := HI.out.row.off h0 p hp; omega, HI.out.row.off h0 p hp⟩); have Q24 := hide (show 0 < n2 → ∀ p, a2 = some p → v4.ownBlock ≠ some p.block ∧ p.block < x.heap.size from fun h0 p hp => ⟨fun e => by have h1 := (O4.out.lt _ e).1; have h2 := HK.out.row.off h0 p hp; omega, HK.out.row.off h0 p hp⟩))
      | ((with_reducible show @ite _ _ _ (Oper.wp _ _ _ ((x.alloc (.cells #[] 40)).alloc (.cells #[.int .i64 0, .int .i64 0, .slice none 0 0] 24)).drew _ _) _); refine lz_row (x := x) (w := ((x.alloc (.cells #[] 40)).alloc (.cells #[.int .i64 0, .int .i64 0, .slice none 0 0] 24)).drew) rfl (.tmp 124) (.tmp 126) rfl x.heap.size (nbB_2 x (.cells #[] 40) (.cells #[.int .i64 0, .int .i64 0, .slice none 0 0] 24)) (nb1_2 x #[] 40 (.cells #[.int .i64 0, .int .i64 0, .slice none 0 0] 24)) (by omega) rfl rfl HQ.out hq1000 ?_; intro v4 w4 O4 D4 T4 N4; have XA4 := hide (T4.out (x.heap.size + 1) _ _ (by omega) (nb2_2 x (.cells #[] 40) #[.int .i64 0, .int .i64 0, .slice none 0 0] 24 )); have NA4 := hide (N4.out (x.heap.size + 1) ((nb2_2 x (.cells #[] 40) #[.int .i64 0, .int .i64 0, .slice none 0 0] 24 )).lt (by omega)); have HGA := hide (show x.heap.size ≤ (x.heap.size + 1) by omega); have Q14 := hide (show 0 < n1 → ∀ p, a1 = some p → v4.ownBlock ≠ some p.block ∧ p.block < x.heap.size from fun h0 p hp => ⟨fun e => by have h1 := (O4.out.lt _ e).1; have h2 := HI.out.row.off h0 p hp; omega, HI.out.row.off h0 p hp⟩); have Q24 := hide (show 0 < n2 → ∀ p, a2 = some p → v4.ownBlock ≠ some p.block ∧ p.block < x.heap.size from fun h0 p hp => ⟨fun e => by have h1 := (O4.out.lt _ e).1; have h2 := HK.out.row.off h0 p hp; omega, HK.out.row.off h0 p hp⟩))
      | ((with_reducible show @ite _ _ _ (Oper.wp _ _ _ ((x.alloc (.cells #[.int .i64 kd, .slice a1 n1 c1, .slice a2 n2 c2] 40)).alloc (.cells #[] 40)).drew _ _) _); refine lz_row (x := x) (w := ((x.alloc (.cells #[.int .i64 kd, .slice a1 n1 c1, .slice a2 n2 c2] 40)).alloc (.cells #[] 40)).drew) rfl (.tmp 124) (.tmp 126) rfl (x.heap.size + 1) (nbB_2 x (.cells #[.int .i64 kd, .slice a1 n1 c1, .slice a2 n2 c2] 40) (.cells #[] 40)) (nb2_2 x (.cells #[.int .i64 kd, .slice a1 n1 c1, .slice a2 n2 c2] 40) #[] 40 ) (by omega) rfl rfl HQ.out hq1000 ?_; intro v4 w4 O4 D4 T4 N4; have XB4 := hide (T4.out x.heap.size _ _ (by omega) (nb1_2 x #[.int .i64 kd, .slice a1 n1 c1, .slice a2 n2 c2] 40 (.cells #[] 40))); have Q14 := hide (show 0 < n1 → ∀ p, a1 = some p → v4.ownBlock ≠ some p.block ∧ p.block < x.heap.size from fun h0 p hp => ⟨fun e => by have h1 := (O4.out.lt _ e).1; have h2 := HI.out.row.off h0 p hp; omega, HI.out.row.off h0 p hp⟩); have Q24 := hide (show 0 < n2 → ∀ p, a2 = some p → v4.ownBlock ≠ some p.block ∧ p.block < x.heap.size from fun h0 p hp => ⟨fun e => by have h1 := (O4.out.lt _ e).1; have h2 := HK.out.row.off h0 p hp; omega, HK.out.row.off h0 p hp⟩))
      | ((with_reducible show @ite _ _ _ (Oper.wp _ _ _ ((x.alloc (.cells #[.int .i64 0, .int .i64 0, .slice none 0 0] 24)).alloc (.cells #[] 40)).drew _ _) _); refine lz_row (x := x) (w := ((x.alloc (.cells #[.int .i64 0, .int .i64 0, .slice none 0 0] 24)).alloc (.cells #[] 40)).drew) rfl (.tmp 124) (.tmp 126) rfl (x.heap.size + 1) (nbB_2 x (.cells #[.int .i64 0, .int .i64 0, .slice none 0 0] 24) (.cells #[] 40)) (nb2_2 x (.cells #[.int .i64 0, .int .i64 0, .slice none 0 0] 24) #[] 40 ) (by omega) rfl rfl HQ.out hq1000 ?_; intro v4 w4 O4 D4 T4 N4; have XA4 := hide (T4.out x.heap.size _ _ (by omega) (nb1_2 x #[.int .i64 0, .int .i64 0, .slice none 0 0] 24 (.cells #[] 40))); have NA4 := hide (N4.out x.heap.size ((nb1_2 x #[.int .i64 0, .int .i64 0, .slice none 0 0] 24 (.cells #[] 40))).lt (by omega)); have HGA := hide (show x.heap.size ≤ x.heap.size by omega); have Q14 := hide (show 0 < n1 → ∀ p, a1 = some p → v4.ownBlock ≠ some p.block ∧ p.block < x.heap.size from fun h0 p hp => ⟨fun e => by have h1 := (O4.out.lt _ e).1; have h2 := HI.out.row.off h0 p hp; omega, HI.out.row.off h0 p hp⟩); have Q24 := hide (show 0 < n2 → ∀ p, a2 = some p → v4.ownBlock ≠ some p.block ∧ p.block < x.heap.size from fun h0 p hp => ⟨fun e => by have h1 := (O4.out.lt _ e).1; have h2 := HK.out.row.off h0 p hp; omega, HK.out.row.off h0 p hp⟩))
      | ((with_reducible show @ite _ _ _ (Oper.wp _ _ _ (((x.alloc (.cells #[] 40)).alloc (.cells #[.int .i64 kd, .slice a1 n1 c1, .slice a2 n2 c2] 40)).alloc (.cells #[.int .i64 0, .int .i64 0, .slice none 0 0] 24)).drew _ _) _); refine lz_row (x := x) (w := (((x.alloc (.cells #[] 40)).alloc (.cells #[.int .i64 kd, .slice a1 n1 c1, .slice a2 n2 c2] 40)).alloc (.cells #[.int .i64 0, .int .i64 0, .slice none 0 0] 24)).drew) rfl (.tmp 124) (.tmp 126) rfl x.heap.size (nbB_3 x (.cells #[] 40) (.cells #[.int .i64 kd, .slice a1 n1 c1, .slice a2 n2 c2] 40) (.cells #[.int .i64 0, .int .i64 0, .slice none 0 0] 24)) (nb1_3 x #[] 40 (.cells #[.int .i64 kd, .slice a1 n1 c1, .slice a2 n2 c2] 40) (.cells #[.int .i64 0, .int .i64 0, .slice none 0 0] 24)) (by omega) rfl rfl HQ.out hq1000 ?_; intro v4 w4 O4 D4 T4 N4; have XB4 := hide (T4.out (x.heap.size + 1) _ _ (by omega) (nb2_3 x (.cells #[] 40) #[.int .i64 kd, .slice a1 n1 c1, .slice a2 n2 c2] 40 (.cells #[.int .i64 0, .int .i64 0, .slice none 0 0] 24))); have XA4 := hide (T4.out (x.heap.size + 2) _ _ (by omega) (nb3_3 x (.cells #[] 40) (.cells #[.int .i64 kd, .slice a1 n1 c1, .slice a2 n2 c2] 40) #[.int .i64 0, .int .i64 0, .slice none 0 0] 24 )); have NA4 := hide (N4.out (x.heap.size + 2) ((nb3_3 x (.cells #[] 40) (.cells #[.int .i64 kd, .slice a1 n1 c1, .slice a2 n2 c2] 40) #[.int .i64 0, .int .i64 0, .slice none 0 0] 24 )).lt (by omega)); have HGA := hide (show x.heap.size ≤ (x.heap.size + 2) by omega); have Q14 := hide (show 0 < n1 → ∀ p, a1 = some p → v4.ownBlock ≠ some p.block ∧ p.block < x.heap.size from fun h0 p hp => ⟨fun e => by have h1 := (O4.out.lt _ e).1; have h2 := HI.out.row.off h0 p hp; omega, HI.out.row.off h0 p hp⟩); have Q24 := hide (show 0 < n2 → ∀ p, a2 = some p → v4.ownBlock ≠ some p.block ∧ p.block < x.heap.size from fun h0 p hp => ⟨fun e => by have h1 := (O4.out.lt _ e).1; have h2 := HK.out.row.off h0 p hp; omega, HK.out.row.off h0 p hp⟩))
      | ((with_reducible show @ite _ _ _ (Oper.wp _ _ _ (((x.alloc (.cells #[] 40)).alloc (.cells #[.int .i64 0, .int .i64 0, .slice none 0 0] 24)).alloc (.cells #[.int .i64 kd, .slice a1 n1 c1, .slice a2 n2 c2] 40)).drew _ _) _); refine lz_row (x := x) (w := (((x.alloc (.cells #[] 40)).alloc (.cells #[.int .i64 0, .int .i64 0, .slice none 0 0] 24)).alloc (.cells #[.int .i64 kd, .slice a1 n1 c1, .slice a2 n2 c2] 40)).drew) rfl (.tmp 124) (.tmp 126) rfl x.heap.size (nbB_3 x (.cells #[] 40) (.cells #[.int .i64 0, .int .i64 0, .slice none 0 0] 24) (.cells #[.int .i64 kd, .slice a1 n1 c1, .slice a2 n2 c2] 40)) (nb1_3 x #[] 40 (.cells #[.int .i64 0, .int .i64 0, .slice none 0 0] 24) (.cells #[.int .i64 kd, .slice a1 n1 c1, .slice a2 n2 c2] 40)) (by omega) rfl rfl HQ.out hq1000 ?_; intro v4 w4 O4 D4 T4 N4; have XB4 := hide (T4.out (x.heap.size + 2) _ _ (by omega) (nb3_3 x (.cells #[] 40) (.cells #[.int .i64 0, .int .i64 0, .slice none 0 0] 24) #[.int .i64 kd, .slice a1 n1 c1, .slice a2 n2 c2] 40 )); have XA4 := hide (T4.out (x.heap.size + 1) _ _ (by omega) (nb2_3 x (.cells #[] 40) #[.int .i64 0, .int .i64 0, .slice none 0 0] 24 (.cells #[.int .i64 kd, .slice a1 n1 c1, .slice a2 n2 c2] 40))); have NA4 := hide (N4.out (x.heap.size + 1) ((nb2_3 x (.cells #[] 40) #[.int .i64 0, .int .i64 0, .slice none 0 0] 24 (.cells #[.int .i64 kd, .slice a1 n1 c1, .slice a2 n2 c2] 40))).lt (by omega)); have HGA := hide (show x.heap.size ≤ (x.heap.size + 1) by omega); have Q14 := hide (show 0 < n1 → ∀ p, a1 = some p → v4.ownBlock ≠ some p.block ∧ p.block < x.heap.size from fun h0 p hp => ⟨fun e => by have h1 := (O4.out.lt _ e).1; have h2 := HI.out.row.off h0 p hp; omega, HI.out.row.off h0 p hp⟩); have Q24 := hide (show 0 < n2 → ∀ p, a2 = some p → v4.ownBlock ≠ some p.block ∧ p.block < x.heap.size from fun h0 p hp => ⟨fun e => by have h1 := (O4.out.lt _ e).1; have h2 := HK.out.row.off h0 p hp; omega, HK.out.row.off h0 p hp⟩))
      | ((with_reducible show @ite _ _ _ (Oper.wp _ _ _ (((x.alloc (.cells #[.int .i64 kd, .slice a1 n1 c1, .slice a2 n2 c2] 40)).alloc (.cells #[] 40)).alloc (.cells #[.int .i64 0, .int .i64 0, .slice none 0 0] 24)).drew _ _) _); refine lz_row (x := x) (w := (((x.alloc (.cells #[.int .i64 kd, .slice a1 n1 c1, .slice a2 n2 c2] 40)).alloc (.cells #[] 40)).alloc (.cells #[.int .i64 0, .int .i64 0, .slice none 0 0] 24)).drew) rfl (.tmp 124) (.tmp 126) rfl (x.heap.size + 1) (nbB_3 x (.cells #[.int .i64 kd, .slice a1 n1 c1, .slice a2 n2 c2] 40) (.cells #[] 40) (.cells #[.int .i64 0, .int .i64 0, .slice none 0 0] 24)) (nb2_3 x (.cells #[.int .i64 kd, .slice a1 n1 c1, .slice a2 n2 c2] 40) #[] 40 (.cells #[.int .i64 0, .int .i64 0, .slice none 0 0] 24)) (by omega) rfl rfl HQ.out hq1000 ?_; intro v4 w4 O4 D4 T4 N4; have XB4 := hide (T4.out x.heap.size _ _ (by omega) (nb1_3 x #[.int .i64 kd, .slice a1 n1 c1, .slice a2 n2 c2] 40 (.cells #[] 40) (.cells #[.int .i64 0, .int .i64 0, .slice none 0 0] 24))); have XA4 := hide (T4.out (x.heap.size + 2) _ _ (by omega) (nb3_3 x (.cells #[.int .i64 kd, .slice a1 n1 c1, .slice a2 n2 c2] 40) (.cells #[] 40) #[.int .i64 0, .int .i64 0, .slice none 0 0] 24 )); have NA4 := hide (N4.out (x.heap.size + 2) ((nb3_3 x (.cells #[.int .i64 kd, .slice a1 n1 c1, .slice a2 n2 c2] 40) (.cells #[] 40) #[.int .i64 0, .int .i64 0, .slice none 0 0] 24 )).lt (by omega)); have HGA := hide (show x.heap.size ≤ (x.heap.size + 2) by omega); have Q14 := hide (show 0 < n1 → ∀ p, a1 = some p → v4.ownBlock ≠ some p.block ∧ p.block < x.heap.size from fun h0 p hp => ⟨fun e => by have h1 := (O4.out.lt _ e).1; have h2 := HI.out.row.off h0 p hp; omega, HI.out.row.off h0 p hp⟩); have Q24 := hide (show 0 < n2 → ∀ p, a2 = some p → v4.ownBlock ≠ some p.block ∧ p.block < x.heap.size from fun h0 p hp => ⟨fun e => by have h1 := (O4.out.lt _ e).1; have h2 := HK.out.row.off h0 p hp; omega, HK.out.row.off h0 p hp⟩))
      | ((with_reducible show @ite _ _ _ (Oper.wp _ _ _ (((x.alloc (.cells #[.int .i64 kd, .slice a1 n1 c1, .slice a2 n2 c2] 40)).alloc (.cells #[.int .i64 0, .int .i64 0, .slice none 0 0] 24)).alloc (.cells #[] 40)).drew _ _) _); refine lz_row (x := x) (w := (((x.alloc (.cells #[.int .i64 kd, .slice a1 n1 c1, .slice a2 n2 c2] 40)).alloc (.cells #[.int .i64 0, .int .i64 0, .slice none 0 0] 24)).alloc (.cells #[] 40)).drew) rfl (.tmp 124) (.tmp 126) rfl (x.heap.size + 2) (nbB_3 x (.cells #[.int .i64 kd, .slice a1 n1 c1, .slice a2 n2 c2] 40) (.cells #[.int .i64 0, .int .i64 0, .slice none 0 0] 24) (.cells #[] 40)) (nb3_3 x (.cells #[.int .i64 kd, .slice a1 n1 c1, .slice a2 n2 c2] 40) (.cells #[.int .i64 0, .int .i64 0, .slice none 0 0] 24) #[] 40 ) (by omega) rfl rfl HQ.out hq1000 ?_; intro v4 w4 O4 D4 T4 N4; have XB4 := hide (T4.out x.heap.size _ _ (by omega) (nb1_3 x #[.int .i64 kd, .slice a1 n1 c1, .slice a2 n2 c2] 40 (.cells #[.int .i64 0, .int .i64 0, .slice none 0 0] 24) (.cells #[] 40))); have XA4 := hide (T4.out (x.heap.size + 1) _ _ (by omega) (nb2_3 x (.cells #[.int .i64 kd, .slice a1 n1 c1, .slice a2 n2 c2] 40) #[.int .i64 0, .int .i64 0, .slice none 0 0] 24 (.cells #[] 40))); have NA4 := hide (N4.out (x.heap.size + 1) ((nb2_3 x (.cells #[.int .i64 kd, .slice a1 n1 c1, .slice a2 n2 c2] 40) #[.int .i64 0, .int .i64 0, .slice none 0 0] 24 (.cells #[] 40))).lt (by omega)); have HGA := hide (show x.heap.size ≤ (x.heap.size + 1) by omega); have Q14 := hide (show 0 < n1 → ∀ p, a1 = some p → v4.ownBlock ≠ some p.block ∧ p.block < x.heap.size from fun h0 p hp => ⟨fun e => by have h1 := (O4.out.lt _ e).1; have h2 := HI.out.row.off h0 p hp; omega, HI.out.row.off h0 p hp⟩); have Q24 := hide (show 0 < n2 → ∀ p, a2 = some p → v4.ownBlock ≠ some p.block ∧ p.block < x.heap.size from fun h0 p hp => ⟨fun e => by have h1 := (O4.out.lt _ e).1; have h2 := HK.out.row.off h0 p hp; omega, HK.out.row.off h0 p hp⟩))
      | ((with_reducible show @ite _ _ _ (Oper.wp _ _ _ (((x.alloc (.cells #[.int .i64 0, .int .i64 0, .slice none 0 0] 24)).alloc (.cells #[] 40)).alloc (.cells #[.int .i64 kd, .slice a1 n1 c1, .slice a2 n2 c2] 40)).drew _ _) _); refine lz_row (x := x) (w := (((x.alloc (.cells #[.int .i64 0, .int .i64 0, .slice none 0 0] 24)).alloc (.cells #[] 40)).alloc (.cells #[.int .i64 kd, .slice a1 n1 c1, .slice a2 n2 c2] 40)).drew) rfl (.tmp 124) (.tmp 126) rfl (x.heap.size + 1) (nbB_3 x (.cells #[.int .i64 0, .int .i64 0, .slice none 0 0] 24) (.cells #[] 40) (.cells #[.int .i64 kd, .slice a1 n1 c1, .slice a2 n2 c2] 40)) (nb2_3 x (.cells #[.int .i64 0, .int .i64 0, .slice none 0 0] 24) #[] 40 (.cells #[.int .i64 kd, .slice a1 n1 c1, .slice a2 n2 c2] 40)) (by omega) rfl rfl HQ.out hq1000 ?_; intro v4 w4 O4 D4 T4 N4; have XB4 := hide (T4.out (x.heap.size + 2) _ _ (by omega) (nb3_3 x (.cells #[.int .i64 0, .int .i64 0, .slice none 0 0] 24) (.cells #[] 40) #[.int .i64 kd, .slice a1 n1 c1, .slice a2 n2 c2] 40 )); have XA4 := hide (T4.out x.heap.size _ _ (by omega) (nb1_3 x #[.int .i64 0, .int .i64 0, .slice none 0 0] 24 (.cells #[] 40) (.cells #[.int .i64 kd, .slice a1 n1 c1, .slice a2 n2 c2] 40))); have NA4 := hide (N4.out x.heap.size ((nb1_3 x #[.int .i64 0, .int .i64 0, .slice none 0 0] 24 (.cells #[] 40) (.cells #[.int .i64 kd, .slice a1 n1 c1, .slice a2 n2 c2] 40))).lt (by omega)); have HGA := hide (show x.heap.size ≤ x.heap.size by omega); have Q14 := hide (show 0 < n1 → ∀ p, a1 = some p → v4.ownBlock ≠ some p.block ∧ p.block < x.heap.size from fun h0 p hp => ⟨fun e => by have h1 := (O4.out.lt _ e).1; have h2 := HI.out.row.off h0 p hp; omega, HI.out.row.off h0 p hp⟩); have Q24 := hide (show 0 < n2 → ∀ p, a2 = some p → v4.ownBlock ≠ some p.block ∧ p.block < x.heap.size from fun h0 p hp => ⟨fun e => by have h1 := (O4.out.lt _ e).1; have h2 := HK.out.row.off h0 p hp; omega, HK.out.row.off h0 p hp⟩))
      | ((with_reducible show @ite _ _ _ (Oper.wp _ _ _ (((x.alloc (.cells #[.int .i64 0, .int .i64 0, .slice none 0 0] 24)).alloc (.cells #[.int .i64 kd, .slice a1 n1 c1, .slice a2 n2 c2] 40)).alloc (.cells #[] 40)).drew _ _) _); refine lz_row (x := x) (w := (((x.alloc (.cells #[.int .i64 0, .int .i64 0, .slice none 0 0] 24)).alloc (.cells #[.int .i64 kd, .slice a1 n1 c1, .slice a2 n2 c2] 40)).alloc (.cells #[] 40)).drew) rfl (.tmp 124) (.tmp 126) rfl (x.heap.size + 2) (nbB_3 x (.cells #[.int .i64 0, .int .i64 0, .slice none 0 0] 24) (.cells #[.int .i64 kd, .slice a1 n1 c1, .slice a2 n2 c2] 40) (.cells #[] 40)) (nb3_3 x (.cells #[.int .i64 0, .int .i64 0, .slice none 0 0] 24) (.cells #[.int .i64 kd, .slice a1 n1 c1, .slice a2 n2 c2] 40) #[] 40 ) (by omega) rfl rfl HQ.out hq1000 ?_; intro v4 w4 O4 D4 T4 N4; have XB4 := hide (T4.out (x.heap.size + 1) _ _ (by omega) (nb2_3 x (.cells #[.int .i64 0, .int .i64 0, .slice none 0 0] 24) #[.int .i64 kd, .slice a1 n1 c1, .slice a2 n2 c2] 40 (.cells #[] 40))); have XA4 := hide (T4.out x.heap.size _ _ (by omega) (nb1_3 x #[.int .i64 0, .int .i64 0, .slice none 0 0] 24 (.cells #[.int .i64 kd, .slice a1 n1 c1, .slice a2 n2 c2] 40) (.cells #[] 40))); have NA4 := hide (N4.out x.heap.size ((nb1_3 x #[.int .i64 0, .int .i64 0, .slice none 0 0] 24 (.cells #[.int .i64 kd, .slice a1 n1 c1, .slice a2 n2 c2] 40) (.cells #[] 40))).lt (by omega)); have HGA := hide (show x.heap.size ≤ x.heap.size by omega); have Q14 := hide (show 0 < n1 → ∀ p, a1 = some p → v4.ownBlock ≠ some p.block ∧ p.block < x.heap.size from fun h0 p hp => ⟨fun e => by have h1 := (O4.out.lt _ e).1; have h2 := HI.out.row.off h0 p hp; omega, HI.out.row.off h0 p hp⟩); have Q24 := hide (show 0 < n2 → ∀ p, a2 = some p → v4.ownBlock ≠ some p.block ∧ p.block < x.heap.size from fun h0 p hp => ⟨fun e => by have h1 := (O4.out.lt _ e).1; have h2 := HK.out.row.off h0 p hp; omega, HK.out.row.off h0 p hp⟩))
      | (have BW := hide (show Below w4.heap.size w4 w4 from Below.refl _ _); (with_reducible show @ite _ _ _ (Oper.wp _ _ _ w4 _ _) _); refine step_append_fR (w := w4) rfl (.tmp 127) (.tmp 129) rfl (fun q => q < x.heap.size) x.heap.size (v := v4) (fs := fs) rfl (O4.out.later BW.out) _ (kd := kd) (a1 := a1) (n1 := n1) (c1 := c1) (a2 := a2) (n2 := n2) (c2 := c2) (nm := nm) (bs := bs) rfl XB4.out ((HI.out.later D4.out).later BW.out) ((HK.out.later D4.out).later BW.out) F.hn1 F.hn2 Q14.out Q24.out hql (Nat.le_trans D4.out.size BW.out.size) ?_; intro v6 w6 O6 G6 A6; have D6 := hide (show Below x.heap.size x w6 from (D4.out.trans (BW.out.mono D4.out.size)).grown G6.out (Nat.le_trans D4.out.size BW.out.size) (fun i hi => (O4.out.lt i hi).1)); obtain ⟨za, zc, hv, hzc, _⟩ := O6.out.fl; rw [List.length_append, List.length_singleton, HN.out] at hv hzc; subst hv; have ZCq := hide hzc; clear hzc; have XA5 := hide (show Bx w4 x.heap.size #[.int .i64 0, .int .i64 0, .slice none 0 0] 24 from XA4.out); have NA5 := hide (show v4.ownBlock ≠ some x.heap.size from NA4.out); have XA6 := hide (show Bx w6 x.heap.size #[.int .i64 0, .int .i64 0, .slice none 0 0] 24 from (G6.out.block x.heap.size XA5.out.lt (fun e => NA5.out e.symm)).trans XA5.out); have NA6 := hide (ne6 A6.out NA5.out XA5.out.lt); have HGA6 := hide (show x.heap.size ≤ x.heap.size from HGA.out); obtain ⟨r0, r1, r2⟩ := XA6.out.three; have rz := XA6.out.frozen)
      | (have BW := hide (show Below w4.heap.size w4 (w4.alloc (.cells #[.int .i64 kd, .slice a1 n1 c1, .slice a2 n2 c2] 40)) from below_alloc _ _); (with_reducible show @ite _ _ _ (Oper.wp _ _ _ (w4.alloc (.cells #[.int .i64 kd, .slice a1 n1 c1, .slice a2 n2 c2] 40)) _ _) _); refine step_append_fR (w := (w4.alloc (.cells #[.int .i64 kd, .slice a1 n1 c1, .slice a2 n2 c2] 40))) rfl (.tmp 127) (.tmp 129) rfl (fun q => q < x.heap.size) x.heap.size (v := v4) (fs := fs) rfl (O4.out.later BW.out) w4.heap.size (kd := kd) (a1 := a1) (n1 := n1) (c1 := c1) (a2 := a2) (n2 := n2) (c2 := c2) (nm := nm) (bs := bs) rfl (Bx.new w4 #[.int .i64 kd, .slice a1 n1 c1, .slice a2 n2 c2] 40) ((HI.out.later D4.out).later BW.out) ((HK.out.later D4.out).later BW.out) F.hn1 F.hn2 Q14.out Q24.out hql (Nat.le_trans D4.out.size BW.out.size) ?_; intro v6 w6 O6 G6 A6; have D6 := hide (show Below x.heap.size x w6 from (D4.out.trans (BW.out.mono D4.out.size)).grown G6.out (Nat.le_trans D4.out.size BW.out.size) (fun i hi => (O4.out.lt i hi).1)); obtain ⟨za, zc, hv, hzc, _⟩ := O6.out.fl; rw [List.length_append, List.length_singleton, HN.out] at hv hzc; subst hv; have ZCq := hide hzc; clear hzc; have XA5 := hide (show Bx (w4.alloc (.cells #[.int .i64 kd, .slice a1 n1 c1, .slice a2 n2 c2] 40)) x.heap.size #[.int .i64 0, .int .i64 0, .slice none 0 0] 24 from XA4.out.alloc (.cells #[.int .i64 kd, .slice a1 n1 c1, .slice a2 n2 c2] 40)); have NA5 := hide (show v4.ownBlock ≠ some x.heap.size from NA4.out); have XA6 := hide (show Bx w6 x.heap.size #[.int .i64 0, .int .i64 0, .slice none 0 0] 24 from (G6.out.block x.heap.size XA5.out.lt (fun e => NA5.out e.symm)).trans XA5.out); have NA6 := hide (ne6 A6.out NA5.out XA5.out.lt); have HGA6 := hide (show x.heap.size ≤ x.heap.size from HGA.out); obtain ⟨r0, r1, r2⟩ := XA6.out.three; have rz := XA6.out.frozen)
      | (have BW := hide (show Below w4.heap.size w4 w4 from Below.refl _ _); (with_reducible show @ite _ _ _ (Oper.wp _ _ _ w4 _ _) _); refine step_append_fR (w := w4) rfl (.tmp 127) (.tmp 129) rfl (fun q => q < x.heap.size) x.heap.size (v := v4) (fs := fs) rfl (O4.out.later BW.out) _ (kd := kd) (a1 := a1) (n1 := n1) (c1 := c1) (a2 := a2) (n2 := n2) (c2 := c2) (nm := nm) (bs := bs) rfl XB4.out ((HI.out.later D4.out).later BW.out) ((HK.out.later D4.out).later BW.out) F.hn1 F.hn2 Q14.out Q24.out hql (Nat.le_trans D4.out.size BW.out.size) ?_; intro v6 w6 O6 G6 A6; have D6 := hide (show Below x.heap.size x w6 from (D4.out.trans (BW.out.mono D4.out.size)).grown G6.out (Nat.le_trans D4.out.size BW.out.size) (fun i hi => (O4.out.lt i hi).1)); obtain ⟨za, zc, hv, hzc, _⟩ := O6.out.fl; rw [List.length_append, List.length_singleton, HN.out] at hv hzc; subst hv; have ZCq := hide hzc; clear hzc; have XA5 := hide (show Bx w4 (x.heap.size + 1) #[.int .i64 0, .int .i64 0, .slice none 0 0] 24 from XA4.out); have NA5 := hide (show v4.ownBlock ≠ some (x.heap.size + 1) from NA4.out); have XA6 := hide (show Bx w6 (x.heap.size + 1) #[.int .i64 0, .int .i64 0, .slice none 0 0] 24 from (G6.out.block (x.heap.size + 1) XA5.out.lt (fun e => NA5.out e.symm)).trans XA5.out); have NA6 := hide (ne6 A6.out NA5.out XA5.out.lt); have HGA6 := hide (show x.heap.size ≤ (x.heap.size + 1) from HGA.out); obtain ⟨r0, r1, r2⟩ := XA6.out.three; have rz := XA6.out.frozen)
      | (have BW := hide (show Below w4.heap.size w4 (w4.alloc (.cells #[.int .i64 kd, .slice a1 n1 c1, .slice a2 n2 c2] 40)) from below_alloc _ _); (with_reducible show @ite _ _ _ (Oper.wp _ _ _ (w4.alloc (.cells #[.int .i64 kd, .slice a1 n1 c1, .slice a2 n2 c2] 40)) _ _) _); refine step_append_fR (w := (w4.alloc (.cells #[.int .i64 kd, .slice a1 n1 c1, .slice a2 n2 c2] 40))) rfl (.tmp 127) (.tmp 129) rfl (fun q => q < x.heap.size) x.heap.size (v := v4) (fs := fs) rfl (O4.out.later BW.out) w4.heap.size (kd := kd) (a1 := a1) (n1 := n1) (c1 := c1) (a2 := a2) (n2 := n2) (c2 := c2) (nm := nm) (bs := bs) rfl (Bx.new w4 #[.int .i64 kd, .slice a1 n1 c1, .slice a2 n2 c2] 40) ((HI.out.later D4.out).later BW.out) ((HK.out.later D4.out).later BW.out) F.hn1 F.hn2 Q14.out Q24.out hql (Nat.le_trans D4.out.size BW.out.size) ?_; intro v6 w6 O6 G6 A6; have D6 := hide (show Below x.heap.size x w6 from (D4.out.trans (BW.out.mono D4.out.size)).grown G6.out (Nat.le_trans D4.out.size BW.out.size) (fun i hi => (O4.out.lt i hi).1)); obtain ⟨za, zc, hv, hzc, _⟩ := O6.out.fl; rw [List.length_append, List.length_singleton, HN.out] at hv hzc; subst hv; have ZCq := hide hzc; clear hzc; have XA5 := hide (show Bx (w4.alloc (.cells #[.int .i64 kd, .slice a1 n1 c1, .slice a2 n2 c2] 40)) (x.heap.size + 1) #[.int .i64 0, .int .i64 0, .slice none 0 0] 24 from XA4.out.alloc (.cells #[.int .i64 kd, .slice a1 n1 c1, .slice a2 n2 c2] 40)); have NA5 := hide (show v4.ownBlock ≠ some (x.heap.size + 1) from NA4.out); have XA6 := hide (show Bx w6 (x.heap.size + 1) #[.int .i64 0, .int .i64 0, .slice none 0 0] 24 from (G6.out.block (x.heap.size + 1) XA5.out.lt (fun e => NA5.out e.symm)).trans XA5.out); have NA6 := hide (ne6 A6.out NA5.out XA5.out.lt); have HGA6 := hide (show x.heap.size ≤ (x.heap.size + 1) from HGA.out); obtain ⟨r0, r1, r2⟩ := XA6.out.three; have rz := XA6.out.frozen)
      | (have BW := hide (show Below w4.heap.size w4 w4 from Below.refl _ _); (with_reducible show @ite _ _ _ (Oper.wp _ _ _ w4 _ _) _); refine step_append_fR (w := w4) rfl (.tmp 127) (.tmp 129) rfl (fun q => q < x.heap.size) x.heap.size (v := v4) (fs := fs) rfl (O4.out.later BW.out) _ (kd := kd) (a1 := a1) (n1 := n1) (c1 := c1) (a2 := a2) (n2 := n2) (c2 := c2) (nm := nm) (bs := bs) rfl XB4.out ((HI.out.later D4.out).later BW.out) ((HK.out.later D4.out).later BW.out) F.hn1 F.hn2 Q14.out Q24.out hql (Nat.le_trans D4.out.size BW.out.size) ?_; intro v6 w6 O6 G6 A6; have D6 := hide (show Below x.heap.size x w6 from (D4.out.trans (BW.out.mono D4.out.size)).grown G6.out (Nat.le_trans D4.out.size BW.out.size) (fun i hi => (O4.out.lt i hi).1)); obtain ⟨za, zc, hv, hzc, _⟩ := O6.out.fl; rw [List.length_append, List.length_singleton, HN.out] at hv hzc; subst hv; have ZCq := hide hzc; clear hzc; have XA5 := hide (show Bx w4 (x.heap.size + 2) #[.int .i64 0, .int .i64 0, .slice none 0 0] 24 from XA4.out); have NA5 := hide (show v4.ownBlock ≠ some (x.heap.size + 2) from NA4.out); have XA6 := hide (show Bx w6 (x.heap.size + 2) #[.int .i64 0, .int .i64 0, .slice none 0 0] 24 from (G6.out.block (x.heap.size + 2) XA5.out.lt (fun e => NA5.out e.symm)).trans XA5.out); have NA6 := hide (ne6 A6.out NA5.out XA5.out.lt); have HGA6 := hide (show x.heap.size ≤ (x.heap.size + 2) from HGA.out); obtain ⟨r0, r1, r2⟩ := XA6.out.three; have rz := XA6.out.frozen)
      | (have BW := hide (show Below w4.heap.size w4 (w4.alloc (.cells #[.int .i64 kd, .slice a1 n1 c1, .slice a2 n2 c2] 40)) from below_alloc _ _); (with_reducible show @ite _ _ _ (Oper.wp _ _ _ (w4.alloc (.cells #[.int .i64 kd, .slice a1 n1 c1, .slice a2 n2 c2] 40)) _ _) _); refine step_append_fR (w := (w4.alloc (.cells #[.int .i64 kd, .slice a1 n1 c1, .slice a2 n2 c2] 40))) rfl (.tmp 127) (.tmp 129) rfl (fun q => q < x.heap.size) x.heap.size (v := v4) (fs := fs) rfl (O4.out.later BW.out) w4.heap.size (kd := kd) (a1 := a1) (n1 := n1) (c1 := c1) (a2 := a2) (n2 := n2) (c2 := c2) (nm := nm) (bs := bs) rfl (Bx.new w4 #[.int .i64 kd, .slice a1 n1 c1, .slice a2 n2 c2] 40) ((HI.out.later D4.out).later BW.out) ((HK.out.later D4.out).later BW.out) F.hn1 F.hn2 Q14.out Q24.out hql (Nat.le_trans D4.out.size BW.out.size) ?_; intro v6 w6 O6 G6 A6; have D6 := hide (show Below x.heap.size x w6 from (D4.out.trans (BW.out.mono D4.out.size)).grown G6.out (Nat.le_trans D4.out.size BW.out.size) (fun i hi => (O4.out.lt i hi).1)); obtain ⟨za, zc, hv, hzc, _⟩ := O6.out.fl; rw [List.length_append, List.length_singleton, HN.out] at hv hzc; subst hv; have ZCq := hide hzc; clear hzc; have XA5 := hide (show Bx (w4.alloc (.cells #[.int .i64 kd, .slice a1 n1 c1, .slice a2 n2 c2] 40)) (x.heap.size + 2) #[.int .i64 0, .int .i64 0, .slice none 0 0] 24 from XA4.out.alloc (.cells #[.int .i64 kd, .slice a1 n1 c1, .slice a2 n2 c2] 40)); have NA5 := hide (show v4.ownBlock ≠ some (x.heap.size + 2) from NA4.out); have XA6 := hide (show Bx w6 (x.heap.size + 2) #[.int .i64 0, .int .i64 0, .slice none 0 0] 24 from (G6.out.block (x.heap.size + 2) XA5.out.lt (fun e => NA5.out e.symm)).trans XA5.out); have NA6 := hide (ne6 A6.out NA5.out XA5.out.lt); have HGA6 := hide (show x.heap.size ≤ (x.heap.size + 2) from HGA.out); obtain ⟨r0, r1, r2⟩ := XA6.out.three; have rz := XA6.out.frozen)
      | (have BW := hide (show Below w4.heap.size w4 w4 from Below.refl _ _); (with_reducible show @ite _ _ _ (Oper.wp _ _ _ w4 _ _) _); refine step_append_fR (w := w4) rfl (.tmp 127) (.tmp 129) rfl (fun q => q < x.heap.size) x.heap.size (v := v4) (fs := fs) rfl (O4.out.later BW.out) _ (kd := kd) (a1 := a1) (n1 := n1) (c1 := c1) (a2 := a2) (n2 := n2) (c2 := c2) (nm := nm) (bs := bs) rfl XB4.out ((HI.out.later D4.out).later BW.out) ((HK.out.later D4.out).later BW.out) F.hn1 F.hn2 Q14.out Q24.out hql (Nat.le_trans D4.out.size BW.out.size) ?_; intro v6 w6 O6 G6 A6; have D6 := hide (show Below x.heap.size x w6 from (D4.out.trans (BW.out.mono D4.out.size)).grown G6.out (Nat.le_trans D4.out.size BW.out.size) (fun i hi => (O4.out.lt i hi).1)); obtain ⟨za, zc, hv, hzc, _⟩ := O6.out.fl; rw [List.length_append, List.length_singleton, HN.out] at hv hzc; subst hv; have ZCq := hide hzc; clear hzc)
      | (have BW := hide (show Below w4.heap.size w4 (w4.alloc (.cells #[.int .i64 kd, .slice a1 n1 c1, .slice a2 n2 c2] 40)) from below_alloc _ _); (with_reducible show @ite _ _ _ (Oper.wp _ _ _ (w4.alloc (.cells #[.int .i64 kd, .slice a1 n1 c1, .slice a2 n2 c2] 40)) _ _) _); refine step_append_fR (w := (w4.alloc (.cells #[.int .i64 kd, .slice a1 n1 c1, .slice a2 n2 c2] 40))) rfl (.tmp 127) (.tmp 129) rfl (fun q => q < x.heap.size) x.heap.size (v := v4) (fs := fs) rfl (O4.out.later BW.out) w4.heap.size (kd := kd) (a1 := a1) (n1 := n1) (c1 := c1) (a2 := a2) (n2 := n2) (c2 := c2) (nm := nm) (bs := bs) rfl (Bx.new w4 #[.int .i64 kd, .slice a1 n1 c1, .slice a2 n2 c2] 40) ((HI.out.later D4.out).later BW.out) ((HK.out.later D4.out).later BW.out) F.hn1 F.hn2 Q14.out Q24.out hql (Nat.le_trans D4.out.size BW.out.size) ?_; intro v6 w6 O6 G6 A6; have D6 := hide (show Below x.heap.size x w6 from (D4.out.trans (BW.out.mono D4.out.size)).grown G6.out (Nat.le_trans D4.out.size BW.out.size) (fun i hi => (O4.out.lt i hi).1)); obtain ⟨za, zc, hv, hzc, _⟩ := O6.out.fl; rw [List.length_append, List.length_singleton, HN.out] at hv hzc; subst hv; have ZCq := hide hzc; clear hzc)
      | (have BW := hide (show Below w4.heap.size w4 (w4.alloc (.cells #[.int .i64 0, .int .i64 0, .slice none 0 0] 24)) from below_alloc _ _); (with_reducible show @ite _ _ _ (Oper.wp _ _ _ (w4.alloc (.cells #[.int .i64 0, .int .i64 0, .slice none 0 0] 24)) _ _) _); refine step_append_fR (w := (w4.alloc (.cells #[.int .i64 0, .int .i64 0, .slice none 0 0] 24))) rfl (.tmp 127) (.tmp 129) rfl (fun q => q < x.heap.size) x.heap.size (v := v4) (fs := fs) rfl (O4.out.later BW.out) _ (kd := kd) (a1 := a1) (n1 := n1) (c1 := c1) (a2 := a2) (n2 := n2) (c2 := c2) (nm := nm) (bs := bs) rfl (XB4.out.alloc (.cells #[.int .i64 0, .int .i64 0, .slice none 0 0] 24)) ((HI.out.later D4.out).later BW.out) ((HK.out.later D4.out).later BW.out) F.hn1 F.hn2 Q14.out Q24.out hql (Nat.le_trans D4.out.size BW.out.size) ?_; intro v6 w6 O6 G6 A6; have D6 := hide (show Below x.heap.size x w6 from (D4.out.trans (BW.out.mono D4.out.size)).grown G6.out (Nat.le_trans D4.out.size BW.out.size) (fun i hi => (O4.out.lt i hi).1)); obtain ⟨za, zc, hv, hzc, _⟩ := O6.out.fl; rw [List.length_append, List.length_singleton, HN.out] at hv hzc; subst hv; have ZCq := hide hzc; clear hzc; have XA5 := hide (show Bx (w4.alloc (.cells #[.int .i64 0, .int .i64 0, .slice none 0 0] 24)) w4.heap.size #[.int .i64 0, .int .i64 0, .slice none 0 0] 24 from Bx.new w4 #[.int .i64 0, .int .i64 0, .slice none 0 0] 24); have NA5 := hide (show v4.ownBlock ≠ some w4.heap.size from fun e => by have h1 := (O4.out.lt _ e).2; omega); have XA6 := hide (show Bx w6 w4.heap.size #[.int .i64 0, .int .i64 0, .slice none 0 0] 24 from (G6.out.block w4.heap.size XA5.out.lt (fun e => NA5.out e.symm)).trans XA5.out); have NA6 := hide (ne6 A6.out NA5.out XA5.out.lt); have HGA6 := hide (show x.heap.size ≤ w4.heap.size from D4.out.size); obtain ⟨r0, r1, r2⟩ := XA6.out.three; have rz := XA6.out.frozen)
      | (have BW := hide (show Below w4.heap.size w4 ((w4.alloc (.cells #[.int .i64 kd, .slice a1 n1 c1, .slice a2 n2 c2] 40)).alloc (.cells #[.int .i64 0, .int .i64 0, .slice none 0 0] 24)) from (below_alloc _ _).alloc (by simp) _); (with_reducible show @ite _ _ _ (Oper.wp _ _ _ ((w4.alloc (.cells #[.int .i64 kd, .slice a1 n1 c1, .slice a2 n2 c2] 40)).alloc (.cells #[.int .i64 0, .int .i64 0, .slice none 0 0] 24)) _ _) _); refine step_append_fR (w := ((w4.alloc (.cells #[.int .i64 kd, .slice a1 n1 c1, .slice a2 n2 c2] 40)).alloc (.cells #[.int .i64 0, .int .i64 0, .slice none 0 0] 24))) rfl (.tmp 127) (.tmp 129) rfl (fun q => q < x.heap.size) x.heap.size (v := v4) (fs := fs) rfl (O4.out.later BW.out) w4.heap.size (kd := kd) (a1 := a1) (n1 := n1) (c1 := c1) (a2 := a2) (n2 := n2) (c2 := c2) (nm := nm) (bs := bs) rfl ((Bx.new w4 #[.int .i64 kd, .slice a1 n1 c1, .slice a2 n2 c2] 40).alloc (.cells #[.int .i64 0, .int .i64 0, .slice none 0 0] 24)) ((HI.out.later D4.out).later BW.out) ((HK.out.later D4.out).later BW.out) F.hn1 F.hn2 Q14.out Q24.out hql (Nat.le_trans D4.out.size BW.out.size) ?_; intro v6 w6 O6 G6 A6; have D6 := hide (show Below x.heap.size x w6 from (D4.out.trans (BW.out.mono D4.out.size)).grown G6.out (Nat.le_trans D4.out.size BW.out.size) (fun i hi => (O4.out.lt i hi).1)); obtain ⟨za, zc, hv, hzc, _⟩ := O6.out.fl; rw [List.length_append, List.length_singleton, HN.out] at hv hzc; subst hv; have ZCq := hide hzc; clear hzc; have XA5 := hide (show Bx ((w4.alloc (.cells #[.int .i64 kd, .slice a1 n1 c1, .slice a2 n2 c2] 40)).alloc (.cells #[.int .i64 0, .int .i64 0, .slice none 0 0] 24)) (w4.heap.size + 1) #[.int .i64 0, .int .i64 0, .slice none 0 0] 24 from nw1_2 w4 (.cells #[.int .i64 kd, .slice a1 n1 c1, .slice a2 n2 c2] 40) #[.int .i64 0, .int .i64 0, .slice none 0 0] 24); have NA5 := hide (show v4.ownBlock ≠ some (w4.heap.size + 1) from fun e => by have h1 := (O4.out.lt _ e).2; omega); have XA6 := hide (show Bx w6 (w4.heap.size + 1) #[.int .i64 0, .int .i64 0, .slice none 0 0] 24 from (G6.out.block (w4.heap.size + 1) XA5.out.lt (fun e => NA5.out e.symm)).trans XA5.out); have NA6 := hide (ne6 A6.out NA5.out XA5.out.lt); have HGA6 := hide (show x.heap.size ≤ (w4.heap.size + 1) from Nat.le_trans D4.out.size (by omega)); obtain ⟨r0, r1, r2⟩ := XA6.out.three; have rz := XA6.out.frozen)
      | (have BW := hide (show Below w4.heap.size w4 ((w4.alloc (.cells #[.int .i64 0, .int .i64 0, .slice none 0 0] 24)).alloc (.cells #[.int .i64 kd, .slice a1 n1 c1, .slice a2 n2 c2] 40)) from (below_alloc _ _).alloc (by simp) _); (with_reducible show @ite _ _ _ (Oper.wp _ _ _ ((w4.alloc (.cells #[.int .i64 0, .int .i64 0, .slice none 0 0] 24)).alloc (.cells #[.int .i64 kd, .slice a1 n1 c1, .slice a2 n2 c2] 40)) _ _) _); refine step_append_fR (w := ((w4.alloc (.cells #[.int .i64 0, .int .i64 0, .slice none 0 0] 24)).alloc (.cells #[.int .i64 kd, .slice a1 n1 c1, .slice a2 n2 c2] 40))) rfl (.tmp 127) (.tmp 129) rfl (fun q => q < x.heap.size) x.heap.size (v := v4) (fs := fs) rfl (O4.out.later BW.out) (w4.heap.size + 1) (kd := kd) (a1 := a1) (n1 := n1) (c1 := c1) (a2 := a2) (n2 := n2) (c2 := c2) (nm := nm) (bs := bs) rfl (nw1_2 w4 (.cells #[.int .i64 0, .int .i64 0, .slice none 0 0] 24) #[.int .i64 kd, .slice a1 n1 c1, .slice a2 n2 c2] 40) ((HI.out.later D4.out).later BW.out) ((HK.out.later D4.out).later BW.out) F.hn1 F.hn2 Q14.out Q24.out hql (Nat.le_trans D4.out.size BW.out.size) ?_; intro v6 w6 O6 G6 A6; have D6 := hide (show Below x.heap.size x w6 from (D4.out.trans (BW.out.mono D4.out.size)).grown G6.out (Nat.le_trans D4.out.size BW.out.size) (fun i hi => (O4.out.lt i hi).1)); obtain ⟨za, zc, hv, hzc, _⟩ := O6.out.fl; rw [List.length_append, List.length_singleton, HN.out] at hv hzc; subst hv; have ZCq := hide hzc; clear hzc; have XA5 := hide (show Bx ((w4.alloc (.cells #[.int .i64 0, .int .i64 0, .slice none 0 0] 24)).alloc (.cells #[.int .i64 kd, .slice a1 n1 c1, .slice a2 n2 c2] 40)) w4.heap.size #[.int .i64 0, .int .i64 0, .slice none 0 0] 24 from (Bx.new w4 #[.int .i64 0, .int .i64 0, .slice none 0 0] 24).alloc (.cells #[.int .i64 kd, .slice a1 n1 c1, .slice a2 n2 c2] 40)); have NA5 := hide (show v4.ownBlock ≠ some w4.heap.size from fun e => by have h1 := (O4.out.lt _ e).2; omega); have XA6 := hide (show Bx w6 w4.heap.size #[.int .i64 0, .int .i64 0, .slice none 0 0] 24 from (G6.out.block w4.heap.size XA5.out.lt (fun e => NA5.out e.symm)).trans XA5.out); have NA6 := hide (ne6 A6.out NA5.out XA5.out.lt); have HGA6 := hide (show x.heap.size ≤ w4.heap.size from D4.out.size); obtain ⟨r0, r1, r2⟩ := XA6.out.three; have rz := XA6.out.frozen))
  all_goals go_wp2_with fail
  all_goals first
    | exact Met.intro (lt14_A F D XX VX D6 O6 NA6 HGA6 XA6 ZCq)
    | exact Met.intro (lt14_N F D XX VX D6 O6 ZCq)

end Go.Proofs.Ytfgonmgmoeoedaa

/-
  The law LinkSays in parts: what is offered.
-/
namespace Go.Proofs.Ytfgonmgmoeoedaa
open Go.RowKit

set_option maxHeartbeats 16000000 in
set_option maxRecDepth 100000 in
theorem lt13 {w v : World} {ses base : Int} {qa : Option Addr} {qn qc : Nat} {fs : List Fr} {kd : Int} {a1 : Option Addr} {n1 c1 : Nat} {a2 : Option Addr} {n2 c2 : Nat} {nm bs : List Int} {la : Option Addr} {ln lc : Nat} {u0 u1 u4 u8 u9 u10 u11 u13 u14 u15 u16 u17 u18 u19 u20 u21 u22 u23 u24 u25 u26 u27 u28 u29 u30 u31 u32 u33 u34 u35 u36 u37 u38 u39 u40 u41 u42 u43 u44 u45 u46 u47 u48 u49 u50 u51 u52 u53 u54 u55 u56 u57 u58 u59 u60 u61 u62 u63 u64 u65 u66 u67 u68 u69 u70 u71 u72 u73 u74 u75 u76 u77 u78 u79 u80 u81 u82 u83 u84 u85 u86 u87 u88 u89 u90 u91 u92 u93 u94 u95 u96 u97 u98 u99 u100 u101 u102 u103 u104 u105 u106 u107 u108 u109 u110 u111 u112 u113 u114 u115 u116 u117 u118 u119 u120 u121 u122 u123 u124 u125 u126 u127 u128 u129 u130 u131 u132 u133 u134 u135 u136 u137 u138 : Value} {x : World} {gx : Nat} {p0 p1 p2 : Value} (F : Lf w v ses base qa qn qc fs kd a1 n1 c1 a2 n2 c2 nm bs la ln lc) (D : Hid (Below v.heap.size v x)) (XX : Hid (Bx x gx #[p0, p1, p2] 24)) (VX : Hid (((Mx.omay ⟨ses, base, fs⟩ ⟨kd, nm, n2, bs⟩) ≠ 0 ∧ SdV x (.agg #[p0, p1, p2]) ⟨0, 0, []⟩) ∨ ((Mx.omay ⟨ses, base, fs⟩ ⟨kd, nm, n2, bs⟩) = 0 ∧ SdV x (.agg #[p0, p1, p2]) ⟨ses, base, fs ++ [⟨kd, nm, n2, bs⟩]⟩))):
    TailL 13 w ⟨#[u0, u1, .pointer (some ⟨w.heap.size, 0, none⟩), .pointer (some ⟨(w.heap.size + 1), 0, none⟩), u4, .int .i64 (Mx.omay ⟨ses, base, fs⟩ ⟨kd, nm, n2, bs⟩), .slice la ln lc, errV (Mx.omay ⟨ses, base, fs⟩ ⟨kd, nm, n2, bs⟩), u8, u9, u10, u11, .pointer (some ⟨gx, 0, none⟩), u13, u14, u15, u16, u17, u18, u19, u20, u21, u22, u23, u24, u25, u26, u27, u28, u29, u30, u31, u32, u33, u34, u35, u36, u37, u38, u39, u40, u41, u42, u43, u44, u45, u46, u47, u48, u49, u50, u51, u52, u53, u54, u55, u56, u57, u58, u59, u60, u61, u62, u63, u64, u65, u66, u67, u68, u69, u70, u71, u72, u73, u74, u75, u76, u77, u78, u79, u80, u81, u82, u83, u84, u85, u86, u87, u88, u89, u90, u91, u92, u93, u94, u95, u96, u97, u98, u99, u100, u101, u102, u103, u104, u105, u106, u107, u108, u109, u110, u111, u112, u113, u114, u115, u116, u117, u118, u119, u120, u121, u122, u123, u124, u125, u126, u127, u128, u129, u130, u131, u132, u133, u134, u135, u136, u137, u138], []⟩ x := by
  refine tailL_step rfl ?_
  intro K hK
  by_cases hm : (Mx.omay ⟨ses, base, fs⟩ ⟨kd, nm, n2, bs⟩) = 0
  · have V := hide (show SdV x (.agg #[p0, p1, p2]) ⟨ses, base, fs ++ [⟨kd, nm, n2, bs⟩]⟩ by
      rcases VX.out with ⟨h, _⟩ | ⟨_, h⟩
      · exact absurd hm h
      · exact h)
    rw [hm, errV_zero]
    clear hm VX
    go_wp2_with fail
    exact Met.intro (lt14 F D XX V)
  · have V := hide (show SdV x (.agg #[p0, p1, p2]) ⟨0, 0, []⟩ by
      rcases VX.out with ⟨_, h⟩ | ⟨h, _⟩
      · exact h
      · exact absurd h hm)
    have hmb : ((Mx.omay ⟨ses, base, fs⟩ ⟨kd, nm, n2, bs⟩) != 0) = true := by simpa using hm
    obtain ⟨ra, rn, rc, hv, hfl, _⟩ := V.out
    simp only [Value.agg.injEq, Array.mk.injEq, List.cons.injEq, and_true] at hv
    obtain ⟨rfl, rfl, rfl⟩ := hv
    have BF := hide (F.bl.trans (D.out.mono F.bl.size))
    obtain ⟨g0, g1, g2⟩ := XX.out.three
    have H1 := hide hfl
    have hrn : rn ≤ 1000 := by have h3 : ([] : List Fr).length = rn := hfl.1; simp at h3; omega
    clear hfl F VX V hm
    go_wp2_with fail
    refine (is_any (Mx.omay ⟨ses, base, fs⟩ ⟨kd, nm, n2, bs⟩) (Mx.omay ⟨ses, base, fs⟩ ⟨kd, nm, n2, bs⟩) x).mono ?_
    rintro e wz ⟨rfl, hz⟩
    obtain rfl := hz.symm
    clear hz
    rw [beq_self_eq_true]
    go_wp2_with fail
    refine (sameSender_true 0 0 ra none rn rc 0 0 [] x H1.out (FL.nil _) hrn).mono ?_
    rintro e w2 ⟨rfl, E⟩
    go_wp2_with fail
    go_ret
    exact ⟨rfl, BF.out.trans (E.mono BF.out.size)⟩

set_option maxHeartbeats 16000000 in
set_option maxRecDepth 100000 in
theorem lt12 {w v : World} {ses base : Int} {qa : Option Addr} {qn qc : Nat} {fs : List Fr} {kd : Int} {a1 : Option Addr} {n1 c1 : Nat} {a2 : Option Addr} {n2 c2 : Nat} {nm bs : List Int} {la : Option Addr} {ln lc : Nat} {u0 u1 u4 u7 u8 u9 u10 u11 u12 u13 u14 u15 u16 u17 u18 u19 u20 u21 u22 u23 u24 u25 u26 u27 u28 u29 u30 u31 u32 u33 u34 u35 u36 u37 u38 u39 u40 u41 u42 u43 u44 u45 u46 u47 u48 u49 u50 u51 u52 u53 u54 u55 u56 u57 u58 u59 u60 u61 u62 u63 u64 u65 u66 u67 u68 u69 u70 u71 u72 u73 u74 u75 u76 u77 u78 u79 u80 u81 u82 u83 u84 u85 u86 u87 u88 u89 u90 u91 u92 u93 u94 u95 u96 u97 u98 u99 u100 u101 u102 u103 u104 u105 u106 u107 u108 u109 u110 u111 u112 u113 u114 u115 u116 u117 u118 u119 u120 u121 u122 u123 u124 u125 u126 u127 u128 u129 u130 u131 u132 u133 u134 u135 u136 u137 u138 : Value} {x : World} (F : Lf w v ses base qa qn qc fs kd a1 n1 c1 a2 n2 c2 nm bs la ln lc) (D : Hid (Below v.heap.size v x)) :
    TailL 12 w ⟨#[u0, u1, .pointer (some ⟨w.heap.size, 0, none⟩), .pointer (some ⟨(w.heap.size + 1), 0, none⟩), u4, .int .i64 (Mx.omay ⟨ses, base, fs⟩ ⟨kd, nm, n2, bs⟩), .slice la ln lc, u7, u8, u9, u10, u11, u12, u13, u14, u15, u16, u17, u18, u19, u20, u21, u22, u23, u24, u25, u26, u27, u28, u29, u30, u31, u32, u33, u34, u35, u36, u37, u38, u39, u40, u41, u42, u43, u44, u45, u46, u47, u48, u49, u50, u51, u52, u53, u54, u55, u56, u57, u58, u59, u60, u61, u62, u63, u64, u65, u66, u67, u68, u69, u70, u71, u72, u73, u74, u75, u76, u77, u78, u79, u80, u81, u82, u83, u84, u85, u86, u87, u88, u89, u90, u91, u92, u93, u94, u95, u96, u97, u98, u99, u100, u101, u102, u103, u104, u105, u106, u107, u108, u109, u110, u111, u112, u113, u114, u115, u116, u117, u118, u119, u120, u121, u122, u123, u124, u125, u126, u127, u128, u129, u130, u131, u132, u133, u134, u135, u136, u137, u138], []⟩ x := by
  refine tailL_step rfl ?_
  intro K hK
  obtain ⟨x0, x1, x2⟩ := (F.xb.later D.out F.xb.lt).three
  obtain ⟨f0, f1, f2⟩ := (F.xf.later D.out F.xf.lt).three
  have HQ := hide (F.hq.later D.out)
  have HI := hide (F.hi.later D.out)
  have HK := hide (F.hk.later D.out)
  go_wp2_with fail
  refine (loffer_any ses base qa qn qc fs kd a1 a2 n1 c1 n2 c2 nm bs x HQ.out HI.out HK.out).mono ?_
  rintro e w2 ⟨v2, rfl, V2, E⟩
  have D2 := hide (D.out.trans (E.out.mono D.out.size))
  obtain ⟨p0, p1, p2, hv⟩ : ∃ p0 p1 p2, v2 = .agg #[p0, p1, p2] := by
    rcases V2.out with ⟨_, ra, rn, rc, hv, _⟩ | ⟨_, ra, rn, rc, hv, _⟩
    · exact ⟨_, _, _, hv⟩
    · exact ⟨_, _, _, hv⟩
  subst hv
  obtain ⟨W3, hW3⟩ : ∃ W3 : World, Hid (W3 = w2.alloc (.cells #[p0, p1, p2] 24)) := ⟨_, rfl⟩
  have D3 := hide (show Below w2.heap.size w2 W3 by rw [hW3.out]; exact below_alloc _ _)
  have XX := hide (show Bx W3 w2.heap.size #[p0, p1, p2] 24 by rw [hW3.out]; exact Bx.new w2 _ _)
  have V3 := hide (show (((Mx.omay ⟨ses, base, fs⟩ ⟨kd, nm, n2, bs⟩) ≠ 0 ∧ SdV W3 (.agg #[p0, p1, p2]) ⟨0, 0, []⟩) ∨ ((Mx.omay ⟨ses, base, fs⟩ ⟨kd, nm, n2, bs⟩) = 0 ∧ SdV W3 (.agg #[p0, p1, p2]) ⟨ses, base, fs ++ [⟨kd, nm, n2, bs⟩]⟩)) by
    rcases V2.out with ⟨h, hs⟩ | ⟨h, hs⟩
    · exact .inl ⟨h, hs.later D3.out⟩
    · exact .inr ⟨h, hs.later D3.out⟩)
  have D4 := hide (D2.out.trans (D3.out.mono D2.out.size))
  clear x0 x1 x2 f0 f1 f2 V2
  obtain ⟨ra, rn, rc, hv, _⟩ : ∃ ra rn rc, p2 = .slice ra rn rc ∧ True := by
    rcases V3.out with ⟨_, ra, rn, rc, hv, _⟩ | ⟨_, ra, rn, rc, hv, _⟩
    all_goals
      simp only [Value.agg.injEq, Array.mk.injEq, List.cons.injEq, and_true] at hv
      exact ⟨ra, rn, rc, hv.2.2, trivial⟩
  obtain ⟨i0, hv0⟩ : ∃ i0 : Int, p0 = .int .i64 i0 := by
    rcases V3.out with ⟨_, ra, rn, rc, hv, _⟩ | ⟨_, ra, rn, rc, hv, _⟩
    all_goals
      simp only [Value.agg.injEq, Array.mk.injEq, List.cons.injEq, and_true] at hv
      exact ⟨_, hv.1⟩
  obtain ⟨i1, hv1⟩ : ∃ i1 : Int, p1 = .int .i64 i1 := by
    rcases V3.out with ⟨_, ra, rn, rc, hv, _⟩ | ⟨_, ra, rn, rc, hv, _⟩
    all_goals
      simp only [Value.agg.injEq, Array.mk.injEq, List.cons.injEq, and_true] at hv
      exact ⟨_, hv.2.1⟩
  subst hv hv0 hv1
  go_wp2_with fail
  rw [← hW3.out]
  exact Met.intro (lt13 F D4 XX V3)

set_option maxHeartbeats 16000000 in
set_option maxRecDepth 100000 in
theorem lt11 {w v : World} {ses base : Int} {qa : Option Addr} {qn qc : Nat} {fs : List Fr} {kd : Int} {a1 : Option Addr} {n1 c1 : Nat} {a2 : Option Addr} {n2 c2 : Nat} {nm bs : List Int} {la : Option Addr} {ln lc : Nat} {u0 u1 u4 u7 u8 u9 u10 u11 u12 u13 u14 u15 u16 u17 u18 u19 u20 u21 u22 u23 u24 u25 u26 u27 u28 u29 u30 u31 u32 u33 u34 u35 u36 u37 u38 u39 u40 u41 u42 u43 u44 u45 u46 u47 u48 u49 u50 u51 u52 u53 u54 u55 u56 u57 u58 u59 u60 u61 u62 u63 u64 u65 u66 u67 u68 u69 u70 u71 u72 u73 u74 u75 u76 u77 u78 u79 u80 u81 u82 u83 u84 u85 u86 u87 u88 u89 u90 u91 u92 u93 u94 u95 u96 u97 u98 u99 u100 u101 u102 u103 u104 u105 u106 u107 u108 u109 u110 u111 u112 u113 u114 u115 u116 u117 u118 u119 u120 u121 u122 u123 u124 u125 u126 u127 u128 u129 u130 u131 u132 u133 u134 u135 u136 u137 u138 : Value} {x : World} {e : Int} (F : Lf w v ses base qa qn qc fs kd a1 n1 c1 a2 n2 c2 nm bs la ln lc) (D : Hid (Below v.heap.size v x)) (HE : Hid (e = (if (Mx.sdmay ⟨ses, base, fs⟩) = 0 then Mx.mmay ⟨kd, nm, n2, bs⟩ else (Mx.sdmay ⟨ses, base, fs⟩)))) :
    TailL 11 w ⟨#[u0, u1, .pointer (some ⟨w.heap.size, 0, none⟩), .pointer (some ⟨(w.heap.size + 1), 0, none⟩), u4, .int .i64 e, .slice la ln lc, u7, u8, u9, u10, u11, u12, u13, u14, u15, u16, u17, u18, u19, u20, u21, u22, u23, u24, u25, u26, u27, u28, u29, u30, u31, u32, u33, u34, u35, u36, u37, u38, u39, u40, u41, u42, u43, u44, u45, u46, u47, u48, u49, u50, u51, u52, u53, u54, u55, u56, u57, u58, u59, u60, u61, u62, u63, u64, u65, u66, u67, u68, u69, u70, u71, u72, u73, u74, u75, u76, u77, u78, u79, u80, u81, u82, u83, u84, u85, u86, u87, u88, u89, u90, u91, u92, u93, u94, u95, u96, u97, u98, u99, u100, u101, u102, u103, u104, u105, u106, u107, u108, u109, u110, u111, u112, u113, u114, u115, u116, u117, u118, u119, u120, u121, u122, u123, u124, u125, u126, u127, u128, u129, u130, u131, u132, u133, u134, u135, u136, u137, u138], []⟩ x := by
  refine tailL_step rfl ?_
  intro K hK
  obtain ⟨x0, x1, x2⟩ := (F.xb.later D.out F.xb.lt).three
  have HN := hide F.hq.1
  have HOM := hide (show (Mx.omay ⟨ses, base, fs⟩ ⟨kd, nm, n2, bs⟩) = if (Mx.sdmay ⟨ses, base, fs⟩) = 0 then (if Mx.mmay ⟨kd, nm, n2, bs⟩ = 0 then (if qn = 64 ∨ 2147483647 ≤ base + (qn : Int) then 2 else 0) else Mx.mmay ⟨kd, nm, n2, bs⟩) else (Mx.sdmay ⟨ses, base, fs⟩) by
    unfold Mx.omay
    dsimp only
    rw [HN.out])
  have q100 := F.q100
  by_cases h1 : e = 0
  · have HZ := hide (show (Mx.sdmay ⟨ses, base, fs⟩) = 0 ∧ Mx.mmay ⟨kd, nm, n2, bs⟩ = 0 by
      have h2 := HE.out
      rw [h1] at h2
      split at h2
      · next h3 => exact ⟨h3, h2.symm⟩
      · next h3 => exact absurd h2.symm h3)
    have HOK := hide (Mx.sdmay_ok HZ.out.1)
    have hb0 : 0 ≤ base := HOK.out.1.2.2.1
    have hb1 : base ≤ 2147483647 := HOK.out.1.2.2.2
    have HO2 := hide (show (Mx.omay ⟨ses, base, fs⟩ ⟨kd, nm, n2, bs⟩) = if qn = 64 ∨ 2147483647 ≤ base + (qn : Int) then 2 else 0 by rw [HOM.out, if_pos HZ.out.1, if_pos HZ.out.2])
    have hwq : IntKind.i64.wrap (base + (qn : Int)) = base + (qn : Int) := by rw [IntWalk.i64_left, IntWalk.wrap64_in _ (by omega)]
    subst h1
    clear HE HOM
    by_cases h64 : qn = 64
    · have d64 : ((qn : Int) == 64) = true := by simpa using (show (qn : Int) = 64 by omega)
      have d64n : (qn == 64) = true := by simpa using h64
      have HO := hide (show (2 : Int) = (Mx.omay ⟨ses, base, fs⟩ ⟨kd, nm, n2, bs⟩) by rw [HO2.out, if_pos (.inl h64)])
      clear h64 HO2
      go_wp2_with fail
      rw [HO.out]
      exact Met.intro (lt12 F D)
    · have d64 : ((qn : Int) == 64) = false := by simpa using (show ¬ (qn : Int) = 64 by omega)
      have d64n : (qn == 64) = false := by simpa using h64
      by_cases hbq : 2147483647 ≤ base + (qn : Int)
      · have dbq : decide (2147483647 ≤ base + (qn : Int)) = true := by simpa using hbq
        have HO := hide (show (2 : Int) = (Mx.omay ⟨ses, base, fs⟩ ⟨kd, nm, n2, bs⟩) by rw [HO2.out, if_pos (.inr hbq)])
        clear h64 hbq HO2
        go_wp2_with fail
        rw [HO.out]
        exact Met.intro (lt12 F D)
      · have dbq : decide (2147483647 ≤ base + (qn : Int)) = false := by simpa using hbq
        have HO := hide (show (0 : Int) = (Mx.omay ⟨ses, base, fs⟩ ⟨kd, nm, n2, bs⟩) by rw [HO2.out, if_neg (by omega)])
        clear h64 hbq HO2
        go_wp2_with fail
        rw [HO.out]
        exact Met.intro (lt12 F D)
  · have d1 : (e == 0) = false := by simpa using h1
    have HO := hide (show e = (Mx.omay ⟨ses, base, fs⟩ ⟨kd, nm, n2, bs⟩) by
      rw [HOM.out]
      have h2 := HE.out
      rw [h2]
      split
      · next h3 =>
        rw [if_neg]
        intro h4
        rw [if_pos h3] at h2
        exact h1 (h2.trans h4)
      · rfl)
    clear HE HOM h1
    go_wp2_with fail
    rw [HO.out]
    exact Met.intro (lt12 F D)

set_option maxHeartbeats 16000000 in
set_option maxRecDepth 100000 in
theorem lt10 {w v : World} {ses base : Int} {qa : Option Addr} {qn qc : Nat} {fs : List Fr} {kd : Int} {a1 : Option Addr} {n1 c1 : Nat} {a2 : Option Addr} {n2 c2 : Nat} {nm bs : List Int} {la : Option Addr} {ln lc : Nat} {u0 u1 u4 u7 u8 u9 u10 u11 u12 u13 u14 u15 u16 u17 u18 u19 u20 u21 u22 u23 u24 u25 u26 u27 u28 u29 u30 u31 u32 u33 u34 u35 u36 u37 u38 u39 u40 u41 u42 u43 u44 u45 u46 u47 u48 u49 u50 u51 u52 u53 u54 u55 u56 u57 u58 u59 u60 u61 u62 u63 u64 u65 u66 u67 u68 u69 u70 u71 u72 u73 u74 u75 u76 u77 u78 u79 u80 u81 u82 u83 u84 u85 u86 u87 u88 u89 u90 u91 u92 u93 u94 u95 u96 u97 u98 u99 u100 u101 u102 u103 u104 u105 u106 u107 u108 u109 u110 u111 u112 u113 u114 u115 u116 u117 u118 u119 u120 u121 u122 u123 u124 u125 u126 u127 u128 u129 u130 u131 u132 u133 u134 u135 u136 u137 u138 : Value} {x : World} {e5 : Int} (F : Lf w v ses base qa qn qc fs kd a1 n1 c1 a2 n2 c2 nm bs la ln lc) (D : Hid (Below v.heap.size v x)) (H5 : Hid (e5 = (Mx.sdmay ⟨ses, base, fs⟩))) :
    TailL 10 w ⟨#[u0, u1, .pointer (some ⟨w.heap.size, 0, none⟩), .pointer (some ⟨(w.heap.size + 1), 0, none⟩), u4, .int .i64 e5, .slice la ln lc, u7, u8, u9, u10, u11, u12, u13, u14, u15, u16, u17, u18, u19, u20, u21, u22, u23, u24, u25, u26, u27, u28, u29, u30, u31, u32, u33, u34, u35, u36, u37, u38, u39, u40, u41, u42, u43, u44, u45, u46, u47, u48, u49, u50, u51, u52, u53, u54, u55, u56, u57, u58, u59, u60, u61, u62, u63, u64, u65, u66, u67, u68, u69, u70, u71, u72, u73, u74, u75, u76, u77, u78, u79, u80, u81, u82, u83, u84, u85, u86, u87, u88, u89, u90, u91, u92, u93, u94, u95, u96, u97, u98, u99, u100, u101, u102, u103, u104, u105, u106, u107, u108, u109, u110, u111, u112, u113, u114, u115, u116, u117, u118, u119, u120, u121, u122, u123, u124, u125, u126, u127, u128, u129, u130, u131, u132, u133, u134, u135, u136, u137, u138], []⟩ x := by
  refine tailL_step rfl ?_
  intro K hK
  obtain rfl := H5.out
  obtain ⟨f0, f1, f2⟩ := (F.xf.later D.out F.xf.lt).three
  by_cases h1 : (Mx.sdmay ⟨ses, base, fs⟩) = 0
  · have HE := hide (show Mx.mmay ⟨kd, nm, n2, bs⟩ = (if (Mx.sdmay ⟨ses, base, fs⟩) = 0 then Mx.mmay ⟨kd, nm, n2, bs⟩ else (Mx.sdmay ⟨ses, base, fs⟩)) by rw [if_pos h1])
    have HI := hide (F.hi.later D.out)
    have hk2 : n2 ≤ maxLen := F.hk.2.1
    rw [h1]
    go_wp2_with fail
    refine (messageMay_any kd a1 a2 n1 c1 n2 c2 nm bs x HI.out hk2).mono ?_
    rintro e w2 ⟨rfl, E⟩
    have D2 := hide (D.out.trans (E.mono D.out.size))
    clear f0 f1 f2
    go_wp2_with fail
    exact Met.intro (lt11 F D2 HE)
  · have HE := hide (show (Mx.sdmay ⟨ses, base, fs⟩) = (if (Mx.sdmay ⟨ses, base, fs⟩) = 0 then Mx.mmay ⟨kd, nm, n2, bs⟩ else (Mx.sdmay ⟨ses, base, fs⟩)) by rw [if_neg h1])
    have d1 : ((Mx.sdmay ⟨ses, base, fs⟩) == 0) = false := by simpa using h1
    clear h1
    go_wp2_with fail
    exact Met.intro (lt11 F D HE)

end Go.Proofs.Ytfgonmgmoeoedaa

/-
  The law LinkSays in parts: what is sent.
-/
namespace Go.Proofs.Ytfgonmgmoeoedaa
open Go.RowKit

theorem Lf.byt {w v : World} {ses base : Int} {qa : Option Addr} {qn qc : Nat} {fs : List Fr} {kd : Int} {a1 : Option Addr} {n1 c1 : Nat} {a2 : Option Addr} {n2 c2 : Nat} {nm bs : List Int} {la : Option Addr} {ln lc : Nat} (F : Lf w v ses base qa qn qc fs kd a1 n1 c1 a2 n2 c2 nm bs la ln lc) : ∀ l ∈ (Mx.sendL ⟨ses, base, fs⟩), ∀ y ∈ l, 0 ≤ y ∧ y ≤ 255 := by
  intro l hl
  unfold Mx.sendL at hl
  split at hl
  · next he =>
    unfold Mx.wires at hl
    obtain ⟨i, hi, rfl⟩ := List.mem_map.1 hl
    rw [List.mem_range] at hi
    have hsm : (Mx.sdmay ⟨ses, base, fs⟩) = 0 := by
      unfold Mx.sendE at he
      split at he
      · next h => exact h
      · next h => exact absurd he h
    have hmax : base + (i : Int) ≤ 2147483647 := by
      unfold Mx.sendE at he
      rw [if_pos hsm] at he
      split at he
      · omega
      · next h =>
        unfold Mx.winN at hi h
        dsimp only at hi h
        omega
    have hiq : i < qn := by
      have h1 := F.hq.1
      unfold Mx.winN at hi
      dsimp only at hi
      omega
    obtain ⟨b, off, f, a1', n1', c1', a2', c2', _, _, hf, _, _, _, _, hbk, _⟩ := F.hq.at_ i hiq
    obtain ⟨hs1, _, hs3⟩ := Mx.sdmay_ok hsm
    have hmf := hs3 f (List.mem_of_getElem? hf)
    have hw := Mx.may_wire (x := base + (i : Int)) hmf ⟨hs1.1, hs1.2.1⟩ (by have h1 : 0 ≤ base := hs1.2.2.1; omega)
    rw [if_neg (by omega)] at hw
    rw [Mx.wireAt_some (s := ⟨ses, base, fs⟩) hf]
    exact packB_byte hbk hw
  · cases hl

set_option maxHeartbeats 16000000 in
set_option maxRecDepth 100000 in
theorem lt9 {w v : World} {ses base : Int} {qa : Option Addr} {qn qc : Nat} {fs : List Fr} {kd : Int} {a1 : Option Addr} {n1 c1 : Nat} {a2 : Option Addr} {n2 c2 : Nat} {nm bs : List Int} {la : Option Addr} {ln lc : Nat} {u0 u1 u4 u7 u8 u10 u11 u12 u13 u14 u15 u16 u17 u18 u19 u20 u21 u22 u23 u24 u25 u26 u27 u28 u29 u30 u31 u32 u33 u34 u35 u36 u37 u38 u39 u40 u41 u42 u43 u44 u45 u46 u47 u48 u49 u50 u51 u52 u53 u54 u55 u56 u57 u58 u59 u60 u61 u62 u63 u64 u65 u66 u67 u68 u69 u70 u71 u72 u73 u74 u75 u76 u77 u78 u79 u80 u81 u82 u83 u84 u85 u86 u87 u88 u89 u90 u91 u92 u93 u94 u95 u96 u97 u98 u99 u100 u101 u102 u103 u104 u105 u106 u107 u108 u109 u110 u111 u112 u113 u114 u115 u116 u117 u118 u119 u120 u121 u122 u123 u124 u125 u126 u127 u128 u129 u130 u131 u132 u133 u134 u135 u136 u137 u138 : Value} {x : World} {wa : Option Addr} {wc : Nat} {e5 : Int} (F : Lf w v ses base qa qn qc fs kd a1 n1 c1 a2 n2 c2 nm bs la ln lc) (D : Hid (Below v.heap.size v x)) (BW : Hid (Bn x wa ln (Mx.sendL ⟨ses, base, fs⟩))) (H5 : Hid (e5 = (Mx.sdmay ⟨ses, base, fs⟩))) :
    TailL 9 w ⟨#[u0, u1, .pointer (some ⟨w.heap.size, 0, none⟩), .pointer (some ⟨(w.heap.size + 1), 0, none⟩), u4, .int .i64 e5, .slice la ln lc, u7, u8, .slice wa ln wc, u10, u11, u12, u13, u14, u15, u16, u17, u18, u19, u20, u21, u22, u23, u24, u25, u26, u27, u28, u29, u30, u31, u32, u33, u34, u35, u36, u37, u38, u39, u40, u41, u42, u43, u44, u45, u46, u47, u48, u49, u50, u51, u52, u53, u54, u55, u56, u57, u58, u59, u60, u61, u62, u63, u64, u65, u66, u67, u68, u69, u70, u71, u72, u73, u74, u75, u76, u77, u78, u79, u80, u81, u82, u83, u84, u85, u86, u87, u88, u89, u90, u91, u92, u93, u94, u95, u96, u97, u98, u99, u100, u101, u102, u103, u104, u105, u106, u107, u108, u109, u110, u111, u112, u113, u114, u115, u116, u117, u118, u119, u120, u121, u122, u123, u124, u125, u126, u127, u128, u129, u130, u131, u132, u133, u134, u135, u136, u137, u138], []⟩ x := by
  refine tailL_step rfl ?_
  intro K hK
  have HB := hide F.byt
  have hln : ln ≤ maxLen := F.hs.2.1
  rw [maxLen_val] at hln
  have HS := hide F.hs
  go_wp2_with fail
  go_loopw [11] (fun t wr => ∃ k : Nat, k ≤ ln ∧ t = .int .i64 (k : Int) ∧ Hid (Below x.heap.size x wr)) (fun t _ => ln - (intOf t).toNat)
  case atStart => exact ⟨0, by omega, rfl, Below.refl _ _⟩
  case round =>
    obtain ⟨k, hk, rfl, hB⟩ := hrel
    have DR := hide (D.out.trans (hB.out.mono D.out.size))
    by_cases hlt : k < ln
    · obtain ⟨b, off, l, ai, ni, ci, hab, hblt, hx, e0, hl1, _⟩ := (HS.out.later DR.out).at_ k hlt
      obtain ⟨b', off', l', aj, nj, cj, hab', hblt', hx', e1, hl2, _⟩ := (BW.out.later hB.out).at_ k hlt
      rw [hx] at hx'
      cases hx'
      subst hab hab'
      have Y1 := hide (hl1.bytes (HB.out l (List.mem_of_getElem? hx)))
      have Y2 := hide (hl2.bytes (HB.out l (List.mem_of_getElem? hx)))
      clear hx hl1 hl2
      go_upto_region 21 with fail
      go_region_held3 (fun w' => w'.cell? ⟨b, off + k, none⟩ = some (.slice ai ni ci) ∧ w'.cell? ⟨b', off' + k, none⟩ = some (.slice aj nj cj))
        (first
          | with_reducible exact ⟨e0, e1⟩
          | (simp only [cell_drew]; with_reducible exact ⟨e0, e1⟩)
          | with_reducible exact ⟨z0, z1⟩
          | (simp only [cell_drewN]; with_reducible exact ⟨e0, e1⟩))
        (first
          | (go_at_call 14; refine (sameBytes_any ai aj ni ci nj cj l l wr.drew (Y1.out.later (Below.refl _ _).drew) (Y2.out.later (Below.refl _ _).drew) rfl).mono ?_; rintro e w2 ⟨rfl, q, hq⟩; have D2 := hide (show Below wr.heap.size wr w2 by rw [hq]; exact below_drewN (Below.refl _ _).drew q); clear hq; have z0 := (D2.out.cell (p := ⟨b, off + k, none⟩) hblt).trans e0; have z1 := (D2.out.cell (p := ⟨b', off' + k, none⟩) hblt').trans e1))
      all_goals
        have E2 := hide (hB.out.trans (D2.out.mono hB.out.size))
        go_wp2_with fail
        go_roundw
        case rel => exact ⟨k + 1, by omega, by go_num, E2⟩
        case measure => simp [intOf]; omega
    · obtain rfl : k = ln := by omega
      go_wp2_with fail
      exact Met.intro (lt10 F DR H5)

set_option maxHeartbeats 16000000 in
set_option maxRecDepth 100000 in
theorem lt8 {w v : World} {ses base : Int} {qa : Option Addr} {qn qc : Nat} {fs : List Fr} {kd : Int} {a1 : Option Addr} {n1 c1 : Nat} {a2 : Option Addr} {n2 c2 : Nat} {nm bs : List Int} {la : Option Addr} {ln lc : Nat} {u0 u1 u4 u10 u11 u12 u13 u14 u15 u16 u17 u18 u19 u20 u21 u22 u23 u24 u25 u26 u27 u28 u29 u30 u31 u32 u33 u34 u35 u36 u37 u38 u39 u40 u41 u42 u43 u44 u45 u46 u47 u48 u49 u50 u51 u52 u53 u54 u55 u56 u57 u58 u59 u60 u61 u62 u63 u64 u65 u66 u67 u68 u69 u70 u71 u72 u73 u74 u75 u76 u77 u78 u79 u80 u81 u82 u83 u84 u85 u86 u87 u88 u89 u90 u91 u92 u93 u94 u95 u96 u97 u98 u99 u100 u101 u102 u103 u104 u105 u106 u107 u108 u109 u110 u111 u112 u113 u114 u115 u116 u117 u118 u119 u120 u121 u122 u123 u124 u125 u126 u127 u128 u129 u130 u131 u132 u133 u134 u135 u136 u137 u138 : Value} {x : World} {wa : Option Addr} {wc : Nat} {e5 e7 e8 : Int} (F : Lf w v ses base qa qn qc fs kd a1 n1 c1 a2 n2 c2 nm bs la ln lc) (D : Hid (Below v.heap.size v x)) (BW : Hid (Bn x wa ln (Mx.sendL ⟨ses, base, fs⟩))) (H5 : Hid (e5 = (Mx.sdmay ⟨ses, base, fs⟩))) (H78 : Hid (e7 = e8)) :
    TailL 8 w ⟨#[u0, u1, .pointer (some ⟨w.heap.size, 0, none⟩), .pointer (some ⟨(w.heap.size + 1), 0, none⟩), u4, .int .i64 e5, .slice la ln lc, errV e7, .int .i64 e8, .slice wa ln wc, u10, u11, u12, u13, u14, u15, u16, u17, u18, u19, u20, u21, u22, u23, u24, u25, u26, u27, u28, u29, u30, u31, u32, u33, u34, u35, u36, u37, u38, u39, u40, u41, u42, u43, u44, u45, u46, u47, u48, u49, u50, u51, u52, u53, u54, u55, u56, u57, u58, u59, u60, u61, u62, u63, u64, u65, u66, u67, u68, u69, u70, u71, u72, u73, u74, u75, u76, u77, u78, u79, u80, u81, u82, u83, u84, u85, u86, u87, u88, u89, u90, u91, u92, u93, u94, u95, u96, u97, u98, u99, u100, u101, u102, u103, u104, u105, u106, u107, u108, u109, u110, u111, u112, u113, u114, u115, u116, u117, u118, u119, u120, u121, u122, u123, u124, u125, u126, u127, u128, u129, u130, u131, u132, u133, u134, u135, u136, u137, u138], []⟩ x := by
  refine tailL_step rfl ?_
  intro K hK
  have hln : ln ≤ maxLen := F.hs.2.1
  rw [maxLen_val] at hln
  obtain rfl := H78.out
  go_wp2_with fail
  refine (is_any e7 e7 x).mono ?_
  rintro e wz ⟨rfl, hz⟩
  obtain rfl := hz.symm
  clear hz
  rw [beq_self_eq_true]
  go_wp2_with fail
  exact Met.intro (lt9 F D BW H5)

end Go.Proofs.Ytfgonmgmoeoedaa

/-
  The law LinkSays in parts: what is to be sent.
-/
namespace Go.Proofs.Ytfgonmgmoeoedaa
open Go.RowKit

set_option maxHeartbeats 16000000 in
set_option maxRecDepth 100000 in
theorem lt7 {w v : World} {ses base : Int} {qa : Option Addr} {qn qc : Nat} {fs : List Fr} {kd : Int} {a1 : Option Addr} {n1 c1 : Nat} {a2 : Option Addr} {n2 c2 : Nat} {nm bs : List Int} {la : Option Addr} {ln lc : Nat} {u0 u1 u4 u10 u11 u12 u13 u14 u15 u16 u17 u18 u19 u20 u21 u22 u23 u24 u25 u26 u27 u28 u29 u30 u31 u32 u33 u34 u35 u36 u37 u38 u39 u40 u41 u42 u43 u44 u45 u46 u47 u48 u49 u50 u51 u52 u53 u54 u55 u56 u57 u58 u59 u60 u61 u62 u63 u64 u65 u66 u67 u68 u69 u70 u71 u72 u73 u74 u75 u76 u77 u78 u79 u80 u81 u82 u83 u84 u85 u86 u87 u88 u89 u90 u91 u92 u93 u94 u95 u96 u97 u98 u99 u100 u101 u102 u103 u104 u105 u106 u107 u108 u109 u110 u111 u112 u113 u114 u115 u116 u117 u118 u119 u120 u121 u122 u123 u124 u125 u126 u127 u128 u129 u130 u131 u132 u133 u134 u135 u136 u137 u138 : Value} {x : World} (F : Lf w v ses base qa qn qc fs kd a1 n1 c1 a2 n2 c2 nm bs la ln lc) (D : Hid (Below v.heap.size v x)) :
    TailL 7 w ⟨#[u0, u1, .pointer (some ⟨w.heap.size, 0, none⟩), .pointer (some ⟨(w.heap.size + 1), 0, none⟩), u4, .int .i64 (Mx.sdmay ⟨ses, base, fs⟩), .slice la ln lc, errV (Mx.sendE ⟨ses, base, fs⟩), .int .i64 (Mx.sdmay ⟨ses, base, fs⟩), .slice none 0 0, u10, u11, u12, u13, u14, u15, u16, u17, u18, u19, u20, u21, u22, u23, u24, u25, u26, u27, u28, u29, u30, u31, u32, u33, u34, u35, u36, u37, u38, u39, u40, u41, u42, u43, u44, u45, u46, u47, u48, u49, u50, u51, u52, u53, u54, u55, u56, u57, u58, u59, u60, u61, u62, u63, u64, u65, u66, u67, u68, u69, u70, u71, u72, u73, u74, u75, u76, u77, u78, u79, u80, u81, u82, u83, u84, u85, u86, u87, u88, u89, u90, u91, u92, u93, u94, u95, u96, u97, u98, u99, u100, u101, u102, u103, u104, u105, u106, u107, u108, u109, u110, u111, u112, u113, u114, u115, u116, u117, u118, u119, u120, u121, u122, u123, u124, u125, u126, u127, u128, u129, u130, u131, u132, u133, u134, u135, u136, u137, u138], []⟩ x := by
  refine tailL_step rfl ?_
  intro K hK
  have HN := hide F.hq.1
  have HLL := hide F.hs.1
  have q100 := F.q100
  by_cases hm : (Mx.sdmay ⟨ses, base, fs⟩) = 0
  · have HM := hide hm
    have HOK := hide (Mx.sdmay_ok hm)
    have hb0 : 0 ≤ base := HOK.out.1.2.2.1
    have hb1 : base ≤ 2147483647 := HOK.out.1.2.2.2
    obtain ⟨M, hM⟩ : ∃ M : Nat, Hid (M = min qn 4) := ⟨_, rfl⟩
    have HWN := hide (show Mx.winN ⟨ses, base, fs⟩ = M by rw [hM.out, ← HN.out]; rfl)
    have hM4 : M ≤ 4 := by rw [hM.out]; omega
    have hMq : M ≤ qn := by rw [hM.out]; omega
    obtain ⟨sm, hsm⟩ : ∃ sm : Int, Hid (sm = (Mx.sdmay ⟨ses, base, fs⟩)) := ⟨_, rfl⟩
    have hsm0 : sm = 0 := by rw [hsm.out, hm]
    rw [hm]
    clear hm
    go_wp2_with fail
    go_loopw [8, 9, 10] (fun s8 s9 t wr => ∃ k : Nat, s8 = .int .i64 0 ∧ k ≤ M ∧ t = .int .i64 (k : Int) ∧ Hid (∀ j : Nat, j < k → base + (j : Int) ≤ 2147483647) ∧ Hid (OwnBn 0 wr x.heap.size s9 (Mx.wires ⟨ses, base, fs⟩ k)) ∧ Hid (Below x.heap.size x wr)) (fun _ _ t _ => M - (intOf t).toNat)
    case atStart => exact ⟨0, rfl, by omega, rfl, hide (fun j hj => by omega), OwnBn.nil _ _ _, Below.refl _ _⟩
    case round =>
      obtain ⟨k, rfl, hk, rfl, hG, hO, hB⟩ := hrel
      have DR := hide (D.out.trans (hB.out.mono D.out.size))
      obtain ⟨x0, x1, x2⟩ := (F.xb.later DR.out F.xb.lt).three
      go_wp2_with fail
      refine (windowR_any ses base qa qn qc wr (by omega)).mono ?_
      rintro e w3 ⟨rfl, D3⟩
      rw [← hM.out]
      have E3 := hide (hB.out.trans (D3.mono hB.out.size))
      have DR3 := hide (D.out.trans (E3.out.mono D.out.size))
      have O3 := hide (hO.out.later D3)
      clear x0 x1 x2
      by_cases hlt : k < M
      · have dlt : decide ((k : Int) < M) = true := by simpa using (show (k : Int) < M by omega)
        have dltn : decide (k < M) = true := by simpa using hlt
        have hwk : IntKind.i64.wrap (2147483647 - (k : Int)) = 2147483647 - (k : Int) := by rw [IntWalk.i64_left, IntWalk.wrap64_in _ (by omega)]
        obtain ⟨x0, x1, x2⟩ := (F.xb.later DR3.out F.xb.lt).three
        by_cases hbig : 2147483647 - (k : Int) < base
        · have dbig : decide (2147483647 - (k : Int) < base) = true := by simpa using hbig
          have HSE := hide (Mx.sendE_1 (s := ⟨ses, base, fs⟩) (k := k) HM.out (by rw [HWN.out]; exact hlt) (by show 2147483647 < base + (k : Int); omega))
          have HSL := hide (show (Mx.sendL ⟨ses, base, fs⟩) = [] by unfold Mx.sendL; rw [HSE.out, if_neg (by decide)])
          have hln : ln = 0 := by have h := HLL.out; rw [HSL.out] at h; exact h.symm
          clear hbig
          go_wp2_with fail
          subst hln
          exact Met.intro (lt8 (wa := none) (wc := 0) F DR3 (hide (by rw [HSL.out]; exact ⟨rfl, by rw [maxLen_val]; omega, fun h => absurd h (by omega)⟩)) (hide HM.out.symm) HSE)
        · have dbig : decide (2147483647 - (k : Int) < base) = false := by simpa using hbig
          have HG := hide (show ∀ j : Nat, j < k + 1 → base + (j : Int) ≤ 2147483647 from fun j hj => by
            by_cases hjk : j = k
            · subst hjk
              omega
            · exact hG.out j (by omega))
          clear hbig
          obtain ⟨f, hf⟩ : ∃ f, fs[k]? = some f := ⟨_, List.getElem?_eq_getElem (by rw [HN.out]; omega)⟩
          have HX := hide hf
          have HMF := hide (HOK.out.2.2 f (List.mem_of_getElem? hf))
          have HWR := hide (show Mx.may 1 (ses :: (base + (k : Int)) :: f.kind :: f.nums) f.nb = 0 by
            have h := Mx.may_wire (x := base + (k : Int)) HMF.out ⟨HOK.out.1.1, HOK.out.1.2.1⟩ (by omega)
            rw [if_neg (by have := HG.out k (by omega); omega)] at h
            exact h)
          have HWA := hide (Mx.wireAt_some (s := ⟨ses, base, fs⟩) hf)
          have HQ3 := hide (F.hq.later DR3.out)
          clear hf
          obtain ⟨kd', nm', nb', bs'⟩ := f
          dsimp only at HWR HWA
          go_wp2_with fail
          refine (dataOf_any ses base qa qn qc fs k kd' nm' nb' bs' w3 HQ3.out HX.out hb0 hb1 (by omega) HWR.out).mono ?_
          rintro e w5 ⟨v5, rfl, hO5, D5⟩
          obtain ⟨pa, pc, hv5, hpc, hbr, hpa⟩ := hO5.out.br
          obtain ⟨pn, hpn⟩ : ∃ pn : Nat, Hid (pn = (Mx.packB 1 (ses :: (base + (k : Int)) :: kd' :: nm') nb' bs').length) := ⟨_, rfl⟩
          rw [← hpn.out] at hv5 hpc hbr
          subst hv5
          have P5 := hide (show BR w5 pa pn (Mx.wireAt ⟨ses, base, fs⟩ k) by rw [HWA.out]; exact hbr)
          have C5 := hide hpc
          have E5 := hide (E3.out.trans (D5.out.mono E3.out.size))
          have O5 := hide (O3.out.later D5.out)
          have Q5 := hide (show 0 < pn → ∀ p, pa = some p → u9.ownBlock ≠ some p.block ∧ 0 ≤ p.block from fun _ p hp => ⟨fun e => by have h1 := (O3.out.lt _ e).2; have h2 := hpa p hp; omega, Nat.zero_le _⟩)
          have HTL := hide (show (Mx.wires ⟨ses, base, fs⟩ k).length ≤ 1000000 by rw [Mx.wires_len]; omega)
          clear hpc hbr hpa hO5 x0 x1 x2
          go_wp2_with (at_builtin; refine wpList_append_bn (w := w5) rfl _ _ rfl 0 x.heap.size (Mx.wires ⟨ses, base, fs⟩ k) ?o1 pa pn pc (Mx.wireAt ⟨ses, base, fs⟩ k) ?o2 ?o3 ?o4 rfl ?o6 ?o7 ?_)
          case o1 => exact O5.out
          case o2 => exact P5.out
          case o3 => exact C5.out
          case o4 => exact Q5.out
          case o6 => exact HTL.out
          case o7 => exact E5.out.size
          intro v6 w6 hO6 hG6
          have O6 := hide (show OwnBn 0 w6 x.heap.size v6 (Mx.wires ⟨ses, base, fs⟩ (k + 1)) by rw [Mx.wires_succ]; exact hO6)
          have E6 := hide (show Below x.heap.size x w6 from E5.out.grown hG6 E5.out.size (fun i hi => (O5.out.lt i hi).1))
          clear hO6 hG6
          go_wp2_with fail
          go_roundw
          case rel => exact ⟨k + 1, rfl, by omega, by go_num, HG, O6, E6⟩
          case measure => simp [intOf]; omega
      · have dlt : decide ((k : Int) < M) = false := by simpa using (show ¬ (k : Int) < M by omega)
        have dltn : decide (k < M) = false := by simpa using hlt
        obtain rfl : k = M := by omega
        have HSE := hide (Mx.sendE_0 (s := ⟨ses, base, fs⟩) HM.out (fun j hj => hG.out j (by rw [HWN.out] at hj; exact hj)))
        have HSL := hide (show (Mx.sendL ⟨ses, base, fs⟩) = Mx.wires ⟨ses, base, fs⟩ k by unfold Mx.sendL; rw [HSE.out, if_pos rfl, HWN.out])
        obtain ⟨ya, yc, hv, _, hbn⟩ := O3.out.bn
        rw [show (Mx.wires ⟨ses, base, fs⟩ k).length = ln by rw [← HSL.out]; exact HLL.out] at hv hbn
        subst hv
        have BW := hide (show Bn w3 ya ln (Mx.sendL ⟨ses, base, fs⟩) by rw [HSL.out]; exact hbn)
        clear hbn
        go_wp2_with fail
        exact Met.intro (lt8 (wc := yc) F DR3 BW (hide HM.out.symm) HSE)
  · have HSE := hide (Mx.sendE_no hm)
    have HSL := hide (show (Mx.sendL ⟨ses, base, fs⟩) = [] by unfold Mx.sendL; rw [HSE.out, if_neg hm])
    have hmb : ((Mx.sdmay ⟨ses, base, fs⟩) == 0) = false := by simpa using hm
    have hln : ln = 0 := by have h := HLL.out; rw [HSL.out] at h; exact h.symm
    clear hm
    subst hln
    go_wp2_with fail
    refine wp_loop_once ?_
    go_wp2_with fail
    exact Met.intro (lt8 (wa := none) (wc := 0) F D (hide (by rw [HSL.out]; exact ⟨rfl, by rw [maxLen_val]; omega, fun h => absurd h (by omega)⟩)) (hide rfl) HSE)

end Go.Proofs.Ytfgonmgmoeoedaa

/-
  The law LinkSays.
-/
namespace Go.Proofs.Ytfgonmgmoeoedaa
open Go.RowKit

set_option maxHeartbeats 16000000 in
set_option maxRecDepth 100000 in
theorem lsays_any (ses base : Int) (qa : Option Addr) (qn qc : Nat) (fs : List Fr) (kd : Int) (a1 a2 : Option Addr) (n1 c1 n2 c2 : Nat) (nm bs : List Int) (w : World) (hq : FL w qa qn fs) (hqc : qn ≤ qc) (hi : Ints w a1 n1 nm) (hk : Blks w a2 n2 bs) (hn1 : n1 ≤ c1) (hn2 : n2 ≤ c2) :
    Calls Try.prog 18 #[.agg #[.int .i64 ses, .int .i64 base, .slice qa qn qc], .agg #[.int .i64 kd, .slice a1 n1 c1, .slice a2 n2 c2]] w fun e w' => e = .returned (.bool true) ∧ Below w.heap.size w w' := by
  obtain ⟨W0, hW0⟩ : ∃ W0 : World, Hid (W0 = (w.alloc (.cells #[.int .i64 ses, .int .i64 base, .slice qa qn qc] 24)).alloc (.cells #[.int .i64 kd, .slice a1 n1 c1, .slice a2 n2 c2] 40)) := ⟨_, rfl⟩
  have X0 := hide (show Bx W0 w.heap.size #[.int .i64 ses, .int .i64 base, .slice qa qn qc] 24 by rw [hW0.out]; exact (Bx.new w _ _).alloc _)
  have Y0 := hide (show Bx W0 (w.heap.size + 1) #[.int .i64 kd, .slice a1 n1 c1, .slice a2 n2 c2] 40 by
    rw [hW0.out]
    have h := Bx.new (w.alloc (.cells #[.int .i64 ses, .int .i64 base, .slice qa qn qc] 24)) #[.int .i64 kd, .slice a1 n1 c1, .slice a2 n2 c2] 40
    rw [World.size_alloc] at h
    exact h)
  have D0 := hide (show Below w.heap.size w W0 by rw [hW0.out]; exact (below_alloc _ _).alloc (by simp) _)
  have hqm : qn ≤ maxLen := hq.2.1
  rw [maxLen_val] at hqm
  have HQ := hide (hq.later D0.out)
  have HI := hide (hi.later D0.out)
  have HK := hide (hk.later D0.out)
  clear hq hi hk
  go_enter Try.func18, Try.ntmps18
  change TailL 0 w _ w
  refine tailL_step rfl ?_
  intro K hK
  go_wp2_with fail
  rw [← hW0.out]
  refine Met.intro (tailL_step rfl ?_)
  try clear hK K
  intro K hK
  obtain ⟨x0, x1, x2⟩ := X0.out.three
  by_cases h100 : (100 : Int) < qn
  · have d100 : decide ((100 : Int) < qn) = true := by simpa using h100
    go_wp2_with fail
    go_ret
    exact ⟨rfl, D0.out⟩
  · have d100 : decide ((100 : Int) < qn) = false := by simpa using h100
    have q100 : qn ≤ 100 := by omega
    clear h100
    go_wp2_with fail
    refine Met.intro (tailL_step rfl ?_)
    try clear hK K
    intro K hK
    go_wp2_with fail
    refine (senderMay_any ses base qa qn qc fs W0 HQ.out).mono ?_
    rintro e w1 ⟨rfl, D1⟩
    have X1 := hide (X0.out.later D1 X0.out.lt)
    have B1 := hide (D0.out.trans (D1.mono D0.out.size))
    clear x0 x1 x2
    go_wp2_with fail
    refine Met.intro (tailL_step rfl ?_)
    try clear hK K
    intro K hK
    obtain ⟨x0, x1, x2⟩ := X1.out.three
    go_wp2_with fail
    refine (lcheck_any ses base qa qn qc fs w1 (HQ.out.later D1)).mono ?_
    rintro e w2 ⟨rfl, D2⟩
    have X2 := hide (X1.out.later D2 X1.out.lt)
    have D02 := hide (D1.trans (D2.mono D1.size))
    have B2 := hide (B1.out.trans (D2.mono B1.out.size))
    clear x0 x1 x2
    go_wp2_with fail
    refine (is_any (Mx.sdmay ⟨ses, base, fs⟩) (Mx.sdmay ⟨ses, base, fs⟩) w2).mono ?_
    rintro e wz ⟨rfl, hz⟩
    obtain rfl := hz.symm
    clear hz
    rw [beq_self_eq_true]
    go_wp2_with fail
    refine Met.intro (tailL_step rfl ?_)
    try clear hK K
    intro K hK
    obtain ⟨x0, x1, x2⟩ := X2.out.three
    go_wp2_with fail
    refine (lsend_any ses base qa qn qc fs w2 (HQ.out.later D02.out) hqc).mono ?_
    rintro e w3 ⟨v3, rfl, O3, D3⟩
    obtain ⟨la, lc, hv, _, hbn⟩ := O3.out.bn
    obtain ⟨ln, hln⟩ : ∃ ln : Nat, Hid (ln = (Mx.sendL ⟨ses, base, fs⟩).length) := ⟨_, rfl⟩
    rw [← hln.out] at hv hbn
    subst hv
    have D03 := hide (D02.out.trans (D3.out.mono D02.out.size))
    have FF := hide (Lf.mk (la := la) (ln := ln) (lc := lc) (X0.out.later D03.out X0.out.lt) (Y0.out.later D03.out Y0.out.lt) (HQ.out.later D03.out) (HI.out.later D03.out) (HK.out.later D03.out) hbn (D0.out.trans (D03.out.mono D0.out.size)) q100 hqc hn1 hn2)
    clear x0 x1 x2 hbn
    go_wp2_with fail
    refine Met.intro (tailL_step rfl ?_)
    try clear hK K
    intro K hK
    go_wp2_with fail
    refine Met.intro (tailL_step rfl ?_)
    try clear hK K
    intro K hK
    go_wp2_with fail
    exact Met.intro (lt7 FF.out (hide (Below.refl _ _)))

end Go.Proofs.Ytfgonmgmoeoedaa
