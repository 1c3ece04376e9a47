/-
  A tree's levels as the call makes them: a row of rows; one level more.
-/
import Derived.Test.YtdhmijjphgcdmaaTow
import Derived.Test.YtdhmijjphgcdmaaTs
import Derived.Maps.AppendAt
namespace Go.Proofs.Ytdhmijjphgcdmaa
open Go.RowKit

namespace Mx
theorem growF_one (f : Nat) (l : List Nat) (h : l.length ≤ 1) : growF f l = [l] := by
  cases f with
  | zero => rfl
  | succ f => rw [growF, if_pos h]
theorem growF_more (f : Nat) (l : List Nat) (h : ¬ l.length ≤ 1) : growF (f + 1) l = l :: growF f (overL l) := by rw [growF, if_neg h]
end Mx

theorem U64s.setOther {w : World} {a : Option Addr} {n : Nat} {l : List Nat} (h : U64s w a n l) (q : Addr) (v : Value) (hne : ∀ p, a = some p → p.block ≠ q.block) : U64s (w.setCell q v) a n l := by
  obtain ⟨h1, h2, h3, h4⟩ := h
  refine ⟨h1, h2, h3, fun hp => ?_⟩
  obtain ⟨b, off, ha, hlt, hc⟩ := h4 hp
  refine ⟨b, off, ha, by simpa [World.setCell] using hlt, fun i hi => ?_⟩
  rw [World.cell?_setCell_far w q ⟨b, off + i, none⟩ v (fun e => hne _ ha e.symm)]
  exact hc i hi
theorem U64s.grownBy {w w' : World} {a : Option Addr} {n : Nat} {l : List Nat} {row : Option Nat} (h : U64s w a n l) (hg : w.grownBy w' row) (hne : ∀ p, a = some p → row ≠ some p.block) : U64s w' a n l := by
  obtain ⟨h1, h2, h3, h4⟩ := h
  refine ⟨h1, h2, h3, fun hp => ?_⟩
  obtain ⟨b, off, ha, hlt, hc⟩ := h4 hp
  refine ⟨b, off, ha, by have := hg.size; omega, fun i hi => ?_⟩
  exact hg.cell (hc i hi) (fun e => hne _ ha e.symm)

/-- levels in memory of the call's own: the row of them from base on, none of them within it, each in a block of which P holds -/
def OwnLv (w : World) (base : Nat) (P : Nat → Prop) (v : Value) (ls : List (List Nat)) : Prop :=
  ∃ vs : List Value, w.ownsRow base 92 1 v ls.length vs ∧ ∀ (i : Nat) (l : List Nat), ls[i]? = some l → ∃ (a : Option Addr) (n c : Nat), vs[i]? = some (Value.slice a n c) ∧ U64s w a n l ∧ n ≤ c ∧ 1 ≤ n ∧ ∀ p, a = some p → v.ownBlock ≠ some p.block ∧ P p.block
theorem Try.info92 : (Try.prog.info? 92).map (fun i => (i.zero, i.size, i.bytes)) = some (some (.slice none 0 0), 1, 24) := by kernel_rfl

theorem OwnLv.later {w w' : World} {base : Nat} {P : Nat → Prop} {v : Value} {ls : List (List Nat)} (h : OwnLv w base P v ls) (hb : Below w.heap.size w w') : OwnLv w' base P v ls := by
  obtain ⟨vs, h1, h2⟩ := h
  refine ⟨vs, rowKept h1 hb, fun i l hl => ?_⟩
  obtain ⟨a, n, c, e1, e2, e3⟩ := h2 i l hl
  exact ⟨a, n, c, e1, e2.later hb, e3⟩
theorem OwnLv.one {w : World} {base : Nat} {P : Nat → Prop} (hb : base ≤ w.heap.size) {a : Option Addr} {n c : Nat} {l : List Nat} (hl : U64s w a n l) (hc : n ≤ c) (hn : 1 ≤ n) (hp : ∀ p, a = some p → P p.block) :
    OwnLv (w.alloc (.cells #[.slice a n c] 92)) base P (.slice (some ⟨w.heap.size, 0, none⟩) 1 1) [l] := by
  refine ⟨[.slice a n c], World.ownsRow_lit (base := base) (e := 92) (size := 1) w #[.slice a n c] 1 hb (by unfold maxLen; omega) rfl, fun i l' hl' => ?_⟩
  match i, hl' with
  | 0, hl' =>
    simp at hl'
    subst hl'
    refine ⟨a, n, c, rfl, hl.later (below_alloc _ _), hc, hn, fun p hp' => ⟨fun e => ?_, hp p hp'⟩⟩
    obtain ⟨b, off, ha, hlt, _⟩ := hl.2.2.2 hn
    rw [ha] at hp'
    cases hp'
    simp [Value.ownBlock] at e
    omega
  | i + 1, hl' => simp at hl'
theorem OwnLv.setOther {w : World} {base : Nat} {P : Nat → Prop} {v : Value} {ls : List (List Nat)} (h : OwnLv w base P v ls) (q : Addr) (u : Value) (hv : v.ownBlock ≠ some q.block) (hq : ¬ P q.block) : OwnLv (w.setCell q u) base P v ls := by
  obtain ⟨vs, h1, h2⟩ := h
  refine ⟨vs, ownsRow_other h1 q u hv, fun i l hl => ?_⟩
  obtain ⟨a, n, c, e1, e2, e3, e4, e5⟩ := h2 i l hl
  exact ⟨a, n, c, e1, e2.setOther q u (fun p hp e => hq (by rw [← e]; exact (e5 p hp).2)), e3, e4, e5⟩
theorem OwnLv.form {w : World} {base : Nat} {P : Nat → Prop} {v : Value} {ls : List (List Nat)} (h : OwnLv w base P v ls) : ∃ a cap, v = .slice a ls.length cap := by
  obtain ⟨vs, h1, _⟩ := h
  rcases h1.2 with ⟨hv, hz⟩ | ⟨g, cap', cur, hv, _⟩
  · exact ⟨none, 0, by rw [hv, hz]⟩
  · exact ⟨_, _, hv⟩
theorem OwnLv.lv {w : World} {base n cap : Nat} {P : Nat → Prop} {a : Option Addr} {ls : List (List Nat)} (h : OwnLv w base P (.slice a n cap) ls) : Lvls w a n ls ∧ n ≤ cap := by
  obtain ⟨vs, h1, h2⟩ := h
  rcases h1.2 with ⟨hv, hz⟩ | ⟨g, cap', cur, hv, hb, hh, hle, hmx, hcs, htk⟩
  · simp only [Value.slice.injEq] at hv
    obtain ⟨rfl, rfl, rfl⟩ := hv
    exact ⟨⟨hz, by unfold maxLen; omega, fun h => absurd h (by omega)⟩, Nat.le_refl _⟩
  · simp only [Value.slice.injEq] at hv
    obtain ⟨rfl, rfl, rfl⟩ := hv
    refine ⟨⟨rfl, by omega, fun hp => ⟨g, 0, rfl, (Array.getElem?_eq_some_iff.1 hh).1, fun i l hl => ?_⟩⟩, hle⟩
    obtain ⟨a, n, c, e1, e2, e3, _, _⟩ := h2 i l hl
    have hi : i < ls.length := (List.getElem?_eq_some_iff.1 hl).1
    refine ⟨a, n, c, ?_, e2, e3⟩
    rw [cell_of_cells hh, Nat.zero_add, ← Array.getElem?_toList]
    have h5 : (cur.toList.take (ls.length * 1))[i]? = vs[i]? := by rw [htk]
    rw [List.getElem?_take_of_lt (by omega), e1] at h5
    exact h5

/-- one level more -/
theorem wpList_append_lv {w : World} {ops : Array Oper} {rest : List Oper} {o : Oper} {a : Act} {Q : Exit → Act → World → Prop} (hgd : o.guard = none) (s x : Operand)
    (ho : o.op = .call { callee := .builtin .append, args := #[s, x], argTypes := #[80, 80] }) (base : Nat) (P : Nat → Prop) (ls : List (List Nat)) (hown : OwnLv w base P (a.eval s) ls)
    (ad : Option Addr) (n c : Nat) (l : List Nat) (hl : U64s w ad n l) (hc : n ≤ c) (hn : 1 ≤ n) (hp : ∀ p, ad = some p → (a.eval s).ownBlock ≠ some p.block ∧ P p.block)
    (hx : a.eval x = .slice (some ⟨w.heap.size, 0, none⟩) 1 1) (h63 : ls.length ≤ 1000000) (hbase : base ≤ w.heap.size)
    (h : ∀ v' w', OwnLv w' base P v' (ls ++ [l]) → w.grownBy w' (a.eval s).ownBlock → wpList Try.prog ops Q rest (a.put o.dst v') w') :
    wpList Try.prog ops Q (o :: rest) a (w.alloc (.cells #[.slice ad n c] 92)) := by
  obtain ⟨vs, h1, h2⟩ := hown
  obtain ⟨i0, hi0, hz0, hz1, hz2⟩ := info_parts Try.info92
  refine wpList_append_own_at _ hgd s x 80 ho base 92 i0 _ 1 24 Try.underlying80 hi0 hz0 hz1 hz2 rfl (by decide) (a.eval s) ls.length vs rfl (World.ownsRow.alloc h1 _) ⟨w.heap.size, 0, none⟩ 1 1 [.slice ad n c] hx rfl (fun j u hj => ?_) (by simp [Value.oneCell']) (by unfold maxLen; omega) (by omega) (by simp; omega) ?_
  · rw [Addr.add_lit, World.cell?_alloc_new]
    simpa using hj
  · intro v' w' hown' hg _ hat
    have hg' : w.grownBy w' (a.eval s).ownBlock := ⟨hg.os, hg.tape, hg.output, by have := hg.size; simp at this; omega, fun k hk hne => (hg.block k (by simp; omega) hne).trans (Below.heap_alloc w _ k hk)⟩
    have hvne : ∀ (p : Addr), p.block < w.heap.size → (a.eval s).ownBlock ≠ some p.block → v'.ownBlock ≠ some p.block := by
      intro p hlt hne e
      rcases hat with h | h
      · exact hne (h.symm.trans e)
      · rw [h] at e
        simp at e
        omega
    refine h v' w' ⟨vs ++ [.slice ad n c], by rw [List.length_append]; exact hown', fun i l' hl' => ?_⟩ hg'
    have hvl : vs.length = ls.length := by have := h1.1; simpa using this
    by_cases hi' : i < ls.length
    · rw [List.getElem?_append_left hi'] at hl'
      obtain ⟨a', n', c', e1, e2, e3, e4, e5⟩ := h2 i l' hl'
      refine ⟨a', n', c', by rw [List.getElem?_append_left (by omega)]; exact e1, e2.grownBy hg' (fun p hp' => (e5 p hp').1), e3, e4, fun p hp' => ⟨?_, (e5 p hp').2⟩⟩
      obtain ⟨b, off, ha, hlt, _⟩ := e2.2.2.2 e4
      rw [ha] at hp'
      cases hp'
      exact hvne _ hlt (e5 _ ha).1
    · have hlen : i < (ls ++ [l]).length := (List.getElem?_eq_some_iff.1 hl').1
      rw [List.length_append, List.length_singleton] at hlen
      obtain rfl : i = ls.length := by omega
      rw [List.getElem?_append_right (Nat.le_refl _), Nat.sub_self] at hl'
      simp at hl'
      subst hl'
      refine ⟨ad, n, c, by rw [List.getElem?_append_right (by omega), hvl, Nat.sub_self]; rfl, hl.grownBy hg' (fun p hp' => (hp p hp').1), hc, hn, fun p hp' => ⟨?_, (hp p hp').2⟩⟩
      obtain ⟨b, off, ha, hlt, _⟩ := hl.2.2.2 hn
      rw [ha] at hp'
      cases hp'
      exact hvne _ hlt (hp _ ha).1

end Go.Proofs.Ytdhmijjphgcdmaa
