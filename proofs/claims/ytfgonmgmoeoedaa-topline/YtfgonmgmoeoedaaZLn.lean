/-
  A line: what is under way on it, in memory of the call's own.
-/
import Derived.Test.YtfgonmgmoeoedaaZFp
import Derived.Test.YtfgonmgmoeoedaaZLro

namespace Go.Proofs.Ytfgonmgmoeoedaa
open Go.RowKit

/-- what is under way, in a row of the call's own; its bytes lie in blocks of which P holds -/
def NetF (P : Nat → Prop) (w : World) (base : Nat) (v : Value) (ns : List (Bool × List Int)) : Prop :=
  ∃ vs : List Value, w.ownsRow base 60 2 v ns.length vs ∧ ∀ (i : Nat) (e : Bool × List Int), ns[i]? = some e → ∃ (a : Option Addr) (n c : Nat), vs[i * 2]? = some (.bool e.1) ∧ vs[i * 2 + 1]? = some (.slice a n c) ∧ Bytes w a n e.2 ∧ n ≤ c ∧ Av P a n

theorem Try.info60 : (Try.prog.info? 60).map (fun i => (i.zero, i.size, i.bytes)) = some (some (.agg #[.bool false, .slice none 0 0]), 2, 32) := by kernel_rfl

theorem NetF.nil (P : Nat → Prop) (w : World) (base : Nat) : NetF P w base (.slice none 0 0) [] := ⟨[], World.ownsRow_nil w base _ 2, fun i e he => by simp at he⟩

theorem NetF.lt {P : Nat → Prop} {w : World} {base : Nat} {v : Value} {ns : List (Bool × List Int)} (h : NetF P w base v ns) : ∀ k, v.ownBlock = some k → base ≤ k ∧ k < w.heap.size := by
  obtain ⟨vs, h1, _⟩ := h
  exact World.ownsRow.lt h1

theorem NetF.imp {P P' : Nat → Prop} {w : World} {base : Nat} {v : Value} {ns : List (Bool × List Int)} (h : NetF P w base v ns) (hi : ∀ b, b < w.heap.size → P b → P' b) : NetF P' w base v ns := by
  obtain ⟨vs, h1, h2⟩ := h
  refine ⟨vs, h1, fun i e he => ?_⟩
  obtain ⟨a, n, c, e1, e2, e3, e4, e5⟩ := h2 i e he
  exact ⟨a, n, c, e1, e2, e3, e4, fun hn p hp => hi _ (e3.ltA hn p hp) (e5 hn p hp)⟩

theorem NetF.bound {P : Nat → Prop} {w : World} {base : Nat} {v : Value} {ns : List (Bool × List Int)} (h : NetF P w base v ns) : NetF (fun b => P b ∧ b < w.heap.size) w base v ns := h.imp fun _ h1 h2 => ⟨h2, h1⟩

theorem NetF.ext {S P : Nat → Prop} {w w' : World} {base : Nat} {v : Value} {ns : List (Bool × List Int)} (h : NetF P w base v ns) (hx : Ext S w w') (hd : ∀ b, b < w.heap.size → P b → ¬ S b) (hv : ∀ k, v.ownBlock = some k → ¬ S k) : NetF P w' base v ns := by
  obtain ⟨vs, h1, h2⟩ := h
  refine ⟨vs, hx.own h1 hv, fun i e he => ?_⟩
  obtain ⟨a, n, c, e1, e2, e3, e4, e5⟩ := h2 i e he
  exact ⟨a, n, c, e1, e2, e3.ext hx e5 hd, e4, e5⟩

/-- the form of a row that is not empty, and one of it -/
theorem NetF.at_ {P : Nat → Prop} {w : World} {base : Nat} {v : Value} {ns : List (Bool × List Int)} (h : NetF P w base v ns) {i : Nat} {e : Bool × List Int} (he : ns[i]? = some e) :
    ∃ g cap a n c, v = .slice (some ⟨g, 0, none⟩) ns.length cap ∧ ns.length ≤ cap ∧ g < w.heap.size ∧ w.cell? ⟨g, i * 2, none⟩ = some (.bool e.1) ∧ w.cell? ⟨g, i * 2 + 1, none⟩ = some (.slice a n c) ∧ Bytes w a n e.2 ∧ n ≤ c ∧ Av P a n := by
  obtain ⟨vs, h1, h2⟩ := h
  have hi : i < ns.length := (List.getElem?_eq_some_iff.1 he).1
  obtain ⟨a, n, c, e1, e2, e3, e4, e5⟩ := h2 i e he
  have h1' := h1
  rcases h1.2 with ⟨_, h0⟩ | ⟨g, cap, cur, hv, hb, hg, hcap, _⟩
  · omega
  · subst hv
    refine ⟨g, cap, a, n, c, rfl, hcap, (Array.getElem?_eq_some_iff.1 hg).1, ?_, ?_, e3, e4, e5⟩
    · rw [World.ownsRow.cellAt h1' (i * 2) (by omega)]
      exact e1
    · rw [World.ownsRow.cellAt h1' (i * 2 + 1) (by omega)]
      exact e2

/-- the first of a row -/
theorem NetF.take {P : Nat → Prop} {w : World} {base g n cap : Nat} {ns : List (Bool × List Int)} (h : NetF P w base (.slice (some ⟨g, 0, none⟩) n cap) ns) (k : Nat) (hk : k ≤ n) : NetF P w base (.slice (some ⟨g, 0, none⟩) k cap) (ns.take k) := by
  obtain ⟨vs, h1, h2⟩ := h
  rcases h1.2 with ⟨h0, _⟩ | ⟨g', cap', cur, hv, hb, hg, hcap, hcm, hcs, htk⟩
  · cases h0
  · simp only [Value.slice.injEq, Option.some.injEq, Addr.mk.injEq, and_true] at hv
    obtain ⟨rfl, rfl, rfl⟩ := hv
    have hkl : (ns.take k).length = k := by simp; omega
    have hvl := h1.1
    refine ⟨vs.take (k * 2), ⟨by rw [hkl]; simp; omega, .inr ⟨g, cap, cur, by rw [hkl], hb, hg, by rw [hkl]; omega, hcm, hcs, ?_⟩⟩, fun i e he => ?_⟩
    · rw [hkl, ← htk, List.take_take]
      congr 1
      omega
    · have hi : i < k := by have h3 := (List.getElem?_eq_some_iff.1 he).1; rw [hkl] at h3; exact h3
      rw [List.getElem?_take_of_lt hi] at he
      obtain ⟨a, m, c, e1, e2, e3⟩ := h2 i e he
      exact ⟨a, m, c, by rw [List.getElem?_take_of_lt (by omega)]; exact e1, by rw [List.getElem?_take_of_lt (by omega)]; exact e2, e3⟩

/-- more under way, all of it read in the world at hand -/
theorem NetF.more {P : Nat → Prop} {w w' : World} {base m g cap : Nat} {v : Value} {ns ms : List (Bool × List Int)} {news : List Value} (h : NetF P w base v ns)
    (hn : ∀ (i : Nat) (e : Bool × List Int), ms[i]? = some e → ∃ (a : Option Addr) (n c : Nat), news[i * 2]? = some (.bool e.1) ∧ news[i * 2 + 1]? = some (.slice a n c) ∧ Bytes w a n e.2 ∧ n ≤ c ∧ Av P a n) (hm : ms.length = m)
    (ho : ∀ vs, w.ownsRow base 60 2 v ns.length vs → w'.ownsRow base 60 2 (.slice (some ⟨g, 0, none⟩) (ns.length + m) cap) (ns.length + m) (vs ++ news)) (hg : w.grownBy w' v.ownBlock) (hd : ∀ k, v.ownBlock = some k → ¬ P k) :
    NetF P w' base (.slice (some ⟨g, 0, none⟩) (ns.length + m) cap) (ns ++ ms) := by
  obtain ⟨vs, h1, h2⟩ := h
  have hx := Ext.grown hg
  have hdd : ∀ b, b < w.heap.size → P b → ¬ (some b = v.ownBlock) := fun b _ hb e => hd b e.symm hb
  have hl : (ns ++ ms).length = ns.length + m := by rw [List.length_append, hm]
  have hvl : vs.length = ns.length * 2 := h1.1
  refine ⟨vs ++ news, by rw [hl]; exact ho vs h1, fun i e he => ?_⟩
  by_cases hi : i < ns.length
  · rw [List.getElem?_append_left hi] at he
    obtain ⟨a, n, c, e1, e2, e3, e4, e5⟩ := h2 i e he
    exact ⟨a, n, c, by rw [List.getElem?_append_left (by omega)]; exact e1, by rw [List.getElem?_append_left (by omega)]; exact e2, e3.ext hx e5 hdd, e4, e5⟩
  · rw [List.getElem?_append_right (by omega)] at he
    obtain ⟨a, n, c, e1, e2, e3, e4, e5⟩ := hn _ e he
    refine ⟨a, n, c, ?_, ?_, e3.ext hx e5 hdd, e4, e5⟩
    · rw [List.getElem?_append_right (by omega), hvl, ← Nat.sub_mul]
      exact e1
    · rw [List.getElem?_append_right (by omega), hvl, show i * 2 + 1 - ns.length * 2 = (i - ns.length) * 2 + 1 by omega]
      exact e2

/-- one more under way, as a step of a region -/
theorem step_append_net {ops : Array Oper} {o : Oper} {a : Act} {w : World} {K : Act → World → Prop} {Q : Exit → Act → World → Prop} {E : Prop} (hgd : o.guard = none) (s x : Operand)
    (ho : o.op = .call { callee := .builtin .append, args := #[s, x], argTypes := #[54, 54] }) (P : Nat → Prop) (base : Nat) (v : Value) (ns : List (Bool × List Int)) (hs : a.eval s = v) (hown : NetF P w base v ns)
    (B : Nat) (b : Bool) (ad : Option Addr) (n c : Nat) (l : List Int) (hx : a.eval x = .slice (some ⟨B, 0, none⟩) 1 1) (hB : Bx w B #[.bool b, .slice ad n c] 60) (hBy : Bytes w ad n l) (hc : n ≤ c) (hP : Av P ad n) (hd : ∀ k, v.ownBlock = some k → ¬ P k) (h63 : ns.length ≤ 1000000) (hbase : base ≤ w.heap.size)
    (h : ∀ g cap w', NetF P w' base (.slice (some ⟨g, 0, none⟩) (ns.length + 1) cap) (ns ++ [(b, l)]) → w.grownBy w' v.ownBlock → (v.ownBlock = some g ∨ g = w.heap.size) → K (a.put o.dst (.slice (some ⟨g, 0, none⟩) (ns.length + 1) cap)) w') :
    if Region.wanted o (yielded ops a.tmps) = true then Oper.wp Try.prog o a w K Q else E := by
  obtain ⟨i0, hi0, hz0, hz1, hz2⟩ := info_parts Try.info60
  obtain ⟨vs, h1, h2⟩ := hown
  refine step_append_lies w hgd s x 54 ho base 60 i0 _ 2 32 Try.underlying54 hi0 hz0 hz1 hz2 rfl (by decide) v ns.length vs hs h1 ⟨B, 0, none⟩ 1 1 [.bool b, .slice ad n c] hx rfl (World.news_of_block hB) (by simp [Value.oneCell']) (by omega) (by unfold maxLen; omega) (by omega) hbase _ rfl ?_
  intro g cap w' hown' hg hat _
  refine h g cap w' (NetF.more ⟨vs, h1, h2⟩ (news := [.bool b, .slice ad n c]) (fun i e he => ?_) rfl (fun vs' hvs' => ?_) hg hd) hg hat
  · match i, he with
    | 0, he =>
      simp at he
      subst he
      exact ⟨ad, n, c, rfl, rfl, hBy, hc, hP⟩
    | i + 1, he => simp at he
  · obtain rfl : vs' = vs := by
      rcases h1.2 with ⟨hv1, hz1⟩ | ⟨g1, cap1, cur1, hv1, _, hg1, _, _, _, ht1⟩
      · have e1 := h1.1
        have e2 := hvs'.1
        rw [hz1] at e1 e2
        have a1 : vs = [] := List.eq_nil_of_length_eq_zero (by simpa using e1)
        have a2 : vs' = [] := List.eq_nil_of_length_eq_zero (by simpa using e2)
        rw [a1, a2]
      · rcases hvs'.2 with ⟨hv2, _⟩ | ⟨g2, cap2, cur2, hv2, _, hg2, _, _, _, ht2⟩
        · rw [hv1] at hv2
          cases hv2
        · rw [hv1] at hv2
          simp only [Value.slice.injEq, Option.some.injEq, Addr.mk.injEq, and_true] at hv2
          obtain ⟨rfl, _, _⟩ := hv2
          rw [hg1] at hg2
          cases hg2
          rw [← ht1, ← ht2]
    exact hown'

end Go.Proofs.Ytfgonmgmoeoedaa
