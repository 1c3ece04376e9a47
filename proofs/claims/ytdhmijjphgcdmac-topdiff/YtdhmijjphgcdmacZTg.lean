/-
  A tree's levels as the call makes them: a row of rows; one level more.
-/
import Derived.Maps.AppendAt
import Derived.Test.YtdhmijjphgcdmacZTov
import Derived.Test.YtdhmijjphgcdmacZTs

namespace Go.Proofs.Ytdhmijjphgcdmac
open Go.RowKit

namespace Mx
theorem growF_one (f : Nat) (l : List Nat) (h : l.length ≤ 1) : growF f l = [l] := by
  cases f with
  | zero => rfl
  | succ f => rw [growF, if_pos h]
theorem growF_more (f : Nat) (l : List Nat) (h : ¬ l.length ≤ 1) : growF (f + 1) l = l :: growF f (overL l) := by rw [growF, if_neg h]
end Mx

theorem U64s.setOther {w : World} {a : Option Addr} {n : Nat} {l : List Nat} (h : U64s w a n l) (q : Addr) (v : Value) (hne : ∀ p, a = some p → p.block ≠ q.block) : U64s (w.setCell q v) a n l := by
  obtain ⟨h1, h2, h3, h4⟩ := h
  refine ⟨h1, h2, h3, fun hp => ?_⟩
  obtain ⟨b, off, ha, hlt, hc⟩ := h4 hp
  refine ⟨b, off, ha, by simpa [World.setCell] using hlt, fun i hi => ?_⟩
  rw [World.cell?_setCell_far w q ⟨b, off + i, none⟩ v (fun e => hne _ ha e.symm)]
  exact hc i hi
theorem U64s.grownBy {w w' : World} {a : Option Addr} {n : Nat} {l : List Nat} {row : Option Nat} (h : U64s w a n l) (hg : w.grownBy w' row) (hne : ∀ p, a = some p → row ≠ some p.block) : U64s w' a n l := by
  obtain ⟨h1, h2, h3, h4⟩ := h
  refine ⟨h1, h2, h3, fun hp => ?_⟩
  obtain ⟨b, off, ha, hlt, hc⟩ := h4 hp
  refine ⟨b, off, ha, by have := hg.size; omega, fun i hi => ?_⟩
  exact hg.cell (hc i hi) (fun e => hne _ ha e.symm)

/-- levels in memory of the call's own: the row of them from base on, none of them within it, each in a block of which P holds -/
def OwnLv (w : World) (base : Nat) (P : Nat → Prop) (v : Value) (ls : List (List Nat)) : Prop :=
  ∃ vs : List Value, w.ownsRow base 120 1 v ls.length vs ∧ ∀ (i : Nat) (l : List Nat), ls[i]? = some l → ∃ (a : Option Addr) (n c : Nat), vs[i]? = some (Value.slice a n c) ∧ U64s w a n l ∧ n ≤ c ∧ 1 ≤ n ∧ ∀ p, a = some p → v.ownBlock ≠ some p.block ∧ P p.block
theorem Try.info120 : (Try.prog.info? 120).map (fun i => (i.zero, i.size, i.bytes)) = some (some (.slice none 0 0), 1, 24) := by kernel_rfl

theorem OwnLv.later {w w' : World} {base : Nat} {P : Nat → Prop} {v : Value} {ls : List (List Nat)} (h : OwnLv w base P v ls) (hb : Below w.heap.size w w') : OwnLv w' base P v ls := by
  obtain ⟨vs, h1, h2⟩ := h
  refine ⟨vs, rowKept h1 hb, fun i l hl => ?_⟩
  obtain ⟨a, n, c, e1, e2, e3⟩ := h2 i l hl
  exact ⟨a, n, c, e1, e2.later hb, e3⟩
theorem OwnLv.one {w : World} {base : Nat} {P : Nat → Prop} (hb : base ≤ w.heap.size) {a : Option Addr} {n c : Nat} {l : List Nat} (hl : U64s w a n l) (hc : n ≤ c) (hn : 1 ≤ n) (hp : ∀ p, a = some p → P p.block) :
    OwnLv (w.alloc (.cells #[.slice a n c] 120)) base P (.slice (some ⟨w.heap.size, 0, none⟩) 1 1) [l] := by
  refine ⟨[.slice a n c], World.ownsRow_lit (base := base) (e := 120) (size := 1) w #[.slice a n c] 1 hb (by unfold maxLen; omega) rfl, fun i l' hl' => ?_⟩
  match i, hl' with
  | 0, hl' =>
    simp at hl'
    subst hl'
    refine ⟨a, n, c, rfl, hl.later (below_alloc _ _), hc, hn, fun p hp' => ⟨fun e => ?_, hp p hp'⟩⟩
    obtain ⟨b, off, ha, hlt, _⟩ := hl.2.2.2 hn
    rw [ha] at hp'
    cases hp'
    simp [Value.ownBlock] at e
    omega
  | i + 1, hl' => simp at hl'
theorem OwnLv.setOther {w : World} {base : Nat} {P : Nat → Prop} {v : Value} {ls : List (List Nat)} (h : OwnLv w base P v ls) (q : Addr) (u : Value) (hv : v.ownBlock ≠ some q.block) (hq : ¬ P q.block) : OwnLv (w.setCell q u) base P v ls := by
  obtain ⟨vs, h1, h2⟩ := h
  refine ⟨vs, ownsRow_other h1 q u hv, fun i l hl => ?_⟩
  obtain ⟨a, n, c, e1, e2, e3, e4, e5⟩ := h2 i l hl
  exact ⟨a, n, c, e1, e2.setOther q u (fun p hp e => hq (by rw [← e]; exact (e5 p hp).2)), e3, e4, e5⟩
theorem OwnLv.form {w : World} {base : Nat} {P : Nat → Prop} {v : Value} {ls : List (List Nat)} (h : OwnLv w base P v ls) : ∃ a cap, v = .slice a ls.length cap := by
  obtain ⟨vs, h1, _⟩ := h
  rcases h1.2 with ⟨hv, hz⟩ | ⟨g, cap', cur, hv, _⟩
  · exact ⟨none, 0, by rw [hv, hz]⟩
  · exact ⟨_, _, hv⟩
theorem OwnLv.lv {w : World} {base n cap : Nat} {P : Nat → Prop} {a : Option Addr} {ls : List (List Nat)} (h : OwnLv w base P (.slice a n cap) ls) : Lvls w a n ls ∧ n ≤ cap := by
  obtain ⟨vs, h1, h2⟩ := h
  rcases h1.2 with ⟨hv, hz⟩ | ⟨g, cap', cur, hv, hb, hh, hle, hmx, hcs, htk⟩
  · simp only [Value.slice.injEq] at hv
    obtain ⟨rfl, rfl, rfl⟩ := hv
    exact ⟨⟨hz, by unfold maxLen; omega, fun h => absurd h (by omega)⟩, Nat.le_refl _⟩
  · simp only [Value.slice.injEq] at hv
    obtain ⟨rfl, rfl, rfl⟩ := hv
    refine ⟨⟨rfl, by omega, fun hp => ⟨g, 0, rfl, (Array.getElem?_eq_some_iff.1 hh).1, fun i l hl => ?_⟩⟩, hle⟩
    obtain ⟨a, n, c, e1, e2, e3, _, _⟩ := h2 i l hl
    have hi : i < ls.length := (List.getElem?_eq_some_iff.1 hl).1
    refine ⟨a, n, c, ?_, e2, e3⟩
    rw [cell_of_cells hh, Nat.zero_add, ← Array.getElem?_toList]
    have h5 : (cur.toList.take (ls.length * 1))[i]? = vs[i]? := by rw [htk]
    rw [List.getElem?_take_of_lt (by omega), e1] at h5
    exact h5

/-- one level more -/
theorem wpList_append_lv {w : World} {ops : Array Oper} {rest : List Oper} {o : Oper} {a : Act} {Q : Exit → Act → World → Prop} (hgd : o.guard = none) (s x : Operand)
    (ho : o.op = .call { callee := .builtin .append, args := #[s, x], argTypes := #[58, 58] }) (base : Nat) (P : Nat → Prop) (ls : List (List Nat)) (hown : OwnLv w base P (a.eval s) ls)
    (ad : Option Addr) (n c : Nat) (l : List Nat) (hl : U64s w ad n l) (hc : n ≤ c) (hn : 1 ≤ n) (hp : ∀ p, ad = some p → (a.eval s).ownBlock ≠ some p.block ∧ P p.block)
    (hx : a.eval x = .slice (some ⟨w.heap.size, 0, none⟩) 1 1) (h63 : ls.length ≤ 1000000) (hbase : base ≤ w.heap.size)
    (h : ∀ v' w', OwnLv w' base P v' (ls ++ [l]) → w.grownBy w' (a.eval s).ownBlock → wpList Try.prog ops Q rest (a.put o.dst v') w') :
    wpList Try.prog ops Q (o :: rest) a (w.alloc (.cells #[.slice ad n c] 120)) := by
  obtain ⟨vs, h1, h2⟩ := hown
  obtain ⟨i0, hi0, hz0, hz1, hz2⟩ := info_parts Try.info120
  refine wpList_append_own_at _ hgd s x 58 ho base 120 i0 _ 1 24 Try.underlying58 hi0 hz0 hz1 hz2 rfl (by decide) (a.eval s) ls.length vs rfl (World.ownsRow.alloc h1 _) ⟨w.heap.size, 0, none⟩ 1 1 [.slice ad n c] hx rfl (fun j u hj => ?_) (by simp [Value.oneCell']) (by unfold maxLen; omega) (by omega) (by simp; omega) ?_
  · rw [Addr.add_lit, World.cell?_alloc_new]
    simpa using hj
  · intro v' w' hown' hg _ hat
    have hg' : w.grownBy w' (a.eval s).ownBlock := ⟨hg.os, hg.tape, hg.output, by have := hg.size; simp at this; omega, fun k hk hne => (hg.block k (by simp; omega) hne).trans (Below.heap_alloc w _ k hk)⟩
    have hvne : ∀ (p : Addr), p.block < w.heap.size → (a.eval s).ownBlock ≠ some p.block → v'.ownBlock ≠ some p.block := by
      intro p hlt hne e
      rcases hat with h | h
      · exact hne (h.symm.trans e)
      · rw [h] at e
        simp at e
        omega
    refine h v' w' ⟨vs ++ [.slice ad n c], by rw [List.length_append]; exact hown', fun i l' hl' => ?_⟩ hg'
    have hvl : vs.length = ls.length := by have := h1.1; simpa using this
    by_cases hi' : i < ls.length
    · rw [List.getElem?_append_left hi'] at hl'
      obtain ⟨a', n', c', e1, e2, e3, e4, e5⟩ := h2 i l' hl'
      refine ⟨a', n', c', by rw [List.getElem?_append_left (by omega)]; exact e1, e2.grownBy hg' (fun p hp' => (e5 p hp').1), e3, e4, fun p hp' => ⟨?_, (e5 p hp').2⟩⟩
      obtain ⟨b, off, ha, hlt, _⟩ := e2.2.2.2 e4
      rw [ha] at hp'
      cases hp'
      exact hvne _ hlt (e5 _ ha).1
    · have hlen : i < (ls ++ [l]).length := (List.getElem?_eq_some_iff.1 hl').1
      rw [List.length_append, List.length_singleton] at hlen
      obtain rfl : i = ls.length := by omega
      rw [List.getElem?_append_right (Nat.le_refl _), Nat.sub_self] at hl'
      simp at hl'
      subst hl'
      refine ⟨ad, n, c, by rw [List.getElem?_append_right (by omega), hvl, Nat.sub_self]; rfl, hl.grownBy hg' (fun p hp' => (hp p hp').1), hc, hn, fun p hp' => ⟨?_, (hp p hp').2⟩⟩
      obtain ⟨b, off, ha, hlt, _⟩ := hl.2.2.2 hn
      rw [ha] at hp'
      cases hp'
      exact hvne _ hlt (hp _ ha).1

/-- a tree's levels, read, all of it in blocks from B on -/
def LvlsA (B : Nat) (w : World) (a : Option Addr) (k : Nat) (ls : List (List Nat)) : Prop :=
  ls.length = k ∧ k ≤ maxLen ∧ (0 < k → ∃ b off, a = some ⟨b, off, none⟩ ∧ B ≤ b ∧ b < w.heap.size ∧ ∀ i l, ls[i]? = some l → ∃ ai ni ci, w.cell? ⟨b, off + i, none⟩ = some (.slice ai ni ci) ∧ U64s w ai ni l ∧ ni ≤ ci ∧ ∀ p, ai = some p → B ≤ p.block)
theorem LvlsA.lv {B : Nat} {w : World} {a : Option Addr} {k : Nat} {ls : List (List Nat)} (h : LvlsA B w a k ls) : Lvls w a k ls := by
  obtain ⟨h1, h2, h3⟩ := h
  refine ⟨h1, h2, fun hp => ?_⟩
  obtain ⟨b, off, ha, _, hlt, hc⟩ := h3 hp
  refine ⟨b, off, ha, hlt, fun i l hl => ?_⟩
  obtain ⟨ai, ni, ci, c1, c2, c3, _⟩ := hc i l hl
  exact ⟨ai, ni, ci, c1, c2, c3⟩
theorem LvlsA.later {B : Nat} {w w' : World} {a : Option Addr} {k : Nat} {ls : List (List Nat)} (h : LvlsA B w a k ls) (hb : Below w.heap.size w w') : LvlsA B w' a k ls := by
  obtain ⟨h1, h2, h4⟩ := h
  refine ⟨h1, h2, fun hp => ?_⟩
  obtain ⟨b, off, ha, hB, hlt, hc⟩ := h4 hp
  refine ⟨b, off, ha, hB, by have := hb.size; omega, fun i l hl => ?_⟩
  obtain ⟨ai, ni, ci, c1, c2, c3, c4⟩ := hc i l hl
  exact ⟨ai, ni, ci, (hb.cell (p := ⟨b, off + i, none⟩) hlt).trans c1, c2.later hb, c3, c4⟩
theorem LvlsA.setLow {B : Nat} {w : World} {a : Option Addr} {k : Nat} {ls : List (List Nat)} (h : LvlsA B w a k ls) (q : Addr) (v : Value) (hq : q.block < B) : LvlsA B (w.setCell q v) a k ls := by
  obtain ⟨h1, h2, h4⟩ := h
  refine ⟨h1, h2, fun hp => ?_⟩
  obtain ⟨b, off, ha, hB, hlt, hc⟩ := h4 hp
  refine ⟨b, off, ha, hB, by simpa [World.setCell] using hlt, fun i l hl => ?_⟩
  obtain ⟨ai, ni, ci, c1, c2, c3, c4⟩ := hc i l hl
  refine ⟨ai, ni, ci, ?_, c2.setOther q v (fun p hp e => by have := c4 p hp; omega), c3, c4⟩
  rw [World.cell?_setCell_far w q ⟨b, off + i, none⟩ v (fun e => by change q.block = b at e; omega)]
  exact c1
theorem OwnLv.lvA {w : World} {base n cap B : Nat} {P : Nat → Prop} {a : Option Addr} {ls : List (List Nat)} (h : OwnLv w base P (.slice a n cap) ls) (hB : B ≤ base) (hP : ∀ q, P q → B ≤ q) : LvlsA B w a n ls := by
  have hl := h.lv.1
  obtain ⟨vs, h1, h2⟩ := h
  refine ⟨hl.1, hl.2.1, fun hp => ?_⟩
  obtain ⟨b, off, ha, hlt, hc⟩ := hl.2.2 hp
  have hb : base ≤ b := (World.ownsRow.lt h1 b (by rw [ha]; rfl)).1
  refine ⟨b, off, ha, by omega, hlt, fun i l hl' => ?_⟩
  obtain ⟨ai, ni, ci, c1, c2, c3⟩ := hc i l hl'
  refine ⟨ai, ni, ci, c1, c2, c3, fun p hp' => ?_⟩
  obtain ⟨a', n', c', e1, _, _, _, e5⟩ := h2 i l hl'
  have hv : w.cell? ⟨b, off + i, none⟩ = some (.slice a' n' c') := by
    have hoff : off = 0 := by
      rcases h1.2 with ⟨hv, hz⟩ | ⟨g, cap', cur, hv, _⟩
      · simp only [Value.slice.injEq] at hv
        rw [hv.1] at ha
        cases ha
      · simp only [Value.slice.injEq] at hv
        rw [hv.1] at ha
        simp only [Option.some.injEq, Addr.mk.injEq, and_true] at ha
        exact ha.2.symm
    subst hoff
    have hcs := World.ownsRow.cells h1 (g := b) (by rw [ha]; rfl) i _ e1
    rw [Addr.add_lit] at hcs
    exact hcs
  rw [c1] at hv
  simp only [Option.some.injEq, Value.slice.injEq] at hv
  rw [hv.1] at hp'
  exact hP _ (e5 p hp').2

end Go.Proofs.Ytdhmijjphgcdmac

/-
  A tree grown from its first level (grow).
-/
namespace Go.Proofs.Ytdhmijjphgcdmac
open Go.RowKit

def sliceLen : Value → Nat
  | .slice _ n _ => n
  | _ => 0

theorem Bx.one {w : World} {g : Nat} {s0 : Value} {t : TypeId} (h : Bx w g #[s0] t) : w.cell? ⟨g, 0, none⟩ = some s0 := h.cell 0

set_option maxHeartbeats 4000000 in
set_option maxRecDepth 100000 in
theorem grow_any (b off n c : Nat) (l : List Nat) (w : World) (hl : U64s w (some ⟨b, off, none⟩) n l) (hbw : b < w.heap.size) (hn0 : 1 ≤ n) (hn : n ≤ 1000) (hc : n ≤ c) :
    Calls Try.prog 66 #[.slice (some ⟨b, off, none⟩) n c] w fun e w' => ∃ a k cap, e = .returned (.agg #[.slice a k cap]) ∧ Hid (OwnLv w' (w.heap.size + 1) (fun q => q = b ∨ w.heap.size + 3 ≤ q) (.slice a k cap) (Mx.levels l)) ∧ Hid (Below w.heap.size w w') := by
  have HL := hide hl
  have HN := hide hl.1
  clear hl
  go_enter Try.func66, Try.ntmps66
  obtain ⟨w0, hw0⟩ : ∃ w0 : World, Hid (w0 = ((w.alloc (.cells #[.slice none 0 0] 60)).alloc (.cells #[.slice (some ⟨b, off, none⟩) n c] 120)).alloc (.cells #[.slice (some ⟨w.heap.size + 1, 0, none⟩) 1 1] 60)) := ⟨_, rfl⟩
  have R0 := hide (show Bx w0 w.heap.size #[.slice none 0 0] 60 by rw [hw0.out]; exact ((Bx.new w _ _).alloc _).alloc _)
  have T0 := hide (show Bx w0 (w.heap.size + 2) #[.slice (some ⟨w.heap.size + 1, 0, none⟩) 1 1] 60 by
    rw [hw0.out]
    have h := Bx.new ((w.alloc (.cells #[.slice none 0 0] 60)).alloc (.cells #[.slice (some ⟨b, off, none⟩) n c] 120)) #[.slice (some ⟨w.heap.size + 1, 0, none⟩) 1 1] 60
    rw [World.size_alloc, World.size_alloc] at h
    exact h)
  have B0 := hide (show Below w.heap.size w w0 by rw [hw0.out]; exact ((below_alloc _ _).alloc (by simp) _).alloc (by simp; omega) _)
  have L0 := hide (show OwnLv w0 (w.heap.size + 1) (fun q => q = b ∨ w.heap.size + 3 ≤ q) (.slice (some ⟨w.heap.size + 1, 0, none⟩) 1 1) [l] by
    rw [hw0.out]
    have h := OwnLv.one (w := w.alloc (.cells #[.slice none 0 0] 60)) (base := w.heap.size + 1) (P := fun q => q = b ∨ w.heap.size + 3 ≤ q) (by simp) (HL.out.later (below_alloc _ _)) hc hn0 (fun p hp => by cases hp; exact .inl rfl)
    rw [World.size_alloc] at h
    exact h.later (below_alloc _ _))
  have hsz0 : w.heap.size + 3 ≤ w0.heap.size := by rw [hw0.out]; simp
  go_wp2_with fail
  rw [← hw0.out]
  go_loopw [4] (fun lv wr => ∃ (f n' c' : Nat) (a' : Option Addr) (cur : List Nat) (pre : List (List Nat)) (vL : Value), lv = .slice a' n' c' ∧ n' ≤ 1000 ∧ Hid (cur.length ≤ f + 1 ∧ pre ++ Mx.growF f cur = Mx.levels l ∧ pre.length + n' ≤ n) ∧
      Hid (U64s wr a' n' cur ∧ n' ≤ c' ∧ 1 ≤ n' ∧ ∀ p, a' = some p → p.block = b ∨ w.heap.size + 3 ≤ p.block) ∧
      Hid (Bx wr (w.heap.size + 2) #[vL] 60 ∧ Bx wr w.heap.size #[.slice none 0 0] 60 ∧ OwnLv wr (w.heap.size + 1) (fun q => q = b ∨ w.heap.size + 3 ≤ q) vL (pre ++ [cur]) ∧ Below w.heap.size w wr)) (fun lv _ => sliceLen lv)
  case atStart => exact ⟨n, n, c, some ⟨b, off, none⟩, l, [], _, rfl, hn, ⟨by have := HN.out; omega, by rw [List.nil_append, Mx.levels, HN.out], by simp⟩, ⟨HL.out.later B0.out, hc, hn0, fun p hp => by cases hp; exact .inl rfl⟩, T0.out, R0.out, L0.out, B0.out⟩
  case round =>
    obtain ⟨f, n', c', a', cur, pre, vL, rfl, hn', hM, hU, hI⟩ := hrel
    by_cases hlt : (1 : Int) < n'
    · obtain ⟨b', off', ha, hbl, _⟩ := hU.out.1.2.2.2 (by omega)
      subst ha
      have HCL := hide hU.out.1.1
      go_wp2_with fail
      refine (over_any b' off' n' c' cur wr hU.out.1 (by omega) hn' hU.out.2.1).mono ?_
      rintro e W2 ⟨v2, rfl, hO2, hb2⟩
      obtain ⟨a2, cap2, hv2⟩ := hO2.out.form
      obtain ⟨N2, hN2⟩ : ∃ N2 : Nat, Hid (N2 = (Mx.overL cur).length) := ⟨_, rfl⟩
      rw [← hN2.out] at hv2
      subst hv2
      have hNlt : N2 + 1 ≤ n' ∧ 1 ≤ N2 := by
        have h := hN2.out
        rw [Mx.overL_len, HCL.out] at h
        omega
      have HR2 := hide (hO2.out.read (Mx.overL_lt cur))
      have hszr : w.heap.size + 3 ≤ wr.heap.size := by
        have := hI.out.1.lt
        omega
      have HP2 := hide (show ∀ p, a2 = some p → wr.heap.size ≤ p.block by
        intro p hp
        obtain ⟨b2, off2, ha2, _, _⟩ := HR2.out.1.2.2.2 (by omega)
        rcases hO2.out.2 with ⟨hv, _⟩ | ⟨g2, cap3, cur3, hv, hb3, _⟩
        · simp only [Value.slice.injEq] at hv
          rw [hv.1] at hp
          cases hp
        · simp only [Value.slice.injEq] at hv
          rw [hv.1] at hp
          cases hp
          exact hb3)
      have T2 := hide (hI.out.1.later hb2.out hI.out.1.lt)
      have R2 := hide (hI.out.2.1.later hb2.out hI.out.2.1.lt)
      obtain ⟨PC, hPC⟩ : ∃ PC : List (List Nat), Hid (PC = pre ++ [cur]) := ⟨_, rfl⟩
      have L2 := hide (show OwnLv W2 (w.heap.size + 1) (fun q => q = b ∨ w.heap.size + 3 ≤ q) vL PC by rw [hPC.out]; exact hI.out.2.2.1.later hb2.out)
      have B2 := hide (hI.out.2.2.2.trans (hb2.out.mono hI.out.2.2.2.size))
      have HVL := hide (show ∀ k, vL.ownBlock = some k → k < wr.heap.size from fun k hk => (World.ownsRow.lt hI.out.2.2.1.choose_spec.1 k hk).2)
      have t2 := T2.out.one
      have hs2 := hb2.out.size
      go_wp2_with (at_builtin; refine wpList_append_lv rfl _ _ rfl (w.heap.size + 1) (fun q => q = b ∨ w.heap.size + 3 ≤ q) PC ?o1 a2 N2 cap2 (Mx.overL cur) ?o2 ?o3 ?o4 ?o5 ?o6 ?o7 ?o8 ?_)
      case o1 => exact L2.out
      case o2 => exact HR2.out.1
      case o3 => exact HR2.out.2
      case o4 => exact hNlt.2
      case o5 =>
        intro p hp
        have h1 := HP2.out p hp
        exact ⟨fun e => by have := HVL.out _ e; omega, .inr (by omega)⟩
      case o6 => rfl
      case o7 => have := hM.out.2.2; rw [hPC.out, List.length_append, List.length_singleton]; omega
      case o8 => omega
      intro v4 W4 hown4 hgr4
      obtain ⟨a4, cap4, hv4⟩ := hown4.form
      obtain ⟨N4, hN4⟩ : ∃ N4 : Nat, Hid (N4 = (PC ++ [Mx.overL cur]).length) := ⟨_, rfl⟩
      rw [← hN4.out] at hv4
      subst hv4
      have HO4 := hide (show OwnLv W4 (w.heap.size + 1) (fun q => q = b ∨ w.heap.size + 3 ≤ q) (.slice a4 N4 cap4) (pre ++ [cur] ++ [Mx.overL cur]) by rw [← hPC.out]; exact hown4)
      have q1 := own_ne_bx L2.out.choose_spec.1 T2.out (by decide)
      have q2 := own_ne_bx L2.out.choose_spec.1 R2.out (by decide)
      have T4 := hide (show Bx W4 (w.heap.size + 2) #[vL] 60 from (hgr4.block _ T2.out.lt (fun e => q1 e.symm)).trans T2.out)
      have R4 := hide (show Bx W4 w.heap.size #[.slice none 0 0] 60 from (hgr4.block _ R2.out.lt (fun e => q2 e.symm)).trans R2.out)
      have B4 := hide (show Below w.heap.size w W4 from B2.out.grown hgr4 B2.out.size (fun k hk => by have := (World.ownsRow.lt L2.out.choose_spec.1 k hk).1; omega))
      have U4 := hide (show U64s W4 a2 N2 (Mx.overL cur) from HR2.out.1.grownBy hgr4 (fun p hp e => by have := HVL.out _ e; have := HP2.out p hp; omega))
      have q4 := own_ne_bx HO4.out.choose_spec.1 T4.out (by decide)
      have t4 := T4.out.one
      have z4 := T4.out.frozen
      obtain ⟨f', rfl⟩ : ∃ f', f = f' + 1 := by
        cases f with
        | zero => have := hM.out.1; have := HCL.out; omega
        | succ f => exact ⟨f, rfl⟩
      have HM5 := hide (show (Mx.overL cur).length ≤ f' + 1 ∧ pre ++ [cur] ++ Mx.growF f' (Mx.overL cur) = Mx.levels l ∧ (pre ++ [cur]).length + N2 ≤ n by
        obtain ⟨m1, m2, m3⟩ := hM.out
        have h1 := HCL.out
        have h2 := hN2.out
        refine ⟨by omega, ?_, by rw [List.length_append, List.length_singleton]; omega⟩
        rw [Mx.growF_more f' cur (by omega)] at m2
        rw [List.append_assoc]
        exact m2)
      clear hown4 hgr4 t2
      go_wp2_with fail
      go_roundw
      case rel =>
        refine ⟨f', N2, cap2, a2, Mx.overL cur, pre ++ [cur], .slice a4 N4 cap4, rfl, by omega, HM5, ⟨U4.out.setOther _ _ (fun p hp => ?_), HR2.out.2, hNlt.2, fun p hp => .inr (by have := HP2.out p hp; omega)⟩, T4.out.set 0 _, R4.out.other _ _ (by show w.heap.size ≠ w.heap.size + 2; omega), HO4.out.setOther _ _ q4 ?_, B4.out.setCell (p := ⟨w.heap.size + 2, 0, none⟩) (by show w.heap.size ≤ w.heap.size + 2; omega) _⟩
        · have := HP2.out p hp
          show p.block ≠ w.heap.size + 2
          omega
        · show ¬ (w.heap.size + 2 = b ∨ w.heap.size + 3 ≤ w.heap.size + 2)
          omega
      case measure => show N2 < n'; omega
    · have HE := hide (show pre ++ [cur] = Mx.levels l by
        have h1 := hU.out.1.1
        rw [← hM.out.2.1, Mx.growF_one f cur (by omega)])
      obtain ⟨aL, capL, hvL⟩ := hI.out.2.2.1.form
      obtain ⟨NL, hNL⟩ : ∃ NL : Nat, Hid (NL = (pre ++ [cur]).length) := ⟨_, rfl⟩
      rw [← hNL.out] at hvL
      subst hvL
      have t0 := hI.out.1.one
      have r0 := hI.out.2.1.one
      have rz := hI.out.2.1.frozen
      have q1 := own_ne_bx hI.out.2.2.1.choose_spec.1 hI.out.2.1 (by decide)
      go_wp2_with fail
      have r1 := (show Bx _ _ #[.slice aL NL capL] 60 from hI.out.2.1.set 0 (.slice aL NL capL)).one
      refine bodyPost_ret (v := .agg #[.slice aL NL capL]) (by simp [results, Try.results66, go_sem, r1]) rfl ⟨aL, NL, capL, rfl, ?_, hI.out.2.2.2.setCell (p := ⟨w.heap.size, 0, none⟩) (Nat.le_refl _) _⟩
      have h := hI.out.2.2.1.setOther ⟨w.heap.size, 0, none⟩ (.slice aL NL capL) q1 (by show ¬ (w.heap.size = b ∨ w.heap.size + 3 ≤ w.heap.size); omega)
      rw [HE.out] at h
      exact h
end Go.Proofs.Ytdhmijjphgcdmac
