/-
  A line: what is no longer under way (gone).
-/
import Derived.Deep.RegionLaw
import Derived.Test.YtfgonmgmoeoedaaZIter
import Derived.Test.YtfgonmgmoeoedaaZLn

namespace Go.Proofs.Ytfgonmgmoeoedaa
open Go.RowKit

/-- many more under way, as a step of a region -/
theorem step_append_nets {ops : Array Oper} {o : Oper} {a : Act} {w : World} {K : Act → World → Prop} {Q : Exit → Act → World → Prop} {E : Prop} (hgd : o.guard = none) (s x : Operand)
    (ho : o.op = .call { callee := .builtin .append, args := #[s, x], argTypes := #[54, 54] }) (P : Nat → Prop) (base g0 cap0 n0 : Nat) (ns : List (Bool × List Int)) (hs : a.eval s = .slice (some ⟨g0, 0, none⟩) n0 cap0) (hn0 : ns.length = n0) (hown : NetF P w base (.slice (some ⟨g0, 0, none⟩) n0 cap0) ns)
    (ad : Addr) (m c : Nat) (hx : a.eval x = .slice (some ad) m c) (ms : List (Bool × List Int)) (news : List Value) (hl : news.length = m * 2) (hnews : ∀ j u, news[j]? = some u → w.cell? (ad.add j) = some u) (h1 : ∀ u ∈ news, u.oneCell' = true)
    (hn : ∀ (i : Nat) (e : Bool × List Int), ms[i]? = some e → ∃ (a : Option Addr) (n c : Nat), news[i * 2]? = some (.bool e.1) ∧ news[i * 2 + 1]? = some (.slice a n c) ∧ Bytes w a n e.2 ∧ n ≤ c ∧ Av P a n) (hm : ms.length = m) (hd : ¬ P g0) (h63 : n0 + m ≤ 1000000) (hbase : base ≤ w.heap.size)
    (h : ∀ g cap w', NetF P w' base (.slice (some ⟨g, 0, none⟩) (n0 + m) cap) (ns ++ ms) → w.grownBy w' (some g0) → (g = g0 ∨ g = w.heap.size) → K (a.put o.dst (.slice (some ⟨g, 0, none⟩) (n0 + m) cap)) w') :
    if Region.wanted o (yielded ops a.tmps) = true then Oper.wp Try.prog o a w K Q else E := by
  subst hn0
  obtain ⟨i0, hi0, hz0, hz1, hz2⟩ := info_parts Try.info60
  obtain ⟨vs, k1, k2⟩ := hown
  have hw : Region.wanted o (yielded ops a.tmps) = true := by simp [Region.wanted, hgd]
  rw [if_pos hw]
  obtain ⟨v', w', hr, r2, r3, r4, r5⟩ := run_append_own_at (P := Try.prog) w base 54 o.type 60 i0 _ 2 32 Try.underlying54 hi0 hz0 hz1 hz2 rfl (by decide) (.slice (some ⟨g0, 0, none⟩) ns.length cap0) ns.length vs k1 ad m c news hl hnews h1 (by unfold maxLen; omega) (by omega) hbase
  have hv' : ∃ g cap, v' = .slice (some ⟨g, 0, none⟩) (ns.length + m) cap := by
    rcases r2.2 with ⟨e1, _⟩ | ⟨g, cap, _, e1, _⟩
    · have := (r4.1 e1).1
      cases this
    · exact ⟨g, cap, e1⟩
  obtain ⟨g, cap, rfl⟩ := hv'
  unfold Oper.wp execOp
  simp only [ho, resolve, invoke, builtin, Sem.run_bind, Sem.run_pure, Result.andThen_ok, List.map_toArray, List.map_cons, List.map_nil, hs, hx, hr]
  refine h g cap w' (NetF.more ⟨vs, k1, k2⟩ hn hm (fun vs' hvs' => ?_) r3 (fun k hk => ?_)) r3 ?_
  · obtain rfl : vs' = vs := by
      rcases k1.2 with ⟨hv1, _⟩ | ⟨g1, cap1, cur1, hv1, _, hg1, _, _, _, ht1⟩
      · cases hv1
      · rcases hvs'.2 with ⟨hv2, _⟩ | ⟨g2, cap2, cur2, hv2, _, hg2, _, _, _, ht2⟩
        · cases hv2
        · rw [hv1] at hv2
          simp only [Value.slice.injEq, Option.some.injEq, Addr.mk.injEq, and_true] at hv2
          obtain ⟨rfl, _, _⟩ := hv2
          rw [hg1] at hg2
          cases hg2
          rw [← ht1, ← ht2]
    exact r2
  · simp [Value.ownBlock] at hk
    subst hk
    exact hd
  · rcases r5 with r5 | r5
    · left
      simpa [Value.ownBlock] using r5
    · right
      simpa [Value.ownBlock] using r5

/-- parts of what is under way, read -/
theorem NetF.parts {P : Nat → Prop} {w : World} {base g N cap : Nat} {ns : List (Bool × List Int)} (h : NetF P w base (.slice (some ⟨g, 0, none⟩) N cap) ns) :
    ∃ vs : List Value, vs.length = N * 2 ∧ ns.length = N ∧ N ≤ cap ∧ base ≤ g ∧ g < w.heap.size ∧ (∀ u ∈ vs, u.oneCell' = true) ∧ (∀ j u, vs[j]? = some u → w.cell? ⟨g, j, none⟩ = some u) ∧ ∀ (i : Nat) (e : Bool × List Int), ns[i]? = some e → ∃ (a : Option Addr) (n c : Nat), vs[i * 2]? = some (.bool e.1) ∧ vs[i * 2 + 1]? = some (.slice a n c) ∧ Bytes w a n e.2 ∧ n ≤ c ∧ Av P a n := by
  obtain ⟨vs, h1, h2⟩ := h
  rcases h1.2 with ⟨h0, _⟩ | ⟨g', cap', cur, hv, hb, hg, hcap, hcm, hcs, htk⟩
  · cases h0
  · simp only [Value.slice.injEq, Option.some.injEq, Addr.mk.injEq, and_true] at hv
    obtain ⟨rfl, rfl, rfl⟩ := hv
    refine ⟨vs, h1.1, rfl, hcap, hb, (Array.getElem?_eq_some_iff.1 hg).1, fun u hu => ?_, fun j u hu => ?_, h2⟩
    · obtain ⟨j, hj, rfl⟩ := List.getElem_of_mem hu
      have hj2 : j < ns.length * 2 := by rw [← h1.1]; exact hj
      have hi : j / 2 < ns.length := by omega
      obtain ⟨a, n, c, e1, e2, _⟩ := h2 (j / 2) _ (List.getElem?_eq_getElem hi)
      have hju : vs[j]? = some vs[j] := List.getElem?_eq_getElem hj
      rcases Nat.mod_two_eq_zero_or_one j with hp | hp
      · rw [show j / 2 * 2 = j by omega, hju] at e1
        simp at e1
        rw [e1]
        rfl
      · rw [show j / 2 * 2 + 1 = j by omega, hju] at e2
        simp at e2
        rw [e2]
        rfl
    · have hj : j < ns.length * 2 := by rw [← h1.1]; exact (List.getElem?_eq_some_iff.1 hu).1
      rw [World.ownsRow.cellAt h1 j hj]
      exact hu

/-- a line in its box -/
def Lbx (w : World) (g : Nat) (ses base : Int) (qa : Option Addr) (qn qc : Nat) (want : Int) (nv cv : Value) (ok : Bool) : Prop :=
  Bx w g #[.int .i64 ses, .int .i64 base, .slice qa qn qc, .int .i64 ses, .int .i64 want, nv, cv, .bool ok] 56

theorem Lbx.cells {w : World} {g : Nat} {ses base : Int} {qa : Option Addr} {qn qc : Nat} {want : Int} {nv cv : Value} {ok : Bool} (h : Lbx w g ses base qa qn qc want nv cv ok) :
    w.cell? ⟨g, 0, none⟩ = some (.int .i64 ses) ∧ w.cell? ⟨g, 1, none⟩ = some (.int .i64 base) ∧ w.cell? ⟨g, 2, none⟩ = some (.slice qa qn qc) ∧ w.cell? ⟨g, 3, none⟩ = some (.int .i64 ses) ∧ w.cell? ⟨g, 4, none⟩ = some (.int .i64 want) ∧ w.cell? ⟨g, 5, none⟩ = some nv ∧ w.cell? ⟨g, 6, none⟩ = some cv ∧ w.cell? ⟨g, 7, none⟩ = some (.bool ok) :=
  ⟨h.cell 0, h.cell 1, h.cell 2, h.cell 3, h.cell 4, h.cell 5, h.cell 6, h.cell 7⟩

theorem take_erase {α : Type} (l : List α) (i : Nat) : l.take i ++ l.drop (i + 1) = l.eraseIdx i := by
  rw [List.eraseIdx_eq_take_drop_succ]

theorem Lbx.net {w : World} {g : Nat} {ses base : Int} {qa : Option Addr} {qn qc : Nat} {want : Int} {nv cv : Value} {ok : Bool} (h : Lbx w g ses base qa qn qc want nv cv ok) (nv' : Value) : Lbx (w.setCell ⟨g, 5, none⟩ nv') g ses base qa qn qc want nv' cv ok := Bx.set h 5 nv'

/-- where it ends -/
theorem lgone_end {a : Act} {w W0 w1 w2 : World} {g g1 g2 cap2 n2 : Nat} {ses base : Int} {qa : Option Addr} {qn qc : Nat} {want : Int} {nv cv : Value} {ok : Bool} {P : Nat → Prop} {B i k : Nat} {ns : List (Bool × List Int)} (ha : Hid (a.defers = [])) (hk : Hid (k = i + 1)) (HX : Hid (Lbx w g ses base qa qn qc want nv cv ok)) (hgw : g < w.heap.size) (HPG : Hid (¬ P g)) (D0 : Hid (Below w.heap.size w W0)) (S0 : Hid (W0.heap.size = w.heap.size + 1))
    (hn2 : NetF P w2 B (.slice (some ⟨g2, 0, none⟩) n2 cap2) (ns.take i ++ ns.drop k)) (hg1 : W0.grownBy w1 (some w.heap.size)) (hg2 : w1.grownBy w2 (some g1)) (hat1 : g1 = w.heap.size ∨ g1 = W0.heap.size) (hat2 : g2 = g1 ∨ g2 = w1.heap.size) :
    bodyPost Try.prog Try.f22 (fun e w' => e = .returned (.tuple #[]) ∧ ∃ g' n' cap', Hid (Lbx w' g ses base qa qn qc want (.slice (some ⟨g', 0, none⟩) n' cap') cv ok) ∧ Hid (NetF P w' B (.slice (some ⟨g', 0, none⟩) n' cap') (ns.eraseIdx i)) ∧ Hid (w.heap.size ≤ g') ∧ Hid (Ext (fun b => b = g) w w') ∧ Hid (∀ B0, B0 ≤ g → Below B0 w w')) .normal a (w2.setCell ⟨g, 5, none⟩ (.slice (some ⟨g2, 0, none⟩) n2 cap2)) := by
  have h0 := S0.out
  have hs1 := hg1.size
  have hs2 := hg2.size
  have hg2' : w.heap.size ≤ g2 := by rcases hat1 with rfl | rfl <;> rcases hat2 with rfl | rfl <;> omega
  have hne1 : ∀ b, b < w.heap.size → some b ≠ some w.heap.size := fun b hb e => by have := Option.some.inj e; omega
  have hne2 : ∀ b, b < w.heap.size → some b ≠ some g1 := fun b hb e => by have := Option.some.inj e; rcases hat1 with rfl | rfl <;> omega
  have hblk : ∀ b, b < w.heap.size → w2.heap[b]? = w.heap[b]? := fun b hb => (hg2.block b (by omega) (hne2 b hb)).trans ((hg1.block b (by omega) (hne1 b hb)).trans (D0.out.block b hb))
  have hx2 : Lbx w2 g ses base qa qn qc want nv cv ok := (hblk g hgw).trans HX.out
  have hxs : Ext (fun b => b = g) w2 (w2.setCell ⟨g, 5, none⟩ (.slice (some ⟨g2, 0, none⟩) n2 cap2)) := ⟨by simp, fun b _ hb => Below.heap_setCell w2 _ _ b (fun e => hb e)⟩
  refine bodyPost_end (v := .tuple #[]) (by simp [results, Try.results22, go_sem]) ha.out ⟨rfl, g2, n2, cap2, Lbx.net hx2 _, ?_, hg2', ⟨by simp; omega, fun b hb hne => (hxs.block b (by omega) hne).trans (hblk b hb)⟩, fun B0 hB => ?_⟩
  · have h1 := hn2.ext hxs (fun b _ hb e => HPG.out (by subst e; exact hb)) (fun k hk e => by simp [Value.ownBlock] at hk; omega)
    rw [hk.out, take_erase] at h1
    exact h1
  · have hBw : B0 ≤ w.heap.size := by omega
    exact (((D0.out.mono hBw).grown hg1 (by omega) (fun k hk => by have := Option.some.inj hk; omega)).grown hg2 (by omega) (fun k hk => by have := Option.some.inj hk; rcases hat1 with rfl | rfl <;> omega)).setCell (p := ⟨g, 5, none⟩) hB _

set_option maxHeartbeats 16000000 in
set_option maxRecDepth 100000 in
theorem lgone_any (g : Nat) (ses base : Int) (qa : Option Addr) (qn qc : Nat) (want : Int) (cv : Value) (ok : Bool) (P : Nat → Prop) (B gN N cap i : Nat) (ns : List (Bool × List Int)) (w : World) (hx : Lbx w g ses base qa qn qc want (.slice (some ⟨gN, 0, none⟩) N cap) cv ok) (hn : NetF P w B (.slice (some ⟨gN, 0, none⟩) N cap) ns) (hi : i < N) (hN : N ≤ 100000) (hPw : ∀ b, P b → b < w.heap.size) (hPg : ¬ P g) (hBw : B ≤ w.heap.size) :
    Calls Try.prog 22 #[.pointer (some ⟨g, 0, none⟩), .int .i64 (i : Int)] w fun e w' => e = .returned (.tuple #[]) ∧ ∃ g' n' cap', Hid (Lbx w' g ses base qa qn qc want (.slice (some ⟨g', 0, none⟩) n' cap') cv ok) ∧ Hid (NetF P w' B (.slice (some ⟨g', 0, none⟩) n' cap') (ns.eraseIdx i)) ∧ Hid (w.heap.size ≤ g') ∧ Hid (Ext (fun b => b = g) w w') ∧ Hid (∀ B0, B0 ≤ g → Below B0 w w') := by
  obtain ⟨vs, v1, v2, v3, v4, v5, v6, v7, v8⟩ := hn.parts
  obtain ⟨k, hk⟩ : ∃ k : Nat, Hid (k = i + 1) := ⟨_, rfl⟩
  have hk' := hk.out
  obtain ⟨W0, hW0⟩ : ∃ W0 : World, Hid (W0 = (w.alloc (.cells #[] 60)).drew) := ⟨_, rfl⟩
  have S0 := hide (show W0.heap.size = w.heap.size + 1 by rw [hW0.out]; simp)
  have D0 := hide (show Below w.heap.size w W0 by rw [hW0.out]; exact (below_alloc _ _).drew)
  have N0 := hide (show NetF P W0 B (.slice (some ⟨w.heap.size, 0, none⟩) 0 0) [] by
    rw [hW0.out]
    exact ⟨[], World.ownsRow_lit (base := B) (e := 60) (size := 2) w #[] 0 hBw (by unfold maxLen; omega) rfl, fun i e he => by simp at he⟩)
  have C1 := hide (show ∀ j u, (vs.take (i * 2))[j]? = some u → W0.cell? ((⟨gN, 0, none⟩ : Addr).add j) = some u from fun j u hu => by
    have hj : j < i * 2 := by have h1 := (List.getElem?_eq_some_iff.1 hu).1; simp at h1; omega
    rw [List.getElem?_take_of_lt hj] at hu
    rw [Addr.add_lit, Nat.zero_add, D0.out.cell (p := ⟨gN, j, none⟩) v5]
    exact v7 j u hu)
  have R1 := hide (show ∀ (j : Nat) (e : Bool × List Int), (ns.take i)[j]? = some e → ∃ (a : Option Addr) (n c : Nat), (vs.take (i * 2))[j * 2]? = some (.bool e.1) ∧ (vs.take (i * 2))[j * 2 + 1]? = some (.slice a n c) ∧ Bytes W0 a n e.2 ∧ n ≤ c ∧ Av P a n from fun j e he => by
    have hj : j < i := by have h1 := (List.getElem?_eq_some_iff.1 he).1; simp at h1; omega
    rw [List.getElem?_take_of_lt hj] at he
    obtain ⟨a, n, c, e1, e2, e3, e4, e5⟩ := v8 j e he
    exact ⟨a, n, c, by rw [List.getElem?_take_of_lt (by omega)]; exact e1, by rw [List.getElem?_take_of_lt (by omega)]; exact e2, e3.later D0.out, e4, e5⟩)
  have O1 := hide (show ∀ u ∈ vs.take (i * 2), u.oneCell' = true from fun u hu => v6 u (List.mem_of_mem_take hu))
  have O2 := hide (show ∀ u ∈ vs.drop (k * 2), u.oneCell' = true from fun u hu => v6 u (List.mem_of_mem_drop hu))
  have L1 := hide (show (vs.take (i * 2)).length = i * 2 by simp; omega)
  have L2 := hide (show (vs.drop (k * 2)).length = (N - k) * 2 by simp; omega)
  have L3 := hide (show (ns.take i).length = i by simp; omega)
  have L4 := hide (show (ns.drop k).length = N - k by simp; omega)
  have PN := hide (show ¬ P w.heap.size from fun h => Nat.lt_irrefl _ (hPw _ h))
  have C2 := hide (show ∀ w1, W0.grownBy w1 (some w.heap.size) → ∀ j u, (vs.drop (k * 2))[j]? = some u → w1.cell? ⟨gN, k * 2 + j, none⟩ = some u from fun w1 hg j u hu => by
    rw [List.getElem?_drop] at hu
    have hne : some gN ≠ some w.heap.size := fun e => by have := Option.some.inj e; omega
    rw [hg.cell_far ⟨gN, k * 2 + j, none⟩ (Nat.lt_of_lt_of_le v5 D0.out.size) hne, D0.out.cell (p := ⟨gN, k * 2 + j, none⟩) v5]
    exact v7 _ u hu)
  have R2 := hide (show ∀ w1, W0.grownBy w1 (some w.heap.size) → ∀ (j : Nat) (e : Bool × List Int), (ns.drop k)[j]? = some e → ∃ (a : Option Addr) (n c : Nat), (vs.drop (k * 2))[j * 2]? = some (.bool e.1) ∧ (vs.drop (k * 2))[j * 2 + 1]? = some (.slice a n c) ∧ Bytes w1 a n e.2 ∧ n ≤ c ∧ Av P a n from fun w1 hg j e he => by
    rw [List.getElem?_drop] at he
    obtain ⟨a, n, c, e1, e2, e3, e4, e5⟩ := v8 _ e he
    refine ⟨a, n, c, by rw [List.getElem?_drop, ← Nat.add_mul]; exact e1, by rw [List.getElem?_drop, show k * 2 + (j * 2 + 1) = (k + j) * 2 + 1 by omega]; exact e2, (e3.later D0.out).ext (Ext.grown hg) e5 (fun b _ hb e => ?_), e4, e5⟩
    have h1 := hPw b hb
    have h2 := Option.some.inj e
    omega)
  have HX := hide hx
  have V2 := hide v2
  have HBW := hide (show B ≤ W0.heap.size by rw [S0.out]; omega)
  obtain ⟨x0, x1, x2, x3, x4, x5, x6, x7⟩ := hx.cells
  have hgw : g < w.heap.size := Bx.lt hx
  have xz := Bx.frozen HX.out
  have HPW := hide hPw
  have HPG := hide hPg
  clear v1 v2 v6 v7 v8 hx hn x0 x1 x2 x3 x4 x6 x7 hPw hPg
  have hi1 : (i : Int) ≤ cap := by omega
  have hi2 : (k : Int) ≤ N := by omega
  have hi3 : (k : Int) ≤ cap := by omega
  have hwi : IntKind.i64.wrap ((i : Int) + 1) = (k : Int) := by rw [IntWalk.i64_left, IntWalk.wrap64_in _ (by omega)]; omega
  have hiN : i + (N - k) ≤ 1000000 := by omega
  have hi6 : 0 + i ≤ 1000000 := by omega
  clear hk'
  go_enter Try.func22, Try.ntmps22
  by_cases hce : cap = k
  · subst hce
    obtain rfl : N = cap := by omega
    have hnk : N - N = 0 := by omega
    have hi7 : i + 0 ≤ 1000000 := by omega
    have hde : ns.drop N = [] := List.drop_of_length_le (by rw [V2.out]; omega)
    have HDE := hide hde
    clear hde
    go_upto_region 0 with fail
    go_region_law (first
        | (rw [← hW0.out]; refine step_append_nets rfl (.tmp 5) (.tmp 11) rfl P B w.heap.size 0 0 [] rfl rfl N0.out ⟨gN, 0, none⟩ i N rfl (ns.take i) (vs.take (i * 2)) L1.out C1.out O1.out R1.out L3.out PN.out hi6 HBW.out ?_; intro g1 cap1 w1 hn1 hg1 hat1; rw [Nat.zero_add] at hn1 ⊢; rw [List.nil_append] at hn1; have y5 := (hg1.cell_far ⟨g, 5, none⟩ (Nat.lt_of_lt_of_le hgw D0.out.size) (fun e => Nat.lt_irrefl w.heap.size (by have h9 := Option.some.inj e; simp at h9; omega))).trans ((D0.out.cell (p := ⟨g, 5, none⟩) hgw).trans x5); have PN1 := hide (show ¬ P g1 from fun h => (by have h1 := HPW.out _ h; have h2 := S0.out; rcases hat1 with rfl | rfl <;> omega)); have HBW1 := hide (Nat.le_trans HBW.out hg1.size))
        | (refine step_append_nets rfl (.tmp 12) (.tmp 19) rfl P B g1 cap1 i (ns.take i) rfl L3.out hn1 ⟨gN, 0, none⟩ 0 0 rfl [] [] rfl (fun j u hu => by simp at hu) (fun u hu => by simp at hu) (fun j e he => by simp at he) rfl PN1.out hi7 HBW1.out ?_; intro g2 cap2 w2 hn2 hg2 hat2; have hfar : (some g : Option Nat) ≠ some g1 := (fun e => Nat.lt_irrefl w.heap.size (by have h9 := Option.some.inj e; have h8 := S0.out; rcases hat1 with rfl | rfl <;> omega)); have hgw1 := Nat.lt_of_lt_of_le hgw (Nat.le_trans D0.out.size hg1.size); have z5 := (hg2.cell_far ⟨g, 5, none⟩ hgw1 hfar).trans y5; have zz := ((hg2.frozen_far ⟨g, 5, none⟩ hgw1 hfar).trans ((hg1.frozen_far ⟨g, 5, none⟩ (Nat.lt_of_lt_of_le hgw D0.out.size) (fun e => Nat.lt_irrefl w.heap.size (by have h9 := Option.some.inj e; simp at h9; omega))).trans ((D0.out.frozen (p := ⟨g, 5, none⟩) hgw).trans (xz 5))))))
    all_goals
      clear z5 zz y5
      refine lgone_end (hide rfl) hk HX hgw HPG D0 S0 (by rw [HDE.out]; exact hn2) hg1 hg2 hat1 hat2
  · go_upto_region 0 with fail
    go_region_law (first
        | (rw [← hW0.out]; refine step_append_nets rfl (.tmp 5) (.tmp 11) rfl P B w.heap.size 0 0 [] rfl rfl N0.out ⟨gN, 0, none⟩ i cap rfl (ns.take i) (vs.take (i * 2)) L1.out C1.out O1.out R1.out L3.out PN.out hi6 HBW.out ?_; intro g1 cap1 w1 hn1 hg1 hat1; rw [Nat.zero_add] at hn1 ⊢; rw [List.nil_append] at hn1; have y5 := (hg1.cell_far ⟨g, 5, none⟩ (Nat.lt_of_lt_of_le hgw D0.out.size) (fun e => Nat.lt_irrefl w.heap.size (by have h9 := Option.some.inj e; simp at h9; omega))).trans ((D0.out.cell (p := ⟨g, 5, none⟩) hgw).trans x5); have PN1 := hide (show ¬ P g1 from fun h => (by have h1 := HPW.out _ h; have h2 := S0.out; rcases hat1 with rfl | rfl <;> omega)); have HBW1 := hide (Nat.le_trans HBW.out hg1.size))
        | (refine step_append_nets rfl (.tmp 12) (.tmp 19) rfl P B g1 cap1 i (ns.take i) rfl L3.out hn1 ⟨gN, k * 2, none⟩ (N - k) (cap - k) rfl (ns.drop k) (vs.drop (k * 2)) L2.out (fun j u hu => by rw [Addr.add_lit]; exact C2.out w1 hg1 j u hu) O2.out (R2.out w1 hg1) L4.out PN1.out hiN HBW1.out ?_; intro g2 cap2 w2 hn2 hg2 hat2; have hfar : (some g : Option Nat) ≠ some g1 := (fun e => Nat.lt_irrefl w.heap.size (by have h9 := Option.some.inj e; have h8 := S0.out; rcases hat1 with rfl | rfl <;> omega)); have hgw1 := Nat.lt_of_lt_of_le hgw (Nat.le_trans D0.out.size hg1.size); have z5 := (hg2.cell_far ⟨g, 5, none⟩ hgw1 hfar).trans y5; have zz := ((hg2.frozen_far ⟨g, 5, none⟩ hgw1 hfar).trans ((hg1.frozen_far ⟨g, 5, none⟩ (Nat.lt_of_lt_of_le hgw D0.out.size) (fun e => Nat.lt_irrefl w.heap.size (by have h9 := Option.some.inj e; simp at h9; omega))).trans ((D0.out.frozen (p := ⟨g, 5, none⟩) hgw).trans (xz 5))))))
    all_goals
      clear z5 zz y5
      refine lgone_end (hide rfl) hk HX hgw HPG D0 S0 hn2 hg1 hg2 hat1 hat2
end Go.Proofs.Ytfgonmgmoeoedaa

/-
  A line: its state, and what is sent on it (send).
-/
namespace Go.Proofs.Ytfgonmgmoeoedaa
open Go.RowKit

/-- neither the line's own box nor one of its rows -/
def Pf (g : Nat) (nv cv : Value) (b : Nat) : Prop := b ≠ g ∧ nv.ownBlock ≠ some b ∧ cv.ownBlock ≠ some b

/-- a line's state; X: blocks that it has nothing to do with -/
structure LnW (X : Nat → Prop) (w0 w : World) (g : Nat) (ses base : Int) (q : List Fr) (want : Int) (ns : List (Bool × List Int)) (cm : List Int) (ok : Bool) (qa : Option Addr) (qn qc : Nat) (nv cv : Value) : Prop where
  bx : Lbx w g ses base qa qn qc want nv cv ok
  room : qn ≤ qc
  fl : FLF (Pf g nv cv) w qa qn q
  net : NetF (Pf g nv cv) w w0.heap.size nv ns
  row : w.ownsRow w0.heap.size 3 1 cv cm.length (cm.map (Value.int .i64))
  gw : w0.heap.size ≤ g
  bl : Below w0.heap.size w0 w
  xn : ∀ k, nv.ownBlock = some k → ¬ X k
  xc : ∀ k, cv.ownBlock = some k → ¬ X k
  xg : ¬ X g
  xw : ∀ b, X b → b < w.heap.size

section
variable {X : Nat → Prop} {w0 w : World} {g : Nat} {ses base : Int} {q : List Fr} {want : Int} {ns : List (Bool × List Int)} {cm : List Int} {ok : Bool} {qa : Option Addr} {qn qc : Nat} {nv cv : Value}

theorem LnW.nne (h : LnW X w0 w g ses base q want ns cm ok qa qn qc nv cv) : nv.ownBlock ≠ some g := by
  obtain ⟨vs, h1, _⟩ := h.net
  exact own_ne_bx h1 h.bx (by decide)

theorem LnW.cne (h : LnW X w0 w g ses base q want ns cm ok qa qn qc nv cv) : cv.ownBlock ≠ some g := own_ne_bx h.row h.bx (by decide)

theorem LnW.cn (h : LnW X w0 w g ses base q want ns cm ok qa qn qc nv cv) : ∀ k, nv.ownBlock = some k → cv.ownBlock ≠ some k := by
  obtain ⟨vs, h1, _⟩ := h.net
  intro k hk hc
  rcases h1.2 with ⟨hv, _⟩ | ⟨g', cap, cur, hv, _, hh, _⟩
  · rw [hv] at hk
    cases hk
  · rw [hv] at hk
    simp [Value.ownBlock] at hk
    subst hk
    rcases h.row.2 with ⟨hv2, _⟩ | ⟨g2, cap2, cur2, hv2, _, hh2, _⟩
    · rw [hv2] at hc
      cases hc
    · rw [hv2] at hc
      simp [Value.ownBlock] at hc
      subst hc
      rw [hh] at hh2
      simp at hh2

theorem LnW.later {w' : World} (h : LnW X w0 w g ses base q want ns cm ok qa qn qc nv cv) (hb : Below w.heap.size w w') : LnW X w0 w' g ses base q want ns cm ok qa qn qc nv cv where
  bx := Bx.later h.bx hb (Bx.lt h.bx)
  room := h.room
  fl := h.fl.ext (S := fun _ => False) (Ext.below hb) (fun _ _ _ e => e)
  net := h.net.ext (S := fun _ => False) (Ext.below hb) (fun _ _ _ e => e) (fun _ _ e => e)
  row := Ext.own (S := fun _ => False) (Ext.below hb) h.row (fun _ _ e => e)
  gw := h.gw
  bl := h.bl.trans (hb.mono h.bl.size)
  xn := h.xn
  xc := h.xc
  xg := h.xg
  xw := fun b hx => Nat.lt_of_lt_of_le (h.xw b hx) hb.size

/-- other blocks with which it has nothing to do -/
theorem LnW.withX {Y : Nat → Prop} (h : LnW X w0 w g ses base q want ns cm ok qa qn qc nv cv) (hn : ∀ k, nv.ownBlock = some k → ¬ Y k) (hc : ∀ k, cv.ownBlock = some k → ¬ Y k) (hg : ¬ Y g) (hw : ∀ b, Y b → b < w.heap.size) : LnW Y w0 w g ses base q want ns cm ok qa qn qc nv cv :=
  { h with xn := hn, xc := hc, xg := hg, xw := hw }

theorem LnW.noX (h : LnW X w0 w g ses base q want ns cm ok qa qn qc nv cv) : LnW (fun _ => False) w0 w g ses base q want ns cm ok qa qn qc nv cv :=
  h.withX (fun _ _ e => e) (fun _ _ e => e) (fun e => e) (fun _ e => e.elim)

/-- what was under way before the append, and what is known of it -/
def Pb (g : Nat) (nv cv : Value) (w : World) (b : Nat) : Prop := Pf g nv cv b ∧ b < w.heap.size

theorem LnW.pb (h : LnW X w0 w g ses base q want ns cm ok qa qn qc nv cv) : NetF (Pb g nv cv w) w w0.heap.size nv ns := h.net.bound

/-- a new row of what is under way, stored -/
theorem LnW.netted {w' : World} {g' n cap : Nat} {ms : List (Bool × List Int)} (h : LnW X w0 w g ses base q want ns cm ok qa qn qc nv cv) (hn : NetF (Pb g nv cv w) w' w0.heap.size (.slice (some ⟨g', 0, none⟩) n cap) ms) (hg : w.grownBy w' nv.ownBlock) (hat : nv.ownBlock = some g' ∨ g' = w.heap.size) :
    LnW X w0 (w'.setCell ⟨g, 5, none⟩ (.slice (some ⟨g', 0, none⟩) n cap)) g ses base q want ms cm ok qa qn qc (.slice (some ⟨g', 0, none⟩) n cap) cv := by
  have hgw : g < w.heap.size := Bx.lt h.bx
  have hx1 := Ext.grown hg
  have hxs : Ext (fun b => b = g) w' (w'.setCell ⟨g, 5, none⟩ (.slice (some ⟨g', 0, none⟩) n cap)) := ⟨by simp, fun b _ hb => Below.heap_setCell w' _ _ b (fun e => hb e)⟩
  have hg'g : g' ≠ g := by
    rcases hat with h1 | h1
    · intro e
      subst e
      exact h.nne h1
    · omega
  have hpf : ∀ b, Pb g nv cv w b → Pf g (.slice (some ⟨g', 0, none⟩) n cap) cv b := fun b hb => by
    refine ⟨hb.1.1, fun e => ?_, hb.1.2.2⟩
    have h1 : g' = b := by simpa [Value.ownBlock] using e
    rcases hat with h2 | h2
    · rw [h1] at h2
      exact hb.1.2.1 h2
    · have := hb.2
      omega
  have hbx' : Lbx w' g ses base qa qn qc want nv cv ok := hx1.bx h.bx (fun e => h.nne e.symm)
  refine ⟨Lbx.net hbx' _, h.room, ?_, ?_, ?_, h.gw, ?_, fun k hk => ?_, h.xc, h.xg, fun b hb => ?_⟩
  · have h1 := h.fl.bound.ext hx1 (fun b _ hb e => hb.1.2.1 e.symm)
    have h2 := h1.ext hxs (fun b _ hb e => hb.1.1 e)
    exact h2.imp fun b _ hb => hpf b hb
  · exact (hn.ext hxs (fun b _ hb e => hb.1.1 e) (fun k hk e => hg'g (by simp [Value.ownBlock] at hk; omega))).imp fun b _ hb => hpf b hb
  · refine hxs.own (hx1.own h.row (fun k hk e => h.cn k e.symm hk)) (fun k hk e => h.cne (by rw [hk, e]))
  · exact (h.bl.grown hg h.bl.size (fun k hk => (h.net.lt k hk).1)).setCell (p := ⟨g, 5, none⟩) h.gw _
  · have h1 : g' = k := by simpa [Value.ownBlock] using hk
    rcases hat with h2 | h2
    · rw [h1] at h2
      exact h.xn k h2
    · intro hx
      have := h.xw k hx
      omega
  · have h1 := h.xw b hb
    have h2 := hg.size
    simp
    omega

theorem LnW.set {w' : World} {o : Nat} {v : Value} {base' : Int} {want' : Int} {ok' : Bool} {qa' : Option Addr} {qn' qc' : Nat} {q' : List Fr} (h : LnW X w0 w g ses base q want ns cm ok qa qn qc nv cv) (hw : w' = w.setCell ⟨g, o, none⟩ v) (hb : Lbx w' g ses base' qa' qn' qc' want' nv cv ok') (hq : qa' = qa ∧ qn' = qn ∧ qc' = qc ∧ q' = q) : LnW X w0 w' g ses base' q' want' ns cm ok' qa' qn' qc' nv cv := by
  obtain ⟨rfl, rfl, rfl, rfl⟩ := hq
  subst hw
  have hxs : Ext (fun b => b = g) w (w.setCell ⟨g, o, none⟩ v) := ⟨by simp, fun b _ hb => Below.heap_setCell w _ _ b (fun e => hb e)⟩
  refine ⟨hb, h.room, h.fl.ext hxs (fun b _ hb e => hb.1 e), h.net.ext hxs (fun b _ hb e => hb.1 e) (fun k hk e => h.nne (by rw [hk, e])), hxs.own h.row (fun k hk e => h.cne (by rw [hk, e])), h.gw, h.bl.setCell (p := ⟨g, o, none⟩) h.gw _, h.xn, h.xc, h.xg, fun b hb => by simpa using h.xw b hb⟩

end

/-- rows of bytes, read, all of it in blocks of which P holds -/
def BnF (P : Nat → Prop) (w : World) (a : Option Addr) (k : Nat) (ls : List (List Int)) : Prop :=
  ls.length = k ∧ k ≤ maxLen ∧ (0 < k → ∃ b off, a = some ⟨b, off, none⟩ ∧ P b ∧ b < w.heap.size ∧ ∀ i l, ls[i]? = some l → ∃ ai ni ci, w.cell? ⟨b, off + i, none⟩ = some (.slice ai ni ci) ∧ Bytes w ai ni l ∧ ni ≤ ci ∧ Av P ai ni)

theorem BnF.ext {S P : Nat → Prop} {w w' : World} {a : Option Addr} {k : Nat} {ls : List (List Int)} (h : BnF P w a k ls) (hx : Ext S w w') (hd : ∀ b, b < w.heap.size → P b → ¬ S b) : BnF P w' a k ls := by
  obtain ⟨h1, h2, h4⟩ := h
  refine ⟨h1, h2, fun hp => ?_⟩
  obtain ⟨b, off, ha, hb, hlt, hc⟩ := h4 hp
  refine ⟨b, off, ha, hb, Nat.lt_of_lt_of_le hlt hx.size, fun i l hl => ?_⟩
  obtain ⟨ai, ni, ci, e1, e2, e3, e4⟩ := hc i l hl
  exact ⟨ai, ni, ci, (hx.cell hlt (hd b hlt hb)).trans e1, e2.ext hx e4 hd, e3, e4⟩

theorem BnF.at_ {P : Nat → Prop} {w : World} {a : Option Addr} {k : Nat} {ls : List (List Int)} (h : BnF P w a k ls) (i : Nat) (hi : i < k) :
    ∃ b off l ai ni ci, a = some ⟨b, off, none⟩ ∧ b < w.heap.size ∧ P b ∧ ls[i]? = some l ∧ w.cell? ⟨b, off + i, none⟩ = some (.slice ai ni ci) ∧ Bytes w ai ni l ∧ ni ≤ ci ∧ Av P ai ni := by
  obtain ⟨h1, h2, h4⟩ := h
  obtain ⟨b, off, ha, hb, hlt, hc⟩ := h4 (by omega)
  have hl : ls[i]? = some ls[i] := List.getElem?_eq_getElem (by omega)
  obtain ⟨ai, ni, ci, c1, c2, c3, c4⟩ := hc i _ hl
  exact ⟨b, off, ls[i], ai, ni, ci, ha, hlt, hb, hl, c1, c2, c3, c4⟩

theorem OwnBn.bnf {B : Nat} {w : World} {base : Nat} {v : Value} {ls : List (List Int)} (h : OwnBn B w base v ls) (hb : ∀ l ∈ ls, ∀ x ∈ l, 0 ≤ x ∧ x ≤ 255) (hB : B ≤ base) : ∃ a c, v = .slice a ls.length c ∧ ls.length ≤ c ∧ BnF (fun b => B ≤ b ∧ b < w.heap.size) w a ls.length ls := by
  have hlt := h.lt
  obtain ⟨vs, h1, h2⟩ := h
  obtain ⟨a, c, hv, hle, hr, _⟩ := ownsRow_rowR h1
  refine ⟨a, c, hv, hle, rfl, hr.2.1, fun h0 => ?_⟩
  obtain ⟨b, off, ha, hblt, hc⟩ := hr.2.2 h0
  have hbB : B ≤ b := by
    have h3 := (hlt b (by rw [hv, ha]; rfl)).1
    omega
  refine ⟨b, off, ha, ⟨hbB, hblt⟩, hblt, fun i l hl => ?_⟩
  obtain ⟨ai, ni, ci, e1, e2, e3, e4⟩ := h2 i l hl
  have hby := e2.bytes (hb l (List.mem_of_getElem? hl))
  exact ⟨ai, ni, ci, hc _ _ e1, hby, e3, fun hn p hp => ⟨(e4 hn p hp).2, hby.ltA hn p hp⟩⟩

end Go.Proofs.Ytfgonmgmoeoedaa

/-
  A line: all of the window is sent (send).
-/
namespace Go.Proofs.Ytfgonmgmoeoedaa
open Go.RowKit

theorem Lbx.okd {w : World} {g : Nat} {ses base : Int} {qa : Option Addr} {qn qc : Nat} {want : Int} {nv cv : Value} {ok : Bool} (h : Lbx w g ses base qa qn qc want nv cv ok) (ok' : Bool) : Lbx (w.setCell ⟨g, 7, none⟩ (.bool ok')) g ses base qa qn qc want nv cv ok' := Bx.set h 7 _

set_option maxHeartbeats 16000000 in
set_option maxRecDepth 100000 in
theorem lnsend_any (w0 w : World) (g : Nat) (ses base : Int) (q : List Fr) (want : Int) (ns : List (Bool × List Int)) (cm : List Int) (qa : Option Addr) (qn qc : Nat) (nv cv : Value) (h : LnW (fun _ => False) w0 w g ses base q want ns cm true qa qn qc nv cv) (hs : Mx.sendE ⟨ses, base, q⟩ = 0) (hby : ∀ l ∈ Mx.sendL ⟨ses, base, q⟩, ∀ x ∈ l, 0 ≤ x ∧ x ≤ 255) (hln : (Mx.sendL ⟨ses, base, q⟩).length ≤ 100) (hnl : ns.length ≤ 1000) :
    Calls Try.prog 20 #[.pointer (some ⟨g, 0, none⟩)] w fun e w' => e = .returned (.tuple #[]) ∧ ∃ nv', Hid (LnW (fun _ => False) w0 w' g ses base q want (ns ++ (Mx.sendL ⟨ses, base, q⟩).map (fun l => (true, l))) cm true qa qn qc nv' cv) := by
  have HH := hide h
  have HBY := hide hby
  have HS := hide hs
  obtain ⟨x0, x1, x2, x3, x4, x5, x6, x7⟩ := h.bx.cells
  have hgw : g < w.heap.size := Bx.lt h.bx
  clear h hby hs
  go_enter Try.func20, Try.ntmps20
  change TailG Try.f20 _ 0 _ w
  refine tailG_step rfl ?_
  intro K hK
  go_wp2_with fail
  refine (lsend_any ses base qa qn qc q w HH.out.fl.fl HH.out.room).mono ?_
  rintro e w1 ⟨v1, rfl, O1, D1⟩
  obtain ⟨la, lc, rfl, hlc, hbn⟩ := O1.out.bnf HBY.out (Nat.le_refl _)
  obtain ⟨ln, hlne⟩ : ∃ ln : Nat, Hid (ln = (Mx.sendL ⟨ses, base, q⟩).length) := ⟨_, rfl⟩
  rw [← hlne.out] at hlc hbn hln ⊢
  rw [HS.out, errV_zero]
  have H1 := hide ((HH.out.later D1.out).withX (Y := fun b => w.heap.size ≤ b ∧ b < w1.heap.size) (fun k hk hx => by have := (HH.out.net.lt k hk).2; omega) (fun k hk hx => by have := (World.ownsRow.lt HH.out.row k hk).2; omega) (fun hx => by omega) (fun b hx => hx.2))
  have BN := hide hbn
  clear x0 x1 x2 x3 x4 x5 x6 x7 hbn O1
  go_wp2_with fail
  refine Met.intro (tailG_step rfl ?_)
  try clear hK K
  intro K hK
  obtain ⟨x0, x1, x2, x3, x4, x5, x6, x7⟩ := H1.out.bx.cells
  have xz := Bx.frozen H1.out.bx
  obtain ⟨W2, hW2⟩ : ∃ W2 : World, Hid (W2 = w1.setCell ⟨g, 7, none⟩ (.bool true)) := ⟨_, rfl⟩
  have H2 := hide (H1.out.set (v := .bool true) hW2.out (by rw [hW2.out]; exact Lbx.okd H1.out.bx true) ⟨rfl, rfl, rfl, rfl⟩)
  have BN2 := hide (show BnF (fun b => w.heap.size ≤ b ∧ b < w1.heap.size) W2 la ln (Mx.sendL ⟨ses, base, q⟩) by
    rw [hW2.out]
    exact BN.out.ext (S := fun b => b = g) ⟨by simp, fun b _ hb => Below.heap_setCell w1 _ _ b (fun e => hb e)⟩ (fun b _ hb e => by omega))
  go_wp2_with fail
  rw [← hW2.out]
  refine Met.intro (tailG_step rfl ?_)
  try clear hK K
  intro K hK
  clear x0 x1 x2 x3 x4 x5 x6 x7 xz
  go_wp2_with fail
  refine Met.intro (tailG_last (c := .block _ _) rfl ?_)
  try clear hK
  try clear K
  go_wp2_with fail
  go_loopw [4] (fun t wr => ∃ (k : Nat) (nv' : Value), k ≤ ln ∧ t = .int .i64 (k : Int) ∧ Hid (LnW (fun b => w.heap.size ≤ b ∧ b < w1.heap.size) w0 wr g ses base q want (ns ++ ((Mx.sendL ⟨ses, base, q⟩).take k).map (fun l => (true, l))) cm true qa qn qc nv' cv) ∧ Hid (BnF (fun b => w.heap.size ≤ b ∧ b < w1.heap.size) wr la ln (Mx.sendL ⟨ses, base, q⟩))) (fun t _ => ln - (intOf t).toNat)
  case atStart => exact ⟨0, nv, by omega, rfl, by rw [List.take_zero, List.map_nil, List.append_nil]; exact H2, BN2⟩
  case round =>
    obtain ⟨k, nv', hk, rfl, hL, hB⟩ := hrel
    by_cases hlt : k < ln
    · obtain ⟨b, off, l, ai, ni, ci, rfl, hbl, hbX, hl, e0, hBy, hci, hav⟩ := hB.out.at_ k hlt
      have HLK := hide hl
      obtain ⟨NS, hNS⟩ : ∃ NS : List (Bool × List Int), Hid (NS = ns ++ ((Mx.sendL ⟨ses, base, q⟩).take k).map (fun l => (true, l))) := ⟨_, rfl⟩
      rw [← hNS.out] at hL
      have HNL := hide (show NS.length ≤ 1000000 by rw [hNS.out]; simp; omega)
      have HNX := hide (show NS ++ [(true, l)] = ns ++ ((Mx.sendL ⟨ses, base, q⟩).take (k + 1)).map (fun l => (true, l)) by
        rw [hNS.out, List.take_add_one, HLK.out]
        simp)
      obtain ⟨W3, hW3⟩ : ∃ W3 : World, Hid (W3 = (wr.alloc (.cells #[.bool true, .slice ai ni ci] 60)).drew) := ⟨_, rfl⟩
      have D3 := hide (show Below wr.heap.size wr W3 by rw [hW3.out]; exact (below_alloc _ _).drew)
      have B3 := hide (show Bx W3 wr.heap.size #[.bool true, .slice ai ni ci] 60 by rw [hW3.out]; exact Bx.newD wr _ _)
      have L3 := hide (hL.out.later D3.out)
      have Y3 := hide (hBy.later D3.out)
      have A3 := hide (show Av (Pb g nv' cv W3) ai ni from fun hn p hp => by
        have h1 := hav hn p hp
        exact ⟨⟨fun e => L3.out.xg (by rw [← e]; exact h1), fun e => L3.out.xn _ e h1, fun e => L3.out.xc _ e h1⟩, L3.out.xw _ h1⟩)
      have P3 := hide (show ∀ k, nv'.ownBlock = some k → ¬ Pb g nv' cv W3 k from fun k hk hp => hp.1.2.1 hk)
      have N3 := hide L3.out.pb
      have S3 := hide L3.out.bl.size
      have hgr : g < wr.heap.size := Bx.lt hL.out.bx
      obtain ⟨x0, x1, x2, x3, x4, x5, x6, x7⟩ := hL.out.bx.cells
      obtain ⟨y0, y1, y2, y3, y4, y5, y6, y7⟩ := L3.out.bx.cells
      have yz := Bx.frozen L3.out.bx
      clear x0 x1 x2 x3 x4 x6 x7 y0 y1 y2 y3 y4 y6 y7 hl hBy hav hbX
      have hki : (k : Int) < ln := by omega
      go_upto_region 5 with fail
      go_region_law (first
        | (rw [← hW3.out]; refine step_append_net rfl (.tmp 34) (.tmp 40) rfl (Pb g nv' cv W3) w0.heap.size nv' NS rfl N3.out wr.heap.size true ai ni ci l rfl B3.out Y3.out hci A3.out P3.out HNL.out S3.out ?_; intro g' cap w4 hn4 hg4 hat4; have hfar : (some g : Option Nat) ≠ nv'.ownBlock := fun e => L3.out.nne e.symm; have z5 := (hg4.cell_far ⟨g, 5, none⟩ (Bx.lt L3.out.bx) hfar).trans y5; have zz := (hg4.frozen_far ⟨g, 5, none⟩ (Bx.lt L3.out.bx) hfar).trans (yz 5)))
      all_goals
        clear z5 zz
        obtain ⟨W5, hW5⟩ : ∃ W5 : World, Hid (W5 = w4.setCell ⟨g, 5, none⟩ (.slice (some ⟨g', 0, none⟩) (NS.length + 1) cap)) := ⟨_, rfl⟩
        have L5 := hide (show LnW (fun b => w.heap.size ≤ b ∧ b < w1.heap.size) w0 W5 g ses base q want (ns ++ ((Mx.sendL ⟨ses, base, q⟩).take (k + 1)).map (fun l => (true, l))) cm true qa qn qc (.slice (some ⟨g', 0, none⟩) (NS.length + 1) cap) cv by
          rw [hW5.out, ← HNX.out]
          exact L3.out.netted hn4 hg4 hat4)
        have BN5 := hide (show BnF (fun b => w.heap.size ≤ b ∧ b < w1.heap.size) W5 (some ⟨b, off, none⟩) ln (Mx.sendL ⟨ses, base, q⟩) by
          rw [hW5.out]
          have h1 := hB.out.ext (S := fun _ => False) (Ext.below D3.out) (fun _ _ _ e => e)
          have h2 := h1.ext (Ext.grown hg4) (fun b _ hb e => L3.out.xn b e.symm hb)
          exact h2.ext (S := fun b => b = g) ⟨by simp, fun b _ hb => Below.heap_setCell w4 _ _ b (fun e => hb e)⟩ (fun b _ hb e => L3.out.xg (by rw [← e]; exact hb)))
        rw [← hW5.out]
        clear hn4 hg4 hat4 hfar
        go_wp2_with fail
        go_roundw
        case rel => exact ⟨k + 1, _, by omega, by go_num, L5, BN5⟩
        case measure => simp [intOf]; omega
    · obtain rfl : k = ln := by omega
      have HFN := hide (show ((Mx.sendL ⟨ses, base, q⟩).take k) = Mx.sendL ⟨ses, base, q⟩ from List.take_of_length_le (by rw [← hlne.out]; omega))
      go_wp2_with fail
      exact bodyPost_end (v := .tuple #[]) (by simp [results, Try.results20, go_sem]) rfl ⟨rfl, nv', by have h9 := hL.out; rw [HFN.out] at h9; exact h9.noX⟩
end Go.Proofs.Ytfgonmgmoeoedaa

/-
  A line: what comes (the laws for it).
-/
namespace Go.Proofs.Ytfgonmgmoeoedaa
open Go.RowKit

section
variable {X : Nat → Prop} {w0 w : World} {g : Nat} {ses base : Int} {q : List Fr} {want : Int} {ns : List (Bool × List Int)} {cm : List Int} {ok : Bool} {qa : Option Addr} {qn qc : Nat} {nv cv : Value}

/-- a new row of what came, stored -/
theorem LnW.camed {w' : World} {g' cap : Nat} {cm' : List Int} (h : LnW X w0 w g ses base q want ns cm ok qa qn qc nv cv) (hr : w'.ownsRow w0.heap.size 3 1 (.slice (some ⟨g', 0, none⟩) cm'.length cap) cm'.length (cm'.map (Value.int .i64))) (hg : w.grownBy w' cv.ownBlock) (hat : cv.ownBlock = some g' ∨ g' = w.heap.size) :
    LnW X w0 (w'.setCell ⟨g, 6, none⟩ (.slice (some ⟨g', 0, none⟩) cm'.length cap)) g ses base q want ns cm' ok qa qn qc nv (.slice (some ⟨g', 0, none⟩) cm'.length cap) := by
  have hgw : g < w.heap.size := Bx.lt h.bx
  have hx1 := Ext.grown hg
  have hxs : Ext (fun b => b = g) w' (w'.setCell ⟨g, 6, none⟩ (.slice (some ⟨g', 0, none⟩) cm'.length cap)) := ⟨by simp, fun b _ hb => Below.heap_setCell w' _ _ b (fun e => hb e)⟩
  have hg'g : g' ≠ g := by
    rcases hat with h1 | h1
    · intro e
      subst e
      exact h.cne h1
    · omega
  have hpf : ∀ b, Pb g nv cv w b → Pf g nv (.slice (some ⟨g', 0, none⟩) cm'.length cap) b := fun b hb => by
    refine ⟨hb.1.1, hb.1.2.1, fun e => ?_⟩
    have h1 : g' = b := by simpa [Value.ownBlock] using e
    rcases hat with h2 | h2
    · rw [h1] at h2
      exact hb.1.2.2 h2
    · have := hb.2
      omega
  have hbx' : Lbx w' g ses base qa qn qc want nv cv ok := hx1.bx h.bx (fun e => h.cne e.symm)
  refine ⟨Bx.set hbx' 6 _, h.room, ?_, ?_, ?_, h.gw, ?_, h.xn, fun k hk => ?_, h.xg, fun b hb => ?_⟩
  · have h1 := h.fl.bound.ext hx1 (fun b _ hb e => hb.1.2.2 e.symm)
    have h2 := h1.ext hxs (fun b _ hb e => hb.1.1 e)
    exact h2.imp fun b _ hb => hpf b hb
  · have h1 := h.pb.ext hx1 (fun b _ hb e => hb.1.2.2 e.symm) (fun k hk e => h.cn k hk e.symm)
    have h2 := h1.ext hxs (fun b _ hb e => hb.1.1 e) (fun k hk e => h.nne (by rw [hk, e]))
    exact h2.imp fun b _ hb => hpf b hb
  · exact hxs.own hr (fun k hk e => hg'g (by simp [Value.ownBlock] at hk; omega))
  · exact (h.bl.grown hg h.bl.size (fun k hk => (World.ownsRow.lt h.row k hk).1)).setCell (p := ⟨g, 6, none⟩) h.gw _
  · have h1 : g' = k := by simpa [Value.ownBlock] using hk
    rcases hat with h2 | h2
    · rw [h1] at h2
      exact h.xc k h2
    · intro hx
      have := h.xw k hx
      omega
  · have h1 := h.xw b hb
    have h2 := hg.size
    simp
    omega

/-- another sender, in its box -/
theorem LnW.sent {base' : Int} {q' : List Fr} {qa' : Option Addr} {qn' qc' : Nat} (h : LnW X w0 w g ses base q want ns cm ok qa qn qc nv cv) (hq : FLF (Pf g nv cv) w qa' qn' q') (hr : qn' ≤ qc') :
    LnW X w0 (set3 w g (.int .i64 ses) (.int .i64 base') (.slice qa' qn' qc')) g ses base' q' want ns cm ok qa' qn' qc' nv cv := by
  have hxs : Ext (fun b => b = g) w (set3 w g (.int .i64 ses) (.int .i64 base') (.slice qa' qn' qc')) := by
    refine ⟨(set3_grown (grow_refl w (some g)) _ _ _).size, fun b hb hne => (set3_grown (grow_refl w (some g)) _ _ _).block b hb (fun e => hne (Option.some.inj e))⟩
  refine ⟨((Bx.set h.bx 0 _).set 1 _).set 2 _, hr, hq.ext hxs (fun b _ hb e => hb.1 e), h.net.ext hxs (fun b _ hb e => hb.1 e) (fun k hk e => h.nne (by rw [hk, e])), hxs.own h.row (fun k hk e => h.cne (by rw [hk, e])), h.gw, set3_below h.bl h.gw _ _ _, h.xn, h.xc, h.xg, fun b hb => Nat.lt_of_lt_of_le (h.xw b hb) hxs.size⟩

/-- another receiver, in its box -/
theorem LnW.recd {want' : Int} (h : LnW X w0 w g ses base q want ns cm ok qa qn qc nv cv) :
    LnW X w0 ((w.setCell ⟨g, 3, none⟩ (.int .i64 ses)).setCell ⟨g, 4, none⟩ (.int .i64 want')) g ses base q want' ns cm ok qa qn qc nv cv := by
  have h1 := h.set (w' := w.setCell ⟨g, 3, none⟩ (.int .i64 ses)) (v := .int .i64 ses) rfl (Bx.set h.bx 3 _) ⟨rfl, rfl, rfl, rfl⟩
  exact h1.set (v := .int .i64 want') rfl (Bx.set h1.bx 4 _) ⟨rfl, rfl, rfl, rfl⟩

theorem LnW.oked {ok' : Bool} (h : LnW X w0 w g ses base q want ns cm ok qa qn qc nv cv) : LnW X w0 (w.setCell ⟨g, 7, none⟩ (.bool ok')) g ses base q want ns cm ok' qa qn qc nv cv :=
  h.set (v := .bool ok') rfl (Bx.set h.bx 7 _) ⟨rfl, rfl, rfl, rfl⟩

end

theorem Try.infoI : (Try.prog.info? 3).map (fun i => (i.zero, i.size, i.bytes)) = some (some (.int .i64 0), 1, 8) := by kernel_rfl

/-- a number more, as a step of a region -/
theorem step_append_cm {ops : Array Oper} {o : Oper} {a : Act} {w : World} {K : Act → World → Prop} {Q : Exit → Act → World → Prop} {E : Prop} (hgd : o.guard = none) (s x : Operand)
    (ho : o.op = .call { callee := .builtin .append, args := #[s, x], argTypes := #[37, 37] }) (base : Nat) (v : Value) (cm : List Int) (hs : a.eval s = v) (hown : w.ownsRow base 3 1 v cm.length (cm.map (Value.int .i64)))
    (B : Nat) (y : Int) (hx : a.eval x = .slice (some ⟨B, 0, none⟩) 1 1) (hB : Bx w B #[.int .i64 y] 3) (h63 : cm.length ≤ 1000000) (hbase : base ≤ w.heap.size)
    (h : ∀ g cap w', w'.ownsRow base 3 1 (.slice (some ⟨g, 0, none⟩) (cm.length + 1) cap) (cm.length + 1) ((cm ++ [y]).map (Value.int .i64)) → w.grownBy w' v.ownBlock → (v.ownBlock = some g ∨ g = w.heap.size) → K (a.put o.dst (.slice (some ⟨g, 0, none⟩) (cm.length + 1) cap)) w') :
    if Region.wanted o (yielded ops a.tmps) = true then Oper.wp Try.prog o a w K Q else E := by
  obtain ⟨i0, hi0, hz0, hz1, hz2⟩ := info_parts Try.infoI
  refine step_append_lies w hgd s x 37 ho base 3 i0 _ 1 8 Try.underlying37 hi0 hz0 hz1 hz2 rfl (by decide) v cm.length (cm.map (Value.int .i64)) hs hown ⟨B, 0, none⟩ 1 1 [.int .i64 y] hx rfl (World.news_of_block hB) (by simp [Value.oneCell']) (by omega) (by unfold maxLen; omega) (by omega) hbase _ rfl ?_
  intro g cap w' hown' hg hat _
  refine h g cap w' ?_ hg hat
  rw [List.map_append]
  exact hown'

/-- one more under way, at the list of a plain region -/
theorem wpList_append_net {ops : Array Oper} {rest : List Oper} {o : Oper} {a : Act} {w : World} {Q : Exit → Act → World → Prop} (hgd : o.guard = none) (s x : Operand)
    (ho : o.op = .call { callee := .builtin .append, args := #[s, x], argTypes := #[54, 54] }) (P : Nat → Prop) (base : Nat) (v : Value) (ns : List (Bool × List Int)) (hs : a.eval s = v) (hown : NetF P w base v ns)
    (B : Nat) (b : Bool) (ad : Option Addr) (n c : Nat) (l : List Int) (hx : a.eval x = .slice (some ⟨B, 0, none⟩) 1 1) (hB : Bx w B #[.bool b, .slice ad n c] 60) (hBy : Bytes w ad n l) (hc : n ≤ c) (hP : Av P ad n) (hd : ∀ k, v.ownBlock = some k → ¬ P k) (h63 : ns.length ≤ 1000000) (hbase : base ≤ w.heap.size)
    (h : ∀ g cap w', NetF P w' base (.slice (some ⟨g, 0, none⟩) (ns.length + 1) cap) (ns ++ [(b, l)]) → w.grownBy w' v.ownBlock → (v.ownBlock = some g ∨ g = w.heap.size) → wpList Try.prog ops Q rest (a.put o.dst (.slice (some ⟨g, 0, none⟩) (ns.length + 1) cap)) w') :
    wpList Try.prog ops Q (o :: rest) a w := by
  refine wpList_plain hgd fun K hK => ?_
  have h1 := step_append_net (ops := ops) (o := o) (a := a) (w := w) (K := K) (Q := Q) (E := False) hgd s x ho P base v ns hs hown B b ad n c l hx hB hBy hc hP hd h63 hbase (fun g cap w' h2 h3 h4 => hK _ _ (h g cap w' h2 h3 h4))
  have hw : Region.wanted o (yielded ops a.tmps) = true := by simp [Region.wanted, hgd]
  rw [if_pos hw] at h1
  exact h1

theorem packB_pos (kind : Int) (l : List Int) (n : Nat) (bs : List Int) : 0 < (Mx.packB kind l n bs).length := by
  rw [Mx.packB, List.length_append, Mx.sealB_len]
  omega

/-- bytes of an answer, and where they lie -/
theorem own_formed {w : World} {base : Nat} {v : Value} {l : List Int} (h : Own w base v l) (hp : 0 < l.length) (hb : ∀ x ∈ l, 0 ≤ x ∧ x ≤ 255) : ∃ g c, v = .slice (some ⟨g, 0, none⟩) l.length c ∧ base ≤ g ∧ g < w.heap.size ∧ l.length ≤ c ∧ Bytes w (some ⟨g, 0, none⟩) l.length l := by
  obtain ⟨g, c, rfl, h1, h2⟩ := World.ownsRow.form h hp
  refine ⟨g, c, rfl, h1, h2, ?_, own_bytes h hb⟩
  rcases h.2 with ⟨h3, _⟩ | ⟨g', cap, cur, hv, _, _, hle, _⟩
  · cases h3
  · simp only [Value.slice.injEq, Option.some.injEq, Addr.mk.injEq, and_true] at hv
    omega

end Go.Proofs.Ytfgonmgmoeoedaa

/-
  A line: what is said of messages comes back (come).
-/
namespace Go.Proofs.Ytfgonmgmoeoedaa
open Go.RowKit

/-- where an answer leaves a line -/
def LnAck (w0 w' : World) (g : Nat) (ses base : Int) (q : List Fr) (want : Int) (ns : List (Bool × List Int)) (cm : List Int) (nv cv : Value) (l : List Int) (qn : Nat) : Prop :=
  ∃ k qa' qn' qc', Mx.Gone ses base qn l k ∧ LnW (fun _ => False) w0 w' g ses (base + (k : Int)) (q.drop k) want ns cm true qa' qn' qc' nv cv

set_option maxHeartbeats 16000000 in
set_option maxRecDepth 100000 in
theorem lna3 {w0 v : World} {g gb : Nat} {ses base : Int} {q : List Fr} {want : Int} {ns : List (Bool × List Int)} {cm : List Int} {qa : Option Addr} {qn qc : Nat} {nv cv : Value} {l : List Int} {k : Nat} {za : Option Addr} {zn zc : Nat} (HH : Hid (LnW (fun _ => False) w0 v g ses base q want ns cm true qa qn qc nv cv)) (HG : Hid (Mx.Gone ses base qn l k)) (RB : Hid (Bx v gb #[.int .i64 ses, .int .i64 (base + (k : Int)), .slice za zn zc] 24)) (HF : Hid (FLF (Pf g nv cv) v za zn (q.drop k))) (hz : zn ≤ zc) (hgb : gb ≠ g) {u1 u2 u3 u4 u5 u6 u7 u8 u9 u12 u13 u14 u15 u16 u17 u18 u19 u20 u21 u22 u23 u24 u25 u26 u27 u28 u29 u30 u31 u32 u33 u34 u35 u36 u37 u38 u39 u40 u41 u42 u43 u44 u45 u46 u47 u48 u49 u50 u51 u52 u53 u54 u55 u56 u57 u58 u59 u60 u61 u62 u63 u64 u65 u66 u67 u68 u69 u70 u71 u72 u73 u74 u75 u76 u77 u78 u79 u80 u81 u82 u83 u84 u85 u86 u87 u88 u89 u90 u91 u92 u93 u94 u95 u96 u97 u98 u99 u100 u101 u102 u103 u104 u105 u106 u107 u108 u109 u110 : Value} :
    TailG Try.f21 (fun e w' => e = .returned (.tuple #[]) ∧ LnAck w0 w' g ses base q want ns cm nv cv l qn) 3 ⟨#[.pointer (some ⟨g, 0, none⟩), u1, u2, u3, u4, u5, u6, u7, u8, u9, .pointer (some ⟨gb, 0, none⟩), .nilIface, u12, u13, u14, u15, u16, u17, u18, u19, u20, u21, u22, u23, u24, u25, u26, u27, u28, u29, u30, u31, u32, u33, u34, u35, u36, u37, u38, u39, u40, u41, u42, u43, u44, u45, u46, u47, u48, u49, u50, u51, u52, u53, u54, u55, u56, u57, u58, u59, u60, u61, u62, u63, u64, u65, u66, u67, u68, u69, u70, u71, u72, u73, u74, u75, u76, u77, u78, u79, u80, u81, u82, u83, u84, u85, u86, u87, u88, u89, u90, u91, u92, u93, u94, u95, u96, u97, u98, u99, u100, u101, u102, u103, u104, u105, u106, u107, u108, u109, u110], []⟩ v := by
  refine tailG_step rfl ?_
  intro K hK
  obtain ⟨x0, x1, x2, x3, x4, x5, x6, x7⟩ := HH.out.bx.cells
  have xz := Bx.frozen HH.out.bx
  obtain ⟨W2, hW2⟩ : ∃ W2 : World, Hid (W2 = v.setCell ⟨g, 7, none⟩ (.bool true)) := ⟨_, rfl⟩
  have H2 := hide (show LnW (fun _ => False) w0 W2 g ses base q want ns cm true qa qn qc nv cv by rw [hW2.out]; exact HH.out.oked)
  have R2 := hide (show Bx W2 gb #[.int .i64 ses, .int .i64 (base + (k : Int)), .slice za zn zc] 24 by rw [hW2.out]; exact RB.out.other _ _ hgb)
  have F2 := hide (show FLF (Pf g nv cv) W2 za zn (q.drop k) by rw [hW2.out]; exact HF.out.ext (S := fun b => b = g) ⟨by simp, fun b _ hb => Below.heap_setCell v _ _ b (fun e => hb e)⟩ (fun b _ hb e => hb.1 e))
  go_wp2_with fail
  rw [← hW2.out]
  refine Met.intro (tailG_last (c := .region _ _ _) rfl ?_)
  try clear hK
  try clear K
  clear x0 x1 x2 x3 x4 x5 x6 x7 xz
  obtain ⟨x0, x1, x2, x3, x4, x5, x6, x7⟩ := H2.out.bx.cells
  have xz := Bx.frozen H2.out.bx
  obtain ⟨r0, r1, r2⟩ := R2.out.three
  go_wp2_with fail
  exact bodyPost_end (v := .tuple #[]) (by simp [results, Try.results21, go_sem]) rfl ⟨rfl, k, za, zn, zc, HG.out, H2.out.sent F2.out hz⟩

theorem pf_new {X : Nat → Prop} {w0 w : World} {g : Nat} {ses base : Int} {q : List Fr} {want : Int} {ns : List (Bool × List Int)} {cm : List Int} {ok : Bool} {qa : Option Addr} {qn qc : Nat} {nv cv : Value} (h : LnW X w0 w g ses base q want ns cm ok qa qn qc nv cv) {b : Nat} (hb : w.heap.size ≤ b) : Pf g nv cv b :=
  ⟨fun e => by have := Bx.lt h.bx; omega, fun e => by have := (h.net.lt b e).2; omega, fun e => by have := (World.ownsRow.lt h.row b e).2; omega⟩

set_option maxHeartbeats 16000000 in
set_option maxRecDepth 100000 in
theorem lnack_any (w0 w : World) (g : Nat) (ses base : Int) (q : List Fr) (want : Int) (ns : List (Bool × List Int)) (cm : List Int) (qa : Option Addr) (qn qc : Nat) (nv cv : Value) (h : LnW (fun _ => False) w0 w g ses base q want ns cm true qa qn qc nv cv) (hm : Mx.sdmay ⟨ses, base, q⟩ = 0) (i : Nat) (l : List Int) (hi : ns[i]? = some (false, l)) (hl2 : l.length ≤ 2000) :
    Calls Try.prog 21 #[.pointer (some ⟨g, 0, none⟩), .int .i64 (i : Int)] w fun e w' => e = .returned (.tuple #[]) ∧ LnAck w0 w' g ses base q want ns cm nv cv l qn := by
  have HH := hide h
  have HM := hide hm
  obtain ⟨gN, cap, a, n, c, hnv, hcap, hgN, e0, e1, hBy, hnc, hav⟩ := h.net.at_ hi
  obtain ⟨N, hN⟩ : ∃ N : Nat, Hid (N = ns.length) := ⟨_, rfl⟩
  rw [← hN.out] at hnv hcap
  have hiN : i < N := by rw [hN.out]; exact (List.getElem?_eq_some_iff.1 hi).1
  subst hnv
  have hn2 : n ≤ 2000 := by have h1 : l.length = n := hBy.1; omega
  obtain ⟨x0, x1, x2, x3, x4, x5, x6, x7⟩ := h.bx.cells
  have hgw : g < w.heap.size := Bx.lt h.bx
  obtain ⟨W1, hW1⟩ : ∃ W1 : World, Hid (W1 = w.alloc (.cells #[.bool false, .slice a n c] 60)) := ⟨_, rfl⟩
  have D1 := hide (show Below w.heap.size w W1 by rw [hW1.out]; exact below_alloc _ _)
  have U1 := hide (show Bx W1 w.heap.size #[.bool false, .slice a n c] 60 by rw [hW1.out]; exact Bx.new w _ _)
  have H1 := hide (HH.out.later D1.out)
  have Y1 := hide (hBy.later D1.out)
  clear h hm hi hBy hav
  have hii : (i : Int) < N := by omega
  go_enter Try.func21, Try.ntmps21
  change TailG Try.f21 _ 0 _ w
  refine tailG_step rfl ?_
  intro K hK
  go_wp2_with fail
  rw [← hW1.out]
  refine Met.intro (tailG_step rfl ?_)
  try clear hK K
  intro K hK
  clear x0 x1 x2 x3 x4 x5 x6 x7 e0 e1
  obtain ⟨u0, u1⟩ := U1.out.pair
  go_wp2_with fail
  refine Met.intro (tailG_step rfl ?_)
  try clear hK K
  intro K hK
  obtain ⟨x0, x1, x2, x3, x4, x5, x6, x7⟩ := H1.out.bx.cells
  obtain ⟨Wb, hWb⟩ : ∃ Wb : World, Hid (Wb = (W1.alloc (.cells #[.int .i64 0, .int .i64 0, .slice none 0 0] 24)).drew) := ⟨_, rfl⟩
  have Db := hide (show Below W1.heap.size W1 Wb by rw [hWb.out]; exact (below_alloc _ _).drew)
  have Rb := hide (show Bx Wb W1.heap.size #[.int .i64 0, .int .i64 0, .slice none 0 0] 24 by rw [hWb.out]; exact Bx.newD W1 _ _)
  have hg1 : g < W1.heap.size := Bx.lt H1.out.bx
  have hu1 : w.heap.size < W1.heap.size := U1.out.lt
  have hrg : ¬ W1.heap.size = g := by omega
  have hru : ¬ W1.heap.size = w.heap.size := by omega
  go_upto_region 11 with fail
  go_region_held3 (fun w' => w'.cell? ⟨g, 0, none⟩ = some (.int .i64 ses) ∧ w'.cell? ⟨g, 1, none⟩ = some (.int .i64 base) ∧ w'.cell? ⟨g, 2, none⟩ = some (.slice qa qn qc) ∧ w'.cell? ⟨w.heap.size, 1, none⟩ = some (.slice a n c))
    (first
      | with_reducible exact ⟨x0, x1, x2, u1⟩
      | (simp only [cell_drew]; with_reducible exact ⟨x0, x1, x2, u1⟩)
      | (simp only [cell_drew, cell_alloc_lt hg1, cell_alloc_lt hu1]; with_reducible exact ⟨x0, x1, x2, u1⟩)
      | with_reducible exact ⟨y0, y1, y2, v1⟩
      | (simp only [cell_alloc_lt hgw2, cell_alloc_lt huw2]; with_reducible exact ⟨y0, y1, y2, v1⟩)
      | with_reducible exact ⟨p0, p1, p2, s1⟩
      | (simp only [cell_set_far hrg, cell_set_far hru]; with_reducible exact ⟨p0, p1, p2, s1⟩))
    (first
      | (go_at_call 8; (with_reducible refine (lheard_own ses base qa qn qc q a n c l W1.drew ((H1.out.later (Below.refl _ _).drew).fl.fl) H1.out.room (Y1.out.later (Below.refl _ _).drew) hn2 hnc).mono ?_); rintro e w2 ⟨v2, rfl, hA, hB⟩; obtain ⟨k, hG, za, zn, zc, hv2, hFA, hzc⟩ := (hA.out.resolve_left (fun h => h.1 HM.out)).2; subst hv2; rw [HM.out, errV_zero]; have HG := hide hG; have HFA := hide hFA; clear hG hFA hA; have D2 := hide (ld_below hB.out); have H2 := hide (H1.out.later D2.out); obtain ⟨y0, y1, y2, y3, y4, y5, y6, y7⟩ := H2.out.bx.cells; have v1 := ((U1.out.later D2.out U1.out.lt).pair).2; have hgw2 : g < w2.heap.size := Bx.lt H2.out.bx; have huw2 : w.heap.size < w2.heap.size := (U1.out.later D2.out U1.out.lt).lt)
      | (go_at_call 8; rw [← hWb.out]; (with_reducible refine (lheard_own ses base qa qn qc q a n c l Wb ((H1.out.later Db.out).fl.fl) H1.out.room (Y1.out.later Db.out) hn2 hnc).mono ?_); rintro e w3 ⟨v3, rfl, hA, hB⟩; obtain ⟨k, hG, za, zn, zc, hv3, hFA, hzc⟩ := (hA.out.resolve_left (fun h => h.1 HM.out)).2; subst hv3; rw [HM.out, errV_zero]; have HG := hide hG; have HFA3 := hide hFA; clear hG hFA hA; have D3 := hide (Db.out.trans (hB.out.mono Db.out.size)); have H3 := hide (H1.out.later D3.out); have R3 := hide (Rb.out.later hB.out Rb.out.lt); obtain ⟨p0, p1, p2, p3, p4, p5, p6, p7⟩ := H3.out.bx.cells; have s1 := ((U1.out.later D3.out U1.out.lt).pair).2; have rz := R3.out.frozen; obtain ⟨r0, r1, r2⟩ := R3.out.three))
  · obtain ⟨W3, hW3⟩ : ∃ W3 : World, Hid (W3 = w2.alloc (.cells #[.int .i64 ses, .int .i64 (base + (k : Int)), .slice za zn zc] 24)) := ⟨_, rfl⟩
    have D3 := hide (show Below w2.heap.size w2 W3 by rw [hW3.out]; exact below_alloc _ _)
    have R3 := hide (show Bx W3 w2.heap.size #[.int .i64 ses, .int .i64 (base + (k : Int)), .slice za zn zc] 24 by rw [hW3.out]; exact Bx.new w2 _ _)
    have H3 := hide (H2.out.later D3.out)
    have F3 := hide (FLF.of_fla (P := Pf g (.slice (some ⟨gN, 0, none⟩) N cap) cv) (HFA.out.later D3.out) (fun b _ hb => pf_new HH.out (Nat.le_trans D1.out.size hb)))
    rw [← hW3.out]
    clear x0 x1 x2 x3 x4 x5 x6 x7 y0 y1 y2 y3 y4 y5 y6 y7 u0 u1 v1
    go_wp2_with fail
    exact Met.intro (lna3 H3 HG R3 F3 hzc (by omega))
  · obtain ⟨W3, hW3⟩ : ∃ W3 : World, Hid (W3 = set3 w3 W1.heap.size (.int .i64 ses) (.int .i64 (base + (k : Int))) (.slice za zn zc)) := ⟨_, rfl⟩
    have D4 := hide (show Below W1.heap.size W1 W3 by rw [hW3.out]; exact set3_below D3.out (Nat.le_refl _) _ _ _)
    have R4 := hide (show Bx W3 W1.heap.size #[.int .i64 ses, .int .i64 (base + (k : Int)), .slice za zn zc] 24 by rw [hW3.out]; exact R3.out.three_set _ _ _)
    have H4 := hide (H1.out.later D4.out)
    have F4 := hide (show FLF (Pf g (.slice (some ⟨gN, 0, none⟩) N cap) cv) W3 za zn (q.drop k) by
      rw [hW3.out]
      exact FLF.of_fla (HFA3.out.grown (set3_grown (grow_refl w3 (some W1.heap.size)) _ _ _) Rb.out.lt) (fun b _ hb => pf_new HH.out (Nat.le_trans D1.out.size (Nat.le_trans Db.out.size hb))))
    unfold set3 at hW3
    rw [← hW3.out]
    clear x0 x1 x2 x3 x4 x5 x6 x7 p0 p1 p2 p3 p4 p5 p6 p7 u0 u1 s1 r0 r1 r2 rz
    go_wp2_with fail
    exact Met.intro (lna3 H4 HG R4 F4 hzc (by omega))

end Go.Proofs.Ytfgonmgmoeoedaa

/-
  What is received, said for a line: the message that is wanted, or another one.
-/
namespace Go.Proofs.Ytfgonmgmoeoedaa
open Go.RowKit

/-- bytes of an answer that lie in memory of the call's own -/
def AnsO (B : Nat) (w : World) (gb n c : Nat) (l : List Int) : Prop := B ≤ gb ∧ gb < w.heap.size ∧ n ≤ c ∧ Bytes w (some ⟨gb, 0, none⟩) n l

theorem AnsO.later {B : Nat} {w w' : World} {gb n c : Nat} {l : List Int} (h : AnsO B w gb n c l) (hb : Below w.heap.size w w') : AnsO B w' gb n c l := ⟨h.1, Nat.lt_of_lt_of_le h.2.1 hb.size, h.2.2.1, h.2.2.2.later hb⟩

theorem lreceive_yes (ses want : Int) (a : Option Addr) (len cap : Nat) (l : List Int) (kd y : Int) (nb : Nat) (bs : List Int) (w : World) (hl : Bytes w a len l) (hlen : len ≤ 2000) (hcap : len ≤ cap) (hs0 : 0 ≤ ses) (hs1 : ses ≤ 2147483647) (hw0 : 0 ≤ want) (hw1 : want < 2147483647) (hM : Mx.Msg l ses want kd [y] nb bs) :
    Calls Try.prog 11 #[.agg #[.int .i64 ses, .int .i64 want], .slice a len cap] w fun e w' => ∃ a1 c1 a2 c2 gb n c, e = .returned (.tuple #[.agg #[.int .i64 ses, .int .i64 (want + 1)], .agg #[.int .i64 kd, .slice a1 1 c1, .slice a2 nb c2], .bool true, .slice (some ⟨gb, 0, none⟩) n c, .nilIface]) ∧ Hid (Ints w' a1 1 [y] ∧ ∀ p, a1 = some p → w.heap.size ≤ p.block) ∧ Hid (AnsO w.heap.size w' gb n c (Mx.packB 0 [ses, want + 1] 0 [])) ∧ Hid (Below w.heap.size w w') := by
  refine (lreceive_any ses want a len cap l w hl hlen hcap hs0 hs1 hw0 (by omega)).mono fun e w' h => ?_
  obtain ⟨h, hb⟩ := h
  rcases h with ⟨kd', nm', nb', bs', v, vb, h1, h2, h3, h4, h5⟩ | ⟨x, kd', nm', nb', bs', vb, h1, h2, h3, h4⟩ | ⟨h1, h2⟩
  · obtain ⟨_, rfl, rfl, rfl, rfl⟩ := Mx.msg_one hM h1
    obtain ⟨a1, n1, c1, a2, c2, rfl, hI, _, _, _, hq1, _⟩ := h4
    obtain rfl : n1 = 1 := by have := hI.1; simpa using this.symm
    obtain ⟨gb, c, rfl, g1, g2, g3, g4⟩ := own_formed h5 (packB_pos _ _ _ _) (ack_byte hs0 hs1 (by omega) (by omega))
    exact ⟨a1, c1, a2, c2, gb, _, c, h3, ⟨hI, hq1 (by omega)⟩, ⟨g1, g2, g3, g4⟩, hb⟩
  · obtain ⟨e1, _⟩ := Mx.msg_one hM h1
    exact absurd ⟨e1.symm, hw1⟩ h2
  · exact absurd hM (h1 _ _ _ _ _)

theorem lreceive_no (ses want : Int) (a : Option Addr) (len cap : Nat) (l : List Int) (x kd : Int) (nm : List Int) (nb : Nat) (bs : List Int) (w : World) (hl : Bytes w a len l) (hlen : len ≤ 2000) (hcap : len ≤ cap) (hs0 : 0 ≤ ses) (hs1 : ses ≤ 2147483647) (hw0 : 0 ≤ want) (hw1 : want ≤ 2147483647) (hM : Mx.Msg l ses x kd nm nb bs) (hx : x ≠ want) :
    Calls Try.prog 11 #[.agg #[.int .i64 ses, .int .i64 want], .slice a len cap] w fun e w' => ∃ gb n c, e = .returned (.tuple #[.agg #[.int .i64 ses, .int .i64 want], .agg #[.int .i64 0, .slice none 0 0, .slice none 0 0], .bool false, .slice (some ⟨gb, 0, none⟩) n c, .nilIface]) ∧ Hid (AnsO w.heap.size w' gb n c (Mx.packB 0 [ses, want] 0 [])) ∧ Hid (Below w.heap.size w w') := by
  refine (lreceive_any ses want a len cap l w hl hlen hcap hs0 hs1 hw0 hw1).mono fun e w' h => ?_
  obtain ⟨h, hb⟩ := h
  rcases h with ⟨kd', nm', nb', bs', v, vb, h1, h2, h3, h4, h5⟩ | ⟨x', kd', nm', nb', bs', vb, h1, h2, h3, h4⟩ | ⟨h1, h2⟩
  · obtain ⟨e1, _⟩ := Mx.msg_one hM h1
    exact absurd e1 hx
  · obtain ⟨gb, c, rfl, g1, g2, g3, g4⟩ := own_formed h4 (packB_pos _ _ _ _) (ack_byte hs0 hs1 hw0 hw1)
    exact ⟨gb, _, c, h3, ⟨g1, g2, g3, g4⟩, hb⟩
  · exact absurd hM (h1 _ _ _ _ _)

/-- a part of a function, from a statement on -/
def TailQ (c : Code) (Q : Exit → Act → World → Prop) (k : Nat) (a : Act) (x : World) : Prop := Code.wp Try.prog (itsG k c) Q a x

theorem tailQ_step {c : Code} {Q : Exit → Act → World → Prop} {k : Nat} {x : World} {a : Act} {s : Code} (h : itsG k c = .seq s (itsG (k + 1) c))
    (hs : ∀ K : Act → World → Prop, (∀ a' x', Met (TailQ c Q (k + 1)) a' x' → K a' x') → Code.wp Try.prog s (Exit.then K Q) a x) : TailQ c Q k a x := by
  unfold TailQ
  rw [h]
  refine wp_seq_k (fun K hK => hs K (fun a' x' hm => hK a' x' hm))

theorem tailQ_last {c c' : Code} {Q : Exit → Act → World → Prop} {k : Nat} {x : World} {a : Act} (h : itsG k c = c') (hs : Code.wp Try.prog c' Q a x) : TailQ c Q k a x := by
  unfold TailQ
  rw [h]
  exact hs

theorem seq_step {s c : Code} {Q : Exit → Act → World → Prop} {a : Act} {x : World} (hs : ∀ K : Act → World → Prop, (∀ a' x', Met (fun a'' x'' => Code.wp Try.prog c Q a'' x'') a' x' → K a' x') → Code.wp Try.prog s (Exit.then K Q) a x) : Code.wp Try.prog (.seq s c) Q a x :=
  wp_seq_k (fun K hK => hs K (fun a' x' hm => hK a' x' hm))

def fstG : Code → Code
  | .seq s _ => s
  | c => c

/-- the way of an 'if' that is gone -/
def thenG : Code → Code
  | .seq _ (.cond _ t _) => t
  | c => c

end Go.Proofs.Ytfgonmgmoeoedaa

/-
  A line: a message comes (come).
-/
namespace Go.Proofs.Ytfgonmgmoeoedaa
open Go.RowKit

/-- what is done where it is a message -/
def TailM (K0 : Act → World → Prop) (P : Ending → World → Prop) (k : Nat) (a : Act) (x : World) : Prop :=
  TailQ (thenG (fstG (itsG 1 (Try.f21.body.getD .skip)))) (Exit.then K0 (bodyPost Try.prog Try.f21 P)) k a x

set_option maxHeartbeats 16000000 in
set_option maxRecDepth 100000 in
theorem lnm4 {w0 v : World} {g : Nat} {ses base : Int} {q : List Fr} {want : Int} {ns : List (Bool × List Int)} {cm : List Int} {qa : Option Addr} {qn qc : Nat} {nv cv : Value} {K0 : Act → World → Prop} {P : Ending → World → Prop} {gb n c : Nat} {lb : List Int} (HH : Hid (LnW (fun _ => False) w0 v g ses base q want ns cm true qa qn qc nv cv)) (HB : Hid (Bytes v (some ⟨gb, 0, none⟩) n lb)) (hnc : n ≤ c) (HP : Hid (Pf g nv cv gb)) (hgb : gb < v.heap.size) (hnl : ns.length ≤ 1000) (hP : Hid (∀ w' nv', LnW (fun _ => False) w0 w' g ses base q want (ns ++ [(false, lb)]) cm true qa qn qc nv' cv → P (.returned (.tuple #[])) w')) {u1 u2 u3 u4 u5 u6 u7 u9 u10 u11 u12 u13 u14 u15 u16 u17 u18 u19 u20 u21 u22 u23 u24 u25 u26 u27 u28 u29 u30 u31 u32 u33 u34 u35 u36 u37 u38 u39 u40 u41 u42 u43 u44 u45 u46 u47 u48 u49 u50 u51 u52 u53 u54 u55 u56 u57 u58 u59 u60 u61 u62 u63 u64 u65 u66 u67 u68 u69 u70 u71 u72 u73 u74 u75 u76 u77 u78 u79 u80 u81 u82 u83 u84 u85 u86 u87 u88 u89 u90 u91 u92 u93 u94 u95 u96 u97 u98 u99 u100 u101 u102 u103 u104 u105 u106 u107 u108 u109 u110 : Value} :
    TailM K0 P 4 ⟨#[.pointer (some ⟨g, 0, none⟩), u1, u2, u3, u4, u5, u6, u7, .slice (some ⟨gb, 0, none⟩) n c, u9, u10, u11, u12, u13, u14, u15, u16, u17, u18, u19, u20, u21, u22, u23, u24, u25, u26, u27, u28, u29, u30, u31, u32, u33, u34, u35, u36, u37, u38, u39, u40, u41, u42, u43, u44, u45, u46, u47, u48, u49, u50, u51, u52, u53, u54, u55, u56, u57, u58, u59, u60, u61, u62, u63, u64, u65, u66, u67, u68, u69, u70, u71, u72, u73, u74, u75, u76, u77, u78, u79, u80, u81, u82, u83, u84, u85, u86, u87, u88, u89, u90, u91, u92, u93, u94, u95, u96, u97, u98, u99, u100, u101, u102, u103, u104, u105, u106, u107, u108, u109, u110], []⟩ v := by
  refine tailQ_last (c' := .seq _ .ret) rfl ?_
  obtain ⟨x0, x1, x2, x3, x4, x5, x6, x7⟩ := HH.out.bx.cells
  obtain ⟨W3, hW3⟩ : ∃ W3 : World, Hid (W3 = v.alloc (.cells #[.bool false, .slice (some ⟨gb, 0, none⟩) n c] 60)) := ⟨_, rfl⟩
  have D3 := hide (show Below v.heap.size v W3 by rw [hW3.out]; exact below_alloc _ _)
  have B3 := hide (show Bx W3 v.heap.size #[.bool false, .slice (some ⟨gb, 0, none⟩) n c] 60 by rw [hW3.out]; exact Bx.new v _ _)
  have L3 := hide (HH.out.later D3.out)
  have Y3 := hide (HB.out.later D3.out)
  have A3 := hide (show Av (Pb g nv cv W3) (some ⟨gb, 0, none⟩) n from fun _ p hp => by
    cases hp
    exact ⟨HP.out, Nat.lt_of_lt_of_le hgb D3.out.size⟩)
  have P3 := hide (show ∀ k, nv.ownBlock = some k → ¬ Pb g nv cv W3 k from fun k hk hp => hp.1.2.1 hk)
  have N3 := hide L3.out.pb
  have S3 := hide L3.out.bl.size
  have HNL := hide (show ns.length ≤ 1000000 by omega)
  have hgr : g < v.heap.size := Bx.lt HH.out.bx
  obtain ⟨y0, y1, y2, y3, y4, y5, y6, y7⟩ := L3.out.bx.cells
  have yz := Bx.frozen L3.out.bx
  clear x0 x1 x2 x3 x4 x6 x7 y0 y1 y2 y3 y4 y6 y7
  go_wp2_with (at_builtin; rw [← hW3.out]; refine wpList_append_net rfl (.tmp 79) (.tmp 82) rfl (Pb g nv cv W3) w0.heap.size nv ns ?o1 N3.out v.heap.size false (some ⟨gb, 0, none⟩) n c lb ?o2 B3.out Y3.out hnc A3.out P3.out HNL.out S3.out ?_)
  case o1 => first | rfl | simp [Act.eval]
  case o2 => first | rfl | simp [Act.eval]
  intro g' cap w4 hn4 hg4 hat4
  have hfar : (some g : Option Nat) ≠ nv.ownBlock := fun e => L3.out.nne e.symm
  have z5 := (hg4.cell_far ⟨g, 5, none⟩ (Bx.lt L3.out.bx) hfar).trans y5
  have zz := (hg4.frozen_far ⟨g, 5, none⟩ (Bx.lt L3.out.bx) hfar).trans (yz 5)
  go_wp2_with fail
  exact bodyPost_ret (v := .tuple #[]) (by simp [results, Try.results21, go_sem]) rfl (hP.out _ _ (L3.out.netted hn4 hg4 hat4))

set_option maxHeartbeats 16000000 in
set_option maxRecDepth 100000 in
theorem lnm3y {w0 v : World} {g : Nat} {ses base : Int} {q : List Fr} {want : Int} {ns : List (Bool × List Int)} {cm : List Int} {qa : Option Addr} {qn qc : Nat} {nv cv : Value} {K0 : Act → World → Prop} {P : Ending → World → Prop} {gb n c : Nat} {lb : List Int} {g6 : Nat} {kd y : Int} {b1 o1 c1 : Nat} {a2 : Option Addr} {nb c2 : Nat} (HH : Hid (LnW (fun _ => False) w0 v g ses base q want ns cm true qa qn qc nv cv)) (HB : Hid (Bytes v (some ⟨gb, 0, none⟩) n lb)) (hnc : n ≤ c) (HP : Hid (Pf g nv cv gb)) (hgb : gb < v.heap.size) (hnl : ns.length ≤ 1000) (hcl : cm.length ≤ 1000) (XM : Hid (Bx v g6 #[.int .i64 kd, .slice (some ⟨b1, o1, none⟩) 1 c1, .slice a2 nb c2] 40)) (HI : Hid (v.cell? ⟨b1, o1, none⟩ = some (.int .i64 y))) (hP : Hid (∀ w' nv' cv', LnW (fun _ => False) w0 w' g ses base q want (ns ++ [(false, lb)]) (cm ++ [y]) true qa qn qc nv' cv' → P (.returned (.tuple #[])) w')) {u1 u2 u3 u4 u5 u9 u10 u11 u12 u13 u14 u15 u16 u17 u18 u19 u20 u21 u22 u23 u24 u25 u26 u27 u28 u29 u30 u31 u32 u33 u34 u35 u36 u37 u38 u39 u40 u41 u42 u43 u44 u45 u46 u47 u48 u49 u50 u51 u52 u53 u54 u55 u56 u57 u58 u59 u60 u61 u62 u63 u64 u65 u66 u67 u68 u69 u70 u71 u72 u73 u74 u75 u76 u77 u78 u79 u80 u81 u82 u83 u84 u85 u86 u87 u88 u89 u90 u91 u92 u93 u94 u95 u96 u97 u98 u99 u100 u101 u102 u103 u104 u105 u106 u107 u108 u109 u110 : Value} :
    TailM K0 P 3 ⟨#[.pointer (some ⟨g, 0, none⟩), u1, u2, u3, u4, u5, .pointer (some ⟨g6, 0, none⟩), .bool true, .slice (some ⟨gb, 0, none⟩) n c, u9, u10, u11, u12, u13, u14, u15, u16, u17, u18, u19, u20, u21, u22, u23, u24, u25, u26, u27, u28, u29, u30, u31, u32, u33, u34, u35, u36, u37, u38, u39, u40, u41, u42, u43, u44, u45, u46, u47, u48, u49, u50, u51, u52, u53, u54, u55, u56, u57, u58, u59, u60, u61, u62, u63, u64, u65, u66, u67, u68, u69, u70, u71, u72, u73, u74, u75, u76, u77, u78, u79, u80, u81, u82, u83, u84, u85, u86, u87, u88, u89, u90, u91, u92, u93, u94, u95, u96, u97, u98, u99, u100, u101, u102, u103, u104, u105, u106, u107, u108, u109, u110], []⟩ v := by
  refine tailQ_step rfl ?_
  intro K hK
  obtain ⟨x0, x1, x2, x3, x4, x5, x6, x7⟩ := HH.out.bx.cells
  obtain ⟨m0, m1, m2⟩ := XM.out.three
  have hm0 := HI.out
  obtain ⟨W3, hW3⟩ : ∃ W3 : World, Hid (W3 = (v.alloc (.cells #[.int .i64 y] 3)).drew) := ⟨_, rfl⟩
  have D3 := hide (show Below v.heap.size v W3 by rw [hW3.out]; exact (below_alloc _ _).drew)
  have B3 := hide (show Bx W3 v.heap.size #[.int .i64 y] 3 by rw [hW3.out]; exact Bx.newD v _ _)
  have L3 := hide (HH.out.later D3.out)
  have S3 := hide L3.out.bl.size
  have R3 := hide L3.out.row
  have HCL := hide (show cm.length ≤ 1000000 by omega)
  have hgr : g < v.heap.size := Bx.lt HH.out.bx
  have hg6 : g6 < v.heap.size := XM.out.lt
  have hb1 : b1 < v.heap.size := World.block_lt_of_cell? v _ hm0
  obtain ⟨y0, y1, y2, y3, y4, y5, y6, y7⟩ := L3.out.bx.cells
  have yz := Bx.frozen L3.out.bx
  clear x0 x1 x2 x3 x4 x5 x7 y0 y1 y2 y3 y4 y5 y7
  go_upto_region 6 with fail
  go_region_law (first
    | (rw [← hW3.out]; refine step_append_cm rfl (.tmp 60) (.tmp 65) rfl w0.heap.size cv cm rfl R3.out v.heap.size y rfl B3.out HCL.out S3.out ?_; intro g' cap w4 hn4 hg4 hat4; have hfar : (some g : Option Nat) ≠ cv.ownBlock := fun e => L3.out.cne e.symm; have z6 := (hg4.cell_far ⟨g, 6, none⟩ (Bx.lt L3.out.bx) hfar).trans y6; have zz := (hg4.frozen_far ⟨g, 6, none⟩ (Bx.lt L3.out.bx) hfar).trans (yz 6)))
  all_goals
    clear z6 zz
    obtain ⟨W5, hW5⟩ : ∃ W5 : World, Hid (W5 = w4.setCell ⟨g, 6, none⟩ (.slice (some ⟨g', 0, none⟩) (cm.length + 1) cap)) := ⟨_, rfl⟩
    have hcl1 : (cm ++ [y]).length = cm.length + 1 := by simp
    have L5 := hide (show LnW (fun _ => False) w0 W5 g ses base q want ns (cm ++ [y]) true qa qn qc nv (.slice (some ⟨g', 0, none⟩) (cm.length + 1) cap) by
      rw [hW5.out]
      have h1 := L3.out.camed (cm' := cm ++ [y]) (g' := g') (cap := cap) (by rw [hcl1]; exact hn4) hg4 hat4
      rw [hcl1] at h1
      exact h1)
    have hgb3 : gb < W3.heap.size := Nat.lt_of_lt_of_le hgb D3.out.size
    have Y5 := hide (show Bytes W5 (some ⟨gb, 0, none⟩) n lb by
      rw [hW5.out]
      have h1 := (HB.out.later D3.out).ext (P := fun b => b = gb) (Ext.grown hg4) (fun _ p hp => by cases hp; rfl) (fun b _ hb e => by subst hb; exact HP.out.2.2 e.symm)
      exact h1.ext (S := fun b => b = g) (P := fun b => b = gb) ⟨by simp, fun b _ hb => Below.heap_setCell w4 _ _ b (fun e => hb e)⟩ (fun _ p hp => by cases hp; rfl) (fun b _ hb e => by subst hb; exact HP.out.1 e))
    have P5 := hide (show Pf g nv (.slice (some ⟨g', 0, none⟩) (cm.length + 1) cap) gb from ⟨HP.out.1, HP.out.2.1, fun e => by
      have h1 : g' = gb := by simpa [Value.ownBlock] using e
      rcases hat4 with h2 | h2
      · rw [h1] at h2
        exact HP.out.2.2 h2
      · omega⟩)
    have hgb5 : gb < W5.heap.size := by have h1 := hg4.size; rw [hW5.out]; simp; omega
    rw [← hW5.out]
    clear hn4 hg4 hat4 hfar hm0 m0 m1 m2
    go_wp2_with fail
    exact Met.intro (lnm4 L5 Y5 hnc P5 hgb5 hnl (hide (fun w' nv' h => hP.out w' nv' _ h)))

set_option maxHeartbeats 16000000 in
set_option maxRecDepth 100000 in
theorem lnm3n {w0 v : World} {g : Nat} {ses base : Int} {q : List Fr} {want : Int} {ns : List (Bool × List Int)} {cm : List Int} {qa : Option Addr} {qn qc : Nat} {nv cv : Value} {K0 : Act → World → Prop} {P : Ending → World → Prop} {gb n c : Nat} {lb : List Int} (HH : Hid (LnW (fun _ => False) w0 v g ses base q want ns cm true qa qn qc nv cv)) (HB : Hid (Bytes v (some ⟨gb, 0, none⟩) n lb)) (hnc : n ≤ c) (HP : Hid (Pf g nv cv gb)) (hgb : gb < v.heap.size) (hnl : ns.length ≤ 1000) (hP : Hid (∀ w' nv', LnW (fun _ => False) w0 w' g ses base q want (ns ++ [(false, lb)]) cm true qa qn qc nv' cv → P (.returned (.tuple #[])) w')) {u1 u2 u3 u4 u5 u6 u9 u10 u11 u12 u13 u14 u15 u16 u17 u18 u19 u20 u21 u22 u23 u24 u25 u26 u27 u28 u29 u30 u31 u32 u33 u34 u35 u36 u37 u38 u39 u40 u41 u42 u43 u44 u45 u46 u47 u48 u49 u50 u51 u52 u53 u54 u55 u56 u57 u58 u59 u60 u61 u62 u63 u64 u65 u66 u67 u68 u69 u70 u71 u72 u73 u74 u75 u76 u77 u78 u79 u80 u81 u82 u83 u84 u85 u86 u87 u88 u89 u90 u91 u92 u93 u94 u95 u96 u97 u98 u99 u100 u101 u102 u103 u104 u105 u106 u107 u108 u109 u110 : Value} :
    TailM K0 P 3 ⟨#[.pointer (some ⟨g, 0, none⟩), u1, u2, u3, u4, u5, u6, .bool false, .slice (some ⟨gb, 0, none⟩) n c, u9, u10, u11, u12, u13, u14, u15, u16, u17, u18, u19, u20, u21, u22, u23, u24, u25, u26, u27, u28, u29, u30, u31, u32, u33, u34, u35, u36, u37, u38, u39, u40, u41, u42, u43, u44, u45, u46, u47, u48, u49, u50, u51, u52, u53, u54, u55, u56, u57, u58, u59, u60, u61, u62, u63, u64, u65, u66, u67, u68, u69, u70, u71, u72, u73, u74, u75, u76, u77, u78, u79, u80, u81, u82, u83, u84, u85, u86, u87, u88, u89, u90, u91, u92, u93, u94, u95, u96, u97, u98, u99, u100, u101, u102, u103, u104, u105, u106, u107, u108, u109, u110], []⟩ v := by
  refine tailQ_step rfl ?_
  intro K hK
  go_wp2_with fail
  exact Met.intro (lnm4 HH HB hnc HP hgb hnl hP)

set_option maxHeartbeats 16000000 in
set_option maxRecDepth 100000 in
theorem lnm1n {w0 v : World} {g : Nat} {ses base : Int} {q : List Fr} {want : Int} {ns : List (Bool × List Int)} {cm : List Int} {qa : Option Addr} {qn qc : Nat} {nv cv : Value} {K0 : Act → World → Prop} {P : Ending → World → Prop} {gb n c g5 : Nat} {lb : List Int} {nx : Int} (HH : Hid (LnW (fun _ => False) w0 v g ses base q want ns cm true qa qn qc nv cv)) (XR : Hid (Bx v g5 #[.int .i64 ses, .int .i64 nx] 26)) (hg5 : g5 ≠ g) (HB : Hid (Bytes v (some ⟨gb, 0, none⟩) n lb)) (hnc : n ≤ c) (HP : Hid (Pf g nv cv gb)) (hgb : gb < v.heap.size) (hnl : ns.length ≤ 1000) (hP : Hid (∀ w' nv', LnW (fun _ => False) w0 w' g ses base q nx (ns ++ [(false, lb)]) cm true qa qn qc nv' cv → P (.returned (.tuple #[])) w')) {u1 u2 u3 u4 u6 u10 u11 u12 u13 u14 u15 u16 u17 u18 u19 u20 u21 u22 u23 u24 u25 u26 u27 u28 u29 u30 u31 u32 u33 u34 u35 u36 u37 u38 u39 u40 u41 u42 u43 u44 u45 u46 u47 u48 u49 u50 u51 u52 u53 u54 u55 u56 u57 u58 u59 u60 u61 u62 u63 u64 u65 u66 u67 u68 u69 u70 u71 u72 u73 u74 u75 u76 u77 u78 u79 u80 u81 u82 u83 u84 u85 u86 u87 u88 u89 u90 u91 u92 u93 u94 u95 u96 u97 u98 u99 u100 u101 u102 u103 u104 u105 u106 u107 u108 u109 u110 : Value} :
    TailM K0 P 1 ⟨#[.pointer (some ⟨g, 0, none⟩), u1, u2, u3, u4, .pointer (some ⟨g5, 0, none⟩), u6, .bool false, .slice (some ⟨gb, 0, none⟩) n c, .nilIface, u10, u11, u12, u13, u14, u15, u16, u17, u18, u19, u20, u21, u22, u23, u24, u25, u26, u27, u28, u29, u30, u31, u32, u33, u34, u35, u36, u37, u38, u39, u40, u41, u42, u43, u44, u45, u46, u47, u48, u49, u50, u51, u52, u53, u54, u55, u56, u57, u58, u59, u60, u61, u62, u63, u64, u65, u66, u67, u68, u69, u70, u71, u72, u73, u74, u75, u76, u77, u78, u79, u80, u81, u82, u83, u84, u85, u86, u87, u88, u89, u90, u91, u92, u93, u94, u95, u96, u97, u98, u99, u100, u101, u102, u103, u104, u105, u106, u107, u108, u109, u110], []⟩ v := by
  refine tailQ_step rfl ?_
  intro K hK
  obtain ⟨x0, x1, x2, x3, x4, x5, x6, x7⟩ := HH.out.bx.cells
  have xz := Bx.frozen HH.out.bx
  obtain ⟨W2, hW2⟩ : ∃ W2 : World, Hid (W2 = v.setCell ⟨g, 7, none⟩ (.bool true)) := ⟨_, rfl⟩
  have H2 := hide (show LnW (fun _ => False) w0 W2 g ses base q want ns cm true qa qn qc nv cv by rw [hW2.out]; exact HH.out.oked)
  have R2 := hide (show Bx W2 g5 #[.int .i64 ses, .int .i64 nx] 26 by rw [hW2.out]; exact XR.out.other _ _ hg5)
  go_wp2_with fail
  rw [← hW2.out]
  refine Met.intro (tailQ_step rfl ?_)
  try clear hK K
  intro K hK
  clear x0 x1 x2 x3 x4 x5 x6 x7 xz
  obtain ⟨x0, x1, x2, x3, x4, x5, x6, x7⟩ := H2.out.bx.cells
  have xz := Bx.frozen H2.out.bx
  obtain ⟨r0, r1⟩ := R2.out.pair
  obtain ⟨W3, hW3⟩ : ∃ W3 : World, Hid (W3 = (W2.setCell ⟨g, 3, none⟩ (.int .i64 ses)).setCell ⟨g, 4, none⟩ (.int .i64 nx)) := ⟨_, rfl⟩
  have H3 := hide (show LnW (fun _ => False) w0 W3 g ses base q nx ns cm true qa qn qc nv cv by rw [hW3.out]; exact H2.out.recd)
  have XG := hide (show Ext (fun b => b = g) v W3 by
    rw [hW3.out, hW2.out]
    exact ((Ext.trans (S := fun b => b = g) (w' := v.setCell ⟨g, 7, none⟩ (.bool true)) ⟨by simp, fun b _ hb => Below.heap_setCell v _ _ b (fun e => hb e)⟩ ⟨by simp, fun b _ hb => Below.heap_setCell _ _ _ b (fun e => hb e)⟩).trans ⟨by simp, fun b _ hb => Below.heap_setCell _ _ _ b (fun e => hb e)⟩))
  have Y3 := hide (HB.out.ext (P := fun b => b = gb) XG.out (fun _ p hp => by cases hp; rfl) (fun b _ hb e => by subst hb; exact HP.out.1 e))
  have hgb3 : gb < W3.heap.size := Nat.lt_of_lt_of_le hgb XG.out.size
  go_wp2_with fail
  rw [← hW3.out]
  exact Met.intro (lnm3n H3 Y3 hnc HP hgb3 hnl hP)

set_option maxHeartbeats 16000000 in
set_option maxRecDepth 100000 in
theorem lnm1y {w0 v : World} {g : Nat} {ses base : Int} {q : List Fr} {want : Int} {ns : List (Bool × List Int)} {cm : List Int} {qa : Option Addr} {qn qc : Nat} {nv cv : Value} {K0 : Act → World → Prop} {P : Ending → World → Prop} {gb n c g5 g6 : Nat} {lb : List Int} {nx kd y : Int} {b1 o1 c1 : Nat} {a2 : Option Addr} {nb c2 : Nat} (HH : Hid (LnW (fun _ => False) w0 v g ses base q want ns cm true qa qn qc nv cv)) (XR : Hid (Bx v g5 #[.int .i64 ses, .int .i64 nx] 26)) (hg5 : g5 ≠ g) (XM : Hid (Bx v g6 #[.int .i64 kd, .slice (some ⟨b1, o1, none⟩) 1 c1, .slice a2 nb c2] 40)) (hg6 : g6 ≠ g) (HI : Hid (v.cell? ⟨b1, o1, none⟩ = some (.int .i64 y))) (hb1 : b1 ≠ g) (HB : Hid (Bytes v (some ⟨gb, 0, none⟩) n lb)) (hnc : n ≤ c) (HP : Hid (Pf g nv cv gb)) (hgb : gb < v.heap.size) (hnl : ns.length ≤ 1000) (hcl : cm.length ≤ 1000) (hP : Hid (∀ w' nv' cv', LnW (fun _ => False) w0 w' g ses base q nx (ns ++ [(false, lb)]) (cm ++ [y]) true qa qn qc nv' cv' → P (.returned (.tuple #[])) w')) {u1 u2 u3 u4 u10 u11 u12 u13 u14 u15 u16 u17 u18 u19 u20 u21 u22 u23 u24 u25 u26 u27 u28 u29 u30 u31 u32 u33 u34 u35 u36 u37 u38 u39 u40 u41 u42 u43 u44 u45 u46 u47 u48 u49 u50 u51 u52 u53 u54 u55 u56 u57 u58 u59 u60 u61 u62 u63 u64 u65 u66 u67 u68 u69 u70 u71 u72 u73 u74 u75 u76 u77 u78 u79 u80 u81 u82 u83 u84 u85 u86 u87 u88 u89 u90 u91 u92 u93 u94 u95 u96 u97 u98 u99 u100 u101 u102 u103 u104 u105 u106 u107 u108 u109 u110 : Value} :
    TailM K0 P 1 ⟨#[.pointer (some ⟨g, 0, none⟩), u1, u2, u3, u4, .pointer (some ⟨g5, 0, none⟩), .pointer (some ⟨g6, 0, none⟩), .bool true, .slice (some ⟨gb, 0, none⟩) n c, .nilIface, u10, u11, u12, u13, u14, u15, u16, u17, u18, u19, u20, u21, u22, u23, u24, u25, u26, u27, u28, u29, u30, u31, u32, u33, u34, u35, u36, u37, u38, u39, u40, u41, u42, u43, u44, u45, u46, u47, u48, u49, u50, u51, u52, u53, u54, u55, u56, u57, u58, u59, u60, u61, u62, u63, u64, u65, u66, u67, u68, u69, u70, u71, u72, u73, u74, u75, u76, u77, u78, u79, u80, u81, u82, u83, u84, u85, u86, u87, u88, u89, u90, u91, u92, u93, u94, u95, u96, u97, u98, u99, u100, u101, u102, u103, u104, u105, u106, u107, u108, u109, u110], []⟩ v := by
  refine tailQ_step rfl ?_
  intro K hK
  obtain ⟨x0, x1, x2, x3, x4, x5, x6, x7⟩ := HH.out.bx.cells
  have xz := Bx.frozen HH.out.bx
  obtain ⟨W2, hW2⟩ : ∃ W2 : World, Hid (W2 = v.setCell ⟨g, 7, none⟩ (.bool true)) := ⟨_, rfl⟩
  have H2 := hide (show LnW (fun _ => False) w0 W2 g ses base q want ns cm true qa qn qc nv cv by rw [hW2.out]; exact HH.out.oked)
  have R2 := hide (show Bx W2 g5 #[.int .i64 ses, .int .i64 nx] 26 by rw [hW2.out]; exact XR.out.other _ _ hg5)
  go_wp2_with fail
  rw [← hW2.out]
  refine Met.intro (tailQ_step rfl ?_)
  try clear hK K
  intro K hK
  clear x0 x1 x2 x3 x4 x5 x6 x7 xz
  obtain ⟨x0, x1, x2, x3, x4, x5, x6, x7⟩ := H2.out.bx.cells
  have xz := Bx.frozen H2.out.bx
  obtain ⟨r0, r1⟩ := R2.out.pair
  obtain ⟨W3, hW3⟩ : ∃ W3 : World, Hid (W3 = (W2.setCell ⟨g, 3, none⟩ (.int .i64 ses)).setCell ⟨g, 4, none⟩ (.int .i64 nx)) := ⟨_, rfl⟩
  have H3 := hide (show LnW (fun _ => False) w0 W3 g ses base q nx ns cm true qa qn qc nv cv by rw [hW3.out]; exact H2.out.recd)
  have XG := hide (show Ext (fun b => b = g) v W3 by
    rw [hW3.out, hW2.out]
    exact ((Ext.trans (S := fun b => b = g) (w' := v.setCell ⟨g, 7, none⟩ (.bool true)) ⟨by simp, fun b _ hb => Below.heap_setCell v _ _ b (fun e => hb e)⟩ ⟨by simp, fun b _ hb => Below.heap_setCell _ _ _ b (fun e => hb e)⟩).trans ⟨by simp, fun b _ hb => Below.heap_setCell _ _ _ b (fun e => hb e)⟩))
  have Y3 := hide (HB.out.ext (P := fun b => b = gb) XG.out (fun _ p hp => by cases hp; rfl) (fun b _ hb e => by subst hb; exact HP.out.1 e))
  have hgb3 : gb < W3.heap.size := Nat.lt_of_lt_of_le hgb XG.out.size
  go_wp2_with fail
  rw [← hW3.out]
  have M3 := hide (XG.out.bx XM.out hg6)
  have I3 := hide ((XG.out.cell (World.block_lt_of_cell? v _ HI.out) hb1).trans HI.out)
  exact Met.intro (lnm3y H3 Y3 hnc HP hgb3 hnl hcl M3 I3 hP)


end Go.Proofs.Ytfgonmgmoeoedaa

/-
  A line: a message comes (come): whole.
-/
namespace Go.Proofs.Ytfgonmgmoeoedaa
open Go.RowKit

theorem keep3 {X : Nat → Prop} {w0 w V : World} {g : Nat} {ses base : Int} {q : List Fr} {want : Int} {ns : List (Bool × List Int)} {cm : List Int} {ok : Bool} {qa : Option Addr} {qn qc : Nat} {nv cv : Value} {u : Nat} {z : Value} (h : LnW X w0 w g ses base q want ns cm ok qa qn qc nv cv) (hv : w.cell? ⟨u, 1, none⟩ = some z) (hu : u < w.heap.size) (hb : Below w.heap.size w V) : V.cell? ⟨g, 3, none⟩ = some (.int .i64 ses) ∧ V.cell? ⟨g, 4, none⟩ = some (.int .i64 want) ∧ V.cell? ⟨u, 1, none⟩ = some z := by
  obtain ⟨_, _, _, x3, x4, _, _, _⟩ := (h.later hb).bx.cells
  exact ⟨x3, x4, (hb.cell (p := ⟨u, 1, none⟩) hu).trans hv⟩

theorem Ext.drew {S : Nat → Prop} {w V : World} (h : Ext S w V) : Ext S w V.drew := ⟨h.size, h.block⟩

theorem Ext.alloc {S : Nat → Prop} {w V : World} (h : Ext S w V) (o : Obj) : Ext S w (V.alloc o) :=
  ⟨by have := h.size; simp; omega, fun b hb hs => (Below.heap_alloc V o b (Nat.lt_of_lt_of_le hb h.size)).trans (h.block b hb hs)⟩

theorem Ext.setCell {S : Nat → Prop} {w V : World} {p : Addr} (h : Ext S w V) (hp : S p.block ∨ w.heap.size ≤ p.block) (v : Value) : Ext S w (V.setCell p v) :=
  ⟨by have := h.size; simp; omega, fun b hb hs => (Below.heap_setCell V p v b (fun e => by
    rcases hp with h1 | h1
    · rw [← e] at h1
      exact hs h1
    · omega)).trans (h.block b hb hs)⟩

theorem bx_second (w : World) (o : Obj) (cs : Array Value) (t : TypeId) : Bx ((w.alloc o).alloc (.cells cs t)) (w.heap.size + 1) cs t := by
  have h := Bx.new (w.alloc o) cs t
  rw [World.size_alloc] at h
  exact h

theorem bx_after3 (w : World) (p0 p1 p2 : Addr) (s0 s1 s2 : Value) {cs : Array Value} {t : TypeId} : Bx ((((w.setCell p0 s0).setCell p1 s1).setCell p2 s2).alloc (.cells cs t)) w.heap.size cs t := by
  have h := Bx.new (((w.setCell p0 s0).setCell p1 s1).setCell p2 s2) cs t
  simp only [World.size_setCell] at h
  exact h

set_option maxHeartbeats 16000000 in
set_option maxRecDepth 100000 in
theorem lnmsg_no (w0 w : World) (g : Nat) (ses base : Int) (q : List Fr) (want : Int) (ns : List (Bool × List Int)) (cm : List Int) (qa : Option Addr) (qn qc : Nat) (nv cv : Value) (h : LnW (fun _ => False) w0 w g ses base q want ns cm true qa qn qc nv cv) (i : Nat) (l : List Int) (hi : ns[i]? = some (true, l)) (hl2 : l.length ≤ 2000) (hnl : ns.length ≤ 1000) (hs0 : 0 ≤ ses) (hs1 : ses ≤ 2147483647) (hw0 : 0 ≤ want) (hw1 : want ≤ 2147483647) (x kd : Int) (nm : List Int) (nb : Nat) (bs : List Int) (hM : Mx.Msg l ses x kd nm nb bs) (hx : x ≠ want) :
    Calls Try.prog 21 #[.pointer (some ⟨g, 0, none⟩), .int .i64 (i : Int)] w fun e w' => e = .returned (.tuple #[]) ∧ ∃ nv', Hid (LnW (fun _ => False) w0 w' g ses base q want (ns ++ [(false, Mx.packB 0 [ses, want] 0 [])]) cm true qa qn qc nv' cv) := by
  have HH := hide h
  have HM := hide hM
  obtain ⟨gN, cap, a, n, c, hnv, hcap, hgN, e0, e1, hBy, hnc, hav⟩ := h.net.at_ hi
  obtain ⟨N, hN⟩ : ∃ N : Nat, Hid (N = ns.length) := ⟨_, rfl⟩
  rw [← hN.out] at hnv hcap
  have hiN : i < N := by rw [hN.out]; exact (List.getElem?_eq_some_iff.1 hi).1
  subst hnv
  have hn2 : n ≤ 2000 := by have h1 : l.length = n := hBy.1; omega
  obtain ⟨x0, x1, x2, x3, x4, x5, x6, x7⟩ := h.bx.cells
  have hgw : g < w.heap.size := Bx.lt h.bx
  obtain ⟨W1, hW1⟩ : ∃ W1 : World, Hid (W1 = w.alloc (.cells #[.bool true, .slice a n c] 60)) := ⟨_, rfl⟩
  have D1 := hide (show Below w.heap.size w W1 by rw [hW1.out]; exact below_alloc _ _)
  have U1 := hide (show Bx W1 w.heap.size #[.bool true, .slice a n c] 60 by rw [hW1.out]; exact Bx.new w _ _)
  have H1 := hide (HH.out.later D1.out)
  have Y1 := hide (hBy.later D1.out)
  clear h hM hi hBy hav
  have hii : (i : Int) < N := by omega
  go_enter Try.func21, Try.ntmps21
  change TailG Try.f21 _ 0 _ w
  refine tailG_step rfl ?_
  intro K hK
  go_wp2_with fail
  rw [← hW1.out]
  refine Met.intro (tailG_step rfl ?_)
  try clear hK K
  intro K hK
  clear x0 x1 x2 x3 x4 x5 x6 x7 e0 e1
  obtain ⟨u0, u1⟩ := U1.out.pair
  refine seq_step ?_
  intro K2 hK2
  go_wp2_with fail
  refine Met.intro (wp_cond_true rfl ?_)
  try clear hK2
  try clear K2
  try clear hK
  change TailM K _ 0 _ W1
  refine tailQ_step rfl ?_
  intro K3 hK3
  obtain ⟨x0, x1, x2, x3, x4, x5, x6, x7⟩ := H1.out.bx.cells
  have hg1 : g < W1.heap.size := Bx.lt H1.out.bx
  have hu1 : w.heap.size < W1.heap.size := U1.out.lt
  obtain ⟨Wa, hWa⟩ : ∃ Wa : World, Hid (Wa = (W1.alloc (.cells #[.int .i64 0, .int .i64 0] 26)).drew) := ⟨_, rfl⟩
  have DWa := hide (show Below W1.heap.size W1 Wa by rw [hWa.out]; exact (below_alloc _ _).drew)
  obtain ⟨Wb, hWb⟩ : ∃ Wb : World, Hid (Wb = (W1.alloc (.cells #[.int .i64 0, .slice none 0 0, .slice none 0 0] 40)).drew) := ⟨_, rfl⟩
  have DWb := hide (show Below W1.heap.size W1 Wb by rw [hWb.out]; exact (below_alloc _ _).drew)
  obtain ⟨Wc, hWc⟩ : ∃ Wc : World, Hid (Wc = ((W1.alloc (.cells #[.int .i64 0, .int .i64 0] 26)).alloc (.cells #[.int .i64 0, .slice none 0 0, .slice none 0 0] 40)).drew) := ⟨_, rfl⟩
  have DWc := hide (show Below W1.heap.size W1 Wc by rw [hWc.out]; exact ((below_alloc _ _).alloc (by simp) _).drew)
  obtain ⟨Wd, hWd⟩ : ∃ Wd : World, Hid (Wd = ((W1.alloc (.cells #[.int .i64 0, .slice none 0 0, .slice none 0 0] 40)).alloc (.cells #[.int .i64 0, .int .i64 0] 26)).drew) := ⟨_, rfl⟩
  have DWd := hide (show Below W1.heap.size W1 Wd by rw [hWd.out]; exact ((below_alloc _ _).alloc (by simp) _).drew)
  have BWaRA := hide (show Bx Wa W1.heap.size #[.int .i64 0, .int .i64 0] 26 by rw [hWa.out]; exact Bx.newD W1 _ _)
  have BWbRB := hide (show Bx Wb W1.heap.size #[.int .i64 0, .slice none 0 0, .slice none 0 0] 40 by rw [hWb.out]; exact Bx.newD W1 _ _)
  have BWcRA := hide (show Bx Wc W1.heap.size #[.int .i64 0, .int .i64 0] 26 by rw [hWc.out]; exact (Bx.new W1 _ _).alloc _)
  have BWcRB := hide (show Bx Wc (W1.heap.size + 1) #[.int .i64 0, .slice none 0 0, .slice none 0 0] 40 by rw [hWc.out]; have h := Bx.new (W1.alloc (.cells #[.int .i64 0, .int .i64 0] 26)) #[.int .i64 0, .slice none 0 0, .slice none 0 0] 40; rw [World.size_alloc] at h; exact h)
  have BWdRB := hide (show Bx Wd W1.heap.size #[.int .i64 0, .slice none 0 0, .slice none 0 0] 40 by rw [hWd.out]; exact (Bx.new W1 _ _).alloc _)
  have BWdRA := hide (show Bx Wd (W1.heap.size + 1) #[.int .i64 0, .int .i64 0] 26 by rw [hWd.out]; have h := Bx.new (W1.alloc (.cells #[.int .i64 0, .slice none 0 0, .slice none 0 0] 40)) #[.int .i64 0, .int .i64 0] 26; rw [World.size_alloc] at h; exact h)
  have ZWa := hide (show Wa.heap.size = W1.heap.size + 1 by rw [hWa.out]; simp)
  have ZWb := hide (show Wb.heap.size = W1.heap.size + 1 by rw [hWb.out]; simp)
  have ZWc := hide (show Wc.heap.size = W1.heap.size + 2 by rw [hWc.out]; simp)
  have ZWd := hide (show Wd.heap.size = W1.heap.size + 2 by rw [hWd.out]; simp)
  have hg1a : g < (W1.alloc (.cells #[.int .i64 0, .int .i64 0] 26)).heap.size := by simp; omega
  have hu1a : w.heap.size < (W1.alloc (.cells #[.int .i64 0, .int .i64 0] 26)).heap.size := by simp; omega
  have hg1b : g < (W1.alloc (.cells #[.int .i64 0, .slice none 0 0, .slice none 0 0] 40)).heap.size := by simp; omega
  have hu1b : w.heap.size < (W1.alloc (.cells #[.int .i64 0, .slice none 0 0, .slice none 0 0] 40)).heap.size := by simp; omega
  go_upto_region 2 with fail
  go_region_held3 (fun w' => w'.cell? ⟨g, 3, none⟩ = some (.int .i64 ses) ∧ w'.cell? ⟨g, 4, none⟩ = some (.int .i64 want) ∧ w'.cell? ⟨w.heap.size, 1, none⟩ = some (.slice a n c))
    (first
      | with_reducible exact ⟨x3, x4, u1⟩
      | exact keep3 H1.out u1 hu1 (by (repeat' (first | with_reducible exact D2.out | with_reducible exact Below.refl _ _ | (with_reducible refine Below.drew ?_) | (with_reducible refine Below.alloc ?_ (by first | omega | (simp <;> omega)) _) | (with_reducible refine Below.setCell ?_ (by first | omega | (simp <;> omega)) _)))))
    (first
      | (go_at_call 11; (with_reducible refine (lreceive_no ses want a n c l x kd nm nb bs W1.drew (Y1.out.later (Below.refl _ _).drew) hn2 hnc hs0 hs1 hw0 hw1 HM.out hx).mono ?_); rintro e w2 ⟨gb, m, d, rfl, hO, hB⟩; have D2 := hide (ld_below hB.out); have hsz : W1.heap.size ≤ w2.heap.size := D2.out.size; have XS := hide (show ∀ V, Ext (fun _ => False) w2 V → AnsO W1.heap.size V gb m d (Mx.packB 0 [ses, want] 0 []) from fun V hV => ⟨hO.out.1, Nat.lt_of_lt_of_le hO.out.2.1 hV.size, hO.out.2.2.1, hO.out.2.2.2.ext (P := fun _ => True) hV (fun _ _ _ => trivial) (fun _ _ _ e => e)⟩))
      | (go_at_call 11; rw [← hWa.out]; (with_reducible refine (lreceive_no ses want a n c l x kd nm nb bs Wa (Y1.out.later DWa.out) hn2 hnc hs0 hs1 hw0 hw1 HM.out hx).mono ?_); rintro e w2 ⟨gb, m, d, rfl, hO, hB⟩; have D2 := hide (DWa.out.trans (hB.out.mono DWa.out.size)); have hsz : W1.heap.size ≤ w2.heap.size := D2.out.size; have RA := hide (BWaRA.out.later hB.out BWaRA.out.lt); obtain ⟨ra0, ra1⟩ := RA.out.pair; have raz := RA.out.frozen; have ral := RA.out.lt; have ran := Nat.ne_of_lt RA.out.lt; have ram := Nat.ne_of_gt RA.out.lt; have XS := hide (show ∀ V, Ext (fun b => b = W1.heap.size) w2 V → AnsO W1.heap.size V gb m d (Mx.packB 0 [ses, want] 0 []) from fun V hV => ⟨(by have h1 := hO.out.1; have h2 := ZWa.out; omega), Nat.lt_of_lt_of_le hO.out.2.1 hV.size, hO.out.2.2.1, hO.out.2.2.2.ext (P := fun b => b = gb) hV (fun _ p hp => by cases hp; rfl) (fun b _ hb e => by have h1 := hO.out.1; have h2 := ZWa.out; omega)⟩))
      | (go_at_call 11; rw [← hWb.out]; (with_reducible refine (lreceive_no ses want a n c l x kd nm nb bs Wb (Y1.out.later DWb.out) hn2 hnc hs0 hs1 hw0 hw1 HM.out hx).mono ?_); rintro e w2 ⟨gb, m, d, rfl, hO, hB⟩; have D2 := hide (DWb.out.trans (hB.out.mono DWb.out.size)); have hsz : W1.heap.size ≤ w2.heap.size := D2.out.size; have RB := hide (BWbRB.out.later hB.out BWbRB.out.lt); obtain ⟨rb0, rb1, rb2⟩ := RB.out.three; have rbz := RB.out.frozen; have rbl := RB.out.lt; have rbn := Nat.ne_of_lt RB.out.lt; have rbm := Nat.ne_of_gt RB.out.lt; have XS := hide (show ∀ V, Ext (fun b => b = W1.heap.size) w2 V → AnsO W1.heap.size V gb m d (Mx.packB 0 [ses, want] 0 []) from fun V hV => ⟨(by have h1 := hO.out.1; have h2 := ZWb.out; omega), Nat.lt_of_lt_of_le hO.out.2.1 hV.size, hO.out.2.2.1, hO.out.2.2.2.ext (P := fun b => b = gb) hV (fun _ p hp => by cases hp; rfl) (fun b _ hb e => by have h1 := hO.out.1; have h2 := ZWb.out; omega)⟩))
      | (go_at_call 11; rw [← hWc.out]; (with_reducible refine (lreceive_no ses want a n c l x kd nm nb bs Wc (Y1.out.later DWc.out) hn2 hnc hs0 hs1 hw0 hw1 HM.out hx).mono ?_); rintro e w2 ⟨gb, m, d, rfl, hO, hB⟩; have D2 := hide (DWc.out.trans (hB.out.mono DWc.out.size)); have hsz : W1.heap.size ≤ w2.heap.size := D2.out.size; have RA := hide (BWcRA.out.later hB.out BWcRA.out.lt); obtain ⟨ra0, ra1⟩ := RA.out.pair; have raz := RA.out.frozen; have ral := RA.out.lt; have ran := Nat.ne_of_lt RA.out.lt; have ram := Nat.ne_of_gt RA.out.lt; have RB := hide (BWcRB.out.later hB.out BWcRB.out.lt); obtain ⟨rb0, rb1, rb2⟩ := RB.out.three; have rbz := RB.out.frozen; have rbl := RB.out.lt; have rbn := Nat.ne_of_lt RB.out.lt; have rbm := Nat.ne_of_gt RB.out.lt; have XS := hide (show ∀ V, Ext (fun b => b = W1.heap.size ∨ b = W1.heap.size + 1) w2 V → AnsO W1.heap.size V gb m d (Mx.packB 0 [ses, want] 0 []) from fun V hV => ⟨(by have h1 := hO.out.1; have h2 := ZWc.out; omega), Nat.lt_of_lt_of_le hO.out.2.1 hV.size, hO.out.2.2.1, hO.out.2.2.2.ext (P := fun b => b = gb) hV (fun _ p hp => by cases hp; rfl) (fun b _ hb e => by have h1 := hO.out.1; have h2 := ZWc.out; omega)⟩))
      | (go_at_call 11; rw [← hWd.out]; (with_reducible refine (lreceive_no ses want a n c l x kd nm nb bs Wd (Y1.out.later DWd.out) hn2 hnc hs0 hs1 hw0 hw1 HM.out hx).mono ?_); rintro e w2 ⟨gb, m, d, rfl, hO, hB⟩; have D2 := hide (DWd.out.trans (hB.out.mono DWd.out.size)); have hsz : W1.heap.size ≤ w2.heap.size := D2.out.size; have RB := hide (BWdRB.out.later hB.out BWdRB.out.lt); obtain ⟨rb0, rb1, rb2⟩ := RB.out.three; have rbz := RB.out.frozen; have rbl := RB.out.lt; have rbn := Nat.ne_of_lt RB.out.lt; have rbm := Nat.ne_of_gt RB.out.lt; have RA := hide (BWdRA.out.later hB.out BWdRA.out.lt); obtain ⟨ra0, ra1⟩ := RA.out.pair; have raz := RA.out.frozen; have ral := RA.out.lt; have ran := Nat.ne_of_lt RA.out.lt; have ram := Nat.ne_of_gt RA.out.lt; have XS := hide (show ∀ V, Ext (fun b => b = W1.heap.size ∨ b = W1.heap.size + 1) w2 V → AnsO W1.heap.size V gb m d (Mx.packB 0 [ses, want] 0 []) from fun V hV => ⟨(by have h1 := hO.out.1; have h2 := ZWd.out; omega), Nat.lt_of_lt_of_le hO.out.2.1 hV.size, hO.out.2.2.1, hO.out.2.2.2.ext (P := fun b => b = gb) hV (fun _ p hp => by cases hp; rfl) (fun b _ hb e => by have h1 := hO.out.1; have h2 := ZWd.out; omega)⟩)))
  all_goals
    clear x0 x1 x2 x3 x4 x5 x6 x7 u0 u1
    go_wp2_with fail
    refine Met.intro (lnm1n (w0 := w0) (ses := ses) (base := base) (q := q) (want := want) (cm := cm) (qa := qa) (qn := qn) (qc := qc) (nv := .slice (some ⟨gN, 0, none⟩) N cap) (cv := cv) (nx := want) (n := m) (c := d) (gb := gb) (lb := (Mx.packB 0 [ses, want] 0 [])) (hide ?zzl) (hide ?zzx) ?zzg (hide ?zzb) ?zzc (hide ?zzp) ?zzs hnl (hide ?zzP))
    case zzl => exact H1.out.later (by (repeat' (first | with_reducible exact D2.out | with_reducible exact Below.refl _ _ | (with_reducible refine Below.drew ?_) | (with_reducible refine Below.alloc ?_ (by first | omega | (simp <;> omega)) _) | (with_reducible refine Below.setCell ?_ (by first | omega | (simp <;> omega)) _))))
    case zzx => first
      | with_reducible exact (Bx.new w2 _ _).alloc _
      | with_reducible exact bx_second w2 _ _ _
      | with_reducible exact (RA.out.two_set _ _).alloc _
      | with_reducible exact (((RA.out.two_set _ _).other _ _ (by simp)).other _ _ (by simp)).other _ _ (by simp)
      | with_reducible exact bx_after3 w2 _ _ _ _ _ _
    case zzg => first | omega | (simp; omega)
    case zzb => exact (XS.out _ (by (repeat' (first | with_reducible exact Ext.refl _ _ | (with_reducible refine Ext.drew ?_) | (with_reducible refine Ext.alloc ?_ _) | (with_reducible refine Ext.setCell ?_ (by dsimp only; first | omega | (right; omega) | (left; omega)) _))))).2.2.2
    case zzc => exact hO.out.2.2.1
    case zzp => exact pf_new HH.out (Nat.le_trans D1.out.size (XS.out w2 (by (repeat' (first | with_reducible exact Ext.refl _ _ | (with_reducible refine Ext.drew ?_) | (with_reducible refine Ext.alloc ?_ _) | (with_reducible refine Ext.setCell ?_ (by dsimp only; first | omega | (right; omega) | (left; omega)) _))))).1)
    case zzs => exact (XS.out _ (by (repeat' (first | with_reducible exact Ext.refl _ _ | (with_reducible refine Ext.drew ?_) | (with_reducible refine Ext.alloc ?_ _) | (with_reducible refine Ext.setCell ?_ (by dsimp only; first | omega | (right; omega) | (left; omega)) _))))).2.1
    case zzP => exact fun w' nv' h => ⟨rfl, nv', h⟩
theorem bx_after2 (w : World) (p0 p1 : Addr) (s0 s1 : Value) {cs : Array Value} {t : TypeId} : Bx (((w.setCell p0 s0).setCell p1 s1).alloc (.cells cs t)) w.heap.size cs t := by
  have h := Bx.new ((w.setCell p0 s0).setCell p1 s1) cs t
  simp only [World.size_setCell] at h
  exact h

set_option maxHeartbeats 16000000 in
set_option maxRecDepth 100000 in
theorem lnmsg_yes (w0 w : World) (g : Nat) (ses base : Int) (q : List Fr) (want : Int) (ns : List (Bool × List Int)) (cm : List Int) (qa : Option Addr) (qn qc : Nat) (nv cv : Value) (h : LnW (fun _ => False) w0 w g ses base q want ns cm true qa qn qc nv cv) (i : Nat) (l : List Int) (hi : ns[i]? = some (true, l)) (hl2 : l.length ≤ 2000) (hnl : ns.length ≤ 1000) (hcl : cm.length ≤ 1000) (hs0 : 0 ≤ ses) (hs1 : ses ≤ 2147483647) (hw0 : 0 ≤ want) (hw1 : want < 2147483647) (kd y : Int) (nb : Nat) (bs : List Int) (hM : Mx.Msg l ses want kd [y] nb bs) :
    Calls Try.prog 21 #[.pointer (some ⟨g, 0, none⟩), .int .i64 (i : Int)] w fun e w' => e = .returned (.tuple #[]) ∧ ∃ nv' cv', Hid (LnW (fun _ => False) w0 w' g ses base q (want + 1) (ns ++ [(false, (Mx.packB 0 [ses, want + 1] 0 []))]) (cm ++ [y]) true qa qn qc nv' cv') := by
  have HH := hide h
  have HM := hide hM
  obtain ⟨gN, cap, a, n, c, hnv, hcap, hgN, e0, e1, hBy, hnc, hav⟩ := h.net.at_ hi
  obtain ⟨N, hN⟩ : ∃ N : Nat, Hid (N = ns.length) := ⟨_, rfl⟩
  rw [← hN.out] at hnv hcap
  have hiN : i < N := by rw [hN.out]; exact (List.getElem?_eq_some_iff.1 hi).1
  subst hnv
  have hn2 : n ≤ 2000 := by have h1 : l.length = n := hBy.1; omega
  obtain ⟨x0, x1, x2, x3, x4, x5, x6, x7⟩ := h.bx.cells
  have hgw : g < w.heap.size := Bx.lt h.bx
  obtain ⟨W1, hW1⟩ : ∃ W1 : World, Hid (W1 = w.alloc (.cells #[.bool true, .slice a n c] 60)) := ⟨_, rfl⟩
  have D1 := hide (show Below w.heap.size w W1 by rw [hW1.out]; exact below_alloc _ _)
  have U1 := hide (show Bx W1 w.heap.size #[.bool true, .slice a n c] 60 by rw [hW1.out]; exact Bx.new w _ _)
  have H1 := hide (HH.out.later D1.out)
  have Y1 := hide (hBy.later D1.out)
  clear h hM hi hBy hav
  have hii : (i : Int) < N := by omega
  go_enter Try.func21, Try.ntmps21
  change TailG Try.f21 _ 0 _ w
  refine tailG_step rfl ?_
  intro K hK
  go_wp2_with fail
  rw [← hW1.out]
  refine Met.intro (tailG_step rfl ?_)
  try clear hK K
  intro K hK
  clear x0 x1 x2 x3 x4 x5 x6 x7 e0 e1
  obtain ⟨u0, u1⟩ := U1.out.pair
  refine seq_step ?_
  intro K2 hK2
  go_wp2_with fail
  refine Met.intro (wp_cond_true rfl ?_)
  try clear hK2
  try clear K2
  try clear hK
  change TailM K _ 0 _ W1
  refine tailQ_step rfl ?_
  intro K3 hK3
  obtain ⟨x0, x1, x2, x3, x4, x5, x6, x7⟩ := H1.out.bx.cells
  have hg1 : g < W1.heap.size := Bx.lt H1.out.bx
  have hu1 : w.heap.size < W1.heap.size := U1.out.lt
  obtain ⟨Wa, hWa⟩ : ∃ Wa : World, Hid (Wa = (W1.alloc (.cells #[.int .i64 0, .int .i64 0] 26)).drew) := ⟨_, rfl⟩
  have DWa := hide (show Below W1.heap.size W1 Wa by rw [hWa.out]; exact (below_alloc _ _).drew)
  obtain ⟨Wb, hWb⟩ : ∃ Wb : World, Hid (Wb = (W1.alloc (.cells #[.int .i64 0, .slice none 0 0, .slice none 0 0] 40)).drew) := ⟨_, rfl⟩
  have DWb := hide (show Below W1.heap.size W1 Wb by rw [hWb.out]; exact (below_alloc _ _).drew)
  obtain ⟨Wc, hWc⟩ : ∃ Wc : World, Hid (Wc = ((W1.alloc (.cells #[.int .i64 0, .int .i64 0] 26)).alloc (.cells #[.int .i64 0, .slice none 0 0, .slice none 0 0] 40)).drew) := ⟨_, rfl⟩
  have DWc := hide (show Below W1.heap.size W1 Wc by rw [hWc.out]; exact ((below_alloc _ _).alloc (by simp) _).drew)
  obtain ⟨Wd, hWd⟩ : ∃ Wd : World, Hid (Wd = ((W1.alloc (.cells #[.int .i64 0, .slice none 0 0, .slice none 0 0] 40)).alloc (.cells #[.int .i64 0, .int .i64 0] 26)).drew) := ⟨_, rfl⟩
  have DWd := hide (show Below W1.heap.size W1 Wd by rw [hWd.out]; exact ((below_alloc _ _).alloc (by simp) _).drew)
  have BWaRA := hide (show Bx Wa W1.heap.size #[.int .i64 0, .int .i64 0] 26 by rw [hWa.out]; exact Bx.newD W1 _ _)
  have BWbRB := hide (show Bx Wb W1.heap.size #[.int .i64 0, .slice none 0 0, .slice none 0 0] 40 by rw [hWb.out]; exact Bx.newD W1 _ _)
  have BWcRA := hide (show Bx Wc W1.heap.size #[.int .i64 0, .int .i64 0] 26 by rw [hWc.out]; exact (Bx.new W1 _ _).alloc _)
  have BWcRB := hide (show Bx Wc (W1.heap.size + 1) #[.int .i64 0, .slice none 0 0, .slice none 0 0] 40 by rw [hWc.out]; have h := Bx.new (W1.alloc (.cells #[.int .i64 0, .int .i64 0] 26)) #[.int .i64 0, .slice none 0 0, .slice none 0 0] 40; rw [World.size_alloc] at h; exact h)
  have BWdRB := hide (show Bx Wd W1.heap.size #[.int .i64 0, .slice none 0 0, .slice none 0 0] 40 by rw [hWd.out]; exact (Bx.new W1 _ _).alloc _)
  have BWdRA := hide (show Bx Wd (W1.heap.size + 1) #[.int .i64 0, .int .i64 0] 26 by rw [hWd.out]; have h := Bx.new (W1.alloc (.cells #[.int .i64 0, .slice none 0 0, .slice none 0 0] 40)) #[.int .i64 0, .int .i64 0] 26; rw [World.size_alloc] at h; exact h)
  have ZWa := hide (show Wa.heap.size = W1.heap.size + 1 by rw [hWa.out]; simp)
  have ZWb := hide (show Wb.heap.size = W1.heap.size + 1 by rw [hWb.out]; simp)
  have ZWc := hide (show Wc.heap.size = W1.heap.size + 2 by rw [hWc.out]; simp)
  have ZWd := hide (show Wd.heap.size = W1.heap.size + 2 by rw [hWd.out]; simp)
  go_upto_region 2 with fail
  go_region_held3 (fun w' => w'.cell? ⟨g, 3, none⟩ = some (.int .i64 ses) ∧ w'.cell? ⟨g, 4, none⟩ = some (.int .i64 want) ∧ w'.cell? ⟨w.heap.size, 1, none⟩ = some (.slice a n c))
    (first
      | with_reducible exact ⟨x3, x4, u1⟩
      | exact keep3 H1.out u1 hu1 (by (repeat' (first | with_reducible exact D2.out | with_reducible exact Below.refl _ _ | (with_reducible refine Below.drew ?_) | (with_reducible refine Below.alloc ?_ (by first | omega | (simp <;> omega)) _) | (with_reducible refine Below.setCell ?_ (by first | omega | (simp <;> omega)) _)))))
    (first
      | (go_at_call 11; (with_reducible refine (lreceive_yes ses want a n c l kd y nb bs W1.drew (Y1.out.later (Below.refl _ _).drew) hn2 hnc hs0 hs1 hw0 hw1 HM.out).mono ?_); rintro e w2 ⟨a1, c1, a2, c2, gb, m, d, rfl, hI, hO, hB⟩; obtain ⟨b1, o1, z, hab, hb1l, hz, hcell⟩ := hI.out.1.at_ 0 (by omega); obtain rfl : y = z := hz; subst hab; rw [Nat.add_zero] at hcell; have hb1g := hI.out.2 _ rfl; have HCE := hide hcell; clear hcell; have D2 := hide (ld_below hB.out); have hsz : W1.heap.size ≤ w2.heap.size := D2.out.size; have XS := hide (show ∀ V, Ext (fun _ => False) w2 V → AnsO W1.heap.size V gb m d (Mx.packB 0 [ses, want + 1] 0 []) from fun V hV => ⟨hO.out.1, Nat.lt_of_lt_of_le hO.out.2.1 hV.size, hO.out.2.2.1, hO.out.2.2.2.ext (P := fun _ => True) hV (fun _ _ _ => trivial) (fun _ _ _ e => e)⟩); have CS := hide (show ∀ V, Ext (fun _ => False) w2 V → V.cell? ⟨b1, o1, none⟩ = some (.int .i64 y) from fun V hV => (hV.cell hb1l (fun e => e)).trans HCE.out))
      | (go_at_call 11; rw [← hWa.out]; (with_reducible refine (lreceive_yes ses want a n c l kd y nb bs Wa (Y1.out.later DWa.out) hn2 hnc hs0 hs1 hw0 hw1 HM.out).mono ?_); rintro e w2 ⟨a1, c1, a2, c2, gb, m, d, rfl, hI, hO, hB⟩; obtain ⟨b1, o1, z, hab, hb1l, hz, hcell⟩ := hI.out.1.at_ 0 (by omega); obtain rfl : y = z := hz; subst hab; rw [Nat.add_zero] at hcell; have hb1g := hI.out.2 _ rfl; have HCE := hide hcell; clear hcell; have D2 := hide (DWa.out.trans (hB.out.mono DWa.out.size)); have hsz : W1.heap.size ≤ w2.heap.size := D2.out.size; have RA := hide (BWaRA.out.later hB.out BWaRA.out.lt); obtain ⟨ra0, ra1⟩ := RA.out.pair; have raz := RA.out.frozen; have ral := RA.out.lt; have ran := Nat.ne_of_lt RA.out.lt; have ram := Nat.ne_of_gt RA.out.lt; have XS := hide (show ∀ V, Ext (fun b => b = W1.heap.size) w2 V → AnsO W1.heap.size V gb m d (Mx.packB 0 [ses, want + 1] 0 []) from fun V hV => ⟨(by have h1 := hO.out.1; have h2 := ZWa.out; omega), Nat.lt_of_lt_of_le hO.out.2.1 hV.size, hO.out.2.2.1, hO.out.2.2.2.ext (P := fun b => b = gb) hV (fun _ p hp => by cases hp; rfl) (fun b _ hb e => by have h1 := hO.out.1; have h2 := ZWa.out; omega)⟩); have CS := hide (show ∀ V, Ext (fun b => b = W1.heap.size) w2 V → V.cell? ⟨b1, o1, none⟩ = some (.int .i64 y) from fun V hV => (hV.cell hb1l (fun e => by have h2 := ZWa.out; have h3 : Wa.heap.size ≤ b1 := hb1g; omega)).trans HCE.out))
      | (go_at_call 11; rw [← hWb.out]; (with_reducible refine (lreceive_yes ses want a n c l kd y nb bs Wb (Y1.out.later DWb.out) hn2 hnc hs0 hs1 hw0 hw1 HM.out).mono ?_); rintro e w2 ⟨a1, c1, a2, c2, gb, m, d, rfl, hI, hO, hB⟩; obtain ⟨b1, o1, z, hab, hb1l, hz, hcell⟩ := hI.out.1.at_ 0 (by omega); obtain rfl : y = z := hz; subst hab; rw [Nat.add_zero] at hcell; have hb1g := hI.out.2 _ rfl; have HCE := hide hcell; clear hcell; have D2 := hide (DWb.out.trans (hB.out.mono DWb.out.size)); have hsz : W1.heap.size ≤ w2.heap.size := D2.out.size; have RB := hide (BWbRB.out.later hB.out BWbRB.out.lt); obtain ⟨rb0, rb1, rb2⟩ := RB.out.three; have rbz := RB.out.frozen; have rbl := RB.out.lt; have rbn := Nat.ne_of_lt RB.out.lt; have rbm := Nat.ne_of_gt RB.out.lt; have XS := hide (show ∀ V, Ext (fun b => b = W1.heap.size) w2 V → AnsO W1.heap.size V gb m d (Mx.packB 0 [ses, want + 1] 0 []) from fun V hV => ⟨(by have h1 := hO.out.1; have h2 := ZWb.out; omega), Nat.lt_of_lt_of_le hO.out.2.1 hV.size, hO.out.2.2.1, hO.out.2.2.2.ext (P := fun b => b = gb) hV (fun _ p hp => by cases hp; rfl) (fun b _ hb e => by have h1 := hO.out.1; have h2 := ZWb.out; omega)⟩); have CS := hide (show ∀ V, Ext (fun b => b = W1.heap.size) w2 V → V.cell? ⟨b1, o1, none⟩ = some (.int .i64 y) from fun V hV => (hV.cell hb1l (fun e => by have h2 := ZWb.out; have h3 : Wb.heap.size ≤ b1 := hb1g; omega)).trans HCE.out))
      | (go_at_call 11; rw [← hWc.out]; (with_reducible refine (lreceive_yes ses want a n c l kd y nb bs Wc (Y1.out.later DWc.out) hn2 hnc hs0 hs1 hw0 hw1 HM.out).mono ?_); rintro e w2 ⟨a1, c1, a2, c2, gb, m, d, rfl, hI, hO, hB⟩; obtain ⟨b1, o1, z, hab, hb1l, hz, hcell⟩ := hI.out.1.at_ 0 (by omega); obtain rfl : y = z := hz; subst hab; rw [Nat.add_zero] at hcell; have hb1g := hI.out.2 _ rfl; have HCE := hide hcell; clear hcell; have D2 := hide (DWc.out.trans (hB.out.mono DWc.out.size)); have hsz : W1.heap.size ≤ w2.heap.size := D2.out.size; have RA := hide (BWcRA.out.later hB.out BWcRA.out.lt); obtain ⟨ra0, ra1⟩ := RA.out.pair; have raz := RA.out.frozen; have ral := RA.out.lt; have ran := Nat.ne_of_lt RA.out.lt; have ram := Nat.ne_of_gt RA.out.lt; have RB := hide (BWcRB.out.later hB.out BWcRB.out.lt); obtain ⟨rb0, rb1, rb2⟩ := RB.out.three; have rbz := RB.out.frozen; have rbl := RB.out.lt; have rbn := Nat.ne_of_lt RB.out.lt; have rbm := Nat.ne_of_gt RB.out.lt; have XS := hide (show ∀ V, Ext (fun b => b = W1.heap.size ∨ b = W1.heap.size + 1) w2 V → AnsO W1.heap.size V gb m d (Mx.packB 0 [ses, want + 1] 0 []) from fun V hV => ⟨(by have h1 := hO.out.1; have h2 := ZWc.out; omega), Nat.lt_of_lt_of_le hO.out.2.1 hV.size, hO.out.2.2.1, hO.out.2.2.2.ext (P := fun b => b = gb) hV (fun _ p hp => by cases hp; rfl) (fun b _ hb e => by have h1 := hO.out.1; have h2 := ZWc.out; omega)⟩); have CS := hide (show ∀ V, Ext (fun b => b = W1.heap.size ∨ b = W1.heap.size + 1) w2 V → V.cell? ⟨b1, o1, none⟩ = some (.int .i64 y) from fun V hV => (hV.cell hb1l (fun e => by have h2 := ZWc.out; have h3 : Wc.heap.size ≤ b1 := hb1g; omega)).trans HCE.out))
      | (go_at_call 11; rw [← hWd.out]; (with_reducible refine (lreceive_yes ses want a n c l kd y nb bs Wd (Y1.out.later DWd.out) hn2 hnc hs0 hs1 hw0 hw1 HM.out).mono ?_); rintro e w2 ⟨a1, c1, a2, c2, gb, m, d, rfl, hI, hO, hB⟩; obtain ⟨b1, o1, z, hab, hb1l, hz, hcell⟩ := hI.out.1.at_ 0 (by omega); obtain rfl : y = z := hz; subst hab; rw [Nat.add_zero] at hcell; have hb1g := hI.out.2 _ rfl; have HCE := hide hcell; clear hcell; have D2 := hide (DWd.out.trans (hB.out.mono DWd.out.size)); have hsz : W1.heap.size ≤ w2.heap.size := D2.out.size; have RB := hide (BWdRB.out.later hB.out BWdRB.out.lt); obtain ⟨rb0, rb1, rb2⟩ := RB.out.three; have rbz := RB.out.frozen; have rbl := RB.out.lt; have rbn := Nat.ne_of_lt RB.out.lt; have rbm := Nat.ne_of_gt RB.out.lt; have RA := hide (BWdRA.out.later hB.out BWdRA.out.lt); obtain ⟨ra0, ra1⟩ := RA.out.pair; have raz := RA.out.frozen; have ral := RA.out.lt; have ran := Nat.ne_of_lt RA.out.lt; have ram := Nat.ne_of_gt RA.out.lt; have XS := hide (show ∀ V, Ext (fun b => b = W1.heap.size ∨ b = W1.heap.size + 1) w2 V → AnsO W1.heap.size V gb m d (Mx.packB 0 [ses, want + 1] 0 []) from fun V hV => ⟨(by have h1 := hO.out.1; have h2 := ZWd.out; omega), Nat.lt_of_lt_of_le hO.out.2.1 hV.size, hO.out.2.2.1, hO.out.2.2.2.ext (P := fun b => b = gb) hV (fun _ p hp => by cases hp; rfl) (fun b _ hb e => by have h1 := hO.out.1; have h2 := ZWd.out; omega)⟩); have CS := hide (show ∀ V, Ext (fun b => b = W1.heap.size ∨ b = W1.heap.size + 1) w2 V → V.cell? ⟨b1, o1, none⟩ = some (.int .i64 y) from fun V hV => (hV.cell hb1l (fun e => by have h2 := ZWd.out; have h3 : Wd.heap.size ≤ b1 := hb1g; omega)).trans HCE.out)))
  all_goals
    clear x0 x1 x2 x3 x4 x5 x6 x7 u0 u1
    go_wp2_with fail
    refine Met.intro (lnm1y (w0 := w0) (ses := ses) (base := base) (q := q) (want := want) (cm := cm) (qa := qa) (qn := qn) (qc := qc) (nv := .slice (some ⟨gN, 0, none⟩) N cap) (cv := cv) (nx := (want + 1)) (kd := kd) (y := y) (b1 := b1) (o1 := o1) (c1 := c1) (a2 := a2) (nb := nb) (c2 := c2) (n := m) (c := d) (gb := gb) (lb := (Mx.packB 0 [ses, want + 1] 0 [])) (hide ?zzl) (hide ?zzx) ?zzg (hide ?zzm) ?zzh (hide ?zzi) ?zzj (hide ?zzb) ?zzc (hide ?zzp) ?zzs hnl hcl (hide ?zzP))
    case zzl => exact H1.out.later (by (repeat' (first | with_reducible exact D2.out | with_reducible exact Below.refl _ _ | (with_reducible refine Below.drew ?_) | (with_reducible refine Below.alloc ?_ (by first | omega | (simp <;> omega)) _) | (with_reducible refine Below.setCell ?_ (by first | omega | (simp <;> omega)) _))))
    case zzx => first
      | with_reducible exact (Bx.new w2 _ _).alloc _
      | with_reducible exact bx_second w2 _ _ _
      | with_reducible exact (RA.out.two_set _ _).alloc _
      | with_reducible exact (((RA.out.two_set _ _).other _ _ (by simp)).other _ _ (by simp)).other _ _ (by simp)
      | with_reducible exact bx_after3 w2 _ _ _ _ _ _
    case zzg => first | omega | (simp; omega)
    case zzb => exact (XS.out _ (by (repeat' (first | with_reducible exact Ext.refl _ _ | (with_reducible refine Ext.drew ?_) | (with_reducible refine Ext.alloc ?_ _) | (with_reducible refine Ext.setCell ?_ (by dsimp only; first | omega | (right; omega) | (left; omega)) _))))).2.2.2
    case zzc => exact hO.out.2.2.1
    case zzp => exact pf_new HH.out (Nat.le_trans D1.out.size (XS.out w2 (by (repeat' (first | with_reducible exact Ext.refl _ _ | (with_reducible refine Ext.drew ?_) | (with_reducible refine Ext.alloc ?_ _) | (with_reducible refine Ext.setCell ?_ (by dsimp only; first | omega | (right; omega) | (left; omega)) _))))).1)
    case zzs => exact (XS.out _ (by (repeat' (first | with_reducible exact Ext.refl _ _ | (with_reducible refine Ext.drew ?_) | (with_reducible refine Ext.alloc ?_ _) | (with_reducible refine Ext.setCell ?_ (by dsimp only; first | omega | (right; omega) | (left; omega)) _))))).2.1
    case zzm => first
      | with_reducible exact bx_second w2 _ _ _
      | with_reducible exact (Bx.new w2 _ _).alloc _
      | with_reducible exact bx_after2 w2 _ _ _ _
      | with_reducible exact ((RB.out.other _ _ (by simp)).other _ _ (by simp)).three_set _ _ _
      | with_reducible exact (RB.out.three_set _ _ _).alloc _
    case zzh => first | omega | (simp; omega)
    case zzi => exact CS.out _ (by (repeat' (first | with_reducible exact Ext.refl _ _ | (with_reducible refine Ext.drew ?_) | (with_reducible refine Ext.alloc ?_ _) | (with_reducible refine Ext.setCell ?_ (by dsimp only; first | omega | (right; omega) | (left; omega)) _))))
    case zzj => have h3 : W1.heap.size ≤ b1 := (by first | exact hb1g | (have h4 := hb1g; have h5 := ZWa.out; have h6 := ZWb.out; have h7 := ZWc.out; have h8 := ZWd.out; omega)); omega
    case zzP => exact fun w' nv' cv' h => ⟨rfl, nv', cv', h⟩

end Go.Proofs.Ytfgonmgmoeoedaa

/-
  A line of messages: mathematics.
-/
namespace Go.Proofs.Ytfgonmgmoeoedaa
open Go.RowKit

namespace Mx
def msgF (i : Nat) : Fr := ⟨2 + (i : Int) % 14, [(i : Int)], 0, []⟩
def wireN (ses : Int) (i : Nat) : List Int := packB 1 [ses, (i : Int), 2 + (i : Int) % 14, (i : Int)] 0 []
def ackN (ses : Int) (k : Nat) : List Int := packB 0 [ses, (k : Int)] 0 []
def qF (m b : Nat) : List Fr := ((List.range m).drop b).map msgF

theorem qF_len (m b : Nat) : (qF m b).length = m - b := by unfold qF; simp
theorem qF_at {m b j : Nat} (h : j < m - b) : (qF m b)[j]? = some (msgF (b + j)) := by
  unfold qF
  rw [List.getElem?_map, List.getElem?_drop, List.getElem?_range (by omega)]
  rfl
theorem qF_drop (m b k : Nat) : (qF m b).drop k = qF m (b + k) := by
  unfold qF
  rw [← List.map_drop, List.drop_drop]
theorem qF_snoc (m : Nat) : qF m 0 ++ [msgF m] = qF (m + 1) 0 := by
  unfold qF
  rw [List.drop_zero, List.drop_zero, List.range_succ, List.map_append]
  rfl
theorem badNum_no {x : Int} (h0 : 0 ≤ x) (h1 : x ≤ 2147483647) : badNum x = false := by unfold badNum; simp; omega
theorem mmay_msgF {i : Nat} (h : i < 1000) : mmay (msgF i) = 0 := by
  refine mmay_0 (f := msgF i) ?_ (by simp [msgF])
  show may (2 + (i : Int) % 14) [(i : Int)] 0 = 0
  unfold may
  rw [if_neg (by omega), if_neg (by simp), if_neg]
  simp [badNum_no (x := (i : Int)) (by omega) (by omega)]
theorem qF_may {m b : Nat} (hm : m < 1000) : ∀ f ∈ qF m b, mmay f = 0 := by
  intro f hf
  unfold qF at hf
  rw [List.mem_map] at hf
  obtain ⟨i, hi, rfl⟩ := hf
  have h1 := List.mem_of_mem_drop hi
  rw [List.mem_range] at h1
  exact mmay_msgF (by omega)
theorem sd_may {ses : Int} {m b : Nat} (hs0 : 0 ≤ ses) (hs1 : ses < 1000) (hm : m ≤ 20) (hb : b ≤ m) : sdmay ⟨ses, (b : Int), qF m b⟩ = 0 := by
  rw [sdmay_q (by show ¬ (badN ses ∨ badN (b : Int)); unfold badN; omega) (by show ¬ 64 < (qF m b).length; rw [qF_len]; omega)]
  exact qmay_all (qF_may (by omega))
theorem send_ok {ses : Int} {m b : Nat} (hs0 : 0 ≤ ses) (hs1 : ses < 1000) (hm : m ≤ 20) (hb : b ≤ m) : sendE ⟨ses, (b : Int), qF m b⟩ = 0 :=
  sendE_0 (sd_may hs0 hs1 hm hb) (fun k hk => by
    have h1 : k < min (qF m b).length 4 := hk
    show (b : Int) + k ≤ 2147483647
    omega)
def winF (ses : Int) (m b : Nat) : List (List Int) := (List.range (min (m - b) 4)).map (fun j => wireN ses (b + j))
theorem send_win {ses : Int} {m b : Nat} (hs0 : 0 ≤ ses) (hs1 : ses < 1000) (hm : m ≤ 20) (hb : b ≤ m) : sendL ⟨ses, (b : Int), qF m b⟩ = winF ses m b := by
  unfold sendL
  rw [if_pos (send_ok hs0 hs1 hm hb)]
  unfold wires winF winN
  rw [qF_len]
  refine List.map_congr_left (fun j hj => ?_)
  rw [List.mem_range] at hj
  rw [wireAt_some (s := ⟨ses, (b : Int), qF m b⟩) (qF_at (by omega))]
  show packB 1 (ses :: ((b : Int) + (j : Int)) :: (2 + ((b + j : Nat) : Int) % 14) :: [((b + j : Nat) : Int)]) 0 [] = wireN ses (b + j)
  unfold wireN
  rw [Int.natCast_add]
theorem win_len (ses : Int) (m b : Nat) : (winF ses m b).length = min (m - b) 4 := by unfold winF; simp
theorem may_wireN {ses : Int} {i : Nat} (hs0 : 0 ≤ ses) (hs1 : ses < 1000) (hi : i < 1000) : may 1 [ses, (i : Int), 2 + (i : Int) % 14, (i : Int)] 0 = 0 := by
  unfold may
  rw [if_neg (by omega), if_neg (by simp), if_neg]
  simp [badNum_no (x := ses) hs0 (by omega), badNum_no (x := (i : Int)) (by omega) (by omega), badNum_no (x := 2 + (i : Int) % 14) (by omega) (by omega)]
theorem msg_wire {ses : Int} {i : Nat} (hs0 : 0 ≤ ses) (hs1 : ses < 1000) (hi : i < 1000) : Msg (wireN ses i) ses (i : Int) (2 + (i : Int) % 14) [(i : Int)] 0 [] :=
  ⟨⟨may_wireN hs0 hs1 hi, rfl, fun _ h => (by cases h), rfl⟩, by omega⟩
theorem ack_ackN {ses : Int} {k : Nat} (hs0 : 0 ≤ ses) (hs1 : ses < 1000) (hk : k < 1000) : Ack (ackN ses k) ses (k : Int) :=
  ⟨may_two hs0 (by omega) (by omega) (by omega), rfl, fun _ h => (by cases h), rfl⟩
end Mx

theorem blks0 : Blks default none 0 [] := blks_nil _

theorem wireN_byte {ses : Int} {i : Nat} (hs0 : 0 ≤ ses) (hs1 : ses < 1000) (hi : i < 1000) : ∀ x ∈ Mx.wireN ses i, 0 ≤ x ∧ x ≤ 255 := packB_byte blks0 (Mx.may_wireN hs0 hs1 hi)

theorem wireN_len {ses : Int} {i : Nat} (hs0 : 0 ≤ ses) (hs1 : ses < 1000) (hi : i < 1000) : (Mx.wireN ses i).length ≤ 2000 := packB_len2 blks0 (Mx.may_wireN hs0 hs1 hi)

theorem ackN_len {ses : Int} {k : Nat} (hs0 : 0 ≤ ses) (hs1 : ses < 1000) (hk : k < 1000) : (Mx.ackN ses k).length ≤ 2000 := packB_len2 blks0 (Mx.may_two hs0 (by omega) (by omega) (by omega))

namespace Mx
/-- one that may be under way -/
def En (ses : Int) (m b wt : Nat) (e : Bool × List Int) : Prop := (∃ i, i < m ∧ i < b + 4 ∧ e = (true, wireN ses i)) ∨ (∃ k, k ≤ wt ∧ e = (false, ackN ses k))
/-- how a sender, a receiver and what is under way stand to each other -/
structure LI (ses : Int) (m b wt : Nat) (ns : List (Bool × List Int)) : Prop where
  bw : b ≤ wt
  wm : wt ≤ m
  wb : wt ≤ b + 4
  en : ∀ e ∈ ns, En ses m b wt e
def cmF (wt : Nat) : List Int := (List.range wt).map (fun (i : Nat) => (i : Int))
theorem cmF_len (wt : Nat) : (cmF wt).length = wt := by unfold cmF; simp
theorem cmF_succ (wt : Nat) : cmF wt ++ [(wt : Int)] = cmF (wt + 1) := by unfold cmF; rw [List.range_succ, List.map_append]; rfl
theorem cmF_at {wt i : Nat} (h : i < wt) : (cmF wt).getD i 0 = (i : Int) := by
  unfold cmF
  rw [List.getD_eq_getElem?_getD, List.getElem?_map, List.getElem?_range h]
  rfl
/-- one of them comes -/
inductive Come (ses : Int) (m b wt : Nat) (ns : List (Bool × List Int)) (e : Bool × List Int) : Nat → Nat → List (Bool × List Int) → Prop
  | next (h : e = (true, wireN ses wt)) (hm : wt < m) : Come ses m b wt ns e b (wt + 1) (ns ++ [(false, ackN ses (wt + 1))])
  | again (i : Nat) (h : e = (true, wireN ses i)) (hi : i ≠ wt) (hm : i < m) : Come ses m b wt ns e b wt (ns ++ [(false, ackN ses wt)])
  | back (k : Nat) (h : e = (false, ackN ses k)) (hk : k ≤ wt) : Come ses m b wt ns e (max b k) wt ns
theorem En.mono {ses : Int} {m b b' wt wt' : Nat} {e : Bool × List Int} (h : En ses m b wt e) (hb : b ≤ b') (hw : wt ≤ wt') : En ses m b' wt' e := by
  rcases h with ⟨i, h1, h2, h3⟩ | ⟨k, h1, h2⟩
  · exact .inl ⟨i, h1, by omega, h3⟩
  · exact .inr ⟨k, by omega, h2⟩
theorem LI.come {ses : Int} {m b wt b' wt' : Nat} {ns ns' : List (Bool × List Int)} {e : Bool × List Int} (h : LI ses m b wt ns) (he : e ∈ ns) (hs0 : 0 ≤ ses) (hs1 : ses < 1000) (hm : m ≤ 20) (hc : Come ses m b wt ns e b' wt' ns') : LI ses m b' wt' ns' := by
  cases hc with
  | next h1 h2 =>
    have hb4 : wt < b + 4 := by
      rcases h.en e he with ⟨i, h3, h4, h5⟩ | ⟨k, _, h5⟩
      · rw [h1] at h5
        simp only [Prod.mk.injEq, true_and] at h5
        have h6 := msg_wire (i := wt) hs0 hs1 (by omega)
        rw [h5] at h6
        obtain ⟨h7, _⟩ := msg_one h6 (msg_wire (i := i) hs0 hs1 (by omega))
        omega
      · rw [h1] at h5
        simp at h5
    refine ⟨by have := h.bw; omega, h2, by omega, fun x hx => ?_⟩
    rcases List.mem_append.1 hx with hx | hx
    · exact (h.en x hx).mono (Nat.le_refl _) (by omega)
    · simp at hx
      exact .inr ⟨wt + 1, Nat.le_refl _, hx⟩
  | again i h1 h2 h3 =>
    refine ⟨h.bw, h.wm, h.wb, fun x hx => ?_⟩
    rcases List.mem_append.1 hx with hx | hx
    · exact h.en x hx
    · simp at hx
      exact .inr ⟨wt, Nat.le_refl _, hx⟩
  | back k h1 h2 =>
    have h3 := h.bw
    have h4 := h.wb
    exact ⟨by omega, h.wm, by omega, fun x hx => (h.en x hx).mono (by omega) (Nat.le_refl _)⟩
theorem LI.sub {ses : Int} {m b wt : Nat} {ns ns' : List (Bool × List Int)} (h : LI ses m b wt ns) (hs : ∀ e ∈ ns', e ∈ ns) : LI ses m b wt ns' := ⟨h.bw, h.wm, h.wb, fun e he => h.en e (hs e he)⟩
theorem LI.sent {ses : Int} {m b wt : Nat} {ns : List (Bool × List Int)} (h : LI ses m b wt ns) : LI ses m b wt (ns ++ (winF ses m b).map (fun l => (true, l))) := by
  refine ⟨h.bw, h.wm, h.wb, fun e he => ?_⟩
  rcases List.mem_append.1 he with he | he
  · exact h.en e he
  · rw [List.mem_map] at he
    obtain ⟨l, hl, rfl⟩ := he
    unfold winF at hl
    rw [List.mem_map] at hl
    obtain ⟨j, hj, rfl⟩ := hl
    rw [List.mem_range] at hj
    exact .inl ⟨b + j, by omega, by omega, rfl⟩
/-- the first of the window is still to be heard of, or it was -/
def Jn (ses : Int) (b0 b : Nat) (ns : List (Bool × List Int)) : Prop := b0 < b ∨ (∃ k, b0 < k ∧ k < 1000 ∧ (false, ackN ses k) ∈ ns) ∨ (true, wireN ses b0) ∈ ns
theorem Jn.sent {ses : Int} {m b : Nat} {ns : List (Bool × List Int)} (hb : b < m) : Jn ses b b (ns ++ (winF ses m b).map (fun l => (true, l))) := by
  refine .inr (.inr (List.mem_append_right _ ?_))
  rw [List.mem_map]
  refine ⟨wireN ses b, ?_, rfl⟩
  unfold winF
  rw [List.mem_map]
  exact ⟨0, by rw [List.mem_range]; omega, by rw [Nat.add_zero]⟩
theorem ackN_inj {ses : Int} {k k' : Nat} (hs0 : 0 ≤ ses) (hs1 : ses < 1000) (hk : k < 1000) (hk' : k' < 1000) (h : ackN ses k = ackN ses k') : k = k' := by
  have h1 := ack_ackN hs0 hs1 hk
  rw [h] at h1
  have h2 := (IsFrame.one h1 (ack_ackN hs0 hs1 hk')).2.1
  simp at h2
  omega
theorem Jn.come {ses : Int} {m b0 b wt b' wt' : Nat} {e : Bool × List Int} {ns ns' : List (Bool × List Int)} (hJ : Jn ses b0 b (e :: ns)) (h : LI ses m b wt (e :: ns)) (hs0 : 0 ≤ ses) (hs1 : ses < 1000) (hm : m ≤ 20) (hb0 : b0 ≤ b) (hc : Come ses m b wt (e :: ns) e b' wt' ns') : Jn ses b0 b' (ns'.eraseIdx 0) := by
  have hbw := h.bw
  have hwm := h.wm
  cases hc with
  | next h1 h2 =>
    rcases hJ with hJ | ⟨k, hk, hk9, hm'⟩ | hm'
    · exact .inl hJ
    · refine .inr (.inl ⟨k, hk, hk9, ?_⟩)
      rcases List.mem_cons.1 hm' with h3 | h3
      · rw [h1] at h3
        simp at h3
      · simp [h3]
    · refine .inr (.inl ⟨wt + 1, by omega, by omega, by simp⟩)
  | again i h1 h2 h3 =>
    rcases hJ with hJ | ⟨k, hk, hk9, hm'⟩ | hm'
    · exact .inl hJ
    · refine .inr (.inl ⟨k, hk, hk9, ?_⟩)
      rcases List.mem_cons.1 hm' with h4 | h4
      · rw [h1] at h4
        simp at h4
      · simp [h4]
    · rcases List.mem_cons.1 hm' with h4 | h4
      · rw [h1] at h4
        simp only [Prod.mk.injEq, true_and] at h4
        have h6 := msg_wire (i := b0) hs0 hs1 (by omega)
        rw [h4] at h6
        obtain ⟨h7, _⟩ := msg_one h6 (msg_wire (i := i) hs0 hs1 (by omega))
        refine .inr (.inl ⟨wt, by omega, by omega, by simp⟩)
      · exact .inr (.inr (by simp [h4]))
  | back k h1 h2 =>
    rcases hJ with hJ | ⟨k', hk, hk9, hm'⟩ | hm'
    · exact .inl (by omega)
    · rcases List.mem_cons.1 hm' with h4 | h4
      · rw [h1] at h4
        simp only [Prod.mk.injEq, true_and] at h4
        have hk' : k' ≤ wt := by
          rcases h.en _ hm' with ⟨_, _, _, h5⟩ | ⟨k2, h5, h6⟩
          · simp at h5
          · simp only [Prod.mk.injEq, true_and] at h6
            rw [ackN_inj hs0 hs1 hk9 (by omega) h6]
            exact h5
        have h5 := ackN_inj hs0 hs1 (by omega) (by omega) h4
        exact .inl (by omega)
      · exact .inr (.inl ⟨k', hk, hk9, by simp [h4]⟩)
    · rcases List.mem_cons.1 hm' with h4 | h4
      · rw [h1] at h4
        simp at h4
      · exact .inr (.inr (by simp [h4]))
end Mx
end Go.Proofs.Ytfgonmgmoeoedaa

/-
  A line's state, and what becomes of it.
-/
namespace Go.Proofs.Ytfgonmgmoeoedaa
open Go.RowKit

def LST (w0 w : World) (g : Nat) (ses : Int) (m b wt : Nat) (ns : List (Bool × List Int)) : Prop :=
  ∃ qa qn qc nv cv, LnW (fun _ => False) w0 w g ses (b : Int) (Mx.qF m b) (wt : Int) ns (Mx.cmF wt) true qa qn qc nv cv ∧ Mx.LI ses m b wt ns

theorem LST.li {w0 w : World} {g : Nat} {ses : Int} {m b wt : Nat} {ns : List (Bool × List Int)} (h : LST w0 w g ses m b wt ns) : Mx.LI ses m b wt ns := by
  obtain ⟨_, _, _, _, _, _, h⟩ := h
  exact h

theorem LST.bl {w0 w : World} {g : Nat} {ses : Int} {m b wt : Nat} {ns : List (Bool × List Int)} (h : LST w0 w g ses m b wt ns) : Below w0.heap.size w0 w := by
  obtain ⟨_, _, _, _, _, h, _⟩ := h
  exact h.bl

theorem lst_send (w0 w : World) (g : Nat) (ses : Int) (m b wt : Nat) (ns : List (Bool × List Int)) (h : LST w0 w g ses m b wt ns) (hs0 : 0 ≤ ses) (hs1 : ses < 1000) (hm : m ≤ 20) (hn : ns.length ≤ 900) :
    Calls Try.prog 20 #[.pointer (some ⟨g, 0, none⟩)] w fun e w' => e = .returned (.tuple #[]) ∧ Hid (LST w0 w' g ses m b wt (ns ++ (Mx.winF ses m b).map (fun l => (true, l)))) := by
  obtain ⟨qa, qn, qc, nv, cv, h, hi⟩ := h
  have hbm : b ≤ m := Nat.le_trans hi.bw hi.wm
  have hw := Mx.send_win hs0 hs1 hm hbm
  refine (lnsend_any w0 w g ses b (Mx.qF m b) wt ns (Mx.cmF wt) qa qn qc nv cv h (Mx.send_ok hs0 hs1 hm hbm) (fun l hl => ?_) (by rw [hw, Mx.win_len]; omega) (by omega)).mono fun e w' he => ?_
  · rw [hw] at hl
    unfold Mx.winF at hl
    rw [List.mem_map] at hl
    obtain ⟨j, hj, rfl⟩ := hl
    rw [List.mem_range] at hj
    exact wireN_byte hs0 hs1 (by omega)
  · obtain ⟨h1, nv', h2⟩ := he
    rw [hw] at h2
    exact ⟨h1, qa, qn, qc, nv', cv, h2.out, hi.sent⟩

theorem came_max {ses : Int} {m b wt k qn g : Nat} (hs0 : 0 ≤ ses) (hs1 : ses < 1000) (hm : m ≤ 20) (hb : b ≤ wt) (hw : wt ≤ m) (hw4 : wt ≤ b + 4) (hk : k ≤ wt) (hqn : qn = m - b) (hg : Mx.Gone ses (b : Int) qn (Mx.ackN ses k) g) : b + g = max b k := by
  have h1 : Mx.Gone ses (b : Int) qn (Mx.ackN ses k) (Mx.came (b : Int) (k : Int) qn) := .inl ⟨_, Mx.ack_ackN hs0 hs1 (by omega), rfl⟩
  rw [Mx.gone_one hg h1]
  by_cases hbk : b < k
  · rw [Mx.came_at (k := k - b) (by omega) (by omega) (by omega)]
    omega
  · rw [Mx.came_no (fun j h2 h3 => by omega)]
    omega

theorem lst_come (w0 w : World) (g : Nat) (ses : Int) (m b wt : Nat) (ns : List (Bool × List Int)) (h : LST w0 w g ses m b wt ns) (hs0 : 0 ≤ ses) (hs1 : ses < 1000) (hm : m ≤ 20) (hn : ns.length ≤ 900) (i : Nat) (e0 : Bool × List Int) (he : ns[i]? = some e0) :
    Calls Try.prog 21 #[.pointer (some ⟨g, 0, none⟩), .int .i64 (i : Int)] w fun e w' => e = .returned (.tuple #[]) ∧ ∃ b' wt' ns', Hid (Mx.Come ses m b wt ns e0 b' wt' ns') ∧ Hid (LST w0 w' g ses m b' wt' ns') := by
  obtain ⟨qa, qn, qc, nv, cv, h, hi⟩ := h
  have hbm : b ≤ m := Nat.le_trans hi.bw hi.wm
  have hmem := List.mem_of_getElem? he
  have hbw := hi.bw
  have hwm := hi.wm
  rcases hi.en e0 hmem with ⟨j, hj1, hj2, rfl⟩ | ⟨k, hk, rfl⟩
  · by_cases hjw : j = wt
    · subst hjw
      refine (lnmsg_yes w0 w g ses b (Mx.qF m b) j ns (Mx.cmF j) qa qn qc nv cv h i _ he (wireN_len hs0 hs1 (by omega)) (by omega) (by rw [Mx.cmF_len]; omega) hs0 (by omega) (by omega) (by omega) _ _ 0 [] (Mx.msg_wire hs0 hs1 (by omega))).mono fun e w' hh => ?_
      obtain ⟨h1, nv', cv', h2⟩ := hh
      have hc : Mx.Come ses m b j ns (true, Mx.wireN ses j) b (j + 1) (ns ++ [(false, Mx.ackN ses (j + 1))]) := .next rfl hj1
      refine ⟨h1, b, j + 1, _, hc, qa, qn, qc, nv', cv', ?_, hi.come hmem hs0 hs1 hm hc⟩
      rw [← Mx.cmF_succ]
      exact h2.out
    · refine (lnmsg_no w0 w g ses b (Mx.qF m b) wt ns (Mx.cmF wt) qa qn qc nv cv h i _ he (wireN_len hs0 hs1 (by omega)) (by omega) hs0 (by omega) (by omega) (by omega) _ _ _ 0 [] (Mx.msg_wire hs0 hs1 (by omega)) (by omega)).mono fun e w' hh => ?_
      obtain ⟨h1, nv', h2⟩ := hh
      have hc : Mx.Come ses m b wt ns (true, Mx.wireN ses j) b wt (ns ++ [(false, Mx.ackN ses wt)]) := .again j rfl hjw hj1
      exact ⟨h1, b, wt, _, hc, qa, qn, qc, nv', cv, h2.out, hi.come hmem hs0 hs1 hm hc⟩
  · refine (lnack_any w0 w g ses b (Mx.qF m b) wt ns (Mx.cmF wt) qa qn qc nv cv h (Mx.sd_may hs0 hs1 hm hbm) i _ he (ackN_len hs0 hs1 (by omega))).mono fun e w' hh => ?_
    obtain ⟨h1, k', qa', qn', qc', h2, h3⟩ := hh
    have hqn : qn = m - b := by have := h.fl.1; rw [Mx.qF_len] at this; omega
    have hmx := came_max hs0 hs1 hm hbw hwm hi.wb hk hqn h2
    have hc : Mx.Come ses m b wt ns (false, Mx.ackN ses k) (max b k) wt ns := .back k rfl hk
    refine ⟨h1, max b k, wt, ns, hc, qa', qn', qc', nv, cv, ?_, hi.come hmem hs0 hs1 hm hc⟩
    rw [Mx.qF_drop, hmx] at h3
    rw [← hmx]
    rw [← hmx] at h3
    exact h3

theorem lst_gone (w0 w : World) (g : Nat) (ses : Int) (m b wt : Nat) (ns : List (Bool × List Int)) (h : LST w0 w g ses m b wt ns) (hn : ns.length ≤ 1000) (i : Nat) (hi : i < ns.length) :
    Calls Try.prog 22 #[.pointer (some ⟨g, 0, none⟩), .int .i64 (i : Int)] w fun e w' => e = .returned (.tuple #[]) ∧ Hid (LST w0 w' g ses m b wt (ns.eraseIdx i)) := by
  obtain ⟨qa, qn, qc, nv, cv, h, hl⟩ := h
  obtain ⟨gN, cap, a, n, c, hnv, hcap, hgN, _⟩ := h.net.at_ (List.getElem?_eq_getElem hi)
  subst hnv
  refine (lgone_any g ses b qa qn qc wt cv true (Pb g (.slice (some ⟨gN, 0, none⟩) ns.length cap) cv w) w0.heap.size gN ns.length cap i ns w h.bx h.pb hi (by omega) (fun b hb => hb.2) (fun hb => hb.1.1 rfl) h.bl.size).mono fun e w' hh => ?_
  obtain ⟨h1, g', n', cap', h2, h3, h4, h5, h6⟩ := hh
  have hpf : ∀ b, Pb g (.slice (some ⟨gN, 0, none⟩) ns.length cap) cv w b → Pf g (.slice (some ⟨g', 0, none⟩) n' cap') cv b := fun b hb => ⟨hb.1.1, fun e => by
    have h7 : g' = b := by simpa [Value.ownBlock] using e
    have h8 := hb.2
    have h9 := h4.out
    omega, hb.1.2.2⟩
  refine ⟨h1, qa, qn, qc, _, cv, ⟨h2.out, h.room, ?_, h3.out.imp (fun b _ hb => hpf b hb), ?_, h.gw, ?_, fun _ _ e => e, fun _ _ e => e, fun e => e, fun _ e => e.elim⟩, hl.sub (fun e he => List.mem_of_mem_eraseIdx he)⟩
  · exact (h.fl.bound.ext h5.out (fun b _ hb e => hb.1.1 e)).imp (fun b _ hb => hpf b hb)
  · exact h5.out.own h.row (fun k hk e => h.cne (by rw [hk, e]))
  · exact h.bl.trans (h6.out _ h.gw)

end Go.Proofs.Ytfgonmgmoeoedaa
