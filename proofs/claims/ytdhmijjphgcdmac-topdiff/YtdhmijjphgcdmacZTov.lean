/-
  The range over pieces of a level, for a body that gathers their digests.
-/
import Derived.Maps.AppendAt
import Derived.Test.YtdhmijjphgcdmacZDclone
import Derived.Test.YtdhmijjphgcdmacZDbox

namespace Go.Proofs.Ytdhmijjphgcdmac
open Go.RowKit Go.Shelf
attribute [local go_sem] Oper.semAt_some

/-- one number more, as one step of a region that draws, in a fence -/
theorem stepIn_append_u64 {F : Fence} {fuel : Nat} {ops : Array Oper} {o : Oper} {a : Act} {w : World} {K : Act → World → Prop} {Q : Exit → Act → World → Prop} {E : Prop} (hgd : o.guard = none) (s x : Operand)
    (ho : o.op = .call { callee := .builtin .append, args := #[s, x], argTypes := #[120, 120] }) (base : Nat) (l : List Nat) (hown : OwnU w base (a.eval s) l)
    (z : Nat) (g : Nat) (hx : a.eval x = .slice (some ⟨g, 0, none⟩) 1 1) (hc : w.cell? ⟨g, 0, none⟩ = some (.int .u64 (z : Int))) (h63 : l.length ≤ 1000000) (hbase : base ≤ w.heap.size)
    (h : ∀ v' w', OwnU w' base v' (l ++ [z]) → w.grownBy w' (a.eval s).ownBlock → K (a.put o.dst v') w') :
    if Region.wanted o (yielded ops a.tmps) = true then Oper.wpIn F fuel Try.prog o a w K Q else E := by
  have hw : Region.wanted o (yielded ops a.tmps) = true := by simp [Region.wanted, hgd]
  rw [if_pos hw]
  obtain ⟨i0, hi, hz0, hz1, hz2⟩ := info_parts Try.info121
  obtain ⟨v', w', hr, h2, h3, _⟩ := run_append_own_at (P := Try.prog) w base 120 o.type 121 i0 _ 1 8 Try.underlying120 hi hz0 hz1 hz2 rfl (by decide) (a.eval s) l.length (l.map fun x : Nat => Value.int .u64 (x : Int)) hown ⟨g, 0, none⟩ 1 1 [.int .u64 (z : Int)] rfl (fun j u hj => by
    match j, hj with
    | 0, hj =>
      simp at hj
      subst hj
      rw [Addr.add_lit]
      exact hc
    | j + 1, hj => simp at hj) (by simp [Value.oneCell']) (by unfold maxLen; omega) (by omega) hbase
  unfold Oper.wpIn
  refine ⟨by simp [Oper.about, ho, resolve, Target.leads, Sem.run_pure], ?_⟩
  rw [Oper.semAt_plain F _ _ (by rw [ho]; intro c hc'; cases hc')]
  simp [execOp, ho, resolve, invoke, builtin, hx, hr, Result.andThen]
  refine h v' w' ?_ h3
  unfold OwnU
  rw [List.length_append, List.map_append]
  exact h2

/-- between two rounds -/
def OInv (w : World) (C : Nat) (l : List Nat) {m : Nat} (pre : List (Ck m)) (W : World) : Prop :=
  ∃ v, Bx W w.heap.size #[v] 120 ∧ OwnU W C v (pre.map fun x => Mx.overD ((l.drop x.s).take x.q)) ∧ Below w.heap.size w W ∧ C ≤ W.heap.size
def OAx (b off : Nat) {m : Nat} (T : Array Value) (x : Ck m) (a' : Act) (_ : World) : Prop :=
  a' = { tmps := (T.setIfInBounds 7 (.slice (some ⟨b, off + x.s, none⟩) x.q x.q)).setIfInBounds 4 (.slice (some ⟨b, off + x.s, none⟩) x.q x.q), defers := [] }

theorem oinv_own (w : World) (C : Nat) (l : List Nat) (m : Nat) (hC : w.heap.size + 1 ≤ C) : OwnFrom C (OInv w C l (m := m)) := by
  rintro pre W W' row ⟨v, b0, ho, bb, bs⟩ hg hr
  have hr' : ∀ r, row = some r → ∃ o : Obj, W.heap[r]? = some o ∧ o.isCells = false := fun r e => (hr r e).2
  exact ⟨v, cells_kept b0 hg hr', row_kept ho hg hr', bb.grown hg (by omega) (fun k e => by have := (hr k e).1; omega), by have := hg.size; omega⟩

/-- what a round leaves -/
theorem oinv_round {w W W2 W4 : World} {C : Nat} {l : List Nat} {m Bs Bn : Nat} {pre : List (Ck m)} {x : Ck m} {v v' : Value} {Z : Nat} (hC : w.heap.size + 1 ≤ C) (hBs : w.heap.size < Bs ∧ Bs < C) (hBn : w.heap.size < Bn ∧ Bn < C)
    (b0 : Bx W w.heap.size #[v] 120) (ho : OwnU W C v (pre.map fun x => Mx.overD ((l.drop x.s).take x.q))) (bb : Below w.heap.size w W) (bs : C ≤ W.heap.size)
    (hb2 : Below W.heap.size W W2) (hZ : Z = Mx.overD ((l.drop x.s).take x.q)) (h4 : OwnU W4 C v' ((pre.map fun x => Mx.overD ((l.drop x.s).take x.q)) ++ [Z])) (hg4 : W2.grownBy W4 v.ownBlock) :
    KeepsFrom C W (W4.setCell ⟨w.heap.size, 0, none⟩ v') ∧ KpC w.heap.size Bs Bn W (W4.setCell ⟨w.heap.size, 0, none⟩ v') ∧ OInv w C l (pre ++ [x]) (W4.setCell ⟨w.heap.size, 0, none⟩ v') := by
  have hlt : ∀ k, v.ownBlock = some k → C ≤ k ∧ k < W.heap.size := fun k hk => World.ownsRow.lt ho k hk
  have hk2 : KeepsOthers W W2 := KeepsOthers.of_grownBy (row := none) ⟨hb2.os, hb2.tape, hb2.output, hb2.size, fun k hk _ => hb2.block k hk⟩ (fun _ _ h => by cases h)
  have ho2 : OwnU W2 C v (pre.map fun x => Mx.overD ((l.drop x.s).take x.q)) := rowKept ho hb2
  have hk4 : KeepsOthers W2 W4 := KeepsOthers.of_grownBy hg4 (by
    intro j o' e hj
    rcases ho2.2 with ⟨hv, _⟩ | ⟨g', cap, cur, hv, _, hgb, _⟩
    · rw [hv] at e; cases e
    · rw [hv] at e
      cases e
      rw [hgb] at hj
      cases hj
      rfl)
  have hs2 := hb2.size
  have hblk : ∀ k, k < C → W4.heap[k]? = W.heap[k]? := fun k hk => (hg4.block k (by omega) (fun e => by have := (hlt k e.symm).1; omega)).trans (hb2.block k (by omega))
  have hB4 : Below C W W4 := ⟨hg4.os.trans hb2.os, hg4.tape.trans hb2.tape, hg4.output.trans hb2.output, Nat.le_trans hb2.size hg4.size, fun k hk => hblk k hk⟩
  have b4 : Bx W4 w.heap.size #[v] 120 := (hblk _ (by omega)).trans b0
  refine ⟨((hk2.trans hk4).trans (KeepsOthers.setCell _ _ _)).from _, ⟨(hB4.mono (show w.heap.size ≤ C by omega)).setCell (p := ⟨w.heap.size, 0, none⟩) (Nat.le_refl _) _, ?_, ?_⟩, v', b4.set 0 v', ?_, (bb.trans (hB4.mono (show w.heap.size ≤ C by omega))).setCell (p := ⟨w.heap.size, 0, none⟩) (Nat.le_refl _) _, ?_⟩
  · rw [Below.heap_setCell _ _ _ _ (show Bs ≠ w.heap.size by omega)]
    exact hblk Bs hBs.2
  · rw [Below.heap_setCell _ _ _ _ (show Bn ≠ w.heap.size by omega)]
    exact hblk Bn hBn.2
  · rw [List.map_append, List.map_cons, List.map_nil, ← hZ]
    refine ownsRow_other h4 _ _ (fun e => ?_)
    have := (World.ownsRow.lt h4 _ e).1
    simp at this
    omega
  · simp [World.setCell]
    have := hg4.size
    have := hb2.size
    omega

end Go.Proofs.Ytdhmijjphgcdmac

/-
  A level of what comes below it, as the program does it (over).
-/
namespace Go.Proofs.Ytdhmijjphgcdmac
open Go.RowKit Go.Shelf
attribute [local go_sem] Oper.semAt_some

theorem rangeChunks {g : Operand} {assign body : Code} {Q : Exit → Act → World → Prop} {a : Act} {wl : World} (w : World) (l : List Nat) (Bs Bn b off cap m : Nat)
    (hg : a.eval g = .func (.func 114) #[] #[.pointer (some ⟨Bs, 0, none⟩), .pointer (some ⟨Bn, 0, none⟩)]) (hm : m ≤ 1000) (hcap : m ≤ cap) (hBsl : Bs < wl.heap.size) (hBnl : Bn < wl.heap.size) (hC : w.heap.size + 1 ≤ wl.heap.size)
    (hBs : wl.cell? ⟨Bs, 0, none⟩ = some (.slice (some ⟨b, off, none⟩) m cap)) (hBn : wl.cell? ⟨Bn, 0, none⟩ = some (.int .i64 4)) (h0 : OInv w wl.heap.size l ([] : List (Ck m)) wl)
    (hassign : ∀ (lp : Nat) (pre : List (Ck m)) (x : Ck m) (W : World) (K : Act → World → Prop), OInv w wl.heap.size l pre W → (∀ a' W', KeepsFrom wl.heap.size W W' → KpC w.heap.size Bs Bn W W' → OInv w wl.heap.size l pre W' → OAx b off a.tmps x a' W' → K a' W') →
      assign.wpIn (Fence.wide.inRound lp) (6 - 1 - 1) Try.prog (Exit.then K (fun _ _ _ => False)) { tmps := a.tmps.setIfInBounds 7 (.slice (some ⟨b, off + x.s, none⟩) x.q x.q), defers := [] } W)
    (hbody : ∀ (lp : Nat) (pre : List (Ck m)) (x : Ck m) (a' : Act) (W : World), OInv w wl.heap.size l pre W → OAx b off a.tmps x a' W → pre.length < (m + 3) / 4 →
      body.wpIn (Fence.wide.inRound lp) (6 - 1 - 1) Try.prog (ownPostG wl.heap.size (KpC w.heap.size Bs Bn) (OInv w wl.heap.size l) (fun _ _ _ => False) (pre ++ [x]) W) a' W)
    (hdone : ∀ (D : Nat) (W : World), wl.heap.size ≤ D → OInv w wl.heap.size l (cksTo m ((m + 3) / 4)) W → W.heap[D]? = some (.deferred (some [])) → Q .normal { a with defers := { target := .collected D, args := #[] } :: a.defers } W) :
    (Code.rangeFunc g #[7] assign body).wpIn Fence.wide 6 Try.prog Q a wl := by
  refine wpIn_rangeFunc_ownH rfl (by omega) (gf := 114) (lb := #[.pointer (some ⟨Bs, 0, none⟩), .pointer (some ⟨Bn, 0, none⟩)]) hg trivial (enters_of Try.func114 (by kernel_rfl) rfl)
    (chunk_stops 5 (by omega) Bs Bn w.heap.size b off cap m hm hcap wl (by omega) hBsl hBnl hBs hBn) kpC_t (kpC_b (by omega) hBsl hBnl) (Below.refl _ _) (fun _ => rfl)
    (OInv w wl.heap.size l) (fun _ _ _ => False) (oinv_own w _ l m hC) (fun _ _ _ _ _ hs _ _ => hs) h0 (OAx b off a.tmps) (fun _ _ _ _ _ _ h _ _ => h) ?_ ?_ ?_ ?_
  · intro lp pre x W K hi hK
    have h := hassign lp pre x W K hi hK
    have e : (#[7].zip (encC b off x)).foldl (fun (t : Array Value) (x : Nat × Value) => match x with | (p, v) => t.setIfInBounds p v) a.tmps = a.tmps.setIfInBounds 7 (.slice (some ⟨b, off + x.s, none⟩) x.q x.q) := by simp [encC]
    rw [e]
    exact h
  · intro lp pre x a' W _ _ hi ha hlt
    exact hbody lp pre x a' W hi ha hlt
  · rintro D xs W hD rfl hi hK
    exact hdone D W hD hi hK
  · intro D c pre W _ _ h _
    exact h.elim

theorem cks_over (l : List Nat) (n : Nat) (hl : l.length = n) : ((cksTo n ((n + 3) / 4)).map fun x => Mx.overD ((l.drop x.s).take x.q)) = Mx.overL l := by
  unfold cksTo Mx.overL
  rw [List.map_map, hl]
  apply List.map_congr_left
  intro k hk
  have hk' : k < (n + 3) / 4 := List.mem_range.1 hk
  show Mx.overD ((l.drop (min (k * 4) n)).take (min 4 (n - min (k * 4) n))) = Mx.overD ((l.drop (k * 4)).take 4)
  rw [show min (k * 4) n = k * 4 by omega]
  congr 1
  rcases (show 4 ≤ n - k * 4 ∨ n - k * 4 < 4 by omega) with h | h
  · rw [show min 4 (n - k * 4) = 4 by omega]
  · rw [List.take_of_length_le (by rw [List.length_drop]; omega), List.take_of_length_le (by rw [List.length_drop]; omega)]

set_option maxHeartbeats 4000000 in
set_option maxRecDepth 100000 in
theorem over_any (b off n c : Nat) (l : List Nat) (w : World) (hl : U64s w (some ⟨b, off, none⟩) n l) (hn0 : 1 ≤ n) (hn : n ≤ 1000) (hc : n ≤ c) :
    Calls Try.prog 101 #[.slice (some ⟨b, off, none⟩) n c] w fun e w' => ∃ v', e = .returned v' ∧ Hid (OwnU w' w.heap.size v' (Mx.overL l)) ∧ Hid (Below w.heap.size w w') := by
  have HL := hide hl
  clear hl
  refine (callsIn_wide (n := 6)).1 ?_
  refine callsIn_of_wp_marks Try.func101 rfl trivial ?_ rfl
  simp only [Try.ntmps101, List.size_toArray, List.length_cons, List.length_nil, Nat.reduceAdd, Nat.reduceSub, Array.replicate_succ, Array.replicate_zero, List.push_toArray, List.append_toArray, List.nil_append, List.cons_append]
  gi_wp2_with fail
  refine ⟨trivial, ?_⟩
  refine (chunkOf_in 5 (some ⟨b, off, none⟩) n c _).mono ?_
  rintro e w2 ⟨rfl, rfl⟩
  gi_wp2_with fail
  obtain ⟨wl, hwl⟩ : ∃ wl : World, Hid (wl = ((w.alloc (.cells #[.slice none 0 0] 120)).alloc (.cells #[.slice (some ⟨b, off, none⟩) n c] 120)).alloc (.cells #[.int .i64 4] 3)) := ⟨_, rfl⟩
  have hsz : wl.heap.size = w.heap.size + 3 := by rw [hwl.out]; simp
  have X0 := hide (show Bx wl w.heap.size #[.slice none 0 0] 120 by rw [hwl.out]; exact ((Bx.new w _ _).alloc _).alloc _)
  have X1 := hide (show Bx wl (w.heap.size + 1) #[.slice (some ⟨b, off, none⟩) n c] 120 by
    rw [hwl.out]
    have h := (Bx.new (w.alloc (.cells #[.slice none 0 0] 120)) #[.slice (some ⟨b, off, none⟩) n c] 120).alloc (.cells #[.int .i64 4] 3)
    rw [World.size_alloc] at h
    exact h)
  have X2 := hide (show Bx wl (w.heap.size + 2) #[.int .i64 4] 3 by
    rw [hwl.out]
    have h := Bx.new ((w.alloc (.cells #[.slice none 0 0] 120)).alloc (.cells #[.slice (some ⟨b, off, none⟩) n c] 120)) #[.int .i64 4] 3
    rw [World.size_alloc, World.size_alloc] at h
    exact h)
  have B0 := hide (show Below w.heap.size w wl by rw [hwl.out]; exact ((below_alloc _ _).alloc (by simp) _).alloc (by simp; omega) _)
  rw [← hwl.out]
  have hwl3 : w.heap.size + 1 ≤ wl.heap.size := by omega
  refine rangeChunks w l (w.heap.size + 1) (w.heap.size + 2) b off c n rfl hn hc (by omega) (by omega) hwl3 (X1.out.cell 0) (X2.out.cell 0) ⟨.slice none 0 0, X0.out, OwnU.nil _ _, B0.out, Nat.le_refl _⟩ ?assign ?body ?done
  case assign =>
    intro lp pre x W K hi hK
    simp only [List.setIfInBounds_toArray, List.set_cons_succ, List.set_cons_zero]
    gi_wp2
    exact hK _ _ (KeepsFrom.refl _ _) ⟨Below.refl _ _, rfl, rfl⟩ hi rfl
  case body =>
    rintro lp pre x a' W ⟨v, b0, ho, bb, bs⟩ rfl hlt
    have HX0 := hide b0
    have HO := hide ho
    have HBB := hide bb
    have HBS := hide bs
    have c0 := b0.cell 0
    have hwW : w.heap.size < W.heap.size := b0.lt
    have HU := hide ((HL.out.later bb).cut x.s x.q x.ok.1)
    obtain ⟨Z, HZ⟩ : ∃ Z : Nat, Hid (Z = Mx.overD ((l.drop x.s).take x.q)) := ⟨_, rfl⟩
    clear b0 ho bb bs
    simp only [List.setIfInBounds_toArray, List.set_cons_succ, List.set_cons_zero] at c0 ⊢
    gi_wp2_with fail
    refine wpIn_region_any (by kernel_rfl) ?_
    change wpAnyIn _ _ _ _ _ _ _ _ _ (World.drew _)
    refine wpAnyIn_ready (rs := [0, 1]) (by kernel_rfl) (by simp) ?_
    refine AllReadyIn.cons rfl (fun K hK => ?_) ?_
    · go_simp
      refine hK _ _ ?_
      clear hK K
      refine wpAnyIn_ready (rs := [1]) (by kernel_rfl) (by simp) ?_
      refine AllReadyIn.cons rfl (fun K hK => ?_) ?_
      · go_simp
        refine hK _ _ ?_
        clear hK K
        refine wpAnyIn_ready (rs := [2]) (by kernel_rfl) (by simp) ?_
        refine AllReadyIn.cons rfl (fun K hK => ?_) ?_
        · go_simp
          refine ⟨trivial, ?_⟩
          refine (CallsIn.inRound lp (callsIn_wide.2 (ofDigests_any (some ⟨b, off + x.s, none⟩) x.q x.q ((l.drop x.s).take x.q) W.drew (HU.out.later (Below.refl _ _).drew) x.ok.2))).mono ?_
          rintro e W2 ⟨rfl, hb2⟩
          rw [← HZ.out]
          have HB2 := hide (show Below W.heap.size W W2 from (Below.refl _ _).drew.trans hb2)
          have c2 : W2.cell? ⟨w.heap.size, 0, none⟩ = some v := (HB2.out.cell (p := ⟨w.heap.size, 0, none⟩) hwW).trans c0
          have hW2 : w.heap.size < W2.heap.size := by have := HB2.out.size; omega
          clear hb2
          refine hK _ _ ?_
          clear hK K
          refine wpAnyIn_ready (rs := [3]) (by kernel_rfl) (by simp) ?_
          refine AllReadyIn.cons rfl (fun K hK => ?_) ?_
          · go_simp
            refine hK _ _ ?_
            clear hK K
            refine wpAnyIn_ready (rs := [4]) (by kernel_rfl) (by simp) ?_
            refine AllReadyIn.cons rfl (fun K hK => ?_) ?_
            · refine stepIn_append_u64 rfl (.tmp 8) (.tmp 11) rfl wl.heap.size (pre.map fun x => Mx.overD ((l.drop x.s).take x.q)) ?o1 Z W2.heap.size ?o2 ?o3 ?o4 ?o5 ?_
              case o1 => exact World.ownsRow.alloc (rowKept HO.out HB2.out) _
              case o2 => rfl
              case o3 => rw [World.cell?_alloc_new]; rfl
              case o4 => rw [List.length_map]; omega
              case o5 => have := HB2.out.size; have := HBS.out; simp; omega
              intro v' W4 hown4 hgr4
              obtain ⟨a4, cap4, hv4⟩ := hown4.form
              obtain ⟨N4, hN4⟩ : ∃ N4 : Nat, Hid (N4 = ((pre.map fun x => Mx.overD ((l.drop x.s).take x.q)) ++ [Z]).length) := ⟨_, rfl⟩
              rw [← hN4.out] at hv4
              subst hv4
              have HO4 := hide hown4
              have HG4 := hide (show W2.grownBy W4 v.ownBlock from ⟨hgr4.os, hgr4.tape, hgr4.output, by have := hgr4.size; simp at this; omega, fun k hk hne => (hgr4.block k (by simp; omega) hne).trans (Below.heap_alloc W2 _ k hk)⟩)
              have HX4 := hide (show Bx W4 w.heap.size #[v] 120 from (HG4.out.block _ hW2 (fun e => by have := (World.ownsRow.lt HO.out _ e.symm).1; omega)).trans (HX0.out.later HB2.out hwW))
              have c4 : W4.cell? ⟨w.heap.size, 0, none⟩ = some v := HX4.out.cell 0
              have z4 := HX4.out.frozen
              clear hown4 hgr4
              refine hK _ _ ?_
              clear hK K
              refine wpAnyIn_ready (rs := [5]) (by kernel_rfl) (by simp) ?_
              refine AllReadyIn.cons rfl (fun K hK => ?_) ?_
              · go_simp
                refine hK _ _ ?_
                clear hK K
                refine wpAnyIn_done (by kernel_rfl) ?_ _
                exact oinv_round hwl3 ⟨by omega, by omega⟩ ⟨by omega, by omega⟩ HX0.out HO.out HBB.out HBS.out HB2.out HZ.out HO4.out HG4.out
              exact AllReadyIn.nil
            exact AllReadyIn.nil
          exact AllReadyIn.nil
        exact AllReadyIn.nil
      exact AllReadyIn.nil
    refine AllReadyIn.cons rfl (fun K hK => ?_) ?_
    · go_simp
      refine hK _ _ ?_
      clear hK K
      refine wpAnyIn_ready (rs := [0, 2]) (by kernel_rfl) (by simp) ?_
      refine AllReadyIn.cons rfl (fun K hK => ?_) ?_
      · go_simp
        refine hK _ _ ?_
        clear hK K
        refine wpAnyIn_ready (rs := [2]) (by kernel_rfl) (by simp) ?_
        refine AllReadyIn.cons rfl (fun K hK => ?_) ?_
        · go_simp
          refine ⟨trivial, ?_⟩
          refine (CallsIn.inRound lp (callsIn_wide.2 (ofDigests_any (some ⟨b, off + x.s, none⟩) x.q x.q ((l.drop x.s).take x.q) W.drew (HU.out.later (Below.refl _ _).drew) x.ok.2))).mono ?_
          rintro e W2 ⟨rfl, hb2⟩
          rw [← HZ.out]
          have HB2 := hide (show Below W.heap.size W W2 from (Below.refl _ _).drew.trans hb2)
          have c2 : W2.cell? ⟨w.heap.size, 0, none⟩ = some v := (HB2.out.cell (p := ⟨w.heap.size, 0, none⟩) hwW).trans c0
          have hW2 : w.heap.size < W2.heap.size := by have := HB2.out.size; omega
          clear hb2
          refine hK _ _ ?_
          clear hK K
          refine wpAnyIn_ready (rs := [3]) (by kernel_rfl) (by simp) ?_
          refine AllReadyIn.cons rfl (fun K hK => ?_) ?_
          · go_simp
            refine hK _ _ ?_
            clear hK K
            refine wpAnyIn_ready (rs := [4]) (by kernel_rfl) (by simp) ?_
            refine AllReadyIn.cons rfl (fun K hK => ?_) ?_
            · refine stepIn_append_u64 rfl (.tmp 8) (.tmp 11) rfl wl.heap.size (pre.map fun x => Mx.overD ((l.drop x.s).take x.q)) ?o1 Z W2.heap.size ?o2 ?o3 ?o4 ?o5 ?_
              case o1 => exact World.ownsRow.alloc (rowKept HO.out HB2.out) _
              case o2 => rfl
              case o3 => rw [World.cell?_alloc_new]; rfl
              case o4 => rw [List.length_map]; omega
              case o5 => have := HB2.out.size; have := HBS.out; simp; omega
              intro v' W4 hown4 hgr4
              obtain ⟨a4, cap4, hv4⟩ := hown4.form
              obtain ⟨N4, hN4⟩ : ∃ N4 : Nat, Hid (N4 = ((pre.map fun x => Mx.overD ((l.drop x.s).take x.q)) ++ [Z]).length) := ⟨_, rfl⟩
              rw [← hN4.out] at hv4
              subst hv4
              have HO4 := hide hown4
              have HG4 := hide (show W2.grownBy W4 v.ownBlock from ⟨hgr4.os, hgr4.tape, hgr4.output, by have := hgr4.size; simp at this; omega, fun k hk hne => (hgr4.block k (by simp; omega) hne).trans (Below.heap_alloc W2 _ k hk)⟩)
              have HX4 := hide (show Bx W4 w.heap.size #[v] 120 from (HG4.out.block _ hW2 (fun e => by have := (World.ownsRow.lt HO.out _ e.symm).1; omega)).trans (HX0.out.later HB2.out hwW))
              have c4 : W4.cell? ⟨w.heap.size, 0, none⟩ = some v := HX4.out.cell 0
              have z4 := HX4.out.frozen
              clear hown4 hgr4
              refine hK _ _ ?_
              clear hK K
              refine wpAnyIn_ready (rs := [5]) (by kernel_rfl) (by simp) ?_
              refine AllReadyIn.cons rfl (fun K hK => ?_) ?_
              · go_simp
                refine hK _ _ ?_
                clear hK K
                refine wpAnyIn_done (by kernel_rfl) ?_ _
                exact oinv_round hwl3 ⟨by omega, by omega⟩ ⟨by omega, by omega⟩ HX0.out HO.out HBB.out HBS.out HB2.out HZ.out HO4.out HG4.out
              exact AllReadyIn.nil
            exact AllReadyIn.nil
          exact AllReadyIn.nil
        exact AllReadyIn.nil
      refine AllReadyIn.cons rfl (fun K hK => ?_) ?_
      · go_simp
        refine ⟨trivial, ?_⟩
        refine (CallsIn.inRound lp (callsIn_wide.2 (ofDigests_any (some ⟨b, off + x.s, none⟩) x.q x.q ((l.drop x.s).take x.q) W.drew (HU.out.later (Below.refl _ _).drew) x.ok.2))).mono ?_
        rintro e W2 ⟨rfl, hb2⟩
        rw [← HZ.out]
        have HB2 := hide (show Below W.heap.size W W2 from (Below.refl _ _).drew.trans hb2)
        have c2 : W2.cell? ⟨w.heap.size, 0, none⟩ = some v := (HB2.out.cell (p := ⟨w.heap.size, 0, none⟩) hwW).trans c0
        have hW2 : w.heap.size < W2.heap.size := by have := HB2.out.size; omega
        clear hb2
        refine hK _ _ ?_
        clear hK K
        refine wpAnyIn_ready (rs := [0, 3]) (by kernel_rfl) (by simp) ?_
        refine AllReadyIn.cons rfl (fun K hK => ?_) ?_
        · go_simp
          refine hK _ _ ?_
          clear hK K
          refine wpAnyIn_ready (rs := [3]) (by kernel_rfl) (by simp) ?_
          refine AllReadyIn.cons rfl (fun K hK => ?_) ?_
          · go_simp
            refine hK _ _ ?_
            clear hK K
            refine wpAnyIn_ready (rs := [4]) (by kernel_rfl) (by simp) ?_
            refine AllReadyIn.cons rfl (fun K hK => ?_) ?_
            · refine stepIn_append_u64 rfl (.tmp 8) (.tmp 11) rfl wl.heap.size (pre.map fun x => Mx.overD ((l.drop x.s).take x.q)) ?o1 Z W2.heap.size ?o2 ?o3 ?o4 ?o5 ?_
              case o1 => exact World.ownsRow.alloc (rowKept HO.out HB2.out) _
              case o2 => rfl
              case o3 => rw [World.cell?_alloc_new]; rfl
              case o4 => rw [List.length_map]; omega
              case o5 => have := HB2.out.size; have := HBS.out; simp; omega
              intro v' W4 hown4 hgr4
              obtain ⟨a4, cap4, hv4⟩ := hown4.form
              obtain ⟨N4, hN4⟩ : ∃ N4 : Nat, Hid (N4 = ((pre.map fun x => Mx.overD ((l.drop x.s).take x.q)) ++ [Z]).length) := ⟨_, rfl⟩
              rw [← hN4.out] at hv4
              subst hv4
              have HO4 := hide hown4
              have HG4 := hide (show W2.grownBy W4 v.ownBlock from ⟨hgr4.os, hgr4.tape, hgr4.output, by have := hgr4.size; simp at this; omega, fun k hk hne => (hgr4.block k (by simp; omega) hne).trans (Below.heap_alloc W2 _ k hk)⟩)
              have HX4 := hide (show Bx W4 w.heap.size #[v] 120 from (HG4.out.block _ hW2 (fun e => by have := (World.ownsRow.lt HO.out _ e.symm).1; omega)).trans (HX0.out.later HB2.out hwW))
              have c4 : W4.cell? ⟨w.heap.size, 0, none⟩ = some v := HX4.out.cell 0
              have z4 := HX4.out.frozen
              clear hown4 hgr4
              refine hK _ _ ?_
              clear hK K
              refine wpAnyIn_ready (rs := [5]) (by kernel_rfl) (by simp) ?_
              refine AllReadyIn.cons rfl (fun K hK => ?_) ?_
              · go_simp
                refine hK _ _ ?_
                clear hK K
                refine wpAnyIn_done (by kernel_rfl) ?_ _
                exact oinv_round hwl3 ⟨by omega, by omega⟩ ⟨by omega, by omega⟩ HX0.out HO.out HBB.out HBS.out HB2.out HZ.out HO4.out HG4.out
              exact AllReadyIn.nil
            exact AllReadyIn.nil
          exact AllReadyIn.nil
        refine AllReadyIn.cons rfl (fun K hK => ?_) ?_
        · go_simp
          refine hK _ _ ?_
          clear hK K
          refine wpAnyIn_ready (rs := [0]) (by kernel_rfl) (by simp) ?_
          refine AllReadyIn.cons rfl (fun K hK => ?_) ?_
          · go_simp
            refine hK _ _ ?_
            clear hK K
            refine wpAnyIn_ready (rs := [4]) (by kernel_rfl) (by simp) ?_
            refine AllReadyIn.cons rfl (fun K hK => ?_) ?_
            · refine stepIn_append_u64 rfl (.tmp 8) (.tmp 11) rfl wl.heap.size (pre.map fun x => Mx.overD ((l.drop x.s).take x.q)) ?o1 Z W2.heap.size ?o2 ?o3 ?o4 ?o5 ?_
              case o1 => exact World.ownsRow.alloc (rowKept HO.out HB2.out) _
              case o2 => rfl
              case o3 => rw [World.cell?_alloc_new]; rfl
              case o4 => rw [List.length_map]; omega
              case o5 => have := HB2.out.size; have := HBS.out; simp; omega
              intro v' W4 hown4 hgr4
              obtain ⟨a4, cap4, hv4⟩ := hown4.form
              obtain ⟨N4, hN4⟩ : ∃ N4 : Nat, Hid (N4 = ((pre.map fun x => Mx.overD ((l.drop x.s).take x.q)) ++ [Z]).length) := ⟨_, rfl⟩
              rw [← hN4.out] at hv4
              subst hv4
              have HO4 := hide hown4
              have HG4 := hide (show W2.grownBy W4 v.ownBlock from ⟨hgr4.os, hgr4.tape, hgr4.output, by have := hgr4.size; simp at this; omega, fun k hk hne => (hgr4.block k (by simp; omega) hne).trans (Below.heap_alloc W2 _ k hk)⟩)
              have HX4 := hide (show Bx W4 w.heap.size #[v] 120 from (HG4.out.block _ hW2 (fun e => by have := (World.ownsRow.lt HO.out _ e.symm).1; omega)).trans (HX0.out.later HB2.out hwW))
              have c4 : W4.cell? ⟨w.heap.size, 0, none⟩ = some v := HX4.out.cell 0
              have z4 := HX4.out.frozen
              clear hown4 hgr4
              refine hK _ _ ?_
              clear hK K
              refine wpAnyIn_ready (rs := [5]) (by kernel_rfl) (by simp) ?_
              refine AllReadyIn.cons rfl (fun K hK => ?_) ?_
              · go_simp
                refine hK _ _ ?_
                clear hK K
                refine wpAnyIn_done (by kernel_rfl) ?_ _
                exact oinv_round hwl3 ⟨by omega, by omega⟩ ⟨by omega, by omega⟩ HX0.out HO.out HBB.out HBS.out HB2.out HZ.out HO4.out HG4.out
              exact AllReadyIn.nil
            exact AllReadyIn.nil
          exact AllReadyIn.nil
        exact AllReadyIn.nil
      exact AllReadyIn.nil
    exact AllReadyIn.nil
  case done =>
    intro D W hD hi hK
    obtain ⟨v, b0, ho, bb, bs⟩ := hi
    have HO := hide ho
    have HBB := hide bb
    have HD := hide hK
    have c0 := b0.cell 0
    simp only [List.getElem?_toArray, List.getElem?_cons_zero] at c0
    clear b0 ho bb bs hK
    gi_wp2_with fail
    have hgO := grownBy_putObj' W D (.deferred none)
    have hrO : ∀ r, some D = some r → ∃ o : Obj, W.heap[r]? = some o ∧ o.isCells = false := fun r e => by cases e; exact ⟨_, HD.out, rfl⟩
    have ho2 := row_kept HO.out hgO hrO
    have hbl := HBB.out.grown hgO HBB.out.size (fun k e => by cases e; omega)
    refine ⟨by simp, .inl ⟨_, _, rfl, run_takeDeferred HD.out, ?_⟩⟩
    generalize W.putObj D (.deferred none) = WG at *
    have ho3 : OwnU WG w.heap.size v (Mx.overL l) := by
      have h : OwnU WG wl.heap.size v ((cksTo n ((n + 3) / 4)).map fun x => Mx.overD ((l.drop x.s).take x.q)) := ho2
      rw [cks_over l n HL.out.1] at h
      exact World.ownsRow.mono h (by omega)
    exact ⟨v, by simp [results, Try.results101, go_sem], v, rfl, ho3, hbl⟩
end Go.Proofs.Ytdhmijjphgcdmac
