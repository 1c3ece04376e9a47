/-
  Packets applied: what the program answers (Apply).
-/
import Derived.Deep.RegionHeld3
import Derived.Test.YtpjgliocancgeabZDbox

namespace Go.Proofs.Ytpjgliocancgeab
open Go.RowKit

/-- rows of unlike things lie apart -/
theorem own_apart {w : World} {b1 b2 e1 e2 s1 s2 n1 n2 : Nat} {v1 v2 : Value} {x1 x2 : List Value} (h1 : w.ownsRow b1 e1 s1 v1 n1 x1) (h2 : w.ownsRow b2 e2 s2 v2 n2 x2) (hne : e1 ≠ e2) : v1.ownBlock = none ∨ v1.ownBlock ≠ v2.ownBlock := by
  rcases h1.2 with ⟨hv, _⟩ | ⟨g1, cap1, cur1, hv1, _, hh1, _⟩
  · left
    rw [hv]
    rfl
  · right
    rcases h2.2 with ⟨hv, _⟩ | ⟨g2, cap2, cur2, hv2, _, hh2, _⟩
    · rw [hv, hv1]
      simp [Value.ownBlock]
    · rw [hv1, hv2]
      intro e'
      have e3 : g1 = g2 := Option.some.inj e'
      subst e3
      rw [hh1] at hh2
      cases hh2
      exact hne rfl
theorem own_kept {w w' : World} {b1 b2 e1 e2 s1 s2 n1 n2 : Nat} {v1 v2 : Value} {x1 x2 : List Value} (h1 : w.ownsRow b1 e1 s1 v1 n1 x1) (h2 : w.ownsRow b2 e2 s2 v2 n2 x2) (hne : e1 ≠ e2) (hg : w.grownBy w' v2.ownBlock) : w'.ownsRow b1 e1 s1 v1 n1 x1 :=
  World.ownsRow.kept h1 hg (own_apart h1 h2 hne)

/-- one number more -/
theorem wpList_append_num {w : World} {ops : Array Oper} {rest : List Oper} {o : Oper} {a : Act} {Q : Exit → Act → World → Prop} (hgd : o.guard = none) (s x : Operand)
    (ho : o.op = .call { callee := .builtin .append, args := #[s, x], argTypes := #[49, 49] }) (base : Nat) (l : List Int) (hown : OwnI w base (a.eval s) l)
    (z : Int) (hx : a.eval x = .slice (some ⟨w.heap.size, 0, none⟩) 1 1) (h63 : l.length ≤ 1000000) (hbase : base ≤ w.heap.size)
    (h : ∀ ad c w', OwnI w' base (.slice (some ad) (l.length + 1) c) (l ++ [z]) → w.grownBy w' (a.eval s).ownBlock → wpList Try.prog ops Q rest (a.put o.dst (.slice (some ad) (l.length + 1) c)) w') :
    wpList Try.prog ops Q (o :: rest) a (w.alloc (.cells #[.int .i64 z] 3)) := by
  obtain ⟨i0, hi, hz0, hz1, hz2⟩ := info_parts Try.info3
  refine wpList_append_own _ hgd s x 49 ho base 3 i0 (.int .i64 0) 1 8 Try.underlying49 hi hz0 hz1 hz2 rfl (by decide) (a.eval s) l.length (l.map (Value.int .i64)) rfl (World.ownsRow.alloc hown _) ⟨w.heap.size, 0, none⟩ 1 1 [.int .i64 z] hx (by simp) ?_ ?_ (by unfold maxLen; omega) (by omega) (by simp; omega) ?_
  · intro j u hj
    match j, hj with
    | 0, hj => simp at hj; subst hj; simp [Addr.add]
  · intro u hu
    simp at hu; subst hu; rfl
  · intro v' w' hown' hg _
    have hI : OwnI w' base v' (l ++ [z]) := by
      unfold OwnI
      rw [List.length_append, List.map_append]
      exact hown'
    have hg' : w.grownBy w' (a.eval s).ownBlock := ⟨hg.os, hg.tape, hg.output, by have := hg.size; simp at this; omega, fun k hk hne => (hg.block k (by simp; omega) hne).trans (Below.heap_alloc w _ k hk)⟩
    rcases hown'.2 with ⟨_, hz⟩ | ⟨g, cap, cur, rfl, hbg, _⟩
    · simp at hz
    · exact h _ _ w' hI hg'
theorem OwnPL.nil (w : World) (base : Nat) : OwnPL w base (.slice none 0 0) [] := World.ownsRow_nil w base 29 9

/-- a way, and how it hears a packet -/
def Hears (fn : Nat) (recv : Value) (a ah : Option Addr) (n nh : Nat) (peer had : List B8) (q : Pk) : Prop := ∀ W : World, BL W a n peer → BL W ah nh had →
  Calls Try.prog fn #[recv, .agg #[.int .i64 q.at_, .int .i64 q.kind, .int .i64 q.from_, .int .u8 q.d.z0, .int .u8 q.d.z1, .int .u8 q.d.z2, .int .u8 q.d.z3, .int .u8 q.d.z4, .int .u8 q.d.z5, .int .u8 q.d.z6, .int .u8 q.d.z7]] W fun e w' => ∃ (d : B8) (ok : Bool), e = .returned (.tuple #[.agg #[.int .u8 d.z0, .int .u8 d.z1, .int .u8 d.z2, .int .u8 d.z3, .int .u8 d.z4, .int .u8 d.z5, .int .u8 d.z6, .int .u8 d.z7], .bool ok]) ∧ Hid (d = (Mx.saidO q peer had).getD zB ∧ ok = (Mx.saidO q peer had).isSome) ∧ Hid (Below W.heap.size W w')
theorem ansB_at (o : Option B8) : ∃ (d : B8) (ok : Bool), ansB o = .tuple #[.agg #[.int .u8 d.z0, .int .u8 d.z1, .int .u8 d.z2, .int .u8 d.z3, .int .u8 d.z4, .int .u8 d.z5, .int .u8 d.z6, .int .u8 d.z7], .bool ok] ∧ Hid (d = o.getD zB ∧ ok = o.isSome) := by
  cases o with
  | none => exact ⟨zB, false, rfl, rfl, rfl⟩
  | some d => exact ⟨d, true, rfl, rfl, rfl⟩
theorem hears_of {fn : Nat} {recv : Value} {W : World} {q : Pk} {peer had : List B8} (h : Calls Try.prog fn #[recv, .agg #[.int .i64 q.at_, .int .i64 q.kind, .int .i64 q.from_, .int .u8 q.d.z0, .int .u8 q.d.z1, .int .u8 q.d.z2, .int .u8 q.d.z3, .int .u8 q.d.z4, .int .u8 q.d.z5, .int .u8 q.d.z6, .int .u8 q.d.z7]] W fun e w' => e = .returned (ansB (Mx.saidO q peer had)) ∧ Below W.heap.size W w') :
    Calls Try.prog fn #[recv, .agg #[.int .i64 q.at_, .int .i64 q.kind, .int .i64 q.from_, .int .u8 q.d.z0, .int .u8 q.d.z1, .int .u8 q.d.z2, .int .u8 q.d.z3, .int .u8 q.d.z4, .int .u8 q.d.z5, .int .u8 q.d.z6, .int .u8 q.d.z7]] W fun e w' => ∃ (d : B8) (ok : Bool), e = .returned (.tuple #[.agg #[.int .u8 d.z0, .int .u8 d.z1, .int .u8 d.z2, .int .u8 d.z3, .int .u8 d.z4, .int .u8 d.z5, .int .u8 d.z6, .int .u8 d.z7], .bool ok]) ∧ Hid (d = (Mx.saidO q peer had).getD zB ∧ ok = (Mx.saidO q peer had).isSome) ∧ Hid (Below W.heap.size W w') := by
  refine h.mono ?_
  rintro e w' ⟨rfl, hb⟩
  obtain ⟨d, ok, h1, h2⟩ := ansB_at (Mx.saidO q peer had)
  exact ⟨d, ok, by rw [h1], h2, hb⟩

theorem hear_way (a ah : Option Addr) (n c nh ch : Nat) (peer had : List B8) (q : Pk) (h0 : 0 ≤ q.kind) (h4 : q.kind < 4) :
    ∃ (kd ty : Nat) (v recv : Value) (fn : Nat), q.kind = (kd : Int) ∧ kd < 4 ∧ ((#[.iface 154 (.agg #[]), .iface 155 (.slice a n c), .iface 155 (.slice ah nh ch), .iface 156 (.agg #[])] : Array Value)[kd]? = some (.iface ty v)) ∧ (∀ W : World, (method 293 ty v "stillwater/plan.hear").run Try.prog W = .ok (fn, recv) W) ∧ (∀ (xs : Array Value) (W : World), (callFunc fn xs).run Try.prog W = .ok (.enter fn xs) W) ∧ Hid (Hears fn recv a ah n nh peer had q) := by
  rcases (show q.kind = 0 ∨ q.kind = 1 ∨ q.kind = 2 ∨ q.kind = 3 by omega) with hkd | hkd | hkd | hkd
  · exact ⟨0, 154, .agg #[], .agg #[], 113, hkd, by omega, rfl, fun _ => by kernel_rfl, fun _ _ => by kernel_rfl, fun W _ _ => hears_of (by rw [Mx.saidO_zero hkd]; exact hear_noughts q W)⟩
  · exact ⟨1, 155, .slice a n c, .slice a n c, 115, hkd, by omega, rfl, fun _ => by kernel_rfl, fun _ _ => by kernel_rfl, fun W h _ => hears_of (by rw [Mx.saidO_peer (by omega) (by omega) (by omega)]; exact hear_listed q a n c peer W h)⟩
  · exact ⟨2, 155, .slice ah nh ch, .slice ah nh ch, 115, hkd, by omega, rfl, fun _ => by kernel_rfl, fun _ _ => by kernel_rfl, fun W _ h => hears_of (by rw [Mx.saidO_had hkd]; exact hear_listed q ah nh ch had W h)⟩
  · exact ⟨3, 156, .agg #[], .agg #[], 118, hkd, by omega, rfl, fun _ => by kernel_rfl, fun _ _ => by kernel_rfl, fun W _ _ => hears_of (by rw [Mx.saidO_lit hkd]; exact hear_literal q W)⟩
theorem ap_early {w5 w6 : World} (h : Below (w5.alloc (.cells #[.int .u8 0, .int .u8 0, .int .u8 0, .int .u8 0, .int .u8 0, .int .u8 0, .int .u8 0, .int .u8 0] 27)).drew.heap.size (w5.alloc (.cells #[.int .u8 0, .int .u8 0, .int .u8 0, .int .u8 0, .int .u8 0, .int .u8 0, .int .u8 0, .int .u8 0] 27)).drew w6) : Below w5.heap.size w5 w6 ∧ Bx w6 w5.heap.size #[.int .u8 0, .int .u8 0, .int .u8 0, .int .u8 0, .int .u8 0, .int .u8 0, .int .u8 0, .int .u8 0] 27 :=
  ⟨(below_alloc w5 (.cells #[.int .u8 0, .int .u8 0, .int .u8 0, .int .u8 0, .int .u8 0, .int .u8 0, .int .u8 0, .int .u8 0] 27)).drew.trans (h.mono (by simp)), (Bx.newD w5 #[.int .u8 0, .int .u8 0, .int .u8 0, .int .u8 0, .int .u8 0, .int .u8 0, .int .u8 0, .int .u8 0] 27).later h (by simp)⟩
theorem ap_late {w5 w6 : World} (h : Below w5.drew.heap.size w5.drew w6) : Below w5.heap.size w5 w6 := (Below.refl w5.heap.size w5).drew.trans h
theorem ap_put8 {w : World} {g : Nat} (h : Bx w g #[.int .u8 0, .int .u8 0, .int .u8 0, .int .u8 0, .int .u8 0, .int .u8 0, .int .u8 0, .int .u8 0] 27) (d : B8) : Bx (set8 w g 0 d) g #[.int .u8 d.z0, .int .u8 d.z1, .int .u8 d.z2, .int .u8 d.z3, .int .u8 d.z4, .int .u8 d.z5, .int .u8 d.z6, .int .u8 d.z7] 27 := by
  have h8 := (((((((h.set 0 (.int .u8 d.z0)).set 1 (.int .u8 d.z1)).set 2 (.int .u8 d.z2)).set 3 (.int .u8 d.z3)).set 4 (.int .u8 d.z4)).set 5 (.int .u8 d.z5)).set 6 (.int .u8 d.z6)).set 7 (.int .u8 d.z7)
  simp only [List.setIfInBounds_toArray, List.set_cons_zero, List.set_cons_succ] at h8
  unfold set8
  simp only [Nat.zero_add]
  exact h8

set_option maxHeartbeats 16000000 in
set_option maxRecDepth 100000 in
theorem apply_ok (ap a ah : Option Addr) (m cm n c nh ch : Nat) (qs : List Pk) (peer had : List B8) (w : World) (hp : QL w ap m qs) (hq : BL w a n peer) (hh : BL w ah nh had) (hc : nh ≤ ch) (hn : n ≤ 1000) (hm : m ≤ 1000) (h0 : Mx.pmay n had = 0) (hE : Mx.qE n qs = 0) :
    Calls Try.prog 29 #[.slice ap m cm, .slice a n c, .slice ah nh ch] w fun e w' => ∃ a1 c1 a2 c2, e = .returned (.tuple #[.slice a1 (Mx.puts qs peer had).length c1, .slice a2 (Mx.miss qs peer had).length c2, .nilIface]) ∧ Hid (PL w' a1 (Mx.puts qs peer had).length (Mx.puts qs peer had)) ∧ Hid (Ints w' a2 (Mx.miss qs peer had).length (Mx.miss qs peer had)) ∧ Hid (Below w.heap.size w w') := by
  have HH := hide hh
  have HP := hide hp
  have HQ := hide hq
  have H0 := hide (show errV (Mx.pmay n had) = .nilIface by rw [h0]; rfl)
  have HE0 := hide hE
  have H1 := hide (show errV (Mx.qE n qs) = .nilIface by rw [hE]; rfl)
  clear hh hp hq hE h0
  go_enter Try.func29, Try.ntmps29
  go_wp2_with fail
  refine (checkPeer_any a ah n c nh ch had w HH.out hc).mono ?_
  rintro e w1 ⟨rfl, hb1⟩
  rw [H0.out]
  have B1 := hide hb1
  clear hb1
  go_wp2_with fail
  refine (checkPackets_any ap m cm qs n w1 (HP.out.later B1.out) hn).mono ?_
  rintro e w2 ⟨rfl, hb2⟩
  rw [H1.out]
  have B2 := hide (B1.out.trans (hb2.mono B1.out.size))
  clear hb2
  go_wp2_with fail
  refine (waysTo_any a ah n c nh ch w2).mono ?_
  rintro e w3 ⟨rfl, hb3⟩
  have B3 := hide (B2.out.trans (hb3.mono B2.out.size))
  clear hb3
  go_wp2_with fail
  have K0 := hide (Bx.new w3 #[.iface 154 (.agg #[]), .iface 155 (.slice a n c), .iface 155 (.slice ah nh ch), .iface 156 (.agg #[])] 125)
  have B4 := hide (B3.out.alloc B3.out.size (.cells #[.iface 154 (.agg #[]), .iface 155 (.slice a n c), .iface 155 (.slice ah nh ch), .iface 156 (.agg #[])] 125))
  obtain ⟨w4, hw4⟩ : ∃ w4 : World, Hid (w4 = w3.alloc (.cells #[.iface 154 (.agg #[]), .iface 155 (.slice a n c), .iface 155 (.slice ah nh ch), .iface 156 (.agg #[])] 125)) := ⟨_, rfl⟩
  rw [← hw4.out] at K0 B4 ⊢
  go_loopw [6, 7, 32] (fun v u t wr => ∃ (k r s : Nat) (a1 : Option Addr) (c1 : Nat) (a2 : Option Addr) (c2 : Nat), k ≤ m ∧ t = .int .i64 (k : Int) ∧ v = .slice a1 r c1 ∧ u = .slice a2 s c2 ∧ Hid (r = (Mx.puts (qs.take k) peer had).length) ∧ Hid (s = (Mx.miss (qs.take k) peer had).length) ∧ Hid (OwnPL wr (w3.heap.size + 1) (.slice a1 r c1) (Mx.puts (qs.take k) peer had)) ∧ Hid (OwnI wr (w3.heap.size + 1) (.slice a2 s c2) (Mx.miss (qs.take k) peer had)) ∧ Hid (Bx wr w3.heap.size #[.iface 154 (.agg #[]), .iface 155 (.slice a n c), .iface 155 (.slice ah nh ch), .iface 156 (.agg #[])] 125) ∧ Hid (Below w.heap.size w wr)) (fun _ _ t _ => m - (intOf t).toNat)
  case atStart => exact ⟨0, 0, 0, none, 0, none, 0, by omega, rfl, rfl, rfl, hide (by simp [Mx.puts]), hide (by simp [Mx.miss]), OwnPL.nil _ _, OwnI.nil _ _, K0, B4⟩
  case round =>
    obtain ⟨k, r, s, a1, c1, a2, c2, hk, rfl, rfl, rfl, hr, hs, hO, hI, hX, hB⟩ := hrel
    by_cases hlt : k < m
    · obtain ⟨b, off, q, rfl, hb, hp, e0, e1, e2, e3, e4, e5, e6, e7, e8, e9, e10⟩ := (HP.out.later hB.out).at_ k hlt
      have HK := hide hp
      obtain ⟨ha0, ha1, hq0, hq4⟩ := Mx.qE_at HE0.out hp
      clear hp
      have b5 := hide (below_alloc wr (.cells #[.int .i64 q.at_, .int .i64 q.kind, .int .i64 q.from_, .int .u8 q.d.z0, .int .u8 q.d.z1, .int .u8 q.d.z2, .int .u8 q.d.z3, .int .u8 q.d.z4, .int .u8 q.d.z5, .int .u8 q.d.z6, .int .u8 q.d.z7] 59))
      have R5 := hide (show Bx (wr.alloc (.cells #[.int .i64 q.at_, .int .i64 q.kind, .int .i64 q.from_, .int .u8 q.d.z0, .int .u8 q.d.z1, .int .u8 q.d.z2, .int .u8 q.d.z3, .int .u8 q.d.z4, .int .u8 q.d.z5, .int .u8 q.d.z6, .int .u8 q.d.z7] 59)) wr.heap.size q.arr 59 from Bx.new _ _ _)
      have hx3 := hX.out.lt
      go_wp2_with fail
      obtain ⟨w5, hw5⟩ : ∃ w5 : World, Hid (w5 = wr.alloc (.cells #[.int .i64 q.at_, .int .i64 q.kind, .int .i64 q.from_, .int .u8 q.d.z0, .int .u8 q.d.z1, .int .u8 q.d.z2, .int .u8 q.d.z3, .int .u8 q.d.z4, .int .u8 q.d.z5, .int .u8 q.d.z6, .int .u8 q.d.z7] 59)) := ⟨_, rfl⟩
      rw [← hw5.out] at b5 R5 ⊢
      have X5 := hide (hX.out.later b5.out hX.out.lt)
      have O5 := hide (show OwnPL w5 (w3.heap.size + 1) _ _ from rowKept hO.out b5.out)
      have I5 := hide (show OwnI w5 (w3.heap.size + 1) _ _ from rowKept hI.out b5.out)
      have B5 := hide (hB.out.trans (b5.out.mono hB.out.size))
      have g5 : wr.heap.size < w5.heap.size := R5.out.lt
      clear e0 e1 e2 e3 e4 e5 e6 e7 e8 e9 e10 b5
      go_cut [12, 13] (fun s12 s13 wx => ∃ (g : Nat) (d : B8) (ok : Bool), s12 = .pointer (some ⟨g, 0, none⟩) ∧ s13 = .bool ok ∧ Hid (d = (Mx.saidO q peer had).getD zB ∧ ok = (Mx.saidO q peer had).isSome) ∧ Hid (Bx wx g #[.int .u8 d.z0, .int .u8 d.z1, .int .u8 d.z2, .int .u8 d.z3, .int .u8 d.z4, .int .u8 d.z5, .int .u8 d.z6, .int .u8 d.z7] 27) ∧ Hid (Below w5.heap.size w5 wx))
      case first =>
        obtain ⟨kd, ty, v, recv, fn, hkd, hkd4, hxv, hmt, hcf, HC⟩ := hear_way a ah n c nh ch peer had q hq0 hq4
        have xk : w5.cell? ⟨w3.heap.size, kd, none⟩ = some (.iface ty v) := (X5.out.cell kd).trans hxv
        obtain ⟨q0, q1, q2, q3, q4, q5, q6, q7, q8, q9, q10⟩ := Bx.eleven R5.out
        have HKD := hide hkd
        rw [hkd] at q1
        have hkd0 : (kd : Int) < 4 := by omega
        have g35 : w3.heap.size < w5.heap.size := by omega
        have HC' := hide (fun W hw1 hw2 => by have h := HC.out W hw1 hw2; rw [HKD.out] at h; exact h)
        clear hb hq0 hq4 ha0 ha1 hk hlt hx3 hkd hxv HC
        go_region_with (
          refine (HC'.out _ ?h1 ?h2).mono ?_
          (case h1 => first | exact (HQ.out.later B5.out).later (Below.refl _ _).drew | exact (HQ.out.later B5.out).later (below_alloc _ _).drew)
          (case h2 => first | exact (HH.out.later B5.out).later (Below.refl _ _).drew | exact (HH.out.later B5.out).later (below_alloc _ _).drew)
          rintro e w6 ⟨d, ok, rfl, hd, hb6⟩
          first
          | (have hk6 := hide (ap_early hb6.out); obtain ⟨z0, z1, z2, z3, z4, z5, z6, z7⟩ := Bx.eight (x := zB) hk6.out.2; have rz := hk6.out.2.frozen)
          | (have hk6 := hide (ap_late hb6.out)))
        all_goals go_wp2_with fail
        all_goals go_meet
        all_goals refine ⟨_, d, ok, rfl, rfl, hd, ?_, ?_⟩
        all_goals first
          | exact ap_put8 hk6.out.2 d
          | exact set8_below hk6.out.1 (Nat.le_refl _) 0 d
          | exact Bx.new _ _ _
          | exact hk6.out.alloc hk6.out.size _
      case rest =>
      obtain ⟨g, d, ok, rfl, rfl, hd, hbx, hb6⟩ := hcut
      have R6 := hide (R5.out.later hb6.out R5.out.lt)
      have X6 := hide (X5.out.later hb6.out X5.out.lt)
      have O6 := hide (show OwnPL wc (w3.heap.size + 1) _ (Mx.puts (qs.take k) peer had) from rowKept O5.out hb6.out)
      have I6 := hide (show OwnI wc (w3.heap.size + 1) _ (Mx.miss (qs.take k) peer had) from rowKept I5.out hb6.out)
      have B6 := hide (B5.out.trans (hb6.out.mono B5.out.size))
      have S6 := hide (show w3.heap.size + 1 ≤ wc.heap.size from X6.out.lt)
      have L6 := hide (show (Mx.puts (qs.take k) peer had).length ≤ 1000 ∧ (Mx.miss (qs.take k) peer had).length ≤ 1000 by have h1 := Mx.puts_len (qs.take k) peer had; have h2 := Mx.miss_len (qs.take k) peer had; rw [List.length_take] at h1 h2; omega)
      have c0 : wc.cell? ⟨wr.heap.size, 0, none⟩ = some (.int .i64 q.at_) := R6.out.cell 0
      obtain ⟨d0, d1, d2, d3, d4, d5, d6, d7⟩ := hbx.out.eight
      clear hb ha0 ha1 hq0 hq4 hx3 g5
      cases ok with
      | true =>
        have HS := hide (show Mx.saidO q peer had = some d by
          obtain ⟨h1, h2⟩ := hd.out
          cases hs : Mx.saidO q peer had with
          | none => rw [hs] at h2; exact absurd h2 (by simp)
          | some y => rw [hs] at h1; rw [h1]; rfl)
        have HE := hide (Mx.puts_some HK.out HS.out)
        go_wp2_with (at_builtin; refine wpList_append_put rfl _ _ rfl (w3.heap.size + 1) (Mx.puts (qs.take k) peer had) ?o1 ⟨q.at_, d⟩ ?o2 ?o3 ?o4 ?_)
        case o1 => exact O6.out
        case o2 => rfl
        case o3 => have := L6.out.1; omega
        case o4 => exact S6.out
        intro ad cc w7 hown hgr
        have b7 := hide ((Below.refl (w3.heap.size + 1) wc).grown hgr S6.out (fun k hk => (World.ownsRow.lt O6.out k hk).1))
        have O7 := hide hown
        have I7 := hide (show OwnI w7 (w3.heap.size + 1) _ (Mx.miss (qs.take k) peer had) from own_kept I6.out O6.out (by decide) hgr)
        have X7 := hide (X6.out.later b7.out (Nat.lt_succ_self _))
        have B7 := hide (B6.out.trans (b7.out.mono (Nat.le_succ_of_le B3.out.size)))
        rw [← hr.out] at O7 ⊢
        clear hown hgr
        go_wp2_with fail
        go_roundw
        case rel => exact ⟨k + 1, r + 1, s, some ad, cc, a2, c2, by omega, by go_num, rfl, rfl, by rw [HE.out.1, List.length_append, ← hr.out]; exact hide rfl, by rw [HE.out.2]; exact hs, by rw [HE.out.1]; exact O7, by rw [HE.out.2]; exact I7, X7, B7⟩
        case measure => simp [intOf]; omega
      | false =>
        have HS := hide (show Mx.saidO q peer had = none by
          obtain ⟨h1, h2⟩ := hd.out
          cases hs : Mx.saidO q peer had with
          | none => rfl
          | some y => rw [hs] at h2; exact absurd h2 (by simp))
        have HE := hide (Mx.puts_none HK.out HS.out)
        go_wp2_with (at_builtin; refine wpList_append_num rfl _ _ rfl (w3.heap.size + 1) (Mx.miss (qs.take k) peer had) ?o1 q.at_ ?o2 ?o3 ?o4 ?_)
        case o1 => exact I6.out
        case o2 => rfl
        case o3 => have := L6.out.2; omega
        case o4 => exact S6.out
        intro ad cc w7 hown hgr
        have b7 := hide ((Below.refl (w3.heap.size + 1) wc).grown hgr S6.out (fun k hk => (World.ownsRow.lt I6.out k hk).1))
        have I7 := hide hown
        have O7 := hide (show OwnPL w7 (w3.heap.size + 1) _ (Mx.puts (qs.take k) peer had) from own_kept O6.out I6.out (by decide) hgr)
        have X7 := hide (X6.out.later b7.out (Nat.lt_succ_self _))
        have B7 := hide (B6.out.trans (b7.out.mono (Nat.le_succ_of_le B3.out.size)))
        rw [← hs.out] at I7 ⊢
        clear hown hgr
        go_wp2_with fail
        go_roundw
        case rel => exact ⟨k + 1, r, s + 1, a1, c1, some ad, cc, by omega, by go_num, rfl, rfl, by rw [HE.out.1]; exact hr, by rw [HE.out.2, List.length_append, ← hs.out]; exact hide rfl, by rw [HE.out.1]; exact O7, by rw [HE.out.2]; exact I7, X7, B7⟩
        case measure => simp [intOf]; omega
    · have HT := hide (show qs.take k = qs from List.take_of_length_le (by have := HP.out.1; omega))
      go_wp2_with fail
      rw [HT.out] at hr hs hO hI
      obtain ⟨a3, c3, hv, hPL, _⟩ := hO.out.pl
      obtain ⟨a4, c4, hv2, hIL⟩ := hI.out.ints
      refine bodyPost_ret (v := .tuple #[.slice a1 r c1, .slice a2 s c2, .nilIface]) (by simp [results, Try.results29, go_sem]) rfl ⟨a3, c3, a4, c4, by rw [hv, hv2], hide hPL, hide hIL, hB⟩
end Go.Proofs.Ytpjgliocancgeab

/-
  PlanApplies: the law.
-/
namespace Go.Proofs.Ytpjgliocancgeab
open Go.RowKit

theorem Ints.none (w : World) : Ints w none 0 [] := ⟨rfl, by unfold maxLen; omega, fun h => absurd h (by omega)⟩
theorem Mx.qE_ok {n : Int} {qs : List Pk} (h : Mx.qE n qs = 0) {k : Nat} {q : Pk} (hq : qs[k]? = some q) : Mx.qNext qs k ≤ q.at_ ∧ q.at_ < n ∧ 0 ≤ q.kind ∧ q.kind < 4 := by
  have h0 : Mx.qRise n qs = true := by
    unfold Mx.qE at h
    by_cases h1 : Mx.qRise n qs = true
    · exact h1
    · rw [if_neg h1] at h
      exact absurd h (by omega)
  unfold Mx.qRise at h0
  rw [List.all_eq_true] at h0
  have h1 := h0 k (List.mem_range.2 (List.getElem?_eq_some_iff.1 hq).1)
  unfold Mx.qGood Mx.qOk at h1
  rw [List.getD_eq_getElem?_getD, hq] at h1
  simp only [Bool.and_eq_true, decide_eq_true_eq, Option.getD_some] at h1
  omega

set_option maxHeartbeats 20000000 in
set_option maxRecDepth 100000 in
theorem pa_err1a (ap a ah : Option Addr) (m cm n c nh ch : Nat) (qs : List Pk) (peer had : List B8) (w : World) (hp : QL w ap m qs) (hq : BL w a n peer) (hh : BL w ah nh had) (hc : nh ≤ ch) (hm : m ≤ 100) (hn : n ≤ 100) (hnh : nh ≤ 100) (hE : ¬ Mx.pmay n had = 0) (hM : ¬ Mx.hmay had = 0) :
    Calls Try.prog 6 #[.slice ap m cm, .slice a n c, .slice ah nh ch] w fun e w' => e = .returned (.bool true) ∧ Below w.heap.size w w' := by
  have HH := hide hh
  have HP := hide hp
  have HQ := hide hq
  clear hh hp hq

  obtain ⟨E, hEE⟩ : ∃ E : Int, Hid (E = Mx.pmay n had) := ⟨_, rfl⟩
  have h0 : ¬ E = 0 := by rw [hEE.out]; exact hE
  have HE := hide hE
  have HM := hide hM
  have HV := hide (errV_not hE)
  have HVE := hide (show errV E = .iface 31 (.int .i64 E) from errV_not h0)
  clear hE hM

  go_enter Try.func6, Try.ntmps6
  go_wp2_with fail
  refine (planMay_any a ah n c nh ch had w HH.out).mono ?_
  rintro e w1 ⟨rfl, hb1⟩
  have B1 := hide hb1
  clear hb1
  rw [← hEE.out]
  go_wp2_with fail
  go_loopw [7, 8, 9] (fun e l i wr => e = .int .i64 E ∧ l = .int .i64 (-1) ∧ i = .int .i64 0 ∧ Hid (wr = w1)) (fun _ _ _ _ => 0)
  case atStart => exact ⟨rfl, rfl, rfl, rfl⟩
  case round =>
    obtain ⟨rfl, rfl, rfl, hw⟩ := hrel
    rw [hw.out]
    clear hw
    by_cases hm0 : 0 < m
    · go_wp2_with fail
      go_loopw [11, 12, 13] (fun p u i wr => p = .slice none 0 0 ∧ u = .slice none 0 0 ∧ i = .int .i64 0 ∧ Hid (wr = w1)) (fun _ _ _ _ => 0)
      case atStart => exact ⟨rfl, rfl, rfl, rfl⟩
      case round =>
        obtain ⟨rfl, rfl, rfl, hw⟩ := hrel
        rw [hw.out]
        clear hw
        go_wp2_with fail
        refine (apply_err1 ap a ah m cm n c nh ch had w1 (HH.out.later B1.out) hc HE.out).mono ?_
        rintro e wa ⟨rfl, hb⟩
        have BA := hide (B1.out.trans (hb.mono B1.out.size))
        clear hb
        rw [HV.out, ← hEE.out]
        go_wp2_with fail
        rw [← HVE.out]
        refine (is_any E E wa).mono ?_
        rintro e wb ⟨rfl, rfl⟩
        rw [show ((E : Int) == E) = true by simp]
        go_wp2_with fail
        refine (samePL_gen none none 0 0 0 0 [] [] wb (PL.nil _) (PL.nil _)).mono ?_
        rintro e wd ⟨r1, rfl, h1, q1, rfl⟩
        obtain rfl : r1 = true := h1.2 rfl
        go_wp2_with fail
        refine (sameInts_gen none none 0 0 0 0 [] [] _ (Ints.none _) (Ints.none _)).mono ?_
        rintro e we ⟨r2, rfl, h2, q2, rfl⟩
        obtain rfl : r2 = true := h2.2 rfl
        have BT := hide (below_drewN (below_drewN BA.out q1) q2)
        obtain ⟨wt, hwt⟩ : ∃ wt : World, Hid (wt = (wb.drewN q1).drewN q2) := ⟨_, rfl⟩
        rw [← hwt.out] at BT ⊢
        go_wp2_with fail

        refine (hadMay_any ah nh ch had wt (HH.out.later BT.out)).mono ?_
        rintro e u1 ⟨rfl, hb⟩
        obtain ⟨E2, hE2⟩ : ∃ E : Int, Hid (E = Mx.hmay had) := ⟨_, rfl⟩
        have hE20 : ¬ E2 = 0 := by rw [hE2.out]; exact HM.out
        have HVE2 := hide (show errV E2 = .iface 31 (.int .i64 E2) from errV_not hE20)
        rw [← hE2.out]
        have U1 := hide (BT.out.trans (hb.mono BT.out.size))
        clear hb
        go_wp2_with fail
        refine (had_err ah ap nh ch m cm had u1 (HH.out.later U1.out) hc HM.out).mono ?_
        rintro e u2 ⟨rfl, hb⟩
        rw [← hE2.out, HVE2.out]
        have U2 := hide (U1.out.trans (hb.mono U1.out.size))
        clear hb
        go_wp2_with fail
        rw [← HVE2.out]
        refine (is_any E2 E2 u2).mono ?_
        rintro e u8 ⟨rfl, rfl⟩
        rw [show (E2 == E2) = true by simp]
        go_wp2_with fail
        refine (sameBL_gen none none 0 0 0 0 [] [] u8 (BL.nil _) (BL.nil _)).mono ?_
        rintro e u9 ⟨r9, rfl, h9, q9, rfl⟩
        obtain rfl : r9 = true := h9.2 rfl
        go_wp2_with fail
        go_ret
        exact ⟨rfl, below_drewN U2.out _⟩
    · go_wp2_with fail
      go_loopw [11, 12, 13] (fun p u i wr => p = .slice none 0 0 ∧ u = .slice none 0 0 ∧ i = .int .i64 0 ∧ Hid (wr = w1)) (fun _ _ _ _ => 0)
      case atStart => exact ⟨rfl, rfl, rfl, rfl⟩
      case round =>
        obtain ⟨rfl, rfl, rfl, hw⟩ := hrel
        rw [hw.out]
        clear hw
        go_wp2_with fail
        refine (apply_err1 ap a ah m cm n c nh ch had w1 (HH.out.later B1.out) hc HE.out).mono ?_
        rintro e wa ⟨rfl, hb⟩
        have BA := hide (B1.out.trans (hb.mono B1.out.size))
        clear hb
        rw [HV.out, ← hEE.out]
        go_wp2_with fail
        rw [← HVE.out]
        refine (is_any E E wa).mono ?_
        rintro e wb ⟨rfl, rfl⟩
        rw [show ((E : Int) == E) = true by simp]
        go_wp2_with fail
        refine (samePL_gen none none 0 0 0 0 [] [] wb (PL.nil _) (PL.nil _)).mono ?_
        rintro e wd ⟨r1, rfl, h1, q1, rfl⟩
        obtain rfl : r1 = true := h1.2 rfl
        go_wp2_with fail
        refine (sameInts_gen none none 0 0 0 0 [] [] _ (Ints.none _) (Ints.none _)).mono ?_
        rintro e we ⟨r2, rfl, h2, q2, rfl⟩
        obtain rfl : r2 = true := h2.2 rfl
        have BT := hide (below_drewN (below_drewN BA.out q1) q2)
        obtain ⟨wt, hwt⟩ : ∃ wt : World, Hid (wt = (wb.drewN q1).drewN q2) := ⟨_, rfl⟩
        rw [← hwt.out] at BT ⊢
        go_wp2_with fail

        refine (hadMay_any ah nh ch had wt (HH.out.later BT.out)).mono ?_
        rintro e u1 ⟨rfl, hb⟩
        obtain ⟨E2, hE2⟩ : ∃ E : Int, Hid (E = Mx.hmay had) := ⟨_, rfl⟩
        have hE20 : ¬ E2 = 0 := by rw [hE2.out]; exact HM.out
        have HVE2 := hide (show errV E2 = .iface 31 (.int .i64 E2) from errV_not hE20)
        rw [← hE2.out]
        have U1 := hide (BT.out.trans (hb.mono BT.out.size))
        clear hb
        go_wp2_with fail
        refine (had_err ah ap nh ch m cm had u1 (HH.out.later U1.out) hc HM.out).mono ?_
        rintro e u2 ⟨rfl, hb⟩
        rw [← hE2.out, HVE2.out]
        have U2 := hide (U1.out.trans (hb.mono U1.out.size))
        clear hb
        go_wp2_with fail
        rw [← HVE2.out]
        refine (is_any E2 E2 u2).mono ?_
        rintro e u8 ⟨rfl, rfl⟩
        rw [show (E2 == E2) = true by simp]
        go_wp2_with fail
        refine (sameBL_gen none none 0 0 0 0 [] [] u8 (BL.nil _) (BL.nil _)).mono ?_
        rintro e u9 ⟨r9, rfl, h9, q9, rfl⟩
        obtain rfl : r9 = true := h9.2 rfl
        go_wp2_with fail
        go_ret
        exact ⟨rfl, below_drewN U2.out _⟩

set_option maxHeartbeats 20000000 in
set_option maxRecDepth 100000 in
theorem pa_err1b (ap a ah : Option Addr) (m cm n c nh ch : Nat) (qs : List Pk) (peer had : List B8) (w : World) (hp : QL w ap m qs) (hq : BL w a n peer) (hh : BL w ah nh had) (hc : nh ≤ ch) (hm : m ≤ 100) (hn : n ≤ 100) (hnh : nh ≤ 100) (hE : ¬ Mx.pmay n had = 0) (hM : Mx.hmay had = 0) :
    Calls Try.prog 6 #[.slice ap m cm, .slice a n c, .slice ah nh ch] w fun e w' => e = .returned (.bool true) ∧ Below w.heap.size w w' := by
  have HH := hide hh
  have HP := hide hp
  have HQ := hide hq
  clear hh hp hq

  obtain ⟨E, hEE⟩ : ∃ E : Int, Hid (E = Mx.pmay n had) := ⟨_, rfl⟩
  have h0 : ¬ E = 0 := by rw [hEE.out]; exact hE
  have HE := hide hE
  have HM := hide hM
  have HV := hide (errV_not hE)
  have HVE := hide (show errV E = .iface 31 (.int .i64 E) from errV_not h0)
  clear hE hM

  go_enter Try.func6, Try.ntmps6
  go_wp2_with fail
  refine (planMay_any a ah n c nh ch had w HH.out).mono ?_
  rintro e w1 ⟨rfl, hb1⟩
  have B1 := hide hb1
  clear hb1
  rw [← hEE.out]
  go_wp2_with fail
  go_loopw [7, 8, 9] (fun e l i wr => e = .int .i64 E ∧ l = .int .i64 (-1) ∧ i = .int .i64 0 ∧ Hid (wr = w1)) (fun _ _ _ _ => 0)
  case atStart => exact ⟨rfl, rfl, rfl, rfl⟩
  case round =>
    obtain ⟨rfl, rfl, rfl, hw⟩ := hrel
    rw [hw.out]
    clear hw
    by_cases hm0 : 0 < m
    · go_wp2_with fail
      go_loopw [11, 12, 13] (fun p u i wr => p = .slice none 0 0 ∧ u = .slice none 0 0 ∧ i = .int .i64 0 ∧ Hid (wr = w1)) (fun _ _ _ _ => 0)
      case atStart => exact ⟨rfl, rfl, rfl, rfl⟩
      case round =>
        obtain ⟨rfl, rfl, rfl, hw⟩ := hrel
        rw [hw.out]
        clear hw
        go_wp2_with fail
        refine (apply_err1 ap a ah m cm n c nh ch had w1 (HH.out.later B1.out) hc HE.out).mono ?_
        rintro e wa ⟨rfl, hb⟩
        have BA := hide (B1.out.trans (hb.mono B1.out.size))
        clear hb
        rw [HV.out, ← hEE.out]
        go_wp2_with fail
        rw [← HVE.out]
        refine (is_any E E wa).mono ?_
        rintro e wb ⟨rfl, rfl⟩
        rw [show ((E : Int) == E) = true by simp]
        go_wp2_with fail
        refine (samePL_gen none none 0 0 0 0 [] [] wb (PL.nil _) (PL.nil _)).mono ?_
        rintro e wd ⟨r1, rfl, h1, q1, rfl⟩
        obtain rfl : r1 = true := h1.2 rfl
        go_wp2_with fail
        refine (sameInts_gen none none 0 0 0 0 [] [] _ (Ints.none _) (Ints.none _)).mono ?_
        rintro e we ⟨r2, rfl, h2, q2, rfl⟩
        obtain rfl : r2 = true := h2.2 rfl
        have BT := hide (below_drewN (below_drewN BA.out q1) q2)
        obtain ⟨wt, hwt⟩ : ∃ wt : World, Hid (wt = (wb.drewN q1).drewN q2) := ⟨_, rfl⟩
        rw [← hwt.out] at BT ⊢
        go_wp2_with fail

        refine (hadMay_any ah nh ch had wt (HH.out.later BT.out)).mono ?_
        rintro e u1 ⟨rfl, hb⟩
        rw [HM.out]
        have U1 := hide (BT.out.trans (hb.mono BT.out.size))
        clear hb
        go_wp2_with fail
        refine (ownBlocks_any ah nh ch had u1 (HH.out.later U1.out) (by omega)).mono ?_
        rintro e u2 ⟨v2, rfl, ho2, hb⟩
        have U2 := hide (U1.out.trans (hb.mono U1.out.size))
        obtain ⟨ao, co, rfl, _, hl2⟩ := ho2.room
        have L2 := hide hl2
        clear hb ho2 hl2
        go_wp2_with fail
        go_loopw [19, 20] (fun v t wr => ∃ (k r : Nat) (a' : Option Addr) (c' : Nat), k ≤ m ∧ t = .int .i64 (k : Int) ∧ v = .slice a' r c' ∧ Hid (r = (Mx.hadTo had (qs.take k)).length) ∧ Hid (BL wr a' r (Mx.hadTo had (qs.take k))) ∧ Hid (Below w.heap.size w wr)) (fun _ t _ => m - (intOf t).toNat)
        case atStart => exact ⟨0, had.length, ao, co, by omega, rfl, rfl, hide rfl, L2, U2⟩
        case round =>
          obtain ⟨kt, rt, at_, ct, hkt, rfl, rfl, hrt, hLt, hBt⟩ := hrel
          by_cases hlt : kt < m
          · obtain ⟨b, off, q, rfl, hb, hq, e0, e1, e2, e3, e4, e5, e6, e7, e8, e9, e10⟩ := (HP.out.later hBt.out).at_ kt hlt
            have HK := hide hq
            clear hq
            by_cases hkd : q.kind = 3
            · have HE := hide (show Mx.hadTo had (qs.take (kt + 1)) = Mx.touched (Mx.hadTo had (qs.take kt)) q.d by rw [Mx.hadTo_succ HK.out, if_pos hkd])
              rw [hkd] at e1
              go_wp2_with fail
              clear e0 e1 e2 e3 e4 e5 e6 e7 e8 e9 e10
              refine (touched_any at_ rt ct (Mx.hadTo had (qs.take kt)) q.d wr hLt.out).mono ?_
              rintro e u6 ⟨g6, c6, rfl, ho6, hb6⟩
              obtain ⟨a7, c7, hv7, _, hl7⟩ := ho6.out.room
              have B6 := hide (hBt.out.trans (hb6.out.mono hBt.out.size))
              have L7 := hide hl7
              obtain ⟨rfl, rfl⟩ : some (⟨g6, 0, none⟩ : Addr) = a7 ∧ c6 = c7 := by simpa using hv7
              clear hb6 ho6 hl7 hv7
              obtain ⟨T, hT⟩ : ∃ T : Nat, Hid (T = (Mx.touched (Mx.hadTo had (qs.take kt)) q.d).length) := ⟨_, rfl⟩
              rw [← hT.out] at L7 ⊢
              go_wp2_with fail
              go_roundw
              case rel => exact ⟨kt + 1, T, _, c6, by omega, by go_num, rfl, by rw [HE.out]; exact hT, by rw [HE.out]; exact L7, B6⟩
              case measure => simp [intOf]; omega
            · have HE := hide (show Mx.hadTo had (qs.take (kt + 1)) = Mx.hadTo had (qs.take kt) by rw [Mx.hadTo_succ HK.out, if_neg hkd])
              have hd3 : (q.kind == 3) = false := by simpa using hkd
              go_wp2_with fail
              go_roundw
              case rel => exact ⟨kt + 1, rt, at_, ct, by omega, by go_num, rfl, by rw [HE.out]; exact hrt, by rw [HE.out]; exact hLt, hBt⟩
              case measure => simp [intOf]; omega
          · have HTT := hide (show qs.take kt = qs from List.take_of_length_le (by have := HP.out.1; omega))
            rw [HTT.out] at hrt hLt
            go_wp2_with fail
            refine (had_ok ah ap nh ch m cm had qs wr (HH.out.later hBt.out) (HP.out.later hBt.out) hc HM.out).mono ?_
            rintro e u7 ⟨a8, c8, rfl, _, hl8, hb8⟩
            have L8 := hide (hLt.out.later hb8.out)
            have B8_ := hide (hBt.out.trans (hb8.out.mono hBt.out.size))
            clear hb8
            rw [← hrt.out] at hl8 ⊢
            go_wp2_with fail
            refine (is_any 0 0 u7).mono ?_
            rintro e u8 ⟨rfl, rfl⟩
            rw [show ((0 : Int) == 0) = true by rfl]
            go_wp2_with fail
            refine (sameBL_gen a8 at_ rt c8 rt ct (Mx.hadTo had qs) (Mx.hadTo had qs) u8 hl8.out L8.out).mono ?_
            rintro e u9 ⟨r9, rfl, h9, q9, rfl⟩
            obtain rfl : r9 = true := h9.2 rfl
            go_wp2_with fail
            go_ret
            exact ⟨rfl, below_drewN B8_.out _⟩
    · go_wp2_with fail
      go_loopw [11, 12, 13] (fun p u i wr => p = .slice none 0 0 ∧ u = .slice none 0 0 ∧ i = .int .i64 0 ∧ Hid (wr = w1)) (fun _ _ _ _ => 0)
      case atStart => exact ⟨rfl, rfl, rfl, rfl⟩
      case round =>
        obtain ⟨rfl, rfl, rfl, hw⟩ := hrel
        rw [hw.out]
        clear hw
        go_wp2_with fail
        refine (apply_err1 ap a ah m cm n c nh ch had w1 (HH.out.later B1.out) hc HE.out).mono ?_
        rintro e wa ⟨rfl, hb⟩
        have BA := hide (B1.out.trans (hb.mono B1.out.size))
        clear hb
        rw [HV.out, ← hEE.out]
        go_wp2_with fail
        rw [← HVE.out]
        refine (is_any E E wa).mono ?_
        rintro e wb ⟨rfl, rfl⟩
        rw [show ((E : Int) == E) = true by simp]
        go_wp2_with fail
        refine (samePL_gen none none 0 0 0 0 [] [] wb (PL.nil _) (PL.nil _)).mono ?_
        rintro e wd ⟨r1, rfl, h1, q1, rfl⟩
        obtain rfl : r1 = true := h1.2 rfl
        go_wp2_with fail
        refine (sameInts_gen none none 0 0 0 0 [] [] _ (Ints.none _) (Ints.none _)).mono ?_
        rintro e we ⟨r2, rfl, h2, q2, rfl⟩
        obtain rfl : r2 = true := h2.2 rfl
        have BT := hide (below_drewN (below_drewN BA.out q1) q2)
        obtain ⟨wt, hwt⟩ : ∃ wt : World, Hid (wt = (wb.drewN q1).drewN q2) := ⟨_, rfl⟩
        rw [← hwt.out] at BT ⊢
        go_wp2_with fail

        refine (hadMay_any ah nh ch had wt (HH.out.later BT.out)).mono ?_
        rintro e u1 ⟨rfl, hb⟩
        rw [HM.out]
        have U1 := hide (BT.out.trans (hb.mono BT.out.size))
        clear hb
        go_wp2_with fail
        refine (ownBlocks_any ah nh ch had u1 (HH.out.later U1.out) (by omega)).mono ?_
        rintro e u2 ⟨v2, rfl, ho2, hb⟩
        have U2 := hide (U1.out.trans (hb.mono U1.out.size))
        obtain ⟨ao, co, rfl, _, hl2⟩ := ho2.room
        have L2 := hide hl2
        clear hb ho2 hl2
        go_wp2_with fail
        go_loopw [19, 20] (fun v t wr => ∃ (k r : Nat) (a' : Option Addr) (c' : Nat), k ≤ m ∧ t = .int .i64 (k : Int) ∧ v = .slice a' r c' ∧ Hid (r = (Mx.hadTo had (qs.take k)).length) ∧ Hid (BL wr a' r (Mx.hadTo had (qs.take k))) ∧ Hid (Below w.heap.size w wr)) (fun _ t _ => m - (intOf t).toNat)
        case atStart => exact ⟨0, had.length, ao, co, by omega, rfl, rfl, hide rfl, L2, U2⟩
        case round =>
          obtain ⟨kt, rt, at_, ct, hkt, rfl, rfl, hrt, hLt, hBt⟩ := hrel
          by_cases hlt : kt < m
          · exact absurd hlt (by omega)
          · have HTT := hide (show qs.take kt = qs from List.take_of_length_le (by have := HP.out.1; omega))
            rw [HTT.out] at hrt hLt
            go_wp2_with fail
            refine (had_ok ah ap nh ch m cm had qs wr (HH.out.later hBt.out) (HP.out.later hBt.out) hc HM.out).mono ?_
            rintro e u7 ⟨a8, c8, rfl, _, hl8, hb8⟩
            have L8 := hide (hLt.out.later hb8.out)
            have B8_ := hide (hBt.out.trans (hb8.out.mono hBt.out.size))
            clear hb8
            rw [← hrt.out] at hl8 ⊢
            go_wp2_with fail
            refine (is_any 0 0 u7).mono ?_
            rintro e u8 ⟨rfl, rfl⟩
            rw [show ((0 : Int) == 0) = true by rfl]
            go_wp2_with fail
            refine (sameBL_gen a8 at_ rt c8 rt ct (Mx.hadTo had qs) (Mx.hadTo had qs) u8 hl8.out L8.out).mono ?_
            rintro e u9 ⟨r9, rfl, h9, q9, rfl⟩
            obtain rfl : r9 = true := h9.2 rfl
            go_wp2_with fail
            go_ret
            exact ⟨rfl, below_drewN B8_.out _⟩

set_option maxHeartbeats 20000000 in
set_option maxRecDepth 100000 in
theorem pa_err2 (ap a ah : Option Addr) (m cm n c nh ch : Nat) (qs : List Pk) (peer had : List B8) (w : World) (hp : QL w ap m qs) (hq : BL w a n peer) (hh : BL w ah nh had) (hc : nh ≤ ch) (hm : m ≤ 100) (hn : n ≤ 100) (hnh : nh ≤ 100) (hP : Mx.pmay n had = 0) (hM : Mx.hmay had = 0) (hE : ¬ Mx.qE n qs = 0) :
    Calls Try.prog 6 #[.slice ap m cm, .slice a n c, .slice ah nh ch] w fun e w' => e = .returned (.bool true) ∧ Below w.heap.size w w' := by
  have HH := hide hh
  have HP := hide hp
  have HQ := hide hq
  clear hh hp hq

  have h1 : Mx.qE n qs = 1 := by unfold Mx.qE at hE ⊢; split <;> simp_all
  have HM := hide hM
  have HP0 := hide hP
  have HE := hide hE
  have HE1 := hide h1
  have hm0 : 0 < m := by
    rcases Nat.eq_zero_or_pos m with h | h
    · exact absurd (Mx.qE_all (n := n) (k := 0) (Mx.qTo_zero _ qs) (by have := HP.out.1; omega)) hE
    · exact h
  have HVE := hide (show errV 1 = .iface 31 (.int .i64 1) from errV_not (by omega))
  clear hE hM hP h1

  go_enter Try.func6, Try.ntmps6
  go_wp2_with fail
  refine (planMay_any a ah n c nh ch had w HH.out).mono ?_
  rintro e w1 ⟨rfl, hb1⟩
  have B1 := hide hb1
  clear hb1
  rw [HP0.out]
  go_wp2_with fail
  go_loopw [7, 8, 9] (fun e l i wr => ∃ (k : Nat) (ev lv : Int), k ≤ m ∧ e = .int .i64 ev ∧ l = .int .i64 lv ∧ i = .int .i64 (k : Int) ∧ Hid (Below w.heap.size w wr) ∧ ((ev = 0 ∧ Hid (lv = Mx.qNext qs k - 1 ∧ Mx.qTo n qs k)) ∨ ev = 1)) (fun _ _ i _ => m - (intOf i).toNat)
  case atStart => exact ⟨0, 0, -1, by omega, rfl, rfl, rfl, B1, .inl ⟨rfl, rfl, Mx.qTo_zero _ _⟩⟩
  case round =>
    obtain ⟨k, ev, lv, hk, rfl, rfl, rfl, hB, hcase⟩ := hrel
    rcases hcase with ⟨rfl, hnx⟩ | rfl
    · by_cases hlt : k < m
      · obtain ⟨b, off, q, rfl, hb, hq, e0, e1, e2, e3, e4, e5, e6, e7, e8, e9, e10⟩ := (HP.out.later hB.out).at_ k hlt
        have HK := hide hq
        have HNS := hide (Mx.qNext_succ hq)
        obtain ⟨z, hz⟩ : ∃ z : Int, Hid (z = q.at_) := ⟨_, rfl⟩
        obtain ⟨kd, hkd⟩ : ∃ kd : Int, Hid (kd = q.kind) := ⟨_, rfl⟩
        rw [← hz.out] at e0 HNS
        rw [← hkd.out] at e1
        clear hq
        have B5 := hide (hB.out.alloc hB.out.size (.cells #[.int .i64 z, .int .i64 kd, .int .i64 q.from_, .int .u8 q.d.z0, .int .u8 q.d.z1, .int .u8 q.d.z2, .int .u8 q.d.z3, .int .u8 q.d.z4, .int .u8 q.d.z5, .int .u8 q.d.z6, .int .u8 q.d.z7] 59))
        by_cases hz1 : z ≤ lv
        · have hd1 : decide (z ≤ lv) = true := by simpa using hz1
          go_wp2_with fail
          go_roundw
          case rel => exact ⟨k + 1, 1, _, by omega, rfl, rfl, by go_num, B5, .inr rfl⟩
          case measure => simp [intOf]; omega

        · have hd1 : decide (z ≤ lv) = false := by simpa using hz1
          by_cases hz2 : (n : Int) ≤ z
          · have hd2 : decide ((n : Int) ≤ z) = true := by simpa using hz2
            go_wp2_with fail
            go_roundw
            case rel => exact ⟨k + 1, 1, _, by omega, rfl, rfl, by go_num, B5, .inr rfl⟩
            case measure => simp [intOf]; omega

          · have hd2 : decide ((n : Int) ≤ z) = false := by simpa using hz2
            by_cases hz3 : kd < 0
            · have hd3 : decide (kd < 0) = true := by simpa using hz3
              go_wp2_with fail
              go_roundw
              case rel => exact ⟨k + 1, 1, _, by omega, rfl, rfl, by go_num, B5, .inr rfl⟩
              case measure => simp [intOf]; omega

            · have hd3 : decide (kd < 0) = false := by simpa using hz3
              by_cases hz4 : 3 < kd
              · have hd4 : decide (3 < kd) = true := by simpa using hz4
                go_wp2_with fail
                go_roundw
                case rel => exact ⟨k + 1, 1, _, by omega, rfl, rfl, by go_num, B5, .inr rfl⟩
                case measure => simp [intOf]; omega

              · have hd4 : decide (3 < kd) = false := by simpa using hz4
                have HR2 := hide (show z = Mx.qNext qs (k + 1) - 1 ∧ Mx.qTo n qs (k + 1) from ⟨by rw [HNS.out]; omega, Mx.qTo_succ hnx.out.2 HK.out (by have h1 := hnx.out.1; rw [Mx.qOk, ← hz.out, ← hkd.out]; simp; omega)⟩)
                go_wp2_with fail
                go_roundw
                case rel => exact ⟨k + 1, 0, z, by omega, rfl, rfl, by go_num, B5, .inl ⟨rfl, HR2⟩⟩
                case measure => simp [intOf]; omega
      · exact absurd (Mx.qE_all hnx.out.2 (by have := HP.out.1; omega)) HE.out
    · by_cases hlt : k < m
      · go_wp2_with fail
        obtain ⟨wm, hwm⟩ : ∃ wm : World, Hid (wm = wr) := ⟨_, rfl⟩
        rw [← hwm.out] at hB ⊢
        go_loopw [11, 12, 13] (fun p u i wx => p = .slice none 0 0 ∧ u = .slice none 0 0 ∧ i = .int .i64 0 ∧ Hid (wx = wm)) (fun _ _ _ _ => 0)
        case atStart => exact ⟨rfl, rfl, rfl, rfl⟩
        case round =>
          obtain ⟨rfl, rfl, rfl, hw⟩ := hrel
          rw [hw.out]
          clear hw
          go_wp2_with fail
          refine (apply_err2 ap a ah m cm n c nh ch qs had wm (HP.out.later hB.out) (HH.out.later hB.out) hc (by omega) HP0.out HE.out).mono ?_
          rintro e wa ⟨rfl, hb⟩
          have BA := hide (hB.out.trans (hb.mono hB.out.size))
          clear hb
          rw [HE1.out, HVE.out]
          go_wp2_with fail
          rw [← HVE.out]
          refine (is_any 1 1 wa).mono ?_
          rintro e wb ⟨rfl, rfl⟩
          rw [show ((1 : Int) == 1) = true by simp]
          go_wp2_with fail
          refine (samePL_gen none none 0 0 0 0 [] [] wb (PL.nil _) (PL.nil _)).mono ?_
          rintro e wd ⟨r1, rfl, h1, q1, rfl⟩
          obtain rfl : r1 = true := h1.2 rfl
          go_wp2_with fail
          refine (sameInts_gen none none 0 0 0 0 [] [] _ (Ints.none _) (Ints.none _)).mono ?_
          rintro e we ⟨r2, rfl, h2, q2, rfl⟩
          obtain rfl : r2 = true := h2.2 rfl
          have BT := hide (below_drewN (below_drewN BA.out q1) q2)
          obtain ⟨wt, hwt⟩ : ∃ wt : World, Hid (wt = (wb.drewN q1).drewN q2) := ⟨_, rfl⟩
          rw [← hwt.out] at BT ⊢
          go_wp2_with fail

          refine (hadMay_any ah nh ch had wt (HH.out.later BT.out)).mono ?_
          rintro e u1 ⟨rfl, hb⟩
          rw [HM.out]
          have U1 := hide (BT.out.trans (hb.mono BT.out.size))
          clear hb
          go_wp2_with fail
          refine (ownBlocks_any ah nh ch had u1 (HH.out.later U1.out) (by omega)).mono ?_
          rintro e u2 ⟨v2, rfl, ho2, hb⟩
          have U2 := hide (U1.out.trans (hb.mono U1.out.size))
          obtain ⟨ao, co, rfl, _, hl2⟩ := ho2.room
          have L2 := hide hl2
          clear hb ho2 hl2
          go_wp2_with fail
          go_loopw [19, 20] (fun v t wr => ∃ (k r : Nat) (a' : Option Addr) (c' : Nat), k ≤ m ∧ t = .int .i64 (k : Int) ∧ v = .slice a' r c' ∧ Hid (r = (Mx.hadTo had (qs.take k)).length) ∧ Hid (BL wr a' r (Mx.hadTo had (qs.take k))) ∧ Hid (Below w.heap.size w wr)) (fun _ t _ => m - (intOf t).toNat)
          case atStart => exact ⟨0, had.length, ao, co, by omega, rfl, rfl, hide rfl, L2, U2⟩
          case round =>
            obtain ⟨kt, rt, at_, ct, hkt, rfl, rfl, hrt, hLt, hBt⟩ := hrel
            by_cases hlt : kt < m
            · obtain ⟨b, off, q, rfl, hb, hq, e0, e1, e2, e3, e4, e5, e6, e7, e8, e9, e10⟩ := (HP.out.later hBt.out).at_ kt hlt
              have HK := hide hq
              clear hq
              by_cases hkd : q.kind = 3
              · have HE := hide (show Mx.hadTo had (qs.take (kt + 1)) = Mx.touched (Mx.hadTo had (qs.take kt)) q.d by rw [Mx.hadTo_succ HK.out, if_pos hkd])
                rw [hkd] at e1
                go_wp2_with fail
                clear e0 e1 e2 e3 e4 e5 e6 e7 e8 e9 e10
                refine (touched_any at_ rt ct (Mx.hadTo had (qs.take kt)) q.d wr hLt.out).mono ?_
                rintro e u6 ⟨g6, c6, rfl, ho6, hb6⟩
                obtain ⟨a7, c7, hv7, _, hl7⟩ := ho6.out.room
                have B6 := hide (hBt.out.trans (hb6.out.mono hBt.out.size))
                have L7 := hide hl7
                obtain ⟨rfl, rfl⟩ : some (⟨g6, 0, none⟩ : Addr) = a7 ∧ c6 = c7 := by simpa using hv7
                clear hb6 ho6 hl7 hv7
                obtain ⟨T, hT⟩ : ∃ T : Nat, Hid (T = (Mx.touched (Mx.hadTo had (qs.take kt)) q.d).length) := ⟨_, rfl⟩
                rw [← hT.out] at L7 ⊢
                go_wp2_with fail
                go_roundw
                case rel => exact ⟨kt + 1, T, _, c6, by omega, by go_num, rfl, by rw [HE.out]; exact hT, by rw [HE.out]; exact L7, B6⟩
                case measure => simp [intOf]; omega
              · have HE := hide (show Mx.hadTo had (qs.take (kt + 1)) = Mx.hadTo had (qs.take kt) by rw [Mx.hadTo_succ HK.out, if_neg hkd])
                have hd3 : (q.kind == 3) = false := by simpa using hkd
                go_wp2_with fail
                go_roundw
                case rel => exact ⟨kt + 1, rt, at_, ct, by omega, by go_num, rfl, by rw [HE.out]; exact hrt, by rw [HE.out]; exact hLt, hBt⟩
                case measure => simp [intOf]; omega
            · have HTT := hide (show qs.take kt = qs from List.take_of_length_le (by have := HP.out.1; omega))
              rw [HTT.out] at hrt hLt
              go_wp2_with fail
              refine (had_ok ah ap nh ch m cm had qs wr (HH.out.later hBt.out) (HP.out.later hBt.out) hc HM.out).mono ?_
              rintro e u7 ⟨a8, c8, rfl, _, hl8, hb8⟩
              have L8 := hide (hLt.out.later hb8.out)
              have B8_ := hide (hBt.out.trans (hb8.out.mono hBt.out.size))
              clear hb8
              rw [← hrt.out] at hl8 ⊢
              go_wp2_with fail
              refine (is_any 0 0 u7).mono ?_
              rintro e u8 ⟨rfl, rfl⟩
              rw [show ((0 : Int) == 0) = true by rfl]
              go_wp2_with fail
              refine (sameBL_gen a8 at_ rt c8 rt ct (Mx.hadTo had qs) (Mx.hadTo had qs) u8 hl8.out L8.out).mono ?_
              rintro e u9 ⟨r9, rfl, h9, q9, rfl⟩
              obtain rfl : r9 = true := h9.2 rfl
              go_wp2_with fail
              go_ret
              exact ⟨rfl, below_drewN B8_.out _⟩
      · go_wp2_with fail
        obtain ⟨wm, hwm⟩ : ∃ wm : World, Hid (wm = wr) := ⟨_, rfl⟩
        rw [← hwm.out] at hB ⊢
        go_loopw [11, 12, 13] (fun p u i wx => p = .slice none 0 0 ∧ u = .slice none 0 0 ∧ i = .int .i64 0 ∧ Hid (wx = wm)) (fun _ _ _ _ => 0)
        case atStart => exact ⟨rfl, rfl, rfl, rfl⟩
        case round =>
          obtain ⟨rfl, rfl, rfl, hw⟩ := hrel
          rw [hw.out]
          clear hw
          go_wp2_with fail
          refine (apply_err2 ap a ah m cm n c nh ch qs had wm (HP.out.later hB.out) (HH.out.later hB.out) hc (by omega) HP0.out HE.out).mono ?_
          rintro e wa ⟨rfl, hb⟩
          have BA := hide (hB.out.trans (hb.mono hB.out.size))
          clear hb
          rw [HE1.out, HVE.out]
          go_wp2_with fail
          rw [← HVE.out]
          refine (is_any 1 1 wa).mono ?_
          rintro e wb ⟨rfl, rfl⟩
          rw [show ((1 : Int) == 1) = true by simp]
          go_wp2_with fail
          refine (samePL_gen none none 0 0 0 0 [] [] wb (PL.nil _) (PL.nil _)).mono ?_
          rintro e wd ⟨r1, rfl, h1, q1, rfl⟩
          obtain rfl : r1 = true := h1.2 rfl
          go_wp2_with fail
          refine (sameInts_gen none none 0 0 0 0 [] [] _ (Ints.none _) (Ints.none _)).mono ?_
          rintro e we ⟨r2, rfl, h2, q2, rfl⟩
          obtain rfl : r2 = true := h2.2 rfl
          have BT := hide (below_drewN (below_drewN BA.out q1) q2)
          obtain ⟨wt, hwt⟩ : ∃ wt : World, Hid (wt = (wb.drewN q1).drewN q2) := ⟨_, rfl⟩
          rw [← hwt.out] at BT ⊢
          go_wp2_with fail

          refine (hadMay_any ah nh ch had wt (HH.out.later BT.out)).mono ?_
          rintro e u1 ⟨rfl, hb⟩
          rw [HM.out]
          have U1 := hide (BT.out.trans (hb.mono BT.out.size))
          clear hb
          go_wp2_with fail
          refine (ownBlocks_any ah nh ch had u1 (HH.out.later U1.out) (by omega)).mono ?_
          rintro e u2 ⟨v2, rfl, ho2, hb⟩
          have U2 := hide (U1.out.trans (hb.mono U1.out.size))
          obtain ⟨ao, co, rfl, _, hl2⟩ := ho2.room
          have L2 := hide hl2
          clear hb ho2 hl2
          go_wp2_with fail
          go_loopw [19, 20] (fun v t wr => ∃ (k r : Nat) (a' : Option Addr) (c' : Nat), k ≤ m ∧ t = .int .i64 (k : Int) ∧ v = .slice a' r c' ∧ Hid (r = (Mx.hadTo had (qs.take k)).length) ∧ Hid (BL wr a' r (Mx.hadTo had (qs.take k))) ∧ Hid (Below w.heap.size w wr)) (fun _ t _ => m - (intOf t).toNat)
          case atStart => exact ⟨0, had.length, ao, co, by omega, rfl, rfl, hide rfl, L2, U2⟩
          case round =>
            obtain ⟨kt, rt, at_, ct, hkt, rfl, rfl, hrt, hLt, hBt⟩ := hrel
            by_cases hlt : kt < m
            · obtain ⟨b, off, q, rfl, hb, hq, e0, e1, e2, e3, e4, e5, e6, e7, e8, e9, e10⟩ := (HP.out.later hBt.out).at_ kt hlt
              have HK := hide hq
              clear hq
              by_cases hkd : q.kind = 3
              · have HE := hide (show Mx.hadTo had (qs.take (kt + 1)) = Mx.touched (Mx.hadTo had (qs.take kt)) q.d by rw [Mx.hadTo_succ HK.out, if_pos hkd])
                rw [hkd] at e1
                go_wp2_with fail
                clear e0 e1 e2 e3 e4 e5 e6 e7 e8 e9 e10
                refine (touched_any at_ rt ct (Mx.hadTo had (qs.take kt)) q.d wr hLt.out).mono ?_
                rintro e u6 ⟨g6, c6, rfl, ho6, hb6⟩
                obtain ⟨a7, c7, hv7, _, hl7⟩ := ho6.out.room
                have B6 := hide (hBt.out.trans (hb6.out.mono hBt.out.size))
                have L7 := hide hl7
                obtain ⟨rfl, rfl⟩ : some (⟨g6, 0, none⟩ : Addr) = a7 ∧ c6 = c7 := by simpa using hv7
                clear hb6 ho6 hl7 hv7
                obtain ⟨T, hT⟩ : ∃ T : Nat, Hid (T = (Mx.touched (Mx.hadTo had (qs.take kt)) q.d).length) := ⟨_, rfl⟩
                rw [← hT.out] at L7 ⊢
                go_wp2_with fail
                go_roundw
                case rel => exact ⟨kt + 1, T, _, c6, by omega, by go_num, rfl, by rw [HE.out]; exact hT, by rw [HE.out]; exact L7, B6⟩
                case measure => simp [intOf]; omega
              · have HE := hide (show Mx.hadTo had (qs.take (kt + 1)) = Mx.hadTo had (qs.take kt) by rw [Mx.hadTo_succ HK.out, if_neg hkd])
                have hd3 : (q.kind == 3) = false := by simpa using hkd
                go_wp2_with fail
                go_roundw
                case rel => exact ⟨kt + 1, rt, at_, ct, by omega, by go_num, rfl, by rw [HE.out]; exact hrt, by rw [HE.out]; exact hLt, hBt⟩
                case measure => simp [intOf]; omega
            · have HTT := hide (show qs.take kt = qs from List.take_of_length_le (by have := HP.out.1; omega))
              rw [HTT.out] at hrt hLt
              go_wp2_with fail
              refine (had_ok ah ap nh ch m cm had qs wr (HH.out.later hBt.out) (HP.out.later hBt.out) hc HM.out).mono ?_
              rintro e u7 ⟨a8, c8, rfl, _, hl8, hb8⟩
              have L8 := hide (hLt.out.later hb8.out)
              have B8_ := hide (hBt.out.trans (hb8.out.mono hBt.out.size))
              clear hb8
              rw [← hrt.out] at hl8 ⊢
              go_wp2_with fail
              refine (is_any 0 0 u7).mono ?_
              rintro e u8 ⟨rfl, rfl⟩
              rw [show ((0 : Int) == 0) = true by rfl]
              go_wp2_with fail
              refine (sameBL_gen a8 at_ rt c8 rt ct (Mx.hadTo had qs) (Mx.hadTo had qs) u8 hl8.out L8.out).mono ?_
              rintro e u9 ⟨r9, rfl, h9, q9, rfl⟩
              obtain rfl : r9 = true := h9.2 rfl
              go_wp2_with fail
              go_ret
              exact ⟨rfl, below_drewN B8_.out _⟩

end Go.Proofs.Ytpjgliocancgeab
