/-
  Packets applied: what the program answers (Apply).
-/
import Derived.Deep.RegionHeld3
import Derived.Test.YtpjgliocancgeacZDbox

namespace Go.Proofs.Ytpjgliocancgeac
open Go.RowKit

/-- rows of unlike things lie apart -/
theorem own_apart {w : World} {b1 b2 e1 e2 s1 s2 n1 n2 : Nat} {v1 v2 : Value} {x1 x2 : List Value} (h1 : w.ownsRow b1 e1 s1 v1 n1 x1) (h2 : w.ownsRow b2 e2 s2 v2 n2 x2) (hne : e1 ≠ e2) : v1.ownBlock = none ∨ v1.ownBlock ≠ v2.ownBlock := by
  rcases h1.2 with ⟨hv, _⟩ | ⟨g1, cap1, cur1, hv1, _, hh1, _⟩
  · left
    rw [hv]
    rfl
  · right
    rcases h2.2 with ⟨hv, _⟩ | ⟨g2, cap2, cur2, hv2, _, hh2, _⟩
    · rw [hv, hv1]
      simp [Value.ownBlock]
    · rw [hv1, hv2]
      intro e'
      have e3 : g1 = g2 := Option.some.inj e'
      subst e3
      rw [hh1] at hh2
      cases hh2
      exact hne rfl
theorem own_kept {w w' : World} {b1 b2 e1 e2 s1 s2 n1 n2 : Nat} {v1 v2 : Value} {x1 x2 : List Value} (h1 : w.ownsRow b1 e1 s1 v1 n1 x1) (h2 : w.ownsRow b2 e2 s2 v2 n2 x2) (hne : e1 ≠ e2) (hg : w.grownBy w' v2.ownBlock) : w'.ownsRow b1 e1 s1 v1 n1 x1 :=
  World.ownsRow.kept h1 hg (own_apart h1 h2 hne)

/-- one number more -/
theorem wpList_append_num {w : World} {ops : Array Oper} {rest : List Oper} {o : Oper} {a : Act} {Q : Exit → Act → World → Prop} (hgd : o.guard = none) (s x : Operand)
    (ho : o.op = .call { callee := .builtin .append, args := #[s, x], argTypes := #[22, 22] }) (base : Nat) (l : List Int) (hown : OwnI w base (a.eval s) l)
    (z : Int) (hx : a.eval x = .slice (some ⟨w.heap.size, 0, none⟩) 1 1) (h63 : l.length ≤ 1000000) (hbase : base ≤ w.heap.size)
    (h : ∀ ad c w', OwnI w' base (.slice (some ad) (l.length + 1) c) (l ++ [z]) → w.grownBy w' (a.eval s).ownBlock → wpList Try.prog ops Q rest (a.put o.dst (.slice (some ad) (l.length + 1) c)) w') :
    wpList Try.prog ops Q (o :: rest) a (w.alloc (.cells #[.int .i64 z] 3)) := by
  obtain ⟨i0, hi, hz0, hz1, hz2⟩ := info_parts Try.info3
  refine wpList_append_own _ hgd s x 22 ho base 3 i0 (.int .i64 0) 1 8 Try.underlying22 hi hz0 hz1 hz2 rfl (by decide) (a.eval s) l.length (l.map (Value.int .i64)) rfl (World.ownsRow.alloc hown _) ⟨w.heap.size, 0, none⟩ 1 1 [.int .i64 z] hx (by simp) ?_ ?_ (by unfold maxLen; omega) (by omega) (by simp; omega) ?_
  · intro j u hj
    match j, hj with
    | 0, hj => simp at hj; subst hj; simp [Addr.add]
  · intro u hu
    simp at hu; subst hu; rfl
  · intro v' w' hown' hg _
    have hI : OwnI w' base v' (l ++ [z]) := by
      unfold OwnI
      rw [List.length_append, List.map_append]
      exact hown'
    have hg' : w.grownBy w' (a.eval s).ownBlock := ⟨hg.os, hg.tape, hg.output, by have := hg.size; simp at this; omega, fun k hk hne => (hg.block k (by simp; omega) hne).trans (Below.heap_alloc w _ k hk)⟩
    rcases hown'.2 with ⟨_, hz⟩ | ⟨g, cap, cur, rfl, hbg, _⟩
    · simp at hz
    · exact h _ _ w' hI hg'
theorem OwnPL.nil (w : World) (base : Nat) : OwnPL w base (.slice none 0 0) [] := World.ownsRow_nil w base 52 9

/-- a way, and how it hears a packet -/
def Hears (fn : Nat) (recv : Value) (a ah : Option Addr) (n nh : Nat) (peer had : List B8) (q : Pk) : Prop := ∀ W : World, BL W a n peer → BL W ah nh had →
  Calls Try.prog fn #[recv, .agg #[.int .i64 q.at_, .int .i64 q.kind, .int .i64 q.from_, .int .u8 q.d.z0, .int .u8 q.d.z1, .int .u8 q.d.z2, .int .u8 q.d.z3, .int .u8 q.d.z4, .int .u8 q.d.z5, .int .u8 q.d.z6, .int .u8 q.d.z7]] W fun e w' => ∃ (d : B8) (ok : Bool), e = .returned (.tuple #[.agg #[.int .u8 d.z0, .int .u8 d.z1, .int .u8 d.z2, .int .u8 d.z3, .int .u8 d.z4, .int .u8 d.z5, .int .u8 d.z6, .int .u8 d.z7], .bool ok]) ∧ Hid (d = (Mx.saidO q peer had).getD zB ∧ ok = (Mx.saidO q peer had).isSome) ∧ Hid (Below W.heap.size W w')
theorem ansB_at (o : Option B8) : ∃ (d : B8) (ok : Bool), ansB o = .tuple #[.agg #[.int .u8 d.z0, .int .u8 d.z1, .int .u8 d.z2, .int .u8 d.z3, .int .u8 d.z4, .int .u8 d.z5, .int .u8 d.z6, .int .u8 d.z7], .bool ok] ∧ Hid (d = o.getD zB ∧ ok = o.isSome) := by
  cases o with
  | none => exact ⟨zB, false, rfl, rfl, rfl⟩
  | some d => exact ⟨d, true, rfl, rfl, rfl⟩
theorem hears_of {fn : Nat} {recv : Value} {W : World} {q : Pk} {peer had : List B8} (h : Calls Try.prog fn #[recv, .agg #[.int .i64 q.at_, .int .i64 q.kind, .int .i64 q.from_, .int .u8 q.d.z0, .int .u8 q.d.z1, .int .u8 q.d.z2, .int .u8 q.d.z3, .int .u8 q.d.z4, .int .u8 q.d.z5, .int .u8 q.d.z6, .int .u8 q.d.z7]] W fun e w' => e = .returned (ansB (Mx.saidO q peer had)) ∧ Below W.heap.size W w') :
    Calls Try.prog fn #[recv, .agg #[.int .i64 q.at_, .int .i64 q.kind, .int .i64 q.from_, .int .u8 q.d.z0, .int .u8 q.d.z1, .int .u8 q.d.z2, .int .u8 q.d.z3, .int .u8 q.d.z4, .int .u8 q.d.z5, .int .u8 q.d.z6, .int .u8 q.d.z7]] W fun e w' => ∃ (d : B8) (ok : Bool), e = .returned (.tuple #[.agg #[.int .u8 d.z0, .int .u8 d.z1, .int .u8 d.z2, .int .u8 d.z3, .int .u8 d.z4, .int .u8 d.z5, .int .u8 d.z6, .int .u8 d.z7], .bool ok]) ∧ Hid (d = (Mx.saidO q peer had).getD zB ∧ ok = (Mx.saidO q peer had).isSome) ∧ Hid (Below W.heap.size W w') := by
  refine h.mono ?_
  rintro e w' ⟨rfl, hb⟩
  obtain ⟨d, ok, h1, h2⟩ := ansB_at (Mx.saidO q peer had)
  exact ⟨d, ok, by rw [h1], h2, hb⟩

theorem hear_way (a ah : Option Addr) (n c nh ch : Nat) (peer had : List B8) (q : Pk) (h0 : 0 ≤ q.kind) (h4 : q.kind < 4) :
    ∃ (kd ty : Nat) (v recv : Value) (fn : Nat), q.kind = (kd : Int) ∧ kd < 4 ∧ ((#[.iface 198 (.agg #[]), .iface 199 (.slice a n c), .iface 199 (.slice ah nh ch), .iface 200 (.agg #[])] : Array Value)[kd]? = some (.iface ty v)) ∧ (∀ W : World, (method 341 ty v "stillwater/plan.hear").run Try.prog W = .ok (fn, recv) W) ∧ (∀ (xs : Array Value) (W : World), (callFunc fn xs).run Try.prog W = .ok (.enter fn xs) W) ∧ Hid (Hears fn recv a ah n nh peer had q) := by
  rcases (show q.kind = 0 ∨ q.kind = 1 ∨ q.kind = 2 ∨ q.kind = 3 by omega) with hkd | hkd | hkd | hkd
  · exact ⟨0, 198, .agg #[], .agg #[], 150, hkd, by omega, rfl, fun _ => by kernel_rfl, fun _ _ => by kernel_rfl, fun W _ _ => hears_of (by rw [Mx.saidO_zero hkd]; exact hear_noughts q W)⟩
  · exact ⟨1, 199, .slice a n c, .slice a n c, 152, hkd, by omega, rfl, fun _ => by kernel_rfl, fun _ _ => by kernel_rfl, fun W h _ => hears_of (by rw [Mx.saidO_peer (by omega) (by omega) (by omega)]; exact hear_listed q a n c peer W h)⟩
  · exact ⟨2, 199, .slice ah nh ch, .slice ah nh ch, 152, hkd, by omega, rfl, fun _ => by kernel_rfl, fun _ _ => by kernel_rfl, fun W _ h => hears_of (by rw [Mx.saidO_had hkd]; exact hear_listed q ah nh ch had W h)⟩
  · exact ⟨3, 200, .agg #[], .agg #[], 155, hkd, by omega, rfl, fun _ => by kernel_rfl, fun _ _ => by kernel_rfl, fun W _ _ => hears_of (by rw [Mx.saidO_lit hkd]; exact hear_literal q W)⟩
theorem ap_early {w5 w6 : World} (h : Below (w5.alloc (.cells #[.int .u8 0, .int .u8 0, .int .u8 0, .int .u8 0, .int .u8 0, .int .u8 0, .int .u8 0, .int .u8 0] 50)).drew.heap.size (w5.alloc (.cells #[.int .u8 0, .int .u8 0, .int .u8 0, .int .u8 0, .int .u8 0, .int .u8 0, .int .u8 0, .int .u8 0] 50)).drew w6) : Below w5.heap.size w5 w6 ∧ Bx w6 w5.heap.size #[.int .u8 0, .int .u8 0, .int .u8 0, .int .u8 0, .int .u8 0, .int .u8 0, .int .u8 0, .int .u8 0] 50 :=
  ⟨(below_alloc w5 (.cells #[.int .u8 0, .int .u8 0, .int .u8 0, .int .u8 0, .int .u8 0, .int .u8 0, .int .u8 0, .int .u8 0] 50)).drew.trans (h.mono (by simp)), (Bx.newD w5 #[.int .u8 0, .int .u8 0, .int .u8 0, .int .u8 0, .int .u8 0, .int .u8 0, .int .u8 0, .int .u8 0] 50).later h (by simp)⟩
theorem ap_late {w5 w6 : World} (h : Below w5.drew.heap.size w5.drew w6) : Below w5.heap.size w5 w6 := (Below.refl w5.heap.size w5).drew.trans h
theorem ap_put8 {w : World} {g : Nat} (h : Bx w g #[.int .u8 0, .int .u8 0, .int .u8 0, .int .u8 0, .int .u8 0, .int .u8 0, .int .u8 0, .int .u8 0] 50) (d : B8) : Bx (set8 w g 0 d) g #[.int .u8 d.z0, .int .u8 d.z1, .int .u8 d.z2, .int .u8 d.z3, .int .u8 d.z4, .int .u8 d.z5, .int .u8 d.z6, .int .u8 d.z7] 50 := by
  have h8 := (((((((h.set 0 (.int .u8 d.z0)).set 1 (.int .u8 d.z1)).set 2 (.int .u8 d.z2)).set 3 (.int .u8 d.z3)).set 4 (.int .u8 d.z4)).set 5 (.int .u8 d.z5)).set 6 (.int .u8 d.z6)).set 7 (.int .u8 d.z7)
  simp only [List.setIfInBounds_toArray, List.set_cons_zero, List.set_cons_succ] at h8
  unfold set8
  simp only [Nat.zero_add]
  exact h8

set_option maxHeartbeats 16000000 in
set_option maxRecDepth 100000 in
theorem apply_own (ap a ah : Option Addr) (m cm n c nh ch : Nat) (qs : List Pk) (peer had : List B8) (w : World) (hp : QL w ap m qs) (hq : BL w a n peer) (hh : BL w ah nh had) (hc : nh ≤ ch) (hn : n ≤ 1000) (hm : m ≤ 1000) (h0 : Mx.pmay n had = 0) (hE : Mx.qE n qs = 0) :
    Calls Try.prog 34 #[.slice ap m cm, .slice a n c, .slice ah nh ch] w fun e w' => ∃ a1 c1 a2 c2, e = .returned (.tuple #[.slice a1 (Mx.puts qs peer had).length c1, .slice a2 (Mx.miss qs peer had).length c2, .nilIface]) ∧ Hid (OwnPL w' w.heap.size (.slice a1 (Mx.puts qs peer had).length c1) (Mx.puts qs peer had)) ∧ Hid (OwnI w' w.heap.size (.slice a2 (Mx.miss qs peer had).length c2) (Mx.miss qs peer had)) ∧ Hid (Below w.heap.size w w') := by
  have HH := hide hh
  have HP := hide hp
  have HQ := hide hq
  have H0 := hide (show errV (Mx.pmay n had) = .nilIface by rw [h0]; rfl)
  have HE0 := hide hE
  have H1 := hide (show errV (Mx.qE n qs) = .nilIface by rw [hE]; rfl)
  clear hh hp hq hE h0
  go_enter Try.func34, Try.ntmps34
  go_wp2_with fail
  refine (checkPeer_any a ah n c nh ch had w HH.out hc).mono ?_
  rintro e w1 ⟨rfl, hb1⟩
  rw [H0.out]
  have B1 := hide hb1
  clear hb1
  go_wp2_with fail
  refine (checkPackets_any ap m cm qs n w1 (HP.out.later B1.out) hn).mono ?_
  rintro e w2 ⟨rfl, hb2⟩
  rw [H1.out]
  have B2 := hide (B1.out.trans (hb2.mono B1.out.size))
  clear hb2
  go_wp2_with fail
  refine (waysTo_any a ah n c nh ch w2).mono ?_
  rintro e w3 ⟨rfl, hb3⟩
  have B3 := hide (B2.out.trans (hb3.mono B2.out.size))
  clear hb3
  go_wp2_with fail
  have K0 := hide (Bx.new w3 #[.iface 198 (.agg #[]), .iface 199 (.slice a n c), .iface 199 (.slice ah nh ch), .iface 200 (.agg #[])] 149)
  have B4 := hide (B3.out.alloc B3.out.size (.cells #[.iface 198 (.agg #[]), .iface 199 (.slice a n c), .iface 199 (.slice ah nh ch), .iface 200 (.agg #[])] 149))
  obtain ⟨w4, hw4⟩ : ∃ w4 : World, Hid (w4 = w3.alloc (.cells #[.iface 198 (.agg #[]), .iface 199 (.slice a n c), .iface 199 (.slice ah nh ch), .iface 200 (.agg #[])] 149)) := ⟨_, rfl⟩
  rw [← hw4.out] at K0 B4 ⊢
  go_loopw [6, 7, 32] (fun v u t wr => ∃ (k r s : Nat) (a1 : Option Addr) (c1 : Nat) (a2 : Option Addr) (c2 : Nat), k ≤ m ∧ t = .int .i64 (k : Int) ∧ v = .slice a1 r c1 ∧ u = .slice a2 s c2 ∧ Hid (r = (Mx.puts (qs.take k) peer had).length) ∧ Hid (s = (Mx.miss (qs.take k) peer had).length) ∧ Hid (OwnPL wr (w3.heap.size + 1) (.slice a1 r c1) (Mx.puts (qs.take k) peer had)) ∧ Hid (OwnI wr (w3.heap.size + 1) (.slice a2 s c2) (Mx.miss (qs.take k) peer had)) ∧ Hid (Bx wr w3.heap.size #[.iface 198 (.agg #[]), .iface 199 (.slice a n c), .iface 199 (.slice ah nh ch), .iface 200 (.agg #[])] 149) ∧ Hid (Below w.heap.size w wr)) (fun _ _ t _ => m - (intOf t).toNat)
  case atStart => exact ⟨0, 0, 0, none, 0, none, 0, by omega, rfl, rfl, rfl, hide (by simp [Mx.puts]), hide (by simp [Mx.miss]), OwnPL.nil _ _, OwnI.nil _ _, K0, B4⟩
  case round =>
    obtain ⟨k, r, s, a1, c1, a2, c2, hk, rfl, rfl, rfl, hr, hs, hO, hI, hX, hB⟩ := hrel
    by_cases hlt : k < m
    · obtain ⟨b, off, q, rfl, hb, hp, e0, e1, e2, e3, e4, e5, e6, e7, e8, e9, e10⟩ := (HP.out.later hB.out).at_ k hlt
      have HK := hide hp
      obtain ⟨ha0, ha1, hq0, hq4⟩ := Mx.qE_at HE0.out hp
      clear hp
      have b5 := hide (below_alloc wr (.cells #[.int .i64 q.at_, .int .i64 q.kind, .int .i64 q.from_, .int .u8 q.d.z0, .int .u8 q.d.z1, .int .u8 q.d.z2, .int .u8 q.d.z3, .int .u8 q.d.z4, .int .u8 q.d.z5, .int .u8 q.d.z6, .int .u8 q.d.z7] 79))
      have R5 := hide (show Bx (wr.alloc (.cells #[.int .i64 q.at_, .int .i64 q.kind, .int .i64 q.from_, .int .u8 q.d.z0, .int .u8 q.d.z1, .int .u8 q.d.z2, .int .u8 q.d.z3, .int .u8 q.d.z4, .int .u8 q.d.z5, .int .u8 q.d.z6, .int .u8 q.d.z7] 79)) wr.heap.size q.arr 79 from Bx.new _ _ _)
      have hx3 := hX.out.lt
      go_wp2_with fail
      obtain ⟨w5, hw5⟩ : ∃ w5 : World, Hid (w5 = wr.alloc (.cells #[.int .i64 q.at_, .int .i64 q.kind, .int .i64 q.from_, .int .u8 q.d.z0, .int .u8 q.d.z1, .int .u8 q.d.z2, .int .u8 q.d.z3, .int .u8 q.d.z4, .int .u8 q.d.z5, .int .u8 q.d.z6, .int .u8 q.d.z7] 79)) := ⟨_, rfl⟩
      rw [← hw5.out] at b5 R5 ⊢
      have X5 := hide (hX.out.later b5.out hX.out.lt)
      have O5 := hide (show OwnPL w5 (w3.heap.size + 1) _ _ from rowKept hO.out b5.out)
      have I5 := hide (show OwnI w5 (w3.heap.size + 1) _ _ from rowKept hI.out b5.out)
      have B5 := hide (hB.out.trans (b5.out.mono hB.out.size))
      have g5 : wr.heap.size < w5.heap.size := R5.out.lt
      clear e0 e1 e2 e3 e4 e5 e6 e7 e8 e9 e10 b5
      go_cut [12, 13] (fun s12 s13 wx => ∃ (g : Nat) (d : B8) (ok : Bool), s12 = .pointer (some ⟨g, 0, none⟩) ∧ s13 = .bool ok ∧ Hid (d = (Mx.saidO q peer had).getD zB ∧ ok = (Mx.saidO q peer had).isSome) ∧ Hid (Bx wx g #[.int .u8 d.z0, .int .u8 d.z1, .int .u8 d.z2, .int .u8 d.z3, .int .u8 d.z4, .int .u8 d.z5, .int .u8 d.z6, .int .u8 d.z7] 50) ∧ Hid (Below w5.heap.size w5 wx))
      case first =>
        obtain ⟨kd, ty, v, recv, fn, hkd, hkd4, hxv, hmt, hcf, HC⟩ := hear_way a ah n c nh ch peer had q hq0 hq4
        have xk : w5.cell? ⟨w3.heap.size, kd, none⟩ = some (.iface ty v) := (X5.out.cell kd).trans hxv
        obtain ⟨q0, q1, q2, q3, q4, q5, q6, q7, q8, q9, q10⟩ := Bx.eleven R5.out
        have HKD := hide hkd
        rw [hkd] at q1
        have hkd0 : (kd : Int) < 4 := by omega
        have g35 : w3.heap.size < w5.heap.size := by omega
        have HC' := hide (fun W hw1 hw2 => by have h := HC.out W hw1 hw2; rw [HKD.out] at h; exact h)
        clear hb hq0 hq4 ha0 ha1 hk hlt hx3 hkd hxv HC
        go_region_with (
          refine (HC'.out _ ?h1 ?h2).mono ?_
          (case h1 => first | exact (HQ.out.later B5.out).later (Below.refl _ _).drew | exact (HQ.out.later B5.out).later (below_alloc _ _).drew)
          (case h2 => first | exact (HH.out.later B5.out).later (Below.refl _ _).drew | exact (HH.out.later B5.out).later (below_alloc _ _).drew)
          rintro e w6 ⟨d, ok, rfl, hd, hb6⟩
          first
          | (have hk6 := hide (ap_early hb6.out); obtain ⟨z0, z1, z2, z3, z4, z5, z6, z7⟩ := Bx.eight (x := zB) hk6.out.2; have rz := hk6.out.2.frozen)
          | (have hk6 := hide (ap_late hb6.out)))
        all_goals go_wp2_with fail
        all_goals go_meet
        all_goals refine ⟨_, d, ok, rfl, rfl, hd, ?_, ?_⟩
        all_goals first
          | exact ap_put8 hk6.out.2 d
          | exact set8_below hk6.out.1 (Nat.le_refl _) 0 d
          | exact Bx.new _ _ _
          | exact hk6.out.alloc hk6.out.size _
      case rest =>
      obtain ⟨g, d, ok, rfl, rfl, hd, hbx, hb6⟩ := hcut
      have R6 := hide (R5.out.later hb6.out R5.out.lt)
      have X6 := hide (X5.out.later hb6.out X5.out.lt)
      have O6 := hide (show OwnPL wc (w3.heap.size + 1) _ (Mx.puts (qs.take k) peer had) from rowKept O5.out hb6.out)
      have I6 := hide (show OwnI wc (w3.heap.size + 1) _ (Mx.miss (qs.take k) peer had) from rowKept I5.out hb6.out)
      have B6 := hide (B5.out.trans (hb6.out.mono B5.out.size))
      have S6 := hide (show w3.heap.size + 1 ≤ wc.heap.size from X6.out.lt)
      have L6 := hide (show (Mx.puts (qs.take k) peer had).length ≤ 1000 ∧ (Mx.miss (qs.take k) peer had).length ≤ 1000 by have h1 := Mx.puts_len (qs.take k) peer had; have h2 := Mx.miss_len (qs.take k) peer had; rw [List.length_take] at h1 h2; omega)
      have c0 : wc.cell? ⟨wr.heap.size, 0, none⟩ = some (.int .i64 q.at_) := R6.out.cell 0
      obtain ⟨d0, d1, d2, d3, d4, d5, d6, d7⟩ := hbx.out.eight
      clear hb ha0 ha1 hq0 hq4 hx3 g5
      cases ok with
      | true =>
        have HS := hide (show Mx.saidO q peer had = some d by
          obtain ⟨h1, h2⟩ := hd.out
          cases hs : Mx.saidO q peer had with
          | none => rw [hs] at h2; exact absurd h2 (by simp)
          | some y => rw [hs] at h1; rw [h1]; rfl)
        have HE := hide (Mx.puts_some HK.out HS.out)
        go_wp2_with (at_builtin; refine wpList_append_put rfl _ _ rfl (w3.heap.size + 1) (Mx.puts (qs.take k) peer had) ?o1 ⟨q.at_, d⟩ ?o2 ?o3 ?o4 ?_)
        case o1 => exact O6.out
        case o2 => rfl
        case o3 => have := L6.out.1; omega
        case o4 => exact S6.out
        intro ad cc w7 hown hgr
        have b7 := hide ((Below.refl (w3.heap.size + 1) wc).grown hgr S6.out (fun k hk => (World.ownsRow.lt O6.out k hk).1))
        have O7 := hide hown
        have I7 := hide (show OwnI w7 (w3.heap.size + 1) _ (Mx.miss (qs.take k) peer had) from own_kept I6.out O6.out (by decide) hgr)
        have X7 := hide (X6.out.later b7.out (Nat.lt_succ_self _))
        have B7 := hide (B6.out.trans (b7.out.mono (Nat.le_succ_of_le B3.out.size)))
        rw [← hr.out] at O7 ⊢
        clear hown hgr
        go_wp2_with fail
        go_roundw
        case rel => exact ⟨k + 1, r + 1, s, some ad, cc, a2, c2, by omega, by go_num, rfl, rfl, by rw [HE.out.1, List.length_append, ← hr.out]; exact hide rfl, by rw [HE.out.2]; exact hs, by rw [HE.out.1]; exact O7, by rw [HE.out.2]; exact I7, X7, B7⟩
        case measure => simp [intOf]; omega
      | false =>
        have HS := hide (show Mx.saidO q peer had = none by
          obtain ⟨h1, h2⟩ := hd.out
          cases hs : Mx.saidO q peer had with
          | none => rfl
          | some y => rw [hs] at h2; exact absurd h2 (by simp))
        have HE := hide (Mx.puts_none HK.out HS.out)
        go_wp2_with (at_builtin; refine wpList_append_num rfl _ _ rfl (w3.heap.size + 1) (Mx.miss (qs.take k) peer had) ?o1 q.at_ ?o2 ?o3 ?o4 ?_)
        case o1 => exact I6.out
        case o2 => rfl
        case o3 => have := L6.out.2; omega
        case o4 => exact S6.out
        intro ad cc w7 hown hgr
        have b7 := hide ((Below.refl (w3.heap.size + 1) wc).grown hgr S6.out (fun k hk => (World.ownsRow.lt I6.out k hk).1))
        have I7 := hide hown
        have O7 := hide (show OwnPL w7 (w3.heap.size + 1) _ (Mx.puts (qs.take k) peer had) from own_kept O6.out I6.out (by decide) hgr)
        have X7 := hide (X6.out.later b7.out (Nat.lt_succ_self _))
        have B7 := hide (B6.out.trans (b7.out.mono (Nat.le_succ_of_le B3.out.size)))
        rw [← hs.out] at I7 ⊢
        clear hown hgr
        go_wp2_with fail
        go_roundw
        case rel => exact ⟨k + 1, r, s + 1, a1, c1, some ad, cc, by omega, by go_num, rfl, rfl, by rw [HE.out.1]; exact hr, by rw [HE.out.2, List.length_append, ← hs.out]; exact hide rfl, by rw [HE.out.1]; exact O7, by rw [HE.out.2]; exact I7, X7, B7⟩
        case measure => simp [intOf]; omega
    · have HT := hide (show qs.take k = qs from List.take_of_length_le (by have := HP.out.1; omega))
      go_wp2_with fail
      rw [HT.out] at hr hs hO hI
      have hr' := hr.out
      have hs' := hs.out
      subst hr' hs'
      refine bodyPost_ret (v := .tuple #[.slice a1 (Mx.puts qs peer had).length c1, .slice a2 (Mx.miss qs peer had).length c2, .nilIface]) (by simp [results, Try.results34, go_sem]) rfl ⟨a1, c1, a2, c2, rfl, hide (World.ownsRow.mono hO.out (Nat.le_succ_of_le B3.out.size)), hide (World.ownsRow.mono hI.out (Nat.le_succ_of_le B3.out.size)), hB⟩

theorem apply_ok (ap a ah : Option Addr) (m cm n c nh ch : Nat) (qs : List Pk) (peer had : List B8) (w : World) (hp : QL w ap m qs) (hq : BL w a n peer) (hh : BL w ah nh had) (hc : nh ≤ ch) (hn : n ≤ 1000) (hm : m ≤ 1000) (h0 : Mx.pmay n had = 0) (hE : Mx.qE n qs = 0) :
    Calls Try.prog 34 #[.slice ap m cm, .slice a n c, .slice ah nh ch] w fun e w' => ∃ a1 c1 a2 c2, e = .returned (.tuple #[.slice a1 (Mx.puts qs peer had).length c1, .slice a2 (Mx.miss qs peer had).length c2, .nilIface]) ∧ Hid (PL w' a1 (Mx.puts qs peer had).length (Mx.puts qs peer had)) ∧ Hid (Ints w' a2 (Mx.miss qs peer had).length (Mx.miss qs peer had)) ∧ Hid (Below w.heap.size w w') := by
  refine (apply_own ap a ah m cm n c nh ch qs peer had w hp hq hh hc hn hm h0 hE).mono ?_
  rintro e w' ⟨a1, c1, a2, c2, rfl, hO, hI, hb⟩
  obtain ⟨a3, c3, hv, hPL, _⟩ := hO.out.pl
  obtain ⟨a4, c4, hv2, hIL⟩ := hI.out.ints
  obtain ⟨rfl, rfl⟩ : a1 = a3 ∧ c1 = c3 := by simpa using hv
  obtain ⟨rfl, rfl⟩ : a2 = a4 ∧ c2 = c4 := by simpa using hv2
  exact ⟨a1, c1, a2, c2, rfl, hPL, hIL, hb⟩
end Go.Proofs.Ytpjgliocancgeac
