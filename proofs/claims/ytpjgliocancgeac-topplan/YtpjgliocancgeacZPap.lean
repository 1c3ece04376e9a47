/-
  Packets applied: what the program answers (Apply).
-/
import Derived.Deep.RegionHeld3
import Derived.Deep.RegionHeld
import Derived.Test.YtpjgliocancgeacZDbox

namespace Go.Proofs.Ytpjgliocancgeac
open Go.RowKit

/-- rows of unlike things lie apart -/
theorem own_apart {w : World} {b1 b2 e1 e2 s1 s2 n1 n2 : Nat} {v1 v2 : Value} {x1 x2 : List Value} (h1 : w.ownsRow b1 e1 s1 v1 n1 x1) (h2 : w.ownsRow b2 e2 s2 v2 n2 x2) (hne : e1 ≠ e2) : v1.ownBlock = none ∨ v1.ownBlock ≠ v2.ownBlock := by
  rcases h1.2 with ⟨hv, _⟩ | ⟨g1, cap1, cur1, hv1, _, hh1, _⟩
  · left
    rw [hv]
    rfl
  · right
    rcases h2.2 with ⟨hv, _⟩ | ⟨g2, cap2, cur2, hv2, _, hh2, _⟩
    · rw [hv, hv1]
      simp [Value.ownBlock]
    · rw [hv1, hv2]
      intro e'
      have e3 : g1 = g2 := Option.some.inj e'
      subst e3
      rw [hh1] at hh2
      cases hh2
      exact hne rfl
theorem own_kept {w w' : World} {b1 b2 e1 e2 s1 s2 n1 n2 : Nat} {v1 v2 : Value} {x1 x2 : List Value} (h1 : w.ownsRow b1 e1 s1 v1 n1 x1) (h2 : w.ownsRow b2 e2 s2 v2 n2 x2) (hne : e1 ≠ e2) (hg : w.grownBy w' v2.ownBlock) : w'.ownsRow b1 e1 s1 v1 n1 x1 :=
  World.ownsRow.kept h1 hg (own_apart h1 h2 hne)

/-- one number more -/
theorem wpList_append_num {w : World} {ops : Array Oper} {rest : List Oper} {o : Oper} {a : Act} {Q : Exit → Act → World → Prop} (hgd : o.guard = none) (s x : Operand)
    (ho : o.op = .call { callee := .builtin .append, args := #[s, x], argTypes := #[22, 22] }) (base : Nat) (l : List Int) (hown : OwnI w base (a.eval s) l)
    (z : Int) (hx : a.eval x = .slice (some ⟨w.heap.size, 0, none⟩) 1 1) (h63 : l.length ≤ 1000000) (hbase : base ≤ w.heap.size)
    (h : ∀ ad c w', OwnI w' base (.slice (some ad) (l.length + 1) c) (l ++ [z]) → w.grownBy w' (a.eval s).ownBlock → wpList Try.prog ops Q rest (a.put o.dst (.slice (some ad) (l.length + 1) c)) w') :
    wpList Try.prog ops Q (o :: rest) a (w.alloc (.cells #[.int .i64 z] 3)) := by
  obtain ⟨i0, hi, hz0, hz1, hz2⟩ := info_parts Try.info3
  refine wpList_append_own _ hgd s x 22 ho base 3 i0 (.int .i64 0) 1 8 Try.underlying22 hi hz0 hz1 hz2 rfl (by decide) (a.eval s) l.length (l.map (Value.int .i64)) rfl (World.ownsRow.alloc hown _) ⟨w.heap.size, 0, none⟩ 1 1 [.int .i64 z] hx (by simp) ?_ ?_ (by unfold maxLen; omega) (by omega) (by simp; omega) ?_
  · intro j u hj
    match j, hj with
    | 0, hj => simp at hj; subst hj; simp [Addr.add]
  · intro u hu
    simp at hu; subst hu; rfl
  · intro v' w' hown' hg _
    have hI : OwnI w' base v' (l ++ [z]) := by
      unfold OwnI
      rw [List.length_append, List.map_append]
      exact hown'
    have hg' : w.grownBy w' (a.eval s).ownBlock := ⟨hg.os, hg.tape, hg.output, by have := hg.size; simp at this; omega, fun k hk hne => (hg.block k (by simp; omega) hne).trans (Below.heap_alloc w _ k hk)⟩
    rcases hown'.2 with ⟨_, hz⟩ | ⟨g, cap, cur, rfl, hbg, _⟩
    · simp at hz
    · exact h _ _ w' hI hg'
theorem OwnPL.nil (w : World) (base : Nat) : OwnPL w base (.slice none 0 0) [] := World.ownsRow_nil w base 52 9

/-- a way, and how it hears a packet -/
def Hears (fn : Nat) (recv : Value) (a ah : Option Addr) (n nh : Nat) (peer had : List B8) (q : Pk) : Prop := ∀ W : World, BL W a n peer → BL W ah nh had →
  Calls Try.prog fn #[recv, .agg #[.int .i64 q.at_, .int .i64 q.kind, .int .i64 q.from_, .int .u8 q.d.z0, .int .u8 q.d.z1, .int .u8 q.d.z2, .int .u8 q.d.z3, .int .u8 q.d.z4, .int .u8 q.d.z5, .int .u8 q.d.z6, .int .u8 q.d.z7]] W fun e w' => ∃ (d : B8) (ok : Bool), e = .returned (.tuple #[.agg #[.int .u8 d.z0, .int .u8 d.z1, .int .u8 d.z2, .int .u8 d.z3, .int .u8 d.z4, .int .u8 d.z5, .int .u8 d.z6, .int .u8 d.z7], .bool ok]) ∧ Hid (d = (Mx.saidO q peer had).getD zB ∧ ok = (Mx.saidO q peer had).isSome) ∧ Hid (Below W.heap.size W w')
theorem ansB_at (o : Option B8) : ∃ (d : B8) (ok : Bool), ansB o = .tuple #[.agg #[.int .u8 d.z0, .int .u8 d.z1, .int .u8 d.z2, .int .u8 d.z3, .int .u8 d.z4, .int .u8 d.z5, .int .u8 d.z6, .int .u8 d.z7], .bool ok] ∧ Hid (d = o.getD zB ∧ ok = o.isSome) := by
  cases o with
  | none => exact ⟨zB, false, rfl, rfl, rfl⟩
  | some d => exact ⟨d, true, rfl, rfl, rfl⟩
theorem hears_of {fn : Nat} {recv : Value} {W : World} {q : Pk} {peer had : List B8} (h : Calls Try.prog fn #[recv, .agg #[.int .i64 q.at_, .int .i64 q.kind, .int .i64 q.from_, .int .u8 q.d.z0, .int .u8 q.d.z1, .int .u8 q.d.z2, .int .u8 q.d.z3, .int .u8 q.d.z4, .int .u8 q.d.z5, .int .u8 q.d.z6, .int .u8 q.d.z7]] W fun e w' => e = .returned (ansB (Mx.saidO q peer had)) ∧ Below W.heap.size W w') :
    Calls Try.prog fn #[recv, .agg #[.int .i64 q.at_, .int .i64 q.kind, .int .i64 q.from_, .int .u8 q.d.z0, .int .u8 q.d.z1, .int .u8 q.d.z2, .int .u8 q.d.z3, .int .u8 q.d.z4, .int .u8 q.d.z5, .int .u8 q.d.z6, .int .u8 q.d.z7]] W fun e w' => ∃ (d : B8) (ok : Bool), e = .returned (.tuple #[.agg #[.int .u8 d.z0, .int .u8 d.z1, .int .u8 d.z2, .int .u8 d.z3, .int .u8 d.z4, .int .u8 d.z5, .int .u8 d.z6, .int .u8 d.z7], .bool ok]) ∧ Hid (d = (Mx.saidO q peer had).getD zB ∧ ok = (Mx.saidO q peer had).isSome) ∧ Hid (Below W.heap.size W w') := by
  refine h.mono ?_
  rintro e w' ⟨rfl, hb⟩
  obtain ⟨d, ok, h1, h2⟩ := ansB_at (Mx.saidO q peer had)
  exact ⟨d, ok, by rw [h1], h2, hb⟩

theorem hear_way (a ah : Option Addr) (n c nh ch : Nat) (peer had : List B8) (q : Pk) (h0 : 0 ≤ q.kind) (h4 : q.kind < 4) :
    ∃ (kd ty : Nat) (v recv : Value) (fn : Nat), q.kind = (kd : Int) ∧ kd < 4 ∧ ((#[.iface 198 (.agg #[]), .iface 199 (.slice a n c), .iface 199 (.slice ah nh ch), .iface 200 (.agg #[])] : Array Value)[kd]? = some (.iface ty v)) ∧ (∀ W : World, (method 341 ty v "stillwater/plan.hear").run Try.prog W = .ok (fn, recv) W) ∧ (∀ (xs : Array Value) (W : World), (callFunc fn xs).run Try.prog W = .ok (.enter fn xs) W) ∧ Hid (Hears fn recv a ah n nh peer had q) := by
  rcases (show q.kind = 0 ∨ q.kind = 1 ∨ q.kind = 2 ∨ q.kind = 3 by omega) with hkd | hkd | hkd | hkd
  · exact ⟨0, 198, .agg #[], .agg #[], 150, hkd, by omega, rfl, fun _ => by kernel_rfl, fun _ _ => by kernel_rfl, fun W _ _ => hears_of (by rw [Mx.saidO_zero hkd]; exact hear_noughts q W)⟩
  · exact ⟨1, 199, .slice a n c, .slice a n c, 152, hkd, by omega, rfl, fun _ => by kernel_rfl, fun _ _ => by kernel_rfl, fun W h _ => hears_of (by rw [Mx.saidO_peer (by omega) (by omega) (by omega)]; exact hear_listed q a n c peer W h)⟩
  · exact ⟨2, 199, .slice ah nh ch, .slice ah nh ch, 152, hkd, by omega, rfl, fun _ => by kernel_rfl, fun _ _ => by kernel_rfl, fun W _ h => hears_of (by rw [Mx.saidO_had hkd]; exact hear_listed q ah nh ch had W h)⟩
  · exact ⟨3, 200, .agg #[], .agg #[], 155, hkd, by omega, rfl, fun _ => by kernel_rfl, fun _ _ => by kernel_rfl, fun W _ _ => hears_of (by rw [Mx.saidO_lit hkd]; exact hear_literal q W)⟩
theorem ap_early {w5 w6 : World} (h : Below (w5.alloc (.cells #[.int .u8 0, .int .u8 0, .int .u8 0, .int .u8 0, .int .u8 0, .int .u8 0, .int .u8 0, .int .u8 0] 50)).drew.heap.size (w5.alloc (.cells #[.int .u8 0, .int .u8 0, .int .u8 0, .int .u8 0, .int .u8 0, .int .u8 0, .int .u8 0, .int .u8 0] 50)).drew w6) : Below w5.heap.size w5 w6 ∧ Bx w6 w5.heap.size #[.int .u8 0, .int .u8 0, .int .u8 0, .int .u8 0, .int .u8 0, .int .u8 0, .int .u8 0, .int .u8 0] 50 :=
  ⟨(below_alloc w5 (.cells #[.int .u8 0, .int .u8 0, .int .u8 0, .int .u8 0, .int .u8 0, .int .u8 0, .int .u8 0, .int .u8 0] 50)).drew.trans (h.mono (by simp)), (Bx.newD w5 #[.int .u8 0, .int .u8 0, .int .u8 0, .int .u8 0, .int .u8 0, .int .u8 0, .int .u8 0, .int .u8 0] 50).later h (by simp)⟩
theorem ap_late {w5 w6 : World} (h : Below w5.drew.heap.size w5.drew w6) : Below w5.heap.size w5 w6 := (Below.refl w5.heap.size w5).drew.trans h
theorem ap_put8 {w : World} {g : Nat} (h : Bx w g #[.int .u8 0, .int .u8 0, .int .u8 0, .int .u8 0, .int .u8 0, .int .u8 0, .int .u8 0, .int .u8 0] 50) (d : B8) : Bx (set8 w g 0 d) g #[.int .u8 d.z0, .int .u8 d.z1, .int .u8 d.z2, .int .u8 d.z3, .int .u8 d.z4, .int .u8 d.z5, .int .u8 d.z6, .int .u8 d.z7] 50 := by
  have h8 := (((((((h.set 0 (.int .u8 d.z0)).set 1 (.int .u8 d.z1)).set 2 (.int .u8 d.z2)).set 3 (.int .u8 d.z3)).set 4 (.int .u8 d.z4)).set 5 (.int .u8 d.z5)).set 6 (.int .u8 d.z6)).set 7 (.int .u8 d.z7)
  simp only [List.setIfInBounds_toArray, List.set_cons_zero, List.set_cons_succ] at h8
  unfold set8
  simp only [Nat.zero_add]
  exact h8

set_option maxHeartbeats 16000000 in
set_option maxRecDepth 100000 in
theorem apply_ok (ap a ah : Option Addr) (m cm n c nh ch : Nat) (qs : List Pk) (peer had : List B8) (w : World) (hp : QL w ap m qs) (hq : BL w a n peer) (hh : BL w ah nh had) (hc : nh ≤ ch) (hn : n ≤ 1000) (hm : m ≤ 1000) (h0 : Mx.pmay n had = 0) (hE : Mx.qE n qs = 0) :
    Calls Try.prog 34 #[.slice ap m cm, .slice a n c, .slice ah nh ch] w fun e w' => ∃ a1 c1 a2 c2, e = .returned (.tuple #[.slice a1 (Mx.puts qs peer had).length c1, .slice a2 (Mx.miss qs peer had).length c2, .nilIface]) ∧ Hid (PL w' a1 (Mx.puts qs peer had).length (Mx.puts qs peer had)) ∧ Hid (Ints w' a2 (Mx.miss qs peer had).length (Mx.miss qs peer had)) ∧ Hid (Below w.heap.size w w') := by
  have HH := hide hh
  have HP := hide hp
  have HQ := hide hq
  have H0 := hide (show errV (Mx.pmay n had) = .nilIface by rw [h0]; rfl)
  have HE0 := hide hE
  have H1 := hide (show errV (Mx.qE n qs) = .nilIface by rw [hE]; rfl)
  clear hh hp hq hE h0
  go_enter Try.func34, Try.ntmps34
  go_wp2_with fail
  refine (checkPeer_any a ah n c nh ch had w HH.out hc).mono ?_
  rintro e w1 ⟨rfl, hb1⟩
  rw [H0.out]
  have B1 := hide hb1
  clear hb1
  go_wp2_with fail
  refine (checkPackets_any ap m cm qs n w1 (HP.out.later B1.out) hn).mono ?_
  rintro e w2 ⟨rfl, hb2⟩
  rw [H1.out]
  have B2 := hide (B1.out.trans (hb2.mono B1.out.size))
  clear hb2
  go_wp2_with fail
  refine (waysTo_any a ah n c nh ch w2).mono ?_
  rintro e w3 ⟨rfl, hb3⟩
  have B3 := hide (B2.out.trans (hb3.mono B2.out.size))
  clear hb3
  go_wp2_with fail
  have K0 := hide (Bx.new w3 #[.iface 198 (.agg #[]), .iface 199 (.slice a n c), .iface 199 (.slice ah nh ch), .iface 200 (.agg #[])] 149)
  have B4 := hide (B3.out.alloc B3.out.size (.cells #[.iface 198 (.agg #[]), .iface 199 (.slice a n c), .iface 199 (.slice ah nh ch), .iface 200 (.agg #[])] 149))
  obtain ⟨w4, hw4⟩ : ∃ w4 : World, Hid (w4 = w3.alloc (.cells #[.iface 198 (.agg #[]), .iface 199 (.slice a n c), .iface 199 (.slice ah nh ch), .iface 200 (.agg #[])] 149)) := ⟨_, rfl⟩
  rw [← hw4.out] at K0 B4 ⊢
  go_loopw [6, 7, 32] (fun v u t wr => ∃ (k r s : Nat) (a1 : Option Addr) (c1 : Nat) (a2 : Option Addr) (c2 : Nat), k ≤ m ∧ t = .int .i64 (k : Int) ∧ v = .slice a1 r c1 ∧ u = .slice a2 s c2 ∧ Hid (r = (Mx.puts (qs.take k) peer had).length) ∧ Hid (s = (Mx.miss (qs.take k) peer had).length) ∧ Hid (OwnPL wr (w3.heap.size + 1) (.slice a1 r c1) (Mx.puts (qs.take k) peer had)) ∧ Hid (OwnI wr (w3.heap.size + 1) (.slice a2 s c2) (Mx.miss (qs.take k) peer had)) ∧ Hid (Bx wr w3.heap.size #[.iface 198 (.agg #[]), .iface 199 (.slice a n c), .iface 199 (.slice ah nh ch), .iface 200 (.agg #[])] 149) ∧ Hid (Below w.heap.size w wr)) (fun _ _ t _ => m - (intOf t).toNat)
  case atStart => exact ⟨0, 0, 0, none, 0, none, 0, by omega, rfl, rfl, rfl, hide (by simp [Mx.puts]), hide (by simp [Mx.miss]), OwnPL.nil _ _, OwnI.nil _ _, K0, B4⟩
  case round =>
    obtain ⟨k, r, s, a1, c1, a2, c2, hk, rfl, rfl, rfl, hr, hs, hO, hI, hX, hB⟩ := hrel
    by_cases hlt : k < m
    · obtain ⟨b, off, q, rfl, hb, hp, e0, e1, e2, e3, e4, e5, e6, e7, e8, e9, e10⟩ := (HP.out.later hB.out).at_ k hlt
      have HK := hide hp
      obtain ⟨ha0, ha1, hq0, hq4⟩ := Mx.qE_at HE0.out hp
      clear hp
      have b5 := hide (below_alloc wr (.cells #[.int .i64 q.at_, .int .i64 q.kind, .int .i64 q.from_, .int .u8 q.d.z0, .int .u8 q.d.z1, .int .u8 q.d.z2, .int .u8 q.d.z3, .int .u8 q.d.z4, .int .u8 q.d.z5, .int .u8 q.d.z6, .int .u8 q.d.z7] 79))
      have R5 := hide (show Bx (wr.alloc (.cells #[.int .i64 q.at_, .int .i64 q.kind, .int .i64 q.from_, .int .u8 q.d.z0, .int .u8 q.d.z1, .int .u8 q.d.z2, .int .u8 q.d.z3, .int .u8 q.d.z4, .int .u8 q.d.z5, .int .u8 q.d.z6, .int .u8 q.d.z7] 79)) wr.heap.size q.arr 79 from Bx.new _ _ _)
      have hx3 := hX.out.lt
      go_wp2_with fail
      obtain ⟨w5, hw5⟩ : ∃ w5 : World, Hid (w5 = wr.alloc (.cells #[.int .i64 q.at_, .int .i64 q.kind, .int .i64 q.from_, .int .u8 q.d.z0, .int .u8 q.d.z1, .int .u8 q.d.z2, .int .u8 q.d.z3, .int .u8 q.d.z4, .int .u8 q.d.z5, .int .u8 q.d.z6, .int .u8 q.d.z7] 79)) := ⟨_, rfl⟩
      rw [← hw5.out] at b5 R5 ⊢
      have X5 := hide (hX.out.later b5.out hX.out.lt)
      have O5 := hide (show OwnPL w5 (w3.heap.size + 1) _ _ from rowKept hO.out b5.out)
      have I5 := hide (show OwnI w5 (w3.heap.size + 1) _ _ from rowKept hI.out b5.out)
      have B5 := hide (hB.out.trans (b5.out.mono hB.out.size))
      have g5 : wr.heap.size < w5.heap.size := R5.out.lt
      clear e0 e1 e2 e3 e4 e5 e6 e7 e8 e9 e10 b5
      go_cut [12, 13] (fun s12 s13 wx => ∃ (g : Nat) (d : B8) (ok : Bool), s12 = .pointer (some ⟨g, 0, none⟩) ∧ s13 = .bool ok ∧ Hid (d = (Mx.saidO q peer had).getD zB ∧ ok = (Mx.saidO q peer had).isSome) ∧ Hid (Bx wx g #[.int .u8 d.z0, .int .u8 d.z1, .int .u8 d.z2, .int .u8 d.z3, .int .u8 d.z4, .int .u8 d.z5, .int .u8 d.z6, .int .u8 d.z7] 50) ∧ Hid (Below w5.heap.size w5 wx))
      case first =>
        obtain ⟨kd, ty, v, recv, fn, hkd, hkd4, hxv, hmt, hcf, HC⟩ := hear_way a ah n c nh ch peer had q hq0 hq4
        have xk : w5.cell? ⟨w3.heap.size, kd, none⟩ = some (.iface ty v) := (X5.out.cell kd).trans hxv
        obtain ⟨q0, q1, q2, q3, q4, q5, q6, q7, q8, q9, q10⟩ := Bx.eleven R5.out
        have HKD := hide hkd
        rw [hkd] at q1
        have hkd0 : (kd : Int) < 4 := by omega
        have g35 : w3.heap.size < w5.heap.size := by omega
        have HC' := hide (fun W hw1 hw2 => by have h := HC.out W hw1 hw2; rw [HKD.out] at h; exact h)
        clear hb hq0 hq4 ha0 ha1 hk hlt hx3 hkd hxv HC
        go_region_with (
          refine (HC'.out _ ?h1 ?h2).mono ?_
          (case h1 => first | exact (HQ.out.later B5.out).later (Below.refl _ _).drew | exact (HQ.out.later B5.out).later (below_alloc _ _).drew)
          (case h2 => first | exact (HH.out.later B5.out).later (Below.refl _ _).drew | exact (HH.out.later B5.out).later (below_alloc _ _).drew)
          rintro e w6 ⟨d, ok, rfl, hd, hb6⟩
          first
          | (have hk6 := hide (ap_early hb6.out); obtain ⟨z0, z1, z2, z3, z4, z5, z6, z7⟩ := Bx.eight (x := zB) hk6.out.2; have rz := hk6.out.2.frozen)
          | (have hk6 := hide (ap_late hb6.out)))
        all_goals go_wp2_with fail
        all_goals go_meet
        all_goals refine ⟨_, d, ok, rfl, rfl, hd, ?_, ?_⟩
        all_goals first
          | exact ap_put8 hk6.out.2 d
          | exact set8_below hk6.out.1 (Nat.le_refl _) 0 d
          | exact Bx.new _ _ _
          | exact hk6.out.alloc hk6.out.size _
      case rest =>
      obtain ⟨g, d, ok, rfl, rfl, hd, hbx, hb6⟩ := hcut
      have R6 := hide (R5.out.later hb6.out R5.out.lt)
      have X6 := hide (X5.out.later hb6.out X5.out.lt)
      have O6 := hide (show OwnPL wc (w3.heap.size + 1) _ (Mx.puts (qs.take k) peer had) from rowKept O5.out hb6.out)
      have I6 := hide (show OwnI wc (w3.heap.size + 1) _ (Mx.miss (qs.take k) peer had) from rowKept I5.out hb6.out)
      have B6 := hide (B5.out.trans (hb6.out.mono B5.out.size))
      have S6 := hide (show w3.heap.size + 1 ≤ wc.heap.size from X6.out.lt)
      have L6 := hide (show (Mx.puts (qs.take k) peer had).length ≤ 1000 ∧ (Mx.miss (qs.take k) peer had).length ≤ 1000 by have h1 := Mx.puts_len (qs.take k) peer had; have h2 := Mx.miss_len (qs.take k) peer had; rw [List.length_take] at h1 h2; omega)
      have c0 : wc.cell? ⟨wr.heap.size, 0, none⟩ = some (.int .i64 q.at_) := R6.out.cell 0
      obtain ⟨d0, d1, d2, d3, d4, d5, d6, d7⟩ := hbx.out.eight
      clear hb ha0 ha1 hq0 hq4 hx3 g5
      cases ok with
      | true =>
        have HS := hide (show Mx.saidO q peer had = some d by
          obtain ⟨h1, h2⟩ := hd.out
          cases hs : Mx.saidO q peer had with
          | none => rw [hs] at h2; exact absurd h2 (by simp)
          | some y => rw [hs] at h1; rw [h1]; rfl)
        have HE := hide (Mx.puts_some HK.out HS.out)
        go_wp2_with (at_builtin; refine wpList_append_put rfl _ _ rfl (w3.heap.size + 1) (Mx.puts (qs.take k) peer had) ?o1 ⟨q.at_, d⟩ ?o2 ?o3 ?o4 ?_)
        case o1 => exact O6.out
        case o2 => rfl
        case o3 => have := L6.out.1; omega
        case o4 => exact S6.out
        intro ad cc w7 hown hgr
        have b7 := hide ((Below.refl (w3.heap.size + 1) wc).grown hgr S6.out (fun k hk => (World.ownsRow.lt O6.out k hk).1))
        have O7 := hide hown
        have I7 := hide (show OwnI w7 (w3.heap.size + 1) _ (Mx.miss (qs.take k) peer had) from own_kept I6.out O6.out (by decide) hgr)
        have X7 := hide (X6.out.later b7.out (Nat.lt_succ_self _))
        have B7 := hide (B6.out.trans (b7.out.mono (Nat.le_succ_of_le B3.out.size)))
        rw [← hr.out] at O7 ⊢
        clear hown hgr
        go_wp2_with fail
        go_roundw
        case rel => exact ⟨k + 1, r + 1, s, some ad, cc, a2, c2, by omega, by go_num, rfl, rfl, by rw [HE.out.1, List.length_append, ← hr.out]; exact hide rfl, by rw [HE.out.2]; exact hs, by rw [HE.out.1]; exact O7, by rw [HE.out.2]; exact I7, X7, B7⟩
        case measure => simp [intOf]; omega
      | false =>
        have HS := hide (show Mx.saidO q peer had = none by
          obtain ⟨h1, h2⟩ := hd.out
          cases hs : Mx.saidO q peer had with
          | none => rfl
          | some y => rw [hs] at h2; exact absurd h2 (by simp))
        have HE := hide (Mx.puts_none HK.out HS.out)
        go_wp2_with (at_builtin; refine wpList_append_num rfl _ _ rfl (w3.heap.size + 1) (Mx.miss (qs.take k) peer had) ?o1 q.at_ ?o2 ?o3 ?o4 ?_)
        case o1 => exact I6.out
        case o2 => rfl
        case o3 => have := L6.out.2; omega
        case o4 => exact S6.out
        intro ad cc w7 hown hgr
        have b7 := hide ((Below.refl (w3.heap.size + 1) wc).grown hgr S6.out (fun k hk => (World.ownsRow.lt I6.out k hk).1))
        have I7 := hide hown
        have O7 := hide (show OwnPL w7 (w3.heap.size + 1) _ (Mx.puts (qs.take k) peer had) from own_kept O6.out I6.out (by decide) hgr)
        have X7 := hide (X6.out.later b7.out (Nat.lt_succ_self _))
        have B7 := hide (B6.out.trans (b7.out.mono (Nat.le_succ_of_le B3.out.size)))
        rw [← hs.out] at I7 ⊢
        clear hown hgr
        go_wp2_with fail
        go_roundw
        case rel => exact ⟨k + 1, r, s + 1, a1, c1, some ad, cc, by omega, by go_num, rfl, rfl, by rw [HE.out.1]; exact hr, by rw [HE.out.2, List.length_append, ← hs.out]; exact hide rfl, by rw [HE.out.1]; exact O7, by rw [HE.out.2]; exact I7, X7, B7⟩
        case measure => simp [intOf]; omega
    · have HT := hide (show qs.take k = qs from List.take_of_length_le (by have := HP.out.1; omega))
      go_wp2_with fail
      rw [HT.out] at hr hs hO hI
      obtain ⟨a3, c3, hv, hPL, _⟩ := hO.out.pl
      obtain ⟨a4, c4, hv2, hIL⟩ := hI.out.ints
      refine bodyPost_ret (v := .tuple #[.slice a1 r c1, .slice a2 s c2, .nilIface]) (by simp [results, Try.results34, go_sem]) rfl ⟨a3, c3, a4, c4, by rw [hv, hv2], hide hPL, hide hIL, hB⟩
end Go.Proofs.Ytpjgliocancgeac

/-
  TopPlan: the law.
-/
namespace Go.Proofs.Ytpjgliocancgeac
open Go.RowKit

theorem OwnBL.fzn {w : World} {base g n c : Nat} {l : List B8} (h : OwnBL w base (.slice (some ⟨g, 0, none⟩) n c) l) (hn : 0 < n) : g < w.heap.size ∧ base ≤ g ∧ l.length = n ∧ ∀ o, w.frozen? ⟨g, o, none⟩ = false := by
  obtain ⟨g', he, h1, h2, h3, h4⟩ := h.form hn
  cases he
  exact ⟨h2, h1, h3, h4⟩

set_option maxRecDepth 100000 in
theorem tplan_big (a : Option Addr) (n c : Nat) (nn at_ hd : Int) (w : World) (h : 128 < n) :
    Calls Try.prog 7 #[.slice a n c, .int .i64 nn, .int .i64 at_, .int .i64 hd] w fun e w' => e = .returned (.bool true) ∧ Below w.heap.size w w' := by
  have h1 : (128 : Int) < n := by omega
  go_enter Try.func7, Try.ntmps7
  go_wp2
  go_ret
  exact ⟨rfl, Below.refl _ _⟩

set_option maxHeartbeats 16000000 in
set_option maxRecDepth 100000 in
theorem tplan_ok (a : Option Addr) (n c : Nat) (l : List Int) (nn at_ hd : Int) (w : World) (hl : Ints w a n l) (hb : I64 l) (hn : n ≤ 128) (h1 : I64x nn) (h2 : I64x at_) (h3 : I64x hd) :
    Calls Try.prog 7 #[.slice a n c, .int .i64 nn, .int .i64 at_, .int .i64 hd] w fun e w' => e = .returned (.bool true) ∧ Below w.heap.size w w' := by
  have HL := hide hl
  have HB := hide hb
  have H1 := hide h1
  have H2 := hide h2
  have H3 := hide h3
  have hnb : ¬ (128 : Int) < n := by omega
  clear hl hb h1 h2 h3
  obtain ⟨N, hN1, hN2, hN⟩ : ∃ N : Nat, 1 ≤ N ∧ N ≤ 32 ∧ Hid (1 + Mx.pick nn 32 = (N : Int)) := ⟨(1 + Mx.pick nn 32).toNat, by have := Mx.pick_pos nn 32 (by omega); omega, by have := Mx.pick_pos nn 32 (by omega); omega, by unfold Hid; have := Mx.pick_pos nn 32 (by omega); omega⟩
  obtain ⟨P, hP1, hP⟩ : ∃ P : Nat, P ≤ 99 ∧ Hid (Mx.pick at_ 100 = (P : Int)) := ⟨(Mx.pick at_ 100).toNat, by have := Mx.pick_pos at_ 100 (by omega); omega, by unfold Hid; have := Mx.pick_pos at_ 100 (by omega); omega⟩
  obtain ⟨H, hH1, hH⟩ : ∃ H : Nat, H ≤ 8 ∧ Hid (Mx.pick hd 9 = (H : Int)) := ⟨(Mx.pick hd 9).toNat, by have := Mx.pick_pos hd 9 (by omega); omega, by unfold Hid; have := Mx.pick_pos hd 9 (by omega); omega⟩
  go_enter Try.func7, Try.ntmps7
  go_wp2_with fail
  refine (pickv_any nn 32 w H1.out.1 H1.out.2 (by omega) (by omega)).mono ?_
  rintro e w1 ⟨rfl, rfl⟩
  obtain ⟨Q, hQ⟩ : ∃ Q : Int, Hid (Q = Mx.pick nn 32) := ⟨_, rfl⟩
  rw [← hQ.out] at hN ⊢
  have hQN : 1 + Q = (N : Int) := hN.out
  go_wp2_with fail
  refine (pickv_any at_ 100 w1 H2.out.1 H2.out.2 (by omega) (by omega)).mono ?_
  rintro e w2 ⟨rfl, rfl⟩
  rw [hP.out]
  go_wp2_with fail
  refine (blocksFrom_any a n c l P N w2 HL.out HB.out (by omega) (by omega) (by omega)).mono ?_
  rintro e w3 ⟨v3, peer, rfl, hbs, _, hO3, hb3⟩
  obtain ⟨a3, c3, hv3, hB3, _⟩ := hO3.out.bl
  rw [hbs] at hv3 hB3
  subst hv3
  have BL3 := hide hB3
  have HPE := hide hbs
  have B3 := hide hb3.out
  clear hbs hB3 hQN hb3 hO3
  go_wp2_with fail
  refine (putsFrom_any a n c l (P + 3) N w3 (HL.out.later B3.out) HB.out (by omega) (by omega) (by omega)).mono ?_
  rintro e w4 ⟨v4, ps, rfl, hps, hO4, hb4⟩
  obtain ⟨a4, c4, hv4, hP4, _⟩ := hO4.out.pl
  subst hv4
  have PL4 := hide hP4
  have BL4 := hide (BL3.out.later hb4.out)
  have B4 := hide (B3.out.trans (hb4.out.mono B3.out.size))
  obtain ⟨m, hm⟩ : ∃ m : Nat, Hid (m = ps.length) := ⟨_, rfl⟩
  rw [← hm.out] at PL4 ⊢
  have hmN : m ≤ N := by rw [hm.out]; exact hps.out.1
  have IL4 := hide (HL.out.later B4.out)
  clear hP4 hb4 hO4
  go_wp2_with fail
  go_loopw [11, 12] (fun v t wr => ∃ (k r : Nat) (a' : Option Addr) (c' : Nat) (ls : List B8), k ≤ H ∧ t = .int .i64 (k : Int) ∧ v = .slice a' r c' ∧ Hid (r = ls.length) ∧ Hid (ls.length ≤ k ∧ ls.Nodup) ∧ Hid (OwnBL wr w4.heap.size (.slice a' r c') ls) ∧ Hid (Below w4.heap.size w4 wr)) (fun _ t _ => H - (intOf t).toNat)
  case atStart => exact ⟨0, 0, none, 0, [], by omega, rfl, rfl, hide rfl, ⟨Nat.le_refl _, List.nodup_nil⟩, World.ownsRow_nil _ _ 50 8, Below.refl _ _⟩
  case round =>
    obtain ⟨k, r, a', c', ls, hk, rfl, rfl, hr, hls, hO, hB⟩ := hrel
    go_wp2_with fail
    refine (pickv_any hd 9 wr H3.out.1 H3.out.2 (by omega) (by omega)).mono ?_
    rintro e wr' ⟨rfl, rfl⟩
    rw [hH.out]
    by_cases hlt : k < H
    · go_wp2_with fail
      refine (blockFrom_any a n c l (P + k) wr' (IL4.out.later hB.out) HB.out (by omega) (by omega)).mono ?_
      rintro e w5 ⟨x, _, rfl, hb5⟩
      have O5 := hide (show OwnBL w5 w4.heap.size _ ls from rowKept hO.out hb5.out)
      have B5 := hide (hB.out.trans (hb5.out.mono hB.out.size))
      clear hb5
      have b6 := hide (below_alloc w5 (.cells #[.int .u8 x.z0, .int .u8 x.z1, .int .u8 x.z2, .int .u8 x.z3, .int .u8 x.z4, .int .u8 x.z5, .int .u8 x.z6, .int .u8 x.z7] 50))
      have R6 := hide (Bx.new w5 #[.int .u8 x.z0, .int .u8 x.z1, .int .u8 x.z2, .int .u8 x.z3, .int .u8 x.z4, .int .u8 x.z5, .int .u8 x.z6, .int .u8 x.z7] 50)
      obtain ⟨w6, hw6⟩ : ∃ w6 : World, Hid (w6 = w5.alloc (.cells #[.int .u8 x.z0, .int .u8 x.z1, .int .u8 x.z2, .int .u8 x.z3, .int .u8 x.z4, .int .u8 x.z5, .int .u8 x.z6, .int .u8 x.z7] 50)) := ⟨_, rfl⟩
      rw [← hw6.out] at b6 R6
      have O6 := hide (show OwnBL w6 w4.heap.size _ ls from rowKept O5.out b6.out)
      have B6 := hide (B5.out.trans (b6.out.mono B5.out.size))
      obtain ⟨a6, c6, hv6, hL6, _⟩ := O6.out.bl
      rw [← hr.out] at hv6 hL6
      obtain ⟨rfl, rfl⟩ : a' = a6 ∧ c' = c6 := by simpa using hv6
      have L6 := hide hL6
      clear hL6 hv6
      go_wp2_with fail
      rw [← hw6.out]
      refine (first_any a' r c' ls x w6 L6.out).mono ?_
      rintro e w7 ⟨rfl, hb7⟩
      have O7 := hide (show OwnBL w7 w4.heap.size _ ls from rowKept O6.out hb7)
      have R7 := hide (R6.out.later hb7 R6.out.lt)
      have B7 := hide (B6.out.trans (hb7.mono B6.out.size))
      clear hb7
      obtain ⟨F, hF⟩ : ∃ F : Int, Hid (F = Mx.firstI ls x) := ⟨_, rfl⟩
      rw [← hF.out]
      obtain ⟨y0, y1, y2, y3, y4, y5, y6, y7⟩ := R7.out.eight
      by_cases hF0 : F < 0
      · have HX := hide (show x ∉ ls by
          intro hx
          have h1 := Mx.firstI_nonneg ls x
          rw [← hF.out] at h1
          rw [decide_eq_true hx] at h1
          have h2 : 0 ≤ F := by simpa using h1
          omega)
        have S7 := hide B7.out.size
        go_wp2_with (at_builtin; refine wpList_append_blk rfl _ _ rfl w4.heap.size ls ?o1 x ?o2 ?o3 ?o4 ?_)
        case o1 => exact O7.out
        case o2 => rfl
        case o3 => have := hls.out.1; omega
        case o4 => exact S7.out
        intro g c2 w8 hg hc2 hown hgr
        have O8 := hide hown
        have B8_ := hide (B7.out.grown hgr S7.out (fun k hk => (World.ownsRow.lt O7.out k hk).1))
        rw [← hr.out] at O8 ⊢
        clear hown hgr hg hc2
        go_wp2_with fail
        go_roundw
        case rel => exact ⟨k + 1, r + 1, _, c2, ls ++ [x], by omega, by go_num, rfl, by rw [List.length_append, ← hr.out]; exact hide rfl, ⟨by rw [List.length_append]; have := hls.out.1; simp; omega, by rw [List.nodup_append]; exact ⟨hls.out.2, by simp, fun y hy z hz => by simp at hz; rw [hz]; exact fun e => HX.out (e ▸ hy)⟩⟩, O8, B8_⟩
        case measure => simp [intOf]; omega
      · go_wp2_with fail
        go_roundw
        case rel => exact ⟨k + 1, r, a', c', ls, by omega, by go_num, rfl, hr, ⟨by have := hls.out.1; omega, hls.out.2⟩, O7, B7⟩
        case measure => simp [intOf]; omega
    · obtain ⟨ax, cx, hvx, hrc, hLx⟩ := hO.out.room
      rw [← hr.out] at hvx hrc hLx
      obtain ⟨rfl, rfl⟩ : a' = ax ∧ c' = cx := by simpa using hvx
      have LL := hide hLx
      have HRC := hide hrc
      have hr8 : r ≤ 8 := by rw [hr.out]; have := hls.out.1; omega
      have HPM := hide (show Mx.pmay N ls = 0 by rw [Mx.pmay, if_neg (by omega), Mx.hmay_iff]; exact ⟨by have := hls.out.1; omega, hls.out.2⟩)
      have HRE := hide (Mx.riseE_of hps.out.2)
      have HQE := hide (Mx.qE_pks peer ls hps.out.2)
      clear hvx hrc hLx
      obtain ⟨wv, hwv⟩ : ∃ wv : World, Hid (wv = wr') := ⟨_, rfl⟩
      rw [← hwv.out] at hB LL ⊢
      go_wp2_with fail
      refine (packets_ok a4 a3 a' m c4 N c3 r c' ps peer ls wv (PL4.out.later hB.out) (BL4.out.later hB.out) LL.out HRC.out (by omega) (by omega) HPM.out HRE.out).mono ?_
      rintro e w5 ⟨a5, c5, rfl, hQ5, hb5⟩
      have B5 := hide (hB.out.trans (hb5.out.mono hB.out.size))
      have L5 := hide (LL.out.later hb5.out)
      obtain ⟨K, hK⟩ : ∃ K : Nat, Hid (K = (Mx.pks peer ls ps).length) := ⟨_, rfl⟩
      rw [← hK.out] at hQ5 ⊢
      have hKm : K ≤ m := by have := Mx.pks_len peer ls ps; rw [hK.out, hm.out]; exact this
      have hdK : decide ((m : Int) < (K : Int)) = false := by simp; omega
      clear hb5
      go_wp2_with fail
      refine (apply_ok a5 a3 a' K c5 N c3 r c' (Mx.pks peer ls ps) peer ls w5 hQ5.out (BL4.out.later B5.out) L5.out HRC.out (by omega) (by omega) HPM.out HQE.out).mono ?_
      rintro e w6 ⟨a6, c6, a7, c7, rfl, hS6, hM6, hb6⟩
      have B6 := hide (B5.out.trans (hb6.out.mono B5.out.size))
      have L6 := hide (L5.out.later hb6.out)
      have Q6 := hide (hQ5.out.later hb6.out)
      have hSK : (ps.filter (Mx.sent peer)).length = K := by rw [hK.out, Mx.pks_filter, List.length_map]
      obtain ⟨ss, hss⟩ : ∃ ss : List Pt, Hid (ss = ps.filter (Mx.sent peer)) := ⟨_, rfl⟩
      rw [(Mx.puts_pks peer ls ps).1, ← hss.out] at hS6
      rw [(Mx.puts_pks peer ls ps).1, (Mx.puts_pks peer ls ps).2, ← hss.out]
      rw [← hss.out] at hSK
      rw [hSK] at hS6 ⊢
      rw [show ([] : List Int).length = 0 from rfl]
      have HSI := hide (show ∀ p ∈ ss, 0 ≤ p.at_ ∧ p.at_ < (N : Int) from by rw [hss.out]; exact Mx.riseFrom_at (Mx.riseFrom_filter _ (Mx.riseFrom_of hps.out.2)))
      have HPI := hide (show ∀ p ∈ ps, 0 ≤ p.at_ ∧ p.at_ < (N : Int) from Mx.riseFrom_at (Mx.riseFrom_of hps.out.2))
      have HSL := hide hSK
      clear hb6 hM6 hSK
      go_wp2_with fail
      have BP6 := hide (BL4.out.later B6.out)
      refine (ownBlocks_any a3 N c3 peer w6 BP6.out (by omega)).mono ?_
      rintro e w7 ⟨v7, rfl, hO7, hb7⟩
      obtain ⟨a8, c8, hv8, _⟩ := hO7.bl
      rw [HPE.out] at hv8
      subst hv8
      obtain ⟨g, rfl, _⟩ := hO7.form (by omega)
      have O7 := hide hO7
      have B67 := hide hb7
      clear hO7 hb7
      go_wp2_with fail
      have hg6 : w6.heap.size ≤ g := (O7.out.fzn (by omega)).2.1
      go_loopw [19] (fun t wx => ∃ i : Nat, i ≤ K ∧ t = .int .i64 (i : Int) ∧ Hid (OwnBL wx w6.heap.size (.slice (some ⟨g, 0, none⟩) N c8) ((ss.take i).foldl Mx.putIn peer)) ∧ Hid (Below w6.heap.size w6 wx)) (fun t _ => K - (intOf t).toNat)
      case atStart => exact ⟨0, by omega, rfl, O7, B67⟩
      case round =>
        obtain ⟨i, hi, rfl, hOx, hBx⟩ := hrel
        by_cases hlt2 : i < K
        · obtain ⟨b, off, p0, rfl, hb, _⟩ := hS6.out.at_ i hlt2
          obtain ⟨b2, off2, p, hab, _, hp, e0, e1, e2, e3, e4, e5, e6, e7, e8⟩ := (hS6.out.later hBx.out).at_ i hlt2
          cases hab
          have hin := HSI.out p (List.mem_of_getElem? hp)
          obtain ⟨j, hj⟩ := Int.eq_ofNat_of_zero_le hin.1
          have HXK := hide hp
          have HJ := hide hj
          rw [hj] at e0 hin
          have hin' : (j : Int) < N := hin.2
          have hin0 : (0 : Int) ≤ (j : Int) := hin.1
          obtain ⟨yy, _, y0, y1, y2, y3, y4, y5, y6, y7⟩ := hOx.out.at_ j (by omega)
          obtain ⟨hgl, hgb, hln, yz⟩ := hOx.out.fzn (by omega)
          have n3 : ¬ g = b := by omega
          have HNX := hide (hOx.out.put j (by rw [hln]; omega) p.d)
          have HN2 := hide (show OwnBL (set8 wr g (j * 8) p.d).drew w6.heap.size _ ((ss.take (i + 1)).foldl Mx.putIn peer) ∧ Below w6.heap.size w6 (set8 wr g (j * 8) p.d).drew from by
            rw [Mx.foldl_succ _ HXK.out, Mx.putIn, HJ.out, Int.toNat_natCast]
            exact ⟨World.ownsRow.drew HNX.out, (set8_below hBx.out hgb (j * 8) p.d).drew⟩)
          clear HNX hp hj hin
          have hd0 : decide ((j : Int) < 0) = false := by simp
          have hd1 : decide ((N : Int) ≤ (j : Int)) = false := by simp; omega
          go_wp2_with fail
          go_region_held (fun w' => w'.cell? ⟨b, off + i * 9, none⟩ = some (.int .i64 (j : Int)) ∧ w'.cell? ⟨b, off + i * 9 + 1, none⟩ = some (.int .u8 p.d.z0) ∧ w'.cell? ⟨b, off + i * 9 + 2, none⟩ = some (.int .u8 p.d.z1) ∧ w'.cell? ⟨b, off + i * 9 + 3, none⟩ = some (.int .u8 p.d.z2) ∧ w'.cell? ⟨b, off + i * 9 + 4, none⟩ = some (.int .u8 p.d.z3) ∧ w'.cell? ⟨b, off + i * 9 + 5, none⟩ = some (.int .u8 p.d.z4) ∧ w'.cell? ⟨b, off + i * 9 + 6, none⟩ = some (.int .u8 p.d.z5) ∧ w'.cell? ⟨b, off + i * 9 + 7, none⟩ = some (.int .u8 p.d.z6) ∧ w'.cell? ⟨b, off + i * 9 + 8, none⟩ = some (.int .u8 p.d.z7))
            (simp [*, World.cell?_setCell_far]) (fail)
          go_wp2_with fail
          go_roundw
          case rel => exact ⟨i + 1, by omega, by go_num, HN2.out.1, HN2.out.2⟩
          case measure => simp [intOf]; omega
        · have hSF : Hid (OwnBL wr w6.heap.size (.slice (some ⟨g, 0, none⟩) N c8) (ps.foldl Mx.putIn peer)) := by
            have h := hOx.out
            rw [List.take_of_length_le (by rw [HSL.out]; omega), hss.out, Mx.putIn_all hps.out.2] at h
            exact h
          obtain ⟨w8, hw8⟩ : ∃ w8 : World, Hid (w8 = wr) := ⟨_, rfl⟩
          rw [← hw8.out] at hBx hSF ⊢
          clear hOx
          have B8_ := hide (B6.out.trans (hBx.out.mono B6.out.size))
          go_wp2_with fail
          refine (ownBlocks_any a3 N c3 peer w8 (BL4.out.later B8_.out) (by omega)).mono ?_
          rintro e w9 ⟨v9, rfl, hO9, hb9⟩
          obtain ⟨a9, c9, hv9, _⟩ := hO9.bl
          rw [HPE.out] at hv9
          subst hv9
          obtain ⟨h, rfl, _⟩ := hO9.form (by omega)
          have O9 := hide hO9
          have B89 := hide hb9
          clear hO9 hb9
          go_wp2_with fail
          have hh8 : w8.heap.size ≤ h := (O9.out.fzn (by omega)).2.1
          have P8 := hide (PL4.out.later B8_.out)
          go_loopw [21] (fun t wx => ∃ i : Nat, i ≤ m ∧ t = .int .i64 (i : Int) ∧ Hid (OwnBL wx w8.heap.size (.slice (some ⟨h, 0, none⟩) N c9) ((ps.take i).foldl Mx.putIn peer)) ∧ Hid (Below w8.heap.size w8 wx)) (fun t _ => m - (intOf t).toNat)
          case atStart => exact ⟨0, by omega, rfl, O9, B89⟩
          case round =>
            obtain ⟨i, hi, rfl, hOx, hBx2⟩ := hrel
            by_cases hlt3 : i < m
            · obtain ⟨b, off, p0, rfl, hb, _⟩ := P8.out.at_ i hlt3
              obtain ⟨b2, off2, p, hab, _, hp, e0, e1, e2, e3, e4, e5, e6, e7, e8⟩ := (P8.out.later hBx2.out).at_ i hlt3
              cases hab
              have hin := HPI.out p (List.mem_of_getElem? hp)
              obtain ⟨j, hj⟩ := Int.eq_ofNat_of_zero_le hin.1
              have HXK := hide hp
              have HJ := hide hj
              rw [hj] at e0 hin
              have hin' : (j : Int) < N := hin.2
              have hin0 : (0 : Int) ≤ (j : Int) := hin.1
              obtain ⟨yy, _, y0, y1, y2, y3, y4, y5, y6, y7⟩ := hOx.out.at_ j (by omega)
              obtain ⟨hgl, hgb, hln, yz⟩ := hOx.out.fzn (by omega)
              have n3 : ¬ h = b := by omega
              have HNX := hide (hOx.out.put j (by rw [hln]; omega) p.d)
              have HN2 := hide (show OwnBL (set8 wr h (j * 8) p.d).drew w8.heap.size _ ((ps.take (i + 1)).foldl Mx.putIn peer) ∧ Below w8.heap.size w8 (set8 wr h (j * 8) p.d).drew from by
                rw [Mx.foldl_succ _ HXK.out, Mx.putIn, HJ.out, Int.toNat_natCast]
                exact ⟨World.ownsRow.drew HNX.out, (set8_below hBx2.out hgb (j * 8) p.d).drew⟩)
              clear HNX hp hj hin
              go_wp2_with fail
              go_region_held (fun w' => w'.cell? ⟨b, off + i * 9, none⟩ = some (.int .i64 (j : Int)) ∧ w'.cell? ⟨b, off + i * 9 + 1, none⟩ = some (.int .u8 p.d.z0) ∧ w'.cell? ⟨b, off + i * 9 + 2, none⟩ = some (.int .u8 p.d.z1) ∧ w'.cell? ⟨b, off + i * 9 + 3, none⟩ = some (.int .u8 p.d.z2) ∧ w'.cell? ⟨b, off + i * 9 + 4, none⟩ = some (.int .u8 p.d.z3) ∧ w'.cell? ⟨b, off + i * 9 + 5, none⟩ = some (.int .u8 p.d.z4) ∧ w'.cell? ⟨b, off + i * 9 + 6, none⟩ = some (.int .u8 p.d.z5) ∧ w'.cell? ⟨b, off + i * 9 + 7, none⟩ = some (.int .u8 p.d.z6) ∧ w'.cell? ⟨b, off + i * 9 + 8, none⟩ = some (.int .u8 p.d.z7))
                (simp [*, World.cell?_setCell_far]) (fail)
              go_wp2_with fail
              go_roundw
              case rel => exact ⟨i + 1, by omega, by go_num, HN2.out.1, HN2.out.2⟩
              case measure => simp [intOf]; omega
            · have hWF : Hid (OwnBL wr w8.heap.size (.slice (some ⟨h, 0, none⟩) N c9) (ps.foldl Mx.putIn peer)) := by
                have h := hOx.out
                rw [List.take_of_length_le (by rw [← hm.out]; omega)] at h
                exact h
              have hNF : Hid (OwnBL wr w6.heap.size (.slice (some ⟨g, 0, none⟩) N c8) (ps.foldl Mx.putIn peer)) := rowKept hSF.out hBx2.out
              obtain ⟨w10, hw10⟩ : ∃ w10 : World, Hid (w10 = wr) := ⟨_, rfl⟩
              rw [← hw10.out] at hBx2 hWF hNF ⊢
              clear hOx
              have B10 := hide (B8_.out.trans (hBx2.out.mono B8_.out.size))
              have B610 := hide (hBx.out.trans (hBx2.out.mono hBx.out.size))
              go_wp2_with fail
              go_loopw [22] (fun t wx => ∃ i : Nat, i ≤ K ∧ t = .int .i64 (i : Int) ∧ Hid (Below w10.heap.size w10 wx)) (fun t _ => K - (intOf t).toNat)
              case atStart => exact ⟨0, by omega, rfl, Below.refl _ _⟩
              case round =>
                obtain ⟨i, hi, rfl, hBz⟩ := hrel
                by_cases hlt4 : i < K
                · have B6z := hide (B610.out.trans (hBz.out.mono B610.out.size))
                  obtain ⟨b, off, q, rfl, hb, hq, e0, e1, e2, e3, e4, e5, e6, e7, e8, e9, e10⟩ := (Q6.out.later B6z.out).at_ i hlt4
                  by_cases hkd : q.kind = 3
                  · have hq2 : ∃ p, q = Mx.pkOf p peer ls := by
                      rw [Mx.pks_filter] at hq
                      obtain ⟨p, _, hp⟩ := List.mem_map.1 (List.mem_of_getElem? hq)
                      exact ⟨p, hp.symm⟩
                    obtain ⟨p, hp⟩ := hq2
                    have hlit := Mx.pkOf_lit (p := p) (peer := peer) (had := ls) (by rw [← hp]; exact hkd)
                    rw [← hp] at hlit
                    obtain ⟨hd1, hd2, hd3, hd4⟩ := hlit
                    rw [← hd1] at hd2 hd3 hd4
                    have heq := equal_zB q.d
                    rw [decide_eq_false hd2] at heq
                    have HD3 := hide (show Mx.firstI peer q.d < 0 by
                      have h1 := Mx.firstI_nonneg peer q.d
                      rw [decide_eq_false hd3] at h1
                      simpa using h1)
                    have HD4 := hide (show Mx.firstI ls q.d < 0 by
                      have h1 := Mx.firstI_nonneg ls q.d
                      rw [decide_eq_false hd4] at h1
                      simpa using h1)
                    rw [hkd] at e1
                    have HQI := hide hq
                    clear hd1 hd2 hd3 hd4 hp hq
                    go_wp2_with fail
                    refine (first_any a3 N c3 peer q.d wr ((BP6.out.later B6z.out))).mono ?_
                    rintro e u1 ⟨rfl, hb1⟩
                    obtain ⟨F1, hF1⟩ : ∃ F : Int, Hid (F = Mx.firstI peer q.d) := ⟨_, rfl⟩
                    rw [← hF1.out] at HD3 ⊢
                    have hF10 : F1 < 0 := HD3.out
                    have BU1 := hide (hBz.out.trans (hb1.mono hBz.out.size))
                    have B6u := hide (B6z.out.trans (hb1.mono B6z.out.size))
                    clear hb1
                    obtain ⟨b', off', q', hab', _, hq', f0, f1, f2, f3, f4, f5, f6, f7, f8, f9, f10⟩ := (Q6.out.later B6u.out).at_ i hlt4
                    cases hab'
                    obtain rfl : q' = q := Option.some.inj (hq'.symm.trans HQI.out)
                    clear e0 e1 e2 e3 e4 e5 e6 e7 e8 e9 e10 hq' hb
                    go_wp2_with fail
                    refine (first_any a' r c' ls q'.d u1 (L6.out.later B6u.out)).mono ?_
                    rintro e u2 ⟨rfl, hb2⟩
                    obtain ⟨F2, hF2⟩ : ∃ F : Int, Hid (F = Mx.firstI ls q'.d) := ⟨_, rfl⟩
                    rw [← hF2.out] at HD4 ⊢
                    have hF20 : F2 < 0 := HD4.out
                    have BU2 := hide (BU1.out.trans (hb2.mono BU1.out.size))
                    clear hb2
                    go_wp2_with fail
                    go_roundw
                    case rel => exact ⟨i + 1, by omega, by go_num, BU2⟩
                    case measure => simp [intOf]; omega
                  · have hd3 : (q.kind == 3) = false := by simpa using hkd
                    go_wp2_with fail
                    go_roundw
                    case rel => exact ⟨i + 1, by omega, by go_num, hBz⟩
                    case measure => simp [intOf]; omega
                · go_wp2_with fail
                  refine (sameBL_gen (some ⟨g, 0, none⟩) (some ⟨h, 0, none⟩) N c8 N c9 _ _ wr (hNF.out.asBL.later hBz.out) (hWF.out.asBL.later hBz.out)).mono ?_
                  rintro e u9 ⟨r9, rfl, h9, q9, rfl⟩
                  obtain rfl : r9 = true := h9.2 rfl
                  go_wp2_with fail
                  go_ret
                  exact ⟨rfl, below_drewN (B4.out.trans ((B10.out.trans (hBz.out.mono B10.out.size)).mono B4.out.size)) _⟩

theorem tplan_any (a : Option Addr) (n c : Nat) (l : List Int) (nn at_ hd : Int) (w : World) (hl : Ints w a n l) (hb : I64 l) (h1 : I64x nn) (h2 : I64x at_) (h3 : I64x hd) :
    Calls Try.prog 7 #[.slice a n c, .int .i64 nn, .int .i64 at_, .int .i64 hd] w fun e w' => e = .returned (.bool true) ∧ Below w.heap.size w w' := by
  by_cases h : 128 < n
  · exact tplan_big a n c nn at_ hd w h
  · exact tplan_ok a n c l nn at_ hd w hl hb (by omega) h1 h2 h3
end Go.Proofs.Ytpjgliocancgeac
