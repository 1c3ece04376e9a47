/-
  What stands ahead of the seal, read by the program (readBody).
-/
import Derived.Test.YtengpogcdnbabacLoopB
namespace Go.Proofs.Ytengpogcdnbabac
open Go.RowKit Go.Shelf
attribute [local go_sem] Oper.semAt_some

/-- what readBody hands back -/
def BodyTold (w w' : World) (l : List Int) (e : Ending) : Prop :=
  (∃ kind nums nb bs a1 c1 a2 c2, e = .returned (.tuple #[.agg #[.int .i64 kind, .slice a1 nums.length c1, .slice a2 nb c2], .bool true]) ∧ Mx.IsBody l kind nums nb bs ∧ Ints w' a1 nums.length nums ∧ Blks w' a2 nb bs ∧ (∀ p, a1 = some p → w.heap.size ≤ p.block) ∧ (∀ p, a2 = some p → w.heap.size ≤ p.block) ∧ Below w.heap.size w w') ∨
  (e = .returned (.tuple #[.agg #[.int .i64 0, .slice none 0 0, .slice none 0 0], .bool false]) ∧ (∀ kind nums nb bs, ¬ Mx.IsBody l kind nums nb bs) ∧ Below w.heap.size w w')

theorem wpListIn_append_int {F : Fence} {fuel : Nat} {w : World} {ops : Array Oper} {rest : List Oper} {o : Oper} {a : Act} {Q : Exit → Act → World → Prop} (hgd : o.guard = none) (s x : Operand)
    (ho : o.op = .call { callee := .builtin .append, args := #[s, x], argTypes := #[22, 22] }) (base : Nat) (l : List Int) (hown : OwnI w base (a.eval s) l)
    (z : Int) (hx : a.eval x = .slice (some ⟨w.heap.size, 0, none⟩) 1 1) (h63 : l.length ≤ 1000000) (hbase : base ≤ w.heap.size)
    (h : ∀ ad c w', OwnI w' base (.slice (some ad) (l.length + 1) c) (l ++ [z]) → Below base w w' → base ≤ ad.block → wpListIn F fuel Try.prog ops Q rest (a.put o.dst (.slice (some ad) (l.length + 1) c)) w') :
    wpListIn F fuel Try.prog ops Q (o :: rest) a (w.alloc (.cells #[.int .i64 z] 3)) := by
  obtain ⟨i0, hi, hz0, hz1, hz2⟩ := info_parts Try.info3
  refine wpListIn_append_own _ hgd s x 22 ho base 3 i0 (.int .i64 0) 1 8 Try.underlying22 hi hz0 hz1 hz2 rfl (by decide) (a.eval s) l.length (l.map (Value.int .i64)) rfl (World.ownsRow.alloc hown _) ⟨w.heap.size, 0, none⟩ 1 1 [.int .i64 z] hx (by simp) ?_ ?_ (by unfold maxLen; omega) (by omega) (by simp; omega) ?_
  · intro j u hj
    match j, hj with
    | 0, hj => simp at hj; subst hj; simp [Addr.add]
  · intro u hu
    simp at hu; subst hu; rfl
  · intro v' w' hown' hg _
    have hb : Below base w w' := ((Below.refl base w).alloc hbase _).grown hg (by simp; omega) (fun k hk => (World.ownsRow.lt hown k hk).1)
    have hI : OwnI w' base v' (l ++ [z]) := by
      unfold OwnI
      rw [List.length_append, List.map_append]
      exact hown'
    rcases hown'.2 with ⟨_, hz⟩ | ⟨g, cap, cur, rfl, hbg, _⟩
    · simp at hz
    · exact h _ _ w' hI hb hbg

theorem wpListIn_append_block {F : Fence} {fuel : Nat} {w : World} {ops : Array Oper} {rest : List Oper} {o : Oper} {a : Act} {Q : Exit → Act → World → Prop} (hgd : o.guard = none) (s x : Operand)
    (ho : o.op = .call { callee := .builtin .append, args := #[s, x], argTypes := #[23, 23] }) (base n : Nat) (bs : List Int) (hown : OwnB w base (a.eval s) n bs)
    (zs : List Int) (hz8 : zs.length = 8) (arr : Array Value) (harr : arr = (zs.map (Value.int .u8)).toArray) (hx : a.eval x = .slice (some ⟨w.heap.size, 0, none⟩) 1 1) (h63 : n ≤ 1000000) (hbase : base ≤ w.heap.size)
    (h : ∀ ad c w', OwnB w' base (.slice (some ad) (n + 1) c) (n + 1) (bs ++ zs) → Below base w w' → base ≤ ad.block → wpListIn F fuel Try.prog ops Q rest (a.put o.dst (.slice (some ad) (n + 1) c)) w') :
    wpListIn F fuel Try.prog ops Q (o :: rest) a (w.alloc (.cells arr 50)) := by
  obtain ⟨i0, hi, hz0, hz1, hz2⟩ := info_parts Try.info50
  refine wpListIn_append_own _ hgd s x 23 ho base 50 i0 _ 8 8 Try.underlying23 hi hz0 hz1 hz2 rfl (by decide) (a.eval s) n (bs.map (Value.int .u8)) rfl (World.ownsRow.alloc hown.2 _) ⟨w.heap.size, 0, none⟩ 1 1 (zs.map (Value.int .u8)) hx (by simp [hz8]) (cell_newsT w zs arr 50 harr) ?_ (by unfold maxLen; omega) (by omega) (by simp; omega) ?_
  · intro u hu
    obtain ⟨z, _, rfl⟩ := List.mem_map.1 hu
    rfl
  · intro v' w' hown' hg _
    have hb : Below base w w' := ((Below.refl base w).alloc hbase _).grown hg (by simp; omega) (fun k hk => (World.ownsRow.lt hown.2 k hk).1)
    have hI : OwnB w' base v' (n + 1) (bs ++ zs) := ⟨by rw [List.length_append, hown.1, hz8]; omega, by rw [List.map_append]; exact hown'⟩
    rcases hown'.2 with ⟨_, hz⟩ | ⟨g, cap, cur, rfl, hbg, _⟩
    · simp at hz
    · exact h _ _ w' hI hb hbg

theorem Bytes.drop {w : World} {b off len : Nat} {l : List Int} (h : Bytes w (some ⟨b, off, none⟩) len l) (A : Nat) : Bytes w (some ⟨b, off + A, none⟩) (len - A) (l.drop A) := by
  obtain ⟨h1, h2, h3, h4⟩ := h
  refine ⟨by rw [List.length_drop, h1], by omega, fun x hx => h3 x (List.mem_of_mem_drop hx), fun hp => ⟨b, off + A, rfl, fun i hi => ?_⟩⟩
  obtain ⟨b', off', ha, hc⟩ := h4 (by omega)
  cases ha
  rw [drop_getD, Nat.add_assoc]
  exact hc (A + i) (by omega)

set_option maxHeartbeats 2000000 in
set_option maxRecDepth 100000 in
theorem readBody_any (b off len cap : Nat) (l : List Int) (w : World) (hl : Bytes w (some ⟨b, off, none⟩) len l) (h2 : 2 ≤ len) (hlen : len ≤ 2000) (hcap : len < cap) :
    Calls Try.prog 30 #[.slice (some ⟨b, off, none⟩) len cap] w fun e w' => BodyTold w w' l e := by
  have HL := hide hl.1
  obtain ⟨b', off', c0, hbb, hc0, hd0, hcell0, ht0⟩ := hl.at_ 0 (by omega)
  cases hbb
  obtain ⟨b', off', c1, hbb, hc1, hd1, hcell1, ht1⟩ := hl.at_ 1 (by omega)
  cases hbb
  have hbs := World.block_lt_of_cell? w _ hcell0
  simp only [Nat.add_zero] at hcell0 hbs
  have HB := hide hl
  have H0 := hide hd0
  have H1 := hide hd1
  clear hl hd0 hd1 ht0 ht1
  have hp0 : (0 : Int) < len := by omega
  have hp1 : (1 : Int) < len := by omega
  have hp2 : (2 : Int) ≤ len := by omega
  have hpc : (len : Int) < cap := by omega
  have hpc2 : 2 < cap := by omega
  have hpc3 : ¬ cap = 2 := by omega
  by_cases hmany : (12 : Int) < (c0 : Int) % 16 ∨ (32 : Int) < c1
  · have HN := hide (show ∀ kind nums nb bs, ¬ Mx.IsBody l kind nums nb bs by
      intro kind nums nb bs hf
      have hmf := may_facts hf.1
      have e0 : l.getD 0 0 = 16 * kind + (nums.length : Int) := by rw [← hf.2.2.2]; rfl
      have e1 : l.getD 1 0 = (nb : Int) := by rw [← hf.2.2.2]; rfl
      rw [H0.out] at e0
      rw [H1.out] at e1
      omega)
    have hfin : ∀ W : World, Below w.heap.size w W → BodyTold w W l (.returned (.tuple #[.agg #[.int .i64 0, .slice none 0 0, .slice none 0 0], .bool false])) := fun W hW => .inr ⟨rfl, HN.out, hW⟩
    by_cases hm1 : (12 : Int) < (c0 : Int) % 16
    all_goals
      refine (callsIn_wide (n := 6)).1 ?_
      refine callsIn_of_wp_marks Try.func30 rfl trivial ?_ rfl
      simp only [Try.ntmps30, List.size_toArray, List.length_cons, List.length_nil, Nat.reduceAdd, Nat.reduceSub, Array.replicate_succ, Array.replicate_zero, List.push_toArray, List.append_toArray, List.nil_append, List.cons_append]
      first | (have hm2 : (32 : Int) < c1 := by omega) | skip
      gi_wp2
      gi_region
      gi_wp2
      refine ⟨.tuple #[.agg #[.int .i64 0, .slice none 0 0, .slice none 0 0], .bool false], by simp [results, Try.results30, go_sem], hfin _ ?_⟩
      exact (((Below.refl _ _).alloc (Nat.le_refl _) _).alloc (by simp) _).drew
  · have hm1 : ¬ (12 : Int) < (c0 : Int) % 16 := by omega
    have hm2 : ¬ (32 : Int) < c1 := by omega
    refine (callsIn_wide (n := 6)).1 ?_
    refine callsIn_of_wp_marks Try.func30 rfl trivial ?_ rfl
    simp only [Try.ntmps30, List.size_toArray, List.length_cons, List.length_nil, Nat.reduceAdd, Nat.reduceSub, Array.replicate_succ, Array.replicate_zero, List.push_toArray, List.append_toArray, List.nil_append, List.cons_append]
    gi_wp2
    gi_region
    gi_wp2
    gi_loopw [7, 8, 9, 36] (fun r _ _ i wr => ∃ (A : Nat) (nums : List Int) (v1 : Value), (nums.length : Int) ≤ (c0 : Int) % 16 ∧ 2 ≤ A ∧ A ≤ len ∧ i = .int .i64 (nums.length : Int) ∧ r = .slice (some ⟨b, off + A, none⟩) (len - A) (cap - A) ∧ Hid (Mx.Body2 l nums A) ∧ Hid (OwnI wr (w.heap.size + 2) v1 nums) ∧ Hid (UInv w wr (.int .i64 ((c0 : Int) / 16)) v1 (.slice none 0 0)))
      (fun _ _ _ i _ => 16 - (intOf i).toNat)
    case atStart => exact ⟨2, [], .slice none 0 0, by simp; omega, by omega, by omega, rfl, rfl, Mx.Body2.start l (by rw [HL.out]; omega), OwnI.nil _ _, (UInv.start w _).drew⟩
    case round =>
      obtain ⟨A, nums, v1, hk, hA2, hA, rfl, rfl, hN, hO, hU⟩ := hrel
      obtain ⟨f0, f1, f2, fz, g0, g1, g2, gz, s1, s2⟩ := hU.out.facts
      by_cases hlt : (nums.length : Int) < (c0 : Int) % 16
      · gi_wp2_with fail
        refine ⟨trivial, ?_⟩
        refine (callsIn_wide.2 (readNumber_any _ _ _ (l.drop A) wr ((HB.out.drop A).later (hU.out.2.2.1)))).mono ?_
        rintro e w1 ⟨n, size, rfl, hna, rfl⟩
        rcases hna with ⟨hn1, hn2, hn3, hn4⟩ | ⟨rfl, rfl, hno⟩
        · have HS := hide (hN.out.step hn2 hn3 hn4)
          have hsz : size ≤ len - A := by rw [List.length_drop, HL.out] at hn2; exact hn2
          have hne : ((size : Int) == 0) = false := by simp; omega
          clear hn2 hn4
          gi_wp2_with (gi_at_builtin; refine wpListIn_append_int rfl _ _ rfl (w.heap.size + 2) nums hO.out (n : Int) rfl ?c1 ?c2 ?_)
          case c1 => omega
          case c2 => omega
          intro ad cc w' hown' hbel' had
          have hU' := hide (hU.out.later hbel')
          obtain ⟨f0', f1', f2', fz', g0', g1', g2', gz', s1', s2'⟩ := hU'.out.facts
          have HO' := hide hown'
          clear hown' hbel'
          have hq1 : (size : Int) ≤ (len : Int) - A := by omega
          have hq2 : ¬ cap - A = size := by omega
          have hq3 : size < cap - A := by omega
          gi_wp2_with fail
          go_roundw
          case rel =>
            refine ⟨A + size, nums ++ [(n : Int)], .slice (some ad) (nums.length + 1) cc, by simp; omega, by omega, by omega, by simp, by rw [Nat.add_assoc, Nat.sub_sub, Nat.sub_sub], HS, ?_, hU'.out.set1 _⟩
            exact ownsRow_setCell_below HO'.out (a := ⟨w.heap.size + 1, 1, none⟩) (by simp) (.slice (some ad) (nums.length + 1) cc)
          case measure => simp [intOf]; omega
        · have HN := hide (hN.out.none (by rw [H0.out]; exact hlt) hno)
          clear hno
          gi_wp2_with fail
          obtain ⟨r0, r1, r2⟩ := hU.out.1.stored (.int .i64 0) (.slice none 0 0) (.slice none 0 0)
          exact ⟨.tuple #[.agg #[.int .i64 0, .slice none 0 0, .slice none 0 0], .bool false], by simp [results, Try.results30, go_sem, r0, r1, r2], .inr ⟨rfl, HN.out, below_stored hU.out.2.2.1 (Nat.le_refl _) _ _ _⟩⟩
      · have hkd : (c0 : Int) % 16 = (nums.length : Int) := by omega
        have HD := hide (hN.out.done (by rw [H0.out]; exact hkd))
        have HKD := hide hkd
        clear hkd
        by_cases hfit : len - A = 8 * c1
        · have hfit2 : (((len - A : Nat) : Int) != (c1 : Int) * 8) = false := by simp; omega
          have HG := hide (hN.out.good H0.out H1.out hc0 HKD.out (by omega) (by omega) (by rw [List.length_drop, HL.out]; exact hfit) HB.out.2.2.1)
          gi_wp2_with fail
          refine ⟨trivial, ?_⟩
          refine (blocksOf_in 5 _ _ _ wr).mono ?_
          rintro e w1 ⟨rfl, rfl⟩
          gi_wp2_with fail
          have hC1 : w.heap.size + 2 ≤ wr.heap.size := hU.out.2.2.2
          have HV1 := hide (show ∀ g, v1.ownBlock = some g → g < wr.heap.size + 1 by
            intro g hg
            have := (World.ownsRow.lt hO.out g hg).2
            omega)
          have hC : w.heap.size + 2 ≤ wr.heap.size + 1 := by have := hU.out.2.2.2; omega
          refine rangeBlocks w (.int .i64 ((c0 : Int) / 16)) v1 nums wr.heap.size b (off + A) (cap - A) c1 (l.drop A) rfl (by omega) (by omega) hbs (by simp) (by simpa using hC) ?hBs ?hc ?h0 ?assign ?body ?done
          case hBs => rw [World.cell?_alloc_new]; rfl
          case hc =>
            intro j hj
            have hby := (HB.out.drop A).later (hU.out.2.2.1.alloc (by omega) (.cells #[.slice (some ⟨b, off + A, none⟩) (8 * c1) (cap - A)] 26))
            obtain ⟨b', off', ha, hcx⟩ := hby.2.2.2 (by omega)
            cases ha
            exact hcx j (by omega)
          case h0 =>
            refine ⟨.slice none 0 0, hU.out.later ((Below.refl _ _).alloc (by omega) _), OwnB.nil _ _, World.ownsRow.alloc hO.out _, Nat.le_refl _⟩
          case assign =>
            intro lp pre x W K hi hK
            simp only [B8.vals, List.setIfInBounds_toArray, List.set_cons_succ, List.set_cons_zero]
            gi_wp2
            have hsz : wr.heap.size + 1 ≤ W.heap.size := by obtain ⟨_, _, _, _, hs⟩ := hi; simpa using hs
            exact hK _ _ ((KeepsOthers.alloc _ _).from _) ⟨(Below.refl _ _).alloc (by omega) _, Below.heap_alloc W _ _ (by omega)⟩ ((linv_own w _ _ _ _ (by simpa using hC)).alloc _ hi) ⟨W.heap.size, by simpa using hsz, heap_alloc_new W _, rfl⟩
          case body =>
            rintro lp pre x a' W ⟨v2, hU2, hB2, hI2, hs2⟩ ⟨Bx, hBx, hcx, rfl⟩ hlt2
            obtain ⟨p0, p1, p2, pz, q0, q1, q2, qz, t1, t2⟩ := hU2.facts
            have x0 := cell_of_cells hcx 0
            have x1 := cell_of_cells hcx 1
            have x2 := cell_of_cells hcx 2
            have x3 := cell_of_cells hcx 3
            have x4 := cell_of_cells hcx 4
            have x5 := cell_of_cells hcx 5
            have x6 := cell_of_cells hcx 6
            have x7 := cell_of_cells hcx 7
            have HU2 := hide hU2
            have HB2 := hide hB2
            have HI2 := hide hI2
            have hs2' : wr.heap.size + 1 ≤ W.heap.size := by simpa using hs2
            clear hU2 hB2 hI2 hcx hs2
            simp only [B8.vals, List.setIfInBounds_toArray, List.set_cons_succ, List.set_cons_zero] at x0 x1 x2 x3 x4 x5 x6 x7 ⊢
            gi_wp2_with (gi_at_builtin; refine wpListIn_append_keep rfl _ _ rfl _ pre.length (flat pre) HB2.out x.list rfl _ rfl rfl ?c1 ?c2 ?_)
            case c1 => omega
            case c2 => simp; omega
            intro ad cc w' hown' hbel' hkeep
            have hbel2 : Below (w.heap.size + 2) W w' := hbel'.mono hC
            have HU' := hide (HU2.out.later hbel2)
            obtain ⟨p0', p1', p2', pz', q0', q1', q2', qz', t1', t2'⟩ := HU'.out.facts
            have HO' := hide hown'
            have HI' := hide (rowKeptBelow HI2.out HV1.out hbel')
            have HBE := hide hbel'
            have HKE := hide hkeep
            clear hown' hbel' hbel2 hkeep
            gi_wp2
            refine ⟨(HKE.out.trans (KeepsOthers.setCell _ _ _)).from _, ⟨(HBE.out.mono (by omega)).setCell (by simp) _, ?_⟩, .slice (some ad) (pre.length + 1) cc, HU'.out.set2 _, ?_, ownsRow_setCell_below HI'.out (by simp) _, ?_⟩
            · rw [Below.heap_setCell _ _ _ _ (by show wr.heap.size ≠ w.heap.size + 1; omega)]
              exact HBE.out.block wr.heap.size (by omega)
            · have hlt3 : w.heap.size + 1 < wr.heap.size + 1 := by omega
              have hrow := ownsRow_setCell_below HO'.out.2 (a := ⟨w.heap.size + 1, 2, none⟩) hlt3 (.slice (some ad) (pre.length + 1) cc)
              refine ⟨by rw [flat_len], ?_⟩
              rw [World.size_alloc, flat_snoc, List.length_append]
              exact hrow
            · have := HBE.out.size
              simp [World.setCell]; omega
          case done =>
            intro D W hD hi hK
            obtain ⟨v2, hU2, hB2, hI2, hs2⟩ := hi
            have hD' : wr.heap.size + 1 ≤ D := by simpa using hD
            rw [flat_blksTo _ _ (by rw [List.length_drop, HL.out]; omega), blksTo_len, List.take_of_length_le (by rw [List.length_drop, HL.out]; omega)] at hB2
            obtain ⟨a1, cc1, rfl, hJ1⟩ := hI2.ints
            obtain ⟨a2, cc2, rfl, hJ2⟩ := hB2.blks HG.out.2.2.1
            obtain ⟨p0, p1, p2, pz, q0, q1, q2, qz, t1, t2⟩ := hU2.facts
            have HA1 := hide hI2.above
            have HA2 := hide hB2.above
            have HU2 := hide hU2
            have HJ1 := hide hJ1
            have HJ2 := hide hJ2
            have HK := hide hK
            clear hU2 hB2 hI2 hJ1 hJ2 hK hs2
            gi_wp2
            have hKf : (((W.setCell ⟨w.heap.size, 0, none⟩ (.int .i64 ((c0 : Int) / 16))).setCell ⟨w.heap.size, 1, none⟩ (.slice a1 nums.length cc1)).setCell ⟨w.heap.size, 2, none⟩ (.slice a2 c1 cc2)).heap[D]? = some (.deferred (some [])) := by
              rw [heap_stored W w.heap.size D (by omega)]
              exact HK.out
            have hgO := grownBy_putObj' (((W.setCell ⟨w.heap.size, 0, none⟩ (.int .i64 ((c0 : Int) / 16))).setCell ⟨w.heap.size, 1, none⟩ (.slice a1 nums.length cc1)).setCell ⟨w.heap.size, 2, none⟩ (.slice a2 c1 cc2)) D (.deferred none)
            have hrO : ∀ r, some D = some r → ∃ o : Obj, (((W.setCell ⟨w.heap.size, 0, none⟩ (.int .i64 ((c0 : Int) / 16))).setCell ⟨w.heap.size, 1, none⟩ (.slice a1 nums.length cc1)).setCell ⟨w.heap.size, 2, none⟩ (.slice a2 c1 cc2)).heap[r]? = some o ∧ o.isCells = false := fun r e => by cases e; exact ⟨_, hKf, rfl⟩
            have hbox := cells_kept (((HU2.out.1.set0 (.int .i64 ((c0 : Int) / 16))).set1 (.slice a1 nums.length cc1)).set2 (.slice a2 c1 cc2)) hgO hrO
            have hbl := (below_stored (g := w.heap.size) HU2.out.2.2.1 (Nat.le_refl _) (.int .i64 ((c0 : Int) / 16)) (.slice a1 nums.length cc1) (.slice a2 c1 cc2)).grown hgO (by have := t1; simp [World.setCell]; omega) (fun k e => by cases e; omega)
            have hin := (HJ1.out.stored w.heap.size (fun p hp => by have := HA1.out p hp; omega) (.int .i64 ((c0 : Int) / 16)) (.slice a1 nums.length cc1) (.slice a2 c1 cc2)).grow hgO hrO
            have hbn := (HJ2.out.stored w.heap.size (fun p hp => by have := HA2.out p hp; simp at this; omega) (.int .i64 ((c0 : Int) / 16)) (.slice a1 nums.length cc1) (.slice a2 c1 cc2)).grow hgO hrO
            refine ⟨by simp, .inl ⟨_, _, rfl, run_takeDeferred hKf, ?_⟩⟩
            generalize (((W.setCell ⟨w.heap.size, 0, none⟩ (.int .i64 ((c0 : Int) / 16))).setCell ⟨w.heap.size, 1, none⟩ (.slice a1 nums.length cc1)).setCell ⟨w.heap.size, 2, none⟩ (.slice a2 c1 cc2)).putObj D (.deferred none) = WF at *
            have y0 := BoxAt.cell0 hbox
            have y1 := BoxAt.cell1 hbox
            have y2 := BoxAt.cell2 hbox
            exact ⟨.tuple #[.agg #[.int .i64 ((c0 : Int) / 16), .slice a1 nums.length cc1, .slice a2 c1 cc2], .bool true], by simp [results, Try.results30, go_sem, y0, y1, y2], .inl ⟨_, nums, c1, l.drop A, a1, cc1, a2, cc2, rfl, HG.out, hin, hbn, fun p hp => by have := HA1.out p hp; omega, fun p hp => by have := HA2.out p hp; simp at this; omega, hbl⟩⟩
        · have hfit2 : (((len - A : Nat) : Int) != (c1 : Int) * 8) = true := by simp; omega
          have HN := hide (show ∀ kind nums nb bs, ¬ Mx.IsBody l kind nums nb bs by
            intro kind nums' nb bs hf
            obtain ⟨_, e2, e3, _⟩ := HD.out _ _ _ _ hf
            have := congrArg List.length e2
            rw [List.length_drop, HL.out, hf.2.1] at this
            rw [H1.out] at e3
            omega)
          gi_wp2_with fail
          obtain ⟨r0, r1, r2⟩ := hU.out.1.stored (.int .i64 0) (.slice none 0 0) (.slice none 0 0)
          exact ⟨.tuple #[.agg #[.int .i64 0, .slice none 0 0, .slice none 0 0], .bool false], by simp [results, Try.results30, go_sem, r0, r1, r2], .inr ⟨rfl, HN.out, below_stored hU.out.2.2.1 (Nat.le_refl _) _ _ _⟩⟩
end Go.Proofs.Ytengpogcdnbabac
