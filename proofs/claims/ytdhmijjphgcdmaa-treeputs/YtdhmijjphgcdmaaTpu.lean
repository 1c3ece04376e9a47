/-
  For every tree of numbers whatever, whether it may be, and a block put into it, are what D1 and D2 say (TreePuts): the walk.
-/
import Derived.Test.YtdhmijjphgcdmaaTmy
import Derived.Test.YtdhmijjphgcdmaaTpo
import Derived.Test.YtdhmijjphgcdmaaTpr
import Derived.Test.YtdhmijjphgcdmaaThu
import Derived.Test.YtdhmijjphgcdmaaTto
import Derived.Test.YtdhmijjphgcdmaaTdm
import Derived.Test.YtdhmijjphgcdmaaIs
import Derived.Test.YtdhmijjphgcdmaaHm
import Derived.Test.YtdhmijjphgcdmaaTsay
namespace Go.Proofs.Ytdhmijjphgcdmaa
open Go.RowKit

namespace Mx
theorem growF_len (f : Nat) (l l' : List Nat) (h : l.length = l'.length) : (growF f l).length = (growF f l').length := by
  induction f generalizing l l' with
  | zero => rfl
  | succ f ih =>
    rw [growF, growF, h]
    split
    · rfl
    · rw [List.length_cons, List.length_cons, ih (overL l) (overL l') (by rw [overL_len, overL_len, h])]
theorem levels_len (l l' : List Nat) (h : l.length = l'.length) : (levels l).length = (levels l').length := by
  unfold levels
  rw [h]
  exact growF_len _ l l' h
theorem tmay_levels (l : List Nat) (h1 : 1 ≤ l.length) (h2 : l.length ≤ 32) : tmay (levels l) = 0 := by
  obtain ⟨r, hr⟩ := growF_head l.length l
  have e : levels l = l :: r := hr
  rw [e]
  show (if 1 ≤ l.length ∧ l.length ≤ 32 then tsame (l :: r) l else 3) = 0
  rw [if_pos ⟨h1, h2⟩, tsame, if_pos e.symm]
theorem tmay_zero {ls : List (List Nat)} (h : tmay ls = 0) : ∃ l, ls = levels l ∧ 1 ≤ l.length ∧ l.length ≤ 32 ∧ ls[0]? = some l ∧ 1 ≤ ls.length := by
  match ls, h with
  | [], h => simp [tmay] at h
  | l :: r, h =>
    change (if 1 ≤ l.length ∧ l.length ≤ 32 then tsame (l :: r) l else 3) = 0 at h
    split at h
    · rename_i h1
      unfold tsame at h
      split at h
      · rename_i h2
        exact ⟨l, h2, h1.1, h1.2, rfl, by simp⟩
      · omega
    · omega
end Mx

/-- numbers behind the call's own ones -/
theorem wpList_append_u64row {w : World} {ops : Array Oper} {rest : List Oper} {o : Oper} {a : Act} {Q : Exit → Act → World → Prop} (hgd : o.guard = none) (s x : Operand)
    (ho : o.op = .call { callee := .builtin .append, args := #[s, x], argTypes := #[92, 92] }) (base : Nat) (l0 : List Nat) (hown : OwnU w base (a.eval s) l0)
    (b off n c : Nat) (l : List Nat) (hl : U64s w (some ⟨b, off, none⟩) n l) (hx : a.eval x = .slice (some ⟨b, off, none⟩) n c) (hn0 : 1 ≤ n) (hn : l0.length + n ≤ 1000000) (hbase : base ≤ w.heap.size)
    (h : ∀ v' w', OwnU w' base v' (l0 ++ l) → w.grownBy w' (a.eval s).ownBlock → wpList Try.prog ops Q rest (a.put o.dst v') w') :
    wpList Try.prog ops Q (o :: rest) a w := by
  obtain ⟨i0, hi, hz0, hz1, hz2⟩ := info_parts Try.info78
  refine wpList_append_own _ hgd s x 92 ho base 78 i0 _ 1 8 Try.underlying92 hi hz0 hz1 hz2 rfl (by decide) (a.eval s) l0.length (l0.map fun x : Nat => Value.int .u64 (x : Int)) rfl hown ⟨b, off, none⟩ n c (l.map fun x : Nat => Value.int .u64 (x : Int)) hx ?_ ?_ ?_ (by unfold maxLen; omega) (by omega) hbase ?_
  · rw [List.length_map, hl.1, Nat.mul_one]
  · intro j u hj
    obtain ⟨b', off', hb, hlt, hc⟩ := hl.2.2.2 hn0
    cases hb
    rw [Addr.add_lit]
    have hjl : j < l.length := by have := (List.getElem?_eq_some_iff.1 hj).1; simpa using this
    have h1 := hc j (by rw [← hl.1]; exact hjl)
    rw [List.getElem?_map, List.getElem?_eq_getElem hjl] at hj
    rw [List.getD_eq_getElem?_getD, List.getElem?_eq_getElem hjl] at h1
    simp at hj h1
    subst hj
    exact h1
  · intro u hu
    obtain ⟨z, _, rfl⟩ := List.mem_map.1 hu
    rfl
  · intro v' w' hown' hg _
    refine h v' w' ?_ hg
    unfold OwnU
    rw [List.length_append, List.map_append, hl.1]
    exact hown'

set_option maxHeartbeats 1000000 in
set_option maxRecDepth 100000 in
theorem tputs_huge (a : Option Addr) (k c : Nat) (ls : List (List Nat)) (at_ : Int) (x : B8) (w : World) (h : Lvls w a k ls) (hH : Mx.huge ls = true) :
    Calls Try.prog 10 #[.agg #[.slice a k c], .int .i64 at_, .agg #[.int .u8 x.z0, .int .u8 x.z1, .int .u8 x.z2, .int .u8 x.z3, .int .u8 x.z4, .int .u8 x.z5, .int .u8 x.z6, .int .u8 x.z7]] w fun e w' => e = .returned (.bool true) ∧ Below w.heap.size w w' := by
  have HL := hide h
  have HH := hide hH
  clear h hH
  obtain ⟨w0, hw0⟩ : ∃ w0 : World, Hid (w0 = (w.alloc (.cells #[.slice a k c] 82)).alloc (.cells #[.int .u8 x.z0, .int .u8 x.z1, .int .u8 x.z2, .int .u8 x.z3, .int .u8 x.z4, .int .u8 x.z5, .int .u8 x.z6, .int .u8 x.z7] 52)) := ⟨_, rfl⟩
  have B0 := hide (show Below w.heap.size w w0 by rw [hw0.out]; exact (below_alloc _ _).alloc (by simp) _)
  go_enter Try.func10, Try.ntmps10
  go_wp2_with fail
  rw [← hw0.out]
  refine (hugeTree_any a k c ls w0 (HL.out.later B0.out)).mono ?_
  rintro e w1 ⟨rfl, hb1⟩
  rw [HH.out]
  go_wp2_with fail
  go_ret
  exact ⟨rfl, B0.out.trans (hb1.mono B0.out.size)⟩

set_option maxHeartbeats 4000000 in
set_option maxRecDepth 100000 in
theorem tputs_err (a : Option Addr) (k c : Nat) (ls : List (List Nat)) (at_ : Int) (x : B8) (w : World) (h : Lvls w a k ls) (hH : Mx.huge ls = false) (hE : ¬ Mx.tmay ls = 0) :
    Calls Try.prog 10 #[.agg #[.slice a k c], .int .i64 at_, .agg #[.int .u8 x.z0, .int .u8 x.z1, .int .u8 x.z2, .int .u8 x.z3, .int .u8 x.z4, .int .u8 x.z5, .int .u8 x.z6, .int .u8 x.z7]] w fun e w' => e = .returned (.bool true) ∧ Below w.heap.size w w' := by
  have HL := hide h
  have HH := hide hH
  have HE := hide hE
  clear h hH hE
  obtain ⟨w0, hw0⟩ : ∃ w0 : World, Hid (w0 = (w.alloc (.cells #[.slice a k c] 82)).alloc (.cells #[.int .u8 x.z0, .int .u8 x.z1, .int .u8 x.z2, .int .u8 x.z3, .int .u8 x.z4, .int .u8 x.z5, .int .u8 x.z6, .int .u8 x.z7] 52)) := ⟨_, rfl⟩
  have B0 := hide (show Below w.heap.size w w0 by rw [hw0.out]; exact (below_alloc _ _).alloc (by simp) _)
  have T0 := hide (show Bx w0 w.heap.size #[.slice a k c] 82 by rw [hw0.out]; exact (Bx.new w _ _).alloc _)
  have X0 := hide (show Bx w0 (w.heap.size + 1) #[.int .u8 x.z0, .int .u8 x.z1, .int .u8 x.z2, .int .u8 x.z3, .int .u8 x.z4, .int .u8 x.z5, .int .u8 x.z6, .int .u8 x.z7] 52 by
    rw [hw0.out]
    have h := Bx.new (w.alloc (.cells #[.slice a k c] 82)) #[.int .u8 x.z0, .int .u8 x.z1, .int .u8 x.z2, .int .u8 x.z3, .int .u8 x.z4, .int .u8 x.z5, .int .u8 x.z6, .int .u8 x.z7] 52
    rw [World.size_alloc] at h
    exact h)
  obtain ⟨E, hEE⟩ : ∃ E : Int, Hid (E = Mx.tmay ls) := ⟨_, rfl⟩
  go_enter Try.func10, Try.ntmps10
  go_wp2_with fail
  rw [← hw0.out]
  refine (hugeTree_any a k c ls w0 (HL.out.later B0.out)).mono ?_
  rintro e w1 ⟨rfl, hb1⟩
  rw [HH.out]
  have T1 := hide (T0.out.later hb1 T0.out.lt)
  have X1 := hide (X0.out.later hb1 X0.out.lt)
  have B1 := hide (B0.out.trans (hb1.mono B0.out.size))
  clear hb1
  have t1 := T1.out.one
  go_wp2_with fail
  refine (treeMay_any a k c ls w1 (HL.out.later B1.out)).mono ?_
  rintro e w2 ⟨rfl, hb2⟩
  rw [← hEE.out]
  have T2 := hide (T1.out.later hb2 T1.out.lt)
  have X2 := hide (X1.out.later hb2 X1.out.lt)
  have B2 := hide (B1.out.trans (hb2.mono B1.out.size))
  clear hb2 t1
  have t2 := T2.out.one
  go_wp2_with fail
  refine (tcheck_any a k c ls w2 (HL.out.later B2.out)).mono ?_
  rintro e w3 ⟨rfl, hb3⟩
  rw [← hEE.out]
  have T3 := hide (T2.out.later hb3 T2.out.lt)
  have X3 := hide (X2.out.later hb3 X2.out.lt)
  have B3 := hide (B2.out.trans (hb3.mono B2.out.size))
  clear hb3 t2
  go_wp2_with fail
  refine (is_any E E w3).mono ?_
  rintro e w4 ⟨rfl, rfl⟩
  rw [show (E == E) = true by simp]
  have t3 := T3.out.one
  obtain ⟨f0, f1, f2, f3, f4, f5, f6, f7⟩ := X3.out.eight
  go_wp2_with fail
  refine (tput_err a k c ls at_ x w4 (HL.out.later B3.out) HE.out).mono ?_
  rintro e w5 ⟨rfl, hb5⟩
  rw [← hEE.out]
  have B5 := hide (B3.out.trans (hb5.mono B3.out.size))
  clear hb5 t3 f0 f1 f2 f3 f4 f5 f6 f7
  have hE0 : (E == 0) = false := by rw [hEE.out]; have := HE.out; simpa using this
  have hE1 : (E != 0) = true := by rw [hEE.out]; have := HE.out; simpa using this
  go_wp2_with fail
  refine (is_any E E _).mono ?_
  rintro e w6 ⟨rfl, rfl⟩
  rw [show (E == E) = true by simp]
  go_wp2_with fail
  go_ret
  exact ⟨rfl, B5.out.alloc B5.out.size _⟩

set_option maxHeartbeats 4000000 in
set_option maxRecDepth 100000 in
theorem tputs_range (a : Option Addr) (k c : Nat) (l : List Nat) (at_ : Int) (x : B8) (w : World) (h : Lvls w a k (Mx.levels l)) (hH : Mx.huge (Mx.levels l) = false) (h1 : 1 ≤ l.length) (h2 : l.length ≤ 32) (hj : at_ < 0 ∨ (l.length : Int) ≤ at_) :
    Calls Try.prog 10 #[.agg #[.slice a k c], .int .i64 at_, .agg #[.int .u8 x.z0, .int .u8 x.z1, .int .u8 x.z2, .int .u8 x.z3, .int .u8 x.z4, .int .u8 x.z5, .int .u8 x.z6, .int .u8 x.z7]] w fun e w' => e = .returned (.bool true) ∧ Below w.heap.size w w' := by
  have HL := hide h
  have HH := hide hH
  have HE := hide (show Mx.tmay (Mx.levels l) = 0 from Mx.tmay_levels l h1 h2)
  have HZ := hide (Mx.levels_head l)
  have hk : 1 ≤ k := by rw [← h.1]; exact HZ.out.2
  have hkl : k ≤ maxLen := h.2.1
  unfold maxLen at hkl
  obtain ⟨b, off, l0, ai, ni, ci, hab, hbw, hl0, hcell, hu, hnc⟩ := h.at_ 0 (by omega)
  rw [HZ.out.1] at hl0
  obtain rfl : l = l0 := Option.some.inj hl0
  subst hab
  rw [Nat.add_zero] at hcell
  have hni : ni = l.length := hu.1.symm
  subst hni
  obtain ⟨bi, offi, hai, hbi, _⟩ := hu.2.2.2 h1
  subst hai
  have HU := hide hu
  have HC := hide hcell
  obtain ⟨N, hN⟩ : ∃ N : Nat, Hid (N = l.length) := ⟨_, rfl⟩
  have HJ := hide hj
  have HN1 := hide (show 1 ≤ N ∧ N ≤ 32 by rw [hN.out]; exact ⟨h1, h2⟩)
  rw [← hN.out] at HC HU hj
  clear h hH hl0 hu hnc hcell
  have hkp : (0 : Int) < k := by omega
  obtain ⟨w0, hw0⟩ : ∃ w0 : World, Hid (w0 = (w.alloc (.cells #[.slice (some ⟨b, off, none⟩) k c] 82)).alloc (.cells #[.int .u8 x.z0, .int .u8 x.z1, .int .u8 x.z2, .int .u8 x.z3, .int .u8 x.z4, .int .u8 x.z5, .int .u8 x.z6, .int .u8 x.z7] 52)) := ⟨_, rfl⟩
  have B0 := hide (show Below w.heap.size w w0 by rw [hw0.out]; exact (below_alloc _ _).alloc (by simp) _)
  have T0 := hide (show Bx w0 w.heap.size #[.slice (some ⟨b, off, none⟩) k c] 82 by rw [hw0.out]; exact (Bx.new w _ _).alloc _)
  have X0 := hide (show Bx w0 (w.heap.size + 1) #[.int .u8 x.z0, .int .u8 x.z1, .int .u8 x.z2, .int .u8 x.z3, .int .u8 x.z4, .int .u8 x.z5, .int .u8 x.z6, .int .u8 x.z7] 52 by
    rw [hw0.out]
    have h := Bx.new (w.alloc (.cells #[.slice (some ⟨b, off, none⟩) k c] 82)) #[.int .u8 x.z0, .int .u8 x.z1, .int .u8 x.z2, .int .u8 x.z3, .int .u8 x.z4, .int .u8 x.z5, .int .u8 x.z6, .int .u8 x.z7] 52
    rw [World.size_alloc] at h
    exact h)
  go_enter Try.func10, Try.ntmps10
  go_wp2_with fail
  rw [← hw0.out]
  refine (hugeTree_any (some ⟨b, off, none⟩) k c (Mx.levels l) w0 (HL.out.later B0.out)).mono ?_
  rintro e w1 ⟨rfl, hb1⟩
  rw [HH.out]
  have T1 := hide (T0.out.later hb1 T0.out.lt)
  have X1 := hide (X0.out.later hb1 X0.out.lt)
  have B1 := hide (B0.out.trans (hb1.mono B0.out.size))
  clear hb1
  have t1 := T1.out.one
  go_wp2_with fail
  refine (treeMay_any (some ⟨b, off, none⟩) k c (Mx.levels l) w1 (HL.out.later B1.out)).mono ?_
  rintro e w2 ⟨rfl, hb2⟩
  rw [HE.out]
  have T2 := hide (T1.out.later hb2 T1.out.lt)
  have X2 := hide (X1.out.later hb2 X1.out.lt)
  have B2 := hide (B1.out.trans (hb2.mono B1.out.size))
  clear hb2 t1
  have t2 := T2.out.one
  go_wp2_with fail
  refine (tcheck_any (some ⟨b, off, none⟩) k c (Mx.levels l) w2 (HL.out.later B2.out)).mono ?_
  rintro e w3 ⟨rfl, hb3⟩
  rw [HE.out]
  have T3 := hide (T2.out.later hb3 T2.out.lt)
  have X3 := hide (X2.out.later hb3 X2.out.lt)
  have B3 := hide (B2.out.trans (hb3.mono B2.out.size))
  clear hb3 t2
  go_wp2_with fail
  refine (is_any 0 0 w3).mono ?_
  rintro e w4 ⟨rfl, rfl⟩
  rw [show ((0 : Int) == 0) = true from rfl]
  have t3 := T3.out.one
  obtain ⟨f0, f1, f2, f3, f4, f5, f6, f7⟩ := X3.out.eight
  go_wp2_with fail
  refine (tput_range (some ⟨b, off, none⟩) k c l at_ x w4 (HL.out.later B3.out) hk h1 h2 HZ.out.1 HE.out HJ.out).mono ?_
  rintro e w5 ⟨rfl, hb5⟩
  have T5 := hide (T3.out.later hb5 T3.out.lt)
  have B5 := hide (B3.out.trans (hb5.mono B3.out.size))
  clear hb5 t3 f0 f1 f2 f3 f4 f5 f6 f7
  obtain ⟨w6, hw6⟩ : ∃ w6 : World, Hid (w6 = w5.alloc (.cells #[.slice none 0 0] 82)) := ⟨_, rfl⟩
  have B6 := hide (show Below w.heap.size w w6 by rw [hw6.out]; exact B5.out.alloc B5.out.size _)
  have T6 := hide (show Bx w6 w.heap.size #[.slice (some ⟨b, off, none⟩) k c] 82 by rw [hw6.out]; exact T5.out.alloc _)
  have R6 := hide (show Bx w6 w5.heap.size #[.slice none 0 0] 82 by rw [hw6.out]; exact Bx.new _ _ _)
  have t5 := T5.out.one
  have s5 := T5.out.lt
  have b5 : b < w5.heap.size := by have := B5.out.size; omega
  have c5 : w5.cell? ⟨b, off, none⟩ = some (.slice (some ⟨bi, offi, none⟩) N ci) := (B5.out.cell (p := ⟨b, off, none⟩) hbw).trans HC.out
  have HIS := hide (is_any 1 1 w6)
  rw [errV_not (by decide)] at HIS
  by_cases hn0 : at_ < 0
  · have hd0 : decide (at_ < 0) = true := by simpa using hn0
    clear hj
    go_wp2_with fail
    rw [← hw6.out]
    clear t5 c5
    have r6 := R6.out.one
    refine HIS.out.mono ?_
    rintro e w7 ⟨rfl, rfl⟩
    rw [show ((1 : Int) == 1) = true from rfl]
    go_wp2_with fail
    go_ret
    exact ⟨rfl, B6.out⟩
  · have hd0 : decide (at_ < 0) = false := by simpa using hn0
    have hn1 : (N : Int) ≤ at_ := by omega
    have hd1 : decide ((N : Int) ≤ at_) = true := by simpa using hn1
    clear hj
    go_wp2_with fail
    rw [← hw6.out]
    clear t5 c5
    have r6 := R6.out.one
    refine HIS.out.mono ?_
    rintro e w7 ⟨rfl, rfl⟩
    rw [show ((1 : Int) == 1) = true from rfl]
    go_wp2_with fail
    go_ret
    exact ⟨rfl, B6.out⟩

set_option maxHeartbeats 4000000 in
set_option maxRecDepth 100000 in
theorem tputs_ok (a : Option Addr) (k c : Nat) (l : List Nat) (j : Nat) (x : B8) (w : World) (h : Lvls w a k (Mx.levels l)) (hH : Mx.huge (Mx.levels l) = false) (h1 : 1 ≤ l.length) (h2 : l.length ≤ 32) (hx : x.ok) (hj : j < l.length) :
    Calls Try.prog 10 #[.agg #[.slice a k c], .int .i64 (j : Int), .agg #[.int .u8 x.z0, .int .u8 x.z1, .int .u8 x.z2, .int .u8 x.z3, .int .u8 x.z4, .int .u8 x.z5, .int .u8 x.z6, .int .u8 x.z7]] w fun e w' => e = .returned (.bool true) ∧ Below w.heap.size w w' := by
  have HL := hide h
  have HXO := hide hx
  have HH := hide hH
  have HE := hide (show Mx.tmay (Mx.levels l) = 0 from Mx.tmay_levels l h1 h2)
  have HZ := hide (Mx.levels_head l)
  have hk : 1 ≤ k := by rw [← h.1]; exact HZ.out.2
  have hkl : k ≤ maxLen := h.2.1
  unfold maxLen at hkl
  obtain ⟨b, off, l0, ai, ni, ci, hab, hbw, hl0, hcell, hu, hnc⟩ := h.at_ 0 (by omega)
  rw [HZ.out.1] at hl0
  obtain rfl : l = l0 := Option.some.inj hl0
  subst hab
  rw [Nat.add_zero] at hcell
  have hni : ni = l.length := hu.1.symm
  subst hni
  obtain ⟨bi, offi, hai, hbi, _⟩ := hu.2.2.2 h1
  subst hai
  have HU := hide hu
  have HC := hide hcell
  obtain ⟨N, hN⟩ : ∃ N : Nat, Hid (N = l.length) := ⟨_, rfl⟩
  have HJ := hide hj
  have HN1 := hide (show 1 ≤ N ∧ N ≤ 32 by rw [hN.out]; exact ⟨h1, h2⟩)
  rw [← hN.out] at HC HU hj
  clear h hH hl0 hu hnc hcell hx
  have hkp : (0 : Int) < k := by omega
  have hd0 : decide ((j : Int) < 0) = false := by simp
  have hjN : (j : Int) < N := by omega
  have hdN : decide ((N : Int) ≤ j) = false := by simp; omega
  obtain ⟨w0, hw0⟩ : ∃ w0 : World, Hid (w0 = (w.alloc (.cells #[.slice (some ⟨b, off, none⟩) k c] 82)).alloc (.cells #[.int .u8 x.z0, .int .u8 x.z1, .int .u8 x.z2, .int .u8 x.z3, .int .u8 x.z4, .int .u8 x.z5, .int .u8 x.z6, .int .u8 x.z7] 52)) := ⟨_, rfl⟩
  have B0 := hide (show Below w.heap.size w w0 by rw [hw0.out]; exact (below_alloc _ _).alloc (by simp) _)
  have T0 := hide (show Bx w0 w.heap.size #[.slice (some ⟨b, off, none⟩) k c] 82 by rw [hw0.out]; exact (Bx.new w _ _).alloc _)
  have X0 := hide (show Bx w0 (w.heap.size + 1) #[.int .u8 x.z0, .int .u8 x.z1, .int .u8 x.z2, .int .u8 x.z3, .int .u8 x.z4, .int .u8 x.z5, .int .u8 x.z6, .int .u8 x.z7] 52 by
    rw [hw0.out]
    have h := Bx.new (w.alloc (.cells #[.slice (some ⟨b, off, none⟩) k c] 82)) #[.int .u8 x.z0, .int .u8 x.z1, .int .u8 x.z2, .int .u8 x.z3, .int .u8 x.z4, .int .u8 x.z5, .int .u8 x.z6, .int .u8 x.z7] 52
    rw [World.size_alloc] at h
    exact h)
  go_enter Try.func10, Try.ntmps10
  go_wp2_with fail
  rw [← hw0.out]
  refine (hugeTree_any (some ⟨b, off, none⟩) k c (Mx.levels l) w0 (HL.out.later B0.out)).mono ?_
  rintro e w1 ⟨rfl, hb1⟩
  rw [HH.out]
  have T1 := hide (T0.out.later hb1 T0.out.lt)
  have X1 := hide (X0.out.later hb1 X0.out.lt)
  have B1 := hide (B0.out.trans (hb1.mono B0.out.size))
  clear hb1
  have t1 := T1.out.one
  go_wp2_with fail
  refine (treeMay_any (some ⟨b, off, none⟩) k c (Mx.levels l) w1 (HL.out.later B1.out)).mono ?_
  rintro e w2 ⟨rfl, hb2⟩
  rw [HE.out]
  have T2 := hide (T1.out.later hb2 T1.out.lt)
  have X2 := hide (X1.out.later hb2 X1.out.lt)
  have B2 := hide (B1.out.trans (hb2.mono B1.out.size))
  clear hb2 t1
  have t2 := T2.out.one
  go_wp2_with fail
  refine (tcheck_any (some ⟨b, off, none⟩) k c (Mx.levels l) w2 (HL.out.later B2.out)).mono ?_
  rintro e w3 ⟨rfl, hb3⟩
  rw [HE.out]
  have T3 := hide (T2.out.later hb3 T2.out.lt)
  have X3 := hide (X2.out.later hb3 X2.out.lt)
  have B3 := hide (B2.out.trans (hb3.mono B2.out.size))
  clear hb3 t2
  go_wp2_with fail
  refine (is_any 0 0 w3).mono ?_
  rintro e w4 ⟨rfl, rfl⟩
  rw [show ((0 : Int) == 0) = true from rfl]
  have t3 := T3.out.one
  obtain ⟨f0, f1, f2, f3, f4, f5, f6, f7⟩ := X3.out.eight
  go_wp2_with fail
  refine (tput_ok (some ⟨b, off, none⟩) k c l j x w4 (HL.out.later B3.out) hk h1 h2 HZ.out.1 HE.out HXO.out HJ.out).mono ?_
  rintro e w5 ⟨a', k', cap', rfl, hLv, hb5⟩
  obtain ⟨Z, hZ⟩ : ∃ Z : Nat, Hid (Z = Mx.blockD x) := ⟨_, rfl⟩
  rw [← hZ.out] at hLv
  obtain rfl : k' = k := by
    have e1 := hLv.out.1.1
    have e2 := HL.out.1
    rw [← e1, ← e2]
    exact Mx.levels_len _ _ (by simp)
  have T5 := hide (T3.out.later hb5.out T3.out.lt)
  have X5 := hide (X3.out.later hb5.out X3.out.lt)
  have B5 := hide (B3.out.trans (hb5.out.mono B3.out.size))
  clear hb5 t3 f0 f1 f2 f3 f4 f5 f6 f7
  obtain ⟨w6, hw6⟩ : ∃ w6 : World, Hid (w6 = w5.alloc (.cells #[.slice a' k' cap'] 82)) := ⟨_, rfl⟩
  have B6 := hide (show Below w.heap.size w w6 by rw [hw6.out]; exact B5.out.alloc B5.out.size _)
  have B56 := hide (show Below w5.heap.size w5 w6 by rw [hw6.out]; exact below_alloc _ _)
  have T6 := hide (show Bx w6 w.heap.size #[.slice (some ⟨b, off, none⟩) k' c] 82 by rw [hw6.out]; exact T5.out.alloc _)
  have X6 := hide (X5.out.later B56.out X5.out.lt)
  have R6 := hide (show Bx w6 w5.heap.size #[.slice a' k' cap'] 82 by rw [hw6.out]; exact Bx.new _ _ _)
  have LV6 := hide (hLv.out.1.later B56.out)
  have t5 := T5.out.one
  have s5 := T5.out.lt
  have b5 : b < w5.heap.size := by have := B5.out.size; omega
  have c5 : w5.cell? ⟨b, off, none⟩ = some (.slice (some ⟨bi, offi, none⟩) N ci) := (B5.out.cell (p := ⟨b, off, none⟩) hbw).trans HC.out
  have HS6 := hide (show w6.heap.size = w5.heap.size + 1 by rw [hw6.out]; simp)
  go_wp2_with (at_builtin; refine wpList_append_u64row rfl _ _ rfl w6.heap.size [] ?o1 bi offi N ci l ?o2 rfl ?o3 ?o4 ?o5 ?_)
  case o1 =>
    rw [← hw6.out]
    have h := World.ownsRow_made (e := 78) (size := 1) w6 #[] 0 (Nat.le_refl _) (Nat.zero_le _) (by simp)
    rw [HS6.out] at h
    rw [HS6.out]
    exact h
  case o2 =>
    rw [← hw6.out]
    exact (HU.out.later B6.out).later (below_alloc _ _)
  case o3 => exact HN1.out.1
  case o4 => have := HN1.out.2; simp; omega
  case o5 => rw [← hw6.out]; simp
  intro v8 w8 hown hgrow
  rw [← hw6.out] at hgrow
  have O8 := hide (show OwnU w8 w6.heap.size v8 l by simpa using hown)
  have B68 := hide (show Below w6.heap.size w6 w8 from ((Below.refl _ w6).alloc (Nat.le_refl _) _).grown hgrow (by simp) (by intro k hk; simp [Value.ownBlock] at hk; have := HS6.out; omega))
  clear hown hgrow t5 c5
  obtain ⟨a8, c8, hv8⟩ := O8.out.form
  rw [← hN.out] at hv8
  subst hv8
  obtain ⟨g, hag⟩ : ∃ g, a8 = some ⟨g, 0, none⟩ := by
    rcases O8.out.2 with ⟨hv, hz⟩ | ⟨g', cap', cur, hv, _⟩
    · omega
    · simp only [Value.slice.injEq] at hv
      exact ⟨g', hv.1⟩
  subst hag
  have hgl := World.ownsRow.lt O8.out g rfl
  have X8 := hide (X6.out.later B68.out X6.out.lt)
  have B8 := hide (B6.out.trans (B68.out.mono B6.out.size))
  obtain ⟨f0, f1, f2, f3, f4, f5, f6, f7⟩ := X8.out.eight
  obtain ⟨w9, hw9⟩ : ∃ w9 : World, Hid (w9 = w8.alloc (.cells #[.int .u8 x.z0, .int .u8 x.z1, .int .u8 x.z2, .int .u8 x.z3, .int .u8 x.z4, .int .u8 x.z5, .int .u8 x.z6, .int .u8 x.z7] 52)) := ⟨_, rfl⟩
  have B89 := hide (show Below w8.heap.size w8 w9 by rw [hw9.out]; exact below_alloc _ _)
  have L9 := hide (show BL w9 (some ⟨w8.heap.size, 0, none⟩) 1 [x] by rw [hw9.out]; exact (OwnBL.one w8 w8.heap.size (Nat.le_refl _) x).asBL)
  go_wp2_with fail
  rw [← hw9.out]
  refine (treeOf_any (some ⟨w8.heap.size, 0, none⟩) 1 1 [x] w9 L9.out (by intro y hy; simp at hy; rw [hy]; exact HXO.out) (Nat.le_refl _) (by omega)).mono ?_
  rintro e w10 ⟨a10, k10, cap10, rfl, hL10, hb10⟩
  have HG10 := hide (show (Mx.levels ([x].map Mx.blockD)).getD 0 [] = [Z] by rw [List.getD_eq_getElem?_getD, (Mx.levels_head _).1, hZ.out]; rfl)
  have HK10 := hide (show 1 ≤ k10 by rw [← hL10.out.1.1]; exact (Mx.levels_head _).2)
  obtain ⟨b10, off10, bj, offj, nj, cj, z10, hab10, _, d1, hnj, d2, hz10⟩ := hL10.out.1.nd_ 0 0 HK10.out (by rw [HG10.out]; simp)
  subst hab10
  have HNJ := hide (show nj = 1 by rw [hnj, HG10.out]; rfl)
  rw [HNJ.out] at d1
  have HZ10 := hide (show z10 = Z by rw [hz10, Mx.nd, HG10.out]; rfl)
  rw [HZ10.out] at d2
  rw [Nat.add_zero] at d1 d2
  clear hnj hz10 f0 f1 f2 f3 f4 f5 f6 f7
  have hk10 : (0 : Int) < k10 := by have := HK10.out; omega
  have B810 := hide (B89.out.trans (hb10.out.mono B89.out.size))
  have O10 := hide (show OwnU w10 w6.heap.size (.slice (some ⟨g, 0, none⟩) N c8) l from rowKept O8.out B810.out)
  have B610 := hide (B68.out.trans (B810.out.mono B68.out.size))
  obtain ⟨b11, off11, x11, hab11, _, _, _, u0⟩ := (O10.out.read HU.out.2.2.1).1.at_ j (by omega)
  simp only [Option.some.injEq, Addr.mk.injEq, and_true] at hab11
  obtain ⟨rfl, rfl⟩ := hab11
  rw [Nat.zero_add] at u0
  have uz : ∀ o, w10.frozen? ⟨g, o, none⟩ = false := by
    rcases O10.out.2 with ⟨hv, _⟩ | ⟨g', cap', cur, hv, _, hh, _⟩
    · cases hv
    · simp only [Value.slice.injEq, Option.some.injEq, Addr.mk.injEq, and_true] at hv
      obtain ⟨rfl, _, _⟩ := hv
      exact fun o => (show Bx w10 g cur 78 from hh).frozen o
  obtain ⟨w11, hw11⟩ : ∃ w11 : World, Hid (w11 = w10.setCell ⟨g, j, none⟩ (.int .u64 (Z : Int))) := ⟨_, rfl⟩
  have O11 := hide (show OwnU w11 w6.heap.size (.slice (some ⟨g, 0, none⟩) N c8) (l.set j Z) by rw [hw11.out]; exact (O10.out.set1 j Z).1)
  have B611 := hide (show Below w6.heap.size w6 w11 by rw [hw11.out]; exact B610.out.setCell (p := ⟨g, j, none⟩) hgl.1 _)
  have HU11 := hide (O11.out.read (by
    intro z hz'
    rcases List.mem_or_eq_of_mem_set hz' with h | h
    · exact HU.out.2.2.1 z h
    · rw [h, hZ.out]
      exact Mx.blockD_lt x))
  have hfd : ∀ (a : Option Addr) (k c : Nat) (W : World), (Instr.field 82 (.agg #[.slice a k c]) 0).run Try.prog W = .ok (.slice a k c) W := fun _ _ _ _ => by kernel_rfl
  have T11 := hide (T6.out.later B611.out T6.out.lt)
  have R11 := hide (R6.out.later B611.out R6.out.lt)
  have LV11 := hide (LV6.out.later B611.out)
  have B11 := hide (B6.out.trans (B611.out.mono B6.out.size))
  go_upto_region 13 with fail
  rw [← hw11.out]
  clear d1 d2 u0 uz hfd
  have t11 := T11.out.one
  have r11 := R11.out.one
  obtain ⟨b12, off12, l12, ai12, ni12, ci12, hab12, _, hl12, e12, hu12, _⟩ := LV11.out.at_ 0 hk
  subst hab12
  rw [(Mx.levels_head _).1] at hl12
  obtain rfl : l.set j Z = l12 := Option.some.inj hl12
  rw [Nat.add_zero] at e12
  have HU12 := hide hu12
  clear hl12 hu12
  go_wp2_with fail
  refine (sameLevel_any ai12 (some ⟨g, 0, none⟩) ni12 ci12 N c8 (l.set j Z) (l.set j Z) w11 HU12.out HU11.out.1).mono ?_
  rintro e w12 ⟨r, rfl, hr, q, rfl⟩
  obtain rfl : r = true := hr.2 rfl
  clear hr e12
  go_wp2_with fail
  refine (treeMay_any (some ⟨b12, off12, none⟩) k' cap' (Mx.levels (l.set j Z)) _ (LV11.out.later (below_drewN (Below.refl _ _) q))).mono ?_
  rintro e w13 ⟨rfl, hb13⟩
  have HE13 := hide (show Mx.tmay (Mx.levels (l.set j Z)) = 0 from Mx.tmay_levels _ (by simpa using h1) (by simpa using h2))
  rw [HE13.out]
  have B13 := hide ((below_drewN B11.out q).trans (hb13.mono (below_drewN B11.out q).size))
  go_wp2_with fail
  go_ret
  exact ⟨rfl, B13.out⟩

theorem tputs_any (a : Option Addr) (k c : Nat) (ls : List (List Nat)) (at_ : Int) (x : B8) (w : World) (h : Lvls w a k ls) (hx : x.ok) :
    Calls Try.prog 10 #[.agg #[.slice a k c], .int .i64 at_, .agg #[.int .u8 x.z0, .int .u8 x.z1, .int .u8 x.z2, .int .u8 x.z3, .int .u8 x.z4, .int .u8 x.z5, .int .u8 x.z6, .int .u8 x.z7]] w fun e w' => e = .returned (.bool true) ∧ Below w.heap.size w w' := by
  cases hH : Mx.huge ls with
  | true => exact tputs_huge a k c ls at_ x w h hH
  | false =>
    by_cases hE : Mx.tmay ls = 0
    · obtain ⟨l, rfl, h1, h2, _, _⟩ := Mx.tmay_zero hE
      by_cases hj : at_ < 0 ∨ (l.length : Int) ≤ at_
      · exact tputs_range a k c l at_ x w h hH h1 h2 hj
      · have := tputs_ok a k c l at_.toNat x w h hH h1 h2 hx (by omega)
        rw [show ((at_.toNat : Nat) : Int) = at_ by omega] at this
        exact this
    · exact tputs_err a k c ls at_ x w h hH hE

end Go.Proofs.Ytdhmijjphgcdmaa
