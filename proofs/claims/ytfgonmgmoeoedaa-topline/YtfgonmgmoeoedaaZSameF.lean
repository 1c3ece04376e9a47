/-
  Two frames that are the same (SameFrame); the sum at the end of bytes (readSeal).
-/
import Derived.Deep.WholeRow
import Derived.Test.YtfgonmgmoeoedaaZArr

namespace Go.Proofs.Ytfgonmgmoeoedaa
open Go.RowKit

theorem sameInts_true (a1 a2 : Option Addr) (n1 c1 n2 c2 : Nat) (l : List Int) (w : World) (h1 : Ints w a1 n1 l) (h2 : Ints w a2 n2 l) :
    Calls Try.prog 33 #[.slice a1 n1 c1, .slice a2 n2 c2] w fun e w' => e = .returned (.bool true) ∧ ∃ n, w' = w.drewN n := by
  refine (sameInts_gen a1 a2 n1 c1 n2 c2 l l w h1 h2).mono ?_
  rintro e w' ⟨r, rfl, hr, hn⟩
  exact ⟨by rw [hr.2 rfl], hn⟩

theorem sameBlocks_true (a1 a2 : Option Addr) (n1 c1 n2 c2 : Nat) (l : List Int) (w : World) (h1 : Blks w a1 n1 l) (h2 : Blks w a2 n2 l) :
    Calls Try.prog 34 #[.slice a1 n1 c1, .slice a2 n2 c2] w fun e w' => e = .returned (.bool true) ∧ ∃ n, w' = w.drewN n := by
  refine (sameBlocks_gen a1 a2 n1 c1 n2 c2 l l w h1 h2).mono ?_
  rintro e w' ⟨r, rfl, hr, hn⟩
  exact ⟨by rw [hr.2 rfl], hn⟩

set_option maxHeartbeats 1000000 in
set_option maxRecDepth 100000 in
theorem sameFrame_true (kind : Int) (a1 a2 a3 a4 : Option Addr) (n1 c1 n2 c2 n3 c3 n4 c4 : Nat) (l bs : List Int) (w : World) (h1 : Ints w a1 n1 l) (h2 : Blks w a2 n2 bs) (h3 : Ints w a3 n3 l) (h4 : Blks w a4 n4 bs) :
    Calls Try.prog 12 #[.agg #[.int .i64 kind, .slice a1 n1 c1, .slice a2 n2 c2], .agg #[.int .i64 kind, .slice a3 n3 c3, .slice a4 n4 c4]] w fun e w' => e = .returned (.bool true) ∧ Below w.heap.size w w' := by
  have H1 := hide h1
  have H2 := hide h2
  have H3 := hide h3
  have H4 := hide h4
  clear h1 h2 h3 h4
  have hkk : (kind == kind) = true := by simp
  go_enter Try.func12, Try.ntmps12
  go_wp2_with fail
  have hb := ((Below.refl w.heap.size w).alloc (Nat.le_refl _) (.cells #[.int .i64 kind, .slice a1 n1 c1, .slice a2 n2 c2] 40)).alloc (by simp) (.cells #[.int .i64 kind, .slice a3 n3 c3, .slice a4 n4 c4] 40)
  have HB := hide hb
  clear hb
  refine (sameInts_true a1 a3 n1 c1 n3 c3 l _ (H1.out.later HB.out) (H3.out.later HB.out)).mono ?_
  rintro e w1 ⟨rfl, nn, rfl⟩
  go_wp2_with fail
  refine (sameBlocks_true a2 a4 n2 c2 n4 c4 bs _ (H2.out.later (below_drewN HB.out nn)) (H4.out.later (below_drewN HB.out nn))).mono ?_
  rintro e w1 ⟨rfl, mm, rfl⟩
  go_wp2
  go_ret
  exact ⟨rfl, below_drewN HB.out _⟩

/-- copy of bytes over the whole of a new array -/
theorem copy_new (W : World) (g n sCap b off : Nat) (t : TypeId) (cur : Array Value) (news : List Int) (hg : g = W.heap.size) (hc : cur.size = n) (hn : news.length = n) (hb : b < W.heap.size) (hsrc : ∀ j, j < n → W.cell? ⟨b, off + j, none⟩ = some (.int .u8 (news.getD j 0))) :
    Sem.run Try.prog (Builtin.copy_ #[27, 27] 3 #[.slice (some ⟨g, 0, none⟩) n n, .slice (some ⟨b, off, none⟩) n sCap]) (W.alloc (.cells cur t)) = .ok (.int .i64 n) (W.alloc (.cells (news.map (Value.int .u8)).toArray t)) := by
  subst hg
  have h := run_copy_row (P := Try.prog) (W.alloc (.cells cur t)) 27 27 3 5 W.heap.size 0 n n ⟨b, off, none⟩ n sCap cur t (news.map (Value.int .u8)) Try.underlying27 (by kernel_rfl) (heap_alloc_new W _) (by simp [hn]) (by
      intro j v hj
      have hlt : j < news.length := by
        rcases Nat.lt_or_ge j news.length with h | h
        · exact h
        · rw [List.getElem?_eq_none (by simpa using h)] at hj; cases hj
      have hadd : (⟨b, off, none⟩ : Addr).add j = ⟨b, off + j, none⟩ := by unfold Addr.add; split <;> simp_all
      rw [hadd, World.cell?_alloc_lt _ _ _ hb, hsrc j (by omega)]
      rw [List.getElem?_map, List.getElem?_eq_getElem hlt] at hj
      rw [List.getD_eq_getElem?_getD, List.getElem?_eq_getElem hlt]
      exact hj) (by simp; omega) (by
      intro v hv
      obtain ⟨z, _, rfl⟩ := List.mem_map.1 hv
      rfl)
  rw [h, World.setRow_alloc_new]
  have e : cur.toList.drop (0 + (news.map (Value.int .u8)).length) = [] := List.drop_eq_nil_of_le (by simp; omega)
  rw [e]
  simp [goInt, hn]

/-- four bytes -/
theorem four {w : World} {b off : Nat} (l : List Int) (hl : l.length = 4) (hc : ∀ i, i < 4 → w.cell? ⟨b, off + i, none⟩ = some (.int .u8 (l.getD i 0))) :
    ∃ z0 z1 z2 z3 : Int, l = [z0, z1, z2, z3] ∧ w.cell? ⟨b, off, none⟩ = some (.int .u8 z0) ∧ w.cell? ⟨b, off + 1, none⟩ = some (.int .u8 z1) ∧ w.cell? ⟨b, off + 2, none⟩ = some (.int .u8 z2) ∧ w.cell? ⟨b, off + 3, none⟩ = some (.int .u8 z3) := by
  match l, hl with
  | [z0, z1, z2, z3], _ => exact ⟨z0, z1, z2, z3, rfl, hc 0 (by omega), hc 1 (by omega), hc 2 (by omega), hc 3 (by omega)⟩

set_option maxHeartbeats 1000000 in
set_option maxRecDepth 100000 in
theorem readSeal_any (b off cap : Nat) (l : List Int) (w : World) (hl : Bytes w (some ⟨b, off, none⟩) 4 l) :
    Calls Try.prog 50 #[.slice (some ⟨b, off, none⟩) 4 cap] w fun e w' => e = .returned (.agg (l.map (Value.int .u8)).toArray) ∧ Below w.heap.size w w' := by
  obtain ⟨z0, z1, z2, z3, rfl, e0, e1, e2, e3⟩ := four (w := w) (b := b) (off := off) l hl.1 (by
    obtain ⟨b', off', ha, hc⟩ := hl.2.2.2 (by omega)
    cases ha
    exact hc)
  clear hl
  have hcp : Sem.run Try.prog (Builtin.copy_ #[27, 27] 3 #[.slice (some ⟨w.heap.size + 1, 0, none⟩) 4 4, .slice (some ⟨b, off, none⟩) 4 cap])
      ((w.alloc (.cells #[.int .u8 0, .int .u8 0, .int .u8 0, .int .u8 0] 92)).alloc (.cells #[.int .u8 0, .int .u8 0, .int .u8 0, .int .u8 0] 92)) =
      .ok (.int .i64 4) ((w.alloc (.cells #[.int .u8 0, .int .u8 0, .int .u8 0, .int .u8 0] 92)).alloc (.cells #[.int .u8 z0, .int .u8 z1, .int .u8 z2, .int .u8 z3] 92)) := by
    have hb : b < w.heap.size := World.block_lt_of_cell? w _ e0
    exact copy_new (w.alloc (.cells #[.int .u8 0, .int .u8 0, .int .u8 0, .int .u8 0] 92)) (w.heap.size + 1) 4 cap b off 92 #[.int .u8 0, .int .u8 0, .int .u8 0, .int .u8 0] [z0, z1, z2, z3] (by simp) rfl rfl (by simp; exact Nat.lt_succ_of_lt hb) (by
      intro j hj
      rw [World.cell?_alloc_lt _ _ ⟨b, off + j, none⟩ hb]
      match j, hj with
      | 0, _ => exact e0
      | 1, _ => exact e1
      | 2, _ => exact e2
      | 3, _ => exact e3)
  go_enter Try.func50, Try.ntmps50
  go_wp2
  refine bodyPost_ret (v := .agg #[.int .u8 z0, .int .u8 z1, .int .u8 z2, .int .u8 z3]) (by simp [results, Try.results50, go_sem]) rfl ⟨rfl, ?_⟩
  exact ((Below.refl _ _).alloc (Nat.le_refl _) _).alloc (by simp) _
end Go.Proofs.Ytfgonmgmoeoedaa

/-
  Plain mathematics: bytes read from the front (the numbers, then the blocks): if they are a frame's, it is that frame that is read.
-/
namespace Go.Proofs.Ytfgonmgmoeoedaa
namespace Mx

/-- behind k numbers: if the bytes are a frame's, these are its first numbers, and here they end -/
def NumsTo (l : List Int) (k : Nat) (nums : List Int) (at_ : Nat) : Prop :=
  ∀ kind nums' nb bs, IsFrame l kind nums' nb bs → nums = nums'.take k ∧ at_ = 2 + (numB (nums'.take k)).length

theorem NumsTo.start (l : List Int) : NumsTo l 0 [] 2 := fun _ _ _ _ _ => ⟨by simp, by simp [numB]⟩

theorem packB_eq (kind : Int) (nums : List Int) (nb : Nat) (bs : List Int) :
    packB kind nums nb bs = (16 * kind + (nums.length : Int)) :: (nb : Int) :: (numB nums ++ (bs ++ sealB (crc (bodyB kind nums nb bs)))) := by
  simp [packB, bodyB]

theorem IsFrame.head {l : List Int} {kind : Int} {nums : List Int} {nb : Nat} {bs : List Int} (h : IsFrame l kind nums nb bs) :
    l.getD 0 0 = 16 * kind + (nums.length : Int) ∧ l.getD 1 0 = (nb : Int) ∧ l.length = 6 + (numB nums).length + 8 * nb ∧ 0 ≤ kind ∧ kind ≤ 15 ∧ nums.length ≤ 12 ∧ nb ≤ 32 := by
  obtain ⟨m1, m2, m3, m4⟩ := h
  obtain ⟨a1, a2, a3, a4, a5⟩ := may_facts m1
  rw [packB_eq] at m4
  refine ⟨by rw [← m4]; rfl, by rw [← m4]; rfl, ?_, a1, a2, a3, a4⟩
  rw [← m4]
  simp [m2, sealB_len]
  omega

theorem numB_append (a b : List Int) : numB (a ++ b) = numB a ++ numB b := by simp [numB]

theorem IsFrame.drop {l : List Int} {kind : Int} {nums : List Int} {nb : Nat} {bs : List Int} (h : IsFrame l kind nums nb bs) (k : Nat) :
    l.drop (2 + (numB (nums.take k)).length) = numB (nums.drop k) ++ (bs ++ sealB (crc (bodyB kind nums nb bs))) := by
  rw [← h.2.2.2, packB_eq, Nat.add_comm]
  simp only [List.drop_succ_cons]
  conv => lhs; rw [← List.take_append_drop k nums, numB_append, List.append_assoc]
  rw [List.take_append_drop k nums]
  exact List.drop_left

/-- the number that comes next -/
theorem IsFrame.next {l : List Int} {kind : Int} {nums : List Int} {nb : Nat} {bs : List Int} (h : IsFrame l kind nums nb bs) (k : Nat) (hk : k < nums.length) :
    ∃ x : Nat, x ≤ 2147483647 ∧ nums.take (k + 1) = nums.take k ++ [(x : Int)] ∧ (∃ t, l.drop (2 + (numB (nums.take k)).length) = groups x ++ t ∧ 4 ≤ t.length) ∧
      (numB (nums.take (k + 1))).length = (numB (nums.take k)).length + (groups x).length := by
  have hm := (may_facts h.1).2.2.2.2 nums[k] (List.getElem_mem hk)
  obtain ⟨x, hx⟩ := Int.eq_ofNat_of_zero_le hm.1
  refine ⟨x, by omega, by rw [List.take_succ_eq_append_getElem hk, hx], ?_, ?_⟩
  · rw [h.drop k, List.drop_eq_getElem_cons hk]
    refine ⟨numB (nums.drop (k + 1)) ++ (bs ++ sealB (crc (bodyB kind nums nb bs))), ?_, by simp [sealB_len]; omega⟩
    have e : ∀ z (l : List Int), numB (z :: l) = groups z.toNat ++ numB l := fun z l => by simp [numB]
    rw [e, hx, List.append_assoc]
    rfl
  · rw [List.take_succ_eq_append_getElem hk, numB_append, List.length_append, hx]
    simp [numB]

/-- the inner reading: j high bytes, and no end -/
theorem NumsTo.more {l : List Int} {k : Nat} {nums : List Int} {at_ j : Nat} (h : NumsTo l k nums at_) (hk : (k : Int) < l.getD 0 0 % 16) (hj : at_ + j ≤ l.length) (hh : High ((l.drop at_).take j))
    (hend : l.length ≤ at_ + j + 4 ∨ 5 ≤ j) : ∀ kind nums' nb bs, ¬ IsFrame l kind nums' nb bs := by
  intro kind nums' nb bs hf
  obtain ⟨e1, e2⟩ := h _ _ _ _ hf
  obtain ⟨d1, d2, d3, d4, d5, d6, d7⟩ := hf.head
  obtain ⟨x, hx, _, ⟨t, ht, ht4⟩, _⟩ := hf.next k (by omega)
  rw [← e2] at ht
  obtain ⟨s1, s2, _⟩ := scan _ x j hx t ht (by rw [List.length_drop]; omega) hh
  have hl := congrArg List.length ht
  rw [List.length_drop, List.length_append] at hl
  omega

/-- .. a low byte: the number is there -/
theorem NumsTo.step {l : List Int} {k : Nat} {nums : List Int} {at_ j c Z : Nat} (h : NumsTo l k nums at_) (hk : (k : Int) < l.getD 0 0 % 16) (hj : at_ + j < l.length) (hh : High ((l.drop at_).take j)) (hc : l.getD (at_ + j) 0 = (c : Int)) (hc2 : (c : Int) < 128)
    (hZ : Z = gval ((l.drop at_).take (j + 1))) : NumsTo l (k + 1) (nums ++ [(Z : Int)]) (at_ + j + 1) := by
  intro kind nums' nb bs hf
  obtain ⟨e1, e2⟩ := h _ _ _ _ hf
  obtain ⟨d1, d2, d3, d4, d5, d6, d7⟩ := hf.head
  obtain ⟨x, hx, hx2, ⟨t, ht, ht4⟩, hx3⟩ := hf.next k (by omega)
  rw [← e2] at ht
  obtain ⟨_, _, s3⟩ := scan _ x j hx t ht (by rw [List.length_drop]; omega) hh
  have hd : (l.drop at_).drop j = (c : Int) :: (l.drop at_).drop (j + 1) := by
    apply drop_at
    · rw [List.length_drop]; omega
    · rw [List.getD_eq_getElem?_getD, List.getElem?_drop, ← List.getD_eq_getElem?_getD]; exact hc
  obtain ⟨s4, s5, _, _⟩ := s3 _ _ hd hc2
  rw [← hZ] at s5
  refine ⟨by rw [hx2, ← e1, s5], by rw [hx3]; omega⟩

/-- behind all numbers -/
theorem NumsTo.done {l : List Int} {k : Nat} {nums : List Int} {at_ : Nat} (h : NumsTo l k nums at_) (hk : l.getD 0 0 % 16 = (k : Int)) :
    ∀ kind nums' nb bs, IsFrame l kind nums' nb bs → nums = nums' ∧ at_ = 2 + (numB nums').length ∧ l.length = at_ + 8 * nb + 4 ∧ l.getD 1 0 = (nb : Int) ∧ kind = l.getD 0 0 / 16 ∧ bs = (l.drop at_).take (8 * nb) := by
  intro kind nums' nb bs hf
  obtain ⟨e1, e2⟩ := h _ _ _ _ hf
  obtain ⟨d1, d2, d3, d4, d5, d6, d7⟩ := hf.head
  have ht : nums'.take k = nums' := List.take_of_length_le (by omega)
  rw [ht] at e1 e2
  have hd := hf.drop k
  have hdn : nums'.drop k = [] := List.drop_eq_nil_of_le (by omega)
  rw [ht, hdn, ← e2] at hd
  refine ⟨e1, e2, by omega, d2, by omega, ?_⟩
  rw [hd, show numB [] = [] from rfl, List.nil_append, List.take_append_of_le_length (by rw [hf.2.1]; omega), List.take_of_length_le (by rw [hf.2.1]; omega)]
end Mx
end Go.Proofs.Ytfgonmgmoeoedaa

/-
  Numbers and blocks that the call itself gathers, and a frame's box that it writes into.
-/
namespace Go.Proofs.Ytfgonmgmoeoedaa
open Go.RowKit

/-- the call's own numbers; its own blocks -/
def OwnI (w : World) (base : Nat) (v : Value) (l : List Int) : Prop := w.ownsRow base 3 1 v l.length (l.map (Value.int .i64))
def OwnB (w : World) (base : Nat) (v : Value) (n : Nat) (bs : List Int) : Prop := bs.length = 8 * n ∧ w.ownsRow base 79 8 v n (bs.map (Value.int .u8))

theorem Try.info3 : (Try.prog.info? 3).map (fun i => (i.zero, i.size, i.bytes)) = some (some (.int .i64 0), 1, 8) := by kernel_rfl
theorem Try.info79 : (Try.prog.info? 79).map (fun i => (i.zero, i.size, i.bytes)) = some (some (.agg #[.int .u8 0, .int .u8 0, .int .u8 0, .int .u8 0, .int .u8 0, .int .u8 0, .int .u8 0, .int .u8 0]), 8, 8) := by kernel_rfl

theorem OwnI.nil (w : World) (base : Nat) : OwnI w base (.slice none 0 0) [] := World.ownsRow_nil w base 3 1
theorem OwnB.nil (w : World) (base : Nat) : OwnB w base (.slice none 0 0) 0 [] := ⟨rfl, World.ownsRow_nil w base 79 8⟩

theorem rowKept {w w' : World} {base e size : Nat} {v : Value} {n : Nat} {xs : List Value} (h : w.ownsRow base e size v n xs) (hb : Below w.heap.size w w') : w'.ownsRow base e size v n xs :=
  World.ownsRow.kept h (row := none) ⟨hb.os, hb.tape, hb.output, hb.size, fun k hk _ => hb.block k hk⟩ (by cases v.ownBlock <;> simp)

/-- one number more -/
theorem wpList_append_int {w : World} {ops : Array Oper} {rest : List Oper} {o : Oper} {a : Act} {Q : Exit → Act → World → Prop} (hgd : o.guard = none) (s x : Operand)
    (ho : o.op = .call { callee := .builtin .append, args := #[s, x], argTypes := #[37, 37] }) (base : Nat) (l : List Int) (hown : OwnI w base (a.eval s) l)
    (z : Int) (hx : a.eval x = .slice (some ⟨w.heap.size, 0, none⟩) 1 1) (h63 : l.length ≤ 1000000) (hbase : base ≤ w.heap.size)
    (h : ∀ ad c w', OwnI w' base (.slice (some ad) (l.length + 1) c) (l ++ [z]) → Below base w w' → base ≤ ad.block → wpList Try.prog ops Q rest (a.put o.dst (.slice (some ad) (l.length + 1) c)) w') :
    wpList Try.prog ops Q (o :: rest) a (w.alloc (.cells #[.int .i64 z] 3)) := by
  obtain ⟨i0, hi, hz0, hz1, hz2⟩ := info_parts Try.info3
  refine wpList_append_own _ hgd s x 37 ho base 3 i0 (.int .i64 0) 1 8 Try.underlying37 hi hz0 hz1 hz2 rfl (by decide) (a.eval s) l.length (l.map (Value.int .i64)) rfl (World.ownsRow.alloc hown _) ⟨w.heap.size, 0, none⟩ 1 1 [.int .i64 z] hx (by simp) ?_ ?_ (by unfold maxLen; omega) (by omega) (by simp; omega) ?_
  · intro j u hj
    match j, hj with
    | 0, hj => simp at hj; subst hj; simp [Addr.add]
  · intro u hu
    simp at hu; subst hu; rfl
  · intro v' w' hown' hg _
    have hb : Below base w w' := ((Below.refl base w).alloc hbase _).grown hg (by simp; omega) (fun k hk => (World.ownsRow.lt hown k hk).1)
    have hI : OwnI w' base v' (l ++ [z]) := by
      unfold OwnI
      rw [List.length_append, List.map_append]
      exact hown'
    rcases hown'.2 with ⟨_, hz⟩ | ⟨g, cap, cur, rfl, hbg, _⟩
    · simp at hz
    · exact h _ _ w' hI hb hbg

/-- one block more -/
theorem wpList_append_block {w : World} {ops : Array Oper} {rest : List Oper} {o : Oper} {a : Act} {Q : Exit → Act → World → Prop} (hgd : o.guard = none) (s x : Operand)
    (ho : o.op = .call { callee := .builtin .append, args := #[s, x], argTypes := #[38, 38] }) (base n : Nat) (bs : List Int) (hown : OwnB w base (a.eval s) n bs)
    (zs : List Int) (hz8 : zs.length = 8) (arr : Array Value) (harr : arr = (zs.map (Value.int .u8)).toArray) (hx : a.eval x = .slice (some ⟨w.heap.size, 0, none⟩) 1 1) (h63 : n ≤ 1000000) (hbase : base ≤ w.heap.size)
    (h : ∀ ad c w', OwnB w' base (.slice (some ad) (n + 1) c) (n + 1) (bs ++ zs) → Below base w w' → base ≤ ad.block → wpList Try.prog ops Q rest (a.put o.dst (.slice (some ad) (n + 1) c)) w') :
    wpList Try.prog ops Q (o :: rest) a (w.alloc (.cells arr 79)) := by
  obtain ⟨i0, hi, hz0, hz1, hz2⟩ := info_parts Try.info79
  refine wpList_append_own _ hgd s x 38 ho base 79 i0 _ 8 8 Try.underlying38 hi hz0 hz1 hz2 rfl (by decide) (a.eval s) n (bs.map (Value.int .u8)) rfl (World.ownsRow.alloc hown.2 _) ⟨w.heap.size, 0, none⟩ 1 1 (zs.map (Value.int .u8)) hx (by simp [hz8]) (cell_newsT w zs arr 79 harr) ?_ (by unfold maxLen; omega) (by omega) (by simp; omega) ?_
  · intro u hu
    obtain ⟨z, _, rfl⟩ := List.mem_map.1 hu
    rfl
  · intro v' w' hown' hg _
    have hb : Below base w w' := ((Below.refl base w).alloc hbase _).grown hg (by simp; omega) (fun k hk => (World.ownsRow.lt hown.2 k hk).1)
    have hI : OwnB w' base v' (n + 1) (bs ++ zs) := ⟨by rw [List.length_append, hown.1, hz8]; omega, by rw [List.map_append]; exact hown'⟩
    rcases hown'.2 with ⟨_, hz⟩ | ⟨g, cap, cur, rfl, hbg, _⟩
    · simp at hz
    · exact h _ _ w' hI hb hbg

/-- what is gathered reads as numbers, as blocks -/
theorem OwnI.ints {w : World} {base : Nat} {v : Value} {l : List Int} (h : OwnI w base v l) : ∃ a c, v = .slice a l.length c ∧ Ints w a l.length l := by
  rcases h.2 with ⟨hv, hz⟩ | ⟨g, cap, cur, hv, _, hh, hle, hmx, _⟩
  · have hnil : l = [] := List.eq_nil_of_length_eq_zero hz
    subst hnil
    exact ⟨none, 0, hv, rfl, by unfold maxLen; simp, fun h => absurd h (by simp)⟩
  · have hc := World.ownsRow.cells h (g := g) (by rw [hv]; rfl)
    refine ⟨_, cap, hv, rfl, by omega, fun _ => ⟨g, 0, rfl, (Array.getElem?_eq_some_iff.1 hh).1, fun i hi => ?_⟩⟩
    have := hc i (.int .i64 (l.getD i 0)) (by rw [List.getElem?_map, List.getD_eq_getElem?_getD, List.getElem?_eq_getElem hi]; rfl)
    have hadd : (⟨g, 0, none⟩ : Addr).add i = ⟨g, 0 + i, none⟩ := by unfold Addr.add; split <;> simp_all
    rw [← hadd]
    exact this

theorem OwnB.blks {w : World} {base n : Nat} {v : Value} {bs : List Int} (h : OwnB w base v n bs) (hb : ∀ x ∈ bs, 0 ≤ x ∧ x ≤ 255) : ∃ a c, v = .slice a n c ∧ Blks w a n bs := by
  obtain ⟨h8, h⟩ := h
  rcases h.2 with ⟨hv, hz⟩ | ⟨g, cap, cur, hv, _, hh, hle, hmx, _⟩
  · subst hz
    exact ⟨none, 0, hv, h8, by unfold maxLen; simp, hb, fun h => absurd h (by simp)⟩
  · have hc := World.ownsRow.cells h (g := g) (by rw [hv]; rfl)
    refine ⟨_, cap, hv, h8, by omega, hb, fun _ => ⟨g, 0, rfl, (Array.getElem?_eq_some_iff.1 hh).1, fun i hi => ?_⟩⟩
    have := hc i (.int .u8 (bs.getD i 0)) (by rw [List.getElem?_map, List.getD_eq_getElem?_getD, List.getElem?_eq_getElem (show i < bs.length by omega)]; rfl)
    have hadd : (⟨g, 0, none⟩ : Addr).add i = ⟨g, 0 + i, none⟩ := by unfold Addr.add; split <;> simp_all
    rw [← hadd]
    exact this

/-- a frame's box, whole -/
def BoxAt (w : World) (g : Nat) (s0 s1 s2 : Value) : Prop := w.heap[g]? = some (.cells #[s0, s1, s2] 40 (0, 0))

theorem BoxAt.cell0 {w : World} {g : Nat} {s0 s1 s2 : Value} (h : BoxAt w g s0 s1 s2) : w.cell? ⟨g, 0, none⟩ = some s0 := by unfold World.cell?; rw [h]; rfl
theorem BoxAt.cell1 {w : World} {g : Nat} {s0 s1 s2 : Value} (h : BoxAt w g s0 s1 s2) : w.cell? ⟨g, 1, none⟩ = some s1 := by unfold World.cell?; rw [h]; rfl
theorem BoxAt.cell2 {w : World} {g : Nat} {s0 s1 s2 : Value} (h : BoxAt w g s0 s1 s2) : w.cell? ⟨g, 2, none⟩ = some s2 := by unfold World.cell?; rw [h]; rfl
theorem BoxAt.frozen {w : World} {g : Nat} {s0 s1 s2 : Value} (h : BoxAt w g s0 s1 s2) (o : Nat) : w.frozen? ⟨g, o, none⟩ = false := by unfold World.frozen?; rw [h]; simp
theorem BoxAt.lt {w : World} {g : Nat} {s0 s1 s2 : Value} (h : BoxAt w g s0 s1 s2) : g < w.heap.size := (Array.getElem?_eq_some_iff.1 h).1
theorem BoxAt.later {w w' : World} {g B : Nat} {s0 s1 s2 : Value} (h : BoxAt w g s0 s1 s2) (hb : Below B w w') (hg : g < B) : BoxAt w' g s0 s1 s2 := (hb.block g hg).trans h
theorem BoxAt.other {w : World} {g : Nat} {s0 s1 s2 : Value} (h : BoxAt w g s0 s1 s2) (p : Addr) (v : Value) (hp : g ≠ p.block) : BoxAt (w.setCell p v) g s0 s1 s2 := (Below.heap_setCell w p v g hp).trans h
theorem BoxAt.set0 {w : World} {g : Nat} {s0 s1 s2 : Value} (h : BoxAt w g s0 s1 s2) (v : Value) : BoxAt (w.setCell ⟨g, 0, none⟩ v) g v s1 s2 := by
  unfold BoxAt at *
  simp [World.setCell, Array.getElem?_modify, h]
theorem BoxAt.set1 {w : World} {g : Nat} {s0 s1 s2 : Value} (h : BoxAt w g s0 s1 s2) (v : Value) : BoxAt (w.setCell ⟨g, 1, none⟩ v) g s0 v s2 := by
  unfold BoxAt at *
  simp [World.setCell, Array.getElem?_modify, h]
theorem BoxAt.set2 {w : World} {g : Nat} {s0 s1 s2 : Value} (h : BoxAt w g s0 s1 s2) (v : Value) : BoxAt (w.setCell ⟨g, 2, none⟩ v) g s0 s1 v := by
  unfold BoxAt at *
  simp [World.setCell, Array.getElem?_modify, h]
/-- the three cells of a box, stored one behind the other -/
theorem BoxAt.stored {w : World} {g : Nat} {s0 s1 s2 : Value} (h : BoxAt w g s0 s1 s2) (x y z : Value) :
    (w.setCell ⟨g, 0, none⟩ x).cell? ⟨g, 0, none⟩ = some x ∧ ((w.setCell ⟨g, 0, none⟩ x).setCell ⟨g, 1, none⟩ y).cell? ⟨g, 1, none⟩ = some y ∧
    (((w.setCell ⟨g, 0, none⟩ x).setCell ⟨g, 1, none⟩ y).setCell ⟨g, 2, none⟩ z).cell? ⟨g, 2, none⟩ = some z :=
  ⟨(h.set0 x).cell0, ((h.set0 x).set1 y).cell1, (((h.set0 x).set1 y).set2 z).cell2⟩
theorem below_stored {B g : Nat} {w w' : World} (h : Below B w w') (hg : B ≤ g) (x y z : Value) : Below B w (((w'.setCell ⟨g, 0, none⟩ x).setCell ⟨g, 1, none⟩ y).setCell ⟨g, 2, none⟩ z) :=
  ((h.setCell (p := ⟨g, 0, none⟩) hg x).setCell (p := ⟨g, 1, none⟩) hg y).setCell (p := ⟨g, 2, none⟩) hg z
theorem heap_stored (w : World) (g k : Nat) (h : k ≠ g) (x y z : Value) : (((w.setCell ⟨g, 0, none⟩ x).setCell ⟨g, 1, none⟩ y).setCell ⟨g, 2, none⟩ z).heap[k]? = w.heap[k]? := by
  rw [Below.heap_setCell _ _ _ _ h, Below.heap_setCell _ _ _ _ h, Below.heap_setCell _ _ _ _ h]
theorem Ints.stored {w : World} {a : Option Addr} {n : Nat} {l : List Int} (h : Ints w a n l) (g : Nat) (hg : ∀ p, a = some p → g < p.block) (x y z : Value) : Ints (((w.setCell ⟨g, 0, none⟩ x).setCell ⟨g, 1, none⟩ y).setCell ⟨g, 2, none⟩ z) a n l := by
  obtain ⟨h1, h2, h4⟩ := h
  refine ⟨h1, h2, fun hp => ?_⟩
  obtain ⟨b, off, ha, hlt, hc⟩ := h4 hp
  have hb := hg _ ha
  refine ⟨b, off, ha, by simpa [World.setCell] using hlt, fun i hi => ?_⟩
  rw [World.cell?_of_block (w := w) (a := ⟨b, off + i, none⟩) (heap_stored w g b (by simp at hb; omega) x y z)]
  exact hc i hi
theorem Blks.stored {w : World} {a : Option Addr} {n : Nat} {l : List Int} (h : Blks w a n l) (g : Nat) (hg : ∀ p, a = some p → g < p.block) (x y z : Value) : Blks (((w.setCell ⟨g, 0, none⟩ x).setCell ⟨g, 1, none⟩ y).setCell ⟨g, 2, none⟩ z) a n l := by
  obtain ⟨h1, h2, h3, h4⟩ := h
  refine ⟨h1, h2, h3, fun hp => ?_⟩
  obtain ⟨b, off, ha, hlt, hc⟩ := h4 hp
  have hb := hg _ ha
  refine ⟨b, off, ha, by simpa [World.setCell] using hlt, fun i hi => ?_⟩
  rw [World.cell?_of_block (w := w) (a := ⟨b, off + i, none⟩) (heap_stored w g b (by simp at hb; omega) x y z)]
  exact hc i hi
theorem OwnI.above {w : World} {base n c : Nat} {a : Option Addr} {l : List Int} (h : OwnI w base (.slice a n c) l) : ∀ p, a = some p → base ≤ p.block := fun p hp => (World.ownsRow.lt h p.block (by rw [hp]; rfl)).1
theorem OwnB.above {w : World} {base m n c : Nat} {a : Option Addr} {l : List Int} (h : OwnB w base (.slice a n c) m l) : ∀ p, a = some p → base ≤ p.block := fun p hp => (World.ownsRow.lt h.2 p.block (by rw [hp]; rfl)).1
theorem BoxAt.new (w : World) (s0 s1 s2 : Value) : BoxAt (w.alloc (.cells #[s0, s1, s2] 40)) w.heap.size s0 s1 s2 := heap_alloc_new w _
theorem OwnI.cap {w : World} {base n c : Nat} {a : Option Addr} {l : List Int} (h : OwnI w base (.slice a n c) l) : n ≤ c := by
  rcases h.2 with ⟨hv, _⟩ | ⟨g, cap, cur, hv, _, _, hle, _⟩
  · cases hv
    exact Nat.le_refl _
  · cases hv
    exact hle
theorem OwnB.cap {w : World} {base m n c : Nat} {a : Option Addr} {l : List Int} (h : OwnB w base (.slice a n c) m l) : n ≤ c := by
  rcases h.2.2 with ⟨hv, _⟩ | ⟨g, cap, cur, hv, _, _, hle, _⟩
  · cases hv
    exact Nat.le_refl _
  · cases hv
    exact hle
end Go.Proofs.Ytfgonmgmoeoedaa

/-
  The document's own reading (Unpacked): the frame that bytes are, or that they are none.
-/
namespace Go.Proofs.Ytfgonmgmoeoedaa
open Go.RowKit

theorem frame_long {l : List Int} (h : l.length < 6) : ∀ kind nums nb bs, ¬ Mx.IsFrame l kind nums nb bs := fun _ _ _ _ hf => by
  have := hf.head
  omega

/-- what is handed back: a frame, or none -/
def Told (w w' : World) (l : List Int) (e : Ending) (yes no : Value) : Prop :=
  (∃ kind nums nb bs a1 c1 a2 c2, e = .returned (.tuple #[.agg #[.int .i64 kind, .slice a1 nums.length c1, .slice a2 nb c2], yes]) ∧ Mx.IsFrame l kind nums nb bs ∧ Ints w' a1 nums.length nums ∧ Blks w' a2 nb bs ∧ Below w.heap.size w w') ∨
  (e = .returned (.tuple #[.agg #[.int .i64 0, .slice none 0 0, .slice none 0 0], no]) ∧ (∀ kind nums nb bs, ¬ Mx.IsFrame l kind nums nb bs) ∧ Below w.heap.size w w')
/-- and where it lies -/
def ToldA (w w' : World) (l : List Int) (e : Ending) (yes no : Value) : Prop :=
  (∃ kind nums nb bs a1 c1 a2 c2, e = .returned (.tuple #[.agg #[.int .i64 kind, .slice a1 nums.length c1, .slice a2 nb c2], yes]) ∧ Mx.IsFrame l kind nums nb bs ∧ Ints w' a1 nums.length nums ∧ Blks w' a2 nb bs ∧ (∀ p, a1 = some p → w.heap.size ≤ p.block) ∧ (∀ p, a2 = some p → w.heap.size ≤ p.block) ∧ nums.length ≤ c1 ∧ nb ≤ c2 ∧ Below w.heap.size w w') ∨
  (e = .returned (.tuple #[.agg #[.int .i64 0, .slice none 0 0, .slice none 0 0], no]) ∧ (∀ kind nums nb bs, ¬ Mx.IsFrame l kind nums nb bs) ∧ Below w.heap.size w w')
theorem ToldA.told {w w' : World} {l : List Int} {e : Ending} {yes no : Value} (h : ToldA w w' l e yes no) : Told w w' l e yes no := by
  rcases h with ⟨k, nums, nb, bs, a1, c1, a2, c2, h1, h2, h3, h4, _, _, _, _, h5⟩ | h
  · exact .inl ⟨k, nums, nb, bs, a1, c1, a2, c2, h1, h2, h3, h4, h5⟩
  · exact .inr h

/-- what the reading keeps: its two boxes, and all that was there -/
def UInv (w wr : World) (s0 v1 v2 : Value) : Prop :=
  BoxAt wr w.heap.size (.int .i64 0) (.slice none 0 0) (.slice none 0 0) ∧ BoxAt wr (w.heap.size + 1) s0 v1 v2 ∧ Below w.heap.size w wr ∧ w.heap.size + 2 ≤ wr.heap.size

theorem UInv.start (w : World) (s0 : Value) : UInv w ((w.alloc (.cells #[.int .i64 0, .slice none 0 0, .slice none 0 0] 40)).alloc (.cells #[s0, .slice none 0 0, .slice none 0 0] 40)) s0 (.slice none 0 0) (.slice none 0 0) := by
  refine ⟨?_, ?_, ((Below.refl _ _).alloc (Nat.le_refl _) _).alloc (by simp) _, by simp⟩
  · exact (BoxAt.new w _ _ _).later (B := w.heap.size + 1) ((Below.refl _ _).alloc (by simp) _) (by omega)
  · have := BoxAt.new (w.alloc (.cells #[.int .i64 0, .slice none 0 0, .slice none 0 0] 40)) s0 (.slice none 0 0) (.slice none 0 0)
    simpa using this

theorem UInv.later {w wr w' : World} {s0 v1 v2 : Value} (h : UInv w wr s0 v1 v2) (hb : Below (w.heap.size + 2) wr w') : UInv w w' s0 v1 v2 :=
  ⟨h.1.later hb (by omega), h.2.1.later hb (by omega), h.2.2.1.trans (hb.mono (by omega)), by have := hb.size; have := h.2.2.2; omega⟩

theorem UInv.set1 {w wr : World} {s0 v1 v2 : Value} (h : UInv w wr s0 v1 v2) (v : Value) : UInv w (wr.setCell ⟨w.heap.size + 1, 1, none⟩ v) s0 v v2 :=
  ⟨h.1.other _ _ (by simp), h.2.1.set1 v, h.2.2.1.setCell (by simp) v, by have := h.2.2.2; simpa [World.setCell] using this⟩

theorem UInv.set2 {w wr : World} {s0 v1 v2 : Value} (h : UInv w wr s0 v1 v2) (v : Value) : UInv w (wr.setCell ⟨w.heap.size + 1, 2, none⟩ v) s0 v1 v :=
  ⟨h.1.other _ _ (by simp), h.2.1.set2 v, h.2.2.1.setCell (by simp) v, by have := h.2.2.2; simpa [World.setCell] using this⟩

theorem UInv.facts {w wr : World} {s0 v1 v2 : Value} (h : UInv w wr s0 v1 v2) :
    wr.cell? ⟨w.heap.size + 1, 0, none⟩ = some s0 ∧ wr.cell? ⟨w.heap.size + 1, 1, none⟩ = some v1 ∧ wr.cell? ⟨w.heap.size + 1, 2, none⟩ = some v2 ∧ (∀ o, wr.frozen? ⟨w.heap.size + 1, o, none⟩ = false) ∧
    wr.cell? ⟨w.heap.size, 0, none⟩ = some (.int .i64 0) ∧ wr.cell? ⟨w.heap.size, 1, none⟩ = some (.slice none 0 0) ∧ wr.cell? ⟨w.heap.size, 2, none⟩ = some (.slice none 0 0) ∧ (∀ o, wr.frozen? ⟨w.heap.size, o, none⟩ = false) ∧
    w.heap.size < wr.heap.size ∧ w.heap.size + 1 < wr.heap.size :=
  ⟨h.2.1.cell0, h.2.1.cell1, h.2.1.cell2, h.2.1.frozen, h.1.cell0, h.1.cell1, h.1.cell2, h.1.frozen, h.1.lt, h.2.1.lt⟩

theorem pow_big (j P : Nat) (hP : P = 128 ^ j) (h : (1099511627776 : Int) < P) : 5 ≤ j := by
  rcases Nat.lt_or_ge j 5 with hj | hj
  · have := Nat.pow_le_pow_right (n := 128) (by omega) (show j ≤ 4 by omega)
    omega
  · exact hj

theorem pow_small (j P : Nat) (hP : P = 128 ^ j) (h : ¬ (1099511627776 : Int) < P) : j + 1 ≤ 6 := by
  rcases Nat.lt_or_ge j 6 with hj | hj
  · omega
  · have := Nat.pow_le_pow_right (n := 128) (by omega) hj
    omega

theorem take_next (l : List Int) (A j c : Nat) (hj : A + j < l.length) (hc : l.getD (A + j) 0 = (c : Int)) : (l.drop A).take (j + 1) = (l.drop A).take j ++ [(c : Int)] := by
  apply Mx.take_snoc
  · rw [List.length_drop]; omega
  · rw [List.getD_eq_getElem?_getD, List.getElem?_drop, ← List.getD_eq_getElem?_getD]; exact hc

theorem high_more (l : List Int) (A j c : Nat) (hj : A + j < l.length) (hh : Mx.High ((l.drop A).take j)) (hc : l.getD (A + j) 0 = (c : Int)) (h1 : 128 ≤ (c : Int)) (h2 : c ≤ 255) : Mx.High ((l.drop A).take (j + 1)) :=
  high_snoc (l.drop A) j c hh (take_next l A j c hj hc) h1 h2

theorem wrap_two (V q P : Nat) (h1 : V < P) (h2 : q ≤ 127 * P) (hb : (P : Int) ≤ 1099511627776) : wrap64 ((V : Int) + wrap64 (q : Int)) = ((V + q : Nat) : Int) := by
  rw [IntWalk.wrap64_in (q : Int) (by omega), IntWalk.wrap64_in _ (by omega)]
  omega

theorem num_wrap (l : List Int) (A j V P c : Nat) (hj : A + j < l.length) (hP : P = 128 ^ j) (hb : (P : Int) ≤ 1099511627776) (hV : V = Mx.gval ((l.drop A).take j)) (hc : l.getD (A + j) 0 = (c : Int)) :
    wrap64 ((V : Int) + wrap64 ((c : Int) % 128 * (P : Int))) = (Mx.gval ((l.drop A).take (j + 1)) : Int) := by
  have hl : ((l.drop A).take j).length = j := by rw [List.length_take, List.length_drop]; omega
  have e : Mx.gval ((l.drop A).take (j + 1)) = V + c % 128 * P := by
    rw [take_next l A j c hj hc, Mx.gval_snoc, ← hV, hl, hP, Int.toNat_natCast]
  have h1 : V < P := by
    have := Mx.gval_lt ((l.drop A).take j)
    rw [hl, ← hV, ← hP] at this
    exact this
  have h2 : c % 128 * P ≤ 127 * P := Nat.mul_le_mul (by omega) (Nat.le_refl _)
  have e2 : (c : Int) % 128 * (P : Int) = ((c % 128 * P : Nat) : Int) := by simp
  rw [e2, e]
  exact wrap_two V _ P h1 h2 hb

/-- an array of eight bytes of which the first j are laid -/
def fill8 (zs : List Int) (j : Nat) : Array Value := ((zs.take j ++ List.replicate (8 - j) 0).map (Value.int .u8)).toArray

theorem fill8_zero (zs : List Int) : fill8 zs 0 = #[.int .u8 0, .int .u8 0, .int .u8 0, .int .u8 0, .int .u8 0, .int .u8 0, .int .u8 0, .int .u8 0] := rfl

theorem fill8_all (zs : List Int) (h : zs.length = 8) : fill8 zs 8 = (zs.map (Value.int .u8)).toArray := by
  unfold fill8
  rw [List.take_of_length_le (by omega)]
  simp

theorem fill8_at (zs : List Int) (j : Nat) (h : zs.length = 8) (hj : j < 8) : (fill8 zs j)[j]? = some (.int .u8 0) := by
  unfold fill8
  simp only [List.getElem?_toArray, List.getElem?_map]
  rw [List.getElem?_append_right (by rw [List.length_take]; omega), List.length_take, Nat.min_eq_left (by omega), Nat.sub_self, List.getElem?_replicate, if_pos (by omega)]
  rfl

theorem fill8_set (zs : List Int) (j : Nat) (z : Int) (h : zs.length = 8) (hj : j < 8) (hz : zs.getD j 0 = z) : (fill8 zs j).setIfInBounds j (.int .u8 z) = fill8 zs (j + 1) := by
  unfold fill8
  apply Array.ext'
  simp only [Array.toList_setIfInBounds]
  rw [List.map_append, List.set_append_right _ _ (by simp; omega)]
  rw [Mx.take_snoc zs j z (by omega) hz, show 8 - j = (8 - (j + 1)) + 1 by omega, List.replicate_succ]
  simp
  rw [show j - min j zs.length = 0 by omega]
  rfl

theorem list8 (zs : List Int) (h : zs.length = 8) : ∃ z0 z1 z2 z3 z4 z5 z6 z7, zs = [z0, z1, z2, z3, z4, z5, z6, z7] := by
  match zs, h with
  | [z0, z1, z2, z3, z4, z5, z6, z7], _ => exact ⟨z0, z1, z2, z3, z4, z5, z6, z7, rfl⟩

theorem block_more (l : List Int) (A m : Nat) (zs : List Int) (hz : zs = (l.drop (A + 8 * m)).take 8) : (l.drop A).take (8 * m) ++ zs = (l.drop A).take (8 * (m + 1)) := by
  rw [hz, ← List.drop_drop, show 8 * (m + 1) = 8 * m + 8 by omega, List.take_add]

theorem drop_getD (l : List Int) (A j : Nat) : (l.drop A).getD j 0 = l.getD (A + j) 0 := by
  rw [List.getD_eq_getElem?_getD, List.getElem?_drop, ← List.getD_eq_getElem?_getD]

theorem rowKeptBelow {w w' : World} {base e size n C : Nat} {v : Value} {xs : List Value} (h : w.ownsRow base e size v n xs) (hlt : ∀ g, v.ownBlock = some g → g < C) (hb : Below C w w') : w'.ownsRow base e size v n xs := by
  refine ⟨h.1, ?_⟩
  rcases h.2 with h2 | ⟨g, cap, cur, hv, hg, hh, r⟩
  · exact .inl h2
  · exact .inr ⟨g, cap, cur, hv, hg, (hb.block g (hlt g (by rw [hv]; rfl))).trans hh, r⟩

set_option maxHeartbeats 2000000 in
set_option maxRecDepth 100000 in
theorem unpacked_own (a : Option Addr) (len cap : Nat) (l : List Int) (w : World) (hl : Bytes w a len l) (hlen : len ≤ 2000) :
    Calls Try.prog 24 #[.slice a len cap] w fun e w' => ToldA w w' l e (.bool true) (.bool false) := by
  have HL := hide hl.1
  by_cases h6 : (len : Int) < 6
  · have HN := hide (frame_long (l := l) (by rw [HL.out]; omega))
    clear hl
    go_enter Try.func24, Try.ntmps24
    go_wp2
    refine bodyPost_ret (v := .tuple #[.agg #[.int .i64 0, .slice none 0 0, .slice none 0 0], .bool false]) (by simp [results, Try.results24, go_sem]) rfl (.inr ⟨rfl, HN.out, below_alloc _ _⟩)
  · obtain ⟨b, off, c0, rfl, hc0, hd0, hcell0, ht0⟩ := hl.at_ 0 (by omega)
    obtain ⟨b', off', c1, hbb, hc1, hd1, hcell1, ht1⟩ := hl.at_ 1 (by omega)
    cases hbb
    have hbs := World.block_lt_of_cell? w _ hcell0
    simp only [Nat.add_zero] at hcell0 hbs
    have HB := hide hl
    have H0 := hide hd0
    have H1 := hide hd1
    clear hl hd0 hd1 ht0 ht1
    go_enter Try.func24, Try.ntmps24
    go_wp2
    go_loopw [5, 6, 7, 8, 9] (fun p i _ _ _ wr => ∃ (k A : Nat) (nums : List Int) (v1 : Value), (k : Int) ≤ (c0 : Int) % 16 ∧ 2 ≤ A ∧ A + 4 ≤ len ∧ nums.length = k ∧ i = .int .i64 k ∧ p = .int .i64 A ∧ Hid (Mx.NumsTo l k nums A) ∧ Hid (OwnI wr (w.heap.size + 2) v1 nums) ∧ Hid (UInv w wr (.int .i64 ((c0 : Int) / 16)) v1 (.slice none 0 0)))
      (fun _ i _ _ _ _ => 16 - (intOf i).toNat)
    case atStart => exact ⟨0, 2, [], .slice none 0 0, by omega, by omega, by omega, rfl, rfl, rfl, Mx.NumsTo.start l, OwnI.nil _ _, UInv.start w _⟩
    case round =>
      obtain ⟨k, A, nums, v1, hk, hA2, hA, hnl, rfl, rfl, hN, hO, hU⟩ := hrel
      obtain ⟨f0, f1, f2, fz, g0, g1, g2, gz, s1, s2⟩ := hU.out.facts
      have hx0 : wr.cell? ⟨b, off, none⟩ = some (.int .u8 (c0 : Int)) := (hU.out.2.2.1.cell (p := ⟨b, off, none⟩) hbs).trans hcell0
      by_cases hlt : (k : Int) < (c0 : Int) % 16
      · obtain ⟨wo, rfl⟩ : ∃ wo : World, wo = wr := ⟨_, rfl⟩
        go_wp2
        go_loop [5, 7, 8, 9] (fun p n q _ => ∃ j V P : Nat, j ≤ 6 ∧ A + j + 4 ≤ len ∧ Hid (P = 128 ^ j) ∧ (1 : Int) ≤ P ∧ Hid (V = Mx.gval ((l.drop A).take j)) ∧ Hid (Mx.High ((l.drop A).take j)) ∧ p = .int .i64 ((A + j : Nat) : Int) ∧ n = .int .i64 V ∧ q = .int .i64 P)
          (fun p _ _ _ => len - (intOf p).toNat)
        case atStart => exact ⟨0, 0, 1, by omega, by omega, rfl, by omega, rfl, (fun c hc => absurd hc (by simp)), by simp, rfl, rfl⟩
        case round =>
          obtain ⟨j, V, P, hj6, hjl, hP, hP1, hV, hH, rfl, rfl, rfl⟩ := hrel
          by_cases hend : (A : Int) + j + 4 < len
          · by_cases hpl : (1099511627776 : Int) < P
            · have HN := hide (hN.out.more (j := j) (by rw [H0.out]; exact hlt) (by rw [HL.out]; omega) hH.out (.inr (pow_big j P hP.out hpl)))
              go_wp2_with fail
              obtain ⟨r0, r1, r2⟩ := hU.out.1.stored (.int .i64 0) (.slice none 0 0) (.slice none 0 0)
              exact bodyPost_ret (v := .tuple #[.agg #[.int .i64 0, .slice none 0 0, .slice none 0 0], .bool false]) (by simp [results, Try.results24, go_sem, r0, r1, r2]) rfl (.inr ⟨rfl, HN.out, below_stored hU.out.2.2.1 (Nat.le_refl _) _ _ _⟩)
            · obtain ⟨c, hcc, hd, hcx⟩ : ∃ c : Nat, c ≤ 255 ∧ l.getD (A + j) 0 = (c : Int) ∧ wo.cell? ⟨b, off + (A + j), none⟩ = some (.int .u8 (c : Int)) := by
                obtain ⟨b', off', c, hbb, e1, e2, e3, _⟩ := HB.out.at_ (A + j) (by omega)
                cases hbb
                exact ⟨c, e1, e2, (hU.out.2.2.1.cell (p := ⟨b, off + (A + j), none⟩) hbs).trans e3⟩
              have HD := hide hd
              clear hd
              obtain ⟨Z, hZ, hw⟩ : ∃ Z : Nat, Hid (Z = Mx.gval ((l.drop A).take (j + 1))) ∧ wrap64 ((V : Int) + wrap64 ((c : Int) % 128 * (P : Int))) = (Z : Int) :=
                ⟨_, rfl, num_wrap l A j V P c (by rw [HL.out]; omega) hP.out (by omega) hV.out HD.out⟩
              have HJ := hide (show A + j < l.length by rw [HL.out]; omega)
              go_wp2_with (at_builtin; refine wpList_append_int rfl _ _ rfl (w.heap.size + 2) nums hO.out (Z : Int) rfl ?c1 ?c2 ?_)
              case c1 => omega
              case c2 => omega
              · intro ad cc w' hown' hbel' had
                have hU' := hide (hU.out.later hbel')
                obtain ⟨f0', f1', f2', fz', g0', g1', g2', gz', s1', s2'⟩ := hU'.out.facts
                have HO' := hide hown'
                have hlow : (c : Int) < 128 := by assumption
                have HS := hide (hN.out.step (j := j) (c := c) (Z := Z) (by rw [H0.out]; exact hlt) HJ.out hH.out HD.out hlow hZ.out)
                clear hown' hbel'
                go_wp2_with fail
                go_roundw
                case rel =>
                  refine ⟨k + 1, A + j + 1, nums ++ [(Z : Int)], .slice (some ad) (k + 1) cc, by omega, by omega, by omega, by simp; omega, by go_num, by go_num, HS, ?_, hU'.out.set1 _⟩
                  have := ownsRow_setCell_below HO'.out (a := ⟨w.heap.size + 1, 1, none⟩) (by simp) (.slice (some ad) (k + 1) cc)
                  exact this
                case measure => simp [intOf]; omega
              · go_round
                case rel => exact ⟨j + 1, Z, P * 128, by have := hP.out; exact pow_small j P this hpl, by omega, by unfold Hid; rw [hP.out, Nat.pow_succ], by omega, hZ, high_more l A j c HJ.out hH.out HD.out ‹_› hcc, by go_num, by go_num, by go_num⟩
                case measure => simp [intOf]; omega
          · have HN := hide (hN.out.more (j := j) (by rw [H0.out]; exact hlt) (by rw [HL.out]; omega) hH.out (.inl (by rw [HL.out]; omega)))
            go_wp2_with fail
            obtain ⟨r0, r1, r2⟩ := hU.out.1.stored (.int .i64 0) (.slice none 0 0) (.slice none 0 0)
            exact bodyPost_ret (v := .tuple #[.agg #[.int .i64 0, .slice none 0 0, .slice none 0 0], .bool false]) (by simp [results, Try.results24, go_sem, r0, r1, r2]) rfl (.inr ⟨rfl, HN.out, below_stored hU.out.2.2.1 (Nat.le_refl _) _ _ _⟩)
      · have hkd : l.getD 0 0 % 16 = (k : Int) := by rw [H0.out]; omega
        have HD := hide (hN.out.done hkd)
        have HK := hide hkd
        obtain ⟨W3, hW3⟩ : ∃ W3 : Nat, Hid (W3 = wr.heap.size) := ⟨_, rfl⟩
        obtain ⟨wq, rfl⟩ : ∃ wq : World, wq = wr := ⟨_, rfl⟩
        clear hkd
        have HV1 := hide (show ∀ g, v1.ownBlock = some g → g < W3 by
          intro g hg
          rw [hW3.out]
          exact (World.ownsRow.lt hO.out g hg).2)
        have hW3b : w.heap.size + 2 ≤ W3 := by rw [hW3.out]; exact hU.out.2.2.2
        go_wp2
        go_loopw [3, 5, 10, 11, 12] (fun _ p i _ _ wr => ∃ (m : Nat) (v2 : Value), (m : Int) ≤ (c1 : Int) ∧ A + 8 * m + 4 ≤ len ∧ i = .int .i64 m ∧ p = .int .i64 ((A + 8 * m : Nat) : Int) ∧ Hid (OwnB wr W3 v2 m ((l.drop A).take (8 * m))) ∧ Hid (OwnI wr (w.heap.size + 2) v1 nums) ∧ Hid (UInv w wr (.int .i64 ((c0 : Int) / 16)) v1 v2) ∧ W3 ≤ wr.heap.size)
          (fun _ _ i _ _ _ => 256 - (intOf i).toNat)
        case atStart => exact ⟨0, .slice none 0 0, by omega, by omega, rfl, by simp, OwnB.nil _ _, hO, hU, by rw [hW3.out]; omega⟩
        case round =>
          clear f0 f1 f2 fz g0 g1 g2 gz s1 s2 hx0
          obtain ⟨m, v2, hm, hml, rfl, rfl, hB, hO3, hU3, hsz3⟩ := hrel
          obtain ⟨f0, f1, f2, fz, g0, g1, g2, gz, s1, s2⟩ := hU3.out.facts
          have hx1 : wr.cell? ⟨b, off + 1, none⟩ = some (.int .u8 (c1 : Int)) := (hU3.out.2.2.1.cell (p := ⟨b, off + 1, none⟩) hbs).trans hcell1
          clear hlt
          by_cases hlt : (m : Int) < (c1 : Int)
          · by_cases hfit : (A : Int) + 8 * m + 8 + 4 ≤ len
            · obtain ⟨wo, rfl⟩ : ∃ wo : World, wo = wr := ⟨_, rfl⟩
              obtain ⟨zs, hzs, hz8⟩ : ∃ zs : List Int, Hid (zs = (l.drop (A + 8 * m)).take 8) ∧ Hid (zs.length = 8) := ⟨_, rfl, by unfold Hid; rw [List.length_take, List.length_drop, HL.out]; omega⟩
              go_wp2
              go_loopw [12] (fun i wr => ∃ j : Nat, j ≤ 8 ∧ i = .int .i64 j ∧ wr = wo.alloc (.cells (fill8 zs j) 79)) (fun i _ => 8 - (intOf i).toNat)
              case atStart => exact ⟨0, by omega, rfl, rfl⟩
              case round =>
                obtain ⟨j, hj, rfl, rfl⟩ := hrel
                by_cases hj8 : (j : Int) < 8
                · obtain ⟨z, hzd, hcx⟩ : ∃ z : Int, zs.getD j 0 = z ∧ wo.cell? ⟨b, off + (A + 8 * m + j), none⟩ = some (.int .u8 z) := by
                    obtain ⟨b', off', c, hbb, e1, e2, e3, _⟩ := HB.out.at_ (A + 8 * m + j) (by omega)
                    cases hbb
                    refine ⟨(c : Int), ?_, (hU3.out.2.2.1.cell (p := ⟨b, off + (A + 8 * m + j), none⟩) hbs).trans e3⟩
                    rw [hzs.out, ← e2, ← drop_getD]
                    simp only [List.getD_eq_getElem?_getD]
                    rw [List.getElem?_take, if_pos (by omega)]
                  have hfa := fill8_at zs j hz8.out (by omega)
                  have HFS := hide (fill8_set zs j z hz8.out (by omega) hzd)
                  clear hzd
                  have hbw : b < wo.heap.size := by omega
                  go_wp2_with fail
                  go_roundw
                  case rel => exact ⟨j + 1, by omega, by go_num, by rw [HFS.out]⟩
                  case measure => simp [intOf]; omega
                · obtain rfl : j = 8 := by omega
                  rw [fill8_all zs hz8.out]
                  obtain ⟨z0, z1, z2, z3, z4, z5, z6, z7, rfl⟩ := list8 zs hz8.out
                  have HBS := hide (block_more l A m _ hzs.out)
                  go_wp2_with (at_builtin; refine wpList_append_block (w := wo.alloc (.cells #[.int .u8 z0, .int .u8 z1, .int .u8 z2, .int .u8 z3, .int .u8 z4, .int .u8 z5, .int .u8 z6, .int .u8 z7] 79)) rfl _ _ rfl W3 m ((l.drop A).take (8 * m)) ⟨hB.out.1, World.ownsRow.alloc hB.out.2 _⟩ [z0, z1, z2, z3, z4, z5, z6, z7] rfl _ rfl ?c0 ?c1 ?c2 ?_)
                  case c1 => omega
                  case c2 => omega
                  intro ad cc w' hown' hbel' had
                  have hbel2 := (((Below.refl W3 wo).alloc hsz3 _).trans hbel')
                  have hU' := hide (hU3.out.later (hbel2.mono hW3b))
                  obtain ⟨f0', f1', f2', fz', g0', g1', g2', gz', s1', s2'⟩ := hU'.out.facts
                  rw [HBS.out] at hown'
                  have HO' := hide hown'
                  have HI' := hide (rowKeptBelow hO3.out HV1.out hbel2)
                  have HSZ := hide hbel2.size
                  clear hown' hbel' hbel2
                  go_wp2_with fail
                  go_roundw
                  case rel =>
                    refine ⟨m + 1, .slice (some ad) (m + 1) cc, by omega, by omega, by go_num, by go_num, ⟨HO'.out.1, ownsRow_setCell_below HO'.out.2 (by show w.heap.size + 1 < W3; omega) _⟩, ownsRow_setCell_below HI'.out (by simp) _, hU'.out.set2 _, ?_⟩
                    have := HSZ.out
                    simp [World.setCell]; omega
                  case measure => simp [intOf]; omega
            · have HN := hide (show ∀ kind nums nb bs, ¬ Mx.IsFrame l kind nums nb bs by
                intro kind nums' nb bs hf
                obtain ⟨_, _, h3, h4, _⟩ := HD.out _ _ _ _ hf
                rw [H1.out] at h4
                rw [HL.out] at h3
                omega)
              go_wp2_with fail
              obtain ⟨r0, r1, r2⟩ := hU3.out.1.stored (.int .i64 0) (.slice none 0 0) (.slice none 0 0)
              exact bodyPost_ret (v := .tuple #[.agg #[.int .i64 0, .slice none 0 0, .slice none 0 0], .bool false]) (by simp [results, Try.results24, go_sem, r0, r1, r2]) rfl (.inr ⟨rfl, HN.out, below_stored hU3.out.2.2.1 (Nat.le_refl _) _ _ _⟩)
          · subst hnl
            obtain ⟨a1, cc1, rfl, hI1⟩ := hO3.out.ints
            obtain ⟨a2, cc2, rfl, hI2⟩ := hB.out.blks (fun x hx => HB.out.2.2.1 x (List.mem_of_mem_drop (List.mem_of_mem_take hx)))
            obtain ⟨bs, hbsE⟩ : ∃ bs : List Int, Hid (bs = (l.drop A).take (8 * m)) := ⟨_, rfl⟩
            rw [← hbsE.out] at hI2
            have hmc : (m : Int) = (c1 : Int) := by omega
            have HF := hide (show ∀ k' l' n' s', Mx.IsFrame l k' l' n' s' → Mx.IsFrame l ((c0 : Int) / 16) nums m bs by
              intro k' l' n' s' hf
              obtain ⟨e1, e2, e3, e4, e5, e6⟩ := HD.out _ _ _ _ hf
              rw [H1.out] at e4
              rw [H0.out] at e5
              have en : n' = m := by omega
              subst en
              rw [hbsE.out, e1, ← e5, ← e6]
              exact hf)
            have HI1 := hide hI1
            have HI2 := hide hI2
            have hml2 := hide (show m ≤ maxLen from hI2.2.1)
            have HA1 := hide hO3.out.above
            have HA2 := hide hB.out.above
            have HC1 := hide hO3.out.cap
            have HC2 := hide hB.out.cap
            clear hI1 hI2 hmc hO hU HV1 hB hO3
            go_wp2_with fail
            refine (frameMay_any ((c0 : Int) / 16) a1 a2 nums.length cc1 m cc2 nums wr HI1.out hml2.out).mono ?_
            rintro e w1 ⟨rfl, hb1⟩
            have hU4 := hide (hU3.out.later (hb1.mono hU3.out.2.2.2))
            have HB1 := hide hb1
            clear hb1 f0 f1 f2 fz g0 g1 g2 gz s1 s2 hx1
            obtain ⟨f0, f1, f2, fz, g0, g1, g2, gz, s1, s2⟩ := hU4.out.facts
            by_cases hm0 : Mx.may ((c0 : Int) / 16) nums m = 0
            · rw [hm0]
              go_wp2_with fail
              refine (packed_any ((c0 : Int) / 16) a1 a2 nums.length cc1 m cc2 nums bs w1 (HI1.out.later HB1.out) (HI2.out.later HB1.out) hm0).mono ?_
              rintro e w2 ⟨v, rfl, hown, hb2⟩
              obtain ⟨PB, hPB, hPB2, hPB3⟩ : ∃ PB : List Int, Hid (PB = Mx.packB ((c0 : Int) / 16) nums m bs) ∧ Hid (∀ x ∈ PB, 0 ≤ x ∧ x ≤ 255) ∧ PB ≠ [] := ⟨_, rfl, packB_byte HI2.out hm0, by simp [Mx.packB, Mx.sealB]⟩
              rw [← hPB.out] at hown
              obtain ⟨g, capP, rfl, hg1, hg2⟩ := own_slice hown hPB3
              have HBP := hide (own_bytes hown hPB2.out)
              have hU5 := hide (hU4.out.later (hb2.mono hU4.out.2.2.2))
              have HB2 := hide hb2
              clear hown f0 f1 f2 fz g0 g1 g2 gz s1 s2 hg1 hg2 hb2
              obtain ⟨f0, f1, f2, fz, g0, g1, g2, gz, s1, s2⟩ := hU5.out.facts
              go_wp2_with fail
              refine (sameBytes_gen _ _ _ _ _ _ PB l w2 HBP.out (HB.out.later hU5.out.2.2.1)).mono ?_
              rintro e w3 ⟨r, rfl, hr, nn, rfl⟩
              cases r with
              | true =>
                have HFR := hide (show Mx.IsFrame l ((c0 : Int) / 16) nums m bs from ⟨hm0, HI2.out.1, HI2.out.2.2.1, by rw [← hPB.out]; exact hr.1 rfl⟩)
                clear hr hm0
                go_wp2_with fail
                obtain ⟨r0, r1, r2⟩ := (show BoxAt (w2.drewN nn) w.heap.size (.int .i64 0) (.slice none 0 0) (.slice none 0 0) from hU5.out.1).stored (.int .i64 ((c0 : Int) / 16)) (.slice a1 nums.length cc1) (.slice a2 m cc2)
                refine bodyPost_ret (v := .tuple #[.agg #[.int .i64 ((c0 : Int) / 16), .slice a1 nums.length cc1, .slice a2 m cc2], .bool true]) (by simp [results, Try.results24, go_sem, r0, r1, r2]) rfl (.inl ⟨_, nums, m, bs, a1, cc1, a2, cc2, rfl, HFR.out, ?_, ?_, fun p hp => by have := HA1.out p hp; omega, fun p hp => by have := HA2.out p hp; omega, HC1.out, HC2.out, below_stored (below_drewN hU5.out.2.2.1 nn) (Nat.le_refl _) _ _ _⟩)
                · exact Ints.stored (w := w2.drewN nn) ((HI1.out.later HB1.out).later (below_drewN HB2.out nn)) _ (fun p hp => by have := HA1.out p hp; omega) _ _ _
                · exact Blks.stored (w := w2.drewN nn) ((HI2.out.later HB1.out).later (below_drewN HB2.out nn)) _ (fun p hp => by have := HA2.out p hp; omega) _ _ _
              | false =>
                have HN := hide (show ∀ kind nums nb bs, ¬ Mx.IsFrame l kind nums nb bs by
                  intro k' l' n' s' hf
                  have := (HF.out _ _ _ _ hf).2.2.2
                  rw [← hPB.out] at this
                  have := hr.2 this
                  cases this)
                clear hr hm0
                go_wp2_with fail
                obtain ⟨r0, r1, r2⟩ := (show BoxAt (w2.drewN nn) w.heap.size (.int .i64 0) (.slice none 0 0) (.slice none 0 0) from hU5.out.1).stored (.int .i64 0) (.slice none 0 0) (.slice none 0 0)
                exact bodyPost_ret (v := .tuple #[.agg #[.int .i64 0, .slice none 0 0, .slice none 0 0], .bool false]) (by simp [results, Try.results24, go_sem, r0, r1, r2]) rfl (.inr ⟨rfl, HN.out, below_stored (below_drewN hU5.out.2.2.1 nn) (Nat.le_refl _) _ _ _⟩)
            · have HN := hide (show ∀ kind nums nb bs, ¬ Mx.IsFrame l kind nums nb bs by
                intro k' l' n' s' hf
                exact hm0 (HF.out _ _ _ _ hf).1)
              obtain ⟨E, hE, hE0⟩ : ∃ E : Int, Hid (Mx.may ((c0 : Int) / 16) nums m = E) ∧ (E != 0) = true := ⟨_, rfl, by simpa using hm0⟩
              rw [hE.out]
              clear hm0
              go_wp2_with fail
              obtain ⟨r0, r1, r2⟩ := hU4.out.1.stored (.int .i64 0) (.slice none 0 0) (.slice none 0 0)
              exact bodyPost_ret (v := .tuple #[.agg #[.int .i64 0, .slice none 0 0, .slice none 0 0], .bool false]) (by simp [results, Try.results24, go_sem, r0, r1, r2]) rfl (.inr ⟨rfl, HN.out, below_stored hU4.out.2.2.1 (Nat.le_refl _) _ _ _⟩)

theorem unpacked_any (a : Option Addr) (len cap : Nat) (l : List Int) (w : World) (hl : Bytes w a len l) (hlen : len ≤ 2000) :
    Calls Try.prog 24 #[.slice a len cap] w fun e w' => Told w w' l e (.bool true) (.bool false) :=
  (unpacked_own a len cap l w hl hlen).mono fun _ _ h => h.told
end Go.Proofs.Ytfgonmgmoeoedaa
