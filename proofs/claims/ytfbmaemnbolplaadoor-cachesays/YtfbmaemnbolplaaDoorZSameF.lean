/-
  Two frames that are the same (SameFrame); the sum at the end of bytes (readSeal).
-/
import Derived.Deep.WholeRow
import Derived.Test.YtfbmaemnbolplaaDoorZArr

namespace Go.Proofs.YtfbmaemnbolplaaDoor
open Go.RowKit

/-- four bytes -/
theorem four {w : World} {b off : Nat} (l : List Int) (hl : l.length = 4) (hc : ∀ i, i < 4 → w.cell? ⟨b, off + i, none⟩ = some (.int .u8 (l.getD i 0))) :
    ∃ z0 z1 z2 z3 : Int, l = [z0, z1, z2, z3] ∧ w.cell? ⟨b, off, none⟩ = some (.int .u8 z0) ∧ w.cell? ⟨b, off + 1, none⟩ = some (.int .u8 z1) ∧ w.cell? ⟨b, off + 2, none⟩ = some (.int .u8 z2) ∧ w.cell? ⟨b, off + 3, none⟩ = some (.int .u8 z3) := by
  match l, hl with
  | [z0, z1, z2, z3], _ => exact ⟨z0, z1, z2, z3, rfl, hc 0 (by omega), hc 1 (by omega), hc 2 (by omega), hc 3 (by omega)⟩

end Go.Proofs.YtfbmaemnbolplaaDoor

/-
  Plain mathematics: bytes read from the front (the numbers, then the blocks): if they are a frame's, it is that frame that is read.
-/
namespace Go.Proofs.YtfbmaemnbolplaaDoor
namespace Mx

/-- behind k numbers: if the bytes are a frame's, these are its first numbers, and here they end -/
def NumsTo (l : List Int) (k : Nat) (nums : List Int) (at_ : Nat) : Prop :=
  ∀ kind nums' nb bs, IsFrame l kind nums' nb bs → nums = nums'.take k ∧ at_ = 2 + (numB (nums'.take k)).length

theorem NumsTo.start (l : List Int) : NumsTo l 0 [] 2 := fun _ _ _ _ _ => ⟨by simp, by simp [numB]⟩

theorem packB_eq (kind : Int) (nums : List Int) (nb : Nat) (bs : List Int) :
    packB kind nums nb bs = (16 * kind + (nums.length : Int)) :: (nb : Int) :: (numB nums ++ (bs ++ sealB (crc (bodyB kind nums nb bs)))) := by
  simp [packB, bodyB]

theorem IsFrame.head {l : List Int} {kind : Int} {nums : List Int} {nb : Nat} {bs : List Int} (h : IsFrame l kind nums nb bs) :
    l.getD 0 0 = 16 * kind + (nums.length : Int) ∧ l.getD 1 0 = (nb : Int) ∧ l.length = 6 + (numB nums).length + 8 * nb ∧ 0 ≤ kind ∧ kind ≤ 15 ∧ nums.length ≤ 12 ∧ nb ≤ 32 := by
  obtain ⟨m1, m2, m3, m4⟩ := h
  obtain ⟨a1, a2, a3, a4, a5⟩ := may_facts m1
  rw [packB_eq] at m4
  refine ⟨by rw [← m4]; rfl, by rw [← m4]; rfl, ?_, a1, a2, a3, a4⟩
  rw [← m4]
  simp [m2, sealB_len]
  omega

theorem numB_append (a b : List Int) : numB (a ++ b) = numB a ++ numB b := by simp [numB]

theorem IsFrame.drop {l : List Int} {kind : Int} {nums : List Int} {nb : Nat} {bs : List Int} (h : IsFrame l kind nums nb bs) (k : Nat) :
    l.drop (2 + (numB (nums.take k)).length) = numB (nums.drop k) ++ (bs ++ sealB (crc (bodyB kind nums nb bs))) := by
  rw [← h.2.2.2, packB_eq, Nat.add_comm]
  simp only [List.drop_succ_cons]
  conv => lhs; rw [← List.take_append_drop k nums, numB_append, List.append_assoc]
  rw [List.take_append_drop k nums]
  exact List.drop_left

/-- the number that comes next -/
theorem IsFrame.next {l : List Int} {kind : Int} {nums : List Int} {nb : Nat} {bs : List Int} (h : IsFrame l kind nums nb bs) (k : Nat) (hk : k < nums.length) :
    ∃ x : Nat, x ≤ 2147483647 ∧ nums.take (k + 1) = nums.take k ++ [(x : Int)] ∧ (∃ t, l.drop (2 + (numB (nums.take k)).length) = groups x ++ t ∧ 4 ≤ t.length) ∧
      (numB (nums.take (k + 1))).length = (numB (nums.take k)).length + (groups x).length := by
  have hm := (may_facts h.1).2.2.2.2 nums[k] (List.getElem_mem hk)
  obtain ⟨x, hx⟩ := Int.eq_ofNat_of_zero_le hm.1
  refine ⟨x, by omega, by rw [List.take_succ_eq_append_getElem hk, hx], ?_, ?_⟩
  · rw [h.drop k, List.drop_eq_getElem_cons hk]
    refine ⟨numB (nums.drop (k + 1)) ++ (bs ++ sealB (crc (bodyB kind nums nb bs))), ?_, by simp [sealB_len]; omega⟩
    have e : ∀ z (l : List Int), numB (z :: l) = groups z.toNat ++ numB l := fun z l => by simp [numB]
    rw [e, hx, List.append_assoc]
    rfl
  · rw [List.take_succ_eq_append_getElem hk, numB_append, List.length_append, hx]
    simp [numB]

/-- the inner reading: j high bytes, and no end -/
theorem NumsTo.more {l : List Int} {k : Nat} {nums : List Int} {at_ j : Nat} (h : NumsTo l k nums at_) (hk : (k : Int) < l.getD 0 0 % 16) (hj : at_ + j ≤ l.length) (hh : High ((l.drop at_).take j))
    (hend : l.length ≤ at_ + j + 4 ∨ 5 ≤ j) : ∀ kind nums' nb bs, ¬ IsFrame l kind nums' nb bs := by
  intro kind nums' nb bs hf
  obtain ⟨e1, e2⟩ := h _ _ _ _ hf
  obtain ⟨d1, d2, d3, d4, d5, d6, d7⟩ := hf.head
  obtain ⟨x, hx, _, ⟨t, ht, ht4⟩, _⟩ := hf.next k (by omega)
  rw [← e2] at ht
  obtain ⟨s1, s2, _⟩ := scan _ x j hx t ht (by rw [List.length_drop]; omega) hh
  have hl := congrArg List.length ht
  rw [List.length_drop, List.length_append] at hl
  omega

/-- .. a low byte: the number is there -/
theorem NumsTo.step {l : List Int} {k : Nat} {nums : List Int} {at_ j c Z : Nat} (h : NumsTo l k nums at_) (hk : (k : Int) < l.getD 0 0 % 16) (hj : at_ + j < l.length) (hh : High ((l.drop at_).take j)) (hc : l.getD (at_ + j) 0 = (c : Int)) (hc2 : (c : Int) < 128)
    (hZ : Z = gval ((l.drop at_).take (j + 1))) : NumsTo l (k + 1) (nums ++ [(Z : Int)]) (at_ + j + 1) := by
  intro kind nums' nb bs hf
  obtain ⟨e1, e2⟩ := h _ _ _ _ hf
  obtain ⟨d1, d2, d3, d4, d5, d6, d7⟩ := hf.head
  obtain ⟨x, hx, hx2, ⟨t, ht, ht4⟩, hx3⟩ := hf.next k (by omega)
  rw [← e2] at ht
  obtain ⟨_, _, s3⟩ := scan _ x j hx t ht (by rw [List.length_drop]; omega) hh
  have hd : (l.drop at_).drop j = (c : Int) :: (l.drop at_).drop (j + 1) := by
    apply drop_at
    · rw [List.length_drop]; omega
    · rw [List.getD_eq_getElem?_getD, List.getElem?_drop, ← List.getD_eq_getElem?_getD]; exact hc
  obtain ⟨s4, s5, _, _⟩ := s3 _ _ hd hc2
  rw [← hZ] at s5
  refine ⟨by rw [hx2, ← e1, s5], by rw [hx3]; omega⟩

/-- behind all numbers -/
theorem NumsTo.done {l : List Int} {k : Nat} {nums : List Int} {at_ : Nat} (h : NumsTo l k nums at_) (hk : l.getD 0 0 % 16 = (k : Int)) :
    ∀ kind nums' nb bs, IsFrame l kind nums' nb bs → nums = nums' ∧ at_ = 2 + (numB nums').length ∧ l.length = at_ + 8 * nb + 4 ∧ l.getD 1 0 = (nb : Int) ∧ kind = l.getD 0 0 / 16 ∧ bs = (l.drop at_).take (8 * nb) := by
  intro kind nums' nb bs hf
  obtain ⟨e1, e2⟩ := h _ _ _ _ hf
  obtain ⟨d1, d2, d3, d4, d5, d6, d7⟩ := hf.head
  have ht : nums'.take k = nums' := List.take_of_length_le (by omega)
  rw [ht] at e1 e2
  have hd := hf.drop k
  have hdn : nums'.drop k = [] := List.drop_eq_nil_of_le (by omega)
  rw [ht, hdn, ← e2] at hd
  refine ⟨e1, e2, by omega, d2, by omega, ?_⟩
  rw [hd, show numB [] = [] from rfl, List.nil_append, List.take_append_of_le_length (by rw [hf.2.1]; omega), List.take_of_length_le (by rw [hf.2.1]; omega)]
end Mx
end Go.Proofs.YtfbmaemnbolplaaDoor

/-
  Numbers and blocks that the call itself gathers, and a frame's box that it writes into.
-/
namespace Go.Proofs.YtfbmaemnbolplaaDoor
open Go.RowKit

/-- the call's own numbers; its own blocks -/
def OwnI (w : World) (base : Nat) (v : Value) (l : List Int) : Prop := w.ownsRow base 3 1 v l.length (l.map (Value.int .i64))
def OwnB (w : World) (base : Nat) (v : Value) (n : Nat) (bs : List Int) : Prop := bs.length = 8 * n ∧ w.ownsRow base 25 8 v n (bs.map (Value.int .u8))

theorem Tryd.info3 : (Tryd.prog.info? 3).map (fun i => (i.zero, i.size, i.bytes)) = some (some (.int .i64 0), 1, 8) := by kernel_rfl
theorem Tryd.info25 : (Tryd.prog.info? 25).map (fun i => (i.zero, i.size, i.bytes)) = some (some (.agg #[.int .u8 0, .int .u8 0, .int .u8 0, .int .u8 0, .int .u8 0, .int .u8 0, .int .u8 0, .int .u8 0]), 8, 8) := by kernel_rfl

theorem OwnI.nil (w : World) (base : Nat) : OwnI w base (.slice none 0 0) [] := World.ownsRow_nil w base 3 1
theorem OwnB.nil (w : World) (base : Nat) : OwnB w base (.slice none 0 0) 0 [] := ⟨rfl, World.ownsRow_nil w base 25 8⟩

theorem rowKept {w w' : World} {base e size : Nat} {v : Value} {n : Nat} {xs : List Value} (h : w.ownsRow base e size v n xs) (hb : Below w.heap.size w w') : w'.ownsRow base e size v n xs :=
  World.ownsRow.kept h (row := none) ⟨hb.os, hb.tape, hb.output, hb.size, fun k hk _ => hb.block k hk⟩ (by cases v.ownBlock <;> simp)

/-- one block more -/
theorem wpList_append_block {w : World} {ops : Array Oper} {rest : List Oper} {o : Oper} {a : Act} {Q : Exit → Act → World → Prop} (hgd : o.guard = none) (s x : Operand)
    (ho : o.op = .call { callee := .builtin .append, args := #[s, x], argTypes := #[22, 22] }) (base n : Nat) (bs : List Int) (hown : OwnB w base (a.eval s) n bs)
    (zs : List Int) (hz8 : zs.length = 8) (arr : Array Value) (harr : arr = (zs.map (Value.int .u8)).toArray) (hx : a.eval x = .slice (some ⟨w.heap.size, 0, none⟩) 1 1) (h63 : n ≤ 1000000) (hbase : base ≤ w.heap.size)
    (h : ∀ ad c w', OwnB w' base (.slice (some ad) (n + 1) c) (n + 1) (bs ++ zs) → Below base w w' → base ≤ ad.block → wpList Tryd.prog ops Q rest (a.put o.dst (.slice (some ad) (n + 1) c)) w') :
    wpList Tryd.prog ops Q (o :: rest) a (w.alloc (.cells arr 25)) := by
  obtain ⟨i0, hi, hz0, hz1, hz2⟩ := info_parts Tryd.info25
  refine wpList_append_own _ hgd s x 22 ho base 25 i0 _ 8 8 Tryd.underlying22 hi hz0 hz1 hz2 rfl (by decide) (a.eval s) n (bs.map (Value.int .u8)) rfl (World.ownsRow.alloc hown.2 _) ⟨w.heap.size, 0, none⟩ 1 1 (zs.map (Value.int .u8)) hx (by simp [hz8]) (cell_newsT w zs arr 25 harr) ?_ (by unfold maxLen; omega) (by omega) (by simp; omega) ?_
  · intro u hu
    obtain ⟨z, _, rfl⟩ := List.mem_map.1 hu
    rfl
  · intro v' w' hown' hg _
    have hb : Below base w w' := ((Below.refl base w).alloc hbase _).grown hg (by simp; omega) (fun k hk => (World.ownsRow.lt hown.2 k hk).1)
    have hI : OwnB w' base v' (n + 1) (bs ++ zs) := ⟨by rw [List.length_append, hown.1, hz8]; omega, by rw [List.map_append]; exact hown'⟩
    rcases hown'.2 with ⟨_, hz⟩ | ⟨g, cap, cur, rfl, hbg, _⟩
    · simp at hz
    · exact h _ _ w' hI hb hbg

/-- what is gathered reads as numbers, as blocks -/
theorem OwnI.ints {w : World} {base : Nat} {v : Value} {l : List Int} (h : OwnI w base v l) : ∃ a c, v = .slice a l.length c ∧ Ints w a l.length l := by
  rcases h.2 with ⟨hv, hz⟩ | ⟨g, cap, cur, hv, _, hh, hle, hmx, _⟩
  · have hnil : l = [] := List.eq_nil_of_length_eq_zero hz
    subst hnil
    exact ⟨none, 0, hv, rfl, by unfold maxLen; simp, fun h => absurd h (by simp)⟩
  · have hc := World.ownsRow.cells h (g := g) (by rw [hv]; rfl)
    refine ⟨_, cap, hv, rfl, by omega, fun _ => ⟨g, 0, rfl, (Array.getElem?_eq_some_iff.1 hh).1, fun i hi => ?_⟩⟩
    have := hc i (.int .i64 (l.getD i 0)) (by rw [List.getElem?_map, List.getD_eq_getElem?_getD, List.getElem?_eq_getElem hi]; rfl)
    have hadd : (⟨g, 0, none⟩ : Addr).add i = ⟨g, 0 + i, none⟩ := by unfold Addr.add; split <;> simp_all
    rw [← hadd]
    exact this

theorem OwnB.blks {w : World} {base n : Nat} {v : Value} {bs : List Int} (h : OwnB w base v n bs) (hb : ∀ x ∈ bs, 0 ≤ x ∧ x ≤ 255) : ∃ a c, v = .slice a n c ∧ Blks w a n bs := by
  obtain ⟨h8, h⟩ := h
  rcases h.2 with ⟨hv, hz⟩ | ⟨g, cap, cur, hv, _, hh, hle, hmx, _⟩
  · subst hz
    exact ⟨none, 0, hv, h8, by unfold maxLen; simp, hb, fun h => absurd h (by simp)⟩
  · have hc := World.ownsRow.cells h (g := g) (by rw [hv]; rfl)
    refine ⟨_, cap, hv, h8, by omega, hb, fun _ => ⟨g, 0, rfl, (Array.getElem?_eq_some_iff.1 hh).1, fun i hi => ?_⟩⟩
    have := hc i (.int .u8 (bs.getD i 0)) (by rw [List.getElem?_map, List.getD_eq_getElem?_getD, List.getElem?_eq_getElem (show i < bs.length by omega)]; rfl)
    have hadd : (⟨g, 0, none⟩ : Addr).add i = ⟨g, 0 + i, none⟩ := by unfold Addr.add; split <;> simp_all
    rw [← hadd]
    exact this

end Go.Proofs.YtfbmaemnbolplaaDoor

/-
  The document's own reading (Unpacked): the frame that bytes are, or that they are none.
-/
namespace Go.Proofs.YtfbmaemnbolplaaDoor
open Go.RowKit

theorem frame_long {l : List Int} (h : l.length < 6) : ∀ kind nums nb bs, ¬ Mx.IsFrame l kind nums nb bs := fun _ _ _ _ hf => by
  have := hf.head
  omega

/-- what is handed back: a frame, or none -/
def Told (w w' : World) (l : List Int) (e : Ending) (yes no : Value) : Prop :=
  (∃ kind nums nb bs a1 c1 a2 c2, e = .returned (.tuple #[.agg #[.int .i64 kind, .slice a1 nums.length c1, .slice a2 nb c2], yes]) ∧ Mx.IsFrame l kind nums nb bs ∧ Ints w' a1 nums.length nums ∧ Blks w' a2 nb bs ∧ Below w.heap.size w w') ∨
  (e = .returned (.tuple #[.agg #[.int .i64 0, .slice none 0 0, .slice none 0 0], no]) ∧ (∀ kind nums nb bs, ¬ Mx.IsFrame l kind nums nb bs) ∧ Below w.heap.size w w')
/-- and where it lies -/
def ToldA (w w' : World) (l : List Int) (e : Ending) (yes no : Value) : Prop :=
  (∃ kind nums nb bs a1 c1 a2 c2, e = .returned (.tuple #[.agg #[.int .i64 kind, .slice a1 nums.length c1, .slice a2 nb c2], yes]) ∧ Mx.IsFrame l kind nums nb bs ∧ Ints w' a1 nums.length nums ∧ Blks w' a2 nb bs ∧ (∀ p, a1 = some p → w.heap.size ≤ p.block) ∧ (∀ p, a2 = some p → w.heap.size ≤ p.block) ∧ nums.length ≤ c1 ∧ nb ≤ c2 ∧ Below w.heap.size w w') ∨
  (e = .returned (.tuple #[.agg #[.int .i64 0, .slice none 0 0, .slice none 0 0], no]) ∧ (∀ kind nums nb bs, ¬ Mx.IsFrame l kind nums nb bs) ∧ Below w.heap.size w w')
theorem ToldA.told {w w' : World} {l : List Int} {e : Ending} {yes no : Value} (h : ToldA w w' l e yes no) : Told w w' l e yes no := by
  rcases h with ⟨k, nums, nb, bs, a1, c1, a2, c2, h1, h2, h3, h4, _, _, _, _, h5⟩ | h
  · exact .inl ⟨k, nums, nb, bs, a1, c1, a2, c2, h1, h2, h3, h4, h5⟩
  · exact .inr h

theorem pow_big (j P : Nat) (hP : P = 128 ^ j) (h : (1099511627776 : Int) < P) : 5 ≤ j := by
  rcases Nat.lt_or_ge j 5 with hj | hj
  · have := Nat.pow_le_pow_right (n := 128) (by omega) (show j ≤ 4 by omega)
    omega
  · exact hj

theorem pow_small (j P : Nat) (hP : P = 128 ^ j) (h : ¬ (1099511627776 : Int) < P) : j + 1 ≤ 6 := by
  rcases Nat.lt_or_ge j 6 with hj | hj
  · omega
  · have := Nat.pow_le_pow_right (n := 128) (by omega) hj
    omega

theorem take_next (l : List Int) (A j c : Nat) (hj : A + j < l.length) (hc : l.getD (A + j) 0 = (c : Int)) : (l.drop A).take (j + 1) = (l.drop A).take j ++ [(c : Int)] := by
  apply Mx.take_snoc
  · rw [List.length_drop]; omega
  · rw [List.getD_eq_getElem?_getD, List.getElem?_drop, ← List.getD_eq_getElem?_getD]; exact hc

theorem high_more (l : List Int) (A j c : Nat) (hj : A + j < l.length) (hh : Mx.High ((l.drop A).take j)) (hc : l.getD (A + j) 0 = (c : Int)) (h1 : 128 ≤ (c : Int)) (h2 : c ≤ 255) : Mx.High ((l.drop A).take (j + 1)) :=
  high_snoc (l.drop A) j c hh (take_next l A j c hj hc) h1 h2

theorem wrap_two (V q P : Nat) (h1 : V < P) (h2 : q ≤ 127 * P) (hb : (P : Int) ≤ 1099511627776) : wrap64 ((V : Int) + wrap64 (q : Int)) = ((V + q : Nat) : Int) := by
  rw [IntWalk.wrap64_in (q : Int) (by omega), IntWalk.wrap64_in _ (by omega)]
  omega

theorem num_wrap (l : List Int) (A j V P c : Nat) (hj : A + j < l.length) (hP : P = 128 ^ j) (hb : (P : Int) ≤ 1099511627776) (hV : V = Mx.gval ((l.drop A).take j)) (hc : l.getD (A + j) 0 = (c : Int)) :
    wrap64 ((V : Int) + wrap64 ((c : Int) % 128 * (P : Int))) = (Mx.gval ((l.drop A).take (j + 1)) : Int) := by
  have hl : ((l.drop A).take j).length = j := by rw [List.length_take, List.length_drop]; omega
  have e : Mx.gval ((l.drop A).take (j + 1)) = V + c % 128 * P := by
    rw [take_next l A j c hj hc, Mx.gval_snoc, ← hV, hl, hP, Int.toNat_natCast]
  have h1 : V < P := by
    have := Mx.gval_lt ((l.drop A).take j)
    rw [hl, ← hV, ← hP] at this
    exact this
  have h2 : c % 128 * P ≤ 127 * P := Nat.mul_le_mul (by omega) (Nat.le_refl _)
  have e2 : (c : Int) % 128 * (P : Int) = ((c % 128 * P : Nat) : Int) := by simp
  rw [e2, e]
  exact wrap_two V _ P h1 h2 hb

/-- an array of eight bytes of which the first j are laid -/
def fill8 (zs : List Int) (j : Nat) : Array Value := ((zs.take j ++ List.replicate (8 - j) 0).map (Value.int .u8)).toArray

theorem fill8_zero (zs : List Int) : fill8 zs 0 = #[.int .u8 0, .int .u8 0, .int .u8 0, .int .u8 0, .int .u8 0, .int .u8 0, .int .u8 0, .int .u8 0] := rfl

theorem fill8_all (zs : List Int) (h : zs.length = 8) : fill8 zs 8 = (zs.map (Value.int .u8)).toArray := by
  unfold fill8
  rw [List.take_of_length_le (by omega)]
  simp

theorem fill8_at (zs : List Int) (j : Nat) (h : zs.length = 8) (hj : j < 8) : (fill8 zs j)[j]? = some (.int .u8 0) := by
  unfold fill8
  simp only [List.getElem?_toArray, List.getElem?_map]
  rw [List.getElem?_append_right (by rw [List.length_take]; omega), List.length_take, Nat.min_eq_left (by omega), Nat.sub_self, List.getElem?_replicate, if_pos (by omega)]
  rfl

theorem fill8_set (zs : List Int) (j : Nat) (z : Int) (h : zs.length = 8) (hj : j < 8) (hz : zs.getD j 0 = z) : (fill8 zs j).setIfInBounds j (.int .u8 z) = fill8 zs (j + 1) := by
  unfold fill8
  apply Array.ext'
  simp only [Array.toList_setIfInBounds]
  rw [List.map_append, List.set_append_right _ _ (by simp; omega)]
  rw [Mx.take_snoc zs j z (by omega) hz, show 8 - j = (8 - (j + 1)) + 1 by omega, List.replicate_succ]
  simp
  rw [show j - min j zs.length = 0 by omega]
  rfl

theorem list8 (zs : List Int) (h : zs.length = 8) : ∃ z0 z1 z2 z3 z4 z5 z6 z7, zs = [z0, z1, z2, z3, z4, z5, z6, z7] := by
  match zs, h with
  | [z0, z1, z2, z3, z4, z5, z6, z7], _ => exact ⟨z0, z1, z2, z3, z4, z5, z6, z7, rfl⟩

theorem block_more (l : List Int) (A m : Nat) (zs : List Int) (hz : zs = (l.drop (A + 8 * m)).take 8) : (l.drop A).take (8 * m) ++ zs = (l.drop A).take (8 * (m + 1)) := by
  rw [hz, ← List.drop_drop, show 8 * (m + 1) = 8 * m + 8 by omega, List.take_add]

theorem drop_getD (l : List Int) (A j : Nat) : (l.drop A).getD j 0 = l.getD (A + j) 0 := by
  rw [List.getD_eq_getElem?_getD, List.getElem?_drop, ← List.getD_eq_getElem?_getD]

theorem rowKeptBelow {w w' : World} {base e size n C : Nat} {v : Value} {xs : List Value} (h : w.ownsRow base e size v n xs) (hlt : ∀ g, v.ownBlock = some g → g < C) (hb : Below C w w') : w'.ownsRow base e size v n xs := by
  refine ⟨h.1, ?_⟩
  rcases h.2 with h2 | ⟨g, cap, cur, hv, hg, hh, r⟩
  · exact .inl h2
  · exact .inr ⟨g, cap, cur, hv, hg, (hb.block g (hlt g (by rw [hv]; rfl))).trans hh, r⟩

end Go.Proofs.YtfbmaemnbolplaaDoor
