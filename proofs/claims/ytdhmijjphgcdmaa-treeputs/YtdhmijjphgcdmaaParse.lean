/-
  Plain mathematics: bytes read from the front (the numbers, then the blocks): if they are a frame's, it is that frame that is read.
-/
import Derived.Test.YtdhmijjphgcdmaaSameF
namespace Go.Proofs.Ytdhmijjphgcdmaa
namespace Mx

/-- behind k numbers: if the bytes are a frame's, these are its first numbers, and here they end -/
def NumsTo (l : List Int) (k : Nat) (nums : List Int) (at_ : Nat) : Prop :=
  ∀ kind nums' nb bs, IsFrame l kind nums' nb bs → nums = nums'.take k ∧ at_ = 2 + (numB (nums'.take k)).length

theorem NumsTo.start (l : List Int) : NumsTo l 0 [] 2 := fun _ _ _ _ _ => ⟨by simp, by simp [numB]⟩

theorem packB_eq (kind : Int) (nums : List Int) (nb : Nat) (bs : List Int) :
    packB kind nums nb bs = (16 * kind + (nums.length : Int)) :: (nb : Int) :: (numB nums ++ (bs ++ sealB (crc (bodyB kind nums nb bs)))) := by
  simp [packB, bodyB]

theorem IsFrame.head {l : List Int} {kind : Int} {nums : List Int} {nb : Nat} {bs : List Int} (h : IsFrame l kind nums nb bs) :
    l.getD 0 0 = 16 * kind + (nums.length : Int) ∧ l.getD 1 0 = (nb : Int) ∧ l.length = 6 + (numB nums).length + 8 * nb ∧ 0 ≤ kind ∧ kind ≤ 15 ∧ nums.length ≤ 12 ∧ nb ≤ 32 := by
  obtain ⟨m1, m2, m3, m4⟩ := h
  obtain ⟨a1, a2, a3, a4, a5⟩ := may_facts m1
  rw [packB_eq] at m4
  refine ⟨by rw [← m4]; rfl, by rw [← m4]; rfl, ?_, a1, a2, a3, a4⟩
  rw [← m4]
  simp [m2, sealB_len]
  omega

theorem numB_append (a b : List Int) : numB (a ++ b) = numB a ++ numB b := by simp [numB]

theorem IsFrame.drop {l : List Int} {kind : Int} {nums : List Int} {nb : Nat} {bs : List Int} (h : IsFrame l kind nums nb bs) (k : Nat) :
    l.drop (2 + (numB (nums.take k)).length) = numB (nums.drop k) ++ (bs ++ sealB (crc (bodyB kind nums nb bs))) := by
  rw [← h.2.2.2, packB_eq, Nat.add_comm]
  simp only [List.drop_succ_cons]
  conv => lhs; rw [← List.take_append_drop k nums, numB_append, List.append_assoc]
  rw [List.take_append_drop k nums]
  exact List.drop_left

/-- the number that comes next -/
theorem IsFrame.next {l : List Int} {kind : Int} {nums : List Int} {nb : Nat} {bs : List Int} (h : IsFrame l kind nums nb bs) (k : Nat) (hk : k < nums.length) :
    ∃ x : Nat, x ≤ 2147483647 ∧ nums.take (k + 1) = nums.take k ++ [(x : Int)] ∧ (∃ t, l.drop (2 + (numB (nums.take k)).length) = groups x ++ t ∧ 4 ≤ t.length) ∧
      (numB (nums.take (k + 1))).length = (numB (nums.take k)).length + (groups x).length := by
  have hm := (may_facts h.1).2.2.2.2 nums[k] (List.getElem_mem hk)
  obtain ⟨x, hx⟩ := Int.eq_ofNat_of_zero_le hm.1
  refine ⟨x, by omega, by rw [List.take_succ_eq_append_getElem hk, hx], ?_, ?_⟩
  · rw [h.drop k, List.drop_eq_getElem_cons hk]
    refine ⟨numB (nums.drop (k + 1)) ++ (bs ++ sealB (crc (bodyB kind nums nb bs))), ?_, by simp [sealB_len]; omega⟩
    have e : ∀ z (l : List Int), numB (z :: l) = groups z.toNat ++ numB l := fun z l => by simp [numB]
    rw [e, hx, List.append_assoc]
    rfl
  · rw [List.take_succ_eq_append_getElem hk, numB_append, List.length_append, hx]
    simp [numB]

/-- the inner reading: j high bytes, and no end -/
theorem NumsTo.more {l : List Int} {k : Nat} {nums : List Int} {at_ j : Nat} (h : NumsTo l k nums at_) (hk : (k : Int) < l.getD 0 0 % 16) (hj : at_ + j ≤ l.length) (hh : High ((l.drop at_).take j))
    (hend : l.length ≤ at_ + j + 4 ∨ 5 ≤ j) : ∀ kind nums' nb bs, ¬ IsFrame l kind nums' nb bs := by
  intro kind nums' nb bs hf
  obtain ⟨e1, e2⟩ := h _ _ _ _ hf
  obtain ⟨d1, d2, d3, d4, d5, d6, d7⟩ := hf.head
  obtain ⟨x, hx, _, ⟨t, ht, ht4⟩, _⟩ := hf.next k (by omega)
  rw [← e2] at ht
  obtain ⟨s1, s2, _⟩ := scan _ x j hx t ht (by rw [List.length_drop]; omega) hh
  have hl := congrArg List.length ht
  rw [List.length_drop, List.length_append] at hl
  omega

/-- .. a low byte: the number is there -/
theorem NumsTo.step {l : List Int} {k : Nat} {nums : List Int} {at_ j c Z : Nat} (h : NumsTo l k nums at_) (hk : (k : Int) < l.getD 0 0 % 16) (hj : at_ + j < l.length) (hh : High ((l.drop at_).take j)) (hc : l.getD (at_ + j) 0 = (c : Int)) (hc2 : (c : Int) < 128)
    (hZ : Z = gval ((l.drop at_).take (j + 1))) : NumsTo l (k + 1) (nums ++ [(Z : Int)]) (at_ + j + 1) := by
  intro kind nums' nb bs hf
  obtain ⟨e1, e2⟩ := h _ _ _ _ hf
  obtain ⟨d1, d2, d3, d4, d5, d6, d7⟩ := hf.head
  obtain ⟨x, hx, hx2, ⟨t, ht, ht4⟩, hx3⟩ := hf.next k (by omega)
  rw [← e2] at ht
  obtain ⟨_, _, s3⟩ := scan _ x j hx t ht (by rw [List.length_drop]; omega) hh
  have hd : (l.drop at_).drop j = (c : Int) :: (l.drop at_).drop (j + 1) := by
    apply drop_at
    · rw [List.length_drop]; omega
    · rw [List.getD_eq_getElem?_getD, List.getElem?_drop, ← List.getD_eq_getElem?_getD]; exact hc
  obtain ⟨s4, s5, _, _⟩ := s3 _ _ hd hc2
  rw [← hZ] at s5
  refine ⟨by rw [hx2, ← e1, s5], by rw [hx3]; omega⟩

/-- behind all numbers -/
theorem NumsTo.done {l : List Int} {k : Nat} {nums : List Int} {at_ : Nat} (h : NumsTo l k nums at_) (hk : l.getD 0 0 % 16 = (k : Int)) :
    ∀ kind nums' nb bs, IsFrame l kind nums' nb bs → nums = nums' ∧ at_ = 2 + (numB nums').length ∧ l.length = at_ + 8 * nb + 4 ∧ l.getD 1 0 = (nb : Int) ∧ kind = l.getD 0 0 / 16 ∧ bs = (l.drop at_).take (8 * nb) := by
  intro kind nums' nb bs hf
  obtain ⟨e1, e2⟩ := h _ _ _ _ hf
  obtain ⟨d1, d2, d3, d4, d5, d6, d7⟩ := hf.head
  have ht : nums'.take k = nums' := List.take_of_length_le (by omega)
  rw [ht] at e1 e2
  have hd := hf.drop k
  have hdn : nums'.drop k = [] := List.drop_eq_nil_of_le (by omega)
  rw [ht, hdn, ← e2] at hd
  refine ⟨e1, e2, by omega, d2, by omega, ?_⟩
  rw [hd, show numB [] = [] from rfl, List.nil_append, List.take_append_of_le_length (by rw [hf.2.1]; omega), List.take_of_length_le (by rw [hf.2.1]; omega)]
end Mx
end Go.Proofs.Ytdhmijjphgcdmaa
