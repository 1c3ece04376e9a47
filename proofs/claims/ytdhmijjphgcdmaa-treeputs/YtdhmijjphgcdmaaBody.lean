/-
  Plain mathematics: what stands ahead of the sum, read from the front.
-/
import Derived.Test.YtdhmijjphgcdmaaIter
namespace Go.Proofs.Ytdhmijjphgcdmaa
namespace Mx

/-- these bytes are what stands ahead of that frame's sum -/
def IsBody (l : List Int) (kind : Int) (nums : List Int) (nb : Nat) (bs : List Int) : Prop :=
  may kind nums nb = 0 ∧ bs.length = 8 * nb ∧ (∀ x ∈ bs, 0 ≤ x ∧ x ≤ 255) ∧ bodyB kind nums nb bs = l

/-- some numbers were read, and here the rest begins -/
def Body2 (l nums : List Int) (A : Nat) : Prop :=
  (∃ x0 x1, l = x0 :: x1 :: (numB nums ++ l.drop A)) ∧ A = 2 + (numB nums).length ∧ ∀ x ∈ nums, 0 ≤ x ∧ x ≤ 2147483647

theorem Body2.start (l : List Int) (h : 2 ≤ l.length) : Body2 l [] 2 := by
  match l, h with
  | x0 :: x1 :: r, _ => exact ⟨⟨x0, x1, by simp [numB]⟩, by simp [numB], by simp⟩

theorem Body2.step {l nums : List Int} {A n size : Nat} (h : Body2 l nums A) (h2 : size ≤ (l.drop A).length) (h3 : n ≤ 2147483647) (h4 : (l.drop A).take size = groups n) : Body2 l (nums ++ [(n : Int)]) (A + size) := by
  obtain ⟨⟨x0, x1, e1⟩, e2, e3⟩ := h
  have hl : (groups n).length = size := by rw [← h4, List.length_take]; omega
  have hn : numB (nums ++ [(n : Int)]) = numB nums ++ groups n := by rw [numB_append]; simp [numB]
  refine ⟨⟨x0, x1, ?_⟩, ?_, ?_⟩
  · rw [hn, List.append_assoc, ← h4, ← List.drop_drop, List.take_append_drop]
    exact e1
  · rw [hn, List.length_append, hl, e2]; omega
  · intro x hx
    rcases List.mem_append.1 hx with h | h
    · exact e3 x h
    · simp at h; omega

theorem IsBody.rest {l nums : List Int} {A : Nat} {kind : Int} {nums' : List Int} {nb : Nat} {bs : List Int} (h : Body2 l nums A) (hf : IsBody l kind nums' nb bs) (hk : nums.length ≤ nums'.length) :
    nums = nums'.take nums.length ∧ l.drop A = numB (nums'.drop nums.length) ++ bs ∧ l.getD 0 0 = 16 * kind + (nums'.length : Int) ∧ l.getD 1 0 = (nb : Int) := by
  obtain ⟨⟨x0, x1, e1⟩, e2, e3⟩ := h
  obtain ⟨m1, m2, m3, m4⟩ := hf
  obtain ⟨a1, a2, a3, a4, a5⟩ := may_facts m1
  have e4 : l = (16 * kind + (nums'.length : Int)) :: (nb : Int) :: (numB nums' ++ bs) := by rw [← m4]; simp [bodyB]
  have e5 : numB nums ++ l.drop A = numB nums' ++ bs := by
    have := e1.symm.trans e4
    simp only [List.cons.injEq] at this
    exact this.2.2
  have e6 : numB nums' = numB (nums'.take nums.length) ++ numB (nums'.drop nums.length) := by rw [← numB_append, List.take_append_drop]
  rw [e6, List.append_assoc] at e5
  obtain ⟨c1, c2⟩ := numB_cut nums (nums'.take nums.length) _ _ e3 (fun x hx => a5 x (List.mem_of_mem_take hx)) (by rw [List.length_take]; omega) e5
  exact ⟨c1, c2, by rw [e4]; rfl, by rw [e4]; rfl⟩

/-- no number, though there should be one more -/
theorem Body2.none {l nums : List Int} {A : Nat} (h : Body2 l nums A) (hk : (nums.length : Int) < l.getD 0 0 % 16) (hn : ∀ x t, x ≤ 2147483647 → l.drop A ≠ groups x ++ t) : ∀ kind nums' nb bs, ¬ IsBody l kind nums' nb bs := by
  intro kind nums' nb bs hf
  have hmf := may_facts hf.1
  rcases Nat.lt_or_ge nums.length nums'.length with hlt | hge
  · obtain ⟨_, c2, c3, _⟩ := hf.rest h (by omega)
    have hm := hmf.2.2.2.2 nums'[nums.length] (List.getElem_mem hlt)
    rw [List.drop_eq_getElem_cons hlt] at c2
    have e : ∀ z (l : List Int), numB (z :: l) = groups z.toNat ++ numB l := fun z l => by simp [numB]
    rw [e, List.append_assoc] at c2
    exact hn _ _ (by omega) c2
  · have e4 : l.getD 0 0 = 16 * kind + (nums'.length : Int) := by rw [← hf.2.2.2]; rfl
    omega

/-- behind all numbers -/
theorem Body2.done {l nums : List Int} {A : Nat} (h : Body2 l nums A) (hk : l.getD 0 0 % 16 = (nums.length : Int)) : ∀ kind nums' nb bs, IsBody l kind nums' nb bs → nums = nums' ∧ l.drop A = bs ∧ l.getD 1 0 = (nb : Int) ∧ kind = l.getD 0 0 / 16 := by
  intro kind nums' nb bs hf
  have hmf := may_facts hf.1
  have e4 : l.getD 0 0 = 16 * kind + (nums'.length : Int) := by rw [← hf.2.2.2]; rfl
  have hlen : nums'.length = nums.length := by omega
  obtain ⟨c1, c2, _, c4⟩ := hf.rest h (by omega)
  rw [List.take_of_length_le (by omega)] at c1
  have hdn : nums'.drop nums.length = [] := List.drop_eq_nil_of_le (by omega)
  rw [hdn, show numB [] = [] from rfl, List.nil_append] at c2
  exact ⟨c1, c2, c4, by omega⟩

/-- .. and it is one -/
theorem Body2.good {l nums : List Int} {A c0 c1 : Nat} (h : Body2 l nums A) (h0 : l.getD 0 0 = (c0 : Int)) (h1 : l.getD 1 0 = (c1 : Int)) (hc : c0 ≤ 255) (hk : (c0 : Int) % 16 = (nums.length : Int)) (hn : nums.length ≤ 12) (hb : c1 ≤ 32) (hl : (l.drop A).length = 8 * c1)
    (hby : ∀ x ∈ l, 0 ≤ x ∧ x ≤ 255) : IsBody l ((c0 : Int) / 16) nums c1 (l.drop A) := by
  obtain ⟨⟨x0, x1, e1⟩, e2, e3⟩ := h
  refine ⟨?_, hl, fun x hx => hby x (List.mem_of_mem_drop hx), ?_⟩
  · apply may_ok
    · omega
    · omega
    · intro j hj
      have hm := e3 _ (getD_mem nums j hj)
      generalize nums.getD j 0 = z at hm
      unfold badNum
      simp
      omega
  · have f0 : x0 = (c0 : Int) := by rw [← h0, e1]; rfl
    have f1 : x1 = (c1 : Int) := by rw [← h1, e1]; rfl
    conv => rhs; rw [e1]
    unfold bodyB
    rw [f0, f1, ← hk]
    simp
    omega

theorem IsFrame.body {l : List Int} {kind : Int} {nums : List Int} {nb : Nat} {bs : List Int} (h : IsFrame l kind nums nb bs) : IsBody (l.take (l.length - 4)) kind nums nb bs ∧ l.drop (l.length - 4) = sealB (crc (l.take (l.length - 4))) := by
  have e : l = bodyB kind nums nb bs ++ sealB (crc (bodyB kind nums nb bs)) := h.2.2.2.symm
  have hl : l.length - 4 = (bodyB kind nums nb bs).length := by
    have := congrArg List.length e
    rw [List.length_append, sealB_len] at this
    omega
  have ht : l.take (l.length - 4) = bodyB kind nums nb bs := by rw [hl]; conv => lhs; rw [e]; rw [List.take_left]
  have hd : l.drop (l.length - 4) = sealB (crc (bodyB kind nums nb bs)) := by rw [hl]; conv => lhs; rw [e]; rw [List.drop_left]
  rw [ht, hd]
  exact ⟨⟨h.1, h.2.1, h.2.2.1, rfl⟩, rfl⟩

theorem IsBody.frame {l : List Int} {kind : Int} {nums : List Int} {nb : Nat} {bs : List Int} (h : IsBody (l.take (l.length - 4)) kind nums nb bs) (hs : l.drop (l.length - 4) = sealB (crc (l.take (l.length - 4)))) : IsFrame l kind nums nb bs := by
  refine ⟨h.1, h.2.1, h.2.2.1, ?_⟩
  unfold packB
  rw [h.2.2.2, ← hs, List.take_append_drop]
end Mx
end Go.Proofs.Ytdhmijjphgcdmaa
