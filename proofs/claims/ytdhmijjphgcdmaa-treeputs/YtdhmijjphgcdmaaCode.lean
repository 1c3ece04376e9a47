/-
  Plain mathematics: the bytes of a frame are those of no other one; how a number is found at the front of bytes.
-/
import Derived.Test.YtdhmijjphgcdmaaSays
namespace Go.Proofs.Ytdhmijjphgcdmaa
namespace Mx

/-- the number that groups say -/
def gval : List Int → Nat
  | [] => 0
  | c :: l => c.toNat % 128 + 128 * gval l

theorem gval_snoc (l : List Int) (c : Int) : gval (l ++ [c]) = gval l + c.toNat % 128 * 128 ^ l.length := by
  induction l with
  | nil => simp [gval]
  | cons d l ih =>
    simp only [List.cons_append, gval, ih, List.length_cons, Nat.pow_succ]
    rw [Nat.mul_add, ← Nat.add_assoc]
    congr 1
    rw [Nat.mul_comm 128, Nat.mul_assoc]

theorem gval_lt (l : List Int) : gval l < 128 ^ l.length := by
  induction l with
  | nil => simp [gval]
  | cons d l ih =>
    simp only [gval, List.length_cons, Nat.pow_succ]
    omega

theorem gval_pos (l : List Int) (c : Int) (h0 : 1 ≤ c) (h1 : c < 128) : 1 ≤ gval (l ++ [c]) := by
  rw [gval_snoc]
  have : 1 ≤ c.toNat % 128 := by omega
  have h2 : 0 < 128 ^ l.length := Nat.pow_pos (by omega)
  have := Nat.mul_le_mul this h2
  omega

/-- groups as they are written -/
def High (l : List Int) : Prop := ∀ c ∈ l, 128 ≤ c ∧ c ≤ 255

theorem groups_of (pre : List Int) (c : Int) (f : Nat) (hp : High pre) (hc0 : 0 ≤ c) (hc : c < 128) (hn : 1 ≤ c ∨ pre = []) (hf : pre.length ≤ f) : groupsF f (gval (pre ++ [c])) = pre ++ [c] := by
  induction pre generalizing f with
  | nil =>
    have : gval ([] ++ [c]) = c.toNat := by simp [gval]; omega
    rw [this, groupsF_low _ _ (by omega)]
    simp; omega
  | cons p ps ih =>
    have hc1 : 1 ≤ c := by rcases hn with h | h; exact h; simp at h
    cases f with
    | zero => simp at hf
    | succ f =>
      have hpp := hp p (by simp)
      have hv : gval (p :: ps ++ [c]) = p.toNat % 128 + 128 * gval (ps ++ [c]) := rfl
      have h1 := gval_pos ps c hc1 hc
      rw [hv, groupsF_high _ _ (by omega)]
      have e1 : (p.toNat % 128 + 128 * gval (ps ++ [c])) / 128 = gval (ps ++ [c]) := by omega
      have e2 : (((p.toNat % 128 + 128 * gval (ps ++ [c])) % 128 + 128 : Nat) : Int) = p := by omega
      rw [e1, e2, ih f (fun x hx => hp x (by simp [hx])) (.inl hc1) (by simp at hf; omega)]
      rfl

theorem groupsF_form (f x : Nat) (h : x < 128 ^ (f + 1)) : ∃ pre c, groupsF f x = pre ++ [c] ∧ High pre ∧ 0 ≤ c ∧ c < 128 ∧ (1 ≤ c ∨ pre = []) ∧ gval (pre ++ [c]) = x ∧ pre.length ≤ f := by
  induction f generalizing x with
  | zero =>
    simp at h
    exact ⟨[], (x : Int), rfl, (fun c hc => absurd hc (by simp)), by omega, by omega, .inr rfl, by simp [gval]; omega, Nat.le_refl _⟩
  | succ f ih =>
    by_cases hx : x < 128
    · exact ⟨[], (x : Int), by rw [groupsF_low _ _ hx]; rfl, (fun c hc => absurd hc (by simp)), by omega, by omega, .inr rfl, by simp [gval]; omega, by simp⟩
    · obtain ⟨pre, c, h1, h2, h3, h4, h5, h6, h7⟩ := ih (x / 128) (by rw [Nat.pow_succ] at h; exact Nat.div_lt_of_lt_mul (by omega))
      refine ⟨((x % 128 + 128 : Nat) : Int) :: pre, c, by rw [groupsF_high _ _ (by omega), h1]; rfl, ?_, h3, h4, ?_, ?_, by simp; omega⟩
      · intro d hd
        rcases List.mem_cons.1 hd with rfl | hd
        · omega
        · exact h2 d hd
      · rcases h5 with h | h
        · exact .inl h
        · subst h
          simp [gval] at h6
          left; omega
      · show (((x % 128 + 128 : Nat) : Int)).toNat % 128 + 128 * gval (pre ++ [c]) = x
        rw [h6]; omega

theorem groupsF_mono (f k x : Nat) (h : x < 128 ^ (k + 1)) (hk : k ≤ f) : groupsF f x = groupsF k x := by
  obtain ⟨pre, c, h1, h2, h3, h4, h5, h6, h7⟩ := groupsF_form k x h
  rw [h1, ← h6]
  exact groups_of pre c f h2 h3 h4 h5 (by omega)

theorem groups_form (x : Nat) (h : x ≤ 2147483647) : ∃ pre c, groups x = pre ++ [c] ∧ High pre ∧ 0 ≤ c ∧ c < 128 ∧ (1 ≤ c ∨ pre = []) ∧ gval (pre ++ [c]) = x ∧ pre.length ≤ 4 := by
  obtain ⟨pre, c, h1, h2⟩ := groupsF_form 4 x (by omega)
  exact ⟨pre, c, by unfold groups; rw [groupsF_mono 9 4 x (by omega) (by omega), h1], h2⟩

theorem cut_high (pre pre' r r' : List Int) (c c' : Int) (h : pre ++ c :: r = pre' ++ c' :: r') (h1 : High pre) (h2 : High pre') (hc : c < 128) (hc' : c' < 128) : pre = pre' ∧ c = c' ∧ r = r' := by
  induction pre generalizing pre' with
  | nil =>
    cases pre' with
    | nil => simp at h; exact ⟨rfl, h.1, h.2⟩
    | cons q qs => simp at h; have := h2 q (by simp); omega
  | cons p ps ih =>
    cases pre' with
    | nil => simp at h; have := h1 p (by simp); omega
    | cons q qs =>
      simp only [List.cons_append, List.cons.injEq] at h
      obtain ⟨e1, e2, e3⟩ := ih qs h.2 (fun x hx => h1 x (by simp [hx])) (fun x hx => h2 x (by simp [hx]))
      exact ⟨by rw [h.1, e1], e2, e3⟩

theorem groups_cut (x y : Nat) (r r' : List Int) (hx : x ≤ 2147483647) (hy : y ≤ 2147483647) (h : groups x ++ r = groups y ++ r') : x = y ∧ r = r' := by
  obtain ⟨pre, c, h1, h2, h3, h4, h5, h6, h7⟩ := groups_form x hx
  obtain ⟨pre', c', g1, g2, g3, g4, g5, g6, g7⟩ := groups_form y hy
  rw [h1, g1, List.append_assoc, List.append_assoc] at h
  obtain ⟨e1, e2, e3⟩ := cut_high pre pre' r r' c c' h h2 g2 h4 g4
  subst e1 e2
  exact ⟨h6.symm.trans g6, e3⟩

theorem numB_cut (l m r r' : List Int) (hl : ∀ x ∈ l, 0 ≤ x ∧ x ≤ 2147483647) (hm : ∀ x ∈ m, 0 ≤ x ∧ x ≤ 2147483647) (hlen : l.length = m.length) (h : numB l ++ r = numB m ++ r') : l = m ∧ r = r' := by
  induction l generalizing m with
  | nil =>
    cases m with
    | nil => exact ⟨rfl, by simpa [numB] using h⟩
    | cons y m => simp at hlen
  | cons x l ih =>
    cases m with
    | nil => simp at hlen
    | cons y m =>
      have e : ∀ z (l : List Int), numB (z :: l) = groups z.toNat ++ numB l := fun z l => by simp [numB]
      rw [e, e, List.append_assoc, List.append_assoc] at h
      have hx := hl x (by simp)
      have hy := hm y (by simp)
      obtain ⟨e1, e2⟩ := groups_cut _ _ _ _ (by omega) (by omega) h
      obtain ⟨e3, e4⟩ := ih m (fun z hz => hl z (by simp [hz])) (fun z hz => hm z (by simp [hz])) (by simpa using hlen) e2
      exact ⟨by rw [e3, show x = y by omega], e4⟩

/-- these bytes are that frame's -/
def IsFrame (b : List Int) (kind : Int) (nums : List Int) (nb : Nat) (bs : List Int) : Prop :=
  may kind nums nb = 0 ∧ bs.length = 8 * nb ∧ (∀ x ∈ bs, 0 ≤ x ∧ x ≤ 255) ∧ packB kind nums nb bs = b

theorem sealB_len (s : Nat) : (sealB s).length = 4 := rfl

theorem IsFrame.one {b : List Int} {k k' : Int} {l l' : List Int} {n n' : Nat} {s s' : List Int} (h : IsFrame b k l n s) (h' : IsFrame b k' l' n' s') : k = k' ∧ l = l' ∧ n = n' ∧ s = s' := by
  obtain ⟨m1, m2, m3, m4⟩ := h
  obtain ⟨m1', m2', m3', m4'⟩ := h'
  obtain ⟨a1, a2, a3, a4, a5⟩ := may_facts m1
  obtain ⟨b1, b2, b3, b4, b5⟩ := may_facts m1'
  rw [← m4'] at m4
  unfold packB at m4
  have hb := (List.append_inj' m4 (by simp [sealB_len])).1
  unfold bodyB at hb
  simp only [List.cons_append, List.nil_append, List.cons.injEq] at hb
  obtain ⟨c1, c2, c3⟩ := hb
  have hn : n = n' := by omega
  obtain ⟨d1, d2⟩ := numB_cut l l' s s' a5 b5 (by omega) c3
  subst d1
  exact ⟨by omega, rfl, hn, d2⟩

/-- bytes from a place on whose first are all high: a number there is longer, and where a low one follows it is just what was read -/
theorem scan (r : List Int) (x j : Nat) (hx : x ≤ 2147483647) (t : List Int) (hr : r = groups x ++ t) (hj : j ≤ r.length) (hh : High (r.take j)) :
    j ≤ 4 ∧ j < (groups x).length ∧ ∀ c rest, r.drop j = c :: rest → c < 128 → (groups x).length = j + 1 ∧ gval (r.take (j + 1)) = x ∧ (1 ≤ c ∨ j = 0) ∧ 0 ≤ c := by
  obtain ⟨pre, d, h1, h2, h3, h4, h5, h6, h7⟩ := groups_form x hx
  have hlen : (groups x).length = pre.length + 1 := by rw [h1]; simp
  have hr2 : r = pre ++ d :: t := by rw [hr, h1]; simp
  have hjp : j ≤ pre.length := by
    rcases Nat.lt_or_ge pre.length j with hlt | hge
    · exfalso
      have : d ∈ r.take j := by
        rw [List.mem_take_iff_getElem]
        refine ⟨pre.length, by rw [hr2] at *; simp at *; omega, ?_⟩
        simp [hr2]
      have := hh d this
      omega
    · exact hge
  refine ⟨by omega, by omega, fun c rest hd hc => ?_⟩
  have e : r.take j ++ c :: rest = pre ++ d :: t := by rw [← hd, List.take_append_drop, hr2]
  obtain ⟨e1, e2, e3⟩ := cut_high _ _ _ _ _ _ e hh h2 hc h4
  have hjl : j = pre.length := by rw [← e1, List.length_take]; omega
  refine ⟨by omega, ?_, ?_, by omega⟩
  · have : r.take (j + 1) = pre ++ [d] := by rw [hr2, hjl, List.take_append]; simp [List.take_of_length_le]
    rw [this, h6]
  · rcases h5 with h | h
    · exact .inl (by omega)
    · exact .inr (by rw [hjl, h]; rfl)
end Mx
end Go.Proofs.Ytdhmijjphgcdmaa
