/-
  Plain mathematics: a frame's bytes with one of them another one are no frame's: the sum tells two bodies that differ in one byte apart.
-/
import Derived.Test.YtengpogcdnbabacTorn
namespace Go.Proofs.Ytengpogcdnbabac
namespace Mx

theorem xor_poly_high (x : Nat) (h : x < 2147483648) : 2147483648 ≤ x ^^^ poly := by
  rcases Nat.lt_or_ge (x ^^^ poly) 2147483648 with hlt | hge
  · exfalso
    have e : (x ^^^ poly) ^^^ x = poly := by rw [Nat.xor_comm x poly, Nat.xor_assoc, Nat.xor_self, Nat.xor_zero]
    have := Nat.xor_lt_two_pow (n := 31) hlt h
    rw [e] at this
    unfold poly at this
    omega
  · exact hge

theorem xor_cancel (a b c : Nat) (h : a ^^^ c = b ^^^ c) : a = b := by
  have e : ∀ x : Nat, (x ^^^ c) ^^^ c = x := fun x => by rw [Nat.xor_assoc, Nat.xor_self, Nat.xor_zero]
  rw [← e a, ← e b, h]

theorem impBit_inj (x y : Nat) (hx : x < 4294967296) (hy : y < 4294967296) (h : impBit x = impBit y) : x = y := by
  unfold impBit at h
  have h1 := xor_poly_high (x / 2) (by omega)
  have h2 := xor_poly_high (y / 2) (by omega)
  split at h <;> split at h
  · have := xor_cancel _ _ _ h
    omega
  · omega
  · omega
  · omega

theorem impBits_inj (k x y : Nat) (hx : x < 4294967296) (hy : y < 4294967296) (h : impBits x k = impBits y k) : x = y := by
  induction k with
  | zero => exact h
  | succ k ih => exact ih (impBit_inj _ _ (impBits_lt x k hx) (impBits_lt y k hy) h)

theorem refBits_inj (x y c : Nat) (hc : c < 256) (hx : x < 4294967296) (hy : y < 4294967296) (h : refBits x c 8 = refBits y c 8) : x = y := by
  rw [← impBits_eight x c hc, ← impBits_eight y c hc] at h
  exact xor_cancel x y c (impBits_inj 8 _ _ (xor_lt _ _ hx (by omega)) (xor_lt _ _ hy (by omega)) h)

theorem refBits_byte (x c d : Nat) (hc : c < 256) (hd : d < 256) (hx : x < 4294967296) (h : refBits x c 8 = refBits x d 8) : c = d := by
  rw [← impBits_eight x c hc, ← impBits_eight x d hd] at h
  have := impBits_inj 8 _ _ (xor_lt _ _ hx (by omega)) (xor_lt _ _ hx (by omega)) h
  rw [Nat.xor_comm x c, Nat.xor_comm x d] at this
  exact xor_cancel c d x this

theorem reg_inj (l : List Int) (x y : Nat) (hb : ∀ c ∈ l, 0 ≤ c ∧ c ≤ 255) (hx : x < 4294967296) (hy : y < 4294967296) (h : reg x l = reg y l) : x = y := by
  induction l generalizing x y with
  | nil => exact h
  | cons c l ih =>
    have hc := hb c (by simp)
    exact refBits_inj x y c.toNat (by omega) hx hy (ih _ _ (fun d hd => hb d (by simp [hd])) (refBits_lt _ _ _ hx) (refBits_lt _ _ _ hy) h)

theorem crc_hurt (pre post : List Int) (c d : Int) (hc : 0 ≤ c ∧ c ≤ 255) (hd : 0 ≤ d ∧ d ≤ 255) (hp : ∀ x ∈ post, 0 ≤ x ∧ x ≤ 255) (h : crc (pre ++ c :: post) = crc (pre ++ d :: post)) : c = d := by
  unfold crc at h
  have h1 := reg_lt 4294967295 (pre ++ c :: post) (by omega)
  have h2 := reg_lt 4294967295 (pre ++ d :: post) (by omega)
  have h3 : reg 4294967295 (pre ++ c :: post) = reg 4294967295 (pre ++ d :: post) := by omega
  rw [reg_append, reg_append] at h3
  have hr := reg_lt 4294967295 pre (by omega)
  have h4 : refBits (reg 4294967295 pre) c.toNat 8 = refBits (reg 4294967295 pre) d.toNat 8 := reg_inj post _ _ hp (refBits_lt _ _ _ hr) (refBits_lt _ _ _ hr) h3
  have := refBits_byte _ _ _ (by omega) (by omega) hr h4
  omega

theorem sealB_inj (a b : Nat) (h : sealB a = sealB b) : a = b := by
  unfold sealB at h
  simp only [List.cons.injEq, and_true] at h
  omega

/-- with one byte another one it is no frame -/
theorem IsFrame.hurt {l : List Int} {kind : Int} {nums : List Int} {nb : Nat} {bs : List Int} (h : IsFrame l kind nums nb bs) (hb : ∀ x ∈ l, 0 ≤ x ∧ x ≤ 255) (r : Nat) (hr : r < l.length) (z : Int) (hz : 0 ≤ z ∧ z ≤ 255) (hne : l.getD r 0 ≠ z) :
    ∀ k' n' m' s', ¬ IsFrame (l.set r z) k' n' m' s' := by
  intro k' n' m' s' hf
  have e1 := h.body.2
  have e2 := hf.body.2
  rw [List.length_set] at e2
  have hl6 := h.head.2.2.1
  rcases Nat.lt_or_ge r (l.length - 4) with hlt | hge
  · rw [List.drop_set_of_lt hlt, e1] at e2
    have hcrc := sealB_inj _ _ e2
    have hlt' : r < (l.take (l.length - 4)).length := by rw [List.length_take]; omega
    have f1 : l.take (l.length - 4) = (l.take (l.length - 4)).take r ++ l.getD r 0 :: (l.take (l.length - 4)).drop (r + 1) := by
      conv => lhs; rw [← List.take_append_drop r (l.take (l.length - 4)), List.drop_eq_getElem_cons hlt']
      simp [List.getD_eq_getElem?_getD, hr]
    have f2 : (l.set r z).take (l.length - 4) = (l.take (l.length - 4)).take r ++ z :: (l.take (l.length - 4)).drop (r + 1) := by
      rw [List.take_set, List.set_eq_take_append_cons_drop, if_pos hlt']
    rw [f1, f2] at hcrc
    have hm := hb (l.getD r 0) (getD_mem l r hr)
    exact hne (crc_hurt _ _ _ _ hm hz (fun x hx => hb x (List.mem_of_mem_take (List.mem_of_mem_drop hx))) hcrc)
  · rw [List.take_set_of_le hge, ← e1] at e2
    have := congrArg (fun (m : List Int) => m.getD (r - (l.length - 4)) 0) e2
    simp only [drop_getD, show l.length - 4 + (r - (l.length - 4)) = r by omega] at this
    rw [List.getD_eq_getElem?_getD, List.getElem?_set, if_pos rfl, if_pos hr] at this
    simp only [Option.getD_some] at this
    exact hne this.symm

/-- the frame of nothing -/
theorem known_frame : IsFrame [0, 0, 65, 217, 18, 255] 0 [] 0 [] := by
  refine ⟨by decide, rfl, by simp, by decide +kernel⟩
end Mx

theorem packB_len2 {w : World} {kind : Int} {a2 : Option Addr} {n2 : Nat} {l bs : List Int} (h2 : Blks w a2 n2 bs) (hm : Mx.may kind l n2 = 0) : (Mx.packB kind l n2 bs).length ≤ 2000 := by
  obtain ⟨_, _, hll, hn2, _⟩ := may_facts hm
  have h1 := Mx.numB_len l
  have h3 := h2.1
  rw [Mx.packB, List.length_append, Mx.sealB_len]
  simp [Mx.bodyB]
  omega
end Go.Proofs.Ytengpogcdnbabac
