/-
  Disks: blocks and puts as they lie in memory; what B1 says of a disk.
-/
import Derived.Test.YtdhmijjphgcdmaaLoopB
namespace Go.Proofs.Ytdhmijjphgcdmaa
open Go.RowKit

/-- a put: a place, and a block -/
structure Pt where
  at_ : Int
  d : B8

def B8.cs (x : B8) : List Value := [.int .u8 x.z0, .int .u8 x.z1, .int .u8 x.z2, .int .u8 x.z3, .int .u8 x.z4, .int .u8 x.z5, .int .u8 x.z6, .int .u8 x.z7]
def Pt.cs (p : Pt) : List Value := [.int .i64 p.at_, .int .u8 p.d.z0, .int .u8 p.d.z1, .int .u8 p.d.z2, .int .u8 p.d.z3, .int .u8 p.d.z4, .int .u8 p.d.z5, .int .u8 p.d.z6, .int .u8 p.d.z7]
def flatB (l : List B8) : List Value := l.flatMap B8.cs
def flatP (l : List Pt) : List Value := l.flatMap Pt.cs
/-- a block of noughts -/
def zB : B8 := ⟨0, 0, 0, 0, 0, 0, 0, 0⟩

theorem flatMap_len {α : Type} (f : α → List Value) (s : Nat) (h : ∀ x, (f x).length = s) (l : List α) : (l.flatMap f).length = l.length * s := by
  induction l with
  | nil => simp
  | cons x l ih => rw [List.flatMap_cons, List.length_append, h, ih, List.length_cons, Nat.add_mul]; omega

theorem flatMap_at {α : Type} (f : α → List Value) (s : Nat) (h : ∀ x, (f x).length = s) (l : List α) (k j : Nat) (x : α) (hk : l[k]? = some x) (hj : j < s) : (l.flatMap f)[k * s + j]? = (f x)[j]? := by
  induction l generalizing k with
  | nil => simp at hk
  | cons y l ih =>
    rw [List.flatMap_cons]
    cases k with
    | zero =>
      simp at hk
      subst hk
      rw [Nat.zero_mul, Nat.zero_add, List.getElem?_append_left (by rw [h]; exact hj)]
    | succ k =>
      simp at hk
      rw [List.getElem?_append_right (by rw [h, Nat.add_mul]; omega), h, show (k + 1) * s + j - s = k * s + j by rw [Nat.add_mul]; omega]
      exact ih k hk

theorem flatMap_set {α : Type} (f : α → List Value) (s : Nat) (h : ∀ x, (f x).length = s) (l : List α) (k : Nat) (x : α) (hk : k < l.length) :
    (l.set k x).flatMap f = (l.flatMap f).take (k * s) ++ f x ++ (l.flatMap f).drop (k * s + s) := by
  induction l generalizing k with
  | nil => simp at hk
  | cons y l ih =>
    cases k with
    | zero => simp [List.flatMap_cons, ← h y]
    | succ k =>
      rw [List.set_cons_succ, List.flatMap_cons, List.flatMap_cons, ih k (by simpa using hk), List.take_append, List.drop_append]
      rw [List.take_of_length_le (l := f y) (i := (k + 1) * s) (by rw [h, Nat.add_mul]; omega), List.drop_of_length_le (l := f y) (i := (k + 1) * s + s) (by rw [h, Nat.add_mul]; omega), h]
      rw [show (k + 1) * s - s = k * s by rw [Nat.add_mul]; omega, show (k + 1) * s + s - s = k * s + s by rw [Nat.add_mul]; omega]
      simp [List.append_assoc]

theorem flatB_len (l : List B8) : (flatB l).length = l.length * 8 := flatMap_len _ 8 (fun _ => rfl) l
theorem flatP_len (l : List Pt) : (flatP l).length = l.length * 9 := flatMap_len _ 9 (fun _ => rfl) l
theorem flatB_one {l : List B8} : ∀ u ∈ flatB l, u.oneCell' = true := by
  intro u hu
  obtain ⟨x, _, hx⟩ := List.mem_flatMap.1 hu
  simp [B8.cs] at hx
  rcases hx with rfl | rfl | rfl | rfl | rfl | rfl | rfl | rfl <;> rfl
theorem flatP_one {l : List Pt} : ∀ u ∈ flatP l, u.oneCell' = true := by
  intro u hu
  obtain ⟨x, _, hx⟩ := List.mem_flatMap.1 hu
  simp [Pt.cs] at hx
  rcases hx with rfl | rfl | rfl | rfl | rfl | rfl | rfl | rfl | rfl <;> rfl

/-- a slice whose cells are these -/
def RowR (w : World) (a : Option Addr) (n size : Nat) (xs : List Value) : Prop :=
  xs.length = n * size ∧ n ≤ maxLen ∧ (0 < n → ∃ b off, a = some ⟨b, off, none⟩ ∧ b < w.heap.size ∧ ∀ j u, xs[j]? = some u → w.cell? ⟨b, off + j, none⟩ = some u)
/-- blocks; puts -/
def BL (w : World) (a : Option Addr) (n : Nat) (l : List B8) : Prop := l.length = n ∧ RowR w a n 8 (flatB l)
def PL (w : World) (a : Option Addr) (n : Nat) (l : List Pt) : Prop := l.length = n ∧ RowR w a n 9 (flatP l)

theorem RowR.later {w w' : World} {a : Option Addr} {n size : Nat} {xs : List Value} (h : RowR w a n size xs) (hb : Below w.heap.size w w') : RowR w' a n size xs := by
  obtain ⟨h1, h2, h4⟩ := h
  refine ⟨h1, h2, fun hp => ?_⟩
  obtain ⟨b, off, ha, hlt, hc⟩ := h4 hp
  exact ⟨b, off, ha, by have := hb.size; omega, fun j u hj => (hb.cell (p := ⟨b, off + j, none⟩) hlt).trans (hc j u hj)⟩
theorem BL.later {w w' : World} {a : Option Addr} {n : Nat} {l : List B8} (h : BL w a n l) (hb : Below w.heap.size w w') : BL w' a n l := ⟨h.1, h.2.later hb⟩
theorem PL.later {w w' : World} {a : Option Addr} {n : Nat} {l : List Pt} (h : PL w a n l) (hb : Below w.heap.size w w') : PL w' a n l := ⟨h.1, h.2.later hb⟩
theorem BL.nil (w : World) : BL w none 0 [] := ⟨rfl, rfl, by unfold maxLen; omega, fun h => absurd h (by omega)⟩
theorem PL.nil (w : World) : PL w none 0 [] := ⟨rfl, rfl, by unfold maxLen; omega, fun h => absurd h (by omega)⟩

theorem BL.at_ {w : World} {a : Option Addr} {n : Nat} {l : List B8} (h : BL w a n l) (k : Nat) (hk : k < n) :
    ∃ b off, ∃ x : B8, a = some ⟨b, off, none⟩ ∧ b < w.heap.size ∧ l[k]? = some x ∧ w.cell? ⟨b, off + k * 8, none⟩ = some (.int .u8 x.z0) ∧ w.cell? ⟨b, off + k * 8 + 1, none⟩ = some (.int .u8 x.z1) ∧ w.cell? ⟨b, off + k * 8 + 2, none⟩ = some (.int .u8 x.z2) ∧
      w.cell? ⟨b, off + k * 8 + 3, none⟩ = some (.int .u8 x.z3) ∧ w.cell? ⟨b, off + k * 8 + 4, none⟩ = some (.int .u8 x.z4) ∧ w.cell? ⟨b, off + k * 8 + 5, none⟩ = some (.int .u8 x.z5) ∧
      w.cell? ⟨b, off + k * 8 + 6, none⟩ = some (.int .u8 x.z6) ∧ w.cell? ⟨b, off + k * 8 + 7, none⟩ = some (.int .u8 x.z7) := by
  obtain ⟨h0, h1, h2, h4⟩ := h
  obtain ⟨b, off, ha, hlt, hc⟩ := h4 (by omega)
  have hx : l[k]? = some l[k] := List.getElem?_eq_getElem (by omega)
  have e := fun j (hj : j < 8) => flatMap_at B8.cs 8 (fun _ => rfl) l k j _ hx hj
  refine ⟨b, off, l[k], ha, hlt, hx, ?_, ?_, ?_, ?_, ?_, ?_, ?_, ?_⟩
  · exact hc (k * 8) _ (e 0 (by omega))
  · exact hc (k * 8 + 1) _ (e 1 (by omega))
  · exact hc (k * 8 + 2) _ (e 2 (by omega))
  · exact hc (k * 8 + 3) _ (e 3 (by omega))
  · exact hc (k * 8 + 4) _ (e 4 (by omega))
  · exact hc (k * 8 + 5) _ (e 5 (by omega))
  · exact hc (k * 8 + 6) _ (e 6 (by omega))
  · exact hc (k * 8 + 7) _ (e 7 (by omega))

theorem PL.at_ {w : World} {a : Option Addr} {n : Nat} {l : List Pt} (h : PL w a n l) (k : Nat) (hk : k < n) :
    ∃ b off, ∃ p : Pt, a = some ⟨b, off, none⟩ ∧ b < w.heap.size ∧ l[k]? = some p ∧ w.cell? ⟨b, off + k * 9, none⟩ = some (.int .i64 p.at_) ∧ w.cell? ⟨b, off + k * 9 + 1, none⟩ = some (.int .u8 p.d.z0) ∧ w.cell? ⟨b, off + k * 9 + 2, none⟩ = some (.int .u8 p.d.z1) ∧
      w.cell? ⟨b, off + k * 9 + 3, none⟩ = some (.int .u8 p.d.z2) ∧ w.cell? ⟨b, off + k * 9 + 4, none⟩ = some (.int .u8 p.d.z3) ∧ w.cell? ⟨b, off + k * 9 + 5, none⟩ = some (.int .u8 p.d.z4) ∧
      w.cell? ⟨b, off + k * 9 + 6, none⟩ = some (.int .u8 p.d.z5) ∧ w.cell? ⟨b, off + k * 9 + 7, none⟩ = some (.int .u8 p.d.z6) ∧ w.cell? ⟨b, off + k * 9 + 8, none⟩ = some (.int .u8 p.d.z7) := by
  obtain ⟨h0, h1, h2, h4⟩ := h
  obtain ⟨b, off, ha, hlt, hc⟩ := h4 (by omega)
  have hx : l[k]? = some l[k] := List.getElem?_eq_getElem (by omega)
  have e := fun j (hj : j < 9) => flatMap_at Pt.cs 9 (fun _ => rfl) l k j _ hx hj
  refine ⟨b, off, l[k], ha, hlt, hx, ?_, ?_, ?_, ?_, ?_, ?_, ?_, ?_, ?_⟩
  · exact hc (k * 9) _ (e 0 (by omega))
  · exact hc (k * 9 + 1) _ (e 1 (by omega))
  · exact hc (k * 9 + 2) _ (e 2 (by omega))
  · exact hc (k * 9 + 3) _ (e 3 (by omega))
  · exact hc (k * 9 + 4) _ (e 4 (by omega))
  · exact hc (k * 9 + 5) _ (e 5 (by omega))
  · exact hc (k * 9 + 6) _ (e 6 (by omega))
  · exact hc (k * 9 + 7) _ (e 7 (by omega))
  · exact hc (k * 9 + 8) _ (e 8 (by omega))

/-- the call's own blocks; its own puts -/
def OwnBL (w : World) (base : Nat) (v : Value) (l : List B8) : Prop := w.ownsRow base 52 8 v l.length (flatB l)
def OwnPL (w : World) (base : Nat) (v : Value) (l : List Pt) : Prop := w.ownsRow base 58 9 v l.length (flatP l)

theorem Try.info58 : (Try.prog.info? 58).map (fun i => (i.zero, i.size, i.bytes)) = some (some (.agg #[.int .i64 0, .int .u8 0, .int .u8 0, .int .u8 0, .int .u8 0, .int .u8 0, .int .u8 0, .int .u8 0, .int .u8 0]), 9, 16) := by kernel_rfl

theorem ownsRow_rowR {w : World} {base e size : Nat} {v : Value} {n : Nat} {xs : List Value} (h : w.ownsRow base e size v n xs) : ∃ a c, v = .slice a n c ∧ n ≤ c ∧ RowR w a n size xs ∧ ∀ p, a = some p → base ≤ p.block := by
  rcases h.2 with ⟨hv, hz⟩ | ⟨g, cap, cur, hv, hb, hh, hle, hmx, _⟩
  · subst hz
    exact ⟨none, 0, hv, Nat.le_refl _, ⟨h.1, by unfold maxLen; omega, fun h => absurd h (by omega)⟩, fun p hp => by cases hp⟩
  · have hc := World.ownsRow.cells h (g := g) (by rw [hv]; rfl)
    refine ⟨_, cap, hv, hle, ⟨h.1, by omega, fun _ => ⟨g, 0, rfl, (Array.getElem?_eq_some_iff.1 hh).1, fun i u hi => ?_⟩⟩, fun p hp => by cases hp; exact hb⟩
    have hadd : (⟨g, 0, none⟩ : Addr).add i = ⟨g, 0 + i, none⟩ := by unfold Addr.add; split <;> simp_all
    rw [← hadd]
    exact hc i u hi

theorem OwnBL.bl {w : World} {base : Nat} {v : Value} {l : List B8} (h : OwnBL w base v l) : ∃ a c, v = .slice a l.length c ∧ BL w a l.length l ∧ ∀ p, a = some p → base ≤ p.block := by
  obtain ⟨a, c, hv, _, hr, hp⟩ := ownsRow_rowR h
  exact ⟨a, c, hv, ⟨rfl, hr⟩, hp⟩
theorem OwnPL.pl {w : World} {base : Nat} {v : Value} {l : List Pt} (h : OwnPL w base v l) : ∃ a c, v = .slice a l.length c ∧ PL w a l.length l ∧ ∀ p, a = some p → base ≤ p.block := by
  obtain ⟨a, c, hv, _, hr, hp⟩ := ownsRow_rowR h
  exact ⟨a, c, hv, ⟨rfl, hr⟩, hp⟩

namespace Mx
def outside (n : Nat) (p : Pt) : Bool := decide (p.at_ < 0) || decide ((n : Int) ≤ p.at_)
/-- B1's error, as a number (0: none) -/
def dmay (n : Nat) (ps : List Pt) : Int :=
  if n < 1 ∨ 200 < n ∨ 800 < ps.length then 2 else if ps.any (outside n) then 1 else 0
theorem dmay_long {n : Nat} {ps : List Pt} (h : n < 1 ∨ 200 < n ∨ 800 < ps.length) : dmay n ps = 2 := by unfold dmay; rw [if_pos h]
theorem dmay_bad {n : Nat} {ps : List Pt} (h : ¬ (n < 1 ∨ 200 < n ∨ 800 < ps.length)) (k : Nat) (p : Pt) (hk : ps[k]? = some p) (hp : outside n p = true) : dmay n ps = 1 := by
  unfold dmay
  rw [if_neg h, if_pos]
  rw [List.any_eq_true]
  exact ⟨p, List.mem_of_getElem? hk, hp⟩
theorem dmay_ok {n : Nat} {ps : List Pt} (h : ¬ (n < 1 ∨ 200 < n ∨ 800 < ps.length)) (hp : ∀ k p, k < ps.length → ps[k]? = some p → outside n p = false) : dmay n ps = 0 := by
  unfold dmay
  rw [if_neg h, if_neg]
  rw [List.any_eq_true]
  rintro ⟨p, hx, hb⟩
  obtain ⟨i, hi, rfl⟩ := List.getElem_of_mem hx
  have := hp i _ hi (List.getElem?_eq_getElem hi)
  rw [hb] at this
  cases this
theorem dmay_facts {n : Nat} {ps : List Pt} (h : dmay n ps = 0) : 1 ≤ n ∧ n ≤ 200 ∧ ps.length ≤ 800 ∧ ∀ p ∈ ps, 0 ≤ p.at_ ∧ p.at_ < n := by
  unfold dmay at h
  split at h
  · omega
  · split at h
    · omega
    · rename_i h1 h2
      refine ⟨by omega, by omega, by omega, fun p hp => ?_⟩
      rw [List.any_eq_true] at h2
      have : ¬ outside n p = true := fun hb => h2 ⟨p, hp, hb⟩
      simp [outside] at this
      omega
end Mx
end Go.Proofs.Ytdhmijjphgcdmaa
