/-
  The document's own reading (Unpacked): the frame that bytes are, or that they are none.
-/
import Derived.Test.YtengpogcdnbabacGather
namespace Go.Proofs.Ytengpogcdnbabac
open Go.RowKit

theorem frame_long {l : List Int} (h : l.length < 6) : ∀ kind nums nb bs, ¬ Mx.IsFrame l kind nums nb bs := fun _ _ _ _ hf => by
  have := hf.head
  omega

/-- what is handed back: a frame, or none -/
def Told (w w' : World) (l : List Int) (e : Ending) (yes no : Value) : Prop :=
  (∃ kind nums nb bs a1 c1 a2 c2, e = .returned (.tuple #[.agg #[.int .i64 kind, .slice a1 nums.length c1, .slice a2 nb c2], yes]) ∧ Mx.IsFrame l kind nums nb bs ∧ Ints w' a1 nums.length nums ∧ Blks w' a2 nb bs ∧ Below w.heap.size w w') ∨
  (e = .returned (.tuple #[.agg #[.int .i64 0, .slice none 0 0, .slice none 0 0], no]) ∧ (∀ kind nums nb bs, ¬ Mx.IsFrame l kind nums nb bs) ∧ Below w.heap.size w w')

/-- what the reading keeps: its two boxes, and all that was there -/
def UInv (w wr : World) (s0 v1 v2 : Value) : Prop :=
  BoxAt wr w.heap.size (.int .i64 0) (.slice none 0 0) (.slice none 0 0) ∧ BoxAt wr (w.heap.size + 1) s0 v1 v2 ∧ Below w.heap.size w wr ∧ w.heap.size + 2 ≤ wr.heap.size

theorem UInv.start (w : World) (s0 : Value) : UInv w ((w.alloc (.cells #[.int .i64 0, .slice none 0 0, .slice none 0 0] 25)).alloc (.cells #[s0, .slice none 0 0, .slice none 0 0] 25)) s0 (.slice none 0 0) (.slice none 0 0) := by
  refine ⟨?_, ?_, ((Below.refl _ _).alloc (Nat.le_refl _) _).alloc (by simp) _, by simp⟩
  · exact (BoxAt.new w _ _ _).later (B := w.heap.size + 1) ((Below.refl _ _).alloc (by simp) _) (by omega)
  · have := BoxAt.new (w.alloc (.cells #[.int .i64 0, .slice none 0 0, .slice none 0 0] 25)) s0 (.slice none 0 0) (.slice none 0 0)
    simpa using this

theorem UInv.later {w wr w' : World} {s0 v1 v2 : Value} (h : UInv w wr s0 v1 v2) (hb : Below (w.heap.size + 2) wr w') : UInv w w' s0 v1 v2 :=
  ⟨h.1.later hb (by omega), h.2.1.later hb (by omega), h.2.2.1.trans (hb.mono (by omega)), by have := hb.size; have := h.2.2.2; omega⟩

theorem UInv.set1 {w wr : World} {s0 v1 v2 : Value} (h : UInv w wr s0 v1 v2) (v : Value) : UInv w (wr.setCell ⟨w.heap.size + 1, 1, none⟩ v) s0 v v2 :=
  ⟨h.1.other _ _ (by simp), h.2.1.set1 v, h.2.2.1.setCell (by simp) v, by have := h.2.2.2; simpa [World.setCell] using this⟩

theorem UInv.set2 {w wr : World} {s0 v1 v2 : Value} (h : UInv w wr s0 v1 v2) (v : Value) : UInv w (wr.setCell ⟨w.heap.size + 1, 2, none⟩ v) s0 v1 v :=
  ⟨h.1.other _ _ (by simp), h.2.1.set2 v, h.2.2.1.setCell (by simp) v, by have := h.2.2.2; simpa [World.setCell] using this⟩

theorem UInv.facts {w wr : World} {s0 v1 v2 : Value} (h : UInv w wr s0 v1 v2) :
    wr.cell? ⟨w.heap.size + 1, 0, none⟩ = some s0 ∧ wr.cell? ⟨w.heap.size + 1, 1, none⟩ = some v1 ∧ wr.cell? ⟨w.heap.size + 1, 2, none⟩ = some v2 ∧ (∀ o, wr.frozen? ⟨w.heap.size + 1, o, none⟩ = false) ∧
    wr.cell? ⟨w.heap.size, 0, none⟩ = some (.int .i64 0) ∧ wr.cell? ⟨w.heap.size, 1, none⟩ = some (.slice none 0 0) ∧ wr.cell? ⟨w.heap.size, 2, none⟩ = some (.slice none 0 0) ∧ (∀ o, wr.frozen? ⟨w.heap.size, o, none⟩ = false) ∧
    w.heap.size < wr.heap.size ∧ w.heap.size + 1 < wr.heap.size :=
  ⟨h.2.1.cell0, h.2.1.cell1, h.2.1.cell2, h.2.1.frozen, h.1.cell0, h.1.cell1, h.1.cell2, h.1.frozen, h.1.lt, h.2.1.lt⟩

theorem pow_big (j P : Nat) (hP : P = 128 ^ j) (h : (1099511627776 : Int) < P) : 5 ≤ j := by
  rcases Nat.lt_or_ge j 5 with hj | hj
  · have := Nat.pow_le_pow_right (n := 128) (by omega) (show j ≤ 4 by omega)
    omega
  · exact hj

theorem pow_small (j P : Nat) (hP : P = 128 ^ j) (h : ¬ (1099511627776 : Int) < P) : j + 1 ≤ 6 := by
  rcases Nat.lt_or_ge j 6 with hj | hj
  · omega
  · have := Nat.pow_le_pow_right (n := 128) (by omega) hj
    omega

theorem take_next (l : List Int) (A j c : Nat) (hj : A + j < l.length) (hc : l.getD (A + j) 0 = (c : Int)) : (l.drop A).take (j + 1) = (l.drop A).take j ++ [(c : Int)] := by
  apply Mx.take_snoc
  · rw [List.length_drop]; omega
  · rw [List.getD_eq_getElem?_getD, List.getElem?_drop, ← List.getD_eq_getElem?_getD]; exact hc

theorem high_more (l : List Int) (A j c : Nat) (hj : A + j < l.length) (hh : Mx.High ((l.drop A).take j)) (hc : l.getD (A + j) 0 = (c : Int)) (h1 : 128 ≤ (c : Int)) (h2 : c ≤ 255) : Mx.High ((l.drop A).take (j + 1)) :=
  high_snoc (l.drop A) j c hh (take_next l A j c hj hc) h1 h2

theorem wrap_two (V q P : Nat) (h1 : V < P) (h2 : q ≤ 127 * P) (hb : (P : Int) ≤ 1099511627776) : wrap64 ((V : Int) + wrap64 (q : Int)) = ((V + q : Nat) : Int) := by
  rw [IntWalk.wrap64_in (q : Int) (by omega), IntWalk.wrap64_in _ (by omega)]
  omega

theorem num_wrap (l : List Int) (A j V P c : Nat) (hj : A + j < l.length) (hP : P = 128 ^ j) (hb : (P : Int) ≤ 1099511627776) (hV : V = Mx.gval ((l.drop A).take j)) (hc : l.getD (A + j) 0 = (c : Int)) :
    wrap64 ((V : Int) + wrap64 ((c : Int) % 128 * (P : Int))) = (Mx.gval ((l.drop A).take (j + 1)) : Int) := by
  have hl : ((l.drop A).take j).length = j := by rw [List.length_take, List.length_drop]; omega
  have e : Mx.gval ((l.drop A).take (j + 1)) = V + c % 128 * P := by
    rw [take_next l A j c hj hc, Mx.gval_snoc, ← hV, hl, hP, Int.toNat_natCast]
  have h1 : V < P := by
    have := Mx.gval_lt ((l.drop A).take j)
    rw [hl, ← hV, ← hP] at this
    exact this
  have h2 : c % 128 * P ≤ 127 * P := Nat.mul_le_mul (by omega) (Nat.le_refl _)
  have e2 : (c : Int) % 128 * (P : Int) = ((c % 128 * P : Nat) : Int) := by simp
  rw [e2, e]
  exact wrap_two V _ P h1 h2 hb

/-- an array of eight bytes of which the first j are laid -/
def fill8 (zs : List Int) (j : Nat) : Array Value := ((zs.take j ++ List.replicate (8 - j) 0).map (Value.int .u8)).toArray

theorem fill8_zero (zs : List Int) : fill8 zs 0 = #[.int .u8 0, .int .u8 0, .int .u8 0, .int .u8 0, .int .u8 0, .int .u8 0, .int .u8 0, .int .u8 0] := rfl

theorem fill8_all (zs : List Int) (h : zs.length = 8) : fill8 zs 8 = (zs.map (Value.int .u8)).toArray := by
  unfold fill8
  rw [List.take_of_length_le (by omega)]
  simp

theorem fill8_at (zs : List Int) (j : Nat) (h : zs.length = 8) (hj : j < 8) : (fill8 zs j)[j]? = some (.int .u8 0) := by
  unfold fill8
  simp only [List.getElem?_toArray, List.getElem?_map]
  rw [List.getElem?_append_right (by rw [List.length_take]; omega), List.length_take, Nat.min_eq_left (by omega), Nat.sub_self, List.getElem?_replicate, if_pos (by omega)]
  rfl

theorem fill8_set (zs : List Int) (j : Nat) (z : Int) (h : zs.length = 8) (hj : j < 8) (hz : zs.getD j 0 = z) : (fill8 zs j).setIfInBounds j (.int .u8 z) = fill8 zs (j + 1) := by
  unfold fill8
  apply Array.ext'
  simp only [Array.toList_setIfInBounds]
  rw [List.map_append, List.set_append_right _ _ (by simp; omega)]
  rw [Mx.take_snoc zs j z (by omega) hz, show 8 - j = (8 - (j + 1)) + 1 by omega, List.replicate_succ]
  simp
  rw [show j - min j zs.length = 0 by omega]
  rfl

theorem list8 (zs : List Int) (h : zs.length = 8) : ∃ z0 z1 z2 z3 z4 z5 z6 z7, zs = [z0, z1, z2, z3, z4, z5, z6, z7] := by
  match zs, h with
  | [z0, z1, z2, z3, z4, z5, z6, z7], _ => exact ⟨z0, z1, z2, z3, z4, z5, z6, z7, rfl⟩

theorem block_more (l : List Int) (A m : Nat) (zs : List Int) (hz : zs = (l.drop (A + 8 * m)).take 8) : (l.drop A).take (8 * m) ++ zs = (l.drop A).take (8 * (m + 1)) := by
  rw [hz, ← List.drop_drop, show 8 * (m + 1) = 8 * m + 8 by omega, List.take_add]

theorem drop_getD (l : List Int) (A j : Nat) : (l.drop A).getD j 0 = l.getD (A + j) 0 := by
  rw [List.getD_eq_getElem?_getD, List.getElem?_drop, ← List.getD_eq_getElem?_getD]

theorem rowKeptBelow {w w' : World} {base e size n C : Nat} {v : Value} {xs : List Value} (h : w.ownsRow base e size v n xs) (hlt : ∀ g, v.ownBlock = some g → g < C) (hb : Below C w w') : w'.ownsRow base e size v n xs := by
  refine ⟨h.1, ?_⟩
  rcases h.2 with h2 | ⟨g, cap, cur, hv, hg, hh, r⟩
  · exact .inl h2
  · exact .inr ⟨g, cap, cur, hv, hg, (hb.block g (hlt g (by rw [hv]; rfl))).trans hh, r⟩

end Go.Proofs.Ytengpogcdnbabac
