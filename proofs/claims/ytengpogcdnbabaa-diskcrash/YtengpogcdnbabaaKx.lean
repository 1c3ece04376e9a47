/-
  What a crash leaves: bytes from the front of a block over another; rows of blocks in memory, one of them another one.
-/
import Derived.Test.YtengpogcdnbabaaDflush
import Derived.Test.YtengpogcdnbabaaDsame
import Derived.Laws.CopyOwn
namespace Go.Proofs.Ytengpogcdnbabaa
open Go.RowKit

namespace Mx
/-- of the first block so many bytes from the front, else of the second -/
def mixB (k : Nat) (d o : B8) : B8 :=
  ⟨if 0 < k then d.z0 else o.z0, if 1 < k then d.z1 else o.z1, if 2 < k then d.z2 else o.z2, if 3 < k then d.z3 else o.z3, if 4 < k then d.z4 else o.z4, if 5 < k then d.z5 else o.z5, if 6 < k then d.z6 else o.z6, if 7 < k then d.z7 else o.z7⟩
theorem mixB_zero (d o : B8) : mixB 0 d o = o := rfl
theorem mixB_cs (k : Nat) (hk : k ≤ 8) (d o : B8) : (mixB k d o).cs = d.cs.take k ++ o.cs.drop k := by
  match k, hk with
  | 0, _ => rfl
  | 1, _ => rfl
  | 2, _ => rfl
  | 3, _ => rfl
  | 4, _ => rfl
  | 5, _ => rfl
  | 6, _ => rfl
  | 7, _ => rfl
  | 8, _ => rfl
  | n + 9, h => omega
theorem mixB_set (k : Nat) (hk : k < 8) (d o : B8) (v : Value) (hv : d.cs[k]? = some v) : (mixB (k + 1) d o).cs = (mixB k d o).cs.set k v := by
  match k, hk, hv with
  | 0, _, hv => simp [B8.cs] at hv; subst hv; rfl
  | 1, _, hv => simp [B8.cs] at hv; subst hv; rfl
  | 2, _, hv => simp [B8.cs] at hv; subst hv; rfl
  | 3, _, hv => simp [B8.cs] at hv; subst hv; rfl
  | 4, _, hv => simp [B8.cs] at hv; subst hv; rfl
  | 5, _, hv => simp [B8.cs] at hv; subst hv; rfl
  | 6, _, hv => simp [B8.cs] at hv; subst hv; rfl
  | 7, _, hv => simp [B8.cs] at hv; subst hv; rfl
  | n + 8, h, _ => omega

/-- one block of a crash -/
def tornL (l : List B8) (p : Pt) (k : Nat) : List B8 := match l[p.at_.toNat]? with
  | some o => l.set p.at_.toNat (mixB k p.d o)
  | none => l
/-- the first so many of them -/
def crashK (ls : List B8) (ps : List Pt) (bs : List Int) (j : Nat) : List B8 := ((ps.zip bs).take j).foldl (fun l x => tornL l x.1 (kept x.2).toNat) ls
/-- all -/
def crash (ls : List B8) (ps : List Pt) (bs : List Int) : List B8 := (ps.zip bs).foldl (fun l x => tornL l x.1 (kept x.2).toNat) ls
theorem tornL_len (l : List B8) (p : Pt) (k : Nat) : (tornL l p k).length = l.length := by unfold tornL; split <;> simp
theorem tornL_at {l : List B8} {p : Pt} {o : B8} (k : Nat) (h : l[p.at_.toNat]? = some o) : tornL l p k = l.set p.at_.toNat (mixB k p.d o) := by unfold tornL; rw [h]
theorem crash_len (ls : List B8) (xs : List (Pt × Int)) : (xs.foldl (fun l x => tornL l x.1 (kept x.2).toNat) ls).length = ls.length := by
  induction xs generalizing ls with
  | nil => rfl
  | cons x xs ih => rw [List.foldl_cons, ih, tornL_len]
theorem crashK_len (ls : List B8) (ps : List Pt) (bs : List Int) (j : Nat) : (crashK ls ps bs j).length = ls.length := crash_len _ _
theorem crashK_zero (ls : List B8) (ps : List Pt) (bs : List Int) : crashK ls ps bs 0 = ls := rfl
theorem crashK_succ {ls : List B8} {ps : List Pt} {bs : List Int} {j : Nat} {p : Pt} {b : Int} (hp : ps[j]? = some p) (hb : bs[j]? = some b) : crashK ls ps bs (j + 1) = tornL (crashK ls ps bs j) p (kept b).toNat := by
  have hz : (ps.zip bs)[j]? = some (p, b) := List.getElem?_zip_eq_some.2 ⟨hp, hb⟩
  unfold crashK
  rw [getElem_take_succ _ _ _ hz, List.foldl_append]
  rfl
theorem crashK_all {ls : List B8} {ps : List Pt} {bs : List Int} {j : Nat} (h : ps.length ≤ j ∨ bs.length ≤ j) : crashK ls ps bs j = crash ls ps bs := by
  unfold crashK crash
  rw [List.take_of_length_le]
  rw [List.length_zip]
  rcases h with h | h <;> omega
end Mx

theorem flatB_split {l : List B8} {j : Nat} {o : B8} (h : l[j]? = some o) (x : B8) :
    flatB l = flatB (l.take j) ++ (o.cs ++ flatB (l.drop (j + 1))) ∧ flatB (l.set j x) = flatB (l.take j) ++ (x.cs ++ flatB (l.drop (j + 1))) ∧ (flatB (l.take j)).length = j * 8 := by
  have hj : j < l.length := (List.getElem?_eq_some_iff.1 h).1
  have e : l = l.take j ++ o :: l.drop (j + 1) := by
    have := (List.getElem?_eq_some_iff.1 h).2
    rw [← this, List.getElem_cons_drop, List.take_append_drop]
  have e2 : l.set j x = l.take j ++ x :: l.drop (j + 1) := List.set_eq_take_append_cons_drop ▸ (by rw [if_pos hj])
  refine ⟨?_, ?_, ?_⟩
  · conv => lhs; rw [e]
    simp [flatB, List.flatMap_append, List.flatMap_cons]
  · rw [e2]
    simp [flatB, List.flatMap_append, List.flatMap_cons]
  · rw [flatB_len, List.length_take]
    have : min j l.length = j := by omega
    rw [this]

/-- a row of blocks: its block of memory, and how it is made anew -/
theorem OwnBL.apart {w : World} {base g n cap : Nat} {l : List B8} (h : OwnBL w base (.slice (some ⟨g, 0, none⟩) n cap) l) :
    base ≤ g ∧ g < w.heap.size ∧ l.length = n ∧ ∃ (cur : List Value) (Y : List Value), w.heap[g]? = some (.cells cur.toArray 52) ∧ cur = flatB l ++ Y ∧
      ∀ (w' : World) (cur' : List Value) (l' : List B8), w'.heap[g]? = some (.cells cur'.toArray 52) → cur' = flatB l' ++ Y → l'.length = l.length → OwnBL w' base (.slice (some ⟨g, 0, none⟩) n cap) l' := by
  rcases h.2 with ⟨hv, _⟩ | ⟨g', cap', cur, hv, hb, hh, hle, hmx, hcs, htk⟩
  · cases hv
  · simp only [Value.slice.injEq, Option.some.injEq, Addr.mk.injEq, and_true] at hv
    obtain ⟨rfl, hn, rfl⟩ := hv
    have hcur : cur.toList = flatB l ++ cur.toList.drop (l.length * 8) := by
      conv => lhs; rw [← List.take_append_drop (l.length * 8) cur.toList]
      rw [htk]
    refine ⟨hb, (Array.getElem?_eq_some_iff.1 hh).1, hn.symm, cur.toList, cur.toList.drop (l.length * 8), by simpa using hh, hcur, fun w' cur' l' h1 h2 h3 => ?_⟩
    refine ⟨by rw [flatB_len], .inr ⟨g, cap, cur'.toArray, by rw [h3, hn], hb, h1, by rw [h3]; exact hle, hmx, ?_, ?_⟩⟩
    · have : cur'.length = cur.toList.length := by
        rw [h2, hcur]
        simp only [List.length_append, flatB_len, h3, List.length_drop]
        omega
      simpa using this.trans (by simpa using hcs)
    · rw [List.toList_toArray, h2, ← flatB_len l', List.take_left]

/-- one cell of one block another one -/
theorem OwnBL.set1 {w : World} {base g n cap : Nat} {l : List B8} (h : OwnBL w base (.slice (some ⟨g, 0, none⟩) n cap) l) {j kk : Nat} {o x : B8} {v : Value} (hj : l[j]? = some o) (hk : kk < 8) (hx : x.cs = o.cs.set kk v) :
    OwnBL (w.setCell ⟨g, j * 8 + kk, none⟩ v) base (.slice (some ⟨g, 0, none⟩) n cap) (l.set j x) := by
  obtain ⟨_, _, _, cur, Y, hh, hc, re⟩ := h.apart
  obtain ⟨e1, e2, e3⟩ := flatB_split hj x
  have hb : Bx w g cur.toArray 52 := hh
  refine re _ (cur.set (j * 8 + kk) v) (l.set j x) ?_ ?_ (by simp)
  · have := hb.set (j * 8 + kk) v
    unfold Bx at this
    rw [this]
    simp
  · rw [hc, e1, e2, hx, List.append_assoc, List.append_assoc, List.set_append_right _ _ (by omega), e3, Nat.add_sub_cancel_left, List.append_assoc, List.set_append_left _ _ (by simp [B8.cs]; omega)]
    simp [List.append_assoc]

/-- some bytes from the front of one block others -/
theorem OwnBL.spliced {w' : World} {base g n cap : Nat} {l : List B8} {cur Y : List Value} (hc : cur = flatB l ++ Y)
    (re : ∀ (w' : World) (cur' : List Value) (l' : List B8), w'.heap[g]? = some (.cells cur'.toArray 52) → cur' = flatB l' ++ Y → l'.length = l.length → OwnBL w' base (.slice (some ⟨g, 0, none⟩) n cap) l')
    {j k : Nat} {o d : B8} (hj : l[j]? = some o) (hk : k ≤ 8) (h' : w'.heap[g]? = some (.cells (splice cur (j * 8) (d.cs.take k)).toArray 52)) :
    OwnBL w' base (.slice (some ⟨g, 0, none⟩) n cap) (l.set j (Mx.mixB k d o)) := by
  obtain ⟨e1, e2, e3⟩ := flatB_split hj (Mx.mixB k d o)
  refine re w' _ _ h' ?_ (by simp)
  have hkl : (d.cs.take k).length = k := by rw [List.length_take]; have : d.cs.length = 8 := rfl; omega
  rw [hc, e1, e2, Mx.mixB_cs k hk]
  unfold splice
  rw [hkl, List.append_assoc, List.take_append_of_le_length (by omega), List.take_of_length_le (by omega), ← e3, List.drop_append, List.drop_of_length_le (by omega), Nat.add_sub_cancel_left, List.nil_append, List.append_assoc, List.drop_append_of_le_length (by have : o.cs.length = 8 := rfl; omega)]
  simp [List.append_assoc]

end Go.Proofs.Ytengpogcdnbabaa
