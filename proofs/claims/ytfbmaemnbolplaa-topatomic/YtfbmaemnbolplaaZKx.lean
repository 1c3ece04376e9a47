/-
  What a crash leaves: bytes from the front of a block over another; rows of blocks in memory, one of them another one.
-/
import Derived.Laws.CopyOwn
import Derived.Test.YtfbmaemnbolplaaZIs
import Derived.Test.YtfbmaemnbolplaaZDclone
import Derived.Test.YtfbmaemnbolplaaZDbox

namespace Go.Proofs.Ytfbmaemnbolplaa
open Go.RowKit

namespace Mx
/-- of the first block so many bytes from the front, else of the second -/
def mixB (k : Nat) (d o : B8) : B8 :=
  ⟨if 0 < k then d.z0 else o.z0, if 1 < k then d.z1 else o.z1, if 2 < k then d.z2 else o.z2, if 3 < k then d.z3 else o.z3, if 4 < k then d.z4 else o.z4, if 5 < k then d.z5 else o.z5, if 6 < k then d.z6 else o.z6, if 7 < k then d.z7 else o.z7⟩
theorem mixB_zero (d o : B8) : mixB 0 d o = o := rfl
theorem mixB_cs (k : Nat) (hk : k ≤ 8) (d o : B8) : (mixB k d o).cs = d.cs.take k ++ o.cs.drop k := by
  match k, hk with
  | 0, _ => rfl
  | 1, _ => rfl
  | 2, _ => rfl
  | 3, _ => rfl
  | 4, _ => rfl
  | 5, _ => rfl
  | 6, _ => rfl
  | 7, _ => rfl
  | 8, _ => rfl
  | n + 9, h => omega
theorem mixB_set (k : Nat) (hk : k < 8) (d o : B8) (v : Value) (hv : d.cs[k]? = some v) : (mixB (k + 1) d o).cs = (mixB k d o).cs.set k v := by
  match k, hk, hv with
  | 0, _, hv => simp [B8.cs] at hv; subst hv; rfl
  | 1, _, hv => simp [B8.cs] at hv; subst hv; rfl
  | 2, _, hv => simp [B8.cs] at hv; subst hv; rfl
  | 3, _, hv => simp [B8.cs] at hv; subst hv; rfl
  | 4, _, hv => simp [B8.cs] at hv; subst hv; rfl
  | 5, _, hv => simp [B8.cs] at hv; subst hv; rfl
  | 6, _, hv => simp [B8.cs] at hv; subst hv; rfl
  | 7, _, hv => simp [B8.cs] at hv; subst hv; rfl
  | n + 8, h, _ => omega

/-- one block of a crash -/
def tornL (l : List B8) (p : Pt) (k : Nat) : List B8 := match l[p.at_.toNat]? with
  | some o => l.set p.at_.toNat (mixB k p.d o)
  | none => l
/-- the first so many of them -/
def crashK (ls : List B8) (ps : List Pt) (bs : List Int) (j : Nat) : List B8 := ((ps.zip bs).take j).foldl (fun l x => tornL l x.1 (kept x.2).toNat) ls
/-- all -/
def crash (ls : List B8) (ps : List Pt) (bs : List Int) : List B8 := (ps.zip bs).foldl (fun l x => tornL l x.1 (kept x.2).toNat) ls
theorem tornL_len (l : List B8) (p : Pt) (k : Nat) : (tornL l p k).length = l.length := by unfold tornL; split <;> simp
theorem tornL_at {l : List B8} {p : Pt} {o : B8} (k : Nat) (h : l[p.at_.toNat]? = some o) : tornL l p k = l.set p.at_.toNat (mixB k p.d o) := by unfold tornL; rw [h]
theorem crash_len (ls : List B8) (xs : List (Pt × Int)) : (xs.foldl (fun l x => tornL l x.1 (kept x.2).toNat) ls).length = ls.length := by
  induction xs generalizing ls with
  | nil => rfl
  | cons x xs ih => rw [List.foldl_cons, ih, tornL_len]
theorem crashK_len (ls : List B8) (ps : List Pt) (bs : List Int) (j : Nat) : (crashK ls ps bs j).length = ls.length := crash_len _ _
theorem crashK_zero (ls : List B8) (ps : List Pt) (bs : List Int) : crashK ls ps bs 0 = ls := rfl
theorem crashK_succ {ls : List B8} {ps : List Pt} {bs : List Int} {j : Nat} {p : Pt} {b : Int} (hp : ps[j]? = some p) (hb : bs[j]? = some b) : crashK ls ps bs (j + 1) = tornL (crashK ls ps bs j) p (kept b).toNat := by
  have hz : (ps.zip bs)[j]? = some (p, b) := List.getElem?_zip_eq_some.2 ⟨hp, hb⟩
  unfold crashK
  rw [getElem_take_succ _ _ _ hz, List.foldl_append]
  rfl
theorem crashK_all {ls : List B8} {ps : List Pt} {bs : List Int} {j : Nat} (h : ps.length ≤ j ∨ bs.length ≤ j) : crashK ls ps bs j = crash ls ps bs := by
  unfold crashK crash
  rw [List.take_of_length_le]
  rw [List.length_zip]
  rcases h with h | h <;> omega
end Mx

theorem flatB_split {l : List B8} {j : Nat} {o : B8} (h : l[j]? = some o) (x : B8) :
    flatB l = flatB (l.take j) ++ (o.cs ++ flatB (l.drop (j + 1))) ∧ flatB (l.set j x) = flatB (l.take j) ++ (x.cs ++ flatB (l.drop (j + 1))) ∧ (flatB (l.take j)).length = j * 8 := by
  have hj : j < l.length := (List.getElem?_eq_some_iff.1 h).1
  have e : l = l.take j ++ o :: l.drop (j + 1) := by
    have := (List.getElem?_eq_some_iff.1 h).2
    rw [← this, List.getElem_cons_drop, List.take_append_drop]
  have e2 : l.set j x = l.take j ++ x :: l.drop (j + 1) := List.set_eq_take_append_cons_drop ▸ (by rw [if_pos hj])
  refine ⟨?_, ?_, ?_⟩
  · conv => lhs; rw [e]
    simp [flatB, List.flatMap_append, List.flatMap_cons]
  · rw [e2]
    simp [flatB, List.flatMap_append, List.flatMap_cons]
  · rw [flatB_len, List.length_take]
    have : min j l.length = j := by omega
    rw [this]

/-- a row of blocks: its block of memory, and how it is made anew -/
theorem OwnBL.apart {w : World} {base g n cap : Nat} {l : List B8} (h : OwnBL w base (.slice (some ⟨g, 0, none⟩) n cap) l) :
    base ≤ g ∧ g < w.heap.size ∧ l.length = n ∧ ∃ (cur : List Value) (Y : List Value), w.heap[g]? = some (.cells cur.toArray 38) ∧ cur = flatB l ++ Y ∧
      ∀ (w' : World) (cur' : List Value) (l' : List B8), w'.heap[g]? = some (.cells cur'.toArray 38) → cur' = flatB l' ++ Y → l'.length = l.length → OwnBL w' base (.slice (some ⟨g, 0, none⟩) n cap) l' := by
  rcases h.2 with ⟨hv, _⟩ | ⟨g', cap', cur, hv, hb, hh, hle, hmx, hcs, htk⟩
  · cases hv
  · simp only [Value.slice.injEq, Option.some.injEq, Addr.mk.injEq, and_true] at hv
    obtain ⟨rfl, hn, rfl⟩ := hv
    have hcur : cur.toList = flatB l ++ cur.toList.drop (l.length * 8) := by
      conv => lhs; rw [← List.take_append_drop (l.length * 8) cur.toList]
      rw [htk]
    refine ⟨hb, (Array.getElem?_eq_some_iff.1 hh).1, hn.symm, cur.toList, cur.toList.drop (l.length * 8), by simpa using hh, hcur, fun w' cur' l' h1 h2 h3 => ?_⟩
    refine ⟨by rw [flatB_len], .inr ⟨g, cap, cur'.toArray, by rw [h3, hn], hb, h1, by rw [h3]; exact hle, hmx, ?_, ?_⟩⟩
    · have : cur'.length = cur.toList.length := by
        rw [h2, hcur]
        simp only [List.length_append, flatB_len, h3, List.length_drop]
        omega
      simpa using this.trans (by simpa using hcs)
    · rw [List.toList_toArray, h2, ← flatB_len l', List.take_left]

/-- one cell of one block another one -/
theorem OwnBL.set1 {w : World} {base g n cap : Nat} {l : List B8} (h : OwnBL w base (.slice (some ⟨g, 0, none⟩) n cap) l) {j kk : Nat} {o x : B8} {v : Value} (hj : l[j]? = some o) (hk : kk < 8) (hx : x.cs = o.cs.set kk v) :
    OwnBL (w.setCell ⟨g, j * 8 + kk, none⟩ v) base (.slice (some ⟨g, 0, none⟩) n cap) (l.set j x) := by
  obtain ⟨_, _, _, cur, Y, hh, hc, re⟩ := h.apart
  obtain ⟨e1, e2, e3⟩ := flatB_split hj x
  have hb : Bx w g cur.toArray 38 := hh
  refine re _ (cur.set (j * 8 + kk) v) (l.set j x) ?_ ?_ (by simp)
  · have := hb.set (j * 8 + kk) v
    unfold Bx at this
    rw [this]
    simp
  · rw [hc, e1, e2, hx, List.append_assoc, List.append_assoc, List.set_append_right _ _ (by omega), e3, Nat.add_sub_cancel_left, List.append_assoc, List.set_append_left _ _ (by simp [B8.cs]; omega)]
    simp [List.append_assoc]

/-- some bytes from the front of one block others -/
theorem OwnBL.spliced {w' : World} {base g n cap : Nat} {l : List B8} {cur Y : List Value} (hc : cur = flatB l ++ Y)
    (re : ∀ (w' : World) (cur' : List Value) (l' : List B8), w'.heap[g]? = some (.cells cur'.toArray 38) → cur' = flatB l' ++ Y → l'.length = l.length → OwnBL w' base (.slice (some ⟨g, 0, none⟩) n cap) l')
    {j k : Nat} {o d : B8} (hj : l[j]? = some o) (hk : k ≤ 8) (h' : w'.heap[g]? = some (.cells (splice cur (j * 8) (d.cs.take k)).toArray 38)) :
    OwnBL w' base (.slice (some ⟨g, 0, none⟩) n cap) (l.set j (Mx.mixB k d o)) := by
  obtain ⟨e1, e2, e3⟩ := flatB_split hj (Mx.mixB k d o)
  refine re w' _ _ h' ?_ (by simp)
  have hkl : (d.cs.take k).length = k := by rw [List.length_take]; have : d.cs.length = 8 := rfl; omega
  rw [hc, e1, e2, Mx.mixB_cs k hk]
  unfold splice
  rw [hkl, List.append_assoc, List.take_append_of_le_length (by omega), List.take_of_length_le (by omega), ← e3, List.drop_append, List.drop_of_length_le (by omega), Nat.add_sub_cancel_left, List.nil_append, List.append_assoc, List.drop_append_of_le_length (by have : o.cs.length = 8 := rfl; omega)]
  simp [List.append_assoc]

end Go.Proofs.Ytfbmaemnbolplaa

/-
  Stores: where a half has what; what is read behind puts; what a crash leaves: mathematics.
-/
namespace Go.Proofs.Ytfbmaemnbolplaa
open Go.RowKit

namespace Mx
/-- how many blocks a disk has for a store -/
def sz (n : Nat) : Nat := 1 + 2 * (1 + n)
/-- where a half has its numbers -/
def npl (n h : Nat) : Nat := 1 + h * (1 + n)
/-- where a half has a block -/
def bpl (n h i : Nat) : Nat := 1 + h * (1 + n) + 1 + i

theorem npl_lt {n h : Nat} (hh : h ≤ 1) : npl n h < sz n := by unfold npl sz; match h, hh with | 0, _ => omega | 1, _ => omega
theorem bpl_lt {n h i : Nat} (hh : h ≤ 1) (hi : i < n) : bpl n h i < sz n := by unfold bpl sz; match h, hh with | 0, _ => omega | 1, _ => omega
theorem npl_pos (n h : Nat) : 0 < npl n h := by unfold npl; omega
theorem bpl_pos (n h i : Nat) : 0 < bpl n h i := by unfold bpl; omega
theorem npl_bpl {n h h' i : Nat} (hh : h ≤ 1) (hh' : h' ≤ 1) (hi : i < n) : npl n h ≠ bpl n h' i := by
  unfold npl bpl
  match h, hh, h', hh' with
  | 0, _, 0, _ => omega
  | 0, _, 1, _ => omega
  | 1, _, 0, _ => omega
  | 1, _, 1, _ => omega
theorem npl_npl {n h h' : Nat} (hh : h ≤ 1) (hh' : h' ≤ 1) (hne : h ≠ h') : npl n h ≠ npl n h' := by
  unfold npl
  match h, hh, h', hh' with
  | 0, _, 0, _ => omega
  | 0, _, 1, _ => omega
  | 1, _, 0, _ => omega
  | 1, _, 1, _ => omega
theorem bpl_bpl {n h h' i i' : Nat} (hh : h ≤ 1) (hh' : h' ≤ 1) (hi : i < n) (hi' : i' < n) (he : bpl n h i = bpl n h' i') : h = h' ∧ i = i' := by
  unfold bpl at he
  match h, hh, h', hh' with
  | 0, _, 0, _ => omega
  | 0, _, 1, _ => omega
  | 1, _, 0, _ => omega
  | 1, _, 1, _ => omega

/-- the two numbers of a block -/
def num4 (x y z t : Int) : Int := ((x * 256 + y) * 256 + z) * 256 + t
def snumA (x : B8) : Int := num4 x.z0 x.z1 x.z2 x.z3
def snumB (x : B8) : Int := num4 x.z4 x.z5 x.z6 x.z7
def numsB (a b : Int) : B8 := ⟨a / 16777216, a / 65536 % 256, a / 256 % 256, a % 256, b / 16777216, b / 65536 % 256, b / 256 % 256, b % 256⟩
theorem snumA_nums {a b : Int} (_h0 : 0 ≤ a) (_h1 : a ≤ 2147483647) : snumA (numsB a b) = a := by unfold snumA num4 numsB; simp only; omega
theorem snumB_nums {a b : Int} (_h0 : 0 ≤ b) (_h1 : b ≤ 2147483647) : snumB (numsB a b) = b := by unfold snumB num4 numsB; simp only; omega
theorem nums_zero : numsB 0 0 = zB := rfl

theorem readB_nil (ls : List B8) (k : Int) : readB ls [] k = ls.getD k.toNat zB := rfl
theorem readB_snoc (ls : List B8) (ps : List Pt) (p : Pt) (k : Int) : readB ls (ps ++ [p]) k = if p.at_ = k then p.d else readB ls ps k := by
  unfold readB
  rw [List.reverse_append]
  simp only [List.reverse_singleton, List.singleton_append, List.find?_cons]
  by_cases h : p.at_ = k
  · simp [h]
  · have h1 : (p.at_ == k) = false := by simpa using h
    rw [h1, if_neg h]
/-- a flush makes safe what is read -/
theorem flushed_read (ls : List B8) (ps : List Pt) (hp : ∀ p ∈ ps, 0 ≤ p.at_ ∧ p.at_ < ls.length) (k : Nat) : (flushed ls ps).getD k zB = readB ls ps (k : Int) := by
  have key : ∀ (qs : List Pt), (∀ p ∈ qs, 0 ≤ p.at_ ∧ p.at_ < ls.length) → (flushed ls qs.reverse).getD k zB = readB ls qs.reverse (k : Int) := by
    intro qs
    induction qs with
    | nil => intro _; rw [List.reverse_nil, readB_nil, Int.toNat_natCast]; rfl
    | cons p qs ih =>
      intro h
      have h1 := h p (List.mem_cons_self ..)
      rw [List.reverse_cons, readB_snoc, ← ih (fun x hx => h x (List.mem_cons_of_mem _ hx))]
      have hf : flushed ls (qs.reverse ++ [p]) = (flushed ls qs.reverse).set p.at_.toNat p.d := by unfold flushed; rw [List.foldl_append]; rfl
      rw [hf, List.getD_eq_getElem?_getD, List.getElem?_set]
      by_cases hk : p.at_ = (k : Int)
      · rw [if_pos hk, if_pos (by omega), if_pos (by rw [flushed_len]; omega)]
        rfl
      · rw [if_neg hk, if_neg (by omega), List.getD_eq_getElem?_getD]
  have h := key ps.reverse (fun p hx => hp p (by simpa using hx))
  rwa [List.reverse_reverse] at h
theorem readB_far (ls : List B8) (ps : List Pt) (k : Int) (h : ∀ p ∈ ps, p.at_ ≠ k) : readB ls ps k = ls.getD k.toNat zB := by
  unfold readB
  rw [List.find?_eq_none.2]
  intro p hp
  have := h p (by simpa using hp)
  simpa using this
/-- a crash leaves as it was what was not written -/
theorem torn_far (l : List B8) (p : Pt) (j k : Nat) (h : p.at_.toNat ≠ k) : (tornL l p j).getD k zB = l.getD k zB := by
  unfold tornL
  split
  · rw [List.getD_eq_getElem?_getD, List.getElem?_set_ne h, List.getD_eq_getElem?_getD]
  · rfl
theorem crash_far (ls : List B8) (ps : List Pt) (bs : List Int) (k : Nat) (h : ∀ p ∈ ps, p.at_.toNat ≠ k) : (crash ls ps bs).getD k zB = ls.getD k zB := by
  unfold crash
  have key : ∀ (xs : List (Pt × Int)) (l : List B8), (∀ x ∈ xs, x.1.at_.toNat ≠ k) → (xs.foldl (fun l x => tornL l x.1 (kept x.2).toNat) l).getD k zB = l.getD k zB := by
    intro xs
    induction xs with
    | nil => intro l _; rfl
    | cons x xs ih =>
      intro l hx
      rw [List.foldl_cons, ih _ (fun y hy => hx y (List.mem_cons_of_mem _ hy)), torn_far _ _ _ _ (hx x (List.mem_cons_self ..))]
  exact key _ _ (fun x hx => h x.1 (List.of_mem_zip hx).1)
theorem crash_nil (ls : List B8) (bs : List Int) : crash ls [] bs = ls := rfl
/-- of one block alone a crash leaves the first bytes -/
theorem crash_one (ls : List B8) (p : Pt) (bs : List Int) (hp : p.at_.toNat < ls.length) : crash ls [p] bs = ls ∨ ∃ j, (crash ls [p] bs).getD p.at_.toNat zB = mixB j p.d (ls.getD p.at_.toNat zB) := by
  unfold crash
  cases bs with
  | nil => exact .inl rfl
  | cons b bs =>
    right
    refine ⟨(kept b).toNat, ?_⟩
    show (tornL ls p (kept b).toNat).getD p.at_.toNat zB = _
    rw [tornL_at _ (List.getElem?_eq_getElem hp), List.getD_eq_getElem?_getD, List.getElem?_set_self hp, List.getD_eq_getElem?_getD, List.getElem?_eq_getElem hp]
    rfl

/-- what a half holds -/
structure Hold (n h : Nat) (ls : List B8) (bl : List B8) (a b : Int) : Prop where
  len : ls.length = sz n
  bln : bl.length = n
  half : h ≤ 1
  mark : (ls.getD 0 zB).z0 % 2 = (h : Int)
  blk : ∀ i, i < n → ls.getD (bpl n h i) zB = bl.getD i zB
  nums : ls.getD (npl n h) zB = numsB a b

theorem hold_zero (n : Nat) : Hold n 0 (List.replicate (sz n) zB) (List.replicate n zB) 0 0 := by
  have hz : ∀ k m, (List.replicate m zB).getD k zB = zB := fun k m => by
    rw [List.getD_eq_getElem?_getD, List.getElem?_replicate]
    split <;> rfl
  refine ⟨by simp, by simp, by omega, by rw [hz]; rfl, fun i _ => by rw [hz, hz], by rw [hz]; rfl⟩

/-- the puts that fill a half, the first so many of them -/
def fillP (n h : Nat) (bl : List B8) (k : Nat) : List Pt := (List.range k).map (fun i => ⟨(bpl n h i : Int), bl.getD i zB⟩)
theorem fillP_succ (n h : Nat) (bl : List B8) (k : Nat) : fillP n h bl (k + 1) = fillP n h bl k ++ [⟨(bpl n h k : Int), bl.getD k zB⟩] := by unfold fillP; rw [List.range_succ, List.map_append]; rfl
theorem fillP_len (n h : Nat) (bl : List B8) (k : Nat) : (fillP n h bl k).length = k := by unfold fillP; simp
theorem fillP_mem {n h k : Nat} {bl : List B8} {p : Pt} (hp : p ∈ fillP n h bl k) : ∃ i, i < k ∧ p.at_ = (bpl n h i : Int) := by
  unfold fillP at hp
  rw [List.mem_map] at hp
  obtain ⟨i, hi, rfl⟩ := hp
  exact ⟨i, by simpa using hi, rfl⟩
theorem fillP_read {n h : Nat} {bl ls : List B8} {k i : Nat} (hh : h ≤ 1) (hk : k ≤ n) (hi : i < k) : readB ls (fillP n h bl k) (bpl n h i : Int) = bl.getD i zB := by
  induction k with
  | zero => omega
  | succ k ih =>
    rw [fillP_succ, readB_snoc]
    by_cases he : i = k
    · subst he
      rw [if_pos rfl]
    · have hne : ¬ (((bpl n h k : Nat) : Int) = ((bpl n h i : Nat) : Int)) := fun e => he (bpl_bpl hh hh (by omega) (by omega) (show bpl n h i = bpl n h k by omega)).2
      rw [if_neg hne]
      exact ih (by omega) (by omega)
/-- all that is written ahead of the mark -/
def newP (n h : Nat) (bl : List B8) (a b : Int) : List Pt := fillP n h bl n ++ [⟨(npl n h : Int), numsB a b⟩]
theorem newP_at {n h : Nat} {bl : List B8} {a b : Int} {p : Pt} (hp : p ∈ newP n h bl a b) : (∃ i, i < n ∧ p.at_ = (bpl n h i : Int)) ∨ p.at_ = (npl n h : Int) := by
  unfold newP at hp
  rcases List.mem_append.1 hp with h1 | h1
  · exact .inl (fillP_mem h1)
  · simp at h1
    exact .inr (by rw [h1])
def markP (h : Nat) : Pt := ⟨0, ⟨(h : Int), 0, 0, 0, 0, 0, 0, 0⟩⟩

end Mx
end Go.Proofs.Ytfbmaemnbolplaa

/-
  Stores: the small functions (halfBlocks, Need, check, has, numbersPlace, place).
-/
namespace Go.Proofs.Ytfbmaemnbolplaa
open Go.RowKit

theorem halfBlocks_any (n : Int) (w : World) (h0 : 0 ≤ n) (h1 : n ≤ 1000) :
    Calls Try.prog 18 #[.int .i64 n] w fun e w' => e = .returned (.int .i64 (1 + n)) ∧ w' = w := by
  go_enter Try.func18, Try.ntmps18
  go_wp2_with fail
  go_ret
  exact ⟨rfl, rfl⟩

theorem need_ok (n : Nat) (w : World) (h0 : 1 ≤ n) (h1 : n ≤ 32) :
    Calls Try.prog 5 #[.int .i64 (n : Int)] w fun e w' => e = .returned (.tuple #[.int .i64 ((Mx.sz n : Nat) : Int), .nilIface]) ∧ w' = w := by
  have d1 : decide ((n : Int) < 1) = false := by simp; omega
  have d2 : decide ((32 : Int) < n) = false := by simp; omega
  have HS := hide (show ((Mx.sz n : Nat) : Int) = 1 + 2 * (1 + (n : Int)) by unfold Mx.sz; omega)
  go_enter Try.func5, Try.ntmps5
  go_wp2_with fail
  refine (halfBlocks_any n w (by omega) (by omega)).mono ?_
  rintro e w1 ⟨rfl, rfl⟩
  go_wp2_with fail
  go_ret2
  exact ⟨by rw [HS.out] <;> rfl, rfl⟩

theorem need_err (n : Int) (w : World) (h : n < 1 ∨ 32 < n) :
    Calls Try.prog 5 #[.int .i64 n] w fun e w' => e = .returned (.tuple #[.int .i64 0, .iface 35 (.int .i64 1)]) ∧ w' = w := by
  by_cases h1 : n < 1
  · have d1 : decide (n < 1) = true := by simpa using h1
    go_enter Try.func5, Try.ntmps5
    go_wp2_with fail
    go_ret2
    exact ⟨rfl, rfl⟩
  · have d1 : decide (n < 1) = false := by simpa using h1
    have d2 : decide (32 < n) = true := by simp; omega
    go_enter Try.func5, Try.ntmps5
    go_wp2_with fail
    go_ret2
    exact ⟨rfl, rfl⟩

/-- a store in its box -/
def Sbx (w : World) (g n h : Nat) (sa : Option Addr) (sn sc : Nat) (pa : Option Addr) (pn pc : Nat) (left : Int) : Prop :=
  Bx w g #[.int .i64 (n : Int), .int .i64 (h : Int), .slice sa sn sc, .slice pa pn pc, .int .i64 left] 59

theorem Sbx.cells {w : World} {g n h : Nat} {sa : Option Addr} {sn sc : Nat} {pa : Option Addr} {pn pc : Nat} {left : Int} (hx : Sbx w g n h sa sn sc pa pn pc left) :
    w.cell? ⟨g, 0, none⟩ = some (.int .i64 (n : Int)) ∧ w.cell? ⟨g, 1, none⟩ = some (.int .i64 (h : Int)) ∧ w.cell? ⟨g, 2, none⟩ = some (.slice sa sn sc) ∧ w.cell? ⟨g, 3, none⟩ = some (.slice pa pn pc) ∧ w.cell? ⟨g, 4, none⟩ = some (.int .i64 left) :=
  ⟨hx.cell 0, hx.cell 1, hx.cell 2, hx.cell 3, hx.cell 4⟩

theorem scheck_ok (g n : Nat) (w : World) (hc : w.cell? ⟨g, 0, none⟩ = some (.int .i64 (n : Int))) (hn : 1 ≤ n) :
    Calls Try.prog 47 #[.pointer (some ⟨g, 0, none⟩)] w fun e w' => e = .returned .nilIface ∧ w' = w := by
  have d1 : ((n : Int) == 0) = false := by simp; omega
  have d2 : (n == 0) = false := by simp; omega
  go_enter Try.func47, Try.ntmps47
  go_wp2_with fail
  go_ret
  exact ⟨rfl, rfl⟩

theorem shas_any (g n : Nat) (at_ : Int) (w : World) (hc : w.cell? ⟨g, 0, none⟩ = some (.int .i64 (n : Int))) :
    Calls Try.prog 49 #[.pointer (some ⟨g, 0, none⟩), .int .i64 at_] w fun e w' => e = .returned (.bool (Mx.inside n at_)) ∧ w' = w := by
  by_cases h1 : 0 ≤ at_
  · have d1 : decide (0 ≤ at_) = true := by simpa using h1
    by_cases h2 : at_ < n
    · have d2 : decide (at_ < (n : Int)) = true := by simpa using h2
      have HI := hide (show Mx.inside n at_ = true by unfold Mx.inside; simp; omega)
      go_enter Try.func49, Try.ntmps49
      go_wp2_with fail
      go_ret
      exact ⟨by rw [HI.out] <;> rfl, rfl⟩
    · have d2 : decide (at_ < (n : Int)) = false := by simpa using h2
      have HI := hide (show Mx.inside n at_ = false by unfold Mx.inside; simp; omega)
      go_enter Try.func49, Try.ntmps49
      go_wp2_with fail
      go_ret
      exact ⟨by rw [HI.out] <;> rfl, rfl⟩
  · have d1 : decide (0 ≤ at_) = false := by simpa using h1
    have HI := hide (show Mx.inside n at_ = false by unfold Mx.inside; simp; omega)
    go_enter Try.func49, Try.ntmps49
    go_wp2_with fail
    go_ret
    exact ⟨by rw [HI.out] <;> rfl, rfl⟩

theorem numbersPlace_any (g n h : Nat) (w : World) (hc : w.cell? ⟨g, 0, none⟩ = some (.int .i64 (n : Int))) (hn : n ≤ 32) (hh : h ≤ 1) :
    Calls Try.prog 34 #[.pointer (some ⟨g, 0, none⟩), .int .i64 (h : Int)] w fun e w' => e = .returned (.int .i64 ((Mx.npl n h : Nat) : Int)) ∧ w' = w := by
  obtain ⟨z, hz⟩ : ∃ z : Nat, Hid (z = h * (1 + n)) := ⟨_, rfl⟩
  have hz1 : z ≤ 33 := by rw [hz.out]; match h, hh with | 0, _ => omega | 1, _ => omega
  have hm : IntKind.i64.wrap ((h : Int) * (1 + (n : Int))) = (z : Int) := by
    have h1 : (h : Int) * (1 + (n : Int)) = (z : Int) := by rw [hz.out]; push_cast; rfl
    rw [h1, IntWalk.i64_left, IntWalk.wrap64_in _ (by omega)]
  have HN := hide (show ((Mx.npl n h : Nat) : Int) = 1 + (z : Int) by unfold Mx.npl; rw [← hz.out]; omega)
  go_enter Try.func34, Try.ntmps34
  go_wp2_with fail
  refine (halfBlocks_any n w (by omega) (by omega)).mono ?_
  rintro e w1 ⟨rfl, rfl⟩
  go_wp2_with fail
  go_ret
  exact ⟨by rw [HN.out] <;> rfl, rfl⟩

theorem place_any (g n h i : Nat) (w : World) (hc : w.cell? ⟨g, 0, none⟩ = some (.int .i64 (n : Int))) (hn : n ≤ 32) (hh : h ≤ 1) (hi : i < n) :
    Calls Try.prog 50 #[.pointer (some ⟨g, 0, none⟩), .int .i64 (h : Int), .int .i64 (i : Int)] w fun e w' => e = .returned (.int .i64 ((Mx.bpl n h i : Nat) : Int)) ∧ w' = w := by
  have hz1 : Mx.npl n h ≤ 100 := by unfold Mx.npl; match h, hh with | 0, _ => omega | 1, _ => omega
  have HN := hide (show ((Mx.bpl n h i : Nat) : Int) = (Mx.npl n h : Nat) + 1 + (i : Int) by unfold Mx.bpl Mx.npl; omega)
  obtain ⟨z, hz⟩ : ∃ z : Nat, Hid (z = Mx.npl n h) := ⟨_, rfl⟩
  rw [← hz.out] at hz1 HN
  go_enter Try.func50, Try.ntmps50
  go_wp2_with fail
  refine (numbersPlace_any g n h w hc hn hh).mono ?_
  rintro e w1 ⟨rfl, rfl⟩
  rw [← hz.out]
  go_wp2_with fail
  go_ret
  exact ⟨by rw [HN.out] <;> rfl, rfl⟩

end Go.Proofs.Ytfbmaemnbolplaa
