/-
  Maps of the call's own: what is found, laid, changed, struck.
-/
import Derived.Maps.Keyed
import Derived.DeepKeys4
import Derived.Test.YtfbmaemnbolplaaDoorZDbox

namespace Go.Proofs.YtfbmaemnbolplaaDoor
open Go.RowKit
open Go.Maps (Keyed)
open Go.ChangeMaps (setBlock)

/-- a map's entries, whose keys can be read -/
structure Mp (k : TypeId) (w : World) (m : Nat) (es : List MapEntry) (ck : Nat) : Prop where
  at_ : w.heap[m]? = some (.map es.toArray ck)
  keys : ∀ e ∈ es, ∃ l, keyOf Tryd.prog k e.key = some l
  nd : (es.map (·.key)).Nodup
  bn : (es.map (·.born)).Nodup
  lt : ∀ e ∈ es, e.born < ck

theorem Mp.ltm {k : TypeId} {w : World} {m : Nat} {es : List MapEntry} {ck : Nat} (h : Mp k w m es ck) : m < w.heap.size := (Array.getElem?_eq_some_iff.1 h.at_).1
theorem Mp.later {k : TypeId} {w w' : World} {m : Nat} {es : List MapEntry} {ck : Nat} (h : Mp k w m es ck) (hb : Below w.heap.size w w') : Mp k w' m es ck := { h with at_ := (hb.block m h.ltm).trans h.at_ }
theorem Mp.grow {k : TypeId} {w w' : World} {m : Nat} {row : Option Nat} {es : List MapEntry} {ck : Nat} (h : Mp k w m es ck) (hg : w.grownBy w' row) (hne : some m ≠ row) : Mp k w' m es ck := { h with at_ := (hg.block m h.ltm hne).trans h.at_ }

theorem nodup_inj {α : Type} {l : List α} (h : l.Nodup) {i j : Nat} {a : α} (hi : l[i]? = some a) (hj : l[j]? = some a) : i = j := by
  obtain ⟨h1, h2⟩ := List.getElem?_eq_some_iff.1 hi
  obtain ⟨h3, h4⟩ := List.getElem?_eq_some_iff.1 hj
  have hp := List.pairwise_iff_getElem.1 h
  rcases Nat.lt_trichotomy i j with hlt | heq | hgt
  · exact absurd (h2.trans h4.symm) (hp i j h1 h3 hlt)
  · exact heq
  · exact absurd (h4.trans h2.symm) (hp j i h3 h1 hgt)

/-- where a key is -/
theorem Mp.find {k : TypeId} (K : Keyed Tryd.prog k) {w : World} {m : Nat} {es : List MapEntry} {ck : Nat} (h : Mp k w m es ck) {key : Value} {lx : Lit} (hk : keyOf Tryd.prog k key = some lx) {i : Nat} {e : MapEntry} (hi : es[i]? = some e) (he : e.key = key) (W : World) :
    (Instr.findKey k key es).run Tryd.prog W = .ok (some (i, e.val)) W := by
  rcases K.find W hk es h.keys with ⟨_, h2⟩ | ⟨j, e', h1, h2, h3⟩
  · exact absurd he (h2 e (List.mem_of_getElem? hi))
  · have hij : i = j := by
      have h4 : (es.map (·.key))[i]? = some key := by rw [List.getElem?_map, hi]; simp [he]
      have h5 : (es.map (·.key))[j]? = some key := by rw [List.getElem?_map, h2]; simp [h3]
      exact nodup_inj h.nd h4 h5
    subst hij
    rw [hi] at h2
    cases h2
    exact h1
theorem Mp.findNot {k : TypeId} (K : Keyed Tryd.prog k) {w : World} {m : Nat} {es : List MapEntry} {ck : Nat} (h : Mp k w m es ck) {key : Value} {lx : Lit} (hk : keyOf Tryd.prog k key = some lx) (hn : ∀ e ∈ es, e.key ≠ key) (W : World) :
    (Instr.findKey k key es).run Tryd.prog W = .ok none W := by
  rcases K.find W hk es h.keys with ⟨h1, _⟩ | ⟨j, e', _, h2, h3⟩
  · exact h1
  · exact absurd h3 (hn e' (List.mem_of_getElem? h2))

theorem Mp.lookup {k : TypeId} (K : Keyed Tryd.prog k) {t e : TypeId} (ht : Tryd.prog.underlying t = some (.map k e)) {w : World} {m : Nat} {es : List MapEntry} {ck : Nat} (h : Mp k w m es ck) {key : Value} {lx : Lit} (hk : keyOf Tryd.prog k key = some lx) {i : Nat} {x : MapEntry} (hi : es[i]? = some x) (he : x.key = key) (c : Bool) :
    (Instr.lookup t (.map (some m)) key c).run Tryd.prog w = .ok (if c then .tuple #[x.val, .bool true] else x.val) w := by
  simp [Instr.lookup, run_underlying ht, MapKept.run_getObj_map h.at_, K.check w _ hk, h.find K hk hi he w]
theorem Mp.lookupNot {k : TypeId} (K : Keyed Tryd.prog k) {t e : TypeId} (ht : Tryd.prog.underlying t = some (.map k e)) {w : World} {m : Nat} {es : List MapEntry} {ck : Nat} (h : Mp k w m es ck) {key : Value} {lx : Lit} (hk : keyOf Tryd.prog k key = some lx) (hn : ∀ e ∈ es, e.key ≠ key) {z : Value} (hz : (zeroValue e).run Tryd.prog w = .ok z w) (c : Bool) :
    (Instr.lookup t (.map (some m)) key c).run Tryd.prog w = .ok (if c then .tuple #[z, .bool false] else z) w := by
  simp [Instr.lookup, run_underlying ht, MapKept.run_getObj_map h.at_, K.check w _ hk, h.findNot K hk hn w, hz]

theorem setBlock_same {w : World} {m : Nat} {o : Obj} (h : w.heap[m]? = some o) : setBlock w m o = w := by
  unfold setBlock
  have : w.heap.setIfInBounds m o = w.heap := by
    apply Array.ext_getElem?
    intro i
    rw [Array.getElem?_setIfInBounds]
    split
    · next e =>
      subst e
      split
      · exact h.symm
      · next h2 =>
        rw [Array.getElem?_eq_none (by omega)] at h
        cases h
    · rfl
  rw [this]
theorem setBlock_at {w : World} {m : Nat} (h : m < w.heap.size) (o : Obj) : (setBlock w m o).heap[m]? = some o := by
  unfold setBlock
  simp [h]
theorem setBlock_grown {w : World} {m : Nat} (o : Obj) : w.grownBy (setBlock w m o) (some m) := by
  refine ⟨rfl, rfl, rfl, by unfold setBlock; simp, fun b hb hne => ?_⟩
  unfold setBlock
  rw [Array.getElem?_setIfInBounds]
  rw [if_neg (fun e => hne (by rw [e]))]

theorem Mp.entry {k : TypeId} (K : Keyed Tryd.prog k) {t e : TypeId} (ht : Tryd.prog.underlying t = some (.map k e)) {w : World} {m : Nat} {es : List MapEntry} {ck : Nat} (h : Mp k w m es ck) {key : Value} {lx : Lit} (hk : keyOf Tryd.prog k key = some lx) {i : Nat} {x : MapEntry} (hi : es[i]? = some x) (he : x.key = key) :
    (Instr.mapEntry t (.map (some m)) key).run Tryd.prog w = .ok (.tuple #[x.val, .int .i64 (x.born : Int)]) w := by
  have h1 : (Instr.keyThatStays ((es.toArray[i]?.map (·.key)).getD key) key).run Tryd.prog w = .ok key w := by
    have h2 : (es.toArray[i]?.map (·.key)).getD key = key := by simp [hi, he]
    rw [h2]
    exact K.stays w hk
  have h3 : es.toArray.modify i (fun e => { e with key := key }) = es.toArray := by
    apply Array.ext_getElem?
    intro j
    rw [Array.getElem?_modify]
    split
    · next e =>
      subst e
      simp [hi]
      cases x
      simp at he
      simp [he]
    · rfl
  have h4 : (setObj m (.map es.toArray ck)).run Tryd.prog w = .ok () w := by
    rw [MapKept.run_setObj_map _ h.at_]
    have := setBlock_same h.at_
    unfold setBlock at this
    rw [this]
  have h5 : (Option.map (fun x : MapEntry => (x.born : Int)) es.toArray[i]?).getD 0 = (x.born : Int) := by simp [hi]
  simp only [Instr.mapEntry, Sem.run_bind, run_underlying ht, MapKept.run_getObj_map h.at_, K.check w _ hk, h.find K hk hi he w, Result.andThen, h1, h3, h4, h5]
  rfl

/-- entries with one more -/
def pushE (es : List MapEntry) (key val : Value) (ck : Nat) : List MapEntry := es ++ [⟨key, val, ck⟩]
theorem Mp.push {k : TypeId} {w w' : World} {m : Nat} {es : List MapEntry} {ck : Nat} (h : Mp k w m es ck) {key : Value} {lx : Lit} (hk : keyOf Tryd.prog k key = some lx) (hn : ∀ e ∈ es, e.key ≠ key) (val : Value) (hw : w'.heap[m]? = some (.map (pushE es key val ck).toArray (ck + 1))) :
    Mp k w' m (pushE es key val ck) (ck + 1) := by
  refine ⟨hw, fun e he => ?_, ?_, ?_, fun e he => ?_⟩
  · rcases List.mem_append.1 he with h1 | h1
    · exact h.keys e h1
    · simp at h1
      exact ⟨lx, by rw [h1]; exact hk⟩
  · unfold pushE
    rw [List.map_append, List.nodup_append]
    refine ⟨h.nd, by simp, fun a ha b hb => ?_⟩
    simp at hb
    obtain ⟨e, he, rfl⟩ := List.mem_map.1 ha
    rw [hb]
    exact hn e he
  · unfold pushE
    rw [List.map_append, List.nodup_append]
    refine ⟨h.bn, by simp, fun a ha b hb => ?_⟩
    simp at hb
    obtain ⟨e, he, rfl⟩ := List.mem_map.1 ha
    have := h.lt e he
    omega
  · rcases List.mem_append.1 he with h1 | h1
    · have := h.lt e h1
      omega
    · simp at h1
      rw [h1]
      show ck < ck + 1
      omega
theorem Mp.entryNot {k : TypeId} (K : Keyed Tryd.prog k) {t e : TypeId} (ht : Tryd.prog.underlying t = some (.map k e)) {w : World} {m : Nat} {es : List MapEntry} {ck : Nat} (h : Mp k w m es ck) {key : Value} {lx : Lit} (hk : keyOf Tryd.prog k key = some lx) (hn : ∀ e ∈ es, e.key ≠ key) {z : Value} (hz : (zeroValue e).run Tryd.prog w = .ok z w) :
    (Instr.mapEntry t (.map (some m)) key).run Tryd.prog w = .ok (.tuple #[z, .int .i64 (ck : Int)]) (setBlock w m (.map (pushE es key z ck).toArray (ck + 1))) := by
  have h4 : es.toArray.push ⟨key, z, ck⟩ = (pushE es key z ck).toArray := by unfold pushE; simp
  simp only [Instr.mapEntry, Sem.run_bind, run_underlying ht, MapKept.run_getObj_map h.at_, K.check w _ hk, h.findNot K hk hn w, Result.andThen, hz, h4, MapKept.run_setObj_map _ h.at_]
  rfl

/-- entries with one value another -/
def setE (es : List MapEntry) (i : Nat) (v : Value) : List MapEntry := es.modify i (fun e => { e with val := v })
theorem Mp.setv {k : TypeId} {w w' : World} {m : Nat} {es : List MapEntry} {ck : Nat} (h : Mp k w m es ck) (i : Nat) (v : Value) (hw : w'.heap[m]? = some (.map (setE es i v).toArray ck)) : Mp k w' m (setE es i v) ck := by
  have hk : (setE es i v).map (·.key) = es.map (·.key) := by
    unfold setE
    apply List.ext_getElem?
    intro j
    rw [List.getElem?_map, List.getElem?_map, List.getElem?_modify]
    split <;> cases es[j]? <;> rfl
  have hb : (setE es i v).map (·.born) = es.map (·.born) := by
    unfold setE
    apply List.ext_getElem?
    intro j
    rw [List.getElem?_map, List.getElem?_map, List.getElem?_modify]
    split <;> cases es[j]? <;> rfl
  refine ⟨hw, fun e he => ?_, by rw [hk]; exact h.nd, by rw [hb]; exact h.bn, fun e he => ?_⟩
  · have h1 : e.key ∈ (setE es i v).map (·.key) := List.mem_map.2 ⟨e, he, rfl⟩
    rw [hk] at h1
    obtain ⟨e', he', e1⟩ := List.mem_map.1 h1
    rw [← e1]
    exact h.keys e' he'
  · have h1 : e.born ∈ (setE es i v).map (·.born) := List.mem_map.2 ⟨e, he, rfl⟩
    rw [hb] at h1
    obtain ⟨e', he', e1⟩ := List.mem_map.1 h1
    rw [← e1]
    exact h.lt e' he'
theorem Mp.store {k : TypeId} {t : TypeId} {w : World} {m : Nat} {es : List MapEntry} {ck : Nat} (h : Mp k w m es ck) {i : Nat} {x : MapEntry} (hi : es[i]? = some x) (v : Value) :
    (Instr.entryStore t (.map (some m)) (.int .i64 (x.born : Int)) v).run Tryd.prog w = .ok () (setBlock w m (.map (setE es i v).toArray ck)) := by
  have h1 : es.toArray.findIdx? (fun e => (e.born : Int) == (x.born : Int)) = some i := by
    rw [List.findIdx?_toArray, List.findIdx?_eq_some_iff_getElem]
    obtain ⟨hl, hx⟩ := List.getElem?_eq_some_iff.1 hi
    refine ⟨hl, by rw [hx]; simp, fun j hj => ?_⟩
    have h2 : ¬ es[j].born = x.born := fun e => by
      have hjl : j < es.length := by omega
      have h3 : (es.map (·.born))[j]? = some x.born := by rw [List.getElem?_map, List.getElem?_eq_getElem hjl, Option.map_some, e]
      have h4 : (es.map (·.born))[i]? = some x.born := by rw [List.getElem?_map, hi, Option.map_some]
      have := nodup_inj h.bn h3 h4
      omega
    simp
    omega
  have h4 : es.toArray.modify i (fun e => { e with val := v }) = (setE es i v).toArray := by unfold setE; simp
  have h5 : (asInt (.int .i64 (x.born : Int))).run Tryd.prog w = .ok (x.born : Int) w := by simp [asInt, asIntOf]
  simp only [Instr.entryStore, Sem.run_bind, MapKept.run_getObj_map h.at_, Result.andThen, h5, h1, h4, MapKept.run_setObj_map _ h.at_]
  rfl

/-- a key struck -/
theorem Mp.erase {k : TypeId} {w w' : World} {m : Nat} {es : List MapEntry} {ck : Nat} (h : Mp k w m es ck) (i : Nat) (hw : w'.heap[m]? = some (.map (es.eraseIdx i).toArray ck)) : Mp k w' m (es.eraseIdx i) ck :=
  ⟨hw, fun e he => h.keys e (List.mem_of_mem_eraseIdx he), h.nd.sublist ((List.eraseIdx_sublist es i).map _), h.bn.sublist ((List.eraseIdx_sublist es i).map _), fun e he => h.lt e (List.mem_of_mem_eraseIdx he)⟩
theorem Mp.del {k : TypeId} (K : Keyed Tryd.prog k) {t e ty : TypeId} (ht : Tryd.prog.underlying t = some (.map k e)) {w : World} {m : Nat} {es : List MapEntry} {ck : Nat} (h : Mp k w m es ck) {key : Value} {lx : Lit} (hk : keyOf Tryd.prog k key = some lx) {i : Nat} {x : MapEntry} (hi : es[i]? = some x) (he : x.key = key) :
    (Builtin.delete_ #[t, k] ty #[.map (some m), key]).run Tryd.prog w = .ok (.tuple #[]) (setBlock w m (.map (es.eraseIdx i).toArray ck)) := by
  simp [Builtin.delete_, run_underlying ht, MapKept.run_getObj_map h.at_, K.check w _ hk, h.find K hk hi he w, MapKept.run_setObj_map _ h.at_, setBlock]

end Go.Proofs.YtfbmaemnbolplaaDoor
