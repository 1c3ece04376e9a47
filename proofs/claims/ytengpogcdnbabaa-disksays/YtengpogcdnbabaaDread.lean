/-
  Read: the last pending block of a place, or else the safe one.
-/
import Derived.Test.YtengpogcdnbabaaDrng
namespace Go.Proofs.Ytengpogcdnbabaa
open Go.RowKit Go.Shelf
attribute [local go_sem] Oper.semAt_some

theorem keeps_set8 (W : World) (g o : Nat) (x : B8) : KeepsOthers W (set8 W g o x) :=
  ((((((((KeepsOthers.setCell _ _ _).trans (KeepsOthers.setCell _ _ _)).trans (KeepsOthers.setCell _ _ _)).trans (KeepsOthers.setCell _ _ _)).trans (KeepsOthers.setCell _ _ _)).trans (KeepsOthers.setCell _ _ _)).trans (KeepsOthers.setCell _ _ _)).trans (KeepsOthers.setCell _ _ _))

theorem box_fill8 {W : World} {g : Nat} {a0 a1 a2 a3 a4 a5 a6 a7 : Value} {t : TypeId} (h : Bx W g #[a0, a1, a2, a3, a4, a5, a6, a7] t) (x : B8) : Bx (set8 W g 0 x) g #[.int .u8 x.z0, .int .u8 x.z1, .int .u8 x.z2, .int .u8 x.z3, .int .u8 x.z4, .int .u8 x.z5, .int .u8 x.z6, .int .u8 x.z7] t := by
  unfold Bx at *
  unfold set8
  simp [World.setCell, Array.getElem?_modify, h]

theorem RI.later {w W W' : World} {D : Array Value} {at_ : Int} {pre : List (Nat × Pt)} (h : RI w D at_ pre W) (hb : Below W.heap.size W W') : RI w D at_ pre W' := by
  obtain ⟨b0, b1, b2, b3, bb, bs, hn⟩ := h
  exact ⟨b0.later hb b0.lt, b1.later hb b1.lt, b2.later hb b2.lt, b3.later hb b3.lt, bb.trans (hb.mono bb.size), by have := hb.size; omega, hn⟩

theorem RI.start (w : World) (D : Array Value) (at_ : Int) (w0 : World) (hw0 : w0 = (((w.alloc (.cells D 50)).alloc (.cells #[.int .i64 at_] 3)).alloc (.cells #[.int .u8 0, .int .u8 0, .int .u8 0, .int .u8 0, .int .u8 0, .int .u8 0, .int .u8 0, .int .u8 0] 52)).alloc (.cells #[.nilIface] 31)) : RI w D at_ [] w0 := by
  subst hw0
  refine ⟨(((Bx.new w D 50).alloc _).alloc _).alloc _, ?_, ?_, ?_, (((below_alloc _ _).alloc (by simp) _).alloc (by simp; omega) _).alloc (by simp; omega) _, by simp, by simp⟩
  · have h := ((Bx.new (w.alloc (.cells D 50)) #[.int .i64 at_] 3).alloc (.cells #[.int .u8 0, .int .u8 0, .int .u8 0, .int .u8 0, .int .u8 0, .int .u8 0, .int .u8 0, .int .u8 0] 52)).alloc (.cells #[.nilIface] 31)
    rw [World.size_alloc] at h
    exact h
  · have h := (Bx.new ((w.alloc (.cells D 50)).alloc (.cells #[.int .i64 at_] 3)) #[.int .u8 0, .int .u8 0, .int .u8 0, .int .u8 0, .int .u8 0, .int .u8 0, .int .u8 0, .int .u8 0] 52).alloc (.cells #[.nilIface] 31)
    rw [World.size_alloc, World.size_alloc] at h
    exact h
  · have h := Bx.new (((w.alloc (.cells D 50)).alloc (.cells #[.int .i64 at_] 3)).alloc (.cells #[.int .u8 0, .int .u8 0, .int .u8 0, .int .u8 0, .int .u8 0, .int .u8 0, .int .u8 0, .int .u8 0] 52)) #[.nilIface] 31
    rw [World.size_alloc, World.size_alloc, World.size_alloc] at h
    exact h

set_option maxHeartbeats 2000000 in
set_option maxRecDepth 100000 in
theorem read_any (sa pa : Option Addr) (n sc m pc : Nat) (left at_ : Int) (ls : List B8) (ps : List Pt) (w : World) (hs : BL w sa n ls) (hp : PL w pa m ps) (hm : Mx.dread n ps left at_ = 0) (x : B8) (hx : x = Mx.readB ls ps at_) :
    Calls Try.prog 28 #[.agg #[.slice sa n sc, .slice pa m pc, .int .i64 left], .int .i64 at_] w fun e w' =>
      e = .returned (.tuple #[.agg #[.int .u8 x.z0, .int .u8 x.z1, .int .u8 x.z2, .int .u8 x.z3, .int .u8 x.z4, .int .u8 x.z5, .int .u8 x.z6, .int .u8 x.z7], .nilIface]) ∧ Below w.heap.size w w' := by
  obtain ⟨hpl, hleft⟩ : Hid (Mx.dplace n ps at_ = 0) ∧ ¬ left = 0 := by
    unfold Mx.dread at hm
    split at hm
    · rename_i h1
      split at hm
      · omega
      · rename_i h2
        exact ⟨h1, h2⟩
    · contradiction
  obtain ⟨hn1, hm8, hat0, hat1⟩ : n ≤ 200 ∧ m ≤ 800 ∧ 0 ≤ at_ ∧ at_ < n := by
    have h := hpl.out
    unfold Mx.dplace at h
    split at h
    · rename_i h1
      obtain ⟨_, h3, h4, _⟩ := Mx.dmay_facts h1
      split at h
      · rename_i h2
        exact ⟨h3, by rw [← hp.1]; exact h4, h2.1, h2.2⟩
      · omega
    · contradiction
  have HS := hide hs
  have HP := hide hp
  have HX := hide hx
  have HPL := hide hp.1
  have HNN := hide (show n ≤ maxLen from hs.2.2.1)
  clear hs hp hm hx
  have hle : (left == 0) = false := by simpa using hleft
  refine (callsIn_wide (n := 6)).1 ?_
  refine callsIn_of_wp_marks Try.func28 rfl trivial ?_ rfl
  simp only [Try.ntmps28, List.size_toArray, List.length_cons, List.length_nil, Nat.reduceAdd, Nat.reduceSub, Array.replicate_succ, Array.replicate_zero, List.push_toArray, List.append_toArray, List.nil_append, List.cons_append]
  gi_wp2_with fail
  refine ⟨trivial, ?_⟩
  obtain ⟨w0, hw0⟩ : ∃ w0 : World, Hid (w0 = (((w.alloc (.cells #[.slice sa n sc, .slice pa m pc, .int .i64 left] 50)).alloc (.cells #[.int .i64 at_] 3)).alloc (.cells #[.int .u8 0, .int .u8 0, .int .u8 0, .int .u8 0, .int .u8 0, .int .u8 0, .int .u8 0, .int .u8 0] 52)).alloc (.cells #[.nilIface] 31)) := ⟨_, rfl⟩
  have HR0 := hide (RI.start w #[.slice sa n sc, .slice pa m pc, .int .i64 left] at_ w0 hw0.out)
  rw [← hw0.out]
  refine (callsIn_wide.2 (checkPlace_any sa pa n sc m pc left at_ ps w0 (HP.out.later HR0.out.2.2.2.2.1) HNN.out)).mono ?_
  rintro e w1 ⟨rfl, hb1⟩
  rw [hpl.out, errV_zero]
  have HR1 := hide (HR0.out.later hb1)
  clear hb1
  obtain ⟨f0, f1, f2⟩ := HR1.out.1.three
  have hsz := HR1.out.2.2.2.2.2.1
  gi_wp2_with fail
  refine ⟨trivial, ?_⟩
  refine (backward_in 5 pa m pc w1).mono ?_
  rintro e w2 ⟨rfl, rfl⟩
  gi_wp2_with fail
  have HRL := hide (HR1.out.later (below_alloc w1 (.cells #[.slice pa m pc] 48)))
  refine rangeBack w #[.slice sa n sc, .slice pa m pc, .int .i64 left] at_ w1.heap.size pc m pa ps rfl (by omega) HP.out HRL.out.2.2.2.2.1 (by simp) HRL.out.2.2.2.2.2.1 ?hBs HRL.out ?assign ?body ?done ?stop
  case hBs => rw [World.cell?_alloc_new]; rfl
  case assign =>
    intro lp pre x W K hi hK
    simp only [List.setIfInBounds_toArray, List.set_cons_succ, List.set_cons_zero]
    gi_wp2
    have hsW : w1.heap.size + 1 ≤ W.heap.size := by have := hi.2; simpa using this
    exact hK _ _ ((KeepsOthers.alloc _ _).from _) ⟨(Below.refl _ _).alloc (by omega) _, Below.heap_alloc W _ _ (by omega)⟩ ⟨hi.1.later (below_alloc _ _), by simp; omega⟩ ⟨W.heap.size, by simpa using hsW, heap_alloc_new W _, rfl⟩
  case body =>
    rintro lp pre ⟨i, p⟩ a' W ⟨hi, hsW⟩ ⟨gx, hgx, hbx, rfl⟩ hlt
    have HI := hide hi
    have HSW := hide hsW
    obtain ⟨d0, d1, d2⟩ := hi.1.three
    have at0 := hi.2.1.cell 0
    obtain ⟨y0, y1, y2, y3, y4, y5, y6, y7⟩ := (show Bx W (w.heap.size + 2) #[.int .u8 zB.z0, .int .u8 zB.z1, .int .u8 zB.z2, .int .u8 zB.z3, .int .u8 zB.z4, .int .u8 zB.z5, .int .u8 zB.z6, .int .u8 zB.z7] 52 from hi.2.2.1).eight
    have yz := hi.2.2.1.frozen
    have v0 := hi.2.2.2.1.cell 0
    have vz := hi.2.2.2.1.frozen
    have x0 := hbx.cell 0
    have x1 := hbx.cell 1
    have x2 := hbx.cell 2
    have x3 := hbx.cell 3
    have x4 := hbx.cell 4
    have x5 := hbx.cell 5
    have x6 := hbx.cell 6
    have x7 := hbx.cell 7
    have x8 := hbx.cell 8
    have hgw : w1.heap.size + 1 ≤ gx := by simpa using hgx
    have HBX := hide hbx
    clear hi hsW hbx hgx
    simp only [List.setIfInBounds_toArray, List.set_cons_succ, List.set_cons_zero] at at0 v0 x0 x1 x2 x3 x4 x5 x6 x7 x8 ⊢
    by_cases hpe : p.at_ = at_
    · have hpe2 : (p.at_ == at_) = true := by simpa using hpe
      have HPE := hide hpe
      clear hpe
      gi_wp2_with fail
      show KeepsFrom _ W ((set8 W (w.heap.size + 2) 0 p.d).setCell ⟨w.heap.size + 3, 0, none⟩ .nilIface) ∧ RIx w at_ .ret (pre ++ [(i, p)]) ((set8 W (w.heap.size + 2) 0 p.d).setCell ⟨w.heap.size + 3, 0, none⟩ .nilIface)
      obtain ⟨b0, b1, b2, b3, bb, bs, hn⟩ := HI.out
      refine ⟨((keeps_set8 _ _ _ _).trans (KeepsOthers.setCell _ _ _)).from _, rfl, pre, i, p, rfl, HPE.out, hn, (box_fill8 b2 p.d).other _ _ (by show w.heap.size + 2 ≠ w.heap.size + 3; omega), (Bx.set8 b3 (by omega) 0 p.d).set 0 .nilIface, (set8_below bb (by omega) 0 p.d).setCell (p := ⟨w.heap.size + 3, 0, none⟩) (by show w.heap.size ≤ w.heap.size + 3; omega) _, ?_⟩
      simp [set8, World.setCell]
      omega
    · have hpe2 : (p.at_ == at_) = false := by simpa using hpe
      have HPE := hide hpe
      clear hpe
      gi_wp2
      refine ⟨(KeepsOthers.refl _).from _, ⟨Below.refl _ _, rfl⟩, ⟨HI.out.1, HI.out.2.1, HI.out.2.2.1, HI.out.2.2.2.1, HI.out.2.2.2.2.1, HI.out.2.2.2.2.2.1, ?_⟩, by have := HSW.out; simpa using this⟩
      intro z hz
      rcases List.mem_append.1 hz with h | h
      · exact HI.out.2.2.2.2.2.2 z h
      · simp at h
        subst h
        exact HPE.out
  case done =>
    intro Dd W hD hi hK
    have HI := hide hi.1
    have HK := hide hK
    have hD' : w1.heap.size + 1 ≤ Dd := by simpa using hD
    obtain ⟨d0, d1, d2⟩ := hi.1.1.three
    have at0 := hi.1.2.1.cell 0
    obtain ⟨y0, y1, y2, y3, y4, y5, y6, y7⟩ := (show Bx W (w.heap.size + 2) #[.int .u8 zB.z0, .int .u8 zB.z1, .int .u8 zB.z2, .int .u8 zB.z3, .int .u8 zB.z4, .int .u8 zB.z5, .int .u8 zB.z6, .int .u8 zB.z7] 52 from hi.1.2.2.1).eight
    have yz := hi.1.2.2.1.frozen
    have v0 := hi.1.2.2.2.1.cell 0
    have vz := hi.1.2.2.2.1.frozen
    clear hi hK hD
    obtain ⟨j, hj⟩ := Int.eq_ofNat_of_zero_le hat0
    obtain ⟨b, off, z, hsa, hb, hz, c0, c1, c2, c3, c4, c5, c6, c7⟩ := (HS.out.later HI.out.2.2.2.2.1).at_ j (by omega)
    subst hsa
    have HZ := hide (show x = z by
      rw [HX.out, readB_none (by rw [HPL.out]; exact HI.out.2.2.2.2.2.2), hj, Int.toNat_natCast, List.getD_eq_getElem?_getD, hz]
      rfl)
    have hjn : (j : Int) < n := by omega
    subst hj
    clear hz
    simp only [List.getElem?_toArray, List.getElem?_cons_zero] at at0 v0
    gi_wp2
    show bodyPostM Fence.wide 6 Try.prog Try.f28 _ Exit.ret _ ((set8 W (w.heap.size + 2) 0 z).setCell ⟨w.heap.size + 3, 0, none⟩ .nilIface)
    obtain ⟨WF, hWF⟩ : ∃ WF : World, Hid (WF = (set8 W (w.heap.size + 2) 0 z).setCell ⟨w.heap.size + 3, 0, none⟩ .nilIface) := ⟨_, rfl⟩
    rw [← hWF.out]
    obtain ⟨b0, b1, b2, b3, bb, bs, hn⟩ := HI.out
    have B2 : Bx WF (w.heap.size + 2) #[.int .u8 z.z0, .int .u8 z.z1, .int .u8 z.z2, .int .u8 z.z3, .int .u8 z.z4, .int .u8 z.z5, .int .u8 z.z6, .int .u8 z.z7] 52 := by rw [hWF.out]; exact (box_fill8 b2 z).other _ _ (by show w.heap.size + 2 ≠ w.heap.size + 3; omega)
    have B3 : Bx WF (w.heap.size + 3) #[.nilIface] 31 := by rw [hWF.out]; exact (Bx.set8 b3 (by omega) 0 z).set 0 .nilIface
    have BB : Below w.heap.size w WF := by rw [hWF.out]; exact (set8_below bb (by omega) 0 z).setCell (p := ⟨w.heap.size + 3, 0, none⟩) (by show w.heap.size ≤ w.heap.size + 3; omega) _
    have hKf : WF.heap[Dd]? = some (.deferred (some [])) := by
      rw [hWF.out, Below.heap_setCell _ _ _ _ (by show Dd ≠ w.heap.size + 3; omega), set8_other (by omega)]
      exact HK.out
    have hgO := grownBy_putObj' WF Dd (.deferred none)
    have hrO : ∀ r, some Dd = some r → ∃ o : Obj, WF.heap[r]? = some o ∧ o.isCells = false := fun r e => by cases e; exact ⟨_, hKf, rfl⟩
    have hb2 : Bx (WF.putObj Dd (.deferred none)) (w.heap.size + 2) #[.int .u8 z.z0, .int .u8 z.z1, .int .u8 z.z2, .int .u8 z.z3, .int .u8 z.z4, .int .u8 z.z5, .int .u8 z.z6, .int .u8 z.z7] 52 := cells_kept B2 hgO hrO
    have hb3 : Bx (WF.putObj Dd (.deferred none)) (w.heap.size + 3) #[.nilIface] 31 := cells_kept B3 hgO hrO
    have hbl := BB.grown hgO BB.size (fun k e => by cases e; omega)
    refine ⟨by simp, .inl ⟨_, _, rfl, run_takeDeferred hKf, ?_⟩⟩
    generalize WF.putObj Dd (.deferred none) = WG at *
    obtain ⟨q0, q1, q2, q3, q4, q5, q6, q7⟩ := hb2.eight
    have qv := hb3.cell 0
    simp only [List.getElem?_toArray, List.getElem?_cons_zero] at qv
    exact ⟨.tuple #[.agg #[.int .u8 z.z0, .int .u8 z.z1, .int .u8 z.z2, .int .u8 z.z3, .int .u8 z.z4, .int .u8 z.z5, .int .u8 z.z6, .int .u8 z.z7], .nilIface], by simp [results, Try.results28, go_sem, q0, q1, q2, q3, q4, q5, q6, q7, qv], by rw [HZ.out], hbl⟩
  case stop =>
    rintro Dd pre W hD ⟨k, hk, rfl⟩ ⟨_, pre', i, p, e1, e2, e3, b2, b3, bb, bs⟩ hK
    have hD' : w1.heap.size + 1 ≤ Dd := by simpa using hD
    have HZ := hide (show x = p.d by rw [HX.out, readB_found (by rw [HPL.out]; exact hk) e1.symm e2 e3])
    have hgO := grownBy_putObj' W Dd (.deferred none)
    have hrO : ∀ r, some Dd = some r → ∃ o : Obj, W.heap[r]? = some o ∧ o.isCells = false := fun r e => by cases e; exact ⟨_, hK, rfl⟩
    have hb2 : Bx (W.putObj Dd (.deferred none)) (w.heap.size + 2) #[.int .u8 p.d.z0, .int .u8 p.d.z1, .int .u8 p.d.z2, .int .u8 p.d.z3, .int .u8 p.d.z4, .int .u8 p.d.z5, .int .u8 p.d.z6, .int .u8 p.d.z7] 52 := cells_kept b2 hgO hrO
    have hb3 : Bx (W.putObj Dd (.deferred none)) (w.heap.size + 3) #[.nilIface] 31 := cells_kept b3 hgO hrO
    have hbl := bb.grown hgO bb.size (fun k e => by cases e; omega)
    gi_wp2
    refine ⟨by simp, .inl ⟨_, _, rfl, run_takeDeferred hK, ?_⟩⟩
    generalize W.putObj Dd (.deferred none) = WG at *
    obtain ⟨q0, q1, q2, q3, q4, q5, q6, q7⟩ := hb2.eight
    have qv := hb3.cell 0
    simp only [List.getElem?_toArray, List.getElem?_cons_zero] at qv
    exact ⟨.tuple #[.agg #[.int .u8 p.d.z0, .int .u8 p.d.z1, .int .u8 p.d.z2, .int .u8 p.d.z3, .int .u8 p.d.z4, .int .u8 p.d.z5, .int .u8 p.d.z6, .int .u8 p.d.z7], .nilIface], by simp [results, Try.results28, go_sem, q0, q1, q2, q3, q4, q5, q6, q7, qv], by rw [HZ.out], hbl⟩

theorem read_fin {w w1 : World} {D : Array Value} {at_ : Int} {pre : List (Nat × Pt)} (h : RI w D at_ pre w1) (v : Value) : Bx ((set8 w1 (w.heap.size + 2) 0 zB).setCell ⟨w.heap.size + 3, 0, none⟩ v) (w.heap.size + 2) #[.int .u8 0, .int .u8 0, .int .u8 0, .int .u8 0, .int .u8 0, .int .u8 0, .int .u8 0, .int .u8 0] 52 ∧ Bx ((set8 w1 (w.heap.size + 2) 0 zB).setCell ⟨w.heap.size + 3, 0, none⟩ v) (w.heap.size + 3) #[v] 31 ∧ Below w.heap.size w ((set8 w1 (w.heap.size + 2) 0 zB).setCell ⟨w.heap.size + 3, 0, none⟩ v) := by
  obtain ⟨b0, b1, b2, b3, bb, bs, hn⟩ := h
  exact ⟨(box_fill8 b2 zB).other _ _ (by show w.heap.size + 2 ≠ w.heap.size + 3; omega), (Bx.set8 b3 (by omega) 0 zB).set 0 v, (set8_below bb (by omega) 0 zB).setCell (p := ⟨w.heap.size + 3, 0, none⟩) (by show w.heap.size ≤ w.heap.size + 3; omega) _⟩

set_option maxHeartbeats 2000000 in
set_option maxRecDepth 100000 in
theorem read_err (sa pa : Option Addr) (n sc m pc : Nat) (left at_ : Int) (ps : List Pt) (w : World) (hn : n ≤ maxLen) (hp : PL w pa m ps) (hm : ¬ Mx.dread n ps left at_ = 0) :
    Calls Try.prog 28 #[.agg #[.slice sa n sc, .slice pa m pc, .int .i64 left], .int .i64 at_] w fun e w' =>
      e = .returned (.tuple #[.agg #[.int .u8 0, .int .u8 0, .int .u8 0, .int .u8 0, .int .u8 0, .int .u8 0, .int .u8 0, .int .u8 0], errV (Mx.dread n ps left at_)]) ∧ Below w.heap.size w w' := by
  have HP := hide hp
  have HM := hide hm
  have HNN := hide hn
  clear hp hm hn
  refine (callsIn_wide (n := 6)).1 ?_
  refine callsIn_of_wp_marks Try.func28 rfl trivial ?_ rfl
  simp only [Try.ntmps28, List.size_toArray, List.length_cons, List.length_nil, Nat.reduceAdd, Nat.reduceSub, Array.replicate_succ, Array.replicate_zero, List.push_toArray, List.append_toArray, List.nil_append, List.cons_append]
  gi_wp2_with fail
  refine ⟨trivial, ?_⟩
  obtain ⟨w0, hw0⟩ : ∃ w0 : World, Hid (w0 = (((w.alloc (.cells #[.slice sa n sc, .slice pa m pc, .int .i64 left] 50)).alloc (.cells #[.int .i64 at_] 3)).alloc (.cells #[.int .u8 0, .int .u8 0, .int .u8 0, .int .u8 0, .int .u8 0, .int .u8 0, .int .u8 0, .int .u8 0] 52)).alloc (.cells #[.nilIface] 31)) := ⟨_, rfl⟩
  have HR0 := hide (RI.start w #[.slice sa n sc, .slice pa m pc, .int .i64 left] at_ w0 hw0.out)
  rw [← hw0.out]
  refine (callsIn_wide.2 (checkPlace_any sa pa n sc m pc left at_ ps w0 (HP.out.later HR0.out.2.2.2.2.1) HNN.out)).mono ?_
  rintro e w1 ⟨rfl, hb1⟩
  have HR1 := hide (HR0.out.later hb1)
  clear hb1
  obtain ⟨f0, f1, f2⟩ := HR1.out.1.three
  obtain ⟨y0, y1, y2, y3, y4, y5, y6, y7⟩ := (show Bx w1 (w.heap.size + 2) #[.int .u8 zB.z0, .int .u8 zB.z1, .int .u8 zB.z2, .int .u8 zB.z3, .int .u8 zB.z4, .int .u8 zB.z5, .int .u8 zB.z6, .int .u8 zB.z7] 52 from HR1.out.2.2.1).eight
  have yz := HR1.out.2.2.1.frozen
  have v0 := HR1.out.2.2.2.1.cell 0
  have vz := HR1.out.2.2.2.1.frozen
  simp only [List.getElem?_toArray, List.getElem?_cons_zero] at v0
  have hsz := HR1.out.2.2.2.2.2.1
  by_cases hpl : Mx.dplace n ps at_ = 0
  · have HPL := hide hpl
    rw [hpl, errV_zero]
    clear hpl
    by_cases hl : left = 0
    · have HE := hide (show Mx.dread n ps left at_ = 4 by unfold Mx.dread; rw [if_pos HPL.out, if_pos hl])
      have hle : (left == 0) = true := by simpa using hl
      clear hl
      gi_wp2_with fail
      obtain ⟨B2, B3, BB⟩ := read_fin HR1.out (.iface 26 (.int .i64 4))
      show bodyPostM Fence.wide 6 Try.prog Try.f28 _ Exit.ret _ ((set8 w1 (w.heap.size + 2) 0 zB).setCell ⟨w.heap.size + 3, 0, none⟩ (.iface 26 (.int .i64 4)))
      generalize (set8 w1 (w.heap.size + 2) 0 zB).setCell ⟨w.heap.size + 3, 0, none⟩ (.iface 26 (.int .i64 4)) = WG at *
      obtain ⟨q0, q1, q2, q3, q4, q5, q6, q7⟩ := Bx.eight (x := zB) B2
      have qv := B3.cell 0
      simp only [List.getElem?_toArray, List.getElem?_cons_zero] at qv
      exact ⟨.tuple #[.agg #[.int .u8 0, .int .u8 0, .int .u8 0, .int .u8 0, .int .u8 0, .int .u8 0, .int .u8 0, .int .u8 0], .iface 26 (.int .i64 4)], by simp [results, Try.results28, go_sem, q0, q1, q2, q3, q4, q5, q6, q7, qv, zB], by rw [HE.out]; rfl, BB⟩
    · exact absurd (show Mx.dread n ps left at_ = 0 by unfold Mx.dread; rw [if_pos HPL.out, if_neg hl]) HM.out
  · have HE := hide (show Mx.dread n ps left at_ = Mx.dplace n ps at_ by unfold Mx.dread; rw [if_neg hpl])
    rw [errV_not hpl]
    have HPL := hide hpl
    clear hpl
    gi_wp2_with fail
    obtain ⟨B2, B3, BB⟩ := read_fin HR1.out (.iface 26 (.int .i64 (Mx.dplace n ps at_)))
    show bodyPostM Fence.wide 6 Try.prog Try.f28 _ Exit.ret _ ((set8 w1 (w.heap.size + 2) 0 zB).setCell ⟨w.heap.size + 3, 0, none⟩ (.iface 26 (.int .i64 (Mx.dplace n ps at_))))
    generalize (set8 w1 (w.heap.size + 2) 0 zB).setCell ⟨w.heap.size + 3, 0, none⟩ (.iface 26 (.int .i64 (Mx.dplace n ps at_))) = WG at *
    obtain ⟨q0, q1, q2, q3, q4, q5, q6, q7⟩ := Bx.eight (x := zB) B2
    have qv := B3.cell 0
    simp only [List.getElem?_toArray, List.getElem?_cons_zero] at qv
    exact ⟨.tuple #[.agg #[.int .u8 0, .int .u8 0, .int .u8 0, .int .u8 0, .int .u8 0, .int .u8 0, .int .u8 0, .int .u8 0], .iface 26 (.int .i64 (Mx.dplace n ps at_))], by simp [results, Try.results28, go_sem, q0, q1, q2, q3, q4, q5, q6, q7, qv, zB], by rw [HE.out, errV_not HPL.out], BB⟩
end Go.Proofs.Ytengpogcdnbabaa
