/-
  CacheSays: a round.
-/
import Derived.Lib.IfaceNeq
import Derived.Lib.IfaceEq
import Derived.Test.YtfbmaemnbolplaaDoorZIs
import Derived.Test.YtfbmaemnbolplaaDoorZDclone
import Derived.Test.YtfbmaemnbolplaaDoorZCd

namespace Go.Proofs.YtfbmaemnbolplaaDoor
open Go.RowKit

set_option maxHeartbeats 16000000 in
set_option maxRecDepth 100000 in
theorem cfindf_any (a : Option Addr) (n c : Nat) (l : List B8) (y : B8) (w : World) (hl : BL w a n l) :
    Calls Tryd.prog 4 #[.slice a n c, .agg #[.int .u8 y.z0, .int .u8 y.z1, .int .u8 y.z2, .int .u8 y.z3, .int .u8 y.z4, .int .u8 y.z5, .int .u8 y.z6, .int .u8 y.z7]] w fun e w' => e = .returned (.tuple #[.int .i64 (Mx.fndA l y), .bool (decide (y ∈ l))]) ∧ Below w.heap.size w w' := by
  have HL := hide hl
  clear hl
  obtain ⟨W1, hW1⟩ : ∃ W1 : World, Hid (W1 = w.alloc (.cells #[.int .u8 y.z0, .int .u8 y.z1, .int .u8 y.z2, .int .u8 y.z3, .int .u8 y.z4, .int .u8 y.z5, .int .u8 y.z6, .int .u8 y.z7] 25)) := ⟨_, rfl⟩
  have F1 := hide (show Below w.heap.size w W1 by rw [hW1.out]; exact below_alloc _ _)
  have Y1 := hide (show Bx W1 w.heap.size #[.int .u8 y.z0, .int .u8 y.z1, .int .u8 y.z2, .int .u8 y.z3, .int .u8 y.z4, .int .u8 y.z5, .int .u8 y.z6, .int .u8 y.z7] 25 by rw [hW1.out]; exact Bx.new w _ _)
  obtain ⟨t0, t1, t2, t3, t4, t5, t6, t7⟩ := Y1.out.eight
  go_enter Tryd.func4, Tryd.ntmps4
  change TailG Tryd.f4 _ 0 _ w
  refine tailG_step rfl ?_
  intro K hK
  go_wp2_with fail
  rw [← hW1.out]
  refine Met.intro (tailG_step rfl ?_)
  try clear hK
  try clear K
  intro K hK
  go_wp2_with fail
  refine (index_any a n c l y W1 (HL.out.later F1.out)).mono ?_
  rintro e w2 ⟨rfl, E2⟩
  have D2 := hide (show Below w.heap.size w w2 from F1.out.trans (E2.mono F1.out.size))
  clear E2 t0 t1 t2 t3 t4 t5 t6 t7
  by_cases hm : y ∈ l
  · obtain ⟨k, hk1, _, _⟩ := Mx.first_has hm
    have HA := hide (show Mx.fndA l y = (k : Int) by unfold Mx.fndA; rw [if_pos hm, hk1])
    have HB := hide (show decide (y ∈ l) = true from decide_eq_true hm)
    rw [hk1]
    clear hm hk1
    go_wp2_with fail
    refine Met.intro (tailG_step rfl ?_)
    try clear hK
    try clear K
    intro K hK
    go_wp2_with fail
    refine Met.intro (tailG_last (c := .seq _ .ret) rfl ?_)
    try clear hK
    try clear K
    go_wp2_with fail
    exact bodyPost_ret (v := .tuple #[.int .i64 (k : Int), .bool true]) (by simp [results, Tryd.results4, go_sem]) rfl ⟨by rw [HA.out, HB.out], D2.out⟩
  · have HA := hide (show Mx.fndA l y = 0 by unfold Mx.fndA; rw [if_neg hm])
    have HB := hide (show decide (y ∈ l) = false from decide_eq_false hm)
    have hf : Mx.firstI l y = -1 := by unfold Mx.firstI; rw [if_neg hm]
    rw [hf]
    clear hm hf
    go_wp2_with fail
    refine Met.intro (tailG_step rfl ?_)
    try clear hK
    try clear K
    intro K hK
    go_wp2_with fail
    exact bodyPost_ret (v := .tuple #[.int .i64 0, .bool false]) (by simp [results, Tryd.results4, go_sem]) rfl ⟨by rw [HA.out, HB.out], D2.out⟩

/-- the law's index, its own blocks, the block that is asked for, and the table -/
structure CV (w v : World) (p5 B g n b c m : Nat) (es : List MapEntry) (ck la lc : Nat) (l : List B8) (y : B8) : Prop where
  ix : IX B v g n b c m es ck l
  ow : OwnBL v w.heap.size (.slice (some ⟨la, 0, none⟩) n lc) l
  a1 : la ≠ m
  a2 : la ≠ b
  a3 : la ≠ g
  kb : Bx v p5 #[.int .u8 y.z0, .int .u8 y.z1, .int .u8 y.z2, .int .u8 y.z3, .int .u8 y.z4, .int .u8 y.z5, .int .u8 y.z6, .int .u8 y.z7] 25
  yo : y.ok
  tb : Tb v
  w0 : 0 < w.heap.size
  bel : Below w.heap.size w v
  wB : w.heap.size ≤ B
  p5a : w.heap.size ≤ p5
  p5m : p5 ≠ m
  p5b : p5 ≠ b
  p5l : p5 ≠ la
theorem CV.later {w v v' : World} {p5 B g n b c m : Nat} {es : List MapEntry} {ck la lc : Nat} {l : List B8} {y : B8} (h : CV w v p5 B g n b c m es ck la lc l y) (hb : Below v.heap.size v v') : CV w v' p5 B g n b c m es ck la lc l y :=
  { h with ix := h.ix.later hb, ow := rowKept h.ow hb, kb := h.kb.later hb h.kb.lt, tb := h.tb.later hb (Nat.lt_of_lt_of_le h.w0 h.bel.size), bel := h.bel.trans (hb.mono h.bel.size) }


end Go.Proofs.YtfbmaemnbolplaaDoor

/-
  CacheSays: a round, where a block is put.
-/
namespace Go.Proofs.YtfbmaemnbolplaaDoor
open Go.RowKit

theorem own_bl {w : World} {base n c : Nat} {a : Option Addr} {l : List B8} (h : OwnBL w base (.slice a n c) l) : BL w a n l := by
  obtain ⟨a', c', hv, hl, _⟩ := h.bl
  cases hv
  exact hl
theorem Bx.ninth {w : World} {g : Nat} {a0 a1 a2 a3 a4 a5 a6 a7 a8 : Value} {t : TypeId} (h : Bx w g #[a0, a1, a2, a3, a4, a5, a6, a7, a8] t) : w.cell? ⟨g, 0, none⟩ = some a0 ∧ w.cell? ⟨g, 1, none⟩ = some a1 ∧ w.cell? ⟨g, 2, none⟩ = some a2 ∧ w.cell? ⟨g, 3, none⟩ = some a3 ∧ w.cell? ⟨g, 4, none⟩ = some a4 ∧ w.cell? ⟨g, 5, none⟩ = some a5 ∧ w.cell? ⟨g, 6, none⟩ = some a6 ∧ w.cell? ⟨g, 7, none⟩ = some a7 ∧ w.cell? ⟨g, 8, none⟩ = some a8 :=
  ⟨h.cell 0, h.cell 1, h.cell 2, h.cell 3, h.cell 4, h.cell 5, h.cell 6, h.cell 7, h.cell 8⟩
theorem tb_keep {w v v2 v3 : World} {p5 B g n b c m : Nat} {es : List MapEntry} {ck la lc : Nat} {l : List B8} {y : B8} (h : CV w v p5 B g n b c m es ck la lc l y) (h2 : G2 v v2 m b) (h3 : v2.grownBy v3 (some la)) (hla : w.heap.size ≤ la) (q : Nat) (hq : q < 64) : v3.cell? ⟨0, q, none⟩ = some (.int .u8 (Mx.tab.getD q 0)) := by
  have hw0 := h.w0
  have hm : (0 : Nat) ≠ m := by have h9 := h.ix.mB; have h8 := h.wB; omega
  have hb : (0 : Nat) ≠ b := by
    obtain ⟨b', hb', h9, _, _, _⟩ := h.ix.ow.form (by have := h.ix.n1; omega)
    cases hb'
    have h8 := h.wB
    omega
  have hs : 0 < v.heap.size := Nat.lt_of_lt_of_le hw0 h.bel.size
  have e1 : v2.heap[0]? = v.heap[0]? := h2.block 0 hs hm hb
  have e2 : v3.heap[0]? = v2.heap[0]? := h3.block 0 (Nat.lt_of_lt_of_le hs h2.size) (fun e => absurd (Option.some.inj e) (by omega))
  rw [World.cell?_of_block (w := v) (w' := v3) (a := ⟨0, q, none⟩) (e2.trans e1)]
  exact h.tb q hq
theorem grown8r {w w' : World} {g : Nat} (h : w.grownBy w' (some g)) (o : Nat) (x : B8) : w.grownBy (set8 w' g o x) (some g) := by
  have key : ∀ v : World, Below g w' v → (∀ k, k ≠ g → v.heap[k]? = w'.heap[k]?) → w.grownBy v (some g) := fun v hb ho => ⟨hb.os.trans h.os, hb.tape.trans h.tape, hb.output.trans h.output, Nat.le_trans h.size hb.size, fun k hk hne => (ho k (fun e => hne (by rw [e]))).trans (h.block k hk hne)⟩
  exact key _ (set8_below (Below.refl g w') (Nat.le_refl g) o x) (fun k hk => set8_other hk x)

set_option maxHeartbeats 16000000 in
set_option maxRecDepth 100000 in
theorem cc1 {w : World} {p5 B g n b c m la lc i pn pc : Nat} {pa : Option Addr} {y : B8} {ps : List Pt} {Kn Kr K0 : Act → World → Prop} {x : World} {es : List MapEntry} {ck : Nat} {l : List B8} (hv : CV w x p5 B g n b c m es ck la lc l y) (hps : PL w pa pn ps) (hpk : ∀ q ∈ ps, q.d.ok) (hi : i ≤ pn) {u0 u2 u3 u4 u6 u7 u8 u9 u11 u14 u15 u16 u17 u18 u19 u20 u21 u22 u23 u24 u25 u26 u27 u28 u29 u30 u31 u32 u33 u34 u35 u36 u37 u38 u39 u40 u41 u42 u43 u44 u45 u46 u47 u48 u49 u50 u51 u52 u53 u54 u55 u56 u57 u58 u59 u60 u61 u62 u63 u64 u65 u66 u67 u68 u69 u70 u71 u72 u73 u74 u75 u76 u77 u78 u79 u80 u81 u82 u83 u84 u85 u86 u87 u88 u89 u90 u91 u92 u93 u94 u95 u96 u97 u98 u99 u100 u101 u102 u103 u104 u105 u106 u107 u108 u109 u110 u111 u112 u113 u114 u115 u116 u117 u118 u119 u120 u121 u122 u123 u124 u125 u126 u127 u128 u129 u130 u131 u132 u133 u134 u135 u136 u137 u138 u139 u140 u141 u142 u143 u144 u145 u146 u147 u148 u149 u150 u151 u152 u153 u154 u155 u156 u157 u158 u159 u160 u161 u162 u163 u164 u165 u166 u167 u168 u169 u170 : Value} (hQ : ∀ (es' : List MapEntry) (ck' : Nat) (l' : List B8) (x' : World) (v6 v14 v15 v16 v17 v18 v19 v20 v86 v87 v88 v89 v90 v91 v92 v93 v94 v95 v96 v97 v98 v99 v100 v101 v102 v103 v104 v105 v106 v107 v108 v109 v110 v111 v112 v113 v114 v115 v116 v117 v118 v119 v120 v121 v122 v123 v124 v125 v126 v127 v128 v129 v130 v131 v132 v133 v134 v135 v136 v137 v138 v139 v140 v141 v142 v143 v144 v145 v146 v147 v148 v149 v150 v151 v152 v153 v154 v155 v156 v157 v158 v159 v160 v161 v162 v163 v164 v165 v166 v167 v168 v169 v170 : Value), CV w x' p5 B g n b c m es' ck' la lc l' y → i < pn → Kn ⟨#[u0, .slice pa pn pc, u2, u3, u4, .pointer (some ⟨p5, 0, none⟩), v6, u7, u8, u9, .pointer (some ⟨g, 0, none⟩), u11, .slice (some ⟨la, 0, none⟩) n lc, .int .i64 (i : Int), v14, v15, v16, v17, v18, v19, v20, u21, u22, u23, u24, u25, u26, u27, u28, u29, u30, u31, u32, u33, u34, u35, u36, u37, u38, u39, u40, u41, u42, u43, u44, u45, u46, u47, u48, u49, u50, u51, u52, u53, u54, u55, u56, u57, u58, u59, u60, u61, u62, u63, u64, u65, u66, u67, u68, u69, u70, u71, u72, u73, u74, u75, u76, u77, u78, u79, u80, u81, u82, u83, u84, u85, v86, v87, v88, v89, v90, v91, v92, v93, v94, v95, v96, v97, v98, v99, v100, v101, v102, v103, v104, v105, v106, v107, v108, v109, v110, v111, v112, v113, v114, v115, v116, v117, v118, v119, v120, v121, v122, v123, v124, v125, v126, v127, v128, v129, v130, v131, v132, v133, v134, v135, v136, v137, v138, v139, v140, v141, v142, v143, v144, v145, v146, v147, v148, v149, v150, v151, v152, v153, v154, v155, v156, v157, v158, v159, v160, v161, v162, v163, v164, v165, v166, v167, v168, v169, v170], []⟩ x') :
    TailQ (bodyG (fstG (itsG 9 (Tryd.f3.body.getD .skip)))) (Exit.inBlock 1 (Exit.then Kn (Exit.then Kr (Exit.inBlock 0 (Exit.then K0 (bodyPost Tryd.prog Tryd.f3 (fun e w' => e = .returned (.bool true) ∧ Below w.heap.size w w'))))))) 1 ⟨#[u0, .slice pa pn pc, u2, u3, u4, .pointer (some ⟨p5, 0, none⟩), u6, u7, u8, u9, .pointer (some ⟨g, 0, none⟩), u11, .slice (some ⟨la, 0, none⟩) n lc, .int .i64 (i : Int), u14, u15, u16, u17, u18, u19, u20, u21, u22, u23, u24, u25, u26, u27, u28, u29, u30, u31, u32, u33, u34, u35, u36, u37, u38, u39, u40, u41, u42, u43, u44, u45, u46, u47, u48, u49, u50, u51, u52, u53, u54, u55, u56, u57, u58, u59, u60, u61, u62, u63, u64, u65, u66, u67, u68, u69, u70, u71, u72, u73, u74, u75, u76, u77, u78, u79, u80, u81, u82, u83, u84, u85, u86, u87, u88, u89, u90, u91, u92, u93, u94, u95, u96, u97, u98, u99, u100, u101, u102, u103, u104, u105, u106, u107, u108, u109, u110, u111, u112, u113, u114, u115, u116, u117, u118, u119, u120, u121, u122, u123, u124, u125, u126, u127, u128, u129, u130, u131, u132, u133, u134, u135, u136, u137, u138, u139, u140, u141, u142, u143, u144, u145, u146, u147, u148, u149, u150, u151, u152, u153, u154, u155, u156, u157, u158, u159, u160, u161, u162, u163, u164, u165, u166, u167, u168, u169, u170], []⟩ x := by
  have HV := hide hv
  have HQ := hide hQ
  have HPS := hide hps
  have HPK := hide hpk
  clear hv hps hpk hQ
  have hn1 := HV.out.ix.n1
  have hn2 := HV.out.ix.n2
  refine tailQ_step rfl ?_
  intro K hK
  by_cases hip : i = pn
  · have e1 : ((i : Int) == (pn : Int)) = true := by rw [hip]; simp
    have e2 : (i == pn) = true := by simpa using hip
    clear hip
    go_wp2_with fail
    exact bodyPost_ret (v := .bool true) (by simp [results, Tryd.results3, go_sem]) rfl ⟨rfl, HV.out.bel⟩
  · have e1 : ((i : Int) == (pn : Int)) = false := by simp; omega
    have e2 : (i == pn) = false := by simpa using hip
    have hlt : i < pn := by omega
    have hlti : (i : Int) < pn := by omega
    clear hip
    go_wp2_with fail
    refine Met.intro (tailQ_step rfl ?_)
    try clear hK
    try clear K
    intro K hK
    obtain ⟨bb, off, p, hba, hbw, hp, c0, c1, c2, c3, c4, c5, c6, c7, c8⟩ := (HPS.out.later HV.out.bel).at_ i hlt
    subst hba
    have HP := hide (HPK.out p (List.mem_of_getElem? hp))
    clear hp
    obtain ⟨W1, hW1⟩ : ∃ W1 : World, Hid (W1 = x.alloc (.cells #[.int .i64 p.at_, .int .u8 p.d.z0, .int .u8 p.d.z1, .int .u8 p.d.z2, .int .u8 p.d.z3, .int .u8 p.d.z4, .int .u8 p.d.z5, .int .u8 p.d.z6, .int .u8 p.d.z7] 38)) := ⟨_, rfl⟩
    have F1 := hide (show Below x.heap.size x W1 by rw [hW1.out]; exact below_alloc _ _)
    have X1 := hide (show Bx W1 x.heap.size #[.int .i64 p.at_, .int .u8 p.d.z0, .int .u8 p.d.z1, .int .u8 p.d.z2, .int .u8 p.d.z3, .int .u8 p.d.z4, .int .u8 p.d.z5, .int .u8 p.d.z6, .int .u8 p.d.z7] 38 by rw [hW1.out]; exact Bx.new x _ _)
    have V1 := hide (HV.out.later F1.out)
    go_wp2_with fail
    rw [← hW1.out]
    clear c0 c1 c2 c3 c4 c5 c6 c7 c8
    refine Met.intro (tailQ_step rfl ?_)
    try clear hK
    try clear K
    intro K hK
    obtain ⟨f0, f1, f2, f3, f4, f5, f6, f7, f8⟩ := X1.out.ninth
    by_cases ho : p.at_ < 0 ∨ (n : Int) ≤ p.at_
    · have HO := hide ho
      clear ho
      go_wp2_with fail
      refine (cput_out B W1 g n b c m es ck l V1.out.ix p.at_ HO.out p.d).mono ?_
      rintro e w2 ⟨rfl, E2⟩
      have V2 := hide (V1.out.later E2)
      have X2 := hide (X1.out.later E2 X1.out.lt)
      clear E2 f0 f1 f2 f3 f4 f5 f6 f7 f8
      obtain ⟨f0, f1, f2, f3, f4, f5, f6, f7, f8⟩ := X2.out.ninth
      have hz : ∀ (x y : Int) (W : World), (binOp .neq 31 (.iface 34 (.int .i64 x)) (.iface 34 (.int .i64 y))).run Tryd.prog W = .ok (.bool (x != y)) W :=
        fun x y W => Lib.run_neq_iface_int W x y Tryd.underlying31 (by kernel_rfl) Tryd.underlying34
      go_wp2_with fail
      refine Met.intro (tailQ_step rfl ?_)
      try clear hK
      try clear K
      intro K hK
      by_cases h0 : p.at_ < 0
      · have d0 : decide (p.at_ < 0) = true := by simpa using h0
        clear h0
        go_wp2_with fail
        exact HQ.out es ck l _ _ _ _ _ _ _ _ _ _ _ _ _ _ _ _ _ _ _ _ _ _ _ _ _ _ _ _ _ _ _ _ _ _ _ _ _ _ _ _ _ _ _ _ _ _ _ _ _ _ _ _ _ _ _ _ _ _ _ _ _ _ _ _ _ _ _ _ _ _ _ _ _ _ _ _ _ _ _ _ _ _ _ _ _ _ _ _ _ _ _ _ _ _ V2.out hlt
      · have d0 : decide (p.at_ < 0) = false := by simpa using h0
        have d1 : decide ((n : Int) ≤ p.at_) = true := by have h9 := HO.out; simp; omega
        clear h0
        go_wp2_with fail
        exact HQ.out es ck l _ _ _ _ _ _ _ _ _ _ _ _ _ _ _ _ _ _ _ _ _ _ _ _ _ _ _ _ _ _ _ _ _ _ _ _ _ _ _ _ _ _ _ _ _ _ _ _ _ _ _ _ _ _ _ _ _ _ _ _ _ _ _ _ _ _ _ _ _ _ _ _ _ _ _ _ _ _ _ _ _ _ _ _ _ _ _ _ _ _ _ _ _ _ V2.out hlt
    · obtain ⟨j, hj⟩ : ∃ j : Nat, Hid (p.at_ = (j : Int)) := ⟨p.at_.toNat, by unfold Hid; omega⟩
      have hjn : j < n := by have := hj.out; omega
      have hjn' : (j : Int) < n := by omega
      have d0 : decide ((j : Int) < 0) = false := by simp
      have d1 : decide ((n : Int) ≤ (j : Int)) = false := by simp; omega
      have d1n : decide (n ≤ j) = false := by simp; omega
      rw [hj.out] at f0 X1
      clear ho
      go_wp2_with fail
      refine (cput_ok B W1 g n b c m es ck l V1.out.ix j hjn p.d HP.out).mono ?_
      rintro e w2 ⟨es2, ck2, rfl, I2, G2'⟩
      clear f0 f1 f2 f3 f4 f5 f6 f7 f8
      have hxm := hide (show x.heap.size ≠ m by have h9 := HV.out.ix.mp.ltm; omega)
      have hxb := hide (show x.heap.size ≠ b from (by obtain ⟨b', hb', _, h9, _, _⟩ := HV.out.ix.ow.form (by omega); cases hb'; omega))
      have X2 := hide (show Bx w2 x.heap.size #[.int .i64 (j : Int), .int .u8 p.d.z0, .int .u8 p.d.z1, .int .u8 p.d.z2, .int .u8 p.d.z3, .int .u8 p.d.z4, .int .u8 p.d.z5, .int .u8 p.d.z6, .int .u8 p.d.z7] 38 from (G2'.out.block _ X1.out.lt hxm.out hxb.out).trans X1.out)
      have O2 := hide (G2.own V1.out.ow G2'.out V1.out.a1 V1.out.a2)
      have K2 := hide (show Bx w2 p5 #[.int .u8 y.z0, .int .u8 y.z1, .int .u8 y.z2, .int .u8 y.z3, .int .u8 y.z4, .int .u8 y.z5, .int .u8 y.z6, .int .u8 y.z7] 25 from (G2'.out.block _ V1.out.kb.lt V1.out.p5m V1.out.p5b).trans V1.out.kb)
      obtain ⟨f0, f1, f2, f3, f4, f5, f6, f7, f8⟩ := X2.out.ninth
      go_wp2_with fail
      refine Met.intro (tailQ_step rfl ?_)
      try clear hK
      try clear K
      intro K hK
      go_wp2_with fail
      refine Met.intro (tailQ_step rfl ?_)
      try clear hK
      try clear K
      intro K hK
      go_wp2_with fail
      refine Met.intro (tailQ_last (c' := .region _ _ _) rfl ?_)
      try clear hK
      try clear K
      obtain ⟨yy, _, y0, y1, y2, y3, y4, y5, y6, y7⟩ := O2.out.at_ j hjn
      obtain ⟨la', hla', hgb, hgl, hln, yz⟩ := O2.out.form (by omega)
      cases hla'
      have hxl : ¬ la = x.heap.size := by obtain ⟨b', hb', _, h9, _, _⟩ := HV.out.ow.form (by omega); cases hb'; omega
      obtain ⟨W3, hW3⟩ : ∃ W3 : World, Hid (W3 = set8 w2 la (j * 8) p.d) := ⟨_, rfl⟩
      have G3 := hide (show w2.grownBy W3 (some la) by rw [hW3.out]; exact grown8r (grow_of_below (Below.refl _ _) _) (j * 8) p.d)
      have hwb := hide (show w.heap.size ≤ b from (by obtain ⟨b', hb', h9, _, _, _⟩ := V1.out.ix.ow.form (by omega); cases hb'; exact Nat.le_trans V1.out.wB h9))
      have V3 := hide (show CV w W3 p5 B g n b c m es2 ck2 la lc (l.set j p.d) y from
        { ix := { I2.out with bx := I2.out.bx.grow G3.out (fun e => V1.out.a3 (Option.some.inj e).symm), ow := World.ownsRow.kept I2.out.ow G3.out (.inr (fun e => V1.out.a2 (Option.some.inj e).symm)), mp := I2.out.mp.grow G3.out (fun e => V1.out.a1 (Option.some.inj e).symm) },
          ow := by rw [hW3.out]; exact OwnBL.put O2.out j (by rw [hln]; exact hjn) p.d,
          a1 := V1.out.a1, a2 := V1.out.a2, a3 := V1.out.a3, kb := K2.out.grow G3.out (fun e => V1.out.p5l (Option.some.inj e)), yo := V1.out.yo,
          tb := fun q hq => tb_keep V1.out G2'.out G3.out hgb q hq,
          w0 := V1.out.w0, bel := below_of_grown (G2.below V1.out.bel G2'.out (Nat.le_trans V1.out.wB V1.out.ix.mB) hwb.out) G3.out hgb,
          wB := V1.out.wB, p5a := V1.out.p5a, p5m := V1.out.p5m, p5b := V1.out.p5b, p5l := V1.out.p5l })
      unfold set8 at hW3
      go_wp2_with fail
      rw [← hW3.out]
      exact HQ.out es2 ck2 (l.set j p.d) _ _ _ _ _ _ _ _ _ _ _ _ _ _ _ _ _ _ _ _ _ _ _ _ _ _ _ _ _ _ _ _ _ _ _ _ _ _ _ _ _ _ _ _ _ _ _ _ _ _ _ _ _ _ _ _ _ _ _ _ _ _ _ _ _ _ _ _ _ _ _ _ _ _ _ _ _ _ _ _ _ _ _ _ _ _ _ _ _ _ _ _ _ _ V3.out hlt


end Go.Proofs.YtfbmaemnbolplaaDoor

/-
  CacheSays: a round, where all is asked.
-/
namespace Go.Proofs.YtfbmaemnbolplaaDoor
open Go.RowKit

/-- a block's box filled -/
theorem bx_fill {W : World} {g : Nat} {a0 a1 a2 a3 a4 a5 a6 a7 : Value} {t : TypeId} (h : Bx W g #[a0, a1, a2, a3, a4, a5, a6, a7] t) (x : B8) : Bx ((((((((W.setCell ⟨g, 0, none⟩ (.int .u8 x.z0)).setCell ⟨g, 1, none⟩ (.int .u8 x.z1)).setCell ⟨g, 2, none⟩ (.int .u8 x.z2)).setCell ⟨g, 3, none⟩ (.int .u8 x.z3)).setCell ⟨g, 4, none⟩ (.int .u8 x.z4)).setCell ⟨g, 5, none⟩ (.int .u8 x.z5)).setCell ⟨g, 6, none⟩ (.int .u8 x.z6)).setCell ⟨g, 7, none⟩ (.int .u8 x.z7)) g #[.int .u8 x.z0, .int .u8 x.z1, .int .u8 x.z2, .int .u8 x.z3, .int .u8 x.z4, .int .u8 x.z5, .int .u8 x.z6, .int .u8 x.z7] t := by
  unfold Bx at *
  simp [World.setCell, Array.getElem?_modify, h]
theorem fill_below {B g : Nat} {w W : World} (h : Below B w W) (hg : B ≤ g) (x : B8) : Below B w ((((((((W.setCell ⟨g, 0, none⟩ (.int .u8 x.z0)).setCell ⟨g, 1, none⟩ (.int .u8 x.z1)).setCell ⟨g, 2, none⟩ (.int .u8 x.z2)).setCell ⟨g, 3, none⟩ (.int .u8 x.z3)).setCell ⟨g, 4, none⟩ (.int .u8 x.z4)).setCell ⟨g, 5, none⟩ (.int .u8 x.z5)).setCell ⟨g, 6, none⟩ (.int .u8 x.z6)).setCell ⟨g, 7, none⟩ (.int .u8 x.z7)) := by
  iterate 8 refine Below.setCell ?_ (by exact hg) _
  exact h

set_option maxHeartbeats 16000000 in
set_option maxRecDepth 100000 in
theorem cc0 {w : World} {p5 B g n b c m la lc i pn pc : Nat} {pa : Option Addr} {y : B8} {ps : List Pt} {Kn Kr K0 : Act → World → Prop} {x : World} {es : List MapEntry} {ck : Nat} {l : List B8} (hv : CV w x p5 B g n b c m es ck la lc l y) (hps : PL w pa pn ps) (hpk : ∀ q ∈ ps, q.d.ok) (hi : i ≤ pn) {u0 u2 u3 u4 u6 u7 u8 u9 u11 u14 u15 u16 u17 u18 u19 u20 u21 u22 u23 u24 u25 u26 u27 u28 u29 u30 u31 u32 u33 u34 u35 u36 u37 u38 u39 u40 u41 u42 u43 u44 u45 u46 u47 u48 u49 u50 u51 u52 u53 u54 u55 u56 u57 u58 u59 u60 u61 u62 u63 u64 u65 u66 u67 u68 u69 u70 u71 u72 u73 u74 u75 u76 u77 u78 u79 u80 u81 u82 u83 u84 u85 u86 u87 u88 u89 u90 u91 u92 u93 u94 u95 u96 u97 u98 u99 u100 u101 u102 u103 u104 u105 u106 u107 u108 u109 u110 u111 u112 u113 u114 u115 u116 u117 u118 u119 u120 u121 u122 u123 u124 u125 u126 u127 u128 u129 u130 u131 u132 u133 u134 u135 u136 u137 u138 u139 u140 u141 u142 u143 u144 u145 u146 u147 u148 u149 u150 u151 u152 u153 u154 u155 u156 u157 u158 u159 u160 u161 u162 u163 u164 u165 u166 u167 u168 u169 u170 : Value} (hQ : ∀ (es' : List MapEntry) (ck' : Nat) (l' : List B8) (x' : World) (v6 v14 v15 v16 v17 v18 v19 v20 v86 v87 v88 v89 v90 v91 v92 v93 v94 v95 v96 v97 v98 v99 v100 v101 v102 v103 v104 v105 v106 v107 v108 v109 v110 v111 v112 v113 v114 v115 v116 v117 v118 v119 v120 v121 v122 v123 v124 v125 v126 v127 v128 v129 v130 v131 v132 v133 v134 v135 v136 v137 v138 v139 v140 v141 v142 v143 v144 v145 v146 v147 v148 v149 v150 v151 v152 v153 v154 v155 v156 v157 v158 v159 v160 v161 v162 v163 v164 v165 v166 v167 v168 v169 v170 : Value), CV w x' p5 B g n b c m es' ck' la lc l' y → i < pn → Kn ⟨#[u0, .slice pa pn pc, u2, u3, u4, .pointer (some ⟨p5, 0, none⟩), v6, u7, u8, u9, .pointer (some ⟨g, 0, none⟩), u11, .slice (some ⟨la, 0, none⟩) n lc, .int .i64 (i : Int), v14, v15, v16, v17, v18, v19, v20, u21, u22, u23, u24, u25, u26, u27, u28, u29, u30, u31, u32, u33, u34, u35, u36, u37, u38, u39, u40, u41, u42, u43, u44, u45, u46, u47, u48, u49, u50, u51, u52, u53, u54, u55, u56, u57, u58, u59, u60, u61, u62, u63, u64, u65, u66, u67, u68, u69, u70, u71, u72, u73, u74, u75, u76, u77, u78, u79, u80, u81, u82, u83, u84, u85, v86, v87, v88, v89, v90, v91, v92, v93, v94, v95, v96, v97, v98, v99, v100, v101, v102, v103, v104, v105, v106, v107, v108, v109, v110, v111, v112, v113, v114, v115, v116, v117, v118, v119, v120, v121, v122, v123, v124, v125, v126, v127, v128, v129, v130, v131, v132, v133, v134, v135, v136, v137, v138, v139, v140, v141, v142, v143, v144, v145, v146, v147, v148, v149, v150, v151, v152, v153, v154, v155, v156, v157, v158, v159, v160, v161, v162, v163, v164, v165, v166, v167, v168, v169, v170], []⟩ x') :
    TailQ (bodyG (fstG (itsG 9 (Tryd.f3.body.getD .skip)))) (Exit.inBlock 1 (Exit.then Kn (Exit.then Kr (Exit.inBlock 0 (Exit.then K0 (bodyPost Tryd.prog Tryd.f3 (fun e w' => e = .returned (.bool true) ∧ Below w.heap.size w w'))))))) 0 ⟨#[u0, .slice pa pn pc, u2, u3, u4, .pointer (some ⟨p5, 0, none⟩), u6, u7, u8, u9, .pointer (some ⟨g, 0, none⟩), u11, .slice (some ⟨la, 0, none⟩) n lc, .int .i64 (i : Int), u14, u15, u16, u17, u18, u19, u20, u21, u22, u23, u24, u25, u26, u27, u28, u29, u30, u31, u32, u33, u34, u35, u36, u37, u38, u39, u40, u41, u42, u43, u44, u45, u46, u47, u48, u49, u50, u51, u52, u53, u54, u55, u56, u57, u58, u59, u60, u61, u62, u63, u64, u65, u66, u67, u68, u69, u70, u71, u72, u73, u74, u75, u76, u77, u78, u79, u80, u81, u82, u83, u84, u85, u86, u87, u88, u89, u90, u91, u92, u93, u94, u95, u96, u97, u98, u99, u100, u101, u102, u103, u104, u105, u106, u107, u108, u109, u110, u111, u112, u113, u114, u115, u116, u117, u118, u119, u120, u121, u122, u123, u124, u125, u126, u127, u128, u129, u130, u131, u132, u133, u134, u135, u136, u137, u138, u139, u140, u141, u142, u143, u144, u145, u146, u147, u148, u149, u150, u151, u152, u153, u154, u155, u156, u157, u158, u159, u160, u161, u162, u163, u164, u165, u166, u167, u168, u169, u170], []⟩ x := by
  have HV := hide hv
  have HQ := hide hQ
  have HPS := hide hps
  have HPK := hide hpk
  clear hv hps hpk hQ
  have hn1 := HV.out.ix.n1
  have hn2 := HV.out.ix.n2
  refine tailQ_step rfl ?_
  intro K hK
  go_wp2_with fail
  go_loopw [14] (fun s14 wi => ∃ k : Nat, k ≤ n + 1 ∧ s14 = .int .i64 (k : Int) ∧ Hid (Below x.heap.size x wi)) (fun s14 _ => n + 1 - (intOf s14).toNat)
  case atStart => exact ⟨0, by omega, rfl, Below.refl _ _⟩
  case round =>
    obtain ⟨k, hk, rfl, hB⟩ := hrel
    obtain ⟨v, hv⟩ : ∃ v : World, Hid (v = wr) := ⟨_, rfl⟩
    rw [← hv.out] at hB ⊢
    have V1 := hide (HV.out.later hB.out)
    by_cases hkn : k ≤ n
    · have hki : (k : Int) ≤ n := by omega
      obtain ⟨t0, t1, t2, t3, t4, t5, t6, t7⟩ := V1.out.kb.eight
      obtain ⟨W2, hW2⟩ : ∃ W2 : World, Hid (W2 = v.alloc (.cells #[.int .u8 y.z0, .int .u8 y.z1, .int .u8 y.z2, .int .u8 y.z3, .int .u8 y.z4, .int .u8 y.z5, .int .u8 y.z6, .int .u8 y.z7] 25)) := ⟨_, rfl⟩
      have F2 := hide (show Below v.heap.size v W2 by rw [hW2.out]; exact below_alloc _ _)
      have Y2 := hide (show Bx W2 v.heap.size #[.int .u8 y.z0, .int .u8 y.z1, .int .u8 y.z2, .int .u8 y.z3, .int .u8 y.z4, .int .u8 y.z5, .int .u8 y.z6, .int .u8 y.z7] 25 by rw [hW2.out]; exact Bx.new v _ _)
      go_upto_region 20 with fail
      rw [← hW2.out]
      clear t0 t1 t2 t3 t4 t5 t6 t7
      by_cases hkl : k < n
      · have hkli : (k : Int) < n := by omega
        obtain ⟨z, hz0, y0, y1, y2, y3, y4, y5, y6, y7⟩ := (V1.out.later F2.out).ow.at_ k hkl
        have HZ := hide (V1.out.ix.ok z (List.mem_of_getElem? hz0))
        clear hz0
        obtain ⟨W3, hW3⟩ : ∃ W3 : World, Hid (W3 = (((((((W2.setCell ⟨v.heap.size, 0, none⟩ (.int .u8 z.z0)).setCell ⟨v.heap.size, 1, none⟩ (.int .u8 z.z1)).setCell ⟨v.heap.size, 2, none⟩ (.int .u8 z.z2)).setCell ⟨v.heap.size, 3, none⟩ (.int .u8 z.z3)).setCell ⟨v.heap.size, 4, none⟩ (.int .u8 z.z4)).setCell ⟨v.heap.size, 5, none⟩ (.int .u8 z.z5)).setCell ⟨v.heap.size, 6, none⟩ (.int .u8 z.z6)).setCell ⟨v.heap.size, 7, none⟩ (.int .u8 z.z7)) := ⟨_, rfl⟩
        have F3 := hide (show Below v.heap.size v W3 by rw [hW3.out]; exact fill_below F2.out (Nat.le_refl _) z)
        have Z2 := hide (show Bx W3 v.heap.size #[.int .u8 z.z0, .int .u8 z.z1, .int .u8 z.z2, .int .u8 z.z3, .int .u8 z.z4, .int .u8 z.z5, .int .u8 z.z6, .int .u8 z.z7] 25 by rw [hW3.out]; exact bx_fill Y2.out z)
        have V2 := hide (V1.out.later F3.out)
        obtain ⟨t0, t1, t2, t3, t4, t5, t6, t7⟩ := Y2.out.eight
        have tz := Y2.out.frozen
        go_upto_region 22 with fail
        rw [← hW3.out]
        clear t0 t1 t2 t3 t4 t5 t6 t7 tz y0 y1 y2 y3 y4 y5 y6 y7
        obtain ⟨t0, t1, t2, t3, t4, t5, t6, t7⟩ := Z2.out.eight
        go_wp2_with fail
        clear t0 t1 t2 t3 t4 t5 t6 t7
        obtain ⟨j1, hj1⟩ : ∃ j1 : Int, Hid (j1 = Mx.fndA l z) := ⟨_, rfl⟩
        obtain ⟨j2, hj2⟩ : ∃ j2 : Int, Hid (j2 = Mx.firstI l z) := ⟨_, rfl⟩
        obtain ⟨bb, hbb⟩ : ∃ bb : Bool, Hid (bb = decide (z ∈ l)) := ⟨_, rfl⟩
        refine (cfind_any B W3 g n b c m es ck l V2.out.ix V2.out.tb (Nat.lt_of_lt_of_le V2.out.w0 V2.out.bel.size) z HZ.out).mono ?_
        rintro e w3 ⟨rfl, E3⟩
        have V3 := hide (V2.out.later E3)
        have V3b := hide E3
        have Z3 := hide (Z2.out.later E3 Z2.out.lt)
        clear E3
        obtain ⟨t0, t1, t2, t3, t4, t5, t6, t7⟩ := Z3.out.eight
        rw [← hj1.out, ← hbb.out]
        go_wp2_with fail
        refine (first_any (some ⟨la, 0, none⟩) n lc l z w3 (own_bl V3.out.ow)).mono ?_
        rintro e w4 ⟨rfl, E4⟩
        have V4 := hide (V3.out.later E4)
        have V4b := hide E4
        clear E4 t0 t1 t2 t3 t4 t5 t6 t7
        have hB4 := hide (show Below x.heap.size x w4 from hB.out.trans ((F3.out.trans ((V3b.out.trans (V4b.out.mono V3b.out.size)).mono F3.out.size)).mono hB.out.size))
        rw [← hj2.out]
        by_cases hm : z ∈ l
        · obtain ⟨j, hj, _, _⟩ := Mx.first_has hm
          obtain rfl : j1 = (j : Int) := by rw [hj1.out]; unfold Mx.fndA; rw [if_pos hm, hj]
          obtain rfl : j2 = (j : Int) := by rw [hj2.out, hj]
          obtain rfl : bb = true := by rw [hbb.out, decide_eq_true hm]
          clear hm hj hj1 hj2 hbb
          have e1 : decide ((0 : Int) ≤ (j : Int)) = true := by simp
          have e2 : bne (j : Int) (j : Int) = false := by simp
          have e3 : bne j j = false := by simp
          go_wp2_with fail
          exact ⟨⟨k + 1, by omega, by go_num, hB4⟩, by simp [intOf]; omega⟩
        · obtain rfl : j1 = 0 := by rw [hj1.out]; unfold Mx.fndA; rw [if_neg hm]
          obtain rfl : j2 = -1 := by rw [hj2.out]; unfold Mx.firstI; rw [if_neg hm]
          obtain rfl : bb = false := by rw [hbb.out, decide_eq_false hm]
          clear hm hj1 hj2 hbb
          go_wp2_with fail
          exact ⟨⟨k + 1, by omega, by go_num, hB4⟩, by simp [intOf]; omega⟩
      · have hkl2 : ¬ (k : Int) < n := by omega
        obtain ⟨z, hzy⟩ : ∃ z : B8, Hid (z = y) := ⟨_, rfl⟩
        rw [← hzy.out] at Y2
        have HZ := hide (show z.ok by rw [hzy.out]; exact V1.out.yo)
        have Z2 := hide Y2.out
        have V2 := hide (V1.out.later F2.out)
        obtain ⟨t0, t1, t2, t3, t4, t5, t6, t7⟩ := Z2.out.eight
        go_wp2_with fail
        clear t0 t1 t2 t3 t4 t5 t6 t7
        obtain ⟨j1, hj1⟩ : ∃ j1 : Int, Hid (j1 = Mx.fndA l z) := ⟨_, rfl⟩
        obtain ⟨j2, hj2⟩ : ∃ j2 : Int, Hid (j2 = Mx.firstI l z) := ⟨_, rfl⟩
        obtain ⟨bb, hbb⟩ : ∃ bb : Bool, Hid (bb = decide (z ∈ l)) := ⟨_, rfl⟩
        refine (cfind_any B W2 g n b c m es ck l V2.out.ix V2.out.tb (Nat.lt_of_lt_of_le V2.out.w0 V2.out.bel.size) z HZ.out).mono ?_
        rintro e w3 ⟨rfl, E3⟩
        have V3 := hide (V2.out.later E3)
        have V3b := hide E3
        have Z3 := hide (Z2.out.later E3 Z2.out.lt)
        clear E3
        obtain ⟨t0, t1, t2, t3, t4, t5, t6, t7⟩ := Z3.out.eight
        rw [← hj1.out, ← hbb.out]
        go_wp2_with fail
        refine (first_any (some ⟨la, 0, none⟩) n lc l z w3 (own_bl V3.out.ow)).mono ?_
        rintro e w4 ⟨rfl, E4⟩
        have V4 := hide (V3.out.later E4)
        have V4b := hide E4
        clear E4 t0 t1 t2 t3 t4 t5 t6 t7
        have hB4 := hide (show Below x.heap.size x w4 from hB.out.trans ((F2.out.trans ((V3b.out.trans (V4b.out.mono V3b.out.size)).mono F2.out.size)).mono hB.out.size))
        rw [← hj2.out]
        by_cases hm : z ∈ l
        · obtain ⟨j, hj, _, _⟩ := Mx.first_has hm
          obtain rfl : j1 = (j : Int) := by rw [hj1.out]; unfold Mx.fndA; rw [if_pos hm, hj]
          obtain rfl : j2 = (j : Int) := by rw [hj2.out, hj]
          obtain rfl : bb = true := by rw [hbb.out, decide_eq_true hm]
          clear hm hj hj1 hj2 hbb
          have e1 : decide ((0 : Int) ≤ (j : Int)) = true := by simp
          have e2 : bne (j : Int) (j : Int) = false := by simp
          have e3 : bne j j = false := by simp
          go_wp2_with fail
          exact ⟨⟨k + 1, by omega, by go_num, hB4⟩, by simp [intOf]; omega⟩
        · obtain rfl : j1 = 0 := by rw [hj1.out]; unfold Mx.fndA; rw [if_neg hm]
          obtain rfl : j2 = -1 := by rw [hj2.out]; unfold Mx.firstI; rw [if_neg hm]
          obtain rfl : bb = false := by rw [hbb.out, decide_eq_false hm]
          clear hm hj1 hj2 hbb
          go_wp2_with fail
          exact ⟨⟨k + 1, by omega, by go_num, hB4⟩, by simp [intOf]; omega⟩
    · obtain rfl : k = n + 1 := by omega
      go_wp2_with fail
      exact Met.intro (cc1 V1.out HPS.out HPK.out hi HQ.out)


end Go.Proofs.YtfbmaemnbolplaaDoor

/-
  CacheSays: the law.
-/
namespace Go.Proofs.YtfbmaemnbolplaaDoor
open Go.RowKit

set_option maxHeartbeats 16000000 in
set_option maxRecDepth 100000 in
theorem csays_long (a pa : Option Addr) (n c0 pn pc : Nat) (y : B8) (w : World) (hl : 100 < n ∨ 200 < pn) :
    Calls Tryd.prog 3 #[.slice a n c0, .slice pa pn pc, .agg #[.int .u8 y.z0, .int .u8 y.z1, .int .u8 y.z2, .int .u8 y.z3, .int .u8 y.z4, .int .u8 y.z5, .int .u8 y.z6, .int .u8 y.z7]] w (fun e w' => e = .returned (.bool true) ∧ Below w.heap.size w w') := by
  obtain ⟨W1, hW1⟩ : ∃ W1 : World, Hid (W1 = w.alloc (.cells #[.int .u8 y.z0, .int .u8 y.z1, .int .u8 y.z2, .int .u8 y.z3, .int .u8 y.z4, .int .u8 y.z5, .int .u8 y.z6, .int .u8 y.z7] 25)) := ⟨_, rfl⟩
  have F1 := hide (show Below w.heap.size w W1 by rw [hW1.out]; exact below_alloc _ _)
  by_cases h1 : 100 < n
  · have d1 : decide ((100 : Int) < n) = true := by simp; omega
    have d1n : decide (100 < n) = true := by simpa using h1
    clear hl h1
    go_enter Tryd.func3, Tryd.ntmps3
    change TailG Tryd.f3 _ 0 _ w
    refine tailG_step rfl ?_
    intro K hK
    go_wp2_with fail
    rw [← hW1.out]
    refine Met.intro (tailG_step rfl ?_)
    try clear hK
    try clear K
    intro K hK
    go_wp2_with fail
    exact bodyPost_ret (v := .bool true) (by simp [results, Tryd.results3, go_sem]) rfl ⟨rfl, F1.out⟩
  · have d1 : decide ((100 : Int) < n) = false := by simp; omega
    have d1n : decide (100 < n) = false := by simpa using h1
    have d2 : decide ((200 : Int) < pn) = true := by simp; omega
    have d2n : decide (200 < pn) = true := by simp; omega
    clear hl h1
    go_enter Tryd.func3, Tryd.ntmps3
    change TailG Tryd.f3 _ 0 _ w
    refine tailG_step rfl ?_
    intro K hK
    go_wp2_with fail
    rw [← hW1.out]
    refine Met.intro (tailG_step rfl ?_)
    try clear hK
    try clear K
    intro K hK
    go_wp2_with fail
    exact bodyPost_ret (v := .bool true) (by simp [results, Tryd.results3, go_sem]) rfl ⟨rfl, F1.out⟩

theorem own_lower {w : World} {base base' : Nat} {v : Value} {l : List B8} (h : OwnBL w base v l) (hb : base' ≤ base) : OwnBL w base' v l := by
  obtain ⟨p, q | ⟨g, cap, cur, hv, h1, rest⟩⟩ := h
  · exact ⟨p, .inl q⟩
  · exact ⟨p, .inr ⟨g, cap, cur, hv, Nat.le_trans hb h1, rest⟩⟩

set_option maxHeartbeats 16000000 in
set_option maxRecDepth 100000 in
theorem cs9 {w x : World} {p5 B g n b c m la lc pn pc : Nat} {pa : Option Addr} {y : B8} {ps : List Pt} {es : List MapEntry} {ck : Nat} {l : List B8} (hv : CV w x p5 B g n b c m es ck la lc l y) (hps : PL w pa pn ps) (hpk : ∀ q ∈ ps, q.d.ok) (h2 : pn ≤ 200) {u0 u2 u3 u4 u6 u7 u8 u9 u11 u13 u14 u15 u16 u17 u18 u19 u20 u21 u22 u23 u24 u25 u26 u27 u28 u29 u30 u31 u32 u33 u34 u35 u36 u37 u38 u39 u40 u41 u42 u43 u44 u45 u46 u47 u48 u49 u50 u51 u52 u53 u54 u55 u56 u57 u58 u59 u60 u61 u62 u63 u64 u65 u66 u67 u68 u69 u70 u71 u72 u73 u74 u75 u76 u77 u78 u79 u80 u81 u82 u83 u84 u85 u86 u87 u88 u89 u90 u91 u92 u93 u94 u95 u96 u97 u98 u99 u100 u101 u102 u103 u104 u105 u106 u107 u108 u109 u110 u111 u112 u113 u114 u115 u116 u117 u118 u119 u120 u121 u122 u123 u124 u125 u126 u127 u128 u129 u130 u131 u132 u133 u134 u135 u136 u137 u138 u139 u140 u141 u142 u143 u144 u145 u146 u147 u148 u149 u150 u151 u152 u153 u154 u155 u156 u157 u158 u159 u160 u161 u162 u163 u164 u165 u166 u167 u168 u169 u170 : Value} :
    TailG Tryd.f3 (fun e w' => e = .returned (.bool true) ∧ Below w.heap.size w w') 9 ⟨#[u0, .slice pa pn pc, u2, u3, u4, .pointer (some ⟨p5, 0, none⟩), u6, u7, u8, u9, .pointer (some ⟨g, 0, none⟩), u11, .slice (some ⟨la, 0, none⟩) n lc, u13, u14, u15, u16, u17, u18, u19, u20, u21, u22, u23, u24, u25, u26, u27, u28, u29, u30, u31, u32, u33, u34, u35, u36, u37, u38, u39, u40, u41, u42, u43, u44, u45, u46, u47, u48, u49, u50, u51, u52, u53, u54, u55, u56, u57, u58, u59, u60, u61, u62, u63, u64, u65, u66, u67, u68, u69, u70, u71, u72, u73, u74, u75, u76, u77, u78, u79, u80, u81, u82, u83, u84, u85, u86, u87, u88, u89, u90, u91, u92, u93, u94, u95, u96, u97, u98, u99, u100, u101, u102, u103, u104, u105, u106, u107, u108, u109, u110, u111, u112, u113, u114, u115, u116, u117, u118, u119, u120, u121, u122, u123, u124, u125, u126, u127, u128, u129, u130, u131, u132, u133, u134, u135, u136, u137, u138, u139, u140, u141, u142, u143, u144, u145, u146, u147, u148, u149, u150, u151, u152, u153, u154, u155, u156, u157, u158, u159, u160, u161, u162, u163, u164, u165, u166, u167, u168, u169, u170], []⟩ x := by
  have V6 := hide hv
  have HP := hide hps
  have HPK := hide hpk
  clear hv hps hpk
  refine tailG_step rfl ?_
  intro K hK
  go_wp2_with fail
  go_loopw [13] (fun s13 wr => ∃ (i : Nat) (es : List MapEntry) (ck : Nat) (l' : List B8), s13 = .int .i64 (i : Int) ∧ i ≤ pn + 1 ∧ (i ≤ pn) ∧ Hid (CV w wr p5 B g n b c m es ck la lc l' y)) (fun s13 _ => pn + 1 - (intOf s13).toNat)
  case atStart => exact ⟨0, es, ck, l, rfl, by omega, by omega, V6⟩
  case round =>
    obtain ⟨i, es, ck, l', rfl, hi1, hi, HV⟩ := hrel
    obtain ⟨v, hv⟩ : ∃ v : World, Hid (v = wr) := ⟨_, rfl⟩
    rw [← hv.out] at HV ⊢
    have hii : (i : Int) ≤ pn := by omega
    refine seq_step ?_
    intro K1 hK1
    go_wp2_with fail
    refine Met.intro (seq_step ?_)
    intro K2 hK2
    refine wp_block ?_
    refine (show TailQ (bodyG (fstG (itsG 9 (Tryd.f3.body.getD .skip)))) _ 0 _ v from cc0 HV.out HP.out HPK.out hi ?_)
    intro es' ck' l2 x' v6 v14 v15 v16 v17 v18 v19 v20 v86 v87 v88 v89 v90 v91 v92 v93 v94 v95 v96 v97 v98 v99 v100 v101 v102 v103 v104 v105 v106 v107 v108 v109 v110 v111 v112 v113 v114 v115 v116 v117 v118 v119 v120 v121 v122 v123 v124 v125 v126 v127 v128 v129 v130 v131 v132 v133 v134 v135 v136 v137 v138 v139 v140 v141 v142 v143 v144 v145 v146 v147 v148 v149 v150 v151 v152 v153 v154 v155 v156 v157 v158 v159 v160 v161 v162 v163 v164 v165 v166 v167 v168 v169 v170 V' hlt
    have VV := hide V'
    clear V'
    refine hK2 _ _ (Met.intro ?_)
    clear hK2
    show Code.wp _ _ _ _ _
    go_wp2_with fail
    exact ⟨⟨i + 1, es', ck', l2, by go_num, by omega, by omega, VV⟩, by simp [intOf]; omega⟩

set_option maxHeartbeats 16000000 in
set_option maxRecDepth 100000 in
theorem cs5 {w W1 w4 : World} {a pa : Option Addr} {n c0 pn pc : Nat} {l : List B8} {ps : List Pt} {y : B8} (hl : BL w a n l) (hok : ∀ x ∈ l, x.ok) (hps : PL w pa pn ps) (hpk : ∀ q ∈ ps, q.d.ok) (hy : y.ok) (ht : Tb w) (hw0 : 0 < w.heap.size) (h1 : n ≤ 100) (h2 : pn ≤ 200) (hY1 : Bx W1 w.heap.size #[.int .u8 y.z0, .int .u8 y.z1, .int .u8 y.z2, .int .u8 y.z3, .int .u8 y.z4, .int .u8 y.z5, .int .u8 y.z6, .int .u8 y.z7] 25) (hE14 : Below W1.heap.size W1 w4) (hY4 : Bx w4 w.heap.size #[.int .u8 y.z0, .int .u8 y.z1, .int .u8 y.z2, .int .u8 y.z3, .int .u8 y.z4, .int .u8 y.z5, .int .u8 y.z6, .int .u8 y.z7] 25) (hD4 : Below w.heap.size w w4) {u2 u3 u4 u6 u7 u8 u9 u10 u11 u12 u13 u14 u15 u16 u17 u18 u19 u20 u21 u22 u23 u24 u25 u26 u27 u28 u29 u30 u31 u32 u33 u34 u35 u36 u37 u38 u39 u40 u41 u42 u43 u44 u45 u46 u47 u48 u49 u50 u51 u52 u53 u54 u55 u56 u57 u58 u59 u60 u61 u62 u63 u64 u65 u66 u67 u68 u69 u70 u71 u72 u73 u74 u75 u76 u77 u78 u79 u80 u81 u82 u83 u84 u85 u86 u87 u88 u89 u90 u91 u92 u93 u94 u95 u96 u97 u98 u99 u100 u101 u102 u103 u104 u105 u106 u107 u108 u109 u110 u111 u112 u113 u114 u115 u116 u117 u118 u119 u120 u121 u122 u123 u124 u125 u126 u127 u128 u129 u130 u131 u132 u133 u134 u135 u136 u137 u138 u139 u140 u141 u142 u143 u144 u145 u146 u147 u148 u149 u150 u151 u152 u153 u154 u155 u156 u157 u158 u159 u160 u161 u162 u163 u164 u165 u166 u167 u168 u169 u170 : Value} :
    TailG Tryd.f3 (fun e w' => e = .returned (.bool true) ∧ Below w.heap.size w w') 5 ⟨#[.slice a n c0, .slice pa pn pc, u2, u3, u4, .pointer (some ⟨w.heap.size, 0, none⟩), u6, u7, u8, u9, u10, u11, u12, u13, u14, u15, u16, u17, u18, u19, u20, u21, u22, u23, u24, u25, u26, u27, u28, u29, u30, u31, u32, u33, u34, u35, u36, u37, u38, u39, u40, u41, u42, u43, u44, u45, u46, u47, u48, u49, u50, u51, u52, u53, u54, u55, u56, u57, u58, u59, u60, u61, u62, u63, u64, u65, u66, u67, u68, u69, u70, u71, u72, u73, u74, u75, u76, u77, u78, u79, u80, u81, u82, u83, u84, u85, u86, u87, u88, u89, u90, u91, u92, u93, u94, u95, u96, u97, u98, u99, u100, u101, u102, u103, u104, u105, u106, u107, u108, u109, u110, u111, u112, u113, u114, u115, u116, u117, u118, u119, u120, u121, u122, u123, u124, u125, u126, u127, u128, u129, u130, u131, u132, u133, u134, u135, u136, u137, u138, u139, u140, u141, u142, u143, u144, u145, u146, u147, u148, u149, u150, u151, u152, u153, u154, u155, u156, u157, u158, u159, u160, u161, u162, u163, u164, u165, u166, u167, u168, u169, u170], []⟩ w4 := by
  have HL := hide hl
  have HOK := hide hok
  have HP := hide hps
  have HPK := hide hpk
  have HY := hide hy
  have HT := hide ht
  have Y1 := hide hY1
  have E14 := hide hE14
  have Y4 := hide hY4
  have D4 := hide hD4
  clear hl hok hps hpk hy ht hY1 hE14 hY4 hD4
  refine tailG_step rfl ?_
  intro K hK
  go_wp2_with fail
  by_cases hr : n < 1 ∨ 32 < n
  · have HRR := hide hr
    refine (cnew_err a n c0 w4 HRR.out HL.out.2.2.1).mono ?_
    rintro e wz ⟨rfl, hz⟩
    obtain rfl := hz.symm
    clear hz
    have hze : ∀ (x y : Int) (W : World), (binOp .eql 31 (.iface 34 (.int .i64 x)) (.iface 34 (.int .i64 y))).run Tryd.prog W = .ok (.bool (x == y)) W :=
      fun x y W => Lib.run_eql_iface_int W x y Tryd.underlying31 (by kernel_rfl) Tryd.underlying34
    clear hr
    by_cases hn : n < 1
    · have q1 : decide ((n : Int) < 1) = true := by simp; omega
      have q1n : decide (n < 1) = true := by simpa using hn
      obtain rfl : n = 0 := by omega
      clear hn
      go_wp2_with fail
      refine Met.intro (tailG_step rfl ?_)
      try clear hK
      try clear K
      intro K hK
      go_wp2_with fail
      exact bodyPost_ret (v := .bool true) (by simp [results, Tryd.results3, go_sem]) rfl ⟨rfl, D4.out⟩
    · have q1 : decide ((n : Int) < 1) = false := by simp; omega
      have q1n : decide (n < 1) = false := by simpa using hn
      have q2 : decide ((32 : Int) < n) = true := by have := HRR.out; simp; omega
      have q2n : decide (32 < n) = true := by have := HRR.out; simp; omega
      clear hn
      go_wp2_with fail
      refine Met.intro (tailG_step rfl ?_)
      try clear hK
      try clear K
      intro K hK
      go_wp2_with fail
      exact bodyPost_ret (v := .bool true) (by simp [results, Tryd.results3, go_sem]) rfl ⟨rfl, D4.out⟩
  · have hn1 : 1 ≤ n := by omega
    have hn2 : n ≤ 32 := by omega
    have q1 : decide ((n : Int) < 1) = false := by simp; omega
    have q1n : decide (n < 1) = false := by simp; omega
    have q2 : decide ((32 : Int) < n) = false := by simp; omega
    have q2n : decide (32 < n) = false := by simp; omega
    clear hr
    refine (cnew_ok a n c0 l w4 (HL.out.later D4.out) HOK.out hn1 hn2).mono ?_
    rintro e w5 ⟨g, b, c, m, es, ck, rfl, I5, E5⟩
    have D5 := hide (show Below w.heap.size w w5 from D4.out.trans (E5.out.mono D4.out.size))
    have Y5 := hide (Y4.out.later E5.out Y4.out.lt)
    go_wp2_with fail
    refine Met.intro (tailG_step rfl ?_)
    try clear hK
    try clear K
    intro K hK
    go_wp2_with fail
    refine Met.intro (tailG_step rfl ?_)
    try clear hK
    try clear K
    intro K hK
    go_wp2_with fail
    refine Met.intro (tailG_step rfl ?_)
    try clear hK
    try clear K
    intro K hK
    go_wp2_with fail
    refine (ownBlocks_any a n c0 l w5 (HL.out.later D5.out) (by omega)).mono ?_
    rintro e w6 ⟨v6, rfl, hO6, E6⟩
    obtain ⟨la', lc, hv6, _, _⟩ := hO6.bl
    rw [HL.out.1] at hv6
    subst hv6
    obtain ⟨la, rfl, hla, hlb, _, _⟩ := hO6.form (by omega)
    have D6 := hide E6
    clear E6
    have hbw := hide (show b < w5.heap.size from (by obtain ⟨b', hb', _, h9, _, _⟩ := I5.out.ow.form (by omega); cases hb'; exact h9))
    have hw4 := hide (show w.heap.size < w4.heap.size from Nat.lt_of_lt_of_le Y1.out.lt (E14.out.size))
    have V6 := hide (show CV w w6 w.heap.size w4.heap.size g n b c m es ck la lc l y from
      { ix := I5.out.later D6.out, ow := own_lower hO6 D5.out.size, a1 := by have := I5.out.mp.ltm; omega, a2 := by have := hbw.out; omega, a3 := by have := I5.out.bx.lt; omega,
        kb := Y5.out.later D6.out Y5.out.lt, yo := HY.out, tb := HT.out.later (D5.out.trans (D6.out.mono D5.out.size)) hw0, w0 := hw0, bel := D5.out.trans (D6.out.mono D5.out.size), wB := D4.out.size, p5a := Nat.le_refl _,
        p5m := by have h9 := I5.out.mB; have h8 := hw4.out; omega, p5b := (by obtain ⟨b', hb', h9, _, _, _⟩ := I5.out.ow.form (by omega); cases hb'; have h8 := hw4.out; omega), p5l := by have h8 := hw4.out; have h7 := E5.out.size; omega })
    clear hO6
    go_wp2_with fail
    exact Met.intro (cs9 V6.out HP.out HPK.out h2)

set_option maxHeartbeats 16000000 in
set_option maxRecDepth 100000 in
theorem csays_ok (a pa : Option Addr) (n c0 pn pc : Nat) (l : List B8) (ps : List Pt) (y : B8) (w : World) (hl : BL w a n l) (hok : ∀ x ∈ l, x.ok) (hps : PL w pa pn ps) (hpk : ∀ q ∈ ps, q.d.ok) (hy : y.ok) (ht : Tb w) (hw0 : 0 < w.heap.size) (h1 : n ≤ 100) (h2 : pn ≤ 200) :
    Calls Tryd.prog 3 #[.slice a n c0, .slice pa pn pc, .agg #[.int .u8 y.z0, .int .u8 y.z1, .int .u8 y.z2, .int .u8 y.z3, .int .u8 y.z4, .int .u8 y.z5, .int .u8 y.z6, .int .u8 y.z7]] w (fun e w' => e = .returned (.bool true) ∧ Below w.heap.size w w') := by
  have d1 : decide ((100 : Int) < n) = false := by simp; omega
  have d1n : decide (100 < n) = false := by simp; omega
  have d2 : decide ((200 : Int) < pn) = false := by simp; omega
  have d2n : decide (200 < pn) = false := by simp; omega
  have HL := hide hl
  have HOK := hide hok
  have HP := hide hps
  have HPK := hide hpk
  have HY := hide hy
  have HT := hide ht
  clear hl hok hps hpk hy ht
  obtain ⟨W1, hW1⟩ : ∃ W1 : World, Hid (W1 = w.alloc (.cells #[.int .u8 y.z0, .int .u8 y.z1, .int .u8 y.z2, .int .u8 y.z3, .int .u8 y.z4, .int .u8 y.z5, .int .u8 y.z6, .int .u8 y.z7] 25)) := ⟨_, rfl⟩
  have F1 := hide (show Below w.heap.size w W1 by rw [hW1.out]; exact below_alloc _ _)
  have Y1 := hide (show Bx W1 w.heap.size #[.int .u8 y.z0, .int .u8 y.z1, .int .u8 y.z2, .int .u8 y.z3, .int .u8 y.z4, .int .u8 y.z5, .int .u8 y.z6, .int .u8 y.z7] 25 by rw [hW1.out]; exact Bx.new w _ _)
  go_enter Tryd.func3, Tryd.ntmps3
  change TailG Tryd.f3 _ 0 _ w
  refine tailG_step rfl ?_
  intro K hK
  go_wp2_with fail
  rw [← hW1.out]
  refine Met.intro (tailG_step rfl ?_)
  try clear hK
  try clear K
  intro K hK
  go_wp2_with fail
  refine Met.intro (tailG_step rfl ?_)
  try clear hK
  try clear K
  intro K hK
  obtain ⟨t0, t1, t2, t3, t4, t5, t6, t7⟩ := Y1.out.eight
  go_wp2_with fail
  obtain ⟨j1, hj1⟩ : ∃ j1 : Int, Hid (j1 = Mx.fndA l y) := ⟨_, rfl⟩
  obtain ⟨j2, hj2⟩ : ∃ j2 : Int, Hid (j2 = Mx.firstI l y) := ⟨_, rfl⟩
  obtain ⟨bb, hbb⟩ : ∃ bb : Bool, Hid (bb = decide (y ∈ l)) := ⟨_, rfl⟩
  refine (cfindf_any a n c0 l y W1 (HL.out.later F1.out)).mono ?_
  rintro e w3 ⟨rfl, E3⟩
  have E13 := hide E3
  have Y3 := hide (Y1.out.later E3 Y1.out.lt)
  clear E3 t0 t1 t2 t3 t4 t5 t6 t7
  rw [← hj1.out, ← hbb.out]
  go_wp2_with fail
  refine Met.intro (tailG_step rfl ?_)
  try clear hK
  try clear K
  intro K hK
  obtain ⟨t0, t1, t2, t3, t4, t5, t6, t7⟩ := Y3.out.eight
  go_wp2_with fail
  refine (first_any a n c0 l y w3 (HL.out.later (F1.out.trans (E13.out.mono F1.out.size)))).mono ?_
  rintro e w4 ⟨rfl, E4⟩
  have E14 := hide (show Below W1.heap.size W1 w4 from E13.out.trans (E4.mono E13.out.size))
  have Y4 := hide (Y3.out.later E4 Y3.out.lt)
  have D4 := hide (show Below w.heap.size w w4 from F1.out.trans (E14.out.mono F1.out.size))
  clear E4 t0 t1 t2 t3 t4 t5 t6 t7
  rw [← hj2.out]
  go_wp2_with fail
  refine Met.intro (tailG_step rfl ?_)
  try clear hK
  try clear K
  intro K hK
  by_cases hm : y ∈ l
  · obtain ⟨j, hj, _, _⟩ := Mx.first_has hm
    obtain rfl : j1 = (j : Int) := by rw [hj1.out]; unfold Mx.fndA; rw [if_pos hm, hj]
    obtain rfl : j2 = (j : Int) := by rw [hj2.out, hj]
    obtain rfl : bb = true := by rw [hbb.out, decide_eq_true hm]
    clear hm hj hj1 hj2 hbb
    have e1 : decide ((0 : Int) ≤ (j : Int)) = true := by simp
    have e2 : bne (j : Int) (j : Int) = false := by simp
    have e3 : bne j j = false := by simp
    go_wp2_with fail
    exact Met.intro (cs5 HL.out HOK.out HP.out HPK.out HY.out HT.out hw0 h1 h2 Y1.out E14.out Y4.out D4.out)
  · obtain rfl : j1 = 0 := by rw [hj1.out]; unfold Mx.fndA; rw [if_neg hm]
    obtain rfl : j2 = -1 := by rw [hj2.out]; unfold Mx.firstI; rw [if_neg hm]
    obtain rfl : bb = false := by rw [hbb.out, decide_eq_false hm]
    clear hm hj1 hj2 hbb
    go_wp2_with fail
    exact Met.intro (cs5 HL.out HOK.out HP.out HPK.out HY.out HT.out hw0 h1 h2 Y1.out E14.out Y4.out D4.out)

theorem csays_any (a pa : Option Addr) (n c0 pn pc : Nat) (l : List B8) (ps : List Pt) (y : B8) (w : World) (hl : BL w a n l) (hok : ∀ x ∈ l, x.ok) (hps : PL w pa pn ps) (hpk : ∀ q ∈ ps, q.d.ok) (hy : y.ok) (ht : Tb w) (hw0 : 0 < w.heap.size) :
    Calls Tryd.prog 3 #[.slice a n c0, .slice pa pn pc, .agg #[.int .u8 y.z0, .int .u8 y.z1, .int .u8 y.z2, .int .u8 y.z3, .int .u8 y.z4, .int .u8 y.z5, .int .u8 y.z6, .int .u8 y.z7]] w (fun e w' => e = .returned (.bool true) ∧ Below w.heap.size w w') := by
  by_cases h : 100 < n ∨ 200 < pn
  · exact csays_long a pa n c0 pn pc y w h
  · exact csays_ok a pa n c0 pn pc l ps y w hl hok hps hpk hy ht hw0 (by omega) (by omega)


end Go.Proofs.YtfbmaemnbolplaaDoor
