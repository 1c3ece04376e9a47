/-
  The law EpochSays in parts: what is dropped, and what was since.
-/
import Derived.Deep.RegionLaw
import Derived.Test.YtkebmfocgalinabZSums
import Derived.Test.YtkebmfocgalinabZDbox
import Derived.Test.YtkebmfocgalinabZEl
import Derived.Test.YtkebmfocgalinabZEz

namespace Go.Proofs.Ytkebmfocgalinab
open Go.RowKit

theorem OwnEL.grownBy {w w' : World} {base : Nat} {v : Value} {es : List Ep} {g : Nat} {c0 : Value} {a1 a2 : Option Addr} {n1 k1 n2 k2 : Nat} {be : Bool} {t : TypeId} (h : OwnEL 0 w base v es) (hb : Bx w g #[c0, .slice a1 n1 k1, .slice a2 n2 k2, .bool be] t)
    (hr : v.ownBlock ≠ some g) (hg : w.grownBy w' (some g)) : OwnEL 0 w' base v es := by
  obtain ⟨vs, h1, h2⟩ := h
  refine ⟨vs, h1.kept hg (.inr hr), fun i e he => ?_⟩
  obtain ⟨ai, ni, ci, e1, e2, e3, e4, e5⟩ := h2 i e he
  exact ⟨ai, ni, ci, e1, e2, e3.grownBy hg (e3.off_box hb), e4, e5⟩

theorem ez_epA {base : Nat} {ops : Array Oper} {o : Oper} {a : Act} {w : World} {K : Act → World → Prop} {Q : Exit → Act → World → Prop} {E : Prop} (hgd : o.guard = none) (s y : Operand)
    (ho : o.op = Op.call { callee := Callee.builtin Builtin.append, args := #[s, y], argTypes := #[23, 23] }) (h0 : Nat) {v : Value} {es : List Ep}
    (hs : a.eval s = v) (hO : OwnEL 0 w base v es) (hy : a.eval y = .slice (some ⟨h0, 0, none⟩) 1 1) {z : Int} {oa : Option Addr} {on oc : Nat} {ps : List Pt} (hB : Bx w h0 #[.int .i64 z, .slice oa on oc] 42)
    (hp : PL w oa on ps) (hoc : on ≤ oc) (hlt : 0 < on → ∀ p, oa = some p → p.block < base) (hbase : base ≤ w.heap.size) (hl : es.length ≤ 1000)
    (hK : ∀ a' c' w', Hid (OwnEL 0 w' base (.slice a' (es.length + 1) c') (es ++ [⟨z, ps⟩])) → Hid (w.grownBy w' v.ownBlock) → Hid ((Value.slice a' (es.length + 1) c').ownBlock = v.ownBlock ∨ (Value.slice a' (es.length + 1) c').ownBlock = some w.heap.size) → K (a.put o.dst (.slice a' (es.length + 1) c')) w') :
    if Region.wanted o (yielded ops a.tmps) = true then Oper.wp Try.prog o a w K Q else E := by
  subst hs
  have hw : Region.wanted o (yielded ops a.tmps) = true := by simp [Region.wanted, hgd]
  rw [if_pos hw]
  have hOL := hO.lt
  obtain ⟨vs, h1, h2⟩ := hO
  obtain ⟨i0, hi0, hz0, hz1, hz2⟩ := info_parts Try.info42
  obtain ⟨v', w', hr, hown', hg, _, hat⟩ := run_append_own_at (P := Try.prog) w base 23 o.type 42 i0 _ 2 32 Try.underlying23 hi0 hz0 hz1 hz2 rfl (by decide) (a.eval s) es.length vs h1 ⟨h0, 0, none⟩ 1 1 [.int .i64 z, .slice oa on oc] rfl (fun j u hj => by
    rw [Addr.add_lit, Nat.zero_add, hB.cell j]
    simpa using hj) (by simp [Value.oneCell']) (by unfold maxLen; omega) (by omega) hbase
  have hes : Eps 0 w [.int .i64 z, .slice oa on oc] [⟨z, ps⟩] (a.eval s).ownBlock := by
    intro i e he
    match i, he with
    | 0, he =>
      simp at he
      subst he
      exact ⟨oa, on, oc, rfl, rfl, hp, hoc, fun hn p hpa => ⟨fun e => by have h3 := (hOL _ e).1; have h4 := hlt hn p hpa; omega, Nat.zero_le _⟩⟩
    | i + 1, he => simp at he
  unfold Oper.wp execOp
  simp only [ho, resolve, invoke, builtin, Sem.run_bind, Sem.run_pure, Result.andThen_ok, List.map_toArray, List.map_cons, List.map_nil, hy, hr]
  have hE := eps_after h1 h2 hes rfl hown' hg hat
  obtain ⟨a', c', rfl, h3, h4⟩ := hE.el
  rw [List.length_append, List.length_singleton] at *
  exact hK a' c' w' hE hg hat

/-- behind some rounds of the loop -/
def LpS (base g : Nat) (num : Int) (oa : Option Addr) (on oc : Nat) (bb : Bool) (qa : Option Addr) (qn : Nat) (za : Option Addr) (zn zk : Nat) (y : World) (P : List Pt) (E : List Ep) : Prop :=
  PL y qa qn P ∧ OwnEL 0 y base (.slice za zn zk) E ∧ Bx y g #[.int .i64 num, .slice oa on oc, .slice za zn zk, .bool bb] 25 ∧ (0 < qn → ∀ p, qa = some p → (Value.slice za zn zk).ownBlock ≠ some p.block) ∧ base ≤ y.heap.size

theorem LpS.put {base g : Nat} {num : Int} {oa : Option Addr} {on oc : Nat} {bb : Bool} {qa : Option Addr} {qn : Nat} {za : Option Addr} {zn zk : Nat} {y y' : World} {P P' : List Pt} {E : List Ep} {a' : Option Addr} {n' c' : Nat}
    (h : LpS base g num oa on oc bb qa qn za zn zk y P E) (hO : OwnPL y' y.heap.size (.slice a' n' c') P') (hB : Below y.heap.size y y') : LpS base g num oa on oc bb a' n' za zn zk y' P' E := by
  obtain ⟨_, h2, h3, _, h5⟩ := h
  obtain ⟨p1, _, p3⟩ := hO.full
  exact ⟨p1, h2.later hB, h3.later hB h3.lt, fun _ p hp e => by have q1 := p3 p hp; have q2 := (h2.lt _ e).2; omega, by have := hB.size; omega⟩

theorem LpS.mid {base g : Nat} {num : Int} {oa : Option Addr} {on oc : Nat} {bb : Bool} {qa : Option Addr} {qn : Nat} {za : Option Addr} {zn zk : Nat} {y W w' : World} {P : List Pt} {E : List Ep}
    (h : LpS base g num oa on oc bb qa qn za zn zk y P E) (hg : g < base) (hW : Below y.heap.size y W) (hG : W.grownBy w' (Value.slice za zn zk).ownBlock) : Bx w' g #[.int .i64 num, .slice oa on oc, .slice za zn zk, .bool bb] 25 := by
  obtain ⟨h1, h2, h3, h4, h5⟩ := h
  have hgne : (Value.slice za zn zk).ownBlock ≠ some g := fun e => by have := (h2.lt _ e).1; omega
  have hb := h3.later hW h3.lt
  exact (hG.block g hb.lt (fun e => hgne e.symm)).trans hb

theorem LpS.ep {base g : Nat} {num : Int} {oa : Option Addr} {on oc : Nat} {bb : Bool} {qa : Option Addr} {qn : Nat} {za : Option Addr} {zn zk : Nat} {y W w' : World} {P : List Pt} {E E' : List Ep} {a' : Option Addr} {n' c' : Nat}
    (h : LpS base g num oa on oc bb qa qn za zn zk y P E) (hg : g < base) (hW : Below y.heap.size y W) (hO : OwnEL 0 w' base (.slice a' n' c') E') (hG : W.grownBy w' (Value.slice za zn zk).ownBlock)
    (hat : (Value.slice a' n' c').ownBlock = (Value.slice za zn zk).ownBlock ∨ (Value.slice a' n' c').ownBlock = some W.heap.size) :
    LpS base g num oa on oc bb qa qn a' n' c' (w'.setCell ⟨g, 2, none⟩ (.slice a' n' c')) P E' := by
  obtain ⟨h1, h2, h3, h4, h5⟩ := h
  have hgne : (Value.slice za zn zk).ownBlock ≠ some g := fun e => by have := (h2.lt _ e).1; omega
  have hgne' : (Value.slice a' n' c').ownBlock ≠ some g := fun e => by have := (hO.lt _ e).1; omega
  have x1 : Bx w' g #[.int .i64 num, .slice oa on oc, .slice za zn zk, .bool bb] 25 := by
    have hb := h3.later hW h3.lt
    exact (hG.block g hb.lt (fun e => hgne e.symm)).trans hb
  have p1 : PL w' qa qn P := (h1.later hW).grownBy hG (fun h0 p hp => h4 h0 p hp)
  have gs := grow_set (grow_refl w' (some g)) 2 (.slice a' n' c')
  refine ⟨p1.grownBy gs (p1.off_box x1), hO.grownBy x1 hgne' gs, x1.set 2 _, fun h0 p hp e => ?_, ?_⟩
  · rcases hat with q | q
    · exact h4 h0 p hp (q.symm.trans e)
    · rw [q] at e
      have e' : W.heap.size = p.block := Option.some.inj e
      have q1 := h1.off hW.size h0 p hp
      omega
  · have q1 := hW.size
    have q2 := hG.size
    have q3 := gs.size
    omega

theorem LpS.four {base g : Nat} {num : Int} {oa : Option Addr} {on oc : Nat} {bb : Bool} {qa : Option Addr} {qn : Nat} {za : Option Addr} {zn zk : Nat} {y : World} {P : List Pt} {E : List Ep} (h : LpS base g num oa on oc bb qa qn za zn zk y P E) :
    Bx y g #[.int .i64 num, .slice oa on oc, .slice za zn zk, .bool bb] 25 := h.2.2.1

theorem LpS.below {v : World} {base g : Nat} {num : Int} {oa : Option Addr} {on oc : Nat} {bb : Bool} {qa : Option Addr} {qn : Nat} {za : Option Addr} {zn zk : Nat} {y W w' : World} {P : List Pt} {E : List Ep} {u : Value}
    (h : LpS base g num oa on oc bb qa qn za zn zk y P E) (hv : v.heap.size ≤ g) (hg : g < base) (hD : Below v.heap.size v y) (hW : Below y.heap.size y W) (hG : W.grownBy w' (Value.slice za zn zk).ownBlock) :
    Below v.heap.size v (w'.setCell ⟨g, 2, none⟩ u) := by
  have hD2 := hD.trans (hW.mono hD.size)
  exact (hD2.grown hG hD2.size (fun i hi => by have := (h.2.1.lt i hi).1; omega)).setCell (p := ⟨g, 2, none⟩) hv _

namespace Mx
def fil (es : List Ep) (k : Int) (j : Nat) : List Ep := (es.take j).filter (fun e => decide (k < e.num))

theorem fil_no {es : List Ep} {k : Int} {j : Nat} {e : Ep} (h : es[j]? = some e) (hk : e.num ≤ k) : fil es k (j + 1) = fil es k j := by
  unfold fil
  rw [getElem_take_succ _ _ _ h, List.filter_append, List.filter_cons, if_neg (by simpa using hk)]
  simp

theorem fil_yes {es : List Ep} {k : Int} {j : Nat} {e : Ep} (h : es[j]? = some e) (hk : ¬ e.num ≤ k) : fil es k (j + 1) = fil es k j ++ [e] := by
  unfold fil
  rw [getElem_take_succ _ _ _ h, List.filter_append, List.filter_cons, if_pos (by simpa using hk)]
  simp

theorem fil_len {es : List Ep} {k : Int} {j : Nat} : (fil es k j).length ≤ es.length := by
  unfold fil
  exact Nat.le_trans (List.length_filter_le _ _) (List.length_take_le' _ _)

theorem putsOf_snoc (es : List Ep) (e : Ep) : putsOf (es ++ [e]) = e.puts.foldl putR (putsOf es) := by
  unfold putsOf
  rw [List.flatMap_append, List.foldl_append]
  simp

theorem fil_rk {b : Bu} {n k : Int} {j : Nat} (h : goodB b n = true) (hn : n ≤ 32) : Rk 0 (putsOf (fil b.se k j)) := by
  unfold putsOf
  refine rk_foldl trivial (fun q hq => ?_)
  obtain ⟨e, he, hq'⟩ := List.mem_flatMap.1 hq
  obtain ⟨i, hi⟩ := List.mem_iff_getElem?.1 (List.mem_of_mem_take (List.mem_filter.1 he).1)
  exact rk_mem (rk_of (folB_at (goodB_parts h).2.2 hi).1 hn) q hq'

theorem ep_at {b : Bu} {n : Int} {j : Nat} {e : Ep} (h : goodB b n = true) (hn : n ≤ 32) (hx : b.se[j]? = some e) : ∀ q ∈ e.puts, 0 ≤ q.at_ ∧ q.at_ < 32 :=
  fun q hq => rk_mem (rk_of (folB_at (goodB_parts h).2.2 hx).1 hn) q hq
end Mx

theorem put_at (a : Option Addr) (m c : Nat) (l : List Pt) (px : Int) (pd : B8) (w : World) (hp : PL w a m l) (hm : m ≤ 1000) :
    Calls Try.prog 19 #[.slice a m c, .agg #[.int .i64 px, .int .u8 pd.z0, .int .u8 pd.z1, .int .u8 pd.z2, .int .u8 pd.z3, .int .u8 pd.z4, .int .u8 pd.z5, .int .u8 pd.z6, .int .u8 pd.z7]] w fun e w' => ∃ a' c', e = .returned (.slice a' (Mx.putF l ⟨px, pd⟩).length c') ∧ Hid (OwnPL w' w.heap.size (.slice a' (Mx.putF l ⟨px, pd⟩).length c') (Mx.putF l ⟨px, pd⟩)) ∧ Hid (Below w.heap.size w w') := put_any a m c l ⟨px, pd⟩ w hp hm

set_option maxHeartbeats 16000000 in
set_option maxRecDepth 100000 in
theorem et21 {w v : World} {num : Int} {oa : Option Addr} {on oc : Nat} {sa : Option Addr} {sn sc : Nat} {be : Bool} {ops : List Pt} {es : List Ep} {n px : Int} {pd : B8} {k : Int} {gA : Nat} {a0 a1 a2 a3 : Value} {gS : Nat} {s0 s1 s2 s3 : Value} {gD : Nat} {d0 d1 d2 d3 : Value} {gE : Nat} {pa : Option Addr} {pn pk : Nat} {u0 u2 u5 u6 u7 u8 u9 u19 u22 u23 u24 u25 u26 u27 u28 u29 u30 u31 u32 u33 u34 u35 u36 u37 u38 u39 u40 u41 u42 u43 u44 u45 u46 u47 u48 u49 u50 u51 u52 u53 u54 u55 u56 u57 u58 u59 u60 u61 u62 u63 u64 u65 u66 u67 u68 u69 u70 u71 u72 u73 u74 u75 u76 u77 u78 u79 u80 u81 u82 u83 u84 u85 u86 u87 u88 u89 u90 u91 u92 u93 u94 u95 u96 u97 u98 u99 u100 u101 u102 u103 u104 u105 u106 u107 u108 u109 u110 u111 u112 u113 u114 u115 u116 u117 u118 u119 u120 u121 u122 u123 u124 u125 u126 u127 u128 u129 u130 u131 u132 u133 u134 u135 u136 u137 u138 u139 u140 u141 u142 u143 u144 u145 u146 u147 u148 u149 u150 u151 u152 u153 u154 u155 u156 u157 u158 u159 u160 u161 u162 u163 u164 u165 u166 u167 u168 u169 u170 u171 u172 u173 u174 u175 u176 u177 u178 u179 u180 u181 u182 u183 u184 u185 u186 u187 u188 u189 u190 u191 u192 u193 u194 u195 u196 u197 u198 u199 u200 u201 u202 u203 u204 u205 u206 u207 u208 u209 u210 u211 u212 u213 u214 u215 u216 u217 u218 u219 u220 u221 u222 u223 u224 u225 u226 u227 u228 u229 u230 u231 u232 u233 u234 u235 u236 u237 u238 u239 u240 u241 u242 u243 u244 u245 u246 u247 u248 u249 u250 u251 u252 u253 u254 u255 u256 u257 u258 u259 u260 u261 u262 u263 u264 u265 u266 u267 u268 u269 u270 u271 u272 u273 u274 u275 u276 u277 u278 u279 u280 u281 u282 u283 u284 u285 u286 u287 u288 u289 u290 u291 u292 u293 u294 u295 u296 u297 u298 u299 u300 u301 u302 u303 u304 u305 u306 u307 u308 u309 u310 u311 u312 u313 u314 u315 u316 u317 u318 u319 u320 u321 u322 u323 u324 u325 u326 u327 u328 u329 u330 u331 u332 u333 : Value} {x : World} {g : Nat} {bb : Bool} (F : Ef w v num oa on oc sa sn sc be ops es n px pd k gA a0 a1 a2 a3 gS s0 s1 s2 s3 gD d0 d1 d2 d3 gE pa pn pk) (D : Hid (Below v.heap.size v x)) (GW : Hid (v.heap.size ≤ g)) (XW : Hid (Bx x g #[.int .i64 num, .slice oa on oc, .slice none 0 0, .bool bb] 25)) (HB : Hid (bb = (be && decide (k ≠ num)))) (HK : Hid ((Mx.nmay ⟨num, ops, es, be⟩ n k) = 0)) :
    TailE 21 w ⟨#[u0, .int .i64 n, u2, .int .i64 k, .pointer (some ⟨w.heap.size, 0, none⟩), u5, u6, u7, u8, u9, .pointer (some ⟨gA, 0, none⟩), errV (Mx.amay ⟨num, ops, es, be⟩ n ⟨px, pd⟩), .pointer (some ⟨gS, 0, none⟩), errV (Mx.smay ⟨num, ops, es, be⟩ n), .pointer (some ⟨gD, 0, none⟩), errV (Mx.nmay ⟨num, ops, es, be⟩ n k), .pointer (some ⟨gE, 0, none⟩), .bool (Mx.sinceB ⟨num, ops, es, be⟩ n k), errV (Mx.nmay ⟨num, ops, es, be⟩ n k), u19, .pointer (some ⟨g, 0, none⟩), .slice none 0 0, u22, u23, u24, u25, u26, u27, u28, u29, u30, u31, u32, u33, u34, u35, u36, u37, u38, u39, u40, u41, u42, u43, u44, u45, u46, u47, u48, u49, u50, u51, u52, u53, u54, u55, u56, u57, u58, u59, u60, u61, u62, u63, u64, u65, u66, u67, u68, u69, u70, u71, u72, u73, u74, u75, u76, u77, u78, u79, u80, u81, u82, u83, u84, u85, u86, u87, u88, u89, u90, u91, u92, u93, u94, u95, u96, u97, u98, u99, u100, u101, u102, u103, u104, u105, u106, u107, u108, u109, u110, u111, u112, u113, u114, u115, u116, u117, u118, u119, u120, u121, u122, u123, u124, u125, u126, u127, u128, u129, u130, u131, u132, u133, u134, u135, u136, u137, u138, u139, u140, u141, u142, u143, u144, u145, u146, u147, u148, u149, u150, u151, u152, u153, u154, u155, u156, u157, u158, u159, u160, u161, u162, u163, u164, u165, u166, u167, u168, u169, u170, u171, u172, u173, u174, u175, u176, u177, u178, u179, u180, u181, u182, u183, u184, u185, u186, u187, u188, u189, u190, u191, u192, u193, u194, u195, u196, u197, u198, u199, u200, u201, u202, u203, u204, u205, u206, u207, u208, u209, u210, u211, u212, u213, u214, u215, u216, u217, u218, u219, u220, u221, u222, u223, u224, u225, u226, u227, u228, u229, u230, u231, u232, u233, u234, u235, u236, u237, u238, u239, u240, u241, u242, u243, u244, u245, u246, u247, u248, u249, u250, u251, u252, u253, u254, u255, u256, u257, u258, u259, u260, u261, u262, u263, u264, u265, u266, u267, u268, u269, u270, u271, u272, u273, u274, u275, u276, u277, u278, u279, u280, u281, u282, u283, u284, u285, u286, u287, u288, u289, u290, u291, u292, u293, u294, u295, u296, u297, u298, u299, u300, u301, u302, u303, u304, u305, u306, u307, u308, u309, u310, u311, u312, u313, u314, u315, u316, u317, u318, u319, u320, u321, u322, u323, u324, u325, u326, u327, u328, u329, u330, u331, u332, u333], []⟩ x := by
  refine tail_step rfl ?_
  intro K hK
  have BF := hide (F.bl.trans (D.out.mono F.bl.size))
  obtain ⟨b0, b1, b2, b3⟩ := (F.xb.later D.out F.xb.lt).four
  have HOK := hide (Mx.bmay_ok F.hb)
  have HL := hide (F.he.1)
  have hs4 : sn ≤ 4 := by have h1 : es.length ≤ 4 := HOK.out.2.1; have h2 := HL.out; omega
  have hgx : g < x.heap.size := XW.out.lt
  have hvx : v.heap.size ≤ x.heap.size := D.out.size
  have FO := hide F
  go_wp2_with fail
  go_loopw [21, 22] (fun s21 s22 wr => ∃ (j : Nat) (qa : Option Addr) (qn qk : Nat) (za : Option Addr) (zn zk : Nat), s22 = .int .i64 (j : Int) ∧ s21 = .slice qa qn qk ∧ j ≤ sn ∧ Hid (LpS x.heap.size g num oa on oc bb qa qn za zn zk wr (Mx.putsOf (Mx.fil es k j)) (Mx.fil es k j)) ∧ Hid (Below v.heap.size v wr)) (fun _ t _ => sn - (intOf t).toNat)
  case atStart => exact ⟨0, none, 0, 0, none, 0, 0, rfl, rfl, Nat.zero_le _, ⟨PL.nil _, OwnEL.nil _ _ _, XW.out, fun h0 => absurd h0 (by omega), Nat.le_refl _⟩, D⟩
  case round =>
    obtain ⟨j, qa, qn, qk, za, zn, zk, rfl, rfl, hj, L, DR⟩ := hrel
    clear b0 b1 b2 b3
    obtain ⟨b0, b1, b2, b3⟩ := (F.xb.later DR.out F.xb.lt).four
    by_cases hlt : j < sn
    · obtain ⟨b, off, e, ai, ni, ci, hab, hblt, hx, e0, e1, hp, hc⟩ := F.he.at_ j hlt
      subst hab
      have HX := hide hx
      obtain ⟨z, ps⟩ := e
      dsimp only at e0 hp
      have i0 := (DR.out.cell (p := ⟨b, off + j * 2, none⟩) hblt).trans e0
      have i1 := (DR.out.cell (p := ⟨b, off + j * 2 + 1, none⟩) hblt).trans e1
      have EV0 := hide e0
      have EV1 := hide e1
      clear hx e0 e1
      by_cases hk : z ≤ k
      · have dk : decide (z ≤ k) = true := by simpa using hk
        have HF := hide (Mx.fil_no HX.out (show (⟨z, ps⟩ : Ep).num ≤ k from hk))
        clear hk
        go_wp2_with fail
        go_roundw
        case rel => exact ⟨j + 1, qa, qn, qk, za, zn, zk, by go_num, rfl, by omega, by rw [HF.out]; exact L, DR⟩
        case measure => simp [intOf]; omega
      · have dk : decide (z ≤ k) = false := by simpa using hk
        have HF := hide (Mx.fil_yes HX.out (show ¬ (⟨z, ps⟩ : Ep).num ≤ k from hk))
        clear hk
        obtain ⟨f0, f1, f2, f3⟩ := L.out.four.four
        have fz := L.out.four.frozen
        have hbw : b < wr.heap.size := Nat.lt_of_lt_of_le hblt DR.out.size
        have hww : w.heap.size < wr.heap.size := Nat.lt_of_lt_of_le F.xb.lt DR.out.size
        have hgw : g < wr.heap.size := L.out.four.lt
        have HPR := hide (hp.later DR.out)
        have HPB := hide (show 0 < ni → ∀ p, ai = some p → p.block < x.heap.size from fun h0 p hpa => by
          obtain ⟨b', off', ha', hl', _⟩ := hp.2.2.2 h0
          rw [hpa] at ha'
          cases ha'
          exact Nat.lt_of_lt_of_le hl' hvx)
        have hni32 : ni ≤ 32 := by
          have h1 := Mx.rk_len (Mx.rk_of (Mx.folB_at (Mx.goodB_parts HOK.out.2.2).2.2 HX.out).1 HOK.out.1.2.1) (by omega)
          have h2 : ps.length = ni := hp.1
          dsimp only at h1
          omega
        have HC := hide hc
        have HPV := hide hp
        have HFL := hide (show (Mx.fil es k j).length ≤ 1000 by have h1 := Mx.fil_len (es := es) (k := k) (j := j); have h2 := HL.out; omega)
        have HB0 := hide (show g ≠ b by have h1 := GW.out; omega)
        clear hp hc
        go_upto_region 39 with fail
        have NE5 := hide (show ∀ q, q < x.heap.size → some q ≠ (Value.slice za zn zk).ownBlock from fun q hq e => by have h1 := (L.out.2.1.lt q e.symm).1; omega)
        have BW := hide (show Below wr.heap.size wr (wr.drew.alloc (.cells #[.int .i64 z, .slice ai ni ci] 42)) from (Below.refl _ _).drew.trans (below_alloc wr.drew _))
        go_region_law (refine ez_epA (base := x.heap.size) (v := .slice za zn zk) (es := Mx.fil es k j) (z := z) (oa := ai) (on := ni) (oc := ci) (ps := ps) (w := wr.drew.alloc (.cells #[.int .i64 z, .slice ai ni ci] 42)) rfl (.tmp 256) (.tmp 262) rfl wr.heap.size rfl ?o1 rfl (Bx.new wr.drew _ _) ?o2 HC.out HPB.out ?o3 HFL.out ?_; (case o1 => exact L.out.2.1.later BW.out); (case o2 => exact HPR.out.later BW.out); (case o3 => exact Nat.le_trans L.out.2.2.2.2 BW.out.size); intro a5 k5 w5 O5 G5 A5; have X5 := hide (L.out.mid hgx BW.out G5.out); obtain ⟨g0, g1, g2, g3⟩ := X5.out.four; have fz5 := X5.out.frozen)
        all_goals
          have L4 := hide (L.out.ep hgx BW.out O5.out G5.out A5.out)
          have D4 := hide (L.out.below (u := .slice a5 ((Mx.fil es k j).length + 1) k5) GW.out hgx DR.out BW.out G5.out)
          have HRK := hide (Mx.fil_rk (k := k) (j := j) HOK.out.2.2 HOK.out.1.2.1)
          have HPA := hide (Mx.ep_at HOK.out.2.2 HOK.out.1.2.1 HX.out)
          rw [← HF.out] at L4
          obtain ⟨W4, hW4⟩ : ∃ W : World, Hid (W = w5.setCell ⟨g, 2, none⟩ (.slice a5 ((Mx.fil es k j).length + 1) k5)) := ⟨_, rfl⟩
          rw [← hW4.out] at L4 D4 ⊢
          obtain ⟨zm, hzm⟩ : ∃ zm : Nat, Hid (zm = (Mx.fil es k j).length + 1) := ⟨_, rfl⟩
          rw [← hzm.out] at L4
          clear b0 b1 b2 b3 f0 f1 f2 f3 fz i0 i1 g0 g1 g2 g3 fz5 X5 O5 G5 A5 BW NE5 hW4 hgw hww hbw HFL HB0 hzm
          have hb4 := hblt
          go_wp2_with fail
          go_loopw [21, 23] (fun s21 s23 wi => ∃ (m : Nat) (ra : Option Addr) (rn rk : Nat), s23 = .int .i64 (m : Int) ∧ s21 = .slice ra rn rk ∧ m ≤ ni ∧ Hid (LpS x.heap.size g num oa on oc bb ra rn a5 zm k5 wi ((ps.take m).foldl Mx.putR (Mx.putsOf (Mx.fil es k j))) (Mx.fil es k (j + 1))) ∧ Hid (Below v.heap.size v wi)) (fun _ t _ => ni - (intOf t).toNat)
          case atStart => exact ⟨0, qa, qn, qk, rfl, rfl, Nat.zero_le _, L4, D4⟩
          case round =>
            obtain ⟨m, ra, rn, rk, rfl, rfl, hm, LI, DI⟩ := hrel
            obtain ⟨b0, b1, b2, b3⟩ := (F.xb.later DI.out F.xb.lt).four
            have i0 := (DI.out.cell (p := ⟨b, off + j * 2, none⟩) hblt).trans EV0.out
            have i1 := (DI.out.cell (p := ⟨b, off + j * 2 + 1, none⟩) hblt).trans EV1.out
            have HRI := hide (Mx.rk_foldl (ps := ps.take m) HRK.out (fun q hq => HPA.out q (List.mem_of_mem_take hq)))
            have hrn : rn ≤ 1000 := by have h1 := LI.out.1.1; have h2 := Mx.rk_len HRI.out (by omega); omega
            by_cases hmi : m < ni
            · obtain ⟨pb, poff, p, hpa, hpl, hpx, c0, c1, c2, c3, c4, c5, c6, c7, c8⟩ := HPV.out.at_ m hmi
              subst hpa
              have HPX := hide hpx
              obtain ⟨qx, qd⟩ := p
              dsimp only at c0 c1 c2 c3 c4 c5 c6 c7 c8
              have y0 := (DI.out.cell (p := ⟨pb, poff + m * 9, none⟩) hpl).trans c0
              have y1 := (DI.out.cell (p := ⟨pb, poff + m * 9 + 1, none⟩) hpl).trans c1
              have y2 := (DI.out.cell (p := ⟨pb, poff + m * 9 + 2, none⟩) hpl).trans c2
              have y3 := (DI.out.cell (p := ⟨pb, poff + m * 9 + 3, none⟩) hpl).trans c3
              have y4 := (DI.out.cell (p := ⟨pb, poff + m * 9 + 4, none⟩) hpl).trans c4
              have y5 := (DI.out.cell (p := ⟨pb, poff + m * 9 + 5, none⟩) hpl).trans c5
              have y6 := (DI.out.cell (p := ⟨pb, poff + m * 9 + 6, none⟩) hpl).trans c6
              have y7 := (DI.out.cell (p := ⟨pb, poff + m * 9 + 7, none⟩) hpl).trans c7
              have y8 := (DI.out.cell (p := ⟨pb, poff + m * 9 + 8, none⟩) hpl).trans c8
              clear hpx c0 c1 c2 c3 c4 c5 c6 c7 c8
              have HPS := hide (show (ps.take (m + 1)).foldl Mx.putR (Mx.putsOf (Mx.fil es k j)) = Mx.putF ((ps.take m).foldl Mx.putR (Mx.putsOf (Mx.fil es k j))) ⟨qx, qd⟩ by
                rw [Mx.putF_eq _ HRI.out, getElem_take_succ _ _ _ HPX.out, List.foldl_append]
                rfl)
              go_wp2_with fail
              refine (put_at ra rn rk _ qx qd _ LI.out.1 hrn).mono ?_
              rintro e w7 ⟨a7, c7, rfl, O7, B7⟩
              have L7 := hide (LI.out.put O7.out B7.out)
              have D7 := hide (DI.out.trans (B7.out.mono DI.out.size))
              rw [← HPS.out] at L7
              go_wp2_with fail
              go_roundw
              case rel => exact ⟨m + 1, a7, _, c7, by go_num, by rw [HPS.out], by omega, L7, D7⟩
              case measure => simp [intOf]; omega
            · obtain rfl : m = ni := by omega
              have HE := hide (show (ps.take m).foldl Mx.putR (Mx.putsOf (Mx.fil es k j)) = Mx.putsOf (Mx.fil es k (j + 1)) by
                rw [HF.out, Mx.putsOf_snoc, List.take_of_length_le (by have h1 : ps.length = m := HPV.out.1; omega)])
              rw [HE.out] at LI
              go_wp2_with fail
              go_roundw
              case rel => exact ⟨j + 1, ra, rn, rk, a5, zm, k5, by go_num, rfl, by omega, LI, DI⟩
              case measure => simp [intOf]; omega
    · obtain rfl : j = sn := by omega
      have HF := hide (show Mx.fil es k j = (Mx.keptE ⟨num, ops, es, be⟩ k) by
        unfold Mx.fil
        rw [List.take_of_length_le (by rw [HL.out]; exact Nat.le_refl _)]
        exact Mx.keptE_filter (Mx.goodB_parts HOK.out.2.2).2.2 (Mx.nmay_ok HK.out).2.2)
      have HD := hide (Mx.dropped_ok HK.out)
      obtain ⟨l1, l2, l3, l4, l5⟩ := L.out
      obtain ⟨a', c', hv, hc', hE⟩ := l2.el
      rw [HF.out] at l1 hE hv hc'
      cases hv
      have VW := hide (show BuV wr (.agg #[.int .i64 num, .slice oa on oc, .slice za _ zk, .bool bb]) (Mx.dropped ⟨num, ops, es, be⟩ n k) by rw [HD.out]; exact ⟨oa, on, oc, _, _, _, by rw [HB.out]; rfl, F.hp.later DR.out, hE, F.hon, hc'⟩)
      have L1 := hide l1
      have L3 := hide l3
      clear l1 l2 l3 l4 l5 hE hc' L
      go_wp2_with fail
      exact Met.intro (et22 F DR GW L3 VW L1 HK)

set_option maxHeartbeats 16000000 in
set_option maxRecDepth 100000 in
theorem et20 {w v : World} {num : Int} {oa : Option Addr} {on oc : Nat} {sa : Option Addr} {sn sc : Nat} {be : Bool} {ops : List Pt} {es : List Ep} {n px : Int} {pd : B8} {k : Int} {gA : Nat} {a0 a1 a2 a3 : Value} {gS : Nat} {s0 s1 s2 s3 : Value} {gD : Nat} {d0 d1 d2 d3 : Value} {gE : Nat} {pa : Option Addr} {pn pk : Nat} {u0 u2 u5 u6 u7 u8 u9 u19 u21 u22 u23 u24 u25 u26 u27 u28 u29 u30 u31 u32 u33 u34 u35 u36 u37 u38 u39 u40 u41 u42 u43 u44 u45 u46 u47 u48 u49 u50 u51 u52 u53 u54 u55 u56 u57 u58 u59 u60 u61 u62 u63 u64 u65 u66 u67 u68 u69 u70 u71 u72 u73 u74 u75 u76 u77 u78 u79 u80 u81 u82 u83 u84 u85 u86 u87 u88 u89 u90 u91 u92 u93 u94 u95 u96 u97 u98 u99 u100 u101 u102 u103 u104 u105 u106 u107 u108 u109 u110 u111 u112 u113 u114 u115 u116 u117 u118 u119 u120 u121 u122 u123 u124 u125 u126 u127 u128 u129 u130 u131 u132 u133 u134 u135 u136 u137 u138 u139 u140 u141 u142 u143 u144 u145 u146 u147 u148 u149 u150 u151 u152 u153 u154 u155 u156 u157 u158 u159 u160 u161 u162 u163 u164 u165 u166 u167 u168 u169 u170 u171 u172 u173 u174 u175 u176 u177 u178 u179 u180 u181 u182 u183 u184 u185 u186 u187 u188 u189 u190 u191 u192 u193 u194 u195 u196 u197 u198 u199 u200 u201 u202 u203 u204 u205 u206 u207 u208 u209 u210 u211 u212 u213 u214 u215 u216 u217 u218 u219 u220 u221 u222 u223 u224 u225 u226 u227 u228 u229 u230 u231 u232 u233 u234 u235 u236 u237 u238 u239 u240 u241 u242 u243 u244 u245 u246 u247 u248 u249 u250 u251 u252 u253 u254 u255 u256 u257 u258 u259 u260 u261 u262 u263 u264 u265 u266 u267 u268 u269 u270 u271 u272 u273 u274 u275 u276 u277 u278 u279 u280 u281 u282 u283 u284 u285 u286 u287 u288 u289 u290 u291 u292 u293 u294 u295 u296 u297 u298 u299 u300 u301 u302 u303 u304 u305 u306 u307 u308 u309 u310 u311 u312 u313 u314 u315 u316 u317 u318 u319 u320 u321 u322 u323 u324 u325 u326 u327 u328 u329 u330 u331 u332 u333 : Value} {x : World} {g : Nat} {bb : Bool} (F : Ef w v num oa on oc sa sn sc be ops es n px pd k gA a0 a1 a2 a3 gS s0 s1 s2 s3 gD d0 d1 d2 d3 gE pa pn pk) (D : Hid (Below v.heap.size v x)) (GW : Hid (v.heap.size ≤ g)) (XW : Hid (Bx x g #[.int .i64 num, .slice oa on oc, .slice none 0 0, .bool bb] 25)) (HB : Hid (bb = (be && decide (k ≠ num)))) (HK : Hid ((Mx.nmay ⟨num, ops, es, be⟩ n k) = 0)) :
    TailE 20 w ⟨#[u0, .int .i64 n, u2, .int .i64 k, .pointer (some ⟨w.heap.size, 0, none⟩), u5, u6, u7, u8, u9, .pointer (some ⟨gA, 0, none⟩), errV (Mx.amay ⟨num, ops, es, be⟩ n ⟨px, pd⟩), .pointer (some ⟨gS, 0, none⟩), errV (Mx.smay ⟨num, ops, es, be⟩ n), .pointer (some ⟨gD, 0, none⟩), errV (Mx.nmay ⟨num, ops, es, be⟩ n k), .pointer (some ⟨gE, 0, none⟩), .bool (Mx.sinceB ⟨num, ops, es, be⟩ n k), errV (Mx.nmay ⟨num, ops, es, be⟩ n k), u19, .pointer (some ⟨g, 0, none⟩), u21, u22, u23, u24, u25, u26, u27, u28, u29, u30, u31, u32, u33, u34, u35, u36, u37, u38, u39, u40, u41, u42, u43, u44, u45, u46, u47, u48, u49, u50, u51, u52, u53, u54, u55, u56, u57, u58, u59, u60, u61, u62, u63, u64, u65, u66, u67, u68, u69, u70, u71, u72, u73, u74, u75, u76, u77, u78, u79, u80, u81, u82, u83, u84, u85, u86, u87, u88, u89, u90, u91, u92, u93, u94, u95, u96, u97, u98, u99, u100, u101, u102, u103, u104, u105, u106, u107, u108, u109, u110, u111, u112, u113, u114, u115, u116, u117, u118, u119, u120, u121, u122, u123, u124, u125, u126, u127, u128, u129, u130, u131, u132, u133, u134, u135, u136, u137, u138, u139, u140, u141, u142, u143, u144, u145, u146, u147, u148, u149, u150, u151, u152, u153, u154, u155, u156, u157, u158, u159, u160, u161, u162, u163, u164, u165, u166, u167, u168, u169, u170, u171, u172, u173, u174, u175, u176, u177, u178, u179, u180, u181, u182, u183, u184, u185, u186, u187, u188, u189, u190, u191, u192, u193, u194, u195, u196, u197, u198, u199, u200, u201, u202, u203, u204, u205, u206, u207, u208, u209, u210, u211, u212, u213, u214, u215, u216, u217, u218, u219, u220, u221, u222, u223, u224, u225, u226, u227, u228, u229, u230, u231, u232, u233, u234, u235, u236, u237, u238, u239, u240, u241, u242, u243, u244, u245, u246, u247, u248, u249, u250, u251, u252, u253, u254, u255, u256, u257, u258, u259, u260, u261, u262, u263, u264, u265, u266, u267, u268, u269, u270, u271, u272, u273, u274, u275, u276, u277, u278, u279, u280, u281, u282, u283, u284, u285, u286, u287, u288, u289, u290, u291, u292, u293, u294, u295, u296, u297, u298, u299, u300, u301, u302, u303, u304, u305, u306, u307, u308, u309, u310, u311, u312, u313, u314, u315, u316, u317, u318, u319, u320, u321, u322, u323, u324, u325, u326, u327, u328, u329, u330, u331, u332, u333], []⟩ x := by
  refine tail_step rfl ?_
  intro K hK
  go_wp2_with fail
  exact Met.intro (et21 F D GW XW HB HK)

set_option maxHeartbeats 16000000 in
set_option maxRecDepth 100000 in
theorem et19 {w v : World} {num : Int} {oa : Option Addr} {on oc : Nat} {sa : Option Addr} {sn sc : Nat} {be : Bool} {ops : List Pt} {es : List Ep} {n px : Int} {pd : B8} {k : Int} {gA : Nat} {a0 a1 a2 a3 : Value} {gS : Nat} {s0 s1 s2 s3 : Value} {gD : Nat} {d0 d1 d2 d3 : Value} {gE : Nat} {pa : Option Addr} {pn pk : Nat} {u0 u2 u5 u6 u7 u8 u9 u19 u21 u22 u23 u24 u25 u26 u27 u28 u29 u30 u31 u32 u33 u34 u35 u36 u37 u38 u39 u40 u41 u42 u43 u44 u45 u46 u47 u48 u49 u50 u51 u52 u53 u54 u55 u56 u57 u58 u59 u60 u61 u62 u63 u64 u65 u66 u67 u68 u69 u70 u71 u72 u73 u74 u75 u76 u77 u78 u79 u80 u81 u82 u83 u84 u85 u86 u87 u88 u89 u90 u91 u92 u93 u94 u95 u96 u97 u98 u99 u100 u101 u102 u103 u104 u105 u106 u107 u108 u109 u110 u111 u112 u113 u114 u115 u116 u117 u118 u119 u120 u121 u122 u123 u124 u125 u126 u127 u128 u129 u130 u131 u132 u133 u134 u135 u136 u137 u138 u139 u140 u141 u142 u143 u144 u145 u146 u147 u148 u149 u150 u151 u152 u153 u154 u155 u156 u157 u158 u159 u160 u161 u162 u163 u164 u165 u166 u167 u168 u169 u170 u171 u172 u173 u174 u175 u176 u177 u178 u179 u180 u181 u182 u183 u184 u185 u186 u187 u188 u189 u190 u191 u192 u193 u194 u195 u196 u197 u198 u199 u200 u201 u202 u203 u204 u205 u206 u207 u208 u209 u210 u211 u212 u213 u214 u215 u216 u217 u218 u219 u220 u221 u222 u223 u224 u225 u226 u227 u228 u229 u230 u231 u232 u233 u234 u235 u236 u237 u238 u239 u240 u241 u242 u243 u244 u245 u246 u247 u248 u249 u250 u251 u252 u253 u254 u255 u256 u257 u258 u259 u260 u261 u262 u263 u264 u265 u266 u267 u268 u269 u270 u271 u272 u273 u274 u275 u276 u277 u278 u279 u280 u281 u282 u283 u284 u285 u286 u287 u288 u289 u290 u291 u292 u293 u294 u295 u296 u297 u298 u299 u300 u301 u302 u303 u304 u305 u306 u307 u308 u309 u310 u311 u312 u313 u314 u315 u316 u317 u318 u319 u320 u321 u322 u323 u324 u325 u326 u327 u328 u329 u330 u331 u332 u333 : Value} {x : World} {g : Nat} {c0 c1 c2 c3 : Value} (F : Ef w v num oa on oc sa sn sc be ops es n px pd k gA a0 a1 a2 a3 gS s0 s1 s2 s3 gD d0 d1 d2 d3 gE pa pn pk) (D : Hid (Below v.heap.size v x)) (GW : Hid (v.heap.size ≤ g)) (XW : Hid (Bx x g #[c0, c1, c2, c3] 25)) (HK : Hid ((Mx.nmay ⟨num, ops, es, be⟩ n k) = 0)) :
    TailE 19 w ⟨#[u0, .int .i64 n, u2, .int .i64 k, .pointer (some ⟨w.heap.size, 0, none⟩), u5, u6, u7, u8, u9, .pointer (some ⟨gA, 0, none⟩), errV (Mx.amay ⟨num, ops, es, be⟩ n ⟨px, pd⟩), .pointer (some ⟨gS, 0, none⟩), errV (Mx.smay ⟨num, ops, es, be⟩ n), .pointer (some ⟨gD, 0, none⟩), errV (Mx.nmay ⟨num, ops, es, be⟩ n k), .pointer (some ⟨gE, 0, none⟩), .bool (Mx.sinceB ⟨num, ops, es, be⟩ n k), errV (Mx.nmay ⟨num, ops, es, be⟩ n k), u19, .pointer (some ⟨g, 0, none⟩), u21, u22, u23, u24, u25, u26, u27, u28, u29, u30, u31, u32, u33, u34, u35, u36, u37, u38, u39, u40, u41, u42, u43, u44, u45, u46, u47, u48, u49, u50, u51, u52, u53, u54, u55, u56, u57, u58, u59, u60, u61, u62, u63, u64, u65, u66, u67, u68, u69, u70, u71, u72, u73, u74, u75, u76, u77, u78, u79, u80, u81, u82, u83, u84, u85, u86, u87, u88, u89, u90, u91, u92, u93, u94, u95, u96, u97, u98, u99, u100, u101, u102, u103, u104, u105, u106, u107, u108, u109, u110, u111, u112, u113, u114, u115, u116, u117, u118, u119, u120, u121, u122, u123, u124, u125, u126, u127, u128, u129, u130, u131, u132, u133, u134, u135, u136, u137, u138, u139, u140, u141, u142, u143, u144, u145, u146, u147, u148, u149, u150, u151, u152, u153, u154, u155, u156, u157, u158, u159, u160, u161, u162, u163, u164, u165, u166, u167, u168, u169, u170, u171, u172, u173, u174, u175, u176, u177, u178, u179, u180, u181, u182, u183, u184, u185, u186, u187, u188, u189, u190, u191, u192, u193, u194, u195, u196, u197, u198, u199, u200, u201, u202, u203, u204, u205, u206, u207, u208, u209, u210, u211, u212, u213, u214, u215, u216, u217, u218, u219, u220, u221, u222, u223, u224, u225, u226, u227, u228, u229, u230, u231, u232, u233, u234, u235, u236, u237, u238, u239, u240, u241, u242, u243, u244, u245, u246, u247, u248, u249, u250, u251, u252, u253, u254, u255, u256, u257, u258, u259, u260, u261, u262, u263, u264, u265, u266, u267, u268, u269, u270, u271, u272, u273, u274, u275, u276, u277, u278, u279, u280, u281, u282, u283, u284, u285, u286, u287, u288, u289, u290, u291, u292, u293, u294, u295, u296, u297, u298, u299, u300, u301, u302, u303, u304, u305, u306, u307, u308, u309, u310, u311, u312, u313, u314, u315, u316, u317, u318, u319, u320, u321, u322, u323, u324, u325, u326, u327, u328, u329, u330, u331, u332, u333], []⟩ x := by
  refine tail_step rfl ?_
  intro K hK
  have BF := hide (F.bl.trans (D.out.mono F.bl.size))
  obtain ⟨b0, b1, b2, b3⟩ := (F.xb.later D.out F.xb.lt).four
  have HN := hide (Mx.nmay_ok HK.out)
  obtain ⟨f0, f1, f2, f3⟩ := XW.out.four
  have fz := XW.out.frozen
  cases be with
  | false =>
    go_wp2_with fail
    exact Met.intro (et20 F (hide (set4_below D.out GW.out _ _ _ _)) GW (hide (XW.out.four_set _ _ _ _)) (hide rfl) HK)
  | true =>
    have hd : decide (k < num) = decide (k ≠ num) := by
      have h1 := HN.out.2.2
      have h2 : k ≤ num := h1
      by_cases h3 : k = num
      · rw [decide_eq_false (by omega), decide_eq_false (by simpa using h3)]
      · rw [decide_eq_true (by omega), decide_eq_true h3]
    have HD := hide hd
    clear hd
    go_wp2_with fail
    exact Met.intro (et20 F (hide (set4_below D.out GW.out _ _ _ _)) GW (hide (XW.out.four_set _ _ _ _)) (hide (by rw [HD.out]; rfl)) HK)

end Go.Proofs.Ytkebmfocgalinab

/-
  The law EpochSays in parts: what was sealed.
-/
namespace Go.Proofs.Ytkebmfocgalinab
open Go.RowKit

set_option maxHeartbeats 16000000 in
set_option maxRecDepth 100000 in
theorem et18 {w v : World} {num : Int} {oa : Option Addr} {on oc : Nat} {sa : Option Addr} {sn sc : Nat} {be : Bool} {ops : List Pt} {es : List Ep} {n px : Int} {pd : B8} {k : Int} {gA : Nat} {a0 a1 a2 a3 : Value} {gS : Nat} {s0 s1 s2 s3 : Value} {gD : Nat} {d0 d1 d2 d3 : Value} {gE : Nat} {pa : Option Addr} {pn pk : Nat} {u0 u2 u5 u6 u7 u8 u9 u19 u21 u22 u23 u24 u25 u26 u27 u28 u29 u30 u31 u32 u33 u34 u35 u36 u37 u38 u39 u40 u41 u42 u43 u44 u45 u46 u47 u48 u49 u50 u51 u52 u53 u54 u55 u56 u57 u58 u59 u60 u61 u62 u63 u64 u65 u66 u67 u68 u69 u70 u71 u72 u73 u74 u75 u76 u77 u78 u79 u80 u81 u82 u83 u84 u85 u86 u87 u88 u89 u90 u91 u92 u93 u94 u95 u96 u97 u98 u99 u100 u101 u102 u103 u104 u105 u106 u107 u108 u109 u110 u111 u112 u113 u114 u115 u116 u117 u118 u119 u120 u121 u122 u123 u124 u125 u126 u127 u128 u129 u130 u131 u132 u133 u134 u135 u136 u137 u138 u139 u140 u141 u142 u143 u144 u145 u146 u147 u148 u149 u150 u151 u152 u153 u154 u155 u156 u157 u158 u159 u160 u161 u162 u163 u164 u165 u166 u167 u168 u169 u170 u171 u172 u173 u174 u175 u176 u177 u178 u179 u180 u181 u182 u183 u184 u185 u186 u187 u188 u189 u190 u191 u192 u193 u194 u195 u196 u197 u198 u199 u200 u201 u202 u203 u204 u205 u206 u207 u208 u209 u210 u211 u212 u213 u214 u215 u216 u217 u218 u219 u220 u221 u222 u223 u224 u225 u226 u227 u228 u229 u230 u231 u232 u233 u234 u235 u236 u237 u238 u239 u240 u241 u242 u243 u244 u245 u246 u247 u248 u249 u250 u251 u252 u253 u254 u255 u256 u257 u258 u259 u260 u261 u262 u263 u264 u265 u266 u267 u268 u269 u270 u271 u272 u273 u274 u275 u276 u277 u278 u279 u280 u281 u282 u283 u284 u285 u286 u287 u288 u289 u290 u291 u292 u293 u294 u295 u296 u297 u298 u299 u300 u301 u302 u303 u304 u305 u306 u307 u308 u309 u310 u311 u312 u313 u314 u315 u316 u317 u318 u319 u320 u321 u322 u323 u324 u325 u326 u327 u328 u329 u330 u331 u332 u333 : Value} {x : World} {g : Nat} {c0 c1 c2 c3 : Value} (F : Ef w v num oa on oc sa sn sc be ops es n px pd k gA a0 a1 a2 a3 gS s0 s1 s2 s3 gD d0 d1 d2 d3 gE pa pn pk) (D : Hid (Below v.heap.size v x)) (GW : Hid (v.heap.size ≤ g)) (XW : Hid (Bx x g #[c0, c1, c2, c3] 25)) :
    TailE 18 w ⟨#[u0, .int .i64 n, u2, .int .i64 k, .pointer (some ⟨w.heap.size, 0, none⟩), u5, u6, u7, u8, u9, .pointer (some ⟨gA, 0, none⟩), errV (Mx.amay ⟨num, ops, es, be⟩ n ⟨px, pd⟩), .pointer (some ⟨gS, 0, none⟩), errV (Mx.smay ⟨num, ops, es, be⟩ n), .pointer (some ⟨gD, 0, none⟩), errV (Mx.nmay ⟨num, ops, es, be⟩ n k), .pointer (some ⟨gE, 0, none⟩), .bool (Mx.sinceB ⟨num, ops, es, be⟩ n k), errV (Mx.nmay ⟨num, ops, es, be⟩ n k), u19, .pointer (some ⟨g, 0, none⟩), u21, u22, u23, u24, u25, u26, u27, u28, u29, u30, u31, u32, u33, u34, u35, u36, u37, u38, u39, u40, u41, u42, u43, u44, u45, u46, u47, u48, u49, u50, u51, u52, u53, u54, u55, u56, u57, u58, u59, u60, u61, u62, u63, u64, u65, u66, u67, u68, u69, u70, u71, u72, u73, u74, u75, u76, u77, u78, u79, u80, u81, u82, u83, u84, u85, u86, u87, u88, u89, u90, u91, u92, u93, u94, u95, u96, u97, u98, u99, u100, u101, u102, u103, u104, u105, u106, u107, u108, u109, u110, u111, u112, u113, u114, u115, u116, u117, u118, u119, u120, u121, u122, u123, u124, u125, u126, u127, u128, u129, u130, u131, u132, u133, u134, u135, u136, u137, u138, u139, u140, u141, u142, u143, u144, u145, u146, u147, u148, u149, u150, u151, u152, u153, u154, u155, u156, u157, u158, u159, u160, u161, u162, u163, u164, u165, u166, u167, u168, u169, u170, u171, u172, u173, u174, u175, u176, u177, u178, u179, u180, u181, u182, u183, u184, u185, u186, u187, u188, u189, u190, u191, u192, u193, u194, u195, u196, u197, u198, u199, u200, u201, u202, u203, u204, u205, u206, u207, u208, u209, u210, u211, u212, u213, u214, u215, u216, u217, u218, u219, u220, u221, u222, u223, u224, u225, u226, u227, u228, u229, u230, u231, u232, u233, u234, u235, u236, u237, u238, u239, u240, u241, u242, u243, u244, u245, u246, u247, u248, u249, u250, u251, u252, u253, u254, u255, u256, u257, u258, u259, u260, u261, u262, u263, u264, u265, u266, u267, u268, u269, u270, u271, u272, u273, u274, u275, u276, u277, u278, u279, u280, u281, u282, u283, u284, u285, u286, u287, u288, u289, u290, u291, u292, u293, u294, u295, u296, u297, u298, u299, u300, u301, u302, u303, u304, u305, u306, u307, u308, u309, u310, u311, u312, u313, u314, u315, u316, u317, u318, u319, u320, u321, u322, u323, u324, u325, u326, u327, u328, u329, u330, u331, u332, u333], []⟩ x := by
  refine tail_step rfl ?_
  intro K hK
  have BF := hide (F.bl.trans (D.out.mono F.bl.size))
  obtain ⟨b0, b1, b2, b3⟩ := (F.xb.later D.out F.xb.lt).four
  have HS := hide (Mx.bmay_ok F.hb).1
  by_cases h1 : k < 0
  · have dh1 : decide (k < 0) = true := by simpa using h1
    have HN := hide (Mx.nmay_1 (b := ⟨num, ops, es, be⟩) (n := n) (k := k) F.hb (.inl h1))
    have HDD := hide (Mx.dropped_not HN.out (by omega))
    have HF := hide (Mx.since_not (b := ⟨num, ops, es, be⟩) (n := n) (k := k) (by rw [HN.out]; omega))
    have hpn : pn = 0 := by have h := F.vp.1; rw [HF.out.2] at h; exact h.symm
    subst hpn
    rw [HF.out.1, HN.out]
    have XE := hide (F.xe.later D.out F.xe.lt)
    obtain ⟨g0, g1, g2, g3⟩ := (F.xd.later D.out F.xd.lt).four
    have VD := hide (show BuV x (.agg #[d0, d1, d2, d3]) Mx.zBu by rw [← HDD.out]; exact F.vd.later D.out)
    rw [HF.out.2] at XE
    dsimp only at XE
    have he1 : errV 1 = .iface 31 (.int .i64 1) := rfl
    have he : ∀ (a b : Int) (W : World), (binOp .eql 35 (.iface 31 (.int .i64 a)) (.iface 31 (.int .i64 b))).run Try.prog W = .ok (.bool (a == b)) W :=
      fun a b W => Lib.run_eql_iface_int W a b Try.underlying35 (by kernel_rfl) Try.underlying31
    rw [he1]
    clear F he1
    go_wp2_with fail
    refine (sameBu_true _ _ Mx.zBu _ VD.out (BuV.zero _)).mono ?_
    rintro e w2 ⟨rfl, E⟩
    have BG := hide (BF.out.trans (E.mono BF.out.size))
    obtain ⟨e0, e1⟩ := (XE.out.later E XE.out.lt).pair
    go_wp2_with fail
    go_ret
    exact ⟨rfl, BG.out⟩
  · have dh1 : decide (k < 0) = false := by simpa using h1
    by_cases h2 : num < k
    · have dh2 : decide (num < k) = true := by simpa using h2
      have HN := hide (Mx.nmay_1 (b := ⟨num, ops, es, be⟩) (n := n) (k := k) F.hb (.inr h2))
      have HDD := hide (Mx.dropped_not HN.out (by omega))
      have HF := hide (Mx.since_not (b := ⟨num, ops, es, be⟩) (n := n) (k := k) (by rw [HN.out]; omega))
      have hpn : pn = 0 := by have h := F.vp.1; rw [HF.out.2] at h; exact h.symm
      subst hpn
      rw [HF.out.1, HN.out]
      have XE := hide (F.xe.later D.out F.xe.lt)
      obtain ⟨g0, g1, g2, g3⟩ := (F.xd.later D.out F.xd.lt).four
      have VD := hide (show BuV x (.agg #[d0, d1, d2, d3]) Mx.zBu by rw [← HDD.out]; exact F.vd.later D.out)
      rw [HF.out.2] at XE
      dsimp only at XE
      have he1 : errV 1 = .iface 31 (.int .i64 1) := rfl
      have he : ∀ (a b : Int) (W : World), (binOp .eql 35 (.iface 31 (.int .i64 a)) (.iface 31 (.int .i64 b))).run Try.prog W = .ok (.bool (a == b)) W :=
        fun a b W => Lib.run_eql_iface_int W a b Try.underlying35 (by kernel_rfl) Try.underlying31
      rw [he1]
      clear F he1
      go_wp2_with fail
      refine (sameBu_true _ _ Mx.zBu _ VD.out (BuV.zero _)).mono ?_
      rintro e w2 ⟨rfl, E⟩
      have BG := hide (BF.out.trans (E.mono BF.out.size))
      obtain ⟨e0, e1⟩ := (XE.out.later E XE.out.lt).pair
      go_wp2_with fail
      go_ret
      exact ⟨rfl, BG.out⟩
    · have dh2 : decide (num < k) = false := by simpa using h2
      have HN := hide (Mx.nmay_0 (b := ⟨num, ops, es, be⟩) (n := n) (k := k) F.hb (by show ¬ (k < 0 ∨ num < k); omega))
      go_wp2_with fail
      exact Met.intro (et19 F D GW XW HN)

set_option maxHeartbeats 16000000 in
set_option maxRecDepth 100000 in
theorem et17 {w v : World} {num : Int} {oa : Option Addr} {on oc : Nat} {sa : Option Addr} {sn sc : Nat} {be : Bool} {ops : List Pt} {es : List Ep} {n px : Int} {pd : B8} {k : Int} {gA : Nat} {a0 a1 a2 a3 : Value} {gS : Nat} {s0 s1 s2 s3 : Value} {gD : Nat} {d0 d1 d2 d3 : Value} {gE : Nat} {pa : Option Addr} {pn pk : Nat} {u0 u2 u5 u6 u7 u8 u19 u21 u22 u23 u24 u25 u26 u27 u28 u29 u30 u31 u32 u33 u34 u35 u36 u37 u38 u39 u40 u41 u42 u43 u44 u45 u46 u47 u48 u49 u50 u51 u52 u53 u54 u55 u56 u57 u58 u59 u60 u61 u62 u63 u64 u65 u66 u67 u68 u69 u70 u71 u72 u73 u74 u75 u76 u77 u78 u79 u80 u81 u82 u83 u84 u85 u86 u87 u88 u89 u90 u91 u92 u93 u94 u95 u96 u97 u98 u99 u100 u101 u102 u103 u104 u105 u106 u107 u108 u109 u110 u111 u112 u113 u114 u115 u116 u117 u118 u119 u120 u121 u122 u123 u124 u125 u126 u127 u128 u129 u130 u131 u132 u133 u134 u135 u136 u137 u138 u139 u140 u141 u142 u143 u144 u145 u146 u147 u148 u149 u150 u151 u152 u153 u154 u155 u156 u157 u158 u159 u160 u161 u162 u163 u164 u165 u166 u167 u168 u169 u170 u171 u172 u173 u174 u175 u176 u177 u178 u179 u180 u181 u182 u183 u184 u185 u186 u187 u188 u189 u190 u191 u192 u193 u194 u195 u196 u197 u198 u199 u200 u201 u202 u203 u204 u205 u206 u207 u208 u209 u210 u211 u212 u213 u214 u215 u216 u217 u218 u219 u220 u221 u222 u223 u224 u225 u226 u227 u228 u229 u230 u231 u232 u233 u234 u235 u236 u237 u238 u239 u240 u241 u242 u243 u244 u245 u246 u247 u248 u249 u250 u251 u252 u253 u254 u255 u256 u257 u258 u259 u260 u261 u262 u263 u264 u265 u266 u267 u268 u269 u270 u271 u272 u273 u274 u275 u276 u277 u278 u279 u280 u281 u282 u283 u284 u285 u286 u287 u288 u289 u290 u291 u292 u293 u294 u295 u296 u297 u298 u299 u300 u301 u302 u303 u304 u305 u306 u307 u308 u309 u310 u311 u312 u313 u314 u315 u316 u317 u318 u319 u320 u321 u322 u323 u324 u325 u326 u327 u328 u329 u330 u331 u332 u333 : Value} {x : World} {g : Nat} {c0 c1 c2 c3 : Value} {e : Int} (F : Ef w v num oa on oc sa sn sc be ops es n px pd k gA a0 a1 a2 a3 gS s0 s1 s2 s3 gD d0 d1 d2 d3 gE pa pn pk) (D : Hid (Below v.heap.size v x)) (GW : Hid (v.heap.size ≤ g)) (XW : Hid (Bx x g #[c0, c1, c2, c3] 25)) (VW : Hid (BuV x (.agg #[c0, c1, c2, c3]) (Mx.sealed ⟨num, ops, es, be⟩ n))) (HE : Hid (e = (Mx.smay ⟨num, ops, es, be⟩ n))) :
    TailE 17 w ⟨#[u0, .int .i64 n, u2, .int .i64 k, .pointer (some ⟨w.heap.size, 0, none⟩), u5, u6, u7, u8, .int .i64 e, .pointer (some ⟨gA, 0, none⟩), errV (Mx.amay ⟨num, ops, es, be⟩ n ⟨px, pd⟩), .pointer (some ⟨gS, 0, none⟩), errV (Mx.smay ⟨num, ops, es, be⟩ n), .pointer (some ⟨gD, 0, none⟩), errV (Mx.nmay ⟨num, ops, es, be⟩ n k), .pointer (some ⟨gE, 0, none⟩), .bool (Mx.sinceB ⟨num, ops, es, be⟩ n k), errV (Mx.nmay ⟨num, ops, es, be⟩ n k), u19, .pointer (some ⟨g, 0, none⟩), u21, u22, u23, u24, u25, u26, u27, u28, u29, u30, u31, u32, u33, u34, u35, u36, u37, u38, u39, u40, u41, u42, u43, u44, u45, u46, u47, u48, u49, u50, u51, u52, u53, u54, u55, u56, u57, u58, u59, u60, u61, u62, u63, u64, u65, u66, u67, u68, u69, u70, u71, u72, u73, u74, u75, u76, u77, u78, u79, u80, u81, u82, u83, u84, u85, u86, u87, u88, u89, u90, u91, u92, u93, u94, u95, u96, u97, u98, u99, u100, u101, u102, u103, u104, u105, u106, u107, u108, u109, u110, u111, u112, u113, u114, u115, u116, u117, u118, u119, u120, u121, u122, u123, u124, u125, u126, u127, u128, u129, u130, u131, u132, u133, u134, u135, u136, u137, u138, u139, u140, u141, u142, u143, u144, u145, u146, u147, u148, u149, u150, u151, u152, u153, u154, u155, u156, u157, u158, u159, u160, u161, u162, u163, u164, u165, u166, u167, u168, u169, u170, u171, u172, u173, u174, u175, u176, u177, u178, u179, u180, u181, u182, u183, u184, u185, u186, u187, u188, u189, u190, u191, u192, u193, u194, u195, u196, u197, u198, u199, u200, u201, u202, u203, u204, u205, u206, u207, u208, u209, u210, u211, u212, u213, u214, u215, u216, u217, u218, u219, u220, u221, u222, u223, u224, u225, u226, u227, u228, u229, u230, u231, u232, u233, u234, u235, u236, u237, u238, u239, u240, u241, u242, u243, u244, u245, u246, u247, u248, u249, u250, u251, u252, u253, u254, u255, u256, u257, u258, u259, u260, u261, u262, u263, u264, u265, u266, u267, u268, u269, u270, u271, u272, u273, u274, u275, u276, u277, u278, u279, u280, u281, u282, u283, u284, u285, u286, u287, u288, u289, u290, u291, u292, u293, u294, u295, u296, u297, u298, u299, u300, u301, u302, u303, u304, u305, u306, u307, u308, u309, u310, u311, u312, u313, u314, u315, u316, u317, u318, u319, u320, u321, u322, u323, u324, u325, u326, u327, u328, u329, u330, u331, u332, u333], []⟩ x := by
  refine tail_step rfl ?_
  intro K hK
  obtain rfl := HE.out
  obtain ⟨f0, f1, f2, f3⟩ := XW.out.four
  obtain ⟨g0, g1, g2, g3⟩ := (F.xs.later D.out F.xs.lt).four
  have VS := hide (F.vs.later D.out)
  go_wp2_with fail
  refine (is_any (Mx.smay ⟨num, ops, es, be⟩ n) (Mx.smay ⟨num, ops, es, be⟩ n) _).mono ?_
  rintro e wz ⟨rfl, hz⟩
  obtain rfl := hz.symm
  clear hz
  rw [beq_self_eq_true]
  go_wp2_with fail
  refine (sameBu_true _ _ (Mx.sealed ⟨num, ops, es, be⟩ n) _ VS.out VW.out).mono ?_
  rintro e w2 ⟨rfl, E⟩
  go_wp2_with fail
  have ET := hide (D.out.trans (E.mono D.out.size))
  exact Met.intro (et18 F ET GW (hide (XW.out.later E XW.out.lt)))

set_option maxHeartbeats 16000000 in
set_option maxRecDepth 100000 in
theorem et16 {w v : World} {num : Int} {oa : Option Addr} {on oc : Nat} {sa : Option Addr} {sn sc : Nat} {be : Bool} {ops : List Pt} {es : List Ep} {n px : Int} {pd : B8} {k : Int} {gA : Nat} {a0 a1 a2 a3 : Value} {gS : Nat} {s0 s1 s2 s3 : Value} {gD : Nat} {d0 d1 d2 d3 : Value} {gE : Nat} {pa : Option Addr} {pn pk : Nat} {u0 u2 u5 u6 u7 u8 u19 u21 u22 u23 u24 u25 u26 u27 u28 u29 u30 u31 u32 u33 u34 u35 u36 u37 u38 u39 u40 u41 u42 u43 u44 u45 u46 u47 u48 u49 u50 u51 u52 u53 u54 u55 u56 u57 u58 u59 u60 u61 u62 u63 u64 u65 u66 u67 u68 u69 u70 u71 u72 u73 u74 u75 u76 u77 u78 u79 u80 u81 u82 u83 u84 u85 u86 u87 u88 u89 u90 u91 u92 u93 u94 u95 u96 u97 u98 u99 u100 u101 u102 u103 u104 u105 u106 u107 u108 u109 u110 u111 u112 u113 u114 u115 u116 u117 u118 u119 u120 u121 u122 u123 u124 u125 u126 u127 u128 u129 u130 u131 u132 u133 u134 u135 u136 u137 u138 u139 u140 u141 u142 u143 u144 u145 u146 u147 u148 u149 u150 u151 u152 u153 u154 u155 u156 u157 u158 u159 u160 u161 u162 u163 u164 u165 u166 u167 u168 u169 u170 u171 u172 u173 u174 u175 u176 u177 u178 u179 u180 u181 u182 u183 u184 u185 u186 u187 u188 u189 u190 u191 u192 u193 u194 u195 u196 u197 u198 u199 u200 u201 u202 u203 u204 u205 u206 u207 u208 u209 u210 u211 u212 u213 u214 u215 u216 u217 u218 u219 u220 u221 u222 u223 u224 u225 u226 u227 u228 u229 u230 u231 u232 u233 u234 u235 u236 u237 u238 u239 u240 u241 u242 u243 u244 u245 u246 u247 u248 u249 u250 u251 u252 u253 u254 u255 u256 u257 u258 u259 u260 u261 u262 u263 u264 u265 u266 u267 u268 u269 u270 u271 u272 u273 u274 u275 u276 u277 u278 u279 u280 u281 u282 u283 u284 u285 u286 u287 u288 u289 u290 u291 u292 u293 u294 u295 u296 u297 u298 u299 u300 u301 u302 u303 u304 u305 u306 u307 u308 u309 u310 u311 u312 u313 u314 u315 u316 u317 u318 u319 u320 u321 u322 u323 u324 u325 u326 u327 u328 u329 u330 u331 u332 u333 : Value} {x : World} {g : Nat} {c0 c1 c2 c3 : Value} (F : Ef w v num oa on oc sa sn sc be ops es n px pd k gA a0 a1 a2 a3 gS s0 s1 s2 s3 gD d0 d1 d2 d3 gE pa pn pk) (D : Hid (Below v.heap.size v x)) (GW : Hid (v.heap.size ≤ g)) (XW : Hid (Bx x g #[c0, c1, c2, c3] 25)) (VW : Hid (BuV x (.agg #[c0, c1, c2, c3]) (Mx.sealE ⟨num, ops, es, be⟩))) :
    TailE 16 w ⟨#[u0, .int .i64 n, u2, .int .i64 k, .pointer (some ⟨w.heap.size, 0, none⟩), u5, u6, u7, u8, .int .i64 0, .pointer (some ⟨gA, 0, none⟩), errV (Mx.amay ⟨num, ops, es, be⟩ n ⟨px, pd⟩), .pointer (some ⟨gS, 0, none⟩), errV (Mx.smay ⟨num, ops, es, be⟩ n), .pointer (some ⟨gD, 0, none⟩), errV (Mx.nmay ⟨num, ops, es, be⟩ n k), .pointer (some ⟨gE, 0, none⟩), .bool (Mx.sinceB ⟨num, ops, es, be⟩ n k), errV (Mx.nmay ⟨num, ops, es, be⟩ n k), u19, .pointer (some ⟨g, 0, none⟩), u21, u22, u23, u24, u25, u26, u27, u28, u29, u30, u31, u32, u33, u34, u35, u36, u37, u38, u39, u40, u41, u42, u43, u44, u45, u46, u47, u48, u49, u50, u51, u52, u53, u54, u55, u56, u57, u58, u59, u60, u61, u62, u63, u64, u65, u66, u67, u68, u69, u70, u71, u72, u73, u74, u75, u76, u77, u78, u79, u80, u81, u82, u83, u84, u85, u86, u87, u88, u89, u90, u91, u92, u93, u94, u95, u96, u97, u98, u99, u100, u101, u102, u103, u104, u105, u106, u107, u108, u109, u110, u111, u112, u113, u114, u115, u116, u117, u118, u119, u120, u121, u122, u123, u124, u125, u126, u127, u128, u129, u130, u131, u132, u133, u134, u135, u136, u137, u138, u139, u140, u141, u142, u143, u144, u145, u146, u147, u148, u149, u150, u151, u152, u153, u154, u155, u156, u157, u158, u159, u160, u161, u162, u163, u164, u165, u166, u167, u168, u169, u170, u171, u172, u173, u174, u175, u176, u177, u178, u179, u180, u181, u182, u183, u184, u185, u186, u187, u188, u189, u190, u191, u192, u193, u194, u195, u196, u197, u198, u199, u200, u201, u202, u203, u204, u205, u206, u207, u208, u209, u210, u211, u212, u213, u214, u215, u216, u217, u218, u219, u220, u221, u222, u223, u224, u225, u226, u227, u228, u229, u230, u231, u232, u233, u234, u235, u236, u237, u238, u239, u240, u241, u242, u243, u244, u245, u246, u247, u248, u249, u250, u251, u252, u253, u254, u255, u256, u257, u258, u259, u260, u261, u262, u263, u264, u265, u266, u267, u268, u269, u270, u271, u272, u273, u274, u275, u276, u277, u278, u279, u280, u281, u282, u283, u284, u285, u286, u287, u288, u289, u290, u291, u292, u293, u294, u295, u296, u297, u298, u299, u300, u301, u302, u303, u304, u305, u306, u307, u308, u309, u310, u311, u312, u313, u314, u315, u316, u317, u318, u319, u320, u321, u322, u323, u324, u325, u326, u327, u328, u329, u330, u331, u332, u333], []⟩ x := by
  refine tail_step rfl ?_
  intro K hK
  have BF := hide (F.bl.trans (D.out.mono F.bl.size))
  obtain ⟨b0, b1, b2, b3⟩ := (F.xb.later D.out F.xb.lt).four
  by_cases h1 : num = 2147483647
  · have dh1 : (num == 2147483647) = true := by simpa using h1
    have HM := hide (Mx.smay_2 (b := ⟨num, ops, es, be⟩) (n := n) F.hb h1)
    have HD := hide (Mx.sealed_not HM.out (by omega))
    obtain ⟨f0, f1, f2, f3⟩ := XW.out.four
    have fz := XW.out.frozen
    clear h1
    go_wp2_with fail
    have XS := hide (XW.out.four_set (.int .i64 0) (.slice none 0 0) (.slice none 0 0) (.bool false))
    exact Met.intro (et17 F (hide (set4_below D.out GW.out _ _ _ _)) GW XS (hide (by rw [HD.out]; exact BuV.zero _)) (hide HM.out.symm))
  · have dh1 : (num == 2147483647) = false := by simpa using h1
    have HM := hide (Mx.smay_0 (b := ⟨num, ops, es, be⟩) (n := n) F.hb h1)
    have HD := hide (Mx.sealed_ok HM.out)
    go_wp2_with fail
    exact Met.intro (et17 F D GW XW (hide (by rw [HD.out]; exact VW.out)) (hide HM.out.symm))

end Go.Proofs.Ytkebmfocgalinab

/-
  The law EpochSays in parts: what sealing is to answer.
-/
namespace Go.Proofs.Ytkebmfocgalinab
open Go.RowKit

theorem Mx.seal_be (num : Int) (ops : List Pt) (es : List Ep) : Mx.sealE ⟨num, ops, es, true⟩ = ⟨num + 1, [], [], true⟩ := by
  simp [Mx.sealE, Mx.fullB]

theorem Mx.seal_four {num : Int} {ops : List Pt} {es : List Ep} (h : es.length = 4) : Mx.sealE ⟨num, ops, es, false⟩ = ⟨num + 1, [], [], true⟩ := by
  simp [Mx.sealE, Mx.fullB, h]

theorem Mx.seal_more {num : Int} {ops : List Pt} {es : List Ep} (h : ¬ es.length = 4) : Mx.sealE ⟨num, ops, es, false⟩ = ⟨num + 1, [], es ++ [⟨num + 1, ops⟩], false⟩ := by
  simp [Mx.sealE, Mx.fullB, h]

theorem own0 (x : World) : OwnEL 0 (x.alloc (.cells #[] 42)) x.heap.size (.slice (some ⟨x.heap.size, 0, none⟩) 0 0) [] :=
  ⟨[], World.ownsRow_lit (base := x.heap.size) (e := 42) (size := 2) x #[] 0 (Nat.le_refl _) (by unfold maxLen; omega) rfl, fun i e he => by simp at he⟩

theorem own1 (x : World) (o : Obj) : OwnEL 0 ((x.alloc o).alloc (.cells #[] 42)) x.heap.size (.slice (some ⟨x.heap.size + 1, 0, none⟩) 0 0) [] := by
  have h := own0 (x.alloc o)
  rw [World.size_alloc] at h
  exact h.mono (by omega)

theorem new1 (x : World) (o : Obj) (cs : Array Value) (t : TypeId) : Bx ((x.alloc o).alloc (.cells cs t)).drew (x.heap.size + 1) cs t := by
  have h := Bx.newD (x.alloc o) cs t
  rw [World.size_alloc] at h
  exact h

theorem run_append_no {P : Program} {w : World} (base : Nat) (t ty e : TypeId) (i : TypeInfo) (size c : Nat) (ht : P.underlying t = some (.slice e)) (hi : P.info? e = some i)
    (v : Value) (n : Nat) (xs : List Value) (hown : w.ownsRow base e size v n xs) : (Builtin.append_ #[t, t] ty #[v, .slice none 0 c]).run P w = .ok v w := by
  have key := hown.2
  rcases key with ⟨h1, h2⟩ | ⟨g, cap, cur, h1, _, _, hle, _⟩
  · subst h1 h2
    simp [Builtin.append_, Builtin.lenOf, Builtin.firstCells, sizeOf, typeInfo, hi, run_underlying ht]
  · subst h1
    simp [Builtin.append_, Builtin.lenOf, Builtin.firstCells, sizeOf, typeInfo, hi, run_underlying ht, storeCells, hle]

theorem step_append_row0 {ops : Array Oper} {o : Oper} {a : Act} {w : World} {K : Act → World → Prop} {Q : Exit → Act → World → Prop} {E : Prop} (hgd : o.guard = none) (s x : Operand)
    (ho : o.op = Op.call { callee := Callee.builtin Builtin.append, args := #[s, x], argTypes := #[23, 23] }) (B base : Nat) (es : List Ep) (hown : OwnEL B w base (a.eval s) es)
    (sa : Option Addr) (n c : Nat) (es2 : List Ep) (hl : EL w sa n es2) (hoff : ELoff w es2 sa (a.eval s).ownBlock B)
    (hx : a.eval x = .slice sa n c) (h63 : es.length + n ≤ 1000000) (hbase : base ≤ w.heap.size)
    (hK : ∀ v' w', OwnEL B w' base v' (es ++ es2) → w.grownBy w' (a.eval s).ownBlock → K (a.put o.dst v') w') :
    if Region.wanted o (yielded ops a.tmps) = true then Oper.wp Try.prog o a w K Q else E := by
  by_cases h0 : 0 < n
  · obtain ⟨b, off, ha, _⟩ := hl.2.2 h0
    exact step_append_row hgd s x ho B base es hown sa n c es2 hl hoff (fun h => by rw [h] at ha; cases ha) (fun p hp => ⟨b, off, by rw [ha] at hp; cases hp; rfl⟩) hx h63 hbase hK
  · obtain rfl : n = 0 := by omega
    cases sa with
    | none =>
      have hw : Region.wanted o (yielded ops a.tmps) = true := by simp [Region.wanted, hgd]
      rw [if_pos hw]
      obtain ⟨vs, h1, h2⟩ := hown
      obtain ⟨i0, hi0, hz0, hz1, hz2⟩ := info_parts Try.info42
      obtain rfl : es2 = [] := List.eq_nil_of_length_eq_zero hl.1
      have hr := run_append_no (P := Try.prog) (w := w) base 23 o.type 42 i0 2 c Try.underlying23 hi0 (a.eval s) es.length vs h1
      unfold Oper.wp execOp
      simp only [ho, resolve, invoke, builtin, Sem.run_bind, Sem.run_pure, Result.andThen_ok, List.map_toArray, List.map_cons, List.map_nil, hx, hr]
      exact hK _ _ (by rw [List.append_nil]; exact ⟨vs, h1, h2⟩) ⟨rfl, rfl, rfl, Nat.le_refl _, fun _ _ _ => rfl⟩
    | some ad =>
      have hw : Region.wanted o (yielded ops a.tmps) = true := by simp [Region.wanted, hgd]
      rw [if_pos hw]
      obtain ⟨vs, h1, h2⟩ := hown
      obtain ⟨i0, hi0, hz0, hz1, hz2⟩ := info_parts Try.info42
      obtain rfl : es2 = [] := List.eq_nil_of_length_eq_zero hl.1
      obtain ⟨v', w', hr, hown', hg, _, hat⟩ := run_append_own_at (P := Try.prog) w base 23 o.type 42 i0 _ 2 32 Try.underlying23 hi0 hz0 hz1 hz2 rfl (by decide) (a.eval s) es.length vs h1 ad 0 c [] rfl (fun j u hj => by simp at hj) (by simp) (by unfold maxLen; omega) (by omega) hbase
      unfold Oper.wp execOp
      simp only [ho, resolve, invoke, builtin, Sem.run_bind, Sem.run_pure, Result.andThen_ok, List.map_toArray, List.map_cons, List.map_nil, hx, hr]
      exact hK _ _ (eps_after h1 h2 (es2 := []) (news := []) (fun i e he => by simp at he) rfl hown' hg hat) hg

theorem ez_row {x : World} {ops : Array Oper} {o : Oper} {a : Act} {w : World} {K : Act → World → Prop} {Q : Exit → Act → World → Prop} {E : Prop} (hgd : o.guard = none) (s y : Operand)
    (ho : o.op = Op.call { callee := Callee.builtin Builtin.append, args := #[s, y], argTypes := #[23, 23] }) (h0 : Nat) (hW : Below x.heap.size x w)
    (hO : OwnEL 0 w x.heap.size (.slice (some ⟨h0, 0, none⟩) 0 0) []) (hs : a.eval s = .slice (some ⟨h0, 0, none⟩) 0 0) {sa : Option Addr} {sn sc : Nat} {es : List Ep} (hy : a.eval y = .slice sa sn sc)
    (he : EL x sa sn es) (hl : es.length ≤ 4)
    (hK : ∀ v' w', Hid (OwnEL 0 w' x.heap.size v' es) → Hid (Below x.heap.size x w') → Hid (∀ h cs t, h ≠ h0 → Bx w h cs t → Bx w' h cs t) → K (a.put o.dst v') w') :
    if Region.wanted o (yielded ops a.tmps) = true then Oper.wp Try.prog o a w K Q else E := by
  have hO' : OwnEL 0 w x.heap.size (a.eval s) [] := by rw [hs]; exact hO
  have hn := he.1
  refine step_append_row0 hgd s y ho 0 x.heap.size [] hO' sa sn sc es (he.later hW) (he.off hW (fun q hq => (hO'.lt q hq).1)) hy (by simp only [List.length_nil]; omega) hW.size ?_
  intro v' w' h1 h2
  exact hK v' w' h1 (hW.grown h2 hW.size (fun q hq => (hO'.lt q hq).1)) (hide (fun h cs t hne hb => (h2.block h hb.lt (fun e => hne (by rw [hs] at e; exact Option.some.inj e))).trans hb))

theorem ez_ep {x : World} {ops : Array Oper} {o : Oper} {a : Act} {w : World} {K : Act → World → Prop} {Q : Exit → Act → World → Prop} {E : Prop} (hgd : o.guard = none) (s y : Operand)
    (ho : o.op = Op.call { callee := Callee.builtin Builtin.append, args := #[s, y], argTypes := #[23, 23] }) (h0 : Nat) (hW : Below x.heap.size x w) {v : Value} {es : List Ep}
    (hs : a.eval s = v) (hO : OwnEL 0 w x.heap.size v es) (hy : a.eval y = .slice (some ⟨h0, 0, none⟩) 1 1) {z : Int} {oa : Option Addr} {on oc : Nat} {ps : List Pt} (hB : Bx w h0 #[.int .i64 z, .slice oa on oc] 42)
    (hp : PL x oa on ps) (hoc : on ≤ oc) (hl : es.length ≤ 4)
    (hK : ∀ a' c' w', Hid (EL w' a' (es.length + 1) (es ++ [⟨z, ps⟩])) → Hid (es.length + 1 ≤ c') → Hid (Below x.heap.size x w') → Hid (∀ p, a' = some p → x.heap.size ≤ p.block) → K (a.put o.dst (.slice a' (es.length + 1) c')) w') :
    if Region.wanted o (yielded ops a.tmps) = true then Oper.wp Try.prog o a w K Q else E := by
  subst hs
  obtain ⟨c1, c2⟩ := hB.pair
  have hE : EL w (some ⟨h0, 0, none⟩) 1 [⟨z, ps⟩] := ⟨rfl, by unfold maxLen; omega, fun _ => ⟨h0, 0, rfl, hB.lt, fun i e he => by
    match i, he with
    | 0, he =>
      simp at he
      subst he
      exact ⟨oa, on, oc, c1, c2, hp.later hW, hoc⟩
    | i + 1, he => simp at he⟩⟩
  have hoff : ELoff w [⟨z, ps⟩] (some ⟨h0, 0, none⟩) (a.eval s).ownBlock 0 := by
    intro b off i e ai ni ci ha he hc hni p hp'
    simp only [Option.some.injEq, Addr.mk.injEq, and_true] at ha
    obtain ⟨rfl, rfl⟩ := ha
    refine ⟨fun hr => ?_, Nat.zero_le _⟩
    have h1 := (hO.lt _ hr).1
    match i, he with
    | 0, he =>
      have hc2 : w.cell? ⟨h0, 1, none⟩ = some (.slice ai ni ci) := hc
      rw [c2] at hc2
      simp only [Option.some.injEq, Value.slice.injEq] at hc2
      obtain ⟨rfl, rfl, rfl⟩ := hc2
      exact hp.off h1 hni p hp' rfl
    | i + 1, he => simp at he
  refine step_append_row hgd s y ho 0 x.heap.size es hO _ 1 1 _ hE hoff (fun h => by cases h) (fun p h => ⟨h0, 0, by cases h; rfl⟩) hy (by omega) hW.size ?_
  intro v' w' h1 h2
  obtain ⟨a', c', rfl, h3, h4⟩ := h1.el
  rw [List.length_append, List.length_singleton] at h3 h4 ⊢
  exact hK a' c' w' h4 h3 (hW.grown h2 hW.size (fun q hq => (hO.lt q hq).1)) (hide (fun p hp => by subst hp; exact (h1.lt p.block rfl).1))

set_option maxHeartbeats 16000000 in
set_option maxRecDepth 100000 in
theorem et15 {w v : World} {num : Int} {oa : Option Addr} {on oc : Nat} {sa : Option Addr} {sn sc : Nat} {be : Bool} {ops : List Pt} {es : List Ep} {n px : Int} {pd : B8} {k : Int} {gA : Nat} {a0 a1 a2 a3 : Value} {gS : Nat} {s0 s1 s2 s3 : Value} {gD : Nat} {d0 d1 d2 d3 : Value} {gE : Nat} {pa : Option Addr} {pn pk : Nat} {u0 u2 u5 u6 u7 u8 u19 u21 u22 u23 u24 u25 u26 u27 u28 u29 u30 u31 u32 u33 u34 u35 u36 u37 u38 u39 u40 u41 u42 u43 u44 u45 u46 u47 u48 u49 u50 u51 u52 u53 u54 u55 u56 u57 u58 u59 u60 u61 u62 u63 u64 u65 u66 u67 u68 u69 u70 u71 u72 u73 u74 u75 u76 u77 u78 u79 u80 u81 u82 u83 u84 u85 u86 u87 u88 u89 u90 u91 u92 u93 u94 u95 u96 u97 u98 u99 u100 u101 u102 u103 u104 u105 u106 u107 u108 u109 u110 u111 u112 u113 u114 u115 u116 u117 u118 u119 u120 u121 u122 u123 u124 u125 u126 u127 u128 u129 u130 u131 u132 u133 u134 u135 u136 u137 u138 u139 u140 u141 u142 u143 u144 u145 u146 u147 u148 u149 u150 u151 u152 u153 u154 u155 u156 u157 u158 u159 u160 u161 u162 u163 u164 u165 u166 u167 u168 u169 u170 u171 u172 u173 u174 u175 u176 u177 u178 u179 u180 u181 u182 u183 u184 u185 u186 u187 u188 u189 u190 u191 u192 u193 u194 u195 u196 u197 u198 u199 u200 u201 u202 u203 u204 u205 u206 u207 u208 u209 u210 u211 u212 u213 u214 u215 u216 u217 u218 u219 u220 u221 u222 u223 u224 u225 u226 u227 u228 u229 u230 u231 u232 u233 u234 u235 u236 u237 u238 u239 u240 u241 u242 u243 u244 u245 u246 u247 u248 u249 u250 u251 u252 u253 u254 u255 u256 u257 u258 u259 u260 u261 u262 u263 u264 u265 u266 u267 u268 u269 u270 u271 u272 u273 u274 u275 u276 u277 u278 u279 u280 u281 u282 u283 u284 u285 u286 u287 u288 u289 u290 u291 u292 u293 u294 u295 u296 u297 u298 u299 u300 u301 u302 u303 u304 u305 u306 u307 u308 u309 u310 u311 u312 u313 u314 u315 u316 u317 u318 u319 u320 u321 u322 u323 u324 u325 u326 u327 u328 u329 u330 u331 u332 u333 : Value} {x : World} {g : Nat} (F : Ef w v num oa on oc sa sn sc be ops es n px pd k gA a0 a1 a2 a3 gS s0 s1 s2 s3 gD d0 d1 d2 d3 gE pa pn pk) (D : Hid (Below v.heap.size v x)) (GW : Hid (v.heap.size ≤ g)) (XW : Hid (Bx x g #[.int .i64 (num + 1), .slice none 0 0, .slice none 0 0, .bool be] 25)) :
    TailE 15 w ⟨#[u0, .int .i64 n, u2, .int .i64 k, .pointer (some ⟨w.heap.size, 0, none⟩), u5, u6, u7, u8, .int .i64 0, .pointer (some ⟨gA, 0, none⟩), errV (Mx.amay ⟨num, ops, es, be⟩ n ⟨px, pd⟩), .pointer (some ⟨gS, 0, none⟩), errV (Mx.smay ⟨num, ops, es, be⟩ n), .pointer (some ⟨gD, 0, none⟩), errV (Mx.nmay ⟨num, ops, es, be⟩ n k), .pointer (some ⟨gE, 0, none⟩), .bool (Mx.sinceB ⟨num, ops, es, be⟩ n k), errV (Mx.nmay ⟨num, ops, es, be⟩ n k), u19, .pointer (some ⟨g, 0, none⟩), u21, u22, u23, u24, u25, u26, u27, u28, u29, u30, u31, u32, u33, u34, u35, u36, u37, u38, u39, u40, u41, u42, u43, u44, u45, u46, u47, u48, u49, u50, u51, u52, u53, u54, u55, u56, u57, u58, u59, u60, u61, u62, u63, u64, u65, u66, u67, u68, u69, u70, u71, u72, u73, u74, u75, u76, u77, u78, u79, u80, u81, u82, u83, u84, u85, u86, u87, u88, u89, u90, u91, u92, u93, u94, u95, u96, u97, u98, u99, u100, u101, u102, u103, u104, u105, u106, u107, u108, u109, u110, u111, u112, u113, u114, u115, u116, u117, u118, u119, u120, u121, u122, u123, u124, u125, u126, u127, u128, u129, u130, u131, u132, u133, u134, u135, u136, u137, u138, u139, u140, u141, u142, u143, u144, u145, u146, u147, u148, u149, u150, u151, u152, u153, u154, u155, u156, u157, u158, u159, u160, u161, u162, u163, u164, u165, u166, u167, u168, u169, u170, u171, u172, u173, u174, u175, u176, u177, u178, u179, u180, u181, u182, u183, u184, u185, u186, u187, u188, u189, u190, u191, u192, u193, u194, u195, u196, u197, u198, u199, u200, u201, u202, u203, u204, u205, u206, u207, u208, u209, u210, u211, u212, u213, u214, u215, u216, u217, u218, u219, u220, u221, u222, u223, u224, u225, u226, u227, u228, u229, u230, u231, u232, u233, u234, u235, u236, u237, u238, u239, u240, u241, u242, u243, u244, u245, u246, u247, u248, u249, u250, u251, u252, u253, u254, u255, u256, u257, u258, u259, u260, u261, u262, u263, u264, u265, u266, u267, u268, u269, u270, u271, u272, u273, u274, u275, u276, u277, u278, u279, u280, u281, u282, u283, u284, u285, u286, u287, u288, u289, u290, u291, u292, u293, u294, u295, u296, u297, u298, u299, u300, u301, u302, u303, u304, u305, u306, u307, u308, u309, u310, u311, u312, u313, u314, u315, u316, u317, u318, u319, u320, u321, u322, u323, u324, u325, u326, u327, u328, u329, u330, u331, u332, u333], []⟩ x := by
  refine tail_step rfl ?_
  intro K hK
  have BF := hide (F.bl.trans (D.out.mono F.bl.size))
  obtain ⟨b0, b1, b2, b3⟩ := (F.xb.later D.out F.xb.lt).four
  have HL := hide (F.he.1)
  have HS := hide (Mx.bmay_ok F.hb).1
  have HL4 := hide (Mx.bmay_ok F.hb).2.1
  have hn0 : 0 ≤ num := HS.out.2.2.1
  have hn1 : num ≤ 2147483647 := HS.out.2.2.2
  obtain ⟨f0, f1, f2, f3⟩ := XW.out.four
  have fz := XW.out.frozen
  cases be with
  | true =>
    go_wp2_with fail
    exact Met.intro (et16 F D GW XW (hide (by rw [Mx.seal_be]; exact ⟨none, 0, 0, none, 0, 0, rfl, PL.nil _, EL.nil _, Nat.le_refl _, Nat.le_refl _⟩)))
  | false =>
    by_cases h4 : sn = 4
    · subst h4
      go_wp2_with fail
      have XS := hide (show Bx (x.setCell ⟨g, 3, none⟩ (.bool true)) g #[.int .i64 (num + 1), .slice none 0 0, .slice none 0 0, .bool true] 25 from XW.out.set 3 _)
      exact Met.intro (et16 F (hide (D.out.setCell GW.out _)) GW XS (hide (by rw [Mx.seal_four HL.out]; exact ⟨none, 0, 0, none, 0, 0, rfl, PL.nil _, EL.nil _, Nat.le_refl _, Nat.le_refl _⟩)))
    · have dh4 : ((sn : Int) == 4) = false := by simpa using (show ¬ ((sn : Int) = 4) by omega)
      have HE := hide (F.he.later D.out)
      have HP := hide (F.hp.later D.out)
      have XB := hide (F.xb.later D.out F.xb.lt)
      have hW1 : IntKind.i64.wrap (num + 1) = num + 1 := by rw [IntWalk.i64_left, IntWalk.wrap64_in _ (by omega)]
      have hlb : w.heap.size < x.heap.size := XB.out.lt
      have hlb2 : w.heap.size < (x.alloc (.cells #[] 42)).heap.size := by simp; omega
      have hlb3 : w.heap.size < (x.alloc (.cells #[.int .i64 (num + 1), .slice oa on oc] 42)).heap.size := by simp; omega
      have hgb : ¬ g = w.heap.size := by have h1 := GW.out; have h2 := F.xb.lt; omega
      go_upto_region 25 with fail
      go_region_held3 (fun w' => w'.cell? ⟨w.heap.size, 0, none⟩ = some (.int .i64 num) ∧ w'.cell? ⟨w.heap.size, 1, none⟩ = some (.slice oa on oc) ∧ w'.cell? ⟨w.heap.size, 2, none⟩ = some (.slice sa sn sc))
        (first
          | with_reducible exact ⟨e0, e1, e2⟩
          | with_reducible exact ⟨c0, c1, c2⟩
          | (simp only [cell_alloc_lt hl3]; with_reducible exact ⟨c0, c1, c2⟩)
          | (simp only [cell_set_far hgb]; with_reducible exact ⟨e0, e1, e2⟩)
          | with_reducible exact ⟨b0, b1, b2⟩
          | (simp only [cell_drew]; with_reducible exact ⟨b0, b1, b2⟩)
          | (simp only [cell_drew, cell_alloc_lt hlb]; with_reducible exact ⟨b0, b1, b2⟩)
          | (simp only [cell_drew, cell_alloc_lt hlb2, cell_alloc_lt hlb]; with_reducible exact ⟨b0, b1, b2⟩)
          | (simp only [cell_drew, cell_alloc_lt hlb3, cell_alloc_lt hlb]; with_reducible exact ⟨b0, b1, b2⟩))
        (first
          | (refine ez_row (x := x) (w := (x.alloc (.cells #[] 42)).drew) rfl (.tmp 164) (.tmp 166) rfl x.heap.size ?o1 ?o2 rfl rfl HE.out HL4.out ?_; (case o1 => exact (below_alloc x _).drew); (case o2 => exact (own0 x).later (Below.refl _ _).drew); intro v3 w3 O3 D3 _; obtain ⟨c0, c1, c2, _⟩ := (XB.out.later D3.out hlb).four; have hl3 : w.heap.size < w3.heap.size := Nat.lt_of_lt_of_le hlb D3.out.size)
          | (refine ez_ep (x := x) (w := w3.alloc (.cells #[.int .i64 (num + 1), .slice oa on oc] 42)) rfl (.tmp 167) (.tmp 174) rfl w3.heap.size ?o1 rfl ?o2 rfl (Bx.new _ _ _) HP.out F.hon HL4.out ?_; (case o1 => exact D3.out.trans ((below_alloc _ _).mono D3.out.size)); (case o2 => exact O3.out.later (below_alloc _ _)); intro a5 k5 w5 E5 K5 D5 A5; obtain ⟨e0, e1, e2, _⟩ := (XB.out.later D5.out hlb).four; obtain ⟨i0, i1, i2, i3⟩ := (XW.out.later D5.out XW.out.lt).four; have iz := (XW.out.later D5.out XW.out.lt).frozen)
          | (refine ez_row (x := x) (w := ((x.alloc (.cells #[] 42)).alloc (.cells #[.int .i64 (num + 1), .slice oa on oc] 42)).drew) rfl (.tmp 164) (.tmp 166) rfl x.heap.size ?o1 ?o2 rfl rfl HE.out HL4.out ?_; (case o1 => exact ((below_alloc x _).alloc (by simp) _).drew); (case o2 => exact (own0 x).later (below_alloc _ _).drew); intro v3 w3 O3 D3 T3; have XEP := hide (T3.out _ _ _ (by omega) (new1 x _ #[.int .i64 (num + 1), .slice oa on oc] 42)); obtain ⟨c0, c1, c2, _⟩ := (XB.out.later D3.out hlb).four; have hl3 : w.heap.size < w3.heap.size := Nat.lt_of_lt_of_le hlb D3.out.size)
          | (refine ez_row (x := x) (w := ((x.alloc (.cells #[.int .i64 (num + 1), .slice oa on oc] 42)).alloc (.cells #[] 42)).drew) rfl (.tmp 164) (.tmp 166) rfl (x.heap.size + 1) ?o1 ?o2 rfl rfl HE.out HL4.out ?_; (case o1 => exact ((below_alloc x _).alloc (by simp) _).drew); (case o2 => exact (own1 x _).later (Below.refl _ _).drew); intro v3 w3 O3 D3 T3; have XEP := hide (T3.out x.heap.size _ _ (by omega) ((Bx.new x #[.int .i64 (num + 1), .slice oa on oc] 42).alloc (.cells #[] 42))); obtain ⟨c0, c1, c2, _⟩ := (XB.out.later D3.out hlb).four; have hl3 : w.heap.size < w3.heap.size := Nat.lt_of_lt_of_le hlb D3.out.size)
          | (refine ez_ep (x := x) (w := w3) rfl (.tmp 167) (.tmp 174) rfl _ D3.out rfl O3.out rfl XEP.out HP.out F.hon HL4.out ?_; intro a5 k5 w5 E5 K5 D5 A5; obtain ⟨e0, e1, e2, _⟩ := (XB.out.later D5.out hlb).four; obtain ⟨i0, i1, i2, i3⟩ := (XW.out.later D5.out XW.out.lt).four; have iz := (XW.out.later D5.out XW.out.lt).frozen))
      all_goals go_wp2_with fail
      all_goals
        have XW5 := hide (XW.out.later D5.out XW.out.lt)
        have XS := hide (show Bx (w5.setCell ⟨g, 2, none⟩ (.slice a5 (es.length + 1) k5)) g #[.int .i64 (num + 1), .slice none 0 0, .slice a5 (es.length + 1) k5, .bool false] 25 from XW5.out.set 2 _)
        have ES := hide (E5.out.grownBy XW5.out (fun p hp => by have h1 := A5.out p hp; have h2 := XW.out.lt; omega) (grow_set (grow_refl _ _) 2 (.slice a5 (es.length + 1) k5)))
        exact Met.intro (et16 F (hide ((D.out.trans (D5.out.mono D.out.size)).setCell GW.out _)) GW XS (hide (by rw [Mx.seal_more (by rw [HL.out]; exact h4)]; exact ⟨none, 0, 0, a5, es.length + 1, k5, rfl, PL.nil _, ES.out, Nat.le_refl _, K5.out⟩)))

end Go.Proofs.Ytkebmfocgalinab

/-
  The law EpochSays in parts: what was added.
-/
namespace Go.Proofs.Ytkebmfocgalinab
open Go.RowKit

set_option maxHeartbeats 16000000 in
set_option maxRecDepth 100000 in
theorem et14 {w v : World} {num : Int} {oa : Option Addr} {on oc : Nat} {sa : Option Addr} {sn sc : Nat} {be : Bool} {ops : List Pt} {es : List Ep} {n px : Int} {pd : B8} {k : Int} {gA : Nat} {a0 a1 a2 a3 : Value} {gS : Nat} {s0 s1 s2 s3 : Value} {gD : Nat} {d0 d1 d2 d3 : Value} {gE : Nat} {pa : Option Addr} {pn pk : Nat} {u0 u2 u5 u6 u7 u8 u19 u21 u22 u23 u24 u25 u26 u27 u28 u29 u30 u31 u32 u33 u34 u35 u36 u37 u38 u39 u40 u41 u42 u43 u44 u45 u46 u47 u48 u49 u50 u51 u52 u53 u54 u55 u56 u57 u58 u59 u60 u61 u62 u63 u64 u65 u66 u67 u68 u69 u70 u71 u72 u73 u74 u75 u76 u77 u78 u79 u80 u81 u82 u83 u84 u85 u86 u87 u88 u89 u90 u91 u92 u93 u94 u95 u96 u97 u98 u99 u100 u101 u102 u103 u104 u105 u106 u107 u108 u109 u110 u111 u112 u113 u114 u115 u116 u117 u118 u119 u120 u121 u122 u123 u124 u125 u126 u127 u128 u129 u130 u131 u132 u133 u134 u135 u136 u137 u138 u139 u140 u141 u142 u143 u144 u145 u146 u147 u148 u149 u150 u151 u152 u153 u154 u155 u156 u157 u158 u159 u160 u161 u162 u163 u164 u165 u166 u167 u168 u169 u170 u171 u172 u173 u174 u175 u176 u177 u178 u179 u180 u181 u182 u183 u184 u185 u186 u187 u188 u189 u190 u191 u192 u193 u194 u195 u196 u197 u198 u199 u200 u201 u202 u203 u204 u205 u206 u207 u208 u209 u210 u211 u212 u213 u214 u215 u216 u217 u218 u219 u220 u221 u222 u223 u224 u225 u226 u227 u228 u229 u230 u231 u232 u233 u234 u235 u236 u237 u238 u239 u240 u241 u242 u243 u244 u245 u246 u247 u248 u249 u250 u251 u252 u253 u254 u255 u256 u257 u258 u259 u260 u261 u262 u263 u264 u265 u266 u267 u268 u269 u270 u271 u272 u273 u274 u275 u276 u277 u278 u279 u280 u281 u282 u283 u284 u285 u286 u287 u288 u289 u290 u291 u292 u293 u294 u295 u296 u297 u298 u299 u300 u301 u302 u303 u304 u305 u306 u307 u308 u309 u310 u311 u312 u313 u314 u315 u316 u317 u318 u319 u320 u321 u322 u323 u324 u325 u326 u327 u328 u329 u330 u331 u332 u333 : Value} {x : World} {g : Nat} {c0 c1 c2 c3 : Value} (F : Ef w v num oa on oc sa sn sc be ops es n px pd k gA a0 a1 a2 a3 gS s0 s1 s2 s3 gD d0 d1 d2 d3 gE pa pn pk) (D : Hid (Below v.heap.size v x)) (GW : Hid (v.heap.size ≤ g)) (XW : Hid (Bx x g #[c0, c1, c2, c3] 25)) :
    TailE 14 w ⟨#[u0, .int .i64 n, u2, .int .i64 k, .pointer (some ⟨w.heap.size, 0, none⟩), u5, u6, u7, u8, .int .i64 0, .pointer (some ⟨gA, 0, none⟩), errV (Mx.amay ⟨num, ops, es, be⟩ n ⟨px, pd⟩), .pointer (some ⟨gS, 0, none⟩), errV (Mx.smay ⟨num, ops, es, be⟩ n), .pointer (some ⟨gD, 0, none⟩), errV (Mx.nmay ⟨num, ops, es, be⟩ n k), .pointer (some ⟨gE, 0, none⟩), .bool (Mx.sinceB ⟨num, ops, es, be⟩ n k), errV (Mx.nmay ⟨num, ops, es, be⟩ n k), u19, .pointer (some ⟨g, 0, none⟩), u21, u22, u23, u24, u25, u26, u27, u28, u29, u30, u31, u32, u33, u34, u35, u36, u37, u38, u39, u40, u41, u42, u43, u44, u45, u46, u47, u48, u49, u50, u51, u52, u53, u54, u55, u56, u57, u58, u59, u60, u61, u62, u63, u64, u65, u66, u67, u68, u69, u70, u71, u72, u73, u74, u75, u76, u77, u78, u79, u80, u81, u82, u83, u84, u85, u86, u87, u88, u89, u90, u91, u92, u93, u94, u95, u96, u97, u98, u99, u100, u101, u102, u103, u104, u105, u106, u107, u108, u109, u110, u111, u112, u113, u114, u115, u116, u117, u118, u119, u120, u121, u122, u123, u124, u125, u126, u127, u128, u129, u130, u131, u132, u133, u134, u135, u136, u137, u138, u139, u140, u141, u142, u143, u144, u145, u146, u147, u148, u149, u150, u151, u152, u153, u154, u155, u156, u157, u158, u159, u160, u161, u162, u163, u164, u165, u166, u167, u168, u169, u170, u171, u172, u173, u174, u175, u176, u177, u178, u179, u180, u181, u182, u183, u184, u185, u186, u187, u188, u189, u190, u191, u192, u193, u194, u195, u196, u197, u198, u199, u200, u201, u202, u203, u204, u205, u206, u207, u208, u209, u210, u211, u212, u213, u214, u215, u216, u217, u218, u219, u220, u221, u222, u223, u224, u225, u226, u227, u228, u229, u230, u231, u232, u233, u234, u235, u236, u237, u238, u239, u240, u241, u242, u243, u244, u245, u246, u247, u248, u249, u250, u251, u252, u253, u254, u255, u256, u257, u258, u259, u260, u261, u262, u263, u264, u265, u266, u267, u268, u269, u270, u271, u272, u273, u274, u275, u276, u277, u278, u279, u280, u281, u282, u283, u284, u285, u286, u287, u288, u289, u290, u291, u292, u293, u294, u295, u296, u297, u298, u299, u300, u301, u302, u303, u304, u305, u306, u307, u308, u309, u310, u311, u312, u313, u314, u315, u316, u317, u318, u319, u320, u321, u322, u323, u324, u325, u326, u327, u328, u329, u330, u331, u332, u333], []⟩ x := by
  refine tail_step rfl ?_
  intro K hK
  have BF := hide (F.bl.trans (D.out.mono F.bl.size))
  obtain ⟨b0, b1, b2, b3⟩ := (F.xb.later D.out F.xb.lt).four
  obtain ⟨f0, f1, f2, f3⟩ := XW.out.four
  have fz := XW.out.frozen
  have HS := hide (Mx.bmay_ok F.hb).1
  have hn0 : 0 ≤ num := HS.out.2.2.1
  have hn1 : num ≤ 2147483647 := HS.out.2.2.2
  go_wp2_with fail
  exact Met.intro (et15 F (hide (set4_below D.out GW.out _ _ _ _)) GW (hide (XW.out.four_set _ _ _ _)))

set_option maxHeartbeats 16000000 in
set_option maxRecDepth 100000 in
theorem et13 {w v : World} {num : Int} {oa : Option Addr} {on oc : Nat} {sa : Option Addr} {sn sc : Nat} {be : Bool} {ops : List Pt} {es : List Ep} {n px : Int} {pd : B8} {k : Int} {gA : Nat} {a0 a1 a2 a3 : Value} {gS : Nat} {s0 s1 s2 s3 : Value} {gD : Nat} {d0 d1 d2 d3 : Value} {gE : Nat} {pa : Option Addr} {pn pk : Nat} {u0 u2 u5 u6 u7 u8 u9 u19 u21 u22 u23 u24 u25 u26 u27 u28 u29 u30 u31 u32 u33 u34 u35 u36 u37 u38 u39 u40 u41 u42 u43 u44 u45 u46 u47 u48 u49 u50 u51 u52 u53 u54 u55 u56 u57 u58 u59 u60 u61 u62 u63 u64 u65 u66 u67 u68 u69 u70 u71 u72 u73 u74 u75 u76 u77 u78 u79 u80 u81 u82 u83 u84 u85 u86 u87 u88 u89 u90 u91 u92 u93 u94 u95 u96 u97 u98 u99 u100 u101 u102 u103 u104 u105 u106 u107 u108 u109 u110 u111 u112 u113 u114 u115 u116 u117 u118 u119 u120 u121 u122 u123 u124 u125 u126 u127 u128 u129 u130 u131 u132 u133 u134 u135 u136 u137 u138 u139 u140 u141 u142 u143 u144 u145 u146 u147 u148 u149 u150 u151 u152 u153 u154 u155 u156 u157 u158 u159 u160 u161 u162 u163 u164 u165 u166 u167 u168 u169 u170 u171 u172 u173 u174 u175 u176 u177 u178 u179 u180 u181 u182 u183 u184 u185 u186 u187 u188 u189 u190 u191 u192 u193 u194 u195 u196 u197 u198 u199 u200 u201 u202 u203 u204 u205 u206 u207 u208 u209 u210 u211 u212 u213 u214 u215 u216 u217 u218 u219 u220 u221 u222 u223 u224 u225 u226 u227 u228 u229 u230 u231 u232 u233 u234 u235 u236 u237 u238 u239 u240 u241 u242 u243 u244 u245 u246 u247 u248 u249 u250 u251 u252 u253 u254 u255 u256 u257 u258 u259 u260 u261 u262 u263 u264 u265 u266 u267 u268 u269 u270 u271 u272 u273 u274 u275 u276 u277 u278 u279 u280 u281 u282 u283 u284 u285 u286 u287 u288 u289 u290 u291 u292 u293 u294 u295 u296 u297 u298 u299 u300 u301 u302 u303 u304 u305 u306 u307 u308 u309 u310 u311 u312 u313 u314 u315 u316 u317 u318 u319 u320 u321 u322 u323 u324 u325 u326 u327 u328 u329 u330 u331 u332 u333 : Value} {x : World} {g : Nat} {c0 c1 c2 c3 : Value} (F : Ef w v num oa on oc sa sn sc be ops es n px pd k gA a0 a1 a2 a3 gS s0 s1 s2 s3 gD d0 d1 d2 d3 gE pa pn pk) (D : Hid (Below v.heap.size v x)) (GW : Hid (v.heap.size ≤ g)) (XW : Hid (Bx x g #[c0, c1, c2, c3] 25)) :
    TailE 13 w ⟨#[u0, .int .i64 n, u2, .int .i64 k, .pointer (some ⟨w.heap.size, 0, none⟩), u5, u6, u7, u8, u9, .pointer (some ⟨gA, 0, none⟩), errV (Mx.amay ⟨num, ops, es, be⟩ n ⟨px, pd⟩), .pointer (some ⟨gS, 0, none⟩), errV (Mx.smay ⟨num, ops, es, be⟩ n), .pointer (some ⟨gD, 0, none⟩), errV (Mx.nmay ⟨num, ops, es, be⟩ n k), .pointer (some ⟨gE, 0, none⟩), .bool (Mx.sinceB ⟨num, ops, es, be⟩ n k), errV (Mx.nmay ⟨num, ops, es, be⟩ n k), u19, .pointer (some ⟨g, 0, none⟩), u21, u22, u23, u24, u25, u26, u27, u28, u29, u30, u31, u32, u33, u34, u35, u36, u37, u38, u39, u40, u41, u42, u43, u44, u45, u46, u47, u48, u49, u50, u51, u52, u53, u54, u55, u56, u57, u58, u59, u60, u61, u62, u63, u64, u65, u66, u67, u68, u69, u70, u71, u72, u73, u74, u75, u76, u77, u78, u79, u80, u81, u82, u83, u84, u85, u86, u87, u88, u89, u90, u91, u92, u93, u94, u95, u96, u97, u98, u99, u100, u101, u102, u103, u104, u105, u106, u107, u108, u109, u110, u111, u112, u113, u114, u115, u116, u117, u118, u119, u120, u121, u122, u123, u124, u125, u126, u127, u128, u129, u130, u131, u132, u133, u134, u135, u136, u137, u138, u139, u140, u141, u142, u143, u144, u145, u146, u147, u148, u149, u150, u151, u152, u153, u154, u155, u156, u157, u158, u159, u160, u161, u162, u163, u164, u165, u166, u167, u168, u169, u170, u171, u172, u173, u174, u175, u176, u177, u178, u179, u180, u181, u182, u183, u184, u185, u186, u187, u188, u189, u190, u191, u192, u193, u194, u195, u196, u197, u198, u199, u200, u201, u202, u203, u204, u205, u206, u207, u208, u209, u210, u211, u212, u213, u214, u215, u216, u217, u218, u219, u220, u221, u222, u223, u224, u225, u226, u227, u228, u229, u230, u231, u232, u233, u234, u235, u236, u237, u238, u239, u240, u241, u242, u243, u244, u245, u246, u247, u248, u249, u250, u251, u252, u253, u254, u255, u256, u257, u258, u259, u260, u261, u262, u263, u264, u265, u266, u267, u268, u269, u270, u271, u272, u273, u274, u275, u276, u277, u278, u279, u280, u281, u282, u283, u284, u285, u286, u287, u288, u289, u290, u291, u292, u293, u294, u295, u296, u297, u298, u299, u300, u301, u302, u303, u304, u305, u306, u307, u308, u309, u310, u311, u312, u313, u314, u315, u316, u317, u318, u319, u320, u321, u322, u323, u324, u325, u326, u327, u328, u329, u330, u331, u332, u333], []⟩ x := by
  refine tail_step rfl ?_
  intro K hK
  go_wp2_with fail
  exact Met.intro (et14 F D GW XW)

set_option maxHeartbeats 16000000 in
set_option maxRecDepth 100000 in
theorem et12 {w v : World} {num : Int} {oa : Option Addr} {on oc : Nat} {sa : Option Addr} {sn sc : Nat} {be : Bool} {ops : List Pt} {es : List Ep} {n px : Int} {pd : B8} {k : Int} {gA : Nat} {a0 a1 a2 a3 : Value} {gS : Nat} {s0 s1 s2 s3 : Value} {gD : Nat} {d0 d1 d2 d3 : Value} {gE : Nat} {pa : Option Addr} {pn pk : Nat} {u0 u2 u5 u6 u7 u8 u19 u21 u22 u23 u24 u25 u26 u27 u28 u29 u30 u31 u32 u33 u34 u35 u36 u37 u38 u39 u40 u41 u42 u43 u44 u45 u46 u47 u48 u49 u50 u51 u52 u53 u54 u55 u56 u57 u58 u59 u60 u61 u62 u63 u64 u65 u66 u67 u68 u69 u70 u71 u72 u73 u74 u75 u76 u77 u78 u79 u80 u81 u82 u83 u84 u85 u86 u87 u88 u89 u90 u91 u92 u93 u94 u95 u96 u97 u98 u99 u100 u101 u102 u103 u104 u105 u106 u107 u108 u109 u110 u111 u112 u113 u114 u115 u116 u117 u118 u119 u120 u121 u122 u123 u124 u125 u126 u127 u128 u129 u130 u131 u132 u133 u134 u135 u136 u137 u138 u139 u140 u141 u142 u143 u144 u145 u146 u147 u148 u149 u150 u151 u152 u153 u154 u155 u156 u157 u158 u159 u160 u161 u162 u163 u164 u165 u166 u167 u168 u169 u170 u171 u172 u173 u174 u175 u176 u177 u178 u179 u180 u181 u182 u183 u184 u185 u186 u187 u188 u189 u190 u191 u192 u193 u194 u195 u196 u197 u198 u199 u200 u201 u202 u203 u204 u205 u206 u207 u208 u209 u210 u211 u212 u213 u214 u215 u216 u217 u218 u219 u220 u221 u222 u223 u224 u225 u226 u227 u228 u229 u230 u231 u232 u233 u234 u235 u236 u237 u238 u239 u240 u241 u242 u243 u244 u245 u246 u247 u248 u249 u250 u251 u252 u253 u254 u255 u256 u257 u258 u259 u260 u261 u262 u263 u264 u265 u266 u267 u268 u269 u270 u271 u272 u273 u274 u275 u276 u277 u278 u279 u280 u281 u282 u283 u284 u285 u286 u287 u288 u289 u290 u291 u292 u293 u294 u295 u296 u297 u298 u299 u300 u301 u302 u303 u304 u305 u306 u307 u308 u309 u310 u311 u312 u313 u314 u315 u316 u317 u318 u319 u320 u321 u322 u323 u324 u325 u326 u327 u328 u329 u330 u331 u332 u333 : Value} {x : World} {g : Nat} {c0 c1 c2 c3 : Value} {e : Int} (F : Ef w v num oa on oc sa sn sc be ops es n px pd k gA a0 a1 a2 a3 gS s0 s1 s2 s3 gD d0 d1 d2 d3 gE pa pn pk) (D : Hid (Below v.heap.size v x)) (GW : Hid (v.heap.size ≤ g)) (XW : Hid (Bx x g #[c0, c1, c2, c3] 25)) (VW : Hid (BuV x (.agg #[c0, c1, c2, c3]) (Mx.added ⟨num, ops, es, be⟩ n ⟨px, pd⟩))) (HE : Hid (e = (Mx.amay ⟨num, ops, es, be⟩ n ⟨px, pd⟩))) :
    TailE 12 w ⟨#[u0, .int .i64 n, u2, .int .i64 k, .pointer (some ⟨w.heap.size, 0, none⟩), u5, u6, u7, u8, .int .i64 e, .pointer (some ⟨gA, 0, none⟩), errV (Mx.amay ⟨num, ops, es, be⟩ n ⟨px, pd⟩), .pointer (some ⟨gS, 0, none⟩), errV (Mx.smay ⟨num, ops, es, be⟩ n), .pointer (some ⟨gD, 0, none⟩), errV (Mx.nmay ⟨num, ops, es, be⟩ n k), .pointer (some ⟨gE, 0, none⟩), .bool (Mx.sinceB ⟨num, ops, es, be⟩ n k), errV (Mx.nmay ⟨num, ops, es, be⟩ n k), u19, .pointer (some ⟨g, 0, none⟩), u21, u22, u23, u24, u25, u26, u27, u28, u29, u30, u31, u32, u33, u34, u35, u36, u37, u38, u39, u40, u41, u42, u43, u44, u45, u46, u47, u48, u49, u50, u51, u52, u53, u54, u55, u56, u57, u58, u59, u60, u61, u62, u63, u64, u65, u66, u67, u68, u69, u70, u71, u72, u73, u74, u75, u76, u77, u78, u79, u80, u81, u82, u83, u84, u85, u86, u87, u88, u89, u90, u91, u92, u93, u94, u95, u96, u97, u98, u99, u100, u101, u102, u103, u104, u105, u106, u107, u108, u109, u110, u111, u112, u113, u114, u115, u116, u117, u118, u119, u120, u121, u122, u123, u124, u125, u126, u127, u128, u129, u130, u131, u132, u133, u134, u135, u136, u137, u138, u139, u140, u141, u142, u143, u144, u145, u146, u147, u148, u149, u150, u151, u152, u153, u154, u155, u156, u157, u158, u159, u160, u161, u162, u163, u164, u165, u166, u167, u168, u169, u170, u171, u172, u173, u174, u175, u176, u177, u178, u179, u180, u181, u182, u183, u184, u185, u186, u187, u188, u189, u190, u191, u192, u193, u194, u195, u196, u197, u198, u199, u200, u201, u202, u203, u204, u205, u206, u207, u208, u209, u210, u211, u212, u213, u214, u215, u216, u217, u218, u219, u220, u221, u222, u223, u224, u225, u226, u227, u228, u229, u230, u231, u232, u233, u234, u235, u236, u237, u238, u239, u240, u241, u242, u243, u244, u245, u246, u247, u248, u249, u250, u251, u252, u253, u254, u255, u256, u257, u258, u259, u260, u261, u262, u263, u264, u265, u266, u267, u268, u269, u270, u271, u272, u273, u274, u275, u276, u277, u278, u279, u280, u281, u282, u283, u284, u285, u286, u287, u288, u289, u290, u291, u292, u293, u294, u295, u296, u297, u298, u299, u300, u301, u302, u303, u304, u305, u306, u307, u308, u309, u310, u311, u312, u313, u314, u315, u316, u317, u318, u319, u320, u321, u322, u323, u324, u325, u326, u327, u328, u329, u330, u331, u332, u333], []⟩ x := by
  refine tail_step rfl ?_
  intro K hK
  obtain rfl := HE.out
  obtain ⟨f0, f1, f2, f3⟩ := XW.out.four
  obtain ⟨g0, g1, g2, g3⟩ := (F.xa.later D.out F.xa.lt).four
  have VS := hide (F.va.later D.out)
  go_wp2_with fail
  refine (is_any (Mx.amay ⟨num, ops, es, be⟩ n ⟨px, pd⟩) (Mx.amay ⟨num, ops, es, be⟩ n ⟨px, pd⟩) _).mono ?_
  rintro e wz ⟨rfl, hz⟩
  obtain rfl := hz.symm
  clear hz
  rw [beq_self_eq_true]
  go_wp2_with fail
  refine (sameBu_true _ _ (Mx.added ⟨num, ops, es, be⟩ n ⟨px, pd⟩) _ VS.out VW.out).mono ?_
  rintro e w2 ⟨rfl, E⟩
  go_wp2_with fail
  have ET := hide (D.out.trans (E.mono D.out.size))
  exact Met.intro (et13 F ET GW (hide (XW.out.later E XW.out.lt)))

set_option maxHeartbeats 16000000 in
set_option maxRecDepth 100000 in
theorem et11 {w v : World} {num : Int} {oa : Option Addr} {on oc : Nat} {sa : Option Addr} {sn sc : Nat} {be : Bool} {ops : List Pt} {es : List Ep} {n px : Int} {pd : B8} {k : Int} {gA : Nat} {a0 a1 a2 a3 : Value} {gS : Nat} {s0 s1 s2 s3 : Value} {gD : Nat} {d0 d1 d2 d3 : Value} {gE : Nat} {pa : Option Addr} {pn pk : Nat} {u0 u2 u5 u7 u8 u19 u21 u22 u23 u24 u25 u26 u27 u28 u29 u30 u31 u32 u33 u34 u35 u36 u37 u38 u39 u40 u41 u42 u43 u44 u45 u46 u47 u48 u49 u50 u51 u52 u53 u54 u55 u56 u57 u58 u59 u60 u61 u62 u63 u64 u65 u66 u67 u68 u69 u70 u71 u72 u73 u74 u75 u76 u77 u78 u79 u80 u81 u82 u83 u84 u85 u86 u87 u88 u89 u90 u91 u92 u93 u94 u95 u96 u97 u98 u99 u100 u101 u102 u103 u104 u105 u106 u107 u108 u109 u110 u111 u112 u113 u114 u115 u116 u117 u118 u119 u120 u121 u122 u123 u124 u125 u126 u127 u128 u129 u130 u131 u132 u133 u134 u135 u136 u137 u138 u139 u140 u141 u142 u143 u144 u145 u146 u147 u148 u149 u150 u151 u152 u153 u154 u155 u156 u157 u158 u159 u160 u161 u162 u163 u164 u165 u166 u167 u168 u169 u170 u171 u172 u173 u174 u175 u176 u177 u178 u179 u180 u181 u182 u183 u184 u185 u186 u187 u188 u189 u190 u191 u192 u193 u194 u195 u196 u197 u198 u199 u200 u201 u202 u203 u204 u205 u206 u207 u208 u209 u210 u211 u212 u213 u214 u215 u216 u217 u218 u219 u220 u221 u222 u223 u224 u225 u226 u227 u228 u229 u230 u231 u232 u233 u234 u235 u236 u237 u238 u239 u240 u241 u242 u243 u244 u245 u246 u247 u248 u249 u250 u251 u252 u253 u254 u255 u256 u257 u258 u259 u260 u261 u262 u263 u264 u265 u266 u267 u268 u269 u270 u271 u272 u273 u274 u275 u276 u277 u278 u279 u280 u281 u282 u283 u284 u285 u286 u287 u288 u289 u290 u291 u292 u293 u294 u295 u296 u297 u298 u299 u300 u301 u302 u303 u304 u305 u306 u307 u308 u309 u310 u311 u312 u313 u314 u315 u316 u317 u318 u319 u320 u321 u322 u323 u324 u325 u326 u327 u328 u329 u330 u331 u332 u333 : Value} {x : World} {g : Nat} {ua : Option Addr} {un uk : Nat} (F : Ef w v num oa on oc sa sn sc be ops es n px pd k gA a0 a1 a2 a3 gS s0 s1 s2 s3 gD d0 d1 d2 d3 gE pa pn pk) (D : Hid (Below v.heap.size v x)) (GW : Hid (v.heap.size ≤ g)) (XW : Hid (Bx x g #[.int .i64 num, .slice ua un uk, .slice sa sn sc, .bool be] 25)) (PW : Hid (PL x ua un (Mx.putF ops ⟨px, pd⟩))) (KU : Hid (un ≤ uk)) :
    TailE 11 w ⟨#[u0, .int .i64 n, u2, .int .i64 k, .pointer (some ⟨w.heap.size, 0, none⟩), u5, .pointer (some ⟨(w.heap.size + 1), 0, none⟩), u7, u8, .int .i64 0, .pointer (some ⟨gA, 0, none⟩), errV (Mx.amay ⟨num, ops, es, be⟩ n ⟨px, pd⟩), .pointer (some ⟨gS, 0, none⟩), errV (Mx.smay ⟨num, ops, es, be⟩ n), .pointer (some ⟨gD, 0, none⟩), errV (Mx.nmay ⟨num, ops, es, be⟩ n k), .pointer (some ⟨gE, 0, none⟩), .bool (Mx.sinceB ⟨num, ops, es, be⟩ n k), errV (Mx.nmay ⟨num, ops, es, be⟩ n k), u19, .pointer (some ⟨g, 0, none⟩), u21, u22, u23, u24, u25, u26, u27, u28, u29, u30, u31, u32, u33, u34, u35, u36, u37, u38, u39, u40, u41, u42, u43, u44, u45, u46, u47, u48, u49, u50, u51, u52, u53, u54, u55, u56, u57, u58, u59, u60, u61, u62, u63, u64, u65, u66, u67, u68, u69, u70, u71, u72, u73, u74, u75, u76, u77, u78, u79, u80, u81, u82, u83, u84, u85, u86, u87, u88, u89, u90, u91, u92, u93, u94, u95, u96, u97, u98, u99, u100, u101, u102, u103, u104, u105, u106, u107, u108, u109, u110, u111, u112, u113, u114, u115, u116, u117, u118, u119, u120, u121, u122, u123, u124, u125, u126, u127, u128, u129, u130, u131, u132, u133, u134, u135, u136, u137, u138, u139, u140, u141, u142, u143, u144, u145, u146, u147, u148, u149, u150, u151, u152, u153, u154, u155, u156, u157, u158, u159, u160, u161, u162, u163, u164, u165, u166, u167, u168, u169, u170, u171, u172, u173, u174, u175, u176, u177, u178, u179, u180, u181, u182, u183, u184, u185, u186, u187, u188, u189, u190, u191, u192, u193, u194, u195, u196, u197, u198, u199, u200, u201, u202, u203, u204, u205, u206, u207, u208, u209, u210, u211, u212, u213, u214, u215, u216, u217, u218, u219, u220, u221, u222, u223, u224, u225, u226, u227, u228, u229, u230, u231, u232, u233, u234, u235, u236, u237, u238, u239, u240, u241, u242, u243, u244, u245, u246, u247, u248, u249, u250, u251, u252, u253, u254, u255, u256, u257, u258, u259, u260, u261, u262, u263, u264, u265, u266, u267, u268, u269, u270, u271, u272, u273, u274, u275, u276, u277, u278, u279, u280, u281, u282, u283, u284, u285, u286, u287, u288, u289, u290, u291, u292, u293, u294, u295, u296, u297, u298, u299, u300, u301, u302, u303, u304, u305, u306, u307, u308, u309, u310, u311, u312, u313, u314, u315, u316, u317, u318, u319, u320, u321, u322, u323, u324, u325, u326, u327, u328, u329, u330, u331, u332, u333], []⟩ x := by
  refine tail_step rfl ?_
  intro K hK
  obtain ⟨q0, _⟩ := Bx.nine (p := ⟨px, pd⟩) (F.xp.later D.out F.xp.lt)
  dsimp only at q0
  by_cases h1 : px < 0
  · have dh1 : decide (px < 0) = true := by simpa using h1
    have HAM := hide (Mx.amay_1 (b := ⟨num, ops, es, be⟩) (n := n) (p := ⟨px, pd⟩) F.hb (.inl h1))
    have HAD := hide (Mx.added_not HAM.out (by omega))
    obtain ⟨f0, f1, f2, f3⟩ := XW.out.four
    have fz := XW.out.frozen
    clear h1
    go_wp2_with fail
    have XS := hide (XW.out.four_set (.int .i64 0) (.slice none 0 0) (.slice none 0 0) (.bool false))
    exact Met.intro (et12 F (hide (set4_below D.out GW.out _ _ _ _)) GW XS (hide (by rw [HAD.out]; exact BuV.zero _)) (hide HAM.out.symm))
  · have dh1 : decide (px < 0) = false := by simpa using h1
    by_cases h2 : n ≤ px
    · have dh2 : decide (n ≤ px) = true := by simpa using h2
      have HAM := hide (Mx.amay_1 (b := ⟨num, ops, es, be⟩) (n := n) (p := ⟨px, pd⟩) F.hb (.inr h2))
      have HAD := hide (Mx.added_not HAM.out (by omega))
      obtain ⟨f0, f1, f2, f3⟩ := XW.out.four
      have fz := XW.out.frozen
      clear h1 h2
      go_wp2_with fail
      have XS := hide (XW.out.four_set (.int .i64 0) (.slice none 0 0) (.slice none 0 0) (.bool false))
      exact Met.intro (et12 F (hide (set4_below D.out GW.out _ _ _ _)) GW XS (hide (by rw [HAD.out]; exact BuV.zero _)) (hide HAM.out.symm))
    · have dh2 : decide (n ≤ px) = false := by simpa using h2
      have HAM := hide (Mx.amay_0 (b := ⟨num, ops, es, be⟩) (n := n) (p := ⟨px, pd⟩) F.hb (by show ¬ (px < 0 ∨ n ≤ px); omega))
      have HAD := hide (Mx.added_ok HAM.out)
      have HOK := hide (Mx.bmay_ok F.hb)
      have HRK := hide (Mx.rk_of (Mx.goodB_parts HOK.out.2.2).2.1 HOK.out.1.2.1)
      have HPF := hide (Mx.putF_eq ⟨px, pd⟩ HRK.out)
      go_wp2_with fail
      exact Met.intro (et12 F D GW XW (hide (by rw [HAD.out]; exact ⟨ua, un, uk, sa, sn, sc, rfl, by show PL _ ua un (Mx.putR ops ⟨px, pd⟩); rw [← HPF.out]; exact PW.out, F.he.later D.out, KU.out, F.hsn⟩)) (hide HAM.out.symm))

set_option maxHeartbeats 16000000 in
set_option maxRecDepth 100000 in
theorem et10 {w v : World} {num : Int} {oa : Option Addr} {on oc : Nat} {sa : Option Addr} {sn sc : Nat} {be : Bool} {ops : List Pt} {es : List Ep} {n px : Int} {pd : B8} {k : Int} {gA : Nat} {a0 a1 a2 a3 : Value} {gS : Nat} {s0 s1 s2 s3 : Value} {gD : Nat} {d0 d1 d2 d3 : Value} {gE : Nat} {pa : Option Addr} {pn pk : Nat} {u0 u2 u5 u7 u8 u9 u19 u21 u22 u23 u24 u25 u26 u27 u28 u29 u30 u31 u32 u33 u34 u35 u36 u37 u38 u39 u40 u41 u42 u43 u44 u45 u46 u47 u48 u49 u50 u51 u52 u53 u54 u55 u56 u57 u58 u59 u60 u61 u62 u63 u64 u65 u66 u67 u68 u69 u70 u71 u72 u73 u74 u75 u76 u77 u78 u79 u80 u81 u82 u83 u84 u85 u86 u87 u88 u89 u90 u91 u92 u93 u94 u95 u96 u97 u98 u99 u100 u101 u102 u103 u104 u105 u106 u107 u108 u109 u110 u111 u112 u113 u114 u115 u116 u117 u118 u119 u120 u121 u122 u123 u124 u125 u126 u127 u128 u129 u130 u131 u132 u133 u134 u135 u136 u137 u138 u139 u140 u141 u142 u143 u144 u145 u146 u147 u148 u149 u150 u151 u152 u153 u154 u155 u156 u157 u158 u159 u160 u161 u162 u163 u164 u165 u166 u167 u168 u169 u170 u171 u172 u173 u174 u175 u176 u177 u178 u179 u180 u181 u182 u183 u184 u185 u186 u187 u188 u189 u190 u191 u192 u193 u194 u195 u196 u197 u198 u199 u200 u201 u202 u203 u204 u205 u206 u207 u208 u209 u210 u211 u212 u213 u214 u215 u216 u217 u218 u219 u220 u221 u222 u223 u224 u225 u226 u227 u228 u229 u230 u231 u232 u233 u234 u235 u236 u237 u238 u239 u240 u241 u242 u243 u244 u245 u246 u247 u248 u249 u250 u251 u252 u253 u254 u255 u256 u257 u258 u259 u260 u261 u262 u263 u264 u265 u266 u267 u268 u269 u270 u271 u272 u273 u274 u275 u276 u277 u278 u279 u280 u281 u282 u283 u284 u285 u286 u287 u288 u289 u290 u291 u292 u293 u294 u295 u296 u297 u298 u299 u300 u301 u302 u303 u304 u305 u306 u307 u308 u309 u310 u311 u312 u313 u314 u315 u316 u317 u318 u319 u320 u321 u322 u323 u324 u325 u326 u327 u328 u329 u330 u331 u332 u333 : Value} {x : World} {g : Nat} {ua : Option Addr} {un uk : Nat} (F : Ef w v num oa on oc sa sn sc be ops es n px pd k gA a0 a1 a2 a3 gS s0 s1 s2 s3 gD d0 d1 d2 d3 gE pa pn pk) (D : Hid (Below v.heap.size v x)) (GW : Hid (v.heap.size ≤ g)) (XW : Hid (Bx x g #[.int .i64 num, .slice ua un uk, .slice sa sn sc, .bool be] 25)) (PW : Hid (PL x ua un (Mx.putF ops ⟨px, pd⟩))) (KU : Hid (un ≤ uk)) :
    TailE 10 w ⟨#[u0, .int .i64 n, u2, .int .i64 k, .pointer (some ⟨w.heap.size, 0, none⟩), u5, .pointer (some ⟨(w.heap.size + 1), 0, none⟩), u7, u8, u9, .pointer (some ⟨gA, 0, none⟩), errV (Mx.amay ⟨num, ops, es, be⟩ n ⟨px, pd⟩), .pointer (some ⟨gS, 0, none⟩), errV (Mx.smay ⟨num, ops, es, be⟩ n), .pointer (some ⟨gD, 0, none⟩), errV (Mx.nmay ⟨num, ops, es, be⟩ n k), .pointer (some ⟨gE, 0, none⟩), .bool (Mx.sinceB ⟨num, ops, es, be⟩ n k), errV (Mx.nmay ⟨num, ops, es, be⟩ n k), u19, .pointer (some ⟨g, 0, none⟩), u21, u22, u23, u24, u25, u26, u27, u28, u29, u30, u31, u32, u33, u34, u35, u36, u37, u38, u39, u40, u41, u42, u43, u44, u45, u46, u47, u48, u49, u50, u51, u52, u53, u54, u55, u56, u57, u58, u59, u60, u61, u62, u63, u64, u65, u66, u67, u68, u69, u70, u71, u72, u73, u74, u75, u76, u77, u78, u79, u80, u81, u82, u83, u84, u85, u86, u87, u88, u89, u90, u91, u92, u93, u94, u95, u96, u97, u98, u99, u100, u101, u102, u103, u104, u105, u106, u107, u108, u109, u110, u111, u112, u113, u114, u115, u116, u117, u118, u119, u120, u121, u122, u123, u124, u125, u126, u127, u128, u129, u130, u131, u132, u133, u134, u135, u136, u137, u138, u139, u140, u141, u142, u143, u144, u145, u146, u147, u148, u149, u150, u151, u152, u153, u154, u155, u156, u157, u158, u159, u160, u161, u162, u163, u164, u165, u166, u167, u168, u169, u170, u171, u172, u173, u174, u175, u176, u177, u178, u179, u180, u181, u182, u183, u184, u185, u186, u187, u188, u189, u190, u191, u192, u193, u194, u195, u196, u197, u198, u199, u200, u201, u202, u203, u204, u205, u206, u207, u208, u209, u210, u211, u212, u213, u214, u215, u216, u217, u218, u219, u220, u221, u222, u223, u224, u225, u226, u227, u228, u229, u230, u231, u232, u233, u234, u235, u236, u237, u238, u239, u240, u241, u242, u243, u244, u245, u246, u247, u248, u249, u250, u251, u252, u253, u254, u255, u256, u257, u258, u259, u260, u261, u262, u263, u264, u265, u266, u267, u268, u269, u270, u271, u272, u273, u274, u275, u276, u277, u278, u279, u280, u281, u282, u283, u284, u285, u286, u287, u288, u289, u290, u291, u292, u293, u294, u295, u296, u297, u298, u299, u300, u301, u302, u303, u304, u305, u306, u307, u308, u309, u310, u311, u312, u313, u314, u315, u316, u317, u318, u319, u320, u321, u322, u323, u324, u325, u326, u327, u328, u329, u330, u331, u332, u333], []⟩ x := by
  refine tail_step rfl ?_
  intro K hK
  go_wp2_with fail
  exact Met.intro (et11 F D GW XW PW KU)

end Go.Proofs.Ytkebmfocgalinab

/-
  The law EpochSays, where the builder may be.
-/
namespace Go.Proofs.Ytkebmfocgalinab
open Go.RowKit

set_option maxHeartbeats 16000000 in
set_option maxRecDepth 100000 in
theorem esays_ok (num : Int) (oa : Option Addr) (on oc : Nat) (sa : Option Addr) (sn sc : Nat) (be : Bool) (ops : List Pt) (es : List Ep) (n : Int) (px : Int) (pd : B8) (k : Int) (w : World) (hp : PL w oa on ops) (he : EL w sa sn es) (hoc : on ≤ oc) (hsc : sn ≤ sc) (HB : Hid (Mx.bmay ⟨num, ops, es, be⟩ n = 0)) :
    Calls Try.prog 3 #[.agg #[.int .i64 num, .slice oa on oc, .slice sa sn sc, .bool be], .int .i64 n, .agg #[.int .i64 px, .int .u8 pd.z0, .int .u8 pd.z1, .int .u8 pd.z2, .int .u8 pd.z3, .int .u8 pd.z4, .int .u8 pd.z5, .int .u8 pd.z6, .int .u8 pd.z7], .int .i64 k] w fun e w' => e = .returned (.bool true) ∧ Below w.heap.size w w' := by
  obtain ⟨w0, hw0⟩ : ∃ w0 : World, Hid (w0 = (w.alloc (.cells #[.int .i64 num, .slice oa on oc, .slice sa sn sc, .bool be] 25)).alloc (.cells #[.int .i64 px, .int .u8 pd.z0, .int .u8 pd.z1, .int .u8 pd.z2, .int .u8 pd.z3, .int .u8 pd.z4, .int .u8 pd.z5, .int .u8 pd.z6, .int .u8 pd.z7] 29)) := ⟨_, rfl⟩
  have XB0 := hide (show Bx w0 w.heap.size #[.int .i64 num, .slice oa on oc, .slice sa sn sc, .bool be] 25 by rw [hw0.out]; exact (Bx.new w _ _).alloc _)
  have XP0 := hide (show Bx w0 (w.heap.size + 1) #[.int .i64 px, .int .u8 pd.z0, .int .u8 pd.z1, .int .u8 pd.z2, .int .u8 pd.z3, .int .u8 pd.z4, .int .u8 pd.z5, .int .u8 pd.z6, .int .u8 pd.z7] 29 by
    rw [hw0.out]
    have h := Bx.new (w.alloc (.cells #[.int .i64 num, .slice oa on oc, .slice sa sn sc, .bool be] 25)) #[.int .i64 px, .int .u8 pd.z0, .int .u8 pd.z1, .int .u8 pd.z2, .int .u8 pd.z3, .int .u8 pd.z4, .int .u8 pd.z5, .int .u8 pd.z6, .int .u8 pd.z7] 29
    rw [World.size_alloc] at h
    exact h)
  have B0 := hide (show Below w.heap.size w w0 by rw [hw0.out]; exact (below_alloc _ _).alloc (by simp) _)
  have HP0 := hide (hp.later B0.out)
  have HE0 := hide (he.later B0.out)
  clear hp he
  go_enter Try.func3, Try.ntmps3
  go_wp2_with fail
  rw [← hw0.out]
  refine (hugeBuilder_any num oa on oc sa sn sc be ops es w0 HP0.out HE0.out).mono ?_
  rintro e w1 ⟨rfl, D⟩
  have HP1 := hide (HP0.out.later D)
  have HE1 := hide (HE0.out.later D)
  have XB1 := hide (XB0.out.later D XB0.out.lt)
  have XP1 := hide (XP0.out.later D XP0.out.lt)
  have B1 := hide (B0.out.trans (D.mono B0.out.size))
  clear XB0 XP0 HP0 HE0 D
  obtain ⟨b0, b1, b2, b3⟩ := XB1.out.four
  cases hh : Mx.hugeB ops es with
  | true =>
    clear hh
    go_wp2_with fail
    go_ret
    exact ⟨rfl, B1.out⟩
  | false =>
    have HSM := hide (Mx.small_of hh)
    clear hh
    go_wp2_with fail
    refine (builderMay_any num oa on oc sa sn sc be ops es n w1 HP1.out HE1.out).mono ?_
    rintro e w2 ⟨rfl, D⟩
    have XB2 := hide (XB1.out.later D XB1.out.lt)
    have XP2 := hide (XP1.out.later D XP1.out.lt)
    have HP2 := hide (HP1.out.later D)
    have HE2 := hide (HE1.out.later D)
    have B2 := hide (B1.out.trans ((D).mono B1.out.size))
    clear XB1 XP1 HP1 HE1
    clear D
    clear b0 b1 b2 b3
    obtain ⟨b0, b1, b2, b3⟩ := XB2.out.four
    go_wp2_with fail
    refine (echeck_any num oa on oc sa sn sc be ops es n w2 HP2.out HE2.out).mono ?_
    rintro e w3 ⟨rfl, D⟩
    have XB3 := hide (XB2.out.later D XB2.out.lt)
    have XP3 := hide (XP2.out.later D XP2.out.lt)
    have HP3 := hide (HP2.out.later D)
    have HE3 := hide (HE2.out.later D)
    have B3 := hide (B2.out.trans ((D).mono B2.out.size))
    clear XB2 XP2 HP2 HE2
    clear D
    clear b0 b1 b2 b3
    go_wp2_with fail
    refine (is_any (Mx.bmay ⟨num, ops, es, be⟩ n) (Mx.bmay ⟨num, ops, es, be⟩ n) w3).mono ?_
    rintro e wz ⟨rfl, hz⟩
    obtain rfl := hz.symm
    rw [beq_self_eq_true]
    obtain ⟨b0, b1, b2, b3⟩ := XB3.out.four
    obtain ⟨q0, q1, q2, q3, q4, q5, q6, q7, q8⟩ := Bx.nine (p := ⟨px, pd⟩) XP3.out
    dsimp only at q0 q1 q2 q3 q4 q5 q6 q7 q8
    go_wp2_with fail
    refine (add_any num oa on oc sa sn sc be ops es n px pd w3 HP3.out HE3.out HSM.out).mono ?_
    rintro e w4 ⟨vA, rfl, VA, D⟩
    have VB := VA.out
    obtain ⟨xa, xn, xk, ya, yn, yk, rfl, _⟩ := VB
    have XB4 := hide (XB3.out.later D.out XB3.out.lt)
    have XP4 := hide (XP3.out.later D.out XP3.out.lt)
    have HP4 := hide (HP3.out.later D.out)
    have HE4 := hide (HE3.out.later D.out)
    have B4 := hide (B3.out.trans ((D.out).mono B3.out.size))
    clear XB3 XP3 HP3 HE3
    clear D
    clear b0 b1 b2 b3
    clear q0 q1 q2 q3 q4 q5 q6 q7 q8
    have VA4 := VA
    clear VA
    obtain ⟨b0, b1, b2, b3⟩ := XB4.out.four
    have hlt4 : w.heap.size < w4.heap.size := XB4.out.lt
    go_wp2_with fail
    clear b0 b1 b2 b3
    obtain ⟨w5, hw5⟩ : ∃ x : World, Hid (x = w4.alloc (.cells #[.int .i64 (Mx.added ⟨num, ops, es, be⟩ n ⟨px, pd⟩).num, .slice xa xn xk, .slice ya yn yk, .bool (Mx.added ⟨num, ops, es, be⟩ n ⟨px, pd⟩).be] 25)) := ⟨_, rfl⟩
    have D := hide (show Below w4.heap.size w4 w5 by rw [hw5.out]; exact below_alloc _ _)
    have XA5 := hide (show Bx w5 w4.heap.size #[.int .i64 (Mx.added ⟨num, ops, es, be⟩ n ⟨px, pd⟩).num, .slice xa xn xk, .slice ya yn yk, .bool (Mx.added ⟨num, ops, es, be⟩ n ⟨px, pd⟩).be] 25 by rw [hw5.out]; exact Bx.new w4 _ _)
    rw [← hw5.out]
    have XB5 := hide (XB4.out.later D.out XB4.out.lt)
    have XP5 := hide (XP4.out.later D.out XP4.out.lt)
    have HP5 := hide (HP4.out.later D.out)
    have HE5 := hide (HE4.out.later D.out)
    have VA5 := hide (VA4.out.later D.out)
    have B5 := hide (B4.out.trans ((D.out).mono B4.out.size))
    clear XB4 XP4 HP4 HE4 VA4
    clear D
    refine (seal_any num oa on oc sa sn sc be ops es n w5 HP5.out HE5.out HSM.out).mono ?_
    rintro e w6 ⟨vS, rfl, VS6, D⟩
    have VB := VS6.out
    obtain ⟨sxa, sxn, sxk, sya, syn, syk, rfl, _⟩ := VB
    have XB6 := hide (XB5.out.later D.out XB5.out.lt)
    have XP6 := hide (XP5.out.later D.out XP5.out.lt)
    have HP6 := hide (HP5.out.later D.out)
    have HE6 := hide (HE5.out.later D.out)
    have VA6 := hide (VA5.out.later D.out)
    have XA6 := hide (XA5.out.later D.out XA5.out.lt)
    have B6 := hide (B5.out.trans ((D.out).mono B5.out.size))
    clear XB5 XP5 HP5 HE5 VA5 XA5
    clear D
    obtain ⟨b0, b1, b2, b3⟩ := XB6.out.four
    have hlt6 : w.heap.size < w6.heap.size := XB6.out.lt
    go_wp2_with fail
    clear b0 b1 b2 b3
    obtain ⟨w7, hw7⟩ : ∃ x : World, Hid (x = w6.alloc (.cells #[.int .i64 (Mx.sealed ⟨num, ops, es, be⟩ n).num, .slice sxa sxn sxk, .slice sya syn syk, .bool (Mx.sealed ⟨num, ops, es, be⟩ n).be] 25)) := ⟨_, rfl⟩
    have D := hide (show Below w6.heap.size w6 w7 by rw [hw7.out]; exact below_alloc _ _)
    have XS7 := hide (show Bx w7 w6.heap.size #[.int .i64 (Mx.sealed ⟨num, ops, es, be⟩ n).num, .slice sxa sxn sxk, .slice sya syn syk, .bool (Mx.sealed ⟨num, ops, es, be⟩ n).be] 25 by rw [hw7.out]; exact Bx.new w6 _ _)
    rw [← hw7.out]
    have XB7 := hide (XB6.out.later D.out XB6.out.lt)
    have XP7 := hide (XP6.out.later D.out XP6.out.lt)
    have HP7 := hide (HP6.out.later D.out)
    have HE7 := hide (HE6.out.later D.out)
    have VA7 := hide (VA6.out.later D.out)
    have XA7 := hide (XA6.out.later D.out XA6.out.lt)
    have VS7 := hide (VS6.out.later D.out)
    have B7 := hide (B6.out.trans ((D.out).mono B6.out.size))
    clear XB6 XP6 HP6 HE6 VA6 XA6 VS6
    clear D
    refine (drop_any num oa on oc sa sn sc be ops es n k w7 HP7.out HE7.out HSM.out hsc).mono ?_
    rintro e w8 ⟨vD, rfl, VD8, D⟩
    have VB := VD8.out
    obtain ⟨dxa, dxn, dxk, dya, dyn, dyk, rfl, _⟩ := VB
    have XB8 := hide (XB7.out.later D.out XB7.out.lt)
    have XP8 := hide (XP7.out.later D.out XP7.out.lt)
    have HP8 := hide (HP7.out.later D.out)
    have HE8 := hide (HE7.out.later D.out)
    have VA8 := hide (VA7.out.later D.out)
    have XA8 := hide (XA7.out.later D.out XA7.out.lt)
    have VS8 := hide (VS7.out.later D.out)
    have XS8 := hide (XS7.out.later D.out XS7.out.lt)
    have B8 := hide (B7.out.trans ((D.out).mono B7.out.size))
    clear XB7 XP7 HP7 HE7 VA7 XA7 VS7 XS7
    clear D
    obtain ⟨b0, b1, b2, b3⟩ := XB8.out.four
    have hlt8 : w.heap.size < w8.heap.size := XB8.out.lt
    go_wp2_with fail
    clear b0 b1 b2 b3
    obtain ⟨w9, hw9⟩ : ∃ x : World, Hid (x = w8.alloc (.cells #[.int .i64 (Mx.dropped ⟨num, ops, es, be⟩ n k).num, .slice dxa dxn dxk, .slice dya dyn dyk, .bool (Mx.dropped ⟨num, ops, es, be⟩ n k).be] 25)) := ⟨_, rfl⟩
    have D := hide (show Below w8.heap.size w8 w9 by rw [hw9.out]; exact below_alloc _ _)
    have XD9 := hide (show Bx w9 w8.heap.size #[.int .i64 (Mx.dropped ⟨num, ops, es, be⟩ n k).num, .slice dxa dxn dxk, .slice dya dyn dyk, .bool (Mx.dropped ⟨num, ops, es, be⟩ n k).be] 25 by rw [hw9.out]; exact Bx.new w8 _ _)
    rw [← hw9.out]
    have XB9 := hide (XB8.out.later D.out XB8.out.lt)
    have XP9 := hide (XP8.out.later D.out XP8.out.lt)
    have HP9 := hide (HP8.out.later D.out)
    have HE9 := hide (HE8.out.later D.out)
    have VA9 := hide (VA8.out.later D.out)
    have XA9 := hide (XA8.out.later D.out XA8.out.lt)
    have VS9 := hide (VS8.out.later D.out)
    have XS9 := hide (XS8.out.later D.out XS8.out.lt)
    have VD9 := hide (VD8.out.later D.out)
    have B9 := hide (B8.out.trans ((D.out).mono B8.out.size))
    clear XB8 XP8 HP8 HE8 VA8 XA8 VS8 XS8 VD8
    clear D
    refine (since_any num oa on oc sa sn sc be ops es n k w9 HP9.out HE9.out HSM.out hsc).mono ?_
    rintro e w10 ⟨pa, pn, pk, rfl, VP10, D⟩
    have XB10 := hide (XB9.out.later D.out XB9.out.lt)
    have XP10 := hide (XP9.out.later D.out XP9.out.lt)
    have HP10 := hide (HP9.out.later D.out)
    have HE10 := hide (HE9.out.later D.out)
    have VA10 := hide (VA9.out.later D.out)
    have XA10 := hide (XA9.out.later D.out XA9.out.lt)
    have VS10 := hide (VS9.out.later D.out)
    have XS10 := hide (XS9.out.later D.out XS9.out.lt)
    have VD10 := hide (VD9.out.later D.out)
    have XD10 := hide (XD9.out.later D.out XD9.out.lt)
    have B10 := hide (B9.out.trans ((D.out).mono B9.out.size))
    clear XB9 XP9 HP9 HE9 VA9 XA9 VS9 XS9 VD9 XD9
    clear D
    have HOK := hide (Mx.bmay_ok HB.out)
    rw [HB.out]
    go_wp2_with fail
    obtain ⟨w11, hw11⟩ : ∃ x : World, Hid (x = w10.alloc (.cells #[.int .i64 (Mx.sinceE ⟨num, ops, es, be⟩ n k).num, .slice pa pn pk] 42)) := ⟨_, rfl⟩
    have D := hide (show Below w10.heap.size w10 w11 by rw [hw11.out]; exact below_alloc _ _)
    have XE11 := hide (show Bx w11 w10.heap.size #[.int .i64 (Mx.sinceE ⟨num, ops, es, be⟩ n k).num, .slice pa pn pk] 42 by rw [hw11.out]; exact Bx.new w10 _ _)
    rw [← hw11.out]
    have XB11 := hide (XB10.out.later D.out XB10.out.lt)
    have XP11 := hide (XP10.out.later D.out XP10.out.lt)
    have HP11 := hide (HP10.out.later D.out)
    have HE11 := hide (HE10.out.later D.out)
    have VA11 := hide (VA10.out.later D.out)
    have XA11 := hide (XA10.out.later D.out XA10.out.lt)
    have VS11 := hide (VS10.out.later D.out)
    have XS11 := hide (XS10.out.later D.out XS10.out.lt)
    have VD11 := hide (VD10.out.later D.out)
    have XD11 := hide (XD10.out.later D.out XD10.out.lt)
    have VP11 := hide (VP10.out.later D.out)
    have B11 := hide (B10.out.trans ((D.out).mono B10.out.size))
    clear XB10 XP10 HP10 HE10 VA10 XA10 VS10 XS10 VD10 XD10 VP10
    clear D
    obtain ⟨b0, b1, b2, b3⟩ := XB11.out.four
    obtain ⟨q0, q1, q2, q3, q4, q5, q6, q7, q8⟩ := Bx.nine (p := ⟨px, pd⟩) XP11.out
    dsimp only at q0 q1 q2 q3 q4 q5 q6 q7 q8
    have hb11 : w.heap.size < w11.heap.size := XB11.out.lt
    have hp11 : w.heap.size + 1 < w11.heap.size := XP11.out.lt
    have hgb : ¬ w11.heap.size = w.heap.size := by omega
    have hgp : ¬ w11.heap.size = w.heap.size + 1 := by omega
    have hon : on ≤ 1000 := by have h1 := HP11.out.1; have h2 := HSM.out.2.2; omega
    rename_i K hK
    have hK2 : ∀ a x, Met (TailE 10 w) a x → K a x := fun a x hh => hK a x hh
    clear hK
    have FF := hide (Ef.mk XB11.out XP11.out HP11.out HE11.out XA11.out VA11.out XS11.out VS11.out XD11.out VD11.out XE11.out VP11.out B11.out HB.out HSM.out hoc hsc)
    go_region_held3 (fun w' => w'.cell? ⟨w.heap.size, 0, none⟩ = some (.int .i64 num) ∧ w'.cell? ⟨w.heap.size, 1, none⟩ = some (.slice oa on oc) ∧ w'.cell? ⟨w.heap.size, 2, none⟩ = some (.slice sa sn sc) ∧ w'.cell? ⟨w.heap.size, 3, none⟩ = some (.bool be) ∧ w'.cell? ⟨w.heap.size + 1, 0, none⟩ = some (.int .i64 px) ∧ w'.cell? ⟨w.heap.size + 1, 1, none⟩ = some (.int .u8 pd.z0) ∧ w'.cell? ⟨w.heap.size + 1, 2, none⟩ = some (.int .u8 pd.z1) ∧ w'.cell? ⟨w.heap.size + 1, 3, none⟩ = some (.int .u8 pd.z2) ∧ w'.cell? ⟨w.heap.size + 1, 4, none⟩ = some (.int .u8 pd.z3) ∧ w'.cell? ⟨w.heap.size + 1, 5, none⟩ = some (.int .u8 pd.z4) ∧ w'.cell? ⟨w.heap.size + 1, 6, none⟩ = some (.int .u8 pd.z5) ∧ w'.cell? ⟨w.heap.size + 1, 7, none⟩ = some (.int .u8 pd.z6) ∧ w'.cell? ⟨w.heap.size + 1, 8, none⟩ = some (.int .u8 pd.z7))
      (first
        | with_reducible exact ⟨c0, c1, c2, c3, d0, d1, d2, d3, d4, d5, d6, d7, d8⟩
        | (simp only [cell_drew]; with_reducible exact ⟨b0, b1, b2, b3, q0, q1, q2, q3, q4, q5, q6, q7, q8⟩)
        | (simp only [cell_drew, cell_alloc_lt hb11, cell_alloc_lt hp11]; with_reducible exact ⟨b0, b1, b2, b3, q0, q1, q2, q3, q4, q5, q6, q7, q8⟩)
        | (simp only [cell_alloc_lt hsb, cell_alloc_lt hsp]; with_reducible exact ⟨c0, c1, c2, c3, d0, d1, d2, d3, d4, d5, d6, d7, d8⟩)
        | (simp only [cell_set_far hgb, cell_set_far hgp]; with_reducible exact ⟨c0, c1, c2, c3, d0, d1, d2, d3, d4, d5, d6, d7, d8⟩))
      (first
        | (go_at_call 19; (with_reducible refine (put_at oa on oc ops px pd w11.drew (HP11.out.later (Below.refl _ _).drew) hon).mono ?_); rintro e w12 ⟨ua, uk, rfl, O2, B2⟩; have D2 := hide (drew_below B2.out); obtain ⟨c0, c1, c2, c3⟩ := (XB11.out.later D2.out XB11.out.lt).four; obtain ⟨d0, d1, d2, d3, d4, d5, d6, d7, d8⟩ := Bx.nine (p := ⟨px, pd⟩) (XP11.out.later D2.out XP11.out.lt); dsimp only at d0 d1 d2 d3 d4 d5 d6 d7 d8; have hsb : w.heap.size < w12.heap.size := (XB11.out.later D2.out XB11.out.lt).lt; have hsp : w.heap.size + 1 < w12.heap.size := (XP11.out.later D2.out XP11.out.lt).lt)
        | (go_at_call 19; (with_reducible refine (put_at oa on oc ops px pd (w11.alloc (.cells #[.int .i64 0, .slice none 0 0, .slice none 0 0, .bool false] 25)).drew (HP11.out.later (below_alloc _ _).drew) hon).mono ?_); rintro e w12 ⟨ua, uk, rfl, O2, B2⟩; have D2 := hide (alloc_drew_below B2.out); obtain ⟨c0, c1, c2, c3⟩ := (XB11.out.later D2.out XB11.out.lt).four; obtain ⟨d0, d1, d2, d3, d4, d5, d6, d7, d8⟩ := Bx.nine (p := ⟨px, pd⟩) (XP11.out.later D2.out XP11.out.lt); dsimp only at d0 d1 d2 d3 d4 d5 d6 d7 d8; have XZ := hide ((Bx.newD w11 #[.int .i64 0, .slice none 0 0, .slice none 0 0, .bool false] 25).later B2.out (by show w11.heap.size < (w11.alloc _).heap.size; simp)); obtain ⟨z0, z1, z2, z3⟩ := XZ.out.four; have zz := XZ.out.frozen))
    all_goals go_wp2_with fail
    all_goals have F2 := hide (O2.out.full)
    all_goals first
      | exact Met.intro (et10 FF.out (hide (set4_below D2.out (Nat.le_refl _) _ _ _ _)) (hide (Nat.le_refl _)) (hide (XZ.out.four_set _ _ _ _)) (hide (F2.out.1.grownBy (set4_grown (grow_refl w12 (some w11.heap.size)) _ _ _ _) (fun _ p hp e => by have h1 : (w11.alloc (.cells #[.int .i64 0, .slice none 0 0, .slice none 0 0, .bool false] 25)).heap.size ≤ p.block := F2.out.2.2 p hp; rw [World.size_alloc] at h1; have h2 : w11.heap.size = p.block := Option.some.inj e; omega))) (hide F2.out.2.1))
      | exact Met.intro (et10 FF.out (hide (D2.out.alloc D2.out.size _)) (hide D2.out.size) (hide (Bx.new _ _ _)) (hide (F2.out.1.later (below_alloc _ _))) (hide F2.out.2.1))

theorem esays_any (num : Int) (oa : Option Addr) (on oc : Nat) (sa : Option Addr) (sn sc : Nat) (be : Bool) (ops : List Pt) (es : List Ep) (n : Int) (px : Int) (pd : B8) (k : Int) (w : World) (hp : PL w oa on ops) (he : EL w sa sn es) (hoc : on ≤ oc) (hsc : sn ≤ sc) :
    Calls Try.prog 3 #[.agg #[.int .i64 num, .slice oa on oc, .slice sa sn sc, .bool be], .int .i64 n, .agg #[.int .i64 px, .int .u8 pd.z0, .int .u8 pd.z1, .int .u8 pd.z2, .int .u8 pd.z3, .int .u8 pd.z4, .int .u8 pd.z5, .int .u8 pd.z6, .int .u8 pd.z7], .int .i64 k] w fun e w' => e = .returned (.bool true) ∧ Below w.heap.size w w' := by
  by_cases hb : Mx.bmay ⟨num, ops, es, be⟩ n = 0
  · exact esays_ok num oa on oc sa sn sc be ops es n px pd k w hp he hoc hsc  hb
  · exact esays_err num oa on oc sa sn sc be ops es n px pd k w hp he hoc hsc hb

end Go.Proofs.Ytkebmfocgalinab

/-
  The law EpochMade: a builder that lived by raw numbers.
-/
namespace Go.Proofs.Ytkebmfocgalinab
open Go.RowKit

theorem BuVA.low {B B' : Nat} {w : World} {v : Value} {b : Bu} (h : BuVA B w v b) (hB : B' ≤ B) : BuVA B' w v b := by
  obtain ⟨oa, on, oc, sa, sn, sc, h1, h2, h3, h4, h5, h6⟩ := h
  exact ⟨oa, on, oc, sa, sn, sc, h1, h2, fun h0 p hp => Nat.le_trans hB (h3 h0 p hp), h4.lower hB, h5, h6⟩

theorem BuVA.pts {B : Nat} {w : World} {num : Int} {xa : Option Addr} {xn xk : Nat} {ya : Option Addr} {yn yk : Nat} {be : Bool} {b : Bu} (h : BuVA B w (.agg #[.int .i64 num, .slice xa xn xk, .slice ya yn yk, .bool be]) b) :
    PL w xa xn b.op ∧ EL w ya yn b.se ∧ xn ≤ xk ∧ yn ≤ yk ∧ num = b.num ∧ be = b.be := by
  obtain ⟨oa, on, oc, sa, sn, sc, h1, h2, h3, h4, h5, h6⟩ := h
  simp only [Value.agg.injEq, Array.mk.injEq, List.cons.injEq, Value.int.injEq, Value.slice.injEq, Value.bool.injEq, true_and, and_true] at h1
  obtain ⟨rfl, ⟨rfl, rfl, rfl⟩, ⟨rfl, rfl, rfl⟩, rfl⟩ := h1
  exact ⟨h2, h4.el, h5, h6, rfl, rfl⟩

theorem small_may2 {b : Bu} {n : Int} (h : Mx.bmay b n = 0) : Mx.small b.op b.se := by
  obtain ⟨h1, h2, h3⟩ := Mx.small_may h
  exact ⟨fun e he => by have := h3 e he; omega, by omega, by omega⟩

/-- what holds in each round: the builder's box and its memory -/
def EInv (w : World) (N : Nat) (wr : World) (i : Nat) : Prop :=
  ∃ (b : Bu) (xa : Option Addr) (xn xk : Nat) (ya : Option Addr) (yn yk : Nat), Bx wr w.heap.size #[.int .i64 b.num, .slice xa xn xk, .slice ya yn yk, .bool b.be] 25 ∧ BuVA (w.heap.size + 1) wr (.agg #[.int .i64 b.num, .slice xa xn xk, .slice ya yn yk, .bool b.be]) b ∧
    Mx.bmay b (N : Int) = 0 ∧ b.num ≤ i ∧ Below w.heap.size w wr ∧ w.heap.size + 1 ≤ wr.heap.size

set_option maxHeartbeats 16000000 in
set_option maxRecDepth 100000 in
theorem emade_ok (a : Option Addr) (n c : Nat) (l : List Int) (nn at_ num : Int) (w : World) (hl : Ints w a n l) (hb : I64 l) (hn : n ≤ 256) (h1 : I64x nn) (h2 : I64x at_) (h3 : I64x num) :
    Calls Try.prog 4 #[.slice a n c, .int .i64 nn, .int .i64 at_, .int .i64 num] w fun e w' => e = .returned (.bool true) ∧ Below w.heap.size w w' := by
  have HL := hide hl
  have HB := hide hb
  have H1 := hide h1
  have H2 := hide h2
  have H3 := hide h3
  have hnb : ¬ (256 : Int) < n := by omega
  clear hl hb h1 h2 h3
  obtain ⟨N, hN1, hN2, hN⟩ : ∃ N : Nat, 1 ≤ N ∧ N ≤ 32 ∧ Hid (1 + Mx.pick nn 32 = (N : Int)) := ⟨(1 + Mx.pick nn 32).toNat, by have := Mx.pick_pos nn 32 (by omega); omega, by have := Mx.pick_pos nn 32 (by omega); omega, by unfold Hid; have := Mx.pick_pos nn 32 (by omega); omega⟩
  obtain ⟨P, hP1, hP⟩ : ∃ P : Nat, P ≤ 99 ∧ Hid (Mx.pick at_ 100 = (P : Int)) := ⟨(Mx.pick at_ 100).toNat, by have := Mx.pick_pos at_ 100 (by omega); omega, by unfold Hid; have := Mx.pick_pos at_ 100 (by omega); omega⟩
  go_enter Try.func4, Try.ntmps4
  go_wp2_with fail
  refine (pickv_any nn 32 w H1.out.1 H1.out.2 (by omega) (by omega)).mono ?_
  rintro e wz ⟨rfl, hz⟩
  obtain rfl := hz.symm
  clear hz
  obtain ⟨Q, hQ⟩ : ∃ Q : Int, Hid (Q = Mx.pick nn 32) := ⟨_, rfl⟩
  rw [← hQ.out] at hN ⊢
  have hQN : 1 + Q = (N : Int) := hN.out
  go_wp2_with fail
  refine (pickv_any at_ 100 w H2.out.1 H2.out.2 (by omega) (by omega)).mono ?_
  rintro e wz ⟨rfl, hz⟩
  obtain rfl := hz.symm
  clear hz
  rw [hP.out]
  obtain ⟨w4, hw4⟩ : ∃ w4 : World, Hid (w4 = w.alloc (.cells #[.int .i64 0, .slice none 0 0, .slice none 0 0, .bool false] 25)) := ⟨_, rfl⟩
  have I4 := hide (show EInv w N w4 0 from ⟨Mx.zBu, none, 0, 0, none, 0, 0, by rw [hw4.out]; exact Bx.new w _ _, BuVA.zero _ _, Mx.bmay_of ⟨by omega, by omega⟩ (Int.le_refl 0) (by decide) (by decide) (by rfl), Int.le_refl 0, by rw [hw4.out]; exact below_alloc _ _, by rw [hw4.out]; simp⟩)
  go_wp2_with fail
  rw [← hw4.out]
  clear hQN
  go_loopw [10] (fun t wr => ∃ i : Nat, i ≤ 12 ∧ t = .int .i64 (i : Int) ∧ Hid (EInv w N wr i)) (fun t _ => 12 - (intOf t).toNat)
  case atStart => exact ⟨0, by omega, rfl, I4⟩
  case round =>
    obtain ⟨i, hi, rfl, hI⟩ := hrel
    obtain ⟨b, xa, xn, xk, ya, yn, yk, iX, iV, iM, iB, iW, iZ⟩ := hI.out
    have X0 := hide iX
    have V0 := hide iV
    have M0 := hide iM
    have W0 := hide iW
    have BN := hide iB
    have hz0 : w.heap.size + 1 ≤ wr.heap.size := iZ
    clear hI iX iV iM iB iW iZ
    by_cases hlt : (i : Int) < 12
    · go_wp2_with fail
      refine (raw_any a n c l (P + i) wr (HL.out.later W0.out) HB.out (by omega) (by omega)).mono ?_
      rintro e w7 ⟨r, hr, rfl, q7, hq7⟩
      have D7 := hide (show Below wr.heap.size wr w7 by rw [hq7]; exact below_drewN (Below.refl _ _) q7)
      clear hq7
      have X7 := hide (X0.out.later D7.out X0.out.lt)
      have V7 := hide (V0.out.later D7.out)
      have W7 := hide (W0.out.trans (D7.out.mono W0.out.size))
      have hz7 : w.heap.size + 1 ≤ w7.heap.size := Nat.le_trans hz0 D7.out.size
      clear X0 V0
      obtain ⟨b0, b1, b2, b3⟩ := X7.out.four
      obtain ⟨w8, hw8⟩ : ∃ w8 : World, Hid (w8 = w7.alloc (.cells #[.int .i64 b.num, .slice xa xn xk, .slice ya yn yk, .bool b.be] 25)) := ⟨_, rfl⟩
      have D8 := hide (show Below w7.heap.size w7 w8 by rw [hw8.out]; exact below_alloc _ _)
      have XX8 := hide (show Bx w8 w7.heap.size #[.int .i64 b.num, .slice xa xn xk, .slice ya yn yk, .bool b.be] 25 by rw [hw8.out]; exact Bx.new w7 _ _)
      have X8 := hide (X7.out.later D8.out X7.out.lt)
      have V8 := hide (V7.out.later D8.out)
      have W8 := hide (W7.out.trans (D8.out.mono W7.out.size))
      have SM := hide (small_may2 M0.out)
      have OKB := hide (Mx.bmay_ok M0.out)
      have hb0 : 0 ≤ b.num := OKB.out.1.2.2.1
      have hb12 : b.num ≤ 12 := by have := BN.out; omega
      have VP8 := hide (V8.out.pts)
      have hx8 : w7.heap.size < w8.heap.size := XX8.out.lt
      have hg8 : w.heap.size < w8.heap.size := X8.out.lt
      have hgx : ¬ w7.heap.size = w.heap.size := by omega
      clear X7 V7
      go_upto_region 12 with fail
      rw [← hw8.out]
      rcases (show r % 5 = 0 ∨ r % 5 = 1 ∨ r % 5 = 2 ∨ r % 5 = 3 ∨ r % 5 = 4 by omega) with h5 | h5 | h5 | h5 | h5
      · have hm : (r : Int) % 5 = 0 := by omega
        have hN0 : ¬ (N : Int) = 0 := by omega
        have hN0n : ¬ N = 0 := by omega
        have hNb : ((N : Int) == 0) = false := by simpa using hN0
        obtain ⟨J, hJ⟩ : ∃ J : Nat, Hid (J = r / 5 % N) := ⟨_, rfl⟩
        have hJN : J < N := by rw [hJ.out]; exact Nat.mod_lt _ (by omega)
        have hW1 : IntKind.i64.wrap ((P : Int) + (i : Int)) = (P : Int) + (i : Int) := by rw [IntWalk.i64_left, IntWalk.wrap64_in _ (by omega)]
        obtain ⟨R3, hR3⟩ : ∃ R3 : Nat, Hid (R3 = r / 5) := ⟨_, rfl⟩
        have hq1 : (r : Int) / 5 = (R3 : Int) := by rw [hR3.out]; push_cast; rfl
        have hq2 : (r : Int).tdiv 5 = (R3 : Int) := by rw [hR3.out, Int.tdiv_eq_ediv_of_nonneg (by omega)]; push_cast; rfl
        have hm1 : (R3 : Int).tmod (N : Int) = (J : Int) := by rw [hJ.out, hR3.out, Int.tmod_eq_emod_of_nonneg (by omega)]; push_cast; rfl
        have hm2 : (R3 : Int) % (N : Int) = (J : Int) := by rw [hJ.out, hR3.out]; push_cast; rfl
        have hR3b : (R3 : Int) ≤ 1000000000 := by rw [hR3.out]; omega
        have hwR : IntKind.i64.wrap (R3 : Int) = (R3 : Int) := by rw [IntWalk.i64_left, IntWalk.wrap64_in _ (by omega)]
        have hwJ : IntKind.i64.wrap (J : Int) = (J : Int) := by rw [IntWalk.i64_left, IntWalk.wrap64_in _ (by omega)]
        have HBF := hide (show ∀ (W : World), Ints W a n l → Calls Try.prog 23 #[.slice a n c, .int .i64 ((P : Int) + (i : Int))] W fun e w' => ∃ x : B8, x.ok ∧ e = .returned (.agg #[.int .u8 x.z0, .int .u8 x.z1, .int .u8 x.z2, .int .u8 x.z3, .int .u8 x.z4, .int .u8 x.z5, .int .u8 x.z6, .int .u8 x.z7]) ∧ Hid (Below W.heap.size W w') from fun W hW => by
          have h := blockFrom_any a n c l (P + i) W hW HB.out (by omega) (by omega)
          push_cast at h
          exact h)
        have HAM := hide (show ∀ y : B8, Mx.amay ⟨b.num, b.op, b.se, b.be⟩ (N : Int) ⟨(J : Int), y⟩ = 0 from fun y => Mx.amay_0 (b := b) M0.out (by show ¬ ((J : Int) < 0 ∨ (N : Int) ≤ (J : Int)); omega))
        have HAD := hide (show ∀ y : B8, Mx.added ⟨b.num, b.op, b.se, b.be⟩ (N : Int) ⟨(J : Int), y⟩ = Mx.addB b ⟨(J : Int), y⟩ from fun y => Mx.added_ok (HAM.out y))
        clear b0 b1 b2 b3
        obtain ⟨b0, b1, b2, b3⟩ := X8.out.four
        go_upto_region 16 with fail
        go_region_held3 (fun w' => w'.cell? ⟨w.heap.size, 0, none⟩ = some (.int .i64 b.num) ∧ w'.cell? ⟨w.heap.size, 1, none⟩ = some (.slice xa xn xk) ∧ w'.cell? ⟨w.heap.size, 2, none⟩ = some (.slice ya yn yk) ∧ w'.cell? ⟨w.heap.size, 3, none⟩ = some (.bool b.be))
          (first
            | with_reducible exact ⟨b0, b1, b2, b3⟩
            | (simp only [cell_drew]; with_reducible exact ⟨b0, b1, b2, b3⟩)
            | with_reducible exact ⟨c0, c1, c2, c3⟩
            | with_reducible exact ⟨d0, d1, d2, d3⟩
            | (simp only [cell_set_far hgx]; with_reducible exact ⟨d0, d1, d2, d3⟩))
          (first
            | (go_at_call 23; (with_reducible refine (HBF.out w8.drew ((HL.out.later W8.out).later (Below.refl _ _).drew)).mono ?_); rintro e w9 ⟨y, _, rfl, hb9⟩; have D9 := hide (drew_below hb9.out); obtain ⟨c0, c1, c2, c3⟩ := (X8.out.later D9.out hg8).four; have V9 := hide ((V8.out.later D9.out).pts))
            | (go_at_call 14; refine (add_own b.num xa xn xk ya yn yk b.be b.op b.se (N : Int) (J : Int) y w9 V9.out.1 V9.out.2.1 SM.out).mono ?_; rintro e w10 ⟨v10, rfl, V10, E10⟩; rw [HAD.out y] at V10; rw [HAM.out y, errV_zero]; have VB := V10.out; obtain ⟨ua, un, uk, ta, tn, tk, rfl, _⟩ := VB; have D10 := hide (show Below w8.heap.size w8 w10 from D9.out.trans (E10.out.mono D9.out.size)); obtain ⟨d0, d1, d2, d3⟩ := (X8.out.later D10.out hg8).four; have XX10 := hide (XX8.out.later D10.out hx8); obtain ⟨p0, p1, p2, p3⟩ := XX10.out.four; have pz := XX10.out.frozen))
        all_goals
          clear p0 p1 p2 p3 pz d0 d1 d2 d3 c0 c1 c2 c3 b0 b1 b2 b3 XX10
          obtain ⟨W11, hW11⟩ : ∃ W11 : World, Hid (W11 = set4 w10 w7.heap.size (.int .i64 (Mx.addB b ⟨(J : Int), y⟩).num) (.slice ua un uk) (.slice ta tn tk) (.bool (Mx.addB b ⟨(J : Int), y⟩).be)) := ⟨_, rfl⟩
          have XX10 := hide (XX8.out.later D10.out hx8)
          have X10 := hide (X8.out.later D10.out hg8)
          have G11 := hide (show w10.grownBy W11 (some w7.heap.size) by rw [hW11.out]; exact set4_grown (grow_refl _ _) _ _ _ _)
          have XX11 := hide (show Bx W11 w7.heap.size #[.int .i64 (Mx.addB b ⟨(J : Int), y⟩).num, .slice ua un uk, .slice ta tn tk, .bool (Mx.addB b ⟨(J : Int), y⟩).be] 25 by rw [hW11.out]; exact XX10.out.four_set _ _ _ _)
          have X11 := hide (show Bx W11 w.heap.size #[.int .i64 b.num, .slice xa xn xk, .slice ya yn yk, .bool b.be] 25 from (G11.out.block w.heap.size X10.out.lt (fun e => hgx (Option.some.inj e).symm)).trans X10.out)
          have hB8 : w8.heap.size ≤ w9.heap.size := D9.out.size
          have V11 := hide (V10.out.grown G11.out (by omega))
          have W11b := hide (show Below w.heap.size w W11 by rw [hW11.out]; exact set4_below (W8.out.trans (D10.out.mono W8.out.size)) (by omega) _ _ _ _)
          have MB := hide (Mx.add_may (p := ⟨(J : Int), y⟩) M0.out (by show (0 : Int) ≤ (J : Int); omega) (by show (J : Int) < (N : Int); omega))
          go_upto_region 20 with fail
          unfold set4 at hW11
          rw [← hW11.out]
          obtain ⟨p0, p1, p2, p3⟩ := XX11.out.four
          go_wp2_with fail
          refine (builderMay_any (Mx.addB b ⟨(J : Int), y⟩).num ua un uk ta tn tk (Mx.addB b ⟨(J : Int), y⟩).be (Mx.addB b ⟨(J : Int), y⟩).op (Mx.addB b ⟨(J : Int), y⟩).se (N : Int) W11 V11.out.pts.1 V11.out.pts.2.1).mono ?_
          rintro e w12 ⟨rfl, D12⟩
          rw [show Mx.bmay ⟨(Mx.addB b ⟨(J : Int), y⟩).num, (Mx.addB b ⟨(J : Int), y⟩).op, (Mx.addB b ⟨(J : Int), y⟩).se, (Mx.addB b ⟨(J : Int), y⟩).be⟩ (N : Int) = 0 from MB.out]
          clear p0 p1 p2 p3
          have XX12 := hide (XX11.out.later D12 XX11.out.lt)
          have X12 := hide (X11.out.later D12 X11.out.lt)
          have V12 := hide (V11.out.later D12)
          obtain ⟨p0, p1, p2, p3⟩ := XX12.out.four
          obtain ⟨b0, b1, b2, b3⟩ := X12.out.four
          have bz := X12.out.frozen
          obtain ⟨W13, hW13⟩ : ∃ W13 : World, Hid (W13 = set4 w12 w.heap.size (.int .i64 (Mx.addB b ⟨(J : Int), y⟩).num) (.slice ua un uk) (.slice ta tn tk) (.bool (Mx.addB b ⟨(J : Int), y⟩).be)) := ⟨_, rfl⟩
          have G13 := hide (show w12.grownBy W13 (some w.heap.size) by rw [hW13.out]; exact set4_grown (grow_refl _ _) _ _ _ _)
          have X13 := hide (show Bx W13 w.heap.size #[.int .i64 (Mx.addB b ⟨(J : Int), y⟩).num, .slice ua un uk, .slice ta tn tk, .bool (Mx.addB b ⟨(J : Int), y⟩).be] 25 by rw [hW13.out]; exact X12.out.four_set _ _ _ _)
          have V13 := hide ((V12.out.grown G13.out (by omega)).low (show w.heap.size + 1 ≤ w9.heap.size by omega))
          have W13b := hide (show Below w.heap.size w W13 by rw [hW13.out]; exact set4_below (W11b.out.trans (D12.mono W11b.out.size)) (Nat.le_refl _) _ _ _ _)
          have hz13 : w.heap.size + 1 ≤ W13.heap.size := X13.out.lt
          go_wp2_with fail
          unfold set4 at hW13
          rw [← hW13.out]
          go_roundw
          case rel => exact ⟨i + 1, by omega, by go_num, (Mx.addB b ⟨(J : Int), y⟩), ua, un, uk, ta, tn, tk, X13.out, V13.out, MB.out, by show b.num ≤ _; have := BN.out; push_cast; omega, W13b.out, hz13⟩
          case measure => simp [intOf]; omega
      · have hm : (r : Int) % 5 = 1 := by omega
        have hN0 : ¬ (N : Int) = 0 := by omega
        have hN0n : ¬ N = 0 := by omega
        have hNb : ((N : Int) == 0) = false := by simpa using hN0
        obtain ⟨J, hJ⟩ : ∃ J : Nat, Hid (J = r / 5 % N) := ⟨_, rfl⟩
        have hJN : J < N := by rw [hJ.out]; exact Nat.mod_lt _ (by omega)
        have hW1 : IntKind.i64.wrap ((P : Int) + (i : Int)) = (P : Int) + (i : Int) := by rw [IntWalk.i64_left, IntWalk.wrap64_in _ (by omega)]
        obtain ⟨R3, hR3⟩ : ∃ R3 : Nat, Hid (R3 = r / 5) := ⟨_, rfl⟩
        have hq1 : (r : Int) / 5 = (R3 : Int) := by rw [hR3.out]; push_cast; rfl
        have hq2 : (r : Int).tdiv 5 = (R3 : Int) := by rw [hR3.out, Int.tdiv_eq_ediv_of_nonneg (by omega)]; push_cast; rfl
        have hm1 : (R3 : Int).tmod (N : Int) = (J : Int) := by rw [hJ.out, hR3.out, Int.tmod_eq_emod_of_nonneg (by omega)]; push_cast; rfl
        have hm2 : (R3 : Int) % (N : Int) = (J : Int) := by rw [hJ.out, hR3.out]; push_cast; rfl
        have hR3b : (R3 : Int) ≤ 1000000000 := by rw [hR3.out]; omega
        have hwR : IntKind.i64.wrap (R3 : Int) = (R3 : Int) := by rw [IntWalk.i64_left, IntWalk.wrap64_in _ (by omega)]
        have hwJ : IntKind.i64.wrap (J : Int) = (J : Int) := by rw [IntWalk.i64_left, IntWalk.wrap64_in _ (by omega)]
        have HBF := hide (show ∀ (W : World), Ints W a n l → Calls Try.prog 23 #[.slice a n c, .int .i64 ((P : Int) + (i : Int))] W fun e w' => ∃ x : B8, x.ok ∧ e = .returned (.agg #[.int .u8 x.z0, .int .u8 x.z1, .int .u8 x.z2, .int .u8 x.z3, .int .u8 x.z4, .int .u8 x.z5, .int .u8 x.z6, .int .u8 x.z7]) ∧ Hid (Below W.heap.size W w') from fun W hW => by
          have h := blockFrom_any a n c l (P + i) W hW HB.out (by omega) (by omega)
          push_cast at h
          exact h)
        have HAM := hide (show ∀ y : B8, Mx.amay ⟨b.num, b.op, b.se, b.be⟩ (N : Int) ⟨(J : Int), y⟩ = 0 from fun y => Mx.amay_0 (b := b) M0.out (by show ¬ ((J : Int) < 0 ∨ (N : Int) ≤ (J : Int)); omega))
        have HAD := hide (show ∀ y : B8, Mx.added ⟨b.num, b.op, b.se, b.be⟩ (N : Int) ⟨(J : Int), y⟩ = Mx.addB b ⟨(J : Int), y⟩ from fun y => Mx.added_ok (HAM.out y))
        clear b0 b1 b2 b3
        obtain ⟨b0, b1, b2, b3⟩ := X8.out.four
        go_upto_region 16 with fail
        go_region_held3 (fun w' => w'.cell? ⟨w.heap.size, 0, none⟩ = some (.int .i64 b.num) ∧ w'.cell? ⟨w.heap.size, 1, none⟩ = some (.slice xa xn xk) ∧ w'.cell? ⟨w.heap.size, 2, none⟩ = some (.slice ya yn yk) ∧ w'.cell? ⟨w.heap.size, 3, none⟩ = some (.bool b.be))
          (first
            | with_reducible exact ⟨b0, b1, b2, b3⟩
            | (simp only [cell_drew]; with_reducible exact ⟨b0, b1, b2, b3⟩)
            | with_reducible exact ⟨c0, c1, c2, c3⟩
            | with_reducible exact ⟨d0, d1, d2, d3⟩
            | (simp only [cell_set_far hgx]; with_reducible exact ⟨d0, d1, d2, d3⟩))
          (first
            | (go_at_call 23; (with_reducible refine (HBF.out w8.drew ((HL.out.later W8.out).later (Below.refl _ _).drew)).mono ?_); rintro e w9 ⟨y, _, rfl, hb9⟩; have D9 := hide (drew_below hb9.out); obtain ⟨c0, c1, c2, c3⟩ := (X8.out.later D9.out hg8).four; have V9 := hide ((V8.out.later D9.out).pts))
            | (go_at_call 14; refine (add_own b.num xa xn xk ya yn yk b.be b.op b.se (N : Int) (J : Int) y w9 V9.out.1 V9.out.2.1 SM.out).mono ?_; rintro e w10 ⟨v10, rfl, V10, E10⟩; rw [HAD.out y] at V10; rw [HAM.out y, errV_zero]; have VB := V10.out; obtain ⟨ua, un, uk, ta, tn, tk, rfl, _⟩ := VB; have D10 := hide (show Below w8.heap.size w8 w10 from D9.out.trans (E10.out.mono D9.out.size)); obtain ⟨d0, d1, d2, d3⟩ := (X8.out.later D10.out hg8).four; have XX10 := hide (XX8.out.later D10.out hx8); obtain ⟨p0, p1, p2, p3⟩ := XX10.out.four; have pz := XX10.out.frozen))
        all_goals
          clear p0 p1 p2 p3 pz d0 d1 d2 d3 c0 c1 c2 c3 b0 b1 b2 b3 XX10
          obtain ⟨W11, hW11⟩ : ∃ W11 : World, Hid (W11 = set4 w10 w7.heap.size (.int .i64 (Mx.addB b ⟨(J : Int), y⟩).num) (.slice ua un uk) (.slice ta tn tk) (.bool (Mx.addB b ⟨(J : Int), y⟩).be)) := ⟨_, rfl⟩
          have XX10 := hide (XX8.out.later D10.out hx8)
          have X10 := hide (X8.out.later D10.out hg8)
          have G11 := hide (show w10.grownBy W11 (some w7.heap.size) by rw [hW11.out]; exact set4_grown (grow_refl _ _) _ _ _ _)
          have XX11 := hide (show Bx W11 w7.heap.size #[.int .i64 (Mx.addB b ⟨(J : Int), y⟩).num, .slice ua un uk, .slice ta tn tk, .bool (Mx.addB b ⟨(J : Int), y⟩).be] 25 by rw [hW11.out]; exact XX10.out.four_set _ _ _ _)
          have X11 := hide (show Bx W11 w.heap.size #[.int .i64 b.num, .slice xa xn xk, .slice ya yn yk, .bool b.be] 25 from (G11.out.block w.heap.size X10.out.lt (fun e => hgx (Option.some.inj e).symm)).trans X10.out)
          have hB8 : w8.heap.size ≤ w9.heap.size := D9.out.size
          have V11 := hide (V10.out.grown G11.out (by omega))
          have W11b := hide (show Below w.heap.size w W11 by rw [hW11.out]; exact set4_below (W8.out.trans (D10.out.mono W8.out.size)) (by omega) _ _ _ _)
          have MB := hide (Mx.add_may (p := ⟨(J : Int), y⟩) M0.out (by show (0 : Int) ≤ (J : Int); omega) (by show (J : Int) < (N : Int); omega))
          go_upto_region 20 with fail
          unfold set4 at hW11
          rw [← hW11.out]
          obtain ⟨p0, p1, p2, p3⟩ := XX11.out.four
          go_wp2_with fail
          refine (builderMay_any (Mx.addB b ⟨(J : Int), y⟩).num ua un uk ta tn tk (Mx.addB b ⟨(J : Int), y⟩).be (Mx.addB b ⟨(J : Int), y⟩).op (Mx.addB b ⟨(J : Int), y⟩).se (N : Int) W11 V11.out.pts.1 V11.out.pts.2.1).mono ?_
          rintro e w12 ⟨rfl, D12⟩
          rw [show Mx.bmay ⟨(Mx.addB b ⟨(J : Int), y⟩).num, (Mx.addB b ⟨(J : Int), y⟩).op, (Mx.addB b ⟨(J : Int), y⟩).se, (Mx.addB b ⟨(J : Int), y⟩).be⟩ (N : Int) = 0 from MB.out]
          clear p0 p1 p2 p3
          have XX12 := hide (XX11.out.later D12 XX11.out.lt)
          have X12 := hide (X11.out.later D12 X11.out.lt)
          have V12 := hide (V11.out.later D12)
          obtain ⟨p0, p1, p2, p3⟩ := XX12.out.four
          obtain ⟨b0, b1, b2, b3⟩ := X12.out.four
          have bz := X12.out.frozen
          obtain ⟨W13, hW13⟩ : ∃ W13 : World, Hid (W13 = set4 w12 w.heap.size (.int .i64 (Mx.addB b ⟨(J : Int), y⟩).num) (.slice ua un uk) (.slice ta tn tk) (.bool (Mx.addB b ⟨(J : Int), y⟩).be)) := ⟨_, rfl⟩
          have G13 := hide (show w12.grownBy W13 (some w.heap.size) by rw [hW13.out]; exact set4_grown (grow_refl _ _) _ _ _ _)
          have X13 := hide (show Bx W13 w.heap.size #[.int .i64 (Mx.addB b ⟨(J : Int), y⟩).num, .slice ua un uk, .slice ta tn tk, .bool (Mx.addB b ⟨(J : Int), y⟩).be] 25 by rw [hW13.out]; exact X12.out.four_set _ _ _ _)
          have V13 := hide ((V12.out.grown G13.out (by omega)).low (show w.heap.size + 1 ≤ w9.heap.size by omega))
          have W13b := hide (show Below w.heap.size w W13 by rw [hW13.out]; exact set4_below (W11b.out.trans (D12.mono W11b.out.size)) (Nat.le_refl _) _ _ _ _)
          have hz13 : w.heap.size + 1 ≤ W13.heap.size := X13.out.lt
          go_wp2_with fail
          unfold set4 at hW13
          rw [← hW13.out]
          go_roundw
          case rel => exact ⟨i + 1, by omega, by go_num, (Mx.addB b ⟨(J : Int), y⟩), ua, un, uk, ta, tn, tk, X13.out, V13.out, MB.out, by show b.num ≤ _; have := BN.out; push_cast; omega, W13b.out, hz13⟩
          case measure => simp [intOf]; omega
      · have hm : (r : Int) % 5 = 2 := by omega
        have HSM := hide (show Mx.smay ⟨b.num, b.op, b.se, b.be⟩ (N : Int) = 0 from Mx.smay_0 (b := b) M0.out (by omega))
        have HSD := hide (show Mx.sealed ⟨b.num, b.op, b.se, b.be⟩ (N : Int) = Mx.sealE b from Mx.sealed_ok HSM.out)
        clear b0 b1 b2 b3
        obtain ⟨b0, b1, b2, b3⟩ := X8.out.four
        go_wp2_with fail
        refine (seal_own b.num xa xn xk ya yn yk b.be b.op b.se (N : Int) w8 VP8.out.1 VP8.out.2.1 SM.out).mono ?_
        rintro e w10 ⟨v10, rfl, V10, D10⟩
        rw [HSD.out] at V10
        rw [HSM.out, errV_zero]
        have VB := V10.out
        obtain ⟨ua, un, uk, ta, tn, tk, rfl, _⟩ := VB
        have D9 := hide (Below.refl w8.heap.size w8)
        clear b0 b1 b2 b3
        obtain ⟨p0, p1, p2, p3⟩ := (XX8.out.later D10.out hx8).four
        have pz := (XX8.out.later D10.out hx8).frozen
        obtain ⟨W11, hW11⟩ : ∃ W11 : World, Hid (W11 = set4 w10 w7.heap.size (.int .i64 (Mx.sealE b).num) (.slice ua un uk) (.slice ta tn tk) (.bool (Mx.sealE b).be)) := ⟨_, rfl⟩
        have XX10 := hide (XX8.out.later D10.out hx8)
        have X10 := hide (X8.out.later D10.out hg8)
        have G11 := hide (show w10.grownBy W11 (some w7.heap.size) by rw [hW11.out]; exact set4_grown (grow_refl _ _) _ _ _ _)
        have XX11 := hide (show Bx W11 w7.heap.size #[.int .i64 (Mx.sealE b).num, .slice ua un uk, .slice ta tn tk, .bool (Mx.sealE b).be] 25 by rw [hW11.out]; exact XX10.out.four_set _ _ _ _)
        have X11 := hide (show Bx W11 w.heap.size #[.int .i64 b.num, .slice xa xn xk, .slice ya yn yk, .bool b.be] 25 from (G11.out.block w.heap.size X10.out.lt (fun e => hgx (Option.some.inj e).symm)).trans X10.out)
        have hB8 : w8.heap.size ≤ w8.heap.size := D9.out.size
        have V11 := hide (V10.out.grown G11.out (by omega))
        have W11b := hide (show Below w.heap.size w W11 by rw [hW11.out]; exact set4_below (W8.out.trans (D10.out.mono W8.out.size)) (by omega) _ _ _ _)
        have MB := hide (Mx.seal_may M0.out (by omega))
        go_upto_region 20 with fail
        unfold set4 at hW11
        rw [← hW11.out]
        clear p0 p1 p2 p3 pz
        obtain ⟨p0, p1, p2, p3⟩ := XX11.out.four
        go_wp2_with fail
        refine (builderMay_any (Mx.sealE b).num ua un uk ta tn tk (Mx.sealE b).be (Mx.sealE b).op (Mx.sealE b).se (N : Int) W11 V11.out.pts.1 V11.out.pts.2.1).mono ?_
        rintro e w12 ⟨rfl, D12⟩
        rw [show Mx.bmay ⟨(Mx.sealE b).num, (Mx.sealE b).op, (Mx.sealE b).se, (Mx.sealE b).be⟩ (N : Int) = 0 from MB.out]
        clear p0 p1 p2 p3
        have XX12 := hide (XX11.out.later D12 XX11.out.lt)
        have X12 := hide (X11.out.later D12 X11.out.lt)
        have V12 := hide (V11.out.later D12)
        obtain ⟨p0, p1, p2, p3⟩ := XX12.out.four
        obtain ⟨b0, b1, b2, b3⟩ := X12.out.four
        have bz := X12.out.frozen
        obtain ⟨W13, hW13⟩ : ∃ W13 : World, Hid (W13 = set4 w12 w.heap.size (.int .i64 (Mx.sealE b).num) (.slice ua un uk) (.slice ta tn tk) (.bool (Mx.sealE b).be)) := ⟨_, rfl⟩
        have G13 := hide (show w12.grownBy W13 (some w.heap.size) by rw [hW13.out]; exact set4_grown (grow_refl _ _) _ _ _ _)
        have X13 := hide (show Bx W13 w.heap.size #[.int .i64 (Mx.sealE b).num, .slice ua un uk, .slice ta tn tk, .bool (Mx.sealE b).be] 25 by rw [hW13.out]; exact X12.out.four_set _ _ _ _)
        have V13 := hide ((V12.out.grown G13.out (by omega)).low (show w.heap.size + 1 ≤ w8.heap.size by omega))
        have W13b := hide (show Below w.heap.size w W13 by rw [hW13.out]; exact set4_below (W11b.out.trans (D12.mono W11b.out.size)) (Nat.le_refl _) _ _ _ _)
        have hz13 : w.heap.size + 1 ≤ W13.heap.size := X13.out.lt
        go_wp2_with fail
        unfold set4 at hW13
        rw [← hW13.out]
        go_roundw
        case rel => exact ⟨i + 1, by omega, by go_num, (Mx.sealE b), ua, un, uk, ta, tn, tk, X13.out, V13.out, MB.out, by show b.num + 1 ≤ _; have := BN.out; push_cast; omega, W13b.out, hz13⟩
        case measure => simp [intOf]; omega
      · have hm : (r : Int) % 5 = 3 := by omega
        have HSM := hide (show Mx.smay ⟨b.num, b.op, b.se, b.be⟩ (N : Int) = 0 from Mx.smay_0 (b := b) M0.out (by omega))
        have HSD := hide (show Mx.sealed ⟨b.num, b.op, b.se, b.be⟩ (N : Int) = Mx.sealE b from Mx.sealed_ok HSM.out)
        clear b0 b1 b2 b3
        obtain ⟨b0, b1, b2, b3⟩ := X8.out.four
        go_wp2_with fail
        refine (seal_own b.num xa xn xk ya yn yk b.be b.op b.se (N : Int) w8 VP8.out.1 VP8.out.2.1 SM.out).mono ?_
        rintro e w10 ⟨v10, rfl, V10, D10⟩
        rw [HSD.out] at V10
        rw [HSM.out, errV_zero]
        have VB := V10.out
        obtain ⟨ua, un, uk, ta, tn, tk, rfl, _⟩ := VB
        have D9 := hide (Below.refl w8.heap.size w8)
        clear b0 b1 b2 b3
        obtain ⟨p0, p1, p2, p3⟩ := (XX8.out.later D10.out hx8).four
        have pz := (XX8.out.later D10.out hx8).frozen
        obtain ⟨W11, hW11⟩ : ∃ W11 : World, Hid (W11 = set4 w10 w7.heap.size (.int .i64 (Mx.sealE b).num) (.slice ua un uk) (.slice ta tn tk) (.bool (Mx.sealE b).be)) := ⟨_, rfl⟩
        have XX10 := hide (XX8.out.later D10.out hx8)
        have X10 := hide (X8.out.later D10.out hg8)
        have G11 := hide (show w10.grownBy W11 (some w7.heap.size) by rw [hW11.out]; exact set4_grown (grow_refl _ _) _ _ _ _)
        have XX11 := hide (show Bx W11 w7.heap.size #[.int .i64 (Mx.sealE b).num, .slice ua un uk, .slice ta tn tk, .bool (Mx.sealE b).be] 25 by rw [hW11.out]; exact XX10.out.four_set _ _ _ _)
        have X11 := hide (show Bx W11 w.heap.size #[.int .i64 b.num, .slice xa xn xk, .slice ya yn yk, .bool b.be] 25 from (G11.out.block w.heap.size X10.out.lt (fun e => hgx (Option.some.inj e).symm)).trans X10.out)
        have hB8 : w8.heap.size ≤ w8.heap.size := D9.out.size
        have V11 := hide (V10.out.grown G11.out (by omega))
        have W11b := hide (show Below w.heap.size w W11 by rw [hW11.out]; exact set4_below (W8.out.trans (D10.out.mono W8.out.size)) (by omega) _ _ _ _)
        have MB := hide (Mx.seal_may M0.out (by omega))
        go_upto_region 20 with fail
        unfold set4 at hW11
        rw [← hW11.out]
        clear p0 p1 p2 p3 pz
        obtain ⟨p0, p1, p2, p3⟩ := XX11.out.four
        go_wp2_with fail
        refine (builderMay_any (Mx.sealE b).num ua un uk ta tn tk (Mx.sealE b).be (Mx.sealE b).op (Mx.sealE b).se (N : Int) W11 V11.out.pts.1 V11.out.pts.2.1).mono ?_
        rintro e w12 ⟨rfl, D12⟩
        rw [show Mx.bmay ⟨(Mx.sealE b).num, (Mx.sealE b).op, (Mx.sealE b).se, (Mx.sealE b).be⟩ (N : Int) = 0 from MB.out]
        clear p0 p1 p2 p3
        have XX12 := hide (XX11.out.later D12 XX11.out.lt)
        have X12 := hide (X11.out.later D12 X11.out.lt)
        have V12 := hide (V11.out.later D12)
        obtain ⟨p0, p1, p2, p3⟩ := XX12.out.four
        obtain ⟨b0, b1, b2, b3⟩ := X12.out.four
        have bz := X12.out.frozen
        obtain ⟨W13, hW13⟩ : ∃ W13 : World, Hid (W13 = set4 w12 w.heap.size (.int .i64 (Mx.sealE b).num) (.slice ua un uk) (.slice ta tn tk) (.bool (Mx.sealE b).be)) := ⟨_, rfl⟩
        have G13 := hide (show w12.grownBy W13 (some w.heap.size) by rw [hW13.out]; exact set4_grown (grow_refl _ _) _ _ _ _)
        have X13 := hide (show Bx W13 w.heap.size #[.int .i64 (Mx.sealE b).num, .slice ua un uk, .slice ta tn tk, .bool (Mx.sealE b).be] 25 by rw [hW13.out]; exact X12.out.four_set _ _ _ _)
        have V13 := hide ((V12.out.grown G13.out (by omega)).low (show w.heap.size + 1 ≤ w8.heap.size by omega))
        have W13b := hide (show Below w.heap.size w W13 by rw [hW13.out]; exact set4_below (W11b.out.trans (D12.mono W11b.out.size)) (Nat.le_refl _) _ _ _ _)
        have hz13 : w.heap.size + 1 ≤ W13.heap.size := X13.out.lt
        go_wp2_with fail
        unfold set4 at hW13
        rw [← hW13.out]
        go_roundw
        case rel => exact ⟨i + 1, by omega, by go_num, (Mx.sealE b), ua, un, uk, ta, tn, tk, X13.out, V13.out, MB.out, by show b.num + 1 ≤ _; have := BN.out; push_cast; omega, W13b.out, hz13⟩
        case measure => simp [intOf]; omega
      · have hm : (r : Int) % 5 = 4 := by omega
        obtain ⟨Bn, hBn⟩ : ∃ Bn : Nat, Hid (b.num = (Bn : Int)) := ⟨b.num.toNat, by unfold Hid; omega⟩
        obtain ⟨J, hJ⟩ : ∃ J : Nat, Hid (J = r / 5 % (Bn + 1)) := ⟨_, rfl⟩
        have hJN : J < Bn + 1 := by rw [hJ.out]; exact Nat.mod_lt _ (by omega)
        have hJb : (J : Int) ≤ b.num := by have := hBn.out; omega
        obtain ⟨R3, hR3⟩ : ∃ R3 : Nat, Hid (R3 = r / 5) := ⟨_, rfl⟩
        have hq1 : (r : Int) / 5 = (R3 : Int) := by rw [hR3.out]; push_cast; rfl
        have hq2 : (r : Int).tdiv 5 = (R3 : Int) := by rw [hR3.out, Int.tdiv_eq_ediv_of_nonneg (by omega)]; push_cast; rfl
        have hm1 : (R3 : Int).tmod (b.num + 1) = (J : Int) := by rw [hJ.out, hR3.out, hBn.out, Int.tmod_eq_emod_of_nonneg (by omega)]; push_cast; rfl
        have hm2 : (R3 : Int) % (b.num + 1) = (J : Int) := by rw [hJ.out, hR3.out, hBn.out]; push_cast; rfl
        have hR3b : (R3 : Int) ≤ 1000000000 := by rw [hR3.out]; omega
        have hwR : IntKind.i64.wrap (R3 : Int) = (R3 : Int) := by rw [IntWalk.i64_left, IntWalk.wrap64_in _ (by omega)]
        have hwJ : IntKind.i64.wrap (J : Int) = (J : Int) := by rw [IntWalk.i64_left, IntWalk.wrap64_in _ (by omega)]
        have hwb : IntKind.i64.wrap (b.num + 1) = b.num + 1 := by rw [IntWalk.i64_left, IntWalk.wrap64_in _ (by omega)]
        have hb1 : ¬ b.num + 1 = 0 := by omega
        have hb2 : (b.num + 1 == 0) = false := by simpa using hb1
        have HNM := hide (show Mx.nmay ⟨b.num, b.op, b.se, b.be⟩ (N : Int) (J : Int) = 0 from Mx.nmay_0 (b := b) M0.out (by show ¬ ((J : Int) < 0 ∨ b.num < (J : Int)); omega))
        have HDD := hide (show Mx.dropped ⟨b.num, b.op, b.se, b.be⟩ (N : Int) (J : Int) = Mx.dropB b (J : Int) from Mx.dropped_ok HNM.out)
        clear b0 b1 b2 b3
        obtain ⟨b0, b1, b2, b3⟩ := X8.out.four
        go_upto_region 13 with fail
        go_region_held3 (fun w' => w'.cell? ⟨w.heap.size, 0, none⟩ = some (.int .i64 b.num) ∧ w'.cell? ⟨w.heap.size, 1, none⟩ = some (.slice xa xn xk) ∧ w'.cell? ⟨w.heap.size, 2, none⟩ = some (.slice ya yn yk) ∧ w'.cell? ⟨w.heap.size, 3, none⟩ = some (.bool b.be))
          (first
            | with_reducible exact ⟨b0, b1, b2, b3⟩
            | (simp only [cell_drew]; with_reducible exact ⟨b0, b1, b2, b3⟩)
            | with_reducible exact ⟨d0, d1, d2, d3⟩
            | (simp only [cell_set_far hgx]; with_reducible exact ⟨d0, d1, d2, d3⟩))
          (first
            | (go_at_call 16; refine (drop_own b.num xa xn xk ya yn yk b.be b.op b.se (N : Int) (J : Int) w8.drew (VP8.out.1.later (Below.refl _ _).drew) (VP8.out.2.1.later (Below.refl _ _).drew) SM.out VP8.out.2.2.2.1).mono ?_; rintro e w10 ⟨v10, rfl, V10, E10⟩; rw [HDD.out] at V10; rw [HNM.out, errV_zero]; have VB := V10.out; obtain ⟨ua, un, uk, ta, tn, tk, rfl, _⟩ := VB; have D9 := hide (Below.refl w8.heap.size w8); have D10 := hide (drew_below E10.out); obtain ⟨d0, d1, d2, d3⟩ := (X8.out.later D10.out hg8).four; have XX10 := hide (XX8.out.later D10.out hx8); obtain ⟨p0, p1, p2, p3⟩ := XX10.out.four; have pz := XX10.out.frozen))
        all_goals
          clear p0 p1 p2 p3 pz d0 d1 d2 d3 b0 b1 b2 b3 XX10
          replace V10 := hide (show BuVA w8.heap.size w10 _ _ from V10.out)
          obtain ⟨W11, hW11⟩ : ∃ W11 : World, Hid (W11 = set4 w10 w7.heap.size (.int .i64 (Mx.dropB b (J : Int)).num) (.slice ua un uk) (.slice ta tn tk) (.bool (Mx.dropB b (J : Int)).be)) := ⟨_, rfl⟩
          have XX10 := hide (XX8.out.later D10.out hx8)
          have X10 := hide (X8.out.later D10.out hg8)
          have G11 := hide (show w10.grownBy W11 (some w7.heap.size) by rw [hW11.out]; exact set4_grown (grow_refl _ _) _ _ _ _)
          have XX11 := hide (show Bx W11 w7.heap.size #[.int .i64 (Mx.dropB b (J : Int)).num, .slice ua un uk, .slice ta tn tk, .bool (Mx.dropB b (J : Int)).be] 25 by rw [hW11.out]; exact XX10.out.four_set _ _ _ _)
          have X11 := hide (show Bx W11 w.heap.size #[.int .i64 b.num, .slice xa xn xk, .slice ya yn yk, .bool b.be] 25 from (G11.out.block w.heap.size X10.out.lt (fun e => hgx (Option.some.inj e).symm)).trans X10.out)
          have hB8 : w8.heap.size ≤ w8.heap.size := D9.out.size
          have V11 := hide (V10.out.grown G11.out (by omega))
          have W11b := hide (show Below w.heap.size w W11 by rw [hW11.out]; exact set4_below (W8.out.trans (D10.out.mono W8.out.size)) (by omega) _ _ _ _)
          have MB := hide (Mx.drop_may (k := (J : Int)) M0.out)
          go_upto_region 20 with fail
          unfold set4 at hW11
          rw [← hW11.out]
          obtain ⟨p0, p1, p2, p3⟩ := XX11.out.four
          go_wp2_with fail
          refine (builderMay_any (Mx.dropB b (J : Int)).num ua un uk ta tn tk (Mx.dropB b (J : Int)).be (Mx.dropB b (J : Int)).op (Mx.dropB b (J : Int)).se (N : Int) W11 V11.out.pts.1 V11.out.pts.2.1).mono ?_
          rintro e w12 ⟨rfl, D12⟩
          rw [show Mx.bmay ⟨(Mx.dropB b (J : Int)).num, (Mx.dropB b (J : Int)).op, (Mx.dropB b (J : Int)).se, (Mx.dropB b (J : Int)).be⟩ (N : Int) = 0 from MB.out]
          clear p0 p1 p2 p3
          have XX12 := hide (XX11.out.later D12 XX11.out.lt)
          have X12 := hide (X11.out.later D12 X11.out.lt)
          have V12 := hide (V11.out.later D12)
          obtain ⟨p0, p1, p2, p3⟩ := XX12.out.four
          obtain ⟨b0, b1, b2, b3⟩ := X12.out.four
          have bz := X12.out.frozen
          obtain ⟨W13, hW13⟩ : ∃ W13 : World, Hid (W13 = set4 w12 w.heap.size (.int .i64 (Mx.dropB b (J : Int)).num) (.slice ua un uk) (.slice ta tn tk) (.bool (Mx.dropB b (J : Int)).be)) := ⟨_, rfl⟩
          have G13 := hide (show w12.grownBy W13 (some w.heap.size) by rw [hW13.out]; exact set4_grown (grow_refl _ _) _ _ _ _)
          have X13 := hide (show Bx W13 w.heap.size #[.int .i64 (Mx.dropB b (J : Int)).num, .slice ua un uk, .slice ta tn tk, .bool (Mx.dropB b (J : Int)).be] 25 by rw [hW13.out]; exact X12.out.four_set _ _ _ _)
          have V13 := hide ((V12.out.grown G13.out (by omega)).low (show w.heap.size + 1 ≤ w8.heap.size by omega))
          have W13b := hide (show Below w.heap.size w W13 by rw [hW13.out]; exact set4_below (W11b.out.trans (D12.mono W11b.out.size)) (Nat.le_refl _) _ _ _ _)
          have hz13 : w.heap.size + 1 ≤ W13.heap.size := X13.out.lt
          go_wp2_with fail
          unfold set4 at hW13
          rw [← hW13.out]
          go_roundw
          case rel => exact ⟨i + 1, by omega, by go_num, (Mx.dropB b (J : Int)), ua, un, uk, ta, tn, tk, X13.out, V13.out, MB.out, by show b.num ≤ _; have := BN.out; push_cast; omega, W13b.out, hz13⟩
          case measure => simp [intOf]; omega
    · obtain rfl : i = 12 := by omega
      have W0b := W0
      obtain ⟨b0, b1, b2, b3⟩ := X0.out.four
      have VP0 := hide (V0.out.pts)
      have OKB := hide (Mx.bmay_ok M0.out)
      have hb0 : 0 ≤ b.num := OKB.out.1.2.2.1
      have hb12 : b.num ≤ 12 := BN.out
      have hp1 := Mx.pick_pos num (b.num + 2) (by omega)
      have hwb : IntKind.i64.wrap (b.num + 2) = b.num + 2 := by rw [IntWalk.i64_left, IntWalk.wrap64_in _ (by omega)]
      have hwn : IntKind.i64.wrap ((N : Int) + 1) = (N : Int) + 1 := by rw [IntWalk.i64_left, IntWalk.wrap64_in _ (by omega)]
      have hwp : IntKind.i64.wrap (Mx.pick num (b.num + 2) - 1) = Mx.pick num (b.num + 2) - 1 := by rw [IntWalk.i64_left, IntWalk.wrap64_in _ (by omega)]
      have hg0 : w.heap.size < wr.heap.size := X0.out.lt
      have HBF := hide (show ∀ (W : World), Ints W a n l → Calls Try.prog 23 #[.slice a n c, .int .i64 (P : Int)] W fun e w' => ∃ x : B8, x.ok ∧ e = .returned (.agg #[.int .u8 x.z0, .int .u8 x.z1, .int .u8 x.z2, .int .u8 x.z3, .int .u8 x.z4, .int .u8 x.z5, .int .u8 x.z6, .int .u8 x.z7]) ∧ Hid (Below W.heap.size W w') from fun W hW => blockFrom_any a n c l P W hW HB.out (by omega) (by omega))
      have hn1 : -9223372036854775808 ≤ num := H3.out.1
      have hn2 : num ≤ 9223372036854775807 := H3.out.2
      have hA1 : 0 < (N : Int) + 1 := by omega
      have hA2 : (N : Int) + 1 ≤ 10000000 := by omega
      have hA3 : 0 < b.num + 2 := by omega
      have hA4 : b.num + 2 ≤ 10000000 := by omega
      clear hp1
      go_upto_region 23 with fail
      go_region_held3 (fun w' => w'.cell? ⟨w.heap.size, 0, none⟩ = some (.int .i64 b.num) ∧ w'.cell? ⟨w.heap.size, 1, none⟩ = some (.slice xa xn xk) ∧ w'.cell? ⟨w.heap.size, 2, none⟩ = some (.slice ya yn yk) ∧ w'.cell? ⟨w.heap.size, 3, none⟩ = some (.bool b.be))
        (first
          | with_reducible exact ⟨b0, b1, b2, b3⟩
          | (simp only [cell_drew]; with_reducible exact ⟨b0, b1, b2, b3⟩)
          | with_reducible exact ⟨c0, c1, c2, c3⟩
          | with_reducible exact ⟨d0, d1, d2, d3⟩)
        (first
          | (go_at_call 21; (with_reducible refine (pickv_any num ((N : Int) + 1) wr.drew hn1 hn2 hA1 hA2).mono ?_); rintro e wz ⟨rfl, hz⟩; obtain rfl := hz.symm; clear hz)
          | (go_at_call 21; (with_reducible refine (pickv_any num (b.num + 2) wr.drew hn1 hn2 hA3 hA4).mono ?_); rintro e wz ⟨rfl, hz⟩; obtain rfl := hz.symm; clear hz)
          | (go_at_call 21; (with_reducible refine (pickv_any num ((N : Int) + 1) w9 hn1 hn2 hA1 hA2).mono ?_); rintro e wz ⟨rfl, hz⟩; obtain rfl := hz.symm; clear hz)
          | (go_at_call 21; (with_reducible refine (pickv_any num (b.num + 2) w9 hn1 hn2 hA3 hA4).mono ?_); rintro e wz ⟨rfl, hz⟩; obtain rfl := hz.symm; clear hz)
          | (go_at_call 23; (with_reducible refine (HBF.out wr.drew ((HL.out.later W0.out).later (Below.refl _ _).drew)).mono ?_); rintro e w9 ⟨y, _, rfl, hb9⟩; have D9 := hide (drew_below hb9.out); obtain ⟨c0, c1, c2, c3⟩ := (X0.out.later D9.out hg0).four; have V9 := hide ((V0.out.later D9.out).pts))
          | (go_at_call 3; refine (esays_any b.num xa xn xk ya yn yk b.be b.op b.se (N : Int) (Mx.pick num ((N : Int) + 1)) y (Mx.pick num (b.num + 2) - 1) w9 V9.out.1 V9.out.2.1 V9.out.2.2.1 V9.out.2.2.2.1).mono ?_; rintro e w10 ⟨rfl, E10⟩; have BF := hide (W0.out.trans ((D9.out.trans (E10.mono D9.out.size)).mono W0.out.size)); obtain ⟨d0, d1, d2, d3⟩ := ((X0.out.later D9.out hg0).later E10 (X0.out.later D9.out hg0).lt).four))
      all_goals
        go_wp2_with fail
        go_ret
        exact ⟨rfl, BF.out⟩

theorem emade_any (a : Option Addr) (n c : Nat) (l : List Int) (nn at_ num : Int) (w : World) (hl : Ints w a n l) (hb : I64 l) (h1 : I64x nn) (h2 : I64x at_) (h3 : I64x num) :
    Calls Try.prog 4 #[.slice a n c, .int .i64 nn, .int .i64 at_, .int .i64 num] w fun e w' => e = .returned (.bool true) ∧ Below w.heap.size w w' := by
  by_cases hn : n ≤ 256
  · exact emade_ok a n c l nn at_ num w hl hb hn h1 h2 h3
  · have hn' : (256 : Int) < n := by omega
    clear hn hl hb h1 h2 h3
    go_enter Try.func4, Try.ntmps4
    go_wp2_with fail
    go_ret
    exact ⟨rfl, Below.refl _ _⟩

end Go.Proofs.Ytkebmfocgalinab
