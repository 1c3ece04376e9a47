/-
  The law EpochSays in parts: its tail from a statement on, as a theorem of its own.
-/
import Derived.Test.YtkebmfocgalinabZEl

namespace Go.Proofs.Ytkebmfocgalinab
open Go.RowKit

theorem three_of (P : Prop) (h : P) : Hid P := hide h

def sndC : Code → Code
  | .seq _ b => b
  | c => c

def its : Nat → Code → Code
  | 0, c => c
  | k + 1, c => sndC (its k c)

def TailE (k : Nat) (w : World) (a : Act) (x : World) : Prop :=
  Code.wp Try.prog (its k (Try.f3.body.getD .skip)) (bodyPost Try.prog Try.f3 fun e w' => e = .returned (.bool true) ∧ Below w.heap.size w w') a x

theorem tail_step {k : Nat} {w x : World} {a : Act} {s : Code} (h : its k (Try.f3.body.getD .skip) = .seq s (its (k + 1) (Try.f3.body.getD .skip)))
    (hs : ∀ K : Act → World → Prop, (∀ a' x', Met (TailE (k + 1) w) a' x' → K a' x') → Code.wp Try.prog s (Exit.then K (bodyPost Try.prog Try.f3 fun e w' => e = .returned (.bool true) ∧ Below w.heap.size w w')) a x) : TailE k w a x := by
  unfold TailE
  rw [h]
  refine wp_seq_k (fun K hK => hs K (fun a' x' hm => hK a' x' hm))

theorem tail_last {k : Nat} {w x : World} {a : Act} {c : Code} (h : its k (Try.f3.body.getD .skip) = c)
    (hs : Code.wp Try.prog c (bodyPost Try.prog Try.f3 fun e w' => e = .returned (.bool true) ∧ Below w.heap.size w w') a x) : TailE k w a x := by
  unfold TailE
  rw [h]
  exact hs

structure Ef (w v : World) (num : Int) (oa : Option Addr) (on oc : Nat) (sa : Option Addr) (sn sc : Nat) (be : Bool) (ops : List Pt) (es : List Ep) (n px : Int) (pd : B8) (k : Int) (gA : Nat) (a0 a1 a2 a3 : Value) (gS : Nat) (s0 s1 s2 s3 : Value) (gD : Nat) (d0 d1 d2 d3 : Value) (gE : Nat) (pa : Option Addr) (pn pk : Nat) : Prop where
  xb : Bx v w.heap.size #[.int .i64 num, .slice oa on oc, .slice sa sn sc, .bool be] 25
  xp : Bx v (w.heap.size + 1) #[.int .i64 px, .int .u8 pd.z0, .int .u8 pd.z1, .int .u8 pd.z2, .int .u8 pd.z3, .int .u8 pd.z4, .int .u8 pd.z5, .int .u8 pd.z6, .int .u8 pd.z7] 29
  hp : PL v oa on ops
  he : EL v sa sn es
  xa : Bx v gA #[a0, a1, a2, a3] 25
  va : BuV v (.agg #[a0, a1, a2, a3]) (Mx.added ⟨num, ops, es, be⟩ n ⟨px, pd⟩)
  xs : Bx v gS #[s0, s1, s2, s3] 25
  vs : BuV v (.agg #[s0, s1, s2, s3]) (Mx.sealed ⟨num, ops, es, be⟩ n)
  xd : Bx v gD #[d0, d1, d2, d3] 25
  vd : BuV v (.agg #[d0, d1, d2, d3]) (Mx.dropped ⟨num, ops, es, be⟩ n k)
  xe : Bx v gE #[.int .i64 (Mx.sinceE ⟨num, ops, es, be⟩ n k).num, .slice pa pn pk] 42
  vp : PL v pa pn (Mx.sinceE ⟨num, ops, es, be⟩ n k).puts
  bl : Below w.heap.size w v
  hb : Mx.bmay ⟨num, ops, es, be⟩ n = 0
  sm : Mx.small ops es
  hon : on ≤ oc
  hsn : sn ≤ sc

theorem PL.off_box {w : World} {a : Option Addr} {n : Nat} {l : List Pt} {g : Nat} {c0 : Value} {a1 a2 : Option Addr} {n1 k1 n2 k2 : Nat} {be : Bool} {t : TypeId} (h : PL w a n l) (hb : Bx w g #[c0, .slice a1 n1 k1, .slice a2 n2 k2, .bool be] t) :
    0 < n → ∀ p, a = some p → (some g : Option Nat) ≠ some p.block := by
  intro h0 p hp e
  obtain ⟨hl, h1, h2, h3⟩ := h
  obtain ⟨b, off, ha, hlt, hc⟩ := h3 h0
  rw [ha] at hp
  cases hp
  have e' : g = b := Option.some.inj e
  subst e'
  cases l with
  | nil => simp at hl; omega
  | cons q l =>
    have c := hc 1 (.int .u8 q.d.z0) rfl
    rw [hb.cell (off + 1)] at c
    match off, c with
    | 0, c => simp at c
    | 1, c => simp at c
    | 2, c => simp at c
    | o + 3, c => simp at c

theorem EL.grownBy {w w' : World} {a : Option Addr} {n : Nat} {es : List Ep} {g : Nat} {c0 : Value} {a1 a2 : Option Addr} {n1 k1 n2 k2 : Nat} {be : Bool} {t : TypeId} (h : EL w a n es) (hb : Bx w g #[c0, .slice a1 n1 k1, .slice a2 n2 k2, .bool be] t)
    (hr : ∀ p, a = some p → g ≠ p.block) (hg : w.grownBy w' (some g)) : EL w' a n es := by
  obtain ⟨h1, h2, h4⟩ := h
  refine ⟨h1, h2, fun hp => ?_⟩
  obtain ⟨b, off, ha, hlt, hc⟩ := h4 hp
  have hne : g ≠ b := hr _ ha
  refine ⟨b, off, ha, by have := hg.size; omega, fun i e he => ?_⟩
  obtain ⟨ai, ni, ci, c1, c2, c3, c4⟩ := hc i e he
  exact ⟨ai, ni, ci, hg.cell c1 (fun e => hne (Option.some.inj e).symm), hg.cell c2 (fun e => hne (Option.some.inj e).symm), c3.grownBy hg (c3.off_box hb), c4⟩

set_option maxHeartbeats 16000000 in
set_option maxRecDepth 100000 in
theorem et24 {w v : World} {num : Int} {oa : Option Addr} {on oc : Nat} {sa : Option Addr} {sn sc : Nat} {be : Bool} {ops : List Pt} {es : List Ep} {n px : Int} {pd : B8} {k : Int} {gA : Nat} {a0 a1 a2 a3 : Value} {gS : Nat} {s0 s1 s2 s3 : Value} {gD : Nat} {d0 d1 d2 d3 : Value} {gE : Nat} {pa : Option Addr} {pn pk : Nat} {u0 u2 u5 u6 u7 u8 u9 u19 u22 u23 u24 u25 u26 u27 u28 u29 u30 u31 u32 u33 u34 u35 u36 u37 u38 u39 u40 u41 u42 u43 u44 u45 u46 u47 u48 u49 u50 u51 u52 u53 u54 u55 u56 u57 u58 u59 u60 u61 u62 u63 u64 u65 u66 u67 u68 u69 u70 u71 u72 u73 u74 u75 u76 u77 u78 u79 u80 u81 u82 u83 u84 u85 u86 u87 u88 u89 u90 u91 u92 u93 u94 u95 u96 u97 u98 u99 u100 u101 u102 u103 u104 u105 u106 u107 u108 u109 u110 u111 u112 u113 u114 u115 u116 u117 u118 u119 u120 u121 u122 u123 u124 u125 u126 u127 u128 u129 u130 u131 u132 u133 u134 u135 u136 u137 u138 u139 u140 u141 u142 u143 u144 u145 u146 u147 u148 u149 u150 u151 u152 u153 u154 u155 u156 u157 u158 u159 u160 u161 u162 u163 u164 u165 u166 u167 u168 u169 u170 u171 u172 u173 u174 u175 u176 u177 u178 u179 u180 u181 u182 u183 u184 u185 u186 u187 u188 u189 u190 u191 u192 u193 u194 u195 u196 u197 u198 u199 u200 u201 u202 u203 u204 u205 u206 u207 u208 u209 u210 u211 u212 u213 u214 u215 u216 u217 u218 u219 u220 u221 u222 u223 u224 u225 u226 u227 u228 u229 u230 u231 u232 u233 u234 u235 u236 u237 u238 u239 u240 u241 u242 u243 u244 u245 u246 u247 u248 u249 u250 u251 u252 u253 u254 u255 u256 u257 u258 u259 u260 u261 u262 u263 u264 u265 u266 u267 u268 u269 u270 u271 u272 u273 u274 u275 u276 u277 u278 u279 u280 u281 u282 u283 u284 u285 u286 u287 u288 u289 u290 u291 u292 u293 u294 u295 u296 u297 u298 u299 u300 u301 u302 u303 u304 u305 u306 u307 u308 u309 u310 u311 u312 u313 u314 u315 u316 u317 u318 u319 u320 u321 u322 u323 u324 u325 u326 u327 u328 u329 u330 u331 u332 u333 : Value} {x : World} {g : Nat} {za : Option Addr} {zn zk : Nat} (F : Ef w v num oa on oc sa sn sc be ops es n px pd k gA a0 a1 a2 a3 gS s0 s1 s2 s3 gD d0 d1 d2 d3 gE pa pn pk) (D : Hid (Below v.heap.size v x)) (_GW : Hid (v.heap.size ≤ g)) (PZ : Hid (PL x za zn (Mx.sinceE ⟨num, ops, es, be⟩ n k).puts)) (HN : Hid ((Mx.sinceE ⟨num, ops, es, be⟩ n k).num = num ∧ Mx.sinceB ⟨num, ops, es, be⟩ n k = true)) :
    TailE 24 w ⟨#[u0, .int .i64 n, u2, .int .i64 k, .pointer (some ⟨w.heap.size, 0, none⟩), u5, u6, u7, u8, u9, .pointer (some ⟨gA, 0, none⟩), errV (Mx.amay ⟨num, ops, es, be⟩ n ⟨px, pd⟩), .pointer (some ⟨gS, 0, none⟩), errV (Mx.smay ⟨num, ops, es, be⟩ n), .pointer (some ⟨gD, 0, none⟩), errV (Mx.nmay ⟨num, ops, es, be⟩ n k), .pointer (some ⟨gE, 0, none⟩), .bool (Mx.sinceB ⟨num, ops, es, be⟩ n k), errV (Mx.nmay ⟨num, ops, es, be⟩ n k), u19, .pointer (some ⟨g, 0, none⟩), .slice za zn zk, u22, u23, u24, u25, u26, u27, u28, u29, u30, u31, u32, u33, u34, u35, u36, u37, u38, u39, u40, u41, u42, u43, u44, u45, u46, u47, u48, u49, u50, u51, u52, u53, u54, u55, u56, u57, u58, u59, u60, u61, u62, u63, u64, u65, u66, u67, u68, u69, u70, u71, u72, u73, u74, u75, u76, u77, u78, u79, u80, u81, u82, u83, u84, u85, u86, u87, u88, u89, u90, u91, u92, u93, u94, u95, u96, u97, u98, u99, u100, u101, u102, u103, u104, u105, u106, u107, u108, u109, u110, u111, u112, u113, u114, u115, u116, u117, u118, u119, u120, u121, u122, u123, u124, u125, u126, u127, u128, u129, u130, u131, u132, u133, u134, u135, u136, u137, u138, u139, u140, u141, u142, u143, u144, u145, u146, u147, u148, u149, u150, u151, u152, u153, u154, u155, u156, u157, u158, u159, u160, u161, u162, u163, u164, u165, u166, u167, u168, u169, u170, u171, u172, u173, u174, u175, u176, u177, u178, u179, u180, u181, u182, u183, u184, u185, u186, u187, u188, u189, u190, u191, u192, u193, u194, u195, u196, u197, u198, u199, u200, u201, u202, u203, u204, u205, u206, u207, u208, u209, u210, u211, u212, u213, u214, u215, u216, u217, u218, u219, u220, u221, u222, u223, u224, u225, u226, u227, u228, u229, u230, u231, u232, u233, u234, u235, u236, u237, u238, u239, u240, u241, u242, u243, u244, u245, u246, u247, u248, u249, u250, u251, u252, u253, u254, u255, u256, u257, u258, u259, u260, u261, u262, u263, u264, u265, u266, u267, u268, u269, u270, u271, u272, u273, u274, u275, u276, u277, u278, u279, u280, u281, u282, u283, u284, u285, u286, u287, u288, u289, u290, u291, u292, u293, u294, u295, u296, u297, u298, u299, u300, u301, u302, u303, u304, u305, u306, u307, u308, u309, u310, u311, u312, u313, u314, u315, u316, u317, u318, u319, u320, u321, u322, u323, u324, u325, u326, u327, u328, u329, u330, u331, u332, u333], []⟩ x := by
  refine tail_last (c := .seq _ .ret) rfl ?_
  rw [HN.out.2]
  have VP := hide (F.vp.later D.out)
  have BF := hide (F.bl.trans (D.out.mono F.bl.size))
  obtain ⟨b0, b1, b2, b3⟩ := (F.xb.later D.out F.xb.lt).four
  obtain ⟨e0, e1⟩ := (F.xe.later D.out F.xe.lt).pair
  clear F
  rw [HN.out.1] at e0
  go_wp2_with fail
  refine (samePL_gen pa za pn pk zn zk _ _ x VP.out PZ.out).mono ?_
  rintro e w2 ⟨r, rfl, hr, q, rfl⟩
  obtain rfl : r = true := hr.mpr rfl
  go_wp2_with fail
  go_ret
  exact ⟨rfl, below_drewN BF.out _⟩

set_option maxHeartbeats 16000000 in
set_option maxRecDepth 100000 in
theorem et23 {w v : World} {num : Int} {oa : Option Addr} {on oc : Nat} {sa : Option Addr} {sn sc : Nat} {be : Bool} {ops : List Pt} {es : List Ep} {n px : Int} {pd : B8} {k : Int} {gA : Nat} {a0 a1 a2 a3 : Value} {gS : Nat} {s0 s1 s2 s3 : Value} {gD : Nat} {d0 d1 d2 d3 : Value} {gE : Nat} {pa : Option Addr} {pn pk : Nat} {u0 u2 u5 u6 u7 u8 u9 u19 u22 u23 u24 u25 u26 u27 u28 u29 u30 u31 u32 u33 u34 u35 u36 u37 u38 u39 u40 u41 u42 u43 u44 u45 u46 u47 u48 u49 u50 u51 u52 u53 u54 u55 u56 u57 u58 u59 u60 u61 u62 u63 u64 u65 u66 u67 u68 u69 u70 u71 u72 u73 u74 u75 u76 u77 u78 u79 u80 u81 u82 u83 u84 u85 u86 u87 u88 u89 u90 u91 u92 u93 u94 u95 u96 u97 u98 u99 u100 u101 u102 u103 u104 u105 u106 u107 u108 u109 u110 u111 u112 u113 u114 u115 u116 u117 u118 u119 u120 u121 u122 u123 u124 u125 u126 u127 u128 u129 u130 u131 u132 u133 u134 u135 u136 u137 u138 u139 u140 u141 u142 u143 u144 u145 u146 u147 u148 u149 u150 u151 u152 u153 u154 u155 u156 u157 u158 u159 u160 u161 u162 u163 u164 u165 u166 u167 u168 u169 u170 u171 u172 u173 u174 u175 u176 u177 u178 u179 u180 u181 u182 u183 u184 u185 u186 u187 u188 u189 u190 u191 u192 u193 u194 u195 u196 u197 u198 u199 u200 u201 u202 u203 u204 u205 u206 u207 u208 u209 u210 u211 u212 u213 u214 u215 u216 u217 u218 u219 u220 u221 u222 u223 u224 u225 u226 u227 u228 u229 u230 u231 u232 u233 u234 u235 u236 u237 u238 u239 u240 u241 u242 u243 u244 u245 u246 u247 u248 u249 u250 u251 u252 u253 u254 u255 u256 u257 u258 u259 u260 u261 u262 u263 u264 u265 u266 u267 u268 u269 u270 u271 u272 u273 u274 u275 u276 u277 u278 u279 u280 u281 u282 u283 u284 u285 u286 u287 u288 u289 u290 u291 u292 u293 u294 u295 u296 u297 u298 u299 u300 u301 u302 u303 u304 u305 u306 u307 u308 u309 u310 u311 u312 u313 u314 u315 u316 u317 u318 u319 u320 u321 u322 u323 u324 u325 u326 u327 u328 u329 u330 u331 u332 u333 : Value} {x : World} {g : Nat} {za : Option Addr} {zn zk : Nat} (F : Ef w v num oa on oc sa sn sc be ops es n px pd k gA a0 a1 a2 a3 gS s0 s1 s2 s3 gD d0 d1 d2 d3 gE pa pn pk) (D : Hid (Below v.heap.size v x)) (GW : Hid (v.heap.size ≤ g)) (PZ : Hid (PL x za zn (Mx.putsOf (Mx.keptE ⟨num, ops, es, be⟩ k)))) (HK : Hid ((Mx.nmay ⟨num, ops, es, be⟩ n k) = 0)) :
    TailE 23 w ⟨#[u0, .int .i64 n, u2, .int .i64 k, .pointer (some ⟨w.heap.size, 0, none⟩), u5, u6, u7, u8, u9, .pointer (some ⟨gA, 0, none⟩), errV (Mx.amay ⟨num, ops, es, be⟩ n ⟨px, pd⟩), .pointer (some ⟨gS, 0, none⟩), errV (Mx.smay ⟨num, ops, es, be⟩ n), .pointer (some ⟨gD, 0, none⟩), errV (Mx.nmay ⟨num, ops, es, be⟩ n k), .pointer (some ⟨gE, 0, none⟩), .bool (Mx.sinceB ⟨num, ops, es, be⟩ n k), errV (Mx.nmay ⟨num, ops, es, be⟩ n k), u19, .pointer (some ⟨g, 0, none⟩), .slice za zn zk, u22, u23, u24, u25, u26, u27, u28, u29, u30, u31, u32, u33, u34, u35, u36, u37, u38, u39, u40, u41, u42, u43, u44, u45, u46, u47, u48, u49, u50, u51, u52, u53, u54, u55, u56, u57, u58, u59, u60, u61, u62, u63, u64, u65, u66, u67, u68, u69, u70, u71, u72, u73, u74, u75, u76, u77, u78, u79, u80, u81, u82, u83, u84, u85, u86, u87, u88, u89, u90, u91, u92, u93, u94, u95, u96, u97, u98, u99, u100, u101, u102, u103, u104, u105, u106, u107, u108, u109, u110, u111, u112, u113, u114, u115, u116, u117, u118, u119, u120, u121, u122, u123, u124, u125, u126, u127, u128, u129, u130, u131, u132, u133, u134, u135, u136, u137, u138, u139, u140, u141, u142, u143, u144, u145, u146, u147, u148, u149, u150, u151, u152, u153, u154, u155, u156, u157, u158, u159, u160, u161, u162, u163, u164, u165, u166, u167, u168, u169, u170, u171, u172, u173, u174, u175, u176, u177, u178, u179, u180, u181, u182, u183, u184, u185, u186, u187, u188, u189, u190, u191, u192, u193, u194, u195, u196, u197, u198, u199, u200, u201, u202, u203, u204, u205, u206, u207, u208, u209, u210, u211, u212, u213, u214, u215, u216, u217, u218, u219, u220, u221, u222, u223, u224, u225, u226, u227, u228, u229, u230, u231, u232, u233, u234, u235, u236, u237, u238, u239, u240, u241, u242, u243, u244, u245, u246, u247, u248, u249, u250, u251, u252, u253, u254, u255, u256, u257, u258, u259, u260, u261, u262, u263, u264, u265, u266, u267, u268, u269, u270, u271, u272, u273, u274, u275, u276, u277, u278, u279, u280, u281, u282, u283, u284, u285, u286, u287, u288, u289, u290, u291, u292, u293, u294, u295, u296, u297, u298, u299, u300, u301, u302, u303, u304, u305, u306, u307, u308, u309, u310, u311, u312, u313, u314, u315, u316, u317, u318, u319, u320, u321, u322, u323, u324, u325, u326, u327, u328, u329, u330, u331, u332, u333], []⟩ x := by
  refine tail_step rfl ?_
  intro K hK
  have BF := hide (F.bl.trans (D.out.mono F.bl.size))
  obtain ⟨b0, b1, b2, b3⟩ := (F.xb.later D.out F.xb.lt).four
  have HK2 := hide (Mx.nmay_ok HK.out)
  have HL := hide (F.he.1)
  have HS := hide (Mx.bmay_ok F.hb).1
  have HM := hide (show (Mx.keptE ⟨num, ops, es, be⟩ k).length = min (num - k).toNat es.length by unfold Mx.keptE Mx.many; rw [List.length_drop]; show es.length - (es.length - min (num - k).toNat es.length) = min (num - k).toNat es.length; omega)
  have hk0 : 0 ≤ k := HK2.out.2.1
  have hk1 : k ≤ num := HK2.out.2.2
  have hk2 : num ≤ 2147483647 := HS.out.2.2.2
  by_cases hf : (sn : Int) < num - k
  · have hfd : decide ((sn : Int) < num - k) = true := by simpa using hf
    have HF := hide (Mx.since_far (b := ⟨num, ops, es, be⟩) (n := n) (k := k) (by show (((Mx.keptE ⟨num, ops, es, be⟩ k).length : Nat) : Int) < num - k; rw [HM.out]; have h := HL.out; omega))
    obtain ⟨e0, e1⟩ := (F.xe.later D.out F.xe.lt).pair
    have hpn : pn = 0 := by have h := F.vp.1; rw [HF.out.2] at h; exact h.symm
    subst hpn
    rw [HF.out.1]
    rw [HF.out.2] at e0
    dsimp only at e0
    clear F
    go_wp2_with fail
    go_ret
    exact ⟨rfl, BF.out⟩
  · have hfd : decide ((sn : Int) < num - k) = false := by simpa using hf
    have HF := hide (Mx.since_ok (b := ⟨num, ops, es, be⟩) (n := n) (k := k) HK.out (by show ¬ (((Mx.keptE ⟨num, ops, es, be⟩ k).length : Nat) : Int) < num - k; rw [HM.out]; have h := HL.out; omega))
    go_wp2_with fail
    exact Met.intro (et24 F D GW (hide (by rw [HF.out.2]; exact PZ.out)) (hide ⟨by rw [HF.out.2], HF.out.1⟩))

set_option maxHeartbeats 16000000 in
set_option maxRecDepth 100000 in
theorem et22 {w v : World} {num : Int} {oa : Option Addr} {on oc : Nat} {sa : Option Addr} {sn sc : Nat} {be : Bool} {ops : List Pt} {es : List Ep} {n px : Int} {pd : B8} {k : Int} {gA : Nat} {a0 a1 a2 a3 : Value} {gS : Nat} {s0 s1 s2 s3 : Value} {gD : Nat} {d0 d1 d2 d3 : Value} {gE : Nat} {pa : Option Addr} {pn pk : Nat} {u0 u2 u5 u6 u7 u8 u9 u19 u22 u23 u24 u25 u26 u27 u28 u29 u30 u31 u32 u33 u34 u35 u36 u37 u38 u39 u40 u41 u42 u43 u44 u45 u46 u47 u48 u49 u50 u51 u52 u53 u54 u55 u56 u57 u58 u59 u60 u61 u62 u63 u64 u65 u66 u67 u68 u69 u70 u71 u72 u73 u74 u75 u76 u77 u78 u79 u80 u81 u82 u83 u84 u85 u86 u87 u88 u89 u90 u91 u92 u93 u94 u95 u96 u97 u98 u99 u100 u101 u102 u103 u104 u105 u106 u107 u108 u109 u110 u111 u112 u113 u114 u115 u116 u117 u118 u119 u120 u121 u122 u123 u124 u125 u126 u127 u128 u129 u130 u131 u132 u133 u134 u135 u136 u137 u138 u139 u140 u141 u142 u143 u144 u145 u146 u147 u148 u149 u150 u151 u152 u153 u154 u155 u156 u157 u158 u159 u160 u161 u162 u163 u164 u165 u166 u167 u168 u169 u170 u171 u172 u173 u174 u175 u176 u177 u178 u179 u180 u181 u182 u183 u184 u185 u186 u187 u188 u189 u190 u191 u192 u193 u194 u195 u196 u197 u198 u199 u200 u201 u202 u203 u204 u205 u206 u207 u208 u209 u210 u211 u212 u213 u214 u215 u216 u217 u218 u219 u220 u221 u222 u223 u224 u225 u226 u227 u228 u229 u230 u231 u232 u233 u234 u235 u236 u237 u238 u239 u240 u241 u242 u243 u244 u245 u246 u247 u248 u249 u250 u251 u252 u253 u254 u255 u256 u257 u258 u259 u260 u261 u262 u263 u264 u265 u266 u267 u268 u269 u270 u271 u272 u273 u274 u275 u276 u277 u278 u279 u280 u281 u282 u283 u284 u285 u286 u287 u288 u289 u290 u291 u292 u293 u294 u295 u296 u297 u298 u299 u300 u301 u302 u303 u304 u305 u306 u307 u308 u309 u310 u311 u312 u313 u314 u315 u316 u317 u318 u319 u320 u321 u322 u323 u324 u325 u326 u327 u328 u329 u330 u331 u332 u333 : Value} {x : World} {g : Nat} {c0 c1 c2 c3 : Value} {za : Option Addr} {zn zk : Nat} (F : Ef w v num oa on oc sa sn sc be ops es n px pd k gA a0 a1 a2 a3 gS s0 s1 s2 s3 gD d0 d1 d2 d3 gE pa pn pk) (D : Hid (Below v.heap.size v x)) (GW : Hid (v.heap.size ≤ g)) (XW : Hid (Bx x g #[c0, c1, c2, c3] 25)) (VW : Hid (BuV x (.agg #[c0, c1, c2, c3]) (Mx.dropped ⟨num, ops, es, be⟩ n k))) (PZ : Hid (PL x za zn (Mx.putsOf (Mx.keptE ⟨num, ops, es, be⟩ k)))) (HK : Hid ((Mx.nmay ⟨num, ops, es, be⟩ n k) = 0)) :
    TailE 22 w ⟨#[u0, .int .i64 n, u2, .int .i64 k, .pointer (some ⟨w.heap.size, 0, none⟩), u5, u6, u7, u8, u9, .pointer (some ⟨gA, 0, none⟩), errV (Mx.amay ⟨num, ops, es, be⟩ n ⟨px, pd⟩), .pointer (some ⟨gS, 0, none⟩), errV (Mx.smay ⟨num, ops, es, be⟩ n), .pointer (some ⟨gD, 0, none⟩), errV (Mx.nmay ⟨num, ops, es, be⟩ n k), .pointer (some ⟨gE, 0, none⟩), .bool (Mx.sinceB ⟨num, ops, es, be⟩ n k), errV (Mx.nmay ⟨num, ops, es, be⟩ n k), u19, .pointer (some ⟨g, 0, none⟩), .slice za zn zk, u22, u23, u24, u25, u26, u27, u28, u29, u30, u31, u32, u33, u34, u35, u36, u37, u38, u39, u40, u41, u42, u43, u44, u45, u46, u47, u48, u49, u50, u51, u52, u53, u54, u55, u56, u57, u58, u59, u60, u61, u62, u63, u64, u65, u66, u67, u68, u69, u70, u71, u72, u73, u74, u75, u76, u77, u78, u79, u80, u81, u82, u83, u84, u85, u86, u87, u88, u89, u90, u91, u92, u93, u94, u95, u96, u97, u98, u99, u100, u101, u102, u103, u104, u105, u106, u107, u108, u109, u110, u111, u112, u113, u114, u115, u116, u117, u118, u119, u120, u121, u122, u123, u124, u125, u126, u127, u128, u129, u130, u131, u132, u133, u134, u135, u136, u137, u138, u139, u140, u141, u142, u143, u144, u145, u146, u147, u148, u149, u150, u151, u152, u153, u154, u155, u156, u157, u158, u159, u160, u161, u162, u163, u164, u165, u166, u167, u168, u169, u170, u171, u172, u173, u174, u175, u176, u177, u178, u179, u180, u181, u182, u183, u184, u185, u186, u187, u188, u189, u190, u191, u192, u193, u194, u195, u196, u197, u198, u199, u200, u201, u202, u203, u204, u205, u206, u207, u208, u209, u210, u211, u212, u213, u214, u215, u216, u217, u218, u219, u220, u221, u222, u223, u224, u225, u226, u227, u228, u229, u230, u231, u232, u233, u234, u235, u236, u237, u238, u239, u240, u241, u242, u243, u244, u245, u246, u247, u248, u249, u250, u251, u252, u253, u254, u255, u256, u257, u258, u259, u260, u261, u262, u263, u264, u265, u266, u267, u268, u269, u270, u271, u272, u273, u274, u275, u276, u277, u278, u279, u280, u281, u282, u283, u284, u285, u286, u287, u288, u289, u290, u291, u292, u293, u294, u295, u296, u297, u298, u299, u300, u301, u302, u303, u304, u305, u306, u307, u308, u309, u310, u311, u312, u313, u314, u315, u316, u317, u318, u319, u320, u321, u322, u323, u324, u325, u326, u327, u328, u329, u330, u331, u332, u333], []⟩ x := by
  refine tail_step rfl ?_
  intro K hK
  obtain ⟨f0, f1, f2, f3⟩ := XW.out.four
  obtain ⟨g0, g1, g2, g3⟩ := (F.xd.later D.out F.xd.lt).four
  have VD := hide (F.vd.later D.out)
  have hnm : errV (Mx.nmay ⟨num, ops, es, be⟩ n k) = .nilIface := by rw [HK.out, errV_zero]
  rw [hnm]
  go_wp2_with fail
  refine (sameBu_true _ _ (Mx.dropped ⟨num, ops, es, be⟩ n k) _ VD.out VW.out).mono ?_
  rintro e w2 ⟨rfl, E⟩
  go_wp2_with fail
  have ET := hide (D.out.trans (E.mono D.out.size))
  rw [← hnm]
  exact Met.intro (et23 F ET GW (hide (PZ.out.later E)) HK)

end Go.Proofs.Ytkebmfocgalinab
