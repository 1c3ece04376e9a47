/-
  Stores: what is seen of one (sees).
-/
import Derived.Lib.IfaceNeq
import Derived.Test.YtfbmaemnbolplaaZSums
import Derived.Test.YtfbmaemnbolplaaZIs
import Derived.Test.YtfbmaemnbolplaaZDbox
import Derived.Test.YtfbmaemnbolplaaZKc
import Derived.Test.YtfbmaemnbolplaaZMkb
import Derived.Test.YtfbmaemnbolplaaZSc

namespace Go.Proofs.Ytfbmaemnbolplaa
open Go.RowKit

set_option maxHeartbeats 16000000 in
set_option maxRecDepth 100000 in
theorem sees_any (g n h : Nat) (ls : List B8) (left : Int) (sa : Option Addr) (sc : Nat) (pa : Option Addr) (pc : Nat) (w : World) (hs : StW w g n h ls [] left sa sc pa 0 pc) (hl : left ≠ 0) (bl : List B8) (a b : Int) (H : Mx.Hd n h ls bl a b) (ba : Option Addr) (bc : Nat) (hb : BL w ba n bl) :
    Calls Try.prog 9 #[.pointer (some ⟨g, 0, none⟩), .slice ba n bc, .int .i64 a, .int .i64 b] w fun e w' => e = .returned (.bool true) ∧ Below w.heap.size w w' := by
  have HH := hide hs
  have HB := hide hb
  have HL := hide hl
  have HV := hide H.view
  have HA := hide (Mx.snumA_nums (b := b) H.a0 H.a1)
  have HBn := hide (Mx.snumB_nums (a := a) H.b0 H.b1)
  have H8 := hide (Mx.by8_nums H.a0 H.a1 H.b0 H.b1)
  have HK := hide H
  have hn1 := H.n1
  have hn2 := H.n2
  clear hs hb hl H
  have hz : ∀ (x y : Int) (W : World), (binOp .neq 24 (.iface 35 (.int .i64 x)) (.iface 35 (.int .i64 y))).run Try.prog W = .ok (.bool (x != y)) W :=
    fun x y W => Lib.run_neq_iface_int W x y Try.underlying24 (by kernel_rfl) Try.underlying35
  go_enter Try.func9, Try.ntmps9
  change TailG Try.f9 _ 0 _ w
  refine tailG_step rfl ?_
  intro K hK
  go_wp2_with fail
  refine Met.intro (tailG_step rfl ?_)
  try clear hK
  try clear K
  intro K hK
  go_wp2_with fail
  refine (sall_ok g n h ls [] left sa sc pa 0 pc w HH.out rfl HL.out).mono ?_
  rintro e w1 ⟨p, rfl, O1, E1⟩
  have B1 := hide (show BL w1 (some ⟨p, 0, none⟩) n bl by rw [← HV.out]; exact O1.asRow)
  have D1 := hide E1
  clear O1 E1
  have H1 := hide (HH.out.later D1.out)
  go_wp2_with fail
  refine Met.intro (tailG_step rfl ?_)
  try clear hK
  try clear K
  intro K hK
  go_wp2_with fail
  refine (snums_x g n h ls [] left sa sc pa 0 pc w1 H1.out rfl HL.out (Mx.numsB a b) HK.out.nums.symm H8.out).mono ?_
  rintro e w2 ⟨rfl, E2⟩
  rw [HA.out, HBn.out]
  have D2 := hide (show Below w.heap.size w w2 from D1.out.trans (E2.mono D1.out.size))
  have B2 := hide (B1.out.later E2)
  clear E2
  have C2 := hide (HB.out.later D2.out)
  go_wp2_with fail
  refine Met.intro (tailG_step rfl ?_)
  try clear hK
  try clear K
  intro K hK
  go_wp2_with fail
  refine (sameBL_gen (some ⟨p, 0, none⟩) ba n n n bc bl bl w2 B2.out C2.out).mono ?_
  rintro e w3 ⟨r, rfl, hr, nd, rfl⟩
  obtain rfl : r = true := hr.2 rfl
  clear hr
  have D3 := hide (show Below w.heap.size w (w2.drewN nd) from (below_drewN D2.out nd))
  have hba : bne a a = false := by simp
  have hbb : bne b b = false := by simp
  obtain ⟨w3, hw3⟩ : ∃ w3 : World, Hid (w3 = w2.drewN nd) := ⟨_, rfl⟩
  rw [← hw3.out] at D3 ⊢
  go_wp2_with fail
  refine Met.intro (tailG_step rfl ?_)
  try clear hK
  try clear K
  intro K hK
  go_wp2_with fail
  go_loopw [14] (fun t wr => ∃ z : Int, t = .int .i64 z ∧ -1 ≤ z ∧ z ≤ n + 1 ∧ Hid (Below w.heap.size w wr)) (fun t _ => ((n : Int) + 1 - intOf t).toNat)
  case atStart => exact ⟨-1, rfl, by omega, by omega, D3⟩
  case round =>
    obtain ⟨z, rfl, hz1, hz2, hB⟩ := hrel
    have HR := hide (HH.out.later hB.out)
    by_cases hzn : z ≤ n
    · by_cases hz0 : z < 0
      · obtain rfl : z = -1 := by omega
        go_wp2_with fail
        refine (sget_out g n h ls [] left sa sc pa 0 pc wr HR.out (-1) (by omega)).mono ?_
        rintro e w4 ⟨rfl, E4⟩
        have D4 := hide (show Below w.heap.size w w4 from hB.out.trans (E4.mono hB.out.size))
        clear E4
        have heq := equal_block 0 0 0 0 0 0 0 0 0 0 0 0 0 0 0 0
        rw [decide_eq_true rfl] at heq
        go_wp2_with fail
        exact ⟨⟨0, by go_num, by omega, by omega, D4.out.alloc D4.out.size _⟩, by simp [intOf]; omega⟩
      · by_cases hzl : z < n
        · obtain ⟨i, rfl⟩ : ∃ i : Nat, z = (i : Int) := ⟨z.toNat, by omega⟩
          have hin : i < n := by omega
          have hd1 : decide ((i : Int) < 0) = false := by simp
          have hd2 : decide ((n : Int) ≤ (i : Int)) = false := by simp; omega
          have hd3 : decide (n ≤ i) = false := by simp; omega
          obtain ⟨x, hx⟩ : ∃ x : B8, Hid (x = ls.getD (Mx.bpl n h i) zB) := ⟨_, rfl⟩
          go_wp2_with fail
          refine (sget_ok g n h ls [] left sa sc pa 0 pc wr HR.out rfl HL.out i hin x hx.out).mono ?_
          rintro e w4 ⟨rfl, E4⟩
          have D4 := hide (show Below w.heap.size w w4 from hB.out.trans (E4.mono hB.out.size))
          clear E4
          obtain ⟨W5, hW5⟩ : ∃ W5 : World, Hid (W5 = w4.alloc (.cells #[.int .u8 x.z0, .int .u8 x.z1, .int .u8 x.z2, .int .u8 x.z3, .int .u8 x.z4, .int .u8 x.z5, .int .u8 x.z6, .int .u8 x.z7] 38)) := ⟨_, rfl⟩
          have D5 := hide (show Below w.heap.size w W5 by rw [hW5.out]; exact D4.out.alloc D4.out.size _)
          have X5 := hide (show Bx W5 w4.heap.size #[.int .u8 x.z0, .int .u8 x.z1, .int .u8 x.z2, .int .u8 x.z3, .int .u8 x.z4, .int .u8 x.z5, .int .u8 x.z6, .int .u8 x.z7] 38 by rw [hW5.out]; exact Bx.new w4 _ _)
          go_upto_region 9 with fail
          rw [← hW5.out]
          obtain ⟨bb, off, y, hba', hbw, hy, e0, e1, e2, e3, e4, e5, e6, e7⟩ := (HB.out.later D5.out).at_ i hin
          have hxy : Hid (y = x) := by
            have h1 := HK.out.blk i hin
            rw [List.getD_eq_getElem?_getD (l := bl), hy] at h1
            exact (h1.symm.trans hx.out.symm : _)
          clear hy
          obtain rfl := hxy.out
          subst hba'
          obtain ⟨t0, t1, t2, t3, t4, t5, t6, t7⟩ := Bx.cells8 X5.out
          have heq := equal_block y.z0 y.z1 y.z2 y.z3 y.z4 y.z5 y.z6 y.z7 y.z0 y.z1 y.z2 y.z3 y.z4 y.z5 y.z6 y.z7
          rw [decide_eq_true rfl] at heq
          go_wp2_with fail
          go_quiet (fail)
          go_wp2_with fail
          exact ⟨⟨(i : Int) + 1, by go_num, by omega, by omega, below_drewN D5.out _⟩, by simp [intOf]; omega⟩
        · obtain rfl : z = (n : Int) := by omega
          have hd2 : decide ((n : Int) ≤ (n : Int)) = true := by simp
          have hd3 : decide (n ≤ n) = true := by simp
          go_wp2_with fail
          refine (sget_out g n h ls [] left sa sc pa 0 pc wr HR.out n (by omega)).mono ?_
          rintro e w4 ⟨rfl, E4⟩
          have D4 := hide (show Below w.heap.size w w4 from hB.out.trans (E4.mono hB.out.size))
          clear E4
          have heq := equal_block 0 0 0 0 0 0 0 0 0 0 0 0 0 0 0 0
          rw [decide_eq_true rfl] at heq
          go_wp2_with fail
          exact ⟨⟨(n : Int) + 1, by go_num, by omega, by omega, D4.out.alloc D4.out.size _⟩, by simp [intOf]⟩
    · obtain rfl : z = (n : Int) + 1 := by omega
      go_wp2_with fail
      refine Met.intro (tailG_last (c := .seq _ .ret) rfl ?_)
      try clear hK
      try clear K
      go_wp2_with fail
      exact bodyPost_ret (v := .bool true) (by simp [results, Try.results9, go_sem]) rfl ⟨rfl, hB.out⟩


end Go.Proofs.Ytfbmaemnbolplaa

/-
  TopAtomic: is a store as it is to be (as).
-/
namespace Go.Proofs.Ytfbmaemnbolplaa
open Go.RowKit

/-- what as answers -/
def Mx.asV (bl bl' : List B8) (a b k : Int) : Bool := decide (bl = bl') && (a == k && b == k)
theorem Mx.asV_true {bl bl' : List B8} {a b k : Int} (h : Mx.asV bl bl' a b k = true) : bl = bl' ∧ a = k ∧ b = k := by
  unfold Mx.asV at h
  simpa using h
theorem Mx.asV_same (bl : List B8) (k : Int) : Mx.asV bl bl k k k = true := by unfold Mx.asV; simp

set_option maxHeartbeats 16000000 in
set_option maxRecDepth 100000 in
theorem as_any (g n h : Nat) (ls : List B8) (left : Int) (sa : Option Addr) (sc : Nat) (pa : Option Addr) (pc : Nat) (w : World) (hs : StW w g n h ls [] left sa sc pa 0 pc) (hl : left ≠ 0) (bl : List B8) (a b : Int) (H : Mx.Hd n h ls bl a b) (ba : Option Addr) (bc : Nat) (bl' : List B8) (hb : BL w ba n bl') (k : Int) :
    Calls Try.prog 17 #[.pointer (some ⟨g, 0, none⟩), .slice ba n bc, .int .i64 k] w fun e w' => e = .returned (.bool (Mx.asV bl bl' a b k)) ∧ Below w.heap.size w w' := by
  have HH := hide hs
  have HB := hide hb
  have HL := hide hl
  have HV := hide H.view
  have HA := hide (Mx.snumA_nums (b := b) H.a0 H.a1)
  have HBn := hide (Mx.snumB_nums (a := a) H.b0 H.b1)
  have H8 := hide (Mx.by8_nums H.a0 H.a1 H.b0 H.b1)
  have HK := hide H
  clear hs hb hl H
  go_enter Try.func17, Try.ntmps17
  change TailG Try.f17 _ 0 _ w
  refine tailG_step rfl ?_
  intro K hK
  go_wp2_with fail
  refine Met.intro (tailG_step rfl ?_)
  try clear hK
  try clear K
  intro K hK
  go_wp2_with fail
  refine (sall_ok g n h ls [] left sa sc pa 0 pc w HH.out rfl HL.out).mono ?_
  rintro e w1 ⟨p, rfl, O1, E1⟩
  have B1 := hide (show BL w1 (some ⟨p, 0, none⟩) n bl by rw [← HV.out]; exact O1.asRow)
  have D1 := hide E1
  clear O1 E1
  have H1 := hide (HH.out.later D1.out)
  go_wp2_with fail
  refine Met.intro (tailG_step rfl ?_)
  try clear hK
  try clear K
  intro K hK
  go_wp2_with fail
  refine (snums_x g n h ls [] left sa sc pa 0 pc w1 H1.out rfl HL.out (Mx.numsB a b) HK.out.nums.symm H8.out).mono ?_
  rintro e w2 ⟨rfl, E2⟩
  rw [HA.out, HBn.out]
  have D2 := hide (show Below w.heap.size w w2 from D1.out.trans (E2.mono D1.out.size))
  have B2 := hide (B1.out.later E2)
  clear E2
  have C2 := hide (HB.out.later D2.out)
  go_wp2_with fail
  refine Met.intro (tailG_last (c := .seq _ .ret) rfl ?_)
  try clear hK
  try clear K
  go_wp2_with fail
  refine (sameBL_gen (some ⟨p, 0, none⟩) ba n n n bc bl bl' w2 B2.out C2.out).mono ?_
  rintro e w3 ⟨r, rfl, hr, nd, rfl⟩
  have D3 := hide (show Below w.heap.size w (w2.drewN nd) from below_drewN D2.out nd)
  cases r
  · have HX := hide (show Mx.asV bl bl' a b k = false by unfold Mx.asV; rw [decide_eq_false (fun e => by have := hr.2 e; cases this)]; rfl)
    clear hr
    go_wp2_with fail
    exact bodyPost_ret (v := .bool false) (by simp [results, Try.results17, go_sem]) rfl ⟨by rw [HX.out], D3.out⟩
  · have HE := hide (hr.1 rfl)
    clear hr
    by_cases hak : a = k
    · have d1 : (a == k) = true := by simpa using hak
      by_cases hbk : b = k
      · have d2 : (b == k) = true := by simpa using hbk
        have HX := hide (show Mx.asV bl bl' a b k = true by unfold Mx.asV; rw [decide_eq_true HE.out, d1, d2]; rfl)
        clear hak hbk
        go_wp2_with fail
        exact bodyPost_ret (v := .bool true) (by simp [results, Try.results17, go_sem]) rfl ⟨by rw [HX.out], D3.out⟩
      · have d2 : (b == k) = false := by simpa using hbk
        have HX := hide (show Mx.asV bl bl' a b k = false by unfold Mx.asV; rw [d1, d2]; simp)
        clear hak hbk
        go_wp2_with fail
        exact bodyPost_ret (v := .bool false) (by simp [results, Try.results17, go_sem]) rfl ⟨by rw [HX.out], D3.out⟩
    · have d1 : (a == k) = false := by simpa using hak
      have HX := hide (show Mx.asV bl bl' a b k = false by unfold Mx.asV; rw [d1]; simp)
      clear hak
      go_wp2_with fail
      exact bodyPost_ret (v := .bool false) (by simp [results, Try.results17, go_sem]) rfl ⟨by rw [HX.out], D3.out⟩


end Go.Proofs.Ytfbmaemnbolplaa

/-
  StoreSays: its end.
-/
namespace Go.Proofs.Ytfbmaemnbolplaa
open Go.RowKit

/-- the law's store and blocks, at a world of the call -/
structure SV (w wr : World) (g n ba : Nat) (bl : List B8) (x y : Int) (h : Nat) (ls : List B8) (sa : Option Addr) (sc : Nat) (pa : Option Addr) (pc : Nat) : Prop where
  st : StW wr g n h ls [] (-1) sa sc pa 0 pc
  hd : Mx.Hd n h ls bl x y
  ow : OwnBL wr w.heap.size (.slice (some ⟨ba, 0, none⟩) n n) bl
  ne : ba ≠ g
  gl : w.heap.size ≤ g
  bel : Below w.heap.size w wr
theorem SV.later {w wr w' : World} {g n ba : Nat} {bl : List B8} {x y : Int} {h : Nat} {ls : List B8} {sa : Option Addr} {sc : Nat} {pa : Option Addr} {pc : Nat} (H : SV w wr g n ba bl x y h ls sa sc pa pc) (hb : Below wr.heap.size wr w') : SV w w' g n ba bl x y h ls sa sc pa pc :=
  { H with st := H.st.later hb, ow := rowKept H.ow hb, bel := H.bel.trans (hb.mono H.bel.size) }
theorem Bx.grow {w w' : World} {g : Nat} {row : Option Nat} {cs : Array Value} {t : TypeId} (h : Bx w g cs t) (hg : w.grownBy w' row) (hne : some g ≠ row) : Bx w' g cs t := (hg.block g h.lt hne).trans h
/-- a longer row lies elsewhere -/
theorem apart_size {w : World} {base ba n m : Nat} {bl ls : List B8} {a : Option Addr} (ho : OwnBL w base (.slice (some ⟨ba, 0, none⟩) n n) bl) (hb : BL w a m ls) (hnm : n < m) (p : Addr) (hp : a = some p) : p.block ≠ ba := by
  intro e
  obtain ⟨h1, h2 | ⟨g, cap, cur, hv, hbg, hh, hc1, hc2, hsz, _⟩⟩ := ho
  · cases h2.1
  · obtain ⟨h3, h4, h5, h6⟩ := hb
    obtain ⟨b, off, ha, hlt, hc⟩ := h6 (by omega)
    rw [hp] at ha
    cases ha
    cases hv
    subst e
    have hlen : m * 8 - 1 < (flatB ls).length := by omega
    have h7 := hc (m * 8 - 1) _ (List.getElem?_eq_getElem hlen)
    rw [cell_of_cells hh, Array.getElem?_eq_none (by omega)] at h7
    cases h7
/-- a store stays, whatever becomes of another block -/
theorem StW.grow {w w' : World} {g n h : Nat} {ls : List B8} {left : Int} {sa : Option Addr} {sc : Nat} {pa : Option Addr} {pc y : Nat} (hs : StW w g n h ls [] left sa sc pa 0 pc) (hg : w.grownBy w' (some y)) (hne : y ≠ g) (ha : ∀ p, sa = some p → p.block ≠ y) : StW w' g n h ls [] left sa sc pa 0 pc :=
  { hs with bx := Bx.grow hs.bx hg (fun e => hne (Option.some.inj e).symm), bl := hs.bl.grow1 hg (fun _ => ha), pl := hs.pl.grow1 hg (fun h => absurd h (by omega)) }
theorem grown8s {w w' : World} {g : Nat} (h : w.grownBy w' (some g)) (o : Nat) (x : B8) : w.grownBy (set8 w' g o x).drew (some g) := by
  have key : ∀ v : World, Below g w' v → (∀ k, k ≠ g → v.heap[k]? = w'.heap[k]?) → w.grownBy v.drew (some g) := fun v hb ho => ⟨hb.os.trans h.os, hb.tape.trans h.tape, hb.output.trans h.output, Nat.le_trans h.size hb.size, fun k hk hne => (ho k (fun e => hne (by rw [e]))).trans (h.block k hk hne)⟩
  exact key _ (set8_below (Below.refl g w') (Nat.le_refl g) o x) (fun k hk => set8_other hk x)
theorem below_of_grown {w v w' : World} {y : Nat} (hb : Below w.heap.size w v) (hg : v.grownBy w' (some y)) (hy : w.heap.size ≤ y) : Below w.heap.size w w' :=
  ⟨hg.os.trans hb.os, hg.tape.trans hb.tape, hg.output.trans hb.output, Nat.le_trans hb.size hg.size, fun k hk =>
    (hg.block k (Nat.lt_of_lt_of_le hk hb.size) (fun e => absurd (Option.some.inj e) (by omega))).trans (hb.block k hk)⟩

set_option maxHeartbeats 16000000 in
set_option maxRecDepth 100000 in
theorem st15 {w x : World} {g n ba : Nat} {bl : List B8} {sx sy : Int} {h : Nat} {ls : List B8} {sa : Option Addr} {sc : Nat} {pa : Option Addr} {pc : Nat} (hv : SV w x g n ba bl sx sy h ls sa sc pa pc) {u1 u2 u3 u4 u5 u6 u7 u8 u9 u10 u11 u12 u13 u14 u15 u16 u17 u18 u19 u20 u25 u26 u27 u28 u29 u30 u31 u32 u33 u34 u35 u36 u37 u38 u39 u40 u41 u42 u43 u44 u45 u46 u47 u48 u49 u50 u51 u52 u53 u54 u55 u56 u57 u58 u59 u60 u61 u62 u63 u64 u65 u66 u67 u68 u69 u70 u71 u72 u73 u74 u75 u76 u77 u78 u79 u80 u81 u82 u83 u84 u85 u86 u87 u88 u89 u90 u91 u92 u93 u94 u95 u96 u97 u98 u99 u100 u101 u102 u103 u104 u105 u106 u107 u108 u109 u110 u111 u112 u113 u114 u115 u116 u117 u118 u119 u120 u121 u122 u123 u124 u125 u126 u127 u128 u129 u130 u131 u132 u133 u134 u135 u136 u137 u138 u139 u140 u141 u142 u143 u144 u145 u146 u147 u148 u149 u150 u151 u152 u153 u154 u155 u156 u157 u158 u159 u160 u161 u162 u163 u164 u165 u166 u167 u168 u169 u170 u171 u172 u173 u174 u175 u176 u177 u178 u179 u180 u181 u182 u183 u184 u185 u186 u187 u188 u189 u190 u191 u192 u193 u194 u195 u196 u197 u198 u199 u200 u201 u202 u203 u204 u205 u206 u207 u208 u209 u210 u211 u212 u213 u214 u215 u216 u217 u218 u219 u220 u221 u222 u223 u224 u225 u226 u227 u228 u229 u230 u231 u232 u233 u234 u235 u236 u237 u238 u239 u240 u241 u242 u243 u244 u245 u246 u247 u248 u249 u250 u251 u252 u253 u254 u255 u256 u257 u258 u259 u260 u261 u262 u263 u264 u265 u266 u267 u268 u269 u270 u271 u272 u273 u274 u275 u276 u277 : Value} :
    TailG Try.f3 (fun e w' => e = .returned (.bool true) ∧ Below w.heap.size w w') 15 ⟨#[.int .i64 (n : Int), u1, u2, u3, u4, u5, u6, u7, u8, u9, u10, u11, u12, u13, u14, u15, u16, u17, u18, u19, u20, .pointer (some ⟨g, 0, none⟩), .slice (some ⟨ba, 0, none⟩) n n, .int .i64 sx, .int .i64 sy, u25, u26, u27, u28, u29, u30, u31, u32, u33, u34, u35, u36, u37, u38, u39, u40, u41, u42, u43, u44, u45, u46, u47, u48, u49, u50, u51, u52, u53, u54, u55, u56, u57, u58, u59, u60, u61, u62, u63, u64, u65, u66, u67, u68, u69, u70, u71, u72, u73, u74, u75, u76, u77, u78, u79, u80, u81, u82, u83, u84, u85, u86, u87, u88, u89, u90, u91, u92, u93, u94, u95, u96, u97, u98, u99, u100, u101, u102, u103, u104, u105, u106, u107, u108, u109, u110, u111, u112, u113, u114, u115, u116, u117, u118, u119, u120, u121, u122, u123, u124, u125, u126, u127, u128, u129, u130, u131, u132, u133, u134, u135, u136, u137, u138, u139, u140, u141, u142, u143, u144, u145, u146, u147, u148, u149, u150, u151, u152, u153, u154, u155, u156, u157, u158, u159, u160, u161, u162, u163, u164, u165, u166, u167, u168, u169, u170, u171, u172, u173, u174, u175, u176, u177, u178, u179, u180, u181, u182, u183, u184, u185, u186, u187, u188, u189, u190, u191, u192, u193, u194, u195, u196, u197, u198, u199, u200, u201, u202, u203, u204, u205, u206, u207, u208, u209, u210, u211, u212, u213, u214, u215, u216, u217, u218, u219, u220, u221, u222, u223, u224, u225, u226, u227, u228, u229, u230, u231, u232, u233, u234, u235, u236, u237, u238, u239, u240, u241, u242, u243, u244, u245, u246, u247, u248, u249, u250, u251, u252, u253, u254, u255, u256, u257, u258, u259, u260, u261, u262, u263, u264, u265, u266, u267, u268, u269, u270, u271, u272, u273, u274, u275, u276, u277], []⟩ x := by
  have HV := hide hv
  clear hv
  obtain ⟨v, hvx⟩ : ∃ v : World, Hid (v = x) := ⟨_, rfl⟩
  have hn1 := HV.out.hd.n1
  have hn2 := HV.out.hd.n2
  refine tailG_step rfl ?_
  intro K hK
  go_wp2_with fail
  refine (sdisk_any g n h ls [] (-1) sa sc pa 0 pc x HV.out.st (by omega)).mono ?_
  rintro e w1 ⟨a1, c1, a2, c2, rfl, K1, D1⟩
  have V1 := hide (HV.out.later D1.out)
  go_wp2_with fail
  refine (open_ok a1 a2 (Mx.sz n) c1 0 c2 (-1) n ls [] w1 K1.out.bl K1.out.pl hn1 hn2 rfl (Mx.dmay_sz hn2) rfl (by omega) (by omega) (by omega) (ls.getD 0 zB) rfl h HV.out.hd.mark HV.out.hd.mk0).mono ?_
  rintro e w2 ⟨g2, a3, c3, a4, c4, rfl, hg2, S2, D2⟩
  have V2 := hide (V1.out.later D2.out)
  go_wp2_with fail
  refine Met.intro (tailG_last (c := .seq _ .ret) rfl ?_)
  try clear hK
  try clear K
  go_wp2_with fail
  refine (sees_any g2 n h ls (-1) a3 c3 a4 c4 w2 S2.out (by omega) bl sx sy HV.out.hd (some ⟨ba, 0, none⟩) n V2.out.ow.asRow).mono ?_
  rintro e w3 ⟨rfl, E3⟩
  have D3 := hide (show Below w.heap.size w w3 from V2.out.bel.trans (E3.mono V2.out.bel.size))
  clear E3
  go_wp2_with fail
  exact bodyPost_ret (v := .bool true) (by simp [results, Try.results3, go_sem]) rfl ⟨rfl, D3.out⟩


end Go.Proofs.Ytfbmaemnbolplaa

/-
  TopAtomic: its state; the end of a round.
-/
namespace Go.Proofs.Ytfbmaemnbolplaa
open Go.RowKit

/-- a row of blocks lies in no small box -/
theorem bx_apart {w : World} {g m : Nat} {cs : Array Value} {t : TypeId} {a : Option Addr} {l : List B8} (hx : Bx w g cs t) (hs : cs.size < 8) (hb : BL w a m l) (hm : 0 < m) (p : Addr) (hp : a = some p) : p.block ≠ g := by
  intro e
  obtain ⟨h3, h4, h5, h6⟩ := hb
  obtain ⟨b, off, ha, hlt, hc⟩ := h6 hm
  rw [hp] at ha
  cases ha
  subst e
  have hlen : 7 < (flatB l).length := by omega
  have h7 := hc 7 _ (List.getElem?_eq_getElem hlen)
  rw [hx.cell, Array.getElem?_eq_none (by omega)] at h7
  cases h7
theorem BL.setAt {w : World} {g m o : Nat} {cs : Array Value} {t : TypeId} {a : Option Addr} {l : List B8} (hb : BL w a m l) (hx : Bx w g cs t) (hs : cs.size < 8) (v : Value) : BL (w.setCell ⟨g, o, none⟩ v) a m l :=
  hb.grow1 (grow_set (grow_refl _ _) _ _) (fun hm => bx_apart hx hs hb hm)
theorem BL.set3At {w : World} {g m : Nat} {cs : Array Value} {t : TypeId} {a : Option Addr} {l : List B8} (hb : BL w a m l) (hx : Bx w g cs t) (hs : cs.size < 8) (s0 s1 s2 : Value) : BL (set3 w g s0 s1 s2) a m l :=
  hb.grow1 (set3_grown (grow_refl _ _) _ _ _) (fun hm => bx_apart hx hs hb hm)

/-- the law's disk, blocks and number -/
structure AV (w v : World) (dbk n : Nat) (ba : Option Addr) (bl : List B8) (num : Int) (h : Nat) (ls : List B8) (sa : Option Addr) (sc : Nat) (pa : Option Addr) (pc : Nat) (left : Int) : Prop where
  bx : Bx v dbk #[.slice sa (Mx.sz n) sc, .slice pa 0 pc, .int .i64 left] 29
  bls : BL v sa (Mx.sz n) ls
  hd : Mx.Hd n h ls bl num num
  bb : BL v ba n bl
  dl : w.heap.size ≤ dbk
  bel : Below w.heap.size w v

/-- the same, while the disk is of no account -/
structure AW (w v : World) (dbk n : Nat) (ba : Option Addr) (bl : List B8) : Prop where
  bx : ∃ s0 s1 s2, Bx v dbk #[s0, s1, s2] 29
  bb : BL v ba n bl
  dl : w.heap.size ≤ dbk
  bel : Below w.heap.size w v
theorem AW.later {w v v' : World} {dbk n : Nat} {ba : Option Addr} {bl : List B8} (h : AW w v dbk n ba bl) (hb : Below v.heap.size v v') : AW w v' dbk n ba bl := by
  obtain ⟨s0, s1, s2, hx⟩ := h.bx
  exact ⟨⟨s0, s1, s2, hx.later hb hx.lt⟩, h.bb.later hb, h.dl, h.bel.trans (hb.mono h.bel.size)⟩

set_option maxHeartbeats 16000000 in
set_option maxRecDepth 100000 in
theorem ta16 {w : World} {dbk n at_ i : Nat} {ra ta ba : Option Addr} {rn rc tn tc bc : Nat} {num : Int} {Kn Kr K0 : Act → World → Prop} {x : World} {bl : List B8} {g h : Nat} {ls : List B8} {left : Int} {sa : Option Addr} {sc : Nat} {pa : Option Addr} {pc : Nat} (hs : StW x g n h ls [] left sa sc pa 0 pc) (hd : Mx.Hd n h ls bl num num) (hw : AW w x dbk n ba bl) {u4 u5 u6 u7 u8 u10 u14 u15 u16 u17 u18 u19 u20 u21 u22 u23 u25 u26 u27 u28 u29 u30 u31 u32 u33 u34 u35 u36 u37 u38 u39 u40 u41 u42 u43 u44 u45 u46 u47 u48 u49 u50 u51 u52 u53 u54 u55 u56 u57 u58 u59 u60 u61 u62 u63 u64 u65 u66 u67 u68 u69 u70 u71 u72 u73 u74 u75 u76 u77 u78 u79 u80 u81 u82 u83 u84 u85 u86 u87 u88 u89 u90 u91 u92 u93 u94 u95 u96 u97 u98 u99 u100 u101 u102 u103 u104 u105 u106 u107 u108 u109 u110 u111 u112 u113 u114 u115 u116 u117 u118 u119 u120 u121 u122 u123 u124 u125 u126 u127 u128 u129 u130 u131 u132 u133 u134 u135 u136 u137 u138 u139 u140 u141 u142 u143 u144 u145 u146 u147 u148 u149 u150 u151 u152 u153 u154 u155 u156 u157 u158 u159 u160 u161 u162 u163 u164 u165 u166 u167 u168 u169 u170 u171 u172 u173 u174 u175 u176 u177 u178 : Value} (hQ : ∀ (ba' : Option Addr) (bc' : Nat) (bl' : List B8) (num' : Int) (h' : Nat) (ls' : List B8) (sa' : Option Addr) (sc' : Nat) (pa' : Option Addr) (pc' : Nat) (left' : Int) (x' : World) (v14 v15 v16 v17 v18 v19 v20 v21 v22 v23 v24 v47 v48 v49 v50 v51 v52 v53 v54 v55 v56 v57 v58 v59 v60 v61 v62 v63 v64 v65 v66 v67 v68 v69 v70 v71 v72 v73 v74 v75 v76 v77 v78 v79 v80 v81 v82 v83 v84 v85 v86 v87 v88 v89 v90 v91 v92 v93 v94 v95 v96 v97 v98 v99 v100 v101 v102 v103 v104 v105 v106 v107 v108 v109 v110 v111 v112 v113 v114 v115 v116 v117 v118 v119 v120 v121 v122 v123 v124 v125 v126 v127 v128 v129 v130 v131 v132 v133 v134 v135 v136 v137 v138 v139 v140 v141 v142 v143 v144 v145 v146 v147 v148 v149 v150 v151 v152 v153 v154 v155 v156 v157 v158 v159 v160 v161 v162 v163 v164 v165 v166 v167 v168 v169 v170 v171 v172 v173 v174 v175 v176 v177 v178 : Value), AV w x' dbk n ba' bl' num' h' ls' sa' sc' pa' pc' left' → Kn ⟨#[.slice ra rn rc, .int .i64 (n : Int), .int .i64 (at_ : Int), .slice ta tn tc, u4, u5, u6, u7, u8, .pointer (some ⟨dbk, 0, none⟩), u10, .slice ba' n bc', .int .i64 num', .int .i64 (i : Int), v14, v15, v16, v17, v18, v19, v20, v21, v22, v23, v24, u25, u26, u27, u28, u29, u30, u31, u32, u33, u34, u35, u36, u37, u38, u39, u40, u41, u42, u43, u44, u45, u46, v47, v48, v49, v50, v51, v52, v53, v54, v55, v56, v57, v58, v59, v60, v61, v62, v63, v64, v65, v66, v67, v68, v69, v70, v71, v72, v73, v74, v75, v76, v77, v78, v79, v80, v81, v82, v83, v84, v85, v86, v87, v88, v89, v90, v91, v92, v93, v94, v95, v96, v97, v98, v99, v100, v101, v102, v103, v104, v105, v106, v107, v108, v109, v110, v111, v112, v113, v114, v115, v116, v117, v118, v119, v120, v121, v122, v123, v124, v125, v126, v127, v128, v129, v130, v131, v132, v133, v134, v135, v136, v137, v138, v139, v140, v141, v142, v143, v144, v145, v146, v147, v148, v149, v150, v151, v152, v153, v154, v155, v156, v157, v158, v159, v160, v161, v162, v163, v164, v165, v166, v167, v168, v169, v170, v171, v172, v173, v174, v175, v176, v177, v178], []⟩ x') :
    TailQ (bodyG (fstG (itsG 8 (Try.f4.body.getD .skip)))) (Exit.inBlock 1 (Exit.then Kn (Exit.then Kr (Exit.inBlock 0 (Exit.then K0 (bodyPost Try.prog Try.f4 (fun e w' => e = .returned (.bool true) ∧ Below w.heap.size w w'))))))) 16 ⟨#[.slice ra rn rc, .int .i64 (n : Int), .int .i64 (at_ : Int), .slice ta tn tc, u4, u5, u6, u7, u8, .pointer (some ⟨dbk, 0, none⟩), u10, .slice ba n bc, .int .i64 num, .int .i64 (i : Int), u14, u15, u16, u17, u18, u19, u20, u21, u22, u23, .pointer (some ⟨g, 0, none⟩), u25, u26, u27, u28, u29, u30, u31, u32, u33, u34, u35, u36, u37, u38, u39, u40, u41, u42, u43, u44, u45, u46, u47, u48, u49, u50, u51, u52, u53, u54, u55, u56, u57, u58, u59, u60, u61, u62, u63, u64, u65, u66, u67, u68, u69, u70, u71, u72, u73, u74, u75, u76, u77, u78, u79, u80, u81, u82, u83, u84, u85, u86, u87, u88, u89, u90, u91, u92, u93, u94, u95, u96, u97, u98, u99, u100, u101, u102, u103, u104, u105, u106, u107, u108, u109, u110, u111, u112, u113, u114, u115, u116, u117, u118, u119, u120, u121, u122, u123, u124, u125, u126, u127, u128, u129, u130, u131, u132, u133, u134, u135, u136, u137, u138, u139, u140, u141, u142, u143, u144, u145, u146, u147, u148, u149, u150, u151, u152, u153, u154, u155, u156, u157, u158, u159, u160, u161, u162, u163, u164, u165, u166, u167, u168, u169, u170, u171, u172, u173, u174, u175, u176, u177, u178], []⟩ x := by
  have HS := hide hs
  have HD := hide hd
  have HW := hide hw
  have HQ := hide hQ
  clear hs hd hw hQ
  refine tailQ_last (c' := .region _ _ _) rfl ?_
  go_wp2_with fail
  refine (sdisk_any g n h ls [] left sa sc pa 0 pc x HS.out (by omega)).mono ?_
  rintro e w1 ⟨a1, c1, a2, c2, rfl, K1, D1⟩
  obtain ⟨s0, s1, s2, hX1⟩ := (HW.out.later D1.out).bx
  have X1 := hide hX1
  clear hX1
  obtain ⟨x0, x1, x2⟩ := X1.out.three
  have xz := X1.out.frozen
  have V2 := hide (show AV w (set3 w1 dbk (.slice a1 (Mx.sz n) c1) (.slice a2 0 c2) (.int .i64 left)) dbk n ba bl num h ls a1 c1 a2 c2 left from
    { bx := X1.out.three_set _ _ _, bls := K1.out.bl.set3At X1.out (by simp) _ _ _, hd := HD.out, bb := (HW.out.later D1.out).bb.set3At X1.out (by simp) _ _ _, dl := HW.out.dl, bel := set3_below (HW.out.later D1.out).bel HW.out.dl _ _ _ })
  unfold set3 at V2
  go_wp2_with fail
  exact HQ.out ba bc bl num h ls a1 c1 a2 c2 left _ _ _ _ _ _ _ _ _ _ _ _ _ _ _ _ _ _ _ _ _ _ _ _ _ _ _ _ _ _ _ _ _ _ _ _ _ _ _ _ _ _ _ _ _ _ _ _ _ _ _ _ _ _ _ _ _ _ _ _ _ _ _ _ _ _ _ _ _ _ _ _ _ _ _ _ _ _ _ _ _ _ _ _ _ _ _ _ _ _ _ _ _ _ _ _ _ _ _ _ _ _ _ _ _ _ _ _ _ _ _ _ _ _ _ _ _ _ _ _ _ _ _ _ _ _ _ _ _ _ _ _ _ _ _ _ _ _ _ _ _ _ _ _ V2.out


end Go.Proofs.Ytfbmaemnbolplaa

/-
  TopAtomic: a crash, and what is opened then.
-/
namespace Go.Proofs.Ytfbmaemnbolplaa
open Go.RowKit

set_option maxHeartbeats 16000000 in
set_option maxRecDepth 100000 in
theorem ta10_ok {w : World} {dbk n at_ i : Nat} {ra ta ba : Option Addr} {rn rc tn tc bc : Nat} {num : Int} {Kn Kr K0 : Act → World → Prop} {raws : List Int} (hr : Ints w ra rn raws) (hri : I64 raws) (hrc : rn ≤ rc) (hrn : rn ≤ 128) (hat : at_ ≤ 100) (hi : i ≤ 40) {x : World} {bl nx : List B8} {g h1 : Nat} {ls1 : List B8} {ps1 : List Pt} {left1 : Int} {sa : Option Addr} {sc : Nat} {pa : Option Addr} {pn pc : Nat} {na : Option Addr} {nc : Nat} (hs : StW x g n h1 ls1 ps1 left1 sa sc pa pn pc) (hw : AW w x dbk n ba bl) (hnx : BL x na n nx) (hpl : ps1.length ≤ 700) (hdm : Mx.dmay (Mx.sz n) ps1 = 0) (hx : ∀ bs : List Int, ∃ h2, Mx.Hd n h2 (Mx.crash ls1 ps1 bs) nx ((i : Int) + 1) ((i : Int) + 1)) {u4 u5 u6 u7 u8 u10 u14 u17 u18 u19 u21 u22 u23 u24 u25 u26 u27 u28 u29 u30 u31 u32 u33 u34 u35 u36 u37 u38 u39 u40 u41 u42 u43 u44 u45 u46 u47 u48 u49 u50 u51 u52 u53 u54 u55 u56 u57 u58 u59 u60 u61 u62 u63 u64 u65 u66 u67 u68 u69 u70 u71 u72 u73 u74 u75 u76 u77 u78 u79 u80 u81 u82 u83 u84 u85 u86 u87 u88 u89 u90 u91 u92 u93 u94 u95 u96 u97 u98 u99 u100 u101 u102 u103 u104 u105 u106 u107 u108 u109 u110 u111 u112 u113 u114 u115 u116 u117 u118 u119 u120 u121 u122 u123 u124 u125 u126 u127 u128 u129 u130 u131 u132 u133 u134 u135 u136 u137 u138 u139 u140 u141 u142 u143 u144 u145 u146 u147 u148 u149 u150 u151 u152 u153 u154 u155 u156 u157 u158 u159 u160 u161 u162 u163 u164 u165 u166 u167 u168 u169 u170 u171 u172 u173 u174 u175 u176 u177 u178 : Value} (hQ : ∀ (ba' : Option Addr) (bc' : Nat) (bl' : List B8) (num' : Int) (h' : Nat) (ls' : List B8) (sa' : Option Addr) (sc' : Nat) (pa' : Option Addr) (pc' : Nat) (left' : Int) (x' : World) (v14 v15 v16 v17 v18 v19 v20 v21 v22 v23 v24 v47 v48 v49 v50 v51 v52 v53 v54 v55 v56 v57 v58 v59 v60 v61 v62 v63 v64 v65 v66 v67 v68 v69 v70 v71 v72 v73 v74 v75 v76 v77 v78 v79 v80 v81 v82 v83 v84 v85 v86 v87 v88 v89 v90 v91 v92 v93 v94 v95 v96 v97 v98 v99 v100 v101 v102 v103 v104 v105 v106 v107 v108 v109 v110 v111 v112 v113 v114 v115 v116 v117 v118 v119 v120 v121 v122 v123 v124 v125 v126 v127 v128 v129 v130 v131 v132 v133 v134 v135 v136 v137 v138 v139 v140 v141 v142 v143 v144 v145 v146 v147 v148 v149 v150 v151 v152 v153 v154 v155 v156 v157 v158 v159 v160 v161 v162 v163 v164 v165 v166 v167 v168 v169 v170 v171 v172 v173 v174 v175 v176 v177 v178 : Value), AV w x' dbk n ba' bl' num' h' ls' sa' sc' pa' pc' left' → Kn ⟨#[.slice ra rn rc, .int .i64 (n : Int), .int .i64 (at_ : Int), .slice ta tn tc, u4, u5, u6, u7, u8, .pointer (some ⟨dbk, 0, none⟩), u10, .slice ba' n bc', .int .i64 num', .int .i64 (i : Int), v14, v15, v16, v17, v18, v19, v20, v21, v22, v23, v24, u25, u26, u27, u28, u29, u30, u31, u32, u33, u34, u35, u36, u37, u38, u39, u40, u41, u42, u43, u44, u45, u46, v47, v48, v49, v50, v51, v52, v53, v54, v55, v56, v57, v58, v59, v60, v61, v62, v63, v64, v65, v66, v67, v68, v69, v70, v71, v72, v73, v74, v75, v76, v77, v78, v79, v80, v81, v82, v83, v84, v85, v86, v87, v88, v89, v90, v91, v92, v93, v94, v95, v96, v97, v98, v99, v100, v101, v102, v103, v104, v105, v106, v107, v108, v109, v110, v111, v112, v113, v114, v115, v116, v117, v118, v119, v120, v121, v122, v123, v124, v125, v126, v127, v128, v129, v130, v131, v132, v133, v134, v135, v136, v137, v138, v139, v140, v141, v142, v143, v144, v145, v146, v147, v148, v149, v150, v151, v152, v153, v154, v155, v156, v157, v158, v159, v160, v161, v162, v163, v164, v165, v166, v167, v168, v169, v170, v171, v172, v173, v174, v175, v176, v177, v178], []⟩ x') :
    TailQ (bodyG (fstG (itsG 8 (Try.f4.body.getD .skip)))) (Exit.inBlock 1 (Exit.then Kn (Exit.then Kr (Exit.inBlock 0 (Exit.then K0 (bodyPost Try.prog Try.f4 (fun e w' => e = .returned (.bool true) ∧ Below w.heap.size w w'))))))) 10 ⟨#[.slice ra rn rc, .int .i64 (n : Int), .int .i64 (at_ : Int), .slice ta tn tc, u4, u5, u6, u7, u8, .pointer (some ⟨dbk, 0, none⟩), u10, .slice ba n bc, .int .i64 num, .int .i64 (i : Int), u14, .pointer (some ⟨g, 0, none⟩), .nilIface, u17, u18, u19, .slice na n nc, u21, u22, u23, u24, u25, u26, u27, u28, u29, u30, u31, u32, u33, u34, u35, u36, u37, u38, u39, u40, u41, u42, u43, u44, u45, u46, u47, u48, u49, u50, u51, u52, u53, u54, u55, u56, u57, u58, u59, u60, u61, u62, u63, u64, u65, u66, u67, u68, u69, u70, u71, u72, u73, u74, u75, u76, u77, u78, u79, u80, u81, u82, u83, u84, u85, u86, u87, u88, u89, u90, u91, u92, u93, u94, u95, u96, u97, u98, u99, u100, u101, u102, u103, u104, u105, u106, u107, u108, u109, u110, u111, u112, u113, u114, u115, u116, u117, u118, u119, u120, u121, u122, u123, u124, u125, u126, u127, u128, u129, u130, u131, u132, u133, u134, u135, u136, u137, u138, u139, u140, u141, u142, u143, u144, u145, u146, u147, u148, u149, u150, u151, u152, u153, u154, u155, u156, u157, u158, u159, u160, u161, u162, u163, u164, u165, u166, u167, u168, u169, u170, u171, u172, u173, u174, u175, u176, u177, u178], []⟩ x := by
  have HS := hide hs
  have HW := hide hw
  have HNX := hide hnx
  have HX := hide hx
  have HR := hide hr
  have HRI := hide hri
  have HDM := hide hdm
  have HQ := hide hQ
  have hn1 := hs.n1
  have hn2 := hs.n2
  have hpn : pn ≤ 1000 := by rw [← hs.pl.1]; omega
  clear hs hw hnx hx hr hri hQ hdm
  refine tailQ_step rfl ?_
  intro K hK
  go_wp2_with fail
  refine (sdisk_any g n h1 ls1 ps1 left1 sa sc pa pn pc x HS.out hpn).mono ?_
  rintro e w1 ⟨a3, c3, a4, c4, rfl, K1, D1⟩
  have W1 := hide (HW.out.later D1.out)
  have N1 := hide (HNX.out.later D1.out)
  have hai : IntKind.i64.wrap ((at_ : Int) + (i : Int)) = (at_ : Int) + (i : Int) := by rw [IntWalk.i64_left, IntWalk.wrap64_in _ (by omega)]
  go_wp2_with fail
  refine (pickv_any ((at_ : Int) + (i : Int)) ((rn : Int) + 1) w1 (by omega) (by omega) (by omega) (by omega)).mono ?_
  rintro e wz ⟨rfl, hz⟩
  obtain rfl := hz.symm
  clear hz
  obtain ⟨ix, hix⟩ : ∃ ix : Nat, Hid (Mx.pick ((at_ : Int) + (i : Int)) ((rn : Int) + 1) = (ix : Int)) := ⟨(Mx.pick ((at_ : Int) + (i : Int)) ((rn : Int) + 1)).toNat, by have := Mx.pick_pos ((at_ : Int) + (i : Int)) ((rn : Int) + 1) (by omega); unfold Hid; omega⟩
  have hixn : ix ≤ rn := by have h8 := Mx.pick_pos ((at_ : Int) + (i : Int)) ((rn : Int) + 1) (by omega); have h9 := hix.out; omega
  rw [hix.out]
  have R1 := hide (HR.out.later W1.out.bel)
  obtain ⟨ra2, hra', hR2'⟩ := ints_rest ra rn rc ix raws w1 R1.out hixn hrc
  have R2 := hide hR2'
  clear hR2'
  go_wp2_with fail
  refine (crash_any a3 a4 ra2 (Mx.sz n) c3 pn c4 (rn - ix) (rc - ix) left1 ls1 ps1 (raws.drop ix) w1 K1.out.bl K1.out.pl R2.out (fun z hz => HRI.out z (List.mem_of_mem_drop hz)) HDM.out).mono ?_
  rintro e w4 ⟨a5, c5, rfl, B4, D4⟩
  clear hra' hai
  obtain ⟨W5, hW5⟩ : ∃ W5 : World, Hid (W5 = w4.alloc (.cells #[.slice a5 (Mx.sz n) c5, .slice none 0 0, .int .i64 (-1)] 29)) := ⟨_, rfl⟩
  have F5 := hide (show Below w1.heap.size w1 W5 by rw [hW5.out]; exact D4.out.alloc D4.out.size _)
  have Y5 := hide (show Bx W5 w4.heap.size #[.slice a5 (Mx.sz n) c5, .slice none 0 0, .int .i64 (-1)] 29 by rw [hW5.out]; exact Bx.new w4 _ _)
  have B5 := hide (show BL W5 a5 (Mx.sz n) (Mx.crash ls1 ps1 (raws.drop ix)) by rw [hW5.out]; exact B4.out.later (below_alloc _ _))
  have W5w := hide (W1.out.later F5.out)
  have N5 := hide (N1.out.later F5.out)
  go_wp2_with fail
  rw [← hW5.out]
  refine Met.intro (tailQ_step rfl ?_)
  try clear hK
  try clear K
  intro K hK
  go_wp2_with fail
  refine Met.intro (tailQ_step rfl ?_)
  try clear hK
  try clear K
  intro K hK
  obtain ⟨s0, s1, s2, hX5⟩ := W5w.out.bx
  have X5 := hide hX5
  clear hX5
  obtain ⟨y0, y1, y2⟩ := Y5.out.three
  obtain ⟨x0, x1, x2⟩ := X5.out.three
  have xz := X5.out.frozen
  have hne : ¬ dbk = w4.heap.size := by have h8 := W1.out.bx; obtain ⟨_, _, _, h9⟩ := h8; have h7 := h9.lt; have h6 := D4.out.size; omega
  obtain ⟨W6, hW6⟩ : ∃ W6 : World, Hid (W6 = set3 W5 dbk (.slice a5 (Mx.sz n) c5) (.slice none 0 0) (.int .i64 (-1))) := ⟨_, rfl⟩
  have X6 := hide (show Bx W6 dbk #[.slice a5 (Mx.sz n) c5, .slice none 0 0, .int .i64 (-1)] 29 by rw [hW6.out]; exact X5.out.three_set _ _ _)
  have B6 := hide (show BL W6 a5 (Mx.sz n) (Mx.crash ls1 ps1 (raws.drop ix)) by rw [hW6.out]; exact B5.out.set3At X5.out (by simp) _ _ _)
  have N6 := hide (show BL W6 na n nx by rw [hW6.out]; exact N5.out.set3At X5.out (by simp) _ _ _)
  have V6 := hide (show AW w W6 dbk n ba bl from { bx := ⟨_, _, _, X6.out⟩, bb := by rw [hW6.out]; exact W5w.out.bb.set3At X5.out (by simp) _ _ _, dl := HW.out.dl, bel := by rw [hW6.out]; exact set3_below W5w.out.bel HW.out.dl _ _ _ })
  unfold set3 at hW6
  go_wp2_with fail
  rw [← hW6.out]
  clear x0 x1 x2 y0 y1 y2 xz
  refine Met.intro (tailQ_step rfl ?_)
  try clear hK
  try clear K
  intro K hK
  obtain ⟨h2, hD2⟩ : ∃ h2, Mx.Hd n h2 (Mx.crash ls1 ps1 (raws.drop ix)) nx ((i : Int) + 1) ((i : Int) + 1) := HX.out _
  have HD2 := hide hD2
  clear hD2
  obtain ⟨x0, x1, x2⟩ := X6.out.three
  go_wp2_with fail
  refine (open_ok a5 none (Mx.sz n) c5 0 0 (-1) n (Mx.crash ls1 ps1 (raws.drop ix)) [] W6 B6.out (PL.nil W6) hn1 hn2 rfl (Mx.dmay_sz hn2) rfl (by omega) (by omega) (by omega) _ rfl h2 HD2.out.mark HD2.out.mk0).mono ?_
  rintro e w7 ⟨g2, a7, c7, a8, c8, rfl, hg7, S7, D7⟩
  have W7 := hide (V6.out.later D7.out)
  have N7 := hide (N6.out.later D7.out)
  clear x0 x1 x2
  go_wp2_with fail
  refine Met.intro (tailQ_step rfl ?_)
  try clear hK
  try clear K
  intro K hK
  go_wp2_with fail
  refine Met.intro (tailQ_step rfl ?_)
  try clear hK
  try clear K
  intro K hK
  go_wp2_with fail
  refine (as_any g2 n h2 (Mx.crash ls1 ps1 (raws.drop ix)) (-1) a7 c7 a8 c8 w7 S7.out (by omega) nx ((i : Int) + 1) ((i : Int) + 1) HD2.out na nc nx N7.out ((i : Int) + 1)).mono ?_
  rintro e w8 ⟨rfl, E8⟩
  have W8 := hide (W7.out.later E8)
  have S8 := hide (S7.out.later E8)
  have N8 := hide (N7.out.later E8)
  clear E8
  have HAS := hide (show Mx.asV nx nx ((i : Int) + 1) ((i : Int) + 1) ((i : Int) + 1) = true from Mx.asV_same _ _)
  rw [HAS.out]
  go_wp2_with fail
  have WN := hide (show AW w w8 dbk n na nx from { bx := W8.out.bx, bb := N8.out, dl := W8.out.dl, bel := W8.out.bel })
  exact Met.intro (ta16 S8.out HD2.out WN.out HQ.out)

set_option maxHeartbeats 16000000 in
set_option maxRecDepth 100000 in
theorem ta10_dead {w : World} {dbk n at_ i : Nat} {ra ta ba : Option Addr} {rn rc tn tc bc : Nat} {num : Int} {Kn Kr K0 : Act → World → Prop} {raws : List Int} (hr : Ints w ra rn raws) (hri : I64 raws) (hrc : rn ≤ rc) (hrn : rn ≤ 128) (hat : at_ ≤ 100) (hi : i ≤ 40) {x : World} {bl nx : List B8} {g h1 : Nat} {ls1 : List B8} {ps1 : List Pt} {left1 : Int} {sa : Option Addr} {sc : Nat} {pa : Option Addr} {pn pc : Nat} {na : Option Addr} {nc : Nat} (hs : StW x g n h1 ls1 ps1 left1 sa sc pa pn pc) (hw : AW w x dbk n ba bl) (hnx : BL x na n nx) (hpl : ps1.length ≤ 700) (hdm : Mx.dmay (Mx.sz n) ps1 = 0) (hx : ∀ bs : List Int, ∃ h2, Mx.Hd n h2 (Mx.crash ls1 ps1 bs) nx ((i : Int) + 1) ((i : Int) + 1) ∨ Mx.Hd n h2 (Mx.crash ls1 ps1 bs) bl num num) {u4 u5 u6 u7 u8 u10 u14 u17 u18 u19 u21 u22 u23 u24 u25 u26 u27 u28 u29 u30 u31 u32 u33 u34 u35 u36 u37 u38 u39 u40 u41 u42 u43 u44 u45 u46 u47 u48 u49 u50 u51 u52 u53 u54 u55 u56 u57 u58 u59 u60 u61 u62 u63 u64 u65 u66 u67 u68 u69 u70 u71 u72 u73 u74 u75 u76 u77 u78 u79 u80 u81 u82 u83 u84 u85 u86 u87 u88 u89 u90 u91 u92 u93 u94 u95 u96 u97 u98 u99 u100 u101 u102 u103 u104 u105 u106 u107 u108 u109 u110 u111 u112 u113 u114 u115 u116 u117 u118 u119 u120 u121 u122 u123 u124 u125 u126 u127 u128 u129 u130 u131 u132 u133 u134 u135 u136 u137 u138 u139 u140 u141 u142 u143 u144 u145 u146 u147 u148 u149 u150 u151 u152 u153 u154 u155 u156 u157 u158 u159 u160 u161 u162 u163 u164 u165 u166 u167 u168 u169 u170 u171 u172 u173 u174 u175 u176 u177 u178 : Value} (hQ : ∀ (ba' : Option Addr) (bc' : Nat) (bl' : List B8) (num' : Int) (h' : Nat) (ls' : List B8) (sa' : Option Addr) (sc' : Nat) (pa' : Option Addr) (pc' : Nat) (left' : Int) (x' : World) (v14 v15 v16 v17 v18 v19 v20 v21 v22 v23 v24 v47 v48 v49 v50 v51 v52 v53 v54 v55 v56 v57 v58 v59 v60 v61 v62 v63 v64 v65 v66 v67 v68 v69 v70 v71 v72 v73 v74 v75 v76 v77 v78 v79 v80 v81 v82 v83 v84 v85 v86 v87 v88 v89 v90 v91 v92 v93 v94 v95 v96 v97 v98 v99 v100 v101 v102 v103 v104 v105 v106 v107 v108 v109 v110 v111 v112 v113 v114 v115 v116 v117 v118 v119 v120 v121 v122 v123 v124 v125 v126 v127 v128 v129 v130 v131 v132 v133 v134 v135 v136 v137 v138 v139 v140 v141 v142 v143 v144 v145 v146 v147 v148 v149 v150 v151 v152 v153 v154 v155 v156 v157 v158 v159 v160 v161 v162 v163 v164 v165 v166 v167 v168 v169 v170 v171 v172 v173 v174 v175 v176 v177 v178 : Value), AV w x' dbk n ba' bl' num' h' ls' sa' sc' pa' pc' left' → Kn ⟨#[.slice ra rn rc, .int .i64 (n : Int), .int .i64 (at_ : Int), .slice ta tn tc, u4, u5, u6, u7, u8, .pointer (some ⟨dbk, 0, none⟩), u10, .slice ba' n bc', .int .i64 num', .int .i64 (i : Int), v14, v15, v16, v17, v18, v19, v20, v21, v22, v23, v24, u25, u26, u27, u28, u29, u30, u31, u32, u33, u34, u35, u36, u37, u38, u39, u40, u41, u42, u43, u44, u45, u46, v47, v48, v49, v50, v51, v52, v53, v54, v55, v56, v57, v58, v59, v60, v61, v62, v63, v64, v65, v66, v67, v68, v69, v70, v71, v72, v73, v74, v75, v76, v77, v78, v79, v80, v81, v82, v83, v84, v85, v86, v87, v88, v89, v90, v91, v92, v93, v94, v95, v96, v97, v98, v99, v100, v101, v102, v103, v104, v105, v106, v107, v108, v109, v110, v111, v112, v113, v114, v115, v116, v117, v118, v119, v120, v121, v122, v123, v124, v125, v126, v127, v128, v129, v130, v131, v132, v133, v134, v135, v136, v137, v138, v139, v140, v141, v142, v143, v144, v145, v146, v147, v148, v149, v150, v151, v152, v153, v154, v155, v156, v157, v158, v159, v160, v161, v162, v163, v164, v165, v166, v167, v168, v169, v170, v171, v172, v173, v174, v175, v176, v177, v178], []⟩ x') :
    TailQ (bodyG (fstG (itsG 8 (Try.f4.body.getD .skip)))) (Exit.inBlock 1 (Exit.then Kn (Exit.then Kr (Exit.inBlock 0 (Exit.then K0 (bodyPost Try.prog Try.f4 (fun e w' => e = .returned (.bool true) ∧ Below w.heap.size w w'))))))) 10 ⟨#[.slice ra rn rc, .int .i64 (n : Int), .int .i64 (at_ : Int), .slice ta tn tc, u4, u5, u6, u7, u8, .pointer (some ⟨dbk, 0, none⟩), u10, .slice ba n bc, .int .i64 num, .int .i64 (i : Int), u14, .pointer (some ⟨g, 0, none⟩), .iface 35 (.int .i64 4), u17, u18, u19, .slice na n nc, u21, u22, u23, u24, u25, u26, u27, u28, u29, u30, u31, u32, u33, u34, u35, u36, u37, u38, u39, u40, u41, u42, u43, u44, u45, u46, u47, u48, u49, u50, u51, u52, u53, u54, u55, u56, u57, u58, u59, u60, u61, u62, u63, u64, u65, u66, u67, u68, u69, u70, u71, u72, u73, u74, u75, u76, u77, u78, u79, u80, u81, u82, u83, u84, u85, u86, u87, u88, u89, u90, u91, u92, u93, u94, u95, u96, u97, u98, u99, u100, u101, u102, u103, u104, u105, u106, u107, u108, u109, u110, u111, u112, u113, u114, u115, u116, u117, u118, u119, u120, u121, u122, u123, u124, u125, u126, u127, u128, u129, u130, u131, u132, u133, u134, u135, u136, u137, u138, u139, u140, u141, u142, u143, u144, u145, u146, u147, u148, u149, u150, u151, u152, u153, u154, u155, u156, u157, u158, u159, u160, u161, u162, u163, u164, u165, u166, u167, u168, u169, u170, u171, u172, u173, u174, u175, u176, u177, u178], []⟩ x := by
  have HS := hide hs
  have HW := hide hw
  have HNX := hide hnx
  have HX := hide hx
  have HR := hide hr
  have HRI := hide hri
  have HDM := hide hdm
  have HQ := hide hQ
  have hn1 := hs.n1
  have hn2 := hs.n2
  have hpn : pn ≤ 1000 := by rw [← hs.pl.1]; omega
  clear hs hw hnx hx hr hri hQ hdm
  refine tailQ_step rfl ?_
  intro K hK
  go_wp2_with fail
  refine (sdisk_any g n h1 ls1 ps1 left1 sa sc pa pn pc x HS.out hpn).mono ?_
  rintro e w1 ⟨a3, c3, a4, c4, rfl, K1, D1⟩
  have W1 := hide (HW.out.later D1.out)
  have N1 := hide (HNX.out.later D1.out)
  have hai : IntKind.i64.wrap ((at_ : Int) + (i : Int)) = (at_ : Int) + (i : Int) := by rw [IntWalk.i64_left, IntWalk.wrap64_in _ (by omega)]
  go_wp2_with fail
  refine (pickv_any ((at_ : Int) + (i : Int)) ((rn : Int) + 1) w1 (by omega) (by omega) (by omega) (by omega)).mono ?_
  rintro e wz ⟨rfl, hz⟩
  obtain rfl := hz.symm
  clear hz
  obtain ⟨ix, hix⟩ : ∃ ix : Nat, Hid (Mx.pick ((at_ : Int) + (i : Int)) ((rn : Int) + 1) = (ix : Int)) := ⟨(Mx.pick ((at_ : Int) + (i : Int)) ((rn : Int) + 1)).toNat, by have := Mx.pick_pos ((at_ : Int) + (i : Int)) ((rn : Int) + 1) (by omega); unfold Hid; omega⟩
  have hixn : ix ≤ rn := by have h8 := Mx.pick_pos ((at_ : Int) + (i : Int)) ((rn : Int) + 1) (by omega); have h9 := hix.out; omega
  rw [hix.out]
  have R1 := hide (HR.out.later W1.out.bel)
  obtain ⟨ra2, hra', hR2'⟩ := ints_rest ra rn rc ix raws w1 R1.out hixn hrc
  have R2 := hide hR2'
  clear hR2'
  go_wp2_with fail
  refine (crash_any a3 a4 ra2 (Mx.sz n) c3 pn c4 (rn - ix) (rc - ix) left1 ls1 ps1 (raws.drop ix) w1 K1.out.bl K1.out.pl R2.out (fun z hz => HRI.out z (List.mem_of_mem_drop hz)) HDM.out).mono ?_
  rintro e w4 ⟨a5, c5, rfl, B4, D4⟩
  clear hra' hai
  obtain ⟨W5, hW5⟩ : ∃ W5 : World, Hid (W5 = w4.alloc (.cells #[.slice a5 (Mx.sz n) c5, .slice none 0 0, .int .i64 (-1)] 29)) := ⟨_, rfl⟩
  have F5 := hide (show Below w1.heap.size w1 W5 by rw [hW5.out]; exact D4.out.alloc D4.out.size _)
  have Y5 := hide (show Bx W5 w4.heap.size #[.slice a5 (Mx.sz n) c5, .slice none 0 0, .int .i64 (-1)] 29 by rw [hW5.out]; exact Bx.new w4 _ _)
  have B5 := hide (show BL W5 a5 (Mx.sz n) (Mx.crash ls1 ps1 (raws.drop ix)) by rw [hW5.out]; exact B4.out.later (below_alloc _ _))
  have W5w := hide (W1.out.later F5.out)
  have N5 := hide (N1.out.later F5.out)
  go_wp2_with fail
  rw [← hW5.out]
  refine Met.intro (tailQ_step rfl ?_)
  try clear hK
  try clear K
  intro K hK
  go_wp2_with fail
  refine Met.intro (tailQ_step rfl ?_)
  try clear hK
  try clear K
  intro K hK
  obtain ⟨s0, s1, s2, hX5⟩ := W5w.out.bx
  have X5 := hide hX5
  clear hX5
  obtain ⟨y0, y1, y2⟩ := Y5.out.three
  obtain ⟨x0, x1, x2⟩ := X5.out.three
  have xz := X5.out.frozen
  have hne : ¬ dbk = w4.heap.size := by have h8 := W1.out.bx; obtain ⟨_, _, _, h9⟩ := h8; have h7 := h9.lt; have h6 := D4.out.size; omega
  obtain ⟨W6, hW6⟩ : ∃ W6 : World, Hid (W6 = set3 W5 dbk (.slice a5 (Mx.sz n) c5) (.slice none 0 0) (.int .i64 (-1))) := ⟨_, rfl⟩
  have X6 := hide (show Bx W6 dbk #[.slice a5 (Mx.sz n) c5, .slice none 0 0, .int .i64 (-1)] 29 by rw [hW6.out]; exact X5.out.three_set _ _ _)
  have B6 := hide (show BL W6 a5 (Mx.sz n) (Mx.crash ls1 ps1 (raws.drop ix)) by rw [hW6.out]; exact B5.out.set3At X5.out (by simp) _ _ _)
  have N6 := hide (show BL W6 na n nx by rw [hW6.out]; exact N5.out.set3At X5.out (by simp) _ _ _)
  have V6 := hide (show AW w W6 dbk n ba bl from { bx := ⟨_, _, _, X6.out⟩, bb := by rw [hW6.out]; exact W5w.out.bb.set3At X5.out (by simp) _ _ _, dl := HW.out.dl, bel := by rw [hW6.out]; exact set3_below W5w.out.bel HW.out.dl _ _ _ })
  unfold set3 at hW6
  go_wp2_with fail
  rw [← hW6.out]
  clear x0 x1 x2 y0 y1 y2 xz
  refine Met.intro (tailQ_step rfl ?_)
  try clear hK
  try clear K
  intro K hK
  obtain ⟨h2, hD2⟩ : ∃ h2, Mx.Hd n h2 (Mx.crash ls1 ps1 (raws.drop ix)) nx ((i : Int) + 1) ((i : Int) + 1) ∨ Mx.Hd n h2 (Mx.crash ls1 ps1 (raws.drop ix)) bl num num := HX.out _
  rcases hD2 with hD2 | hD2
  · have HD2 := hide hD2
    clear hD2
    obtain ⟨x0, x1, x2⟩ := X6.out.three
    go_wp2_with fail
    refine (open_ok a5 none (Mx.sz n) c5 0 0 (-1) n (Mx.crash ls1 ps1 (raws.drop ix)) [] W6 B6.out (PL.nil W6) hn1 hn2 rfl (Mx.dmay_sz hn2) rfl (by omega) (by omega) (by omega) _ rfl h2 HD2.out.mark HD2.out.mk0).mono ?_
    rintro e w7 ⟨g2, a7, c7, a8, c8, rfl, hg7, S7, D7⟩
    have W7 := hide (V6.out.later D7.out)
    have N7 := hide (N6.out.later D7.out)
    clear x0 x1 x2
    go_wp2_with fail
    refine Met.intro (tailQ_step rfl ?_)
    try clear hK
    try clear K
    intro K hK
    go_wp2_with fail
    refine Met.intro (tailQ_step rfl ?_)
    try clear hK
    try clear K
    intro K hK
    go_wp2_with fail
    refine (as_any g2 n h2 (Mx.crash ls1 ps1 (raws.drop ix)) (-1) a7 c7 a8 c8 w7 S7.out (by omega) nx ((i : Int) + 1) ((i : Int) + 1) HD2.out na nc nx N7.out ((i : Int) + 1)).mono ?_
    rintro e w8 ⟨rfl, E8⟩
    have W8 := hide (W7.out.later E8)
    have S8 := hide (S7.out.later E8)
    have N8 := hide (N7.out.later E8)
    clear E8
    have HAS := hide (show Mx.asV nx nx ((i : Int) + 1) ((i : Int) + 1) ((i : Int) + 1) = true from Mx.asV_same _ _)
    rw [HAS.out]
    go_wp2_with fail
    have WN := hide (show AW w w8 dbk n na nx from { bx := W8.out.bx, bb := N8.out, dl := W8.out.dl, bel := W8.out.bel })
    exact Met.intro (ta16 S8.out HD2.out WN.out HQ.out)
  · have HD2 := hide hD2
    clear hD2
    obtain ⟨x0, x1, x2⟩ := X6.out.three
    go_wp2_with fail
    refine (open_ok a5 none (Mx.sz n) c5 0 0 (-1) n (Mx.crash ls1 ps1 (raws.drop ix)) [] W6 B6.out (PL.nil W6) hn1 hn2 rfl (Mx.dmay_sz hn2) rfl (by omega) (by omega) (by omega) _ rfl h2 HD2.out.mark HD2.out.mk0).mono ?_
    rintro e w7 ⟨g2, a7, c7, a8, c8, rfl, hg7, S7, D7⟩
    have W7 := hide (V6.out.later D7.out)
    have N7 := hide (N6.out.later D7.out)
    clear x0 x1 x2
    go_wp2_with fail
    refine Met.intro (tailQ_step rfl ?_)
    try clear hK
    try clear K
    intro K hK
    go_wp2_with fail
    refine Met.intro (tailQ_step rfl ?_)
    try clear hK
    try clear K
    intro K hK
    go_wp2_with fail
    refine (as_any g2 n h2 (Mx.crash ls1 ps1 (raws.drop ix)) (-1) a7 c7 a8 c8 w7 S7.out (by omega) bl num num HD2.out na nc nx N7.out ((i : Int) + 1)).mono ?_
    rintro e w8 ⟨rfl, E8⟩
    have W8 := hide (W7.out.later E8)
    have S8 := hide (S7.out.later E8)
    have N8 := hide (N7.out.later E8)
    clear E8
    cases hv : Mx.asV bl nx num num ((i : Int) + 1)
    · have HV := hide hv
      clear hv
      go_wp2_with fail
      refine (as_any g2 n h2 (Mx.crash ls1 ps1 (raws.drop ix)) (-1) a7 c7 a8 c8 w8 S8.out (by omega) bl num num HD2.out ba bc bl W8.out.bb num).mono ?_
      rintro e w9 ⟨rfl, E9⟩
      have W9 := hide (W8.out.later E9)
      have S9 := hide (S8.out.later E9)
      clear E9
      have HAS := hide (Mx.asV_same bl num)
      rw [HAS.out]
      go_wp2_with fail
      exact Met.intro (ta16 S9.out HD2.out W9.out HQ.out)
    · have HV := hide (Mx.asV_true hv)
      clear hv
      have HD3 := hide (show Mx.Hd n h2 (Mx.crash ls1 ps1 (raws.drop ix)) nx ((i : Int) + 1) ((i : Int) + 1) by rw [← HV.out.1, ← HV.out.2.1]; exact HD2.out)
      go_wp2_with fail
      have WN := hide (show AW w w8 dbk n na nx from { bx := W8.out.bx, bb := N8.out, dl := W8.out.dl, bel := W8.out.bel })
      exact Met.intro (ta16 S8.out HD3.out WN.out HQ.out)


end Go.Proofs.Ytfbmaemnbolplaa

/-
  TopAtomic: a commit, and the blocks that are to be.
-/
namespace Go.Proofs.Ytfbmaemnbolplaa
open Go.RowKit

theorem Mx.rise_ccV {n : Nat} {us : List Pt} (h : Mx.riseB (n : Int) us = true) : Mx.ccV n us = .nilIface := by
  have key : ∀ (k : Nat) (p : Pt), us[k]? = some p → 0 ≤ p.at_ ∧ p.at_ < (n : Int) := by
    intro k
    induction k with
    | zero =>
      intro p hp
      exact Mx.riseB_at h hp
    | succ k ih =>
      intro p hp
      have h1 := Mx.riseB_at h hp
      have hk : k < us.length := by have := (List.getElem?_eq_some_iff.1 hp).1; omega
      have h2 := ih us[k] (List.getElem?_eq_getElem hk)
      have h3 : Mx.nextOf us (k + 1) = us[k].at_ + 1 := by
        show (us.getD k Mx.dP).at_ + 1 = _
        rw [List.getD_eq_getElem?_getD, List.getElem?_eq_getElem hk]
        rfl
      omega
  refine Mx.ccV_in (fun i p hi => ?_)
  have h1 := key i p hi
  unfold Mx.inside
  simp
  omega
theorem Mx.cdead_may {n q : Nat} {ls bl : List B8} {a b : Int} {ls' : List B8} {ps' : List Pt} (hn : n ≤ 32) (hq : q ≤ 1) (h : Mx.CDead n q ls bl a b ls' ps') : Mx.dmay (Mx.sz n) ps' = 0 ∧ ps'.length ≤ 700 := by
  rcases h with ⟨_, ⟨m, hm, rfl⟩ | rfl⟩ | ⟨_, rfl | rfl⟩
  · exact ⟨Mx.dmay_fill hn hq hm, by rw [Mx.fillP_len]; omega⟩
  · exact ⟨Mx.dmay_new hn hq, by rw [Mx.newP_len]; omega⟩
  · exact ⟨Mx.dmay_sz hn, by simp⟩
  · exact ⟨Mx.dmay_mark hn, by simp⟩
/-- rows below a bound are kept -/
theorem BL.keep {w w1 w' : World} {a : Option Addr} {m y : Nat} {l : List B8} (h1 : BL w1 a m l) (h : BL w a m l) (hg : w.grownBy w' (some y)) (hy : w1.heap.size ≤ y) : BL w' a m l :=
  h.grow1 hg (fun hm p hp => by
    obtain ⟨b, off, e, hb, _⟩ := h1.2.2.2 hm
    rw [hp] at e
    cases e
    show b ≠ y
    omega)
theorem PL.keep {w w1 w' : World} {a : Option Addr} {m y : Nat} {l : List Pt} (h1 : PL w1 a m l) (h : PL w a m l) (hg : w.grownBy w' (some y)) (hy : w1.heap.size ≤ y) : PL w' a m l :=
  h.grow1 hg (fun hm p hp => by
    obtain ⟨b, off, e, hb, _⟩ := h1.2.2.2 hm
    rw [hp] at e
    cases e
    show b ≠ y
    omega)

set_option maxHeartbeats 16000000 in
set_option maxRecDepth 100000 in
theorem ta5 {w : World} {dbk n at_ i : Nat} {ra ta ba : Option Addr} {rn rc tn tc bc : Nat} {num : Int} {Kn Kr K0 : Act → World → Prop} {raws : List Int} (hr : Ints w ra rn raws) (hri : I64 raws) (hrc : rn ≤ rc) (hrn : rn ≤ 128) (hat : at_ ≤ 99) (hi : i ≤ 30) {x : World} {bl : List B8} {g h : Nat} {ls : List B8} {left : Int} {sa : Option Addr} {sc : Nat} {pa : Option Addr} {pc : Nat} (hs : StW x g n h ls [] left sa sc pa 0 pc) (hl : left ≠ 0) (hd : Mx.Hd n h ls bl num num) (hw : AW w x dbk n ba bl) (hgl : w.heap.size ≤ g) {u4 u5 u6 u7 u8 u10 u14 u16 u17 u18 u19 u20 u21 u22 u23 u24 u25 u26 u27 u28 u29 u30 u31 u32 u33 u34 u35 u36 u37 u38 u39 u40 u41 u42 u43 u44 u45 u46 u47 u48 u49 u50 u51 u52 u53 u54 u55 u56 u57 u58 u59 u60 u61 u62 u63 u64 u65 u66 u67 u68 u69 u70 u71 u72 u73 u74 u75 u76 u77 u78 u79 u80 u81 u82 u83 u84 u85 u86 u87 u88 u89 u90 u91 u92 u93 u94 u95 u96 u97 u98 u99 u100 u101 u102 u103 u104 u105 u106 u107 u108 u109 u110 u111 u112 u113 u114 u115 u116 u117 u118 u119 u120 u121 u122 u123 u124 u125 u126 u127 u128 u129 u130 u131 u132 u133 u134 u135 u136 u137 u138 u139 u140 u141 u142 u143 u144 u145 u146 u147 u148 u149 u150 u151 u152 u153 u154 u155 u156 u157 u158 u159 u160 u161 u162 u163 u164 u165 u166 u167 u168 u169 u170 u171 u172 u173 u174 u175 u176 u177 u178 : Value} (hQ : ∀ (ba' : Option Addr) (bc' : Nat) (bl' : List B8) (num' : Int) (h' : Nat) (ls' : List B8) (sa' : Option Addr) (sc' : Nat) (pa' : Option Addr) (pc' : Nat) (left' : Int) (x' : World) (v14 v15 v16 v17 v18 v19 v20 v21 v22 v23 v24 v47 v48 v49 v50 v51 v52 v53 v54 v55 v56 v57 v58 v59 v60 v61 v62 v63 v64 v65 v66 v67 v68 v69 v70 v71 v72 v73 v74 v75 v76 v77 v78 v79 v80 v81 v82 v83 v84 v85 v86 v87 v88 v89 v90 v91 v92 v93 v94 v95 v96 v97 v98 v99 v100 v101 v102 v103 v104 v105 v106 v107 v108 v109 v110 v111 v112 v113 v114 v115 v116 v117 v118 v119 v120 v121 v122 v123 v124 v125 v126 v127 v128 v129 v130 v131 v132 v133 v134 v135 v136 v137 v138 v139 v140 v141 v142 v143 v144 v145 v146 v147 v148 v149 v150 v151 v152 v153 v154 v155 v156 v157 v158 v159 v160 v161 v162 v163 v164 v165 v166 v167 v168 v169 v170 v171 v172 v173 v174 v175 v176 v177 v178 : Value), AV w x' dbk n ba' bl' num' h' ls' sa' sc' pa' pc' left' → Kn ⟨#[.slice ra rn rc, .int .i64 (n : Int), .int .i64 (at_ : Int), .slice ta tn tc, u4, u5, u6, u7, u8, .pointer (some ⟨dbk, 0, none⟩), u10, .slice ba' n bc', .int .i64 num', .int .i64 (i : Int), v14, v15, v16, v17, v18, v19, v20, v21, v22, v23, v24, u25, u26, u27, u28, u29, u30, u31, u32, u33, u34, u35, u36, u37, u38, u39, u40, u41, u42, u43, u44, u45, u46, v47, v48, v49, v50, v51, v52, v53, v54, v55, v56, v57, v58, v59, v60, v61, v62, v63, v64, v65, v66, v67, v68, v69, v70, v71, v72, v73, v74, v75, v76, v77, v78, v79, v80, v81, v82, v83, v84, v85, v86, v87, v88, v89, v90, v91, v92, v93, v94, v95, v96, v97, v98, v99, v100, v101, v102, v103, v104, v105, v106, v107, v108, v109, v110, v111, v112, v113, v114, v115, v116, v117, v118, v119, v120, v121, v122, v123, v124, v125, v126, v127, v128, v129, v130, v131, v132, v133, v134, v135, v136, v137, v138, v139, v140, v141, v142, v143, v144, v145, v146, v147, v148, v149, v150, v151, v152, v153, v154, v155, v156, v157, v158, v159, v160, v161, v162, v163, v164, v165, v166, v167, v168, v169, v170, v171, v172, v173, v174, v175, v176, v177, v178], []⟩ x') :
    TailQ (bodyG (fstG (itsG 8 (Try.f4.body.getD .skip)))) (Exit.inBlock 1 (Exit.then Kn (Exit.then Kr (Exit.inBlock 0 (Exit.then K0 (bodyPost Try.prog Try.f4 (fun e w' => e = .returned (.bool true) ∧ Below w.heap.size w w'))))))) 5 ⟨#[.slice ra rn rc, .int .i64 (n : Int), .int .i64 (at_ : Int), .slice ta tn tc, u4, u5, u6, u7, u8, .pointer (some ⟨dbk, 0, none⟩), u10, .slice ba n bc, .int .i64 num, .int .i64 (i : Int), u14, .pointer (some ⟨g, 0, none⟩), u16, u17, u18, u19, u20, u21, u22, u23, u24, u25, u26, u27, u28, u29, u30, u31, u32, u33, u34, u35, u36, u37, u38, u39, u40, u41, u42, u43, u44, u45, u46, u47, u48, u49, u50, u51, u52, u53, u54, u55, u56, u57, u58, u59, u60, u61, u62, u63, u64, u65, u66, u67, u68, u69, u70, u71, u72, u73, u74, u75, u76, u77, u78, u79, u80, u81, u82, u83, u84, u85, u86, u87, u88, u89, u90, u91, u92, u93, u94, u95, u96, u97, u98, u99, u100, u101, u102, u103, u104, u105, u106, u107, u108, u109, u110, u111, u112, u113, u114, u115, u116, u117, u118, u119, u120, u121, u122, u123, u124, u125, u126, u127, u128, u129, u130, u131, u132, u133, u134, u135, u136, u137, u138, u139, u140, u141, u142, u143, u144, u145, u146, u147, u148, u149, u150, u151, u152, u153, u154, u155, u156, u157, u158, u159, u160, u161, u162, u163, u164, u165, u166, u167, u168, u169, u170, u171, u172, u173, u174, u175, u176, u177, u178], []⟩ x := by
  have HS := hide hs
  have HW := hide hw
  have HD := hide hd
  have HL := hide hl
  have hgl := hide hgl
  have HR := hide hr
  have HRI := hide hri
  have HQ := hide hQ
  have hn1 := hd.n1
  have hn2 := hd.n2
  clear hs hw hd hl hr hri hQ
  have hai : IntKind.i64.wrap ((at_ : Int) + (i : Int)) = ((at_ + i : Nat) : Int) := by rw [IntWalk.i64_left, IntWalk.wrap64_in _ (by omega)]; omega
  refine tailQ_step rfl ?_
  intro K hK
  go_wp2_with fail
  refine (putsFrom_any ra rn rc raws (at_ + i) n x (HR.out.later HW.out.bel) HRI.out (by omega) (by omega) (by omega)).mono ?_
  rintro e w1 ⟨v, us, rfl, hus, O1, D1⟩
  obtain ⟨ua, uc, hv, hPL, hub⟩ := O1.out.pl
  obtain ⟨un, hun⟩ : ∃ un : Nat, Hid (un = us.length) := ⟨_, rfl⟩
  rw [← hun.out] at hv hPL
  subst hv
  have U1 := hide hPL
  have HUB := hide hub
  have hunn : un ≤ n := by rw [hun.out]; exact hus.out.1
  have S1 := hide (HS.out.later D1.out)
  have W1 := hide (HW.out.later D1.out)
  clear hPL hub hai O1
  go_wp2_with fail
  refine Met.intro (tailQ_step rfl ?_)
  try clear hK
  try clear K
  intro K hK
  go_wp2_with fail
  refine (ownBlocks_any ba n bc bl w1 W1.out.bb (by omega)).mono ?_
  rintro e w2 ⟨v, rfl, hO2, E2⟩
  obtain ⟨na', nc, hv, _, _⟩ := hO2.bl
  rw [HD.out.bln] at hv
  subst hv
  obtain ⟨na, rfl, hna, hnw, _, _⟩ := hO2.form (by omega)
  have O2 := hide hO2
  clear hO2
  have S2 := hide (S1.out.later E2)
  have W2 := hide (W1.out.later E2)
  have U2 := hide (U1.out.later E2)
  have hng := hide (show ¬ na = g by have h9 := Bx.lt S1.out.bx; omega)
  have hnd := hide (show ¬ na = dbk by have h9 := W1.out.bx; obtain ⟨_, _, _, h8⟩ := h9; have h7 := h8.lt; omega)
  have hwn := hide (show w.heap.size ≤ na from Nat.le_trans W1.out.bel.size hna)
  clear E2
  have HX := hide (Mx.rise_ccV hus.out.2)
  go_wp2_with fail
  refine Met.intro (tailQ_step rfl ?_)
  try clear hK
  try clear K
  intro K hK
  go_wp2_with fail
  go_loopw [21] (fun s21 wi => ∃ k : Nat, k ≤ un ∧ s21 = .int .i64 (k : Int) ∧ Hid (OwnBL wi w1.heap.size (.slice (some ⟨na, 0, none⟩) n nc) (Mx.flushed bl (us.take k))) ∧ Hid (w2.grownBy wi (some na))) (fun s21 _ => un - (intOf s21).toNat)
  case atStart => exact ⟨0, by omega, rfl, by rw [List.take_zero]; exact O2, grow_refl _ _⟩
  case round =>
    obtain ⟨k, hk, rfl, hO, hG⟩ := hrel
    have U3 := hide (U1.out.keep U2.out hG.out hna)
    by_cases hku : k < un
    · have hki : (k : Int) < un := by omega
      obtain ⟨bb, off, p, hba, hbw, hp, c0, c1, c2, c3, c4, c5, c6, c7, c8⟩ := U3.out.at_ k hku
      have n3 : ¬ na = bb := by have h8 := U1.out.at_ k hku; obtain ⟨b9, o9, p9, hb9, hl9, _⟩ := h8; rw [hba] at hb9; cases hb9; omega
      subst hba
      have HP := hide hp
      clear hp
      obtain ⟨j, hj⟩ : ∃ j : Nat, Hid (p.at_ = (j : Int)) := ⟨p.at_.toNat, by have h9 := Mx.ccV_nil HX.out k p HP.out; unfold Hid; omega⟩
      have hjn : j < n := by have h9 := Mx.ccV_nil HX.out k p HP.out; have h8 := hj.out; omega
      have hjn' : (j : Int) < n := by omega
      have hj0 : (0 : Int) ≤ (j : Int) := by omega
      rw [hj.out] at c0
      obtain ⟨yy, _, y0, y1, y2, y3, y4, y5, y6, y7⟩ := hO.out.at_ j hjn
      obtain ⟨hgl, hgb, yz⟩ := hO.out.fz
      have O5 := hide (show OwnBL (set8 wr na (j * 8) p.d).drew w1.heap.size (.slice (some ⟨na, 0, none⟩) n nc) (Mx.flushed bl (us.take (k + 1))) by
        have h9 := OwnBL.put hO.out j (by rw [Mx.flushed_len, HD.out.bln]; exact hjn) p.d
        rw [Mx.flushed_snoc _ _ _ _ HP.out, hj.out, Int.toNat_natCast]
        exact World.ownsRow.drew h9)
      have G5 := hide (grown8s hG.out (j * 8) p.d)
      unfold set8 at O5 G5
      go_wp2_with fail
      go_region_held (fun w' => w'.cell? ⟨bb, off + k * 9, none⟩ = some (.int .i64 (j : Int)) ∧ w'.cell? ⟨bb, off + k * 9 + 1, none⟩ = some (.int .u8 p.d.z0) ∧ w'.cell? ⟨bb, off + k * 9 + 2, none⟩ = some (.int .u8 p.d.z1) ∧ w'.cell? ⟨bb, off + k * 9 + 3, none⟩ = some (.int .u8 p.d.z2) ∧ w'.cell? ⟨bb, off + k * 9 + 4, none⟩ = some (.int .u8 p.d.z3) ∧ w'.cell? ⟨bb, off + k * 9 + 5, none⟩ = some (.int .u8 p.d.z4) ∧ w'.cell? ⟨bb, off + k * 9 + 6, none⟩ = some (.int .u8 p.d.z5) ∧ w'.cell? ⟨bb, off + k * 9 + 7, none⟩ = some (.int .u8 p.d.z6) ∧ w'.cell? ⟨bb, off + k * 9 + 8, none⟩ = some (.int .u8 p.d.z7))
        (simp [*, World.cell?_setCell_far]) (fail)
      go_wp2_with fail
      exact ⟨⟨k + 1, by omega, by go_num, O5, G5⟩, by simp [intOf]; omega⟩
    · obtain rfl : un = k := by omega
      have HT9 := hide (show us.take un = us from List.take_of_length_le (by rw [hun.out]; exact Nat.le_refl _))
      rw [HT9.out] at hO
      obtain ⟨v3, hv3⟩ : ∃ v3 : World, Hid (v3 = wr) := ⟨_, rfl⟩
      rw [← hv3.out] at hO hG U3 ⊢
      have B3 := hide (show BL v3 (some ⟨na, 0, none⟩) n (Mx.flushed bl us) from hO.out.asRow)
      have S3 := hide (show StW v3 g n h ls [] left sa sc pa 0 pc from S2.out.grow hG.out hng.out (fun p hp => by
        obtain ⟨b, off, e, hb, _⟩ := S1.out.bl.2.2.2 (by unfold Mx.sz; omega)
        rw [hp] at e
        cases e
        show b ≠ na
        omega))
      have W3 := hide (show AW w v3 dbk n ba bl from
        { bx := by obtain ⟨s0, s1, s2, h9⟩ := W2.out.bx; exact ⟨s0, s1, s2, h9.grow hG.out (fun e => hnd.out (Option.some.inj e).symm)⟩,
          bb := W1.out.bb.keep W2.out.bb hG.out hna, dl := HW.out.dl, bel := below_of_grown W2.out.bel hG.out hwn.out })
      have hwi : IntKind.i64.wrap ((i : Int) + 1) = (i : Int) + 1 := by rw [IntWalk.i64_left, IntWalk.wrap64_in _ (by omega)]
      go_wp2_with fail
      refine Met.intro (tailQ_step rfl ?_)
      try clear hK
      try clear K
      intro K hK
      go_wp2_with fail
      refine (scommit_run g n h ls left sa sc pa pc v3 S3.out ua un uc us U3.out ((i : Int) + 1) ((i : Int) + 1) hunn (by omega) (by omega) (by omega) (by omega) HX.out HL.out).mono ?_
      have hVW := hide HD.out.view
      have hdg := hide (show dbk ≠ g by
        intro e
        obtain ⟨s0, s1, s2, h9⟩ := W3.out.bx
        have h8 := S3.out.bx
        subst e
        have h7 := h9.symm.trans h8
        simp at h7)
      have hAW := hide (show ∀ w4 : World, v3.grownBy w4 (some g) → AW w w4 dbk n ba bl ∧ BL w4 (some ⟨na, 0, none⟩) n (Mx.flushed bl us) from fun w4 hG4 =>
        ⟨{ bx := by obtain ⟨s0, s1, s2, h9⟩ := W3.out.bx; exact ⟨s0, s1, s2, h9.grow hG4 (fun e => hdg.out (Option.some.inj e))⟩,
           bb := W3.out.bb.grow1 hG4 (fun hm => bx_apart S3.out.bx (by simp) W3.out.bb hm), dl := HW.out.dl, bel := below_of_grown W3.out.bel hG4 hgl.out },
         B3.out.grow1 hG4 (fun _ p hp => by cases hp; exact hng.out)⟩)
      have hq1 := hide (show 1 - h ≤ 1 by omega)
      have hbln := hide (show (Mx.flushed bl us).length = n by rw [Mx.flushed_len, HD.out.bln])
      rintro e w4 (⟨rfl, hC⟩ | ⟨rfl, hC⟩)
      · obtain ⟨a1, c1, a2, pn, c2, hS4, hG4, hL4⟩ := hC
        rw [hVW.out] at hS4
        have hH4 := Mx.hold_commit HD.out (rfl : 1 - h = 1 - h) hbln.out (a := (i : Int) + 1) (b := (i : Int) + 1) (by omega) (by omega) (by omega) (by omega)
        have S4 := hide hS4
        have H4 := hide hH4
        have A4 := hide (hAW.out w4 hG4)
        clear hS4 hG4 hL4 hH4
        go_wp2_with fail
        refine Met.intro (tailQ_step rfl ?_)
        try clear hK
        try clear K
        intro K hK
        go_wp2_with fail
        exact Met.intro (ta10_ok HR.out HRI.out hrc hrn (by omega) (by omega) S4.out A4.out.1 A4.out.2 (by simp) (Mx.dmay_sz hn2) (fun bs => ⟨_, H4.out⟩) HQ.out)
      · obtain ⟨ls', ps', a1, c1, a2, pn, c2, hS4, hG4, hC4, hL4⟩ := hC
        rw [hVW.out] at hC4
        have hM4 := Mx.cdead_may hn2 hq1.out hC4
        have hH4 := fun bs => Mx.hold_dead HD.out (rfl : 1 - h = 1 - h) hbln.out (a := (i : Int) + 1) (b := (i : Int) + 1) (by omega) (by omega) (by omega) (by omega) hC4 bs
        have S4 := hide hS4
        have H4 := hide hH4
        have M4 := hide hM4
        have A4 := hide (hAW.out w4 hG4)
        clear hS4 hG4 hL4 hH4 hM4 hC4
        have hz : ∀ (x y : Int) (W : World), (binOp .neq 24 (.iface 35 (.int .i64 x)) (.iface 35 (.int .i64 y))).run Try.prog W = .ok (.bool (x != y)) W :=
          fun x y W => Lib.run_neq_iface_int W x y Try.underlying24 (by kernel_rfl) Try.underlying35
        go_wp2_with fail
        refine Met.intro (tailQ_step rfl ?_)
        try clear hK
        try clear K
        intro K hK
        go_wp2_with fail
        exact Met.intro (ta10_dead HR.out HRI.out hrc hrn (by omega) (by omega) S4.out A4.out.1 A4.out.2 M4.out.2 M4.out.1 (fun bs => by rcases H4.out bs with h9 | h9; exact ⟨_, .inr h9⟩; exact ⟨_, .inl h9⟩) HQ.out)


end Go.Proofs.Ytfbmaemnbolplaa

/-
  TopAtomic: a round.
-/
namespace Go.Proofs.Ytfbmaemnbolplaa
open Go.RowKit

theorem eql_nil_iface (y : Int) (W : World) : (binOp .eql 24 .nilIface (.iface 35 (.int .i64 y))).run Try.prog W = .ok (.bool false) W := by
  have h : ∀ d : Nat, (Op.equalIn (d + 2) 24 .nilIface (.iface 35 (.int .i64 y))).run Try.prog W = .ok false W := fun d => by
    simp [Op.equalIn, run_underlying Try.underlying24]
  simp only [binOp]
  simp [Op.equal, Op.maxDepth, h 9998]
theorem PL.zero (w : World) (a : Option Addr) : PL w a 0 [] := ⟨rfl, rfl, by unfold maxLen; omega, fun h => absurd h (by omega)⟩

set_option maxHeartbeats 16000000 in
set_option maxRecDepth 100000 in
theorem ta0 {w : World} {dbk n at_ i : Nat} {ra ta ba : Option Addr} {rn rc tn tc bc : Nat} {num : Int} {Kn Kr K0 : Act → World → Prop} {raws stl : List Int} (hr : Ints w ra rn raws) (hri : I64 raws) (hrc : rn ≤ rc) (hrn : rn ≤ 128) (hat : at_ ≤ 99) (hi : i ≤ 30) (ht : Ints w ta tn stl) (hti : I64 stl) (hit : i < tn) {x : World} {bl : List B8} {h : Nat} {ls : List B8} {left : Int} {sa : Option Addr} {sc : Nat} {pa : Option Addr} {pc : Nat} (hv : AV w x dbk n ba bl num h ls sa sc pa pc left) {u4 u5 u6 u7 u8 u10 u14 u15 u16 u17 u18 u19 u20 u21 u22 u23 u24 u25 u26 u27 u28 u29 u30 u31 u32 u33 u34 u35 u36 u37 u38 u39 u40 u41 u42 u43 u44 u45 u46 u47 u48 u49 u50 u51 u52 u53 u54 u55 u56 u57 u58 u59 u60 u61 u62 u63 u64 u65 u66 u67 u68 u69 u70 u71 u72 u73 u74 u75 u76 u77 u78 u79 u80 u81 u82 u83 u84 u85 u86 u87 u88 u89 u90 u91 u92 u93 u94 u95 u96 u97 u98 u99 u100 u101 u102 u103 u104 u105 u106 u107 u108 u109 u110 u111 u112 u113 u114 u115 u116 u117 u118 u119 u120 u121 u122 u123 u124 u125 u126 u127 u128 u129 u130 u131 u132 u133 u134 u135 u136 u137 u138 u139 u140 u141 u142 u143 u144 u145 u146 u147 u148 u149 u150 u151 u152 u153 u154 u155 u156 u157 u158 u159 u160 u161 u162 u163 u164 u165 u166 u167 u168 u169 u170 u171 u172 u173 u174 u175 u176 u177 u178 : Value} (hQ : ∀ (ba' : Option Addr) (bc' : Nat) (bl' : List B8) (num' : Int) (h' : Nat) (ls' : List B8) (sa' : Option Addr) (sc' : Nat) (pa' : Option Addr) (pc' : Nat) (left' : Int) (x' : World) (v14 v15 v16 v17 v18 v19 v20 v21 v22 v23 v24 v47 v48 v49 v50 v51 v52 v53 v54 v55 v56 v57 v58 v59 v60 v61 v62 v63 v64 v65 v66 v67 v68 v69 v70 v71 v72 v73 v74 v75 v76 v77 v78 v79 v80 v81 v82 v83 v84 v85 v86 v87 v88 v89 v90 v91 v92 v93 v94 v95 v96 v97 v98 v99 v100 v101 v102 v103 v104 v105 v106 v107 v108 v109 v110 v111 v112 v113 v114 v115 v116 v117 v118 v119 v120 v121 v122 v123 v124 v125 v126 v127 v128 v129 v130 v131 v132 v133 v134 v135 v136 v137 v138 v139 v140 v141 v142 v143 v144 v145 v146 v147 v148 v149 v150 v151 v152 v153 v154 v155 v156 v157 v158 v159 v160 v161 v162 v163 v164 v165 v166 v167 v168 v169 v170 v171 v172 v173 v174 v175 v176 v177 v178 : Value), AV w x' dbk n ba' bl' num' h' ls' sa' sc' pa' pc' left' → Kn ⟨#[.slice ra rn rc, .int .i64 (n : Int), .int .i64 (at_ : Int), .slice ta tn tc, u4, u5, u6, u7, u8, .pointer (some ⟨dbk, 0, none⟩), u10, .slice ba' n bc', .int .i64 num', .int .i64 (i : Int), v14, v15, v16, v17, v18, v19, v20, v21, v22, v23, v24, u25, u26, u27, u28, u29, u30, u31, u32, u33, u34, u35, u36, u37, u38, u39, u40, u41, u42, u43, u44, u45, u46, v47, v48, v49, v50, v51, v52, v53, v54, v55, v56, v57, v58, v59, v60, v61, v62, v63, v64, v65, v66, v67, v68, v69, v70, v71, v72, v73, v74, v75, v76, v77, v78, v79, v80, v81, v82, v83, v84, v85, v86, v87, v88, v89, v90, v91, v92, v93, v94, v95, v96, v97, v98, v99, v100, v101, v102, v103, v104, v105, v106, v107, v108, v109, v110, v111, v112, v113, v114, v115, v116, v117, v118, v119, v120, v121, v122, v123, v124, v125, v126, v127, v128, v129, v130, v131, v132, v133, v134, v135, v136, v137, v138, v139, v140, v141, v142, v143, v144, v145, v146, v147, v148, v149, v150, v151, v152, v153, v154, v155, v156, v157, v158, v159, v160, v161, v162, v163, v164, v165, v166, v167, v168, v169, v170, v171, v172, v173, v174, v175, v176, v177, v178], []⟩ x') :
    TailQ (bodyG (fstG (itsG 8 (Try.f4.body.getD .skip)))) (Exit.inBlock 1 (Exit.then Kn (Exit.then Kr (Exit.inBlock 0 (Exit.then K0 (bodyPost Try.prog Try.f4 (fun e w' => e = .returned (.bool true) ∧ Below w.heap.size w w'))))))) 0 ⟨#[.slice ra rn rc, .int .i64 (n : Int), .int .i64 (at_ : Int), .slice ta tn tc, u4, u5, u6, u7, u8, .pointer (some ⟨dbk, 0, none⟩), u10, .slice ba n bc, .int .i64 num, .int .i64 (i : Int), u14, u15, u16, u17, u18, u19, u20, u21, u22, u23, u24, u25, u26, u27, u28, u29, u30, u31, u32, u33, u34, u35, u36, u37, u38, u39, u40, u41, u42, u43, u44, u45, u46, u47, u48, u49, u50, u51, u52, u53, u54, u55, u56, u57, u58, u59, u60, u61, u62, u63, u64, u65, u66, u67, u68, u69, u70, u71, u72, u73, u74, u75, u76, u77, u78, u79, u80, u81, u82, u83, u84, u85, u86, u87, u88, u89, u90, u91, u92, u93, u94, u95, u96, u97, u98, u99, u100, u101, u102, u103, u104, u105, u106, u107, u108, u109, u110, u111, u112, u113, u114, u115, u116, u117, u118, u119, u120, u121, u122, u123, u124, u125, u126, u127, u128, u129, u130, u131, u132, u133, u134, u135, u136, u137, u138, u139, u140, u141, u142, u143, u144, u145, u146, u147, u148, u149, u150, u151, u152, u153, u154, u155, u156, u157, u158, u159, u160, u161, u162, u163, u164, u165, u166, u167, u168, u169, u170, u171, u172, u173, u174, u175, u176, u177, u178], []⟩ x := by
  have HV := hide hv
  have HR := hide hr
  have HRI := hide hri
  have HT := hide ht
  have HTI := hide hti
  have HQ := hide hQ
  have hn1 := hv.hd.n1
  have hn2 := hv.hd.n2
  have hiti : (i : Int) < tn := by omega
  clear hv hr hri ht hti hQ
  obtain ⟨tb, toff, sv, hta, htb, hsv', htc⟩ := (HT.out.later HV.out.bel).at_ i hit
  subst hta
  have hsv := hide hsv'.symm
  clear hsv'
  have HSV := hide (show -9223372036854775808 ≤ sv ∧ sv ≤ 9223372036854775807 by
    rw [hsv.out, List.getD_eq_getElem?_getD, List.getElem?_eq_getElem (by rw [HT.out.1]; exact hit)]
    exact HTI.out _ (List.getElem_mem _))
  refine tailQ_step rfl ?_
  intro K hK
  go_wp2_with fail
  refine (pickv_any sv 120 x HSV.out.1 HSV.out.2 (by omega) (by omega)).mono ?_
  rintro e wz ⟨rfl, hz⟩
  obtain rfl := hz.symm
  clear hz htc
  obtain ⟨L, hL⟩ : ∃ L : Int, Hid (L = Mx.pick sv 120) := ⟨_, rfl⟩
  have hL0 : 0 ≤ L := by rw [hL.out]; exact (Mx.pick_pos sv 120 (by omega)).1
  have hL1 : L < 120 := by rw [hL.out]; exact (Mx.pick_pos sv 120 (by omega)).2
  rw [← hL.out]
  go_wp2_with fail
  refine Met.intro (tailQ_step rfl ?_)
  try clear hK
  try clear K
  intro K hK
  obtain ⟨x0, x1, x2⟩ := HV.out.bx.three
  have xz := HV.out.bx.frozen
  obtain ⟨W1, hW1⟩ : ∃ W1 : World, Hid (W1 = x.setCell ⟨dbk, 2, none⟩ (.int .i64 L)) := ⟨_, rfl⟩
  have X1 := hide (show Bx W1 dbk #[.slice sa (Mx.sz n) sc, .slice pa 0 pc, .int .i64 L] 29 by rw [hW1.out]; exact HV.out.bx.set 2 _)
  have B1 := hide (show BL W1 sa (Mx.sz n) ls by rw [hW1.out]; exact HV.out.bls.setAt HV.out.bx (by simp) _)
  have V1 := hide (show AW w W1 dbk n ba bl from { bx := ⟨_, _, _, X1.out⟩, bb := by rw [hW1.out]; exact HV.out.bb.setAt HV.out.bx (by simp) _, dl := HV.out.dl, bel := by rw [hW1.out]; exact HV.out.bel.setCell (p := ⟨dbk, 2, none⟩) HV.out.dl _ })
  go_wp2_with fail
  rw [← hW1.out]
  clear x0 x1 x2 xz
  refine Met.intro (tailQ_step rfl ?_)
  try clear hK
  try clear K
  intro K hK
  obtain ⟨x0, x1, x2⟩ := X1.out.three
  by_cases hLz : L = 0
  · have HLz := hide hLz
    clear hLz
    go_wp2_with fail
    refine (open_dead sa pa (Mx.sz n) sc 0 pc L n ls [] W1 B1.out (PL.zero W1 pa) hn1 hn2 rfl (Mx.dmay_sz hn2) rfl HLz.out).mono ?_
    rintro e w2 ⟨rfl, E2⟩
    have X2 := hide (X1.out.later E2 X1.out.lt)
    have B2 := hide (B1.out.later E2)
    have V2 := hide (V1.out.later E2)
    clear E2 x0 x1 x2
    have hz : ∀ (x y : Int) (W : World), (binOp .eql 24 (.iface 35 (.int .i64 x)) (.iface 35 (.int .i64 y))).run Try.prog W = .ok (.bool (x == y)) W :=
      fun x y W => Lib.run_eql_iface_int W x y Try.underlying24 (by kernel_rfl) Try.underlying35
    go_wp2_with fail
    refine Met.intro (tailQ_step rfl ?_)
    try clear hK
    try clear K
    intro K hK
    obtain ⟨x0, x1, x2⟩ := X2.out.three
    go_wp2_with fail
    refine (crash_any sa pa ra (Mx.sz n) sc 0 pc rn rc L ls [] raws w2 B2.out (PL.zero w2 pa) (HR.out.later V2.out.bel) HRI.out (Mx.dmay_sz hn2)).mono ?_
    rintro e w4 ⟨a5, c5, rfl, B4, D4⟩
    rw [Mx.crash_nil] at B4
    obtain ⟨W5, hW5⟩ : ∃ W5 : World, Hid (W5 = w4.alloc (.cells #[.slice a5 (Mx.sz n) c5, .slice none 0 0, .int .i64 (-1)] 29)) := ⟨_, rfl⟩
    have F5 := hide (show Below w2.heap.size w2 W5 by rw [hW5.out]; exact D4.out.alloc D4.out.size _)
    have Y5 := hide (show Bx W5 w4.heap.size #[.slice a5 (Mx.sz n) c5, .slice none 0 0, .int .i64 (-1)] 29 by rw [hW5.out]; exact Bx.new w4 _ _)
    have B5 := hide (show BL W5 a5 (Mx.sz n) ls by rw [hW5.out]; exact B4.out.later (below_alloc _ _))
    have V5 := hide (V2.out.later F5.out)
    have X5 := hide (X2.out.later F5.out X2.out.lt)
    clear x0 x1 x2
    go_upto_region 18 with fail
    rw [← hW5.out]
    go_upto_region 20 with fail
    obtain ⟨y0, y1, y2⟩ := Y5.out.three
    obtain ⟨x0, x1, x2⟩ := X5.out.three
    have xz := X5.out.frozen
    have hne : ¬ dbk = w4.heap.size := by have h7 := X2.out.lt; have h6 := D4.out.size; omega
    obtain ⟨W6, hW6⟩ : ∃ W6 : World, Hid (W6 = set3 W5 dbk (.slice a5 (Mx.sz n) c5) (.slice none 0 0) (.int .i64 (-1))) := ⟨_, rfl⟩
    have X6 := hide (show Bx W6 dbk #[.slice a5 (Mx.sz n) c5, .slice none 0 0, .int .i64 (-1)] 29 by rw [hW6.out]; exact X5.out.three_set _ _ _)
    have B6 := hide (show BL W6 a5 (Mx.sz n) ls by rw [hW6.out]; exact B5.out.set3At X5.out (by simp) _ _ _)
    have V6 := hide (show AW w W6 dbk n ba bl from { bx := ⟨_, _, _, X6.out⟩, bb := by rw [hW6.out]; exact V5.out.bb.set3At X5.out (by simp) _ _ _, dl := V5.out.dl, bel := by rw [hW6.out]; exact set3_below V5.out.bel V5.out.dl _ _ _ })
    unfold set3 at hW6
    go_upto_region 21 with fail
    rw [← hW6.out]
    clear x0 x1 x2 y0 y1 y2 xz
    obtain ⟨x0, x1, x2⟩ := X6.out.three
    go_wp2_with fail
    refine (open_ok a5 none (Mx.sz n) c5 0 0 (-1) n ls [] W6 B6.out (PL.nil W6) hn1 hn2 rfl (Mx.dmay_sz hn2) rfl (by omega) (by omega) (by omega) _ rfl h HV.out.hd.mark HV.out.hd.mk0).mono ?_
    rintro e w7 ⟨g, a7, c7, a8, c8, rfl, hg7, S7, D7⟩
    have W7 := hide (V6.out.later D7.out)
    have hgl := hide (Nat.le_trans V6.out.bel.size hg7.out)
    clear x0 x1 x2
    go_wp2_with fail
    refine Met.intro (tailQ_step rfl ?_)
    try clear hK
    try clear K
    intro K hK
    go_wp2_with fail
    exact Met.intro (ta5 HR.out HRI.out hrc hrn hat hi S7.out (by omega) HV.out.hd W7.out hgl.out HQ.out)
  · have HLz := hide hLz
    clear hLz
    have hzn := eql_nil_iface 4
    go_wp2_with fail
    refine (open_ok sa pa (Mx.sz n) sc 0 pc L n ls [] W1 B1.out (PL.zero W1 pa) hn1 hn2 rfl (Mx.dmay_sz hn2) rfl HLz.out (by omega) (by omega) _ rfl h HV.out.hd.mark HV.out.hd.mk0).mono ?_
    rintro e w7 ⟨g, a7, c7, a8, c8, rfl, hg7, S7, D7⟩
    have W7 := hide (V1.out.later D7.out)
    have hgl := hide (Nat.le_trans V1.out.bel.size hg7.out)
    clear x0 x1 x2
    go_wp2_with fail
    refine Met.intro (tailQ_step rfl ?_)
    try clear hK
    try clear K
    intro K hK
    go_wp2_with fail
    refine Met.intro (tailQ_step rfl ?_)
    try clear hK
    try clear K
    intro K hK
    go_wp2_with fail
    exact Met.intro (ta5 HR.out HRI.out hrc hrn hat hi S7.out HLz.out HV.out.hd W7.out hgl.out HQ.out)


end Go.Proofs.Ytfbmaemnbolplaa

/-
  TopAtomic: the law.
-/
namespace Go.Proofs.Ytfbmaemnbolplaa
open Go.RowKit

set_option maxHeartbeats 16000000 in
set_option maxRecDepth 100000 in
theorem tatomic_long (ra ta : Option Addr) (rn rc tn tc : Nat) (nn aa : Int) (w : World) (hl : 128 < rn ∨ 30 < tn) :
    Calls Try.prog 4 #[.slice ra rn rc, .int .i64 nn, .int .i64 aa, .slice ta tn tc] w (fun e w' => e = .returned (.bool true) ∧ Below w.heap.size w w') := by
  by_cases h1 : 128 < rn
  · have d1 : decide ((128 : Int) < rn) = true := by simp; omega
    have d1n : decide (128 < rn) = true := by simpa using h1
    clear hl h1
    go_enter Try.func4, Try.ntmps4
    change TailG Try.f4 _ 0 _ w
    refine tailG_step rfl ?_
    intro K hK
    go_wp2_with fail
    refine Met.intro (tailG_step rfl ?_)
    try clear hK
    try clear K
    intro K hK
    go_wp2_with fail
    exact bodyPost_ret (v := .bool true) (by simp [results, Try.results4, go_sem]) rfl ⟨rfl, Below.refl _ _⟩
  · have h2 : 30 < tn := by omega
    have d1 : decide ((128 : Int) < rn) = false := by simp; omega
    have d1n : decide (128 < rn) = false := by simpa using h1
    have d2 : decide ((30 : Int) < tn) = true := by simp; omega
    have d2n : decide (30 < tn) = true := by simpa using h2
    clear hl h1 h2
    go_enter Try.func4, Try.ntmps4
    change TailG Try.f4 _ 0 _ w
    refine tailG_step rfl ?_
    intro K hK
    go_wp2_with fail
    refine Met.intro (tailG_step rfl ?_)
    try clear hK
    try clear K
    intro K hK
    go_wp2_with fail
    exact bodyPost_ret (v := .bool true) (by simp [results, Try.results4, go_sem]) rfl ⟨rfl, Below.refl _ _⟩

set_option maxHeartbeats 16000000 in
set_option maxRecDepth 100000 in
theorem tatomic_ok (ra ta : Option Addr) (rn rc tn tc : Nat) (raws stl : List Int) (nn aa : Int) (w : World) (hr : Ints w ra rn raws) (hri : I64 raws) (hrc : rn ≤ rc) (hrn : rn ≤ 128) (ht : Ints w ta tn stl) (hti : I64 stl) (htn : tn ≤ 30) (h1 : I64x nn) (h2 : I64x aa) :
    Calls Try.prog 4 #[.slice ra rn rc, .int .i64 nn, .int .i64 aa, .slice ta tn tc] w (fun e w' => e = .returned (.bool true) ∧ Below w.heap.size w w') := by
  have d1 : decide ((128 : Int) < rn) = false := by simp; omega
  have d1n : decide (128 < rn) = false := by simp; omega
  have d2 : decide ((30 : Int) < tn) = false := by simp; omega
  have d2n : decide (30 < tn) = false := by simp; omega
  have HR := hide hr
  have HRI := hide hri
  have HT := hide ht
  have HTI := hide hti
  have H1 := hide h1
  have H2 := hide h2
  clear hr hri ht hti h1 h2
  obtain ⟨n, hn1, hn2, hN⟩ : ∃ n : Nat, 1 ≤ n ∧ n ≤ 32 ∧ Hid (1 + Mx.pick nn 32 = (n : Int)) := ⟨(1 + Mx.pick nn 32).toNat, by have := Mx.pick_pos nn 32 (by omega); omega, by have := Mx.pick_pos nn 32 (by omega); omega, by unfold Hid; have := Mx.pick_pos nn 32 (by omega); omega⟩
  obtain ⟨P, hP0, hP1, hP⟩ : ∃ P : Int, 0 ≤ P ∧ P < 32 ∧ Hid (P = Mx.pick nn 32) := ⟨_, (Mx.pick_pos nn 32 (by omega)).1, (Mx.pick_pos nn 32 (by omega)).2, rfl⟩
  have hPn : 1 + P = (n : Int) := by rw [hP.out]; exact hN.out
  obtain ⟨at_, hat, hA⟩ : ∃ at_ : Nat, at_ ≤ 99 ∧ Hid (Mx.pick aa 100 = (at_ : Int)) := ⟨(Mx.pick aa 100).toNat, by have := Mx.pick_pos aa 100 (by omega); omega, by unfold Hid; have := Mx.pick_pos aa 100 (by omega); omega⟩
  have hPw : IntKind.i64.wrap (1 + P) = (n : Int) := by rw [← hPn, IntWalk.i64_left, IntWalk.wrap64_in _ (by omega)]
  have HPn := hide hPn
  clear hPn
  go_enter Try.func4, Try.ntmps4
  change TailG Try.f4 _ 0 _ w
  refine tailG_step rfl ?_
  intro K hK
  go_wp2_with fail
  refine Met.intro (tailG_step rfl ?_)
  try clear hK
  try clear K
  intro K hK
  go_wp2_with fail
  refine Met.intro (tailG_step rfl ?_)
  try clear hK
  try clear K
  intro K hK
  go_wp2_with fail
  refine (pickv_any nn 32 w H1.out.1 H1.out.2 (by omega) (by omega)).mono ?_
  rintro e wz ⟨rfl, hz⟩
  obtain rfl := hz.symm
  clear hz
  rw [← hP.out]
  go_wp2_with fail
  refine Met.intro (tailG_step rfl ?_)
  try clear hK
  try clear K
  intro K hK
  go_wp2_with fail
  refine (pickv_any aa 100 w H2.out.1 H2.out.2 (by omega) (by omega)).mono ?_
  rintro e wz ⟨rfl, hz⟩
  obtain rfl := hz.symm
  clear hz
  rw [hA.out]
  go_wp2_with fail

  refine Met.intro (tailG_step rfl ?_)
  try clear hK
  try clear K
  intro K hK
  go_wp2_with fail
  refine (format_ok n w hn1 hn2).mono ?_
  rintro e w1 ⟨a1, c1, rfl, hb1, D1⟩
  obtain ⟨W2, hW2⟩ : ∃ W2 : World, Hid (W2 = w1.alloc (.cells #[.slice a1 (Mx.sz n) c1, .slice none 0 0, .int .i64 (-1)] 29)) := ⟨_, rfl⟩
  have X2 := hide (show Bx W2 w1.heap.size #[.slice a1 (Mx.sz n) c1, .slice none 0 0, .int .i64 (-1)] 29 by rw [hW2.out]; exact Bx.new w1 _ _)
  have E2 := hide (show Below w1.heap.size w1 W2 by rw [hW2.out]; exact below_alloc _ _)
  have D2 := hide (show Below w.heap.size w W2 from D1.out.trans (E2.out.mono D1.out.size))
  have B2 := hide (hb1.out.later E2.out)
  clear hb1
  go_wp2_with fail
  rw [← hW2.out]
  refine Met.intro (tailG_step rfl ?_)
  try clear hK
  try clear K
  intro K hK
  go_wp2_with fail
  refine Met.intro (tailG_step rfl ?_)
  try clear hK
  try clear K
  intro K hK
  obtain ⟨C, hC, HC⟩ := make_blocks n (by omega)
  obtain ⟨W8, hW8⟩ : ∃ W8 : World, Hid (W8 = W2.alloc (.cells C 38)) := ⟨_, rfl⟩
  have F8 := hide (show Below W2.heap.size W2 W8 by rw [hW8.out]; exact below_alloc _ _)
  have V8 := hide (show AV w W8 w1.heap.size n (some ⟨W2.heap.size, 0, none⟩) (List.replicate n zB) 0 0 (List.replicate (Mx.sz n) zB) a1 c1 none 0 (-1) from
    { bx := X2.out.later F8.out X2.out.lt, bls := B2.out.later F8.out, hd := Mx.Hd.zero hn1 hn2, bb := by rw [hW8.out]; exact (HC.out W2 0 (by omega)).asRow, dl := D1.out.size, bel := D2.out.trans (F8.out.mono D2.out.size) })
  go_wp2_with fail
  rw [← hW8.out]
  clear hC HC
  refine Met.intro (tailG_step rfl ?_)
  try clear hK
  try clear K
  intro K hK
  go_wp2_with fail
  refine Met.intro (tailG_step rfl ?_)
  try clear hK
  try clear K
  intro K hK
  go_wp2_with fail
  go_loopw [11, 12, 13] (fun s11 s12 s13 wr => ∃ (i : Nat) (ba : Option Addr) (bc : Nat) (bl : List B8) (num : Int) (h : Nat) (ls : List B8) (sa : Option Addr) (sc : Nat) (pa : Option Addr) (pc : Nat) (left : Int), s13 = .int .i64 (i : Int) ∧ i ≤ tn ∧ s11 = .slice ba n bc ∧ s12 = .int .i64 num ∧ Hid (AV w wr w1.heap.size n ba bl num h ls sa sc pa pc left)) (fun _ _ s13 _ => tn - (intOf s13).toNat)
  case atStart => exact ⟨0, some ⟨W2.heap.size, 0, none⟩, n, List.replicate n zB, 0, 0, List.replicate (Mx.sz n) zB, a1, c1, none, 0, -1, rfl, by omega, rfl, rfl, V8⟩
  case round =>
    obtain ⟨i, ba, bc, bl, num, h, ls, sa, sc, pa, pc, left, rfl, hi, rfl, rfl, HV⟩ := hrel
    obtain ⟨v, hv⟩ : ∃ v : World, Hid (v = wr) := ⟨_, rfl⟩
    rw [← hv.out] at HV ⊢
    by_cases hit : i < tn
    · have hiti : (i : Int) < tn := by omega
      refine seq_step ?_
      intro K1 hK1
      go_wp2_with fail
      refine Met.intro (seq_step ?_)
      intro K2 hK2
      refine wp_block ?_
      refine (show TailQ (bodyG (fstG (itsG 8 (Try.f4.body.getD .skip)))) _ 0 _ v from ta0 HR.out HRI.out hrc hrn hat (by omega) HT.out HTI.out hit HV.out ?_)
      intro ba' bc' bl' num' h' ls' sa' sc' pa' pc' left' x' v14 v15 v16 v17 v18 v19 v20 v21 v22 v23 v24 v47 v48 v49 v50 v51 v52 v53 v54 v55 v56 v57 v58 v59 v60 v61 v62 v63 v64 v65 v66 v67 v68 v69 v70 v71 v72 v73 v74 v75 v76 v77 v78 v79 v80 v81 v82 v83 v84 v85 v86 v87 v88 v89 v90 v91 v92 v93 v94 v95 v96 v97 v98 v99 v100 v101 v102 v103 v104 v105 v106 v107 v108 v109 v110 v111 v112 v113 v114 v115 v116 v117 v118 v119 v120 v121 v122 v123 v124 v125 v126 v127 v128 v129 v130 v131 v132 v133 v134 v135 v136 v137 v138 v139 v140 v141 v142 v143 v144 v145 v146 v147 v148 v149 v150 v151 v152 v153 v154 v155 v156 v157 v158 v159 v160 v161 v162 v163 v164 v165 v166 v167 v168 v169 v170 v171 v172 v173 v174 v175 v176 v177 v178 V'
      have VV := hide V'
      clear V'
      refine hK2 _ _ (Met.intro ?_)
      clear hK2
      show Code.wp _ _ _ _ _
      go_wp2_with fail
      exact ⟨⟨i + 1, ba', bc', bl', num', h', ls', sa', sc', pa', pc', left', by go_num, by omega, rfl, rfl, VV⟩, by simp [intOf]; omega⟩
    · obtain rfl : tn = i := by omega
      go_wp2_with fail
      refine Met.intro (tailG_last (c := .seq _ .ret) rfl ?_)
      try clear hK
      try clear K
      go_wp2_with fail
      exact bodyPost_ret (v := .bool true) (by simp [results, Try.results4, go_sem]) rfl ⟨rfl, HV.out.bel⟩

theorem tatomic_any (ra ta : Option Addr) (rn rc tn tc : Nat) (raws stl : List Int) (nn aa : Int) (w : World) (hr : Ints w ra rn raws) (hri : I64 raws) (hrc : rn ≤ rc) (ht : Ints w ta tn stl) (hti : I64 stl) (h1 : I64x nn) (h2 : I64x aa) :
    Calls Try.prog 4 #[.slice ra rn rc, .int .i64 nn, .int .i64 aa, .slice ta tn tc] w (fun e w' => e = .returned (.bool true) ∧ Below w.heap.size w w') := by
  by_cases hl : 128 < rn ∨ 30 < tn
  · exact tatomic_long ra ta rn rc tn tc nn aa w hl
  · exact tatomic_ok ra ta rn rc tn tc raws stl nn aa w hr hri hrc (by omega) ht hti (by omega) h1 h2


end Go.Proofs.Ytfbmaemnbolplaa
