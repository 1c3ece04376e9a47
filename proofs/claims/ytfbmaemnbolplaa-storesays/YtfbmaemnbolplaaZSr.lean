/-
  Stores: what is seen of one (sees).
-/
import Derived.Lib.IfaceNeq
import Derived.Test.YtfbmaemnbolplaaZIs
import Derived.Test.YtfbmaemnbolplaaZDbox
import Derived.Test.YtfbmaemnbolplaaZMkb
import Derived.Test.YtfbmaemnbolplaaZSc

namespace Go.Proofs.Ytfbmaemnbolplaa
open Go.RowKit

set_option maxHeartbeats 16000000 in
set_option maxRecDepth 100000 in
theorem sees_any (g n h : Nat) (ls : List B8) (left : Int) (sa : Option Addr) (sc : Nat) (pa : Option Addr) (pc : Nat) (w : World) (hs : StW w g n h ls [] left sa sc pa 0 pc) (hl : left ≠ 0) (bl : List B8) (a b : Int) (H : Mx.Hd n h ls bl a b) (ba : Option Addr) (bc : Nat) (hb : BL w ba n bl) :
    Calls Try.prog 9 #[.pointer (some ⟨g, 0, none⟩), .slice ba n bc, .int .i64 a, .int .i64 b] w fun e w' => e = .returned (.bool true) ∧ Below w.heap.size w w' := by
  have HH := hide hs
  have HB := hide hb
  have HL := hide hl
  have HV := hide H.view
  have HA := hide (Mx.snumA_nums (b := b) H.a0 H.a1)
  have HBn := hide (Mx.snumB_nums (a := a) H.b0 H.b1)
  have H8 := hide (Mx.by8_nums H.a0 H.a1 H.b0 H.b1)
  have HK := hide H
  have hn1 := H.n1
  have hn2 := H.n2
  clear hs hb hl H
  have hz : ∀ (x y : Int) (W : World), (binOp .neq 24 (.iface 35 (.int .i64 x)) (.iface 35 (.int .i64 y))).run Try.prog W = .ok (.bool (x != y)) W :=
    fun x y W => Lib.run_neq_iface_int W x y Try.underlying24 (by kernel_rfl) Try.underlying35
  go_enter Try.func9, Try.ntmps9
  change TailG Try.f9 _ 0 _ w
  refine tailG_step rfl ?_
  intro K hK
  go_wp2_with fail
  refine Met.intro (tailG_step rfl ?_)
  try clear hK
  try clear K
  intro K hK
  go_wp2_with fail
  refine (sall_ok g n h ls [] left sa sc pa 0 pc w HH.out rfl HL.out).mono ?_
  rintro e w1 ⟨p, rfl, O1, E1⟩
  have B1 := hide (show BL w1 (some ⟨p, 0, none⟩) n bl by rw [← HV.out]; exact O1.asRow)
  have D1 := hide E1
  clear O1 E1
  have H1 := hide (HH.out.later D1.out)
  go_wp2_with fail
  refine Met.intro (tailG_step rfl ?_)
  try clear hK
  try clear K
  intro K hK
  go_wp2_with fail
  refine (snums_x g n h ls [] left sa sc pa 0 pc w1 H1.out rfl HL.out (Mx.numsB a b) HK.out.nums.symm H8.out).mono ?_
  rintro e w2 ⟨rfl, E2⟩
  rw [HA.out, HBn.out]
  have D2 := hide (show Below w.heap.size w w2 from D1.out.trans (E2.mono D1.out.size))
  have B2 := hide (B1.out.later E2)
  clear E2
  have C2 := hide (HB.out.later D2.out)
  go_wp2_with fail
  refine Met.intro (tailG_step rfl ?_)
  try clear hK
  try clear K
  intro K hK
  go_wp2_with fail
  refine (sameBL_gen (some ⟨p, 0, none⟩) ba n n n bc bl bl w2 B2.out C2.out).mono ?_
  rintro e w3 ⟨r, rfl, hr, nd, rfl⟩
  obtain rfl : r = true := hr.2 rfl
  clear hr
  have D3 := hide (show Below w.heap.size w (w2.drewN nd) from (below_drewN D2.out nd))
  have hba : bne a a = false := by simp
  have hbb : bne b b = false := by simp
  obtain ⟨w3, hw3⟩ : ∃ w3 : World, Hid (w3 = w2.drewN nd) := ⟨_, rfl⟩
  rw [← hw3.out] at D3 ⊢
  go_wp2_with fail
  refine Met.intro (tailG_step rfl ?_)
  try clear hK
  try clear K
  intro K hK
  go_wp2_with fail
  go_loopw [14] (fun t wr => ∃ z : Int, t = .int .i64 z ∧ -1 ≤ z ∧ z ≤ n + 1 ∧ Hid (Below w.heap.size w wr)) (fun t _ => ((n : Int) + 1 - intOf t).toNat)
  case atStart => exact ⟨-1, rfl, by omega, by omega, D3⟩
  case round =>
    obtain ⟨z, rfl, hz1, hz2, hB⟩ := hrel
    have HR := hide (HH.out.later hB.out)
    by_cases hzn : z ≤ n
    · by_cases hz0 : z < 0
      · obtain rfl : z = -1 := by omega
        go_wp2_with fail
        refine (sget_out g n h ls [] left sa sc pa 0 pc wr HR.out (-1) (by omega)).mono ?_
        rintro e w4 ⟨rfl, E4⟩
        have D4 := hide (show Below w.heap.size w w4 from hB.out.trans (E4.mono hB.out.size))
        clear E4
        have heq := equal_block 0 0 0 0 0 0 0 0 0 0 0 0 0 0 0 0
        rw [decide_eq_true rfl] at heq
        go_wp2_with fail
        exact ⟨⟨0, by go_num, by omega, by omega, D4.out.alloc D4.out.size _⟩, by simp [intOf]; omega⟩
      · by_cases hzl : z < n
        · obtain ⟨i, rfl⟩ : ∃ i : Nat, z = (i : Int) := ⟨z.toNat, by omega⟩
          have hin : i < n := by omega
          have hd1 : decide ((i : Int) < 0) = false := by simp
          have hd2 : decide ((n : Int) ≤ (i : Int)) = false := by simp; omega
          have hd3 : decide (n ≤ i) = false := by simp; omega
          obtain ⟨x, hx⟩ : ∃ x : B8, Hid (x = ls.getD (Mx.bpl n h i) zB) := ⟨_, rfl⟩
          go_wp2_with fail
          refine (sget_ok g n h ls [] left sa sc pa 0 pc wr HR.out rfl HL.out i hin x hx.out).mono ?_
          rintro e w4 ⟨rfl, E4⟩
          have D4 := hide (show Below w.heap.size w w4 from hB.out.trans (E4.mono hB.out.size))
          clear E4
          obtain ⟨W5, hW5⟩ : ∃ W5 : World, Hid (W5 = w4.alloc (.cells #[.int .u8 x.z0, .int .u8 x.z1, .int .u8 x.z2, .int .u8 x.z3, .int .u8 x.z4, .int .u8 x.z5, .int .u8 x.z6, .int .u8 x.z7] 38)) := ⟨_, rfl⟩
          have D5 := hide (show Below w.heap.size w W5 by rw [hW5.out]; exact D4.out.alloc D4.out.size _)
          have X5 := hide (show Bx W5 w4.heap.size #[.int .u8 x.z0, .int .u8 x.z1, .int .u8 x.z2, .int .u8 x.z3, .int .u8 x.z4, .int .u8 x.z5, .int .u8 x.z6, .int .u8 x.z7] 38 by rw [hW5.out]; exact Bx.new w4 _ _)
          go_upto_region 9 with fail
          rw [← hW5.out]
          obtain ⟨bb, off, y, hba', hbw, hy, e0, e1, e2, e3, e4, e5, e6, e7⟩ := (HB.out.later D5.out).at_ i hin
          have hxy : Hid (y = x) := by
            have h1 := HK.out.blk i hin
            rw [List.getD_eq_getElem?_getD (l := bl), hy] at h1
            exact (h1.symm.trans hx.out.symm : _)
          clear hy
          obtain rfl := hxy.out
          subst hba'
          obtain ⟨t0, t1, t2, t3, t4, t5, t6, t7⟩ := Bx.cells8 X5.out
          have heq := equal_block y.z0 y.z1 y.z2 y.z3 y.z4 y.z5 y.z6 y.z7 y.z0 y.z1 y.z2 y.z3 y.z4 y.z5 y.z6 y.z7
          rw [decide_eq_true rfl] at heq
          go_wp2_with fail
          go_quiet (fail)
          go_wp2_with fail
          exact ⟨⟨(i : Int) + 1, by go_num, by omega, by omega, below_drewN D5.out _⟩, by simp [intOf]; omega⟩
        · obtain rfl : z = (n : Int) := by omega
          have hd2 : decide ((n : Int) ≤ (n : Int)) = true := by simp
          have hd3 : decide (n ≤ n) = true := by simp
          go_wp2_with fail
          refine (sget_out g n h ls [] left sa sc pa 0 pc wr HR.out n (by omega)).mono ?_
          rintro e w4 ⟨rfl, E4⟩
          have D4 := hide (show Below w.heap.size w w4 from hB.out.trans (E4.mono hB.out.size))
          clear E4
          have heq := equal_block 0 0 0 0 0 0 0 0 0 0 0 0 0 0 0 0
          rw [decide_eq_true rfl] at heq
          go_wp2_with fail
          exact ⟨⟨(n : Int) + 1, by go_num, by omega, by omega, D4.out.alloc D4.out.size _⟩, by simp [intOf]⟩
    · obtain rfl : z = (n : Int) + 1 := by omega
      go_wp2_with fail
      refine Met.intro (tailG_last (c := .seq _ .ret) rfl ?_)
      try clear hK
      try clear K
      go_wp2_with fail
      exact bodyPost_ret (v := .bool true) (by simp [results, Try.results9, go_sem]) rfl ⟨rfl, hB.out⟩


end Go.Proofs.Ytfbmaemnbolplaa

/-
  StoreSays: its end.
-/
namespace Go.Proofs.Ytfbmaemnbolplaa
open Go.RowKit

/-- the law's store and blocks, at a world of the call -/
structure SV (w wr : World) (g n ba : Nat) (bl : List B8) (x y : Int) (h : Nat) (ls : List B8) (sa : Option Addr) (sc : Nat) (pa : Option Addr) (pc : Nat) : Prop where
  st : StW wr g n h ls [] (-1) sa sc pa 0 pc
  hd : Mx.Hd n h ls bl x y
  ow : OwnBL wr w.heap.size (.slice (some ⟨ba, 0, none⟩) n n) bl
  ne : ba ≠ g
  gl : w.heap.size ≤ g
  bel : Below w.heap.size w wr
theorem SV.later {w wr w' : World} {g n ba : Nat} {bl : List B8} {x y : Int} {h : Nat} {ls : List B8} {sa : Option Addr} {sc : Nat} {pa : Option Addr} {pc : Nat} (H : SV w wr g n ba bl x y h ls sa sc pa pc) (hb : Below wr.heap.size wr w') : SV w w' g n ba bl x y h ls sa sc pa pc :=
  { H with st := H.st.later hb, ow := rowKept H.ow hb, bel := H.bel.trans (hb.mono H.bel.size) }
theorem Bx.grow {w w' : World} {g : Nat} {row : Option Nat} {cs : Array Value} {t : TypeId} (h : Bx w g cs t) (hg : w.grownBy w' row) (hne : some g ≠ row) : Bx w' g cs t := (hg.block g h.lt hne).trans h
/-- a longer row lies elsewhere -/
theorem apart_size {w : World} {base ba n m : Nat} {bl ls : List B8} {a : Option Addr} (ho : OwnBL w base (.slice (some ⟨ba, 0, none⟩) n n) bl) (hb : BL w a m ls) (hnm : n < m) (p : Addr) (hp : a = some p) : p.block ≠ ba := by
  intro e
  obtain ⟨h1, h2 | ⟨g, cap, cur, hv, hbg, hh, hc1, hc2, hsz, _⟩⟩ := ho
  · cases h2.1
  · obtain ⟨h3, h4, h5, h6⟩ := hb
    obtain ⟨b, off, ha, hlt, hc⟩ := h6 (by omega)
    rw [hp] at ha
    cases ha
    cases hv
    subst e
    have hlen : m * 8 - 1 < (flatB ls).length := by omega
    have h7 := hc (m * 8 - 1) _ (List.getElem?_eq_getElem hlen)
    rw [cell_of_cells hh, Array.getElem?_eq_none (by omega)] at h7
    cases h7
/-- a store stays, whatever becomes of another block -/
theorem StW.grow {w w' : World} {g n h : Nat} {ls : List B8} {left : Int} {sa : Option Addr} {sc : Nat} {pa : Option Addr} {pc y : Nat} (hs : StW w g n h ls [] left sa sc pa 0 pc) (hg : w.grownBy w' (some y)) (hne : y ≠ g) (ha : ∀ p, sa = some p → p.block ≠ y) : StW w' g n h ls [] left sa sc pa 0 pc :=
  { hs with bx := Bx.grow hs.bx hg (fun e => hne (Option.some.inj e).symm), bl := hs.bl.grow1 hg (fun _ => ha), pl := hs.pl.grow1 hg (fun h => absurd h (by omega)) }
theorem grown8s {w w' : World} {g : Nat} (h : w.grownBy w' (some g)) (o : Nat) (x : B8) : w.grownBy (set8 w' g o x).drew (some g) := by
  have key : ∀ v : World, Below g w' v → (∀ k, k ≠ g → v.heap[k]? = w'.heap[k]?) → w.grownBy v.drew (some g) := fun v hb ho => ⟨hb.os.trans h.os, hb.tape.trans h.tape, hb.output.trans h.output, Nat.le_trans h.size hb.size, fun k hk hne => (ho k (fun e => hne (by rw [e]))).trans (h.block k hk hne)⟩
  exact key _ (set8_below (Below.refl g w') (Nat.le_refl g) o x) (fun k hk => set8_other hk x)
theorem below_of_grown {w v w' : World} {y : Nat} (hb : Below w.heap.size w v) (hg : v.grownBy w' (some y)) (hy : w.heap.size ≤ y) : Below w.heap.size w w' :=
  ⟨hg.os.trans hb.os, hg.tape.trans hb.tape, hg.output.trans hb.output, Nat.le_trans hb.size hg.size, fun k hk =>
    (hg.block k (Nat.lt_of_lt_of_le hk hb.size) (fun e => absurd (Option.some.inj e) (by omega))).trans (hb.block k hk)⟩

set_option maxHeartbeats 16000000 in
set_option maxRecDepth 100000 in
theorem st15 {w x : World} {g n ba : Nat} {bl : List B8} {sx sy : Int} {h : Nat} {ls : List B8} {sa : Option Addr} {sc : Nat} {pa : Option Addr} {pc : Nat} (hv : SV w x g n ba bl sx sy h ls sa sc pa pc) {u1 u2 u3 u4 u5 u6 u7 u8 u9 u10 u11 u12 u13 u14 u15 u16 u17 u18 u19 u20 u25 u26 u27 u28 u29 u30 u31 u32 u33 u34 u35 u36 u37 u38 u39 u40 u41 u42 u43 u44 u45 u46 u47 u48 u49 u50 u51 u52 u53 u54 u55 u56 u57 u58 u59 u60 u61 u62 u63 u64 u65 u66 u67 u68 u69 u70 u71 u72 u73 u74 u75 u76 u77 u78 u79 u80 u81 u82 u83 u84 u85 u86 u87 u88 u89 u90 u91 u92 u93 u94 u95 u96 u97 u98 u99 u100 u101 u102 u103 u104 u105 u106 u107 u108 u109 u110 u111 u112 u113 u114 u115 u116 u117 u118 u119 u120 u121 u122 u123 u124 u125 u126 u127 u128 u129 u130 u131 u132 u133 u134 u135 u136 u137 u138 u139 u140 u141 u142 u143 u144 u145 u146 u147 u148 u149 u150 u151 u152 u153 u154 u155 u156 u157 u158 u159 u160 u161 u162 u163 u164 u165 u166 u167 u168 u169 u170 u171 u172 u173 u174 u175 u176 u177 u178 u179 u180 u181 u182 u183 u184 u185 u186 u187 u188 u189 u190 u191 u192 u193 u194 u195 u196 u197 u198 u199 u200 u201 u202 u203 u204 u205 u206 u207 u208 u209 u210 u211 u212 u213 u214 u215 u216 u217 u218 u219 u220 u221 u222 u223 u224 u225 u226 u227 u228 u229 u230 u231 u232 u233 u234 u235 u236 u237 u238 u239 u240 u241 u242 u243 u244 u245 u246 u247 u248 u249 u250 u251 u252 u253 u254 u255 u256 u257 u258 u259 u260 u261 u262 u263 u264 u265 u266 u267 u268 u269 u270 u271 u272 u273 u274 u275 u276 u277 : Value} :
    TailG Try.f3 (fun e w' => e = .returned (.bool true) ∧ Below w.heap.size w w') 15 ⟨#[.int .i64 (n : Int), u1, u2, u3, u4, u5, u6, u7, u8, u9, u10, u11, u12, u13, u14, u15, u16, u17, u18, u19, u20, .pointer (some ⟨g, 0, none⟩), .slice (some ⟨ba, 0, none⟩) n n, .int .i64 sx, .int .i64 sy, u25, u26, u27, u28, u29, u30, u31, u32, u33, u34, u35, u36, u37, u38, u39, u40, u41, u42, u43, u44, u45, u46, u47, u48, u49, u50, u51, u52, u53, u54, u55, u56, u57, u58, u59, u60, u61, u62, u63, u64, u65, u66, u67, u68, u69, u70, u71, u72, u73, u74, u75, u76, u77, u78, u79, u80, u81, u82, u83, u84, u85, u86, u87, u88, u89, u90, u91, u92, u93, u94, u95, u96, u97, u98, u99, u100, u101, u102, u103, u104, u105, u106, u107, u108, u109, u110, u111, u112, u113, u114, u115, u116, u117, u118, u119, u120, u121, u122, u123, u124, u125, u126, u127, u128, u129, u130, u131, u132, u133, u134, u135, u136, u137, u138, u139, u140, u141, u142, u143, u144, u145, u146, u147, u148, u149, u150, u151, u152, u153, u154, u155, u156, u157, u158, u159, u160, u161, u162, u163, u164, u165, u166, u167, u168, u169, u170, u171, u172, u173, u174, u175, u176, u177, u178, u179, u180, u181, u182, u183, u184, u185, u186, u187, u188, u189, u190, u191, u192, u193, u194, u195, u196, u197, u198, u199, u200, u201, u202, u203, u204, u205, u206, u207, u208, u209, u210, u211, u212, u213, u214, u215, u216, u217, u218, u219, u220, u221, u222, u223, u224, u225, u226, u227, u228, u229, u230, u231, u232, u233, u234, u235, u236, u237, u238, u239, u240, u241, u242, u243, u244, u245, u246, u247, u248, u249, u250, u251, u252, u253, u254, u255, u256, u257, u258, u259, u260, u261, u262, u263, u264, u265, u266, u267, u268, u269, u270, u271, u272, u273, u274, u275, u276, u277], []⟩ x := by
  have HV := hide hv
  clear hv
  obtain ⟨v, hvx⟩ : ∃ v : World, Hid (v = x) := ⟨_, rfl⟩
  have hn1 := HV.out.hd.n1
  have hn2 := HV.out.hd.n2
  refine tailG_step rfl ?_
  intro K hK
  go_wp2_with fail
  refine (sdisk_any g n h ls [] (-1) sa sc pa 0 pc x HV.out.st (by omega)).mono ?_
  rintro e w1 ⟨a1, c1, a2, c2, rfl, K1, D1⟩
  have V1 := hide (HV.out.later D1.out)
  go_wp2_with fail
  refine (open_ok a1 a2 (Mx.sz n) c1 0 c2 (-1) n ls [] w1 K1.out.bl K1.out.pl hn1 hn2 rfl (Mx.dmay_sz hn2) rfl (by omega) (by omega) (by omega) (ls.getD 0 zB) rfl h HV.out.hd.mark HV.out.hd.mk0).mono ?_
  rintro e w2 ⟨g2, a3, c3, a4, c4, rfl, hg2, S2, D2⟩
  have V2 := hide (V1.out.later D2.out)
  go_wp2_with fail
  refine Met.intro (tailG_last (c := .seq _ .ret) rfl ?_)
  try clear hK
  try clear K
  go_wp2_with fail
  refine (sees_any g2 n h ls (-1) a3 c3 a4 c4 w2 S2.out (by omega) bl sx sy HV.out.hd (some ⟨ba, 0, none⟩) n V2.out.ow.asRow).mono ?_
  rintro e w3 ⟨rfl, E3⟩
  have D3 := hide (show Below w.heap.size w w3 from V2.out.bel.trans (E3.mono V2.out.bel.size))
  clear E3
  go_wp2_with fail
  exact bodyPost_ret (v := .bool true) (by simp [results, Try.results3, go_sem]) rfl ⟨rfl, D3.out⟩


end Go.Proofs.Ytfbmaemnbolplaa

/-
  StoreSays: its loop.
-/
namespace Go.Proofs.Ytfbmaemnbolplaa
open Go.RowKit

theorem is_e2 (w : World) : Calls Try.prog 10 #[.iface 35 (.int .i64 2), .int .i64 2] w fun e w' => e = .returned (.bool true) ∧ w' = w := is_any 2 2 w
theorem is_e1 (w : World) : Calls Try.prog 10 #[.iface 35 (.int .i64 1), .int .i64 1] w fun e w' => e = .returned (.bool true) ∧ w' = w := is_any 1 1 w
theorem is_e0 (w : World) : Calls Try.prog 10 #[.nilIface, .int .i64 0] w fun e w' => e = .returned (.bool true) ∧ w' = w := is_any 0 0 w

/-- the law's store behind a commit -/
theorem SV.commit {w wr w' : World} {g n ba : Nat} {bl : List B8} {x y : Int} {h : Nat} {ls : List B8} {sa : Option Addr} {sc : Nat} {pa : Option Addr} {pc : Nat} (H : SV w wr g n ba bl x y h ls sa sc pa pc) {us : List Pt} {a b : Int} (ha0 : 0 ≤ a) (ha1 : a ≤ 2147483647) (hb0 : 0 ≤ b) (hb1 : b ≤ 2147483647)
    (hc : Mx.CI wr g n h (1 - h) ls (Mx.flushed (Mx.vw n h ls) us) a b (-1) 6 w') : ∃ ls' a1 c1 a2 c2, StW w' g n (1 - h) ls' [] (-1) a1 c1 a2 0 c2 ∧ Mx.Hd n (1 - h) ls' (Mx.flushed bl us) a b ∧ wr.grownBy w' (some g) := by
  obtain ⟨a1, c1, a2, pn, c2, S0, G0, L0⟩ := hc
  have hl : Mx.lessK (-1) (n + 4) = -1 := rfl
  rw [hl] at S0
  have hpn : pn = 0 := S0.pl.1.symm
  subst hpn
  have hv := H.hd.view
  refine ⟨_, a1, c1, a2, c2, S0, ?_, G0⟩
  rw [hv]
  exact Mx.hold_commit H.hd rfl (by rw [Mx.flushed_len, H.hd.bln]) ha0 ha1 hb0 hb1

set_option maxHeartbeats 16000000 in
set_option maxRecDepth 100000 in
theorem st_r8 {w : World} {g n ba : Nat} {oa ta : Option Addr} {on oc tn tc : Nat} {a b sx sy k : Int} {Kn Kr K0 : Act → World → Prop} {x : World} {bl : List B8} {h : Nat} {ls : List B8} {sa : Option Addr} {sc : Nat} {pa : Option Addr} {pc : Nat} (hv : SV w x g n ba bl sx sy h ls sa sc pa pc) {u5 u6 u7 u8 u9 u10 u11 u12 u13 u14 u15 u16 u17 u18 u19 u20 u26 u27 u28 u29 u30 u31 u32 u33 u34 u35 u36 u37 u38 u39 u40 u41 u42 u43 u44 u45 u46 u47 u48 u49 u50 u51 u52 u53 u54 u55 u56 u57 u58 u59 u60 u61 u62 u63 u64 u65 u66 u67 u68 u69 u70 u71 u72 u73 u74 u75 u76 u77 u78 u79 u80 u81 u82 u83 u84 u85 u86 u87 u88 u89 u90 u91 u92 u93 u94 u95 u96 u97 u98 u99 u100 u101 u102 u103 u104 u105 u106 u107 u108 u109 u110 u111 u112 u113 u114 u115 u116 u117 u118 u119 u120 u121 u122 u123 u124 u125 u126 u127 u128 u129 u130 u131 u132 u133 u134 u135 u136 u137 u138 u139 u140 u141 u142 u143 u144 u145 u146 u147 u148 u149 u150 u151 u152 u153 u154 u155 u156 u157 u158 u159 u160 u161 u162 u163 u164 u165 u166 u167 u168 u169 u170 u171 u172 u173 u174 u175 u176 u177 u178 u179 u180 u181 u182 u183 u184 u185 u186 u187 u188 u189 u190 u191 u192 u193 u194 u195 u196 u197 u198 u199 u200 u201 u202 u203 u204 u205 u206 u207 u208 u209 u210 u211 u212 u213 u214 u215 u216 u217 u218 u219 u220 u221 u222 u223 u224 u225 u226 u227 u228 u229 u230 u231 u232 u233 u234 u235 u236 u237 u238 u239 u240 u241 u242 u243 u244 u245 u246 u247 u248 u249 u250 u251 u252 u253 u254 u255 u256 u257 u258 u259 u260 u261 u262 u263 u264 u265 u266 u267 u268 u269 u270 u271 u272 u273 u274 u275 u276 u277 : Value} (hQ : ∀ (sx' sy' : Int) (bl' : List B8) (h' : Nat) (ls' : List B8) (sa' : Option Addr) (sc' : Nat) (pa' : Option Addr) (pc' : Nat) (x' : World) (v26 v27 v28 v29 v167 v168 v169 v170 v171 v172 v173 v174 v175 v176 v177 v178 v179 v180 v181 v182 v183 v184 v185 v186 v187 v188 v189 v190 v191 v192 v193 v194 v195 v196 v197 v198 v199 v200 v201 v202 v203 v204 v205 v206 v207 v208 v209 v210 v211 v212 v213 v214 v215 v216 v217 v218 v219 v220 v221 v222 v223 v224 v225 v226 v227 v228 v229 v230 v231 v232 v233 v234 v235 v236 v237 v238 v239 v240 v241 v242 v243 v244 v245 v246 v247 v248 v249 v250 v251 v252 v253 v254 v255 v256 v257 : Value), SV w x' g n ba bl' sx' sy' h' ls' sa' sc' pa' pc' → Kn ⟨#[.int .i64 (n : Int), .slice oa on oc, .slice ta tn tc, .int .i64 b, .int .i64 a, u5, u6, u7, u8, u9, u10, u11, u12, u13, u14, u15, u16, u17, u18, u19, u20, .pointer (some ⟨g, 0, none⟩), .slice (some ⟨ba, 0, none⟩) n n, .int .i64 sx', .int .i64 sy', .int .i64 k, v26, v27, v28, v29, u30, u31, u32, u33, u34, u35, u36, u37, u38, u39, u40, u41, u42, u43, u44, u45, u46, u47, u48, u49, u50, u51, u52, u53, u54, u55, u56, u57, u58, u59, u60, u61, u62, u63, u64, u65, u66, u67, u68, u69, u70, u71, u72, u73, u74, u75, u76, u77, u78, u79, u80, u81, u82, u83, u84, u85, u86, u87, u88, u89, u90, u91, u92, u93, u94, u95, u96, u97, u98, u99, u100, u101, u102, u103, u104, u105, u106, u107, u108, u109, u110, u111, u112, u113, u114, u115, u116, u117, u118, u119, u120, u121, u122, u123, u124, u125, u126, u127, u128, u129, u130, u131, u132, u133, u134, u135, u136, u137, u138, u139, u140, u141, u142, u143, u144, u145, u146, u147, u148, u149, u150, u151, u152, u153, u154, u155, u156, u157, u158, u159, u160, u161, u162, u163, u164, u165, u166, v167, v168, v169, v170, v171, v172, v173, v174, v175, v176, v177, v178, v179, v180, v181, v182, v183, v184, v185, v186, v187, v188, v189, v190, v191, v192, v193, v194, v195, v196, v197, v198, v199, v200, v201, v202, v203, v204, v205, v206, v207, v208, v209, v210, v211, v212, v213, v214, v215, v216, v217, v218, v219, v220, v221, v222, v223, v224, v225, v226, v227, v228, v229, v230, v231, v232, v233, v234, v235, v236, v237, v238, v239, v240, v241, v242, v243, v244, v245, v246, v247, v248, v249, v250, v251, v252, v253, v254, v255, v256, v257, u258, u259, u260, u261, u262, u263, u264, u265, u266, u267, u268, u269, u270, u271, u272, u273, u274, u275, u276, u277], []⟩ x') :
    TailQ (bodyG (fstG (itsG 14 (Try.f3.body.getD .skip)))) (Exit.inBlock 1 (Exit.then Kn (Exit.then Kr (Exit.inBlock 0 (Exit.then K0 (bodyPost Try.prog Try.f3 (fun e w' => e = .returned (.bool true) ∧ Below w.heap.size w w'))))))) 8 ⟨#[.int .i64 (n : Int), .slice oa on oc, .slice ta tn tc, .int .i64 a, .int .i64 b, u5, u6, u7, u8, u9, u10, u11, u12, u13, u14, u15, u16, u17, u18, u19, u20, .pointer (some ⟨g, 0, none⟩), .slice (some ⟨ba, 0, none⟩) n n, .int .i64 sx, .int .i64 sy, .int .i64 k, u26, u27, u28, u29, u30, u31, u32, u33, u34, u35, u36, u37, u38, u39, u40, u41, u42, u43, u44, u45, u46, u47, u48, u49, u50, u51, u52, u53, u54, u55, u56, u57, u58, u59, u60, u61, u62, u63, u64, u65, u66, u67, u68, u69, u70, u71, u72, u73, u74, u75, u76, u77, u78, u79, u80, u81, u82, u83, u84, u85, u86, u87, u88, u89, u90, u91, u92, u93, u94, u95, u96, u97, u98, u99, u100, u101, u102, u103, u104, u105, u106, u107, u108, u109, u110, u111, u112, u113, u114, u115, u116, u117, u118, u119, u120, u121, u122, u123, u124, u125, u126, u127, u128, u129, u130, u131, u132, u133, u134, u135, u136, u137, u138, u139, u140, u141, u142, u143, u144, u145, u146, u147, u148, u149, u150, u151, u152, u153, u154, u155, u156, u157, u158, u159, u160, u161, u162, u163, u164, u165, u166, u167, u168, u169, u170, u171, u172, u173, u174, u175, u176, u177, u178, u179, u180, u181, u182, u183, u184, u185, u186, u187, u188, u189, u190, u191, u192, u193, u194, u195, u196, u197, u198, u199, u200, u201, u202, u203, u204, u205, u206, u207, u208, u209, u210, u211, u212, u213, u214, u215, u216, u217, u218, u219, u220, u221, u222, u223, u224, u225, u226, u227, u228, u229, u230, u231, u232, u233, u234, u235, u236, u237, u238, u239, u240, u241, u242, u243, u244, u245, u246, u247, u248, u249, u250, u251, u252, u253, u254, u255, u256, u257, u258, u259, u260, u261, u262, u263, u264, u265, u266, u267, u268, u269, u270, u271, u272, u273, u274, u275, u276, u277], []⟩ x := by
  have HV := hide hv
  have HQ := hide hQ
  clear hv hQ
  refine tailQ_step rfl ?_
  intro K hK
  go_wp2_with fail
  refine (sees_any g n h ls (-1) sa sc pa pc x HV.out.st (by omega) bl sx sy HV.out.hd (some ⟨ba, 0, none⟩) n HV.out.ow.asRow).mono ?_
  rintro e w5 ⟨rfl, E5⟩
  have V5 := hide (HV.out.later E5)
  clear E5
  go_wp2_with fail
  refine Met.intro (tailQ_last (c' := .region _ _ _) rfl ?_)
  try clear hK
  try clear K
  go_wp2_with fail
  exact HQ.out sx sy bl h ls sa sc pa pc _ _ _ _ _ _ _ _ _ _ _ _ _ _ _ _ _ _ _ _ _ _ _ _ _ _ _ _ _ _ _ _ _ _ _ _ _ _ _ _ _ _ _ _ _ _ _ _ _ _ _ _ _ _ _ _ _ _ _ _ _ _ _ _ _ _ _ _ _ _ _ _ _ _ _ _ _ _ _ _ _ _ _ _ _ _ _ _ _ _ _ _ _ _ _ _ V5.out

set_option maxHeartbeats 16000000 in
set_option maxRecDepth 100000 in
theorem st_err6 {w : World} {g n ba : Nat} {oa ta : Option Addr} {on oc tn tc : Nat} {a b sx sy k : Int} {Kn Kr K0 : Act → World → Prop} {x : World} {bl : List B8} {h : Nat} {ls : List B8} {sa : Option Addr} {sc : Nat} {pa : Option Addr} {pc : Nat} (hv : SV w x g n ba bl sx sy h ls sa sc pa pc) {ua : Option Addr} {un uc : Nat} {E : Int} (hE : (E == 0) = false) (hc : Calls Try.prog 11 #[.pointer (some ⟨g, 0, none⟩), .slice ua un uc, .int .i64 a, .int .i64 b] x fun e w' => e = .returned (.iface 35 (.int .i64 E)) ∧ Below x.heap.size x w') (hi : ∀ W : World, Calls Try.prog 10 #[.iface 35 (.int .i64 E), .int .i64 E] W fun e w' => e = .returned (.bool true) ∧ w' = W) {u5 u6 u7 u8 u9 u10 u11 u12 u13 u14 u15 u16 u17 u18 u19 u20 u28 u29 u30 u31 u32 u33 u34 u35 u36 u37 u38 u39 u40 u41 u42 u43 u44 u45 u46 u47 u48 u49 u50 u51 u52 u53 u54 u55 u56 u57 u58 u59 u60 u61 u62 u63 u64 u65 u66 u67 u68 u69 u70 u71 u72 u73 u74 u75 u76 u77 u78 u79 u80 u81 u82 u83 u84 u85 u86 u87 u88 u89 u90 u91 u92 u93 u94 u95 u96 u97 u98 u99 u100 u101 u102 u103 u104 u105 u106 u107 u108 u109 u110 u111 u112 u113 u114 u115 u116 u117 u118 u119 u120 u121 u122 u123 u124 u125 u126 u127 u128 u129 u130 u131 u132 u133 u134 u135 u136 u137 u138 u139 u140 u141 u142 u143 u144 u145 u146 u147 u148 u149 u150 u151 u152 u153 u154 u155 u156 u157 u158 u159 u160 u161 u162 u163 u164 u165 u166 u167 u168 u169 u170 u171 u172 u173 u174 u175 u176 u177 u178 u179 u180 u181 u182 u183 u184 u185 u186 u187 u188 u189 u190 u191 u192 u193 u194 u195 u196 u197 u198 u199 u200 u201 u202 u203 u204 u205 u206 u207 u208 u209 u210 u211 u212 u213 u214 u215 u216 u217 u218 u219 u220 u221 u222 u223 u224 u225 u226 u227 u228 u229 u230 u231 u232 u233 u234 u235 u236 u237 u238 u239 u240 u241 u242 u243 u244 u245 u246 u247 u248 u249 u250 u251 u252 u253 u254 u255 u256 u257 u258 u259 u260 u261 u262 u263 u264 u265 u266 u267 u268 u269 u270 u271 u272 u273 u274 u275 u276 u277 : Value} (hQ : ∀ (sx' sy' : Int) (bl' : List B8) (h' : Nat) (ls' : List B8) (sa' : Option Addr) (sc' : Nat) (pa' : Option Addr) (pc' : Nat) (x' : World) (v26 v27 v28 v29 v167 v168 v169 v170 v171 v172 v173 v174 v175 v176 v177 v178 v179 v180 v181 v182 v183 v184 v185 v186 v187 v188 v189 v190 v191 v192 v193 v194 v195 v196 v197 v198 v199 v200 v201 v202 v203 v204 v205 v206 v207 v208 v209 v210 v211 v212 v213 v214 v215 v216 v217 v218 v219 v220 v221 v222 v223 v224 v225 v226 v227 v228 v229 v230 v231 v232 v233 v234 v235 v236 v237 v238 v239 v240 v241 v242 v243 v244 v245 v246 v247 v248 v249 v250 v251 v252 v253 v254 v255 v256 v257 : Value), SV w x' g n ba bl' sx' sy' h' ls' sa' sc' pa' pc' → Kn ⟨#[.int .i64 (n : Int), .slice oa on oc, .slice ta tn tc, .int .i64 b, .int .i64 a, u5, u6, u7, u8, u9, u10, u11, u12, u13, u14, u15, u16, u17, u18, u19, u20, .pointer (some ⟨g, 0, none⟩), .slice (some ⟨ba, 0, none⟩) n n, .int .i64 sx', .int .i64 sy', .int .i64 k, v26, v27, v28, v29, u30, u31, u32, u33, u34, u35, u36, u37, u38, u39, u40, u41, u42, u43, u44, u45, u46, u47, u48, u49, u50, u51, u52, u53, u54, u55, u56, u57, u58, u59, u60, u61, u62, u63, u64, u65, u66, u67, u68, u69, u70, u71, u72, u73, u74, u75, u76, u77, u78, u79, u80, u81, u82, u83, u84, u85, u86, u87, u88, u89, u90, u91, u92, u93, u94, u95, u96, u97, u98, u99, u100, u101, u102, u103, u104, u105, u106, u107, u108, u109, u110, u111, u112, u113, u114, u115, u116, u117, u118, u119, u120, u121, u122, u123, u124, u125, u126, u127, u128, u129, u130, u131, u132, u133, u134, u135, u136, u137, u138, u139, u140, u141, u142, u143, u144, u145, u146, u147, u148, u149, u150, u151, u152, u153, u154, u155, u156, u157, u158, u159, u160, u161, u162, u163, u164, u165, u166, v167, v168, v169, v170, v171, v172, v173, v174, v175, v176, v177, v178, v179, v180, v181, v182, v183, v184, v185, v186, v187, v188, v189, v190, v191, v192, v193, v194, v195, v196, v197, v198, v199, v200, v201, v202, v203, v204, v205, v206, v207, v208, v209, v210, v211, v212, v213, v214, v215, v216, v217, v218, v219, v220, v221, v222, v223, v224, v225, v226, v227, v228, v229, v230, v231, v232, v233, v234, v235, v236, v237, v238, v239, v240, v241, v242, v243, v244, v245, v246, v247, v248, v249, v250, v251, v252, v253, v254, v255, v256, v257, u258, u259, u260, u261, u262, u263, u264, u265, u266, u267, u268, u269, u270, u271, u272, u273, u274, u275, u276, u277], []⟩ x') :
    TailQ (bodyG (fstG (itsG 14 (Try.f3.body.getD .skip)))) (Exit.inBlock 1 (Exit.then Kn (Exit.then Kr (Exit.inBlock 0 (Exit.then K0 (bodyPost Try.prog Try.f3 (fun e w' => e = .returned (.bool true) ∧ Below w.heap.size w w'))))))) 6 ⟨#[.int .i64 (n : Int), .slice oa on oc, .slice ta tn tc, .int .i64 a, .int .i64 b, u5, u6, u7, u8, u9, u10, u11, u12, u13, u14, u15, u16, u17, u18, u19, u20, .pointer (some ⟨g, 0, none⟩), .slice (some ⟨ba, 0, none⟩) n n, .int .i64 sx, .int .i64 sy, .int .i64 k, .slice ua un uc, .int .i64 E, u28, u29, u30, u31, u32, u33, u34, u35, u36, u37, u38, u39, u40, u41, u42, u43, u44, u45, u46, u47, u48, u49, u50, u51, u52, u53, u54, u55, u56, u57, u58, u59, u60, u61, u62, u63, u64, u65, u66, u67, u68, u69, u70, u71, u72, u73, u74, u75, u76, u77, u78, u79, u80, u81, u82, u83, u84, u85, u86, u87, u88, u89, u90, u91, u92, u93, u94, u95, u96, u97, u98, u99, u100, u101, u102, u103, u104, u105, u106, u107, u108, u109, u110, u111, u112, u113, u114, u115, u116, u117, u118, u119, u120, u121, u122, u123, u124, u125, u126, u127, u128, u129, u130, u131, u132, u133, u134, u135, u136, u137, u138, u139, u140, u141, u142, u143, u144, u145, u146, u147, u148, u149, u150, u151, u152, u153, u154, u155, u156, u157, u158, u159, u160, u161, u162, u163, u164, u165, u166, u167, u168, u169, u170, u171, u172, u173, u174, u175, u176, u177, u178, u179, u180, u181, u182, u183, u184, u185, u186, u187, u188, u189, u190, u191, u192, u193, u194, u195, u196, u197, u198, u199, u200, u201, u202, u203, u204, u205, u206, u207, u208, u209, u210, u211, u212, u213, u214, u215, u216, u217, u218, u219, u220, u221, u222, u223, u224, u225, u226, u227, u228, u229, u230, u231, u232, u233, u234, u235, u236, u237, u238, u239, u240, u241, u242, u243, u244, u245, u246, u247, u248, u249, u250, u251, u252, u253, u254, u255, u256, u257, u258, u259, u260, u261, u262, u263, u264, u265, u266, u267, u268, u269, u270, u271, u272, u273, u274, u275, u276, u277], []⟩ x := by
  have HV := hide hv
  have HC := hide hc
  have HI := hide hi
  have HQ := hide hQ
  clear hv hc hi hQ
  refine tailQ_step rfl ?_
  intro K hK
  go_wp2_with fail
  refine HC.out.mono ?_
  rintro e w4 ⟨rfl, E4⟩
  have V4 := hide (HV.out.later E4)
  clear E4
  go_wp2_with fail
  refine (HI.out w4).mono ?_
  rintro e wz ⟨rfl, hz⟩
  obtain rfl := hz.symm
  clear hz
  go_wp2_with fail
  refine Met.intro (tailQ_step rfl ?_)
  try clear hK
  try clear K
  intro K hK
  go_wp2_with fail
  exact Met.intro (st_r8 V4.out HQ.out)


end Go.Proofs.Ytfbmaemnbolplaa

/-
  StoreSays: a round in which all is well.
-/
namespace Go.Proofs.Ytfbmaemnbolplaa
open Go.RowKit

set_option maxHeartbeats 16000000 in
set_option maxRecDepth 100000 in
theorem st_ok6 {w : World} {g n ba : Nat} {oa ta : Option Addr} {on oc tn tc : Nat} {a b sx sy k : Int} {Kn Kr K0 : Act → World → Prop} {x : World} {bl : List B8} {h : Nat} {ls : List B8} {sa : Option Addr} {sc : Nat} {pa : Option Addr} {pc : Nat} (hv : SV w x g n ba bl sx sy h ls sa sc pa pc) {ua : Option Addr} {un uc : Nat} {us : List Pt} (hu : PL w ua un us) (hx : Mx.ccV n us = .nilIface) (hun : un ≤ n) (ha0 : 0 ≤ a) (ha1 : a ≤ 2147483647) (hb0 : 0 ≤ b) (hb1 : b ≤ 2147483647) {u5 u6 u7 u8 u9 u10 u11 u12 u13 u14 u15 u16 u17 u18 u19 u20 u28 u29 u30 u31 u32 u33 u34 u35 u36 u37 u38 u39 u40 u41 u42 u43 u44 u45 u46 u47 u48 u49 u50 u51 u52 u53 u54 u55 u56 u57 u58 u59 u60 u61 u62 u63 u64 u65 u66 u67 u68 u69 u70 u71 u72 u73 u74 u75 u76 u77 u78 u79 u80 u81 u82 u83 u84 u85 u86 u87 u88 u89 u90 u91 u92 u93 u94 u95 u96 u97 u98 u99 u100 u101 u102 u103 u104 u105 u106 u107 u108 u109 u110 u111 u112 u113 u114 u115 u116 u117 u118 u119 u120 u121 u122 u123 u124 u125 u126 u127 u128 u129 u130 u131 u132 u133 u134 u135 u136 u137 u138 u139 u140 u141 u142 u143 u144 u145 u146 u147 u148 u149 u150 u151 u152 u153 u154 u155 u156 u157 u158 u159 u160 u161 u162 u163 u164 u165 u166 u167 u168 u169 u170 u171 u172 u173 u174 u175 u176 u177 u178 u179 u180 u181 u182 u183 u184 u185 u186 u187 u188 u189 u190 u191 u192 u193 u194 u195 u196 u197 u198 u199 u200 u201 u202 u203 u204 u205 u206 u207 u208 u209 u210 u211 u212 u213 u214 u215 u216 u217 u218 u219 u220 u221 u222 u223 u224 u225 u226 u227 u228 u229 u230 u231 u232 u233 u234 u235 u236 u237 u238 u239 u240 u241 u242 u243 u244 u245 u246 u247 u248 u249 u250 u251 u252 u253 u254 u255 u256 u257 u258 u259 u260 u261 u262 u263 u264 u265 u266 u267 u268 u269 u270 u271 u272 u273 u274 u275 u276 u277 : Value} (hQ : ∀ (sx' sy' : Int) (bl' : List B8) (h' : Nat) (ls' : List B8) (sa' : Option Addr) (sc' : Nat) (pa' : Option Addr) (pc' : Nat) (x' : World) (v26 v27 v28 v29 v167 v168 v169 v170 v171 v172 v173 v174 v175 v176 v177 v178 v179 v180 v181 v182 v183 v184 v185 v186 v187 v188 v189 v190 v191 v192 v193 v194 v195 v196 v197 v198 v199 v200 v201 v202 v203 v204 v205 v206 v207 v208 v209 v210 v211 v212 v213 v214 v215 v216 v217 v218 v219 v220 v221 v222 v223 v224 v225 v226 v227 v228 v229 v230 v231 v232 v233 v234 v235 v236 v237 v238 v239 v240 v241 v242 v243 v244 v245 v246 v247 v248 v249 v250 v251 v252 v253 v254 v255 v256 v257 : Value), SV w x' g n ba bl' sx' sy' h' ls' sa' sc' pa' pc' → Kn ⟨#[.int .i64 (n : Int), .slice oa on oc, .slice ta tn tc, .int .i64 b, .int .i64 a, u5, u6, u7, u8, u9, u10, u11, u12, u13, u14, u15, u16, u17, u18, u19, u20, .pointer (some ⟨g, 0, none⟩), .slice (some ⟨ba, 0, none⟩) n n, .int .i64 sx', .int .i64 sy', .int .i64 k, v26, v27, v28, v29, u30, u31, u32, u33, u34, u35, u36, u37, u38, u39, u40, u41, u42, u43, u44, u45, u46, u47, u48, u49, u50, u51, u52, u53, u54, u55, u56, u57, u58, u59, u60, u61, u62, u63, u64, u65, u66, u67, u68, u69, u70, u71, u72, u73, u74, u75, u76, u77, u78, u79, u80, u81, u82, u83, u84, u85, u86, u87, u88, u89, u90, u91, u92, u93, u94, u95, u96, u97, u98, u99, u100, u101, u102, u103, u104, u105, u106, u107, u108, u109, u110, u111, u112, u113, u114, u115, u116, u117, u118, u119, u120, u121, u122, u123, u124, u125, u126, u127, u128, u129, u130, u131, u132, u133, u134, u135, u136, u137, u138, u139, u140, u141, u142, u143, u144, u145, u146, u147, u148, u149, u150, u151, u152, u153, u154, u155, u156, u157, u158, u159, u160, u161, u162, u163, u164, u165, u166, v167, v168, v169, v170, v171, v172, v173, v174, v175, v176, v177, v178, v179, v180, v181, v182, v183, v184, v185, v186, v187, v188, v189, v190, v191, v192, v193, v194, v195, v196, v197, v198, v199, v200, v201, v202, v203, v204, v205, v206, v207, v208, v209, v210, v211, v212, v213, v214, v215, v216, v217, v218, v219, v220, v221, v222, v223, v224, v225, v226, v227, v228, v229, v230, v231, v232, v233, v234, v235, v236, v237, v238, v239, v240, v241, v242, v243, v244, v245, v246, v247, v248, v249, v250, v251, v252, v253, v254, v255, v256, v257, u258, u259, u260, u261, u262, u263, u264, u265, u266, u267, u268, u269, u270, u271, u272, u273, u274, u275, u276, u277], []⟩ x') :
    TailQ (bodyG (fstG (itsG 14 (Try.f3.body.getD .skip)))) (Exit.inBlock 1 (Exit.then Kn (Exit.then Kr (Exit.inBlock 0 (Exit.then K0 (bodyPost Try.prog Try.f3 (fun e w' => e = .returned (.bool true) ∧ Below w.heap.size w w'))))))) 6 ⟨#[.int .i64 (n : Int), .slice oa on oc, .slice ta tn tc, .int .i64 a, .int .i64 b, u5, u6, u7, u8, u9, u10, u11, u12, u13, u14, u15, u16, u17, u18, u19, u20, .pointer (some ⟨g, 0, none⟩), .slice (some ⟨ba, 0, none⟩) n n, .int .i64 sx, .int .i64 sy, .int .i64 k, .slice ua un uc, .int .i64 0, u28, u29, u30, u31, u32, u33, u34, u35, u36, u37, u38, u39, u40, u41, u42, u43, u44, u45, u46, u47, u48, u49, u50, u51, u52, u53, u54, u55, u56, u57, u58, u59, u60, u61, u62, u63, u64, u65, u66, u67, u68, u69, u70, u71, u72, u73, u74, u75, u76, u77, u78, u79, u80, u81, u82, u83, u84, u85, u86, u87, u88, u89, u90, u91, u92, u93, u94, u95, u96, u97, u98, u99, u100, u101, u102, u103, u104, u105, u106, u107, u108, u109, u110, u111, u112, u113, u114, u115, u116, u117, u118, u119, u120, u121, u122, u123, u124, u125, u126, u127, u128, u129, u130, u131, u132, u133, u134, u135, u136, u137, u138, u139, u140, u141, u142, u143, u144, u145, u146, u147, u148, u149, u150, u151, u152, u153, u154, u155, u156, u157, u158, u159, u160, u161, u162, u163, u164, u165, u166, u167, u168, u169, u170, u171, u172, u173, u174, u175, u176, u177, u178, u179, u180, u181, u182, u183, u184, u185, u186, u187, u188, u189, u190, u191, u192, u193, u194, u195, u196, u197, u198, u199, u200, u201, u202, u203, u204, u205, u206, u207, u208, u209, u210, u211, u212, u213, u214, u215, u216, u217, u218, u219, u220, u221, u222, u223, u224, u225, u226, u227, u228, u229, u230, u231, u232, u233, u234, u235, u236, u237, u238, u239, u240, u241, u242, u243, u244, u245, u246, u247, u248, u249, u250, u251, u252, u253, u254, u255, u256, u257, u258, u259, u260, u261, u262, u263, u264, u265, u266, u267, u268, u269, u270, u271, u272, u273, u274, u275, u276, u277], []⟩ x := by
  have HV := hide hv
  have HU := hide hu
  have HX := hide hx
  have HQ := hide hQ
  clear hv hu hx hQ
  have hn1 := HV.out.hd.n1
  have hn2 := HV.out.hd.n2
  refine tailQ_step rfl ?_
  intro K hK
  go_wp2_with fail
  refine (scommit_run g n h ls (-1) sa sc pa pc x HV.out.st ua un uc us (HU.out.later HV.out.bel) a b hun ha0 ha1 hb0 hb1 HX.out (by omega)).mono ?_
  rintro e w4 (⟨rfl, hC⟩ | ⟨rfl, hD⟩)
  · obtain ⟨ls', a1, c1, a2, c2, S4', H4', G4'⟩ := HV.out.commit ha0 ha1 hb0 hb1 hC
    have S4 := hide S4'
    have H4 := hide H4'
    have G4 := hide G4'
    clear hC S4' H4' G4'
    go_wp2_with fail
    refine (is_e0 w4).mono ?_
    rintro e wz ⟨rfl, hz⟩
    obtain rfl := hz.symm
    clear hz
    go_wp2_with fail
    refine Met.intro (tailQ_step rfl ?_)
    try clear hK
    try clear K
    intro K hK
    have O4 := hide (show OwnBL w4 w.heap.size (.slice (some ⟨ba, 0, none⟩) n n) bl from World.ownsRow.kept HV.out.ow G4.out (.inr (fun e => HV.out.ne (Option.some.inj e))))
    have A4 := hide (fun p hp => apart_size O4.out S4.out.bl (by unfold Mx.sz; omega) p hp)
    have B4 := hide (below_of_grown HV.out.bel G4.out HV.out.gl)
    have hbb := hide O4.out.fz.2.1
    go_wp2_with fail
    go_loopw [29] (fun s29 wi => ∃ i : Nat, i ≤ un ∧ s29 = .int .i64 (i : Int) ∧ Hid (OwnBL wi w.heap.size (.slice (some ⟨ba, 0, none⟩) n n) (Mx.flushed bl (us.take i))) ∧ Hid (w4.grownBy wi (some ba))) (fun s29 _ => un - (intOf s29).toNat)
    case atStart => exact ⟨0, by omega, rfl, by rw [List.take_zero]; exact O4, grow_refl _ _⟩
    case round =>
      obtain ⟨i, hi, rfl, hO, hG⟩ := hrel
      have D5 := hide (below_of_grown B4.out hG.out hbb.out)
      by_cases hiu : i < un
      · have hii : (i : Int) < un := by omega
        obtain ⟨bb, off, p, hba, hbw, hp, c0, c1, c2, c3, c4, c5, c6, c7, c8⟩ := (HU.out.later D5.out).at_ i hiu
        subst hba
        have HP := hide hp
        clear hp
        obtain ⟨j, hj⟩ : ∃ j : Nat, Hid (p.at_ = (j : Int)) := ⟨p.at_.toNat, by have h9 := Mx.ccV_nil HX.out i p HP.out; unfold Hid; omega⟩
        have hjn : j < n := by have h9 := Mx.ccV_nil HX.out i p HP.out; have h8 := hj.out; omega
        have hjn' : (j : Int) < n := by omega
        have hj0 : (0 : Int) ≤ (j : Int) := by omega
        rw [hj.out] at c0
        obtain ⟨yy, _, y0, y1, y2, y3, y4, y5, y6, y7⟩ := hO.out.at_ j hjn
        obtain ⟨hgl, hgb, yz⟩ := hO.out.fz
        have n3 : ¬ ba = bb := by have h8 := HU.out.at_ i hiu; obtain ⟨b9, o9, p9, hb9, hl9, _⟩ := h8; cases hb9; have h7 := hbb.out; omega
        have O5 := hide (show OwnBL (set8 wr ba (j * 8) p.d).drew w.heap.size (.slice (some ⟨ba, 0, none⟩) n n) (Mx.flushed bl (us.take (i + 1))) by
          have h9 := OwnBL.put hO.out j (by rw [Mx.flushed_len, HV.out.hd.bln]; exact hjn) p.d
          rw [Mx.flushed_snoc _ _ _ _ HP.out, hj.out, Int.toNat_natCast]
          exact World.ownsRow.drew h9)
        have G5 := hide (grown8s hG.out (j * 8) p.d)
        unfold set8 at O5 G5
        go_wp2_with fail
        go_region_held (fun w' => w'.cell? ⟨bb, off + i * 9, none⟩ = some (.int .i64 (j : Int)) ∧ w'.cell? ⟨bb, off + i * 9 + 1, none⟩ = some (.int .u8 p.d.z0) ∧ w'.cell? ⟨bb, off + i * 9 + 2, none⟩ = some (.int .u8 p.d.z1) ∧ w'.cell? ⟨bb, off + i * 9 + 3, none⟩ = some (.int .u8 p.d.z2) ∧ w'.cell? ⟨bb, off + i * 9 + 4, none⟩ = some (.int .u8 p.d.z3) ∧ w'.cell? ⟨bb, off + i * 9 + 5, none⟩ = some (.int .u8 p.d.z4) ∧ w'.cell? ⟨bb, off + i * 9 + 6, none⟩ = some (.int .u8 p.d.z5) ∧ w'.cell? ⟨bb, off + i * 9 + 7, none⟩ = some (.int .u8 p.d.z6) ∧ w'.cell? ⟨bb, off + i * 9 + 8, none⟩ = some (.int .u8 p.d.z7))
          (simp [*, World.cell?_setCell_far]) (fail)
        go_wp2_with fail
        exact ⟨⟨i + 1, by omega, by go_num, O5, G5⟩, by simp [intOf]; omega⟩
      · obtain rfl : un = i := by omega
        have HT9 := hide (show us.take un = us from List.take_of_length_le (by rw [HU.out.1]; exact Nat.le_refl _))
        rw [HT9.out] at hO
        obtain ⟨v5, hv5⟩ : ∃ v5 : World, Hid (v5 = wr) := ⟨_, rfl⟩
        rw [← hv5.out] at hO hG D5 ⊢
        have V5 := hide (show SV w v5 g n ba (Mx.flushed bl us) a b (1 - h) ls' a1 c1 a2 c2 from { st := S4.out.grow hG.out HV.out.ne A4.out, hd := H4.out, ow := hO.out, ne := HV.out.ne, gl := HV.out.gl, bel := D5.out })
        go_wp2_with fail
        exact Met.intro (st_r8 V5.out HQ.out)
  · obtain ⟨_, _, _, _, _, _, _, _, _, _, h0⟩ := hD
    omega


end Go.Proofs.Ytfbmaemnbolplaa

/-
  StoreSays: a round.
-/
namespace Go.Proofs.Ytfbmaemnbolplaa
open Go.RowKit

set_option maxHeartbeats 16000000 in
set_option maxRecDepth 100000 in
theorem st_r2 {w : World} {g n ba : Nat} {oa ta : Option Addr} {on oc tn tc : Nat} {a b sx sy k : Int} {Kn Kr K0 : Act → World → Prop} {x : World} {bl : List B8} {h : Nat} {ls : List B8} {sa : Option Addr} {sc : Nat} {pa : Option Addr} {pc : Nat} (hv : SV w x g n ba bl sx sy h ls sa sc pa pc) {ua : Option Addr} {un uc : Nat} {us : List Pt} (hu : PL w ua un us) {u5 u6 u7 u8 u9 u10 u11 u12 u13 u14 u15 u16 u17 u18 u19 u20 u27 u28 u29 u30 u31 u32 u33 u34 u35 u36 u37 u38 u39 u40 u41 u42 u43 u44 u45 u46 u47 u48 u49 u50 u51 u52 u53 u54 u55 u56 u57 u58 u59 u60 u61 u62 u63 u64 u65 u66 u67 u68 u69 u70 u71 u72 u73 u74 u75 u76 u77 u78 u79 u80 u81 u82 u83 u84 u85 u86 u87 u88 u89 u90 u91 u92 u93 u94 u95 u96 u97 u98 u99 u100 u101 u102 u103 u104 u105 u106 u107 u108 u109 u110 u111 u112 u113 u114 u115 u116 u117 u118 u119 u120 u121 u122 u123 u124 u125 u126 u127 u128 u129 u130 u131 u132 u133 u134 u135 u136 u137 u138 u139 u140 u141 u142 u143 u144 u145 u146 u147 u148 u149 u150 u151 u152 u153 u154 u155 u156 u157 u158 u159 u160 u161 u162 u163 u164 u165 u166 u167 u168 u169 u170 u171 u172 u173 u174 u175 u176 u177 u178 u179 u180 u181 u182 u183 u184 u185 u186 u187 u188 u189 u190 u191 u192 u193 u194 u195 u196 u197 u198 u199 u200 u201 u202 u203 u204 u205 u206 u207 u208 u209 u210 u211 u212 u213 u214 u215 u216 u217 u218 u219 u220 u221 u222 u223 u224 u225 u226 u227 u228 u229 u230 u231 u232 u233 u234 u235 u236 u237 u238 u239 u240 u241 u242 u243 u244 u245 u246 u247 u248 u249 u250 u251 u252 u253 u254 u255 u256 u257 u258 u259 u260 u261 u262 u263 u264 u265 u266 u267 u268 u269 u270 u271 u272 u273 u274 u275 u276 u277 : Value} (hQ : ∀ (sx' sy' : Int) (bl' : List B8) (h' : Nat) (ls' : List B8) (sa' : Option Addr) (sc' : Nat) (pa' : Option Addr) (pc' : Nat) (x' : World) (v26 v27 v28 v29 v167 v168 v169 v170 v171 v172 v173 v174 v175 v176 v177 v178 v179 v180 v181 v182 v183 v184 v185 v186 v187 v188 v189 v190 v191 v192 v193 v194 v195 v196 v197 v198 v199 v200 v201 v202 v203 v204 v205 v206 v207 v208 v209 v210 v211 v212 v213 v214 v215 v216 v217 v218 v219 v220 v221 v222 v223 v224 v225 v226 v227 v228 v229 v230 v231 v232 v233 v234 v235 v236 v237 v238 v239 v240 v241 v242 v243 v244 v245 v246 v247 v248 v249 v250 v251 v252 v253 v254 v255 v256 v257 : Value), SV w x' g n ba bl' sx' sy' h' ls' sa' sc' pa' pc' → Kn ⟨#[.int .i64 (n : Int), .slice oa on oc, .slice ta tn tc, .int .i64 b, .int .i64 a, u5, u6, u7, u8, u9, u10, u11, u12, u13, u14, u15, u16, u17, u18, u19, u20, .pointer (some ⟨g, 0, none⟩), .slice (some ⟨ba, 0, none⟩) n n, .int .i64 sx', .int .i64 sy', .int .i64 k, v26, v27, v28, v29, u30, u31, u32, u33, u34, u35, u36, u37, u38, u39, u40, u41, u42, u43, u44, u45, u46, u47, u48, u49, u50, u51, u52, u53, u54, u55, u56, u57, u58, u59, u60, u61, u62, u63, u64, u65, u66, u67, u68, u69, u70, u71, u72, u73, u74, u75, u76, u77, u78, u79, u80, u81, u82, u83, u84, u85, u86, u87, u88, u89, u90, u91, u92, u93, u94, u95, u96, u97, u98, u99, u100, u101, u102, u103, u104, u105, u106, u107, u108, u109, u110, u111, u112, u113, u114, u115, u116, u117, u118, u119, u120, u121, u122, u123, u124, u125, u126, u127, u128, u129, u130, u131, u132, u133, u134, u135, u136, u137, u138, u139, u140, u141, u142, u143, u144, u145, u146, u147, u148, u149, u150, u151, u152, u153, u154, u155, u156, u157, u158, u159, u160, u161, u162, u163, u164, u165, u166, v167, v168, v169, v170, v171, v172, v173, v174, v175, v176, v177, v178, v179, v180, v181, v182, v183, v184, v185, v186, v187, v188, v189, v190, v191, v192, v193, v194, v195, v196, v197, v198, v199, v200, v201, v202, v203, v204, v205, v206, v207, v208, v209, v210, v211, v212, v213, v214, v215, v216, v217, v218, v219, v220, v221, v222, v223, v224, v225, v226, v227, v228, v229, v230, v231, v232, v233, v234, v235, v236, v237, v238, v239, v240, v241, v242, v243, v244, v245, v246, v247, v248, v249, v250, v251, v252, v253, v254, v255, v256, v257, u258, u259, u260, u261, u262, u263, u264, u265, u266, u267, u268, u269, u270, u271, u272, u273, u274, u275, u276, u277], []⟩ x') :
    TailQ (bodyG (fstG (itsG 14 (Try.f3.body.getD .skip)))) (Exit.inBlock 1 (Exit.then Kn (Exit.then Kr (Exit.inBlock 0 (Exit.then K0 (bodyPost Try.prog Try.f3 (fun e w' => e = .returned (.bool true) ∧ Below w.heap.size w w'))))))) 2 ⟨#[.int .i64 (n : Int), .slice oa on oc, .slice ta tn tc, .int .i64 a, .int .i64 b, u5, u6, u7, u8, u9, u10, u11, u12, u13, u14, u15, u16, u17, u18, u19, u20, .pointer (some ⟨g, 0, none⟩), .slice (some ⟨ba, 0, none⟩) n n, .int .i64 sx, .int .i64 sy, .int .i64 k, .slice ua un uc, u27, u28, u29, u30, u31, u32, u33, u34, u35, u36, u37, u38, u39, u40, u41, u42, u43, u44, u45, u46, u47, u48, u49, u50, u51, u52, u53, u54, u55, u56, u57, u58, u59, u60, u61, u62, u63, u64, u65, u66, u67, u68, u69, u70, u71, u72, u73, u74, u75, u76, u77, u78, u79, u80, u81, u82, u83, u84, u85, u86, u87, u88, u89, u90, u91, u92, u93, u94, u95, u96, u97, u98, u99, u100, u101, u102, u103, u104, u105, u106, u107, u108, u109, u110, u111, u112, u113, u114, u115, u116, u117, u118, u119, u120, u121, u122, u123, u124, u125, u126, u127, u128, u129, u130, u131, u132, u133, u134, u135, u136, u137, u138, u139, u140, u141, u142, u143, u144, u145, u146, u147, u148, u149, u150, u151, u152, u153, u154, u155, u156, u157, u158, u159, u160, u161, u162, u163, u164, u165, u166, u167, u168, u169, u170, u171, u172, u173, u174, u175, u176, u177, u178, u179, u180, u181, u182, u183, u184, u185, u186, u187, u188, u189, u190, u191, u192, u193, u194, u195, u196, u197, u198, u199, u200, u201, u202, u203, u204, u205, u206, u207, u208, u209, u210, u211, u212, u213, u214, u215, u216, u217, u218, u219, u220, u221, u222, u223, u224, u225, u226, u227, u228, u229, u230, u231, u232, u233, u234, u235, u236, u237, u238, u239, u240, u241, u242, u243, u244, u245, u246, u247, u248, u249, u250, u251, u252, u253, u254, u255, u256, u257, u258, u259, u260, u261, u262, u263, u264, u265, u266, u267, u268, u269, u270, u271, u272, u273, u274, u275, u276, u277], []⟩ x := by
  have HV := hide hv
  have HU0 := hide hu
  have HU := hide (hu.later hv.bel)
  have HQ := hide hQ
  clear hv hu hQ
  have hn1 := HV.out.hd.n1
  have hn2 := HV.out.hd.n2
  refine tailQ_step rfl ?_
  intro K hK
  by_cases hun : n < un
  · have h1 : (n : Int) < un := by omega
    go_wp2_with fail
    refine Met.intro (tailQ_step rfl ?_)
    try clear hK
    try clear K
    intro K hK
    go_wp2_with fail
    refine Met.intro (tailQ_step rfl ?_)
    try clear hK
    try clear K
    intro K hK
    go_wp2_with fail
    refine Met.intro (tailQ_step rfl ?_)
    try clear hK
    try clear K
    intro K hK
    go_wp2_with fail
    refine wp_loop_once ?_
    go_wp2_with fail
    all_goals exact Met.intro (st_err6 HV.out (by decide) (scommit_long g n h ls (-1) sa sc pa pc x HV.out.st ua un uc a b hun) is_e2 HQ.out)
  · have hun : un ≤ n := by omega
    have h1 : ¬ (n : Int) < un := by omega
    by_cases hab : min a b < 0 ∨ 2147483647 < max a b
    · have HAB := hide hab
      clear hab
      by_cases q1 : a < 0
      · have e1 : decide (a < 0) = true := by simpa using q1
        clear q1
        go_wp2_with fail
        refine Met.intro (tailQ_step rfl ?_)
        try clear hK
        try clear K
        intro K hK
        go_wp2_with fail
        refine Met.intro (tailQ_step rfl ?_)
        try clear hK
        try clear K
        intro K hK
        go_wp2_with fail
        refine Met.intro (tailQ_step rfl ?_)
        try clear hK
        try clear K
        intro K hK
        go_wp2_with fail
        refine wp_loop_once ?_
        go_wp2_with fail
        all_goals exact Met.intro (st_err6 HV.out (by decide) (scommit_num g n h ls (-1) sa sc pa pc x HV.out.st ua un uc a b hun HAB.out) is_e1 HQ.out)
      · have e1 : decide (a < 0) = false := by simpa using q1
        by_cases q2 : 2147483647 < a
        · have e2 : decide (2147483647 < a) = true := by simpa using q2
          clear q1 q2
          go_wp2_with fail
          refine Met.intro (tailQ_step rfl ?_)
          try clear hK
          try clear K
          intro K hK
          go_wp2_with fail
          refine Met.intro (tailQ_step rfl ?_)
          try clear hK
          try clear K
          intro K hK
          go_wp2_with fail
          refine Met.intro (tailQ_step rfl ?_)
          try clear hK
          try clear K
          intro K hK
          go_wp2_with fail
          refine wp_loop_once ?_
          go_wp2_with fail
          all_goals exact Met.intro (st_err6 HV.out (by decide) (scommit_num g n h ls (-1) sa sc pa pc x HV.out.st ua un uc a b hun HAB.out) is_e1 HQ.out)
        · have e2 : decide (2147483647 < a) = false := by simpa using q2
          by_cases q3 : b < 0
          · have e3 : decide (b < 0) = true := by simpa using q3
            clear q1 q2 q3
            go_wp2_with fail
            refine Met.intro (tailQ_step rfl ?_)
            try clear hK
            try clear K
            intro K hK
            go_wp2_with fail
            refine Met.intro (tailQ_step rfl ?_)
            try clear hK
            try clear K
            intro K hK
            go_wp2_with fail
            refine Met.intro (tailQ_step rfl ?_)
            try clear hK
            try clear K
            intro K hK
            go_wp2_with fail
            refine wp_loop_once ?_
            go_wp2_with fail
            all_goals exact Met.intro (st_err6 HV.out (by decide) (scommit_num g n h ls (-1) sa sc pa pc x HV.out.st ua un uc a b hun HAB.out) is_e1 HQ.out)
          · have e3 : decide (b < 0) = false := by simpa using q3
            have e4 : decide (2147483647 < b) = true := by have h9 := HAB.out; simp; omega
            clear q1 q2 q3
            go_wp2_with fail
            refine Met.intro (tailQ_step rfl ?_)
            try clear hK
            try clear K
            intro K hK
            go_wp2_with fail
            refine Met.intro (tailQ_step rfl ?_)
            try clear hK
            try clear K
            intro K hK
            go_wp2_with fail
            refine Met.intro (tailQ_step rfl ?_)
            try clear hK
            try clear K
            intro K hK
            go_wp2_with fail
            refine wp_loop_once ?_
            go_wp2_with fail
            all_goals exact Met.intro (st_err6 HV.out (by decide) (scommit_num g n h ls (-1) sa sc pa pc x HV.out.st ua un uc a b hun HAB.out) is_e1 HQ.out)
    · skip
      have ha0 : 0 ≤ a := by omega
      have ha1 : a ≤ 2147483647 := by omega
      have hb0 : 0 ≤ b := by omega
      have hb1 : b ≤ 2147483647 := by omega
      have e1 : decide (a < 0) = false := by simp; omega
      have e2 : decide (b < 0) = false := by simp; omega
      have e3 : decide (2147483647 < a) = false := by simp; omega
      have e4 : decide (2147483647 < b) = false := by simp; omega
      clear hab
      go_wp2_with fail
      refine Met.intro (tailQ_step rfl ?_)
      try clear hK
      try clear K
      intro K hK
      go_wp2_with fail
      refine Met.intro (tailQ_step rfl ?_)
      try clear hK
      try clear K
      intro K hK
      go_wp2_with fail
      refine Met.intro (tailQ_step rfl ?_)
      try clear hK
      try clear K
      intro K hK
      go_wp2_with fail
      go_loopw [27, 28] (fun s27 s28 wi => ∃ i : Nat, i ≤ un ∧ s28 = .int .i64 (i : Int) ∧ Hid (wi = x) ∧ Hid ((s27 = .int .i64 0 ∧ ∀ (j : Nat) (p : Pt), j < i → us[j]? = some p → Mx.inside n p.at_ = true) ∨ (s27 = .int .i64 1 ∧ ∃ (j : Nat) (p : Pt), us[j]? = some p ∧ Mx.inside n p.at_ = false))) (fun s27 s28 _ => un + 1 - (intOf s28).toNat)
      case atStart => exact ⟨0, by omega, rfl, rfl, .inl ⟨rfl, fun j p hj _ => absurd hj (by omega)⟩⟩
      case round =>
        obtain ⟨i, hi, rfl, hw, hJ⟩ := hrel
        rw [hw.out]
        rcases hJ.out with ⟨rfl, hI⟩ | ⟨rfl, hO⟩
        · have HI := hide hI
          clear hJ hI
          by_cases hiu : i < un
          · have hii : (i : Int) < un := by omega
            obtain ⟨bb, off, p, hba, hbw, hp, c0, c1, c2, c3, c4, c5, c6, c7, c8⟩ := HU.out.at_ i hiu
            subst hba
            have HP := hide hp
            clear hp c1 c2 c3 c4 c5 c6 c7 c8
            by_cases hp0 : p.at_ < 0
            · have f1 : decide (p.at_ < 0) = true := by simpa using hp0
              have HN := hide (show Mx.inside n p.at_ = false by unfold Mx.inside; simp; omega)
              clear hp0
              go_wp2_with fail
              exact ⟨⟨i + 1, by omega, by go_num, trivial, .inr ⟨rfl, i, p, HP.out, HN.out⟩⟩, by simp [intOf]; omega⟩
            · have f1 : decide (p.at_ < 0) = false := by simpa using hp0
              by_cases hpn : (n : Int) ≤ p.at_
              · have f2 : decide ((n : Int) ≤ p.at_) = true := by simpa using hpn
                have HN := hide (show Mx.inside n p.at_ = false by unfold Mx.inside; simp; omega)
                clear hp0 hpn
                go_wp2_with fail
                exact ⟨⟨i + 1, by omega, by go_num, trivial, .inr ⟨rfl, i, p, HP.out, HN.out⟩⟩, by simp [intOf]; omega⟩
              · have f2 : decide ((n : Int) ≤ p.at_) = false := by simpa using hpn
                have HN := hide (show Mx.inside n p.at_ = true by unfold Mx.inside; simp; omega)
                have HI2 := hide (show ∀ (j : Nat) (p' : Pt), j < i + 1 → us[j]? = some p' → Mx.inside n p'.at_ = true from fun j p' hj hp' => by
                  by_cases he : j = i
                  · subst he
                    rw [HP.out] at hp'
                    cases hp'
                    exact HN.out
                  · exact HI.out j p' (by omega) hp')
                clear hp0 hpn
                go_wp2_with fail
                exact ⟨⟨i + 1, by omega, by go_num, trivial, .inl ⟨rfl, HI2.out⟩⟩, by simp [intOf]; omega⟩
          · obtain rfl : un = i := by omega
            have HX := hide (show Mx.ccV n us = .nilIface from Mx.ccV_in (fun j p hj => HI.out j p (by have h9 := (List.getElem?_eq_some_iff.1 hj).1; have h8 := HU.out.1; omega) hj))
            go_wp2_with fail
            exact Met.intro (st_ok6 HV.out HU0.out HX.out hun ha0 ha1 hb0 hb1 HQ.out)
        · obtain ⟨j, p, hj, hp⟩ := hO
          have HX := hide (Mx.ccV_out hj hp)
          clear hJ hj hp
          go_wp2_with fail
          all_goals exact Met.intro (st_err6 HV.out (by decide) (scommit_out g n h ls (-1) sa sc pa pc x HV.out.st ua un uc us HU.out a b hun ha0 ha1 hb0 hb1 HX.out) is_e1 HQ.out)


end Go.Proofs.Ytfbmaemnbolplaa

/-
  StoreSays: its loop.
-/
namespace Go.Proofs.Ytfbmaemnbolplaa
open Go.RowKit

set_option maxHeartbeats 16000000 in
set_option maxRecDepth 100000 in
theorem st14 {w x : World} {g n ba : Nat} {bl : List B8} {a b : Int} {h : Nat} {ls : List B8} {sa : Option Addr} {sc : Nat} {pa : Option Addr} {pc : Nat} {oa ta : Option Addr} {on oc tn tc : Nat} {one two : List Pt} (hv : SV w x g n ba bl 0 0 h ls sa sc pa pc) (ho : PL w oa on one) (ht : PL w ta tn two) {u5 u6 u7 u8 u9 u10 u11 u12 u13 u14 u15 u16 u17 u18 u19 u20 u25 u26 u27 u28 u29 u30 u31 u32 u33 u34 u35 u36 u37 u38 u39 u40 u41 u42 u43 u44 u45 u46 u47 u48 u49 u50 u51 u52 u53 u54 u55 u56 u57 u58 u59 u60 u61 u62 u63 u64 u65 u66 u67 u68 u69 u70 u71 u72 u73 u74 u75 u76 u77 u78 u79 u80 u81 u82 u83 u84 u85 u86 u87 u88 u89 u90 u91 u92 u93 u94 u95 u96 u97 u98 u99 u100 u101 u102 u103 u104 u105 u106 u107 u108 u109 u110 u111 u112 u113 u114 u115 u116 u117 u118 u119 u120 u121 u122 u123 u124 u125 u126 u127 u128 u129 u130 u131 u132 u133 u134 u135 u136 u137 u138 u139 u140 u141 u142 u143 u144 u145 u146 u147 u148 u149 u150 u151 u152 u153 u154 u155 u156 u157 u158 u159 u160 u161 u162 u163 u164 u165 u166 u167 u168 u169 u170 u171 u172 u173 u174 u175 u176 u177 u178 u179 u180 u181 u182 u183 u184 u185 u186 u187 u188 u189 u190 u191 u192 u193 u194 u195 u196 u197 u198 u199 u200 u201 u202 u203 u204 u205 u206 u207 u208 u209 u210 u211 u212 u213 u214 u215 u216 u217 u218 u219 u220 u221 u222 u223 u224 u225 u226 u227 u228 u229 u230 u231 u232 u233 u234 u235 u236 u237 u238 u239 u240 u241 u242 u243 u244 u245 u246 u247 u248 u249 u250 u251 u252 u253 u254 u255 u256 u257 u258 u259 u260 u261 u262 u263 u264 u265 u266 u267 u268 u269 u270 u271 u272 u273 u274 u275 u276 u277 : Value} :
    TailG Try.f3 (fun e w' => e = .returned (.bool true) ∧ Below w.heap.size w w') 14 ⟨#[.int .i64 (n : Int), .slice oa on oc, .slice ta tn tc, .int .i64 a, .int .i64 b, u5, u6, u7, u8, u9, u10, u11, u12, u13, u14, u15, u16, u17, u18, u19, u20, .pointer (some ⟨g, 0, none⟩), .slice (some ⟨ba, 0, none⟩) n n, .int .i64 0, .int .i64 0, u25, u26, u27, u28, u29, u30, u31, u32, u33, u34, u35, u36, u37, u38, u39, u40, u41, u42, u43, u44, u45, u46, u47, u48, u49, u50, u51, u52, u53, u54, u55, u56, u57, u58, u59, u60, u61, u62, u63, u64, u65, u66, u67, u68, u69, u70, u71, u72, u73, u74, u75, u76, u77, u78, u79, u80, u81, u82, u83, u84, u85, u86, u87, u88, u89, u90, u91, u92, u93, u94, u95, u96, u97, u98, u99, u100, u101, u102, u103, u104, u105, u106, u107, u108, u109, u110, u111, u112, u113, u114, u115, u116, u117, u118, u119, u120, u121, u122, u123, u124, u125, u126, u127, u128, u129, u130, u131, u132, u133, u134, u135, u136, u137, u138, u139, u140, u141, u142, u143, u144, u145, u146, u147, u148, u149, u150, u151, u152, u153, u154, u155, u156, u157, u158, u159, u160, u161, u162, u163, u164, u165, u166, u167, u168, u169, u170, u171, u172, u173, u174, u175, u176, u177, u178, u179, u180, u181, u182, u183, u184, u185, u186, u187, u188, u189, u190, u191, u192, u193, u194, u195, u196, u197, u198, u199, u200, u201, u202, u203, u204, u205, u206, u207, u208, u209, u210, u211, u212, u213, u214, u215, u216, u217, u218, u219, u220, u221, u222, u223, u224, u225, u226, u227, u228, u229, u230, u231, u232, u233, u234, u235, u236, u237, u238, u239, u240, u241, u242, u243, u244, u245, u246, u247, u248, u249, u250, u251, u252, u253, u254, u255, u256, u257, u258, u259, u260, u261, u262, u263, u264, u265, u266, u267, u268, u269, u270, u271, u272, u273, u274, u275, u276, u277], []⟩ x := by
  have HV0 := hide hv
  have HO := hide ho
  have HT := hide ht
  clear hv ho ht
  have hn1 := HV0.out.hd.n1
  have hn2 := HV0.out.hd.n2
  refine tailG_step rfl ?_
  intro K hK
  go_wp2_with fail
  go_loopw [3, 4, 23, 24, 25] (fun s3 s4 s23 s24 s25 wr => ∃ (a b sx sy : Int) (k : Nat) (bl : List B8) (h : Nat) (ls : List B8) (sa : Option Addr) (sc : Nat) (pa : Option Addr) (pc : Nat), s3 = .int .i64 a ∧ s4 = .int .i64 b ∧ s23 = .int .i64 sx ∧ s24 = .int .i64 sy ∧ s25 = .int .i64 (k : Int) ∧ k ≤ 2 ∧ Hid (SV w wr g n ba bl sx sy h ls sa sc pa pc)) (fun _ _ _ _ s25 _ => 2 - (intOf s25).toNat)
  case atStart => exact ⟨a, b, 0, 0, 0, bl, h, ls, sa, sc, pa, pc, rfl, rfl, rfl, rfl, rfl, by omega, HV0⟩
  case round =>
    clear HV0
    obtain ⟨a, b, sx, sy, k, bl, h, ls, sa, sc, pa, pc, rfl, rfl, rfl, rfl, rfl, hk, HV⟩ := hrel
    obtain ⟨v, hv⟩ : ∃ v : World, Hid (v = wr) := ⟨_, rfl⟩
    rw [← hv.out] at HV ⊢
    by_cases hk2 : k < 2
    · by_cases hk0 : k = 0
      · subst hk0
        refine seq_step ?_
        intro K1 hK1
        go_wp2_with fail
        refine Met.intro (seq_step ?_)
        intro K2 hK2
        refine wp_block ?_
        refine (show TailQ (bodyG (fstG (itsG 14 (Try.f3.body.getD .skip)))) _ 0 _ v from tailQ_step rfl ?_)
        intro K hK
        go_wp2_with fail
        refine Met.intro (tailQ_step rfl ?_)
        try clear hK
        try clear K
        intro K hK
        go_wp2_with fail
        refine Met.intro (st_r2 HV.out HO.out ?_)
        intro sx' sy' bl' h' ls' sa' sc' pa' pc' x' v26 v27 v28 v29 v167 v168 v169 v170 v171 v172 v173 v174 v175 v176 v177 v178 v179 v180 v181 v182 v183 v184 v185 v186 v187 v188 v189 v190 v191 v192 v193 v194 v195 v196 v197 v198 v199 v200 v201 v202 v203 v204 v205 v206 v207 v208 v209 v210 v211 v212 v213 v214 v215 v216 v217 v218 v219 v220 v221 v222 v223 v224 v225 v226 v227 v228 v229 v230 v231 v232 v233 v234 v235 v236 v237 v238 v239 v240 v241 v242 v243 v244 v245 v246 v247 v248 v249 v250 v251 v252 v253 v254 v255 v256 v257 V'
        have VV := hide V'
        clear V'
        refine hK2 _ _ (Met.intro ?_)
        clear hK2
        show Code.wp _ _ _ _ _
        go_wp2_with fail
        exact ⟨⟨b, a, sx', sy', 1, bl', h', ls', sa', sc', pa', pc', rfl, rfl, rfl, rfl, by go_num, by omega, VV⟩, by simp [intOf]⟩
      · obtain rfl : k = 1 := by omega
        refine seq_step ?_
        intro K1 hK1
        go_wp2_with fail
        refine Met.intro (seq_step ?_)
        intro K2 hK2
        refine wp_block ?_
        refine (show TailQ (bodyG (fstG (itsG 14 (Try.f3.body.getD .skip)))) _ 0 _ v from tailQ_step rfl ?_)
        intro K hK
        go_wp2_with fail
        refine Met.intro (tailQ_step rfl ?_)
        try clear hK
        try clear K
        intro K hK
        go_wp2_with fail
        refine Met.intro (st_r2 HV.out HT.out ?_)
        intro sx' sy' bl' h' ls' sa' sc' pa' pc' x' v26 v27 v28 v29 v167 v168 v169 v170 v171 v172 v173 v174 v175 v176 v177 v178 v179 v180 v181 v182 v183 v184 v185 v186 v187 v188 v189 v190 v191 v192 v193 v194 v195 v196 v197 v198 v199 v200 v201 v202 v203 v204 v205 v206 v207 v208 v209 v210 v211 v212 v213 v214 v215 v216 v217 v218 v219 v220 v221 v222 v223 v224 v225 v226 v227 v228 v229 v230 v231 v232 v233 v234 v235 v236 v237 v238 v239 v240 v241 v242 v243 v244 v245 v246 v247 v248 v249 v250 v251 v252 v253 v254 v255 v256 v257 V'
        have VV := hide V'
        clear V'
        refine hK2 _ _ (Met.intro ?_)
        clear hK2
        show Code.wp _ _ _ _ _
        go_wp2_with fail
        exact ⟨⟨b, a, sx', sy', 2, bl', h', ls', sa', sc', pa', pc', rfl, rfl, rfl, rfl, by go_num, by omega, VV⟩, by simp [intOf]⟩
    · obtain rfl : k = 2 := by omega
      go_wp2_with fail
      exact Met.intro (st15 HV.out)


end Go.Proofs.Ytfbmaemnbolplaa

/-
  StoreSays: where it asks little.
-/
namespace Go.Proofs.Ytfbmaemnbolplaa
open Go.RowKit

set_option maxHeartbeats 16000000 in
set_option maxRecDepth 100000 in
theorem ssays_long (n : Int) (oa ta : Option Addr) (on oc tn tc : Nat) (a b : Int) (w : World) (hl : 40 < on ∨ 40 < tn) :
    Calls Try.prog 3 #[.int .i64 n, .slice oa on oc, .slice ta tn tc, .int .i64 a, .int .i64 b] w (fun e w' => e = .returned (.bool true) ∧ Below w.heap.size w w') := by
  by_cases h1 : 40 < on
  · have d1 : decide ((40 : Int) < on) = true := by simp; omega
    have d1n : decide (40 < on) = true := by simpa using h1
    clear hl h1
    go_enter Try.func3, Try.ntmps3
    change TailG Try.f3 _ 0 _ w
    refine tailG_step rfl ?_
    intro K hK
    go_wp2_with fail
    refine Met.intro (tailG_step rfl ?_)
    try clear hK
    try clear K
    intro K hK
    go_wp2_with fail
    exact bodyPost_ret (v := .bool true) (by simp [results, Try.results3, go_sem]) rfl ⟨rfl, Below.refl _ _⟩
  · have h2 : 40 < tn := by omega
    have d1 : decide ((40 : Int) < on) = false := by simp; omega
    have d1n : decide (40 < on) = false := by simpa using h1
    have d2 : decide ((40 : Int) < tn) = true := by simp; omega
    have d2n : decide (40 < tn) = true := by simpa using h2
    clear hl h1 h2
    go_enter Try.func3, Try.ntmps3
    change TailG Try.f3 _ 0 _ w
    refine tailG_step rfl ?_
    intro K hK
    go_wp2_with fail
    refine Met.intro (tailG_step rfl ?_)
    try clear hK
    try clear K
    intro K hK
    go_wp2_with fail
    exact bodyPost_ret (v := .bool true) (by simp [results, Try.results3, go_sem]) rfl ⟨rfl, Below.refl _ _⟩

set_option maxHeartbeats 16000000 in
set_option maxRecDepth 100000 in
theorem ssays_range (n : Int) (oa ta : Option Addr) (on oc tn tc : Nat) (a b : Int) (w : World) (h1 : on ≤ 40) (h2 : tn ≤ 40) (hn : n < 1 ∨ 32 < n) :
    Calls Try.prog 3 #[.int .i64 n, .slice oa on oc, .slice ta tn tc, .int .i64 a, .int .i64 b] w (fun e w' => e = .returned (.bool true) ∧ Below w.heap.size w w') := by
  have d1 : decide ((40 : Int) < on) = false := by simp; omega
  have d1n : decide (40 < on) = false := by simp; omega
  have d2 : decide ((40 : Int) < tn) = false := by simp; omega
  have d2n : decide (40 < tn) = false := by simp; omega
  have HN := hide hn
  have hz : ∀ (x y : Int) (W : World), (binOp .eql 24 (.iface 35 (.int .i64 x)) (.iface 35 (.int .i64 y))).run Try.prog W = .ok (.bool (x == y)) W :=
    fun x y W => Lib.run_eql_iface_int W x y Try.underlying24 (by kernel_rfl) Try.underlying35
  clear h1 h2 hn
  go_enter Try.func3, Try.ntmps3
  change TailG Try.f3 _ 0 _ w
  refine tailG_step rfl ?_
  intro K hK
  go_wp2_with fail
  refine Met.intro (tailG_step rfl ?_)
  try clear hK
  try clear K
  intro K hK
  go_wp2_with fail
  refine Met.intro (tailG_step rfl ?_)
  try clear hK
  try clear K
  intro K hK
  go_wp2_with fail
  refine (need_err n w HN.out).mono ?_
  rintro e wz ⟨rfl, hw⟩
  obtain rfl := hw.symm
  clear hw
  go_wp2_with fail
  refine Met.intro (tailG_step rfl ?_)
  try clear hK
  try clear K
  intro K hK
  go_wp2_with fail
  refine (format_err n w HN.out).mono ?_
  rintro e w1 ⟨rfl, E1⟩
  have D1 := hide E1
  clear E1
  obtain ⟨W2, hW2⟩ : ∃ W2 : World, Hid (W2 = w1.alloc (.cells #[.slice none 0 0, .slice none 0 0, .int .i64 0] 29)) := ⟨_, rfl⟩
  have X2 := hide (show Bx W2 w1.heap.size #[.slice none 0 0, .slice none 0 0, .int .i64 0] 29 by rw [hW2.out]; exact Bx.new w1 _ _)
  have D2 := hide (show Below w.heap.size w W2 by rw [hW2.out]; exact D1.out.alloc D1.out.size _)
  go_wp2_with fail
  rw [← hW2.out]
  refine Met.intro (tailG_step rfl ?_)
  try clear hK
  try clear K
  intro K hK
  obtain ⟨C, hC, HC⟩ := make_blocks 1 (by omega)
  obtain ⟨W3, hW3⟩ : ∃ W3 : World, Hid (W3 = W2.alloc (.cells C 38)) := ⟨_, rfl⟩
  have B3 := hide (show BL W3 (some ⟨W2.heap.size, 0, none⟩) 1 (List.replicate 1 zB) by rw [hW3.out]; exact (HC.out W2 0 (by omega)).asRow)
  have F3 := hide (show Below W2.heap.size W2 W3 by rw [hW3.out]; exact below_alloc _ _)
  have X3 := hide (X2.out.later F3.out X2.out.lt)
  have D3 := hide (show Below w.heap.size w W3 from D2.out.trans (F3.out.mono D2.out.size))
  have hC1 : ∀ w : World, (Instr.makeSlice 27 (.int .i64 1) (.int .i64 1)).run Try.prog w = .ok (.slice (some ⟨w.heap.size, 0, none⟩) 1 1) (w.alloc (.cells C 38)) := hC
  clear hC
  obtain ⟨dd, e1, e2⟩ : ∃ dd : Bool, decide (n < 1) = dd ∧ (dd = false → decide (32 < n) = true) := ⟨_, rfl, fun h => by have h9 := HN.out; simp at h ⊢; omega⟩
  have HE2 := hide e2
  clear e2
  cases dd
  all_goals
    first
      | (have e2 := HE2.out rfl; clear HE2)
      | clear HE2
    go_wp2_with fail
    rw [← hW3.out]
    refine (open_need (some ⟨W2.heap.size, 0, none⟩) none 1 1 0 0 (-1) n (List.replicate 1 zB) [] W3 B3.out (PL.nil W3) HN.out).mono ?_
    rintro e w4 ⟨rfl, E4⟩
    have X4 := hide (X3.out.later E4 X3.out.lt)
    have D4 := hide (show Below w.heap.size w w4 from D3.out.trans (E4.mono D3.out.size))
    clear E4
    obtain ⟨x0, x1, x2⟩ := X4.out.three
    go_wp2_with fail
    refine (sameDisk_any none none none none 0 0 0 0 0 0 0 0 0 0 [] [] [] [] w4 (BL.nil w4) (PL.nil w4) (BL.nil w4) (PL.nil w4) rfl rfl rfl).mono ?_
    rintro e w5 ⟨rfl, E5⟩
    have D5 := hide (show Below w.heap.size w w5 from D4.out.trans (E5.mono D4.out.size))
    clear E5 x0 x1 x2
    go_wp2_with fail
    exact bodyPost_ret (v := .bool true) (by simp [results, Try.results3, go_sem]) rfl ⟨rfl, D5.out⟩


end Go.Proofs.Ytfbmaemnbolplaa

/-
  StoreSays: the law.
-/
namespace Go.Proofs.Ytfbmaemnbolplaa
open Go.RowKit

set_option maxHeartbeats 16000000 in
set_option maxRecDepth 100000 in
theorem ssays_ok (n : Nat) (oa ta : Option Addr) (on oc tn tc : Nat) (one two : List Pt) (a b : Int) (w : World) (ho : PL w oa on one) (ht : PL w ta tn two) (h1 : on ≤ 40) (h2 : tn ≤ 40) (hn1 : 1 ≤ n) (hn2 : n ≤ 32) :
    Calls Try.prog 3 #[.int .i64 (n : Int), .slice oa on oc, .slice ta tn tc, .int .i64 a, .int .i64 b] w (fun e w' => e = .returned (.bool true) ∧ Below w.heap.size w w') := by
  have d1 : decide ((40 : Int) < on) = false := by simp; omega
  have d1n : decide (40 < on) = false := by simp; omega
  have d2 : decide ((40 : Int) < tn) = false := by simp; omega
  have d2n : decide (40 < tn) = false := by simp; omega
  have HO := hide ho
  have HT := hide ht
  have hz : ∀ (x y : Int) (W : World), (binOp .neq 24 (.iface 35 (.int .i64 x)) (.iface 35 (.int .i64 y))).run Try.prog W = .ok (.bool (x != y)) W :=
    fun x y W => Lib.run_neq_iface_int W x y Try.underlying24 (by kernel_rfl) Try.underlying35
  clear h1 h2 ho ht
  obtain ⟨N, hN⟩ : ∃ N : Nat, Hid (N = Mx.sz n) := ⟨_, rfl⟩
  have hN1 : 1 ≤ N := by rw [hN.out]; unfold Mx.sz; omega
  have hN2 : N ≤ 67 := by rw [hN.out]; unfold Mx.sz; omega
  have f1 : decide ((n : Int) < 1) = false := by simp; omega
  have f2 : decide ((32 : Int) < n) = false := by simp; omega
  have f3 : decide ((N : Int) < 1) = false := by simp; omega
  have f4 : decide ((200 : Int) < N) = false := by simp; omega
  go_enter Try.func3, Try.ntmps3
  change TailG Try.f3 _ 0 _ w
  refine tailG_step rfl ?_
  intro K hK
  go_wp2_with fail
  refine Met.intro (tailG_step rfl ?_)
  try clear hK
  try clear K
  intro K hK
  go_wp2_with fail
  refine Met.intro (tailG_step rfl ?_)
  try clear hK
  try clear K
  intro K hK
  go_wp2_with fail
  refine (need_ok n w hn1 hn2).mono ?_
  rintro e wz ⟨rfl, hw⟩
  obtain rfl := hw.symm
  clear hw
  rw [← hN.out]
  go_wp2_with fail
  refine Met.intro (tailG_step rfl ?_)
  try clear hK
  try clear K
  intro K hK
  go_wp2_with fail
  refine (format_ok n w hn1 hn2).mono ?_
  rintro e w1 ⟨a1, c1, rfl, hb1, D1⟩
  rw [← hN.out] at hb1 ⊢
  obtain ⟨W2, hW2⟩ : ∃ W2 : World, Hid (W2 = w1.alloc (.cells #[.slice a1 N c1, .slice none 0 0, .int .i64 (-1)] 29)) := ⟨_, rfl⟩
  have X2 := hide (show Bx W2 w1.heap.size #[.slice a1 N c1, .slice none 0 0, .int .i64 (-1)] 29 by rw [hW2.out]; exact Bx.new w1 _ _)
  have E2 := hide (show Below w1.heap.size w1 W2 by rw [hW2.out]; exact below_alloc _ _)
  have D2 := hide (show Below w.heap.size w W2 from D1.out.trans (E2.out.mono D1.out.size))
  have B2 := hide (hb1.out.later E2.out)
  clear hb1
  go_wp2_with fail
  rw [← hW2.out]
  refine Met.intro (tailG_step rfl ?_)
  try clear hK
  try clear K
  intro K hK
  go_wp2_with fail
  refine Met.intro (tailG_step rfl ?_)
  try clear hK
  try clear K
  intro K hK
  obtain ⟨x0, x1, x2⟩ := X2.out.three
  go_wp2_with fail
  refine Met.intro (tailG_step rfl ?_)
  try clear hK
  try clear K
  intro K hK
  obtain ⟨M, hM, hM1⟩ : ∃ M : Nat, Hid (M = N + 1) ∧ (N : Int) + 1 = (M : Int) := ⟨_, rfl, by omega⟩
  obtain ⟨C, hC, HC⟩ := make_blocks M (by rw [hM.out]; omega)
  obtain ⟨W3, hW3⟩ : ∃ W3 : World, Hid (W3 = W2.alloc (.cells C 38)) := ⟨_, rfl⟩
  have B3 := hide (show BL W3 (some ⟨W2.heap.size, 0, none⟩) M (List.replicate M zB) by rw [hW3.out]; exact (HC.out W2 0 (by omega)).asRow)
  have F3 := hide (show Below W2.heap.size W2 W3 by rw [hW3.out]; exact below_alloc _ _)
  clear x0 x1 x2
  go_wp2_with fail
  rw [← hW3.out]
  refine (open_state (some ⟨W2.heap.size, 0, none⟩) none M M 0 0 (-1) n (List.replicate M zB) [] W3 B3.out (PL.nil W3) hn1 hn2 (.inr (.inl (by rw [hM.out, hN.out]; omega)))).mono ?_
  rintro e w4 ⟨rfl, E4⟩
  have F4 := hide (show Below W2.heap.size W2 w4 from F3.out.trans (E4.mono F3.out.size))
  clear E4 hC HC hM1
  have X4 := hide (X2.out.later F4.out X2.out.lt)
  have B4 := hide (B2.out.later F4.out)
  have D4 := hide (show Below w.heap.size w w4 from D2.out.trans (F4.out.mono D2.out.size))
  go_wp2_with fail
  refine Met.intro (tailG_step rfl ?_)
  try clear hK
  try clear K
  intro K hK
  obtain ⟨x0, x1, x2⟩ := X4.out.three
  obtain ⟨W5, hW5⟩ : ∃ W5 : World, Hid (W5 = w4.alloc (.cells #[.int .i64 0, .int .u8 0, .int .u8 0, .int .u8 0, .int .u8 0, .int .u8 0, .int .u8 0, .int .u8 0, .int .u8 0] 40)) := ⟨_, rfl⟩
  have F5 := hide (show Below w4.heap.size w4 W5 by rw [hW5.out]; exact below_alloc _ _)
  have P5 := hide (show PL W5 (some ⟨w4.heap.size, 0, none⟩) 1 [⟨0, zB⟩] by
    refine ⟨rfl, rfl, by unfold maxLen; omega, fun _ => ⟨_, _, rfl, by rw [hW5.out]; simp, fun j u hj => ?_⟩⟩
    have h9 := (Bx.new w4 #[.int .i64 0, .int .u8 0, .int .u8 0, .int .u8 0, .int .u8 0, .int .u8 0, .int .u8 0, .int .u8 0, .int .u8 0] 40).cell j
    rw [← hW5.out] at h9
    rw [Nat.zero_add, h9, ← hj]
    simp [flatP, Pt.cs, zB])
  have B5 := hide (B4.out.later F5.out)
  go_wp2_with fail
  rw [← hW5.out]
  refine (open_state a1 (some ⟨w4.heap.size, 0, none⟩) N c1 1 1 (-1) n (List.replicate N zB) [⟨0, zB⟩] W5 B5.out P5.out hn1 hn2 (.inr (.inr (by omega)))).mono ?_
  rintro e w6 ⟨rfl, E6⟩
  have F6 := hide (show Below w4.heap.size w4 w6 from F5.out.trans (E6.mono F5.out.size))
  clear E6 x0 x1 x2
  have X6 := hide (X4.out.later F6.out X4.out.lt)
  have B6 := hide (B4.out.later F6.out)
  have D6 := hide (show Below w.heap.size w w6 from D4.out.trans (F6.out.mono D4.out.size))
  go_wp2_with fail
  refine Met.intro (tailG_step rfl ?_)
  try clear hK
  try clear K
  intro K hK
  obtain ⟨x0, x1, x2⟩ := X6.out.three
  go_wp2_with fail
  have HD := hide (show Mx.Hd n 0 (List.replicate N zB) (List.replicate n zB) 0 0 by rw [hN.out]; exact Mx.Hd.zero hn1 hn2)
  refine (open_ok a1 none N c1 0 0 (-1) n (List.replicate N zB) [] w6 B6.out (PL.nil w6) hn1 hn2 hN.out (by rw [hN.out]; exact Mx.dmay_sz hn2) rfl (by omega) (by omega) (by omega) _ rfl 0 HD.out.mark HD.out.mk0).mono ?_
  rintro e w7 ⟨g, sa, sc, pa, pc, rfl, hg, S7, D7⟩
  have E7 := hide (show Below w.heap.size w w7 from D6.out.trans (D7.out.mono D6.out.size))
  clear x0 x1 x2
  go_wp2_with fail
  refine Met.intro (tailG_step rfl ?_)
  try clear hK
  try clear K
  intro K hK
  go_wp2_with fail
  refine Met.intro (tailG_step rfl ?_)
  try clear hK
  try clear K
  intro K hK
  obtain ⟨C, hC, HC⟩ := make_blocks n (by omega)
  obtain ⟨W8, hW8⟩ : ∃ W8 : World, Hid (W8 = w7.alloc (.cells C 38)) := ⟨_, rfl⟩
  have F8 := hide (show Below w7.heap.size w7 W8 by rw [hW8.out]; exact below_alloc _ _)
  have V8 := hide (show SV w W8 g n w7.heap.size (List.replicate n zB) 0 0 0 (List.replicate N zB) sa sc pa pc from
    { st := S7.out.later F8.out, hd := HD.out, ow := by rw [hW8.out]; exact HC.out w7 w.heap.size E7.out.size, ne := by have h9 := Bx.lt S7.out.bx; omega, gl := Nat.le_trans D6.out.size hg.out, bel := E7.out.trans (F8.out.mono E7.out.size) })
  go_wp2_with fail
  rw [← hW8.out]
  clear hC HC
  refine Met.intro (tailG_step rfl ?_)
  try clear hK
  try clear K
  intro K hK
  go_wp2_with fail
  refine Met.intro (tailG_step rfl ?_)
  try clear hK
  try clear K
  intro K hK
  go_wp2_with fail
  refine Met.intro (tailG_step rfl ?_)
  try clear hK
  try clear K
  intro K hK
  go_wp2_with fail
  refine (sees_any g n 0 (List.replicate N zB) (-1) sa sc pa pc W8 V8.out.st (by omega) (List.replicate n zB) 0 0 V8.out.hd (some ⟨w7.heap.size, 0, none⟩) n V8.out.ow.asRow).mono ?_
  rintro e w9 ⟨rfl, E9⟩
  have V9 := hide (V8.out.later E9)
  clear E9
  go_wp2_with fail
  exact Met.intro (st14 V9.out HO.out HT.out)

theorem ssays_any (n : Int) (oa ta : Option Addr) (on oc tn tc : Nat) (one two : List Pt) (a b : Int) (w : World) (ho : PL w oa on one) (ht : PL w ta tn two) :
    Calls Try.prog 3 #[.int .i64 n, .slice oa on oc, .slice ta tn tc, .int .i64 a, .int .i64 b] w (fun e w' => e = .returned (.bool true) ∧ Below w.heap.size w w') := by
  by_cases hl : 40 < on ∨ 40 < tn
  · exact ssays_long n oa ta on oc tn tc a b w hl
  · by_cases hn : n < 1 ∨ 32 < n
    · exact ssays_range n oa ta on oc tn tc a b w (by omega) (by omega) hn
    · obtain ⟨m, rfl⟩ : ∃ m : Nat, n = (m : Int) := ⟨n.toNat, by omega⟩
      exact ssays_ok m oa ta on oc tn tc one two a b w ho ht (by omega) (by omega) (by omega) (by omega)


end Go.Proofs.Ytfbmaemnbolplaa
