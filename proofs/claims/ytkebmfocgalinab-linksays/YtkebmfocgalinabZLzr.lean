/-
  The law LinkSays in parts: the sender that is to be.
-/
import Derived.Test.YtkebmfocgalinabZEl

namespace Go.Proofs.Ytkebmfocgalinab
open Go.RowKit

set_option maxHeartbeats 16000000 in
set_option maxRecDepth 100000 in
theorem lt14 {w v : World} {ses base : Int} {qa : Option Addr} {qn qc : Nat} {fs : List Fr} {kd : Int} {a1 : Option Addr} {n1 c1 : Nat} {a2 : Option Addr} {n2 c2 : Nat} {nm bs : List Int} {la : Option Addr} {ln lc : Nat} {u0 u1 u4 u5 u8 u9 u10 u11 u13 u14 u15 u16 u17 u18 u19 u20 u21 u22 u23 u24 u25 u26 u27 u28 u29 u30 u31 u32 u33 u34 u35 u36 u37 u38 u39 u40 u41 u42 u43 u44 u45 u46 u47 u48 u49 u50 u51 u52 u53 u54 u55 u56 u57 u58 u59 u60 u61 u62 u63 u64 u65 u66 u67 u68 u69 u70 u71 u72 u73 u74 u75 u76 u77 u78 u79 u80 u81 u82 u83 u84 u85 u86 u87 u88 u89 u90 u91 u92 u93 u94 u95 u96 u97 u98 u99 u100 u101 u102 u103 u104 u105 u106 u107 u108 u109 u110 u111 u112 u113 u114 u115 u116 u117 u118 u119 u120 u121 u122 u123 u124 u125 u126 u127 u128 u129 u130 u131 u132 u133 u134 u135 u136 u137 u138 : Value} {x : World} {gx : Nat} {p0 p1 p2 : Value} (F : Lf w v ses base qa qn qc fs kd a1 n1 c1 a2 n2 c2 nm bs la ln lc) (D : Hid (Below v.heap.size v x)) (XX : Hid (Bx x gx #[p0, p1, p2] 79)) (VX : Hid (SdV x (.agg #[p0, p1, p2]) ⟨ses, base, fs ++ [⟨kd, nm, n2, bs⟩]⟩)):
    TailL 14 w ⟨#[u0, u1, .pointer (some ⟨w.heap.size, 0, none⟩), .pointer (some ⟨(w.heap.size + 1), 0, none⟩), u4, u5, .slice la ln lc, .nilIface, u8, u9, u10, u11, .pointer (some ⟨gx, 0, none⟩), u13, u14, u15, u16, u17, u18, u19, u20, u21, u22, u23, u24, u25, u26, u27, u28, u29, u30, u31, u32, u33, u34, u35, u36, u37, u38, u39, u40, u41, u42, u43, u44, u45, u46, u47, u48, u49, u50, u51, u52, u53, u54, u55, u56, u57, u58, u59, u60, u61, u62, u63, u64, u65, u66, u67, u68, u69, u70, u71, u72, u73, u74, u75, u76, u77, u78, u79, u80, u81, u82, u83, u84, u85, u86, u87, u88, u89, u90, u91, u92, u93, u94, u95, u96, u97, u98, u99, u100, u101, u102, u103, u104, u105, u106, u107, u108, u109, u110, u111, u112, u113, u114, u115, u116, u117, u118, u119, u120, u121, u122, u123, u124, u125, u126, u127, u128, u129, u130, u131, u132, u133, u134, u135, u136, u137, u138], []⟩ x := by
  refine tailL_step rfl ?_
  intro K hK
  have HQ := hide (F.hq.later D.out)
  have HI := hide (F.hi.later D.out)
  have HK := hide (F.hk.later D.out)
  have HN := hide F.hq.1
  have hq1000 : qn ≤ 1000 := by have := F.q100; omega
  have hql : fs.length ≤ 100000 := by have h1 := HN.out; omega
  have XB := hide (F.xb.later D.out F.xb.lt)
  have XF := hide (F.xf.later D.out F.xf.lt)
  have KS := hide (show ∀ W : World, Below x.heap.size x W → W.cell? ⟨w.heap.size, 0, none⟩ = some (.int .i64 ses) ∧ W.cell? ⟨w.heap.size, 1, none⟩ = some (.int .i64 base) ∧ W.cell? ⟨w.heap.size, 2, none⟩ = some (.slice qa qn qc) ∧ W.cell? ⟨w.heap.size + 1, 0, none⟩ = some (.int .i64 kd) ∧ W.cell? ⟨w.heap.size + 1, 1, none⟩ = some (.slice a1 n1 c1) ∧ W.cell? ⟨w.heap.size + 1, 2, none⟩ = some (.slice a2 n2 c2) from fun W hW => by
    obtain ⟨y0, y1, y2⟩ := (XB.out.later hW XB.out.lt).three
    obtain ⟨z0, z1, z2⟩ := (XF.out.later hW XF.out.lt).three
    exact ⟨y0, y1, y2, z0, z1, z2⟩)
  obtain ⟨x0, x1, x2⟩ := XB.out.three
  obtain ⟨f0, f1, f2⟩ := XF.out.three
  go_region_held3 (fun w' => w'.cell? ⟨w.heap.size, 0, none⟩ = some (.int .i64 ses) ∧ w'.cell? ⟨w.heap.size, 1, none⟩ = some (.int .i64 base) ∧ w'.cell? ⟨w.heap.size, 2, none⟩ = some (.slice qa qn qc) ∧ w'.cell? ⟨w.heap.size + 1, 0, none⟩ = some (.int .i64 kd) ∧ w'.cell? ⟨w.heap.size + 1, 1, none⟩ = some (.slice a1 n1 c1) ∧ w'.cell? ⟨w.heap.size + 1, 2, none⟩ = some (.slice a2 n2 c2))
    (first
      | with_reducible exact KS.out _ (Below.refl _ _)
      | with_reducible exact KS.out _ (Below.refl _ _).drew
      | with_reducible exact KS.out _ (below_alloc x _)
      | with_reducible exact KS.out _ (nbB_1 x _)
      | with_reducible exact KS.out _ (nbA_2 x _ _)
      | with_reducible exact KS.out _ (nbB_2 x _ _)
      | with_reducible exact KS.out _ (nbA_3 x _ _ _)
      | with_reducible exact KS.out _ (nbB_3 x _ _ _)
      | with_reducible exact KS.out _ D4.out
      | with_reducible exact KS.out _ (nbD_1 D4.out _)
      | with_reducible exact KS.out _ (nbD_2 D4.out _ _)
      | with_reducible exact KS.out _ D6.out
      | with_reducible exact KS.out _ (nbD_1 D6.out _)
      | exact KS.out _ (set3_below D6.out HGA6.out _ _ _))
    (first
      | ((with_reducible show @ite _ _ _ (Oper.wp _ _ _ (x.alloc (.cells #[] 81)).drew _ _) _); refine lz_row (x := x) (w := (x.alloc (.cells #[] 81)).drew) rfl (.tmp 124) (.tmp 126) rfl x.heap.size (nbB_1 x (.cells #[] 81)) (nb1_1 x #[] 81 ) (by omega) rfl rfl HQ.out hq1000 ?_; intro v4 w4 O4 D4 T4 N4; have Q14 := hide (show 0 < n1 → ∀ p, a1 = some p → v4.ownBlock ≠ some p.block ∧ p.block < x.heap.size from fun h0 p hp => ⟨fun e => by have h1 := (O4.out.lt _ e).1; have h2 := HI.out.row.off h0 p hp; omega, HI.out.row.off h0 p hp⟩); have Q24 := hide (show 0 < n2 → ∀ p, a2 = some p → v4.ownBlock ≠ some p.block ∧ p.block < x.heap.size from fun h0 p hp => ⟨fun e => by have h1 := (O4.out.lt _ e).1; have h2 := HK.out.row.off h0 p hp; omega, HK.out.row.off h0 p hp⟩))
      | ((with_reducible show @ite _ _ _ (Oper.wp _ _ _ ((x.alloc (.cells #[] 81)).alloc (.cells #[.int .i64 kd, .slice a1 n1 c1, .slice a2 n2 c2] 81)).drew _ _) _); refine lz_row (x := x) (w := ((x.alloc (.cells #[] 81)).alloc (.cells #[.int .i64 kd, .slice a1 n1 c1, .slice a2 n2 c2] 81)).drew) rfl (.tmp 124) (.tmp 126) rfl x.heap.size (nbB_2 x (.cells #[] 81) (.cells #[.int .i64 kd, .slice a1 n1 c1, .slice a2 n2 c2] 81)) (nb1_2 x #[] 81 (.cells #[.int .i64 kd, .slice a1 n1 c1, .slice a2 n2 c2] 81)) (by omega) rfl rfl HQ.out hq1000 ?_; intro v4 w4 O4 D4 T4 N4; have XB4 := hide (T4.out (x.heap.size + 1) _ _ (by omega) (nb2_2 x (.cells #[] 81) #[.int .i64 kd, .slice a1 n1 c1, .slice a2 n2 c2] 81 )); have Q14 := hide (show 0 < n1 → ∀ p, a1 = some p → v4.ownBlock ≠ some p.block ∧ p.block < x.heap.size from fun h0 p hp => ⟨fun e => by have h1 := (O4.out.lt _ e).1; have h2 := HI.out.row.off h0 p hp; omega, HI.out.row.off h0 p hp⟩); have Q24 := hide (show 0 < n2 → ∀ p, a2 = some p → v4.ownBlock ≠ some p.block ∧ p.block < x.heap.size from fun h0 p hp => ⟨fun e => by have h1 := (O4.out.lt _ e).1; have h2 := HK.out.row.off h0 p hp; omega, HK.out.row.off h0 p hp⟩))
      | ((with_reducible show @ite _ _ _ (Oper.wp _ _ _ ((x.alloc (.cells #[] 81)).alloc (.cells #[.int .i64 0, .int .i64 0, .slice none 0 0] 79)).drew _ _) _); refine lz_row (x := x) (w := ((x.alloc (.cells #[] 81)).alloc (.cells #[.int .i64 0, .int .i64 0, .slice none 0 0] 79)).drew) rfl (.tmp 124) (.tmp 126) rfl x.heap.size (nbB_2 x (.cells #[] 81) (.cells #[.int .i64 0, .int .i64 0, .slice none 0 0] 79)) (nb1_2 x #[] 81 (.cells #[.int .i64 0, .int .i64 0, .slice none 0 0] 79)) (by omega) rfl rfl HQ.out hq1000 ?_; intro v4 w4 O4 D4 T4 N4; have XA4 := hide (T4.out (x.heap.size + 1) _ _ (by omega) (nb2_2 x (.cells #[] 81) #[.int .i64 0, .int .i64 0, .slice none 0 0] 79 )); have NA4 := hide (N4.out (x.heap.size + 1) ((nb2_2 x (.cells #[] 81) #[.int .i64 0, .int .i64 0, .slice none 0 0] 79 )).lt (by omega)); have HGA := hide (show x.heap.size ≤ (x.heap.size + 1) by omega); have Q14 := hide (show 0 < n1 → ∀ p, a1 = some p → v4.ownBlock ≠ some p.block ∧ p.block < x.heap.size from fun h0 p hp => ⟨fun e => by have h1 := (O4.out.lt _ e).1; have h2 := HI.out.row.off h0 p hp; omega, HI.out.row.off h0 p hp⟩); have Q24 := hide (show 0 < n2 → ∀ p, a2 = some p → v4.ownBlock ≠ some p.block ∧ p.block < x.heap.size from fun h0 p hp => ⟨fun e => by have h1 := (O4.out.lt _ e).1; have h2 := HK.out.row.off h0 p hp; omega, HK.out.row.off h0 p hp⟩))
      | ((with_reducible show @ite _ _ _ (Oper.wp _ _ _ ((x.alloc (.cells #[.int .i64 kd, .slice a1 n1 c1, .slice a2 n2 c2] 81)).alloc (.cells #[] 81)).drew _ _) _); refine lz_row (x := x) (w := ((x.alloc (.cells #[.int .i64 kd, .slice a1 n1 c1, .slice a2 n2 c2] 81)).alloc (.cells #[] 81)).drew) rfl (.tmp 124) (.tmp 126) rfl (x.heap.size + 1) (nbB_2 x (.cells #[.int .i64 kd, .slice a1 n1 c1, .slice a2 n2 c2] 81) (.cells #[] 81)) (nb2_2 x (.cells #[.int .i64 kd, .slice a1 n1 c1, .slice a2 n2 c2] 81) #[] 81 ) (by omega) rfl rfl HQ.out hq1000 ?_; intro v4 w4 O4 D4 T4 N4; have XB4 := hide (T4.out x.heap.size _ _ (by omega) (nb1_2 x #[.int .i64 kd, .slice a1 n1 c1, .slice a2 n2 c2] 81 (.cells #[] 81))); have Q14 := hide (show 0 < n1 → ∀ p, a1 = some p → v4.ownBlock ≠ some p.block ∧ p.block < x.heap.size from fun h0 p hp => ⟨fun e => by have h1 := (O4.out.lt _ e).1; have h2 := HI.out.row.off h0 p hp; omega, HI.out.row.off h0 p hp⟩); have Q24 := hide (show 0 < n2 → ∀ p, a2 = some p → v4.ownBlock ≠ some p.block ∧ p.block < x.heap.size from fun h0 p hp => ⟨fun e => by have h1 := (O4.out.lt _ e).1; have h2 := HK.out.row.off h0 p hp; omega, HK.out.row.off h0 p hp⟩))
      | ((with_reducible show @ite _ _ _ (Oper.wp _ _ _ ((x.alloc (.cells #[.int .i64 0, .int .i64 0, .slice none 0 0] 79)).alloc (.cells #[] 81)).drew _ _) _); refine lz_row (x := x) (w := ((x.alloc (.cells #[.int .i64 0, .int .i64 0, .slice none 0 0] 79)).alloc (.cells #[] 81)).drew) rfl (.tmp 124) (.tmp 126) rfl (x.heap.size + 1) (nbB_2 x (.cells #[.int .i64 0, .int .i64 0, .slice none 0 0] 79) (.cells #[] 81)) (nb2_2 x (.cells #[.int .i64 0, .int .i64 0, .slice none 0 0] 79) #[] 81 ) (by omega) rfl rfl HQ.out hq1000 ?_; intro v4 w4 O4 D4 T4 N4; have XA4 := hide (T4.out x.heap.size _ _ (by omega) (nb1_2 x #[.int .i64 0, .int .i64 0, .slice none 0 0] 79 (.cells #[] 81))); have NA4 := hide (N4.out x.heap.size ((nb1_2 x #[.int .i64 0, .int .i64 0, .slice none 0 0] 79 (.cells #[] 81))).lt (by omega)); have HGA := hide (show x.heap.size ≤ x.heap.size by omega); have Q14 := hide (show 0 < n1 → ∀ p, a1 = some p → v4.ownBlock ≠ some p.block ∧ p.block < x.heap.size from fun h0 p hp => ⟨fun e => by have h1 := (O4.out.lt _ e).1; have h2 := HI.out.row.off h0 p hp; omega, HI.out.row.off h0 p hp⟩); have Q24 := hide (show 0 < n2 → ∀ p, a2 = some p → v4.ownBlock ≠ some p.block ∧ p.block < x.heap.size from fun h0 p hp => ⟨fun e => by have h1 := (O4.out.lt _ e).1; have h2 := HK.out.row.off h0 p hp; omega, HK.out.row.off h0 p hp⟩))
      | ((with_reducible show @ite _ _ _ (Oper.wp _ _ _ (((x.alloc (.cells #[] 81)).alloc (.cells #[.int .i64 kd, .slice a1 n1 c1, .slice a2 n2 c2] 81)).alloc (.cells #[.int .i64 0, .int .i64 0, .slice none 0 0] 79)).drew _ _) _); refine lz_row (x := x) (w := (((x.alloc (.cells #[] 81)).alloc (.cells #[.int .i64 kd, .slice a1 n1 c1, .slice a2 n2 c2] 81)).alloc (.cells #[.int .i64 0, .int .i64 0, .slice none 0 0] 79)).drew) rfl (.tmp 124) (.tmp 126) rfl x.heap.size (nbB_3 x (.cells #[] 81) (.cells #[.int .i64 kd, .slice a1 n1 c1, .slice a2 n2 c2] 81) (.cells #[.int .i64 0, .int .i64 0, .slice none 0 0] 79)) (nb1_3 x #[] 81 (.cells #[.int .i64 kd, .slice a1 n1 c1, .slice a2 n2 c2] 81) (.cells #[.int .i64 0, .int .i64 0, .slice none 0 0] 79)) (by omega) rfl rfl HQ.out hq1000 ?_; intro v4 w4 O4 D4 T4 N4; have XB4 := hide (T4.out (x.heap.size + 1) _ _ (by omega) (nb2_3 x (.cells #[] 81) #[.int .i64 kd, .slice a1 n1 c1, .slice a2 n2 c2] 81 (.cells #[.int .i64 0, .int .i64 0, .slice none 0 0] 79))); have XA4 := hide (T4.out (x.heap.size + 2) _ _ (by omega) (nb3_3 x (.cells #[] 81) (.cells #[.int .i64 kd, .slice a1 n1 c1, .slice a2 n2 c2] 81) #[.int .i64 0, .int .i64 0, .slice none 0 0] 79 )); have NA4 := hide (N4.out (x.heap.size + 2) ((nb3_3 x (.cells #[] 81) (.cells #[.int .i64 kd, .slice a1 n1 c1, .slice a2 n2 c2] 81) #[.int .i64 0, .int .i64 0, .slice none 0 0] 79 )).lt (by omega)); have HGA := hide (show x.heap.size ≤ (x.heap.size + 2) by omega); have Q14 := hide (show 0 < n1 → ∀ p, a1 = some p → v4.ownBlock ≠ some p.block ∧ p.block < x.heap.size from fun h0 p hp => ⟨fun e => by have h1 := (O4.out.lt _ e).1; have h2 := HI.out.row.off h0 p hp; omega, HI.out.row.off h0 p hp⟩); have Q24 := hide (show 0 < n2 → ∀ p, a2 = some p → v4.ownBlock ≠ some p.block ∧ p.block < x.heap.size from fun h0 p hp => ⟨fun e => by have h1 := (O4.out.lt _ e).1; have h2 := HK.out.row.off h0 p hp; omega, HK.out.row.off h0 p hp⟩))
      | ((with_reducible show @ite _ _ _ (Oper.wp _ _ _ (((x.alloc (.cells #[] 81)).alloc (.cells #[.int .i64 0, .int .i64 0, .slice none 0 0] 79)).alloc (.cells #[.int .i64 kd, .slice a1 n1 c1, .slice a2 n2 c2] 81)).drew _ _) _); refine lz_row (x := x) (w := (((x.alloc (.cells #[] 81)).alloc (.cells #[.int .i64 0, .int .i64 0, .slice none 0 0] 79)).alloc (.cells #[.int .i64 kd, .slice a1 n1 c1, .slice a2 n2 c2] 81)).drew) rfl (.tmp 124) (.tmp 126) rfl x.heap.size (nbB_3 x (.cells #[] 81) (.cells #[.int .i64 0, .int .i64 0, .slice none 0 0] 79) (.cells #[.int .i64 kd, .slice a1 n1 c1, .slice a2 n2 c2] 81)) (nb1_3 x #[] 81 (.cells #[.int .i64 0, .int .i64 0, .slice none 0 0] 79) (.cells #[.int .i64 kd, .slice a1 n1 c1, .slice a2 n2 c2] 81)) (by omega) rfl rfl HQ.out hq1000 ?_; intro v4 w4 O4 D4 T4 N4; have XB4 := hide (T4.out (x.heap.size + 2) _ _ (by omega) (nb3_3 x (.cells #[] 81) (.cells #[.int .i64 0, .int .i64 0, .slice none 0 0] 79) #[.int .i64 kd, .slice a1 n1 c1, .slice a2 n2 c2] 81 )); have XA4 := hide (T4.out (x.heap.size + 1) _ _ (by omega) (nb2_3 x (.cells #[] 81) #[.int .i64 0, .int .i64 0, .slice none 0 0] 79 (.cells #[.int .i64 kd, .slice a1 n1 c1, .slice a2 n2 c2] 81))); have NA4 := hide (N4.out (x.heap.size + 1) ((nb2_3 x (.cells #[] 81) #[.int .i64 0, .int .i64 0, .slice none 0 0] 79 (.cells #[.int .i64 kd, .slice a1 n1 c1, .slice a2 n2 c2] 81))).lt (by omega)); have HGA := hide (show x.heap.size ≤ (x.heap.size + 1) by omega); have Q14 := hide (show 0 < n1 → ∀ p, a1 = some p → v4.ownBlock ≠ some p.block ∧ p.block < x.heap.size from fun h0 p hp => ⟨fun e => by have h1 := (O4.out.lt _ e).1; have h2 := HI.out.row.off h0 p hp; omega, HI.out.row.off h0 p hp⟩); have Q24 := hide (show 0 < n2 → ∀ p, a2 = some p → v4.ownBlock ≠ some p.block ∧ p.block < x.heap.size from fun h0 p hp => ⟨fun e => by have h1 := (O4.out.lt _ e).1; have h2 := HK.out.row.off h0 p hp; omega, HK.out.row.off h0 p hp⟩))
      | ((with_reducible show @ite _ _ _ (Oper.wp _ _ _ (((x.alloc (.cells #[.int .i64 kd, .slice a1 n1 c1, .slice a2 n2 c2] 81)).alloc (.cells #[] 81)).alloc (.cells #[.int .i64 0, .int .i64 0, .slice none 0 0] 79)).drew _ _) _); refine lz_row (x := x) (w := (((x.alloc (.cells #[.int .i64 kd, .slice a1 n1 c1, .slice a2 n2 c2] 81)).alloc (.cells #[] 81)).alloc (.cells #[.int .i64 0, .int .i64 0, .slice none 0 0] 79)).drew) rfl (.tmp 124) (.tmp 126) rfl (x.heap.size + 1) (nbB_3 x (.cells #[.int .i64 kd, .slice a1 n1 c1, .slice a2 n2 c2] 81) (.cells #[] 81) (.cells #[.int .i64 0, .int .i64 0, .slice none 0 0] 79)) (nb2_3 x (.cells #[.int .i64 kd, .slice a1 n1 c1, .slice a2 n2 c2] 81) #[] 81 (.cells #[.int .i64 0, .int .i64 0, .slice none 0 0] 79)) (by omega) rfl rfl HQ.out hq1000 ?_; intro v4 w4 O4 D4 T4 N4; have XB4 := hide (T4.out x.heap.size _ _ (by omega) (nb1_3 x #[.int .i64 kd, .slice a1 n1 c1, .slice a2 n2 c2] 81 (.cells #[] 81) (.cells #[.int .i64 0, .int .i64 0, .slice none 0 0] 79))); have XA4 := hide (T4.out (x.heap.size + 2) _ _ (by omega) (nb3_3 x (.cells #[.int .i64 kd, .slice a1 n1 c1, .slice a2 n2 c2] 81) (.cells #[] 81) #[.int .i64 0, .int .i64 0, .slice none 0 0] 79 )); have NA4 := hide (N4.out (x.heap.size + 2) ((nb3_3 x (.cells #[.int .i64 kd, .slice a1 n1 c1, .slice a2 n2 c2] 81) (.cells #[] 81) #[.int .i64 0, .int .i64 0, .slice none 0 0] 79 )).lt (by omega)); have HGA := hide (show x.heap.size ≤ (x.heap.size + 2) by omega); have Q14 := hide (show 0 < n1 → ∀ p, a1 = some p → v4.ownBlock ≠ some p.block ∧ p.block < x.heap.size from fun h0 p hp => ⟨fun e => by have h1 := (O4.out.lt _ e).1; have h2 := HI.out.row.off h0 p hp; omega, HI.out.row.off h0 p hp⟩); have Q24 := hide (show 0 < n2 → ∀ p, a2 = some p → v4.ownBlock ≠ some p.block ∧ p.block < x.heap.size from fun h0 p hp => ⟨fun e => by have h1 := (O4.out.lt _ e).1; have h2 := HK.out.row.off h0 p hp; omega, HK.out.row.off h0 p hp⟩))
      | ((with_reducible show @ite _ _ _ (Oper.wp _ _ _ (((x.alloc (.cells #[.int .i64 kd, .slice a1 n1 c1, .slice a2 n2 c2] 81)).alloc (.cells #[.int .i64 0, .int .i64 0, .slice none 0 0] 79)).alloc (.cells #[] 81)).drew _ _) _); refine lz_row (x := x) (w := (((x.alloc (.cells #[.int .i64 kd, .slice a1 n1 c1, .slice a2 n2 c2] 81)).alloc (.cells #[.int .i64 0, .int .i64 0, .slice none 0 0] 79)).alloc (.cells #[] 81)).drew) rfl (.tmp 124) (.tmp 126) rfl (x.heap.size + 2) (nbB_3 x (.cells #[.int .i64 kd, .slice a1 n1 c1, .slice a2 n2 c2] 81) (.cells #[.int .i64 0, .int .i64 0, .slice none 0 0] 79) (.cells #[] 81)) (nb3_3 x (.cells #[.int .i64 kd, .slice a1 n1 c1, .slice a2 n2 c2] 81) (.cells #[.int .i64 0, .int .i64 0, .slice none 0 0] 79) #[] 81 ) (by omega) rfl rfl HQ.out hq1000 ?_; intro v4 w4 O4 D4 T4 N4; have XB4 := hide (T4.out x.heap.size _ _ (by omega) (nb1_3 x #[.int .i64 kd, .slice a1 n1 c1, .slice a2 n2 c2] 81 (.cells #[.int .i64 0, .int .i64 0, .slice none 0 0] 79) (.cells #[] 81))); have XA4 := hide (T4.out (x.heap.size + 1) _ _ (by omega) (nb2_3 x (.cells #[.int .i64 kd, .slice a1 n1 c1, .slice a2 n2 c2] 81) #[.int .i64 0, .int .i64 0, .slice none 0 0] 79 (.cells #[] 81))); have NA4 := hide (N4.out (x.heap.size + 1) ((nb2_3 x (.cells #[.int .i64 kd, .slice a1 n1 c1, .slice a2 n2 c2] 81) #[.int .i64 0, .int .i64 0, .slice none 0 0] 79 (.cells #[] 81))).lt (by omega)); have HGA := hide (show x.heap.size ≤ (x.heap.size + 1) by omega); have Q14 := hide (show 0 < n1 → ∀ p, a1 = some p → v4.ownBlock ≠ some p.block ∧ p.block < x.heap.size from fun h0 p hp => ⟨fun e => by have h1 := (O4.out.lt _ e).1; have h2 := HI.out.row.off h0 p hp; omega, HI.out.row.off h0 p hp⟩); have Q24 := hide (show 0 < n2 → ∀ p, a2 = some p → v4.ownBlock ≠ some p.block ∧ p.block < x.heap.size from fun h0 p hp => ⟨fun e => by have h1 := (O4.out.lt _ e).1; have h2 := HK.out.row.off h0 p hp; omega, HK.out.row.off h0 p hp⟩))
      | ((with_reducible show @ite _ _ _ (Oper.wp _ _ _ (((x.alloc (.cells #[.int .i64 0, .int .i64 0, .slice none 0 0] 79)).alloc (.cells #[] 81)).alloc (.cells #[.int .i64 kd, .slice a1 n1 c1, .slice a2 n2 c2] 81)).drew _ _) _); refine lz_row (x := x) (w := (((x.alloc (.cells #[.int .i64 0, .int .i64 0, .slice none 0 0] 79)).alloc (.cells #[] 81)).alloc (.cells #[.int .i64 kd, .slice a1 n1 c1, .slice a2 n2 c2] 81)).drew) rfl (.tmp 124) (.tmp 126) rfl (x.heap.size + 1) (nbB_3 x (.cells #[.int .i64 0, .int .i64 0, .slice none 0 0] 79) (.cells #[] 81) (.cells #[.int .i64 kd, .slice a1 n1 c1, .slice a2 n2 c2] 81)) (nb2_3 x (.cells #[.int .i64 0, .int .i64 0, .slice none 0 0] 79) #[] 81 (.cells #[.int .i64 kd, .slice a1 n1 c1, .slice a2 n2 c2] 81)) (by omega) rfl rfl HQ.out hq1000 ?_; intro v4 w4 O4 D4 T4 N4; have XB4 := hide (T4.out (x.heap.size + 2) _ _ (by omega) (nb3_3 x (.cells #[.int .i64 0, .int .i64 0, .slice none 0 0] 79) (.cells #[] 81) #[.int .i64 kd, .slice a1 n1 c1, .slice a2 n2 c2] 81 )); have XA4 := hide (T4.out x.heap.size _ _ (by omega) (nb1_3 x #[.int .i64 0, .int .i64 0, .slice none 0 0] 79 (.cells #[] 81) (.cells #[.int .i64 kd, .slice a1 n1 c1, .slice a2 n2 c2] 81))); have NA4 := hide (N4.out x.heap.size ((nb1_3 x #[.int .i64 0, .int .i64 0, .slice none 0 0] 79 (.cells #[] 81) (.cells #[.int .i64 kd, .slice a1 n1 c1, .slice a2 n2 c2] 81))).lt (by omega)); have HGA := hide (show x.heap.size ≤ x.heap.size by omega); have Q14 := hide (show 0 < n1 → ∀ p, a1 = some p → v4.ownBlock ≠ some p.block ∧ p.block < x.heap.size from fun h0 p hp => ⟨fun e => by have h1 := (O4.out.lt _ e).1; have h2 := HI.out.row.off h0 p hp; omega, HI.out.row.off h0 p hp⟩); have Q24 := hide (show 0 < n2 → ∀ p, a2 = some p → v4.ownBlock ≠ some p.block ∧ p.block < x.heap.size from fun h0 p hp => ⟨fun e => by have h1 := (O4.out.lt _ e).1; have h2 := HK.out.row.off h0 p hp; omega, HK.out.row.off h0 p hp⟩))
      | ((with_reducible show @ite _ _ _ (Oper.wp _ _ _ (((x.alloc (.cells #[.int .i64 0, .int .i64 0, .slice none 0 0] 79)).alloc (.cells #[.int .i64 kd, .slice a1 n1 c1, .slice a2 n2 c2] 81)).alloc (.cells #[] 81)).drew _ _) _); refine lz_row (x := x) (w := (((x.alloc (.cells #[.int .i64 0, .int .i64 0, .slice none 0 0] 79)).alloc (.cells #[.int .i64 kd, .slice a1 n1 c1, .slice a2 n2 c2] 81)).alloc (.cells #[] 81)).drew) rfl (.tmp 124) (.tmp 126) rfl (x.heap.size + 2) (nbB_3 x (.cells #[.int .i64 0, .int .i64 0, .slice none 0 0] 79) (.cells #[.int .i64 kd, .slice a1 n1 c1, .slice a2 n2 c2] 81) (.cells #[] 81)) (nb3_3 x (.cells #[.int .i64 0, .int .i64 0, .slice none 0 0] 79) (.cells #[.int .i64 kd, .slice a1 n1 c1, .slice a2 n2 c2] 81) #[] 81 ) (by omega) rfl rfl HQ.out hq1000 ?_; intro v4 w4 O4 D4 T4 N4; have XB4 := hide (T4.out (x.heap.size + 1) _ _ (by omega) (nb2_3 x (.cells #[.int .i64 0, .int .i64 0, .slice none 0 0] 79) #[.int .i64 kd, .slice a1 n1 c1, .slice a2 n2 c2] 81 (.cells #[] 81))); have XA4 := hide (T4.out x.heap.size _ _ (by omega) (nb1_3 x #[.int .i64 0, .int .i64 0, .slice none 0 0] 79 (.cells #[.int .i64 kd, .slice a1 n1 c1, .slice a2 n2 c2] 81) (.cells #[] 81))); have NA4 := hide (N4.out x.heap.size ((nb1_3 x #[.int .i64 0, .int .i64 0, .slice none 0 0] 79 (.cells #[.int .i64 kd, .slice a1 n1 c1, .slice a2 n2 c2] 81) (.cells #[] 81))).lt (by omega)); have HGA := hide (show x.heap.size ≤ x.heap.size by omega); have Q14 := hide (show 0 < n1 → ∀ p, a1 = some p → v4.ownBlock ≠ some p.block ∧ p.block < x.heap.size from fun h0 p hp => ⟨fun e => by have h1 := (O4.out.lt _ e).1; have h2 := HI.out.row.off h0 p hp; omega, HI.out.row.off h0 p hp⟩); have Q24 := hide (show 0 < n2 → ∀ p, a2 = some p → v4.ownBlock ≠ some p.block ∧ p.block < x.heap.size from fun h0 p hp => ⟨fun e => by have h1 := (O4.out.lt _ e).1; have h2 := HK.out.row.off h0 p hp; omega, HK.out.row.off h0 p hp⟩))
      | (have BW := hide (show Below w4.heap.size w4 w4 from Below.refl _ _); (with_reducible show @ite _ _ _ (Oper.wp _ _ _ w4 _ _) _); refine step_append_fR (w := w4) rfl (.tmp 127) (.tmp 129) rfl (fun q => q < x.heap.size) x.heap.size (v := v4) (fs := fs) rfl (O4.out.later BW.out) _ (kd := kd) (a1 := a1) (n1 := n1) (c1 := c1) (a2 := a2) (n2 := n2) (c2 := c2) (nm := nm) (bs := bs) rfl XB4.out ((HI.out.later D4.out).later BW.out) ((HK.out.later D4.out).later BW.out) F.hn1 F.hn2 Q14.out Q24.out hql (Nat.le_trans D4.out.size BW.out.size) ?_; intro v6 w6 O6 G6 A6; have D6 := hide (show Below x.heap.size x w6 from (D4.out.trans (BW.out.mono D4.out.size)).grown G6.out (Nat.le_trans D4.out.size BW.out.size) (fun i hi => (O4.out.lt i hi).1)); obtain ⟨za, zc, hv, hzc, _⟩ := O6.out.fl; rw [List.length_append, List.length_singleton, HN.out] at hv hzc; subst hv; have ZCq := hide hzc; clear hzc; have XA5 := hide (show Bx w4 x.heap.size #[.int .i64 0, .int .i64 0, .slice none 0 0] 79 from XA4.out); have NA5 := hide (show v4.ownBlock ≠ some x.heap.size from NA4.out); have XA6 := hide (show Bx w6 x.heap.size #[.int .i64 0, .int .i64 0, .slice none 0 0] 79 from (G6.out.block x.heap.size XA5.out.lt (fun e => NA5.out e.symm)).trans XA5.out); have NA6 := hide (ne6 A6.out NA5.out XA5.out.lt); have HGA6 := hide (show x.heap.size ≤ x.heap.size from HGA.out); obtain ⟨r0, r1, r2⟩ := XA6.out.three; have rz := XA6.out.frozen)
      | (have BW := hide (show Below w4.heap.size w4 (w4.alloc (.cells #[.int .i64 kd, .slice a1 n1 c1, .slice a2 n2 c2] 81)) from below_alloc _ _); (with_reducible show @ite _ _ _ (Oper.wp _ _ _ (w4.alloc (.cells #[.int .i64 kd, .slice a1 n1 c1, .slice a2 n2 c2] 81)) _ _) _); refine step_append_fR (w := (w4.alloc (.cells #[.int .i64 kd, .slice a1 n1 c1, .slice a2 n2 c2] 81))) rfl (.tmp 127) (.tmp 129) rfl (fun q => q < x.heap.size) x.heap.size (v := v4) (fs := fs) rfl (O4.out.later BW.out) w4.heap.size (kd := kd) (a1 := a1) (n1 := n1) (c1 := c1) (a2 := a2) (n2 := n2) (c2 := c2) (nm := nm) (bs := bs) rfl (Bx.new w4 #[.int .i64 kd, .slice a1 n1 c1, .slice a2 n2 c2] 81) ((HI.out.later D4.out).later BW.out) ((HK.out.later D4.out).later BW.out) F.hn1 F.hn2 Q14.out Q24.out hql (Nat.le_trans D4.out.size BW.out.size) ?_; intro v6 w6 O6 G6 A6; have D6 := hide (show Below x.heap.size x w6 from (D4.out.trans (BW.out.mono D4.out.size)).grown G6.out (Nat.le_trans D4.out.size BW.out.size) (fun i hi => (O4.out.lt i hi).1)); obtain ⟨za, zc, hv, hzc, _⟩ := O6.out.fl; rw [List.length_append, List.length_singleton, HN.out] at hv hzc; subst hv; have ZCq := hide hzc; clear hzc; have XA5 := hide (show Bx (w4.alloc (.cells #[.int .i64 kd, .slice a1 n1 c1, .slice a2 n2 c2] 81)) x.heap.size #[.int .i64 0, .int .i64 0, .slice none 0 0] 79 from XA4.out.alloc (.cells #[.int .i64 kd, .slice a1 n1 c1, .slice a2 n2 c2] 81)); have NA5 := hide (show v4.ownBlock ≠ some x.heap.size from NA4.out); have XA6 := hide (show Bx w6 x.heap.size #[.int .i64 0, .int .i64 0, .slice none 0 0] 79 from (G6.out.block x.heap.size XA5.out.lt (fun e => NA5.out e.symm)).trans XA5.out); have NA6 := hide (ne6 A6.out NA5.out XA5.out.lt); have HGA6 := hide (show x.heap.size ≤ x.heap.size from HGA.out); obtain ⟨r0, r1, r2⟩ := XA6.out.three; have rz := XA6.out.frozen)
      | (have BW := hide (show Below w4.heap.size w4 w4 from Below.refl _ _); (with_reducible show @ite _ _ _ (Oper.wp _ _ _ w4 _ _) _); refine step_append_fR (w := w4) rfl (.tmp 127) (.tmp 129) rfl (fun q => q < x.heap.size) x.heap.size (v := v4) (fs := fs) rfl (O4.out.later BW.out) _ (kd := kd) (a1 := a1) (n1 := n1) (c1 := c1) (a2 := a2) (n2 := n2) (c2 := c2) (nm := nm) (bs := bs) rfl XB4.out ((HI.out.later D4.out).later BW.out) ((HK.out.later D4.out).later BW.out) F.hn1 F.hn2 Q14.out Q24.out hql (Nat.le_trans D4.out.size BW.out.size) ?_; intro v6 w6 O6 G6 A6; have D6 := hide (show Below x.heap.size x w6 from (D4.out.trans (BW.out.mono D4.out.size)).grown G6.out (Nat.le_trans D4.out.size BW.out.size) (fun i hi => (O4.out.lt i hi).1)); obtain ⟨za, zc, hv, hzc, _⟩ := O6.out.fl; rw [List.length_append, List.length_singleton, HN.out] at hv hzc; subst hv; have ZCq := hide hzc; clear hzc; have XA5 := hide (show Bx w4 (x.heap.size + 1) #[.int .i64 0, .int .i64 0, .slice none 0 0] 79 from XA4.out); have NA5 := hide (show v4.ownBlock ≠ some (x.heap.size + 1) from NA4.out); have XA6 := hide (show Bx w6 (x.heap.size + 1) #[.int .i64 0, .int .i64 0, .slice none 0 0] 79 from (G6.out.block (x.heap.size + 1) XA5.out.lt (fun e => NA5.out e.symm)).trans XA5.out); have NA6 := hide (ne6 A6.out NA5.out XA5.out.lt); have HGA6 := hide (show x.heap.size ≤ (x.heap.size + 1) from HGA.out); obtain ⟨r0, r1, r2⟩ := XA6.out.three; have rz := XA6.out.frozen)
      | (have BW := hide (show Below w4.heap.size w4 (w4.alloc (.cells #[.int .i64 kd, .slice a1 n1 c1, .slice a2 n2 c2] 81)) from below_alloc _ _); (with_reducible show @ite _ _ _ (Oper.wp _ _ _ (w4.alloc (.cells #[.int .i64 kd, .slice a1 n1 c1, .slice a2 n2 c2] 81)) _ _) _); refine step_append_fR (w := (w4.alloc (.cells #[.int .i64 kd, .slice a1 n1 c1, .slice a2 n2 c2] 81))) rfl (.tmp 127) (.tmp 129) rfl (fun q => q < x.heap.size) x.heap.size (v := v4) (fs := fs) rfl (O4.out.later BW.out) w4.heap.size (kd := kd) (a1 := a1) (n1 := n1) (c1 := c1) (a2 := a2) (n2 := n2) (c2 := c2) (nm := nm) (bs := bs) rfl (Bx.new w4 #[.int .i64 kd, .slice a1 n1 c1, .slice a2 n2 c2] 81) ((HI.out.later D4.out).later BW.out) ((HK.out.later D4.out).later BW.out) F.hn1 F.hn2 Q14.out Q24.out hql (Nat.le_trans D4.out.size BW.out.size) ?_; intro v6 w6 O6 G6 A6; have D6 := hide (show Below x.heap.size x w6 from (D4.out.trans (BW.out.mono D4.out.size)).grown G6.out (Nat.le_trans D4.out.size BW.out.size) (fun i hi => (O4.out.lt i hi).1)); obtain ⟨za, zc, hv, hzc, _⟩ := O6.out.fl; rw [List.length_append, List.length_singleton, HN.out] at hv hzc; subst hv; have ZCq := hide hzc; clear hzc; have XA5 := hide (show Bx (w4.alloc (.cells #[.int .i64 kd, .slice a1 n1 c1, .slice a2 n2 c2] 81)) (x.heap.size + 1) #[.int .i64 0, .int .i64 0, .slice none 0 0] 79 from XA4.out.alloc (.cells #[.int .i64 kd, .slice a1 n1 c1, .slice a2 n2 c2] 81)); have NA5 := hide (show v4.ownBlock ≠ some (x.heap.size + 1) from NA4.out); have XA6 := hide (show Bx w6 (x.heap.size + 1) #[.int .i64 0, .int .i64 0, .slice none 0 0] 79 from (G6.out.block (x.heap.size + 1) XA5.out.lt (fun e => NA5.out e.symm)).trans XA5.out); have NA6 := hide (ne6 A6.out NA5.out XA5.out.lt); have HGA6 := hide (show x.heap.size ≤ (x.heap.size + 1) from HGA.out); obtain ⟨r0, r1, r2⟩ := XA6.out.three; have rz := XA6.out.frozen)
      | (have BW := hide (show Below w4.heap.size w4 w4 from Below.refl _ _); (with_reducible show @ite _ _ _ (Oper.wp _ _ _ w4 _ _) _); refine step_append_fR (w := w4) rfl (.tmp 127) (.tmp 129) rfl (fun q => q < x.heap.size) x.heap.size (v := v4) (fs := fs) rfl (O4.out.later BW.out) _ (kd := kd) (a1 := a1) (n1 := n1) (c1 := c1) (a2 := a2) (n2 := n2) (c2 := c2) (nm := nm) (bs := bs) rfl XB4.out ((HI.out.later D4.out).later BW.out) ((HK.out.later D4.out).later BW.out) F.hn1 F.hn2 Q14.out Q24.out hql (Nat.le_trans D4.out.size BW.out.size) ?_; intro v6 w6 O6 G6 A6; have D6 := hide (show Below x.heap.size x w6 from (D4.out.trans (BW.out.mono D4.out.size)).grown G6.out (Nat.le_trans D4.out.size BW.out.size) (fun i hi => (O4.out.lt i hi).1)); obtain ⟨za, zc, hv, hzc, _⟩ := O6.out.fl; rw [List.length_append, List.length_singleton, HN.out] at hv hzc; subst hv; have ZCq := hide hzc; clear hzc; have XA5 := hide (show Bx w4 (x.heap.size + 2) #[.int .i64 0, .int .i64 0, .slice none 0 0] 79 from XA4.out); have NA5 := hide (show v4.ownBlock ≠ some (x.heap.size + 2) from NA4.out); have XA6 := hide (show Bx w6 (x.heap.size + 2) #[.int .i64 0, .int .i64 0, .slice none 0 0] 79 from (G6.out.block (x.heap.size + 2) XA5.out.lt (fun e => NA5.out e.symm)).trans XA5.out); have NA6 := hide (ne6 A6.out NA5.out XA5.out.lt); have HGA6 := hide (show x.heap.size ≤ (x.heap.size + 2) from HGA.out); obtain ⟨r0, r1, r2⟩ := XA6.out.three; have rz := XA6.out.frozen)
      | (have BW := hide (show Below w4.heap.size w4 (w4.alloc (.cells #[.int .i64 kd, .slice a1 n1 c1, .slice a2 n2 c2] 81)) from below_alloc _ _); (with_reducible show @ite _ _ _ (Oper.wp _ _ _ (w4.alloc (.cells #[.int .i64 kd, .slice a1 n1 c1, .slice a2 n2 c2] 81)) _ _) _); refine step_append_fR (w := (w4.alloc (.cells #[.int .i64 kd, .slice a1 n1 c1, .slice a2 n2 c2] 81))) rfl (.tmp 127) (.tmp 129) rfl (fun q => q < x.heap.size) x.heap.size (v := v4) (fs := fs) rfl (O4.out.later BW.out) w4.heap.size (kd := kd) (a1 := a1) (n1 := n1) (c1 := c1) (a2 := a2) (n2 := n2) (c2 := c2) (nm := nm) (bs := bs) rfl (Bx.new w4 #[.int .i64 kd, .slice a1 n1 c1, .slice a2 n2 c2] 81) ((HI.out.later D4.out).later BW.out) ((HK.out.later D4.out).later BW.out) F.hn1 F.hn2 Q14.out Q24.out hql (Nat.le_trans D4.out.size BW.out.size) ?_; intro v6 w6 O6 G6 A6; have D6 := hide (show Below x.heap.size x w6 from (D4.out.trans (BW.out.mono D4.out.size)).grown G6.out (Nat.le_trans D4.out.size BW.out.size) (fun i hi => (O4.out.lt i hi).1)); obtain ⟨za, zc, hv, hzc, _⟩ := O6.out.fl; rw [List.length_append, List.length_singleton, HN.out] at hv hzc; subst hv; have ZCq := hide hzc; clear hzc; have XA5 := hide (show Bx (w4.alloc (.cells #[.int .i64 kd, .slice a1 n1 c1, .slice a2 n2 c2] 81)) (x.heap.size + 2) #[.int .i64 0, .int .i64 0, .slice none 0 0] 79 from XA4.out.alloc (.cells #[.int .i64 kd, .slice a1 n1 c1, .slice a2 n2 c2] 81)); have NA5 := hide (show v4.ownBlock ≠ some (x.heap.size + 2) from NA4.out); have XA6 := hide (show Bx w6 (x.heap.size + 2) #[.int .i64 0, .int .i64 0, .slice none 0 0] 79 from (G6.out.block (x.heap.size + 2) XA5.out.lt (fun e => NA5.out e.symm)).trans XA5.out); have NA6 := hide (ne6 A6.out NA5.out XA5.out.lt); have HGA6 := hide (show x.heap.size ≤ (x.heap.size + 2) from HGA.out); obtain ⟨r0, r1, r2⟩ := XA6.out.three; have rz := XA6.out.frozen)
      | (have BW := hide (show Below w4.heap.size w4 w4 from Below.refl _ _); (with_reducible show @ite _ _ _ (Oper.wp _ _ _ w4 _ _) _); refine step_append_fR (w := w4) rfl (.tmp 127) (.tmp 129) rfl (fun q => q < x.heap.size) x.heap.size (v := v4) (fs := fs) rfl (O4.out.later BW.out) _ (kd := kd) (a1 := a1) (n1 := n1) (c1 := c1) (a2 := a2) (n2 := n2) (c2 := c2) (nm := nm) (bs := bs) rfl XB4.out ((HI.out.later D4.out).later BW.out) ((HK.out.later D4.out).later BW.out) F.hn1 F.hn2 Q14.out Q24.out hql (Nat.le_trans D4.out.size BW.out.size) ?_; intro v6 w6 O6 G6 A6; have D6 := hide (show Below x.heap.size x w6 from (D4.out.trans (BW.out.mono D4.out.size)).grown G6.out (Nat.le_trans D4.out.size BW.out.size) (fun i hi => (O4.out.lt i hi).1)); obtain ⟨za, zc, hv, hzc, _⟩ := O6.out.fl; rw [List.length_append, List.length_singleton, HN.out] at hv hzc; subst hv; have ZCq := hide hzc; clear hzc)
      | (have BW := hide (show Below w4.heap.size w4 (w4.alloc (.cells #[.int .i64 kd, .slice a1 n1 c1, .slice a2 n2 c2] 81)) from below_alloc _ _); (with_reducible show @ite _ _ _ (Oper.wp _ _ _ (w4.alloc (.cells #[.int .i64 kd, .slice a1 n1 c1, .slice a2 n2 c2] 81)) _ _) _); refine step_append_fR (w := (w4.alloc (.cells #[.int .i64 kd, .slice a1 n1 c1, .slice a2 n2 c2] 81))) rfl (.tmp 127) (.tmp 129) rfl (fun q => q < x.heap.size) x.heap.size (v := v4) (fs := fs) rfl (O4.out.later BW.out) w4.heap.size (kd := kd) (a1 := a1) (n1 := n1) (c1 := c1) (a2 := a2) (n2 := n2) (c2 := c2) (nm := nm) (bs := bs) rfl (Bx.new w4 #[.int .i64 kd, .slice a1 n1 c1, .slice a2 n2 c2] 81) ((HI.out.later D4.out).later BW.out) ((HK.out.later D4.out).later BW.out) F.hn1 F.hn2 Q14.out Q24.out hql (Nat.le_trans D4.out.size BW.out.size) ?_; intro v6 w6 O6 G6 A6; have D6 := hide (show Below x.heap.size x w6 from (D4.out.trans (BW.out.mono D4.out.size)).grown G6.out (Nat.le_trans D4.out.size BW.out.size) (fun i hi => (O4.out.lt i hi).1)); obtain ⟨za, zc, hv, hzc, _⟩ := O6.out.fl; rw [List.length_append, List.length_singleton, HN.out] at hv hzc; subst hv; have ZCq := hide hzc; clear hzc)
      | (have BW := hide (show Below w4.heap.size w4 (w4.alloc (.cells #[.int .i64 0, .int .i64 0, .slice none 0 0] 79)) from below_alloc _ _); (with_reducible show @ite _ _ _ (Oper.wp _ _ _ (w4.alloc (.cells #[.int .i64 0, .int .i64 0, .slice none 0 0] 79)) _ _) _); refine step_append_fR (w := (w4.alloc (.cells #[.int .i64 0, .int .i64 0, .slice none 0 0] 79))) rfl (.tmp 127) (.tmp 129) rfl (fun q => q < x.heap.size) x.heap.size (v := v4) (fs := fs) rfl (O4.out.later BW.out) _ (kd := kd) (a1 := a1) (n1 := n1) (c1 := c1) (a2 := a2) (n2 := n2) (c2 := c2) (nm := nm) (bs := bs) rfl (XB4.out.alloc (.cells #[.int .i64 0, .int .i64 0, .slice none 0 0] 79)) ((HI.out.later D4.out).later BW.out) ((HK.out.later D4.out).later BW.out) F.hn1 F.hn2 Q14.out Q24.out hql (Nat.le_trans D4.out.size BW.out.size) ?_; intro v6 w6 O6 G6 A6; have D6 := hide (show Below x.heap.size x w6 from (D4.out.trans (BW.out.mono D4.out.size)).grown G6.out (Nat.le_trans D4.out.size BW.out.size) (fun i hi => (O4.out.lt i hi).1)); obtain ⟨za, zc, hv, hzc, _⟩ := O6.out.fl; rw [List.length_append, List.length_singleton, HN.out] at hv hzc; subst hv; have ZCq := hide hzc; clear hzc; have XA5 := hide (show Bx (w4.alloc (.cells #[.int .i64 0, .int .i64 0, .slice none 0 0] 79)) w4.heap.size #[.int .i64 0, .int .i64 0, .slice none 0 0] 79 from Bx.new w4 #[.int .i64 0, .int .i64 0, .slice none 0 0] 79); have NA5 := hide (show v4.ownBlock ≠ some w4.heap.size from fun e => by have h1 := (O4.out.lt _ e).2; omega); have XA6 := hide (show Bx w6 w4.heap.size #[.int .i64 0, .int .i64 0, .slice none 0 0] 79 from (G6.out.block w4.heap.size XA5.out.lt (fun e => NA5.out e.symm)).trans XA5.out); have NA6 := hide (ne6 A6.out NA5.out XA5.out.lt); have HGA6 := hide (show x.heap.size ≤ w4.heap.size from D4.out.size); obtain ⟨r0, r1, r2⟩ := XA6.out.three; have rz := XA6.out.frozen)
      | (have BW := hide (show Below w4.heap.size w4 ((w4.alloc (.cells #[.int .i64 kd, .slice a1 n1 c1, .slice a2 n2 c2] 81)).alloc (.cells #[.int .i64 0, .int .i64 0, .slice none 0 0] 79)) from (below_alloc _ _).alloc (by simp) _); (with_reducible show @ite _ _ _ (Oper.wp _ _ _ ((w4.alloc (.cells #[.int .i64 kd, .slice a1 n1 c1, .slice a2 n2 c2] 81)).alloc (.cells #[.int .i64 0, .int .i64 0, .slice none 0 0] 79)) _ _) _); refine step_append_fR (w := ((w4.alloc (.cells #[.int .i64 kd, .slice a1 n1 c1, .slice a2 n2 c2] 81)).alloc (.cells #[.int .i64 0, .int .i64 0, .slice none 0 0] 79))) rfl (.tmp 127) (.tmp 129) rfl (fun q => q < x.heap.size) x.heap.size (v := v4) (fs := fs) rfl (O4.out.later BW.out) w4.heap.size (kd := kd) (a1 := a1) (n1 := n1) (c1 := c1) (a2 := a2) (n2 := n2) (c2 := c2) (nm := nm) (bs := bs) rfl ((Bx.new w4 #[.int .i64 kd, .slice a1 n1 c1, .slice a2 n2 c2] 81).alloc (.cells #[.int .i64 0, .int .i64 0, .slice none 0 0] 79)) ((HI.out.later D4.out).later BW.out) ((HK.out.later D4.out).later BW.out) F.hn1 F.hn2 Q14.out Q24.out hql (Nat.le_trans D4.out.size BW.out.size) ?_; intro v6 w6 O6 G6 A6; have D6 := hide (show Below x.heap.size x w6 from (D4.out.trans (BW.out.mono D4.out.size)).grown G6.out (Nat.le_trans D4.out.size BW.out.size) (fun i hi => (O4.out.lt i hi).1)); obtain ⟨za, zc, hv, hzc, _⟩ := O6.out.fl; rw [List.length_append, List.length_singleton, HN.out] at hv hzc; subst hv; have ZCq := hide hzc; clear hzc; have XA5 := hide (show Bx ((w4.alloc (.cells #[.int .i64 kd, .slice a1 n1 c1, .slice a2 n2 c2] 81)).alloc (.cells #[.int .i64 0, .int .i64 0, .slice none 0 0] 79)) (w4.heap.size + 1) #[.int .i64 0, .int .i64 0, .slice none 0 0] 79 from nw1_2 w4 (.cells #[.int .i64 kd, .slice a1 n1 c1, .slice a2 n2 c2] 81) #[.int .i64 0, .int .i64 0, .slice none 0 0] 79); have NA5 := hide (show v4.ownBlock ≠ some (w4.heap.size + 1) from fun e => by have h1 := (O4.out.lt _ e).2; omega); have XA6 := hide (show Bx w6 (w4.heap.size + 1) #[.int .i64 0, .int .i64 0, .slice none 0 0] 79 from (G6.out.block (w4.heap.size + 1) XA5.out.lt (fun e => NA5.out e.symm)).trans XA5.out); have NA6 := hide (ne6 A6.out NA5.out XA5.out.lt); have HGA6 := hide (show x.heap.size ≤ (w4.heap.size + 1) from Nat.le_trans D4.out.size (by omega)); obtain ⟨r0, r1, r2⟩ := XA6.out.three; have rz := XA6.out.frozen)
      | (have BW := hide (show Below w4.heap.size w4 ((w4.alloc (.cells #[.int .i64 0, .int .i64 0, .slice none 0 0] 79)).alloc (.cells #[.int .i64 kd, .slice a1 n1 c1, .slice a2 n2 c2] 81)) from (below_alloc _ _).alloc (by simp) _); (with_reducible show @ite _ _ _ (Oper.wp _ _ _ ((w4.alloc (.cells #[.int .i64 0, .int .i64 0, .slice none 0 0] 79)).alloc (.cells #[.int .i64 kd, .slice a1 n1 c1, .slice a2 n2 c2] 81)) _ _) _); refine step_append_fR (w := ((w4.alloc (.cells #[.int .i64 0, .int .i64 0, .slice none 0 0] 79)).alloc (.cells #[.int .i64 kd, .slice a1 n1 c1, .slice a2 n2 c2] 81))) rfl (.tmp 127) (.tmp 129) rfl (fun q => q < x.heap.size) x.heap.size (v := v4) (fs := fs) rfl (O4.out.later BW.out) (w4.heap.size + 1) (kd := kd) (a1 := a1) (n1 := n1) (c1 := c1) (a2 := a2) (n2 := n2) (c2 := c2) (nm := nm) (bs := bs) rfl (nw1_2 w4 (.cells #[.int .i64 0, .int .i64 0, .slice none 0 0] 79) #[.int .i64 kd, .slice a1 n1 c1, .slice a2 n2 c2] 81) ((HI.out.later D4.out).later BW.out) ((HK.out.later D4.out).later BW.out) F.hn1 F.hn2 Q14.out Q24.out hql (Nat.le_trans D4.out.size BW.out.size) ?_; intro v6 w6 O6 G6 A6; have D6 := hide (show Below x.heap.size x w6 from (D4.out.trans (BW.out.mono D4.out.size)).grown G6.out (Nat.le_trans D4.out.size BW.out.size) (fun i hi => (O4.out.lt i hi).1)); obtain ⟨za, zc, hv, hzc, _⟩ := O6.out.fl; rw [List.length_append, List.length_singleton, HN.out] at hv hzc; subst hv; have ZCq := hide hzc; clear hzc; have XA5 := hide (show Bx ((w4.alloc (.cells #[.int .i64 0, .int .i64 0, .slice none 0 0] 79)).alloc (.cells #[.int .i64 kd, .slice a1 n1 c1, .slice a2 n2 c2] 81)) w4.heap.size #[.int .i64 0, .int .i64 0, .slice none 0 0] 79 from (Bx.new w4 #[.int .i64 0, .int .i64 0, .slice none 0 0] 79).alloc (.cells #[.int .i64 kd, .slice a1 n1 c1, .slice a2 n2 c2] 81)); have NA5 := hide (show v4.ownBlock ≠ some w4.heap.size from fun e => by have h1 := (O4.out.lt _ e).2; omega); have XA6 := hide (show Bx w6 w4.heap.size #[.int .i64 0, .int .i64 0, .slice none 0 0] 79 from (G6.out.block w4.heap.size XA5.out.lt (fun e => NA5.out e.symm)).trans XA5.out); have NA6 := hide (ne6 A6.out NA5.out XA5.out.lt); have HGA6 := hide (show x.heap.size ≤ w4.heap.size from D4.out.size); obtain ⟨r0, r1, r2⟩ := XA6.out.three; have rz := XA6.out.frozen))
  all_goals go_wp2_with fail
  all_goals first
    | exact Met.intro (lt14_A F D XX VX D6 O6 NA6 HGA6 XA6 ZCq)
    | exact Met.intro (lt14_N F D XX VX D6 O6 ZCq)

end Go.Proofs.Ytkebmfocgalinab

/-
  The law LinkSays in parts: what is offered.
-/
namespace Go.Proofs.Ytkebmfocgalinab
open Go.RowKit

set_option maxHeartbeats 16000000 in
set_option maxRecDepth 100000 in
theorem lt13 {w v : World} {ses base : Int} {qa : Option Addr} {qn qc : Nat} {fs : List Fr} {kd : Int} {a1 : Option Addr} {n1 c1 : Nat} {a2 : Option Addr} {n2 c2 : Nat} {nm bs : List Int} {la : Option Addr} {ln lc : Nat} {u0 u1 u4 u8 u9 u10 u11 u13 u14 u15 u16 u17 u18 u19 u20 u21 u22 u23 u24 u25 u26 u27 u28 u29 u30 u31 u32 u33 u34 u35 u36 u37 u38 u39 u40 u41 u42 u43 u44 u45 u46 u47 u48 u49 u50 u51 u52 u53 u54 u55 u56 u57 u58 u59 u60 u61 u62 u63 u64 u65 u66 u67 u68 u69 u70 u71 u72 u73 u74 u75 u76 u77 u78 u79 u80 u81 u82 u83 u84 u85 u86 u87 u88 u89 u90 u91 u92 u93 u94 u95 u96 u97 u98 u99 u100 u101 u102 u103 u104 u105 u106 u107 u108 u109 u110 u111 u112 u113 u114 u115 u116 u117 u118 u119 u120 u121 u122 u123 u124 u125 u126 u127 u128 u129 u130 u131 u132 u133 u134 u135 u136 u137 u138 : Value} {x : World} {gx : Nat} {p0 p1 p2 : Value} (F : Lf w v ses base qa qn qc fs kd a1 n1 c1 a2 n2 c2 nm bs la ln lc) (D : Hid (Below v.heap.size v x)) (XX : Hid (Bx x gx #[p0, p1, p2] 79)) (VX : Hid (((Mx.omay ⟨ses, base, fs⟩ ⟨kd, nm, n2, bs⟩) ≠ 0 ∧ SdV x (.agg #[p0, p1, p2]) ⟨0, 0, []⟩) ∨ ((Mx.omay ⟨ses, base, fs⟩ ⟨kd, nm, n2, bs⟩) = 0 ∧ SdV x (.agg #[p0, p1, p2]) ⟨ses, base, fs ++ [⟨kd, nm, n2, bs⟩]⟩))):
    TailL 13 w ⟨#[u0, u1, .pointer (some ⟨w.heap.size, 0, none⟩), .pointer (some ⟨(w.heap.size + 1), 0, none⟩), u4, .int .i64 (Mx.omay ⟨ses, base, fs⟩ ⟨kd, nm, n2, bs⟩), .slice la ln lc, errV (Mx.omay ⟨ses, base, fs⟩ ⟨kd, nm, n2, bs⟩), u8, u9, u10, u11, .pointer (some ⟨gx, 0, none⟩), u13, u14, u15, u16, u17, u18, u19, u20, u21, u22, u23, u24, u25, u26, u27, u28, u29, u30, u31, u32, u33, u34, u35, u36, u37, u38, u39, u40, u41, u42, u43, u44, u45, u46, u47, u48, u49, u50, u51, u52, u53, u54, u55, u56, u57, u58, u59, u60, u61, u62, u63, u64, u65, u66, u67, u68, u69, u70, u71, u72, u73, u74, u75, u76, u77, u78, u79, u80, u81, u82, u83, u84, u85, u86, u87, u88, u89, u90, u91, u92, u93, u94, u95, u96, u97, u98, u99, u100, u101, u102, u103, u104, u105, u106, u107, u108, u109, u110, u111, u112, u113, u114, u115, u116, u117, u118, u119, u120, u121, u122, u123, u124, u125, u126, u127, u128, u129, u130, u131, u132, u133, u134, u135, u136, u137, u138], []⟩ x := by
  refine tailL_step rfl ?_
  intro K hK
  by_cases hm : (Mx.omay ⟨ses, base, fs⟩ ⟨kd, nm, n2, bs⟩) = 0
  · have V := hide (show SdV x (.agg #[p0, p1, p2]) ⟨ses, base, fs ++ [⟨kd, nm, n2, bs⟩]⟩ by
      rcases VX.out with ⟨h, _⟩ | ⟨_, h⟩
      · exact absurd hm h
      · exact h)
    rw [hm, errV_zero]
    clear hm VX
    go_wp2_with fail
    exact Met.intro (lt14 F D XX V)
  · have V := hide (show SdV x (.agg #[p0, p1, p2]) ⟨0, 0, []⟩ by
      rcases VX.out with ⟨_, h⟩ | ⟨h, _⟩
      · exact h
      · exact absurd h hm)
    have hmb : ((Mx.omay ⟨ses, base, fs⟩ ⟨kd, nm, n2, bs⟩) != 0) = true := by simpa using hm
    obtain ⟨ra, rn, rc, hv, hfl, _⟩ := V.out
    simp only [Value.agg.injEq, Array.mk.injEq, List.cons.injEq, and_true] at hv
    obtain ⟨rfl, rfl, rfl⟩ := hv
    have BF := hide (F.bl.trans (D.out.mono F.bl.size))
    obtain ⟨g0, g1, g2⟩ := XX.out.three
    have H1 := hide hfl
    have hrn : rn ≤ 1000 := by have h3 : ([] : List Fr).length = rn := hfl.1; simp at h3; omega
    clear hfl F VX V hm
    go_wp2_with fail
    refine (is_any (Mx.omay ⟨ses, base, fs⟩ ⟨kd, nm, n2, bs⟩) (Mx.omay ⟨ses, base, fs⟩ ⟨kd, nm, n2, bs⟩) x).mono ?_
    rintro e wz ⟨rfl, hz⟩
    obtain rfl := hz.symm
    clear hz
    rw [beq_self_eq_true]
    go_wp2_with fail
    refine (sameSender_true 0 0 ra none rn rc 0 0 [] x H1.out (FL.nil _) hrn).mono ?_
    rintro e w2 ⟨rfl, E⟩
    go_wp2_with fail
    go_ret
    exact ⟨rfl, BF.out.trans (E.mono BF.out.size)⟩

set_option maxHeartbeats 16000000 in
set_option maxRecDepth 100000 in
theorem lt12 {w v : World} {ses base : Int} {qa : Option Addr} {qn qc : Nat} {fs : List Fr} {kd : Int} {a1 : Option Addr} {n1 c1 : Nat} {a2 : Option Addr} {n2 c2 : Nat} {nm bs : List Int} {la : Option Addr} {ln lc : Nat} {u0 u1 u4 u7 u8 u9 u10 u11 u12 u13 u14 u15 u16 u17 u18 u19 u20 u21 u22 u23 u24 u25 u26 u27 u28 u29 u30 u31 u32 u33 u34 u35 u36 u37 u38 u39 u40 u41 u42 u43 u44 u45 u46 u47 u48 u49 u50 u51 u52 u53 u54 u55 u56 u57 u58 u59 u60 u61 u62 u63 u64 u65 u66 u67 u68 u69 u70 u71 u72 u73 u74 u75 u76 u77 u78 u79 u80 u81 u82 u83 u84 u85 u86 u87 u88 u89 u90 u91 u92 u93 u94 u95 u96 u97 u98 u99 u100 u101 u102 u103 u104 u105 u106 u107 u108 u109 u110 u111 u112 u113 u114 u115 u116 u117 u118 u119 u120 u121 u122 u123 u124 u125 u126 u127 u128 u129 u130 u131 u132 u133 u134 u135 u136 u137 u138 : Value} {x : World} (F : Lf w v ses base qa qn qc fs kd a1 n1 c1 a2 n2 c2 nm bs la ln lc) (D : Hid (Below v.heap.size v x)) :
    TailL 12 w ⟨#[u0, u1, .pointer (some ⟨w.heap.size, 0, none⟩), .pointer (some ⟨(w.heap.size + 1), 0, none⟩), u4, .int .i64 (Mx.omay ⟨ses, base, fs⟩ ⟨kd, nm, n2, bs⟩), .slice la ln lc, u7, u8, u9, u10, u11, u12, u13, u14, u15, u16, u17, u18, u19, u20, u21, u22, u23, u24, u25, u26, u27, u28, u29, u30, u31, u32, u33, u34, u35, u36, u37, u38, u39, u40, u41, u42, u43, u44, u45, u46, u47, u48, u49, u50, u51, u52, u53, u54, u55, u56, u57, u58, u59, u60, u61, u62, u63, u64, u65, u66, u67, u68, u69, u70, u71, u72, u73, u74, u75, u76, u77, u78, u79, u80, u81, u82, u83, u84, u85, u86, u87, u88, u89, u90, u91, u92, u93, u94, u95, u96, u97, u98, u99, u100, u101, u102, u103, u104, u105, u106, u107, u108, u109, u110, u111, u112, u113, u114, u115, u116, u117, u118, u119, u120, u121, u122, u123, u124, u125, u126, u127, u128, u129, u130, u131, u132, u133, u134, u135, u136, u137, u138], []⟩ x := by
  refine tailL_step rfl ?_
  intro K hK
  obtain ⟨x0, x1, x2⟩ := (F.xb.later D.out F.xb.lt).three
  obtain ⟨f0, f1, f2⟩ := (F.xf.later D.out F.xf.lt).three
  have HQ := hide (F.hq.later D.out)
  have HI := hide (F.hi.later D.out)
  have HK := hide (F.hk.later D.out)
  go_wp2_with fail
  refine (loffer_any ses base qa qn qc fs kd a1 a2 n1 c1 n2 c2 nm bs x HQ.out HI.out HK.out).mono ?_
  rintro e w2 ⟨v2, rfl, V2, E⟩
  have D2 := hide (D.out.trans (E.out.mono D.out.size))
  obtain ⟨p0, p1, p2, hv⟩ : ∃ p0 p1 p2, v2 = .agg #[p0, p1, p2] := by
    rcases V2.out with ⟨_, ra, rn, rc, hv, _⟩ | ⟨_, ra, rn, rc, hv, _⟩
    · exact ⟨_, _, _, hv⟩
    · exact ⟨_, _, _, hv⟩
  subst hv
  obtain ⟨W3, hW3⟩ : ∃ W3 : World, Hid (W3 = w2.alloc (.cells #[p0, p1, p2] 79)) := ⟨_, rfl⟩
  have D3 := hide (show Below w2.heap.size w2 W3 by rw [hW3.out]; exact below_alloc _ _)
  have XX := hide (show Bx W3 w2.heap.size #[p0, p1, p2] 79 by rw [hW3.out]; exact Bx.new w2 _ _)
  have V3 := hide (show (((Mx.omay ⟨ses, base, fs⟩ ⟨kd, nm, n2, bs⟩) ≠ 0 ∧ SdV W3 (.agg #[p0, p1, p2]) ⟨0, 0, []⟩) ∨ ((Mx.omay ⟨ses, base, fs⟩ ⟨kd, nm, n2, bs⟩) = 0 ∧ SdV W3 (.agg #[p0, p1, p2]) ⟨ses, base, fs ++ [⟨kd, nm, n2, bs⟩]⟩)) by
    rcases V2.out with ⟨h, hs⟩ | ⟨h, hs⟩
    · exact .inl ⟨h, hs.later D3.out⟩
    · exact .inr ⟨h, hs.later D3.out⟩)
  have D4 := hide (D2.out.trans (D3.out.mono D2.out.size))
  clear x0 x1 x2 f0 f1 f2 V2
  obtain ⟨ra, rn, rc, hv, _⟩ : ∃ ra rn rc, p2 = .slice ra rn rc ∧ True := by
    rcases V3.out with ⟨_, ra, rn, rc, hv, _⟩ | ⟨_, ra, rn, rc, hv, _⟩
    all_goals
      simp only [Value.agg.injEq, Array.mk.injEq, List.cons.injEq, and_true] at hv
      exact ⟨ra, rn, rc, hv.2.2, trivial⟩
  obtain ⟨i0, hv0⟩ : ∃ i0 : Int, p0 = .int .i64 i0 := by
    rcases V3.out with ⟨_, ra, rn, rc, hv, _⟩ | ⟨_, ra, rn, rc, hv, _⟩
    all_goals
      simp only [Value.agg.injEq, Array.mk.injEq, List.cons.injEq, and_true] at hv
      exact ⟨_, hv.1⟩
  obtain ⟨i1, hv1⟩ : ∃ i1 : Int, p1 = .int .i64 i1 := by
    rcases V3.out with ⟨_, ra, rn, rc, hv, _⟩ | ⟨_, ra, rn, rc, hv, _⟩
    all_goals
      simp only [Value.agg.injEq, Array.mk.injEq, List.cons.injEq, and_true] at hv
      exact ⟨_, hv.2.1⟩
  subst hv hv0 hv1
  go_wp2_with fail
  rw [← hW3.out]
  exact Met.intro (lt13 F D4 XX V3)

set_option maxHeartbeats 16000000 in
set_option maxRecDepth 100000 in
theorem lt11 {w v : World} {ses base : Int} {qa : Option Addr} {qn qc : Nat} {fs : List Fr} {kd : Int} {a1 : Option Addr} {n1 c1 : Nat} {a2 : Option Addr} {n2 c2 : Nat} {nm bs : List Int} {la : Option Addr} {ln lc : Nat} {u0 u1 u4 u7 u8 u9 u10 u11 u12 u13 u14 u15 u16 u17 u18 u19 u20 u21 u22 u23 u24 u25 u26 u27 u28 u29 u30 u31 u32 u33 u34 u35 u36 u37 u38 u39 u40 u41 u42 u43 u44 u45 u46 u47 u48 u49 u50 u51 u52 u53 u54 u55 u56 u57 u58 u59 u60 u61 u62 u63 u64 u65 u66 u67 u68 u69 u70 u71 u72 u73 u74 u75 u76 u77 u78 u79 u80 u81 u82 u83 u84 u85 u86 u87 u88 u89 u90 u91 u92 u93 u94 u95 u96 u97 u98 u99 u100 u101 u102 u103 u104 u105 u106 u107 u108 u109 u110 u111 u112 u113 u114 u115 u116 u117 u118 u119 u120 u121 u122 u123 u124 u125 u126 u127 u128 u129 u130 u131 u132 u133 u134 u135 u136 u137 u138 : Value} {x : World} {e : Int} (F : Lf w v ses base qa qn qc fs kd a1 n1 c1 a2 n2 c2 nm bs la ln lc) (D : Hid (Below v.heap.size v x)) (HE : Hid (e = (if (Mx.sdmay ⟨ses, base, fs⟩) = 0 then Mx.mmay ⟨kd, nm, n2, bs⟩ else (Mx.sdmay ⟨ses, base, fs⟩)))) :
    TailL 11 w ⟨#[u0, u1, .pointer (some ⟨w.heap.size, 0, none⟩), .pointer (some ⟨(w.heap.size + 1), 0, none⟩), u4, .int .i64 e, .slice la ln lc, u7, u8, u9, u10, u11, u12, u13, u14, u15, u16, u17, u18, u19, u20, u21, u22, u23, u24, u25, u26, u27, u28, u29, u30, u31, u32, u33, u34, u35, u36, u37, u38, u39, u40, u41, u42, u43, u44, u45, u46, u47, u48, u49, u50, u51, u52, u53, u54, u55, u56, u57, u58, u59, u60, u61, u62, u63, u64, u65, u66, u67, u68, u69, u70, u71, u72, u73, u74, u75, u76, u77, u78, u79, u80, u81, u82, u83, u84, u85, u86, u87, u88, u89, u90, u91, u92, u93, u94, u95, u96, u97, u98, u99, u100, u101, u102, u103, u104, u105, u106, u107, u108, u109, u110, u111, u112, u113, u114, u115, u116, u117, u118, u119, u120, u121, u122, u123, u124, u125, u126, u127, u128, u129, u130, u131, u132, u133, u134, u135, u136, u137, u138], []⟩ x := by
  refine tailL_step rfl ?_
  intro K hK
  obtain ⟨x0, x1, x2⟩ := (F.xb.later D.out F.xb.lt).three
  have HN := hide F.hq.1
  have HOM := hide (show (Mx.omay ⟨ses, base, fs⟩ ⟨kd, nm, n2, bs⟩) = if (Mx.sdmay ⟨ses, base, fs⟩) = 0 then (if Mx.mmay ⟨kd, nm, n2, bs⟩ = 0 then (if qn = 64 ∨ 2147483647 ≤ base + (qn : Int) then 2 else 0) else Mx.mmay ⟨kd, nm, n2, bs⟩) else (Mx.sdmay ⟨ses, base, fs⟩) by
    unfold Mx.omay
    dsimp only
    rw [HN.out])
  have q100 := F.q100
  by_cases h1 : e = 0
  · have HZ := hide (show (Mx.sdmay ⟨ses, base, fs⟩) = 0 ∧ Mx.mmay ⟨kd, nm, n2, bs⟩ = 0 by
      have h2 := HE.out
      rw [h1] at h2
      split at h2
      · next h3 => exact ⟨h3, h2.symm⟩
      · next h3 => exact absurd h2.symm h3)
    have HOK := hide (Mx.sdmay_ok HZ.out.1)
    have hb0 : 0 ≤ base := HOK.out.1.2.2.1
    have hb1 : base ≤ 2147483647 := HOK.out.1.2.2.2
    have HO2 := hide (show (Mx.omay ⟨ses, base, fs⟩ ⟨kd, nm, n2, bs⟩) = if qn = 64 ∨ 2147483647 ≤ base + (qn : Int) then 2 else 0 by rw [HOM.out, if_pos HZ.out.1, if_pos HZ.out.2])
    have hwq : IntKind.i64.wrap (base + (qn : Int)) = base + (qn : Int) := by rw [IntWalk.i64_left, IntWalk.wrap64_in _ (by omega)]
    subst h1
    clear HE HOM
    by_cases h64 : qn = 64
    · have d64 : ((qn : Int) == 64) = true := by simpa using (show (qn : Int) = 64 by omega)
      have d64n : (qn == 64) = true := by simpa using h64
      have HO := hide (show (2 : Int) = (Mx.omay ⟨ses, base, fs⟩ ⟨kd, nm, n2, bs⟩) by rw [HO2.out, if_pos (.inl h64)])
      clear h64 HO2
      go_wp2_with fail
      rw [HO.out]
      exact Met.intro (lt12 F D)
    · have d64 : ((qn : Int) == 64) = false := by simpa using (show ¬ (qn : Int) = 64 by omega)
      have d64n : (qn == 64) = false := by simpa using h64
      by_cases hbq : 2147483647 ≤ base + (qn : Int)
      · have dbq : decide (2147483647 ≤ base + (qn : Int)) = true := by simpa using hbq
        have HO := hide (show (2 : Int) = (Mx.omay ⟨ses, base, fs⟩ ⟨kd, nm, n2, bs⟩) by rw [HO2.out, if_pos (.inr hbq)])
        clear h64 hbq HO2
        go_wp2_with fail
        rw [HO.out]
        exact Met.intro (lt12 F D)
      · have dbq : decide (2147483647 ≤ base + (qn : Int)) = false := by simpa using hbq
        have HO := hide (show (0 : Int) = (Mx.omay ⟨ses, base, fs⟩ ⟨kd, nm, n2, bs⟩) by rw [HO2.out, if_neg (by omega)])
        clear h64 hbq HO2
        go_wp2_with fail
        rw [HO.out]
        exact Met.intro (lt12 F D)
  · have d1 : (e == 0) = false := by simpa using h1
    have HO := hide (show e = (Mx.omay ⟨ses, base, fs⟩ ⟨kd, nm, n2, bs⟩) by
      rw [HOM.out]
      have h2 := HE.out
      rw [h2]
      split
      · next h3 =>
        rw [if_neg]
        intro h4
        rw [if_pos h3] at h2
        exact h1 (h2.trans h4)
      · rfl)
    clear HE HOM h1
    go_wp2_with fail
    rw [HO.out]
    exact Met.intro (lt12 F D)

set_option maxHeartbeats 16000000 in
set_option maxRecDepth 100000 in
theorem lt10 {w v : World} {ses base : Int} {qa : Option Addr} {qn qc : Nat} {fs : List Fr} {kd : Int} {a1 : Option Addr} {n1 c1 : Nat} {a2 : Option Addr} {n2 c2 : Nat} {nm bs : List Int} {la : Option Addr} {ln lc : Nat} {u0 u1 u4 u7 u8 u9 u10 u11 u12 u13 u14 u15 u16 u17 u18 u19 u20 u21 u22 u23 u24 u25 u26 u27 u28 u29 u30 u31 u32 u33 u34 u35 u36 u37 u38 u39 u40 u41 u42 u43 u44 u45 u46 u47 u48 u49 u50 u51 u52 u53 u54 u55 u56 u57 u58 u59 u60 u61 u62 u63 u64 u65 u66 u67 u68 u69 u70 u71 u72 u73 u74 u75 u76 u77 u78 u79 u80 u81 u82 u83 u84 u85 u86 u87 u88 u89 u90 u91 u92 u93 u94 u95 u96 u97 u98 u99 u100 u101 u102 u103 u104 u105 u106 u107 u108 u109 u110 u111 u112 u113 u114 u115 u116 u117 u118 u119 u120 u121 u122 u123 u124 u125 u126 u127 u128 u129 u130 u131 u132 u133 u134 u135 u136 u137 u138 : Value} {x : World} {e5 : Int} (F : Lf w v ses base qa qn qc fs kd a1 n1 c1 a2 n2 c2 nm bs la ln lc) (D : Hid (Below v.heap.size v x)) (H5 : Hid (e5 = (Mx.sdmay ⟨ses, base, fs⟩))) :
    TailL 10 w ⟨#[u0, u1, .pointer (some ⟨w.heap.size, 0, none⟩), .pointer (some ⟨(w.heap.size + 1), 0, none⟩), u4, .int .i64 e5, .slice la ln lc, u7, u8, u9, u10, u11, u12, u13, u14, u15, u16, u17, u18, u19, u20, u21, u22, u23, u24, u25, u26, u27, u28, u29, u30, u31, u32, u33, u34, u35, u36, u37, u38, u39, u40, u41, u42, u43, u44, u45, u46, u47, u48, u49, u50, u51, u52, u53, u54, u55, u56, u57, u58, u59, u60, u61, u62, u63, u64, u65, u66, u67, u68, u69, u70, u71, u72, u73, u74, u75, u76, u77, u78, u79, u80, u81, u82, u83, u84, u85, u86, u87, u88, u89, u90, u91, u92, u93, u94, u95, u96, u97, u98, u99, u100, u101, u102, u103, u104, u105, u106, u107, u108, u109, u110, u111, u112, u113, u114, u115, u116, u117, u118, u119, u120, u121, u122, u123, u124, u125, u126, u127, u128, u129, u130, u131, u132, u133, u134, u135, u136, u137, u138], []⟩ x := by
  refine tailL_step rfl ?_
  intro K hK
  obtain rfl := H5.out
  obtain ⟨f0, f1, f2⟩ := (F.xf.later D.out F.xf.lt).three
  by_cases h1 : (Mx.sdmay ⟨ses, base, fs⟩) = 0
  · have HE := hide (show Mx.mmay ⟨kd, nm, n2, bs⟩ = (if (Mx.sdmay ⟨ses, base, fs⟩) = 0 then Mx.mmay ⟨kd, nm, n2, bs⟩ else (Mx.sdmay ⟨ses, base, fs⟩)) by rw [if_pos h1])
    have HI := hide (F.hi.later D.out)
    have hk2 : n2 ≤ maxLen := F.hk.2.1
    rw [h1]
    go_wp2_with fail
    refine (messageMay_any kd a1 a2 n1 c1 n2 c2 nm bs x HI.out hk2).mono ?_
    rintro e w2 ⟨rfl, E⟩
    have D2 := hide (D.out.trans (E.mono D.out.size))
    clear f0 f1 f2
    go_wp2_with fail
    exact Met.intro (lt11 F D2 HE)
  · have HE := hide (show (Mx.sdmay ⟨ses, base, fs⟩) = (if (Mx.sdmay ⟨ses, base, fs⟩) = 0 then Mx.mmay ⟨kd, nm, n2, bs⟩ else (Mx.sdmay ⟨ses, base, fs⟩)) by rw [if_neg h1])
    have d1 : ((Mx.sdmay ⟨ses, base, fs⟩) == 0) = false := by simpa using h1
    clear h1
    go_wp2_with fail
    exact Met.intro (lt11 F D HE)

end Go.Proofs.Ytkebmfocgalinab

/-
  The law LinkSays in parts: what is sent.
-/
namespace Go.Proofs.Ytkebmfocgalinab
open Go.RowKit

theorem Lf.byt {w v : World} {ses base : Int} {qa : Option Addr} {qn qc : Nat} {fs : List Fr} {kd : Int} {a1 : Option Addr} {n1 c1 : Nat} {a2 : Option Addr} {n2 c2 : Nat} {nm bs : List Int} {la : Option Addr} {ln lc : Nat} (F : Lf w v ses base qa qn qc fs kd a1 n1 c1 a2 n2 c2 nm bs la ln lc) : ∀ l ∈ (Mx.sendL ⟨ses, base, fs⟩), ∀ y ∈ l, 0 ≤ y ∧ y ≤ 255 := by
  intro l hl
  unfold Mx.sendL at hl
  split at hl
  · next he =>
    unfold Mx.wires at hl
    obtain ⟨i, hi, rfl⟩ := List.mem_map.1 hl
    rw [List.mem_range] at hi
    have hsm : (Mx.sdmay ⟨ses, base, fs⟩) = 0 := by
      unfold Mx.sendE at he
      split at he
      · next h => exact h
      · next h => exact absurd he h
    have hmax : base + (i : Int) ≤ 2147483647 := by
      unfold Mx.sendE at he
      rw [if_pos hsm] at he
      split at he
      · omega
      · next h =>
        unfold Mx.winN at hi h
        dsimp only at hi h
        omega
    have hiq : i < qn := by
      have h1 := F.hq.1
      unfold Mx.winN at hi
      dsimp only at hi
      omega
    obtain ⟨b, off, f, a1', n1', c1', a2', c2', _, _, hf, _, _, _, _, hbk, _⟩ := F.hq.at_ i hiq
    obtain ⟨hs1, _, hs3⟩ := Mx.sdmay_ok hsm
    have hmf := hs3 f (List.mem_of_getElem? hf)
    have hw := Mx.may_wire (x := base + (i : Int)) hmf ⟨hs1.1, hs1.2.1⟩ (by have h1 : 0 ≤ base := hs1.2.2.1; omega)
    rw [if_neg (by omega)] at hw
    rw [Mx.wireAt_some (s := ⟨ses, base, fs⟩) hf]
    exact packB_byte hbk hw
  · cases hl

set_option maxHeartbeats 16000000 in
set_option maxRecDepth 100000 in
theorem lt9 {w v : World} {ses base : Int} {qa : Option Addr} {qn qc : Nat} {fs : List Fr} {kd : Int} {a1 : Option Addr} {n1 c1 : Nat} {a2 : Option Addr} {n2 c2 : Nat} {nm bs : List Int} {la : Option Addr} {ln lc : Nat} {u0 u1 u4 u7 u8 u10 u11 u12 u13 u14 u15 u16 u17 u18 u19 u20 u21 u22 u23 u24 u25 u26 u27 u28 u29 u30 u31 u32 u33 u34 u35 u36 u37 u38 u39 u40 u41 u42 u43 u44 u45 u46 u47 u48 u49 u50 u51 u52 u53 u54 u55 u56 u57 u58 u59 u60 u61 u62 u63 u64 u65 u66 u67 u68 u69 u70 u71 u72 u73 u74 u75 u76 u77 u78 u79 u80 u81 u82 u83 u84 u85 u86 u87 u88 u89 u90 u91 u92 u93 u94 u95 u96 u97 u98 u99 u100 u101 u102 u103 u104 u105 u106 u107 u108 u109 u110 u111 u112 u113 u114 u115 u116 u117 u118 u119 u120 u121 u122 u123 u124 u125 u126 u127 u128 u129 u130 u131 u132 u133 u134 u135 u136 u137 u138 : Value} {x : World} {wa : Option Addr} {wc : Nat} {e5 : Int} (F : Lf w v ses base qa qn qc fs kd a1 n1 c1 a2 n2 c2 nm bs la ln lc) (D : Hid (Below v.heap.size v x)) (BW : Hid (Bn x wa ln (Mx.sendL ⟨ses, base, fs⟩))) (H5 : Hid (e5 = (Mx.sdmay ⟨ses, base, fs⟩))) :
    TailL 9 w ⟨#[u0, u1, .pointer (some ⟨w.heap.size, 0, none⟩), .pointer (some ⟨(w.heap.size + 1), 0, none⟩), u4, .int .i64 e5, .slice la ln lc, u7, u8, .slice wa ln wc, u10, u11, u12, u13, u14, u15, u16, u17, u18, u19, u20, u21, u22, u23, u24, u25, u26, u27, u28, u29, u30, u31, u32, u33, u34, u35, u36, u37, u38, u39, u40, u41, u42, u43, u44, u45, u46, u47, u48, u49, u50, u51, u52, u53, u54, u55, u56, u57, u58, u59, u60, u61, u62, u63, u64, u65, u66, u67, u68, u69, u70, u71, u72, u73, u74, u75, u76, u77, u78, u79, u80, u81, u82, u83, u84, u85, u86, u87, u88, u89, u90, u91, u92, u93, u94, u95, u96, u97, u98, u99, u100, u101, u102, u103, u104, u105, u106, u107, u108, u109, u110, u111, u112, u113, u114, u115, u116, u117, u118, u119, u120, u121, u122, u123, u124, u125, u126, u127, u128, u129, u130, u131, u132, u133, u134, u135, u136, u137, u138], []⟩ x := by
  refine tailL_step rfl ?_
  intro K hK
  have HB := hide F.byt
  have hln : ln ≤ maxLen := F.hs.2.1
  rw [maxLen_val] at hln
  have HS := hide F.hs
  go_wp2_with fail
  go_loopw [11] (fun t wr => ∃ k : Nat, k ≤ ln ∧ t = .int .i64 (k : Int) ∧ Hid (Below x.heap.size x wr)) (fun t _ => ln - (intOf t).toNat)
  case atStart => exact ⟨0, by omega, rfl, Below.refl _ _⟩
  case round =>
    obtain ⟨k, hk, rfl, hB⟩ := hrel
    have DR := hide (D.out.trans (hB.out.mono D.out.size))
    by_cases hlt : k < ln
    · obtain ⟨b, off, l, ai, ni, ci, hab, hblt, hx, e0, hl1, _⟩ := (HS.out.later DR.out).at_ k hlt
      obtain ⟨b', off', l', aj, nj, cj, hab', hblt', hx', e1, hl2, _⟩ := (BW.out.later hB.out).at_ k hlt
      rw [hx] at hx'
      cases hx'
      subst hab hab'
      have Y1 := hide (hl1.bytes (HB.out l (List.mem_of_getElem? hx)))
      have Y2 := hide (hl2.bytes (HB.out l (List.mem_of_getElem? hx)))
      clear hx hl1 hl2
      go_upto_region 21 with fail
      go_region_held3 (fun w' => w'.cell? ⟨b, off + k, none⟩ = some (.slice ai ni ci) ∧ w'.cell? ⟨b', off' + k, none⟩ = some (.slice aj nj cj))
        (first
          | with_reducible exact ⟨e0, e1⟩
          | (simp only [cell_drew]; with_reducible exact ⟨e0, e1⟩)
          | with_reducible exact ⟨z0, z1⟩
          | (simp only [cell_drewN]; with_reducible exact ⟨e0, e1⟩))
        (first
          | (go_at_call 41; refine (sameBytes_any ai aj ni ci nj cj l l wr.drew (Y1.out.later (Below.refl _ _).drew) (Y2.out.later (Below.refl _ _).drew) rfl).mono ?_; rintro e w2 ⟨rfl, q, hq⟩; have D2 := hide (show Below wr.heap.size wr w2 by rw [hq]; exact below_drewN (Below.refl _ _).drew q); clear hq; have z0 := (D2.out.cell (p := ⟨b, off + k, none⟩) hblt).trans e0; have z1 := (D2.out.cell (p := ⟨b', off' + k, none⟩) hblt').trans e1))
      all_goals
        have E2 := hide (hB.out.trans (D2.out.mono hB.out.size))
        go_wp2_with fail
        go_roundw
        case rel => exact ⟨k + 1, by omega, by go_num, E2⟩
        case measure => simp [intOf]; omega
    · obtain rfl : k = ln := by omega
      go_wp2_with fail
      exact Met.intro (lt10 F DR H5)

set_option maxHeartbeats 16000000 in
set_option maxRecDepth 100000 in
theorem lt8 {w v : World} {ses base : Int} {qa : Option Addr} {qn qc : Nat} {fs : List Fr} {kd : Int} {a1 : Option Addr} {n1 c1 : Nat} {a2 : Option Addr} {n2 c2 : Nat} {nm bs : List Int} {la : Option Addr} {ln lc : Nat} {u0 u1 u4 u10 u11 u12 u13 u14 u15 u16 u17 u18 u19 u20 u21 u22 u23 u24 u25 u26 u27 u28 u29 u30 u31 u32 u33 u34 u35 u36 u37 u38 u39 u40 u41 u42 u43 u44 u45 u46 u47 u48 u49 u50 u51 u52 u53 u54 u55 u56 u57 u58 u59 u60 u61 u62 u63 u64 u65 u66 u67 u68 u69 u70 u71 u72 u73 u74 u75 u76 u77 u78 u79 u80 u81 u82 u83 u84 u85 u86 u87 u88 u89 u90 u91 u92 u93 u94 u95 u96 u97 u98 u99 u100 u101 u102 u103 u104 u105 u106 u107 u108 u109 u110 u111 u112 u113 u114 u115 u116 u117 u118 u119 u120 u121 u122 u123 u124 u125 u126 u127 u128 u129 u130 u131 u132 u133 u134 u135 u136 u137 u138 : Value} {x : World} {wa : Option Addr} {wc : Nat} {e5 e7 e8 : Int} (F : Lf w v ses base qa qn qc fs kd a1 n1 c1 a2 n2 c2 nm bs la ln lc) (D : Hid (Below v.heap.size v x)) (BW : Hid (Bn x wa ln (Mx.sendL ⟨ses, base, fs⟩))) (H5 : Hid (e5 = (Mx.sdmay ⟨ses, base, fs⟩))) (H78 : Hid (e7 = e8)) :
    TailL 8 w ⟨#[u0, u1, .pointer (some ⟨w.heap.size, 0, none⟩), .pointer (some ⟨(w.heap.size + 1), 0, none⟩), u4, .int .i64 e5, .slice la ln lc, errV e7, .int .i64 e8, .slice wa ln wc, u10, u11, u12, u13, u14, u15, u16, u17, u18, u19, u20, u21, u22, u23, u24, u25, u26, u27, u28, u29, u30, u31, u32, u33, u34, u35, u36, u37, u38, u39, u40, u41, u42, u43, u44, u45, u46, u47, u48, u49, u50, u51, u52, u53, u54, u55, u56, u57, u58, u59, u60, u61, u62, u63, u64, u65, u66, u67, u68, u69, u70, u71, u72, u73, u74, u75, u76, u77, u78, u79, u80, u81, u82, u83, u84, u85, u86, u87, u88, u89, u90, u91, u92, u93, u94, u95, u96, u97, u98, u99, u100, u101, u102, u103, u104, u105, u106, u107, u108, u109, u110, u111, u112, u113, u114, u115, u116, u117, u118, u119, u120, u121, u122, u123, u124, u125, u126, u127, u128, u129, u130, u131, u132, u133, u134, u135, u136, u137, u138], []⟩ x := by
  refine tailL_step rfl ?_
  intro K hK
  have hln : ln ≤ maxLen := F.hs.2.1
  rw [maxLen_val] at hln
  obtain rfl := H78.out
  go_wp2_with fail
  refine (is_any e7 e7 x).mono ?_
  rintro e wz ⟨rfl, hz⟩
  obtain rfl := hz.symm
  clear hz
  rw [beq_self_eq_true]
  go_wp2_with fail
  exact Met.intro (lt9 F D BW H5)

end Go.Proofs.Ytkebmfocgalinab

/-
  The law LinkSays in parts: what is to be sent.
-/
namespace Go.Proofs.Ytkebmfocgalinab
open Go.RowKit

set_option maxHeartbeats 16000000 in
set_option maxRecDepth 100000 in
theorem lt7 {w v : World} {ses base : Int} {qa : Option Addr} {qn qc : Nat} {fs : List Fr} {kd : Int} {a1 : Option Addr} {n1 c1 : Nat} {a2 : Option Addr} {n2 c2 : Nat} {nm bs : List Int} {la : Option Addr} {ln lc : Nat} {u0 u1 u4 u10 u11 u12 u13 u14 u15 u16 u17 u18 u19 u20 u21 u22 u23 u24 u25 u26 u27 u28 u29 u30 u31 u32 u33 u34 u35 u36 u37 u38 u39 u40 u41 u42 u43 u44 u45 u46 u47 u48 u49 u50 u51 u52 u53 u54 u55 u56 u57 u58 u59 u60 u61 u62 u63 u64 u65 u66 u67 u68 u69 u70 u71 u72 u73 u74 u75 u76 u77 u78 u79 u80 u81 u82 u83 u84 u85 u86 u87 u88 u89 u90 u91 u92 u93 u94 u95 u96 u97 u98 u99 u100 u101 u102 u103 u104 u105 u106 u107 u108 u109 u110 u111 u112 u113 u114 u115 u116 u117 u118 u119 u120 u121 u122 u123 u124 u125 u126 u127 u128 u129 u130 u131 u132 u133 u134 u135 u136 u137 u138 : Value} {x : World} (F : Lf w v ses base qa qn qc fs kd a1 n1 c1 a2 n2 c2 nm bs la ln lc) (D : Hid (Below v.heap.size v x)) :
    TailL 7 w ⟨#[u0, u1, .pointer (some ⟨w.heap.size, 0, none⟩), .pointer (some ⟨(w.heap.size + 1), 0, none⟩), u4, .int .i64 (Mx.sdmay ⟨ses, base, fs⟩), .slice la ln lc, errV (Mx.sendE ⟨ses, base, fs⟩), .int .i64 (Mx.sdmay ⟨ses, base, fs⟩), .slice none 0 0, u10, u11, u12, u13, u14, u15, u16, u17, u18, u19, u20, u21, u22, u23, u24, u25, u26, u27, u28, u29, u30, u31, u32, u33, u34, u35, u36, u37, u38, u39, u40, u41, u42, u43, u44, u45, u46, u47, u48, u49, u50, u51, u52, u53, u54, u55, u56, u57, u58, u59, u60, u61, u62, u63, u64, u65, u66, u67, u68, u69, u70, u71, u72, u73, u74, u75, u76, u77, u78, u79, u80, u81, u82, u83, u84, u85, u86, u87, u88, u89, u90, u91, u92, u93, u94, u95, u96, u97, u98, u99, u100, u101, u102, u103, u104, u105, u106, u107, u108, u109, u110, u111, u112, u113, u114, u115, u116, u117, u118, u119, u120, u121, u122, u123, u124, u125, u126, u127, u128, u129, u130, u131, u132, u133, u134, u135, u136, u137, u138], []⟩ x := by
  refine tailL_step rfl ?_
  intro K hK
  have HN := hide F.hq.1
  have HLL := hide F.hs.1
  have q100 := F.q100
  by_cases hm : (Mx.sdmay ⟨ses, base, fs⟩) = 0
  · have HM := hide hm
    have HOK := hide (Mx.sdmay_ok hm)
    have hb0 : 0 ≤ base := HOK.out.1.2.2.1
    have hb1 : base ≤ 2147483647 := HOK.out.1.2.2.2
    obtain ⟨M, hM⟩ : ∃ M : Nat, Hid (M = min qn 4) := ⟨_, rfl⟩
    have HWN := hide (show Mx.winN ⟨ses, base, fs⟩ = M by rw [hM.out, ← HN.out]; rfl)
    have hM4 : M ≤ 4 := by rw [hM.out]; omega
    have hMq : M ≤ qn := by rw [hM.out]; omega
    obtain ⟨sm, hsm⟩ : ∃ sm : Int, Hid (sm = (Mx.sdmay ⟨ses, base, fs⟩)) := ⟨_, rfl⟩
    have hsm0 : sm = 0 := by rw [hsm.out, hm]
    rw [hm]
    clear hm
    go_wp2_with fail
    go_loopw [8, 9, 10] (fun s8 s9 t wr => ∃ k : Nat, s8 = .int .i64 0 ∧ k ≤ M ∧ t = .int .i64 (k : Int) ∧ Hid (∀ j : Nat, j < k → base + (j : Int) ≤ 2147483647) ∧ Hid (OwnBn 0 wr x.heap.size s9 (Mx.wires ⟨ses, base, fs⟩ k)) ∧ Hid (Below x.heap.size x wr)) (fun _ _ t _ => M - (intOf t).toNat)
    case atStart => exact ⟨0, rfl, by omega, rfl, hide (fun j hj => by omega), OwnBn.nil _ _ _, Below.refl _ _⟩
    case round =>
      obtain ⟨k, rfl, hk, rfl, hG, hO, hB⟩ := hrel
      have DR := hide (D.out.trans (hB.out.mono D.out.size))
      obtain ⟨x0, x1, x2⟩ := (F.xb.later DR.out F.xb.lt).three
      go_wp2_with fail
      refine (windowR_any ses base qa qn qc wr (by omega)).mono ?_
      rintro e w3 ⟨rfl, D3⟩
      rw [← hM.out]
      have E3 := hide (hB.out.trans (D3.mono hB.out.size))
      have DR3 := hide (D.out.trans (E3.out.mono D.out.size))
      have O3 := hide (hO.out.later D3)
      clear x0 x1 x2
      by_cases hlt : k < M
      · have dlt : decide ((k : Int) < M) = true := by simpa using (show (k : Int) < M by omega)
        have dltn : decide (k < M) = true := by simpa using hlt
        have hwk : IntKind.i64.wrap (2147483647 - (k : Int)) = 2147483647 - (k : Int) := by rw [IntWalk.i64_left, IntWalk.wrap64_in _ (by omega)]
        obtain ⟨x0, x1, x2⟩ := (F.xb.later DR3.out F.xb.lt).three
        by_cases hbig : 2147483647 - (k : Int) < base
        · have dbig : decide (2147483647 - (k : Int) < base) = true := by simpa using hbig
          have HSE := hide (Mx.sendE_1 (s := ⟨ses, base, fs⟩) (k := k) HM.out (by rw [HWN.out]; exact hlt) (by show 2147483647 < base + (k : Int); omega))
          have HSL := hide (show (Mx.sendL ⟨ses, base, fs⟩) = [] by unfold Mx.sendL; rw [HSE.out, if_neg (by decide)])
          have hln : ln = 0 := by have h := HLL.out; rw [HSL.out] at h; exact h.symm
          clear hbig
          go_wp2_with fail
          subst hln
          exact Met.intro (lt8 (wa := none) (wc := 0) F DR3 (hide (by rw [HSL.out]; exact ⟨rfl, by rw [maxLen_val]; omega, fun h => absurd h (by omega)⟩)) (hide HM.out.symm) HSE)
        · have dbig : decide (2147483647 - (k : Int) < base) = false := by simpa using hbig
          have HG := hide (show ∀ j : Nat, j < k + 1 → base + (j : Int) ≤ 2147483647 from fun j hj => by
            by_cases hjk : j = k
            · subst hjk
              omega
            · exact hG.out j (by omega))
          clear hbig
          obtain ⟨f, hf⟩ : ∃ f, fs[k]? = some f := ⟨_, List.getElem?_eq_getElem (by rw [HN.out]; omega)⟩
          have HX := hide hf
          have HMF := hide (HOK.out.2.2 f (List.mem_of_getElem? hf))
          have HWR := hide (show Mx.may 1 (ses :: (base + (k : Int)) :: f.kind :: f.nums) f.nb = 0 by
            have h := Mx.may_wire (x := base + (k : Int)) HMF.out ⟨HOK.out.1.1, HOK.out.1.2.1⟩ (by omega)
            rw [if_neg (by have := HG.out k (by omega); omega)] at h
            exact h)
          have HWA := hide (Mx.wireAt_some (s := ⟨ses, base, fs⟩) hf)
          have HQ3 := hide (F.hq.later DR3.out)
          clear hf
          obtain ⟨kd', nm', nb', bs'⟩ := f
          dsimp only at HWR HWA
          go_wp2_with fail
          refine (dataOf_any ses base qa qn qc fs k kd' nm' nb' bs' w3 HQ3.out HX.out hb0 hb1 (by omega) HWR.out).mono ?_
          rintro e w5 ⟨v5, rfl, hO5, D5⟩
          obtain ⟨pa, pc, hv5, hpc, hbr, hpa⟩ := hO5.out.br
          obtain ⟨pn, hpn⟩ : ∃ pn : Nat, Hid (pn = (Mx.packB 1 (ses :: (base + (k : Int)) :: kd' :: nm') nb' bs').length) := ⟨_, rfl⟩
          rw [← hpn.out] at hv5 hpc hbr
          subst hv5
          have P5 := hide (show BR w5 pa pn (Mx.wireAt ⟨ses, base, fs⟩ k) by rw [HWA.out]; exact hbr)
          have C5 := hide hpc
          have E5 := hide (E3.out.trans (D5.out.mono E3.out.size))
          have O5 := hide (O3.out.later D5.out)
          have Q5 := hide (show 0 < pn → ∀ p, pa = some p → u9.ownBlock ≠ some p.block ∧ 0 ≤ p.block from fun _ p hp => ⟨fun e => by have h1 := (O3.out.lt _ e).2; have h2 := hpa p hp; omega, Nat.zero_le _⟩)
          have HTL := hide (show (Mx.wires ⟨ses, base, fs⟩ k).length ≤ 1000000 by rw [Mx.wires_len]; omega)
          clear hpc hbr hpa hO5 x0 x1 x2
          go_wp2_with (at_builtin; refine wpList_append_bn (w := w5) rfl _ _ rfl 0 x.heap.size (Mx.wires ⟨ses, base, fs⟩ k) ?o1 pa pn pc (Mx.wireAt ⟨ses, base, fs⟩ k) ?o2 ?o3 ?o4 rfl ?o6 ?o7 ?_)
          case o1 => exact O5.out
          case o2 => exact P5.out
          case o3 => exact C5.out
          case o4 => exact Q5.out
          case o6 => exact HTL.out
          case o7 => exact E5.out.size
          intro v6 w6 hO6 hG6
          have O6 := hide (show OwnBn 0 w6 x.heap.size v6 (Mx.wires ⟨ses, base, fs⟩ (k + 1)) by rw [Mx.wires_succ]; exact hO6)
          have E6 := hide (show Below x.heap.size x w6 from E5.out.grown hG6 E5.out.size (fun i hi => (O5.out.lt i hi).1))
          clear hO6 hG6
          go_wp2_with fail
          go_roundw
          case rel => exact ⟨k + 1, rfl, by omega, by go_num, HG, O6, E6⟩
          case measure => simp [intOf]; omega
      · have dlt : decide ((k : Int) < M) = false := by simpa using (show ¬ (k : Int) < M by omega)
        have dltn : decide (k < M) = false := by simpa using hlt
        obtain rfl : k = M := by omega
        have HSE := hide (Mx.sendE_0 (s := ⟨ses, base, fs⟩) HM.out (fun j hj => hG.out j (by rw [HWN.out] at hj; exact hj)))
        have HSL := hide (show (Mx.sendL ⟨ses, base, fs⟩) = Mx.wires ⟨ses, base, fs⟩ k by unfold Mx.sendL; rw [HSE.out, if_pos rfl, HWN.out])
        obtain ⟨ya, yc, hv, _, hbn⟩ := O3.out.bn
        rw [show (Mx.wires ⟨ses, base, fs⟩ k).length = ln by rw [← HSL.out]; exact HLL.out] at hv hbn
        subst hv
        have BW := hide (show Bn w3 ya ln (Mx.sendL ⟨ses, base, fs⟩) by rw [HSL.out]; exact hbn)
        clear hbn
        go_wp2_with fail
        exact Met.intro (lt8 (wc := yc) F DR3 BW (hide HM.out.symm) HSE)
  · have HSE := hide (Mx.sendE_no hm)
    have HSL := hide (show (Mx.sendL ⟨ses, base, fs⟩) = [] by unfold Mx.sendL; rw [HSE.out, if_neg hm])
    have hmb : ((Mx.sdmay ⟨ses, base, fs⟩) == 0) = false := by simpa using hm
    have hln : ln = 0 := by have h := HLL.out; rw [HSL.out] at h; exact h.symm
    clear hm
    subst hln
    go_wp2_with fail
    refine wp_loop_once ?_
    go_wp2_with fail
    exact Met.intro (lt8 (wa := none) (wc := 0) F D (hide (by rw [HSL.out]; exact ⟨rfl, by rw [maxLen_val]; omega, fun h => absurd h (by omega)⟩)) (hide rfl) HSE)

end Go.Proofs.Ytkebmfocgalinab

/-
  The law LinkSays.
-/
namespace Go.Proofs.Ytkebmfocgalinab
open Go.RowKit

set_option maxHeartbeats 16000000 in
set_option maxRecDepth 100000 in
theorem lsays_any (ses base : Int) (qa : Option Addr) (qn qc : Nat) (fs : List Fr) (kd : Int) (a1 a2 : Option Addr) (n1 c1 n2 c2 : Nat) (nm bs : List Int) (w : World) (hq : FL w qa qn fs) (hqc : qn ≤ qc) (hi : Ints w a1 n1 nm) (hk : Blks w a2 n2 bs) (hn1 : n1 ≤ c1) (hn2 : n2 ≤ c2) :
    Calls Try.prog 7 #[.agg #[.int .i64 ses, .int .i64 base, .slice qa qn qc], .agg #[.int .i64 kd, .slice a1 n1 c1, .slice a2 n2 c2]] w fun e w' => e = .returned (.bool true) ∧ Below w.heap.size w w' := by
  obtain ⟨W0, hW0⟩ : ∃ W0 : World, Hid (W0 = (w.alloc (.cells #[.int .i64 ses, .int .i64 base, .slice qa qn qc] 79)).alloc (.cells #[.int .i64 kd, .slice a1 n1 c1, .slice a2 n2 c2] 81)) := ⟨_, rfl⟩
  have X0 := hide (show Bx W0 w.heap.size #[.int .i64 ses, .int .i64 base, .slice qa qn qc] 79 by rw [hW0.out]; exact (Bx.new w _ _).alloc _)
  have Y0 := hide (show Bx W0 (w.heap.size + 1) #[.int .i64 kd, .slice a1 n1 c1, .slice a2 n2 c2] 81 by
    rw [hW0.out]
    have h := Bx.new (w.alloc (.cells #[.int .i64 ses, .int .i64 base, .slice qa qn qc] 79)) #[.int .i64 kd, .slice a1 n1 c1, .slice a2 n2 c2] 81
    rw [World.size_alloc] at h
    exact h)
  have D0 := hide (show Below w.heap.size w W0 by rw [hW0.out]; exact (below_alloc _ _).alloc (by simp) _)
  have hqm : qn ≤ maxLen := hq.2.1
  rw [maxLen_val] at hqm
  have HQ := hide (hq.later D0.out)
  have HI := hide (hi.later D0.out)
  have HK := hide (hk.later D0.out)
  clear hq hi hk
  go_enter Try.func7, Try.ntmps7
  change TailL 0 w _ w
  refine tailL_step rfl ?_
  intro K hK
  go_wp2_with fail
  rw [← hW0.out]
  refine Met.intro (tailL_step rfl ?_)
  try clear hK K
  intro K hK
  obtain ⟨x0, x1, x2⟩ := X0.out.three
  by_cases h100 : (100 : Int) < qn
  · have d100 : decide ((100 : Int) < qn) = true := by simpa using h100
    go_wp2_with fail
    go_ret
    exact ⟨rfl, D0.out⟩
  · have d100 : decide ((100 : Int) < qn) = false := by simpa using h100
    have q100 : qn ≤ 100 := by omega
    clear h100
    go_wp2_with fail
    refine Met.intro (tailL_step rfl ?_)
    try clear hK K
    intro K hK
    go_wp2_with fail
    refine (senderMay_any ses base qa qn qc fs W0 HQ.out).mono ?_
    rintro e w1 ⟨rfl, D1⟩
    have X1 := hide (X0.out.later D1 X0.out.lt)
    have B1 := hide (D0.out.trans (D1.mono D0.out.size))
    clear x0 x1 x2
    go_wp2_with fail
    refine Met.intro (tailL_step rfl ?_)
    try clear hK K
    intro K hK
    obtain ⟨x0, x1, x2⟩ := X1.out.three
    go_wp2_with fail
    refine (lcheck_any ses base qa qn qc fs w1 (HQ.out.later D1)).mono ?_
    rintro e w2 ⟨rfl, D2⟩
    have X2 := hide (X1.out.later D2 X1.out.lt)
    have D02 := hide (D1.trans (D2.mono D1.size))
    have B2 := hide (B1.out.trans (D2.mono B1.out.size))
    clear x0 x1 x2
    go_wp2_with fail
    refine (is_any (Mx.sdmay ⟨ses, base, fs⟩) (Mx.sdmay ⟨ses, base, fs⟩) w2).mono ?_
    rintro e wz ⟨rfl, hz⟩
    obtain rfl := hz.symm
    clear hz
    rw [beq_self_eq_true]
    go_wp2_with fail
    refine Met.intro (tailL_step rfl ?_)
    try clear hK K
    intro K hK
    obtain ⟨x0, x1, x2⟩ := X2.out.three
    go_wp2_with fail
    refine (lsend_any ses base qa qn qc fs w2 (HQ.out.later D02.out) hqc).mono ?_
    rintro e w3 ⟨v3, rfl, O3, D3⟩
    obtain ⟨la, lc, hv, _, hbn⟩ := O3.out.bn
    obtain ⟨ln, hln⟩ : ∃ ln : Nat, Hid (ln = (Mx.sendL ⟨ses, base, fs⟩).length) := ⟨_, rfl⟩
    rw [← hln.out] at hv hbn
    subst hv
    have D03 := hide (D02.out.trans (D3.out.mono D02.out.size))
    have FF := hide (Lf.mk (la := la) (ln := ln) (lc := lc) (X0.out.later D03.out X0.out.lt) (Y0.out.later D03.out Y0.out.lt) (HQ.out.later D03.out) (HI.out.later D03.out) (HK.out.later D03.out) hbn (D0.out.trans (D03.out.mono D0.out.size)) q100 hqc hn1 hn2)
    clear x0 x1 x2 hbn
    go_wp2_with fail
    refine Met.intro (tailL_step rfl ?_)
    try clear hK K
    intro K hK
    go_wp2_with fail
    refine Met.intro (tailL_step rfl ?_)
    try clear hK K
    intro K hK
    go_wp2_with fail
    exact Met.intro (lt7 FF.out (hide (Below.refl _ _)))

end Go.Proofs.Ytkebmfocgalinab
