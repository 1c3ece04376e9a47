/-
  Stores: a disk copied (fresh), a new one (Format).
-/
import Derived.Test.YtfbmaemnbolplaaZDbox
import Derived.Test.YtfbmaemnbolplaaZSb
import Derived.Test.YtfbmaemnbolplaaZEl
import Derived.Test.YtfbmaemnbolplaaZKn

namespace Go.Proofs.Ytfbmaemnbolplaa
open Go.RowKit

/-- a disk, read, all of it in blocks from B on -/
structure DK (B : Nat) (w : World) (a1 : Option Addr) (n : Nat) (ls : List B8) (a2 : Option Addr) (m : Nat) (ps : List Pt) : Prop where
  bl : BL w a1 n ls
  pl : PL w a2 m ps
  b1 : 0 < n → ∀ p, a1 = some p → B ≤ p.block
  b2 : 0 < m → ∀ p, a2 = some p → B ≤ p.block

theorem DK.later {B : Nat} {w w' : World} {a1 : Option Addr} {n : Nat} {ls : List B8} {a2 : Option Addr} {m : Nat} {ps : List Pt} (h : DK B w a1 n ls a2 m ps) (hb : Below w.heap.size w w') : DK B w' a1 n ls a2 m ps := ⟨h.bl.later hb, h.pl.later hb, h.b1, h.b2⟩

theorem RowR.ext1 {w w' : World} {a : Option Addr} {n size : Nat} {xs : List Value} {g : Nat} (h : RowR w a n size xs) (hg : w.grownBy w' (some g)) (hne : 0 < n → ∀ p, a = some p → p.block ≠ g) : RowR w' a n size xs := by
  refine ⟨h.1, h.2.1, fun hn => ?_⟩
  obtain ⟨b, off, ha, hlt, hc⟩ := h.2.2 hn
  refine ⟨b, off, ha, Nat.lt_of_lt_of_le hlt hg.size, fun j u hu => ?_⟩
  exact hg.cell (a := ⟨b, off + j, none⟩) (hc j u hu) (fun e => hne hn _ ha (Option.some.inj e))

theorem DK.grown {B g : Nat} {w w' : World} {a1 : Option Addr} {n : Nat} {ls : List B8} {a2 : Option Addr} {m : Nat} {ps : List Pt} (h : DK B w a1 n ls a2 m ps) (hg : w.grownBy w' (some g)) (hB : g < B) : DK B w' a1 n ls a2 m ps :=
  ⟨⟨h.bl.1, h.bl.2.ext1 hg (fun hn p hp => by have := h.b1 hn p hp; omega)⟩, ⟨h.pl.1, h.pl.2.ext1 hg (fun hn p hp => by have := h.b2 hn p hp; omega)⟩, h.b1, h.b2⟩

theorem DK.low {B B' : Nat} {w : World} {a1 : Option Addr} {n : Nat} {ls : List B8} {a2 : Option Addr} {m : Nat} {ps : List Pt} (h : DK B w a1 n ls a2 m ps) (hB : B' ≤ B) : DK B' w a1 n ls a2 m ps := ⟨h.bl, h.pl, fun hn p hp => Nat.le_trans hB (h.b1 hn p hp), fun hn p hp => Nat.le_trans hB (h.b2 hn p hp)⟩

set_option maxHeartbeats 16000000 in
set_option maxRecDepth 100000 in
theorem sfresh_any (sa pa : Option Addr) (n sc m pc : Nat) (left : Int) (ls : List B8) (ps : List Pt) (w : World) (hs : BL w sa n ls) (hp : PL w pa m ps) (hn : n ≤ 1000) (hm : m ≤ 1000) :
    Calls Try.prog 22 #[.agg #[.slice sa n sc, .slice pa m pc, .int .i64 left]] w fun e w' => ∃ a1 c1 a2 c2, e = .returned (.agg #[.slice a1 n c1, .slice a2 m c2, .int .i64 left]) ∧ Hid (DK w.heap.size w' a1 n ls a2 m ps) ∧ Hid (Below w.heap.size w w') := by
  obtain ⟨W0, hW0⟩ : ∃ W0 : World, Hid (W0 = (w.alloc (.cells #[.slice sa n sc, .slice pa m pc, .int .i64 left] 29)).alloc (.cells #[.slice none 0 0, .slice none 0 0, .int .i64 0] 29)) := ⟨_, rfl⟩
  have X0 := hide (show Bx W0 w.heap.size #[.slice sa n sc, .slice pa m pc, .int .i64 left] 29 by rw [hW0.out]; exact (Bx.new w _ _).alloc _)
  have R0 := hide (show Bx W0 (w.heap.size + 1) #[.slice none 0 0, .slice none 0 0, .int .i64 0] 29 by
    rw [hW0.out]
    have h := Bx.new (w.alloc (.cells #[.slice sa n sc, .slice pa m pc, .int .i64 left] 29)) #[.slice none 0 0, .slice none 0 0, .int .i64 0] 29
    rw [World.size_alloc] at h
    exact h)
  have D0 := hide (show Below w.heap.size w W0 by rw [hW0.out]; exact (below_alloc _ _).alloc (by simp) _)
  have S0 := hide (show W0.heap.size = w.heap.size + 2 by rw [hW0.out]; simp)
  have HS := hide (hs.later D0.out)
  have HP := hide (hp.later D0.out)
  have HL := hide hs.1
  have HM := hide hp.1
  clear hs hp
  go_enter Try.func22, Try.ntmps22
  change TailG Try.f22 _ 0 _ w
  refine tailG_step rfl ?_
  intro K hK
  go_wp2_with fail
  rw [← hW0.out]
  refine Met.intro (tailG_last (c := .seq _ .ret) rfl ?_)
  try clear hK
  try clear K
  obtain ⟨x0, x1, x2⟩ := X0.out.three
  have hrg : ¬ w.heap.size + 1 = w.heap.size := by omega
  go_upto_region 1 with fail
  go_region_held3 (fun w' => w'.cell? ⟨w.heap.size, 0, none⟩ = some (.slice sa n sc) ∧ w'.cell? ⟨w.heap.size, 1, none⟩ = some (.slice pa m pc) ∧ w'.cell? ⟨w.heap.size, 2, none⟩ = some (.int .i64 left))
    (first
      | with_reducible exact ⟨x0, x1, x2⟩
      | (simp only [cell_drew]; with_reducible exact ⟨x0, x1, x2⟩)
      | with_reducible exact ⟨y0, y1, y2⟩
      | with_reducible exact ⟨z0, z1, z2⟩
      | (simp only [cell_set_far hrg]; with_reducible exact ⟨z0, z1, z2⟩))
    (first
      | (go_at_call 39; (with_reducible refine (cloneB_any sa n sc ls W0.drew (HS.out.later (Below.refl _ _).drew) (by omega)).mono ?_); rintro e w1 ⟨v1, rfl, O1, D1⟩; have E1 := hide (show Below W0.heap.size W0 w1 from (Below.refl _ _).drew.trans D1); obtain ⟨a1, c1, hv1, hb1, hp1⟩ := O1.bl; rw [HL.out] at hv1 hb1; subst hv1; have HB1 := hide hb1; have HP1 := hide hp1; obtain ⟨y0, y1, y2⟩ := (X0.out.later E1.out X0.out.lt).three; clear O1 D1 hb1 hp1)
      | (go_at_call 46; (with_reducible refine (cloneP_any pa m pc ps w1 (HP.out.later E1.out) (by omega)).mono ?_); rintro e w2 ⟨v2, rfl, O2, D2⟩; have E2 := hide (E1.out.trans (D2.mono E1.out.size)); have HB2 := hide (HB1.out.later D2); obtain ⟨a2, c2, hv2, hb2, hp2⟩ := O2.pl; rw [HM.out] at hv2 hb2; subst hv2; have HB3 := hide hb2; have HP2 := hide hp2; obtain ⟨z0, z1, z2⟩ := (X0.out.later E2.out X0.out.lt).three; have R2 := hide (R0.out.later E2.out R0.out.lt); obtain ⟨r0, r1, r2⟩ := R2.out.three; have rz := R2.out.frozen; have hs1 : W0.heap.size ≤ w1.heap.size := E1.out.size; clear O2 D2 hb2 hp2))
  all_goals
    go_wp2_with fail
    have KF := hide (show DK w.heap.size w2 a1 n ls a2 m ps from ⟨HB2.out, HB3.out, fun _ p hp => by have h1 := HP1.out p hp; have h2 := S0.out; have h3 : W0.heap.size ≤ p.block := h1; omega, fun _ p hp => by have h1 := HP2.out p hp; have h2 := S0.out; omega⟩)
    have KH := hide (show DK (w.heap.size + 2) w2 a1 n ls a2 m ps from ⟨HB2.out, HB3.out, fun _ p hp => by have h1 := HP1.out p hp; have h2 := S0.out; have h3 : W0.heap.size ≤ p.block := h1; omega, fun _ p hp => by have h1 := HP2.out p hp; have h2 := S0.out; omega⟩)
    have BF := hide (set3_below (D0.out.trans (E2.out.mono D0.out.size)) (show w.heap.size ≤ w.heap.size + 1 by omega) (.slice a1 n c1) (.slice a2 m c2) (.int .i64 left))
    obtain ⟨t0, t1, t2⟩ := (R2.out.three_set (.slice a1 n c1) (.slice a2 m c2) (.int .i64 left)).three
    exact bodyPost_ret (v := .agg #[.slice a1 n c1, .slice a2 m c2, .int .i64 left]) (by simp [results, Try.results22, go_sem, t0, t1, t2]) rfl ⟨a1, c1, a2, c2, rfl, (KH.out.grown (set3_grown (grow_refl w2 (some (w.heap.size + 1))) (.slice a1 n c1) (.slice a2 m c2) (.int .i64 left)) (by omega)).low (by omega), BF.out⟩

end Go.Proofs.Ytfbmaemnbolplaa

/-
  Stores: two numbers in a block (block).
-/
namespace Go.Proofs.Ytfbmaemnbolplaa
open Go.RowKit

namespace Mx
def blkK (a b : Int) : Nat → B8
  | 0 => ⟨0, 0, 0, 0, 0, 0, 0, 0⟩
  | 1 => ⟨(a / 16777216), 0, 0, 0, (b / 16777216), 0, 0, 0⟩
  | 2 => ⟨(a / 16777216), (a / 65536 % 256), 0, 0, (b / 16777216), (b / 65536 % 256), 0, 0⟩
  | 3 => ⟨(a / 16777216), (a / 65536 % 256), (a / 256 % 256), 0, (b / 16777216), (b / 65536 % 256), (b / 256 % 256), 0⟩
  | _ => numsB a b
end Mx

theorem u8_wrap (x : Int) : IntKind.u8.wrap x = x % 256 := by
  simp [IntKind.wrap, IntKind.bits, IntKind.signed]

theorem Bx.cells8 {w : World} {g : Nat} {a0 a1 a2 a3 a4 a5 a6 a7 : Value} {t : TypeId} (h : Bx w g #[a0, a1, a2, a3, a4, a5, a6, a7] t) : w.cell? ⟨g, 0, none⟩ = some a0 ∧ w.cell? ⟨g, 1, none⟩ = some a1 ∧ w.cell? ⟨g, 2, none⟩ = some a2 ∧ w.cell? ⟨g, 3, none⟩ = some a3 ∧ w.cell? ⟨g, 4, none⟩ = some a4 ∧ w.cell? ⟨g, 5, none⟩ = some a5 ∧ w.cell? ⟨g, 6, none⟩ = some a6 ∧ w.cell? ⟨g, 7, none⟩ = some a7 :=
  ⟨h.cell 0, h.cell 1, h.cell 2, h.cell 3, h.cell 4, h.cell 5, h.cell 6, h.cell 7⟩

def B8.arr8 (x : B8) : Array Value := #[.int .u8 x.z0, .int .u8 x.z1, .int .u8 x.z2, .int .u8 x.z3, .int .u8 x.z4, .int .u8 x.z5, .int .u8 x.z6, .int .u8 x.z7]

set_option maxHeartbeats 16000000 in
set_option maxRecDepth 100000 in
theorem sblock_any (a b : Int) (w : World) (ha0 : 0 ≤ a) (ha1 : a ≤ 2147483647) (hb0 : 0 ≤ b) (hb1 : b ≤ 2147483647) (x : B8) (hx : x = Mx.numsB a b) :
    Calls Try.prog 35 #[.int .i64 a, .int .i64 b] w fun e w' => e = .returned (.agg #[.int .u8 x.z0, .int .u8 x.z1, .int .u8 x.z2, .int .u8 x.z3, .int .u8 x.z4, .int .u8 x.z5, .int .u8 x.z6, .int .u8 x.z7]) ∧ Below w.heap.size w w' := by
  obtain ⟨W0, hW0⟩ : ∃ W0 : World, Hid (W0 = (w.alloc (.cells #[.int .u8 0, .int .u8 0, .int .u8 0, .int .u8 0, .int .u8 0, .int .u8 0, .int .u8 0, .int .u8 0] 38)).alloc (.cells #[.int .u8 0, .int .u8 0, .int .u8 0, .int .u8 0, .int .u8 0, .int .u8 0, .int .u8 0, .int .u8 0] 38)) := ⟨_, rfl⟩
  have X0 := hide (show Bx W0 w.heap.size #[.int .u8 0, .int .u8 0, .int .u8 0, .int .u8 0, .int .u8 0, .int .u8 0, .int .u8 0, .int .u8 0] 38 by rw [hW0.out]; exact (Bx.new w _ _).alloc _)
  have R0 := hide (show Bx W0 (w.heap.size + 1) #[.int .u8 0, .int .u8 0, .int .u8 0, .int .u8 0, .int .u8 0, .int .u8 0, .int .u8 0, .int .u8 0] 38 by
    rw [hW0.out]
    have h := Bx.new (w.alloc (.cells #[.int .u8 0, .int .u8 0, .int .u8 0, .int .u8 0, .int .u8 0, .int .u8 0, .int .u8 0, .int .u8 0] 38)) #[.int .u8 0, .int .u8 0, .int .u8 0, .int .u8 0, .int .u8 0, .int .u8 0, .int .u8 0, .int .u8 0] 38
    rw [World.size_alloc] at h
    exact h)
  have D0 := hide (show Below w.heap.size w W0 by rw [hW0.out]; exact (below_alloc _ _).alloc (by simp) _)
  go_enter Try.func35, Try.ntmps35
  change TailG Try.f35 _ 0 _ w
  refine tailG_step rfl ?_
  intro K hK
  go_wp2_with fail
  refine Met.intro (tailG_step rfl ?_)
  try clear hK K
  intro K hK
  go_wp2_with fail
  rw [← hW0.out]
  refine Met.intro (tailG_step rfl ?_)
  try clear hK K
  intro K hK
  go_wp2_with fail
  go_loopw [8] (fun t wr => ∃ k : Nat, k ≤ 4 ∧ t = .int .i64 (k : Int) ∧ Hid (Bx wr w.heap.size #[.int .u8 0, .int .u8 0, .int .u8 0, .int .u8 0, .int .u8 0, .int .u8 0, .int .u8 0, .int .u8 0] 38) ∧ Hid (Bx wr (w.heap.size + 1) (Mx.blkK a b k).arr8 38) ∧ Hid (Below w.heap.size w wr)) (fun t _ => 4 - (intOf t).toNat)
  case atStart => exact ⟨0, by omega, rfl, X0, R0, D0⟩
  case round =>
    obtain ⟨k, hk, rfl, hX, hR, hD⟩ := hrel
    match k, hk with
    | 0, _ =>
      have hR' : Bx wr (w.heap.size + 1) #[.int .u8 0, .int .u8 0, .int .u8 0, .int .u8 0, .int .u8 0, .int .u8 0, .int .u8 0, .int .u8 0] 38 := hR.out
      have HR := hide hR'
      clear hR'
      obtain ⟨r0, r1, r2, r3, r4, r5, r6, r7⟩ := Bx.cells8 HR.out
      have rz := HR.out.frozen
      rw [show ((0 : Nat) : Int) = 0 from rfl]
      go_upto_region 6 with fail
      go_region
      all_goals
        obtain ⟨W5, hW5⟩ : ∃ W5 : World, Hid (W5 = ((wr.setCell ⟨w.heap.size + 1, 0, none⟩ (.int .u8 (a / 16777216))).setCell ⟨w.heap.size + 1, 4, none⟩ (.int .u8 (b / 16777216))).drew) := ⟨_, rfl⟩
        have R5 := hide (show Bx W5 (w.heap.size + 1) (Mx.blkK a b (0 + 1)).arr8 38 by rw [hW5.out]; exact (HR.out.set 0 _).set 4 _)
        have X5 := hide (show Bx W5 w.heap.size #[.int .u8 0, .int .u8 0, .int .u8 0, .int .u8 0, .int .u8 0, .int .u8 0, .int .u8 0, .int .u8 0] 38 by rw [hW5.out]; exact (hX.out.other _ _ (by simp)).other _ _ (by simp))
        have D5 := hide (show Below w.heap.size w W5 by rw [hW5.out]; exact ((hD.out.setCell (p := ⟨w.heap.size + 1, 0, none⟩) (by simp) _).setCell (p := ⟨w.heap.size + 1, 4, none⟩) (by simp) _).drew)
        rw [← hW5.out]
        clear r0 r1 r2 r3 r4 r5 r6 r7 rz
        go_wp2_with fail
        go_roundw
        case rel => exact ⟨0 + 1, by omega, rfl, X5, R5, D5⟩
        case measure => simp [intOf]
    | 1, _ =>
      have hR' : Bx wr (w.heap.size + 1) #[.int .u8 (a / 16777216), .int .u8 0, .int .u8 0, .int .u8 0, .int .u8 (b / 16777216), .int .u8 0, .int .u8 0, .int .u8 0] 38 := hR.out
      have HR := hide hR'
      clear hR'
      obtain ⟨r0, r1, r2, r3, r4, r5, r6, r7⟩ := Bx.cells8 HR.out
      have rz := HR.out.frozen
      rw [show ((1 : Nat) : Int) = 1 from rfl]
      go_upto_region 6 with fail
      go_region
      all_goals
        obtain ⟨W5, hW5⟩ : ∃ W5 : World, Hid (W5 = ((wr.setCell ⟨w.heap.size + 1, 1, none⟩ (.int .u8 (a / 65536 % 256))).setCell ⟨w.heap.size + 1, 5, none⟩ (.int .u8 (b / 65536 % 256))).drew) := ⟨_, rfl⟩
        have R5 := hide (show Bx W5 (w.heap.size + 1) (Mx.blkK a b (1 + 1)).arr8 38 by rw [hW5.out]; exact (HR.out.set 1 _).set 5 _)
        have X5 := hide (show Bx W5 w.heap.size #[.int .u8 0, .int .u8 0, .int .u8 0, .int .u8 0, .int .u8 0, .int .u8 0, .int .u8 0, .int .u8 0] 38 by rw [hW5.out]; exact (hX.out.other _ _ (by simp)).other _ _ (by simp))
        have D5 := hide (show Below w.heap.size w W5 by rw [hW5.out]; exact ((hD.out.setCell (p := ⟨w.heap.size + 1, 1, none⟩) (by simp) _).setCell (p := ⟨w.heap.size + 1, 5, none⟩) (by simp) _).drew)
        rw [← hW5.out]
        clear r0 r1 r2 r3 r4 r5 r6 r7 rz
        go_wp2_with fail
        go_roundw
        case rel => exact ⟨1 + 1, by omega, rfl, X5, R5, D5⟩
        case measure => simp [intOf]
    | 2, _ =>
      have hR' : Bx wr (w.heap.size + 1) #[.int .u8 (a / 16777216), .int .u8 (a / 65536 % 256), .int .u8 0, .int .u8 0, .int .u8 (b / 16777216), .int .u8 (b / 65536 % 256), .int .u8 0, .int .u8 0] 38 := hR.out
      have HR := hide hR'
      clear hR'
      obtain ⟨r0, r1, r2, r3, r4, r5, r6, r7⟩ := Bx.cells8 HR.out
      have rz := HR.out.frozen
      rw [show ((2 : Nat) : Int) = 2 from rfl]
      go_upto_region 6 with fail
      go_region
      all_goals
        obtain ⟨W5, hW5⟩ : ∃ W5 : World, Hid (W5 = ((wr.setCell ⟨w.heap.size + 1, 2, none⟩ (.int .u8 (a / 256 % 256))).setCell ⟨w.heap.size + 1, 6, none⟩ (.int .u8 (b / 256 % 256))).drew) := ⟨_, rfl⟩
        have R5 := hide (show Bx W5 (w.heap.size + 1) (Mx.blkK a b (2 + 1)).arr8 38 by rw [hW5.out]; exact (HR.out.set 2 _).set 6 _)
        have X5 := hide (show Bx W5 w.heap.size #[.int .u8 0, .int .u8 0, .int .u8 0, .int .u8 0, .int .u8 0, .int .u8 0, .int .u8 0, .int .u8 0] 38 by rw [hW5.out]; exact (hX.out.other _ _ (by simp)).other _ _ (by simp))
        have D5 := hide (show Below w.heap.size w W5 by rw [hW5.out]; exact ((hD.out.setCell (p := ⟨w.heap.size + 1, 2, none⟩) (by simp) _).setCell (p := ⟨w.heap.size + 1, 6, none⟩) (by simp) _).drew)
        rw [← hW5.out]
        clear r0 r1 r2 r3 r4 r5 r6 r7 rz
        go_wp2_with fail
        go_roundw
        case rel => exact ⟨2 + 1, by omega, rfl, X5, R5, D5⟩
        case measure => simp [intOf]
    | 3, _ =>
      have hR' : Bx wr (w.heap.size + 1) #[.int .u8 (a / 16777216), .int .u8 (a / 65536 % 256), .int .u8 (a / 256 % 256), .int .u8 0, .int .u8 (b / 16777216), .int .u8 (b / 65536 % 256), .int .u8 (b / 256 % 256), .int .u8 0] 38 := hR.out
      have HR := hide hR'
      clear hR'
      obtain ⟨r0, r1, r2, r3, r4, r5, r6, r7⟩ := Bx.cells8 HR.out
      have rz := HR.out.frozen
      rw [show ((3 : Nat) : Int) = 3 from rfl]
      go_upto_region 6 with fail
      go_region
      all_goals
        obtain ⟨W5, hW5⟩ : ∃ W5 : World, Hid (W5 = ((wr.setCell ⟨w.heap.size + 1, 3, none⟩ (.int .u8 (a % 256))).setCell ⟨w.heap.size + 1, 7, none⟩ (.int .u8 (b % 256))).drew) := ⟨_, rfl⟩
        have R5 := hide (show Bx W5 (w.heap.size + 1) (Mx.blkK a b (3 + 1)).arr8 38 by rw [hW5.out]; exact (HR.out.set 3 _).set 7 _)
        have X5 := hide (show Bx W5 w.heap.size #[.int .u8 0, .int .u8 0, .int .u8 0, .int .u8 0, .int .u8 0, .int .u8 0, .int .u8 0, .int .u8 0] 38 by rw [hW5.out]; exact (hX.out.other _ _ (by simp)).other _ _ (by simp))
        have D5 := hide (show Below w.heap.size w W5 by rw [hW5.out]; exact ((hD.out.setCell (p := ⟨w.heap.size + 1, 3, none⟩) (by simp) _).setCell (p := ⟨w.heap.size + 1, 7, none⟩) (by simp) _).drew)
        rw [← hW5.out]
        clear r0 r1 r2 r3 r4 r5 r6 r7 rz
        go_wp2_with fail
        go_roundw
        case rel => exact ⟨3 + 1, by omega, rfl, X5, R5, D5⟩
        case measure => simp [intOf]
    | 4, _ =>
      have hR' : Bx wr (w.heap.size + 1) #[.int .u8 (a / 16777216), .int .u8 (a / 65536 % 256), .int .u8 (a / 256 % 256), .int .u8 (a % 256), .int .u8 (b / 16777216), .int .u8 (b / 65536 % 256), .int .u8 (b / 256 % 256), .int .u8 (b % 256)] 38 := hR.out
      have HR := hide hR'
      clear hR'
      rw [show ((4 : Nat) : Int) = 4 from rfl]
      obtain ⟨r0, r1, r2, r3, r4, r5, r6, r7⟩ := Bx.cells8 HR.out
      obtain ⟨x0, x1, x2, x3, x4, x5, x6, x7⟩ := Bx.cells8 hX.out
      have xz := hX.out.frozen
      go_wp2_with fail
      refine Met.intro (tailG_last (c := .seq _ .ret) rfl ?_)
      try clear hK
      try clear K
      subst hx
      go_wp2_with fail
      obtain ⟨W6, hW6⟩ : ∃ W6 : World, Hid (W6 = set8 wr w.heap.size 0 (Mx.numsB a b)) := ⟨_, rfl⟩
      have XF := hide (show Bx W6 w.heap.size #[.int .u8 (a / 16777216), .int .u8 (a / 65536 % 256), .int .u8 (a / 256 % 256), .int .u8 (a % 256), .int .u8 (b / 16777216), .int .u8 (b / 65536 % 256), .int .u8 (b / 256 % 256), .int .u8 (b % 256)] 38 by rw [hW6.out]; exact box_fill8 hX.out (Mx.numsB a b))
      have BF := hide (show Below w.heap.size w W6 by rw [hW6.out]; exact set8_below hD.out (Nat.le_refl _) _ _)
      unfold set8 Mx.numsB at hW6
      simp only [Nat.zero_add] at hW6
      rw [← hW6.out]
      obtain ⟨t0, t1, t2, t3, t4, t5, t6, t7⟩ := Bx.cells8 XF.out
      exact bodyPost_ret (v := .agg #[.int .u8 (a / 16777216), .int .u8 (a / 65536 % 256), .int .u8 (a / 256 % 256), .int .u8 (a % 256), .int .u8 (b / 16777216), .int .u8 (b / 65536 % 256), .int .u8 (b / 256 % 256), .int .u8 (b % 256)]) (by simp [results, Try.results35, go_sem, t0, t1, t2, t3, t4, t5, t6, t7]) rfl ⟨rfl, BF.out⟩

end Go.Proofs.Ytfbmaemnbolplaa

/-
  Stores: a new disk (Format), a disk opened (Open).
-/
namespace Go.Proofs.Ytfbmaemnbolplaa
open Go.RowKit

set_option maxHeartbeats 16000000 in
set_option maxRecDepth 100000 in
theorem format_ok (n : Nat) (w : World) (h0 : 1 ≤ n) (h1 : n ≤ 32) :
    Calls Try.prog 6 #[.int .i64 (n : Int)] w fun e w' => ∃ a c, e = .returned (.tuple #[.agg #[.slice a (Mx.sz n) c, .slice none 0 0, .int .i64 (-1)], .nilIface]) ∧ Hid (BL w' a (Mx.sz n) (List.replicate (Mx.sz n) zB)) ∧ Hid (Below w.heap.size w w') := by
  have hz : Mx.sz n ≤ 67 ∧ 1 ≤ Mx.sz n := by unfold Mx.sz; omega
  obtain ⟨N, hN⟩ : ∃ N : Nat, Hid (N = Mx.sz n) := ⟨_, rfl⟩
  rw [← hN.out] at hz ⊢
  obtain ⟨hz1, hz2⟩ := hz
  obtain ⟨W0, hW0⟩ : ∃ W0 : World, Hid (W0 = w.alloc (.cells #[.slice none 0 0, .slice none 0 0, .int .i64 0] 29)) := ⟨_, rfl⟩
  have X0 := hide (show Bx W0 w.heap.size #[.slice none 0 0, .slice none 0 0, .int .i64 0] 29 by rw [hW0.out]; exact Bx.new w _ _)
  have D0 := hide (show Below w.heap.size w W0 by rw [hW0.out]; exact below_alloc _ _)
  go_enter Try.func6, Try.ntmps6
  go_wp2_with fail
  rw [← hW0.out]
  refine (need_ok n W0 h0 h1).mono ?_
  rintro e wz ⟨rfl, hz⟩
  obtain rfl := hz.symm
  clear hz
  rw [← hN.out]
  go_wp2_with fail
  refine (new_own N W0 (by omega) (by omega)).mono ?_
  rintro e w2 ⟨a, c, rfl, hb, hpa, hB⟩
  have X2 := hide (X0.out.later hB.out X0.out.lt)
  have B2 := hide (D0.out.trans (hB.out.mono D0.out.size))
  obtain ⟨x0, x1, x2⟩ := X2.out.three
  have xz := X2.out.frozen
  go_wp2_with fail
  obtain ⟨t0, t1, t2⟩ := (X2.out.three_set (.slice a N c) (.slice none 0 0) (.int .i64 (-1))).three
  have BF := hide (set3_below B2.out (Nat.le_refl _) (.slice a N c) (.slice none 0 0) (.int .i64 (-1)))
  have GF := hide (set3_grown (grow_refl w2 (some w.heap.size)) (.slice a N c) (.slice none 0 0) (.int .i64 (-1)))
  exact bodyPost_ret (v := .tuple #[.agg #[.slice a N c, .slice none 0 0, .int .i64 (-1)], .nilIface]) (by simp [results, Try.results6, go_sem, t0, t1, t2]) rfl ⟨a, c, rfl, ⟨hb.out.1, hb.out.2.ext1 GF.out (fun hn p hp => by have h1 := hpa.out p hp; have h2 := X0.out.lt; omega)⟩, BF.out⟩
set_option maxHeartbeats 16000000 in
set_option maxRecDepth 100000 in
theorem format_err (n : Int) (w : World) (h : n < 1 ∨ 32 < n) :
    Calls Try.prog 6 #[.int .i64 n] w fun e w' => e = .returned (.tuple #[.agg #[.slice none 0 0, .slice none 0 0, .int .i64 0], .iface 35 (.int .i64 1)]) ∧ Below w.heap.size w w' := by
  obtain ⟨W0, hW0⟩ : ∃ W0 : World, Hid (W0 = w.alloc (.cells #[.slice none 0 0, .slice none 0 0, .int .i64 0] 29)) := ⟨_, rfl⟩
  have X0 := hide (show Bx W0 w.heap.size #[.slice none 0 0, .slice none 0 0, .int .i64 0] 29 by rw [hW0.out]; exact Bx.new w _ _)
  have D0 := hide (show Below w.heap.size w W0 by rw [hW0.out]; exact below_alloc _ _)
  have HH := hide h
  clear h
  go_enter Try.func6, Try.ntmps6
  go_wp2_with fail
  rw [← hW0.out]
  refine (need_err n W0 HH.out).mono ?_
  rintro e wz ⟨rfl, hz⟩
  obtain rfl := hz.symm
  clear hz
  obtain ⟨x0, x1, x2⟩ := X0.out.three
  have xz := X0.out.frozen
  go_wp2_with fail
  obtain ⟨t0, t1, t2⟩ := (X0.out.three_set (.slice none 0 0) (.slice none 0 0) (.int .i64 0)).three
  exact bodyPost_ret (v := .tuple #[.agg #[.slice none 0 0, .slice none 0 0, .int .i64 0], .iface 35 (.int .i64 1)]) (by simp [results, Try.results6, go_sem, t0, t1, t2]) rfl ⟨rfl, set3_below D0.out (Nat.le_refl _) _ _ _⟩

/-- a store, its disk's mathematics, and that it lies beside its box -/
structure StW (w : World) (g n h : Nat) (ls : List B8) (ps : List Pt) (left : Int) (sa : Option Addr) (sc : Nat) (pa : Option Addr) (pn pc : Nat) : Prop where
  bx : Sbx w g n h sa (Mx.sz n) sc pa pn pc left
  bl : BL w sa (Mx.sz n) ls
  pl : PL w pa pn ps
  a1 : 0 < Mx.sz n → ∀ p, sa = some p → p.block ≠ g
  a2 : 0 < pn → ∀ p, pa = some p → p.block ≠ g
  n1 : 1 ≤ n
  n2 : n ≤ 32
  h1 : h ≤ 1
  l1 : -9223372036854775808 ≤ left
  l2 : left ≤ 9223372036854775807

theorem StW.later {w w' : World} {g n h : Nat} {ls : List B8} {ps : List Pt} {left : Int} {sa : Option Addr} {sc : Nat} {pa : Option Addr} {pn pc : Nat} (hs : StW w g n h ls ps left sa sc pa pn pc) (hb : Below w.heap.size w w') : StW w' g n h ls ps left sa sc pa pn pc :=
  { hs with bx := Bx.later hs.bx hb (Bx.lt hs.bx), bl := hs.bl.later hb, pl := hs.pl.later hb }

theorem Mx.dmay_sz {n : Nat} (h : n ≤ 32) : Mx.dmay (Mx.sz n) [] = 0 := Mx.dmay_ok (by unfold Mx.sz; simp; omega) (fun k p hk => by simp at hk)

set_option maxHeartbeats 16000000 in
set_option maxRecDepth 100000 in
theorem open_need (sa pa : Option Addr) (n sc m pc : Nat) (left : Int) (k : Int) (ls : List B8) (ps : List Pt) (w : World) (hs : BL w sa n ls) (hp : PL w pa m ps) (hk : k < 1 ∨ 32 < k) :
    Calls Try.prog 7 #[.agg #[.slice sa n sc, .slice pa m pc, .int .i64 left], .int .i64 k] w fun e w' => e = .returned (.tuple #[.pointer none, .iface 35 (.int .i64 1)]) ∧ Below w.heap.size w w' := by
  have HK := hide hk
  clear hk
  obtain ⟨W0, hW0⟩ : ∃ W0 : World, Hid (W0 = w.alloc (.cells #[.slice sa n sc, .slice pa m pc, .int .i64 left] 29)) := ⟨_, rfl⟩
  have X0 := hide (show Bx W0 w.heap.size #[.slice sa n sc, .slice pa m pc, .int .i64 left] 29 by rw [hW0.out]; exact Bx.new w _ _)
  have D0 := hide (show Below w.heap.size w W0 by rw [hW0.out]; exact below_alloc _ _)
  have HS := hide (hs.later D0.out)
  have HP := hide (hp.later D0.out)
  have HPL := hide hp.1
  clear hs hp
  go_enter Try.func7, Try.ntmps7
  change TailG Try.f7 _ 0 _ w
  refine tailG_step rfl ?_
  intro K hK
  go_wp2_with fail
  rw [← hW0.out]
  refine Met.intro (tailG_step rfl ?_)
  try clear hK K
  intro K hK
  go_wp2_with fail
  refine (need_err k W0 HK.out).mono ?_
  rintro e wz ⟨rfl, hz⟩
  obtain rfl := hz.symm
  clear hz
  go_wp2_with fail
  refine Met.intro (tailG_step rfl ?_)
  try clear hK K
  intro K hK
  go_wp2_with fail
  go_ret2
  exact ⟨rfl, D0.out⟩

set_option maxHeartbeats 16000000 in
set_option maxRecDepth 100000 in
theorem open_state (sa pa : Option Addr) (n sc m pc : Nat) (left : Int) (k : Nat) (ls : List B8) (ps : List Pt) (w : World) (hs : BL w sa n ls) (hp : PL w pa m ps) (hk0 : 1 ≤ k) (hk1 : k ≤ 32) (hx : Mx.dmay n ps ≠ 0 ∨ n ≠ Mx.sz k ∨ 0 < m) :
    Calls Try.prog 7 #[.agg #[.slice sa n sc, .slice pa m pc, .int .i64 left], .int .i64 (k : Int)] w fun e w' => e = .returned (.tuple #[.pointer none, .iface 35 (.int .i64 5)]) ∧ Below w.heap.size w w' := by
  have HX := hide hx
  clear hx
  obtain ⟨W0, hW0⟩ : ∃ W0 : World, Hid (W0 = w.alloc (.cells #[.slice sa n sc, .slice pa m pc, .int .i64 left] 29)) := ⟨_, rfl⟩
  have X0 := hide (show Bx W0 w.heap.size #[.slice sa n sc, .slice pa m pc, .int .i64 left] 29 by rw [hW0.out]; exact Bx.new w _ _)
  have D0 := hide (show Below w.heap.size w W0 by rw [hW0.out]; exact below_alloc _ _)
  have HS := hide (hs.later D0.out)
  have HP := hide (hp.later D0.out)
  have HPL := hide hp.1
  clear hs hp
  go_enter Try.func7, Try.ntmps7
  change TailG Try.f7 _ 0 _ w
  refine tailG_step rfl ?_
  intro K hK
  go_wp2_with fail
  rw [← hW0.out]
  refine Met.intro (tailG_step rfl ?_)
  try clear hK K
  intro K hK
  go_wp2_with fail
  refine (need_ok k W0 hk0 hk1).mono ?_
  rintro e wz ⟨rfl, hz⟩
  obtain rfl := hz.symm
  clear hz
  obtain ⟨N, hN⟩ : ∃ N : Nat, Hid (N = Mx.sz k) := ⟨_, rfl⟩
  rw [← hN.out]
  go_wp2_with fail
  refine Met.intro (tailG_step rfl ?_)
  try clear hK K
  intro K hK
  go_wp2_with fail
  refine Met.intro (tailG_step rfl ?_)
  try clear hK K
  intro K hK
  obtain ⟨x0, x1, x2⟩ := X0.out.three
  go_wp2_with fail
  refine (dcheck_any sa pa n sc m pc left ps W0 HP.out HS.out.2.2.1).mono ?_
  rintro e w1 ⟨rfl, D1⟩
  have X1 := hide (X0.out.later D1 X0.out.lt)
  have B1 := hide (D0.out.trans (D1.mono D0.out.size))
  have HS1 := hide (HS.out.later D1)
  have HP1 := hide (HP.out.later D1)
  clear x0 x1 x2 D1
  obtain ⟨x0, x1, x2⟩ := X1.out.three
  by_cases hm : Mx.dmay n ps = 0
  · rw [hm, errV_zero]
    by_cases hn : n = N
    · have hm0 : (0 : Int) < m := by
        rcases HX.out with h1 | h1 | h1
        · exact absurd hm h1
        · rw [← hN.out] at h1
          exact absurd hn h1
        · omega
      have d1 : ((n : Int) != N) = false := by rw [hn]; simp
      have d1n : (n != N) = false := by rw [hn]; simp
      have d2 : decide ((0 : Int) < m) = true := by simpa using hm0
      have d2n : decide (0 < m) = true := by simp; omega
      clear hm
      go_wp2_with fail
      go_ret2
      exact ⟨rfl, B1.out⟩
    · have d1 : ((n : Int) != N) = true := by simp; omega
      have d1n : (n != N) = true := by simpa using hn
      clear hm
      go_wp2_with fail
      go_ret2
      exact ⟨rfl, B1.out⟩
  · have HE := hide (errV_not hm)
    rw [HE.out]
    clear hm
    go_wp2_with fail
    go_ret2
    exact ⟨rfl, B1.out⟩

set_option maxHeartbeats 16000000 in
set_option maxRecDepth 100000 in
theorem open_dead (sa pa : Option Addr) (n sc m pc : Nat) (left : Int) (k : Nat) (ls : List B8) (ps : List Pt) (w : World) (hs : BL w sa n ls) (hp : PL w pa m ps) (hk0 : 1 ≤ k) (hk1 : k ≤ 32) (hn : n = Mx.sz k) (hm : Mx.dmay n ps = 0) (hm0 : m = 0) (hl0 : left = 0) :
    Calls Try.prog 7 #[.agg #[.slice sa n sc, .slice pa m pc, .int .i64 left], .int .i64 (k : Int)] w fun e w' => e = .returned (.tuple #[.pointer none, .iface 35 (.int .i64 4)]) ∧ Below w.heap.size w w' := by
  have HR4 := hide (show Mx.dread n ps left 0 = 4 by
    have hz : Mx.dplace n ps 0 = 0 := by unfold Mx.dplace; rw [if_pos hm, if_pos (by rw [hn]; unfold Mx.sz; omega)]
    unfold Mx.dread
    rw [if_pos hz, if_pos hl0])
  have HN0 := hide (show ¬ Mx.dread n ps left 0 = 0 by rw [HR4.out]; omega)
  have d2 : decide ((0 : Int) < m) = false := by rw [hm0]; simp
  have d2n : decide (0 < m) = false := by rw [hm0]; simp
  have HMM := hide hm
  have HNN := hide hn
  clear hm0 hl0 hm hn
  obtain ⟨W0, hW0⟩ : ∃ W0 : World, Hid (W0 = w.alloc (.cells #[.slice sa n sc, .slice pa m pc, .int .i64 left] 29)) := ⟨_, rfl⟩
  have X0 := hide (show Bx W0 w.heap.size #[.slice sa n sc, .slice pa m pc, .int .i64 left] 29 by rw [hW0.out]; exact Bx.new w _ _)
  have D0 := hide (show Below w.heap.size w W0 by rw [hW0.out]; exact below_alloc _ _)
  have HS := hide (hs.later D0.out)
  have HP := hide (hp.later D0.out)
  have HPL := hide hp.1
  clear hs hp
  go_enter Try.func7, Try.ntmps7
  change TailG Try.f7 _ 0 _ w
  refine tailG_step rfl ?_
  intro K hK
  go_wp2_with fail
  rw [← hW0.out]
  refine Met.intro (tailG_step rfl ?_)
  try clear hK K
  intro K hK
  go_wp2_with fail
  refine (need_ok k W0 hk0 hk1).mono ?_
  rintro e wz ⟨rfl, hz⟩
  obtain rfl := hz.symm
  clear hz
  obtain ⟨N, hN⟩ : ∃ N : Nat, Hid (N = Mx.sz k) := ⟨_, rfl⟩
  rw [← hN.out]
  go_wp2_with fail
  refine Met.intro (tailG_step rfl ?_)
  try clear hK K
  intro K hK
  go_wp2_with fail
  refine Met.intro (tailG_step rfl ?_)
  try clear hK K
  intro K hK
  obtain ⟨x0, x1, x2⟩ := X0.out.three
  go_wp2_with fail
  refine (dcheck_any sa pa n sc m pc left ps W0 HP.out HS.out.2.2.1).mono ?_
  rintro e w1 ⟨rfl, D1⟩
  have X1 := hide (X0.out.later D1 X0.out.lt)
  have B1 := hide (D0.out.trans (D1.mono D0.out.size))
  have HS1 := hide (HS.out.later D1)
  have HP1 := hide (HP.out.later D1)
  clear x0 x1 x2 D1
  obtain ⟨x0, x1, x2⟩ := X1.out.three
  rw [HMM.out, errV_zero]
  have d1 : ((n : Int) != N) = false := by rw [hN.out, HNN.out]; simp
  have d1n : (n != N) = false := by rw [hN.out, HNN.out]; simp
  go_wp2_with fail
  refine Met.intro (tailG_step rfl ?_)
  try clear hK K
  intro K hK
  go_wp2_with fail
  refine (read_err sa pa n sc m pc left 0 ps w1 HS1.out.2.2.1 HP1.out HN0.out).mono ?_
  rintro e w2 ⟨rfl, D2⟩
  have B2 := hide (B1.out.trans (D2.mono B1.out.size))
  have he4 : errV 4 = .iface 35 (.int .i64 4) := rfl
  rw [HR4.out, he4]
  clear x0 x1 x2 D2
  go_wp2_with fail
  refine Met.intro (tailG_step rfl ?_)
  try clear hK K
  intro K hK
  go_wp2_with fail
  go_ret2
  exact ⟨rfl, B2.out.alloc (by exact B2.out.size) _⟩

set_option maxHeartbeats 16000000 in
set_option maxRecDepth 100000 in
theorem open_ok (sa pa : Option Addr) (n sc m pc : Nat) (left : Int) (k : Nat) (ls : List B8) (ps : List Pt) (w : World) (hs : BL w sa n ls) (hp : PL w pa m ps) (hk0 : 1 ≤ k) (hk1 : k ≤ 32) (hn : n = Mx.sz k) (hm : Mx.dmay n ps = 0) (hm0 : m = 0) (hl0 : left ≠ 0) (hl1 : -9223372036854775808 ≤ left) (hl2 : left ≤ 9223372036854775807) (x : B8) (hx : x = ls.getD 0 zB) (h : Nat) (hz : x.z0 % 2 = (h : Int)) (hz0 : 0 ≤ x.z0) :
    Calls Try.prog 7 #[.agg #[.slice sa n sc, .slice pa m pc, .int .i64 left], .int .i64 (k : Int)] w fun e w' => ∃ g a1 c1 a2 c2, e = .returned (.tuple #[.pointer (some ⟨g, 0, none⟩), .nilIface]) ∧ Hid (w.heap.size ≤ g) ∧ Hid (StW w' g k h ls [] left a1 c1 a2 0 c2) ∧ Hid (Below w.heap.size w w') := by
  have HR4 := hide (show Mx.dread n ps left 0 = 0 by
    have hz : Mx.dplace n ps 0 = 0 := by unfold Mx.dplace; rw [if_pos hm, if_pos (by rw [hn]; unfold Mx.sz; omega)]
    unfold Mx.dread
    rw [if_pos hz, if_neg hl0])
  have HPS := hide (show ps = [] from List.eq_nil_of_length_eq_zero (by rw [hp.1, hm0]))
  have HRX := hide (show x = Mx.readB ls ps 0 by rw [HPS.out, Mx.readB_nil]; exact hx)
  have d2 : decide ((0 : Int) < m) = false := by rw [hm0]; simp
  have d2n : decide (0 < m) = false := by rw [hm0]; simp
  have HM2 := hide hm0
  have HL0 := hide hl0
  have hh : (h : Int) ≤ 1 := by omega
  have HZ := hide hz
  have hn1000 : n ≤ 1000 := by rw [hn]; unfold Mx.sz; omega
  have hm1000 : m ≤ 1000 := by rw [hm0]; omega
  have HMM := hide hm
  have HNN := hide hn
  clear hm0 hl0 hx hm hn hz
  obtain ⟨W0, hW0⟩ : ∃ W0 : World, Hid (W0 = w.alloc (.cells #[.slice sa n sc, .slice pa m pc, .int .i64 left] 29)) := ⟨_, rfl⟩
  have X0 := hide (show Bx W0 w.heap.size #[.slice sa n sc, .slice pa m pc, .int .i64 left] 29 by rw [hW0.out]; exact Bx.new w _ _)
  have D0 := hide (show Below w.heap.size w W0 by rw [hW0.out]; exact below_alloc _ _)
  have HS := hide (hs.later D0.out)
  have HP := hide (hp.later D0.out)
  have HPL := hide hp.1
  clear hs hp
  go_enter Try.func7, Try.ntmps7
  change TailG Try.f7 _ 0 _ w
  refine tailG_step rfl ?_
  intro K hK
  go_wp2_with fail
  rw [← hW0.out]
  refine Met.intro (tailG_step rfl ?_)
  try clear hK K
  intro K hK
  go_wp2_with fail
  refine (need_ok k W0 hk0 hk1).mono ?_
  rintro e wz ⟨rfl, hz⟩
  obtain rfl := hz.symm
  clear hz
  obtain ⟨N, hN⟩ : ∃ N : Nat, Hid (N = Mx.sz k) := ⟨_, rfl⟩
  rw [← hN.out]
  go_wp2_with fail
  refine Met.intro (tailG_step rfl ?_)
  try clear hK K
  intro K hK
  go_wp2_with fail
  refine Met.intro (tailG_step rfl ?_)
  try clear hK K
  intro K hK
  obtain ⟨x0, x1, x2⟩ := X0.out.three
  go_wp2_with fail
  refine (dcheck_any sa pa n sc m pc left ps W0 HP.out HS.out.2.2.1).mono ?_
  rintro e w1 ⟨rfl, D1⟩
  have X1 := hide (X0.out.later D1 X0.out.lt)
  have B1 := hide (D0.out.trans (D1.mono D0.out.size))
  have HS1 := hide (HS.out.later D1)
  have HP1 := hide (HP.out.later D1)
  clear x0 x1 x2 D1
  obtain ⟨x0, x1, x2⟩ := X1.out.three
  rw [HMM.out, errV_zero]
  have d1 : ((n : Int) != N) = false := by rw [hN.out, HNN.out]; simp
  have d1n : (n != N) = false := by rw [hN.out, HNN.out]; simp
  go_wp2_with fail
  refine Met.intro (tailG_step rfl ?_)
  try clear hK K
  intro K hK
  go_wp2_with fail
  refine (read_any sa pa n sc m pc left 0 ls ps w1 HS1.out HP1.out HR4.out x HRX.out).mono ?_
  rintro e w2 ⟨rfl, D2⟩
  obtain ⟨W3, hW3⟩ : ∃ W3 : World, Hid (W3 = w2.alloc (.cells #[.int .u8 x.z0, .int .u8 x.z1, .int .u8 x.z2, .int .u8 x.z3, .int .u8 x.z4, .int .u8 x.z5, .int .u8 x.z6, .int .u8 x.z7] 38)) := ⟨_, rfl⟩
  have D3 := hide (show Below w2.heap.size w2 W3 by rw [hW3.out]; exact below_alloc _ _)
  have Y3 := hide (show Bx W3 w2.heap.size #[.int .u8 x.z0, .int .u8 x.z1, .int .u8 x.z2, .int .u8 x.z3, .int .u8 x.z4, .int .u8 x.z5, .int .u8 x.z6, .int .u8 x.z7] 38 by rw [hW3.out]; exact Bx.new w2 _ _)
  have D13 := hide (D2.trans (D3.out.mono D2.size))
  have X3 := hide (X1.out.later D13.out X1.out.lt)
  have B3 := hide (B1.out.trans (D13.out.mono B1.out.size))
  have HS3 := hide (HS1.out.later D13.out)
  have HP3 := hide (HP1.out.later D13.out)
  clear x0 x1 x2 D2
  go_wp2_with fail
  rw [← hW3.out]
  refine Met.intro (tailG_step rfl ?_)
  try clear hK K
  intro K hK
  go_wp2_with fail
  refine Met.intro (tailG_last (c := .seq _ .ret) rfl ?_)
  try clear hK
  try clear K
  obtain ⟨x0, x1, x2⟩ := X3.out.three
  have y0 := (Bx.cells8 Y3.out).1
  have htm : x.z0.tmod 2 = (h : Int) := by rw [Int.tmod_eq_emod_of_nonneg hz0]; exact HZ.out
  have hwh : IntKind.i64.wrap (h : Int) = (h : Int) := by rw [IntWalk.i64_left, IntWalk.wrap64_in _ (by omega)]
  go_upto_region 9 with fail
  go_region_held3 (fun w' => w'.cell? ⟨w.heap.size, 0, none⟩ = some (.slice sa n sc) ∧ w'.cell? ⟨w.heap.size, 1, none⟩ = some (.slice pa m pc) ∧ w'.cell? ⟨w.heap.size, 2, none⟩ = some (.int .i64 left) ∧ w'.cell? ⟨w2.heap.size, 0, none⟩ = some (.int .u8 x.z0))
    (first
      | with_reducible exact ⟨x0, x1, x2, y0⟩
      | (simp only [cell_drew]; with_reducible exact ⟨x0, x1, x2, y0⟩)
      | with_reducible exact ⟨z0, z1, z2, u0⟩
      | (simp only [cell_alloc_lt hlx, cell_alloc_lt hly]; with_reducible exact ⟨z0, z1, z2, u0⟩))
    (first
      | (go_at_call 22; (with_reducible refine (sfresh_any sa pa n sc m pc left ls ps W3.drew (HS3.out.later (Below.refl _ _).drew) (HP3.out.later (Below.refl _ _).drew) hn1000 hm1000).mono ?_); rintro e w4 ⟨a1, c1, a2, c2, rfl, K4, E4⟩; have D4 := hide (show Below W3.heap.size W3 w4 from (Below.refl _ _).drew.trans E4.out); obtain ⟨z0, z1, z2⟩ := (X3.out.later D4.out X3.out.lt).three; have u0 := (Bx.cells8 (Y3.out.later D4.out Y3.out.lt)).1; have hlx := (X3.out.later D4.out X3.out.lt).lt; have hly := (Y3.out.later D4.out Y3.out.lt).lt))
  all_goals
    obtain ⟨W5, hW5⟩ : ∃ W5 : World, Hid (W5 = w4.alloc (.cells #[.int .i64 (k : Int), .int .i64 (h : Int), .slice a1 n c1, .slice a2 m c2, .int .i64 left] 59)) := ⟨_, rfl⟩
    have D5 := hide (show Below w4.heap.size w4 W5 by rw [hW5.out]; exact below_alloc _ _)
    have S5 := hide (show Bx W5 w4.heap.size #[.int .i64 (k : Int), .int .i64 (h : Int), .slice a1 n c1, .slice a2 m c2, .int .i64 left] 59 by rw [hW5.out]; exact Bx.new w4 _ _)
    have D45 := hide (D4.out.trans (D5.out.mono D4.out.size))
    have B5 := hide (B3.out.trans (D45.out.mono B3.out.size))
    have K5 := hide (K4.out.later D5.out)
    have hw4 : w.heap.size ≤ w4.heap.size := Nat.le_trans B3.out.size D4.out.size
    have hlt1 : 0 < n → ∀ p, a1 = some p → p.block < w4.heap.size := fun hn p hp => by
      obtain ⟨b, off, ha, hlt, _⟩ := K4.out.bl.2.2.2 hn
      rw [ha] at hp
      cases hp
      exact hlt
    have ST := hide (show StW W5 w4.heap.size k h ls [] left a1 c1 a2 0 c2 by
      have hn9 := HNN.out
      have hm9 := HM2.out
      have hp9 := HPS.out
      subst hm9 hp9
      refine ⟨?_, ?_, K5.out.pl, fun hn p hp => ?_, fun hn => absurd hn (by omega), hk0, hk1, by omega, hl1, hl2⟩
      · unfold Sbx
        rw [← hn9]
        exact S5.out
      · rw [← hn9]
        exact K5.out.bl
      · have h1 := hlt1 (by rw [hn9]; exact hn) p hp
        omega)
    rw [← hW5.out]
    clear x0 x1 x2 y0 z0 z1 z2 u0
    go_wp2_with fail
    go_ret2
    exact ⟨w4.heap.size, a1, c1, a2, c2, rfl, hw4, ST, B5⟩

end Go.Proofs.Ytfbmaemnbolplaa

/-
  Stores: what is there (Get, All, Numbers, Disk).
-/
namespace Go.Proofs.Ytfbmaemnbolplaa
open Go.RowKit

theorem Bx.drew3 {w : World} {g : Nat} {cs : Array Value} {t : TypeId} (h : Bx w g cs t) : Bx w.drew g cs t := h
/-- its parts are bytes -/
def Mx.by8 (x : B8) : Prop := (0 ≤ x.z0 ∧ x.z0 ≤ 255) ∧ (0 ≤ x.z1 ∧ x.z1 ≤ 255) ∧ (0 ≤ x.z2 ∧ x.z2 ≤ 255) ∧ (0 ≤ x.z3 ∧ x.z3 ≤ 255) ∧ (0 ≤ x.z4 ∧ x.z4 ≤ 255) ∧ (0 ≤ x.z5 ∧ x.z5 ≤ 255) ∧ (0 ≤ x.z6 ∧ x.z6 ≤ 255) ∧ (0 ≤ x.z7 ∧ x.z7 ≤ 255)

theorem BL.max {w : World} {a : Option Addr} {n : Nat} {l : List B8} (h : BL w a n l) : n ≤ maxLen := by
  unfold BL RowR at h
  exact h.2.2.1

theorem Bx.lo4 {w : World} {g : Nat} {x : B8} {t : TypeId} (h : Bx w g #[.int .u8 x.z0, .int .u8 x.z1, .int .u8 x.z2, .int .u8 x.z3, .int .u8 x.z4, .int .u8 x.z5, .int .u8 x.z6, .int .u8 x.z7] t) (hx : Mx.by8 x) : Bytes w (some ⟨g, 0, none⟩) 4 [x.z0, x.z1, x.z2, x.z3] := by
  obtain ⟨e0, e1, e2, e3, _, _, _, _⟩ := Bx.cells8 h
  refine ⟨rfl, by unfold maxLen; omega, ?_, fun _ => ⟨g, 0, rfl, fun i hi => ?_⟩⟩
  · unfold Mx.by8 at hx
    intro y hy
    simp only [List.mem_cons, List.not_mem_nil, or_false] at hy
    rcases hy with rfl | rfl | rfl | rfl <;> omega
  · match i, hi with
    | 0, _ => exact e0
    | 1, _ => exact e1
    | 2, _ => exact e2
    | 3, _ => exact e3

theorem Bx.hi4 {w : World} {g : Nat} {x : B8} {t : TypeId} (h : Bx w g #[.int .u8 x.z0, .int .u8 x.z1, .int .u8 x.z2, .int .u8 x.z3, .int .u8 x.z4, .int .u8 x.z5, .int .u8 x.z6, .int .u8 x.z7] t) (hx : Mx.by8 x) : Bytes w (some ⟨g, 4, none⟩) 4 [x.z4, x.z5, x.z6, x.z7] := by
  obtain ⟨_, _, _, _, e4, e5, e6, e7⟩ := Bx.cells8 h
  refine ⟨rfl, by unfold maxLen; omega, ?_, fun _ => ⟨g, 4, rfl, fun i hi => ?_⟩⟩
  · unfold Mx.by8 at hx
    intro y hy
    simp only [List.mem_cons, List.not_mem_nil, or_false] at hy
    rcases hy with rfl | rfl | rfl | rfl <;> omega
  · match i, hi with
    | 0, _ => exact e4
    | 1, _ => exact e5
    | 2, _ => exact e6
    | 3, _ => exact e7

theorem StW.dplace {w : World} {g n h : Nat} {ls : List B8} {ps : List Pt} {left : Int} {sa : Option Addr} {sc : Nat} {pa : Option Addr} {pn pc : Nat} (hs : StW w g n h ls ps left sa sc pa pn pc) (hps : ps = []) {k : Nat} (hk : k < Mx.sz n) : Mx.dplace (Mx.sz n) ps (k : Int) = 0 := by
  have h0 : Mx.dmay (Mx.sz n) ps = 0 := by rw [hps]; exact Mx.dmay_sz hs.n2
  unfold Mx.dplace
  rw [if_pos h0, if_pos (by omega)]

theorem StW.dread {w : World} {g n h : Nat} {ls : List B8} {ps : List Pt} {left : Int} {sa : Option Addr} {sc : Nat} {pa : Option Addr} {pn pc : Nat} (hs : StW w g n h ls ps left sa sc pa pn pc) (hps : ps = []) (hl : left ≠ 0) {k : Nat} (hk : k < Mx.sz n) : Mx.dread (Mx.sz n) ps left (k : Int) = 0 := by
  unfold Mx.dread
  rw [if_pos (hs.dplace hps hk), if_neg hl]

theorem StW.dread4 {w : World} {g n h : Nat} {ls : List B8} {ps : List Pt} {left : Int} {sa : Option Addr} {sc : Nat} {pa : Option Addr} {pn pc : Nat} (hs : StW w g n h ls ps left sa sc pa pn pc) (hps : ps = []) (hl : left = 0) {k : Nat} (hk : k < Mx.sz n) : Mx.dread (Mx.sz n) ps left (k : Int) = 4 := by
  unfold Mx.dread
  rw [if_pos (hs.dplace hps hk), if_pos hl]

set_option maxHeartbeats 16000000 in
set_option maxRecDepth 100000 in
theorem sget_out (g n h : Nat) (ls : List B8) (ps : List Pt) (left : Int) (sa : Option Addr) (sc : Nat) (pa : Option Addr) (pn pc : Nat) (w : World) (hs : StW w g n h ls ps left sa sc pa pn pc) (at_ : Int) (ho : at_ < 0 ∨ (n : Int) ≤ at_) :
    Calls Try.prog 27 #[.pointer (some ⟨g, 0, none⟩), .int .i64 at_] w fun e w' => e = .returned (.tuple #[.agg #[.int .u8 0, .int .u8 0, .int .u8 0, .int .u8 0, .int .u8 0, .int .u8 0, .int .u8 0, .int .u8 0], .iface 35 (.int .i64 1)]) ∧ Below w.heap.size w w' := by
  have HO := hide ho
  clear ho
  have HH := hide hs
  obtain ⟨W0, hW0⟩ : ∃ W0 : World, Hid (W0 = w.alloc (.cells #[.int .u8 0, .int .u8 0, .int .u8 0, .int .u8 0, .int .u8 0, .int .u8 0, .int .u8 0, .int .u8 0] 38)) := ⟨_, rfl⟩
  have X0 := hide (show Bx W0 w.heap.size #[.int .u8 0, .int .u8 0, .int .u8 0, .int .u8 0, .int .u8 0, .int .u8 0, .int .u8 0, .int .u8 0] 38 by rw [hW0.out]; exact Bx.new w _ _)
  have D0 := hide (show Below w.heap.size w W0 by rw [hW0.out]; exact below_alloc _ _)
  have H0 := hide (HH.out.later D0.out)
  have hn1 := hs.n1
  have hn2 := hs.n2
  have hh1 := hs.h1
  obtain ⟨N, hN⟩ : ∃ N : Nat, Hid (N = Mx.sz n) := ⟨_, rfl⟩
  have hgw : g < w.heap.size := Bx.lt hs.bx
  clear hs
  go_enter Try.func27, Try.ntmps27
  change TailG Try.f27 _ 0 _ w
  refine tailG_step rfl ?_
  intro K hK
  go_wp2_with fail
  rw [← hW0.out]
  refine Met.intro (tailG_step rfl ?_)
  try clear hK K
  intro K hK
  obtain ⟨x0, x1, x2, x3, x4⟩ := H0.out.bx.cells
  go_wp2_with fail
  refine (scheck_ok g n W0 x0 hn1).mono ?_
  rintro e wz ⟨rfl, hz⟩
  obtain rfl := hz.symm
  clear hz
  go_wp2_with fail
  refine Met.intro (tailG_step rfl ?_)
  try clear hK K
  intro K hK
  go_wp2_with fail
  refine (shas_any g n at_ W0 x0).mono ?_
  rintro e wz ⟨rfl, hz⟩
  obtain rfl := hz.symm
  clear hz
  have HI := hide (show Mx.inside n at_ = false by have := HO.out; unfold Mx.inside; simp; omega)
  rw [HI.out]
  obtain ⟨t0, t1, t2, t3, t4, t5, t6, t7⟩ := Bx.cells8 X0.out
  have tz := X0.out.frozen
  go_wp2_with fail
  obtain ⟨W6, hW6⟩ : ∃ W6 : World, Hid (W6 = set8 W0 w.heap.size 0 zB) := ⟨_, rfl⟩
  have XF := hide (show Bx W6 w.heap.size #[.int .u8 0, .int .u8 0, .int .u8 0, .int .u8 0, .int .u8 0, .int .u8 0, .int .u8 0, .int .u8 0] 38 by rw [hW6.out]; exact box_fill8 X0.out zB)
  have BF := hide (show Below w.heap.size w W6 by rw [hW6.out]; exact set8_below D0.out (Nat.le_refl _) _ _)
  unfold set8 zB at hW6
  simp only [Nat.zero_add] at hW6
  rw [← hW6.out]
  clear t0 t1 t2 t3 t4 t5 t6 t7
  obtain ⟨t0, t1, t2, t3, t4, t5, t6, t7⟩ := Bx.cells8 XF.out
  exact bodyPost_ret (v := .tuple #[.agg #[.int .u8 0, .int .u8 0, .int .u8 0, .int .u8 0, .int .u8 0, .int .u8 0, .int .u8 0, .int .u8 0], .iface 35 (.int .i64 1)]) (by simp [results, Try.results27, go_sem, t0, t1, t2, t3, t4, t5, t6, t7]) rfl ⟨rfl, BF.out⟩

set_option maxHeartbeats 16000000 in
set_option maxRecDepth 100000 in
theorem sget_ok (g n h : Nat) (ls : List B8) (ps : List Pt) (left : Int) (sa : Option Addr) (sc : Nat) (pa : Option Addr) (pn pc : Nat) (w : World) (hs : StW w g n h ls ps left sa sc pa pn pc) (hps : ps = []) (hl : left ≠ 0) (i : Nat) (hi : i < n) (x : B8) (hx : x = ls.getD (Mx.bpl n h i) zB) :
    Calls Try.prog 27 #[.pointer (some ⟨g, 0, none⟩), .int .i64 (i : Int)] w fun e w' => e = .returned (.tuple #[.agg #[.int .u8 x.z0, .int .u8 x.z1, .int .u8 x.z2, .int .u8 x.z3, .int .u8 x.z4, .int .u8 x.z5, .int .u8 x.z6, .int .u8 x.z7], .nilIface]) ∧ Below w.heap.size w w' := by
  obtain ⟨at_, hat⟩ : ∃ at_ : Int, Hid (at_ = (i : Int)) := ⟨_, rfl⟩
  rw [← hat.out]
  have HR := hide (hs.dread hps hl (Mx.bpl_lt hs.h1 hi))
  have HX := hide (show x = Mx.readB ls ps ((Mx.bpl n h i : Nat) : Int) by rw [hps, Mx.readB_nil, Int.toNat_natCast]; exact hx)
  clear hx hps hl
  have HH := hide hs
  obtain ⟨W0, hW0⟩ : ∃ W0 : World, Hid (W0 = w.alloc (.cells #[.int .u8 0, .int .u8 0, .int .u8 0, .int .u8 0, .int .u8 0, .int .u8 0, .int .u8 0, .int .u8 0] 38)) := ⟨_, rfl⟩
  have X0 := hide (show Bx W0 w.heap.size #[.int .u8 0, .int .u8 0, .int .u8 0, .int .u8 0, .int .u8 0, .int .u8 0, .int .u8 0, .int .u8 0] 38 by rw [hW0.out]; exact Bx.new w _ _)
  have D0 := hide (show Below w.heap.size w W0 by rw [hW0.out]; exact below_alloc _ _)
  have H0 := hide (HH.out.later D0.out)
  have hn1 := hs.n1
  have hn2 := hs.n2
  have hh1 := hs.h1
  obtain ⟨N, hN⟩ : ∃ N : Nat, Hid (N = Mx.sz n) := ⟨_, rfl⟩
  have hgw : g < w.heap.size := Bx.lt hs.bx
  clear hs
  go_enter Try.func27, Try.ntmps27
  change TailG Try.f27 _ 0 _ w
  refine tailG_step rfl ?_
  intro K hK
  go_wp2_with fail
  rw [← hW0.out]
  refine Met.intro (tailG_step rfl ?_)
  try clear hK K
  intro K hK
  obtain ⟨x0, x1, x2, x3, x4⟩ := H0.out.bx.cells
  go_wp2_with fail
  refine (scheck_ok g n W0 x0 hn1).mono ?_
  rintro e wz ⟨rfl, hz⟩
  obtain rfl := hz.symm
  clear hz
  go_wp2_with fail
  refine Met.intro (tailG_step rfl ?_)
  try clear hK K
  intro K hK
  go_wp2_with fail
  refine (shas_any g n at_ W0 x0).mono ?_
  rintro e wz ⟨rfl, hz⟩
  obtain rfl := hz.symm
  clear hz
  rw [hat.out]
  have HI := hide (show Mx.inside n (i : Int) = true by unfold Mx.inside; simp; omega)
  rw [HI.out]
  go_wp2_with fail
  refine Met.intro (tailG_last (c := .seq _ .ret) rfl ?_)
  try clear hK
  try clear K
  obtain ⟨P, hP⟩ : ∃ P : Nat, Hid (P = Mx.bpl n h i) := ⟨_, rfl⟩
  have hlt : Mx.bpl n h i < Mx.sz n := Mx.bpl_lt hh1 hi
  rw [← hN.out] at hlt x2
  rw [← hP.out] at hlt
  have S0 := hide (show W0.heap.size = w.heap.size + 1 by rw [hW0.out]; simp)
  have hg0 : g < W0.heap.size := Nat.lt_of_lt_of_le hgw D0.out.size
  rw [← hN.out, ← hP.out] at HR
  rw [← hP.out] at HX
  have hwg : ¬ w.heap.size = g := by omega
  go_upto_region 6 with fail
  go_region_held3 (fun w' => w'.cell? ⟨g, 0, none⟩ = some (.int .i64 (n : Int)) ∧ w'.cell? ⟨g, 1, none⟩ = some (.int .i64 (h : Int)) ∧ w'.cell? ⟨g, 2, none⟩ = some (.slice sa N sc) ∧ w'.cell? ⟨g, 3, none⟩ = some (.slice pa pn pc) ∧ w'.cell? ⟨g, 4, none⟩ = some (.int .i64 left))
    (first
      | with_reducible exact ⟨x0, x1, x2, x3, x4⟩
      | (simp only [cell_drew]; with_reducible exact ⟨x0, x1, x2, x3, x4⟩)
      | with_reducible exact ⟨y0, y1, y2, y3, y4⟩
      | (simp only [cell_set_far hwg]; with_reducible exact ⟨y0, y1, y2, y3, y4⟩))
    (first
      | (go_at_call 50; refine (place_any g n h i _ (by first | exact x0 | (simp only [cell_drew]; exact x0)) hn2 hh1 hi).mono ?_; rintro e wz ⟨rfl, hz⟩; obtain rfl := hz.symm; clear hz; rw [← hP.out])
      | (go_at_call 21; (with_reducible refine (read_any sa pa N sc pn pc left (P : Int) ls ps W0.drew (by rw [hN.out]; exact H0.out.bl.later (Below.refl _ _).drew) (H0.out.pl.later (Below.refl _ _).drew) HR.out x HX.out).mono ?_); rintro e w2 ⟨rfl, E2⟩; have D2 := hide (show Below W0.heap.size W0 w2 from (Below.refl _ _).drew.trans E2); have H2 := hide (H0.out.later D2.out); obtain ⟨y0, y1, y2, y3, y4⟩ := H2.out.bx.cells; rw [← hN.out] at y2; have X2 := hide (X0.out.later D2.out X0.out.lt); obtain ⟨t0, t1, t2, t3, t4, t5, t6, t7⟩ := Bx.cells8 X2.out; have tz := X2.out.frozen))
  all_goals
    clear x0 x1 x2 x3 x4 y0 y1 y2 y3 y4 t0 t1 t2 t3 t4 t5 t6 t7
    obtain ⟨W6, hW6⟩ : ∃ W6 : World, Hid (W6 = set8 w2 w.heap.size 0 x) := ⟨_, rfl⟩
    have XF := hide (show Bx W6 w.heap.size #[.int .u8 x.z0, .int .u8 x.z1, .int .u8 x.z2, .int .u8 x.z3, .int .u8 x.z4, .int .u8 x.z5, .int .u8 x.z6, .int .u8 x.z7] 38 by rw [hW6.out]; exact box_fill8 X2.out x)
    have BF := hide (show Below w.heap.size w W6 by rw [hW6.out]; exact set8_below (D0.out.trans (D2.out.mono D0.out.size)) (Nat.le_refl _) _ _)
    unfold set8 at hW6
    simp only [Nat.zero_add] at hW6
    rw [← hW6.out]
    obtain ⟨t0, t1, t2, t3, t4, t5, t6, t7⟩ := Bx.cells8 XF.out
    go_wp2_with fail
    exact bodyPost_ret (v := .tuple #[.agg #[.int .u8 x.z0, .int .u8 x.z1, .int .u8 x.z2, .int .u8 x.z3, .int .u8 x.z4, .int .u8 x.z5, .int .u8 x.z6, .int .u8 x.z7], .nilIface]) (by simp [results, Try.results27, go_sem, t0, t1, t2, t3, t4, t5, t6, t7]) rfl ⟨rfl, BF.out⟩

set_option maxHeartbeats 16000000 in
set_option maxRecDepth 100000 in
theorem sget_dead (g n h : Nat) (ls : List B8) (ps : List Pt) (left : Int) (sa : Option Addr) (sc : Nat) (pa : Option Addr) (pn pc : Nat) (w : World) (hs : StW w g n h ls ps left sa sc pa pn pc) (hps : ps = []) (hl : left = 0) (i : Nat) (hi : i < n) :
    Calls Try.prog 27 #[.pointer (some ⟨g, 0, none⟩), .int .i64 (i : Int)] w fun e w' => e = .returned (.tuple #[.agg #[.int .u8 0, .int .u8 0, .int .u8 0, .int .u8 0, .int .u8 0, .int .u8 0, .int .u8 0, .int .u8 0], .iface 35 (.int .i64 4)]) ∧ Below w.heap.size w w' := by
  obtain ⟨at_, hat⟩ : ∃ at_ : Int, Hid (at_ = (i : Int)) := ⟨_, rfl⟩
  rw [← hat.out]
  have HR := hide (hs.dread4 hps hl (Mx.bpl_lt hs.h1 hi))
  clear hps hl
  have HH := hide hs
  obtain ⟨W0, hW0⟩ : ∃ W0 : World, Hid (W0 = w.alloc (.cells #[.int .u8 0, .int .u8 0, .int .u8 0, .int .u8 0, .int .u8 0, .int .u8 0, .int .u8 0, .int .u8 0] 38)) := ⟨_, rfl⟩
  have X0 := hide (show Bx W0 w.heap.size #[.int .u8 0, .int .u8 0, .int .u8 0, .int .u8 0, .int .u8 0, .int .u8 0, .int .u8 0, .int .u8 0] 38 by rw [hW0.out]; exact Bx.new w _ _)
  have D0 := hide (show Below w.heap.size w W0 by rw [hW0.out]; exact below_alloc _ _)
  have H0 := hide (HH.out.later D0.out)
  have hn1 := hs.n1
  have hn2 := hs.n2
  have hh1 := hs.h1
  obtain ⟨N, hN⟩ : ∃ N : Nat, Hid (N = Mx.sz n) := ⟨_, rfl⟩
  have hgw : g < w.heap.size := Bx.lt hs.bx
  clear hs
  go_enter Try.func27, Try.ntmps27
  change TailG Try.f27 _ 0 _ w
  refine tailG_step rfl ?_
  intro K hK
  go_wp2_with fail
  rw [← hW0.out]
  refine Met.intro (tailG_step rfl ?_)
  try clear hK K
  intro K hK
  obtain ⟨x0, x1, x2, x3, x4⟩ := H0.out.bx.cells
  go_wp2_with fail
  refine (scheck_ok g n W0 x0 hn1).mono ?_
  rintro e wz ⟨rfl, hz⟩
  obtain rfl := hz.symm
  clear hz
  go_wp2_with fail
  refine Met.intro (tailG_step rfl ?_)
  try clear hK K
  intro K hK
  go_wp2_with fail
  refine (shas_any g n at_ W0 x0).mono ?_
  rintro e wz ⟨rfl, hz⟩
  obtain rfl := hz.symm
  clear hz
  rw [hat.out]
  have HI := hide (show Mx.inside n (i : Int) = true by unfold Mx.inside; simp; omega)
  rw [HI.out]
  go_wp2_with fail
  refine Met.intro (tailG_last (c := .seq _ .ret) rfl ?_)
  try clear hK
  try clear K
  obtain ⟨P, hP⟩ : ∃ P : Nat, Hid (P = Mx.bpl n h i) := ⟨_, rfl⟩
  have hlt : Mx.bpl n h i < Mx.sz n := Mx.bpl_lt hh1 hi
  rw [← hN.out] at hlt x2
  rw [← hP.out] at hlt
  have S0 := hide (show W0.heap.size = w.heap.size + 1 by rw [hW0.out]; simp)
  have hg0 : g < W0.heap.size := Nat.lt_of_lt_of_le hgw D0.out.size
  rw [← hN.out, ← hP.out] at HR
  have HR0 := hide (show ¬ Mx.dread N ps left (P : Int) = 0 by rw [HR.out]; omega)
  have he4 : errV 4 = .iface 35 (.int .i64 4) := rfl
  have hwg : ¬ w.heap.size = g := by omega
  go_upto_region 6 with fail
  go_region_held3 (fun w' => w'.cell? ⟨g, 0, none⟩ = some (.int .i64 (n : Int)) ∧ w'.cell? ⟨g, 1, none⟩ = some (.int .i64 (h : Int)) ∧ w'.cell? ⟨g, 2, none⟩ = some (.slice sa N sc) ∧ w'.cell? ⟨g, 3, none⟩ = some (.slice pa pn pc) ∧ w'.cell? ⟨g, 4, none⟩ = some (.int .i64 left))
    (first
      | with_reducible exact ⟨x0, x1, x2, x3, x4⟩
      | (simp only [cell_drew]; with_reducible exact ⟨x0, x1, x2, x3, x4⟩)
      | with_reducible exact ⟨y0, y1, y2, y3, y4⟩
      | (simp only [cell_set_far hwg]; with_reducible exact ⟨y0, y1, y2, y3, y4⟩))
    (first
      | (go_at_call 50; refine (place_any g n h i _ (by first | exact x0 | (simp only [cell_drew]; exact x0)) hn2 hh1 hi).mono ?_; rintro e wz ⟨rfl, hz⟩; obtain rfl := hz.symm; clear hz; rw [← hP.out])
      | (go_at_call 21; (with_reducible refine (read_err sa pa N sc pn pc left (P : Int) ps W0.drew (by rw [hN.out]; exact BL.max H0.out.bl) (H0.out.pl.later (Below.refl _ _).drew) HR0.out).mono ?_); rintro e w2 ⟨rfl, E2⟩; rw [HR.out, he4]; have D2 := hide (show Below W0.heap.size W0 w2 from (Below.refl _ _).drew.trans E2); have H2 := hide (H0.out.later D2.out); obtain ⟨y0, y1, y2, y3, y4⟩ := H2.out.bx.cells; rw [← hN.out] at y2; have X2 := hide (X0.out.later D2.out X0.out.lt); obtain ⟨t0, t1, t2, t3, t4, t5, t6, t7⟩ := Bx.cells8 X2.out; have tz := X2.out.frozen))
  all_goals
    clear x0 x1 x2 x3 x4 y0 y1 y2 y3 y4 t0 t1 t2 t3 t4 t5 t6 t7
    obtain ⟨W6, hW6⟩ : ∃ W6 : World, Hid (W6 = set8 w2 w.heap.size 0 zB) := ⟨_, rfl⟩
    have XF := hide (show Bx W6 w.heap.size #[.int .u8 0, .int .u8 0, .int .u8 0, .int .u8 0, .int .u8 0, .int .u8 0, .int .u8 0, .int .u8 0] 38 by rw [hW6.out]; exact box_fill8 X2.out zB)
    have BF := hide (show Below w.heap.size w W6 by rw [hW6.out]; exact set8_below (D0.out.trans (D2.out.mono D0.out.size)) (Nat.le_refl _) _ _)
    unfold set8 zB at hW6
    simp only [Nat.zero_add] at hW6
    rw [← hW6.out]
    obtain ⟨t0, t1, t2, t3, t4, t5, t6, t7⟩ := Bx.cells8 XF.out
    go_wp2_with fail
    exact bodyPost_ret (v := .tuple #[.agg #[.int .u8 0, .int .u8 0, .int .u8 0, .int .u8 0, .int .u8 0, .int .u8 0, .int .u8 0, .int .u8 0], .iface 35 (.int .i64 4)]) (by simp [results, Try.results27, go_sem, t0, t1, t2, t3, t4, t5, t6, t7]) rfl ⟨rfl, BF.out⟩

namespace Mx
/-- the blocks of a half -/
def vw (n h : Nat) (ls : List B8) : List B8 := (List.range n).map (fun i => ls.getD (bpl n h i) zB)
theorem vw_len (n h : Nat) (ls : List B8) : (vw n h ls).length = n := by unfold vw; simp
/-- the first so many of them, then noughts -/
def vwK (n h : Nat) (ls : List B8) (k : Nat) : List B8 := (List.range n).map (fun i => if i < k then ls.getD (bpl n h i) zB else zB)
theorem vwK_len (n h : Nat) (ls : List B8) (k : Nat) : (vwK n h ls k).length = n := by unfold vwK; simp
theorem vwK_zero (n h : Nat) (ls : List B8) : vwK n h ls 0 = List.replicate n zB := by
  unfold vwK
  apply List.ext_getElem
  · simp
  · intro i h1 h2
    simp
theorem vwK_all (n h : Nat) (ls : List B8) : vwK n h ls n = vw n h ls := by
  unfold vwK vw
  refine List.map_congr_left (fun i hi => ?_)
  rw [List.mem_range] at hi
  rw [if_pos hi]
theorem vwK_set {n h k : Nat} {ls : List B8} (_ : k < n) : (vwK n h ls k).set k (ls.getD (bpl n h k) zB) = vwK n h ls (k + 1) := by
  apply List.ext_getElem
  · rw [List.length_set, vwK_len, vwK_len]
  · intro i h1 h2
    rw [List.getElem_set]
    have e1 : ∀ (q : Nat) (_ : i < (vwK n h ls q).length), (vwK n h ls q)[i] = if i < q then ls.getD (bpl n h i) zB else zB := fun q _ => by
      simp only [vwK, List.getElem_map, List.getElem_range]
    by_cases he : k = i
    · subst he
      rw [if_pos rfl, e1, if_pos (by omega)]
    · rw [if_neg he, e1, e1]
      by_cases hi : i < k
      · rw [if_pos hi, if_pos (by omega)]
      · rw [if_neg hi, if_neg (by omega)]
end Mx

set_option maxHeartbeats 16000000 in
set_option maxRecDepth 100000 in
theorem sall_dead (g n h : Nat) (ls : List B8) (ps : List Pt) (left : Int) (sa : Option Addr) (sc : Nat) (pa : Option Addr) (pn pc : Nat) (w : World) (hs : StW w g n h ls ps left sa sc pa pn pc) (hps : ps = []) (hl : left = 0) :
    Calls Try.prog 25 #[.pointer (some ⟨g, 0, none⟩)] w fun e w' => e = .returned (.tuple #[.slice none 0 0, .iface 35 (.int .i64 4)]) ∧ Below w.heap.size w w' := by
  have HPS := hide hps
  have HL0 := hide hl
  clear hps hl
  have HH := hide hs
  have hn1 := hs.n1
  have hn2 := hs.n2
  have hgw : g < w.heap.size := Bx.lt hs.bx
  obtain ⟨x0, x1, x2, x3, x4⟩ := hs.bx.cells
  obtain ⟨C, hC, HC⟩ := make_blocks n (by omega)
  clear hs
  go_enter Try.func25, Try.ntmps25
  change TailG Try.f25 _ 0 _ w
  refine tailG_step rfl ?_
  intro K hK
  go_wp2_with fail
  refine Met.intro (tailG_step rfl ?_)
  try clear hK K
  intro K hK
  go_wp2_with fail
  refine (scheck_ok g n w x0 hn1).mono ?_
  rintro e wz ⟨rfl, hz⟩
  obtain rfl := hz.symm
  clear hz
  go_wp2_with fail
  refine Met.intro (tailG_step rfl ?_)
  try clear hK K
  intro K hK
  have C1 := hide (HC.out w w.heap.size (Nat.le_refl _))
  obtain ⟨W1, hW1⟩ : ∃ W1 : World, Hid (W1 = w.alloc (.cells C 38)) := ⟨_, rfl⟩
  rw [← hW1.out] at C1
  have D1 := hide (show Below w.heap.size w W1 by rw [hW1.out]; exact below_alloc _ _)
  have H1 := hide (HH.out.later D1.out)
  go_wp2_with fail
  rw [← hW1.out]
  refine Met.intro (tailG_step rfl ?_)
  try clear hK K
  intro K hK
  clear x0 x1 x2 x3 x4
  go_wp2_with fail
  go_loopw [21] (fun t wr => t = .int .i64 0 ∧ Hid (wr = W1)) (fun _ _ => 0)
  case atStart => exact ⟨rfl, rfl⟩
  case round =>
    obtain ⟨rfl, hwr⟩ := hrel
    rw [hwr.out]
    have hn0 : (0 : Int) < n := by omega
    go_wp2_with fail
    refine (sget_dead g n h ls ps left sa sc pa pn pc W1 H1.out HPS.out HL0.out 0 (by omega)).mono ?_
    rintro e w2 ⟨rfl, E2⟩
    have D2 := hide (show Below w.heap.size w w2 from D1.out.trans (E2.mono D1.out.size))
    go_wp2_with fail
    exact bodyPost_ret (v := .tuple #[.slice none 0 0, .iface 35 (.int .i64 4)]) (by simp [results, Try.results25, go_sem]) rfl ⟨rfl, (D2.out.alloc D2.out.size _)⟩

set_option maxHeartbeats 16000000 in
set_option maxRecDepth 100000 in
theorem sall_ok (g n h : Nat) (ls : List B8) (ps : List Pt) (left : Int) (sa : Option Addr) (sc : Nat) (pa : Option Addr) (pn pc : Nat) (w : World) (hs : StW w g n h ls ps left sa sc pa pn pc) (hps : ps = []) (hl : left ≠ 0) :
    Calls Try.prog 25 #[.pointer (some ⟨g, 0, none⟩)] w fun e w' => ∃ p, e = .returned (.tuple #[.slice (some ⟨p, 0, none⟩) n n, .nilIface]) ∧ OwnBL w' w.heap.size (.slice (some ⟨p, 0, none⟩) n n) (Mx.vw n h ls) ∧ Below w.heap.size w w' := by
  have HPS := hide hps
  have HL0 := hide hl
  have hh1 := hs.h1
  clear hps hl
  have HH := hide hs
  have hn1 := hs.n1
  have hn2 := hs.n2
  have hgw : g < w.heap.size := Bx.lt hs.bx
  obtain ⟨x0, x1, x2, x3, x4⟩ := hs.bx.cells
  obtain ⟨C, hC, HC⟩ := make_blocks n (by omega)
  clear hs
  go_enter Try.func25, Try.ntmps25
  change TailG Try.f25 _ 0 _ w
  refine tailG_step rfl ?_
  intro K hK
  go_wp2_with fail
  refine Met.intro (tailG_step rfl ?_)
  try clear hK K
  intro K hK
  go_wp2_with fail
  refine (scheck_ok g n w x0 hn1).mono ?_
  rintro e wz ⟨rfl, hz⟩
  obtain rfl := hz.symm
  clear hz
  go_wp2_with fail
  refine Met.intro (tailG_step rfl ?_)
  try clear hK K
  intro K hK
  have C1 := hide (HC.out w w.heap.size (Nat.le_refl _))
  obtain ⟨W1, hW1⟩ : ∃ W1 : World, Hid (W1 = w.alloc (.cells C 38)) := ⟨_, rfl⟩
  rw [← hW1.out] at C1
  have D1 := hide (show Below w.heap.size w W1 by rw [hW1.out]; exact below_alloc _ _)
  have H1 := hide (HH.out.later D1.out)
  go_wp2_with fail
  rw [← hW1.out]
  refine Met.intro (tailG_step rfl ?_)
  try clear hK K
  intro K hK
  clear x0 x1 x2 x3 x4
  go_wp2_with fail
  go_loopw [21] (fun t wr => ∃ k : Nat, t = .int .i64 (k : Int) ∧ k ≤ n ∧ Hid (OwnBL wr w.heap.size (.slice (some ⟨w.heap.size, 0, none⟩) n n) (Mx.vwK n h ls k)) ∧ Hid (Below w.heap.size w wr)) (fun t _ => n - (intOf t).toNat)
  case atStart => exact ⟨0, rfl, by omega, by unfold Hid; rw [Mx.vwK_zero]; exact C1.out, D1⟩
  case round =>
    obtain ⟨k, rfl, hk, hO, hB⟩ := hrel
    by_cases hkn : k < n
    · have hki : (k : Int) < n := by omega
      obtain ⟨x, hx⟩ : ∃ x : B8, Hid (x = ls.getD (Mx.bpl n h k) zB) := ⟨_, rfl⟩
      go_wp2_with fail
      refine (sget_ok g n h ls ps left sa sc pa pn pc wr (HH.out.later hB.out) HPS.out HL0.out k hkn x hx.out).mono ?_
      rintro e w2 ⟨rfl, E2⟩
      have O2 := hide (show OwnBL w2 w.heap.size (.slice (some ⟨w.heap.size, 0, none⟩) n n) (Mx.vwK n h ls k) from rowKept hO.out E2)
      have D2 := hide (show Below w.heap.size w w2 from hB.out.trans (E2.mono hB.out.size))
      obtain ⟨y, _, e0, e1, e2, e3, e4, e5, e6, e7⟩ := O2.out.at_ k hkn
      have hfz : ∀ o, w2.frozen? ⟨w.heap.size, o, none⟩ = false := by
        obtain ⟨g', hg', _, _, _, hz⟩ := OwnBL.form O2.out (by omega)
        cases hg'
        exact hz
      have hlt2 : w.heap.size < w2.heap.size := by
        obtain ⟨g', hg', _, hz, _, _⟩ := OwnBL.form O2.out (by omega)
        cases hg'
        exact hz
      have O9 := hide (show OwnBL (set8 w2 w.heap.size (k * 8) x) w.heap.size (.slice (some ⟨w.heap.size, 0, none⟩) n n) (Mx.vwK n h ls (k + 1)) by
        have h9 := OwnBL.put O2.out k (by rw [Mx.vwK_len]; exact hkn) x
        rw [hx.out, Mx.vwK_set hkn, ← hx.out] at h9
        exact h9)
      have B9 := hide (set8_below D2.out (Nat.le_refl _) (k * 8) x)
      go_wp2_with fail
      exact ⟨⟨k + 1, by go_num, by omega, World.ownsRow.alloc O9.out _, B9.out.alloc B9.out.size _⟩, by simp [intOf]; omega⟩
    · have hkk : k = n := by omega
      subst hkk
      rw [Mx.vwK_all] at hO
      go_wp2_with fail
      refine Met.intro (tailG_last (c := .seq _ .ret) rfl ?_)
      go_wp2_with fail
      exact bodyPost_ret (v := .tuple #[.slice (some ⟨w.heap.size, 0, none⟩) k k, .nilIface]) (by simp [results, Try.results25, go_sem]) rfl ⟨_, rfl, hO.out, hB.out⟩

set_option maxHeartbeats 16000000 in
set_option maxRecDepth 100000 in
theorem snums_x (g n h : Nat) (ls : List B8) (ps : List Pt) (left : Int) (sa : Option Addr) (sc : Nat) (pa : Option Addr) (pn pc : Nat) (w : World) (hs : StW w g n h ls ps left sa sc pa pn pc) (hps : ps = []) (hl : left ≠ 0) (x : B8) (hx : x = ls.getD (Mx.npl n h) zB) (hxo : Mx.by8 x) :
    Calls Try.prog 26 #[.pointer (some ⟨g, 0, none⟩)] w fun e w' => e = .returned (.tuple #[.int .i64 (Mx.snumA x), .int .i64 (Mx.snumB x), .nilIface]) ∧ Below w.heap.size w w' := by
  have hlt : Mx.npl n h < Mx.sz n := Mx.npl_lt hs.h1
  have HR := hide (hs.dread hps hl hlt)
  have HX := hide (show x = Mx.readB ls ps ((Mx.npl n h : Nat) : Int) by rw [hps, Mx.readB_nil, Int.toNat_natCast]; exact hx)
  have HXO := hide hxo
  clear hx hps hl hxo
  have HH := hide hs
  have hn1 := hs.n1
  have hn2 := hs.n2
  have hh1 := hs.h1
  obtain ⟨N, hN⟩ : ∃ N : Nat, Hid (N = Mx.sz n) := ⟨_, rfl⟩
  obtain ⟨P, hP⟩ : ∃ P : Nat, Hid (P = Mx.npl n h) := ⟨_, rfl⟩
  rw [← hN.out, ← hP.out] at HR
  rw [← hP.out] at HX
  rw [← hN.out, ← hP.out] at hlt
  have hgw : g < w.heap.size := Bx.lt hs.bx
  have hwg : ¬ w.heap.size = g := by omega
  obtain ⟨x0, x1, x2, x3, x4⟩ := hs.bx.cells
  rw [← hN.out] at x2
  clear hs
  go_enter Try.func26, Try.ntmps26
  change TailG Try.f26 _ 0 _ w
  refine tailG_step rfl ?_
  intro K hK
  go_wp2_with fail
  refine Met.intro (tailG_step rfl ?_)
  try clear hK K
  intro K hK
  go_wp2_with fail
  refine (scheck_ok g n w x0 hn1).mono ?_
  rintro e wz ⟨rfl, hz⟩
  obtain rfl := hz.symm
  clear hz
  go_wp2_with fail
  refine Met.intro (tailG_step rfl ?_)
  try clear hK K
  intro K hK
  have DA := hide (show Below w.heap.size w (w.alloc (.cells #[.int .u8 0, .int .u8 0, .int .u8 0, .int .u8 0, .int .u8 0, .int .u8 0, .int .u8 0, .int .u8 0] 38)).drew from (below_alloc _ _).drew)
  have DB := hide (show Below w.heap.size w w.drew from (Below.refl _ _).drew)
  have XA := hide (show Bx (w.alloc (.cells #[.int .u8 0, .int .u8 0, .int .u8 0, .int .u8 0, .int .u8 0, .int .u8 0, .int .u8 0, .int .u8 0] 38)).drew w.heap.size #[.int .u8 0, .int .u8 0, .int .u8 0, .int .u8 0, .int .u8 0, .int .u8 0, .int .u8 0, .int .u8 0] 38 from Bx.newD w _ _)
  go_region_held3 (fun w' => w'.cell? ⟨g, 0, none⟩ = some (.int .i64 (n : Int)) ∧ w'.cell? ⟨g, 1, none⟩ = some (.int .i64 (h : Int)) ∧ w'.cell? ⟨g, 2, none⟩ = some (.slice sa N sc) ∧ w'.cell? ⟨g, 3, none⟩ = some (.slice pa pn pc) ∧ w'.cell? ⟨g, 4, none⟩ = some (.int .i64 left))
    (first
      | with_reducible exact ⟨x0, x1, x2, x3, x4⟩
      | (simp only [cell_drew]; with_reducible exact ⟨x0, x1, x2, x3, x4⟩)
      | with_reducible exact ⟨y0, y1, y2, y3, y4⟩
      | (simp only [cell_drew, cell_alloc_lt hgw]; with_reducible exact ⟨x0, x1, x2, x3, x4⟩)
      | (simp only [cell_alloc_lt hgy]; with_reducible exact ⟨y0, y1, y2, y3, y4⟩)
      | (simp only [cell_set_far hwg]; with_reducible exact ⟨y0, y1, y2, y3, y4⟩))
    (first
      | (go_at_call 34; refine (numbersPlace_any g n h _ (by first | exact x0 | (simp only [cell_drew]; exact x0) | (simp only [cell_drew, cell_alloc_lt hgw]; exact x0)) hn2 hh1).mono ?_; rintro e wz ⟨rfl, hz⟩; obtain rfl := hz.symm; clear hz; rw [← hP.out])
      | (go_at_call 21; (with_reducible refine (read_any sa pa N sc pn pc left (P : Int) ls ps w.drew (by rw [hN.out]; exact HH.out.bl.later DB.out) (HH.out.pl.later DB.out) HR.out x HX.out).mono ?_); rintro e w2 ⟨rfl, E2⟩; have D2 := hide (show Below w.heap.size w w2 from DB.out.trans (E2.mono DB.out.size)); have H2 := hide (HH.out.later D2.out); obtain ⟨y0, y1, y2, y3, y4⟩ := H2.out.bx.cells; rw [← hN.out] at y2; have hgy := H2.out.bx.lt)
      | (go_at_call 21; (with_reducible refine (read_any sa pa N sc pn pc left (P : Int) ls ps (w.alloc (.cells #[.int .u8 0, .int .u8 0, .int .u8 0, .int .u8 0, .int .u8 0, .int .u8 0, .int .u8 0, .int .u8 0] 38)).drew (by rw [hN.out]; exact HH.out.bl.later DA.out) (HH.out.pl.later DA.out) HR.out x HX.out).mono ?_); rintro e w2 ⟨rfl, E2⟩; have D2 := hide (show Below w.heap.size w w2 from DA.out.trans (E2.mono DA.out.size)); have H2 := hide (HH.out.later D2.out); obtain ⟨y0, y1, y2, y3, y4⟩ := H2.out.bx.cells; rw [← hN.out] at y2; have hgy := H2.out.bx.lt; have X2 := hide (XA.out.later E2 XA.out.lt); obtain ⟨t0, t1, t2, t3, t4, t5, t6, t7⟩ := Bx.cells8 X2.out; have tz := X2.out.frozen))
  all_goals
    first
      | (obtain ⟨W3, hW3⟩ : ∃ W3 : World, Hid (W3 = w2.alloc (.cells #[.int .u8 x.z0, .int .u8 x.z1, .int .u8 x.z2, .int .u8 x.z3, .int .u8 x.z4, .int .u8 x.z5, .int .u8 x.z6, .int .u8 x.z7] 38)) := ⟨_, rfl⟩
         have X3 := hide (show Bx W3 w2.heap.size #[.int .u8 x.z0, .int .u8 x.z1, .int .u8 x.z2, .int .u8 x.z3, .int .u8 x.z4, .int .u8 x.z5, .int .u8 x.z6, .int .u8 x.z7] 38 by rw [hW3.out]; exact Bx.new w2 _ _)
         have D3 := hide (show Below w.heap.size w W3 by rw [hW3.out]; exact D2.out.alloc D2.out.size _)
         rw [← hW3.out])
      | (obtain ⟨W3, hW3⟩ : ∃ W3 : World, Hid (W3 = set8 w2 w.heap.size 0 x) := ⟨_, rfl⟩
         have X3 := hide (show Bx W3 w.heap.size #[.int .u8 x.z0, .int .u8 x.z1, .int .u8 x.z2, .int .u8 x.z3, .int .u8 x.z4, .int .u8 x.z5, .int .u8 x.z6, .int .u8 x.z7] 38 by rw [hW3.out]; exact box_fill8 X2.out x)
         have D3 := hide (show Below w.heap.size w W3 by rw [hW3.out]; exact set8_below D2.out (Nat.le_refl _) _ _)
         unfold set8 at hW3
         simp only [Nat.zero_add] at hW3
         rw [← hW3.out])
    clear x0 x1 x2 x3 x4 y0 y1 y2 y3 y4
    go_wp2_with fail
    refine Met.intro (tailG_step rfl ?_)
    try clear hK
    try clear K
    intro K hK
    go_wp2_with fail
    refine Met.intro (tailG_last (c := .seq _ .ret) rfl ?_)
    try clear hK
    try clear K
    have X4 := hide (Bx.drew3 X3.out)
    have D4 := hide (show Below w.heap.size w W3.drew from D3.out.drew)
    go_upto_region 7 with fail
    go_region_held3 (fun _ => True)
      (exact trivial)
      (first
        | (go_at_call 48; (with_reducible refine (number_any (some ⟨_, 0, none⟩) _ [x.z0, x.z1, x.z2, x.z3] _ (by first | with_reducible exact Bx.lo4 X3.out HXO.out | with_reducible exact Bx.lo4 X4.out HXO.out)).mono ?_); rintro e wz ⟨rfl, hz⟩; obtain rfl := hz.symm; clear hz; rw [Mx.numL_four])
        | (go_at_call 48; (with_reducible refine (number_any (some ⟨_, 4, none⟩) _ [x.z4, x.z5, x.z6, x.z7] _ (by first | with_reducible exact Bx.hi4 X3.out HXO.out | with_reducible exact Bx.hi4 X4.out HXO.out)).mono ?_); rintro e wz ⟨rfl, hz⟩; obtain rfl := hz.symm; clear hz; rw [Mx.numL_four]))
    all_goals
      go_wp2_with fail
      exact bodyPost_ret (v := .tuple #[.int .i64 (Mx.num4 x.z0 x.z1 x.z2 x.z3), .int .i64 (Mx.num4 x.z4 x.z5 x.z6 x.z7), .nilIface]) (by simp [results, Try.results26, go_sem]) rfl ⟨rfl, D4.out⟩

set_option maxHeartbeats 16000000 in
set_option maxRecDepth 100000 in
theorem snums_dead (g n h : Nat) (ls : List B8) (ps : List Pt) (left : Int) (sa : Option Addr) (sc : Nat) (pa : Option Addr) (pn pc : Nat) (w : World) (hs : StW w g n h ls ps left sa sc pa pn pc) (hps : ps = []) (hl : left = 0) :
    Calls Try.prog 26 #[.pointer (some ⟨g, 0, none⟩)] w fun e w' => e = .returned (.tuple #[.int .i64 0, .int .i64 0, .iface 35 (.int .i64 4)]) ∧ Below w.heap.size w w' := by
  have hlt : Mx.npl n h < Mx.sz n := Mx.npl_lt hs.h1
  have HR := hide (hs.dread4 hps hl hlt)
  clear hps hl
  have HH := hide hs
  have hn1 := hs.n1
  have hn2 := hs.n2
  have hh1 := hs.h1
  obtain ⟨N, hN⟩ : ∃ N : Nat, Hid (N = Mx.sz n) := ⟨_, rfl⟩
  obtain ⟨P, hP⟩ : ∃ P : Nat, Hid (P = Mx.npl n h) := ⟨_, rfl⟩
  rw [← hN.out, ← hP.out] at HR
  have HR0 := hide (show ¬ Mx.dread N ps left (P : Int) = 0 by rw [HR.out]; omega)
  have he4 : errV 4 = .iface 35 (.int .i64 4) := rfl
  rw [← hN.out, ← hP.out] at hlt
  have hgw : g < w.heap.size := Bx.lt hs.bx
  have hwg : ¬ w.heap.size = g := by omega
  obtain ⟨x0, x1, x2, x3, x4⟩ := hs.bx.cells
  rw [← hN.out] at x2
  clear hs
  go_enter Try.func26, Try.ntmps26
  change TailG Try.f26 _ 0 _ w
  refine tailG_step rfl ?_
  intro K hK
  go_wp2_with fail
  refine Met.intro (tailG_step rfl ?_)
  try clear hK K
  intro K hK
  go_wp2_with fail
  refine (scheck_ok g n w x0 hn1).mono ?_
  rintro e wz ⟨rfl, hz⟩
  obtain rfl := hz.symm
  clear hz
  go_wp2_with fail
  refine Met.intro (tailG_step rfl ?_)
  try clear hK K
  intro K hK
  have DA := hide (show Below w.heap.size w (w.alloc (.cells #[.int .u8 0, .int .u8 0, .int .u8 0, .int .u8 0, .int .u8 0, .int .u8 0, .int .u8 0, .int .u8 0] 38)).drew from (below_alloc _ _).drew)
  have DB := hide (show Below w.heap.size w w.drew from (Below.refl _ _).drew)
  have XA := hide (show Bx (w.alloc (.cells #[.int .u8 0, .int .u8 0, .int .u8 0, .int .u8 0, .int .u8 0, .int .u8 0, .int .u8 0, .int .u8 0] 38)).drew w.heap.size #[.int .u8 0, .int .u8 0, .int .u8 0, .int .u8 0, .int .u8 0, .int .u8 0, .int .u8 0, .int .u8 0] 38 from Bx.newD w _ _)
  go_region_held3 (fun w' => w'.cell? ⟨g, 0, none⟩ = some (.int .i64 (n : Int)) ∧ w'.cell? ⟨g, 1, none⟩ = some (.int .i64 (h : Int)) ∧ w'.cell? ⟨g, 2, none⟩ = some (.slice sa N sc) ∧ w'.cell? ⟨g, 3, none⟩ = some (.slice pa pn pc) ∧ w'.cell? ⟨g, 4, none⟩ = some (.int .i64 left))
    (first
      | with_reducible exact ⟨x0, x1, x2, x3, x4⟩
      | (simp only [cell_drew]; with_reducible exact ⟨x0, x1, x2, x3, x4⟩)
      | with_reducible exact ⟨y0, y1, y2, y3, y4⟩
      | (simp only [cell_drew, cell_alloc_lt hgw]; with_reducible exact ⟨x0, x1, x2, x3, x4⟩)
      | (simp only [cell_alloc_lt hgy]; with_reducible exact ⟨y0, y1, y2, y3, y4⟩)
      | (simp only [cell_set_far hwg]; with_reducible exact ⟨y0, y1, y2, y3, y4⟩))
    (first
      | (go_at_call 34; refine (numbersPlace_any g n h _ (by first | exact x0 | (simp only [cell_drew]; exact x0) | (simp only [cell_drew, cell_alloc_lt hgw]; exact x0)) hn2 hh1).mono ?_; rintro e wz ⟨rfl, hz⟩; obtain rfl := hz.symm; clear hz; rw [← hP.out])
      | (go_at_call 21; (with_reducible refine (read_err sa pa N sc pn pc left (P : Int) ps w.drew (by rw [hN.out]; exact BL.max HH.out.bl) (HH.out.pl.later DB.out) HR0.out).mono ?_); rintro e w2 ⟨rfl, E2⟩; rw [HR.out, he4]; have D2 := hide (show Below w.heap.size w w2 from DB.out.trans (E2.mono DB.out.size)); have H2 := hide (HH.out.later D2.out); obtain ⟨y0, y1, y2, y3, y4⟩ := H2.out.bx.cells; rw [← hN.out] at y2; have hgy := H2.out.bx.lt)
      | (go_at_call 21; (with_reducible refine (read_err sa pa N sc pn pc left (P : Int) ps (w.alloc (.cells #[.int .u8 0, .int .u8 0, .int .u8 0, .int .u8 0, .int .u8 0, .int .u8 0, .int .u8 0, .int .u8 0] 38)).drew (by rw [hN.out]; exact BL.max HH.out.bl) (HH.out.pl.later DA.out) HR0.out).mono ?_); rintro e w2 ⟨rfl, E2⟩; rw [HR.out, he4]; have D2 := hide (show Below w.heap.size w w2 from DA.out.trans (E2.mono DA.out.size)); have H2 := hide (HH.out.later D2.out); obtain ⟨y0, y1, y2, y3, y4⟩ := H2.out.bx.cells; rw [← hN.out] at y2; have hgy := H2.out.bx.lt; have X2 := hide (XA.out.later E2 XA.out.lt); obtain ⟨t0, t1, t2, t3, t4, t5, t6, t7⟩ := Bx.cells8 X2.out; have tz := X2.out.frozen))
  all_goals
    first
      | (obtain ⟨W3, hW3⟩ : ∃ W3 : World, Hid (W3 = w2.alloc (.cells #[.int .u8 0, .int .u8 0, .int .u8 0, .int .u8 0, .int .u8 0, .int .u8 0, .int .u8 0, .int .u8 0] 38)) := ⟨_, rfl⟩
         have D3 := hide (show Below w.heap.size w W3 by rw [hW3.out]; exact D2.out.alloc D2.out.size _)
         rw [← hW3.out])
      | (obtain ⟨W3, hW3⟩ : ∃ W3 : World, Hid (W3 = set8 w2 w.heap.size 0 zB) := ⟨_, rfl⟩
         have D3 := hide (show Below w.heap.size w W3 by rw [hW3.out]; exact set8_below D2.out (Nat.le_refl _) _ _)
         unfold set8 zB at hW3
         simp only [Nat.zero_add] at hW3
         rw [← hW3.out])
    clear x0 x1 x2 x3 x4 y0 y1 y2 y3 y4
    go_wp2_with fail
    refine Met.intro (tailG_step rfl ?_)
    try clear hK
    try clear K
    intro K hK
    go_wp2_with fail
    exact bodyPost_ret (v := .tuple #[.int .i64 0, .int .i64 0, .iface 35 (.int .i64 4)]) (by simp [results, Try.results26, go_sem]) rfl ⟨rfl, D3.out⟩

set_option maxHeartbeats 16000000 in
set_option maxRecDepth 100000 in
theorem sdisk_any (g n h : Nat) (ls : List B8) (ps : List Pt) (left : Int) (sa : Option Addr) (sc : Nat) (pa : Option Addr) (pn pc : Nat) (w : World) (hs : StW w g n h ls ps left sa sc pa pn pc) (hpn : pn ≤ 1000) :
    Calls Try.prog 12 #[.pointer (some ⟨g, 0, none⟩)] w fun e w' => ∃ a1 c1 a2 c2, e = .returned (.agg #[.slice a1 (Mx.sz n) c1, .slice a2 pn c2, .int .i64 left]) ∧ Hid (DK w.heap.size w' a1 (Mx.sz n) ls a2 pn ps) ∧ Hid (Below w.heap.size w w') := by
  have HH := hide hs
  have hgw : g < w.heap.size := Bx.lt hs.bx
  obtain ⟨W0, hW0⟩ : ∃ W0 : World, Hid (W0 = w.alloc (.cells #[.slice none 0 0, .slice none 0 0, .int .i64 0] 29)) := ⟨_, rfl⟩
  have X0 := hide (show Bx W0 w.heap.size #[.slice none 0 0, .slice none 0 0, .int .i64 0] 29 by rw [hW0.out]; exact Bx.new w _ _)
  have D0 := hide (show Below w.heap.size w W0 by rw [hW0.out]; exact below_alloc _ _)
  have H0 := hide (HH.out.later D0.out)
  clear hs
  go_enter Try.func12, Try.ntmps12
  change TailG Try.f12 _ 0 _ w
  refine tailG_step rfl ?_
  intro K hK
  go_wp2_with fail
  rw [← hW0.out]
  refine Met.intro (tailG_step rfl ?_)
  try clear hK K
  intro K hK
  go_wp2_with fail
  refine Met.intro (tailG_last (c := .seq _ .ret) rfl ?_)
  try clear hK
  try clear K
  obtain ⟨x0, x1, x2, x3, x4⟩ := H0.out.bx.cells
  have S0 := hide (show W0.heap.size = w.heap.size + 1 by rw [hW0.out]; simp)
  go_wp2_with fail
  refine (sfresh_any sa pa (Mx.sz n) sc pn pc left ls ps W0 H0.out.bl H0.out.pl (by have := HH.out.n2; unfold Mx.sz; omega) hpn).mono ?_
  rintro e w2 ⟨a1, c1, a2, c2, rfl, K2, E2⟩
  have X2 := hide (X0.out.later E2.out X0.out.lt)
  have B2 := hide (D0.out.trans (E2.out.mono D0.out.size))
  obtain ⟨t0, t1, t2⟩ := X2.out.three
  have tz := X2.out.frozen
  go_wp2_with fail
  have BF := hide (set3_below B2.out (Nat.le_refl _) (.slice a1 (Mx.sz n) c1) (.slice a2 pn c2) (.int .i64 left))
  clear t0 t1 t2
  obtain ⟨t0, t1, t2⟩ := (X2.out.three_set (.slice a1 (Mx.sz n) c1) (.slice a2 pn c2) (.int .i64 left)).three
  exact bodyPost_ret (v := .agg #[.slice a1 (Mx.sz n) c1, .slice a2 pn c2, .int .i64 left]) (by simp [results, Try.results12, go_sem, t0, t1, t2]) rfl ⟨a1, c1, a2, c2, rfl, (K2.out.grown (set3_grown (grow_refl w2 (some w.heap.size)) (.slice a1 (Mx.sz n) c1) (.slice a2 pn c2) (.int .i64 left)) (by have := S0.out; omega)).low (by have := S0.out; omega), BF.out⟩


end Go.Proofs.Ytfbmaemnbolplaa

/-
  Stores: writing and flushing.
-/
namespace Go.Proofs.Ytfbmaemnbolplaa
open Go.RowKit

theorem below_grown {w w' : World} (h : Below w.heap.size w w') (row : Option Nat) : w.grownBy w' row := ⟨h.os, h.tape, h.output, h.size, fun b hb _ => h.block b hb⟩
theorem less_lo {left : Int} (h1 : -9223372036854775808 ≤ left) : -9223372036854775808 ≤ Mx.less left := by unfold Mx.less; split <;> omega
theorem less_hi {left : Int} (h1 : left ≤ 9223372036854775807) : Mx.less left ≤ 9223372036854775807 := by unfold Mx.less; split <;> omega

/-- the store's disk put anew -/
def sput (w : World) (g : Nat) (s0 s1 s2 : Value) : World := ((w.setCell ⟨g, 2, none⟩ s0).setCell ⟨g, 3, none⟩ s1).setCell ⟨g, 4, none⟩ s2
theorem Sbx.put {w : World} {g n h : Nat} {sa : Option Addr} {sn sc : Nat} {pa : Option Addr} {pn pc : Nat} {left : Int} (hx : Sbx w g n h sa sn sc pa pn pc left) (a1 : Option Addr) (n1 c1 : Nat) (a2 : Option Addr) (n2 c2 : Nat) (l2 : Int) :
    Sbx (sput w g (.slice a1 n1 c1) (.slice a2 n2 c2) (.int .i64 l2)) g n h a1 n1 c1 a2 n2 c2 l2 := ((Bx.set hx 2 _).set 3 _).set 4 _
theorem sput_grown {w w' : World} {g : Nat} (h : w.grownBy w' (some g)) (s0 s1 s2 : Value) : w.grownBy (sput w' g s0 s1 s2) (some g) := grow_set (grow_set (grow_set h _ _) _ _) _ _
theorem BL.grow1 {w w' : World} {a : Option Addr} {n : Nat} {l : List B8} {g : Nat} (h : BL w a n l) (hg : w.grownBy w' (some g)) (hne : 0 < n → ∀ p, a = some p → p.block ≠ g) : BL w' a n l := And.intro h.1 (RowR.ext1 h.2 hg hne)
theorem PL.grow1 {w w' : World} {a : Option Addr} {n : Nat} {l : List Pt} {g : Nat} (h : PL w a n l) (hg : w.grownBy w' (some g)) (hne : 0 < n → ∀ p, a = some p → p.block ≠ g) : PL w' a n l := And.intro h.1 (RowR.ext1 h.2 hg hne)

/-- a store with a disk of its own put anew -/
theorem StW.put {w : World} {g n h : Nat} {ls ls' : List B8} {ps ps' : List Pt} {left left' : Int} {sa : Option Addr} {sc : Nat} {pa : Option Addr} {pn pc : Nat} (hs : StW w g n h ls ps left sa sc pa pn pc) {a1 : Option Addr} {c1 : Nat} {a2 : Option Addr} {n2 c2 : Nat}
    (hb : BL w a1 (Mx.sz n) ls') (hp : PL w a2 n2 ps') (h1 : 0 < Mx.sz n → ∀ p, a1 = some p → p.block ≠ g) (h2 : 0 < n2 → ∀ p, a2 = some p → p.block ≠ g) (hl1 : -9223372036854775808 ≤ left') (hl2 : left' ≤ 9223372036854775807) :
    StW (sput w g (.slice a1 (Mx.sz n) c1) (.slice a2 n2 c2) (.int .i64 left')) g n h ls' ps' left' a1 c1 a2 n2 c2 :=
  { bx := Sbx.put hs.bx a1 (Mx.sz n) c1 a2 n2 c2 left', bl := hb.grow1 (sput_grown (grow_refl _ _) _ _ _) h1, pl := hp.grow1 (sput_grown (grow_refl _ _) _ _ _) h2, a1 := h1, a2 := h2, n1 := hs.n1, n2 := hs.n2, h1 := hs.h1, l1 := hl1, l2 := hl2 }

set_option maxHeartbeats 16000000 in
set_option maxRecDepth 100000 in
theorem sflush_ok (g n h : Nat) (ls : List B8) (ps : List Pt) (left : Int) (sa : Option Addr) (sc : Nat) (pa : Option Addr) (pn pc : Nat) (w : World) (hs : StW w g n h ls ps left sa sc pa pn pc) (hm : Mx.dflush (Mx.sz n) ps left = 0) :
    Calls Try.prog 36 #[.pointer (some ⟨g, 0, none⟩)] w fun e w' => ∃ a1 c1, e = .returned .nilIface ∧ Hid (StW w' g n h (Mx.flushed ls ps) [] (Mx.less left) a1 c1 none 0 0) ∧ Hid (w.grownBy w' (some g)) := by
  have HM := hide hm
  have hl0 : ¬ left = 0 := by
    intro e
    unfold Mx.dflush at hm
    rw [if_pos e] at hm
    split at hm <;> omega
  clear hm
  have HH := hide hs
  have hgw : g < w.heap.size := Bx.lt hs.bx
  have hwg : ¬ w.heap.size = g := by omega
  obtain ⟨x0, x1, x2, x3, x4⟩ := hs.bx.cells
  clear hs
  go_enter Try.func36, Try.ntmps36
  change TailG Try.f36 _ 0 _ w
  refine tailG_step rfl ?_
  intro K hK
  go_wp2_with fail
  refine Met.intro (tailG_step rfl ?_)
  try clear hK
  try clear K
  intro K hK
  go_wp2_with fail
  refine (flush_any sa pa (Mx.sz n) sc pn pc left ls ps w HH.out.bl HH.out.pl HH.out.l1 HH.out.l2 HM.out).mono ?_
  rintro e w2 ⟨v1, rfl, O2, E2⟩
  obtain ⟨a1, c1, hv1, hb1, hp1⟩ := O2.bl
  have hln : (Mx.flushed ls ps).length = Mx.sz n := by rw [Mx.flushed_len]; exact HH.out.bl.1
  rw [hln] at hv1 hb1
  subst hv1
  have H2 := hide (HH.out.later E2)
  have S2 := hide (show 0 < Mx.sz n → ∀ p, a1 = some p → p.block ≠ g from fun _ p hp => by have h9 := hp1 p hp; omega)
  have L2 := hide hb1
  have D2 := hide E2
  clear x0 x1 x2 x3 x4 hb1 hp1 O2 E2
  obtain ⟨W3, hW3⟩ : ∃ W3 : World, Hid (W3 = w2.alloc (.cells #[.slice a1 (Mx.sz n) c1, .slice none 0 0, .int .i64 (Mx.less left)] 29)) := ⟨_, rfl⟩
  have X3 := hide (show Bx W3 w2.heap.size #[.slice a1 (Mx.sz n) c1, .slice none 0 0, .int .i64 (Mx.less left)] 29 by rw [hW3.out]; exact Bx.new w2 _ _)
  have E3 := hide (show Below w2.heap.size w2 W3 by rw [hW3.out]; exact below_alloc _ _)
  have D3 := hide (show Below w.heap.size w W3 from D2.out.trans (E3.out.mono D2.out.size))
  have H3 := hide (HH.out.later D3.out)
  have L3 := hide (L2.out.later E3.out)
  have HF := hide (H3.out.put (c1 := c1) (c2 := 0) L3.out (PL.nil W3) S2.out (fun h => absurd h (by omega)) (less_lo HH.out.l1) (less_hi HH.out.l2))
  have GF := hide (sput_grown (below_grown D3.out (some g)) (.slice a1 (Mx.sz n) c1) (.slice none 0 0) (.int .i64 (Mx.less left)))
  unfold sput at HF GF
  go_wp2_with fail
  rw [← hW3.out]
  refine Met.intro (tailG_step rfl ?_)
  try clear hK
  try clear K
  intro K hK
  go_wp2_with fail
  refine Met.intro (tailG_step rfl ?_)
  try clear hK
  try clear K
  intro K hK
  obtain ⟨x0, x1, x2, x3, x4⟩ := H3.out.bx.cells
  have xz := H3.out.bx.frozen
  obtain ⟨t0, t1, t2⟩ := X3.out.three
  have hne3 : ¬ g = w2.heap.size := by have h9 := D2.out.size; omega
  go_wp2_with fail
  refine Met.intro (tailG_last (c := .seq _ .ret) rfl ?_)
  try clear hK
  try clear K
  go_wp2_with fail
  exact bodyPost_ret (v := .nilIface) (by simp [results, Try.results36, go_sem]) rfl ⟨a1, c1, rfl, HF, GF⟩

set_option maxHeartbeats 16000000 in
set_option maxRecDepth 100000 in
theorem sflush_dead (g n h : Nat) (ls : List B8) (ps : List Pt) (left : Int) (sa : Option Addr) (sc : Nat) (pa : Option Addr) (pn pc : Nat) (w : World) (hs : StW w g n h ls ps left sa sc pa pn pc) (hps : Mx.dmay (Mx.sz n) ps = 0) (hl : left = 0) :
    Calls Try.prog 36 #[.pointer (some ⟨g, 0, none⟩)] w fun e w' => e = .returned (.iface 35 (.int .i64 4)) ∧ Below w.heap.size w w' := by
  have HM := hide (show Mx.dflush (Mx.sz n) ps left = 4 by unfold Mx.dflush; rw [if_pos hps, if_pos hl])
  have HM0 := hide (show ¬ Mx.dflush (Mx.sz n) ps left = 0 by rw [HM.out]; omega)
  have he4 : errV 4 = .iface 35 (.int .i64 4) := rfl
  clear hps hl
  have HH := hide hs
  have hgw : g < w.heap.size := Bx.lt hs.bx
  have hwg : ¬ w.heap.size = g := by omega
  obtain ⟨x0, x1, x2, x3, x4⟩ := hs.bx.cells
  clear hs
  go_enter Try.func36, Try.ntmps36
  change TailG Try.f36 _ 0 _ w
  refine tailG_step rfl ?_
  intro K hK
  go_wp2_with fail
  refine Met.intro (tailG_step rfl ?_)
  try clear hK
  try clear K
  intro K hK
  go_wp2_with fail
  refine (flush_err sa pa (Mx.sz n) sc pn pc left ps w (BL.max HH.out.bl) HH.out.pl HM0.out).mono ?_
  rintro e w2 ⟨rfl, E2⟩
  rw [HM.out, he4]
  have D2 := hide E2
  clear x0 x1 x2 x3 x4 E2
  go_wp2_with fail
  refine Met.intro (tailG_step rfl ?_)
  try clear hK
  try clear K
  intro K hK
  go_wp2_with fail
  exact bodyPost_ret (v := .iface 35 (.int .i64 4)) (by simp [results, Try.results36, go_sem]) rfl ⟨rfl, D2.out.alloc D2.out.size _⟩

set_option maxHeartbeats 16000000 in
set_option maxRecDepth 100000 in
theorem swrite_ok (g n h : Nat) (ls : List B8) (ps : List Pt) (left : Int) (sa : Option Addr) (sc : Nat) (pa : Option Addr) (pn pc : Nat) (w : World) (hs : StW w g n h ls ps left sa sc pa pn pc) (at_ : Int) (x : B8) (hm : Mx.dwrite (Mx.sz n) ps left at_ = 0) :
    Calls Try.prog 33 #[.pointer (some ⟨g, 0, none⟩), .int .i64 at_, .agg #[.int .u8 x.z0, .int .u8 x.z1, .int .u8 x.z2, .int .u8 x.z3, .int .u8 x.z4, .int .u8 x.z5, .int .u8 x.z6, .int .u8 x.z7]] w fun e w' => ∃ a1 c1 a2 c2, e = .returned .nilIface ∧ Hid (StW w' g n h ls (ps ++ [⟨at_, x⟩]) (Mx.less left) a1 c1 a2 (pn + 1) c2) ∧ Hid (w.grownBy w' (some g)) := by
  have HM := hide hm
  clear hm
  have HH := hide hs
  have hgw : g < w.heap.size := Bx.lt hs.bx
  obtain ⟨N, hN⟩ : ∃ N : Nat, Hid (N = Mx.sz n) := ⟨_, rfl⟩
  obtain ⟨W0, hW0⟩ : ∃ W0 : World, Hid (W0 = w.alloc (.cells #[.int .u8 x.z0, .int .u8 x.z1, .int .u8 x.z2, .int .u8 x.z3, .int .u8 x.z4, .int .u8 x.z5, .int .u8 x.z6, .int .u8 x.z7] 38)) := ⟨_, rfl⟩
  have X0 := hide (show Bx W0 w.heap.size #[.int .u8 x.z0, .int .u8 x.z1, .int .u8 x.z2, .int .u8 x.z3, .int .u8 x.z4, .int .u8 x.z5, .int .u8 x.z6, .int .u8 x.z7] 38 by rw [hW0.out]; exact Bx.new w _ _)
  have D0 := hide (show Below w.heap.size w W0 by rw [hW0.out]; exact below_alloc _ _)
  have S0 := hide (show W0.heap.size = w.heap.size + 1 by rw [hW0.out]; simp)
  have H0 := hide (HH.out.later D0.out)
  clear hs
  rw [← hN.out] at HM
  go_enter Try.func33, Try.ntmps33
  change TailG Try.f33 _ 0 _ w
  refine tailG_step rfl ?_
  intro K hK
  go_wp2_with fail
  rw [← hW0.out]
  refine Met.intro (tailG_step rfl ?_)
  try clear hK
  try clear K
  intro K hK
  obtain ⟨x0, x1, x2, x3, x4⟩ := H0.out.bx.cells
  rw [← hN.out] at x2
  obtain ⟨u0, u1, u2, u3, u4, u5, u6, u7⟩ := Bx.cells8 X0.out
  have hgW : g < W0.heap.size := by have := S0.out; omega
  have hwW : w.heap.size < W0.heap.size := by have := S0.out; omega
  have hfg : ¬ W0.heap.size = g := by omega
  have hfw : ¬ W0.heap.size = w.heap.size := by omega
  have DA := hide (show Below W0.heap.size W0 (W0.alloc (.cells #[.slice none 0 0, .slice none 0 0, .int .i64 0] 29)).drew from (below_alloc _ _).drew)
  have DB := hide (show Below W0.heap.size W0 W0.drew from (Below.refl _ _).drew)
  have XA := hide (show Bx (W0.alloc (.cells #[.slice none 0 0, .slice none 0 0, .int .i64 0] 29)).drew W0.heap.size #[.slice none 0 0, .slice none 0 0, .int .i64 0] 29 from Bx.newD W0 _ _)
  have BA := hide (show BL (W0.alloc (.cells #[.slice none 0 0, .slice none 0 0, .int .i64 0] 29)).drew sa N ls by rw [hN.out]; exact H0.out.bl.later DA.out)
  have BB := hide (show BL W0.drew sa N ls by rw [hN.out]; exact H0.out.bl.later DB.out)
  have PA := hide (H0.out.pl.later DA.out)
  have PB := hide (H0.out.pl.later DB.out)
  go_region_held3 (fun w' => w'.cell? ⟨g, 0, none⟩ = some (.int .i64 (n : Int)) ∧ w'.cell? ⟨g, 1, none⟩ = some (.int .i64 (h : Int)) ∧ w'.cell? ⟨g, 2, none⟩ = some (.slice sa N sc) ∧ w'.cell? ⟨g, 3, none⟩ = some (.slice pa pn pc) ∧ w'.cell? ⟨g, 4, none⟩ = some (.int .i64 left) ∧ w'.cell? ⟨w.heap.size, 0, none⟩ = some (.int .u8 x.z0) ∧ w'.cell? ⟨w.heap.size, 1, none⟩ = some (.int .u8 x.z1) ∧ w'.cell? ⟨w.heap.size, 2, none⟩ = some (.int .u8 x.z2) ∧ w'.cell? ⟨w.heap.size, 3, none⟩ = some (.int .u8 x.z3) ∧ w'.cell? ⟨w.heap.size, 4, none⟩ = some (.int .u8 x.z4) ∧ w'.cell? ⟨w.heap.size, 5, none⟩ = some (.int .u8 x.z5) ∧ w'.cell? ⟨w.heap.size, 6, none⟩ = some (.int .u8 x.z6) ∧ w'.cell? ⟨w.heap.size, 7, none⟩ = some (.int .u8 x.z7))
    (first
      | with_reducible exact ⟨x0, x1, x2, x3, x4, u0, u1, u2, u3, u4, u5, u6, u7⟩
      | (simp only [cell_drew]; with_reducible exact ⟨x0, x1, x2, x3, x4, u0, u1, u2, u3, u4, u5, u6, u7⟩)
      | with_reducible exact ⟨y0, y1, y2, y3, y4, v0, v1, v2, v3, v4, v5, v6, v7⟩
      | (simp only [cell_drew, cell_alloc_lt hgW, cell_alloc_lt hwW]; with_reducible exact ⟨x0, x1, x2, x3, x4, u0, u1, u2, u3, u4, u5, u6, u7⟩)
      | (simp only [cell_alloc_lt hgy, cell_alloc_lt hwy]; with_reducible exact ⟨y0, y1, y2, y3, y4, v0, v1, v2, v3, v4, v5, v6, v7⟩)
      | (simp only [cell_set_far hfg, cell_set_far hfw]; with_reducible exact ⟨y0, y1, y2, y3, y4, v0, v1, v2, v3, v4, v5, v6, v7⟩))
    (first
      | (go_at_call 51; (with_reducible refine (write_any sa pa N sc pn pc left at_ x ls ps W0.drew BB.out PB.out HH.out.l1 HH.out.l2 HM.out).mono ?_); rintro e w2 ⟨r1, r2, rfl, O1, O2, E2⟩; obtain ⟨a1, c1, hv1, hb1, hp1⟩ := O1.bl; obtain ⟨a2, c2, hv2, hb2, hp2⟩ := O2.pl; rw [BB.out.1] at hv1 hb1; rw [List.length_append, PB.out.1] at hv2 hb2; subst hv1; subst hv2; have Q1 := hide hb1; have Q2 := hide hb2; have G1 := hide hp1; have G2 := hide hp2; clear hb1 hb2 hp1 hp2 O1 O2; have D2 := hide (show Below W0.heap.size W0 w2 from DB.out.trans (E2.mono DB.out.size)); have H2 := hide (H0.out.later D2.out); obtain ⟨y0, y1, y2, y3, y4⟩ := H2.out.bx.cells; rw [← hN.out] at y2; have hgy := H2.out.bx.lt; have Z2 := hide (X0.out.later D2.out X0.out.lt); have hwy := Z2.out.lt; obtain ⟨v0, v1, v2, v3, v4, v5, v6, v7⟩ := Bx.cells8 Z2.out)
      | (go_at_call 51; (with_reducible refine (write_any sa pa N sc pn pc left at_ x ls ps (W0.alloc (.cells #[.slice none 0 0, .slice none 0 0, .int .i64 0] 29)).drew BA.out PA.out HH.out.l1 HH.out.l2 HM.out).mono ?_); rintro e w2 ⟨r1, r2, rfl, O1, O2, E2⟩; obtain ⟨a1, c1, hv1, hb1, hp1⟩ := O1.bl; obtain ⟨a2, c2, hv2, hb2, hp2⟩ := O2.pl; rw [BA.out.1] at hv1 hb1; rw [List.length_append, PA.out.1] at hv2 hb2; subst hv1; subst hv2; have Q1 := hide hb1; have Q2 := hide hb2; have G1 := hide hp1; have G2 := hide hp2; clear hb1 hb2 hp1 hp2 O1 O2; have D2 := hide (show Below W0.heap.size W0 w2 from DA.out.trans (E2.mono DA.out.size)); have H2 := hide (H0.out.later D2.out); obtain ⟨y0, y1, y2, y3, y4⟩ := H2.out.bx.cells; rw [← hN.out] at y2; have hgy := H2.out.bx.lt; have Z2 := hide (X0.out.later D2.out X0.out.lt); have hwy := Z2.out.lt; obtain ⟨v0, v1, v2, v3, v4, v5, v6, v7⟩ := Bx.cells8 Z2.out; have X2 := hide (XA.out.later E2 XA.out.lt); obtain ⟨t0, t1, t2⟩ := X2.out.three; have tz := X2.out.frozen))
  all_goals
    first
      | (obtain ⟨W3, hW3⟩ : ∃ W3 : World, Hid (W3 = w2.alloc (.cells #[.slice a1 N c1, .slice a2 (pn + 1) c2, .int .i64 (Mx.less left)] 29)) := ⟨_, rfl⟩
         have X3 := hide (show Bx W3 w2.heap.size #[.slice a1 N c1, .slice a2 (pn + 1) c2, .int .i64 (Mx.less left)] 29 by rw [hW3.out]; exact Bx.new w2 _ _)
         have F3 := hide (show Below w2.heap.size w2 W3 by rw [hW3.out]; exact below_alloc _ _)
         have D3 := hide (show Below w.heap.size w W3 from (D0.out.trans (D2.out.mono D0.out.size)).trans (F3.out.mono (by have h8 := D2.out.size; have h9 := S0.out; omega)))
         have L3 := hide (Q1.out.later F3.out)
         have P3 := hide (Q2.out.later F3.out)
         have S1 := hide (show 0 < N → ∀ p, a1 = some p → p.block ≠ g from fun _ p hp => by have h8 : W0.heap.size ≤ p.block := G1.out p hp; omega)
         have S2 := hide (show 0 < pn + 1 → ∀ p, a2 = some p → p.block ≠ g from fun _ p hp => by have h8 : W0.heap.size ≤ p.block := G2.out p hp; omega)
         have hne3 : ¬ g = w2.heap.size := by have h9 := D2.out.size; omega
         rw [← hW3.out])
      | (obtain ⟨W3, hW3⟩ : ∃ W3 : World, Hid (W3 = set3 w2 W0.heap.size (.slice a1 N c1) (.slice a2 (pn + 1) c2) (.int .i64 (Mx.less left))) := ⟨_, rfl⟩
         have X3 := hide (show Bx W3 W0.heap.size #[.slice a1 N c1, .slice a2 (pn + 1) c2, .int .i64 (Mx.less left)] 29 by rw [hW3.out]; exact X2.out.three_set _ _ _)
         have F3 := hide (show Below W0.heap.size W0 W3 by rw [hW3.out]; exact set3_below D2.out (Nat.le_refl _) _ _ _)
         have D3 := hide (show Below w.heap.size w W3 from D0.out.trans (F3.out.mono D0.out.size))
         have U3 := hide (show w2.grownBy W3 (some W0.heap.size) by rw [hW3.out]; exact set3_grown (grow_refl _ _) _ _ _)
         have L3 := hide (Q1.out.grow1 U3.out (fun _ p hp => by have h8 : W0.heap.size + 1 ≤ p.block := by { have h7 := G1.out p hp; simpa using h7 }; omega))
         have P3 := hide (Q2.out.grow1 U3.out (fun _ p hp => by have h8 : W0.heap.size + 1 ≤ p.block := by { have h7 := G2.out p hp; simpa using h7 }; omega))
         have S1 := hide (show 0 < N → ∀ p, a1 = some p → p.block ≠ g from fun _ p hp => by have h8 : W0.heap.size + 1 ≤ p.block := by { have h7 := G1.out p hp; simpa using h7 }; omega)
         have S2 := hide (show 0 < pn + 1 → ∀ p, a2 = some p → p.block ≠ g from fun _ p hp => by have h8 : W0.heap.size + 1 ≤ p.block := by { have h7 := G2.out p hp; simpa using h7 }; omega)
         have hne3 : ¬ g = W0.heap.size := by omega
         unfold set3 at hW3
         rw [← hW3.out])
    have H3 := hide (HH.out.later D3.out)
    rw [hN.out] at L3 S1
    have HF := hide (H3.out.put (c1 := c1) (c2 := c2) L3.out P3.out S1.out S2.out (less_lo HH.out.l1) (less_hi HH.out.l2))
    have GF := hide (sput_grown (below_grown D3.out (some g)) (.slice a1 (Mx.sz n) c1) (.slice a2 (pn + 1) c2) (.int .i64 (Mx.less left)))
    rw [← hN.out] at HF GF
    unfold sput at HF GF
    clear x0 x1 x2 x3 x4 u0 u1 u2 u3 u4 u5 u6 u7 y0 y1 y2 y3 y4 v0 v1 v2 v3 v4 v5 v6 v7
    go_wp2_with fail
    refine Met.intro (tailG_step rfl ?_)
    try clear hK
    try clear K
    intro K hK
    go_wp2_with fail
    refine Met.intro (tailG_step rfl ?_)
    try clear hK
    try clear K
    intro K hK
    obtain ⟨x0, x1, x2, x3, x4⟩ := H3.out.bx.cells
    rw [← hN.out] at x2
    have xz := H3.out.bx.frozen
    try clear t0 t1 t2
    obtain ⟨t0, t1, t2⟩ := X3.out.three
    go_wp2_with fail
    refine Met.intro (tailG_last (c := .seq _ .ret) rfl ?_)
    try clear hK
    try clear K
    go_wp2_with fail
    exact bodyPost_ret (v := .nilIface) (by simp [results, Try.results33, go_sem]) rfl ⟨a1, c1, a2, c2, rfl, HF, GF⟩

set_option maxHeartbeats 16000000 in
set_option maxRecDepth 100000 in
theorem swrite_dead (g n h : Nat) (ls : List B8) (ps : List Pt) (left : Int) (sa : Option Addr) (sc : Nat) (pa : Option Addr) (pn pc : Nat) (w : World) (hs : StW w g n h ls ps left sa sc pa pn pc) (at_ : Int) (x : B8) (hm : Mx.dwrite (Mx.sz n) ps left at_ = 4) :
    Calls Try.prog 33 #[.pointer (some ⟨g, 0, none⟩), .int .i64 at_, .agg #[.int .u8 x.z0, .int .u8 x.z1, .int .u8 x.z2, .int .u8 x.z3, .int .u8 x.z4, .int .u8 x.z5, .int .u8 x.z6, .int .u8 x.z7]] w fun e w' => e = .returned (.iface 35 (.int .i64 4)) ∧ Below w.heap.size w w' := by
  have HM := hide hm
  clear hm
  have he4 : errV 4 = .iface 35 (.int .i64 4) := rfl
  have HH := hide hs
  have hgw : g < w.heap.size := Bx.lt hs.bx
  obtain ⟨N, hN⟩ : ∃ N : Nat, Hid (N = Mx.sz n) := ⟨_, rfl⟩
  obtain ⟨W0, hW0⟩ : ∃ W0 : World, Hid (W0 = w.alloc (.cells #[.int .u8 x.z0, .int .u8 x.z1, .int .u8 x.z2, .int .u8 x.z3, .int .u8 x.z4, .int .u8 x.z5, .int .u8 x.z6, .int .u8 x.z7] 38)) := ⟨_, rfl⟩
  have X0 := hide (show Bx W0 w.heap.size #[.int .u8 x.z0, .int .u8 x.z1, .int .u8 x.z2, .int .u8 x.z3, .int .u8 x.z4, .int .u8 x.z5, .int .u8 x.z6, .int .u8 x.z7] 38 by rw [hW0.out]; exact Bx.new w _ _)
  have D0 := hide (show Below w.heap.size w W0 by rw [hW0.out]; exact below_alloc _ _)
  have S0 := hide (show W0.heap.size = w.heap.size + 1 by rw [hW0.out]; simp)
  have H0 := hide (HH.out.later D0.out)
  clear hs
  rw [← hN.out] at HM
  go_enter Try.func33, Try.ntmps33
  change TailG Try.f33 _ 0 _ w
  refine tailG_step rfl ?_
  intro K hK
  go_wp2_with fail
  rw [← hW0.out]
  refine Met.intro (tailG_step rfl ?_)
  try clear hK
  try clear K
  intro K hK
  obtain ⟨x0, x1, x2, x3, x4⟩ := H0.out.bx.cells
  rw [← hN.out] at x2
  obtain ⟨u0, u1, u2, u3, u4, u5, u6, u7⟩ := Bx.cells8 X0.out
  have hgW : g < W0.heap.size := by have := S0.out; omega
  have hwW : w.heap.size < W0.heap.size := by have := S0.out; omega
  have hfg : ¬ W0.heap.size = g := by omega
  have hfw : ¬ W0.heap.size = w.heap.size := by omega
  have DA := hide (show Below W0.heap.size W0 (W0.alloc (.cells #[.slice none 0 0, .slice none 0 0, .int .i64 0] 29)).drew from (below_alloc _ _).drew)
  have DB := hide (show Below W0.heap.size W0 W0.drew from (Below.refl _ _).drew)
  have XA := hide (show Bx (W0.alloc (.cells #[.slice none 0 0, .slice none 0 0, .int .i64 0] 29)).drew W0.heap.size #[.slice none 0 0, .slice none 0 0, .int .i64 0] 29 from Bx.newD W0 _ _)
  have BA := hide (show BL (W0.alloc (.cells #[.slice none 0 0, .slice none 0 0, .int .i64 0] 29)).drew sa N ls by rw [hN.out]; exact H0.out.bl.later DA.out)
  have BB := hide (show BL W0.drew sa N ls by rw [hN.out]; exact H0.out.bl.later DB.out)
  have PA := hide (H0.out.pl.later DA.out)
  have PB := hide (H0.out.pl.later DB.out)
  have HM0 := hide (show ¬ Mx.dwrite N ps left at_ = 0 by rw [HM.out]; omega)
  go_region_held3 (fun w' => w'.cell? ⟨g, 0, none⟩ = some (.int .i64 (n : Int)) ∧ w'.cell? ⟨g, 1, none⟩ = some (.int .i64 (h : Int)) ∧ w'.cell? ⟨g, 2, none⟩ = some (.slice sa N sc) ∧ w'.cell? ⟨g, 3, none⟩ = some (.slice pa pn pc) ∧ w'.cell? ⟨g, 4, none⟩ = some (.int .i64 left) ∧ w'.cell? ⟨w.heap.size, 0, none⟩ = some (.int .u8 x.z0) ∧ w'.cell? ⟨w.heap.size, 1, none⟩ = some (.int .u8 x.z1) ∧ w'.cell? ⟨w.heap.size, 2, none⟩ = some (.int .u8 x.z2) ∧ w'.cell? ⟨w.heap.size, 3, none⟩ = some (.int .u8 x.z3) ∧ w'.cell? ⟨w.heap.size, 4, none⟩ = some (.int .u8 x.z4) ∧ w'.cell? ⟨w.heap.size, 5, none⟩ = some (.int .u8 x.z5) ∧ w'.cell? ⟨w.heap.size, 6, none⟩ = some (.int .u8 x.z6) ∧ w'.cell? ⟨w.heap.size, 7, none⟩ = some (.int .u8 x.z7))
    (first
      | with_reducible exact ⟨x0, x1, x2, x3, x4, u0, u1, u2, u3, u4, u5, u6, u7⟩
      | (simp only [cell_drew]; with_reducible exact ⟨x0, x1, x2, x3, x4, u0, u1, u2, u3, u4, u5, u6, u7⟩)
      | with_reducible exact ⟨y0, y1, y2, y3, y4, v0, v1, v2, v3, v4, v5, v6, v7⟩
      | (simp only [cell_drew, cell_alloc_lt hgW, cell_alloc_lt hwW]; with_reducible exact ⟨x0, x1, x2, x3, x4, u0, u1, u2, u3, u4, u5, u6, u7⟩)
      | (simp only [cell_alloc_lt hgy, cell_alloc_lt hwy]; with_reducible exact ⟨y0, y1, y2, y3, y4, v0, v1, v2, v3, v4, v5, v6, v7⟩)
      | (simp only [cell_set_far hfg, cell_set_far hfw]; with_reducible exact ⟨y0, y1, y2, y3, y4, v0, v1, v2, v3, v4, v5, v6, v7⟩))
    (first
      | (go_at_call 51; (with_reducible refine (write_err sa pa N sc pn pc left at_ x ps W0.drew (BL.max BB.out) PB.out HM0.out).mono ?_); rintro e w2 ⟨rfl, E2⟩; rw [HM.out, he4]; have D2 := hide (show Below W0.heap.size W0 w2 from DB.out.trans (E2.mono DB.out.size)); have H2 := hide (H0.out.later D2.out); obtain ⟨y0, y1, y2, y3, y4⟩ := H2.out.bx.cells; rw [← hN.out] at y2; have hgy := H2.out.bx.lt; have Z2 := hide (X0.out.later D2.out X0.out.lt); have hwy := Z2.out.lt; obtain ⟨v0, v1, v2, v3, v4, v5, v6, v7⟩ := Bx.cells8 Z2.out)
      | (go_at_call 51; (with_reducible refine (write_err sa pa N sc pn pc left at_ x ps (W0.alloc (.cells #[.slice none 0 0, .slice none 0 0, .int .i64 0] 29)).drew (BL.max BA.out) PA.out HM0.out).mono ?_); rintro e w2 ⟨rfl, E2⟩; rw [HM.out, he4]; have D2 := hide (show Below W0.heap.size W0 w2 from DA.out.trans (E2.mono DA.out.size)); have H2 := hide (H0.out.later D2.out); obtain ⟨y0, y1, y2, y3, y4⟩ := H2.out.bx.cells; rw [← hN.out] at y2; have hgy := H2.out.bx.lt; have Z2 := hide (X0.out.later D2.out X0.out.lt); have hwy := Z2.out.lt; obtain ⟨v0, v1, v2, v3, v4, v5, v6, v7⟩ := Bx.cells8 Z2.out; have X2 := hide (XA.out.later E2 XA.out.lt); obtain ⟨t0, t1, t2⟩ := X2.out.three; have tz := X2.out.frozen))
  all_goals
    first
      | (obtain ⟨W3, hW3⟩ : ∃ W3 : World, Hid (W3 = w2.alloc (.cells #[.slice none 0 0, .slice none 0 0, .int .i64 0] 29)) := ⟨_, rfl⟩
         have F3 := hide (show Below w2.heap.size w2 W3 by rw [hW3.out]; exact below_alloc _ _)
         have D3 := hide (show Below w.heap.size w W3 from (D0.out.trans (D2.out.mono D0.out.size)).trans (F3.out.mono (by have h8 := D2.out.size; have h9 := S0.out; omega)))
         rw [← hW3.out])
      | (obtain ⟨W3, hW3⟩ : ∃ W3 : World, Hid (W3 = set3 w2 W0.heap.size (.slice none 0 0) (.slice none 0 0) (.int .i64 0)) := ⟨_, rfl⟩
         have F3 := hide (show Below W0.heap.size W0 W3 by rw [hW3.out]; exact set3_below D2.out (Nat.le_refl _) _ _ _)
         have D3 := hide (show Below w.heap.size w W3 from D0.out.trans (F3.out.mono D0.out.size))
         unfold set3 at hW3
         rw [← hW3.out])
    clear x0 x1 x2 x3 x4 u0 u1 u2 u3 u4 u5 u6 u7 y0 y1 y2 y3 y4 v0 v1 v2 v3 v4 v5 v6 v7
    go_wp2_with fail
    refine Met.intro (tailG_step rfl ?_)
    try clear hK
    try clear K
    intro K hK
    go_wp2_with fail
    exact bodyPost_ret (v := .iface 35 (.int .i64 4)) (by simp [results, Try.results33, go_sem]) rfl ⟨rfl, D3.out⟩


end Go.Proofs.Ytfbmaemnbolplaa

/-
  Stores: a half filled (fill).
-/
namespace Go.Proofs.Ytfbmaemnbolplaa
open Go.RowKit

namespace Mx
/-- the steps left, so many later -/
def lessK (left : Int) (k : Nat) : Int := if left < 0 then left else left - k
theorem lessK_zero (left : Int) : lessK left 0 = left := by unfold lessK; split <;> omega
theorem lessK_succ {left : Int} {k : Nat} : less (lessK left k) = if lessK left k < 0 then lessK left k else lessK left (k + 1) := by
  unfold lessK less
  by_cases h : left < 0
  · simp only [h, if_true]
  · rw [if_neg h, if_neg h]
    by_cases h2 : left - (k : Int) < 0
    · rw [if_pos h2, if_pos h2]
    · rw [if_neg h2, if_neg h2]
      omega
theorem lessK_next {left : Int} {k : Nat} (h : left < 0 ∨ (k : Int) < left) : less (lessK left k) = lessK left (k + 1) := by
  rw [lessK_succ]
  split
  · unfold lessK at *
    by_cases h0 : left < 0
    · rw [if_pos h0, if_pos h0]
    · rw [if_neg h0] at *
      omega
  · rfl
theorem lessK_live {left : Int} {k : Nat} (h : left < 0 ∨ (k : Int) < left) : lessK left k ≠ 0 := by unfold lessK; split <;> omega
theorem lessK_dead {k : Nat} : lessK (k : Int) k = 0 := by unfold lessK; rw [if_neg (by omega)]; omega
/-- the answer when so many of so many were written -/
def fillE (m n : Nat) : Value := if m = n then .nilIface else .iface 35 (.int .i64 4)
theorem fillE_all (n : Nat) : fillE n n = .nilIface := by unfold fillE; rw [if_pos rfl]
theorem fillE_less {m n : Nat} (h : m < n) : fillE m n = .iface 35 (.int .i64 4) := by unfold fillE; rw [if_neg (by omega)]
theorem fillP_zero (n h : Nat) (bl : List B8) : fillP n h bl 0 = [] := rfl

theorem dplace_in {N : Nat} {ps : List Pt} {at_ : Nat} (hm : dmay N ps = 0) (h : at_ < N) : dplace N ps (at_ : Int) = 0 := by
  unfold dplace
  rw [if_pos hm, if_pos (by omega)]
theorem dwrite_in {N : Nat} {ps : List Pt} {at_ : Nat} {left : Int} (hm : dmay N ps = 0) (h : at_ < N) (hl : ps.length ≤ 700) (h0 : left ≠ 0) : dwrite N ps left (at_ : Int) = 0 := by
  unfold dwrite
  rw [if_pos (dplace_in hm h), if_neg (by omega), if_neg h0]
theorem dwrite_dead {N : Nat} {ps : List Pt} {at_ : Nat} {left : Int} (hm : dmay N ps = 0) (h : at_ < N) (hl : ps.length ≤ 700) (h0 : left = 0) : dwrite N ps left (at_ : Int) = 4 := by
  unfold dwrite
  rw [if_pos (dplace_in hm h), if_neg (by omega), if_pos h0]
theorem dmay_in {n : Nat} {ps : List Pt} (hn : n ≤ 32) (hl : ps.length ≤ 700) (h : ∀ p ∈ ps, 0 ≤ p.at_ ∧ p.at_ < (sz n : Int)) : dmay (sz n) ps = 0 :=
  dmay_ok (by have : 1 ≤ sz n ∧ sz n ≤ 200 := by { unfold sz; omega }
              omega) (fun k p _ hk => by
    have := h p (List.mem_of_getElem? hk)
    unfold outside
    simp
    omega)
theorem fillP_in {n q k : Nat} {bl : List B8} (hq : q ≤ 1) (hk : k ≤ n) : ∀ p ∈ fillP n q bl k, 0 ≤ p.at_ ∧ p.at_ < (sz n : Int) := fun p hp => by
  obtain ⟨i, hi, e⟩ := fillP_mem hp
  have := bpl_lt (n := n) hq (show i < n by omega)
  omega
theorem dmay_fill {n q k : Nat} {bl : List B8} (hn : n ≤ 32) (hq : q ≤ 1) (hk : k ≤ n) : dmay (sz n) (fillP n q bl k) = 0 := dmay_in hn (by rw [fillP_len]; omega) (fillP_in hq hk)
end Mx

set_option maxHeartbeats 16000000 in
set_option maxRecDepth 100000 in
theorem sfill_any (g n h : Nat) (ls : List B8) (left : Int) (sa : Option Addr) (sc : Nat) (pa : Option Addr) (pc : Nat) (w : World) (hs : StW w g n h ls [] left sa sc pa 0 pc) (q : Nat) (hq : q ≤ 1) (ba : Option Addr) (bc : Nat) (bl : List B8) (hb : BL w ba n bl) (hbg : 0 < n → ∀ p, ba = some p → p.block ≠ g) (m : Nat) (hm : m ≤ n) (hml : m < n → left = (m : Int)) (hmh : left < 0 ∨ (m : Int) ≤ left) :
    Calls Try.prog 31 #[.pointer (some ⟨g, 0, none⟩), .int .i64 (q : Int), .slice ba n bc] w fun e w' => ∃ a1 c1 a2 c2, e = .returned (Mx.fillE m n) ∧ Hid (StW w' g n h ls (Mx.fillP n q bl m) (Mx.lessK left m) a1 c1 a2 m c2) ∧ Hid (w.grownBy w' (some g)) := by
  have HH := hide hs
  have hn1 := hs.n1
  have hn2 := hs.n2
  have HB := hide hb
  have HBG := hide hbg
  have HML := hide hml
  have HMH := hide hmh
  clear hs hb hbg hml hmh
  go_enter Try.func31, Try.ntmps31
  change TailG Try.f31 _ 0 _ w
  refine tailG_step rfl ?_
  intro K hK
  go_wp2_with fail
  refine Met.intro (tailG_step rfl ?_)
  try clear hK
  try clear K
  intro K hK
  go_wp2_with fail
  go_loopw [12] (fun t wr => ∃ (k : Nat) (a1 : Option Addr) (c1 : Nat) (a2 : Option Addr) (c2 : Nat), t = .int .i64 (k : Int) ∧ k ≤ m ∧ Hid (StW wr g n h ls (Mx.fillP n q bl k) (Mx.lessK left k) a1 c1 a2 k c2) ∧ Hid (w.grownBy wr (some g))) (fun t _ => n - (intOf t).toNat)
  case atStart => exact ⟨0, sa, sc, pa, pc, rfl, by omega, by rw [Mx.fillP_zero, Mx.lessK_zero]; exact HH, grow_refl _ _⟩
  case round =>
    obtain ⟨k, a1, c1, a2, c2, rfl, hk, hS, hG⟩ := hrel
    by_cases hkn : k < n
    · have hki : (k : Int) < n := by omega
      have HBr := hide (HB.out.grow1 hG.out HBG.out)
      obtain ⟨b, off, x, hba, hbw, hx, e0, e1, e2, e3, e4, e5, e6, e7⟩ := HBr.out.at_ k hkn
      have HX := hide (show bl.getD k zB = x by rw [List.getD_eq_getElem?_getD, hx]; rfl)
      have hbg : ¬ b = g := HBG.out (by omega) _ hba
      subst hba
      clear hx
      obtain ⟨P, hP⟩ : ∃ P : Nat, Hid (P = Mx.bpl n q k) := ⟨_, rfl⟩
      obtain ⟨W1, hW1⟩ : ∃ W1 : World, Hid (W1 = wr.alloc (.cells #[.int .u8 x.z0, .int .u8 x.z1, .int .u8 x.z2, .int .u8 x.z3, .int .u8 x.z4, .int .u8 x.z5, .int .u8 x.z6, .int .u8 x.z7] 38)) := ⟨_, rfl⟩
      have X1 := hide (show Bx W1 wr.heap.size #[.int .u8 x.z0, .int .u8 x.z1, .int .u8 x.z2, .int .u8 x.z3, .int .u8 x.z4, .int .u8 x.z5, .int .u8 x.z6, .int .u8 x.z7] 38 by rw [hW1.out]; exact Bx.new wr _ _)
      have D1 := hide (show Below wr.heap.size wr W1 by rw [hW1.out]; exact below_alloc _ _)
      have H1 := hide (hS.out.later D1.out)
      have H1d := hide (H1.out.later (Below.refl _ _).drew)
      have hgr : g < wr.heap.size := hS.out.bx.lt
      have hgne : wr.heap.size ≠ g := by omega
      have hPl : P < Mx.sz n := by rw [hP.out]; exact Mx.bpl_lt hq hkn
      have HDM := hide (Mx.dmay_fill (bl := bl) hn2 hq (show k ≤ n by omega))
      go_upto_region 4 with fail
      rw [← hW1.out]
      have x0 := H1.out.bx.cells.1
      obtain ⟨u0, u1, u2, u3, u4, u5, u6, u7⟩ := Bx.cells8 X1.out
      by_cases hkm : k < m
      · have HW := hide (Mx.dwrite_in HDM.out hPl (by rw [Mx.fillP_len]; omega) (Mx.lessK_live (left := left) (k := k) (by rcases HMH.out with h | h <;> omega)))
        go_region_held3 (fun w' => w'.cell? ⟨g, 0, none⟩ = some (.int .i64 (n : Int)) ∧ w'.cell? ⟨wr.heap.size, 0, none⟩ = some (.int .u8 x.z0) ∧ w'.cell? ⟨wr.heap.size, 1, none⟩ = some (.int .u8 x.z1) ∧ w'.cell? ⟨wr.heap.size, 2, none⟩ = some (.int .u8 x.z2) ∧ w'.cell? ⟨wr.heap.size, 3, none⟩ = some (.int .u8 x.z3) ∧ w'.cell? ⟨wr.heap.size, 4, none⟩ = some (.int .u8 x.z4) ∧ w'.cell? ⟨wr.heap.size, 5, none⟩ = some (.int .u8 x.z5) ∧ w'.cell? ⟨wr.heap.size, 6, none⟩ = some (.int .u8 x.z6) ∧ w'.cell? ⟨wr.heap.size, 7, none⟩ = some (.int .u8 x.z7))
          (first
            | with_reducible exact ⟨x0, u0, u1, u2, u3, u4, u5, u6, u7⟩
            | (simp only [cell_drew]; with_reducible exact ⟨x0, u0, u1, u2, u3, u4, u5, u6, u7⟩)
            | with_reducible exact ⟨y0, v0, v1, v2, v3, v4, v5, v6, v7⟩)
          (first
            | (go_at_call 50; refine (place_any g n q k _ (by first | exact x0 | (simp only [cell_drew]; exact x0)) hn2 hq hkn).mono ?_; rintro e wz ⟨rfl, hz⟩; obtain rfl := hz.symm; clear hz; rw [← hP.out])
            | (go_at_call 33; (with_reducible refine (swrite_ok g n h ls (Mx.fillP n q bl k) (Mx.lessK left k) a1 c1 a2 k c2 _ H1d.out (P : Int) x HW.out).mono ?_); rintro e w2 ⟨a3, c3, a4, c4, rfl, H2, G2⟩; have y0 := H2.out.bx.cells.1; have X2 := hide (show Bx w2 wr.heap.size #[.int .u8 x.z0, .int .u8 x.z1, .int .u8 x.z2, .int .u8 x.z3, .int .u8 x.z4, .int .u8 x.z5, .int .u8 x.z6, .int .u8 x.z7] 38 from (G2.out.block _ X1.out.lt (fun e => hgne (Option.some.inj e))).trans X1.out); obtain ⟨v0, v1, v2, v3, v4, v5, v6, v7⟩ := Bx.cells8 X2.out))
        all_goals
          have HN := hide (show StW w2 g n h ls (Mx.fillP n q bl (k + 1)) (Mx.lessK left (k + 1)) a3 c3 a4 (k + 1) c4 by rw [Mx.fillP_succ, HX.out, ← hP.out, ← Mx.lessK_next (by rcases HMH.out with h | h <;> omega)]; exact H2.out)
          have GN := hide (hG.out.trans ((below_grown D1.out _).trans ((grow_drew (grow_refl W1 _)).trans G2.out)))
          clear e0 e1 e2 e3 e4 e5 e6 e7 u0 u1 u2 u3 u4 u5 u6 u7 v0 v1 v2 v3 v4 v5 v6 v7
          go_wp2_with fail
          exact ⟨⟨k + 1, a3, c3, a4, c4, by go_num, by omega, HN, GN⟩, by simp [intOf]; omega⟩
      · have hkm2 : k = m := by omega
        subst hkm2
        have HL0 := hide (show Mx.lessK left k = 0 by rw [HML.out hkn]; exact Mx.lessK_dead)
        have HW := hide (Mx.dwrite_dead HDM.out hPl (by rw [Mx.fillP_len]; omega) HL0.out)
        go_region_held3 (fun w' => w'.cell? ⟨g, 0, none⟩ = some (.int .i64 (n : Int)) ∧ w'.cell? ⟨wr.heap.size, 0, none⟩ = some (.int .u8 x.z0) ∧ w'.cell? ⟨wr.heap.size, 1, none⟩ = some (.int .u8 x.z1) ∧ w'.cell? ⟨wr.heap.size, 2, none⟩ = some (.int .u8 x.z2) ∧ w'.cell? ⟨wr.heap.size, 3, none⟩ = some (.int .u8 x.z3) ∧ w'.cell? ⟨wr.heap.size, 4, none⟩ = some (.int .u8 x.z4) ∧ w'.cell? ⟨wr.heap.size, 5, none⟩ = some (.int .u8 x.z5) ∧ w'.cell? ⟨wr.heap.size, 6, none⟩ = some (.int .u8 x.z6) ∧ w'.cell? ⟨wr.heap.size, 7, none⟩ = some (.int .u8 x.z7))
          (first
            | with_reducible exact ⟨x0, u0, u1, u2, u3, u4, u5, u6, u7⟩
            | (simp only [cell_drew]; with_reducible exact ⟨x0, u0, u1, u2, u3, u4, u5, u6, u7⟩)
            | with_reducible exact ⟨y0, v0, v1, v2, v3, v4, v5, v6, v7⟩)
          (first
            | (go_at_call 50; refine (place_any g n q k _ (by first | exact x0 | (simp only [cell_drew]; exact x0)) hn2 hq hkn).mono ?_; rintro e wz ⟨rfl, hz⟩; obtain rfl := hz.symm; clear hz; rw [← hP.out])
            | (go_at_call 33; (with_reducible refine (swrite_dead g n h ls (Mx.fillP n q bl k) (Mx.lessK left k) a1 c1 a2 k c2 _ H1d.out (P : Int) x HW.out).mono ?_); rintro e w2 ⟨rfl, E2⟩; have H2 := hide (H1d.out.later E2); have y0 := H2.out.bx.cells.1; have X2 := hide (show Bx w2 wr.heap.size #[.int .u8 x.z0, .int .u8 x.z1, .int .u8 x.z2, .int .u8 x.z3, .int .u8 x.z4, .int .u8 x.z5, .int .u8 x.z6, .int .u8 x.z7] 38 from (Bx.drew3 X1.out).later E2 (Bx.drew3 X1.out).lt); obtain ⟨v0, v1, v2, v3, v4, v5, v6, v7⟩ := Bx.cells8 X2.out))
        all_goals
          have GN := hide (show w.grownBy w2 (some g) from hG.out.trans ((below_grown D1.out _).trans ((grow_drew (grow_refl W1 _)).trans (below_grown E2 _))))
          clear e0 e1 e2 e3 e4 e5 e6 e7 u0 u1 u2 u3 u4 u5 u6 u7 v0 v1 v2 v3 v4 v5 v6 v7
          go_wp2_with fail
          exact bodyPost_ret (v := .iface 35 (.int .i64 4)) (by simp [results, Try.results31, go_sem]) rfl ⟨a1, c1, a2, c2, by rw [Mx.fillE_less hkn], H2, GN⟩
    · have hkk : k = n := by omega
      subst hkk
      have hmk : m = k := by omega
      subst hmk
      go_wp2_with fail
      refine Met.intro (tailG_last (c := .seq _ .ret) rfl ?_)
      try clear hK
      try clear K
      go_wp2_with fail
      exact bodyPost_ret (v := .nilIface) (by simp [results, Try.results31, go_sem]) rfl ⟨a1, c1, a2, c2, by rw [Mx.fillE_all], hS, hG⟩


end Go.Proofs.Ytfbmaemnbolplaa

/-
  Stores: what a commit does, one after another.
-/
namespace Go.Proofs.Ytfbmaemnbolplaa
open Go.RowKit

set_option maxHeartbeats 16000000 in
set_option maxRecDepth 100000 in
theorem cl1_any (p4 p14 p10 : Nat) (g n h : Nat) (ls : List B8) (left : Int) (sa : Option Addr) (sc : Nat) (pa : Option Addr) (pc : Nat) (w : World) (hs : StW w g n h ls [] left sa sc pa 0 pc) (q : Nat) (hq : q ≤ 1) (ba : Option Addr) (bc : Nat) (bl : List B8) (hb : BL w ba n bl) (hbg : 0 < n → ∀ p, ba = some p → p.block ≠ g) (m : Nat) (hm : m ≤ n) (hml : m < n → left = (m : Int)) (hmh : left < 0 ∨ (m : Int) ≤ left)
    (c4 : w.cell? ⟨p4, 0, none⟩ = some (.pointer (some ⟨g, 0, none⟩))) (c14 : w.cell? ⟨p14, 0, none⟩ = some (.int .i64 (q : Int))) (c10 : w.cell? ⟨p10, 0, none⟩ = some (.slice ba n bc)) :
    Calls Try.prog 30 #[.pointer (some ⟨p4, 0, none⟩), .pointer (some ⟨p14, 0, none⟩), .pointer (some ⟨p10, 0, none⟩)] w fun e w' => ∃ a1 c1 a2 c2, e = .returned (Mx.fillE m n) ∧ Hid (StW w' g n h ls (Mx.fillP n q bl m) (Mx.lessK left m) a1 c1 a2 m c2) ∧ Hid (w.grownBy w' (some g)) := by
  have HF := hide (sfill_any g n h ls left sa sc pa pc w hs q hq ba bc bl hb hbg m hm hml hmh)
  clear hs hb hbg hml hmh
  go_enter Try.func30, Try.ntmps30
  change TailG Try.f30 _ 0 _ w
  refine tailG_step rfl ?_
  intro K hK
  go_wp2_with fail
  refine Met.intro (tailG_last (c := .seq _ .ret) rfl ?_)
  try clear hK
  try clear K
  
  go_wp2_with fail
  refine HF.out.mono ?_
  rintro e w2 ⟨a1, c1, a2, c2, rfl, H2, G2⟩
  clear HF
  go_wp2_with fail
  exact bodyPost_ret (v := Mx.fillE m n) (by simp [results, Try.results30, go_sem]) rfl ⟨a1, c1, a2, c2, rfl, H2, G2⟩

theorem StW.turn {w : World} {g n h : Nat} {ls : List B8} {ps : List Pt} {left : Int} {sa : Option Addr} {sc : Nat} {pa : Option Addr} {pn pc : Nat} (hs : StW w g n h ls ps left sa sc pa pn pc) {q : Nat} (hq : q ≤ 1) : StW (w.setCell ⟨g, 1, none⟩ (.int .i64 (q : Int))) g n q ls ps left sa sc pa pn pc :=
  { bx := Bx.set hs.bx 1 _, bl := hs.bl.grow1 (grow_set (grow_refl _ _) _ _) hs.a1, pl := hs.pl.grow1 (grow_set (grow_refl _ _) _ _) hs.a2, a1 := hs.a1, a2 := hs.a2, n1 := hs.n1, n2 := hs.n2, h1 := hq, l1 := hs.l1, l2 := hs.l2 }

set_option maxHeartbeats 16000000 in
set_option maxRecDepth 100000 in
theorem cl4_any (p4 p14 : Nat) (g n h : Nat) (ls : List B8) (ps : List Pt) (left : Int) (sa : Option Addr) (sc : Nat) (pa : Option Addr) (pn pc : Nat) (w : World) (hs : StW w g n h ls ps left sa sc pa pn pc) (q : Nat) (hq : q ≤ 1)
    (c4 : w.cell? ⟨p4, 0, none⟩ = some (.pointer (some ⟨g, 0, none⟩))) (c14 : w.cell? ⟨p14, 0, none⟩ = some (.int .i64 (q : Int))) :
    Calls Try.prog 38 #[.pointer (some ⟨p14, 0, none⟩), .pointer (some ⟨p4, 0, none⟩)] w fun e w' => e = .returned .nilIface ∧ Hid (StW w' g n q ls ps left sa sc pa pn pc) ∧ Hid (w.grownBy w' (some g)) := by
  have HH := hide (hs.turn hq)
  have GG := hide (show w.grownBy (w.setCell ⟨g, 1, none⟩ (.int .i64 (q : Int))) (some g) from grow_set (grow_refl _ _) _ _)
  obtain ⟨x0, x1, x2, x3, x4⟩ := hs.bx.cells
  have xz := hs.bx.frozen
  clear hs
  go_enter Try.func38, Try.ntmps38
  change TailG Try.f38 _ 0 _ w
  refine tailG_step rfl ?_
  intro K hK
  go_wp2_with fail
  refine Met.intro (tailG_step rfl ?_)
  try clear hK
  try clear K
  intro K hK
  go_wp2_with fail
  refine Met.intro (tailG_last (c := .seq _ .ret) rfl ?_)
  try clear hK
  try clear K
  go_wp2_with fail
  exact bodyPost_ret (v := .nilIface) (by simp [results, Try.results38, go_sem]) rfl ⟨rfl, HH, GG⟩

set_option maxHeartbeats 16000000 in
set_option maxRecDepth 100000 in
theorem cl3_ok (p4 p14 : Nat) (g n h : Nat) (ls : List B8) (ps : List Pt) (left : Int) (sa : Option Addr) (sc : Nat) (pa : Option Addr) (pn pc : Nat) (w : World) (hs : StW w g n h ls ps left sa sc pa pn pc) (q : Nat) (hq : q ≤ 1) (hm : Mx.dwrite (Mx.sz n) ps left 0 = 0)
    (c4 : w.cell? ⟨p4, 0, none⟩ = some (.pointer (some ⟨g, 0, none⟩))) (c14 : w.cell? ⟨p14, 0, none⟩ = some (.int .i64 (q : Int))) :
    Calls Try.prog 37 #[.pointer (some ⟨p4, 0, none⟩), .pointer (some ⟨p14, 0, none⟩)] w fun e w' => ∃ a1 c1 a2 c2, e = .returned .nilIface ∧ Hid (StW w' g n h ls (ps ++ [⟨0, ⟨(q : Int), 0, 0, 0, 0, 0, 0, 0⟩⟩]) (Mx.less left) a1 c1 a2 (pn + 1) c2) ∧ Hid (w.grownBy w' (some g)) := by
  have HF := hide (swrite_ok g n h ls ps left sa sc pa pn pc w hs 0 ⟨(q : Int), 0, 0, 0, 0, 0, 0, 0⟩ hm)
  clear hs hm
  have hwq : IntKind.u8.wrap (q : Int) = (q : Int) := by
    match q, hq with
    | 0, _ => rfl
    | 1, _ => rfl
  go_enter Try.func37, Try.ntmps37
  change TailG Try.f37 _ 0 _ w
  refine tailG_step rfl ?_
  intro K hK
  go_wp2_with fail
  refine Met.intro (tailG_last (c := .seq _ .ret) rfl ?_)
  try clear hK
  try clear K
  
  go_wp2_with fail
  refine HF.out.mono ?_
  rintro e w2 ⟨a1, c1, a2, c2, rfl, H2, G2⟩
  clear HF
  go_wp2_with fail
  exact bodyPost_ret (v := .nilIface) (by simp [results, Try.results37, go_sem]) rfl ⟨rfl, ⟨a1, c1, a2, c2, H2⟩, G2⟩

/-- the disk was dead, and nothing has changed -/
def Dead4 (w : World) (e : Ending) (w' : World) : Prop := e = .returned (.iface 35 (.int .i64 4)) ∧ Below w.heap.size w w'

set_option maxHeartbeats 16000000 in
set_option maxRecDepth 100000 in
theorem cl3_dead (p4 p14 : Nat) (g n h : Nat) (ls : List B8) (ps : List Pt) (left : Int) (sa : Option Addr) (sc : Nat) (pa : Option Addr) (pn pc : Nat) (w : World) (hs : StW w g n h ls ps left sa sc pa pn pc) (q : Nat) (hq : q ≤ 1) (hm : Mx.dwrite (Mx.sz n) ps left 0 = 4)
    (c4 : w.cell? ⟨p4, 0, none⟩ = some (.pointer (some ⟨g, 0, none⟩))) (c14 : w.cell? ⟨p14, 0, none⟩ = some (.int .i64 (q : Int))) :
    Calls Try.prog 37 #[.pointer (some ⟨p4, 0, none⟩), .pointer (some ⟨p14, 0, none⟩)] w (Dead4 w) := by
  have HS := hide hs
  have HM := hide hm
  clear hs hm
  have hwq : IntKind.u8.wrap (q : Int) = (q : Int) := by
    match q, hq with
    | 0, _ => rfl
    | 1, _ => rfl
  go_enter Try.func37, Try.ntmps37
  change TailG Try.f37 _ 0 _ w
  refine tailG_step rfl ?_
  intro K hK
  go_wp2_with fail
  refine Met.intro (tailG_last (c := .seq _ .ret) rfl ?_)
  try clear hK
  try clear K
  
  go_wp2_with fail
  refine (swrite_dead g n h ls ps left sa sc pa pn pc w HS.out 0 ⟨(q : Int), 0, 0, 0, 0, 0, 0, 0⟩ HM.out).mono ?_
  rintro e w2 ⟨rfl, E2⟩
  go_wp2_with fail
  exact bodyPost_ret (v := .iface 35 (.int .i64 4)) (by simp [results, Try.results37, go_sem]) rfl ⟨rfl, E2⟩


end Go.Proofs.Ytfbmaemnbolplaa

/-
  Stores: the numbers written (a literal of Commit).
-/
namespace Go.Proofs.Ytfbmaemnbolplaa
open Go.RowKit

set_option maxHeartbeats 16000000 in
set_option maxRecDepth 100000 in
theorem cl2_ok (p4 p14 p6 p7 : Nat) (g n h : Nat) (ls : List B8) (ps : List Pt) (left : Int) (sa : Option Addr) (sc : Nat) (pa : Option Addr) (pn pc : Nat) (w : World) (hs : StW w g n h ls ps left sa sc pa pn pc) (q : Nat) (hq : q ≤ 1) (a b : Int) (ha0 : 0 ≤ a) (ha1 : a ≤ 2147483647) (hb0 : 0 ≤ b) (hb1 : b ≤ 2147483647) (hm : Mx.dwrite (Mx.sz n) ps left ((Mx.npl n q : Nat) : Int) = 0)
    (c4 : w.cell? ⟨p4, 0, none⟩ = some (.pointer (some ⟨g, 0, none⟩))) (c14 : w.cell? ⟨p14, 0, none⟩ = some (.int .i64 (q : Int))) (c6 : w.cell? ⟨p6, 0, none⟩ = some (.int .i64 a)) (c7 : w.cell? ⟨p7, 0, none⟩ = some (.int .i64 b)) (hp4 : p4 < w.heap.size) (hp14 : p14 < w.heap.size) (hp6 : p6 < w.heap.size) (hp7 : p7 < w.heap.size) (n4 : p4 ≠ g) (n14 : p14 ≠ g) (n6 : p6 ≠ g) (n7 : p7 ≠ g) :
    Calls Try.prog 32 #[.pointer (some ⟨p4, 0, none⟩), .pointer (some ⟨p14, 0, none⟩), .pointer (some ⟨p6, 0, none⟩), .pointer (some ⟨p7, 0, none⟩)] w fun e w' => ∃ a1 c1 a2 c2, e = .returned .nilIface ∧ Hid (StW w' g n h ls (ps ++ [⟨((Mx.npl n q : Nat) : Int), Mx.numsB a b⟩]) (Mx.less left) a1 c1 a2 (pn + 1) c2) ∧ Hid (w.grownBy w' (some g)) := by
  have HM := hide hm
  clear hm
  have HH := hide hs
  have hn2 := hs.n2
  have x0 := hs.bx.cells.1
  have hgw : g < w.heap.size := hs.bx.lt
  clear hs
  obtain ⟨P, hP⟩ : ∃ P : Nat, Hid (P = Mx.npl n q) := ⟨_, rfl⟩
  obtain ⟨x, hx⟩ : ∃ x : B8, Hid (x = Mx.numsB a b) := ⟨_, rfl⟩
  rw [← hP.out] at HM
  go_enter Try.func32, Try.ntmps32
  change TailG Try.f32 _ 0 _ w
  refine tailG_step rfl ?_
  intro K hK
  go_wp2_with fail
  refine Met.intro (tailG_last (c := .seq _ .ret) rfl ?_)
  try clear hK
  try clear K
  go_upto_region 1 with fail
  go_region_held3 (fun w' => w'.cell? ⟨g, 0, none⟩ = some (.int .i64 (n : Int)) ∧ w'.cell? ⟨p4, 0, none⟩ = some (.pointer (some ⟨g, 0, none⟩)) ∧ w'.cell? ⟨p14, 0, none⟩ = some (.int .i64 (q : Int)) ∧ w'.cell? ⟨p6, 0, none⟩ = some (.int .i64 a) ∧ w'.cell? ⟨p7, 0, none⟩ = some (.int .i64 b))
    (first
      | with_reducible exact ⟨x0, c4, c14, c6, c7⟩
      | (simp only [cell_drew]; with_reducible exact ⟨x0, c4, c14, c6, c7⟩)
      | with_reducible exact ⟨y0, d4, d14, d6, d7⟩
      | with_reducible exact ⟨z0, f4, f14, f6, f7⟩)
    (first
      | (go_at_call 34; refine (numbersPlace_any g n q _ (by first | exact x0 | (simp only [cell_drew]; exact x0)) hn2 hq).mono ?_; rintro e wz ⟨rfl, hz⟩; obtain rfl := hz.symm; clear hz; rw [← hP.out])
      | (go_at_call 35; (with_reducible refine (sblock_any a b w.drew ha0 ha1 hb0 hb1 x hx.out).mono ?_); rintro e w2 ⟨rfl, E2⟩; have D2 := hide (show Below w.heap.size w w2 from (Below.refl _ _).drew.trans E2); have H2 := hide (HH.out.later D2.out); have y0 := H2.out.bx.cells.1; have d4 := (D2.out.cell (p := ⟨p4, 0, none⟩) hp4).trans c4; have d14 := (D2.out.cell (p := ⟨p14, 0, none⟩) hp14).trans c14; have d6 := (D2.out.cell (p := ⟨p6, 0, none⟩) hp6).trans c6; have d7 := (D2.out.cell (p := ⟨p7, 0, none⟩) hp7).trans c7)
      | (go_at_call 33; (with_reducible refine (swrite_ok g n h ls ps left sa sc pa pn pc w2 H2.out (P : Int) x HM.out).mono ?_); rintro e w3 ⟨a3, c3, a5, c5, rfl, H3, G3⟩; have z0 := H3.out.bx.cells.1; have f4 := (G3.out.cell d4 (fun e => n4 (Option.some.inj e))); have f14 := (G3.out.cell d14 (fun e => n14 (Option.some.inj e))); have f6 := (G3.out.cell d6 (fun e => n6 (Option.some.inj e))); have f7 := (G3.out.cell d7 (fun e => n7 (Option.some.inj e)))))
  all_goals
    have GN := hide (show w.grownBy w3 (some g) from (below_grown D2.out _).trans G3.out)
    rw [hP.out, hx.out] at H3
    clear x0 c4 c14 c6 c7 y0 d4 d14 d6 d7 z0 f4 f14 f6 f7
    go_wp2_with fail
    exact bodyPost_ret (v := .nilIface) (by simp [results, Try.results32, go_sem]) rfl ⟨a3, c3, a5, c5, rfl, H3, GN⟩

set_option maxHeartbeats 16000000 in
set_option maxRecDepth 100000 in
theorem cl2_dead (p4 p14 p6 p7 : Nat) (g n h : Nat) (ls : List B8) (ps : List Pt) (left : Int) (sa : Option Addr) (sc : Nat) (pa : Option Addr) (pn pc : Nat) (w : World) (hs : StW w g n h ls ps left sa sc pa pn pc) (q : Nat) (hq : q ≤ 1) (a b : Int) (ha0 : 0 ≤ a) (ha1 : a ≤ 2147483647) (hb0 : 0 ≤ b) (hb1 : b ≤ 2147483647) (hm : Mx.dwrite (Mx.sz n) ps left ((Mx.npl n q : Nat) : Int) = 4)
    (c4 : w.cell? ⟨p4, 0, none⟩ = some (.pointer (some ⟨g, 0, none⟩))) (c14 : w.cell? ⟨p14, 0, none⟩ = some (.int .i64 (q : Int))) (c6 : w.cell? ⟨p6, 0, none⟩ = some (.int .i64 a)) (c7 : w.cell? ⟨p7, 0, none⟩ = some (.int .i64 b)) (hp4 : p4 < w.heap.size) (hp14 : p14 < w.heap.size) (hp6 : p6 < w.heap.size) (hp7 : p7 < w.heap.size) (n4 : p4 ≠ g) (n14 : p14 ≠ g) (n6 : p6 ≠ g) (n7 : p7 ≠ g) :
    Calls Try.prog 32 #[.pointer (some ⟨p4, 0, none⟩), .pointer (some ⟨p14, 0, none⟩), .pointer (some ⟨p6, 0, none⟩), .pointer (some ⟨p7, 0, none⟩)] w (Dead4 w) := by
  have HM := hide hm
  clear hm
  have HH := hide hs
  have hn2 := hs.n2
  have x0 := hs.bx.cells.1
  have hgw : g < w.heap.size := hs.bx.lt
  clear hs
  obtain ⟨P, hP⟩ : ∃ P : Nat, Hid (P = Mx.npl n q) := ⟨_, rfl⟩
  obtain ⟨x, hx⟩ : ∃ x : B8, Hid (x = Mx.numsB a b) := ⟨_, rfl⟩
  rw [← hP.out] at HM
  go_enter Try.func32, Try.ntmps32
  change TailG Try.f32 _ 0 _ w
  refine tailG_step rfl ?_
  intro K hK
  go_wp2_with fail
  refine Met.intro (tailG_last (c := .seq _ .ret) rfl ?_)
  try clear hK
  try clear K
  go_upto_region 1 with fail
  go_region_held3 (fun w' => w'.cell? ⟨g, 0, none⟩ = some (.int .i64 (n : Int)) ∧ w'.cell? ⟨p4, 0, none⟩ = some (.pointer (some ⟨g, 0, none⟩)) ∧ w'.cell? ⟨p14, 0, none⟩ = some (.int .i64 (q : Int)) ∧ w'.cell? ⟨p6, 0, none⟩ = some (.int .i64 a) ∧ w'.cell? ⟨p7, 0, none⟩ = some (.int .i64 b))
    (first
      | with_reducible exact ⟨x0, c4, c14, c6, c7⟩
      | (simp only [cell_drew]; with_reducible exact ⟨x0, c4, c14, c6, c7⟩)
      | with_reducible exact ⟨y0, d4, d14, d6, d7⟩
      | with_reducible exact ⟨z0, f4, f14, f6, f7⟩)
    (first
      | (go_at_call 34; refine (numbersPlace_any g n q _ (by first | exact x0 | (simp only [cell_drew]; exact x0)) hn2 hq).mono ?_; rintro e wz ⟨rfl, hz⟩; obtain rfl := hz.symm; clear hz; rw [← hP.out])
      | (go_at_call 35; (with_reducible refine (sblock_any a b w.drew ha0 ha1 hb0 hb1 x hx.out).mono ?_); rintro e w2 ⟨rfl, E2⟩; have D2 := hide (show Below w.heap.size w w2 from (Below.refl _ _).drew.trans E2); have H2 := hide (HH.out.later D2.out); have y0 := H2.out.bx.cells.1; have d4 := (D2.out.cell (p := ⟨p4, 0, none⟩) hp4).trans c4; have d14 := (D2.out.cell (p := ⟨p14, 0, none⟩) hp14).trans c14; have d6 := (D2.out.cell (p := ⟨p6, 0, none⟩) hp6).trans c6; have d7 := (D2.out.cell (p := ⟨p7, 0, none⟩) hp7).trans c7)
      | (go_at_call 33; (with_reducible refine (swrite_dead g n h ls ps left sa sc pa pn pc w2 H2.out (P : Int) x HM.out).mono ?_); rintro e w3 ⟨rfl, E3⟩; have G3 := hide (below_grown E3 (some g)); have z0 := (H2.out.later E3).bx.cells.1; have f4 := (G3.out.cell d4 (fun e => n4 (Option.some.inj e))); have f14 := (G3.out.cell d14 (fun e => n14 (Option.some.inj e))); have f6 := (G3.out.cell d6 (fun e => n6 (Option.some.inj e))); have f7 := (G3.out.cell d7 (fun e => n7 (Option.some.inj e)))))
  all_goals
    have DN := hide (show Below w.heap.size w w3 from D2.out.trans (E3.mono D2.out.size))
    clear x0 c4 c14 c6 c7 y0 d4 d14 d6 d7 z0 f4 f14 f6 f7
    go_wp2_with fail
    exact bodyPost_ret (v := .iface 35 (.int .i64 4)) (by simp [results, Try.results32, go_sem]) rfl ⟨rfl, DN.out⟩


end Go.Proofs.Ytfbmaemnbolplaa

/-
  Stores: is a commit allowed (checkCommit).
-/
namespace Go.Proofs.Ytfbmaemnbolplaa
open Go.RowKit

set_option maxHeartbeats 16000000 in
set_option maxRecDepth 100000 in
theorem scc_long (g n h : Nat) (ls : List B8) (ps : List Pt) (left : Int) (sa : Option Addr) (sc : Nat) (pa : Option Addr) (pn pc : Nat) (w : World) (hs : StW w g n h ls ps left sa sc pa pn pc) (ua : Option Addr) (un uc : Nat) (a b : Int) (hun : n < un) :
    Calls Try.prog 28 #[.pointer (some ⟨g, 0, none⟩), .slice ua un uc, .int .i64 a, .int .i64 b] w fun e w' => e = .returned (.iface 35 (.int .i64 2)) ∧ w' = w := by
  have hui : (n : Int) < un := by omega
  have HH := hide hs
  have hn1 := hs.n1
  have hn2 := hs.n2
  have hgw : g < w.heap.size := Bx.lt hs.bx
  have x0 := hs.bx.cells.1
  clear hs
  go_enter Try.func28, Try.ntmps28
  change TailG Try.f28 _ 0 _ w
  refine tailG_step rfl ?_
  intro K hK
  go_wp2_with fail
  refine Met.intro (tailG_step rfl ?_)
  try clear hK
  try clear K
  intro K hK
  go_wp2_with fail
  refine (scheck_ok g n w x0 hn1).mono ?_
  rintro e wz ⟨rfl, hz⟩
  obtain rfl := hz.symm
  clear hz
  go_wp2_with fail
  refine Met.intro (tailG_step rfl ?_)
  try clear hK
  try clear K
  intro K hK
  go_wp2_with fail
  exact bodyPost_ret (v := .iface 35 (.int .i64 2)) (by simp [results, Try.results28, go_sem]) rfl ⟨rfl, rfl⟩

set_option maxHeartbeats 16000000 in
set_option maxRecDepth 100000 in
theorem scc_num (g n h : Nat) (ls : List B8) (ps : List Pt) (left : Int) (sa : Option Addr) (sc : Nat) (pa : Option Addr) (pn pc : Nat) (w : World) (hs : StW w g n h ls ps left sa sc pa pn pc) (ua : Option Addr) (un uc : Nat) (a b : Int) (hun : un ≤ n) (hab : min a b < 0 ∨ 2147483647 < max a b) :
    Calls Try.prog 28 #[.pointer (some ⟨g, 0, none⟩), .slice ua un uc, .int .i64 a, .int .i64 b] w fun e w' => e = .returned (.iface 35 (.int .i64 1)) ∧ w' = w := by
  have hui : ¬ (n : Int) < un := by omega
  have HAB := hide hab
  clear hab
  have HH := hide hs
  have hn1 := hs.n1
  have hn2 := hs.n2
  have hgw : g < w.heap.size := Bx.lt hs.bx
  have x0 := hs.bx.cells.1
  clear hs
  go_enter Try.func28, Try.ntmps28
  change TailG Try.f28 _ 0 _ w
  refine tailG_step rfl ?_
  intro K hK
  go_wp2_with fail
  refine Met.intro (tailG_step rfl ?_)
  try clear hK
  try clear K
  intro K hK
  go_wp2_with fail
  refine (scheck_ok g n w x0 hn1).mono ?_
  rintro e wz ⟨rfl, hz⟩
  obtain rfl := hz.symm
  clear hz
  go_wp2_with fail
  refine Met.intro (tailG_step rfl ?_)
  try clear hK
  try clear K
  intro K hK
  go_wp2_with fail
  refine Met.intro (tailG_step rfl ?_)
  try clear hK
  try clear K
  intro K hK
  go_wp2_with fail
  all_goals first
    | exact bodyPost_ret (v := .iface 35 (.int .i64 1)) (by simp [results, Try.results28, go_sem]) rfl ⟨rfl, rfl⟩
    | (exfalso; have h9 := HAB.out; omega)

/-- checkCommit's answer of the puts -/
def Mx.ccV (n : Nat) (us : List Pt) : Value := if us.all (fun p => Mx.inside n p.at_) = true then .nilIface else .iface 35 (.int .i64 1)
theorem Mx.ccV_out {n : Nat} {us : List Pt} {k : Nat} {p : Pt} (hk : us[k]? = some p) (hp : Mx.inside n p.at_ = false) : Mx.ccV n us = .iface 35 (.int .i64 1) := by
  unfold Mx.ccV
  rw [if_neg]
  intro h
  rw [List.all_eq_true] at h
  have h1 := h p (List.mem_of_getElem? hk)
  rw [hp] at h1
  cases h1
theorem Mx.ccV_in {n : Nat} {us : List Pt} (h : ∀ (i : Nat) (p : Pt), us[i]? = some p → Mx.inside n p.at_ = true) : Mx.ccV n us = .nilIface := by
  unfold Mx.ccV
  rw [if_pos]
  rw [List.all_eq_true]
  intro p hp
  obtain ⟨i, hi⟩ := List.getElem?_of_mem hp
  exact h i p hi

set_option maxHeartbeats 16000000 in
set_option maxRecDepth 100000 in
theorem scc_puts (g n h : Nat) (ls : List B8) (ps : List Pt) (left : Int) (sa : Option Addr) (sc : Nat) (pa : Option Addr) (pn pc : Nat) (w : World) (hs : StW w g n h ls ps left sa sc pa pn pc) (ua : Option Addr) (un uc : Nat) (us : List Pt) (hu : PL w ua un us) (a b : Int) (hun : un ≤ n) (ha0 : 0 ≤ a) (ha1 : a ≤ 2147483647) (hb0 : 0 ≤ b) (hb1 : b ≤ 2147483647) :
    Calls Try.prog 28 #[.pointer (some ⟨g, 0, none⟩), .slice ua un uc, .int .i64 a, .int .i64 b] w fun e w' => e = .returned (Mx.ccV n us) ∧ Hid (Below w.heap.size w w') := by
  have hui : ¬ (n : Int) < un := by omega
  have HU := hide hu
  clear hu
  have HH := hide hs
  have hn1 := hs.n1
  have hn2 := hs.n2
  have hgw : g < w.heap.size := Bx.lt hs.bx
  have x0 := hs.bx.cells.1
  clear hs
  go_enter Try.func28, Try.ntmps28
  change TailG Try.f28 _ 0 _ w
  refine tailG_step rfl ?_
  intro K hK
  go_wp2_with fail
  refine Met.intro (tailG_step rfl ?_)
  try clear hK
  try clear K
  intro K hK
  go_wp2_with fail
  refine (scheck_ok g n w x0 hn1).mono ?_
  rintro e wz ⟨rfl, hz⟩
  obtain rfl := hz.symm
  clear hz
  go_wp2_with fail
  refine Met.intro (tailG_step rfl ?_)
  try clear hK
  try clear K
  intro K hK
  go_wp2_with fail
  refine Met.intro (tailG_step rfl ?_)
  try clear hK
  try clear K
  intro K hK
  have e1 : decide (a < 0) = false := by simp; omega
  have e2 : decide (b < 0) = false := by simp; omega
  have e3 : decide (2147483647 < a) = false := by simp; omega
  have e4 : decide (2147483647 < b) = false := by simp; omega
  go_wp2_with fail
  all_goals first
    | (exfalso; omega)
    | skip
  all_goals
    refine Met.intro (tailG_step rfl ?_)
    try clear hK
    try clear K
    intro K hK
    go_wp2_with fail
    go_loopw [38] (fun t wr => ∃ k : Nat, t = .int .i64 (k : Int) ∧ k ≤ un ∧ Hid (∀ (i : Nat) (p : Pt), i < k → us[i]? = some p → Mx.inside n p.at_ = true) ∧ Hid (Below w.heap.size w wr)) (fun t _ => un - (intOf t).toNat)
    case atStart => exact ⟨0, rfl, by omega, fun i p hi _ => absurd hi (by omega), Below.refl _ _⟩
    case round =>
      obtain ⟨k, rfl, hk, hI, hB⟩ := hrel
      by_cases hku : k < un
      · have hki : (k : Int) < un := by omega
        obtain ⟨bb, off, p, hba, hbw, hp, c0, c1, c2, c3, c4, c5, c6, c7, c8⟩ := (HU.out.later hB.out).at_ k hku
        subst hba
        have HP := hide hp
        clear hp
        have H1 := hide (HH.out.later hB.out)
        have y0 := H1.out.bx.cells.1
        have hgr : g < wr.heap.size := H1.out.bx.lt
        obtain ⟨W1, hW1⟩ : ∃ W1 : World, Hid (W1 = wr.alloc (.cells #[.int .i64 p.at_, .int .u8 p.d.z0, .int .u8 p.d.z1, .int .u8 p.d.z2, .int .u8 p.d.z3, .int .u8 p.d.z4, .int .u8 p.d.z5, .int .u8 p.d.z6, .int .u8 p.d.z7] 40)) := ⟨_, rfl⟩
        have D1 := hide (show Below w.heap.size w W1 by rw [hW1.out]; exact hB.out.alloc hB.out.size _)
        have z0 := (HH.out.later D1.out).bx.cells.1
        go_wp2_with fail
        rw [← hW1.out]
        refine (shas_any g n p.at_ W1 z0).mono ?_
        rintro e wz ⟨rfl, hz⟩
        obtain rfl := hz.symm
        clear hz c0 c1 c2 c3 c4 c5 c6 c7 c8
        by_cases hin : Mx.inside n p.at_ = true
        · have HN := hide (show ∀ (i : Nat) (p' : Pt), i < k + 1 → us[i]? = some p' → Mx.inside n p'.at_ = true from fun i p' hi hp' => by
            by_cases he : i = k
            · subst he
              rw [HP.out] at hp'
              cases hp'
              exact hin
            · exact hI.out i p' (by omega) hp')
          rw [hin]
          go_wp2_with fail
          exact ⟨⟨k + 1, by go_num, by omega, HN, D1⟩, by simp [intOf]; omega⟩
        · have hinf : Mx.inside n p.at_ = false := by simpa using hin
          have HV := hide (Mx.ccV_out HP.out hinf)
          rw [hinf]
          go_wp2_with fail
          exact bodyPost_ret (v := .iface 35 (.int .i64 1)) (by simp [results, Try.results28, go_sem]) rfl ⟨by rw [HV.out], D1⟩
      · have hkk : k = un := by omega
        subst hkk
        go_wp2_with fail
        refine Met.intro (tailG_last (c := .seq _ .ret) rfl ?_)
        try clear hK
        try clear K
        go_wp2_with fail
        exact bodyPost_ret (v := .nilIface) (by simp [results, Try.results28, go_sem]) rfl ⟨by rw [Mx.ccV_in (fun i p hi => hI.out i p (by have h9 := (List.getElem?_eq_some_iff.1 hi).1; have h8 := HU.out.1; omega) hi)], hB⟩


end Go.Proofs.Ytfbmaemnbolplaa

/-
  Stores: steps, one by one (do).
-/
namespace Go.Proofs.Ytfbmaemnbolplaa
open Go.RowKit

set_option maxHeartbeats 16000000 in
set_option maxRecDepth 100000 in
theorem sdo_any (r : Nat) (w : World) (I : Nat → World → Prop) (B : World → Prop) (h0 : I 0 w)
    (hI : ∀ (k : Nat) (w' : World), k < 6 → I k w' → ∃ fn rc cp, w'.cell? ⟨r, k, none⟩ = some (.func (.func fn) rc cp) ∧ (∀ (xs : Array Value) (W : World), (callFunc fn xs).run Try.prog W = .ok (.enter fn xs) W) ∧ Calls Try.prog fn (rc ++ cp) w' (fun e w'' => (e = .returned .nilIface ∧ I (k + 1) w'') ∨ (e = .returned (.iface 35 (.int .i64 4)) ∧ B w''))) :
    Calls Try.prog 29 #[.slice (some ⟨r, 0, none⟩) 6 6] w fun e w' => (e = .returned .nilIface ∧ I 6 w') ∨ (e = .returned (.iface 35 (.int .i64 4)) ∧ B w') := by
  have HI := hide hI
  have H0 := hide h0
  clear hI h0
  go_enter Try.func29, Try.ntmps29
  change TailG Try.f29 _ 0 _ w
  refine tailG_step rfl ?_
  intro K hK
  go_wp2_with fail
  refine Met.intro (tailG_step rfl ?_)
  try clear hK
  try clear K
  intro K hK
  go_wp2_with fail
  go_loopw [8] (fun t wr => ∃ k : Nat, t = .int .i64 (k : Int) ∧ k ≤ 6 ∧ Hid (I k wr)) (fun t _ => 6 - (intOf t).toNat)
  case atStart => exact ⟨0, rfl, by omega, H0⟩
  case round =>
    obtain ⟨k, rfl, hk, hJ⟩ := hrel
    by_cases hk6 : k < 6
    · obtain ⟨fn, rc, cp, hc, hcf, hC⟩ := HI.out k wr hk6 hJ.out
      have HC := hide hC
      clear hC
      have hki : (k : Int) < 6 := by omega
      go_wp2_with fail
      refine HC.out.mono ?_
      rintro e w2 (⟨rfl, hN⟩ | ⟨rfl, hN⟩)
      · have HN := hide hN
        clear hN
        go_wp2_with fail
        exact ⟨⟨k + 1, by go_num, by omega, HN⟩, by simp [intOf]; omega⟩
      · have HN := hide hN
        clear hN
        go_wp2_with fail
        exact bodyPost_ret (v := .iface 35 (.int .i64 4)) (by simp [results, Try.results29, go_sem]) rfl (.inr ⟨rfl, HN.out⟩)
    · obtain rfl : k = 6 := by omega
      go_wp2_with fail
      refine Met.intro (tailG_last (c := .seq _ .ret) rfl ?_)
      try clear hK
      try clear K
      go_wp2_with fail
      exact bodyPost_ret (v := .nilIface) (by simp [results, Try.results29, go_sem]) rfl (.inl ⟨rfl, hJ.out⟩)


end Go.Proofs.Ytfbmaemnbolplaa

/-
  Stores: the six steps of a commit.
-/
namespace Go.Proofs.Ytfbmaemnbolplaa
open Go.RowKit

/-- what a commit that died leaves -/
def Mx.CDead (n q : Nat) (ls bl : List B8) (a b : Int) (ls' : List B8) (ps' : List Pt) : Prop :=
  (ls' = ls ∧ ((∃ m, m ≤ n ∧ ps' = Mx.fillP n q bl m) ∨ ps' = Mx.newP n q bl a b)) ∨ (ls' = Mx.flushed ls (Mx.newP n q bl a b) ∧ (ps' = [] ∨ ps' = [Mx.markP q]))
theorem Mx.newP_len (n q : Nat) (bl : List B8) (a b : Int) : (Mx.newP n q bl a b).length = n + 1 := by unfold Mx.newP; rw [List.length_append, Mx.fillP_len]; rfl
theorem Mx.newP_in {n q : Nat} {bl : List B8} {a b : Int} (hq : q ≤ 1) : ∀ p ∈ Mx.newP n q bl a b, 0 ≤ p.at_ ∧ p.at_ < (Mx.sz n : Int) := fun p hp => by
  rcases Mx.newP_at hp with ⟨i, hi, e⟩ | e
  · have h1 := Mx.bpl_lt hq hi
    omega
  · have h1 := Mx.npl_lt (n := n) hq
    omega
theorem Mx.dmay_new {n q : Nat} {bl : List B8} {a b : Int} (hn : n ≤ 32) (hq : q ≤ 1) : Mx.dmay (Mx.sz n) (Mx.newP n q bl a b) = 0 := Mx.dmay_in hn (by rw [Mx.newP_len]; omega) (Mx.newP_in hq)
theorem Mx.dmay_mark {n q : Nat} (hn : n ≤ 32) : Mx.dmay (Mx.sz n) [Mx.markP q] = 0 := Mx.dmay_in hn (by simp) (fun p hp => by
  simp at hp
  subst hp
  refine ⟨Int.le_refl 0, ?_⟩
  show (0 : Int) < _
  unfold Mx.sz
  omega)
theorem Mx.dflush_live {N : Nat} {ps : List Pt} {left : Int} (hm : Mx.dmay N ps = 0) (hl : left ≠ 0) : Mx.dflush N ps left = 0 := by unfold Mx.dflush; rw [if_pos hm, if_neg hl]

/-- a store as it is behind so many steps -/
def Sst (w0 : World) (g n h : Nat) (ls : List B8) (ps : List Pt) (left : Int) (L : Nat) (w : World) : Prop :=
  ∃ a1 c1 a2 pn c2, StW w g n h ls ps (Mx.lessK left L) a1 c1 a2 pn c2 ∧ w0.grownBy w (some g) ∧ (left < 0 ∨ (L : Int) ≤ left)
/-- a store whose commit died -/
def Sdd (w0 : World) (g n h q : Nat) (ls bl : List B8) (a b left : Int) (w : World) : Prop :=
  ∃ ls' ps' a1 c1 a2 pn c2, StW w g n h ls' ps' 0 a1 c1 a2 pn c2 ∧ w0.grownBy w (some g) ∧ Mx.CDead n q ls bl a b ls' ps' ∧ 0 ≤ left

/-- the row of steps, and what they captured -/
structure Cmt (w0 : World) (r g n h q : Nat) (p4 p6 p7 p10 p14 : Nat) (ba : Option Addr) (bc : Nat) (bl : List B8) (a b : Int) : Prop where
  r0 : w0.cell? ⟨r, 0, none⟩ = some (.func (.func 30) #[] #[.pointer (some ⟨p4, 0, none⟩), .pointer (some ⟨p14, 0, none⟩), .pointer (some ⟨p10, 0, none⟩)])
  r1 : w0.cell? ⟨r, 1, none⟩ = some (.func (.func 32) #[] #[.pointer (some ⟨p4, 0, none⟩), .pointer (some ⟨p14, 0, none⟩), .pointer (some ⟨p6, 0, none⟩), .pointer (some ⟨p7, 0, none⟩)])
  r2 : w0.cell? ⟨r, 2, none⟩ = some (.func (.func 36) #[.pointer (some ⟨g, 0, none⟩)] #[])
  r3 : w0.cell? ⟨r, 3, none⟩ = some (.func (.func 37) #[] #[.pointer (some ⟨p4, 0, none⟩), .pointer (some ⟨p14, 0, none⟩)])
  r4 : w0.cell? ⟨r, 4, none⟩ = some (.func (.func 36) #[.pointer (some ⟨g, 0, none⟩)] #[])
  r5 : w0.cell? ⟨r, 5, none⟩ = some (.func (.func 38) #[] #[.pointer (some ⟨p14, 0, none⟩), .pointer (some ⟨p4, 0, none⟩)])
  c4 : w0.cell? ⟨p4, 0, none⟩ = some (.pointer (some ⟨g, 0, none⟩))
  c6 : w0.cell? ⟨p6, 0, none⟩ = some (.int .i64 a)
  c7 : w0.cell? ⟨p7, 0, none⟩ = some (.int .i64 b)
  c10 : w0.cell? ⟨p10, 0, none⟩ = some (.slice ba n bc)
  c14 : w0.cell? ⟨p14, 0, none⟩ = some (.int .i64 (q : Int))
  rg : r ≠ g
  n4 : p4 ≠ g
  n6 : p6 ≠ g
  n7 : p7 ≠ g
  n10 : p10 ≠ g
  n14 : p14 ≠ g
  l4 : p4 < w0.heap.size
  l6 : p6 < w0.heap.size
  l7 : p7 < w0.heap.size
  l14 : p14 < w0.heap.size
  hb : BL w0 ba n bl
  hbg : 0 < n → ∀ p, ba = some p → p.block ≠ g
  hq : q ≤ 1
  ha0 : 0 ≤ a
  ha1 : a ≤ 2147483647
  hb0 : 0 ≤ b
  hb1 : b ≤ 2147483647

/-- the store behind each step -/
def Mx.CI (w0 : World) (g n h q : Nat) (ls bl : List B8) (a b left : Int) (k : Nat) : World → Prop :=
  match k with
  | 0 => Sst w0 g n h ls [] left 0
  | 1 => Sst w0 g n h ls (Mx.fillP n q bl n) left n
  | 2 => Sst w0 g n h ls (Mx.newP n q bl a b) left (n + 1)
  | 3 => Sst w0 g n h (Mx.flushed ls (Mx.newP n q bl a b)) [] left (n + 2)
  | 4 => Sst w0 g n h (Mx.flushed ls (Mx.newP n q bl a b)) [Mx.markP q] left (n + 3)
  | 5 => Sst w0 g n h (Mx.flushed (Mx.flushed ls (Mx.newP n q bl a b)) [Mx.markP q]) [] left (n + 4)
  | _ => Sst w0 g n q (Mx.flushed (Mx.flushed ls (Mx.newP n q bl a b)) [Mx.markP q]) [] left (n + 4)

section
variable {w0 : World} {r g n h q : Nat} {p4 p6 p7 p10 p14 : Nat} {ba : Option Addr} {bc : Nat} {ls bl : List B8} {a b left : Int}

theorem cstep0 (C : Cmt w0 r g n h q p4 p6 p7 p10 p14 ba bc bl a b) (w : World) (hw : Mx.CI w0 g n h q ls bl a b left 0 w) :
    Calls Try.prog 30 #[.pointer (some ⟨p4, 0, none⟩), .pointer (some ⟨p14, 0, none⟩), .pointer (some ⟨p10, 0, none⟩)] w (fun e w' => (e = .returned .nilIface ∧ Mx.CI w0 g n h q ls bl a b left 1 w') ∨ (e = .returned (.iface 35 (.int .i64 4)) ∧ Sdd w0 g n h q ls bl a b left w')) := by
  obtain ⟨a1, c1, a2, pn, c2, S0, G0, L0⟩ := hw
  rw [Mx.lessK_zero] at S0
  have hpn : pn = 0 := S0.pl.1.symm
  subst hpn
  obtain ⟨m, hm, hml, hmh⟩ : ∃ m : Nat, m ≤ n ∧ (m < n → left = (m : Int)) ∧ (left < 0 ∨ (m : Int) ≤ left) := by
    by_cases h0 : left < 0
    · exact ⟨n, Nat.le_refl _, fun hh => absurd hh (by omega), .inl h0⟩
    · by_cases h1 : (n : Int) ≤ left
      · exact ⟨n, Nat.le_refl _, fun hh => absurd hh (by omega), .inr h1⟩
      · exact ⟨left.toNat, by omega, fun _ => by omega, .inr (by omega)⟩
  refine (cl1_any p4 p14 p10 g n h ls left a1 c1 a2 c2 w S0 q C.hq ba bc bl (C.hb.grow1 G0 C.hbg) C.hbg m hm hml hmh (G0.cell C.c4 (fun e => C.n4 (Option.some.inj e))) (G0.cell C.c14 (fun e => C.n14 (Option.some.inj e))) (G0.cell C.c10 (fun e => C.n10 (Option.some.inj e)))).mono ?_
  rintro e w' ⟨x1, d1, x2, d2, rfl, H1, G1⟩
  by_cases hmn : m = n
  · subst hmn
    rw [Mx.fillE_all]
    exact .inl ⟨rfl, x1, d1, x2, m, d2, H1.out, G0.trans G1.out, hmh⟩
  · have hlt : m < n := by omega
    rw [Mx.fillE_less hlt]
    have hl := hml hlt
    have H2 := H1.out
    rw [hl, Mx.lessK_dead] at H2
    exact .inr ⟨rfl, ls, _, x1, d1, x2, m, d2, H2, G0.trans G1.out, .inl ⟨rfl, .inl ⟨m, hm, rfl⟩⟩, by omega⟩

theorem cstep1 (C : Cmt w0 r g n h q p4 p6 p7 p10 p14 ba bc bl a b) (w : World) (hw : Mx.CI w0 g n h q ls bl a b left 1 w) :
    Calls Try.prog 32 #[.pointer (some ⟨p4, 0, none⟩), .pointer (some ⟨p14, 0, none⟩), .pointer (some ⟨p6, 0, none⟩), .pointer (some ⟨p7, 0, none⟩)] w (fun e w' => (e = .returned .nilIface ∧ Mx.CI w0 g n h q ls bl a b left 2 w') ∨ (e = .returned (.iface 35 (.int .i64 4)) ∧ Sdd w0 g n h q ls bl a b left w')) := by
  obtain ⟨a1, c1, a2, pn, c2, S0, G0, L0⟩ := hw
  have hsz := G0.size
  have dm := Mx.dmay_fill (n := n) (q := q) (k := n) (bl := bl) S0.n2 C.hq (Nat.le_refl _)
  have lm : (Mx.fillP n q bl n).length ≤ 700 := by rw [Mx.fillP_len]; have := S0.n2; omega
  have e4 := G0.cell C.c4 (fun e => C.n4 (Option.some.inj e))
  have e14 := G0.cell C.c14 (fun e => C.n14 (Option.some.inj e))
  have e6 := G0.cell C.c6 (fun e => C.n6 (Option.some.inj e))
  have e7 := G0.cell C.c7 (fun e => C.n7 (Option.some.inj e))
  have l4 : p4 < w.heap.size := Nat.lt_of_lt_of_le C.l4 hsz
  have l6 : p6 < w.heap.size := Nat.lt_of_lt_of_le C.l6 hsz
  have l7 : p7 < w.heap.size := Nat.lt_of_lt_of_le C.l7 hsz
  have l14 : p14 < w.heap.size := Nat.lt_of_lt_of_le C.l14 hsz
  by_cases hv : left < 0 ∨ (n : Int) < left
  · refine (cl2_ok p4 p14 p6 p7 g n h ls _ _ a1 c1 a2 pn c2 w S0 q C.hq a b C.ha0 C.ha1 C.hb0 C.hb1 (Mx.dwrite_in dm (Mx.npl_lt C.hq) lm (Mx.lessK_live hv)) e4 e14 e6 e7 l4 l14 l6 l7 C.n4 C.n14 C.n6 C.n7).mono ?_
    rintro e w' ⟨x1, d1, x2, d2, rfl, H1, G1⟩
    have H2 := H1.out
    rw [Mx.lessK_next hv] at H2
    exact .inl ⟨rfl, x1, d1, x2, pn + 1, d2, H2, G0.trans G1.out, by omega⟩
  · have hl : left = (n : Int) := by omega
    rw [hl, Mx.lessK_dead] at S0
    refine (cl2_dead p4 p14 p6 p7 g n h ls _ _ a1 c1 a2 pn c2 w S0 q C.hq a b C.ha0 C.ha1 C.hb0 C.hb1 (Mx.dwrite_dead dm (Mx.npl_lt C.hq) lm rfl) e4 e14 e6 e7 l4 l14 l6 l7 C.n4 C.n14 C.n6 C.n7).mono ?_
    rintro e w' ⟨rfl, B1⟩
    exact .inr ⟨rfl, ls, _, a1, c1, a2, pn, c2, S0.later B1, G0.trans (below_grown B1 _), .inl ⟨rfl, .inl ⟨n, Nat.le_refl _, rfl⟩⟩, by omega⟩

theorem cstep2 (C : Cmt w0 r g n h q p4 p6 p7 p10 p14 ba bc bl a b) (w : World) (hw : Mx.CI w0 g n h q ls bl a b left 2 w) :
    Calls Try.prog 36 #[.pointer (some ⟨g, 0, none⟩)] w (fun e w' => (e = .returned .nilIface ∧ Mx.CI w0 g n h q ls bl a b left 3 w') ∨ (e = .returned (.iface 35 (.int .i64 4)) ∧ Sdd w0 g n h q ls bl a b left w')) := by
  obtain ⟨a1, c1, a2, pn, c2, S0, G0, L0⟩ := hw
  have dm := Mx.dmay_new (n := n) (q := q) (bl := bl) (a := a) (b := b) S0.n2 C.hq
  by_cases hv : left < 0 ∨ ((n + 1 : Nat) : Int) < left
  · refine (sflush_ok g n h ls _ _ a1 c1 a2 pn c2 w S0 (Mx.dflush_live dm (Mx.lessK_live hv))).mono ?_
    rintro e w' ⟨x1, d1, rfl, H1, G1⟩
    have H2 := H1.out
    rw [Mx.lessK_next hv] at H2
    exact .inl ⟨rfl, x1, d1, none, 0, 0, H2, G0.trans G1.out, by omega⟩
  · have hl : left = ((n + 1 : Nat) : Int) := by omega
    rw [hl, Mx.lessK_dead] at S0
    refine (sflush_dead g n h ls _ _ a1 c1 a2 pn c2 w S0 dm rfl).mono ?_
    rintro e w' ⟨rfl, B1⟩
    exact .inr ⟨rfl, ls, _, a1, c1, a2, pn, c2, S0.later B1, G0.trans (below_grown B1 _), .inl ⟨rfl, .inr rfl⟩, by omega⟩

theorem cstep3 (C : Cmt w0 r g n h q p4 p6 p7 p10 p14 ba bc bl a b) (w : World) (hw : Mx.CI w0 g n h q ls bl a b left 3 w) :
    Calls Try.prog 37 #[.pointer (some ⟨p4, 0, none⟩), .pointer (some ⟨p14, 0, none⟩)] w (fun e w' => (e = .returned .nilIface ∧ Mx.CI w0 g n h q ls bl a b left 4 w') ∨ (e = .returned (.iface 35 (.int .i64 4)) ∧ Sdd w0 g n h q ls bl a b left w')) := by
  obtain ⟨a1, c1, a2, pn, c2, S0, G0, L0⟩ := hw
  have dm := Mx.dmay_sz S0.n2
  have z0 : 0 < Mx.sz n := by unfold Mx.sz; omega
  have e4 := G0.cell C.c4 (fun e => C.n4 (Option.some.inj e))
  have e14 := G0.cell C.c14 (fun e => C.n14 (Option.some.inj e))
  by_cases hv : left < 0 ∨ ((n + 2 : Nat) : Int) < left
  · refine (cl3_ok p4 p14 g n h _ _ _ a1 c1 a2 pn c2 w S0 q C.hq (Mx.dwrite_in (at_ := 0) dm z0 (by simp) (Mx.lessK_live hv)) e4 e14).mono ?_
    rintro e w' ⟨x1, d1, x2, d2, rfl, H1, G1⟩
    have H2 := H1.out
    rw [Mx.lessK_next hv] at H2
    exact .inl ⟨rfl, x1, d1, x2, pn + 1, d2, H2, G0.trans G1.out, by omega⟩
  · have hl : left = ((n + 2 : Nat) : Int) := by omega
    rw [hl, Mx.lessK_dead] at S0
    refine (cl3_dead p4 p14 g n h _ _ _ a1 c1 a2 pn c2 w S0 q C.hq (Mx.dwrite_dead (at_ := 0) dm z0 (by simp) rfl) e4 e14).mono ?_
    rintro e w' ⟨rfl, B1⟩
    exact .inr ⟨rfl, _, _, a1, c1, a2, pn, c2, S0.later B1, G0.trans (below_grown B1 _), .inr ⟨rfl, .inl rfl⟩, by omega⟩

theorem cstep4 (_C : Cmt w0 r g n h q p4 p6 p7 p10 p14 ba bc bl a b) (w : World) (hw : Mx.CI w0 g n h q ls bl a b left 4 w) :
    Calls Try.prog 36 #[.pointer (some ⟨g, 0, none⟩)] w (fun e w' => (e = .returned .nilIface ∧ Mx.CI w0 g n h q ls bl a b left 5 w') ∨ (e = .returned (.iface 35 (.int .i64 4)) ∧ Sdd w0 g n h q ls bl a b left w')) := by
  obtain ⟨a1, c1, a2, pn, c2, S0, G0, L0⟩ := hw
  have dm := Mx.dmay_mark (n := n) (q := q) S0.n2
  by_cases hv : left < 0 ∨ ((n + 3 : Nat) : Int) < left
  · refine (sflush_ok g n h _ _ _ a1 c1 a2 pn c2 w S0 (Mx.dflush_live dm (Mx.lessK_live hv))).mono ?_
    rintro e w' ⟨x1, d1, rfl, H1, G1⟩
    have H2 := H1.out
    rw [Mx.lessK_next hv] at H2
    exact .inl ⟨rfl, x1, d1, none, 0, 0, H2, G0.trans G1.out, by omega⟩
  · have hl : left = ((n + 3 : Nat) : Int) := by omega
    rw [hl, Mx.lessK_dead] at S0
    refine (sflush_dead g n h _ _ _ a1 c1 a2 pn c2 w S0 dm rfl).mono ?_
    rintro e w' ⟨rfl, B1⟩
    exact .inr ⟨rfl, _, _, a1, c1, a2, pn, c2, S0.later B1, G0.trans (below_grown B1 _), .inr ⟨rfl, .inr rfl⟩, by omega⟩

theorem cstep5 (C : Cmt w0 r g n h q p4 p6 p7 p10 p14 ba bc bl a b) (w : World) (hw : Mx.CI w0 g n h q ls bl a b left 5 w) :
    Calls Try.prog 38 #[.pointer (some ⟨p14, 0, none⟩), .pointer (some ⟨p4, 0, none⟩)] w (fun e w' => (e = .returned .nilIface ∧ Mx.CI w0 g n h q ls bl a b left 6 w') ∨ (e = .returned (.iface 35 (.int .i64 4)) ∧ Sdd w0 g n h q ls bl a b left w')) := by
  obtain ⟨a1, c1, a2, pn, c2, S0, G0, L0⟩ := hw
  have e4 := G0.cell C.c4 (fun e => C.n4 (Option.some.inj e))
  have e14 := G0.cell C.c14 (fun e => C.n14 (Option.some.inj e))
  refine (cl4_any p4 p14 g n h _ _ _ a1 c1 a2 pn c2 w S0 q C.hq e4 e14).mono ?_
  rintro e w' ⟨rfl, H1, G1⟩
  exact .inl ⟨rfl, a1, c1, a2, pn, c2, H1.out, G0.trans G1.out, L0⟩

/-- the six steps of a commit -/
theorem csteps (C : Cmt w0 r g n h q p4 p6 p7 p10 p14 ba bc bl a b) (w : World) (hw : Mx.CI w0 g n h q ls bl a b left 0 w) :
    Calls Try.prog 29 #[.slice (some ⟨r, 0, none⟩) 6 6] w fun e w' => (e = .returned .nilIface ∧ Mx.CI w0 g n h q ls bl a b left 6 w') ∨ (e = .returned (.iface 35 (.int .i64 4)) ∧ Sdd w0 g n h q ls bl a b left w') := by
  refine sdo_any r w (Mx.CI w0 g n h q ls bl a b left) (Sdd w0 g n h q ls bl a b left) hw ?_
  intro k w' hk hw'
  have hG : w0.grownBy w' (some g) := by
    match k, hk, hw' with
    | 0, _, h => obtain ⟨_, _, _, _, _, _, G0, _⟩ := h; exact G0
    | 1, _, h => obtain ⟨_, _, _, _, _, _, G0, _⟩ := h; exact G0
    | 2, _, h => obtain ⟨_, _, _, _, _, _, G0, _⟩ := h; exact G0
    | 3, _, h => obtain ⟨_, _, _, _, _, _, G0, _⟩ := h; exact G0
    | 4, _, h => obtain ⟨_, _, _, _, _, _, G0, _⟩ := h; exact G0
    | 5, _, h => obtain ⟨_, _, _, _, _, _, G0, _⟩ := h; exact G0
  match k, hk, hw' with
  | 0, _, h => exact ⟨_, _, _, hG.cell C.r0 (fun e => C.rg (Option.some.inj e)), fun _ _ => by kernel_rfl, cstep0 C w' h⟩
  | 1, _, h => exact ⟨_, _, _, hG.cell C.r1 (fun e => C.rg (Option.some.inj e)), fun _ _ => by kernel_rfl, cstep1 C w' h⟩
  | 2, _, h => exact ⟨_, _, _, hG.cell C.r2 (fun e => C.rg (Option.some.inj e)), fun _ _ => by kernel_rfl, cstep2 C w' h⟩
  | 3, _, h => exact ⟨_, _, _, hG.cell C.r3 (fun e => C.rg (Option.some.inj e)), fun _ _ => by kernel_rfl, cstep3 C w' h⟩
  | 4, _, h => exact ⟨_, _, _, hG.cell C.r4 (fun e => C.rg (Option.some.inj e)), fun _ _ => by kernel_rfl, cstep4 C w' h⟩
  | 5, _, h => exact ⟨_, _, _, hG.cell C.r5 (fun e => C.rg (Option.some.inj e)), fun _ _ => by kernel_rfl, cstep5 C w' h⟩
end

end Go.Proofs.Ytfbmaemnbolplaa

/-
  Stores: a commit (Commit).
-/
namespace Go.Proofs.Ytfbmaemnbolplaa
open Go.RowKit

set_option maxHeartbeats 16000000 in
set_option maxRecDepth 100000 in
theorem scommit_long (g n h : Nat) (ls : List B8) (left : Int) (sa : Option Addr) (sc : Nat) (pa : Option Addr) (pc : Nat) (w : World) (hs : StW w g n h ls [] left sa sc pa 0 pc) (ua : Option Addr) (un uc : Nat) (a b : Int) (hun : n < un) :
    Calls Try.prog 11 #[.pointer (some ⟨g, 0, none⟩), .slice ua un uc, .int .i64 a, .int .i64 b] w fun e w' => e = .returned (.iface 35 (.int .i64 2)) ∧ Below w.heap.size w w' := by
  have HH := hide hs
  have hgw : g < w.heap.size := Bx.lt hs.bx
  clear hs
  obtain ⟨W0, hW0⟩ : ∃ W0 : World, Hid (W0 = ((w.alloc (.cells #[.pointer (some ⟨g, 0, none⟩)] 32)).alloc (.cells #[.int .i64 a] 3)).alloc (.cells #[.int .i64 b] 3)) := ⟨_, rfl⟩
  have Z0 := hide (show W0.heap.size = w.heap.size + 3 by rw [hW0.out]; simp)
  have D0 := hide (show Below w.heap.size w W0 by rw [hW0.out]; exact ((below_alloc _ _).alloc (below_alloc _ _).size _).alloc ((below_alloc _ _).alloc (below_alloc _ _).size _).size _)
  have X4 := hide (show Bx W0 w.heap.size #[.pointer (some ⟨g, 0, none⟩)] 32 by rw [hW0.out]; exact ((Bx.new w _ _).later (below_alloc _ _) (Bx.new w _ _).lt).later (below_alloc _ _) (by simp; omega))
  have X6 := hide (show Bx W0 (w.heap.size + 1) #[.int .i64 a] 3 by rw [hW0.out]; exact (show Bx _ (w.heap.size + 1) _ _ from by simpa using (Bx.new (w.alloc (.cells #[.pointer (some ⟨g, 0, none⟩)] 32)) #[.int .i64 a] 3)).later (below_alloc _ _) (by simp))
  have X7 := hide (show Bx W0 (w.heap.size + 1 + 1) #[.int .i64 b] 3 by rw [hW0.out]; simpa using (Bx.new ((w.alloc (.cells #[.pointer (some ⟨g, 0, none⟩)] 32)).alloc (.cells #[.int .i64 a] 3)) #[.int .i64 b] 3))
  have H0 := hide (HH.out.later D0.out)
  go_enter Try.func11, Try.ntmps11
  change TailG Try.f11 _ 0 _ w
  refine tailG_step rfl ?_
  intro K hK
  go_wp2_with fail
  rw [← hW0.out]
  refine Met.intro (tailG_step rfl ?_)
  try clear hK
  try clear K
  intro K hK
  have x4 := X4.out.cell 0
  have x6 := X6.out.cell 0
  have x7 := X7.out.cell 0
  go_wp2_with fail
  refine (scc_long g n h ls [] left sa sc pa 0 pc W0 H0.out ua un uc a b hun).mono ?_
  rintro e wz ⟨rfl, hz⟩
  obtain rfl := hz.symm
  clear hz
  go_wp2_with fail
  exact bodyPost_ret (v := .iface 35 (.int .i64 2)) (by simp [results, Try.results11, go_sem]) rfl ⟨rfl, D0.out⟩

set_option maxHeartbeats 16000000 in
set_option maxRecDepth 100000 in
theorem scommit_num (g n h : Nat) (ls : List B8) (left : Int) (sa : Option Addr) (sc : Nat) (pa : Option Addr) (pc : Nat) (w : World) (hs : StW w g n h ls [] left sa sc pa 0 pc) (ua : Option Addr) (un uc : Nat) (a b : Int) (hun : un ≤ n) (hab : min a b < 0 ∨ 2147483647 < max a b) :
    Calls Try.prog 11 #[.pointer (some ⟨g, 0, none⟩), .slice ua un uc, .int .i64 a, .int .i64 b] w fun e w' => e = .returned (.iface 35 (.int .i64 1)) ∧ Below w.heap.size w w' := by
  have HH := hide hs
  have hgw : g < w.heap.size := Bx.lt hs.bx
  clear hs
  obtain ⟨W0, hW0⟩ : ∃ W0 : World, Hid (W0 = ((w.alloc (.cells #[.pointer (some ⟨g, 0, none⟩)] 32)).alloc (.cells #[.int .i64 a] 3)).alloc (.cells #[.int .i64 b] 3)) := ⟨_, rfl⟩
  have Z0 := hide (show W0.heap.size = w.heap.size + 3 by rw [hW0.out]; simp)
  have D0 := hide (show Below w.heap.size w W0 by rw [hW0.out]; exact ((below_alloc _ _).alloc (below_alloc _ _).size _).alloc ((below_alloc _ _).alloc (below_alloc _ _).size _).size _)
  have X4 := hide (show Bx W0 w.heap.size #[.pointer (some ⟨g, 0, none⟩)] 32 by rw [hW0.out]; exact ((Bx.new w _ _).later (below_alloc _ _) (Bx.new w _ _).lt).later (below_alloc _ _) (by simp; omega))
  have X6 := hide (show Bx W0 (w.heap.size + 1) #[.int .i64 a] 3 by rw [hW0.out]; exact (show Bx _ (w.heap.size + 1) _ _ from by simpa using (Bx.new (w.alloc (.cells #[.pointer (some ⟨g, 0, none⟩)] 32)) #[.int .i64 a] 3)).later (below_alloc _ _) (by simp))
  have X7 := hide (show Bx W0 (w.heap.size + 1 + 1) #[.int .i64 b] 3 by rw [hW0.out]; simpa using (Bx.new ((w.alloc (.cells #[.pointer (some ⟨g, 0, none⟩)] 32)).alloc (.cells #[.int .i64 a] 3)) #[.int .i64 b] 3))
  have H0 := hide (HH.out.later D0.out)
  go_enter Try.func11, Try.ntmps11
  change TailG Try.f11 _ 0 _ w
  refine tailG_step rfl ?_
  intro K hK
  go_wp2_with fail
  rw [← hW0.out]
  refine Met.intro (tailG_step rfl ?_)
  try clear hK
  try clear K
  intro K hK
  have x4 := X4.out.cell 0
  have x6 := X6.out.cell 0
  have x7 := X7.out.cell 0
  go_wp2_with fail
  refine (scc_num g n h ls [] left sa sc pa 0 pc W0 H0.out ua un uc a b hun hab).mono ?_
  rintro e wz ⟨rfl, hz⟩
  obtain rfl := hz.symm
  clear hz hab
  go_wp2_with fail
  exact bodyPost_ret (v := .iface 35 (.int .i64 1)) (by simp [results, Try.results11, go_sem]) rfl ⟨rfl, D0.out⟩

set_option maxHeartbeats 16000000 in
set_option maxRecDepth 100000 in
theorem scommit_out (g n h : Nat) (ls : List B8) (left : Int) (sa : Option Addr) (sc : Nat) (pa : Option Addr) (pc : Nat) (w : World) (hs : StW w g n h ls [] left sa sc pa 0 pc) (ua : Option Addr) (un uc : Nat) (us : List Pt) (hu : PL w ua un us) (a b : Int) (hun : un ≤ n) (ha0 : 0 ≤ a) (ha1 : a ≤ 2147483647) (hb0 : 0 ≤ b) (hb1 : b ≤ 2147483647) (hv : Mx.ccV n us = .iface 35 (.int .i64 1)) :
    Calls Try.prog 11 #[.pointer (some ⟨g, 0, none⟩), .slice ua un uc, .int .i64 a, .int .i64 b] w fun e w' => e = .returned (.iface 35 (.int .i64 1)) ∧ Below w.heap.size w w' := by
  have HH := hide hs
  have hgw : g < w.heap.size := Bx.lt hs.bx
  clear hs
  obtain ⟨W0, hW0⟩ : ∃ W0 : World, Hid (W0 = ((w.alloc (.cells #[.pointer (some ⟨g, 0, none⟩)] 32)).alloc (.cells #[.int .i64 a] 3)).alloc (.cells #[.int .i64 b] 3)) := ⟨_, rfl⟩
  have Z0 := hide (show W0.heap.size = w.heap.size + 3 by rw [hW0.out]; simp)
  have D0 := hide (show Below w.heap.size w W0 by rw [hW0.out]; exact ((below_alloc _ _).alloc (below_alloc _ _).size _).alloc ((below_alloc _ _).alloc (below_alloc _ _).size _).size _)
  have X4 := hide (show Bx W0 w.heap.size #[.pointer (some ⟨g, 0, none⟩)] 32 by rw [hW0.out]; exact ((Bx.new w _ _).later (below_alloc _ _) (Bx.new w _ _).lt).later (below_alloc _ _) (by simp; omega))
  have X6 := hide (show Bx W0 (w.heap.size + 1) #[.int .i64 a] 3 by rw [hW0.out]; exact (show Bx _ (w.heap.size + 1) _ _ from by simpa using (Bx.new (w.alloc (.cells #[.pointer (some ⟨g, 0, none⟩)] 32)) #[.int .i64 a] 3)).later (below_alloc _ _) (by simp))
  have X7 := hide (show Bx W0 (w.heap.size + 1 + 1) #[.int .i64 b] 3 by rw [hW0.out]; simpa using (Bx.new ((w.alloc (.cells #[.pointer (some ⟨g, 0, none⟩)] 32)).alloc (.cells #[.int .i64 a] 3)) #[.int .i64 b] 3))
  have H0 := hide (HH.out.later D0.out)
  go_enter Try.func11, Try.ntmps11
  change TailG Try.f11 _ 0 _ w
  refine tailG_step rfl ?_
  intro K hK
  go_wp2_with fail
  rw [← hW0.out]
  refine Met.intro (tailG_step rfl ?_)
  try clear hK
  try clear K
  intro K hK
  have x4 := X4.out.cell 0
  have x6 := X6.out.cell 0
  have x7 := X7.out.cell 0
  go_wp2_with fail
  refine (scc_puts g n h ls [] left sa sc pa 0 pc W0 H0.out ua un uc us (hu.later D0.out) a b hun ha0 ha1 hb0 hb1).mono ?_
  rintro e w1 ⟨rfl, E1⟩
  rw [hv]
  clear hv x4 x6 x7
  have D1 := hide (show Below w.heap.size w w1 from D0.out.trans (E1.out.mono D0.out.size))
  go_wp2_with fail
  exact bodyPost_ret (v := .iface 35 (.int .i64 1)) (by simp [results, Try.results11, go_sem]) rfl ⟨rfl, D1.out⟩

set_option maxHeartbeats 16000000 in
set_option maxRecDepth 100000 in
theorem scommit_dead0 (g n h : Nat) (ls : List B8) (left : Int) (sa : Option Addr) (sc : Nat) (pa : Option Addr) (pc : Nat) (w : World) (hs : StW w g n h ls [] left sa sc pa 0 pc) (ua : Option Addr) (un uc : Nat) (us : List Pt) (hu : PL w ua un us) (a b : Int) (hun : un ≤ n) (ha0 : 0 ≤ a) (ha1 : a ≤ 2147483647) (hb0 : 0 ≤ b) (hb1 : b ≤ 2147483647) (hv : Mx.ccV n us = .nilIface) (hl : left = 0) :
    Calls Try.prog 11 #[.pointer (some ⟨g, 0, none⟩), .slice ua un uc, .int .i64 a, .int .i64 b] w fun e w' => e = .returned (.iface 35 (.int .i64 4)) ∧ Below w.heap.size w w' := by
  have HH := hide hs
  have hgw : g < w.heap.size := Bx.lt hs.bx
  clear hs
  obtain ⟨W0, hW0⟩ : ∃ W0 : World, Hid (W0 = ((w.alloc (.cells #[.pointer (some ⟨g, 0, none⟩)] 32)).alloc (.cells #[.int .i64 a] 3)).alloc (.cells #[.int .i64 b] 3)) := ⟨_, rfl⟩
  have Z0 := hide (show W0.heap.size = w.heap.size + 3 by rw [hW0.out]; simp)
  have D0 := hide (show Below w.heap.size w W0 by rw [hW0.out]; exact ((below_alloc _ _).alloc (below_alloc _ _).size _).alloc ((below_alloc _ _).alloc (below_alloc _ _).size _).size _)
  have X4 := hide (show Bx W0 w.heap.size #[.pointer (some ⟨g, 0, none⟩)] 32 by rw [hW0.out]; exact ((Bx.new w _ _).later (below_alloc _ _) (Bx.new w _ _).lt).later (below_alloc _ _) (by simp; omega))
  have X6 := hide (show Bx W0 (w.heap.size + 1) #[.int .i64 a] 3 by rw [hW0.out]; exact (show Bx _ (w.heap.size + 1) _ _ from by simpa using (Bx.new (w.alloc (.cells #[.pointer (some ⟨g, 0, none⟩)] 32)) #[.int .i64 a] 3)).later (below_alloc _ _) (by simp))
  have X7 := hide (show Bx W0 (w.heap.size + 1 + 1) #[.int .i64 b] 3 by rw [hW0.out]; simpa using (Bx.new ((w.alloc (.cells #[.pointer (some ⟨g, 0, none⟩)] 32)).alloc (.cells #[.int .i64 a] 3)) #[.int .i64 b] 3))
  have H0 := hide (HH.out.later D0.out)
  go_enter Try.func11, Try.ntmps11
  change TailG Try.f11 _ 0 _ w
  refine tailG_step rfl ?_
  intro K hK
  go_wp2_with fail
  rw [← hW0.out]
  refine Met.intro (tailG_step rfl ?_)
  try clear hK
  try clear K
  intro K hK
  have x4 := X4.out.cell 0
  have x6 := X6.out.cell 0
  have x7 := X7.out.cell 0
  go_wp2_with fail
  refine (scc_puts g n h ls [] left sa sc pa 0 pc W0 H0.out ua un uc us (hu.later D0.out) a b hun ha0 ha1 hb0 hb1).mono ?_
  rintro e w1 ⟨rfl, E1⟩
  rw [hv]
  have D1 := hide (show Below w.heap.size w w1 from D0.out.trans (E1.out.mono D0.out.size))
  have HL := hide hl
  clear hv hl
  have H1 := hide (HH.out.later D1.out)
  have y4 := (X4.out.later E1.out X4.out.lt).cell 0
  clear x4 x6 x7
  go_wp2_with fail
  refine Met.intro (tailG_step rfl ?_)
  try clear hK
  try clear K
  intro K hK
  go_wp2_with fail
  refine (sall_dead g n h ls [] left sa sc pa 0 pc w1 H1.out rfl HL.out).mono ?_
  rintro e w2 ⟨rfl, E2⟩
  have D2 := hide (show Below w.heap.size w w2 from D1.out.trans (E2.mono D1.out.size))
  clear E2 y4
  go_wp2_with fail
  refine Met.intro (tailG_step rfl ?_)
  try clear hK
  try clear K
  intro K hK
  go_wp2_with fail
  exact bodyPost_ret (v := .iface 35 (.int .i64 4)) (by simp [results, Try.results11, go_sem]) rfl ⟨rfl, D2.out.alloc D2.out.size _⟩


end Go.Proofs.Ytfbmaemnbolplaa

/-
  Stores: a commit that goes its way (Commit).
-/
namespace Go.Proofs.Ytfbmaemnbolplaa
open Go.RowKit

theorem Mx.ccV_nil {n : Nat} {us : List Pt} (hv : Mx.ccV n us = .nilIface) : ∀ (k : Nat) (p : Pt), us[k]? = some p → 0 ≤ p.at_ ∧ p.at_ < (n : Int) := fun k p hk => by
  by_cases hi : Mx.inside n p.at_ = true
  · unfold Mx.inside at hi
    simpa using hi
  · rw [Mx.ccV_out hk (by simpa using hi)] at hv
    cases hv
theorem Sst.base {w w0 : World} {g n h : Nat} {ls : List B8} {ps : List Pt} {left : Int} {L : Nat} {w' : World} (hs : Sst w0 g n h ls ps left L w') (hg : w.grownBy w0 (some g)) : Sst w g n h ls ps left L w' := by
  obtain ⟨a1, c1, a2, pn, c2, S0, G0, L0⟩ := hs
  exact ⟨a1, c1, a2, pn, c2, S0, hg.trans G0, L0⟩
theorem Sdd.base {w w0 : World} {g n h q : Nat} {ls bl : List B8} {a b left : Int} {w' : World} (hs : Sdd w0 g n h q ls bl a b left w') (hg : w.grownBy w0 (some g)) : Sdd w g n h q ls bl a b left w' := by
  obtain ⟨l1, p1, a1, c1, a2, pn, c2, S0, G0, L0⟩ := hs
  exact ⟨l1, p1, a1, c1, a2, pn, c2, S0, hg.trans G0, L0⟩

set_option maxHeartbeats 16000000 in
set_option maxRecDepth 100000 in
theorem scommit_run (g n h : Nat) (ls : List B8) (left : Int) (sa : Option Addr) (sc : Nat) (pa : Option Addr) (pc : Nat) (w : World) (hs : StW w g n h ls [] left sa sc pa 0 pc) (ua : Option Addr) (un uc : Nat) (us : List Pt) (hu : PL w ua un us) (a b : Int) (hun : un ≤ n) (ha0 : 0 ≤ a) (ha1 : a ≤ 2147483647) (hb0 : 0 ≤ b) (hb1 : b ≤ 2147483647) (hv : Mx.ccV n us = .nilIface) (hl : left ≠ 0) :
    Calls Try.prog 11 #[.pointer (some ⟨g, 0, none⟩), .slice ua un uc, .int .i64 a, .int .i64 b] w fun e w' => (e = .returned .nilIface ∧ Mx.CI w g n h (1 - h) ls (Mx.flushed (Mx.vw n h ls) us) a b left 6 w') ∨ (e = .returned (.iface 35 (.int .i64 4)) ∧ Sdd w g n h (1 - h) ls (Mx.flushed (Mx.vw n h ls) us) a b left w') := by
  have HU := hide hu
  clear hu
  have HH := hide hs
  have hgw : g < w.heap.size := Bx.lt hs.bx
  clear hs
  obtain ⟨W0, hW0⟩ : ∃ W0 : World, Hid (W0 = ((w.alloc (.cells #[.pointer (some ⟨g, 0, none⟩)] 32)).alloc (.cells #[.int .i64 a] 3)).alloc (.cells #[.int .i64 b] 3)) := ⟨_, rfl⟩
  have Z0 := hide (show W0.heap.size = w.heap.size + 3 by rw [hW0.out]; simp)
  have D0 := hide (show Below w.heap.size w W0 by rw [hW0.out]; exact ((below_alloc _ _).alloc (below_alloc _ _).size _).alloc ((below_alloc _ _).alloc (below_alloc _ _).size _).size _)
  have X4 := hide (show Bx W0 w.heap.size #[.pointer (some ⟨g, 0, none⟩)] 32 by rw [hW0.out]; exact ((Bx.new w _ _).later (below_alloc _ _) (Bx.new w _ _).lt).later (below_alloc _ _) (by simp; omega))
  have X6 := hide (show Bx W0 (w.heap.size + 1) #[.int .i64 a] 3 by rw [hW0.out]; exact (show Bx _ (w.heap.size + 1) _ _ from by simpa using (Bx.new (w.alloc (.cells #[.pointer (some ⟨g, 0, none⟩)] 32)) #[.int .i64 a] 3)).later (below_alloc _ _) (by simp))
  have X7 := hide (show Bx W0 (w.heap.size + 1 + 1) #[.int .i64 b] 3 by rw [hW0.out]; simpa using (Bx.new ((w.alloc (.cells #[.pointer (some ⟨g, 0, none⟩)] 32)).alloc (.cells #[.int .i64 a] 3)) #[.int .i64 b] 3))
  have H0 := hide (HH.out.later D0.out)
  go_enter Try.func11, Try.ntmps11
  change TailG Try.f11 _ 0 _ w
  refine tailG_step rfl ?_
  intro K hK
  go_wp2_with fail
  rw [← hW0.out]
  refine Met.intro (tailG_step rfl ?_)
  try clear hK
  try clear K
  intro K hK
  have x4 := X4.out.cell 0
  have x6 := X6.out.cell 0
  have x7 := X7.out.cell 0
  go_wp2_with fail
  refine (scc_puts g n h ls [] left sa sc pa 0 pc W0 H0.out ua un uc us (HU.out.later D0.out) a b hun ha0 ha1 hb0 hb1).mono ?_
  rintro e w1 ⟨rfl, E1⟩
  have HV := hide hv
  rw [hv]
  have D1 := hide (show Below w.heap.size w w1 from D0.out.trans (E1.out.mono D0.out.size))
  have HL := hide hl
  clear hv hl
  have H1 := hide (HH.out.later D1.out)
  have y4 := (X4.out.later E1.out X4.out.lt).cell 0
  clear x4 x6 x7
  go_wp2_with fail
  refine Met.intro (tailG_step rfl ?_)
  try clear hK
  try clear K
  intro K hK
  go_wp2_with fail
  refine (sall_ok g n h ls [] left sa sc pa 0 pc w1 H1.out rfl HL.out).mono ?_
  rintro e w2 ⟨p, rfl, O2, E2⟩
  have D2 := hide (show Below w.heap.size w w2 from D1.out.trans (E2.mono D1.out.size))
  have F2 := hide (show Below W0.heap.size W0 w2 from E1.out.trans (E2.mono E1.out.size))
  have HO2 := hide O2
  have HE2 := hide E2
  clear O2 E2
  obtain ⟨W3, hW3⟩ : ∃ W3 : World, Hid (W3 = w2.alloc (.cells #[.slice (some ⟨p, 0, none⟩) n n] 27)) := ⟨_, rfl⟩
  clear y4
  go_wp2_with fail
  rw [← hW3.out]
  have hn1 := HH.out.n1
  have hn2 := HH.out.n2
  have hh1 := HH.out.h1
  have hp1 := hide HO2.out.fz.1
  have hp2 := hide HO2.out.fz.2.1
  have E3 := hide (show Below w1.heap.size w1 W3 by rw [hW3.out]; exact HE2.out.alloc HE2.out.size _)
  have O3 := hide (show OwnBL W3 w1.heap.size (.slice (some ⟨p, 0, none⟩) n n) (Mx.vw n h ls) by rw [hW3.out]; exact rowKept HO2.out (below_alloc _ _))
  have X10 := hide (show Bx W3 w2.heap.size #[.slice (some ⟨p, 0, none⟩) n n] 27 by rw [hW3.out]; exact Bx.new w2 _ _)
  have x10 := hide (X10.out.cell 0)
  have l10 := hide X10.out.lt
  have s1 := hide E1.out.size
  have s2 := hide HE2.out.size
  clear HO2 D2 F2
  refine Met.intro (tailG_step rfl ?_)
  try clear hK
  try clear K
  intro K hK
  go_wp2_with fail
  refine Met.intro (tailG_step rfl ?_)
  try clear hK
  try clear K
  intro K hK
  go_wp2_with fail
  go_loopw [33] (fun t wr => ∃ k : Nat, t = .int .i64 (k : Int) ∧ k ≤ un ∧ Hid (OwnBL wr w1.heap.size (.slice (some ⟨p, 0, none⟩) n n) (Mx.flushed (Mx.vw n h ls) (us.take k))) ∧ Hid (Below w1.heap.size w1 wr) ∧ Hid (wr.cell? ⟨w2.heap.size, 0, none⟩ = some (.slice (some ⟨p, 0, none⟩) n n)) ∧ Hid (w2.heap.size < wr.heap.size)) (fun t _ => un - (intOf t).toNat)
  case atStart => exact ⟨0, rfl, by omega, by rw [List.take_zero]; exact O3, E3, x10, l10⟩
  case round =>
    obtain ⟨k, rfl, hk, hO, hB, hC, hL⟩ := hrel
    have hD := hide (show Below w.heap.size w wr from D1.out.trans (hB.out.mono D1.out.size))
    by_cases hku : k < un
    · have hki : (k : Int) < un := by omega
      obtain ⟨bb, off, pt, hba, hbw, hp, c0, c1, c2, c3, c4, c5, c6, c7, c8⟩ := (HU.out.later hD.out).at_ k hku
      subst hba
      have HP := hide hp
      clear hp
      obtain ⟨i, hi⟩ : ∃ i : Nat, Hid (pt.at_ = (i : Int)) := ⟨pt.at_.toNat, by have h9 := Mx.ccV_nil HV.out k pt HP.out; unfold Hid; omega⟩
      have hin : i < n := by have h9 := Mx.ccV_nil HV.out k pt HP.out; have h8 := hi.out; omega
      rw [hi.out] at c0
      have hii : (i : Int) < n := by omega
      obtain ⟨W4, hW4⟩ : ∃ W4 : World, Hid (W4 = wr.alloc (.cells #[.int .i64 (i : Int), .int .u8 pt.d.z0, .int .u8 pt.d.z1, .int .u8 pt.d.z2, .int .u8 pt.d.z3, .int .u8 pt.d.z4, .int .u8 pt.d.z5, .int .u8 pt.d.z6, .int .u8 pt.d.z7] 40)) := ⟨_, rfl⟩
      have hC4 := (show W4.cell? ⟨w2.heap.size, 0, none⟩ = some (.slice (some ⟨p, 0, none⟩) n n) by rw [hW4.out, cell_alloc_lt hL.out]; exact hC.out)
      have X4p := hide (show Bx W4 wr.heap.size #[.int .i64 (i : Int), .int .u8 pt.d.z0, .int .u8 pt.d.z1, .int .u8 pt.d.z2, .int .u8 pt.d.z3, .int .u8 pt.d.z4, .int .u8 pt.d.z5, .int .u8 pt.d.z6, .int .u8 pt.d.z7] 40 by rw [hW4.out]; exact Bx.new wr _ _)
      have O4 := hide (show OwnBL W4 w1.heap.size (.slice (some ⟨p, 0, none⟩) n n) (Mx.flushed (Mx.vw n h ls) (us.take k)) by rw [hW4.out]; exact rowKept hO.out (below_alloc _ _))
      have B4 := hide (show Below w1.heap.size w1 W4 by rw [hW4.out]; exact hB.out.alloc hB.out.size _)
      obtain ⟨y, _, e0, e1, e2, e3, e4, e5, e6, e7⟩ := O4.out.at_ i hin
      have hfz := O4.out.fz.2.2
      have hln := hide (show (Mx.flushed (Mx.vw n h ls) (us.take k)).length = n by rw [Mx.flushed_len, Mx.vw_len])
      have O5 := hide (show OwnBL (set8 W4 p (i * 8) pt.d) w1.heap.size (.slice (some ⟨p, 0, none⟩) n n) (Mx.flushed (Mx.vw n h ls) (us.take (k + 1))) by
        have h9 := OwnBL.put O4.out i (by rw [hln.out]; exact hin) pt.d
        rw [Mx.flushed_snoc _ _ _ _ HP.out, hi.out, Int.toNat_natCast]
        exact h9)
      have B5 := hide (set8_below B4.out hp2.out (i * 8) pt.d)
      have hne : ¬ p = w2.heap.size := by have := hp1.out; omega
      have C5 := hide (show (set8 W4 p (i * 8) pt.d).cell? ⟨w2.heap.size, 0, none⟩ = some (.slice (some ⟨p, 0, none⟩) n n) by unfold set8; simp only [cell_set_far hne]; exact hC4)
      have L5 := hide (show w2.heap.size < (set8 W4 p (i * 8) pt.d).heap.size by unfold set8; simp; rw [hW4.out]; simp; have := hL.out; omega)
      go_upto_region 10 with fail
      rw [← hW4.out]
      clear c0 c1 c2 c3 c4 c5 c6 c7 c8
      have f0 := X4p.out.cell 0
      have f1 := X4p.out.cell 1
      have f2 := X4p.out.cell 2
      have f3 := X4p.out.cell 3
      have f4 := X4p.out.cell 4
      have f5 := X4p.out.cell 5
      have f6 := X4p.out.cell 6
      have f7 := X4p.out.cell 7
      have f8 := X4p.out.cell 8
      have hqw : ¬ wr.heap.size = p := by have h8 := hO.out.fz.1; omega
      unfold set8 at O5 B5 C5 L5
      go_wp2_with fail
      exact ⟨⟨k + 1, by go_num, by omega, O5, B5, C5, L5⟩, by simp [intOf]; omega⟩
    · obtain rfl : k = un := by omega
      have HT := hide (show us.take k = us from List.take_of_length_le (by rw [HU.out.1]; exact Nat.le_refl _))
      rw [HT.out] at hO
      have FW := hide (show Below W0.heap.size W0 wr from E1.out.trans (hB.out.mono E1.out.size))
      have HR := hide (HH.out.later hD.out)
      obtain ⟨x0, x1, x2, x3, x4⟩ := HR.out.bx.cells
      have y4 := (X4.out.later FW.out X4.out.lt).cell 0
      have hq1 : (1 : Int) - (h : Int) = ((1 - h : Nat) : Int) := by omega
      have lsz := hide (Nat.lt_of_lt_of_le X7.out.lt FW.out.size)
      obtain ⟨W5, hW5⟩ : ∃ W5 : World, Hid (W5 = wr.alloc (.cells #[.int .i64 ((1 - h : Nat) : Int)] 3)) := ⟨_, rfl⟩
      go_wp2_with fail
      refine Met.intro (tailG_step rfl ?_)
      try clear hK
      try clear K
      intro K hK
      go_wp2_with fail
      rw [← hW5.out]
      have FV := hide (show Below W0.heap.size W0 W5 by rw [hW5.out]; exact FW.out.alloc FW.out.size _)
      have z4 := (X4.out.later FV.out X4.out.lt).cell 0
      have hz5 := hide (show W5.heap.size = wr.heap.size + 1 by rw [hW5.out]; simp)
      clear x0 x1 x2 x3 x4 y4 hq1
      refine Met.intro (tailG_last (c := .seq _ .ret) rfl ?_)
      try clear hK
      try clear K
      go_wp2_with fail
      obtain ⟨W6, hW6⟩ : ∃ W6 : World, Hid (W6 = W5.alloc (.cells #[.func (.func 30) #[] #[.pointer (some ⟨w.heap.size, 0, none⟩), .pointer (some ⟨wr.heap.size, 0, none⟩), .pointer (some ⟨w2.heap.size, 0, none⟩)], .func (.func 32) #[] #[.pointer (some ⟨w.heap.size, 0, none⟩), .pointer (some ⟨wr.heap.size, 0, none⟩), .pointer (some ⟨w.heap.size + 1, 0, none⟩), .pointer (some ⟨w.heap.size + 1 + 1, 0, none⟩)], .func (.func 36) #[.pointer (some ⟨g, 0, none⟩)] #[], .func (.func 37) #[] #[.pointer (some ⟨w.heap.size, 0, none⟩), .pointer (some ⟨wr.heap.size, 0, none⟩)], .func (.func 36) #[.pointer (some ⟨g, 0, none⟩)] #[], .func (.func 38) #[] #[.pointer (some ⟨wr.heap.size, 0, none⟩), .pointer (some ⟨w.heap.size, 0, none⟩)]] 69)) := ⟨_, rfl⟩
      rw [← hW6.out]
      clear z4
      have F5 := hide (show Below wr.heap.size wr W5 by rw [hW5.out]; exact below_alloc _ _)
      have F6 := hide (show Below wr.heap.size wr W6 by rw [hW6.out]; exact F5.out.alloc F5.out.size _)
      have F65 := hide (show Below W5.heap.size W5 W6 by rw [hW6.out]; exact below_alloc _ _)
      have D6 := hide (show Below w.heap.size w W6 from hD.out.trans (F6.out.mono hD.out.size))
      have F06 := hide (show Below W0.heap.size W0 W6 from FW.out.trans (F6.out.mono FW.out.size))
      have XR := hide (show Bx W6 W5.heap.size #[.func (.func 30) #[] #[.pointer (some ⟨w.heap.size, 0, none⟩), .pointer (some ⟨wr.heap.size, 0, none⟩), .pointer (some ⟨w2.heap.size, 0, none⟩)], .func (.func 32) #[] #[.pointer (some ⟨w.heap.size, 0, none⟩), .pointer (some ⟨wr.heap.size, 0, none⟩), .pointer (some ⟨w.heap.size + 1, 0, none⟩), .pointer (some ⟨w.heap.size + 1 + 1, 0, none⟩)], .func (.func 36) #[.pointer (some ⟨g, 0, none⟩)] #[], .func (.func 37) #[] #[.pointer (some ⟨w.heap.size, 0, none⟩), .pointer (some ⟨wr.heap.size, 0, none⟩)], .func (.func 36) #[.pointer (some ⟨g, 0, none⟩)] #[], .func (.func 38) #[] #[.pointer (some ⟨wr.heap.size, 0, none⟩), .pointer (some ⟨w.heap.size, 0, none⟩)]] 69 by rw [hW6.out]; exact Bx.new W5 _ _)
      have X14 := hide (show Bx W6 wr.heap.size #[.int .i64 ((1 - h : Nat) : Int)] 3 from (show Bx W5 wr.heap.size #[.int .i64 ((1 - h : Nat) : Int)] 3 by rw [hW5.out]; exact Bx.new wr _ _).later F65.out (by have := hz5.out; omega))
      have hsz := hide hD.out.size
      have CM := hide (show Cmt W6 W5.heap.size g n h (1 - h) w.heap.size (w.heap.size + 1) (w.heap.size + 1 + 1) w2.heap.size wr.heap.size (some ⟨p, 0, none⟩) n (Mx.flushed (Mx.vw n h ls) us) a b from
        { r0 := XR.out.cell 0, r1 := XR.out.cell 1, r2 := XR.out.cell 2, r3 := XR.out.cell 3, r4 := XR.out.cell 4, r5 := XR.out.cell 5,
          c4 := (X4.out.later F06.out X4.out.lt).cell 0, c6 := (X6.out.later F06.out X6.out.lt).cell 0, c7 := (X7.out.later F06.out X7.out.lt).cell 0,
          c10 := (F6.out.cell (p := ⟨w2.heap.size, 0, none⟩) hL.out).trans hC.out, c14 := X14.out.cell 0,
          rg := by have h1 := hsz.out; have h2 := hz5.out; omega, n4 := by omega, n6 := by omega, n7 := by omega,
          n10 := by have h1 := D1.out.size; have h2 := s2.out; omega, n14 := by have h1 := hsz.out; omega,
          l4 := (X4.out.later F06.out X4.out.lt).lt, l6 := (X6.out.later F06.out X6.out.lt).lt, l7 := (X7.out.later F06.out X7.out.lt).lt, l14 := X14.out.lt,
          hb := (hO.out.asRow).later F6.out, hbg := fun _ q hq => by cases hq; have h1 := D1.out.size; have h2 := hp2.out; show p ≠ g; omega,
          hq := by omega, ha0 := ha0, ha1 := ha1, hb0 := hb0, hb1 := hb1 })
      have I6 := hide (show Mx.CI W6 g n h (1 - h) ls (Mx.flushed (Mx.vw n h ls) us) a b left 0 W6 from ⟨sa, sc, pa, 0, pc, by rw [Mx.lessK_zero]; exact HH.out.later D6.out, grow_refl _ _, by omega⟩)
      refine (csteps CM.out W6 I6.out).mono ?_
      rintro e w7 (⟨rfl, hN⟩ | ⟨rfl, hN⟩)
      · have HN := hide (Sst.base hN (below_grown D6.out _))
        clear hN
        go_wp2_with fail
        exact bodyPost_ret (v := .nilIface) (by simp [results, Try.results11, go_sem]) rfl (.inl ⟨rfl, HN.out⟩)
      · have HN := hide (Sdd.base hN (below_grown D6.out _))
        clear hN
        go_wp2_with fail
        exact bodyPost_ret (v := .iface 35 (.int .i64 4)) (by simp [results, Try.results11, go_sem]) rfl (.inr ⟨rfl, HN.out⟩)


end Go.Proofs.Ytfbmaemnbolplaa

/-
  Stores: what a half holds behind a commit, and behind one that died: mathematics.
-/
namespace Go.Proofs.Ytfbmaemnbolplaa
open Go.RowKit

namespace Mx
/-- a half that holds, with a mark that is a byte -/
structure Hd (n h : Nat) (ls : List B8) (bl : List B8) (a b : Int) : Prop extends Hold n h ls bl a b where
  mk0 : 0 ≤ (ls.getD 0 zB).z0
  n1 : 1 ≤ n
  n2 : n ≤ 32
  a0 : 0 ≤ a
  a1 : a ≤ 2147483647
  b0 : 0 ≤ b
  b1 : b ≤ 2147483647

theorem Hd.zero {n : Nat} (h1 : 1 ≤ n) (h2 : n ≤ 32) : Hd n 0 (List.replicate (sz n) zB) (List.replicate n zB) 0 0 :=
  { hold_zero n with
    mk0 := by
      rw [List.getD_eq_getElem?_getD, List.getElem?_replicate]
      split <;> exact Int.le_refl 0
    n1 := h1, n2 := h2, a0 := by omega, a1 := by omega, b0 := by omega, b1 := by omega }

theorem Hold.view {n h : Nat} {ls bl : List B8} {a b : Int} (H : Hold n h ls bl a b) : vw n h ls = bl := by
  apply List.ext_getElem?
  intro i
  unfold vw
  rw [List.getElem?_map]
  by_cases hi : i < n
  · rw [List.getElem?_range hi]
    have h3 := H.blk i hi
    have h4 : i < bl.length := by rw [H.bln]; exact hi
    rw [List.getElem?_eq_getElem h4, Option.map_some, h3, List.getD_eq_getElem?_getD, List.getElem?_eq_getElem h4]
    rfl
  · rw [List.getElem?_eq_none (l := bl) (by rw [H.bln]; omega), List.getElem?_eq_none (l := List.range n) (by rw [List.length_range]; omega)]
    rfl

theorem by8_nums {a b : Int} (h0 : 0 ≤ a) (h1 : a ≤ 2147483647) (h2 : 0 ≤ b) (h3 : b ≤ 2147483647) : by8 (numsB a b) := by
  unfold by8 numsB
  simp only
  omega

/-- a place that none of the puts has -/
theorem flushed_far {ls : List B8} {ps : List Pt} (hp : ∀ p ∈ ps, 0 ≤ p.at_ ∧ p.at_ < ls.length) (k : Nat) (h : ∀ p ∈ ps, p.at_ ≠ (k : Int)) : (flushed ls ps).getD k zB = ls.getD k zB := by
  rw [flushed_read ls ps hp, readB_far ls ps k h, Int.toNat_natCast]

theorem newP_ne {n h q : Nat} {bl : List B8} {a b : Int} (hh : h ≤ 1) (hq : q ≤ 1) (hne : h ≠ q) {p : Pt} (hp : p ∈ newP n q bl a b) :
    p.at_ ≠ 0 ∧ p.at_ ≠ (npl n h : Int) ∧ ∀ i, i < n → p.at_ ≠ (bpl n h i : Int) := by
  rcases newP_at hp with ⟨i, hi, e⟩ | e
  · rw [e]
    refine ⟨by have := bpl_pos n q i; omega, fun h1 => npl_bpl (n := n) hh hq hi (by omega), fun j hj h1 => hne ?_⟩
    exact (bpl_bpl hh hq hj hi (by omega)).1
  · rw [e]
    refine ⟨by have := npl_pos n q; omega, fun h1 => npl_npl (n := n) hq hh (fun e => hne e.symm) (by omega), fun j hj h1 => npl_bpl hq hh hj (by omega)⟩

theorem fillP_sub {n q : Nat} {bl : List B8} {a b : Int} {m : Nat} (hm : m ≤ n) : ∀ p ∈ fillP n q bl m, p ∈ newP n q bl a b := by
  intro p hp
  unfold newP
  rw [List.mem_append]
  left
  unfold fillP at hp ⊢
  rw [List.mem_map] at hp ⊢
  obtain ⟨i, hi, e⟩ := hp
  rw [List.mem_range] at hi
  exact ⟨i, List.mem_range.2 (by omega), e⟩

/-- what is pending, of a crash, in the other half: the half that holds is as it was -/
theorem hold_keep {n h : Nat} {ls ls' : List B8} {bl : List B8} {a b : Int} (H : Hd n h ls bl a b) (hl : ls'.length = ls.length) (h0 : ls'.getD 0 zB = ls.getD 0 zB) (h1 : ls'.getD (npl n h) zB = ls.getD (npl n h) zB) (h2 : ∀ i, i < n → ls'.getD (bpl n h i) zB = ls.getD (bpl n h i) zB) : Hd n h ls' bl a b :=
  { H with len := by rw [hl, H.len], mark := by rw [h0, H.mark], blk := fun i hi => by rw [h2 i hi, H.blk i hi], nums := by rw [h1, H.nums], mk0 := by rw [h0]; exact H.mk0 }

theorem hold_new {n h q : Nat} {ls bl bl' : List B8} {a0 b0 a b : Int} (H : Hd n h ls bl a0 b0) (hq : q = 1 - h) (hb : bl'.length = n) {ls' : List B8} (hl : ls'.length = sz n) (h0 : (ls'.getD 0 zB).z0 = (q : Int))
    (hk : ∀ k, 0 < k → ls'.getD k zB = (flushed ls (newP n q bl' a b)).getD k zB) (ha0 : 0 ≤ a) (ha1 : a ≤ 2147483647) (hb0 : 0 ≤ b) (hb1 : b ≤ 2147483647) : Hd n q ls' bl' a b := by
  have hh := H.half
  have hq1 : q ≤ 1 := by omega
  have hin := newP_in (n := n) (q := q) (bl := bl') (a := a) (b := b) hq1
  have hin' : ∀ p ∈ newP n q bl' a b, 0 ≤ p.at_ ∧ p.at_ < (ls.length : Int) := by rw [H.len]; exact hin
  refine { len := hl, bln := hb, half := hq1, mark := by rw [h0]; omega, blk := ?_, nums := ?_, mk0 := by rw [h0]; omega, n1 := H.n1, n2 := H.n2, a0 := ha0, a1 := ha1, b0 := hb0, b1 := hb1 }
  · intro i hi
    have hne : ¬ ((npl n q : Nat) : Int) = ((bpl n q i : Nat) : Int) := fun e => npl_bpl hq1 hq1 hi (by omega)
    rw [hk _ (bpl_pos n q i), flushed_read ls _ hin']
    show readB ls (fillP n q bl' n ++ [⟨(npl n q : Int), numsB a b⟩]) _ = _
    rw [readB_snoc, if_neg hne]
    exact fillP_read hq1 (Nat.le_refl _) hi
  · rw [hk _ (npl_pos n q), flushed_read ls _ hin']
    show readB ls (fillP n q bl' n ++ [⟨(npl n q : Int), numsB a b⟩]) _ = _
    rw [readB_snoc, if_pos rfl]

theorem hold_commit {n h q : Nat} {ls bl bl' : List B8} {a0 b0 a b : Int} (H : Hd n h ls bl a0 b0) (hq : q = 1 - h) (hb : bl'.length = n) (ha0 : 0 ≤ a) (ha1 : a ≤ 2147483647) (hb0 : 0 ≤ b) (hb1 : b ≤ 2147483647) :
    Hd n q (flushed (flushed ls (newP n q bl' a b)) [markP q]) bl' a b := by
  have hl : (flushed ls (newP n q bl' a b)).length = sz n := by rw [flushed_len, H.len]
  have h1 : ∀ p ∈ [markP q], 0 ≤ p.at_ ∧ p.at_ < ((flushed ls (newP n q bl' a b)).length : Int) := fun p hp => by
    rw [List.mem_singleton] at hp
    subst hp
    rw [hl]
    show (0 : Int) ≤ 0 ∧ (0 : Int) < _
    unfold sz
    omega
  refine hold_new H hq hb (by rw [flushed_len, hl]) ?_ ?_ ha0 ha1 hb0 hb1
  · rw [flushed_read _ _ h1]
    show (readB _ ([] ++ [markP q]) _).z0 = _
    rw [readB_snoc, if_pos (show (markP q).at_ = ((0 : Nat) : Int) from rfl)]
    rfl
  · intro k hk
    refine flushed_far h1 k (fun p hp => ?_)
    rw [List.mem_singleton] at hp
    subst hp
    show (0 : Int) ≠ _
    omega

theorem hold_dead {n h q : Nat} {ls bl bl' : List B8} {a0 b0 a b : Int} (H : Hd n h ls bl a0 b0) (hq : q = 1 - h) (hb : bl'.length = n) (ha0 : 0 ≤ a) (ha1 : a ≤ 2147483647) (hb0 : 0 ≤ b) (hb1 : b ≤ 2147483647)
    {ls' : List B8} {ps' : List Pt} (hd : CDead n q ls bl' a b ls' ps') (bs : List Int) : Hd n h (crash ls' ps' bs) bl a0 b0 ∨ Hd n q (crash ls' ps' bs) bl' a b := by
  have hh := H.half
  have hq1 : q ≤ 1 := by omega
  have hne : h ≠ q := by omega
  have key : ∀ ps : List Pt, (∀ p ∈ ps, p ∈ newP n q bl' a b) → Hd n h (crash ls ps bs) bl a0 b0 := fun ps hps => by
    refine hold_keep H (crash_len _ _) (crash_far _ _ _ _ (fun p hp => ?_)) (crash_far _ _ _ _ (fun p hp => ?_)) (fun i hi => crash_far _ _ _ _ (fun p hp => ?_))
    all_goals
      have h1 := newP_ne hh hq1 hne (hps p hp)
      have h2 := newP_in hq1 p (hps p hp)
    · omega
    · have := h1.2.1
      omega
    · have := h1.2.2 i hi
      omega
  have hin' : ∀ p ∈ newP n q bl' a b, 0 ≤ p.at_ ∧ p.at_ < (ls.length : Int) := by rw [H.len]; exact newP_in hq1
  have H1 : Hd n h (flushed ls (newP n q bl' a b)) bl a0 b0 :=
    hold_keep H (flushed_len _ _) (flushed_far hin' 0 (fun p hp => (newP_ne hh hq1 hne hp).1)) (flushed_far hin' _ (fun p hp => (newP_ne hh hq1 hne hp).2.1)) (fun i hi => flushed_far hin' _ (fun p hp => (newP_ne hh hq1 hne hp).2.2 i hi))
  rcases hd with ⟨rfl, ⟨m, hm, rfl⟩ | rfl⟩ | ⟨rfl, rfl | rfl⟩
  · exact .inl (key _ (fillP_sub hm))
  · exact .inl (key _ (fun p hp => hp))
  · rw [crash_nil]
    exact .inl H1
  · have hl : (flushed ls (newP n q bl' a b)).length = sz n := by rw [flushed_len, H.len]
    have hz : (markP q).at_.toNat < (flushed ls (newP n q bl' a b)).length := by
      rw [hl]
      show (0 : Int).toNat < _
      unfold sz
      simp
      omega
    have far : ∀ k, 0 < k → (crash (flushed ls (newP n q bl' a b)) [markP q] bs).getD k zB = (flushed ls (newP n q bl' a b)).getD k zB := fun k hk => crash_far _ _ _ _ (fun p hp => by
      rw [List.mem_singleton] at hp
      subst hp
      show (0 : Int).toNat ≠ k
      simp
      omega)
    rcases crash_one (flushed ls (newP n q bl' a b)) (markP q) bs hz with e | ⟨j, e⟩
    · rw [e]
      exact .inl H1
    · have e0 : (crash (flushed ls (newP n q bl' a b)) [markP q] bs).getD 0 zB = mixB j (markP q).d ((flushed ls (newP n q bl' a b)).getD 0 zB) := e
      by_cases hj : j = 0
      · subst hj
        rw [mixB_zero] at e0
        exact .inl (hold_keep H1 (crash_len _ _) e0 (far _ (npl_pos n h)) (fun i _ => far _ (bpl_pos n h i)))
      · refine .inr (hold_new H hq hb ((crash_len _ _).trans hl) ?_ far ha0 ha1 hb0 hb1)
        rw [e0]
        unfold mixB
        simp only
        rw [if_pos (by omega)]
        rfl

end Mx
end Go.Proofs.Ytfbmaemnbolplaa
