/-
  The document's copy of a disk whose list of puts is not nil (OwnDisk).
-/
import Derived.Test.YtengpogcdnbabaaDowna
namespace Go.Proofs.Ytengpogcdnbabaa
open Go.RowKit

set_option maxHeartbeats 20000000 in
set_option maxRecDepth 100000 in
theorem ownDisk_some (sa : Option Addr) (ad : Addr) (n sc m pc : Nat) (left : Int) (ls : List B8) (ps : List Pt) (w : World) (hs : BL w sa n ls) (hp : PL w (some ad) m ps) (hn : n ≤ 1000000) (hm : m ≤ 1000000) :
    Calls Try.prog 29 #[.agg #[.slice sa n sc, .slice (some ad) m pc, .int .i64 left]] w fun e w' =>
      ∃ v1 v2, e = .returned (.agg #[v1, v2, .int .i64 left]) ∧ OwnBL w' w.heap.size v1 ls ∧ OwnPL w' w.heap.size v2 ps ∧ (∀ g, v1.ownBlock = some g → v2.ownBlock ≠ some g) ∧ Below w.heap.size w w' := by
  have HS := hide hs
  have HP := hide hp
  have HN6 := hide (And.intro hn hm)
  clear hs hp hn hm
  obtain ⟨w1, hw1⟩ : ∃ w1 : World, Hid (w1 = (w.alloc (.cells #[.slice sa n sc, .slice (some ad) m pc, .int .i64 left] 50)).alloc (.cells #[.slice none 0 0, .slice none 0 0, .int .i64 0] 50)) := ⟨_, rfl⟩
  have HBel := hide (show Below w.heap.size w w1 by rw [hw1.out]; exact (below_alloc _ _).alloc (by simp) _)
  have HBD := hide (show Bx w1 w.heap.size #[.slice sa n sc, .slice (some ad) m pc, .int .i64 left] 50 by rw [hw1.out]; exact (Bx.new w _ 50).alloc _)
  have HBR := hide (show Bx w1 (w.heap.size + 1) #[.slice none 0 0, .slice none 0 0, .int .i64 0] 50 by
    rw [hw1.out]
    have h := Bx.new (w.alloc (.cells #[.slice sa n sc, .slice (some ad) m pc, .int .i64 left] 50)) #[.slice none 0 0, .slice none 0 0, .int .i64 0] 50
    rw [World.size_alloc] at h
    exact h)
  have HS1 := hide (HS.out.later HBel.out)
  have HP1 := hide (HP.out.later HBel.out)
  go_enter Try.func29, Try.ntmps29
  go_wp2_with fail
  rw [← hw1.out]
  obtain ⟨f0, f1, f2⟩ := HBD.out.three
  have hg1 : w.heap.size < w1.heap.size := HBD.out.lt
  obtain ⟨g0, g1, g2, g3, g4⟩ := HBR.out.dc
  go_region_law (first
    | (refine step_append_puts rfl (.tmp 6) (.tmp 8) rfl wB.heap.size ?hs (Bx.new _ _ _) ad m pc ps ?hx ?hp HN6.out.2 ?_; (case hs => simp [Act.eval]); (case hx => simp [Act.eval]); (case hp => exact (HP1.out.later hbB.out.1).later (below_alloc _ _)); intro a2 c2 wP hoP0 hgP0; have hoP := hide hoP0; have hgP := hide hgP0; clear hoP0 hgP0; obtain ⟨hwP, ⟨x0, x1, x2, x3, x4⟩, y0, y1, y2, y3, y4⟩ := grown_dc HBD.out HBR.out (hbB.out.1.alloc hbB.out.1.size _) hgP.out hbB.out.1.size)
    | (refine step_append_puts rfl (.tmp 6) (.tmp 8) rfl w1.heap.size ?hs hxE.out ad m pc ps ?hx ?hp HN6.out.2 ?_; (case hs => simp [Act.eval]); (case hx => simp [Act.eval]); (case hp => exact HP1.out.later hbB.out.1); intro a2 c2 wP hoP0 hgP0; have hoP := hide hoP0; have hgP := hide hgP0; clear hoP0 hgP0; obtain ⟨hwP, ⟨x0, x1, x2, x3, x4⟩, y0, y1, y2, y3, y4⟩ := grown_dc HBD.out HBR.out hbB.out.1 hgP.out (Nat.le_refl _))
    | (go_simp; go_at_call 56; refine (ownBlocks_at2 (w1 := w1) sa n sc ls _ HS1.out HN6.out.1 HBD.out HBR.out (Bx.newD _ _ _) ?hbS).mono ?_; (case hbS => exact ((Below.refl _ _).alloc (Nat.le_refl _) _).drew); rintro e wB ⟨a1, c1, rfl, hoB, hbB, ⟨q0, q1, q2, q3, q4⟩, ⟨r0, r1, r2, r3, r4⟩, hxE⟩)
    | (go_simp; go_at_call 56; refine (ownBlocks_at (w1 := w1) sa n sc ls _ HS1.out HN6.out.1 HBD.out HBR.out ?hbS).mono ?_; (case hbS => exact (Below.refl _ _).drew); rintro e wB ⟨a1, c1, rfl, hoB, hbB, ⟨q0, q1, q2, q3, q4⟩, ⟨r0, r1, r2, r3, r4⟩⟩))
  all_goals go_wp2_with fail
  all_goals
    have HE := hide (ownD_end (s2 := .int .i64 left) HBR.out HBel.out hwP.out (by first | exact ownD_1 hoB.out hgP.out | exact ownD_2 hoB.out hgP.out) (show OwnPL wP w1.heap.size (.slice a2 m c2) ps by first | exact World.ownsRow.mono hoP.out hbB.out.1.size | exact hoP.out))
    obtain ⟨z0, z1, z2⟩ := HE.out.1.three
    exact bodyPost_ret (v := .agg #[.slice a1 n c1, .slice a2 m c2, .int .i64 left]) (by simp [results, Try.results29, go_sem, z0, z1, z2]) rfl ⟨_, _, rfl, HE.out.2⟩
end Go.Proofs.Ytengpogcdnbabaa
