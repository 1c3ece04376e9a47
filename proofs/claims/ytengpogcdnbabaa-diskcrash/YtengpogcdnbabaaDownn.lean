/-
  The document's copy of a disk whose list of puts is nil (OwnDisk).
-/
import Derived.Test.YtengpogcdnbabaaDowna
namespace Go.Proofs.Ytengpogcdnbabaa
open Go.RowKit

theorem emptyRow {w : World} {g : Nat} (base : Nat) (hb : base ≤ g) (h : Bx w g #[] 58) : OwnPL w base (.slice (some ⟨g, 0, none⟩) 0 0) [] :=
  ⟨rfl, .inr ⟨g, 0, #[], rfl, hb, h, Nat.le_refl _, Nat.zero_le _, rfl, rfl⟩⟩

theorem ownD_nil {w w1 wB : World} {v1 s2 z0 z1 z2 : Value} {ls : List B8} (hr : Bx w1 (w.heap.size + 1) #[z0, z1, z2] 50) (hb : Below w.heap.size w w1) (hP : Below w1.heap.size w1 wB) (h1 : OwnBL wB w1.heap.size v1 ls) :
    Bx ((((wB.setCell ⟨w.heap.size + 1, 0, none⟩ v1).setCell ⟨w.heap.size + 1, 1, none⟩ (.slice (some ⟨wB.heap.size, 0, none⟩) 0 0)).setCell ⟨w.heap.size + 1, 2, none⟩ s2).alloc (.cells #[] 58)) (w.heap.size + 1) #[v1, .slice (some ⟨wB.heap.size, 0, none⟩) 0 0, s2] 50 ∧
    OwnBL ((((wB.setCell ⟨w.heap.size + 1, 0, none⟩ v1).setCell ⟨w.heap.size + 1, 1, none⟩ (.slice (some ⟨wB.heap.size, 0, none⟩) 0 0)).setCell ⟨w.heap.size + 1, 2, none⟩ s2).alloc (.cells #[] 58)) w.heap.size v1 ls ∧
    OwnPL ((((wB.setCell ⟨w.heap.size + 1, 0, none⟩ v1).setCell ⟨w.heap.size + 1, 1, none⟩ (.slice (some ⟨wB.heap.size, 0, none⟩) 0 0)).setCell ⟨w.heap.size + 1, 2, none⟩ s2).alloc (.cells #[] 58)) w.heap.size (.slice (some ⟨wB.heap.size, 0, none⟩) 0 0) [] ∧
    (∀ g, v1.ownBlock = some g → (Value.slice (some ⟨wB.heap.size, 0, none⟩) 0 0).ownBlock ≠ some g) ∧
    Below w.heap.size w ((((wB.setCell ⟨w.heap.size + 1, 0, none⟩ v1).setCell ⟨w.heap.size + 1, 1, none⟩ (.slice (some ⟨wB.heap.size, 0, none⟩) 0 0)).setCell ⟨w.heap.size + 1, 2, none⟩ s2).alloc (.cells #[] 58)) := by
  have hx := hr.later hP hr.lt
  have k1 := own_ne_bx h1 hx (by decide)
  have hb2 := hb.trans (hP.mono hb.size)
  have hb3 := ((hb2.setCell (p := ⟨w.heap.size + 1, 0, none⟩) (by simp) v1).setCell (p := ⟨w.heap.size + 1, 1, none⟩) (by simp) (.slice (some ⟨wB.heap.size, 0, none⟩) 0 0)).setCell (p := ⟨w.heap.size + 1, 2, none⟩) (by simp) s2
  have hsz : (((wB.setCell ⟨w.heap.size + 1, 0, none⟩ v1).setCell ⟨w.heap.size + 1, 1, none⟩ (.slice (some ⟨wB.heap.size, 0, none⟩) 0 0)).setCell ⟨w.heap.size + 1, 2, none⟩ s2).heap.size = wB.heap.size := by simp [World.setCell]
  refine ⟨(((hx.set 0 v1).set 1 (.slice (some ⟨wB.heap.size, 0, none⟩) 0 0)).set 2 s2).alloc _, World.ownsRow.mono (World.ownsRow.alloc (ownsRow_other (ownsRow_other (ownsRow_other h1 _ _ k1) _ _ k1) _ _ k1) _) hb.size, ?_, ?_, hb3.alloc hb3.size _⟩
  · refine emptyRow _ hb2.size ?_
    have h := Bx.new (((wB.setCell ⟨w.heap.size + 1, 0, none⟩ v1).setCell ⟨w.heap.size + 1, 1, none⟩ (.slice (some ⟨wB.heap.size, 0, none⟩) 0 0)).setCell ⟨w.heap.size + 1, 2, none⟩ s2) #[] 58
    rw [hsz] at h
    exact h
  · intro g hg e
    have e2 : wB.heap.size = g := Option.some.inj e
    have := (World.ownsRow.lt h1 g hg).2
    omega

theorem Bx.drew {w : World} {g : Nat} {cs : Array Value} {t : TypeId} (h : Bx w g cs t) : Bx w.drew g cs t := h

set_option maxHeartbeats 2000000 in
set_option maxRecDepth 100000 in
theorem ownDisk_nil (sa : Option Addr) (n sc pc : Nat) (left : Int) (ls : List B8) (ps : List Pt) (w : World) (hs : BL w sa n ls) (hp : PL w none 0 ps) (hn : n ≤ 1000000) :
    Calls Try.prog 29 #[.agg #[.slice sa n sc, .slice none 0 pc, .int .i64 left]] w fun e w' =>
      ∃ v1 v2, e = .returned (.agg #[v1, v2, .int .i64 left]) ∧ OwnBL w' w.heap.size v1 ls ∧ OwnPL w' w.heap.size v2 ps ∧ (∀ g, v1.ownBlock = some g → v2.ownBlock ≠ some g) ∧ Below w.heap.size w w' := by
  have HS := hide hs
  have HP := hide hp
  have HN6 := hide (And.intro hn hn)
  clear hs hp hn
  obtain ⟨w1, hw1⟩ : ∃ w1 : World, Hid (w1 = (w.alloc (.cells #[.slice sa n sc, .slice none 0 pc, .int .i64 left] 50)).alloc (.cells #[.slice none 0 0, .slice none 0 0, .int .i64 0] 50)) := ⟨_, rfl⟩
  have HBel := hide (show Below w.heap.size w w1 by rw [hw1.out]; exact (below_alloc _ _).alloc (by simp) _)
  have HBD := hide (show Bx w1 w.heap.size #[.slice sa n sc, .slice none 0 pc, .int .i64 left] 50 by rw [hw1.out]; exact (Bx.new w _ 50).alloc _)
  have HBR := hide (show Bx w1 (w.heap.size + 1) #[.slice none 0 0, .slice none 0 0, .int .i64 0] 50 by
    rw [hw1.out]
    have h := Bx.new (w.alloc (.cells #[.slice sa n sc, .slice none 0 pc, .int .i64 left] 50)) #[.slice none 0 0, .slice none 0 0, .int .i64 0] 50
    rw [World.size_alloc] at h
    exact h)
  have HS1 := hide (HS.out.later HBel.out)
  have HP1 := hide (HP.out.later HBel.out)
  go_enter Try.func29, Try.ntmps29
  go_wp2_with fail
  rw [← hw1.out]
  obtain ⟨f0, f1, f2⟩ := HBD.out.three
  have hg1 : w.heap.size < w1.heap.size := HBD.out.lt
  obtain ⟨g0, g1, g2, g3, g4⟩ := HBR.out.dc
  have hne : w.heap.size ≠ w.heap.size + 1 := by omega
  have HPS := hide (show ps = [] from List.eq_nil_of_length_eq_zero HP.out.1)
  go_region_held (fun w' => w'.cell? ⟨w.heap.size, 0, none⟩ = some (.slice sa n sc) ∧ w'.cell? ⟨w.heap.size, 1, none⟩ = some (.slice none 0 pc) ∧ w'.cell? ⟨w.heap.size, 2, none⟩ = some (.int .i64 left))
    (first | exact (Bx.drew HBD.out).three | exact (HBD.out.later hbB.out.1 HBD.out.lt).three | simp [*, World.cell?_alloc_some, World.cell?_setCell_far])
    (first
    | (go_at_call 56; refine (ownBlocks_at2 (w1 := w1) sa n sc ls _ HS1.out HN6.out.1 HBD.out HBR.out (Bx.newD _ _ _) ?hbS).mono ?_; (case hbS => exact ((Below.refl _ _).alloc (Nat.le_refl _) _).drew); rintro e wB ⟨a1, c1, rfl, hoB, hbB, ⟨q0, q1, q2, q3, q4⟩, ⟨r0, r1, r2, r3, r4⟩, hxE⟩)
    | (go_at_call 56; refine (ownBlocks_at (w1 := w1) sa n sc ls _ HS1.out HN6.out.1 HBD.out HBR.out ?hbS).mono ?_; (case hbS => exact (Below.refl _ _).drew); rintro e wB ⟨a1, c1, rfl, hoB, hbB, ⟨q0, q1, q2, q3, q4⟩, ⟨r0, r1, r2, r3, r4⟩⟩))
  all_goals go_wp2_with fail
  · have HE := hide (ownD_nil (s2 := .int .i64 left) HBR.out HBel.out hbB.out.1 (show OwnBL wB w1.heap.size (.slice a1 n c1) ls from hoB.out))
    obtain ⟨z0, z1, z2⟩ := HE.out.1.three
    refine bodyPost_ret (v := .agg #[.slice a1 n c1, .slice (some ⟨wB.heap.size, 0, none⟩) 0 0, .int .i64 left]) (by simp [results, Try.results29, go_sem, z0, z1, z2]) rfl ⟨_, _, rfl, ?_⟩
    rw [HPS.out]
    exact HE.out.2
  · have e3 : (w1.alloc (.cells #[] 58)).drew.heap.size = w1.heap.size + 1 := World.size_alloc _ _
    have HO := hide (show OwnBL wB w1.heap.size (.slice a1 n c1) ls from World.ownsRow.mono hoB.out (by rw [e3]; omega))
    have HE := hide (ownD_end (s2 := .int .i64 left) HBR.out HBel.out hbB.out.1 HO.out (emptyRow w1.heap.size (Nat.le_refl _) hxE.out))
    obtain ⟨z0, z1, z2⟩ := HE.out.1.three
    refine bodyPost_ret (v := .agg #[.slice a1 n c1, .slice (some ⟨w1.heap.size, 0, none⟩) 0 0, .int .i64 left]) (by simp [results, Try.results29, go_sem, z0, z1, z2]) rfl ⟨_, _, rfl, ?_⟩
    rw [HPS.out]
    exact HE.out.2
end Go.Proofs.Ytengpogcdnbabaa
