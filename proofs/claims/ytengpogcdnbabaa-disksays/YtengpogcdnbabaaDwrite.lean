/-
  Write: the put is pending, behind the others, in fresh memory.
-/
import Derived.Test.YtengpogcdnbabaaDbox
namespace Go.Proofs.Ytengpogcdnbabaa
open Go.RowKit

namespace Mx
/-- B2's error of a Write -/
def dwrite (n : Nat) (ps : List Pt) (left at_ : Int) : Int := if dplace n ps at_ = 0 then (if ps.length = 800 then 2 else if left = 0 then 4 else 0) else dplace n ps at_
end Mx

set_option maxHeartbeats 8000000 in
set_option maxRecDepth 100000 in
theorem write_any (sa pa : Option Addr) (n sc m pc : Nat) (left at_ : Int) (x : B8) (ls : List B8) (ps : List Pt) (w : World) (hs : BL w sa n ls) (hp : PL w pa m ps) (hl1 : -9223372036854775808 ≤ left) (hl2 : left ≤ 9223372036854775807) (hm : Mx.dwrite n ps left at_ = 0) :
    Calls Try.prog 30 #[.agg #[.slice sa n sc, .slice pa m pc, .int .i64 left], .int .i64 at_, .agg #[.int .u8 x.z0, .int .u8 x.z1, .int .u8 x.z2, .int .u8 x.z3, .int .u8 x.z4, .int .u8 x.z5, .int .u8 x.z6, .int .u8 x.z7]] w fun e w' =>
      ∃ v1 v2, e = .returned (.tuple #[.agg #[v1, v2, .int .i64 (Mx.less left)], .nilIface]) ∧ OwnBL w' w.heap.size v1 ls ∧ OwnPL w' w.heap.size v2 (ps ++ [⟨at_, x⟩]) ∧ Below w.heap.size w w' := by
  have HS := hide hs
  have HP := hide hp
  have HM := hide hm
  have HNN := hide (show n ≤ maxLen from hs.2.2.1)
  have HL := hide (And.intro hl1 hl2)
  clear hs hp hm hl1 hl2
  obtain ⟨hpl, h8, hleft⟩ : Hid (Mx.dplace n ps at_ = 0) ∧ ¬ ps.length = 800 ∧ ¬ left = 0 := by
    have h := HM.out
    unfold Mx.dwrite at h
    split at h
    · rename_i h1
      split at h
      · omega
      · rename_i h2
        split at h
        · omega
        · rename_i h3
          exact ⟨h1, h2, h3⟩
    · contradiction
  have hn1 : Hid (n ≤ 200 ∧ m ≤ 800) := by
    have h := hpl.out
    unfold Mx.dplace at h
    split at h
    · rename_i h1
      obtain ⟨_, h3, h4, _⟩ := Mx.dmay_facts h1
      exact ⟨h3, by rw [← HP.out.1]; exact h4⟩
    · contradiction
  have hm8 : ¬ m = 800 := by rw [← HP.out.1]; exact h8
  clear h8
  have hnm := hn1.out
  have hme : ((m : Int) == 800) = false := by simp; omega
  have hle : (left == 0) = false := by simpa using hleft
  go_enter Try.func30, Try.ntmps30
  go_wp2_with fail
  refine (checkPlace_any sa pa n sc m pc left at_ ps _ (HP.out.later (((below_alloc _ _).alloc (by simp) _).alloc (by simp; omega) _)) HNN.out).mono ?_
  rintro e w1 ⟨rfl, hb1⟩
  rw [hpl.out, errV_zero]
  have HBD := hide (show Bx w1 w.heap.size #[.slice sa n sc, .slice pa m pc, .int .i64 left] 50 from (((Bx.new w _ 50).alloc _).alloc _).later hb1 (by simp; omega))
  have HBX := hide (show Bx w1 (w.heap.size + 1) #[.int .u8 x.z0, .int .u8 x.z1, .int .u8 x.z2, .int .u8 x.z3, .int .u8 x.z4, .int .u8 x.z5, .int .u8 x.z6, .int .u8 x.z7] 52 from by
    have h := ((Bx.new (w.alloc (.cells #[.slice sa n sc, .slice pa m pc, .int .i64 left] 50)) #[.int .u8 x.z0, .int .u8 x.z1, .int .u8 x.z2, .int .u8 x.z3, .int .u8 x.z4, .int .u8 x.z5, .int .u8 x.z6, .int .u8 x.z7] 52).alloc (.cells #[.slice none 0 0, .slice none 0 0, .int .i64 0] 50)).later hb1 (by simp)
    rw [World.size_alloc] at h
    exact h)
  have HBR := hide (show Bx w1 (w.heap.size + 2) #[.slice none 0 0, .slice none 0 0, .int .i64 0] 50 from by
    have h := (Bx.new ((w.alloc (.cells #[.slice sa n sc, .slice pa m pc, .int .i64 left] 50)).alloc (.cells #[.int .u8 x.z0, .int .u8 x.z1, .int .u8 x.z2, .int .u8 x.z3, .int .u8 x.z4, .int .u8 x.z5, .int .u8 x.z6, .int .u8 x.z7] 52)) #[.slice none 0 0, .slice none 0 0, .int .i64 0] 50).later hb1 (by simp)
    rw [World.size_alloc, World.size_alloc] at h
    exact h)
  have HBel := hide ((((below_alloc w (.cells #[.slice sa n sc, .slice pa m pc, .int .i64 left] 50)).alloc (by simp) _).alloc (by simp; omega) _).trans (hb1.mono (by simp; omega)))
  have hsz : w.heap.size + 3 ≤ w1.heap.size := by have := hb1.size; simp at this; omega
  clear hb1
  have HS1 := hide (HS.out.later HBel.out)
  have HP1 := hide (HP.out.later HBel.out)
  obtain ⟨f0, f1, f2⟩ := HBD.out.three
  have hg1 : w.heap.size < w1.heap.size := by omega
  have HN6 := hide (show n ≤ 1000000 ∧ m ≤ 1000000 by omega)
  go_wp2_with fail
  go_cut [9] (fun s9 wx => ∃ gn a1 c1 a2 c2, s9 = .pointer (some ⟨gn, 0, none⟩) ∧ Hid (Made w1 wx gn (.slice a1 n c1) (.slice a2 m c2) (.int .i64 (Mx.less left)) ls ps))
  case first =>
    go_region_held (fun w' => w'.cell? ⟨w.heap.size, 0, none⟩ = some (.slice sa n sc) ∧ w'.cell? ⟨w.heap.size, 1, none⟩ = some (.slice pa m pc) ∧ w'.cell? ⟨w.heap.size, 2, none⟩ = some (.int .i64 left) ∧ Below w1.heap.size w1 w')
      (first | exact Held.drew HBD.out | exact Held.of HBD.out hbB.out.1 | exact Held.of HBD.out hbP.out.1 | assumption | (refine Held.alloc HBD.out ?_ _; assumption) | exact Held.of HBD.out (hbP.out.1.alloc hbP.out.1.size _) | exact Held.of HBD.out (hbB.out.1.alloc hbB.out.1.size _) | exact Held.of HBD.out ((Below.refl _ _).drew.alloc (Nat.le_refl _) _) | (refine Held.set HBD.out (Held.set HBD.out (Held.set HBD.out ?_ _ ?_ _) _ ?_ _) _ ?_ _ <;> assumption))
      (first
      | (go_at_call 72; refine (cloneB_at2 (w1 := w1) sa n sc ls _ HS1.out HN6.out.1 HBD.out (Bx.new _ _ _) ?hge ?hbS).mono ?_; (case hge => first | exact Nat.le_refl _ | exact hbP.out.1.size); (case hbS => simp only [*]); rintro e wB ⟨a1, c1, rfl, hoB, hbB, ⟨q0, q1, q2, q3, q4⟩, hxB, hgB, r0, r1, r2, r3, r4⟩)
      | (go_at_call 72; refine (cloneB_at2 (w1 := w1) sa n sc ls _ HS1.out HN6.out.1 HBD.out (Bx.newD _ _ _) ?hge ?hbS).mono ?_; (case hge => first | exact Nat.le_refl _ | exact hbP.out.1.size); (case hbS => simp only [*]); rintro e wB ⟨a1, c1, rfl, hoB, hbB, ⟨q0, q1, q2, q3, q4⟩, hxB, hgB, r0, r1, r2, r3, r4⟩)
      | (go_at_call 72; refine (cloneB_at2 (w1 := w1) sa n sc ls _ HS1.out HN6.out.1 HBD.out hxP.out hgP ?hbS).mono ?_; (case hbS => simp only [*]); rintro e wB ⟨a1, c1, rfl, hoB, hbB, ⟨q0, q1, q2, q3, q4⟩, hxB, hgB, r0, r1, r2, r3, r4⟩)
      | (go_at_call 72; refine (cloneB_at (w1 := w1) sa n sc ls _ HS1.out HN6.out.1 HBD.out ?hbS).mono ?_; (case hbS => simp only [*]); rintro e wB ⟨a1, c1, rfl, hoB, hbB, q0, q1, q2, q3, q4⟩)
      | (go_at_call 73; refine (cloneP_at2 (w1 := w1) pa m pc ps _ HP1.out HN6.out.2 HBD.out (Bx.new _ _ _) ?hge ?hbS).mono ?_; (case hge => first | exact Nat.le_refl _ | exact hbB.out.1.size); (case hbS => simp only [*]); rintro e wP ⟨a2, c2, rfl, hoP, hbP, ⟨q0, q1, q2, q3, q4⟩, hxP, hgP, r0, r1, r2, r3, r4⟩)
      | (go_at_call 73; refine (cloneP_at2 (w1 := w1) pa m pc ps _ HP1.out HN6.out.2 HBD.out (Bx.newD _ _ _) ?hge ?hbS).mono ?_; (case hge => first | exact Nat.le_refl _ | exact hbB.out.1.size); (case hbS => simp only [*]); rintro e wP ⟨a2, c2, rfl, hoP, hbP, ⟨q0, q1, q2, q3, q4⟩, hxP, hgP, r0, r1, r2, r3, r4⟩)
      | (go_at_call 73; refine (cloneP_at2 (w1 := w1) pa m pc ps _ HP1.out HN6.out.2 HBD.out hxB.out hgB ?hbS).mono ?_; (case hbS => simp only [*]); rintro e wP ⟨a2, c2, rfl, hoP, hbP, ⟨q0, q1, q2, q3, q4⟩, hxP, hgP, r0, r1, r2, r3, r4⟩)
      | (go_at_call 73; refine (cloneP_at (w1 := w1) pa m pc ps _ HP1.out HN6.out.2 HBD.out ?hbS).mono ?_; (case hbS => simp only [*]); rintro e wP ⟨a2, c2, rfl, hoP, hbP, q0, q1, q2, q3, q4⟩)
      | (go_at_call 74; refine (lessOne_any left _ HL.out.1 HL.out.2).mono ?_; rintro e wL ⟨rfl, rfl⟩))
    all_goals go_wp2_with fail
    all_goals go_meet
    all_goals first
      | exact ⟨_, _, _, _, _, rfl, made1 (W := w1.drew) (Nat.le_refl _) hoB.out hoP.out hbP.out hbB.out⟩
      | exact ⟨_, _, _, _, _, rfl, made2 (W := w1.drew) (Nat.le_refl _) hoB.out hbB.out hoP.out hbP.out⟩
      | exact ⟨_, _, _, _, _, rfl, made3 hoB.out hbB.out hoP.out hbP.out⟩
  case rest =>
  obtain ⟨gn, a1, c1, a2, c2, rfl, hmd⟩ := hcut
  obtain ⟨b0, b1, b2⟩ := hmd.out.1.three
  have bz := hmd.out.1.frozen
  have bl := hmd.out.1.lt
  obtain ⟨x0, x1, x2, x3, x4, x5, x6, x7⟩ := (HBX.out.later hmd.out.2.2.2.1 (by omega)).eight
  have HPL := hide (show ps.length = m from HP.out.1)
  have HMS := hide hmd.out.2.2.2.1.size
  have hgn : ¬ gn = w.heap.size + 2 := by have := hmd.out.2.2.2.2.1; omega
  go_wp2_with (at_builtin; refine wpList_append_put (w := wc) rfl _ _ rfl w1.heap.size ps ?c0 ⟨at_, x⟩ ?c1 ?c2 ?c3 ?_)
  case c0 => exact hmd.out.2.2.1
  case c1 => rfl
  case c2 => rw [HPL.out]; exact HN6.out.2
  case c3 => exact HMS.out
  intro ad cc w2 hown2 hg2
  obtain ⟨hOP, hG⟩ : Hid (OwnPL w2 w1.heap.size (.slice (some ad) (m + 1) cc) (ps ++ [⟨at_, x⟩])) ∧ Hid (wc.grownBy w2 (Value.slice a2 m c2).ownBlock) := by
    rw [HPL.out] at hown2
    exact ⟨hown2, hg2⟩
  rw [HPL.out]
  clear hown2 hg2
  have HB2 := hide (show Bx w2 gn #[.slice a1 n c1, .slice a2 m c2, .int .i64 (Mx.less left)] 50 from (hG.out.block gn bl (fun e => hmd.out.2.2.2.2.2.2.1 e.symm)).trans hmd.out.1)
  have HW2 := hide (show Below w1.heap.size w1 w2 from hmd.out.2.2.2.1.grown hG.out HMS.out (fun k hk => (World.ownsRow.lt hmd.out.2.2.1 k hk).1))
  have HO2 := hide (show OwnBL w2 w1.heap.size (.slice a1 n c1) ls from World.ownsRow.kept hmd.out.2.1 hG.out (by
    rcases hb : (Value.slice a1 n c1).ownBlock with _ | g
    · exact .inl rfl
    · exact .inr (fun e => hmd.out.2.2.2.2.2.2.2 g hb e.symm)))
  have HR2 := hide (HBR.out.later HW2.out (by omega))
  obtain ⟨d0, d1, d2⟩ := HB2.out.three
  have dz := HB2.out.frozen
  obtain ⟨e0, e1, e2⟩ := HR2.out.three
  have ez := HR2.out.frozen
  have hl2 : w.heap.size + 2 < w2.heap.size := HR2.out.lt
  clear b0 b1 b2 bz bl x0 x1 x2 x3 x4 x5 x6 x7 f0 f1 f2
  go_wp2_with fail
  have HBF := hide (((HR2.out.other ⟨gn, 1, none⟩ (.slice (some ad) (m + 1) cc) (fun e => hgn e.symm)).set 0 (.slice a1 n c1)).set 1 (.slice (some ad) (m + 1) cc) |>.set 2 (.int .i64 (Mx.less left)))
  obtain ⟨r0, r1, r2⟩ := (show Bx _ _ #[.slice a1 n c1, .slice (some ad) (m + 1) cc, .int .i64 (Mx.less left)] 50 from HBF.out).three
  refine bodyPost_ret (v := .tuple #[.agg #[.slice a1 n c1, .slice (some ad) (m + 1) cc, .int .i64 (Mx.less left)], .nilIface]) (by simp [results, Try.results30, go_sem, r0, r1, r2]) rfl ⟨_, _, rfl, ?_, ?_, ?_⟩
  · have k1 := own_ne_bx HO2.out HB2.out (by decide)
    have k2 := own_ne_bx HO2.out HR2.out (by decide)
    exact World.ownsRow.mono (ownsRow_other (ownsRow_other (ownsRow_other (ownsRow_other HO2.out _ _ k1) _ _ k2) _ _ k2) _ _ k2) HBel.out.size
  · have k1 := own_ne_bx hOP.out HB2.out (by decide)
    have k2 := own_ne_bx hOP.out HR2.out (by decide)
    have h := World.ownsRow.mono (ownsRow_other (ownsRow_other (ownsRow_other (ownsRow_other hOP.out ⟨gn, 1, none⟩ (.slice (some ad) (m + 1) cc) k1) ⟨w.heap.size + 2, 0, none⟩ (.slice a1 n c1) k2) ⟨w.heap.size + 2, 1, none⟩ (.slice (some ad) (m + 1) cc) k2) ⟨w.heap.size + 2, 2, none⟩ (.int .i64 (Mx.less left)) k2) HBel.out.size
    exact h
  · have hb := HBel.out.trans (HW2.out.mono HBel.out.size)
    have g1 : w.heap.size ≤ gn := by have := hmd.out.2.2.2.2.1; omega
    exact (((hb.setCell (p := ⟨gn, 1, none⟩) g1 _).setCell (p := ⟨w.heap.size + 2, 0, none⟩) (by simp) _).setCell (p := ⟨w.heap.size + 2, 1, none⟩) (by simp) _).setCell (p := ⟨w.heap.size + 2, 2, none⟩) (by simp) _

set_option maxHeartbeats 2000000 in
set_option maxRecDepth 100000 in
theorem write_err (sa pa : Option Addr) (n sc m pc : Nat) (left at_ : Int) (x : B8) (ps : List Pt) (w : World) (hn : n ≤ maxLen) (hp : PL w pa m ps) (hm : ¬ Mx.dwrite n ps left at_ = 0) :
    Calls Try.prog 30 #[.agg #[.slice sa n sc, .slice pa m pc, .int .i64 left], .int .i64 at_, .agg #[.int .u8 x.z0, .int .u8 x.z1, .int .u8 x.z2, .int .u8 x.z3, .int .u8 x.z4, .int .u8 x.z5, .int .u8 x.z6, .int .u8 x.z7]] w fun e w' =>
      e = .returned (.tuple #[.agg #[.slice none 0 0, .slice none 0 0, .int .i64 0], errV (Mx.dwrite n ps left at_)]) ∧ Below w.heap.size w w' := by
  have HP := hide hp
  have HM := hide hm
  have HNN := hide hn
  have HML := hide (show m ≤ maxLen from hp.2.2.1)
  clear hp hm hn
  go_enter Try.func30, Try.ntmps30
  go_wp2_with fail
  refine (checkPlace_any sa pa n sc m pc left at_ ps _ (HP.out.later (((below_alloc _ _).alloc (by simp) _).alloc (by simp; omega) _)) HNN.out).mono ?_
  rintro e w1 ⟨rfl, hb1⟩
  have HBD := hide (show Bx w1 w.heap.size #[.slice sa n sc, .slice pa m pc, .int .i64 left] 50 from (((Bx.new w _ 50).alloc _).alloc _).later hb1 (by simp; omega))
  have HBR := hide (show Bx w1 (w.heap.size + 2) #[.slice none 0 0, .slice none 0 0, .int .i64 0] 50 from by
    have h := (Bx.new ((w.alloc (.cells #[.slice sa n sc, .slice pa m pc, .int .i64 left] 50)).alloc (.cells #[.int .u8 x.z0, .int .u8 x.z1, .int .u8 x.z2, .int .u8 x.z3, .int .u8 x.z4, .int .u8 x.z5, .int .u8 x.z6, .int .u8 x.z7] 52)) #[.slice none 0 0, .slice none 0 0, .int .i64 0] 50).later hb1 (by simp)
    rw [World.size_alloc, World.size_alloc] at h
    exact h)
  have HBel := hide ((((below_alloc w (.cells #[.slice sa n sc, .slice pa m pc, .int .i64 left] 50)).alloc (by simp) _).alloc (by simp; omega) _).trans (hb1.mono (by simp; omega)))
  clear hb1
  obtain ⟨f0, f1, f2⟩ := HBD.out.three
  obtain ⟨e0, e1, e2⟩ := HBR.out.three
  have ez := HBR.out.frozen
  obtain ⟨r0, r1, r2⟩ := (show Bx _ _ #[.slice none 0 0, .slice none 0 0, .int .i64 0] 50 from (((HBR.out.set 0 (.slice none 0 0)).set 1 (.slice none 0 0)).set 2 (.int .i64 0))).three
  have HBF := hide (((HBel.out.setCell (p := ⟨w.heap.size + 2, 0, none⟩) (by simp) (.slice none 0 0)).setCell (p := ⟨w.heap.size + 2, 1, none⟩) (by simp) (.slice none 0 0)).setCell (p := ⟨w.heap.size + 2, 2, none⟩) (by simp) (.int .i64 0))
  by_cases hpl : Mx.dplace n ps at_ = 0
  · have HPL := hide hpl
    rw [hpl, errV_zero]
    clear hpl
    by_cases h8 : (m : Int) = 800
    · have HE := hide (show Mx.dwrite n ps left at_ = 2 by unfold Mx.dwrite; rw [if_pos HPL.out, if_pos (by rw [HP.out.1]; omega)])
      have hme : ((m : Int) == 800) = true := by simpa using h8
      clear h8
      go_wp2_with fail
      exact bodyPost_ret (v := .tuple #[.agg #[.slice none 0 0, .slice none 0 0, .int .i64 0], .iface 26 (.int .i64 2)]) (by simp [results, Try.results30, go_sem, r0, r1, r2]) rfl ⟨by rw [HE.out]; rfl, HBF.out⟩
    · have hme : ((m : Int) == 800) = false := by simpa using h8
      by_cases hl : left = 0
      · have HE := hide (show Mx.dwrite n ps left at_ = 4 by unfold Mx.dwrite; rw [if_pos HPL.out, if_neg (by rw [HP.out.1]; omega), if_pos hl])
        have hle : (left == 0) = true := by simpa using hl
        clear h8 hl
        go_wp2_with fail
        exact bodyPost_ret (v := .tuple #[.agg #[.slice none 0 0, .slice none 0 0, .int .i64 0], .iface 26 (.int .i64 4)]) (by simp [results, Try.results30, go_sem, r0, r1, r2]) rfl ⟨by rw [HE.out]; rfl, HBF.out⟩
      · exact absurd (show Mx.dwrite n ps left at_ = 0 by unfold Mx.dwrite; rw [if_pos HPL.out, if_neg (by rw [HP.out.1]; omega), if_neg hl]) HM.out
  · have HE := hide (show Mx.dwrite n ps left at_ = Mx.dplace n ps at_ by unfold Mx.dwrite; rw [if_neg hpl])
    rw [errV_not hpl]
    have HPL := hide hpl
    clear hpl
    go_wp2_with fail
    exact bodyPost_ret (v := .tuple #[.agg #[.slice none 0 0, .slice none 0 0, .int .i64 0], .iface 26 (.int .i64 (Mx.dplace n ps at_))]) (by simp [results, Try.results30, go_sem, r0, r1, r2]) rfl ⟨by rw [HE.out, errV_not HPL.out], HBF.out⟩
end Go.Proofs.Ytengpogcdnbabaa
