/-
  Flush: all that is pending is safe, in order.
-/
import Derived.Test.YtengpogcdnbabaaDbox
namespace Go.Proofs.Ytengpogcdnbabaa
open Go.RowKit

namespace Mx
/-- what is safe behind these puts -/
def flushed (ls : List B8) (ps : List Pt) : List B8 := ps.foldl (fun s p => s.set p.at_.toNat p.d) ls
theorem flushed_len (ls : List B8) (ps : List Pt) : (flushed ls ps).length = ls.length := by
  induction ps generalizing ls with
  | nil => rfl
  | cons p ps ih => rw [flushed, List.foldl_cons, ← flushed, ih, List.length_set]
theorem flushed_snoc (ls : List B8) (ps : List Pt) (k : Nat) (p : Pt) (h : ps[k]? = some p) : flushed ls (ps.take (k + 1)) = (flushed ls (ps.take k)).set p.at_.toNat p.d := by
  rw [flushed, List.take_add_one, h, Option.toList_some, List.foldl_append, ← flushed]
  rfl
/-- B2's error of a Flush -/
def dflush (n : Nat) (ps : List Pt) (left : Int) : Int := if dmay n ps = 0 then (if left = 0 then 4 else 0) else dmay n ps
end Mx

/-- a disk that is being made, with nothing pending -/
def MadeF (w1 wf : World) (gn : Nat) (v1 s2 : Value) (ls : List B8) : Prop :=
  Bx wf gn #[v1, .slice none 0 0, s2] 50 ∧ OwnBL wf w1.heap.size v1 ls ∧ Below w1.heap.size w1 wf ∧ w1.heap.size ≤ gn

theorem madeF1 {w1 wB : World} {v1 s2 : Value} {ls : List B8} (hoB : OwnBL wB w1.drew.heap.size v1 ls) (hbB : Past w1 w1.drew wB) : MadeF w1 (wB.alloc (.cells #[v1, .slice none 0 0, s2] 50)) wB.heap.size v1 s2 ls :=
  ⟨Bx.new _ _ _, World.ownsRow.alloc hoB _, hbB.1.alloc hbB.1.size _, hbB.1.size⟩

theorem madeF2 {w1 wB : World} {v1 s2 z0 z1 z2 : Value} {ls : List B8} (hoB : OwnBL wB (w1.alloc (.cells #[z0, z1, z2] 50)).drew.heap.size v1 ls) (hbB : Past w1 (w1.alloc (.cells #[z0, z1, z2] 50)).drew wB) :
    MadeF w1 (((wB.setCell ⟨w1.heap.size, 0, none⟩ v1).setCell ⟨w1.heap.size, 1, none⟩ (.slice none 0 0)).setCell ⟨w1.heap.size, 2, none⟩ s2) w1.heap.size v1 s2 ls := by
  have e3 : (w1.alloc (.cells #[z0, z1, z2] 50)).drew.heap.size = w1.heap.size + 1 := World.size_alloc _ _
  have hx : Bx wB w1.heap.size #[z0, z1, z2] 50 := (Bx.newD w1 #[z0, z1, z2] 50).later hbB.2 (by rw [e3]; omega)
  have n1 := own_ne_bx hoB hx (by decide)
  exact ⟨((hx.set 0 v1).set 1 (.slice none 0 0)).set 2 s2, World.ownsRow.mono (ownsRow_other (ownsRow_other (ownsRow_other hoB _ _ n1) _ _ n1) _ _ n1) (by rw [e3]; omega),
    ((hbB.1.setCell (p := ⟨w1.heap.size, 0, none⟩) (Nat.le_refl _) v1).setCell (p := ⟨w1.heap.size, 1, none⟩) (Nat.le_refl _) (.slice none 0 0)).setCell (p := ⟨w1.heap.size, 2, none⟩) (Nat.le_refl _) s2, Nat.le_refl _⟩

theorem OwnBL.fz {w : World} {base g n c : Nat} {l : List B8} (h : OwnBL w base (.slice (some ⟨g, 0, none⟩) n c) l) : g < w.heap.size ∧ base ≤ g ∧ ∀ o, w.frozen? ⟨g, o, none⟩ = false := by
  rcases h.2 with ⟨hv, _⟩ | ⟨g', cap, cur, hv, hb, hh, _⟩
  · cases hv
  · simp only [Value.slice.injEq, Option.some.injEq, Addr.mk.injEq, and_true] at hv
    obtain ⟨rfl, rfl, rfl⟩ := hv
    exact ⟨(Array.getElem?_eq_some_iff.1 hh).1, hb, fun o => (show Bx w g cur 52 from hh).frozen o⟩

theorem MadeF.put {w1 wf : World} {gn g n c : Nat} {s2 : Value} {ls : List B8} (h : MadeF w1 wf gn (.slice (some ⟨g, 0, none⟩) n c) s2 ls) (o : Obj) (j : Nat) (hj : j < ls.length) (x : B8) : MadeF w1 ((set8 wf g (j * 8) x).alloc o) gn (.slice (some ⟨g, 0, none⟩) n c) s2 (ls.set j x) := by
  have n1 := own_ne_bx h.2.1 h.1 (by decide)
  have hg := (World.ownsRow.lt h.2.1 g rfl).1
  have hb := set8_below h.2.2.1 hg (j * 8) x
  exact ⟨(h.1.set8 (fun e => n1 (by rw [e]; rfl)) _ x).alloc o, World.ownsRow.alloc (OwnBL.put h.2.1 j hj x) o, hb.alloc hb.size o, h.2.2.2⟩

set_option maxHeartbeats 4000000 in
set_option maxRecDepth 100000 in
theorem flush_any (sa pa : Option Addr) (n sc m pc : Nat) (left : Int) (ls : List B8) (ps : List Pt) (w : World) (hs : BL w sa n ls) (hp : PL w pa m ps) (hl1 : -9223372036854775808 ≤ left) (hl2 : left ≤ 9223372036854775807) (hm : Mx.dflush n ps left = 0) :
    Calls Try.prog 31 #[.agg #[.slice sa n sc, .slice pa m pc, .int .i64 left]] w fun e w' =>
      ∃ v1, e = .returned (.tuple #[.agg #[v1, .slice none 0 0, .int .i64 (Mx.less left)], .nilIface]) ∧ OwnBL w' w.heap.size v1 (Mx.flushed ls ps) ∧ Below w.heap.size w w' := by
  obtain ⟨hmay, hleft⟩ : Hid (Mx.dmay n ps = 0) ∧ ¬ left = 0 := by
    unfold Mx.dflush at hm
    split at hm
    · rename_i h1
      split at hm
      · omega
      · rename_i h2
        exact ⟨h1, h2⟩
    · contradiction
  have HS := hide hs
  have HP := hide hp
  have HNN := hide (show n ≤ maxLen from hs.2.2.1)
  have HL := hide (And.intro hl1 hl2)
  obtain ⟨hn0, hn1, hm8, HIN⟩ : 1 ≤ n ∧ n ≤ 200 ∧ m ≤ 800 ∧ Hid (∀ p ∈ ps, 0 ≤ p.at_ ∧ p.at_ < n) := by
    obtain ⟨h1, h2, h3, h4⟩ := Mx.dmay_facts hmay.out
    exact ⟨h1, h2, by rw [← hp.1]; exact h3, h4⟩
  have HLS := hide hs.1
  have HPS := hide hp.1
  clear hs hp hm hl1 hl2
  have hle : (left == 0) = false := by simpa using hleft
  go_enter Try.func31, Try.ntmps31
  go_wp2_with fail
  refine (dcheck_any sa pa n sc m pc left ps _ (HP.out.later ((below_alloc _ _).alloc (by simp) _)) HNN.out).mono ?_
  rintro e w1 ⟨rfl, hb1⟩
  rw [hmay.out, errV_zero]
  have HBD := hide (show Bx w1 w.heap.size #[.slice sa n sc, .slice pa m pc, .int .i64 left] 50 from ((Bx.new w _ 50).alloc _).later hb1 (by simp; omega))
  have HBR := hide (show Bx w1 (w.heap.size + 1) #[.slice none 0 0, .slice none 0 0, .int .i64 0] 50 from by
    have h := (Bx.new (w.alloc (.cells #[.slice sa n sc, .slice pa m pc, .int .i64 left] 50)) #[.slice none 0 0, .slice none 0 0, .int .i64 0] 50).later hb1 (by simp)
    rw [World.size_alloc] at h
    exact h)
  have HBel := hide (((below_alloc w (.cells #[.slice sa n sc, .slice pa m pc, .int .i64 left] 50)).alloc (by simp) _).trans (hb1.mono (by simp; omega)))
  have hsz : w.heap.size + 2 ≤ w1.heap.size := by have := hb1.size; simp at this; omega
  clear hb1
  have HS1 := hide (HS.out.later HBel.out)
  have HP1 := hide (HP.out.later HBel.out)
  obtain ⟨f0, f1, f2⟩ := HBD.out.three
  have hg1 : w.heap.size < w1.heap.size := by omega
  have HN6 := hide (show n ≤ 1000000 by omega)
  go_wp2_with fail
  go_cut [5] (fun s5 wx => ∃ gn a1 c1, s5 = .pointer (some ⟨gn, 0, none⟩) ∧ Hid (MadeF w1 wx gn (.slice a1 n c1) (.int .i64 (Mx.less left)) ls))
  case first =>
    go_region_held (fun w' => w'.cell? ⟨w.heap.size, 0, none⟩ = some (.slice sa n sc) ∧ w'.cell? ⟨w.heap.size, 1, none⟩ = some (.slice pa m pc) ∧ w'.cell? ⟨w.heap.size, 2, none⟩ = some (.int .i64 left) ∧ Below w1.heap.size w1 w')
      (first | exact Held.drew HBD.out | exact Held.of HBD.out hbB.out.1 | assumption | (refine Held.alloc HBD.out ?_ _; assumption) | exact Held.of HBD.out (hbB.out.1.alloc hbB.out.1.size _) | exact Held.of HBD.out ((Below.refl _ _).drew.alloc (Nat.le_refl _) _) | (refine Held.set HBD.out (Held.set HBD.out (Held.set HBD.out ?_ _ ?_ _) _ ?_ _) _ ?_ _ <;> assumption))
      (first
      | (go_at_call 72; refine (cloneB_at2 (w1 := w1) sa n sc ls _ HS1.out HN6.out HBD.out (Bx.newD _ _ _) ?hge ?hbS).mono ?_; (case hge => exact Nat.le_refl _); (case hbS => simp only [*]); rintro e wB ⟨a1, c1, rfl, hoB, hbB, ⟨q0, q1, q2, q3, q4⟩, hxB, hgB, r0, r1, r2, r3, r4⟩)
      | (go_at_call 72; refine (cloneB_at (w1 := w1) sa n sc ls _ HS1.out HN6.out HBD.out ?hbS).mono ?_; (case hbS => simp only [*]); rintro e wB ⟨a1, c1, rfl, hoB, hbB, q0, q1, q2, q3, q4⟩)
      | (go_at_call 74; refine (lessOne_any left _ HL.out.1 HL.out.2).mono ?_; rintro e wL ⟨rfl, rfl⟩))
    all_goals go_wp2_with fail
    all_goals go_meet
    all_goals first
      | exact ⟨_, _, _, rfl, madeF1 hoB.out hbB.out⟩
      | exact ⟨_, _, _, rfl, madeF2 hoB.out hbB.out⟩
  case rest =>
  obtain ⟨gn, a1, c1, rfl, hmd⟩ := hcut
  obtain ⟨g, rfl, hg, hgl, hgn, _⟩ := hmd.out.2.1.form (by omega)
  clear hgn
  have hne1 : ¬ gn = w.heap.size := by have := hmd.out.2.2.2; omega
  obtain ⟨d0, d1, d2⟩ := (HBD.out.later hmd.out.2.2.1 (by omega)).three
  clear f0 f1 f2
  go_wp2_with fail
  go_loopw [7, 29] (fun _ i wr => ∃ k : Nat, k ≤ m ∧ i = .int .i64 k ∧ Hid (MadeF w1 wr gn (.slice (some ⟨g, 0, none⟩) n c1) (.int .i64 (Mx.less left)) (Mx.flushed ls (ps.take k)))) (fun _ i _ => m - (intOf i).toNat)
  case atStart => exact ⟨0, by omega, rfl, by simpa [Mx.flushed] using hmd⟩
  case round =>
    clear d0 d1 d2
    obtain ⟨k, hk, rfl, hmk⟩ := hrel
    by_cases hlt : k < m
    · obtain ⟨b, off, p, hpa, hb, hx, e0, e1, e2, e3, e4, e5, e6, e7, e8⟩ := (HP1.out.later hmk.out.2.2.1).at_ k hlt
      subst hpa
      have hin := HIN.out p (List.mem_of_getElem? hx)
      obtain ⟨j, hj⟩ := Int.eq_ofNat_of_zero_le hin.1
      have HX := hide hx
      have HJ := hide hj
      rw [hj] at e0 hin
      clear hx hj
      have hjn : (j : Int) < n := hin.2
      obtain ⟨y, _, y0, y1, y2, y3, y4, y5, y6, y7⟩ := hmk.out.2.1.at_ j (by omega)
      obtain ⟨hgl2, _, yz⟩ := hmk.out.2.1.fz
      obtain ⟨b0, b1, b2⟩ := hmk.out.1.three
      have bl := hmk.out.1.lt
      have HNX := hide (hmk.out.put (.cells #[.int .i64 j, .int .u8 p.d.z0, .int .u8 p.d.z1, .int .u8 p.d.z2, .int .u8 p.d.z3, .int .u8 p.d.z4, .int .u8 p.d.z5, .int .u8 p.d.z6, .int .u8 p.d.z7] 58) j (by rw [Mx.flushed_len, HLS.out]; omega) p.d)
      go_wp2_with fail
      go_roundw
      case rel =>
        refine ⟨k + 1, by omega, by go_num, ?_⟩
        unfold Hid
        rw [Mx.flushed_snoc ls ps k p HX.out, HJ.out, Int.toNat_natCast]
        exact HNX.out
      case measure => simp [intOf]; omega
    · obtain rfl : k = m := by omega
      have HF := hide (show MadeF w1 wr gn (.slice (some ⟨g, 0, none⟩) n c1) (.int .i64 (Mx.less left)) (Mx.flushed ls ps) from by
        have h := hmk.out
        rw [List.take_of_length_le (Nat.le_of_eq HPS.out)] at h
        exact h)
      obtain ⟨b0, b1, b2⟩ := hmk.out.1.three
      have HR2 := hide (HBR.out.later hmk.out.2.2.1 (by omega))
      obtain ⟨t0, t1, t2⟩ := HR2.out.three
      have tz := HR2.out.frozen
      go_wp2_with fail
      obtain ⟨r0, r1, r2⟩ := (show Bx _ _ #[.slice (some ⟨g, 0, none⟩) n c1, .slice none 0 0, .int .i64 (Mx.less left)] 50 from ((HR2.out.set 0 (.slice (some ⟨g, 0, none⟩) n c1)).set 1 (.slice none 0 0)).set 2 (.int .i64 (Mx.less left))).three
      refine bodyPost_ret (v := .tuple #[.agg #[.slice (some ⟨g, 0, none⟩) n c1, .slice none 0 0, .int .i64 (Mx.less left)], .nilIface]) (by simp [results, Try.results31, go_sem, r0, r1, r2]) rfl ⟨_, rfl, ?_, ?_⟩
      · have k2 := own_ne_bx HF.out.2.1 HR2.out (by decide)
        exact World.ownsRow.mono (ownsRow_other (ownsRow_other (ownsRow_other HF.out.2.1 _ _ k2) _ _ k2) _ _ k2) HBel.out.size
      · have hb := HBel.out.trans (HF.out.2.2.1.mono HBel.out.size)
        exact ((hb.setCell (p := ⟨w.heap.size + 1, 0, none⟩) (by simp) _).setCell (p := ⟨w.heap.size + 1, 1, none⟩) (by simp) _).setCell (p := ⟨w.heap.size + 1, 2, none⟩) (by simp) _

set_option maxHeartbeats 2000000 in
set_option maxRecDepth 100000 in
theorem flush_err (sa pa : Option Addr) (n sc m pc : Nat) (left : Int) (ps : List Pt) (w : World) (hn : n ≤ maxLen) (hp : PL w pa m ps) (hm : ¬ Mx.dflush n ps left = 0) :
    Calls Try.prog 31 #[.agg #[.slice sa n sc, .slice pa m pc, .int .i64 left]] w fun e w' =>
      e = .returned (.tuple #[.agg #[.slice none 0 0, .slice none 0 0, .int .i64 0], errV (Mx.dflush n ps left)]) ∧ Below w.heap.size w w' := by
  have HP := hide hp
  have HM := hide hm
  have HNN := hide hn
  clear hp hm hn
  go_enter Try.func31, Try.ntmps31
  go_wp2_with fail
  refine (dcheck_any sa pa n sc m pc left ps _ (HP.out.later ((below_alloc _ _).alloc (by simp) _)) HNN.out).mono ?_
  rintro e w1 ⟨rfl, hb1⟩
  have HBD := hide (show Bx w1 w.heap.size #[.slice sa n sc, .slice pa m pc, .int .i64 left] 50 from ((Bx.new w _ 50).alloc _).later hb1 (by simp; omega))
  have HBR := hide (show Bx w1 (w.heap.size + 1) #[.slice none 0 0, .slice none 0 0, .int .i64 0] 50 from by
    have h := (Bx.new (w.alloc (.cells #[.slice sa n sc, .slice pa m pc, .int .i64 left] 50)) #[.slice none 0 0, .slice none 0 0, .int .i64 0] 50).later hb1 (by simp)
    rw [World.size_alloc] at h
    exact h)
  have HBel := hide (((below_alloc w (.cells #[.slice sa n sc, .slice pa m pc, .int .i64 left] 50)).alloc (by simp) _).trans (hb1.mono (by simp; omega)))
  clear hb1
  obtain ⟨f0, f1, f2⟩ := HBD.out.three
  obtain ⟨e0, e1, e2⟩ := HBR.out.three
  have ez := HBR.out.frozen
  obtain ⟨r0, r1, r2⟩ := (show Bx _ _ #[.slice none 0 0, .slice none 0 0, .int .i64 0] 50 from (((HBR.out.set 0 (.slice none 0 0)).set 1 (.slice none 0 0)).set 2 (.int .i64 0))).three
  have HBF := hide (((HBel.out.setCell (p := ⟨w.heap.size + 1, 0, none⟩) (by simp) (.slice none 0 0)).setCell (p := ⟨w.heap.size + 1, 1, none⟩) (by simp) (.slice none 0 0)).setCell (p := ⟨w.heap.size + 1, 2, none⟩) (by simp) (.int .i64 0))
  by_cases hpl : Mx.dmay n ps = 0
  · have HPL := hide hpl
    rw [hpl, errV_zero]
    clear hpl
    by_cases hl : left = 0
    · have HE := hide (show Mx.dflush n ps left = 4 by unfold Mx.dflush; rw [if_pos HPL.out, if_pos hl])
      have hle : (left == 0) = true := by simpa using hl
      clear hl
      go_wp2_with fail
      exact bodyPost_ret (v := .tuple #[.agg #[.slice none 0 0, .slice none 0 0, .int .i64 0], .iface 26 (.int .i64 4)]) (by simp [results, Try.results31, go_sem, r0, r1, r2]) rfl ⟨by rw [HE.out]; rfl, HBF.out⟩
    · exact absurd (show Mx.dflush n ps left = 0 by unfold Mx.dflush; rw [if_pos HPL.out, if_neg hl]) HM.out
  · have HE := hide (show Mx.dflush n ps left = Mx.dmay n ps by unfold Mx.dflush; rw [if_neg hpl])
    rw [errV_not hpl]
    have HPL := hide hpl
    clear hpl
    go_wp2_with fail
    exact bodyPost_ret (v := .tuple #[.agg #[.slice none 0 0, .slice none 0 0, .int .i64 0], .iface 26 (.int .i64 (Mx.dmay n ps))]) (by simp [results, Try.results31, go_sem, r0, r1, r2]) rfl ⟨by rw [HE.out, errV_not HPL.out], HBF.out⟩
end Go.Proofs.Ytengpogcdnbabaa
