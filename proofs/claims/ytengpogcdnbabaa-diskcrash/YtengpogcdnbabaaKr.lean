/-
  What a crash leaves, as the document's answer has it (Crashed).
-/
import Derived.Test.YtengpogcdnbabaaKc
import Derived.Test.YtengpogcdnbabaaDownd
namespace Go.Proofs.Ytengpogcdnbabaa
open Go.RowKit

/-- a disk that is being made -/
def MadeG (w1 wf : World) (gn : Nat) (v1 v2 s2 : Value) (ls : List B8) : Prop :=
  Bx wf gn #[v1, v2, s2] 50 ∧ OwnBL wf w1.heap.size v1 ls ∧ Below w1.heap.size w1 wf ∧ w1.heap.size ≤ gn
theorem MadeG.set1 {w1 wr : World} {gn g n c : Nat} {v2 s2 : Value} {ls : List B8} (h : MadeG w1 wr gn (.slice (some ⟨g, 0, none⟩) n c) v2 s2 ls) {j kk : Nat} {o x : B8} {v : Value} (hj : ls[j]? = some o) (hk : kk < 8) (hx : x.cs = o.cs.set kk v) :
    MadeG w1 (wr.setCell ⟨g, j * 8 + kk, none⟩ v).drew gn (.slice (some ⟨g, 0, none⟩) n c) v2 s2 (ls.set j x) := by
  have n1 := own_ne_bx h.2.1 h.1 (by decide)
  have hgb := (World.ownsRow.lt h.2.1 g rfl).1
  exact ⟨Bx.drewH (h.1.other _ _ (fun e => n1 (by rw [e]; rfl))), World.ownsRow.drew (OwnBL.set1 h.2.1 hj hk hx), (h.2.2.1.setCell (p := ⟨g, j * 8 + kk, none⟩) hgb v).drew, h.2.2.2⟩

theorem PL.data {w : World} {b off n : Nat} {l : List Pt} (h : PL w (some ⟨b, off, none⟩) n l) (k : Nat) (hk : k < n) {p : Pt} (hp : l[k]? = some p) (t : Nat) (ht : t < 8) : ∃ z : Int, p.d.cs[t]? = some (.int .u8 z) ∧ w.cell? ⟨b, off + k * 9 + 1 + t, none⟩ = some (.int .u8 z) := by
  obtain ⟨h0, h1, h2, h4⟩ := h
  obtain ⟨b', off', ha, hlt, hc⟩ := h4 (by omega)
  cases ha
  have hz : ∃ z : Int, p.d.cs[t]? = some (.int .u8 z) := by
    match t, ht with
    | 0, _ => exact ⟨_, rfl⟩
    | 1, _ => exact ⟨_, rfl⟩
    | 2, _ => exact ⟨_, rfl⟩
    | 3, _ => exact ⟨_, rfl⟩
    | 4, _ => exact ⟨_, rfl⟩
    | 5, _ => exact ⟨_, rfl⟩
    | 6, _ => exact ⟨_, rfl⟩
    | 7, _ => exact ⟨_, rfl⟩
    | n + 8, h => omega
  obtain ⟨z, hz⟩ := hz
  refine ⟨z, hz, ?_⟩
  have e := flatMap_at Pt.cs 9 (fun _ => rfl) l k (t + 1) _ hp (by omega)
  have h5 := hc (k * 9 + (t + 1)) (.int .u8 z) (by rw [flatP, e]; exact hz)
  rw [show off + k * 9 + 1 + t = off + (k * 9 + (t + 1)) by omega]
  exact h5
theorem OwnBL.cellAt {w : World} {base g n cap : Nat} {l : List B8} (h : OwnBL w base (.slice (some ⟨g, 0, none⟩) n cap) l) (j t : Nat) (hj : j < n) (ht : t < 8) : ∃ v, w.cell? ⟨g, j * 8 + t, none⟩ = some (.int .u8 v) := by
  obtain ⟨x, _, y0, y1, y2, y3, y4, y5, y6, y7⟩ := h.at_ j hj
  match t, ht with
  | 0, _ => exact ⟨_, y0⟩
  | 1, _ => exact ⟨_, y1⟩
  | 2, _ => exact ⟨_, y2⟩
  | 3, _ => exact ⟨_, y3⟩
  | 4, _ => exact ⟨_, y4⟩
  | 5, _ => exact ⟨_, y5⟩
  | 6, _ => exact ⟨_, y6⟩
  | 7, _ => exact ⟨_, y7⟩
  | n + 8, h => omega

set_option maxHeartbeats 8000000 in
set_option maxRecDepth 100000 in
theorem crashed_any (sa pa ba : Option Addr) (n sc m pc nb bc : Nat) (left : Int) (ls : List B8) (ps : List Pt) (bs : List Int) (w : World) (hs : BL w sa n ls) (hp : PL w pa m ps) (hi : Ints w ba nb bs) (hbd : ∀ z ∈ bs, -9223372036854775808 ≤ z ∧ z ≤ 9223372036854775807) (hm : Mx.dmay n ps = 0) :
    Calls Try.prog 33 #[.agg #[.slice sa n sc, .slice pa m pc, .int .i64 left], .slice ba nb bc] w fun e w' =>
      ∃ a1 c1, e = .returned (.agg #[.slice a1 n c1, .slice none 0 0, .int .i64 (-1)]) ∧ Hid (OwnBL w' w.heap.size (.slice a1 n c1) (Mx.crash ls ps bs)) ∧ Hid (Below w.heap.size w w') := by
  have HS := hide hs
  have HP := hide hp
  have HI := hide hi
  have HBD := hide hbd
  obtain ⟨hn0, hn1, hm8, HIN⟩ : 1 ≤ n ∧ n ≤ 200 ∧ m ≤ 800 ∧ Hid (∀ p ∈ ps, 0 ≤ p.at_ ∧ p.at_ < n) := by
    obtain ⟨h1, h2, h3, h4⟩ := Mx.dmay_facts hm
    exact ⟨h1, h2, by rw [← hp.1]; exact h3, h4⟩
  have hnb : nb ≤ 9223372036854775807 := by have := hi.2.1; unfold maxLen at this; omega
  have HLS := hide hs.1
  have HPS := hide hp.1
  have HIS := hide hi.1
  clear hs hp hi hbd hm
  go_enter Try.func33, Try.ntmps33
  go_wp2_with fail
  obtain ⟨w0, hw0⟩ : ∃ w0 : World, Hid (w0 = (w.alloc (.cells #[.slice sa n sc, .slice pa m pc, .int .i64 left] 50)).alloc (.cells #[.slice none 0 0, .slice none 0 0, .int .i64 0] 50)) := ⟨_, rfl⟩
  rw [← hw0.out]
  have B0 := hide (show Below w.heap.size w w0 by rw [hw0.out]; exact (below_alloc _ _).alloc (by simp) _)
  have X0 := hide (show Bx w0 w.heap.size #[.slice sa n sc, .slice pa m pc, .int .i64 left] 50 by rw [hw0.out]; exact (Bx.new w _ 50).alloc _)
  have R0 := hide (show Bx w0 (w.heap.size + 1) #[.slice none 0 0, .slice none 0 0, .int .i64 0] 50 by
    rw [hw0.out]
    have h := Bx.new (w.alloc (.cells #[.slice sa n sc, .slice pa m pc, .int .i64 left] 50)) #[.slice none 0 0, .slice none 0 0, .int .i64 0] 50
    rw [World.size_alloc] at h
    exact h)
  have hsz : w.heap.size + 2 ≤ w0.heap.size := by rw [hw0.out]; simp
  refine (ownDisk_any sa pa n sc m pc left ls ps w0 (HS.out.later B0.out) (HP.out.later B0.out) (by omega) (by omega)).mono ?_
  rintro e w1 ⟨a1, k1, a2, k2, rfl, hO1, hO2, hb1⟩
  obtain ⟨g, rfl, hg, hgl, _, _⟩ := hO1.out.form (by omega)
  obtain ⟨go, hgo⟩ : ∃ go, Hid (go = w1.heap.size) := ⟨_, rfl⟩
  obtain ⟨w2, hw2⟩ : ∃ w2 : World, Hid (w2 = w1.alloc (.cells #[.slice (some ⟨g, 0, none⟩) n k1, .slice a2 m k2, .int .i64 left] 50)) := ⟨_, rfl⟩
  have HM2 := hide (show MadeG w0 w2 go (.slice (some ⟨g, 0, none⟩) n k1) (.slice a2 m k2) (.int .i64 left)  ls by rw [hw2.out, hgo.out]; exact ⟨Bx.new _ _ _, World.ownsRow.alloc hO1.out _, hb1.out.alloc hb1.out.size _, hb1.out.size⟩)
  have HP0 := hide (HP.out.later B0.out)
  have HI0 := hide (HI.out.later B0.out)
  go_wp2_with fail
  rw [← hw2.out, ← hgo.out]
  go_loopw [6] (fun i wr => ∃ k : Nat, k ≤ m ∧ i = .int .i64 k ∧ Hid (MadeG w0 wr go (.slice (some ⟨g, 0, none⟩) n k1) (.slice a2 m k2) (.int .i64 left)  (Mx.crashK ls ps bs k))) (fun i _ => m - (intOf i).toNat)
  case atStart => exact ⟨0, by omega, rfl, HM2⟩
  case round =>
    obtain ⟨k, hk, rfl, hmk⟩ := hrel
    have Xwr := hide (X0.out.later hmk.out.2.2.1 (by omega))
    obtain ⟨f0, f1, f2⟩ := Xwr.out.three
    by_cases hlt : k < m
    · obtain ⟨b, off, p, hpa, hb, hx, e0, _⟩ := (HP0.out.later hmk.out.2.2.1).at_ k hlt
      subst hpa
      have hin := HIN.out p (List.mem_of_getElem? hx)
      obtain ⟨j, hj⟩ := Int.eq_ofNat_of_zero_le hin.1
      have HX := hide hx
      have HJ := hide hj
      rw [hj] at hin
      clear hx hj e0
      have hjn : (j : Int) < n := hin.2
      have hjl : (Mx.crashK ls ps bs k)[j]? = some ((Mx.crashK ls ps bs k).getD j zB) := by
        have hjn' : j < (Mx.crashK ls ps bs k).length := by rw [Mx.crashK_len, HLS.out]; omega
        rw [List.getD_eq_getElem?_getD, List.getElem?_eq_getElem hjn']
        rfl
      have HJL := hide hjl
      clear hjl
      have HBP := hide (show b < w0.heap.size by
        obtain ⟨b', o', e', hl', _⟩ := HP0.out.2.2.2 (by omega)
        cases e'
        exact hl')
      by_cases hlb : (k : Int) < nb
      · obtain ⟨bb, boff, hba, hbb, hbc⟩ := (HI0.out.later hmk.out.2.2.1).2.2 (by omega)
        subst hba
        have hbk := hbc k (by omega)
        clear hbc
        obtain ⟨z, hz⟩ : ∃ z : Int, Hid (z = bs.getD k 0) := ⟨_, rfl⟩
        rw [← hz.out] at hbk
        have HZ := hide (show bs[k]? = some z by
          have hkl : k < bs.length := by rw [HIS.out]; omega
          rw [hz.out, List.getD_eq_getElem?_getD, List.getElem?_eq_getElem hkl]
          rfl)
        have HZB := hide (HBD.out z (List.mem_of_getElem? HZ.out))
        obtain ⟨kk, hkk⟩ := Int.eq_ofNat_of_zero_le (Mx.kept_lt z).1
        have hkk8 : (kk : Int) ≤ 8 := by rw [← hkk]; exact (Mx.kept_lt z).2
        have HKK := hide hkk
        clear hkk
        go_wp2_with fail
        refine (pick9_any z wr HZB.out.1 HZB.out.2).mono ?_
        rintro e wr' ⟨rfl, rfl⟩
        rw [HKK.out]
        go_wp2_with fail
        clear f0 f1 f2 hbk
        go_loopw [8] (fun i wt => ∃ t : Nat, t ≤ kk ∧ i = .int .i64 t ∧ Hid (MadeG w0 wt go (.slice (some ⟨g, 0, none⟩) n k1) (.slice a2 m k2) (.int .i64 left)  ((Mx.crashK ls ps bs k).set j (Mx.mixB t p.d ((Mx.crashK ls ps bs k).getD j zB))))) (fun i _ => kk - (intOf i).toNat)
        case atStart =>
          refine ⟨0, by omega, rfl, ?_⟩
          have e : (Mx.crashK ls ps bs k).set j (Mx.mixB 0 p.d ((Mx.crashK ls ps bs k).getD j zB)) = Mx.crashK ls ps bs k := by
            rw [Mx.mixB_zero]
            exact List.ext_getElem? fun i => by
              rw [List.getElem?_set]
              split
              · rename_i h; subst h; split
                · exact HJL.out.symm
                · rename_i h2; rw [List.getElem?_eq_none (by omega)]
              · rfl
          rw [e]
          exact hmk
        case round =>
          obtain ⟨t, ht, rfl, hmt⟩ := hrel
          by_cases htk : (t : Int) < kk
          · have Xwt := hide (X0.out.later hmt.out.2.2.1 (by omega))
            obtain ⟨f0, f1, f2⟩ := Xwt.out.three
            obtain ⟨b0, b1, b2⟩ := hmt.out.1.three
            obtain ⟨b3, off3, p3, hpa3, _, hx3, e0, _⟩ := (HP0.out.later hmt.out.2.2.1).at_ k hlt
            cases hpa3
            obtain rfl : p3 = p := by rw [HX.out] at hx3; exact (Option.some.inj hx3).symm
            rw [HJ.out] at e0
            obtain ⟨zt, hzt, e1⟩ := (HP0.out.later hmt.out.2.2.1).data k hlt HX.out t (by omega)
            obtain ⟨yt, hyt⟩ := hmt.out.2.1.cellAt j t (by omega) (by omega)
            obtain ⟨_, _, yz⟩ := hmt.out.2.1.fz
            have n1 : ¬ g = go := fun e => own_ne_bx hmt.out.2.1 hmt.out.1 (by decide) (by rw [← e]; rfl)
            have n2 : ¬ g = w.heap.size := by omega
            have n3 : ¬ g = b := by have := HBP.out; omega
            have ht8 : (t : Int) < 8 := by omega
            have HN2 := hide (show MadeG w0 (wr.setCell ⟨g, j * 8 + t, none⟩ (.int .u8 zt)).drew go (.slice (some ⟨g, 0, none⟩) n k1) (.slice a2 m k2) (.int .i64 left) ((Mx.crashK ls ps bs k).set j (Mx.mixB (t + 1) p3.d ((Mx.crashK ls ps bs k).getD j zB))) by
              have hj2 : ((Mx.crashK ls ps bs k).set j (Mx.mixB t p3.d ((Mx.crashK ls ps bs k).getD j zB)))[j]? = some (Mx.mixB t p3.d ((Mx.crashK ls ps bs k).getD j zB)) := by
                rw [List.getElem?_set_self]
                exact (List.getElem?_eq_some_iff.1 HJL.out).1
              have h := hmt.out.set1 hj2 (kk := t) (by omega) (Mx.mixB_set t (by omega) p3.d ((Mx.crashK ls ps bs k).getD j zB) _ hzt)
              rw [List.set_set] at h
              exact h)
            clear hzt hx3
            go_wp2_with fail
            go_region_held3 (fun w' => w'.cell? ⟨go, 0, none⟩ = some (.slice (some ⟨g, 0, none⟩) n k1) ∧ w'.cell? ⟨w.heap.size, 1, none⟩ = some (.slice (some ⟨b, off, none⟩) m pc) ∧ w'.cell? ⟨b, off + k * 9, none⟩ = some (.int .i64 (j : Int)) ∧ w'.cell? ⟨b, off + k * 9 + 1 + t, none⟩ = some (.int .u8 zt))
              (simp [*, World.cell?_setCell_far]) (fail)
            go_wp2_with fail
            go_roundw
            case rel => exact ⟨t + 1, by omega, by go_num, HN2⟩
            case measure => simp [intOf]; omega
          · have HNX := hide (show MadeG w0 wr go (.slice (some ⟨g, 0, none⟩) n k1) (.slice a2 m k2) (.int .i64 left)  (Mx.crashK ls ps bs (k + 1)) by
              have hat : p.at_.toNat = j := by rw [HJ.out]; rfl
              rw [Mx.crashK_succ HX.out HZ.out, Mx.tornL_at _ (by rw [hat]; exact HJL.out), hat, HKK.out, Int.toNat_natCast]
              obtain rfl : t = kk := by omega
              exact hmt.out)
            go_wp2_with fail
            go_roundw
            case rel => exact ⟨k + 1, by omega, by go_num, HNX⟩
            case measure => simp [intOf]; omega
      · have HNX := hide (show MadeG w0 wr go (.slice (some ⟨g, 0, none⟩) n k1) (.slice a2 m k2) (.int .i64 left)  (Mx.crashK ls ps bs (k + 1)) by
          rw [Mx.crashK_all (.inr (by rw [HIS.out]; omega)), ← Mx.crashK_all (j := k) (.inr (by rw [HIS.out]; omega))]
          exact hmk.out)
        go_wp2_with fail
        clear f0 f1 f2
        go_loopw [8] (fun i wt => i = .int .i64 0 ∧ wt = wr) (fun i _ => 0)
        case atStart => exact ⟨rfl, rfl⟩
        case round =>
          obtain ⟨rfl, rfl⟩ := hrel
          go_wp2_with fail
          go_roundw
          case rel => exact ⟨k + 1, by omega, by go_num, HNX⟩
          case measure => simp [intOf]; omega
    · have HF := hide (show MadeG w0 wr go (.slice (some ⟨g, 0, none⟩) n k1) (.slice a2 m k2) (.int .i64 left)  (Mx.crash ls ps bs) from by
        have h := hmk.out
        rw [Mx.crashK_all (.inl (by rw [HPS.out]; omega))] at h
        exact h)
      obtain ⟨b0, b1, b2⟩ := HF.out.1.three
      have bz := HF.out.1.frozen
      have HR2 := hide (R0.out.later HF.out.2.2.1 (by omega))
      obtain ⟨t0, t1, t2⟩ := HR2.out.three
      have tz := HR2.out.frozen
      have bl := HF.out.1.lt
      have hgn1 := HF.out.2.2.2
      have hgw : ¬ go = w.heap.size + 1 := by omega
      have hgw2 : ¬ w.heap.size + 1 = go := by omega
      go_wp2_with fail
      have HR3 := hide (show Bx ((wr.setCell ⟨go, 1, none⟩ (.slice none 0 0)).setCell ⟨go, 2, none⟩ (.int .i64 (-1))) (w.heap.size + 1) _ 50 from (HR2.out.other _ _ hgw2).other _ _ hgw2)
      obtain ⟨r0, r1, r2⟩ := (show Bx _ _ #[.slice (some ⟨g, 0, none⟩) n k1, .slice none 0 0, .int .i64 (-1)] 50 from ((HR3.out.set 0 (.slice (some ⟨g, 0, none⟩) n k1)).set 1 (.slice none 0 0)).set 2 (.int .i64 (-1))).three
      refine bodyPost_ret (v := .agg #[.slice (some ⟨g, 0, none⟩) n k1, .slice none 0 0, .int .i64 (-1)]) (by simp [results, Try.results33, go_sem, r0, r1, r2]) rfl ⟨some ⟨g, 0, none⟩, k1, rfl, ?_, ?_⟩
      · have q1 := own_ne_bx HF.out.2.1 HF.out.1 (by decide)
        have q2 := own_ne_bx HF.out.2.1 HR2.out (by decide)
        exact World.ownsRow.mono (ownsRow_other (ownsRow_other (ownsRow_other (ownsRow_other (ownsRow_other HF.out.2.1 _ _ q1) _ _ q1) _ _ q2) _ _ q2) _ _ q2) B0.out.size
      · have hb := B0.out.trans (HF.out.2.2.1.mono B0.out.size)
        exact ((((hb.setCell (p := ⟨go, 1, none⟩) (by simp; omega) _).setCell (p := ⟨go, 2, none⟩) (by simp; omega) _).setCell (p := ⟨w.heap.size + 1, 0, none⟩) (by simp) _).setCell (p := ⟨w.heap.size + 1, 1, none⟩) (by simp) _).setCell (p := ⟨w.heap.size + 1, 2, none⟩) (by simp) _

end Go.Proofs.Ytengpogcdnbabaa
