/-
  What was written behind a barrier that is still known makes of the blocks then those at the last one (TopEpoch): the walk.
-/
import Derived.Test.YtecponfgpegaaacZDclone
import Derived.Test.YtecponfgpegaaacZDbox
import Derived.Test.YtecponfgpegaaacZEl
import Derived.Test.YtecponfgpegaaacZMkb

namespace Go.Proofs.Ytecponfgpegaaac
open Go.RowKit

theorem BuVA.lower {B B' : Nat} {w : World} {v : Value} {b : Bu} (h : BuVA B w v b) (hB : B' ≤ B) : BuVA B' w v b := by
  obtain ⟨oa, on, oc, sa, sn, sc, hv, h1, h5, h2, h3, h4⟩ := h
  exact ⟨oa, on, oc, sa, sn, sc, hv, h1, fun h0 p hp => by have := h5 h0 p hp; omega, h2.lower hB, h3, h4⟩
theorem OwnBL.rd {w : World} {base : Nat} {a : Option Addr} {n c : Nat} {l : List B8} (h : OwnBL w base (.slice a n c) l) : BL w a n l ∧ n ≤ c ∧ ∀ p, a = some p → base ≤ p.block := by
  obtain ⟨a', c', hv, hc, hr, hp⟩ := ownsRow_rowR h
  simp only [Value.slice.injEq] at hv
  obtain ⟨rfl, rfl, rfl⟩ := hv
  exact ⟨⟨rfl, hr⟩, hc, hp⟩
theorem OwnBL.forms {w : World} {base g n c : Nat} {l : List B8} (h : OwnBL w base (.slice (some ⟨g, 0, none⟩) n c) l) (hn : 0 < n) : g < w.heap.size ∧ base ≤ g ∧ l.length = n ∧ ∀ o, w.frozen? ⟨g, o, none⟩ = false := by
  obtain ⟨g', he, h1, h2, h3, h4⟩ := h.form hn
  cases he
  exact ⟨h2, h1, h3, h4⟩

theorem BuVA.parts {B : Nat} {w : World} {num : Int} {xa : Option Addr} {xn xk : Nat} {ya : Option Addr} {yn yk : Nat} {be : Bool} {b : Bu} (h : BuVA B w (.agg #[.int .i64 num, .slice xa xn xk, .slice ya yn yk, .bool be]) b) : PL w xa xn b.op ∧ ELA B w ya yn b.se ∧ xn ≤ xk ∧ yn ≤ yk := by
  obtain ⟨oa, on, oc, sa, sn, sc, hv, h1, h5, h2, h3, h4⟩ := h
  simp at hv
  obtain ⟨_, ⟨rfl, rfl, rfl⟩, ⟨rfl, rfl, rfl⟩, _⟩ := hv
  exact ⟨h1, h2, h3, h4⟩
theorem BuVA.row {B : Nat} {w w' : World} {v : Value} {b : Bu} {row : Option Nat} (h : BuVA B w v b) (hg : w.grownBy w' row) (hr : ∀ g, row = some g → g < B) : BuVA B w' v b := by
  cases row with
  | none => exact h.later ⟨hg.os, hg.tape, hg.output, hg.size, fun k hk => hg.block k hk (by simp)⟩
  | some g => exact h.grown hg (hr g rfl)
theorem Bx.row {w w' : World} {g : Nat} {cs : Array Value} {t : TypeId} {row : Option Nat} (h : Bx w g cs t) (hg : w.grownBy w' row) (hr : row ≠ some g) : Bx w' g cs t := (hg.block g h.lt (fun e => hr e.symm)).trans h
theorem bx_nine {w : World} {g : Nat} {px : Int} {pd : B8} {a0 a1 a2 a3 a4 a5 a6 a7 a8 : Value} {t : TypeId} (h : Bx w g #[a0, a1, a2, a3, a4, a5, a6, a7, a8] t) : Bx (((((((((w.setCell ⟨g, 0, none⟩ (.int .i64 px)).setCell ⟨g, 1, none⟩ (.int .u8 pd.z0)).setCell ⟨g, 2, none⟩ (.int .u8 pd.z1)).setCell ⟨g, 3, none⟩ (.int .u8 pd.z2)).setCell ⟨g, 4, none⟩ (.int .u8 pd.z3)).setCell ⟨g, 5, none⟩ (.int .u8 pd.z4)).setCell ⟨g, 6, none⟩ (.int .u8 pd.z5)).setCell ⟨g, 7, none⟩ (.int .u8 pd.z6)).setCell ⟨g, 8, none⟩ (.int .u8 pd.z7)) g #[.int .i64 px, .int .u8 pd.z0, .int .u8 pd.z1, .int .u8 pd.z2, .int .u8 pd.z3, .int .u8 pd.z4, .int .u8 pd.z5, .int .u8 pd.z6, .int .u8 pd.z7] t := by
  have h9 := (((((((((h.set 0 (.int .i64 px)).set 1 (.int .u8 pd.z0)).set 2 (.int .u8 pd.z1)).set 3 (.int .u8 pd.z2)).set 4 (.int .u8 pd.z3)).set 5 (.int .u8 pd.z4)).set 6 (.int .u8 pd.z5)).set 7 (.int .u8 pd.z6)).set 8 (.int .u8 pd.z7))
  have e : (((((((((#[a0, a1, a2, a3, a4, a5, a6, a7, a8].setIfInBounds 0 (.int .i64 px)).setIfInBounds 1 (.int .u8 pd.z0)).setIfInBounds 2 (.int .u8 pd.z1)).setIfInBounds 3 (.int .u8 pd.z2)).setIfInBounds 4 (.int .u8 pd.z3)).setIfInBounds 5 (.int .u8 pd.z4)).setIfInBounds 6 (.int .u8 pd.z5)).setIfInBounds 7 (.int .u8 pd.z6)).setIfInBounds 8 (.int .u8 pd.z7)) = #[.int .i64 px, .int .u8 pd.z0, .int .u8 pd.z1, .int .u8 pd.z2, .int .u8 pd.z3, .int .u8 pd.z4, .int .u8 pd.z5, .int .u8 pd.z6, .int .u8 pd.z7] := by simp only [List.setIfInBounds_toArray, List.set_cons_zero, List.set_cons_succ]
  rw [e] at h9
  exact h9
theorem nine_below {w w' : World} {g : Nat} {px : Int} {pd : B8} (h : Below g w w') : Below g w (((((((((w'.setCell ⟨g, 0, none⟩ (.int .i64 px)).setCell ⟨g, 1, none⟩ (.int .u8 pd.z0)).setCell ⟨g, 2, none⟩ (.int .u8 pd.z1)).setCell ⟨g, 3, none⟩ (.int .u8 pd.z2)).setCell ⟨g, 4, none⟩ (.int .u8 pd.z3)).setCell ⟨g, 5, none⟩ (.int .u8 pd.z4)).setCell ⟨g, 6, none⟩ (.int .u8 pd.z5)).setCell ⟨g, 7, none⟩ (.int .u8 pd.z6)).setCell ⟨g, 8, none⟩ (.int .u8 pd.z7)) := by
  iterate 9 refine Below.setCell ?_ (by exact Nat.le_refl g) _
  exact h
theorem OwnSn.rd {B : Nat} {w : World} {base : Nat} {a : Option Addr} {n c : Nat} {ls : List (List B8)} (h : OwnSn B w base (.slice a n c) ls) : Sn w a n ls := by
  obtain ⟨a', c', hv, _, hs⟩ := h.sn
  simp only [Value.slice.injEq] at hv
  obtain ⟨rfl, rfl, rfl⟩ := hv
  exact hs
theorem Mx.foldl_mem (ps acc : List Pt) (q : Pt) (h : q ∈ ps.foldl Mx.putR acc) : q ∈ acc ∨ q ∈ ps := by
  induction ps generalizing acc with
  | nil => exact .inl h
  | cons p ps ih =>
    rcases ih (Mx.putR acc p) h with h1 | h1
    · rcases Mx.putR_mem h1 with h2 | h2
      · exact .inr (by rw [h2]; exact List.mem_cons_self ..)
      · exact .inl h2
    · exact .inr (List.mem_cons_of_mem _ h1)
theorem Mx.since_in {b : Bu} {n k : Int} (hb : Mx.bmay b n = 0) (hs : Mx.sinceB b n k = true) : ∀ q ∈ (Mx.sinceE b n k).puts, 0 ≤ q.at_ ∧ q.at_ < n := by
  obtain ⟨h1, _, h3⟩ := Mx.bmay_ok hb
  intro q hq
  have hE : (Mx.sinceE b n k).puts = Mx.putsOf (Mx.keptE b k) := by unfold Mx.sinceE; rw [hs]; rfl
  rw [hE] at hq
  unfold Mx.putsOf at hq
  rcases Mx.foldl_mem _ _ q hq with h | h
  · cases h
  · obtain ⟨e, he, hq'⟩ := List.mem_flatMap.1 h
    obtain ⟨i, hi⟩ := List.mem_iff_getElem?.1 (Mx.keptE_mem e he)
    have hr := (Mx.folB_at (Mx.goodB_parts h3).2.2 hi).1
    exact ⟨(Mx.keptE_rise h3 h1.2.1 e he q hq').1, Mx.rise_lt hr q hq'⟩
theorem Mx.since_len {b : Bu} {n k : Int} (hb : Mx.bmay b n = 0) (hs : Mx.sinceB b n k = true) : (Mx.sinceE b n k).puts.length ≤ 32 := by
  obtain ⟨h1, _, h3⟩ := Mx.bmay_ok hb
  have hE : (Mx.sinceE b n k).puts = Mx.putsOf (Mx.keptE b k) := by unfold Mx.sinceE; rw [hs]; rfl
  rw [hE]
  have h4 := Mx.rk_len (Mx.rk_foldl (ps := (Mx.keptE b k).flatMap (·.puts)) (l := []) trivial (fun q hq => by
    obtain ⟨e, he, hq'⟩ := List.mem_flatMap.1 hq
    exact Mx.keptE_rise h3 h1.2.1 e he q hq')) (by omega)
  unfold Mx.putsOf
  omega
theorem small_of_may {b : Bu} {n : Int} (h : Mx.bmay b n = 0) : Mx.small b.op b.se := by
  obtain ⟨h1, h2, h3⟩ := Mx.small_may h
  exact ⟨fun e he => by have := h3 e he; omega, by omega, by omega⟩

/-- what holds in each round: the builder's box, its memory, the blocks of now, the snapshots, and what they are -/
def TInv (w : World) (N : Nat) (wr : World) (s : Value) (i : Nat) : Prop :=
  ∃ (b : Bu) (snaps : List (List B8)) (now : List B8) (xa : Option Addr) (xn xk : Nat) (ya : Option Addr) (yn yk : Nat) (sa : Option Addr) (sc : Nat),
    s = .slice sa snaps.length sc ∧ Bx wr w.heap.size #[.int .i64 b.num, .slice xa xn xk, .slice ya yn yk, .bool b.be] 85 ∧ BuVA (w.heap.size + 2) wr (.agg #[.int .i64 b.num, .slice xa xn xk, .slice ya yn yk, .bool b.be]) b ∧ OwnBL wr (w.heap.size + 1) (.slice (some ⟨w.heap.size + 1, 0, none⟩) N N) now ∧
    OwnSn (w.heap.size + 2) wr (w.heap.size + 2) s snaps ∧ Mx.Lived N b snaps now ∧ b.num ≤ i ∧ now.length = N ∧ (∀ x ∈ snaps, x.length = N) ∧ Below w.heap.size w wr ∧ w.heap.size + 2 ≤ wr.heap.size

set_option maxHeartbeats 16000000 in
set_option maxRecDepth 100000 in
theorem tepoch_ok (a : Option Addr) (n c : Nat) (l : List Int) (nn at_ many back : Int) (w : World) (hl : Ints w a n l) (hb : I64 l) (hn : n ≤ 128) (h1 : I64x nn) (h2 : I64x at_) (h3 : I64x many) (h4 : I64x back) :
    Calls Try.prog 9 #[.slice a n c, .int .i64 nn, .int .i64 at_, .int .i64 many, .int .i64 back] w fun e w' => e = .returned (.bool true) ∧ Below w.heap.size w w' := by
  have HL := hide hl
  have HB := hide hb
  have H1 := hide h1
  have H2 := hide h2
  have H3 := hide h3
  have H4 := hide h4
  have hnb : ¬ (128 : Int) < n := by omega
  clear hl hb h1 h2 h3 h4
  obtain ⟨N, hN1, hN2, hN⟩ : ∃ N : Nat, 1 ≤ N ∧ N ≤ 32 ∧ Hid (1 + Mx.pick nn 32 = (N : Int)) := ⟨(1 + Mx.pick nn 32).toNat, by have := Mx.pick_pos nn 32 (by omega); omega, by have := Mx.pick_pos nn 32 (by omega); omega, by unfold Hid; have := Mx.pick_pos nn 32 (by omega); omega⟩
  obtain ⟨P, hP1, hP⟩ : ∃ P : Nat, P ≤ 99 ∧ Hid (Mx.pick at_ 100 = (P : Int)) := ⟨(Mx.pick at_ 100).toNat, by have := Mx.pick_pos at_ 100 (by omega); omega, by unfold Hid; have := Mx.pick_pos at_ 100 (by omega); omega⟩
  obtain ⟨M, hM1, hM⟩ : ∃ M : Nat, M ≤ 29 ∧ Hid (Mx.pick many 30 = (M : Int)) := ⟨(Mx.pick many 30).toNat, by have := Mx.pick_pos many 30 (by omega); omega, by unfold Hid; have := Mx.pick_pos many 30 (by omega); omega⟩
  obtain ⟨C, hC, HC⟩ := make_blocks N (by omega)
  go_enter Try.func9, Try.ntmps9
  go_wp2_with fail
  refine (pickv_any nn 32 w H1.out.1 H1.out.2 (by omega) (by omega)).mono ?_
  rintro e wz ⟨rfl, hz⟩
  obtain rfl := hz.symm
  clear hz
  obtain ⟨Q, hQ⟩ : ∃ Q : Int, Hid (Q = Mx.pick nn 32) := ⟨_, rfl⟩
  rw [← hQ.out] at hN ⊢
  have hQN : 1 + Q = (N : Int) := hN.out
  go_wp2_with fail
  refine (pickv_any at_ 100 w H2.out.1 H2.out.2 (by omega) (by omega)).mono ?_
  rintro e wz ⟨rfl, hz⟩
  obtain rfl := hz.symm
  clear hz
  rw [hP.out]
  obtain ⟨w4, hw4⟩ : ∃ w4 : World, Hid (w4 = (w.alloc (.cells #[.int .i64 0, .slice none 0 0, .slice none 0 0, .bool false] 85)).alloc (.cells C 50)) := ⟨_, rfl⟩
  have X4 := hide (show Bx w4 w.heap.size #[.int .i64 0, .slice none 0 0, .slice none 0 0, .bool false] 85 by rw [hw4.out]; exact (Bx.new w _ _).alloc _)
  have Z4 := hide (show OwnBL w4 (w.heap.size + 1) (.slice (some ⟨w.heap.size + 1, 0, none⟩) N N) (List.replicate N zB) by
    rw [hw4.out]
    have h := HC.out (w.alloc (.cells #[.int .i64 0, .slice none 0 0, .slice none 0 0, .bool false] 85)) (w.heap.size + 1) (by simp)
    rw [World.size_alloc] at h
    exact h)
  have B4 := hide (show Below w.heap.size w w4 by rw [hw4.out]; exact (below_alloc _ _).alloc (by simp) _)
  have S4 := hide (show w4.heap.size = w.heap.size + 2 by rw [hw4.out]; simp)
  go_wp2_with fail
  rw [← hw4.out]
  clear hQN hC
  refine (ownBlocks_any (some ⟨w.heap.size + 1, 0, none⟩) N N (List.replicate N zB) w4 Z4.out.rd.1 (by omega)).mono ?_
  rintro e w5 ⟨v5, rfl, hO5, hb5⟩
  obtain ⟨a5, c5, hv5, hc5, hr5, ha5⟩ := ownsRow_rowR hO5
  rw [List.length_replicate] at hv5 hc5 hr5
  subst hv5
  have L5 := hide (show BL w5 a5 N (List.replicate N zB) from ⟨List.length_replicate .., hr5⟩)
  obtain ⟨w6, hw6⟩ : ∃ w6 : World, Hid (w6 = w5.alloc (.cells #[.slice a5 N c5] 23)) := ⟨_, rfl⟩
  have B56 := hide (show Below w5.heap.size w5 w6 by rw [hw6.out]; exact below_alloc _ _)
  have B46 := hide (show Below w4.heap.size w4 w6 from hb5.trans (B56.out.mono hb5.size))
  have S5 := hide hb5.size
  have I6 := hide (show TInv w N w6 (.slice (some ⟨w5.heap.size, 0, none⟩) 1 1) 0 from ⟨Mx.zBu, [List.replicate N zB], List.replicate N zB, none, 0, 0, none, 0, 0, some ⟨w5.heap.size, 0, none⟩, 1, rfl, X4.out.later B46.out X4.out.lt, BuVA.zero _ _, rowKept Z4.out B46.out, by
      rw [hw6.out]
      exact OwnSn.one (by have := S4.out; have := S5.out; omega) L5.out hc5 (fun _ p hp => by have h1 := ha5 p hp; have := S4.out; omega), Mx.lived_init (by omega) _, Int.le_refl 0, List.length_replicate .., fun x hx => by simp at hx; subst hx; exact List.length_replicate .., B4.out.trans (B46.out.mono B4.out.size), by have h1 := S4.out; have h2 := B46.out.size; omega⟩)
  clear hO5 hb5 hr5 ha5 L5
  go_wp2_with fail
  rw [← hw6.out]
  go_loopw [13, 14] (fun s t wr => ∃ i : Nat, i ≤ M ∧ t = .int .i64 (i : Int) ∧ Hid (TInv w N wr s i)) (fun _ t _ => M - (intOf t).toNat)
  case atStart => exact ⟨0, by omega, rfl, I6⟩
  case round =>
    obtain ⟨i, hi, rfl, hI⟩ := hrel
    obtain ⟨b, snaps, now, xa, xn, xk, ya, yn, yk, sa, sc, rfl, iX, iV, iN, iS, iL, iB, iLn, iLs, iW, iZ⟩ := hI.out
    have X0 := hide iX
    have V0 := hide iV
    have N0 := hide iN
    have S0 := hide iS
    have L0 := hide iL
    have W0 := hide iW
    have BN := hide iB
    have LN := hide iLn
    have LS := hide iLs
    have hz0 : w.heap.size + 2 ≤ wr.heap.size := iZ
    clear hI iX iV iN iS iL iB iLn iLs iW iZ
    go_wp2_with fail
    refine (pickv_any many 30 wr H3.out.1 H3.out.2 (by omega) (by omega)).mono ?_
    rintro e wz ⟨rfl, hz⟩
    obtain rfl := hz.symm
    clear hz
    rw [hM.out]
    by_cases hlt : (i : Int) < M
    · go_wp2_with fail
      refine (raw_any a n c l (P + i) wr (HL.out.later W0.out) HB.out (by omega) (by omega)).mono ?_
      rintro e w7 ⟨r, hr, rfl, q7, hq7⟩
      have D7 := hide (show Below wr.heap.size wr w7 by rw [hq7]; exact below_drewN (Below.refl _ _) q7)
      clear hq7
      have X7 := hide (X0.out.later D7.out X0.out.lt)
      have V7 := hide (V0.out.later D7.out)
      have N7 := hide (show OwnBL w7 (w.heap.size + 1) _ now from rowKept N0.out D7.out)
      have S7 := hide (S0.out.later D7.out)
      have W7 := hide (W0.out.trans (D7.out.mono W0.out.size))
      have hz7 : w.heap.size + 2 ≤ w7.heap.size := Nat.le_trans hz0 D7.out.size
      have VP7 := hide (V7.out.parts)
      have SM := hide (small_of_may L0.out.may)
      have OKB := hide (Mx.bmay_ok L0.out.may)
      have hb0 : 0 ≤ b.num := OKB.out.1.2.2.1
      have hb30 : b.num ≤ 30 := by have := BN.out; omega
      have hil : i < M := by omega
      obtain ⟨b0, b1, b2, b3⟩ := X7.out.four
      have bz := X7.out.frozen
      have hbl : w.heap.size < w7.heap.size := by omega
      have hgn : ¬ w.heap.size = w.heap.size + 1 := by omega
      clear X0 V0 N0 S0
      by_cases h3 : (r : Int) % 3 < 2
      · have hd : decide ((r : Int) % 3 < 2) = true := by simpa using h3
        have hN0 : ¬ (N : Int) = 0 := by omega
        have hN0n : ¬ N = 0 := by omega
        have hNb : ((N : Int) == 0) = false := by simpa using hN0
        obtain ⟨J, hJ⟩ : ∃ J : Nat, Hid (J = r / 3 % N) := ⟨_, rfl⟩
        have hJi : (r : Int) / 3 % (N : Int) = (J : Int) := by rw [hJ.out]; push_cast; rfl
        have hJN : J < N := by rw [hJ.out]; exact Nat.mod_lt _ (by omega)
        have hW1 : IntKind.i64.wrap ((P : Int) + (i : Int)) = (P : Int) + (i : Int) := by rw [IntWalk.i64_left, IntWalk.wrap64_in _ (by omega)]
        obtain ⟨R3, hR3⟩ : ∃ R3 : Nat, Hid (R3 = r / 3) := ⟨_, rfl⟩
        have hq1 : (r : Int) / 3 = (R3 : Int) := by rw [hR3.out]; push_cast; rfl
        have hq2 : (r : Int).tdiv 3 = (R3 : Int) := by rw [hR3.out, Int.tdiv_eq_ediv_of_nonneg (by omega)]; push_cast; rfl
        have hm1 : (R3 : Int).tmod (N : Int) = (J : Int) := by rw [hJ.out, hR3.out, Int.tmod_eq_emod_of_nonneg (by omega)]; push_cast; rfl
        have hm2 : (R3 : Int) % (N : Int) = (J : Int) := by rw [hJ.out, hR3.out]; push_cast; rfl
        have hR3b : (R3 : Int) ≤ 1000000000 := by rw [hR3.out]; omega
        have hwR : IntKind.i64.wrap (R3 : Int) = (R3 : Int) := by rw [IntWalk.i64_left, IntWalk.wrap64_in _ (by omega)]
        have hwJ : IntKind.i64.wrap (J : Int) = (J : Int) := by rw [IntWalk.i64_left, IntWalk.wrap64_in _ (by omega)]
        clear hJi
        have HBF := hide (show ∀ (W : World), Ints W a n l → Calls Try.prog 28 #[.slice a n c, .int .i64 ((P : Int) + (i : Int))] W fun e w' => ∃ x : B8, x.ok ∧ e = .returned (.agg #[.int .u8 x.z0, .int .u8 x.z1, .int .u8 x.z2, .int .u8 x.z3, .int .u8 x.z4, .int .u8 x.z5, .int .u8 x.z6, .int .u8 x.z7]) ∧ Hid (Below W.heap.size W w') from fun W hW => by
          have h := blockFrom_any a n c l (P + i) W hW HB.out (by omega) (by omega)
          push_cast at h
          exact h)
        go_wp2_with fail
        go_cut [17] (fun s wx => ∃ (g : Nat) (y : B8), s = .pointer (some ⟨g, 0, none⟩) ∧ Hid (Bx wx g #[.int .i64 (J : Int), .int .u8 y.z0, .int .u8 y.z1, .int .u8 y.z2, .int .u8 y.z3, .int .u8 y.z4, .int .u8 y.z5, .int .u8 y.z6, .int .u8 y.z7] 52) ∧ Hid (w7.heap.size ≤ g) ∧ Hid (Below w7.heap.size w7 wx))
        case first =>
          go_region_held3 (fun w' => True) (exact trivial)
            (first
              | (go_at_call 28; (with_reducible refine (HBF.out w7.drew ((HL.out.later W7.out).later (Below.refl _ _).drew)).mono ?_); rintro e w8 ⟨y, _, rfl, hb8⟩; have D8 := hide (drew_below hb8.out))
              | (go_at_call 28; (with_reducible refine (HBF.out (w7.alloc (.cells #[.int .i64 0, .int .u8 0, .int .u8 0, .int .u8 0, .int .u8 0, .int .u8 0, .int .u8 0, .int .u8 0, .int .u8 0] 52)).drew ((HL.out.later W7.out).later (below_alloc _ _).drew)).mono ?_); rintro e w8 ⟨y, _, rfl, hb8⟩; have D8 := hide (alloc_drew_below hb8.out); have XZ := hide ((Bx.newD w7 #[.int .i64 0, .int .u8 0, .int .u8 0, .int .u8 0, .int .u8 0, .int .u8 0, .int .u8 0, .int .u8 0, .int .u8 0] 52).later hb8.out (by show w7.heap.size < (w7.alloc _).heap.size; simp)); obtain ⟨z0, z1, z2, z3, z4, z5, z6, z7, z8⟩ := Bx.nine (p := ⟨0, zB⟩) XZ.out; dsimp only [zB] at z0 z1 z2 z3 z4 z5 z6 z7 z8; have zz := XZ.out.frozen))
          all_goals go_wp2_with fail
          all_goals go_meet
          · exact ⟨w8.heap.size, y, rfl, hide (Bx.new _ _ _), hide D8.out.size, hide (D8.out.alloc D8.out.size _)⟩
          · refine ⟨w7.heap.size, y, rfl, ?_, Nat.le_refl _, ?_⟩
            · exact bx_nine (px := (J : Int)) (pd := y) XZ.out
            · exact nine_below (px := (J : Int)) (pd := y) D8.out
        case rest =>
        obtain ⟨gp, y, rfl, XP8, GP, D8⟩ := hcut
        have X8 := hide (X7.out.later D8.out hbl)
        have V8 := hide (V7.out.later D8.out)
        have N8 := hide (show OwnBL wc (w.heap.size + 1) _ now from rowKept N7.out D8.out)
        have S8 := hide (S7.out.later D8.out)
        have W8 := hide (W7.out.trans (D8.out.mono (by omega)))
        have hgp : w7.heap.size ≤ gp := GP.out
        have hgpl : gp < wc.heap.size := XP8.out.lt
        have hNl : now.length = N := LN.out
        obtain ⟨w8, hw8⟩ : ∃ x : World, Hid (x = wc) := ⟨_, rfl⟩
        rw [← hw8.out] at X8 V8 N8 S8 W8 XP8 D8 hgpl ⊢
        obtain ⟨q0, q1, q2, q3, q4, q5, q6, q7, q8⟩ := Bx.nine (p := ⟨(J : Int), y⟩) XP8.out
        dsimp only at q0 q1 q2 q3 q4 q5 q6 q7 q8
        obtain ⟨yy, _, y0, y1, y2, y3, y4, y5, y6, y7⟩ := N8.out.at_ J hJN
        obtain ⟨hgl, _, _, yz⟩ := N8.out.forms (by omega)
        have hJi2 : (J : Int) < N := by omega
        have hJ0 : (0 : Int) ≤ (J : Int) := by omega
        obtain ⟨W9, hW9⟩ : ∃ W9 : World, Hid (W9 = set8 w8 (w.heap.size + 1) (J * 8) y) := ⟨_, rfl⟩
        have G9 := hide (show w8.grownBy W9 (some (w.heap.size + 1)) by rw [hW9.out]; exact grow_set8 (grow_refl _ _) _ _)
        have N9 := hide (show OwnBL W9 (w.heap.size + 1) (.slice (some ⟨w.heap.size + 1, 0, none⟩) N N) (now.set J y) by rw [hW9.out]; exact N8.out.put J (by omega) y)
        have X9 := hide (X8.out.row G9.out (by simp))
        have XP9 := hide (XP8.out.row G9.out (fun e => by have : w.heap.size + 1 = gp := Option.some.inj e; omega))
        have V9 := hide (V8.out.grown G9.out (by omega))
        have S9 := hide (S8.out.grown G9.out (by omega) (by omega))
        have B9 := hide (show Below w.heap.size w W9 by rw [hW9.out]; exact set8_below W8.out (by omega) _ _)
        have hz9 : w7.heap.size ≤ W9.heap.size := Nat.le_trans D8.out.size G9.out.size
        clear b0 b1 b2 b3 bz
        go_upto_region 16 with fail
        unfold set8 at hW9
        rw [← hW9.out]
        clear q0 q1 q2 q3 q4 q5 q6 q7 q8 y0 y1 y2 y3 y4 y5 y6 y7 yz
        obtain ⟨q0, q1, q2, q3, q4, q5, q6, q7, q8⟩ := Bx.nine (p := ⟨(J : Int), y⟩) XP9.out
        dsimp only at q0 q1 q2 q3 q4 q5 q6 q7 q8
        obtain ⟨b0, b1, b2, b3⟩ := X9.out.four
        have HAM := hide (show Mx.amay ⟨b.num, b.op, b.se, b.be⟩ (N : Int) ⟨(J : Int), y⟩ = 0 from Mx.amay_0 (b := b) L0.out.may (by show ¬ ((J : Int) < 0 ∨ (N : Int) ≤ (J : Int)); omega))
        have HAD := hide (show Mx.added ⟨b.num, b.op, b.se, b.be⟩ (N : Int) ⟨(J : Int), y⟩ = Mx.addB b ⟨(J : Int), y⟩ from Mx.added_ok HAM.out)
        have LV := hide (Mx.lived_add (p := ⟨(J : Int), y⟩) L0.out hJ0 hJi2)
        go_wp2_with fail
        refine (add_own b.num xa xn xk ya yn yk b.be b.op b.se N J y W9 V9.out.parts.1 V9.out.parts.2.1.el SM.out).mono ?_
        rintro e w10 ⟨v10, rfl, V10, D10⟩
        rw [HAD.out] at V10
        rw [HAM.out, errV_zero]
        have VB := V10.out
        obtain ⟨ua, un, uk, ta, tn, tk, rfl, _⟩ := VB
        have X10 := hide (X9.out.later D10.out X9.out.lt)
        have S10 := hide (S9.out.later D10.out)
        have N10 := hide (show OwnBL w10 (w.heap.size + 1) _ (now.set J y) from rowKept N9.out D10.out)
        clear b0 b1 b2 b3 q0 q1 q2 q3 q4 q5 q6 q7 q8
        obtain ⟨b0, b1, b2, b3⟩ := X10.out.four
        have bz := X10.out.frozen
        obtain ⟨W11, hW11⟩ : ∃ W11 : World, Hid (W11 = set4 w10 w.heap.size (.int .i64 (Mx.addB b ⟨(J : Int), y⟩).num) (.slice ua un uk) (.slice ta tn tk) (.bool (Mx.addB b ⟨(J : Int), y⟩).be)) := ⟨_, rfl⟩
        have G11 := hide (show w10.grownBy W11 (some w.heap.size) by rw [hW11.out]; exact set4_grown (grow_refl _ _) _ _ _ _)
        have X11 := hide (show Bx W11 w.heap.size #[.int .i64 (Mx.addB b ⟨(J : Int), y⟩).num, .slice ua un uk, .slice ta tn tk, .bool (Mx.addB b ⟨(J : Int), y⟩).be] 85 by rw [hW11.out]; exact X10.out.four_set _ _ _ _)
        have V11 := hide ((V10.out.grown G11.out (by omega)).lower (Nat.le_trans hz7 hz9))
        have S11 := hide (S10.out.grown G11.out (by omega) (by omega))
        have N11 := hide (show OwnBL W11 (w.heap.size + 1) _ (now.set J y) from World.ownsRow.kept N10.out G11.out (.inr (fun e => hgn (by simp [Value.ownBlock] at e))))
        have B11 := hide (show Below w.heap.size w W11 by rw [hW11.out]; exact set4_below (B9.out.trans (D10.out.mono (by omega))) (Nat.le_refl _) _ _ _ _)
        have hz11 : w.heap.size + 2 ≤ W11.heap.size := by have h1 := G11.out.size; have h2 := D10.out.size; omega
        have hcmp : ((Mx.addB b ⟨(J : Int), y⟩).num != ((snaps.length : Nat) : Int) - 1) = false := by
          have h1 := L0.out.len
          simp
          show b.num = _
          omega
        have hSLb : snaps.length ≤ 100 := by have h1 := L0.out.len; omega
        obtain ⟨SL, hSL⟩ : ∃ SL : Nat, Hid (SL = snaps.length) := ⟨_, rfl⟩
        rw [← hSL.out] at hcmp hSLb ⊢
        go_upto_region 19 with fail
        unfold set4 at hW11
        rw [← hW11.out]
        clear b0 b1 b2 b3 bz
        obtain ⟨b0, b1, b2, b3⟩ := X11.out.four
        go_wp2_with fail
        go_roundw
        case rel => exact ⟨i + 1, by omega, by go_num, Mx.addB b ⟨(J : Int), y⟩, snaps, now.set J y, ua, un, uk, ta, tn, tk, sa, sc, by rw [hSL.out], X11.out, V11.out, N11.out, by rw [hSL.out]; exact S11.out, LV.out, by show b.num ≤ _; have := BN.out; push_cast; omega, by rw [List.length_set]; exact LN.out, LS.out, B11.out, hz11⟩
        case measure => simp [intOf]; omega
      · have hd : decide ((r : Int) % 3 < 2) = false := by simpa using h3
        have HSM := hide (show Mx.smay ⟨b.num, b.op, b.se, b.be⟩ (N : Int) = 0 from Mx.smay_0 (b := b) L0.out.may (by omega))
        have HSD := hide (show Mx.sealed ⟨b.num, b.op, b.se, b.be⟩ (N : Int) = Mx.sealE b from Mx.sealed_ok HSM.out)
        have LV := hide (Mx.lived_seal L0.out (by omega))
        go_wp2_with fail
        refine (seal_own b.num xa xn xk ya yn yk b.be b.op b.se N w7 VP7.out.1 VP7.out.2.1.el SM.out).mono ?_
        rintro e w8 ⟨v8, rfl, V8, B8_⟩
        rw [HSD.out] at V8
        rw [HSM.out, errV_zero]
        have VB := V8.out
        obtain ⟨ua, un, uk, ta, tn, tk, rfl, _⟩ := VB
        have X8 := hide (X7.out.later B8_.out hbl)
        have S8 := hide (S7.out.later B8_.out)
        have N8 := hide (show OwnBL w8 (w.heap.size + 1) _ now from rowKept N7.out B8_.out)
        clear b0 b1 b2 b3 bz
        obtain ⟨b0, b1, b2, b3⟩ := X8.out.four
        have bz := X8.out.frozen
        obtain ⟨W9, hW9⟩ : ∃ W9 : World, Hid (W9 = set4 w8 w.heap.size (.int .i64 (Mx.sealE b).num) (.slice ua un uk) (.slice ta tn tk) (.bool (Mx.sealE b).be)) := ⟨_, rfl⟩
        have G9 := hide (show w8.grownBy W9 (some w.heap.size) by rw [hW9.out]; exact set4_grown (grow_refl _ _) _ _ _ _)
        have X9 := hide (show Bx W9 w.heap.size #[.int .i64 (Mx.sealE b).num, .slice ua un uk, .slice ta tn tk, .bool (Mx.sealE b).be] 85 by rw [hW9.out]; exact X8.out.four_set _ _ _ _)
        have V9 := hide (V8.out.grown G9.out hbl)
        have S9 := hide (S8.out.grown G9.out (by omega) (by omega))
        have N9 := hide (show OwnBL W9 (w.heap.size + 1) _ now from World.ownsRow.kept N8.out G9.out (.inr (fun e => hgn (by simp [Value.ownBlock] at e))))
        have B9 := hide (show Below w.heap.size w W9 by rw [hW9.out]; exact set4_below (W7.out.trans (B8_.out.mono (by omega))) (Nat.le_refl _) _ _ _ _)
        have hz9 : w7.heap.size ≤ W9.heap.size := Nat.le_trans B8_.out.size G9.out.size
        go_wp2_with fail
        unfold set4 at hW9
        rw [← hW9.out]
        clear b0 b1 b2 b3 bz
        refine (ownBlocks_any (some ⟨w.heap.size + 1, 0, none⟩) N N now W9 N9.out.rd.1 (by omega)).mono ?_
        rintro e w10 ⟨v10, rfl, hO10, hb10⟩
        obtain ⟨a10, c10, hv10, hc10, hr10, ha10⟩ := ownsRow_rowR hO10
        rw [LN.out] at hv10 hc10 hr10
        subst hv10
        have L10 := hide (show BL w10 a10 N now from ⟨LN.out, hr10⟩)
        have A10 := hide ha10
        have C10 := hide hc10
        have D10 := hide hb10
        have S10 := hide (S9.out.later hb10)
        clear hO10 hb10 hr10 ha10 hc10
        go_wp2_with (at_builtin; refine wpList_append_sn (w := w10) rfl _ _ rfl (w.heap.size + 2) (w.heap.size + 2) snaps ?o1 a10 N c10 now ?o2 ?o3 ?o4 ?o5 ?o6 ?o7 ?_)
        case o1 => exact S10.out
        case o2 => exact L10.out
        case o3 => exact C10.out
        case o4 => exact fun _ p hp => ⟨fun e => by have h1 := (S9.out.lt _ e).2; have h2 := A10.out p hp; omega, by have h2 := A10.out p hp; omega⟩
        case o5 => rfl
        case o6 => have := L0.out.len; omega
        case o7 => have := D10.out.size; omega
        intro v11 w11 hO11 hG11
        obtain ⟨s11, c11, hv11, _, _⟩ := hO11.sn
        subst hv11
        have G11 := hide (show w10.grownBy w11 (Value.slice sa snaps.length sc).ownBlock from hG11)
        have X11 := hide ((X9.out.later D10.out X9.out.lt).row G11.out (fun e => by have := (S9.out.lt _ e).1; omega))
        have V11 := hide (((V9.out.later D10.out).row G11.out (fun g hg => (S7.out.lt g hg).2)).lower hz7)
        have N11 := hide (show OwnBL w11 (w.heap.size + 1) _ now from World.ownsRow.kept (rowKept N9.out D10.out) G11.out (.inr (fun e => by have h1 : w.heap.size + 2 ≤ w.heap.size + 1 := (S9.out.lt _ e.symm).1; omega)))
        have B11 := hide (B9.out.trans (((D10.out.mono (by omega)).trans ((Below.refl _ _).grown G11.out (by have := D10.out.size; omega) (fun g hg => by have := (S9.out.lt g hg).1; omega)))))
        have hz11 : w.heap.size + 2 ≤ w11.heap.size := by have h1 := G11.out.size; have h2 := D10.out.size; omega
        have O11 := hide hO11
        have hcmp : ((Mx.sealE b).num != (((snaps ++ [now]).length : Nat) : Int) - 1) = false := by
          have h1 := L0.out.len
          rw [List.length_append, List.length_singleton]
          simp
          show b.num + 1 = _
          omega
        clear hO11 hG11
        obtain ⟨b0, b1, b2, b3⟩ := X11.out.four
        obtain ⟨SL, hSL⟩ : ∃ SL : Nat, Hid (SL = (snaps ++ [now]).length) := ⟨_, rfl⟩
        have hSLb : SL ≤ 100 := by have h1 := L0.out.len; rw [hSL.out, List.length_append, List.length_singleton]; omega
        rw [← hSL.out] at hcmp ⊢
        go_wp2_with fail
        go_roundw
        case rel =>
          refine ⟨i + 1, by omega, by go_num, Mx.sealE b, snaps ++ [now], now, ua, un, uk, ta, tn, tk, s11, c11, by rw [hSL.out], X11.out, V11.out, N11.out, by rw [hSL.out]; exact O11.out, LV.out, by show b.num + 1 ≤ _; have := BN.out; push_cast; omega, LN.out, fun x hx => ?_, B11.out, hz11⟩
          rcases List.mem_append.1 hx with h | h
          · exact LS.out x h
          · simp at h
            subst h
            exact LN.out
        case measure => simp [intOf]; omega
    · have SN0 := hide (S0.out.rd)
      have SM := hide (small_of_may L0.out.may)
      have OKB := hide (Mx.bmay_ok L0.out.may)
      have VP0 := hide (V0.out.parts)
      have hb0 : 0 ≤ b.num := OKB.out.1.2.2.1
      have hb30 : b.num ≤ 30 := by have := BN.out; omega
      have hlen : (snaps.length : Int) = b.num + 1 := L0.out.len
      obtain ⟨SL, hSL⟩ : ∃ SL : Nat, Hid (SL = snaps.length) := ⟨_, rfl⟩
      rw [← hSL.out] at hlen SN0 ⊢
      obtain ⟨K, hK1, hK⟩ : ∃ K : Nat, K < SL ∧ Hid (Mx.pick back (SL : Int) = (K : Int)) := ⟨(Mx.pick back (SL : Int)).toNat, by have := Mx.pick_pos back (SL : Int) (by omega); omega, by unfold Hid; have := Mx.pick_pos back (SL : Int) (by omega); omega⟩
      have hSLb : SL ≤ 31 := by omega
      have hSL0 : (0 : Int) < (SL : Int) := by omega
      have hKn : (K : Int) ≤ b.num := by omega
      have HLEN := hide hlen
      clear hlen
      have HNM := hide (show Mx.nmay ⟨b.num, b.op, b.se, b.be⟩ (N : Int) (K : Int) = 0 from Mx.nmay_0 (b := b) L0.out.may (by show ¬ ((K : Int) < 0 ∨ b.num < (K : Int)); omega))
      obtain ⟨b0, b1, b2, b3⟩ := X0.out.four
      go_wp2_with fail
      refine (pickv_any back (SL : Int) wr H4.out.1 H4.out.2 hSL0 (by omega)).mono ?_
      rintro e wz ⟨rfl, hz⟩
      obtain rfl := hz.symm
      clear hz
      rw [hK.out]
      go_wp2_with fail
      refine (since_any b.num xa xn xk ya yn yk b.be b.op b.se N K wr VP0.out.1 VP0.out.2.1.el SM.out VP0.out.2.2.2).mono ?_
      rintro e w8 ⟨pa, pn, pk, rfl, PS8, D8⟩
      rw [HNM.out, errV_zero]
      have X8 := hide (X0.out.later D8.out X0.out.lt)
      have SN8 := hide (SN0.out.later D8.out)
      have W8 := hide (W0.out.trans (D8.out.mono W0.out.size))
      clear b0 b1 b2 b3
      obtain ⟨b0, b1, b2, b3⟩ := X8.out.four
      have hxl : w.heap.size < w8.heap.size := X8.out.lt
      cases hs : Mx.sinceB ⟨b.num, b.op, b.se, b.be⟩ (N : Int) (K : Int) with
      | false =>
        have hbe : b.be = true := Mx.lived_far L0.out (by omega) (by omega) hs
        clear hs
        rw [hbe] at b3
        by_cases hle : b.num - (K : Int) ≤ 4
        · have dle : decide (b.num - (K : Int) ≤ 4) = true := by simpa using hle
          go_wp2_with fail
          go_ret
          exact ⟨rfl, W8.out.alloc W8.out.size _⟩
        · have dle : decide (b.num - (K : Int) ≤ 4) = false := by simpa using hle
          go_wp2_with fail
          go_ret
          exact ⟨rfl, W8.out.alloc W8.out.size _⟩
      | true =>
        have HSI := hide (Mx.since_in (b := b) L0.out.may hs)
        have HSL := hide (Mx.since_len (b := b) L0.out.may hs)
        have HLS := hide (fun x hx => Mx.lived_since (x := x) L0.out (k := (K : Int)) (by omega) (by omega) hs hx)
        clear hs
        obtain ⟨ps, hps⟩ : ∃ ps, Hid (ps = (Mx.sinceE b (N : Int) (K : Int)).puts) := ⟨_, rfl⟩
        rw [← hps.out] at HSI HSL HLS
        have PS8b := hide (show PL w8 pa pn ps by rw [hps.out]; exact PS8.out)
        have hpn : pn ≤ 32 := by have h1 := PS8b.out.1; have h2 := HSL.out; omega
        have HPN := hide PS8b.out.1
        obtain ⟨sb, so, x, ai, ni, ci, hsa, hsb, hx, e0, hBx, hci⟩ := SN8.out.at_ K hK1
        subst hsa
        have hxN : x.length = N := LS.out x (List.mem_of_getElem? hx)
        obtain rfl : ni = N := by have := hBx.1; omega
        have HFIN := hide (HLS.out x (by rw [Int.toNat_natCast]; exact hx))
        have BX := hide hBx
        clear hx hBx PS8
        obtain ⟨w9, hw9⟩ : ∃ w9 : World, Hid (w9 = w8.alloc (.cells #[.int .i64 (Mx.sinceE ⟨b.num, b.op, b.se, b.be⟩ (ni : Int) (K : Int)).num, .slice pa pn pk] 91)) := ⟨_, rfl⟩
        have XE9 := hide (show Bx w9 w8.heap.size #[.int .i64 (Mx.sinceE ⟨b.num, b.op, b.se, b.be⟩ (ni : Int) (K : Int)).num, .slice pa pn pk] 91 by rw [hw9.out]; exact Bx.new w8 _ _)
        have D9 := hide (show Below w8.heap.size w8 w9 by rw [hw9.out]; exact below_alloc _ _)
        have W9 := hide (W8.out.trans (D9.out.mono W8.out.size))
        go_wp2_with fail
        rw [← hw9.out]
        clear b0 b1 b2 b3 e0
        refine (ownBlocks_any ai ni ci x w9 (BX.out.later D9.out) (by omega)).mono ?_
        rintro e w10 ⟨v10, rfl, hO10, hb10⟩
        obtain ⟨a10, c10, hv10, _⟩ := hO10.bl
        rw [hxN] at hv10
        subst hv10
        obtain ⟨g, rfl, hg9, _⟩ := hO10.form (by omega)
        have O10 := hide hO10
        have D10 := hide hb10
        clear hO10 hb10
        have SN9 := hide (SN8.out.later D9.out)
        have PS9 := hide (PS8b.out.later D9.out)
        have hE9 : w8.heap.size < w9.heap.size := XE9.out.lt
        have hgE : ¬ g = w8.heap.size := by omega
        go_wp2_with fail
        go_loopw [23] (fun t wx => ∃ j : Nat, j ≤ pn ∧ t = .int .i64 (j : Int) ∧ Hid (OwnBL wx w9.heap.size (.slice (some ⟨g, 0, none⟩) ni c10) (Mx.lay x (ps.take j))) ∧ Hid (Below w9.heap.size w9 wx)) (fun t _ => pn - (intOf t).toNat)
        case atStart => exact ⟨0, by omega, rfl, O10, D10⟩
        case round =>
          obtain ⟨j, hj, rfl, hOx, hBx⟩ := hrel
          obtain ⟨f0, f1⟩ := Bx.pair (XE9.out.later hBx.out hE9)
          by_cases hlt2 : j < pn
          · obtain ⟨pb, po, p, hpa, hpl, hp, _⟩ := PS9.out.at_ j hlt2
            subst hpa
            obtain ⟨pb2, po2, p2, hpa2, _, hp2, q0, q1, q2, q3, q4, q5, q6, q7, q8⟩ := (PS9.out.later hBx.out).at_ j hlt2
            cases hpa2
            have hpp := hp.symm.trans hp2
            cases hpp
            have hin := HSI.out p (List.mem_of_getElem? hp)
            obtain ⟨J, hJ⟩ := Int.eq_ofNat_of_zero_le hin.1
            have HXK := hide hp
            have HJ := hide hJ
            rw [hJ] at q0 hin
            have hin' : (J : Int) < ni := hin.2
            have hin0 : (0 : Int) ≤ (J : Int) := hin.1
            obtain ⟨yy, _, y0, y1, y2, y3, y4, y5, y6, y7⟩ := hOx.out.at_ J (by omega)
            obtain ⟨hgl, _, hln, yz⟩ := hOx.out.forms (by omega)
            have hgb : ¬ g = pb := by omega
            have HNX := hide (hOx.out.put J (by rw [hln]; omega) p.d)
            have HN2 := hide (show OwnBL (set8 wr g (J * 8) p.d).drew w9.heap.size _ (Mx.lay x (ps.take (j + 1))) ∧ Below w9.heap.size w9 (set8 wr g (J * 8) p.d).drew from by
              have h5 : Mx.lay x (ps.take (j + 1)) = (Mx.lay x (ps.take j)).set J p.d := by
                unfold Mx.lay
                rw [getElem_take_succ _ _ _ HXK.out, List.foldl_append]
                show Mx.layIn _ p = _
                unfold Mx.layIn
                rw [HJ.out, Int.toNat_natCast]
              rw [h5]
              exact ⟨World.ownsRow.drew HNX.out, (set8_below hBx.out hg9 (J * 8) p.d).drew⟩)
            clear HNX hp hp2 hJ hin
            have hd0 : decide ((J : Int) < 0) = false := by simp
            have hd1 : decide ((ni : Int) ≤ (J : Int)) = false := by simp; omega
            have hji : (j : Int) < pn := by omega
            go_wp2_with fail
            go_region_held (fun w' => w'.cell? ⟨w8.heap.size, 1, none⟩ = some (.slice (some ⟨pb, po, none⟩) pn pk) ∧ w'.cell? ⟨pb, po + j * 9, none⟩ = some (.int .i64 (J : Int)) ∧ w'.cell? ⟨pb, po + j * 9 + 1, none⟩ = some (.int .u8 p.d.z0) ∧ w'.cell? ⟨pb, po + j * 9 + 2, none⟩ = some (.int .u8 p.d.z1) ∧ w'.cell? ⟨pb, po + j * 9 + 3, none⟩ = some (.int .u8 p.d.z2) ∧ w'.cell? ⟨pb, po + j * 9 + 4, none⟩ = some (.int .u8 p.d.z3) ∧ w'.cell? ⟨pb, po + j * 9 + 5, none⟩ = some (.int .u8 p.d.z4) ∧ w'.cell? ⟨pb, po + j * 9 + 6, none⟩ = some (.int .u8 p.d.z5) ∧ w'.cell? ⟨pb, po + j * 9 + 7, none⟩ = some (.int .u8 p.d.z6) ∧ w'.cell? ⟨pb, po + j * 9 + 8, none⟩ = some (.int .u8 p.d.z7))
              ((simp only [cell_drew, cell_set_far hgE, cell_set_far hgb]; with_reducible exact ⟨f1, q0, q1, q2, q3, q4, q5, q6, q7, q8⟩)) (fail)
            go_wp2_with fail
            go_roundw
            case rel => exact ⟨j + 1, by omega, by go_num, HN2.out.1, HN2.out.2⟩
            case measure => simp [intOf]; omega
          · have OF := hide (show OwnBL wr w9.heap.size (.slice (some ⟨g, 0, none⟩) ni c10) (Mx.lay x ps) by
              have h := hOx.out
              rw [List.take_of_length_le (by rw [HPN.out]; omega)] at h
              exact h)
            obtain ⟨T1, hT1⟩ : ∃ T1 : Nat, Hid (T1 + 1 = SL) := ⟨SL - 1, by unfold Hid; omega⟩
            have hT2 : (SL : Int) - 1 = (T1 : Int) := by have := hT1.out; omega
            have hT3 : (T1 : Int) < SL := by have := hT1.out; omega
            obtain ⟨sb2, so2, x2, ai2, ni2, ci2, hsa2, hsb2, hx2, g0, hB2, _⟩ := (SN9.out.later hBx.out).at_ T1 (by have := hT1.out; omega)
            cases hsa2
            have HEQ := hide (show Mx.lay x ps = x2 by
              have h1 := HFIN.out
              have h2 := HLEN.out
              rw [show b.num.toNat = T1 by have := hT1.out; omega, hx2] at h1
              exact (Option.some.inj h1).symm)
            have HB2 := hide hB2
            have BF := hide (W9.out.trans (hBx.out.mono W9.out.size))
            clear hx2 hB2
            go_wp2_with fail
            refine (sameBL_gen (some ⟨g, 0, none⟩) ai2 ni c10 ni2 ci2 (Mx.lay x ps) x2 wr OF.out.rd.1 HB2.out).mono ?_
            rintro e w12 ⟨rr, rfl, hrr, q12, hq12⟩
            obtain rfl : rr = true := hrr.2 HEQ.out
            have BF2 := hide (show Below w.heap.size w w12 by rw [hq12]; exact below_drewN BF.out q12)
            clear hrr hq12
            go_wp2_with fail
            go_ret
            exact ⟨rfl, BF2.out⟩

set_option maxRecDepth 100000 in
theorem tepoch_big (a : Option Addr) (n c : Nat) (nn at_ many back : Int) (w : World) (h : 128 < n) :
    Calls Try.prog 9 #[.slice a n c, .int .i64 nn, .int .i64 at_, .int .i64 many, .int .i64 back] w fun e w' => e = .returned (.bool true) ∧ Below w.heap.size w w' := by
  have hnb : (128 : Int) < n := by omega
  go_enter Try.func9, Try.ntmps9
  go_wp2
  go_ret
  exact ⟨rfl, Below.refl _ _⟩

theorem tepoch_any (a : Option Addr) (n c : Nat) (l : List Int) (nn at_ many back : Int) (w : World) (hl : Ints w a n l) (hb : I64 l) (h1 : I64x nn) (h2 : I64x at_) (h3 : I64x many) (h4 : I64x back) :
    Calls Try.prog 9 #[.slice a n c, .int .i64 nn, .int .i64 at_, .int .i64 many, .int .i64 back] w fun e w' => e = .returned (.bool true) ∧ Below w.heap.size w w' := by
  by_cases h : 128 < n
  · exact tepoch_big a n c nn at_ many back w h
  · exact tepoch_ok a n c l nn at_ many back w hl hb (by omega) h1 h2 h3 h4
end Go.Proofs.Ytecponfgpegaaac
