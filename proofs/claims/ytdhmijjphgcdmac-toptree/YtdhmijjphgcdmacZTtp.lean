/-
  A tree into which blocks were put one by one is the tree of what is there then (TopTree): the walk.
-/
import Derived.Test.YtdhmijjphgcdmacZMkb
import Derived.Test.YtdhmijjphgcdmacZDbox
import Derived.Test.YtdhmijjphgcdmacZTs
import Derived.Test.YtdhmijjphgcdmacZTof

namespace Go.Proofs.Ytdhmijjphgcdmac
open Go.RowKit

namespace Mx
/-- the i-th place -/
def kat (N P i : Nat) : Nat := (i * 7 + P) % N
/-- what is there behind so many puts -/
def nows (N P : Nat) (l : List B8) : Nat → List B8
  | 0 => List.replicate N zB
  | i + 1 => (nows N P l i).set (kat N P i) (l.getD (kat N P i) zB)
theorem nows_len (N P : Nat) (l : List B8) (i : Nat) : (nows N P l i).length = N := by
  induction i with
  | zero => simp [nows]
  | succ i ih => rw [nows, List.length_set, ih]
theorem kat_lt (N P i : Nat) (h : 1 ≤ N) : kat N P i < N := Nat.mod_lt _ (by omega)
theorem nows_map (N P : Nat) (l : List B8) (i : Nat) {x : B8} (hx : l.getD (kat N P i) zB = x) : ((nows N P l i).map blockD).set (kat N P i) (blockD x) = (nows N P l (i + 1)).map blockD := by
  rw [nows, List.map_set, hx]
theorem nows_ok (N P : Nat) (l : List B8) (hl : ∀ x ∈ l, x.ok) (i : Nat) : ∀ x ∈ nows N P l i, x.ok := by
  induction i with
  | zero =>
    intro x hx
    rw [nows] at hx
    rw [List.eq_of_mem_replicate hx]
    exact zB_ok
  | succ i ih =>
    intro x hx
    rw [nows] at hx
    rcases List.mem_or_eq_of_mem_set hx with h | h
    · exact ih x h
    · rw [h, List.getD_eq_getElem?_getD]
      cases hg : l[kat N P i]? with
      | none => exact zB_ok
      | some y => exact hl y (List.mem_of_getElem? hg)
end Mx

/-- a tree's box, and a block's cells, in a world that has all that was there -/
def S9 (wo : World) (g b o : Nat) (v : Value) (x : B8) (w : World) : Prop := BelS wo w ∧ w.cell? ⟨g, 0, none⟩ = some v ∧ w.cell? ⟨b, o, none⟩ = some (.int .u8 x.z0) ∧ w.cell? ⟨b, o + 1, none⟩ = some (.int .u8 x.z1) ∧ w.cell? ⟨b, o + 2, none⟩ = some (.int .u8 x.z2) ∧ w.cell? ⟨b, o + 3, none⟩ = some (.int .u8 x.z3) ∧ w.cell? ⟨b, o + 4, none⟩ = some (.int .u8 x.z4) ∧ w.cell? ⟨b, o + 5, none⟩ = some (.int .u8 x.z5) ∧ w.cell? ⟨b, o + 6, none⟩ = some (.int .u8 x.z6) ∧ w.cell? ⟨b, o + 7, none⟩ = some (.int .u8 x.z7)
theorem S9.of {w w' : World} {g b o : Nat} {v : Value} {x : B8} (h : S9 w g b o v x w) (hg : g < w.heap.size) (hbl : b < w.heap.size) (hb : BelS w w') : S9 w g b o v x w' := by
  obtain ⟨_, h9, h0, h1, h2, h3, h4, h5, h6, h7⟩ := h
  have e := fun j => hb.out.cell (p := ⟨b, j, none⟩) hbl
  exact ⟨hb, (hb.out.cell (p := ⟨g, 0, none⟩) hg).trans h9, (e _).trans h0, (e _).trans h1, (e _).trans h2, (e _).trans h3, (e _).trans h4, (e _).trans h5, (e _).trans h6, (e _).trans h7⟩
theorem BelS.alloc {W w : World} (h : BelS W w) (o : Obj) : BelS W (w.alloc o) := ⟨h.out.alloc h.out.size o⟩
theorem BelS.setNew {W w : World} (h : BelS W w) (p : Addr) (hp : W.heap.size ≤ p.block) (v : Value) : BelS W (w.setCell p v) := ⟨h.out.setCell hp v⟩
theorem tput_from (W v : World) (a : Option Addr) (k c : Nat) (l : List Nat) (j : Nat) (x : B8) (hv : BelS W v) (h : Lvls W a k (Mx.levels l)) (hk : 1 ≤ k) (h1 : 1 ≤ l.length) (h2 : l.length ≤ 32) (hm : Mx.tmay (Mx.levels l) = 0) (hx : x.ok) (hj : j < l.length) :
    Calls Try.prog 25 #[.agg #[.slice a k c], .int .i64 (j : Int), .agg #[.int .u8 x.z0, .int .u8 x.z1, .int .u8 x.z2, .int .u8 x.z3, .int .u8 x.z4, .int .u8 x.z5, .int .u8 x.z6, .int .u8 x.z7]] v fun e w' =>
      ∃ a' k' cap', e = .returned (.tuple #[.agg #[.slice a' k' cap'], .nilIface]) ∧ Hid (LvlsA v.heap.size w' a' k' (Mx.levels (l.set j (Mx.blockD x)))) ∧ Hid (Below v.heap.size v w') ∧ BelS W w' :=
  (tput_ok a k c l j x v (h.later hv.out) hk h1 h2 (Mx.levels_head l).1 hm hx hj).mono fun _ _ ⟨a', k', cap', h1, h2, h3⟩ => ⟨a', k', cap', h1, h2.out.2.2, h3, ⟨hv.out.trans (h3.out.mono hv.out.size)⟩⟩

set_option maxRecDepth 100000 in
theorem ttree_big (a : Option Addr) (n c : Nat) (nn at_ : Int) (w : World) (h : 128 < n) :
    Calls Try.prog 5 #[.slice a n c, .int .i64 nn, .int .i64 at_] w fun e w' => e = .returned (.bool true) ∧ Below w.heap.size w w' := by
  have h1 : (128 : Int) < n := by omega
  go_enter Try.func5, Try.ntmps5
  go_wp2
  go_ret
  exact ⟨rfl, Below.refl _ _⟩

set_option maxHeartbeats 8000000 in
set_option maxRecDepth 100000 in
theorem ttree_ok (a : Option Addr) (n c : Nat) (l : List Int) (nn at_ : Int) (w : World) (hl : Ints w a n l) (hb : I64 l) (hn : n ≤ 128) (h1 : I64x nn) (h2 : I64x at_) :
    Calls Try.prog 5 #[.slice a n c, .int .i64 nn, .int .i64 at_] w fun e w' => e = .returned (.bool true) ∧ Below w.heap.size w w' := by
  have HL := hide hl
  have HB := hide hb
  have H1 := hide h1
  have H2 := hide h2
  have hnb : ¬ (128 : Int) < n := by omega
  clear hl hb h1 h2
  obtain ⟨N, hN1, hN2, hN⟩ : ∃ N : Nat, 1 ≤ N ∧ N ≤ 32 ∧ Hid (1 + Mx.pick nn 32 = (N : Int)) := ⟨(1 + Mx.pick nn 32).toNat, by have := Mx.pick_pos nn 32 (by omega); omega, by have := Mx.pick_pos nn 32 (by omega); omega, by unfold Hid; have := Mx.pick_pos nn 32 (by omega); omega⟩
  obtain ⟨P, hP1, hP⟩ : ∃ P : Nat, P ≤ 99 ∧ Hid (Mx.pick at_ 100 = (P : Int)) := ⟨(Mx.pick at_ 100).toNat, by have := Mx.pick_pos at_ 100 (by omega); omega, by unfold Hid; have := Mx.pick_pos at_ 100 (by omega); omega⟩
  obtain ⟨C, hC, HC⟩ := make_blocks N (by omega)
  go_enter Try.func5, Try.ntmps5
  go_wp2_with fail
  refine (pickv_any nn 32 w H1.out.1 H1.out.2 (by omega) (by omega)).mono ?_
  rintro e w1 ⟨rfl, rfl⟩
  obtain ⟨Q, hQ⟩ : ∃ Q : Int, Hid (Q = Mx.pick nn 32) := ⟨_, rfl⟩
  rw [← hQ.out] at hN ⊢
  have hQN : 1 + Q = (N : Int) := hN.out
  go_wp2_with fail
  refine (pickv_any at_ 100 w1 H2.out.1 H2.out.2 (by omega) (by omega)).mono ?_
  rintro e w2 ⟨rfl, rfl⟩
  rw [hP.out]
  go_wp2_with fail
  refine (blocksFrom_any a n c l P N w2 HL.out HB.out (by omega) (by omega) (by omega)).mono ?_
  rintro e w3 ⟨v3, bs, rfl, hbs, hbo, hO3, hb3⟩
  obtain ⟨a3, c3, hv3, hB3, _⟩ := hO3.out.bl
  rw [hbs] at hv3 hB3
  subst hv3
  have BL3 := hide hB3
  have HBS := hide hbs
  have HBO := hide hbo
  have B3 := hide hb3.out
  clear hbs hbo hB3 hQN hb3 hO3
  obtain ⟨w4, hw4⟩ : ∃ w4 : World, Hid (w4 = w3.alloc (.cells C 50)) := ⟨_, rfl⟩
  have Z4 := hide (show BL w4 (some ⟨w3.heap.size, 0, none⟩) N (List.replicate N zB) by rw [hw4.out]; exact (HC.out w3 w3.heap.size (Nat.le_refl _)).asBL)
  have B34 := hide (show Below w3.heap.size w3 w4 by rw [hw4.out]; exact below_alloc _ _)
  have B4 := hide (B3.out.trans (B34.out.mono B3.out.size))
  go_wp2_with fail
  rw [← hw4.out]
  refine (of_any (some ⟨w3.heap.size, 0, none⟩) N N (List.replicate N zB) w4 Z4.out (fun x hx => by rw [List.eq_of_mem_replicate hx]; exact zB_ok) hN1 hN2).mono ?_
  rintro e w5 ⟨a5, k5, cap5, rfl, hL5, hb5⟩
  obtain ⟨w6, hw6⟩ : ∃ w6 : World, Hid (w6 = w5.alloc (.cells #[.slice a5 k5 cap5] 60)) := ⟨_, rfl⟩
  have B35 := hide (B34.out.trans (hb5.out.mono B34.out.size))
  have T6 := hide (show Bx w6 w5.heap.size #[.slice a5 k5 cap5] 60 by rw [hw6.out]; exact Bx.new _ _ _)
  have B56 := hide (show Below w5.heap.size w5 w6 by rw [hw6.out]; exact below_alloc _ _)
  have L6 := hide (show Lvls w6 a5 k5 (Mx.levels ((Mx.nows N P bs 0).map Mx.blockD)) from hL5.out.1.later B56.out)
  have B36 := hide (B35.out.trans (B56.out.mono B35.out.size))
  have hs5 : w3.heap.size ≤ w5.heap.size := B35.out.size
  clear hL5 hb5 B56
  go_upto_region 9 with fail
  rw [← hw6.out]
  go_wp2_with fail
  go_loopw [10] (fun t wr => ∃ (i k' c' : Nat) (a' : Option Addr), t = .int .i64 (i : Int) ∧ i ≤ N ∧ Hid (Bx wr w5.heap.size #[.slice a' k' c'] 60) ∧ Hid (Lvls wr a' k' (Mx.levels ((Mx.nows N P bs i).map Mx.blockD))) ∧ Hid (Below w3.heap.size w3 wr)) (fun t _ => N - (intOf t).toNat)
  case atStart => exact ⟨0, k5, cap5, a5, rfl, Nat.zero_le _, T6, L6, B36⟩
  case round =>
    obtain ⟨i, k', c', a', rfl, hi, hT, hLv, hB⟩ := hrel
    obtain ⟨wo, rfl⟩ : ∃ wo, wo = wr := ⟨wr, rfl⟩
    by_cases hlt : (i : Int) < N
    · obtain ⟨K, hK⟩ : ∃ K : Nat, Hid (K = Mx.kat N P i) := ⟨_, rfl⟩
      have hKe : ((i : Int) * 7 + (P : Int)) % (N : Int) = (K : Int) := by rw [hK.out, Mx.kat]; push_cast; rfl
      have hKN : K < N := by rw [hK.out]; exact Mx.kat_lt N P i hN1
      have hKi : (K : Int) < N := by omega
      have hNz : ¬ (N : Int) = 0 := by omega
      obtain ⟨b, off, x, hab, hbw, hx, e0, e1, e2, e3, e4, e5, e6, e7⟩ := (BL3.out.later hB.out).at_ K hKN
      subst hab
      have HXO := hide (HBO.out x (List.mem_of_getElem? hx))
      have HXD := hide (show bs.getD (Mx.kat N P i) zB = x by rw [← hK.out, List.getD_eq_getElem?_getD, hx]; rfl)
      have t0 := hT.out.one
      obtain ⟨ds, hds⟩ : ∃ ds : List Nat, Hid (ds = (Mx.nows N P bs i).map Mx.blockD) := ⟨_, rfl⟩
      rw [← hds.out] at hLv
      have HDL := hide (show ds.length = N by rw [hds.out, List.length_map]; exact Mx.nows_len N P bs i)
      have HK1 := hide (show 1 ≤ k' by rw [← hLv.out.1]; exact (Mx.levels_head ds).2)
      have HTM := hide (show Mx.tmay (Mx.levels ds) = 0 from Mx.tmay_levels ds (by rw [HDL.out]; omega) (by rw [HDL.out]; omega))
      have S0 := hide (show S9 wo w5.heap.size b (off + K * 8) (.slice a' k' c') x wo from ⟨⟨Below.refl _ _⟩, t0, e0, e1, e2, e3, e4, e5, e6, e7⟩)
      have B0 : BelS wo wo.drew := ⟨(Below.refl wo.heap.size wo).drew⟩
      have B00 : BelS wo wo := ⟨Below.refl wo.heap.size wo⟩
      clear hx t0 e0 e1 e2 e3 e4 e5 e6 e7
      go_wp2_with fail
      go_region_held3 (fun w' => BelS wo w' ∧ w'.cell? ⟨w5.heap.size, 0, none⟩ = some (.slice a' k' c') ∧ w'.cell? ⟨b, off + K * 8, none⟩ = some (.int .u8 x.z0) ∧ w'.cell? ⟨b, off + K * 8 + 1, none⟩ = some (.int .u8 x.z1) ∧ w'.cell? ⟨b, off + K * 8 + 2, none⟩ = some (.int .u8 x.z2) ∧ w'.cell? ⟨b, off + K * 8 + 3, none⟩ = some (.int .u8 x.z3) ∧ w'.cell? ⟨b, off + K * 8 + 4, none⟩ = some (.int .u8 x.z4) ∧ w'.cell? ⟨b, off + K * 8 + 5, none⟩ = some (.int .u8 x.z5) ∧ w'.cell? ⟨b, off + K * 8 + 6, none⟩ = some (.int .u8 x.z6) ∧ w'.cell? ⟨b, off + K * 8 + 7, none⟩ = some (.int .u8 x.z7))
        (exact S9.of S0.out hT.out.lt hbw (by first | assumption | exact BelS.alloc (by assumption) _ | exact BelS.alloc (And.left (by assumption)) _ | exact BelS.setNew (by assumption) _ (Nat.le_refl _) _))
        (first
        | (go_at_call 25; refine (tput_from wo _ a' k' c' ds K x (by first | assumption | exact And.left (by assumption)) hLv.out HK1.out (by rw [HDL.out]; omega) (by rw [HDL.out]; omega) HTM.out HXO.out (by rw [HDL.out]; exact hKN)).mono ?_; rintro e w7 ⟨a7, k7, c7, rfl, hL7, hb7, hB7⟩; (try (have X7 : Bx w7 wo.heap.size #[.slice none 0 0] 60 := Bx.later (show Bx _ wo.heap.size #[.slice none 0 0] 60 from Bx.new wo.drew _ _) hb7.out (by simp); have x7 := X7.one; have z7 := X7.frozen))))
      · obtain ⟨w8, hw8⟩ : ∃ w8 : World, Hid (w8 = w7.alloc (.cells #[.slice a7 k7 c7] 60)) := ⟨_, rfl⟩
        rw [← hw8.out]
        have R8 := hide (show Bx w8 w7.heap.size #[.slice a7 k7 c7] 60 by rw [hw8.out]; exact Bx.new _ _ _)
        have T8 := hide (show Bx w8 w5.heap.size #[.slice a' k' c'] 60 by rw [hw8.out]; exact (hT.out.later hB7.out hT.out.lt).alloc _)
        have L8 := hide (show LvlsA _ w8 a7 k7 (Mx.levels (ds.set K (Mx.blockD x))) by rw [hw8.out]; exact hL7.out.later (below_alloc _ _))
        have B8 := hide (show Below w3.heap.size w3 w8 by rw [hw8.out]; exact (hB.out.trans (hB7.out.mono hB.out.size)).alloc (hB.out.trans (hB7.out.mono hB.out.size)).size _)
        have HN2 := hide (Mx.nows_map N P bs i HXD.out)
        rw [← hds.out, ← hK.out] at HN2
        have r8 := R8.out.one
        have t8 := T8.out.one
        have tz := T8.out.frozen
        obtain ⟨w9, hw9⟩ : ∃ w9 : World, Hid (w9 = w8.setCell ⟨w5.heap.size, 0, none⟩ (.slice a7 k7 c7)) := ⟨_, rfl⟩
        have T9 := hide (show Bx w9 w5.heap.size #[.slice a7 k7 c7] 60 by rw [hw9.out]; exact T8.out.set 0 _)
        have L9 := hide (show Lvls w9 a7 k7 (Mx.levels ((Mx.nows N P bs (i + 1)).map Mx.blockD)) by rw [hw9.out, ← HN2.out]; exact (L8.out.setLow ⟨w5.heap.size, 0, none⟩ _ (by have := hT.out.lt; show w5.heap.size < _; simp; omega)).lv)
        have B9 := hide (show Below w3.heap.size w3 w9 by rw [hw9.out]; exact B8.out.setCell (p := ⟨w5.heap.size, 0, none⟩) hs5 _)
        go_wp2_with fail
        go_roundw
        case rel => exact ⟨i + 1, k7, c7, a7, by go_num, by omega, by rw [← hw9.out]; exact T9, by rw [← hw9.out]; exact L9, by rw [← hw9.out]; exact B9⟩
        case measure => simp [intOf]; omega
      · obtain ⟨w8, hw8⟩ : ∃ w8 : World, Hid (w8 = w7.setCell ⟨wo.heap.size, 0, none⟩ (.slice a7 k7 c7)) := ⟨_, rfl⟩
        rw [← hw8.out]
        have R8 := hide (show Bx w8 wo.heap.size #[.slice a7 k7 c7] 60 by rw [hw8.out]; exact X7.set 0 _)
        have T8 := hide (show Bx w8 w5.heap.size #[.slice a' k' c'] 60 by rw [hw8.out]; exact (hT.out.later hB7.out hT.out.lt).other _ _ (by have := hT.out.lt; show w5.heap.size ≠ wo.heap.size; omega))
        have L8 := hide (show LvlsA _ w8 a7 k7 (Mx.levels (ds.set K (Mx.blockD x))) by rw [hw8.out]; exact hL7.out.setLow ⟨wo.heap.size, 0, none⟩ _ (by show wo.heap.size < _; simp))
        have B8 := hide (show Below w3.heap.size w3 w8 by rw [hw8.out]; exact (hB.out.trans (hB7.out.mono hB.out.size)).setCell (p := ⟨wo.heap.size, 0, none⟩) hB.out.size _)
        clear x7 z7
        have HN2 := hide (Mx.nows_map N P bs i HXD.out)
        rw [← hds.out, ← hK.out] at HN2
        have r8 := R8.out.one
        have t8 := T8.out.one
        have tz := T8.out.frozen
        obtain ⟨w9, hw9⟩ : ∃ w9 : World, Hid (w9 = w8.setCell ⟨w5.heap.size, 0, none⟩ (.slice a7 k7 c7)) := ⟨_, rfl⟩
        have T9 := hide (show Bx w9 w5.heap.size #[.slice a7 k7 c7] 60 by rw [hw9.out]; exact T8.out.set 0 _)
        have L9 := hide (show Lvls w9 a7 k7 (Mx.levels ((Mx.nows N P bs (i + 1)).map Mx.blockD)) by rw [hw9.out, ← HN2.out]; exact (L8.out.setLow ⟨w5.heap.size, 0, none⟩ _ (by have := hT.out.lt; show w5.heap.size < _; simp; omega)).lv)
        have B9 := hide (show Below w3.heap.size w3 w9 by rw [hw9.out]; exact B8.out.setCell (p := ⟨w5.heap.size, 0, none⟩) hs5 _)
        go_wp2_with fail
        go_roundw
        case rel => exact ⟨i + 1, k7, c7, a7, by go_num, by omega, by rw [← hw9.out]; exact T9, by rw [← hw9.out]; exact L9, by rw [← hw9.out]; exact B9⟩
        case measure => simp [intOf]; omega
    · have HIN := hide (show i = N by omega)
      rw [HIN.out] at hLv
      obtain ⟨w10, hw10⟩ : ∃ w10 : World, Hid (w10 = wo.alloc (.cells C 50)) := ⟨_, rfl⟩
      have O10 := hide (show OwnBL w10 wo.heap.size (.slice (some ⟨wo.heap.size, 0, none⟩) N N) (Mx.nows N P bs 0) by rw [hw10.out]; exact HC.out wo wo.heap.size (Nat.le_refl _))
      have B10 := hide (show Below wo.heap.size wo w10 by rw [hw10.out]; exact below_alloc _ _)
      go_wp2_with fail
      rw [← hw10.out]
      go_loopw [15] (fun t wr => ∃ j : Nat, t = .int .i64 (j : Int) ∧ j ≤ N ∧ Hid (OwnBL wr wo.heap.size (.slice (some ⟨wo.heap.size, 0, none⟩) N N) (Mx.nows N P bs j)) ∧ Hid (Below wo.heap.size wo wr)) (fun t _ => N - (intOf t).toNat)
      case atStart => exact ⟨0, rfl, Nat.zero_le _, O10, B10⟩
      case round =>
        obtain ⟨j, rfl, hj, hO, hG⟩ := hrel
        have BW := hide (hB.out.trans (hG.out.mono hB.out.size))
        by_cases hjt : (j : Int) < N
        · obtain ⟨K, hK⟩ : ∃ K : Nat, Hid (K = Mx.kat N P j) := ⟨_, rfl⟩
          have hKe : ((j : Int) * 7 + (P : Int)) % (N : Int) = (K : Int) := by rw [hK.out, Mx.kat]; push_cast; rfl
          have hKN : K < N := by rw [hK.out]; exact Mx.kat_lt N P j hN1
          have hKi : (K : Int) < N := by omega
          have hNz : ¬ (N : Int) = 0 := by omega
          obtain ⟨b, off, x, hab, hbw, hx, e0, e1, e2, e3, e4, e5, e6, e7⟩ := (BL3.out.later BW.out).at_ K hKN
          subst hab
          have HXD := hide (show bs.getD (Mx.kat N P j) zB = x by rw [← hK.out, List.getD_eq_getElem?_getD, hx]; rfl)
          obtain ⟨y, _, f0, f1, f2, f3, f4, f5, f6, f7⟩ := hO.out.at_ K hKN
          have hfz : ∀ o, wr.frozen? ⟨wo.heap.size, o, none⟩ = false := by
            obtain ⟨g', hg', _, _, _, hz⟩ := OwnBL.form hO.out (by omega)
            cases hg'
            exact hz
          have O11 := hide (OwnBL.put hO.out K (by rw [Mx.nows_len]; exact hKN) x)
          have B11 := hide (set8_below hG.out (Nat.le_refl wo.heap.size) (K * 8) x)
          have HN2 := hide (show (Mx.nows N P bs j).set K x = Mx.nows N P bs (j + 1) by rw [Mx.nows, HXD.out, hK.out])
          rw [HN2.out] at O11
          clear hx
          go_wp2_with fail
          go_region
          have O12 := hide (show OwnBL (set8 wr wo.heap.size (K * 8) x).drew wo.heap.size (.slice (some ⟨wo.heap.size, 0, none⟩) N N) (Mx.nows N P bs (j + 1)) from rowKept O11.out (Below.refl _ _).drew)
          have B12 := hide B11.out.drew
          obtain ⟨w12, hw12⟩ : ∃ w12 : World, Hid (w12 = (set8 wr wo.heap.size (K * 8) x).drew) := ⟨_, rfl⟩
          rw [← hw12.out] at O12 B12
          unfold set8 at hw12
          rw [← hw12.out]
          go_wp2_with fail
          go_roundw
          case rel => exact ⟨j + 1, by go_num, by omega, O12, B12⟩
          case measure => simp [intOf]; omega
        · have HJN := hide (show j = N by omega)
          rw [HJN.out] at hO
          have T11 := hide (hT.out.later hG.out hT.out.lt)
          have L11 := hide (hLv.out.later hG.out)
          go_wp2_with fail
          refine (of_any (some ⟨wo.heap.size, 0, none⟩) N N (Mx.nows N P bs N) wr hO.out.asBL (Mx.nows_ok N P bs HBO.out N) hN1 hN2).mono ?_
          rintro e w13 ⟨a13, k13, c13, rfl, hL13, hb13⟩
          obtain ⟨w14, hw14⟩ : ∃ w14 : World, Hid (w14 = w13.alloc (.cells #[.slice a13 k13 c13] 60)) := ⟨_, rfl⟩
          have B1314 := hide (show Below w13.heap.size w13 w14 by rw [hw14.out]; exact below_alloc _ _)
          have W14 := hide (show Bx w14 w13.heap.size #[.slice a13 k13 c13] 60 by rw [hw14.out]; exact Bx.new _ _ _)
          have T13 := hide (T11.out.later hb13.out T11.out.lt)
          have T14 := hide (T13.out.later B1314.out T13.out.lt)
          have L14 := hide ((L11.out.later hb13.out).later B1314.out)
          have M14 := hide (hL13.out.1.later B1314.out)
          have B13 := hide (BW.out.trans (hb13.out.mono BW.out.size))
          have B14 := hide (B13.out.trans (B1314.out.mono B13.out.size))
          have BF := hide (B3.out.trans (B14.out.mono B3.out.size))
          have hk13 : (0 : Int) < k13 := by have h1 := (Mx.levels_head ((Mx.nows N P bs N).map Mx.blockD)).2; have h2 := hL13.out.1.1; omega
          go_upto_region 23 with fail
          rw [← hw14.out]
          have t14 := T14.out.one
          have v14 := W14.out.one
          go_wp2_with fail
          refine (sameTree_any a' a13 k' c' k13 c13 _ _ w14 L14.out M14.out).mono ?_
          rintro e w15 ⟨r, rfl, hr, hb15⟩
          obtain rfl : r = true := hr.2 rfl
          clear hr
          go_wp2_with fail
          go_ret
          exact ⟨rfl, BF.out.trans (hb15.mono BF.out.size)⟩

theorem ttree_any (a : Option Addr) (n c : Nat) (l : List Int) (nn at_ : Int) (w : World) (hl : Ints w a n l) (hb : I64 l) (h1 : I64x nn) (h2 : I64x at_) :
    Calls Try.prog 5 #[.slice a n c, .int .i64 nn, .int .i64 at_] w fun e w' => e = .returned (.bool true) ∧ Below w.heap.size w w' := by
  by_cases h : 128 < n
  · exact ttree_big a n c nn at_ w h
  · exact ttree_ok a n c l nn at_ w hl hb (by omega) h1 h2

end Go.Proofs.Ytdhmijjphgcdmac
