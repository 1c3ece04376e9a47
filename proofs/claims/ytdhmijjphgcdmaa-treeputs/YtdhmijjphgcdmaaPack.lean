/-
  The program's own packing (Pack): the error that A1 says, or the bytes that A1 says.
-/
import Derived.Test.YtdhmijjphgcdmaaPacked
namespace Go.Proofs.Ytdhmijjphgcdmaa
open Go.RowKit

set_option maxHeartbeats 1000000 in
set_option maxRecDepth 100000 in
theorem pack_err (kind : Int) (a1 a2 : Option Addr) (n1 c1 n2 c2 : Nat) (l : List Int) (w : World) (h1 : Ints w a1 n1 l) (h2 : n2 ≤ maxLen) (hm : Mx.may kind l n2 ≠ 0) :
    Calls Try.prog 16 #[.agg #[.int .i64 kind, .slice a1 n1 c1, .slice a2 n2 c2]] w fun e w' => e = .returned (.tuple #[.slice none 0 0, errV (Mx.may kind l n2)]) ∧ Below w.heap.size w w' := by
  have H1 := hide h1
  clear h1
  go_enter Try.func16, Try.ntmps16
  go_wp2_with fail
  refine (check_any kind a1 a2 n1 c1 n2 c2 l _ (H1.out.later (below_alloc _ _)) h2).mono ?_
  rintro e w' ⟨rfl, hbel⟩
  rw [errV_not hm]
  go_wp2
  go_ret2
  exact ⟨by rw [errV_not hm]; rfl, (below_alloc _ _).trans (hbel.mono (by simp))⟩

theorem cell_newsT (w : World) (news : List Int) (arr : Array Value) (t : TypeId) (h : arr = (news.map (Value.int .u8)).toArray) :
    ∀ j u, (news.map (Value.int .u8))[j]? = some u → (w.alloc (.cells arr t)).cell? ((⟨w.heap.size, 0, none⟩ : Addr).add j) = some u := by
  intro j u hj
  subst h
  have hadd : (⟨w.heap.size, 0, none⟩ : Addr).add j = ⟨w.heap.size, j, none⟩ := by unfold Addr.add; split <;> simp_all
  rw [hadd, World.cell?_alloc_new]
  simpa using hj

theorem own_below {w w' : World} {base : Nat} {v : Value} {l : List Int} (h : Own w base v l) (hb : Below w.heap.size w w') : Own w' base v l :=
  World.ownsRow.kept h (row := none) ⟨hb.os, hb.tape, hb.output, hb.size, fun k hk _ => hb.block k hk⟩ (by cases v.ownBlock <;> simp)

theorem eight {w : World} {b off : Nat} (bs : List Int) (n m : Nat) (hl : bs.length = 8 * n) (hm : m < n) (hc : ∀ i, i < 8 * n → w.cell? ⟨b, off + i, none⟩ = some (.int .u8 (bs.getD i 0))) :
    ∃ z0 z1 z2 z3 z4 z5 z6 z7 : Int, w.cell? ⟨b, off + m * 8, none⟩ = some (.int .u8 z0) ∧ w.cell? ⟨b, off + m * 8 + 1, none⟩ = some (.int .u8 z1) ∧ w.cell? ⟨b, off + m * 8 + 2, none⟩ = some (.int .u8 z2) ∧
      w.cell? ⟨b, off + m * 8 + 3, none⟩ = some (.int .u8 z3) ∧ w.cell? ⟨b, off + m * 8 + 4, none⟩ = some (.int .u8 z4) ∧ w.cell? ⟨b, off + m * 8 + 5, none⟩ = some (.int .u8 z5) ∧
      w.cell? ⟨b, off + m * 8 + 6, none⟩ = some (.int .u8 z6) ∧ w.cell? ⟨b, off + m * 8 + 7, none⟩ = some (.int .u8 z7) ∧ bs.take (8 * (m + 1)) = bs.take (8 * m) ++ [z0, z1, z2, z3, z4, z5, z6, z7] := by
  refine ⟨bs.getD (8 * m) 0, bs.getD (8 * m + 1) 0, bs.getD (8 * m + 1 + 1) 0, bs.getD (8 * m + 1 + 1 + 1) 0, bs.getD (8 * m + 1 + 1 + 1 + 1) 0, bs.getD (8 * m + 1 + 1 + 1 + 1 + 1) 0, bs.getD (8 * m + 1 + 1 + 1 + 1 + 1 + 1) 0, bs.getD (8 * m + 1 + 1 + 1 + 1 + 1 + 1 + 1) 0, ?_, ?_, ?_, ?_, ?_, ?_, ?_, ?_, ?_⟩
  rotate_left 8
  · rw [show 8 * (m + 1) = 8 * m + 1 + 1 + 1 + 1 + 1 + 1 + 1 + 1 by omega]
    rw [Mx.take_snoc bs _ _ (by omega) rfl, Mx.take_snoc bs _ _ (by omega) rfl, Mx.take_snoc bs _ _ (by omega) rfl, Mx.take_snoc bs _ _ (by omega) rfl,
      Mx.take_snoc bs _ _ (by omega) rfl, Mx.take_snoc bs _ _ (by omega) rfl, Mx.take_snoc bs _ _ (by omega) rfl, Mx.take_snoc bs _ _ (by omega) rfl]
    simp only [List.append_assoc, List.cons_append, List.nil_append]
  · have := hc (8 * m) (by omega); rw [show off + 8 * m = off + m * 8 by omega] at this; exact this
  · have := hc (8 * m + 1) (by omega); rw [show off + (8 * m + 1) = off + m * 8 + 1 by omega] at this; exact this
  · have := hc (8 * m + 1 + 1) (by omega); rw [show off + (8 * m + 1 + 1) = off + m * 8 + 2 by omega] at this; exact this
  · have := hc (8 * m + 1 + 1 + 1) (by omega); rw [show off + (8 * m + 1 + 1 + 1) = off + m * 8 + 3 by omega] at this; exact this
  · have := hc (8 * m + 1 + 1 + 1 + 1) (by omega); rw [show off + (8 * m + 1 + 1 + 1 + 1) = off + m * 8 + 4 by omega] at this; exact this
  · have := hc (8 * m + 1 + 1 + 1 + 1 + 1) (by omega); rw [show off + (8 * m + 1 + 1 + 1 + 1 + 1) = off + m * 8 + 5 by omega] at this; exact this
  · have := hc (8 * m + 1 + 1 + 1 + 1 + 1 + 1) (by omega); rw [show off + (8 * m + 1 + 1 + 1 + 1 + 1 + 1) = off + m * 8 + 6 by omega] at this; exact this
  · have := hc (8 * m + 1 + 1 + 1 + 1 + 1 + 1 + 1) (by omega); rw [show off + (8 * m + 1 + 1 + 1 + 1 + 1 + 1 + 1) = off + m * 8 + 7 by omega] at this; exact this

set_option maxHeartbeats 1000000 in
set_option maxRecDepth 100000 in
theorem pack_ok (kind : Int) (a1 a2 : Option Addr) (n1 c1 n2 c2 : Nat) (l bs : List Int) (w : World) (h1 : Ints w a1 n1 l) (h2 : Blks w a2 n2 bs) (hm : Mx.may kind l n2 = 0) :
    Calls Try.prog 16 #[.agg #[.int .i64 kind, .slice a1 n1 c1, .slice a2 n2 c2]] w fun e w' => ∃ v, e = .returned (.tuple #[v, .nilIface]) ∧ Own w' (w.heap.size + 1) v (Mx.packB kind l n2 bs) ∧ Below w.heap.size w w' := by
  obtain ⟨hk0, hk1, hll, hn2, hg⟩ := may_facts hm
  have hn1 : n1 ≤ 12 := by rw [← h1.1]; exact hll
  have HG := hide hg
  have H1 := hide h1
  have H2 := hide h2
  have HM := hide hm
  clear h1 h2 hm hg hll
  obtain ⟨hd, hhd, hhl⟩ : ∃ hd : List Int, Hid (hd = [16 * kind + (n1 : Int), (n2 : Int)]) ∧ hd.length ≤ 2 := ⟨_, rfl, by simp⟩
  go_enter Try.func16, Try.ntmps16
  go_wp2_with fail
  refine (check_any kind a1 a2 n1 c1 n2 c2 l _ (H1.out.later (below_alloc _ _)) H2.out.2.1).mono ?_
  rintro e w1 ⟨rfl, hbel⟩
  have hbx := (Boxed.start w (.int .i64 kind) (.slice a1 n1 c1) (.slice a2 n2 c2)).later (w' := w1) (hbel.mono (by simp))
  have hk00 : w1.cell? ⟨w.heap.size, 0, none⟩ = some (.int .i64 kind) := by
    rw [hbel.cell (p := ⟨w.heap.size, 0, none⟩) (by simp), World.cell?_alloc_new]; rfl
  have HBX := hide hbx
  obtain ⟨hb1, hb2, hbel0, hsz⟩ := hbx
  clear hbel
  have hlt0 : w.heap.size < w1.heap.size := by omega
  rw [HM.out, errV_zero]
  go_wp2
  go_loopw [5, 7, 32] (fun v _ i wr => ∃ k : Nat, k ≤ n1 ∧ i = .int .i64 k ∧ Hid (Own wr (w.heap.size + 1) v (hd ++ Mx.numB (l.take k))) ∧ Boxed w wr (.slice a1 n1 c1) (.slice a2 n2 c2))
    (fun _ _ i _ => n1 - (intOf i).toNat)
  case atStart =>
    refine ⟨0, by omega, rfl, ?_, HBX.out.later ((Below.refl _ _).alloc (by omega) _)⟩
    unfold Hid
    have := own_made w1 (w.heap.size + 1) hd #[.int .u8 (kind * 16 + (n1 : Int)), .int .u8 (n2 : Int)] (by rw [hhd.out, Int.mul_comm]; rfl) (by omega) (by omega)
    rw [hhd.out] at this ⊢
    simpa [Mx.numB] using this
  case round =>
    clear HBX hb1 hb2 hbel0 hsz hk00 hlt0
    obtain ⟨k, hkn, rfl, hO, hbx⟩ := hrel
    have HBX := hide hbx
    obtain ⟨hb1, hb2, hbel, hsz⟩ := hbx
    by_cases hlt : k < n1
    · obtain ⟨b, off, x, rfl, hb, hx, hcell⟩ := (H1.out.later hbel).at_ k hlt
      have HX := hide hx
      have hxb := HG.out x (by rw [← hx]; exact getD_mem l k (by rw [H1.out.1]; exact hlt))
      clear hx
      obtain ⟨hx0, hx1⟩ := hxb
      obtain ⟨X, rfl⟩ := Int.eq_ofNat_of_zero_le hx0
      obtain ⟨L0, hL0, hL0l⟩ : ∃ L0 : List Int, Hid (L0 = hd ++ Mx.numB (l.take k)) ∧ L0.length ≤ 10000 := ⟨_, rfl, by have := Mx.numB_len (l.take k); simp at *; omega⟩
      rw [← hL0.out] at hO
      go_wp2_with fail
      refine (appendNumber_any (w.heap.size + 1) u5 L0 X wr hO.out hsz hL0l hx1).mono ?_
      rintro e w' ⟨v', rfl, hown', hbel'⟩
      have HO := hide hown'
      clear hown'
      go_wp2
      go_roundw
      case rel => exact ⟨k + 1, by omega, by go_num, by unfold Hid; rw [Mx.numB_snoc l k _ (by rw [H1.out.1]; exact hlt) HX.out, ← List.append_assoc, ← hL0.out, Int.toNat_natCast]; exact HO.out, HBX.out.later hbel'⟩
      case measure => simp [intOf]; omega
    · obtain ⟨L1, hL1, hL1l⟩ : ∃ L1 : List Int, Hid (L1 = hd ++ Mx.numB l) ∧ L1.length ≤ 1000 := ⟨_, rfl, by have := Mx.numB_len l; have := H1.out.1; simp; omega⟩
      have hO1 : Hid (Own wr (w.heap.size + 1) u5 L1) := by
        unfold Hid
        rw [hL1.out, ← List.take_of_length_le (l := l) (i := k) (by rw [H1.out.1]; omega)]
        exact hO.out
      clear hO
      go_wp2
      go_loopw [5, 9, 43] (fun v _ i wr => ∃ m : Nat, m ≤ n2 ∧ i = .int .i64 m ∧ Hid (Own wr (w.heap.size + 1) v (L1 ++ bs.take (8 * m))) ∧ Boxed w wr (.slice a1 n1 c1) (.slice a2 n2 c2))
        (fun _ _ i _ => n2 - (intOf i).toNat)
      case atStart => exact ⟨0, by omega, rfl, by unfold Hid; rw [Nat.mul_zero, List.take_zero, List.append_nil]; exact hO1, HBX⟩
      case round =>
        clear hb1 hb2 hbel hsz HBX hO1
        obtain ⟨m, hmn, rfl, hO, hbx⟩ := hrel
        have HBX := hide hbx
        obtain ⟨hb1, hb2, hbel, hsz⟩ := hbx
        by_cases hlt2 : m < n2
        · obtain ⟨b, off, rfl, hb, hcs⟩ := H2.out.2.2.2 (by omega)
          obtain ⟨z0, z1, z2, z3, z4, z5, z6, z7, e0, e1, e2, e3, e4, e5, e6, e7, htk⟩ := eight (w := wr) (b := b) (off := off) bs n2 m H2.out.1 hlt2 (fun i hi => (hbel.cell (p := ⟨b, off + i, none⟩) hb).trans (hcs i hi))
          have HTK := hide htk
          have hbl := hide (show (bs.take (8 * m)).length ≤ 256 by rw [List.length_take]; have := H2.out.1; omega)
          clear hcs htk
          go_wp2_with (at_builtin; refine wpList_append_bytes rfl _ _ rfl (w.heap.size + 1) (L1 ++ bs.take (8 * m)) (hO.out.alloc _) ⟨wr.heap.size, 0, none⟩ 8 8 [z0, z1, z2, z3, z4, z5, z6, z7] rfl rfl ?c1 ?c2 ?c3 ?_)
          case c1 => exact cell_newsT _ _ _ _ rfl
          case c2 => have := hbl.out; rw [List.length_append]; omega
          case c3 => simp; omega
          intro v' w' hown' hbel3
          have HO := hide hown'
          clear hown'
          go_wp2
          go_roundw
          case rel => exact ⟨m + 1, by omega, by go_num, by unfold Hid; rw [HTK.out, ← List.append_assoc]; simpa [List.append_assoc] using HO.out, HBX.out.later (((Below.refl _ _).alloc (by omega) _).trans hbel3)⟩
          case measure => simp [intOf]; omega
        · obtain ⟨Bd, hBd, hBd2, hBl, hBn⟩ : ∃ Bd : List Int, Hid (Bd = Mx.bodyB kind l n2 bs) ∧ Hid (∀ x ∈ Bd, 0 ≤ x ∧ x ≤ 255) ∧ Bd.length ≤ 2000 ∧ Bd ≠ [] :=
            ⟨_, rfl, Mx.bodyB_byte hk0 hk1 (by rw [H1.out.1]; exact hn1) hn2 HG.out H2.out.2.2.1, Mx.bodyB_len (by rw [H1.out.1]; exact hn1) hn2 H2.out.1, by unfold Mx.bodyB; simp⟩
          have hB : Own wr (w.heap.size + 1) u5 Bd := by
            rw [hBd.out, Mx.bodyB, ← List.append_assoc, H1.out.1, ← hhd.out, ← hL1.out, ← List.take_of_length_le (l := bs) (i := 8 * m) (by rw [H2.out.1]; omega)]
            exact hO.out
          obtain ⟨g, cap, rfl, hg1, hg2⟩ := own_slice hB hBn
          have HB := hide hB
          have HBY := hide (own_bytes hB hBd2.out)
          clear hB hO
          obtain ⟨S, hS, hS2⟩ : ∃ S : Nat, Hid (S = Mx.crc Bd) ∧ (S : Int) < 4294967296 := ⟨_, rfl, by have := Mx.crc_lt Bd; omega⟩
          go_wp2_with fail
          refine (sealOf_any (some ⟨g, 0, none⟩) Bd.length cap Bd wr HBY.out).mono ?_
          rintro e w2 ⟨rfl, hbel2⟩
          rw [← hS.out, sealB_vals]
          have hsz2 := hbel2.size
          have HB2 := hide (own_below HB.out hbel2)
          go_wp2_with (at_builtin; refine wpList_append_bytes rfl _ _ rfl (w.heap.size + 1) Bd (HB2.out.alloc _) ⟨w2.heap.size, 0, none⟩ 4 4 (Mx.sealB S) rfl rfl ?c1 ?c2 ?c3 ?_)
          case c1 => exact cell_newsT w2 (Mx.sealB S) _ _ (sealB_vals S).symm
          case c2 => omega
          case c3 => simp; omega
          intro v' w' hown' hbel'
          go_wp2
          go_ret2
          refine ⟨v', rfl, by rw [Mx.packB, ← hBd.out, ← hS.out]; exact hown', ?_⟩
          exact hbel.trans ((hbel2.mono (by omega)).trans (((Below.refl _ _).alloc (by omega) _).trans (hbel'.mono (by omega))))
end Go.Proofs.Ytdhmijjphgcdmaa
