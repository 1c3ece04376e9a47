/-
  For all blocks and bytes, their digests are what D1 says (TreeSays): the walk.
-/
import Derived.Test.YtdhmijjphgcdmaaTto
import Derived.Test.YtdhmijjphgcdmaaTt
import Derived.Test.YtdhmijjphgcdmaaIs
namespace Go.Proofs.Ytdhmijjphgcdmaa
open Go.RowKit

theorem Mx.levels_head (l : List Nat) : (Mx.levels l)[0]? = some l ∧ 1 ≤ (Mx.levels l).length := by
  unfold Mx.levels
  cases l.length with
  | zero => exact ⟨rfl, Nat.le_refl _⟩
  | succ f =>
    rw [Mx.growF]
    split
    · exact ⟨rfl, Nat.le_refl _⟩
    · exact ⟨rfl, by simp⟩

set_option maxRecDepth 100000 in
theorem tsays_big (a ba : Option Addr) (n c nb bc : Nat) (w : World) (h : 100 < n ∨ 2000 < nb) :
    Calls Try.prog 9 #[.slice a n c, .slice ba nb bc] w fun e w' => e = .returned (.bool true) ∧ Below w.heap.size w w' := by
  by_cases h1 : (100 : Int) < n
  · clear h
    go_enter Try.func9, Try.ntmps9
    go_wp2
    go_ret
    exact ⟨rfl, Below.refl _ _⟩
  · have h2 : (2000 : Int) < nb := by omega
    clear h
    go_enter Try.func9, Try.ntmps9
    go_wp2
    go_ret
    exact ⟨rfl, Below.refl _ _⟩

set_option maxHeartbeats 4000000 in
set_option maxRecDepth 100000 in
theorem tsays_err (a ba : Option Addr) (n c nb bc : Nat) (bs : List Int) (w : World) (hb : Bytes w ba nb bs) (hn1 : n ≤ 100) (hb1 : nb ≤ 2000) (hn : n < 1 ∨ 32 < n) :
    Calls Try.prog 9 #[.slice a n c, .slice ba nb bc] w fun e w' => e = .returned (.bool true) ∧ Below w.heap.size w w' := by
  have HB := hide hb
  clear hb
  have h100 : ¬ (100 : Int) < n := by omega
  have h2000 : ¬ (2000 : Int) < nb := by omega
  have he : ∀ (a b : Int) (W : World), (binOp .eql 31 (.iface 26 (.int .i64 a)) (.iface 26 (.int .i64 b))).run Try.prog W = .ok (.bool (a == b)) W :=
    fun a b W => Lib.run_eql_iface_int W a b Try.underlying31 (by kernel_rfl) Try.underlying26
  go_enter Try.func9, Try.ntmps9
  go_wp2_with fail
  refine (digest_any ba nb bc bs w HB.out).mono ?_
  rintro e w1 ⟨rfl, rfl⟩
  obtain ⟨Z, hZ⟩ : ∃ Z : Nat, Hid (Z = Mx.digest bs) := ⟨_, rfl⟩
  rw [← hZ.out]
  go_wp2_with fail
  refine (digestOf_any ba nb bc bs w1 HB.out).mono ?_
  rintro e w2 ⟨rfl, q, rfl⟩
  rw [← hZ.out]
  go_wp2_with fail
  refine (of_err a n c _ hn).mono ?_
  rintro e w3 ⟨rfl, hb3⟩
  have HB3 := hide ((below_drewN (Below.refl _ w1) q).trans hb3)
  clear hb3
  by_cases h1 : (n : Int) < 1
  · have hd1 : decide ((n : Int) < 1) = true := by simpa using h1
    go_wp2
    go_ret
    exact ⟨rfl, HB3.out.alloc HB3.out.size _⟩
  · have hd1 : decide ((n : Int) < 1) = false := by simpa using h1
    have h2 : (32 : Int) < n := by omega
    have hd2 : decide ((32 : Int) < n) = true := by simpa using h2
    go_wp2
    go_ret
    exact ⟨rfl, HB3.out.alloc HB3.out.size _⟩

set_option maxHeartbeats 4000000 in
set_option maxRecDepth 100000 in
theorem tsays_ok (a ba : Option Addr) (n c nb bc : Nat) (l : List B8) (bs : List Int) (w : World) (hl : BL w a n l) (hok : ∀ x ∈ l, x.ok) (hb : Bytes w ba nb bs) (hb1 : nb ≤ 2000) (hn0 : 1 ≤ n) (hn : n ≤ 32) :
    Calls Try.prog 9 #[.slice a n c, .slice ba nb bc] w fun e w' => e = .returned (.bool true) ∧ Below w.heap.size w w' := by
  have HB := hide hb
  have HL := hide hl
  have HOK := hide hok
  have HLN := hide (show (l.map Mx.blockD).length = n by rw [List.length_map]; exact hl.1)
  clear hb hl hok
  have h100 : ¬ (100 : Int) < n := by omega
  have h2000 : ¬ (2000 : Int) < nb := by omega
  have hd1 : decide ((n : Int) < 1) = false := by simp; omega
  have hd2 : decide ((32 : Int) < n) = false := by simp; omega
  go_enter Try.func9, Try.ntmps9
  go_wp2_with fail
  refine (digest_any ba nb bc bs w HB.out).mono ?_
  rintro e w1 ⟨rfl, rfl⟩
  obtain ⟨Z, hZ⟩ : ∃ Z : Nat, Hid (Z = Mx.digest bs) := ⟨_, rfl⟩
  rw [← hZ.out]
  go_wp2_with fail
  refine (digestOf_any ba nb bc bs w1 HB.out).mono ?_
  rintro e w2 ⟨rfl, q, rfl⟩
  rw [← hZ.out]
  go_wp2_with fail
  refine (of_any a n c l _ (HL.out.later (below_drewN (Below.refl _ _) q)) HOK.out hn0 hn).mono ?_
  rintro e w3 ⟨a1, k1, cap1, rfl, hL1, hb3⟩
  obtain ⟨w4, hw4⟩ : ∃ w4 : World, Hid (w4 = w3.alloc (.cells #[.slice a1 k1 cap1] 82)) := ⟨_, rfl⟩
  have B34 := hide (show Below w3.heap.size w3 w4 by rw [hw4.out]; exact below_alloc _ _)
  have B3 := hide (show Below w1.heap.size w1 w3 from (below_drewN (Below.refl _ w1) q).trans hb3.out)
  have B4 := hide (B3.out.trans (B34.out.mono B3.out.size))
  have X4 := hide (show Bx w4 w3.heap.size #[.slice a1 k1 cap1] 82 by rw [hw4.out]; exact Bx.new _ _ _)
  have LV4 := hide (hL1.out.1.later B34.out)
  have x0 := X4.out.one
  obtain ⟨LL, hLL⟩ : ∃ LL : List Nat, Hid (LL = l.map Mx.blockD) := ⟨_, rfl⟩
  have HK1 := hide (show 1 ≤ k1 by rw [← hL1.out.1.1]; exact (Mx.levels_head _).2)
  go_upto_region 8 with fail
  rw [← hw4.out]
  go_region_held3 (fun w' => w'.cell? ⟨w3.heap.size, 0, none⟩ = some (.slice a1 k1 cap1))
    (first | exact x0 | exact y0 | exact z0 | exact v0)
    (first
    | (go_at_call 46; refine (treeOf_any a n c l w4.drew ((HL.out.later B4.out).later (Below.refl _ _).drew) HOK.out hn0 (by omega)).mono ?_; rintro e w5 ⟨a5, k5, cap5, rfl, hL5, hb5⟩; have y0 := (hb5.out.cell (p := ⟨w3.heap.size, 0, none⟩) X4.out.lt).trans x0)
    | (go_at_call 45; refine (sameTree_any a1 a5 k1 cap1 k5 cap5 (Mx.levels (l.map Mx.blockD)) (Mx.levels (l.map Mx.blockD)) w5 ((LV4.out.later (Below.refl _ _).drew).later hb5.out) hL5.out.1).mono ?_; rintro e w6 ⟨r, rfl, hr, hb6⟩; obtain rfl : r = true := hr.2 rfl; have HB6 := hide hb6; clear hb6 hr; have z0 := (HB6.out.cell (p := ⟨w3.heap.size, 0, none⟩) (by show w3.heap.size < w5.heap.size; have h1 := X4.out.lt; have h2 : w4.heap.size ≤ w5.heap.size := hb5.out.size; omega)).trans y0)
    | (go_at_call 47; refine (tcheck_ok a1 k1 cap1 (l.map Mx.blockD) w6 (((LV4.out.later (Below.refl _ _).drew).later hb5.out).later HB6.out) HK1.out (by rw [HLN.out]; exact hn0) (by rw [HLN.out]; exact hn) (Mx.levels_head _).1).mono ?_; rintro e w7 ⟨rfl, hb7⟩; have HB7 := hide hb7; clear hb7; have v0 := (HB7.out.cell (p := ⟨w3.heap.size, 0, none⟩) (by show w3.heap.size < w6.heap.size; have h1 := X4.out.lt; have h2 : w4.heap.size ≤ w5.heap.size := hb5.out.size; have h3 := HB6.out.size; omega)).trans z0))
  all_goals
    have HF := hide (show Below w1.heap.size w1 w7 from ((B4.out.drew.trans (hb5.out.mono B4.out.size)).trans (HB6.out.mono (by have h2 : w4.heap.size ≤ w5.heap.size := hb5.out.size; have := B4.out.size; omega))).trans (HB7.out.mono (by have h2 : w4.heap.size ≤ w5.heap.size := hb5.out.size; have := B4.out.size; have := HB6.out.size; omega)))
    go_wp2
    go_ret
    exact ⟨rfl, HF.out⟩

theorem tsays_any (a ba : Option Addr) (n c nb bc : Nat) (l : List B8) (bs : List Int) (w : World) (hl : BL w a n l) (hok : ∀ x ∈ l, x.ok) (hb : Bytes w ba nb bs) :
    Calls Try.prog 9 #[.slice a n c, .slice ba nb bc] w fun e w' => e = .returned (.bool true) ∧ Below w.heap.size w w' := by
  by_cases hbig : 100 < n ∨ 2000 < nb
  · exact tsays_big a ba n c nb bc w hbig
  by_cases hn : 1 ≤ n ∧ n ≤ 32
  · exact tsays_ok a ba n c nb bc l bs w hl hok hb (by omega) hn.1 hn.2
  · exact tsays_err a ba n c nb bc bs w hb (by omega) (by omega) (by omega)

end Go.Proofs.Ytdhmijjphgcdmaa
