/-
  For all bytes: their sum, and the frame that they are, or that they are none, are what the document's answer says (FrameReads): the walk.
-/
import Derived.Test.YtengpogcdnbabaaUnp
namespace Go.Proofs.Ytengpogcdnbabaa
open Go.RowKit

theorem neq_err3 (W : World) : (binOp .neq 31 (.iface 26 (.int .i64 3)) (.iface 26 (.int .i64 3))).run Try.prog W = .ok (.bool false) W := by
  have h := Lib.run_eql_iface_int (P := Try.prog) (k := .i64) W 3 3 Try.underlying31 (by kernel_rfl) Try.underlying26
  simp only [binOp] at h ⊢
  cases hr : (Op.equal 31 (.iface 26 (.int .i64 3)) (.iface 26 (.int .i64 3))).run Try.prog W with
  | ok v w' => simp [hr] at h ⊢; exact h
  | halt x w' => simp [hr] at h

theorem ints_nil (w : World) : Ints w none 0 [] := ⟨rfl, by unfold maxLen; omega, fun h => absurd h (by omega)⟩
theorem blks_nil (w : World) : Blks w none 0 [] := ⟨rfl, by unfold maxLen; omega, by simp, fun h => absurd h (by omega)⟩

set_option maxHeartbeats 1000000 in
set_option maxRecDepth 100000 in
theorem reads_any (a : Option Addr) (len cap : Nat) (l : List Int) (w : World) (hl : Bytes w a len l) (hcap : len ≤ cap) :
    Calls Try.prog 4 #[.slice a len cap] w fun e w' => e = .returned (.bool true) ∧ Below w.heap.size w w' := by
  have hmx : len ≤ maxLen := hl.2.1
  unfold maxLen at hmx
  by_cases hbig : (2000 : Int) < len
  · clear hl
    go_enter Try.func4, Try.ntmps4
    go_wp2
    go_ret
    exact ⟨rfl, Below.refl _ _⟩
  · have HB := hide hl
    clear hl
    go_enter Try.func4, Try.ntmps4
    go_wp2_with fail
    refine (unpacked_any a len cap l w HB.out (by omega)).mono ?_
    rintro e w1 (⟨kind, nums, nb, bs, a1, c1, a2, c2, rfl, hfr, hi, hbk, hbel⟩ | ⟨rfl, hno, hbel⟩)
    · have HF := hide hfr
      have HI := hide hi
      have HK := hide hbk
      have HB1 := hide hbel
      clear hfr hi hbk hbel
      go_wp2_with fail
      have hA1 := HB1.out.alloc HB1.out.size (.cells #[.int .i64 kind, .slice a1 nums.length c1, .slice a2 nb c2] 25)
      refine (unpack_any a len cap l _ (HB.out.later hA1) (by omega) hcap).mono ?_
      rintro e w2 (⟨kind', nums', nb', bs', a1', c1', a2', c2', rfl, hfr, hi, hbk, hbel⟩ | ⟨rfl, hno, hbel⟩)
      · obtain ⟨rfl, rfl, rfl, rfl⟩ := HF.out.one hfr
        have HI2 := hide hi
        have HK2 := hide hbk
        have hs2 := hbel.size
        rw [World.size_alloc] at hs2
        have HB2 := hide (hA1.trans (hbel.mono (by have := HB1.out.size; simp; omega)))
        have HX2 := hide (BoxAt.later (BoxAt.new w1 (.int .i64 kind) (.slice a1 nums.length c1) (.slice a2 nb c2)) hbel (by simp))
        have HI1 := hide ((HI.out.later (below_alloc w1 (.cells #[.int .i64 kind, .slice a1 nums.length c1, .slice a2 nb c2] 25))).later hbel)
        have HK1 := hide ((HK.out.later (below_alloc w1 (.cells #[.int .i64 kind, .slice a1 nums.length c1, .slice a2 nb c2] 25))).later hbel)
        have e0 := HX2.out.cell0
        have e1 := HX2.out.cell1
        have e2 := HX2.out.cell2
        have hsz : w1.heap.size < w2.heap.size := by omega
        clear hfr hi hbk hbel hA1
        go_wp2_with fail
        have HB3 := hide (HB2.out.alloc (by have := HB2.out.size; omega) (.cells #[.int .i64 kind, .slice a1' nums.length c1', .slice a2' nb c2'] 25))
        refine (sum_any a len cap l _ (HB.out.later HB3.out)).mono ?_
        rintro e w3 ⟨rfl, rfl⟩
        obtain ⟨S, hS⟩ : ∃ S : Nat, Hid (Mx.crc l = S) := ⟨_, rfl⟩
        rw [hS.out]
        have hss : ((S : Int) != (S : Int)) = false := by simp
        go_wp2_with fail
        refine (sumOf_any a len cap l _ (HB.out.later HB3.out)).mono ?_
        rintro e w3 ⟨rfl, nn, rfl⟩
        rw [hS.out]
        go_wp2_with fail
        have HB4 := hide (below_drewN (below_alloc w2 (.cells #[.int .i64 kind, .slice a1' nums.length c1', .slice a2' nb c2'] 25)) nn)
        refine (sameFrame_true kind a1' a2' a1 a2 nums.length c1' nb c2' nums.length c1 nb c2 nums bs _ (HI2.out.later HB4.out) (HK2.out.later HB4.out) (HI1.out.later HB4.out) (HK1.out.later HB4.out)).mono ?_
        rintro e w5 ⟨rfl, hb5⟩
        go_wp2
        go_ret
        exact ⟨rfl, (below_drewN HB3.out nn).trans (hb5.mono (by have := HB3.out.size; simpa using this))⟩
      · exact absurd HF.out (hno _ _ _ _)
    · have HN := hide hno
      have HB1 := hide hbel
      clear hno hbel
      go_wp2_with fail
      have hA1 := HB1.out.alloc HB1.out.size (.cells #[.int .i64 0, .slice none 0 0, .slice none 0 0] 25)
      refine (unpack_any a len cap l _ (HB.out.later hA1) (by omega) hcap).mono ?_
      rintro e w2 (⟨kind', nums', nb', bs', a1', c1', a2', c2', rfl, hfr, hi, hbk, hbel⟩ | ⟨rfl, hno, hbel⟩)
      · exact absurd hfr (HN.out _ _ _ _)
      · have hs2 := hbel.size
        rw [World.size_alloc] at hs2
        have HB2 := hide (hA1.trans (hbel.mono (by have := HB1.out.size; simp; omega)))
        have HX2 := hide (BoxAt.later (BoxAt.new w1 (.int .i64 0) (.slice none 0 0) (.slice none 0 0)) hbel (by simp))
        have e0 := HX2.out.cell0
        have e1 := HX2.out.cell1
        have e2 := HX2.out.cell2
        have hsz : w1.heap.size < w2.heap.size := by omega
        have hne3 := neq_err3
        clear hno hbel hA1
        go_wp2_with fail
        have HB3 := hide (HB2.out.alloc (by have := HB2.out.size; omega) (.cells #[.int .i64 0, .slice none 0 0, .slice none 0 0] 25))
        refine (sum_any a len cap l _ (HB.out.later HB3.out)).mono ?_
        rintro e w3 ⟨rfl, rfl⟩
        obtain ⟨S, hS⟩ : ∃ S : Nat, Hid (Mx.crc l = S) := ⟨_, rfl⟩
        rw [hS.out]
        have hss : ((S : Int) != (S : Int)) = false := by simp
        go_wp2_with fail
        refine (sumOf_any a len cap l _ (HB.out.later HB3.out)).mono ?_
        rintro e w3 ⟨rfl, nn, rfl⟩
        rw [hS.out]
        go_wp2_with fail
        refine (sameFrame_true 0 none none none none 0 0 0 0 0 0 0 0 [] [] _ (ints_nil _) (blks_nil _) (ints_nil _) (blks_nil _)).mono ?_
        rintro e w5 ⟨rfl, hb5⟩
        go_wp2
        go_ret
        exact ⟨rfl, (below_drewN HB3.out nn).trans (hb5.mono (by have := HB3.out.size; simpa using this))⟩
end Go.Proofs.Ytengpogcdnbabaa
