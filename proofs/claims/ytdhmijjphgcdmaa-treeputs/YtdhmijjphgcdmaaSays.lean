/-
  For every frame: whether it may be, and its bytes, are what the document's answer says (FrameSays): the walk.
-/
import Derived.Test.YtdhmijjphgcdmaaPack
namespace Go.Proofs.Ytdhmijjphgcdmaa
open Go.RowKit

theorem bytes_nil (w : World) : Bytes w none 0 [] := ⟨rfl, by unfold maxLen; omega, by simp, fun h => absurd h (by omega)⟩

theorem packB_byte {w : World} {kind : Int} {a2 : Option Addr} {n2 : Nat} {l bs : List Int} (h2 : Blks w a2 n2 bs) (hm : Mx.may kind l n2 = 0) : ∀ x ∈ Mx.packB kind l n2 bs, 0 ≤ x ∧ x ≤ 255 := by
  obtain ⟨hk0, hk1, hll, hn2, hg⟩ := may_facts hm
  intro x hx
  rw [Mx.packB, List.mem_append] at hx
  rcases hx with hx | hx
  · exact Mx.bodyB_byte hk0 hk1 hll hn2 hg h2.2.2.1 x hx
  · have := Mx.crc_lt (Mx.bodyB kind l n2 bs)
    simp only [Mx.sealB, List.mem_cons, List.not_mem_nil, or_false] at hx
    rcases hx with rfl | rfl | rfl | rfl <;> omega

theorem is_nil (n : Int) (w : World) : Calls Try.prog 17 #[.nilIface, .int .i64 n] w fun e w' => e = .returned (.bool (0 == n)) ∧ w' = w := is_any 0 n w

/-- a frame in its box, and all that was there -/
def Boxf (w wr : World) (s0 s1 s2 : Value) : Prop :=
  wr.cell? ⟨w.heap.size, 0, none⟩ = some s0 ∧ wr.cell? ⟨w.heap.size, 1, none⟩ = some s1 ∧ wr.cell? ⟨w.heap.size, 2, none⟩ = some s2 ∧ Below w.heap.size w wr ∧ w.heap.size < wr.heap.size

theorem Boxf.start (w : World) (s0 s1 s2 : Value) : Boxf w (w.alloc (.cells #[s0, s1, s2] 25)) s0 s1 s2 :=
  ⟨by rw [World.cell?_alloc_new]; rfl, by rw [World.cell?_alloc_new]; rfl, by rw [World.cell?_alloc_new]; rfl, below_alloc _ _, by simp⟩

theorem Boxf.later {w wr w' : World} {s0 s1 s2 : Value} (h : Boxf w wr s0 s1 s2) (hb : Below wr.heap.size wr w') : Boxf w w' s0 s1 s2 :=
  ⟨(hb.cell (p := ⟨w.heap.size, 0, none⟩) h.2.2.2.2).trans h.1, (hb.cell (p := ⟨w.heap.size, 1, none⟩) h.2.2.2.2).trans h.2.1, (hb.cell (p := ⟨w.heap.size, 2, none⟩) h.2.2.2.2).trans h.2.2.1,
    h.2.2.2.1.trans (hb.mono (by have := h.2.2.2.2; omega)), by have := hb.size; have := h.2.2.2.2; omega⟩

set_option maxHeartbeats 1000000 in
set_option maxRecDepth 100000 in
theorem says_ok (kind : Int) (a1 a2 : Option Addr) (n1 c1 n2 c2 : Nat) (l bs : List Int) (w : World) (h1 : Ints w a1 n1 l) (h2 : Blks w a2 n2 bs) (hm : Mx.may kind l n2 = 0) :
    Calls Try.prog 3 #[.agg #[.int .i64 kind, .slice a1 n1 c1, .slice a2 n2 c2]] w fun e w' => e = .returned (.bool true) ∧ Below w.heap.size w w' := by
  have H1 := hide h1
  have H2 := hide h2
  have HM := hide hm
  clear h1 h2 hm
  go_enter Try.func3, Try.ntmps3
  go_wp2_with fail
  refine (frameMay_any kind a1 a2 n1 c1 n2 c2 l _ (H1.out.later (below_alloc _ _)) H2.out.2.1).mono ?_
  rintro e w1 ⟨rfl, hb1⟩
  rw [HM.out]
  have X1 := hide ((Boxf.start w (.int .i64 kind) (.slice a1 n1 c1) (.slice a2 n2 c2)).later hb1)
  clear hb1
  obtain ⟨f0, f1, f2, b1, s1⟩ := X1.out
  go_wp2_with fail
  refine (packed_any kind a1 a2 n1 c1 n2 c2 l bs w1 (H1.out.later b1) (H2.out.later b1) HM.out).mono ?_
  rintro e w2 ⟨v, rfl, hown, hb2⟩
  obtain ⟨PB, hPB, hPB2, hPB3⟩ : ∃ PB : List Int, Hid (PB = Mx.packB kind l n2 bs) ∧ Hid (∀ x ∈ PB, 0 ≤ x ∧ x ≤ 255) ∧ PB ≠ [] := ⟨_, rfl, packB_byte H2.out HM.out, by simp [Mx.packB, Mx.sealB]⟩
  rw [← hPB.out] at hown
  obtain ⟨g, cap, rfl, hg1, hg2⟩ := own_slice hown hPB3
  have HB := hide (own_bytes hown hPB2.out)
  have X2 := hide (X1.out.later hb2)
  clear hown f0 f1 f2 b1 s1 X1 hg1 hg2 hb2
  obtain ⟨f0, f1, f2, b1, s1⟩ := X2.out
  go_wp2_with fail
  refine (pack_ok kind a1 a2 n1 c1 n2 c2 l bs w2 (H1.out.later b1) (H2.out.later b1) HM.out).mono ?_
  rintro e w3 ⟨v, rfl, hown, hb2⟩
  rw [← hPB.out] at hown
  obtain ⟨g3, cap3, rfl, hg1, hg2⟩ := own_slice hown hPB3
  have HB3 := hide (own_bytes hown hPB2.out)
  have HB2 := hide (HB.out.later hb2)
  have X3 := hide (X2.out.later hb2)
  clear hown f0 f1 f2 b1 s1 X2 hg1 hg2 hb2 HB
  obtain ⟨f0, f1, f2, b1, s1⟩ := X3.out
  go_wp2_with fail
  refine (check_any kind a1 a2 n1 c1 n2 c2 l w3 (H1.out.later b1) H2.out.2.1).mono ?_
  rintro e w4 ⟨rfl, hb4⟩
  have b4 : Below w.heap.size w w4 := (X3.out.later hb4).2.2.2.1
  have HB4 := hide (HB3.out.later hb4)
  have HB5 := hide (HB2.out.later hb4)
  clear f0 f1 f2 b1 s1 X3 HB3 HB2 hb4
  rw [HM.out]
  go_wp2_with fail
  refine (is_any 0 0 w4).mono ?_
  rintro e w' ⟨rfl, rfl⟩
  go_wp2_with fail
  refine (is_nil 0 w').mono ?_
  rintro e w'' ⟨rfl, rfl⟩
  go_wp2_with fail
  refine (sameBytes_any _ _ _ _ _ _ PB PB w'' HB4.out HB5.out rfl).mono ?_
  rintro e w5 ⟨rfl, nn, rfl⟩
  go_wp2
  go_ret
  exact ⟨rfl, below_drewN b4 nn⟩

set_option maxHeartbeats 1000000 in
set_option maxRecDepth 100000 in
theorem says_err (kind : Int) (a1 a2 : Option Addr) (n1 c1 n2 c2 : Nat) (l : List Int) (w : World) (h1 : Ints w a1 n1 l) (h2 : n2 ≤ maxLen) (hm : Mx.may kind l n2 ≠ 0) :
    Calls Try.prog 3 #[.agg #[.int .i64 kind, .slice a1 n1 c1, .slice a2 n2 c2]] w fun e w' => e = .returned (.bool true) ∧ Below w.heap.size w w' := by
  have H1 := hide h1
  have H2 := hide h2
  clear h1 h2
  obtain ⟨E, hE, hE0⟩ : ∃ E : Int, Hid (Mx.may kind l n2 = E) ∧ (E == 0) = false := ⟨_, rfl, by simpa using hm⟩
  have HE0 := hide (show E ≠ 0 by simpa using hE0)
  clear hm
  go_enter Try.func3, Try.ntmps3
  go_wp2_with fail
  refine (frameMay_any kind a1 a2 n1 c1 n2 c2 l _ (H1.out.later (below_alloc _ _)) H2.out).mono ?_
  rintro e w1 ⟨rfl, hb1⟩
  rw [hE.out]
  have X1 := hide ((Boxf.start w (.int .i64 kind) (.slice a1 n1 c1) (.slice a2 n2 c2)).later hb1)
  clear hb1
  obtain ⟨f0, f1, f2, b1, s1⟩ := X1.out
  go_wp2_with fail
  refine (pack_err kind a1 a2 n1 c1 n2 c2 l w1 (H1.out.later b1) H2.out (by rw [hE.out]; exact HE0.out)).mono ?_
  rintro e w3 ⟨rfl, hb2⟩
  rw [hE.out]
  have X3 := hide (X1.out.later hb2)
  clear f0 f1 f2 b1 s1 X1 hb2
  obtain ⟨f0, f1, f2, b1, s1⟩ := X3.out
  go_wp2_with fail
  refine (check_any kind a1 a2 n1 c1 n2 c2 l w3 (H1.out.later b1) H2.out).mono ?_
  rintro e w4 ⟨rfl, hb4⟩
  rw [hE.out]
  have b4 : Below w.heap.size w w4 := (X3.out.later hb4).2.2.2.1
  clear f0 f1 f2 b1 s1 X3 hb4
  go_wp2_with fail
  refine (is_any E E w4).mono ?_
  rintro e w' ⟨rfl, rfl⟩
  rw [beq_self_eq_true]
  go_wp2_with fail
  refine (is_any E E w').mono ?_
  rintro e w'' ⟨rfl, rfl⟩
  rw [beq_self_eq_true]
  go_wp2_with fail
  refine (sameBytes_any _ _ _ _ _ _ [] [] w'' (bytes_nil _) (bytes_nil _) rfl).mono ?_
  rintro e w5 ⟨rfl, nn, rfl⟩
  go_wp2
  go_ret
  exact ⟨rfl, below_drewN b4 nn⟩

theorem says_any (kind : Int) (a1 a2 : Option Addr) (n1 c1 n2 c2 : Nat) (l bs : List Int) (w : World) (h1 : Ints w a1 n1 l) (h2 : Blks w a2 n2 bs) :
    Calls Try.prog 3 #[.agg #[.int .i64 kind, .slice a1 n1 c1, .slice a2 n2 c2]] w fun e w' => e = .returned (.bool true) ∧ Below w.heap.size w w' := by
  by_cases hm : Mx.may kind l n2 = 0
  · exact says_ok kind a1 a2 n1 c1 n2 c2 l bs w h1 h2 hm
  · exact says_err kind a1 a2 n1 c1 n2 c2 l w h1 h2.2.1 hm
end Go.Proofs.Ytdhmijjphgcdmaa
