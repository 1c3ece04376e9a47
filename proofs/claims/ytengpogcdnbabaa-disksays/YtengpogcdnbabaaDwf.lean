/-
  Write and Flush where all goes well, their results as slices.
-/
import Derived.Test.YtengpogcdnbabaaDwrite
import Derived.Test.YtengpogcdnbabaaDflush
namespace Go.Proofs.Ytengpogcdnbabaa
open Go.RowKit

theorem write_ok (sa pa : Option Addr) (n sc m pc : Nat) (left at_ : Int) (x : B8) (ls : List B8) (ps : List Pt) (w : World) (hs : BL w sa n ls) (hp : PL w pa m ps) (hl1 : -9223372036854775808 ≤ left) (hl2 : left ≤ 9223372036854775807) (hm : Mx.dwrite n ps left at_ = 0) :
    Calls Try.prog 30 #[.agg #[.slice sa n sc, .slice pa m pc, .int .i64 left], .int .i64 at_, .agg #[.int .u8 x.z0, .int .u8 x.z1, .int .u8 x.z2, .int .u8 x.z3, .int .u8 x.z4, .int .u8 x.z5, .int .u8 x.z6, .int .u8 x.z7]] w fun e w' =>
      ∃ a1 c1 a2 c2, e = .returned (.tuple #[.agg #[.slice a1 n c1, .slice a2 (m + 1) c2, .int .i64 (Mx.less left)], .nilIface]) ∧ Hid (BL w' a1 n ls) ∧ Hid (PL w' a2 (m + 1) (ps ++ [⟨at_, x⟩])) ∧ Hid (Below w.heap.size w w') := by
  refine (write_any sa pa n sc m pc left at_ x ls ps w hs hp hl1 hl2 hm).mono ?_
  rintro e w' ⟨v1, v2, rfl, h1, h2, hb⟩
  obtain ⟨a1, c1, e1, hB, _⟩ := h1.bl
  obtain ⟨a2, c2, e2, hP, _⟩ := h2.pl
  rw [hs.1] at e1 hB
  rw [List.length_append, hp.1] at e2 hP
  subst e1 e2
  exact ⟨a1, c1, a2, c2, rfl, hB, hP, hb⟩

theorem flush_ok (sa pa : Option Addr) (n sc m pc : Nat) (left : Int) (ls : List B8) (ps : List Pt) (w : World) (hs : BL w sa n ls) (hp : PL w pa m ps) (hl1 : -9223372036854775808 ≤ left) (hl2 : left ≤ 9223372036854775807) (hm : Mx.dflush n ps left = 0) :
    Calls Try.prog 31 #[.agg #[.slice sa n sc, .slice pa m pc, .int .i64 left]] w fun e w' =>
      ∃ a1 c1, e = .returned (.tuple #[.agg #[.slice a1 n c1, .slice none 0 0, .int .i64 (Mx.less left)], .nilIface]) ∧ Hid (BL w' a1 n (Mx.flushed ls ps)) ∧ Hid (Below w.heap.size w w') := by
  refine (flush_any sa pa n sc m pc left ls ps w hs hp hl1 hl2 hm).mono ?_
  rintro e w' ⟨v1, rfl, h1, hb⟩
  obtain ⟨a1, c1, e1, hB, _⟩ := h1.bl
  rw [Mx.flushed_len, hs.1] at e1 hB
  subst e1
  exact ⟨a1, c1, rfl, hB, hb⟩
end Go.Proofs.Ytengpogcdnbabaa
