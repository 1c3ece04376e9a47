/-
  The document's copy of a disk (OwnDisk).
-/
import Derived.Test.YtengpogcdnbabaaDown
import Derived.Test.YtengpogcdnbabaaDownn
namespace Go.Proofs.Ytengpogcdnbabaa
open Go.RowKit

theorem ownDisk_any (sa pa : Option Addr) (n sc m pc : Nat) (left : Int) (ls : List B8) (ps : List Pt) (w : World) (hs : BL w sa n ls) (hp : PL w pa m ps) (hn : n ≤ 1000000) (hm : m ≤ 1000000) :
    Calls Try.prog 29 #[.agg #[.slice sa n sc, .slice pa m pc, .int .i64 left]] w fun e w' =>
      ∃ a1 c1 a2 c2, e = .returned (.agg #[.slice a1 n c1, .slice a2 m c2, .int .i64 left]) ∧ Hid (OwnBL w' w.heap.size (.slice a1 n c1) ls) ∧ Hid (OwnPL w' w.heap.size (.slice a2 m c2) ps) ∧ Hid (Below w.heap.size w w') := by
  have hend : ∀ (e : Ending) (w' : World), (∃ v1 v2, e = .returned (.agg #[v1, v2, .int .i64 left]) ∧ OwnBL w' w.heap.size v1 ls ∧ OwnPL w' w.heap.size v2 ps ∧ (∀ g, v1.ownBlock = some g → v2.ownBlock ≠ some g) ∧ Below w.heap.size w w') →
      ∃ a1 c1 a2 c2, e = .returned (.agg #[.slice a1 n c1, .slice a2 m c2, .int .i64 left]) ∧ Hid (OwnBL w' w.heap.size (.slice a1 n c1) ls) ∧ Hid (OwnPL w' w.heap.size (.slice a2 m c2) ps) ∧ Hid (Below w.heap.size w w') := by
    rintro e w' ⟨v1, v2, rfl, h1, h2, _, hb⟩
    obtain ⟨a1, c1, e1, _⟩ := ownsRow_rowR h1
    obtain ⟨a2, c2, e2, _⟩ := ownsRow_rowR h2
    rw [hs.1] at e1
    rw [hp.1] at e2
    subst e1 e2
    exact ⟨a1, c1, a2, c2, rfl, h1, h2, hb⟩
  cases pa with
  | none =>
    obtain ⟨rfl, _⟩ := rowR_empty hp.2
    exact (ownDisk_nil sa n sc pc left ls ps w hs hp hn).mono hend
  | some ad => exact (ownDisk_some sa ad n sc m pc left ls ps w hs hp hn hm).mono hend
end Go.Proofs.Ytengpogcdnbabaa
