/-
  DERIVED. GIVEN WITH THE SEED: THE CARDS: each row of YtfbmaemnbolplaaDoorRows.lean that lists a variable, with what it lists TIED to the program's text (the seventh form; the later family's looks); each row that meets fmt, with fmt's text TOLD by the authors' own Lean function (tested against real Go, not proved from fmt's source: count such statements apart). THE CARD IS WHAT COUNTS. Prove the row's statement (the work); the ties are given (YtfbmaemnbolplaaDoorTie.lean); close each card by the builder's one call (the guide's Derived/Test/ToyasCard.lean, 'card_holds'). Laid BY PROGRAM, IN A SANDBOX (cutbox-door.mjs). By AI agents, Wed Nov 11 2026. No macro, syntax, notation, axiom, sorry.
-/
import Derived.Test.YtfbmaemnbolplaaDoorRows
import GoSem.ClaimSeven
namespace Go.Proofs.YtfbmaemnbolplaaDoor
namespace Rows

/-- THE TIED CARD OF 'stillwaterlaw.CacheSays'. -/
def cacheSaysCard : Claim7 := { stood := { row := cacheSaysRow, standIns := [], harness := (true, "91660bdb4396034b09f1d86e1574be2952808ee138f5166c7e625d59b9a8b8cc"), looks := true }, kinds := [], alts := [], laidByText := true, laidKinds := [.data], laidTests := true, laidLooks := .later }
def CacheSaysCardSaid : Prop := Claim7.holds Tryd.pinned (.plain (OpenSpec.ofChange cacheSaysSpec)) cacheSaysCard

/-- THE SECOND FORM's CARD OF 'stillwaterlaw.CacheSays'. -/
def cacheSaysUptoCard : Claim7 := { stood := { row := cacheSaysUptoRow, standIns := [], harness := (true, "91660bdb4396034b09f1d86e1574be2952808ee138f5166c7e625d59b9a8b8cc"), looks := true }, kinds := [], alts := [], laidByText := true, laidKinds := [.data], laidTests := true, laidLooks := .later }
def CacheSaysUptoCardSaid : Prop := Claim7.holds Tryd.pinned (.plain (OpenSpec.upto cacheSaysSpec)) cacheSaysUptoCard
end Rows
end Go.Proofs.YtfbmaemnbolplaaDoor
