/-
  DERIVED. GIVEN WITH THE SEED: THE CARDS: each row of YtbicgjafjjihdaaGreatDoorRows.lean that lists a variable, with what it lists TIED to the program's text (the seventh form; the later family's looks); each row that meets fmt, with fmt's text TOLD by the authors' own Lean function (tested against real Go, not proved from fmt's source: count such statements apart). THE CARD IS WHAT COUNTS. Prove the row's statement (the work); the ties are given (YtbicgjafjjihdaaGreatDoorTie.lean); close each card by the builder's one call (the guide's Derived/Test/ToyasCard.lean, 'card_holds'). Laid BY PROGRAM, IN A SANDBOX (cutbox-door.mjs). By AI agents, Wed Nov 11 2026. No macro, syntax, notation, axiom, sorry.
-/
import Derived.Test.YtbicgjafjjihdaaGreatDoorRows
import GoSem.ClaimSeven
namespace Go.Proofs.YtbicgjafjjihdaaGreatDoor
namespace Rows

/-- THE TIED CARD OF 'stillwaterlaw.MirrorSays'. -/
def mirrorSaysCard : Claim7 := { stood := { row := mirrorSaysRow, standIns := [], harness := (true, "c8ab093685bec16bfea838506d3edd2a9e549f7b8ce7cfb1ae300b139cdfad4b"), looks := true }, kinds := [], alts := [], laidByText := true, laidKinds := [.handle], laidTests := true, laidLooks := .later }
def MirrorSaysCardSaid : Prop := Claim7.holds Tryz.pinned (.plain (OpenSpec.ofChange mirrorSaysSpec)) mirrorSaysCard

/-- THE TIED CARD OF 'stillwaterlaw.MirrorMade'. -/
def mirrorMadeCard : Claim7 := { stood := { row := mirrorMadeRow, standIns := [], harness := (true, "c8ab093685bec16bfea838506d3edd2a9e549f7b8ce7cfb1ae300b139cdfad4b"), looks := true }, kinds := [], alts := [], laidByText := true, laidKinds := [.handle], laidTests := true, laidLooks := .later }
def MirrorMadeCardSaid : Prop := Claim7.holds Tryz.pinned (.plain (OpenSpec.ofChange mirrorMadeSpec)) mirrorMadeCard

/-- THE TIED CARD OF 'stillwatertop.TopMirror'. -/
def topMirrorCard : Claim7 := { stood := { row := topMirrorRow, standIns := [], harness := (true, "c8ab093685bec16bfea838506d3edd2a9e549f7b8ce7cfb1ae300b139cdfad4b"), looks := true }, kinds := [], alts := [], laidByText := true, laidKinds := [.handle], laidTests := true, laidLooks := .later }
def TopMirrorCardSaid : Prop := Claim7.holds Tryz.pinned (.plain (OpenSpec.ofChange topMirrorSpec)) topMirrorCard

/-- THE TIED CARD OF 'stillwatertop.TopUnseen'. -/
def topUnseenCard : Claim7 := { stood := { row := topUnseenRow, standIns := [], harness := (true, "c8ab093685bec16bfea838506d3edd2a9e549f7b8ce7cfb1ae300b139cdfad4b"), looks := true }, kinds := [], alts := [], laidByText := true, laidKinds := [.handle], laidTests := true, laidLooks := .later }
def TopUnseenCardSaid : Prop := Claim7.holds Tryz.pinned (.plain (OpenSpec.ofChange topUnseenSpec)) topUnseenCard

/-- THE SECOND FORM's CARD OF 'stillwaterlaw.MirrorSays'. -/
def mirrorSaysUptoCard : Claim7 := { stood := { row := mirrorSaysUptoRow, standIns := [], harness := (true, "c8ab093685bec16bfea838506d3edd2a9e549f7b8ce7cfb1ae300b139cdfad4b"), looks := true }, kinds := [], alts := [], laidByText := true, laidKinds := [.handle], laidTests := true, laidLooks := .later }
def MirrorSaysUptoCardSaid : Prop := Claim7.holds Tryz.pinned (.plain (OpenSpec.upto mirrorSaysSpec)) mirrorSaysUptoCard

/-- THE SECOND FORM's CARD OF 'stillwaterlaw.MirrorMade'. -/
def mirrorMadeUptoCard : Claim7 := { stood := { row := mirrorMadeUptoRow, standIns := [], harness := (true, "c8ab093685bec16bfea838506d3edd2a9e549f7b8ce7cfb1ae300b139cdfad4b"), looks := true }, kinds := [], alts := [], laidByText := true, laidKinds := [.handle], laidTests := true, laidLooks := .later }
def MirrorMadeUptoCardSaid : Prop := Claim7.holds Tryz.pinned (.plain (OpenSpec.upto mirrorMadeSpec)) mirrorMadeUptoCard

/-- THE SECOND FORM's CARD OF 'stillwatertop.TopMirror'. -/
def topMirrorUptoCard : Claim7 := { stood := { row := topMirrorUptoRow, standIns := [], harness := (true, "c8ab093685bec16bfea838506d3edd2a9e549f7b8ce7cfb1ae300b139cdfad4b"), looks := true }, kinds := [], alts := [], laidByText := true, laidKinds := [.handle], laidTests := true, laidLooks := .later }
def TopMirrorUptoCardSaid : Prop := Claim7.holds Tryz.pinned (.plain (OpenSpec.upto topMirrorSpec)) topMirrorUptoCard

/-- THE SECOND FORM's CARD OF 'stillwatertop.TopUnseen'. -/
def topUnseenUptoCard : Claim7 := { stood := { row := topUnseenUptoRow, standIns := [], harness := (true, "c8ab093685bec16bfea838506d3edd2a9e549f7b8ce7cfb1ae300b139cdfad4b"), looks := true }, kinds := [], alts := [], laidByText := true, laidKinds := [.handle], laidTests := true, laidLooks := .later }
def TopUnseenUptoCardSaid : Prop := Claim7.holds Tryz.pinned (.plain (OpenSpec.upto topUnseenSpec)) topUnseenUptoCard
end Rows
end Go.Proofs.YtbicgjafjjihdaaGreatDoor
