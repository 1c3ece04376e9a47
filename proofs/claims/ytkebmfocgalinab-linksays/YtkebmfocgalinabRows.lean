/-
  No cell of these rows narrows 'for every input' (looked for: loops, veiled, ifaces, maps, wideKeys, modest, calm, conditions, laid).
  DERIVED. THE GIVEN ROWS OF THIS SEAT. 7 by the template 'for every input the law returns true; each argument reads behind the call as it read before'; 0 by the template 'total and deterministic' (their statements: YtkebmfocgalinabTotals.lean).
  GIVEN WITH THE SEED: the statements are not yours to turn. If you find one false, say at which input.
  Laid BY PROGRAM, IN A SANDBOX (cutbox-rows.mjs): the forced cells as the released guide's own fill.sh prints them over the translation 9e512ec3c7ff3778… (all of the seat's roots in one cut). By AI agents, Wed Nov 11 2026. No macro, syntax, notation, axiom, sorry.
-/
import Derived.Test.YtkebmfocgalinabChecked
import GoSem.Claim
import GoSem.ClaimJoined
import GoSem.ClaimMapViews
import Derived.JoinedTies
import Derived.KernelRfl
namespace Go.Proofs.Ytkebmfocgalinab
/- THE CELL 'sum', in the pinned program and in every row, IS THE sha256 OF THE DUMP (.gsa) THAT YtkebmfocgalinabProg.lean LOADS. Nothing in Lean hashes anything: it is a label: what it is worth is what the hold of that sum in a sandbox is worth. -/
noncomputable def Try.pinned : Pinned := { name := "ytkebmfocgalinab", sum := "9e512ec3c7ff377828d720c4a9a69f288d3cfd7354911da18bfa823c6af45c51", checked := Try.checked }
namespace Rows
def none {H : Type} : Left H := { results := [], args := [] }

/-- 'stillwaterlaw.EpochSays': WHATEVER THE INPUT: true; the input reads as it did. -/
def epochSaysSpec : ChangeSpec := { name := "epochSays", fn := fun _ => fun
  | [d1, d2, d3, d4] => { results := [.lit (.bool true)], args := [d1, d2, d3, d4] }
  | _ => none }
def epochSaysRow : OpenClaim := { program := "ytkebmfocgalinab", sum := "9e512ec3c7ff377828d720c4a9a69f288d3cfd7354911da18bfa823c6af45c51", func := "stillwater/stillwaterlaw.EpochSays", spec := "epochSays", apart := false }
def EpochSaysSaid : Prop := epochSaysRow.holds Try.pinned (OpenSpec.ofChange epochSaysSpec)

/-- ITS FALSE NEIGHBOUR: 'it returns false'. Refute it at one input. -/
def epochSaysWrong : ChangeSpec := { name := "epochSays", fn := fun _ => fun
  | [d1, d2, d3, d4] => { results := [.lit (.bool false)], args := [d1, d2, d3, d4] }
  | _ => none }
def EpochSaysWrongFalsely : Prop := epochSaysRow.holds Try.pinned (OpenSpec.ofChange epochSaysWrong)

/-- 'stillwaterlaw.EpochMade': WHATEVER THE INPUT: true; the input reads as it did. -/
def epochMadeSpec : ChangeSpec := { name := "epochMade", fn := fun _ => fun
  | [d1, d2, d3, d4] => { results := [.lit (.bool true)], args := [d1, d2, d3, d4] }
  | _ => none }
def epochMadeRow : OpenClaim := { program := "ytkebmfocgalinab", sum := "9e512ec3c7ff377828d720c4a9a69f288d3cfd7354911da18bfa823c6af45c51", func := "stillwater/stillwaterlaw.EpochMade", spec := "epochMade", apart := false }
def EpochMadeSaid : Prop := epochMadeRow.holds Try.pinned (OpenSpec.ofChange epochMadeSpec)

/-- ITS FALSE NEIGHBOUR: 'it returns false'. Refute it at one input. -/
def epochMadeWrong : ChangeSpec := { name := "epochMade", fn := fun _ => fun
  | [d1, d2, d3, d4] => { results := [.lit (.bool false)], args := [d1, d2, d3, d4] }
  | _ => none }
def EpochMadeWrongFalsely : Prop := epochMadeRow.holds Try.pinned (OpenSpec.ofChange epochMadeWrong)

/-- 'stillwaterlaw.PlanSays': WHATEVER THE INPUT: true; the input reads as it did. -/
def planSaysSpec : ChangeSpec := { name := "planSays", fn := fun _ => fun
  | [d1, d2, d3] => { results := [.lit (.bool true)], args := [d1, d2, d3] }
  | _ => none }
def planSaysRow : OpenClaim := { program := "ytkebmfocgalinab", sum := "9e512ec3c7ff377828d720c4a9a69f288d3cfd7354911da18bfa823c6af45c51", func := "stillwater/stillwaterlaw.PlanSays", spec := "planSays", unfollowed := true, recurses := true, apart := false }
def PlanSaysSaid : Prop := planSaysRow.holds Try.pinned (OpenSpec.ofChange planSaysSpec)

/-- ITS FALSE NEIGHBOUR: 'it returns false'. Refute it at one input. -/
def planSaysWrong : ChangeSpec := { name := "planSays", fn := fun _ => fun
  | [d1, d2, d3] => { results := [.lit (.bool false)], args := [d1, d2, d3] }
  | _ => none }
def PlanSaysWrongFalsely : Prop := planSaysRow.holds Try.pinned (OpenSpec.ofChange planSaysWrong)

/-- 'stillwaterlaw.PlanApplies': WHATEVER THE INPUT: true; the input reads as it did. -/
def planAppliesSpec : ChangeSpec := { name := "planApplies", fn := fun _ => fun
  | [d1, d2, d3] => { results := [.lit (.bool true)], args := [d1, d2, d3] }
  | _ => none }
def planAppliesRow : OpenClaim := { program := "ytkebmfocgalinab", sum := "9e512ec3c7ff377828d720c4a9a69f288d3cfd7354911da18bfa823c6af45c51", func := "stillwater/stillwaterlaw.PlanApplies", spec := "planApplies", unfollowed := true, recurses := true, apart := false }
def PlanAppliesSaid : Prop := planAppliesRow.holds Try.pinned (OpenSpec.ofChange planAppliesSpec)

/-- ITS FALSE NEIGHBOUR: 'it returns false'. Refute it at one input. -/
def planAppliesWrong : ChangeSpec := { name := "planApplies", fn := fun _ => fun
  | [d1, d2, d3] => { results := [.lit (.bool false)], args := [d1, d2, d3] }
  | _ => none }
def PlanAppliesWrongFalsely : Prop := planAppliesRow.holds Try.pinned (OpenSpec.ofChange planAppliesWrong)

/-- 'stillwaterlaw.LinkSays': WHATEVER THE INPUT: true; the input reads as it did. -/
def linkSaysSpec : ChangeSpec := { name := "linkSays", fn := fun _ => fun
  | [d1, d2] => { results := [.lit (.bool true)], args := [d1, d2] }
  | _ => none }
def linkSaysRow : OpenClaim := { program := "ytkebmfocgalinab", sum := "9e512ec3c7ff377828d720c4a9a69f288d3cfd7354911da18bfa823c6af45c51", func := "stillwater/stillwaterlaw.LinkSays", spec := "linkSays", apart := false }
def LinkSaysSaid : Prop := linkSaysRow.holds Try.pinned (OpenSpec.ofChange linkSaysSpec)

/-- ITS FALSE NEIGHBOUR: 'it returns false'. Refute it at one input. -/
def linkSaysWrong : ChangeSpec := { name := "linkSays", fn := fun _ => fun
  | [d1, d2] => { results := [.lit (.bool false)], args := [d1, d2] }
  | _ => none }
def LinkSaysWrongFalsely : Prop := linkSaysRow.holds Try.pinned (OpenSpec.ofChange linkSaysWrong)

/-- 'stillwaterlaw.LinkHears': WHATEVER THE INPUT: true; the input reads as it did. -/
def linkHearsSpec : ChangeSpec := { name := "linkHears", fn := fun _ => fun
  | [d1, d2, d3] => { results := [.lit (.bool true)], args := [d1, d2, d3] }
  | _ => none }
def linkHearsRow : OpenClaim := { program := "ytkebmfocgalinab", sum := "9e512ec3c7ff377828d720c4a9a69f288d3cfd7354911da18bfa823c6af45c51", func := "stillwater/stillwaterlaw.LinkHears", spec := "linkHears", unfollowed := true, recurses := true, apart := false }
def LinkHearsSaid : Prop := linkHearsRow.holds Try.pinned (OpenSpec.ofChange linkHearsSpec)

/-- ITS FALSE NEIGHBOUR: 'it returns false'. Refute it at one input. -/
def linkHearsWrong : ChangeSpec := { name := "linkHears", fn := fun _ => fun
  | [d1, d2, d3] => { results := [.lit (.bool false)], args := [d1, d2, d3] }
  | _ => none }
def LinkHearsWrongFalsely : Prop := linkHearsRow.holds Try.pinned (OpenSpec.ofChange linkHearsWrong)

/-- 'stillwaterlaw.LinkMade': WHATEVER THE INPUT: true; the input reads as it did. -/
def linkMadeSpec : ChangeSpec := { name := "linkMade", fn := fun _ => fun
  | [d1, d2, d3, d4] => { results := [.lit (.bool true)], args := [d1, d2, d3, d4] }
  | _ => none }
def linkMadeRow : OpenClaim := { program := "ytkebmfocgalinab", sum := "9e512ec3c7ff377828d720c4a9a69f288d3cfd7354911da18bfa823c6af45c51", func := "stillwater/stillwaterlaw.LinkMade", spec := "linkMade", unfollowed := true, recurses := true, apart := false }
def LinkMadeSaid : Prop := linkMadeRow.holds Try.pinned (OpenSpec.ofChange linkMadeSpec)

/-- ITS FALSE NEIGHBOUR: 'it returns false'. Refute it at one input. -/
def linkMadeWrong : ChangeSpec := { name := "linkMade", fn := fun _ => fun
  | [d1, d2, d3, d4] => { results := [.lit (.bool false)], args := [d1, d2, d3, d4] }
  | _ => none }
def LinkMadeWrongFalsely : Prop := linkMadeRow.holds Try.pinned (OpenSpec.ofChange linkMadeWrong)

/- THE SECOND FORM. 'bulk': how many values and letters a reading holds, each counted each time it is reached (what is shared counts as often as it is met; a slice's spare places count too). A statement '..UptoSaid' is the law's where the arguments, and the package variables that the reading takes, are together of bulk at most 1048576: NARROWER than '..Said'. Prove '..Said' where nothing that the law and all that it calls make is longer than what came in: it says more and counts as full. Else prove '..UptoSaid'. A law counts once. -/
mutual
def uptoBulk {H : Type} : DataW H → Nat
  | .lit (.string bytes) => bytes.length + 1
  | .lit _ => 1
  | .nil => 1
  | .ptr d => uptoBulk d + 1
  | .slice elems spare => uptoBulkAll elems + uptoBulkAll spare + 1
  | .agg parts => uptoBulkAll parts + 1
  | .iface _ d => uptoBulk d + 1
  | .map entries => uptoBulkEntries entries + 1
  | .held _ => 1
def uptoBulkAll {H : Type} : List (DataW H) → Nat
  | [] => 0
  | d :: r => uptoBulk d + uptoBulkAll r
def uptoBulkEntries {H : Type} : List (Lit × DataW H) → Nat
  | [] => 0
  | x :: r => uptoBulkEntry x + uptoBulkEntries r
def uptoBulkEntry {H : Type} : Lit × DataW H → Nat
  | (.string bytes, d) => bytes.length + uptoBulk d + 1
  | (_, d) => uptoBulk d + 1
 end
def uptoSmall : (H : Type) → List (DataW H) → Bool := fun _ ds => decide (uptoBulkAll ds ≤ 1048576)
def OpenSpec.upto (s : _root_.Go.ChangeSpec) : _root_.Go.OpenSpec := { _root_.Go.OpenSpec.ofChange s with cond := some uptoSmall }

/-- 'stillwaterlaw.EpochSays', WHERE WHAT IT READS IS OF BULK AT MOST 1048576: true; the input reads as it did. -/
def epochSaysUptoRow : OpenClaim := { program := "ytkebmfocgalinab", sum := "9e512ec3c7ff377828d720c4a9a69f288d3cfd7354911da18bfa823c6af45c51", func := "stillwater/stillwaterlaw.EpochSays", spec := "epochSays", apart := false, narrowed := true }
def EpochSaysUptoSaid : Prop := epochSaysUptoRow.holds Try.pinned (OpenSpec.upto epochSaysSpec)

/-- 'stillwaterlaw.EpochMade', WHERE WHAT IT READS IS OF BULK AT MOST 1048576: true; the input reads as it did. -/
def epochMadeUptoRow : OpenClaim := { program := "ytkebmfocgalinab", sum := "9e512ec3c7ff377828d720c4a9a69f288d3cfd7354911da18bfa823c6af45c51", func := "stillwater/stillwaterlaw.EpochMade", spec := "epochMade", apart := false, narrowed := true }
def EpochMadeUptoSaid : Prop := epochMadeUptoRow.holds Try.pinned (OpenSpec.upto epochMadeSpec)

/-- 'stillwaterlaw.PlanSays', WHERE WHAT IT READS IS OF BULK AT MOST 1048576: true; the input reads as it did. -/
def planSaysUptoRow : OpenClaim := { program := "ytkebmfocgalinab", sum := "9e512ec3c7ff377828d720c4a9a69f288d3cfd7354911da18bfa823c6af45c51", func := "stillwater/stillwaterlaw.PlanSays", spec := "planSays", unfollowed := true, recurses := true, apart := false, narrowed := true }
def PlanSaysUptoSaid : Prop := planSaysUptoRow.holds Try.pinned (OpenSpec.upto planSaysSpec)

/-- 'stillwaterlaw.PlanApplies', WHERE WHAT IT READS IS OF BULK AT MOST 1048576: true; the input reads as it did. -/
def planAppliesUptoRow : OpenClaim := { program := "ytkebmfocgalinab", sum := "9e512ec3c7ff377828d720c4a9a69f288d3cfd7354911da18bfa823c6af45c51", func := "stillwater/stillwaterlaw.PlanApplies", spec := "planApplies", unfollowed := true, recurses := true, apart := false, narrowed := true }
def PlanAppliesUptoSaid : Prop := planAppliesUptoRow.holds Try.pinned (OpenSpec.upto planAppliesSpec)

/-- 'stillwaterlaw.LinkSays', WHERE WHAT IT READS IS OF BULK AT MOST 1048576: true; the input reads as it did. -/
def linkSaysUptoRow : OpenClaim := { program := "ytkebmfocgalinab", sum := "9e512ec3c7ff377828d720c4a9a69f288d3cfd7354911da18bfa823c6af45c51", func := "stillwater/stillwaterlaw.LinkSays", spec := "linkSays", apart := false, narrowed := true }
def LinkSaysUptoSaid : Prop := linkSaysUptoRow.holds Try.pinned (OpenSpec.upto linkSaysSpec)

/-- 'stillwaterlaw.LinkHears', WHERE WHAT IT READS IS OF BULK AT MOST 1048576: true; the input reads as it did. -/
def linkHearsUptoRow : OpenClaim := { program := "ytkebmfocgalinab", sum := "9e512ec3c7ff377828d720c4a9a69f288d3cfd7354911da18bfa823c6af45c51", func := "stillwater/stillwaterlaw.LinkHears", spec := "linkHears", unfollowed := true, recurses := true, apart := false, narrowed := true }
def LinkHearsUptoSaid : Prop := linkHearsUptoRow.holds Try.pinned (OpenSpec.upto linkHearsSpec)

/-- 'stillwaterlaw.LinkMade', WHERE WHAT IT READS IS OF BULK AT MOST 1048576: true; the input reads as it did. -/
def linkMadeUptoRow : OpenClaim := { program := "ytkebmfocgalinab", sum := "9e512ec3c7ff377828d720c4a9a69f288d3cfd7354911da18bfa823c6af45c51", func := "stillwater/stillwaterlaw.LinkMade", spec := "linkMade", unfollowed := true, recurses := true, apart := false, narrowed := true }
def LinkMadeUptoSaid : Prop := linkMadeUptoRow.holds Try.pinned (OpenSpec.upto linkMadeSpec)

end Rows
end Go.Proofs.Ytkebmfocgalinab
