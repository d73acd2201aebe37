/-
  No cell of these rows narrows 'for every input' (looked for: loops, veiled, ifaces, maps, wideKeys, modest, calm, conditions, laid).
  DERIVED. THE GIVEN ROWS OF THIS SEAT. 11 by the template 'for every input the law returns true; each argument reads behind the call as it read before'; 0 by the template 'total and deterministic' (their statements: YtaaflgaeeldkhaaTotals.lean).
  GIVEN WITH THE SEED: the statements are not yours to turn. If you find one false, say at which input.
  Laid BY PROGRAM, IN A SANDBOX (cutbox-rows.mjs): the forced cells as the released guide's own fill.sh prints them over the translation 0651b610854082af… (all of the seat's roots in one cut). By AI agents, Wed Nov 11 2026. No macro, syntax, notation, axiom, sorry.
-/
import Derived.Test.YtaaflgaeeldkhaaChecked
import GoSem.Claim
import GoSem.ClaimJoined
import GoSem.ClaimMapViews
import Derived.JoinedTies
import Derived.KernelRfl
namespace Go.Proofs.Ytaaflgaeeldkhaa
/- THE CELL 'sum', in the pinned program and in every row, IS THE sha256 OF THE DUMP (.gsa) THAT YtaaflgaeeldkhaaProg.lean LOADS. Nothing in Lean hashes anything: it is a label: what it is worth is what the hold of that sum in a sandbox is worth. -/
noncomputable def Try.pinned : Pinned := { name := "ytaaflgaeeldkhaa", sum := "0651b610854082af8da9a9c1e1e42323e26985c5e816918c1c80ee1c52991d8f", checked := Try.checked }
namespace Rows
def none {H : Type} : Left H := { results := [], args := [] }

/-- 'catenarylaw06.OrderBytes': WHATEVER THE INPUT: true; the input reads as it did. -/
def orderBytesSpec : ChangeSpec := { name := "orderBytes", fn := fun _ => fun
  | [d] => { results := [.lit (.bool true)], args := [d] }
  | _ => none }
def orderBytesRow : OpenClaim := { program := "ytaaflgaeeldkhaa", sum := "0651b610854082af8da9a9c1e1e42323e26985c5e816918c1c80ee1c52991d8f", func := "catenary/catenarylaw06.OrderBytes", spec := "orderBytes", unfollowed := true, recurses := true, apart := false }
def OrderBytesSaid : Prop := orderBytesRow.holds Try.pinned (OpenSpec.ofChange orderBytesSpec)

/-- ITS FALSE NEIGHBOUR: 'it returns false'. Refute it at one input. -/
def orderBytesWrong : ChangeSpec := { name := "orderBytes", fn := fun _ => fun
  | [d] => { results := [.lit (.bool false)], args := [d] }
  | _ => none }
def OrderBytesWrongFalsely : Prop := orderBytesRow.holds Try.pinned (OpenSpec.ofChange orderBytesWrong)

/-- 'catenarylaw06.OrderParses': WHATEVER THE INPUT: true; the input reads as it did. -/
def orderParsesSpec : ChangeSpec := { name := "orderParses", fn := fun _ => fun
  | [d] => { results := [.lit (.bool true)], args := [d] }
  | _ => none }
def orderParsesRow : OpenClaim := { program := "ytaaflgaeeldkhaa", sum := "0651b610854082af8da9a9c1e1e42323e26985c5e816918c1c80ee1c52991d8f", func := "catenary/catenarylaw06.OrderParses", spec := "orderParses", unfollowed := true, recurses := true, apart := false }
def OrderParsesSaid : Prop := orderParsesRow.holds Try.pinned (OpenSpec.ofChange orderParsesSpec)

/-- ITS FALSE NEIGHBOUR: 'it returns false'. Refute it at one input. -/
def orderParsesWrong : ChangeSpec := { name := "orderParses", fn := fun _ => fun
  | [d] => { results := [.lit (.bool false)], args := [d] }
  | _ => none }
def OrderParsesWrongFalsely : Prop := orderParsesRow.holds Try.pinned (OpenSpec.ofChange orderParsesWrong)

/-- 'catenarylaw06.OrderBack': WHATEVER THE INPUT: true; the input reads as it did. -/
def orderBackSpec : ChangeSpec := { name := "orderBack", fn := fun _ => fun
  | [d] => { results := [.lit (.bool true)], args := [d] }
  | _ => none }
def orderBackRow : OpenClaim := { program := "ytaaflgaeeldkhaa", sum := "0651b610854082af8da9a9c1e1e42323e26985c5e816918c1c80ee1c52991d8f", func := "catenary/catenarylaw06.OrderBack", spec := "orderBack", unfollowed := true, recurses := true, apart := false }
def OrderBackSaid : Prop := orderBackRow.holds Try.pinned (OpenSpec.ofChange orderBackSpec)

/-- ITS FALSE NEIGHBOUR: 'it returns false'. Refute it at one input. -/
def orderBackWrong : ChangeSpec := { name := "orderBack", fn := fun _ => fun
  | [d] => { results := [.lit (.bool false)], args := [d] }
  | _ => none }
def OrderBackWrongFalsely : Prop := orderBackRow.holds Try.pinned (OpenSpec.ofChange orderBackWrong)

/-- 'catenarylaw06.OrderAgain': WHATEVER THE INPUT: true; the input reads as it did. -/
def orderAgainSpec : ChangeSpec := { name := "orderAgain", fn := fun _ => fun
  | [d] => { results := [.lit (.bool true)], args := [d] }
  | _ => none }
def orderAgainRow : OpenClaim := { program := "ytaaflgaeeldkhaa", sum := "0651b610854082af8da9a9c1e1e42323e26985c5e816918c1c80ee1c52991d8f", func := "catenary/catenarylaw06.OrderAgain", spec := "orderAgain", unfollowed := true, recurses := true, apart := false }
def OrderAgainSaid : Prop := orderAgainRow.holds Try.pinned (OpenSpec.ofChange orderAgainSpec)

/-- ITS FALSE NEIGHBOUR: 'it returns false'. Refute it at one input. -/
def orderAgainWrong : ChangeSpec := { name := "orderAgain", fn := fun _ => fun
  | [d] => { results := [.lit (.bool false)], args := [d] }
  | _ => none }
def OrderAgainWrongFalsely : Prop := orderAgainRow.holds Try.pinned (OpenSpec.ofChange orderAgainWrong)

/-- 'catenarylaw06.OrderCut': WHATEVER THE INPUT: true; the input reads as it did. -/
def orderCutSpec : ChangeSpec := { name := "orderCut", fn := fun _ => fun
  | [d1, d2, d3] => { results := [.lit (.bool true)], args := [d1, d2, d3] }
  | _ => none }
def orderCutRow : OpenClaim := { program := "ytaaflgaeeldkhaa", sum := "0651b610854082af8da9a9c1e1e42323e26985c5e816918c1c80ee1c52991d8f", func := "catenary/catenarylaw06.OrderCut", spec := "orderCut", unfollowed := true, recurses := true, apart := false }
def OrderCutSaid : Prop := orderCutRow.holds Try.pinned (OpenSpec.ofChange orderCutSpec)

/-- ITS FALSE NEIGHBOUR: 'it returns false'. Refute it at one input. -/
def orderCutWrong : ChangeSpec := { name := "orderCut", fn := fun _ => fun
  | [d1, d2, d3] => { results := [.lit (.bool false)], args := [d1, d2, d3] }
  | _ => none }
def OrderCutWrongFalsely : Prop := orderCutRow.holds Try.pinned (OpenSpec.ofChange orderCutWrong)

/-- 'catenarylaw07.MaskFits': WHATEVER THE INPUT: true; the input reads as it did. -/
def maskFitsSpec : ChangeSpec := { name := "maskFits", fn := fun _ => fun
  | [d1, d2, d3] => { results := [.lit (.bool true)], args := [d1, d2, d3] }
  | _ => none }
def maskFitsRow : OpenClaim := { program := "ytaaflgaeeldkhaa", sum := "0651b610854082af8da9a9c1e1e42323e26985c5e816918c1c80ee1c52991d8f", func := "catenary/catenarylaw07.MaskFits", spec := "maskFits", apart := false }
def MaskFitsSaid : Prop := maskFitsRow.holds Try.pinned (OpenSpec.ofChange maskFitsSpec)

/-- ITS FALSE NEIGHBOUR: 'it returns false'. Refute it at one input. -/
def maskFitsWrong : ChangeSpec := { name := "maskFits", fn := fun _ => fun
  | [d1, d2, d3] => { results := [.lit (.bool false)], args := [d1, d2, d3] }
  | _ => none }
def MaskFitsWrongFalsely : Prop := maskFitsRow.holds Try.pinned (OpenSpec.ofChange maskFitsWrong)

/-- 'catenarylaw07.MaskMeets': WHATEVER THE INPUT: true; the input reads as it did. -/
def maskMeetsSpec : ChangeSpec := { name := "maskMeets", fn := fun _ => fun
  | [d1, d2] => { results := [.lit (.bool true)], args := [d1, d2] }
  | _ => none }
def maskMeetsRow : OpenClaim := { program := "ytaaflgaeeldkhaa", sum := "0651b610854082af8da9a9c1e1e42323e26985c5e816918c1c80ee1c52991d8f", func := "catenary/catenarylaw07.MaskMeets", spec := "maskMeets", apart := false }
def MaskMeetsSaid : Prop := maskMeetsRow.holds Try.pinned (OpenSpec.ofChange maskMeetsSpec)

/-- ITS FALSE NEIGHBOUR: 'it returns false'. Refute it at one input. -/
def maskMeetsWrong : ChangeSpec := { name := "maskMeets", fn := fun _ => fun
  | [d1, d2] => { results := [.lit (.bool false)], args := [d1, d2] }
  | _ => none }
def MaskMeetsWrongFalsely : Prop := maskMeetsRow.holds Try.pinned (OpenSpec.ofChange maskMeetsWrong)

/-- 'catenarylaw07.MaskOnly': WHATEVER THE INPUT: true; the input reads as it did. -/
def maskOnlySpec : ChangeSpec := { name := "maskOnly", fn := fun _ => fun
  | [d1, d2, d3] => { results := [.lit (.bool true)], args := [d1, d2, d3] }
  | _ => none }
def maskOnlyRow : OpenClaim := { program := "ytaaflgaeeldkhaa", sum := "0651b610854082af8da9a9c1e1e42323e26985c5e816918c1c80ee1c52991d8f", func := "catenary/catenarylaw07.MaskOnly", spec := "maskOnly", apart := false }
def MaskOnlySaid : Prop := maskOnlyRow.holds Try.pinned (OpenSpec.ofChange maskOnlySpec)

/-- ITS FALSE NEIGHBOUR: 'it returns false'. Refute it at one input. -/
def maskOnlyWrong : ChangeSpec := { name := "maskOnly", fn := fun _ => fun
  | [d1, d2, d3] => { results := [.lit (.bool false)], args := [d1, d2, d3] }
  | _ => none }
def MaskOnlyWrongFalsely : Prop := maskOnlyRow.holds Try.pinned (OpenSpec.ofChange maskOnlyWrong)

/-- 'catenarylaw07.MaskBoth': WHATEVER THE INPUT: true; the input reads as it did. -/
def maskBothSpec : ChangeSpec := { name := "maskBoth", fn := fun _ => fun
  | [d1, d2, d3] => { results := [.lit (.bool true)], args := [d1, d2, d3] }
  | _ => none }
def maskBothRow : OpenClaim := { program := "ytaaflgaeeldkhaa", sum := "0651b610854082af8da9a9c1e1e42323e26985c5e816918c1c80ee1c52991d8f", func := "catenary/catenarylaw07.MaskBoth", spec := "maskBoth", apart := false }
def MaskBothSaid : Prop := maskBothRow.holds Try.pinned (OpenSpec.ofChange maskBothSpec)

/-- ITS FALSE NEIGHBOUR: 'it returns false'. Refute it at one input. -/
def maskBothWrong : ChangeSpec := { name := "maskBoth", fn := fun _ => fun
  | [d1, d2, d3] => { results := [.lit (.bool false)], args := [d1, d2, d3] }
  | _ => none }
def MaskBothWrongFalsely : Prop := maskBothRow.holds Try.pinned (OpenSpec.ofChange maskBothWrong)

/-- 'catenarylaw07.MaskCovers': WHATEVER THE INPUT: true; the input reads as it did. -/
def maskCoversSpec : ChangeSpec := { name := "maskCovers", fn := fun _ => fun
  | [d1, d2, d3] => { results := [.lit (.bool true)], args := [d1, d2, d3] }
  | _ => none }
def maskCoversRow : OpenClaim := { program := "ytaaflgaeeldkhaa", sum := "0651b610854082af8da9a9c1e1e42323e26985c5e816918c1c80ee1c52991d8f", func := "catenary/catenarylaw07.MaskCovers", spec := "maskCovers", apart := false }
def MaskCoversSaid : Prop := maskCoversRow.holds Try.pinned (OpenSpec.ofChange maskCoversSpec)

/-- ITS FALSE NEIGHBOUR: 'it returns false'. Refute it at one input. -/
def maskCoversWrong : ChangeSpec := { name := "maskCovers", fn := fun _ => fun
  | [d1, d2, d3] => { results := [.lit (.bool false)], args := [d1, d2, d3] }
  | _ => none }
def MaskCoversWrongFalsely : Prop := maskCoversRow.holds Try.pinned (OpenSpec.ofChange maskCoversWrong)

/-- 'catenarylaw07.MaskKnown': WHATEVER THE INPUT: true; the input reads as it did. -/
def maskKnownSpec : ChangeSpec := { name := "maskKnown", fn := fun _ => fun
  | [] => { results := [.lit (.bool true)], args := [] }
  | _ => none }
def maskKnownRow : OpenClaim := { program := "ytaaflgaeeldkhaa", sum := "0651b610854082af8da9a9c1e1e42323e26985c5e816918c1c80ee1c52991d8f", func := "catenary/catenarylaw07.MaskKnown", spec := "maskKnown", apart := false }
def MaskKnownSaid : Prop := maskKnownRow.holds Try.pinned (OpenSpec.ofChange maskKnownSpec)

/-- ITS FALSE NEIGHBOUR: 'it returns false'. Refute it at one input. -/
def maskKnownWrong : ChangeSpec := { name := "maskKnown", fn := fun _ => fun
  | [] => { results := [.lit (.bool false)], args := [] }
  | _ => none }
def MaskKnownWrongFalsely : Prop := maskKnownRow.holds Try.pinned (OpenSpec.ofChange maskKnownWrong)

/- THE SECOND FORM. 'bulk': how many values and letters a reading holds, each counted each time it is reached (what is shared counts as often as it is met; a slice's spare places count too). A statement '..UptoSaid' is the law's where the arguments, and the package variables that the reading takes, are together of bulk at most 1048576: NARROWER than '..Said'. Prove '..Said' where nothing that the law and all that it calls make is longer than what came in: it says more and counts as full. Else prove '..UptoSaid'. A law counts once. -/
mutual
def uptoBulk {H : Type} : DataW H → Nat
  | .lit (.string bytes) => bytes.length + 1
  | .lit _ => 1
  | .nil => 1
  | .ptr d => uptoBulk d + 1
  | .slice elems spare => uptoBulkAll elems + uptoBulkAll spare + 1
  | .agg parts => uptoBulkAll parts + 1
  | .iface _ d => uptoBulk d + 1
  | .map entries => uptoBulkEntries entries + 1
  | .held _ => 1
def uptoBulkAll {H : Type} : List (DataW H) → Nat
  | [] => 0
  | d :: r => uptoBulk d + uptoBulkAll r
def uptoBulkEntries {H : Type} : List (Lit × DataW H) → Nat
  | [] => 0
  | x :: r => uptoBulkEntry x + uptoBulkEntries r
def uptoBulkEntry {H : Type} : Lit × DataW H → Nat
  | (.string bytes, d) => bytes.length + uptoBulk d + 1
  | (_, d) => uptoBulk d + 1
 end
def uptoSmall : (H : Type) → List (DataW H) → Bool := fun _ ds => decide (uptoBulkAll ds ≤ 1048576)
def OpenSpec.upto (s : _root_.Go.ChangeSpec) : _root_.Go.OpenSpec := { _root_.Go.OpenSpec.ofChange s with cond := some uptoSmall }

/-- 'catenarylaw06.OrderBytes', WHERE WHAT IT READS IS OF BULK AT MOST 1048576: true; the input reads as it did. -/
def orderBytesUptoRow : OpenClaim := { program := "ytaaflgaeeldkhaa", sum := "0651b610854082af8da9a9c1e1e42323e26985c5e816918c1c80ee1c52991d8f", func := "catenary/catenarylaw06.OrderBytes", spec := "orderBytes", unfollowed := true, recurses := true, apart := false, narrowed := true }
def OrderBytesUptoSaid : Prop := orderBytesUptoRow.holds Try.pinned (OpenSpec.upto orderBytesSpec)

/-- 'catenarylaw06.OrderParses', WHERE WHAT IT READS IS OF BULK AT MOST 1048576: true; the input reads as it did. -/
def orderParsesUptoRow : OpenClaim := { program := "ytaaflgaeeldkhaa", sum := "0651b610854082af8da9a9c1e1e42323e26985c5e816918c1c80ee1c52991d8f", func := "catenary/catenarylaw06.OrderParses", spec := "orderParses", unfollowed := true, recurses := true, apart := false, narrowed := true }
def OrderParsesUptoSaid : Prop := orderParsesUptoRow.holds Try.pinned (OpenSpec.upto orderParsesSpec)

/-- 'catenarylaw06.OrderBack', WHERE WHAT IT READS IS OF BULK AT MOST 1048576: true; the input reads as it did. -/
def orderBackUptoRow : OpenClaim := { program := "ytaaflgaeeldkhaa", sum := "0651b610854082af8da9a9c1e1e42323e26985c5e816918c1c80ee1c52991d8f", func := "catenary/catenarylaw06.OrderBack", spec := "orderBack", unfollowed := true, recurses := true, apart := false, narrowed := true }
def OrderBackUptoSaid : Prop := orderBackUptoRow.holds Try.pinned (OpenSpec.upto orderBackSpec)

/-- 'catenarylaw06.OrderAgain', WHERE WHAT IT READS IS OF BULK AT MOST 1048576: true; the input reads as it did. -/
def orderAgainUptoRow : OpenClaim := { program := "ytaaflgaeeldkhaa", sum := "0651b610854082af8da9a9c1e1e42323e26985c5e816918c1c80ee1c52991d8f", func := "catenary/catenarylaw06.OrderAgain", spec := "orderAgain", unfollowed := true, recurses := true, apart := false, narrowed := true }
def OrderAgainUptoSaid : Prop := orderAgainUptoRow.holds Try.pinned (OpenSpec.upto orderAgainSpec)

/-- 'catenarylaw06.OrderCut', WHERE WHAT IT READS IS OF BULK AT MOST 1048576: true; the input reads as it did. -/
def orderCutUptoRow : OpenClaim := { program := "ytaaflgaeeldkhaa", sum := "0651b610854082af8da9a9c1e1e42323e26985c5e816918c1c80ee1c52991d8f", func := "catenary/catenarylaw06.OrderCut", spec := "orderCut", unfollowed := true, recurses := true, apart := false, narrowed := true }
def OrderCutUptoSaid : Prop := orderCutUptoRow.holds Try.pinned (OpenSpec.upto orderCutSpec)

/-- 'catenarylaw07.MaskFits', WHERE WHAT IT READS IS OF BULK AT MOST 1048576: true; the input reads as it did. -/
def maskFitsUptoRow : OpenClaim := { program := "ytaaflgaeeldkhaa", sum := "0651b610854082af8da9a9c1e1e42323e26985c5e816918c1c80ee1c52991d8f", func := "catenary/catenarylaw07.MaskFits", spec := "maskFits", apart := false, narrowed := true }
def MaskFitsUptoSaid : Prop := maskFitsUptoRow.holds Try.pinned (OpenSpec.upto maskFitsSpec)

/-- 'catenarylaw07.MaskMeets', WHERE WHAT IT READS IS OF BULK AT MOST 1048576: true; the input reads as it did. -/
def maskMeetsUptoRow : OpenClaim := { program := "ytaaflgaeeldkhaa", sum := "0651b610854082af8da9a9c1e1e42323e26985c5e816918c1c80ee1c52991d8f", func := "catenary/catenarylaw07.MaskMeets", spec := "maskMeets", apart := false, narrowed := true }
def MaskMeetsUptoSaid : Prop := maskMeetsUptoRow.holds Try.pinned (OpenSpec.upto maskMeetsSpec)

/-- 'catenarylaw07.MaskOnly', WHERE WHAT IT READS IS OF BULK AT MOST 1048576: true; the input reads as it did. -/
def maskOnlyUptoRow : OpenClaim := { program := "ytaaflgaeeldkhaa", sum := "0651b610854082af8da9a9c1e1e42323e26985c5e816918c1c80ee1c52991d8f", func := "catenary/catenarylaw07.MaskOnly", spec := "maskOnly", apart := false, narrowed := true }
def MaskOnlyUptoSaid : Prop := maskOnlyUptoRow.holds Try.pinned (OpenSpec.upto maskOnlySpec)

/-- 'catenarylaw07.MaskBoth', WHERE WHAT IT READS IS OF BULK AT MOST 1048576: true; the input reads as it did. -/
def maskBothUptoRow : OpenClaim := { program := "ytaaflgaeeldkhaa", sum := "0651b610854082af8da9a9c1e1e42323e26985c5e816918c1c80ee1c52991d8f", func := "catenary/catenarylaw07.MaskBoth", spec := "maskBoth", apart := false, narrowed := true }
def MaskBothUptoSaid : Prop := maskBothUptoRow.holds Try.pinned (OpenSpec.upto maskBothSpec)

/-- 'catenarylaw07.MaskCovers', WHERE WHAT IT READS IS OF BULK AT MOST 1048576: true; the input reads as it did. -/
def maskCoversUptoRow : OpenClaim := { program := "ytaaflgaeeldkhaa", sum := "0651b610854082af8da9a9c1e1e42323e26985c5e816918c1c80ee1c52991d8f", func := "catenary/catenarylaw07.MaskCovers", spec := "maskCovers", apart := false, narrowed := true }
def MaskCoversUptoSaid : Prop := maskCoversUptoRow.holds Try.pinned (OpenSpec.upto maskCoversSpec)

/-- 'catenarylaw07.MaskKnown', WHERE WHAT IT READS IS OF BULK AT MOST 1048576: true; the input reads as it did. -/
def maskKnownUptoRow : OpenClaim := { program := "ytaaflgaeeldkhaa", sum := "0651b610854082af8da9a9c1e1e42323e26985c5e816918c1c80ee1c52991d8f", func := "catenary/catenarylaw07.MaskKnown", spec := "maskKnown", apart := false, narrowed := true }
def MaskKnownUptoSaid : Prop := maskKnownUptoRow.holds Try.pinned (OpenSpec.upto maskKnownSpec)

end Rows
end Go.Proofs.Ytaaflgaeeldkhaa
