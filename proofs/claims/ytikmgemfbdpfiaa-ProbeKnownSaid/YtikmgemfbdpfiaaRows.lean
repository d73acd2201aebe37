/-
  No cell of these rows narrows 'for every input' (looked for: loops, veiled, ifaces, maps, wideKeys, modest, calm, conditions, laid).
  DERIVED. THE GIVEN ROWS OF THIS SEAT. 7 by the template 'for every input the law returns true; each argument reads behind the call as it read before'; 0 by the template 'total and deterministic' (their statements: YtikmgemfbdpfiaaTotals.lean).
  GIVEN WITH THE SEED: the statements are not yours to turn. If you find one false, say at which input.
  Laid BY PROGRAM, IN A SANDBOX (cutbox-rows.mjs): the forced cells as the released guide's own fill.sh prints them over the translation 76fd4ece5ad8c6be… (all of the seat's roots in one cut). By AI agents, Wed Nov 11 2026. No macro, syntax, notation, axiom, sorry.
-/
import Derived.Test.YtikmgemfbdpfiaaChecked
import GoSem.Claim
import GoSem.ClaimJoined
import GoSem.ClaimMapViews
import Derived.JoinedTies
import Derived.KernelRfl
namespace Go.Proofs.Ytikmgemfbdpfiaa
/- THE CELL 'sum', in the pinned program and in every row, IS THE sha256 OF THE DUMP (.gsa) THAT YtikmgemfbdpfiaaProg.lean LOADS. Nothing in Lean hashes anything: it is a label: what it is worth is what the hold of that sum in a sandbox is worth. -/
noncomputable def Try.pinned : Pinned := { name := "ytikmgemfbdpfiaa", sum := "76fd4ece5ad8c6be24518d2bd5d52956e40d80014acd90fb18bd7eacff285673", checked := Try.checked }
namespace Rows
def none {H : Type} : Left H := { results := [], args := [] }

/-- 'catenarylaw04.ProbeBytes': WHATEVER THE INPUT: true; the input reads as it did. -/
def probeBytesSpec : ChangeSpec := { name := "probeBytes", fn := fun _ => fun
  | [d] => { results := [.lit (.bool true)], args := [d] }
  | _ => none }
def probeBytesRow : OpenClaim := { program := "ytikmgemfbdpfiaa", sum := "76fd4ece5ad8c6be24518d2bd5d52956e40d80014acd90fb18bd7eacff285673", func := "catenary/catenarylaw04.ProbeBytes", spec := "probeBytes", unfollowed := true, recurses := true, apart := false }
def ProbeBytesSaid : Prop := probeBytesRow.holds Try.pinned (OpenSpec.ofChange probeBytesSpec)

/-- ITS FALSE NEIGHBOUR: 'it returns false'. Refute it at one input. -/
def probeBytesWrong : ChangeSpec := { name := "probeBytes", fn := fun _ => fun
  | [d] => { results := [.lit (.bool false)], args := [d] }
  | _ => none }
def ProbeBytesWrongFalsely : Prop := probeBytesRow.holds Try.pinned (OpenSpec.ofChange probeBytesWrong)

/-- 'catenarylaw04.ProbeParses': WHATEVER THE INPUT: true; the input reads as it did. -/
def probeParsesSpec : ChangeSpec := { name := "probeParses", fn := fun _ => fun
  | [d] => { results := [.lit (.bool true)], args := [d] }
  | _ => none }
def probeParsesRow : OpenClaim := { program := "ytikmgemfbdpfiaa", sum := "76fd4ece5ad8c6be24518d2bd5d52956e40d80014acd90fb18bd7eacff285673", func := "catenary/catenarylaw04.ProbeParses", spec := "probeParses", unfollowed := true, recurses := true, apart := false }
def ProbeParsesSaid : Prop := probeParsesRow.holds Try.pinned (OpenSpec.ofChange probeParsesSpec)

/-- ITS FALSE NEIGHBOUR: 'it returns false'. Refute it at one input. -/
def probeParsesWrong : ChangeSpec := { name := "probeParses", fn := fun _ => fun
  | [d] => { results := [.lit (.bool false)], args := [d] }
  | _ => none }
def ProbeParsesWrongFalsely : Prop := probeParsesRow.holds Try.pinned (OpenSpec.ofChange probeParsesWrong)

/-- 'catenarylaw04.ProbeFinds': WHATEVER THE INPUT: true; the input reads as it did. -/
def probeFindsSpec : ChangeSpec := { name := "probeFinds", fn := fun _ => fun
  | [d1, d2, d3] => { results := [.lit (.bool true)], args := [d1, d2, d3] }
  | _ => none }
def probeFindsRow : OpenClaim := { program := "ytikmgemfbdpfiaa", sum := "76fd4ece5ad8c6be24518d2bd5d52956e40d80014acd90fb18bd7eacff285673", func := "catenary/catenarylaw04.ProbeFinds", spec := "probeFinds", unfollowed := true, recurses := true, apart := false }
def ProbeFindsSaid : Prop := probeFindsRow.holds Try.pinned (OpenSpec.ofChange probeFindsSpec)

/-- ITS FALSE NEIGHBOUR: 'it returns false'. Refute it at one input. -/
def probeFindsWrong : ChangeSpec := { name := "probeFinds", fn := fun _ => fun
  | [d1, d2, d3] => { results := [.lit (.bool false)], args := [d1, d2, d3] }
  | _ => none }
def ProbeFindsWrongFalsely : Prop := probeFindsRow.holds Try.pinned (OpenSpec.ofChange probeFindsWrong)

/-- 'catenarylaw04.ProbeBack': WHATEVER THE INPUT: true; the input reads as it did. -/
def probeBackSpec : ChangeSpec := { name := "probeBack", fn := fun _ => fun
  | [d] => { results := [.lit (.bool true)], args := [d] }
  | _ => none }
def probeBackRow : OpenClaim := { program := "ytikmgemfbdpfiaa", sum := "76fd4ece5ad8c6be24518d2bd5d52956e40d80014acd90fb18bd7eacff285673", func := "catenary/catenarylaw04.ProbeBack", spec := "probeBack", unfollowed := true, recurses := true, apart := false }
def ProbeBackSaid : Prop := probeBackRow.holds Try.pinned (OpenSpec.ofChange probeBackSpec)

/-- ITS FALSE NEIGHBOUR: 'it returns false'. Refute it at one input. -/
def probeBackWrong : ChangeSpec := { name := "probeBack", fn := fun _ => fun
  | [d] => { results := [.lit (.bool false)], args := [d] }
  | _ => none }
def ProbeBackWrongFalsely : Prop := probeBackRow.holds Try.pinned (OpenSpec.ofChange probeBackWrong)

/-- 'catenarylaw04.ProbeAgain': WHATEVER THE INPUT: true; the input reads as it did. -/
def probeAgainSpec : ChangeSpec := { name := "probeAgain", fn := fun _ => fun
  | [d1, d2] => { results := [.lit (.bool true)], args := [d1, d2] }
  | _ => none }
def probeAgainRow : OpenClaim := { program := "ytikmgemfbdpfiaa", sum := "76fd4ece5ad8c6be24518d2bd5d52956e40d80014acd90fb18bd7eacff285673", func := "catenary/catenarylaw04.ProbeAgain", spec := "probeAgain", unfollowed := true, recurses := true, apart := false }
def ProbeAgainSaid : Prop := probeAgainRow.holds Try.pinned (OpenSpec.ofChange probeAgainSpec)

/-- ITS FALSE NEIGHBOUR: 'it returns false'. Refute it at one input. -/
def probeAgainWrong : ChangeSpec := { name := "probeAgain", fn := fun _ => fun
  | [d1, d2] => { results := [.lit (.bool false)], args := [d1, d2] }
  | _ => none }
def ProbeAgainWrongFalsely : Prop := probeAgainRow.holds Try.pinned (OpenSpec.ofChange probeAgainWrong)

/-- 'catenarylaw04.ProbeOnce': WHATEVER THE INPUT: true; the input reads as it did. -/
def probeOnceSpec : ChangeSpec := { name := "probeOnce", fn := fun _ => fun
  | [d1, d2, d3] => { results := [.lit (.bool true)], args := [d1, d2, d3] }
  | _ => none }
def probeOnceRow : OpenClaim := { program := "ytikmgemfbdpfiaa", sum := "76fd4ece5ad8c6be24518d2bd5d52956e40d80014acd90fb18bd7eacff285673", func := "catenary/catenarylaw04.ProbeOnce", spec := "probeOnce", unfollowed := true, recurses := true, apart := false }
def ProbeOnceSaid : Prop := probeOnceRow.holds Try.pinned (OpenSpec.ofChange probeOnceSpec)

/-- ITS FALSE NEIGHBOUR: 'it returns false'. Refute it at one input. -/
def probeOnceWrong : ChangeSpec := { name := "probeOnce", fn := fun _ => fun
  | [d1, d2, d3] => { results := [.lit (.bool false)], args := [d1, d2, d3] }
  | _ => none }
def ProbeOnceWrongFalsely : Prop := probeOnceRow.holds Try.pinned (OpenSpec.ofChange probeOnceWrong)

/-- 'catenarylaw04.ProbeKnown': WHATEVER THE INPUT: true; the input reads as it did. -/
def probeKnownSpec : ChangeSpec := { name := "probeKnown", fn := fun _ => fun
  | [] => { results := [.lit (.bool true)], args := [] }
  | _ => none }
def probeKnownRow : OpenClaim := { program := "ytikmgemfbdpfiaa", sum := "76fd4ece5ad8c6be24518d2bd5d52956e40d80014acd90fb18bd7eacff285673", func := "catenary/catenarylaw04.ProbeKnown", spec := "probeKnown", unfollowed := true, recurses := true, apart := false }
def ProbeKnownSaid : Prop := probeKnownRow.holds Try.pinned (OpenSpec.ofChange probeKnownSpec)

/-- ITS FALSE NEIGHBOUR: 'it returns false'. Refute it at one input. -/
def probeKnownWrong : ChangeSpec := { name := "probeKnown", fn := fun _ => fun
  | [] => { results := [.lit (.bool false)], args := [] }
  | _ => none }
def ProbeKnownWrongFalsely : Prop := probeKnownRow.holds Try.pinned (OpenSpec.ofChange probeKnownWrong)

/- THE SECOND FORM. 'bulk': how many values and letters a reading holds, each counted each time it is reached (what is shared counts as often as it is met; a slice's spare places count too). A statement '..UptoSaid' is the law's where the arguments, and the package variables that the reading takes, are together of bulk at most 1048576: NARROWER than '..Said'. Prove '..Said' where nothing that the law and all that it calls make is longer than what came in: it says more and counts as full. Else prove '..UptoSaid'. A law counts once. -/
mutual
def uptoBulk {H : Type} : DataW H → Nat
  | .lit (.string bytes) => bytes.length + 1
  | .lit _ => 1
  | .nil => 1
  | .ptr d => uptoBulk d + 1
  | .slice elems spare => uptoBulkAll elems + uptoBulkAll spare + 1
  | .agg parts => uptoBulkAll parts + 1
  | .iface _ d => uptoBulk d + 1
  | .map entries => uptoBulkEntries entries + 1
  | .held _ => 1
def uptoBulkAll {H : Type} : List (DataW H) → Nat
  | [] => 0
  | d :: r => uptoBulk d + uptoBulkAll r
def uptoBulkEntries {H : Type} : List (Lit × DataW H) → Nat
  | [] => 0
  | x :: r => uptoBulkEntry x + uptoBulkEntries r
def uptoBulkEntry {H : Type} : Lit × DataW H → Nat
  | (.string bytes, d) => bytes.length + uptoBulk d + 1
  | (_, d) => uptoBulk d + 1
 end
def uptoSmall : (H : Type) → List (DataW H) → Bool := fun _ ds => decide (uptoBulkAll ds ≤ 1048576)
def OpenSpec.upto (s : _root_.Go.ChangeSpec) : _root_.Go.OpenSpec := { _root_.Go.OpenSpec.ofChange s with cond := some uptoSmall }

/-- 'catenarylaw04.ProbeBytes', WHERE WHAT IT READS IS OF BULK AT MOST 1048576: true; the input reads as it did. -/
def probeBytesUptoRow : OpenClaim := { program := "ytikmgemfbdpfiaa", sum := "76fd4ece5ad8c6be24518d2bd5d52956e40d80014acd90fb18bd7eacff285673", func := "catenary/catenarylaw04.ProbeBytes", spec := "probeBytes", unfollowed := true, recurses := true, apart := false, narrowed := true }
def ProbeBytesUptoSaid : Prop := probeBytesUptoRow.holds Try.pinned (OpenSpec.upto probeBytesSpec)

/-- 'catenarylaw04.ProbeParses', WHERE WHAT IT READS IS OF BULK AT MOST 1048576: true; the input reads as it did. -/
def probeParsesUptoRow : OpenClaim := { program := "ytikmgemfbdpfiaa", sum := "76fd4ece5ad8c6be24518d2bd5d52956e40d80014acd90fb18bd7eacff285673", func := "catenary/catenarylaw04.ProbeParses", spec := "probeParses", unfollowed := true, recurses := true, apart := false, narrowed := true }
def ProbeParsesUptoSaid : Prop := probeParsesUptoRow.holds Try.pinned (OpenSpec.upto probeParsesSpec)

/-- 'catenarylaw04.ProbeFinds', WHERE WHAT IT READS IS OF BULK AT MOST 1048576: true; the input reads as it did. -/
def probeFindsUptoRow : OpenClaim := { program := "ytikmgemfbdpfiaa", sum := "76fd4ece5ad8c6be24518d2bd5d52956e40d80014acd90fb18bd7eacff285673", func := "catenary/catenarylaw04.ProbeFinds", spec := "probeFinds", unfollowed := true, recurses := true, apart := false, narrowed := true }
def ProbeFindsUptoSaid : Prop := probeFindsUptoRow.holds Try.pinned (OpenSpec.upto probeFindsSpec)

/-- 'catenarylaw04.ProbeBack', WHERE WHAT IT READS IS OF BULK AT MOST 1048576: true; the input reads as it did. -/
def probeBackUptoRow : OpenClaim := { program := "ytikmgemfbdpfiaa", sum := "76fd4ece5ad8c6be24518d2bd5d52956e40d80014acd90fb18bd7eacff285673", func := "catenary/catenarylaw04.ProbeBack", spec := "probeBack", unfollowed := true, recurses := true, apart := false, narrowed := true }
def ProbeBackUptoSaid : Prop := probeBackUptoRow.holds Try.pinned (OpenSpec.upto probeBackSpec)

/-- 'catenarylaw04.ProbeAgain', WHERE WHAT IT READS IS OF BULK AT MOST 1048576: true; the input reads as it did. -/
def probeAgainUptoRow : OpenClaim := { program := "ytikmgemfbdpfiaa", sum := "76fd4ece5ad8c6be24518d2bd5d52956e40d80014acd90fb18bd7eacff285673", func := "catenary/catenarylaw04.ProbeAgain", spec := "probeAgain", unfollowed := true, recurses := true, apart := false, narrowed := true }
def ProbeAgainUptoSaid : Prop := probeAgainUptoRow.holds Try.pinned (OpenSpec.upto probeAgainSpec)

/-- 'catenarylaw04.ProbeOnce', WHERE WHAT IT READS IS OF BULK AT MOST 1048576: true; the input reads as it did. -/
def probeOnceUptoRow : OpenClaim := { program := "ytikmgemfbdpfiaa", sum := "76fd4ece5ad8c6be24518d2bd5d52956e40d80014acd90fb18bd7eacff285673", func := "catenary/catenarylaw04.ProbeOnce", spec := "probeOnce", unfollowed := true, recurses := true, apart := false, narrowed := true }
def ProbeOnceUptoSaid : Prop := probeOnceUptoRow.holds Try.pinned (OpenSpec.upto probeOnceSpec)

/-- 'catenarylaw04.ProbeKnown', WHERE WHAT IT READS IS OF BULK AT MOST 1048576: true; the input reads as it did. -/
def probeKnownUptoRow : OpenClaim := { program := "ytikmgemfbdpfiaa", sum := "76fd4ece5ad8c6be24518d2bd5d52956e40d80014acd90fb18bd7eacff285673", func := "catenary/catenarylaw04.ProbeKnown", spec := "probeKnown", unfollowed := true, recurses := true, apart := false, narrowed := true }
def ProbeKnownUptoSaid : Prop := probeKnownUptoRow.holds Try.pinned (OpenSpec.upto probeKnownSpec)

end Rows
end Go.Proofs.Ytikmgemfbdpfiaa
