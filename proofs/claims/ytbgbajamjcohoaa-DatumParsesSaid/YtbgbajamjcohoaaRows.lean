/-
  No cell of these rows narrows 'for every input' (looked for: loops, veiled, ifaces, maps, wideKeys, modest, calm, conditions, laid).
  DERIVED. THE GIVEN ROWS OF THIS SEAT. 6 by the template 'for every input the law returns true; each argument reads behind the call as it read before'; 0 by the template 'total and deterministic' (their statements: YtbgbajamjcohoaaTotals.lean).
  GIVEN WITH THE SEED: the statements are not yours to turn. If you find one false, say at which input.
  Laid BY PROGRAM, IN A SANDBOX (cutbox-rows.mjs): the forced cells as the released guide's own fill.sh prints them over the translation 9a27c203862dc881… (all of the seat's roots in one cut). By AI agents, Wed Nov 11 2026. No macro, syntax, notation, axiom, sorry.
-/
import Derived.Test.YtbgbajamjcohoaaChecked
import GoSem.Claim
import GoSem.ClaimJoined
import GoSem.ClaimMapViews
import Derived.JoinedTies
import Derived.KernelRfl
namespace Go.Proofs.Ytbgbajamjcohoaa
/- THE CELL 'sum', in the pinned program and in every row, IS THE sha256 OF THE DUMP (.gsa) THAT YtbgbajamjcohoaaProg.lean LOADS. Nothing in Lean hashes anything: it is a label: what it is worth is what the hold of that sum in a sandbox is worth. -/
noncomputable def Try.pinned : Pinned := { name := "ytbgbajamjcohoaa", sum := "9a27c203862dc881a494deb07d91e2fa93086aa73f4522200d40f2d7d4fa292c", checked := Try.checked }
namespace Rows
def none {H : Type} : Left H := { results := [], args := [] }

/-- 'catenarylaw03.DatumBytes': WHATEVER THE INPUT: true; the input reads as it did. -/
def datumBytesSpec : ChangeSpec := { name := "datumBytes", fn := fun _ => fun
  | [d] => { results := [.lit (.bool true)], args := [d] }
  | _ => none }
def datumBytesRow : OpenClaim := { program := "ytbgbajamjcohoaa", sum := "9a27c203862dc881a494deb07d91e2fa93086aa73f4522200d40f2d7d4fa292c", func := "catenary/catenarylaw03.DatumBytes", spec := "datumBytes", apart := false }
def DatumBytesSaid : Prop := datumBytesRow.holds Try.pinned (OpenSpec.ofChange datumBytesSpec)

/-- ITS FALSE NEIGHBOUR: 'it returns false'. Refute it at one input. -/
def datumBytesWrong : ChangeSpec := { name := "datumBytes", fn := fun _ => fun
  | [d] => { results := [.lit (.bool false)], args := [d] }
  | _ => none }
def DatumBytesWrongFalsely : Prop := datumBytesRow.holds Try.pinned (OpenSpec.ofChange datumBytesWrong)

/-- 'catenarylaw03.DatumParses': WHATEVER THE INPUT: true; the input reads as it did. -/
def datumParsesSpec : ChangeSpec := { name := "datumParses", fn := fun _ => fun
  | [d] => { results := [.lit (.bool true)], args := [d] }
  | _ => none }
def datumParsesRow : OpenClaim := { program := "ytbgbajamjcohoaa", sum := "9a27c203862dc881a494deb07d91e2fa93086aa73f4522200d40f2d7d4fa292c", func := "catenary/catenarylaw03.DatumParses", spec := "datumParses", apart := false }
def DatumParsesSaid : Prop := datumParsesRow.holds Try.pinned (OpenSpec.ofChange datumParsesSpec)

/-- ITS FALSE NEIGHBOUR: 'it returns false'. Refute it at one input. -/
def datumParsesWrong : ChangeSpec := { name := "datumParses", fn := fun _ => fun
  | [d] => { results := [.lit (.bool false)], args := [d] }
  | _ => none }
def DatumParsesWrongFalsely : Prop := datumParsesRow.holds Try.pinned (OpenSpec.ofChange datumParsesWrong)

/-- 'catenarylaw03.DatumBack': WHATEVER THE INPUT: true; the input reads as it did. -/
def datumBackSpec : ChangeSpec := { name := "datumBack", fn := fun _ => fun
  | [d] => { results := [.lit (.bool true)], args := [d] }
  | _ => none }
def datumBackRow : OpenClaim := { program := "ytbgbajamjcohoaa", sum := "9a27c203862dc881a494deb07d91e2fa93086aa73f4522200d40f2d7d4fa292c", func := "catenary/catenarylaw03.DatumBack", spec := "datumBack", apart := false }
def DatumBackSaid : Prop := datumBackRow.holds Try.pinned (OpenSpec.ofChange datumBackSpec)

/-- ITS FALSE NEIGHBOUR: 'it returns false'. Refute it at one input. -/
def datumBackWrong : ChangeSpec := { name := "datumBack", fn := fun _ => fun
  | [d] => { results := [.lit (.bool false)], args := [d] }
  | _ => none }
def DatumBackWrongFalsely : Prop := datumBackRow.holds Try.pinned (OpenSpec.ofChange datumBackWrong)

/-- 'catenarylaw03.DatumAgain': WHATEVER THE INPUT: true; the input reads as it did. -/
def datumAgainSpec : ChangeSpec := { name := "datumAgain", fn := fun _ => fun
  | [d1, d2] => { results := [.lit (.bool true)], args := [d1, d2] }
  | _ => none }
def datumAgainRow : OpenClaim := { program := "ytbgbajamjcohoaa", sum := "9a27c203862dc881a494deb07d91e2fa93086aa73f4522200d40f2d7d4fa292c", func := "catenary/catenarylaw03.DatumAgain", spec := "datumAgain", apart := false }
def DatumAgainSaid : Prop := datumAgainRow.holds Try.pinned (OpenSpec.ofChange datumAgainSpec)

/-- ITS FALSE NEIGHBOUR: 'it returns false'. Refute it at one input. -/
def datumAgainWrong : ChangeSpec := { name := "datumAgain", fn := fun _ => fun
  | [d1, d2] => { results := [.lit (.bool false)], args := [d1, d2] }
  | _ => none }
def DatumAgainWrongFalsely : Prop := datumAgainRow.holds Try.pinned (OpenSpec.ofChange datumAgainWrong)

/-- 'catenarylaw03.DatumTurned': WHATEVER THE INPUT: true; the input reads as it did. -/
def datumTurnedSpec : ChangeSpec := { name := "datumTurned", fn := fun _ => fun
  | [d1, d2, d3] => { results := [.lit (.bool true)], args := [d1, d2, d3] }
  | _ => none }
def datumTurnedRow : OpenClaim := { program := "ytbgbajamjcohoaa", sum := "9a27c203862dc881a494deb07d91e2fa93086aa73f4522200d40f2d7d4fa292c", func := "catenary/catenarylaw03.DatumTurned", spec := "datumTurned", apart := false }
def DatumTurnedSaid : Prop := datumTurnedRow.holds Try.pinned (OpenSpec.ofChange datumTurnedSpec)

/-- ITS FALSE NEIGHBOUR: 'it returns false'. Refute it at one input. -/
def datumTurnedWrong : ChangeSpec := { name := "datumTurned", fn := fun _ => fun
  | [d1, d2, d3] => { results := [.lit (.bool false)], args := [d1, d2, d3] }
  | _ => none }
def DatumTurnedWrongFalsely : Prop := datumTurnedRow.holds Try.pinned (OpenSpec.ofChange datumTurnedWrong)

/-- 'catenarylaw03.DatumKnown': WHATEVER THE INPUT: true; the input reads as it did. -/
def datumKnownSpec : ChangeSpec := { name := "datumKnown", fn := fun _ => fun
  | [] => { results := [.lit (.bool true)], args := [] }
  | _ => none }
def datumKnownRow : OpenClaim := { program := "ytbgbajamjcohoaa", sum := "9a27c203862dc881a494deb07d91e2fa93086aa73f4522200d40f2d7d4fa292c", func := "catenary/catenarylaw03.DatumKnown", spec := "datumKnown", apart := false }
def DatumKnownSaid : Prop := datumKnownRow.holds Try.pinned (OpenSpec.ofChange datumKnownSpec)

/-- ITS FALSE NEIGHBOUR: 'it returns false'. Refute it at one input. -/
def datumKnownWrong : ChangeSpec := { name := "datumKnown", fn := fun _ => fun
  | [] => { results := [.lit (.bool false)], args := [] }
  | _ => none }
def DatumKnownWrongFalsely : Prop := datumKnownRow.holds Try.pinned (OpenSpec.ofChange datumKnownWrong)

/- THE SECOND FORM. 'bulk': how many values and letters a reading holds, each counted each time it is reached (what is shared counts as often as it is met; a slice's spare places count too). A statement '..UptoSaid' is the law's where the arguments, and the package variables that the reading takes, are together of bulk at most 1048576: NARROWER than '..Said'. Prove '..Said' where nothing that the law and all that it calls make is longer than what came in: it says more and counts as full. Else prove '..UptoSaid'. A law counts once. -/
mutual
def uptoBulk {H : Type} : DataW H → Nat
  | .lit (.string bytes) => bytes.length + 1
  | .lit _ => 1
  | .nil => 1
  | .ptr d => uptoBulk d + 1
  | .slice elems spare => uptoBulkAll elems + uptoBulkAll spare + 1
  | .agg parts => uptoBulkAll parts + 1
  | .iface _ d => uptoBulk d + 1
  | .map entries => uptoBulkEntries entries + 1
  | .held _ => 1
def uptoBulkAll {H : Type} : List (DataW H) → Nat
  | [] => 0
  | d :: r => uptoBulk d + uptoBulkAll r
def uptoBulkEntries {H : Type} : List (Lit × DataW H) → Nat
  | [] => 0
  | x :: r => uptoBulkEntry x + uptoBulkEntries r
def uptoBulkEntry {H : Type} : Lit × DataW H → Nat
  | (.string bytes, d) => bytes.length + uptoBulk d + 1
  | (_, d) => uptoBulk d + 1
 end
def uptoSmall : (H : Type) → List (DataW H) → Bool := fun _ ds => decide (uptoBulkAll ds ≤ 1048576)
def OpenSpec.upto (s : _root_.Go.ChangeSpec) : _root_.Go.OpenSpec := { _root_.Go.OpenSpec.ofChange s with cond := some uptoSmall }

/-- 'catenarylaw03.DatumBytes', WHERE WHAT IT READS IS OF BULK AT MOST 1048576: true; the input reads as it did. -/
def datumBytesUptoRow : OpenClaim := { program := "ytbgbajamjcohoaa", sum := "9a27c203862dc881a494deb07d91e2fa93086aa73f4522200d40f2d7d4fa292c", func := "catenary/catenarylaw03.DatumBytes", spec := "datumBytes", apart := false, narrowed := true }
def DatumBytesUptoSaid : Prop := datumBytesUptoRow.holds Try.pinned (OpenSpec.upto datumBytesSpec)

/-- 'catenarylaw03.DatumParses', WHERE WHAT IT READS IS OF BULK AT MOST 1048576: true; the input reads as it did. -/
def datumParsesUptoRow : OpenClaim := { program := "ytbgbajamjcohoaa", sum := "9a27c203862dc881a494deb07d91e2fa93086aa73f4522200d40f2d7d4fa292c", func := "catenary/catenarylaw03.DatumParses", spec := "datumParses", apart := false, narrowed := true }
def DatumParsesUptoSaid : Prop := datumParsesUptoRow.holds Try.pinned (OpenSpec.upto datumParsesSpec)

/-- 'catenarylaw03.DatumBack', WHERE WHAT IT READS IS OF BULK AT MOST 1048576: true; the input reads as it did. -/
def datumBackUptoRow : OpenClaim := { program := "ytbgbajamjcohoaa", sum := "9a27c203862dc881a494deb07d91e2fa93086aa73f4522200d40f2d7d4fa292c", func := "catenary/catenarylaw03.DatumBack", spec := "datumBack", apart := false, narrowed := true }
def DatumBackUptoSaid : Prop := datumBackUptoRow.holds Try.pinned (OpenSpec.upto datumBackSpec)

/-- 'catenarylaw03.DatumAgain', WHERE WHAT IT READS IS OF BULK AT MOST 1048576: true; the input reads as it did. -/
def datumAgainUptoRow : OpenClaim := { program := "ytbgbajamjcohoaa", sum := "9a27c203862dc881a494deb07d91e2fa93086aa73f4522200d40f2d7d4fa292c", func := "catenary/catenarylaw03.DatumAgain", spec := "datumAgain", apart := false, narrowed := true }
def DatumAgainUptoSaid : Prop := datumAgainUptoRow.holds Try.pinned (OpenSpec.upto datumAgainSpec)

/-- 'catenarylaw03.DatumTurned', WHERE WHAT IT READS IS OF BULK AT MOST 1048576: true; the input reads as it did. -/
def datumTurnedUptoRow : OpenClaim := { program := "ytbgbajamjcohoaa", sum := "9a27c203862dc881a494deb07d91e2fa93086aa73f4522200d40f2d7d4fa292c", func := "catenary/catenarylaw03.DatumTurned", spec := "datumTurned", apart := false, narrowed := true }
def DatumTurnedUptoSaid : Prop := datumTurnedUptoRow.holds Try.pinned (OpenSpec.upto datumTurnedSpec)

/-- 'catenarylaw03.DatumKnown', WHERE WHAT IT READS IS OF BULK AT MOST 1048576: true; the input reads as it did. -/
def datumKnownUptoRow : OpenClaim := { program := "ytbgbajamjcohoaa", sum := "9a27c203862dc881a494deb07d91e2fa93086aa73f4522200d40f2d7d4fa292c", func := "catenary/catenarylaw03.DatumKnown", spec := "datumKnown", apart := false, narrowed := true }
def DatumKnownUptoSaid : Prop := datumKnownUptoRow.holds Try.pinned (OpenSpec.upto datumKnownSpec)

end Rows
end Go.Proofs.Ytbgbajamjcohoaa
