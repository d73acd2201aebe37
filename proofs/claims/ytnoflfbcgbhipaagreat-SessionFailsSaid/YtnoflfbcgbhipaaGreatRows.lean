/-
  No cell of these rows narrows 'for every input' (looked for: loops, veiled, ifaces, maps, wideKeys, modest, calm, conditions, laid).
  DERIVED. THE GIVEN ROWS OF THIS SEAT. 5 by the template 'for every input the law returns true; each argument reads behind the call as it read before'; 0 by the template 'total and deterministic' (their statements: YtnoflfbcgbhipaaGreatTotals.lean).
  GIVEN WITH THE SEED: the statements are not yours to turn. If you find one false, say at which input.
  Laid BY PROGRAM, IN A SANDBOX (cutbox-rows.mjs): the forced cells as the released guide's own fill.sh prints them over the translation c9d83eafa663fcf2… (all of the seat's roots in one cut). By AI agents, Wed Nov 11 2026. No macro, syntax, notation, axiom, sorry.
-/
import Derived.Test.YtnoflfbcgbhipaaGreatChecked
import GoSem.Claim
import GoSem.ClaimJoined
import GoSem.ClaimMapViews
import Derived.JoinedTies
import Derived.KernelRfl
namespace Go.Proofs.YtnoflfbcgbhipaaGreat
/- THE CELL 'sum', in the pinned program and in every row, IS THE sha256 OF THE DUMP (.gsa) THAT YtnoflfbcgbhipaaGreatProg.lean LOADS. Nothing in Lean hashes anything: it is a label: what it is worth is what the hold of that sum in a sandbox is worth. -/
noncomputable def Tryz.pinned : Pinned := { name := "ytnoflfbcgbhipaagreat", sum := "c9d83eafa663fcf27386fbd53289b493e980f010f60ae656472ac06591cde21f", checked := Tryz.checked }
namespace Rows
def none {H : Type} : Left H := { results := [], args := [] }

/-- 'catenarylaw17.SessionPlays': WHATEVER THE INPUT: true; the input reads as it did. -/
def sessionPlaysSpec : ChangeSpec := { name := "sessionPlays", fn := fun _ => fun
  | [d1, d2] => { results := [.lit (.bool true)], args := [d1, d2] }
  | _ => none }
def sessionPlaysRow : OpenClaim := { program := "ytnoflfbcgbhipaagreat", sum := "c9d83eafa663fcf27386fbd53289b493e980f010f60ae656472ac06591cde21f", func := "catenary/catenarylaw17.SessionPlays", spec := "sessionPlays", unfollowed := true, recurses := true, apart := false }
def SessionPlaysSaid : Prop := sessionPlaysRow.holds Tryz.pinned (OpenSpec.ofChange sessionPlaysSpec)

/-- ITS FALSE NEIGHBOUR: 'it returns false'. Refute it at one input. -/
def sessionPlaysWrong : ChangeSpec := { name := "sessionPlays", fn := fun _ => fun
  | [d1, d2] => { results := [.lit (.bool false)], args := [d1, d2] }
  | _ => none }
def SessionPlaysWrongFalsely : Prop := sessionPlaysRow.holds Tryz.pinned (OpenSpec.ofChange sessionPlaysWrong)

/-- 'catenarylaw17.SessionOrder': WHATEVER THE INPUT: true; the input reads as it did. -/
def sessionOrderSpec : ChangeSpec := { name := "sessionOrder", fn := fun _ => fun
  | [d] => { results := [.lit (.bool true)], args := [d] }
  | _ => none }
def sessionOrderRow : OpenClaim := { program := "ytnoflfbcgbhipaagreat", sum := "c9d83eafa663fcf27386fbd53289b493e980f010f60ae656472ac06591cde21f", func := "catenary/catenarylaw17.SessionOrder", spec := "sessionOrder", unfollowed := true, recurses := true, apart := false }
def SessionOrderSaid : Prop := sessionOrderRow.holds Tryz.pinned (OpenSpec.ofChange sessionOrderSpec)

/-- ITS FALSE NEIGHBOUR: 'it returns false'. Refute it at one input. -/
def sessionOrderWrong : ChangeSpec := { name := "sessionOrder", fn := fun _ => fun
  | [d] => { results := [.lit (.bool false)], args := [d] }
  | _ => none }
def SessionOrderWrongFalsely : Prop := sessionOrderRow.holds Tryz.pinned (OpenSpec.ofChange sessionOrderWrong)

/-- 'catenarylaw17.SessionLives': WHATEVER THE INPUT: true; the input reads as it did. -/
def sessionLivesSpec : ChangeSpec := { name := "sessionLives", fn := fun _ => fun
  | [d1, d2, d3] => { results := [.lit (.bool true)], args := [d1, d2, d3] }
  | _ => none }
def sessionLivesRow : OpenClaim := { program := "ytnoflfbcgbhipaagreat", sum := "c9d83eafa663fcf27386fbd53289b493e980f010f60ae656472ac06591cde21f", func := "catenary/catenarylaw17.SessionLives", spec := "sessionLives", unfollowed := true, recurses := true, apart := false }
def SessionLivesSaid : Prop := sessionLivesRow.holds Tryz.pinned (OpenSpec.ofChange sessionLivesSpec)

/-- ITS FALSE NEIGHBOUR: 'it returns false'. Refute it at one input. -/
def sessionLivesWrong : ChangeSpec := { name := "sessionLives", fn := fun _ => fun
  | [d1, d2, d3] => { results := [.lit (.bool false)], args := [d1, d2, d3] }
  | _ => none }
def SessionLivesWrongFalsely : Prop := sessionLivesRow.holds Tryz.pinned (OpenSpec.ofChange sessionLivesWrong)

/-- 'catenarylaw17.SessionFails': WHATEVER THE INPUT: true; the input reads as it did. -/
def sessionFailsSpec : ChangeSpec := { name := "sessionFails", fn := fun _ => fun
  | [d1, d2] => { results := [.lit (.bool true)], args := [d1, d2] }
  | _ => none }
def sessionFailsRow : OpenClaim := { program := "ytnoflfbcgbhipaagreat", sum := "c9d83eafa663fcf27386fbd53289b493e980f010f60ae656472ac06591cde21f", func := "catenary/catenarylaw17.SessionFails", spec := "sessionFails", unfollowed := true, recurses := true, apart := false }
def SessionFailsSaid : Prop := sessionFailsRow.holds Tryz.pinned (OpenSpec.ofChange sessionFailsSpec)

/-- ITS FALSE NEIGHBOUR: 'it returns false'. Refute it at one input. -/
def sessionFailsWrong : ChangeSpec := { name := "sessionFails", fn := fun _ => fun
  | [d1, d2] => { results := [.lit (.bool false)], args := [d1, d2] }
  | _ => none }
def SessionFailsWrongFalsely : Prop := sessionFailsRow.holds Tryz.pinned (OpenSpec.ofChange sessionFailsWrong)

/-- 'catenarylaw17.SessionKnown': WHATEVER THE INPUT: true; the input reads as it did. -/
def sessionKnownSpec : ChangeSpec := { name := "sessionKnown", fn := fun _ => fun
  | [] => { results := [.lit (.bool true)], args := [] }
  | _ => none }
def sessionKnownRow : OpenClaim := { program := "ytnoflfbcgbhipaagreat", sum := "c9d83eafa663fcf27386fbd53289b493e980f010f60ae656472ac06591cde21f", func := "catenary/catenarylaw17.SessionKnown", spec := "sessionKnown", unfollowed := true, recurses := true, apart := false }
def SessionKnownSaid : Prop := sessionKnownRow.holds Tryz.pinned (OpenSpec.ofChange sessionKnownSpec)

/-- ITS FALSE NEIGHBOUR: 'it returns false'. Refute it at one input. -/
def sessionKnownWrong : ChangeSpec := { name := "sessionKnown", fn := fun _ => fun
  | [] => { results := [.lit (.bool false)], args := [] }
  | _ => none }
def SessionKnownWrongFalsely : Prop := sessionKnownRow.holds Tryz.pinned (OpenSpec.ofChange sessionKnownWrong)

/- THE SECOND FORM. 'bulk': how many values and letters a reading holds, each counted each time it is reached (what is shared counts as often as it is met; a slice's spare places count too). A statement '..UptoSaid' is the law's where the arguments, and the package variables that the reading takes, are together of bulk at most 1048576: NARROWER than '..Said'. Prove '..Said' where nothing that the law and all that it calls make is longer than what came in: it says more and counts as full. Else prove '..UptoSaid'. A law counts once. -/
mutual
def uptoBulk {H : Type} : DataW H → Nat
  | .lit (.string bytes) => bytes.length + 1
  | .lit _ => 1
  | .nil => 1
  | .ptr d => uptoBulk d + 1
  | .slice elems spare => uptoBulkAll elems + uptoBulkAll spare + 1
  | .agg parts => uptoBulkAll parts + 1
  | .iface _ d => uptoBulk d + 1
  | .map entries => uptoBulkEntries entries + 1
  | .held _ => 1
def uptoBulkAll {H : Type} : List (DataW H) → Nat
  | [] => 0
  | d :: r => uptoBulk d + uptoBulkAll r
def uptoBulkEntries {H : Type} : List (Lit × DataW H) → Nat
  | [] => 0
  | x :: r => uptoBulkEntry x + uptoBulkEntries r
def uptoBulkEntry {H : Type} : Lit × DataW H → Nat
  | (.string bytes, d) => bytes.length + uptoBulk d + 1
  | (_, d) => uptoBulk d + 1
 end
def uptoSmall : (H : Type) → List (DataW H) → Bool := fun _ ds => decide (uptoBulkAll ds ≤ 1048576)
def OpenSpec.upto (s : _root_.Go.ChangeSpec) : _root_.Go.OpenSpec := { _root_.Go.OpenSpec.ofChange s with cond := some uptoSmall }

/-- 'catenarylaw17.SessionPlays', WHERE WHAT IT READS IS OF BULK AT MOST 1048576: true; the input reads as it did. -/
def sessionPlaysUptoRow : OpenClaim := { program := "ytnoflfbcgbhipaagreat", sum := "c9d83eafa663fcf27386fbd53289b493e980f010f60ae656472ac06591cde21f", func := "catenary/catenarylaw17.SessionPlays", spec := "sessionPlays", unfollowed := true, recurses := true, apart := false, narrowed := true }
def SessionPlaysUptoSaid : Prop := sessionPlaysUptoRow.holds Tryz.pinned (OpenSpec.upto sessionPlaysSpec)

/-- 'catenarylaw17.SessionOrder', WHERE WHAT IT READS IS OF BULK AT MOST 1048576: true; the input reads as it did. -/
def sessionOrderUptoRow : OpenClaim := { program := "ytnoflfbcgbhipaagreat", sum := "c9d83eafa663fcf27386fbd53289b493e980f010f60ae656472ac06591cde21f", func := "catenary/catenarylaw17.SessionOrder", spec := "sessionOrder", unfollowed := true, recurses := true, apart := false, narrowed := true }
def SessionOrderUptoSaid : Prop := sessionOrderUptoRow.holds Tryz.pinned (OpenSpec.upto sessionOrderSpec)

/-- 'catenarylaw17.SessionLives', WHERE WHAT IT READS IS OF BULK AT MOST 1048576: true; the input reads as it did. -/
def sessionLivesUptoRow : OpenClaim := { program := "ytnoflfbcgbhipaagreat", sum := "c9d83eafa663fcf27386fbd53289b493e980f010f60ae656472ac06591cde21f", func := "catenary/catenarylaw17.SessionLives", spec := "sessionLives", unfollowed := true, recurses := true, apart := false, narrowed := true }
def SessionLivesUptoSaid : Prop := sessionLivesUptoRow.holds Tryz.pinned (OpenSpec.upto sessionLivesSpec)

/-- 'catenarylaw17.SessionFails', WHERE WHAT IT READS IS OF BULK AT MOST 1048576: true; the input reads as it did. -/
def sessionFailsUptoRow : OpenClaim := { program := "ytnoflfbcgbhipaagreat", sum := "c9d83eafa663fcf27386fbd53289b493e980f010f60ae656472ac06591cde21f", func := "catenary/catenarylaw17.SessionFails", spec := "sessionFails", unfollowed := true, recurses := true, apart := false, narrowed := true }
def SessionFailsUptoSaid : Prop := sessionFailsUptoRow.holds Tryz.pinned (OpenSpec.upto sessionFailsSpec)

/-- 'catenarylaw17.SessionKnown', WHERE WHAT IT READS IS OF BULK AT MOST 1048576: true; the input reads as it did. -/
def sessionKnownUptoRow : OpenClaim := { program := "ytnoflfbcgbhipaagreat", sum := "c9d83eafa663fcf27386fbd53289b493e980f010f60ae656472ac06591cde21f", func := "catenary/catenarylaw17.SessionKnown", spec := "sessionKnown", unfollowed := true, recurses := true, apart := false, narrowed := true }
def SessionKnownUptoSaid : Prop := sessionKnownUptoRow.holds Tryz.pinned (OpenSpec.upto sessionKnownSpec)

end Rows
end Go.Proofs.YtnoflfbcgbhipaaGreat
