/- Contracts of layer 8: works. -/
import Derived.Test.YtcolklkjaifplaaRulF
import Derived.Deep.Cut
import Derived.Deep.CutRange
namespace Go.Proofs.Ytcolklkjaifplaa.Oct
open Go.RowKit
set_option linter.unusedVariables false
set_option linter.unusedSimpArgs false
theorem wpList_load_wantR {T ty : TypeId} {w : World} {g off : Nat} {cs vs : List Value} {ops : Array Oper} {rest : List Oper} {o : Oper} {a : Act} {Q : Exit → Act → World → Prop} (hw : Region.wanted o (yielded ops a.tmps) = true) (x : Operand) (ho : o.op = .load ty x) (hx : a.eval x = .pointer (some ⟨g, off, none⟩)) (hv : Vb T w g cs) (hvs : (cs.drop off).take vs.length = vs) (ht : Agg ty vs.length)
    (h : wpList Try.prog ops Q rest (a.put o.dst (.agg vs.toArray)) w) : wpList Try.prog ops Q (o :: rest) a w := by
  refine BigFrame.wpList_want hw fun K hK => ?_
  unfold Oper.wp execOp
  simp only [ho, hx, Instr.loadAt, Instr.sureAddr, Sem.run_bind, Sem.run_pure, Result.andThen_ok, run_loadVb hv hvs ht]
  exact hK _ _ h

set_option maxRecDepth 100000 in
set_option maxHeartbeats 16000000 in
theorem does_other : doesR ⟨1, 0, 0, 0, ⟨0, -1, 0, 0, 0, 0, 0, 0⟩, [⟨2, (-1), (-1), (-1)⟩, ⟨3, (-1), 9, (-1)⟩, ⟨2, (-1), 6, (-1)⟩]⟩ 5 6 7 = [⟨2, 5, 6, 7⟩, ⟨3, 5, 9, 7⟩] := by decide +kernel
theorem cmp_dc : cmpR ⟨1, 0, 0, 0, ⟨0, -1, 0, 0, 0, 0, 0, 0⟩, []⟩ ⟨2, 0, 1, 0, ⟨0, 0, 0, 0, 0, 0, 0, 0⟩, []⟩ = -1 := by decide +kernel
theorem cmp_dh : cmpR ⟨1, 0, 0, 0, ⟨0, -1, 0, 0, 0, 0, 0, 0⟩, []⟩ ⟨1, 4, 0, 0, ⟨0, -1, 0, 0, 0, 0, 0, 0⟩, []⟩ = 1 := by decide +kernel
theorem cmp_ct : cmpR ⟨2, 0, 1, 0, ⟨0, 0, 0, 0, 0, 0, 0, 0⟩, []⟩ ⟨2, 0, 2, 0, ⟨0, 0, 0, 0, 0, 0, 0, 0⟩, []⟩ = -1 := by decide +kernel
theorem cmp_do : cmpR ⟨1, 0, 0, 0, ⟨0, -1, 0, 0, 0, 0, 0, 0⟩, []⟩ ⟨1, 0, 0, 0, ⟨0, -1, 0, 0, 0, 0, 0, 0⟩, [⟨2, (-1), (-1), (-1)⟩, ⟨3, (-1), 9, (-1)⟩, ⟨2, (-1), 6, (-1)⟩]⟩ = 0 := by decide +kernel
end Go.Proofs.Ytcolklkjaifplaa.Oct
