/- A struct is stored into the midst of a block, as one step. -/
import Derived.Test.YtomjnpjabfnlbaaVbl
namespace Go.Proofs.Ytomjnpjabfnlbaa.Oct
open Go.RowKit
set_option linter.unusedVariables false
/-- Values that are stored one behind the other into block g, from cell o on. -/
def putC (w : World) (g : Nat) : Nat → List Value → World
  | _, [] => w
  | o, v :: vs => putC (w.setCell ⟨g, o, none⟩ v) g (o + 1) vs
def setAll (cs : List Value) : Nat → List Value → List Value
  | _, [] => cs
  | o, v :: vs => setAll (cs.set o v) (o + 1) vs
theorem putC_grown (g : Nat) : ∀ (vs : List Value) (w : World) (o : Nat), w.grownBy (putC w g o vs) (some g)
  | [], w, o => World.grownBy.refl _ _
  | v :: vs, w, o => (grownBy_set w g o v).trans (putC_grown g vs _ _)
theorem Vb.putC {T : TypeId} {g : Nat} : ∀ (vs : List Value) {w : World} {cs : List Value} (o : Nat), Vb T w g cs → Vb T (Oct.putC w g o vs) g (setAll cs o vs)
  | [], _, _, _, h => h
  | v :: vs, _, _, o, h => Vb.putC vs (o + 1) (h.set o v)
theorem putC_size (g : Nat) (vs : List Value) (w : World) (o : Nat) : (putC w g o vs).heap.size = w.heap.size := by
  induction vs generalizing w o with
  | nil => rfl
  | cons v vs ih => rw [putC, ih]; simp [World.setCell]
section
variable {T ty : TypeId} {w : World} {g off : Nat} {cs vs : List Value} {ops : Array Oper} {rest : List Oper} {o : Oper} {a : Act} {Q : Exit → Act → World → Prop}
theorem run_storeCells_vb (T : TypeId) (g : Nat) : ∀ (vs : List Value) (i off : Nat) (cs : List Value) (w : World), Vb T w g cs → off + i + vs.length ≤ cs.length → (vs.all (·.oneCell') = true) →
    (storeCells ⟨g, off, none⟩ vs i).run Try.prog w = .ok () (putC w g (off + i) vs)
  | [], i, off, cs, w, hv, hl, h1 => rfl
  | v :: rest, i, off, cs, w, hv, hl, h1 => by
    simp only [List.all_cons, Bool.and_eq_true] at h1
    have hi : off + i < cs.length := by simp at hl; omega
    have hcell : w.cell? ⟨g, off + i, none⟩ = some cs[off + i] := hv.cell _ (List.getElem?_eq_getElem hi)
    have hst : (store ((⟨g, off, none⟩ : Addr).add i) v).run Try.prog w = .ok () (w.setCell ⟨g, off + i, none⟩ v) := by
      rw [add_addr, run_store Try.prog w _ v _ h1.1, hcell]
      simp [hv.free (off + i)]
    have ih := run_storeCells_vb T g rest (i + 1) off (cs.set (off + i) v) _ (hv.set (off + i) v) (by simp at hl ⊢; omega) h1.2
    simp only [storeCells, Sem.run_bind, hst, Result.andThen_ok, ih]
    rfl
theorem wpList_store_at (hgd : o.guard = none) (x y : Operand) (ho : o.op = .store ty x y) (hx : a.eval x = .pointer (some ⟨g, off, none⟩)) (hy : a.eval y = .agg vs.toArray) (hv : Vb T w g cs) (hl : off + vs.length ≤ cs.length) (ht : Agg ty vs.length)
    (h1 : vs.all (·.oneCell') = true)
    (h : ∀ w', Vb T w' g (setAll cs off vs) → w.grownBy w' (some g) → w'.heap.size = w.heap.size → wpList Try.prog ops Q rest (a.put o.dst undef) w') : wpList Try.prog ops Q (o :: rest) a w := by
  refine wpList_plain hgd fun K hK => ?_
  have hst := run_storeCells_vb T g vs 0 off cs w hv (by omega) h1
  have hi : (Try.prog.info? ty).map (·.size) = some vs.length := ht.2
  have hrun : (storeVar ty ⟨g, off, none⟩ (.agg vs.toArray)).run Try.prog w = .ok () (putC w g off vs) := by
    cases hq : Try.prog.info? ty with
    | none => simp [hq] at hi
    | some i =>
      have hs : vs.length = i.size := by simp [hq] at hi; omega
      simp [storeVar, sizeOf, typeInfo, hq, Value.cells, hs, hst]
  unfold Oper.wp execOp
  simp only [ho, hx, hy, Instr.storeAt, Instr.sureAddr, Sem.run_bind, Sem.run_pure, Result.andThen_ok, hrun]
  exact hK _ _ (h _ (hv.putC vs off) (putC_grown g vs w off) (putC_size g vs w off))
end
end Go.Proofs.Ytomjnpjabfnlbaa.Oct
