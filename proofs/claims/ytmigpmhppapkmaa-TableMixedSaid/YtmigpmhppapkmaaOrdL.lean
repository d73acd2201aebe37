/- Laws of a whole struct's load and store, by its block: one step each. -/
import Derived.Test.YtmigpmhppapkmaaOrdV
import Derived.Laws.Rows
namespace Go.Proofs.Ytmigpmhppapkmaa.Oct
open Go.RowKit
set_option linter.unusedVariables false

/-- A type of structs or arrays, of n cells. -/
def Agg (ty : TypeId) (n : Nat) : Prop := (∃ d, Try.prog.underlying ty = some d ∧ (match d with | .struct _ | .array _ _ => true | _ => false) = true) ∧ (Try.prog.info? ty).map (·.size) = some n
section
variable {T ty : TypeId} {w : World} {g off : Nat} {cs vs : List Value}
theorem run_loadVb (hv : Vb T w g cs) (hvs : (cs.drop off).take vs.length = vs) (ht : Agg ty vs.length) : (loadVar ty ⟨g, off, none⟩).run Try.prog w = .ok (.agg vs.toArray) w := by
  obtain ⟨⟨d, hu, hd⟩, hi⟩ := ht
  have hl : (loadCells ⟨g, off, none⟩ vs.length).run Try.prog w = .ok vs.toArray w :=
    run_loadCells_list (P := Try.prog) w ⟨g, off, none⟩ vs (fun j v hj => by
      rw [add_addr]
      refine hv.cell (off + j) ?_
      have hlt := (List.getElem?_eq_some_iff.1 hj).1
      rw [← hvs, List.getElem?_take, if_pos hlt, List.getElem?_drop] at hj
      exact hj)
  cases hq : Try.prog.info? ty with
  | none => simp [hq] at hi
  | some i =>
    have hs : i.size = vs.length := by simpa [hq] using hi
    have hagg : (isAgg ty).run Try.prog w = .ok true w := by
      unfold isAgg
      rw [Sem.run_bind, run_underlying hu w]
      cases d <;> simp_all
    simp [loadVar, Sem.run_bind, hagg, sizeOf, typeInfo, hq, hs, hl]
theorem setRow_vb (hv : Vb T w g cs) (hl : cs.length = vs.length) : Vb T (w.setRow g vs.toArray) g vs := by
  have := setRow_heap w g cs.toArray vs.toArray T (0, 0) hv
  exact this
theorem setRow_grown (w : World) (g : Nat) (vs : Array Value) : w.grownBy (w.setRow g vs) (some g) :=
  ⟨rfl, rfl, rfl, by simp [World.setRow], fun k _ hk => by
    unfold World.setRow
    simp only [Array.getElem?_modify]
    rw [if_neg (fun e => hk (by rw [e]))]⟩
theorem setRow_size (w : World) (g : Nat) (vs : Array Value) : (w.setRow g vs).heap.size = w.heap.size := by simp [World.setRow]
variable {ops : Array Oper} {rest : List Oper} {o : Oper} {a : Act} {Q : Exit → Act → World → Prop}
/-- A struct is loaded. -/
theorem wpList_load_vb (hgd : o.guard = none) (x : Operand) (ho : o.op = .load ty x) (hx : a.eval x = .pointer (some ⟨g, off, none⟩)) (hv : Vb T w g cs) (hvs : (cs.drop off).take vs.length = vs) (ht : Agg ty vs.length)
    (h : wpList Try.prog ops Q rest (a.put o.dst (.agg vs.toArray)) w) : wpList Try.prog ops Q (o :: rest) a w := by
  refine wpList_plain hgd fun K hK => ?_
  unfold Oper.wp execOp
  simp only [ho, hx, Instr.loadAt, Instr.sureAddr, Sem.run_bind, Sem.run_pure, Result.andThen_ok, run_loadVb hv hvs ht]
  exact hK _ _ h
/-- A struct is stored over a whole block: what the world is then. -/
theorem wpList_store_vb (hgd : o.guard = none) (x y : Operand) (ho : o.op = .store ty x y) (hx : a.eval x = .pointer (some ⟨g, 0, none⟩)) (hy : a.eval y = .agg vs.toArray) (hv : Vb T w g cs) (hl : cs.length = vs.length) (ht : Agg ty vs.length)
    (h1 : vs.all (·.oneCell') = true)
    (h : ∀ w', Vb T w' g vs → w.grownBy w' (some g) → w'.heap.size = w.heap.size → wpList Try.prog ops Q rest (a.put o.dst undef) w') : wpList Try.prog ops Q (o :: rest) a w :=
  wpList_store_row hgd ty x y ho g vs.toArray hx hy T cs.toArray hv (by simpa using ht.2) (by simpa using hl) (by simpa using h1) (h _ (setRow_vb hv hl) (setRow_grown _ _ _) (setRow_size _ _ _))
/-- .. into a block that was just made: only new memory. -/
theorem wpList_store_new {w0 : World} {old : Array Value} (hgd : o.guard = none) (x y : Operand) (ho : o.op = .store ty x y) (hx : a.eval x = .pointer (some ⟨g, 0, none⟩)) (hy : a.eval y = .agg vs.toArray) (hw : w = w0.alloc (.cells old T)) (hg : g = w0.heap.size)
    (hl : old.size = vs.length) (ht : Agg ty vs.length) (h1 : vs.all (·.oneCell') = true)
    (h : ∀ w', Vb T w' g vs → Below w0.heap.size w0 w' → w'.heap.size = w0.heap.size + 1 → wpList Try.prog ops Q rest (a.put o.dst undef) w') : wpList Try.prog ops Q (o :: rest) a w := by
  subst hw hg
  have hv : Vb T (w0.alloc (.cells old T)) w0.heap.size old.toList := by have := Vb.new T w0 old.toList; simpa using this
  refine wpList_store_vb hgd x y ho hx hy hv (by simpa using hl) ht h1 (fun w' h1 h2 h3 => h w' h1 ?_ (by rw [h3]; simp))
  exact (below_alloc w0 _).grown h2 (by simp) (fun k e => by simp at e; omega)
end
/-- A pair is answered, whose first is a struct in a block. -/
theorem results_pair {fn : Func} {p r : Tmp} {T ty : TypeId} {w : World} {g : Nat} {vs : List Value} (h : fn.results = #[.cell p ty, .tmp r]) (tmps : Array Value) (hp : tmps.getD p undef = .pointer (some ⟨g, 0, none⟩)) (hv : Vb T w g vs) (ht : Agg ty vs.length) :
    (results fn tmps).run Try.prog w = .ok (.tuple #[.agg vs.toArray, tmps.getD r undef]) w := by
  have hp' : tmps[p]?.getD undef = .pointer (some ⟨g, 0, none⟩) := by simpa using hp
  have hl : (loadVar ty ⟨g, 0, none⟩).run Try.prog w = .ok (.agg vs.toArray) w := run_loadVb hv (by simp) ht
  simp [results, h, hp', asAddr, hl]
theorem results_one {fn : Func} {p : Tmp} {T ty : TypeId} {w : World} {g : Nat} {vs : List Value} (h : fn.results = #[.cell p ty]) (tmps : Array Value) (hp : tmps.getD p undef = .pointer (some ⟨g, 0, none⟩)) (hv : Vb T w g vs) (ht : Agg ty vs.length) :
    (results fn tmps).run Try.prog w = .ok (.agg vs.toArray) w := by
  have hp' : tmps[p]?.getD undef = .pointer (some ⟨g, 0, none⟩) := by simpa using hp
  have hl : (loadVar ty ⟨g, 0, none⟩).run Try.prog w = .ok (.agg vs.toArray) w := run_loadVb hv (by simp) ht
  simp [results, h, hp', asAddr, hl]
theorem agg_rule : Agg 36 13 := ⟨⟨_, Try.underlying36, rfl⟩, by kernel_rfl⟩
theorem agg_mask : Agg 33 8 := ⟨⟨_, Try.underlying33, rfl⟩, by kernel_rfl⟩
theorem agg_out : Agg 49 4 := ⟨⟨_, Try.underlying49, rfl⟩, by kernel_rfl⟩
theorem agg_set : Agg 47 3 := ⟨⟨_, Try.underlying47, rfl⟩, by kernel_rfl⟩
theorem agg_header : Agg 31 3 := ⟨⟨_, Try.underlying31, rfl⟩, by kernel_rfl⟩
end Go.Proofs.Ytmigpmhppapkmaa.Oct
