/- A light base for all layers: blocks of whatever cells, loads and stores of whole structs as one step, a region's operation taken first. -/
import Derived.Test.YtomjnpjabfnlbaaOctW
import Derived.Laws.Rows
import Derived.Laws.Pointers
import Derived.Deep.RegionWith
import Derived.Deep.RegionHeld
import Derived.OrdersHeld
import Derived.ChangeKeysEq
import Derived.Deep.Cut
import Derived.BigQuiet
namespace Go.Proofs.Ytomjnpjabfnlbaa.Oct
open Go.RowKit
set_option linter.unusedVariables false

theorem grown_of_below {a w : World} (h : Below a.heap.size a w) (row : Option Nat) : a.grownBy w row := ⟨h.os, h.tape, h.output, h.size, fun i hi _ => h.block i hi⟩
theorem grownBy_set (w : World) (g i : Nat) (u : Value) : w.grownBy (w.setCell ⟨g, i, none⟩ u) (some g) :=
  ⟨rfl, rfl, rfl, by simp [World.setCell], fun k _ hk => Below.heap_setCell _ _ _ _ (fun e => hk (by rw [e]))⟩
theorem grown_cell {w w' : World} {g b o : Nat} {v : Value} (hg : w.grownBy w' (some g)) (h : w.cell? ⟨b, o, none⟩ = some v) (hne : b ≠ g) : w'.cell? ⟨b, o, none⟩ = some v :=
  World.grownBy.cell hg h (by simp; exact hne)
theorem below_grown {B g : Nat} {a w w' : World} (h : Below B a w) (hg : w.grownBy w' (some g)) (hB : B ≤ w.heap.size) (hg' : B ≤ g) : Below B a w' := h.grown hg hB (fun k e => by simp at e; omega)

theorem below_two (wr : World) (o o2 : Obj) : Below wr.heap.size wr ((wr.alloc o).alloc o2) := (below_alloc wr o).trans ((below_alloc _ o2).mono (by simp))
theorem Rd.drew {k : IntKind} {w : World} {B n c : Nat} {A : Option Addr} {l : List Int} (h : Rd k w B A n c l) : Rd k w.drew B A n c l := h.below (Below.refl _ _).drew
/-- These cells lie in block g, and nothing else does. -/
def Vb (T : TypeId) (w : World) (g : Nat) (cs : List Value) : Prop := w.heap[g]? = some (.cells cs.toArray T (0, 0))
section
variable {T : TypeId} {w w' : World} {g r B : Nat} {cs : List Value}
theorem Vb.lt (h : Vb T w g cs) : g < w.heap.size := (Array.getElem?_eq_some_iff.1 h).1
theorem Vb.new (T : TypeId) (w : World) (cs : List Value) : Vb T (w.alloc (.cells cs.toArray T)) w.heap.size cs := heap_alloc_new w _
theorem Vb.grown (h : Vb T w g cs) (hg : w.grownBy w' (some r)) (hne : g ≠ r) : Vb T w' g cs := (hg.block g h.lt (by simp; exact hne)).trans h
theorem Vb.below (h : Vb T w g cs) (hb : Below B w w') (hB : g < B) : Vb T w' g cs := (hb.block g hB).trans h
theorem Vb.alloc (h : Vb T w g cs) (o : Obj) : Vb T (w.alloc o) g cs := h.below (below_alloc w o) h.lt
theorem Vb.free (h : Vb T w g cs) (j : Nat) : w.frozen? ⟨g, j, none⟩ = false := by simp [World.frozen?, show w.heap[g]? = _ from h]
theorem Vb.cell (h : Vb T w g cs) (j : Nat) {u : Value} (hj : cs[j]? = some u) : w.cell? ⟨g, j, none⟩ = some u := by
  simp [World.cell?, show w.heap[g]? = _ from h, hj]
theorem Vb.set (h : Vb T w g cs) (j : Nat) (u : Value) : Vb T (w.setCell ⟨g, j, none⟩ u) g (cs.set j u) := by
  simp [Vb, World.setCell, Array.getElem?_modify, show w.heap[g]? = _ from h]
theorem Vb.other (h : Vb T w g cs) (hne : g ≠ r) (j : Nat) (u : Value) : Vb T (w.setCell ⟨r, j, none⟩ u) g cs := h.grown (grownBy_set w r j u) hne
end

theorem vb_ne {T T' : TypeId} {w : World} {g g' : Nat} {cs cs' : List Value} (h : Vb T w g cs) (h' : Vb T' w g' cs') (hne : T ≠ T') : g ≠ g' := by
  intro e
  subst e
  have h2 := (show w.heap[g]? = _ from h).symm.trans h'
  have h2 := Option.some.inj h2
  injection h2 with _ h3 _
  exact hne h3
/-- A type of structs or arrays, of n cells. -/
def Agg (ty : TypeId) (n : Nat) : Prop := (∃ d, Try.prog.underlying ty = some d ∧ (match d with | .struct _ | .array _ _ => true | _ => false) = true) ∧ (Try.prog.info? ty).map (·.size) = some n
section
variable {T ty : TypeId} {w : World} {g off : Nat} {cs vs : List Value}
theorem run_loadVb (hv : Vb T w g cs) (hvs : (cs.drop off).take vs.length = vs) (ht : Agg ty vs.length) : (loadVar ty ⟨g, off, none⟩).run Try.prog w = .ok (.agg vs.toArray) w := by
  obtain ⟨⟨d, hu, hd⟩, hi⟩ := ht
  have hl : (loadCells ⟨g, off, none⟩ vs.length).run Try.prog w = .ok vs.toArray w :=
    run_loadCells_list (P := Try.prog) w ⟨g, off, none⟩ vs (fun j v hj => by
      rw [add_addr]
      refine hv.cell (off + j) ?_
      have hlt := (List.getElem?_eq_some_iff.1 hj).1
      rw [← hvs, List.getElem?_take, if_pos hlt, List.getElem?_drop] at hj
      exact hj)
  cases hq : Try.prog.info? ty with
  | none => simp [hq] at hi
  | some i =>
    have hs : i.size = vs.length := by simpa [hq] using hi
    have hagg : (isAgg ty).run Try.prog w = .ok true w := by
      unfold isAgg
      rw [Sem.run_bind, run_underlying hu w]
      cases d <;> simp_all
    simp [loadVar, Sem.run_bind, hagg, sizeOf, typeInfo, hq, hs, hl]
theorem setRow_vb (hv : Vb T w g cs) (hl : cs.length = vs.length) : Vb T (w.setRow g vs.toArray) g vs := by
  have := setRow_heap w g cs.toArray vs.toArray T (0, 0) hv
  exact this
theorem setRow_grown (w : World) (g : Nat) (vs : Array Value) : w.grownBy (w.setRow g vs) (some g) :=
  ⟨rfl, rfl, rfl, by simp [World.setRow], fun k _ hk => by
    unfold World.setRow
    simp only [Array.getElem?_modify]
    rw [if_neg (fun e => hk (by rw [e]))]⟩
theorem setRow_size (w : World) (g : Nat) (vs : Array Value) : (w.setRow g vs).heap.size = w.heap.size := by simp [World.setRow]
variable {ops : Array Oper} {rest : List Oper} {o : Oper} {a : Act} {Q : Exit → Act → World → Prop}
/-- A struct is loaded. -/
theorem wpList_load_vb (hgd : o.guard = none) (x : Operand) (ho : o.op = .load ty x) (hx : a.eval x = .pointer (some ⟨g, off, none⟩)) (hv : Vb T w g cs) (hvs : (cs.drop off).take vs.length = vs) (ht : Agg ty vs.length)
    (h : wpList Try.prog ops Q rest (a.put o.dst (.agg vs.toArray)) w) : wpList Try.prog ops Q (o :: rest) a w := by
  refine wpList_plain hgd fun K hK => ?_
  unfold Oper.wp execOp
  simp only [ho, hx, Instr.loadAt, Instr.sureAddr, Sem.run_bind, Sem.run_pure, Result.andThen_ok, run_loadVb hv hvs ht]
  exact hK _ _ h
/-- A struct is stored over a whole block: what the world is then. -/
theorem wpList_store_vb (hgd : o.guard = none) (x y : Operand) (ho : o.op = .store ty x y) (hx : a.eval x = .pointer (some ⟨g, 0, none⟩)) (hy : a.eval y = .agg vs.toArray) (hv : Vb T w g cs) (hl : cs.length = vs.length) (ht : Agg ty vs.length)
    (h1 : vs.all (·.oneCell') = true)
    (h : ∀ w', Vb T w' g vs → w.grownBy w' (some g) → w'.heap.size = w.heap.size → wpList Try.prog ops Q rest (a.put o.dst undef) w') : wpList Try.prog ops Q (o :: rest) a w :=
  wpList_store_row hgd ty x y ho g vs.toArray hx hy T cs.toArray hv (by simpa using ht.2) (by simpa using hl) (by simpa using h1) (h _ (setRow_vb hv hl) (setRow_grown _ _ _) (setRow_size _ _ _))
/-- .. into a block that was just made: only new memory. -/
theorem wpList_store_new {w0 : World} {old : Array Value} (hgd : o.guard = none) (x y : Operand) (ho : o.op = .store ty x y) (hx : a.eval x = .pointer (some ⟨g, 0, none⟩)) (hy : a.eval y = .agg vs.toArray) (hw : w = w0.alloc (.cells old T)) (hg : g = w0.heap.size)
    (hl : old.size = vs.length) (ht : Agg ty vs.length) (h1 : vs.all (·.oneCell') = true)
    (h : ∀ w', Vb T w' g vs → Below w0.heap.size w0 w' → w'.heap.size = w0.heap.size + 1 → wpList Try.prog ops Q rest (a.put o.dst undef) w') : wpList Try.prog ops Q (o :: rest) a w := by
  subst hw hg
  have hv : Vb T (w0.alloc (.cells old T)) w0.heap.size old.toList := by have := Vb.new T w0 old.toList; simpa using this
  refine wpList_store_vb hgd x y ho hx hy hv (by simpa using hl) ht h1 (fun w' h1 h2 h3 => h w' h1 ?_ (by rw [h3]; simp))
  exact (below_alloc w0 _).grown h2 (by simp) (fun k e => by simp at e; omega)
end
/-- A pair is answered, whose first is a struct in a block. -/
theorem results_pair {fn : Func} {p r : Tmp} {T ty : TypeId} {w : World} {g : Nat} {vs : List Value} (h : fn.results = #[.cell p ty, .tmp r]) (tmps : Array Value) (hp : tmps.getD p undef = .pointer (some ⟨g, 0, none⟩)) (hv : Vb T w g vs) (ht : Agg ty vs.length) :
    (results fn tmps).run Try.prog w = .ok (.tuple #[.agg vs.toArray, tmps.getD r undef]) w := by
  have hp' : tmps[p]?.getD undef = .pointer (some ⟨g, 0, none⟩) := by simpa using hp
  have hl : (loadVar ty ⟨g, 0, none⟩).run Try.prog w = .ok (.agg vs.toArray) w := run_loadVb hv (by simp) ht
  simp [results, h, hp', asAddr, hl]
theorem results_one {fn : Func} {p : Tmp} {T ty : TypeId} {w : World} {g : Nat} {vs : List Value} (h : fn.results = #[.cell p ty]) (tmps : Array Value) (hp : tmps.getD p undef = .pointer (some ⟨g, 0, none⟩)) (hv : Vb T w g vs) (ht : Agg ty vs.length) :
    (results fn tmps).run Try.prog w = .ok (.agg vs.toArray) w := by
  have hp' : tmps[p]?.getD undef = .pointer (some ⟨g, 0, none⟩) := by simpa using hp
  have hl : (loadVar ty ⟨g, 0, none⟩).run Try.prog w = .ok (.agg vs.toArray) w := run_loadVb hv (by simp) ht
  simp [results, h, hp', asAddr, hl]
theorem takeD {P : Program} {md : Region.Mode} {ops : Array Oper} {Q : Exit → Act → World → Prop} {S : World → Prop} {i : Nat} {oi : Oper} {v : Value} {fuel : Nat} {listed : Array Bool} {a : Act} {w : World} (d : Option Tmp) (hi : ops[i]? = some oi) (hd : oi.dst = d)
    (hs : Region.noSelect ops = true) (hf : Region.free md ops listed i = true) (hr : (Region.ready md ops listed).contains i = true)
    (hQ : ∀ c a w, Q (.panic c) (a.put d v) w → Q (.panic c) a w) (hy : YieldsIf P ops S oi v a) (hS : S w)
    (h : wpAnyH P md ops Q S fuel (listed.setIfInBounds i true) (a.put d v) w) : wpAnyH P md ops Q S (fuel + 1) listed a w := by
  subst hd
  exact wpAnyH_take hi hs hf hr hQ hy hS h
end Go.Proofs.Ytomjnpjabfnlbaa.Oct
