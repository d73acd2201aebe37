/- A struct of whole numbers in a block of its own; blocks of cells through a range over a function. -/
import Derived.Test.YtcolklkjaifplaaOctZ
import Derived.RangeFuncNested
namespace Go.Proofs.Ytcolklkjaifplaa.Oct
open Go.RowKit
set_option linter.unusedVariables false

/-- The numbers vs lie in block g, and nothing else does. -/
def Nb (T : TypeId) (w : World) (g : Nat) (vs : List Int) : Prop := w.heap[g]? = some (.cells (vs.map (Value.int .i64)).toArray T (0, 0))
section
variable {T : TypeId} {w w' : World} {g r B : Nat} {vs : List Int}
theorem Nb.lt (h : Nb T w g vs) : g < w.heap.size := (Array.getElem?_eq_some_iff.1 h).1
theorem Nb.new (T : TypeId) (w : World) (vs : List Int) : Nb T (w.alloc (.cells (vs.map (Value.int .i64)).toArray T)) w.heap.size vs := heap_alloc_new w _
theorem Nb.grown (h : Nb T w g vs) (hg : w.grownBy w' (some r)) (hne : g ≠ r) : Nb T w' g vs := (hg.block g h.lt (by simp; exact hne)).trans h
theorem Nb.below (h : Nb T w g vs) (hb : Below B w w') (hB : g < B) : Nb T w' g vs := (hb.block g hB).trans h
theorem Nb.alloc (h : Nb T w g vs) (o : Obj) : Nb T (w.alloc o) g vs := h.below (below_alloc w o) h.lt
theorem Nb.free (h : Nb T w g vs) (j : Nat) : w.frozen? ⟨g, j, none⟩ = false := by simp [World.frozen?, show w.heap[g]? = _ from h]
theorem Nb.cell (h : Nb T w g vs) (j : Nat) (hj : j < vs.length) : w.cell? ⟨g, j, none⟩ = some (.int .i64 (vs.getD j 0)) := by
  simp [World.cell?, show w.heap[g]? = _ from h, List.getD_eq_getElem?_getD, List.getElem?_eq_getElem hj]
theorem Nb.set (h : Nb T w g vs) (j : Nat) (x : Int) : Nb T (w.setCell ⟨g, j, none⟩ (.int .i64 x)) g (vs.set j x) := by
  simp [Nb, World.setCell, Array.getElem?_modify, show w.heap[g]? = _ from h, List.map_set]
theorem Nb.five {f p t q n : Int} (h : Nb T w g [f, p, t, q, n]) : w.cell? ⟨g, 0, none⟩ = some (.int .i64 f) ∧ w.cell? ⟨g, 1, none⟩ = some (.int .i64 p) ∧ w.cell? ⟨g, 2, none⟩ = some (.int .i64 t) ∧ w.cell? ⟨g, 3, none⟩ = some (.int .i64 q) ∧ w.cell? ⟨g, 4, none⟩ = some (.int .i64 n) :=
  ⟨h.cell 0 (by simp), h.cell 1 (by simp), h.cell 2 (by simp), h.cell 3 (by simp), h.cell 4 (by simp)⟩
/-- Five numbers that are stored whole. -/
def put5 (w : World) (g : Nat) (f p t q n : Int) : World :=
  ((((w.setCell ⟨g, 0, none⟩ (.int .i64 f)).setCell ⟨g, 1, none⟩ (.int .i64 p)).setCell ⟨g, 2, none⟩ (.int .i64 t)).setCell ⟨g, 3, none⟩ (.int .i64 q)).setCell ⟨g, 4, none⟩ (.int .i64 n)
theorem put5_below {w0 : World} (h0 : Below B w0 w) (hg : B ≤ g) (f p t q n : Int) : Below B w0 (put5 w g f p t q n) :=
  ((((h0.setCell (by simpa using hg) _).setCell (by simpa using hg) _).setCell (by simpa using hg) _).setCell (by simpa using hg) _).setCell (by simpa using hg) _
theorem Nb.put5 {f p t q n f' p' t' q' n' : Int} (h : Nb T w g [f, p, t, q, n]) : Nb T (put5 w g f' p' t' q' n') g [f', p', t', q', n'] := ((((h.set 0 f').set 1 p').set 2 t').set 3 q').set 4 n'
theorem put5_others (w : World) (g : Nat) (f p t q n : Int) : KeepsOthers w (put5 w g f p t q n) :=
  ((((KeepsOthers.setCell _ _ _).trans (KeepsOthers.setCell _ _ _)).trans (KeepsOthers.setCell _ _ _)).trans (KeepsOthers.setCell _ _ _)).trans (KeepsOthers.setCell _ _ _)
theorem Nb.other (h : Nb T w g vs) (hne : g ≠ r) (j : Nat) (u : Value) : Nb T (w.setCell ⟨r, j, none⟩ u) g vs := h.grown (grownBy_set w r j u) hne
end
/-- A block of cells abides whatever turns no cells. -/
theorem cells_own {β : Type} (B : Nat) (T : TypeId) (fr : Nat × Nat) (f : β → Array Value) : Go.Own (fun s W => W.heap[B]? = some (.cells (f s) T fr)) := fun s X Y row hs hg hrow =>
  (hg.block B (Array.getElem?_eq_some_iff.1 hs).1 (fun e => by obtain ⟨o, ho, hc⟩ := hrow B e.symm; rw [hs] at ho; cases ho; cases hc)).trans hs
theorem nb_own {β : Type} (T : TypeId) (g : Nat) (f : β → List Int) : Go.Own (fun s W => Nb T W g (f s)) := cells_own g T (0, 0) (fun s => ((f s).map (Value.int .i64)).toArray)
end Go.Proofs.Ytcolklkjaifplaa.Oct
