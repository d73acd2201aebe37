/- Contracts of layer 8: what a rule does. -/
import Derived.Test.YtcolklkjaifplaaRulD
import Derived.Test.YtcolklkjaifplaaRulB
namespace Go.Proofs.Ytcolklkjaifplaa.Oct
open Go.RowKit
set_option linter.unusedVariables false
set_option linter.unusedSimpArgs false

/-- What outputs make of a header, each once, behind what is there. -/
def doesF (a b c : Int) : List OutV → List OutV → List OutV
  | [], acc => acc
  | o :: os, acc => doesF a b c os (if sentP o a b c ∈ acc then acc else acc ++ [sentP o a b c])
def doesR (r : RuleV) (a b c : Int) : List OutV := if r.k = 1 then doesF a b c r.os [] else []
theorem doesF_step {a b c : Int} {os acc : List OutV} {k : Nat} {x : OutV} (h : os[k]? = some x) : doesF a b c (os.drop k) acc = doesF a b c (os.drop (k + 1)) (if sentP x a b c ∈ acc then acc else acc ++ [sentP x a b c]) := by
  have hk := (List.getElem?_eq_some_iff.1 h).1
  rw [List.drop_eq_getElem_cons hk, (List.getElem?_eq_some_iff.1 h).2]
  rfl
/-- A slice of Sents is answered. -/
def SentsOf (ss : List OutV) (w : World) (e : Ending) (w' : World) : Prop := ∃ A n c, e = .returned (.slice A n c) ∧ Rs w' w'.heap.size A n c ss ∧ Below w.heap.size w w'
theorem Ro.got {w : World} {B q off n c : Nat} {os : List OutV} (h : Ro w B (some ⟨q, off, none⟩) n c os) {k : Nat} {x : OutV} (hk : os[k]? = some x) : w.cell? ⟨q, off + k * 4, none⟩ = some (.int .i64 x.p) ∧ w.cell? ⟨q, off + k * 4 + 1, none⟩ = some (.int .i64 x.a) ∧ w.cell? ⟨q, off + k * 4 + 2, none⟩ = some (.int .i64 x.b) ∧ w.cell? ⟨q, off + k * 4 + 3, none⟩ = some (.int .i64 x.c) := by
  have hkl := (List.getElem?_eq_some_iff.1 hk).1
  obtain ⟨q', off', e1, _, hc'⟩ := h.at_ (by have := h.len; omega)
  have e2 := Option.some.inj e1
  have e3 := congrArg Addr.block e2
  have e4 := congrArg Addr.off e2
  simp only at e3 e4
  subst e3 e4
  exact hc' k x hk
/-- A header of which the first j fields are said. -/
def hcP (x : OutV) (a b e : Int) (j : Nat) : OutV := ⟨x.p, if j = 0 then a else putB x.a a, if j ≤ 1 then b else putB x.b b, if j ≤ 2 then e else putB x.c e⟩
end Go.Proofs.Ytcolklkjaifplaa.Oct
