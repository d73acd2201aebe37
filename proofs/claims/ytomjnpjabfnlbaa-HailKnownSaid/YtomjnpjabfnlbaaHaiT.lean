/- Layer 16 (hail): answers have no message; two that are the same; what stays of other segments. -/
import Derived.Test.YtomjnpjabfnlbaaHaiM
import Derived.Test.YtomjnpjabfnlbaaSegS
import Derived.Test.YtomjnpjabfnlbaaVst
namespace Go.Proofs.Ytomjnpjabfnlbaa.Oct
open Go.RowKit
set_option linter.unusedVariables false
set_option linter.unusedSimpArgs false

/-- It has no message. -/
def Sv.bare (x : Sv) : Prop := x.A = none ∧ x.n = 0 ∧ x.c = 0
theorem ansG_bare (x : Sv) (sf bo E : Int) : (ansG x sf bo E).bare := by
  unfold ansG Sv.bare
  split
  · exact ⟨rfl, rfl, rfl⟩
  · split <;> exact ⟨rfl, rfl, rfl⟩
theorem saysC_bare (tz e b q : Int) : (saysC tz e b q).bare := by
  unfold saysC Sv.bare
  split
  · exact ⟨rfl, rfl, rfl⟩
  · split <;> exact ⟨rfl, rfl, rfl⟩
theorem same_self (x : Sv) (hx : x.bare) (w : World) : Calls Try.prog 22 #[x.v, x.v] w fun en w' => en = .returned (.bool true) ∧ Below w.heap.size w w' := by
  obtain ⟨k, t, f, h, p, o, s, a, A, n, c⟩ := x
  obtain ⟨e1, e2, e3⟩ := hx
  replace e1 : A = none := e1
  replace e2 : n = 0 := e2
  replace e3 : c = 0 := e3
  subst e1 e2 e3
  have hr : Rd .u8 w w.heap.size none 0 0 [] := Rd.nil _ _ _
  have := refSame_any (k := k) (t := t) (f := f) (h := h) (p := p) (o := o) (s := s) (a := a) (k' := k) (t' := t) (f' := f) (h' := h) (p' := p) (o' := o) (s' := s) (a' := a) hr hr (Nat.le_refl _) (Nat.le_refl _) By.nil By.nil
  rw [sameS_self] at this
  exact this
/-- Segments that lie in blocks stay. -/
def Sk (w w' : World) : Prop := ∀ r cs, Vb 31 w r cs → Vb 31 w' r cs
theorem Sk.refl (w : World) : Sk w w := fun _ _ h => h
section
variable {w w1 w2 : World} {z : Nat} {T : TypeId} {cs : List Value}
theorem Sk.below (h : Sk w w1) (hb : Below w1.heap.size w1 w2) : Sk w w2 := fun r c hv => (h r c hv).below hb (h r c hv).lt
theorem Sk.other (h : Sk w w1) (hv : Vb T w1 z cs) (hT : 31 ≠ T) (hg : w1.grownBy w2 (some z)) : Sk w w2 := fun r c hr => (h r c hr).grown hg (vb_ne (h r c hr) hv hT)
theorem Sk.new (h : Sk w w1) (hz : w.heap.size ≤ z) (hg : w1.grownBy w2 (some z)) : Sk w w2 := fun r c hr => (h r c hr).grown hg (by have := hr.lt; omega)
end
/-- The last answer is written down. -/
theorem Ev.set {w' : World} {X c g d h : Nat} {x y : Sv} (hv : Vb 33 w' X (setAll [.pointer (some ⟨c, 0, none⟩), .pointer (some ⟨g, 0, none⟩), .pointer (some ⟨d, 0, none⟩), .pointer (some ⟨h, 0, none⟩), .int .i64 y.k, .int .i64 y.t, .int .i64 y.f, .int .i64 y.h, .int .i64 y.p, .int .i64 y.o, .int .i64 y.s, .int .i64 y.a, .slice y.A y.n y.c] 4 x.cells)) : Ev w' X c g d h x := hv
end Go.Proofs.Ytomjnpjabfnlbaa.Oct
