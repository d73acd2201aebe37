/- Layer 14 (inbox): which numbers a message may have. -/
import Derived.Test.YtdhidgcjpeafnaaInbB
import Derived.Carry
namespace Go.Proofs.Ytdhidgcjpeafnaa.Oct
open Go.RowKit
set_option linter.unusedVariables false
set_option linter.unusedSimpArgs false
def isN (n : Int) : Bool := decide (0 ≤ n ∧ n ≤ 65535)
theorem isN_yes {n : Int} (h0 : 0 ≤ n) (h1 : n ≤ 65535) : isN n = true := decide_eq_true ⟨h0, h1⟩
theorem isN_no {n : Int} (h : n < 0 ∨ 65535 < n) : isN n = false := decide_eq_false (by omega)
theorem isNumber_any (n : Int) (w : World) : Calls Try.prog 22 #[.int .i64 n] w fun e w' => e = .returned (.bool (isN n)) ∧ w' = w := by
  by_cases h1 : 0 ≤ n
  · by_cases h2 : n ≤ 65535
    · have HP := Kp.mk (isN_yes h1 h2)
      go_enter Try.func22, Try.ntmps22
      go_wp2_with fail
      go_ret
      exact ⟨by rw [HP.out]; rfl, rfl⟩
    · have HP := Kp.mk (isN_no (n := n) (Or.inr (by omega)))
      go_enter Try.func22, Try.ntmps22
      go_wp2_with fail
      go_ret
      exact ⟨by rw [HP.out]; rfl, rfl⟩
  · have HP := Kp.mk (isN_no (n := n) (Or.inl (by omega)))
    go_enter Try.func22, Try.ntmps22
    go_wp2_with fail
    go_ret
    exact ⟨by rw [HP.out]; rfl, rfl⟩
theorem inbOp_delete {o : Oper} {a : Act} {K : Act → World → Prop} {Q : Exit → Act → World → Prop} {t k : TypeId} {w w' : World} (s x : Operand) (ho : o.op = .call { callee := .builtin .delete, args := #[s, x], argTypes := #[t, k] }) {v u y : Value} (hs : a.eval s = v) (hx : a.eval x = u)
    (hrun : (Builtin.delete_ #[t, k] o.type #[v, u]).run Try.prog w = .ok y w') (h : K (a.put o.dst y) w') : o.wp Try.prog a w K Q := by
  unfold Oper.wp execOp
  simp only [ho, resolve, invoke, builtin, Sem.run_bind, Sem.run_pure, Result.andThen_ok, List.map_toArray, List.map_cons, List.map_nil, hs, hx, hrun]
  exact h
/-- The length that a slice tells. -/
def slN (v : Value) : Nat := match v with | .slice _ n _ => n | _ => 0
def atD (j : Int) (d : Int) (o : OV) (v : Value) : OV := if d = j then some (o.getD v) else o
end Go.Proofs.Ytdhidgcjpeafnaa.Oct
