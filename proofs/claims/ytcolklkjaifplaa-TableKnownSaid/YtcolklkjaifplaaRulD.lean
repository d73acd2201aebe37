/- Contracts of layer 8: what a rule does. -/
import Derived.Test.YtcolklkjaifplaaRulC
namespace Go.Proofs.Ytcolklkjaifplaa.Oct
open Go.RowKit
set_option linter.unusedVariables false
set_option linter.unusedSimpArgs false

/-- A field, of which an output says v. -/
def putB (v h : Int) : Int := if v = -1 then h else v % 256
/-- What an output makes of a header. -/
def sentP (o : OutV) (a b c : Int) : OutV := ⟨o.p, putB o.a a, putB o.b b, putB o.c c⟩
instance decOut : DecidableEq OutV := fun a b => decidable_of_iff (eqSB a b = true) (eqSB_iff a b)
theorem putB_y {v h : Int} (e : v = -1) : putB v h = h := if_pos e
theorem putB_n {v h : Int} (e : ¬ v = -1) : putB v h = v % 256 := if_neg e
theorem nem_t {v : Int} (h : ¬ v = -1) : (v != -1) = true := by simpa using h
theorem nem_f {v : Int} (h : v = -1) : (v != -1) = false := by simp [h]
theorem index3 (a b c : Int) (w : World) : (Instr.index 91 (.agg #[.int .i64 a, .int .i64 b, .int .i64 c]) (.int .i64 0)).run Try.prog w = .ok (.int .i64 a) w ∧ (Instr.index 91 (.agg #[.int .i64 a, .int .i64 b, .int .i64 c]) (.int .i64 1)).run Try.prog w = .ok (.int .i64 b) w ∧ (Instr.index 91 (.agg #[.int .i64 a, .int .i64 b, .int .i64 c]) (.int .i64 2)).run Try.prog w = .ok (.int .i64 c) w := by
  have hi0 : (Try.prog.info? 3).map (fun i => (i.zero, i.size, i.bytes)) = some (some (.int .i64 0), 1, 8) := by kernel_rfl
  obtain ⟨i0, hi, hz0, hz1, hz2⟩ := info_parts hi0
  have hp : Try.prog.plainKey 3 = true := by kernel_rfl
  have p0 : ∀ (u v t : Value), (part 3 #[u, v, t] 0).run Try.prog w = .ok u w := fun u v t => run_part_plain w hp rfl
  have p1 : ∀ (u v t : Value), (part 3 #[u, v, t] 1).run Try.prog w = .ok v w := fun u v t => run_part_plain w hp rfl
  have p2 : ∀ (u v t : Value), (part 3 #[u, v, t] 2).run Try.prog w = .ok t w := fun u v t => run_part_plain w hp rfl
  have hu := run_underlying (P := Try.prog) Try.underlying91 w
  have hs : (sizeOf 3).run Try.prog w = .ok 1 w := by simp [sizeOf, typeInfo, hi, hz1]
  refine ⟨?_, ?_, ?_⟩ <;> simp [Instr.index, asIntOf, Sem.run_bind, hu, hs, p0, p1, p2]
end Go.Proofs.Ytcolklkjaifplaa.Oct
