/- Whether two data are alike, as Go asks it. -/
import Derived.Test.YtbgbajamjcohoaaDatD
import Derived.ChangeKeysEq
namespace Go.Proofs.Ytbgbajamjcohoaa.Oct
open Go.RowKit
set_option linter.unusedVariables false

theorem eq_header (a b c x y z : Int) (w : World) :
    (Op.equalIn 9999 23 (.agg #[.int .u8 a, .int .u8 b, .int .u8 c]) (.agg #[.int .u8 x, .int .u8 y, .int .u8 z])).run Try.prog w = .ok (a == x && (b == y && c == z)) w := by
  obtain ⟨i0, hi, hz0, hz1, hz2⟩ := info_parts info_u8
  have hc : Try.prog.cellsOf 5 = 1 := by kernel_rfl
  have hp : Try.prog.plainKey 5 = true := by kernel_rfl
  have hq : ∀ (p q : Int), (Op.equalIn 9998 5 (.int .u8 p) (.int .u8 q)).run Try.prog w = .ok (p == q) w := fun p q => run_equalIn_int w 9997 _ _ _ p q Try.underlying5
  rw [show (9999 : Nat) = 9998 + 1 from rfl, run_equalIn_array w 9998 _ _ Try.underlying23 hi, hc, show List.range 3 = [0, 1, 2] from rfl]
  have p0 : ∀ (u v t : Value), (part 5 #[u, v, t] 0).run Try.prog w = .ok u w := fun u v t => run_part_plain w hp rfl
  have p1 : ∀ (u v t : Value), (part 5 #[u, v, t] 1).run Try.prog w = .ok v w := fun u v t => run_part_plain w hp rfl
  have p2 : ∀ (u v t : Value), (part 5 #[u, v, t] 2).run Try.prog w = .ok t w := fun u v t => run_part_plain w hp rfl
  by_cases e1 : a == x
  · by_cases e2 : b == y
    · by_cases e3 : c == z
      · simp [Op.eqItems, p0, p1, p2, hq, e1, e2, e3]
      · simp [Op.eqItems, p0, p1, p2, hq, e1, e2, e3]
    · simp [Op.eqItems, p0, p1, hq, e1, e2]
  · simp [Op.eqItems, p0, hq, e1]
theorem same_header (a b c : Int) (w : World) :
    (Op.equalIn 9999 23 (.agg #[.int .u8 a, .int .u8 b, .int .u8 c]) (.agg #[.int .u8 a, .int .u8 b, .int .u8 c])).run Try.prog w = .ok true w := by
  rw [eq_header]; simp
end Go.Proofs.Ytbgbajamjcohoaa.Oct
