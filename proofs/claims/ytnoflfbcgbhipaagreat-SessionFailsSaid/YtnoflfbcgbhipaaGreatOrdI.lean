import Derived.Test.YtnoflfbcgbhipaaGreatOrdL
set_option linter.unusedVariables false
namespace Go.Proofs.YtnoflfbcgbhipaaGreat.Oct
open Go.RowKit
theorem outB_by (o : OutV) : By (outB o) := (dg_by _ _).append ((dg_by _ _).append ((dg_by _ _).append (dg_by _ _)))
theorem outsB_by : ∀ os : List OutV, By (os.flatMap outB)
 | [] => By.nil
 | o :: os => by rw [List.flatMap_cons]; exact (outB_by o).append (outsB_by os)
theorem ruleB_by (r : RuleV) (h8 : u8M r.x) : By (ruleB r) := by
 unfold ruleB
 refine (dg_by _ _).append ((dg_by _ _).append ((dg_by _ _).append ((dg_by _ _).append ?_)))
 split
 ·unfold dataB maskB
  refine ((dg_by _ _).append ((dg_by _ _).append ?_)).append ((dg_by _ _).append (outsB_by _))
  exact h8
 ·exact By.nil
theorem bytesO_by (o : OrdV) (h8 : u8M o.r.x) : By (bytesO o).1 := by
 unfold bytesO
 split
 ·unfold ordB restB
  refine (dg_by _ _).append ?_
  repeat' split
  all_goals first | exact By.nil | exact ruleB_by _ h8 | exact dg_by _ _ | exact (dg_by _ _).append (dg_by _ _) | exact (dg_by _ _).append (frm_by 2 _ (by omega) (qB_by _ _ _ _ _))
 ·exact By.nil
end Go.Proofs.YtnoflfbcgbhipaaGreat.Oct
