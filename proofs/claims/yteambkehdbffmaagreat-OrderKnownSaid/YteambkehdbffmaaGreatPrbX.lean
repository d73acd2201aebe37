/- A probe as a parameter: its five numbers. -/
import Derived.Test.YteambkehdbffmaaGreatDatP
import Derived.Test.YteambkehdbffmaaGreatFlat
namespace Go.Proofs.YteambkehdbffmaaGreat.Oct
open Go.RowKit
set_option linter.unusedVariables false

theorem flat_probe : Frame.Flat Tryz.prog 34 [.i64, .i64, .i64, .i64, .i64] := by
  have hi : Frame.Flat Tryz.prog 3 [.i64] := Frame.flat_int Tryz.underlying3 (by kernel_rfl)
  refine Frame.flat_struct [[.i64], [.i64], [.i64], [.i64], [.i64]] Tryz.underlying34 (by kernel_rfl) rfl (fun i f ks h1 h2 => ?_)
  match i, h1, h2 with
  | 0, h1, h2 => simp at h1 h2; subst h1 h2; exact ⟨hi, rfl⟩
  | 1, h1, h2 => simp at h1 h2; subst h1 h2; exact ⟨hi, rfl⟩
  | 2, h1, h2 => simp at h1 h2; subst h1 h2; exact ⟨hi, rfl⟩
  | 3, h1, h2 => simp at h1 h2; subst h1 h2; exact ⟨hi, rfl⟩
  | 4, h1, h2 => simp at h1 h2; subst h1 h2; exact ⟨hi, rfl⟩
  | n + 5, h1, h2 => simp at h2

theorem five_of (zs : List Int) (lz : zs.length = 5) (hw : ∀ p ∈ [IntKind.i64, .i64, .i64, .i64, .i64].zip zs, (Lit.int p.1 p.2).wf = true) :
    ∃ f p t q n : Int, zs = [f, p, t, q, n] ∧ (-9223372036854775808 ≤ t ∧ t < 9223372036854775808) := by
  match zs, lz with
  | [f, p, t, q, n], _ =>
    simp at hw
    exact ⟨f, p, t, q, n, rfl, by have := Go.bounds_i64 hw.2.2.1; omega⟩
end Go.Proofs.YteambkehdbffmaaGreat.Oct
