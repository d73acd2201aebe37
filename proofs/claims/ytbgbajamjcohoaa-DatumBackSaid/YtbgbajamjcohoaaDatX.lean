/- A datum as a parameter: its six numbers. -/
import Derived.Test.YtbgbajamjcohoaaDatP
import Derived.Test.YtbgbajamjcohoaaFlat
namespace Go.Proofs.Ytbgbajamjcohoaa.Oct
open Go.RowKit
set_option linter.unusedVariables false

theorem flat_datum : Frame.Flat Try.prog 25 [.i64, .i64, .i64, .u8, .u8, .u8] := by
  have hi : Frame.Flat Try.prog 3 [.i64] := Frame.flat_int Try.underlying3 (by kernel_rfl)
  have hb : Frame.Flat Try.prog 5 [.u8] := Frame.flat_int Try.underlying5 (by kernel_rfl)
  have hh : Frame.Flat Try.prog 23 [.u8, .u8, .u8] := Frame.flat_array Try.underlying23 hb (by kernel_rfl)
  refine Frame.flat_struct [[.i64], [.i64], [.i64], [.u8, .u8, .u8]] Try.underlying25 (by kernel_rfl) rfl (fun i f ks h1 h2 => ?_)
  match i, h1, h2 with
  | 0, h1, h2 => simp at h1 h2; subst h1 h2; exact ⟨hi, rfl⟩
  | 1, h1, h2 => simp at h1 h2; subst h1 h2; exact ⟨hi, rfl⟩
  | 2, h1, h2 => simp at h1 h2; subst h1 h2; exact ⟨hi, rfl⟩
  | 3, h1, h2 => simp at h1 h2; subst h1 h2; exact ⟨hh, rfl⟩
  | n + 4, h1, h2 => simp at h2

theorem six_of (zs : List Int) (lz : zs.length = 6) (hw : ∀ p ∈ [IntKind.i64, .i64, .i64, .u8, .u8, .u8].zip zs, (Lit.int p.1 p.2).wf = true) :
    ∃ v h i a b c : Int, zs = [v, h, i, a, b, c] ∧ (0 ≤ a ∧ a < 256) ∧ (0 ≤ b ∧ b < 256) ∧ (0 ≤ c ∧ c < 256) ∧ (-9223372036854775808 ≤ v ∧ v < 9223372036854775808) ∧ (-9223372036854775808 ≤ h ∧ h < 9223372036854775808) ∧ (-9223372036854775808 ≤ i ∧ i < 9223372036854775808) := by
  match zs, lz with
  | [v, h, i, a, b, c], _ =>
    simp at hw
    obtain ⟨h1, h2, h3, h4, h5, h6⟩ := hw
    have b1 := Go.bounds_u8 h4
    have b2 := Go.bounds_u8 h5
    have b3 := Go.bounds_u8 h6
    have b4 := Go.bounds_i64 h1
    have b5 := Go.bounds_i64 h2
    have b6 := Go.bounds_i64 h3
    exact ⟨v, h, i, a, b, c, rfl, by omega, by omega, by omega, by omega, by omega, by omega⟩
end Go.Proofs.Ytbgbajamjcohoaa.Oct
