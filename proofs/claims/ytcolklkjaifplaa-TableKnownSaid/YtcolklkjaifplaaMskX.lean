/- Parameters of layer 7: a mask, two masks, two numbers, a header, two bytes. -/
import Derived.Test.YtcolklkjaifplaaOrdP
import Derived.Test.YtcolklkjaifplaaFlat
namespace Go.Proofs.Ytcolklkjaifplaa.Oct
open Go.RowKit
set_option linter.unusedVariables false

theorem flat_int_ : Frame.Flat Try.prog 3 [.i64] := Frame.flat_int Try.underlying3 (by kernel_rfl)
theorem flat_byte : Frame.Flat Try.prog 5 [.u8] := Frame.flat_int Try.underlying5 (by kernel_rfl)
theorem flat_header : Frame.Flat Try.prog 26 [.u8, .u8, .u8] := Frame.flat_array (n := 3) (ks := [.u8]) Try.underlying26 flat_byte (by kernel_rfl)
theorem flat_mask : Frame.Flat Try.prog 28 [.i64, .i64, .u8, .u8, .u8, .u8, .u8, .u8] := by
  refine Frame.flat_struct [[.i64], [.i64], [.u8, .u8, .u8], [.u8, .u8, .u8]] Try.underlying28 (by kernel_rfl) rfl (fun i f ks h1 h2 => ?_)
  match i, h1, h2 with
  | 0, h1, h2 => simp at h1 h2; subst h1 h2; exact ⟨flat_int_, rfl⟩
  | 1, h1, h2 => simp at h1 h2; subst h1 h2; exact ⟨flat_int_, rfl⟩
  | 2, h1, h2 => simp at h1 h2; subst h1 h2; exact ⟨flat_header, rfl⟩
  | 3, h1, h2 => simp at h1 h2; subst h1 h2; exact ⟨flat_header, rfl⟩
  | n + 4, h1, h2 => simp at h2
theorem wf_byte {n : Int} (h : (Lit.int .u8 n).wf = true) : 0 ≤ n ∧ n < 256 := by have := Go.bounds_u8 h; omega
/-- A mask whose bytes are bytes. -/
def MB (x : MaskV) : Prop := (0 ≤ x.b0 ∧ x.b0 < 256) ∧ (0 ≤ x.b1 ∧ x.b1 < 256) ∧ (0 ≤ x.b2 ∧ x.b2 < 256) ∧ (0 ≤ x.i0 ∧ x.i0 < 256) ∧ (0 ≤ x.i1 ∧ x.i1 < 256) ∧ (0 ≤ x.i2 ∧ x.i2 < 256)
theorem mask_of (zs : List Int) (lz : zs.length = 8) (hw : ∀ p ∈ [IntKind.i64, .i64, .u8, .u8, .u8, .u8, .u8, .u8].zip zs, (Lit.int p.1 p.2).wf = true) :
    ∃ x : MaskV, zs = [x.v, x.m, x.b0, x.b1, x.b2, x.i0, x.i1, x.i2] ∧ MB x := by
  match zs, lz with
  | [v, m, a, b, c, p, q, r], _ =>
    simp at hw
    exact ⟨⟨v, m, a, b, c, p, q, r⟩, rfl, wf_byte hw.2.2.1, wf_byte hw.2.2.2.1, wf_byte hw.2.2.2.2.1, wf_byte hw.2.2.2.2.2.1, wf_byte hw.2.2.2.2.2.2.1, wf_byte hw.2.2.2.2.2.2.2⟩
theorem header_of (zs : List Int) (lz : zs.length = 3) (hw : ∀ p ∈ [IntKind.u8, .u8, .u8].zip zs, (Lit.int p.1 p.2).wf = true) : ∃ a b c : Int, zs = [a, b, c] ∧ (0 ≤ a ∧ a < 256) ∧ (0 ≤ b ∧ b < 256) ∧ (0 ≤ c ∧ c < 256) := by
  match zs, lz with
  | [a, b, c], _ =>
    simp at hw
    exact ⟨a, b, c, rfl, wf_byte hw.1, wf_byte hw.2.1, wf_byte hw.2.2⟩
end Go.Proofs.Ytcolklkjaifplaa.Oct
