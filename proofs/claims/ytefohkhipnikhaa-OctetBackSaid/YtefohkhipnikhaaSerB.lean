/- The chapter's numbers hold: the function works of the laws of layer 2 answers true. -/
import Derived.Test.YtefohkhipnikhaaSerA
import Derived.WalkSmall
namespace Go.Proofs.Ytefohkhipnikhaa.Ser
open Go.RowKit
set_option linter.unusedVariables false

theorem works_any (w : World) :
    Calls Try.prog 47 #[] w fun e w' => e = .returned (.bool true) ∧ Below w.heap.size w w' := by
  have k1 : (aheadP 65535 2 == 3) = true := by decide
  have k2 : (aheadP 2 65535 == -3) = true := by decide
  have k3 : (aheadP 0 32768 == -32768) = true := by decide
  have k4 : lessP 65535 0 = true := by decide
  have k5 : lessP 0 32768 = false := by decide
  have k6 : (plusP 65535 1 == 0) = true := by decide
  have k7 : (plusP 0 (-1) == 65535) = true := by decide
  have k8 : 0 ≤ atP 65534 4 1 := by decide
  have k9 : atP 65534 4 2 < 0 := by decide
  have k10 : (atP 65534 4 0 == 2) = true := by decide
  go_enter Try.func47, Try.ntmps47
  go_wp2_with (first | (go_at_call 41; refine (ahead_any _ _ _ (by omega) (by omega) (by omega) (by omega)).mono ?_; rintro e w' ⟨rfl, rfl⟩) | (go_at_call 43; refine (less_any _ _ _ (by omega) (by omega) (by omega) (by omega)).mono ?_; rintro e w' ⟨rfl, rfl⟩) | (go_at_call 60; refine (lessS_any _ _ _ (by omega) (by omega) (by omega) (by omega)).mono ?_; rintro e w' ⟨rfl, rfl⟩) | (go_at_call 45; refine (plus_any _ _ _ (by omega) (by omega)).mono ?_; rintro e w' ⟨rfl, rfl⟩) | (go_at_call 61; refine (plusS_any _ _ _ (by omega) (by omega)).mono ?_; rintro e w' ⟨rfl, rfl⟩))
  refine (hasS_any _ _ _ _ (by omega) (by omega) (by omega) (by omega)).mono ?_
  rintro e w1 ⟨rfl, hb1⟩
  have hc1 := hb1.cell (p := ⟨w.heap.size, 0, none⟩) (by simp)
  have hc1' := hb1.cell (p := ⟨w.heap.size, 1, none⟩) (by simp)
  have hz1 := hb1.size
  simp at hz1 hc1 hc1'
  go_wp2_with fail
  refine (hasS_any _ _ _ _ (by omega) (by omega) (by omega) (by omega)).mono ?_
  rintro e w2 ⟨rfl, hb2⟩
  have hc2 := (hb2.cell (p := ⟨w.heap.size, 0, none⟩) (by simp; omega)).trans hc1
  have hc2' := (hb2.cell (p := ⟨w.heap.size, 1, none⟩) (by simp; omega)).trans hc1'
  have hz2 := hb2.size
  go_wp2_with fail
  refine (atS_any _ _ _ _ (by omega) (by omega) (by omega) (by omega)).mono ?_
  rintro e w3 ⟨rfl, hb3⟩
  have hz3 := hb3.size
  go_wp2_with fail
  go_ret
  exact ⟨rfl, (((Below.refl _ _).alloc (Nat.le_refl _) _).trans (hb1.mono (by simp))).trans ((hb2.mono (by omega)).trans (hb3.mono (by omega)))⟩
end Go.Proofs.Ytefohkhipnikhaa.Ser
