/- Contracts of layer 10 (group): sets of ports; slices of ports. -/
import Derived.Test.YtlambnlehomkdaaGrpP
import Derived.Test.YtlambnlehomkdaaOwi
namespace Go.Proofs.Ytlambnlehomkdaa.Oct
open Go.RowKit
set_option linter.unusedVariables false
set_option linter.unusedSimpArgs false

theorem bits_has1 : ∀ s : Fin 32, (bits BinOp.and IntKind.u8 ((s.val : Int) / 2) 1 == 1) = bitG (s.val : Int) 1 := by decide +kernel
theorem bits_with1 : ∀ s : Fin 32, bits BinOp.or IntKind.u8 (s.val : Int) 2 = withG (s.val : Int) 1 := by decide +kernel
theorem bits_out1 : ∀ s : Fin 32, bits BinOp.andNot IntKind.u8 (s.val : Int) 2 = outG (s.val : Int) 1 := by decide +kernel
theorem bits_has2 : ∀ s : Fin 32, (bits BinOp.and IntKind.u8 ((s.val : Int) / 4) 1 == 1) = bitG (s.val : Int) 2 := by decide +kernel
theorem bits_with2 : ∀ s : Fin 32, bits BinOp.or IntKind.u8 (s.val : Int) 4 = withG (s.val : Int) 2 := by decide +kernel
theorem bits_out2 : ∀ s : Fin 32, bits BinOp.andNot IntKind.u8 (s.val : Int) 4 = outG (s.val : Int) 2 := by decide +kernel
theorem bits_has3 : ∀ s : Fin 32, (bits BinOp.and IntKind.u8 ((s.val : Int) / 8) 1 == 1) = bitG (s.val : Int) 3 := by decide +kernel
theorem bits_with3 : ∀ s : Fin 32, bits BinOp.or IntKind.u8 (s.val : Int) 8 = withG (s.val : Int) 3 := by decide +kernel
theorem bits_out3 : ∀ s : Fin 32, bits BinOp.andNot IntKind.u8 (s.val : Int) 8 = outG (s.val : Int) 3 := by decide +kernel
theorem bits_has4 : ∀ s : Fin 32, (bits BinOp.and IntKind.u8 ((s.val : Int) / 16) 1 == 1) = bitG (s.val : Int) 4 := by decide +kernel
theorem bits_with4 : ∀ s : Fin 32, bits BinOp.or IntKind.u8 (s.val : Int) 16 = withG (s.val : Int) 4 := by decide +kernel
theorem bits_out4 : ∀ s : Fin 32, bits BinOp.andNot IntKind.u8 (s.val : Int) 16 = outG (s.val : Int) 4 := by decide +kernel
theorem set_has {s p : Int} (hs : Sg s) (hp : 1 ≤ p ∧ p ≤ 4) (w : World) : Calls Try.prog 90 #[.int .u8 s, .int .i64 p] w fun e w' => e = .returned (.bool (bitG s p)) ∧ w' = w := by
  obtain ⟨k, rfl⟩ := sg_fin hs
  have t1 := Kp.mk (bits_has1 k)
  have t2 := Kp.mk (bits_has2 k)
  have t3 := Kp.mk (bits_has3 k)
  have t4 := Kp.mk (bits_has4 k)
  rcases portCases hp with rfl | rfl | rfl | rfl
  · go_enter Try.func90, Try.ntmps90
    go_wp2_with fail
    go_ret
    exact ⟨by rw [← t1.out]; rfl, rfl⟩
  · go_enter Try.func90, Try.ntmps90
    go_wp2_with fail
    go_ret
    exact ⟨by rw [← t2.out]; rfl, rfl⟩
  · go_enter Try.func90, Try.ntmps90
    go_wp2_with fail
    go_ret
    exact ⟨by rw [← t3.out]; rfl, rfl⟩
  · go_enter Try.func90, Try.ntmps90
    go_wp2_with fail
    go_ret
    exact ⟨by rw [← t4.out]; rfl, rfl⟩
theorem set_with {s p : Int} (hs : Sg s) (hp : 1 ≤ p ∧ p ≤ 4) (w : World) : Calls Try.prog 91 #[.int .u8 s, .int .i64 p] w fun e w' => e = .returned (.int .u8 (withG s p)) ∧ w' = w := by
  obtain ⟨k, rfl⟩ := sg_fin hs
  have t1 := Kp.mk (bits_with1 k)
  have t2 := Kp.mk (bits_with2 k)
  have t3 := Kp.mk (bits_with3 k)
  have t4 := Kp.mk (bits_with4 k)
  rcases portCases hp with rfl | rfl | rfl | rfl
  · go_enter Try.func91, Try.ntmps91
    go_wp2_with fail
    go_ret
    exact ⟨by rw [← t1.out]; rfl, rfl⟩
  · go_enter Try.func91, Try.ntmps91
    go_wp2_with fail
    go_ret
    exact ⟨by rw [← t2.out]; rfl, rfl⟩
  · go_enter Try.func91, Try.ntmps91
    go_wp2_with fail
    go_ret
    exact ⟨by rw [← t3.out]; rfl, rfl⟩
  · go_enter Try.func91, Try.ntmps91
    go_wp2_with fail
    go_ret
    exact ⟨by rw [← t4.out]; rfl, rfl⟩
theorem set_out {s p : Int} (hs : Sg s) (hp : 1 ≤ p ∧ p ≤ 4) (w : World) : Calls Try.prog 95 #[.int .u8 s, .int .i64 p] w fun e w' => e = .returned (.int .u8 (outG s p)) ∧ w' = w := by
  obtain ⟨k, rfl⟩ := sg_fin hs
  have t1 := Kp.mk (bits_out1 k)
  have t2 := Kp.mk (bits_out2 k)
  have t3 := Kp.mk (bits_out3 k)
  have t4 := Kp.mk (bits_out4 k)
  rcases portCases hp with rfl | rfl | rfl | rfl
  · go_enter Try.func95, Try.ntmps95
    go_wp2_with fail
    go_ret
    exact ⟨by rw [← t1.out]; rfl, rfl⟩
  · go_enter Try.func95, Try.ntmps95
    go_wp2_with fail
    go_ret
    exact ⟨by rw [← t2.out]; rfl, rfl⟩
  · go_enter Try.func95, Try.ntmps95
    go_wp2_with fail
    go_ret
    exact ⟨by rw [← t3.out]; rfl, rfl⟩
  · go_enter Try.func95, Try.ntmps95
    go_wp2_with fail
    go_ret
    exact ⟨by rw [← t4.out]; rfl, rfl⟩
end Go.Proofs.Ytlambnlehomkdaa.Oct
