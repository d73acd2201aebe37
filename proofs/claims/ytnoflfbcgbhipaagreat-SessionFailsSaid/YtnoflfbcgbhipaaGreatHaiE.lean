import Derived.Test.YtnoflfbcgbhipaaGreatHaiD
import Derived.LoopN
set_option linter.unusedSimpArgs false
set_option linter.unusedVariables false
namespace Go.Proofs.YtnoflfbcgbhipaaGreat.Oct
open Go.RowKit
structure CG (W w : World) (c g : Nat) (tz e b q sf bo E : Int) : Prop where
 cb : Cb w c tz e b q
 gb : Gb w g sf bo E
 cn : W.heap.size ≤ c
 gn : W.heap.size ≤ g
 hq : q = 1 ∨ q = 2 ∨ q = 3
 hs : sf ≠ 0
 old : Below W.heap.size W w
section
variable {W w w' : World} {c g : Nat} {tz e b q sf bo E : Int}
theorem CG.ne (h : CG W w c g tz e b q sf bo E) : c ≠ g := vb_ne h.cb h.gb (by decide)
theorem CG.below (h : CG W w c g tz e b q sf bo E) (hb : Below w.heap.size w w') : CG W w' c g tz e b q sf bo E := ⟨h.cb.below hb, h.gb.below hb, h.cn, h.gn, h.hq, h.hs, h.old.trans (hb.mono h.old.size)⟩
theorem qC_ok {x : Sv} (hq : q = 1 ∨ q = 2 ∨ q = 3) : qC x tz e q = 1 ∨ qC x tz e q = 2 ∨ qC x tz e q = 3 := by
 unfold qC
 rcases hq with rfl | rfl | rfl
 ·split <;> omega
 ·split <;> omega
 ·have : goC x tz e 3 = false := by simp [goC]
  rw [this]
  simp
end
section
variable {tz e b q sf bo E : Int}
end
section
variable {W w w' : World} {c g : Nat} {tz e b q sf bo E : Int}
end
end Go.Proofs.YtnoflfbcgbhipaaGreat.Oct
