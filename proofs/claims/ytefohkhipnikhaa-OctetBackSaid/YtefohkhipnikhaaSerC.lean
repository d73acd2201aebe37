/- The walks of the laws of layer 2 (serial). -/
import Derived.Test.YtefohkhipnikhaaSerB
import Derived.OpenShut
namespace Go.Proofs.Ytefohkhipnikhaa.Ser
open Go.RowKit
set_option linter.unusedVariables false

theorem plusP_bd (a n : Int) : 0 ≤ plusP a n ∧ plusP a n < 65536 := by unfold plusP; omega

theorem two_any (a b n : Int) (w : World) (ha : 0 ≤ a) (ha' : a < 65536) (hb : 0 ≤ b) (hb' : b < 65536) :
    Calls Try.prog 9 #[.int .u16 a, .int .u16 b, .int .i64 n] w fun e w' => e = .returned (.bool true) ∧ Below w.heap.size w w' := by
  have hp := (plusP_bd a n).1
  have hp' := (plusP_bd a n).2
  go_enter Try.func9, Try.ntmps9
  go_wp2_with (first | (go_at_call 41; refine (ahead_any _ _ _ (by omega) (by omega) (by omega) (by omega)).mono ?_; rintro e w' ⟨rfl, rfl⟩) | (go_at_call 43; refine (less_any _ _ _ (by omega) (by omega) (by omega) (by omega)).mono ?_; rintro e w' ⟨rfl, rfl⟩) | (go_at_call 45; refine (plus_any _ _ _ (by omega) (by omega)).mono ?_; rintro e w' ⟨rfl, rfl⟩) | (go_at_call 42; refine (refAhead_any _ _ _ (by omega) (by omega) (by omega) (by omega)).mono ?_; rintro e w' ⟨rfl, rfl⟩) | (go_at_call 44; refine (refLess_any _ _ _ (by omega) (by omega) (by omega) (by omega)).mono ?_; rintro e w' ⟨rfl, rfl⟩) | (go_at_call 46; refine (refPlus_any _ _ _ (by omega) (by omega)).mono ?_; rintro e w' ⟨rfl, rfl⟩) | (go_at_call 47; refine (works_any _).mono ?_; rintro e w' ⟨rfl, hbw⟩))
  go_ret
  exact ⟨rfl, hbw⟩

theorem stretch_any (f n x : Int) (w : World) (hf : 0 ≤ f) (hf' : f < 65536) (hx : 0 ≤ x) (hx' : x < 65536) :
    Calls Try.prog 10 #[.int .u16 f, .int .i64 n, .int .u16 x] w fun e w' => e = .returned (.bool true) ∧ Below w.heap.size w w' := by
  go_enter Try.func10, Try.ntmps10
  go_wp2_with (first | (go_at_call 48; refine (refAt_any _ _ _ _ (by omega) (by omega) (by omega) (by omega)).mono ?_; rintro e w' ⟨rfl, rfl⟩))
  refine (at_any _ _ _ _ (by omega) (by omega) (by omega) (by omega)).mono ?_
  rintro e w1 ⟨rfl, hb1⟩
  have hc1 := hb1.cell (p := ⟨w.heap.size, 0, none⟩) (by simp)
  have hc1' := hb1.cell (p := ⟨w.heap.size, 1, none⟩) (by simp)
  have hz1 := hb1.size
  simp at hz1 hc1 hc1'
  go_wp2_with fail
  refine (has_any _ _ _ _ (by omega) (by omega) (by omega) (by omega)).mono ?_
  rintro e w2 ⟨rfl, hb2⟩
  have hz2 := hb2.size
  go_wp2_with fail
  refine (works_any _).mono ?_
  rintro e w3 ⟨rfl, hb3⟩
  go_wp2_with fail
  go_ret
  exact ⟨rfl, (((Below.refl _ _).alloc (Nat.le_refl _) _).trans (hb1.mono (by simp))).trans ((hb2.mono (by omega)).trans (hb3.mono (by omega)))⟩

theorem wf_u16 {a : Int} (h : (Lit.int .u16 a).wf = true) : 0 ≤ a ∧ a < 65536 := by
  have := Go.bounds_u16 h; omega

theorem SerialTwo_walk (a b n : Int) (w : World) (w0 : (Lit.int .u16 a).wf = true) (w1 : (Lit.int .u16 b).wf = true) (w2 : (Lit.int .i64 n).wf = true) :
    Calls Try.prog 9 #[.int .u16 a, .int .u16 b, .int .i64 n] w fun e w' => e = .returned (.bool true) ∧ Below w.heap.size w w' :=
  two_any a b n w (wf_u16 w0).1 (wf_u16 w0).2 (wf_u16 w1).1 (wf_u16 w1).2
theorem SerialStretch_walk (a n b : Int) (w : World) (w0 : (Lit.int .u16 a).wf = true) (w1 : (Lit.int .i64 n).wf = true) (w2 : (Lit.int .u16 b).wf = true) :
    Calls Try.prog 10 #[.int .u16 a, .int .i64 n, .int .u16 b] w fun e w' => e = .returned (.bool true) ∧ Below w.heap.size w w' :=
  stretch_any a n b w (wf_u16 w0).1 (wf_u16 w0).2 (wf_u16 w2).1 (wf_u16 w2).2
end Go.Proofs.Ytefohkhipnikhaa.Ser
