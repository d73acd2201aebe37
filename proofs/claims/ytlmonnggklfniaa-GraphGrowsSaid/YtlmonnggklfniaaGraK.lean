/- Contracts of layer 12 (graph): the document's end, shares, Check. -/
import Derived.Test.YtlmonnggklfniaaGraD
namespace Go.Proofs.Ytlmonnggklfniaa.Oct
open Go.RowKit
set_option linter.unusedVariables false
set_option linter.unusedSimpArgs false

set_option maxRecDepth 100000 in
theorem refEnd_any (S a p : Int) (A : Option Addr) (n c : Nat) (w : World) : Calls Try.prog 25 #[grV S A n c, .agg #[.int .i64 a, .int .i64 p]] w fun e w' => e = .returned (.bool (endOk S (a, p))) ∧ Below w.heap.size w w' := by
  have hb2 := Kp.mk (below_two w (.cells #[.int .i64 S, .slice A n c] 24) (.cells #[.int .i64 a, .int .i64 p] 26))
  have HP := Kp.mk (endOk_two S a p)
  by_cases h1 : 1 ≤ a
  · by_cases h2 : a ≤ S
    · by_cases h3 : 1 ≤ p
      · by_cases h4 : p ≤ 4
        · have HQ := Kp.mk (show endOk S (a, p) = true by rw [HP.out, show swOk S a = true from decide_eq_true ⟨h1, h2⟩, show ptOk p = true from decide_eq_true ⟨h3, h4⟩]; rfl)
          go_enter Try.func25, Try.ntmps25
          go_wp2_with fail
          go_ret
          exact ⟨by rw [HQ.out]; rfl, hb2.out⟩
        · have HQ := Kp.mk (show endOk S (a, p) = false by rw [HP.out, show ptOk p = false from decide_eq_false (fun h => h4 h.2), Bool.and_false])
          have hd : decide (p ≤ 4) = false := decide_eq_false h4
          clear h4
          go_enter Try.func25, Try.ntmps25
          go_wp2_with fail
          go_ret
          exact ⟨by rw [HQ.out]; rfl, hb2.out⟩
      · have HQ := Kp.mk (show endOk S (a, p) = false by rw [HP.out, show ptOk p = false from decide_eq_false (fun h => h3 h.1), Bool.and_false])
        go_enter Try.func25, Try.ntmps25
        go_wp2_with fail
        go_ret
        exact ⟨by rw [HQ.out]; rfl, hb2.out⟩
    · have HQ := Kp.mk (show endOk S (a, p) = false by rw [HP.out, show swOk S a = false from decide_eq_false (fun h => h2 h.2), Bool.false_and])
      go_enter Try.func25, Try.ntmps25
      go_wp2_with fail
      go_ret
      exact ⟨by rw [HQ.out]; rfl, hb2.out⟩
  · have HQ := Kp.mk (show endOk S (a, p) = false by rw [HP.out, show swOk S a = false from decide_eq_false (fun h => h1 h.1), Bool.false_and])
    go_enter Try.func25, Try.ntmps25
    go_wp2_with fail
    go_ret
    exact ⟨by rw [HQ.out]; rfl, hb2.out⟩

theorem shares_two (x y : Lk) : sharesP x y = (decide (x.A = y.A) || (decide (x.A = y.B) || (decide (x.B = y.A) || decide (x.B = y.B)))) := by
  unfold sharesP
  simp
set_option maxRecDepth 100000 in
theorem refShares_any (a p b q c r d t : Int) (w : World) : Calls Try.prog 26 #[.agg #[.int .i64 a, .int .i64 p, .int .i64 b, .int .i64 q], .agg #[.int .i64 c, .int .i64 r, .int .i64 d, .int .i64 t]] w fun e w' => e = .returned (.bool (sharesP ⟨a, p, b, q⟩ ⟨c, r, d, t⟩)) ∧ Below w.heap.size w w' := by
  have hb2 := Kp.mk (below_two w (.cells #[.int .i64 a, .int .i64 p, .int .i64 b, .int .i64 q] 43) (.cells #[.int .i64 c, .int .i64 r, .int .i64 d, .int .i64 t] 43))
  have HP := Kp.mk (show sharesP ⟨a, p, b, q⟩ ⟨c, r, d, t⟩ = (decide ((a, p) = (c, r)) || (decide ((a, p) = (d, t)) || (decide ((b, q) = (c, r)) || decide ((b, q) = (d, t))))) from shares_two ⟨a, p, b, q⟩ ⟨c, r, d, t⟩)
  have e1 := fun w => eq_end a p c r w
  have e2 := fun w => eq_end a p d t w
  have e3 := fun w => eq_end b q c r w
  have e4 := fun w => eq_end b q d t w
  generalize decide ((a, p) = (c, r)) = b1 at *
  generalize decide ((a, p) = (d, t)) = b2 at *
  generalize decide ((b, q) = (c, r)) = b3 at *
  generalize decide ((b, q) = (d, t)) = b4 at *
  cases b1 with
  | true =>
    go_enter Try.func26, Try.ntmps26
    go_wp2_with fail
    go_ret
    exact ⟨by rw [HP.out]; rfl, hb2.out⟩
  | false =>
    cases b2 with
    | true =>
      go_enter Try.func26, Try.ntmps26
      go_wp2_with fail
      go_ret
      exact ⟨by rw [HP.out]; rfl, hb2.out⟩
    | false =>
      cases b3 with
      | true =>
        go_enter Try.func26, Try.ntmps26
        go_wp2_with fail
        go_ret
        exact ⟨by rw [HP.out]; rfl, hb2.out⟩
      | false =>
        go_enter Try.func26, Try.ntmps26
        go_wp2_with fail
        go_ret
        exact ⟨by rw [HP.out]; rfl, hb2.out⟩
end Go.Proofs.Ytlmonnggklfniaa.Oct
