/- Contracts of layer 12 (graph): Check, Peer, Ports, beside. -/
import Derived.Test.YtlmonnggklfniaaGraC
namespace Go.Proofs.Ytlmonnggklfniaa.Oct
open Go.RowKit
set_option linter.unusedVariables false
set_option linter.unusedSimpArgs false

/-- What Check answers. -/
def chkP (S : Int) (ls : List Lk) : Int := if (endsP S ls).isSome then 0 else 2
set_option maxRecDepth 100000 in
theorem gCheck_any {w : World} {B n c : Nat} {A : Option Addr} {ls : List Lk} (h : Lr w B A n c ls) (hB : B ≤ w.heap.size) (S : Int) : Calls Try.prog 11 #[grV S A n c] w fun e w' => e = .returned (.int .i64 (chkP S ls)) ∧ Below w.heap.size w w' := by
  have hb0 := below_alloc w (.cells #[.int .i64 S, .slice A n c] 24)
  have hc := ends_any (h.below' hb0 hB) (by simp; omega) S
  have HB := Kp.mk hb0
  clear h hB hb0
  have HC := Kp.mk (show chkP S ls = if (endsP S ls).isSome then 0 else 2 from rfl)
  generalize endsP S ls = r at *
  go_enter Try.func11, Try.ntmps11
  go_wp2_with fail
  refine hc.mono ?_
  rintro e w2 ⟨he, hb2⟩
  have HB2 := Kp.mk (HB.out.trans (hb2.mono (by simp)))
  clear hb2 hc
  cases r with
  | none =>
    obtain rfl := he
    go_wp2_with fail
    go_ret
    exact ⟨by rw [HC.out]; rfl, HB2.out⟩
  | some es =>
    obtain ⟨b, rfl, _, _⟩ := he
    go_wp2_with fail
    go_ret
    exact ⟨by rw [HC.out]; rfl, HB2.out⟩
/-- What Peer answers. -/
def PeerIs (r : Option ((Int × Int) × Int)) (e : Ending) : Prop := match r with
  | none => e = .returned (.tuple #[.agg #[.int .i64 0, .int .i64 0], .int .i64 0, .bool false])
  | some v => e = .returned (.tuple #[.agg #[.int .i64 v.1.1, .int .i64 v.1.2], .int .i64 v.2, .bool true])
theorem PeerIs.of {r : Option ((Int × Int) × Int)} {x y i : Int} {is : Bool} (h : match r with | none => x = 0 ∧ y = 0 ∧ i = 0 ∧ is = false | some v => x = v.1.1 ∧ y = v.1.2 ∧ i = v.2 ∧ is = true) : PeerIs r (.returned (.tuple #[.agg #[.int .i64 x, .int .i64 y], .int .i64 i, .bool is])) := by
  cases r with
  | none => obtain ⟨rfl, rfl, rfl, rfl⟩ := h; rfl
  | some v => obtain ⟨rfl, rfl, rfl, rfl⟩ := h; rfl
set_option maxRecDepth 100000 in
theorem gPeer_any {w : World} {B n c : Nat} {A : Option Addr} {ls : List Lk} (h : Lr w B A n c ls) (hB : B ≤ w.heap.size) (S a p : Int) : Calls Try.prog 8 #[grV S A n c, .agg #[.int .i64 a, .int .i64 p]] w fun e w' => PeerIs (peerP S ls (a, p)) e ∧ Below w.heap.size w w' := by
  have hb0 := (below_two w (.cells #[.int .i64 S, .slice A n c] 24) (.cells #[.int .i64 a, .int .i64 p] 26)).alloc (by simp; omega) (.cells #[.int .i64 0, .int .i64 0] 26)
  have hc := ends_any (h.below' hb0 hB) (by simp; omega) S
  have HB := Kp.mk hb0
  clear h hB hb0
  have hv1 : Vb 26 (((w.alloc (.cells #[.int .i64 S, .slice A n c] 24)).alloc (.cells #[.int .i64 a, .int .i64 p] 26)).alloc (.cells #[.int .i64 0, .int .i64 0] 26)) (w.heap.size + 1) [.int .i64 a, .int .i64 p] := by
    have := (Vb.new 26 (w.alloc (.cells #[.int .i64 S, .slice A n c] 24)) [.int .i64 a, .int .i64 p]).alloc (.cells #[.int .i64 0, .int .i64 0] 26)
    rwa [World.size_alloc] at this
  have hv2 : Vb 26 (((w.alloc (.cells #[.int .i64 S, .slice A n c] 24)).alloc (.cells #[.int .i64 a, .int .i64 p] 26)).alloc (.cells #[.int .i64 0, .int .i64 0] 26)) (w.heap.size + 1 + 1) [.int .i64 0, .int .i64 0] := by
    have := (Vb.new 26 ((w.alloc (.cells #[.int .i64 S, .slice A n c] 24)).alloc (.cells #[.int .i64 a, .int .i64 p] 26)) [.int .i64 0, .int .i64 0])
    rwa [World.size_alloc, World.size_alloc] at this
  have HV := Kp.mk (And.intro hv1 hv2)
  clear hv1 hv2
  have HC := Kp.mk (show peerP S ls (a, p) = (endsP S ls).bind fun es => fnd es (a, p) from rfl)
  generalize endsP S ls = r at *
  go_enter Try.func8, Try.ntmps8
  go_wp2_with fail
  refine hc.mono ?_
  rintro e w2 ⟨he, hb2⟩
  have hv1 := HV.out.1.below hb2 HV.out.1.lt
  have hv2 := HV.out.2.below hb2 HV.out.2.lt
  have HB2 := Kp.mk (HB.out.trans (hb2.mono (by simp; omega)))
  have hlt := hv2.lt
  have d0 := hv1.cell 0 rfl
  have d1 := hv1.cell 1 rfl
  obtain ⟨m, k, is, x, y, i, he', hlk, HE⟩ : ∃ (m : Option Nat) (k is : Bool) (x y i : Int), e = .returned (.tuple #[.map m, .bool k]) ∧ (Instr.lookup 47 (.map m) (.agg #[.int .i64 a, .int .i64 p]) true).run Try.prog w2 = .ok (.tuple #[.agg #[.int .i64 x, .int .i64 y, .int .i64 i], .bool is]) w2 ∧
      Kp (match peerP S ls (a, p) with | none => x = 0 ∧ y = 0 ∧ i = 0 ∧ is = false | some v => x = v.1.1 ∧ y = v.1.2 ∧ i = v.2 ∧ is = true) := by
    cases r with
    | none => exact ⟨none, false, false, 0, 0, 0, he, run_lookN w2 (a, p), ⟨by rw [show peerP S ls (a, p) = none from HC.out]; exact ⟨rfl, rfl, rfl, rfl⟩⟩⟩
    | some es =>
      obtain ⟨b, he, _, hm⟩ := he
      have hl := run_lookG hm (a, p)
      have hp : peerP S ls (a, p) = fnd es (a, p) := HC.out
      cases hf : fnd es (a, p) with
      | none => rw [hf] at hl hp; exact ⟨some b, true, false, 0, 0, 0, he, hl, ⟨by rw [hp]; exact ⟨rfl, rfl, rfl, rfl⟩⟩⟩
      | some v => rw [hf] at hl hp; exact ⟨some b, true, true, v.1.1, v.1.2, v.2, he, hl, ⟨by rw [hp]; exact ⟨rfl, rfl, rfl, rfl⟩⟩⟩
  subst he'
  clear hb2 hc HB HV he HC
  go_wp2_with fail
  have hv5 : Vb 51 (w2.alloc (.cells #[.int .i64 x, .int .i64 y, .int .i64 i] 51)) w2.heap.size [.int .i64 x, .int .i64 y, .int .i64 i] := Vb.new 51 w2 [.int .i64 x, .int .i64 y, .int .i64 i]
  have hv6 := hv2.alloc (.cells #[.int .i64 x, .int .i64 y, .int .i64 i] 51)
  have hb6 := HB2.out.trans ((below_alloc w2 (.cells #[.int .i64 x, .int .i64 y, .int .i64 i] 51)).mono HB2.out.size)
  have hne := vb_ne hv5 hv6 (by decide)
  obtain ⟨g, hg⟩ : ∃ g, g = w2.heap.size := ⟨_, rfl⟩
  rw [← hg] at hv5 hne ⊢
  generalize w2.alloc (.cells #[.int .i64 x, .int .i64 y, .int .i64 i] 51) = w3 at *
  have HZ := Kp.mk (And.intro hv6 hb6)
  have e0 := hv5.cell 0 rfl
  have e1 := hv5.cell 1 rfl
  have e2 := hv5.cell 2 rfl
  have f0 := hv6.free 0
  have f1 := hv6.free 1
  have c0 := hv6.cell 0 rfl
  have c1 := hv6.cell 1 rfl
  clear hv1 hv2 hlk d0 d1 HB2 hg hlt hb6 hv5 hv6
  go_region
  have hv7 : Vb 26 ((w3.setCell ⟨w.heap.size + 1 + 1, 0, none⟩ (.int .i64 x)).setCell ⟨w.heap.size + 1 + 1, 1, none⟩ (.int .i64 y)).drew (w.heap.size + 1 + 1) [.int .i64 x, .int .i64 y] := (HZ.out.1.set 0 (.int .i64 x)).set 1 (.int .i64 y)
  have hz : w.heap.size ≤ w3.heap.size := HZ.out.2.size
  have hb8 := below_drewN (below_grown (below_grown HZ.out.2 (grownBy_set w3 (w.heap.size + 1 + 1) 0 (.int .i64 x)) hz (by omega)) (grownBy_set _ (w.heap.size + 1 + 1) 1 (.int .i64 y)) (by simp; omega) (by omega)) 1
  have g0 := hv7.cell 0 rfl
  have g1 := hv7.cell 1 rfl
  have HF := Kp.mk hb8
  clear hb8 hv7 HZ
  go_wp2_with fail
  refine bodyPost_ret (v := .tuple #[.agg #[.int .i64 x, .int .i64 y], .int .i64 i, .bool is]) (by simp [results, Try.results8, go_sem, g0, g1]) rfl ?_
  exact ⟨PeerIs.of HE.out, HF.out⟩
end Go.Proofs.Ytlmonnggklfniaa.Oct
