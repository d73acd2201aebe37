/- Contracts of layer 12 (graph): the document's Ports. -/
import Derived.Test.YtlmonnggklfniaaGraM
namespace Go.Proofs.Ytlmonnggklfniaa.Oct
open Go.RowKit
set_option linter.unusedVariables false
set_option linter.unusedSimpArgs false

theorem oi_vbg {w w' : World} {base n g : Nat} {v : Value} {l : List Int} {T : TypeId} {cs : List Value} (h : Oi w base v n l) (hv : Vb T w g cs) (hT : T ≠ 3) (hg : w.grownBy w' v.ownBlock) : Vb T w' g cs := by
  refine (hg.block g hv.lt (fun e => ?_)).trans hv
  rcases h.2 with ⟨rfl, _⟩ | ⟨k, cap, cur, rfl, hbg, hk, _⟩
  · simp [Value.ownBlock] at e
  · have e : g = k := by simpa [Value.ownBlock] using e
    subst e
    rw [show w.heap[g]? = _ from hv] at hk
    have hk := Option.some.inj hk
    injection hk with _ h2 _
    exact hT h2
set_option maxRecDepth 100000 in
set_option maxHeartbeats 1000000 in
theorem refPorts_any {w : World} {B n c : Nat} {A : Option Addr} {ls : List Lk} (h : Lr w B A n c ls) (hB : B ≤ w.heap.size) (S s : Int) : Calls Try.prog 14 #[grV S A n c, .int .i64 s] w fun e w' => ∃ v, e = .returned v ∧ (∃ m, Oi w' w.heap.size v m (portsP S ls s)) ∧ Below w.heap.size w w' := by
  have hb0 := below_alloc w (.cells #[.int .i64 S, .slice A n c] 24)
  have hg0 : Vb 24 (w.alloc (.cells #[.int .i64 S, .slice A n c] 24)) w.heap.size [.int .i64 S, .slice A n c] := Vb.new 24 w [.int .i64 S, .slice A n c]
  have H := Kp.mk (And.intro h hB)
  have HZ := Kp.mk (And.intro hg0 hb0)
  clear h hB hg0 hb0
  go_enter Try.func14, Try.ntmps14
  go_wp2_with fail
  go_loopw [5, 6] (fun s5 s6 wr => ∃ (k q : Nat), s6 = .int .i64 ((k : Int) + 1) ∧ k ≤ 4 ∧ Kp (Oi wr w.heap.size s5 q (portsTo S ls s k) ∧ Vb 24 wr w.heap.size [.int .i64 S, .slice A n c] ∧ Below w.heap.size w wr)) (fun _ s6 _ => 5 - (intOf s6).toNat)
  case atStart => exact ⟨0, 0, rfl, Nat.zero_le _, Kp.mk ⟨Oi.nil _ _, HZ.out.1, HZ.out.2⟩⟩
  case round =>
    clear HZ
    obtain ⟨k, q, rfl, hk, HK⟩ := hrel
    obtain ⟨hO, hg, hB⟩ := HK.out
    have g0 := hg.cell 0 rfl
    have g1 := hg.cell 1 rfl
    by_cases hlt : k < 4
    · have hcP := refPeer_any (H.out.1.below' hB H.out.2) (by have := H.out.2; have := hB.size; omega) S s ((k : Int) + 1)
      have HS := Kp.mk (ports_step (S := S) (ls := ls) (s := s) hlt)
      have HQ := Kp.mk (show q ≤ 4 by have := ports_len S ls s k; have := hO.len; omega)
      have hlt1 : (k : Int) + 1 ≤ 4 := by omega
      have HV := Kp.mk (And.intro hO (And.intro hg hB))
      clear hO hg hB HK
      go_wp2_with fail
      refine hcP.mono ?_
      rintro e w2 ⟨hP, hb2⟩
      have hO2 := HV.out.1.below hb2
      have hg2 := HV.out.2.1.below hb2 HV.out.2.1.lt
      have hB2 := HV.out.2.2.trans (hb2.mono HV.out.2.2.size)
      clear g0 g1 hcP hb2
      cases hf : peerP S ls (s, (k : Int) + 1) with
      | none =>
        rw [hf] at hP
        obtain rfl := hP
        have HS2 := Kp.mk (show portsTo S ls s (k + 1) = portsTo S ls s k by rw [HS.out, hf]; simp)
        have HN := Kp.mk (And.intro (hO2.alloc (.cells #[.int .i64 0, .int .i64 0] 26)) (And.intro (hg2.alloc (.cells #[.int .i64 0, .int .i64 0] 26)) (hB2.alloc hB2.size (.cells #[.int .i64 0, .int .i64 0] 26))))
        clear hf HS hO2 hg2 hB2
        go_wp2_with fail
        go_roundw
        case rel => exact ⟨k + 1, q, by go_num, by omega, Kp.mk ⟨by rw [HS2.out]; exact HN.out.1, HN.out.2.1, HN.out.2.2⟩⟩
        case measure => simp [intOf]; omega
      | some v =>
        obtain ⟨⟨x, y⟩, i⟩ := v
        rw [hf] at hP
        obtain rfl := hP
        have HS2 := Kp.mk (show portsTo S ls s (k + 1) = portsTo S ls s k ++ [(k : Int) + 1] by rw [HS.out, hf]; simp)
        have hO5 := hO2.alloc (.cells #[.int .i64 x, .int .i64 y] 26)
        have hg5 := hg2.alloc (.cells #[.int .i64 x, .int .i64 y] 26)
        have hB5 := hB2.alloc hB2.size (.cells #[.int .i64 x, .int .i64 y] 26)
        clear hf HS hO2 hg2 hB2
        go_upto_region 7 with fail
        generalize w2.alloc (.cells #[.int .i64 x, .int .i64 y] 26) = w5 at *
        obtain ⟨A7, c7, w7, hrun, hO7, hb7, hg7, hN7⟩ := app1 29 hO5 hB5.size (by have := HQ.out; omega) ((k : Int) + 1)
        have hgg7 := oi_vbg hO5 hg5 (by decide) hg7
        have HN := Kp.mk (And.intro hO7 (And.intro hgg7 (hB5.trans hb7)))
        clear hO5 hg5 hB5 hO7 hb7 hg7 hN7 hgg7
        go_wp2_with (at_builtin; refine Lib.wpList_append_run _ rfl _ _ _ _ rfl _ _ rfl rfl _ _ hrun ?_)
        go_roundw
        case rel => exact ⟨k + 1, q + 1, by go_num, by omega, Kp.mk ⟨by rw [HS2.out]; exact HN.out.1, HN.out.2.1, HN.out.2.2⟩⟩
        case measure => simp [intOf]; omega
    · obtain rfl : k = 4 := by omega
      have HZ := Kp.mk HK.out
      clear HK hO hg hB g0 g1
      have hlt1 : ¬ ((4 : Nat) : Int) + 1 ≤ 4 := by omega
      go_wp2_with fail
      go_ret
      exact ⟨_, rfl, ⟨q, by have := HZ.out.1; rwa [portsTo_all] at this⟩, HZ.out.2.2⟩
end Go.Proofs.Ytlmonnggklfniaa.Oct
