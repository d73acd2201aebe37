/- Contracts of layer 12 (graph): the document's Peer, Ports. -/
import Derived.Test.YtlmonnggklfniaaGraL
import Derived.Test.YtlmonnggklfniaaGraE
namespace Go.Proofs.Ytlmonnggklfniaa.Oct
open Go.RowKit
set_option linter.unusedVariables false
set_option linter.unusedSimpArgs false

theorem scan_drop {e : Int × Int} {ls : List Lk} {i : Nat} {l : Lk} (h : ls[i]? = some l) : scanP e (ls.drop i) i = if l.A = e then some (l.B, (i : Int)) else if l.B = e then some (l.A, (i : Int)) else scanP e (ls.drop (i + 1)) ((i + 1 : Nat) : Int) := by
  have hl := (List.getElem?_eq_some_iff.1 h).1
  have e1 : ls.drop i = l :: ls.drop (i + 1) := by
    rw [← List.getElem_cons_drop hl]
    congr 1
    rw [List.getElem?_eq_getElem hl] at h
    exact Option.some.inj h
  rw [e1]
  rfl
/-- What lies there in a round of the document's Peer. -/
structure Ep (S : Int) (A : Option Addr) (n c : Nat) (a p : Int) (x y : Int) (w0 w : World) : Prop where
  g : Vb 24 w w0.heap.size [.int .i64 S, .slice A n c]
  e : Vb 26 w (w0.heap.size + 1) [.int .i64 a, .int .i64 p]
  r : Vb 26 w (w0.heap.size + 1 + 1) [.int .i64 x, .int .i64 y]
  b : Below w0.heap.size w0 w
section
variable {S a p x y : Int} {A : Option Addr} {n c : Nat} {w0 w w' : World}
theorem Ep.below (h : Ep S A n c a p x y w0 w) (hb : Below w.heap.size w w') : Ep S A n c a p x y w0 w' := ⟨h.g.below hb h.g.lt, h.e.below hb h.e.lt, h.r.below hb h.r.lt, h.b.trans (hb.mono h.b.size)⟩
theorem Ep.put (h : Ep S A n c a p x y w0 w) (u v : Int) : Ep S A n c a p u v w0 ((w.setCell ⟨w0.heap.size + 1 + 1, 0, none⟩ (.int .i64 u)).setCell ⟨w0.heap.size + 1 + 1, 1, none⟩ (.int .i64 v)) := by
  have g1 := grownBy_set w (w0.heap.size + 1 + 1) 0 (.int .i64 u)
  have g2 := grownBy_set (w.setCell ⟨w0.heap.size + 1 + 1, 0, none⟩ (.int .i64 u)) (w0.heap.size + 1 + 1) 1 (.int .i64 v)
  have hz := h.b.size
  refine ⟨(h.g.grown g1 (by omega)).grown g2 (by omega), (h.e.grown g1 (by omega)).grown g2 (by omega), (h.r.set 0 _).set 1 _, below_grown (below_grown h.b g1 hz (by omega)) g2 (by simp [World.setCell]; omega) (by omega)⟩
end
set_option maxRecDepth 100000 in
set_option maxHeartbeats 2000000 in
theorem refPeer_any {w : World} {B n c : Nat} {A : Option Addr} {ls : List Lk} (h : Lr w B A n c ls) (hB : B ≤ w.heap.size) (S a p : Int) : Calls Try.prog 9 #[grV S A n c, .agg #[.int .i64 a, .int .i64 p]] w fun e w' => PeerIs (peerP S ls (a, p)) e ∧ Below w.heap.size w w' := by
  have hb0 := (below_two w (.cells #[.int .i64 S, .slice A n c] 24) (.cells #[.int .i64 a, .int .i64 p] 26)).alloc (by simp; omega) (.cells #[.int .i64 0, .int .i64 0] 26)
  have hc := refCheck_any (h.below' hb0 hB) (by simp; omega) S
  have hE0 : Ep S A n c a p 0 0 w (((w.alloc (.cells #[.int .i64 S, .slice A n c] 24)).alloc (.cells #[.int .i64 a, .int .i64 p] 26)).alloc (.cells #[.int .i64 0, .int .i64 0] 26)) := by
    refine ⟨((Vb.new 24 w [.int .i64 S, .slice A n c]).alloc _).alloc _, ?_, ?_, hb0⟩
    · have := (Vb.new 26 (w.alloc (.cells #[.int .i64 S, .slice A n c] 24)) [.int .i64 a, .int .i64 p]).alloc (.cells #[.int .i64 0, .int .i64 0] 26)
      rwa [World.size_alloc] at this
    · have := (Vb.new 26 ((w.alloc (.cells #[.int .i64 S, .slice A n c] 24)).alloc (.cells #[.int .i64 a, .int .i64 p] 26)) [.int .i64 0, .int .i64 0])
      rwa [World.size_alloc, World.size_alloc] at this
  have HE0 := Kp.mk hE0
  have H := Kp.mk (And.intro h (And.intro hB h.len))
  have hmax := h.max
  clear h hB hb0 hE0
  go_enter Try.func9, Try.ntmps9
  go_wp2_with fail
  refine hc.mono ?_
  rintro e w2 ⟨rfl, hb2⟩
  have hE2 := HE0.out.below hb2
  have HE2 := Kp.mk hE2
  have f0 := hE2.r.free 0
  have f1 := hE2.r.free 1
  have r0 := hE2.r.cell 0 rfl
  have r1 := hE2.r.cell 1 rfl
  have g0 := hE2.g.cell 0 rfl
  have g1 := hE2.g.cell 1 rfl
  clear hb2 hc hE2 HE0
  by_cases hG : Good S ls
  · rw [chk_good hG]
    have HP := Kp.mk (And.intro (peer_good hG (a, p)) (good_len hG))
    clear hG
    clear f0 f1 r0 r1 g0 g1
    go_wp2_with fail
    go_loopw [7] (fun s7 wr => ∃ i : Nat, s7 = .int .i64 i ∧ i ≤ n ∧ Kp (scanP (a, p) ls 0 = scanP (a, p) (ls.drop i) i ∧ Ep S A n c a p 0 0 w wr)) (fun s7 _ => n - (intOf s7).toNat)
    case atStart => exact ⟨0, rfl, Nat.zero_le _, Kp.mk ⟨by rw [List.drop_zero]; rfl, HE2.out⟩⟩
    case round =>
      clear HE2
      obtain ⟨i, rfl, hi, HK⟩ := hrel
      obtain ⟨hsc, hE⟩ := HK.out
      have g1 := hE.g.cell 1 rfl
      have f0 := hE.r.free 0
      have f1 := hE.r.free 1
      have r0 := hE.r.cell 0 rfl
      have r1 := hE.r.cell 1 rfl
      by_cases hlt : i < n
      · obtain ⟨l, hl⟩ : ∃ l, ls[i]? = some l := ⟨_, List.getElem?_eq_getElem (by have := H.out.2.2; omega)⟩
        obtain ⟨b1, o1, hA1, hb1lt, fl⟩ := (H.out.1.below' hE.b H.out.2.1).at_ (by omega)
        subst hA1
        obtain ⟨d0, d1, d2, d3⟩ := fl i l hl
        have e0 := hE.e.cell 0 rfl
        have e1 := hE.e.cell 1 rfl
        have hlti : (i : Int) < n := by omega
        have hi12 : (i : Int) ≤ 12 := by have := HP.out.2; have := H.out.2.2; omega
        have HSC := Kp.mk (hsc.trans (scan_drop hl))
        have HE := Kp.mk hE
        obtain ⟨la, lp, lb, lq⟩ := l
        dsimp only at d0 d1 d2 d3
        have q1 := fun w => eq_end la lp a p w
        have q2 := fun w => eq_end lb lq a p w
        clear hsc hE HK fl hl
        by_cases hA : (la, lp) = (a, p)
        · have HR := Kp.mk (show peerP S ls (a, p) = some ((lb, lq), (i : Int)) by rw [HP.out.1, HSC.out]; exact if_pos hA)
          rw [decide_eq_true hA] at q1
          clear hA q2
          go_wp2_with fail
          go_quiet (fail)
          go_wp2_with fail
          have hE3 := fun k => (HE.out.below (below_drewN (Below.refl wr.heap.size wr) k)).put lb lq
          have s0 := fun k => (hE3 k).r.cell 0 rfl
          have s1 := fun k => (hE3 k).r.cell 1 rfl
          have HE3 := Kp.mk hE3
          clear hE3 f0 f1 r0 r1 g1 d0 d1 d2 d3 e0 e1
          refine bodyPost_ret (v := .tuple #[.agg #[.int .i64 lb, .int .i64 lq], .int .i64 i, .bool true]) (by simp [results, Try.results9, go_sem, s0, s1]) rfl ?_
          exact ⟨by rw [HR.out]; rfl, (HE3.out _).b⟩
        · rw [decide_eq_false hA] at q1
          by_cases hB2 : (lb, lq) = (a, p)
          · have HR := Kp.mk (show peerP S ls (a, p) = some ((la, lp), (i : Int)) by rw [HP.out.1, HSC.out]; exact (if_neg hA).trans (if_pos hB2))
            rw [decide_eq_true hB2] at q2
            clear hA hB2
            go_wp2_with fail
            go_quiet (fail)
            go_wp2_with fail
            go_quiet (fail)
            go_wp2_with fail
            have hE3 := fun k => (HE.out.below (below_drewN (Below.refl wr.heap.size wr) k)).put la lp
            have s0 := fun k => (hE3 k).r.cell 0 rfl
            have s1 := fun k => (hE3 k).r.cell 1 rfl
            have HE3 := Kp.mk hE3
            clear hE3 f0 f1 r0 r1 g1 d0 d1 d2 d3 e0 e1
            refine bodyPost_ret (v := .tuple #[.agg #[.int .i64 la, .int .i64 lp], .int .i64 i, .bool true]) (by simp [results, Try.results9, go_sem, s0, s1]) rfl ?_
            exact ⟨by rw [HR.out]; rfl, (HE3.out _).b⟩
          · have HR := Kp.mk (show scanP (a, p) ls 0 = scanP (a, p) (ls.drop (i + 1)) ((i + 1 : Nat) : Int) by rw [HSC.out]; exact (if_neg hA).trans (if_neg hB2))
            rw [decide_eq_false hB2] at q2
            clear hA hB2
            go_wp2_with fail
            go_quiet (fail)
            go_wp2_with fail
            go_quiet (fail)
            have HE3 := Kp.mk (fun k => HE.out.below (below_drewN (Below.refl wr.heap.size wr) k))
            clear f0 f1 r0 r1 g1 d0 d1 d2 d3 e0 e1 q1 q2
            go_wp2_with fail
            go_roundw
            case rel => exact ⟨i + 1, by go_num, by omega, Kp.mk ⟨HR.out, HE3.out _⟩⟩
            case measure => simp [intOf]; omega
      · obtain rfl : i = n := by omega
        have HR := Kp.mk (show peerP S ls (a, p) = none by rw [HP.out.1, hsc, List.drop_eq_nil_of_le (by have := H.out.2.2; omega)]; rfl)
        have hE3 := hE.put 0 0
        have s0 := hE3.r.cell 0 rfl
        have s1 := hE3.r.cell 1 rfl
        have HE3 := Kp.mk hE3
        clear hE hE3 HK hsc
        go_wp2_with fail
        refine bodyPost_ret (v := .tuple #[.agg #[.int .i64 0, .int .i64 0], .int .i64 0, .bool false]) (by simp [results, Try.results9, go_sem, s0, s1]) rfl ?_
        exact ⟨by rw [HR.out]; rfl, HE3.out.b⟩
  · rw [chk_bad hG]
    have HP := Kp.mk (peer_bad hG (a, p))
    clear hG
    go_wp2_with fail
    have hE3 := HE2.out.put 0 0
    have s0 := hE3.r.cell 0 rfl
    have s1 := hE3.r.cell 1 rfl
    have HE3 := Kp.mk hE3
    clear hE3 f0 f1 r0 r1 g0 g1
    refine bodyPost_ret (v := .tuple #[.agg #[.int .i64 0, .int .i64 0], .int .i64 0, .bool false]) (by simp [results, Try.results9, go_sem, s0, s1]) rfl ?_
    exact ⟨by rw [HP.out]; rfl, HE3.out.b⟩
end Go.Proofs.Ytlmonnggklfniaa.Oct
