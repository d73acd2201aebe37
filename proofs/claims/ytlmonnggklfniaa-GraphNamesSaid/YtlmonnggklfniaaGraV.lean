/- Contracts of layer 12 (graph): the chapter's graph works. -/
import Derived.Test.YtlmonnggklfniaaGraU
import Derived.Test.YtlmonnggklfniaaGraJ
namespace Go.Proofs.Ytlmonnggklfniaa.Oct
open Go.RowKit
set_option linter.unusedVariables false
set_option linter.unusedSimpArgs false

/-- The chapter's graph. -/
def linksG : List Lk := [⟨1, 1, 2, 1⟩, ⟨2, 2, 3, 4⟩]
theorem bl_vb {T : TypeId} {w : World} {g B : Nat} {bs : List Bool} (h : Vb T w g (bs.map Value.bool)) (hB : g < B) (hm : bs.length ≤ maxLen) : Bl w B (some ⟨g, 0, none⟩) bs.length bs.length bs := by
  refine ⟨rfl, Nat.le_refl _, hm, fun hn => ⟨g, 0, rfl, hB, fun j hj => ?_⟩⟩
  rw [Nat.zero_add]
  refine h.cell j ?_
  rw [List.getElem?_map, List.getElem?_eq_getElem hj, List.getD_eq_getElem?_getD, List.getElem?_eq_getElem hj]; rfl
/-- The graph lies there. -/
structure Wk (lb gb : Nat) (X : World) : Prop where
  l : Vb 43 X lb [.int .i64 1, .int .i64 1, .int .i64 2, .int .i64 1, .int .i64 2, .int .i64 2, .int .i64 3, .int .i64 4]
  g : Vb 24 X gb [.int .i64 3, .slice (some ⟨lb, 0, none⟩) 2 2]
section
variable {lb gb : Nat} {X Y : World}
theorem Wk.below (h : Wk lb gb X) (hb : Below X.heap.size X Y) : Wk lb gb Y := ⟨h.l.below hb h.l.lt, h.g.below hb h.g.lt⟩
theorem Wk.lr (h : Wk lb gb X) : Lr X X.heap.size (some ⟨lb, 0, none⟩) 2 2 linksG := lr_vb (ls := linksG) (rest := []) h.l h.l.lt (Nat.le_refl _) (by simp [linksG, maxLen])
theorem Wk.peer (h : Wk lb gb X) : Calls Try.prog 8 #[.agg #[.int .i64 3, .slice (some ⟨lb, 0, none⟩) 2 2], .agg #[.int .i64 2, .int .i64 2]] X fun e w' => e = .returned (.tuple #[.agg #[.int .i64 3, .int .i64 4], .int .i64 1, .bool true]) ∧ Below X.heap.size X w' := by
  refine (gPeer_any h.lr (Nat.le_refl _) 3 2 2).mono ?_
  rintro e w' ⟨h1, h2⟩
  rw [show peerP 3 linksG (2, 2) = some ((3, 4), 1) by decide +kernel] at h1
  exact ⟨h1, h2⟩
theorem Wk.noPeer (h : Wk lb gb X) : Calls Try.prog 8 #[.agg #[.int .i64 3, .slice (some ⟨lb, 0, none⟩) 2 2], .agg #[.int .i64 3, .int .i64 1]] X fun e w' => e = .returned (.tuple #[.agg #[.int .i64 0, .int .i64 0], .int .i64 0, .bool false]) ∧ Below X.heap.size X w' := by
  refine (gPeer_any h.lr (Nat.le_refl _) 3 3 1).mono ?_
  rintro e w' ⟨h1, h2⟩
  rw [show peerP 3 linksG (3, 1) = none by decide +kernel] at h1
  exact ⟨h1, h2⟩
theorem Wk.ports (h : Wk lb gb X) : Calls Try.prog 10 #[.agg #[.int .i64 3, .slice (some ⟨lb, 0, none⟩) 2 2], .int .i64 2] X fun e w' => ∃ A n c, e = .returned (.slice A n c) ∧ Rd .i64 w' w'.heap.size A n c [1, 2] ∧ Below X.heap.size X w' := by
  refine (gPorts_any h.lr (Nat.le_refl _) 3 2).mono ?_
  rintro e w' ⟨v, rfl, ⟨m, hO⟩, h2⟩
  rw [show portsP 3 linksG 2 = [1, 2] by decide +kernel] at hO
  obtain ⟨A, c, rfl, _⟩ := hO.form
  exact ⟨A, m, c, rfl, hO.rd, h2⟩
theorem Wk.reach0 (h : Wk lb gb X) : Calls Try.prog 16 #[.agg #[.int .i64 3, .slice (some ⟨lb, 0, none⟩) 2 2], .slice none 0 0, .int .i64 3] X fun e w' => ∃ A n c, e = .returned (.slice A n c) ∧ Rd .i64 w' w'.heap.size A n c [1, 2, 3] ∧ Below X.heap.size X w' := by
  refine (gReach_any h.lr (Nat.le_refl _) (Bl.nil X X.heap.size) (Nat.le_refl _) 3 3).mono ?_
  rintro e w' ⟨v, rfl, ⟨m, hO⟩, h2⟩
  rw [show reachP 3 linksG [] 3 = [1, 2, 3] by decide +kernel] at hO
  obtain ⟨A, c, rfl, _⟩ := hO.form
  exact ⟨A, m, c, rfl, hO.rd, h2⟩
theorem Wk.reach1 (h : Wk lb gb X) {pb : Nat} (hp : Vb 4 X pb [.bool true, .bool false]) : Calls Try.prog 16 #[.agg #[.int .i64 3, .slice (some ⟨lb, 0, none⟩) 2 2], .slice (some ⟨pb, 0, none⟩) 2 2, .int .i64 1] X fun e w' => ∃ A n c, e = .returned (.slice A n c) ∧ Rd .i64 w' w'.heap.size A n c [1, 2] ∧ Below X.heap.size X w' := by
  refine (gReach_any h.lr (Nat.le_refl _) (bl_vb (bs := [true, false]) hp hp.lt (by simp [maxLen])) (Nat.le_refl _) 3 1).mono ?_
  rintro e w' ⟨v, rfl, ⟨m, hO⟩, h2⟩
  rw [show reachP 3 linksG [true, false] 1 = [1, 2] by decide +kernel] at hO
  obtain ⟨A, c, rfl, _⟩ := hO.form
  exact ⟨A, m, c, rfl, hO.rd, h2⟩
theorem Wk.whole0 (h : Wk lb gb X) : Calls Try.prog 18 #[.agg #[.int .i64 3, .slice (some ⟨lb, 0, none⟩) 2 2], .slice none 0 0] X fun e w' => e = .returned (.bool true) ∧ Below X.heap.size X w' := by
  refine (gWhole_any h.lr (Nat.le_refl _) (Bl.nil X X.heap.size) (Nat.le_refl _) 3).mono ?_
  rintro e w' ⟨h1, h2⟩
  rw [show wholeP 3 linksG [] = true by decide +kernel] at h1
  exact ⟨h1, h2⟩
theorem Wk.whole1 (h : Wk lb gb X) {pb : Nat} (hp : Vb 4 X pb [.bool true, .bool false]) : Calls Try.prog 18 #[.agg #[.int .i64 3, .slice (some ⟨lb, 0, none⟩) 2 2], .slice (some ⟨pb, 0, none⟩) 2 2] X fun e w' => e = .returned (.bool false) ∧ Below X.heap.size X w' := by
  refine (gWhole_any h.lr (Nat.le_refl _) (bl_vb (bs := [true, false]) hp hp.lt (by simp [maxLen])) (Nat.le_refl _) 3).mono ?_
  rintro e w' ⟨h1, h2⟩
  rw [show wholeP 3 linksG [true, false] = false by decide +kernel] at h1
  exact ⟨h1, h2⟩
end
set_option maxRecDepth 100000 in
set_option maxHeartbeats 2000000 in
theorem worksG_any (w : World) : Calls Try.prog 15 #[] w fun e w' => e = .returned (.bool true) ∧ Below w.heap.size w w' := by
  have hl1 := fun w => link_any 1 1 2 1 w
  have hl2 := fun w => link_any 2 2 3 4 w
  go_enter Try.func15, Try.ntmps15
  go_wp2_with fail
  refine (hl1 _).mono ?_
  rintro e w1 ⟨rfl, hb1⟩
  go_wp2_with fail
  refine (hl2 _).mono ?_
  rintro e w2 ⟨rfl, hb2⟩
  have hW : Wk w2.heap.size (w2.heap.size + 1) ((w2.alloc (.cells #[.int .i64 1, .int .i64 1, .int .i64 2, .int .i64 1, .int .i64 2, .int .i64 2, .int .i64 3, .int .i64 4] 43)).alloc (.cells #[.int .i64 3, .slice (some ⟨w2.heap.size, 0, none⟩) 2 2] 24)) := by
    refine ⟨(Vb.new 43 w2 [.int .i64 1, .int .i64 1, .int .i64 2, .int .i64 1, .int .i64 2, .int .i64 2, .int .i64 3, .int .i64 4]).alloc _, ?_⟩
    have := Vb.new 24 (w2.alloc (.cells #[.int .i64 1, .int .i64 1, .int .i64 2, .int .i64 1, .int .i64 2, .int .i64 2, .int .i64 3, .int .i64 4] 43)) [.int .i64 3, .slice (some ⟨w2.heap.size, 0, none⟩) 2 2]
    rwa [World.size_alloc] at this
  have hB := (hb1.trans (hb2.mono hb1.size)).trans ((below_two w2 (.cells #[.int .i64 1, .int .i64 1, .int .i64 2, .int .i64 1, .int .i64 2, .int .i64 2, .int .i64 3, .int .i64 4] 43) (.cells #[.int .i64 3, .slice (some ⟨w2.heap.size, 0, none⟩) 2 2] 24)).mono (by have := hb1.size; have := hb2.size; omega))
  clear hb1 hb2 hl1 hl2
  go_upto_region 2 with fail
  generalize (w2.alloc (.cells #[.int .i64 1, .int .i64 1, .int .i64 2, .int .i64 1, .int .i64 2, .int .i64 2, .int .i64 3, .int .i64 4] 43)).alloc (.cells #[.int .i64 3, .slice (some ⟨w2.heap.size, 0, none⟩) 2 2] 24) = X0 at *
  generalize w2.heap.size + 1 = gb at *
  generalize w2.heap.size = lb at *
  have HW0 := Kp.mk (And.intro hW hB)
  have c0 := hW.g.cell 0 rfl
  have c1 := hW.g.cell 1 rfl
  have hcP := hW.peer
  clear hW hB
  go_wp2_with fail
  refine hcP.mono ?_
  rintro e X1 ⟨rfl, hb1⟩
  go_upto_region 3 with fail
  have hE := Vb.new 26 X1 [.int .i64 3, .int .i64 4]
  have hW := (HW0.out.1.below hb1).below (below_alloc X1 (.cells #[.int .i64 3, .int .i64 4] 26))
  have hB := (HW0.out.2.trans (hb1.mono HW0.out.2.size)).trans ((below_alloc X1 (.cells #[.int .i64 3, .int .i64 4] 26)).mono (by have := HW0.out.2.size; have := hb1.size; omega))
  replace hE : Vb 26 (X1.alloc (.cells #[.int .i64 3, .int .i64 4] 26)) X1.heap.size [.int .i64 3, .int .i64 4] := hE
  generalize X1.alloc (.cells #[.int .i64 3, .int .i64 4] 26) = X2 at *
  clear HW0 hb1 hcP c0 c1
  generalize X1.heap.size = eb at *
  have HW2 := Kp.mk (And.intro hW (And.intro hB hE))
  have c0 := hW.g.cell 0 rfl
  have c1 := hW.g.cell 1 rfl
  have hcP := hW.noPeer
  clear hW hB hE
  go_wp2_with fail
  refine hcP.mono ?_
  rintro e X3 ⟨rfl, hb3⟩
  go_upto_region 4 with fail
  have hb4 := hb3.trans ((below_alloc X3 (.cells #[.int .i64 0, .int .i64 0] 26)).mono hb3.size)
  have hW := HW2.out.1.below hb4
  have hB := HW2.out.2.1.trans (hb4.mono HW2.out.2.1.size)
  have hE := HW2.out.2.2.below hb4 HW2.out.2.2.lt
  clear hb3 hb4 HW2 hcP c0 c1
  generalize X3.alloc (.cells #[.int .i64 0, .int .i64 0] 26) = X4 at *
  go_upto_region 5 with fail
  have hp : Vb 4 (X4.alloc (.cells #[.bool true, .bool false] 4)) X4.heap.size [.bool true, .bool false] := Vb.new 4 X4 [.bool true, .bool false]
  have hb5 := below_alloc X4 (.cells #[.bool true, .bool false] 4)
  replace hW := hW.below hb5
  replace hB := hB.trans (hb5.mono hB.size)
  replace hE := hE.below hb5 hE.lt
  generalize X4.alloc (.cells #[.bool true, .bool false] 4) = X5 at *
  clear hb5
  generalize X4.heap.size = pb at *
  have HW5 := Kp.mk (And.intro hW (And.intro hB hp))
  have c0 := hW.g.cell 0 rfl
  have c1 := hW.g.cell 1 rfl
  have e0 := hE.cell 0 rfl
  have e1 := hE.cell 1 rfl
  have q1 : ∀ w, (Op.equalIn 10000 26 (.agg #[.int .i64 3, .int .i64 4]) (.agg #[.int .i64 3, .int .i64 4])).run Try.prog w = .ok true w := fun w => eq_end 3 4 3 4 w
  have hcP := hW.ports
  clear hW hB hE hp
  go_wp2_with fail
  refine hcP.mono ?_
  rintro e X6 ⟨A6, n6, c6, rfl, hR, hb6⟩
  clear c0 c1 e0 e1 q1
  have hbl := below_alloc X6 (.cells #[.int .i64 1, .int .i64 2] 3)
  have hcE := eqInts_any (hR.below' hbl (Nat.le_refl _)) (rd_lit .i64 X6 3 [1, 2] (by simp [maxLen]) (X6.heap.size + 1) (by omega)) hbl.size (by simp)
  replace hcE : Calls Try.prog 13 #[.slice A6 n6 c6, .slice (some ⟨X6.heap.size, 0, none⟩) 2 2] (X6.alloc (.cells #[.int .i64 1, .int .i64 2] 3)) fun e w' => e = .returned (.bool true) ∧ Below (X6.alloc (.cells #[.int .i64 1, .int .i64 2] 3)).heap.size (X6.alloc (.cells #[.int .i64 1, .int .i64 2] 3)) w' := hcE
  go_wp2_with fail
  refine hcE.mono ?_
  rintro e X7 ⟨rfl, hbe⟩
  have hbn := hbl.trans (hbe.mono hbl.size)
  clear hbl hbe hcE hR
  have HW7 := Kp.mk (And.intro (HW5.out.1.below (hb6.trans (hbn.mono hb6.size))) (And.intro (HW5.out.2.1.trans ((hb6.trans (hbn.mono hb6.size)).mono HW5.out.2.1.size)) (HW5.out.2.2.below (hb6.trans (hbn.mono hb6.size)) HW5.out.2.2.lt)))
  have hW := HW7.out.1
  have c0 := hW.g.cell 0 rfl
  have c1 := hW.g.cell 1 rfl
  have hcP := hW.reach0
  clear hW hb6 hbn HW5
  go_wp2_with fail
  refine hcP.mono ?_
  rintro e X8 ⟨A8, n8, c8, rfl, hR, hb8⟩
  clear c0 c1 hcP
  have hbl := below_alloc X8 (.cells #[.int .i64 1, .int .i64 2, .int .i64 3] 3)
  have hcE := eqInts_any (hR.below' hbl (Nat.le_refl _)) (rd_lit .i64 X8 3 [1, 2, 3] (by simp [maxLen]) (X8.heap.size + 1) (by omega)) hbl.size (by simp)
  replace hcE : Calls Try.prog 13 #[.slice A8 n8 c8, .slice (some ⟨X8.heap.size, 0, none⟩) 3 3] (X8.alloc (.cells #[.int .i64 1, .int .i64 2, .int .i64 3] 3)) fun e w' => e = .returned (.bool true) ∧ Below (X8.alloc (.cells #[.int .i64 1, .int .i64 2, .int .i64 3] 3)).heap.size (X8.alloc (.cells #[.int .i64 1, .int .i64 2, .int .i64 3] 3)) w' := hcE
  go_wp2_with fail
  refine hcE.mono ?_
  rintro e X9 ⟨rfl, hbe⟩
  have hbn := hbl.trans (hbe.mono hbl.size)
  clear hbl hbe hcE hR
  have HW9 := Kp.mk (And.intro (HW7.out.1.below (hb8.trans (hbn.mono hb8.size))) (And.intro (HW7.out.2.1.trans ((hb8.trans (hbn.mono hb8.size)).mono HW7.out.2.1.size)) (HW7.out.2.2.below (hb8.trans (hbn.mono hb8.size)) HW7.out.2.2.lt)))
  have hW := HW9.out.1
  have c0 := hW.g.cell 0 rfl
  have c1 := hW.g.cell 1 rfl
  have hcP := hW.reach1 HW9.out.2.2
  clear hW hb8 hbn HW7
  go_wp2_with fail
  refine hcP.mono ?_
  rintro e X10 ⟨A10, n10, c10, rfl, hR, hb10⟩
  clear c0 c1 hcP
  have hbl := below_alloc X10 (.cells #[.int .i64 1, .int .i64 2] 3)
  have hcE := eqInts_any (hR.below' hbl (Nat.le_refl _)) (rd_lit .i64 X10 3 [1, 2] (by simp [maxLen]) (X10.heap.size + 1) (by omega)) hbl.size (by simp)
  replace hcE : Calls Try.prog 13 #[.slice A10 n10 c10, .slice (some ⟨X10.heap.size, 0, none⟩) 2 2] (X10.alloc (.cells #[.int .i64 1, .int .i64 2] 3)) fun e w' => e = .returned (.bool true) ∧ Below (X10.alloc (.cells #[.int .i64 1, .int .i64 2] 3)).heap.size (X10.alloc (.cells #[.int .i64 1, .int .i64 2] 3)) w' := hcE
  go_wp2_with fail
  refine hcE.mono ?_
  rintro e X11 ⟨rfl, hbe⟩
  have hbn := hbl.trans (hbe.mono hbl.size)
  clear hbl hbe hcE hR
  have HW11 := Kp.mk (And.intro (HW9.out.1.below (hb10.trans (hbn.mono hb10.size))) (And.intro (HW9.out.2.1.trans ((hb10.trans (hbn.mono hb10.size)).mono HW9.out.2.1.size)) (HW9.out.2.2.below (hb10.trans (hbn.mono hb10.size)) HW9.out.2.2.lt)))
  have hW := HW11.out.1
  have c0 := hW.g.cell 0 rfl
  have c1 := hW.g.cell 1 rfl
  have hcP := hW.whole0
  clear hW hb10 hbn HW9
  go_wp2_with fail
  refine hcP.mono ?_
  rintro e X12 ⟨rfl, hb12⟩
  clear c0 c1 hcP
  have HW12 := Kp.mk (And.intro (HW11.out.1.below hb12) (And.intro (HW11.out.2.1.trans (hb12.mono HW11.out.2.1.size)) (HW11.out.2.2.below hb12 HW11.out.2.2.lt)))
  have hW := HW12.out.1
  have c0 := hW.g.cell 0 rfl
  have c1 := hW.g.cell 1 rfl
  have hcP := hW.whole1 HW12.out.2.2
  clear hW hb12 HW11
  go_wp2_with fail
  refine hcP.mono ?_
  rintro e X13 ⟨rfl, hb13⟩
  clear c0 c1 hcP
  have HF := Kp.mk (HW12.out.2.1.trans (hb13.mono HW12.out.2.1.size))
  clear hb13 HW12
  go_wp2_with fail
  go_ret
  exact ⟨rfl, HF.out⟩
end Go.Proofs.Ytlmonnggklfniaa.Oct
