/- Contracts of layer 8: works. -/
import Derived.Test.YteambkehdbffmaaRulF
import Derived.Deep.Cut
import Derived.Deep.CutRange
namespace Go.Proofs.Yteambkehdbffmaa.Oct
open Go.RowKit
set_option linter.unusedVariables false
set_option linter.unusedSimpArgs false
theorem wpList_load_wantR {T ty : TypeId} {w : World} {g off : Nat} {cs vs : List Value} {ops : Array Oper} {rest : List Oper} {o : Oper} {a : Act} {Q : Exit → Act → World → Prop} (hw : Region.wanted o (yielded ops a.tmps) = true) (x : Operand) (ho : o.op = .load ty x) (hx : a.eval x = .pointer (some ⟨g, off, none⟩)) (hv : Vb T w g cs) (hvs : (cs.drop off).take vs.length = vs) (ht : Agg ty vs.length)
    (h : wpList Try.prog ops Q rest (a.put o.dst (.agg vs.toArray)) w) : wpList Try.prog ops Q (o :: rest) a w := by
  refine BigFrame.wpList_want hw fun K hK => ?_
  unfold Oper.wp execOp
  simp only [ho, hx, Instr.loadAt, Instr.sureAddr, Sem.run_bind, Sem.run_pure, Result.andThen_ok, run_loadVb hv hvs ht]
  exact hK _ _ h

set_option maxRecDepth 100000 in
set_option maxHeartbeats 16000000 in
theorem does_other : doesR ⟨1, 0, 0, 0, ⟨0, -1, 0, 0, 0, 0, 0, 0⟩, [⟨2, (-1), (-1), (-1)⟩, ⟨3, (-1), 9, (-1)⟩, ⟨2, (-1), 6, (-1)⟩]⟩ 5 6 7 = [⟨2, 5, 6, 7⟩, ⟨3, 5, 9, 7⟩] := by decide +kernel
theorem cmp_dc : cmpR ⟨1, 0, 0, 0, ⟨0, -1, 0, 0, 0, 0, 0, 0⟩, []⟩ ⟨2, 0, 1, 0, ⟨0, 0, 0, 0, 0, 0, 0, 0⟩, []⟩ = -1 := by decide +kernel
theorem cmp_dh : cmpR ⟨1, 0, 0, 0, ⟨0, -1, 0, 0, 0, 0, 0, 0⟩, []⟩ ⟨1, 4, 0, 0, ⟨0, -1, 0, 0, 0, 0, 0, 0⟩, []⟩ = 1 := by decide +kernel
theorem cmp_ct : cmpR ⟨2, 0, 1, 0, ⟨0, 0, 0, 0, 0, 0, 0, 0⟩, []⟩ ⟨2, 0, 2, 0, ⟨0, 0, 0, 0, 0, 0, 0, 0⟩, []⟩ = -1 := by decide +kernel
theorem cmp_do : cmpR ⟨1, 0, 0, 0, ⟨0, -1, 0, 0, 0, 0, 0, 0⟩, []⟩ ⟨1, 0, 0, 0, ⟨0, -1, 0, 0, 0, 0, 0, 0⟩, [⟨2, (-1), (-1), (-1)⟩, ⟨3, (-1), 9, (-1)⟩, ⟨2, (-1), 6, (-1)⟩]⟩ = 0 := by decide +kernel
set_option maxRecDepth 100000 in
set_option maxHeartbeats 16000000 in
theorem worksR_any (w : World) : Calls Try.prog 10 #[] w fun e w' => e = .returned (.bool true) ∧ Below w.heap.size w w' := by
  have h1 : Vb 28 ((w.alloc (.cells #[.int .i64 1, .int .i64 0, .int .i64 0, .int .i64 0, .int .i64 0, .int .i64 (-1), .int .u8 0, .int .u8 0, .int .u8 0, .int .u8 0, .int .u8 0, .int .u8 0, .slice none 0 0] 28)).alloc (.cells #[.int .i64 2, .int .i64 0, .int .i64 1, .int .i64 0, .int .i64 0, .int .i64 0, .int .u8 0, .int .u8 0, .int .u8 0, .int .u8 0, .int .u8 0, .int .u8 0, .slice none 0 0] 28)) w.heap.size [.int .i64 1, .int .i64 0, .int .i64 0, .int .i64 0, .int .i64 0, .int .i64 (-1), .int .u8 0, .int .u8 0, .int .u8 0, .int .u8 0, .int .u8 0, .int .u8 0, .slice none 0 0] := (Vb.new 28 w [.int .i64 1, .int .i64 0, .int .i64 0, .int .i64 0, .int .i64 0, .int .i64 (-1), .int .u8 0, .int .u8 0, .int .u8 0, .int .u8 0, .int .u8 0, .int .u8 0, .slice none 0 0]).alloc _
  have h2 : Vb 28 ((w.alloc (.cells #[.int .i64 1, .int .i64 0, .int .i64 0, .int .i64 0, .int .i64 0, .int .i64 (-1), .int .u8 0, .int .u8 0, .int .u8 0, .int .u8 0, .int .u8 0, .int .u8 0, .slice none 0 0] 28)).alloc (.cells #[.int .i64 2, .int .i64 0, .int .i64 1, .int .i64 0, .int .i64 0, .int .i64 0, .int .u8 0, .int .u8 0, .int .u8 0, .int .u8 0, .int .u8 0, .int .u8 0, .slice none 0 0] 28)) (w.heap.size + 1) [.int .i64 2, .int .i64 0, .int .i64 1, .int .i64 0, .int .i64 0, .int .i64 0, .int .u8 0, .int .u8 0, .int .u8 0, .int .u8 0, .int .u8 0, .int .u8 0, .slice none 0 0] := by have := Vb.new 28 (w.alloc (.cells #[.int .i64 1, .int .i64 0, .int .i64 0, .int .i64 0, .int .i64 0, .int .i64 (-1), .int .u8 0, .int .u8 0, .int .u8 0, .int .u8 0, .int .u8 0, .int .u8 0, .slice none 0 0] 28)) [.int .i64 2, .int .i64 0, .int .i64 1, .int .i64 0, .int .i64 0, .int .i64 0, .int .u8 0, .int .u8 0, .int .u8 0, .int .u8 0, .int .u8 0, .int .u8 0, .slice none 0 0]; simpa using this
  have hB0 := below_two w (.cells #[.int .i64 1, .int .i64 0, .int .i64 0, .int .i64 0, .int .i64 0, .int .i64 (-1), .int .u8 0, .int .u8 0, .int .u8 0, .int .u8 0, .int .u8 0, .int .u8 0, .slice none 0 0] 28) (.cells #[.int .i64 2, .int .i64 0, .int .i64 1, .int .i64 0, .int .i64 0, .int .i64 0, .int .u8 0, .int .u8 0, .int .u8 0, .int .u8 0, .int .u8 0, .int .u8 0, .slice none 0 0] 28)
  have hz0 : ((w.alloc (.cells #[.int .i64 1, .int .i64 0, .int .i64 0, .int .i64 0, .int .i64 0, .int .i64 (-1), .int .u8 0, .int .u8 0, .int .u8 0, .int .u8 0, .int .u8 0, .int .u8 0, .slice none 0 0] 28)).alloc (.cells #[.int .i64 2, .int .i64 0, .int .i64 1, .int .i64 0, .int .i64 0, .int .i64 0, .int .u8 0, .int .u8 0, .int .u8 0, .int .u8 0, .int .u8 0, .int .u8 0, .slice none 0 0] 28)).heap.size = w.heap.size + 2 := by simp
  go_enter Try.func10, Try.ntmps10
  go_upto_region 2 with fail
  generalize (w.alloc (.cells #[.int .i64 1, .int .i64 0, .int .i64 0, .int .i64 0, .int .i64 0, .int .i64 (-1), .int .u8 0, .int .u8 0, .int .u8 0, .int .u8 0, .int .u8 0, .int .u8 0, .slice none 0 0] 28)).alloc (.cells #[.int .i64 2, .int .i64 0, .int .i64 1, .int .i64 0, .int .i64 0, .int .i64 0, .int .u8 0, .int .u8 0, .int .u8 0, .int .u8 0, .int .u8 0, .int .u8 0, .slice none 0 0] 28) = w0 at *
  go_cut [3, 4, 5] from 10 to 12 (fun p q r wx => ∃ q3 q4 q5, p = .pointer (some ⟨q3, 0, none⟩) ∧ q = .pointer (some ⟨q4, 0, none⟩) ∧ r = .pointer (some ⟨q5, 0, none⟩) ∧ Vb 28 wx q3 [.int .i64 1, .int .i64 0, .int .i64 0, .int .i64 0, .int .i64 0, .int .i64 (-1), .int .u8 0, .int .u8 0, .int .u8 0, .int .u8 0, .int .u8 0, .int .u8 0, .slice none 0 0] ∧ Vb 28 wx q4 [.int .i64 2, .int .i64 0, .int .i64 1, .int .i64 0, .int .i64 0, .int .i64 0, .int .u8 0, .int .u8 0, .int .u8 0, .int .u8 0, .int .u8 0, .int .u8 0, .slice none 0 0] ∧ Vb 28 wx q5 [.int .i64 1, .int .i64 0, .int .i64 0, .int .i64 0, .int .i64 0, .int .i64 (-1), .int .u8 0, .int .u8 0, .int .u8 0, .int .u8 0, .int .u8 0, .int .u8 0, .slice none 0 0] ∧ (q3 ≠ q4 ∧ q3 ≠ q5 ∧ q4 ≠ q5) ∧ (w.heap.size + 2 ≤ q3 ∧ w.heap.size + 2 ≤ q4 ∧ w.heap.size + 2 ≤ q5) ∧ Below (w.heap.size + 2) w0 wx)
  case first =>
    have hd0 : Below w0.heap.size w0 w0.drew := (Below.refl _ _).drew
    have hS0 : (fun W => Vb 28 W w.heap.size [.int .i64 1, .int .i64 0, .int .i64 0, .int .i64 0, .int .i64 0, .int .i64 (-1), .int .u8 0, .int .u8 0, .int .u8 0, .int .u8 0, .int .u8 0, .int .u8 0, .slice none 0 0] ∧ Vb 28 W (w.heap.size + 1) [.int .i64 2, .int .i64 0, .int .i64 1, .int .i64 0, .int .i64 0, .int .i64 0, .int .u8 0, .int .u8 0, .int .u8 0, .int .u8 0, .int .u8 0, .int .u8 0, .slice none 0 0]) w0.drew := ⟨h1.below hd0 h1.lt, h2.below hd0 h2.lt⟩
    have hB : Below (w.heap.size + 2) w0 w0.drew := hd0.mono (by omega)
    have hw0 : w.heap.size + 2 ≤ w0.drew.heap.size := by have := hd0.size; omega
    refine wp_region_held_drew (S := fun W => Vb 28 W w.heap.size [.int .i64 1, .int .i64 0, .int .i64 0, .int .i64 0, .int .i64 0, .int .i64 (-1), .int .u8 0, .int .u8 0, .int .u8 0, .int .u8 0, .int .u8 0, .int .u8 0, .slice none 0 0] ∧ Vb 28 W (w.heap.size + 1) [.int .i64 2, .int .i64 0, .int .i64 1, .int .i64 0, .int .i64 0, .int .i64 0, .int .u8 0, .int .u8 0, .int .u8 0, .int .u8 0, .int .u8 0, .int .u8 0, .slice none 0 0]) (by kernel_rfl) hS0 (fun _ => ?_)
    clear h1 h2 hd0
    generalize w0.drew = u0 at *
    refine takeD (i := 0) (v := .agg #[.int .i64 1, .int .i64 0, .int .i64 0, .int .i64 0, .int .i64 0, .int .i64 (-1), .int .u8 0, .int .u8 0, .int .u8 0, .int .u8 0, .int .u8 0, .int .u8 0, .slice none 0 0]) (some 10) rfl rfl (by kernel_rfl) (by kernel_rfl) (by kernel_rfl) (fun _ _ _ h => h) (Or.inl ⟨by rfl, ?_⟩) hS0 ?_
    · rintro w' ⟨s0, s1⟩
      have d0 := s0.cell 0 rfl
      have d1 := s0.cell 1 rfl
      have d2 := s0.cell 2 rfl
      have d3 := s0.cell 3 rfl
      have d4 := s0.cell 4 rfl
      have d5 := s0.cell 5 rfl
      have d6 := s0.cell 6 rfl
      have d7 := s0.cell 7 rfl
      have d8 := s0.cell 8 rfl
      have d9 := s0.cell 9 rfl
      have d10 := s0.cell 10 rfl
      have d11 := s0.cell 11 rfl
      have d12 := s0.cell 12 rfl
      go_simp
    try simp only [Act.put, List.setIfInBounds_toArray, List.set_cons_zero, List.set_cons_succ]
    refine takeD (i := 1) (v := .agg #[.int .i64 2, .int .i64 0, .int .i64 1, .int .i64 0, .int .i64 0, .int .i64 0, .int .u8 0, .int .u8 0, .int .u8 0, .int .u8 0, .int .u8 0, .int .u8 0, .slice none 0 0]) (some 11) rfl rfl (by kernel_rfl) (by kernel_rfl) (by kernel_rfl) (fun _ _ _ h => h) (Or.inl ⟨by rfl, ?_⟩) hS0 ?_
    · rintro w' ⟨s0, s1⟩
      have d0 := s1.cell 0 rfl
      have d1 := s1.cell 1 rfl
      have d2 := s1.cell 2 rfl
      have d3 := s1.cell 3 rfl
      have d4 := s1.cell 4 rfl
      have d5 := s1.cell 5 rfl
      have d6 := s1.cell 6 rfl
      have d7 := s1.cell 7 rfl
      have d8 := s1.cell 8 rfl
      have d9 := s1.cell 9 rfl
      have d10 := s1.cell 10 rfl
      have d11 := s1.cell 11 rfl
      have d12 := s1.cell 12 rfl
      go_simp
    try simp only [Act.put, List.setIfInBounds_toArray, List.set_cons_zero, List.set_cons_succ]
    refine takeD (i := 2) (v := .agg #[.int .i64 1, .int .i64 0, .int .i64 0, .int .i64 0, .int .i64 0, .int .i64 (-1), .int .u8 0, .int .u8 0, .int .u8 0, .int .u8 0, .int .u8 0, .int .u8 0, .slice none 0 0]) (some 12) rfl rfl (by kernel_rfl) (by kernel_rfl) (by kernel_rfl) (fun _ _ _ h => h) (Or.inl ⟨by rfl, ?_⟩) hS0 ?_
    · rintro w' ⟨s0, s1⟩
      have d0 := s0.cell 0 rfl
      have d1 := s0.cell 1 rfl
      have d2 := s0.cell 2 rfl
      have d3 := s0.cell 3 rfl
      have d4 := s0.cell 4 rfl
      have d5 := s0.cell 5 rfl
      have d6 := s0.cell 6 rfl
      have d7 := s0.cell 7 rfl
      have d8 := s0.cell 8 rfl
      have d9 := s0.cell 9 rfl
      have d10 := s0.cell 10 rfl
      have d11 := s0.cell 11 rfl
      have d12 := s0.cell 12 rfl
      go_simp
    try simp only [Act.put, List.setIfInBounds_toArray, List.set_cons_zero, List.set_cons_succ]
    refine wpAnyH_ready (rs := [3, 4, 5]) (by kernel_rfl) (by simp) ?_
    refine AllReadyH.cons rfl (fun K hK => ?_) (AllReadyH.cons rfl (fun K hK => ?_) (AllReadyH.cons rfl (fun K hK => ?_) AllReadyH.nil))
    · try rw [if_pos (by rfl)]
      go_simp
      have hb := below_alloc u0 (.cells #[.int .i64 0, .int .i64 0, .int .i64 0, .int .i64 0, .int .i64 0, .int .i64 0, .int .u8 0, .int .u8 0, .int .u8 0, .int .u8 0, .int .u8 0, .int .u8 0, .slice none 0 0] 28)
      have hz3 := Vb.new 28 u0 [.int .i64 0, .int .i64 0, .int .i64 0, .int .i64 0, .int .i64 0, .int .i64 0, .int .u8 0, .int .u8 0, .int .u8 0, .int .u8 0, .int .u8 0, .int .u8 0, .slice none 0 0]
      have hS1 : (fun W => Vb 28 W w.heap.size [.int .i64 1, .int .i64 0, .int .i64 0, .int .i64 0, .int .i64 0, .int .i64 (-1), .int .u8 0, .int .u8 0, .int .u8 0, .int .u8 0, .int .u8 0, .int .u8 0, .slice none 0 0] ∧ Vb 28 W (w.heap.size + 1) [.int .i64 2, .int .i64 0, .int .i64 1, .int .i64 0, .int .i64 0, .int .i64 0, .int .u8 0, .int .u8 0, .int .u8 0, .int .u8 0, .int .u8 0, .int .u8 0, .slice none 0 0]) (u0.alloc (.cells #[.int .i64 0, .int .i64 0, .int .i64 0, .int .i64 0, .int .i64 0, .int .i64 0, .int .u8 0, .int .u8 0, .int .u8 0, .int .u8 0, .int .u8 0, .int .u8 0, .slice none 0 0] 28)) := ⟨hS0.1.alloc _, hS0.2.alloc _⟩
      have hl3 := hw0
      replace hB := hB.trans (hb.mono hw0)
      replace hw0 := Nat.le_trans hw0 hb.size
      refine hK.out _ _ hS1 (fun _ => ?_)
      clear hK K hb
      try simp only [Act.put, List.setIfInBounds_toArray, List.set_cons_zero, List.set_cons_succ]
      clear hS0
      generalize hu1 : u0.alloc (.cells #[.int .i64 0, .int .i64 0, .int .i64 0, .int .i64 0, .int .i64 0, .int .i64 0, .int .u8 0, .int .u8 0, .int .u8 0, .int .u8 0, .int .u8 0, .int .u8 0, .slice none 0 0] 28) = v1 at *
      generalize u0.heap.size = q3 at *
      clear hu1
      refine wpAnyH_ready (rs := [4, 5]) (by kernel_rfl) (by simp) ?_
      refine AllReadyH.cons rfl (fun K hK => ?_) (AllReadyH.cons rfl (fun K hK => ?_) AllReadyH.nil)
      · try rw [if_pos (by rfl)]
        go_simp
        have hb := below_alloc v1 (.cells #[.int .i64 0, .int .i64 0, .int .i64 0, .int .i64 0, .int .i64 0, .int .i64 0, .int .u8 0, .int .u8 0, .int .u8 0, .int .u8 0, .int .u8 0, .int .u8 0, .slice none 0 0] 28)
        have hz4 := Vb.new 28 v1 [.int .i64 0, .int .i64 0, .int .i64 0, .int .i64 0, .int .i64 0, .int .i64 0, .int .u8 0, .int .u8 0, .int .u8 0, .int .u8 0, .int .u8 0, .int .u8 0, .slice none 0 0]
        have hS2 : (fun W => Vb 28 W w.heap.size [.int .i64 1, .int .i64 0, .int .i64 0, .int .i64 0, .int .i64 0, .int .i64 (-1), .int .u8 0, .int .u8 0, .int .u8 0, .int .u8 0, .int .u8 0, .int .u8 0, .slice none 0 0] ∧ Vb 28 W (w.heap.size + 1) [.int .i64 2, .int .i64 0, .int .i64 1, .int .i64 0, .int .i64 0, .int .i64 0, .int .u8 0, .int .u8 0, .int .u8 0, .int .u8 0, .int .u8 0, .int .u8 0, .slice none 0 0]) (v1.alloc (.cells #[.int .i64 0, .int .i64 0, .int .i64 0, .int .i64 0, .int .i64 0, .int .i64 0, .int .u8 0, .int .u8 0, .int .u8 0, .int .u8 0, .int .u8 0, .int .u8 0, .slice none 0 0] 28)) := ⟨hS1.1.alloc _, hS1.2.alloc _⟩
        have hl4 := hw0
        have hlt3_4 := hz3.lt
        replace hz3 := hz3.alloc (.cells #[.int .i64 0, .int .i64 0, .int .i64 0, .int .i64 0, .int .i64 0, .int .i64 0, .int .u8 0, .int .u8 0, .int .u8 0, .int .u8 0, .int .u8 0, .int .u8 0, .slice none 0 0] 28)
        replace hB := hB.trans (hb.mono hw0)
        replace hw0 := Nat.le_trans hw0 hb.size
        refine hK.out _ _ hS2 (fun _ => ?_)
        clear hK K hb
        try simp only [Act.put, List.setIfInBounds_toArray, List.set_cons_zero, List.set_cons_succ]
        clear hS1
        generalize hu2 : v1.alloc (.cells #[.int .i64 0, .int .i64 0, .int .i64 0, .int .i64 0, .int .i64 0, .int .i64 0, .int .u8 0, .int .u8 0, .int .u8 0, .int .u8 0, .int .u8 0, .int .u8 0, .slice none 0 0] 28) = v2 at *
        generalize v1.heap.size = q4 at *
        clear hu2
        refine wpAnyH_ready (rs := [5]) (by kernel_rfl) (by simp) ?_
        refine AllReadyH.cons rfl (fun K hK => ?_) AllReadyH.nil
        · try rw [if_pos (by rfl)]
          go_simp
          have hb := below_alloc v2 (.cells #[.int .i64 0, .int .i64 0, .int .i64 0, .int .i64 0, .int .i64 0, .int .i64 0, .int .u8 0, .int .u8 0, .int .u8 0, .int .u8 0, .int .u8 0, .int .u8 0, .slice none 0 0] 28)
          have hz5 := Vb.new 28 v2 [.int .i64 0, .int .i64 0, .int .i64 0, .int .i64 0, .int .i64 0, .int .i64 0, .int .u8 0, .int .u8 0, .int .u8 0, .int .u8 0, .int .u8 0, .int .u8 0, .slice none 0 0]
          have hS3 : (fun W => Vb 28 W w.heap.size [.int .i64 1, .int .i64 0, .int .i64 0, .int .i64 0, .int .i64 0, .int .i64 (-1), .int .u8 0, .int .u8 0, .int .u8 0, .int .u8 0, .int .u8 0, .int .u8 0, .slice none 0 0] ∧ Vb 28 W (w.heap.size + 1) [.int .i64 2, .int .i64 0, .int .i64 1, .int .i64 0, .int .i64 0, .int .i64 0, .int .u8 0, .int .u8 0, .int .u8 0, .int .u8 0, .int .u8 0, .int .u8 0, .slice none 0 0]) (v2.alloc (.cells #[.int .i64 0, .int .i64 0, .int .i64 0, .int .i64 0, .int .i64 0, .int .i64 0, .int .u8 0, .int .u8 0, .int .u8 0, .int .u8 0, .int .u8 0, .int .u8 0, .slice none 0 0] 28)) := ⟨hS2.1.alloc _, hS2.2.alloc _⟩
          have hl5 := hw0
          have hlt3_5 := hz3.lt
          have hlt4_5 := hz4.lt
          replace hz3 := hz3.alloc (.cells #[.int .i64 0, .int .i64 0, .int .i64 0, .int .i64 0, .int .i64 0, .int .i64 0, .int .u8 0, .int .u8 0, .int .u8 0, .int .u8 0, .int .u8 0, .int .u8 0, .slice none 0 0] 28)
          replace hz4 := hz4.alloc (.cells #[.int .i64 0, .int .i64 0, .int .i64 0, .int .i64 0, .int .i64 0, .int .i64 0, .int .u8 0, .int .u8 0, .int .u8 0, .int .u8 0, .int .u8 0, .int .u8 0, .slice none 0 0] 28)
          replace hB := hB.trans (hb.mono hw0)
          replace hw0 := Nat.le_trans hw0 hb.size
          refine hK.out _ _ hS3 (fun _ => ?_)
          clear hK K hb
          try simp only [Act.put, List.setIfInBounds_toArray, List.set_cons_zero, List.set_cons_succ]
          clear hS2
          generalize hu3 : v2.alloc (.cells #[.int .i64 0, .int .i64 0, .int .i64 0, .int .i64 0, .int .i64 0, .int .i64 0, .int .u8 0, .int .u8 0, .int .u8 0, .int .u8 0, .int .u8 0, .int .u8 0, .slice none 0 0] 28) = v3 at *
          generalize v2.heap.size = q5 at *
          clear hu3
          refine wpAnyH_ready (rs := [6]) (by kernel_rfl) (by simp) ?_
          refine AllReadyH.cons rfl (fun K hK => ?_) AllReadyH.nil
          · try rw [if_pos (by rfl)]
            refine wp_store_vb' (T := 28) (vs := [.int .i64 1, .int .i64 0, .int .i64 0, .int .i64 0, .int .i64 0, .int .i64 (-1), .int .u8 0, .int .u8 0, .int .u8 0, .int .u8 0, .int .u8 0, .int .u8 0, .slice none 0 0]) none rfl (.tmp 3) (.tmp 10) rfl rfl rfl hz3 rfl agg_rule rfl ?_
            intro v4 hn hg hz
            have hS4 : (fun W => Vb 28 W w.heap.size [.int .i64 1, .int .i64 0, .int .i64 0, .int .i64 0, .int .i64 0, .int .i64 (-1), .int .u8 0, .int .u8 0, .int .u8 0, .int .u8 0, .int .u8 0, .int .u8 0, .slice none 0 0] ∧ Vb 28 W (w.heap.size + 1) [.int .i64 2, .int .i64 0, .int .i64 1, .int .i64 0, .int .i64 0, .int .i64 0, .int .u8 0, .int .u8 0, .int .u8 0, .int .u8 0, .int .u8 0, .int .u8 0, .slice none 0 0]) v4 := ⟨Vb.grown hS3.1 hg (by omega), Vb.grown hS3.2 hg (by omega)⟩
            replace hz4 := hz4.grown hg (by omega)
            replace hz5 := hz5.grown hg (by omega)
            replace hz3 := hn
            replace hB : Below (w.heap.size + 2) w0 v4 := hB.grown hg hw0 (fun k e => by simp at e; omega)
            replace hw0 := Nat.le_trans hw0 hg.size
            refine hK.out _ _ hS4 (fun _ => ?_)
            clear hK K hn hg hz hS3
            try simp only [Act.put, List.setIfInBounds_toArray, List.set_cons_zero, List.set_cons_succ]
            refine wpAnyH_ready (rs := [7]) (by kernel_rfl) (by simp) ?_
            refine AllReadyH.cons rfl (fun K hK => ?_) AllReadyH.nil
            · try rw [if_pos (by rfl)]
              refine wp_store_vb' (T := 28) (vs := [.int .i64 2, .int .i64 0, .int .i64 1, .int .i64 0, .int .i64 0, .int .i64 0, .int .u8 0, .int .u8 0, .int .u8 0, .int .u8 0, .int .u8 0, .int .u8 0, .slice none 0 0]) none rfl (.tmp 4) (.tmp 11) rfl rfl rfl hz4 rfl agg_rule rfl ?_
              intro v5 hn hg hz
              have hS5 : (fun W => Vb 28 W w.heap.size [.int .i64 1, .int .i64 0, .int .i64 0, .int .i64 0, .int .i64 0, .int .i64 (-1), .int .u8 0, .int .u8 0, .int .u8 0, .int .u8 0, .int .u8 0, .int .u8 0, .slice none 0 0] ∧ Vb 28 W (w.heap.size + 1) [.int .i64 2, .int .i64 0, .int .i64 1, .int .i64 0, .int .i64 0, .int .i64 0, .int .u8 0, .int .u8 0, .int .u8 0, .int .u8 0, .int .u8 0, .int .u8 0, .slice none 0 0]) v5 := ⟨Vb.grown hS4.1 hg (by omega), Vb.grown hS4.2 hg (by omega)⟩
              replace hz3 := hz3.grown hg (by omega)
              replace hz5 := hz5.grown hg (by omega)
              replace hz4 := hn
              replace hB : Below (w.heap.size + 2) w0 v5 := hB.grown hg hw0 (fun k e => by simp at e; omega)
              replace hw0 := Nat.le_trans hw0 hg.size
              refine hK.out _ _ hS5 (fun _ => ?_)
              clear hK K hn hg hz hS4
              try simp only [Act.put, List.setIfInBounds_toArray, List.set_cons_zero, List.set_cons_succ]
              refine wpAnyH_ready (rs := [8]) (by kernel_rfl) (by simp) ?_
              refine AllReadyH.cons rfl (fun K hK => ?_) AllReadyH.nil
              · try rw [if_pos (by rfl)]
                refine wp_store_vb' (T := 28) (vs := [.int .i64 1, .int .i64 0, .int .i64 0, .int .i64 0, .int .i64 0, .int .i64 (-1), .int .u8 0, .int .u8 0, .int .u8 0, .int .u8 0, .int .u8 0, .int .u8 0, .slice none 0 0]) none rfl (.tmp 5) (.tmp 12) rfl rfl rfl hz5 rfl agg_rule rfl ?_
                intro v6 hn hg hz
                have hS6 : (fun W => Vb 28 W w.heap.size [.int .i64 1, .int .i64 0, .int .i64 0, .int .i64 0, .int .i64 0, .int .i64 (-1), .int .u8 0, .int .u8 0, .int .u8 0, .int .u8 0, .int .u8 0, .int .u8 0, .slice none 0 0] ∧ Vb 28 W (w.heap.size + 1) [.int .i64 2, .int .i64 0, .int .i64 1, .int .i64 0, .int .i64 0, .int .i64 0, .int .u8 0, .int .u8 0, .int .u8 0, .int .u8 0, .int .u8 0, .int .u8 0, .slice none 0 0]) v6 := ⟨Vb.grown hS5.1 hg (by omega), Vb.grown hS5.2 hg (by omega)⟩
                replace hz3 := hz3.grown hg (by omega)
                replace hz4 := hz4.grown hg (by omega)
                replace hz5 := hn
                replace hB : Below (w.heap.size + 2) w0 v6 := hB.grown hg hw0 (fun k e => by simp at e; omega)
                replace hw0 := Nat.le_trans hw0 hg.size
                refine hK.out _ _ hS6 (fun _ => ?_)
                clear hK K hn hg hz hS5
                try simp only [Act.put, List.setIfInBounds_toArray, List.set_cons_zero, List.set_cons_succ]
                refine wpAnyH_done (by kernel_rfl) ?_ _
                go_wp2_with fail
                go_meet
                case rel => exact ⟨_, _, _, rfl, rfl, rfl, hz3, hz4, hz5, ⟨by omega, by omega, by omega⟩, ⟨by omega, by omega, by omega⟩, hB⟩
      · try rw [if_pos (by rfl)]
        go_simp
        have hb := below_alloc v1 (.cells #[.int .i64 0, .int .i64 0, .int .i64 0, .int .i64 0, .int .i64 0, .int .i64 0, .int .u8 0, .int .u8 0, .int .u8 0, .int .u8 0, .int .u8 0, .int .u8 0, .slice none 0 0] 28)
        have hz5 := Vb.new 28 v1 [.int .i64 0, .int .i64 0, .int .i64 0, .int .i64 0, .int .i64 0, .int .i64 0, .int .u8 0, .int .u8 0, .int .u8 0, .int .u8 0, .int .u8 0, .int .u8 0, .slice none 0 0]
        have hS7 : (fun W => Vb 28 W w.heap.size [.int .i64 1, .int .i64 0, .int .i64 0, .int .i64 0, .int .i64 0, .int .i64 (-1), .int .u8 0, .int .u8 0, .int .u8 0, .int .u8 0, .int .u8 0, .int .u8 0, .slice none 0 0] ∧ Vb 28 W (w.heap.size + 1) [.int .i64 2, .int .i64 0, .int .i64 1, .int .i64 0, .int .i64 0, .int .i64 0, .int .u8 0, .int .u8 0, .int .u8 0, .int .u8 0, .int .u8 0, .int .u8 0, .slice none 0 0]) (v1.alloc (.cells #[.int .i64 0, .int .i64 0, .int .i64 0, .int .i64 0, .int .i64 0, .int .i64 0, .int .u8 0, .int .u8 0, .int .u8 0, .int .u8 0, .int .u8 0, .int .u8 0, .slice none 0 0] 28)) := ⟨hS1.1.alloc _, hS1.2.alloc _⟩
        have hl5 := hw0
        have hlt3_5 := hz3.lt
        replace hz3 := hz3.alloc (.cells #[.int .i64 0, .int .i64 0, .int .i64 0, .int .i64 0, .int .i64 0, .int .i64 0, .int .u8 0, .int .u8 0, .int .u8 0, .int .u8 0, .int .u8 0, .int .u8 0, .slice none 0 0] 28)
        replace hB := hB.trans (hb.mono hw0)
        replace hw0 := Nat.le_trans hw0 hb.size
        refine hK.out _ _ hS7 (fun _ => ?_)
        clear hK K hb
        try simp only [Act.put, List.setIfInBounds_toArray, List.set_cons_zero, List.set_cons_succ]
        clear hS1
        generalize hu7 : v1.alloc (.cells #[.int .i64 0, .int .i64 0, .int .i64 0, .int .i64 0, .int .i64 0, .int .i64 0, .int .u8 0, .int .u8 0, .int .u8 0, .int .u8 0, .int .u8 0, .int .u8 0, .slice none 0 0] 28) = v7 at *
        generalize v1.heap.size = q5 at *
        clear hu7
        refine wpAnyH_ready (rs := [4]) (by kernel_rfl) (by simp) ?_
        refine AllReadyH.cons rfl (fun K hK => ?_) AllReadyH.nil
        · try rw [if_pos (by rfl)]
          go_simp
          have hb := below_alloc v7 (.cells #[.int .i64 0, .int .i64 0, .int .i64 0, .int .i64 0, .int .i64 0, .int .i64 0, .int .u8 0, .int .u8 0, .int .u8 0, .int .u8 0, .int .u8 0, .int .u8 0, .slice none 0 0] 28)
          have hz4 := Vb.new 28 v7 [.int .i64 0, .int .i64 0, .int .i64 0, .int .i64 0, .int .i64 0, .int .i64 0, .int .u8 0, .int .u8 0, .int .u8 0, .int .u8 0, .int .u8 0, .int .u8 0, .slice none 0 0]
          have hS8 : (fun W => Vb 28 W w.heap.size [.int .i64 1, .int .i64 0, .int .i64 0, .int .i64 0, .int .i64 0, .int .i64 (-1), .int .u8 0, .int .u8 0, .int .u8 0, .int .u8 0, .int .u8 0, .int .u8 0, .slice none 0 0] ∧ Vb 28 W (w.heap.size + 1) [.int .i64 2, .int .i64 0, .int .i64 1, .int .i64 0, .int .i64 0, .int .i64 0, .int .u8 0, .int .u8 0, .int .u8 0, .int .u8 0, .int .u8 0, .int .u8 0, .slice none 0 0]) (v7.alloc (.cells #[.int .i64 0, .int .i64 0, .int .i64 0, .int .i64 0, .int .i64 0, .int .i64 0, .int .u8 0, .int .u8 0, .int .u8 0, .int .u8 0, .int .u8 0, .int .u8 0, .slice none 0 0] 28)) := ⟨hS7.1.alloc _, hS7.2.alloc _⟩
          have hl4 := hw0
          have hlt3_4 := hz3.lt
          have hlt5_4 := hz5.lt
          replace hz3 := hz3.alloc (.cells #[.int .i64 0, .int .i64 0, .int .i64 0, .int .i64 0, .int .i64 0, .int .i64 0, .int .u8 0, .int .u8 0, .int .u8 0, .int .u8 0, .int .u8 0, .int .u8 0, .slice none 0 0] 28)
          replace hz5 := hz5.alloc (.cells #[.int .i64 0, .int .i64 0, .int .i64 0, .int .i64 0, .int .i64 0, .int .i64 0, .int .u8 0, .int .u8 0, .int .u8 0, .int .u8 0, .int .u8 0, .int .u8 0, .slice none 0 0] 28)
          replace hB := hB.trans (hb.mono hw0)
          replace hw0 := Nat.le_trans hw0 hb.size
          refine hK.out _ _ hS8 (fun _ => ?_)
          clear hK K hb
          try simp only [Act.put, List.setIfInBounds_toArray, List.set_cons_zero, List.set_cons_succ]
          clear hS7
          generalize hu8 : v7.alloc (.cells #[.int .i64 0, .int .i64 0, .int .i64 0, .int .i64 0, .int .i64 0, .int .i64 0, .int .u8 0, .int .u8 0, .int .u8 0, .int .u8 0, .int .u8 0, .int .u8 0, .slice none 0 0] 28) = v8 at *
          generalize v7.heap.size = q4 at *
          clear hu8
          refine wpAnyH_ready (rs := [6]) (by kernel_rfl) (by simp) ?_
          refine AllReadyH.cons rfl (fun K hK => ?_) AllReadyH.nil
          · try rw [if_pos (by rfl)]
            refine wp_store_vb' (T := 28) (vs := [.int .i64 1, .int .i64 0, .int .i64 0, .int .i64 0, .int .i64 0, .int .i64 (-1), .int .u8 0, .int .u8 0, .int .u8 0, .int .u8 0, .int .u8 0, .int .u8 0, .slice none 0 0]) none rfl (.tmp 3) (.tmp 10) rfl rfl rfl hz3 rfl agg_rule rfl ?_
            intro v9 hn hg hz
            have hS9 : (fun W => Vb 28 W w.heap.size [.int .i64 1, .int .i64 0, .int .i64 0, .int .i64 0, .int .i64 0, .int .i64 (-1), .int .u8 0, .int .u8 0, .int .u8 0, .int .u8 0, .int .u8 0, .int .u8 0, .slice none 0 0] ∧ Vb 28 W (w.heap.size + 1) [.int .i64 2, .int .i64 0, .int .i64 1, .int .i64 0, .int .i64 0, .int .i64 0, .int .u8 0, .int .u8 0, .int .u8 0, .int .u8 0, .int .u8 0, .int .u8 0, .slice none 0 0]) v9 := ⟨Vb.grown hS8.1 hg (by omega), Vb.grown hS8.2 hg (by omega)⟩
            replace hz5 := hz5.grown hg (by omega)
            replace hz4 := hz4.grown hg (by omega)
            replace hz3 := hn
            replace hB : Below (w.heap.size + 2) w0 v9 := hB.grown hg hw0 (fun k e => by simp at e; omega)
            replace hw0 := Nat.le_trans hw0 hg.size
            refine hK.out _ _ hS9 (fun _ => ?_)
            clear hK K hn hg hz hS8
            try simp only [Act.put, List.setIfInBounds_toArray, List.set_cons_zero, List.set_cons_succ]
            refine wpAnyH_ready (rs := [7]) (by kernel_rfl) (by simp) ?_
            refine AllReadyH.cons rfl (fun K hK => ?_) AllReadyH.nil
            · try rw [if_pos (by rfl)]
              refine wp_store_vb' (T := 28) (vs := [.int .i64 2, .int .i64 0, .int .i64 1, .int .i64 0, .int .i64 0, .int .i64 0, .int .u8 0, .int .u8 0, .int .u8 0, .int .u8 0, .int .u8 0, .int .u8 0, .slice none 0 0]) none rfl (.tmp 4) (.tmp 11) rfl rfl rfl hz4 rfl agg_rule rfl ?_
              intro v10 hn hg hz
              have hS10 : (fun W => Vb 28 W w.heap.size [.int .i64 1, .int .i64 0, .int .i64 0, .int .i64 0, .int .i64 0, .int .i64 (-1), .int .u8 0, .int .u8 0, .int .u8 0, .int .u8 0, .int .u8 0, .int .u8 0, .slice none 0 0] ∧ Vb 28 W (w.heap.size + 1) [.int .i64 2, .int .i64 0, .int .i64 1, .int .i64 0, .int .i64 0, .int .i64 0, .int .u8 0, .int .u8 0, .int .u8 0, .int .u8 0, .int .u8 0, .int .u8 0, .slice none 0 0]) v10 := ⟨Vb.grown hS9.1 hg (by omega), Vb.grown hS9.2 hg (by omega)⟩
              replace hz3 := hz3.grown hg (by omega)
              replace hz5 := hz5.grown hg (by omega)
              replace hz4 := hn
              replace hB : Below (w.heap.size + 2) w0 v10 := hB.grown hg hw0 (fun k e => by simp at e; omega)
              replace hw0 := Nat.le_trans hw0 hg.size
              refine hK.out _ _ hS10 (fun _ => ?_)
              clear hK K hn hg hz hS9
              try simp only [Act.put, List.setIfInBounds_toArray, List.set_cons_zero, List.set_cons_succ]
              refine wpAnyH_ready (rs := [8]) (by kernel_rfl) (by simp) ?_
              refine AllReadyH.cons rfl (fun K hK => ?_) AllReadyH.nil
              · try rw [if_pos (by rfl)]
                refine wp_store_vb' (T := 28) (vs := [.int .i64 1, .int .i64 0, .int .i64 0, .int .i64 0, .int .i64 0, .int .i64 (-1), .int .u8 0, .int .u8 0, .int .u8 0, .int .u8 0, .int .u8 0, .int .u8 0, .slice none 0 0]) none rfl (.tmp 5) (.tmp 12) rfl rfl rfl hz5 rfl agg_rule rfl ?_
                intro v11 hn hg hz
                have hS11 : (fun W => Vb 28 W w.heap.size [.int .i64 1, .int .i64 0, .int .i64 0, .int .i64 0, .int .i64 0, .int .i64 (-1), .int .u8 0, .int .u8 0, .int .u8 0, .int .u8 0, .int .u8 0, .int .u8 0, .slice none 0 0] ∧ Vb 28 W (w.heap.size + 1) [.int .i64 2, .int .i64 0, .int .i64 1, .int .i64 0, .int .i64 0, .int .i64 0, .int .u8 0, .int .u8 0, .int .u8 0, .int .u8 0, .int .u8 0, .int .u8 0, .slice none 0 0]) v11 := ⟨Vb.grown hS10.1 hg (by omega), Vb.grown hS10.2 hg (by omega)⟩
                replace hz3 := hz3.grown hg (by omega)
                replace hz4 := hz4.grown hg (by omega)
                replace hz5 := hn
                replace hB : Below (w.heap.size + 2) w0 v11 := hB.grown hg hw0 (fun k e => by simp at e; omega)
                replace hw0 := Nat.le_trans hw0 hg.size
                refine hK.out _ _ hS11 (fun _ => ?_)
                clear hK K hn hg hz hS10
                try simp only [Act.put, List.setIfInBounds_toArray, List.set_cons_zero, List.set_cons_succ]
                refine wpAnyH_done (by kernel_rfl) ?_ _
                go_wp2_with fail
                go_meet
                case rel => exact ⟨_, _, _, rfl, rfl, rfl, hz3, hz4, hz5, ⟨by omega, by omega, by omega⟩, ⟨by omega, by omega, by omega⟩, hB⟩
    · try rw [if_pos (by rfl)]
      go_simp
      have hb := below_alloc u0 (.cells #[.int .i64 0, .int .i64 0, .int .i64 0, .int .i64 0, .int .i64 0, .int .i64 0, .int .u8 0, .int .u8 0, .int .u8 0, .int .u8 0, .int .u8 0, .int .u8 0, .slice none 0 0] 28)
      have hz4 := Vb.new 28 u0 [.int .i64 0, .int .i64 0, .int .i64 0, .int .i64 0, .int .i64 0, .int .i64 0, .int .u8 0, .int .u8 0, .int .u8 0, .int .u8 0, .int .u8 0, .int .u8 0, .slice none 0 0]
      have hS12 : (fun W => Vb 28 W w.heap.size [.int .i64 1, .int .i64 0, .int .i64 0, .int .i64 0, .int .i64 0, .int .i64 (-1), .int .u8 0, .int .u8 0, .int .u8 0, .int .u8 0, .int .u8 0, .int .u8 0, .slice none 0 0] ∧ Vb 28 W (w.heap.size + 1) [.int .i64 2, .int .i64 0, .int .i64 1, .int .i64 0, .int .i64 0, .int .i64 0, .int .u8 0, .int .u8 0, .int .u8 0, .int .u8 0, .int .u8 0, .int .u8 0, .slice none 0 0]) (u0.alloc (.cells #[.int .i64 0, .int .i64 0, .int .i64 0, .int .i64 0, .int .i64 0, .int .i64 0, .int .u8 0, .int .u8 0, .int .u8 0, .int .u8 0, .int .u8 0, .int .u8 0, .slice none 0 0] 28)) := ⟨hS0.1.alloc _, hS0.2.alloc _⟩
      have hl4 := hw0
      replace hB := hB.trans (hb.mono hw0)
      replace hw0 := Nat.le_trans hw0 hb.size
      refine hK.out _ _ hS12 (fun _ => ?_)
      clear hK K hb
      try simp only [Act.put, List.setIfInBounds_toArray, List.set_cons_zero, List.set_cons_succ]
      clear hS0
      generalize hu12 : u0.alloc (.cells #[.int .i64 0, .int .i64 0, .int .i64 0, .int .i64 0, .int .i64 0, .int .i64 0, .int .u8 0, .int .u8 0, .int .u8 0, .int .u8 0, .int .u8 0, .int .u8 0, .slice none 0 0] 28) = v12 at *
      generalize u0.heap.size = q4 at *
      clear hu12
      refine wpAnyH_ready (rs := [3, 5]) (by kernel_rfl) (by simp) ?_
      refine AllReadyH.cons rfl (fun K hK => ?_) (AllReadyH.cons rfl (fun K hK => ?_) AllReadyH.nil)
      · try rw [if_pos (by rfl)]
        go_simp
        have hb := below_alloc v12 (.cells #[.int .i64 0, .int .i64 0, .int .i64 0, .int .i64 0, .int .i64 0, .int .i64 0, .int .u8 0, .int .u8 0, .int .u8 0, .int .u8 0, .int .u8 0, .int .u8 0, .slice none 0 0] 28)
        have hz3 := Vb.new 28 v12 [.int .i64 0, .int .i64 0, .int .i64 0, .int .i64 0, .int .i64 0, .int .i64 0, .int .u8 0, .int .u8 0, .int .u8 0, .int .u8 0, .int .u8 0, .int .u8 0, .slice none 0 0]
        have hS13 : (fun W => Vb 28 W w.heap.size [.int .i64 1, .int .i64 0, .int .i64 0, .int .i64 0, .int .i64 0, .int .i64 (-1), .int .u8 0, .int .u8 0, .int .u8 0, .int .u8 0, .int .u8 0, .int .u8 0, .slice none 0 0] ∧ Vb 28 W (w.heap.size + 1) [.int .i64 2, .int .i64 0, .int .i64 1, .int .i64 0, .int .i64 0, .int .i64 0, .int .u8 0, .int .u8 0, .int .u8 0, .int .u8 0, .int .u8 0, .int .u8 0, .slice none 0 0]) (v12.alloc (.cells #[.int .i64 0, .int .i64 0, .int .i64 0, .int .i64 0, .int .i64 0, .int .i64 0, .int .u8 0, .int .u8 0, .int .u8 0, .int .u8 0, .int .u8 0, .int .u8 0, .slice none 0 0] 28)) := ⟨hS12.1.alloc _, hS12.2.alloc _⟩
        have hl3 := hw0
        have hlt4_3 := hz4.lt
        replace hz4 := hz4.alloc (.cells #[.int .i64 0, .int .i64 0, .int .i64 0, .int .i64 0, .int .i64 0, .int .i64 0, .int .u8 0, .int .u8 0, .int .u8 0, .int .u8 0, .int .u8 0, .int .u8 0, .slice none 0 0] 28)
        replace hB := hB.trans (hb.mono hw0)
        replace hw0 := Nat.le_trans hw0 hb.size
        refine hK.out _ _ hS13 (fun _ => ?_)
        clear hK K hb
        try simp only [Act.put, List.setIfInBounds_toArray, List.set_cons_zero, List.set_cons_succ]
        clear hS12
        generalize hu13 : v12.alloc (.cells #[.int .i64 0, .int .i64 0, .int .i64 0, .int .i64 0, .int .i64 0, .int .i64 0, .int .u8 0, .int .u8 0, .int .u8 0, .int .u8 0, .int .u8 0, .int .u8 0, .slice none 0 0] 28) = v13 at *
        generalize v12.heap.size = q3 at *
        clear hu13
        refine wpAnyH_ready (rs := [5]) (by kernel_rfl) (by simp) ?_
        refine AllReadyH.cons rfl (fun K hK => ?_) AllReadyH.nil
        · try rw [if_pos (by rfl)]
          go_simp
          have hb := below_alloc v13 (.cells #[.int .i64 0, .int .i64 0, .int .i64 0, .int .i64 0, .int .i64 0, .int .i64 0, .int .u8 0, .int .u8 0, .int .u8 0, .int .u8 0, .int .u8 0, .int .u8 0, .slice none 0 0] 28)
          have hz5 := Vb.new 28 v13 [.int .i64 0, .int .i64 0, .int .i64 0, .int .i64 0, .int .i64 0, .int .i64 0, .int .u8 0, .int .u8 0, .int .u8 0, .int .u8 0, .int .u8 0, .int .u8 0, .slice none 0 0]
          have hS14 : (fun W => Vb 28 W w.heap.size [.int .i64 1, .int .i64 0, .int .i64 0, .int .i64 0, .int .i64 0, .int .i64 (-1), .int .u8 0, .int .u8 0, .int .u8 0, .int .u8 0, .int .u8 0, .int .u8 0, .slice none 0 0] ∧ Vb 28 W (w.heap.size + 1) [.int .i64 2, .int .i64 0, .int .i64 1, .int .i64 0, .int .i64 0, .int .i64 0, .int .u8 0, .int .u8 0, .int .u8 0, .int .u8 0, .int .u8 0, .int .u8 0, .slice none 0 0]) (v13.alloc (.cells #[.int .i64 0, .int .i64 0, .int .i64 0, .int .i64 0, .int .i64 0, .int .i64 0, .int .u8 0, .int .u8 0, .int .u8 0, .int .u8 0, .int .u8 0, .int .u8 0, .slice none 0 0] 28)) := ⟨hS13.1.alloc _, hS13.2.alloc _⟩
          have hl5 := hw0
          have hlt4_5 := hz4.lt
          have hlt3_5 := hz3.lt
          replace hz4 := hz4.alloc (.cells #[.int .i64 0, .int .i64 0, .int .i64 0, .int .i64 0, .int .i64 0, .int .i64 0, .int .u8 0, .int .u8 0, .int .u8 0, .int .u8 0, .int .u8 0, .int .u8 0, .slice none 0 0] 28)
          replace hz3 := hz3.alloc (.cells #[.int .i64 0, .int .i64 0, .int .i64 0, .int .i64 0, .int .i64 0, .int .i64 0, .int .u8 0, .int .u8 0, .int .u8 0, .int .u8 0, .int .u8 0, .int .u8 0, .slice none 0 0] 28)
          replace hB := hB.trans (hb.mono hw0)
          replace hw0 := Nat.le_trans hw0 hb.size
          refine hK.out _ _ hS14 (fun _ => ?_)
          clear hK K hb
          try simp only [Act.put, List.setIfInBounds_toArray, List.set_cons_zero, List.set_cons_succ]
          clear hS13
          generalize hu14 : v13.alloc (.cells #[.int .i64 0, .int .i64 0, .int .i64 0, .int .i64 0, .int .i64 0, .int .i64 0, .int .u8 0, .int .u8 0, .int .u8 0, .int .u8 0, .int .u8 0, .int .u8 0, .slice none 0 0] 28) = v14 at *
          generalize v13.heap.size = q5 at *
          clear hu14
          refine wpAnyH_ready (rs := [6]) (by kernel_rfl) (by simp) ?_
          refine AllReadyH.cons rfl (fun K hK => ?_) AllReadyH.nil
          · try rw [if_pos (by rfl)]
            refine wp_store_vb' (T := 28) (vs := [.int .i64 1, .int .i64 0, .int .i64 0, .int .i64 0, .int .i64 0, .int .i64 (-1), .int .u8 0, .int .u8 0, .int .u8 0, .int .u8 0, .int .u8 0, .int .u8 0, .slice none 0 0]) none rfl (.tmp 3) (.tmp 10) rfl rfl rfl hz3 rfl agg_rule rfl ?_
            intro v15 hn hg hz
            have hS15 : (fun W => Vb 28 W w.heap.size [.int .i64 1, .int .i64 0, .int .i64 0, .int .i64 0, .int .i64 0, .int .i64 (-1), .int .u8 0, .int .u8 0, .int .u8 0, .int .u8 0, .int .u8 0, .int .u8 0, .slice none 0 0] ∧ Vb 28 W (w.heap.size + 1) [.int .i64 2, .int .i64 0, .int .i64 1, .int .i64 0, .int .i64 0, .int .i64 0, .int .u8 0, .int .u8 0, .int .u8 0, .int .u8 0, .int .u8 0, .int .u8 0, .slice none 0 0]) v15 := ⟨Vb.grown hS14.1 hg (by omega), Vb.grown hS14.2 hg (by omega)⟩
            replace hz4 := hz4.grown hg (by omega)
            replace hz5 := hz5.grown hg (by omega)
            replace hz3 := hn
            replace hB : Below (w.heap.size + 2) w0 v15 := hB.grown hg hw0 (fun k e => by simp at e; omega)
            replace hw0 := Nat.le_trans hw0 hg.size
            refine hK.out _ _ hS15 (fun _ => ?_)
            clear hK K hn hg hz hS14
            try simp only [Act.put, List.setIfInBounds_toArray, List.set_cons_zero, List.set_cons_succ]
            refine wpAnyH_ready (rs := [7]) (by kernel_rfl) (by simp) ?_
            refine AllReadyH.cons rfl (fun K hK => ?_) AllReadyH.nil
            · try rw [if_pos (by rfl)]
              refine wp_store_vb' (T := 28) (vs := [.int .i64 2, .int .i64 0, .int .i64 1, .int .i64 0, .int .i64 0, .int .i64 0, .int .u8 0, .int .u8 0, .int .u8 0, .int .u8 0, .int .u8 0, .int .u8 0, .slice none 0 0]) none rfl (.tmp 4) (.tmp 11) rfl rfl rfl hz4 rfl agg_rule rfl ?_
              intro v16 hn hg hz
              have hS16 : (fun W => Vb 28 W w.heap.size [.int .i64 1, .int .i64 0, .int .i64 0, .int .i64 0, .int .i64 0, .int .i64 (-1), .int .u8 0, .int .u8 0, .int .u8 0, .int .u8 0, .int .u8 0, .int .u8 0, .slice none 0 0] ∧ Vb 28 W (w.heap.size + 1) [.int .i64 2, .int .i64 0, .int .i64 1, .int .i64 0, .int .i64 0, .int .i64 0, .int .u8 0, .int .u8 0, .int .u8 0, .int .u8 0, .int .u8 0, .int .u8 0, .slice none 0 0]) v16 := ⟨Vb.grown hS15.1 hg (by omega), Vb.grown hS15.2 hg (by omega)⟩
              replace hz3 := hz3.grown hg (by omega)
              replace hz5 := hz5.grown hg (by omega)
              replace hz4 := hn
              replace hB : Below (w.heap.size + 2) w0 v16 := hB.grown hg hw0 (fun k e => by simp at e; omega)
              replace hw0 := Nat.le_trans hw0 hg.size
              refine hK.out _ _ hS16 (fun _ => ?_)
              clear hK K hn hg hz hS15
              try simp only [Act.put, List.setIfInBounds_toArray, List.set_cons_zero, List.set_cons_succ]
              refine wpAnyH_ready (rs := [8]) (by kernel_rfl) (by simp) ?_
              refine AllReadyH.cons rfl (fun K hK => ?_) AllReadyH.nil
              · try rw [if_pos (by rfl)]
                refine wp_store_vb' (T := 28) (vs := [.int .i64 1, .int .i64 0, .int .i64 0, .int .i64 0, .int .i64 0, .int .i64 (-1), .int .u8 0, .int .u8 0, .int .u8 0, .int .u8 0, .int .u8 0, .int .u8 0, .slice none 0 0]) none rfl (.tmp 5) (.tmp 12) rfl rfl rfl hz5 rfl agg_rule rfl ?_
                intro v17 hn hg hz
                have hS17 : (fun W => Vb 28 W w.heap.size [.int .i64 1, .int .i64 0, .int .i64 0, .int .i64 0, .int .i64 0, .int .i64 (-1), .int .u8 0, .int .u8 0, .int .u8 0, .int .u8 0, .int .u8 0, .int .u8 0, .slice none 0 0] ∧ Vb 28 W (w.heap.size + 1) [.int .i64 2, .int .i64 0, .int .i64 1, .int .i64 0, .int .i64 0, .int .i64 0, .int .u8 0, .int .u8 0, .int .u8 0, .int .u8 0, .int .u8 0, .int .u8 0, .slice none 0 0]) v17 := ⟨Vb.grown hS16.1 hg (by omega), Vb.grown hS16.2 hg (by omega)⟩
                replace hz4 := hz4.grown hg (by omega)
                replace hz3 := hz3.grown hg (by omega)
                replace hz5 := hn
                replace hB : Below (w.heap.size + 2) w0 v17 := hB.grown hg hw0 (fun k e => by simp at e; omega)
                replace hw0 := Nat.le_trans hw0 hg.size
                refine hK.out _ _ hS17 (fun _ => ?_)
                clear hK K hn hg hz hS16
                try simp only [Act.put, List.setIfInBounds_toArray, List.set_cons_zero, List.set_cons_succ]
                refine wpAnyH_done (by kernel_rfl) ?_ _
                go_wp2_with fail
                go_meet
                case rel => exact ⟨_, _, _, rfl, rfl, rfl, hz3, hz4, hz5, ⟨by omega, by omega, by omega⟩, ⟨by omega, by omega, by omega⟩, hB⟩
      · try rw [if_pos (by rfl)]
        go_simp
        have hb := below_alloc v12 (.cells #[.int .i64 0, .int .i64 0, .int .i64 0, .int .i64 0, .int .i64 0, .int .i64 0, .int .u8 0, .int .u8 0, .int .u8 0, .int .u8 0, .int .u8 0, .int .u8 0, .slice none 0 0] 28)
        have hz5 := Vb.new 28 v12 [.int .i64 0, .int .i64 0, .int .i64 0, .int .i64 0, .int .i64 0, .int .i64 0, .int .u8 0, .int .u8 0, .int .u8 0, .int .u8 0, .int .u8 0, .int .u8 0, .slice none 0 0]
        have hS18 : (fun W => Vb 28 W w.heap.size [.int .i64 1, .int .i64 0, .int .i64 0, .int .i64 0, .int .i64 0, .int .i64 (-1), .int .u8 0, .int .u8 0, .int .u8 0, .int .u8 0, .int .u8 0, .int .u8 0, .slice none 0 0] ∧ Vb 28 W (w.heap.size + 1) [.int .i64 2, .int .i64 0, .int .i64 1, .int .i64 0, .int .i64 0, .int .i64 0, .int .u8 0, .int .u8 0, .int .u8 0, .int .u8 0, .int .u8 0, .int .u8 0, .slice none 0 0]) (v12.alloc (.cells #[.int .i64 0, .int .i64 0, .int .i64 0, .int .i64 0, .int .i64 0, .int .i64 0, .int .u8 0, .int .u8 0, .int .u8 0, .int .u8 0, .int .u8 0, .int .u8 0, .slice none 0 0] 28)) := ⟨hS12.1.alloc _, hS12.2.alloc _⟩
        have hl5 := hw0
        have hlt4_5 := hz4.lt
        replace hz4 := hz4.alloc (.cells #[.int .i64 0, .int .i64 0, .int .i64 0, .int .i64 0, .int .i64 0, .int .i64 0, .int .u8 0, .int .u8 0, .int .u8 0, .int .u8 0, .int .u8 0, .int .u8 0, .slice none 0 0] 28)
        replace hB := hB.trans (hb.mono hw0)
        replace hw0 := Nat.le_trans hw0 hb.size
        refine hK.out _ _ hS18 (fun _ => ?_)
        clear hK K hb
        try simp only [Act.put, List.setIfInBounds_toArray, List.set_cons_zero, List.set_cons_succ]
        clear hS12
        generalize hu18 : v12.alloc (.cells #[.int .i64 0, .int .i64 0, .int .i64 0, .int .i64 0, .int .i64 0, .int .i64 0, .int .u8 0, .int .u8 0, .int .u8 0, .int .u8 0, .int .u8 0, .int .u8 0, .slice none 0 0] 28) = v18 at *
        generalize v12.heap.size = q5 at *
        clear hu18
        refine wpAnyH_ready (rs := [3]) (by kernel_rfl) (by simp) ?_
        refine AllReadyH.cons rfl (fun K hK => ?_) AllReadyH.nil
        · try rw [if_pos (by rfl)]
          go_simp
          have hb := below_alloc v18 (.cells #[.int .i64 0, .int .i64 0, .int .i64 0, .int .i64 0, .int .i64 0, .int .i64 0, .int .u8 0, .int .u8 0, .int .u8 0, .int .u8 0, .int .u8 0, .int .u8 0, .slice none 0 0] 28)
          have hz3 := Vb.new 28 v18 [.int .i64 0, .int .i64 0, .int .i64 0, .int .i64 0, .int .i64 0, .int .i64 0, .int .u8 0, .int .u8 0, .int .u8 0, .int .u8 0, .int .u8 0, .int .u8 0, .slice none 0 0]
          have hS19 : (fun W => Vb 28 W w.heap.size [.int .i64 1, .int .i64 0, .int .i64 0, .int .i64 0, .int .i64 0, .int .i64 (-1), .int .u8 0, .int .u8 0, .int .u8 0, .int .u8 0, .int .u8 0, .int .u8 0, .slice none 0 0] ∧ Vb 28 W (w.heap.size + 1) [.int .i64 2, .int .i64 0, .int .i64 1, .int .i64 0, .int .i64 0, .int .i64 0, .int .u8 0, .int .u8 0, .int .u8 0, .int .u8 0, .int .u8 0, .int .u8 0, .slice none 0 0]) (v18.alloc (.cells #[.int .i64 0, .int .i64 0, .int .i64 0, .int .i64 0, .int .i64 0, .int .i64 0, .int .u8 0, .int .u8 0, .int .u8 0, .int .u8 0, .int .u8 0, .int .u8 0, .slice none 0 0] 28)) := ⟨hS18.1.alloc _, hS18.2.alloc _⟩
          have hl3 := hw0
          have hlt4_3 := hz4.lt
          have hlt5_3 := hz5.lt
          replace hz4 := hz4.alloc (.cells #[.int .i64 0, .int .i64 0, .int .i64 0, .int .i64 0, .int .i64 0, .int .i64 0, .int .u8 0, .int .u8 0, .int .u8 0, .int .u8 0, .int .u8 0, .int .u8 0, .slice none 0 0] 28)
          replace hz5 := hz5.alloc (.cells #[.int .i64 0, .int .i64 0, .int .i64 0, .int .i64 0, .int .i64 0, .int .i64 0, .int .u8 0, .int .u8 0, .int .u8 0, .int .u8 0, .int .u8 0, .int .u8 0, .slice none 0 0] 28)
          replace hB := hB.trans (hb.mono hw0)
          replace hw0 := Nat.le_trans hw0 hb.size
          refine hK.out _ _ hS19 (fun _ => ?_)
          clear hK K hb
          try simp only [Act.put, List.setIfInBounds_toArray, List.set_cons_zero, List.set_cons_succ]
          clear hS18
          generalize hu19 : v18.alloc (.cells #[.int .i64 0, .int .i64 0, .int .i64 0, .int .i64 0, .int .i64 0, .int .i64 0, .int .u8 0, .int .u8 0, .int .u8 0, .int .u8 0, .int .u8 0, .int .u8 0, .slice none 0 0] 28) = v19 at *
          generalize v18.heap.size = q3 at *
          clear hu19
          refine wpAnyH_ready (rs := [6]) (by kernel_rfl) (by simp) ?_
          refine AllReadyH.cons rfl (fun K hK => ?_) AllReadyH.nil
          · try rw [if_pos (by rfl)]
            refine wp_store_vb' (T := 28) (vs := [.int .i64 1, .int .i64 0, .int .i64 0, .int .i64 0, .int .i64 0, .int .i64 (-1), .int .u8 0, .int .u8 0, .int .u8 0, .int .u8 0, .int .u8 0, .int .u8 0, .slice none 0 0]) none rfl (.tmp 3) (.tmp 10) rfl rfl rfl hz3 rfl agg_rule rfl ?_
            intro v20 hn hg hz
            have hS20 : (fun W => Vb 28 W w.heap.size [.int .i64 1, .int .i64 0, .int .i64 0, .int .i64 0, .int .i64 0, .int .i64 (-1), .int .u8 0, .int .u8 0, .int .u8 0, .int .u8 0, .int .u8 0, .int .u8 0, .slice none 0 0] ∧ Vb 28 W (w.heap.size + 1) [.int .i64 2, .int .i64 0, .int .i64 1, .int .i64 0, .int .i64 0, .int .i64 0, .int .u8 0, .int .u8 0, .int .u8 0, .int .u8 0, .int .u8 0, .int .u8 0, .slice none 0 0]) v20 := ⟨Vb.grown hS19.1 hg (by omega), Vb.grown hS19.2 hg (by omega)⟩
            replace hz4 := hz4.grown hg (by omega)
            replace hz5 := hz5.grown hg (by omega)
            replace hz3 := hn
            replace hB : Below (w.heap.size + 2) w0 v20 := hB.grown hg hw0 (fun k e => by simp at e; omega)
            replace hw0 := Nat.le_trans hw0 hg.size
            refine hK.out _ _ hS20 (fun _ => ?_)
            clear hK K hn hg hz hS19
            try simp only [Act.put, List.setIfInBounds_toArray, List.set_cons_zero, List.set_cons_succ]
            refine wpAnyH_ready (rs := [7]) (by kernel_rfl) (by simp) ?_
            refine AllReadyH.cons rfl (fun K hK => ?_) AllReadyH.nil
            · try rw [if_pos (by rfl)]
              refine wp_store_vb' (T := 28) (vs := [.int .i64 2, .int .i64 0, .int .i64 1, .int .i64 0, .int .i64 0, .int .i64 0, .int .u8 0, .int .u8 0, .int .u8 0, .int .u8 0, .int .u8 0, .int .u8 0, .slice none 0 0]) none rfl (.tmp 4) (.tmp 11) rfl rfl rfl hz4 rfl agg_rule rfl ?_
              intro v21 hn hg hz
              have hS21 : (fun W => Vb 28 W w.heap.size [.int .i64 1, .int .i64 0, .int .i64 0, .int .i64 0, .int .i64 0, .int .i64 (-1), .int .u8 0, .int .u8 0, .int .u8 0, .int .u8 0, .int .u8 0, .int .u8 0, .slice none 0 0] ∧ Vb 28 W (w.heap.size + 1) [.int .i64 2, .int .i64 0, .int .i64 1, .int .i64 0, .int .i64 0, .int .i64 0, .int .u8 0, .int .u8 0, .int .u8 0, .int .u8 0, .int .u8 0, .int .u8 0, .slice none 0 0]) v21 := ⟨Vb.grown hS20.1 hg (by omega), Vb.grown hS20.2 hg (by omega)⟩
              replace hz5 := hz5.grown hg (by omega)
              replace hz3 := hz3.grown hg (by omega)
              replace hz4 := hn
              replace hB : Below (w.heap.size + 2) w0 v21 := hB.grown hg hw0 (fun k e => by simp at e; omega)
              replace hw0 := Nat.le_trans hw0 hg.size
              refine hK.out _ _ hS21 (fun _ => ?_)
              clear hK K hn hg hz hS20
              try simp only [Act.put, List.setIfInBounds_toArray, List.set_cons_zero, List.set_cons_succ]
              refine wpAnyH_ready (rs := [8]) (by kernel_rfl) (by simp) ?_
              refine AllReadyH.cons rfl (fun K hK => ?_) AllReadyH.nil
              · try rw [if_pos (by rfl)]
                refine wp_store_vb' (T := 28) (vs := [.int .i64 1, .int .i64 0, .int .i64 0, .int .i64 0, .int .i64 0, .int .i64 (-1), .int .u8 0, .int .u8 0, .int .u8 0, .int .u8 0, .int .u8 0, .int .u8 0, .slice none 0 0]) none rfl (.tmp 5) (.tmp 12) rfl rfl rfl hz5 rfl agg_rule rfl ?_
                intro v22 hn hg hz
                have hS22 : (fun W => Vb 28 W w.heap.size [.int .i64 1, .int .i64 0, .int .i64 0, .int .i64 0, .int .i64 0, .int .i64 (-1), .int .u8 0, .int .u8 0, .int .u8 0, .int .u8 0, .int .u8 0, .int .u8 0, .slice none 0 0] ∧ Vb 28 W (w.heap.size + 1) [.int .i64 2, .int .i64 0, .int .i64 1, .int .i64 0, .int .i64 0, .int .i64 0, .int .u8 0, .int .u8 0, .int .u8 0, .int .u8 0, .int .u8 0, .int .u8 0, .slice none 0 0]) v22 := ⟨Vb.grown hS21.1 hg (by omega), Vb.grown hS21.2 hg (by omega)⟩
                replace hz4 := hz4.grown hg (by omega)
                replace hz3 := hz3.grown hg (by omega)
                replace hz5 := hn
                replace hB : Below (w.heap.size + 2) w0 v22 := hB.grown hg hw0 (fun k e => by simp at e; omega)
                replace hw0 := Nat.le_trans hw0 hg.size
                refine hK.out _ _ hS22 (fun _ => ?_)
                clear hK K hn hg hz hS21
                try simp only [Act.put, List.setIfInBounds_toArray, List.set_cons_zero, List.set_cons_succ]
                refine wpAnyH_done (by kernel_rfl) ?_ _
                go_wp2_with fail
                go_meet
                case rel => exact ⟨_, _, _, rfl, rfl, rfl, hz3, hz4, hz5, ⟨by omega, by omega, by omega⟩, ⟨by omega, by omega, by omega⟩, hB⟩
    · try rw [if_pos (by rfl)]
      go_simp
      have hb := below_alloc u0 (.cells #[.int .i64 0, .int .i64 0, .int .i64 0, .int .i64 0, .int .i64 0, .int .i64 0, .int .u8 0, .int .u8 0, .int .u8 0, .int .u8 0, .int .u8 0, .int .u8 0, .slice none 0 0] 28)
      have hz5 := Vb.new 28 u0 [.int .i64 0, .int .i64 0, .int .i64 0, .int .i64 0, .int .i64 0, .int .i64 0, .int .u8 0, .int .u8 0, .int .u8 0, .int .u8 0, .int .u8 0, .int .u8 0, .slice none 0 0]
      have hS23 : (fun W => Vb 28 W w.heap.size [.int .i64 1, .int .i64 0, .int .i64 0, .int .i64 0, .int .i64 0, .int .i64 (-1), .int .u8 0, .int .u8 0, .int .u8 0, .int .u8 0, .int .u8 0, .int .u8 0, .slice none 0 0] ∧ Vb 28 W (w.heap.size + 1) [.int .i64 2, .int .i64 0, .int .i64 1, .int .i64 0, .int .i64 0, .int .i64 0, .int .u8 0, .int .u8 0, .int .u8 0, .int .u8 0, .int .u8 0, .int .u8 0, .slice none 0 0]) (u0.alloc (.cells #[.int .i64 0, .int .i64 0, .int .i64 0, .int .i64 0, .int .i64 0, .int .i64 0, .int .u8 0, .int .u8 0, .int .u8 0, .int .u8 0, .int .u8 0, .int .u8 0, .slice none 0 0] 28)) := ⟨hS0.1.alloc _, hS0.2.alloc _⟩
      have hl5 := hw0
      replace hB := hB.trans (hb.mono hw0)
      replace hw0 := Nat.le_trans hw0 hb.size
      refine hK.out _ _ hS23 (fun _ => ?_)
      clear hK K hb
      try simp only [Act.put, List.setIfInBounds_toArray, List.set_cons_zero, List.set_cons_succ]
      clear hS0
      generalize hu23 : u0.alloc (.cells #[.int .i64 0, .int .i64 0, .int .i64 0, .int .i64 0, .int .i64 0, .int .i64 0, .int .u8 0, .int .u8 0, .int .u8 0, .int .u8 0, .int .u8 0, .int .u8 0, .slice none 0 0] 28) = v23 at *
      generalize u0.heap.size = q5 at *
      clear hu23
      refine wpAnyH_ready (rs := [3, 4]) (by kernel_rfl) (by simp) ?_
      refine AllReadyH.cons rfl (fun K hK => ?_) (AllReadyH.cons rfl (fun K hK => ?_) AllReadyH.nil)
      · try rw [if_pos (by rfl)]
        go_simp
        have hb := below_alloc v23 (.cells #[.int .i64 0, .int .i64 0, .int .i64 0, .int .i64 0, .int .i64 0, .int .i64 0, .int .u8 0, .int .u8 0, .int .u8 0, .int .u8 0, .int .u8 0, .int .u8 0, .slice none 0 0] 28)
        have hz3 := Vb.new 28 v23 [.int .i64 0, .int .i64 0, .int .i64 0, .int .i64 0, .int .i64 0, .int .i64 0, .int .u8 0, .int .u8 0, .int .u8 0, .int .u8 0, .int .u8 0, .int .u8 0, .slice none 0 0]
        have hS24 : (fun W => Vb 28 W w.heap.size [.int .i64 1, .int .i64 0, .int .i64 0, .int .i64 0, .int .i64 0, .int .i64 (-1), .int .u8 0, .int .u8 0, .int .u8 0, .int .u8 0, .int .u8 0, .int .u8 0, .slice none 0 0] ∧ Vb 28 W (w.heap.size + 1) [.int .i64 2, .int .i64 0, .int .i64 1, .int .i64 0, .int .i64 0, .int .i64 0, .int .u8 0, .int .u8 0, .int .u8 0, .int .u8 0, .int .u8 0, .int .u8 0, .slice none 0 0]) (v23.alloc (.cells #[.int .i64 0, .int .i64 0, .int .i64 0, .int .i64 0, .int .i64 0, .int .i64 0, .int .u8 0, .int .u8 0, .int .u8 0, .int .u8 0, .int .u8 0, .int .u8 0, .slice none 0 0] 28)) := ⟨hS23.1.alloc _, hS23.2.alloc _⟩
        have hl3 := hw0
        have hlt5_3 := hz5.lt
        replace hz5 := hz5.alloc (.cells #[.int .i64 0, .int .i64 0, .int .i64 0, .int .i64 0, .int .i64 0, .int .i64 0, .int .u8 0, .int .u8 0, .int .u8 0, .int .u8 0, .int .u8 0, .int .u8 0, .slice none 0 0] 28)
        replace hB := hB.trans (hb.mono hw0)
        replace hw0 := Nat.le_trans hw0 hb.size
        refine hK.out _ _ hS24 (fun _ => ?_)
        clear hK K hb
        try simp only [Act.put, List.setIfInBounds_toArray, List.set_cons_zero, List.set_cons_succ]
        clear hS23
        generalize hu24 : v23.alloc (.cells #[.int .i64 0, .int .i64 0, .int .i64 0, .int .i64 0, .int .i64 0, .int .i64 0, .int .u8 0, .int .u8 0, .int .u8 0, .int .u8 0, .int .u8 0, .int .u8 0, .slice none 0 0] 28) = v24 at *
        generalize v23.heap.size = q3 at *
        clear hu24
        refine wpAnyH_ready (rs := [4]) (by kernel_rfl) (by simp) ?_
        refine AllReadyH.cons rfl (fun K hK => ?_) AllReadyH.nil
        · try rw [if_pos (by rfl)]
          go_simp
          have hb := below_alloc v24 (.cells #[.int .i64 0, .int .i64 0, .int .i64 0, .int .i64 0, .int .i64 0, .int .i64 0, .int .u8 0, .int .u8 0, .int .u8 0, .int .u8 0, .int .u8 0, .int .u8 0, .slice none 0 0] 28)
          have hz4 := Vb.new 28 v24 [.int .i64 0, .int .i64 0, .int .i64 0, .int .i64 0, .int .i64 0, .int .i64 0, .int .u8 0, .int .u8 0, .int .u8 0, .int .u8 0, .int .u8 0, .int .u8 0, .slice none 0 0]
          have hS25 : (fun W => Vb 28 W w.heap.size [.int .i64 1, .int .i64 0, .int .i64 0, .int .i64 0, .int .i64 0, .int .i64 (-1), .int .u8 0, .int .u8 0, .int .u8 0, .int .u8 0, .int .u8 0, .int .u8 0, .slice none 0 0] ∧ Vb 28 W (w.heap.size + 1) [.int .i64 2, .int .i64 0, .int .i64 1, .int .i64 0, .int .i64 0, .int .i64 0, .int .u8 0, .int .u8 0, .int .u8 0, .int .u8 0, .int .u8 0, .int .u8 0, .slice none 0 0]) (v24.alloc (.cells #[.int .i64 0, .int .i64 0, .int .i64 0, .int .i64 0, .int .i64 0, .int .i64 0, .int .u8 0, .int .u8 0, .int .u8 0, .int .u8 0, .int .u8 0, .int .u8 0, .slice none 0 0] 28)) := ⟨hS24.1.alloc _, hS24.2.alloc _⟩
          have hl4 := hw0
          have hlt5_4 := hz5.lt
          have hlt3_4 := hz3.lt
          replace hz5 := hz5.alloc (.cells #[.int .i64 0, .int .i64 0, .int .i64 0, .int .i64 0, .int .i64 0, .int .i64 0, .int .u8 0, .int .u8 0, .int .u8 0, .int .u8 0, .int .u8 0, .int .u8 0, .slice none 0 0] 28)
          replace hz3 := hz3.alloc (.cells #[.int .i64 0, .int .i64 0, .int .i64 0, .int .i64 0, .int .i64 0, .int .i64 0, .int .u8 0, .int .u8 0, .int .u8 0, .int .u8 0, .int .u8 0, .int .u8 0, .slice none 0 0] 28)
          replace hB := hB.trans (hb.mono hw0)
          replace hw0 := Nat.le_trans hw0 hb.size
          refine hK.out _ _ hS25 (fun _ => ?_)
          clear hK K hb
          try simp only [Act.put, List.setIfInBounds_toArray, List.set_cons_zero, List.set_cons_succ]
          clear hS24
          generalize hu25 : v24.alloc (.cells #[.int .i64 0, .int .i64 0, .int .i64 0, .int .i64 0, .int .i64 0, .int .i64 0, .int .u8 0, .int .u8 0, .int .u8 0, .int .u8 0, .int .u8 0, .int .u8 0, .slice none 0 0] 28) = v25 at *
          generalize v24.heap.size = q4 at *
          clear hu25
          refine wpAnyH_ready (rs := [6]) (by kernel_rfl) (by simp) ?_
          refine AllReadyH.cons rfl (fun K hK => ?_) AllReadyH.nil
          · try rw [if_pos (by rfl)]
            refine wp_store_vb' (T := 28) (vs := [.int .i64 1, .int .i64 0, .int .i64 0, .int .i64 0, .int .i64 0, .int .i64 (-1), .int .u8 0, .int .u8 0, .int .u8 0, .int .u8 0, .int .u8 0, .int .u8 0, .slice none 0 0]) none rfl (.tmp 3) (.tmp 10) rfl rfl rfl hz3 rfl agg_rule rfl ?_
            intro v26 hn hg hz
            have hS26 : (fun W => Vb 28 W w.heap.size [.int .i64 1, .int .i64 0, .int .i64 0, .int .i64 0, .int .i64 0, .int .i64 (-1), .int .u8 0, .int .u8 0, .int .u8 0, .int .u8 0, .int .u8 0, .int .u8 0, .slice none 0 0] ∧ Vb 28 W (w.heap.size + 1) [.int .i64 2, .int .i64 0, .int .i64 1, .int .i64 0, .int .i64 0, .int .i64 0, .int .u8 0, .int .u8 0, .int .u8 0, .int .u8 0, .int .u8 0, .int .u8 0, .slice none 0 0]) v26 := ⟨Vb.grown hS25.1 hg (by omega), Vb.grown hS25.2 hg (by omega)⟩
            replace hz5 := hz5.grown hg (by omega)
            replace hz4 := hz4.grown hg (by omega)
            replace hz3 := hn
            replace hB : Below (w.heap.size + 2) w0 v26 := hB.grown hg hw0 (fun k e => by simp at e; omega)
            replace hw0 := Nat.le_trans hw0 hg.size
            refine hK.out _ _ hS26 (fun _ => ?_)
            clear hK K hn hg hz hS25
            try simp only [Act.put, List.setIfInBounds_toArray, List.set_cons_zero, List.set_cons_succ]
            refine wpAnyH_ready (rs := [7]) (by kernel_rfl) (by simp) ?_
            refine AllReadyH.cons rfl (fun K hK => ?_) AllReadyH.nil
            · try rw [if_pos (by rfl)]
              refine wp_store_vb' (T := 28) (vs := [.int .i64 2, .int .i64 0, .int .i64 1, .int .i64 0, .int .i64 0, .int .i64 0, .int .u8 0, .int .u8 0, .int .u8 0, .int .u8 0, .int .u8 0, .int .u8 0, .slice none 0 0]) none rfl (.tmp 4) (.tmp 11) rfl rfl rfl hz4 rfl agg_rule rfl ?_
              intro v27 hn hg hz
              have hS27 : (fun W => Vb 28 W w.heap.size [.int .i64 1, .int .i64 0, .int .i64 0, .int .i64 0, .int .i64 0, .int .i64 (-1), .int .u8 0, .int .u8 0, .int .u8 0, .int .u8 0, .int .u8 0, .int .u8 0, .slice none 0 0] ∧ Vb 28 W (w.heap.size + 1) [.int .i64 2, .int .i64 0, .int .i64 1, .int .i64 0, .int .i64 0, .int .i64 0, .int .u8 0, .int .u8 0, .int .u8 0, .int .u8 0, .int .u8 0, .int .u8 0, .slice none 0 0]) v27 := ⟨Vb.grown hS26.1 hg (by omega), Vb.grown hS26.2 hg (by omega)⟩
              replace hz5 := hz5.grown hg (by omega)
              replace hz3 := hz3.grown hg (by omega)
              replace hz4 := hn
              replace hB : Below (w.heap.size + 2) w0 v27 := hB.grown hg hw0 (fun k e => by simp at e; omega)
              replace hw0 := Nat.le_trans hw0 hg.size
              refine hK.out _ _ hS27 (fun _ => ?_)
              clear hK K hn hg hz hS26
              try simp only [Act.put, List.setIfInBounds_toArray, List.set_cons_zero, List.set_cons_succ]
              refine wpAnyH_ready (rs := [8]) (by kernel_rfl) (by simp) ?_
              refine AllReadyH.cons rfl (fun K hK => ?_) AllReadyH.nil
              · try rw [if_pos (by rfl)]
                refine wp_store_vb' (T := 28) (vs := [.int .i64 1, .int .i64 0, .int .i64 0, .int .i64 0, .int .i64 0, .int .i64 (-1), .int .u8 0, .int .u8 0, .int .u8 0, .int .u8 0, .int .u8 0, .int .u8 0, .slice none 0 0]) none rfl (.tmp 5) (.tmp 12) rfl rfl rfl hz5 rfl agg_rule rfl ?_
                intro v28 hn hg hz
                have hS28 : (fun W => Vb 28 W w.heap.size [.int .i64 1, .int .i64 0, .int .i64 0, .int .i64 0, .int .i64 0, .int .i64 (-1), .int .u8 0, .int .u8 0, .int .u8 0, .int .u8 0, .int .u8 0, .int .u8 0, .slice none 0 0] ∧ Vb 28 W (w.heap.size + 1) [.int .i64 2, .int .i64 0, .int .i64 1, .int .i64 0, .int .i64 0, .int .i64 0, .int .u8 0, .int .u8 0, .int .u8 0, .int .u8 0, .int .u8 0, .int .u8 0, .slice none 0 0]) v28 := ⟨Vb.grown hS27.1 hg (by omega), Vb.grown hS27.2 hg (by omega)⟩
                replace hz3 := hz3.grown hg (by omega)
                replace hz4 := hz4.grown hg (by omega)
                replace hz5 := hn
                replace hB : Below (w.heap.size + 2) w0 v28 := hB.grown hg hw0 (fun k e => by simp at e; omega)
                replace hw0 := Nat.le_trans hw0 hg.size
                refine hK.out _ _ hS28 (fun _ => ?_)
                clear hK K hn hg hz hS27
                try simp only [Act.put, List.setIfInBounds_toArray, List.set_cons_zero, List.set_cons_succ]
                refine wpAnyH_done (by kernel_rfl) ?_ _
                go_wp2_with fail
                go_meet
                case rel => exact ⟨_, _, _, rfl, rfl, rfl, hz3, hz4, hz5, ⟨by omega, by omega, by omega⟩, ⟨by omega, by omega, by omega⟩, hB⟩
      · try rw [if_pos (by rfl)]
        go_simp
        have hb := below_alloc v23 (.cells #[.int .i64 0, .int .i64 0, .int .i64 0, .int .i64 0, .int .i64 0, .int .i64 0, .int .u8 0, .int .u8 0, .int .u8 0, .int .u8 0, .int .u8 0, .int .u8 0, .slice none 0 0] 28)
        have hz4 := Vb.new 28 v23 [.int .i64 0, .int .i64 0, .int .i64 0, .int .i64 0, .int .i64 0, .int .i64 0, .int .u8 0, .int .u8 0, .int .u8 0, .int .u8 0, .int .u8 0, .int .u8 0, .slice none 0 0]
        have hS29 : (fun W => Vb 28 W w.heap.size [.int .i64 1, .int .i64 0, .int .i64 0, .int .i64 0, .int .i64 0, .int .i64 (-1), .int .u8 0, .int .u8 0, .int .u8 0, .int .u8 0, .int .u8 0, .int .u8 0, .slice none 0 0] ∧ Vb 28 W (w.heap.size + 1) [.int .i64 2, .int .i64 0, .int .i64 1, .int .i64 0, .int .i64 0, .int .i64 0, .int .u8 0, .int .u8 0, .int .u8 0, .int .u8 0, .int .u8 0, .int .u8 0, .slice none 0 0]) (v23.alloc (.cells #[.int .i64 0, .int .i64 0, .int .i64 0, .int .i64 0, .int .i64 0, .int .i64 0, .int .u8 0, .int .u8 0, .int .u8 0, .int .u8 0, .int .u8 0, .int .u8 0, .slice none 0 0] 28)) := ⟨hS23.1.alloc _, hS23.2.alloc _⟩
        have hl4 := hw0
        have hlt5_4 := hz5.lt
        replace hz5 := hz5.alloc (.cells #[.int .i64 0, .int .i64 0, .int .i64 0, .int .i64 0, .int .i64 0, .int .i64 0, .int .u8 0, .int .u8 0, .int .u8 0, .int .u8 0, .int .u8 0, .int .u8 0, .slice none 0 0] 28)
        replace hB := hB.trans (hb.mono hw0)
        replace hw0 := Nat.le_trans hw0 hb.size
        refine hK.out _ _ hS29 (fun _ => ?_)
        clear hK K hb
        try simp only [Act.put, List.setIfInBounds_toArray, List.set_cons_zero, List.set_cons_succ]
        clear hS23
        generalize hu29 : v23.alloc (.cells #[.int .i64 0, .int .i64 0, .int .i64 0, .int .i64 0, .int .i64 0, .int .i64 0, .int .u8 0, .int .u8 0, .int .u8 0, .int .u8 0, .int .u8 0, .int .u8 0, .slice none 0 0] 28) = v29 at *
        generalize v23.heap.size = q4 at *
        clear hu29
        refine wpAnyH_ready (rs := [3]) (by kernel_rfl) (by simp) ?_
        refine AllReadyH.cons rfl (fun K hK => ?_) AllReadyH.nil
        · try rw [if_pos (by rfl)]
          go_simp
          have hb := below_alloc v29 (.cells #[.int .i64 0, .int .i64 0, .int .i64 0, .int .i64 0, .int .i64 0, .int .i64 0, .int .u8 0, .int .u8 0, .int .u8 0, .int .u8 0, .int .u8 0, .int .u8 0, .slice none 0 0] 28)
          have hz3 := Vb.new 28 v29 [.int .i64 0, .int .i64 0, .int .i64 0, .int .i64 0, .int .i64 0, .int .i64 0, .int .u8 0, .int .u8 0, .int .u8 0, .int .u8 0, .int .u8 0, .int .u8 0, .slice none 0 0]
          have hS30 : (fun W => Vb 28 W w.heap.size [.int .i64 1, .int .i64 0, .int .i64 0, .int .i64 0, .int .i64 0, .int .i64 (-1), .int .u8 0, .int .u8 0, .int .u8 0, .int .u8 0, .int .u8 0, .int .u8 0, .slice none 0 0] ∧ Vb 28 W (w.heap.size + 1) [.int .i64 2, .int .i64 0, .int .i64 1, .int .i64 0, .int .i64 0, .int .i64 0, .int .u8 0, .int .u8 0, .int .u8 0, .int .u8 0, .int .u8 0, .int .u8 0, .slice none 0 0]) (v29.alloc (.cells #[.int .i64 0, .int .i64 0, .int .i64 0, .int .i64 0, .int .i64 0, .int .i64 0, .int .u8 0, .int .u8 0, .int .u8 0, .int .u8 0, .int .u8 0, .int .u8 0, .slice none 0 0] 28)) := ⟨hS29.1.alloc _, hS29.2.alloc _⟩
          have hl3 := hw0
          have hlt5_3 := hz5.lt
          have hlt4_3 := hz4.lt
          replace hz5 := hz5.alloc (.cells #[.int .i64 0, .int .i64 0, .int .i64 0, .int .i64 0, .int .i64 0, .int .i64 0, .int .u8 0, .int .u8 0, .int .u8 0, .int .u8 0, .int .u8 0, .int .u8 0, .slice none 0 0] 28)
          replace hz4 := hz4.alloc (.cells #[.int .i64 0, .int .i64 0, .int .i64 0, .int .i64 0, .int .i64 0, .int .i64 0, .int .u8 0, .int .u8 0, .int .u8 0, .int .u8 0, .int .u8 0, .int .u8 0, .slice none 0 0] 28)
          replace hB := hB.trans (hb.mono hw0)
          replace hw0 := Nat.le_trans hw0 hb.size
          refine hK.out _ _ hS30 (fun _ => ?_)
          clear hK K hb
          try simp only [Act.put, List.setIfInBounds_toArray, List.set_cons_zero, List.set_cons_succ]
          clear hS29
          generalize hu30 : v29.alloc (.cells #[.int .i64 0, .int .i64 0, .int .i64 0, .int .i64 0, .int .i64 0, .int .i64 0, .int .u8 0, .int .u8 0, .int .u8 0, .int .u8 0, .int .u8 0, .int .u8 0, .slice none 0 0] 28) = v30 at *
          generalize v29.heap.size = q3 at *
          clear hu30
          refine wpAnyH_ready (rs := [6]) (by kernel_rfl) (by simp) ?_
          refine AllReadyH.cons rfl (fun K hK => ?_) AllReadyH.nil
          · try rw [if_pos (by rfl)]
            refine wp_store_vb' (T := 28) (vs := [.int .i64 1, .int .i64 0, .int .i64 0, .int .i64 0, .int .i64 0, .int .i64 (-1), .int .u8 0, .int .u8 0, .int .u8 0, .int .u8 0, .int .u8 0, .int .u8 0, .slice none 0 0]) none rfl (.tmp 3) (.tmp 10) rfl rfl rfl hz3 rfl agg_rule rfl ?_
            intro v31 hn hg hz
            have hS31 : (fun W => Vb 28 W w.heap.size [.int .i64 1, .int .i64 0, .int .i64 0, .int .i64 0, .int .i64 0, .int .i64 (-1), .int .u8 0, .int .u8 0, .int .u8 0, .int .u8 0, .int .u8 0, .int .u8 0, .slice none 0 0] ∧ Vb 28 W (w.heap.size + 1) [.int .i64 2, .int .i64 0, .int .i64 1, .int .i64 0, .int .i64 0, .int .i64 0, .int .u8 0, .int .u8 0, .int .u8 0, .int .u8 0, .int .u8 0, .int .u8 0, .slice none 0 0]) v31 := ⟨Vb.grown hS30.1 hg (by omega), Vb.grown hS30.2 hg (by omega)⟩
            replace hz5 := hz5.grown hg (by omega)
            replace hz4 := hz4.grown hg (by omega)
            replace hz3 := hn
            replace hB : Below (w.heap.size + 2) w0 v31 := hB.grown hg hw0 (fun k e => by simp at e; omega)
            replace hw0 := Nat.le_trans hw0 hg.size
            refine hK.out _ _ hS31 (fun _ => ?_)
            clear hK K hn hg hz hS30
            try simp only [Act.put, List.setIfInBounds_toArray, List.set_cons_zero, List.set_cons_succ]
            refine wpAnyH_ready (rs := [7]) (by kernel_rfl) (by simp) ?_
            refine AllReadyH.cons rfl (fun K hK => ?_) AllReadyH.nil
            · try rw [if_pos (by rfl)]
              refine wp_store_vb' (T := 28) (vs := [.int .i64 2, .int .i64 0, .int .i64 1, .int .i64 0, .int .i64 0, .int .i64 0, .int .u8 0, .int .u8 0, .int .u8 0, .int .u8 0, .int .u8 0, .int .u8 0, .slice none 0 0]) none rfl (.tmp 4) (.tmp 11) rfl rfl rfl hz4 rfl agg_rule rfl ?_
              intro v32 hn hg hz
              have hS32 : (fun W => Vb 28 W w.heap.size [.int .i64 1, .int .i64 0, .int .i64 0, .int .i64 0, .int .i64 0, .int .i64 (-1), .int .u8 0, .int .u8 0, .int .u8 0, .int .u8 0, .int .u8 0, .int .u8 0, .slice none 0 0] ∧ Vb 28 W (w.heap.size + 1) [.int .i64 2, .int .i64 0, .int .i64 1, .int .i64 0, .int .i64 0, .int .i64 0, .int .u8 0, .int .u8 0, .int .u8 0, .int .u8 0, .int .u8 0, .int .u8 0, .slice none 0 0]) v32 := ⟨Vb.grown hS31.1 hg (by omega), Vb.grown hS31.2 hg (by omega)⟩
              replace hz5 := hz5.grown hg (by omega)
              replace hz3 := hz3.grown hg (by omega)
              replace hz4 := hn
              replace hB : Below (w.heap.size + 2) w0 v32 := hB.grown hg hw0 (fun k e => by simp at e; omega)
              replace hw0 := Nat.le_trans hw0 hg.size
              refine hK.out _ _ hS32 (fun _ => ?_)
              clear hK K hn hg hz hS31
              try simp only [Act.put, List.setIfInBounds_toArray, List.set_cons_zero, List.set_cons_succ]
              refine wpAnyH_ready (rs := [8]) (by kernel_rfl) (by simp) ?_
              refine AllReadyH.cons rfl (fun K hK => ?_) AllReadyH.nil
              · try rw [if_pos (by rfl)]
                refine wp_store_vb' (T := 28) (vs := [.int .i64 1, .int .i64 0, .int .i64 0, .int .i64 0, .int .i64 0, .int .i64 (-1), .int .u8 0, .int .u8 0, .int .u8 0, .int .u8 0, .int .u8 0, .int .u8 0, .slice none 0 0]) none rfl (.tmp 5) (.tmp 12) rfl rfl rfl hz5 rfl agg_rule rfl ?_
                intro v33 hn hg hz
                have hS33 : (fun W => Vb 28 W w.heap.size [.int .i64 1, .int .i64 0, .int .i64 0, .int .i64 0, .int .i64 0, .int .i64 (-1), .int .u8 0, .int .u8 0, .int .u8 0, .int .u8 0, .int .u8 0, .int .u8 0, .slice none 0 0] ∧ Vb 28 W (w.heap.size + 1) [.int .i64 2, .int .i64 0, .int .i64 1, .int .i64 0, .int .i64 0, .int .i64 0, .int .u8 0, .int .u8 0, .int .u8 0, .int .u8 0, .int .u8 0, .int .u8 0, .slice none 0 0]) v33 := ⟨Vb.grown hS32.1 hg (by omega), Vb.grown hS32.2 hg (by omega)⟩
                replace hz4 := hz4.grown hg (by omega)
                replace hz3 := hz3.grown hg (by omega)
                replace hz5 := hn
                replace hB : Below (w.heap.size + 2) w0 v33 := hB.grown hg hw0 (fun k e => by simp at e; omega)
                replace hw0 := Nat.le_trans hw0 hg.size
                refine hK.out _ _ hS33 (fun _ => ?_)
                clear hK K hn hg hz hS32
                try simp only [Act.put, List.setIfInBounds_toArray, List.set_cons_zero, List.set_cons_succ]
                refine wpAnyH_done (by kernel_rfl) ?_ _
                go_wp2_with fail
                go_meet
                case rel => exact ⟨_, _, _, rfl, rfl, rfl, hz3, hz4, hz5, ⟨by omega, by omega, by omega⟩, ⟨by omega, by omega, by omega⟩, hB⟩
  obtain ⟨q3, q4, q5, rfl, rfl, rfl, h3, h4, h5, ⟨n34, n35, n45⟩, ⟨l3, l4, l5⟩, hB1⟩ := hcut
  replace h1 := h1.below hB1 (by omega)
  replace h2 := h2.below hB1 (by omega)
  have hB := hB0.trans (hB1.mono (by omega))
  clear hB0 hB1 hz0
  have c1 := h3.cell 1 rfl
  have hf := h3.free
  go_upto_region 4 with fail
  replace h3 : Vb 28 (wc.setCell ⟨q3, 1, none⟩ (.int .i64 4)) q3 [.int .i64 1, .int .i64 4, .int .i64 0, .int .i64 0, .int .i64 0, .int .i64 (-1), .int .u8 0, .int .u8 0, .int .u8 0, .int .u8 0, .int .u8 0, .int .u8 0, .slice none 0 0] := h3.set 1 _
  replace h1 := h1.other (r := q3) (by omega) 1 (.int .i64 4)
  replace h2 := h2.other (r := q3) (by omega) 1 (.int .i64 4)
  replace h4 := h4.other (r := q3) (by omega) 1 (.int .i64 4)
  replace h5 := h5.other (r := q3) (by omega) 1 (.int .i64 4)
  replace hB := hB.setCell (p := ⟨q3, 1, none⟩) (by simp; omega) (.int .i64 4)
  clear c1 hf
  generalize wc.setCell ⟨q3, 1, none⟩ (.int .i64 4) = w1 at *
  have c1 := h4.cell 2 rfl
  have hf := h4.free
  go_upto_region 5 with fail
  replace h4 : Vb 28 (w1.setCell ⟨q4, 2, none⟩ (.int .i64 2)) q4 [.int .i64 2, .int .i64 0, .int .i64 2, .int .i64 0, .int .i64 0, .int .i64 0, .int .u8 0, .int .u8 0, .int .u8 0, .int .u8 0, .int .u8 0, .int .u8 0, .slice none 0 0] := h4.set 2 _
  replace h1 := h1.other (r := q4) (by omega) 2 (.int .i64 2)
  replace h2 := h2.other (r := q4) (by omega) 2 (.int .i64 2)
  replace h3 := h3.other (r := q4) (by omega) 2 (.int .i64 2)
  replace h5 := h5.other (r := q4) (by omega) 2 (.int .i64 2)
  replace hB := hB.setCell (p := ⟨q4, 2, none⟩) (by simp; omega) (.int .i64 2)
  clear c1 hf
  generalize w1.setCell ⟨q4, 2, none⟩ (.int .i64 2) = w2 at *
  go_wp2_with fail
  refine (keep_any _).mono ?_
  rintro e w3 ⟨rfl, hb⟩
  replace h1 := h1.below hb h1.lt
  replace h2 := h2.below hb h2.lt
  replace h3 := h3.below hb h3.lt
  replace h4 := h4.below hb h4.lt
  replace h5 := h5.below hb h5.lt
  replace hB := hB.trans (hb.mono hB.size)
  clear hb
  have hba := below_alloc w3 (.cells #[.int .i64 2, .int .i64 (-1), .int .i64 (-1), .int .i64 (-1), .int .i64 3, .int .i64 (-1), .int .i64 9, .int .i64 (-1), .int .i64 2, .int .i64 (-1), .int .i64 6, .int .i64 (-1)] 42)
  have hl5 := h5.lt
  have h5a := h5.below hba hl5
  have c1 := h5a.cell 12 rfl
  have hf := h5a.free
  have hlw := hba.size
  go_upto_region 6 with fail
  clear c1 hf hba hlw h5a
  have hsz : (w3.setCell ⟨q5, 12, none⟩ (.slice (some ⟨w3.heap.size, 0, none⟩) 3 3)).heap.size = w3.heap.size := by simp
  replace h5 : Vb 28 (w3.setCell ⟨q5, 12, none⟩ (.slice (some ⟨w3.heap.size, 0, none⟩) 3 3)) q5 [.int .i64 1, .int .i64 0, .int .i64 0, .int .i64 0, .int .i64 0, .int .i64 (-1), .int .u8 0, .int .u8 0, .int .u8 0, .int .u8 0, .int .u8 0, .int .u8 0, .slice (some ⟨w3.heap.size, 0, none⟩) 3 3] := h5.set 12 _
  replace h1 := h1.other (r := q5) (by omega) 12 (.slice (some ⟨w3.heap.size, 0, none⟩) 3 3)
  replace h2 := h2.other (r := q5) (by omega) 12 (.slice (some ⟨w3.heap.size, 0, none⟩) 3 3)
  replace h3 := h3.other (r := q5) (by omega) 12 (.slice (some ⟨w3.heap.size, 0, none⟩) 3 3)
  replace h4 := h4.other (r := q5) (by omega) 12 (.slice (some ⟨w3.heap.size, 0, none⟩) 3 3)
  replace hB := hB.setCell (p := ⟨q5, 12, none⟩) (by simp; omega) (.slice (some ⟨w3.heap.size, 0, none⟩) 3 3)
  generalize w3.setCell ⟨q5, 12, none⟩ (.slice (some ⟨w3.heap.size, 0, none⟩) 3 3) = w3s at *
  have hba := below_alloc w3s (.cells #[.int .i64 2, .int .i64 (-1), .int .i64 (-1), .int .i64 (-1), .int .i64 3, .int .i64 (-1), .int .i64 9, .int .i64 (-1), .int .i64 2, .int .i64 (-1), .int .i64 6, .int .i64 (-1)] 42)
  have hR := Ron.of_vb (lo := w3s.heap.size) (os := [⟨2, (-1), (-1), (-1)⟩, ⟨3, (-1), 9, (-1)⟩, ⟨2, (-1), 6, (-1)⟩]) (Vb.new 42 w3s (([⟨2, (-1), (-1), (-1)⟩, ⟨3, (-1), 9, (-1)⟩, ⟨2, (-1), 6, (-1)⟩] : List OutV).flatMap ocs)) (Nat.le_refl _) (by simp)
  replace hR : Ron (w3s.alloc (.cells #[.int .i64 2, .int .i64 (-1), .int .i64 (-1), .int .i64 (-1), .int .i64 3, .int .i64 (-1), .int .i64 9, .int .i64 (-1), .int .i64 2, .int .i64 (-1), .int .i64 6, .int .i64 (-1)] 42)) w3s.heap.size (some ⟨w3s.heap.size, 0, none⟩) 3 3 [⟨2, (-1), (-1), (-1)⟩, ⟨3, (-1), 9, (-1)⟩, ⟨2, (-1), 6, (-1)⟩] := hR
  replace h1 := h1.below hba h1.lt
  replace h2 := h2.below hba h2.lt
  replace h3 := h3.below hba h3.lt
  replace h4 := h4.below hba h4.lt
  replace h5 := h5.below hba h5.lt
  replace hB := hB.trans (hba.mono hB.size)
  rw [hsz] at hR
  clear hba hsz hl5
  generalize w3s.alloc (.cells #[.int .i64 2, .int .i64 (-1), .int .i64 (-1), .int .i64 (-1), .int .i64 3, .int .i64 (-1), .int .i64 9, .int .i64 (-1), .int .i64 2, .int .i64 (-1), .int .i64 6, .int .i64 (-1)] 42) = w4 at *
  generalize w3.heap.size = pb at *
  go_wp2_with (refine wpList_load_wantR (vs := [.int .i64 1, .int .i64 0, .int .i64 0, .int .i64 0, .int .i64 0, .int .i64 (-1), .int .u8 0, .int .u8 0, .int .u8 0, .int .u8 0, .int .u8 0, .int .u8 0, .slice (some ⟨pb, 0, none⟩) 3 3]) (by rfl) (.tmp 5) rfl rfl h5 rfl agg_rule ?_)
  refine (does_any (r := ⟨1, 0, 0, 0, ⟨0, -1, 0, 0, 0, 0, 0, 0⟩, [⟨2, (-1), (-1), (-1)⟩, ⟨3, (-1), 9, (-1)⟩, ⟨2, (-1), 6, (-1)⟩]⟩) hR.ro (Nat.le_refl _) (by omega) 5 6 7).mono ?_
  rintro e w5 ⟨A, n, c, rfl, hs, hb⟩
  rw [does_other] at hs
  replace h1 := h1.below hb h1.lt
  replace h2 := h2.below hb h2.lt
  replace h3 := h3.below hb h3.lt
  replace h4 := h4.below hb h4.lt
  replace h5 := h5.below hb h5.lt
  replace hR := hR.below hb
  replace hB := hB.trans (hb.mono hB.size)
  clear hb
  obtain rfl : n = 2 := by have := hs.len; simpa using this.symm
  have hmx := hs.max
  obtain ⟨b, off, eA, hbB, hc⟩ := hs.at_ (by omega)
  subst eA
  obtain ⟨a0, a1, a2, a3⟩ := hc 0 _ rfl
  obtain ⟨b0, b1, b2, b3⟩ := hc 1 _ rfl
  simp only [Nat.zero_mul, Nat.one_mul, Nat.add_zero] at a0 a1 a2 a3 b0 b1 b2 b3
  have e1 : ∀ w, (Op.equalIn 10000 44 (.agg #[.int .i64 2, .int .u8 5, .int .u8 6, .int .u8 7]) (.agg #[.int .i64 2, .int .u8 5, .int .u8 6, .int .u8 7])).run Try.prog w = .ok true w := fun w => (eq_sent ⟨2, 5, 6, 7⟩ ⟨2, 5, 6, 7⟩ w).trans (by rfl)
  have e2 : ∀ w, (Op.equalIn 10000 44 (.agg #[.int .i64 3, .int .u8 5, .int .u8 9, .int .u8 7]) (.agg #[.int .i64 3, .int .u8 5, .int .u8 9, .int .u8 7])).run Try.prog w = .ok true w := fun w => (eq_sent ⟨3, 5, 9, 7⟩ ⟨3, 5, 9, 7⟩ w).trans (by rfl)
  clear hs hc
  go_upto_region 9 with fail
  clear a0 a1 a2 a3 b0 b1 b2 b3 e1 e2
  go_wp2_with (first | refine wpList_load_wantR (vs := [.int .i64 1, .int .i64 0, .int .i64 0, .int .i64 0, .int .i64 0, .int .i64 (-1), .int .u8 0, .int .u8 0, .int .u8 0, .int .u8 0, .int .u8 0, .int .u8 0, .slice none 0 0]) (by rfl) (.tmp 1) rfl rfl h1 rfl agg_rule ?_ | refine wpList_load_wantR (vs := [.int .i64 2, .int .i64 0, .int .i64 1, .int .i64 0, .int .i64 0, .int .i64 0, .int .u8 0, .int .u8 0, .int .u8 0, .int .u8 0, .int .u8 0, .int .u8 0, .slice none 0 0]) (by rfl) (.tmp 2) rfl rfl h2 rfl agg_rule ?_)
  refine (compare_any ⟨1, 0, 0, 0, ⟨0, -1, 0, 0, 0, 0, 0, 0⟩, []⟩ ⟨2, 0, 1, 0, ⟨0, 0, 0, 0, 0, 0, 0, 0⟩, []⟩ (.slice none 0 0) (.slice none 0 0) _).mono ?_
  rintro e x1 ⟨rfl, hb⟩
  rw [cmp_dc]
  replace h1 := h1.below hb h1.lt
  replace h2 := h2.below hb h2.lt
  replace h3 := h3.below hb h3.lt
  replace h4 := h4.below hb h4.lt
  replace h5 := h5.below hb h5.lt
  replace hR := hR.below hb
  replace hB := hB.trans (hb.mono hB.size)
  clear hb
  go_wp2_with (first | refine wpList_load_wantR (vs := [.int .i64 1, .int .i64 0, .int .i64 0, .int .i64 0, .int .i64 0, .int .i64 (-1), .int .u8 0, .int .u8 0, .int .u8 0, .int .u8 0, .int .u8 0, .int .u8 0, .slice none 0 0]) (by rfl) (.tmp 1) rfl rfl h1 rfl agg_rule ?_ | refine wpList_load_wantR (vs := [.int .i64 1, .int .i64 4, .int .i64 0, .int .i64 0, .int .i64 0, .int .i64 (-1), .int .u8 0, .int .u8 0, .int .u8 0, .int .u8 0, .int .u8 0, .int .u8 0, .slice none 0 0]) (by rfl) (.tmp 3) rfl rfl h3 rfl agg_rule ?_)
  refine (compare_any ⟨1, 0, 0, 0, ⟨0, -1, 0, 0, 0, 0, 0, 0⟩, []⟩ ⟨1, 4, 0, 0, ⟨0, -1, 0, 0, 0, 0, 0, 0⟩, []⟩ (.slice none 0 0) (.slice none 0 0) _).mono ?_
  rintro e x2 ⟨rfl, hb⟩
  rw [cmp_dh]
  replace h1 := h1.below hb h1.lt
  replace h2 := h2.below hb h2.lt
  replace h3 := h3.below hb h3.lt
  replace h4 := h4.below hb h4.lt
  replace h5 := h5.below hb h5.lt
  replace hR := hR.below hb
  replace hB := hB.trans (hb.mono hB.size)
  clear hb
  go_wp2_with (first | refine wpList_load_wantR (vs := [.int .i64 2, .int .i64 0, .int .i64 1, .int .i64 0, .int .i64 0, .int .i64 0, .int .u8 0, .int .u8 0, .int .u8 0, .int .u8 0, .int .u8 0, .int .u8 0, .slice none 0 0]) (by rfl) (.tmp 2) rfl rfl h2 rfl agg_rule ?_ | refine wpList_load_wantR (vs := [.int .i64 2, .int .i64 0, .int .i64 2, .int .i64 0, .int .i64 0, .int .i64 0, .int .u8 0, .int .u8 0, .int .u8 0, .int .u8 0, .int .u8 0, .int .u8 0, .slice none 0 0]) (by rfl) (.tmp 4) rfl rfl h4 rfl agg_rule ?_)
  refine (compare_any ⟨2, 0, 1, 0, ⟨0, 0, 0, 0, 0, 0, 0, 0⟩, []⟩ ⟨2, 0, 2, 0, ⟨0, 0, 0, 0, 0, 0, 0, 0⟩, []⟩ (.slice none 0 0) (.slice none 0 0) _).mono ?_
  rintro e x3 ⟨rfl, hb⟩
  rw [cmp_ct]
  replace h1 := h1.below hb h1.lt
  replace h2 := h2.below hb h2.lt
  replace h3 := h3.below hb h3.lt
  replace h4 := h4.below hb h4.lt
  replace h5 := h5.below hb h5.lt
  replace hR := hR.below hb
  replace hB := hB.trans (hb.mono hB.size)
  clear hb
  go_wp2_with (first | refine wpList_load_wantR (vs := [.int .i64 1, .int .i64 0, .int .i64 0, .int .i64 0, .int .i64 0, .int .i64 (-1), .int .u8 0, .int .u8 0, .int .u8 0, .int .u8 0, .int .u8 0, .int .u8 0, .slice none 0 0]) (by rfl) (.tmp 1) rfl rfl h1 rfl agg_rule ?_ | refine wpList_load_wantR (vs := [.int .i64 1, .int .i64 0, .int .i64 0, .int .i64 0, .int .i64 0, .int .i64 (-1), .int .u8 0, .int .u8 0, .int .u8 0, .int .u8 0, .int .u8 0, .int .u8 0, .slice (some ⟨pb, 0, none⟩) 3 3]) (by rfl) (.tmp 5) rfl rfl h5 rfl agg_rule ?_)
  refine (compare_any ⟨1, 0, 0, 0, ⟨0, -1, 0, 0, 0, 0, 0, 0⟩, []⟩ ⟨1, 0, 0, 0, ⟨0, -1, 0, 0, 0, 0, 0, 0⟩, [⟨2, (-1), (-1), (-1)⟩, ⟨3, (-1), 9, (-1)⟩, ⟨2, (-1), 6, (-1)⟩]⟩ (.slice none 0 0) (.slice (some ⟨pb, 0, none⟩) 3 3) _).mono ?_
  rintro e x4 ⟨rfl, hb⟩
  rw [cmp_do]
  replace h1 := h1.below hb h1.lt
  replace h2 := h2.below hb h2.lt
  replace h3 := h3.below hb h3.lt
  replace h4 := h4.below hb h4.lt
  replace h5 := h5.below hb h5.lt
  replace hR := hR.below hb
  replace hB := hB.trans (hb.mono hB.size)
  clear hb
  go_wp2_with (first | refine wpList_load_wantR (vs := [.int .i64 1, .int .i64 0, .int .i64 0, .int .i64 0, .int .i64 0, .int .i64 (-1), .int .u8 0, .int .u8 0, .int .u8 0, .int .u8 0, .int .u8 0, .int .u8 0, .slice none 0 0]) (by rfl) (.tmp 1) rfl rfl h1 rfl agg_rule ?_ | refine wpList_load_wantR (vs := [.int .i64 1, .int .i64 0, .int .i64 0, .int .i64 0, .int .i64 0, .int .i64 (-1), .int .u8 0, .int .u8 0, .int .u8 0, .int .u8 0, .int .u8 0, .int .u8 0, .slice (some ⟨pb, 0, none⟩) 3 3]) (by rfl) (.tmp 5) rfl rfl h5 rfl agg_rule ?_)
  refine (same_any (os := []) (os2 := [⟨2, (-1), (-1), (-1)⟩, ⟨3, (-1), 9, (-1)⟩, ⟨2, (-1), 6, (-1)⟩]) ⟨1, 0, 0, 0, ⟨0, -1, 0, 0, 0, 0, 0, 0⟩, []⟩ (Ro.nil _ 0) (Nat.zero_le _) hR.ro (Nat.le_refl _)).mono ?_
  rintro e x5 ⟨rfl, hb⟩
  rw [show decide (([] : List OutV) = [⟨2, (-1), (-1), (-1)⟩, ⟨3, (-1), 9, (-1)⟩, ⟨2, (-1), 6, (-1)⟩]) = false from by decide]
  replace h1 := h1.below hb h1.lt
  replace h2 := h2.below hb h2.lt
  replace h3 := h3.below hb h3.lt
  replace h4 := h4.below hb h4.lt
  replace h5 := h5.below hb h5.lt
  replace hR := hR.below hb
  replace hB := hB.trans (hb.mono hB.size)
  clear hb
  go_wp2_with (refine wpList_load_wantR (vs := [.int .i64 1, .int .i64 0, .int .i64 0, .int .i64 0, .int .i64 0, .int .i64 (-1), .int .u8 0, .int .u8 0, .int .u8 0, .int .u8 0, .int .u8 0, .int .u8 0, .slice (some ⟨pb, 0, none⟩) 3 3]) (by rfl) (.tmp 5) rfl rfl h5 rfl agg_rule ?_)
  refine (same_any (os := [⟨2, (-1), (-1), (-1)⟩, ⟨3, (-1), 9, (-1)⟩, ⟨2, (-1), 6, (-1)⟩]) (os2 := [⟨2, (-1), (-1), (-1)⟩, ⟨3, (-1), 9, (-1)⟩, ⟨2, (-1), 6, (-1)⟩]) ⟨1, 0, 0, 0, ⟨0, -1, 0, 0, 0, 0, 0, 0⟩, []⟩ hR.ro (Nat.le_refl _) hR.ro (Nat.le_refl _)).mono ?_
  rintro e x6 ⟨rfl, hb⟩
  rw [show decide (([⟨2, (-1), (-1), (-1)⟩, ⟨3, (-1), 9, (-1)⟩, ⟨2, (-1), 6, (-1)⟩] : List OutV) = [⟨2, (-1), (-1), (-1)⟩, ⟨3, (-1), 9, (-1)⟩, ⟨2, (-1), 6, (-1)⟩]) = true from by decide]
  replace hB := hB.trans (hb.mono hB.size)
  clear hb
  go_wp2_with fail
  go_ret
  exact ⟨rfl, hB⟩
end Go.Proofs.Yteambkehdbffmaa.Oct
