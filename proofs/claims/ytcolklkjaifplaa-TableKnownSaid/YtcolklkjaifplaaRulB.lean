/- Contracts of layer 8: Compare. -/
import Derived.Test.YtcolklkjaifplaaRulA
import Derived.Deep.Cut
import Derived.Deep.CutRange
namespace Go.Proofs.Ytcolklkjaifplaa.Oct
open Go.RowKit
set_option linter.unusedVariables false
set_option linter.unusedSimpArgs false

section
variable {T ty : TypeId} {w : World} {g : Nat} {cs vs : List Value} {o : Oper} {a : Act} {K : Act → World → Prop} {Q : Exit → Act → World → Prop}
/-- A struct is stored over a whole block, inside a region that draws its order. -/
theorem wp_store_vb' (d : Option Tmp) (hd : o.dst = d) (x y : Operand) (ho : o.op = .store ty x y) (hx : a.eval x = .pointer (some ⟨g, 0, none⟩)) (hy : a.eval y = .agg vs.toArray) (hv : Vb T w g cs) (hl : cs.length = vs.length) (ht : Agg ty vs.length)
    (h1 : vs.all (·.oneCell') = true)
    (h : ∀ w', Vb T w' g vs → w.grownBy w' (some g) → w'.heap.size = w.heap.size → K (a.put d undef) w') : o.wp Try.prog a w K Q := by
  subst hd
  exact wp_store_row ty x y ho g vs.toArray hx hy T cs.toArray hv (by simpa using ht.2) (by simpa using hl) (by simpa using h1) (h _ (setRow_vb hv hl) (setRow_grown _ _ _) (setRow_size _ _ _))
end

set_option maxRecDepth 100000 in
set_option maxHeartbeats 8000000 in
theorem hdrC8 {a b : RuleV} {sa sb : Value} {w : World} {ga gb : Nat} (hx : Vb 31 w ga [.int .i64 a.k, .int .i64 a.pr, .int .i64 a.to, .int .i64 a.po, .int .i64 a.x.v, .int .i64 a.x.m, .int .u8 a.x.b0, .int .u8 a.x.b1, .int .u8 a.x.b2, .int .u8 a.x.i0, .int .u8 a.x.i1, .int .u8 a.x.i2, sa]) (hy : Vb 31 w gb [.int .i64 b.k, .int .i64 b.pr, .int .i64 b.to, .int .i64 b.po, .int .i64 b.x.v, .int .i64 b.x.m, .int .u8 b.x.b0, .int .u8 b.x.b1, .int .u8 b.x.b2, .int .u8 b.x.i0, .int .u8 b.x.i1, .int .u8 b.x.i2, sb]) : Calls Try.prog 110 #[.func (.func 118) #[] #[], .pointer (some ⟨ga, 0, none⟩), .pointer (some ⟨gb, 0, none⟩)] w fun e w' => e = .returned (.int .i64 (lex3 a.x.b0 a.x.b1 a.x.b2 b.x.b0 b.x.b1 b.x.b2)) ∧ Below w.heap.size w w' := by
  have hB : Below w.heap.size w w.drew := (Below.refl _ _).drew
  have hw0 : w.heap.size ≤ w.drew.heap.size := Nat.le_refl _
  have hga := hx.lt
  have hgb := hy.lt
  go_enter Try.func110, Try.ntmps110
  go_upto_region 1 with fail
  go_cut [5, 6] from 7 to 12 (fun p q wx => ∃ g5 g6, p = .pointer (some ⟨g5, 0, none⟩) ∧ q = .pointer (some ⟨g6, 0, none⟩) ∧ Vb 26 wx g5 [.int .u8 a.x.b0, .int .u8 a.x.b1, .int .u8 a.x.b2] ∧ Vb 26 wx g6 [.int .u8 b.x.b0, .int .u8 b.x.b1, .int .u8 b.x.b2] ∧ Below w.heap.size w wx)
  case first =>
    have hS0 : (fun W => Vb 31 W ga [.int .i64 a.k, .int .i64 a.pr, .int .i64 a.to, .int .i64 a.po, .int .i64 a.x.v, .int .i64 a.x.m, .int .u8 a.x.b0, .int .u8 a.x.b1, .int .u8 a.x.b2, .int .u8 a.x.i0, .int .u8 a.x.i1, .int .u8 a.x.i2, sa] ∧ Vb 31 W gb [.int .i64 b.k, .int .i64 b.pr, .int .i64 b.to, .int .i64 b.po, .int .i64 b.x.v, .int .i64 b.x.m, .int .u8 b.x.b0, .int .u8 b.x.b1, .int .u8 b.x.b2, .int .u8 b.x.i0, .int .u8 b.x.i1, .int .u8 b.x.i2, sb]) w.drew := ⟨hx, hy⟩
    refine wp_region_held_drew (S := fun W => Vb 31 W ga [.int .i64 a.k, .int .i64 a.pr, .int .i64 a.to, .int .i64 a.po, .int .i64 a.x.v, .int .i64 a.x.m, .int .u8 a.x.b0, .int .u8 a.x.b1, .int .u8 a.x.b2, .int .u8 a.x.i0, .int .u8 a.x.i1, .int .u8 a.x.i2, sa] ∧ Vb 31 W gb [.int .i64 b.k, .int .i64 b.pr, .int .i64 b.to, .int .i64 b.po, .int .i64 b.x.v, .int .i64 b.x.m, .int .u8 b.x.b0, .int .u8 b.x.b1, .int .u8 b.x.b2, .int .u8 b.x.i0, .int .u8 b.x.i1, .int .u8 b.x.i2, sb]) (by kernel_rfl) hS0 (fun _ => ?_)
    clear hx hy
    generalize w.drew = u0 at *
    refine takeD (i := 0) (v := .func (.func 118) #[] #[]) (some 7) rfl rfl (by kernel_rfl) (by kernel_rfl) (by kernel_rfl) (fun _ _ _ h => h) (Or.inl ⟨by rfl, ?_⟩) hS0 ?_
    · rintro w' ⟨s0, s1⟩
      go_simp
    try simp only [Act.put, List.setIfInBounds_toArray, List.set_cons_zero, List.set_cons_succ]
    refine takeD (i := 1) (v := .agg #[.int .i64 a.k, .int .i64 a.pr, .int .i64 a.to, .int .i64 a.po, .int .i64 a.x.v, .int .i64 a.x.m, .int .u8 a.x.b0, .int .u8 a.x.b1, .int .u8 a.x.b2, .int .u8 a.x.i0, .int .u8 a.x.i1, .int .u8 a.x.i2, sa]) (some 8) rfl rfl (by kernel_rfl) (by kernel_rfl) (by kernel_rfl) (fun _ _ _ h => h) (Or.inl ⟨by rfl, ?_⟩) hS0 ?_
    · rintro w' ⟨s0, s1⟩
      have d0 := s0.cell 0 rfl
      have d1 := s0.cell 1 rfl
      have d2 := s0.cell 2 rfl
      have d3 := s0.cell 3 rfl
      have d4 := s0.cell 4 rfl
      have d5 := s0.cell 5 rfl
      have d6 := s0.cell 6 rfl
      have d7 := s0.cell 7 rfl
      have d8 := s0.cell 8 rfl
      have d9 := s0.cell 9 rfl
      have d10 := s0.cell 10 rfl
      have d11 := s0.cell 11 rfl
      have d12 := s0.cell 12 rfl
      go_simp
    try simp only [Act.put, List.setIfInBounds_toArray, List.set_cons_zero, List.set_cons_succ]
    refine takeD (i := 3) (v := .func (.func 118) #[] #[]) (some 10) rfl rfl (by kernel_rfl) (by kernel_rfl) (by kernel_rfl) (fun _ _ _ h => h) (Or.inl ⟨by rfl, ?_⟩) hS0 ?_
    · rintro w' ⟨s0, s1⟩
      go_simp
    try simp only [Act.put, List.setIfInBounds_toArray, List.set_cons_zero, List.set_cons_succ]
    refine takeD (i := 4) (v := .agg #[.int .i64 b.k, .int .i64 b.pr, .int .i64 b.to, .int .i64 b.po, .int .i64 b.x.v, .int .i64 b.x.m, .int .u8 b.x.b0, .int .u8 b.x.b1, .int .u8 b.x.b2, .int .u8 b.x.i0, .int .u8 b.x.i1, .int .u8 b.x.i2, sb]) (some 11) rfl rfl (by kernel_rfl) (by kernel_rfl) (by kernel_rfl) (fun _ _ _ h => h) (Or.inl ⟨by rfl, ?_⟩) hS0 ?_
    · rintro w' ⟨s0, s1⟩
      have d0 := s1.cell 0 rfl
      have d1 := s1.cell 1 rfl
      have d2 := s1.cell 2 rfl
      have d3 := s1.cell 3 rfl
      have d4 := s1.cell 4 rfl
      have d5 := s1.cell 5 rfl
      have d6 := s1.cell 6 rfl
      have d7 := s1.cell 7 rfl
      have d8 := s1.cell 8 rfl
      have d9 := s1.cell 9 rfl
      have d10 := s1.cell 10 rfl
      have d11 := s1.cell 11 rfl
      have d12 := s1.cell 12 rfl
      go_simp
    try simp only [Act.put, List.setIfInBounds_toArray, List.set_cons_zero, List.set_cons_succ]
    refine wpAnyH_ready (rs := [2, 6, 7]) (by kernel_rfl) (by simp) ?_
    refine AllReadyH.cons rfl (fun K hK => ?_) (AllReadyH.cons rfl (fun K hK => ?_) (AllReadyH.cons rfl (fun K hK => ?_) AllReadyH.nil))
    · try rw [if_pos (by rfl)]
      go_simp
      go_at_call 118
      refine (read8 a sa _).mono ?_
      rintro e v1 ⟨rfl, hb⟩
      have hS1 : (fun W => Vb 31 W ga [.int .i64 a.k, .int .i64 a.pr, .int .i64 a.to, .int .i64 a.po, .int .i64 a.x.v, .int .i64 a.x.m, .int .u8 a.x.b0, .int .u8 a.x.b1, .int .u8 a.x.b2, .int .u8 a.x.i0, .int .u8 a.x.i1, .int .u8 a.x.i2, sa] ∧ Vb 31 W gb [.int .i64 b.k, .int .i64 b.pr, .int .i64 b.to, .int .i64 b.po, .int .i64 b.x.v, .int .i64 b.x.m, .int .u8 b.x.b0, .int .u8 b.x.b1, .int .u8 b.x.b2, .int .u8 b.x.i0, .int .u8 b.x.i1, .int .u8 b.x.i2, sb]) v1 := ⟨hS0.1.below hb hS0.1.lt, hS0.2.below hb hS0.2.lt⟩
      replace hB := hB.trans (hb.mono hw0)
      replace hw0 := Nat.le_trans hw0 hb.size
      refine hK.out _ _ hS1 (fun _ => ?_)
      clear hK K hb
      try simp only [Act.put, List.setIfInBounds_toArray, List.set_cons_zero, List.set_cons_succ]
      refine wpAnyH_ready (rs := [5, 6, 7]) (by kernel_rfl) (by simp) ?_
      refine AllReadyH.cons rfl (fun K hK => ?_) (AllReadyH.cons rfl (fun K hK => ?_) (AllReadyH.cons rfl (fun K hK => ?_) AllReadyH.nil))
      · try rw [if_pos (by rfl)]
        go_simp
        go_at_call 118
        refine (read8 b sb _).mono ?_
        rintro e v2 ⟨rfl, hb⟩
        have hS2 : (fun W => Vb 31 W ga [.int .i64 a.k, .int .i64 a.pr, .int .i64 a.to, .int .i64 a.po, .int .i64 a.x.v, .int .i64 a.x.m, .int .u8 a.x.b0, .int .u8 a.x.b1, .int .u8 a.x.b2, .int .u8 a.x.i0, .int .u8 a.x.i1, .int .u8 a.x.i2, sa] ∧ Vb 31 W gb [.int .i64 b.k, .int .i64 b.pr, .int .i64 b.to, .int .i64 b.po, .int .i64 b.x.v, .int .i64 b.x.m, .int .u8 b.x.b0, .int .u8 b.x.b1, .int .u8 b.x.b2, .int .u8 b.x.i0, .int .u8 b.x.i1, .int .u8 b.x.i2, sb]) v2 := ⟨hS1.1.below hb hS1.1.lt, hS1.2.below hb hS1.2.lt⟩
        replace hB := hB.trans (hb.mono hw0)
        replace hw0 := Nat.le_trans hw0 hb.size
        refine hK.out _ _ hS2 (fun _ => ?_)
        clear hK K hb
        try simp only [Act.put, List.setIfInBounds_toArray, List.set_cons_zero, List.set_cons_succ]
        refine wpAnyH_ready (rs := [6, 7]) (by kernel_rfl) (by simp) ?_
        refine AllReadyH.cons rfl (fun K hK => ?_) (AllReadyH.cons rfl (fun K hK => ?_) AllReadyH.nil)
        · try rw [if_pos (by rfl)]
          go_simp
          have hb := below_alloc v2 (.cells #[.int .u8 0, .int .u8 0, .int .u8 0] 26)
          have hz5 := Vb.new 26 v2 [.int .u8 0, .int .u8 0, .int .u8 0]
          have hS3 : (fun W => Vb 31 W ga [.int .i64 a.k, .int .i64 a.pr, .int .i64 a.to, .int .i64 a.po, .int .i64 a.x.v, .int .i64 a.x.m, .int .u8 a.x.b0, .int .u8 a.x.b1, .int .u8 a.x.b2, .int .u8 a.x.i0, .int .u8 a.x.i1, .int .u8 a.x.i2, sa] ∧ Vb 31 W gb [.int .i64 b.k, .int .i64 b.pr, .int .i64 b.to, .int .i64 b.po, .int .i64 b.x.v, .int .i64 b.x.m, .int .u8 b.x.b0, .int .u8 b.x.b1, .int .u8 b.x.b2, .int .u8 b.x.i0, .int .u8 b.x.i1, .int .u8 b.x.i2, sb]) (v2.alloc (.cells #[.int .u8 0, .int .u8 0, .int .u8 0] 26)) := ⟨hS2.1.alloc _, hS2.2.alloc _⟩
          have hl6 := hw0
          replace hB := hB.trans (hb.mono hw0)
          replace hw0 := Nat.le_trans hw0 hb.size
          refine hK.out _ _ hS3 (fun _ => ?_)
          clear hK K hb
          try simp only [Act.put, List.setIfInBounds_toArray, List.set_cons_zero, List.set_cons_succ]
          clear hS2
          generalize hu3 : v2.alloc (.cells #[.int .u8 0, .int .u8 0, .int .u8 0] 26) = v3 at *
          generalize v2.heap.size = q6 at *
          clear hu3
          refine wpAnyH_ready (rs := [7]) (by kernel_rfl) (by simp) ?_
          refine AllReadyH.cons rfl (fun K hK => ?_) AllReadyH.nil
          · try rw [if_pos (by rfl)]
            go_simp
            have hb := below_alloc v3 (.cells #[.int .u8 0, .int .u8 0, .int .u8 0] 26)
            have hz6 := Vb.new 26 v3 [.int .u8 0, .int .u8 0, .int .u8 0]
            have hS4 : (fun W => Vb 31 W ga [.int .i64 a.k, .int .i64 a.pr, .int .i64 a.to, .int .i64 a.po, .int .i64 a.x.v, .int .i64 a.x.m, .int .u8 a.x.b0, .int .u8 a.x.b1, .int .u8 a.x.b2, .int .u8 a.x.i0, .int .u8 a.x.i1, .int .u8 a.x.i2, sa] ∧ Vb 31 W gb [.int .i64 b.k, .int .i64 b.pr, .int .i64 b.to, .int .i64 b.po, .int .i64 b.x.v, .int .i64 b.x.m, .int .u8 b.x.b0, .int .u8 b.x.b1, .int .u8 b.x.b2, .int .u8 b.x.i0, .int .u8 b.x.i1, .int .u8 b.x.i2, sb]) (v3.alloc (.cells #[.int .u8 0, .int .u8 0, .int .u8 0] 26)) := ⟨hS3.1.alloc _, hS3.2.alloc _⟩
            have hl7 := hw0
            have hlt := hz5.lt
            replace hz5 := hz5.alloc (.cells #[.int .u8 0, .int .u8 0, .int .u8 0] 26)
            replace hB := hB.trans (hb.mono hw0)
            replace hw0 := Nat.le_trans hw0 hb.size
            refine hK.out _ _ hS4 (fun _ => ?_)
            clear hK K hb
            try simp only [Act.put, List.setIfInBounds_toArray, List.set_cons_zero, List.set_cons_succ]
            clear hS3
            generalize hu4 : v3.alloc (.cells #[.int .u8 0, .int .u8 0, .int .u8 0] 26) = v4 at *
            generalize v3.heap.size = q7 at *
            clear hu4
            refine wpAnyH_ready (rs := [8]) (by kernel_rfl) (by simp) ?_
            refine AllReadyH.cons rfl (fun K hK => ?_) AllReadyH.nil
            · try rw [if_pos (by rfl)]
              refine wp_store_vb' (T := 26) (vs := [.int .u8 a.x.b0, .int .u8 a.x.b1, .int .u8 a.x.b2]) none rfl (.tmp 5) (.tmp 9) rfl rfl rfl hz5 rfl agg_header rfl ?_
              intro v5 hn hg hz
              have hS5 : (fun W => Vb 31 W ga [.int .i64 a.k, .int .i64 a.pr, .int .i64 a.to, .int .i64 a.po, .int .i64 a.x.v, .int .i64 a.x.m, .int .u8 a.x.b0, .int .u8 a.x.b1, .int .u8 a.x.b2, .int .u8 a.x.i0, .int .u8 a.x.i1, .int .u8 a.x.i2, sa] ∧ Vb 31 W gb [.int .i64 b.k, .int .i64 b.pr, .int .i64 b.to, .int .i64 b.po, .int .i64 b.x.v, .int .i64 b.x.m, .int .u8 b.x.b0, .int .u8 b.x.b1, .int .u8 b.x.b2, .int .u8 b.x.i0, .int .u8 b.x.i1, .int .u8 b.x.i2, sb]) v5 := ⟨hS4.1.grown hg (by omega), hS4.2.grown hg (by omega)⟩
              replace hz6 := hz6.grown hg (by omega)
              replace hz5 := hn
              replace hB : Below w.heap.size w v5 := hB.grown hg hw0 (fun k e => by simp at e; omega)
              replace hw0 := Nat.le_trans hw0 hg.size
              refine hK.out _ _ hS5 (fun _ => ?_)
              clear hK K hn hg hz
              try simp only [Act.put, List.setIfInBounds_toArray, List.set_cons_zero, List.set_cons_succ]
              refine wpAnyH_ready (rs := [9]) (by kernel_rfl) (by simp) ?_
              refine AllReadyH.cons rfl (fun K hK => ?_) AllReadyH.nil
              · try rw [if_pos (by rfl)]
                refine wp_store_vb' (T := 26) (vs := [.int .u8 b.x.b0, .int .u8 b.x.b1, .int .u8 b.x.b2]) none rfl (.tmp 6) (.tmp 12) rfl rfl rfl hz6 rfl agg_header rfl ?_
                intro v6 hn hg hz
                have hS6 : (fun W => Vb 31 W ga [.int .i64 a.k, .int .i64 a.pr, .int .i64 a.to, .int .i64 a.po, .int .i64 a.x.v, .int .i64 a.x.m, .int .u8 a.x.b0, .int .u8 a.x.b1, .int .u8 a.x.b2, .int .u8 a.x.i0, .int .u8 a.x.i1, .int .u8 a.x.i2, sa] ∧ Vb 31 W gb [.int .i64 b.k, .int .i64 b.pr, .int .i64 b.to, .int .i64 b.po, .int .i64 b.x.v, .int .i64 b.x.m, .int .u8 b.x.b0, .int .u8 b.x.b1, .int .u8 b.x.b2, .int .u8 b.x.i0, .int .u8 b.x.i1, .int .u8 b.x.i2, sb]) v6 := ⟨hS5.1.grown hg (by omega), hS5.2.grown hg (by omega)⟩
                replace hz5 := hz5.grown hg (by omega)
                replace hz6 := hn
                replace hB : Below w.heap.size w v6 := hB.grown hg hw0 (fun k e => by simp at e; omega)
                replace hw0 := Nat.le_trans hw0 hg.size
                refine hK.out _ _ hS6 (fun _ => ?_)
                clear hK K hn hg hz
                try simp only [Act.put, List.setIfInBounds_toArray, List.set_cons_zero, List.set_cons_succ]
                refine wpAnyH_done (by kernel_rfl) ?_ _
                go_wp2_with fail
                go_meet
                case rel => exact ⟨_, _, rfl, rfl, hz5, hz6, hB⟩
        · try rw [if_pos (by rfl)]
          go_simp
          have hb := below_alloc v2 (.cells #[.int .u8 0, .int .u8 0, .int .u8 0] 26)
          have hz6 := Vb.new 26 v2 [.int .u8 0, .int .u8 0, .int .u8 0]
          have hS7 : (fun W => Vb 31 W ga [.int .i64 a.k, .int .i64 a.pr, .int .i64 a.to, .int .i64 a.po, .int .i64 a.x.v, .int .i64 a.x.m, .int .u8 a.x.b0, .int .u8 a.x.b1, .int .u8 a.x.b2, .int .u8 a.x.i0, .int .u8 a.x.i1, .int .u8 a.x.i2, sa] ∧ Vb 31 W gb [.int .i64 b.k, .int .i64 b.pr, .int .i64 b.to, .int .i64 b.po, .int .i64 b.x.v, .int .i64 b.x.m, .int .u8 b.x.b0, .int .u8 b.x.b1, .int .u8 b.x.b2, .int .u8 b.x.i0, .int .u8 b.x.i1, .int .u8 b.x.i2, sb]) (v2.alloc (.cells #[.int .u8 0, .int .u8 0, .int .u8 0] 26)) := ⟨hS2.1.alloc _, hS2.2.alloc _⟩
          have hl7 := hw0
          replace hB := hB.trans (hb.mono hw0)
          replace hw0 := Nat.le_trans hw0 hb.size
          refine hK.out _ _ hS7 (fun _ => ?_)
          clear hK K hb
          try simp only [Act.put, List.setIfInBounds_toArray, List.set_cons_zero, List.set_cons_succ]
          clear hS2
          generalize hu7 : v2.alloc (.cells #[.int .u8 0, .int .u8 0, .int .u8 0] 26) = v7 at *
          generalize v2.heap.size = q7 at *
          clear hu7
          refine wpAnyH_ready (rs := [6]) (by kernel_rfl) (by simp) ?_
          refine AllReadyH.cons rfl (fun K hK => ?_) AllReadyH.nil
          · try rw [if_pos (by rfl)]
            go_simp
            have hb := below_alloc v7 (.cells #[.int .u8 0, .int .u8 0, .int .u8 0] 26)
            have hz5 := Vb.new 26 v7 [.int .u8 0, .int .u8 0, .int .u8 0]
            have hS8 : (fun W => Vb 31 W ga [.int .i64 a.k, .int .i64 a.pr, .int .i64 a.to, .int .i64 a.po, .int .i64 a.x.v, .int .i64 a.x.m, .int .u8 a.x.b0, .int .u8 a.x.b1, .int .u8 a.x.b2, .int .u8 a.x.i0, .int .u8 a.x.i1, .int .u8 a.x.i2, sa] ∧ Vb 31 W gb [.int .i64 b.k, .int .i64 b.pr, .int .i64 b.to, .int .i64 b.po, .int .i64 b.x.v, .int .i64 b.x.m, .int .u8 b.x.b0, .int .u8 b.x.b1, .int .u8 b.x.b2, .int .u8 b.x.i0, .int .u8 b.x.i1, .int .u8 b.x.i2, sb]) (v7.alloc (.cells #[.int .u8 0, .int .u8 0, .int .u8 0] 26)) := ⟨hS7.1.alloc _, hS7.2.alloc _⟩
            have hl6 := hw0
            have hlt := hz6.lt
            replace hz6 := hz6.alloc (.cells #[.int .u8 0, .int .u8 0, .int .u8 0] 26)
            replace hB := hB.trans (hb.mono hw0)
            replace hw0 := Nat.le_trans hw0 hb.size
            refine hK.out _ _ hS8 (fun _ => ?_)
            clear hK K hb
            try simp only [Act.put, List.setIfInBounds_toArray, List.set_cons_zero, List.set_cons_succ]
            clear hS7
            generalize hu8 : v7.alloc (.cells #[.int .u8 0, .int .u8 0, .int .u8 0] 26) = v8 at *
            generalize v7.heap.size = q6 at *
            clear hu8
            refine wpAnyH_ready (rs := [8]) (by kernel_rfl) (by simp) ?_
            refine AllReadyH.cons rfl (fun K hK => ?_) AllReadyH.nil
            · try rw [if_pos (by rfl)]
              refine wp_store_vb' (T := 26) (vs := [.int .u8 a.x.b0, .int .u8 a.x.b1, .int .u8 a.x.b2]) none rfl (.tmp 5) (.tmp 9) rfl rfl rfl hz5 rfl agg_header rfl ?_
              intro v9 hn hg hz
              have hS9 : (fun W => Vb 31 W ga [.int .i64 a.k, .int .i64 a.pr, .int .i64 a.to, .int .i64 a.po, .int .i64 a.x.v, .int .i64 a.x.m, .int .u8 a.x.b0, .int .u8 a.x.b1, .int .u8 a.x.b2, .int .u8 a.x.i0, .int .u8 a.x.i1, .int .u8 a.x.i2, sa] ∧ Vb 31 W gb [.int .i64 b.k, .int .i64 b.pr, .int .i64 b.to, .int .i64 b.po, .int .i64 b.x.v, .int .i64 b.x.m, .int .u8 b.x.b0, .int .u8 b.x.b1, .int .u8 b.x.b2, .int .u8 b.x.i0, .int .u8 b.x.i1, .int .u8 b.x.i2, sb]) v9 := ⟨hS8.1.grown hg (by omega), hS8.2.grown hg (by omega)⟩
              replace hz6 := hz6.grown hg (by omega)
              replace hz5 := hn
              replace hB : Below w.heap.size w v9 := hB.grown hg hw0 (fun k e => by simp at e; omega)
              replace hw0 := Nat.le_trans hw0 hg.size
              refine hK.out _ _ hS9 (fun _ => ?_)
              clear hK K hn hg hz
              try simp only [Act.put, List.setIfInBounds_toArray, List.set_cons_zero, List.set_cons_succ]
              refine wpAnyH_ready (rs := [9]) (by kernel_rfl) (by simp) ?_
              refine AllReadyH.cons rfl (fun K hK => ?_) AllReadyH.nil
              · try rw [if_pos (by rfl)]
                refine wp_store_vb' (T := 26) (vs := [.int .u8 b.x.b0, .int .u8 b.x.b1, .int .u8 b.x.b2]) none rfl (.tmp 6) (.tmp 12) rfl rfl rfl hz6 rfl agg_header rfl ?_
                intro v10 hn hg hz
                have hS10 : (fun W => Vb 31 W ga [.int .i64 a.k, .int .i64 a.pr, .int .i64 a.to, .int .i64 a.po, .int .i64 a.x.v, .int .i64 a.x.m, .int .u8 a.x.b0, .int .u8 a.x.b1, .int .u8 a.x.b2, .int .u8 a.x.i0, .int .u8 a.x.i1, .int .u8 a.x.i2, sa] ∧ Vb 31 W gb [.int .i64 b.k, .int .i64 b.pr, .int .i64 b.to, .int .i64 b.po, .int .i64 b.x.v, .int .i64 b.x.m, .int .u8 b.x.b0, .int .u8 b.x.b1, .int .u8 b.x.b2, .int .u8 b.x.i0, .int .u8 b.x.i1, .int .u8 b.x.i2, sb]) v10 := ⟨hS9.1.grown hg (by omega), hS9.2.grown hg (by omega)⟩
                replace hz5 := hz5.grown hg (by omega)
                replace hz6 := hn
                replace hB : Below w.heap.size w v10 := hB.grown hg hw0 (fun k e => by simp at e; omega)
                replace hw0 := Nat.le_trans hw0 hg.size
                refine hK.out _ _ hS10 (fun _ => ?_)
                clear hK K hn hg hz
                try simp only [Act.put, List.setIfInBounds_toArray, List.set_cons_zero, List.set_cons_succ]
                refine wpAnyH_done (by kernel_rfl) ?_ _
                go_wp2_with fail
                go_meet
                case rel => exact ⟨_, _, rfl, rfl, hz5, hz6, hB⟩
      · try rw [if_pos (by rfl)]
        go_simp
        have hb := below_alloc v1 (.cells #[.int .u8 0, .int .u8 0, .int .u8 0] 26)
        have hz5 := Vb.new 26 v1 [.int .u8 0, .int .u8 0, .int .u8 0]
        have hS11 : (fun W => Vb 31 W ga [.int .i64 a.k, .int .i64 a.pr, .int .i64 a.to, .int .i64 a.po, .int .i64 a.x.v, .int .i64 a.x.m, .int .u8 a.x.b0, .int .u8 a.x.b1, .int .u8 a.x.b2, .int .u8 a.x.i0, .int .u8 a.x.i1, .int .u8 a.x.i2, sa] ∧ Vb 31 W gb [.int .i64 b.k, .int .i64 b.pr, .int .i64 b.to, .int .i64 b.po, .int .i64 b.x.v, .int .i64 b.x.m, .int .u8 b.x.b0, .int .u8 b.x.b1, .int .u8 b.x.b2, .int .u8 b.x.i0, .int .u8 b.x.i1, .int .u8 b.x.i2, sb]) (v1.alloc (.cells #[.int .u8 0, .int .u8 0, .int .u8 0] 26)) := ⟨hS1.1.alloc _, hS1.2.alloc _⟩
        have hl6 := hw0
        replace hB := hB.trans (hb.mono hw0)
        replace hw0 := Nat.le_trans hw0 hb.size
        refine hK.out _ _ hS11 (fun _ => ?_)
        clear hK K hb
        try simp only [Act.put, List.setIfInBounds_toArray, List.set_cons_zero, List.set_cons_succ]
        clear hS1
        generalize hu11 : v1.alloc (.cells #[.int .u8 0, .int .u8 0, .int .u8 0] 26) = v11 at *
        generalize v1.heap.size = q6 at *
        clear hu11
        refine wpAnyH_ready (rs := [5, 7]) (by kernel_rfl) (by simp) ?_
        refine AllReadyH.cons rfl (fun K hK => ?_) (AllReadyH.cons rfl (fun K hK => ?_) AllReadyH.nil)
        · try rw [if_pos (by rfl)]
          go_simp
          go_at_call 118
          refine (read8 b sb _).mono ?_
          rintro e v12 ⟨rfl, hb⟩
          have hS12 : (fun W => Vb 31 W ga [.int .i64 a.k, .int .i64 a.pr, .int .i64 a.to, .int .i64 a.po, .int .i64 a.x.v, .int .i64 a.x.m, .int .u8 a.x.b0, .int .u8 a.x.b1, .int .u8 a.x.b2, .int .u8 a.x.i0, .int .u8 a.x.i1, .int .u8 a.x.i2, sa] ∧ Vb 31 W gb [.int .i64 b.k, .int .i64 b.pr, .int .i64 b.to, .int .i64 b.po, .int .i64 b.x.v, .int .i64 b.x.m, .int .u8 b.x.b0, .int .u8 b.x.b1, .int .u8 b.x.b2, .int .u8 b.x.i0, .int .u8 b.x.i1, .int .u8 b.x.i2, sb]) v12 := ⟨hS11.1.below hb hS11.1.lt, hS11.2.below hb hS11.2.lt⟩
          replace hz5 := hz5.below hb hz5.lt
          replace hB := hB.trans (hb.mono hw0)
          replace hw0 := Nat.le_trans hw0 hb.size
          refine hK.out _ _ hS12 (fun _ => ?_)
          clear hK K hb
          try simp only [Act.put, List.setIfInBounds_toArray, List.set_cons_zero, List.set_cons_succ]
          refine wpAnyH_ready (rs := [7]) (by kernel_rfl) (by simp) ?_
          refine AllReadyH.cons rfl (fun K hK => ?_) AllReadyH.nil
          · try rw [if_pos (by rfl)]
            go_simp
            have hb := below_alloc v12 (.cells #[.int .u8 0, .int .u8 0, .int .u8 0] 26)
            have hz6 := Vb.new 26 v12 [.int .u8 0, .int .u8 0, .int .u8 0]
            have hS13 : (fun W => Vb 31 W ga [.int .i64 a.k, .int .i64 a.pr, .int .i64 a.to, .int .i64 a.po, .int .i64 a.x.v, .int .i64 a.x.m, .int .u8 a.x.b0, .int .u8 a.x.b1, .int .u8 a.x.b2, .int .u8 a.x.i0, .int .u8 a.x.i1, .int .u8 a.x.i2, sa] ∧ Vb 31 W gb [.int .i64 b.k, .int .i64 b.pr, .int .i64 b.to, .int .i64 b.po, .int .i64 b.x.v, .int .i64 b.x.m, .int .u8 b.x.b0, .int .u8 b.x.b1, .int .u8 b.x.b2, .int .u8 b.x.i0, .int .u8 b.x.i1, .int .u8 b.x.i2, sb]) (v12.alloc (.cells #[.int .u8 0, .int .u8 0, .int .u8 0] 26)) := ⟨hS12.1.alloc _, hS12.2.alloc _⟩
            have hl7 := hw0
            have hlt := hz5.lt
            replace hz5 := hz5.alloc (.cells #[.int .u8 0, .int .u8 0, .int .u8 0] 26)
            replace hB := hB.trans (hb.mono hw0)
            replace hw0 := Nat.le_trans hw0 hb.size
            refine hK.out _ _ hS13 (fun _ => ?_)
            clear hK K hb
            try simp only [Act.put, List.setIfInBounds_toArray, List.set_cons_zero, List.set_cons_succ]
            clear hS12
            generalize hu13 : v12.alloc (.cells #[.int .u8 0, .int .u8 0, .int .u8 0] 26) = v13 at *
            generalize v12.heap.size = q7 at *
            clear hu13
            refine wpAnyH_ready (rs := [8]) (by kernel_rfl) (by simp) ?_
            refine AllReadyH.cons rfl (fun K hK => ?_) AllReadyH.nil
            · try rw [if_pos (by rfl)]
              refine wp_store_vb' (T := 26) (vs := [.int .u8 a.x.b0, .int .u8 a.x.b1, .int .u8 a.x.b2]) none rfl (.tmp 5) (.tmp 9) rfl rfl rfl hz5 rfl agg_header rfl ?_
              intro v14 hn hg hz
              have hS14 : (fun W => Vb 31 W ga [.int .i64 a.k, .int .i64 a.pr, .int .i64 a.to, .int .i64 a.po, .int .i64 a.x.v, .int .i64 a.x.m, .int .u8 a.x.b0, .int .u8 a.x.b1, .int .u8 a.x.b2, .int .u8 a.x.i0, .int .u8 a.x.i1, .int .u8 a.x.i2, sa] ∧ Vb 31 W gb [.int .i64 b.k, .int .i64 b.pr, .int .i64 b.to, .int .i64 b.po, .int .i64 b.x.v, .int .i64 b.x.m, .int .u8 b.x.b0, .int .u8 b.x.b1, .int .u8 b.x.b2, .int .u8 b.x.i0, .int .u8 b.x.i1, .int .u8 b.x.i2, sb]) v14 := ⟨hS13.1.grown hg (by omega), hS13.2.grown hg (by omega)⟩
              replace hz6 := hz6.grown hg (by omega)
              replace hz5 := hn
              replace hB : Below w.heap.size w v14 := hB.grown hg hw0 (fun k e => by simp at e; omega)
              replace hw0 := Nat.le_trans hw0 hg.size
              refine hK.out _ _ hS14 (fun _ => ?_)
              clear hK K hn hg hz
              try simp only [Act.put, List.setIfInBounds_toArray, List.set_cons_zero, List.set_cons_succ]
              refine wpAnyH_ready (rs := [9]) (by kernel_rfl) (by simp) ?_
              refine AllReadyH.cons rfl (fun K hK => ?_) AllReadyH.nil
              · try rw [if_pos (by rfl)]
                refine wp_store_vb' (T := 26) (vs := [.int .u8 b.x.b0, .int .u8 b.x.b1, .int .u8 b.x.b2]) none rfl (.tmp 6) (.tmp 12) rfl rfl rfl hz6 rfl agg_header rfl ?_
                intro v15 hn hg hz
                have hS15 : (fun W => Vb 31 W ga [.int .i64 a.k, .int .i64 a.pr, .int .i64 a.to, .int .i64 a.po, .int .i64 a.x.v, .int .i64 a.x.m, .int .u8 a.x.b0, .int .u8 a.x.b1, .int .u8 a.x.b2, .int .u8 a.x.i0, .int .u8 a.x.i1, .int .u8 a.x.i2, sa] ∧ Vb 31 W gb [.int .i64 b.k, .int .i64 b.pr, .int .i64 b.to, .int .i64 b.po, .int .i64 b.x.v, .int .i64 b.x.m, .int .u8 b.x.b0, .int .u8 b.x.b1, .int .u8 b.x.b2, .int .u8 b.x.i0, .int .u8 b.x.i1, .int .u8 b.x.i2, sb]) v15 := ⟨hS14.1.grown hg (by omega), hS14.2.grown hg (by omega)⟩
                replace hz5 := hz5.grown hg (by omega)
                replace hz6 := hn
                replace hB : Below w.heap.size w v15 := hB.grown hg hw0 (fun k e => by simp at e; omega)
                replace hw0 := Nat.le_trans hw0 hg.size
                refine hK.out _ _ hS15 (fun _ => ?_)
                clear hK K hn hg hz
                try simp only [Act.put, List.setIfInBounds_toArray, List.set_cons_zero, List.set_cons_succ]
                refine wpAnyH_done (by kernel_rfl) ?_ _
                go_wp2_with fail
                go_meet
                case rel => exact ⟨_, _, rfl, rfl, hz5, hz6, hB⟩
        · try rw [if_pos (by rfl)]
          go_simp
          have hb := below_alloc v11 (.cells #[.int .u8 0, .int .u8 0, .int .u8 0] 26)
          have hz6 := Vb.new 26 v11 [.int .u8 0, .int .u8 0, .int .u8 0]
          have hS16 : (fun W => Vb 31 W ga [.int .i64 a.k, .int .i64 a.pr, .int .i64 a.to, .int .i64 a.po, .int .i64 a.x.v, .int .i64 a.x.m, .int .u8 a.x.b0, .int .u8 a.x.b1, .int .u8 a.x.b2, .int .u8 a.x.i0, .int .u8 a.x.i1, .int .u8 a.x.i2, sa] ∧ Vb 31 W gb [.int .i64 b.k, .int .i64 b.pr, .int .i64 b.to, .int .i64 b.po, .int .i64 b.x.v, .int .i64 b.x.m, .int .u8 b.x.b0, .int .u8 b.x.b1, .int .u8 b.x.b2, .int .u8 b.x.i0, .int .u8 b.x.i1, .int .u8 b.x.i2, sb]) (v11.alloc (.cells #[.int .u8 0, .int .u8 0, .int .u8 0] 26)) := ⟨hS11.1.alloc _, hS11.2.alloc _⟩
          have hl7 := hw0
          have hlt := hz5.lt
          replace hz5 := hz5.alloc (.cells #[.int .u8 0, .int .u8 0, .int .u8 0] 26)
          replace hB := hB.trans (hb.mono hw0)
          replace hw0 := Nat.le_trans hw0 hb.size
          refine hK.out _ _ hS16 (fun _ => ?_)
          clear hK K hb
          try simp only [Act.put, List.setIfInBounds_toArray, List.set_cons_zero, List.set_cons_succ]
          clear hS11
          generalize hu16 : v11.alloc (.cells #[.int .u8 0, .int .u8 0, .int .u8 0] 26) = v16 at *
          generalize v11.heap.size = q7 at *
          clear hu16
          refine wpAnyH_ready (rs := [5]) (by kernel_rfl) (by simp) ?_
          refine AllReadyH.cons rfl (fun K hK => ?_) AllReadyH.nil
          · try rw [if_pos (by rfl)]
            go_simp
            go_at_call 118
            refine (read8 b sb _).mono ?_
            rintro e v17 ⟨rfl, hb⟩
            have hS17 : (fun W => Vb 31 W ga [.int .i64 a.k, .int .i64 a.pr, .int .i64 a.to, .int .i64 a.po, .int .i64 a.x.v, .int .i64 a.x.m, .int .u8 a.x.b0, .int .u8 a.x.b1, .int .u8 a.x.b2, .int .u8 a.x.i0, .int .u8 a.x.i1, .int .u8 a.x.i2, sa] ∧ Vb 31 W gb [.int .i64 b.k, .int .i64 b.pr, .int .i64 b.to, .int .i64 b.po, .int .i64 b.x.v, .int .i64 b.x.m, .int .u8 b.x.b0, .int .u8 b.x.b1, .int .u8 b.x.b2, .int .u8 b.x.i0, .int .u8 b.x.i1, .int .u8 b.x.i2, sb]) v17 := ⟨hS16.1.below hb hS16.1.lt, hS16.2.below hb hS16.2.lt⟩
            replace hz5 := hz5.below hb hz5.lt
            replace hz6 := hz6.below hb hz6.lt
            replace hB := hB.trans (hb.mono hw0)
            replace hw0 := Nat.le_trans hw0 hb.size
            refine hK.out _ _ hS17 (fun _ => ?_)
            clear hK K hb
            try simp only [Act.put, List.setIfInBounds_toArray, List.set_cons_zero, List.set_cons_succ]
            refine wpAnyH_ready (rs := [8]) (by kernel_rfl) (by simp) ?_
            refine AllReadyH.cons rfl (fun K hK => ?_) AllReadyH.nil
            · try rw [if_pos (by rfl)]
              refine wp_store_vb' (T := 26) (vs := [.int .u8 a.x.b0, .int .u8 a.x.b1, .int .u8 a.x.b2]) none rfl (.tmp 5) (.tmp 9) rfl rfl rfl hz5 rfl agg_header rfl ?_
              intro v18 hn hg hz
              have hS18 : (fun W => Vb 31 W ga [.int .i64 a.k, .int .i64 a.pr, .int .i64 a.to, .int .i64 a.po, .int .i64 a.x.v, .int .i64 a.x.m, .int .u8 a.x.b0, .int .u8 a.x.b1, .int .u8 a.x.b2, .int .u8 a.x.i0, .int .u8 a.x.i1, .int .u8 a.x.i2, sa] ∧ Vb 31 W gb [.int .i64 b.k, .int .i64 b.pr, .int .i64 b.to, .int .i64 b.po, .int .i64 b.x.v, .int .i64 b.x.m, .int .u8 b.x.b0, .int .u8 b.x.b1, .int .u8 b.x.b2, .int .u8 b.x.i0, .int .u8 b.x.i1, .int .u8 b.x.i2, sb]) v18 := ⟨hS17.1.grown hg (by omega), hS17.2.grown hg (by omega)⟩
              replace hz6 := hz6.grown hg (by omega)
              replace hz5 := hn
              replace hB : Below w.heap.size w v18 := hB.grown hg hw0 (fun k e => by simp at e; omega)
              replace hw0 := Nat.le_trans hw0 hg.size
              refine hK.out _ _ hS18 (fun _ => ?_)
              clear hK K hn hg hz
              try simp only [Act.put, List.setIfInBounds_toArray, List.set_cons_zero, List.set_cons_succ]
              refine wpAnyH_ready (rs := [9]) (by kernel_rfl) (by simp) ?_
              refine AllReadyH.cons rfl (fun K hK => ?_) AllReadyH.nil
              · try rw [if_pos (by rfl)]
                refine wp_store_vb' (T := 26) (vs := [.int .u8 b.x.b0, .int .u8 b.x.b1, .int .u8 b.x.b2]) none rfl (.tmp 6) (.tmp 12) rfl rfl rfl hz6 rfl agg_header rfl ?_
                intro v19 hn hg hz
                have hS19 : (fun W => Vb 31 W ga [.int .i64 a.k, .int .i64 a.pr, .int .i64 a.to, .int .i64 a.po, .int .i64 a.x.v, .int .i64 a.x.m, .int .u8 a.x.b0, .int .u8 a.x.b1, .int .u8 a.x.b2, .int .u8 a.x.i0, .int .u8 a.x.i1, .int .u8 a.x.i2, sa] ∧ Vb 31 W gb [.int .i64 b.k, .int .i64 b.pr, .int .i64 b.to, .int .i64 b.po, .int .i64 b.x.v, .int .i64 b.x.m, .int .u8 b.x.b0, .int .u8 b.x.b1, .int .u8 b.x.b2, .int .u8 b.x.i0, .int .u8 b.x.i1, .int .u8 b.x.i2, sb]) v19 := ⟨hS18.1.grown hg (by omega), hS18.2.grown hg (by omega)⟩
                replace hz5 := hz5.grown hg (by omega)
                replace hz6 := hn
                replace hB : Below w.heap.size w v19 := hB.grown hg hw0 (fun k e => by simp at e; omega)
                replace hw0 := Nat.le_trans hw0 hg.size
                refine hK.out _ _ hS19 (fun _ => ?_)
                clear hK K hn hg hz
                try simp only [Act.put, List.setIfInBounds_toArray, List.set_cons_zero, List.set_cons_succ]
                refine wpAnyH_done (by kernel_rfl) ?_ _
                go_wp2_with fail
                go_meet
                case rel => exact ⟨_, _, rfl, rfl, hz5, hz6, hB⟩
      · try rw [if_pos (by rfl)]
        go_simp
        have hb := below_alloc v1 (.cells #[.int .u8 0, .int .u8 0, .int .u8 0] 26)
        have hz6 := Vb.new 26 v1 [.int .u8 0, .int .u8 0, .int .u8 0]
        have hS20 : (fun W => Vb 31 W ga [.int .i64 a.k, .int .i64 a.pr, .int .i64 a.to, .int .i64 a.po, .int .i64 a.x.v, .int .i64 a.x.m, .int .u8 a.x.b0, .int .u8 a.x.b1, .int .u8 a.x.b2, .int .u8 a.x.i0, .int .u8 a.x.i1, .int .u8 a.x.i2, sa] ∧ Vb 31 W gb [.int .i64 b.k, .int .i64 b.pr, .int .i64 b.to, .int .i64 b.po, .int .i64 b.x.v, .int .i64 b.x.m, .int .u8 b.x.b0, .int .u8 b.x.b1, .int .u8 b.x.b2, .int .u8 b.x.i0, .int .u8 b.x.i1, .int .u8 b.x.i2, sb]) (v1.alloc (.cells #[.int .u8 0, .int .u8 0, .int .u8 0] 26)) := ⟨hS1.1.alloc _, hS1.2.alloc _⟩
        have hl7 := hw0
        replace hB := hB.trans (hb.mono hw0)
        replace hw0 := Nat.le_trans hw0 hb.size
        refine hK.out _ _ hS20 (fun _ => ?_)
        clear hK K hb
        try simp only [Act.put, List.setIfInBounds_toArray, List.set_cons_zero, List.set_cons_succ]
        clear hS1
        generalize hu20 : v1.alloc (.cells #[.int .u8 0, .int .u8 0, .int .u8 0] 26) = v20 at *
        generalize v1.heap.size = q7 at *
        clear hu20
        refine wpAnyH_ready (rs := [5, 6]) (by kernel_rfl) (by simp) ?_
        refine AllReadyH.cons rfl (fun K hK => ?_) (AllReadyH.cons rfl (fun K hK => ?_) AllReadyH.nil)
        · try rw [if_pos (by rfl)]
          go_simp
          go_at_call 118
          refine (read8 b sb _).mono ?_
          rintro e v21 ⟨rfl, hb⟩
          have hS21 : (fun W => Vb 31 W ga [.int .i64 a.k, .int .i64 a.pr, .int .i64 a.to, .int .i64 a.po, .int .i64 a.x.v, .int .i64 a.x.m, .int .u8 a.x.b0, .int .u8 a.x.b1, .int .u8 a.x.b2, .int .u8 a.x.i0, .int .u8 a.x.i1, .int .u8 a.x.i2, sa] ∧ Vb 31 W gb [.int .i64 b.k, .int .i64 b.pr, .int .i64 b.to, .int .i64 b.po, .int .i64 b.x.v, .int .i64 b.x.m, .int .u8 b.x.b0, .int .u8 b.x.b1, .int .u8 b.x.b2, .int .u8 b.x.i0, .int .u8 b.x.i1, .int .u8 b.x.i2, sb]) v21 := ⟨hS20.1.below hb hS20.1.lt, hS20.2.below hb hS20.2.lt⟩
          replace hz6 := hz6.below hb hz6.lt
          replace hB := hB.trans (hb.mono hw0)
          replace hw0 := Nat.le_trans hw0 hb.size
          refine hK.out _ _ hS21 (fun _ => ?_)
          clear hK K hb
          try simp only [Act.put, List.setIfInBounds_toArray, List.set_cons_zero, List.set_cons_succ]
          refine wpAnyH_ready (rs := [6]) (by kernel_rfl) (by simp) ?_
          refine AllReadyH.cons rfl (fun K hK => ?_) AllReadyH.nil
          · try rw [if_pos (by rfl)]
            go_simp
            have hb := below_alloc v21 (.cells #[.int .u8 0, .int .u8 0, .int .u8 0] 26)
            have hz5 := Vb.new 26 v21 [.int .u8 0, .int .u8 0, .int .u8 0]
            have hS22 : (fun W => Vb 31 W ga [.int .i64 a.k, .int .i64 a.pr, .int .i64 a.to, .int .i64 a.po, .int .i64 a.x.v, .int .i64 a.x.m, .int .u8 a.x.b0, .int .u8 a.x.b1, .int .u8 a.x.b2, .int .u8 a.x.i0, .int .u8 a.x.i1, .int .u8 a.x.i2, sa] ∧ Vb 31 W gb [.int .i64 b.k, .int .i64 b.pr, .int .i64 b.to, .int .i64 b.po, .int .i64 b.x.v, .int .i64 b.x.m, .int .u8 b.x.b0, .int .u8 b.x.b1, .int .u8 b.x.b2, .int .u8 b.x.i0, .int .u8 b.x.i1, .int .u8 b.x.i2, sb]) (v21.alloc (.cells #[.int .u8 0, .int .u8 0, .int .u8 0] 26)) := ⟨hS21.1.alloc _, hS21.2.alloc _⟩
            have hl6 := hw0
            have hlt := hz6.lt
            replace hz6 := hz6.alloc (.cells #[.int .u8 0, .int .u8 0, .int .u8 0] 26)
            replace hB := hB.trans (hb.mono hw0)
            replace hw0 := Nat.le_trans hw0 hb.size
            refine hK.out _ _ hS22 (fun _ => ?_)
            clear hK K hb
            try simp only [Act.put, List.setIfInBounds_toArray, List.set_cons_zero, List.set_cons_succ]
            clear hS21
            generalize hu22 : v21.alloc (.cells #[.int .u8 0, .int .u8 0, .int .u8 0] 26) = v22 at *
            generalize v21.heap.size = q6 at *
            clear hu22
            refine wpAnyH_ready (rs := [8]) (by kernel_rfl) (by simp) ?_
            refine AllReadyH.cons rfl (fun K hK => ?_) AllReadyH.nil
            · try rw [if_pos (by rfl)]
              refine wp_store_vb' (T := 26) (vs := [.int .u8 a.x.b0, .int .u8 a.x.b1, .int .u8 a.x.b2]) none rfl (.tmp 5) (.tmp 9) rfl rfl rfl hz5 rfl agg_header rfl ?_
              intro v23 hn hg hz
              have hS23 : (fun W => Vb 31 W ga [.int .i64 a.k, .int .i64 a.pr, .int .i64 a.to, .int .i64 a.po, .int .i64 a.x.v, .int .i64 a.x.m, .int .u8 a.x.b0, .int .u8 a.x.b1, .int .u8 a.x.b2, .int .u8 a.x.i0, .int .u8 a.x.i1, .int .u8 a.x.i2, sa] ∧ Vb 31 W gb [.int .i64 b.k, .int .i64 b.pr, .int .i64 b.to, .int .i64 b.po, .int .i64 b.x.v, .int .i64 b.x.m, .int .u8 b.x.b0, .int .u8 b.x.b1, .int .u8 b.x.b2, .int .u8 b.x.i0, .int .u8 b.x.i1, .int .u8 b.x.i2, sb]) v23 := ⟨hS22.1.grown hg (by omega), hS22.2.grown hg (by omega)⟩
              replace hz6 := hz6.grown hg (by omega)
              replace hz5 := hn
              replace hB : Below w.heap.size w v23 := hB.grown hg hw0 (fun k e => by simp at e; omega)
              replace hw0 := Nat.le_trans hw0 hg.size
              refine hK.out _ _ hS23 (fun _ => ?_)
              clear hK K hn hg hz
              try simp only [Act.put, List.setIfInBounds_toArray, List.set_cons_zero, List.set_cons_succ]
              refine wpAnyH_ready (rs := [9]) (by kernel_rfl) (by simp) ?_
              refine AllReadyH.cons rfl (fun K hK => ?_) AllReadyH.nil
              · try rw [if_pos (by rfl)]
                refine wp_store_vb' (T := 26) (vs := [.int .u8 b.x.b0, .int .u8 b.x.b1, .int .u8 b.x.b2]) none rfl (.tmp 6) (.tmp 12) rfl rfl rfl hz6 rfl agg_header rfl ?_
                intro v24 hn hg hz
                have hS24 : (fun W => Vb 31 W ga [.int .i64 a.k, .int .i64 a.pr, .int .i64 a.to, .int .i64 a.po, .int .i64 a.x.v, .int .i64 a.x.m, .int .u8 a.x.b0, .int .u8 a.x.b1, .int .u8 a.x.b2, .int .u8 a.x.i0, .int .u8 a.x.i1, .int .u8 a.x.i2, sa] ∧ Vb 31 W gb [.int .i64 b.k, .int .i64 b.pr, .int .i64 b.to, .int .i64 b.po, .int .i64 b.x.v, .int .i64 b.x.m, .int .u8 b.x.b0, .int .u8 b.x.b1, .int .u8 b.x.b2, .int .u8 b.x.i0, .int .u8 b.x.i1, .int .u8 b.x.i2, sb]) v24 := ⟨hS23.1.grown hg (by omega), hS23.2.grown hg (by omega)⟩
                replace hz5 := hz5.grown hg (by omega)
                replace hz6 := hn
                replace hB : Below w.heap.size w v24 := hB.grown hg hw0 (fun k e => by simp at e; omega)
                replace hw0 := Nat.le_trans hw0 hg.size
                refine hK.out _ _ hS24 (fun _ => ?_)
                clear hK K hn hg hz
                try simp only [Act.put, List.setIfInBounds_toArray, List.set_cons_zero, List.set_cons_succ]
                refine wpAnyH_done (by kernel_rfl) ?_ _
                go_wp2_with fail
                go_meet
                case rel => exact ⟨_, _, rfl, rfl, hz5, hz6, hB⟩
        · try rw [if_pos (by rfl)]
          go_simp
          have hb := below_alloc v20 (.cells #[.int .u8 0, .int .u8 0, .int .u8 0] 26)
          have hz5 := Vb.new 26 v20 [.int .u8 0, .int .u8 0, .int .u8 0]
          have hS25 : (fun W => Vb 31 W ga [.int .i64 a.k, .int .i64 a.pr, .int .i64 a.to, .int .i64 a.po, .int .i64 a.x.v, .int .i64 a.x.m, .int .u8 a.x.b0, .int .u8 a.x.b1, .int .u8 a.x.b2, .int .u8 a.x.i0, .int .u8 a.x.i1, .int .u8 a.x.i2, sa] ∧ Vb 31 W gb [.int .i64 b.k, .int .i64 b.pr, .int .i64 b.to, .int .i64 b.po, .int .i64 b.x.v, .int .i64 b.x.m, .int .u8 b.x.b0, .int .u8 b.x.b1, .int .u8 b.x.b2, .int .u8 b.x.i0, .int .u8 b.x.i1, .int .u8 b.x.i2, sb]) (v20.alloc (.cells #[.int .u8 0, .int .u8 0, .int .u8 0] 26)) := ⟨hS20.1.alloc _, hS20.2.alloc _⟩
          have hl6 := hw0
          have hlt := hz6.lt
          replace hz6 := hz6.alloc (.cells #[.int .u8 0, .int .u8 0, .int .u8 0] 26)
          replace hB := hB.trans (hb.mono hw0)
          replace hw0 := Nat.le_trans hw0 hb.size
          refine hK.out _ _ hS25 (fun _ => ?_)
          clear hK K hb
          try simp only [Act.put, List.setIfInBounds_toArray, List.set_cons_zero, List.set_cons_succ]
          clear hS20
          generalize hu25 : v20.alloc (.cells #[.int .u8 0, .int .u8 0, .int .u8 0] 26) = v25 at *
          generalize v20.heap.size = q6 at *
          clear hu25
          refine wpAnyH_ready (rs := [5]) (by kernel_rfl) (by simp) ?_
          refine AllReadyH.cons rfl (fun K hK => ?_) AllReadyH.nil
          · try rw [if_pos (by rfl)]
            go_simp
            go_at_call 118
            refine (read8 b sb _).mono ?_
            rintro e v26 ⟨rfl, hb⟩
            have hS26 : (fun W => Vb 31 W ga [.int .i64 a.k, .int .i64 a.pr, .int .i64 a.to, .int .i64 a.po, .int .i64 a.x.v, .int .i64 a.x.m, .int .u8 a.x.b0, .int .u8 a.x.b1, .int .u8 a.x.b2, .int .u8 a.x.i0, .int .u8 a.x.i1, .int .u8 a.x.i2, sa] ∧ Vb 31 W gb [.int .i64 b.k, .int .i64 b.pr, .int .i64 b.to, .int .i64 b.po, .int .i64 b.x.v, .int .i64 b.x.m, .int .u8 b.x.b0, .int .u8 b.x.b1, .int .u8 b.x.b2, .int .u8 b.x.i0, .int .u8 b.x.i1, .int .u8 b.x.i2, sb]) v26 := ⟨hS25.1.below hb hS25.1.lt, hS25.2.below hb hS25.2.lt⟩
            replace hz5 := hz5.below hb hz5.lt
            replace hz6 := hz6.below hb hz6.lt
            replace hB := hB.trans (hb.mono hw0)
            replace hw0 := Nat.le_trans hw0 hb.size
            refine hK.out _ _ hS26 (fun _ => ?_)
            clear hK K hb
            try simp only [Act.put, List.setIfInBounds_toArray, List.set_cons_zero, List.set_cons_succ]
            refine wpAnyH_ready (rs := [8]) (by kernel_rfl) (by simp) ?_
            refine AllReadyH.cons rfl (fun K hK => ?_) AllReadyH.nil
            · try rw [if_pos (by rfl)]
              refine wp_store_vb' (T := 26) (vs := [.int .u8 a.x.b0, .int .u8 a.x.b1, .int .u8 a.x.b2]) none rfl (.tmp 5) (.tmp 9) rfl rfl rfl hz5 rfl agg_header rfl ?_
              intro v27 hn hg hz
              have hS27 : (fun W => Vb 31 W ga [.int .i64 a.k, .int .i64 a.pr, .int .i64 a.to, .int .i64 a.po, .int .i64 a.x.v, .int .i64 a.x.m, .int .u8 a.x.b0, .int .u8 a.x.b1, .int .u8 a.x.b2, .int .u8 a.x.i0, .int .u8 a.x.i1, .int .u8 a.x.i2, sa] ∧ Vb 31 W gb [.int .i64 b.k, .int .i64 b.pr, .int .i64 b.to, .int .i64 b.po, .int .i64 b.x.v, .int .i64 b.x.m, .int .u8 b.x.b0, .int .u8 b.x.b1, .int .u8 b.x.b2, .int .u8 b.x.i0, .int .u8 b.x.i1, .int .u8 b.x.i2, sb]) v27 := ⟨hS26.1.grown hg (by omega), hS26.2.grown hg (by omega)⟩
              replace hz6 := hz6.grown hg (by omega)
              replace hz5 := hn
              replace hB : Below w.heap.size w v27 := hB.grown hg hw0 (fun k e => by simp at e; omega)
              replace hw0 := Nat.le_trans hw0 hg.size
              refine hK.out _ _ hS27 (fun _ => ?_)
              clear hK K hn hg hz
              try simp only [Act.put, List.setIfInBounds_toArray, List.set_cons_zero, List.set_cons_succ]
              refine wpAnyH_ready (rs := [9]) (by kernel_rfl) (by simp) ?_
              refine AllReadyH.cons rfl (fun K hK => ?_) AllReadyH.nil
              · try rw [if_pos (by rfl)]
                refine wp_store_vb' (T := 26) (vs := [.int .u8 b.x.b0, .int .u8 b.x.b1, .int .u8 b.x.b2]) none rfl (.tmp 6) (.tmp 12) rfl rfl rfl hz6 rfl agg_header rfl ?_
                intro v28 hn hg hz
                have hS28 : (fun W => Vb 31 W ga [.int .i64 a.k, .int .i64 a.pr, .int .i64 a.to, .int .i64 a.po, .int .i64 a.x.v, .int .i64 a.x.m, .int .u8 a.x.b0, .int .u8 a.x.b1, .int .u8 a.x.b2, .int .u8 a.x.i0, .int .u8 a.x.i1, .int .u8 a.x.i2, sa] ∧ Vb 31 W gb [.int .i64 b.k, .int .i64 b.pr, .int .i64 b.to, .int .i64 b.po, .int .i64 b.x.v, .int .i64 b.x.m, .int .u8 b.x.b0, .int .u8 b.x.b1, .int .u8 b.x.b2, .int .u8 b.x.i0, .int .u8 b.x.i1, .int .u8 b.x.i2, sb]) v28 := ⟨hS27.1.grown hg (by omega), hS27.2.grown hg (by omega)⟩
                replace hz5 := hz5.grown hg (by omega)
                replace hz6 := hn
                replace hB : Below w.heap.size w v28 := hB.grown hg hw0 (fun k e => by simp at e; omega)
                replace hw0 := Nat.le_trans hw0 hg.size
                refine hK.out _ _ hS28 (fun _ => ?_)
                clear hK K hn hg hz
                try simp only [Act.put, List.setIfInBounds_toArray, List.set_cons_zero, List.set_cons_succ]
                refine wpAnyH_done (by kernel_rfl) ?_ _
                go_wp2_with fail
                go_meet
                case rel => exact ⟨_, _, rfl, rfl, hz5, hz6, hB⟩
    · try rw [if_pos (by rfl)]
      go_simp
      have hb := below_alloc u0 (.cells #[.int .u8 0, .int .u8 0, .int .u8 0] 26)
      have hz5 := Vb.new 26 u0 [.int .u8 0, .int .u8 0, .int .u8 0]
      have hS29 : (fun W => Vb 31 W ga [.int .i64 a.k, .int .i64 a.pr, .int .i64 a.to, .int .i64 a.po, .int .i64 a.x.v, .int .i64 a.x.m, .int .u8 a.x.b0, .int .u8 a.x.b1, .int .u8 a.x.b2, .int .u8 a.x.i0, .int .u8 a.x.i1, .int .u8 a.x.i2, sa] ∧ Vb 31 W gb [.int .i64 b.k, .int .i64 b.pr, .int .i64 b.to, .int .i64 b.po, .int .i64 b.x.v, .int .i64 b.x.m, .int .u8 b.x.b0, .int .u8 b.x.b1, .int .u8 b.x.b2, .int .u8 b.x.i0, .int .u8 b.x.i1, .int .u8 b.x.i2, sb]) (u0.alloc (.cells #[.int .u8 0, .int .u8 0, .int .u8 0] 26)) := ⟨hS0.1.alloc _, hS0.2.alloc _⟩
      have hl6 := hw0
      replace hB := hB.trans (hb.mono hw0)
      replace hw0 := Nat.le_trans hw0 hb.size
      refine hK.out _ _ hS29 (fun _ => ?_)
      clear hK K hb
      try simp only [Act.put, List.setIfInBounds_toArray, List.set_cons_zero, List.set_cons_succ]
      clear hS0
      generalize hu29 : u0.alloc (.cells #[.int .u8 0, .int .u8 0, .int .u8 0] 26) = v29 at *
      generalize u0.heap.size = q6 at *
      clear hu29
      refine wpAnyH_ready (rs := [2, 7]) (by kernel_rfl) (by simp) ?_
      refine AllReadyH.cons rfl (fun K hK => ?_) (AllReadyH.cons rfl (fun K hK => ?_) AllReadyH.nil)
      · try rw [if_pos (by rfl)]
        go_simp
        go_at_call 118
        refine (read8 a sa _).mono ?_
        rintro e v30 ⟨rfl, hb⟩
        have hS30 : (fun W => Vb 31 W ga [.int .i64 a.k, .int .i64 a.pr, .int .i64 a.to, .int .i64 a.po, .int .i64 a.x.v, .int .i64 a.x.m, .int .u8 a.x.b0, .int .u8 a.x.b1, .int .u8 a.x.b2, .int .u8 a.x.i0, .int .u8 a.x.i1, .int .u8 a.x.i2, sa] ∧ Vb 31 W gb [.int .i64 b.k, .int .i64 b.pr, .int .i64 b.to, .int .i64 b.po, .int .i64 b.x.v, .int .i64 b.x.m, .int .u8 b.x.b0, .int .u8 b.x.b1, .int .u8 b.x.b2, .int .u8 b.x.i0, .int .u8 b.x.i1, .int .u8 b.x.i2, sb]) v30 := ⟨hS29.1.below hb hS29.1.lt, hS29.2.below hb hS29.2.lt⟩
        replace hz5 := hz5.below hb hz5.lt
        replace hB := hB.trans (hb.mono hw0)
        replace hw0 := Nat.le_trans hw0 hb.size
        refine hK.out _ _ hS30 (fun _ => ?_)
        clear hK K hb
        try simp only [Act.put, List.setIfInBounds_toArray, List.set_cons_zero, List.set_cons_succ]
        refine wpAnyH_ready (rs := [5, 7]) (by kernel_rfl) (by simp) ?_
        refine AllReadyH.cons rfl (fun K hK => ?_) (AllReadyH.cons rfl (fun K hK => ?_) AllReadyH.nil)
        · try rw [if_pos (by rfl)]
          go_simp
          go_at_call 118
          refine (read8 b sb _).mono ?_
          rintro e v31 ⟨rfl, hb⟩
          have hS31 : (fun W => Vb 31 W ga [.int .i64 a.k, .int .i64 a.pr, .int .i64 a.to, .int .i64 a.po, .int .i64 a.x.v, .int .i64 a.x.m, .int .u8 a.x.b0, .int .u8 a.x.b1, .int .u8 a.x.b2, .int .u8 a.x.i0, .int .u8 a.x.i1, .int .u8 a.x.i2, sa] ∧ Vb 31 W gb [.int .i64 b.k, .int .i64 b.pr, .int .i64 b.to, .int .i64 b.po, .int .i64 b.x.v, .int .i64 b.x.m, .int .u8 b.x.b0, .int .u8 b.x.b1, .int .u8 b.x.b2, .int .u8 b.x.i0, .int .u8 b.x.i1, .int .u8 b.x.i2, sb]) v31 := ⟨hS30.1.below hb hS30.1.lt, hS30.2.below hb hS30.2.lt⟩
          replace hz5 := hz5.below hb hz5.lt
          replace hB := hB.trans (hb.mono hw0)
          replace hw0 := Nat.le_trans hw0 hb.size
          refine hK.out _ _ hS31 (fun _ => ?_)
          clear hK K hb
          try simp only [Act.put, List.setIfInBounds_toArray, List.set_cons_zero, List.set_cons_succ]
          refine wpAnyH_ready (rs := [7]) (by kernel_rfl) (by simp) ?_
          refine AllReadyH.cons rfl (fun K hK => ?_) AllReadyH.nil
          · try rw [if_pos (by rfl)]
            go_simp
            have hb := below_alloc v31 (.cells #[.int .u8 0, .int .u8 0, .int .u8 0] 26)
            have hz6 := Vb.new 26 v31 [.int .u8 0, .int .u8 0, .int .u8 0]
            have hS32 : (fun W => Vb 31 W ga [.int .i64 a.k, .int .i64 a.pr, .int .i64 a.to, .int .i64 a.po, .int .i64 a.x.v, .int .i64 a.x.m, .int .u8 a.x.b0, .int .u8 a.x.b1, .int .u8 a.x.b2, .int .u8 a.x.i0, .int .u8 a.x.i1, .int .u8 a.x.i2, sa] ∧ Vb 31 W gb [.int .i64 b.k, .int .i64 b.pr, .int .i64 b.to, .int .i64 b.po, .int .i64 b.x.v, .int .i64 b.x.m, .int .u8 b.x.b0, .int .u8 b.x.b1, .int .u8 b.x.b2, .int .u8 b.x.i0, .int .u8 b.x.i1, .int .u8 b.x.i2, sb]) (v31.alloc (.cells #[.int .u8 0, .int .u8 0, .int .u8 0] 26)) := ⟨hS31.1.alloc _, hS31.2.alloc _⟩
            have hl7 := hw0
            have hlt := hz5.lt
            replace hz5 := hz5.alloc (.cells #[.int .u8 0, .int .u8 0, .int .u8 0] 26)
            replace hB := hB.trans (hb.mono hw0)
            replace hw0 := Nat.le_trans hw0 hb.size
            refine hK.out _ _ hS32 (fun _ => ?_)
            clear hK K hb
            try simp only [Act.put, List.setIfInBounds_toArray, List.set_cons_zero, List.set_cons_succ]
            clear hS31
            generalize hu32 : v31.alloc (.cells #[.int .u8 0, .int .u8 0, .int .u8 0] 26) = v32 at *
            generalize v31.heap.size = q7 at *
            clear hu32
            refine wpAnyH_ready (rs := [8]) (by kernel_rfl) (by simp) ?_
            refine AllReadyH.cons rfl (fun K hK => ?_) AllReadyH.nil
            · try rw [if_pos (by rfl)]
              refine wp_store_vb' (T := 26) (vs := [.int .u8 a.x.b0, .int .u8 a.x.b1, .int .u8 a.x.b2]) none rfl (.tmp 5) (.tmp 9) rfl rfl rfl hz5 rfl agg_header rfl ?_
              intro v33 hn hg hz
              have hS33 : (fun W => Vb 31 W ga [.int .i64 a.k, .int .i64 a.pr, .int .i64 a.to, .int .i64 a.po, .int .i64 a.x.v, .int .i64 a.x.m, .int .u8 a.x.b0, .int .u8 a.x.b1, .int .u8 a.x.b2, .int .u8 a.x.i0, .int .u8 a.x.i1, .int .u8 a.x.i2, sa] ∧ Vb 31 W gb [.int .i64 b.k, .int .i64 b.pr, .int .i64 b.to, .int .i64 b.po, .int .i64 b.x.v, .int .i64 b.x.m, .int .u8 b.x.b0, .int .u8 b.x.b1, .int .u8 b.x.b2, .int .u8 b.x.i0, .int .u8 b.x.i1, .int .u8 b.x.i2, sb]) v33 := ⟨hS32.1.grown hg (by omega), hS32.2.grown hg (by omega)⟩
              replace hz6 := hz6.grown hg (by omega)
              replace hz5 := hn
              replace hB : Below w.heap.size w v33 := hB.grown hg hw0 (fun k e => by simp at e; omega)
              replace hw0 := Nat.le_trans hw0 hg.size
              refine hK.out _ _ hS33 (fun _ => ?_)
              clear hK K hn hg hz
              try simp only [Act.put, List.setIfInBounds_toArray, List.set_cons_zero, List.set_cons_succ]
              refine wpAnyH_ready (rs := [9]) (by kernel_rfl) (by simp) ?_
              refine AllReadyH.cons rfl (fun K hK => ?_) AllReadyH.nil
              · try rw [if_pos (by rfl)]
                refine wp_store_vb' (T := 26) (vs := [.int .u8 b.x.b0, .int .u8 b.x.b1, .int .u8 b.x.b2]) none rfl (.tmp 6) (.tmp 12) rfl rfl rfl hz6 rfl agg_header rfl ?_
                intro v34 hn hg hz
                have hS34 : (fun W => Vb 31 W ga [.int .i64 a.k, .int .i64 a.pr, .int .i64 a.to, .int .i64 a.po, .int .i64 a.x.v, .int .i64 a.x.m, .int .u8 a.x.b0, .int .u8 a.x.b1, .int .u8 a.x.b2, .int .u8 a.x.i0, .int .u8 a.x.i1, .int .u8 a.x.i2, sa] ∧ Vb 31 W gb [.int .i64 b.k, .int .i64 b.pr, .int .i64 b.to, .int .i64 b.po, .int .i64 b.x.v, .int .i64 b.x.m, .int .u8 b.x.b0, .int .u8 b.x.b1, .int .u8 b.x.b2, .int .u8 b.x.i0, .int .u8 b.x.i1, .int .u8 b.x.i2, sb]) v34 := ⟨hS33.1.grown hg (by omega), hS33.2.grown hg (by omega)⟩
                replace hz5 := hz5.grown hg (by omega)
                replace hz6 := hn
                replace hB : Below w.heap.size w v34 := hB.grown hg hw0 (fun k e => by simp at e; omega)
                replace hw0 := Nat.le_trans hw0 hg.size
                refine hK.out _ _ hS34 (fun _ => ?_)
                clear hK K hn hg hz
                try simp only [Act.put, List.setIfInBounds_toArray, List.set_cons_zero, List.set_cons_succ]
                refine wpAnyH_done (by kernel_rfl) ?_ _
                go_wp2_with fail
                go_meet
                case rel => exact ⟨_, _, rfl, rfl, hz5, hz6, hB⟩
        · try rw [if_pos (by rfl)]
          go_simp
          have hb := below_alloc v30 (.cells #[.int .u8 0, .int .u8 0, .int .u8 0] 26)
          have hz6 := Vb.new 26 v30 [.int .u8 0, .int .u8 0, .int .u8 0]
          have hS35 : (fun W => Vb 31 W ga [.int .i64 a.k, .int .i64 a.pr, .int .i64 a.to, .int .i64 a.po, .int .i64 a.x.v, .int .i64 a.x.m, .int .u8 a.x.b0, .int .u8 a.x.b1, .int .u8 a.x.b2, .int .u8 a.x.i0, .int .u8 a.x.i1, .int .u8 a.x.i2, sa] ∧ Vb 31 W gb [.int .i64 b.k, .int .i64 b.pr, .int .i64 b.to, .int .i64 b.po, .int .i64 b.x.v, .int .i64 b.x.m, .int .u8 b.x.b0, .int .u8 b.x.b1, .int .u8 b.x.b2, .int .u8 b.x.i0, .int .u8 b.x.i1, .int .u8 b.x.i2, sb]) (v30.alloc (.cells #[.int .u8 0, .int .u8 0, .int .u8 0] 26)) := ⟨hS30.1.alloc _, hS30.2.alloc _⟩
          have hl7 := hw0
          have hlt := hz5.lt
          replace hz5 := hz5.alloc (.cells #[.int .u8 0, .int .u8 0, .int .u8 0] 26)
          replace hB := hB.trans (hb.mono hw0)
          replace hw0 := Nat.le_trans hw0 hb.size
          refine hK.out _ _ hS35 (fun _ => ?_)
          clear hK K hb
          try simp only [Act.put, List.setIfInBounds_toArray, List.set_cons_zero, List.set_cons_succ]
          clear hS30
          generalize hu35 : v30.alloc (.cells #[.int .u8 0, .int .u8 0, .int .u8 0] 26) = v35 at *
          generalize v30.heap.size = q7 at *
          clear hu35
          refine wpAnyH_ready (rs := [5]) (by kernel_rfl) (by simp) ?_
          refine AllReadyH.cons rfl (fun K hK => ?_) AllReadyH.nil
          · try rw [if_pos (by rfl)]
            go_simp
            go_at_call 118
            refine (read8 b sb _).mono ?_
            rintro e v36 ⟨rfl, hb⟩
            have hS36 : (fun W => Vb 31 W ga [.int .i64 a.k, .int .i64 a.pr, .int .i64 a.to, .int .i64 a.po, .int .i64 a.x.v, .int .i64 a.x.m, .int .u8 a.x.b0, .int .u8 a.x.b1, .int .u8 a.x.b2, .int .u8 a.x.i0, .int .u8 a.x.i1, .int .u8 a.x.i2, sa] ∧ Vb 31 W gb [.int .i64 b.k, .int .i64 b.pr, .int .i64 b.to, .int .i64 b.po, .int .i64 b.x.v, .int .i64 b.x.m, .int .u8 b.x.b0, .int .u8 b.x.b1, .int .u8 b.x.b2, .int .u8 b.x.i0, .int .u8 b.x.i1, .int .u8 b.x.i2, sb]) v36 := ⟨hS35.1.below hb hS35.1.lt, hS35.2.below hb hS35.2.lt⟩
            replace hz5 := hz5.below hb hz5.lt
            replace hz6 := hz6.below hb hz6.lt
            replace hB := hB.trans (hb.mono hw0)
            replace hw0 := Nat.le_trans hw0 hb.size
            refine hK.out _ _ hS36 (fun _ => ?_)
            clear hK K hb
            try simp only [Act.put, List.setIfInBounds_toArray, List.set_cons_zero, List.set_cons_succ]
            refine wpAnyH_ready (rs := [8]) (by kernel_rfl) (by simp) ?_
            refine AllReadyH.cons rfl (fun K hK => ?_) AllReadyH.nil
            · try rw [if_pos (by rfl)]
              refine wp_store_vb' (T := 26) (vs := [.int .u8 a.x.b0, .int .u8 a.x.b1, .int .u8 a.x.b2]) none rfl (.tmp 5) (.tmp 9) rfl rfl rfl hz5 rfl agg_header rfl ?_
              intro v37 hn hg hz
              have hS37 : (fun W => Vb 31 W ga [.int .i64 a.k, .int .i64 a.pr, .int .i64 a.to, .int .i64 a.po, .int .i64 a.x.v, .int .i64 a.x.m, .int .u8 a.x.b0, .int .u8 a.x.b1, .int .u8 a.x.b2, .int .u8 a.x.i0, .int .u8 a.x.i1, .int .u8 a.x.i2, sa] ∧ Vb 31 W gb [.int .i64 b.k, .int .i64 b.pr, .int .i64 b.to, .int .i64 b.po, .int .i64 b.x.v, .int .i64 b.x.m, .int .u8 b.x.b0, .int .u8 b.x.b1, .int .u8 b.x.b2, .int .u8 b.x.i0, .int .u8 b.x.i1, .int .u8 b.x.i2, sb]) v37 := ⟨hS36.1.grown hg (by omega), hS36.2.grown hg (by omega)⟩
              replace hz6 := hz6.grown hg (by omega)
              replace hz5 := hn
              replace hB : Below w.heap.size w v37 := hB.grown hg hw0 (fun k e => by simp at e; omega)
              replace hw0 := Nat.le_trans hw0 hg.size
              refine hK.out _ _ hS37 (fun _ => ?_)
              clear hK K hn hg hz
              try simp only [Act.put, List.setIfInBounds_toArray, List.set_cons_zero, List.set_cons_succ]
              refine wpAnyH_ready (rs := [9]) (by kernel_rfl) (by simp) ?_
              refine AllReadyH.cons rfl (fun K hK => ?_) AllReadyH.nil
              · try rw [if_pos (by rfl)]
                refine wp_store_vb' (T := 26) (vs := [.int .u8 b.x.b0, .int .u8 b.x.b1, .int .u8 b.x.b2]) none rfl (.tmp 6) (.tmp 12) rfl rfl rfl hz6 rfl agg_header rfl ?_
                intro v38 hn hg hz
                have hS38 : (fun W => Vb 31 W ga [.int .i64 a.k, .int .i64 a.pr, .int .i64 a.to, .int .i64 a.po, .int .i64 a.x.v, .int .i64 a.x.m, .int .u8 a.x.b0, .int .u8 a.x.b1, .int .u8 a.x.b2, .int .u8 a.x.i0, .int .u8 a.x.i1, .int .u8 a.x.i2, sa] ∧ Vb 31 W gb [.int .i64 b.k, .int .i64 b.pr, .int .i64 b.to, .int .i64 b.po, .int .i64 b.x.v, .int .i64 b.x.m, .int .u8 b.x.b0, .int .u8 b.x.b1, .int .u8 b.x.b2, .int .u8 b.x.i0, .int .u8 b.x.i1, .int .u8 b.x.i2, sb]) v38 := ⟨hS37.1.grown hg (by omega), hS37.2.grown hg (by omega)⟩
                replace hz5 := hz5.grown hg (by omega)
                replace hz6 := hn
                replace hB : Below w.heap.size w v38 := hB.grown hg hw0 (fun k e => by simp at e; omega)
                replace hw0 := Nat.le_trans hw0 hg.size
                refine hK.out _ _ hS38 (fun _ => ?_)
                clear hK K hn hg hz
                try simp only [Act.put, List.setIfInBounds_toArray, List.set_cons_zero, List.set_cons_succ]
                refine wpAnyH_done (by kernel_rfl) ?_ _
                go_wp2_with fail
                go_meet
                case rel => exact ⟨_, _, rfl, rfl, hz5, hz6, hB⟩
      · try rw [if_pos (by rfl)]
        go_simp
        have hb := below_alloc v29 (.cells #[.int .u8 0, .int .u8 0, .int .u8 0] 26)
        have hz6 := Vb.new 26 v29 [.int .u8 0, .int .u8 0, .int .u8 0]
        have hS39 : (fun W => Vb 31 W ga [.int .i64 a.k, .int .i64 a.pr, .int .i64 a.to, .int .i64 a.po, .int .i64 a.x.v, .int .i64 a.x.m, .int .u8 a.x.b0, .int .u8 a.x.b1, .int .u8 a.x.b2, .int .u8 a.x.i0, .int .u8 a.x.i1, .int .u8 a.x.i2, sa] ∧ Vb 31 W gb [.int .i64 b.k, .int .i64 b.pr, .int .i64 b.to, .int .i64 b.po, .int .i64 b.x.v, .int .i64 b.x.m, .int .u8 b.x.b0, .int .u8 b.x.b1, .int .u8 b.x.b2, .int .u8 b.x.i0, .int .u8 b.x.i1, .int .u8 b.x.i2, sb]) (v29.alloc (.cells #[.int .u8 0, .int .u8 0, .int .u8 0] 26)) := ⟨hS29.1.alloc _, hS29.2.alloc _⟩
        have hl7 := hw0
        have hlt := hz5.lt
        replace hz5 := hz5.alloc (.cells #[.int .u8 0, .int .u8 0, .int .u8 0] 26)
        replace hB := hB.trans (hb.mono hw0)
        replace hw0 := Nat.le_trans hw0 hb.size
        refine hK.out _ _ hS39 (fun _ => ?_)
        clear hK K hb
        try simp only [Act.put, List.setIfInBounds_toArray, List.set_cons_zero, List.set_cons_succ]
        clear hS29
        generalize hu39 : v29.alloc (.cells #[.int .u8 0, .int .u8 0, .int .u8 0] 26) = v39 at *
        generalize v29.heap.size = q7 at *
        clear hu39
        refine wpAnyH_ready (rs := [2]) (by kernel_rfl) (by simp) ?_
        refine AllReadyH.cons rfl (fun K hK => ?_) AllReadyH.nil
        · try rw [if_pos (by rfl)]
          go_simp
          go_at_call 118
          refine (read8 a sa _).mono ?_
          rintro e v40 ⟨rfl, hb⟩
          have hS40 : (fun W => Vb 31 W ga [.int .i64 a.k, .int .i64 a.pr, .int .i64 a.to, .int .i64 a.po, .int .i64 a.x.v, .int .i64 a.x.m, .int .u8 a.x.b0, .int .u8 a.x.b1, .int .u8 a.x.b2, .int .u8 a.x.i0, .int .u8 a.x.i1, .int .u8 a.x.i2, sa] ∧ Vb 31 W gb [.int .i64 b.k, .int .i64 b.pr, .int .i64 b.to, .int .i64 b.po, .int .i64 b.x.v, .int .i64 b.x.m, .int .u8 b.x.b0, .int .u8 b.x.b1, .int .u8 b.x.b2, .int .u8 b.x.i0, .int .u8 b.x.i1, .int .u8 b.x.i2, sb]) v40 := ⟨hS39.1.below hb hS39.1.lt, hS39.2.below hb hS39.2.lt⟩
          replace hz5 := hz5.below hb hz5.lt
          replace hz6 := hz6.below hb hz6.lt
          replace hB := hB.trans (hb.mono hw0)
          replace hw0 := Nat.le_trans hw0 hb.size
          refine hK.out _ _ hS40 (fun _ => ?_)
          clear hK K hb
          try simp only [Act.put, List.setIfInBounds_toArray, List.set_cons_zero, List.set_cons_succ]
          refine wpAnyH_ready (rs := [5]) (by kernel_rfl) (by simp) ?_
          refine AllReadyH.cons rfl (fun K hK => ?_) AllReadyH.nil
          · try rw [if_pos (by rfl)]
            go_simp
            go_at_call 118
            refine (read8 b sb _).mono ?_
            rintro e v41 ⟨rfl, hb⟩
            have hS41 : (fun W => Vb 31 W ga [.int .i64 a.k, .int .i64 a.pr, .int .i64 a.to, .int .i64 a.po, .int .i64 a.x.v, .int .i64 a.x.m, .int .u8 a.x.b0, .int .u8 a.x.b1, .int .u8 a.x.b2, .int .u8 a.x.i0, .int .u8 a.x.i1, .int .u8 a.x.i2, sa] ∧ Vb 31 W gb [.int .i64 b.k, .int .i64 b.pr, .int .i64 b.to, .int .i64 b.po, .int .i64 b.x.v, .int .i64 b.x.m, .int .u8 b.x.b0, .int .u8 b.x.b1, .int .u8 b.x.b2, .int .u8 b.x.i0, .int .u8 b.x.i1, .int .u8 b.x.i2, sb]) v41 := ⟨hS40.1.below hb hS40.1.lt, hS40.2.below hb hS40.2.lt⟩
            replace hz5 := hz5.below hb hz5.lt
            replace hz6 := hz6.below hb hz6.lt
            replace hB := hB.trans (hb.mono hw0)
            replace hw0 := Nat.le_trans hw0 hb.size
            refine hK.out _ _ hS41 (fun _ => ?_)
            clear hK K hb
            try simp only [Act.put, List.setIfInBounds_toArray, List.set_cons_zero, List.set_cons_succ]
            refine wpAnyH_ready (rs := [8]) (by kernel_rfl) (by simp) ?_
            refine AllReadyH.cons rfl (fun K hK => ?_) AllReadyH.nil
            · try rw [if_pos (by rfl)]
              refine wp_store_vb' (T := 26) (vs := [.int .u8 a.x.b0, .int .u8 a.x.b1, .int .u8 a.x.b2]) none rfl (.tmp 5) (.tmp 9) rfl rfl rfl hz5 rfl agg_header rfl ?_
              intro v42 hn hg hz
              have hS42 : (fun W => Vb 31 W ga [.int .i64 a.k, .int .i64 a.pr, .int .i64 a.to, .int .i64 a.po, .int .i64 a.x.v, .int .i64 a.x.m, .int .u8 a.x.b0, .int .u8 a.x.b1, .int .u8 a.x.b2, .int .u8 a.x.i0, .int .u8 a.x.i1, .int .u8 a.x.i2, sa] ∧ Vb 31 W gb [.int .i64 b.k, .int .i64 b.pr, .int .i64 b.to, .int .i64 b.po, .int .i64 b.x.v, .int .i64 b.x.m, .int .u8 b.x.b0, .int .u8 b.x.b1, .int .u8 b.x.b2, .int .u8 b.x.i0, .int .u8 b.x.i1, .int .u8 b.x.i2, sb]) v42 := ⟨hS41.1.grown hg (by omega), hS41.2.grown hg (by omega)⟩
              replace hz6 := hz6.grown hg (by omega)
              replace hz5 := hn
              replace hB : Below w.heap.size w v42 := hB.grown hg hw0 (fun k e => by simp at e; omega)
              replace hw0 := Nat.le_trans hw0 hg.size
              refine hK.out _ _ hS42 (fun _ => ?_)
              clear hK K hn hg hz
              try simp only [Act.put, List.setIfInBounds_toArray, List.set_cons_zero, List.set_cons_succ]
              refine wpAnyH_ready (rs := [9]) (by kernel_rfl) (by simp) ?_
              refine AllReadyH.cons rfl (fun K hK => ?_) AllReadyH.nil
              · try rw [if_pos (by rfl)]
                refine wp_store_vb' (T := 26) (vs := [.int .u8 b.x.b0, .int .u8 b.x.b1, .int .u8 b.x.b2]) none rfl (.tmp 6) (.tmp 12) rfl rfl rfl hz6 rfl agg_header rfl ?_
                intro v43 hn hg hz
                have hS43 : (fun W => Vb 31 W ga [.int .i64 a.k, .int .i64 a.pr, .int .i64 a.to, .int .i64 a.po, .int .i64 a.x.v, .int .i64 a.x.m, .int .u8 a.x.b0, .int .u8 a.x.b1, .int .u8 a.x.b2, .int .u8 a.x.i0, .int .u8 a.x.i1, .int .u8 a.x.i2, sa] ∧ Vb 31 W gb [.int .i64 b.k, .int .i64 b.pr, .int .i64 b.to, .int .i64 b.po, .int .i64 b.x.v, .int .i64 b.x.m, .int .u8 b.x.b0, .int .u8 b.x.b1, .int .u8 b.x.b2, .int .u8 b.x.i0, .int .u8 b.x.i1, .int .u8 b.x.i2, sb]) v43 := ⟨hS42.1.grown hg (by omega), hS42.2.grown hg (by omega)⟩
                replace hz5 := hz5.grown hg (by omega)
                replace hz6 := hn
                replace hB : Below w.heap.size w v43 := hB.grown hg hw0 (fun k e => by simp at e; omega)
                replace hw0 := Nat.le_trans hw0 hg.size
                refine hK.out _ _ hS43 (fun _ => ?_)
                clear hK K hn hg hz
                try simp only [Act.put, List.setIfInBounds_toArray, List.set_cons_zero, List.set_cons_succ]
                refine wpAnyH_done (by kernel_rfl) ?_ _
                go_wp2_with fail
                go_meet
                case rel => exact ⟨_, _, rfl, rfl, hz5, hz6, hB⟩
    · try rw [if_pos (by rfl)]
      go_simp
      have hb := below_alloc u0 (.cells #[.int .u8 0, .int .u8 0, .int .u8 0] 26)
      have hz6 := Vb.new 26 u0 [.int .u8 0, .int .u8 0, .int .u8 0]
      have hS44 : (fun W => Vb 31 W ga [.int .i64 a.k, .int .i64 a.pr, .int .i64 a.to, .int .i64 a.po, .int .i64 a.x.v, .int .i64 a.x.m, .int .u8 a.x.b0, .int .u8 a.x.b1, .int .u8 a.x.b2, .int .u8 a.x.i0, .int .u8 a.x.i1, .int .u8 a.x.i2, sa] ∧ Vb 31 W gb [.int .i64 b.k, .int .i64 b.pr, .int .i64 b.to, .int .i64 b.po, .int .i64 b.x.v, .int .i64 b.x.m, .int .u8 b.x.b0, .int .u8 b.x.b1, .int .u8 b.x.b2, .int .u8 b.x.i0, .int .u8 b.x.i1, .int .u8 b.x.i2, sb]) (u0.alloc (.cells #[.int .u8 0, .int .u8 0, .int .u8 0] 26)) := ⟨hS0.1.alloc _, hS0.2.alloc _⟩
      have hl7 := hw0
      replace hB := hB.trans (hb.mono hw0)
      replace hw0 := Nat.le_trans hw0 hb.size
      refine hK.out _ _ hS44 (fun _ => ?_)
      clear hK K hb
      try simp only [Act.put, List.setIfInBounds_toArray, List.set_cons_zero, List.set_cons_succ]
      clear hS0
      generalize hu44 : u0.alloc (.cells #[.int .u8 0, .int .u8 0, .int .u8 0] 26) = v44 at *
      generalize u0.heap.size = q7 at *
      clear hu44
      refine wpAnyH_ready (rs := [2, 6]) (by kernel_rfl) (by simp) ?_
      refine AllReadyH.cons rfl (fun K hK => ?_) (AllReadyH.cons rfl (fun K hK => ?_) AllReadyH.nil)
      · try rw [if_pos (by rfl)]
        go_simp
        go_at_call 118
        refine (read8 a sa _).mono ?_
        rintro e v45 ⟨rfl, hb⟩
        have hS45 : (fun W => Vb 31 W ga [.int .i64 a.k, .int .i64 a.pr, .int .i64 a.to, .int .i64 a.po, .int .i64 a.x.v, .int .i64 a.x.m, .int .u8 a.x.b0, .int .u8 a.x.b1, .int .u8 a.x.b2, .int .u8 a.x.i0, .int .u8 a.x.i1, .int .u8 a.x.i2, sa] ∧ Vb 31 W gb [.int .i64 b.k, .int .i64 b.pr, .int .i64 b.to, .int .i64 b.po, .int .i64 b.x.v, .int .i64 b.x.m, .int .u8 b.x.b0, .int .u8 b.x.b1, .int .u8 b.x.b2, .int .u8 b.x.i0, .int .u8 b.x.i1, .int .u8 b.x.i2, sb]) v45 := ⟨hS44.1.below hb hS44.1.lt, hS44.2.below hb hS44.2.lt⟩
        replace hz6 := hz6.below hb hz6.lt
        replace hB := hB.trans (hb.mono hw0)
        replace hw0 := Nat.le_trans hw0 hb.size
        refine hK.out _ _ hS45 (fun _ => ?_)
        clear hK K hb
        try simp only [Act.put, List.setIfInBounds_toArray, List.set_cons_zero, List.set_cons_succ]
        refine wpAnyH_ready (rs := [5, 6]) (by kernel_rfl) (by simp) ?_
        refine AllReadyH.cons rfl (fun K hK => ?_) (AllReadyH.cons rfl (fun K hK => ?_) AllReadyH.nil)
        · try rw [if_pos (by rfl)]
          go_simp
          go_at_call 118
          refine (read8 b sb _).mono ?_
          rintro e v46 ⟨rfl, hb⟩
          have hS46 : (fun W => Vb 31 W ga [.int .i64 a.k, .int .i64 a.pr, .int .i64 a.to, .int .i64 a.po, .int .i64 a.x.v, .int .i64 a.x.m, .int .u8 a.x.b0, .int .u8 a.x.b1, .int .u8 a.x.b2, .int .u8 a.x.i0, .int .u8 a.x.i1, .int .u8 a.x.i2, sa] ∧ Vb 31 W gb [.int .i64 b.k, .int .i64 b.pr, .int .i64 b.to, .int .i64 b.po, .int .i64 b.x.v, .int .i64 b.x.m, .int .u8 b.x.b0, .int .u8 b.x.b1, .int .u8 b.x.b2, .int .u8 b.x.i0, .int .u8 b.x.i1, .int .u8 b.x.i2, sb]) v46 := ⟨hS45.1.below hb hS45.1.lt, hS45.2.below hb hS45.2.lt⟩
          replace hz6 := hz6.below hb hz6.lt
          replace hB := hB.trans (hb.mono hw0)
          replace hw0 := Nat.le_trans hw0 hb.size
          refine hK.out _ _ hS46 (fun _ => ?_)
          clear hK K hb
          try simp only [Act.put, List.setIfInBounds_toArray, List.set_cons_zero, List.set_cons_succ]
          refine wpAnyH_ready (rs := [6]) (by kernel_rfl) (by simp) ?_
          refine AllReadyH.cons rfl (fun K hK => ?_) AllReadyH.nil
          · try rw [if_pos (by rfl)]
            go_simp
            have hb := below_alloc v46 (.cells #[.int .u8 0, .int .u8 0, .int .u8 0] 26)
            have hz5 := Vb.new 26 v46 [.int .u8 0, .int .u8 0, .int .u8 0]
            have hS47 : (fun W => Vb 31 W ga [.int .i64 a.k, .int .i64 a.pr, .int .i64 a.to, .int .i64 a.po, .int .i64 a.x.v, .int .i64 a.x.m, .int .u8 a.x.b0, .int .u8 a.x.b1, .int .u8 a.x.b2, .int .u8 a.x.i0, .int .u8 a.x.i1, .int .u8 a.x.i2, sa] ∧ Vb 31 W gb [.int .i64 b.k, .int .i64 b.pr, .int .i64 b.to, .int .i64 b.po, .int .i64 b.x.v, .int .i64 b.x.m, .int .u8 b.x.b0, .int .u8 b.x.b1, .int .u8 b.x.b2, .int .u8 b.x.i0, .int .u8 b.x.i1, .int .u8 b.x.i2, sb]) (v46.alloc (.cells #[.int .u8 0, .int .u8 0, .int .u8 0] 26)) := ⟨hS46.1.alloc _, hS46.2.alloc _⟩
            have hl6 := hw0
            have hlt := hz6.lt
            replace hz6 := hz6.alloc (.cells #[.int .u8 0, .int .u8 0, .int .u8 0] 26)
            replace hB := hB.trans (hb.mono hw0)
            replace hw0 := Nat.le_trans hw0 hb.size
            refine hK.out _ _ hS47 (fun _ => ?_)
            clear hK K hb
            try simp only [Act.put, List.setIfInBounds_toArray, List.set_cons_zero, List.set_cons_succ]
            clear hS46
            generalize hu47 : v46.alloc (.cells #[.int .u8 0, .int .u8 0, .int .u8 0] 26) = v47 at *
            generalize v46.heap.size = q6 at *
            clear hu47
            refine wpAnyH_ready (rs := [8]) (by kernel_rfl) (by simp) ?_
            refine AllReadyH.cons rfl (fun K hK => ?_) AllReadyH.nil
            · try rw [if_pos (by rfl)]
              refine wp_store_vb' (T := 26) (vs := [.int .u8 a.x.b0, .int .u8 a.x.b1, .int .u8 a.x.b2]) none rfl (.tmp 5) (.tmp 9) rfl rfl rfl hz5 rfl agg_header rfl ?_
              intro v48 hn hg hz
              have hS48 : (fun W => Vb 31 W ga [.int .i64 a.k, .int .i64 a.pr, .int .i64 a.to, .int .i64 a.po, .int .i64 a.x.v, .int .i64 a.x.m, .int .u8 a.x.b0, .int .u8 a.x.b1, .int .u8 a.x.b2, .int .u8 a.x.i0, .int .u8 a.x.i1, .int .u8 a.x.i2, sa] ∧ Vb 31 W gb [.int .i64 b.k, .int .i64 b.pr, .int .i64 b.to, .int .i64 b.po, .int .i64 b.x.v, .int .i64 b.x.m, .int .u8 b.x.b0, .int .u8 b.x.b1, .int .u8 b.x.b2, .int .u8 b.x.i0, .int .u8 b.x.i1, .int .u8 b.x.i2, sb]) v48 := ⟨hS47.1.grown hg (by omega), hS47.2.grown hg (by omega)⟩
              replace hz6 := hz6.grown hg (by omega)
              replace hz5 := hn
              replace hB : Below w.heap.size w v48 := hB.grown hg hw0 (fun k e => by simp at e; omega)
              replace hw0 := Nat.le_trans hw0 hg.size
              refine hK.out _ _ hS48 (fun _ => ?_)
              clear hK K hn hg hz
              try simp only [Act.put, List.setIfInBounds_toArray, List.set_cons_zero, List.set_cons_succ]
              refine wpAnyH_ready (rs := [9]) (by kernel_rfl) (by simp) ?_
              refine AllReadyH.cons rfl (fun K hK => ?_) AllReadyH.nil
              · try rw [if_pos (by rfl)]
                refine wp_store_vb' (T := 26) (vs := [.int .u8 b.x.b0, .int .u8 b.x.b1, .int .u8 b.x.b2]) none rfl (.tmp 6) (.tmp 12) rfl rfl rfl hz6 rfl agg_header rfl ?_
                intro v49 hn hg hz
                have hS49 : (fun W => Vb 31 W ga [.int .i64 a.k, .int .i64 a.pr, .int .i64 a.to, .int .i64 a.po, .int .i64 a.x.v, .int .i64 a.x.m, .int .u8 a.x.b0, .int .u8 a.x.b1, .int .u8 a.x.b2, .int .u8 a.x.i0, .int .u8 a.x.i1, .int .u8 a.x.i2, sa] ∧ Vb 31 W gb [.int .i64 b.k, .int .i64 b.pr, .int .i64 b.to, .int .i64 b.po, .int .i64 b.x.v, .int .i64 b.x.m, .int .u8 b.x.b0, .int .u8 b.x.b1, .int .u8 b.x.b2, .int .u8 b.x.i0, .int .u8 b.x.i1, .int .u8 b.x.i2, sb]) v49 := ⟨hS48.1.grown hg (by omega), hS48.2.grown hg (by omega)⟩
                replace hz5 := hz5.grown hg (by omega)
                replace hz6 := hn
                replace hB : Below w.heap.size w v49 := hB.grown hg hw0 (fun k e => by simp at e; omega)
                replace hw0 := Nat.le_trans hw0 hg.size
                refine hK.out _ _ hS49 (fun _ => ?_)
                clear hK K hn hg hz
                try simp only [Act.put, List.setIfInBounds_toArray, List.set_cons_zero, List.set_cons_succ]
                refine wpAnyH_done (by kernel_rfl) ?_ _
                go_wp2_with fail
                go_meet
                case rel => exact ⟨_, _, rfl, rfl, hz5, hz6, hB⟩
        · try rw [if_pos (by rfl)]
          go_simp
          have hb := below_alloc v45 (.cells #[.int .u8 0, .int .u8 0, .int .u8 0] 26)
          have hz5 := Vb.new 26 v45 [.int .u8 0, .int .u8 0, .int .u8 0]
          have hS50 : (fun W => Vb 31 W ga [.int .i64 a.k, .int .i64 a.pr, .int .i64 a.to, .int .i64 a.po, .int .i64 a.x.v, .int .i64 a.x.m, .int .u8 a.x.b0, .int .u8 a.x.b1, .int .u8 a.x.b2, .int .u8 a.x.i0, .int .u8 a.x.i1, .int .u8 a.x.i2, sa] ∧ Vb 31 W gb [.int .i64 b.k, .int .i64 b.pr, .int .i64 b.to, .int .i64 b.po, .int .i64 b.x.v, .int .i64 b.x.m, .int .u8 b.x.b0, .int .u8 b.x.b1, .int .u8 b.x.b2, .int .u8 b.x.i0, .int .u8 b.x.i1, .int .u8 b.x.i2, sb]) (v45.alloc (.cells #[.int .u8 0, .int .u8 0, .int .u8 0] 26)) := ⟨hS45.1.alloc _, hS45.2.alloc _⟩
          have hl6 := hw0
          have hlt := hz6.lt
          replace hz6 := hz6.alloc (.cells #[.int .u8 0, .int .u8 0, .int .u8 0] 26)
          replace hB := hB.trans (hb.mono hw0)
          replace hw0 := Nat.le_trans hw0 hb.size
          refine hK.out _ _ hS50 (fun _ => ?_)
          clear hK K hb
          try simp only [Act.put, List.setIfInBounds_toArray, List.set_cons_zero, List.set_cons_succ]
          clear hS45
          generalize hu50 : v45.alloc (.cells #[.int .u8 0, .int .u8 0, .int .u8 0] 26) = v50 at *
          generalize v45.heap.size = q6 at *
          clear hu50
          refine wpAnyH_ready (rs := [5]) (by kernel_rfl) (by simp) ?_
          refine AllReadyH.cons rfl (fun K hK => ?_) AllReadyH.nil
          · try rw [if_pos (by rfl)]
            go_simp
            go_at_call 118
            refine (read8 b sb _).mono ?_
            rintro e v51 ⟨rfl, hb⟩
            have hS51 : (fun W => Vb 31 W ga [.int .i64 a.k, .int .i64 a.pr, .int .i64 a.to, .int .i64 a.po, .int .i64 a.x.v, .int .i64 a.x.m, .int .u8 a.x.b0, .int .u8 a.x.b1, .int .u8 a.x.b2, .int .u8 a.x.i0, .int .u8 a.x.i1, .int .u8 a.x.i2, sa] ∧ Vb 31 W gb [.int .i64 b.k, .int .i64 b.pr, .int .i64 b.to, .int .i64 b.po, .int .i64 b.x.v, .int .i64 b.x.m, .int .u8 b.x.b0, .int .u8 b.x.b1, .int .u8 b.x.b2, .int .u8 b.x.i0, .int .u8 b.x.i1, .int .u8 b.x.i2, sb]) v51 := ⟨hS50.1.below hb hS50.1.lt, hS50.2.below hb hS50.2.lt⟩
            replace hz5 := hz5.below hb hz5.lt
            replace hz6 := hz6.below hb hz6.lt
            replace hB := hB.trans (hb.mono hw0)
            replace hw0 := Nat.le_trans hw0 hb.size
            refine hK.out _ _ hS51 (fun _ => ?_)
            clear hK K hb
            try simp only [Act.put, List.setIfInBounds_toArray, List.set_cons_zero, List.set_cons_succ]
            refine wpAnyH_ready (rs := [8]) (by kernel_rfl) (by simp) ?_
            refine AllReadyH.cons rfl (fun K hK => ?_) AllReadyH.nil
            · try rw [if_pos (by rfl)]
              refine wp_store_vb' (T := 26) (vs := [.int .u8 a.x.b0, .int .u8 a.x.b1, .int .u8 a.x.b2]) none rfl (.tmp 5) (.tmp 9) rfl rfl rfl hz5 rfl agg_header rfl ?_
              intro v52 hn hg hz
              have hS52 : (fun W => Vb 31 W ga [.int .i64 a.k, .int .i64 a.pr, .int .i64 a.to, .int .i64 a.po, .int .i64 a.x.v, .int .i64 a.x.m, .int .u8 a.x.b0, .int .u8 a.x.b1, .int .u8 a.x.b2, .int .u8 a.x.i0, .int .u8 a.x.i1, .int .u8 a.x.i2, sa] ∧ Vb 31 W gb [.int .i64 b.k, .int .i64 b.pr, .int .i64 b.to, .int .i64 b.po, .int .i64 b.x.v, .int .i64 b.x.m, .int .u8 b.x.b0, .int .u8 b.x.b1, .int .u8 b.x.b2, .int .u8 b.x.i0, .int .u8 b.x.i1, .int .u8 b.x.i2, sb]) v52 := ⟨hS51.1.grown hg (by omega), hS51.2.grown hg (by omega)⟩
              replace hz6 := hz6.grown hg (by omega)
              replace hz5 := hn
              replace hB : Below w.heap.size w v52 := hB.grown hg hw0 (fun k e => by simp at e; omega)
              replace hw0 := Nat.le_trans hw0 hg.size
              refine hK.out _ _ hS52 (fun _ => ?_)
              clear hK K hn hg hz
              try simp only [Act.put, List.setIfInBounds_toArray, List.set_cons_zero, List.set_cons_succ]
              refine wpAnyH_ready (rs := [9]) (by kernel_rfl) (by simp) ?_
              refine AllReadyH.cons rfl (fun K hK => ?_) AllReadyH.nil
              · try rw [if_pos (by rfl)]
                refine wp_store_vb' (T := 26) (vs := [.int .u8 b.x.b0, .int .u8 b.x.b1, .int .u8 b.x.b2]) none rfl (.tmp 6) (.tmp 12) rfl rfl rfl hz6 rfl agg_header rfl ?_
                intro v53 hn hg hz
                have hS53 : (fun W => Vb 31 W ga [.int .i64 a.k, .int .i64 a.pr, .int .i64 a.to, .int .i64 a.po, .int .i64 a.x.v, .int .i64 a.x.m, .int .u8 a.x.b0, .int .u8 a.x.b1, .int .u8 a.x.b2, .int .u8 a.x.i0, .int .u8 a.x.i1, .int .u8 a.x.i2, sa] ∧ Vb 31 W gb [.int .i64 b.k, .int .i64 b.pr, .int .i64 b.to, .int .i64 b.po, .int .i64 b.x.v, .int .i64 b.x.m, .int .u8 b.x.b0, .int .u8 b.x.b1, .int .u8 b.x.b2, .int .u8 b.x.i0, .int .u8 b.x.i1, .int .u8 b.x.i2, sb]) v53 := ⟨hS52.1.grown hg (by omega), hS52.2.grown hg (by omega)⟩
                replace hz5 := hz5.grown hg (by omega)
                replace hz6 := hn
                replace hB : Below w.heap.size w v53 := hB.grown hg hw0 (fun k e => by simp at e; omega)
                replace hw0 := Nat.le_trans hw0 hg.size
                refine hK.out _ _ hS53 (fun _ => ?_)
                clear hK K hn hg hz
                try simp only [Act.put, List.setIfInBounds_toArray, List.set_cons_zero, List.set_cons_succ]
                refine wpAnyH_done (by kernel_rfl) ?_ _
                go_wp2_with fail
                go_meet
                case rel => exact ⟨_, _, rfl, rfl, hz5, hz6, hB⟩
      · try rw [if_pos (by rfl)]
        go_simp
        have hb := below_alloc v44 (.cells #[.int .u8 0, .int .u8 0, .int .u8 0] 26)
        have hz5 := Vb.new 26 v44 [.int .u8 0, .int .u8 0, .int .u8 0]
        have hS54 : (fun W => Vb 31 W ga [.int .i64 a.k, .int .i64 a.pr, .int .i64 a.to, .int .i64 a.po, .int .i64 a.x.v, .int .i64 a.x.m, .int .u8 a.x.b0, .int .u8 a.x.b1, .int .u8 a.x.b2, .int .u8 a.x.i0, .int .u8 a.x.i1, .int .u8 a.x.i2, sa] ∧ Vb 31 W gb [.int .i64 b.k, .int .i64 b.pr, .int .i64 b.to, .int .i64 b.po, .int .i64 b.x.v, .int .i64 b.x.m, .int .u8 b.x.b0, .int .u8 b.x.b1, .int .u8 b.x.b2, .int .u8 b.x.i0, .int .u8 b.x.i1, .int .u8 b.x.i2, sb]) (v44.alloc (.cells #[.int .u8 0, .int .u8 0, .int .u8 0] 26)) := ⟨hS44.1.alloc _, hS44.2.alloc _⟩
        have hl6 := hw0
        have hlt := hz6.lt
        replace hz6 := hz6.alloc (.cells #[.int .u8 0, .int .u8 0, .int .u8 0] 26)
        replace hB := hB.trans (hb.mono hw0)
        replace hw0 := Nat.le_trans hw0 hb.size
        refine hK.out _ _ hS54 (fun _ => ?_)
        clear hK K hb
        try simp only [Act.put, List.setIfInBounds_toArray, List.set_cons_zero, List.set_cons_succ]
        clear hS44
        generalize hu54 : v44.alloc (.cells #[.int .u8 0, .int .u8 0, .int .u8 0] 26) = v54 at *
        generalize v44.heap.size = q6 at *
        clear hu54
        refine wpAnyH_ready (rs := [2]) (by kernel_rfl) (by simp) ?_
        refine AllReadyH.cons rfl (fun K hK => ?_) AllReadyH.nil
        · try rw [if_pos (by rfl)]
          go_simp
          go_at_call 118
          refine (read8 a sa _).mono ?_
          rintro e v55 ⟨rfl, hb⟩
          have hS55 : (fun W => Vb 31 W ga [.int .i64 a.k, .int .i64 a.pr, .int .i64 a.to, .int .i64 a.po, .int .i64 a.x.v, .int .i64 a.x.m, .int .u8 a.x.b0, .int .u8 a.x.b1, .int .u8 a.x.b2, .int .u8 a.x.i0, .int .u8 a.x.i1, .int .u8 a.x.i2, sa] ∧ Vb 31 W gb [.int .i64 b.k, .int .i64 b.pr, .int .i64 b.to, .int .i64 b.po, .int .i64 b.x.v, .int .i64 b.x.m, .int .u8 b.x.b0, .int .u8 b.x.b1, .int .u8 b.x.b2, .int .u8 b.x.i0, .int .u8 b.x.i1, .int .u8 b.x.i2, sb]) v55 := ⟨hS54.1.below hb hS54.1.lt, hS54.2.below hb hS54.2.lt⟩
          replace hz5 := hz5.below hb hz5.lt
          replace hz6 := hz6.below hb hz6.lt
          replace hB := hB.trans (hb.mono hw0)
          replace hw0 := Nat.le_trans hw0 hb.size
          refine hK.out _ _ hS55 (fun _ => ?_)
          clear hK K hb
          try simp only [Act.put, List.setIfInBounds_toArray, List.set_cons_zero, List.set_cons_succ]
          refine wpAnyH_ready (rs := [5]) (by kernel_rfl) (by simp) ?_
          refine AllReadyH.cons rfl (fun K hK => ?_) AllReadyH.nil
          · try rw [if_pos (by rfl)]
            go_simp
            go_at_call 118
            refine (read8 b sb _).mono ?_
            rintro e v56 ⟨rfl, hb⟩
            have hS56 : (fun W => Vb 31 W ga [.int .i64 a.k, .int .i64 a.pr, .int .i64 a.to, .int .i64 a.po, .int .i64 a.x.v, .int .i64 a.x.m, .int .u8 a.x.b0, .int .u8 a.x.b1, .int .u8 a.x.b2, .int .u8 a.x.i0, .int .u8 a.x.i1, .int .u8 a.x.i2, sa] ∧ Vb 31 W gb [.int .i64 b.k, .int .i64 b.pr, .int .i64 b.to, .int .i64 b.po, .int .i64 b.x.v, .int .i64 b.x.m, .int .u8 b.x.b0, .int .u8 b.x.b1, .int .u8 b.x.b2, .int .u8 b.x.i0, .int .u8 b.x.i1, .int .u8 b.x.i2, sb]) v56 := ⟨hS55.1.below hb hS55.1.lt, hS55.2.below hb hS55.2.lt⟩
            replace hz5 := hz5.below hb hz5.lt
            replace hz6 := hz6.below hb hz6.lt
            replace hB := hB.trans (hb.mono hw0)
            replace hw0 := Nat.le_trans hw0 hb.size
            refine hK.out _ _ hS56 (fun _ => ?_)
            clear hK K hb
            try simp only [Act.put, List.setIfInBounds_toArray, List.set_cons_zero, List.set_cons_succ]
            refine wpAnyH_ready (rs := [8]) (by kernel_rfl) (by simp) ?_
            refine AllReadyH.cons rfl (fun K hK => ?_) AllReadyH.nil
            · try rw [if_pos (by rfl)]
              refine wp_store_vb' (T := 26) (vs := [.int .u8 a.x.b0, .int .u8 a.x.b1, .int .u8 a.x.b2]) none rfl (.tmp 5) (.tmp 9) rfl rfl rfl hz5 rfl agg_header rfl ?_
              intro v57 hn hg hz
              have hS57 : (fun W => Vb 31 W ga [.int .i64 a.k, .int .i64 a.pr, .int .i64 a.to, .int .i64 a.po, .int .i64 a.x.v, .int .i64 a.x.m, .int .u8 a.x.b0, .int .u8 a.x.b1, .int .u8 a.x.b2, .int .u8 a.x.i0, .int .u8 a.x.i1, .int .u8 a.x.i2, sa] ∧ Vb 31 W gb [.int .i64 b.k, .int .i64 b.pr, .int .i64 b.to, .int .i64 b.po, .int .i64 b.x.v, .int .i64 b.x.m, .int .u8 b.x.b0, .int .u8 b.x.b1, .int .u8 b.x.b2, .int .u8 b.x.i0, .int .u8 b.x.i1, .int .u8 b.x.i2, sb]) v57 := ⟨hS56.1.grown hg (by omega), hS56.2.grown hg (by omega)⟩
              replace hz6 := hz6.grown hg (by omega)
              replace hz5 := hn
              replace hB : Below w.heap.size w v57 := hB.grown hg hw0 (fun k e => by simp at e; omega)
              replace hw0 := Nat.le_trans hw0 hg.size
              refine hK.out _ _ hS57 (fun _ => ?_)
              clear hK K hn hg hz
              try simp only [Act.put, List.setIfInBounds_toArray, List.set_cons_zero, List.set_cons_succ]
              refine wpAnyH_ready (rs := [9]) (by kernel_rfl) (by simp) ?_
              refine AllReadyH.cons rfl (fun K hK => ?_) AllReadyH.nil
              · try rw [if_pos (by rfl)]
                refine wp_store_vb' (T := 26) (vs := [.int .u8 b.x.b0, .int .u8 b.x.b1, .int .u8 b.x.b2]) none rfl (.tmp 6) (.tmp 12) rfl rfl rfl hz6 rfl agg_header rfl ?_
                intro v58 hn hg hz
                have hS58 : (fun W => Vb 31 W ga [.int .i64 a.k, .int .i64 a.pr, .int .i64 a.to, .int .i64 a.po, .int .i64 a.x.v, .int .i64 a.x.m, .int .u8 a.x.b0, .int .u8 a.x.b1, .int .u8 a.x.b2, .int .u8 a.x.i0, .int .u8 a.x.i1, .int .u8 a.x.i2, sa] ∧ Vb 31 W gb [.int .i64 b.k, .int .i64 b.pr, .int .i64 b.to, .int .i64 b.po, .int .i64 b.x.v, .int .i64 b.x.m, .int .u8 b.x.b0, .int .u8 b.x.b1, .int .u8 b.x.b2, .int .u8 b.x.i0, .int .u8 b.x.i1, .int .u8 b.x.i2, sb]) v58 := ⟨hS57.1.grown hg (by omega), hS57.2.grown hg (by omega)⟩
                replace hz5 := hz5.grown hg (by omega)
                replace hz6 := hn
                replace hB : Below w.heap.size w v58 := hB.grown hg hw0 (fun k e => by simp at e; omega)
                replace hw0 := Nat.le_trans hw0 hg.size
                refine hK.out _ _ hS58 (fun _ => ?_)
                clear hK K hn hg hz
                try simp only [Act.put, List.setIfInBounds_toArray, List.set_cons_zero, List.set_cons_succ]
                refine wpAnyH_done (by kernel_rfl) ?_ _
                go_wp2_with fail
                go_meet
                case rel => exact ⟨_, _, rfl, rfl, hz5, hz6, hB⟩
  obtain ⟨g5, g6, rfl, rfl, h5, h6, hB⟩ := hcut
  go_upto_region 2 with fail
  replace hB : Below w.heap.size w wc.drew := hB.drew
  clear hx hy hw0 hga hgb
  have hS0 : (fun W => Vb 26 W g5 [.int .u8 a.x.b0, .int .u8 a.x.b1, .int .u8 a.x.b2] ∧ Vb 26 W g6 [.int .u8 b.x.b0, .int .u8 b.x.b1, .int .u8 b.x.b2]) wc.drew := ⟨h5, h6⟩
  refine wp_region_held_drew (S := fun W => Vb 26 W g5 [.int .u8 a.x.b0, .int .u8 a.x.b1, .int .u8 a.x.b2] ∧ Vb 26 W g6 [.int .u8 b.x.b0, .int .u8 b.x.b1, .int .u8 b.x.b2]) (by kernel_rfl) hS0 (fun _ => ?_)
  clear h5 h6
  generalize wc.drew = u0 at *
  refine takeD (i := 0) (v := .slice (some ⟨g5, 0, none⟩) 3 3) (some 13) rfl rfl (by kernel_rfl) (by kernel_rfl) (by kernel_rfl) (fun _ _ _ h => h) (Or.inl ⟨by rfl, ?_⟩) hS0 ?_
  · rintro w' _
    go_simp
  try simp only [Act.put, List.setIfInBounds_toArray, List.set_cons_zero, List.set_cons_succ]
  refine takeD (i := 1) (v := .slice (some ⟨g6, 0, none⟩) 3 3) (some 14) rfl rfl (by kernel_rfl) (by kernel_rfl) (by kernel_rfl) (fun _ _ _ h => h) (Or.inl ⟨by rfl, ?_⟩) hS0 ?_
  · rintro w' _
    go_simp
  try simp only [Act.put, List.setIfInBounds_toArray, List.set_cons_zero, List.set_cons_succ]
  refine wpAnyH_ready (rs := [2]) (by kernel_rfl) (by simp) ?_
  refine AllReadyH.cons rfl (fun K hK => ?_) AllReadyH.nil
  try rw [if_pos (by rfl)]
  go_simp
  go_at_call 111
  refine (lex_anyB hS0.1 hS0.2).mono ?_
  rintro e v1 ⟨rfl, hb1⟩
  have hB1 := hB.trans (hb1.mono hB.size)
  refine hK.out _ _ (⟨hS0.1.below hb1 hS0.1.lt, hS0.2.below hb1 hS0.2.lt⟩) (fun hS1 => ?_)
  clear hK K
  try simp only [Act.put, List.setIfInBounds_toArray, List.set_cons_zero, List.set_cons_succ]
  refine takeD (i := 3) (v := .int .i64 (lex3 a.x.b0 a.x.b1 a.x.b2 b.x.b0 b.x.b1 b.x.b2)) (some 4) rfl rfl (by kernel_rfl) (by kernel_rfl) (by kernel_rfl) (fun _ _ _ h => h) (Or.inl ⟨by rfl, ?_⟩) hS1 ?_
  · rintro w' _
    go_simp
  try simp only [Act.put, List.setIfInBounds_toArray, List.set_cons_zero, List.set_cons_succ]
  refine wpAnyH_done (by kernel_rfl) ?_ _
  go_wp2_with fail
  go_ret
  exact ⟨rfl, hB1⟩
set_option maxRecDepth 100000 in
set_option maxHeartbeats 8000000 in
theorem hdrC9 {a b : RuleV} {sa sb : Value} {w : World} {ga gb : Nat} (hx : Vb 31 w ga [.int .i64 a.k, .int .i64 a.pr, .int .i64 a.to, .int .i64 a.po, .int .i64 a.x.v, .int .i64 a.x.m, .int .u8 a.x.b0, .int .u8 a.x.b1, .int .u8 a.x.b2, .int .u8 a.x.i0, .int .u8 a.x.i1, .int .u8 a.x.i2, sa]) (hy : Vb 31 w gb [.int .i64 b.k, .int .i64 b.pr, .int .i64 b.to, .int .i64 b.po, .int .i64 b.x.v, .int .i64 b.x.m, .int .u8 b.x.b0, .int .u8 b.x.b1, .int .u8 b.x.b2, .int .u8 b.x.i0, .int .u8 b.x.i1, .int .u8 b.x.i2, sb]) : Calls Try.prog 110 #[.func (.func 119) #[] #[], .pointer (some ⟨ga, 0, none⟩), .pointer (some ⟨gb, 0, none⟩)] w fun e w' => e = .returned (.int .i64 (lex3 a.x.i0 a.x.i1 a.x.i2 b.x.i0 b.x.i1 b.x.i2)) ∧ Below w.heap.size w w' := by
  have hB : Below w.heap.size w w.drew := (Below.refl _ _).drew
  have hw0 : w.heap.size ≤ w.drew.heap.size := Nat.le_refl _
  have hga := hx.lt
  have hgb := hy.lt
  go_enter Try.func110, Try.ntmps110
  go_upto_region 1 with fail
  go_cut [5, 6] from 7 to 12 (fun p q wx => ∃ g5 g6, p = .pointer (some ⟨g5, 0, none⟩) ∧ q = .pointer (some ⟨g6, 0, none⟩) ∧ Vb 26 wx g5 [.int .u8 a.x.i0, .int .u8 a.x.i1, .int .u8 a.x.i2] ∧ Vb 26 wx g6 [.int .u8 b.x.i0, .int .u8 b.x.i1, .int .u8 b.x.i2] ∧ Below w.heap.size w wx)
  case first =>
    have hS0 : (fun W => Vb 31 W ga [.int .i64 a.k, .int .i64 a.pr, .int .i64 a.to, .int .i64 a.po, .int .i64 a.x.v, .int .i64 a.x.m, .int .u8 a.x.b0, .int .u8 a.x.b1, .int .u8 a.x.b2, .int .u8 a.x.i0, .int .u8 a.x.i1, .int .u8 a.x.i2, sa] ∧ Vb 31 W gb [.int .i64 b.k, .int .i64 b.pr, .int .i64 b.to, .int .i64 b.po, .int .i64 b.x.v, .int .i64 b.x.m, .int .u8 b.x.b0, .int .u8 b.x.b1, .int .u8 b.x.b2, .int .u8 b.x.i0, .int .u8 b.x.i1, .int .u8 b.x.i2, sb]) w.drew := ⟨hx, hy⟩
    refine wp_region_held_drew (S := fun W => Vb 31 W ga [.int .i64 a.k, .int .i64 a.pr, .int .i64 a.to, .int .i64 a.po, .int .i64 a.x.v, .int .i64 a.x.m, .int .u8 a.x.b0, .int .u8 a.x.b1, .int .u8 a.x.b2, .int .u8 a.x.i0, .int .u8 a.x.i1, .int .u8 a.x.i2, sa] ∧ Vb 31 W gb [.int .i64 b.k, .int .i64 b.pr, .int .i64 b.to, .int .i64 b.po, .int .i64 b.x.v, .int .i64 b.x.m, .int .u8 b.x.b0, .int .u8 b.x.b1, .int .u8 b.x.b2, .int .u8 b.x.i0, .int .u8 b.x.i1, .int .u8 b.x.i2, sb]) (by kernel_rfl) hS0 (fun _ => ?_)
    clear hx hy
    generalize w.drew = u0 at *
    refine takeD (i := 0) (v := .func (.func 119) #[] #[]) (some 7) rfl rfl (by kernel_rfl) (by kernel_rfl) (by kernel_rfl) (fun _ _ _ h => h) (Or.inl ⟨by rfl, ?_⟩) hS0 ?_
    · rintro w' ⟨s0, s1⟩
      go_simp
    try simp only [Act.put, List.setIfInBounds_toArray, List.set_cons_zero, List.set_cons_succ]
    refine takeD (i := 1) (v := .agg #[.int .i64 a.k, .int .i64 a.pr, .int .i64 a.to, .int .i64 a.po, .int .i64 a.x.v, .int .i64 a.x.m, .int .u8 a.x.b0, .int .u8 a.x.b1, .int .u8 a.x.b2, .int .u8 a.x.i0, .int .u8 a.x.i1, .int .u8 a.x.i2, sa]) (some 8) rfl rfl (by kernel_rfl) (by kernel_rfl) (by kernel_rfl) (fun _ _ _ h => h) (Or.inl ⟨by rfl, ?_⟩) hS0 ?_
    · rintro w' ⟨s0, s1⟩
      have d0 := s0.cell 0 rfl
      have d1 := s0.cell 1 rfl
      have d2 := s0.cell 2 rfl
      have d3 := s0.cell 3 rfl
      have d4 := s0.cell 4 rfl
      have d5 := s0.cell 5 rfl
      have d6 := s0.cell 6 rfl
      have d7 := s0.cell 7 rfl
      have d8 := s0.cell 8 rfl
      have d9 := s0.cell 9 rfl
      have d10 := s0.cell 10 rfl
      have d11 := s0.cell 11 rfl
      have d12 := s0.cell 12 rfl
      go_simp
    try simp only [Act.put, List.setIfInBounds_toArray, List.set_cons_zero, List.set_cons_succ]
    refine takeD (i := 3) (v := .func (.func 119) #[] #[]) (some 10) rfl rfl (by kernel_rfl) (by kernel_rfl) (by kernel_rfl) (fun _ _ _ h => h) (Or.inl ⟨by rfl, ?_⟩) hS0 ?_
    · rintro w' ⟨s0, s1⟩
      go_simp
    try simp only [Act.put, List.setIfInBounds_toArray, List.set_cons_zero, List.set_cons_succ]
    refine takeD (i := 4) (v := .agg #[.int .i64 b.k, .int .i64 b.pr, .int .i64 b.to, .int .i64 b.po, .int .i64 b.x.v, .int .i64 b.x.m, .int .u8 b.x.b0, .int .u8 b.x.b1, .int .u8 b.x.b2, .int .u8 b.x.i0, .int .u8 b.x.i1, .int .u8 b.x.i2, sb]) (some 11) rfl rfl (by kernel_rfl) (by kernel_rfl) (by kernel_rfl) (fun _ _ _ h => h) (Or.inl ⟨by rfl, ?_⟩) hS0 ?_
    · rintro w' ⟨s0, s1⟩
      have d0 := s1.cell 0 rfl
      have d1 := s1.cell 1 rfl
      have d2 := s1.cell 2 rfl
      have d3 := s1.cell 3 rfl
      have d4 := s1.cell 4 rfl
      have d5 := s1.cell 5 rfl
      have d6 := s1.cell 6 rfl
      have d7 := s1.cell 7 rfl
      have d8 := s1.cell 8 rfl
      have d9 := s1.cell 9 rfl
      have d10 := s1.cell 10 rfl
      have d11 := s1.cell 11 rfl
      have d12 := s1.cell 12 rfl
      go_simp
    try simp only [Act.put, List.setIfInBounds_toArray, List.set_cons_zero, List.set_cons_succ]
    refine wpAnyH_ready (rs := [2, 6, 7]) (by kernel_rfl) (by simp) ?_
    refine AllReadyH.cons rfl (fun K hK => ?_) (AllReadyH.cons rfl (fun K hK => ?_) (AllReadyH.cons rfl (fun K hK => ?_) AllReadyH.nil))
    · try rw [if_pos (by rfl)]
      go_simp
      go_at_call 119
      refine (read9 a sa _).mono ?_
      rintro e v1 ⟨rfl, hb⟩
      have hS1 : (fun W => Vb 31 W ga [.int .i64 a.k, .int .i64 a.pr, .int .i64 a.to, .int .i64 a.po, .int .i64 a.x.v, .int .i64 a.x.m, .int .u8 a.x.b0, .int .u8 a.x.b1, .int .u8 a.x.b2, .int .u8 a.x.i0, .int .u8 a.x.i1, .int .u8 a.x.i2, sa] ∧ Vb 31 W gb [.int .i64 b.k, .int .i64 b.pr, .int .i64 b.to, .int .i64 b.po, .int .i64 b.x.v, .int .i64 b.x.m, .int .u8 b.x.b0, .int .u8 b.x.b1, .int .u8 b.x.b2, .int .u8 b.x.i0, .int .u8 b.x.i1, .int .u8 b.x.i2, sb]) v1 := ⟨hS0.1.below hb hS0.1.lt, hS0.2.below hb hS0.2.lt⟩
      replace hB := hB.trans (hb.mono hw0)
      replace hw0 := Nat.le_trans hw0 hb.size
      refine hK.out _ _ hS1 (fun _ => ?_)
      clear hK K hb
      try simp only [Act.put, List.setIfInBounds_toArray, List.set_cons_zero, List.set_cons_succ]
      refine wpAnyH_ready (rs := [5, 6, 7]) (by kernel_rfl) (by simp) ?_
      refine AllReadyH.cons rfl (fun K hK => ?_) (AllReadyH.cons rfl (fun K hK => ?_) (AllReadyH.cons rfl (fun K hK => ?_) AllReadyH.nil))
      · try rw [if_pos (by rfl)]
        go_simp
        go_at_call 119
        refine (read9 b sb _).mono ?_
        rintro e v2 ⟨rfl, hb⟩
        have hS2 : (fun W => Vb 31 W ga [.int .i64 a.k, .int .i64 a.pr, .int .i64 a.to, .int .i64 a.po, .int .i64 a.x.v, .int .i64 a.x.m, .int .u8 a.x.b0, .int .u8 a.x.b1, .int .u8 a.x.b2, .int .u8 a.x.i0, .int .u8 a.x.i1, .int .u8 a.x.i2, sa] ∧ Vb 31 W gb [.int .i64 b.k, .int .i64 b.pr, .int .i64 b.to, .int .i64 b.po, .int .i64 b.x.v, .int .i64 b.x.m, .int .u8 b.x.b0, .int .u8 b.x.b1, .int .u8 b.x.b2, .int .u8 b.x.i0, .int .u8 b.x.i1, .int .u8 b.x.i2, sb]) v2 := ⟨hS1.1.below hb hS1.1.lt, hS1.2.below hb hS1.2.lt⟩
        replace hB := hB.trans (hb.mono hw0)
        replace hw0 := Nat.le_trans hw0 hb.size
        refine hK.out _ _ hS2 (fun _ => ?_)
        clear hK K hb
        try simp only [Act.put, List.setIfInBounds_toArray, List.set_cons_zero, List.set_cons_succ]
        refine wpAnyH_ready (rs := [6, 7]) (by kernel_rfl) (by simp) ?_
        refine AllReadyH.cons rfl (fun K hK => ?_) (AllReadyH.cons rfl (fun K hK => ?_) AllReadyH.nil)
        · try rw [if_pos (by rfl)]
          go_simp
          have hb := below_alloc v2 (.cells #[.int .u8 0, .int .u8 0, .int .u8 0] 26)
          have hz5 := Vb.new 26 v2 [.int .u8 0, .int .u8 0, .int .u8 0]
          have hS3 : (fun W => Vb 31 W ga [.int .i64 a.k, .int .i64 a.pr, .int .i64 a.to, .int .i64 a.po, .int .i64 a.x.v, .int .i64 a.x.m, .int .u8 a.x.b0, .int .u8 a.x.b1, .int .u8 a.x.b2, .int .u8 a.x.i0, .int .u8 a.x.i1, .int .u8 a.x.i2, sa] ∧ Vb 31 W gb [.int .i64 b.k, .int .i64 b.pr, .int .i64 b.to, .int .i64 b.po, .int .i64 b.x.v, .int .i64 b.x.m, .int .u8 b.x.b0, .int .u8 b.x.b1, .int .u8 b.x.b2, .int .u8 b.x.i0, .int .u8 b.x.i1, .int .u8 b.x.i2, sb]) (v2.alloc (.cells #[.int .u8 0, .int .u8 0, .int .u8 0] 26)) := ⟨hS2.1.alloc _, hS2.2.alloc _⟩
          have hl6 := hw0
          replace hB := hB.trans (hb.mono hw0)
          replace hw0 := Nat.le_trans hw0 hb.size
          refine hK.out _ _ hS3 (fun _ => ?_)
          clear hK K hb
          try simp only [Act.put, List.setIfInBounds_toArray, List.set_cons_zero, List.set_cons_succ]
          clear hS2
          generalize hu3 : v2.alloc (.cells #[.int .u8 0, .int .u8 0, .int .u8 0] 26) = v3 at *
          generalize v2.heap.size = q6 at *
          clear hu3
          refine wpAnyH_ready (rs := [7]) (by kernel_rfl) (by simp) ?_
          refine AllReadyH.cons rfl (fun K hK => ?_) AllReadyH.nil
          · try rw [if_pos (by rfl)]
            go_simp
            have hb := below_alloc v3 (.cells #[.int .u8 0, .int .u8 0, .int .u8 0] 26)
            have hz6 := Vb.new 26 v3 [.int .u8 0, .int .u8 0, .int .u8 0]
            have hS4 : (fun W => Vb 31 W ga [.int .i64 a.k, .int .i64 a.pr, .int .i64 a.to, .int .i64 a.po, .int .i64 a.x.v, .int .i64 a.x.m, .int .u8 a.x.b0, .int .u8 a.x.b1, .int .u8 a.x.b2, .int .u8 a.x.i0, .int .u8 a.x.i1, .int .u8 a.x.i2, sa] ∧ Vb 31 W gb [.int .i64 b.k, .int .i64 b.pr, .int .i64 b.to, .int .i64 b.po, .int .i64 b.x.v, .int .i64 b.x.m, .int .u8 b.x.b0, .int .u8 b.x.b1, .int .u8 b.x.b2, .int .u8 b.x.i0, .int .u8 b.x.i1, .int .u8 b.x.i2, sb]) (v3.alloc (.cells #[.int .u8 0, .int .u8 0, .int .u8 0] 26)) := ⟨hS3.1.alloc _, hS3.2.alloc _⟩
            have hl7 := hw0
            have hlt := hz5.lt
            replace hz5 := hz5.alloc (.cells #[.int .u8 0, .int .u8 0, .int .u8 0] 26)
            replace hB := hB.trans (hb.mono hw0)
            replace hw0 := Nat.le_trans hw0 hb.size
            refine hK.out _ _ hS4 (fun _ => ?_)
            clear hK K hb
            try simp only [Act.put, List.setIfInBounds_toArray, List.set_cons_zero, List.set_cons_succ]
            clear hS3
            generalize hu4 : v3.alloc (.cells #[.int .u8 0, .int .u8 0, .int .u8 0] 26) = v4 at *
            generalize v3.heap.size = q7 at *
            clear hu4
            refine wpAnyH_ready (rs := [8]) (by kernel_rfl) (by simp) ?_
            refine AllReadyH.cons rfl (fun K hK => ?_) AllReadyH.nil
            · try rw [if_pos (by rfl)]
              refine wp_store_vb' (T := 26) (vs := [.int .u8 a.x.i0, .int .u8 a.x.i1, .int .u8 a.x.i2]) none rfl (.tmp 5) (.tmp 9) rfl rfl rfl hz5 rfl agg_header rfl ?_
              intro v5 hn hg hz
              have hS5 : (fun W => Vb 31 W ga [.int .i64 a.k, .int .i64 a.pr, .int .i64 a.to, .int .i64 a.po, .int .i64 a.x.v, .int .i64 a.x.m, .int .u8 a.x.b0, .int .u8 a.x.b1, .int .u8 a.x.b2, .int .u8 a.x.i0, .int .u8 a.x.i1, .int .u8 a.x.i2, sa] ∧ Vb 31 W gb [.int .i64 b.k, .int .i64 b.pr, .int .i64 b.to, .int .i64 b.po, .int .i64 b.x.v, .int .i64 b.x.m, .int .u8 b.x.b0, .int .u8 b.x.b1, .int .u8 b.x.b2, .int .u8 b.x.i0, .int .u8 b.x.i1, .int .u8 b.x.i2, sb]) v5 := ⟨hS4.1.grown hg (by omega), hS4.2.grown hg (by omega)⟩
              replace hz6 := hz6.grown hg (by omega)
              replace hz5 := hn
              replace hB : Below w.heap.size w v5 := hB.grown hg hw0 (fun k e => by simp at e; omega)
              replace hw0 := Nat.le_trans hw0 hg.size
              refine hK.out _ _ hS5 (fun _ => ?_)
              clear hK K hn hg hz
              try simp only [Act.put, List.setIfInBounds_toArray, List.set_cons_zero, List.set_cons_succ]
              refine wpAnyH_ready (rs := [9]) (by kernel_rfl) (by simp) ?_
              refine AllReadyH.cons rfl (fun K hK => ?_) AllReadyH.nil
              · try rw [if_pos (by rfl)]
                refine wp_store_vb' (T := 26) (vs := [.int .u8 b.x.i0, .int .u8 b.x.i1, .int .u8 b.x.i2]) none rfl (.tmp 6) (.tmp 12) rfl rfl rfl hz6 rfl agg_header rfl ?_
                intro v6 hn hg hz
                have hS6 : (fun W => Vb 31 W ga [.int .i64 a.k, .int .i64 a.pr, .int .i64 a.to, .int .i64 a.po, .int .i64 a.x.v, .int .i64 a.x.m, .int .u8 a.x.b0, .int .u8 a.x.b1, .int .u8 a.x.b2, .int .u8 a.x.i0, .int .u8 a.x.i1, .int .u8 a.x.i2, sa] ∧ Vb 31 W gb [.int .i64 b.k, .int .i64 b.pr, .int .i64 b.to, .int .i64 b.po, .int .i64 b.x.v, .int .i64 b.x.m, .int .u8 b.x.b0, .int .u8 b.x.b1, .int .u8 b.x.b2, .int .u8 b.x.i0, .int .u8 b.x.i1, .int .u8 b.x.i2, sb]) v6 := ⟨hS5.1.grown hg (by omega), hS5.2.grown hg (by omega)⟩
                replace hz5 := hz5.grown hg (by omega)
                replace hz6 := hn
                replace hB : Below w.heap.size w v6 := hB.grown hg hw0 (fun k e => by simp at e; omega)
                replace hw0 := Nat.le_trans hw0 hg.size
                refine hK.out _ _ hS6 (fun _ => ?_)
                clear hK K hn hg hz
                try simp only [Act.put, List.setIfInBounds_toArray, List.set_cons_zero, List.set_cons_succ]
                refine wpAnyH_done (by kernel_rfl) ?_ _
                go_wp2_with fail
                go_meet
                case rel => exact ⟨_, _, rfl, rfl, hz5, hz6, hB⟩
        · try rw [if_pos (by rfl)]
          go_simp
          have hb := below_alloc v2 (.cells #[.int .u8 0, .int .u8 0, .int .u8 0] 26)
          have hz6 := Vb.new 26 v2 [.int .u8 0, .int .u8 0, .int .u8 0]
          have hS7 : (fun W => Vb 31 W ga [.int .i64 a.k, .int .i64 a.pr, .int .i64 a.to, .int .i64 a.po, .int .i64 a.x.v, .int .i64 a.x.m, .int .u8 a.x.b0, .int .u8 a.x.b1, .int .u8 a.x.b2, .int .u8 a.x.i0, .int .u8 a.x.i1, .int .u8 a.x.i2, sa] ∧ Vb 31 W gb [.int .i64 b.k, .int .i64 b.pr, .int .i64 b.to, .int .i64 b.po, .int .i64 b.x.v, .int .i64 b.x.m, .int .u8 b.x.b0, .int .u8 b.x.b1, .int .u8 b.x.b2, .int .u8 b.x.i0, .int .u8 b.x.i1, .int .u8 b.x.i2, sb]) (v2.alloc (.cells #[.int .u8 0, .int .u8 0, .int .u8 0] 26)) := ⟨hS2.1.alloc _, hS2.2.alloc _⟩
          have hl7 := hw0
          replace hB := hB.trans (hb.mono hw0)
          replace hw0 := Nat.le_trans hw0 hb.size
          refine hK.out _ _ hS7 (fun _ => ?_)
          clear hK K hb
          try simp only [Act.put, List.setIfInBounds_toArray, List.set_cons_zero, List.set_cons_succ]
          clear hS2
          generalize hu7 : v2.alloc (.cells #[.int .u8 0, .int .u8 0, .int .u8 0] 26) = v7 at *
          generalize v2.heap.size = q7 at *
          clear hu7
          refine wpAnyH_ready (rs := [6]) (by kernel_rfl) (by simp) ?_
          refine AllReadyH.cons rfl (fun K hK => ?_) AllReadyH.nil
          · try rw [if_pos (by rfl)]
            go_simp
            have hb := below_alloc v7 (.cells #[.int .u8 0, .int .u8 0, .int .u8 0] 26)
            have hz5 := Vb.new 26 v7 [.int .u8 0, .int .u8 0, .int .u8 0]
            have hS8 : (fun W => Vb 31 W ga [.int .i64 a.k, .int .i64 a.pr, .int .i64 a.to, .int .i64 a.po, .int .i64 a.x.v, .int .i64 a.x.m, .int .u8 a.x.b0, .int .u8 a.x.b1, .int .u8 a.x.b2, .int .u8 a.x.i0, .int .u8 a.x.i1, .int .u8 a.x.i2, sa] ∧ Vb 31 W gb [.int .i64 b.k, .int .i64 b.pr, .int .i64 b.to, .int .i64 b.po, .int .i64 b.x.v, .int .i64 b.x.m, .int .u8 b.x.b0, .int .u8 b.x.b1, .int .u8 b.x.b2, .int .u8 b.x.i0, .int .u8 b.x.i1, .int .u8 b.x.i2, sb]) (v7.alloc (.cells #[.int .u8 0, .int .u8 0, .int .u8 0] 26)) := ⟨hS7.1.alloc _, hS7.2.alloc _⟩
            have hl6 := hw0
            have hlt := hz6.lt
            replace hz6 := hz6.alloc (.cells #[.int .u8 0, .int .u8 0, .int .u8 0] 26)
            replace hB := hB.trans (hb.mono hw0)
            replace hw0 := Nat.le_trans hw0 hb.size
            refine hK.out _ _ hS8 (fun _ => ?_)
            clear hK K hb
            try simp only [Act.put, List.setIfInBounds_toArray, List.set_cons_zero, List.set_cons_succ]
            clear hS7
            generalize hu8 : v7.alloc (.cells #[.int .u8 0, .int .u8 0, .int .u8 0] 26) = v8 at *
            generalize v7.heap.size = q6 at *
            clear hu8
            refine wpAnyH_ready (rs := [8]) (by kernel_rfl) (by simp) ?_
            refine AllReadyH.cons rfl (fun K hK => ?_) AllReadyH.nil
            · try rw [if_pos (by rfl)]
              refine wp_store_vb' (T := 26) (vs := [.int .u8 a.x.i0, .int .u8 a.x.i1, .int .u8 a.x.i2]) none rfl (.tmp 5) (.tmp 9) rfl rfl rfl hz5 rfl agg_header rfl ?_
              intro v9 hn hg hz
              have hS9 : (fun W => Vb 31 W ga [.int .i64 a.k, .int .i64 a.pr, .int .i64 a.to, .int .i64 a.po, .int .i64 a.x.v, .int .i64 a.x.m, .int .u8 a.x.b0, .int .u8 a.x.b1, .int .u8 a.x.b2, .int .u8 a.x.i0, .int .u8 a.x.i1, .int .u8 a.x.i2, sa] ∧ Vb 31 W gb [.int .i64 b.k, .int .i64 b.pr, .int .i64 b.to, .int .i64 b.po, .int .i64 b.x.v, .int .i64 b.x.m, .int .u8 b.x.b0, .int .u8 b.x.b1, .int .u8 b.x.b2, .int .u8 b.x.i0, .int .u8 b.x.i1, .int .u8 b.x.i2, sb]) v9 := ⟨hS8.1.grown hg (by omega), hS8.2.grown hg (by omega)⟩
              replace hz6 := hz6.grown hg (by omega)
              replace hz5 := hn
              replace hB : Below w.heap.size w v9 := hB.grown hg hw0 (fun k e => by simp at e; omega)
              replace hw0 := Nat.le_trans hw0 hg.size
              refine hK.out _ _ hS9 (fun _ => ?_)
              clear hK K hn hg hz
              try simp only [Act.put, List.setIfInBounds_toArray, List.set_cons_zero, List.set_cons_succ]
              refine wpAnyH_ready (rs := [9]) (by kernel_rfl) (by simp) ?_
              refine AllReadyH.cons rfl (fun K hK => ?_) AllReadyH.nil
              · try rw [if_pos (by rfl)]
                refine wp_store_vb' (T := 26) (vs := [.int .u8 b.x.i0, .int .u8 b.x.i1, .int .u8 b.x.i2]) none rfl (.tmp 6) (.tmp 12) rfl rfl rfl hz6 rfl agg_header rfl ?_
                intro v10 hn hg hz
                have hS10 : (fun W => Vb 31 W ga [.int .i64 a.k, .int .i64 a.pr, .int .i64 a.to, .int .i64 a.po, .int .i64 a.x.v, .int .i64 a.x.m, .int .u8 a.x.b0, .int .u8 a.x.b1, .int .u8 a.x.b2, .int .u8 a.x.i0, .int .u8 a.x.i1, .int .u8 a.x.i2, sa] ∧ Vb 31 W gb [.int .i64 b.k, .int .i64 b.pr, .int .i64 b.to, .int .i64 b.po, .int .i64 b.x.v, .int .i64 b.x.m, .int .u8 b.x.b0, .int .u8 b.x.b1, .int .u8 b.x.b2, .int .u8 b.x.i0, .int .u8 b.x.i1, .int .u8 b.x.i2, sb]) v10 := ⟨hS9.1.grown hg (by omega), hS9.2.grown hg (by omega)⟩
                replace hz5 := hz5.grown hg (by omega)
                replace hz6 := hn
                replace hB : Below w.heap.size w v10 := hB.grown hg hw0 (fun k e => by simp at e; omega)
                replace hw0 := Nat.le_trans hw0 hg.size
                refine hK.out _ _ hS10 (fun _ => ?_)
                clear hK K hn hg hz
                try simp only [Act.put, List.setIfInBounds_toArray, List.set_cons_zero, List.set_cons_succ]
                refine wpAnyH_done (by kernel_rfl) ?_ _
                go_wp2_with fail
                go_meet
                case rel => exact ⟨_, _, rfl, rfl, hz5, hz6, hB⟩
      · try rw [if_pos (by rfl)]
        go_simp
        have hb := below_alloc v1 (.cells #[.int .u8 0, .int .u8 0, .int .u8 0] 26)
        have hz5 := Vb.new 26 v1 [.int .u8 0, .int .u8 0, .int .u8 0]
        have hS11 : (fun W => Vb 31 W ga [.int .i64 a.k, .int .i64 a.pr, .int .i64 a.to, .int .i64 a.po, .int .i64 a.x.v, .int .i64 a.x.m, .int .u8 a.x.b0, .int .u8 a.x.b1, .int .u8 a.x.b2, .int .u8 a.x.i0, .int .u8 a.x.i1, .int .u8 a.x.i2, sa] ∧ Vb 31 W gb [.int .i64 b.k, .int .i64 b.pr, .int .i64 b.to, .int .i64 b.po, .int .i64 b.x.v, .int .i64 b.x.m, .int .u8 b.x.b0, .int .u8 b.x.b1, .int .u8 b.x.b2, .int .u8 b.x.i0, .int .u8 b.x.i1, .int .u8 b.x.i2, sb]) (v1.alloc (.cells #[.int .u8 0, .int .u8 0, .int .u8 0] 26)) := ⟨hS1.1.alloc _, hS1.2.alloc _⟩
        have hl6 := hw0
        replace hB := hB.trans (hb.mono hw0)
        replace hw0 := Nat.le_trans hw0 hb.size
        refine hK.out _ _ hS11 (fun _ => ?_)
        clear hK K hb
        try simp only [Act.put, List.setIfInBounds_toArray, List.set_cons_zero, List.set_cons_succ]
        clear hS1
        generalize hu11 : v1.alloc (.cells #[.int .u8 0, .int .u8 0, .int .u8 0] 26) = v11 at *
        generalize v1.heap.size = q6 at *
        clear hu11
        refine wpAnyH_ready (rs := [5, 7]) (by kernel_rfl) (by simp) ?_
        refine AllReadyH.cons rfl (fun K hK => ?_) (AllReadyH.cons rfl (fun K hK => ?_) AllReadyH.nil)
        · try rw [if_pos (by rfl)]
          go_simp
          go_at_call 119
          refine (read9 b sb _).mono ?_
          rintro e v12 ⟨rfl, hb⟩
          have hS12 : (fun W => Vb 31 W ga [.int .i64 a.k, .int .i64 a.pr, .int .i64 a.to, .int .i64 a.po, .int .i64 a.x.v, .int .i64 a.x.m, .int .u8 a.x.b0, .int .u8 a.x.b1, .int .u8 a.x.b2, .int .u8 a.x.i0, .int .u8 a.x.i1, .int .u8 a.x.i2, sa] ∧ Vb 31 W gb [.int .i64 b.k, .int .i64 b.pr, .int .i64 b.to, .int .i64 b.po, .int .i64 b.x.v, .int .i64 b.x.m, .int .u8 b.x.b0, .int .u8 b.x.b1, .int .u8 b.x.b2, .int .u8 b.x.i0, .int .u8 b.x.i1, .int .u8 b.x.i2, sb]) v12 := ⟨hS11.1.below hb hS11.1.lt, hS11.2.below hb hS11.2.lt⟩
          replace hz5 := hz5.below hb hz5.lt
          replace hB := hB.trans (hb.mono hw0)
          replace hw0 := Nat.le_trans hw0 hb.size
          refine hK.out _ _ hS12 (fun _ => ?_)
          clear hK K hb
          try simp only [Act.put, List.setIfInBounds_toArray, List.set_cons_zero, List.set_cons_succ]
          refine wpAnyH_ready (rs := [7]) (by kernel_rfl) (by simp) ?_
          refine AllReadyH.cons rfl (fun K hK => ?_) AllReadyH.nil
          · try rw [if_pos (by rfl)]
            go_simp
            have hb := below_alloc v12 (.cells #[.int .u8 0, .int .u8 0, .int .u8 0] 26)
            have hz6 := Vb.new 26 v12 [.int .u8 0, .int .u8 0, .int .u8 0]
            have hS13 : (fun W => Vb 31 W ga [.int .i64 a.k, .int .i64 a.pr, .int .i64 a.to, .int .i64 a.po, .int .i64 a.x.v, .int .i64 a.x.m, .int .u8 a.x.b0, .int .u8 a.x.b1, .int .u8 a.x.b2, .int .u8 a.x.i0, .int .u8 a.x.i1, .int .u8 a.x.i2, sa] ∧ Vb 31 W gb [.int .i64 b.k, .int .i64 b.pr, .int .i64 b.to, .int .i64 b.po, .int .i64 b.x.v, .int .i64 b.x.m, .int .u8 b.x.b0, .int .u8 b.x.b1, .int .u8 b.x.b2, .int .u8 b.x.i0, .int .u8 b.x.i1, .int .u8 b.x.i2, sb]) (v12.alloc (.cells #[.int .u8 0, .int .u8 0, .int .u8 0] 26)) := ⟨hS12.1.alloc _, hS12.2.alloc _⟩
            have hl7 := hw0
            have hlt := hz5.lt
            replace hz5 := hz5.alloc (.cells #[.int .u8 0, .int .u8 0, .int .u8 0] 26)
            replace hB := hB.trans (hb.mono hw0)
            replace hw0 := Nat.le_trans hw0 hb.size
            refine hK.out _ _ hS13 (fun _ => ?_)
            clear hK K hb
            try simp only [Act.put, List.setIfInBounds_toArray, List.set_cons_zero, List.set_cons_succ]
            clear hS12
            generalize hu13 : v12.alloc (.cells #[.int .u8 0, .int .u8 0, .int .u8 0] 26) = v13 at *
            generalize v12.heap.size = q7 at *
            clear hu13
            refine wpAnyH_ready (rs := [8]) (by kernel_rfl) (by simp) ?_
            refine AllReadyH.cons rfl (fun K hK => ?_) AllReadyH.nil
            · try rw [if_pos (by rfl)]
              refine wp_store_vb' (T := 26) (vs := [.int .u8 a.x.i0, .int .u8 a.x.i1, .int .u8 a.x.i2]) none rfl (.tmp 5) (.tmp 9) rfl rfl rfl hz5 rfl agg_header rfl ?_
              intro v14 hn hg hz
              have hS14 : (fun W => Vb 31 W ga [.int .i64 a.k, .int .i64 a.pr, .int .i64 a.to, .int .i64 a.po, .int .i64 a.x.v, .int .i64 a.x.m, .int .u8 a.x.b0, .int .u8 a.x.b1, .int .u8 a.x.b2, .int .u8 a.x.i0, .int .u8 a.x.i1, .int .u8 a.x.i2, sa] ∧ Vb 31 W gb [.int .i64 b.k, .int .i64 b.pr, .int .i64 b.to, .int .i64 b.po, .int .i64 b.x.v, .int .i64 b.x.m, .int .u8 b.x.b0, .int .u8 b.x.b1, .int .u8 b.x.b2, .int .u8 b.x.i0, .int .u8 b.x.i1, .int .u8 b.x.i2, sb]) v14 := ⟨hS13.1.grown hg (by omega), hS13.2.grown hg (by omega)⟩
              replace hz6 := hz6.grown hg (by omega)
              replace hz5 := hn
              replace hB : Below w.heap.size w v14 := hB.grown hg hw0 (fun k e => by simp at e; omega)
              replace hw0 := Nat.le_trans hw0 hg.size
              refine hK.out _ _ hS14 (fun _ => ?_)
              clear hK K hn hg hz
              try simp only [Act.put, List.setIfInBounds_toArray, List.set_cons_zero, List.set_cons_succ]
              refine wpAnyH_ready (rs := [9]) (by kernel_rfl) (by simp) ?_
              refine AllReadyH.cons rfl (fun K hK => ?_) AllReadyH.nil
              · try rw [if_pos (by rfl)]
                refine wp_store_vb' (T := 26) (vs := [.int .u8 b.x.i0, .int .u8 b.x.i1, .int .u8 b.x.i2]) none rfl (.tmp 6) (.tmp 12) rfl rfl rfl hz6 rfl agg_header rfl ?_
                intro v15 hn hg hz
                have hS15 : (fun W => Vb 31 W ga [.int .i64 a.k, .int .i64 a.pr, .int .i64 a.to, .int .i64 a.po, .int .i64 a.x.v, .int .i64 a.x.m, .int .u8 a.x.b0, .int .u8 a.x.b1, .int .u8 a.x.b2, .int .u8 a.x.i0, .int .u8 a.x.i1, .int .u8 a.x.i2, sa] ∧ Vb 31 W gb [.int .i64 b.k, .int .i64 b.pr, .int .i64 b.to, .int .i64 b.po, .int .i64 b.x.v, .int .i64 b.x.m, .int .u8 b.x.b0, .int .u8 b.x.b1, .int .u8 b.x.b2, .int .u8 b.x.i0, .int .u8 b.x.i1, .int .u8 b.x.i2, sb]) v15 := ⟨hS14.1.grown hg (by omega), hS14.2.grown hg (by omega)⟩
                replace hz5 := hz5.grown hg (by omega)
                replace hz6 := hn
                replace hB : Below w.heap.size w v15 := hB.grown hg hw0 (fun k e => by simp at e; omega)
                replace hw0 := Nat.le_trans hw0 hg.size
                refine hK.out _ _ hS15 (fun _ => ?_)
                clear hK K hn hg hz
                try simp only [Act.put, List.setIfInBounds_toArray, List.set_cons_zero, List.set_cons_succ]
                refine wpAnyH_done (by kernel_rfl) ?_ _
                go_wp2_with fail
                go_meet
                case rel => exact ⟨_, _, rfl, rfl, hz5, hz6, hB⟩
        · try rw [if_pos (by rfl)]
          go_simp
          have hb := below_alloc v11 (.cells #[.int .u8 0, .int .u8 0, .int .u8 0] 26)
          have hz6 := Vb.new 26 v11 [.int .u8 0, .int .u8 0, .int .u8 0]
          have hS16 : (fun W => Vb 31 W ga [.int .i64 a.k, .int .i64 a.pr, .int .i64 a.to, .int .i64 a.po, .int .i64 a.x.v, .int .i64 a.x.m, .int .u8 a.x.b0, .int .u8 a.x.b1, .int .u8 a.x.b2, .int .u8 a.x.i0, .int .u8 a.x.i1, .int .u8 a.x.i2, sa] ∧ Vb 31 W gb [.int .i64 b.k, .int .i64 b.pr, .int .i64 b.to, .int .i64 b.po, .int .i64 b.x.v, .int .i64 b.x.m, .int .u8 b.x.b0, .int .u8 b.x.b1, .int .u8 b.x.b2, .int .u8 b.x.i0, .int .u8 b.x.i1, .int .u8 b.x.i2, sb]) (v11.alloc (.cells #[.int .u8 0, .int .u8 0, .int .u8 0] 26)) := ⟨hS11.1.alloc _, hS11.2.alloc _⟩
          have hl7 := hw0
          have hlt := hz5.lt
          replace hz5 := hz5.alloc (.cells #[.int .u8 0, .int .u8 0, .int .u8 0] 26)
          replace hB := hB.trans (hb.mono hw0)
          replace hw0 := Nat.le_trans hw0 hb.size
          refine hK.out _ _ hS16 (fun _ => ?_)
          clear hK K hb
          try simp only [Act.put, List.setIfInBounds_toArray, List.set_cons_zero, List.set_cons_succ]
          clear hS11
          generalize hu16 : v11.alloc (.cells #[.int .u8 0, .int .u8 0, .int .u8 0] 26) = v16 at *
          generalize v11.heap.size = q7 at *
          clear hu16
          refine wpAnyH_ready (rs := [5]) (by kernel_rfl) (by simp) ?_
          refine AllReadyH.cons rfl (fun K hK => ?_) AllReadyH.nil
          · try rw [if_pos (by rfl)]
            go_simp
            go_at_call 119
            refine (read9 b sb _).mono ?_
            rintro e v17 ⟨rfl, hb⟩
            have hS17 : (fun W => Vb 31 W ga [.int .i64 a.k, .int .i64 a.pr, .int .i64 a.to, .int .i64 a.po, .int .i64 a.x.v, .int .i64 a.x.m, .int .u8 a.x.b0, .int .u8 a.x.b1, .int .u8 a.x.b2, .int .u8 a.x.i0, .int .u8 a.x.i1, .int .u8 a.x.i2, sa] ∧ Vb 31 W gb [.int .i64 b.k, .int .i64 b.pr, .int .i64 b.to, .int .i64 b.po, .int .i64 b.x.v, .int .i64 b.x.m, .int .u8 b.x.b0, .int .u8 b.x.b1, .int .u8 b.x.b2, .int .u8 b.x.i0, .int .u8 b.x.i1, .int .u8 b.x.i2, sb]) v17 := ⟨hS16.1.below hb hS16.1.lt, hS16.2.below hb hS16.2.lt⟩
            replace hz5 := hz5.below hb hz5.lt
            replace hz6 := hz6.below hb hz6.lt
            replace hB := hB.trans (hb.mono hw0)
            replace hw0 := Nat.le_trans hw0 hb.size
            refine hK.out _ _ hS17 (fun _ => ?_)
            clear hK K hb
            try simp only [Act.put, List.setIfInBounds_toArray, List.set_cons_zero, List.set_cons_succ]
            refine wpAnyH_ready (rs := [8]) (by kernel_rfl) (by simp) ?_
            refine AllReadyH.cons rfl (fun K hK => ?_) AllReadyH.nil
            · try rw [if_pos (by rfl)]
              refine wp_store_vb' (T := 26) (vs := [.int .u8 a.x.i0, .int .u8 a.x.i1, .int .u8 a.x.i2]) none rfl (.tmp 5) (.tmp 9) rfl rfl rfl hz5 rfl agg_header rfl ?_
              intro v18 hn hg hz
              have hS18 : (fun W => Vb 31 W ga [.int .i64 a.k, .int .i64 a.pr, .int .i64 a.to, .int .i64 a.po, .int .i64 a.x.v, .int .i64 a.x.m, .int .u8 a.x.b0, .int .u8 a.x.b1, .int .u8 a.x.b2, .int .u8 a.x.i0, .int .u8 a.x.i1, .int .u8 a.x.i2, sa] ∧ Vb 31 W gb [.int .i64 b.k, .int .i64 b.pr, .int .i64 b.to, .int .i64 b.po, .int .i64 b.x.v, .int .i64 b.x.m, .int .u8 b.x.b0, .int .u8 b.x.b1, .int .u8 b.x.b2, .int .u8 b.x.i0, .int .u8 b.x.i1, .int .u8 b.x.i2, sb]) v18 := ⟨hS17.1.grown hg (by omega), hS17.2.grown hg (by omega)⟩
              replace hz6 := hz6.grown hg (by omega)
              replace hz5 := hn
              replace hB : Below w.heap.size w v18 := hB.grown hg hw0 (fun k e => by simp at e; omega)
              replace hw0 := Nat.le_trans hw0 hg.size
              refine hK.out _ _ hS18 (fun _ => ?_)
              clear hK K hn hg hz
              try simp only [Act.put, List.setIfInBounds_toArray, List.set_cons_zero, List.set_cons_succ]
              refine wpAnyH_ready (rs := [9]) (by kernel_rfl) (by simp) ?_
              refine AllReadyH.cons rfl (fun K hK => ?_) AllReadyH.nil
              · try rw [if_pos (by rfl)]
                refine wp_store_vb' (T := 26) (vs := [.int .u8 b.x.i0, .int .u8 b.x.i1, .int .u8 b.x.i2]) none rfl (.tmp 6) (.tmp 12) rfl rfl rfl hz6 rfl agg_header rfl ?_
                intro v19 hn hg hz
                have hS19 : (fun W => Vb 31 W ga [.int .i64 a.k, .int .i64 a.pr, .int .i64 a.to, .int .i64 a.po, .int .i64 a.x.v, .int .i64 a.x.m, .int .u8 a.x.b0, .int .u8 a.x.b1, .int .u8 a.x.b2, .int .u8 a.x.i0, .int .u8 a.x.i1, .int .u8 a.x.i2, sa] ∧ Vb 31 W gb [.int .i64 b.k, .int .i64 b.pr, .int .i64 b.to, .int .i64 b.po, .int .i64 b.x.v, .int .i64 b.x.m, .int .u8 b.x.b0, .int .u8 b.x.b1, .int .u8 b.x.b2, .int .u8 b.x.i0, .int .u8 b.x.i1, .int .u8 b.x.i2, sb]) v19 := ⟨hS18.1.grown hg (by omega), hS18.2.grown hg (by omega)⟩
                replace hz5 := hz5.grown hg (by omega)
                replace hz6 := hn
                replace hB : Below w.heap.size w v19 := hB.grown hg hw0 (fun k e => by simp at e; omega)
                replace hw0 := Nat.le_trans hw0 hg.size
                refine hK.out _ _ hS19 (fun _ => ?_)
                clear hK K hn hg hz
                try simp only [Act.put, List.setIfInBounds_toArray, List.set_cons_zero, List.set_cons_succ]
                refine wpAnyH_done (by kernel_rfl) ?_ _
                go_wp2_with fail
                go_meet
                case rel => exact ⟨_, _, rfl, rfl, hz5, hz6, hB⟩
      · try rw [if_pos (by rfl)]
        go_simp
        have hb := below_alloc v1 (.cells #[.int .u8 0, .int .u8 0, .int .u8 0] 26)
        have hz6 := Vb.new 26 v1 [.int .u8 0, .int .u8 0, .int .u8 0]
        have hS20 : (fun W => Vb 31 W ga [.int .i64 a.k, .int .i64 a.pr, .int .i64 a.to, .int .i64 a.po, .int .i64 a.x.v, .int .i64 a.x.m, .int .u8 a.x.b0, .int .u8 a.x.b1, .int .u8 a.x.b2, .int .u8 a.x.i0, .int .u8 a.x.i1, .int .u8 a.x.i2, sa] ∧ Vb 31 W gb [.int .i64 b.k, .int .i64 b.pr, .int .i64 b.to, .int .i64 b.po, .int .i64 b.x.v, .int .i64 b.x.m, .int .u8 b.x.b0, .int .u8 b.x.b1, .int .u8 b.x.b2, .int .u8 b.x.i0, .int .u8 b.x.i1, .int .u8 b.x.i2, sb]) (v1.alloc (.cells #[.int .u8 0, .int .u8 0, .int .u8 0] 26)) := ⟨hS1.1.alloc _, hS1.2.alloc _⟩
        have hl7 := hw0
        replace hB := hB.trans (hb.mono hw0)
        replace hw0 := Nat.le_trans hw0 hb.size
        refine hK.out _ _ hS20 (fun _ => ?_)
        clear hK K hb
        try simp only [Act.put, List.setIfInBounds_toArray, List.set_cons_zero, List.set_cons_succ]
        clear hS1
        generalize hu20 : v1.alloc (.cells #[.int .u8 0, .int .u8 0, .int .u8 0] 26) = v20 at *
        generalize v1.heap.size = q7 at *
        clear hu20
        refine wpAnyH_ready (rs := [5, 6]) (by kernel_rfl) (by simp) ?_
        refine AllReadyH.cons rfl (fun K hK => ?_) (AllReadyH.cons rfl (fun K hK => ?_) AllReadyH.nil)
        · try rw [if_pos (by rfl)]
          go_simp
          go_at_call 119
          refine (read9 b sb _).mono ?_
          rintro e v21 ⟨rfl, hb⟩
          have hS21 : (fun W => Vb 31 W ga [.int .i64 a.k, .int .i64 a.pr, .int .i64 a.to, .int .i64 a.po, .int .i64 a.x.v, .int .i64 a.x.m, .int .u8 a.x.b0, .int .u8 a.x.b1, .int .u8 a.x.b2, .int .u8 a.x.i0, .int .u8 a.x.i1, .int .u8 a.x.i2, sa] ∧ Vb 31 W gb [.int .i64 b.k, .int .i64 b.pr, .int .i64 b.to, .int .i64 b.po, .int .i64 b.x.v, .int .i64 b.x.m, .int .u8 b.x.b0, .int .u8 b.x.b1, .int .u8 b.x.b2, .int .u8 b.x.i0, .int .u8 b.x.i1, .int .u8 b.x.i2, sb]) v21 := ⟨hS20.1.below hb hS20.1.lt, hS20.2.below hb hS20.2.lt⟩
          replace hz6 := hz6.below hb hz6.lt
          replace hB := hB.trans (hb.mono hw0)
          replace hw0 := Nat.le_trans hw0 hb.size
          refine hK.out _ _ hS21 (fun _ => ?_)
          clear hK K hb
          try simp only [Act.put, List.setIfInBounds_toArray, List.set_cons_zero, List.set_cons_succ]
          refine wpAnyH_ready (rs := [6]) (by kernel_rfl) (by simp) ?_
          refine AllReadyH.cons rfl (fun K hK => ?_) AllReadyH.nil
          · try rw [if_pos (by rfl)]
            go_simp
            have hb := below_alloc v21 (.cells #[.int .u8 0, .int .u8 0, .int .u8 0] 26)
            have hz5 := Vb.new 26 v21 [.int .u8 0, .int .u8 0, .int .u8 0]
            have hS22 : (fun W => Vb 31 W ga [.int .i64 a.k, .int .i64 a.pr, .int .i64 a.to, .int .i64 a.po, .int .i64 a.x.v, .int .i64 a.x.m, .int .u8 a.x.b0, .int .u8 a.x.b1, .int .u8 a.x.b2, .int .u8 a.x.i0, .int .u8 a.x.i1, .int .u8 a.x.i2, sa] ∧ Vb 31 W gb [.int .i64 b.k, .int .i64 b.pr, .int .i64 b.to, .int .i64 b.po, .int .i64 b.x.v, .int .i64 b.x.m, .int .u8 b.x.b0, .int .u8 b.x.b1, .int .u8 b.x.b2, .int .u8 b.x.i0, .int .u8 b.x.i1, .int .u8 b.x.i2, sb]) (v21.alloc (.cells #[.int .u8 0, .int .u8 0, .int .u8 0] 26)) := ⟨hS21.1.alloc _, hS21.2.alloc _⟩
            have hl6 := hw0
            have hlt := hz6.lt
            replace hz6 := hz6.alloc (.cells #[.int .u8 0, .int .u8 0, .int .u8 0] 26)
            replace hB := hB.trans (hb.mono hw0)
            replace hw0 := Nat.le_trans hw0 hb.size
            refine hK.out _ _ hS22 (fun _ => ?_)
            clear hK K hb
            try simp only [Act.put, List.setIfInBounds_toArray, List.set_cons_zero, List.set_cons_succ]
            clear hS21
            generalize hu22 : v21.alloc (.cells #[.int .u8 0, .int .u8 0, .int .u8 0] 26) = v22 at *
            generalize v21.heap.size = q6 at *
            clear hu22
            refine wpAnyH_ready (rs := [8]) (by kernel_rfl) (by simp) ?_
            refine AllReadyH.cons rfl (fun K hK => ?_) AllReadyH.nil
            · try rw [if_pos (by rfl)]
              refine wp_store_vb' (T := 26) (vs := [.int .u8 a.x.i0, .int .u8 a.x.i1, .int .u8 a.x.i2]) none rfl (.tmp 5) (.tmp 9) rfl rfl rfl hz5 rfl agg_header rfl ?_
              intro v23 hn hg hz
              have hS23 : (fun W => Vb 31 W ga [.int .i64 a.k, .int .i64 a.pr, .int .i64 a.to, .int .i64 a.po, .int .i64 a.x.v, .int .i64 a.x.m, .int .u8 a.x.b0, .int .u8 a.x.b1, .int .u8 a.x.b2, .int .u8 a.x.i0, .int .u8 a.x.i1, .int .u8 a.x.i2, sa] ∧ Vb 31 W gb [.int .i64 b.k, .int .i64 b.pr, .int .i64 b.to, .int .i64 b.po, .int .i64 b.x.v, .int .i64 b.x.m, .int .u8 b.x.b0, .int .u8 b.x.b1, .int .u8 b.x.b2, .int .u8 b.x.i0, .int .u8 b.x.i1, .int .u8 b.x.i2, sb]) v23 := ⟨hS22.1.grown hg (by omega), hS22.2.grown hg (by omega)⟩
              replace hz6 := hz6.grown hg (by omega)
              replace hz5 := hn
              replace hB : Below w.heap.size w v23 := hB.grown hg hw0 (fun k e => by simp at e; omega)
              replace hw0 := Nat.le_trans hw0 hg.size
              refine hK.out _ _ hS23 (fun _ => ?_)
              clear hK K hn hg hz
              try simp only [Act.put, List.setIfInBounds_toArray, List.set_cons_zero, List.set_cons_succ]
              refine wpAnyH_ready (rs := [9]) (by kernel_rfl) (by simp) ?_
              refine AllReadyH.cons rfl (fun K hK => ?_) AllReadyH.nil
              · try rw [if_pos (by rfl)]
                refine wp_store_vb' (T := 26) (vs := [.int .u8 b.x.i0, .int .u8 b.x.i1, .int .u8 b.x.i2]) none rfl (.tmp 6) (.tmp 12) rfl rfl rfl hz6 rfl agg_header rfl ?_
                intro v24 hn hg hz
                have hS24 : (fun W => Vb 31 W ga [.int .i64 a.k, .int .i64 a.pr, .int .i64 a.to, .int .i64 a.po, .int .i64 a.x.v, .int .i64 a.x.m, .int .u8 a.x.b0, .int .u8 a.x.b1, .int .u8 a.x.b2, .int .u8 a.x.i0, .int .u8 a.x.i1, .int .u8 a.x.i2, sa] ∧ Vb 31 W gb [.int .i64 b.k, .int .i64 b.pr, .int .i64 b.to, .int .i64 b.po, .int .i64 b.x.v, .int .i64 b.x.m, .int .u8 b.x.b0, .int .u8 b.x.b1, .int .u8 b.x.b2, .int .u8 b.x.i0, .int .u8 b.x.i1, .int .u8 b.x.i2, sb]) v24 := ⟨hS23.1.grown hg (by omega), hS23.2.grown hg (by omega)⟩
                replace hz5 := hz5.grown hg (by omega)
                replace hz6 := hn
                replace hB : Below w.heap.size w v24 := hB.grown hg hw0 (fun k e => by simp at e; omega)
                replace hw0 := Nat.le_trans hw0 hg.size
                refine hK.out _ _ hS24 (fun _ => ?_)
                clear hK K hn hg hz
                try simp only [Act.put, List.setIfInBounds_toArray, List.set_cons_zero, List.set_cons_succ]
                refine wpAnyH_done (by kernel_rfl) ?_ _
                go_wp2_with fail
                go_meet
                case rel => exact ⟨_, _, rfl, rfl, hz5, hz6, hB⟩
        · try rw [if_pos (by rfl)]
          go_simp
          have hb := below_alloc v20 (.cells #[.int .u8 0, .int .u8 0, .int .u8 0] 26)
          have hz5 := Vb.new 26 v20 [.int .u8 0, .int .u8 0, .int .u8 0]
          have hS25 : (fun W => Vb 31 W ga [.int .i64 a.k, .int .i64 a.pr, .int .i64 a.to, .int .i64 a.po, .int .i64 a.x.v, .int .i64 a.x.m, .int .u8 a.x.b0, .int .u8 a.x.b1, .int .u8 a.x.b2, .int .u8 a.x.i0, .int .u8 a.x.i1, .int .u8 a.x.i2, sa] ∧ Vb 31 W gb [.int .i64 b.k, .int .i64 b.pr, .int .i64 b.to, .int .i64 b.po, .int .i64 b.x.v, .int .i64 b.x.m, .int .u8 b.x.b0, .int .u8 b.x.b1, .int .u8 b.x.b2, .int .u8 b.x.i0, .int .u8 b.x.i1, .int .u8 b.x.i2, sb]) (v20.alloc (.cells #[.int .u8 0, .int .u8 0, .int .u8 0] 26)) := ⟨hS20.1.alloc _, hS20.2.alloc _⟩
          have hl6 := hw0
          have hlt := hz6.lt
          replace hz6 := hz6.alloc (.cells #[.int .u8 0, .int .u8 0, .int .u8 0] 26)
          replace hB := hB.trans (hb.mono hw0)
          replace hw0 := Nat.le_trans hw0 hb.size
          refine hK.out _ _ hS25 (fun _ => ?_)
          clear hK K hb
          try simp only [Act.put, List.setIfInBounds_toArray, List.set_cons_zero, List.set_cons_succ]
          clear hS20
          generalize hu25 : v20.alloc (.cells #[.int .u8 0, .int .u8 0, .int .u8 0] 26) = v25 at *
          generalize v20.heap.size = q6 at *
          clear hu25
          refine wpAnyH_ready (rs := [5]) (by kernel_rfl) (by simp) ?_
          refine AllReadyH.cons rfl (fun K hK => ?_) AllReadyH.nil
          · try rw [if_pos (by rfl)]
            go_simp
            go_at_call 119
            refine (read9 b sb _).mono ?_
            rintro e v26 ⟨rfl, hb⟩
            have hS26 : (fun W => Vb 31 W ga [.int .i64 a.k, .int .i64 a.pr, .int .i64 a.to, .int .i64 a.po, .int .i64 a.x.v, .int .i64 a.x.m, .int .u8 a.x.b0, .int .u8 a.x.b1, .int .u8 a.x.b2, .int .u8 a.x.i0, .int .u8 a.x.i1, .int .u8 a.x.i2, sa] ∧ Vb 31 W gb [.int .i64 b.k, .int .i64 b.pr, .int .i64 b.to, .int .i64 b.po, .int .i64 b.x.v, .int .i64 b.x.m, .int .u8 b.x.b0, .int .u8 b.x.b1, .int .u8 b.x.b2, .int .u8 b.x.i0, .int .u8 b.x.i1, .int .u8 b.x.i2, sb]) v26 := ⟨hS25.1.below hb hS25.1.lt, hS25.2.below hb hS25.2.lt⟩
            replace hz5 := hz5.below hb hz5.lt
            replace hz6 := hz6.below hb hz6.lt
            replace hB := hB.trans (hb.mono hw0)
            replace hw0 := Nat.le_trans hw0 hb.size
            refine hK.out _ _ hS26 (fun _ => ?_)
            clear hK K hb
            try simp only [Act.put, List.setIfInBounds_toArray, List.set_cons_zero, List.set_cons_succ]
            refine wpAnyH_ready (rs := [8]) (by kernel_rfl) (by simp) ?_
            refine AllReadyH.cons rfl (fun K hK => ?_) AllReadyH.nil
            · try rw [if_pos (by rfl)]
              refine wp_store_vb' (T := 26) (vs := [.int .u8 a.x.i0, .int .u8 a.x.i1, .int .u8 a.x.i2]) none rfl (.tmp 5) (.tmp 9) rfl rfl rfl hz5 rfl agg_header rfl ?_
              intro v27 hn hg hz
              have hS27 : (fun W => Vb 31 W ga [.int .i64 a.k, .int .i64 a.pr, .int .i64 a.to, .int .i64 a.po, .int .i64 a.x.v, .int .i64 a.x.m, .int .u8 a.x.b0, .int .u8 a.x.b1, .int .u8 a.x.b2, .int .u8 a.x.i0, .int .u8 a.x.i1, .int .u8 a.x.i2, sa] ∧ Vb 31 W gb [.int .i64 b.k, .int .i64 b.pr, .int .i64 b.to, .int .i64 b.po, .int .i64 b.x.v, .int .i64 b.x.m, .int .u8 b.x.b0, .int .u8 b.x.b1, .int .u8 b.x.b2, .int .u8 b.x.i0, .int .u8 b.x.i1, .int .u8 b.x.i2, sb]) v27 := ⟨hS26.1.grown hg (by omega), hS26.2.grown hg (by omega)⟩
              replace hz6 := hz6.grown hg (by omega)
              replace hz5 := hn
              replace hB : Below w.heap.size w v27 := hB.grown hg hw0 (fun k e => by simp at e; omega)
              replace hw0 := Nat.le_trans hw0 hg.size
              refine hK.out _ _ hS27 (fun _ => ?_)
              clear hK K hn hg hz
              try simp only [Act.put, List.setIfInBounds_toArray, List.set_cons_zero, List.set_cons_succ]
              refine wpAnyH_ready (rs := [9]) (by kernel_rfl) (by simp) ?_
              refine AllReadyH.cons rfl (fun K hK => ?_) AllReadyH.nil
              · try rw [if_pos (by rfl)]
                refine wp_store_vb' (T := 26) (vs := [.int .u8 b.x.i0, .int .u8 b.x.i1, .int .u8 b.x.i2]) none rfl (.tmp 6) (.tmp 12) rfl rfl rfl hz6 rfl agg_header rfl ?_
                intro v28 hn hg hz
                have hS28 : (fun W => Vb 31 W ga [.int .i64 a.k, .int .i64 a.pr, .int .i64 a.to, .int .i64 a.po, .int .i64 a.x.v, .int .i64 a.x.m, .int .u8 a.x.b0, .int .u8 a.x.b1, .int .u8 a.x.b2, .int .u8 a.x.i0, .int .u8 a.x.i1, .int .u8 a.x.i2, sa] ∧ Vb 31 W gb [.int .i64 b.k, .int .i64 b.pr, .int .i64 b.to, .int .i64 b.po, .int .i64 b.x.v, .int .i64 b.x.m, .int .u8 b.x.b0, .int .u8 b.x.b1, .int .u8 b.x.b2, .int .u8 b.x.i0, .int .u8 b.x.i1, .int .u8 b.x.i2, sb]) v28 := ⟨hS27.1.grown hg (by omega), hS27.2.grown hg (by omega)⟩
                replace hz5 := hz5.grown hg (by omega)
                replace hz6 := hn
                replace hB : Below w.heap.size w v28 := hB.grown hg hw0 (fun k e => by simp at e; omega)
                replace hw0 := Nat.le_trans hw0 hg.size
                refine hK.out _ _ hS28 (fun _ => ?_)
                clear hK K hn hg hz
                try simp only [Act.put, List.setIfInBounds_toArray, List.set_cons_zero, List.set_cons_succ]
                refine wpAnyH_done (by kernel_rfl) ?_ _
                go_wp2_with fail
                go_meet
                case rel => exact ⟨_, _, rfl, rfl, hz5, hz6, hB⟩
    · try rw [if_pos (by rfl)]
      go_simp
      have hb := below_alloc u0 (.cells #[.int .u8 0, .int .u8 0, .int .u8 0] 26)
      have hz5 := Vb.new 26 u0 [.int .u8 0, .int .u8 0, .int .u8 0]
      have hS29 : (fun W => Vb 31 W ga [.int .i64 a.k, .int .i64 a.pr, .int .i64 a.to, .int .i64 a.po, .int .i64 a.x.v, .int .i64 a.x.m, .int .u8 a.x.b0, .int .u8 a.x.b1, .int .u8 a.x.b2, .int .u8 a.x.i0, .int .u8 a.x.i1, .int .u8 a.x.i2, sa] ∧ Vb 31 W gb [.int .i64 b.k, .int .i64 b.pr, .int .i64 b.to, .int .i64 b.po, .int .i64 b.x.v, .int .i64 b.x.m, .int .u8 b.x.b0, .int .u8 b.x.b1, .int .u8 b.x.b2, .int .u8 b.x.i0, .int .u8 b.x.i1, .int .u8 b.x.i2, sb]) (u0.alloc (.cells #[.int .u8 0, .int .u8 0, .int .u8 0] 26)) := ⟨hS0.1.alloc _, hS0.2.alloc _⟩
      have hl6 := hw0
      replace hB := hB.trans (hb.mono hw0)
      replace hw0 := Nat.le_trans hw0 hb.size
      refine hK.out _ _ hS29 (fun _ => ?_)
      clear hK K hb
      try simp only [Act.put, List.setIfInBounds_toArray, List.set_cons_zero, List.set_cons_succ]
      clear hS0
      generalize hu29 : u0.alloc (.cells #[.int .u8 0, .int .u8 0, .int .u8 0] 26) = v29 at *
      generalize u0.heap.size = q6 at *
      clear hu29
      refine wpAnyH_ready (rs := [2, 7]) (by kernel_rfl) (by simp) ?_
      refine AllReadyH.cons rfl (fun K hK => ?_) (AllReadyH.cons rfl (fun K hK => ?_) AllReadyH.nil)
      · try rw [if_pos (by rfl)]
        go_simp
        go_at_call 119
        refine (read9 a sa _).mono ?_
        rintro e v30 ⟨rfl, hb⟩
        have hS30 : (fun W => Vb 31 W ga [.int .i64 a.k, .int .i64 a.pr, .int .i64 a.to, .int .i64 a.po, .int .i64 a.x.v, .int .i64 a.x.m, .int .u8 a.x.b0, .int .u8 a.x.b1, .int .u8 a.x.b2, .int .u8 a.x.i0, .int .u8 a.x.i1, .int .u8 a.x.i2, sa] ∧ Vb 31 W gb [.int .i64 b.k, .int .i64 b.pr, .int .i64 b.to, .int .i64 b.po, .int .i64 b.x.v, .int .i64 b.x.m, .int .u8 b.x.b0, .int .u8 b.x.b1, .int .u8 b.x.b2, .int .u8 b.x.i0, .int .u8 b.x.i1, .int .u8 b.x.i2, sb]) v30 := ⟨hS29.1.below hb hS29.1.lt, hS29.2.below hb hS29.2.lt⟩
        replace hz5 := hz5.below hb hz5.lt
        replace hB := hB.trans (hb.mono hw0)
        replace hw0 := Nat.le_trans hw0 hb.size
        refine hK.out _ _ hS30 (fun _ => ?_)
        clear hK K hb
        try simp only [Act.put, List.setIfInBounds_toArray, List.set_cons_zero, List.set_cons_succ]
        refine wpAnyH_ready (rs := [5, 7]) (by kernel_rfl) (by simp) ?_
        refine AllReadyH.cons rfl (fun K hK => ?_) (AllReadyH.cons rfl (fun K hK => ?_) AllReadyH.nil)
        · try rw [if_pos (by rfl)]
          go_simp
          go_at_call 119
          refine (read9 b sb _).mono ?_
          rintro e v31 ⟨rfl, hb⟩
          have hS31 : (fun W => Vb 31 W ga [.int .i64 a.k, .int .i64 a.pr, .int .i64 a.to, .int .i64 a.po, .int .i64 a.x.v, .int .i64 a.x.m, .int .u8 a.x.b0, .int .u8 a.x.b1, .int .u8 a.x.b2, .int .u8 a.x.i0, .int .u8 a.x.i1, .int .u8 a.x.i2, sa] ∧ Vb 31 W gb [.int .i64 b.k, .int .i64 b.pr, .int .i64 b.to, .int .i64 b.po, .int .i64 b.x.v, .int .i64 b.x.m, .int .u8 b.x.b0, .int .u8 b.x.b1, .int .u8 b.x.b2, .int .u8 b.x.i0, .int .u8 b.x.i1, .int .u8 b.x.i2, sb]) v31 := ⟨hS30.1.below hb hS30.1.lt, hS30.2.below hb hS30.2.lt⟩
          replace hz5 := hz5.below hb hz5.lt
          replace hB := hB.trans (hb.mono hw0)
          replace hw0 := Nat.le_trans hw0 hb.size
          refine hK.out _ _ hS31 (fun _ => ?_)
          clear hK K hb
          try simp only [Act.put, List.setIfInBounds_toArray, List.set_cons_zero, List.set_cons_succ]
          refine wpAnyH_ready (rs := [7]) (by kernel_rfl) (by simp) ?_
          refine AllReadyH.cons rfl (fun K hK => ?_) AllReadyH.nil
          · try rw [if_pos (by rfl)]
            go_simp
            have hb := below_alloc v31 (.cells #[.int .u8 0, .int .u8 0, .int .u8 0] 26)
            have hz6 := Vb.new 26 v31 [.int .u8 0, .int .u8 0, .int .u8 0]
            have hS32 : (fun W => Vb 31 W ga [.int .i64 a.k, .int .i64 a.pr, .int .i64 a.to, .int .i64 a.po, .int .i64 a.x.v, .int .i64 a.x.m, .int .u8 a.x.b0, .int .u8 a.x.b1, .int .u8 a.x.b2, .int .u8 a.x.i0, .int .u8 a.x.i1, .int .u8 a.x.i2, sa] ∧ Vb 31 W gb [.int .i64 b.k, .int .i64 b.pr, .int .i64 b.to, .int .i64 b.po, .int .i64 b.x.v, .int .i64 b.x.m, .int .u8 b.x.b0, .int .u8 b.x.b1, .int .u8 b.x.b2, .int .u8 b.x.i0, .int .u8 b.x.i1, .int .u8 b.x.i2, sb]) (v31.alloc (.cells #[.int .u8 0, .int .u8 0, .int .u8 0] 26)) := ⟨hS31.1.alloc _, hS31.2.alloc _⟩
            have hl7 := hw0
            have hlt := hz5.lt
            replace hz5 := hz5.alloc (.cells #[.int .u8 0, .int .u8 0, .int .u8 0] 26)
            replace hB := hB.trans (hb.mono hw0)
            replace hw0 := Nat.le_trans hw0 hb.size
            refine hK.out _ _ hS32 (fun _ => ?_)
            clear hK K hb
            try simp only [Act.put, List.setIfInBounds_toArray, List.set_cons_zero, List.set_cons_succ]
            clear hS31
            generalize hu32 : v31.alloc (.cells #[.int .u8 0, .int .u8 0, .int .u8 0] 26) = v32 at *
            generalize v31.heap.size = q7 at *
            clear hu32
            refine wpAnyH_ready (rs := [8]) (by kernel_rfl) (by simp) ?_
            refine AllReadyH.cons rfl (fun K hK => ?_) AllReadyH.nil
            · try rw [if_pos (by rfl)]
              refine wp_store_vb' (T := 26) (vs := [.int .u8 a.x.i0, .int .u8 a.x.i1, .int .u8 a.x.i2]) none rfl (.tmp 5) (.tmp 9) rfl rfl rfl hz5 rfl agg_header rfl ?_
              intro v33 hn hg hz
              have hS33 : (fun W => Vb 31 W ga [.int .i64 a.k, .int .i64 a.pr, .int .i64 a.to, .int .i64 a.po, .int .i64 a.x.v, .int .i64 a.x.m, .int .u8 a.x.b0, .int .u8 a.x.b1, .int .u8 a.x.b2, .int .u8 a.x.i0, .int .u8 a.x.i1, .int .u8 a.x.i2, sa] ∧ Vb 31 W gb [.int .i64 b.k, .int .i64 b.pr, .int .i64 b.to, .int .i64 b.po, .int .i64 b.x.v, .int .i64 b.x.m, .int .u8 b.x.b0, .int .u8 b.x.b1, .int .u8 b.x.b2, .int .u8 b.x.i0, .int .u8 b.x.i1, .int .u8 b.x.i2, sb]) v33 := ⟨hS32.1.grown hg (by omega), hS32.2.grown hg (by omega)⟩
              replace hz6 := hz6.grown hg (by omega)
              replace hz5 := hn
              replace hB : Below w.heap.size w v33 := hB.grown hg hw0 (fun k e => by simp at e; omega)
              replace hw0 := Nat.le_trans hw0 hg.size
              refine hK.out _ _ hS33 (fun _ => ?_)
              clear hK K hn hg hz
              try simp only [Act.put, List.setIfInBounds_toArray, List.set_cons_zero, List.set_cons_succ]
              refine wpAnyH_ready (rs := [9]) (by kernel_rfl) (by simp) ?_
              refine AllReadyH.cons rfl (fun K hK => ?_) AllReadyH.nil
              · try rw [if_pos (by rfl)]
                refine wp_store_vb' (T := 26) (vs := [.int .u8 b.x.i0, .int .u8 b.x.i1, .int .u8 b.x.i2]) none rfl (.tmp 6) (.tmp 12) rfl rfl rfl hz6 rfl agg_header rfl ?_
                intro v34 hn hg hz
                have hS34 : (fun W => Vb 31 W ga [.int .i64 a.k, .int .i64 a.pr, .int .i64 a.to, .int .i64 a.po, .int .i64 a.x.v, .int .i64 a.x.m, .int .u8 a.x.b0, .int .u8 a.x.b1, .int .u8 a.x.b2, .int .u8 a.x.i0, .int .u8 a.x.i1, .int .u8 a.x.i2, sa] ∧ Vb 31 W gb [.int .i64 b.k, .int .i64 b.pr, .int .i64 b.to, .int .i64 b.po, .int .i64 b.x.v, .int .i64 b.x.m, .int .u8 b.x.b0, .int .u8 b.x.b1, .int .u8 b.x.b2, .int .u8 b.x.i0, .int .u8 b.x.i1, .int .u8 b.x.i2, sb]) v34 := ⟨hS33.1.grown hg (by omega), hS33.2.grown hg (by omega)⟩
                replace hz5 := hz5.grown hg (by omega)
                replace hz6 := hn
                replace hB : Below w.heap.size w v34 := hB.grown hg hw0 (fun k e => by simp at e; omega)
                replace hw0 := Nat.le_trans hw0 hg.size
                refine hK.out _ _ hS34 (fun _ => ?_)
                clear hK K hn hg hz
                try simp only [Act.put, List.setIfInBounds_toArray, List.set_cons_zero, List.set_cons_succ]
                refine wpAnyH_done (by kernel_rfl) ?_ _
                go_wp2_with fail
                go_meet
                case rel => exact ⟨_, _, rfl, rfl, hz5, hz6, hB⟩
        · try rw [if_pos (by rfl)]
          go_simp
          have hb := below_alloc v30 (.cells #[.int .u8 0, .int .u8 0, .int .u8 0] 26)
          have hz6 := Vb.new 26 v30 [.int .u8 0, .int .u8 0, .int .u8 0]
          have hS35 : (fun W => Vb 31 W ga [.int .i64 a.k, .int .i64 a.pr, .int .i64 a.to, .int .i64 a.po, .int .i64 a.x.v, .int .i64 a.x.m, .int .u8 a.x.b0, .int .u8 a.x.b1, .int .u8 a.x.b2, .int .u8 a.x.i0, .int .u8 a.x.i1, .int .u8 a.x.i2, sa] ∧ Vb 31 W gb [.int .i64 b.k, .int .i64 b.pr, .int .i64 b.to, .int .i64 b.po, .int .i64 b.x.v, .int .i64 b.x.m, .int .u8 b.x.b0, .int .u8 b.x.b1, .int .u8 b.x.b2, .int .u8 b.x.i0, .int .u8 b.x.i1, .int .u8 b.x.i2, sb]) (v30.alloc (.cells #[.int .u8 0, .int .u8 0, .int .u8 0] 26)) := ⟨hS30.1.alloc _, hS30.2.alloc _⟩
          have hl7 := hw0
          have hlt := hz5.lt
          replace hz5 := hz5.alloc (.cells #[.int .u8 0, .int .u8 0, .int .u8 0] 26)
          replace hB := hB.trans (hb.mono hw0)
          replace hw0 := Nat.le_trans hw0 hb.size
          refine hK.out _ _ hS35 (fun _ => ?_)
          clear hK K hb
          try simp only [Act.put, List.setIfInBounds_toArray, List.set_cons_zero, List.set_cons_succ]
          clear hS30
          generalize hu35 : v30.alloc (.cells #[.int .u8 0, .int .u8 0, .int .u8 0] 26) = v35 at *
          generalize v30.heap.size = q7 at *
          clear hu35
          refine wpAnyH_ready (rs := [5]) (by kernel_rfl) (by simp) ?_
          refine AllReadyH.cons rfl (fun K hK => ?_) AllReadyH.nil
          · try rw [if_pos (by rfl)]
            go_simp
            go_at_call 119
            refine (read9 b sb _).mono ?_
            rintro e v36 ⟨rfl, hb⟩
            have hS36 : (fun W => Vb 31 W ga [.int .i64 a.k, .int .i64 a.pr, .int .i64 a.to, .int .i64 a.po, .int .i64 a.x.v, .int .i64 a.x.m, .int .u8 a.x.b0, .int .u8 a.x.b1, .int .u8 a.x.b2, .int .u8 a.x.i0, .int .u8 a.x.i1, .int .u8 a.x.i2, sa] ∧ Vb 31 W gb [.int .i64 b.k, .int .i64 b.pr, .int .i64 b.to, .int .i64 b.po, .int .i64 b.x.v, .int .i64 b.x.m, .int .u8 b.x.b0, .int .u8 b.x.b1, .int .u8 b.x.b2, .int .u8 b.x.i0, .int .u8 b.x.i1, .int .u8 b.x.i2, sb]) v36 := ⟨hS35.1.below hb hS35.1.lt, hS35.2.below hb hS35.2.lt⟩
            replace hz5 := hz5.below hb hz5.lt
            replace hz6 := hz6.below hb hz6.lt
            replace hB := hB.trans (hb.mono hw0)
            replace hw0 := Nat.le_trans hw0 hb.size
            refine hK.out _ _ hS36 (fun _ => ?_)
            clear hK K hb
            try simp only [Act.put, List.setIfInBounds_toArray, List.set_cons_zero, List.set_cons_succ]
            refine wpAnyH_ready (rs := [8]) (by kernel_rfl) (by simp) ?_
            refine AllReadyH.cons rfl (fun K hK => ?_) AllReadyH.nil
            · try rw [if_pos (by rfl)]
              refine wp_store_vb' (T := 26) (vs := [.int .u8 a.x.i0, .int .u8 a.x.i1, .int .u8 a.x.i2]) none rfl (.tmp 5) (.tmp 9) rfl rfl rfl hz5 rfl agg_header rfl ?_
              intro v37 hn hg hz
              have hS37 : (fun W => Vb 31 W ga [.int .i64 a.k, .int .i64 a.pr, .int .i64 a.to, .int .i64 a.po, .int .i64 a.x.v, .int .i64 a.x.m, .int .u8 a.x.b0, .int .u8 a.x.b1, .int .u8 a.x.b2, .int .u8 a.x.i0, .int .u8 a.x.i1, .int .u8 a.x.i2, sa] ∧ Vb 31 W gb [.int .i64 b.k, .int .i64 b.pr, .int .i64 b.to, .int .i64 b.po, .int .i64 b.x.v, .int .i64 b.x.m, .int .u8 b.x.b0, .int .u8 b.x.b1, .int .u8 b.x.b2, .int .u8 b.x.i0, .int .u8 b.x.i1, .int .u8 b.x.i2, sb]) v37 := ⟨hS36.1.grown hg (by omega), hS36.2.grown hg (by omega)⟩
              replace hz6 := hz6.grown hg (by omega)
              replace hz5 := hn
              replace hB : Below w.heap.size w v37 := hB.grown hg hw0 (fun k e => by simp at e; omega)
              replace hw0 := Nat.le_trans hw0 hg.size
              refine hK.out _ _ hS37 (fun _ => ?_)
              clear hK K hn hg hz
              try simp only [Act.put, List.setIfInBounds_toArray, List.set_cons_zero, List.set_cons_succ]
              refine wpAnyH_ready (rs := [9]) (by kernel_rfl) (by simp) ?_
              refine AllReadyH.cons rfl (fun K hK => ?_) AllReadyH.nil
              · try rw [if_pos (by rfl)]
                refine wp_store_vb' (T := 26) (vs := [.int .u8 b.x.i0, .int .u8 b.x.i1, .int .u8 b.x.i2]) none rfl (.tmp 6) (.tmp 12) rfl rfl rfl hz6 rfl agg_header rfl ?_
                intro v38 hn hg hz
                have hS38 : (fun W => Vb 31 W ga [.int .i64 a.k, .int .i64 a.pr, .int .i64 a.to, .int .i64 a.po, .int .i64 a.x.v, .int .i64 a.x.m, .int .u8 a.x.b0, .int .u8 a.x.b1, .int .u8 a.x.b2, .int .u8 a.x.i0, .int .u8 a.x.i1, .int .u8 a.x.i2, sa] ∧ Vb 31 W gb [.int .i64 b.k, .int .i64 b.pr, .int .i64 b.to, .int .i64 b.po, .int .i64 b.x.v, .int .i64 b.x.m, .int .u8 b.x.b0, .int .u8 b.x.b1, .int .u8 b.x.b2, .int .u8 b.x.i0, .int .u8 b.x.i1, .int .u8 b.x.i2, sb]) v38 := ⟨hS37.1.grown hg (by omega), hS37.2.grown hg (by omega)⟩
                replace hz5 := hz5.grown hg (by omega)
                replace hz6 := hn
                replace hB : Below w.heap.size w v38 := hB.grown hg hw0 (fun k e => by simp at e; omega)
                replace hw0 := Nat.le_trans hw0 hg.size
                refine hK.out _ _ hS38 (fun _ => ?_)
                clear hK K hn hg hz
                try simp only [Act.put, List.setIfInBounds_toArray, List.set_cons_zero, List.set_cons_succ]
                refine wpAnyH_done (by kernel_rfl) ?_ _
                go_wp2_with fail
                go_meet
                case rel => exact ⟨_, _, rfl, rfl, hz5, hz6, hB⟩
      · try rw [if_pos (by rfl)]
        go_simp
        have hb := below_alloc v29 (.cells #[.int .u8 0, .int .u8 0, .int .u8 0] 26)
        have hz6 := Vb.new 26 v29 [.int .u8 0, .int .u8 0, .int .u8 0]
        have hS39 : (fun W => Vb 31 W ga [.int .i64 a.k, .int .i64 a.pr, .int .i64 a.to, .int .i64 a.po, .int .i64 a.x.v, .int .i64 a.x.m, .int .u8 a.x.b0, .int .u8 a.x.b1, .int .u8 a.x.b2, .int .u8 a.x.i0, .int .u8 a.x.i1, .int .u8 a.x.i2, sa] ∧ Vb 31 W gb [.int .i64 b.k, .int .i64 b.pr, .int .i64 b.to, .int .i64 b.po, .int .i64 b.x.v, .int .i64 b.x.m, .int .u8 b.x.b0, .int .u8 b.x.b1, .int .u8 b.x.b2, .int .u8 b.x.i0, .int .u8 b.x.i1, .int .u8 b.x.i2, sb]) (v29.alloc (.cells #[.int .u8 0, .int .u8 0, .int .u8 0] 26)) := ⟨hS29.1.alloc _, hS29.2.alloc _⟩
        have hl7 := hw0
        have hlt := hz5.lt
        replace hz5 := hz5.alloc (.cells #[.int .u8 0, .int .u8 0, .int .u8 0] 26)
        replace hB := hB.trans (hb.mono hw0)
        replace hw0 := Nat.le_trans hw0 hb.size
        refine hK.out _ _ hS39 (fun _ => ?_)
        clear hK K hb
        try simp only [Act.put, List.setIfInBounds_toArray, List.set_cons_zero, List.set_cons_succ]
        clear hS29
        generalize hu39 : v29.alloc (.cells #[.int .u8 0, .int .u8 0, .int .u8 0] 26) = v39 at *
        generalize v29.heap.size = q7 at *
        clear hu39
        refine wpAnyH_ready (rs := [2]) (by kernel_rfl) (by simp) ?_
        refine AllReadyH.cons rfl (fun K hK => ?_) AllReadyH.nil
        · try rw [if_pos (by rfl)]
          go_simp
          go_at_call 119
          refine (read9 a sa _).mono ?_
          rintro e v40 ⟨rfl, hb⟩
          have hS40 : (fun W => Vb 31 W ga [.int .i64 a.k, .int .i64 a.pr, .int .i64 a.to, .int .i64 a.po, .int .i64 a.x.v, .int .i64 a.x.m, .int .u8 a.x.b0, .int .u8 a.x.b1, .int .u8 a.x.b2, .int .u8 a.x.i0, .int .u8 a.x.i1, .int .u8 a.x.i2, sa] ∧ Vb 31 W gb [.int .i64 b.k, .int .i64 b.pr, .int .i64 b.to, .int .i64 b.po, .int .i64 b.x.v, .int .i64 b.x.m, .int .u8 b.x.b0, .int .u8 b.x.b1, .int .u8 b.x.b2, .int .u8 b.x.i0, .int .u8 b.x.i1, .int .u8 b.x.i2, sb]) v40 := ⟨hS39.1.below hb hS39.1.lt, hS39.2.below hb hS39.2.lt⟩
          replace hz5 := hz5.below hb hz5.lt
          replace hz6 := hz6.below hb hz6.lt
          replace hB := hB.trans (hb.mono hw0)
          replace hw0 := Nat.le_trans hw0 hb.size
          refine hK.out _ _ hS40 (fun _ => ?_)
          clear hK K hb
          try simp only [Act.put, List.setIfInBounds_toArray, List.set_cons_zero, List.set_cons_succ]
          refine wpAnyH_ready (rs := [5]) (by kernel_rfl) (by simp) ?_
          refine AllReadyH.cons rfl (fun K hK => ?_) AllReadyH.nil
          · try rw [if_pos (by rfl)]
            go_simp
            go_at_call 119
            refine (read9 b sb _).mono ?_
            rintro e v41 ⟨rfl, hb⟩
            have hS41 : (fun W => Vb 31 W ga [.int .i64 a.k, .int .i64 a.pr, .int .i64 a.to, .int .i64 a.po, .int .i64 a.x.v, .int .i64 a.x.m, .int .u8 a.x.b0, .int .u8 a.x.b1, .int .u8 a.x.b2, .int .u8 a.x.i0, .int .u8 a.x.i1, .int .u8 a.x.i2, sa] ∧ Vb 31 W gb [.int .i64 b.k, .int .i64 b.pr, .int .i64 b.to, .int .i64 b.po, .int .i64 b.x.v, .int .i64 b.x.m, .int .u8 b.x.b0, .int .u8 b.x.b1, .int .u8 b.x.b2, .int .u8 b.x.i0, .int .u8 b.x.i1, .int .u8 b.x.i2, sb]) v41 := ⟨hS40.1.below hb hS40.1.lt, hS40.2.below hb hS40.2.lt⟩
            replace hz5 := hz5.below hb hz5.lt
            replace hz6 := hz6.below hb hz6.lt
            replace hB := hB.trans (hb.mono hw0)
            replace hw0 := Nat.le_trans hw0 hb.size
            refine hK.out _ _ hS41 (fun _ => ?_)
            clear hK K hb
            try simp only [Act.put, List.setIfInBounds_toArray, List.set_cons_zero, List.set_cons_succ]
            refine wpAnyH_ready (rs := [8]) (by kernel_rfl) (by simp) ?_
            refine AllReadyH.cons rfl (fun K hK => ?_) AllReadyH.nil
            · try rw [if_pos (by rfl)]
              refine wp_store_vb' (T := 26) (vs := [.int .u8 a.x.i0, .int .u8 a.x.i1, .int .u8 a.x.i2]) none rfl (.tmp 5) (.tmp 9) rfl rfl rfl hz5 rfl agg_header rfl ?_
              intro v42 hn hg hz
              have hS42 : (fun W => Vb 31 W ga [.int .i64 a.k, .int .i64 a.pr, .int .i64 a.to, .int .i64 a.po, .int .i64 a.x.v, .int .i64 a.x.m, .int .u8 a.x.b0, .int .u8 a.x.b1, .int .u8 a.x.b2, .int .u8 a.x.i0, .int .u8 a.x.i1, .int .u8 a.x.i2, sa] ∧ Vb 31 W gb [.int .i64 b.k, .int .i64 b.pr, .int .i64 b.to, .int .i64 b.po, .int .i64 b.x.v, .int .i64 b.x.m, .int .u8 b.x.b0, .int .u8 b.x.b1, .int .u8 b.x.b2, .int .u8 b.x.i0, .int .u8 b.x.i1, .int .u8 b.x.i2, sb]) v42 := ⟨hS41.1.grown hg (by omega), hS41.2.grown hg (by omega)⟩
              replace hz6 := hz6.grown hg (by omega)
              replace hz5 := hn
              replace hB : Below w.heap.size w v42 := hB.grown hg hw0 (fun k e => by simp at e; omega)
              replace hw0 := Nat.le_trans hw0 hg.size
              refine hK.out _ _ hS42 (fun _ => ?_)
              clear hK K hn hg hz
              try simp only [Act.put, List.setIfInBounds_toArray, List.set_cons_zero, List.set_cons_succ]
              refine wpAnyH_ready (rs := [9]) (by kernel_rfl) (by simp) ?_
              refine AllReadyH.cons rfl (fun K hK => ?_) AllReadyH.nil
              · try rw [if_pos (by rfl)]
                refine wp_store_vb' (T := 26) (vs := [.int .u8 b.x.i0, .int .u8 b.x.i1, .int .u8 b.x.i2]) none rfl (.tmp 6) (.tmp 12) rfl rfl rfl hz6 rfl agg_header rfl ?_
                intro v43 hn hg hz
                have hS43 : (fun W => Vb 31 W ga [.int .i64 a.k, .int .i64 a.pr, .int .i64 a.to, .int .i64 a.po, .int .i64 a.x.v, .int .i64 a.x.m, .int .u8 a.x.b0, .int .u8 a.x.b1, .int .u8 a.x.b2, .int .u8 a.x.i0, .int .u8 a.x.i1, .int .u8 a.x.i2, sa] ∧ Vb 31 W gb [.int .i64 b.k, .int .i64 b.pr, .int .i64 b.to, .int .i64 b.po, .int .i64 b.x.v, .int .i64 b.x.m, .int .u8 b.x.b0, .int .u8 b.x.b1, .int .u8 b.x.b2, .int .u8 b.x.i0, .int .u8 b.x.i1, .int .u8 b.x.i2, sb]) v43 := ⟨hS42.1.grown hg (by omega), hS42.2.grown hg (by omega)⟩
                replace hz5 := hz5.grown hg (by omega)
                replace hz6 := hn
                replace hB : Below w.heap.size w v43 := hB.grown hg hw0 (fun k e => by simp at e; omega)
                replace hw0 := Nat.le_trans hw0 hg.size
                refine hK.out _ _ hS43 (fun _ => ?_)
                clear hK K hn hg hz
                try simp only [Act.put, List.setIfInBounds_toArray, List.set_cons_zero, List.set_cons_succ]
                refine wpAnyH_done (by kernel_rfl) ?_ _
                go_wp2_with fail
                go_meet
                case rel => exact ⟨_, _, rfl, rfl, hz5, hz6, hB⟩
    · try rw [if_pos (by rfl)]
      go_simp
      have hb := below_alloc u0 (.cells #[.int .u8 0, .int .u8 0, .int .u8 0] 26)
      have hz6 := Vb.new 26 u0 [.int .u8 0, .int .u8 0, .int .u8 0]
      have hS44 : (fun W => Vb 31 W ga [.int .i64 a.k, .int .i64 a.pr, .int .i64 a.to, .int .i64 a.po, .int .i64 a.x.v, .int .i64 a.x.m, .int .u8 a.x.b0, .int .u8 a.x.b1, .int .u8 a.x.b2, .int .u8 a.x.i0, .int .u8 a.x.i1, .int .u8 a.x.i2, sa] ∧ Vb 31 W gb [.int .i64 b.k, .int .i64 b.pr, .int .i64 b.to, .int .i64 b.po, .int .i64 b.x.v, .int .i64 b.x.m, .int .u8 b.x.b0, .int .u8 b.x.b1, .int .u8 b.x.b2, .int .u8 b.x.i0, .int .u8 b.x.i1, .int .u8 b.x.i2, sb]) (u0.alloc (.cells #[.int .u8 0, .int .u8 0, .int .u8 0] 26)) := ⟨hS0.1.alloc _, hS0.2.alloc _⟩
      have hl7 := hw0
      replace hB := hB.trans (hb.mono hw0)
      replace hw0 := Nat.le_trans hw0 hb.size
      refine hK.out _ _ hS44 (fun _ => ?_)
      clear hK K hb
      try simp only [Act.put, List.setIfInBounds_toArray, List.set_cons_zero, List.set_cons_succ]
      clear hS0
      generalize hu44 : u0.alloc (.cells #[.int .u8 0, .int .u8 0, .int .u8 0] 26) = v44 at *
      generalize u0.heap.size = q7 at *
      clear hu44
      refine wpAnyH_ready (rs := [2, 6]) (by kernel_rfl) (by simp) ?_
      refine AllReadyH.cons rfl (fun K hK => ?_) (AllReadyH.cons rfl (fun K hK => ?_) AllReadyH.nil)
      · try rw [if_pos (by rfl)]
        go_simp
        go_at_call 119
        refine (read9 a sa _).mono ?_
        rintro e v45 ⟨rfl, hb⟩
        have hS45 : (fun W => Vb 31 W ga [.int .i64 a.k, .int .i64 a.pr, .int .i64 a.to, .int .i64 a.po, .int .i64 a.x.v, .int .i64 a.x.m, .int .u8 a.x.b0, .int .u8 a.x.b1, .int .u8 a.x.b2, .int .u8 a.x.i0, .int .u8 a.x.i1, .int .u8 a.x.i2, sa] ∧ Vb 31 W gb [.int .i64 b.k, .int .i64 b.pr, .int .i64 b.to, .int .i64 b.po, .int .i64 b.x.v, .int .i64 b.x.m, .int .u8 b.x.b0, .int .u8 b.x.b1, .int .u8 b.x.b2, .int .u8 b.x.i0, .int .u8 b.x.i1, .int .u8 b.x.i2, sb]) v45 := ⟨hS44.1.below hb hS44.1.lt, hS44.2.below hb hS44.2.lt⟩
        replace hz6 := hz6.below hb hz6.lt
        replace hB := hB.trans (hb.mono hw0)
        replace hw0 := Nat.le_trans hw0 hb.size
        refine hK.out _ _ hS45 (fun _ => ?_)
        clear hK K hb
        try simp only [Act.put, List.setIfInBounds_toArray, List.set_cons_zero, List.set_cons_succ]
        refine wpAnyH_ready (rs := [5, 6]) (by kernel_rfl) (by simp) ?_
        refine AllReadyH.cons rfl (fun K hK => ?_) (AllReadyH.cons rfl (fun K hK => ?_) AllReadyH.nil)
        · try rw [if_pos (by rfl)]
          go_simp
          go_at_call 119
          refine (read9 b sb _).mono ?_
          rintro e v46 ⟨rfl, hb⟩
          have hS46 : (fun W => Vb 31 W ga [.int .i64 a.k, .int .i64 a.pr, .int .i64 a.to, .int .i64 a.po, .int .i64 a.x.v, .int .i64 a.x.m, .int .u8 a.x.b0, .int .u8 a.x.b1, .int .u8 a.x.b2, .int .u8 a.x.i0, .int .u8 a.x.i1, .int .u8 a.x.i2, sa] ∧ Vb 31 W gb [.int .i64 b.k, .int .i64 b.pr, .int .i64 b.to, .int .i64 b.po, .int .i64 b.x.v, .int .i64 b.x.m, .int .u8 b.x.b0, .int .u8 b.x.b1, .int .u8 b.x.b2, .int .u8 b.x.i0, .int .u8 b.x.i1, .int .u8 b.x.i2, sb]) v46 := ⟨hS45.1.below hb hS45.1.lt, hS45.2.below hb hS45.2.lt⟩
          replace hz6 := hz6.below hb hz6.lt
          replace hB := hB.trans (hb.mono hw0)
          replace hw0 := Nat.le_trans hw0 hb.size
          refine hK.out _ _ hS46 (fun _ => ?_)
          clear hK K hb
          try simp only [Act.put, List.setIfInBounds_toArray, List.set_cons_zero, List.set_cons_succ]
          refine wpAnyH_ready (rs := [6]) (by kernel_rfl) (by simp) ?_
          refine AllReadyH.cons rfl (fun K hK => ?_) AllReadyH.nil
          · try rw [if_pos (by rfl)]
            go_simp
            have hb := below_alloc v46 (.cells #[.int .u8 0, .int .u8 0, .int .u8 0] 26)
            have hz5 := Vb.new 26 v46 [.int .u8 0, .int .u8 0, .int .u8 0]
            have hS47 : (fun W => Vb 31 W ga [.int .i64 a.k, .int .i64 a.pr, .int .i64 a.to, .int .i64 a.po, .int .i64 a.x.v, .int .i64 a.x.m, .int .u8 a.x.b0, .int .u8 a.x.b1, .int .u8 a.x.b2, .int .u8 a.x.i0, .int .u8 a.x.i1, .int .u8 a.x.i2, sa] ∧ Vb 31 W gb [.int .i64 b.k, .int .i64 b.pr, .int .i64 b.to, .int .i64 b.po, .int .i64 b.x.v, .int .i64 b.x.m, .int .u8 b.x.b0, .int .u8 b.x.b1, .int .u8 b.x.b2, .int .u8 b.x.i0, .int .u8 b.x.i1, .int .u8 b.x.i2, sb]) (v46.alloc (.cells #[.int .u8 0, .int .u8 0, .int .u8 0] 26)) := ⟨hS46.1.alloc _, hS46.2.alloc _⟩
            have hl6 := hw0
            have hlt := hz6.lt
            replace hz6 := hz6.alloc (.cells #[.int .u8 0, .int .u8 0, .int .u8 0] 26)
            replace hB := hB.trans (hb.mono hw0)
            replace hw0 := Nat.le_trans hw0 hb.size
            refine hK.out _ _ hS47 (fun _ => ?_)
            clear hK K hb
            try simp only [Act.put, List.setIfInBounds_toArray, List.set_cons_zero, List.set_cons_succ]
            clear hS46
            generalize hu47 : v46.alloc (.cells #[.int .u8 0, .int .u8 0, .int .u8 0] 26) = v47 at *
            generalize v46.heap.size = q6 at *
            clear hu47
            refine wpAnyH_ready (rs := [8]) (by kernel_rfl) (by simp) ?_
            refine AllReadyH.cons rfl (fun K hK => ?_) AllReadyH.nil
            · try rw [if_pos (by rfl)]
              refine wp_store_vb' (T := 26) (vs := [.int .u8 a.x.i0, .int .u8 a.x.i1, .int .u8 a.x.i2]) none rfl (.tmp 5) (.tmp 9) rfl rfl rfl hz5 rfl agg_header rfl ?_
              intro v48 hn hg hz
              have hS48 : (fun W => Vb 31 W ga [.int .i64 a.k, .int .i64 a.pr, .int .i64 a.to, .int .i64 a.po, .int .i64 a.x.v, .int .i64 a.x.m, .int .u8 a.x.b0, .int .u8 a.x.b1, .int .u8 a.x.b2, .int .u8 a.x.i0, .int .u8 a.x.i1, .int .u8 a.x.i2, sa] ∧ Vb 31 W gb [.int .i64 b.k, .int .i64 b.pr, .int .i64 b.to, .int .i64 b.po, .int .i64 b.x.v, .int .i64 b.x.m, .int .u8 b.x.b0, .int .u8 b.x.b1, .int .u8 b.x.b2, .int .u8 b.x.i0, .int .u8 b.x.i1, .int .u8 b.x.i2, sb]) v48 := ⟨hS47.1.grown hg (by omega), hS47.2.grown hg (by omega)⟩
              replace hz6 := hz6.grown hg (by omega)
              replace hz5 := hn
              replace hB : Below w.heap.size w v48 := hB.grown hg hw0 (fun k e => by simp at e; omega)
              replace hw0 := Nat.le_trans hw0 hg.size
              refine hK.out _ _ hS48 (fun _ => ?_)
              clear hK K hn hg hz
              try simp only [Act.put, List.setIfInBounds_toArray, List.set_cons_zero, List.set_cons_succ]
              refine wpAnyH_ready (rs := [9]) (by kernel_rfl) (by simp) ?_
              refine AllReadyH.cons rfl (fun K hK => ?_) AllReadyH.nil
              · try rw [if_pos (by rfl)]
                refine wp_store_vb' (T := 26) (vs := [.int .u8 b.x.i0, .int .u8 b.x.i1, .int .u8 b.x.i2]) none rfl (.tmp 6) (.tmp 12) rfl rfl rfl hz6 rfl agg_header rfl ?_
                intro v49 hn hg hz
                have hS49 : (fun W => Vb 31 W ga [.int .i64 a.k, .int .i64 a.pr, .int .i64 a.to, .int .i64 a.po, .int .i64 a.x.v, .int .i64 a.x.m, .int .u8 a.x.b0, .int .u8 a.x.b1, .int .u8 a.x.b2, .int .u8 a.x.i0, .int .u8 a.x.i1, .int .u8 a.x.i2, sa] ∧ Vb 31 W gb [.int .i64 b.k, .int .i64 b.pr, .int .i64 b.to, .int .i64 b.po, .int .i64 b.x.v, .int .i64 b.x.m, .int .u8 b.x.b0, .int .u8 b.x.b1, .int .u8 b.x.b2, .int .u8 b.x.i0, .int .u8 b.x.i1, .int .u8 b.x.i2, sb]) v49 := ⟨hS48.1.grown hg (by omega), hS48.2.grown hg (by omega)⟩
                replace hz5 := hz5.grown hg (by omega)
                replace hz6 := hn
                replace hB : Below w.heap.size w v49 := hB.grown hg hw0 (fun k e => by simp at e; omega)
                replace hw0 := Nat.le_trans hw0 hg.size
                refine hK.out _ _ hS49 (fun _ => ?_)
                clear hK K hn hg hz
                try simp only [Act.put, List.setIfInBounds_toArray, List.set_cons_zero, List.set_cons_succ]
                refine wpAnyH_done (by kernel_rfl) ?_ _
                go_wp2_with fail
                go_meet
                case rel => exact ⟨_, _, rfl, rfl, hz5, hz6, hB⟩
        · try rw [if_pos (by rfl)]
          go_simp
          have hb := below_alloc v45 (.cells #[.int .u8 0, .int .u8 0, .int .u8 0] 26)
          have hz5 := Vb.new 26 v45 [.int .u8 0, .int .u8 0, .int .u8 0]
          have hS50 : (fun W => Vb 31 W ga [.int .i64 a.k, .int .i64 a.pr, .int .i64 a.to, .int .i64 a.po, .int .i64 a.x.v, .int .i64 a.x.m, .int .u8 a.x.b0, .int .u8 a.x.b1, .int .u8 a.x.b2, .int .u8 a.x.i0, .int .u8 a.x.i1, .int .u8 a.x.i2, sa] ∧ Vb 31 W gb [.int .i64 b.k, .int .i64 b.pr, .int .i64 b.to, .int .i64 b.po, .int .i64 b.x.v, .int .i64 b.x.m, .int .u8 b.x.b0, .int .u8 b.x.b1, .int .u8 b.x.b2, .int .u8 b.x.i0, .int .u8 b.x.i1, .int .u8 b.x.i2, sb]) (v45.alloc (.cells #[.int .u8 0, .int .u8 0, .int .u8 0] 26)) := ⟨hS45.1.alloc _, hS45.2.alloc _⟩
          have hl6 := hw0
          have hlt := hz6.lt
          replace hz6 := hz6.alloc (.cells #[.int .u8 0, .int .u8 0, .int .u8 0] 26)
          replace hB := hB.trans (hb.mono hw0)
          replace hw0 := Nat.le_trans hw0 hb.size
          refine hK.out _ _ hS50 (fun _ => ?_)
          clear hK K hb
          try simp only [Act.put, List.setIfInBounds_toArray, List.set_cons_zero, List.set_cons_succ]
          clear hS45
          generalize hu50 : v45.alloc (.cells #[.int .u8 0, .int .u8 0, .int .u8 0] 26) = v50 at *
          generalize v45.heap.size = q6 at *
          clear hu50
          refine wpAnyH_ready (rs := [5]) (by kernel_rfl) (by simp) ?_
          refine AllReadyH.cons rfl (fun K hK => ?_) AllReadyH.nil
          · try rw [if_pos (by rfl)]
            go_simp
            go_at_call 119
            refine (read9 b sb _).mono ?_
            rintro e v51 ⟨rfl, hb⟩
            have hS51 : (fun W => Vb 31 W ga [.int .i64 a.k, .int .i64 a.pr, .int .i64 a.to, .int .i64 a.po, .int .i64 a.x.v, .int .i64 a.x.m, .int .u8 a.x.b0, .int .u8 a.x.b1, .int .u8 a.x.b2, .int .u8 a.x.i0, .int .u8 a.x.i1, .int .u8 a.x.i2, sa] ∧ Vb 31 W gb [.int .i64 b.k, .int .i64 b.pr, .int .i64 b.to, .int .i64 b.po, .int .i64 b.x.v, .int .i64 b.x.m, .int .u8 b.x.b0, .int .u8 b.x.b1, .int .u8 b.x.b2, .int .u8 b.x.i0, .int .u8 b.x.i1, .int .u8 b.x.i2, sb]) v51 := ⟨hS50.1.below hb hS50.1.lt, hS50.2.below hb hS50.2.lt⟩
            replace hz5 := hz5.below hb hz5.lt
            replace hz6 := hz6.below hb hz6.lt
            replace hB := hB.trans (hb.mono hw0)
            replace hw0 := Nat.le_trans hw0 hb.size
            refine hK.out _ _ hS51 (fun _ => ?_)
            clear hK K hb
            try simp only [Act.put, List.setIfInBounds_toArray, List.set_cons_zero, List.set_cons_succ]
            refine wpAnyH_ready (rs := [8]) (by kernel_rfl) (by simp) ?_
            refine AllReadyH.cons rfl (fun K hK => ?_) AllReadyH.nil
            · try rw [if_pos (by rfl)]
              refine wp_store_vb' (T := 26) (vs := [.int .u8 a.x.i0, .int .u8 a.x.i1, .int .u8 a.x.i2]) none rfl (.tmp 5) (.tmp 9) rfl rfl rfl hz5 rfl agg_header rfl ?_
              intro v52 hn hg hz
              have hS52 : (fun W => Vb 31 W ga [.int .i64 a.k, .int .i64 a.pr, .int .i64 a.to, .int .i64 a.po, .int .i64 a.x.v, .int .i64 a.x.m, .int .u8 a.x.b0, .int .u8 a.x.b1, .int .u8 a.x.b2, .int .u8 a.x.i0, .int .u8 a.x.i1, .int .u8 a.x.i2, sa] ∧ Vb 31 W gb [.int .i64 b.k, .int .i64 b.pr, .int .i64 b.to, .int .i64 b.po, .int .i64 b.x.v, .int .i64 b.x.m, .int .u8 b.x.b0, .int .u8 b.x.b1, .int .u8 b.x.b2, .int .u8 b.x.i0, .int .u8 b.x.i1, .int .u8 b.x.i2, sb]) v52 := ⟨hS51.1.grown hg (by omega), hS51.2.grown hg (by omega)⟩
              replace hz6 := hz6.grown hg (by omega)
              replace hz5 := hn
              replace hB : Below w.heap.size w v52 := hB.grown hg hw0 (fun k e => by simp at e; omega)
              replace hw0 := Nat.le_trans hw0 hg.size
              refine hK.out _ _ hS52 (fun _ => ?_)
              clear hK K hn hg hz
              try simp only [Act.put, List.setIfInBounds_toArray, List.set_cons_zero, List.set_cons_succ]
              refine wpAnyH_ready (rs := [9]) (by kernel_rfl) (by simp) ?_
              refine AllReadyH.cons rfl (fun K hK => ?_) AllReadyH.nil
              · try rw [if_pos (by rfl)]
                refine wp_store_vb' (T := 26) (vs := [.int .u8 b.x.i0, .int .u8 b.x.i1, .int .u8 b.x.i2]) none rfl (.tmp 6) (.tmp 12) rfl rfl rfl hz6 rfl agg_header rfl ?_
                intro v53 hn hg hz
                have hS53 : (fun W => Vb 31 W ga [.int .i64 a.k, .int .i64 a.pr, .int .i64 a.to, .int .i64 a.po, .int .i64 a.x.v, .int .i64 a.x.m, .int .u8 a.x.b0, .int .u8 a.x.b1, .int .u8 a.x.b2, .int .u8 a.x.i0, .int .u8 a.x.i1, .int .u8 a.x.i2, sa] ∧ Vb 31 W gb [.int .i64 b.k, .int .i64 b.pr, .int .i64 b.to, .int .i64 b.po, .int .i64 b.x.v, .int .i64 b.x.m, .int .u8 b.x.b0, .int .u8 b.x.b1, .int .u8 b.x.b2, .int .u8 b.x.i0, .int .u8 b.x.i1, .int .u8 b.x.i2, sb]) v53 := ⟨hS52.1.grown hg (by omega), hS52.2.grown hg (by omega)⟩
                replace hz5 := hz5.grown hg (by omega)
                replace hz6 := hn
                replace hB : Below w.heap.size w v53 := hB.grown hg hw0 (fun k e => by simp at e; omega)
                replace hw0 := Nat.le_trans hw0 hg.size
                refine hK.out _ _ hS53 (fun _ => ?_)
                clear hK K hn hg hz
                try simp only [Act.put, List.setIfInBounds_toArray, List.set_cons_zero, List.set_cons_succ]
                refine wpAnyH_done (by kernel_rfl) ?_ _
                go_wp2_with fail
                go_meet
                case rel => exact ⟨_, _, rfl, rfl, hz5, hz6, hB⟩
      · try rw [if_pos (by rfl)]
        go_simp
        have hb := below_alloc v44 (.cells #[.int .u8 0, .int .u8 0, .int .u8 0] 26)
        have hz5 := Vb.new 26 v44 [.int .u8 0, .int .u8 0, .int .u8 0]
        have hS54 : (fun W => Vb 31 W ga [.int .i64 a.k, .int .i64 a.pr, .int .i64 a.to, .int .i64 a.po, .int .i64 a.x.v, .int .i64 a.x.m, .int .u8 a.x.b0, .int .u8 a.x.b1, .int .u8 a.x.b2, .int .u8 a.x.i0, .int .u8 a.x.i1, .int .u8 a.x.i2, sa] ∧ Vb 31 W gb [.int .i64 b.k, .int .i64 b.pr, .int .i64 b.to, .int .i64 b.po, .int .i64 b.x.v, .int .i64 b.x.m, .int .u8 b.x.b0, .int .u8 b.x.b1, .int .u8 b.x.b2, .int .u8 b.x.i0, .int .u8 b.x.i1, .int .u8 b.x.i2, sb]) (v44.alloc (.cells #[.int .u8 0, .int .u8 0, .int .u8 0] 26)) := ⟨hS44.1.alloc _, hS44.2.alloc _⟩
        have hl6 := hw0
        have hlt := hz6.lt
        replace hz6 := hz6.alloc (.cells #[.int .u8 0, .int .u8 0, .int .u8 0] 26)
        replace hB := hB.trans (hb.mono hw0)
        replace hw0 := Nat.le_trans hw0 hb.size
        refine hK.out _ _ hS54 (fun _ => ?_)
        clear hK K hb
        try simp only [Act.put, List.setIfInBounds_toArray, List.set_cons_zero, List.set_cons_succ]
        clear hS44
        generalize hu54 : v44.alloc (.cells #[.int .u8 0, .int .u8 0, .int .u8 0] 26) = v54 at *
        generalize v44.heap.size = q6 at *
        clear hu54
        refine wpAnyH_ready (rs := [2]) (by kernel_rfl) (by simp) ?_
        refine AllReadyH.cons rfl (fun K hK => ?_) AllReadyH.nil
        · try rw [if_pos (by rfl)]
          go_simp
          go_at_call 119
          refine (read9 a sa _).mono ?_
          rintro e v55 ⟨rfl, hb⟩
          have hS55 : (fun W => Vb 31 W ga [.int .i64 a.k, .int .i64 a.pr, .int .i64 a.to, .int .i64 a.po, .int .i64 a.x.v, .int .i64 a.x.m, .int .u8 a.x.b0, .int .u8 a.x.b1, .int .u8 a.x.b2, .int .u8 a.x.i0, .int .u8 a.x.i1, .int .u8 a.x.i2, sa] ∧ Vb 31 W gb [.int .i64 b.k, .int .i64 b.pr, .int .i64 b.to, .int .i64 b.po, .int .i64 b.x.v, .int .i64 b.x.m, .int .u8 b.x.b0, .int .u8 b.x.b1, .int .u8 b.x.b2, .int .u8 b.x.i0, .int .u8 b.x.i1, .int .u8 b.x.i2, sb]) v55 := ⟨hS54.1.below hb hS54.1.lt, hS54.2.below hb hS54.2.lt⟩
          replace hz5 := hz5.below hb hz5.lt
          replace hz6 := hz6.below hb hz6.lt
          replace hB := hB.trans (hb.mono hw0)
          replace hw0 := Nat.le_trans hw0 hb.size
          refine hK.out _ _ hS55 (fun _ => ?_)
          clear hK K hb
          try simp only [Act.put, List.setIfInBounds_toArray, List.set_cons_zero, List.set_cons_succ]
          refine wpAnyH_ready (rs := [5]) (by kernel_rfl) (by simp) ?_
          refine AllReadyH.cons rfl (fun K hK => ?_) AllReadyH.nil
          · try rw [if_pos (by rfl)]
            go_simp
            go_at_call 119
            refine (read9 b sb _).mono ?_
            rintro e v56 ⟨rfl, hb⟩
            have hS56 : (fun W => Vb 31 W ga [.int .i64 a.k, .int .i64 a.pr, .int .i64 a.to, .int .i64 a.po, .int .i64 a.x.v, .int .i64 a.x.m, .int .u8 a.x.b0, .int .u8 a.x.b1, .int .u8 a.x.b2, .int .u8 a.x.i0, .int .u8 a.x.i1, .int .u8 a.x.i2, sa] ∧ Vb 31 W gb [.int .i64 b.k, .int .i64 b.pr, .int .i64 b.to, .int .i64 b.po, .int .i64 b.x.v, .int .i64 b.x.m, .int .u8 b.x.b0, .int .u8 b.x.b1, .int .u8 b.x.b2, .int .u8 b.x.i0, .int .u8 b.x.i1, .int .u8 b.x.i2, sb]) v56 := ⟨hS55.1.below hb hS55.1.lt, hS55.2.below hb hS55.2.lt⟩
            replace hz5 := hz5.below hb hz5.lt
            replace hz6 := hz6.below hb hz6.lt
            replace hB := hB.trans (hb.mono hw0)
            replace hw0 := Nat.le_trans hw0 hb.size
            refine hK.out _ _ hS56 (fun _ => ?_)
            clear hK K hb
            try simp only [Act.put, List.setIfInBounds_toArray, List.set_cons_zero, List.set_cons_succ]
            refine wpAnyH_ready (rs := [8]) (by kernel_rfl) (by simp) ?_
            refine AllReadyH.cons rfl (fun K hK => ?_) AllReadyH.nil
            · try rw [if_pos (by rfl)]
              refine wp_store_vb' (T := 26) (vs := [.int .u8 a.x.i0, .int .u8 a.x.i1, .int .u8 a.x.i2]) none rfl (.tmp 5) (.tmp 9) rfl rfl rfl hz5 rfl agg_header rfl ?_
              intro v57 hn hg hz
              have hS57 : (fun W => Vb 31 W ga [.int .i64 a.k, .int .i64 a.pr, .int .i64 a.to, .int .i64 a.po, .int .i64 a.x.v, .int .i64 a.x.m, .int .u8 a.x.b0, .int .u8 a.x.b1, .int .u8 a.x.b2, .int .u8 a.x.i0, .int .u8 a.x.i1, .int .u8 a.x.i2, sa] ∧ Vb 31 W gb [.int .i64 b.k, .int .i64 b.pr, .int .i64 b.to, .int .i64 b.po, .int .i64 b.x.v, .int .i64 b.x.m, .int .u8 b.x.b0, .int .u8 b.x.b1, .int .u8 b.x.b2, .int .u8 b.x.i0, .int .u8 b.x.i1, .int .u8 b.x.i2, sb]) v57 := ⟨hS56.1.grown hg (by omega), hS56.2.grown hg (by omega)⟩
              replace hz6 := hz6.grown hg (by omega)
              replace hz5 := hn
              replace hB : Below w.heap.size w v57 := hB.grown hg hw0 (fun k e => by simp at e; omega)
              replace hw0 := Nat.le_trans hw0 hg.size
              refine hK.out _ _ hS57 (fun _ => ?_)
              clear hK K hn hg hz
              try simp only [Act.put, List.setIfInBounds_toArray, List.set_cons_zero, List.set_cons_succ]
              refine wpAnyH_ready (rs := [9]) (by kernel_rfl) (by simp) ?_
              refine AllReadyH.cons rfl (fun K hK => ?_) AllReadyH.nil
              · try rw [if_pos (by rfl)]
                refine wp_store_vb' (T := 26) (vs := [.int .u8 b.x.i0, .int .u8 b.x.i1, .int .u8 b.x.i2]) none rfl (.tmp 6) (.tmp 12) rfl rfl rfl hz6 rfl agg_header rfl ?_
                intro v58 hn hg hz
                have hS58 : (fun W => Vb 31 W ga [.int .i64 a.k, .int .i64 a.pr, .int .i64 a.to, .int .i64 a.po, .int .i64 a.x.v, .int .i64 a.x.m, .int .u8 a.x.b0, .int .u8 a.x.b1, .int .u8 a.x.b2, .int .u8 a.x.i0, .int .u8 a.x.i1, .int .u8 a.x.i2, sa] ∧ Vb 31 W gb [.int .i64 b.k, .int .i64 b.pr, .int .i64 b.to, .int .i64 b.po, .int .i64 b.x.v, .int .i64 b.x.m, .int .u8 b.x.b0, .int .u8 b.x.b1, .int .u8 b.x.b2, .int .u8 b.x.i0, .int .u8 b.x.i1, .int .u8 b.x.i2, sb]) v58 := ⟨hS57.1.grown hg (by omega), hS57.2.grown hg (by omega)⟩
                replace hz5 := hz5.grown hg (by omega)
                replace hz6 := hn
                replace hB : Below w.heap.size w v58 := hB.grown hg hw0 (fun k e => by simp at e; omega)
                replace hw0 := Nat.le_trans hw0 hg.size
                refine hK.out _ _ hS58 (fun _ => ?_)
                clear hK K hn hg hz
                try simp only [Act.put, List.setIfInBounds_toArray, List.set_cons_zero, List.set_cons_succ]
                refine wpAnyH_done (by kernel_rfl) ?_ _
                go_wp2_with fail
                go_meet
                case rel => exact ⟨_, _, rfl, rfl, hz5, hz6, hB⟩
  obtain ⟨g5, g6, rfl, rfl, h5, h6, hB⟩ := hcut
  go_upto_region 2 with fail
  replace hB : Below w.heap.size w wc.drew := hB.drew
  clear hx hy hw0 hga hgb
  have hS0 : (fun W => Vb 26 W g5 [.int .u8 a.x.i0, .int .u8 a.x.i1, .int .u8 a.x.i2] ∧ Vb 26 W g6 [.int .u8 b.x.i0, .int .u8 b.x.i1, .int .u8 b.x.i2]) wc.drew := ⟨h5, h6⟩
  refine wp_region_held_drew (S := fun W => Vb 26 W g5 [.int .u8 a.x.i0, .int .u8 a.x.i1, .int .u8 a.x.i2] ∧ Vb 26 W g6 [.int .u8 b.x.i0, .int .u8 b.x.i1, .int .u8 b.x.i2]) (by kernel_rfl) hS0 (fun _ => ?_)
  clear h5 h6
  generalize wc.drew = u0 at *
  refine takeD (i := 0) (v := .slice (some ⟨g5, 0, none⟩) 3 3) (some 13) rfl rfl (by kernel_rfl) (by kernel_rfl) (by kernel_rfl) (fun _ _ _ h => h) (Or.inl ⟨by rfl, ?_⟩) hS0 ?_
  · rintro w' _
    go_simp
  try simp only [Act.put, List.setIfInBounds_toArray, List.set_cons_zero, List.set_cons_succ]
  refine takeD (i := 1) (v := .slice (some ⟨g6, 0, none⟩) 3 3) (some 14) rfl rfl (by kernel_rfl) (by kernel_rfl) (by kernel_rfl) (fun _ _ _ h => h) (Or.inl ⟨by rfl, ?_⟩) hS0 ?_
  · rintro w' _
    go_simp
  try simp only [Act.put, List.setIfInBounds_toArray, List.set_cons_zero, List.set_cons_succ]
  refine wpAnyH_ready (rs := [2]) (by kernel_rfl) (by simp) ?_
  refine AllReadyH.cons rfl (fun K hK => ?_) AllReadyH.nil
  try rw [if_pos (by rfl)]
  go_simp
  go_at_call 111
  refine (lex_anyB hS0.1 hS0.2).mono ?_
  rintro e v1 ⟨rfl, hb1⟩
  have hB1 := hB.trans (hb1.mono hB.size)
  refine hK.out _ _ (⟨hS0.1.below hb1 hS0.1.lt, hS0.2.below hb1 hS0.2.lt⟩) (fun hS1 => ?_)
  clear hK K
  try simp only [Act.put, List.setIfInBounds_toArray, List.set_cons_zero, List.set_cons_succ]
  refine takeD (i := 3) (v := .int .i64 (lex3 a.x.i0 a.x.i1 a.x.i2 b.x.i0 b.x.i1 b.x.i2)) (some 4) rfl rfl (by kernel_rfl) (by kernel_rfl) (by kernel_rfl) (fun _ _ _ h => h) (Or.inl ⟨by rfl, ?_⟩) hS1 ?_
  · rintro w' _
    go_simp
  try simp only [Act.put, List.setIfInBounds_toArray, List.set_cons_zero, List.set_cons_succ]
  refine wpAnyH_done (by kernel_rfl) ?_ _
  go_wp2_with fail
  go_ret
  exact ⟨rfl, hB1⟩
def cmpR (a b : RuleV) : Int := if a.k = 1 then orL [cmpI a.k b.k, -cmpI a.pr b.pr, cmpI a.x.v b.x.v, cmpI a.x.m b.x.m, lex3 a.x.b0 a.x.b1 a.x.b2 b.x.b0 b.x.b1 b.x.b2, lex3 a.x.i0 a.x.i1 a.x.i2 b.x.i0 b.x.i1 b.x.i2] else orL [cmpI a.k b.k, cmpI a.to b.to]
theorem or_anyB (zs : List Int) (hl : zs.length ≤ 100) {w : World} {g : Nat} (h : Vb 3 w g (zs.map (Value.int .i64))) : Calls Try.prog 113 #[.slice (some ⟨g, 0, none⟩) zs.length zs.length] w fun e w' => e = .returned (.int .i64 (orL zs)) ∧ Below w.heap.size w w' :=
  (or_any zs hl h).mono fun e w' ⟨h1, h2⟩ => ⟨h1, h2 ▸ Below.refl _ _⟩
set_option maxRecDepth 100000 in
set_option maxHeartbeats 4000000 in
theorem compare_any (a b : RuleV) (sa sb : Value) (w : World) : Calls Try.prog 99 #[.agg #[.int .i64 a.k, .int .i64 a.pr, .int .i64 a.to, .int .i64 a.po, .int .i64 a.x.v, .int .i64 a.x.m, .int .u8 a.x.b0, .int .u8 a.x.b1, .int .u8 a.x.b2, .int .u8 a.x.i0, .int .u8 a.x.i1, .int .u8 a.x.i2, sa], .agg #[.int .i64 b.k, .int .i64 b.pr, .int .i64 b.to, .int .i64 b.po, .int .i64 b.x.v, .int .i64 b.x.m, .int .u8 b.x.b0, .int .u8 b.x.b1, .int .u8 b.x.b2, .int .u8 b.x.i0, .int .u8 b.x.i1, .int .u8 b.x.i2, sb]] w fun e w' => e = .returned (.int .i64 (cmpR a b)) ∧ Below w.heap.size w w' := by
  have hmf : ∀ (fn : Fn) (first cap : Array Value) (w : World), (Instr.makeFunc fn first cap).run Try.prog w = .ok (.func fn first cap) w := fun _ _ _ _ => rfl
  have hx : Vb 31 ((w.alloc (.cells #[.int .i64 a.k, .int .i64 a.pr, .int .i64 a.to, .int .i64 a.po, .int .i64 a.x.v, .int .i64 a.x.m, .int .u8 a.x.b0, .int .u8 a.x.b1, .int .u8 a.x.b2, .int .u8 a.x.i0, .int .u8 a.x.i1, .int .u8 a.x.i2, sa] 31)).alloc (.cells #[.int .i64 b.k, .int .i64 b.pr, .int .i64 b.to, .int .i64 b.po, .int .i64 b.x.v, .int .i64 b.x.m, .int .u8 b.x.b0, .int .u8 b.x.b1, .int .u8 b.x.b2, .int .u8 b.x.i0, .int .u8 b.x.i1, .int .u8 b.x.i2, sb] 31)) w.heap.size [.int .i64 a.k, .int .i64 a.pr, .int .i64 a.to, .int .i64 a.po, .int .i64 a.x.v, .int .i64 a.x.m, .int .u8 a.x.b0, .int .u8 a.x.b1, .int .u8 a.x.b2, .int .u8 a.x.i0, .int .u8 a.x.i1, .int .u8 a.x.i2, sa] := (Vb.new 31 w [.int .i64 a.k, .int .i64 a.pr, .int .i64 a.to, .int .i64 a.po, .int .i64 a.x.v, .int .i64 a.x.m, .int .u8 a.x.b0, .int .u8 a.x.b1, .int .u8 a.x.b2, .int .u8 a.x.i0, .int .u8 a.x.i1, .int .u8 a.x.i2, sa]).alloc _
  have hy : Vb 31 ((w.alloc (.cells #[.int .i64 a.k, .int .i64 a.pr, .int .i64 a.to, .int .i64 a.po, .int .i64 a.x.v, .int .i64 a.x.m, .int .u8 a.x.b0, .int .u8 a.x.b1, .int .u8 a.x.b2, .int .u8 a.x.i0, .int .u8 a.x.i1, .int .u8 a.x.i2, sa] 31)).alloc (.cells #[.int .i64 b.k, .int .i64 b.pr, .int .i64 b.to, .int .i64 b.po, .int .i64 b.x.v, .int .i64 b.x.m, .int .u8 b.x.b0, .int .u8 b.x.b1, .int .u8 b.x.b2, .int .u8 b.x.i0, .int .u8 b.x.i1, .int .u8 b.x.i2, sb] 31)) (w.heap.size + 1) [.int .i64 b.k, .int .i64 b.pr, .int .i64 b.to, .int .i64 b.po, .int .i64 b.x.v, .int .i64 b.x.m, .int .u8 b.x.b0, .int .u8 b.x.b1, .int .u8 b.x.b2, .int .u8 b.x.i0, .int .u8 b.x.i1, .int .u8 b.x.i2, sb] := by have := Vb.new 31 (w.alloc (.cells #[.int .i64 a.k, .int .i64 a.pr, .int .i64 a.to, .int .i64 a.po, .int .i64 a.x.v, .int .i64 a.x.m, .int .u8 a.x.b0, .int .u8 a.x.b1, .int .u8 a.x.b2, .int .u8 a.x.i0, .int .u8 a.x.i1, .int .u8 a.x.i2, sa] 31)) [.int .i64 b.k, .int .i64 b.pr, .int .i64 b.to, .int .i64 b.po, .int .i64 b.x.v, .int .i64 b.x.m, .int .u8 b.x.b0, .int .u8 b.x.b1, .int .u8 b.x.b2, .int .u8 b.x.i0, .int .u8 b.x.i1, .int .u8 b.x.i2, sb]; simpa using this
  have hB := below_two w (.cells #[.int .i64 a.k, .int .i64 a.pr, .int .i64 a.to, .int .i64 a.po, .int .i64 a.x.v, .int .i64 a.x.m, .int .u8 a.x.b0, .int .u8 a.x.b1, .int .u8 a.x.b2, .int .u8 a.x.i0, .int .u8 a.x.i1, .int .u8 a.x.i2, sa] 31) (.cells #[.int .i64 b.k, .int .i64 b.pr, .int .i64 b.to, .int .i64 b.po, .int .i64 b.x.v, .int .i64 b.x.m, .int .u8 b.x.b0, .int .u8 b.x.b1, .int .u8 b.x.b2, .int .u8 b.x.i0, .int .u8 b.x.i1, .int .u8 b.x.i2, sb] 31)
  by_cases h1 : a.k = 1
  · have hp := Kp.mk (show cmpR a b = _ from if_pos h1)
    have h1' : (a.k != 1) = false := by simpa using h1
    clear h1
    have hwr := Kp.mk (show wrap64 (-cmpI a.pr b.pr) = -cmpI a.pr b.pr by have := cmpI_bd a.pr b.pr; unfold wrap64; omega)
    have d0 := hx.cell 0 rfl
    go_enter Try.func99, Try.ntmps99
    go_wp2_with fail
    generalize (w.alloc (.cells #[.int .i64 a.k, .int .i64 a.pr, .int .i64 a.to, .int .i64 a.po, .int .i64 a.x.v, .int .i64 a.x.m, .int .u8 a.x.b0, .int .u8 a.x.b1, .int .u8 a.x.b2, .int .u8 a.x.i0, .int .u8 a.x.i1, .int .u8 a.x.i2, sa] 31)).alloc (.cells #[.int .i64 b.k, .int .i64 b.pr, .int .i64 b.to, .int .i64 b.po, .int .i64 b.x.v, .int .i64 b.x.m, .int .u8 b.x.b0, .int .u8 b.x.b1, .int .u8 b.x.b2, .int .u8 b.x.i0, .int .u8 b.x.i1, .int .u8 b.x.i2, sb] 31) = w0 at *
    refine (numC3 hx hy).mono ?_
    rintro e v ⟨rfl, hb⟩
    replace hx := hx.below hb hx.lt
    replace hy := hy.below hb hy.lt
    replace hB := hB.trans (hb.mono hB.size)
    clear hb
    have d0 := hx.cell 0 rfl
    go_wp2_with fail
    refine (numC5 hx hy).mono ?_
    rintro e v ⟨rfl, hb⟩
    replace hx := hx.below hb hx.lt
    replace hy := hy.below hb hy.lt
    replace hB := hB.trans (hb.mono hB.size)
    clear hb
    go_wp2_with fail
    refine (numC6 hx hy).mono ?_
    rintro e v ⟨rfl, hb⟩
    replace hx := hx.below hb hx.lt
    replace hy := hy.below hb hy.lt
    replace hB := hB.trans (hb.mono hB.size)
    clear hb
    go_wp2_with fail
    refine (numC7 hx hy).mono ?_
    rintro e v ⟨rfl, hb⟩
    replace hx := hx.below hb hx.lt
    replace hy := hy.below hb hy.lt
    replace hB := hB.trans (hb.mono hB.size)
    clear hb
    go_wp2_with fail
    refine (hdrC8 hx hy).mono ?_
    rintro e v ⟨rfl, hb⟩
    replace hx := hx.below hb hx.lt
    replace hy := hy.below hb hy.lt
    replace hB := hB.trans (hb.mono hB.size)
    clear hb
    go_wp2_with fail
    refine (hdrC9 hx hy).mono ?_
    rintro e v ⟨rfl, hb⟩
    replace hx := hx.below hb hx.lt
    replace hy := hy.below hb hy.lt
    replace hB := hB.trans (hb.mono hB.size)
    clear hb
    have hz := Vb.new 3 v ([cmpI a.k b.k, -cmpI a.pr b.pr, cmpI a.x.v b.x.v, cmpI a.x.m b.x.m, lex3 a.x.b0 a.x.b1 a.x.b2 b.x.b0 b.x.b1 b.x.b2, lex3 a.x.i0 a.x.i1 a.x.i2 b.x.i0 b.x.i1 b.x.i2].map (Value.int .i64))
    have hba := below_alloc v (.cells ([cmpI a.k b.k, -cmpI a.pr b.pr, cmpI a.x.v b.x.v, cmpI a.x.m b.x.m, lex3 a.x.b0 a.x.b1 a.x.b2 b.x.b0 b.x.b1 b.x.b2, lex3 a.x.i0 a.x.i1 a.x.i2 b.x.i0 b.x.i1 b.x.i2].map (Value.int .i64)).toArray 3)
    replace hB := hB.trans (hba.mono hB.size)
    go_wp2_with fail
    rw [hwr.out]
    refine (or_anyB [cmpI a.k b.k, -cmpI a.pr b.pr, cmpI a.x.v b.x.v, cmpI a.x.m b.x.m, lex3 a.x.b0 a.x.b1 a.x.b2 b.x.b0 b.x.b1 b.x.b2, lex3 a.x.i0 a.x.i1 a.x.i2 b.x.i0 b.x.i1 b.x.i2] (by simp) hz).mono ?_
    rintro e v1 ⟨rfl, hb⟩
    replace hB := hB.trans (hb.mono hB.size)
    clear hb
    go_wp2_with fail
    rw [hp.out]
    go_ret
    exact ⟨rfl, hB⟩
  · have hp := Kp.mk (show cmpR a b = _ from if_neg h1)
    have h1' : (a.k != 1) = true := by simpa using h1
    clear h1
    have d0 := hx.cell 0 rfl
    go_enter Try.func99, Try.ntmps99
    go_wp2_with fail
    generalize (w.alloc (.cells #[.int .i64 a.k, .int .i64 a.pr, .int .i64 a.to, .int .i64 a.po, .int .i64 a.x.v, .int .i64 a.x.m, .int .u8 a.x.b0, .int .u8 a.x.b1, .int .u8 a.x.b2, .int .u8 a.x.i0, .int .u8 a.x.i1, .int .u8 a.x.i2, sa] 31)).alloc (.cells #[.int .i64 b.k, .int .i64 b.pr, .int .i64 b.to, .int .i64 b.po, .int .i64 b.x.v, .int .i64 b.x.m, .int .u8 b.x.b0, .int .u8 b.x.b1, .int .u8 b.x.b2, .int .u8 b.x.i0, .int .u8 b.x.i1, .int .u8 b.x.i2, sb] 31) = w0 at *
    refine (numC3 hx hy).mono ?_
    rintro e v ⟨rfl, hb⟩
    replace hx := hx.below hb hx.lt
    replace hy := hy.below hb hy.lt
    replace hB := hB.trans (hb.mono hB.size)
    clear hb
    have d0 := hx.cell 0 rfl
    go_wp2_with fail
    refine (numC4 hx hy).mono ?_
    rintro e v ⟨rfl, hb⟩
    replace hx := hx.below hb hx.lt
    replace hy := hy.below hb hy.lt
    replace hB := hB.trans (hb.mono hB.size)
    clear hb
    have hz := Vb.new 3 v ([cmpI a.k b.k, cmpI a.to b.to].map (Value.int .i64))
    have hba := below_alloc v (.cells ([cmpI a.k b.k, cmpI a.to b.to].map (Value.int .i64)).toArray 3)
    replace hB := hB.trans (hba.mono hB.size)
    go_wp2_with fail
    refine (or_anyB [cmpI a.k b.k, cmpI a.to b.to] (by simp) hz).mono ?_
    rintro e v1 ⟨rfl, hb⟩
    replace hB := hB.trans (hb.mono hB.size)
    clear hb
    go_wp2_with fail
    rw [hp.out]
    go_ret
    exact ⟨rfl, hB⟩
end Go.Proofs.Ytcolklkjaifplaa.Oct
