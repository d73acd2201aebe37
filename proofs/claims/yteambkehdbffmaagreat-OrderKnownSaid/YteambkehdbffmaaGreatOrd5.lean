/- Contracts of layer 6: the laws' ruled. -/
import Derived.Test.YteambkehdbffmaaGreatOrdS
import Derived.Test.YteambkehdbffmaaGreatBits
import Derived.Test.YteambkehdbffmaaGreatBring
import Derived.Test.YteambkehdbffmaaGreatRgn
import Derived.StillTailTactics
import Derived.LoopN
namespace Go.Proofs.YteambkehdbffmaaGreat.Oct
open Go.RowKit
set_option linter.unusedVariables false
set_option linter.unusedSimpArgs false

/-- A rule that may be is answered, in memory that abides. -/
def RuledOf (w : World) (e : Ending) (w' : World) : Prop :=
  ∃ (r : RuleV) (A : Option Addr) (n c : Nat), e = .returned (.agg #[.int .i64 r.k, .int .i64 r.pr, .int .i64 r.to, .int .i64 r.po, .int .i64 r.x.v, .int .i64 r.x.m, .int .u8 r.x.b0, .int .u8 r.x.b1, .int .u8 r.x.b2, .int .u8 r.x.i0, .int .u8 r.x.i1, .int .u8 r.x.i2, .slice A n c]) ∧ Ron w' w.heap.size A n c r.os ∧ okR r ∧ u8M r.x ∧ Below w.heap.size w w'
theorem clr_and (i b : Int) : clr (bits .and .u8 i b) b = 0 := by
  unfold clr
  rw [V_0 (U_nt _ _)]
  simp only [V_an, V_nt, bv_iff]
  intro k hk
  simp only [BitVec.getLsbD_and, BitVec.getLsbD_zero, not_bit _ _ hk]
  cases (V i).getLsbD k <;> cases (V b).getLsbD k <;> rfl
theorem u8M_and {x : MaskV} (h8 : u8M x) (v m : Int) : u8M ⟨v, m, x.b0, x.b1, x.b2, bits .and .u8 x.i0 x.b0, bits .and .u8 x.i1 x.b1, bits .and .u8 x.i2 x.b2⟩ := by
  intro z hz
  simp only [List.mem_cons, List.not_mem_nil, or_false] at hz
  rcases hz with rfl | rfl | rfl | rfl | rfl | rfl
  · exact h8 _ (by simp)
  · exact h8 _ (by simp)
  · exact h8 _ (by simp)
  · exact U_an _ _
  · exact U_an _ _
  · exact U_an _ _
section
variable {T ty : TypeId} {w : World} {g off : Nat} {cs vs : List Value} {o : Oper} {a : Act} {K : Act → World → Prop} {Q : Exit → Act → World → Prop}
/-- A struct is stored into a block, inside a region that draws its order. -/
theorem wp_store_at (d : Option Tmp) (hd : o.dst = d) (x y : Operand) (ho : o.op = .store ty x y) (hx : a.eval x = .pointer (some ⟨g, off, none⟩)) (hy : a.eval y = .agg vs.toArray) (hv : Vb T w g cs) (hl : off + vs.length ≤ cs.length) (ht : Agg ty vs.length)
    (h1 : vs.all (·.oneCell') = true)
    (h : ∀ w', Vb T w' g (setAll cs off vs) → w.grownBy w' (some g) → w'.heap.size = w.heap.size → K (a.put d undef) w') : o.wp Tryz.prog a w K Q := by
  subst hd
  have hst := run_storeCells_vb T g vs 0 off cs w hv (by omega) h1
  have hi : (Tryz.prog.info? ty).map (·.size) = some vs.length := ht.2
  have hrun : (storeVar ty ⟨g, off, none⟩ (.agg vs.toArray)).run Tryz.prog w = .ok () (putC w g off vs) := by
    cases hq : Tryz.prog.info? ty with
    | none => simp [hq] at hi
    | some i =>
      have hs : vs.length = i.size := by simp [hq] at hi; omega
      simp [storeVar, sizeOf, typeInfo, hq, Value.cells, hs, hst]
  unfold Oper.wp execOp
  simp only [ho, hx, hy, Instr.storeAt, Instr.sureAddr, Sem.run_bind, Sem.run_pure, Result.andThen_ok, hrun]
  exact h _ (hv.putC vs off) (putC_grown g vs w off) (putC_size g vs w off)
end

set_option maxRecDepth 100000 in
set_option maxHeartbeats 8000000 in
theorem ruled_any {w : World} {B n c : Nat} {A : Option Addr} (r : RuleV) (h : Ro w B A n c r.os) (hB : B ≤ w.heap.size) (h8 : u8M r.x) : Calls Tryz.prog 50 #[.agg #[.int .i64 r.k, .int .i64 r.pr, .int .i64 r.to, .int .i64 r.po, .int .i64 r.x.v, .int .i64 r.x.m, .int .u8 r.x.b0, .int .u8 r.x.b1, .int .u8 r.x.b2, .int .u8 r.x.i0, .int .u8 r.x.i1, .int .u8 r.x.i2, .slice A n c]] w (RuledOf w) := by
  have hx : Vb 29 ((w.alloc (.cells #[.int .i64 r.k, .int .i64 r.pr, .int .i64 r.to, .int .i64 r.po, .int .i64 r.x.v, .int .i64 r.x.m, .int .u8 r.x.b0, .int .u8 r.x.b1, .int .u8 r.x.b2, .int .u8 r.x.i0, .int .u8 r.x.i1, .int .u8 r.x.i2, .slice A n c] 29)).alloc (.cells #[.int .i64 0, .int .i64 0, .int .i64 0, .int .i64 0, .int .i64 0, .int .i64 0, .int .u8 0, .int .u8 0, .int .u8 0, .int .u8 0, .int .u8 0, .int .u8 0, .slice none 0 0] 29)) w.heap.size [.int .i64 r.k, .int .i64 r.pr, .int .i64 r.to, .int .i64 r.po, .int .i64 r.x.v, .int .i64 r.x.m, .int .u8 r.x.b0, .int .u8 r.x.b1, .int .u8 r.x.b2, .int .u8 r.x.i0, .int .u8 r.x.i1, .int .u8 r.x.i2, .slice A n c] := (Vb.new 29 w [.int .i64 r.k, .int .i64 r.pr, .int .i64 r.to, .int .i64 r.po, .int .i64 r.x.v, .int .i64 r.x.m, .int .u8 r.x.b0, .int .u8 r.x.b1, .int .u8 r.x.b2, .int .u8 r.x.i0, .int .u8 r.x.i1, .int .u8 r.x.i2, .slice A n c]).alloc _
  have hv : Vb 29 ((w.alloc (.cells #[.int .i64 r.k, .int .i64 r.pr, .int .i64 r.to, .int .i64 r.po, .int .i64 r.x.v, .int .i64 r.x.m, .int .u8 r.x.b0, .int .u8 r.x.b1, .int .u8 r.x.b2, .int .u8 r.x.i0, .int .u8 r.x.i1, .int .u8 r.x.i2, .slice A n c] 29)).alloc (.cells #[.int .i64 0, .int .i64 0, .int .i64 0, .int .i64 0, .int .i64 0, .int .i64 0, .int .u8 0, .int .u8 0, .int .u8 0, .int .u8 0, .int .u8 0, .int .u8 0, .slice none 0 0] 29)) (w.heap.size + 1) [.int .i64 0, .int .i64 0, .int .i64 0, .int .i64 0, .int .i64 0, .int .i64 0, .int .u8 0, .int .u8 0, .int .u8 0, .int .u8 0, .int .u8 0, .int .u8 0, .slice none 0 0] := by have := Vb.new 29 (w.alloc (.cells #[.int .i64 r.k, .int .i64 r.pr, .int .i64 r.to, .int .i64 r.po, .int .i64 r.x.v, .int .i64 r.x.m, .int .u8 r.x.b0, .int .u8 r.x.b1, .int .u8 r.x.b2, .int .u8 r.x.i0, .int .u8 r.x.i1, .int .u8 r.x.i2, .slice A n c] 29)) [.int .i64 0, .int .i64 0, .int .i64 0, .int .i64 0, .int .i64 0, .int .i64 0, .int .u8 0, .int .u8 0, .int .u8 0, .int .u8 0, .int .u8 0, .int .u8 0, .slice none 0 0]; simpa using this
  have hb := below_two w (.cells #[.int .i64 r.k, .int .i64 r.pr, .int .i64 r.to, .int .i64 r.po, .int .i64 r.x.v, .int .i64 r.x.m, .int .u8 r.x.b0, .int .u8 r.x.b1, .int .u8 r.x.b2, .int .u8 r.x.i0, .int .u8 r.x.i1, .int .u8 r.x.i2, .slice A n c] 29) (.cells #[.int .i64 0, .int .i64 0, .int .i64 0, .int .i64 0, .int .i64 0, .int .i64 0, .int .u8 0, .int .u8 0, .int .u8 0, .int .u8 0, .int .u8 0, .int .u8 0, .slice none 0 0] 29)
  have hr := h.below' hb hB
  clear h
  generalize hP : RuledOf w = P
  go_enter Tryz.func50, Tryz.ntmps50
  go_upto_region 1 with fail
  generalize (w.alloc (.cells #[.int .i64 r.k, .int .i64 r.pr, .int .i64 r.to, .int .i64 r.po, .int .i64 r.x.v, .int .i64 r.x.m, .int .u8 r.x.b0, .int .u8 r.x.b1, .int .u8 r.x.b2, .int .u8 r.x.i0, .int .u8 r.x.i1, .int .u8 r.x.i2, .slice A n c] 29)).alloc (.cells #[.int .i64 0, .int .i64 0, .int .i64 0, .int .i64 0, .int .i64 0, .int .i64 0, .int .u8 0, .int .u8 0, .int .u8 0, .int .u8 0, .int .u8 0, .int .u8 0, .slice none 0 0] 29) = w0 at *
  have d0 := hx.cell 0 rfl
  by_cases hk : r.k.tmod 2 = 0
  · have hq : (r.k.tmod 2 == 0) = true := by simpa using hk
    go_upto_region 2 with fail
    clear d0 hq hk
    have b1 := Ser.bringP_bd r.to 7 (by omega)
    have b2 := Ser.bringP_bd r.po 5 (by omega)
    replace hb : Below w.heap.size w w0.drew := hb.drew
    have hlt := hv.lt
    replace hv : Vb 29 w0.drew (w.heap.size + 1) [.int .i64 0, .int .i64 0, .int .i64 0, .int .i64 0, .int .i64 0, .int .i64 0, .int .u8 0, .int .u8 0, .int .u8 0, .int .u8 0, .int .u8 0, .int .u8 0, .slice none 0 0] := hv
    have hS0 : (fun W => Vb 29 W w.heap.size [.int .i64 r.k, .int .i64 r.pr, .int .i64 r.to, .int .i64 r.po, .int .i64 r.x.v, .int .i64 r.x.m, .int .u8 r.x.b0, .int .u8 r.x.b1, .int .u8 r.x.b2, .int .u8 r.x.i0, .int .u8 r.x.i1, .int .u8 r.x.i2, .slice A n c]) w0.drew := hx
    refine wp_region_held_drew (S := fun W => Vb 29 W w.heap.size [.int .i64 r.k, .int .i64 r.pr, .int .i64 r.to, .int .i64 r.po, .int .i64 r.x.v, .int .i64 r.x.m, .int .u8 r.x.b0, .int .u8 r.x.b1, .int .u8 r.x.b2, .int .u8 r.x.i0, .int .u8 r.x.i1, .int .u8 r.x.i2, .slice A n c]) (by kernel_rfl) hS0 (fun _ => ?_)
    clear hx
    generalize w0.drew = u0 at *
    refine takeD (i := 0) (v := .pointer (some ⟨w.heap.size, 2, none⟩)) (some 12) rfl rfl (by kernel_rfl) (by kernel_rfl) (by kernel_rfl) (fun _ _ _ h => h) (Or.inl ⟨by rfl, ?_⟩) hS0 ?_
    · rintro w' _
      go_simp
    try simp only [Act.put, List.setIfInBounds_toArray, List.set_cons_zero, List.set_cons_succ]
    refine takeD (i := 1) (v := .int .i64 r.to) (some 13) rfl rfl (by kernel_rfl) (by kernel_rfl) (by kernel_rfl) (fun _ _ _ h => h) (Or.inl ⟨by rfl, ?_⟩) hS0 ?_
    · rintro w' s0
      have d0 := s0.cell 0 rfl
      have d1 := s0.cell 1 rfl
      have d2 := s0.cell 2 rfl
      have d3 := s0.cell 3 rfl
      have d4 := s0.cell 4 rfl
      have d5 := s0.cell 5 rfl
      have d6 := s0.cell 6 rfl
      have d7 := s0.cell 7 rfl
      have d8 := s0.cell 8 rfl
      have d9 := s0.cell 9 rfl
      have d10 := s0.cell 10 rfl
      have d11 := s0.cell 11 rfl
      have d12 := s0.cell 12 rfl
      go_simp
    try simp only [Act.put, List.setIfInBounds_toArray, List.set_cons_zero, List.set_cons_succ]
    refine takeD (i := 3) (v := .pointer (some ⟨w.heap.size, 3, none⟩)) (some 15) rfl rfl (by kernel_rfl) (by kernel_rfl) (by kernel_rfl) (fun _ _ _ h => h) (Or.inl ⟨by rfl, ?_⟩) hS0 ?_
    · rintro w' _
      go_simp
    try simp only [Act.put, List.setIfInBounds_toArray, List.set_cons_zero, List.set_cons_succ]
    refine takeD (i := 4) (v := .int .i64 r.po) (some 16) rfl rfl (by kernel_rfl) (by kernel_rfl) (by kernel_rfl) (fun _ _ _ h => h) (Or.inl ⟨by rfl, ?_⟩) hS0 ?_
    · rintro w' s0
      have d0 := s0.cell 0 rfl
      have d1 := s0.cell 1 rfl
      have d2 := s0.cell 2 rfl
      have d3 := s0.cell 3 rfl
      have d4 := s0.cell 4 rfl
      have d5 := s0.cell 5 rfl
      have d6 := s0.cell 6 rfl
      have d7 := s0.cell 7 rfl
      have d8 := s0.cell 8 rfl
      have d9 := s0.cell 9 rfl
      have d10 := s0.cell 10 rfl
      have d11 := s0.cell 11 rfl
      have d12 := s0.cell 12 rfl
      go_simp
    try simp only [Act.put, List.setIfInBounds_toArray, List.set_cons_zero, List.set_cons_succ]
    refine wpAnyH_ready (rs := [2]) (by kernel_rfl) (by simp) ?_
    refine AllReadyH.cons rfl (fun K hK => ?_) AllReadyH.nil
    try rw [if_pos (by rfl)]
    go_simp
    go_at_call 49
    refine (Ser.bring_any _ _ _ (by omega) (by omega)).mono ?_
    rintro e v ⟨rfl, rfl⟩
    refine hK.out _ _ hS0 (fun _ => ?_)
    clear hK K
    try simp only [Act.put, List.setIfInBounds_toArray, List.set_cons_zero, List.set_cons_succ]
    refine wpAnyH_ready (rs := [5]) (by kernel_rfl) (by simp) ?_
    refine AllReadyH.cons rfl (fun K hK => ?_) AllReadyH.nil
    try rw [if_pos (by rfl)]
    go_simp
    go_at_call 49
    refine (Ser.bring_any _ _ _ (by omega) (by omega)).mono ?_
    rintro e v ⟨rfl, rfl⟩
    refine hK.out _ _ hS0 (fun _ => ?_)
    clear hK K
    try simp only [Act.put, List.setIfInBounds_toArray, List.set_cons_zero, List.set_cons_succ]
    refine takeD (i := 6) (v := .agg #[.int .i64 2, .int .i64 0, .int .i64 (Ser.bringP r.to 7), .int .i64 (Ser.bringP r.po 5), .int .i64 0, .int .i64 0, .int .u8 0, .int .u8 0, .int .u8 0, .int .u8 0, .int .u8 0, .int .u8 0, .slice none 0 0]) (some 18) rfl rfl (by kernel_rfl) (by kernel_rfl) (by kernel_rfl) (fun _ _ _ h => h) (Or.inl ⟨by rfl, ?_⟩) hS0 ?_
    · rintro w' _
      go_simp
    try simp only [Act.put, List.setIfInBounds_toArray, List.set_cons_zero, List.set_cons_succ]
    refine wpAnyH_ready (rs := [7]) (by kernel_rfl) (by simp) ?_
    refine AllReadyH.cons rfl (fun K hK => ?_) AllReadyH.nil
    try rw [if_pos (by rfl)]
    refine wp_store_at (vs := [.int .i64 2, .int .i64 0, .int .i64 (Ser.bringP r.to 7), .int .i64 (Ser.bringP r.po 5), .int .i64 0, .int .i64 0, .int .u8 0, .int .u8 0, .int .u8 0, .int .u8 0, .int .u8 0, .int .u8 0, .slice none 0 0]) none rfl (.tmp 2) (.tmp 18) rfl rfl rfl hv (by simp) agg_rule rfl ?_
    intro u1 hv1 hg hz
    refine hK.out _ _ (hS0.grown hg (by omega)) (fun _ => ?_)
    clear hK K
    try simp only [Act.put, List.setIfInBounds_toArray, List.set_cons_zero, List.set_cons_succ]
    replace hv1 : Vb 29 u1 (w.heap.size + 1) [.int .i64 2, .int .i64 0, .int .i64 (Ser.bringP r.to 7), .int .i64 (Ser.bringP r.po 5), .int .i64 0, .int .i64 0, .int .u8 0, .int .u8 0, .int .u8 0, .int .u8 0, .int .u8 0, .int .u8 0, .slice none 0 0] := hv1
    refine wpAnyH_done (by kernel_rfl) ?_ _
    go_wp2_with fail
    refine bodyPost_ret (results_one Tryz.results50 _ rfl hv1 agg_rule) rfl ?_
    rw [← hP]
    refine ⟨⟨2, 0, Ser.bringP r.to 7, Ser.bringP r.po 5, noMask, []⟩, none, 0, 0, rfl, Ron.nil _ _, .inr ⟨rfl, ⟨b1.1, by simp only; omega⟩, ⟨b2.1, by simp only; omega⟩, rfl, ⟨rfl, rfl, rfl, rfl, rfl, rfl, rfl, rfl⟩, rfl⟩, byOf rfl, hb.grown hg (by have := hb.size; omega) (fun k e => by simp at e; omega)⟩
  have hq : (r.k.tmod 2 == 0) = false := by simpa using hk
  have d1 := hx.cell 1 rfl
  have b0 := Ser.bringP_bd r.pr 65536 (by omega)
  have b1 := Ser.bringP_bd r.x.v 201 (by omega)
  have b2 := Ser.bringP_bd r.x.m 6 (by omega)
  go_wp2_with fail
  refine (Ser.bring_any _ _ _ (by omega) (by omega)).mono ?_
  rintro e v ⟨rfl, rfl⟩
  clear d0 d1 hq hk
  generalize Ser.bringP r.pr 65536 = q1 at *
  have hlt := hv.lt
  go_upto_region 4 with (refine wpList_store_new (vs := [.int .i64 1, .int .i64 q1, .int .i64 0, .int .i64 0, .int .i64 0, .int .i64 0, .int .u8 0, .int .u8 0, .int .u8 0, .int .u8 0, .int .u8 0, .int .u8 0, .slice none 0 0]) rfl (.tmp 3) (.tmp 22) rfl rfl rfl rfl rfl rfl agg_rule rfl ?_; intro w1 hm hb2 hz2)
  replace hx := hx.below hb2 hx.lt
  replace hv := hv.below hb2 hv.lt
  replace hr := hr.below' hb2 (by omega)
  replace hb := hb.trans (hb2.mono hb.size)
  clear hb2 hz2
  generalize w0.heap.size = g at *
  replace hb : Below w.heap.size w w1.drew := hb.drew
  replace hv : Vb 29 w1.drew (w.heap.size + 1) [.int .i64 0, .int .i64 0, .int .i64 0, .int .i64 0, .int .i64 0, .int .i64 0, .int .u8 0, .int .u8 0, .int .u8 0, .int .u8 0, .int .u8 0, .int .u8 0, .slice none 0 0] := hv
  replace hr : Ro w1.drew B A n c r.os := hr.drew
  replace hm : Vb 29 w1.drew g [.int .i64 1, .int .i64 q1, .int .i64 0, .int .i64 0, .int .i64 0, .int .i64 0, .int .u8 0, .int .u8 0, .int .u8 0, .int .u8 0, .int .u8 0, .int .u8 0, .slice none 0 0] := hm
  have f1 : IntKind.i64.wrap (Ser.bringP r.x.m 6 - 1) = Ser.bringP r.x.m 6 - 1 := IntWalk.i64_in _ (by omega)
  have hS0 : (fun W => Vb 29 W w.heap.size [.int .i64 r.k, .int .i64 r.pr, .int .i64 r.to, .int .i64 r.po, .int .i64 r.x.v, .int .i64 r.x.m, .int .u8 r.x.b0, .int .u8 r.x.b1, .int .u8 r.x.b2, .int .u8 r.x.i0, .int .u8 r.x.i1, .int .u8 r.x.i2, .slice A n c]) w1.drew := hx
  refine wp_region_held_drew (S := fun W => Vb 29 W w.heap.size [.int .i64 r.k, .int .i64 r.pr, .int .i64 r.to, .int .i64 r.po, .int .i64 r.x.v, .int .i64 r.x.m, .int .u8 r.x.b0, .int .u8 r.x.b1, .int .u8 r.x.b2, .int .u8 r.x.i0, .int .u8 r.x.i1, .int .u8 r.x.i2, .slice A n c]) (by kernel_rfl) hS0 (fun _ => ?_)
  clear hx
  generalize w1.drew = u0 at *
  refine takeD (i := 0) (v := .pointer (some ⟨w.heap.size, 4, none⟩)) (some 23) rfl rfl (by kernel_rfl) (by kernel_rfl) (by kernel_rfl) (fun _ _ _ h => h) (Or.inl ⟨by rfl, ?_⟩) hS0 ?_
  · rintro w' _
    go_simp
  try simp only [Act.put, List.setIfInBounds_toArray, List.set_cons_zero, List.set_cons_succ]
  refine takeD (i := 1) (v := .pointer (some ⟨w.heap.size, 4, none⟩)) (some 24) rfl rfl (by kernel_rfl) (by kernel_rfl) (by kernel_rfl) (fun _ _ _ h => h) (Or.inl ⟨by rfl, ?_⟩) hS0 ?_
  · rintro w' _
    go_simp
  try simp only [Act.put, List.setIfInBounds_toArray, List.set_cons_zero, List.set_cons_succ]
  refine takeD (i := 2) (v := .int .i64 r.x.v) (some 25) rfl rfl (by kernel_rfl) (by kernel_rfl) (by kernel_rfl) (fun _ _ _ h => h) (Or.inl ⟨by rfl, ?_⟩) hS0 ?_
  · rintro w' s0
    have d0 := s0.cell 0 rfl
    have d1 := s0.cell 1 rfl
    have d2 := s0.cell 2 rfl
    have d3 := s0.cell 3 rfl
    have d4 := s0.cell 4 rfl
    have d5 := s0.cell 5 rfl
    have d6 := s0.cell 6 rfl
    have d7 := s0.cell 7 rfl
    have d8 := s0.cell 8 rfl
    have d9 := s0.cell 9 rfl
    have d10 := s0.cell 10 rfl
    have d11 := s0.cell 11 rfl
    have d12 := s0.cell 12 rfl
    go_simp
  try simp only [Act.put, List.setIfInBounds_toArray, List.set_cons_zero, List.set_cons_succ]
  refine takeD (i := 4) (v := .pointer (some ⟨w.heap.size, 4, none⟩)) (some 27) rfl rfl (by kernel_rfl) (by kernel_rfl) (by kernel_rfl) (fun _ _ _ h => h) (Or.inl ⟨by rfl, ?_⟩) hS0 ?_
  · rintro w' _
    go_simp
  try simp only [Act.put, List.setIfInBounds_toArray, List.set_cons_zero, List.set_cons_succ]
  refine takeD (i := 5) (v := .pointer (some ⟨w.heap.size, 5, none⟩)) (some 28) rfl rfl (by kernel_rfl) (by kernel_rfl) (by kernel_rfl) (fun _ _ _ h => h) (Or.inl ⟨by rfl, ?_⟩) hS0 ?_
  · rintro w' _
    go_simp
  try simp only [Act.put, List.setIfInBounds_toArray, List.set_cons_zero, List.set_cons_succ]
  refine takeD (i := 6) (v := .int .i64 r.x.m) (some 29) rfl rfl (by kernel_rfl) (by kernel_rfl) (by kernel_rfl) (fun _ _ _ h => h) (Or.inl ⟨by rfl, ?_⟩) hS0 ?_
  · rintro w' s0
    have d0 := s0.cell 0 rfl
    have d1 := s0.cell 1 rfl
    have d2 := s0.cell 2 rfl
    have d3 := s0.cell 3 rfl
    have d4 := s0.cell 4 rfl
    have d5 := s0.cell 5 rfl
    have d6 := s0.cell 6 rfl
    have d7 := s0.cell 7 rfl
    have d8 := s0.cell 8 rfl
    have d9 := s0.cell 9 rfl
    have d10 := s0.cell 10 rfl
    have d11 := s0.cell 11 rfl
    have d12 := s0.cell 12 rfl
    go_simp
  try simp only [Act.put, List.setIfInBounds_toArray, List.set_cons_zero, List.set_cons_succ]
  refine takeD (i := 9) (v := .pointer (some ⟨w.heap.size, 4, none⟩)) (some 32) rfl rfl (by kernel_rfl) (by kernel_rfl) (by kernel_rfl) (fun _ _ _ h => h) (Or.inl ⟨by rfl, ?_⟩) hS0 ?_
  · rintro w' _
    go_simp
  try simp only [Act.put, List.setIfInBounds_toArray, List.set_cons_zero, List.set_cons_succ]
  refine takeD (i := 10) (v := .pointer (some ⟨w.heap.size, 6, none⟩)) (some 33) rfl rfl (by kernel_rfl) (by kernel_rfl) (by kernel_rfl) (fun _ _ _ h => h) (Or.inl ⟨by rfl, ?_⟩) hS0 ?_
  · rintro w' _
    go_simp
  try simp only [Act.put, List.setIfInBounds_toArray, List.set_cons_zero, List.set_cons_succ]
  refine takeD (i := 11) (v := .agg #[.int .u8 r.x.b0, .int .u8 r.x.b1, .int .u8 r.x.b2]) (some 34) rfl rfl (by kernel_rfl) (by kernel_rfl) (by kernel_rfl) (fun _ _ _ h => h) (Or.inl ⟨by rfl, ?_⟩) hS0 ?_
  · rintro w' s0
    have d0 := s0.cell 0 rfl
    have d1 := s0.cell 1 rfl
    have d2 := s0.cell 2 rfl
    have d3 := s0.cell 3 rfl
    have d4 := s0.cell 4 rfl
    have d5 := s0.cell 5 rfl
    have d6 := s0.cell 6 rfl
    have d7 := s0.cell 7 rfl
    have d8 := s0.cell 8 rfl
    have d9 := s0.cell 9 rfl
    have d10 := s0.cell 10 rfl
    have d11 := s0.cell 11 rfl
    have d12 := s0.cell 12 rfl
    go_simp
  try simp only [Act.put, List.setIfInBounds_toArray, List.set_cons_zero, List.set_cons_succ]
  have hf36 := hm.lt
  refine wpAnyH_ready (rs := [3]) (by kernel_rfl) (by simp) ?_
  refine AllReadyH.cons rfl (fun K hK => ?_) AllReadyH.nil
  try rw [if_pos (by rfl)]
  go_simp
  go_at_call 49
  refine (Ser.bring_any _ _ _ (by omega) (by omega)).mono ?_
  rintro e v ⟨rfl, rfl⟩
  refine hK.out _ _ hS0 (fun _ => ?_)
  clear hK K
  try simp only [Act.put, List.setIfInBounds_toArray, List.set_cons_zero, List.set_cons_succ]
  refine wpAnyH_ready (rs := [7]) (by kernel_rfl) (by simp) ?_
  refine AllReadyH.cons rfl (fun K hK => ?_) AllReadyH.nil
  try rw [if_pos (by rfl)]
  go_simp
  go_at_call 49
  refine (Ser.bring_any _ _ _ (by omega) (by omega)).mono ?_
  rintro e v ⟨rfl, rfl⟩
  refine hK.out _ _ hS0 (fun _ => ?_)
  clear hK K
  try simp only [Act.put, List.setIfInBounds_toArray, List.set_cons_zero, List.set_cons_succ]
  refine takeD (i := 8) (v := .int .i64 (Ser.bringP r.x.m 6 - 1)) (some 31) rfl rfl (by kernel_rfl) (by kernel_rfl) (by kernel_rfl) (fun _ _ _ h => h) (Or.inl ⟨by rfl, ?_⟩) hS0 ?_
  · rintro w' _
    go_simp
  try simp only [Act.put, List.setIfInBounds_toArray, List.set_cons_zero, List.set_cons_succ]
  refine takeD (i := 12) (v := .agg #[.int .i64 (Ser.bringP r.x.v 201), .int .i64 (Ser.bringP r.x.m 6 - 1), .int .u8 r.x.b0, .int .u8 r.x.b1, .int .u8 r.x.b2, .int .u8 0, .int .u8 0, .int .u8 0]) (some 35) rfl rfl (by kernel_rfl) (by kernel_rfl) (by kernel_rfl) (fun _ _ _ h => h) (Or.inl ⟨by rfl, ?_⟩) hS0 ?_
  · rintro w' _
    go_simp
  try simp only [Act.put, List.setIfInBounds_toArray, List.set_cons_zero, List.set_cons_succ]
  refine takeD (i := 13) (v := .pointer (some ⟨g, 4, none⟩)) (some 36) rfl rfl (by kernel_rfl) (by kernel_rfl) (by kernel_rfl) (fun _ _ _ h => h) (Or.inl ⟨by rfl, ?_⟩) hS0 ?_
  · rintro w' _
    go_simp
  try simp only [Act.put, List.setIfInBounds_toArray, List.set_cons_zero, List.set_cons_succ]
  refine wpAnyH_ready (rs := [14]) (by kernel_rfl) (by simp) ?_
  refine AllReadyH.cons rfl (fun K hK => ?_) AllReadyH.nil
  try rw [if_pos (by rfl)]
  refine wp_store_at (vs := [.int .i64 (Ser.bringP r.x.v 201), .int .i64 (Ser.bringP r.x.m 6 - 1), .int .u8 r.x.b0, .int .u8 r.x.b1, .int .u8 r.x.b2, .int .u8 0, .int .u8 0, .int .u8 0]) none rfl (.tmp 36) (.tmp 35) rfl rfl rfl hm (by simp) agg_mask rfl ?_
  intro w2 hm2 hg hz
  have hx := hS0.grown hg (by omega)
  refine hK.out _ _ hx (fun _ => ?_)
  clear hK K
  try simp only [Act.put, List.setIfInBounds_toArray, List.set_cons_zero, List.set_cons_succ]
  replace hm2 : Vb 29 w2 g [.int .i64 1, .int .i64 q1, .int .i64 0, .int .i64 0, .int .i64 (Ser.bringP r.x.v 201), .int .i64 (Ser.bringP r.x.m 6 - 1), .int .u8 r.x.b0, .int .u8 r.x.b1, .int .u8 r.x.b2, .int .u8 0, .int .u8 0, .int .u8 0, .slice none 0 0] := hm2
  replace hv := hv.grown hg (by omega)
  have hbg : Below w.heap.size u0 w2 := (Below.refl _ _).grown hg (by have := hm.lt; omega) (fun k e => by simp at e; omega)
  replace hr := hr.below' hbg hB
  replace hb := hb.trans hbg
  have hz2 : g < w2.heap.size := hm2.lt
  clear hS0 hm hg hz hbg f1 hf36
  have b3 : -1 ≤ Ser.bringP r.x.m 6 - 1 ∧ Ser.bringP r.x.m 6 - 1 ≤ 4 := by omega
  clear b2
  generalize Ser.bringP r.x.v 201 = q2 at *
  generalize Ser.bringP r.x.m 6 - 1 = q3 at * 
  refine wpAnyH_done (by kernel_rfl) ?_ _
  go_wp2_with fail
  refine wp_loop_rounds (3 + 1) ?_
  rw [rounds_succ]
  have c1 := hx.cell 9 rfl
  have c2 := hx.cell 6 rfl
  have e1 := hm2.cell 9 rfl
  have hf := hm2.free
  go_upto_region 8 with fail
  go_still_tail 15, (by kernel_rfl)
  replace hx : Vb 29 w2.drew w.heap.size [.int .i64 r.k, .int .i64 r.pr, .int .i64 r.to, .int .i64 r.po, .int .i64 r.x.v, .int .i64 r.x.m, .int .u8 r.x.b0, .int .u8 r.x.b1, .int .u8 r.x.b2, .int .u8 r.x.i0, .int .u8 r.x.i1, .int .u8 r.x.i2, .slice A n c] := hx
  replace hv : Vb 29 w2.drew (w.heap.size + 1) [.int .i64 0, .int .i64 0, .int .i64 0, .int .i64 0, .int .i64 0, .int .i64 0, .int .u8 0, .int .u8 0, .int .u8 0, .int .u8 0, .int .u8 0, .int .u8 0, .slice none 0 0] := hv
  replace hr : Ro w2.drew B A n c r.os := hr.drew
  replace hb : Below w.heap.size w w2.drew := hb.drew
  have hn : Vb 29 w2.drew g [.int .i64 1, .int .i64 q1, .int .i64 0, .int .i64 0, .int .i64 q2, .int .i64 q3, .int .u8 r.x.b0, .int .u8 r.x.b1, .int .u8 r.x.b2, .int .u8 0, .int .u8 0, .int .u8 0, .slice none 0 0] := hm2
  clear c1 c2 e1 hf hm2
  change wpList _ _ _ _ _ w2.drew
  generalize w2.drew = wd0 at *
  have hf := hn.free
  have e1 := hn.cell 9 rfl
  have gb := (Below.refl w.heap.size wd0).setCell (p := ⟨g, 9, none⟩) (by simp; omega) (.int .u8 (bits .and .u8 r.x.i0 r.x.b0))
  replace hx := hx.other (r := g) (by omega) 9 (.int .u8 (bits .and .u8 r.x.i0 r.x.b0))
  replace hv := hv.other (r := g) (by omega) 9 (.int .u8 (bits .and .u8 r.x.i0 r.x.b0))
  replace hr := hr.below' gb hB
  replace hb := hb.trans gb
  have hm3 : Vb 29 (wd0.setCell ⟨g, 9, none⟩ (.int .u8 (bits .and .u8 r.x.i0 r.x.b0))) g [.int .i64 1, .int .i64 q1, .int .i64 0, .int .i64 0, .int .i64 q2, .int .i64 q3, .int .u8 r.x.b0, .int .u8 r.x.b1, .int .u8 r.x.b2, .int .u8 (bits .and .u8 r.x.i0 r.x.b0), .int .u8 0, .int .u8 0, .slice none 0 0] := hn.set 9 _
  clear hn gb
  go_wp2_with fail
  clear hf e1
  generalize wd0.setCell ⟨g, 9, none⟩ (.int .u8 (bits .and .u8 r.x.i0 r.x.b0)) = we0 at *
  rw [rounds_succ]
  have c1 := hx.cell 10 rfl
  have c2 := hx.cell 7 rfl
  have e1 := hm3.cell 10 rfl
  have hf := hm3.free
  go_upto_region 8 with fail
  go_still_tail 15, (by kernel_rfl)
  replace hx : Vb 29 we0.drew w.heap.size [.int .i64 r.k, .int .i64 r.pr, .int .i64 r.to, .int .i64 r.po, .int .i64 r.x.v, .int .i64 r.x.m, .int .u8 r.x.b0, .int .u8 r.x.b1, .int .u8 r.x.b2, .int .u8 r.x.i0, .int .u8 r.x.i1, .int .u8 r.x.i2, .slice A n c] := hx
  replace hv : Vb 29 we0.drew (w.heap.size + 1) [.int .i64 0, .int .i64 0, .int .i64 0, .int .i64 0, .int .i64 0, .int .i64 0, .int .u8 0, .int .u8 0, .int .u8 0, .int .u8 0, .int .u8 0, .int .u8 0, .slice none 0 0] := hv
  replace hr : Ro we0.drew B A n c r.os := hr.drew
  replace hb : Below w.heap.size w we0.drew := hb.drew
  have hn : Vb 29 we0.drew g [.int .i64 1, .int .i64 q1, .int .i64 0, .int .i64 0, .int .i64 q2, .int .i64 q3, .int .u8 r.x.b0, .int .u8 r.x.b1, .int .u8 r.x.b2, .int .u8 (bits .and .u8 r.x.i0 r.x.b0), .int .u8 0, .int .u8 0, .slice none 0 0] := hm3
  clear c1 c2 e1 hf hm3
  change wpList _ _ _ _ _ we0.drew
  generalize we0.drew = wd1 at *
  have hf := hn.free
  have e1 := hn.cell 10 rfl
  have gb := (Below.refl w.heap.size wd1).setCell (p := ⟨g, 10, none⟩) (by simp; omega) (.int .u8 (bits .and .u8 r.x.i1 r.x.b1))
  replace hx := hx.other (r := g) (by omega) 10 (.int .u8 (bits .and .u8 r.x.i1 r.x.b1))
  replace hv := hv.other (r := g) (by omega) 10 (.int .u8 (bits .and .u8 r.x.i1 r.x.b1))
  replace hr := hr.below' gb hB
  replace hb := hb.trans gb
  have hm4 : Vb 29 (wd1.setCell ⟨g, 10, none⟩ (.int .u8 (bits .and .u8 r.x.i1 r.x.b1))) g [.int .i64 1, .int .i64 q1, .int .i64 0, .int .i64 0, .int .i64 q2, .int .i64 q3, .int .u8 r.x.b0, .int .u8 r.x.b1, .int .u8 r.x.b2, .int .u8 (bits .and .u8 r.x.i0 r.x.b0), .int .u8 (bits .and .u8 r.x.i1 r.x.b1), .int .u8 0, .slice none 0 0] := hn.set 10 _
  clear hn gb
  go_wp2_with fail
  clear hf e1
  generalize wd1.setCell ⟨g, 10, none⟩ (.int .u8 (bits .and .u8 r.x.i1 r.x.b1)) = we1 at *
  rw [rounds_succ]
  have c1 := hx.cell 11 rfl
  have c2 := hx.cell 8 rfl
  have e1 := hm4.cell 11 rfl
  have hf := hm4.free
  go_upto_region 8 with fail
  go_still_tail 15, (by kernel_rfl)
  replace hx : Vb 29 we1.drew w.heap.size [.int .i64 r.k, .int .i64 r.pr, .int .i64 r.to, .int .i64 r.po, .int .i64 r.x.v, .int .i64 r.x.m, .int .u8 r.x.b0, .int .u8 r.x.b1, .int .u8 r.x.b2, .int .u8 r.x.i0, .int .u8 r.x.i1, .int .u8 r.x.i2, .slice A n c] := hx
  replace hv : Vb 29 we1.drew (w.heap.size + 1) [.int .i64 0, .int .i64 0, .int .i64 0, .int .i64 0, .int .i64 0, .int .i64 0, .int .u8 0, .int .u8 0, .int .u8 0, .int .u8 0, .int .u8 0, .int .u8 0, .slice none 0 0] := hv
  replace hr : Ro we1.drew B A n c r.os := hr.drew
  replace hb : Below w.heap.size w we1.drew := hb.drew
  have hn : Vb 29 we1.drew g [.int .i64 1, .int .i64 q1, .int .i64 0, .int .i64 0, .int .i64 q2, .int .i64 q3, .int .u8 r.x.b0, .int .u8 r.x.b1, .int .u8 r.x.b2, .int .u8 (bits .and .u8 r.x.i0 r.x.b0), .int .u8 (bits .and .u8 r.x.i1 r.x.b1), .int .u8 0, .slice none 0 0] := hm4
  clear c1 c2 e1 hf hm4
  change wpList _ _ _ _ _ we1.drew
  generalize we1.drew = wd2 at *
  have hf := hn.free
  have e1 := hn.cell 11 rfl
  have gb := (Below.refl w.heap.size wd2).setCell (p := ⟨g, 11, none⟩) (by simp; omega) (.int .u8 (bits .and .u8 r.x.i2 r.x.b2))
  replace hx := hx.other (r := g) (by omega) 11 (.int .u8 (bits .and .u8 r.x.i2 r.x.b2))
  replace hv := hv.other (r := g) (by omega) 11 (.int .u8 (bits .and .u8 r.x.i2 r.x.b2))
  replace hr := hr.below' gb hB
  replace hb := hb.trans gb
  have hm5 : Vb 29 (wd2.setCell ⟨g, 11, none⟩ (.int .u8 (bits .and .u8 r.x.i2 r.x.b2))) g [.int .i64 1, .int .i64 q1, .int .i64 0, .int .i64 0, .int .i64 q2, .int .i64 q3, .int .u8 r.x.b0, .int .u8 r.x.b1, .int .u8 r.x.b2, .int .u8 (bits .and .u8 r.x.i0 r.x.b0), .int .u8 (bits .and .u8 r.x.i1 r.x.b1), .int .u8 (bits .and .u8 r.x.i2 r.x.b2), .slice none 0 0] := hn.set 11 _
  clear hn gb
  go_wp2_with fail
  clear hf e1
  generalize wd2.setCell ⟨g, 11, none⟩ (.int .u8 (bits .and .u8 r.x.i2 r.x.b2)) = we2 at *
  rw [rounds_succ]
  have hO0 : Owo we2 (g + 1) (.slice none 0 0) 0 [] := Owo.nil _ _
  have hn := h8
  go_wp2_with fail
  go_loopw [5, 6, 7] (fun i _ _ wr => ∃ (k : Nat) (ok : List OutV) (Ak : Option Addr) (ck : Nat), k ≤ n ∧ k ≤ 8 ∧ i = .int .i64 k ∧ Kp (∀ x ∈ ok, okO x) ∧ Vb 29 wr w.heap.size [.int .i64 r.k, .int .i64 r.pr, .int .i64 r.to, .int .i64 r.po, .int .i64 r.x.v, .int .i64 r.x.m, .int .u8 r.x.b0, .int .u8 r.x.b1, .int .u8 r.x.b2, .int .u8 r.x.i0, .int .u8 r.x.i1, .int .u8 r.x.i2, .slice A n c] ∧ Vb 29 wr (w.heap.size + 1) [.int .i64 0, .int .i64 0, .int .i64 0, .int .i64 0, .int .i64 0, .int .i64 0, .int .u8 0, .int .u8 0, .int .u8 0, .int .u8 0, .int .u8 0, .int .u8 0, .slice none 0 0] ∧ Vb 29 wr g [.int .i64 1, .int .i64 q1, .int .i64 0, .int .i64 0, .int .i64 q2, .int .i64 q3, .int .u8 r.x.b0, .int .u8 r.x.b1, .int .u8 r.x.b2, .int .u8 (bits .and .u8 r.x.i0 r.x.b0), .int .u8 (bits .and .u8 r.x.i1 r.x.b1), .int .u8 (bits .and .u8 r.x.i2 r.x.b2), .slice Ak k ck] ∧ Owo wr (g + 1) (.slice Ak k ck) k ok ∧ Ro wr B A n c r.os ∧ Below w.heap.size w wr) (fun i _ _ _ => (8 - intOf i).toNat)
  case atStart => exact ⟨0, [], none, 0, by omega, by omega, rfl, Kp.mk (by simp), hx, hv, hm5, hO0, hr, hb⟩
  case round =>
    clear hx hv hm5 hO0 hr hb
    obtain ⟨k, ok, Ak, ck, hk1, hk2, rfl, HO, hx, hv, hm, hOw, hr, hb⟩ := hrel
    have c12 := hx.cell 12 rfl
    have hgl := hm.lt
    have hws := hb.size
    have hlen := hr.len
    by_cases j1 : (k : Int) < n
    rotate_left
    · go_wp2_with (first | (refine wpList_load_vb (vs := [.int .i64 1, .int .i64 q1, .int .i64 0, .int .i64 0, .int .i64 q2, .int .i64 q3, .int .u8 r.x.b0, .int .u8 r.x.b1, .int .u8 r.x.b2, .int .u8 (bits .and .u8 r.x.i0 r.x.b0), .int .u8 (bits .and .u8 r.x.i1 r.x.b1), .int .u8 (bits .and .u8 r.x.i2 r.x.b2), .slice Ak k ck]) rfl (.tmp 3) rfl rfl hm rfl agg_rule ?_) | (refine wpList_store_vb (vs := [.int .i64 1, .int .i64 q1, .int .i64 0, .int .i64 0, .int .i64 q2, .int .i64 q3, .int .u8 r.x.b0, .int .u8 r.x.b1, .int .u8 r.x.b2, .int .u8 (bits .and .u8 r.x.i0 r.x.b0), .int .u8 (bits .and .u8 r.x.i1 r.x.b1), .int .u8 (bits .and .u8 r.x.i2 r.x.b2), .slice Ak k ck]) rfl (.tmp 2) (.tmp 98) rfl rfl rfl hv rfl agg_rule rfl ?_; intro w9 hv9 hg9 hz9))
      refine bodyPost_ret (results_one Tryz.results50 _ rfl hv9 agg_rule) rfl ?_
      rw [← hP]
      exact ⟨⟨1, q1, 0, 0, ⟨q2, q3, r.x.b0, r.x.b1, r.x.b2, bits .and .u8 r.x.i0 r.x.b0, bits .and .u8 r.x.i1 r.x.b1, bits .and .u8 r.x.i2 r.x.b2⟩, ok⟩, Ak, k, ck, rfl, ((hOw.keep hg9 (by omega)).ron).lower (by omega), .inl ⟨rfl, ⟨b0.1, by simp only; omega⟩, rfl, rfl, ⟨⟨b1.1, by simp only; omega⟩, ⟨b3.1, b3.2⟩, clr_and _ _, clr_and _ _, clr_and _ _⟩, by have := hOw.len; simp only; omega, HO.out⟩, u8M_and h8 _ _, hb.grown hg9 (by omega) (fun k e => by simp at e; omega)⟩
    by_cases j2 : (k : Int) < 8
    rotate_left
    · go_wp2_with (first | (refine wpList_load_vb (vs := [.int .i64 1, .int .i64 q1, .int .i64 0, .int .i64 0, .int .i64 q2, .int .i64 q3, .int .u8 r.x.b0, .int .u8 r.x.b1, .int .u8 r.x.b2, .int .u8 (bits .and .u8 r.x.i0 r.x.b0), .int .u8 (bits .and .u8 r.x.i1 r.x.b1), .int .u8 (bits .and .u8 r.x.i2 r.x.b2), .slice Ak k ck]) rfl (.tmp 3) rfl rfl hm rfl agg_rule ?_) | (refine wpList_store_vb (vs := [.int .i64 1, .int .i64 q1, .int .i64 0, .int .i64 0, .int .i64 q2, .int .i64 q3, .int .u8 r.x.b0, .int .u8 r.x.b1, .int .u8 r.x.b2, .int .u8 (bits .and .u8 r.x.i0 r.x.b0), .int .u8 (bits .and .u8 r.x.i1 r.x.b1), .int .u8 (bits .and .u8 r.x.i2 r.x.b2), .slice Ak k ck]) rfl (.tmp 2) (.tmp 98) rfl rfl rfl hv rfl agg_rule rfl ?_; intro w9 hv9 hg9 hz9))
      refine bodyPost_ret (results_one Tryz.results50 _ rfl hv9 agg_rule) rfl ?_
      rw [← hP]
      exact ⟨⟨1, q1, 0, 0, ⟨q2, q3, r.x.b0, r.x.b1, r.x.b2, bits .and .u8 r.x.i0 r.x.b0, bits .and .u8 r.x.i1 r.x.b1, bits .and .u8 r.x.i2 r.x.b2⟩, ok⟩, Ak, k, ck, rfl, ((hOw.keep hg9 (by omega)).ron).lower (by omega), .inl ⟨rfl, ⟨b0.1, by simp only; omega⟩, rfl, rfl, ⟨⟨b1.1, by simp only; omega⟩, ⟨b3.1, b3.2⟩, clr_and _ _, clr_and _ _, clr_and _ _⟩, by have := hOw.len; simp only; omega, HO.out⟩, u8M_and h8 _ _, hb.grown hg9 (by omega) (fun k e => by simp at e; omega)⟩
    obtain ⟨bb, off, eA, hbB, hcell⟩ := hr.at_ (by omega)
    subst eA
    obtain ⟨oi, hoi⟩ : ∃ oi, r.os[k]? = some oi := ⟨_, List.getElem?_eq_getElem (by omega)⟩
    obtain ⟨p0, p1, p2, p3⟩ := hcell k oi hoi
    have s0 := Ser.bringP_bd oi.p 5 (by omega)
    have s1 := Ser.bringP_bd oi.a 257 (by omega)
    have s2 := Ser.bringP_bd oi.b 257 (by omega)
    have s3 := Ser.bringP_bd oi.c 257 (by omega)
    have f1 : IntKind.i64.wrap (Ser.bringP oi.a 257 - 1) = Ser.bringP oi.a 257 - 1 := IntWalk.i64_in _ (by omega)
    have f2 : IntKind.i64.wrap (Ser.bringP oi.b 257 - 1) = Ser.bringP oi.b 257 - 1 := IntWalk.i64_in _ (by omega)
    have f3 : IntKind.i64.wrap (Ser.bringP oi.c 257 - 1) = Ser.bringP oi.c 257 - 1 := IntWalk.i64_in _ (by omega)
    have F1 := Kp.mk f1
    have F2 := Kp.mk f2
    have F3 := Kp.mk f3
    clear f1 f2 f3 hcell
    have HS0 := Kp.mk s0
    clear s0
    go_wp2_with fail
    refine (Ser.bring_any _ _ _ (by omega) (by omega)).mono ?_
    rintro e v ⟨rfl, rfl⟩
    have hob : ∀ z, (Value.slice Ak k ck).ownBlock = some z → z < wr.heap.size := fun z hz => (World.ownsRow.lt hOw z hz).2
    go_upto_region 13 with (refine wpList_store_new (vs := [.int .i64 (Ser.bringP oi.p 5), .int .i64 0, .int .i64 0, .int .i64 0]) rfl (.tmp 6) (.tmp 74) rfl rfl rfl rfl rfl rfl agg_out rfl ?_; intro w5 ho hb5 hz5)
    have hlo := ho.lt
    replace p1 := (hb5.cell (p := ⟨bb, off + k * 4 + 1, none⟩) (by simp only; omega)).trans p1
    replace p2 := (hb5.cell (p := ⟨bb, off + k * 4 + 2, none⟩) (by simp only; omega)).trans p2
    replace p3 := (hb5.cell (p := ⟨bb, off + k * 4 + 3, none⟩) (by simp only; omega)).trans p3
    replace hx := hx.below hb5 hx.lt
    replace hv := hv.below hb5 hv.lt
    replace hm := hm.below hb5 hgl
    replace hOw := hOw.below hb5
    replace hr := hr.below' hb5 (by omega)
    replace hb := hb.trans (hb5.mono hws)
    replace c12 := hx.cell 12 rfl
    clear hb5 hz5 p0
    generalize wr.heap.size = g6 at *
    go_wp2_with fail
    refine wp_loop_rounds (3 + 1) ?_
    rw [rounds_succ]
    have hf := ho.free
    have e1 := ho.cell 1 rfl
    have fw := F1.out
    go_wp2_with fail
    refine (Ser.bring_any _ _ _ (by omega) (by omega)).mono ?_
    rintro e v ⟨rfl, rfl⟩
    have hn : Vb 32 (w5.setCell ⟨g6, 1, none⟩ (.int .i64 (Ser.bringP oi.a 257 - 1))) g6 [.int .i64 (Ser.bringP oi.p 5), .int .i64 (Ser.bringP oi.a 257 - 1), .int .i64 0, .int .i64 0] := ho.set 1 _
    have gb := (Below.refl g6 w5).setCell (p := ⟨g6, 1, none⟩) (by simp) (.int .i64 (Ser.bringP oi.a 257 - 1))
    have sx := hx.below gb (by omega)
    have sv := hv.below gb (by omega)
    have sm := hm.below gb (by omega)
    have sO := own_store hOw hob hgl (grownBy_set w5 g6 1 (.int .i64 (Ser.bringP oi.a 257 - 1)))
    have sr := hr.below' gb (by omega)
    have sb := hb.trans (gb.mono (by omega))
    have q1_ := (gb.cell (p := ⟨bb, off + k * 4 + 1, none⟩) (by simp only; omega)).trans p1
    have q2_ := (gb.cell (p := ⟨bb, off + k * 4 + 2, none⟩) (by simp only; omega)).trans p2
    have q3_ := (gb.cell (p := ⟨bb, off + k * 4 + 3, none⟩) (by simp only; omega)).trans p3
    clear hx hv hm hOw hr hb p1 p2 p3 c12 gb
    go_wp2_with fail
    clear hf e1 fw ho
    generalize w5.setCell ⟨g6, 1, none⟩ (.int .i64 (Ser.bringP oi.a 257 - 1)) = wf0 at *
    have ho := hn
    have hx := sx
    have hv := sv
    have hm := sm
    have hOw := sO
    have hr := sr
    have hb := sb
    have p1 := q1_
    have p2 := q2_
    have p3 := q3_
    have c12 := hx.cell 12 rfl
    clear hn sx sv sm sO sr sb q1_ q2_ q3_
    rw [rounds_succ]
    have hf := ho.free
    have e1 := ho.cell 2 rfl
    have fw := F2.out
    go_wp2_with fail
    refine (Ser.bring_any _ _ _ (by omega) (by omega)).mono ?_
    rintro e v ⟨rfl, rfl⟩
    have hn : Vb 32 (wf0.setCell ⟨g6, 2, none⟩ (.int .i64 (Ser.bringP oi.b 257 - 1))) g6 [.int .i64 (Ser.bringP oi.p 5), .int .i64 (Ser.bringP oi.a 257 - 1), .int .i64 (Ser.bringP oi.b 257 - 1), .int .i64 0] := ho.set 2 _
    have gb := (Below.refl g6 wf0).setCell (p := ⟨g6, 2, none⟩) (by simp) (.int .i64 (Ser.bringP oi.b 257 - 1))
    have sx := hx.below gb (by omega)
    have sv := hv.below gb (by omega)
    have sm := hm.below gb (by omega)
    have sO := own_store hOw hob hgl (grownBy_set wf0 g6 2 (.int .i64 (Ser.bringP oi.b 257 - 1)))
    have sr := hr.below' gb (by omega)
    have sb := hb.trans (gb.mono (by omega))
    have q1_ := (gb.cell (p := ⟨bb, off + k * 4 + 1, none⟩) (by simp only; omega)).trans p1
    have q2_ := (gb.cell (p := ⟨bb, off + k * 4 + 2, none⟩) (by simp only; omega)).trans p2
    have q3_ := (gb.cell (p := ⟨bb, off + k * 4 + 3, none⟩) (by simp only; omega)).trans p3
    clear hx hv hm hOw hr hb p1 p2 p3 c12 gb
    go_wp2_with fail
    clear hf e1 fw ho
    generalize wf0.setCell ⟨g6, 2, none⟩ (.int .i64 (Ser.bringP oi.b 257 - 1)) = wf1 at *
    have ho := hn
    have hx := sx
    have hv := sv
    have hm := sm
    have hOw := sO
    have hr := sr
    have hb := sb
    have p1 := q1_
    have p2 := q2_
    have p3 := q3_
    have c12 := hx.cell 12 rfl
    clear hn sx sv sm sO sr sb q1_ q2_ q3_
    rw [rounds_succ]
    have hf := ho.free
    have e1 := ho.cell 3 rfl
    have fw := F3.out
    go_wp2_with fail
    refine (Ser.bring_any _ _ _ (by omega) (by omega)).mono ?_
    rintro e v ⟨rfl, rfl⟩
    have hn : Vb 32 (wf1.setCell ⟨g6, 3, none⟩ (.int .i64 (Ser.bringP oi.c 257 - 1))) g6 [.int .i64 (Ser.bringP oi.p 5), .int .i64 (Ser.bringP oi.a 257 - 1), .int .i64 (Ser.bringP oi.b 257 - 1), .int .i64 (Ser.bringP oi.c 257 - 1)] := ho.set 3 _
    have gb := (Below.refl g6 wf1).setCell (p := ⟨g6, 3, none⟩) (by simp) (.int .i64 (Ser.bringP oi.c 257 - 1))
    have sx := hx.below gb (by omega)
    have sv := hv.below gb (by omega)
    have sm := hm.below gb (by omega)
    have sO := own_store hOw hob hgl (grownBy_set wf1 g6 3 (.int .i64 (Ser.bringP oi.c 257 - 1)))
    have sr := hr.below' gb (by omega)
    have sb := hb.trans (gb.mono (by omega))
    have q1_ := (gb.cell (p := ⟨bb, off + k * 4 + 1, none⟩) (by simp only; omega)).trans p1
    have q2_ := (gb.cell (p := ⟨bb, off + k * 4 + 2, none⟩) (by simp only; omega)).trans p2
    have q3_ := (gb.cell (p := ⟨bb, off + k * 4 + 3, none⟩) (by simp only; omega)).trans p3
    clear hx hv hm hOw hr hb p1 p2 p3 c12 gb
    go_wp2_with fail
    clear hf e1 fw ho
    generalize wf1.setCell ⟨g6, 3, none⟩ (.int .i64 (Ser.bringP oi.c 257 - 1)) = wf2 at *
    have ho := hn
    have hx := sx
    have hv := sv
    have hm := sm
    have hOw := sO
    have hr := sr
    have hb := sb
    have p1 := q1_
    have p2 := q2_
    have p3 := q3_
    have c12 := hx.cell 12 rfl
    clear hn sx sv sm sO sr sb q1_ q2_ q3_
    rw [rounds_succ]
    have hg6 : g6 < wf2.heap.size := ho.lt
    obtain ⟨d0, d1, d2, d3⟩ := ho.c4
    have d12 := hm.cell 12 rfl
    clear p1 p2 p3 c12
    have hrl : Ro (wf2.alloc (.cells #[.int .i64 (Ser.bringP oi.p 5), .int .i64 (Ser.bringP oi.a 257 - 1), .int .i64 (Ser.bringP oi.b 257 - 1), .int .i64 (Ser.bringP oi.c 257 - 1)] 32)) (wf2.heap.size + 1) (some ⟨wf2.heap.size, 0, none⟩) 1 1 [⟨Ser.bringP oi.p 5, Ser.bringP oi.a 257 - 1, Ser.bringP oi.b 257 - 1, Ser.bringP oi.c 257 - 1⟩] := by
      have h9 := (Ron.of_vb (lo := 0) (os := [(⟨Ser.bringP oi.p 5, Ser.bringP oi.a 257 - 1, Ser.bringP oi.b 257 - 1, Ser.bringP oi.c 257 - 1⟩ : OutV)]) (Vb.new 32 wf2 (([(⟨Ser.bringP oi.p 5, Ser.bringP oi.a 257 - 1, Ser.bringP oi.b 257 - 1, Ser.bringP oi.c 257 - 1⟩ : OutV)]).flatMap ocs)) (Nat.zero_le _) (by simp)).ro
      rw [alloc_size] at h9
      exact h9
    have hba := below_alloc wf2 (.cells #[.int .i64 (Ser.bringP oi.p 5), .int .i64 (Ser.bringP oi.a 257 - 1), .int .i64 (Ser.bringP oi.b 257 - 1), .int .i64 (Ser.bringP oi.c 257 - 1)] 32)
    have hOa := hOw.below hba
    have hxa := hx.below hba hx.lt
    have hva := hv.below hba hv.lt
    have hma := hm.below hba hm.lt
    have hra := hr.below' hba (by omega)
    have hBa := hb.trans (hba.mono hb.size)
    have hza : g < (wf2.alloc (.cells #[.int .i64 (Ser.bringP oi.p 5), .int .i64 (Ser.bringP oi.a 257 - 1), .int .i64 (Ser.bringP oi.b 257 - 1), .int .i64 (Ser.bringP oi.c 257 - 1)] 32)).heap.size := by simp; omega
    have hda := hma.cell 12 rfl
    have hfa := hma.free
    go_upto_region 11 with (at_builtin; refine wpList_appendO rfl (.tmp 93) (.tmp 95) rfl rfl hOa rfl hrl (by omega) (by omega) ?_; intro Ab cb t6 hO6 hb6 hg6_; have hD6 := hOa.other hg6_ hma (by omega); have hf6 := hD6.free; have hd6 := hD6.cell 12 rfl)
    have hx6 := hOa.other hg6_ hxa (by omega)
    have hv6 := hOa.other hg6_ hva (by omega)
    have hr6 := hra.below' hb6 (by omega)
    have hB6 := hBa.trans (hb6.mono (by omega))
    have hD7 : Vb 29 (t6.setCell ⟨g, 12, none⟩ (.slice Ab (k + 1) cb)) g [.int .i64 1, .int .i64 q1, .int .i64 0, .int .i64 0, .int .i64 q2, .int .i64 q3, .int .u8 r.x.b0, .int .u8 r.x.b1, .int .u8 r.x.b2, .int .u8 (bits .and .u8 r.x.i0 r.x.b0), .int .u8 (bits .and .u8 r.x.i1 r.x.b1), .int .u8 (bits .and .u8 r.x.i2 r.x.b2), .slice Ab (k + 1) cb] := hD6.set 12 (.slice Ab (k + 1) cb)
    have hgs := grownBy_set t6 g 12 (.slice Ab (k + 1) cb)
    have gb := (Below.refl w.heap.size t6).setCell (p := ⟨g, 12, none⟩) (by simp; omega) (.slice Ab (k + 1) cb)
    have hx7 := hx6.grown hgs (by omega)
    have hv7 := hv6.grown hgs (by omega)
    have hr7 := hr6.below' gb hB
    have hB7 := hB6.trans gb
    have hO7 := hO6.keep hgs (by omega)
    have HN : Kp (∀ x ∈ ok ++ [⟨Ser.bringP oi.p 5, Ser.bringP oi.a 257 - 1, Ser.bringP oi.b 257 - 1, Ser.bringP oi.c 257 - 1⟩], okO x) := Kp.mk (fun x hx => by
      rcases List.mem_append.1 hx with hx | hx
      · exact HO.out x hx
      · simp only [List.mem_singleton] at hx
        subst hx
        have s0 := HS0.out
        exact ⟨⟨s0.1, by simp only; omega⟩, ⟨by simp only; omega, by simp only; omega⟩, ⟨by simp only; omega, by simp only; omega⟩, ⟨by simp only; omega, by simp only; omega⟩⟩)
    generalize (t6.setCell ⟨g, 12, none⟩ (.slice Ab (k + 1) cb)) = t7 at *
    clear d0 d1 d2 d3 d12 hda hfa hf6 hd6 hD6 hgs hx6 hv6 hr6 hB6 hO6 hb6 hg6_ hx hv hm hOw hr hb ho hOa hxa hva hma hra hBa hba hrl gb
    go_wp2_with fail
    go_roundw
    case rel => exact ⟨k + 1, _, Ab, cb, by omega, by omega, by go_num, HN, hx7, hv7, hD7, hO7, hr7, hB7⟩
    case measure => simp [intOf]; omega
end Go.Proofs.YteambkehdbffmaaGreat.Oct
