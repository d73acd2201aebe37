/- The walk of OrderBytes. -/
import Derived.Test.YteambkehdbffmaaGreatOrdZ
import Derived.Test.YteambkehdbffmaaGreatOrdK
import Derived.Test.YteambkehdbffmaaGreatOrdT
import Derived.Test.YteambkehdbffmaaGreatOrdW
import Derived.Test.YteambkehdbffmaaGreatOrdI
import Derived.Test.YteambkehdbffmaaGreatRgn
import Derived.Deep.Cut
namespace Go.Proofs.YteambkehdbffmaaGreat.Oct
open Go.RowKit
set_option linter.unusedVariables false
set_option linter.unusedSimpArgs false

theorem exec_load_vb {o : Oper} {a : Act} {T ty : TypeId} {w : World} {g off : Nat} {cs vs : List Value} (x : Operand) (ho : o.op = .load ty x) (hx : a.eval x = .pointer (some ⟨g, off, none⟩)) (hv : Vb T w g cs) (hvs : (cs.drop off).take vs.length = vs) (ht : Agg ty vs.length) :
    (execOp a.eval o).run Tryz.prog w = .ok (.value (.agg vs.toArray)) w := by
  unfold execOp
  simp only [ho, hx, Instr.loadAt, Instr.sureAddr, Sem.run_bind, Sem.run_pure, Result.andThen_ok, run_loadVb hv hvs ht]
theorem Owo.empty {w : World} {base g : Nat} (h : Vb 32 w g []) (hb : base ≤ g) : Owo w base (.slice (some ⟨g, 0, none⟩) 0 0) 0 [] := ⟨rfl, .inr ⟨g, 0, #[], rfl, hb, h, Nat.le_refl _, Nat.zero_le _, rfl, rfl⟩⟩
def cutO (o : OrdV) (k : Nat) : OrdV := { o with r := { o.r with os := o.r.os.take k } }

set_option maxRecDepth 100000 in
set_option maxHeartbeats 8000000 in
theorem orderBytesL_any {w : World} {n c : Nat} {A : Option Addr} (o : OrdV) (h : Ro w w.heap.size A n c o.r.os) (h8 : u8M o.r.x) : Calls Tryz.prog 4 #[.agg #[.int .i64 o.k, .int .i64 o.n, .int .i64 o.m, .int .i64 o.r.k, .int .i64 o.r.pr, .int .i64 o.r.to, .int .i64 o.r.po, .int .i64 o.r.x.v, .int .i64 o.r.x.m, .int .u8 o.r.x.b0, .int .u8 o.r.x.b1, .int .u8 o.r.x.b2, .int .u8 o.r.x.i0, .int .u8 o.r.x.i1, .int .u8 o.r.x.i2, .slice A n c, .int .i64 o.f, .int .i64 o.p, .int .i64 o.t, .int .i64 o.q, .int .i64 o.z]] w fun e w' => e = .returned (.bool true) ∧ Below w.heap.size w w' := by
  have hx : Vb 37 (w.alloc (.cells #[.int .i64 o.k, .int .i64 o.n, .int .i64 o.m, .int .i64 o.r.k, .int .i64 o.r.pr, .int .i64 o.r.to, .int .i64 o.r.po, .int .i64 o.r.x.v, .int .i64 o.r.x.m, .int .u8 o.r.x.b0, .int .u8 o.r.x.b1, .int .u8 o.r.x.b2, .int .u8 o.r.x.i0, .int .u8 o.r.x.i1, .int .u8 o.r.x.i2, .slice A n c, .int .i64 o.f, .int .i64 o.p, .int .i64 o.t, .int .i64 o.q, .int .i64 o.z] 37)) w.heap.size (ocl o (.slice A n c)) := Vb.new 37 w (ocl o (.slice A n c))
  have hB := below_alloc w (.cells #[.int .i64 o.k, .int .i64 o.n, .int .i64 o.m, .int .i64 o.r.k, .int .i64 o.r.pr, .int .i64 o.r.to, .int .i64 o.r.po, .int .i64 o.r.x.v, .int .i64 o.r.x.m, .int .u8 o.r.x.b0, .int .u8 o.r.x.b1, .int .u8 o.r.x.b2, .int .u8 o.r.x.i0, .int .u8 o.r.x.i1, .int .u8 o.r.x.i2, .slice A n c, .int .i64 o.f, .int .i64 o.p, .int .i64 o.t, .int .i64 o.q, .int .i64 o.z] 37)
  have hr := h.below hB
  have hmax := h.max
  have hle := h.le
  have hcap := h.cap
  have hA := h.2.2.2.1
  clear h
  go_enter Tryz.func4, Tryz.ntmps4
  go_upto_region 1 with fail
  generalize w.alloc (.cells #[.int .i64 o.k, .int .i64 o.n, .int .i64 o.m, .int .i64 o.r.k, .int .i64 o.r.pr, .int .i64 o.r.to, .int .i64 o.r.po, .int .i64 o.r.x.v, .int .i64 o.r.x.m, .int .u8 o.r.x.b0, .int .u8 o.r.x.b1, .int .u8 o.r.x.b2, .int .u8 o.r.x.i0, .int .u8 o.r.x.i1, .int .u8 o.r.x.i2, .slice A n c, .int .i64 o.f, .int .i64 o.p, .int .i64 o.t, .int .i64 o.q, .int .i64 o.z] 37) = w0 at *
  have hc := hx.cell 15 rfl
  have hf := hx.free
  go_cut [] from 8 (fun wx => ∃ (A' : Option Addr) (k c' : Nat), k ≤ 20 ∧ Vb 37 wx w.heap.size (ocl o (.slice A' k c')) ∧ Ro wx w.heap.size A' k c' (o.r.os.take k) ∧ Below w.heap.size w wx)
  case first =>
    by_cases h20 : (n : Int) ≤ 20
    · go_wp2_with fail
      go_meet
      case rel => exact ⟨A, n, c, by omega, hx.set 15 _, (hr.pre n (Nat.le_refl _)).below ((Below.refl _ _).setCell (by simp) _), hB.setCell (by simp) _⟩
    · go_wp2_with fail
      go_meet
      case rel => exact ⟨A, 20, c, by omega, hx.set 15 _, (hr.pre 20 (by omega)).below ((Below.refl _ _).setCell (by simp) _), hB.setCell (by simp) _⟩
  case rest =>
    clear hx hB hr hc hf hA hmax hle hcap
    obtain ⟨A1, k, c1, hk, hx, hr, hB⟩ := hcut
    obtain ⟨o1, ho1⟩ : ∃ o1, o1 = cutO o k := ⟨_, rfl⟩
    replace hx : Vb 37 wc w.heap.size (ocl o1 (.slice A1 k c1)) := by subst ho1; exact hx
    replace hr : Ro wc w.heap.size A1 k c1 o1.r.os := by subst ho1; exact hr
    replace h8 : u8M o1.r.x := by subst ho1; exact h8
    clear ho1
    go_upto_region 3 with (first | refine wpList_load_vb (vs := ocl o1 (.slice A1 k c1)) rfl (.tmp 1) rfl rfl hx rfl agg_order ?_ | (refine wpList_store_new (vs := ocl o1 (.slice A1 k c1)) rfl (.tmp 3) (.tmp 19) rfl rfl rfl rfl rfl rfl agg_order rfl ?_; intro w2 hy hb2 hz2))
    have l2 := hx.lt
    replace hx := hx.below hb2 hx.lt
    replace hr := hr.below' hb2 (by omega)
    replace hB := hB.trans (hb2.mono hB.size)
    clear hb2 hz2
    generalize wc.heap.size = g at *
    have hOw : Owo (w2.alloc (.cells #[] 32)) w2.heap.size (.slice (some ⟨w2.heap.size, 0, none⟩) 0 0) 0 [] := Owo.empty (Vb.new 32 w2 []) (Nat.le_refl _)
    have ba := below_alloc w2 (.cells #[] 32)
    have l3 := hy.lt
    replace hx := hx.below ba hx.lt
    replace hy := hy.below ba hy.lt
    replace hr := hr.below' ba (by omega)
    replace hB := hB.trans (ba.mono hB.size)
    clear ba
    have lz : w2.heap.size < (w2.alloc (.cells #[] 32)).heap.size := by simp
    have hc := hx.cell 15 rfl
    go_upto_region 4 with (at_builtin; refine wpList_appendO rfl (.tmp 20) (.tmp 23) rfl rfl hOw rfl hr (by omega) (by omega) ?_; intro A2 c2 w4 hO hb4 hg4; have hy4 := hOw.other hg4 hy l3; have hx4 := hOw.other hg4 hx (by omega); have hf4 := hy4.free; have hd4 := hy4.cell 15 rfl)
    have hO4 : Owo w4 w2.heap.size (.slice A2 k c2) k o1.r.os := by simpa using hO
    have hx5 : Vb 37 (w4.setCell ⟨g, 15, none⟩ (.slice A2 k c2)) w.heap.size (ocl o1 (.slice A1 k c1)) := hx4.other (by omega) _ _
    have hy5 : Vb 37 (w4.setCell ⟨g, 15, none⟩ (.slice A2 k c2)) g (ocl o1 (.slice A2 k c2)) := hy4.set 15 _
    have hr5 := (hr.below' hb4 (by omega)).below ((Below.refl w.heap.size w4).setCell (p := ⟨g, 15, none⟩) (by simp; omega) (.slice A2 k c2))
    have hs5 := (hO4.keep (grownBy_set w4 g 15 (.slice A2 k c2)) l3).ron.1
    have hB5 := (hB.trans (hb4.mono (by omega))).setCell (p := ⟨g, 15, none⟩) (by simp; omega) (.slice A2 k c2)
    clear hOw hO hO4 hb4 hg4 hy4 hx4 hf4 hd4 hx hy hr hB hc lz
    generalize w4.setCell ⟨g, 15, none⟩ (.slice A2 k c2) = w5 at *
    have l4 : w.heap.size ≤ w5.heap.size := hB5.size
    have by1 := Kp.mk (bytesO_by o1 h8)
    go_wp2_with (refine wpList_load_vb (vs := ocl o1 (.slice A1 k c1)) rfl (.tmp 1) rfl rfl hx5 rfl agg_order ?_)
    refine (orderBytes_any o1 hr5 l4 h8).mono ?_
    intro e w6 hp
    obtain ⟨A3, n3, c3, rfl, ho3, hb⟩ := hp
    have hx6 := hx5.below hb hx5.lt
    have hy6 := hy5.below hb hy5.lt
    have hr6 := hr5.below' hb l4
    have hs6 := hs5.below' hb (Nat.le_refl _)
    have hB6 := hB5.trans (hb.mono hB5.size)
    have l5 := hb.size
    have ht6 := ho3.rd
    clear hx5 hy5 hr5 hs5 hB5 ho3 hb
    go_wp2_with (refine wpList_load_vb (vs := ocl o1 (.slice A2 k c2)) rfl (.tmp 3) rfl rfl hy6 rfl agg_order ?_)
    refine (refOrderBytes_any o1 hs6 l5 h8).mono ?_
    intro e w7 hp
    obtain ⟨A4, n4, c4, rfl, ho4, hb⟩ := hp
    have l6 := hb.size
    have hx7 := hx6.below hb hx6.lt
    have hy7 := hy6.below hb hy6.lt
    have hr7 := hr6.below' hb (by omega)
    have hs7 := hs6.below' hb l5
    have ht7 := ht6.below' hb (Nat.le_refl _)
    have hB7 := hB6.trans (hb.mono hB6.size)
    have hu7 := ho4.rd
    clear hx6 hy6 hr6 hs6 ht6 hB6 ho4 hb h8
    generalize bytesO o1 = X at *
    obtain ⟨lb, eb⟩ := X
    simp only at ht7 hu7 by1
    go_upto_region 6 with fail
    have hS0 : (fun W => Vb 37 W w.heap.size (ocl o1 (.slice A1 k c1)) ∧ Vb 37 W g (ocl o1 (.slice A2 k c2)) ∧ Ro W w.heap.size A1 k c1 o1.r.os ∧ Ro W w5.heap.size A2 k c2 o1.r.os ∧ Rd .u8 W w6.heap.size A3 n3 c3 lb ∧ Rd .u8 W w7.heap.size A4 n4 c4 lb ∧ w7.heap.size ≤ W.heap.size) w7.drew := ⟨hx7, hy7, hr7.drew, hs7.drew, ht7.drew, hu7.drew, Nat.le_refl _⟩
    replace hB7 : Below w.heap.size w w7.drew := hB7.drew
    have l7 : w6.heap.size ≤ w7.heap.size := l6
    clear hx7 hy7 hr7 hs7 ht7 hu7
    go_cut [58] from 37 (fun v wx => v = .bool false ∧ Vb 37 wx w.heap.size (ocl o1 (.slice A1 k c1)) ∧ Vb 37 wx g (ocl o1 (.slice A2 k c2)) ∧ Ro wx w.heap.size A1 k c1 o1.r.os ∧ Ro wx w5.heap.size A2 k c2 o1.r.os ∧ w7.heap.size ≤ wx.heap.size ∧ Below w.heap.size w wx)
    case first => as_aux_lemma =>
      have hsame := Kp.mk (show sameO o1 o1 = true from (sameO_iff _ _).2 rfl)
      have hee : (eb != eb) = false := by simp
      have hcc : (checkO o1 != checkO o1) = false := by simp
      refine wp_region_held_drew (S := fun W => Vb 37 W w.heap.size (ocl o1 (.slice A1 k c1)) ∧ Vb 37 W g (ocl o1 (.slice A2 k c2)) ∧ Ro W w.heap.size A1 k c1 o1.r.os ∧ Ro W w5.heap.size A2 k c2 o1.r.os ∧ Rd .u8 W w6.heap.size A3 n3 c3 lb ∧ Rd .u8 W w7.heap.size A4 n4 c4 lb ∧ w7.heap.size ≤ W.heap.size) (by kernel_rfl) hS0 (fun _ => ?_)
      generalize w7.drew = u0 at *
      refine takeD (i := 0) (v := .agg (ocl o1 (.slice A1 k c1) : List Value).toArray) (some 37) rfl rfl (by kernel_rfl) (by kernel_rfl) (by kernel_rfl) (fun _ _ _ h => h) (Or.inl ⟨by rfl, ?_⟩) hS0 ?_
      · rintro w' ⟨s1, s2, _⟩
        exact exec_load_vb (vs := ocl o1 (.slice A1 k c1)) (.tmp 1) rfl rfl s1 rfl agg_order
      try simp only [Act.put, List.setIfInBounds_toArray, List.set_cons_zero, List.set_cons_succ]
      refine takeD (i := 2) (v := .agg (ocl o1 (.slice A2 k c2) : List Value).toArray) (some 39) rfl rfl (by kernel_rfl) (by kernel_rfl) (by kernel_rfl) (fun _ _ _ h => h) (Or.inl ⟨by rfl, ?_⟩) hS0 ?_
      · rintro w' ⟨s1, s2, _⟩
        exact exec_load_vb (vs := ocl o1 (.slice A2 k c2)) (.tmp 3) rfl rfl s2 rfl agg_order
      try simp only [Act.put, List.setIfInBounds_toArray, List.set_cons_zero, List.set_cons_succ]
      refine wpAnyH_ready (rs := [1]) (by kernel_rfl) (by simp) ?_
      refine AllReadyH.cons rfl (fun K hK => ?_) AllReadyH.nil
      try rw [if_pos (by rfl)]
      go_simp
      go_at_call 11
      refine (orderCheck_any o1 hS0.2.2.1 (by have := hS0.2.2.2.2.2.2; omega)).mono ?_
      rintro e v1 ⟨rfl, hb1⟩
      have hT1 := hB7.trans (hb1.mono hB7.size)
      refine hK.out _ _ (⟨hS0.1.below hb1 hS0.1.lt, hS0.2.1.below hb1 hS0.2.1.lt, hS0.2.2.1.below' hb1 (by have := hS0.2.2.2.2.2.2; omega), hS0.2.2.2.1.below' hb1 (by have := hS0.2.2.2.2.2.2; omega), hS0.2.2.2.2.1.below' hb1 (by have := hS0.2.2.2.2.2.2; omega), hS0.2.2.2.2.2.1.below' hb1 (by have := hS0.2.2.2.2.2.2; omega), Nat.le_trans hS0.2.2.2.2.2.2 hb1.size⟩) (fun hS1 => ?_)
      clear hK K
      try simp only [Act.put, List.setIfInBounds_toArray, List.set_cons_zero, List.set_cons_succ]
      refine wpAnyH_ready (rs := [3]) (by kernel_rfl) (by simp) ?_
      refine AllReadyH.cons rfl (fun K hK => ?_) AllReadyH.nil
      try rw [if_pos (by rfl)]
      go_simp
      go_at_call 12
      refine (refOrderCheck_any o1 hS1.2.2.2.1 (by have := hS1.2.2.2.2.2.2; omega)).mono ?_
      rintro e v2 ⟨rfl, hb2⟩
      have hT2 := hT1.trans (hb2.mono hT1.size)
      refine hK.out _ _ (⟨hS1.1.below hb2 hS1.1.lt, hS1.2.1.below hb2 hS1.2.1.lt, hS1.2.2.1.below' hb2 (by have := hS1.2.2.2.2.2.2; omega), hS1.2.2.2.1.below' hb2 (by have := hS1.2.2.2.2.2.2; omega), hS1.2.2.2.2.1.below' hb2 (by have := hS1.2.2.2.2.2.2; omega), hS1.2.2.2.2.2.1.below' hb2 (by have := hS1.2.2.2.2.2.2; omega), Nat.le_trans hS1.2.2.2.2.2.2 hb2.size⟩) (fun hS2 => ?_)
      clear hK K
      try simp only [Act.put, List.setIfInBounds_toArray, List.set_cons_zero, List.set_cons_succ]
      refine takeD (i := 4) (v := .bool false) (some 41) rfl rfl (by kernel_rfl) (by kernel_rfl) (by kernel_rfl) (fun _ _ _ h => h) (Or.inl ⟨by rfl, ?_⟩) hS2 ?_
      · rintro w' _
        go_simp
      try simp only [Act.put, List.setIfInBounds_toArray, List.set_cons_zero, List.set_cons_succ]
      refine takeD (i := 5) (v := .bool false) (some 42) rfl rfl (by kernel_rfl) (by kernel_rfl) (by kernel_rfl) (fun _ _ _ h => h) (Or.inl ⟨by rfl, ?_⟩) hS2 ?_
      · rintro w' _
        go_simp
      try simp only [Act.put, List.setIfInBounds_toArray, List.set_cons_zero, List.set_cons_succ]
      refine takeD (i := 6) (v := .slice A3 n3 c3) (some 43) rfl rfl (by kernel_rfl) (by kernel_rfl) (by kernel_rfl) (fun _ _ _ h => h) (Or.inl ⟨by rfl, ?_⟩) hS2 ?_
      · rintro w' _
        go_simp
      try simp only [Act.put, List.setIfInBounds_toArray, List.set_cons_zero, List.set_cons_succ]
      refine takeD (i := 7) (v := .slice A4 n4 c4) (some 44) rfl rfl (by kernel_rfl) (by kernel_rfl) (by kernel_rfl) (fun _ _ _ h => h) (Or.inl ⟨by rfl, ?_⟩) hS2 ?_
      · rintro w' _
        go_simp
      try simp only [Act.put, List.setIfInBounds_toArray, List.set_cons_zero, List.set_cons_succ]
      refine wpAnyH_ready (rs := [8]) (by kernel_rfl) (by simp) ?_
      refine AllReadyH.cons rfl (fun K hK => ?_) AllReadyH.nil
      try rw [if_pos (by rfl)]
      go_simp
      go_at_call 13
      refine (eqBytes_any hS2.2.2.2.2.1 hS2.2.2.2.2.2.1 by1.out by1.out).mono ?_
      rw [show decide (lb = lb) = true from by simp]
      rintro e v3 ⟨rfl, rfl⟩
      refine hK.out _ _ hS2 (fun hS3 => ?_)
      clear hK K
      try simp only [Act.put, List.setIfInBounds_toArray, List.set_cons_zero, List.set_cons_succ]
      refine takeD (i := 9) (v := .bool false) (some 46) rfl rfl (by kernel_rfl) (by kernel_rfl) (by kernel_rfl) (fun _ _ _ h => h) (Or.inl ⟨by rfl, ?_⟩) hS3 ?_
      · rintro w' _
        go_simp
      try simp only [Act.put, List.setIfInBounds_toArray, List.set_cons_zero, List.set_cons_succ]
      refine takeD (i := 10) (v := .bool false) (some 47) rfl rfl (by kernel_rfl) (by kernel_rfl) (by kernel_rfl) (fun _ _ _ h => h) (Or.inl ⟨by rfl, ?_⟩) hS3 ?_
      · rintro w' _
        go_simp
      try simp only [Act.put, List.setIfInBounds_toArray, List.set_cons_zero, List.set_cons_succ]
      refine takeD (i := 11) (v := .bool false) (some 48) rfl rfl (by kernel_rfl) (by kernel_rfl) (by kernel_rfl) (fun _ _ _ h => h) (Or.inl ⟨by rfl, ?_⟩) hS3 ?_
      · rintro w' _
        go_simp
      try simp only [Act.put, List.setIfInBounds_toArray, List.set_cons_zero, List.set_cons_succ]
      refine takeD (i := 12) (v := .int .i64 eb) (some 49) rfl rfl (by kernel_rfl) (by kernel_rfl) (by kernel_rfl) (fun _ _ _ h => h) (Or.inl ⟨by rfl, ?_⟩) hS3 ?_
      · rintro w' _
        go_simp
      try simp only [Act.put, List.setIfInBounds_toArray, List.set_cons_zero, List.set_cons_succ]
      refine takeD (i := 13) (v := .int .i64 eb) (some 50) rfl rfl (by kernel_rfl) (by kernel_rfl) (by kernel_rfl) (fun _ _ _ h => h) (Or.inl ⟨by rfl, ?_⟩) hS3 ?_
      · rintro w' _
        go_simp
      try simp only [Act.put, List.setIfInBounds_toArray, List.set_cons_zero, List.set_cons_succ]
      refine takeD (i := 14) (v := .bool false) (some 51) rfl rfl (by kernel_rfl) (by kernel_rfl) (by kernel_rfl) (fun _ _ _ h => h) (Or.inl ⟨by rfl, ?_⟩) hS3 ?_
      · rintro w' _
        go_simp
      try simp only [Act.put, List.setIfInBounds_toArray, List.set_cons_zero, List.set_cons_succ]
      refine takeD (i := 15) (v := .bool false) (some 52) rfl rfl (by kernel_rfl) (by kernel_rfl) (by kernel_rfl) (fun _ _ _ h => h) (Or.inl ⟨by rfl, ?_⟩) hS3 ?_
      · rintro w' _
        go_simp
      try simp only [Act.put, List.setIfInBounds_toArray, List.set_cons_zero, List.set_cons_succ]
      refine takeD (i := 16) (v := .bool false) (some 53) rfl rfl (by kernel_rfl) (by kernel_rfl) (by kernel_rfl) (fun _ _ _ h => h) (Or.inl ⟨by rfl, ?_⟩) hS3 ?_
      · rintro w' _
        go_simp
      try simp only [Act.put, List.setIfInBounds_toArray, List.set_cons_zero, List.set_cons_succ]
      refine takeD (i := 17) (v := .agg (ocl o1 (.slice A1 k c1) : List Value).toArray) (some 54) rfl rfl (by kernel_rfl) (by kernel_rfl) (by kernel_rfl) (fun _ _ _ h => h) (Or.inl ⟨by rfl, ?_⟩) hS3 ?_
      · rintro w' ⟨s1, s2, _⟩
        exact exec_load_vb (vs := ocl o1 (.slice A1 k c1)) (.tmp 1) rfl rfl s1 rfl agg_order
      try simp only [Act.put, List.setIfInBounds_toArray, List.set_cons_zero, List.set_cons_succ]
      refine takeD (i := 18) (v := .agg (ocl o1 (.slice A2 k c2) : List Value).toArray) (some 55) rfl rfl (by kernel_rfl) (by kernel_rfl) (by kernel_rfl) (fun _ _ _ h => h) (Or.inl ⟨by rfl, ?_⟩) hS3 ?_
      · rintro w' ⟨s1, s2, _⟩
        exact exec_load_vb (vs := ocl o1 (.slice A2 k c2)) (.tmp 3) rfl rfl s2 rfl agg_order
      try simp only [Act.put, List.setIfInBounds_toArray, List.set_cons_zero, List.set_cons_succ]
      refine wpAnyH_ready (rs := [19]) (by kernel_rfl) (by simp) ?_
      refine AllReadyH.cons rfl (fun K hK => ?_) AllReadyH.nil
      try rw [if_pos (by rfl)]
      go_simp
      go_at_call 14
      refine (refSame_any hS3.2.2.1 (by have := hS3.2.2.2.2.2.2; omega) hS3.2.2.2.1 (by have := hS3.2.2.2.2.2.2; omega)).mono ?_
      rw [hsame.out]
      rintro e v4 ⟨rfl, hb4⟩
      have hT4 := hT2.trans (hb4.mono hT2.size)
      refine hK.out _ _ (⟨hS3.1.below hb4 hS3.1.lt, hS3.2.1.below hb4 hS3.2.1.lt, hS3.2.2.1.below' hb4 (by have := hS3.2.2.2.2.2.2; omega), hS3.2.2.2.1.below' hb4 (by have := hS3.2.2.2.2.2.2; omega), hS3.2.2.2.2.1.below' hb4 (by have := hS3.2.2.2.2.2.2; omega), hS3.2.2.2.2.2.1.below' hb4 (by have := hS3.2.2.2.2.2.2; omega), Nat.le_trans hS3.2.2.2.2.2.2 hb4.size⟩) (fun hS4 => ?_)
      clear hK K
      try simp only [Act.put, List.setIfInBounds_toArray, List.set_cons_zero, List.set_cons_succ]
      refine takeD (i := 20) (v := .bool false) (some 57) rfl rfl (by kernel_rfl) (by kernel_rfl) (by kernel_rfl) (fun _ _ _ h => h) (Or.inl ⟨by rfl, ?_⟩) hS4 ?_
      · rintro w' _
        go_simp
      try simp only [Act.put, List.setIfInBounds_toArray, List.set_cons_zero, List.set_cons_succ]
      refine takeD (i := 21) (v := .bool false) (some 58) rfl rfl (by kernel_rfl) (by kernel_rfl) (by kernel_rfl) (fun _ _ _ h => h) (Or.inl ⟨by rfl, ?_⟩) hS4 ?_
      · rintro w' _
        go_simp
      try simp only [Act.put, List.setIfInBounds_toArray, List.set_cons_zero, List.set_cons_succ]
      refine wpAnyH_done (by kernel_rfl) ?_ _
      go_wp2_with fail
      go_meet
      case rel => exact ⟨rfl, hS4.1, hS4.2.1, hS4.2.2.1, hS4.2.2.2.1, hS4.2.2.2.2.2.2, hT4⟩
    clear hS0 hB7
    obtain ⟨rfl, hx, hy, hr, hs, hle, hB⟩ := hcut
    go_upto_region 8 with fail
    have hS0 : (fun W => Vb 37 W w.heap.size (ocl o1 (.slice A1 k c1)) ∧ Vb 37 W g (ocl o1 (.slice A2 k c2)) ∧ Ro W w.heap.size A1 k c1 o1.r.os ∧ Ro W w5.heap.size A2 k c2 o1.r.os ∧ w7.heap.size ≤ W.heap.size) wc.drew := ⟨hx, hy, hr.drew, hs.drew, hle⟩
    replace hB7 : Below w.heap.size w wc.drew := hB.drew
    clear hx hy hr hs hle hB
    have hcc : (checkR o1.r == checkR o1.r) = true := by simp
    have hmm : (checkM o1.r.x == checkM o1.r.x) = true := by simp
    refine wp_region_held_drew (S := fun W => Vb 37 W w.heap.size (ocl o1 (.slice A1 k c1)) ∧ Vb 37 W g (ocl o1 (.slice A2 k c2)) ∧ Ro W w.heap.size A1 k c1 o1.r.os ∧ Ro W w5.heap.size A2 k c2 o1.r.os ∧ w7.heap.size ≤ W.heap.size) (by kernel_rfl) hS0 (fun _ => ?_)
    generalize wc.drew = u0 at *
    refine takeD (i := 0) (v := .pointer (some ⟨w.heap.size, 3, none⟩)) (some 59) rfl rfl (by kernel_rfl) (by kernel_rfl) (by kernel_rfl) (fun _ _ _ h => h) (Or.inl ⟨by rfl, ?_⟩) hS0 ?_
    · rintro w' _
      go_simp
    try simp only [Act.put, List.setIfInBounds_toArray, List.set_cons_zero, List.set_cons_succ]
    refine takeD (i := 1) (v := .agg ([.int .i64 o1.r.k, .int .i64 o1.r.pr, .int .i64 o1.r.to, .int .i64 o1.r.po, .int .i64 o1.r.x.v, .int .i64 o1.r.x.m, .int .u8 o1.r.x.b0, .int .u8 o1.r.x.b1, .int .u8 o1.r.x.b2, .int .u8 o1.r.x.i0, .int .u8 o1.r.x.i1, .int .u8 o1.r.x.i2, .slice A1 k c1] : List Value).toArray) (some 60) rfl rfl (by kernel_rfl) (by kernel_rfl) (by kernel_rfl) (fun _ _ _ h => h) (Or.inl ⟨by rfl, ?_⟩) hS0 ?_
    · rintro w' ⟨s1, s2, _⟩
      exact exec_load_vb (vs := [.int .i64 o1.r.k, .int .i64 o1.r.pr, .int .i64 o1.r.to, .int .i64 o1.r.po, .int .i64 o1.r.x.v, .int .i64 o1.r.x.m, .int .u8 o1.r.x.b0, .int .u8 o1.r.x.b1, .int .u8 o1.r.x.b2, .int .u8 o1.r.x.i0, .int .u8 o1.r.x.i1, .int .u8 o1.r.x.i2, .slice A1 k c1]) (.tmp 59) rfl rfl s1 rfl agg_rule
    try simp only [Act.put, List.setIfInBounds_toArray, List.set_cons_zero, List.set_cons_succ]
    refine takeD (i := 3) (v := .pointer (some ⟨g, 3, none⟩)) (some 62) rfl rfl (by kernel_rfl) (by kernel_rfl) (by kernel_rfl) (fun _ _ _ h => h) (Or.inl ⟨by rfl, ?_⟩) hS0 ?_
    · rintro w' _
      go_simp
    try simp only [Act.put, List.setIfInBounds_toArray, List.set_cons_zero, List.set_cons_succ]
    refine takeD (i := 4) (v := .agg ([.int .i64 o1.r.k, .int .i64 o1.r.pr, .int .i64 o1.r.to, .int .i64 o1.r.po, .int .i64 o1.r.x.v, .int .i64 o1.r.x.m, .int .u8 o1.r.x.b0, .int .u8 o1.r.x.b1, .int .u8 o1.r.x.b2, .int .u8 o1.r.x.i0, .int .u8 o1.r.x.i1, .int .u8 o1.r.x.i2, .slice A2 k c2] : List Value).toArray) (some 63) rfl rfl (by kernel_rfl) (by kernel_rfl) (by kernel_rfl) (fun _ _ _ h => h) (Or.inl ⟨by rfl, ?_⟩) hS0 ?_
    · rintro w' ⟨s1, s2, _⟩
      exact exec_load_vb (vs := [.int .i64 o1.r.k, .int .i64 o1.r.pr, .int .i64 o1.r.to, .int .i64 o1.r.po, .int .i64 o1.r.x.v, .int .i64 o1.r.x.m, .int .u8 o1.r.x.b0, .int .u8 o1.r.x.b1, .int .u8 o1.r.x.b2, .int .u8 o1.r.x.i0, .int .u8 o1.r.x.i1, .int .u8 o1.r.x.i2, .slice A2 k c2]) (.tmp 62) rfl rfl s2 rfl agg_rule
    try simp only [Act.put, List.setIfInBounds_toArray, List.set_cons_zero, List.set_cons_succ]
    refine wpAnyH_ready (rs := [2]) (by kernel_rfl) (by simp) ?_
    refine AllReadyH.cons rfl (fun K hK => ?_) AllReadyH.nil
    try rw [if_pos (by rfl)]
    go_simp
    go_at_call 5
    refine (ruleO_any o1.r hS0.2.2.1 (by have := hS0.2.2.2.2; omega)).mono ?_
    rintro e v1 ⟨rfl, hb1⟩
    have hT1 := hB7.trans (hb1.mono hB7.size)
    refine hK.out _ _ (⟨hS0.1.below hb1 hS0.1.lt, hS0.2.1.below hb1 hS0.2.1.lt, hS0.2.2.1.below' hb1 (by have := hS0.2.2.2.2; omega), hS0.2.2.2.1.below' hb1 (by have := hS0.2.2.2.2; omega), Nat.le_trans hS0.2.2.2.2 hb1.size⟩) (fun hS1 => ?_)
    clear hK K
    try simp only [Act.put, List.setIfInBounds_toArray, List.set_cons_zero, List.set_cons_succ]
    refine wpAnyH_ready (rs := [5]) (by kernel_rfl) (by simp) ?_
    refine AllReadyH.cons rfl (fun K hK => ?_) AllReadyH.nil
    try rw [if_pos (by rfl)]
    go_simp
    go_at_call 15
    refine (refRuleO_any o1.r hS1.2.2.2.1 (by have := hS1.2.2.2.2; omega)).mono ?_
    rintro e v2 ⟨rfl, hb2⟩
    have hT2 := hT1.trans (hb2.mono hT1.size)
    refine hK.out _ _ (⟨hS1.1.below hb2 hS1.1.lt, hS1.2.1.below hb2 hS1.2.1.lt, hS1.2.2.1.below' hb2 (by have := hS1.2.2.2.2; omega), hS1.2.2.2.1.below' hb2 (by have := hS1.2.2.2.2; omega), Nat.le_trans hS1.2.2.2.2 hb2.size⟩) (fun hS2 => ?_)
    clear hK K
    try simp only [Act.put, List.setIfInBounds_toArray, List.set_cons_zero, List.set_cons_succ]
    refine takeD (i := 6) (v := .bool true) (some 65) rfl rfl (by kernel_rfl) (by kernel_rfl) (by kernel_rfl) (fun _ _ _ h => h) (Or.inl ⟨by rfl, ?_⟩) hS2 ?_
    · rintro w' _
      go_simp
    try simp only [Act.put, List.setIfInBounds_toArray, List.set_cons_zero, List.set_cons_succ]
    refine takeD (i := 7) (v := .bool true) (some 66) rfl rfl (by kernel_rfl) (by kernel_rfl) (by kernel_rfl) (fun _ _ _ h => h) (Or.inl ⟨by rfl, ?_⟩) hS2 ?_
    · rintro w' _
      go_simp
    try simp only [Act.put, List.setIfInBounds_toArray, List.set_cons_zero, List.set_cons_succ]
    refine takeD (i := 8) (v := .pointer (some ⟨w.heap.size, 3, none⟩)) (some 67) rfl rfl (by kernel_rfl) (by kernel_rfl) (by kernel_rfl) (fun _ _ _ h => h) (Or.inl ⟨by rfl, ?_⟩) hS2 ?_
    · rintro w' _
      go_simp
    try simp only [Act.put, List.setIfInBounds_toArray, List.set_cons_zero, List.set_cons_succ]
    refine takeD (i := 9) (v := .pointer (some ⟨w.heap.size, 7, none⟩)) (some 68) rfl rfl (by kernel_rfl) (by kernel_rfl) (by kernel_rfl) (fun _ _ _ h => h) (Or.inl ⟨by rfl, ?_⟩) hS2 ?_
    · rintro w' _
      go_simp
    try simp only [Act.put, List.setIfInBounds_toArray, List.set_cons_zero, List.set_cons_succ]
    refine takeD (i := 10) (v := .agg ([.int .i64 o1.r.x.v, .int .i64 o1.r.x.m, .int .u8 o1.r.x.b0, .int .u8 o1.r.x.b1, .int .u8 o1.r.x.b2, .int .u8 o1.r.x.i0, .int .u8 o1.r.x.i1, .int .u8 o1.r.x.i2] : List Value).toArray) (some 69) rfl rfl (by kernel_rfl) (by kernel_rfl) (by kernel_rfl) (fun _ _ _ h => h) (Or.inl ⟨by rfl, ?_⟩) hS2 ?_
    · rintro w' ⟨s1, s2, _⟩
      exact exec_load_vb (vs := [.int .i64 o1.r.x.v, .int .i64 o1.r.x.m, .int .u8 o1.r.x.b0, .int .u8 o1.r.x.b1, .int .u8 o1.r.x.b2, .int .u8 o1.r.x.i0, .int .u8 o1.r.x.i1, .int .u8 o1.r.x.i2]) (.tmp 68) rfl rfl s1 rfl agg_mask
    try simp only [Act.put, List.setIfInBounds_toArray, List.set_cons_zero, List.set_cons_succ]
    refine takeD (i := 12) (v := .pointer (some ⟨g, 3, none⟩)) (some 71) rfl rfl (by kernel_rfl) (by kernel_rfl) (by kernel_rfl) (fun _ _ _ h => h) (Or.inl ⟨by rfl, ?_⟩) hS2 ?_
    · rintro w' _
      go_simp
    try simp only [Act.put, List.setIfInBounds_toArray, List.set_cons_zero, List.set_cons_succ]
    refine takeD (i := 13) (v := .pointer (some ⟨g, 7, none⟩)) (some 72) rfl rfl (by kernel_rfl) (by kernel_rfl) (by kernel_rfl) (fun _ _ _ h => h) (Or.inl ⟨by rfl, ?_⟩) hS2 ?_
    · rintro w' _
      go_simp
    try simp only [Act.put, List.setIfInBounds_toArray, List.set_cons_zero, List.set_cons_succ]
    refine takeD (i := 14) (v := .agg ([.int .i64 o1.r.x.v, .int .i64 o1.r.x.m, .int .u8 o1.r.x.b0, .int .u8 o1.r.x.b1, .int .u8 o1.r.x.b2, .int .u8 o1.r.x.i0, .int .u8 o1.r.x.i1, .int .u8 o1.r.x.i2] : List Value).toArray) (some 73) rfl rfl (by kernel_rfl) (by kernel_rfl) (by kernel_rfl) (fun _ _ _ h => h) (Or.inl ⟨by rfl, ?_⟩) hS2 ?_
    · rintro w' ⟨s1, s2, _⟩
      exact exec_load_vb (vs := [.int .i64 o1.r.x.v, .int .i64 o1.r.x.m, .int .u8 o1.r.x.b0, .int .u8 o1.r.x.b1, .int .u8 o1.r.x.b2, .int .u8 o1.r.x.i0, .int .u8 o1.r.x.i1, .int .u8 o1.r.x.i2]) (.tmp 72) rfl rfl s2 rfl agg_mask
    try simp only [Act.put, List.setIfInBounds_toArray, List.set_cons_zero, List.set_cons_succ]
    refine wpAnyH_ready (rs := [11]) (by kernel_rfl) (by simp) ?_
    refine AllReadyH.cons rfl (fun K hK => ?_) AllReadyH.nil
    try rw [if_pos (by rfl)]
    go_simp
    go_at_call 16
    refine (matchO_any o1.r.x _).mono ?_
    rintro e v3 ⟨rfl, hb3⟩
    have hT3 := hT2.trans (hb3.mono hT2.size)
    refine hK.out _ _ (⟨hS2.1.below hb3 hS2.1.lt, hS2.2.1.below hb3 hS2.2.1.lt, hS2.2.2.1.below' hb3 (by have := hS2.2.2.2.2; omega), hS2.2.2.2.1.below' hb3 (by have := hS2.2.2.2.2; omega), Nat.le_trans hS2.2.2.2.2 hb3.size⟩) (fun hS3 => ?_)
    clear hK K
    try simp only [Act.put, List.setIfInBounds_toArray, List.set_cons_zero, List.set_cons_succ]
    refine wpAnyH_ready (rs := [15]) (by kernel_rfl) (by simp) ?_
    refine AllReadyH.cons rfl (fun K hK => ?_) AllReadyH.nil
    try rw [if_pos (by rfl)]
    go_simp
    go_at_call 17
    refine (refMatchO_any o1.r.x _).mono ?_
    rintro e v4 ⟨rfl, hb4⟩
    have hT4 := hT3.trans (hb4.mono hT3.size)
    refine hK.out _ _ (⟨hS3.1.below hb4 hS3.1.lt, hS3.2.1.below hb4 hS3.2.1.lt, hS3.2.2.1.below' hb4 (by have := hS3.2.2.2.2; omega), hS3.2.2.2.1.below' hb4 (by have := hS3.2.2.2.2; omega), Nat.le_trans hS3.2.2.2.2 hb4.size⟩) (fun hS4 => ?_)
    clear hK K
    try simp only [Act.put, List.setIfInBounds_toArray, List.set_cons_zero, List.set_cons_succ]
    refine takeD (i := 16) (v := .bool true) (some 75) rfl rfl (by kernel_rfl) (by kernel_rfl) (by kernel_rfl) (fun _ _ _ h => h) (Or.inl ⟨by rfl, ?_⟩) hS4 ?_
    · rintro w' _
      go_simp
    try simp only [Act.put, List.setIfInBounds_toArray, List.set_cons_zero, List.set_cons_succ]
    refine takeD (i := 17) (v := .bool true) (some 76) rfl rfl (by kernel_rfl) (by kernel_rfl) (by kernel_rfl) (fun _ _ _ h => h) (Or.inl ⟨by rfl, ?_⟩) hS4 ?_
    · rintro w' _
      go_simp
    try simp only [Act.put, List.setIfInBounds_toArray, List.set_cons_zero, List.set_cons_succ]
    refine takeD (i := 18) (v := .bool true) (some 77) rfl rfl (by kernel_rfl) (by kernel_rfl) (by kernel_rfl) (fun _ _ _ h => h) (Or.inl ⟨by rfl, ?_⟩) hS4 ?_
    · rintro w' _
      go_simp
    try simp only [Act.put, List.setIfInBounds_toArray, List.set_cons_zero, List.set_cons_succ]
    refine wpAnyH_ready (rs := [19]) (by kernel_rfl) (by simp) ?_
    refine AllReadyH.cons rfl (fun K hK => ?_) AllReadyH.nil
    try rw [if_pos (by rfl)]
    go_simp
    go_at_call 6
    refine (worksO_any _).mono ?_
    rintro e v5 ⟨rfl, hb5⟩
    have hT5 := hT4.trans (hb5.mono hT4.size)
    refine hK.out _ _ (⟨hS4.1.below hb5 hS4.1.lt, hS4.2.1.below hb5 hS4.2.1.lt, hS4.2.2.1.below' hb5 (by have := hS4.2.2.2.2; omega), hS4.2.2.2.1.below' hb5 (by have := hS4.2.2.2.2; omega), Nat.le_trans hS4.2.2.2.2 hb5.size⟩) (fun hS5 => ?_)
    clear hK K
    try simp only [Act.put, List.setIfInBounds_toArray, List.set_cons_zero, List.set_cons_succ]
    refine takeD (i := 20) (v := .bool true) (some 79) rfl rfl (by kernel_rfl) (by kernel_rfl) (by kernel_rfl) (fun _ _ _ h => h) (Or.inl ⟨by rfl, ?_⟩) hS5 ?_
    · rintro w' _
      go_simp
    try simp only [Act.put, List.setIfInBounds_toArray, List.set_cons_zero, List.set_cons_succ]
    refine takeD (i := 21) (v := .bool true) (some 2) rfl rfl (by kernel_rfl) (by kernel_rfl) (by kernel_rfl) (fun _ _ _ h => h) (Or.inl ⟨by rfl, ?_⟩) hS5 ?_
    · rintro w' _
      go_simp
    try simp only [Act.put, List.setIfInBounds_toArray, List.set_cons_zero, List.set_cons_succ]
    refine wpAnyH_done (by kernel_rfl) ?_ _
    go_wp2_with fail
    go_ret
    exact ⟨rfl, hT5⟩
end Go.Proofs.YteambkehdbffmaaGreat.Oct
