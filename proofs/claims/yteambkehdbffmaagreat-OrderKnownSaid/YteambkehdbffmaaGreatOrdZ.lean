/- The chapter's orders: the functions has and works of the laws of layer 6. -/
import Derived.Test.YteambkehdbffmaaGreatOrdY
import Derived.Test.YteambkehdbffmaaGreatOrdJ
import Derived.Test.YteambkehdbffmaaGreatOrdX
import Derived.Test.YteambkehdbffmaaGreatFrame
namespace Go.Proofs.YteambkehdbffmaaGreat.Oct
open Go.RowKit
set_option linter.unusedVariables false
set_option linter.unusedSimpArgs false

set_option maxRecDepth 100000 in
set_option maxHeartbeats 1600000 in
theorem has_any {w : World} {B n c B2 n2 c2 : Nat} {A A2 : Option Addr} {want : List Int} (o : OrdV) (h : Ro w B A n c o.r.os) (hB : B ≤ w.heap.size) (h8 : u8M o.r.x) (hw : Rd .u8 w B2 A2 n2 c2 want) (hB2 : B2 ≤ w.heap.size) (hb : By want) (h0 : bytesO o = (want, 0)) :
    Calls Tryz.prog 20 #[.agg #[.int .i64 o.k, .int .i64 o.n, .int .i64 o.m, .int .i64 o.r.k, .int .i64 o.r.pr, .int .i64 o.r.to, .int .i64 o.r.po, .int .i64 o.r.x.v, .int .i64 o.r.x.m, .int .u8 o.r.x.b0, .int .u8 o.r.x.b1, .int .u8 o.r.x.b2, .int .u8 o.r.x.i0, .int .u8 o.r.x.i1, .int .u8 o.r.x.i2, .slice A n c, .int .i64 o.f, .int .i64 o.p, .int .i64 o.t, .int .i64 o.q, .int .i64 o.z], .slice A2 n2 c2] w fun e w' => e = .returned (.bool true) ∧ Below w.heap.size w w' := by
  have H0 := Kp.mk h0
  clear h0
  have hba := below_alloc w (.cells #[.int .i64 o.k, .int .i64 o.n, .int .i64 o.m, .int .i64 o.r.k, .int .i64 o.r.pr, .int .i64 o.r.to, .int .i64 o.r.po, .int .i64 o.r.x.v, .int .i64 o.r.x.m, .int .u8 o.r.x.b0, .int .u8 o.r.x.b1, .int .u8 o.r.x.b2, .int .u8 o.r.x.i0, .int .u8 o.r.x.i1, .int .u8 o.r.x.i2, .slice A n c, .int .i64 o.f, .int .i64 o.p, .int .i64 o.t, .int .i64 o.q, .int .i64 o.z] 37)
  have hza : w.heap.size < (w.alloc (.cells #[.int .i64 o.k, .int .i64 o.n, .int .i64 o.m, .int .i64 o.r.k, .int .i64 o.r.pr, .int .i64 o.r.to, .int .i64 o.r.po, .int .i64 o.r.x.v, .int .i64 o.r.x.m, .int .u8 o.r.x.b0, .int .u8 o.r.x.b1, .int .u8 o.r.x.b2, .int .u8 o.r.x.i0, .int .u8 o.r.x.i1, .int .u8 o.r.x.i2, .slice A n c, .int .i64 o.f, .int .i64 o.p, .int .i64 o.t, .int .i64 o.q, .int .i64 o.z] 37)).heap.size := by simp
  have hxa : Vb 37 (w.alloc (.cells #[.int .i64 o.k, .int .i64 o.n, .int .i64 o.m, .int .i64 o.r.k, .int .i64 o.r.pr, .int .i64 o.r.to, .int .i64 o.r.po, .int .i64 o.r.x.v, .int .i64 o.r.x.m, .int .u8 o.r.x.b0, .int .u8 o.r.x.b1, .int .u8 o.r.x.b2, .int .u8 o.r.x.i0, .int .u8 o.r.x.i1, .int .u8 o.r.x.i2, .slice A n c, .int .i64 o.f, .int .i64 o.p, .int .i64 o.t, .int .i64 o.q, .int .i64 o.z] 37)) w.heap.size (ocl o (.slice A n c)) := Vb.new 37 w (ocl o (.slice A n c))
  have ha := h.below' hba hB
  have hwa := hw.below' hba hB2
  go_enter Tryz.func20, Tryz.ntmps20
  go_upto_region 1 with fail
  generalize (w.alloc (.cells #[.int .i64 o.k, .int .i64 o.n, .int .i64 o.m, .int .i64 o.r.k, .int .i64 o.r.pr, .int .i64 o.r.to, .int .i64 o.r.po, .int .i64 o.r.x.v, .int .i64 o.r.x.m, .int .u8 o.r.x.b0, .int .u8 o.r.x.b1, .int .u8 o.r.x.b2, .int .u8 o.r.x.i0, .int .u8 o.r.x.i1, .int .u8 o.r.x.i2, .slice A n c, .int .i64 o.f, .int .i64 o.p, .int .i64 o.t, .int .i64 o.q, .int .i64 o.z] 37)) = wa at *
  go_wp2_with (refine wpList_load_vb (vs := ocl o (.slice A n c)) rfl (.tmp 2) rfl rfl hxa rfl agg_order ?_)
  refine (orderBytes_any o ha (by omega) h8).mono ?_
  rw [H0.out]
  rintro e w1 ⟨A1, n1, c1, rfl, ho1, hb1⟩
  go_wp2_with fail
  refine (eqBytes_any ho1.rd (hwa.below' hb1 (by omega)) hb hb).mono ?_
  rw [show decide (want = want) = true from by simp]
  rintro e w' ⟨rfl, rfl⟩
  go_wp2_with fail
  go_ret
  exact ⟨rfl, hba.trans (hb1.mono (by omega))⟩

def docR : RuleV := ⟨1, 9, 0, 0, ⟨0, -1, 0, 255, 0, 0, 5, 0⟩, [⟨2, -1, -1, 4⟩]⟩
def docO1 : OrdV := ⟨1, 0, 0, noRule, 0, 0, 0, 0, 0⟩
def docO2 : OrdV := ⟨5, 2, 258, noRule, 0, 0, 0, 0, 0⟩
def docO3 : OrdV := ⟨6, 5, 0, noRule, 0, 0, 0, 0, 0⟩
def docO4 : OrdV := ⟨2, 0, 0, ⟨2, 0, 3, 2, noMask, []⟩, 0, 0, 0, 0, 0⟩
def docO5 : OrdV := ⟨2, 0, 0, docR, 0, 0, 0, 0, 0⟩
theorem docB1 : bytesO docO1 = ([1], 0) := by decide +kernel
theorem docB2 : bytesO docO2 = ([5, 2, 1, 2], 0) := by decide +kernel
theorem docB3 : bytesO docO3 = ([6, 0, 0, 0, 5], 0) := by decide +kernel
theorem docB4 : bytesO docO4 = ([2, 2, 0, 0, 3, 2], 0) := by decide +kernel
theorem docB5 : bytesO docO5 = ([2, 1, 0, 9, 0, 0, 0, 0, 0, 255, 0, 0, 5, 0, 1, 2, 0, 0, 0, 0, 0, 5], 0) := by decide +kernel
theorem docP1 : parseO [6, 0] = (noOrd, 3) := by kernel_rfl
theorem docP2 : parseO [10] = (noOrd, 4) := by kernel_rfl
theorem docP3 : parseO [1, 0] = (noOrd, 4) := by kernel_rfl
theorem docRo (w : World) : Ro (w.alloc (.cells #[.int .i64 2, .int .i64 (-1), .int .i64 (-1), .int .i64 4] 32)) (w.heap.size + 1) (some ⟨w.heap.size, 0, none⟩) 1 1 docR.os := by
  have hv : Vb 32 (w.alloc (.cells #[.int .i64 2, .int .i64 (-1), .int .i64 (-1), .int .i64 4] 32)) w.heap.size [.int .i64 2, .int .i64 (-1), .int .i64 (-1), .int .i64 4] := Vb.new 32 w _
  refine ⟨rfl, Nat.le_refl _, by simp [maxLen], fun e => by simp at e, fun _ => ⟨w.heap.size, 0, rfl, by omega, fun j o hj => ?_⟩⟩
  rcases j with _ | j
  · simp only [docR, List.getElem?_cons_zero, Option.some.injEq] at hj
    subst hj
    exact hv.c4
  · simp [docR] at hj

set_option maxRecDepth 100000 in
set_option maxHeartbeats 4000000 in
theorem worksO_any (w : World) :
    Calls Tryz.prog 6 #[] w fun e w' => e = .returned (.bool true) ∧ Below w.heap.size w w' := by
  have r0 := docRo w
  have b0 := below_alloc w (.cells #[.int .i64 2, .int .i64 (-1), .int .i64 (-1), .int .i64 4] 32)
  have z0 : (w.alloc (.cells #[.int .i64 2, .int .i64 (-1), .int .i64 (-1), .int .i64 4] 32)).heap.size = w.heap.size + 1 := by simp
  go_enter Tryz.func6, Tryz.ntmps6
  go_upto_region 2 with (refine wpList_store_new (vs := [.int .i64 1, .int .i64 9, .int .i64 0, .int .i64 0, .int .i64 0, .int .i64 (-1), .int .u8 0, .int .u8 255, .int .u8 0, .int .u8 0, .int .u8 5, .int .u8 0, .slice (some ⟨w.heap.size, 0, none⟩) 1 1]) rfl (.tmp 1) (.tmp 16) rfl rfl rfl rfl (by simp) rfl agg_rule rfl ?_; intro v0 hx0 hb0 hz0)
  have r1 := r0.below' hb0 (by omega)
  have T0 := b0.trans (hb0.mono (by omega))
  have Z0 : w.heap.size + 1 < v0.heap.size := by omega
  clear r0 b0 hb0 z0 hz0

  go_wp2_with fail
  have hl := rd_lit .u8 v0 5 [1] (by simp [maxLen]) (v0.heap.size + 1) (by simp)
  have hbl := below_alloc v0 (.cells ([1].map (Value.int .u8)).toArray 5)
  refine (has_any (A := none) (n := 0) (c := 0) docO1 (Ro.nil _ 0) (Nat.zero_le _) (byOf rfl) hl (by simp) (byOf rfl) docB1).mono ?_
  rintro e v1 ⟨rfl, hbk⟩
  have hs : v0.heap.size < v1.heap.size := by have := hbk.size; simp at this; omega
  have hbt := hbl.trans (hbk.mono (by simp))
  have r2 := r1.below' hbt (by omega)
  have hx1 := hx0.below hbt (by omega)
  have T1 := T0.trans (hbt.mono (by omega))
  have Z1 : w.heap.size + 1 < v1.heap.size := by omega
  clear hl hbl hbk hbt r1 hx0 T0 hs Z0
  go_wp2_with fail
  have hl := rd_lit .u8 v1 5 [5, 2, 1, 2] (by simp [maxLen]) (v1.heap.size + 1) (by simp)
  have hbl := below_alloc v1 (.cells ([5, 2, 1, 2].map (Value.int .u8)).toArray 5)
  refine (has_any (A := none) (n := 0) (c := 0) docO2 (Ro.nil _ 0) (Nat.zero_le _) (byOf rfl) hl (by simp) (byOf rfl) docB2).mono ?_
  rintro e v2 ⟨rfl, hbk⟩
  have hs : v1.heap.size < v2.heap.size := by have := hbk.size; simp at this; omega
  have hbt := hbl.trans (hbk.mono (by simp))
  have r3 := r2.below' hbt (by omega)
  have hx2 := hx1.below hbt (by omega)
  have T2 := T1.trans (hbt.mono (by omega))
  have Z2 : w.heap.size + 1 < v2.heap.size := by omega
  clear hl hbl hbk hbt r2 hx1 T1 hs Z1
  go_wp2_with fail
  have hl := rd_lit .u8 v2 5 [6, 0, 0, 0, 5] (by simp [maxLen]) (v2.heap.size + 1) (by simp)
  have hbl := below_alloc v2 (.cells ([6, 0, 0, 0, 5].map (Value.int .u8)).toArray 5)
  refine (has_any (A := none) (n := 0) (c := 0) docO3 (Ro.nil _ 0) (Nat.zero_le _) (byOf rfl) hl (by simp) (byOf rfl) docB3).mono ?_
  rintro e v3 ⟨rfl, hbk⟩
  have hs : v2.heap.size < v3.heap.size := by have := hbk.size; simp at this; omega
  have hbt := hbl.trans (hbk.mono (by simp))
  have r4 := r3.below' hbt (by omega)
  have hx3 := hx2.below hbt (by omega)
  have T3 := T2.trans (hbt.mono (by omega))
  have Z3 : w.heap.size + 1 < v3.heap.size := by omega
  clear hl hbl hbk hbt r3 hx2 T2 hs Z2
  go_wp2_with fail
  have hl := rd_lit .u8 v3 5 [2, 2, 0, 0, 3, 2] (by simp [maxLen]) (v3.heap.size + 1) (by simp)
  have hbl := below_alloc v3 (.cells ([2, 2, 0, 0, 3, 2].map (Value.int .u8)).toArray 5)
  refine (has_any (A := none) (n := 0) (c := 0) docO4 (Ro.nil _ 0) (Nat.zero_le _) (byOf rfl) hl (by simp) (byOf rfl) docB4).mono ?_
  rintro e v4 ⟨rfl, hbk⟩
  have hs : v3.heap.size < v4.heap.size := by have := hbk.size; simp at this; omega
  have hbt := hbl.trans (hbk.mono (by simp))
  have r5 := r4.below' hbt (by omega)
  have hx4 := hx3.below hbt (by omega)
  have T4 := T3.trans (hbt.mono (by omega))
  have Z4 : w.heap.size + 1 < v4.heap.size := by omega
  clear hl hbl hbk hbt r4 hx3 T3 hs Z3
  go_upto_region 3 with fail
  have hl := rd_lit .u8 v4 5 [2, 1, 0, 9, 0, 0, 0, 0, 0, 255, 0, 0, 5, 0, 1, 2, 0, 0, 0, 0, 0, 5] (by simp [maxLen]) (v4.heap.size + 1) (by simp)
  have hbl := below_alloc v4 (.cells ([2, 1, 0, 9, 0, 0, 0, 0, 0, 255, 0, 0, 5, 0, 1, 2, 0, 0, 0, 0, 0, 5].map (Value.int .u8)).toArray 5)
  go_wp2_with (refine wpList_load_vb (vs := [.int .i64 1, .int .i64 9, .int .i64 0, .int .i64 0, .int .i64 0, .int .i64 (-1), .int .u8 0, .int .u8 255, .int .u8 0, .int .u8 0, .int .u8 5, .int .u8 0, .slice (some ⟨w.heap.size, 0, none⟩) 1 1]) rfl (.tmp 1) rfl rfl hx4 rfl agg_rule ?_)
  refine (has_any docO5 (r5.below' hbl (by omega)) (by simp; omega) (byOf rfl) hl (by simp) (byOf rfl) docB5).mono ?_
  rintro e v5 ⟨rfl, hbk⟩
  have T5 := T4.trans ((hbl.trans (hbk.mono (by simp))).mono (by omega))
  clear hl hbl hbk r5 hx4 T4

  have hl := rd_lit .u8 v5 5 [6, 0] (by simp [maxLen]) (v5.heap.size + 1) (by simp)
  have hbl := below_alloc v5 (.cells ([6, 0].map (Value.int .u8)).toArray 5)
  go_wp2_with fail
  refine (orderParse_any hl (byOf rfl) (by simp) (by simp)).mono ?_
  rw [docP1]
  rintro e u1 ⟨S1, n1, c1, rfl, hro1, hbk⟩
  have hbt := hbl.trans (hbk.mono (by simp))
  have hst := T5.size
  have hsu := hbt.size
  go_upto_region 5 with (refine wpList_store_new (vs := ocl noOrd (.slice S1 n1 c1)) rfl (.tmp 4) (.tmp 43) rfl rfl rfl rfl rfl rfl agg_order rfl ?_; intro v6 hxn hbn hzn)
  have T6 := (T5.trans (hbt.mono hst)).trans (hbn.mono (by omega))
  clear hl hbl hbk hbt hro1 hxn hzn hbn hst hsu T5

  have hl := rd_lit .u8 v6 5 [10] (by simp [maxLen]) (v6.heap.size + 1) (by simp)
  have hbl := below_alloc v6 (.cells ([10].map (Value.int .u8)).toArray 5)
  go_wp2_with fail
  refine (orderParse_any hl (byOf rfl) (by simp) (by simp)).mono ?_
  rw [docP2]
  rintro e u2 ⟨S2, n2, c2, rfl, hro2, hbk⟩
  have hbt := hbl.trans (hbk.mono (by simp))
  have hst := T6.size
  have hsu := hbt.size
  go_upto_region 6 with (refine wpList_store_new (vs := ocl noOrd (.slice S2 n2 c2)) rfl (.tmp 6) (.tmp 48) rfl rfl rfl rfl rfl rfl agg_order rfl ?_; intro v7 hxn hbn hzn)
  have T7 := (T6.trans (hbt.mono hst)).trans (hbn.mono (by omega))
  clear hl hbl hbk hbt hro2 hxn hzn hbn hst hsu T6

  have hl := rd_lit .u8 v7 5 [1, 0] (by simp [maxLen]) (v7.heap.size + 1) (by simp)
  have hbl := below_alloc v7 (.cells ([1, 0].map (Value.int .u8)).toArray 5)
  go_wp2_with fail
  refine (orderParse_any hl (byOf rfl) (by simp) (by simp)).mono ?_
  rw [docP3]
  rintro e u3 ⟨S3, n3, c3, rfl, hro3, hbk⟩
  have hbt := hbl.trans (hbk.mono (by simp))
  have hst := T7.size
  have hsu := hbt.size
  go_upto_region 7 with (refine wpList_store_new (vs := ocl noOrd (.slice S3 n3 c3)) rfl (.tmp 8) (.tmp 53) rfl rfl rfl rfl rfl rfl agg_order rfl ?_; intro v8 hxn hbn hzn)
  have T8 := (T7.trans (hbt.mono hst)).trans (hbn.mono (by omega))
  clear hl hbl hbk hbt hro3 hxn hzn hbn hst hsu T7

  go_wp2_with fail
  go_ret
  exact ⟨rfl, T8⟩

set_option maxRecDepth 100000 in
set_option maxHeartbeats 4000000 in
theorem orderParses_any {w : World} {A : Option Addr} {n c : Nat} {l : List Int} (h : Rd .u8 w w.heap.size A n c l) (hl : By l) (hc : n ≤ 140737488351232) :
    Calls Tryz.prog 8 #[.slice A n c] w fun e w' => e = .returned (.bool true) ∧ Below w.heap.size w w' := by
  have H1 := Kp.mk (fun (w1 : World) (A1 : Option Addr) (n1 c1 : Nat) (B : Nat) (h : Rd .u8 w1 B A1 n1 c1 l) (hB : B ≤ w1.heap.size) (hn : n1 ≤ 140737488355328) => orderParse_any h hl hB hn)
  have H2 := Kp.mk (fun (w1 : World) (A1 : Option Addr) (n1 c1 : Nat) (B : Nat) (h : Rd .u8 w1 B A1 n1 c1 l) (hB : B ≤ w1.heap.size) (hn : n1 ≤ 140737488355328) => refOrderParse_any h hl hB hn)
  generalize parseO l = X at *
  obtain ⟨o, e0⟩ := X
  simp only at H1 H2
  have hself := Kp.mk ((sameO_iff o o).2 rfl)
  go_enter Tryz.func8, Tryz.ntmps8
  go_wp2_with fail
  refine (copyBytes_any h (by omega)).mono ?_
  rintro e w1 ⟨A1, n1, c1, rfl, ho1, t1⟩
  have hn1 : n1 = n := by have := ho1.len; have := h.len; omega
  subst hn1
  have z1 := t1.size
  have r1 := ho1.rd
  have rb1 := (h.below t1).more z1
  clear ho1
  go_wp2_with fail
  refine (H1.out _ _ _ _ _ r1 (Nat.le_refl _) (by omega)).mono ?_
  rintro e w2 ⟨S2, n2, c2, rfl, ho2, t2⟩
  have z2 := t2.size
  go_upto_region 3 with (refine wpList_store_new (vs := ocl o (.slice S2 n2 c2)) rfl (.tmp 4) (.tmp 13) rfl rfl rfl rfl rfl rfl agg_order rfl ?_; intro w3 hx3 hb3 hz3)
  have ho3 := ho2.below hb3
  have t3 := t2.trans (hb3.mono z2)
  have z3 : w2.heap.size < w3.heap.size := by omega
  clear ho2 hb3 hz3 t2
  go_wp2_with fail
  refine (H2.out _ _ _ _ _ (rb1.below t3) (by omega) (by omega)).mono ?_
  rintro e w4 ⟨S4, n4, c4, rfl, ho4, t4⟩
  have z4 := t4.size
  have hx4 := hx3.below t4 (by omega)
  have hr4 := ho3.below t4
  have t5 := t3.trans (t4.mono (by omega))
  clear hx3 ho3 t3 t4
  go_upto_region 4 with (refine wpList_store_new (vs := ocl o (.slice S4 n4 c4)) rfl (.tmp 6) (.tmp 18) rfl rfl rfl rfl rfl rfl agg_order rfl ?_; intro w5 hy5 hb5 hz5)
  have ho5 := hr4.below hb5
  have hp5 := ho4.below hb5
  have hx5 := hx4.below hb5 (by omega)
  have t6 := t5.trans (hb5.mono (by omega))
  have z5 : w4.heap.size < w5.heap.size := by omega
  clear hr4 ho4 hx4 hb5 t5 hz5
  go_wp2_with (first | (refine wpList_load_vb (vs := ocl o (.slice S2 n2 c2)) rfl (.tmp 4) rfl rfl hx5 rfl agg_order ?_) | (refine wpList_load_vb (vs := ocl o (.slice S4 n4 c4)) rfl (.tmp 6) rfl rfl hy5 rfl agg_order ?_))
  refine (refSame_any ho5.ro (Nat.le_refl _) hp5.ro (Nat.le_refl _)).mono ?_
  rw [hself.out]
  rintro e w6 ⟨rfl, t7⟩
  have T6 := t6.trans (t7.mono (by omega))
  have z6 := t7.size
  clear hx5 hy5 ho5 hp5 t6 t7
  go_wp2_with fail
  refine (eqBytes_any (r1.below T6) (rb1.below T6) hl hl).mono ?_
  rw [show decide (l = l) = true from by simp]
  rintro e w' ⟨rfl, rfl⟩
  go_wp2_with fail
  refine (worksO_any _).mono ?_
  rintro e w9 ⟨rfl, hb9⟩
  go_wp2_with fail
  go_ret
  exact ⟨rfl, t1.trans ((T6.trans (hb9.mono (by omega))).mono z1)⟩

end Go.Proofs.YteambkehdbffmaaGreat.Oct
