/- Contracts of layer 6: an order is read, the document's. Contracts of layer 6: Parse, the document's. -/
import Derived.Test.YteambkehdbffmaaGreatOrdS
import Derived.Test.YteambkehdbffmaaGreatOrdR
import Derived.Test.YteambkehdbffmaaGreatOrdG
namespace Go.Proofs.YteambkehdbffmaaGreat.Oct
open Go.RowKit
set_option linter.unusedVariables false
set_option linter.unusedSimpArgs false

theorem refText_eq {w : World} {lo g : Nat} {l l' t : List Int} {e e' : Int} (h : Rdr 112 w lo g l e) (hq : tx (l, e) = (t, (l', e'))) :
    Calls Tryz.prog 84 #[.pointer (some ⟨g, 0, none⟩)] w (SliceRdr 112 w lo g t l' e') := by
  have := refText_anyM h
  change textR l e = (t, (l', e')) at hq
  rw [hq] at this
  exact this
/-- An order is read, and whether it is one; if nothing was wrong it is this one, and if it is none it may not be. -/
def TakeRdr (w : World) (lo g : Nat) (o : OrdV) (l : List Int) (e : Int) (en : Ending) (w' : World) : Prop :=
  ∃ (o2 : OrdV) (fine : Bool) (S : Option Addr) (n c : Nat), (e = 0 → o2 = o ∧ (fine = false → ¬ okOrd o)) ∧ en = .returned (.tuple #[.agg #[.int .i64 o2.k, .int .i64 o2.n, .int .i64 o2.m, .int .i64 o2.r.k, .int .i64 o2.r.pr, .int .i64 o2.r.to, .int .i64 o2.r.po, .int .i64 o2.r.x.v, .int .i64 o2.r.x.m, .int .u8 o2.r.x.b0, .int .u8 o2.r.x.b1, .int .u8 o2.r.x.b2, .int .u8 o2.r.x.i0, .int .u8 o2.r.x.i1, .int .u8 o2.r.x.i2, .slice S n c, .int .i64 o2.f, .int .i64 o2.p, .int .i64 o2.t, .int .i64 o2.q, .int .i64 o2.z], .bool fine]) ∧ Ron w' w.heap.size S n c o2.r.os ∧ Rdr 112 w' lo g l e ∧ w.grownBy w' (some g)
theorem parseQ_none {t : List Int} (h : (parseQ t).2 ≠ 0) (k : Int) (hk : k = 8) : ¬ okOrd { noOrd with k := k, f := (parseQ t).1.1, p := (parseQ t).1.2.1, t := (parseQ t).1.2.2.1, q := (parseQ t).1.2.2.2.1, z := (parseQ t).1.2.2.2.2 } := by
  intro hh
  have hp := hh.2.2
  unfold okPr at hp
  rw [if_pos hk, parseQ_bad h] at hp
  have := hp.1.1
  simp only at this
  omega
set_option maxRecDepth 100000 in
set_option maxHeartbeats 3200000 in
theorem tk_4 {w : World} {lo g : Nat} {l l1 l' : List Int} {e e1 e' k : Int} {o : OrdV} (hR : Rdr 112 w lo g l e) (h1 : nu 1 (l, e) = (k, (l1, e1))) (h2 : restRd k (l1, e1) = (o, (l', e'))) (hk : k = 4) : Calls Tryz.prog 52 #[.pointer (some ⟨g, 0, none⟩)] w (TakeRdr w lo g o l' e') := by
  subst hk
  rw [restRd_4] at h2
  rcases q1 : nu 1 (l1, e1) with ⟨x, l2, e2⟩
  rw [bnd_eq q1] at h2
  simp only [rt, Prod.mk.injEq] at h2
  obtain ⟨rfl, rfl, rfl⟩ := h2
  have h2 : True := trivial
  have Q1 := Kp.mk q1
  clear q1
  have hlt := hR.lt
  have H1 := Kp.mk h1
  have H2 := Kp.mk h2
  clear h1 h2
  have hz0 : w.heap.size < (w.alloc (.cells #[.int .i64 0, .int .i64 0, .int .i64 0, .int .i64 0, .int .i64 0, .int .i64 0, .int .i64 0, .int .i64 0, .int .i64 0, .int .u8 0, .int .u8 0, .int .u8 0, .int .u8 0, .int .u8 0, .int .u8 0, .slice none 0 0, .int .i64 0, .int .i64 0, .int .i64 0, .int .i64 0, .int .i64 0] 37)).heap.size := by simp
  have hG0 : w.grownBy (w.alloc (.cells #[.int .i64 0, .int .i64 0, .int .i64 0, .int .i64 0, .int .i64 0, .int .i64 0, .int .i64 0, .int .i64 0, .int .i64 0, .int .u8 0, .int .u8 0, .int .u8 0, .int .u8 0, .int .u8 0, .int .u8 0, .slice none 0 0, .int .i64 0, .int .i64 0, .int .i64 0, .int .i64 0, .int .i64 0] 37)) (some g) := grown_alloc w _ g
  have hR0 := hR.below (below_alloc w (.cells #[.int .i64 0, .int .i64 0, .int .i64 0, .int .i64 0, .int .i64 0, .int .i64 0, .int .i64 0, .int .i64 0, .int .i64 0, .int .u8 0, .int .u8 0, .int .u8 0, .int .u8 0, .int .u8 0, .int .u8 0, .slice none 0 0, .int .i64 0, .int .i64 0, .int .i64 0, .int .i64 0, .int .i64 0] 37))
  have hv0 : Vb 37 (w.alloc (.cells #[.int .i64 0, .int .i64 0, .int .i64 0, .int .i64 0, .int .i64 0, .int .i64 0, .int .i64 0, .int .i64 0, .int .i64 0, .int .u8 0, .int .u8 0, .int .u8 0, .int .u8 0, .int .u8 0, .int .u8 0, .slice none 0 0, .int .i64 0, .int .i64 0, .int .i64 0, .int .i64 0, .int .i64 0] 37)) w.heap.size (ocl noOrd (.slice none 0 0)) := Vb.new 37 w (ocl noOrd (.slice none 0 0))
  go_enter Tryz.func52, Tryz.ntmps52
  go_upto_region 1 with fail
  generalize (w.alloc (.cells #[.int .i64 0, .int .i64 0, .int .i64 0, .int .i64 0, .int .i64 0, .int .i64 0, .int .i64 0, .int .i64 0, .int .i64 0, .int .u8 0, .int .u8 0, .int .u8 0, .int .u8 0, .int .u8 0, .int .u8 0, .slice none 0 0, .int .i64 0, .int .i64 0, .int .i64 0, .int .i64 0, .int .i64 0] 37)) = w0 at *
  go_wp2_with fail
  refine (refNum_eq 1 hR0 H1.out).mono ?_
  rintro en w1 ⟨rfl, hR1, hg1⟩
  have hv1 := hv0.grown hg1 (by omega)
  have hG1 := grown_trans2 hG0 hg1
  have hz1 := hg1.size
  clear hv0 hR0 hG0 hg1
  go_upto_region 3 with (refine wpList_store_new (vs := ocl (kOrd 4) (.slice none 0 0)) rfl (.tmp 4) (.tmp 11) rfl rfl rfl rfl rfl rfl agg_order rfl ?_; intro w2 hx2 hb2 hz2)
  have hv2 := hv1.below hb2 hv1.lt
  have hR2 := hR1.below hb2
  have hG2 := grown_below hG1 hb2
  have hz2' : w1.heap.size < w2.heap.size := by omega
  have hwk : w.heap.size < w1.heap.size := by omega
  generalize w1.heap.size = Dk at *
  clear hz2 hv1 hR1 hG1 hb2
  have d0 := hx2.ord.1
  change _ = some (Value.int .i64 4) at d0
  go_wp2_with fail
  refine (refNum_eq 1 hR2 Q1.out).mono ?_
  rintro en v3 ⟨rfl, hS, hg⟩
  have hxa := hx2.grown hg (by omega)
  have hva := hv2.grown hg (by omega)
  have hGa := grown_trans2 hG2 hg
  obtain ⟨d0, d1, d2, d3, d4, d5, d6, d7, d8, d9, d10, d11, d12, d13, d14, d15, d16, d17, d18, d19, d20⟩ := hxa.ord
  have hf := hxa.free
  go_upto_region 26 with fail
  clear d0 d1 d2 d3 d4 d5 d6 d7 d8 d9 d10 d11 d12 d13 d14 d15 d16 d17 d18 d19 d20 hf
  have hx3 := hxa.set 1 (.int .i64 x)
  have hgs := grownBy_set v3 Dk 1 (.int .i64 x)
  have hv3 := hva.grown hgs (by omega)
  have hR3 := hS.off' Dk 1 (.int .i64 x) (by omega)
  have hG3 := grown_new hGa hgs (by omega)
  change Vb _ _ _ (ocl { noOrd with k := 4, n := x, m := 0 } (.slice none 0 0)) at hx3
  generalize (v3.setCell ⟨Dk, 1, none⟩ (.int .i64 x)) = w3 at *
  clear hxa hva hGa hgs hS hg hx2 hv2 hR2 hG2
  go_wp2_with (first | (refine wpList_load_vb (vs := ocl { noOrd with k := 4, n := x, m := 0 } (.slice none 0 0)) rfl (.tmp 4) rfl rfl hx3 rfl agg_order ?_) | (refine wpList_store_vb (vs := ocl { noOrd with k := 4, n := x, m := 0 } (.slice none 0 0)) rfl (.tmp 2) (.tmp 70) rfl rfl rfl hv3 rfl agg_order rfl ?_; intro w9 hv9 hg9 hz9))
  refine bodyPost_ret (results_pair Tryz.results52 _ rfl hv9 agg_order) rfl ?_
  exact ⟨{ noOrd with k := 4, n := x, m := 0 }, true, none, 0, 0, fun _ => ⟨rfl, fun h => by simp at h⟩, rfl, Ron.nil _ _, hR3.keep hg9 (fun k e => by simp at e; omega), grown_new hG3 hg9 (Nat.le_refl _)⟩
set_option maxRecDepth 100000 in
set_option maxHeartbeats 3200000 in
theorem tk_6 {w : World} {lo g : Nat} {l l1 l' : List Int} {e e1 e' k : Int} {o : OrdV} (hR : Rdr 112 w lo g l e) (h1 : nu 1 (l, e) = (k, (l1, e1))) (h2 : restRd k (l1, e1) = (o, (l', e'))) (hk : k = 6) : Calls Tryz.prog 52 #[.pointer (some ⟨g, 0, none⟩)] w (TakeRdr w lo g o l' e') := by
  subst hk
  rw [restRd_6] at h2
  rcases q1 : nu 4 (l1, e1) with ⟨x, l2, e2⟩
  rw [bnd_eq q1] at h2
  simp only [rt, Prod.mk.injEq] at h2
  obtain ⟨rfl, rfl, rfl⟩ := h2
  have h2 : True := trivial
  have Q1 := Kp.mk q1
  clear q1
  have hlt := hR.lt
  have H1 := Kp.mk h1
  have H2 := Kp.mk h2
  clear h1 h2
  have hz0 : w.heap.size < (w.alloc (.cells #[.int .i64 0, .int .i64 0, .int .i64 0, .int .i64 0, .int .i64 0, .int .i64 0, .int .i64 0, .int .i64 0, .int .i64 0, .int .u8 0, .int .u8 0, .int .u8 0, .int .u8 0, .int .u8 0, .int .u8 0, .slice none 0 0, .int .i64 0, .int .i64 0, .int .i64 0, .int .i64 0, .int .i64 0] 37)).heap.size := by simp
  have hG0 : w.grownBy (w.alloc (.cells #[.int .i64 0, .int .i64 0, .int .i64 0, .int .i64 0, .int .i64 0, .int .i64 0, .int .i64 0, .int .i64 0, .int .i64 0, .int .u8 0, .int .u8 0, .int .u8 0, .int .u8 0, .int .u8 0, .int .u8 0, .slice none 0 0, .int .i64 0, .int .i64 0, .int .i64 0, .int .i64 0, .int .i64 0] 37)) (some g) := grown_alloc w _ g
  have hR0 := hR.below (below_alloc w (.cells #[.int .i64 0, .int .i64 0, .int .i64 0, .int .i64 0, .int .i64 0, .int .i64 0, .int .i64 0, .int .i64 0, .int .i64 0, .int .u8 0, .int .u8 0, .int .u8 0, .int .u8 0, .int .u8 0, .int .u8 0, .slice none 0 0, .int .i64 0, .int .i64 0, .int .i64 0, .int .i64 0, .int .i64 0] 37))
  have hv0 : Vb 37 (w.alloc (.cells #[.int .i64 0, .int .i64 0, .int .i64 0, .int .i64 0, .int .i64 0, .int .i64 0, .int .i64 0, .int .i64 0, .int .i64 0, .int .u8 0, .int .u8 0, .int .u8 0, .int .u8 0, .int .u8 0, .int .u8 0, .slice none 0 0, .int .i64 0, .int .i64 0, .int .i64 0, .int .i64 0, .int .i64 0] 37)) w.heap.size (ocl noOrd (.slice none 0 0)) := Vb.new 37 w (ocl noOrd (.slice none 0 0))
  go_enter Tryz.func52, Tryz.ntmps52
  go_upto_region 1 with fail
  generalize (w.alloc (.cells #[.int .i64 0, .int .i64 0, .int .i64 0, .int .i64 0, .int .i64 0, .int .i64 0, .int .i64 0, .int .i64 0, .int .i64 0, .int .u8 0, .int .u8 0, .int .u8 0, .int .u8 0, .int .u8 0, .int .u8 0, .slice none 0 0, .int .i64 0, .int .i64 0, .int .i64 0, .int .i64 0, .int .i64 0] 37)) = w0 at *
  go_wp2_with fail
  refine (refNum_eq 1 hR0 H1.out).mono ?_
  rintro en w1 ⟨rfl, hR1, hg1⟩
  have hv1 := hv0.grown hg1 (by omega)
  have hG1 := grown_trans2 hG0 hg1
  have hz1 := hg1.size
  clear hv0 hR0 hG0 hg1
  go_upto_region 3 with (refine wpList_store_new (vs := ocl (kOrd 6) (.slice none 0 0)) rfl (.tmp 4) (.tmp 11) rfl rfl rfl rfl rfl rfl agg_order rfl ?_; intro w2 hx2 hb2 hz2)
  have hv2 := hv1.below hb2 hv1.lt
  have hR2 := hR1.below hb2
  have hG2 := grown_below hG1 hb2
  have hz2' : w1.heap.size < w2.heap.size := by omega
  have hwk : w.heap.size < w1.heap.size := by omega
  generalize w1.heap.size = Dk at *
  clear hz2 hv1 hR1 hG1 hb2
  have d0 := hx2.ord.1
  change _ = some (Value.int .i64 6) at d0
  go_wp2_with fail
  refine (refNum_eq 4 hR2 Q1.out).mono ?_
  rintro en v3 ⟨rfl, hS, hg⟩
  have hxa := hx2.grown hg (by omega)
  have hva := hv2.grown hg (by omega)
  have hGa := grown_trans2 hG2 hg
  obtain ⟨d0, d1, d2, d3, d4, d5, d6, d7, d8, d9, d10, d11, d12, d13, d14, d15, d16, d17, d18, d19, d20⟩ := hxa.ord
  have hf := hxa.free
  go_upto_region 26 with fail
  clear d0 d1 d2 d3 d4 d5 d6 d7 d8 d9 d10 d11 d12 d13 d14 d15 d16 d17 d18 d19 d20 hf
  have hx3 := hxa.set 1 (.int .i64 x)
  have hgs := grownBy_set v3 Dk 1 (.int .i64 x)
  have hv3 := hva.grown hgs (by omega)
  have hR3 := hS.off' Dk 1 (.int .i64 x) (by omega)
  have hG3 := grown_new hGa hgs (by omega)
  change Vb _ _ _ (ocl { noOrd with k := 6, n := x, m := 0 } (.slice none 0 0)) at hx3
  generalize (v3.setCell ⟨Dk, 1, none⟩ (.int .i64 x)) = w3 at *
  clear hxa hva hGa hgs hS hg hx2 hv2 hR2 hG2
  go_wp2_with (first | (refine wpList_load_vb (vs := ocl { noOrd with k := 6, n := x, m := 0 } (.slice none 0 0)) rfl (.tmp 4) rfl rfl hx3 rfl agg_order ?_) | (refine wpList_store_vb (vs := ocl { noOrd with k := 6, n := x, m := 0 } (.slice none 0 0)) rfl (.tmp 2) (.tmp 70) rfl rfl rfl hv3 rfl agg_order rfl ?_; intro w9 hv9 hg9 hz9))
  refine bodyPost_ret (results_pair Tryz.results52 _ rfl hv9 agg_order) rfl ?_
  exact ⟨{ noOrd with k := 6, n := x, m := 0 }, true, none, 0, 0, fun _ => ⟨rfl, fun h => by simp at h⟩, rfl, Ron.nil _ _, hR3.keep hg9 (fun k e => by simp at e; omega), grown_new hG3 hg9 (Nat.le_refl _)⟩
set_option maxRecDepth 100000 in
set_option maxHeartbeats 3200000 in
theorem tk_5 {w : World} {lo g : Nat} {l l1 l' : List Int} {e e1 e' k : Int} {o : OrdV} (hR : Rdr 112 w lo g l e) (h1 : nu 1 (l, e) = (k, (l1, e1))) (h2 : restRd k (l1, e1) = (o, (l', e'))) (hk : k = 5) : Calls Tryz.prog 52 #[.pointer (some ⟨g, 0, none⟩)] w (TakeRdr w lo g o l' e') := by
  subst hk
  rw [restRd_5] at h2
  rcases q1 : nu 1 (l1, e1) with ⟨x, l2, e2⟩
  rcases q2 : nu 2 (l2, e2) with ⟨y, l3, e3⟩
  rw [bnd_eq q1, bnd_eq q2] at h2
  simp only [rt, Prod.mk.injEq] at h2
  obtain ⟨rfl, rfl, rfl⟩ := h2
  have h2 : True := trivial
  have Q1 := Kp.mk q1
  have Q2 := Kp.mk q2
  clear q1 q2
  have hlt := hR.lt
  have H1 := Kp.mk h1
  have H2 := Kp.mk h2
  clear h1 h2
  have hz0 : w.heap.size < (w.alloc (.cells #[.int .i64 0, .int .i64 0, .int .i64 0, .int .i64 0, .int .i64 0, .int .i64 0, .int .i64 0, .int .i64 0, .int .i64 0, .int .u8 0, .int .u8 0, .int .u8 0, .int .u8 0, .int .u8 0, .int .u8 0, .slice none 0 0, .int .i64 0, .int .i64 0, .int .i64 0, .int .i64 0, .int .i64 0] 37)).heap.size := by simp
  have hG0 : w.grownBy (w.alloc (.cells #[.int .i64 0, .int .i64 0, .int .i64 0, .int .i64 0, .int .i64 0, .int .i64 0, .int .i64 0, .int .i64 0, .int .i64 0, .int .u8 0, .int .u8 0, .int .u8 0, .int .u8 0, .int .u8 0, .int .u8 0, .slice none 0 0, .int .i64 0, .int .i64 0, .int .i64 0, .int .i64 0, .int .i64 0] 37)) (some g) := grown_alloc w _ g
  have hR0 := hR.below (below_alloc w (.cells #[.int .i64 0, .int .i64 0, .int .i64 0, .int .i64 0, .int .i64 0, .int .i64 0, .int .i64 0, .int .i64 0, .int .i64 0, .int .u8 0, .int .u8 0, .int .u8 0, .int .u8 0, .int .u8 0, .int .u8 0, .slice none 0 0, .int .i64 0, .int .i64 0, .int .i64 0, .int .i64 0, .int .i64 0] 37))
  have hv0 : Vb 37 (w.alloc (.cells #[.int .i64 0, .int .i64 0, .int .i64 0, .int .i64 0, .int .i64 0, .int .i64 0, .int .i64 0, .int .i64 0, .int .i64 0, .int .u8 0, .int .u8 0, .int .u8 0, .int .u8 0, .int .u8 0, .int .u8 0, .slice none 0 0, .int .i64 0, .int .i64 0, .int .i64 0, .int .i64 0, .int .i64 0] 37)) w.heap.size (ocl noOrd (.slice none 0 0)) := Vb.new 37 w (ocl noOrd (.slice none 0 0))
  go_enter Tryz.func52, Tryz.ntmps52
  go_upto_region 1 with fail
  generalize (w.alloc (.cells #[.int .i64 0, .int .i64 0, .int .i64 0, .int .i64 0, .int .i64 0, .int .i64 0, .int .i64 0, .int .i64 0, .int .i64 0, .int .u8 0, .int .u8 0, .int .u8 0, .int .u8 0, .int .u8 0, .int .u8 0, .slice none 0 0, .int .i64 0, .int .i64 0, .int .i64 0, .int .i64 0, .int .i64 0] 37)) = w0 at *
  go_wp2_with fail
  refine (refNum_eq 1 hR0 H1.out).mono ?_
  rintro en w1 ⟨rfl, hR1, hg1⟩
  have hv1 := hv0.grown hg1 (by omega)
  have hG1 := grown_trans2 hG0 hg1
  have hz1 := hg1.size
  clear hv0 hR0 hG0 hg1
  go_upto_region 3 with (refine wpList_store_new (vs := ocl (kOrd 5) (.slice none 0 0)) rfl (.tmp 4) (.tmp 11) rfl rfl rfl rfl rfl rfl agg_order rfl ?_; intro w2 hx2 hb2 hz2)
  have hv2 := hv1.below hb2 hv1.lt
  have hR2 := hR1.below hb2
  have hG2 := grown_below hG1 hb2
  have hz2' : w1.heap.size < w2.heap.size := by omega
  have hwk : w.heap.size < w1.heap.size := by omega
  generalize w1.heap.size = Dk at *
  clear hz2 hv1 hR1 hG1 hb2
  have d0 := hx2.ord.1
  change _ = some (Value.int .i64 5) at d0
  go_wp2_with fail
  refine (refNum_eq 1 hR2 Q1.out).mono ?_
  rintro en v3 ⟨rfl, hS, hg⟩
  have hxa := hx2.grown hg (by omega)
  have hva := hv2.grown hg (by omega)
  have hGa := grown_trans2 hG2 hg
  obtain ⟨d0, d1, d2, d3, d4, d5, d6, d7, d8, d9, d10, d11, d12, d13, d14, d15, d16, d17, d18, d19, d20⟩ := hxa.ord
  have hf := hxa.free
  go_upto_region 14 with fail
  clear d0 d1 d2 d3 d4 d5 d6 d7 d8 d9 d10 d11 d12 d13 d14 d15 d16 d17 d18 d19 d20 hf
  have hx3 := hxa.set 1 (.int .i64 x)
  have hgs := grownBy_set v3 Dk 1 (.int .i64 x)
  have hv3 := hva.grown hgs (by omega)
  have hR3 := hS.off' Dk 1 (.int .i64 x) (by omega)
  have hG3 := grown_new hGa hgs (by omega)
  change Vb _ _ _ (ocl { noOrd with k := 5, n := x, m := 0 } (.slice none 0 0)) at hx3
  generalize (v3.setCell ⟨Dk, 1, none⟩ (.int .i64 x)) = w3 at *
  clear hxa hva hGa hgs hS hg hx2 hv2 hR2 hG2
  go_wp2_with fail
  refine (refNum_eq 2 hR3 Q2.out).mono ?_
  rintro en v4 ⟨rfl, hS, hg⟩
  have hxa := hx3.grown hg (by omega)
  have hva := hv3.grown hg (by omega)
  have hGa := grown_trans2 hG3 hg
  obtain ⟨d0, d1, d2, d3, d4, d5, d6, d7, d8, d9, d10, d11, d12, d13, d14, d15, d16, d17, d18, d19, d20⟩ := hxa.ord
  have hf := hxa.free
  go_upto_region 26 with fail
  clear d0 d1 d2 d3 d4 d5 d6 d7 d8 d9 d10 d11 d12 d13 d14 d15 d16 d17 d18 d19 d20 hf
  have hx4 := hxa.set 2 (.int .i64 y)
  have hgs := grownBy_set v4 Dk 2 (.int .i64 y)
  have hv4 := hva.grown hgs (by omega)
  have hR4 := hS.off' Dk 2 (.int .i64 y) (by omega)
  have hG4 := grown_new hGa hgs (by omega)
  change Vb _ _ _ (ocl { noOrd with k := 5, n := x, m := y } (.slice none 0 0)) at hx4
  generalize (v4.setCell ⟨Dk, 2, none⟩ (.int .i64 y)) = w4 at *
  clear hxa hva hGa hgs hS hg hx3 hv3 hR3 hG3
  go_wp2_with (first | (refine wpList_load_vb (vs := ocl { noOrd with k := 5, n := x, m := y } (.slice none 0 0)) rfl (.tmp 4) rfl rfl hx4 rfl agg_order ?_) | (refine wpList_store_vb (vs := ocl { noOrd with k := 5, n := x, m := y } (.slice none 0 0)) rfl (.tmp 2) (.tmp 70) rfl rfl rfl hv4 rfl agg_order rfl ?_; intro w9 hv9 hg9 hz9))
  refine bodyPost_ret (results_pair Tryz.results52 _ rfl hv9 agg_order) rfl ?_
  exact ⟨{ noOrd with k := 5, n := x, m := y }, true, none, 0, 0, fun _ => ⟨rfl, fun h => by simp at h⟩, rfl, Ron.nil _ _, hR4.keep hg9 (fun k e => by simp at e; omega), grown_new hG4 hg9 (Nat.le_refl _)⟩
set_option maxRecDepth 100000 in
set_option maxHeartbeats 3200000 in
theorem tk_7 {w : World} {lo g : Nat} {l l1 l' : List Int} {e e1 e' k : Int} {o : OrdV} (hR : Rdr 112 w lo g l e) (h1 : nu 1 (l, e) = (k, (l1, e1))) (h2 : restRd k (l1, e1) = (o, (l', e'))) (hk : k = 7) : Calls Tryz.prog 52 #[.pointer (some ⟨g, 0, none⟩)] w (TakeRdr w lo g o l' e') := by
  subst hk
  rw [restRd_7] at h2
  rcases q1 : nu 4 (l1, e1) with ⟨x, l2, e2⟩
  rcases q2 : nu 2 (l2, e2) with ⟨y, l3, e3⟩
  rw [bnd_eq q1, bnd_eq q2] at h2
  simp only [rt, Prod.mk.injEq] at h2
  obtain ⟨rfl, rfl, rfl⟩ := h2
  have h2 : True := trivial
  have Q1 := Kp.mk q1
  have Q2 := Kp.mk q2
  clear q1 q2
  have hlt := hR.lt
  have H1 := Kp.mk h1
  have H2 := Kp.mk h2
  clear h1 h2
  have hz0 : w.heap.size < (w.alloc (.cells #[.int .i64 0, .int .i64 0, .int .i64 0, .int .i64 0, .int .i64 0, .int .i64 0, .int .i64 0, .int .i64 0, .int .i64 0, .int .u8 0, .int .u8 0, .int .u8 0, .int .u8 0, .int .u8 0, .int .u8 0, .slice none 0 0, .int .i64 0, .int .i64 0, .int .i64 0, .int .i64 0, .int .i64 0] 37)).heap.size := by simp
  have hG0 : w.grownBy (w.alloc (.cells #[.int .i64 0, .int .i64 0, .int .i64 0, .int .i64 0, .int .i64 0, .int .i64 0, .int .i64 0, .int .i64 0, .int .i64 0, .int .u8 0, .int .u8 0, .int .u8 0, .int .u8 0, .int .u8 0, .int .u8 0, .slice none 0 0, .int .i64 0, .int .i64 0, .int .i64 0, .int .i64 0, .int .i64 0] 37)) (some g) := grown_alloc w _ g
  have hR0 := hR.below (below_alloc w (.cells #[.int .i64 0, .int .i64 0, .int .i64 0, .int .i64 0, .int .i64 0, .int .i64 0, .int .i64 0, .int .i64 0, .int .i64 0, .int .u8 0, .int .u8 0, .int .u8 0, .int .u8 0, .int .u8 0, .int .u8 0, .slice none 0 0, .int .i64 0, .int .i64 0, .int .i64 0, .int .i64 0, .int .i64 0] 37))
  have hv0 : Vb 37 (w.alloc (.cells #[.int .i64 0, .int .i64 0, .int .i64 0, .int .i64 0, .int .i64 0, .int .i64 0, .int .i64 0, .int .i64 0, .int .i64 0, .int .u8 0, .int .u8 0, .int .u8 0, .int .u8 0, .int .u8 0, .int .u8 0, .slice none 0 0, .int .i64 0, .int .i64 0, .int .i64 0, .int .i64 0, .int .i64 0] 37)) w.heap.size (ocl noOrd (.slice none 0 0)) := Vb.new 37 w (ocl noOrd (.slice none 0 0))
  go_enter Tryz.func52, Tryz.ntmps52
  go_upto_region 1 with fail
  generalize (w.alloc (.cells #[.int .i64 0, .int .i64 0, .int .i64 0, .int .i64 0, .int .i64 0, .int .i64 0, .int .i64 0, .int .i64 0, .int .i64 0, .int .u8 0, .int .u8 0, .int .u8 0, .int .u8 0, .int .u8 0, .int .u8 0, .slice none 0 0, .int .i64 0, .int .i64 0, .int .i64 0, .int .i64 0, .int .i64 0] 37)) = w0 at *
  go_wp2_with fail
  refine (refNum_eq 1 hR0 H1.out).mono ?_
  rintro en w1 ⟨rfl, hR1, hg1⟩
  have hv1 := hv0.grown hg1 (by omega)
  have hG1 := grown_trans2 hG0 hg1
  have hz1 := hg1.size
  clear hv0 hR0 hG0 hg1
  go_upto_region 3 with (refine wpList_store_new (vs := ocl (kOrd 7) (.slice none 0 0)) rfl (.tmp 4) (.tmp 11) rfl rfl rfl rfl rfl rfl agg_order rfl ?_; intro w2 hx2 hb2 hz2)
  have hv2 := hv1.below hb2 hv1.lt
  have hR2 := hR1.below hb2
  have hG2 := grown_below hG1 hb2
  have hz2' : w1.heap.size < w2.heap.size := by omega
  have hwk : w.heap.size < w1.heap.size := by omega
  generalize w1.heap.size = Dk at *
  clear hz2 hv1 hR1 hG1 hb2
  have d0 := hx2.ord.1
  change _ = some (Value.int .i64 7) at d0
  go_wp2_with fail
  refine (refNum_eq 4 hR2 Q1.out).mono ?_
  rintro en v3 ⟨rfl, hS, hg⟩
  have hxa := hx2.grown hg (by omega)
  have hva := hv2.grown hg (by omega)
  have hGa := grown_trans2 hG2 hg
  obtain ⟨d0, d1, d2, d3, d4, d5, d6, d7, d8, d9, d10, d11, d12, d13, d14, d15, d16, d17, d18, d19, d20⟩ := hxa.ord
  have hf := hxa.free
  go_upto_region 19 with fail
  clear d0 d1 d2 d3 d4 d5 d6 d7 d8 d9 d10 d11 d12 d13 d14 d15 d16 d17 d18 d19 d20 hf
  have hx3 := hxa.set 1 (.int .i64 x)
  have hgs := grownBy_set v3 Dk 1 (.int .i64 x)
  have hv3 := hva.grown hgs (by omega)
  have hR3 := hS.off' Dk 1 (.int .i64 x) (by omega)
  have hG3 := grown_new hGa hgs (by omega)
  change Vb _ _ _ (ocl { noOrd with k := 7, n := x, m := 0 } (.slice none 0 0)) at hx3
  generalize (v3.setCell ⟨Dk, 1, none⟩ (.int .i64 x)) = w3 at *
  clear hxa hva hGa hgs hS hg hx2 hv2 hR2 hG2
  go_wp2_with fail
  refine (refNum_eq 2 hR3 Q2.out).mono ?_
  rintro en v4 ⟨rfl, hS, hg⟩
  have hxa := hx3.grown hg (by omega)
  have hva := hv3.grown hg (by omega)
  have hGa := grown_trans2 hG3 hg
  obtain ⟨d0, d1, d2, d3, d4, d5, d6, d7, d8, d9, d10, d11, d12, d13, d14, d15, d16, d17, d18, d19, d20⟩ := hxa.ord
  have hf := hxa.free
  go_upto_region 26 with fail
  clear d0 d1 d2 d3 d4 d5 d6 d7 d8 d9 d10 d11 d12 d13 d14 d15 d16 d17 d18 d19 d20 hf
  have hx4 := hxa.set 2 (.int .i64 y)
  have hgs := grownBy_set v4 Dk 2 (.int .i64 y)
  have hv4 := hva.grown hgs (by omega)
  have hR4 := hS.off' Dk 2 (.int .i64 y) (by omega)
  have hG4 := grown_new hGa hgs (by omega)
  change Vb _ _ _ (ocl { noOrd with k := 7, n := x, m := y } (.slice none 0 0)) at hx4
  generalize (v4.setCell ⟨Dk, 2, none⟩ (.int .i64 y)) = w4 at *
  clear hxa hva hGa hgs hS hg hx3 hv3 hR3 hG3
  go_wp2_with (first | (refine wpList_load_vb (vs := ocl { noOrd with k := 7, n := x, m := y } (.slice none 0 0)) rfl (.tmp 4) rfl rfl hx4 rfl agg_order ?_) | (refine wpList_store_vb (vs := ocl { noOrd with k := 7, n := x, m := y } (.slice none 0 0)) rfl (.tmp 2) (.tmp 70) rfl rfl rfl hv4 rfl agg_order rfl ?_; intro w9 hv9 hg9 hz9))
  refine bodyPost_ret (results_pair Tryz.results52 _ rfl hv9 agg_order) rfl ?_
  exact ⟨{ noOrd with k := 7, n := x, m := y }, true, none, 0, 0, fun _ => ⟨rfl, fun h => by simp at h⟩, rfl, Ron.nil _ _, hR4.keep hg9 (fun k e => by simp at e; omega), grown_new hG4 hg9 (Nat.le_refl _)⟩
set_option maxRecDepth 100000 in
set_option maxHeartbeats 3200000 in
theorem tk_9 {w : World} {lo g : Nat} {l l1 l' : List Int} {e e1 e' k : Int} {o : OrdV} (hR : Rdr 112 w lo g l e) (h1 : nu 1 (l, e) = (k, (l1, e1))) (h2 : restRd k (l1, e1) = (o, (l', e'))) (hk : k = 9) : Calls Tryz.prog 52 #[.pointer (some ⟨g, 0, none⟩)] w (TakeRdr w lo g o l' e') := by
  subst hk
  rw [restRd_9] at h2
  rcases q1 : nu 1 (l1, e1) with ⟨x, l2, e2⟩
  rcases q2 : nu 1 (l2, e2) with ⟨y, l3, e3⟩
  rw [bnd_eq q1, bnd_eq q2] at h2
  simp only [rt, Prod.mk.injEq] at h2
  obtain ⟨rfl, rfl, rfl⟩ := h2
  have h2 : True := trivial
  have Q1 := Kp.mk q1
  have Q2 := Kp.mk q2
  clear q1 q2
  have hlt := hR.lt
  have H1 := Kp.mk h1
  have H2 := Kp.mk h2
  clear h1 h2
  have hz0 : w.heap.size < (w.alloc (.cells #[.int .i64 0, .int .i64 0, .int .i64 0, .int .i64 0, .int .i64 0, .int .i64 0, .int .i64 0, .int .i64 0, .int .i64 0, .int .u8 0, .int .u8 0, .int .u8 0, .int .u8 0, .int .u8 0, .int .u8 0, .slice none 0 0, .int .i64 0, .int .i64 0, .int .i64 0, .int .i64 0, .int .i64 0] 37)).heap.size := by simp
  have hG0 : w.grownBy (w.alloc (.cells #[.int .i64 0, .int .i64 0, .int .i64 0, .int .i64 0, .int .i64 0, .int .i64 0, .int .i64 0, .int .i64 0, .int .i64 0, .int .u8 0, .int .u8 0, .int .u8 0, .int .u8 0, .int .u8 0, .int .u8 0, .slice none 0 0, .int .i64 0, .int .i64 0, .int .i64 0, .int .i64 0, .int .i64 0] 37)) (some g) := grown_alloc w _ g
  have hR0 := hR.below (below_alloc w (.cells #[.int .i64 0, .int .i64 0, .int .i64 0, .int .i64 0, .int .i64 0, .int .i64 0, .int .i64 0, .int .i64 0, .int .i64 0, .int .u8 0, .int .u8 0, .int .u8 0, .int .u8 0, .int .u8 0, .int .u8 0, .slice none 0 0, .int .i64 0, .int .i64 0, .int .i64 0, .int .i64 0, .int .i64 0] 37))
  have hv0 : Vb 37 (w.alloc (.cells #[.int .i64 0, .int .i64 0, .int .i64 0, .int .i64 0, .int .i64 0, .int .i64 0, .int .i64 0, .int .i64 0, .int .i64 0, .int .u8 0, .int .u8 0, .int .u8 0, .int .u8 0, .int .u8 0, .int .u8 0, .slice none 0 0, .int .i64 0, .int .i64 0, .int .i64 0, .int .i64 0, .int .i64 0] 37)) w.heap.size (ocl noOrd (.slice none 0 0)) := Vb.new 37 w (ocl noOrd (.slice none 0 0))
  go_enter Tryz.func52, Tryz.ntmps52
  go_upto_region 1 with fail
  generalize (w.alloc (.cells #[.int .i64 0, .int .i64 0, .int .i64 0, .int .i64 0, .int .i64 0, .int .i64 0, .int .i64 0, .int .i64 0, .int .i64 0, .int .u8 0, .int .u8 0, .int .u8 0, .int .u8 0, .int .u8 0, .int .u8 0, .slice none 0 0, .int .i64 0, .int .i64 0, .int .i64 0, .int .i64 0, .int .i64 0] 37)) = w0 at *
  go_wp2_with fail
  refine (refNum_eq 1 hR0 H1.out).mono ?_
  rintro en w1 ⟨rfl, hR1, hg1⟩
  have hv1 := hv0.grown hg1 (by omega)
  have hG1 := grown_trans2 hG0 hg1
  have hz1 := hg1.size
  clear hv0 hR0 hG0 hg1
  go_upto_region 3 with (refine wpList_store_new (vs := ocl (kOrd 9) (.slice none 0 0)) rfl (.tmp 4) (.tmp 11) rfl rfl rfl rfl rfl rfl agg_order rfl ?_; intro w2 hx2 hb2 hz2)
  have hv2 := hv1.below hb2 hv1.lt
  have hR2 := hR1.below hb2
  have hG2 := grown_below hG1 hb2
  have hz2' : w1.heap.size < w2.heap.size := by omega
  have hwk : w.heap.size < w1.heap.size := by omega
  generalize w1.heap.size = Dk at *
  clear hz2 hv1 hR1 hG1 hb2
  have d0 := hx2.ord.1
  change _ = some (Value.int .i64 9) at d0
  go_wp2_with fail
  refine (refNum_eq 1 hR2 Q1.out).mono ?_
  rintro en v3 ⟨rfl, hS, hg⟩
  have hxa := hx2.grown hg (by omega)
  have hva := hv2.grown hg (by omega)
  have hGa := grown_trans2 hG2 hg
  obtain ⟨d0, d1, d2, d3, d4, d5, d6, d7, d8, d9, d10, d11, d12, d13, d14, d15, d16, d17, d18, d19, d20⟩ := hxa.ord
  have hf := hxa.free
  go_upto_region 11 with fail
  clear d0 d1 d2 d3 d4 d5 d6 d7 d8 d9 d10 d11 d12 d13 d14 d15 d16 d17 d18 d19 d20 hf
  have hx3 := hxa.set 1 (.int .i64 x)
  have hgs := grownBy_set v3 Dk 1 (.int .i64 x)
  have hv3 := hva.grown hgs (by omega)
  have hR3 := hS.off' Dk 1 (.int .i64 x) (by omega)
  have hG3 := grown_new hGa hgs (by omega)
  change Vb _ _ _ (ocl { noOrd with k := 9, n := x, m := 0 } (.slice none 0 0)) at hx3
  generalize (v3.setCell ⟨Dk, 1, none⟩ (.int .i64 x)) = w3 at *
  clear hxa hva hGa hgs hS hg hx2 hv2 hR2 hG2
  go_wp2_with fail
  refine (refNum_eq 1 hR3 Q2.out).mono ?_
  rintro en v4 ⟨rfl, hS, hg⟩
  have hxa := hx3.grown hg (by omega)
  have hva := hv3.grown hg (by omega)
  have hGa := grown_trans2 hG3 hg
  obtain ⟨d0, d1, d2, d3, d4, d5, d6, d7, d8, d9, d10, d11, d12, d13, d14, d15, d16, d17, d18, d19, d20⟩ := hxa.ord
  have hf := hxa.free
  go_upto_region 26 with fail
  clear d0 d1 d2 d3 d4 d5 d6 d7 d8 d9 d10 d11 d12 d13 d14 d15 d16 d17 d18 d19 d20 hf
  have hx4 := hxa.set 2 (.int .i64 y)
  have hgs := grownBy_set v4 Dk 2 (.int .i64 y)
  have hv4 := hva.grown hgs (by omega)
  have hR4 := hS.off' Dk 2 (.int .i64 y) (by omega)
  have hG4 := grown_new hGa hgs (by omega)
  change Vb _ _ _ (ocl { noOrd with k := 9, n := x, m := y } (.slice none 0 0)) at hx4
  generalize (v4.setCell ⟨Dk, 2, none⟩ (.int .i64 y)) = w4 at *
  clear hxa hva hGa hgs hS hg hx3 hv3 hR3 hG3
  go_wp2_with (first | (refine wpList_load_vb (vs := ocl { noOrd with k := 9, n := x, m := y } (.slice none 0 0)) rfl (.tmp 4) rfl rfl hx4 rfl agg_order ?_) | (refine wpList_store_vb (vs := ocl { noOrd with k := 9, n := x, m := y } (.slice none 0 0)) rfl (.tmp 2) (.tmp 70) rfl rfl rfl hv4 rfl agg_order rfl ?_; intro w9 hv9 hg9 hz9))
  refine bodyPost_ret (results_pair Tryz.results52 _ rfl hv9 agg_order) rfl ?_
  exact ⟨{ noOrd with k := 9, n := x, m := y }, true, none, 0, 0, fun _ => ⟨rfl, fun h => by simp at h⟩, rfl, Ron.nil _ _, hR4.keep hg9 (fun k e => by simp at e; omega), grown_new hG4 hg9 (Nat.le_refl _)⟩
set_option maxRecDepth 100000 in
set_option maxHeartbeats 1600000 in
theorem tk_no {w : World} {lo g : Nat} {l l1 l' : List Int} {e e1 e' k : Int} {o : OrdV} (hR : Rdr 112 w lo g l e) (h1 : nu 1 (l, e) = (k, (l1, e1))) (h2 : restRd k (l1, e1) = (o, (l', e'))) (hk : k < 2 ∨ 9 < k) : Calls Tryz.prog 52 #[.pointer (some ⟨g, 0, none⟩)] w (TakeRdr w lo g o l' e') := by
  rw [restRd_no (by omega)] at h2
  simp only [rt, Prod.mk.injEq] at h2
  obtain ⟨rfl, rfl, rfl⟩ := h2
  have h2 : True := trivial
  have e2 : (k == 2) = false := beq_eq_false_iff_ne.2 (by omega)
  have e3 : (k == 3) = false := beq_eq_false_iff_ne.2 (by omega)
  have e4 : (k == 4) = false := beq_eq_false_iff_ne.2 (by omega)
  have e5 : (k == 5) = false := beq_eq_false_iff_ne.2 (by omega)
  have e6 : (k == 6) = false := beq_eq_false_iff_ne.2 (by omega)
  have e7 : (k == 7) = false := beq_eq_false_iff_ne.2 (by omega)
  have e8 : (k == 8) = false := beq_eq_false_iff_ne.2 (by omega)
  have e9 : (k == 9) = false := beq_eq_false_iff_ne.2 (by omega)
  clear hk
  have hlt := hR.lt
  have H1 := Kp.mk h1
  have H2 := Kp.mk h2
  clear h1 h2
  have hz0 : w.heap.size < (w.alloc (.cells #[.int .i64 0, .int .i64 0, .int .i64 0, .int .i64 0, .int .i64 0, .int .i64 0, .int .i64 0, .int .i64 0, .int .i64 0, .int .u8 0, .int .u8 0, .int .u8 0, .int .u8 0, .int .u8 0, .int .u8 0, .slice none 0 0, .int .i64 0, .int .i64 0, .int .i64 0, .int .i64 0, .int .i64 0] 37)).heap.size := by simp
  have hG0 : w.grownBy (w.alloc (.cells #[.int .i64 0, .int .i64 0, .int .i64 0, .int .i64 0, .int .i64 0, .int .i64 0, .int .i64 0, .int .i64 0, .int .i64 0, .int .u8 0, .int .u8 0, .int .u8 0, .int .u8 0, .int .u8 0, .int .u8 0, .slice none 0 0, .int .i64 0, .int .i64 0, .int .i64 0, .int .i64 0, .int .i64 0] 37)) (some g) := grown_alloc w _ g
  have hR0 := hR.below (below_alloc w (.cells #[.int .i64 0, .int .i64 0, .int .i64 0, .int .i64 0, .int .i64 0, .int .i64 0, .int .i64 0, .int .i64 0, .int .i64 0, .int .u8 0, .int .u8 0, .int .u8 0, .int .u8 0, .int .u8 0, .int .u8 0, .slice none 0 0, .int .i64 0, .int .i64 0, .int .i64 0, .int .i64 0, .int .i64 0] 37))
  have hv0 : Vb 37 (w.alloc (.cells #[.int .i64 0, .int .i64 0, .int .i64 0, .int .i64 0, .int .i64 0, .int .i64 0, .int .i64 0, .int .i64 0, .int .i64 0, .int .u8 0, .int .u8 0, .int .u8 0, .int .u8 0, .int .u8 0, .int .u8 0, .slice none 0 0, .int .i64 0, .int .i64 0, .int .i64 0, .int .i64 0, .int .i64 0] 37)) w.heap.size (ocl noOrd (.slice none 0 0)) := Vb.new 37 w (ocl noOrd (.slice none 0 0))
  go_enter Tryz.func52, Tryz.ntmps52
  go_upto_region 1 with fail
  generalize (w.alloc (.cells #[.int .i64 0, .int .i64 0, .int .i64 0, .int .i64 0, .int .i64 0, .int .i64 0, .int .i64 0, .int .i64 0, .int .i64 0, .int .u8 0, .int .u8 0, .int .u8 0, .int .u8 0, .int .u8 0, .int .u8 0, .slice none 0 0, .int .i64 0, .int .i64 0, .int .i64 0, .int .i64 0, .int .i64 0] 37)) = w0 at *
  go_wp2_with fail
  refine (refNum_eq 1 hR0 H1.out).mono ?_
  rintro en w1 ⟨rfl, hR1, hg1⟩
  have hv1 := hv0.grown hg1 (by omega)
  have hG1 := grown_trans2 hG0 hg1
  have hz1 := hg1.size
  clear hv0 hR0 hG0 hg1
  go_upto_region 3 with (refine wpList_store_new (vs := ocl (kOrd k) (.slice none 0 0)) rfl (.tmp 4) (.tmp 11) rfl rfl rfl rfl rfl rfl agg_order rfl ?_; intro w2 hx2 hb2 hz2)
  have hv2 := hv1.below hb2 hv1.lt
  have hR2 := hR1.below hb2
  have hG2 := grown_below hG1 hb2
  have hz2' : w1.heap.size < w2.heap.size := by omega
  have hwk : w.heap.size < w1.heap.size := by omega
  generalize w1.heap.size = Dk at *
  clear hz2 hv1 hR1 hG1 hb2
  have d0 := hx2.ord.1
  change _ = some (Value.int .i64 k) at d0
  go_wp2_with (first | (refine wpList_load_vb (vs := ocl (kOrd k) (.slice none 0 0)) rfl (.tmp 4) rfl rfl hx2 rfl agg_order ?_) | (refine wpList_store_vb (vs := ocl (kOrd k) (.slice none 0 0)) rfl (.tmp 2) (.tmp 70) rfl rfl rfl hv2 rfl agg_order rfl ?_; intro w9 hv9 hg9 hz9))
  refine bodyPost_ret (results_pair Tryz.results52 _ rfl hv9 agg_order) rfl ?_
  exact ⟨kOrd k, true, none, 0, 0, fun _ => ⟨rfl, fun h => by simp at h⟩, rfl, Ron.nil _ _, hR2.keep hg9 (fun k e => by simp at e; omega), grown_new hG2 hg9 (Nat.le_refl _)⟩
set_option maxRecDepth 100000 in
set_option maxHeartbeats 3200000 in
theorem tk_2 {w : World} {lo g : Nat} {l l1 l' : List Int} {e e1 e' k : Int} {o : OrdV} (hR : Rdr 112 w lo g l e) (h1 : nu 1 (l, e) = (k, (l1, e1))) (h2 : restRd k (l1, e1) = (o, (l', e'))) (hk : k = 2) : Calls Tryz.prog 52 #[.pointer (some ⟨g, 0, none⟩)] w (TakeRdr w lo g o l' e') := by
  subst hk
  rw [restRd_r (by omega)] at h2
  rcases q1 : ruleRd (l1, e1) with ⟨r, l2, e2⟩
  rw [bnd_eq q1] at h2
  simp only [rt, Prod.mk.injEq] at h2
  obtain ⟨rfl, rfl, rfl⟩ := h2
  have h2 : True := trivial
  have Q1 := Kp.mk q1
  clear q1
  have hlt := hR.lt
  have H1 := Kp.mk h1
  have H2 := Kp.mk h2
  clear h1 h2
  have hz0 : w.heap.size < (w.alloc (.cells #[.int .i64 0, .int .i64 0, .int .i64 0, .int .i64 0, .int .i64 0, .int .i64 0, .int .i64 0, .int .i64 0, .int .i64 0, .int .u8 0, .int .u8 0, .int .u8 0, .int .u8 0, .int .u8 0, .int .u8 0, .slice none 0 0, .int .i64 0, .int .i64 0, .int .i64 0, .int .i64 0, .int .i64 0] 37)).heap.size := by simp
  have hG0 : w.grownBy (w.alloc (.cells #[.int .i64 0, .int .i64 0, .int .i64 0, .int .i64 0, .int .i64 0, .int .i64 0, .int .i64 0, .int .i64 0, .int .i64 0, .int .u8 0, .int .u8 0, .int .u8 0, .int .u8 0, .int .u8 0, .int .u8 0, .slice none 0 0, .int .i64 0, .int .i64 0, .int .i64 0, .int .i64 0, .int .i64 0] 37)) (some g) := grown_alloc w _ g
  have hR0 := hR.below (below_alloc w (.cells #[.int .i64 0, .int .i64 0, .int .i64 0, .int .i64 0, .int .i64 0, .int .i64 0, .int .i64 0, .int .i64 0, .int .i64 0, .int .u8 0, .int .u8 0, .int .u8 0, .int .u8 0, .int .u8 0, .int .u8 0, .slice none 0 0, .int .i64 0, .int .i64 0, .int .i64 0, .int .i64 0, .int .i64 0] 37))
  have hv0 : Vb 37 (w.alloc (.cells #[.int .i64 0, .int .i64 0, .int .i64 0, .int .i64 0, .int .i64 0, .int .i64 0, .int .i64 0, .int .i64 0, .int .i64 0, .int .u8 0, .int .u8 0, .int .u8 0, .int .u8 0, .int .u8 0, .int .u8 0, .slice none 0 0, .int .i64 0, .int .i64 0, .int .i64 0, .int .i64 0, .int .i64 0] 37)) w.heap.size (ocl noOrd (.slice none 0 0)) := Vb.new 37 w (ocl noOrd (.slice none 0 0))
  go_enter Tryz.func52, Tryz.ntmps52
  go_upto_region 1 with fail
  generalize (w.alloc (.cells #[.int .i64 0, .int .i64 0, .int .i64 0, .int .i64 0, .int .i64 0, .int .i64 0, .int .i64 0, .int .i64 0, .int .i64 0, .int .u8 0, .int .u8 0, .int .u8 0, .int .u8 0, .int .u8 0, .int .u8 0, .slice none 0 0, .int .i64 0, .int .i64 0, .int .i64 0, .int .i64 0, .int .i64 0] 37)) = w0 at *
  go_wp2_with fail
  refine (refNum_eq 1 hR0 H1.out).mono ?_
  rintro en w1 ⟨rfl, hR1, hg1⟩
  have hv1 := hv0.grown hg1 (by omega)
  have hG1 := grown_trans2 hG0 hg1
  have hz1 := hg1.size
  clear hv0 hR0 hG0 hg1
  go_upto_region 3 with (refine wpList_store_new (vs := ocl (kOrd 2) (.slice none 0 0)) rfl (.tmp 4) (.tmp 11) rfl rfl rfl rfl rfl rfl agg_order rfl ?_; intro w2 hx2 hb2 hz2)
  have hv2 := hv1.below hb2 hv1.lt
  have hR2 := hR1.below hb2
  have hG2 := grown_below hG1 hb2
  have hz2' : w1.heap.size < w2.heap.size := by omega
  have hwk : w.heap.size < w1.heap.size := by omega
  generalize w1.heap.size = Dk at *
  clear hz2 hv1 hR1 hG1 hb2
  have d0 := hx2.ord.1
  change _ = some (Value.int .i64 2) at d0
  go_wp2_with fail
  refine (takeRule_any hR2 Q1.out).mono ?_
  rintro en w3 ⟨r2, S, n, c, hr0, rfl, hr3, hR3, hg3⟩
  have HR0 := Kp.mk hr0
  clear hr0
  have hx3 := hx2.grown hg3 (by omega)
  have hv3 := hv2.grown hg3 (by omega)
  have hG3 := grown_trans2 hG2 hg3
  have hz3 := hg3.size
  clear hx2 hv2 hR2 hG2 hg3
  go_upto_region 26 with (refine wpList_store_at (vs := rcl r2 (.slice S n c)) rfl (.tmp 19) (.tmp 18) rfl rfl rfl hx3 (by simp [rcl, ocl]) agg_rule rfl ?_; intro w4 hx4 hg4 hz4)
  change Vb _ _ _ (ocl { noOrd with k := 2, r := r2 } (.slice S n c)) at hx4
  have hv4 := hv3.grown hg4 (by omega)
  have hR4 := hR3.keep hg4 (fun k e => by simp at e; omega)
  have hG4 := grown_new hG3 hg4 (by omega)
  have hr4 := hr3.grown hg4 (by omega)
  clear d0
  go_wp2_with (first | (refine wpList_load_vb (vs := ocl { noOrd with k := 2, r := r2 } (.slice S n c)) rfl (.tmp 4) rfl rfl hx4 rfl agg_order ?_) | (refine wpList_store_vb (vs := ocl { noOrd with k := 2, r := r2 } (.slice S n c)) rfl (.tmp 2) (.tmp 70) rfl rfl rfl hv4 rfl agg_order rfl ?_; intro w9 hv9 hg9 hz9))
  refine bodyPost_ret (results_pair Tryz.results52 _ rfl hv9 agg_order) rfl ?_
  exact ⟨{ noOrd with k := 2, r := r2 }, true, S, n, c, fun h => ⟨by rw [HR0.out h], fun h => by simp at h⟩, rfl, (hr4.grown hg9 (by omega)).lower (by omega), hR4.keep hg9 (fun k e => by simp at e; omega), grown_new hG4 hg9 (Nat.le_refl _)⟩
set_option maxRecDepth 100000 in
set_option maxHeartbeats 3200000 in
theorem tk_3 {w : World} {lo g : Nat} {l l1 l' : List Int} {e e1 e' k : Int} {o : OrdV} (hR : Rdr 112 w lo g l e) (h1 : nu 1 (l, e) = (k, (l1, e1))) (h2 : restRd k (l1, e1) = (o, (l', e'))) (hk : k = 3) : Calls Tryz.prog 52 #[.pointer (some ⟨g, 0, none⟩)] w (TakeRdr w lo g o l' e') := by
  subst hk
  rw [restRd_r (by omega)] at h2
  rcases q1 : ruleRd (l1, e1) with ⟨r, l2, e2⟩
  rw [bnd_eq q1] at h2
  simp only [rt, Prod.mk.injEq] at h2
  obtain ⟨rfl, rfl, rfl⟩ := h2
  have h2 : True := trivial
  have Q1 := Kp.mk q1
  clear q1
  have hlt := hR.lt
  have H1 := Kp.mk h1
  have H2 := Kp.mk h2
  clear h1 h2
  have hz0 : w.heap.size < (w.alloc (.cells #[.int .i64 0, .int .i64 0, .int .i64 0, .int .i64 0, .int .i64 0, .int .i64 0, .int .i64 0, .int .i64 0, .int .i64 0, .int .u8 0, .int .u8 0, .int .u8 0, .int .u8 0, .int .u8 0, .int .u8 0, .slice none 0 0, .int .i64 0, .int .i64 0, .int .i64 0, .int .i64 0, .int .i64 0] 37)).heap.size := by simp
  have hG0 : w.grownBy (w.alloc (.cells #[.int .i64 0, .int .i64 0, .int .i64 0, .int .i64 0, .int .i64 0, .int .i64 0, .int .i64 0, .int .i64 0, .int .i64 0, .int .u8 0, .int .u8 0, .int .u8 0, .int .u8 0, .int .u8 0, .int .u8 0, .slice none 0 0, .int .i64 0, .int .i64 0, .int .i64 0, .int .i64 0, .int .i64 0] 37)) (some g) := grown_alloc w _ g
  have hR0 := hR.below (below_alloc w (.cells #[.int .i64 0, .int .i64 0, .int .i64 0, .int .i64 0, .int .i64 0, .int .i64 0, .int .i64 0, .int .i64 0, .int .i64 0, .int .u8 0, .int .u8 0, .int .u8 0, .int .u8 0, .int .u8 0, .int .u8 0, .slice none 0 0, .int .i64 0, .int .i64 0, .int .i64 0, .int .i64 0, .int .i64 0] 37))
  have hv0 : Vb 37 (w.alloc (.cells #[.int .i64 0, .int .i64 0, .int .i64 0, .int .i64 0, .int .i64 0, .int .i64 0, .int .i64 0, .int .i64 0, .int .i64 0, .int .u8 0, .int .u8 0, .int .u8 0, .int .u8 0, .int .u8 0, .int .u8 0, .slice none 0 0, .int .i64 0, .int .i64 0, .int .i64 0, .int .i64 0, .int .i64 0] 37)) w.heap.size (ocl noOrd (.slice none 0 0)) := Vb.new 37 w (ocl noOrd (.slice none 0 0))
  go_enter Tryz.func52, Tryz.ntmps52
  go_upto_region 1 with fail
  generalize (w.alloc (.cells #[.int .i64 0, .int .i64 0, .int .i64 0, .int .i64 0, .int .i64 0, .int .i64 0, .int .i64 0, .int .i64 0, .int .i64 0, .int .u8 0, .int .u8 0, .int .u8 0, .int .u8 0, .int .u8 0, .int .u8 0, .slice none 0 0, .int .i64 0, .int .i64 0, .int .i64 0, .int .i64 0, .int .i64 0] 37)) = w0 at *
  go_wp2_with fail
  refine (refNum_eq 1 hR0 H1.out).mono ?_
  rintro en w1 ⟨rfl, hR1, hg1⟩
  have hv1 := hv0.grown hg1 (by omega)
  have hG1 := grown_trans2 hG0 hg1
  have hz1 := hg1.size
  clear hv0 hR0 hG0 hg1
  go_upto_region 3 with (refine wpList_store_new (vs := ocl (kOrd 3) (.slice none 0 0)) rfl (.tmp 4) (.tmp 11) rfl rfl rfl rfl rfl rfl agg_order rfl ?_; intro w2 hx2 hb2 hz2)
  have hv2 := hv1.below hb2 hv1.lt
  have hR2 := hR1.below hb2
  have hG2 := grown_below hG1 hb2
  have hz2' : w1.heap.size < w2.heap.size := by omega
  have hwk : w.heap.size < w1.heap.size := by omega
  generalize w1.heap.size = Dk at *
  clear hz2 hv1 hR1 hG1 hb2
  have d0 := hx2.ord.1
  change _ = some (Value.int .i64 3) at d0
  go_wp2_with fail
  refine (takeRule_any hR2 Q1.out).mono ?_
  rintro en w3 ⟨r2, S, n, c, hr0, rfl, hr3, hR3, hg3⟩
  have HR0 := Kp.mk hr0
  clear hr0
  have hx3 := hx2.grown hg3 (by omega)
  have hv3 := hv2.grown hg3 (by omega)
  have hG3 := grown_trans2 hG2 hg3
  have hz3 := hg3.size
  clear hx2 hv2 hR2 hG2 hg3
  go_upto_region 26 with (refine wpList_store_at (vs := rcl r2 (.slice S n c)) rfl (.tmp 19) (.tmp 18) rfl rfl rfl hx3 (by simp [rcl, ocl]) agg_rule rfl ?_; intro w4 hx4 hg4 hz4)
  change Vb _ _ _ (ocl { noOrd with k := 3, r := r2 } (.slice S n c)) at hx4
  have hv4 := hv3.grown hg4 (by omega)
  have hR4 := hR3.keep hg4 (fun k e => by simp at e; omega)
  have hG4 := grown_new hG3 hg4 (by omega)
  have hr4 := hr3.grown hg4 (by omega)
  clear d0
  go_wp2_with (first | (refine wpList_load_vb (vs := ocl { noOrd with k := 3, r := r2 } (.slice S n c)) rfl (.tmp 4) rfl rfl hx4 rfl agg_order ?_) | (refine wpList_store_vb (vs := ocl { noOrd with k := 3, r := r2 } (.slice S n c)) rfl (.tmp 2) (.tmp 70) rfl rfl rfl hv4 rfl agg_order rfl ?_; intro w9 hv9 hg9 hz9))
  refine bodyPost_ret (results_pair Tryz.results52 _ rfl hv9 agg_order) rfl ?_
  exact ⟨{ noOrd with k := 3, r := r2 }, true, S, n, c, fun h => ⟨by rw [HR0.out h], fun h => by simp at h⟩, rfl, (hr4.grown hg9 (by omega)).lower (by omega), hR4.keep hg9 (fun k e => by simp at e; omega), grown_new hG4 hg9 (Nat.le_refl _)⟩
theorem nu1_bd_any {l l1 : List Int} {e e1 k : Int} (h : By l) (hq : nu 1 (l, e) = (k, (l1, e1))) : By l1 := (nu1_bd h hq).2
set_option maxRecDepth 100000 in
set_option maxHeartbeats 3200000 in
theorem tk_8e {w : World} {lo g : Nat} {l l1 l' : List Int} {e e1 e' k : Int} {o : OrdV} (hR : Rdr 112 w lo g l e) (h1 : nu 1 (l, e) = (k, (l1, e1))) (h2 : restRd k (l1, e1) = (o, (l', e'))) (hk : k = 8) (he : e' ≠ 0) : Calls Tryz.prog 52 #[.pointer (some ⟨g, 0, none⟩)] w (TakeRdr w lo g o l' e') := by
  subst hk
  rw [restRd_8] at h2
  rcases q1 : tx (l1, e1) with ⟨t, l2, e2⟩
  rw [bnd_eq q1] at h2
  simp only [rt, Prod.mk.injEq] at h2
  obtain ⟨ho, rfl, rfl⟩ := h2
  have h2 : True := trivial
  have hby1 : By l1 := (nu1_bd_any hR.by_ h1)
  have hby : By t := by have := textR_by l1 e1 hby1; change textR l1 e1 = _ at q1; rw [q1] at this; exact this
  have Q1 := Kp.mk q1
  have HO := Kp.mk ho
  clear q1 hby1 ho
  have hne : (e2 == 0) = false := beq_eq_false_iff_ne.2 he
  have HE := Kp.mk he
  clear he
  have hlt := hR.lt
  have H1 := Kp.mk h1
  have H2 := Kp.mk h2
  clear h1 h2
  have hz0 : w.heap.size < (w.alloc (.cells #[.int .i64 0, .int .i64 0, .int .i64 0, .int .i64 0, .int .i64 0, .int .i64 0, .int .i64 0, .int .i64 0, .int .i64 0, .int .u8 0, .int .u8 0, .int .u8 0, .int .u8 0, .int .u8 0, .int .u8 0, .slice none 0 0, .int .i64 0, .int .i64 0, .int .i64 0, .int .i64 0, .int .i64 0] 37)).heap.size := by simp
  have hG0 : w.grownBy (w.alloc (.cells #[.int .i64 0, .int .i64 0, .int .i64 0, .int .i64 0, .int .i64 0, .int .i64 0, .int .i64 0, .int .i64 0, .int .i64 0, .int .u8 0, .int .u8 0, .int .u8 0, .int .u8 0, .int .u8 0, .int .u8 0, .slice none 0 0, .int .i64 0, .int .i64 0, .int .i64 0, .int .i64 0, .int .i64 0] 37)) (some g) := grown_alloc w _ g
  have hR0 := hR.below (below_alloc w (.cells #[.int .i64 0, .int .i64 0, .int .i64 0, .int .i64 0, .int .i64 0, .int .i64 0, .int .i64 0, .int .i64 0, .int .i64 0, .int .u8 0, .int .u8 0, .int .u8 0, .int .u8 0, .int .u8 0, .int .u8 0, .slice none 0 0, .int .i64 0, .int .i64 0, .int .i64 0, .int .i64 0, .int .i64 0] 37))
  have hv0 : Vb 37 (w.alloc (.cells #[.int .i64 0, .int .i64 0, .int .i64 0, .int .i64 0, .int .i64 0, .int .i64 0, .int .i64 0, .int .i64 0, .int .i64 0, .int .u8 0, .int .u8 0, .int .u8 0, .int .u8 0, .int .u8 0, .int .u8 0, .slice none 0 0, .int .i64 0, .int .i64 0, .int .i64 0, .int .i64 0, .int .i64 0] 37)) w.heap.size (ocl noOrd (.slice none 0 0)) := Vb.new 37 w (ocl noOrd (.slice none 0 0))
  go_enter Tryz.func52, Tryz.ntmps52
  go_upto_region 1 with fail
  generalize (w.alloc (.cells #[.int .i64 0, .int .i64 0, .int .i64 0, .int .i64 0, .int .i64 0, .int .i64 0, .int .i64 0, .int .i64 0, .int .i64 0, .int .u8 0, .int .u8 0, .int .u8 0, .int .u8 0, .int .u8 0, .int .u8 0, .slice none 0 0, .int .i64 0, .int .i64 0, .int .i64 0, .int .i64 0, .int .i64 0] 37)) = w0 at *
  go_wp2_with fail
  refine (refNum_eq 1 hR0 H1.out).mono ?_
  rintro en w1 ⟨rfl, hR1, hg1⟩
  have hv1 := hv0.grown hg1 (by omega)
  have hG1 := grown_trans2 hG0 hg1
  have hz1 := hg1.size
  clear hv0 hR0 hG0 hg1
  go_upto_region 3 with (refine wpList_store_new (vs := ocl (kOrd 8) (.slice none 0 0)) rfl (.tmp 4) (.tmp 11) rfl rfl rfl rfl rfl rfl agg_order rfl ?_; intro w2 hx2 hb2 hz2)
  have hv2 := hv1.below hb2 hv1.lt
  have hR2 := hR1.below hb2
  have hG2 := grown_below hG1 hb2
  have hz2' : w1.heap.size < w2.heap.size := by omega
  have hwk : w.heap.size < w1.heap.size := by omega
  generalize w1.heap.size = Dk at *
  clear hz2 hv1 hR1 hG1 hb2
  have d0 := hx2.ord.1
  change _ = some (Value.int .i64 8) at d0
  go_wp2_with fail
  refine (refText_eq hR2 Q1.out).mono ?_
  rintro en w3 ⟨S, n, c, rfl, ho3, hR3, hg3⟩
  have hx3 := hx2.grown hg3 (by omega)
  have hv3 := hv2.grown hg3 (by omega)
  have hG3 := grown_trans2 hG2 hg3
  have hz3 := hg3.size
  clear hx2 hv2 hR2 hG2 hg3
  go_wp2_with fail
  refine (refErr_any hR3).mono ?_
  rintro en wq ⟨rfl, rfl⟩
  go_wp2_with (first | (refine wpList_load_vb (vs := ocl (kOrd 8) (.slice none 0 0)) rfl (.tmp 4) rfl rfl hx3 rfl agg_order ?_) | (refine wpList_store_vb (vs := ocl (kOrd 8) (.slice none 0 0)) rfl (.tmp 2) (.tmp 70) rfl rfl rfl hv3 rfl agg_order rfl ?_; intro w9 hv9 hg9 hz9))
  refine bodyPost_ret (results_pair Tryz.results52 _ rfl hv9 agg_order) rfl ?_
  exact ⟨kOrd 8, true, none, 0, 0, fun h => absurd h HE.out, rfl, Ron.nil _ _, hR3.keep hg9 (fun k e => by simp at e; omega), grown_new hG3 hg9 (Nat.le_refl _)⟩
set_option maxRecDepth 100000 in
set_option maxHeartbeats 3200000 in
theorem tk_8y {w : World} {lo g : Nat} {l l1 l' : List Int} {e e1 e' k : Int} {o : OrdV} (hR : Rdr 112 w lo g l e) (h1 : nu 1 (l, e) = (k, (l1, e1))) (h2 : restRd k (l1, e1) = (o, (l', e'))) (hk : k = 8) (he : e' = 0) (hp : (parseQ (tx (l1, e1)).1).2 = 0) : Calls Tryz.prog 52 #[.pointer (some ⟨g, 0, none⟩)] w (TakeRdr w lo g o l' e') := by
  subst hk
  rw [restRd_8] at h2
  rcases q1 : tx (l1, e1) with ⟨t, l2, e2⟩
  rw [q1] at hp
  rw [bnd_eq q1] at h2
  simp only [rt, Prod.mk.injEq] at h2
  obtain ⟨ho, rfl, rfl⟩ := h2
  have h2 : True := trivial
  have hby1 : By l1 := (nu1_bd_any hR.by_ h1)
  have hby : By t := by have := textR_by l1 e1 hby1; change textR l1 e1 = _ at q1; rw [q1] at this; exact this
  have Q1 := Kp.mk q1
  have HO := Kp.mk ho
  clear q1 hby1 ho
  subst he
  have HP := Kp.mk hp
  have hpe : ((parseQ t).2 == 0) = true := by rw [hp]; rfl
  clear hp
  have hlt := hR.lt
  have H1 := Kp.mk h1
  have H2 := Kp.mk h2
  clear h1 h2
  have hz0 : w.heap.size < (w.alloc (.cells #[.int .i64 0, .int .i64 0, .int .i64 0, .int .i64 0, .int .i64 0, .int .i64 0, .int .i64 0, .int .i64 0, .int .i64 0, .int .u8 0, .int .u8 0, .int .u8 0, .int .u8 0, .int .u8 0, .int .u8 0, .slice none 0 0, .int .i64 0, .int .i64 0, .int .i64 0, .int .i64 0, .int .i64 0] 37)).heap.size := by simp
  have hG0 : w.grownBy (w.alloc (.cells #[.int .i64 0, .int .i64 0, .int .i64 0, .int .i64 0, .int .i64 0, .int .i64 0, .int .i64 0, .int .i64 0, .int .i64 0, .int .u8 0, .int .u8 0, .int .u8 0, .int .u8 0, .int .u8 0, .int .u8 0, .slice none 0 0, .int .i64 0, .int .i64 0, .int .i64 0, .int .i64 0, .int .i64 0] 37)) (some g) := grown_alloc w _ g
  have hR0 := hR.below (below_alloc w (.cells #[.int .i64 0, .int .i64 0, .int .i64 0, .int .i64 0, .int .i64 0, .int .i64 0, .int .i64 0, .int .i64 0, .int .i64 0, .int .u8 0, .int .u8 0, .int .u8 0, .int .u8 0, .int .u8 0, .int .u8 0, .slice none 0 0, .int .i64 0, .int .i64 0, .int .i64 0, .int .i64 0, .int .i64 0] 37))
  have hv0 : Vb 37 (w.alloc (.cells #[.int .i64 0, .int .i64 0, .int .i64 0, .int .i64 0, .int .i64 0, .int .i64 0, .int .i64 0, .int .i64 0, .int .i64 0, .int .u8 0, .int .u8 0, .int .u8 0, .int .u8 0, .int .u8 0, .int .u8 0, .slice none 0 0, .int .i64 0, .int .i64 0, .int .i64 0, .int .i64 0, .int .i64 0] 37)) w.heap.size (ocl noOrd (.slice none 0 0)) := Vb.new 37 w (ocl noOrd (.slice none 0 0))
  go_enter Tryz.func52, Tryz.ntmps52
  go_upto_region 1 with fail
  generalize (w.alloc (.cells #[.int .i64 0, .int .i64 0, .int .i64 0, .int .i64 0, .int .i64 0, .int .i64 0, .int .i64 0, .int .i64 0, .int .i64 0, .int .u8 0, .int .u8 0, .int .u8 0, .int .u8 0, .int .u8 0, .int .u8 0, .slice none 0 0, .int .i64 0, .int .i64 0, .int .i64 0, .int .i64 0, .int .i64 0] 37)) = w0 at *
  go_wp2_with fail
  refine (refNum_eq 1 hR0 H1.out).mono ?_
  rintro en w1 ⟨rfl, hR1, hg1⟩
  have hv1 := hv0.grown hg1 (by omega)
  have hG1 := grown_trans2 hG0 hg1
  have hz1 := hg1.size
  clear hv0 hR0 hG0 hg1
  go_upto_region 3 with (refine wpList_store_new (vs := ocl (kOrd 8) (.slice none 0 0)) rfl (.tmp 4) (.tmp 11) rfl rfl rfl rfl rfl rfl agg_order rfl ?_; intro w2 hx2 hb2 hz2)
  have hv2 := hv1.below hb2 hv1.lt
  have hR2 := hR1.below hb2
  have hG2 := grown_below hG1 hb2
  have hz2' : w1.heap.size < w2.heap.size := by omega
  have hwk : w.heap.size < w1.heap.size := by omega
  generalize w1.heap.size = Dk at *
  clear hz2 hv1 hR1 hG1 hb2
  have d0 := hx2.ord.1
  change _ = some (Value.int .i64 8) at d0
  go_wp2_with fail
  refine (refText_eq hR2 Q1.out).mono ?_
  rintro en w3 ⟨S, n, c, rfl, ho3, hR3, hg3⟩
  have hx3 := hx2.grown hg3 (by omega)
  have hv3 := hv2.grown hg3 (by omega)
  have hG3 := grown_trans2 hG2 hg3
  have hz3 := hg3.size
  clear hx2 hv2 hR2 hG2 hg3
  go_wp2_with fail
  refine (refErr_any hR3).mono ?_
  rintro en wq ⟨rfl, rfl⟩
  go_wp2_with fail
  refine (refParseQ_any ho3.rd hby (Nat.le_refl _)).mono ?_
  rintro en w4 ⟨rfl, hb4⟩
  have hx4 := hx3.below hb4 (by omega)
  have hv4 := hv3.below hb4 (by omega)
  have hR4 := hR3.below hb4
  have hG4 := grown_below hG3 hb4
  have hz4 := hb4.size
  go_upto_region 24 with (refine wpList_store_new (vs := [.int .i64 (parseQ t).1.1, .int .i64 (parseQ t).1.2.1, .int .i64 (parseQ t).1.2.2.1, .int .i64 (parseQ t).1.2.2.2.1, .int .i64 (parseQ t).1.2.2.2.2]) rfl (.tmp 7) (.tmp 64) rfl rfl rfl rfl rfl rfl agg_probe rfl ?_; intro w5 hy5 hb5 hz5)
  have hx5 := hx4.below hb5 (by omega)
  have hv5 := hv4.below hb5 (by omega)
  have hR5 := hR4.below hb5
  have hG5 := grown_below hG4 hb5
  go_upto_region 25 with (first | (refine wpList_load_vb (vs := [.int .i64 (parseQ t).1.1, .int .i64 (parseQ t).1.2.1, .int .i64 (parseQ t).1.2.2.1, .int .i64 (parseQ t).1.2.2.2.1, .int .i64 (parseQ t).1.2.2.2.2]) rfl (.tmp 7) rfl rfl hy5 rfl agg_probe ?_) | (refine wpList_store_at (vs := [.int .i64 (parseQ t).1.1, .int .i64 (parseQ t).1.2.1, .int .i64 (parseQ t).1.2.2.1, .int .i64 (parseQ t).1.2.2.2.1, .int .i64 (parseQ t).1.2.2.2.2]) rfl (.tmp 67) (.tmp 66) rfl rfl rfl hx5 (by simp [ocl]) agg_probe rfl ?_; intro w6 hx6 hg6 hz6))
  change Vb _ _ _ (ocl { noOrd with k := 8, f := (parseQ t).1.1, p := (parseQ t).1.2.1, t := (parseQ t).1.2.2.1, q := (parseQ t).1.2.2.2.1, z := (parseQ t).1.2.2.2.2 } (.slice none 0 0)) at hx6
  have hv6 := hv5.grown hg6 (by omega)
  have hR6 := hR5.keep hg6 (fun k e => by simp at e; omega)
  have hG6 := grown_new hG5 hg6 (by omega)
  clear d0
  go_wp2_with (first | (refine wpList_load_vb (vs := ocl { noOrd with k := 8, f := (parseQ t).1.1, p := (parseQ t).1.2.1, t := (parseQ t).1.2.2.1, q := (parseQ t).1.2.2.2.1, z := (parseQ t).1.2.2.2.2 } (.slice none 0 0)) rfl (.tmp 4) rfl rfl hx6 rfl agg_order ?_) | (refine wpList_store_vb (vs := ocl { noOrd with k := 8, f := (parseQ t).1.1, p := (parseQ t).1.2.1, t := (parseQ t).1.2.2.1, q := (parseQ t).1.2.2.2.1, z := (parseQ t).1.2.2.2.2 } (.slice none 0 0)) rfl (.tmp 2) (.tmp 70) rfl rfl rfl hv6 rfl agg_order rfl ?_; intro w9 hv9 hg9 hz9))
  refine bodyPost_ret (results_pair Tryz.results52 _ rfl hv9 agg_order) rfl ?_
  exact ⟨{ noOrd with k := 8, f := (parseQ t).1.1, p := (parseQ t).1.2.1, t := (parseQ t).1.2.2.1, q := (parseQ t).1.2.2.2.1, z := (parseQ t).1.2.2.2.2 }, true, none, 0, 0, fun _ => ⟨HO.out, fun h => by simp at h⟩, rfl, Ron.nil _ _, hR6.keep hg9 (fun k e => by simp at e; omega), grown_new hG6 hg9 (Nat.le_refl _)⟩
set_option maxRecDepth 100000 in
set_option maxHeartbeats 3200000 in
theorem tk_8n {w : World} {lo g : Nat} {l l1 l' : List Int} {e e1 e' k : Int} {o : OrdV} (hR : Rdr 112 w lo g l e) (h1 : nu 1 (l, e) = (k, (l1, e1))) (h2 : restRd k (l1, e1) = (o, (l', e'))) (hk : k = 8) (he : e' = 0) (hp : (parseQ (tx (l1, e1)).1).2 ≠ 0) : Calls Tryz.prog 52 #[.pointer (some ⟨g, 0, none⟩)] w (TakeRdr w lo g o l' e') := by
  subst hk
  rw [restRd_8] at h2
  rcases q1 : tx (l1, e1) with ⟨t, l2, e2⟩
  rw [q1] at hp
  rw [bnd_eq q1] at h2
  simp only [rt, Prod.mk.injEq] at h2
  obtain ⟨ho, rfl, rfl⟩ := h2
  have h2 : True := trivial
  have hby1 : By l1 := (nu1_bd_any hR.by_ h1)
  have hby : By t := by have := textR_by l1 e1 hby1; change textR l1 e1 = _ at q1; rw [q1] at this; exact this
  have Q1 := Kp.mk q1
  have HO := Kp.mk ho
  clear q1 hby1 ho
  subst he
  have HP := Kp.mk hp
  have hpe : ((parseQ t).2 == 0) = false := beq_eq_false_iff_ne.2 hp
  clear hp
  have hlt := hR.lt
  have H1 := Kp.mk h1
  have H2 := Kp.mk h2
  clear h1 h2
  have hz0 : w.heap.size < (w.alloc (.cells #[.int .i64 0, .int .i64 0, .int .i64 0, .int .i64 0, .int .i64 0, .int .i64 0, .int .i64 0, .int .i64 0, .int .i64 0, .int .u8 0, .int .u8 0, .int .u8 0, .int .u8 0, .int .u8 0, .int .u8 0, .slice none 0 0, .int .i64 0, .int .i64 0, .int .i64 0, .int .i64 0, .int .i64 0] 37)).heap.size := by simp
  have hG0 : w.grownBy (w.alloc (.cells #[.int .i64 0, .int .i64 0, .int .i64 0, .int .i64 0, .int .i64 0, .int .i64 0, .int .i64 0, .int .i64 0, .int .i64 0, .int .u8 0, .int .u8 0, .int .u8 0, .int .u8 0, .int .u8 0, .int .u8 0, .slice none 0 0, .int .i64 0, .int .i64 0, .int .i64 0, .int .i64 0, .int .i64 0] 37)) (some g) := grown_alloc w _ g
  have hR0 := hR.below (below_alloc w (.cells #[.int .i64 0, .int .i64 0, .int .i64 0, .int .i64 0, .int .i64 0, .int .i64 0, .int .i64 0, .int .i64 0, .int .i64 0, .int .u8 0, .int .u8 0, .int .u8 0, .int .u8 0, .int .u8 0, .int .u8 0, .slice none 0 0, .int .i64 0, .int .i64 0, .int .i64 0, .int .i64 0, .int .i64 0] 37))
  have hv0 : Vb 37 (w.alloc (.cells #[.int .i64 0, .int .i64 0, .int .i64 0, .int .i64 0, .int .i64 0, .int .i64 0, .int .i64 0, .int .i64 0, .int .i64 0, .int .u8 0, .int .u8 0, .int .u8 0, .int .u8 0, .int .u8 0, .int .u8 0, .slice none 0 0, .int .i64 0, .int .i64 0, .int .i64 0, .int .i64 0, .int .i64 0] 37)) w.heap.size (ocl noOrd (.slice none 0 0)) := Vb.new 37 w (ocl noOrd (.slice none 0 0))
  go_enter Tryz.func52, Tryz.ntmps52
  go_upto_region 1 with fail
  generalize (w.alloc (.cells #[.int .i64 0, .int .i64 0, .int .i64 0, .int .i64 0, .int .i64 0, .int .i64 0, .int .i64 0, .int .i64 0, .int .i64 0, .int .u8 0, .int .u8 0, .int .u8 0, .int .u8 0, .int .u8 0, .int .u8 0, .slice none 0 0, .int .i64 0, .int .i64 0, .int .i64 0, .int .i64 0, .int .i64 0] 37)) = w0 at *
  go_wp2_with fail
  refine (refNum_eq 1 hR0 H1.out).mono ?_
  rintro en w1 ⟨rfl, hR1, hg1⟩
  have hv1 := hv0.grown hg1 (by omega)
  have hG1 := grown_trans2 hG0 hg1
  have hz1 := hg1.size
  clear hv0 hR0 hG0 hg1
  go_upto_region 3 with (refine wpList_store_new (vs := ocl (kOrd 8) (.slice none 0 0)) rfl (.tmp 4) (.tmp 11) rfl rfl rfl rfl rfl rfl agg_order rfl ?_; intro w2 hx2 hb2 hz2)
  have hv2 := hv1.below hb2 hv1.lt
  have hR2 := hR1.below hb2
  have hG2 := grown_below hG1 hb2
  have hz2' : w1.heap.size < w2.heap.size := by omega
  have hwk : w.heap.size < w1.heap.size := by omega
  generalize w1.heap.size = Dk at *
  clear hz2 hv1 hR1 hG1 hb2
  have d0 := hx2.ord.1
  change _ = some (Value.int .i64 8) at d0
  go_wp2_with fail
  refine (refText_eq hR2 Q1.out).mono ?_
  rintro en w3 ⟨S, n, c, rfl, ho3, hR3, hg3⟩
  have hx3 := hx2.grown hg3 (by omega)
  have hv3 := hv2.grown hg3 (by omega)
  have hG3 := grown_trans2 hG2 hg3
  have hz3 := hg3.size
  clear hx2 hv2 hR2 hG2 hg3
  go_wp2_with fail
  refine (refErr_any hR3).mono ?_
  rintro en wq ⟨rfl, rfl⟩
  go_wp2_with fail
  refine (refParseQ_any ho3.rd hby (Nat.le_refl _)).mono ?_
  rintro en w4 ⟨rfl, hb4⟩
  have hx4 := hx3.below hb4 (by omega)
  have hv4 := hv3.below hb4 (by omega)
  have hR4 := hR3.below hb4
  have hG4 := grown_below hG3 hb4
  have hz4 := hb4.size
  go_upto_region 24 with (refine wpList_store_new (vs := [.int .i64 (parseQ t).1.1, .int .i64 (parseQ t).1.2.1, .int .i64 (parseQ t).1.2.2.1, .int .i64 (parseQ t).1.2.2.2.1, .int .i64 (parseQ t).1.2.2.2.2]) rfl (.tmp 7) (.tmp 64) rfl rfl rfl rfl rfl rfl agg_probe rfl ?_; intro w5 hy5 hb5 hz5)
  have hx5 := hx4.below hb5 (by omega)
  have hv5 := hv4.below hb5 (by omega)
  have hR5 := hR4.below hb5
  have hG5 := grown_below hG4 hb5
  go_upto_region 25 with (first | (refine wpList_load_vb (vs := [.int .i64 (parseQ t).1.1, .int .i64 (parseQ t).1.2.1, .int .i64 (parseQ t).1.2.2.1, .int .i64 (parseQ t).1.2.2.2.1, .int .i64 (parseQ t).1.2.2.2.2]) rfl (.tmp 7) rfl rfl hy5 rfl agg_probe ?_) | (refine wpList_store_at (vs := [.int .i64 (parseQ t).1.1, .int .i64 (parseQ t).1.2.1, .int .i64 (parseQ t).1.2.2.1, .int .i64 (parseQ t).1.2.2.2.1, .int .i64 (parseQ t).1.2.2.2.2]) rfl (.tmp 67) (.tmp 66) rfl rfl rfl hx5 (by simp [ocl]) agg_probe rfl ?_; intro w6 hx6 hg6 hz6))
  change Vb _ _ _ (ocl { noOrd with k := 8, f := (parseQ t).1.1, p := (parseQ t).1.2.1, t := (parseQ t).1.2.2.1, q := (parseQ t).1.2.2.2.1, z := (parseQ t).1.2.2.2.2 } (.slice none 0 0)) at hx6
  have hv6 := hv5.grown hg6 (by omega)
  have hR6 := hR5.keep hg6 (fun k e => by simp at e; omega)
  have hG6 := grown_new hG5 hg6 (by omega)
  clear d0
  go_wp2_with (first | (refine wpList_load_vb (vs := ocl { noOrd with k := 8, f := (parseQ t).1.1, p := (parseQ t).1.2.1, t := (parseQ t).1.2.2.1, q := (parseQ t).1.2.2.2.1, z := (parseQ t).1.2.2.2.2 } (.slice none 0 0)) rfl (.tmp 4) rfl rfl hx6 rfl agg_order ?_) | (refine wpList_store_vb (vs := ocl { noOrd with k := 8, f := (parseQ t).1.1, p := (parseQ t).1.2.1, t := (parseQ t).1.2.2.1, q := (parseQ t).1.2.2.2.1, z := (parseQ t).1.2.2.2.2 } (.slice none 0 0)) rfl (.tmp 2) (.tmp 70) rfl rfl rfl hv6 rfl agg_order rfl ?_; intro w9 hv9 hg9 hz9))
  refine bodyPost_ret (results_pair Tryz.results52 _ rfl hv9 agg_order) rfl ?_
  exact ⟨{ noOrd with k := 8, f := (parseQ t).1.1, p := (parseQ t).1.2.1, t := (parseQ t).1.2.2.1, q := (parseQ t).1.2.2.2.1, z := (parseQ t).1.2.2.2.2 }, false, none, 0, 0, fun _ => ⟨HO.out, fun _ => by rw [← HO.out]; exact parseQ_none HP.out 8 rfl⟩, rfl, Ron.nil _ _, hR6.keep hg9 (fun k e => by simp at e; omega), grown_new hG6 hg9 (Nat.le_refl _)⟩
theorem take_any {w : World} {lo g : Nat} {l l1 l' : List Int} {e e1 e' k : Int} {o : OrdV} (hR : Rdr 112 w lo g l e) (h1 : nu 1 (l, e) = (k, (l1, e1))) (h2 : restRd k (l1, e1) = (o, (l', e'))) : Calls Tryz.prog 52 #[.pointer (some ⟨g, 0, none⟩)] w (TakeRdr w lo g o l' e') := by
  by_cases q2 : k = 2
  · exact tk_2 hR h1 h2 q2
  by_cases q3 : k = 3
  · exact tk_3 hR h1 h2 q3
  by_cases q4 : k = 4
  · exact tk_4 hR h1 h2 q4
  by_cases q5 : k = 5
  · exact tk_5 hR h1 h2 q5
  by_cases q6 : k = 6
  · exact tk_6 hR h1 h2 q6
  by_cases q7 : k = 7
  · exact tk_7 hR h1 h2 q7
  by_cases q9 : k = 9
  · exact tk_9 hR h1 h2 q9
  by_cases q8 : k = 8
  · by_cases he : e' = 0
    · by_cases hp : (parseQ (tx (l1, e1)).1).2 = 0
      · exact tk_8y hR h1 h2 q8 he hp
      · exact tk_8n hR h1 h2 q8 he hp
    · exact tk_8e hR h1 h2 q8 he
  exact tk_no hR h1 h2 (by omega)
end Go.Proofs.YteambkehdbffmaaGreat.Oct

namespace Go.Proofs.YteambkehdbffmaaGreat.Oct
open Go.RowKit
set_option linter.unusedVariables false
set_option linter.unusedSimpArgs false

set_option maxRecDepth 100000 in
set_option maxHeartbeats 3200000 in
theorem rps_err {w : World} {B n c : Nat} {A : Option Addr} {l l1 l' : List Int} {v e1 e' : Int} {o : OrdV} (hr : Rd .u8 w B A n c l) (hl : By l) (hB : B ≤ w.heap.size) (hn : n ≤ 140737488355328) (h1 : nu 1 (l, 0) = (v, (l1, e1))) (h2 : restRd v (l1, e1) = (o, (l', e'))) (hh : e' ≠ 0) : Calls Tryz.prog 25 #[.slice A n c] w (OrdRet noOrd e' w) := by
  have H1 := Kp.mk h1
  have H2 := Kp.mk h2
  clear h1 h2
  have HH := Kp.mk hh
  clear hh
  have hbz := below_alloc w (.cells #[.int .i64 0, .int .i64 0, .int .i64 0, .int .i64 0, .int .i64 0, .int .i64 0, .int .i64 0, .int .i64 0, .int .i64 0, .int .u8 0, .int .u8 0, .int .u8 0, .int .u8 0, .int .u8 0, .int .u8 0, .slice none 0 0, .int .i64 0, .int .i64 0, .int .i64 0, .int .i64 0, .int .i64 0] 37)
  have hvz : Vb 37 (w.alloc (.cells #[.int .i64 0, .int .i64 0, .int .i64 0, .int .i64 0, .int .i64 0, .int .i64 0, .int .i64 0, .int .i64 0, .int .i64 0, .int .u8 0, .int .u8 0, .int .u8 0, .int .u8 0, .int .u8 0, .int .u8 0, .slice none 0 0, .int .i64 0, .int .i64 0, .int .i64 0, .int .i64 0, .int .i64 0] 37)) w.heap.size (ocl noOrd (.slice none 0 0)) := Vb.new 37 w (ocl noOrd (.slice none 0 0))
  have hrz := hr.below' hbz hB
  have hzz : w.heap.size < (w.alloc (.cells #[.int .i64 0, .int .i64 0, .int .i64 0, .int .i64 0, .int .i64 0, .int .i64 0, .int .i64 0, .int .i64 0, .int .i64 0, .int .u8 0, .int .u8 0, .int .u8 0, .int .u8 0, .int .u8 0, .int .u8 0, .slice none 0 0, .int .i64 0, .int .i64 0, .int .i64 0, .int .i64 0, .int .i64 0] 37)).heap.size := by simp
  go_enter Tryz.func25, Tryz.ntmps25
  go_upto_region 1 with fail
  generalize w.alloc (.cells #[.int .i64 0, .int .i64 0, .int .i64 0, .int .i64 0, .int .i64 0, .int .i64 0, .int .i64 0, .int .i64 0, .int .i64 0, .int .u8 0, .int .u8 0, .int .u8 0, .int .u8 0, .int .u8 0, .int .u8 0, .slice none 0 0, .int .i64 0, .int .i64 0, .int .i64 0, .int .i64 0, .int .i64 0] 37) = w0 at *
  go_wp2_with fail
  refine (refRead_any hrz hl (by omega) hn).mono ?_
  rintro en w1 ⟨g, rfl, hR1, hb1⟩
  have hlo : w0.heap.size ≤ g := by obtain ⟨_, _, _, _, hlo, _⟩ := hR1; exact hlo
  have hv1 := hvz.below hb1 (by omega)
  have hgl := hR1.lt
  have hT1 := hbz.trans (hb1.mono (by omega))
  have hz1 := hb1.size
  clear hvz hrz hb1 hbz
  go_wp2_with fail
  refine (take_any hR1 H1.out H2.out).mono ?_
  rintro en w2 ⟨o2, fine, S, n6, c6, hfo, rfl, hr2, hR2, hg2⟩
  have hv2 := hv1.grown hg2 (by omega)
  have hz2 := hg2.size
  have hT2 := below_grown (B := w.heap.size) hT1 hg2 (by omega) (by omega)
  replace hr2 := hr2.lower (lo' := w.heap.size + 1) (by omega)
  clear hv1 hR1 hg2 hT1
  have hne : (e' != 0) = true := by rw [bne, beq_eq_false_iff_ne.2 HH.out]; rfl
  clear hfo
  go_upto_region 3 with (refine wpList_store_new (vs := ocl o2 (.slice S n6 c6)) rfl (.tmp 5) (.tmp 12) rfl rfl rfl rfl rfl rfl agg_order rfl ?_; intro w3 hx3 hb3 hz3)
  have hv3 := hv2.below hb3 (by omega)
  have hR3 := hR2.below hb3
  have hr3 := hr2.below hb3
  have hT3 := hT2.trans (hb3.mono (by omega))
  have hz3' : w2.heap.size < w3.heap.size := by omega
  clear hz3 hv2 hR2 hb3 hT2 hr2
  go_wp2_with fail
  refine (refErr_any hR3).mono ?_
  rintro en wq ⟨rfl, rfl⟩
  go_wp2_with fail
  refine (refErr_any hR3).mono ?_
  rintro en wq ⟨rfl, rfl⟩
  go_wp2_with (refine wpList_store_vb (vs := (ocl noOrd (.slice none 0 0))) rfl (.tmp 2) (.tmp 17) rfl rfl rfl hv3 rfl agg_order rfl ?_; intro w9 hv9 hg9 hz9)
  refine bodyPost_ret (results_pair Tryz.results25 _ rfl hv9 agg_order) rfl ?_
  exact ⟨none, 0, 0, rfl, Ron.nil _ _, (hT3.grown hg9 (by omega) (fun k e => by simp at e; omega))⟩
set_option maxRecDepth 100000 in
set_option maxHeartbeats 3200000 in
theorem rps_end {w : World} {B n c : Nat} {A : Option Addr} {l l1 l' : List Int} {v e1 e' : Int} {o : OrdV} (hr : Rd .u8 w B A n c l) (hl : By l) (hB : B ≤ w.heap.size) (hn : n ≤ 140737488355328) (h1 : nu 1 (l, 0) = (v, (l1, e1))) (h2 : restRd v (l1, e1) = (o, (l', e'))) (hh : e' = 0 ∧ 0 < l'.length) : Calls Tryz.prog 25 #[.slice A n c] w (OrdRet noOrd 4 w) := by
  have H1 := Kp.mk h1
  have H2 := Kp.mk h2
  clear h1 h2
  have HH := Kp.mk hh
  clear hh
  have hbz := below_alloc w (.cells #[.int .i64 0, .int .i64 0, .int .i64 0, .int .i64 0, .int .i64 0, .int .i64 0, .int .i64 0, .int .i64 0, .int .i64 0, .int .u8 0, .int .u8 0, .int .u8 0, .int .u8 0, .int .u8 0, .int .u8 0, .slice none 0 0, .int .i64 0, .int .i64 0, .int .i64 0, .int .i64 0, .int .i64 0] 37)
  have hvz : Vb 37 (w.alloc (.cells #[.int .i64 0, .int .i64 0, .int .i64 0, .int .i64 0, .int .i64 0, .int .i64 0, .int .i64 0, .int .i64 0, .int .i64 0, .int .u8 0, .int .u8 0, .int .u8 0, .int .u8 0, .int .u8 0, .int .u8 0, .slice none 0 0, .int .i64 0, .int .i64 0, .int .i64 0, .int .i64 0, .int .i64 0] 37)) w.heap.size (ocl noOrd (.slice none 0 0)) := Vb.new 37 w (ocl noOrd (.slice none 0 0))
  have hrz := hr.below' hbz hB
  have hzz : w.heap.size < (w.alloc (.cells #[.int .i64 0, .int .i64 0, .int .i64 0, .int .i64 0, .int .i64 0, .int .i64 0, .int .i64 0, .int .i64 0, .int .i64 0, .int .u8 0, .int .u8 0, .int .u8 0, .int .u8 0, .int .u8 0, .int .u8 0, .slice none 0 0, .int .i64 0, .int .i64 0, .int .i64 0, .int .i64 0, .int .i64 0] 37)).heap.size := by simp
  go_enter Tryz.func25, Tryz.ntmps25
  go_upto_region 1 with fail
  generalize w.alloc (.cells #[.int .i64 0, .int .i64 0, .int .i64 0, .int .i64 0, .int .i64 0, .int .i64 0, .int .i64 0, .int .i64 0, .int .i64 0, .int .u8 0, .int .u8 0, .int .u8 0, .int .u8 0, .int .u8 0, .int .u8 0, .slice none 0 0, .int .i64 0, .int .i64 0, .int .i64 0, .int .i64 0, .int .i64 0] 37) = w0 at *
  go_wp2_with fail
  refine (refRead_any hrz hl (by omega) hn).mono ?_
  rintro en w1 ⟨g, rfl, hR1, hb1⟩
  have hlo : w0.heap.size ≤ g := by obtain ⟨_, _, _, _, hlo, _⟩ := hR1; exact hlo
  have hv1 := hvz.below hb1 (by omega)
  have hgl := hR1.lt
  have hT1 := hbz.trans (hb1.mono (by omega))
  have hz1 := hb1.size
  clear hvz hrz hb1 hbz
  go_wp2_with fail
  refine (take_any hR1 H1.out H2.out).mono ?_
  rintro en w2 ⟨o2, fine, S, n6, c6, hfo, rfl, hr2, hR2, hg2⟩
  have hv2 := hv1.grown hg2 (by omega)
  have hz2 := hg2.size
  have hT2 := below_grown (B := w.heap.size) hT1 hg2 (by omega) (by omega)
  replace hr2 := hr2.lower (lo' := w.heap.size + 1) (by omega)
  clear hv1 hR1 hg2 hT1
  obtain ⟨hz, hk⟩ := HH.out
  have hne : (e' != 0) = false := by rw [hz]; rfl
  obtain ⟨rfl, hff⟩ := hfo hz
  have HF := Kp.mk hff
  clear hfo hff
  have HZ := Kp.mk hz
  have HK := Kp.mk hk
  clear hz hk HH
  go_upto_region 3 with (refine wpList_store_new (vs := ocl o2 (.slice S n6 c6)) rfl (.tmp 5) (.tmp 12) rfl rfl rfl rfl rfl rfl agg_order rfl ?_; intro w3 hx3 hb3 hz3)
  have hv3 := hv2.below hb3 (by omega)
  have hR3 := hR2.below hb3
  have hr3 := hr2.below hb3
  have hT3 := hT2.trans (hb3.mono (by omega))
  have hz3' : w2.heap.size < w3.heap.size := by omega
  clear hz3 hv2 hR2 hb3 hT2 hr2
  go_wp2_with fail
  refine (refErr_any hR3).mono ?_
  rintro en wq ⟨rfl, rfl⟩
  cases fine
  · go_wp2_with (refine wpList_store_vb (vs := (ocl noOrd (.slice none 0 0))) rfl (.tmp 2) (.tmp 32) rfl rfl rfl hv3 rfl agg_order rfl ?_; intro w9 hv9 hg9 hz9)
    refine bodyPost_ret (results_pair Tryz.results25 _ rfl hv9 agg_order) rfl ?_
    exact ⟨none, 0, 0, rfl, Ron.nil _ _, (hT3.grown hg9 (by omega) (fun k e => by simp at e; omega))⟩
  · go_wp2_with fail
    refine (refEnd_any hR3).mono ?_
    rintro en wq ⟨rfl, rfl⟩
    rw [show endR l' e' = 4 by unfold endR; rw [if_pos HK.out]]
    go_wp2_with (refine wpList_store_vb (vs := (ocl noOrd (.slice none 0 0))) rfl (.tmp 2) (.tmp 32) rfl rfl rfl hv3 rfl agg_order rfl ?_; intro w9 hv9 hg9 hz9)
    refine bodyPost_ret (results_pair Tryz.results25 _ rfl hv9 agg_order) rfl ?_
    exact ⟨none, 0, 0, rfl, Ron.nil _ _, (hT3.grown hg9 (by omega) (fun k e => by simp at e; omega))⟩
set_option maxRecDepth 100000 in
set_option maxHeartbeats 3200000 in
theorem rps_chk {w : World} {B n c : Nat} {A : Option Addr} {l l1 l' : List Int} {v e1 e' : Int} {o : OrdV} (hr : Rd .u8 w B A n c l) (hl : By l) (hB : B ≤ w.heap.size) (hn : n ≤ 140737488355328) (h1 : nu 1 (l, 0) = (v, (l1, e1))) (h2 : restRd v (l1, e1) = (o, (l', e'))) (hh : e' = 0 ∧ (¬ 0 < l'.length ∧ checkO o = 2)) : Calls Tryz.prog 25 #[.slice A n c] w (OrdRet noOrd 4 w) := by
  have H1 := Kp.mk h1
  have H2 := Kp.mk h2
  clear h1 h2
  have HH := Kp.mk hh
  clear hh
  have hbz := below_alloc w (.cells #[.int .i64 0, .int .i64 0, .int .i64 0, .int .i64 0, .int .i64 0, .int .i64 0, .int .i64 0, .int .i64 0, .int .i64 0, .int .u8 0, .int .u8 0, .int .u8 0, .int .u8 0, .int .u8 0, .int .u8 0, .slice none 0 0, .int .i64 0, .int .i64 0, .int .i64 0, .int .i64 0, .int .i64 0] 37)
  have hvz : Vb 37 (w.alloc (.cells #[.int .i64 0, .int .i64 0, .int .i64 0, .int .i64 0, .int .i64 0, .int .i64 0, .int .i64 0, .int .i64 0, .int .i64 0, .int .u8 0, .int .u8 0, .int .u8 0, .int .u8 0, .int .u8 0, .int .u8 0, .slice none 0 0, .int .i64 0, .int .i64 0, .int .i64 0, .int .i64 0, .int .i64 0] 37)) w.heap.size (ocl noOrd (.slice none 0 0)) := Vb.new 37 w (ocl noOrd (.slice none 0 0))
  have hrz := hr.below' hbz hB
  have hzz : w.heap.size < (w.alloc (.cells #[.int .i64 0, .int .i64 0, .int .i64 0, .int .i64 0, .int .i64 0, .int .i64 0, .int .i64 0, .int .i64 0, .int .i64 0, .int .u8 0, .int .u8 0, .int .u8 0, .int .u8 0, .int .u8 0, .int .u8 0, .slice none 0 0, .int .i64 0, .int .i64 0, .int .i64 0, .int .i64 0, .int .i64 0] 37)).heap.size := by simp
  go_enter Tryz.func25, Tryz.ntmps25
  go_upto_region 1 with fail
  generalize w.alloc (.cells #[.int .i64 0, .int .i64 0, .int .i64 0, .int .i64 0, .int .i64 0, .int .i64 0, .int .i64 0, .int .i64 0, .int .i64 0, .int .u8 0, .int .u8 0, .int .u8 0, .int .u8 0, .int .u8 0, .int .u8 0, .slice none 0 0, .int .i64 0, .int .i64 0, .int .i64 0, .int .i64 0, .int .i64 0] 37) = w0 at *
  go_wp2_with fail
  refine (refRead_any hrz hl (by omega) hn).mono ?_
  rintro en w1 ⟨g, rfl, hR1, hb1⟩
  have hlo : w0.heap.size ≤ g := by obtain ⟨_, _, _, _, hlo, _⟩ := hR1; exact hlo
  have hv1 := hvz.below hb1 (by omega)
  have hgl := hR1.lt
  have hT1 := hbz.trans (hb1.mono (by omega))
  have hz1 := hb1.size
  clear hvz hrz hb1 hbz
  go_wp2_with fail
  refine (take_any hR1 H1.out H2.out).mono ?_
  rintro en w2 ⟨o2, fine, S, n6, c6, hfo, rfl, hr2, hR2, hg2⟩
  have hv2 := hv1.grown hg2 (by omega)
  have hz2 := hg2.size
  have hT2 := below_grown (B := w.heap.size) hT1 hg2 (by omega) (by omega)
  replace hr2 := hr2.lower (lo' := w.heap.size + 1) (by omega)
  clear hv1 hR1 hg2 hT1
  obtain ⟨hz, hk⟩ := HH.out
  have hne : (e' != 0) = false := by rw [hz]; rfl
  obtain ⟨rfl, hff⟩ := hfo hz
  have HF := Kp.mk hff
  clear hfo hff
  have HZ := Kp.mk hz
  have HK := Kp.mk hk
  clear hz hk HH
  go_upto_region 3 with (refine wpList_store_new (vs := ocl o2 (.slice S n6 c6)) rfl (.tmp 5) (.tmp 12) rfl rfl rfl rfl rfl rfl agg_order rfl ?_; intro w3 hx3 hb3 hz3)
  have hv3 := hv2.below hb3 (by omega)
  have hR3 := hR2.below hb3
  have hr3 := hr2.below hb3
  have hT3 := hT2.trans (hb3.mono (by omega))
  have hz3' : w2.heap.size < w3.heap.size := by omega
  clear hz3 hv2 hR2 hb3 hT2 hr2
  go_wp2_with fail
  refine (refErr_any hR3).mono ?_
  rintro en wq ⟨rfl, rfl⟩
  cases fine
  · go_wp2_with (refine wpList_store_vb (vs := (ocl noOrd (.slice none 0 0))) rfl (.tmp 2) (.tmp 32) rfl rfl rfl hv3 rfl agg_order rfl ?_; intro w9 hv9 hg9 hz9)
    refine bodyPost_ret (results_pair Tryz.results25 _ rfl hv9 agg_order) rfl ?_
    exact ⟨none, 0, 0, rfl, Ron.nil _ _, (hT3.grown hg9 (by omega) (fun k e => by simp at e; omega))⟩
  · go_wp2_with fail
    refine (refEnd_any hR3).mono ?_
    rintro en wq ⟨rfl, rfl⟩
    rw [show endR l' e' = 0 by rw [HZ.out]; unfold endR; rw [if_neg HK.out.1]]
    go_wp2_with (refine wpList_load_want (vs := ocl o2 (.slice S n6 c6)) (by rfl) (.tmp 5) rfl rfl hx3 rfl agg_order ?_)
    refine (refOrderCheck_any o2 hr3.ro (Nat.le_refl _)).mono ?_
    rw [HK.out.2]
    rintro en w8 ⟨rfl, hb8⟩
    have hv8 := hv3.below hb8 (by omega)
    have hx8 := hx3.below hb8 (by omega)
    have hr8 := hr3.below hb8
    have hT8 := hT3.trans (hb8.mono (by omega))
    have hz8 := hb8.size
    go_wp2_with (refine wpList_store_vb (vs := (ocl noOrd (.slice none 0 0))) rfl (.tmp 2) (.tmp 32) rfl rfl rfl hv8 rfl agg_order rfl ?_; intro w9 hv9 hg9 hz9)
    refine bodyPost_ret (results_pair Tryz.results25 _ rfl hv9 agg_order) rfl ?_
    exact ⟨none, 0, 0, rfl, Ron.nil _ _, (hT8.grown hg9 (by omega) (fun k e => by simp at e; omega))⟩
set_option maxRecDepth 100000 in
set_option maxHeartbeats 3200000 in
theorem rps_ok {w : World} {B n c : Nat} {A : Option Addr} {l l1 l' : List Int} {v e1 e' : Int} {o : OrdV} (hr : Rd .u8 w B A n c l) (hl : By l) (hB : B ≤ w.heap.size) (hn : n ≤ 140737488355328) (h1 : nu 1 (l, 0) = (v, (l1, e1))) (h2 : restRd v (l1, e1) = (o, (l', e'))) (hh : e' = 0 ∧ (¬ 0 < l'.length ∧ checkO o = 0)) : Calls Tryz.prog 25 #[.slice A n c] w (OrdRet o 0 w) := by
  have H1 := Kp.mk h1
  have H2 := Kp.mk h2
  clear h1 h2
  have HH := Kp.mk hh
  clear hh
  have hbz := below_alloc w (.cells #[.int .i64 0, .int .i64 0, .int .i64 0, .int .i64 0, .int .i64 0, .int .i64 0, .int .i64 0, .int .i64 0, .int .i64 0, .int .u8 0, .int .u8 0, .int .u8 0, .int .u8 0, .int .u8 0, .int .u8 0, .slice none 0 0, .int .i64 0, .int .i64 0, .int .i64 0, .int .i64 0, .int .i64 0] 37)
  have hvz : Vb 37 (w.alloc (.cells #[.int .i64 0, .int .i64 0, .int .i64 0, .int .i64 0, .int .i64 0, .int .i64 0, .int .i64 0, .int .i64 0, .int .i64 0, .int .u8 0, .int .u8 0, .int .u8 0, .int .u8 0, .int .u8 0, .int .u8 0, .slice none 0 0, .int .i64 0, .int .i64 0, .int .i64 0, .int .i64 0, .int .i64 0] 37)) w.heap.size (ocl noOrd (.slice none 0 0)) := Vb.new 37 w (ocl noOrd (.slice none 0 0))
  have hrz := hr.below' hbz hB
  have hzz : w.heap.size < (w.alloc (.cells #[.int .i64 0, .int .i64 0, .int .i64 0, .int .i64 0, .int .i64 0, .int .i64 0, .int .i64 0, .int .i64 0, .int .i64 0, .int .u8 0, .int .u8 0, .int .u8 0, .int .u8 0, .int .u8 0, .int .u8 0, .slice none 0 0, .int .i64 0, .int .i64 0, .int .i64 0, .int .i64 0, .int .i64 0] 37)).heap.size := by simp
  go_enter Tryz.func25, Tryz.ntmps25
  go_upto_region 1 with fail
  generalize w.alloc (.cells #[.int .i64 0, .int .i64 0, .int .i64 0, .int .i64 0, .int .i64 0, .int .i64 0, .int .i64 0, .int .i64 0, .int .i64 0, .int .u8 0, .int .u8 0, .int .u8 0, .int .u8 0, .int .u8 0, .int .u8 0, .slice none 0 0, .int .i64 0, .int .i64 0, .int .i64 0, .int .i64 0, .int .i64 0] 37) = w0 at *
  go_wp2_with fail
  refine (refRead_any hrz hl (by omega) hn).mono ?_
  rintro en w1 ⟨g, rfl, hR1, hb1⟩
  have hlo : w0.heap.size ≤ g := by obtain ⟨_, _, _, _, hlo, _⟩ := hR1; exact hlo
  have hv1 := hvz.below hb1 (by omega)
  have hgl := hR1.lt
  have hT1 := hbz.trans (hb1.mono (by omega))
  have hz1 := hb1.size
  clear hvz hrz hb1 hbz
  go_wp2_with fail
  refine (take_any hR1 H1.out H2.out).mono ?_
  rintro en w2 ⟨o2, fine, S, n6, c6, hfo, rfl, hr2, hR2, hg2⟩
  have hv2 := hv1.grown hg2 (by omega)
  have hz2 := hg2.size
  have hT2 := below_grown (B := w.heap.size) hT1 hg2 (by omega) (by omega)
  replace hr2 := hr2.lower (lo' := w.heap.size + 1) (by omega)
  clear hv1 hR1 hg2 hT1
  obtain ⟨hz, hk⟩ := HH.out
  have hne : (e' != 0) = false := by rw [hz]; rfl
  obtain ⟨rfl, hff⟩ := hfo hz
  have HF := Kp.mk hff
  clear hfo hff
  have HZ := Kp.mk hz
  have HK := Kp.mk hk
  clear hz hk HH
  go_upto_region 3 with (refine wpList_store_new (vs := ocl o2 (.slice S n6 c6)) rfl (.tmp 5) (.tmp 12) rfl rfl rfl rfl rfl rfl agg_order rfl ?_; intro w3 hx3 hb3 hz3)
  have hv3 := hv2.below hb3 (by omega)
  have hR3 := hR2.below hb3
  have hr3 := hr2.below hb3
  have hT3 := hT2.trans (hb3.mono (by omega))
  have hz3' : w2.heap.size < w3.heap.size := by omega
  clear hz3 hv2 hR2 hb3 hT2 hr2
  go_wp2_with fail
  refine (refErr_any hR3).mono ?_
  rintro en wq ⟨rfl, rfl⟩
  cases fine
  · have := HF.out rfl
    exact absurd ((checkO_zero _).1 HK.out.2) this
  · go_wp2_with fail
    refine (refEnd_any hR3).mono ?_
    rintro en wq ⟨rfl, rfl⟩
    rw [show endR l' e' = 0 by rw [HZ.out]; unfold endR; rw [if_neg HK.out.1]]
    go_wp2_with (refine wpList_load_want (vs := ocl o2 (.slice S n6 c6)) (by rfl) (.tmp 5) rfl rfl hx3 rfl agg_order ?_)
    refine (refOrderCheck_any o2 hr3.ro (Nat.le_refl _)).mono ?_
    rw [HK.out.2]
    rintro en w8 ⟨rfl, hb8⟩
    have hv8 := hv3.below hb8 (by omega)
    have hx8 := hx3.below hb8 (by omega)
    have hr8 := hr3.below hb8
    have hT8 := hT3.trans (hb8.mono (by omega))
    have hz8 := hb8.size
    go_wp2_with (first | (refine wpList_load_vb (vs := ocl o2 (.slice S n6 c6)) rfl (.tmp 5) rfl rfl hx8 rfl agg_order ?_) | (refine wpList_store_vb (vs := ocl o2 (.slice S n6 c6)) rfl (.tmp 2) (.tmp 33) rfl rfl rfl hv8 rfl agg_order rfl ?_; intro w9 hv9 hg9 hz9))
    refine bodyPost_ret (results_pair Tryz.results25 _ rfl hv9 agg_order) rfl ?_
    exact ⟨S, n6, c6, rfl, (hr8.grown hg9 (by omega)).lower (by omega), (hT8.grown hg9 (by omega) (fun k e => by simp at e; omega))⟩
theorem refOrderParse_any {w : World} {B n c : Nat} {A : Option Addr} {l : List Int} (hr : Rd .u8 w B A n c l) (hl : By l) (hB : B ≤ w.heap.size) (hn : n ≤ 140737488355328) : Calls Tryz.prog 25 #[.slice A n c] w (OrdRet (parseO l).1 (parseO l).2 w) := by
  rcases h1 : nu 1 (l, 0) with ⟨v, l1, e1⟩
  rcases h2 : restRd v (l1, e1) with ⟨o, l', e'⟩
  have hq : ordRd (l, 0) = (o, (l', e')) := by unfold ordRd; rw [bnd_eq h1, h2]
  by_cases hz : e' = 0
  · by_cases hp : 0 < l'.length
    · have he : parseO l = (noOrd, 4) := parseO_form (by rw [hq, hz]) (fun h => by omega)
      rw [he]
      exact rps_end hr hl hB hn h1 h2 ⟨hz, hp⟩
    · by_cases hk : okOrd o
      · have he : parseO l = (o, 0) := parseO_yes (by rw [hq, hz]) ⟨by omega, hk⟩
        rw [he]
        exact rps_ok hr hl hB hn h1 h2 ⟨hz, hp, if_pos hk⟩
      · have he : parseO l = (noOrd, 4) := parseO_form (by rw [hq, hz]) (fun h => hk h.2)
        rw [he]
        exact rps_chk hr hl hB hn h1 h2 ⟨hz, hp, if_neg hk⟩
  · have he : parseO l = (noOrd, e') := parseO_err hq hz
    rw [he]
    exact rps_err hr hl hB hn h1 h2 hz
end Go.Proofs.YteambkehdbffmaaGreat.Oct
