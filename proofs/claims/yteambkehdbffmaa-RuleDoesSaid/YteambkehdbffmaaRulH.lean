/- The walk of RuleDoes. -/
import Derived.Test.YteambkehdbffmaaRulG
import Derived.Test.YteambkehdbffmaaMskX
import Derived.Deep.Cut
namespace Go.Proofs.Yteambkehdbffmaa.Oct
open Go.RowKit
set_option linter.unusedVariables false
set_option linter.unusedSimpArgs false

set_option maxRecDepth 100000 in
set_option maxHeartbeats 4000000 in
theorem cutR_any {w : World} {B n c : Nat} {A : Option Addr} (r : RuleV) (h : Ro w B A n c r.os) (hB : B ≤ w.heap.size) : Calls Try.prog 6 #[.agg #[.int .i64 r.k, .int .i64 r.pr, .int .i64 r.to, .int .i64 r.po, .int .i64 r.x.v, .int .i64 r.x.m, .int .u8 r.x.b0, .int .u8 r.x.b1, .int .u8 r.x.b2, .int .u8 r.x.i0, .int .u8 r.x.i1, .int .u8 r.x.i2, .slice A n c]] w fun e w' => ∃ (k : Nat), k ≤ 20 ∧ e = .returned (.agg #[.int .i64 r.k, .int .i64 r.pr, .int .i64 r.to, .int .i64 r.po, .int .i64 r.x.v, .int .i64 r.x.m, .int .u8 r.x.b0, .int .u8 r.x.b1, .int .u8 r.x.b2, .int .u8 r.x.i0, .int .u8 r.x.i1, .int .u8 r.x.i2, .slice A k c]) ∧ Ro w' B A k c (r.os.take k) ∧ Below w.heap.size w w' := by
  have hx : Vb 28 ((w.alloc (.cells #[.int .i64 r.k, .int .i64 r.pr, .int .i64 r.to, .int .i64 r.po, .int .i64 r.x.v, .int .i64 r.x.m, .int .u8 r.x.b0, .int .u8 r.x.b1, .int .u8 r.x.b2, .int .u8 r.x.i0, .int .u8 r.x.i1, .int .u8 r.x.i2, .slice A n c] 28)).alloc (.cells #[.int .i64 0, .int .i64 0, .int .i64 0, .int .i64 0, .int .i64 0, .int .i64 0, .int .u8 0, .int .u8 0, .int .u8 0, .int .u8 0, .int .u8 0, .int .u8 0, .slice none 0 0] 28)) w.heap.size [.int .i64 r.k, .int .i64 r.pr, .int .i64 r.to, .int .i64 r.po, .int .i64 r.x.v, .int .i64 r.x.m, .int .u8 r.x.b0, .int .u8 r.x.b1, .int .u8 r.x.b2, .int .u8 r.x.i0, .int .u8 r.x.i1, .int .u8 r.x.i2, .slice A n c] := (Vb.new 28 w [.int .i64 r.k, .int .i64 r.pr, .int .i64 r.to, .int .i64 r.po, .int .i64 r.x.v, .int .i64 r.x.m, .int .u8 r.x.b0, .int .u8 r.x.b1, .int .u8 r.x.b2, .int .u8 r.x.i0, .int .u8 r.x.i1, .int .u8 r.x.i2, .slice A n c]).alloc _
  have hy : Vb 28 ((w.alloc (.cells #[.int .i64 r.k, .int .i64 r.pr, .int .i64 r.to, .int .i64 r.po, .int .i64 r.x.v, .int .i64 r.x.m, .int .u8 r.x.b0, .int .u8 r.x.b1, .int .u8 r.x.b2, .int .u8 r.x.i0, .int .u8 r.x.i1, .int .u8 r.x.i2, .slice A n c] 28)).alloc (.cells #[.int .i64 0, .int .i64 0, .int .i64 0, .int .i64 0, .int .i64 0, .int .i64 0, .int .u8 0, .int .u8 0, .int .u8 0, .int .u8 0, .int .u8 0, .int .u8 0, .slice none 0 0] 28)) (w.heap.size + 1) [.int .i64 0, .int .i64 0, .int .i64 0, .int .i64 0, .int .i64 0, .int .i64 0, .int .u8 0, .int .u8 0, .int .u8 0, .int .u8 0, .int .u8 0, .int .u8 0, .slice none 0 0] := by have := Vb.new 28 (w.alloc (.cells #[.int .i64 r.k, .int .i64 r.pr, .int .i64 r.to, .int .i64 r.po, .int .i64 r.x.v, .int .i64 r.x.m, .int .u8 r.x.b0, .int .u8 r.x.b1, .int .u8 r.x.b2, .int .u8 r.x.i0, .int .u8 r.x.i1, .int .u8 r.x.i2, .slice A n c] 28)) [.int .i64 0, .int .i64 0, .int .i64 0, .int .i64 0, .int .i64 0, .int .i64 0, .int .u8 0, .int .u8 0, .int .u8 0, .int .u8 0, .int .u8 0, .int .u8 0, .slice none 0 0]; simpa using this
  have hB0 := below_two w (.cells #[.int .i64 r.k, .int .i64 r.pr, .int .i64 r.to, .int .i64 r.po, .int .i64 r.x.v, .int .i64 r.x.m, .int .u8 r.x.b0, .int .u8 r.x.b1, .int .u8 r.x.b2, .int .u8 r.x.i0, .int .u8 r.x.i1, .int .u8 r.x.i2, .slice A n c] 28) (.cells #[.int .i64 0, .int .i64 0, .int .i64 0, .int .i64 0, .int .i64 0, .int .i64 0, .int .u8 0, .int .u8 0, .int .u8 0, .int .u8 0, .int .u8 0, .int .u8 0, .slice none 0 0] 28)
  have hr := h.below' hB0 hB
  have hmax := h.max
  have hle := h.le
  have hcap := h.cap
  have hA := h.2.2.2.1
  clear h
  go_enter Try.func6, Try.ntmps6
  go_upto_region 1 with fail
  generalize (w.alloc (.cells #[.int .i64 r.k, .int .i64 r.pr, .int .i64 r.to, .int .i64 r.po, .int .i64 r.x.v, .int .i64 r.x.m, .int .u8 r.x.b0, .int .u8 r.x.b1, .int .u8 r.x.b2, .int .u8 r.x.i0, .int .u8 r.x.i1, .int .u8 r.x.i2, .slice A n c] 28)).alloc (.cells #[.int .i64 0, .int .i64 0, .int .i64 0, .int .i64 0, .int .i64 0, .int .i64 0, .int .u8 0, .int .u8 0, .int .u8 0, .int .u8 0, .int .u8 0, .int .u8 0, .slice none 0 0] 28) = w0 at *
  have hc := hx.cell 12 rfl
  have hf := hx.free
  by_cases h20 : (n : Int) ≤ 20
  · go_upto_region 2 with fail
    have hx1 : Vb 28 (w0.setCell ⟨w.heap.size, 12, none⟩ (.slice A n c)) w.heap.size [.int .i64 r.k, .int .i64 r.pr, .int .i64 r.to, .int .i64 r.po, .int .i64 r.x.v, .int .i64 r.x.m, .int .u8 r.x.b0, .int .u8 r.x.b1, .int .u8 r.x.b2, .int .u8 r.x.i0, .int .u8 r.x.i1, .int .u8 r.x.i2, .slice A n c] := hx.set 12 _
    have hy1 := hy.other (r := w.heap.size) (by omega) 12 (.slice A n c)
    have hr1 := (hr.pre n (by omega)).below ((Below.refl _ _).setCell (p := ⟨w.heap.size, 12, none⟩) (by simpa using hB) (.slice A n c))
    have hB1 := hB0.setCell (p := ⟨w.heap.size, 12, none⟩) (by simp) (.slice A n c)
    clear hx hy hr hc hf
    generalize w0.setCell ⟨w.heap.size, 12, none⟩ (.slice A n c) = w1 at *
    go_wp2_with (first | refine wpList_load_vb (vs := [.int .i64 r.k, .int .i64 r.pr, .int .i64 r.to, .int .i64 r.po, .int .i64 r.x.v, .int .i64 r.x.m, .int .u8 r.x.b0, .int .u8 r.x.b1, .int .u8 r.x.b2, .int .u8 r.x.i0, .int .u8 r.x.i1, .int .u8 r.x.i2, .slice A n c]) rfl (.tmp 1) rfl rfl hx1 rfl agg_rule ?_ | (refine wpList_store_vb (T := 28) (vs := [.int .i64 r.k, .int .i64 r.pr, .int .i64 r.to, .int .i64 r.po, .int .i64 r.x.v, .int .i64 r.x.m, .int .u8 r.x.b0, .int .u8 r.x.b1, .int .u8 r.x.b2, .int .u8 r.x.i0, .int .u8 r.x.i1, .int .u8 r.x.i2, .slice A n c]) rfl (.tmp 2) (.tmp 11) rfl rfl rfl hy1 rfl agg_rule rfl ?_; intro y1 hv hg hz))
    exact bodyPost_ret (results_one Try.results6 _ rfl hv agg_rule) rfl ⟨n, by omega, rfl, hr1.below ((Below.refl _ _).grown hg (by have := hB1.size; omega) (fun k e => by simp at e; omega)), hB1.grown hg hB1.size (fun k e => by simp at e; omega)⟩
  · go_upto_region 2 with fail
    have hx1 : Vb 28 (w0.setCell ⟨w.heap.size, 12, none⟩ (.slice A 20 c)) w.heap.size [.int .i64 r.k, .int .i64 r.pr, .int .i64 r.to, .int .i64 r.po, .int .i64 r.x.v, .int .i64 r.x.m, .int .u8 r.x.b0, .int .u8 r.x.b1, .int .u8 r.x.b2, .int .u8 r.x.i0, .int .u8 r.x.i1, .int .u8 r.x.i2, .slice A 20 c] := hx.set 12 _
    have hy1 := hy.other (r := w.heap.size) (by omega) 12 (.slice A 20 c)
    have hr1 := (hr.pre 20 (by omega)).below ((Below.refl _ _).setCell (p := ⟨w.heap.size, 12, none⟩) (by simpa using hB) (.slice A 20 c))
    have hB1 := hB0.setCell (p := ⟨w.heap.size, 12, none⟩) (by simp) (.slice A 20 c)
    clear hx hy hr hc hf
    generalize w0.setCell ⟨w.heap.size, 12, none⟩ (.slice A 20 c) = w1 at *
    go_wp2_with (first | refine wpList_load_vb (vs := [.int .i64 r.k, .int .i64 r.pr, .int .i64 r.to, .int .i64 r.po, .int .i64 r.x.v, .int .i64 r.x.m, .int .u8 r.x.b0, .int .u8 r.x.b1, .int .u8 r.x.b2, .int .u8 r.x.i0, .int .u8 r.x.i1, .int .u8 r.x.i2, .slice A 20 c]) rfl (.tmp 1) rfl rfl hx1 rfl agg_rule ?_ | (refine wpList_store_vb (T := 28) (vs := [.int .i64 r.k, .int .i64 r.pr, .int .i64 r.to, .int .i64 r.po, .int .i64 r.x.v, .int .i64 r.x.m, .int .u8 r.x.b0, .int .u8 r.x.b1, .int .u8 r.x.b2, .int .u8 r.x.i0, .int .u8 r.x.i1, .int .u8 r.x.i2, .slice A 20 c]) rfl (.tmp 2) (.tmp 11) rfl rfl rfl hy1 rfl agg_rule rfl ?_; intro y1 hv hg hz))
    exact bodyPost_ret (results_one Try.results6 _ rfl hv agg_rule) rfl ⟨20, by omega, rfl, hr1.below ((Below.refl _ _).grown hg (by have := hB1.size; omega) (fun k e => by simp at e; omega)), hB1.grown hg hB1.size (fun k e => by simp at e; omega)⟩
set_option maxRecDepth 100000 in
set_option maxHeartbeats 4000000 in
theorem ruleDoes_any {w : World} {n c : Nat} {A : Option Addr} (r : RuleV) (a b e : Int) (h : Ro w w.heap.size A n c r.os) : Calls Try.prog 3 #[.agg #[.int .i64 r.k, .int .i64 r.pr, .int .i64 r.to, .int .i64 r.po, .int .i64 r.x.v, .int .i64 r.x.m, .int .u8 r.x.b0, .int .u8 r.x.b1, .int .u8 r.x.b2, .int .u8 r.x.i0, .int .u8 r.x.i1, .int .u8 r.x.i2, .slice A n c], .agg #[.int .u8 a, .int .u8 b, .int .u8 e]] w fun en w' => en = .returned (.bool true) ∧ Below w.heap.size w w' := by
  have hx : Vb 28 ((w.alloc (.cells #[.int .i64 r.k, .int .i64 r.pr, .int .i64 r.to, .int .i64 r.po, .int .i64 r.x.v, .int .i64 r.x.m, .int .u8 r.x.b0, .int .u8 r.x.b1, .int .u8 r.x.b2, .int .u8 r.x.i0, .int .u8 r.x.i1, .int .u8 r.x.i2, .slice A n c] 28)).alloc (.cells #[.int .u8 a, .int .u8 b, .int .u8 e] 23)) w.heap.size [.int .i64 r.k, .int .i64 r.pr, .int .i64 r.to, .int .i64 r.po, .int .i64 r.x.v, .int .i64 r.x.m, .int .u8 r.x.b0, .int .u8 r.x.b1, .int .u8 r.x.b2, .int .u8 r.x.i0, .int .u8 r.x.i1, .int .u8 r.x.i2, .slice A n c] := (Vb.new 28 w [.int .i64 r.k, .int .i64 r.pr, .int .i64 r.to, .int .i64 r.po, .int .i64 r.x.v, .int .i64 r.x.m, .int .u8 r.x.b0, .int .u8 r.x.b1, .int .u8 r.x.b2, .int .u8 r.x.i0, .int .u8 r.x.i1, .int .u8 r.x.i2, .slice A n c]).alloc _
  have hy : Vb 23 ((w.alloc (.cells #[.int .i64 r.k, .int .i64 r.pr, .int .i64 r.to, .int .i64 r.po, .int .i64 r.x.v, .int .i64 r.x.m, .int .u8 r.x.b0, .int .u8 r.x.b1, .int .u8 r.x.b2, .int .u8 r.x.i0, .int .u8 r.x.i1, .int .u8 r.x.i2, .slice A n c] 28)).alloc (.cells #[.int .u8 a, .int .u8 b, .int .u8 e] 23)) (w.heap.size + 1) [.int .u8 a, .int .u8 b, .int .u8 e] := by have := Vb.new 23 (w.alloc (.cells #[.int .i64 r.k, .int .i64 r.pr, .int .i64 r.to, .int .i64 r.po, .int .i64 r.x.v, .int .i64 r.x.m, .int .u8 r.x.b0, .int .u8 r.x.b1, .int .u8 r.x.b2, .int .u8 r.x.i0, .int .u8 r.x.i1, .int .u8 r.x.i2, .slice A n c] 28)) [.int .u8 a, .int .u8 b, .int .u8 e]; simpa using this
  have hB := below_two w (.cells #[.int .i64 r.k, .int .i64 r.pr, .int .i64 r.to, .int .i64 r.po, .int .i64 r.x.v, .int .i64 r.x.m, .int .u8 r.x.b0, .int .u8 r.x.b1, .int .u8 r.x.b2, .int .u8 r.x.i0, .int .u8 r.x.i1, .int .u8 r.x.i2, .slice A n c] 28) (.cells #[.int .u8 a, .int .u8 b, .int .u8 e] 23)
  have hz : ((w.alloc (.cells #[.int .i64 r.k, .int .i64 r.pr, .int .i64 r.to, .int .i64 r.po, .int .i64 r.x.v, .int .i64 r.x.m, .int .u8 r.x.b0, .int .u8 r.x.b1, .int .u8 r.x.b2, .int .u8 r.x.i0, .int .u8 r.x.i1, .int .u8 r.x.i2, .slice A n c] 28)).alloc (.cells #[.int .u8 a, .int .u8 b, .int .u8 e] 23)).heap.size = w.heap.size + 2 := by simp
  have hr := h.below hB
  clear h
  go_enter Try.func3, Try.ntmps3
  go_upto_region 1 with fail
  generalize (w.alloc (.cells #[.int .i64 r.k, .int .i64 r.pr, .int .i64 r.to, .int .i64 r.po, .int .i64 r.x.v, .int .i64 r.x.m, .int .u8 r.x.b0, .int .u8 r.x.b1, .int .u8 r.x.b2, .int .u8 r.x.i0, .int .u8 r.x.i1, .int .u8 r.x.i2, .slice A n c] 28)).alloc (.cells #[.int .u8 a, .int .u8 b, .int .u8 e] 23) = w0 at *
  go_wp2_with (refine wpList_load_vb (vs := [.int .i64 r.k, .int .i64 r.pr, .int .i64 r.to, .int .i64 r.po, .int .i64 r.x.v, .int .i64 r.x.m, .int .u8 r.x.b0, .int .u8 r.x.b1, .int .u8 r.x.b2, .int .u8 r.x.i0, .int .u8 r.x.i1, .int .u8 r.x.i2, .slice A n c]) rfl (.tmp 2) rfl rfl hx rfl agg_rule ?_)
  refine (cutR_any r hr (by omega)).mono ?_
  rintro en w1 ⟨k, hk, rfl, hr1, hb⟩
  have hx1 := hx.below hb hx.lt
  have hy1 := hy.below hb hy.lt
  have hB1 := hB.trans (hb.mono hB.size)
  have hz1 := hb.size
  clear hx hy hr hB hb
  go_upto_region 2 with (refine wpList_store_vb (T := 28) (vs := [.int .i64 r.k, .int .i64 r.pr, .int .i64 r.to, .int .i64 r.po, .int .i64 r.x.v, .int .i64 r.x.m, .int .u8 r.x.b0, .int .u8 r.x.b1, .int .u8 r.x.b2, .int .u8 r.x.i0, .int .u8 r.x.i1, .int .u8 r.x.i2, .slice A k c]) rfl (.tmp 2) (.tmp 6) rfl rfl rfl hx1 rfl agg_rule rfl ?_; intro w2 hx2 hg2 hs2)
  have hy2 := hy1.grown hg2 (by omega)
  have hB2 := hB1.grown hg2 hB1.size (fun k e => by simp at e; omega)
  have hr2 := hr1.below ((Below.refl w.heap.size w1).grown hg2 (by omega) (fun k e => by simp at e; omega))
  obtain ⟨os1, he1⟩ : ∃ os1, os1 = r.os.take k := ⟨_, rfl⟩
  rw [← he1] at hr2
  obtain ⟨r1, hr1e⟩ : ∃ r1 : RuleV, r1 = ⟨r.k, r.pr, r.to, r.po, r.x, os1⟩ := ⟨_, rfl⟩
  replace hx2 : Vb 28 w2 w.heap.size [.int .i64 r1.k, .int .i64 r1.pr, .int .i64 r1.to, .int .i64 r1.po, .int .i64 r1.x.v, .int .i64 r1.x.m, .int .u8 r1.x.b0, .int .u8 r1.x.b1, .int .u8 r1.x.b2, .int .u8 r1.x.i0, .int .u8 r1.x.i1, .int .u8 r1.x.i2, .slice A k c] := by subst hr1e; exact hx2
  replace hr2 : Ro w2 w.heap.size A k c r1.os := by subst hr1e; exact hr2
  clear hr1e he1 hx1 hy1 hr1 hB1 hg2
  have hz2 : w.heap.size + 2 ≤ w2.heap.size := by omega
  clear hs2 hz1 hz
  have hd : Below w2.heap.size w2 w2.drew := (Below.refl _ _).drew
  have hx3 := hx2.below hd hx2.lt
  have hy3 := hy2.below hd hy2.lt
  have hr3 := hr2.below' hd (by omega)
  have hB : Below w.heap.size w w2.drew := hB2.trans (hd.mono (by omega))
  have hz3 : w.heap.size + 2 ≤ w2.drew.heap.size := by have := hd.size; omega
  clear hx2 hy2 hr2 hB2 hd hz2
  have hS0 : (fun W => Vb 28 W w.heap.size [.int .i64 r1.k, .int .i64 r1.pr, .int .i64 r1.to, .int .i64 r1.po, .int .i64 r1.x.v, .int .i64 r1.x.m, .int .u8 r1.x.b0, .int .u8 r1.x.b1, .int .u8 r1.x.b2, .int .u8 r1.x.i0, .int .u8 r1.x.i1, .int .u8 r1.x.i2, .slice A k c] ∧ Vb 23 W (w.heap.size + 1) [.int .u8 a, .int .u8 b, .int .u8 e]) w2.drew := ⟨hx3, hy3⟩
  refine wp_region_held_drew (S := fun W => Vb 28 W w.heap.size [.int .i64 r1.k, .int .i64 r1.pr, .int .i64 r1.to, .int .i64 r1.po, .int .i64 r1.x.v, .int .i64 r1.x.m, .int .u8 r1.x.b0, .int .u8 r1.x.b1, .int .u8 r1.x.b2, .int .u8 r1.x.i0, .int .u8 r1.x.i1, .int .u8 r1.x.i2, .slice A k c] ∧ Vb 23 W (w.heap.size + 1) [.int .u8 a, .int .u8 b, .int .u8 e]) (by kernel_rfl) hS0 (fun _ => ?_)
  clear hx3 hy3
  generalize w2.drew = u0 at *
  refine takeD (i := 0) (v := .agg #[.int .i64 r1.k, .int .i64 r1.pr, .int .i64 r1.to, .int .i64 r1.po, .int .i64 r1.x.v, .int .i64 r1.x.m, .int .u8 r1.x.b0, .int .u8 r1.x.b1, .int .u8 r1.x.b2, .int .u8 r1.x.i0, .int .u8 r1.x.i1, .int .u8 r1.x.i2, .slice A k c]) (some 7) rfl rfl (by kernel_rfl) (by kernel_rfl) (by kernel_rfl) (fun _ _ _ h => h) (Or.inl ⟨by rfl, ?_⟩) hS0 ?_
  · rintro w' ⟨s0, s1⟩
    have d0 := s0.cell 0 rfl
    have d1 := s0.cell 1 rfl
    have d2 := s0.cell 2 rfl
    have d3 := s0.cell 3 rfl
    have d4 := s0.cell 4 rfl
    have d5 := s0.cell 5 rfl
    have d6 := s0.cell 6 rfl
    have d7 := s0.cell 7 rfl
    have d8 := s0.cell 8 rfl
    have d9 := s0.cell 9 rfl
    have d10 := s0.cell 10 rfl
    have d11 := s0.cell 11 rfl
    have d12 := s0.cell 12 rfl
    go_simp
  try simp only [Act.put, List.setIfInBounds_toArray, List.set_cons_zero, List.set_cons_succ]
  refine takeD (i := 1) (v := .agg #[.int .u8 a, .int .u8 b, .int .u8 e]) (some 8) rfl rfl (by kernel_rfl) (by kernel_rfl) (by kernel_rfl) (fun _ _ _ h => h) (Or.inl ⟨by rfl, ?_⟩) hS0 ?_
  · rintro w' ⟨s0, s1⟩
    have d0 := s1.cell 0 rfl
    have d1 := s1.cell 1 rfl
    have d2 := s1.cell 2 rfl
    go_simp
  try simp only [Act.put, List.setIfInBounds_toArray, List.set_cons_zero, List.set_cons_succ]
  refine takeD (i := 3) (v := .agg #[.int .i64 r1.k, .int .i64 r1.pr, .int .i64 r1.to, .int .i64 r1.po, .int .i64 r1.x.v, .int .i64 r1.x.m, .int .u8 r1.x.b0, .int .u8 r1.x.b1, .int .u8 r1.x.b2, .int .u8 r1.x.i0, .int .u8 r1.x.i1, .int .u8 r1.x.i2, .slice A k c]) (some 10) rfl rfl (by kernel_rfl) (by kernel_rfl) (by kernel_rfl) (fun _ _ _ h => h) (Or.inl ⟨by rfl, ?_⟩) hS0 ?_
  · rintro w' ⟨s0, s1⟩
    have d0 := s0.cell 0 rfl
    have d1 := s0.cell 1 rfl
    have d2 := s0.cell 2 rfl
    have d3 := s0.cell 3 rfl
    have d4 := s0.cell 4 rfl
    have d5 := s0.cell 5 rfl
    have d6 := s0.cell 6 rfl
    have d7 := s0.cell 7 rfl
    have d8 := s0.cell 8 rfl
    have d9 := s0.cell 9 rfl
    have d10 := s0.cell 10 rfl
    have d11 := s0.cell 11 rfl
    have d12 := s0.cell 12 rfl
    go_simp
  try simp only [Act.put, List.setIfInBounds_toArray, List.set_cons_zero, List.set_cons_succ]
  refine takeD (i := 4) (v := .agg #[.int .u8 a, .int .u8 b, .int .u8 e]) (some 11) rfl rfl (by kernel_rfl) (by kernel_rfl) (by kernel_rfl) (fun _ _ _ h => h) (Or.inl ⟨by rfl, ?_⟩) hS0 ?_
  · rintro w' ⟨s0, s1⟩
    have d0 := s1.cell 0 rfl
    have d1 := s1.cell 1 rfl
    have d2 := s1.cell 2 rfl
    go_simp
  try simp only [Act.put, List.setIfInBounds_toArray, List.set_cons_zero, List.set_cons_succ]
  refine wpAnyH_ready (rs := [2]) (by kernel_rfl) (by simp) ?_
  refine AllReadyH.cons rfl (fun K hK => ?_) AllReadyH.nil
  try rw [if_pos (by rfl)]
  go_simp
  go_at_call 8
  refine (does_any hr3 (by omega) (by omega) a b e).mono ?_
  rintro en v1 ⟨A1, n1, c1, rfl, hs1, hb1⟩
  have hB1 := hB.trans (hb1.mono hB.size)
  refine hK.out _ _ (⟨hS0.1.below hb1 hS0.1.lt, hS0.2.below hb1 hS0.2.lt⟩) (fun hS1 => ?_)
  clear hK K
  try simp only [Act.put, List.setIfInBounds_toArray, List.set_cons_zero, List.set_cons_succ]
  replace hr3 := hr3.below' hb1 (by omega)
  have hz4 := hb1.size
  refine wpAnyH_ready (rs := [5]) (by kernel_rfl) (by simp) ?_
  refine AllReadyH.cons rfl (fun K hK => ?_) AllReadyH.nil
  try rw [if_pos (by rfl)]
  go_simp
  go_at_call 9
  refine (refDoes_any hr3 (by omega) (by omega) a b e).mono ?_
  rintro en v2 ⟨A2, n2, c2, rfl, hs2, hb2⟩
  have hB2 := hB1.trans (hb2.mono hB1.size)
  refine hK.out _ _ (⟨hS1.1.below hb2 hS1.1.lt, hS1.2.below hb2 hS1.2.lt⟩) (fun hS2 => ?_)
  clear hK K
  try simp only [Act.put, List.setIfInBounds_toArray, List.set_cons_zero, List.set_cons_succ]
  have hz5 := hb2.size
  replace hs1 := hs1.below hb2
  refine wpAnyH_ready (rs := [6]) (by kernel_rfl) (by simp) ?_
  refine AllReadyH.cons rfl (fun K hK => ?_) AllReadyH.nil
  try rw [if_pos (by rfl)]
  go_simp
  go_at_call 7
  refine (sameSent_any hs1 hs2).mono ?_
  rintro en v3 ⟨rfl, hb3⟩
  have hB3 := hB2.trans (hb3.mono hB2.size)
  refine hK.out _ _ (⟨hS2.1.below hb3 hS2.1.lt, hS2.2.below hb3 hS2.2.lt⟩) (fun hS3 => ?_)
  clear hK K
  try simp only [Act.put, List.setIfInBounds_toArray, List.set_cons_zero, List.set_cons_succ]
  refine takeD (i := 7) (v := .bool true) (some 14) rfl rfl (by kernel_rfl) (by kernel_rfl) (by kernel_rfl) (fun _ _ _ h => h) (Or.inl ⟨by rfl, ?_⟩) hS3 ?_
  · rintro w' _
    go_simp
  try simp only [Act.put, List.setIfInBounds_toArray, List.set_cons_zero, List.set_cons_succ]
  refine wpAnyH_ready (rs := [8]) (by kernel_rfl) (by simp) ?_
  refine AllReadyH.cons rfl (fun K hK => ?_) AllReadyH.nil
  try rw [if_pos (by rfl)]
  go_simp
  go_at_call 10
  refine (worksR_any _).mono ?_
  rintro en v4 ⟨rfl, hb4⟩
  have hB4 := hB3.trans (hb4.mono hB3.size)
  refine hK.out _ _ (⟨hS3.1.below hb4 hS3.1.lt, hS3.2.below hb4 hS3.2.lt⟩) (fun hS4 => ?_)
  clear hK K
  try simp only [Act.put, List.setIfInBounds_toArray, List.set_cons_zero, List.set_cons_succ]
  refine takeD (i := 9) (v := .bool true) (some 16) rfl rfl (by kernel_rfl) (by kernel_rfl) (by kernel_rfl) (fun _ _ _ h => h) (Or.inl ⟨by rfl, ?_⟩) hS4 ?_
  · rintro w' _
    go_simp
  try simp only [Act.put, List.setIfInBounds_toArray, List.set_cons_zero, List.set_cons_succ]
  refine takeD (i := 10) (v := .bool true) (some 4) rfl rfl (by kernel_rfl) (by kernel_rfl) (by kernel_rfl) (fun _ _ _ h => h) (Or.inl ⟨by rfl, ?_⟩) hS4 ?_
  · rintro w' _
    go_simp
  try simp only [Act.put, List.setIfInBounds_toArray, List.set_cons_zero, List.set_cons_succ]
  refine wpAnyH_done (by kernel_rfl) ?_ _
  go_wp2_with fail
  go_ret
  exact ⟨rfl, hB4⟩
theorem RuleDoes_walk (r : RuleV) (A : Option Addr) (n c : Nat) (z1 : List Int) (w : World) (h : Ro w w.heap.size A n c r.os) (_ : MB r.x) (_ : c * 32 ≤ 140737488351232) (l1 : z1.length = 3) (h1 : ∀ p ∈ [IntKind.u8, .u8, .u8].zip z1, (Lit.int p.1 p.2).wf = true) :
    Calls Try.prog 3 #[.agg #[.int .i64 r.k, .int .i64 r.pr, .int .i64 r.to, .int .i64 r.po, .int .i64 r.x.v, .int .i64 r.x.m, .int .u8 r.x.b0, .int .u8 r.x.b1, .int .u8 r.x.b2, .int .u8 r.x.i0, .int .u8 r.x.i1, .int .u8 r.x.i2, .slice A n c], .agg (List.zipWith Value.int [.u8, .u8, .u8] z1).toArray] w fun e w' => e = .returned (.bool true) ∧ Below w.heap.size w w' := by
  obtain ⟨a, b, e, rfl, _⟩ := header_of z1 l1 h1
  exact ruleDoes_any r a b e h
end Go.Proofs.Yteambkehdbffmaa.Oct
