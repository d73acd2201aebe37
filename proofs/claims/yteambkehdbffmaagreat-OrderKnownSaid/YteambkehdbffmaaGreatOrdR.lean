/- Contracts of layer 6: Parse, the program's. -/
import Derived.Test.YteambkehdbffmaaGreatOrdQ
import Derived.Test.YteambkehdbffmaaGreatOrdF
namespace Go.Proofs.YteambkehdbffmaaGreat.Oct
open Go.RowKit
set_option linter.unusedVariables false
set_option linter.unusedSimpArgs false

/-- An order and an error are answered; only new memory, and the outputs in new memory. -/
def OrdRet (o : OrdV) (er : Int) (w : World) (en : Ending) (w' : World) : Prop :=
  ∃ S n c, en = .returned (.tuple #[.agg #[.int .i64 o.k, .int .i64 o.n, .int .i64 o.m, .int .i64 o.r.k, .int .i64 o.r.pr, .int .i64 o.r.to, .int .i64 o.r.po, .int .i64 o.r.x.v, .int .i64 o.r.x.m, .int .u8 o.r.x.b0, .int .u8 o.r.x.b1, .int .u8 o.r.x.b2, .int .u8 o.r.x.i0, .int .u8 o.r.x.i1, .int .u8 o.r.x.i2, .slice S n c, .int .i64 o.f, .int .i64 o.p, .int .i64 o.t, .int .i64 o.q, .int .i64 o.z], .int .i64 er]) ∧ Ron w' w.heap.size S n c o.r.os ∧ Below w.heap.size w w'
def kOrd (k : Int) : OrdV := { noOrd with k := k }
theorem wpList_load_want {T ty : TypeId} {w : World} {g off : Nat} {cs vs : List Value} {ops : Array Oper} {rest : List Oper} {o : Oper} {a : Act} {Q : Exit → Act → World → Prop} (hw : Region.wanted o (yielded ops a.tmps) = true) (x : Operand) (ho : o.op = .load ty x) (hx : a.eval x = .pointer (some ⟨g, off, none⟩)) (hv : Vb T w g cs) (hvs : (cs.drop off).take vs.length = vs) (ht : Agg ty vs.length)
    (h : wpList Tryz.prog ops Q rest (a.put o.dst (.agg vs.toArray)) w) : wpList Tryz.prog ops Q (o :: rest) a w := by
  refine BigFrame.wpList_want hw fun K hK => ?_
  unfold Oper.wp execOp
  simp only [ho, hx, Instr.loadAt, Instr.sureAddr, Sem.run_bind, Sem.run_pure, Result.andThen_ok, run_loadVb hv hvs ht]
  exact hK _ _ h
theorem isK_false {k : Int} (h : isK k = false) : k < 1 ∨ 9 < k := by
  by_cases hv : 1 ≤ k ∧ k ≤ 9
  · rw [(isK_iff k).2 hv] at h; simp at h
  · omega
theorem ron_nil_of {w : World} {lo : Nat} {o : OrdV} (h : o.r.os = []) : Ron w lo none 0 0 o.r.os := by rw [h]; exact Ron.nil _ _
theorem readP_any {w : World} {lo lo2 g ho m : Nat} {l l' : List Int} {e e' k : Int} {o : OrdV} {A : Option Addr} (hR : Rdr 102 w lo g l e) (hx : Vb 60 w ho (ocl (kOrd k) (.slice none 0 0))) (hgo : g < ho) (hN : Rn w lo2 ho A m (numsOf k)) (hlo : ho < lo2) (hq : restRd k (l, e) = (o, (l', e'))) :
    Calls Tryz.prog 46 #[.agg #[.slice A m m, .pointer (ruP k ho), .pointer (prP k ho)], .pointer (some ⟨g, 0, none⟩)] w (fun en w' => en = .returned (.tuple #[]) ∧ Turn2 g ho w w' ∧ Rdr 102 w' lo g l' e' ∧ ∃ S n c, Vb 60 w' ho (ocl o (.slice S n c)) ∧ Ron w' w.heap.size S n c o.r.os) := by
  unfold ruP prP
  by_cases h2 : k = 2 ∨ k = 3
  · have hn : numsOf k = [] := by unfold numsOf; rw [if_neg (by omega), if_neg (by omega), if_neg (by omega), if_neg (by omega), if_neg (by omega)]
    rw [hn] at hN
    have hm := hN.1
    simp at hm
    subst hm
    rw [if_pos h2, if_neg (by omega)]
    rw [restRd_r h2] at hq
    rcases hr : ruleRd (l, e) with ⟨r, l1, e1⟩
    rw [bnd_eq hr] at hq
    simp only [rt, Prod.mk.injEq] at hq
    obtain ⟨rfl, rfl, rfl⟩ := hq
    exact rp_rule A hR hx hgo rfl hr
  rw [if_neg h2]
  by_cases h8 : k = 8
  · have hn : numsOf k = [] := by rw [h8]; rfl
    rw [hn] at hN
    have hm := hN.1
    simp at hm
    subst hm
    rw [if_pos h8]
    rw [h8, restRd_8] at hq
    rcases hr : tx (l, e) with ⟨t, l1, e1⟩
    rw [bnd_eq hr] at hq
    simp only [rt, Prod.mk.injEq] at hq
    obtain ⟨rfl, rfl, rfl⟩ := hq
    refine (rp_link A hR hx hgo rfl hr).mono (fun en w' ⟨h1, h2, h3, h4⟩ => ⟨h1, h2, h3, none, 0, 0, ?_, Ron.nil _ _⟩)
    rw [h8] at h4
    exact h4
  rw [if_neg h8]
  by_cases h4k : k = 4
  · rw [h4k] at hN hx
    rw [h4k, restRd_4] at hq
    rcases hr : nu 1 (l, e) with ⟨x, l1, e1⟩
    rw [bnd_eq hr] at hq
    simp only [rt, Prod.mk.injEq] at hq
    obtain ⟨rfl, rfl, rfl⟩ := hq
    exact (rp_1 A hR hx hgo hN hlo (by simp [ocl]) hr).mono (fun en w' ⟨h1, h2, h3, h4⟩ => ⟨h1, h2, h3, none, 0, 0, h4, Ron.nil _ _⟩)
  by_cases h5k : k = 5
  · rw [h5k] at hN hx
    rw [h5k, restRd_5] at hq
    rcases hr : nu 1 (l, e) with ⟨x, l1, e1⟩
    rcases hs : nu 2 (l1, e1) with ⟨y, l2, e2⟩
    rw [bnd_eq hr, bnd_eq hs] at hq
    simp only [rt, Prod.mk.injEq] at hq
    obtain ⟨rfl, rfl, rfl⟩ := hq
    exact (rp_2 A hR hx hgo hN hlo (by simp [ocl]) (by simp [ocl]) hr hs).mono (fun en w' ⟨h1, h2, h3, h4⟩ => ⟨h1, h2, h3, none, 0, 0, h4, Ron.nil _ _⟩)
  by_cases h6k : k = 6
  · rw [h6k] at hN hx
    rw [h6k, restRd_6] at hq
    rcases hr : nu 4 (l, e) with ⟨x, l1, e1⟩
    rw [bnd_eq hr] at hq
    simp only [rt, Prod.mk.injEq] at hq
    obtain ⟨rfl, rfl, rfl⟩ := hq
    exact (rp_1 A hR hx hgo hN hlo (by simp [ocl]) hr).mono (fun en w' ⟨h1, h2, h3, h4⟩ => ⟨h1, h2, h3, none, 0, 0, h4, Ron.nil _ _⟩)
  by_cases h7k : k = 7
  · rw [h7k] at hN hx
    rw [h7k, restRd_7] at hq
    rcases hr : nu 4 (l, e) with ⟨x, l1, e1⟩
    rcases hs : nu 2 (l1, e1) with ⟨y, l2, e2⟩
    rw [bnd_eq hr, bnd_eq hs] at hq
    simp only [rt, Prod.mk.injEq] at hq
    obtain ⟨rfl, rfl, rfl⟩ := hq
    exact (rp_2 A hR hx hgo hN hlo (by simp [ocl]) (by simp [ocl]) hr hs).mono (fun en w' ⟨h1, h2, h3, h4⟩ => ⟨h1, h2, h3, none, 0, 0, h4, Ron.nil _ _⟩)
  by_cases h9k : k = 9
  · rw [h9k] at hN hx
    rw [h9k, restRd_9] at hq
    rcases hr : nu 1 (l, e) with ⟨x, l1, e1⟩
    rcases hs : nu 1 (l1, e1) with ⟨y, l2, e2⟩
    rw [bnd_eq hr, bnd_eq hs] at hq
    simp only [rt, Prod.mk.injEq] at hq
    obtain ⟨rfl, rfl, rfl⟩ := hq
    exact (rp_2 A hR hx hgo hN hlo (by simp [ocl]) (by simp [ocl]) hr hs).mono (fun en w' ⟨h1, h2, h3, h4⟩ => ⟨h1, h2, h3, none, 0, 0, h4, Ron.nil _ _⟩)
  have hn : numsOf k = [] := by unfold numsOf; rw [if_neg (by omega), if_neg (by omega), if_neg (by omega), if_neg (by omega), if_neg (by omega)]
  rw [hn] at hN
  have hm := hN.1
  simp at hm
  subst hm
  have hq' : restRd k = rt (kOrd k) := by
    unfold restRd; rw [if_neg (by omega), if_neg (by omega), if_neg (by omega), if_neg (by omega), if_neg (by omega), if_neg (by omega), if_neg (by omega)]; rfl
  rw [hq'] at hq
  simp only [rt, Prod.mk.injEq] at hq
  obtain ⟨rfl, rfl, rfl⟩ := hq
  exact (rp_none A hR hx hgo ⟨rfl, rfl⟩).mono (fun en w' ⟨h1, h2, h3, h4⟩ => ⟨h1, h2, h3, none, 0, 0, h4, Ron.nil _ _⟩)
theorem parseO_err {l l' : List Int} {e : Int} {o : OrdV} (h : ordRd (l, 0) = (o, (l', e))) (he : e ≠ 0) : parseO l = (noOrd, e) := by unfold parseO; rw [h]; exact if_pos he
theorem parseO_form {l l' : List Int} {o : OrdV} (h : ordRd (l, 0) = (o, (l', 0))) (hf : ¬ (l'.length = 0 ∧ okOrd o)) : parseO l = (noOrd, 4) := by unfold parseO; rw [h, if_neg (by simp), if_neg hf]
theorem parseO_yes {l l' : List Int} {o : OrdV} (h : ordRd (l, 0) = (o, (l', 0))) (hf : l'.length = 0 ∧ okOrd o) : parseO l = (o, 0) := by unfold parseO; rw [h, if_neg (by simp), if_pos hf]
theorem endR_0 (l : List Int) : endR l 0 = if 0 < l.length then 4 else 0 := rfl
set_option maxRecDepth 100000 in
set_option maxHeartbeats 3200000 in
theorem ps_k_err {w : World} {B n c : Nat} {A : Option Addr} {l l1 l' : List Int} {v e1 e' : Int} {o : OrdV} (hr : Rd .u8 w B A n c l) (hl : By l) (hB : B ≤ w.heap.size) (hn : n ≤ 140737488355328) (h1 : nu 1 (l, 0) = (v, (l1, e1))) (h2 : restRd v (l1, e1) = (o, (l', e'))) (hi : isK v = true) (hz : e' ≠ 0) : Calls Tryz.prog 21 #[.slice A n c] w (OrdRet noOrd e' w) := by
  have H1 := Kp.mk h1
  have H2 := Kp.mk h2
  have HI := Kp.mk hi
  clear h1 h2 hi
  have hne : (e' != 0) = true := by rw [bne, beq_eq_false_iff_ne.2 hz]; rfl
  clear hz
  have hbz := below_alloc w (.cells #[.int .i64 0, .int .i64 0, .int .i64 0, .int .i64 0, .int .i64 0, .int .i64 0, .int .i64 0, .int .i64 0, .int .i64 0, .int .u8 0, .int .u8 0, .int .u8 0, .int .u8 0, .int .u8 0, .int .u8 0, .slice none 0 0, .int .i64 0, .int .i64 0, .int .i64 0, .int .i64 0, .int .i64 0] 37)
  have hvz : Vb 37 (w.alloc (.cells #[.int .i64 0, .int .i64 0, .int .i64 0, .int .i64 0, .int .i64 0, .int .i64 0, .int .i64 0, .int .i64 0, .int .i64 0, .int .u8 0, .int .u8 0, .int .u8 0, .int .u8 0, .int .u8 0, .int .u8 0, .slice none 0 0, .int .i64 0, .int .i64 0, .int .i64 0, .int .i64 0, .int .i64 0] 37)) w.heap.size (ocl noOrd (.slice none 0 0)) := Vb.new 37 w (ocl noOrd (.slice none 0 0))
  have hrz := hr.below' hbz hB
  have hzz : w.heap.size < (w.alloc (.cells #[.int .i64 0, .int .i64 0, .int .i64 0, .int .i64 0, .int .i64 0, .int .i64 0, .int .i64 0, .int .i64 0, .int .i64 0, .int .u8 0, .int .u8 0, .int .u8 0, .int .u8 0, .int .u8 0, .int .u8 0, .slice none 0 0, .int .i64 0, .int .i64 0, .int .i64 0, .int .i64 0, .int .i64 0] 37)).heap.size := by simp
  go_enter Tryz.func21, Tryz.ntmps21
  go_upto_region 1 with fail
  generalize w.alloc (.cells #[.int .i64 0, .int .i64 0, .int .i64 0, .int .i64 0, .int .i64 0, .int .i64 0, .int .i64 0, .int .i64 0, .int .i64 0, .int .u8 0, .int .u8 0, .int .u8 0, .int .u8 0, .int .u8 0, .int .u8 0, .slice none 0 0, .int .i64 0, .int .i64 0, .int .i64 0, .int .i64 0, .int .i64 0] 37) = w0 at *
  go_wp2_with fail
  refine (read_any hrz hl (by omega) hn).mono ?_
  rintro en w1 ⟨g, rfl, hR1, hb1⟩
  have hlo : w0.heap.size ≤ g := by obtain ⟨_, _, _, _, hlo, _⟩ := hR1; exact hlo
  have hv1 := hvz.below hb1 (by omega)
  have hgl := hR1.lt
  have hT1 := hbz.trans (hb1.mono (by omega))
  have hz1 := hb1.size
  clear hvz hrz hb1 hbz
  go_wp2_with fail
  refine (num_eq 1 hR1 H1.out).mono ?_
  rintro en w2 ⟨rfl, hR2, hg2⟩
  have hv2 := hv1.grown hg2 (by omega)
  have hz2 := hg2.size
  have hT2 := below_grown (B := w.heap.size) hT1 hg2 (by omega) (by omega)
  clear hv1 hR1 hg2 hT1
  go_upto_region 3 with (refine wpList_store_new (vs := ocl (kOrd v) (.slice none 0 0)) rfl (.tmp 5) (.tmp 13) rfl rfl rfl rfl rfl rfl agg_own rfl ?_; intro w3 hx3 hb3 hz3)
  have hv3 := hv2.below hb3 (by omega)
  have hR3 := hR2.below hb3
  have hT3 := hT2.trans (hb3.mono (by omega))
  have hz3' : w2.heap.size < w3.heap.size := by omega
  have hgh : g < w2.heap.size := by omega
  generalize w2.heap.size = ho at *
  clear hz3 hv2 hR2 hb3 hT2
  go_wp2_with fail
  refine (partsOf_any ho w3 v hx3.ord.1).mono ?_
  rintro en w4 ⟨Q, m, rfl, hN4, hb4⟩
  have hz4 := hb4.size
  have hx4 := hx3.below hb4 (by omega)
  have hv4 := hv3.below hb4 (by omega)
  have hR4 := hR3.below hb4
  have hT4 := hT3.trans (hb4.mono (by omega))
  simp only [HI.out]
  clear hx3 hv3 hR3 hb4 hT3
  have hbp := below_alloc w4 (.cells #[.slice Q m m, .pointer (ruP v ho), .pointer (prP v ho)] 65)
  have hp5 := Vb.new 65 w4 [.slice Q m m, .pointer (ruP v ho), .pointer (prP v ho)]
  have hx5 := hx4.below hbp (by omega)
  have hv5 := hv4.below hbp (by omega)
  have hR5 := hR4.below hbp
  have hN5 := (hN4.below hbp).lower (lo' := ho + 1) (by omega)
  have hT5 := hT4.trans (hbp.mono (by omega))
  have hz5 : w4.heap.size < (w4.alloc (.cells #[.slice Q m m, .pointer (ruP v ho), .pointer (prP v ho)] 65)).heap.size := by simp
  go_upto_region 4 with fail
  generalize w4.alloc (.cells #[.slice Q m m, .pointer (ruP v ho), .pointer (prP v ho)] 65) = w5 at *
  clear hx4 hv4 hR4 hbp hT4 hN4
  obtain ⟨f0, f1, f2⟩ := hp5.c3
  go_wp2_with fail
  refine (readP_any hR5 hx5 hgh hN5 (by omega) H2.out).mono ?_
  rintro en w6 ⟨rfl, hT6, hR6, S6, n6, c6, hx6, hr6⟩
  have hv6 := hT6.vb hv5 (by omega) (by omega)
  have hz6 := hT6.2.2.2.1
  have hTT := hT5.trans (hT6.below (by omega) (by omega) (by omega))
  have hr6 := hr6.lower (lo' := w.heap.size + 1) (by omega)
  clear f0 f1 f2 hx5 hv5 hR5 hT5 hT6 hN5 hp5
  go_wp2_with fail
  refine (errM_any hR6).mono ?_
  rintro en wq ⟨rfl, rfl⟩
  go_wp2_with (refine wpList_store_vb (vs := (ocl noOrd (.slice none 0 0))) rfl (.tmp 2) (.tmp 26) rfl rfl rfl hv6 rfl agg_order rfl ?_; intro w9 hv9 hg9 hz9)
  refine bodyPost_ret (results_pair Tryz.results21 _ rfl hv9 agg_order) rfl ?_
  exact ⟨none, 0, 0, rfl, Ron.nil _ _, (hTT.grown hg9 (by omega) (fun k e => by simp at e; omega))⟩
set_option maxRecDepth 100000 in
set_option maxHeartbeats 3200000 in
theorem ps_k_end {w : World} {B n c : Nat} {A : Option Addr} {l l1 l' : List Int} {v e1 e' : Int} {o : OrdV} (hr : Rd .u8 w B A n c l) (hl : By l) (hB : B ≤ w.heap.size) (hn : n ≤ 140737488355328) (h1 : nu 1 (l, 0) = (v, (l1, e1))) (h2 : restRd v (l1, e1) = (o, (l', e'))) (hi : isK v = true) (hz : e' = 0) (hp : 0 < l'.length) : Calls Tryz.prog 21 #[.slice A n c] w (OrdRet noOrd 4 w) := by
  have H1 := Kp.mk h1
  have H2 := Kp.mk h2
  have HI := Kp.mk hi
  clear h1 h2 hi
  have HZ := Kp.mk hz
  have hne : (e' != 0) = false := by rw [hz]; rfl
  have hE : endR l' e' = 4 := by unfold endR; rw [if_pos hp]
  clear hz hp
  have hbz := below_alloc w (.cells #[.int .i64 0, .int .i64 0, .int .i64 0, .int .i64 0, .int .i64 0, .int .i64 0, .int .i64 0, .int .i64 0, .int .i64 0, .int .u8 0, .int .u8 0, .int .u8 0, .int .u8 0, .int .u8 0, .int .u8 0, .slice none 0 0, .int .i64 0, .int .i64 0, .int .i64 0, .int .i64 0, .int .i64 0] 37)
  have hvz : Vb 37 (w.alloc (.cells #[.int .i64 0, .int .i64 0, .int .i64 0, .int .i64 0, .int .i64 0, .int .i64 0, .int .i64 0, .int .i64 0, .int .i64 0, .int .u8 0, .int .u8 0, .int .u8 0, .int .u8 0, .int .u8 0, .int .u8 0, .slice none 0 0, .int .i64 0, .int .i64 0, .int .i64 0, .int .i64 0, .int .i64 0] 37)) w.heap.size (ocl noOrd (.slice none 0 0)) := Vb.new 37 w (ocl noOrd (.slice none 0 0))
  have hrz := hr.below' hbz hB
  have hzz : w.heap.size < (w.alloc (.cells #[.int .i64 0, .int .i64 0, .int .i64 0, .int .i64 0, .int .i64 0, .int .i64 0, .int .i64 0, .int .i64 0, .int .i64 0, .int .u8 0, .int .u8 0, .int .u8 0, .int .u8 0, .int .u8 0, .int .u8 0, .slice none 0 0, .int .i64 0, .int .i64 0, .int .i64 0, .int .i64 0, .int .i64 0] 37)).heap.size := by simp
  go_enter Tryz.func21, Tryz.ntmps21
  go_upto_region 1 with fail
  generalize w.alloc (.cells #[.int .i64 0, .int .i64 0, .int .i64 0, .int .i64 0, .int .i64 0, .int .i64 0, .int .i64 0, .int .i64 0, .int .i64 0, .int .u8 0, .int .u8 0, .int .u8 0, .int .u8 0, .int .u8 0, .int .u8 0, .slice none 0 0, .int .i64 0, .int .i64 0, .int .i64 0, .int .i64 0, .int .i64 0] 37) = w0 at *
  go_wp2_with fail
  refine (read_any hrz hl (by omega) hn).mono ?_
  rintro en w1 ⟨g, rfl, hR1, hb1⟩
  have hlo : w0.heap.size ≤ g := by obtain ⟨_, _, _, _, hlo, _⟩ := hR1; exact hlo
  have hv1 := hvz.below hb1 (by omega)
  have hgl := hR1.lt
  have hT1 := hbz.trans (hb1.mono (by omega))
  have hz1 := hb1.size
  clear hvz hrz hb1 hbz
  go_wp2_with fail
  refine (num_eq 1 hR1 H1.out).mono ?_
  rintro en w2 ⟨rfl, hR2, hg2⟩
  have hv2 := hv1.grown hg2 (by omega)
  have hz2 := hg2.size
  have hT2 := below_grown (B := w.heap.size) hT1 hg2 (by omega) (by omega)
  clear hv1 hR1 hg2 hT1
  go_upto_region 3 with (refine wpList_store_new (vs := ocl (kOrd v) (.slice none 0 0)) rfl (.tmp 5) (.tmp 13) rfl rfl rfl rfl rfl rfl agg_own rfl ?_; intro w3 hx3 hb3 hz3)
  have hv3 := hv2.below hb3 (by omega)
  have hR3 := hR2.below hb3
  have hT3 := hT2.trans (hb3.mono (by omega))
  have hz3' : w2.heap.size < w3.heap.size := by omega
  have hgh : g < w2.heap.size := by omega
  generalize w2.heap.size = ho at *
  clear hz3 hv2 hR2 hb3 hT2
  go_wp2_with fail
  refine (partsOf_any ho w3 v hx3.ord.1).mono ?_
  rintro en w4 ⟨Q, m, rfl, hN4, hb4⟩
  have hz4 := hb4.size
  have hx4 := hx3.below hb4 (by omega)
  have hv4 := hv3.below hb4 (by omega)
  have hR4 := hR3.below hb4
  have hT4 := hT3.trans (hb4.mono (by omega))
  simp only [HI.out]
  clear hx3 hv3 hR3 hb4 hT3
  have hbp := below_alloc w4 (.cells #[.slice Q m m, .pointer (ruP v ho), .pointer (prP v ho)] 65)
  have hp5 := Vb.new 65 w4 [.slice Q m m, .pointer (ruP v ho), .pointer (prP v ho)]
  have hx5 := hx4.below hbp (by omega)
  have hv5 := hv4.below hbp (by omega)
  have hR5 := hR4.below hbp
  have hN5 := (hN4.below hbp).lower (lo' := ho + 1) (by omega)
  have hT5 := hT4.trans (hbp.mono (by omega))
  have hz5 : w4.heap.size < (w4.alloc (.cells #[.slice Q m m, .pointer (ruP v ho), .pointer (prP v ho)] 65)).heap.size := by simp
  go_upto_region 4 with fail
  generalize w4.alloc (.cells #[.slice Q m m, .pointer (ruP v ho), .pointer (prP v ho)] 65) = w5 at *
  clear hx4 hv4 hR4 hbp hT4 hN4
  obtain ⟨f0, f1, f2⟩ := hp5.c3
  go_wp2_with fail
  refine (readP_any hR5 hx5 hgh hN5 (by omega) H2.out).mono ?_
  rintro en w6 ⟨rfl, hT6, hR6, S6, n6, c6, hx6, hr6⟩
  have hv6 := hT6.vb hv5 (by omega) (by omega)
  have hz6 := hT6.2.2.2.1
  have hTT := hT5.trans (hT6.below (by omega) (by omega) (by omega))
  have hr6 := hr6.lower (lo' := w.heap.size + 1) (by omega)
  clear f0 f1 f2 hx5 hv5 hR5 hT5 hT6 hN5 hp5
  go_wp2_with fail
  refine (errM_any hR6).mono ?_
  rintro en wq ⟨rfl, rfl⟩
  go_wp2_with fail
  refine (endM_any hR6).mono ?_
  rintro en wq ⟨rfl, rfl⟩
  simp only [hE]
  go_wp2_with (refine wpList_store_vb (vs := (ocl noOrd (.slice none 0 0))) rfl (.tmp 2) (.tmp 36) rfl rfl rfl hv6 rfl agg_order rfl ?_; intro w9 hv9 hg9 hz9)
  refine bodyPost_ret (results_pair Tryz.results21 _ rfl hv9 agg_order) rfl ?_
  exact ⟨none, 0, 0, rfl, Ron.nil _ _, (hTT.grown hg9 (by omega) (fun k e => by simp at e; omega))⟩
set_option maxRecDepth 100000 in
set_option maxHeartbeats 3200000 in
theorem ps_k_chk {w : World} {B n c : Nat} {A : Option Addr} {l l1 l' : List Int} {v e1 e' : Int} {o : OrdV} (hr : Rd .u8 w B A n c l) (hl : By l) (hB : B ≤ w.heap.size) (hn : n ≤ 140737488355328) (h1 : nu 1 (l, 0) = (v, (l1, e1))) (h2 : restRd v (l1, e1) = (o, (l', e'))) (hi : isK v = true) (hz : e' = 0) (hp : ¬ 0 < l'.length) (hk : checkO o = 2) : Calls Tryz.prog 21 #[.slice A n c] w (OrdRet noOrd 4 w) := by
  have H1 := Kp.mk h1
  have H2 := Kp.mk h2
  have HI := Kp.mk hi
  clear h1 h2 hi
  have HZ := Kp.mk hz
  have hne : (e' != 0) = false := by rw [hz]; rfl
  have hE : endR l' e' = 0 := by rw [hz]; unfold endR; rw [if_neg hp]
  clear hz hp
  have HC := Kp.mk hk
  clear hk
  have hbz := below_alloc w (.cells #[.int .i64 0, .int .i64 0, .int .i64 0, .int .i64 0, .int .i64 0, .int .i64 0, .int .i64 0, .int .i64 0, .int .i64 0, .int .u8 0, .int .u8 0, .int .u8 0, .int .u8 0, .int .u8 0, .int .u8 0, .slice none 0 0, .int .i64 0, .int .i64 0, .int .i64 0, .int .i64 0, .int .i64 0] 37)
  have hvz : Vb 37 (w.alloc (.cells #[.int .i64 0, .int .i64 0, .int .i64 0, .int .i64 0, .int .i64 0, .int .i64 0, .int .i64 0, .int .i64 0, .int .i64 0, .int .u8 0, .int .u8 0, .int .u8 0, .int .u8 0, .int .u8 0, .int .u8 0, .slice none 0 0, .int .i64 0, .int .i64 0, .int .i64 0, .int .i64 0, .int .i64 0] 37)) w.heap.size (ocl noOrd (.slice none 0 0)) := Vb.new 37 w (ocl noOrd (.slice none 0 0))
  have hrz := hr.below' hbz hB
  have hzz : w.heap.size < (w.alloc (.cells #[.int .i64 0, .int .i64 0, .int .i64 0, .int .i64 0, .int .i64 0, .int .i64 0, .int .i64 0, .int .i64 0, .int .i64 0, .int .u8 0, .int .u8 0, .int .u8 0, .int .u8 0, .int .u8 0, .int .u8 0, .slice none 0 0, .int .i64 0, .int .i64 0, .int .i64 0, .int .i64 0, .int .i64 0] 37)).heap.size := by simp
  go_enter Tryz.func21, Tryz.ntmps21
  go_upto_region 1 with fail
  generalize w.alloc (.cells #[.int .i64 0, .int .i64 0, .int .i64 0, .int .i64 0, .int .i64 0, .int .i64 0, .int .i64 0, .int .i64 0, .int .i64 0, .int .u8 0, .int .u8 0, .int .u8 0, .int .u8 0, .int .u8 0, .int .u8 0, .slice none 0 0, .int .i64 0, .int .i64 0, .int .i64 0, .int .i64 0, .int .i64 0] 37) = w0 at *
  go_wp2_with fail
  refine (read_any hrz hl (by omega) hn).mono ?_
  rintro en w1 ⟨g, rfl, hR1, hb1⟩
  have hlo : w0.heap.size ≤ g := by obtain ⟨_, _, _, _, hlo, _⟩ := hR1; exact hlo
  have hv1 := hvz.below hb1 (by omega)
  have hgl := hR1.lt
  have hT1 := hbz.trans (hb1.mono (by omega))
  have hz1 := hb1.size
  clear hvz hrz hb1 hbz
  go_wp2_with fail
  refine (num_eq 1 hR1 H1.out).mono ?_
  rintro en w2 ⟨rfl, hR2, hg2⟩
  have hv2 := hv1.grown hg2 (by omega)
  have hz2 := hg2.size
  have hT2 := below_grown (B := w.heap.size) hT1 hg2 (by omega) (by omega)
  clear hv1 hR1 hg2 hT1
  go_upto_region 3 with (refine wpList_store_new (vs := ocl (kOrd v) (.slice none 0 0)) rfl (.tmp 5) (.tmp 13) rfl rfl rfl rfl rfl rfl agg_own rfl ?_; intro w3 hx3 hb3 hz3)
  have hv3 := hv2.below hb3 (by omega)
  have hR3 := hR2.below hb3
  have hT3 := hT2.trans (hb3.mono (by omega))
  have hz3' : w2.heap.size < w3.heap.size := by omega
  have hgh : g < w2.heap.size := by omega
  generalize w2.heap.size = ho at *
  clear hz3 hv2 hR2 hb3 hT2
  go_wp2_with fail
  refine (partsOf_any ho w3 v hx3.ord.1).mono ?_
  rintro en w4 ⟨Q, m, rfl, hN4, hb4⟩
  have hz4 := hb4.size
  have hx4 := hx3.below hb4 (by omega)
  have hv4 := hv3.below hb4 (by omega)
  have hR4 := hR3.below hb4
  have hT4 := hT3.trans (hb4.mono (by omega))
  simp only [HI.out]
  clear hx3 hv3 hR3 hb4 hT3
  have hbp := below_alloc w4 (.cells #[.slice Q m m, .pointer (ruP v ho), .pointer (prP v ho)] 65)
  have hp5 := Vb.new 65 w4 [.slice Q m m, .pointer (ruP v ho), .pointer (prP v ho)]
  have hx5 := hx4.below hbp (by omega)
  have hv5 := hv4.below hbp (by omega)
  have hR5 := hR4.below hbp
  have hN5 := (hN4.below hbp).lower (lo' := ho + 1) (by omega)
  have hT5 := hT4.trans (hbp.mono (by omega))
  have hz5 : w4.heap.size < (w4.alloc (.cells #[.slice Q m m, .pointer (ruP v ho), .pointer (prP v ho)] 65)).heap.size := by simp
  go_upto_region 4 with fail
  generalize w4.alloc (.cells #[.slice Q m m, .pointer (ruP v ho), .pointer (prP v ho)] 65) = w5 at *
  clear hx4 hv4 hR4 hbp hT4 hN4
  obtain ⟨f0, f1, f2⟩ := hp5.c3
  go_wp2_with fail
  refine (readP_any hR5 hx5 hgh hN5 (by omega) H2.out).mono ?_
  rintro en w6 ⟨rfl, hT6, hR6, S6, n6, c6, hx6, hr6⟩
  have hv6 := hT6.vb hv5 (by omega) (by omega)
  have hz6 := hT6.2.2.2.1
  have hTT := hT5.trans (hT6.below (by omega) (by omega) (by omega))
  have hr6 := hr6.lower (lo' := w.heap.size + 1) (by omega)
  clear f0 f1 f2 hx5 hv5 hR5 hT5 hT6 hN5 hp5
  go_wp2_with fail
  refine (errM_any hR6).mono ?_
  rintro en wq ⟨rfl, rfl⟩
  go_wp2_with fail
  refine (endM_any hR6).mono ?_
  rintro en wq ⟨rfl, rfl⟩
  simp only [hE]
  go_wp2_with (refine wpList_load_want (vs := ocl o (.slice S6 n6 c6)) (by rfl) (.tmp 5) rfl rfl hx6 rfl agg_own ?_)
  refine (orderCheck_any o hr6.ro (Nat.le_refl _)).mono ?_
  rw [HC.out]
  rintro en w8 ⟨rfl, hb8⟩
  have hv6 := hv6.below hb8 (by omega)
  have hx8 := hx6.below hb8 (by omega)
  have hr8 := hr6.below hb8
  have hTT := hTT.trans (hb8.mono (by omega))
  have hz8 := hb8.size
  go_wp2_with (refine wpList_store_vb (vs := (ocl noOrd (.slice none 0 0))) rfl (.tmp 2) (.tmp 36) rfl rfl rfl hv6 rfl agg_order rfl ?_; intro w9 hv9 hg9 hz9)
  refine bodyPost_ret (results_pair Tryz.results21 _ rfl hv9 agg_order) rfl ?_
  exact ⟨none, 0, 0, rfl, Ron.nil _ _, (hTT.grown hg9 (by omega) (fun k e => by simp at e; omega))⟩
set_option maxRecDepth 100000 in
set_option maxHeartbeats 3200000 in
theorem ps_k_ok {w : World} {B n c : Nat} {A : Option Addr} {l l1 l' : List Int} {v e1 e' : Int} {o : OrdV} (hr : Rd .u8 w B A n c l) (hl : By l) (hB : B ≤ w.heap.size) (hn : n ≤ 140737488355328) (h1 : nu 1 (l, 0) = (v, (l1, e1))) (h2 : restRd v (l1, e1) = (o, (l', e'))) (hi : isK v = true) (hz : e' = 0) (hp : ¬ 0 < l'.length) (hk : checkO o = 0) : Calls Tryz.prog 21 #[.slice A n c] w (OrdRet o 0 w) := by
  have H1 := Kp.mk h1
  have H2 := Kp.mk h2
  have HI := Kp.mk hi
  clear h1 h2 hi
  have HZ := Kp.mk hz
  have hne : (e' != 0) = false := by rw [hz]; rfl
  have hE : endR l' e' = 0 := by rw [hz]; unfold endR; rw [if_neg hp]
  clear hz hp
  have HC := Kp.mk hk
  clear hk
  have hbz := below_alloc w (.cells #[.int .i64 0, .int .i64 0, .int .i64 0, .int .i64 0, .int .i64 0, .int .i64 0, .int .i64 0, .int .i64 0, .int .i64 0, .int .u8 0, .int .u8 0, .int .u8 0, .int .u8 0, .int .u8 0, .int .u8 0, .slice none 0 0, .int .i64 0, .int .i64 0, .int .i64 0, .int .i64 0, .int .i64 0] 37)
  have hvz : Vb 37 (w.alloc (.cells #[.int .i64 0, .int .i64 0, .int .i64 0, .int .i64 0, .int .i64 0, .int .i64 0, .int .i64 0, .int .i64 0, .int .i64 0, .int .u8 0, .int .u8 0, .int .u8 0, .int .u8 0, .int .u8 0, .int .u8 0, .slice none 0 0, .int .i64 0, .int .i64 0, .int .i64 0, .int .i64 0, .int .i64 0] 37)) w.heap.size (ocl noOrd (.slice none 0 0)) := Vb.new 37 w (ocl noOrd (.slice none 0 0))
  have hrz := hr.below' hbz hB
  have hzz : w.heap.size < (w.alloc (.cells #[.int .i64 0, .int .i64 0, .int .i64 0, .int .i64 0, .int .i64 0, .int .i64 0, .int .i64 0, .int .i64 0, .int .i64 0, .int .u8 0, .int .u8 0, .int .u8 0, .int .u8 0, .int .u8 0, .int .u8 0, .slice none 0 0, .int .i64 0, .int .i64 0, .int .i64 0, .int .i64 0, .int .i64 0] 37)).heap.size := by simp
  go_enter Tryz.func21, Tryz.ntmps21
  go_upto_region 1 with fail
  generalize w.alloc (.cells #[.int .i64 0, .int .i64 0, .int .i64 0, .int .i64 0, .int .i64 0, .int .i64 0, .int .i64 0, .int .i64 0, .int .i64 0, .int .u8 0, .int .u8 0, .int .u8 0, .int .u8 0, .int .u8 0, .int .u8 0, .slice none 0 0, .int .i64 0, .int .i64 0, .int .i64 0, .int .i64 0, .int .i64 0] 37) = w0 at *
  go_wp2_with fail
  refine (read_any hrz hl (by omega) hn).mono ?_
  rintro en w1 ⟨g, rfl, hR1, hb1⟩
  have hlo : w0.heap.size ≤ g := by obtain ⟨_, _, _, _, hlo, _⟩ := hR1; exact hlo
  have hv1 := hvz.below hb1 (by omega)
  have hgl := hR1.lt
  have hT1 := hbz.trans (hb1.mono (by omega))
  have hz1 := hb1.size
  clear hvz hrz hb1 hbz
  go_wp2_with fail
  refine (num_eq 1 hR1 H1.out).mono ?_
  rintro en w2 ⟨rfl, hR2, hg2⟩
  have hv2 := hv1.grown hg2 (by omega)
  have hz2 := hg2.size
  have hT2 := below_grown (B := w.heap.size) hT1 hg2 (by omega) (by omega)
  clear hv1 hR1 hg2 hT1
  go_upto_region 3 with (refine wpList_store_new (vs := ocl (kOrd v) (.slice none 0 0)) rfl (.tmp 5) (.tmp 13) rfl rfl rfl rfl rfl rfl agg_own rfl ?_; intro w3 hx3 hb3 hz3)
  have hv3 := hv2.below hb3 (by omega)
  have hR3 := hR2.below hb3
  have hT3 := hT2.trans (hb3.mono (by omega))
  have hz3' : w2.heap.size < w3.heap.size := by omega
  have hgh : g < w2.heap.size := by omega
  generalize w2.heap.size = ho at *
  clear hz3 hv2 hR2 hb3 hT2
  go_wp2_with fail
  refine (partsOf_any ho w3 v hx3.ord.1).mono ?_
  rintro en w4 ⟨Q, m, rfl, hN4, hb4⟩
  have hz4 := hb4.size
  have hx4 := hx3.below hb4 (by omega)
  have hv4 := hv3.below hb4 (by omega)
  have hR4 := hR3.below hb4
  have hT4 := hT3.trans (hb4.mono (by omega))
  simp only [HI.out]
  clear hx3 hv3 hR3 hb4 hT3
  have hbp := below_alloc w4 (.cells #[.slice Q m m, .pointer (ruP v ho), .pointer (prP v ho)] 65)
  have hp5 := Vb.new 65 w4 [.slice Q m m, .pointer (ruP v ho), .pointer (prP v ho)]
  have hx5 := hx4.below hbp (by omega)
  have hv5 := hv4.below hbp (by omega)
  have hR5 := hR4.below hbp
  have hN5 := (hN4.below hbp).lower (lo' := ho + 1) (by omega)
  have hT5 := hT4.trans (hbp.mono (by omega))
  have hz5 : w4.heap.size < (w4.alloc (.cells #[.slice Q m m, .pointer (ruP v ho), .pointer (prP v ho)] 65)).heap.size := by simp
  go_upto_region 4 with fail
  generalize w4.alloc (.cells #[.slice Q m m, .pointer (ruP v ho), .pointer (prP v ho)] 65) = w5 at *
  clear hx4 hv4 hR4 hbp hT4 hN4
  obtain ⟨f0, f1, f2⟩ := hp5.c3
  go_wp2_with fail
  refine (readP_any hR5 hx5 hgh hN5 (by omega) H2.out).mono ?_
  rintro en w6 ⟨rfl, hT6, hR6, S6, n6, c6, hx6, hr6⟩
  have hv6 := hT6.vb hv5 (by omega) (by omega)
  have hz6 := hT6.2.2.2.1
  have hTT := hT5.trans (hT6.below (by omega) (by omega) (by omega))
  have hr6 := hr6.lower (lo' := w.heap.size + 1) (by omega)
  clear f0 f1 f2 hx5 hv5 hR5 hT5 hT6 hN5 hp5
  go_wp2_with fail
  refine (errM_any hR6).mono ?_
  rintro en wq ⟨rfl, rfl⟩
  go_wp2_with fail
  refine (endM_any hR6).mono ?_
  rintro en wq ⟨rfl, rfl⟩
  simp only [hE]
  go_wp2_with (refine wpList_load_want (vs := ocl o (.slice S6 n6 c6)) (by rfl) (.tmp 5) rfl rfl hx6 rfl agg_own ?_)
  refine (orderCheck_any o hr6.ro (Nat.le_refl _)).mono ?_
  rw [HC.out]
  rintro en w8 ⟨rfl, hb8⟩
  have hv6 := hv6.below hb8 (by omega)
  have hx8 := hx6.below hb8 (by omega)
  have hr8 := hr6.below hb8
  have hTT := hTT.trans (hb8.mono (by omega))
  have hz8 := hb8.size
  go_wp2_with (first | (refine wpList_load_vb (vs := ocl o (.slice S6 n6 c6)) rfl (.tmp 5) rfl rfl hx8 rfl agg_own ?_) | (refine wpList_store_vb (vs := ocl o (.slice S6 n6 c6)) rfl (.tmp 2) (.tmp 37) rfl rfl rfl hv6 rfl agg_order rfl ?_; intro w9 hv9 hg9 hz9))
  refine bodyPost_ret (results_pair Tryz.results21 _ rfl hv9 agg_order) rfl ?_
  exact ⟨S6, n6, c6, rfl, (hr8.grown hg9 (by omega)).lower (by omega), (hTT.grown hg9 (by omega) (fun k e => by simp at e; omega))⟩
set_option maxRecDepth 100000 in
set_option maxHeartbeats 3200000 in
theorem ps_n_err {w : World} {B n c : Nat} {A : Option Addr} {l l1 l' : List Int} {v e1 e' : Int} {o : OrdV} (hr : Rd .u8 w B A n c l) (hl : By l) (hB : B ≤ w.heap.size) (hn : n ≤ 140737488355328) (h1 : nu 1 (l, 0) = (v, (l1, e1))) (h2 : restRd v (l1, e1) = (o, (l', e'))) (hi : isK v = false) (hz : e' ≠ 0) : Calls Tryz.prog 21 #[.slice A n c] w (OrdRet noOrd e' w) := by
  have H1 := Kp.mk h1
  have H2 := Kp.mk h2
  have HI := Kp.mk hi
  have HO := Kp.mk (show o = kOrd v ∧ l1 = l' ∧ e1 = e' by have hv := isK_false hi; rw [restRd_no (by omega)] at h2; simp only [rt, Prod.mk.injEq] at h2; exact ⟨h2.1.symm, h2.2.1, h2.2.2⟩)
  clear h1 h2 hi
  have hne : (e' != 0) = true := by rw [bne, beq_eq_false_iff_ne.2 hz]; rfl
  clear hz
  have hbz := below_alloc w (.cells #[.int .i64 0, .int .i64 0, .int .i64 0, .int .i64 0, .int .i64 0, .int .i64 0, .int .i64 0, .int .i64 0, .int .i64 0, .int .u8 0, .int .u8 0, .int .u8 0, .int .u8 0, .int .u8 0, .int .u8 0, .slice none 0 0, .int .i64 0, .int .i64 0, .int .i64 0, .int .i64 0, .int .i64 0] 37)
  have hvz : Vb 37 (w.alloc (.cells #[.int .i64 0, .int .i64 0, .int .i64 0, .int .i64 0, .int .i64 0, .int .i64 0, .int .i64 0, .int .i64 0, .int .i64 0, .int .u8 0, .int .u8 0, .int .u8 0, .int .u8 0, .int .u8 0, .int .u8 0, .slice none 0 0, .int .i64 0, .int .i64 0, .int .i64 0, .int .i64 0, .int .i64 0] 37)) w.heap.size (ocl noOrd (.slice none 0 0)) := Vb.new 37 w (ocl noOrd (.slice none 0 0))
  have hrz := hr.below' hbz hB
  have hzz : w.heap.size < (w.alloc (.cells #[.int .i64 0, .int .i64 0, .int .i64 0, .int .i64 0, .int .i64 0, .int .i64 0, .int .i64 0, .int .i64 0, .int .i64 0, .int .u8 0, .int .u8 0, .int .u8 0, .int .u8 0, .int .u8 0, .int .u8 0, .slice none 0 0, .int .i64 0, .int .i64 0, .int .i64 0, .int .i64 0, .int .i64 0] 37)).heap.size := by simp
  go_enter Tryz.func21, Tryz.ntmps21
  go_upto_region 1 with fail
  generalize w.alloc (.cells #[.int .i64 0, .int .i64 0, .int .i64 0, .int .i64 0, .int .i64 0, .int .i64 0, .int .i64 0, .int .i64 0, .int .i64 0, .int .u8 0, .int .u8 0, .int .u8 0, .int .u8 0, .int .u8 0, .int .u8 0, .slice none 0 0, .int .i64 0, .int .i64 0, .int .i64 0, .int .i64 0, .int .i64 0] 37) = w0 at *
  go_wp2_with fail
  refine (read_any hrz hl (by omega) hn).mono ?_
  rintro en w1 ⟨g, rfl, hR1, hb1⟩
  have hlo : w0.heap.size ≤ g := by obtain ⟨_, _, _, _, hlo, _⟩ := hR1; exact hlo
  have hv1 := hvz.below hb1 (by omega)
  have hgl := hR1.lt
  have hT1 := hbz.trans (hb1.mono (by omega))
  have hz1 := hb1.size
  clear hvz hrz hb1 hbz
  go_wp2_with fail
  refine (num_eq 1 hR1 H1.out).mono ?_
  rintro en w2 ⟨rfl, hR2, hg2⟩
  have hv2 := hv1.grown hg2 (by omega)
  have hz2 := hg2.size
  have hT2 := below_grown (B := w.heap.size) hT1 hg2 (by omega) (by omega)
  clear hv1 hR1 hg2 hT1
  go_upto_region 3 with (refine wpList_store_new (vs := ocl (kOrd v) (.slice none 0 0)) rfl (.tmp 5) (.tmp 13) rfl rfl rfl rfl rfl rfl agg_own rfl ?_; intro w3 hx3 hb3 hz3)
  have hv3 := hv2.below hb3 (by omega)
  have hR3 := hR2.below hb3
  have hT3 := hT2.trans (hb3.mono (by omega))
  have hz3' : w2.heap.size < w3.heap.size := by omega
  have hgh : g < w2.heap.size := by omega
  generalize w2.heap.size = ho at *
  clear hz3 hv2 hR2 hb3 hT2
  go_wp2_with fail
  refine (partsOf_any ho w3 v hx3.ord.1).mono ?_
  rintro en w4 ⟨Q, m, rfl, hN4, hb4⟩
  have hz4 := hb4.size
  have hx4 := hx3.below hb4 (by omega)
  have hv4 := hv3.below hb4 (by omega)
  have hR4 := hR3.below hb4
  have hT4 := hT3.trans (hb4.mono (by omega))
  simp only [HI.out]
  clear hx3 hv3 hR3 hb4 hT3
  have hbp := below_alloc w4 (.cells #[.slice Q m m, .pointer (ruP v ho), .pointer (prP v ho)] 65)
  have hp5 := Vb.new 65 w4 [.slice Q m m, .pointer (ruP v ho), .pointer (prP v ho)]
  have hx5 := hx4.below hbp (by omega)
  have hv5 := hv4.below hbp (by omega)
  have hR5 := hR4.below hbp
  have hN5 := (hN4.below hbp).lower (lo' := ho + 1) (by omega)
  have hT5 := hT4.trans (hbp.mono (by omega))
  have hz5 : w4.heap.size < (w4.alloc (.cells #[.slice Q m m, .pointer (ruP v ho), .pointer (prP v ho)] 65)).heap.size := by simp
  go_upto_region 4 with fail
  generalize w4.alloc (.cells #[.slice Q m m, .pointer (ruP v ho), .pointer (prP v ho)] 65) = w5 at *
  clear hx4 hv4 hR4 hbp hT4 hN4
  have hR6 : Rdr 102 w5 w0.heap.size g l' e' := by rw [← HO.out.2.1, ← HO.out.2.2]; exact hR5
  have hx6 : Vb 60 w5 ho (ocl o (.slice none 0 0)) := by rw [HO.out.1]; exact hx5
  have hr6 : Ron w5 (w.heap.size + 1) none 0 0 o.r.os := by rw [HO.out.1]; exact Ron.nil _ _
  have hv6 := hv5
  have hTT := hT5
  have hz6 : w5.heap.size ≤ w5.heap.size := Nat.le_refl _
  clear hx5 hv5 hR5 hT5 hN5 hp5
  skip
  go_wp2_with fail
  refine (errM_any hR6).mono ?_
  rintro en wq ⟨rfl, rfl⟩
  go_wp2_with (refine wpList_store_vb (vs := (ocl noOrd (.slice none 0 0))) rfl (.tmp 2) (.tmp 26) rfl rfl rfl hv6 rfl agg_order rfl ?_; intro w9 hv9 hg9 hz9)
  refine bodyPost_ret (results_pair Tryz.results21 _ rfl hv9 agg_order) rfl ?_
  exact ⟨none, 0, 0, rfl, Ron.nil _ _, (hTT.grown hg9 (by omega) (fun k e => by simp at e; omega))⟩
set_option maxRecDepth 100000 in
set_option maxHeartbeats 3200000 in
theorem ps_n_end {w : World} {B n c : Nat} {A : Option Addr} {l l1 l' : List Int} {v e1 e' : Int} {o : OrdV} (hr : Rd .u8 w B A n c l) (hl : By l) (hB : B ≤ w.heap.size) (hn : n ≤ 140737488355328) (h1 : nu 1 (l, 0) = (v, (l1, e1))) (h2 : restRd v (l1, e1) = (o, (l', e'))) (hi : isK v = false) (hz : e' = 0) (hp : 0 < l'.length) : Calls Tryz.prog 21 #[.slice A n c] w (OrdRet noOrd 4 w) := by
  have H1 := Kp.mk h1
  have H2 := Kp.mk h2
  have HI := Kp.mk hi
  have HO := Kp.mk (show o = kOrd v ∧ l1 = l' ∧ e1 = e' by have hv := isK_false hi; rw [restRd_no (by omega)] at h2; simp only [rt, Prod.mk.injEq] at h2; exact ⟨h2.1.symm, h2.2.1, h2.2.2⟩)
  clear h1 h2 hi
  have HZ := Kp.mk hz
  have hne : (e' != 0) = false := by rw [hz]; rfl
  have hE : endR l' e' = 4 := by unfold endR; rw [if_pos hp]
  clear hz hp
  have hbz := below_alloc w (.cells #[.int .i64 0, .int .i64 0, .int .i64 0, .int .i64 0, .int .i64 0, .int .i64 0, .int .i64 0, .int .i64 0, .int .i64 0, .int .u8 0, .int .u8 0, .int .u8 0, .int .u8 0, .int .u8 0, .int .u8 0, .slice none 0 0, .int .i64 0, .int .i64 0, .int .i64 0, .int .i64 0, .int .i64 0] 37)
  have hvz : Vb 37 (w.alloc (.cells #[.int .i64 0, .int .i64 0, .int .i64 0, .int .i64 0, .int .i64 0, .int .i64 0, .int .i64 0, .int .i64 0, .int .i64 0, .int .u8 0, .int .u8 0, .int .u8 0, .int .u8 0, .int .u8 0, .int .u8 0, .slice none 0 0, .int .i64 0, .int .i64 0, .int .i64 0, .int .i64 0, .int .i64 0] 37)) w.heap.size (ocl noOrd (.slice none 0 0)) := Vb.new 37 w (ocl noOrd (.slice none 0 0))
  have hrz := hr.below' hbz hB
  have hzz : w.heap.size < (w.alloc (.cells #[.int .i64 0, .int .i64 0, .int .i64 0, .int .i64 0, .int .i64 0, .int .i64 0, .int .i64 0, .int .i64 0, .int .i64 0, .int .u8 0, .int .u8 0, .int .u8 0, .int .u8 0, .int .u8 0, .int .u8 0, .slice none 0 0, .int .i64 0, .int .i64 0, .int .i64 0, .int .i64 0, .int .i64 0] 37)).heap.size := by simp
  go_enter Tryz.func21, Tryz.ntmps21
  go_upto_region 1 with fail
  generalize w.alloc (.cells #[.int .i64 0, .int .i64 0, .int .i64 0, .int .i64 0, .int .i64 0, .int .i64 0, .int .i64 0, .int .i64 0, .int .i64 0, .int .u8 0, .int .u8 0, .int .u8 0, .int .u8 0, .int .u8 0, .int .u8 0, .slice none 0 0, .int .i64 0, .int .i64 0, .int .i64 0, .int .i64 0, .int .i64 0] 37) = w0 at *
  go_wp2_with fail
  refine (read_any hrz hl (by omega) hn).mono ?_
  rintro en w1 ⟨g, rfl, hR1, hb1⟩
  have hlo : w0.heap.size ≤ g := by obtain ⟨_, _, _, _, hlo, _⟩ := hR1; exact hlo
  have hv1 := hvz.below hb1 (by omega)
  have hgl := hR1.lt
  have hT1 := hbz.trans (hb1.mono (by omega))
  have hz1 := hb1.size
  clear hvz hrz hb1 hbz
  go_wp2_with fail
  refine (num_eq 1 hR1 H1.out).mono ?_
  rintro en w2 ⟨rfl, hR2, hg2⟩
  have hv2 := hv1.grown hg2 (by omega)
  have hz2 := hg2.size
  have hT2 := below_grown (B := w.heap.size) hT1 hg2 (by omega) (by omega)
  clear hv1 hR1 hg2 hT1
  go_upto_region 3 with (refine wpList_store_new (vs := ocl (kOrd v) (.slice none 0 0)) rfl (.tmp 5) (.tmp 13) rfl rfl rfl rfl rfl rfl agg_own rfl ?_; intro w3 hx3 hb3 hz3)
  have hv3 := hv2.below hb3 (by omega)
  have hR3 := hR2.below hb3
  have hT3 := hT2.trans (hb3.mono (by omega))
  have hz3' : w2.heap.size < w3.heap.size := by omega
  have hgh : g < w2.heap.size := by omega
  generalize w2.heap.size = ho at *
  clear hz3 hv2 hR2 hb3 hT2
  go_wp2_with fail
  refine (partsOf_any ho w3 v hx3.ord.1).mono ?_
  rintro en w4 ⟨Q, m, rfl, hN4, hb4⟩
  have hz4 := hb4.size
  have hx4 := hx3.below hb4 (by omega)
  have hv4 := hv3.below hb4 (by omega)
  have hR4 := hR3.below hb4
  have hT4 := hT3.trans (hb4.mono (by omega))
  simp only [HI.out]
  clear hx3 hv3 hR3 hb4 hT3
  have hbp := below_alloc w4 (.cells #[.slice Q m m, .pointer (ruP v ho), .pointer (prP v ho)] 65)
  have hp5 := Vb.new 65 w4 [.slice Q m m, .pointer (ruP v ho), .pointer (prP v ho)]
  have hx5 := hx4.below hbp (by omega)
  have hv5 := hv4.below hbp (by omega)
  have hR5 := hR4.below hbp
  have hN5 := (hN4.below hbp).lower (lo' := ho + 1) (by omega)
  have hT5 := hT4.trans (hbp.mono (by omega))
  have hz5 : w4.heap.size < (w4.alloc (.cells #[.slice Q m m, .pointer (ruP v ho), .pointer (prP v ho)] 65)).heap.size := by simp
  go_upto_region 4 with fail
  generalize w4.alloc (.cells #[.slice Q m m, .pointer (ruP v ho), .pointer (prP v ho)] 65) = w5 at *
  clear hx4 hv4 hR4 hbp hT4 hN4
  have hR6 : Rdr 102 w5 w0.heap.size g l' e' := by rw [← HO.out.2.1, ← HO.out.2.2]; exact hR5
  have hx6 : Vb 60 w5 ho (ocl o (.slice none 0 0)) := by rw [HO.out.1]; exact hx5
  have hr6 : Ron w5 (w.heap.size + 1) none 0 0 o.r.os := by rw [HO.out.1]; exact Ron.nil _ _
  have hv6 := hv5
  have hTT := hT5
  have hz6 : w5.heap.size ≤ w5.heap.size := Nat.le_refl _
  clear hx5 hv5 hR5 hT5 hN5 hp5
  skip
  go_wp2_with fail
  refine (errM_any hR6).mono ?_
  rintro en wq ⟨rfl, rfl⟩
  go_wp2_with fail
  refine (endM_any hR6).mono ?_
  rintro en wq ⟨rfl, rfl⟩
  simp only [hE]
  go_wp2_with (refine wpList_store_vb (vs := (ocl noOrd (.slice none 0 0))) rfl (.tmp 2) (.tmp 36) rfl rfl rfl hv6 rfl agg_order rfl ?_; intro w9 hv9 hg9 hz9)
  refine bodyPost_ret (results_pair Tryz.results21 _ rfl hv9 agg_order) rfl ?_
  exact ⟨none, 0, 0, rfl, Ron.nil _ _, (hTT.grown hg9 (by omega) (fun k e => by simp at e; omega))⟩
set_option maxRecDepth 100000 in
set_option maxHeartbeats 3200000 in
theorem ps_n_chk {w : World} {B n c : Nat} {A : Option Addr} {l l1 l' : List Int} {v e1 e' : Int} {o : OrdV} (hr : Rd .u8 w B A n c l) (hl : By l) (hB : B ≤ w.heap.size) (hn : n ≤ 140737488355328) (h1 : nu 1 (l, 0) = (v, (l1, e1))) (h2 : restRd v (l1, e1) = (o, (l', e'))) (hi : isK v = false) (hz : e' = 0) (hp : ¬ 0 < l'.length) (hk : checkO o = 2) : Calls Tryz.prog 21 #[.slice A n c] w (OrdRet noOrd 4 w) := by
  have H1 := Kp.mk h1
  have H2 := Kp.mk h2
  have HI := Kp.mk hi
  have HO := Kp.mk (show o = kOrd v ∧ l1 = l' ∧ e1 = e' by have hv := isK_false hi; rw [restRd_no (by omega)] at h2; simp only [rt, Prod.mk.injEq] at h2; exact ⟨h2.1.symm, h2.2.1, h2.2.2⟩)
  clear h1 h2 hi
  have HZ := Kp.mk hz
  have hne : (e' != 0) = false := by rw [hz]; rfl
  have hE : endR l' e' = 0 := by rw [hz]; unfold endR; rw [if_neg hp]
  clear hz hp
  have HC := Kp.mk hk
  clear hk
  have hbz := below_alloc w (.cells #[.int .i64 0, .int .i64 0, .int .i64 0, .int .i64 0, .int .i64 0, .int .i64 0, .int .i64 0, .int .i64 0, .int .i64 0, .int .u8 0, .int .u8 0, .int .u8 0, .int .u8 0, .int .u8 0, .int .u8 0, .slice none 0 0, .int .i64 0, .int .i64 0, .int .i64 0, .int .i64 0, .int .i64 0] 37)
  have hvz : Vb 37 (w.alloc (.cells #[.int .i64 0, .int .i64 0, .int .i64 0, .int .i64 0, .int .i64 0, .int .i64 0, .int .i64 0, .int .i64 0, .int .i64 0, .int .u8 0, .int .u8 0, .int .u8 0, .int .u8 0, .int .u8 0, .int .u8 0, .slice none 0 0, .int .i64 0, .int .i64 0, .int .i64 0, .int .i64 0, .int .i64 0] 37)) w.heap.size (ocl noOrd (.slice none 0 0)) := Vb.new 37 w (ocl noOrd (.slice none 0 0))
  have hrz := hr.below' hbz hB
  have hzz : w.heap.size < (w.alloc (.cells #[.int .i64 0, .int .i64 0, .int .i64 0, .int .i64 0, .int .i64 0, .int .i64 0, .int .i64 0, .int .i64 0, .int .i64 0, .int .u8 0, .int .u8 0, .int .u8 0, .int .u8 0, .int .u8 0, .int .u8 0, .slice none 0 0, .int .i64 0, .int .i64 0, .int .i64 0, .int .i64 0, .int .i64 0] 37)).heap.size := by simp
  go_enter Tryz.func21, Tryz.ntmps21
  go_upto_region 1 with fail
  generalize w.alloc (.cells #[.int .i64 0, .int .i64 0, .int .i64 0, .int .i64 0, .int .i64 0, .int .i64 0, .int .i64 0, .int .i64 0, .int .i64 0, .int .u8 0, .int .u8 0, .int .u8 0, .int .u8 0, .int .u8 0, .int .u8 0, .slice none 0 0, .int .i64 0, .int .i64 0, .int .i64 0, .int .i64 0, .int .i64 0] 37) = w0 at *
  go_wp2_with fail
  refine (read_any hrz hl (by omega) hn).mono ?_
  rintro en w1 ⟨g, rfl, hR1, hb1⟩
  have hlo : w0.heap.size ≤ g := by obtain ⟨_, _, _, _, hlo, _⟩ := hR1; exact hlo
  have hv1 := hvz.below hb1 (by omega)
  have hgl := hR1.lt
  have hT1 := hbz.trans (hb1.mono (by omega))
  have hz1 := hb1.size
  clear hvz hrz hb1 hbz
  go_wp2_with fail
  refine (num_eq 1 hR1 H1.out).mono ?_
  rintro en w2 ⟨rfl, hR2, hg2⟩
  have hv2 := hv1.grown hg2 (by omega)
  have hz2 := hg2.size
  have hT2 := below_grown (B := w.heap.size) hT1 hg2 (by omega) (by omega)
  clear hv1 hR1 hg2 hT1
  go_upto_region 3 with (refine wpList_store_new (vs := ocl (kOrd v) (.slice none 0 0)) rfl (.tmp 5) (.tmp 13) rfl rfl rfl rfl rfl rfl agg_own rfl ?_; intro w3 hx3 hb3 hz3)
  have hv3 := hv2.below hb3 (by omega)
  have hR3 := hR2.below hb3
  have hT3 := hT2.trans (hb3.mono (by omega))
  have hz3' : w2.heap.size < w3.heap.size := by omega
  have hgh : g < w2.heap.size := by omega
  generalize w2.heap.size = ho at *
  clear hz3 hv2 hR2 hb3 hT2
  go_wp2_with fail
  refine (partsOf_any ho w3 v hx3.ord.1).mono ?_
  rintro en w4 ⟨Q, m, rfl, hN4, hb4⟩
  have hz4 := hb4.size
  have hx4 := hx3.below hb4 (by omega)
  have hv4 := hv3.below hb4 (by omega)
  have hR4 := hR3.below hb4
  have hT4 := hT3.trans (hb4.mono (by omega))
  simp only [HI.out]
  clear hx3 hv3 hR3 hb4 hT3
  have hbp := below_alloc w4 (.cells #[.slice Q m m, .pointer (ruP v ho), .pointer (prP v ho)] 65)
  have hp5 := Vb.new 65 w4 [.slice Q m m, .pointer (ruP v ho), .pointer (prP v ho)]
  have hx5 := hx4.below hbp (by omega)
  have hv5 := hv4.below hbp (by omega)
  have hR5 := hR4.below hbp
  have hN5 := (hN4.below hbp).lower (lo' := ho + 1) (by omega)
  have hT5 := hT4.trans (hbp.mono (by omega))
  have hz5 : w4.heap.size < (w4.alloc (.cells #[.slice Q m m, .pointer (ruP v ho), .pointer (prP v ho)] 65)).heap.size := by simp
  go_upto_region 4 with fail
  generalize w4.alloc (.cells #[.slice Q m m, .pointer (ruP v ho), .pointer (prP v ho)] 65) = w5 at *
  clear hx4 hv4 hR4 hbp hT4 hN4
  have hR6 : Rdr 102 w5 w0.heap.size g l' e' := by rw [← HO.out.2.1, ← HO.out.2.2]; exact hR5
  have hx6 : Vb 60 w5 ho (ocl o (.slice none 0 0)) := by rw [HO.out.1]; exact hx5
  have hr6 : Ron w5 (w.heap.size + 1) none 0 0 o.r.os := by rw [HO.out.1]; exact Ron.nil _ _
  have hv6 := hv5
  have hTT := hT5
  have hz6 : w5.heap.size ≤ w5.heap.size := Nat.le_refl _
  clear hx5 hv5 hR5 hT5 hN5 hp5
  skip
  go_wp2_with fail
  refine (errM_any hR6).mono ?_
  rintro en wq ⟨rfl, rfl⟩
  go_wp2_with fail
  refine (endM_any hR6).mono ?_
  rintro en wq ⟨rfl, rfl⟩
  simp only [hE]
  go_wp2_with (refine wpList_load_want (vs := ocl o (.slice none 0 0)) (by rfl) (.tmp 5) rfl rfl hx6 rfl agg_own ?_)
  refine (orderCheck_any o hr6.ro (Nat.le_refl _)).mono ?_
  rw [HC.out]
  rintro en w8 ⟨rfl, hb8⟩
  have hv6 := hv6.below hb8 (by omega)
  have hx8 := hx6.below hb8 (by omega)
  have hr8 := hr6.below hb8
  have hTT := hTT.trans (hb8.mono (by omega))
  have hz8 := hb8.size
  go_wp2_with (refine wpList_store_vb (vs := (ocl noOrd (.slice none 0 0))) rfl (.tmp 2) (.tmp 36) rfl rfl rfl hv6 rfl agg_order rfl ?_; intro w9 hv9 hg9 hz9)
  refine bodyPost_ret (results_pair Tryz.results21 _ rfl hv9 agg_order) rfl ?_
  exact ⟨none, 0, 0, rfl, Ron.nil _ _, (hTT.grown hg9 (by omega) (fun k e => by simp at e; omega))⟩
theorem orderParse_any {w : World} {B n c : Nat} {A : Option Addr} {l : List Int} (hr : Rd .u8 w B A n c l) (hl : By l) (hB : B ≤ w.heap.size) (hn : n ≤ 140737488355328) : Calls Tryz.prog 21 #[.slice A n c] w (OrdRet (parseO l).1 (parseO l).2 w) := by
  rcases h1 : nu 1 (l, 0) with ⟨v, l1, e1⟩
  rcases h2 : restRd v (l1, e1) with ⟨o, l', e'⟩
  have hq : ordRd (l, 0) = (o, (l', e')) := by unfold ordRd; rw [bnd_eq h1, h2]
  by_cases hz : e' = 0
  · by_cases hp : 0 < l'.length
    · have he : parseO l = (noOrd, 4) := parseO_form (by rw [hq, hz]) (fun h => by omega)
      rw [he]
      by_cases hi : isK v = true
      · exact ps_k_end hr hl hB hn h1 h2 hi hz hp
      · exact ps_n_end hr hl hB hn h1 h2 (by simpa using hi) hz hp
    · by_cases hk : okOrd o
      · have he : parseO l = (o, 0) := parseO_yes (by rw [hq, hz]) ⟨by omega, hk⟩
        rw [he]
        by_cases hi : isK v = true
        · exact ps_k_ok hr hl hB hn h1 h2 hi hz hp (if_pos hk)
        · exfalso
          have hko := okNM_k hk.1
          have hv : v < 1 ∨ 9 < v := by
            by_cases hv : 1 ≤ v ∧ v ≤ 9
            · exact absurd ((isK_iff v).2 hv) hi
            · omega
          rw [restRd_no (by omega)] at h2
          simp only [rt, Prod.mk.injEq] at h2
          rw [← h2.1] at hko
          simp only at hko
          omega
      · have he : parseO l = (noOrd, 4) := parseO_form (by rw [hq, hz]) (fun h => hk h.2)
        rw [he]
        by_cases hi : isK v = true
        · exact ps_k_chk hr hl hB hn h1 h2 hi hz hp (if_neg hk)
        · exact ps_n_chk hr hl hB hn h1 h2 (by simpa using hi) hz hp (if_neg hk)
  · have he : parseO l = (noOrd, e') := parseO_err hq hz
    rw [he]
    by_cases hi : isK v = true
    · exact ps_k_err hr hl hB hn h1 h2 hi hz
    · exact ps_n_err hr hl hB hn h1 h2 (by simpa using hi) hz
end Go.Proofs.YteambkehdbffmaaGreat.Oct
