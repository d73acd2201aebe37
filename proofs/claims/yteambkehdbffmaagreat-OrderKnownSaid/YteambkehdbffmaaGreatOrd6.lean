/- Contracts of layer 6: the laws' made. -/
import Derived.Test.YteambkehdbffmaaGreatOrd5
import Derived.Test.YteambkehdbffmaaGreatOrdE
import Derived.Test.YteambkehdbffmaaGreatOrdT
namespace Go.Proofs.YteambkehdbffmaaGreat.Oct
open Go.RowKit
set_option linter.unusedVariables false
set_option linter.unusedSimpArgs false

/-- An order that may be is answered, in memory that abides. -/
def MadeOf (w : World) (e : Ending) (w' : World) : Prop :=
  ∃ (o : OrdV) (A : Option Addr) (n c : Nat), e = .returned (.agg (ocl o (.slice A n c)).toArray) ∧ Ron w' w.heap.size A n c o.r.os ∧ okOrd o ∧ u8M o.r.x ∧ Below w.heap.size w w'
def numO (k n m : Int) : OrdV := ⟨k, n, m, noRule, 0, 0, 0, 0, 0⟩
theorem zeroR_no : zeroR noRule := ⟨rfl, rfl, rfl, rfl, ⟨rfl, rfl, rfl, rfl, rfl, rfl, rfl, rfl⟩, rfl⟩
theorem ok_num {k n m : Int} (h : okNM (numO k n m)) (h2 : k ≠ 2) (h3 : k ≠ 3) (h8 : k ≠ 8) : okOrd (numO k n m) := by
  refine ⟨h, ?_, ?_⟩
  · unfold okRu; rw [if_neg (by unfold numO; simp only; omega)]; exact zeroR_no
  · unfold okPr; rw [if_neg (by unfold numO; simp only; omega)]; exact ⟨rfl, rfl, rfl, rfl, rfl⟩
theorem ok_rule {k : Int} {r : RuleV} (hk : k = 2 ∨ k = 3) (hr : okR r) : okOrd ⟨k, 0, 0, r, 0, 0, 0, 0, 0⟩ := by
  refine ⟨?_, ?_, ?_⟩
  · rcases hk with rfl | rfl
    · exact .inr (.inl ⟨rfl, rfl, rfl⟩)
    · exact .inr (.inr (.inl ⟨rfl, rfl, rfl⟩))
  · unfold okRu; rw [if_pos (by simp only; omega)]; exact hr
  · unfold okPr; rw [if_neg (by simp only; omega)]; exact ⟨rfl, rfl, rfl, rfl, rfl⟩
theorem ok_link {f p t q z : Int} (h1 : 1 ≤ f ∧ f ≤ 6) (h2 : 1 ≤ p ∧ p ≤ 4) (h3 : 1 ≤ t ∧ t ≤ 6) (h4 : 1 ≤ q ∧ q ≤ 4) (h5 : 0 ≤ z ∧ z ≤ 65535) : okOrd ⟨8, 0, 0, noRule, f, p, t, q, z⟩ := by
  refine ⟨.inr (.inr (.inr (.inr (.inr (.inr (.inr (.inl ⟨rfl, rfl, rfl⟩))))))), ?_, ?_⟩
  · unfold okRu; rw [if_neg (by simp only; omega)]; exact zeroR_no
  · unfold okPr; rw [if_pos rfl]; exact ⟨by unfold okQ; simp only; omega, by simp only; omega⟩

set_option maxRecDepth 100000 in
set_option maxHeartbeats 8000000 in
theorem madeO_any {w : World} {B n c : Nat} {A : Option Addr} (o : OrdV) (h : Ro w B A n c o.r.os) (hB : B ≤ w.heap.size) (h8 : u8M o.r.x) : Calls Tryz.prog 23 #[.agg #[.int .i64 o.k, .int .i64 o.n, .int .i64 o.m, .int .i64 o.r.k, .int .i64 o.r.pr, .int .i64 o.r.to, .int .i64 o.r.po, .int .i64 o.r.x.v, .int .i64 o.r.x.m, .int .u8 o.r.x.b0, .int .u8 o.r.x.b1, .int .u8 o.r.x.b2, .int .u8 o.r.x.i0, .int .u8 o.r.x.i1, .int .u8 o.r.x.i2, .slice A n c, .int .i64 o.f, .int .i64 o.p, .int .i64 o.t, .int .i64 o.q, .int .i64 o.z]] w (MadeOf w) := by
  have hx : Vb 37 ((w.alloc (.cells #[.int .i64 o.k, .int .i64 o.n, .int .i64 o.m, .int .i64 o.r.k, .int .i64 o.r.pr, .int .i64 o.r.to, .int .i64 o.r.po, .int .i64 o.r.x.v, .int .i64 o.r.x.m, .int .u8 o.r.x.b0, .int .u8 o.r.x.b1, .int .u8 o.r.x.b2, .int .u8 o.r.x.i0, .int .u8 o.r.x.i1, .int .u8 o.r.x.i2, .slice A n c, .int .i64 o.f, .int .i64 o.p, .int .i64 o.t, .int .i64 o.q, .int .i64 o.z] 37)).alloc (.cells #[.int .i64 0, .int .i64 0, .int .i64 0, .int .i64 0, .int .i64 0, .int .i64 0, .int .i64 0, .int .i64 0, .int .i64 0, .int .u8 0, .int .u8 0, .int .u8 0, .int .u8 0, .int .u8 0, .int .u8 0, .slice none 0 0, .int .i64 0, .int .i64 0, .int .i64 0, .int .i64 0, .int .i64 0] 37)) w.heap.size (ocl o (.slice A n c)) := (Vb.new 37 w (ocl o (.slice A n c))).alloc _
  have hv : Vb 37 ((w.alloc (.cells #[.int .i64 o.k, .int .i64 o.n, .int .i64 o.m, .int .i64 o.r.k, .int .i64 o.r.pr, .int .i64 o.r.to, .int .i64 o.r.po, .int .i64 o.r.x.v, .int .i64 o.r.x.m, .int .u8 o.r.x.b0, .int .u8 o.r.x.b1, .int .u8 o.r.x.b2, .int .u8 o.r.x.i0, .int .u8 o.r.x.i1, .int .u8 o.r.x.i2, .slice A n c, .int .i64 o.f, .int .i64 o.p, .int .i64 o.t, .int .i64 o.q, .int .i64 o.z] 37)).alloc (.cells #[.int .i64 0, .int .i64 0, .int .i64 0, .int .i64 0, .int .i64 0, .int .i64 0, .int .i64 0, .int .i64 0, .int .i64 0, .int .u8 0, .int .u8 0, .int .u8 0, .int .u8 0, .int .u8 0, .int .u8 0, .slice none 0 0, .int .i64 0, .int .i64 0, .int .i64 0, .int .i64 0, .int .i64 0] 37)) (w.heap.size + 1) (ocl noOrd (.slice none 0 0)) := by have := Vb.new 37 (w.alloc (.cells #[.int .i64 o.k, .int .i64 o.n, .int .i64 o.m, .int .i64 o.r.k, .int .i64 o.r.pr, .int .i64 o.r.to, .int .i64 o.r.po, .int .i64 o.r.x.v, .int .i64 o.r.x.m, .int .u8 o.r.x.b0, .int .u8 o.r.x.b1, .int .u8 o.r.x.b2, .int .u8 o.r.x.i0, .int .u8 o.r.x.i1, .int .u8 o.r.x.i2, .slice A n c, .int .i64 o.f, .int .i64 o.p, .int .i64 o.t, .int .i64 o.q, .int .i64 o.z] 37)) (ocl noOrd (.slice none 0 0)); rw [alloc_size] at this; exact this
  have hb := below_two w (.cells #[.int .i64 o.k, .int .i64 o.n, .int .i64 o.m, .int .i64 o.r.k, .int .i64 o.r.pr, .int .i64 o.r.to, .int .i64 o.r.po, .int .i64 o.r.x.v, .int .i64 o.r.x.m, .int .u8 o.r.x.b0, .int .u8 o.r.x.b1, .int .u8 o.r.x.b2, .int .u8 o.r.x.i0, .int .u8 o.r.x.i1, .int .u8 o.r.x.i2, .slice A n c, .int .i64 o.f, .int .i64 o.p, .int .i64 o.t, .int .i64 o.q, .int .i64 o.z] 37) (.cells #[.int .i64 0, .int .i64 0, .int .i64 0, .int .i64 0, .int .i64 0, .int .i64 0, .int .i64 0, .int .i64 0, .int .i64 0, .int .u8 0, .int .u8 0, .int .u8 0, .int .u8 0, .int .u8 0, .int .u8 0, .slice none 0 0, .int .i64 0, .int .i64 0, .int .i64 0, .int .i64 0, .int .i64 0] 37)
  have hr := h.below' hb hB
  clear h
  generalize hP : MadeOf w = P
  go_enter Tryz.func23, Tryz.ntmps23
  go_upto_region 1 with fail
  generalize (w.alloc (.cells #[.int .i64 o.k, .int .i64 o.n, .int .i64 o.m, .int .i64 o.r.k, .int .i64 o.r.pr, .int .i64 o.r.to, .int .i64 o.r.po, .int .i64 o.r.x.v, .int .i64 o.r.x.m, .int .u8 o.r.x.b0, .int .u8 o.r.x.b1, .int .u8 o.r.x.b2, .int .u8 o.r.x.i0, .int .u8 o.r.x.i1, .int .u8 o.r.x.i2, .slice A n c, .int .i64 o.f, .int .i64 o.p, .int .i64 o.t, .int .i64 o.q, .int .i64 o.z] 37)).alloc (.cells #[.int .i64 0, .int .i64 0, .int .i64 0, .int .i64 0, .int .i64 0, .int .i64 0, .int .i64 0, .int .i64 0, .int .i64 0, .int .u8 0, .int .u8 0, .int .u8 0, .int .u8 0, .int .u8 0, .int .u8 0, .slice none 0 0, .int .i64 0, .int .i64 0, .int .i64 0, .int .i64 0, .int .i64 0] 37) = w0 at *
  have d0 := hx.cell 0 rfl
  have bk := Ser.bringP_bd o.k 9 (by omega)
  have fk : IntKind.i64.wrap (1 + Ser.bringP o.k 9) = 1 + Ser.bringP o.k 9 := IntWalk.i64_in _ (by omega)
  have Bk := Kp.mk (show 1 ≤ 1 + Ser.bringP o.k 9 ∧ 1 + Ser.bringP o.k 9 ≤ 9 by omega)
  clear bk
  go_wp2_with fail
  refine (Ser.bring_any _ _ _ (by omega) (by omega)).mono ?_
  rintro e v ⟨rfl, rfl⟩
  have hlt := hv.lt
  go_upto_region 2 with (refine wpList_store_new (vs := ocl (numO (1 + Ser.bringP o.k 9) 0 0) (.slice none 0 0)) rfl (.tmp 3) (.tmp 8) rfl rfl rfl rfl rfl rfl agg_order rfl ?_; intro w1 hm hb2 hz2)
  clear d0 fk
  replace hx := hx.below hb2 hx.lt
  replace hv := hv.below hb2 hv.lt
  replace hr := hr.below' hb2 (by omega)
  replace hb := hb.trans (hb2.mono hb.size)
  clear hb2 hz2
  generalize w0.heap.size = g at *
  generalize 1 + Ser.bringP o.k 9 = kk at *
  have b1 := Bk.out
  have hk : kk = 1 ∨ kk = 2 ∨ kk = 3 ∨ kk = 4 ∨ kk = 5 ∨ kk = 6 ∨ kk = 7 ∨ kk = 8 ∨ kk = 9 := by omega
  clear Bk b1
  rcases hk with rfl | rfl | rfl | rfl | rfl | rfl | rfl | rfl | rfl
  · have d0 := hm.cell 0 rfl
    change w1.cell? ⟨g, 0, none⟩ = some (.int .i64 1) at d0
    go_wp2_with (first | (refine wpList_load_vb (vs := ocl (numO 1 0 0) (.slice none 0 0)) rfl (.tmp 3) rfl rfl hm rfl agg_order ?_) | (refine wpList_store_vb (vs := ocl (numO 1 0 0) (.slice none 0 0)) rfl (.tmp 2) (.tmp 88) rfl rfl rfl hv rfl agg_order rfl ?_; intro w9 hv9 hg9 hz9))
    refine bodyPost_ret (results_one Tryz.results23 _ rfl hv9 agg_order) rfl ?_
    rw [← hP]
    exact ⟨(numO 1 0 0), _, _, _, rfl, Ron.nil _ _, ok_num (.inl ⟨rfl, rfl, rfl⟩) (by omega) (by omega) (by omega), byOf rfl, hb.grown hg9 (by have := hb.size; omega) (fun k e => by simp at e; omega)⟩
  · have d0 := hm.cell 0 rfl
    change w1.cell? ⟨g, 0, none⟩ = some (.int .i64 2) at d0
    go_wp2_with (refine wpList_load_vb (vs := [.int .i64 o.r.k, .int .i64 o.r.pr, .int .i64 o.r.to, .int .i64 o.r.po, .int .i64 o.r.x.v, .int .i64 o.r.x.m, .int .u8 o.r.x.b0, .int .u8 o.r.x.b1, .int .u8 o.r.x.b2, .int .u8 o.r.x.i0, .int .u8 o.r.x.i1, .int .u8 o.r.x.i2, .slice A n c]) rfl (.tmp 14) rfl rfl hx rfl agg_rule ?_)
    refine (ruled_any o.r hr (by have := hb.size; omega) h8).mono ?_
    intro e w2 hp
    obtain ⟨r2, A2, n2, c2, rfl, hr2, ok2, u2, hb2⟩ := hp
    have hm2 := hm.below hb2 hm.lt
    have hv2 := hv.below hb2 hv.lt
    have hB2 := hb.trans (hb2.mono hb.size)
    have hl2 := hm.lt
    have hz2 := hb2.size
    clear hm hv hb hx hr hb2 d0
    go_upto_region 21 with (refine wpList_store_at (vs := [.int .i64 r2.k, .int .i64 r2.pr, .int .i64 r2.to, .int .i64 r2.po, .int .i64 r2.x.v, .int .i64 r2.x.m, .int .u8 r2.x.b0, .int .u8 r2.x.b1, .int .u8 r2.x.b2, .int .u8 r2.x.i0, .int .u8 r2.x.i1, .int .u8 r2.x.i2, .slice A2 n2 c2]) rfl (.tmp 17) (.tmp 16) rfl rfl rfl hm2 (by simp [ocl]) agg_rule rfl ?_; intro w3 hm3 hg3 hz3)
    replace hm3 : Vb 37 w3 g (ocl ⟨2, 0, 0, r2, 0, 0, 0, 0, 0⟩ (.slice A2 n2 c2)) := hm3
    have hv3 := hv2.grown hg3 (by omega)
    have hB3 := hB2.grown hg3 (by have := hB2.size; omega) (fun k e => by simp at e; omega)
    have hr3 := hr2.keep (by omega) (fun b h1 h2 => hg3.block b h2 (by simp; omega))
    have hw1 : w.heap.size + 1 < w1.heap.size := by omega
    go_wp2_with (first | (refine wpList_load_vb (vs := ocl ⟨2, 0, 0, r2, 0, 0, 0, 0, 0⟩ (.slice A2 n2 c2)) rfl (.tmp 3) rfl rfl hm3 rfl agg_order ?_) | (refine wpList_store_vb (vs := ocl ⟨2, 0, 0, r2, 0, 0, 0, 0, 0⟩ (.slice A2 n2 c2)) rfl (.tmp 2) (.tmp 88) rfl rfl rfl hv3 rfl agg_order rfl ?_; intro w9 hv9 hg9 hz9))
    refine bodyPost_ret (results_one Tryz.results23 _ rfl hv9 agg_order) rfl ?_
    rw [← hP]
    exact ⟨⟨2, 0, 0, r2, 0, 0, 0, 0, 0⟩, _, _, _, rfl, (hr3.keep (by omega) (fun b h1 h2 => hg9.block b h2 (by simp; omega))).lower (by omega), ok_rule (by omega) ok2, u2, hB3.grown hg9 (by have := hB3.size; omega) (fun k e => by simp at e; omega)⟩
  · have d0 := hm.cell 0 rfl
    change w1.cell? ⟨g, 0, none⟩ = some (.int .i64 3) at d0
    go_wp2_with (refine wpList_load_vb (vs := [.int .i64 o.r.k, .int .i64 o.r.pr, .int .i64 o.r.to, .int .i64 o.r.po, .int .i64 o.r.x.v, .int .i64 o.r.x.m, .int .u8 o.r.x.b0, .int .u8 o.r.x.b1, .int .u8 o.r.x.b2, .int .u8 o.r.x.i0, .int .u8 o.r.x.i1, .int .u8 o.r.x.i2, .slice A n c]) rfl (.tmp 14) rfl rfl hx rfl agg_rule ?_)
    refine (ruled_any o.r hr (by have := hb.size; omega) h8).mono ?_
    intro e w2 hp
    obtain ⟨r2, A2, n2, c2, rfl, hr2, ok2, u2, hb2⟩ := hp
    have hm2 := hm.below hb2 hm.lt
    have hv2 := hv.below hb2 hv.lt
    have hB2 := hb.trans (hb2.mono hb.size)
    have hl2 := hm.lt
    have hz2 := hb2.size
    clear hm hv hb hx hr hb2 d0
    go_upto_region 21 with (refine wpList_store_at (vs := [.int .i64 r2.k, .int .i64 r2.pr, .int .i64 r2.to, .int .i64 r2.po, .int .i64 r2.x.v, .int .i64 r2.x.m, .int .u8 r2.x.b0, .int .u8 r2.x.b1, .int .u8 r2.x.b2, .int .u8 r2.x.i0, .int .u8 r2.x.i1, .int .u8 r2.x.i2, .slice A2 n2 c2]) rfl (.tmp 17) (.tmp 16) rfl rfl rfl hm2 (by simp [ocl]) agg_rule rfl ?_; intro w3 hm3 hg3 hz3)
    replace hm3 : Vb 37 w3 g (ocl ⟨3, 0, 0, r2, 0, 0, 0, 0, 0⟩ (.slice A2 n2 c2)) := hm3
    have hv3 := hv2.grown hg3 (by omega)
    have hB3 := hB2.grown hg3 (by have := hB2.size; omega) (fun k e => by simp at e; omega)
    have hr3 := hr2.keep (by omega) (fun b h1 h2 => hg3.block b h2 (by simp; omega))
    have hw1 : w.heap.size + 1 < w1.heap.size := by omega
    go_wp2_with (first | (refine wpList_load_vb (vs := ocl ⟨3, 0, 0, r2, 0, 0, 0, 0, 0⟩ (.slice A2 n2 c2)) rfl (.tmp 3) rfl rfl hm3 rfl agg_order ?_) | (refine wpList_store_vb (vs := ocl ⟨3, 0, 0, r2, 0, 0, 0, 0, 0⟩ (.slice A2 n2 c2)) rfl (.tmp 2) (.tmp 88) rfl rfl rfl hv3 rfl agg_order rfl ?_; intro w9 hv9 hg9 hz9))
    refine bodyPost_ret (results_one Tryz.results23 _ rfl hv9 agg_order) rfl ?_
    rw [← hP]
    exact ⟨⟨3, 0, 0, r2, 0, 0, 0, 0, 0⟩, _, _, _, rfl, (hr3.keep (by omega) (fun b h1 h2 => hg9.block b h2 (by simp; omega))).lower (by omega), ok_rule (by omega) ok2, u2, hB3.grown hg9 (by have := hB3.size; omega) (fun k e => by simp at e; omega)⟩
  · have d0 := hm.cell 0 rfl
    change w1.cell? ⟨g, 0, none⟩ = some (.int .i64 4) at d0
    have d1 := hx.cell 1 rfl
    change w1.cell? ⟨w.heap.size, 1, none⟩ = some (.int .i64 o.n) at d1
    have s1 := Ser.bringP_bd o.n 201 (by omega)
    have S1 := Kp.mk s1
    clear s1
    have hf := hm.free
    have e1 := hm.cell 1 rfl
    go_wp2_with fail
    refine (Ser.bring_any _ _ _ (by omega) (by omega)).mono ?_
    rintro e v ⟨rfl, rfl⟩
    have hn0 : Vb 37 (w1.setCell ⟨g, 1, none⟩ (.int .i64 (Ser.bringP o.n 201))) g (ocl (numO 4 (Ser.bringP o.n 201) 0) (.slice none 0 0)) := hm.set 1 _
    have gb := (Below.refl g w1).setCell (p := ⟨g, 1, none⟩) (by simp) (.int .i64 (Ser.bringP o.n 201))
    replace hx := hx.below gb (by omega)
    replace hv := hv.below gb (by omega)
    replace hb := hb.trans (gb.mono (by omega))
    clear gb hm
    go_upto_region 21 with fail
    clear d0 d1 hf e1
    generalize w1.setCell ⟨g, 1, none⟩ (.int .i64 (Ser.bringP o.n 201)) = v0 at *
    have d0 := hn0.cell 0 rfl
    change v0.cell? ⟨g, 0, none⟩ = some (.int .i64 4) at d0
    have S1_ := S1.out
    go_wp2_with (first | (refine wpList_load_vb (vs := ocl (numO 4 (Ser.bringP o.n 201) 0) (.slice none 0 0)) rfl (.tmp 3) rfl rfl hn0 rfl agg_order ?_) | (refine wpList_store_vb (vs := ocl (numO 4 (Ser.bringP o.n 201) 0) (.slice none 0 0)) rfl (.tmp 2) (.tmp 88) rfl rfl rfl hv rfl agg_order rfl ?_; intro w9 hv9 hg9 hz9))
    refine bodyPost_ret (results_one Tryz.results23 _ rfl hv9 agg_order) rfl ?_
    rw [← hP]
    exact ⟨(numO 4 (Ser.bringP o.n 201) 0), _, _, _, rfl, Ron.nil _ _, ok_num (.inr (.inr (.inr (.inl ⟨rfl, ⟨by show (0 : Int) ≤ (Ser.bringP o.n 201); omega, by show (Ser.bringP o.n 201) ≤ (200 : Int); omega⟩, rfl⟩)))) (by omega) (by omega) (by omega), byOf rfl, hb.grown hg9 (by have := hb.size; omega) (fun k e => by simp at e; omega)⟩
  · have d0 := hm.cell 0 rfl
    change w1.cell? ⟨g, 0, none⟩ = some (.int .i64 5) at d0
    have d1 := hx.cell 1 rfl
    change w1.cell? ⟨w.heap.size, 1, none⟩ = some (.int .i64 o.n) at d1
    have s1 := Ser.bringP_bd o.n 4 (by omega)
    have f1 : IntKind.i64.wrap (1 + Ser.bringP o.n 4) = 1 + Ser.bringP o.n 4 := IntWalk.i64_in _ (by omega)
    have S1 := Kp.mk s1
    clear s1
    have hf := hm.free
    have e1 := hm.cell 1 rfl
    go_wp2_with fail
    refine (Ser.bring_any _ _ _ (by omega) (by omega)).mono ?_
    rintro e v ⟨rfl, rfl⟩
    have hn0 : Vb 37 (w1.setCell ⟨g, 1, none⟩ (.int .i64 (1 + Ser.bringP o.n 4))) g (ocl (numO 5 (1 + Ser.bringP o.n 4) 0) (.slice none 0 0)) := hm.set 1 _
    have gb := (Below.refl g w1).setCell (p := ⟨g, 1, none⟩) (by simp) (.int .i64 (1 + Ser.bringP o.n 4))
    replace hx := hx.below gb (by omega)
    replace hv := hv.below gb (by omega)
    replace hb := hb.trans (gb.mono (by omega))
    clear gb hm
    go_upto_region 10 with fail
    clear d0 d1 hf e1
    clear f1
    generalize w1.setCell ⟨g, 1, none⟩ (.int .i64 (1 + Ser.bringP o.n 4)) = v0 at *
    have d0 := hn0.cell 0 rfl
    change v0.cell? ⟨g, 0, none⟩ = some (.int .i64 5) at d0
    have d2 := hx.cell 2 rfl
    change v0.cell? ⟨w.heap.size, 2, none⟩ = some (.int .i64 o.m) at d2
    have s2 := Ser.bringP_bd o.m 65536 (by omega)
    have S2 := Kp.mk s2
    clear s2
    have hf := hn0.free
    have e1 := hn0.cell 2 rfl
    go_wp2_with fail
    refine (Ser.bring_any _ _ _ (by omega) (by omega)).mono ?_
    rintro e v ⟨rfl, rfl⟩
    have hn1 : Vb 37 (v0.setCell ⟨g, 2, none⟩ (.int .i64 (Ser.bringP o.m 65536))) g (ocl (numO 5 (1 + Ser.bringP o.n 4) (Ser.bringP o.m 65536)) (.slice none 0 0)) := hn0.set 2 _
    have gb := (Below.refl g v0).setCell (p := ⟨g, 2, none⟩) (by simp) (.int .i64 (Ser.bringP o.m 65536))
    replace hx := hx.below gb (by omega)
    replace hv := hv.below gb (by omega)
    replace hb := hb.trans (gb.mono (by omega))
    clear gb hn0
    go_upto_region 21 with fail
    clear d0 d2 hf e1
    generalize v0.setCell ⟨g, 2, none⟩ (.int .i64 (Ser.bringP o.m 65536)) = v1 at *
    have d0 := hn1.cell 0 rfl
    change v1.cell? ⟨g, 0, none⟩ = some (.int .i64 5) at d0
    have S1_ := S1.out
    have S2_ := S2.out
    go_wp2_with (first | (refine wpList_load_vb (vs := ocl (numO 5 (1 + Ser.bringP o.n 4) (Ser.bringP o.m 65536)) (.slice none 0 0)) rfl (.tmp 3) rfl rfl hn1 rfl agg_order ?_) | (refine wpList_store_vb (vs := ocl (numO 5 (1 + Ser.bringP o.n 4) (Ser.bringP o.m 65536)) (.slice none 0 0)) rfl (.tmp 2) (.tmp 88) rfl rfl rfl hv rfl agg_order rfl ?_; intro w9 hv9 hg9 hz9))
    refine bodyPost_ret (results_one Tryz.results23 _ rfl hv9 agg_order) rfl ?_
    rw [← hP]
    exact ⟨(numO 5 (1 + Ser.bringP o.n 4) (Ser.bringP o.m 65536)), _, _, _, rfl, Ron.nil _ _, ok_num (.inr (.inr (.inr (.inr (.inl ⟨rfl, ⟨by show (1 : Int) ≤ (1 + Ser.bringP o.n 4); omega, by show (1 + Ser.bringP o.n 4) ≤ (4 : Int); omega⟩, ⟨by show (0 : Int) ≤ (Ser.bringP o.m 65536); omega, by show (Ser.bringP o.m 65536) ≤ (65535 : Int); omega⟩⟩))))) (by omega) (by omega) (by omega), byOf rfl, hb.grown hg9 (by have := hb.size; omega) (fun k e => by simp at e; omega)⟩
  · have d0 := hm.cell 0 rfl
    change w1.cell? ⟨g, 0, none⟩ = some (.int .i64 6) at d0
    have d1 := hx.cell 1 rfl
    change w1.cell? ⟨w.heap.size, 1, none⟩ = some (.int .i64 o.n) at d1
    have s1 := Ser.bringP_bd o.n 4294967296 (by omega)
    have S1 := Kp.mk s1
    clear s1
    have hf := hm.free
    have e1 := hm.cell 1 rfl
    go_wp2_with fail
    refine (Ser.bring_any _ _ _ (by omega) (by omega)).mono ?_
    rintro e v ⟨rfl, rfl⟩
    have hn0 : Vb 37 (w1.setCell ⟨g, 1, none⟩ (.int .i64 (Ser.bringP o.n 4294967296))) g (ocl (numO 6 (Ser.bringP o.n 4294967296) 0) (.slice none 0 0)) := hm.set 1 _
    have gb := (Below.refl g w1).setCell (p := ⟨g, 1, none⟩) (by simp) (.int .i64 (Ser.bringP o.n 4294967296))
    replace hx := hx.below gb (by omega)
    replace hv := hv.below gb (by omega)
    replace hb := hb.trans (gb.mono (by omega))
    clear gb hm
    go_upto_region 14 with fail
    clear d0 d1 hf e1
    generalize w1.setCell ⟨g, 1, none⟩ (.int .i64 (Ser.bringP o.n 4294967296)) = v0 at *
    have d0 := hn0.cell 0 rfl
    change v0.cell? ⟨g, 0, none⟩ = some (.int .i64 6) at d0
    have S1_ := S1.out
    go_wp2_with (first | (refine wpList_load_vb (vs := ocl (numO 6 (Ser.bringP o.n 4294967296) 0) (.slice none 0 0)) rfl (.tmp 3) rfl rfl hn0 rfl agg_order ?_) | (refine wpList_store_vb (vs := ocl (numO 6 (Ser.bringP o.n 4294967296) 0) (.slice none 0 0)) rfl (.tmp 2) (.tmp 88) rfl rfl rfl hv rfl agg_order rfl ?_; intro w9 hv9 hg9 hz9))
    refine bodyPost_ret (results_one Tryz.results23 _ rfl hv9 agg_order) rfl ?_
    rw [← hP]
    exact ⟨(numO 6 (Ser.bringP o.n 4294967296) 0), _, _, _, rfl, Ron.nil _ _, ok_num (.inr (.inr (.inr (.inr (.inr (.inl ⟨rfl, ⟨by show (0 : Int) ≤ (Ser.bringP o.n 4294967296); omega, by show (Ser.bringP o.n 4294967296) ≤ (4294967295 : Int); omega⟩, rfl⟩)))))) (by omega) (by omega) (by omega), byOf rfl, hb.grown hg9 (by have := hb.size; omega) (fun k e => by simp at e; omega)⟩
  · have d0 := hm.cell 0 rfl
    change w1.cell? ⟨g, 0, none⟩ = some (.int .i64 7) at d0
    have d1 := hx.cell 1 rfl
    change w1.cell? ⟨w.heap.size, 1, none⟩ = some (.int .i64 o.n) at d1
    have s1 := Ser.bringP_bd o.n 4294967296 (by omega)
    have S1 := Kp.mk s1
    clear s1
    have hf := hm.free
    have e1 := hm.cell 1 rfl
    go_wp2_with fail
    refine (Ser.bring_any _ _ _ (by omega) (by omega)).mono ?_
    rintro e v ⟨rfl, rfl⟩
    have hn0 : Vb 37 (w1.setCell ⟨g, 1, none⟩ (.int .i64 (Ser.bringP o.n 4294967296))) g (ocl (numO 7 (Ser.bringP o.n 4294967296) 0) (.slice none 0 0)) := hm.set 1 _
    have gb := (Below.refl g w1).setCell (p := ⟨g, 1, none⟩) (by simp) (.int .i64 (Ser.bringP o.n 4294967296))
    replace hx := hx.below gb (by omega)
    replace hv := hv.below gb (by omega)
    replace hb := hb.trans (gb.mono (by omega))
    clear gb hm
    go_upto_region 14 with fail
    clear d0 d1 hf e1
    generalize w1.setCell ⟨g, 1, none⟩ (.int .i64 (Ser.bringP o.n 4294967296)) = v0 at *
    have d0 := hn0.cell 0 rfl
    change v0.cell? ⟨g, 0, none⟩ = some (.int .i64 7) at d0
    have d2 := hx.cell 2 rfl
    change v0.cell? ⟨w.heap.size, 2, none⟩ = some (.int .i64 o.m) at d2
    have s2 := Ser.bringP_bd o.m 65536 (by omega)
    have S2 := Kp.mk s2
    clear s2
    have hf := hn0.free
    have e1 := hn0.cell 2 rfl
    go_wp2_with fail
    refine (Ser.bring_any _ _ _ (by omega) (by omega)).mono ?_
    rintro e v ⟨rfl, rfl⟩
    have hn1 : Vb 37 (v0.setCell ⟨g, 2, none⟩ (.int .i64 (Ser.bringP o.m 65536))) g (ocl (numO 7 (Ser.bringP o.n 4294967296) (Ser.bringP o.m 65536)) (.slice none 0 0)) := hn0.set 2 _
    have gb := (Below.refl g v0).setCell (p := ⟨g, 2, none⟩) (by simp) (.int .i64 (Ser.bringP o.m 65536))
    replace hx := hx.below gb (by omega)
    replace hv := hv.below gb (by omega)
    replace hb := hb.trans (gb.mono (by omega))
    clear gb hn0
    go_upto_region 21 with fail
    clear d0 d2 hf e1
    generalize v0.setCell ⟨g, 2, none⟩ (.int .i64 (Ser.bringP o.m 65536)) = v1 at *
    have d0 := hn1.cell 0 rfl
    change v1.cell? ⟨g, 0, none⟩ = some (.int .i64 7) at d0
    have S1_ := S1.out
    have S2_ := S2.out
    go_wp2_with (first | (refine wpList_load_vb (vs := ocl (numO 7 (Ser.bringP o.n 4294967296) (Ser.bringP o.m 65536)) (.slice none 0 0)) rfl (.tmp 3) rfl rfl hn1 rfl agg_order ?_) | (refine wpList_store_vb (vs := ocl (numO 7 (Ser.bringP o.n 4294967296) (Ser.bringP o.m 65536)) (.slice none 0 0)) rfl (.tmp 2) (.tmp 88) rfl rfl rfl hv rfl agg_order rfl ?_; intro w9 hv9 hg9 hz9))
    refine bodyPost_ret (results_one Tryz.results23 _ rfl hv9 agg_order) rfl ?_
    rw [← hP]
    exact ⟨(numO 7 (Ser.bringP o.n 4294967296) (Ser.bringP o.m 65536)), _, _, _, rfl, Ron.nil _ _, ok_num (.inr (.inr (.inr (.inr (.inr (.inr (.inl ⟨rfl, ⟨by show (0 : Int) ≤ (Ser.bringP o.n 4294967296); omega, by show (Ser.bringP o.n 4294967296) ≤ (4294967295 : Int); omega⟩, ⟨by show (0 : Int) ≤ (Ser.bringP o.m 65536); omega, by show (Ser.bringP o.m 65536) ≤ (65535 : Int); omega⟩⟩))))))) (by omega) (by omega) (by omega), byOf rfl, hb.grown hg9 (by have := hb.size; omega) (fun k e => by simp at e; omega)⟩
  · have d0 := hm.cell 0 rfl
    change w1.cell? ⟨g, 0, none⟩ = some (.int .i64 8) at d0
    go_upto_region 17 with fail
    clear d0
    have s0 := Ser.bringP_bd o.f 6 (by omega)
    have f0 : IntKind.i64.wrap (1 + Ser.bringP o.f 6) = 1 + Ser.bringP o.f 6 := IntWalk.i64_in _ (by omega)
    have s1 := Ser.bringP_bd o.p 4 (by omega)
    have f1 : IntKind.i64.wrap (1 + Ser.bringP o.p 4) = 1 + Ser.bringP o.p 4 := IntWalk.i64_in _ (by omega)
    have s2 := Ser.bringP_bd o.t 6 (by omega)
    have f2 : IntKind.i64.wrap (1 + Ser.bringP o.t 6) = 1 + Ser.bringP o.t 6 := IntWalk.i64_in _ (by omega)
    have s3 := Ser.bringP_bd o.q 4 (by omega)
    have f3 : IntKind.i64.wrap (1 + Ser.bringP o.q 4) = 1 + Ser.bringP o.q 4 := IntWalk.i64_in _ (by omega)
    have s4 := Ser.bringP_bd o.z 65536 (by omega)
    replace hb : Below w.heap.size w w1.drew := hb.drew
    replace hv : Vb 37 w1.drew (w.heap.size + 1) (ocl noOrd (.slice none 0 0)) := hv
    replace hm : Vb 37 w1.drew g (ocl (numO 8 0 0) (.slice none 0 0)) := hm
    have hS0 : (fun W => Vb 37 W w.heap.size (ocl o (.slice A n c))) w1.drew := hx
    refine wp_region_held_drew (S := fun W => Vb 37 W w.heap.size (ocl o (.slice A n c))) (by kernel_rfl) hS0 (fun _ => ?_)
    clear hx
    generalize w1.drew = u0 at *
    refine takeD (i := 0) (v := .pointer (some ⟨w.heap.size, 16, none⟩)) (some 51) rfl rfl (by kernel_rfl) (by kernel_rfl) (by kernel_rfl) (fun _ _ _ h => h) (Or.inl ⟨by rfl, ?_⟩) hS0 ?_
    · rintro w' _
      go_simp
    try simp only [Act.put, List.setIfInBounds_toArray, List.set_cons_zero, List.set_cons_succ]
    refine takeD (i := 1) (v := .pointer (some ⟨w.heap.size, 16, none⟩)) (some 52) rfl rfl (by kernel_rfl) (by kernel_rfl) (by kernel_rfl) (fun _ _ _ h => h) (Or.inl ⟨by rfl, ?_⟩) hS0 ?_
    · rintro w' _
      go_simp
    try simp only [Act.put, List.setIfInBounds_toArray, List.set_cons_zero, List.set_cons_succ]
    refine takeD (i := 2) (v := .int .i64 o.f) (some 53) rfl rfl (by kernel_rfl) (by kernel_rfl) (by kernel_rfl) (fun _ _ _ h => h) (Or.inl ⟨by rfl, ?_⟩) hS0 ?_
    · rintro w' s0
      have d0 := s0.cell 16 rfl
      change w'.cell? ⟨w.heap.size, 16, none⟩ = some (.int .i64 o.f) at d0
      go_simp
    try simp only [Act.put, List.setIfInBounds_toArray, List.set_cons_zero, List.set_cons_succ]
    refine takeD (i := 5) (v := .pointer (some ⟨w.heap.size, 16, none⟩)) (some 56) rfl rfl (by kernel_rfl) (by kernel_rfl) (by kernel_rfl) (fun _ _ _ h => h) (Or.inl ⟨by rfl, ?_⟩) hS0 ?_
    · rintro w' _
      go_simp
    try simp only [Act.put, List.setIfInBounds_toArray, List.set_cons_zero, List.set_cons_succ]
    refine takeD (i := 6) (v := .pointer (some ⟨w.heap.size, 17, none⟩)) (some 57) rfl rfl (by kernel_rfl) (by kernel_rfl) (by kernel_rfl) (fun _ _ _ h => h) (Or.inl ⟨by rfl, ?_⟩) hS0 ?_
    · rintro w' _
      go_simp
    try simp only [Act.put, List.setIfInBounds_toArray, List.set_cons_zero, List.set_cons_succ]
    refine takeD (i := 7) (v := .int .i64 o.p) (some 58) rfl rfl (by kernel_rfl) (by kernel_rfl) (by kernel_rfl) (fun _ _ _ h => h) (Or.inl ⟨by rfl, ?_⟩) hS0 ?_
    · rintro w' s0
      have d0 := s0.cell 17 rfl
      change w'.cell? ⟨w.heap.size, 17, none⟩ = some (.int .i64 o.p) at d0
      go_simp
    try simp only [Act.put, List.setIfInBounds_toArray, List.set_cons_zero, List.set_cons_succ]
    refine takeD (i := 10) (v := .pointer (some ⟨w.heap.size, 16, none⟩)) (some 61) rfl rfl (by kernel_rfl) (by kernel_rfl) (by kernel_rfl) (fun _ _ _ h => h) (Or.inl ⟨by rfl, ?_⟩) hS0 ?_
    · rintro w' _
      go_simp
    try simp only [Act.put, List.setIfInBounds_toArray, List.set_cons_zero, List.set_cons_succ]
    refine takeD (i := 11) (v := .pointer (some ⟨w.heap.size, 18, none⟩)) (some 62) rfl rfl (by kernel_rfl) (by kernel_rfl) (by kernel_rfl) (fun _ _ _ h => h) (Or.inl ⟨by rfl, ?_⟩) hS0 ?_
    · rintro w' _
      go_simp
    try simp only [Act.put, List.setIfInBounds_toArray, List.set_cons_zero, List.set_cons_succ]
    refine takeD (i := 12) (v := .int .i64 o.t) (some 63) rfl rfl (by kernel_rfl) (by kernel_rfl) (by kernel_rfl) (fun _ _ _ h => h) (Or.inl ⟨by rfl, ?_⟩) hS0 ?_
    · rintro w' s0
      have d0 := s0.cell 18 rfl
      change w'.cell? ⟨w.heap.size, 18, none⟩ = some (.int .i64 o.t) at d0
      go_simp
    try simp only [Act.put, List.setIfInBounds_toArray, List.set_cons_zero, List.set_cons_succ]
    refine takeD (i := 15) (v := .pointer (some ⟨w.heap.size, 16, none⟩)) (some 66) rfl rfl (by kernel_rfl) (by kernel_rfl) (by kernel_rfl) (fun _ _ _ h => h) (Or.inl ⟨by rfl, ?_⟩) hS0 ?_
    · rintro w' _
      go_simp
    try simp only [Act.put, List.setIfInBounds_toArray, List.set_cons_zero, List.set_cons_succ]
    refine takeD (i := 16) (v := .pointer (some ⟨w.heap.size, 19, none⟩)) (some 67) rfl rfl (by kernel_rfl) (by kernel_rfl) (by kernel_rfl) (fun _ _ _ h => h) (Or.inl ⟨by rfl, ?_⟩) hS0 ?_
    · rintro w' _
      go_simp
    try simp only [Act.put, List.setIfInBounds_toArray, List.set_cons_zero, List.set_cons_succ]
    refine takeD (i := 17) (v := .int .i64 o.q) (some 68) rfl rfl (by kernel_rfl) (by kernel_rfl) (by kernel_rfl) (fun _ _ _ h => h) (Or.inl ⟨by rfl, ?_⟩) hS0 ?_
    · rintro w' s0
      have d0 := s0.cell 19 rfl
      change w'.cell? ⟨w.heap.size, 19, none⟩ = some (.int .i64 o.q) at d0
      go_simp
    try simp only [Act.put, List.setIfInBounds_toArray, List.set_cons_zero, List.set_cons_succ]
    refine takeD (i := 20) (v := .pointer (some ⟨w.heap.size, 16, none⟩)) (some 71) rfl rfl (by kernel_rfl) (by kernel_rfl) (by kernel_rfl) (fun _ _ _ h => h) (Or.inl ⟨by rfl, ?_⟩) hS0 ?_
    · rintro w' _
      go_simp
    try simp only [Act.put, List.setIfInBounds_toArray, List.set_cons_zero, List.set_cons_succ]
    refine takeD (i := 21) (v := .pointer (some ⟨w.heap.size, 20, none⟩)) (some 72) rfl rfl (by kernel_rfl) (by kernel_rfl) (by kernel_rfl) (fun _ _ _ h => h) (Or.inl ⟨by rfl, ?_⟩) hS0 ?_
    · rintro w' _
      go_simp
    try simp only [Act.put, List.setIfInBounds_toArray, List.set_cons_zero, List.set_cons_succ]
    refine takeD (i := 22) (v := .int .i64 o.z) (some 73) rfl rfl (by kernel_rfl) (by kernel_rfl) (by kernel_rfl) (fun _ _ _ h => h) (Or.inl ⟨by rfl, ?_⟩) hS0 ?_
    · rintro w' s0
      have d0 := s0.cell 20 rfl
      change w'.cell? ⟨w.heap.size, 20, none⟩ = some (.int .i64 o.z) at d0
      go_simp
    try simp only [Act.put, List.setIfInBounds_toArray, List.set_cons_zero, List.set_cons_succ]
    refine wpAnyH_ready (rs := [3]) (by kernel_rfl) (by simp) ?_
    refine AllReadyH.cons rfl (fun K hK => ?_) AllReadyH.nil
    try rw [if_pos (by rfl)]
    go_simp
    go_at_call 49
    refine (Ser.bring_any _ _ _ (by omega) (by omega)).mono ?_
    rintro e v ⟨rfl, rfl⟩
    refine hK.out _ _ hS0 (fun _ => ?_)
    clear hK K
    try simp only [Act.put, List.setIfInBounds_toArray, List.set_cons_zero, List.set_cons_succ]
    refine takeD (i := 4) (v := .int .i64 (1 + Ser.bringP o.f 6)) (some 55) rfl rfl (by kernel_rfl) (by kernel_rfl) (by kernel_rfl) (fun _ _ _ h => h) (Or.inl ⟨by rfl, ?_⟩) hS0 ?_
    · rintro w' _
      go_simp
    try simp only [Act.put, List.setIfInBounds_toArray, List.set_cons_zero, List.set_cons_succ]
    refine wpAnyH_ready (rs := [8]) (by kernel_rfl) (by simp) ?_
    refine AllReadyH.cons rfl (fun K hK => ?_) AllReadyH.nil
    try rw [if_pos (by rfl)]
    go_simp
    go_at_call 49
    refine (Ser.bring_any _ _ _ (by omega) (by omega)).mono ?_
    rintro e v ⟨rfl, rfl⟩
    refine hK.out _ _ hS0 (fun _ => ?_)
    clear hK K
    try simp only [Act.put, List.setIfInBounds_toArray, List.set_cons_zero, List.set_cons_succ]
    refine takeD (i := 9) (v := .int .i64 (1 + Ser.bringP o.p 4)) (some 60) rfl rfl (by kernel_rfl) (by kernel_rfl) (by kernel_rfl) (fun _ _ _ h => h) (Or.inl ⟨by rfl, ?_⟩) hS0 ?_
    · rintro w' _
      go_simp
    try simp only [Act.put, List.setIfInBounds_toArray, List.set_cons_zero, List.set_cons_succ]
    refine wpAnyH_ready (rs := [13]) (by kernel_rfl) (by simp) ?_
    refine AllReadyH.cons rfl (fun K hK => ?_) AllReadyH.nil
    try rw [if_pos (by rfl)]
    go_simp
    go_at_call 49
    refine (Ser.bring_any _ _ _ (by omega) (by omega)).mono ?_
    rintro e v ⟨rfl, rfl⟩
    refine hK.out _ _ hS0 (fun _ => ?_)
    clear hK K
    try simp only [Act.put, List.setIfInBounds_toArray, List.set_cons_zero, List.set_cons_succ]
    refine takeD (i := 14) (v := .int .i64 (1 + Ser.bringP o.t 6)) (some 65) rfl rfl (by kernel_rfl) (by kernel_rfl) (by kernel_rfl) (fun _ _ _ h => h) (Or.inl ⟨by rfl, ?_⟩) hS0 ?_
    · rintro w' _
      go_simp
    try simp only [Act.put, List.setIfInBounds_toArray, List.set_cons_zero, List.set_cons_succ]
    refine wpAnyH_ready (rs := [18]) (by kernel_rfl) (by simp) ?_
    refine AllReadyH.cons rfl (fun K hK => ?_) AllReadyH.nil
    try rw [if_pos (by rfl)]
    go_simp
    go_at_call 49
    refine (Ser.bring_any _ _ _ (by omega) (by omega)).mono ?_
    rintro e v ⟨rfl, rfl⟩
    refine hK.out _ _ hS0 (fun _ => ?_)
    clear hK K
    try simp only [Act.put, List.setIfInBounds_toArray, List.set_cons_zero, List.set_cons_succ]
    refine takeD (i := 19) (v := .int .i64 (1 + Ser.bringP o.q 4)) (some 70) rfl rfl (by kernel_rfl) (by kernel_rfl) (by kernel_rfl) (fun _ _ _ h => h) (Or.inl ⟨by rfl, ?_⟩) hS0 ?_
    · rintro w' _
      go_simp
    try simp only [Act.put, List.setIfInBounds_toArray, List.set_cons_zero, List.set_cons_succ]
    refine wpAnyH_ready (rs := [23]) (by kernel_rfl) (by simp) ?_
    refine AllReadyH.cons rfl (fun K hK => ?_) AllReadyH.nil
    try rw [if_pos (by rfl)]
    go_simp
    go_at_call 49
    refine (Ser.bring_any _ _ _ (by omega) (by omega)).mono ?_
    rintro e v ⟨rfl, rfl⟩
    refine hK.out _ _ hS0 (fun _ => ?_)
    clear hK K
    try simp only [Act.put, List.setIfInBounds_toArray, List.set_cons_zero, List.set_cons_succ]
    refine takeD (i := 24) (v := .agg #[.int .i64 (1 + Ser.bringP o.f 6), .int .i64 (1 + Ser.bringP o.p 4), .int .i64 (1 + Ser.bringP o.t 6), .int .i64 (1 + Ser.bringP o.q 4), .int .i64 (Ser.bringP o.z 65536)]) (some 75) rfl rfl (by kernel_rfl) (by kernel_rfl) (by kernel_rfl) (fun _ _ _ h => h) (Or.inl ⟨by rfl, ?_⟩) hS0 ?_
    · rintro w' _
      go_simp
    try simp only [Act.put, List.setIfInBounds_toArray, List.set_cons_zero, List.set_cons_succ]
    refine takeD (i := 25) (v := .pointer (some ⟨g, 16, none⟩)) (some 76) rfl rfl (by kernel_rfl) (by kernel_rfl) (by kernel_rfl) (fun _ _ _ h => h) (Or.inl ⟨by rfl, ?_⟩) hS0 ?_
    · rintro w' _
      go_simp
    try simp only [Act.put, List.setIfInBounds_toArray, List.set_cons_zero, List.set_cons_succ]
    refine wpAnyH_ready (rs := [26]) (by kernel_rfl) (by simp) ?_
    refine AllReadyH.cons rfl (fun K hK => ?_) AllReadyH.nil
    try rw [if_pos (by rfl)]
    refine wp_store_at (vs := [.int .i64 (1 + Ser.bringP o.f 6), .int .i64 (1 + Ser.bringP o.p 4), .int .i64 (1 + Ser.bringP o.t 6), .int .i64 (1 + Ser.bringP o.q 4), .int .i64 (Ser.bringP o.z 65536)]) none rfl (.tmp 76) (.tmp 75) rfl rfl rfl hm (by simp [ocl]) agg_probe rfl ?_
    intro u1 hm1 hg hz
    have hx1 := hS0.grown hg (by omega)
    refine hK.out _ _ hx1 (fun _ => ?_)
    clear hK K
    try simp only [Act.put, List.setIfInBounds_toArray, List.set_cons_zero, List.set_cons_succ]
    replace hm1 : Vb 37 u1 g (ocl ⟨8, 0, 0, noRule, (1 + Ser.bringP o.f 6), (1 + Ser.bringP o.p 4), (1 + Ser.bringP o.t 6), (1 + Ser.bringP o.q 4), (Ser.bringP o.z 65536)⟩ (.slice none 0 0)) := hm1
    replace hv := hv.grown hg (by omega)
    replace hb := hb.grown hg (by have := hm.lt; omega) (fun k e => by simp at e; omega)
    clear hS0 hm hg hz hx1 f0 f1 f2 f3
    refine wpAnyH_done (by kernel_rfl) ?_ _
    go_wp2_with (first | (refine wpList_load_vb (vs := ocl ⟨8, 0, 0, noRule, (1 + Ser.bringP o.f 6), (1 + Ser.bringP o.p 4), (1 + Ser.bringP o.t 6), (1 + Ser.bringP o.q 4), (Ser.bringP o.z 65536)⟩ (.slice none 0 0)) rfl (.tmp 3) rfl rfl hm1 rfl agg_order ?_) | (refine wpList_store_vb (vs := ocl ⟨8, 0, 0, noRule, (1 + Ser.bringP o.f 6), (1 + Ser.bringP o.p 4), (1 + Ser.bringP o.t 6), (1 + Ser.bringP o.q 4), (Ser.bringP o.z 65536)⟩ (.slice none 0 0)) rfl (.tmp 2) (.tmp 88) rfl rfl rfl hv rfl agg_order rfl ?_; intro w9 hv9 hg9 hz9))
    refine bodyPost_ret (results_one Tryz.results23 _ rfl hv9 agg_order) rfl ?_
    rw [← hP]
    exact ⟨⟨8, 0, 0, noRule, (1 + Ser.bringP o.f 6), (1 + Ser.bringP o.p 4), (1 + Ser.bringP o.t 6), (1 + Ser.bringP o.q 4), (Ser.bringP o.z 65536)⟩, _, _, _, rfl, Ron.nil _ _, ok_link (by omega) (by omega) (by omega) (by omega) (by omega), byOf rfl, hb.grown hg9 (by have := hb.size; omega) (fun k e => by simp at e; omega)⟩
  · have d0 := hm.cell 0 rfl
    change w1.cell? ⟨g, 0, none⟩ = some (.int .i64 9) at d0
    have d1 := hx.cell 1 rfl
    change w1.cell? ⟨w.heap.size, 1, none⟩ = some (.int .i64 o.n) at d1
    have s1 := Ser.bringP_bd o.n 4 (by omega)
    have f1 : IntKind.i64.wrap (1 + Ser.bringP o.n 4) = 1 + Ser.bringP o.n 4 := IntWalk.i64_in _ (by omega)
    have S1 := Kp.mk s1
    clear s1
    have hf := hm.free
    have e1 := hm.cell 1 rfl
    go_wp2_with fail
    refine (Ser.bring_any _ _ _ (by omega) (by omega)).mono ?_
    rintro e v ⟨rfl, rfl⟩
    have hn0 : Vb 37 (w1.setCell ⟨g, 1, none⟩ (.int .i64 (1 + Ser.bringP o.n 4))) g (ocl (numO 9 (1 + Ser.bringP o.n 4) 0) (.slice none 0 0)) := hm.set 1 _
    have gb := (Below.refl g w1).setCell (p := ⟨g, 1, none⟩) (by simp) (.int .i64 (1 + Ser.bringP o.n 4))
    replace hx := hx.below gb (by omega)
    replace hv := hv.below gb (by omega)
    replace hb := hb.trans (gb.mono (by omega))
    clear gb hm
    go_upto_region 20 with fail
    clear d0 d1 hf e1
    clear f1
    generalize w1.setCell ⟨g, 1, none⟩ (.int .i64 (1 + Ser.bringP o.n 4)) = v0 at *
    have d0 := hn0.cell 0 rfl
    change v0.cell? ⟨g, 0, none⟩ = some (.int .i64 9) at d0
    have d2 := hx.cell 2 rfl
    change v0.cell? ⟨w.heap.size, 2, none⟩ = some (.int .i64 o.m) at d2
    have s2 := Ser.bringP_bd o.m 2 (by omega)
    have S2 := Kp.mk s2
    clear s2
    have hf := hn0.free
    have e1 := hn0.cell 2 rfl
    go_wp2_with fail
    refine (Ser.bring_any _ _ _ (by omega) (by omega)).mono ?_
    rintro e v ⟨rfl, rfl⟩
    have hn1 : Vb 37 (v0.setCell ⟨g, 2, none⟩ (.int .i64 (Ser.bringP o.m 2))) g (ocl (numO 9 (1 + Ser.bringP o.n 4) (Ser.bringP o.m 2)) (.slice none 0 0)) := hn0.set 2 _
    have gb := (Below.refl g v0).setCell (p := ⟨g, 2, none⟩) (by simp) (.int .i64 (Ser.bringP o.m 2))
    replace hx := hx.below gb (by omega)
    replace hv := hv.below gb (by omega)
    replace hb := hb.trans (gb.mono (by omega))
    clear gb hn0
    go_upto_region 21 with fail
    clear d0 d2 hf e1
    generalize v0.setCell ⟨g, 2, none⟩ (.int .i64 (Ser.bringP o.m 2)) = v1 at *
    have d0 := hn1.cell 0 rfl
    change v1.cell? ⟨g, 0, none⟩ = some (.int .i64 9) at d0
    have S1_ := S1.out
    have S2_ := S2.out
    go_wp2_with (first | (refine wpList_load_vb (vs := ocl (numO 9 (1 + Ser.bringP o.n 4) (Ser.bringP o.m 2)) (.slice none 0 0)) rfl (.tmp 3) rfl rfl hn1 rfl agg_order ?_) | (refine wpList_store_vb (vs := ocl (numO 9 (1 + Ser.bringP o.n 4) (Ser.bringP o.m 2)) (.slice none 0 0)) rfl (.tmp 2) (.tmp 88) rfl rfl rfl hv rfl agg_order rfl ?_; intro w9 hv9 hg9 hz9))
    refine bodyPost_ret (results_one Tryz.results23 _ rfl hv9 agg_order) rfl ?_
    rw [← hP]
    exact ⟨(numO 9 (1 + Ser.bringP o.n 4) (Ser.bringP o.m 2)), _, _, _, rfl, Ron.nil _ _, ok_num (.inr (.inr (.inr (.inr (.inr (.inr (.inr (.inr (⟨rfl, ⟨by show (1 : Int) ≤ (1 + Ser.bringP o.n 4); omega, by show (1 + Ser.bringP o.n 4) ≤ (4 : Int); omega⟩, ⟨by show (0 : Int) ≤ (Ser.bringP o.m 2); omega, by show (Ser.bringP o.m 2) ≤ (1 : Int); omega⟩⟩))))))))) (by omega) (by omega) (by omega), byOf rfl, hb.grown hg9 (by have := hb.size; omega) (fun k e => by simp at e; omega)⟩
end Go.Proofs.YteambkehdbffmaaGreat.Oct
