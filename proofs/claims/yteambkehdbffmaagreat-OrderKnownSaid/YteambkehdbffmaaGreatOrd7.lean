/- The walk of OrderBack. -/
import Derived.Test.YteambkehdbffmaaGreatOrd6
import Derived.Test.YteambkehdbffmaaGreatOrd2
import Derived.Test.YteambkehdbffmaaGreatOrdZ
import Derived.Test.YteambkehdbffmaaGreatOrdW
import Derived.Test.YteambkehdbffmaaGreatOrdI
import Derived.Deep.CutRange
namespace Go.Proofs.YteambkehdbffmaaGreat.Oct
open Go.RowKit
set_option linter.unusedVariables false
set_option linter.unusedSimpArgs false

set_option maxRecDepth 100000 in
set_option maxHeartbeats 8000000 in
theorem orderBack_any {w : World} {n c : Nat} {A : Option Addr} (o : OrdV) (h : Ro w w.heap.size A n c o.r.os) (h8 : u8M o.r.x) : Calls Tryz.prog 7 #[.agg #[.int .i64 o.k, .int .i64 o.n, .int .i64 o.m, .int .i64 o.r.k, .int .i64 o.r.pr, .int .i64 o.r.to, .int .i64 o.r.po, .int .i64 o.r.x.v, .int .i64 o.r.x.m, .int .u8 o.r.x.b0, .int .u8 o.r.x.b1, .int .u8 o.r.x.b2, .int .u8 o.r.x.i0, .int .u8 o.r.x.i1, .int .u8 o.r.x.i2, .slice A n c, .int .i64 o.f, .int .i64 o.p, .int .i64 o.t, .int .i64 o.q, .int .i64 o.z]] w fun e w' => e = .returned (.bool true) ∧ Below w.heap.size w w' := by
  have hx : Vb 37 (w.alloc (.cells #[.int .i64 o.k, .int .i64 o.n, .int .i64 o.m, .int .i64 o.r.k, .int .i64 o.r.pr, .int .i64 o.r.to, .int .i64 o.r.po, .int .i64 o.r.x.v, .int .i64 o.r.x.m, .int .u8 o.r.x.b0, .int .u8 o.r.x.b1, .int .u8 o.r.x.b2, .int .u8 o.r.x.i0, .int .u8 o.r.x.i1, .int .u8 o.r.x.i2, .slice A n c, .int .i64 o.f, .int .i64 o.p, .int .i64 o.t, .int .i64 o.q, .int .i64 o.z] 37)) w.heap.size (ocl o (.slice A n c)) := Vb.new 37 w (ocl o (.slice A n c))
  have hB := below_alloc w (.cells #[.int .i64 o.k, .int .i64 o.n, .int .i64 o.m, .int .i64 o.r.k, .int .i64 o.r.pr, .int .i64 o.r.to, .int .i64 o.r.po, .int .i64 o.r.x.v, .int .i64 o.r.x.m, .int .u8 o.r.x.b0, .int .u8 o.r.x.b1, .int .u8 o.r.x.b2, .int .u8 o.r.x.i0, .int .u8 o.r.x.i1, .int .u8 o.r.x.i2, .slice A n c, .int .i64 o.f, .int .i64 o.p, .int .i64 o.t, .int .i64 o.q, .int .i64 o.z] 37)
  have hr := h.below hB
  clear h
  go_enter Tryz.func7, Tryz.ntmps7
  go_upto_region 1 with fail
  generalize w.alloc (.cells #[.int .i64 o.k, .int .i64 o.n, .int .i64 o.m, .int .i64 o.r.k, .int .i64 o.r.pr, .int .i64 o.r.to, .int .i64 o.r.po, .int .i64 o.r.x.v, .int .i64 o.r.x.m, .int .u8 o.r.x.b0, .int .u8 o.r.x.b1, .int .u8 o.r.x.b2, .int .u8 o.r.x.i0, .int .u8 o.r.x.i1, .int .u8 o.r.x.i2, .slice A n c, .int .i64 o.f, .int .i64 o.p, .int .i64 o.t, .int .i64 o.q, .int .i64 o.z] 37) = w0 at *
  have hlt := hx.lt
  go_wp2_with fail
  refine (worksO_any _).mono ?_
  rintro e w1 ⟨rfl, hb⟩
  replace hx := hx.below hb hx.lt
  replace hr := hr.below' hb (by omega)
  replace hB := hB.trans (hb.mono hB.size)
  have hw1 := hb.size
  have hl1 : w.heap.size < w1.heap.size := by omega
  clear hb hw1 hlt
  go_wp2_with fail
  refine wp_loop_rounds (2 + 1) ?_
  rw [rounds_succ]
  go_wp2_with (refine wpList_load_vb (vs := ocl o (.slice A n c)) rfl (.tmp 1) rfl rfl hx rfl agg_order ?_)
  refine (orderBytes_any o hr (by omega) h8).mono ?_
  intro e w4 hp
  obtain ⟨A2, n2, c2, rfl, ho2, hb2⟩ := hp
  replace hx := hx.below hb2 hx.lt
  replace hr := hr.below' hb2 (by omega)
  replace hB := hB.trans (hb2.mono hB.size)
  have hl2 := hb2.size
  clear hb2
  obtain ⟨eb, heb⟩ : ∃ eb, (bytesO o).2 = eb := ⟨_, rfl⟩
  rw [heb]
  have Heb := Kp.mk heb
  clear heb
  go_upto_if 20 with fail
  go_cut [] from 19 to 91 (fun wx => Vb 37 wx w.heap.size (ocl o (.slice A n c)) ∧ Ro wx w.heap.size A n c o.r.os ∧ w4.heap.size ≤ wx.heap.size ∧ Below w.heap.size w wx)
  case first => as_aux_lemma =>
    by_cases ok : okOrd o
    rotate_left
    · have hby : bytesO o = ([], 2) := if_neg ok
      rw [hby] at ho2
      have He := Heb.out
      rw [hby] at He
      simp only at ho2 He
      subst He
      have hn2 := ho2.rd.len
      simp only [List.length_nil] at hn2
      subst hn2
      have hck : checkO o = 2 := if_neg ok
      clear ho2 hby ok
      go_wp2_with (refine wpList_load_want (vs := ocl o (.slice A n c)) rfl (.tmp 1) rfl rfl hx rfl agg_order ?_)
      refine (orderCheck_any o hr (by omega)).mono ?_
      rw [hck]
      rintro e w5 ⟨rfl, hb⟩
      replace hx := hx.below hb hx.lt
      replace hr := hr.below' hb (by omega)
      replace hB := hB.trans (hb.mono hB.size)
      have hl5 := hb.size
      clear hck
      go_wp2_with fail
      go_meet
      case rel => exact ⟨hx, hr, by omega, hB⟩
    · have hby : bytesO o = (ordB o, 0) := if_pos ok
      rw [hby] at ho2
      have He := Heb.out
      rw [hby] at He
      simp only at ho2 He
      subst He
      have hmx := ordB_max ok
      have hby1 := ordB_by o ok h8
      have hpb := Kp.mk (parseO_bytes ok h8)
      have hn2 := ho2.rd.len
      have hrd := ho2.rd
      have hm2 := ho2.rd.cap
      have hc2 := ho2.rd.le
      unfold maxLen at hm2
      clear ho2
      obtain ⟨hx1, hx2⟩ := hmx
      have j1 : (n2 : Int) ≤ 256 := by omega
      have j2 : (1 : Int) ≤ n2 := by omega
      go_wp2_with fail
      refine (orderParse_any hrd hby1 (Nat.le_refl _) (by omega)).mono ?_
      rw [hpb.out]
      intro e w5 hp
      obtain ⟨S3, n3, c3, rfl, hro3, hb3⟩ := hp
      replace hx := hx.below hb3 hx.lt
      replace hr := hr.below' hb3 (by omega)
      replace hB := hB.trans (hb3.mono hB.size)
      have hl5 := hb3.size
      clear hb3 hrd hby1 hpb
      go_upto_region 11 with (refine wpList_store_new (vs := ocl o (.slice S3 n3 c3)) rfl (.tmp 6) (.tmp 40) rfl rfl rfl rfl rfl rfl agg_order rfl ?_; intro w6 hm hb6 hz6)
      replace hx := hx.below hb6 hx.lt
      replace hr := hr.below' hb6 (by omega)
      have hs := hro3.1.below' hb6 (Nat.le_refl _)
      replace hB := hB.trans (hb6.mono hB.size)
      have hl6 := hb6.size
      clear hro3 hb6 hz6
      generalize w5.heap.size = g at *
      have e0 : (o.k != o.k) = false := by simp
      have e1 : (o.n != o.n) = false := by simp
      have e2 : (o.m != o.m) = false := by simp
      have d0 := hx.cell 0 rfl
      have d1 := hx.cell 1 rfl
      have d2 := hx.cell 2 rfl
      have m0 := hm.cell 0 rfl
      have m1 := hm.cell 1 rfl
      have m2 := hm.cell 2 rfl
      change w6.cell? ⟨w.heap.size, 0, none⟩ = some (.int .i64 o.k) at d0
      change w6.cell? ⟨w.heap.size, 1, none⟩ = some (.int .i64 o.n) at d1
      change w6.cell? ⟨w.heap.size, 2, none⟩ = some (.int .i64 o.m) at d2
      change w6.cell? ⟨g, 0, none⟩ = some (.int .i64 o.k) at m0
      change w6.cell? ⟨g, 1, none⟩ = some (.int .i64 o.n) at m1
      change w6.cell? ⟨g, 2, none⟩ = some (.int .i64 o.m) at m2
      have hq := fun W => (eq_probe o.f o.p o.t o.q o.z o.f o.p o.t o.q o.z W).trans (by rw [show eqQB o.f o.p o.t o.q o.z o.f o.p o.t o.q o.z = true by simp [eqQB]])
      go_wp2_with (first | refine wpList_load_want (vs := [.int .i64 o.f, .int .i64 o.p, .int .i64 o.t, .int .i64 o.q, .int .i64 o.z]) rfl (.tmp 66) rfl rfl hm rfl agg_probe ?_ | refine wpList_load_want (vs := [.int .i64 o.f, .int .i64 o.p, .int .i64 o.t, .int .i64 o.q, .int .i64 o.z]) rfl (.tmp 68) rfl rfl hx rfl agg_probe ?_ | refine wpList_load_want (vs := [.int .i64 o.r.k, .int .i64 o.r.pr, .int .i64 o.r.to, .int .i64 o.r.po, .int .i64 o.r.x.v, .int .i64 o.r.x.m, .int .u8 o.r.x.b0, .int .u8 o.r.x.b1, .int .u8 o.r.x.b2, .int .u8 o.r.x.i0, .int .u8 o.r.x.i1, .int .u8 o.r.x.i2, .slice S3 n3 c3]) rfl (.tmp 73) rfl rfl hm rfl agg_rule ?_ | refine wpList_load_want (vs := [.int .i64 o.r.k, .int .i64 o.r.pr, .int .i64 o.r.to, .int .i64 o.r.po, .int .i64 o.r.x.v, .int .i64 o.r.x.m, .int .u8 o.r.x.b0, .int .u8 o.r.x.b1, .int .u8 o.r.x.b2, .int .u8 o.r.x.i0, .int .u8 o.r.x.i1, .int .u8 o.r.x.i2, .slice A n c]) rfl (.tmp 75) rfl rfl hx rfl agg_rule ?_)
      refine (lawSame_any (r := o.r) (s := o.r) hs (by omega) hr (by omega)).mono ?_
      rw [sameR_yes rfl]
      rintro e w7 ⟨rfl, hb7⟩
      replace hx := hx.below hb7 hx.lt
      replace hr := hr.below' hb7 (by omega)
      replace hB := hB.trans (hb7.mono hB.size)
      have hl7 := hb7.size
      clear d0 d1 d2 m0 m1 m2 e0 e1 e2 hq hb7 hs hm
      go_wp2_with fail
      go_meet
      case rel => exact ⟨hx, hr, by omega, hB⟩
  clear hx hr hB Heb ho2
  obtain ⟨hx, hr, hl8, hB⟩ := hcut
  go_wp2_with (refine wpList_load_vb (vs := ocl o (.slice A n c)) rfl (.tmp 1) rfl rfl hx rfl agg_order ?_)
  refine (madeO_any o hr (by omega) h8).mono ?_
  intro e v0 hp
  obtain ⟨o1, A0_, n0_, c0_, rfl, hq0, ok0, u0, hb1⟩ := hp
  replace hx := hx.below hb1 hx.lt
  replace hB := hB.trans (hb1.mono hB.size)
  have hl9 := hb1.size
  clear hb1 hr h8
  go_upto_region 5 with (refine wpList_store_vb (vs := ocl o1 (.slice A0_ n0_ c0_)) rfl (.tmp 1) (.tmp 91) rfl rfl rfl hx rfl agg_order rfl ?_; intro x0 hxn hg hz)
  have hr := (hq0.keep (by omega) (fun b h1 h2 => hg.block b h2 (by simp; omega))).1
  replace hB := hB.grown hg (by omega) (fun k e => by simp at e; omega)
  clear hx hg hq0
  have hx := hxn
  have ok := ok0
  have h8 := u0
  clear hxn ok0 u0
  have hlx := hx.lt
  go_wp2_with fail
  clear hl8 hl9 hz hl2
  rw [rounds_succ]
  go_wp2_with (refine wpList_load_vb (vs := ocl o1 (.slice A0_ n0_ c0_)) rfl (.tmp 1) rfl rfl hx rfl agg_order ?_)
  refine (orderBytes_any o1 hr (by omega) h8).mono ?_
  rw [show bytesO o1 = (ordB o1, 0) from if_pos ok]
  intro e w4 hp
  obtain ⟨A2, n2, c2, rfl, ho2, hb2⟩ := hp
  simp only at ho2
  replace hx := hx.below hb2 hx.lt
  replace hr := hr.below' hb2 (by omega)
  replace hB := hB.trans (hb2.mono hB.size)
  have hl2 := hb2.size
  clear hb2
  have hmx := ordB_max ok
  have hby1 := ordB_by o1 ok h8
  have hpb := Kp.mk (parseO_bytes ok h8)
  have hn2 := ho2.rd.len
  have hrd := ho2.rd
  have hm2 := ho2.rd.cap
  have hc2 := ho2.rd.le
  unfold maxLen at hm2
  clear ho2
  obtain ⟨hx1, hx2⟩ := hmx
  have j1 : (n2 : Int) ≤ 256 := by omega
  have j2 : (1 : Int) ≤ n2 := by omega
  go_wp2_with fail
  refine (orderParse_any hrd hby1 (Nat.le_refl _) (by omega)).mono ?_
  rw [hpb.out]
  intro e w5 hp
  obtain ⟨S3, n3, c3, rfl, hro3, hb3⟩ := hp
  replace hx := hx.below hb3 hx.lt
  replace hr := hr.below' hb3 (by omega)
  replace hB := hB.trans (hb3.mono hB.size)
  have hl5 := hb3.size
  clear hb3 hrd hby1 hpb
  go_upto_region 11 with (refine wpList_store_new (vs := ocl o1 (.slice S3 n3 c3)) rfl (.tmp 6) (.tmp 40) rfl rfl rfl rfl rfl rfl agg_order rfl ?_; intro w6 hm hb6 hz6)
  replace hx := hx.below hb6 hx.lt
  replace hr := hr.below' hb6 (by omega)
  have hs := hro3.1.below' hb6 (Nat.le_refl _)
  replace hB := hB.trans (hb6.mono hB.size)
  have hl6 := hb6.size
  clear hro3 hb6 hz6
  generalize w5.heap.size = g at *
  have e0 : (o1.k != o1.k) = false := by simp
  have e1 : (o1.n != o1.n) = false := by simp
  have e2 : (o1.m != o1.m) = false := by simp
  have d0 := hx.cell 0 rfl
  have d1 := hx.cell 1 rfl
  have d2 := hx.cell 2 rfl
  have m0 := hm.cell 0 rfl
  have m1 := hm.cell 1 rfl
  have m2 := hm.cell 2 rfl
  change w6.cell? ⟨w.heap.size, 0, none⟩ = some (.int .i64 o1.k) at d0
  change w6.cell? ⟨w.heap.size, 1, none⟩ = some (.int .i64 o1.n) at d1
  change w6.cell? ⟨w.heap.size, 2, none⟩ = some (.int .i64 o1.m) at d2
  change w6.cell? ⟨g, 0, none⟩ = some (.int .i64 o1.k) at m0
  change w6.cell? ⟨g, 1, none⟩ = some (.int .i64 o1.n) at m1
  change w6.cell? ⟨g, 2, none⟩ = some (.int .i64 o1.m) at m2
  have hq := fun W => (eq_probe o1.f o1.p o1.t o1.q o1.z o1.f o1.p o1.t o1.q o1.z W).trans (by rw [show eqQB o1.f o1.p o1.t o1.q o1.z o1.f o1.p o1.t o1.q o1.z = true by simp [eqQB]])
  go_wp2_with (first | refine wpList_load_want (vs := [.int .i64 o1.f, .int .i64 o1.p, .int .i64 o1.t, .int .i64 o1.q, .int .i64 o1.z]) rfl (.tmp 66) rfl rfl hm rfl agg_probe ?_ | refine wpList_load_want (vs := [.int .i64 o1.f, .int .i64 o1.p, .int .i64 o1.t, .int .i64 o1.q, .int .i64 o1.z]) rfl (.tmp 68) rfl rfl hx rfl agg_probe ?_ | refine wpList_load_want (vs := [.int .i64 o1.r.k, .int .i64 o1.r.pr, .int .i64 o1.r.to, .int .i64 o1.r.po, .int .i64 o1.r.x.v, .int .i64 o1.r.x.m, .int .u8 o1.r.x.b0, .int .u8 o1.r.x.b1, .int .u8 o1.r.x.b2, .int .u8 o1.r.x.i0, .int .u8 o1.r.x.i1, .int .u8 o1.r.x.i2, .slice S3 n3 c3]) rfl (.tmp 73) rfl rfl hm rfl agg_rule ?_ | refine wpList_load_want (vs := [.int .i64 o1.r.k, .int .i64 o1.r.pr, .int .i64 o1.r.to, .int .i64 o1.r.po, .int .i64 o1.r.x.v, .int .i64 o1.r.x.m, .int .u8 o1.r.x.b0, .int .u8 o1.r.x.b1, .int .u8 o1.r.x.b2, .int .u8 o1.r.x.i0, .int .u8 o1.r.x.i1, .int .u8 o1.r.x.i2, .slice A0_ n0_ c0_]) rfl (.tmp 75) rfl rfl hx rfl agg_rule ?_)
  refine (lawSame_any (r := o1.r) (s := o1.r) hs (by omega) hr (by omega)).mono ?_
  rw [sameR_yes rfl]
  rintro e w7 ⟨rfl, hb7⟩
  replace hx := hx.below hb7 hx.lt
  replace hr := hr.below' hb7 (by omega)
  replace hB := hB.trans (hb7.mono hB.size)
  have hl7 := hb7.size
  clear d0 d1 d2 m0 m1 m2 e0 e1 e2 hq hb7 hs hm
  go_wp2_with (refine wpList_load_vb (vs := ocl o1 (.slice A0_ n0_ c0_)) rfl (.tmp 1) rfl rfl hx rfl agg_order ?_)
  refine (madeO_any o1 hr (by omega) h8).mono ?_
  intro e v1 hp
  obtain ⟨o2, A1_, n1_, c1_, rfl, hq1, ok1, u1, hb1⟩ := hp
  replace hx := hx.below hb1 hx.lt
  replace hB := hB.trans (hb1.mono hB.size)
  have hl9 := hb1.size
  clear hb1 hr h8 ok
  go_upto_region 5 with (refine wpList_store_vb (vs := ocl o2 (.slice A1_ n1_ c1_)) rfl (.tmp 1) (.tmp 91) rfl rfl rfl hx rfl agg_order rfl ?_; intro x1 hxn hg hz)
  have hr := (hq1.keep (by omega) (fun b h1 h2 => hg.block b h2 (by simp; omega))).1
  replace hB := hB.grown hg (by omega) (fun k e => by simp at e; omega)
  clear hx hg hq1
  have hx := hxn
  have ok := ok1
  have h8 := u1
  clear hxn ok1 u1
  have hlx := hx.lt
  go_wp2_with fail
  rw [rounds_succ]
  go_wp2_with fail
  go_ret
  exact ⟨rfl, hB⟩
end Go.Proofs.YteambkehdbffmaaGreat.Oct
