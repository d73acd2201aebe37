/- The walk of TableFirst. -/
import Derived.Test.YtlambnlehomkdaaTabFp
import Derived.Test.YtlambnlehomkdaaTabZ
import Derived.Test.YtlambnlehomkdaaTabR
import Derived.Test.YtlambnlehomkdaaTabS
import Derived.Deep.CutRange
namespace Go.Proofs.Ytlambnlehomkdaa.Oct
open Go.RowKit
set_option linter.unusedVariables false
set_option linter.unusedSimpArgs false

theorem agg_header9 : Agg 31 3 := ⟨⟨_, Try.underlying31, rfl⟩, by kernel_rfl⟩
set_option maxRecDepth 100000 in
set_option maxHeartbeats 32000000 in
theorem tableFirst_any {w : World} {A : Option Addr} {n c : Nat} {ys : List It} {A2 : Option Addr} {n2 c2 : Nat} {bs : List Bool} (h : Rp w w.heap.size A n c ys) (h2 : Bl w w.heap.size A2 n2 c2 bs) (p q r : Int) : Calls Try.prog 4 #[.slice A n c, .slice A2 n2 c2, .agg #[.int .u8 p, .int .u8 q, .int .u8 r]] w fun e w' => e = .returned (.bool true) ∧ Below w.heap.size w w' := by
  have hyl := h.1
  have hbl := h2.1
  have hB := below_alloc w (.cells #[.int .u8 p, .int .u8 q, .int .u8 r] 31)
  have hh : Vb 31 (w.alloc (.cells #[.int .u8 p, .int .u8 q, .int .u8 r] 31)) w.heap.size [.int .u8 p, .int .u8 q, .int .u8 r] := Vb.new 31 w [.int .u8 p, .int .u8 q, .int .u8 r]
  have hR := h.below hB
  have hL := h2.below hB
  clear h h2
  go_enter Try.func4, Try.ntmps4
  go_upto_region 1 with fail
  generalize w.alloc (.cells #[.int .u8 p, .int .u8 q, .int .u8 r] 31) = w0 at *
  go_wp2_with fail
  refine (worksT_any w0).mono ?_
  rintro e w1 ⟨rfl, hb1⟩
  replace hh := hh.below hb1 hh.lt
  replace hR := hR.below (hb1.mono hB.size)
  replace hL := hL.below (hb1.mono hB.size)
  replace hB := hB.trans (hb1.mono hB.size)
  clear hb1
  go_wp2_with fail
  refine (tv_new w1 64 (by omega) (by omega)).mono ?_
  rintro e w2 ⟨rfl, ha, hb2, hz2⟩
  have hgt : w.heap.size < w1.heap.size := hh.lt
  replace hh := hh.below hb2 hh.lt
  replace hR := hR.below (hb2.mono hB.size)
  replace hL := hL.below (hb2.mono hB.size)
  replace hB := hB.trans (hb2.mono hB.size)
  clear hb2 hz2
  obtain ⟨t, ht⟩ : ∃ t, t = w1.heap.size := ⟨_, rfl⟩
  rw [← ht] at ha hgt
  have htv : Value.pointer (some ⟨t, 0, none⟩) = Value.pointer (some ⟨w1.heap.size, 0, none⟩) := by rw [ht]
  rw [← htv]
  clear htv ht
  have HT := Kp.mk hgt
  clear hgt
  have h0 := RowS.nil w2
  go_wp2_with fail
  go_loopw [9, 10, 11, 12, 13, 14] (fun s9 s10 _ _ _ _ wr => ∃ (i : Nat) (hs : List It) (v : Value) (l : List RuleV), s10 = .int .i64 i ∧ i ≤ n ∧ i ≤ 60 ∧ TV wr t v 64 l ∧ RowS wr s9 hs ∧ Vb 31 wr w.heap.size [.int .u8 p, .int .u8 q, .int .u8 r] ∧ hs.length ≤ i ∧ Kp (l.Perm (rls hs)) ∧ Kp (∀ y ∈ hs, Ob wr y) ∧ Kp (Apt s9 v) ∧ Kp (∀ k, (v.ownBlock = some k ∨ s9.ownBlock = some k) → w.heap.size < k) ∧ Rp wr w.heap.size A n c ys ∧ Bl wr w.heap.size A2 n2 c2 bs ∧ Below w.heap.size w wr) (fun _ s10 _ _ _ _ _ => 60 - (intOf s10).toNat)
  case atStart => exact ⟨0, [], _, [], rfl, Nat.zero_le _, Nat.zero_le _, ha, h0, hh, Nat.le_refl _, Kp.mk (List.Perm.refl _), Kp.mk (fun y hy => by simp at hy), Kp.mk (Apt.nil _), Kp.mk (fun k hk => by simp [Value.ownBlock] at hk), hR, hL, hB⟩
  case round =>
    clear ha h0 hh hR hL hB
    obtain ⟨i, hs, v, l, rfl, hi1, hi2, ha, hO, hh, hol, HP, HO, HA, HF, hR, hL, hB⟩ := hrel
    have HI1 := Kp.mk hi1
    have HI2 := Kp.mk hi2
    have HOL := Kp.mk hol
    by_cases hgo : (i : Int) < n ∧ (i : Int) < 60
    · obtain ⟨j1, j2⟩ := hgo
      obtain ⟨b, off, eA, hlt, hcc⟩ := hR.2.2.2.2 (by omega)
      subst eA
      obtain ⟨x, hx⟩ : ∃ x, ys[i]? = some x := ⟨_, List.getElem?_eq_getElem (by omega)⟩
      have hcell := hcc i x hx
      have HM := Kp.mk (fun W => made_any x W)
      clear hcc hx hi1 hi2 hol
      go_wp2_with (refine wpList_load_cells (vs := ics x) (by rfl) (.tmp 47) rfl rfl hcell agg_rule ?_)
      refine (HM.out _).mono ?_
      rintro e w4 ⟨z, hzr, rfl, hzo, _, hb4⟩
      have HZR := Kp.mk hzr
      clear hzr hcell HM
      go_upto_region 11 with (refine wpList_store_new (vs := [.int .i64 z.r.k, .int .i64 z.r.pr, .int .i64 z.r.to, .int .i64 z.r.po, .int .i64 z.r.x.v, .int .i64 z.r.x.m, .int .u8 z.r.x.b0, .int .u8 z.r.x.b1, .int .u8 z.r.x.b2, .int .u8 z.r.x.i0, .int .u8 z.r.x.i1, .int .u8 z.r.x.i2, .slice z.A z.r.os.length z.c]) rfl (.tmp 11) (.tmp 49) rfl rfl rfl rfl rfl rfl agg_rule rfl ?_; intro w5 hgz hb5 hz5)
      have hb45 := hb4.trans (hb5.mono hb4.size)
      have HA5 := Kp.mk (ha.below hb45)
      have HR5 := Kp.mk (hO.below hb45)
      have HH5 := Kp.mk (hh.below hb45 hh.lt)
      have HO5 := Kp.mk (fun y (hy : y ∈ hs) => (HO.out y hy).below hb45)
      have HP5 := Kp.mk (hR.below (hb45.mono hB.size))
      have HL5 := Kp.mk (hL.below (hb45.mono hB.size))
      have HBB := Kp.mk (hB.trans (hb45.mono hB.size))
      have HZO := Kp.mk (hzo.below hb5)
      have HGZ := Kp.mk hgz
      have HGL := Kp.mk (show w4.heap.size < w5.heap.size from hgz.lt)
      have HVG := Kp.mk (show ∀ g, v.ownBlock = some g → g < w4.heap.size from fun g e => by have := (ha.row.choose_spec.lt g e).1; have := hb4.size; omega)
      clear ha hO hh HO hR hL hB hb4 hb5 hb45 hz5 hzo hgz
      generalize w4.heap.size = gz at *
      obtain ⟨N, hN⟩ : ∃ N, N = hs.length := ⟨_, rfl⟩
      have HN := Kp.mk hN
      have hN60 : N ≤ 60 := by have := HOL.out; have := HI2.out; omega
      have hform := HR5.out.form
      obtain ⟨Ao, co, hvo, _⟩ := hform
      rw [← hN] at hvo
      clear hN
      subst hvo
      have hbx := Below.refl w5.heap.size w5
      have hn0 := RowS.nil w5
      go_wp2_with fail
      go_loopw [12, 13, 14] (fun s12 s13 s14 wx => ∃ (k : Nat) (ns : List It), s14 = .int .i64 k ∧ k ≤ N ∧ s13 = .bool (wasP z.r (rls hs) k) ∧ RowS wx s12 ns ∧ Kp (rls ns = offP z.r ((rls hs).take k)) ∧ Kp (∀ y ∈ ns, y ∈ hs) ∧ Kp (∀ g, s12.ownBlock = some g → w5.heap.size ≤ g) ∧ Below w5.heap.size w5 wx) (fun _ _ s14 _ => N - (intOf s14).toNat)
      case atStart => exact ⟨0, [], rfl, Nat.zero_le _, rfl, hn0, Kp.mk rfl, Kp.mk (fun y hy => by simp at hy), Kp.mk (fun k hk => by simp [Value.ownBlock] at hk), hbx⟩
      case round =>
        clear hbx hn0
        obtain ⟨k, ns, rfl, hk, rfl, hno, HE, HS, HG, hbw⟩ := hrel
        by_cases hkN : k < N
        · obtain ⟨y, hy⟩ : ∃ y, hs[k]? = some y := ⟨_, List.getElem?_eq_getElem (by have := HN.out; omega)⟩
          have HST := Kp.mk (wasP_step (r := z.r) (rls_at hy))
          have HOF := Kp.mk (offP_step (r := z.r) (rls_at hy))
          have HYM := Kp.mk (List.mem_of_getElem? hy)
          have hro := HR5.out.below hbw
          have hgz := HGZ.out.below hbw HGL.out
          rcases hro with ⟨_, e0⟩ | ⟨g1, sp1, hv, hro, _⟩
          · exfalso; rw [e0] at hy; simp at hy
          obtain ⟨rfl, -, -⟩ := Value.slice.inj hv
          clear hv
          have hyz : (hs ++ sp1)[k]? = some y := by rw [List.getElem?_append_left (by have := HN.out; omega)]; exact hy
          generalize hs ++ sp1 = R1 at *
          clear hy
          have q0 := fl_get R1 k 0 y hyz (by omega)
          have q1 := fl_get R1 k 1 y hyz (by omega)
          have q2 := fl_get R1 k 2 y hyz (by omega)
          have q3 := fl_get R1 k 3 y hyz (by omega)
          have q4 := fl_get R1 k 4 y hyz (by omega)
          have q5 := fl_get R1 k 5 y hyz (by omega)
          have q6 := fl_get R1 k 6 y hyz (by omega)
          have q7 := fl_get R1 k 7 y hyz (by omega)
          have q8 := fl_get R1 k 8 y hyz (by omega)
          have q9 := fl_get R1 k 9 y hyz (by omega)
          have q10 := fl_get R1 k 10 y hyz (by omega)
          have q11 := fl_get R1 k 11 y hyz (by omega)
          have q12 := fl_get R1 k 12 y hyz (by omega)
          rw [Nat.add_zero] at q0
          go_upto_region 16 with fail
          have hS0 : (fun W => Rowb W g1 R1 ∧ Vb 36 W gz [.int .i64 z.r.k, .int .i64 z.r.pr, .int .i64 z.r.to, .int .i64 z.r.po, .int .i64 z.r.x.v, .int .i64 z.r.x.m, .int .u8 z.r.x.b0, .int .u8 z.r.x.b1, .int .u8 z.r.x.b2, .int .u8 z.r.x.i0, .int .u8 z.r.x.i1, .int .u8 z.r.x.i2, .slice z.A z.r.os.length z.c] ∧ RowS W u12 ns) wr.drew := ⟨hro, hgz, hno.below (Below.refl _ wr).drew⟩
          have hbd := hbw.drew
          generalize hnp : wasP z.r (rls hs) k = np at *
          refine wp_region_held_drew (S := fun W => Rowb W g1 R1 ∧ Vb 36 W gz [.int .i64 z.r.k, .int .i64 z.r.pr, .int .i64 z.r.to, .int .i64 z.r.po, .int .i64 z.r.x.v, .int .i64 z.r.x.m, .int .u8 z.r.x.b0, .int .u8 z.r.x.b1, .int .u8 z.r.x.b2, .int .u8 z.r.x.i0, .int .u8 z.r.x.i1, .int .u8 z.r.x.i2, .slice z.A z.r.os.length z.c] ∧ RowS W u12 ns) (by kernel_rfl) hS0 (fun _ => ?_)
          clear hro hgz hbw hno
          generalize wr.drew = u0 at *
          refine takeD (i := 0) (v := .slice (some ⟨g1, 0, none⟩) N co) (some 56) rfl rfl (by kernel_rfl) (by kernel_rfl) (by kernel_rfl) (fun _ _ _ h => h) (Or.inl ⟨by rfl, ?_⟩) hS0 ?_
          · rintro w' _
            go_simp
          try simp only [Act.put, List.setIfInBounds_toArray, List.set_cons_zero, List.set_cons_succ]
          refine takeD (i := 1) (v := .int .i64 k) (some 57) rfl rfl (by kernel_rfl) (by kernel_rfl) (by kernel_rfl) (fun _ _ _ h => h) (Or.inl ⟨by rfl, ?_⟩) hS0 ?_
          · rintro w' _
            go_simp
          try simp only [Act.put, List.setIfInBounds_toArray, List.set_cons_zero, List.set_cons_succ]
          refine takeD (i := 2) (v := .pointer (some ⟨g1, k * 13, none⟩)) (some 58) rfl rfl (by kernel_rfl) (by kernel_rfl) (by kernel_rfl) (fun _ _ _ h => h) (Or.inl ⟨by rfl, ?_⟩) hS0 ?_
          · rintro w' _
            go_simp
          try simp only [Act.put, List.setIfInBounds_toArray, List.set_cons_zero, List.set_cons_succ]
          refine takeD (i := 3) (v := .agg #[.int .i64 y.r.k, .int .i64 y.r.pr, .int .i64 y.r.to, .int .i64 y.r.po, .int .i64 y.r.x.v, .int .i64 y.r.x.m, .int .u8 y.r.x.b0, .int .u8 y.r.x.b1, .int .u8 y.r.x.b2, .int .u8 y.r.x.i0, .int .u8 y.r.x.i1, .int .u8 y.r.x.i2, .slice y.A y.r.os.length y.c]) (some 59) rfl rfl (by kernel_rfl) (by kernel_rfl) (by kernel_rfl) (fun _ _ _ h => h) (Or.inl ⟨by rfl, ?_⟩) hS0 ?_
          · rintro w' ⟨s0, _⟩
            have d0 := Vb.cell s0 (k * 13) (q0.trans rfl)
            have d1 := Vb.cell s0 (k * 13 + 1) (q1.trans rfl)
            have d2 := Vb.cell s0 (k * 13 + 2) (q2.trans rfl)
            have d3 := Vb.cell s0 (k * 13 + 3) (q3.trans rfl)
            have d4 := Vb.cell s0 (k * 13 + 4) (q4.trans rfl)
            have d5 := Vb.cell s0 (k * 13 + 5) (q5.trans rfl)
            have d6 := Vb.cell s0 (k * 13 + 6) (q6.trans rfl)
            have d7 := Vb.cell s0 (k * 13 + 7) (q7.trans rfl)
            have d8 := Vb.cell s0 (k * 13 + 8) (q8.trans rfl)
            have d9 := Vb.cell s0 (k * 13 + 9) (q9.trans rfl)
            have d10 := Vb.cell s0 (k * 13 + 10) (q10.trans rfl)
            have d11 := Vb.cell s0 (k * 13 + 11) (q11.trans rfl)
            have d12 := Vb.cell s0 (k * 13 + 12) (q12.trans rfl)
            go_simp
          try simp only [Act.put, List.setIfInBounds_toArray, List.set_cons_zero, List.set_cons_succ]
          refine takeD (i := 4) (v := .agg #[.int .i64 z.r.k, .int .i64 z.r.pr, .int .i64 z.r.to, .int .i64 z.r.po, .int .i64 z.r.x.v, .int .i64 z.r.x.m, .int .u8 z.r.x.b0, .int .u8 z.r.x.b1, .int .u8 z.r.x.b2, .int .u8 z.r.x.i0, .int .u8 z.r.x.i1, .int .u8 z.r.x.i2, .slice z.A z.r.os.length z.c]) (some 60) rfl rfl (by kernel_rfl) (by kernel_rfl) (by kernel_rfl) (fun _ _ _ h => h) (Or.inl ⟨by rfl, ?_⟩) hS0 ?_
          · rintro w' ⟨_, s0, _⟩
            obtain ⟨d0, d1, d2, d3, d4, d5, d6, d7, d8, d9, d10, d11, d12⟩ := s0.c13
            go_simp
          try simp only [Act.put, List.setIfInBounds_toArray, List.set_cons_zero, List.set_cons_succ]
          refine wpAnyH_ready (rs := [5]) (by kernel_rfl) (by simp) ?_
          refine AllReadyH.cons rfl (fun K hK => ?_) AllReadyH.nil
          try rw [if_pos (by rfl)]
          go_simp
          go_at_call 28
          refine (cmpIt_any y z _).mono ?_
          rintro e u1 ⟨rfl, hb1⟩
          have hS1 : (fun W => Rowb W g1 R1 ∧ Vb 36 W gz [.int .i64 z.r.k, .int .i64 z.r.pr, .int .i64 z.r.to, .int .i64 z.r.po, .int .i64 z.r.x.v, .int .i64 z.r.x.m, .int .u8 z.r.x.b0, .int .u8 z.r.x.b1, .int .u8 z.r.x.b2, .int .u8 z.r.x.i0, .int .u8 z.r.x.i1, .int .u8 z.r.x.i2, .slice z.A z.r.os.length z.c] ∧ RowS W u12 ns) u1 := ⟨Vb.below hS0.1 hb1 (Vb.lt hS0.1), Vb.below hS0.2.1 hb1 (Vb.lt hS0.2.1), hS0.2.2.below hb1⟩
          have hbe := hbd.trans (hb1.mono hbd.size)
          refine hK.out _ _ hS1 (fun _ => ?_)
          clear hK K hb1 hbd
          try simp only [Act.put, List.setIfInBounds_toArray, List.set_cons_zero, List.set_cons_succ]
          by_cases hc0 : cmpR y.r z.r = 0
          · have hc1 : decide (cmpR y.r z.r = 0) = true := by simp [hc0]
            refine takeD (i := 6) (v := .bool true) (some 62) rfl rfl (by kernel_rfl) (by kernel_rfl) (by kernel_rfl) (fun _ _ _ h => h) (Or.inl ⟨by rfl, ?_⟩) hS1 ?_
            · rintro w' _
              have hc2 : (cmpR y.r z.r == 0) = true := by simp [hc0]
              go_simp
            try simp only [Act.put, List.setIfInBounds_toArray, List.set_cons_zero, List.set_cons_succ]
            refine wpAnyH_done (by kernel_rfl) ?_ _
            have hno := hS1.2.2
            have HE2 := Kp.mk (show rls ns = offP z.r ((rls hs).take (k + 1)) by rw [HOF.out, if_pos hc0, List.append_nil]; exact HE.out)
            have hst : wasP z.r (rls hs) (k + 1) = true := by rw [HST.out, hc1, Bool.or_true]
            clear hS0 hS1 hyz hc0 hc1 q0 q1 q2 q3 q4 q5 q6 q7 q8 q9 q10 q11 q12
            have HSTT := Kp.mk hst
            clear hst
            go_wp2_with fail
            go_roundw
            case rel => exact ⟨k + 1, ns, by go_num, by omega, by rw [HSTT.out], hno, HE2, HS, HG, hbe⟩
            case measure => simp [intOf]; omega
          · have hc1 : decide (cmpR y.r z.r = 0) = false := by simp [hc0]
            refine takeD (i := 6) (v := .bool false) (some 62) rfl rfl (by kernel_rfl) (by kernel_rfl) (by kernel_rfl) (fun _ _ _ h => h) (Or.inl ⟨by rfl, ?_⟩) hS1 ?_
            · rintro w' _
              have hc2 : (cmpR y.r z.r == 0) = false := by simp [hc0]
              go_simp
            try simp only [Act.put, List.setIfInBounds_toArray, List.set_cons_zero, List.set_cons_succ]
            refine wpAnyH_done (by kernel_rfl) ?_ _
            have hno := hS1.2.2
            have hrow := hS1.1
            have HE2 := Kp.mk (show rls (ns ++ [y]) = offP z.r ((rls hs).take (k + 1)) by rw [show rls (ns ++ [y]) = rls ns ++ [y.r] by simp [rls], HOF.out, if_neg hc0, HE.out])
            have HSTT := Kp.mk (show wasP z.r (rls hs) (k + 1) = np by rw [HST.out, hc1, Bool.or_false])
            clear hS0 hS1 hc0 hc1 hnp q0 q1 q2 q3 q4 q5 q6 q7 q8 q9 q10 q11 q12
            have hnl : ns.length ≤ 60 := by
              have h1 : (rls ns).length ≤ ((rls hs).take k).length := by rw [HE.out]; exact List.length_filter_le _ _
              rw [rls_len, List.length_take, rls_len, ← HN.out] at h1; omega
            have hba := below_alloc u1 (.cells #[.int .i64 y.r.k, .int .i64 y.r.pr, .int .i64 y.r.to, .int .i64 y.r.po, .int .i64 y.r.x.v, .int .i64 y.r.x.m, .int .u8 y.r.x.b0, .int .u8 y.r.x.b1, .int .u8 y.r.x.b2, .int .u8 y.r.x.i0, .int .u8 y.r.x.i1, .int .u8 y.r.x.i2, .slice y.A y.r.os.length y.c] 36)
            have hr6 := rowb_one u1 y
            have hn6 := hno.below hba
            have hb6 := hbe.trans (hba.mono hbe.size)
            obtain ⟨v7, w7, hrun7, hR7, hg7, hN7⟩ := run_appendR (c := 1) 51 hn6 (⟨rfl, .inr ⟨u1.heap.size, 0, [y], by simp, hr6, by simp, rfl⟩⟩ : SrcR _ (some ⟨u1.heap.size, 0, none⟩) 1 [y]) (by omega)
            have HG7 := Kp.mk (show ∀ g, v7.ownBlock = some g → w5.heap.size ≤ g from fun g hg => by
              rcases hN7 with e | ⟨k2, e, h2⟩
              · exact HG.out g (e ▸ hg)
              · rw [e] at hg; have := Option.some.inj hg; have := hb6.size; omega)
            have hb7 := hb6.grown hg7 hb6.size (fun g e => HG.out g e)
            have HS7 := Kp.mk (show ∀ u ∈ ns ++ [y], u ∈ hs from fun u hu => by
              rcases List.mem_append.1 hu with hu | hu
              · exact HS.out u hu
              · rw [List.mem_singleton.1 hu]; exact HYM.out)
            clear hno hbe hba hr6 hn6 hb6 hg7 hN7 hnl
            go_wp2_with (first | refine wpList_load_vb (vs := [.int .i64 y.r.k, .int .i64 y.r.pr, .int .i64 y.r.to, .int .i64 y.r.po, .int .i64 y.r.x.v, .int .i64 y.r.x.m, .int .u8 y.r.x.b0, .int .u8 y.r.x.b1, .int .u8 y.r.x.b2, .int .u8 y.r.x.i0, .int .u8 y.r.x.i1, .int .u8 y.r.x.i2, .slice y.A y.r.os.length y.c]) rfl (.tmp 66) rfl rfl hrow (fl_off hyz (by omega)) agg_rule ?_ | (at_builtin; refine Lib.wpList_append_run _ rfl _ _ _ _ rfl _ _ rfl rfl _ _ hrun7 ?_))
            go_roundw
            case rel => exact ⟨k + 1, ns ++ [y], by go_num, by omega, by rw [HSTT.out], hR7, HE2, HS7, HG7, hb7⟩
            case measure => simp [intOf]; omega
        obtain rfl : k = N := by omega
        have ha := HA5.out.below hbw
        have hO := HR5.out.below hbw
        have hh := HH5.out.below hbw HH5.out.lt
        have HO6 := Kp.mk (fun y (hy : y ∈ hs) => (HO5.out y hy).below hbw)
        have hB := HBB.out.trans (hbw.mono HBB.out.size)
        have hR := HP5.out.below (hbw.mono HBB.out.size)
        have hL := HL5.out.below (hbw.mono HBB.out.size)
        have hgz := HGZ.out.below hbw HGL.out
        have hzo := HZO.out.below hbw
        have hw5 := hbw.size
        have HTK := Kp.mk (show (rls hs).take k = rls hs from List.take_of_length_le (by rw [rls_len, ← HN.out]; exact Nat.le_refl _))
        have HNE := Kp.mk (show rls ns = offP z.r (rls hs) by have := HE.out; rw [HTK.out] at this; exact this)
        have HAN := Kp.mk (show Apt u12 v from fun g hg e => by have h1 := HG.out g hg; have h2 := (HA5.out.row.choose_spec.lt g e).1; omega)
        have HGB := Kp.mk (show ∀ g, (v.ownBlock = some g ∨ u12.ownBlock = some g) → w.heap.size < g from fun g hg => by
          rcases hg with hg | hg
          · exact HF.out g (.inl hg)
          · have := HG.out g hg; have := HGL.out; have := HBB.out.size; have := HH5.out.lt; omega)
        have HNO := Kp.mk (fun y (hy : y ∈ ns) => HO6.out y (HS.out y hy))
        have HZM := Kp.mk (show okR z.r ∧ z.r.os.length ≤ 1000000000 by rw [HZR.out]; exact ⟨okR_made _, madeR_len2 _⟩)
        have HNL := Kp.mk (show ns.length ≤ k by have h1 := List.length_filter_le (fun x => !decide (cmpR x z.r = 0)) (rls hs); have h2 := congrArg List.length HNE.out; unfold offP at h2; rw [rls_len] at h1 h2; have := HN.out; omega)
        have HWE := Kp.mk (first_del ha.facts.1 HP.out HZM.out.1)
        have HWA := Kp.mk (first_add ha.facts.1 HP.out HZM.out.1 (show ((l.length : Nat) : Int) < 64 by have := HP.out.length_eq; rw [rls_len, ← HN.out] at this; omega))
        have HRW := Kp.mk (show wasP z.r (rls hs) k = wasP z.r (rls hs) (rls hs).length by rw [rls_len, ← HN.out])
        clear hbw HA5 HR5 HH5 HO5 HBB HP5 HL5 HGZ HZO hO HE HS HTK
        generalize hwp : wasP z.r (rls hs) k = wp at *
        obtain ⟨gg, hgg⟩ : ∃ gg : Bool, gg = (bs[i]?).getD false := ⟨_, rfl⟩
        go_upto_region 19 with fail
        go_cut [79] from 70 to 99 (fun v wx => v = .bool gg ∧ wx = wr)
        case first =>
          by_cases hib : (i : Int) < n2
          · obtain ⟨gb, ob, eb, _, hbc⟩ := hL.2.2.2.2 (by omega)
            subst eb
            obtain ⟨bb, hbb⟩ : ∃ bb, bs[i]? = some bb := ⟨_, List.getElem?_eq_getElem (by omega)⟩
            have hcell := hbc i bb hbb
            rw [hbb] at hgg
            simp only [Option.getD_some] at hgg
            subst hgg
            clear hbc hbb ha hh hgz hzo hB hR hL hno
            go_wp2_with fail
            go_meet
            case rel => exact ⟨rfl, rfl⟩
          · have hbb : bs[i]? = none := List.getElem?_eq_none (by omega)
            rw [hbb] at hgg
            simp only [Option.getD_none] at hgg
            subst hgg
            clear hbb ha hh hgz hzo hB hR hL hno
            go_wp2_with fail
            go_meet
            case rel => exact ⟨rfl, rfl⟩
        obtain ⟨rfl, rfl⟩ := hcut
        clear hgg
        cases gg with
        | true =>
          go_wp2_with (refine wpList_load_vb (vs := [.int .i64 z.r.k, .int .i64 z.r.pr, .int .i64 z.r.to, .int .i64 z.r.po, .int .i64 z.r.x.v, .int .i64 z.r.x.m, .int .u8 z.r.x.b0, .int .u8 z.r.x.b1, .int .u8 z.r.x.b2, .int .u8 z.r.x.i0, .int .u8 z.r.x.i1, .int .u8 z.r.x.i2, .slice z.A z.r.os.length z.c]) rfl (.tmp 11) rfl rfl hgz rfl agg_rule ?_)
          refine (tv_del ha hzo).mono ?_
          rintro e w6 ⟨rfl, ⟨v', ha', hna⟩, hfa⟩
          have hno6 := hno.tabled ha hfa HAN.out
          have hh6 := hfa.block w.heap.size (by have := hB.size; have := hh.lt; omega) (by have := HT.out; omega) (fun e => by have := HGB.out w.heap.size (.inl e.symm); omega)
          have hlow := hfa.low (n := w.heap.size) (by have := HT.out; omega) (fun g e => by have := HGB.out g (.inl e); omega) hB.size
          have hR6 := hR.below hlow
          have hL6 := hL.below hlow
          have hB6 := hB.trans hlow
          have hh7 : Vb 31 w6 w.heap.size [.int .u8 p, .int .u8 q, .int .u8 r] := hh6.trans hh
          have HNO6 := Kp.mk (fun y (hy : y ∈ ns) => (HNO.out y hy).tabled ha hfa)
          have HAN6 := Kp.mk (HAN.out.step hno hna)
          have HGB6 := Kp.mk (show ∀ g, (v'.ownBlock = some g ∨ u12.ownBlock = some g) → w.heap.size < g from fun g hg => by
            rcases hg with hg | hg
            · rcases hna g hg with e | e2
              · exact HGB.out g (.inl e)
              · have := hh.lt; omega
            · exact HGB.out g (.inr hg))
          clear ha hno hh hfa hna hR hL hB hlow hh6 hgz hzo
          have HPD := Kp.mk (show (delL z.r l).Perm (rls ns) by rw [HNE.out]; exact HWE.out.2)
          have hde : (delE z.r l == 0) = wp := by have := HWE.out.1; rw [← HRW.out] at this; rw [← this]; rfl
          have hln : ((delL z.r l).length : Int) = ns.length := by have := HPD.out.length_eq; rw [rls_len] at this; omega
          have hformn := hno6.form
          obtain ⟨An, cn, hvn, _⟩ := hformn
          subst hvn
          go_wp2_with fail
          refine (tv_len ha').mono ?_
          rintro e w7 ⟨rfl, rfl⟩
          rw [hln]
          clear hln hde
          go_wp2_with fail
          go_roundw
          case rel => exact ⟨i + 1, ns, v', _, by go_num, by have := HI1.out; omega, by omega, ha', hno6, hh7, by have := HNL.out; have := HOL.out; have := HN.out; omega, HPD, HNO6, HAN6, HGB6, hR6, hL6, hB6⟩
          case measure => simp [intOf]; omega
        | false =>
          go_wp2_with (refine wpList_load_vb (vs := [.int .i64 z.r.k, .int .i64 z.r.pr, .int .i64 z.r.to, .int .i64 z.r.po, .int .i64 z.r.x.v, .int .i64 z.r.x.m, .int .u8 z.r.x.b0, .int .u8 z.r.x.b1, .int .u8 z.r.x.b2, .int .u8 z.r.x.i0, .int .u8 z.r.x.i1, .int .u8 z.r.x.i2, .slice z.A z.r.os.length z.c]) rfl (.tmp 11) rfl rfl hgz rfl agg_rule ?_)
          refine (tv_adde ha hzo HZM.out.2 HWA.out.1).mono ?_
          rintro e w6 ⟨rfl, ⟨v', ha', hna⟩, hfa⟩
          have hno6 := hno.tabled ha hfa HAN.out
          have hh6 := hfa.block w.heap.size (by have := hB.size; have := hh.lt; omega) (by have := HT.out; omega) (fun e => by have := HGB.out w.heap.size (.inl e.symm); omega)
          have hlow := hfa.low (n := w.heap.size) (by have := HT.out; omega) (fun g e => by have := HGB.out g (.inl e); omega) hB.size
          have hR6 := hR.below hlow
          have hL6 := hL.below hlow
          have hB6 := hB.trans hlow
          have hh7 : Vb 31 w6 w.heap.size [.int .u8 p, .int .u8 q, .int .u8 r] := hh6.trans hh
          have HNO6 := Kp.mk (fun y (hy : y ∈ ns) => (HNO.out y hy).tabled ha hfa)
          have HAN6 := Kp.mk (HAN.out.step hno hna)
          have HGB6 := Kp.mk (show ∀ g, (v'.ownBlock = some g ∨ u12.ownBlock = some g) → w.heap.size < g from fun g hg => by
            rcases hg with hg | hg
            · rcases hna g hg with e | e2
              · exact HGB.out g (.inl e)
              · have := hh.lt; omega
            · exact HGB.out g (.inr hg))
          have hgz6 : Vb 36 w6 gz [.int .i64 z.r.k, .int .i64 z.r.pr, .int .i64 z.r.to, .int .i64 z.r.po, .int .i64 z.r.x.v, .int .i64 z.r.x.m, .int .u8 z.r.x.b0, .int .u8 z.r.x.b1, .int .u8 z.r.x.b2, .int .u8 z.r.x.i0, .int .u8 z.r.x.i1, .int .u8 z.r.x.i2, .slice z.A z.r.os.length z.c] := (hfa.block gz hgz.lt (fun e => vb_ne ha.blk hgz (by decide) e.symm) (fun e => by have := HVG.out gz e.symm; omega)).trans hgz
          have hzo6 := hzo.tabled ha hfa
          clear ha hno hh hfa hna hR hL hB hlow hh6 hgz hzo
          have HPD := Kp.mk (show (addL 64 z.r l).Perm (rls (ns ++ [z])) by rw [show rls (ns ++ [z]) = rls ns ++ [z.r] by simp [rls], HNE.out]; exact HWA.out.2)
          have hln : ((addL 64 z.r l).length : Int) = (ns ++ [z]).length := by have := HPD.out.length_eq; rw [rls_len] at this; omega
          have hba := below_alloc w6 (.cells #[.int .i64 z.r.k, .int .i64 z.r.pr, .int .i64 z.r.to, .int .i64 z.r.po, .int .i64 z.r.x.v, .int .i64 z.r.x.m, .int .u8 z.r.x.b0, .int .u8 z.r.x.b1, .int .u8 z.r.x.b2, .int .u8 z.r.x.i0, .int .u8 z.r.x.i1, .int .u8 z.r.x.i2, .slice z.A z.r.os.length z.c] 36)
          have hr6 := rowb_one w6 z
          have hn7 := hno6.below hba
          have HNO7 := Kp.mk (fun y (hy : y ∈ ns) => (HNO6.out y hy).below hba)
          have hz7 := hzo6.below hba
          have ha7 := ha'.below hba
          have hh8 := hh7.below hba hh7.lt
          have hR7 := hR6.below (hba.mono hB6.size)
          have hL7 := hL6.below (hba.mono hB6.size)
          have hB7 := hB6.trans (hba.mono hB6.size)
          obtain ⟨v7, w7, hrun7, hn8, hg7, hN7⟩ := run_appendR (c := 1) 51 hn7 (⟨rfl, .inr ⟨w6.heap.size, 0, [z], by simp, hr6, by simp, rfl⟩⟩ : SrcR _ (some ⟨w6.heap.size, 0, none⟩) 1 [z]) (by have := HNL.out; omega)
          have ha8 := ha7.rowed hn7 hg7 (HAN6.out.symm)
          have HNO8 := Kp.mk (show ∀ y ∈ ns ++ [z], Ob w7 y from fun y hy => by
            rcases List.mem_append.1 hy with hy | hy
            · exact (HNO7.out y hy).rowed hn7 hg7
            · rw [List.mem_singleton.1 hy]; exact hz7.rowed hn7 hg7)
          have hlow7 := (Below.refl w.heap.size (w6.alloc (.cells #[.int .i64 z.r.k, .int .i64 z.r.pr, .int .i64 z.r.to, .int .i64 z.r.po, .int .i64 z.r.x.v, .int .i64 z.r.x.m, .int .u8 z.r.x.b0, .int .u8 z.r.x.b1, .int .u8 z.r.x.b2, .int .u8 z.r.x.i0, .int .u8 z.r.x.i1, .int .u8 z.r.x.i2, .slice z.A z.r.os.length z.c] 36))).grown hg7 hB7.size (fun g e => by have := HGB6.out g (.inr e); omega)
          have hR8 := hR7.below hlow7
          have hL8 := hL7.below hlow7
          have hB8 := hB7.trans hlow7
          have hh9 : Vb 31 w7 w.heap.size [.int .u8 p, .int .u8 q, .int .u8 r] := (hg7.block w.heap.size hh8.lt (fun e => by have := HGB6.out w.heap.size (.inr e.symm); omega)).trans hh8
          have HAN8 := Kp.mk (show Apt v7 v' from fun g hg e => by
            rcases hN7 with e2 | ⟨k2, e2, h2⟩
            · exact HAN6.out g (e2 ▸ hg) e
            · rw [e2] at hg; have := Option.some.inj hg; have := (ha7.row.choose_spec.lt g e).1; omega)
          have HGB8 := Kp.mk (show ∀ g, (v'.ownBlock = some g ∨ v7.ownBlock = some g) → w.heap.size < g from fun g hg => by
            rcases hg with hg | hg
            · exact HGB6.out g (.inl hg)
            · rcases hN7 with e2 | ⟨k2, e2, h2⟩
              · exact HGB6.out g (.inr (e2 ▸ hg))
              · rw [e2] at hg; have := Option.some.inj hg; have := hh8.lt; omega)
          clear ha' hno6 hh7 hR6 hL6 hB6 hba hr6 hn7 hz7 ha7 hh8 hR7 hL7 hB7 hg7 hN7 hlow7 hzo6
          have hformn := hn8.form
          obtain ⟨An, cn, hvn, _⟩ := hformn
          have hl8 : (ns ++ [z]).length = ns.length + 1 := by simp
          rw [hl8] at hvn hln
          clear hl8
          subst hvn
          go_wp2_with (first | refine wpList_load_vb (vs := [.int .i64 z.r.k, .int .i64 z.r.pr, .int .i64 z.r.to, .int .i64 z.r.po, .int .i64 z.r.x.v, .int .i64 z.r.x.m, .int .u8 z.r.x.b0, .int .u8 z.r.x.b1, .int .u8 z.r.x.b2, .int .u8 z.r.x.i0, .int .u8 z.r.x.i1, .int .u8 z.r.x.i2, .slice z.A z.r.os.length z.c]) rfl (.tmp 11) rfl rfl hgz6 rfl agg_rule ?_ | (at_builtin; refine Lib.wpList_append_run _ rfl _ _ _ _ rfl _ _ rfl rfl _ _ hrun7 ?_))
          refine (tv_len ha8).mono ?_
          rintro e w8 ⟨rfl, rfl⟩
          rw [hln]
          clear hln
          go_wp2_with fail
          go_roundw
          case rel => exact ⟨i + 1, ns ++ [z], v', _, by go_num, by have := HI1.out; omega, by omega, ha8, hn8, hh9, by rw [List.length_append]; have := HNL.out; have := HOL.out; have := HN.out; simp; omega, HPD, HNO8, HAN8, HGB8, hR8, hL8, hB8⟩
          case measure => simp [intOf]; omega
    go_upto_region 8 with fail
    go_cut [42] from 35 to 99 (fun v wx => v = .bool false ∧ wx = wr)
    case first =>
      clear ha hO hh hR hL hB hi1 hi2 hol HP HO HA HF HI1 HI2 HOL
      by_cases j1 : (i : Int) < n
      · have j2 : ¬ (i : Int) < 60 := fun h => hgo ⟨j1, h⟩
        clear hgo
        go_wp2_with fail
        go_meet
        case rel => exact ⟨rfl, rfl⟩
      · clear hgo
        go_wp2_with fail
        go_meet
        case rel => exact ⟨rfl, rfl⟩
    obtain ⟨rfl, hwc⟩ := hcut
    subst hwc
    clear hgo hR hL hi1 HI1 hyl hbl
    have hl60 : hs.length ≤ 60 := by omega
    clear hi2 hol HI2 HOL
    obtain ⟨N, hN⟩ : ∃ N, N = hs.length := ⟨_, rfl⟩
    have HN := Kp.mk hN
    rw [← hN] at hl60
    have hform := hO.form
    obtain ⟨Ao, co, hvo, _⟩ := hform
    rw [← hN] at hvo
    clear hN
    subst hvo
    have HA5 := Kp.mk ha
    have HR5 := Kp.mk hO
    have HH5 := Kp.mk hh
    have HB5 := Kp.mk hB
    have hb0 := Below.refl wc.heap.size wc
    clear ha hO hh hB HA HF
    go_wp2_with fail
    go_loopw [15] (fun s15 wx => ∃ ver : Nat, s15 = .int .i64 ver ∧ ver ≤ 3 ∧ Below wc.heap.size wc wx) (fun s15 _ => 3 - (intOf s15).toNat)
    case atStart => exact ⟨0, rfl, by omega, hb0⟩
    case round =>
      clear hb0
      obtain ⟨ver, rfl, hv3, hbw⟩ := hrel
      by_cases hv : (ver : Int) < 3
      · go_wp2_with fail
        go_loopw [16] (fun s16 wx => ∃ port : Nat, s16 = .int .i64 port ∧ port ≤ 3 ∧ Below wc.heap.size wc wx) (fun s16 _ => 3 - (intOf s16).toNat)
        case atStart => exact ⟨0, rfl, by omega, hbw⟩
        case round =>
          clear hbw
          obtain ⟨port, rfl, hp3, hbw⟩ := hrel
          by_cases hpt : (port : Int) < 3
          · have ha := HA5.out.below hbw
            have hh := HH5.out.below hbw HH5.out.lt
            have hO := HR5.out.below hbw
            have HO5 := Kp.mk (fun y (hy : y ∈ hs) => (HO.out y hy).below hbw)
            go_wp2_with (refine wpList_load_vb (vs := [.int .u8 p, .int .u8 q, .int .u8 r]) rfl (.tmp 5) rfl rfl hh rfl agg_header9 ?_)
            refine (tv_data ha ver port p q r).mono ?_
            rintro e w4 ⟨y, b, rfl, hD, hyo, _, hb4⟩
            have HFI := Kp.mk (fun (x : RuleV) hx hk hf => data_first (x := x) ha.facts.1 hD hx hk hf)
            obtain ⟨j0, hj0⟩ := data_at hD HP.out
            have HJ := Kp.mk hj0
            clear hj0 hD
            go_upto_region 35 with (refine wpList_store_new (vs := [.int .i64 y.r.k, .int .i64 y.r.pr, .int .i64 y.r.to, .int .i64 y.r.po, .int .i64 y.r.x.v, .int .i64 y.r.x.m, .int .u8 y.r.x.b0, .int .u8 y.r.x.b1, .int .u8 y.r.x.b2, .int .u8 y.r.x.i0, .int .u8 y.r.x.i1, .int .u8 y.r.x.i2, .slice y.A y.r.os.length y.c]) rfl (.tmp 17) (.tmp 114) rfl rfl rfl rfl rfl rfl agg_rule rfl ?_; intro w5 hgx hb5 hz5)
            have hb45 := hb4.trans (hb5.mono hb4.size)
            have HR6 := Kp.mk (hO.below hb45)
            have HH6 := Kp.mk (hh.below hb45 hh.lt)
            have HO6 := Kp.mk (fun y (hy : y ∈ hs) => (HO5.out y hy).below hb45)
            have HBX := Kp.mk (hbw.trans (hb45.mono hbw.size))
            have HYO := Kp.mk (hyo.below hb5)
            have HGX := Kp.mk hgx
            clear ha hO hh HO5 hbw hb4 hb5 hb45 hz5 hyo hgx
            generalize w4.heap.size = gx at *
            have hbx := Below.refl w5.heap.size w5
            go_wp2_with fail
            go_loopw [19, 20] (fun s19 s20 wx => ∃ (k : Nat) (f : Bool), s20 = .int .i64 k ∧ s19 = .bool f ∧ k ≤ N ∧ Kp ((f = true → b = true) ∧ (b = true → j0 < k → f = true)) ∧ Below w5.heap.size w5 wx) (fun _ s20 _ => N - (intOf s20).toNat)
            case atStart => exact ⟨0, false, rfl, rfl, Nat.zero_le _, Kp.mk ⟨fun h => by simp at h, fun _ h => by omega⟩, hbx⟩
            case round =>
              clear hbx
              obtain ⟨k, f, rfl, rfl, hk, HFF, hbw⟩ := hrel
              by_cases hkN : k < N
              · obtain ⟨x, hx⟩ : ∃ x, hs[k]? = some x := ⟨_, List.getElem?_eq_getElem (by have := HN.out; omega)⟩
                have HXR := Kp.mk (rls_at hx)
                have HXM := Kp.mk (List.mem_of_getElem? hx)
                have hro := HR6.out
                rcases hro with ⟨_, e0⟩ | ⟨g1, sp1, hv1, hro, _⟩
                · exfalso; rw [e0] at hx; simp at hx
                obtain ⟨rfl, -, -⟩ := Value.slice.inj hv1
                clear hv1
                have hxz : (hs ++ sp1)[k]? = some x := by rw [List.getElem?_append_left (by have := HN.out; omega)]; exact hx
                have HRO := Kp.mk (show Rowb w5 g1 (hs ++ sp1) from hro)
                replace hro := Vb.below hro hbw (Vb.lt hro)
                generalize hs ++ sp1 = R1 at *
                clear hx
                have q0 := fl_get R1 k 0 x hxz (by omega)
                have q1 := fl_get R1 k 1 x hxz (by omega)
                have q2 := fl_get R1 k 2 x hxz (by omega)
                have q3 := fl_get R1 k 3 x hxz (by omega)
                have q4 := fl_get R1 k 4 x hxz (by omega)
                have q5 := fl_get R1 k 5 x hxz (by omega)
                have q6 := fl_get R1 k 6 x hxz (by omega)
                have q7 := fl_get R1 k 7 x hxz (by omega)
                have q8 := fl_get R1 k 8 x hxz (by omega)
                have q9 := fl_get R1 k 9 x hxz (by omega)
                have q10 := fl_get R1 k 10 x hxz (by omega)
                have q11 := fl_get R1 k 11 x hxz (by omega)
                have q12 := fl_get R1 k 12 x hxz (by omega)
                rw [Nat.add_zero] at q0
                have hh := HH6.out.below hbw HH6.out.lt
                have HNF := Kp.mk (show ¬ (x.r.k = 1 ∧ fitsM x.r.x ver port p q r = true) → ((f = true → b = true) ∧ (b = true → j0 < k + 1 → f = true)) from fun hn => ⟨HFF.out.1, fun hb hj => by
                  by_cases hjk : j0 < k
                  · exact HFF.out.2 hb hjk
                  · obtain rfl : j0 = k := by omega
                    obtain ⟨h1, h2⟩ := HJ.out hb
                    rw [HXR.out] at h1
                    rw [← Option.some.inj h1] at h2
                    exact absurd h2 hn⟩)
                by_cases hk1 : x.r.k = 1
                · cases hft : fitsM x.r.x ver port p q r with
                  | false =>
                    go_upto_region 39 with fail
                    have hS0 : (fun W => Rowb W g1 R1 ∧ Vb 31 W w.heap.size [.int .u8 p, .int .u8 q, .int .u8 r]) wr.drew := ⟨hro, hh⟩
                    have hbd := hbw.drew
                    refine wp_region_held_drew (S := fun W => Rowb W g1 R1 ∧ Vb 31 W w.heap.size [.int .u8 p, .int .u8 q, .int .u8 r]) (by kernel_rfl) hS0 (fun _ => ?_)
                    clear hro hh hbw
                    generalize wr.drew = u0 at *
                    refine takeD (i := 0) (v := .slice (some ⟨g1, 0, none⟩) N co) (some 122) rfl rfl (by kernel_rfl) (by kernel_rfl) (by kernel_rfl) (fun _ _ _ h => h) (Or.inl ⟨by rfl, ?_⟩) hS0 ?_
                    · rintro w' _
                      go_simp
                    try simp only [Act.put, List.setIfInBounds_toArray, List.set_cons_zero, List.set_cons_succ]
                    refine takeD (i := 1) (v := .int .i64 k) (some 123) rfl rfl (by kernel_rfl) (by kernel_rfl) (by kernel_rfl) (fun _ _ _ h => h) (Or.inl ⟨by rfl, ?_⟩) hS0 ?_
                    · rintro w' _
                      go_simp
                    try simp only [Act.put, List.setIfInBounds_toArray, List.set_cons_zero, List.set_cons_succ]
                    refine takeD (i := 2) (v := .pointer (some ⟨g1, k * 13, none⟩)) (some 124) rfl rfl (by kernel_rfl) (by kernel_rfl) (by kernel_rfl) (fun _ _ _ h => h) (Or.inl ⟨by rfl, ?_⟩) hS0 ?_
                    · rintro w' _
                      go_simp
                    try simp only [Act.put, List.setIfInBounds_toArray, List.set_cons_zero, List.set_cons_succ]
                    refine takeD (i := 3) (v := .pointer (some ⟨g1, k * 13, none⟩)) (some 125) rfl rfl (by kernel_rfl) (by kernel_rfl) (by kernel_rfl) (fun _ _ _ h => h) (Or.inl ⟨by rfl, ?_⟩) hS0 ?_
                    · rintro w' _
                      go_simp
                    try simp only [Act.put, List.setIfInBounds_toArray, List.set_cons_zero, List.set_cons_succ]
                    refine takeD (i := 4) (v := .int .i64 x.r.k) (some 126) rfl rfl (by kernel_rfl) (by kernel_rfl) (by kernel_rfl) (fun _ _ _ h => h) (Or.inl ⟨by rfl, ?_⟩) hS0 ?_
                    · rintro w' ⟨s0, _⟩
                      have d0 := Vb.cell s0 (k * 13) (q0.trans rfl)
                      go_simp
                    try simp only [Act.put, List.setIfInBounds_toArray, List.set_cons_zero, List.set_cons_succ]
                    refine takeD (i := 5) (v := .bool false) (some 127) rfl rfl (by kernel_rfl) (by kernel_rfl) (by kernel_rfl) (fun _ _ _ h => h) (Or.inl ⟨by rfl, ?_⟩) hS0 ?_
                    · rintro w' _
                      have he : (x.r.k != 1) = false := by simp [hk1]
                      go_simp
                    try simp only [Act.put, List.setIfInBounds_toArray, List.set_cons_zero, List.set_cons_succ]
                    refine takeD (i := 6) (v := .bool false) (some 128) rfl rfl (by kernel_rfl) (by kernel_rfl) (by kernel_rfl) (fun _ _ _ h => h) (Or.inl ⟨by rfl, ?_⟩) hS0 ?_
                    · rintro w' _
                      go_simp
                    try simp only [Act.put, List.setIfInBounds_toArray, List.set_cons_zero, List.set_cons_succ]
                    refine takeD (i := 7) (v := .slice (some ⟨g1, 0, none⟩) N co) (some 129) rfl rfl (by kernel_rfl) (by kernel_rfl) (by kernel_rfl) (fun _ _ _ h => h) (Or.inl ⟨by rfl, ?_⟩) hS0 ?_
                    · rintro w' _
                      go_simp
                    try simp only [Act.put, List.setIfInBounds_toArray, List.set_cons_zero, List.set_cons_succ]
                    refine takeD (i := 8) (v := .int .i64 k) (some 130) rfl rfl (by kernel_rfl) (by kernel_rfl) (by kernel_rfl) (fun _ _ _ h => h) (Or.inl ⟨by rfl, ?_⟩) hS0 ?_
                    · rintro w' _
                      go_simp
                    try simp only [Act.put, List.setIfInBounds_toArray, List.set_cons_zero, List.set_cons_succ]
                    refine takeD (i := 9) (v := .pointer (some ⟨g1, k * 13, none⟩)) (some 131) rfl rfl (by kernel_rfl) (by kernel_rfl) (by kernel_rfl) (fun _ _ _ h => h) (Or.inl ⟨by rfl, ?_⟩) hS0 ?_
                    · rintro w' _
                      go_simp
                    try simp only [Act.put, List.setIfInBounds_toArray, List.set_cons_zero, List.set_cons_succ]
                    refine takeD (i := 10) (v := .pointer (some ⟨g1, k * 13 + 4, none⟩)) (some 132) rfl rfl (by kernel_rfl) (by kernel_rfl) (by kernel_rfl) (fun _ _ _ h => h) (Or.inl ⟨by rfl, ?_⟩) hS0 ?_
                    · rintro w' _
                      go_simp
                    try simp only [Act.put, List.setIfInBounds_toArray, List.set_cons_zero, List.set_cons_succ]
                    refine takeD (i := 11) (v := .agg #[.int .i64 x.r.x.v, .int .i64 x.r.x.m, .int .u8 x.r.x.b0, .int .u8 x.r.x.b1, .int .u8 x.r.x.b2, .int .u8 x.r.x.i0, .int .u8 x.r.x.i1, .int .u8 x.r.x.i2]) (some 133) rfl rfl (by kernel_rfl) (by kernel_rfl) (by kernel_rfl) (fun _ _ _ h => h) (Or.inl ⟨by rfl, ?_⟩) hS0 ?_
                    · rintro w' ⟨s0, _⟩
                      have d4 := Vb.cell s0 (k * 13 + 4) (q4.trans rfl)
                      have d5 := Vb.cell s0 (k * 13 + 5) (q5.trans rfl)
                      have d6 := Vb.cell s0 (k * 13 + 6) (q6.trans rfl)
                      have d7 := Vb.cell s0 (k * 13 + 7) (q7.trans rfl)
                      have d8 := Vb.cell s0 (k * 13 + 8) (q8.trans rfl)
                      have d9 := Vb.cell s0 (k * 13 + 9) (q9.trans rfl)
                      have d10 := Vb.cell s0 (k * 13 + 10) (q10.trans rfl)
                      have d11 := Vb.cell s0 (k * 13 + 11) (q11.trans rfl)
                      go_simp
                    try simp only [Act.put, List.setIfInBounds_toArray, List.set_cons_zero, List.set_cons_succ]
                    refine takeD (i := 12) (v := .int .i64 ver) (some 134) rfl rfl (by kernel_rfl) (by kernel_rfl) (by kernel_rfl) (fun _ _ _ h => h) (Or.inl ⟨by rfl, ?_⟩) hS0 ?_
                    · rintro w' _
                      go_simp
                    try simp only [Act.put, List.setIfInBounds_toArray, List.set_cons_zero, List.set_cons_succ]
                    refine takeD (i := 13) (v := .int .i64 port) (some 135) rfl rfl (by kernel_rfl) (by kernel_rfl) (by kernel_rfl) (fun _ _ _ h => h) (Or.inl ⟨by rfl, ?_⟩) hS0 ?_
                    · rintro w' _
                      go_simp
                    try simp only [Act.put, List.setIfInBounds_toArray, List.set_cons_zero, List.set_cons_succ]
                    refine takeD (i := 14) (v := .agg #[.int .u8 p, .int .u8 q, .int .u8 r]) (some 136) rfl rfl (by kernel_rfl) (by kernel_rfl) (by kernel_rfl) (fun _ _ _ h => h) (Or.inl ⟨by rfl, ?_⟩) hS0 ?_
                    · rintro w' ⟨_, s0⟩
                      have d0 := s0.cell 0 rfl
                      have d1 := s0.cell 1 rfl
                      have d2 := s0.cell 2 rfl
                      go_simp
                    try simp only [Act.put, List.setIfInBounds_toArray, List.set_cons_zero, List.set_cons_succ]
                    refine wpAnyH_ready (rs := [15]) (by kernel_rfl) (by simp) ?_
                    refine AllReadyH.cons rfl (fun K hK => ?_) AllReadyH.nil
                    try rw [if_pos (by rfl)]
                    go_simp
                    go_at_call 31
                    refine (fitsMs x.r.x ver port p q r _).mono ?_
                    rintro e u1 ⟨rfl, hb1⟩
                    rw [hft]
                    have hS1 : (fun W => Rowb W g1 R1 ∧ Vb 31 W w.heap.size [.int .u8 p, .int .u8 q, .int .u8 r]) u1 := ⟨Vb.below hS0.1 hb1 (Vb.lt hS0.1), Vb.below hS0.2 hb1 (Vb.lt hS0.2)⟩
                    have hbe := hbd.trans (hb1.mono hbd.size)
                    refine hK.out _ _ hS1 (fun _ => ?_)
                    clear hK K hb1 hbd
                    try simp only [Act.put, List.setIfInBounds_toArray, List.set_cons_zero, List.set_cons_succ]
                    refine takeD (i := 16) (v := .bool true) (some 138) rfl rfl (by kernel_rfl) (by kernel_rfl) (by kernel_rfl) (fun _ _ _ h => h) (Or.inl ⟨by rfl, ?_⟩) hS1 ?_
                    · rintro w' _
                      go_simp
                    try simp only [Act.put, List.setIfInBounds_toArray, List.set_cons_zero, List.set_cons_succ]
                    refine takeD (i := 17) (v := .bool true) (some 139) rfl rfl (by kernel_rfl) (by kernel_rfl) (by kernel_rfl) (fun _ _ _ h => h) (Or.inl ⟨by rfl, ?_⟩) hS1 ?_
                    · rintro w' _
                      go_simp
                    try simp only [Act.put, List.setIfInBounds_toArray, List.set_cons_zero, List.set_cons_succ]
                    refine wpAnyH_done (by kernel_rfl) ?_ _
                    have HN2 := Kp.mk (HNF.out (fun h => by rw [hft] at h; simp at h))
                    clear hS0 hS1 hft hk1 HNF HRO hxz q0 q1 q2 q3 q4 q5 q6 q7 q8 q9 q10 q11 q12
                    go_wp2_with fail
                    go_roundw
                    case rel => exact ⟨k + 1, f, by go_num, rfl, by omega, HN2, hbe⟩
                    case measure => simp [intOf]; omega
                  | true =>
                    go_upto_region 39 with fail
                    have hS0 : (fun W => Rowb W g1 R1 ∧ Vb 31 W w.heap.size [.int .u8 p, .int .u8 q, .int .u8 r]) wr.drew := ⟨hro, hh⟩
                    have hbd := hbw.drew
                    refine wp_region_held_drew (S := fun W => Rowb W g1 R1 ∧ Vb 31 W w.heap.size [.int .u8 p, .int .u8 q, .int .u8 r]) (by kernel_rfl) hS0 (fun _ => ?_)
                    clear hro hh hbw
                    generalize wr.drew = u0 at *
                    refine takeD (i := 0) (v := .slice (some ⟨g1, 0, none⟩) N co) (some 122) rfl rfl (by kernel_rfl) (by kernel_rfl) (by kernel_rfl) (fun _ _ _ h => h) (Or.inl ⟨by rfl, ?_⟩) hS0 ?_
                    · rintro w' _
                      go_simp
                    try simp only [Act.put, List.setIfInBounds_toArray, List.set_cons_zero, List.set_cons_succ]
                    refine takeD (i := 1) (v := .int .i64 k) (some 123) rfl rfl (by kernel_rfl) (by kernel_rfl) (by kernel_rfl) (fun _ _ _ h => h) (Or.inl ⟨by rfl, ?_⟩) hS0 ?_
                    · rintro w' _
                      go_simp
                    try simp only [Act.put, List.setIfInBounds_toArray, List.set_cons_zero, List.set_cons_succ]
                    refine takeD (i := 2) (v := .pointer (some ⟨g1, k * 13, none⟩)) (some 124) rfl rfl (by kernel_rfl) (by kernel_rfl) (by kernel_rfl) (fun _ _ _ h => h) (Or.inl ⟨by rfl, ?_⟩) hS0 ?_
                    · rintro w' _
                      go_simp
                    try simp only [Act.put, List.setIfInBounds_toArray, List.set_cons_zero, List.set_cons_succ]
                    refine takeD (i := 3) (v := .pointer (some ⟨g1, k * 13, none⟩)) (some 125) rfl rfl (by kernel_rfl) (by kernel_rfl) (by kernel_rfl) (fun _ _ _ h => h) (Or.inl ⟨by rfl, ?_⟩) hS0 ?_
                    · rintro w' _
                      go_simp
                    try simp only [Act.put, List.setIfInBounds_toArray, List.set_cons_zero, List.set_cons_succ]
                    refine takeD (i := 4) (v := .int .i64 x.r.k) (some 126) rfl rfl (by kernel_rfl) (by kernel_rfl) (by kernel_rfl) (fun _ _ _ h => h) (Or.inl ⟨by rfl, ?_⟩) hS0 ?_
                    · rintro w' ⟨s0, _⟩
                      have d0 := Vb.cell s0 (k * 13) (q0.trans rfl)
                      go_simp
                    try simp only [Act.put, List.setIfInBounds_toArray, List.set_cons_zero, List.set_cons_succ]
                    refine takeD (i := 5) (v := .bool false) (some 127) rfl rfl (by kernel_rfl) (by kernel_rfl) (by kernel_rfl) (fun _ _ _ h => h) (Or.inl ⟨by rfl, ?_⟩) hS0 ?_
                    · rintro w' _
                      have he : (x.r.k != 1) = false := by simp [hk1]
                      go_simp
                    try simp only [Act.put, List.setIfInBounds_toArray, List.set_cons_zero, List.set_cons_succ]
                    refine takeD (i := 6) (v := .bool false) (some 128) rfl rfl (by kernel_rfl) (by kernel_rfl) (by kernel_rfl) (fun _ _ _ h => h) (Or.inl ⟨by rfl, ?_⟩) hS0 ?_
                    · rintro w' _
                      go_simp
                    try simp only [Act.put, List.setIfInBounds_toArray, List.set_cons_zero, List.set_cons_succ]
                    refine takeD (i := 7) (v := .slice (some ⟨g1, 0, none⟩) N co) (some 129) rfl rfl (by kernel_rfl) (by kernel_rfl) (by kernel_rfl) (fun _ _ _ h => h) (Or.inl ⟨by rfl, ?_⟩) hS0 ?_
                    · rintro w' _
                      go_simp
                    try simp only [Act.put, List.setIfInBounds_toArray, List.set_cons_zero, List.set_cons_succ]
                    refine takeD (i := 8) (v := .int .i64 k) (some 130) rfl rfl (by kernel_rfl) (by kernel_rfl) (by kernel_rfl) (fun _ _ _ h => h) (Or.inl ⟨by rfl, ?_⟩) hS0 ?_
                    · rintro w' _
                      go_simp
                    try simp only [Act.put, List.setIfInBounds_toArray, List.set_cons_zero, List.set_cons_succ]
                    refine takeD (i := 9) (v := .pointer (some ⟨g1, k * 13, none⟩)) (some 131) rfl rfl (by kernel_rfl) (by kernel_rfl) (by kernel_rfl) (fun _ _ _ h => h) (Or.inl ⟨by rfl, ?_⟩) hS0 ?_
                    · rintro w' _
                      go_simp
                    try simp only [Act.put, List.setIfInBounds_toArray, List.set_cons_zero, List.set_cons_succ]
                    refine takeD (i := 10) (v := .pointer (some ⟨g1, k * 13 + 4, none⟩)) (some 132) rfl rfl (by kernel_rfl) (by kernel_rfl) (by kernel_rfl) (fun _ _ _ h => h) (Or.inl ⟨by rfl, ?_⟩) hS0 ?_
                    · rintro w' _
                      go_simp
                    try simp only [Act.put, List.setIfInBounds_toArray, List.set_cons_zero, List.set_cons_succ]
                    refine takeD (i := 11) (v := .agg #[.int .i64 x.r.x.v, .int .i64 x.r.x.m, .int .u8 x.r.x.b0, .int .u8 x.r.x.b1, .int .u8 x.r.x.b2, .int .u8 x.r.x.i0, .int .u8 x.r.x.i1, .int .u8 x.r.x.i2]) (some 133) rfl rfl (by kernel_rfl) (by kernel_rfl) (by kernel_rfl) (fun _ _ _ h => h) (Or.inl ⟨by rfl, ?_⟩) hS0 ?_
                    · rintro w' ⟨s0, _⟩
                      have d4 := Vb.cell s0 (k * 13 + 4) (q4.trans rfl)
                      have d5 := Vb.cell s0 (k * 13 + 5) (q5.trans rfl)
                      have d6 := Vb.cell s0 (k * 13 + 6) (q6.trans rfl)
                      have d7 := Vb.cell s0 (k * 13 + 7) (q7.trans rfl)
                      have d8 := Vb.cell s0 (k * 13 + 8) (q8.trans rfl)
                      have d9 := Vb.cell s0 (k * 13 + 9) (q9.trans rfl)
                      have d10 := Vb.cell s0 (k * 13 + 10) (q10.trans rfl)
                      have d11 := Vb.cell s0 (k * 13 + 11) (q11.trans rfl)
                      go_simp
                    try simp only [Act.put, List.setIfInBounds_toArray, List.set_cons_zero, List.set_cons_succ]
                    refine takeD (i := 12) (v := .int .i64 ver) (some 134) rfl rfl (by kernel_rfl) (by kernel_rfl) (by kernel_rfl) (fun _ _ _ h => h) (Or.inl ⟨by rfl, ?_⟩) hS0 ?_
                    · rintro w' _
                      go_simp
                    try simp only [Act.put, List.setIfInBounds_toArray, List.set_cons_zero, List.set_cons_succ]
                    refine takeD (i := 13) (v := .int .i64 port) (some 135) rfl rfl (by kernel_rfl) (by kernel_rfl) (by kernel_rfl) (fun _ _ _ h => h) (Or.inl ⟨by rfl, ?_⟩) hS0 ?_
                    · rintro w' _
                      go_simp
                    try simp only [Act.put, List.setIfInBounds_toArray, List.set_cons_zero, List.set_cons_succ]
                    refine takeD (i := 14) (v := .agg #[.int .u8 p, .int .u8 q, .int .u8 r]) (some 136) rfl rfl (by kernel_rfl) (by kernel_rfl) (by kernel_rfl) (fun _ _ _ h => h) (Or.inl ⟨by rfl, ?_⟩) hS0 ?_
                    · rintro w' ⟨_, s0⟩
                      have d0 := s0.cell 0 rfl
                      have d1 := s0.cell 1 rfl
                      have d2 := s0.cell 2 rfl
                      go_simp
                    try simp only [Act.put, List.setIfInBounds_toArray, List.set_cons_zero, List.set_cons_succ]
                    refine wpAnyH_ready (rs := [15]) (by kernel_rfl) (by simp) ?_
                    refine AllReadyH.cons rfl (fun K hK => ?_) AllReadyH.nil
                    try rw [if_pos (by rfl)]
                    go_simp
                    go_at_call 31
                    refine (fitsMs x.r.x ver port p q r _).mono ?_
                    rintro e u1 ⟨rfl, hb1⟩
                    rw [hft]
                    have hS1 : (fun W => Rowb W g1 R1 ∧ Vb 31 W w.heap.size [.int .u8 p, .int .u8 q, .int .u8 r]) u1 := ⟨Vb.below hS0.1 hb1 (Vb.lt hS0.1), Vb.below hS0.2 hb1 (Vb.lt hS0.2)⟩
                    have hbe := hbd.trans (hb1.mono hbd.size)
                    refine hK.out _ _ hS1 (fun _ => ?_)
                    clear hK K hb1 hbd
                    try simp only [Act.put, List.setIfInBounds_toArray, List.set_cons_zero, List.set_cons_succ]
                    refine takeD (i := 16) (v := .bool false) (some 138) rfl rfl (by kernel_rfl) (by kernel_rfl) (by kernel_rfl) (fun _ _ _ h => h) (Or.inl ⟨by rfl, ?_⟩) hS1 ?_
                    · rintro w' _
                      go_simp
                    try simp only [Act.put, List.setIfInBounds_toArray, List.set_cons_zero, List.set_cons_succ]
                    refine takeD (i := 17) (v := .bool false) (some 139) rfl rfl (by kernel_rfl) (by kernel_rfl) (by kernel_rfl) (fun _ _ _ h => h) (Or.inl ⟨by rfl, ?_⟩) hS1 ?_
                    · rintro w' _
                      go_simp
                    try simp only [Act.put, List.setIfInBounds_toArray, List.set_cons_zero, List.set_cons_succ]
                    refine wpAnyH_done (by kernel_rfl) ?_ _
                    have HDF := Kp.mk (HFI.out x.r (HP.out.mem_iff.2 (List.mem_of_getElem? HXR.out)) hk1 hft)
                    clear hS0 hS1 hft hk1 HNF
                    go_upto_region 40 with fail
                    have hb := HDF.out.1
                    subst hb
                    go_cut [19] from 140 to 169 (fun v wx => ∃ f' : Bool, v = .bool f' ∧ (j0 < k + 1 → f' = true) ∧ Below w5.heap.size w5 wx)
                    case first =>
                      have hro := HRO.out.below hbe (Vb.lt HRO.out)
                      have hgx := HGX.out.below hbe (Vb.lt HGX.out)
                      have hox := (HO6.out x HXM.out).below hbe
                      have hoy := HYO.out.below hbe
                      have HTF := Kp.mk (show f = false → j0 < k + 1 → x.r = y.r from fun hf hj => by
                        by_cases hjk : j0 < k
                        · rw [HFF.out.2 rfl hjk] at hf; simp at hf
                        · obtain rfl : j0 = k := by omega
                          obtain ⟨h1, _⟩ := HJ.out rfl
                          rw [HXR.out] at h1; exact Option.some.inj h1)
                      have hS0 : (fun W => Rowb W g1 R1 ∧ Vb 36 W gx [.int .i64 y.r.k, .int .i64 y.r.pr, .int .i64 y.r.to, .int .i64 y.r.po, .int .i64 y.r.x.v, .int .i64 y.r.x.m, .int .u8 y.r.x.b0, .int .u8 y.r.x.b1, .int .u8 y.r.x.b2, .int .u8 y.r.x.i0, .int .u8 y.r.x.i1, .int .u8 y.r.x.i2, .slice y.A y.r.os.length y.c]) u1.drew := ⟨hro, hgx⟩
                      have hbd := hbe.drew
                      have hoxd := hox.below (Below.refl _ u1).drew
                      have hoyd := hoy.below (Below.refl _ u1).drew
                      refine wp_region_held_drew (S := fun W => Rowb W g1 R1 ∧ Vb 36 W gx [.int .i64 y.r.k, .int .i64 y.r.pr, .int .i64 y.r.to, .int .i64 y.r.po, .int .i64 y.r.x.v, .int .i64 y.r.x.m, .int .u8 y.r.x.b0, .int .u8 y.r.x.b1, .int .u8 y.r.x.b2, .int .u8 y.r.x.i0, .int .u8 y.r.x.i1, .int .u8 y.r.x.i2, .slice y.A y.r.os.length y.c]) (by kernel_rfl) hS0 (fun _ => ?_)
                      clear hro hgx hbe hox hoy
                      generalize u1.drew = u2 at *
                      cases f with
                      | true =>
                        refine takeD (i := 0) (v := .bool true) (some 140) rfl rfl (by kernel_rfl) (by kernel_rfl) (by kernel_rfl) (fun _ _ _ h => h) (Or.inl ⟨by rfl, ?_⟩) hS0 ?_
                        · rintro w' _
                          go_simp
                        try simp only [Act.put, List.setIfInBounds_toArray, List.set_cons_zero, List.set_cons_succ]
                        refine takeD (i := 1) (v := .bool true) (some 141) rfl rfl (by kernel_rfl) (by kernel_rfl) (by kernel_rfl) (fun _ _ _ h => h) (Or.inl ⟨by rfl, ?_⟩) hS0 ?_
                        · rintro w' _
                          go_simp
                        try simp only [Act.put, List.setIfInBounds_toArray, List.set_cons_zero, List.set_cons_succ]
                        refine takeD (i := 2) (v := undef) (some 142) rfl rfl (by kernel_rfl) (by kernel_rfl) (by kernel_rfl) (fun _ _ _ h => h) (Or.inr ⟨by rfl, rfl⟩) hS0 ?_
                        try simp only [Act.put, List.setIfInBounds_toArray, List.set_cons_zero, List.set_cons_succ]
                        refine takeD (i := 3) (v := undef) (some 143) rfl rfl (by kernel_rfl) (by kernel_rfl) (by kernel_rfl) (fun _ _ _ h => h) (Or.inr ⟨by rfl, rfl⟩) hS0 ?_
                        try simp only [Act.put, List.setIfInBounds_toArray, List.set_cons_zero, List.set_cons_succ]
                        refine takeD (i := 4) (v := undef) (some 144) rfl rfl (by kernel_rfl) (by kernel_rfl) (by kernel_rfl) (fun _ _ _ h => h) (Or.inr ⟨by rfl, rfl⟩) hS0 ?_
                        try simp only [Act.put, List.setIfInBounds_toArray, List.set_cons_zero, List.set_cons_succ]
                        refine takeD (i := 5) (v := undef) (some 145) rfl rfl (by kernel_rfl) (by kernel_rfl) (by kernel_rfl) (fun _ _ _ h => h) (Or.inr ⟨by rfl, rfl⟩) hS0 ?_
                        try simp only [Act.put, List.setIfInBounds_toArray, List.set_cons_zero, List.set_cons_succ]
                        refine takeD (i := 6) (v := undef) (some 146) rfl rfl (by kernel_rfl) (by kernel_rfl) (by kernel_rfl) (fun _ _ _ h => h) (Or.inr ⟨by rfl, rfl⟩) hS0 ?_
                        try simp only [Act.put, List.setIfInBounds_toArray, List.set_cons_zero, List.set_cons_succ]
                        refine takeD (i := 7) (v := undef) (some 147) rfl rfl (by kernel_rfl) (by kernel_rfl) (by kernel_rfl) (fun _ _ _ h => h) (Or.inr ⟨by rfl, rfl⟩) hS0 ?_
                        try simp only [Act.put, List.setIfInBounds_toArray, List.set_cons_zero, List.set_cons_succ]
                        refine takeD (i := 8) (v := .bool true) (some 148) rfl rfl (by kernel_rfl) (by kernel_rfl) (by kernel_rfl) (fun _ _ _ h => h) (Or.inl ⟨by rfl, ?_⟩) hS0 ?_
                        · rintro w' _
                          go_simp
                        try simp only [Act.put, List.setIfInBounds_toArray, List.set_cons_zero, List.set_cons_succ]
                        refine takeD (i := 9) (v := .bool true) (some 19) rfl rfl (by kernel_rfl) (by kernel_rfl) (by kernel_rfl) (fun _ _ _ h => h) (Or.inl ⟨by rfl, ?_⟩) hS0 ?_
                        · rintro w' _
                          go_simp
                        try simp only [Act.put, List.setIfInBounds_toArray, List.set_cons_zero, List.set_cons_succ]
                        refine wpAnyH_done (by kernel_rfl) ?_ _
                        clear hS0 hoxd hoyd q0 q1 q2 q3 q4 q5 q6 q7 q8 q9 q10 q11 q12 hxz
                        go_wp2_with fail
                        go_meet
                        case rel => exact ⟨true, rfl, fun _ => rfl, hbd⟩
                      | false =>
                        refine takeD (i := 0) (v := .bool false) (some 140) rfl rfl (by kernel_rfl) (by kernel_rfl) (by kernel_rfl) (fun _ _ _ h => h) (Or.inl ⟨by rfl, ?_⟩) hS0 ?_
                        · rintro w' _
                          go_simp
                        try simp only [Act.put, List.setIfInBounds_toArray, List.set_cons_zero, List.set_cons_succ]
                        refine takeD (i := 1) (v := .bool false) (some 141) rfl rfl (by kernel_rfl) (by kernel_rfl) (by kernel_rfl) (fun _ _ _ h => h) (Or.inl ⟨by rfl, ?_⟩) hS0 ?_
                        · rintro w' _
                          go_simp
                        try simp only [Act.put, List.setIfInBounds_toArray, List.set_cons_zero, List.set_cons_succ]
                        refine takeD (i := 2) (v := .slice (some ⟨g1, 0, none⟩) N co) (some 142) rfl rfl (by kernel_rfl) (by kernel_rfl) (by kernel_rfl) (fun _ _ _ h => h) (Or.inl ⟨by rfl, ?_⟩) hS0 ?_
                        · rintro w' _
                          go_simp
                        try simp only [Act.put, List.setIfInBounds_toArray, List.set_cons_zero, List.set_cons_succ]
                        refine takeD (i := 3) (v := .int .i64 k) (some 143) rfl rfl (by kernel_rfl) (by kernel_rfl) (by kernel_rfl) (fun _ _ _ h => h) (Or.inl ⟨by rfl, ?_⟩) hS0 ?_
                        · rintro w' _
                          go_simp
                        try simp only [Act.put, List.setIfInBounds_toArray, List.set_cons_zero, List.set_cons_succ]
                        refine takeD (i := 4) (v := .pointer (some ⟨g1, k * 13, none⟩)) (some 144) rfl rfl (by kernel_rfl) (by kernel_rfl) (by kernel_rfl) (fun _ _ _ h => h) (Or.inl ⟨by rfl, ?_⟩) hS0 ?_
                        · rintro w' _
                          go_simp
                        try simp only [Act.put, List.setIfInBounds_toArray, List.set_cons_zero, List.set_cons_succ]
                        refine takeD (i := 5) (v := .agg #[.int .i64 x.r.k, .int .i64 x.r.pr, .int .i64 x.r.to, .int .i64 x.r.po, .int .i64 x.r.x.v, .int .i64 x.r.x.m, .int .u8 x.r.x.b0, .int .u8 x.r.x.b1, .int .u8 x.r.x.b2, .int .u8 x.r.x.i0, .int .u8 x.r.x.i1, .int .u8 x.r.x.i2, .slice x.A x.r.os.length x.c]) (some 145) rfl rfl (by kernel_rfl) (by kernel_rfl) (by kernel_rfl) (fun _ _ _ h => h) (Or.inl ⟨by rfl, ?_⟩) hS0 ?_
                        · rintro w' ⟨s0, _⟩
                          have d0 := Vb.cell s0 (k * 13) (q0.trans rfl)
                          have d1 := Vb.cell s0 (k * 13 + 1) (q1.trans rfl)
                          have d2 := Vb.cell s0 (k * 13 + 2) (q2.trans rfl)
                          have d3 := Vb.cell s0 (k * 13 + 3) (q3.trans rfl)
                          have d4 := Vb.cell s0 (k * 13 + 4) (q4.trans rfl)
                          have d5 := Vb.cell s0 (k * 13 + 5) (q5.trans rfl)
                          have d6 := Vb.cell s0 (k * 13 + 6) (q6.trans rfl)
                          have d7 := Vb.cell s0 (k * 13 + 7) (q7.trans rfl)
                          have d8 := Vb.cell s0 (k * 13 + 8) (q8.trans rfl)
                          have d9 := Vb.cell s0 (k * 13 + 9) (q9.trans rfl)
                          have d10 := Vb.cell s0 (k * 13 + 10) (q10.trans rfl)
                          have d11 := Vb.cell s0 (k * 13 + 11) (q11.trans rfl)
                          have d12 := Vb.cell s0 (k * 13 + 12) (q12.trans rfl)
                          go_simp
                        try simp only [Act.put, List.setIfInBounds_toArray, List.set_cons_zero, List.set_cons_succ]
                        refine takeD (i := 6) (v := .agg #[.int .i64 y.r.k, .int .i64 y.r.pr, .int .i64 y.r.to, .int .i64 y.r.po, .int .i64 y.r.x.v, .int .i64 y.r.x.m, .int .u8 y.r.x.b0, .int .u8 y.r.x.b1, .int .u8 y.r.x.b2, .int .u8 y.r.x.i0, .int .u8 y.r.x.i1, .int .u8 y.r.x.i2, .slice y.A y.r.os.length y.c]) (some 146) rfl rfl (by kernel_rfl) (by kernel_rfl) (by kernel_rfl) (fun _ _ _ h => h) (Or.inl ⟨by rfl, ?_⟩) hS0 ?_
                        · rintro w' ⟨_, s0⟩
                          obtain ⟨d0, d1, d2, d3, d4, d5, d6, d7, d8, d9, d10, d11, d12⟩ := s0.c13
                          go_simp
                        try simp only [Act.put, List.setIfInBounds_toArray, List.set_cons_zero, List.set_cons_succ]
                        refine wpAnyH_ready (rs := [7]) (by kernel_rfl) (by simp) ?_
                        refine AllReadyH.cons rfl (fun K hK => ?_) AllReadyH.nil
                        try rw [if_pos (by rfl)]
                        go_simp
                        go_at_call 32
                        refine (sameU_any x y hoxd hoyd).mono ?_
                        rintro e u3 ⟨sb, rfl, hsb, hb1⟩
                        have hS1 : (fun W => Rowb W g1 R1 ∧ Vb 36 W gx [.int .i64 y.r.k, .int .i64 y.r.pr, .int .i64 y.r.to, .int .i64 y.r.po, .int .i64 y.r.x.v, .int .i64 y.r.x.m, .int .u8 y.r.x.b0, .int .u8 y.r.x.b1, .int .u8 y.r.x.b2, .int .u8 y.r.x.i0, .int .u8 y.r.x.i1, .int .u8 y.r.x.i2, .slice y.A y.r.os.length y.c]) u3 := ⟨Vb.below hS0.1 hb1 (Vb.lt hS0.1), Vb.below hS0.2 hb1 (Vb.lt hS0.2)⟩
                        have hbf := hbd.trans (hb1.mono hbd.size)
                        refine hK.out _ _ hS1 (fun _ => ?_)
                        clear hK K hb1 hbd
                        try simp only [Act.put, List.setIfInBounds_toArray, List.set_cons_zero, List.set_cons_succ]
                        refine takeD (i := 8) (v := .bool sb) (some 148) rfl rfl (by kernel_rfl) (by kernel_rfl) (by kernel_rfl) (fun _ _ _ h => h) (Or.inl ⟨by rfl, ?_⟩) hS1 ?_
                        · rintro w' _
                          go_simp
                        try simp only [Act.put, List.setIfInBounds_toArray, List.set_cons_zero, List.set_cons_succ]
                        refine takeD (i := 9) (v := .bool sb) (some 19) rfl rfl (by kernel_rfl) (by kernel_rfl) (by kernel_rfl) (fun _ _ _ h => h) (Or.inl ⟨by rfl, ?_⟩) hS1 ?_
                        · rintro w' _
                          go_simp
                        try simp only [Act.put, List.setIfInBounds_toArray, List.set_cons_zero, List.set_cons_succ]
                        refine wpAnyH_done (by kernel_rfl) ?_ _
                        have HSB := Kp.mk (show j0 < k + 1 → sb = true from fun hj => hsb (HTF.out rfl hj))
                        clear hS0 hS1 hoxd hoyd hsb HTF q0 q1 q2 q3 q4 q5 q6 q7 q8 q9 q10 q11 q12 hxz
                        go_wp2_with fail
                        go_meet
                        case rel => exact ⟨sb, rfl, HSB.out, hbf⟩
                    obtain ⟨f', rfl, hf', hbg⟩ := hcut
                    have HF2 := Kp.mk (show (f' = true → True) ∧ (True → j0 < k + 1 → f' = true) from ⟨fun _ => trivial, fun _ => hf'⟩)
                    clear hf'
                    have hro := HRO.out.below hbg (Vb.lt HRO.out)
                    have hgx := HGX.out.below hbg (Vb.lt HGX.out)
                    have hnc := HDF.out.2.1
                    have hnp := HDF.out.2.2.1
                    go_upto_region 41 with fail
                    have hS0 : (fun W => Rowb W g1 R1 ∧ Vb 36 W gx [.int .i64 y.r.k, .int .i64 y.r.pr, .int .i64 y.r.to, .int .i64 y.r.po, .int .i64 y.r.x.v, .int .i64 y.r.x.m, .int .u8 y.r.x.b0, .int .u8 y.r.x.b1, .int .u8 y.r.x.b2, .int .u8 y.r.x.i0, .int .u8 y.r.x.i1, .int .u8 y.r.x.i2, .slice y.A y.r.os.length y.c]) wc.drew := ⟨hro, hgx⟩
                    have hbd := hbg.drew
                    refine wp_region_held_drew (S := fun W => Rowb W g1 R1 ∧ Vb 36 W gx [.int .i64 y.r.k, .int .i64 y.r.pr, .int .i64 y.r.to, .int .i64 y.r.po, .int .i64 y.r.x.v, .int .i64 y.r.x.m, .int .u8 y.r.x.b0, .int .u8 y.r.x.b1, .int .u8 y.r.x.b2, .int .u8 y.r.x.i0, .int .u8 y.r.x.i1, .int .u8 y.r.x.i2, .slice y.A y.r.os.length y.c]) (by kernel_rfl) hS0 (fun _ => ?_)
                    clear hro hgx hbg
                    generalize wc.drew = u2 at *
                    refine takeD (i := 0) (v := .bool true) (some 149) rfl rfl (by kernel_rfl) (by kernel_rfl) (by kernel_rfl) (fun _ _ _ h => h) (Or.inl ⟨by rfl, ?_⟩) hS0 ?_
                    · rintro w' _
                      go_simp
                    try simp only [Act.put, List.setIfInBounds_toArray, List.set_cons_zero, List.set_cons_succ]
                    refine takeD (i := 1) (v := .bool false) (some 150) rfl rfl (by kernel_rfl) (by kernel_rfl) (by kernel_rfl) (fun _ _ _ h => h) (Or.inl ⟨by rfl, ?_⟩) hS0 ?_
                    · rintro w' _
                      go_simp
                    try simp only [Act.put, List.setIfInBounds_toArray, List.set_cons_zero, List.set_cons_succ]
                    refine takeD (i := 2) (v := .bool false) (some 151) rfl rfl (by kernel_rfl) (by kernel_rfl) (by kernel_rfl) (fun _ _ _ h => h) (Or.inl ⟨by rfl, ?_⟩) hS0 ?_
                    · rintro w' _
                      go_simp
                    try simp only [Act.put, List.setIfInBounds_toArray, List.set_cons_zero, List.set_cons_succ]
                    refine takeD (i := 3) (v := .slice (some ⟨g1, 0, none⟩) N co) (some 152) rfl rfl (by kernel_rfl) (by kernel_rfl) (by kernel_rfl) (fun _ _ _ h => h) (Or.inl ⟨by rfl, ?_⟩) hS0 ?_
                    · rintro w' _
                      go_simp
                    try simp only [Act.put, List.setIfInBounds_toArray, List.set_cons_zero, List.set_cons_succ]
                    refine takeD (i := 4) (v := .int .i64 k) (some 153) rfl rfl (by kernel_rfl) (by kernel_rfl) (by kernel_rfl) (fun _ _ _ h => h) (Or.inl ⟨by rfl, ?_⟩) hS0 ?_
                    · rintro w' _
                      go_simp
                    try simp only [Act.put, List.setIfInBounds_toArray, List.set_cons_zero, List.set_cons_succ]
                    refine takeD (i := 5) (v := .pointer (some ⟨g1, k * 13, none⟩)) (some 154) rfl rfl (by kernel_rfl) (by kernel_rfl) (by kernel_rfl) (fun _ _ _ h => h) (Or.inl ⟨by rfl, ?_⟩) hS0 ?_
                    · rintro w' _
                      go_simp
                    try simp only [Act.put, List.setIfInBounds_toArray, List.set_cons_zero, List.set_cons_succ]
                    refine takeD (i := 6) (v := .agg #[.int .i64 x.r.k, .int .i64 x.r.pr, .int .i64 x.r.to, .int .i64 x.r.po, .int .i64 x.r.x.v, .int .i64 x.r.x.m, .int .u8 x.r.x.b0, .int .u8 x.r.x.b1, .int .u8 x.r.x.b2, .int .u8 x.r.x.i0, .int .u8 x.r.x.i1, .int .u8 x.r.x.i2, .slice x.A x.r.os.length x.c]) (some 155) rfl rfl (by kernel_rfl) (by kernel_rfl) (by kernel_rfl) (fun _ _ _ h => h) (Or.inl ⟨by rfl, ?_⟩) hS0 ?_
                    · rintro w' ⟨s0, _⟩
                      have d0 := Vb.cell s0 (k * 13) (q0.trans rfl)
                      have d1 := Vb.cell s0 (k * 13 + 1) (q1.trans rfl)
                      have d2 := Vb.cell s0 (k * 13 + 2) (q2.trans rfl)
                      have d3 := Vb.cell s0 (k * 13 + 3) (q3.trans rfl)
                      have d4 := Vb.cell s0 (k * 13 + 4) (q4.trans rfl)
                      have d5 := Vb.cell s0 (k * 13 + 5) (q5.trans rfl)
                      have d6 := Vb.cell s0 (k * 13 + 6) (q6.trans rfl)
                      have d7 := Vb.cell s0 (k * 13 + 7) (q7.trans rfl)
                      have d8 := Vb.cell s0 (k * 13 + 8) (q8.trans rfl)
                      have d9 := Vb.cell s0 (k * 13 + 9) (q9.trans rfl)
                      have d10 := Vb.cell s0 (k * 13 + 10) (q10.trans rfl)
                      have d11 := Vb.cell s0 (k * 13 + 11) (q11.trans rfl)
                      have d12 := Vb.cell s0 (k * 13 + 12) (q12.trans rfl)
                      go_simp
                    try simp only [Act.put, List.setIfInBounds_toArray, List.set_cons_zero, List.set_cons_succ]
                    refine takeD (i := 7) (v := .agg #[.int .i64 y.r.k, .int .i64 y.r.pr, .int .i64 y.r.to, .int .i64 y.r.po, .int .i64 y.r.x.v, .int .i64 y.r.x.m, .int .u8 y.r.x.b0, .int .u8 y.r.x.b1, .int .u8 y.r.x.b2, .int .u8 y.r.x.i0, .int .u8 y.r.x.i1, .int .u8 y.r.x.i2, .slice y.A y.r.os.length y.c]) (some 156) rfl rfl (by kernel_rfl) (by kernel_rfl) (by kernel_rfl) (fun _ _ _ h => h) (Or.inl ⟨by rfl, ?_⟩) hS0 ?_
                    · rintro w' ⟨_, s0⟩
                      obtain ⟨d0, d1, d2, d3, d4, d5, d6, d7, d8, d9, d10, d11, d12⟩ := s0.c13
                      go_simp
                    try simp only [Act.put, List.setIfInBounds_toArray, List.set_cons_zero, List.set_cons_succ]
                    refine wpAnyH_ready (rs := [8]) (by kernel_rfl) (by simp) ?_
                    refine AllReadyH.cons rfl (fun K hK => ?_) AllReadyH.nil
                    try rw [if_pos (by rfl)]
                    go_simp
                    go_at_call 28
                    refine (cmpIt_any x y _).mono ?_
                    rintro e u3 ⟨rfl, hb1⟩
                    have hS1 : (fun W => Rowb W g1 R1 ∧ Vb 36 W gx [.int .i64 y.r.k, .int .i64 y.r.pr, .int .i64 y.r.to, .int .i64 y.r.po, .int .i64 y.r.x.v, .int .i64 y.r.x.m, .int .u8 y.r.x.b0, .int .u8 y.r.x.b1, .int .u8 y.r.x.b2, .int .u8 y.r.x.i0, .int .u8 y.r.x.i1, .int .u8 y.r.x.i2, .slice y.A y.r.os.length y.c]) u3 := ⟨Vb.below hS0.1 hb1 (Vb.lt hS0.1), Vb.below hS0.2 hb1 (Vb.lt hS0.2)⟩
                    have hbf := hbd.trans (hb1.mono hbd.size)
                    refine hK.out _ _ hS1 (fun _ => ?_)
                    clear hK K hb1 hbd
                    try simp only [Act.put, List.setIfInBounds_toArray, List.set_cons_zero, List.set_cons_succ]
                    refine takeD (i := 9) (v := .bool false) (some 158) rfl rfl (by kernel_rfl) (by kernel_rfl) (by kernel_rfl) (fun _ _ _ h => h) (Or.inl ⟨by rfl, ?_⟩) hS1 ?_
                    · rintro w' _
                      go_simp
                    try simp only [Act.put, List.setIfInBounds_toArray, List.set_cons_zero, List.set_cons_succ]
                    refine takeD (i := 10) (v := .bool false) (some 159) rfl rfl (by kernel_rfl) (by kernel_rfl) (by kernel_rfl) (fun _ _ _ h => h) (Or.inl ⟨by rfl, ?_⟩) hS1 ?_
                    · rintro w' _
                      go_simp
                    try simp only [Act.put, List.setIfInBounds_toArray, List.set_cons_zero, List.set_cons_succ]
                    refine takeD (i := 11) (v := .bool false) (some 160) rfl rfl (by kernel_rfl) (by kernel_rfl) (by kernel_rfl) (fun _ _ _ h => h) (Or.inl ⟨by rfl, ?_⟩) hS1 ?_
                    · rintro w' _
                      go_simp
                    try simp only [Act.put, List.setIfInBounds_toArray, List.set_cons_zero, List.set_cons_succ]
                    refine takeD (i := 12) (v := .slice (some ⟨g1, 0, none⟩) N co) (some 161) rfl rfl (by kernel_rfl) (by kernel_rfl) (by kernel_rfl) (fun _ _ _ h => h) (Or.inl ⟨by rfl, ?_⟩) hS1 ?_
                    · rintro w' _
                      go_simp
                    try simp only [Act.put, List.setIfInBounds_toArray, List.set_cons_zero, List.set_cons_succ]
                    refine takeD (i := 13) (v := .int .i64 k) (some 162) rfl rfl (by kernel_rfl) (by kernel_rfl) (by kernel_rfl) (fun _ _ _ h => h) (Or.inl ⟨by rfl, ?_⟩) hS1 ?_
                    · rintro w' _
                      go_simp
                    try simp only [Act.put, List.setIfInBounds_toArray, List.set_cons_zero, List.set_cons_succ]
                    refine takeD (i := 14) (v := .pointer (some ⟨g1, k * 13, none⟩)) (some 163) rfl rfl (by kernel_rfl) (by kernel_rfl) (by kernel_rfl) (fun _ _ _ h => h) (Or.inl ⟨by rfl, ?_⟩) hS1 ?_
                    · rintro w' _
                      go_simp
                    try simp only [Act.put, List.setIfInBounds_toArray, List.set_cons_zero, List.set_cons_succ]
                    refine takeD (i := 15) (v := .pointer (some ⟨g1, k * 13 + 1, none⟩)) (some 164) rfl rfl (by kernel_rfl) (by kernel_rfl) (by kernel_rfl) (fun _ _ _ h => h) (Or.inl ⟨by rfl, ?_⟩) hS1 ?_
                    · rintro w' _
                      go_simp
                    try simp only [Act.put, List.setIfInBounds_toArray, List.set_cons_zero, List.set_cons_succ]
                    refine takeD (i := 16) (v := .int .i64 x.r.pr) (some 165) rfl rfl (by kernel_rfl) (by kernel_rfl) (by kernel_rfl) (fun _ _ _ h => h) (Or.inl ⟨by rfl, ?_⟩) hS1 ?_
                    · rintro w' ⟨s0, _⟩
                      have d1 := Vb.cell s0 (k * 13 + 1) (q1.trans rfl)
                      go_simp
                    try simp only [Act.put, List.setIfInBounds_toArray, List.set_cons_zero, List.set_cons_succ]
                    refine takeD (i := 17) (v := .pointer (some ⟨gx, 1, none⟩)) (some 166) rfl rfl (by kernel_rfl) (by kernel_rfl) (by kernel_rfl) (fun _ _ _ h => h) (Or.inl ⟨by rfl, ?_⟩) hS1 ?_
                    · rintro w' _
                      go_simp
                    try simp only [Act.put, List.setIfInBounds_toArray, List.set_cons_zero, List.set_cons_succ]
                    refine takeD (i := 18) (v := .int .i64 y.r.pr) (some 167) rfl rfl (by kernel_rfl) (by kernel_rfl) (by kernel_rfl) (fun _ _ _ h => h) (Or.inl ⟨by rfl, ?_⟩) hS1 ?_
                    · rintro w' ⟨_, s0⟩
                      have d1 := s0.cell 1 rfl
                      go_simp
                    try simp only [Act.put, List.setIfInBounds_toArray, List.set_cons_zero, List.set_cons_succ]
                    refine takeD (i := 19) (v := .bool false) (some 168) rfl rfl (by kernel_rfl) (by kernel_rfl) (by kernel_rfl) (fun _ _ _ h => h) (Or.inl ⟨by rfl, ?_⟩) hS1 ?_
                    · rintro w' _
                      go_simp
                    try simp only [Act.put, List.setIfInBounds_toArray, List.set_cons_zero, List.set_cons_succ]
                    refine takeD (i := 20) (v := .bool false) (some 169) rfl rfl (by kernel_rfl) (by kernel_rfl) (by kernel_rfl) (fun _ _ _ h => h) (Or.inl ⟨by rfl, ?_⟩) hS1 ?_
                    · rintro w' _
                      go_simp
                    try simp only [Act.put, List.setIfInBounds_toArray, List.set_cons_zero, List.set_cons_succ]
                    refine wpAnyH_done (by kernel_rfl) ?_ _
                    clear hS0 hS1 hnc hnp HRO hxz q0 q1 q2 q3 q4 q5 q6 q7 q8 q9 q10 q11 q12
                    go_wp2_with fail
                    go_roundw
                    case rel => exact ⟨k + 1, f', by go_num, rfl, by omega, HF2, hbf⟩
                    case measure => simp [intOf]; omega
                · have HN2 := Kp.mk (HNF.out (fun h => hk1 h.1))
                  go_upto_region 39 with fail
                  have hS0 : (fun W => Rowb W g1 R1 ∧ Vb 31 W w.heap.size [.int .u8 p, .int .u8 q, .int .u8 r]) wr.drew := ⟨hro, hh⟩
                  have hbd := hbw.drew
                  refine wp_region_held_drew (S := fun W => Rowb W g1 R1 ∧ Vb 31 W w.heap.size [.int .u8 p, .int .u8 q, .int .u8 r]) (by kernel_rfl) hS0 (fun _ => ?_)
                  clear hro hh hbw
                  generalize wr.drew = u0 at *
                  refine takeD (i := 0) (v := .slice (some ⟨g1, 0, none⟩) N co) (some 122) rfl rfl (by kernel_rfl) (by kernel_rfl) (by kernel_rfl) (fun _ _ _ h => h) (Or.inl ⟨by rfl, ?_⟩) hS0 ?_
                  · rintro w' _
                    go_simp
                  try simp only [Act.put, List.setIfInBounds_toArray, List.set_cons_zero, List.set_cons_succ]
                  refine takeD (i := 1) (v := .int .i64 k) (some 123) rfl rfl (by kernel_rfl) (by kernel_rfl) (by kernel_rfl) (fun _ _ _ h => h) (Or.inl ⟨by rfl, ?_⟩) hS0 ?_
                  · rintro w' _
                    go_simp
                  try simp only [Act.put, List.setIfInBounds_toArray, List.set_cons_zero, List.set_cons_succ]
                  refine takeD (i := 2) (v := .pointer (some ⟨g1, k * 13, none⟩)) (some 124) rfl rfl (by kernel_rfl) (by kernel_rfl) (by kernel_rfl) (fun _ _ _ h => h) (Or.inl ⟨by rfl, ?_⟩) hS0 ?_
                  · rintro w' _
                    go_simp
                  try simp only [Act.put, List.setIfInBounds_toArray, List.set_cons_zero, List.set_cons_succ]
                  refine takeD (i := 3) (v := .pointer (some ⟨g1, k * 13, none⟩)) (some 125) rfl rfl (by kernel_rfl) (by kernel_rfl) (by kernel_rfl) (fun _ _ _ h => h) (Or.inl ⟨by rfl, ?_⟩) hS0 ?_
                  · rintro w' _
                    go_simp
                  try simp only [Act.put, List.setIfInBounds_toArray, List.set_cons_zero, List.set_cons_succ]
                  refine takeD (i := 4) (v := .int .i64 x.r.k) (some 126) rfl rfl (by kernel_rfl) (by kernel_rfl) (by kernel_rfl) (fun _ _ _ h => h) (Or.inl ⟨by rfl, ?_⟩) hS0 ?_
                  · rintro w' ⟨s0, _⟩
                    have d0 := Vb.cell s0 (k * 13) (q0.trans rfl)
                    go_simp
                  try simp only [Act.put, List.setIfInBounds_toArray, List.set_cons_zero, List.set_cons_succ]
                  refine takeD (i := 5) (v := .bool true) (some 127) rfl rfl (by kernel_rfl) (by kernel_rfl) (by kernel_rfl) (fun _ _ _ h => h) (Or.inl ⟨by rfl, ?_⟩) hS0 ?_
                  · rintro w' _
                    have he : (x.r.k != 1) = true := by simp [hk1]
                    go_simp
                  try simp only [Act.put, List.setIfInBounds_toArray, List.set_cons_zero, List.set_cons_succ]
                  refine takeD (i := 6) (v := .bool true) (some 128) rfl rfl (by kernel_rfl) (by kernel_rfl) (by kernel_rfl) (fun _ _ _ h => h) (Or.inl ⟨by rfl, ?_⟩) hS0 ?_
                  · rintro w' _
                    go_simp
                  try simp only [Act.put, List.setIfInBounds_toArray, List.set_cons_zero, List.set_cons_succ]
                  refine takeD (i := 7) (v := undef) (some 129) rfl rfl (by kernel_rfl) (by kernel_rfl) (by kernel_rfl) (fun _ _ _ h => h) (Or.inr ⟨by rfl, rfl⟩) hS0 ?_
                  try simp only [Act.put, List.setIfInBounds_toArray, List.set_cons_zero, List.set_cons_succ]
                  refine takeD (i := 8) (v := undef) (some 130) rfl rfl (by kernel_rfl) (by kernel_rfl) (by kernel_rfl) (fun _ _ _ h => h) (Or.inr ⟨by rfl, rfl⟩) hS0 ?_
                  try simp only [Act.put, List.setIfInBounds_toArray, List.set_cons_zero, List.set_cons_succ]
                  refine takeD (i := 9) (v := undef) (some 131) rfl rfl (by kernel_rfl) (by kernel_rfl) (by kernel_rfl) (fun _ _ _ h => h) (Or.inr ⟨by rfl, rfl⟩) hS0 ?_
                  try simp only [Act.put, List.setIfInBounds_toArray, List.set_cons_zero, List.set_cons_succ]
                  refine takeD (i := 10) (v := undef) (some 132) rfl rfl (by kernel_rfl) (by kernel_rfl) (by kernel_rfl) (fun _ _ _ h => h) (Or.inr ⟨by rfl, rfl⟩) hS0 ?_
                  try simp only [Act.put, List.setIfInBounds_toArray, List.set_cons_zero, List.set_cons_succ]
                  refine takeD (i := 11) (v := undef) (some 133) rfl rfl (by kernel_rfl) (by kernel_rfl) (by kernel_rfl) (fun _ _ _ h => h) (Or.inr ⟨by rfl, rfl⟩) hS0 ?_
                  try simp only [Act.put, List.setIfInBounds_toArray, List.set_cons_zero, List.set_cons_succ]
                  refine takeD (i := 12) (v := undef) (some 134) rfl rfl (by kernel_rfl) (by kernel_rfl) (by kernel_rfl) (fun _ _ _ h => h) (Or.inr ⟨by rfl, rfl⟩) hS0 ?_
                  try simp only [Act.put, List.setIfInBounds_toArray, List.set_cons_zero, List.set_cons_succ]
                  refine takeD (i := 13) (v := undef) (some 135) rfl rfl (by kernel_rfl) (by kernel_rfl) (by kernel_rfl) (fun _ _ _ h => h) (Or.inr ⟨by rfl, rfl⟩) hS0 ?_
                  try simp only [Act.put, List.setIfInBounds_toArray, List.set_cons_zero, List.set_cons_succ]
                  refine takeD (i := 14) (v := undef) (some 136) rfl rfl (by kernel_rfl) (by kernel_rfl) (by kernel_rfl) (fun _ _ _ h => h) (Or.inr ⟨by rfl, rfl⟩) hS0 ?_
                  try simp only [Act.put, List.setIfInBounds_toArray, List.set_cons_zero, List.set_cons_succ]
                  refine takeD (i := 15) (v := undef) (some 137) rfl rfl (by kernel_rfl) (by kernel_rfl) (by kernel_rfl) (fun _ _ _ h => h) (Or.inr ⟨by rfl, rfl⟩) hS0 ?_
                  try simp only [Act.put, List.setIfInBounds_toArray, List.set_cons_zero, List.set_cons_succ]
                  refine takeD (i := 16) (v := undef) (some 138) rfl rfl (by kernel_rfl) (by kernel_rfl) (by kernel_rfl) (fun _ _ _ h => h) (Or.inr ⟨by rfl, rfl⟩) hS0 ?_
                  try simp only [Act.put, List.setIfInBounds_toArray, List.set_cons_zero, List.set_cons_succ]
                  refine takeD (i := 17) (v := .bool true) (some 139) rfl rfl (by kernel_rfl) (by kernel_rfl) (by kernel_rfl) (fun _ _ _ h => h) (Or.inl ⟨by rfl, ?_⟩) hS0 ?_
                  · rintro w' _
                    go_simp
                  try simp only [Act.put, List.setIfInBounds_toArray, List.set_cons_zero, List.set_cons_succ]
                  refine wpAnyH_done (by kernel_rfl) ?_ _
                  clear hS0 hk1 HNF HRO hxz q0 q1 q2 q3 q4 q5 q6 q7 q8 q9 q10 q11 q12
                  go_wp2_with fail
                  go_roundw
                  case rel => exact ⟨k + 1, f, by go_num, rfl, by omega, HN2, hbd⟩
                  case measure => simp [intOf]; omega
              obtain rfl : k = N := by omega
              have hfb : f = b := by
                have h1 := HFF.out
                cases b with
                | false => cases f with
                  | false => rfl
                  | true => exact absurd (h1.1 rfl) (by simp)
                | true =>
                  have hj : j0 < k := by have h2 := (HJ.out rfl).1; have h3 := (List.getElem?_eq_some_iff.1 h2).1; rw [rls_len] at h3; have := HN.out; omega
                  exact h1.2 rfl hj
              subst hfb
              have hbz := HBX.out.trans (hbw.mono HBX.out.size)
              clear hbw HFF HBX HR6 HH6 HO6 HYO HGX HJ HFI
              cases f with
              | false =>
                go_wp2_with fail
                go_roundw
                case rel => exact ⟨port + 1, by go_num, by omega, hbz⟩
                case measure => simp [intOf]; omega
              | true =>
                go_wp2_with fail
                go_roundw
                case rel => exact ⟨port + 1, by go_num, by omega, hbz⟩
                case measure => simp [intOf]; omega
          obtain rfl : port = 3 := by omega
          go_wp2_with fail
          go_roundw
          case rel => exact ⟨ver + 1, by go_num, by omega, hbw⟩
          case measure => simp [intOf]; omega
      obtain rfl : ver = 3 := by omega
      go_wp2_with fail
      go_loopw [21] (fun s21 wx => ∃ tw : Nat, s21 = .int .i64 tw ∧ tw ≤ 7 ∧ Below wc.heap.size wc wx) (fun s21 _ => 7 - (intOf s21).toNat)
      case atStart => exact ⟨0, rfl, by omega, hbw⟩
      case round =>
        clear hbw
        obtain ⟨tw, rfl, ht7, hbw⟩ := hrel
        by_cases htw : (tw : Int) < 7
        · have ha := HA5.out.below hbw
          go_wp2_with fail
          refine (tv_control ha tw).mono ?_
          rintro e w4 ⟨qa, ba, rfl, hC, hb4⟩
          have HC := Kp.mk hC
          have HS := Kp.mk ha.facts.1
          have hbx := hbw.trans (hb4.mono hbw.size)
          have HBX := Kp.mk hbx
          have hb0 := Below.refl w4.heap.size w4
          have HZ0 := Kp.mk (ctl_nil tw)
          clear ha hC hbw hb4 hbx
          go_wp2_with fail
          go_loopw [24, 25, 26] (fun s24 s25 s26 wx => ∃ (k : Nat) (qq : Int) (bb : Bool), s26 = .int .i64 k ∧ s24 = .int .i64 qq ∧ s25 = .bool bb ∧ k ≤ N ∧ Kp (Ctl ((rls hs).take k) tw qq bb) ∧ Below w4.heap.size w4 wx) (fun _ _ s26 _ => N - (intOf s26).toNat)
          case atStart => exact ⟨0, 0, false, rfl, rfl, rfl, Nat.zero_le _, HZ0, hb0⟩
          case round =>
            clear hb0 HZ0
            obtain ⟨k, qq, bb, rfl, rfl, rfl, hk, HQ, hbw⟩ := hrel
            by_cases hkN : k < N
            · obtain ⟨x, hx⟩ : ∃ x, hs[k]? = some x := ⟨_, List.getElem?_eq_getElem (by have := HN.out; omega)⟩
              have HXR := Kp.mk (rls_at hx)
              have hro := HR5.out
              rcases hro with ⟨_, e0⟩ | ⟨g1, sp1, hv1, hro, _⟩
              · exfalso; rw [e0] at hx; simp at hx
              obtain ⟨rfl, -, -⟩ := Value.slice.inj hv1
              clear hv1
              have hxz : (hs ++ sp1)[k]? = some x := by rw [List.getElem?_append_left (by have := HN.out; omega)]; exact hx
              have hbt := HBX.out.trans (hbw.mono HBX.out.size)
              replace hro := Vb.below hro hbt (Vb.lt hro)
              clear hbt
              generalize hs ++ sp1 = R1 at *
              clear hx
              have k3 : (k : Int) < N := by omega
              have q0 := fl_get R1 k 0 x hxz (by omega)
              have q1 := fl_get R1 k 1 x hxz (by omega)
              have q2 := fl_get R1 k 2 x hxz (by omega)
              have q3 := fl_get R1 k 3 x hxz (by omega)
              have q4 := fl_get R1 k 4 x hxz (by omega)
              have q5 := fl_get R1 k 5 x hxz (by omega)
              have q6 := fl_get R1 k 6 x hxz (by omega)
              have q7 := fl_get R1 k 7 x hxz (by omega)
              have q8 := fl_get R1 k 8 x hxz (by omega)
              have q9 := fl_get R1 k 9 x hxz (by omega)
              have q10 := fl_get R1 k 10 x hxz (by omega)
              have q11 := fl_get R1 k 11 x hxz (by omega)
              have q12 := fl_get R1 k 12 x hxz (by omega)
              rw [Nat.add_zero] at q0
              have d0 := Vb.cell hro (k * 13) (q0.trans rfl)
              have d2 := Vb.cell hro (k * 13 + 2) (q2.trans rfl)
              have d3 := Vb.cell hro (k * 13 + 3) (q3.trans rfl)
              clear q0 q1 q2 q3 q4 q5 q6 q7 q8 q9 q10 q11 q12 hxz hro
              by_cases hk2 : x.r.k = 2
              · by_cases hto : x.r.to = tw
                · have HQ2 := Kp.mk (ctl_yes (tw := tw) HXR.out ⟨hk2, hto⟩)
                  have n0 : (x.r.k == 2) = true := by simp [hk2]
                  have n1 : (x.r.to == (tw : Int)) = true := by simp [hto]
                  clear hk2 hto
                  go_wp2_with fail
                  go_roundw
                  case rel => exact ⟨k + 1, x.r.po, true, by go_num, rfl, rfl, by omega, HQ2, hbw⟩
                  case measure => simp [intOf]; omega
                · have HQ2 := Kp.mk (ctl_no HQ.out HXR.out (fun h => hto h.2))
                  have n0 : (x.r.k == 2) = true := by simp [hk2]
                  have n1 : (x.r.to == (tw : Int)) = false := by simp [hto]
                  clear hk2 hto
                  go_wp2_with fail
                  go_roundw
                  case rel => exact ⟨k + 1, qq, bb, by go_num, rfl, rfl, by omega, HQ2, hbw⟩
                  case measure => simp [intOf]; omega
              · have HQ2 := Kp.mk (ctl_no HQ.out HXR.out (fun h => hk2 h.1))
                have n0 : (x.r.k == 2) = false := by simp [hk2]
                clear hk2
                go_wp2_with fail
                go_roundw
                case rel => exact ⟨k + 1, qq, bb, by go_num, rfl, rfl, by omega, HQ2, hbw⟩
                case measure => simp [intOf]; omega
            obtain rfl : k = N := by omega
            have HE := Kp.mk (ctl_one HS.out HP.out HC.out (by have h := HQ.out; rwa [List.take_of_length_le (by rw [rls_len, ← HN.out]; exact Nat.le_refl _)] at h))
            obtain ⟨e1, e2⟩ := HE.out
            subst e1
            subst e2
            have n1 : (qa != qa) = false := by simp
            have n2 : (ba != ba) = false := by simp
            have hbz := HBX.out.trans (hbw.mono HBX.out.size)
            clear hbw HE HQ HC
            go_wp2_with fail
            go_roundw
            case rel => exact ⟨tw + 1, by go_num, by omega, hbz⟩
            case measure => simp [intOf]; omega
        obtain rfl : tw = 7 := by omega
        go_wp2_with fail
        go_ret
        exact ⟨rfl, HB5.out.trans (hbw.mono HB5.out.size)⟩
theorem TableFirst_walk (ys : List It) (A : Option Addr) (n c : Nat) (bs : List Bool) (A2 : Option Addr) (n2 c2 : Nat) (z2 : List Int) (w : World) (h : Rp w w.heap.size A n c ys) (_ : ∀ y ∈ ys, MB y.r.x) (h2 : Bl w w.heap.size A2 n2 c2 bs) (l2 : z2.length = 3) (g2 : ∀ p ∈ [IntKind.u8, .u8, .u8].zip z2, (Lit.int p.1 p.2).wf = true) :
    Calls Try.prog 4 #[.slice A n c, .slice A2 n2 c2, .agg (List.zipWith Value.int [.u8, .u8, .u8] z2).toArray] w fun e w' => e = .returned (.bool true) ∧ Below w.heap.size w w' := by
  obtain ⟨p, q, r, rfl, _⟩ := header_of z2 l2 g2
  exact tableFirst_any h h2 p q r
end Go.Proofs.Ytlambnlehomkdaa.Oct
