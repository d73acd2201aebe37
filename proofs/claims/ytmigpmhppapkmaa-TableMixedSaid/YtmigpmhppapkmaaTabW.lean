/- The walk of TableMixed. -/
import Derived.Test.YtmigpmhppapkmaaTabV
import Derived.Test.YtmigpmhppapkmaaTabY
namespace Go.Proofs.Ytmigpmhppapkmaa.Oct
open Go.RowKit
set_option linter.unusedVariables false
set_option linter.unusedSimpArgs false

theorem tv_addc {w : World} {t : Nat} {v : Value} {room : Int} {l : List RuleV} {e0 : Int} {x : It} (h : TV w t v room l) (hx : Ob w x) (hxl : x.r.os.length ≤ 1000000000) (hE : addE room x.r l = e0) : Calls Try.prog 27 #[.pointer (some ⟨t, 0, none⟩), .agg (ics x).toArray] w fun e w' => e = .returned (.int .i64 e0) ∧ (∃ v', TV w' t v' room (addL room x.r l) ∧ Nw w v v') ∧ Fr2 t v.ownBlock w w' := by
  rw [← hE]
  exact tv_add h hx hxl
set_option maxRecDepth 100000 in
set_option maxHeartbeats 32000000 in
theorem tableMixed_any {w : World} {A : Option Addr} {n c : Nat} {ys : List It} (h : Rp w w.heap.size A n c ys) (tn rm : Int) : Calls Try.prog 5 #[.slice A n c, .int .i64 tn, .int .i64 rm] w fun e w' => e = .returned (.bool true) ∧ Below w.heap.size w w' := by
  have hyl := h.1
  have hbn := Ser.bringP_bd rm 65 (by omega)
  go_enter Try.func5, Try.ntmps5
  go_wp2_with fail
  refine (tv_new w 64 (by omega) (by omega)).mono ?_
  rintro e w1 ⟨rfl, ha, hb1, hz1⟩
  replace hz1 := Kp.mk hz1
  go_wp2_with fail
  refine (tv_new w1 64 (by omega) (by omega)).mono ?_
  rintro e w2 ⟨rfl, hb, hb2, hz2⟩
  replace hz2 := Kp.mk hz2
  replace ha := ha.below hb2
  go_wp2_with fail
  refine (Ser.bring_any _ _ _ (by omega) (by omega)).mono ?_
  rintro e v ⟨rfl, rfl⟩
  obtain ⟨nn, hnn⟩ : ∃ nn, nn = Ser.bringP rm 65 := ⟨_, rfl⟩
  rw [← hnn] at hbn ⊢
  clear hnn
  go_wp2_with fail
  refine (tv_new w2 nn (by omega) (by omega)).mono ?_
  rintro e w3 ⟨rfl, hc, hb3, hz3⟩
  have hq1 := hz1.out
  have hq2 := hz2.out
  replace ha := ha.below hb3
  replace hb := hb.below hb3
  have hB : Below w.heap.size w w3 := hb1.trans ((hb2.mono (by omega)).trans (hb3.mono (by omega)))
  have hR := h.below hB
  obtain ⟨ta, hta⟩ : ∃ ta, ta = w.heap.size := ⟨_, rfl⟩
  have HTAB := Kp.mk (show w.heap.size ≤ ta ∧ ta < w1.heap.size ∧ w1.heap.size < w2.heap.size by omega)
  rw [← hta] at ha
  have htv : Value.pointer (some ⟨ta, 0, none⟩) = Value.pointer (some ⟨w.heap.size, 0, none⟩) := by rw [hta]
  rw [← htv]
  clear hta htv hb1 hb2 hb3 hz1 hz2 hz3 hq1 hq2 h
  generalize w1.heap.size = tb at *
  generalize w2.heap.size = tc at *
  have HNN := Kp.mk hbn
  have h0 := RowS.nil w3
  go_wp2_with fail
  go_loopw [14, 15, 16, 17, 18] (fun s14 s15 _ _ _ wr => ∃ (i : Nat) (hs : List It), s15 = .int .i64 i ∧ i ≤ n ∧ i ≤ 60 ∧ (TV wr ta (.slice none 0 0) 64 [] ∧ TV wr tb (.slice none 0 0) 64 [] ∧ TV wr tc (.slice none 0 0) nn []) ∧ RowS wr s14 hs ∧ hs.length ≤ i ∧ Kp (Dst (rls hs)) ∧ Kp (∀ y ∈ hs, ∃ q, y.r = madeR q) ∧ Kp (∀ y ∈ hs, Ob wr y) ∧ Kp (∀ k, s14.ownBlock = some k → w.heap.size ≤ k) ∧ Rp wr w.heap.size A n c ys ∧ Below w.heap.size w wr) (fun _ s15 _ _ _ _ => 60 - (intOf s15).toNat)
  case atStart => exact ⟨0, [], rfl, Nat.zero_le _, Nat.zero_le _, ⟨ha, hb, hc⟩, h0, Nat.le_refl _, Kp.mk List.Pairwise.nil, Kp.mk (fun y hy => by simp at hy), Kp.mk (fun y hy => by simp at hy), Kp.mk (fun k hk => by simp [Value.ownBlock] at hk), hR, hB⟩
  case round =>
    clear ha hb hc h0 hR hB hbn
    obtain ⟨i, hs, rfl, hi1, hi2, ⟨ha, hb, hc⟩, hO, hol, HD, HQ, HO, HF, hR, hB⟩ := hrel
    have HI1 := Kp.mk hi1
    have HI2 := Kp.mk hi2
    have HOL := Kp.mk hol
    by_cases hgo : (i : Int) < n ∧ (i : Int) < 60
    · obtain ⟨j1, j2⟩ := hgo
      obtain ⟨b, off, eA, hlt, hcc⟩ := hR.2.2.2.2 (by omega)
      subst eA
      obtain ⟨x, hx⟩ : ∃ x, ys[i]? = some x := ⟨_, List.getElem?_eq_getElem (by omega)⟩
      have hcell := hcc i x hx
      have HM := Kp.mk (fun W => made_any x W)
      clear hcc hx hi1 hi2 hol
      go_wp2_with (refine wpList_load_cells (vs := ics x) (by rfl) (.tmp 61) rfl rfl hcell agg_rule ?_)
      refine (HM.out _).mono ?_
      rintro e w4 ⟨z, hzr, rfl, hzo, _, hb4⟩
      have HZR := Kp.mk hzr
      clear hzr hcell HM
      go_upto_region 12 with (refine wpList_store_new (vs := [.int .i64 z.r.k, .int .i64 z.r.pr, .int .i64 z.r.to, .int .i64 z.r.po, .int .i64 z.r.x.v, .int .i64 z.r.x.m, .int .u8 z.r.x.b0, .int .u8 z.r.x.b1, .int .u8 z.r.x.b2, .int .u8 z.r.x.i0, .int .u8 z.r.x.i1, .int .u8 z.r.x.i2, .slice z.A z.r.os.length z.c]) rfl (.tmp 16) (.tmp 63) rfl rfl rfl rfl rfl rfl agg_rule rfl ?_; intro w5 hgz hb5 hz5)
      have hb45 := hb4.trans (hb5.mono hb4.size)
      have HA5 := Kp.mk (ha.below hb45)
      have HB5 := Kp.mk (hb.below hb45)
      have HC5 := Kp.mk (hc.below hb45)
      have HR5 := Kp.mk (hO.below hb45)
      have HO5 := Kp.mk (fun y (hy : y ∈ hs) => (HO.out y hy).below hb45)
      have HP5 := Kp.mk (hR.below (hb45.mono hB.size))
      have HBB := Kp.mk (hB.trans (hb45.mono hB.size))
      have HZO := Kp.mk (hzo.below hb5)
      have HGZ := Kp.mk hgz
      have HGL := Kp.mk (show w4.heap.size < w5.heap.size from hgz.lt)
      clear ha hb hc hO HO hR hB hb4 hb5 hb45 hz5 hzo hgz
      generalize w4.heap.size = gz at *
      obtain ⟨N, hN⟩ : ∃ N, N = hs.length := ⟨_, rfl⟩
      have HN := Kp.mk hN
      have hN60 : N ≤ 60 := by have := HOL.out; have := HI2.out; omega
      have hform := HR5.out.form
      obtain ⟨Ao, co, hvo, _⟩ := hform
      rw [← hN] at hvo
      clear hN
      subst hvo
      have hbx := Below.refl w5.heap.size w5
      go_wp2_with fail
      go_loopw [17, 18] (fun s17 s18 wx => ∃ k : Nat, s18 = .int .i64 k ∧ k ≤ N ∧ s17 = .bool (noneP z.r (rls hs) k) ∧ Below w5.heap.size w5 wx) (fun _ s18 _ => N - (intOf s18).toNat)
      case atStart => exact ⟨0, rfl, Nat.zero_le _, rfl, hbx⟩
      case round =>
        clear hbx
        obtain ⟨k, rfl, hk, rfl, hbw⟩ := hrel
        by_cases hkN : k < N
        · obtain ⟨y, hy⟩ : ∃ y, hs[k]? = some y := ⟨_, List.getElem?_eq_getElem (by have := HN.out; omega)⟩
          have HST := Kp.mk (noneP_step (r := z.r) (rls_at hy))
          have hro := HR5.out.below hbw
          have hgz := HGZ.out.below hbw HGL.out
          rcases hro with ⟨_, e0⟩ | ⟨g1, sp1, hv, hro, _⟩
          · exfalso; rw [e0] at hy; simp at hy
          obtain ⟨rfl, -, -⟩ := Value.slice.inj hv
          clear hv
          have hyz : (hs ++ sp1)[k]? = some y := by rw [List.getElem?_append_left (by have := HN.out; omega)]; exact hy
          generalize hs ++ sp1 = R1 at *
          clear hy
          have q0 := fl_get R1 k 0 y hyz (by omega)
          have q1 := fl_get R1 k 1 y hyz (by omega)
          have q2 := fl_get R1 k 2 y hyz (by omega)
          have q3 := fl_get R1 k 3 y hyz (by omega)
          have q4 := fl_get R1 k 4 y hyz (by omega)
          have q5 := fl_get R1 k 5 y hyz (by omega)
          have q6 := fl_get R1 k 6 y hyz (by omega)
          have q7 := fl_get R1 k 7 y hyz (by omega)
          have q8 := fl_get R1 k 8 y hyz (by omega)
          have q9 := fl_get R1 k 9 y hyz (by omega)
          have q10 := fl_get R1 k 10 y hyz (by omega)
          have q11 := fl_get R1 k 11 y hyz (by omega)
          have q12 := fl_get R1 k 12 y hyz (by omega)
          rw [Nat.add_zero] at q0
          go_upto_region 16 with fail
          have hS0 : (fun W => Rowb W g1 R1 ∧ Vb 36 W gz [.int .i64 z.r.k, .int .i64 z.r.pr, .int .i64 z.r.to, .int .i64 z.r.po, .int .i64 z.r.x.v, .int .i64 z.r.x.m, .int .u8 z.r.x.b0, .int .u8 z.r.x.b1, .int .u8 z.r.x.b2, .int .u8 z.r.x.i0, .int .u8 z.r.x.i1, .int .u8 z.r.x.i2, .slice z.A z.r.os.length z.c]) wr.drew := ⟨hro, hgz⟩
          have hbd := hbw.drew
          generalize hnp : noneP z.r (rls hs) k = np at *
          refine wp_region_held_drew (S := fun W => Rowb W g1 R1 ∧ Vb 36 W gz [.int .i64 z.r.k, .int .i64 z.r.pr, .int .i64 z.r.to, .int .i64 z.r.po, .int .i64 z.r.x.v, .int .i64 z.r.x.m, .int .u8 z.r.x.b0, .int .u8 z.r.x.b1, .int .u8 z.r.x.b2, .int .u8 z.r.x.i0, .int .u8 z.r.x.i1, .int .u8 z.r.x.i2, .slice z.A z.r.os.length z.c]) (by kernel_rfl) hS0 (fun _ => ?_)
          clear hro hgz hbw
          generalize wr.drew = u0 at *
          cases np with
          | false =>
            refine takeD (i := 0) (v := .bool false) (some 70) rfl rfl (by kernel_rfl) (by kernel_rfl) (by kernel_rfl) (fun _ _ _ h => h) (Or.inl ⟨by rfl, ?_⟩) hS0 ?_
            · rintro w' _
              go_simp
            try simp only [Act.put, List.setIfInBounds_toArray, List.set_cons_zero, List.set_cons_succ]
            refine takeD (i := 1) (v := .bool false) (some 71) rfl rfl (by kernel_rfl) (by kernel_rfl) (by kernel_rfl) (fun _ _ _ h => h) (Or.inl ⟨by rfl, ?_⟩) hS0 ?_
            · rintro w' _
              go_simp
            try simp only [Act.put, List.setIfInBounds_toArray, List.set_cons_zero, List.set_cons_succ]
            refine takeD (i := 2) (v := undef) (some 72) rfl rfl (by kernel_rfl) (by kernel_rfl) (by kernel_rfl) (fun _ _ _ h => h) (Or.inr ⟨by rfl, rfl⟩) hS0 ?_
            try simp only [Act.put, List.setIfInBounds_toArray, List.set_cons_zero, List.set_cons_succ]
            refine takeD (i := 3) (v := undef) (some 73) rfl rfl (by kernel_rfl) (by kernel_rfl) (by kernel_rfl) (fun _ _ _ h => h) (Or.inr ⟨by rfl, rfl⟩) hS0 ?_
            try simp only [Act.put, List.setIfInBounds_toArray, List.set_cons_zero, List.set_cons_succ]
            refine takeD (i := 4) (v := undef) (some 74) rfl rfl (by kernel_rfl) (by kernel_rfl) (by kernel_rfl) (fun _ _ _ h => h) (Or.inr ⟨by rfl, rfl⟩) hS0 ?_
            try simp only [Act.put, List.setIfInBounds_toArray, List.set_cons_zero, List.set_cons_succ]
            refine takeD (i := 5) (v := undef) (some 75) rfl rfl (by kernel_rfl) (by kernel_rfl) (by kernel_rfl) (fun _ _ _ h => h) (Or.inr ⟨by rfl, rfl⟩) hS0 ?_
            try simp only [Act.put, List.setIfInBounds_toArray, List.set_cons_zero, List.set_cons_succ]
            refine takeD (i := 6) (v := undef) (some 76) rfl rfl (by kernel_rfl) (by kernel_rfl) (by kernel_rfl) (fun _ _ _ h => h) (Or.inr ⟨by rfl, rfl⟩) hS0 ?_
            try simp only [Act.put, List.setIfInBounds_toArray, List.set_cons_zero, List.set_cons_succ]
            refine takeD (i := 7) (v := undef) (some 77) rfl rfl (by kernel_rfl) (by kernel_rfl) (by kernel_rfl) (fun _ _ _ h => h) (Or.inr ⟨by rfl, rfl⟩) hS0 ?_
            try simp only [Act.put, List.setIfInBounds_toArray, List.set_cons_zero, List.set_cons_succ]
            refine takeD (i := 8) (v := undef) (some 78) rfl rfl (by kernel_rfl) (by kernel_rfl) (by kernel_rfl) (fun _ _ _ h => h) (Or.inr ⟨by rfl, rfl⟩) hS0 ?_
            try simp only [Act.put, List.setIfInBounds_toArray, List.set_cons_zero, List.set_cons_succ]
            refine takeD (i := 9) (v := .bool false) (some 79) rfl rfl (by kernel_rfl) (by kernel_rfl) (by kernel_rfl) (fun _ _ _ h => h) (Or.inl ⟨by rfl, ?_⟩) hS0 ?_
            · rintro w' _
              go_simp
            try simp only [Act.put, List.setIfInBounds_toArray, List.set_cons_zero, List.set_cons_succ]
            refine takeD (i := 10) (v := .bool false) (some 17) rfl rfl (by kernel_rfl) (by kernel_rfl) (by kernel_rfl) (fun _ _ _ h => h) (Or.inl ⟨by rfl, ?_⟩) hS0 ?_
            · rintro w' _
              go_simp
            try simp only [Act.put, List.setIfInBounds_toArray, List.set_cons_zero, List.set_cons_succ]
            refine wpAnyH_done (by kernel_rfl) ?_ _
            clear hS0 hyz q0 q1 q2 q3 q4 q5 q6 q7 q8 q9 q10 q11 q12
            go_wp2_with fail
            go_roundw
            case rel => exact ⟨k + 1, by go_num, by omega, by rw [HST.out]; rfl, hbd⟩
            case measure => simp [intOf]; omega
          | true =>
            refine takeD (i := 0) (v := .bool true) (some 70) rfl rfl (by kernel_rfl) (by kernel_rfl) (by kernel_rfl) (fun _ _ _ h => h) (Or.inl ⟨by rfl, ?_⟩) hS0 ?_
            · rintro w' _
              go_simp
            try simp only [Act.put, List.setIfInBounds_toArray, List.set_cons_zero, List.set_cons_succ]
            refine takeD (i := 1) (v := .bool true) (some 71) rfl rfl (by kernel_rfl) (by kernel_rfl) (by kernel_rfl) (fun _ _ _ h => h) (Or.inl ⟨by rfl, ?_⟩) hS0 ?_
            · rintro w' _
              go_simp
            try simp only [Act.put, List.setIfInBounds_toArray, List.set_cons_zero, List.set_cons_succ]
            refine takeD (i := 2) (v := .slice (some ⟨g1, 0, none⟩) N co) (some 72) rfl rfl (by kernel_rfl) (by kernel_rfl) (by kernel_rfl) (fun _ _ _ h => h) (Or.inl ⟨by rfl, ?_⟩) hS0 ?_
            · rintro w' _
              go_simp
            try simp only [Act.put, List.setIfInBounds_toArray, List.set_cons_zero, List.set_cons_succ]
            refine takeD (i := 3) (v := .int .i64 k) (some 73) rfl rfl (by kernel_rfl) (by kernel_rfl) (by kernel_rfl) (fun _ _ _ h => h) (Or.inl ⟨by rfl, ?_⟩) hS0 ?_
            · rintro w' _
              go_simp
            try simp only [Act.put, List.setIfInBounds_toArray, List.set_cons_zero, List.set_cons_succ]
            refine takeD (i := 4) (v := .pointer (some ⟨g1, k * 13, none⟩)) (some 74) rfl rfl (by kernel_rfl) (by kernel_rfl) (by kernel_rfl) (fun _ _ _ h => h) (Or.inl ⟨by rfl, ?_⟩) hS0 ?_
            · rintro w' _
              go_simp
            try simp only [Act.put, List.setIfInBounds_toArray, List.set_cons_zero, List.set_cons_succ]
            refine takeD (i := 5) (v := .agg #[.int .i64 y.r.k, .int .i64 y.r.pr, .int .i64 y.r.to, .int .i64 y.r.po, .int .i64 y.r.x.v, .int .i64 y.r.x.m, .int .u8 y.r.x.b0, .int .u8 y.r.x.b1, .int .u8 y.r.x.b2, .int .u8 y.r.x.i0, .int .u8 y.r.x.i1, .int .u8 y.r.x.i2, .slice y.A y.r.os.length y.c]) (some 75) rfl rfl (by kernel_rfl) (by kernel_rfl) (by kernel_rfl) (fun _ _ _ h => h) (Or.inl ⟨by rfl, ?_⟩) hS0 ?_
            · rintro w' ⟨s0, _⟩
              have d0 := Vb.cell s0 (k * 13) (q0.trans rfl)
              have d1 := Vb.cell s0 (k * 13 + 1) (q1.trans rfl)
              have d2 := Vb.cell s0 (k * 13 + 2) (q2.trans rfl)
              have d3 := Vb.cell s0 (k * 13 + 3) (q3.trans rfl)
              have d4 := Vb.cell s0 (k * 13 + 4) (q4.trans rfl)
              have d5 := Vb.cell s0 (k * 13 + 5) (q5.trans rfl)
              have d6 := Vb.cell s0 (k * 13 + 6) (q6.trans rfl)
              have d7 := Vb.cell s0 (k * 13 + 7) (q7.trans rfl)
              have d8 := Vb.cell s0 (k * 13 + 8) (q8.trans rfl)
              have d9 := Vb.cell s0 (k * 13 + 9) (q9.trans rfl)
              have d10 := Vb.cell s0 (k * 13 + 10) (q10.trans rfl)
              have d11 := Vb.cell s0 (k * 13 + 11) (q11.trans rfl)
              have d12 := Vb.cell s0 (k * 13 + 12) (q12.trans rfl)
              go_simp
            try simp only [Act.put, List.setIfInBounds_toArray, List.set_cons_zero, List.set_cons_succ]
            refine takeD (i := 6) (v := .agg #[.int .i64 z.r.k, .int .i64 z.r.pr, .int .i64 z.r.to, .int .i64 z.r.po, .int .i64 z.r.x.v, .int .i64 z.r.x.m, .int .u8 z.r.x.b0, .int .u8 z.r.x.b1, .int .u8 z.r.x.b2, .int .u8 z.r.x.i0, .int .u8 z.r.x.i1, .int .u8 z.r.x.i2, .slice z.A z.r.os.length z.c]) (some 76) rfl rfl (by kernel_rfl) (by kernel_rfl) (by kernel_rfl) (fun _ _ _ h => h) (Or.inl ⟨by rfl, ?_⟩) hS0 ?_
            · rintro w' ⟨_, s0⟩
              obtain ⟨d0, d1, d2, d3, d4, d5, d6, d7, d8, d9, d10, d11, d12⟩ := s0.c13
              go_simp
            try simp only [Act.put, List.setIfInBounds_toArray, List.set_cons_zero, List.set_cons_succ]
            refine wpAnyH_ready (rs := [7]) (by kernel_rfl) (by simp) ?_
            refine AllReadyH.cons rfl (fun K hK => ?_) AllReadyH.nil
            try rw [if_pos (by rfl)]
            go_simp
            go_at_call 25
            refine (cmpIt_any y z _).mono ?_
            rintro e u1 ⟨rfl, hb1⟩
            have hS1 : (fun W => Rowb W g1 R1 ∧ Vb 36 W gz [.int .i64 z.r.k, .int .i64 z.r.pr, .int .i64 z.r.to, .int .i64 z.r.po, .int .i64 z.r.x.v, .int .i64 z.r.x.m, .int .u8 z.r.x.b0, .int .u8 z.r.x.b1, .int .u8 z.r.x.b2, .int .u8 z.r.x.i0, .int .u8 z.r.x.i1, .int .u8 z.r.x.i2, .slice z.A z.r.os.length z.c]) u1 := ⟨Vb.below hS0.1 hb1 (Vb.lt hS0.1), Vb.below hS0.2 hb1 (Vb.lt hS0.2)⟩
            have hbe := hbd.trans (hb1.mono hbd.size)
            refine hK.out _ _ hS1 (fun _ => ?_)
            clear hK K hb1
            try simp only [Act.put, List.setIfInBounds_toArray, List.set_cons_zero, List.set_cons_succ]
            refine takeD (i := 8) (v := .bool (cmpR y.r z.r != 0)) (some 78) rfl rfl (by kernel_rfl) (by kernel_rfl) (by kernel_rfl) (fun _ _ _ h => h) (Or.inl ⟨by rfl, ?_⟩) hS1 ?_
            · rintro w' _
              go_simp
            try simp only [Act.put, List.setIfInBounds_toArray, List.set_cons_zero, List.set_cons_succ]
            refine takeD (i := 9) (v := .bool (cmpR y.r z.r != 0)) (some 79) rfl rfl (by kernel_rfl) (by kernel_rfl) (by kernel_rfl) (fun _ _ _ h => h) (Or.inl ⟨by rfl, ?_⟩) hS1 ?_
            · rintro w' _
              go_simp
            try simp only [Act.put, List.setIfInBounds_toArray, List.set_cons_zero, List.set_cons_succ]
            refine takeD (i := 10) (v := .bool (cmpR y.r z.r != 0)) (some 17) rfl rfl (by kernel_rfl) (by kernel_rfl) (by kernel_rfl) (fun _ _ _ h => h) (Or.inl ⟨by rfl, ?_⟩) hS1 ?_
            · rintro w' _
              go_simp
            try simp only [Act.put, List.setIfInBounds_toArray, List.set_cons_zero, List.set_cons_succ]
            refine wpAnyH_done (by kernel_rfl) ?_ _
            clear hS0 hS1 hyz hbd q0 q1 q2 q3 q4 q5 q6 q7 q8 q9 q10 q11 q12
            have HEQ := Kp.mk (show noneP z.r (rls hs) (k + 1) = (cmpR y.r z.r != 0) by rw [HST.out]; rfl)
            clear hnp
            generalize (cmpR y.r z.r != 0) = cb at *
            go_wp2_with fail
            go_roundw
            case rel => exact ⟨k + 1, by go_num, by omega, by rw [HEQ.out], hbe⟩
            case measure => simp [intOf]; omega
        obtain rfl : k = N := by omega
        have ha := HA5.out.below hbw
        have hb := HB5.out.below hbw
        have hc := HC5.out.below hbw
        have hO := HR5.out.below hbw
        have HO6 := Kp.mk (fun y (hy : y ∈ hs) => (HO5.out y hy).below hbw)
        have hB := HBB.out.trans (hbw.mono HBB.out.size)
        have hR := HP5.out.below (hbw.mono HBB.out.size)
        have hgz := HGZ.out.below hbw HGL.out
        have hzo := HZO.out.below hbw
        clear hbw
        generalize hnp : noneP z.r (rls hs) k = np at *
        cases np with
        | false =>
          clear hnp
          go_wp2_with fail
          go_roundw
          case rel => exact ⟨i + 1, hs, by go_num, by have := HI1.out; omega, by omega, ⟨ha, hb, hc⟩, hO, by have := HOL.out; omega, HD, HQ, HO6, HF, hR, hB⟩
          case measure => simp [intOf]; omega
        | true =>
          have HD7 := Kp.mk (show Dst (rls (hs ++ [z])) by rw [show rls (hs ++ [z]) = rls hs ++ [z.r] by simp [rls]]; exact noneP_full HD.out (by rw [rls_len, ← HN.out]; exact hnp))
          clear hnp
          have hba := below_alloc wr (.cells #[.int .i64 z.r.k, .int .i64 z.r.pr, .int .i64 z.r.to, .int .i64 z.r.po, .int .i64 z.r.x.v, .int .i64 z.r.x.m, .int .u8 z.r.x.b0, .int .u8 z.r.x.b1, .int .u8 z.r.x.b2, .int .u8 z.r.x.i0, .int .u8 z.r.x.i1, .int .u8 z.r.x.i2, .slice z.A z.r.os.length z.c] 36)
          have hr6 := rowb_one wr z
          have hO6 := hO.below hba
          have HO6b := Kp.mk (fun y (hy : y ∈ hs) => (HO6.out y hy).below hba)
          have hza := hzo.below hba
          have ha6 := ha.below hba
          have hb6 := hb.below hba
          have hc6 := hc.below hba
          have hR6 := hR.below (hba.mono hB.size)
          have hB6 := hB.trans (hba.mono hB.size)
          obtain ⟨v7, w7, hrun7, hR7, hg7, hN7⟩ := run_appendR (c := 1) 51 hO6 (⟨rfl, .inr ⟨wr.heap.size, 0, [z], by simp, hr6, by simp, rfl⟩⟩ : SrcR _ (some ⟨wr.heap.size, 0, none⟩) 1 [z]) (by have := HN.out; omega)
          have ha7 := ha6.rowed hO6 hg7 (Apt.nil _)
          have hb7 := hb6.rowed hO6 hg7 (Apt.nil _)
          have hc7 := hc6.rowed hO6 hg7 (Apt.nil _)
          have HO7 := Kp.mk (show ∀ y ∈ hs ++ [z], Ob w7 y from fun y hy => by
            rcases List.mem_append.1 hy with hy | hy
            · exact (HO6b.out y hy).rowed hO6 hg7
            · rw [List.mem_singleton.1 hy]; exact hza.rowed hO6 hg7)
          have HQ7 := Kp.mk (show ∀ y ∈ hs ++ [z], ∃ q, y.r = madeR q from fun y hy => by
            rcases List.mem_append.1 hy with hy | hy
            · exact HQ.out y hy
            · rw [List.mem_singleton.1 hy]; exact ⟨_, HZR.out⟩)
          have HF7 := Kp.mk (show ∀ q, v7.ownBlock = some q → w.heap.size ≤ q from fun q hq => by
            rcases hN7 with e | ⟨k2, e, h2⟩
            · exact HF.out q (e ▸ hq)
            · rw [e] at hq; have := Option.some.inj hq; have := hB6.size; omega)
          have hB7 : Below w.heap.size w w7 := hB6.grown hg7 hB6.size (fun q e => HF.out q e)
          have hR7p := hR6.below ((Below.refl w.heap.size _).grown hg7 hB6.size (fun q e => HF.out q e))
          have hl7 : (hs ++ [z]).length = k + 1 := by simp; have := HN.out; omega
          clear ha hb hc hO HO6 hR hB hba hr6 hO6 HO6b hza ha6 hb6 hc6 hR6 hB6 hg7 hN7 hzo
          go_upto_region 10 with (first | refine wpList_load_vb (vs := [.int .i64 z.r.k, .int .i64 z.r.pr, .int .i64 z.r.to, .int .i64 z.r.po, .int .i64 z.r.x.v, .int .i64 z.r.x.m, .int .u8 z.r.x.b0, .int .u8 z.r.x.b1, .int .u8 z.r.x.b2, .int .u8 z.r.x.i0, .int .u8 z.r.x.i1, .int .u8 z.r.x.i2, .slice z.A z.r.os.length z.c]) rfl (.tmp 16) rfl rfl hgz rfl agg_rule ?_ | (at_builtin; refine Lib.wpList_append_run _ rfl _ _ _ _ rfl _ _ rfl rfl _ _ hrun7 ?_))
          go_wp2_with fail
          go_roundw
          case rel => exact ⟨i + 1, hs ++ [z], by go_num, by have := HI1.out; omega, by omega, ⟨ha7, hb7, hc7⟩, hR7, by have := HOL.out; have := HN.out; omega, HD7, HQ7, HO7, HF7, hR7p, hB7⟩
          case measure => simp [intOf]; omega
    go_upto_region 9 with fail
    go_cut [56] from 49 to 84 (fun v wx => v = .bool false ∧ wx = wr)
    case first =>
      clear ha hb hc hO HO hR hB hi1 hi2 hol HD HQ HF HI1 HI2 HOL
      by_cases j1 : (i : Int) < n
      · have j2 : ¬ (i : Int) < 60 := fun h => hgo ⟨j1, h⟩
        clear hgo
        go_wp2_with fail
        go_meet
        case rel => exact ⟨rfl, rfl⟩
      · clear hgo
        go_wp2_with fail
        go_meet
        case rel => exact ⟨rfl, rfl⟩
    obtain ⟨rfl, rfl⟩ := hcut
    clear hgo hR hi1 HI1 hyl
    have hl60 : hs.length ≤ 60 := by omega
    clear hi2 hol HI2 HOL
    obtain ⟨N, hN⟩ : ∃ N, N = hs.length := ⟨_, rfl⟩
    have HN := Kp.mk hN
    rw [← hN] at hl60
    obtain ⟨Ao, co, hvo, _⟩ := hO.form
    rw [← hN] at hvo
    clear hN
    obtain ⟨s, hs1⟩ : ∃ s : Nat, (0 < N → Ser.bringP tn N = (s : Int) ∧ s < N) := ⟨(Ser.bringP tn N).toNat, fun h => by have := Ser.bringP_bd tn N (by omega); omega⟩
    have HS := Kp.mk hs1
    clear hs1
    obtain ⟨vo, hvo2⟩ : ∃ vo, vo = Value.slice Ao N co := ⟨_, rfl⟩
    subst hvo
    have HVO := Kp.mk hvo2
    rw [← hvo2] at hO HF
    have HFO := HF
    clear HF hvo2
    obtain ⟨M, hM⟩ : ∃ M : Nat, (M : Int) = nn ∧ M ≤ 64 := ⟨nn.toNat, by have := HNN.out; omega⟩
    have HM := Kp.mk hM
    clear hM
    have hI0 : ∃ va vb vc la lb lc, TV wc ta va 64 la ∧ TV wc tb vb 64 lb ∧ TV wc tc vc nn lc ∧ Kp (la.Perm ((rls hs).take 0)) ∧ Kp (lb.Perm ((rotL (rls hs) s).take 0)) ∧ Kp (lc.Perm ((rls hs).take (min 0 M))) ∧ Kp ((Apt va vb ∧ Apt va vc ∧ Apt vb vc) ∧ (Apt vo va ∧ Apt vo vb ∧ Apt vo vc)) ∧ RowS wc vo hs ∧ Kp (∀ y ∈ hs, Ob wc y) ∧ Kp (∀ k, (va.ownBlock = some k ∨ vb.ownBlock = some k ∨ vc.ownBlock = some k) → w.heap.size ≤ k) ∧ Below w.heap.size w wc := by
      refine ⟨_, _, _, _, _, _, ha, hb, hc, Kp.mk ?_, Kp.mk ?_, Kp.mk ?_, Kp.mk ⟨⟨Apt.nil _, Apt.nil _, Apt.nil _⟩, (Apt.nil _).symm, (Apt.nil _).symm, (Apt.nil _).symm⟩, hO, HO, Kp.mk (fun k hk => by simp [Value.ownBlock] at hk), hB⟩
      · simp
      · simp
      · simp
    clear ha hb hc hO HO hB
    rw [show Value.slice Ao N co = vo from HVO.out.symm]
    go_wp2_with fail
    go_loopw [19, 20] (fun s19 _ wr => ∃ i : Nat, s19 = .int .i64 i ∧ i ≤ N ∧ ∃ va vb vc la lb lc, TV wr ta va 64 la ∧ TV wr tb vb 64 lb ∧ TV wr tc vc nn lc ∧ Kp (la.Perm ((rls hs).take i)) ∧ Kp (lb.Perm ((rotL (rls hs) s).take i)) ∧ Kp (lc.Perm ((rls hs).take (min i M))) ∧ Kp ((Apt va vb ∧ Apt va vc ∧ Apt vb vc) ∧ (Apt vo va ∧ Apt vo vb ∧ Apt vo vc)) ∧ RowS wr vo hs ∧ Kp (∀ y ∈ hs, Ob wr y) ∧ Kp (∀ k, (va.ownBlock = some k ∨ vb.ownBlock = some k ∨ vc.ownBlock = some k) → w.heap.size ≤ k) ∧ Below w.heap.size w wr) (fun s19 _ _ => N - (intOf s19).toNat)
    case atStart => exact ⟨0, rfl, Nat.zero_le _, hI0⟩
    case round =>
      clear hI0
      obtain ⟨i, rfl, hi, va, vb, vc, la, lb, lc, ha, hb, hc, PA, PB, PC, AP, hO, HO, HF, hB⟩ := hrel
      by_cases hlt : i < N
      · have HVo := HVO.out
        have hN0 : 0 < N := by omega
        obtain ⟨hsb, hsN⟩ := HS.out hN0
        have HSB := Kp.mk hsb
        clear hsb
        have hbr := Ser.bringP_bd tn N (by omega)
        obtain ⟨x, hx⟩ : ∃ x, hs[i]? = some x := ⟨_, List.getElem?_eq_getElem (by have := HN.out; omega)⟩
        have hj : (i + s) % N < N := Nat.mod_lt _ hN0
        obtain ⟨y, hy⟩ : ∃ y, hs[(i + s) % N]? = some y := ⟨_, List.getElem?_eq_getElem (by have := HN.out; omega)⟩
        have HXr := Kp.mk (rls_at hx)
        have HXI := Kp.mk hx
        have HYr := Kp.mk (show (rotL (rls hs) s)[i]? = some y.r by rw [rotL_at (by rw [rls_len, ← HN.out]; exact hsN) (by rw [rls_len, ← HN.out]; exact hlt), rls_len, ← HN.out]; exact rls_at hy)
        obtain ⟨qx, hqx⟩ := HQ.out x (List.mem_of_getElem? hx)
        obtain ⟨qy, hqy⟩ := HQ.out y (List.mem_of_getElem? hy)
        have HXok := Kp.mk (show okR x.r ∧ x.r.os.length ≤ 1000000000 by rw [hqx]; exact ⟨okR_made _, madeR_len _⟩)
        have HYok := Kp.mk (show okR y.r ∧ y.r.os.length ≤ 1000000000 by rw [hqy]; exact ⟨okR_made _, madeR_len _⟩)
        clear hqx hqy
        have HXm := Kp.mk (List.mem_of_getElem? hx)
        have HYm := Kp.mk (List.mem_of_getElem? hy)
        have EA := Kp.mk (mix_add ha.facts.1 PA.out HD.out HXr.out HXok.out.1 (show (i : Int) < 64 by omega))
        have EB := Kp.mk (mix_add hb.facts.1 PB.out (HD.out.perm (rotL_perm _ s).symm) HYr.out HYok.out.1 (show (i : Int) < 64 by omega))
        have hO1 := hO
        rcases hO1 with ⟨_, e0⟩ | ⟨g1, sp1, hv, hO1, _⟩
        · exfalso; rw [e0] at hx; simp at hx
        obtain ⟨hAo, -, -⟩ := Value.slice.inj (HVo.symm.trans hv)
        clear hv
        subst hAo
        have hxz : (hs ++ sp1)[i]? = some x := by rw [List.getElem?_append_left (by have := HN.out; omega)]; exact hx
        have hyz : (hs ++ sp1)[(i + s) % N]? = some y := by rw [List.getElem?_append_left (by have := HN.out; omega)]; exact hy
        clear hx hy
        rw [HVo]
        go_wp2_with (refine wpList_load_vb (vs := ics x) rfl (.tmp 94) rfl rfl hO1 (fl_off hxz (by omega)) agg_rule ?_)
        refine (tv_addc ha (HO.out x HXm.out) HXok.out.2 EA.out.1).mono ?_
        rintro e w4 ⟨rfl, ⟨va', ha', hna⟩, hfa⟩
        have hF0 := HF.out
        have hA0 := AP.out
        have hb4 := hb.other ha hfa (by have := HTAB.out; omega) hA0.1.1.symm
        have hc4 := hc.other ha hfa (by have := HTAB.out; omega) hA0.1.2.1.symm
        have hO4 := hO.tabled ha hfa hA0.2.1
        have HO4 := Kp.mk (fun q (hq : q ∈ hs) => (HO.out q hq).tabled ha hfa)
        have AP4 := Kp.mk (show (Apt va' vb ∧ Apt va' vc ∧ Apt vb vc) ∧ (Apt vo va' ∧ Apt vo vb ∧ Apt vo vc) from ⟨⟨(hA0.1.1.symm.step hb.row.choose_spec hna).symm, (hA0.1.2.1.symm.step hc.row.choose_spec hna).symm, hA0.1.2.2⟩, hA0.2.1.step hO hna, hA0.2.2⟩)
        have HF4 := Kp.mk (show ∀ k, (va'.ownBlock = some k ∨ vb.ownBlock = some k ∨ vc.ownBlock = some k) → w.heap.size ≤ k from fun k hk => by
          rcases hk with hk | hk
          · rcases hna k hk with e | e2
            · exact hF0 k (.inl e)
            · have := hB.size; omega
          · exact hF0 k (.inr hk))
        have hB4 := hB.trans (hfa.low (by have := HTAB.out; omega) (fun k hk => hF0 k (.inl hk)) hB.size)
        have hO14 : Rowb w4 g1 (hs ++ sp1) := by
          rcases hO4 with ⟨e0, _⟩ | ⟨g2, sp2, hv, hr2, _⟩
          · rw [HVo] at e0; simp at e0
          · exact (hfa.block g1 (Vb.lt hO1) (fun e => vb_ne ha.blk hO1 (by decide) e.symm) (fun e => hA0.2.1 g1 (by rw [HVo]; rfl) e.symm)).trans hO1
        have PA4 := Kp.mk EA.out.2
        clear ha hb hc hO HO AP HF hB hfa hna hO1 hxz EA hF0 hA0
        go_wp2_with fail
        refine (Ser.bring_any _ _ _ (by omega) (by omega)).mono ?_
        rintro e v ⟨rfl, rfl⟩
        rw [HSB.out]
        clear hbr
        have hrem : ((i : Int) + (s : Int)).tmod (N : Int) = (((i + s) % N : Nat) : Int) := by rw [← Int.natCast_add]; exact (Int.ofNat_tmod _ _).symm
        have hNz : ¬ ((N : Int) = 0) := by omega
        have hjz : (0 : Int) ≤ (((i + s) % N : Nat) : Int) := by omega
        generalize hjj : (i + s) % N = jj at *
        go_wp2_with (refine wpList_load_wantR (vs := ics y) (by rfl) (.tmp 110) rfl rfl hO14 (fl_off hyz (by omega)) agg_rule ?_)
        refine (tv_addc hb4 (HO4.out y HYm.out) HYok.out.2 EB.out.1).mono ?_
        rintro e w5 ⟨rfl, ⟨vb', hb', hnb⟩, hfb⟩
        clear hrem hNz hjz hjj hj
        have hF0 := HF4.out
        have hA0 := AP4.out
        have ha5 := ha'.other hb4 hfb (by have := HTAB.out; omega) hA0.1.1
        have hc5 := hc4.other hb4 hfb (by have := HTAB.out; omega) hA0.1.2.2.symm
        have hO5 := hO4.tabled hb4 hfb hA0.2.2.1
        have HO5 := Kp.mk (fun q (hq : q ∈ hs) => (HO4.out q hq).tabled hb4 hfb)
        have AP5 := Kp.mk (show (Apt va' vb' ∧ Apt va' vc ∧ Apt vb' vc) ∧ (Apt vo va' ∧ Apt vo vb' ∧ Apt vo vc) from ⟨⟨hA0.1.1.step ha'.row.choose_spec hnb, hA0.1.2.1, (hA0.1.2.2.symm.step hc4.row.choose_spec hnb).symm⟩, hA0.2.1, hA0.2.2.1.step hO4 hnb, hA0.2.2.2⟩)
        have HF5 := Kp.mk (show ∀ k, (va'.ownBlock = some k ∨ vb'.ownBlock = some k ∨ vc.ownBlock = some k) → w.heap.size ≤ k from fun k hk => by
          rcases hk with hk | hk | hk
          · exact hF0 k (.inl hk)
          · rcases hnb k hk with e | e2
            · exact hF0 k (.inr (.inl e))
            · have := hB4.size; omega
          · exact hF0 k (.inr (.inr hk)))
        have hB5 := hB4.trans (hfb.low (by have := HTAB.out; omega) (fun k hk => hF0 k (.inr (.inl hk))) hB4.size)
        have hO15 : Rowb w5 g1 (hs ++ sp1) := (hfb.block g1 (Vb.lt hO14) (fun e => vb_ne hb4.blk hO14 (by decide) e.symm) (fun e => hA0.2.2.1 g1 (by rw [HVo]; rfl) e.symm)).trans hO14
        have PB5 := Kp.mk EB.out.2
        clear ha' hb4 hc4 hO4 HO4 AP4 HF4 hB4 hfb hnb hO14 hyz EB hF0 hA0
        have hxz2 : (hs ++ sp1)[i]? = some x := by rw [List.getElem?_append_left (by have := HN.out; omega)]; exact HXI.out
        go_upto_region 24 with fail
        by_cases hiM : i < M
        · have hiM' : ((i : Int) < nn) := by have := HM.out; omega
          have EC := Kp.mk (mix_add (room := nn) hc5.facts.1 (by have := PC.out; rw [Nat.min_eq_left (by omega)] at this; exact this) HD.out HXr.out HXok.out.1 hiM')
          go_wp2_with (refine wpList_load_vb (vs := ics x) rfl (.tmp 118) rfl rfl hO15 (fl_off hxz2 (by omega)) agg_rule ?_)
          refine (tv_addc hc5 (HO5.out x HXm.out) HXok.out.2 EC.out.1).mono ?_
          rintro e w6 ⟨rfl, ⟨vc', hc6, hnc⟩, hfc⟩
          have hF0 := HF5.out
          have hA0 := AP5.out
          have ha6 := ha5.other hc5 hfc (by have := HTAB.out; omega) hA0.1.2.1
          have hb6 := hb'.other hc5 hfc (by have := HTAB.out; omega) hA0.1.2.2
          have hO6 := hO5.tabled hc5 hfc hA0.2.2.2
          have HO6 := Kp.mk (fun q (hq : q ∈ hs) => (HO5.out q hq).tabled hc5 hfc)
          have AP6 := Kp.mk (show (Apt va' vb' ∧ Apt va' vc' ∧ Apt vb' vc') ∧ (Apt vo va' ∧ Apt vo vb' ∧ Apt vo vc') from ⟨⟨hA0.1.1, hA0.1.2.1.step ha5.row.choose_spec hnc, hA0.1.2.2.step hb'.row.choose_spec hnc⟩, hA0.2.1, hA0.2.2.1, hA0.2.2.2.step hO5 hnc⟩)
          have HF6 := Kp.mk (show ∀ k, (va'.ownBlock = some k ∨ vb'.ownBlock = some k ∨ vc'.ownBlock = some k) → w.heap.size ≤ k from fun k hk => by
            rcases hk with hk | hk | hk
            · exact hF0 k (.inl hk)
            · exact hF0 k (.inr (.inl hk))
            · rcases hnc k hk with e | e2
              · exact hF0 k (.inr (.inr e))
              · have := hB5.size; omega)
          have hB6 := hB5.trans (hfc.low (by have := HTAB.out; omega) (fun k hk => hF0 k (.inr (.inr hk))) hB5.size)
          have PC6 := Kp.mk (show (addL nn x.r lc).Perm ((rls hs).take (min (i + 1) M)) by rw [Nat.min_eq_left (by omega)]; exact EC.out.2)
          clear ha5 hb' hc5 hO5 HO5 AP5 HF5 hB5 hfc hnc hO15 hxz2 EC hF0 hA0
          rw [HVo] at hO6 AP6
          go_wp2_with fail
          go_roundw
          case rel => exact ⟨i + 1, by go_num, by omega, _, _, _, _, _, _, ha6, hb6, hc6, PA4, PB5, PC6, AP6, hO6, HO6, HF6, hB6⟩
          case measure => simp [intOf]; omega
        · have hiM' : ¬ ((i : Int) < nn) := by have := HM.out; omega
          have EC := Kp.mk (mix_full (room := nn) (m := M) hc5.facts.1 (by have := PC.out; rw [Nat.min_eq_right (by omega)] at this; exact this) HD.out HXr.out HXok.out.1 (by omega) HM.out.1)
          go_wp2_with (refine wpList_load_vb (vs := ics x) rfl (.tmp 118) rfl rfl hO15 (fl_off hxz2 (by omega)) agg_rule ?_)
          refine (tv_addc hc5 (HO5.out x HXm.out) HXok.out.2 EC.out.1).mono ?_
          rintro e w6 ⟨rfl, ⟨vc', hc6, hnc⟩, hfc⟩
          have hF0 := HF5.out
          have hA0 := AP5.out
          have ha6 := ha5.other hc5 hfc (by have := HTAB.out; omega) hA0.1.2.1
          have hb6 := hb'.other hc5 hfc (by have := HTAB.out; omega) hA0.1.2.2
          have hO6 := hO5.tabled hc5 hfc hA0.2.2.2
          have HO6 := Kp.mk (fun q (hq : q ∈ hs) => (HO5.out q hq).tabled hc5 hfc)
          have AP6 := Kp.mk (show (Apt va' vb' ∧ Apt va' vc' ∧ Apt vb' vc') ∧ (Apt vo va' ∧ Apt vo vb' ∧ Apt vo vc') from ⟨⟨hA0.1.1, hA0.1.2.1.step ha5.row.choose_spec hnc, hA0.1.2.2.step hb'.row.choose_spec hnc⟩, hA0.2.1, hA0.2.2.1, hA0.2.2.2.step hO5 hnc⟩)
          have HF6 := Kp.mk (show ∀ k, (va'.ownBlock = some k ∨ vb'.ownBlock = some k ∨ vc'.ownBlock = some k) → w.heap.size ≤ k from fun k hk => by
            rcases hk with hk | hk | hk
            · exact hF0 k (.inl hk)
            · exact hF0 k (.inr (.inl hk))
            · rcases hnc k hk with e | e2
              · exact hF0 k (.inr (.inr e))
              · have := hB5.size; omega)
          have hB6 := hB5.trans (hfc.low (by have := HTAB.out; omega) (fun k hk => hF0 k (.inr (.inr hk))) hB5.size)
          have PC6 := Kp.mk (show (addL nn x.r lc).Perm ((rls hs).take (min (i + 1) M)) by rw [Nat.min_eq_right (by omega), EC.out.2]; have := PC.out; rw [Nat.min_eq_right (by omega)] at this; exact this)
          clear ha5 hb' hc5 hO5 HO5 AP5 HF5 hB5 hfc hnc hO15 hxz2 EC hF0 hA0
          rw [HVo] at hO6 AP6
          go_wp2_with fail
          go_roundw
          case rel => exact ⟨i + 1, by go_num, by omega, _, _, _, _, _, _, ha6, hb6, hc6, PA4, PB5, PC6, AP6, hO6, HO6, HF6, hB6⟩
          case measure => simp [intOf]; omega
      obtain rfl : i = N := by omega
      have hOt : (rls hs).take i = rls hs := List.take_of_length_le (by rw [rls_len, ← HN.out]; omega)
      have hRt : (rotL (rls hs) s).take i = rotL (rls hs) s := List.take_of_length_le (by rw [rotL_len, rls_len, ← HN.out]; omega)
      have PA1 := PA.out
      have PB1 := PB.out
      have PC1 := PC.out
      rw [hOt] at PA1
      rw [hRt] at PB1
      have hab : lb = la := srt_same hb.facts.1 ha.facts.1 ((PB1.trans (rotL_perm _ s)).trans PA1.symm)
      subst hab
      have hll : lb.length = i := by rw [PA1.length_eq, rls_len, ← HN.out]
      have HSR := Kp.mk ha.facts.1
      have hlc : lc.length = min i M := by have := PC1.length_eq; rw [List.length_take, rls_len, ← HN.out] at this; omega
      have HLC := Kp.mk hlc
      have HLL := Kp.mk hll
      clear hOt hRt PA1 PB1 PC1 PA PB PC hlc hll AP hO HO HF HD HQ
      have HVo := HVO.out
      rw [HVo]
      clear HVo
      go_wp2_with fail
      refine (tv_rules ha).mono ?_
      rintro e w7 ⟨vx, ix, rfl, hrx, hlx, hox, hb7⟩
      replace hb := hb.below hb7
      replace hc := hc.below hb7
      replace hB := hB.trans (hb7.mono hB.size)
      have HLX := Kp.mk hlx
      have HOX := Kp.mk hox
      clear ha hb7 hlx hox
      go_wp2_with fail
      refine (tv_rules hb).mono ?_
      rintro e w8 ⟨vy, iy, rfl, hry, hly, hoy, hb8⟩
      replace hrx := hrx.below hb8
      replace hc := hc.below hb8
      replace hB := hB.trans (hb8.mono hB.size)
      have HLY := Kp.mk hly
      have HOX8 := Kp.mk (fun q (hq : q ∈ ix) => (HOX.out q hq).below hb8)
      have HOY8 := Kp.mk hoy
      clear hb hb8 hly hoy HOX
      obtain ⟨Ax, cx, hvx, _⟩ := hrx.form
      obtain ⟨Ay, cy, hvy, _⟩ := hry.form
      have hix : ix.length = i := by have := HLL.out; rw [← HLX.out, rls_len] at this; exact this
      have hiy : iy.length = i := by have := HLL.out; rw [← HLY.out, rls_len] at this; exact this
      rw [hix] at hvx
      rw [hiy] at hvy
      have HIX := Kp.mk hix
      have HIY := Kp.mk hiy
      clear hix hiy
      subst hvx hvy
      have HRX := Kp.mk hrx
      have HRY := Kp.mk hry
      clear hrx hry
      have hmin : (nn ≤ (i : Int) ∧ ((lc.length : Nat) : Int) = nn) ∨ (¬ nn ≤ (i : Int) ∧ ((lc.length : Nat) : Int) = i) := by have := HLC.out; have := HM.out; omega
      generalize hql : lc.length = ql at *
      clear HLC
      replace hql := Kp.mk hql
      have HC := Kp.mk hc
      go_upto_region 28 with fail
      go_cut [165] from 139 (fun v wx => v = .bool false ∧ wx = w8)
      case first =>
        rcases hmin with ⟨h1, h2⟩ | ⟨h1, h2⟩
        · have hne : ((ql : Int) != nn) = false := by simpa using h2
          have h3 : ¬ ((i : Int) < nn) := by omega
          clear h2 hB
          go_wp2_with fail
          refine (tv_len HC.out).mono ?_
          rintro e w9 ⟨rfl, rfl⟩
          rw [hql.out]
          go_wp2_with fail
          refine (tv_room HC.out).mono ?_
          rintro e w10 ⟨rfl, rfl⟩
          go_wp2_with fail
          go_meet
          case rel => exact ⟨rfl, rfl⟩
        · have hne : ((ql : Int) != (i : Int)) = false := by simpa using h2
          have h3 : (i : Int) < nn := by omega
          clear h2 hB
          go_wp2_with fail
          refine (tv_len HC.out).mono ?_
          rintro e w9 ⟨rfl, rfl⟩
          rw [hql.out]
          go_wp2_with fail
          refine (tv_room HC.out).mono ?_
          rintro e w10 ⟨rfl, rfl⟩
          go_wp2_with fail
          go_meet
          case rel => exact ⟨rfl, rfl⟩
      obtain ⟨rfl, hw8⟩ := hcut
      subst hw8
      have HB := Kp.mk hB
      have hb0 := Below.refl wc.heap.size wc
      clear hc HC hB hmin hql
      go_wp2_with fail
      go_loopw [23] (fun s23 wx => ∃ p : Nat, s23 = .int .i64 p ∧ p ≤ i ∧ Below wc.heap.size wc wx) (fun s23 _ => i - (intOf s23).toNat)
      case atStart => exact ⟨0, rfl, Nat.zero_le _, hb0⟩
      case round =>
        clear hb0
        obtain ⟨p, rfl, hp, hbw⟩ := hrel
        by_cases hlt : p < i
        · obtain ⟨x, hx⟩ : ∃ x, ix[p]? = some x := ⟨_, List.getElem?_eq_getElem (by have := HIX.out; omega)⟩
          obtain ⟨y, hy⟩ : ∃ y, iy[p]? = some y := ⟨_, List.getElem?_eq_getElem (by have := HIY.out; omega)⟩
          have hxy : x.r = y.r := by have h1 := rls_at hx; have h2 := rls_at hy; rw [HLX.out] at h1; rw [HLY.out, h1] at h2; exact Option.some.inj h2
          have HXY := Kp.mk hxy
          clear hxy
          have hox := (HOX8.out x (List.mem_of_getElem? hx)).below hbw
          have hoy := (HOY8.out y (List.mem_of_getElem? hy)).below hbw
          have hr2 := HRX.out.below hbw
          have hr3 := HRY.out.below hbw
          rcases hr2 with ⟨_, e0⟩ | ⟨g2, sp2, hv, hr2, _⟩
          · exfalso; rw [e0] at hx; simp at hx
          obtain ⟨rfl, -, -⟩ := Value.slice.inj hv
          clear hv
          rcases hr3 with ⟨_, e0⟩ | ⟨g3, sp3, hv, hr3, _⟩
          · exfalso; rw [e0] at hy; simp at hy
          obtain ⟨rfl, -, -⟩ := Value.slice.inj hv
          clear hv
          have hxz : (ix ++ sp2)[p]? = some x := by rw [List.getElem?_append_left (by have := HIX.out; omega)]; exact hx
          have hyz : (iy ++ sp3)[p]? = some y := by rw [List.getElem?_append_left (by have := HIY.out; omega)]; exact hy
          have HPV := Kp.mk (fun (q : Nat) (hq : q + 1 = p) => (show ∃ z, (ix ++ sp2)[q]? = some z ∧ cmpR z.r x.r < 0 from ⟨ix[q]'(by have := HIX.out; omega), by rw [List.getElem?_append_left (by have := HIX.out; omega)]; exact List.getElem?_eq_getElem _, srt_lt HSR.out (by have := rls_at (List.getElem?_eq_getElem (l := ix) (i := q) (by have := HIX.out; omega)); rw [HLX.out] at this; exact this) (by have := rls_at hx; rw [HLX.out] at this; exact this) (by omega)⟩))
          generalize ix ++ sp2 = R2 at *
          generalize iy ++ sp3 = R3 at *
          clear hx hy
          have q0 := fl_get R2 p 0 x hxz (by omega)
          have q1 := fl_get R2 p 1 x hxz (by omega)
          have q2 := fl_get R2 p 2 x hxz (by omega)
          have q3 := fl_get R2 p 3 x hxz (by omega)
          have q4 := fl_get R2 p 4 x hxz (by omega)
          have q5 := fl_get R2 p 5 x hxz (by omega)
          have q6 := fl_get R2 p 6 x hxz (by omega)
          have q7 := fl_get R2 p 7 x hxz (by omega)
          have q8 := fl_get R2 p 8 x hxz (by omega)
          have q9 := fl_get R2 p 9 x hxz (by omega)
          have q10 := fl_get R2 p 10 x hxz (by omega)
          have q11 := fl_get R2 p 11 x hxz (by omega)
          have q12 := fl_get R2 p 12 x hxz (by omega)
          rw [Nat.add_zero] at q0
          have t0 := fl_get R3 p 0 y hyz (by omega)
          have t1 := fl_get R3 p 1 y hyz (by omega)
          have t2 := fl_get R3 p 2 y hyz (by omega)
          have t3 := fl_get R3 p 3 y hyz (by omega)
          have t4 := fl_get R3 p 4 y hyz (by omega)
          have t5 := fl_get R3 p 5 y hyz (by omega)
          have t6 := fl_get R3 p 6 y hyz (by omega)
          have t7 := fl_get R3 p 7 y hyz (by omega)
          have t8 := fl_get R3 p 8 y hyz (by omega)
          have t9 := fl_get R3 p 9 y hyz (by omega)
          have t10 := fl_get R3 p 10 y hyz (by omega)
          have t11 := fl_get R3 p 11 y hyz (by omega)
          have t12 := fl_get R3 p 12 y hyz (by omega)
          rw [Nat.add_zero] at t0
          go_upto_region 33 with fail
          have hS0 : (fun W => Rowb W g2 R2 ∧ Rowb W g3 R3) wr.drew := ⟨hr2, hr3⟩
          have hbd0 := (Below.refl wr.heap.size wr).drew
          have hoxd := hox.below hbd0
          have hoyd := hoy.below hbd0
          have hbd := hbw.drew
          refine wp_region_held_drew (S := fun W => Rowb W g2 R2 ∧ Rowb W g3 R3) (by kernel_rfl) hS0 (fun _ => ?_)
          clear hr2 hr3 hox hoy hbw hbd0
          generalize wr.drew = u0 at *
          refine takeD (i := 0) (v := .slice (some ⟨g2, 0, none⟩) i cx) (some 172) rfl rfl (by kernel_rfl) (by kernel_rfl) (by kernel_rfl) (fun _ _ _ h => h) (Or.inl ⟨by rfl, ?_⟩) hS0 ?_
          · rintro w' _
            go_simp
          try simp only [Act.put, List.setIfInBounds_toArray, List.set_cons_zero, List.set_cons_succ]
          refine takeD (i := 1) (v := .int .i64 p) (some 173) rfl rfl (by kernel_rfl) (by kernel_rfl) (by kernel_rfl) (fun _ _ _ h => h) (Or.inl ⟨by rfl, ?_⟩) hS0 ?_
          · rintro w' _
            go_simp
          try simp only [Act.put, List.setIfInBounds_toArray, List.set_cons_zero, List.set_cons_succ]
          refine takeD (i := 2) (v := .pointer (some ⟨g2, p * 13, none⟩)) (some 174) rfl rfl (by kernel_rfl) (by kernel_rfl) (by kernel_rfl) (fun _ _ _ h => h) (Or.inl ⟨by rfl, ?_⟩) hS0 ?_
          · rintro w' _
            go_simp
          try simp only [Act.put, List.setIfInBounds_toArray, List.set_cons_zero, List.set_cons_succ]
          refine takeD (i := 3) (v := .agg #[.int .i64 x.r.k, .int .i64 x.r.pr, .int .i64 x.r.to, .int .i64 x.r.po, .int .i64 x.r.x.v, .int .i64 x.r.x.m, .int .u8 x.r.x.b0, .int .u8 x.r.x.b1, .int .u8 x.r.x.b2, .int .u8 x.r.x.i0, .int .u8 x.r.x.i1, .int .u8 x.r.x.i2, .slice x.A x.r.os.length x.c]) (some 175) rfl rfl (by kernel_rfl) (by kernel_rfl) (by kernel_rfl) (fun _ _ _ h => h) (Or.inl ⟨by rfl, ?_⟩) hS0 ?_
          · rintro w' ⟨s0, _⟩
            have d0 := Vb.cell s0 (p * 13) (q0.trans rfl)
            have d1 := Vb.cell s0 (p * 13 + 1) (q1.trans rfl)
            have d2 := Vb.cell s0 (p * 13 + 2) (q2.trans rfl)
            have d3 := Vb.cell s0 (p * 13 + 3) (q3.trans rfl)
            have d4 := Vb.cell s0 (p * 13 + 4) (q4.trans rfl)
            have d5 := Vb.cell s0 (p * 13 + 5) (q5.trans rfl)
            have d6 := Vb.cell s0 (p * 13 + 6) (q6.trans rfl)
            have d7 := Vb.cell s0 (p * 13 + 7) (q7.trans rfl)
            have d8 := Vb.cell s0 (p * 13 + 8) (q8.trans rfl)
            have d9 := Vb.cell s0 (p * 13 + 9) (q9.trans rfl)
            have d10 := Vb.cell s0 (p * 13 + 10) (q10.trans rfl)
            have d11 := Vb.cell s0 (p * 13 + 11) (q11.trans rfl)
            have d12 := Vb.cell s0 (p * 13 + 12) (q12.trans rfl)
            go_simp
          try simp only [Act.put, List.setIfInBounds_toArray, List.set_cons_zero, List.set_cons_succ]
          refine takeD (i := 4) (v := .slice (some ⟨g3, 0, none⟩) i cy) (some 176) rfl rfl (by kernel_rfl) (by kernel_rfl) (by kernel_rfl) (fun _ _ _ h => h) (Or.inl ⟨by rfl, ?_⟩) hS0 ?_
          · rintro w' _
            go_simp
          try simp only [Act.put, List.setIfInBounds_toArray, List.set_cons_zero, List.set_cons_succ]
          refine takeD (i := 5) (v := .int .i64 p) (some 177) rfl rfl (by kernel_rfl) (by kernel_rfl) (by kernel_rfl) (fun _ _ _ h => h) (Or.inl ⟨by rfl, ?_⟩) hS0 ?_
          · rintro w' _
            go_simp
          try simp only [Act.put, List.setIfInBounds_toArray, List.set_cons_zero, List.set_cons_succ]
          refine takeD (i := 6) (v := .pointer (some ⟨g3, p * 13, none⟩)) (some 178) rfl rfl (by kernel_rfl) (by kernel_rfl) (by kernel_rfl) (fun _ _ _ h => h) (Or.inl ⟨by rfl, ?_⟩) hS0 ?_
          · rintro w' _
            go_simp
          try simp only [Act.put, List.setIfInBounds_toArray, List.set_cons_zero, List.set_cons_succ]
          refine takeD (i := 7) (v := .agg #[.int .i64 y.r.k, .int .i64 y.r.pr, .int .i64 y.r.to, .int .i64 y.r.po, .int .i64 y.r.x.v, .int .i64 y.r.x.m, .int .u8 y.r.x.b0, .int .u8 y.r.x.b1, .int .u8 y.r.x.b2, .int .u8 y.r.x.i0, .int .u8 y.r.x.i1, .int .u8 y.r.x.i2, .slice y.A y.r.os.length y.c]) (some 179) rfl rfl (by kernel_rfl) (by kernel_rfl) (by kernel_rfl) (fun _ _ _ h => h) (Or.inl ⟨by rfl, ?_⟩) hS0 ?_
          · rintro w' ⟨_, s0⟩
            have d0 := Vb.cell s0 (p * 13) (t0.trans rfl)
            have d1 := Vb.cell s0 (p * 13 + 1) (t1.trans rfl)
            have d2 := Vb.cell s0 (p * 13 + 2) (t2.trans rfl)
            have d3 := Vb.cell s0 (p * 13 + 3) (t3.trans rfl)
            have d4 := Vb.cell s0 (p * 13 + 4) (t4.trans rfl)
            have d5 := Vb.cell s0 (p * 13 + 5) (t5.trans rfl)
            have d6 := Vb.cell s0 (p * 13 + 6) (t6.trans rfl)
            have d7 := Vb.cell s0 (p * 13 + 7) (t7.trans rfl)
            have d8 := Vb.cell s0 (p * 13 + 8) (t8.trans rfl)
            have d9 := Vb.cell s0 (p * 13 + 9) (t9.trans rfl)
            have d10 := Vb.cell s0 (p * 13 + 10) (t10.trans rfl)
            have d11 := Vb.cell s0 (p * 13 + 11) (t11.trans rfl)
            have d12 := Vb.cell s0 (p * 13 + 12) (t12.trans rfl)
            go_simp
          try simp only [Act.put, List.setIfInBounds_toArray, List.set_cons_zero, List.set_cons_succ]
          refine wpAnyH_ready (rs := [8]) (by kernel_rfl) (by simp) ?_
          refine AllReadyH.cons rfl (fun K hK => ?_) AllReadyH.nil
          try rw [if_pos (by rfl)]
          go_simp
          go_at_call 29
          refine (sameIt_any x y HXY.out hoxd hoyd).mono ?_
          rintro e u1 ⟨rfl, hb1⟩
          have hS1 : (fun W => Rowb W g2 R2 ∧ Rowb W g3 R3) u1 := ⟨Vb.below hS0.1 hb1 (Vb.lt hS0.1), Vb.below hS0.2 hb1 (Vb.lt hS0.2)⟩
          have hbe := hbd.trans (hb1.mono hbd.size)
          refine hK.out _ _ hS1 (fun _ => ?_)
          clear hK K hb1 hbd
          try simp only [Act.put, List.setIfInBounds_toArray, List.set_cons_zero, List.set_cons_succ]
          refine takeD (i := 9) (v := .bool false) (some 181) rfl rfl (by kernel_rfl) (by kernel_rfl) (by kernel_rfl) (fun _ _ _ h => h) (Or.inl ⟨by rfl, ?_⟩) hS1 ?_
          · rintro w' _
            go_simp
          try simp only [Act.put, List.setIfInBounds_toArray, List.set_cons_zero, List.set_cons_succ]
          refine takeD (i := 10) (v := .bool false) (some 182) rfl rfl (by kernel_rfl) (by kernel_rfl) (by kernel_rfl) (fun _ _ _ h => h) (Or.inl ⟨by rfl, ?_⟩) hS1 ?_
          · rintro w' _
            go_simp
          try simp only [Act.put, List.setIfInBounds_toArray, List.set_cons_zero, List.set_cons_succ]
          refine takeD (i := 11) (v := .int .i64 p) (some 183) rfl rfl (by kernel_rfl) (by kernel_rfl) (by kernel_rfl) (fun _ _ _ h => h) (Or.inl ⟨by rfl, ?_⟩) hS1 ?_
          · rintro w' _
            go_simp
          try simp only [Act.put, List.setIfInBounds_toArray, List.set_cons_zero, List.set_cons_succ]
          rcases Nat.eq_zero_or_pos p with hp0 | hp0
          · subst hp0
            refine takeD (i := 12) (v := .bool false) (some 184) rfl rfl (by kernel_rfl) (by kernel_rfl) (by kernel_rfl) (fun _ _ _ h => h) (Or.inl ⟨by rfl, ?_⟩) hS1 ?_
            · rintro w' _
              go_simp
            try simp only [Act.put, List.setIfInBounds_toArray, List.set_cons_zero, List.set_cons_succ]
            refine takeD (i := 13) (v := .bool false) (some 185) rfl rfl (by kernel_rfl) (by kernel_rfl) (by kernel_rfl) (fun _ _ _ h => h) (Or.inl ⟨by rfl, ?_⟩) hS1 ?_
            · rintro w' _
              go_simp
            try simp only [Act.put, List.setIfInBounds_toArray, List.set_cons_zero, List.set_cons_succ]
            refine takeD (i := 14) (v := undef) (some 186) rfl rfl (by kernel_rfl) (by kernel_rfl) (by kernel_rfl) (fun _ _ _ h => h) (Or.inr ⟨by rfl, rfl⟩) hS1 ?_
            try simp only [Act.put, List.setIfInBounds_toArray, List.set_cons_zero, List.set_cons_succ]
            refine takeD (i := 15) (v := undef) (some 187) rfl rfl (by kernel_rfl) (by kernel_rfl) (by kernel_rfl) (fun _ _ _ h => h) (Or.inr ⟨by rfl, rfl⟩) hS1 ?_
            try simp only [Act.put, List.setIfInBounds_toArray, List.set_cons_zero, List.set_cons_succ]
            refine takeD (i := 16) (v := undef) (some 188) rfl rfl (by kernel_rfl) (by kernel_rfl) (by kernel_rfl) (fun _ _ _ h => h) (Or.inr ⟨by rfl, rfl⟩) hS1 ?_
            try simp only [Act.put, List.setIfInBounds_toArray, List.set_cons_zero, List.set_cons_succ]
            refine takeD (i := 17) (v := undef) (some 189) rfl rfl (by kernel_rfl) (by kernel_rfl) (by kernel_rfl) (fun _ _ _ h => h) (Or.inr ⟨by rfl, rfl⟩) hS1 ?_
            try simp only [Act.put, List.setIfInBounds_toArray, List.set_cons_zero, List.set_cons_succ]
            refine takeD (i := 18) (v := undef) (some 190) rfl rfl (by kernel_rfl) (by kernel_rfl) (by kernel_rfl) (fun _ _ _ h => h) (Or.inr ⟨by rfl, rfl⟩) hS1 ?_
            try simp only [Act.put, List.setIfInBounds_toArray, List.set_cons_zero, List.set_cons_succ]
            refine takeD (i := 19) (v := undef) (some 191) rfl rfl (by kernel_rfl) (by kernel_rfl) (by kernel_rfl) (fun _ _ _ h => h) (Or.inr ⟨by rfl, rfl⟩) hS1 ?_
            try simp only [Act.put, List.setIfInBounds_toArray, List.set_cons_zero, List.set_cons_succ]
            refine takeD (i := 20) (v := undef) (some 192) rfl rfl (by kernel_rfl) (by kernel_rfl) (by kernel_rfl) (fun _ _ _ h => h) (Or.inr ⟨by rfl, rfl⟩) hS1 ?_
            try simp only [Act.put, List.setIfInBounds_toArray, List.set_cons_zero, List.set_cons_succ]
            refine takeD (i := 21) (v := undef) (some 193) rfl rfl (by kernel_rfl) (by kernel_rfl) (by kernel_rfl) (fun _ _ _ h => h) (Or.inr ⟨by rfl, rfl⟩) hS1 ?_
            try simp only [Act.put, List.setIfInBounds_toArray, List.set_cons_zero, List.set_cons_succ]
            refine takeD (i := 22) (v := undef) (some 194) rfl rfl (by kernel_rfl) (by kernel_rfl) (by kernel_rfl) (fun _ _ _ h => h) (Or.inr ⟨by rfl, rfl⟩) hS1 ?_
            try simp only [Act.put, List.setIfInBounds_toArray, List.set_cons_zero, List.set_cons_succ]
            refine takeD (i := 23) (v := undef) (some 195) rfl rfl (by kernel_rfl) (by kernel_rfl) (by kernel_rfl) (fun _ _ _ h => h) (Or.inr ⟨by rfl, rfl⟩) hS1 ?_
            try simp only [Act.put, List.setIfInBounds_toArray, List.set_cons_zero, List.set_cons_succ]
            refine takeD (i := 24) (v := undef) (some 196) rfl rfl (by kernel_rfl) (by kernel_rfl) (by kernel_rfl) (fun _ _ _ h => h) (Or.inr ⟨by rfl, rfl⟩) hS1 ?_
            try simp only [Act.put, List.setIfInBounds_toArray, List.set_cons_zero, List.set_cons_succ]
            refine takeD (i := 25) (v := .bool false) (some 197) rfl rfl (by kernel_rfl) (by kernel_rfl) (by kernel_rfl) (fun _ _ _ h => h) (Or.inl ⟨by rfl, ?_⟩) hS1 ?_
            · rintro w' _
              go_simp
            try simp only [Act.put, List.setIfInBounds_toArray, List.set_cons_zero, List.set_cons_succ]
            refine takeD (i := 26) (v := .bool false) (some 198) rfl rfl (by kernel_rfl) (by kernel_rfl) (by kernel_rfl) (fun _ _ _ h => h) (Or.inl ⟨by rfl, ?_⟩) hS1 ?_
            · rintro w' _
              go_simp
            try simp only [Act.put, List.setIfInBounds_toArray, List.set_cons_zero, List.set_cons_succ]
            refine wpAnyH_done (by kernel_rfl) ?_ _
            clear hS0 hS1 hxz hyz hoxd hoyd q0 q1 q2 q3 q4 q5 q6 q7 q8 q9 q10 q11 q12 t0 t1 t2 t3 t4 t5 t6 t7 t8 t9 t10 t11 t12
            go_wp2_with fail
            go_roundw
            case rel => exact ⟨1, by go_num, by omega, hbe⟩
            case measure => simp [intOf]; omega
          · obtain ⟨q, rfl⟩ : ∃ q, p = q + 1 := ⟨p - 1, by omega⟩
            obtain ⟨z, hz, hzx⟩ := HPV.out q rfl
            have hqi : q < i := by omega
            have hqj1 : (0 : Int) ≤ (q : Int) + 1 := by omega
            have hqj2 : (q : Int) + 1 < (i : Int) := by omega
            have hqj3 : ¬ ((i : Int) ≤ (q : Int) + 1) := by omega
            have hwq : IntKind.i64.wrap (q : Int) = (q : Int) := by rw [IntKind.wrap_i64]; omega
            have r0 := fl_get R2 q 0 z hz (by omega)
            have r1 := fl_get R2 q 1 z hz (by omega)
            have r2 := fl_get R2 q 2 z hz (by omega)
            have r3 := fl_get R2 q 3 z hz (by omega)
            have r4 := fl_get R2 q 4 z hz (by omega)
            have r5 := fl_get R2 q 5 z hz (by omega)
            have r6 := fl_get R2 q 6 z hz (by omega)
            have r7 := fl_get R2 q 7 z hz (by omega)
            have r8 := fl_get R2 q 8 z hz (by omega)
            have r9 := fl_get R2 q 9 z hz (by omega)
            have r10 := fl_get R2 q 10 z hz (by omega)
            have r11 := fl_get R2 q 11 z hz (by omega)
            have r12 := fl_get R2 q 12 z hz (by omega)
            rw [Nat.add_zero] at r0
            refine takeD (i := 12) (v := .bool true) (some 184) rfl rfl (by kernel_rfl) (by kernel_rfl) (by kernel_rfl) (fun _ _ _ h => h) (Or.inl ⟨by rfl, ?_⟩) hS1 ?_
            · rintro w' _
              go_simp
            try simp only [Act.put, List.setIfInBounds_toArray, List.set_cons_zero, List.set_cons_succ]
            refine takeD (i := 13) (v := .bool true) (some 185) rfl rfl (by kernel_rfl) (by kernel_rfl) (by kernel_rfl) (fun _ _ _ h => h) (Or.inl ⟨by rfl, ?_⟩) hS1 ?_
            · rintro w' _
              go_simp
            try simp only [Act.put, List.setIfInBounds_toArray, List.set_cons_zero, List.set_cons_succ]
            refine takeD (i := 14) (v := .slice (some ⟨g2, 0, none⟩) i cx) (some 186) rfl rfl (by kernel_rfl) (by kernel_rfl) (by kernel_rfl) (fun _ _ _ h => h) (Or.inl ⟨by rfl, ?_⟩) hS1 ?_
            · rintro w' _
              go_simp
            try simp only [Act.put, List.setIfInBounds_toArray, List.set_cons_zero, List.set_cons_succ]
            refine takeD (i := 15) (v := .int .i64 (q + 1 : Nat)) (some 187) rfl rfl (by kernel_rfl) (by kernel_rfl) (by kernel_rfl) (fun _ _ _ h => h) (Or.inl ⟨by rfl, ?_⟩) hS1 ?_
            · rintro w' _
              go_simp
            try simp only [Act.put, List.setIfInBounds_toArray, List.set_cons_zero, List.set_cons_succ]
            refine takeD (i := 16) (v := .int .i64 q) (some 188) rfl rfl (by kernel_rfl) (by kernel_rfl) (by kernel_rfl) (fun _ _ _ h => h) (Or.inl ⟨by rfl, ?_⟩) hS1 ?_
            · rintro w' _
              go_simp
            try simp only [Act.put, List.setIfInBounds_toArray, List.set_cons_zero, List.set_cons_succ]
            refine takeD (i := 17) (v := .pointer (some ⟨g2, q * 13, none⟩)) (some 189) rfl rfl (by kernel_rfl) (by kernel_rfl) (by kernel_rfl) (fun _ _ _ h => h) (Or.inl ⟨by rfl, ?_⟩) hS1 ?_
            · rintro w' _
              go_simp
            try simp only [Act.put, List.setIfInBounds_toArray, List.set_cons_zero, List.set_cons_succ]
            refine takeD (i := 18) (v := .agg #[.int .i64 z.r.k, .int .i64 z.r.pr, .int .i64 z.r.to, .int .i64 z.r.po, .int .i64 z.r.x.v, .int .i64 z.r.x.m, .int .u8 z.r.x.b0, .int .u8 z.r.x.b1, .int .u8 z.r.x.b2, .int .u8 z.r.x.i0, .int .u8 z.r.x.i1, .int .u8 z.r.x.i2, .slice z.A z.r.os.length z.c]) (some 190) rfl rfl (by kernel_rfl) (by kernel_rfl) (by kernel_rfl) (fun _ _ _ h => h) (Or.inl ⟨by rfl, ?_⟩) hS1 ?_
            · rintro w' ⟨s0, _⟩
              have d0 := Vb.cell s0 (q * 13) (r0.trans rfl)
              have d1 := Vb.cell s0 (q * 13 + 1) (r1.trans rfl)
              have d2 := Vb.cell s0 (q * 13 + 2) (r2.trans rfl)
              have d3 := Vb.cell s0 (q * 13 + 3) (r3.trans rfl)
              have d4 := Vb.cell s0 (q * 13 + 4) (r4.trans rfl)
              have d5 := Vb.cell s0 (q * 13 + 5) (r5.trans rfl)
              have d6 := Vb.cell s0 (q * 13 + 6) (r6.trans rfl)
              have d7 := Vb.cell s0 (q * 13 + 7) (r7.trans rfl)
              have d8 := Vb.cell s0 (q * 13 + 8) (r8.trans rfl)
              have d9 := Vb.cell s0 (q * 13 + 9) (r9.trans rfl)
              have d10 := Vb.cell s0 (q * 13 + 10) (r10.trans rfl)
              have d11 := Vb.cell s0 (q * 13 + 11) (r11.trans rfl)
              have d12 := Vb.cell s0 (q * 13 + 12) (r12.trans rfl)
              go_simp
            try simp only [Act.put, List.setIfInBounds_toArray, List.set_cons_zero, List.set_cons_succ]
            refine takeD (i := 19) (v := .slice (some ⟨g2, 0, none⟩) i cx) (some 191) rfl rfl (by kernel_rfl) (by kernel_rfl) (by kernel_rfl) (fun _ _ _ h => h) (Or.inl ⟨by rfl, ?_⟩) hS1 ?_
            · rintro w' _
              go_simp
            try simp only [Act.put, List.setIfInBounds_toArray, List.set_cons_zero, List.set_cons_succ]
            refine takeD (i := 20) (v := .int .i64 (q + 1 : Nat)) (some 192) rfl rfl (by kernel_rfl) (by kernel_rfl) (by kernel_rfl) (fun _ _ _ h => h) (Or.inl ⟨by rfl, ?_⟩) hS1 ?_
            · rintro w' _
              go_simp
            try simp only [Act.put, List.setIfInBounds_toArray, List.set_cons_zero, List.set_cons_succ]
            refine takeD (i := 21) (v := .pointer (some ⟨g2, (q + 1) * 13, none⟩)) (some 193) rfl rfl (by kernel_rfl) (by kernel_rfl) (by kernel_rfl) (fun _ _ _ h => h) (Or.inl ⟨by rfl, ?_⟩) hS1 ?_
            · rintro w' _
              go_simp
            try simp only [Act.put, List.setIfInBounds_toArray, List.set_cons_zero, List.set_cons_succ]
            refine takeD (i := 22) (v := .agg #[.int .i64 x.r.k, .int .i64 x.r.pr, .int .i64 x.r.to, .int .i64 x.r.po, .int .i64 x.r.x.v, .int .i64 x.r.x.m, .int .u8 x.r.x.b0, .int .u8 x.r.x.b1, .int .u8 x.r.x.b2, .int .u8 x.r.x.i0, .int .u8 x.r.x.i1, .int .u8 x.r.x.i2, .slice x.A x.r.os.length x.c]) (some 194) rfl rfl (by kernel_rfl) (by kernel_rfl) (by kernel_rfl) (fun _ _ _ h => h) (Or.inl ⟨by rfl, ?_⟩) hS1 ?_
            · rintro w' ⟨s0, _⟩
              have d0 := Vb.cell s0 ((q + 1) * 13) (q0.trans rfl)
              have d1 := Vb.cell s0 ((q + 1) * 13 + 1) (q1.trans rfl)
              have d2 := Vb.cell s0 ((q + 1) * 13 + 2) (q2.trans rfl)
              have d3 := Vb.cell s0 ((q + 1) * 13 + 3) (q3.trans rfl)
              have d4 := Vb.cell s0 ((q + 1) * 13 + 4) (q4.trans rfl)
              have d5 := Vb.cell s0 ((q + 1) * 13 + 5) (q5.trans rfl)
              have d6 := Vb.cell s0 ((q + 1) * 13 + 6) (q6.trans rfl)
              have d7 := Vb.cell s0 ((q + 1) * 13 + 7) (q7.trans rfl)
              have d8 := Vb.cell s0 ((q + 1) * 13 + 8) (q8.trans rfl)
              have d9 := Vb.cell s0 ((q + 1) * 13 + 9) (q9.trans rfl)
              have d10 := Vb.cell s0 ((q + 1) * 13 + 10) (q10.trans rfl)
              have d11 := Vb.cell s0 ((q + 1) * 13 + 11) (q11.trans rfl)
              have d12 := Vb.cell s0 ((q + 1) * 13 + 12) (q12.trans rfl)
              go_simp
            try simp only [Act.put, List.setIfInBounds_toArray, List.set_cons_zero, List.set_cons_succ]
            refine wpAnyH_ready (rs := [23]) (by kernel_rfl) (by simp) ?_
            refine AllReadyH.cons rfl (fun K hK => ?_) AllReadyH.nil
            try rw [if_pos (by rfl)]
            go_simp
            go_at_call 25
            refine (cmpIt_any z x _).mono ?_
            rintro e u2 ⟨rfl, hb2⟩
            have hS2 : (fun W => Rowb W g2 R2 ∧ Rowb W g3 R3) u2 := ⟨Vb.below hS1.1 hb2 (Vb.lt hS1.1), Vb.below hS1.2 hb2 (Vb.lt hS1.2)⟩
            have hbf := hbe.trans (hb2.mono hbe.size)
            have hnge : ¬ ((0 : Int) ≤ cmpR z.r x.r) := by omega
            refine hK.out _ _ hS2 (fun _ => ?_)
            clear hK K hb2 hbe
            try simp only [Act.put, List.setIfInBounds_toArray, List.set_cons_zero, List.set_cons_succ]
            refine takeD (i := 24) (v := .bool false) (some 196) rfl rfl (by kernel_rfl) (by kernel_rfl) (by kernel_rfl) (fun _ _ _ h => h) (Or.inl ⟨by rfl, ?_⟩) hS2 ?_
            · rintro w' _
              go_simp
            try simp only [Act.put, List.setIfInBounds_toArray, List.set_cons_zero, List.set_cons_succ]
            refine takeD (i := 25) (v := .bool false) (some 197) rfl rfl (by kernel_rfl) (by kernel_rfl) (by kernel_rfl) (fun _ _ _ h => h) (Or.inl ⟨by rfl, ?_⟩) hS2 ?_
            · rintro w' _
              go_simp
            try simp only [Act.put, List.setIfInBounds_toArray, List.set_cons_zero, List.set_cons_succ]
            refine takeD (i := 26) (v := .bool false) (some 198) rfl rfl (by kernel_rfl) (by kernel_rfl) (by kernel_rfl) (fun _ _ _ h => h) (Or.inl ⟨by rfl, ?_⟩) hS2 ?_
            · rintro w' _
              go_simp
            try simp only [Act.put, List.setIfInBounds_toArray, List.set_cons_zero, List.set_cons_succ]
            refine wpAnyH_done (by kernel_rfl) ?_ _
            clear hS0 hS1 hS2 hxz hyz hz hoxd hoyd hnge hzx hp0 q0 q1 q2 q3 q4 q5 q6 q7 q8 q9 q10 q11 q12 t0 t1 t2 t3 t4 t5 t6 t7 t8 t9 t10 t11 t12 r0 r1 r2 r3 r4 r5 r6 r7 r8 r9 r10 r11 r12
            go_wp2_with fail
            go_roundw
            case rel => exact ⟨q + 2, by go_num, by omega, hbf⟩
            case measure => simp [intOf]; omega
        obtain rfl : p = i := by omega
        have hB := HB.out.trans (hbw.mono HB.out.size)
        clear hbw
        go_wp2_with fail
        refine (worksT_any _).mono ?_
        rintro e w11 ⟨rfl, hb11⟩
        go_wp2_with fail
        go_ret
        exact ⟨rfl, hB.trans (hb11.mono hB.size)⟩
theorem TableMixed_walk (ys : List It) (A : Option Addr) (n c : Nat) (tn rm : Int) (w : World) (h : Rp w w.heap.size A n c ys) (_ : ∀ y ∈ ys, MB y.r.x) (_ : (Lit.int .i64 tn).wf = true) (_ : (Lit.int .i64 rm).wf = true) :
    Calls Try.prog 5 #[.slice A n c, .int .i64 tn, .int .i64 rm] w fun e w' => e = .returned (.bool true) ∧ Below w.heap.size w w' := tableMixed_any h tn rm
end Go.Proofs.Ytmigpmhppapkmaa.Oct
