/- The walk of TableLoose. -/
import Derived.Test.YtmigpmhppapkmaaTabR
import Derived.Test.YtmigpmhppapkmaaTabS
import Derived.Test.YtmigpmhppapkmaaTabX
import Derived.Test.YtmigpmhppapkmaaRulF
import Derived.Deep.CutRange
namespace Go.Proofs.Ytmigpmhppapkmaa.Oct
open Go.RowKit
set_option linter.unusedVariables false
set_option linter.unusedSimpArgs false

theorem Ob.kpt {n m : Nat} {w w' : World} {x : It} (h : Ob w x) (hk : Kpt n m w w') : Ob w' x :=
  h.keep hk.2.2.2.2.2 fun b cur hc => by
    have := hk.2.1 49 b cur.toList (by decide) (by decide) (by simpa [Vb] using hc)
    rw [hc]
    simpa [Vb] using this
theorem RowS.kpt {n m : Nat} {w w' : World} {v : Value} {its : List It} (h : RowS w v its) (hk : Kpt n m w w') (hv : ∀ k, v.ownBlock = some k → k < n ∨ m ≤ k) : RowS w' v its :=
  h.keep fun k e => hk.1 k (h.lt k e).1 (hv k e)
theorem madeR_len (r : RuleV) : (madeR r).os.length ≤ 1000000000 := by
  unfold madeR
  split
  · simp [ctlO]
  · simp [datO]
theorem loosL_step {mk : MaskV} {l : List RuleV} {i : Nat} {r : RuleV} (h : l[i]? = some r) : loosL mk (l.take (i + 1)) = loosL mk (l.take i) ++ (if loosP mk r = true then [] else [r]) := by
  have e : l.take (i + 1) = l.take i ++ [r] := by rw [List.take_add_one, h]; rfl
  unfold loosL
  rw [e, List.filter_append]
  cases hp : loosP mk r <;> simp [hp]
theorem loosL_at {mk : MaskV} {l : List RuleV} {i : Nat} {r : RuleV} (h : l[i]? = some r) (hp : loosP mk r = false) : (loosL mk l)[(loosL mk (l.take i)).length]? = some r := by
  obtain ⟨hlt, e⟩ := List.getElem?_eq_some_iff.1 h
  have e2 : l = l.take i ++ r :: l.drop (i + 1) := by rw [← e, ← List.drop_eq_getElem_cons hlt, List.take_append_drop]
  unfold loosL
  conv => lhs; rw [e2]
  rw [List.filter_append, List.take_append_of_le_length (by simp; omega), List.take_take, Nat.min_self, List.getElem?_append_right (Nat.le_refl _), Nat.sub_self]
  simp [hp]
theorem loosL_le {mk : MaskV} {l : List RuleV} {i : Nat} : (loosL mk (l.take i)).length ≤ i := by
  have h1 := List.length_filter_le (fun r => !loosP mk r) (l.take i)
  unfold loosL
  have : (l.take i).length ≤ i := by simp; omega
  omega
theorem rls_back {its : List It} {l : List RuleV} (h : rls its = l) {i : Nat} {r : RuleV} (hr : l[i]? = some r) : ∃ x, its[i]? = some x ∧ x.r = r := by
  rw [← h] at hr
  simp only [rls, List.getElem?_map, Option.map_eq_some_iff] at hr
  exact hr
theorem sameIt_any {w : World} (x y : It) (h : x.r = y.r) (hx : Ob w x) (hy : Ob w y) : Calls Try.prog 29 #[.agg (ics x).toArray, .agg (ics y).toArray] w fun e w' => e = .returned (.bool true) ∧ Below w.heap.size w w' := by
  obtain ⟨r, A, c⟩ := x
  obtain ⟨r2, A2, c2⟩ := y
  simp only at h
  subst h
  refine (same_any r hx.ro (Nat.le_refl _) hy.ro (Nat.le_refl _)).mono ?_
  rintro e w' ⟨rfl, hb⟩
  exact ⟨by simp, hb⟩
set_option maxRecDepth 100000 in
set_option maxHeartbeats 16000000 in
theorem tableLoose_any {w : World} {A : Option Addr} {n c : Nat} {ys : List It} (h : Rp w w.heap.size A n c ys) (mk : MaskV) : Calls Try.prog 6 #[.slice A n c, .agg (ms mk).toArray] w fun e w' => e = .returned (.bool true) ∧ Below w.heap.size w w' := by
  have hB := below_alloc w (.cells (ms mk).toArray 33)
  have hm := Vb.new 33 w (ms mk)
  have hR := h.below hB
  have hyl := h.1
  clear h
  go_enter Try.func6, Try.ntmps6
  go_upto_region 1 with fail
  generalize w.alloc (.cells (ms mk).toArray 33) = w0 at *
  go_wp2_with fail
  refine (ts_new w0 64 (by omega) (by omega)).mono ?_
  rintro e w1 ⟨rfl, hT, hb1, hz1⟩
  have hgt : w.heap.size < w0.heap.size := hm.lt
  replace hm := hm.below hb1 hm.lt
  replace hR := hR.below (hb1.mono (by omega))
  replace hB := hB.trans (hb1.mono hB.size)
  clear hb1 hz1
  generalize w0.heap.size = t at *
  go_wp2_with fail
  go_loopw [7] (fun s7 wr => ∃ (k m' : Nat) (l : List RuleV), s7 = .int .i64 k ∧ k ≤ n ∧ k ≤ 60 ∧ TS t m' 64 wr t l ∧ Vb 33 wr w.heap.size (ms mk) ∧ Rp wr w.heap.size A n c ys ∧ Below w.heap.size w wr) (fun s7 _ => 60 - (intOf s7).toNat)
  case atStart => exact ⟨0, t + 1, [], rfl, Nat.zero_le _, Nat.zero_le _, hT, hm, hR, hB⟩
  case round =>
    clear hT hm hR hB
    obtain ⟨k, m', l, rfl, hk1, hk2, hT, hm, hR, hB⟩ := hrel
    have HK1 := Kp.mk hk1
    have HK2 := Kp.mk hk2
    by_cases hgo : (k : Int) < n ∧ (k : Int) < 60
    · obtain ⟨j1, j2⟩ := hgo
      obtain ⟨b, off, eA, hlt, hc⟩ := hR.2.2.2.2 (by omega)
      subst eA
      obtain ⟨x, hx⟩ : ∃ x, ys[k]? = some x := ⟨_, List.getElem?_eq_getElem (by omega)⟩
      have hcell := hc k x hx
      have HM := Kp.mk (fun W => made_any x W)
      clear hc hx hk1 hk2
      go_wp2_with (refine wpList_load_cells (vs := ics x) (by rfl) (.tmp 32) rfl rfl hcell agg_rule ?_)
      refine (HM.out _).mono ?_
      rintro e w2 ⟨z, hzr, rfl, hzo, _, hb2⟩
      have hzl : z.r.os.length ≤ 1000000000 := by rw [hzr]; exact madeR_len _
      clear hzr
      have hTb := hT.below hb2
      have hmb := hm.below hb2 hm.lt
      have hRb := hR.below (hb2.mono hB.size)
      have hBb := hB.trans (hb2.mono hB.size)
      clear hT hm hR hB hb2 hcell HM
      have HA := Kp.mk (ts_add hTb hzo hzl)
      clear hzl hzo
      go_wp2_with fail
      refine HA.out.mono ?_
      rintro e w3 ⟨rfl, hT3, hK3⟩
      have hn3 := hBb.size
      have ht3 := hTb.size
      have hm3 := hK3.2.1 _ _ _ (by decide) (by decide) hmb
      have hBK : Below w.heap.size w2 w3 := (hK3.below (by omega)).mono (by omega)
      have hR3 := hRb.below hBK
      have hB3 := hBb.trans hBK
      clear hTb hmb hRb hBb HA hK3 hBK hn3 ht3
      go_wp2_with fail
      go_roundw
      case rel => exact ⟨k + 1, _, _, by go_num, by have := HK1.out; omega, by omega, hT3, hm3, hR3, hB3⟩
      case measure => simp [intOf]; omega
    go_upto_region 5 with fail
    go_cut [26] from 19 to 35 (fun v wx => v = .bool false ∧ wx = wr)
    case first =>
      clear hT hm hR hB hk1 hk2 HK1 HK2
      by_cases j1 : (k : Int) < n
      · have j2 : ¬ (k : Int) < 60 := fun h => hgo ⟨j1, h⟩
        clear hgo
        go_wp2_with fail
        go_meet
        case rel => exact ⟨rfl, rfl⟩
      · clear hgo
        go_wp2_with fail
        go_meet
        case rel => exact ⟨rfl, rfl⟩
    obtain ⟨rfl, rfl⟩ := hcut
    clear hgo hR hk1 hk2 HK1 HK2 hyl
    have hS := hT.srt
    have HL64 := Kp.mk (show l.length ≤ 64 by omega)
    clear hS
    go_wp2_with fail
    refine (ts_rules hT).mono ?_
    rintro e w2 ⟨v1, its1, rfl, hr1, hl1, ho1, hf1, hb2⟩
    have hmn := hT.size
    have HF1 := Kp.mk (show ∀ k, v1.ownBlock = some k → k < t ∨ m' ≤ k from fun k hk => .inr (by have := hf1 k hk; omega))
    have HO1 := Kp.mk (fun y (hy : y ∈ its1) => (ho1 y hy).1)
    replace hT := hT.below hb2
    replace hm := hm.below hb2 hm.lt
    replace hB := hB.trans (hb2.mono hB.size)
    have hl1n : its1.length = l.length := by rw [← hl1, rls_len]
    have HL1 := Kp.mk hl1
    clear hb2 ho1 hf1 hl1 hmn
    obtain ⟨A1, c1, hv1, _⟩ := hr1.form
    rw [hl1n] at hv1
    go_wp2_with (refine wpList_load_vb (vs := ms mk) rfl (.tmp 3) rfl rfl hm rfl agg_mask ?_)
    refine (ts_loose hT mk).mono ?_
    rintro e w3 ⟨rfl, hT3, hK3⟩
    have hn3 := hB.size
    have ht3 := hT.size
    have hm3 := hK3.2.1 _ _ _ (by decide) (by decide) hm
    have hr13 := hr1.kpt hK3 HF1.out
    have HO13 := Kp.mk (fun y (hy : y ∈ its1) => (HO1.out y hy).kpt hK3)
    have hB3 := hB.trans ((hK3.below (by omega)).mono (by omega))
    clear hT hm hr1 HO1 HF1 hB hK3 hn3 ht3
    go_wp2_with fail
    refine (ts_rules hT3).mono ?_
    rintro e w4 ⟨v3, its3, rfl, hr3, hl3, ho3, hf3, hb4⟩
    have hT := hT3.below hb4
    have hm := hm3.below hb4 hm3.lt
    have hr1 := hr13.below hb4
    have HO1 := Kp.mk (fun y (hy : y ∈ its1) => (HO13.out y hy).below hb4)
    have HO3 := Kp.mk (fun y (hy : y ∈ its3) => (ho3 y hy).1)
    have hB := hB3.trans (hb4.mono hB3.size)
    have hl3n : its3.length = (loosL mk l).length := by rw [← hl3, rls_len]
    have HL3 := Kp.mk hl3
    clear hT3 hm3 hr13 HO13 hB3 hb4 ho3 hf3 hl3
    obtain ⟨A3, c3, hv3, _⟩ := hr3.form
    rw [hl3n] at hv3
    generalize hN : l.length = N at *
    replace hN := Kp.mk hN
    generalize hM : (loosL mk l).length = M at *
    replace hM := Kp.mk hM
    subst hv1 hv3
    have HR1 := Kp.mk hr1
    have HR3 := Kp.mk hr3
    have HT := Kp.mk hT
    have HM := Kp.mk hm
    have HB := Kp.mk hB
    have HN1 := Kp.mk hl1n
    have HN3 := Kp.mk hl3n
    have hb0 := Below.refl w4.heap.size w4
    clear hT hm hr1 hr3 hB hl1n hl3n
    go_wp2_with fail
    go_loopw [11, 12] (fun s11 s12 wr => ∃ (i : Nat), s12 = .int .i64 i ∧ i ≤ N ∧ s11 = .int .i64 (loosL mk (l.take i)).length ∧ Below w4.heap.size w4 wr) (fun _ s12 _ => N - (intOf s12).toNat)
    case atStart => exact ⟨0, rfl, Nat.zero_le _, by rw [List.take_zero]; rfl, hb0⟩
    case round =>
      clear hb0
      obtain ⟨i, rfl, hi, rfl, hb⟩ := hrel
      by_cases hlt : i < N
      · obtain ⟨r, hri⟩ : ∃ r, l[i]? = some r := ⟨_, List.getElem?_eq_getElem (by have := hN.out; omega)⟩
        obtain ⟨x, hx1, hxr⟩ := rls_back HL1.out hri
        have hox := (HO1.out x (List.mem_of_getElem? hx1)).below hb
        have HST := Kp.mk (loosL_step (mk := mk) hri)
        have HAT := Kp.mk (fun (hp : loosP mk r = false) => loosL_at hri hp)
        subst hxr
        have hr1 := HR1.out.below hb
        have hm := HM.out.below hb HM.out.lt
        rcases hr1 with ⟨_, e0⟩ | ⟨g1, sp1, hv, hr1, _⟩
        · exfalso; rw [e0] at hx1; simp at hx1
        obtain ⟨rfl, -, -⟩ := Value.slice.inj hv
        clear hv
        have hxz : (its1 ++ sp1)[i]? = some x := by rw [List.getElem?_append_left (by have := HN1.out; omega)]; exact hx1
        generalize its1 ++ sp1 = R1 at *
        obtain ⟨a, ha⟩ : ∃ a, a = (loosL mk (l.take i)).length := ⟨_, rfl⟩
        have HA := Kp.mk ha
        rw [← ha]
        have hN64 : N ≤ 64 := by have := HL64.out; have := hN.out; omega
        have ha64 : a ≤ 64 := by have := loosL_le (mk := mk) (l := l) (i := i); omega
        clear hx1 hri ha
        have q0 := fl_get R1 i 0 x hxz (by omega)
        have q1 := fl_get R1 i 1 x hxz (by omega)
        have q2 := fl_get R1 i 2 x hxz (by omega)
        have q3 := fl_get R1 i 3 x hxz (by omega)
        have q4 := fl_get R1 i 4 x hxz (by omega)
        have q5 := fl_get R1 i 5 x hxz (by omega)
        have q6 := fl_get R1 i 6 x hxz (by omega)
        have q7 := fl_get R1 i 7 x hxz (by omega)
        have q8 := fl_get R1 i 8 x hxz (by omega)
        have q9 := fl_get R1 i 9 x hxz (by omega)
        have q10 := fl_get R1 i 10 x hxz (by omega)
        have q11 := fl_get R1 i 11 x hxz (by omega)
        have q12 := fl_get R1 i 12 x hxz (by omega)
        rw [Nat.add_zero] at q0
        go_upto_region 15 with fail
        go_cut [63] from 43 to 81 (fun v wx => v = .bool (loosP mk x.r) ∧ Below wr.heap.size wr wx)
        case first =>
          have hS0 : (fun W => Rowb W g1 R1 ∧ Vb 33 W w.heap.size [.int .i64 mk.v, .int .i64 mk.m, .int .u8 mk.b0, .int .u8 mk.b1, .int .u8 mk.b2, .int .u8 mk.i0, .int .u8 mk.i1, .int .u8 mk.i2]) wr.drew := ⟨hr1, hm⟩
          have hbd := (Below.refl wr.heap.size wr).drew
          refine wp_region_held_drew (S := fun W => Rowb W g1 R1 ∧ Vb 33 W w.heap.size [.int .i64 mk.v, .int .i64 mk.m, .int .u8 mk.b0, .int .u8 mk.b1, .int .u8 mk.b2, .int .u8 mk.i0, .int .u8 mk.i1, .int .u8 mk.i2]) (by kernel_rfl) hS0 (fun _ => ?_)
          clear hr1 hm hox
          generalize wr.drew = u0 at *
          refine takeD (i := 0) (v := .slice (some ⟨g1, 0, none⟩) N c1) (some 49) rfl rfl (by kernel_rfl) (by kernel_rfl) (by kernel_rfl) (fun _ _ _ h => h) (Or.inl ⟨by rfl, ?_⟩) hS0 ?_
          · rintro w' _
            go_simp
          try simp only [Act.put, List.setIfInBounds_toArray, List.set_cons_zero, List.set_cons_succ]
          refine takeD (i := 1) (v := .int .i64 i) (some 50) rfl rfl (by kernel_rfl) (by kernel_rfl) (by kernel_rfl) (fun _ _ _ h => h) (Or.inl ⟨by rfl, ?_⟩) hS0 ?_
          · rintro w' _
            go_simp
          try simp only [Act.put, List.setIfInBounds_toArray, List.set_cons_zero, List.set_cons_succ]
          refine takeD (i := 2) (v := .pointer (some ⟨g1, i * 13, none⟩)) (some 51) rfl rfl (by kernel_rfl) (by kernel_rfl) (by kernel_rfl) (fun _ _ _ h => h) (Or.inl ⟨by rfl, ?_⟩) hS0 ?_
          · rintro w' _
            go_simp
          try simp only [Act.put, List.setIfInBounds_toArray, List.set_cons_zero, List.set_cons_succ]
          refine takeD (i := 3) (v := .pointer (some ⟨g1, i * 13, none⟩)) (some 52) rfl rfl (by kernel_rfl) (by kernel_rfl) (by kernel_rfl) (fun _ _ _ h => h) (Or.inl ⟨by rfl, ?_⟩) hS0 ?_
          · rintro w' _
            go_simp
          try simp only [Act.put, List.setIfInBounds_toArray, List.set_cons_zero, List.set_cons_succ]
          refine takeD (i := 4) (v := .int .i64 x.r.k) (some 53) rfl rfl (by kernel_rfl) (by kernel_rfl) (by kernel_rfl) (fun _ _ _ h => h) (Or.inl ⟨by rfl, ?_⟩) hS0 ?_
          · rintro w' ⟨s0, _⟩
            have d0 := Vb.cell s0 (i * 13) (q0.trans rfl)
            go_simp
          try simp only [Act.put, List.setIfInBounds_toArray, List.set_cons_zero, List.set_cons_succ]
          by_cases hk : x.r.k = 1
          · have hk2 : (x.r.k == 1) = true := by simpa using hk
            have hLP := Kp.mk (show loosP mk x.r = coversP mk x.r.x by unfold loosP; rw [hk2]; rfl)
            clear hk
            refine takeD (i := 5) (v := .bool true) (some 54) rfl rfl (by kernel_rfl) (by kernel_rfl) (by kernel_rfl) (fun _ _ _ h => h) (Or.inl ⟨by rfl, ?_⟩) hS0 ?_
            · rintro w' _
              go_simp
            try simp only [Act.put, List.setIfInBounds_toArray, List.set_cons_zero, List.set_cons_succ]
            refine takeD (i := 6) (v := .bool true) (some 55) rfl rfl (by kernel_rfl) (by kernel_rfl) (by kernel_rfl) (fun _ _ _ h => h) (Or.inl ⟨by rfl, ?_⟩) hS0 ?_
            · rintro w' _
              go_simp
            try simp only [Act.put, List.setIfInBounds_toArray, List.set_cons_zero, List.set_cons_succ]
            refine takeD (i := 7) (v := .agg #[.int .i64 mk.v, .int .i64 mk.m, .int .u8 mk.b0, .int .u8 mk.b1, .int .u8 mk.b2, .int .u8 mk.i0, .int .u8 mk.i1, .int .u8 mk.i2]) (some 56) rfl rfl (by kernel_rfl) (by kernel_rfl) (by kernel_rfl) (fun _ _ _ h => h) (Or.inl ⟨by rfl, ?_⟩) hS0 ?_
            · rintro w' ⟨_, s1⟩
              obtain ⟨e0, e1, e2, e3, e4, e5, e6, e7⟩ := s1.c8
              go_simp
            try simp only [Act.put, List.setIfInBounds_toArray, List.set_cons_zero, List.set_cons_succ]
            refine takeD (i := 8) (v := .slice (some ⟨g1, 0, none⟩) N c1) (some 57) rfl rfl (by kernel_rfl) (by kernel_rfl) (by kernel_rfl) (fun _ _ _ h => h) (Or.inl ⟨by rfl, ?_⟩) hS0 ?_
            · rintro w' _
              go_simp
            try simp only [Act.put, List.setIfInBounds_toArray, List.set_cons_zero, List.set_cons_succ]
            refine takeD (i := 9) (v := .int .i64 i) (some 58) rfl rfl (by kernel_rfl) (by kernel_rfl) (by kernel_rfl) (fun _ _ _ h => h) (Or.inl ⟨by rfl, ?_⟩) hS0 ?_
            · rintro w' _
              go_simp
            try simp only [Act.put, List.setIfInBounds_toArray, List.set_cons_zero, List.set_cons_succ]
            refine takeD (i := 10) (v := .pointer (some ⟨g1, i * 13, none⟩)) (some 59) rfl rfl (by kernel_rfl) (by kernel_rfl) (by kernel_rfl) (fun _ _ _ h => h) (Or.inl ⟨by rfl, ?_⟩) hS0 ?_
            · rintro w' _
              go_simp
            try simp only [Act.put, List.setIfInBounds_toArray, List.set_cons_zero, List.set_cons_succ]
            refine takeD (i := 11) (v := .pointer (some ⟨g1, i * 13 + 4, none⟩)) (some 60) rfl rfl (by kernel_rfl) (by kernel_rfl) (by kernel_rfl) (fun _ _ _ h => h) (Or.inl ⟨by rfl, ?_⟩) hS0 ?_
            · rintro w' _
              go_simp
            try simp only [Act.put, List.setIfInBounds_toArray, List.set_cons_zero, List.set_cons_succ]
            refine takeD (i := 12) (v := .agg #[.int .i64 x.r.x.v, .int .i64 x.r.x.m, .int .u8 x.r.x.b0, .int .u8 x.r.x.b1, .int .u8 x.r.x.b2, .int .u8 x.r.x.i0, .int .u8 x.r.x.i1, .int .u8 x.r.x.i2]) (some 61) rfl rfl (by kernel_rfl) (by kernel_rfl) (by kernel_rfl) (fun _ _ _ h => h) (Or.inl ⟨by rfl, ?_⟩) hS0 ?_
            · rintro w' ⟨s0, _⟩
              have d4 := Vb.cell s0 (i * 13 + 4) (q4.trans rfl)
              have d5 := Vb.cell s0 (i * 13 + 5) (q5.trans rfl)
              have d6 := Vb.cell s0 (i * 13 + 6) (q6.trans rfl)
              have d7 := Vb.cell s0 (i * 13 + 7) (q7.trans rfl)
              have d8 := Vb.cell s0 (i * 13 + 8) (q8.trans rfl)
              have d9 := Vb.cell s0 (i * 13 + 9) (q9.trans rfl)
              have d10 := Vb.cell s0 (i * 13 + 10) (q10.trans rfl)
              have d11 := Vb.cell s0 (i * 13 + 11) (q11.trans rfl)
              go_simp
            try simp only [Act.put, List.setIfInBounds_toArray, List.set_cons_zero, List.set_cons_succ]
            refine wpAnyH_ready (rs := [13]) (by kernel_rfl) (by simp) ?_
            refine AllReadyH.cons rfl (fun K hK => ?_) AllReadyH.nil
            try rw [if_pos (by rfl)]
            go_simp
            go_at_call 32
            refine (coversMs mk x.r.x _).mono ?_
            rintro e u1 ⟨rfl, hb1⟩
            have hS1 : (fun W => Rowb W g1 R1 ∧ Vb 33 W w.heap.size [.int .i64 mk.v, .int .i64 mk.m, .int .u8 mk.b0, .int .u8 mk.b1, .int .u8 mk.b2, .int .u8 mk.i0, .int .u8 mk.i1, .int .u8 mk.i2]) u1 := ⟨Vb.below hS0.1 hb1 (Vb.lt hS0.1), Vb.below hS0.2 hb1 (Vb.lt hS0.2)⟩
            have hbe := hbd.trans (hb1.mono hbd.size)
            refine hK.out _ _ hS1 (fun _ => ?_)
            clear hK K hb1
            try simp only [Act.put, List.setIfInBounds_toArray, List.set_cons_zero, List.set_cons_succ]
            refine takeD (i := 14) (v := .bool (coversP mk x.r.x)) (some 63) rfl rfl (by kernel_rfl) (by kernel_rfl) (by kernel_rfl) (fun _ _ _ h => h) (Or.inl ⟨by rfl, ?_⟩) hS1 ?_
            · rintro w' _
              go_simp
            try simp only [Act.put, List.setIfInBounds_toArray, List.set_cons_zero, List.set_cons_succ]
            refine wpAnyH_done (by kernel_rfl) ?_ _
            go_wp2_with fail
            go_meet
            case rel => exact ⟨by rw [hLP.out], hbe⟩
          · have hk2 : (x.r.k == 1) = false := by simpa using hk
            have hLP := Kp.mk (show loosP mk x.r = false by unfold loosP; rw [hk2]; rfl)
            clear hk
            refine takeD (i := 5) (v := .bool false) (some 54) rfl rfl (by kernel_rfl) (by kernel_rfl) (by kernel_rfl) (fun _ _ _ h => h) (Or.inl ⟨by rfl, ?_⟩) hS0 ?_
            · rintro w' _
              go_simp
            try simp only [Act.put, List.setIfInBounds_toArray, List.set_cons_zero, List.set_cons_succ]
            refine takeD (i := 6) (v := .bool false) (some 55) rfl rfl (by kernel_rfl) (by kernel_rfl) (by kernel_rfl) (fun _ _ _ h => h) (Or.inl ⟨by rfl, ?_⟩) hS0 ?_
            · rintro w' _
              go_simp
            try simp only [Act.put, List.setIfInBounds_toArray, List.set_cons_zero, List.set_cons_succ]
            refine takeD (i := 7) (v := undef) (some 56) rfl rfl (by kernel_rfl) (by kernel_rfl) (by kernel_rfl) (fun _ _ _ h => h) (Or.inr ⟨by rfl, rfl⟩) hS0 ?_
            try simp only [Act.put, List.setIfInBounds_toArray, List.set_cons_zero, List.set_cons_succ]
            refine takeD (i := 8) (v := undef) (some 57) rfl rfl (by kernel_rfl) (by kernel_rfl) (by kernel_rfl) (fun _ _ _ h => h) (Or.inr ⟨by rfl, rfl⟩) hS0 ?_
            try simp only [Act.put, List.setIfInBounds_toArray, List.set_cons_zero, List.set_cons_succ]
            refine takeD (i := 9) (v := undef) (some 58) rfl rfl (by kernel_rfl) (by kernel_rfl) (by kernel_rfl) (fun _ _ _ h => h) (Or.inr ⟨by rfl, rfl⟩) hS0 ?_
            try simp only [Act.put, List.setIfInBounds_toArray, List.set_cons_zero, List.set_cons_succ]
            refine takeD (i := 10) (v := undef) (some 59) rfl rfl (by kernel_rfl) (by kernel_rfl) (by kernel_rfl) (fun _ _ _ h => h) (Or.inr ⟨by rfl, rfl⟩) hS0 ?_
            try simp only [Act.put, List.setIfInBounds_toArray, List.set_cons_zero, List.set_cons_succ]
            refine takeD (i := 11) (v := undef) (some 60) rfl rfl (by kernel_rfl) (by kernel_rfl) (by kernel_rfl) (fun _ _ _ h => h) (Or.inr ⟨by rfl, rfl⟩) hS0 ?_
            try simp only [Act.put, List.setIfInBounds_toArray, List.set_cons_zero, List.set_cons_succ]
            refine takeD (i := 12) (v := undef) (some 61) rfl rfl (by kernel_rfl) (by kernel_rfl) (by kernel_rfl) (fun _ _ _ h => h) (Or.inr ⟨by rfl, rfl⟩) hS0 ?_
            try simp only [Act.put, List.setIfInBounds_toArray, List.set_cons_zero, List.set_cons_succ]
            refine takeD (i := 13) (v := undef) (some 62) rfl rfl (by kernel_rfl) (by kernel_rfl) (by kernel_rfl) (fun _ _ _ h => h) (Or.inr ⟨by rfl, rfl⟩) hS0 ?_
            try simp only [Act.put, List.setIfInBounds_toArray, List.set_cons_zero, List.set_cons_succ]
            refine takeD (i := 14) (v := .bool false) (some 63) rfl rfl (by kernel_rfl) (by kernel_rfl) (by kernel_rfl) (fun _ _ _ h => h) (Or.inl ⟨by rfl, ?_⟩) hS0 ?_
            · rintro w' _
              go_simp
            try simp only [Act.put, List.setIfInBounds_toArray, List.set_cons_zero, List.set_cons_succ]
            refine wpAnyH_done (by kernel_rfl) ?_ _
            go_wp2_with fail
            go_meet
            case rel => exact ⟨by rw [hLP.out], hbd⟩
        obtain ⟨rfl, hbc⟩ := hcut
        have hbw := hb.trans (hbc.mono hb.size)
        have hr1c : Rowb wc g1 R1 := Vb.below hr1 hbc (Vb.lt hr1)
        have hoxc := hox.below hbc
        clear hr1 hm hox hbc
        by_cases hp : loosP mk x.r = true
        · have hs : a = (loosL mk (l.take (i + 1))).length := by rw [HST.out, if_pos hp, List.append_nil]; exact HA.out
          rw [hp]
          clear hp q0 q1 q2 q3 q4 q5 q6 q7 q8 q9 q10 q11 q12 hr1c hoxc
          have HS := Kp.mk hs
          clear hs
          go_wp2_with fail
          go_roundw
          case rel => exact ⟨i + 1, by go_num, by omega, by rw [← HS.out], hbw⟩
          case measure => simp [intOf]; omega
        have hp' : loosP mk x.r = false := by simpa using hp
        have hat := HAT.out hp'
        have HS := Kp.mk (show a + 1 = (loosL mk (l.take (i + 1))).length by rw [HST.out, if_neg hp, List.length_append, ← HA.out]; rfl)
        rw [← HA.out] at hat
        obtain ⟨y, hy1, hyr⟩ := rls_back HL3.out hat
        have haM : a < M := by have := (List.getElem?_eq_some_iff.1 hat).1; have := hM.out; omega
        have hoy := (HO3.out y (List.mem_of_getElem? hy1)).below hbw
        have hr3 := HR3.out.below hbw
        rcases hr3 with ⟨_, e0⟩ | ⟨g3, sp3, hv, hr3, _⟩
        · exfalso; rw [e0] at hy1; simp at hy1
        obtain ⟨rfl, -, -⟩ := Value.slice.inj hv
        clear hv
        have hyz : (its3 ++ sp3)[a]? = some y := by rw [List.getElem?_append_left (by have := HN3.out; omega)]; exact hy1
        generalize its3 ++ sp3 = R3 at *
        have hxy := Kp.mk hyr.symm
        rw [hp']
        clear hp hp' hat hy1 hyr
        have p0 := fl_get R3 a 0 y hyz (by omega)
        have p1 := fl_get R3 a 1 y hyz (by omega)
        have p2 := fl_get R3 a 2 y hyz (by omega)
        have p3 := fl_get R3 a 3 y hyz (by omega)
        have p4 := fl_get R3 a 4 y hyz (by omega)
        have p5 := fl_get R3 a 5 y hyz (by omega)
        have p6 := fl_get R3 a 6 y hyz (by omega)
        have p7 := fl_get R3 a 7 y hyz (by omega)
        have p8 := fl_get R3 a 8 y hyz (by omega)
        have p9 := fl_get R3 a 9 y hyz (by omega)
        have p10 := fl_get R3 a 10 y hyz (by omega)
        have p11 := fl_get R3 a 11 y hyz (by omega)
        have p12 := fl_get R3 a 12 y hyz (by omega)
        rw [Nat.add_zero] at p0
        have hge : ¬ ((M : Int) ≤ (a : Int)) := by omega
        go_upto_region 16 with fail
        have hS0 : (fun W => Rowb W g1 R1 ∧ Rowb W g3 R3) wc.drew := ⟨hr1c, hr3⟩
        have hbd := (Below.refl wc.heap.size wc).drew
        have hoxd := hoxc.below hbd
        have hoyd := hoy.below hbd
        refine wp_region_held_drew (S := fun W => Rowb W g1 R1 ∧ Rowb W g3 R3) (by kernel_rfl) hS0 (fun _ => ?_)
        clear hr1c hr3 hoxc hoy
        generalize wc.drew = u0 at *
        refine takeD (i := 0) (v := .int .i64 a) (some 64) rfl rfl (by kernel_rfl) (by kernel_rfl) (by kernel_rfl) (fun _ _ _ h => h) (Or.inl ⟨by rfl, ?_⟩) hS0 ?_
        · rintro w' _
          go_simp
        try simp only [Act.put, List.setIfInBounds_toArray, List.set_cons_zero, List.set_cons_succ]
        refine takeD (i := 1) (v := .slice (some ⟨g3, 0, none⟩) M c3) (some 65) rfl rfl (by kernel_rfl) (by kernel_rfl) (by kernel_rfl) (fun _ _ _ h => h) (Or.inl ⟨by rfl, ?_⟩) hS0 ?_
        · rintro w' _
          go_simp
        try simp only [Act.put, List.setIfInBounds_toArray, List.set_cons_zero, List.set_cons_succ]
        refine takeD (i := 2) (v := .int .i64 M) (some 66) rfl rfl (by kernel_rfl) (by kernel_rfl) (by kernel_rfl) (fun _ _ _ h => h) (Or.inl ⟨by rfl, ?_⟩) hS0 ?_
        · rintro w' _
          go_simp
        try simp only [Act.put, List.setIfInBounds_toArray, List.set_cons_zero, List.set_cons_succ]
        refine takeD (i := 3) (v := .bool false) (some 67) rfl rfl (by kernel_rfl) (by kernel_rfl) (by kernel_rfl) (fun _ _ _ h => h) (Or.inl ⟨by rfl, ?_⟩) hS0 ?_
        · rintro w' _
          go_simp
        try simp only [Act.put, List.setIfInBounds_toArray, List.set_cons_zero, List.set_cons_succ]
        refine takeD (i := 4) (v := .bool false) (some 68) rfl rfl (by kernel_rfl) (by kernel_rfl) (by kernel_rfl) (fun _ _ _ h => h) (Or.inl ⟨by rfl, ?_⟩) hS0 ?_
        · rintro w' _
          go_simp
        try simp only [Act.put, List.setIfInBounds_toArray, List.set_cons_zero, List.set_cons_succ]
        refine takeD (i := 5) (v := .slice (some ⟨g1, 0, none⟩) N c1) (some 69) rfl rfl (by kernel_rfl) (by kernel_rfl) (by kernel_rfl) (fun _ _ _ h => h) (Or.inl ⟨by rfl, ?_⟩) hS0 ?_
        · rintro w' _
          go_simp
        try simp only [Act.put, List.setIfInBounds_toArray, List.set_cons_zero, List.set_cons_succ]
        refine takeD (i := 6) (v := .int .i64 i) (some 70) rfl rfl (by kernel_rfl) (by kernel_rfl) (by kernel_rfl) (fun _ _ _ h => h) (Or.inl ⟨by rfl, ?_⟩) hS0 ?_
        · rintro w' _
          go_simp
        try simp only [Act.put, List.setIfInBounds_toArray, List.set_cons_zero, List.set_cons_succ]
        refine takeD (i := 7) (v := .pointer (some ⟨g1, i * 13, none⟩)) (some 71) rfl rfl (by kernel_rfl) (by kernel_rfl) (by kernel_rfl) (fun _ _ _ h => h) (Or.inl ⟨by rfl, ?_⟩) hS0 ?_
        · rintro w' _
          go_simp
        try simp only [Act.put, List.setIfInBounds_toArray, List.set_cons_zero, List.set_cons_succ]
        refine takeD (i := 8) (v := .agg #[.int .i64 x.r.k, .int .i64 x.r.pr, .int .i64 x.r.to, .int .i64 x.r.po, .int .i64 x.r.x.v, .int .i64 x.r.x.m, .int .u8 x.r.x.b0, .int .u8 x.r.x.b1, .int .u8 x.r.x.b2, .int .u8 x.r.x.i0, .int .u8 x.r.x.i1, .int .u8 x.r.x.i2, .slice x.A x.r.os.length x.c]) (some 72) rfl rfl (by kernel_rfl) (by kernel_rfl) (by kernel_rfl) (fun _ _ _ h => h) (Or.inl ⟨by rfl, ?_⟩) hS0 ?_
        · rintro w' ⟨s0, _⟩
          have d0 := Vb.cell s0 (i * 13) (q0.trans rfl)
          have d1 := Vb.cell s0 (i * 13 + 1) (q1.trans rfl)
          have d2 := Vb.cell s0 (i * 13 + 2) (q2.trans rfl)
          have d3 := Vb.cell s0 (i * 13 + 3) (q3.trans rfl)
          have d4 := Vb.cell s0 (i * 13 + 4) (q4.trans rfl)
          have d5 := Vb.cell s0 (i * 13 + 5) (q5.trans rfl)
          have d6 := Vb.cell s0 (i * 13 + 6) (q6.trans rfl)
          have d7 := Vb.cell s0 (i * 13 + 7) (q7.trans rfl)
          have d8 := Vb.cell s0 (i * 13 + 8) (q8.trans rfl)
          have d9 := Vb.cell s0 (i * 13 + 9) (q9.trans rfl)
          have d10 := Vb.cell s0 (i * 13 + 10) (q10.trans rfl)
          have d11 := Vb.cell s0 (i * 13 + 11) (q11.trans rfl)
          have d12 := Vb.cell s0 (i * 13 + 12) (q12.trans rfl)
          go_simp
        try simp only [Act.put, List.setIfInBounds_toArray, List.set_cons_zero, List.set_cons_succ]
        refine takeD (i := 9) (v := .slice (some ⟨g3, 0, none⟩) M c3) (some 73) rfl rfl (by kernel_rfl) (by kernel_rfl) (by kernel_rfl) (fun _ _ _ h => h) (Or.inl ⟨by rfl, ?_⟩) hS0 ?_
        · rintro w' _
          go_simp
        try simp only [Act.put, List.setIfInBounds_toArray, List.set_cons_zero, List.set_cons_succ]
        refine takeD (i := 10) (v := .int .i64 a) (some 74) rfl rfl (by kernel_rfl) (by kernel_rfl) (by kernel_rfl) (fun _ _ _ h => h) (Or.inl ⟨by rfl, ?_⟩) hS0 ?_
        · rintro w' _
          go_simp
        try simp only [Act.put, List.setIfInBounds_toArray, List.set_cons_zero, List.set_cons_succ]
        refine takeD (i := 11) (v := .pointer (some ⟨g3, a * 13, none⟩)) (some 75) rfl rfl (by kernel_rfl) (by kernel_rfl) (by kernel_rfl) (fun _ _ _ h => h) (Or.inl ⟨by rfl, ?_⟩) hS0 ?_
        · rintro w' _
          go_simp
        try simp only [Act.put, List.setIfInBounds_toArray, List.set_cons_zero, List.set_cons_succ]
        refine takeD (i := 12) (v := .agg #[.int .i64 y.r.k, .int .i64 y.r.pr, .int .i64 y.r.to, .int .i64 y.r.po, .int .i64 y.r.x.v, .int .i64 y.r.x.m, .int .u8 y.r.x.b0, .int .u8 y.r.x.b1, .int .u8 y.r.x.b2, .int .u8 y.r.x.i0, .int .u8 y.r.x.i1, .int .u8 y.r.x.i2, .slice y.A y.r.os.length y.c]) (some 76) rfl rfl (by kernel_rfl) (by kernel_rfl) (by kernel_rfl) (fun _ _ _ h => h) (Or.inl ⟨by rfl, ?_⟩) hS0 ?_
        · rintro w' ⟨_, s0⟩
          have d0 := Vb.cell s0 (a * 13) (p0.trans rfl)
          have d1 := Vb.cell s0 (a * 13 + 1) (p1.trans rfl)
          have d2 := Vb.cell s0 (a * 13 + 2) (p2.trans rfl)
          have d3 := Vb.cell s0 (a * 13 + 3) (p3.trans rfl)
          have d4 := Vb.cell s0 (a * 13 + 4) (p4.trans rfl)
          have d5 := Vb.cell s0 (a * 13 + 5) (p5.trans rfl)
          have d6 := Vb.cell s0 (a * 13 + 6) (p6.trans rfl)
          have d7 := Vb.cell s0 (a * 13 + 7) (p7.trans rfl)
          have d8 := Vb.cell s0 (a * 13 + 8) (p8.trans rfl)
          have d9 := Vb.cell s0 (a * 13 + 9) (p9.trans rfl)
          have d10 := Vb.cell s0 (a * 13 + 10) (p10.trans rfl)
          have d11 := Vb.cell s0 (a * 13 + 11) (p11.trans rfl)
          have d12 := Vb.cell s0 (a * 13 + 12) (p12.trans rfl)
          go_simp
        try simp only [Act.put, List.setIfInBounds_toArray, List.set_cons_zero, List.set_cons_succ]
        refine wpAnyH_ready (rs := [13]) (by kernel_rfl) (by simp) ?_
        refine AllReadyH.cons rfl (fun K hK => ?_) AllReadyH.nil
        try rw [if_pos (by rfl)]
        go_simp
        go_at_call 29
        refine (sameIt_any x y hxy.out hoxd hoyd).mono ?_
        rintro e u1 ⟨rfl, hb1⟩
        have hS1 : (fun W => Rowb W g1 R1 ∧ Rowb W g3 R3) u1 := ⟨Vb.below hS0.1 hb1 (Vb.lt hS0.1), Vb.below hS0.2 hb1 (Vb.lt hS0.2)⟩
        have hbe := hbw.trans ((hbd.trans (hb1.mono hbd.size)).mono hbw.size)
        refine hK.out _ _ hS1 (fun _ => ?_)
        clear hK K hb1
        try simp only [Act.put, List.setIfInBounds_toArray, List.set_cons_zero, List.set_cons_succ]
        refine takeD (i := 14) (v := .bool false) (some 78) rfl rfl (by kernel_rfl) (by kernel_rfl) (by kernel_rfl) (fun _ _ _ h => h) (Or.inl ⟨by rfl, ?_⟩) hS1 ?_
        · rintro w' _
          go_simp
        try simp only [Act.put, List.setIfInBounds_toArray, List.set_cons_zero, List.set_cons_succ]
        refine takeD (i := 15) (v := .bool false) (some 79) rfl rfl (by kernel_rfl) (by kernel_rfl) (by kernel_rfl) (fun _ _ _ h => h) (Or.inl ⟨by rfl, ?_⟩) hS1 ?_
        · rintro w' _
          go_simp
        try simp only [Act.put, List.setIfInBounds_toArray, List.set_cons_zero, List.set_cons_succ]
        refine wpAnyH_done (by kernel_rfl) ?_ _
        clear q0 q1 q2 q3 q4 q5 q6 q7 q8 q9 q10 q11 q12 p0 p1 p2 p3 p4 p5 p6 p7 p8 p9 p10 p11 p12 hge hS0 hS1 hoxd hoyd hbd hbw
        go_wp2_with fail
        go_roundw
        case rel => exact ⟨i + 1, by go_num, by omega, by rw [← HS.out]; go_num, hbe⟩
        case measure => simp [intOf]; omega
      · obtain rfl : i = N := by omega
        have hfull : loosL mk (l.take i) = loosL mk l := by rw [List.take_of_length_le (by have := hN.out; omega)]
        rw [hfull, hM.out]
        clear hfull
        have hT := HT.out.below hb
        have hB := HB.out.trans (hb.mono HB.out.size)
        have hle := loosL_le (mk := mk) (l := l) (i := i)
        have hMi : M ≤ i := by have := hM.out; rw [List.take_of_length_le (by have := hN.out; omega)] at hle; omega
        have hsub : IntKind.i64.wrap ((i : Int) - (M : Int)) = ((i - M : Nat) : Int) := by have := HL64.out; have := hN.out; rw [IntKind.wrap_i64]; omega
        have hlm := hM.out
        replace hMi := Kp.mk hMi
        replace hle := Kp.mk hle
        clear hb
        go_wp2_with fail
        refine (ts_wipe hT).mono ?_
        rintro e w5 ⟨rfl, hT5, hK5⟩
        have hn5 := hB.size
        have ht5 := hT.size
        have hB5 := hB.trans ((hK5.below (by omega)).mono (by omega))
        clear hT hB hK5
        rw [hlm]
        go_wp2_with fail
        refine (ts_len hT5).mono ?_
        rintro e w6 ⟨rfl, rfl⟩
        go_wp2_with fail
        refine (ts_wipe hT5).mono ?_
        rintro e w7 ⟨rfl, hT7, hK7⟩
        have hn7 := hB5.size
        have ht7 := hT5.size
        have hB7 := hB5.trans ((hK7.below (by omega)).mono (by omega))
        clear hT5 hB5 hK7
        go_wp2_with fail
        refine (worksT_any _).mono ?_
        rintro e w8 ⟨rfl, hb8⟩
        go_wp2_with fail
        go_ret
        exact ⟨rfl, hB7.trans (hb8.mono hB7.size)⟩
theorem TableLoose_walk (ys : List It) (A : Option Addr) (n c : Nat) (z1 : List Int) (w : World) (h : Rp w w.heap.size A n c ys) (_ : ∀ y ∈ ys, MB y.r.x) (l1 : z1.length = 8) (h1 : ∀ p ∈ [IntKind.i64, .i64, .u8, .u8, .u8, .u8, .u8, .u8].zip z1, (Lit.int p.1 p.2).wf = true) :
    Calls Try.prog 6 #[.slice A n c, .agg (List.zipWith Value.int [.i64, .i64, .u8, .u8, .u8, .u8, .u8, .u8] z1).toArray] w fun e w' => e = .returned (.bool true) ∧ Below w.heap.size w w' := by
  obtain ⟨x, rfl, _⟩ := mask_of z1 l1 h1
  exact tableLoose_any h x
end Go.Proofs.Ytmigpmhppapkmaa.Oct
