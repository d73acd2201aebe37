/- Contracts of layer 6: Bytes, the program's. -/
import Derived.Test.YtnhjpiaenbhilaaOrdI
namespace Go.Proofs.Ytnhjpiaenbhilaa.Oct
open Go.RowKit
set_option linter.unusedVariables false
set_option linter.unusedSimpArgs false

section
variable {w : World} {base B lo g n c m n1 c1 : Nat} {S A A1 : Option Addr} {o : OrdV} {l : List Int}
theorem write_any (hb : Own w base (.slice A1 n1 c1) n1 l) (hbase : base ≤ w.heap.size) (hx : Vb 53 w g (ocl o (.slice S n c))) (h : Ro w B S n c o.r.os) (hB : B ≤ w.heap.size) (hR : Rn w lo g A m (numsOf o.k)) (ok : okOrd o) (h8 : u8M o.r.x) (hl : l.length ≤ 10) :
    Calls Try.prog 27 #[.agg #[.slice A m m, .pointer (ruP o.k g), .pointer (prP o.k g)], .slice A1 n1 c1] w (OwnOf base (l ++ restB o) w) := by
  obtain ⟨d0, d1, d2, d3, d4, d5, d6, d7, d8, d9, d10, d11, d12, d13, d14, d15, d16, d17, d18, d19, d20⟩ := hx.ord
  have hg := hx.lt
  obtain ⟨on, our, opr⟩ := ok
  unfold okNM at on
  unfold okRu at our
  unfold okPr at opr
  simp only [within] at on
  unfold ruP prP
  by_cases h2 : o.k = 2 ∨ o.k = 3
  · have hn : numsOf o.k = [] := by unfold numsOf; rw [if_neg (by omega), if_neg (by omega), if_neg (by omega), if_neg (by omega), if_neg (by omega)]
    rw [hn] at hR
    have hm := hR.1
    simp at hm
    subst hm
    rw [if_pos h2] at our
    rw [if_pos h2, if_neg (by omega), restB_r h2]
    exact wr_rule hb hbase A hx h hB our h8 hl
  rw [if_neg h2]
  by_cases h8k : o.k = 8
  · have hn : numsOf o.k = [] := by rw [h8k]; rfl
    rw [hn] at hR
    have hm := hR.1
    simp at hm
    subst hm
    rw [if_pos h8k] at opr
    rw [if_pos h8k, restB_8 h8k]
    exact wr_link hb hbase A hx opr.1 hl
  rw [if_neg h8k]

  by_cases h4k : o.k = 4
  · rw [h4k] at hR
    rw [restB_4 h4k]
    exact wr_1 hb hbase o.n 1 hR hg d1 rfl (by omega) ⟨by omega, by omega⟩ hl
  by_cases h5k : o.k = 5
  · rw [h5k] at hR
    rw [restB_5 h5k, ← List.append_assoc]
    exact wr_2 hb hbase o.n o.m 1 2 hR hg d1 rfl (by omega) ⟨by omega, by omega⟩ d2 rfl (by omega) ⟨by omega, by omega⟩ hl
  by_cases h6k : o.k = 6
  · rw [h6k] at hR
    rw [restB_6 h6k]
    exact wr_1 hb hbase o.n 4 hR hg d1 rfl (by omega) ⟨by omega, by omega⟩ hl
  by_cases h7k : o.k = 7
  · rw [h7k] at hR
    rw [restB_7 h7k, ← List.append_assoc]
    exact wr_2 hb hbase o.n o.m 4 2 hR hg d1 rfl (by omega) ⟨by omega, by omega⟩ d2 rfl (by omega) ⟨by omega, by omega⟩ hl
  by_cases h9k : o.k = 9
  · rw [h9k] at hR
    rw [restB_9 h9k, ← List.append_assoc]
    exact wr_2 hb hbase o.n o.m 1 1 hR hg d1 rfl (by omega) ⟨by omega, by omega⟩ d2 rfl (by omega) ⟨by omega, by omega⟩ hl
  have hn : numsOf o.k = [] := by unfold numsOf; rw [if_neg (by omega), if_neg (by omega), if_neg (by omega), if_neg (by omega), if_neg (by omega)]
  rw [hn] at hR
  have hm := hR.1
  simp at hm
  subst hm
  rw [restB_1 (by omega), List.append_nil]
  exact wr_none hb hbase A
end
set_option maxRecDepth 100000 in
set_option maxHeartbeats 3200000 in
theorem orderBytes_any {w : World} {B n c : Nat} {A : Option Addr} (o : OrdV) (h : Ro w B A n c o.r.os) (hB : B ≤ w.heap.size) (h8 : u8M o.r.x) : Calls Try.prog 8 #[.agg #[.int .i64 o.k, .int .i64 o.n, .int .i64 o.m, .int .i64 o.r.k, .int .i64 o.r.pr, .int .i64 o.r.to, .int .i64 o.r.po, .int .i64 o.r.x.v, .int .i64 o.r.x.m, .int .u8 o.r.x.b0, .int .u8 o.r.x.b1, .int .u8 o.r.x.b2, .int .u8 o.r.x.i0, .int .u8 o.r.x.i1, .int .u8 o.r.x.i2, .slice A n c, .int .i64 o.f, .int .i64 o.p, .int .i64 o.t, .int .i64 o.q, .int .i64 o.z]] w (PairOf (bytesO o).1 (bytesO o).2 w) := by
  by_cases ok : okOrd o
  · have hc := Kp.mk (checkO_yes ((okOrd_parts o).1 ok))
    have hp := Kp.mk (show bytesO o = (ordB o, 0) from if_pos ok)
    have hk := okNM_k ok.1
    have hq := Kp.mk (put_b1 [] o.k (by omega))
    have HOK := Kp.mk ok
    clear hk ok
    have hba := below_alloc w (.cells #[.int .i64 o.k, .int .i64 o.n, .int .i64 o.m, .int .i64 o.r.k, .int .i64 o.r.pr, .int .i64 o.r.to, .int .i64 o.r.po, .int .i64 o.r.x.v, .int .i64 o.r.x.m, .int .u8 o.r.x.b0, .int .u8 o.r.x.b1, .int .u8 o.r.x.b2, .int .u8 o.r.x.i0, .int .u8 o.r.x.i1, .int .u8 o.r.x.i2, .slice A n c, .int .i64 o.f, .int .i64 o.p, .int .i64 o.t, .int .i64 o.q, .int .i64 o.z] 32)
    have hza : w.heap.size < (w.alloc (.cells #[.int .i64 o.k, .int .i64 o.n, .int .i64 o.m, .int .i64 o.r.k, .int .i64 o.r.pr, .int .i64 o.r.to, .int .i64 o.r.po, .int .i64 o.r.x.v, .int .i64 o.r.x.m, .int .u8 o.r.x.b0, .int .u8 o.r.x.b1, .int .u8 o.r.x.b2, .int .u8 o.r.x.i0, .int .u8 o.r.x.i1, .int .u8 o.r.x.i2, .slice A n c, .int .i64 o.f, .int .i64 o.p, .int .i64 o.t, .int .i64 o.q, .int .i64 o.z] 32)).heap.size := by simp
    have hxa : Vb 32 (w.alloc (.cells #[.int .i64 o.k, .int .i64 o.n, .int .i64 o.m, .int .i64 o.r.k, .int .i64 o.r.pr, .int .i64 o.r.to, .int .i64 o.r.po, .int .i64 o.r.x.v, .int .i64 o.r.x.m, .int .u8 o.r.x.b0, .int .u8 o.r.x.b1, .int .u8 o.r.x.b2, .int .u8 o.r.x.i0, .int .u8 o.r.x.i1, .int .u8 o.r.x.i2, .slice A n c, .int .i64 o.f, .int .i64 o.p, .int .i64 o.t, .int .i64 o.q, .int .i64 o.z] 32)) w.heap.size (ocl o (.slice A n c)) := Vb.new 32 w (ocl o (.slice A n c))
    have ha := h.below' hba hB
    go_enter Try.func8, Try.ntmps8
    go_upto_region 1 with fail
    generalize (w.alloc (.cells #[.int .i64 o.k, .int .i64 o.n, .int .i64 o.m, .int .i64 o.r.k, .int .i64 o.r.pr, .int .i64 o.r.to, .int .i64 o.r.po, .int .i64 o.r.x.v, .int .i64 o.r.x.m, .int .u8 o.r.x.b0, .int .u8 o.r.x.b1, .int .u8 o.r.x.b2, .int .u8 o.r.x.i0, .int .u8 o.r.x.i1, .int .u8 o.r.x.i2, .slice A n c, .int .i64 o.f, .int .i64 o.p, .int .i64 o.t, .int .i64 o.q, .int .i64 o.z] 32)) = wa at *
    go_wp2_with (refine wpList_load_vb (vs := ocl o (.slice A n c)) rfl (.tmp 1) rfl rfl hxa rfl agg_order ?_)
    refine (orderCheck_any o ha (by omega)).mono ?_
    rw [hc.out]
    rintro e w1 ⟨rfl, hb1⟩
    have hz1 := hb1.size
    have hT1 := hba.trans (hb1.mono (by omega))
    have hx1 := hxa.below hb1 (by omega)
    have h1 := ha.below' hb1 (by omega)
    obtain ⟨d0, d1, d2, d3, d4, d5, d6, d7, d8, d9, d10, d11, d12, d13, d14, d15, d16, d17, d18, d19, d20⟩ := hx1.ord
    clear hxa hba hb1 ha
    go_wp2_with fail
    refine (put_lit 1 [o.k] (Rd.nil .u8 w1 0) (by omega) (by simp) (by simp)).mono ?_
    rw [hq.out]
    rintro e w2 ⟨A2, n2, c2, rfl, ho2, hb2⟩
    have hx2 := hx1.below hb2 (by omega)
    have h2 := h1.below' hb2 (by omega)
    have hz2 := hb2.size
    have hT2 := hT1.trans (hb2.mono (by omega))
    clear d0 d1 d2 d3 d4 d5 d6 d7 d8 d9 d10 d11 d12 d13 d14 d15 d16 d17 d18 d19 d20 hx1 hb2 hT1 h1
    go_upto_region 6 with (first | (refine wpList_load_vb (vs := ocl o (.slice A n c)) rfl (.tmp 1) rfl rfl hx2 rfl agg_order ?_) | (refine wpList_store_new (vs := ocl o (.slice A n c)) rfl (.tmp 7) (.tmp 22) rfl rfl rfl rfl rfl rfl agg_own rfl ?_; intro w3 hx3 hb3 hz3))
    have h3 := h2.below' hb3 (by omega)
    have ho3 := (ho2.keep_below hb3).lower (b := w.heap.size) (by omega)
    have hT3 := hT2.trans (hb3.mono (by omega))
    have hz3' : w2.heap.size < w3.heap.size := by omega
    clear hz3 hx2 ho2 hb3 h2 hT2
    go_wp2_with fail
    refine (partsOf_any w2.heap.size w3 o.k hx3.ord.1).mono ?_
    rintro e w4 ⟨Q, m, rfl, hR4, hb4⟩
    have hx4 := hx3.below hb4 (by omega)
    have h4 := h3.below' hb4 (by omega)
    have hz4 := hb4.size
    have ho4 := ho3.keep_below hb4
    have hT4 := hT3.trans (hb4.mono (by omega))
    have hbp := below_alloc w4 (.cells #[.slice Q m m, .pointer (ruP o.k w2.heap.size), .pointer (prP o.k w2.heap.size)] 58)
    have hv5 := Vb.new 58 w4 [.slice Q m m, .pointer (ruP o.k w2.heap.size), .pointer (prP o.k w2.heap.size)]
    have hx5 := hx4.below hbp (by omega)
    have h5 := h4.below' hbp (by omega)
    have hR5 := hR4.below hbp
    have ho5 := ho4.keep_below hbp
    have hT5 := hT4.trans (hbp.mono (by omega))
    have hz5 : w4.heap.size < (w4.alloc (.cells #[.slice Q m m, .pointer (ruP o.k w2.heap.size), .pointer (prP o.k w2.heap.size)] 58)).heap.size := by simp
    go_upto_region 7 with fail
    generalize w4.alloc (.cells #[.slice Q m m, .pointer (ruP o.k w2.heap.size), .pointer (prP o.k w2.heap.size)] 58) = w5 at *
    obtain ⟨d0, d1, d2⟩ := hv5.c3
    go_wp2_with fail
    refine (write_any ho5 (by omega) hx5 h5 (by omega) hR5 HOK.out h8 (by simp [dg_len])).mono ?_
    rintro e w6 ⟨A6, n6, c6, rfl, ho6, hb6⟩
    go_wp2_with fail
    rw [hp.out]
    go_ret2
    exact ⟨A6, n6, c6, rfl, ho6, hT5.trans (hb6.mono (by omega))⟩
  · have hc := Kp.mk (show checkO o = 2 from if_neg ok)
    have hp := Kp.mk (show bytesO o = ([], 2) from if_neg ok)
    clear ok
    have hba := below_alloc w (.cells #[.int .i64 o.k, .int .i64 o.n, .int .i64 o.m, .int .i64 o.r.k, .int .i64 o.r.pr, .int .i64 o.r.to, .int .i64 o.r.po, .int .i64 o.r.x.v, .int .i64 o.r.x.m, .int .u8 o.r.x.b0, .int .u8 o.r.x.b1, .int .u8 o.r.x.b2, .int .u8 o.r.x.i0, .int .u8 o.r.x.i1, .int .u8 o.r.x.i2, .slice A n c, .int .i64 o.f, .int .i64 o.p, .int .i64 o.t, .int .i64 o.q, .int .i64 o.z] 32)
    have hza : w.heap.size < (w.alloc (.cells #[.int .i64 o.k, .int .i64 o.n, .int .i64 o.m, .int .i64 o.r.k, .int .i64 o.r.pr, .int .i64 o.r.to, .int .i64 o.r.po, .int .i64 o.r.x.v, .int .i64 o.r.x.m, .int .u8 o.r.x.b0, .int .u8 o.r.x.b1, .int .u8 o.r.x.b2, .int .u8 o.r.x.i0, .int .u8 o.r.x.i1, .int .u8 o.r.x.i2, .slice A n c, .int .i64 o.f, .int .i64 o.p, .int .i64 o.t, .int .i64 o.q, .int .i64 o.z] 32)).heap.size := by simp
    have hxa : Vb 32 (w.alloc (.cells #[.int .i64 o.k, .int .i64 o.n, .int .i64 o.m, .int .i64 o.r.k, .int .i64 o.r.pr, .int .i64 o.r.to, .int .i64 o.r.po, .int .i64 o.r.x.v, .int .i64 o.r.x.m, .int .u8 o.r.x.b0, .int .u8 o.r.x.b1, .int .u8 o.r.x.b2, .int .u8 o.r.x.i0, .int .u8 o.r.x.i1, .int .u8 o.r.x.i2, .slice A n c, .int .i64 o.f, .int .i64 o.p, .int .i64 o.t, .int .i64 o.q, .int .i64 o.z] 32)) w.heap.size (ocl o (.slice A n c)) := Vb.new 32 w (ocl o (.slice A n c))
    have ha := h.below' hba hB
    go_enter Try.func8, Try.ntmps8
    go_upto_region 1 with fail
    generalize (w.alloc (.cells #[.int .i64 o.k, .int .i64 o.n, .int .i64 o.m, .int .i64 o.r.k, .int .i64 o.r.pr, .int .i64 o.r.to, .int .i64 o.r.po, .int .i64 o.r.x.v, .int .i64 o.r.x.m, .int .u8 o.r.x.b0, .int .u8 o.r.x.b1, .int .u8 o.r.x.b2, .int .u8 o.r.x.i0, .int .u8 o.r.x.i1, .int .u8 o.r.x.i2, .slice A n c, .int .i64 o.f, .int .i64 o.p, .int .i64 o.t, .int .i64 o.q, .int .i64 o.z] 32)) = wa at *
    go_wp2_with (refine wpList_load_vb (vs := ocl o (.slice A n c)) rfl (.tmp 1) rfl rfl hxa rfl agg_order ?_)
    refine (orderCheck_any o ha (by omega)).mono ?_
    rw [hc.out]
    rintro e w1 ⟨rfl, hb1⟩
    have hz1 := hb1.size
    have hT1 := hba.trans (hb1.mono (by omega))
    go_wp2_with fail
    rw [hp.out]
    go_ret2
    exact PairOf.nil 2 w hT1
end Go.Proofs.Ytnhjpiaenbhilaa.Oct
