/- Contracts of layer 6: a rule is read, the document's. -/
import Derived.Test.YteambkehdbffmaaGreatOrdO
import Derived.Test.YteambkehdbffmaaGreatOrdT
namespace Go.Proofs.YteambkehdbffmaaGreat.Oct
open Go.RowKit
set_option linter.unusedVariables false
set_option linter.unusedSimpArgs false

set_option maxRecDepth 100000 in
set_option maxHeartbeats 1600000 in
theorem refHeader_any {w : World} {lo g : Nat} {l l1 l2 l3 : List Int} {e e1 e2 e3 a b c : Int} (hR : Rdr 112 w lo g l e) (h1 : nu 1 (l, e) = (a, (l1, e1))) (h2 : nu 1 (l1, e1) = (b, (l2, e2))) (h3 : nu 1 (l2, e2) = (c, (l3, e3))) :
    Calls Tryz.prog 96 #[.pointer (some ⟨g, 0, none⟩)] w (AggRdr 112 w lo g [.int .u8 a, .int .u8 b, .int .u8 c] l3 e3) := by
  have hlt := hR.lt
  obtain ⟨⟨a1, a2⟩, hy1⟩ := nu1_bd hR.by_ h1
  obtain ⟨⟨b1, b2⟩, hy2⟩ := nu1_bd hy1 h2
  obtain ⟨⟨c1, c2⟩, hy3⟩ := nu1_bd hy2 h3
  have H1 := Kp.mk h1
  have H2 := Kp.mk h2
  have H3 := Kp.mk h3
  clear h1 h2 h3 hy1 hy2 hy3
  have au : a % 256 = a := by omega
  have bu : b % 256 = b := by omega
  have cu : c % 256 = c := by omega
  have hG0 : w.grownBy ((w.alloc (.cells #[.int .u8 0, .int .u8 0, .int .u8 0] 24)).alloc (.cells #[.int .u8 0, .int .u8 0, .int .u8 0] 24)) (some g) := grown_of_below (below_two w _ _) _
  have hR0 := hR.below (below_two w (.cells #[.int .u8 0, .int .u8 0, .int .u8 0] 24) (.cells #[.int .u8 0, .int .u8 0, .int .u8 0] 24))
  have hvR := (Vb.new 24 w [.int .u8 0, .int .u8 0, .int .u8 0]).alloc (.cells #[.int .u8 0, .int .u8 0, .int .u8 0] 24)
  have hvH := Vb.new 24 (w.alloc (.cells #[.int .u8 0, .int .u8 0, .int .u8 0] 24)) [.int .u8 0, .int .u8 0, .int .u8 0]
  rw [alloc_size] at hvH
  have hz0 : w.heap.size < ((w.alloc (.cells #[.int .u8 0, .int .u8 0, .int .u8 0] 24)).alloc (.cells #[.int .u8 0, .int .u8 0, .int .u8 0] 24)).heap.size := by simp; omega
  go_enter Tryz.func96, Tryz.ntmps96
  go_upto_region 2 with fail
  generalize ((w.alloc (.cells #[.int .u8 0, .int .u8 0, .int .u8 0] 24)).alloc (.cells #[.int .u8 0, .int .u8 0, .int .u8 0] 24)) = w0 at *
  go_wp2_with fail
  refine wp_loop_rounds (3 + 1) ?_
  rw [rounds_succ]
  go_wp2_with fail
  refine (refNum_eq 1 hR0 H1.out).mono ?_
  rintro en v1 ⟨rfl, hS1, hg1⟩
  have hvh1 := hvH.grown hg1 (by omega)
  have hvr1 := hvR.grown hg1 (by omega)
  have hGa1 := grown_trans2 hG0 hg1
  obtain ⟨d0, d1, d2⟩ := hvh1.c3
  have hf := hvh1.free
  go_upto_region 4 with fail
  clear d0 d1 d2 hf hvH hvR
  have hvH := hvh1.set 0 (.int .u8 a)
  have hvR := hvr1.other (r := w.heap.size + 1) (by omega) 0 (.int .u8 a)
  have hR1 := hS1.off' (w.heap.size + 1) 0 (.int .u8 a) (by omega)
  have hG1 := grown_set2 (o := 0) (u := .int .u8 a) hGa1 (Nat.le_succ w.heap.size)
  change Vb _ _ _ [.int .u8 a, .int .u8 0, .int .u8 0] at hvH
  generalize (v1.setCell ⟨w.heap.size + 1, 0, none⟩ (.int .u8 a)) = w1 at *
  clear hvh1 hvr1 hS1 hg1 hGa1
  go_wp2_with fail
  rw [rounds_succ]
  go_wp2_with fail
  refine (refNum_eq 1 hR1 H2.out).mono ?_
  rintro en v2 ⟨rfl, hS2, hg2⟩
  have hvh2 := hvH.grown hg2 (by omega)
  have hvr2 := hvR.grown hg2 (by omega)
  have hGa2 := grown_trans2 hG1 hg2
  obtain ⟨d0, d1, d2⟩ := hvh2.c3
  have hf := hvh2.free
  go_upto_region 4 with fail
  clear d0 d1 d2 hf hvH hvR
  have hvH := hvh2.set 1 (.int .u8 b)
  have hvR := hvr2.other (r := w.heap.size + 1) (by omega) 1 (.int .u8 b)
  have hR2 := hS2.off' (w.heap.size + 1) 1 (.int .u8 b) (by omega)
  have hG2 := grown_set2 (o := 1) (u := .int .u8 b) hGa2 (Nat.le_succ w.heap.size)
  change Vb _ _ _ [.int .u8 a, .int .u8 b, .int .u8 0] at hvH
  generalize (v2.setCell ⟨w.heap.size + 1, 1, none⟩ (.int .u8 b)) = w2 at *
  clear hvh2 hvr2 hS2 hg2 hGa2
  go_wp2_with fail
  rw [rounds_succ]
  go_wp2_with fail
  refine (refNum_eq 1 hR2 H3.out).mono ?_
  rintro en v3 ⟨rfl, hS3, hg3⟩
  have hvh3 := hvH.grown hg3 (by omega)
  have hvr3 := hvR.grown hg3 (by omega)
  have hGa3 := grown_trans2 hG2 hg3
  obtain ⟨d0, d1, d2⟩ := hvh3.c3
  have hf := hvh3.free
  go_upto_region 4 with fail
  clear d0 d1 d2 hf hvH hvR
  have hvH := hvh3.set 2 (.int .u8 c)
  have hvR := hvr3.other (r := w.heap.size + 1) (by omega) 2 (.int .u8 c)
  have hR3 := hS3.off' (w.heap.size + 1) 2 (.int .u8 c) (by omega)
  have hG3 := grown_set2 (o := 2) (u := .int .u8 c) hGa3 (Nat.le_succ w.heap.size)
  change Vb _ _ _ [.int .u8 a, .int .u8 b, .int .u8 c] at hvH
  generalize (v3.setCell ⟨w.heap.size + 1, 2, none⟩ (.int .u8 c)) = w3 at *
  clear hvh3 hvr3 hS3 hg3 hGa3
  go_wp2_with fail
  rw [rounds_succ]
  go_wp2_with (first | (refine wpList_load_vb (vs := [.int .u8 a, .int .u8 b, .int .u8 c]) rfl (.tmp 3) rfl rfl hvH rfl agg_header ?_) | (refine wpList_store_vb (vs := [.int .u8 a, .int .u8 b, .int .u8 c]) rfl (.tmp 2) (.tmp 14) rfl rfl rfl hvR rfl agg_header rfl ?_; intro w9 hv9 hg9 hz9))
  refine bodyPost_ret (results_one Tryz.results96 _ rfl hv9 agg_header) rfl ?_
  exact ⟨rfl, hR3.keep hg9 (fun k e => by simp at e; omega), grown_new hG3 hg9 (Nat.le_refl _)⟩
/-- Where something was wrong no more outputs come. -/
theorem outs_stop {t : St} {k : Nat} {os : List OutV} {lk : List Int} {ek : Int} (h : outsRd k t = (os, (lk, ek))) (he : ek ≠ 0) : ∀ n, k ≤ n → (outsRd n t).2 = (lk, ek) := by
  intro n hn
  induction n with
  | zero =>
    have : k = 0 := by omega
    subst this
    rw [h]
  | succ n ih =>
    by_cases hk : k = n + 1
    · subst hk; rw [h]
    · have := ih (by omega)
      rcases hq : outsRd n t with ⟨os', l', e'⟩
      rw [hq] at this
      simp only [Prod.mk.injEq] at this
      obtain ⟨rfl, rfl⟩ := this
      have := outs_step hq (nu_bad 1 l' e' he) (nu_bad 2 l' e' he) (nu_bad 2 l' e' he) (nu_bad 2 l' e' he)
      rw [this]
/-- A rule is read; if nothing was wrong it is this one. -/
def RuleRdr2 (T : TypeId) (w : World) (lo g : Nat) (r : RuleV) (l : List Int) (e : Int) (en : Ending) (w' : World) : Prop :=
  ∃ (r2 : RuleV) (A : Option Addr) (n c : Nat), (e = 0 → r2 = r) ∧ en = .returned (.agg #[.int .i64 r2.k, .int .i64 r2.pr, .int .i64 r2.to, .int .i64 r2.po, .int .i64 r2.x.v, .int .i64 r2.x.m, .int .u8 r2.x.b0, .int .u8 r2.x.b1, .int .u8 r2.x.b2, .int .u8 r2.x.i0, .int .u8 r2.x.i1, .int .u8 r2.x.i2, .slice A n c]) ∧ Ron w' w.heap.size A n c r2.os ∧ Rdr T w' lo g l e ∧ w.grownBy w' (some g)
theorem own_store {w w' : World} {base n X D : Nat} {v : Value} {os : List OutV} (h : Owo w base v n os) (hb : ∀ z, v.ownBlock = some z → z < X) (hd : D < X) (hg : w.grownBy w' (some X)) : Owo w' base v n os :=
  World.ownsRow.kept h hg (by
    cases hv : v.ownBlock with
    | none => exact .inl rfl
    | some k => exact .inr (fun e => by simp at e; have := hb k hv; omega))
set_option maxRecDepth 100000 in
set_option maxHeartbeats 3200000 in
theorem takeRule_any {w : World} {lo g : Nat} {l l' : List Int} {e e' : Int} {r : RuleV} (hR : Rdr 112 w lo g l e) (hq : ruleRd (l, e) = (r, (l', e'))) : Calls Tryz.prog 83 #[.pointer (some ⟨g, 0, none⟩)] w (RuleRdr2 112 w lo g r l' e') := by
  have hlt := hR.lt
  obtain ⟨l1, e1, l2, e2, l3, e3, l4, e4, h1, h2, h3, h4, hd⟩ := rule_parts hq
  have H1 := Kp.mk h1
  have H2 := Kp.mk h2
  have H3 := Kp.mk h3
  have H4 := Kp.mk h4
  clear h1 h2 h3 h4 hq
  rcases hd with ⟨hk, l5, e5, v, l6, e6, h5, h6, h7⟩ | ⟨hk, hx, ho, rfl, rfl⟩
  · have k1 : (r.k != 1) = false := by rw [bne, hk]; rfl
    have hy4 : By l4 := (nu1_bd (nu1_bd (nu2_bd (nu1_bd hR.by_ H1.out).2 H2.out).2 H3.out).2 H4.out).2
    obtain ⟨m, m1, x1, m2, x2, m3, x3, m4, x4, m5, x5, m6, x6, m7, x7, q1, q2, hm, q3, q4, q5, q6, q7, q8⟩ := mask_parts h5
    obtain ⟨⟨a1, a2⟩, hya⟩ := nu1_bd hy4 q1
    obtain ⟨⟨b1, b2⟩, hyb⟩ := nu1_bd hya q2
    have hy5 : By l5 := (nu1_bd (nu1_bd (nu1_bd (nu1_bd (nu1_bd (nu1_bd hyb q3).2 q4).2 q5).2 q6).2 q7).2 q8).2
    obtain ⟨⟨v1, v2⟩, hy6⟩ := nu1_bd hy5 h6
    obtain ⟨n, rfl⟩ : ∃ n : Nat, v = n := ⟨v.toNat, by omega⟩
    rw [Int.toNat_natCast] at h7
    have hn : n ≤ 255 := by omega
    have H5 := Kp.mk h5
    have H6 := Kp.mk h6
    have H7 := Kp.mk h7
    have Q1 := Kp.mk q1
    have Q2 := Kp.mk q2
    have Q3 := Kp.mk q3
    have Q4 := Kp.mk q4
    have Q5 := Kp.mk q5
    have Q6 := Kp.mk q6
    have Q7 := Kp.mk q7
    have Q8 := Kp.mk q8
    have HM := Kp.mk (show m - 1 = r.x.m by omega)
    have HK := Kp.mk hk
    clear hk h5 h6 h7 q1 q2 q3 q4 q5 q6 q7 q8 hm hya hyb hy4 hy5 hy6 v1 v2
    have hz0 : w.heap.size < (w.alloc (.cells #[.int .i64 0, .int .i64 0, .int .i64 0, .int .i64 0, .int .i64 0, .int .i64 0, .int .u8 0, .int .u8 0, .int .u8 0, .int .u8 0, .int .u8 0, .int .u8 0, .slice none 0 0] 29)).heap.size := by simp
    have hG0 : w.grownBy (w.alloc (.cells #[.int .i64 0, .int .i64 0, .int .i64 0, .int .i64 0, .int .i64 0, .int .i64 0, .int .u8 0, .int .u8 0, .int .u8 0, .int .u8 0, .int .u8 0, .int .u8 0, .slice none 0 0] 29)) (some g) := grown_alloc w _ g
    have hR0 := hR.below (below_alloc w (.cells #[.int .i64 0, .int .i64 0, .int .i64 0, .int .i64 0, .int .i64 0, .int .i64 0, .int .u8 0, .int .u8 0, .int .u8 0, .int .u8 0, .int .u8 0, .int .u8 0, .slice none 0 0] 29))
    have hv0 := Vb.new 29 w [.int .i64 0, .int .i64 0, .int .i64 0, .int .i64 0, .int .i64 0, .int .i64 0, .int .u8 0, .int .u8 0, .int .u8 0, .int .u8 0, .int .u8 0, .int .u8 0, .slice none 0 0]
    go_enter Tryz.func83, Tryz.ntmps83
    go_upto_region 1 with fail
    generalize (w.alloc (.cells #[.int .i64 0, .int .i64 0, .int .i64 0, .int .i64 0, .int .i64 0, .int .i64 0, .int .u8 0, .int .u8 0, .int .u8 0, .int .u8 0, .int .u8 0, .int .u8 0, .slice none 0 0] 29)) = w0 at *
    go_wp2_with fail
    refine (refNum_eq 1 hR0 H1.out).mono ?_
    rintro en w1 ⟨rfl, hR1, hg1⟩
    have hv1 := hv0.grown hg1 (by omega)
    have hG1 := grown_trans2 hG0 hg1
    have hz1 := hg1.size
    clear hv0 hR0 hG0 hg1
    go_wp2_with fail
    refine (refNum_eq 2 hR1 H2.out).mono ?_
    rintro en w2 ⟨rfl, hR2, hg2⟩
    have hv2 := hv1.grown hg2 (by omega)
    have hG2 := grown_trans2 hG1 hg2
    have hz2 := hg2.size
    clear hv1 hR1 hG1 hg2
    go_wp2_with fail
    refine (refNum_eq 1 hR2 H3.out).mono ?_
    rintro en w3 ⟨rfl, hR3, hg3⟩
    have hv3 := hv2.grown hg3 (by omega)
    have hG3 := grown_trans2 hG2 hg3
    have hz3 := hg3.size
    clear hv2 hR2 hG2 hg3
    go_wp2_with fail
    refine (refNum_eq 1 hR3 H4.out).mono ?_
    rintro en w4 ⟨rfl, hR4, hg4⟩
    have hv4 := hv3.grown hg4 (by omega)
    have hG4 := grown_trans2 hG3 hg4
    have hz4 := hg4.size
    clear hv3 hR3 hG3 hg4
    have hzw : w.heap.size < w4.heap.size := by omega
    go_upto_region 2 with (refine wpList_store_new (vs := [.int .i64 r.k, .int .i64 r.pr, .int .i64 r.to, .int .i64 r.po, .int .i64 0, .int .i64 0, .int .u8 0, .int .u8 0, .int .u8 0, .int .u8 0, .int .u8 0, .int .u8 0, .slice none 0 0]) rfl (.tmp 3) (.tmp 16) rfl rfl rfl rfl rfl rfl agg_rule rfl ?_; intro w5 hD5 hb5 hz5)
    have hv5 := hv4.below hb5 hv4.lt
    have hR5 := hR4.below hb5
    have hG5 := grown_below hG4 hb5
    have hz5' : w4.heap.size < w5.heap.size := by omega
    generalize w4.heap.size = Dk at *
    clear hv4 hR4 hG4 hb5 hz5
    obtain ⟨d0, d1, d2, d3, d4, d5, d6, d7, d8, d9, d10, d11, d12⟩ := hD5.c13
    go_wp2_with fail
    refine (refNum_eq 1 hR5 Q1.out).mono ?_
    rintro en u1 ⟨rfl, hR6, hg6⟩
    have hD6 := hD5.grown hg6 (by omega)
    have hv6 := hv5.grown hg6 (by omega)
    have hG6 := grown_trans2 hG5 hg6
    have hy1 := hg6.size
    clear d0 d1 d2 d3 d4 d5 d6 d7 d8 d9 d10 d11 d12 hD5 hv5 hG5 hg6 hR5
    go_wp2_with fail
    refine (refNum_eq 1 hR6 Q2.out).mono ?_
    rintro en u2 ⟨rfl, hR7, hg7⟩
    have hD7 := hD6.grown hg7 (by omega)
    have hv7 := hv6.grown hg7 (by omega)
    have hG7 := grown_trans2 hG6 hg7
    have hy2 := hg7.size
    clear hD6 hv6 hG6 hg7 hR6
    go_wp2_with fail
    refine (refHeader_any hR7 Q3.out Q4.out Q5.out).mono ?_
    rintro en u3 ⟨rfl, hR8, hg8⟩
    have hD8 := hD7.grown hg8 (by omega)
    have hv8 := hv7.grown hg8 (by omega)
    have hG8 := grown_trans2 hG7 hg8
    have hy3 := hg8.size
    clear hD7 hv7 hG7 hg8 hR7
    go_wp2_with fail
    refine (refHeader_any hR8 Q6.out Q7.out Q8.out).mono ?_
    rintro en u4 ⟨rfl, hR9, hg9⟩
    have hD9 := hD8.grown hg9 (by omega)
    have hv9 := hv8.grown hg9 (by omega)
    have hG9 := grown_trans2 hG8 hg9
    have hy4 := hg9.size
    clear hD8 hv8 hG8 hg9 hR8
    go_upto_region 5 with (refine wpList_store_at (vs := [.int .i64 r.x.v, .int .i64 r.x.m, .int .u8 r.x.b0, .int .u8 r.x.b1, .int .u8 r.x.b2, .int .u8 r.x.i0, .int .u8 r.x.i1, .int .u8 r.x.i2]) rfl (.tmp 31) (.tmp 30) rfl rfl (by first | rfl | (simp only [HM.out]; rfl)) hD9 (by simp) agg_mask rfl ?_; intro u5 hDa hga hza)
    change Vb _ _ _ [.int .i64 r.k, .int .i64 r.pr, .int .i64 r.to, .int .i64 r.po, .int .i64 r.x.v, .int .i64 r.x.m, .int .u8 r.x.b0, .int .u8 r.x.b1, .int .u8 r.x.b2, .int .u8 r.x.i0, .int .u8 r.x.i1, .int .u8 r.x.i2, .slice none 0 0] at hDa
    have hva := hv9.grown hga (by omega)
    have hRa := hR9.keep hga (fun k e => by simp at e; omega)
    have hGa := grown_new hG9 hga (by omega)
    have hza' : w5.heap.size ≤ u5.heap.size := by omega
    clear hD9 hv9 hR9 hG9 hga hza hy1 hy2 hy3 hy4
    go_wp2_with fail
    refine (refNum_eq 1 hRa H6.out).mono ?_
    rintro en u6 ⟨rfl, hRb, hgb⟩
    have hDb := hDa.grown hgb (by omega)
    have hvb := hva.grown hgb (by omega)
    have hGb := grown_trans2 hGa hgb
    have hzb := hgb.size
    clear hDa hva hGa hgb hRa
    go_wp2_with fail
    go_loopw [5] (fun i wr => ∃ (k : Nat) (ok : List OutV) (lk : List Int) (ek : Int) (Ak : Option Addr) (ck : Nat), k ≤ n ∧ i = .int .i64 k ∧ Kp (outsRd k (l6, e6) = (ok, (lk, ek))) ∧ Rdr 112 wr lo g lk ek ∧ Vb 29 wr Dk [.int .i64 r.k, .int .i64 r.pr, .int .i64 r.to, .int .i64 r.po, .int .i64 r.x.v, .int .i64 r.x.m, .int .u8 r.x.b0, .int .u8 r.x.b1, .int .u8 r.x.b2, .int .u8 r.x.i0, .int .u8 r.x.i1, .int .u8 r.x.i2, .slice Ak k ck] ∧ Vb 29 wr w.heap.size [.int .i64 0, .int .i64 0, .int .i64 0, .int .i64 0, .int .i64 0, .int .i64 0, .int .u8 0, .int .u8 0, .int .u8 0, .int .u8 0, .int .u8 0, .int .u8 0, .slice none 0 0] ∧ Owo wr (Dk + 1) (.slice Ak k ck) k ok ∧ w.grownBy wr (some g)) (fun i _ => n - (intOf i).toNat)
    case atStart => exact ⟨0, [], l6, e6, none, 0, by omega, rfl, Kp.mk rfl, hRb, hDb, hvb, Owo.nil _ _, hGb⟩
    case round =>
      clear hRb hDb hvb hGb
      obtain ⟨k, ok, lk, ek, Ak, ck, hk, rfl, HS, hR, hD, hv, hO, hG⟩ := hrel
      have hz := hG.size
      have hDl := hD.lt
      by_cases hltn : k < n
      rotate_left
      · obtain rfl : k = n := by omega
        have he := HS.out.symm.trans H7.out
        simp only [Prod.mk.injEq] at he
        obtain ⟨ho, rfl, rfl⟩ := he
        have HO := Kp.mk ho
        clear ho
        go_wp2_with (first | (refine wpList_load_vb (vs := [.int .i64 r.k, .int .i64 r.pr, .int .i64 r.to, .int .i64 r.po, .int .i64 r.x.v, .int .i64 r.x.m, .int .u8 r.x.b0, .int .u8 r.x.b1, .int .u8 r.x.b2, .int .u8 r.x.i0, .int .u8 r.x.i1, .int .u8 r.x.i2, .slice Ak k ck]) rfl (.tmp 3) rfl rfl hD rfl agg_rule ?_) | (refine wpList_store_vb (vs := [.int .i64 r.k, .int .i64 r.pr, .int .i64 r.to, .int .i64 r.po, .int .i64 r.x.v, .int .i64 r.x.m, .int .u8 r.x.b0, .int .u8 r.x.b1, .int .u8 r.x.b2, .int .u8 r.x.i0, .int .u8 r.x.i1, .int .u8 r.x.i2, .slice Ak k ck]) rfl (.tmp 2) (.tmp 63) rfl rfl rfl hv rfl agg_rule rfl ?_; intro w9 hv9 hg9 hz9))
        refine bodyPost_ret (results_one Tryz.results83 _ rfl hv9 agg_rule) rfl ?_
        have hO9 := hO.keep hg9 (by omega)
        have hR9 := hR.keep hg9 (fun k e => by simp at e; omega)
        have hG9 := grown_new hG hg9 (Nat.le_refl _)
        exact ⟨r, Ak, k, ck, fun _ => rfl, rfl, by rw [← HO.out]; exact (hO9.ron).lower (by omega), hR9, hG9⟩
      have j1 : (k : Int) < n := by omega
      by_cases he : ek = 0
      rotate_left
      · have hst := outs_stop HS.out he n (by omega)
        rw [H7.out] at hst
        simp only [Prod.mk.injEq] at hst
        obtain ⟨rfl, rfl⟩ := hst
        have hne : (e' == 0) = false := beq_eq_false_iff_ne.2 he
        have HE := Kp.mk he
        clear he
        go_wp2_with fail
        refine (refErr_any hR).mono ?_
        rintro en wq ⟨rfl, rfl⟩
        go_wp2_with (first | (refine wpList_load_vb (vs := [.int .i64 r.k, .int .i64 r.pr, .int .i64 r.to, .int .i64 r.po, .int .i64 r.x.v, .int .i64 r.x.m, .int .u8 r.x.b0, .int .u8 r.x.b1, .int .u8 r.x.b2, .int .u8 r.x.i0, .int .u8 r.x.i1, .int .u8 r.x.i2, .slice Ak k ck]) rfl (.tmp 3) rfl rfl hD rfl agg_rule ?_) | (refine wpList_store_vb (vs := [.int .i64 r.k, .int .i64 r.pr, .int .i64 r.to, .int .i64 r.po, .int .i64 r.x.v, .int .i64 r.x.m, .int .u8 r.x.b0, .int .u8 r.x.b1, .int .u8 r.x.b2, .int .u8 r.x.i0, .int .u8 r.x.i1, .int .u8 r.x.i2, .slice Ak k ck]) rfl (.tmp 2) (.tmp 63) rfl rfl rfl hv rfl agg_rule rfl ?_; intro w9 hv9 hg9 hz9))
        refine bodyPost_ret (results_one Tryz.results83 _ rfl hv9 agg_rule) rfl ?_
        have hO9 := hO.keep hg9 (by omega)
        have hR9 := hR.keep hg9 (fun k e => by simp at e; omega)
        have hG9 := grown_new hG hg9 (Nat.le_refl _)
        exact ⟨⟨r.k, r.pr, r.to, r.po, r.x, ok⟩, Ak, k, ck, fun h => absurd h HE.out, rfl, (hO9.ron).lower (by omega), hR9, hG9⟩
      subst he
      rcases hp : nu 1 (lk, 0) with ⟨p, y1, x1⟩
      rcases ha : nu 2 (y1, x1) with ⟨a, y2, x2⟩
      rcases hb : nu 2 (y2, x2) with ⟨b, y3, x3⟩
      rcases hc : nu 2 (y3, x3) with ⟨c, y4, x4⟩
      have HN := Kp.mk (outs_step HS.out hp ha hb hc)
      obtain ⟨⟨p1, p2⟩, hy1⟩ := nu1_bd hR.by_ hp
      obtain ⟨⟨q1, q2⟩, hy2⟩ := nu2_bd hy1 ha
      obtain ⟨⟨q3, q4⟩, hy3⟩ := nu2_bd hy2 hb
      obtain ⟨⟨q5, q6⟩, hy4⟩ := nu2_bd hy3 hc
      have Hp := Kp.mk hp
      have Ha := Kp.mk ha
      have Hb := Kp.mk hb
      have Hc := Kp.mk hc
      clear hp ha hb hc hy1 hy2 hy3 hy4 p1 p2
      go_wp2_with fail
      refine (refErr_any hR).mono ?_
      rintro en wq ⟨rfl, rfl⟩
      go_wp2_with fail
      refine (refNum_eq 1 hR Hp.out).mono ?_
      rintro en t1 ⟨rfl, hR1, hg1⟩
      have hD1 := hD.grown hg1 (by omega)
      have hv1 := hv.grown hg1 (by omega)
      have hO1 := hO.keep hg1 (by omega)
      have hG1 := grown_trans2 hG hg1
      have hz1 := hg1.size
      go_upto_region 10 with (refine wpList_store_new (vs := [.int .i64 p, .int .i64 0, .int .i64 0, .int .i64 0]) rfl (.tmp 6) (.tmp 46) rfl rfl rfl rfl rfl rfl agg_out rfl ?_; intro t2 hX2 hb2 hz2)
      have hD2 := hD1.below hb2 hD1.lt
      have hv2 := hv1.below hb2 hv1.lt
      have hO2 := hO1.below hb2
      have hR2 := hR1.below hb2
      have hG2 := grown_below hG1 hb2
      have hz2' : t1.heap.size < t2.heap.size := by omega
      have hxb : Dk < t1.heap.size := by omega
      have HB : Kp (∀ z, (Value.slice Ak k ck).ownBlock = some z → z < t1.heap.size) := Kp.mk (fun z hz => by have := (World.ownsRow.lt hO1 z hz).2; omega)
      generalize t1.heap.size = Xk at *
      clear hD1 hv1 hO1 hR1 hG1 hb2 hz2 hg1 hD hv hO hR hG
      go_wp2_with fail
      refine wp_loop_rounds (3 + 1) ?_
      rw [rounds_succ]
      go_wp2_with fail
      refine (refNum_eq 2 hR2 Ha.out).mono ?_
      rintro en s3 ⟨rfl, hQ, hg⟩
      have hD := hD2.grown hg (by omega)
      have hv := hv2.grown hg (by omega)
      have hO := hO2.keep hg (by omega)
      have hG := grown_trans2 hG2 hg
      have hX := hX2.grown hg (by omega)
      have hzs := hg.size
      obtain ⟨d0, d1, d2, d3⟩ := hX.c4
      have hf := hX.free
      go_upto_region 12 with fail
      clear d0 d1 d2 d3 hf
      have hX3 := hX.set 1 (.int .i64 (a - 1))
      change Vb _ _ _ [.int .i64 p, .int .i64 (a - 1), .int .i64 0, .int .i64 0] at hX3
      have hgs := grownBy_set s3 Xk 1 (.int .i64 (a - 1))
      have hD3 := hD.grown hgs (by omega)
      have hv3 := hv.grown hgs (by omega)
      have hR3 := hQ.keep hgs (fun k e => by simp at e; omega)
      have hG3 := grown_new hG hgs (by omega)
      have hO3 := own_store hO (HB.out) (by omega : Dk < Xk) hgs
      have hzt3 : Xk < (s3.setCell ⟨Xk, 1, none⟩ (.int .i64 (a - 1))).heap.size := hX3.lt
      generalize (s3.setCell ⟨Xk, 1, none⟩ (.int .i64 (a - 1))) = t3 at *
      clear hX hD hv hO hG hQ hg hgs hzs
      go_wp2_with fail
      rw [rounds_succ]
      go_wp2_with fail
      refine (refNum_eq 2 hR3 Hb.out).mono ?_
      rintro en s4 ⟨rfl, hQ, hg⟩
      have hD := hD3.grown hg (by omega)
      have hv := hv3.grown hg (by omega)
      have hO := hO3.keep hg (by omega)
      have hG := grown_trans2 hG3 hg
      have hX := hX3.grown hg (by omega)
      have hzs := hg.size
      obtain ⟨d0, d1, d2, d3⟩ := hX.c4
      have hf := hX.free
      go_upto_region 12 with fail
      clear d0 d1 d2 d3 hf
      have hX4 := hX.set 2 (.int .i64 (b - 1))
      change Vb _ _ _ [.int .i64 p, .int .i64 (a - 1), .int .i64 (b - 1), .int .i64 0] at hX4
      have hgs := grownBy_set s4 Xk 2 (.int .i64 (b - 1))
      have hD4 := hD.grown hgs (by omega)
      have hv4 := hv.grown hgs (by omega)
      have hR4 := hQ.keep hgs (fun k e => by simp at e; omega)
      have hG4 := grown_new hG hgs (by omega)
      have hO4 := own_store hO (HB.out) (by omega : Dk < Xk) hgs
      have hzt4 : Xk < (s4.setCell ⟨Xk, 2, none⟩ (.int .i64 (b - 1))).heap.size := hX4.lt
      generalize (s4.setCell ⟨Xk, 2, none⟩ (.int .i64 (b - 1))) = t4 at *
      clear hX hD hv hO hG hQ hg hgs hzs
      go_wp2_with fail
      rw [rounds_succ]
      go_wp2_with fail
      refine (refNum_eq 2 hR4 Hc.out).mono ?_
      rintro en s5 ⟨rfl, hQ, hg⟩
      have hD := hD4.grown hg (by omega)
      have hv := hv4.grown hg (by omega)
      have hO := hO4.keep hg (by omega)
      have hG := grown_trans2 hG4 hg
      have hX := hX4.grown hg (by omega)
      have hzs := hg.size
      obtain ⟨d0, d1, d2, d3⟩ := hX.c4
      have hf := hX.free
      go_upto_region 12 with fail
      clear d0 d1 d2 d3 hf
      have hX5 := hX.set 3 (.int .i64 (c - 1))
      change Vb _ _ _ [.int .i64 p, .int .i64 (a - 1), .int .i64 (b - 1), .int .i64 (c - 1)] at hX5
      have hgs := grownBy_set s5 Xk 3 (.int .i64 (c - 1))
      have hD5 := hD.grown hgs (by omega)
      have hv5 := hv.grown hgs (by omega)
      have hR5 := hQ.keep hgs (fun k e => by simp at e; omega)
      have hG5 := grown_new hG hgs (by omega)
      have hO5 := own_store hO (HB.out) (by omega : Dk < Xk) hgs
      have hzt5 : Xk < (s5.setCell ⟨Xk, 3, none⟩ (.int .i64 (c - 1))).heap.size := hX5.lt
      generalize (s5.setCell ⟨Xk, 3, none⟩ (.int .i64 (c - 1))) = t5 at *
      clear hX hD hv hO hG hQ hg hgs hzs
      go_wp2_with fail
      rw [rounds_succ]
      skip
      have d12 := hD5.cell 12 rfl
      obtain ⟨d0, d1, d2, d3⟩ := hX5.c4
      have hrl : Ro (t5.alloc (.cells #[.int .i64 p, .int .i64 (a - 1), .int .i64 (b - 1), .int .i64 (c - 1)] 32)) (t5.heap.size + 1) (some ⟨t5.heap.size, 0, none⟩) 1 1 [⟨p, a - 1, b - 1, c - 1⟩] := by
        have := (Ron.of_vb (lo := 0) (os := [(⟨p, a - 1, b - 1, c - 1⟩ : OutV)]) (Vb.new 32 t5 (([(⟨p, a - 1, b - 1, c - 1⟩ : OutV)]).flatMap ocs)) (Nat.zero_le _) (by simp)).ro
        have h9 := (Ron.of_vb (lo := 0) (os := [(⟨p, a - 1, b - 1, c - 1⟩ : OutV)]) (Vb.new 32 t5 (([(⟨p, a - 1, b - 1, c - 1⟩ : OutV)]).flatMap ocs)) (Nat.zero_le _) (by simp)).ro
        rw [alloc_size] at h9
        exact h9
      have hba := below_alloc t5 (.cells #[.int .i64 p, .int .i64 (a - 1), .int .i64 (b - 1), .int .i64 (c - 1)] 32)
      have hOa := hO5.below hba
      have hDa := hD5.below hba hD5.lt
      have hva := hv5.below hba hv5.lt
      have hRa := hR5.below hba
      have hGa := grown_below hG5 hba
      have hza : Dk < (t5.alloc (.cells #[.int .i64 p, .int .i64 (a - 1), .int .i64 (b - 1), .int .i64 (c - 1)] 32)).heap.size := by simp; omega
      have hda := hDa.cell 12 rfl
      have hfa := hDa.free
      go_upto_region 8 with (at_builtin; refine wpList_appendO rfl (.tmp 58) (.tmp 60) rfl rfl hOa rfl hrl (by omega) (by omega) ?_; intro Ab cb t6 hO6 hb6 hg6; have hD6 := hOa.other hg6 hDa (by omega); have hf6 := hD6.free; have hd6 := hD6.cell 12 rfl)
      have hv6 := hOa.other hg6 hva (by omega)
      have hR6 := hOa.rdr hg6 hRa (by omega)
      have hG6 := hOa.grow hg6 hGa (by omega)
      have hD7 := hD6.set 12 (.slice Ab (k + 1) cb)
      change Vb _ _ _ [.int .i64 r.k, .int .i64 r.pr, .int .i64 r.to, .int .i64 r.po, .int .i64 r.x.v, .int .i64 r.x.m, .int .u8 r.x.b0, .int .u8 r.x.b1, .int .u8 r.x.b2, .int .u8 r.x.i0, .int .u8 r.x.i1, .int .u8 r.x.i2, .slice Ab (k + 1) cb] at hD7
      have hgs := grownBy_set t6 Dk 12 (.slice Ab (k + 1) cb)
      have hv7 := hv6.grown hgs (by omega)
      have hR7 := hR6.keep hgs (fun k e => by simp at e; omega)
      have hG7 := grown_new hG6 hgs (by omega)
      have hO7 := hO6.keep hgs (by omega)
      generalize (t6.setCell ⟨Dk, 12, none⟩ (.slice Ab (k + 1) cb)) = t7 at *
      clear d0 d1 d2 d3 d12 hda hfa hf6 hd6 hD6 hgs hv6 hR6 hG6 hO6 hb6 hg6 hD5 hX5 hv5 hR5 hG5 hO5 hDa hva hRa hGa hOa hba hrl
      go_wp2_with fail
      go_roundw
      case rel => exact ⟨k + 1, _, y4, x4, Ab, cb, by omega, by go_num, HN, hR7, hD7, hv7, hO7, hG7⟩
      case measure => simp [intOf]; omega
  · have k1 : (r.k != 1) = true := by rw [bne, beq_eq_false_iff_ne.2 hk]; rfl
    have HX := Kp.mk hx
    have HO := Kp.mk ho
    clear hk hx ho
    have hz0 : w.heap.size < (w.alloc (.cells #[.int .i64 0, .int .i64 0, .int .i64 0, .int .i64 0, .int .i64 0, .int .i64 0, .int .u8 0, .int .u8 0, .int .u8 0, .int .u8 0, .int .u8 0, .int .u8 0, .slice none 0 0] 29)).heap.size := by simp
    have hG0 : w.grownBy (w.alloc (.cells #[.int .i64 0, .int .i64 0, .int .i64 0, .int .i64 0, .int .i64 0, .int .i64 0, .int .u8 0, .int .u8 0, .int .u8 0, .int .u8 0, .int .u8 0, .int .u8 0, .slice none 0 0] 29)) (some g) := grown_alloc w _ g
    have hR0 := hR.below (below_alloc w (.cells #[.int .i64 0, .int .i64 0, .int .i64 0, .int .i64 0, .int .i64 0, .int .i64 0, .int .u8 0, .int .u8 0, .int .u8 0, .int .u8 0, .int .u8 0, .int .u8 0, .slice none 0 0] 29))
    have hv0 := Vb.new 29 w [.int .i64 0, .int .i64 0, .int .i64 0, .int .i64 0, .int .i64 0, .int .i64 0, .int .u8 0, .int .u8 0, .int .u8 0, .int .u8 0, .int .u8 0, .int .u8 0, .slice none 0 0]
    go_enter Tryz.func83, Tryz.ntmps83
    go_upto_region 1 with fail
    generalize (w.alloc (.cells #[.int .i64 0, .int .i64 0, .int .i64 0, .int .i64 0, .int .i64 0, .int .i64 0, .int .u8 0, .int .u8 0, .int .u8 0, .int .u8 0, .int .u8 0, .int .u8 0, .slice none 0 0] 29)) = w0 at *
    go_wp2_with fail
    refine (refNum_eq 1 hR0 H1.out).mono ?_
    rintro en w1 ⟨rfl, hR1, hg1⟩
    have hv1 := hv0.grown hg1 (by omega)
    have hG1 := grown_trans2 hG0 hg1
    have hz1 := hg1.size
    clear hv0 hR0 hG0 hg1
    go_wp2_with fail
    refine (refNum_eq 2 hR1 H2.out).mono ?_
    rintro en w2 ⟨rfl, hR2, hg2⟩
    have hv2 := hv1.grown hg2 (by omega)
    have hG2 := grown_trans2 hG1 hg2
    have hz2 := hg2.size
    clear hv1 hR1 hG1 hg2
    go_wp2_with fail
    refine (refNum_eq 1 hR2 H3.out).mono ?_
    rintro en w3 ⟨rfl, hR3, hg3⟩
    have hv3 := hv2.grown hg3 (by omega)
    have hG3 := grown_trans2 hG2 hg3
    have hz3 := hg3.size
    clear hv2 hR2 hG2 hg3
    go_wp2_with fail
    refine (refNum_eq 1 hR3 H4.out).mono ?_
    rintro en w4 ⟨rfl, hR4, hg4⟩
    have hv4 := hv3.grown hg4 (by omega)
    have hG4 := grown_trans2 hG3 hg4
    have hz4 := hg4.size
    clear hv3 hR3 hG3 hg4
    have hzw : w.heap.size < w4.heap.size := by omega
    go_upto_region 2 with (refine wpList_store_new (vs := [.int .i64 r.k, .int .i64 r.pr, .int .i64 r.to, .int .i64 r.po, .int .i64 0, .int .i64 0, .int .u8 0, .int .u8 0, .int .u8 0, .int .u8 0, .int .u8 0, .int .u8 0, .slice none 0 0]) rfl (.tmp 3) (.tmp 16) rfl rfl rfl rfl rfl rfl agg_rule rfl ?_; intro w5 hD5 hb5 hz5)
    have hv5 := hv4.below hb5 hv4.lt
    have hR5 := hR4.below hb5
    have hG5 := grown_below hG4 hb5
    have hz5' : w4.heap.size < w5.heap.size := by omega
    generalize w4.heap.size = Dk at *
    clear hv4 hR4 hG4 hb5 hz5
    obtain ⟨d0, d1, d2, d3, d4, d5, d6, d7, d8, d9, d10, d11, d12⟩ := hD5.c13
    go_wp2_with (first | (refine wpList_load_vb (vs := [.int .i64 r.k, .int .i64 r.pr, .int .i64 r.to, .int .i64 r.po, .int .i64 0, .int .i64 0, .int .u8 0, .int .u8 0, .int .u8 0, .int .u8 0, .int .u8 0, .int .u8 0, .slice none 0 0]) rfl (.tmp 3) rfl rfl hD5 rfl agg_rule ?_) | (refine wpList_store_vb (vs := [.int .i64 r.k, .int .i64 r.pr, .int .i64 r.to, .int .i64 r.po, .int .i64 0, .int .i64 0, .int .u8 0, .int .u8 0, .int .u8 0, .int .u8 0, .int .u8 0, .int .u8 0, .slice none 0 0]) rfl (.tmp 2) (.tmp 20) rfl rfl rfl hv5 rfl agg_rule rfl ?_; intro w9 hv9 hg9 hz9))
    refine bodyPost_ret (results_one Tryz.results83 _ rfl hv9 agg_rule) rfl ?_
    refine ⟨r, none, 0, 0, fun _ => rfl, by rw [HX.out]; rfl, by rw [HO.out]; exact Ron.nil _ _, hR5.keep hg9 (fun k e => by simp at e; omega), grown_new hG5 hg9 (Nat.le_refl _)⟩
end Go.Proofs.YteambkehdbffmaaGreat.Oct
