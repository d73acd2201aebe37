/- Contracts of layer 3: the document's reading of a datum. -/
import Derived.Test.YtbgbajamjcohoaaDatE
namespace Go.Proofs.Ytbgbajamjcohoaa.Oct
open Go.RowKit
set_option linter.unusedVariables false

set_option maxRecDepth 100000 in
set_option maxHeartbeats 3200000 in
theorem refParse_any {w : World} {B : Nat} {A : Option Addr} {n c : Nat} {l : List Int} (hr : Rd .u8 w B A n c l) (hl : By l) (hB : B ≤ w.heap.size) :
    Calls Try.prog 17 #[.slice A n c] w (SixOf (parseD l) w) := by
  have hoby := openP_by l hl
  have hol := openP_len l
  have hno := Kp.mk (@parseD_no l)
  have hyes := Kp.mk (@parseD_yes l)
  have hform := Kp.mk (@parseD_form l)
  obtain ⟨k, hk⟩ : ∃ k, (openP l).1 = k := ⟨_, rfl⟩
  obtain ⟨m, hm⟩ : ∃ m, (openP l).2.1 = m := ⟨_, rfl⟩
  obtain ⟨e0, he⟩ : ∃ e, (openP l).2.2 = e := ⟨_, rfl⟩
  have Hopen := Kp.mk (show openP l = (k, m, e0) by rw [← hk, ← hm, ← he])
  rw [hk, hm, he] at hyes hform
  rw [he] at hno
  rw [hm] at hoby hol
  clear hk hm he
  go_enter Try.func17, Try.ntmps17
  go_wp2_with fail
  have hb0 := below_alloc w (.cells #[.int .i64 0, .int .i64 0, .int .i64 0, .int .u8 0, .int .u8 0, .int .u8 0] 25)
  generalize hW : (w.alloc (.cells #[.int .i64 0, .int .i64 0, .int .i64 0, .int .u8 0, .int .u8 0, .int .u8 0] 25)) = w0 at *
  have hz0 : w0.heap.size = w.heap.size + 1 := by rw [← hW]; simp
  have hx0 : Bk w0 w.heap.size 0 0 0 0 0 0 := by rw [← hW]; exact Bk.new w 0 0 0 0 0 0
  clear hW
  refine (refOpen_any (hr.below' hb0 hB) hl (by omega)).mono ?_
  rw [Hopen.out]
  rintro e w1 ⟨A1, n1, c1, rfl, ho1, hb1⟩
  have hz1 := hb1.size
  have hk1 := hx0.below hb1 (by omega)
  have hT1 : Below w.heap.size w w1 := hb0.trans (hb1.mono (by omega))
  by_cases hz : e0 = 0
  · subst hz
    have hn1 := ho1.len
    have hr1 := ho1.rd
    clear hno
    go_wp2_with fail
    refine (refRead_any hr1 hoby (Nat.le_refl _) (by omega)).mono ?_
    rintro e w2 ⟨g, rfl, hR2, hb2⟩
    have hz2 := hb2.size
    have hk2 := hk1.below hb2 (by omega)
    have hT2 := hT1.trans (hb2.mono (by omega))
    have hlo : w1.heap.size ≤ g := by obtain ⟨_, _, _, _, hlo, _⟩ := hR2; exact hlo
    have hne : w.heap.size ≠ g := by omega
    go_wp2_with fail
    refine (refNum_any 1 hR2).mono ?_
    rintro e w3 ⟨rfl, hR3, hg3⟩
    go_wp2_with fail
    refine (refNum_any 1 hR3).mono ?_
    rintro e w4 ⟨rfl, hR4, hg4⟩
    go_wp2_with fail
    refine (refNum_any 4 hR4).mono ?_
    rintro e w5 ⟨rfl, hR5, hg5⟩
    have hz3 := hg3.size
    have hz4 := hg4.size
    have hz5 := hg5.size
    have hl5 := hR5.lt
    generalize hQ1 : numR 1 m 0 = Q1 at *
    have H1' := Kp.mk (show r1 m = Q1 from hQ1)
    clear hQ1
    generalize hQ2 : numR 1 Q1.2.1 Q1.2.2 = Q2 at *
    have H2' := Kp.mk (show r2 m = Q2 by unfold r2; rw [H1'.out]; exact hQ2)
    clear hQ2
    generalize hQ3 : numR 4 Q2.2.1 Q2.2.2 = Q3 at *
    have H3' := Kp.mk (show r3 m = Q3 by unfold r3; rw [H2'.out]; exact hQ3)
    clear hQ3
    obtain ⟨q1, l1, e1⟩ := Q1
    obtain ⟨q2, l2, e2⟩ := Q2
    obtain ⟨q3, l3, e3⟩ := Q3
    simp only at hR3 hR4 hR5
    go_wp2_with fail
    refine wp_loop_rounds 4 ?_
    rw [rounds_succ]
    go_wp2_with fail
    have hR6 := hR5.below (below_alloc w5 (.cells #[.int .i64 q1, .int .i64 q2, .int .i64 q3, .int .u8 0, .int .u8 0, .int .u8 0] 25))
    have hx6 := Bk.new w5 q1 q2 q3 0 0 0
    have hb6 := below_alloc w5 (.cells #[.int .i64 q1, .int .i64 q2, .int .i64 q3, .int .u8 0, .int .u8 0, .int .u8 0] 25)
    have hk6 := ((((hk2.grown hg3 hne).grown hg4 hne).grown hg5 hne).below hb6 (by omega))
    have hT6 := (((hT2.grown hg3 (by omega) (by simp; omega)).grown hg4 (by omega) (by simp; omega)).grown hg5 (by omega) (by simp; omega)).trans (hb6.mono (by omega))
    generalize hW : (w5.alloc (.cells #[.int .i64 q1, .int .i64 q2, .int .i64 q3, .int .u8 0, .int .u8 0, .int .u8 0] 25)) = w6 at *
    have hz6 : w6.heap.size = w5.heap.size + 1 := by rw [← hW]; simp
    clear hW
    generalize hG : w5.heap.size = b5 at *
    clear hG
    have hne2 : w.heap.size ≠ b5 := by omega
    have hne3 : b5 ≠ g := by omega
    clear hk2 hT2 hg3 hg4 hg5 hb6 hR5 hR4 hR3 hR2 hb2
    refine (refNum_any 1 hR6).mono ?_
    rintro e v0 ⟨rfl, hRv0, hgv0⟩
    have hnv0 := num1_bd l3 e3 hR6.by_
    have hxv0 := hx6.grown hgv0 hne3
    have hkv0 := hk6.grown hgv0 hne
    have hTv0 := hT6.grown hgv0 (by omega) (by simp; omega)
    have hzv0 := hgv0.size
    generalize hQ : numR 1 l3 e3 = QQ at *
    have H4' := Kp.mk (show r4 m = QQ by unfold r4; rw [H3'.out]; exact hQ)
    clear hQ
    obtain ⟨q4, l4, e4⟩ := QQ
    simp only at hRv0 hnv0
    have hf := hxv0.free
    obtain ⟨d0, d1, d2, d3, d4, d5⟩ := id hxv0.cells
    obtain ⟨n1v0, n2v0⟩ := hnv0
    have hRv1 := hRv0.off b5 3 (.int .u8 q4) (by omega)
    have hxv1 := hxv0.set0 q4
    have hgv1 := grownBy_set v0 b5 3 (.int .u8 q4)
    have hkv1 := hkv0.grown hgv1 hne2
    have hTv1 := hTv0.grown hgv1 (by omega) (by simp; omega)
    have hzv1 := hgv1.size
    clear hR6 hx6 hk6 hT6 hRv0 hxv0 hkv0 hTv0 hgv0
    go_wp2_with fail
    clear d0 d1 d2 d3 d4 d5 hf
    rw [rounds_succ]
    generalize hW : v0.setCell ⟨b5, 3, none⟩ (.int .u8 q4) = v1 at *
    clear hW hgv1
    go_wp2_with fail
    refine (refNum_any 1 hRv1).mono ?_
    rintro e v2 ⟨rfl, hRv2, hgv2⟩
    have hnv2 := num1_bd l4 e4 hRv1.by_
    have hxv2 := hxv1.grown hgv2 hne3
    have hkv2 := hkv1.grown hgv2 hne
    have hTv2 := hTv1.grown hgv2 (by omega) (by simp; omega)
    have hzv2 := hgv2.size
    generalize hQ : numR 1 l4 e4 = QQ at *
    have H5' := Kp.mk (show r5 m = QQ by unfold r5; rw [H4'.out]; exact hQ)
    clear hQ
    obtain ⟨q5, l5, e5⟩ := QQ
    simp only at hRv2 hnv2
    have hf := hxv2.free
    obtain ⟨d0, d1, d2, d3, d4, d5⟩ := id hxv2.cells
    obtain ⟨n1v2, n2v2⟩ := hnv2
    have hRv3 := hRv2.off b5 4 (.int .u8 q5) (by omega)
    have hxv3 := hxv2.set1 q5
    have hgv3 := grownBy_set v2 b5 4 (.int .u8 q5)
    have hkv3 := hkv2.grown hgv3 hne2
    have hTv3 := hTv2.grown hgv3 (by omega) (by simp; omega)
    have hzv3 := hgv3.size
    clear hRv1 hxv1 hkv1 hTv1 hRv2 hxv2 hkv2 hTv2 hgv2
    go_wp2_with fail
    clear d0 d1 d2 d3 d4 d5 hf
    rw [rounds_succ]
    generalize hW : v2.setCell ⟨b5, 4, none⟩ (.int .u8 q5) = v3 at *
    clear hW hgv3
    go_wp2_with fail
    refine (refNum_any 1 hRv3).mono ?_
    rintro e v4 ⟨rfl, hRv4, hgv4⟩
    have hnv4 := num1_bd l5 e5 hRv3.by_
    have hxv4 := hxv3.grown hgv4 hne3
    have hkv4 := hkv3.grown hgv4 hne
    have hTv4 := hTv3.grown hgv4 (by omega) (by simp; omega)
    have hzv4 := hgv4.size
    generalize hQ : numR 1 l5 e5 = QQ at *
    have H6' := Kp.mk (show r6 m = QQ by unfold r6; rw [H5'.out]; exact hQ)
    clear hQ
    obtain ⟨q6, l6, e6⟩ := QQ
    simp only at hRv4 hnv4
    have hf := hxv4.free
    obtain ⟨d0, d1, d2, d3, d4, d5⟩ := id hxv4.cells
    obtain ⟨n1v4, n2v4⟩ := hnv4
    have hRv5 := hRv4.off b5 5 (.int .u8 q6) (by omega)
    have hxv5 := hxv4.set2 q6
    have hgv5 := grownBy_set v4 b5 5 (.int .u8 q6)
    have hkv5 := hkv4.grown hgv5 hne2
    have hTv5 := hTv4.grown hgv5 (by omega) (by simp; omega)
    have hzv5 := hgv5.size
    clear hRv3 hxv3 hkv3 hTv3 hRv4 hxv4 hkv4 hTv4 hgv4
    go_wp2_with fail
    clear d0 d1 d2 d3 d4 d5 hf
    rw [rounds_succ]
    generalize hW : v4.setCell ⟨b5, 5, none⟩ (.int .u8 q6) = v5 at *
    clear hW hgv5
    generalize hE : endR l6 e6 = ee at *
    have HE := Kp.mk (show endR (r6 m).2.1 (r6 m).2.2 = ee by rw [H6'.out]; exact hE)
    clear hE
    have hfine : Kp (fineD k m ↔ k = 1 ∧ ee = 0 ∧ checkD q1 q2 q3 = 0) := Kp.mk (by unfold fineD; rw [HE.out, H1'.out, H2'.out, H3'.out])
    have hd := hxv5.cells
    obtain ⟨d0, d1, d2, d3, d4, d5⟩ := hd
    have a := hkv5.cells
    have hf := hkv5.free
    obtain ⟨a0, a1, a2, a3, a4, a5⟩ := a
    by_cases c1 : k = 1
    · subst c1
      go_wp2_with fail
      refine (refEnd_any hRv5).mono ?_
      rw [show endR l6 e6 = ee from by rw [← HE.out, H6'.out]]
      rintro e w' ⟨rfl, rfl⟩
      by_cases c2 : ee = 0
      · subst c2
        go_wp2_with fail
        refine (refCheck_any q1 q2 q3 q4 q5 q6 v5).mono ?_
        rintro e w9 ⟨rfl, h9⟩
        have b9 := hxv5.below h9 (by have := hxv5.lt; omega)
        have hk10 := hkv5.below h9 (by have := hkv5.lt; omega)
        have hT10 := hTv5.trans (h9.mono (by omega))
        clear d0 d1 d2 d3 d4 d5 a0 a1 a2 a3 a4 a5 hf
        have hf := hk10.free
        obtain ⟨d0, d1, d2, d3, d4, d5⟩ := hk10.cells
        obtain ⟨a0, a1, a2, a3, a4, a5⟩ := b9.cells
        generalize hC : checkD q1 q2 q3 = ck at *
        have HC := Kp.mk hC
        clear hC
        by_cases c3 : ck = 0
        · subst c3
          have Hend := Kp.mk (show parseD l = ((q1, q2, q3, q4, q5, q6), 0) by
            rw [hyes.out (by first | rfl | trivial) (hfine.out.2 (by simp)), H1'.out, H2'.out, H3'.out, H4'.out, H5'.out, H6'.out])
          go_wp2_with fail
          have hk9 := (hk10.put q1 q2 q3 q4 q5 q6).cells
          have hT9 := putD_below hT10 (Nat.le_refl _) q1 q2 q3 q4 q5 q6
          clear d0 d1 d2 d3 d4 d5 a0 a1 a2 a3 a4 a5 hf
          obtain ⟨d0, d1, d2, d3, d4, d5⟩ := hk9
          change bodyPost _ _ _ _ _ (putD w9 w.heap.size q1 q2 q3 q4 q5 q6)
          generalize putD w9 w.heap.size q1 q2 q3 q4 q5 q6 = wd at *
          refine bodyPost_ret (v := .tuple #[.agg #[.int .i64 q1, .int .i64 q2, .int .i64 q3, .int .u8 q4, .int .u8 q5, .int .u8 q6], .int .i64 0]) (by simp [results, Try.results17, go_sem, d0, d1, d2, d3, d4, d5]) rfl ?_
          exact SixOf.mk Hend.out hT9
        · have Hend := Kp.mk (hform.out (by first | rfl | trivial) (fun h => c3 (hfine.out.1 h).2.2))
          go_wp2_with fail
          have hk9 := (hk10.put 0 0 0 0 0 0).cells
          have hT9 := putD_below hT10 (Nat.le_refl _) 0 0 0 0 0 0
          clear d0 d1 d2 d3 d4 d5 a0 a1 a2 a3 a4 a5 hf
          obtain ⟨d0, d1, d2, d3, d4, d5⟩ := hk9
          change bodyPost _ _ _ _ _ (putD w9 w.heap.size 0 0 0 0 0 0)
          generalize putD w9 w.heap.size 0 0 0 0 0 0 = wd at *
          refine bodyPost_ret (v := .tuple #[.agg #[.int .i64 0, .int .i64 0, .int .i64 0, .int .u8 0, .int .u8 0, .int .u8 0], .int .i64 4]) (by simp [results, Try.results17, go_sem, d0, d1, d2, d3, d4, d5]) rfl ?_
          exact SixOf.mk Hend.out hT9
      · have Hend := Kp.mk (hform.out (by first | rfl | trivial) (fun h => c2 (hfine.out.1 h).2.1))
        go_wp2_with fail
        have hk9 := (hkv5.put 0 0 0 0 0 0).cells
        have hT9 := putD_below hTv5 (Nat.le_refl _) 0 0 0 0 0 0
        clear d0 d1 d2 d3 d4 d5 a0 a1 a2 a3 a4 a5 hf
        obtain ⟨d0, d1, d2, d3, d4, d5⟩ := hk9
        change bodyPost _ _ _ _ _ (putD v5 w.heap.size 0 0 0 0 0 0)
        generalize putD v5 w.heap.size 0 0 0 0 0 0 = wd at *
        refine bodyPost_ret (v := .tuple #[.agg #[.int .i64 0, .int .i64 0, .int .i64 0, .int .u8 0, .int .u8 0, .int .u8 0], .int .i64 4]) (by simp [results, Try.results17, go_sem, d0, d1, d2, d3, d4, d5]) rfl ?_
        exact SixOf.mk Hend.out hT9
    · have Hend := Kp.mk (hform.out (by first | rfl | trivial) (fun h => c1 (hfine.out.1 h).1))
      go_wp2_with fail
      have hk9 := (hkv5.put 0 0 0 0 0 0).cells
      have hT9 := putD_below hTv5 (Nat.le_refl _) 0 0 0 0 0 0
      clear d0 d1 d2 d3 d4 d5 a0 a1 a2 a3 a4 a5 hf
      obtain ⟨d0, d1, d2, d3, d4, d5⟩ := hk9
      change bodyPost _ _ _ _ _ (putD v5 w.heap.size 0 0 0 0 0 0)
      generalize putD v5 w.heap.size 0 0 0 0 0 0 = wd at *
      refine bodyPost_ret (v := .tuple #[.agg #[.int .i64 0, .int .i64 0, .int .i64 0, .int .u8 0, .int .u8 0, .int .u8 0], .int .i64 4]) (by simp [results, Try.results17, go_sem, d0, d1, d2, d3, d4, d5]) rfl ?_
      exact SixOf.mk Hend.out hT9
  · have Hend := Kp.mk (hno.out hz)
    have hf := hk1.free
    obtain ⟨d0, d1, d2, d3, d4, d5⟩ := hk1.cells
    go_wp2_with fail
    have hk9 := (hk1.put 0 0 0 0 0 0).cells
    have hT9 := putD_below hT1 (Nat.le_refl _) 0 0 0 0 0 0
    clear d0 d1 d2 d3 d4 d5 hf
    obtain ⟨d0, d1, d2, d3, d4, d5⟩ := hk9
    change bodyPost _ _ _ _ _ (putD w1 w.heap.size 0 0 0 0 0 0)
    generalize putD w1 w.heap.size 0 0 0 0 0 0 = wd at *
    refine bodyPost_ret (v := .tuple #[.agg #[.int .i64 0, .int .i64 0, .int .i64 0, .int .u8 0, .int .u8 0, .int .u8 0], .int .i64 e0]) (by simp [results, Try.results17, go_sem, d0, d1, d2, d3, d4, d5]) rfl ?_
    exact SixOf.mk Hend.out hT9
end Go.Proofs.Ytbgbajamjcohoaa.Oct
