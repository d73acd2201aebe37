/- Contracts of layer 4: a probe is read of its bytes, and the document's reading. -/
import Derived.Test.YteambkehdbffmaaGreatPrbF
namespace Go.Proofs.YteambkehdbffmaaGreat.Oct
open Go.RowKit
set_option linter.unusedVariables false

theorem PrbOf.mk {w w' : World} {x : (Int × Int × Int × Int × Int) × Int} {f p t q n e : Int} (hp : x = ((f, p, t, q, n), e)) (hb : Below w.heap.size w w') :
    PrbOf x w (.returned (.tuple #[.agg #[.int .i64 f, .int .i64 p, .int .i64 t, .int .i64 q, .int .i64 n], .int .i64 e])) w' := by
  subst hp; exact ⟨rfl, hb⟩

set_option maxRecDepth 100000 in
set_option maxHeartbeats 1600000 in
theorem parseQ_any {w : World} {B : Nat} {A : Option Addr} {n c : Nat} {l : List Int} (hr : Rd .u8 w B A n c l) (hl : By l) (hB : B ≤ w.heap.size) :
    Calls Tryz.prog 79 #[.slice A n c] w (PrbOf (parseQ l) w) := by
  have hoby := openP_by l hl
  have hol := openQ_len l
  have hno := Kp.mk (@parseQ_no l)
  have hyes := Kp.mk (@parseQ_yes l)
  have hform := Kp.mk (@parseQ_form l)
  obtain ⟨k, hk⟩ : ∃ k, (openP l).1 = k := ⟨_, rfl⟩
  obtain ⟨m, hm⟩ : ∃ m, (openP l).2.1 = m := ⟨_, rfl⟩
  obtain ⟨e0, he⟩ : ∃ e, (openP l).2.2 = e := ⟨_, rfl⟩
  have Hopen := Kp.mk (show openP l = (k, m, e0) by rw [← hk, ← hm, ← he])
  rw [hk, hm, he] at hyes hform
  rw [he] at hno
  rw [hm] at hoby hol
  clear hk hm he
  go_enter Tryz.func79, Tryz.ntmps79
  go_wp2_with fail
  have hb0 := below_alloc w (.cells #[.int .i64 0, .int .i64 0, .int .i64 0, .int .i64 0, .int .i64 0] 34)
  have hx0 : Nb 34 (w.alloc (.cells #[.int .i64 0, .int .i64 0, .int .i64 0, .int .i64 0, .int .i64 0] 34)) w.heap.size [0, 0, 0, 0, 0] := Nb.new 34 w [0, 0, 0, 0, 0]
  have hz0 : (w.alloc (.cells #[.int .i64 0, .int .i64 0, .int .i64 0, .int .i64 0, .int .i64 0] 34)).heap.size = w.heap.size + 1 := by simp
  generalize (w.alloc (.cells #[.int .i64 0, .int .i64 0, .int .i64 0, .int .i64 0, .int .i64 0] 34)) = w0 at *
  refine (open_any (hr.below' hb0 hB) hl (by omega)).mono ?_
  rw [Hopen.out]
  rintro e w1 ⟨A1, n1, c1, rfl, ho1, hb1⟩
  have hz1 := hb1.size
  have hk1 := hx0.below hb1 (by omega)
  have hT1 : Below w.heap.size w w1 := hb0.trans (hb1.mono (by omega))
  by_cases hz : e0 = 0
  · subst hz
    have hn1 := ho1.len
    have hr1 := ho1.rd
    clear hno
    go_wp2_with fail
    refine (readQ_any hr1 hoby (Nat.le_refl _) (by omega)).mono ?_
    rintro e w2 ⟨rfl, hb2⟩
    have hk2 := hk1.below hb2 (by omega)
    have hz2 := hb2.size
    have hT2 := hT1.trans (hb2.mono (by omega))
    have HQ := Kp.mk (show readQ m = (((s1 m).1, (s2 m).1, (s3 m).1, (s4 m).1, (s5 m).1), endR (s5 m).2.1 (s5 m).2.2) from rfl)
    have hfine := Kp.mk (show fineQ k m ↔ k = 2 ∧ (readQ m).2 = 0 ∧ checkQ (readQ m).1.1 (readQ m).1.2.1 (readQ m).1.2.2.1 (readQ m).1.2.2.2.1 (readQ m).1.2.2.2.2 = 0 from Iff.rfl)
    have hyes2 := Kp.mk (show fineQ k m → parseQ l = ((readQ m).1, 0) from fun h => hyes.out (by first | rfl | trivial) h)
    have hform2 := Kp.mk (show ¬ fineQ k m → parseQ l = ((0, 0, 0, 0, 0), 4) from fun h => hform.out (by first | rfl | trivial) h)
    clear hyes hform HQ
    generalize readQ m = R at *
    obtain ⟨⟨q1, q2, q3, q4, q5⟩, ee⟩ := R
    simp only at hfine
    have hf := hk2.free
    obtain ⟨d0, d1, d2, d3, d4⟩ := hk2.five
    by_cases c1 : k = 2
    · by_cases c2 : ee = 0
      · subst c1 c2
        go_wp2_with fail
        have b3 : Nb 34 (w2.alloc (.cells #[.int .i64 q1, .int .i64 q2, .int .i64 q3, .int .i64 q4, .int .i64 q5] 34)) w2.heap.size [q1, q2, q3, q4, q5] := Nb.new 34 w2 [q1, q2, q3, q4, q5]
        have h23 := below_alloc w2 (.cells #[.int .i64 q1, .int .i64 q2, .int .i64 q3, .int .i64 q4, .int .i64 q5] 34)
        have hz3 : (w2.alloc (.cells #[.int .i64 q1, .int .i64 q2, .int .i64 q3, .int .i64 q4, .int .i64 q5] 34)).heap.size = w2.heap.size + 1 := by simp
        generalize (w2.alloc (.cells #[.int .i64 q1, .int .i64 q2, .int .i64 q3, .int .i64 q4, .int .i64 q5] 34)) = w3 at *
        refine (check_any q1 q2 q3 q4 q5 w3).mono ?_
        rintro e w4 ⟨rfl, h34⟩
        have b4 := b3.below h34 (by omega)
        have hk4 := (hk2.below h23 (by omega)).below h34 (by omega)
        have hT4 := (hT2.trans (h23.mono (by omega))).trans (h34.mono (by omega))
        clear d0 d1 d2 d3 d4 hf
        have hf := hk4.free
        obtain ⟨d0, d1, d2, d3, d4⟩ := hk4.five
        obtain ⟨a0, a1, a2, a3, a4⟩ := b4.five
        generalize hC : checkQ q1 q2 q3 q4 q5 = ck at *
        have HC := Kp.mk hC
        clear hC
        by_cases c3 : ck = 0
        · subst c3
          have Hend := Kp.mk (hyes2.out (hfine.out.2 (by simp)))
          go_wp2_with fail
          have hk9 := hk4.put5 (f' := q1) (p' := q2) (t' := q3) (q' := q4) (n' := q5)
          have hT9 := put5_below hT4 (Nat.le_refl _) q1 q2 q3 q4 q5
          clear d0 d1 d2 d3 d4 hf
          obtain ⟨d0, d1, d2, d3, d4⟩ := hk9.five
          change bodyPost _ _ _ _ _ (put5 w4 w.heap.size q1 q2 q3 q4 q5)
          generalize put5 w4 w.heap.size q1 q2 q3 q4 q5 = wd at *
          refine bodyPost_ret (v := .tuple #[.agg #[.int .i64 q1, .int .i64 q2, .int .i64 q3, .int .i64 q4, .int .i64 q5], .int .i64 0]) (by simp [results, Tryz.results79, go_sem, d0, d1, d2, d3, d4]) rfl ?_
          exact PrbOf.mk Hend.out hT9
        · have Hend := Kp.mk (hform2.out (fun h => c3 (hfine.out.1 h).2.2))
          go_wp2_with fail
          have hk9 := hk4.put5 (f' := 0) (p' := 0) (t' := 0) (q' := 0) (n' := 0)
          have hT9 := put5_below hT4 (Nat.le_refl _) 0 0 0 0 0
          clear d0 d1 d2 d3 d4 hf
          obtain ⟨d0, d1, d2, d3, d4⟩ := hk9.five
          change bodyPost _ _ _ _ _ (put5 w4 w.heap.size 0 0 0 0 0)
          generalize put5 w4 w.heap.size 0 0 0 0 0 = wd at *
          refine bodyPost_ret (v := .tuple #[.agg #[.int .i64 0, .int .i64 0, .int .i64 0, .int .i64 0, .int .i64 0], .int .i64 4]) (by simp [results, Tryz.results79, go_sem, d0, d1, d2, d3, d4]) rfl ?_
          exact PrbOf.mk Hend.out hT9
      · have Hend := Kp.mk (hform2.out (fun h => c2 (hfine.out.1 h).2.1))
        subst c1
        have h23 := below_alloc w2 (.cells #[.int .i64 q1, .int .i64 q2, .int .i64 q3, .int .i64 q4, .int .i64 q5] 34)
        have hk3 := hk2.below h23 (by omega)
        have hT3 := hT2.trans (h23.mono (by omega))
        clear d0 d1 d2 d3 d4 hf
        have hf := hk3.free
        obtain ⟨d0, d1, d2, d3, d4⟩ := hk3.five
        go_wp2_with fail
        generalize (w2.alloc (.cells #[.int .i64 q1, .int .i64 q2, .int .i64 q3, .int .i64 q4, .int .i64 q5] 34)) = w3 at *
        have hk9 := hk3.put5 (f' := 0) (p' := 0) (t' := 0) (q' := 0) (n' := 0)
        have hT9 := put5_below hT3 (Nat.le_refl _) 0 0 0 0 0
        clear d0 d1 d2 d3 d4 hf
        obtain ⟨d0, d1, d2, d3, d4⟩ := hk9.five
        change bodyPost _ _ _ _ _ (put5 w3 w.heap.size 0 0 0 0 0)
        generalize put5 w3 w.heap.size 0 0 0 0 0 = wd at *
        refine bodyPost_ret (v := .tuple #[.agg #[.int .i64 0, .int .i64 0, .int .i64 0, .int .i64 0, .int .i64 0], .int .i64 4]) (by simp [results, Tryz.results79, go_sem, d0, d1, d2, d3, d4]) rfl ?_
        exact PrbOf.mk Hend.out hT9
    · have Hend := Kp.mk (hform2.out (fun h => c1 (hfine.out.1 h).1))
      have h23 := below_alloc w2 (.cells #[.int .i64 q1, .int .i64 q2, .int .i64 q3, .int .i64 q4, .int .i64 q5] 34)
      have hk3 := hk2.below h23 (by omega)
      have hT3 := hT2.trans (h23.mono (by omega))
      clear d0 d1 d2 d3 d4 hf
      have hf := hk3.free
      obtain ⟨d0, d1, d2, d3, d4⟩ := hk3.five
      go_wp2_with fail
      generalize (w2.alloc (.cells #[.int .i64 q1, .int .i64 q2, .int .i64 q3, .int .i64 q4, .int .i64 q5] 34)) = w3 at *
      have hk9 := hk3.put5 (f' := 0) (p' := 0) (t' := 0) (q' := 0) (n' := 0)
      have hT9 := put5_below hT3 (Nat.le_refl _) 0 0 0 0 0
      clear d0 d1 d2 d3 d4 hf
      obtain ⟨d0, d1, d2, d3, d4⟩ := hk9.five
      change bodyPost _ _ _ _ _ (put5 w3 w.heap.size 0 0 0 0 0)
      generalize put5 w3 w.heap.size 0 0 0 0 0 = wd at *
      refine bodyPost_ret (v := .tuple #[.agg #[.int .i64 0, .int .i64 0, .int .i64 0, .int .i64 0, .int .i64 0], .int .i64 4]) (by simp [results, Tryz.results79, go_sem, d0, d1, d2, d3, d4]) rfl ?_
      exact PrbOf.mk Hend.out hT9
  · have Hend := Kp.mk (hno.out hz)
    have hf := hk1.free
    obtain ⟨d0, d1, d2, d3, d4⟩ := hk1.five
    go_wp2_with fail
    have hk9 := hk1.put5 (f' := 0) (p' := 0) (t' := 0) (q' := 0) (n' := 0)
    have hT9 := put5_below hT1 (Nat.le_refl _) 0 0 0 0 0
    clear d0 d1 d2 d3 d4 hf
    obtain ⟨d0, d1, d2, d3, d4⟩ := hk9.five
    change bodyPost _ _ _ _ _ (put5 w1 w.heap.size 0 0 0 0 0)
    generalize put5 w1 w.heap.size 0 0 0 0 0 = wd at *
    refine bodyPost_ret (v := .tuple #[.agg #[.int .i64 0, .int .i64 0, .int .i64 0, .int .i64 0, .int .i64 0], .int .i64 e0]) (by simp [results, Tryz.results79, go_sem, d0, d1, d2, d3, d4]) rfl ?_
    exact PrbOf.mk Hend.out hT9

set_option maxRecDepth 100000 in
set_option maxHeartbeats 1600000 in
theorem refParseQ_any {w : World} {B : Nat} {A : Option Addr} {n c : Nat} {l : List Int} (hr : Rd .u8 w B A n c l) (hl : By l) (hB : B ≤ w.heap.size) :
    Calls Tryz.prog 85 #[.slice A n c] w (PrbOf (parseQ l) w) := by
  have hoby := openP_by l hl
  have hol := openQ_len l
  have hno := Kp.mk (@parseQ_no l)
  have hyes := Kp.mk (@parseQ_yes l)
  have hform := Kp.mk (@parseQ_form l)
  obtain ⟨k, hk⟩ : ∃ k, (openP l).1 = k := ⟨_, rfl⟩
  obtain ⟨m, hm⟩ : ∃ m, (openP l).2.1 = m := ⟨_, rfl⟩
  obtain ⟨e0, he⟩ : ∃ e, (openP l).2.2 = e := ⟨_, rfl⟩
  have Hopen := Kp.mk (show openP l = (k, m, e0) by rw [← hk, ← hm, ← he])
  rw [hk, hm, he] at hyes hform
  rw [he] at hno
  rw [hm] at hoby hol
  clear hk hm he
  go_enter Tryz.func85, Tryz.ntmps85
  go_wp2_with fail
  have hb0 := below_alloc w (.cells #[.int .i64 0, .int .i64 0, .int .i64 0, .int .i64 0, .int .i64 0] 34)
  have hx0 : Nb 34 (w.alloc (.cells #[.int .i64 0, .int .i64 0, .int .i64 0, .int .i64 0, .int .i64 0] 34)) w.heap.size [0, 0, 0, 0, 0] := Nb.new 34 w [0, 0, 0, 0, 0]
  have hz0 : (w.alloc (.cells #[.int .i64 0, .int .i64 0, .int .i64 0, .int .i64 0, .int .i64 0] 34)).heap.size = w.heap.size + 1 := by simp
  generalize (w.alloc (.cells #[.int .i64 0, .int .i64 0, .int .i64 0, .int .i64 0, .int .i64 0] 34)) = w0 at *
  refine (refOpen_any (hr.below' hb0 hB) hl (by omega)).mono ?_
  rw [Hopen.out]
  rintro e w1 ⟨A1, n1, c1, rfl, ho1, hb1⟩
  have hz1 := hb1.size
  have hk1 := hx0.below hb1 (by omega)
  have hT1 : Below w.heap.size w w1 := hb0.trans (hb1.mono (by omega))
  by_cases hz : e0 = 0
  · subst hz
    have hn1 := ho1.len
    have hr1 := ho1.rd
    clear hno
    go_wp2_with fail
    refine (refRead_any hr1 hoby (Nat.le_refl _) (by omega)).mono ?_
    rintro e w2 ⟨g, rfl, hR2, hb2⟩
    have hz2 := hb2.size
    have hk2 := hk1.below hb2 (by omega)
    have hT2 := hT1.trans (hb2.mono (by omega))
    have hlo : w1.heap.size ≤ g := by obtain ⟨_, _, _, _, hlo, _⟩ := hR2; exact hlo
    have hne : w.heap.size ≠ g := by omega
    go_wp2_with fail
    refine (refNum_any 1 hR2).mono ?_
    rintro e w3 ⟨rfl, hR3, hg3⟩
    have hk3 := hk2.grown hg3 hne
    have hT3 := hT2.grown hg3 (by omega) (by simp; omega)
    have hz3 := hg3.size
    clear hR2
    generalize hQ : numR 1 m 0 = Q1 at *
    have H1 := Kp.mk (show s1 m = Q1 from hQ)
    clear hQ
    obtain ⟨q1, l1, e1⟩ := Q1
    simp only at hR3
    go_wp2_with fail
    refine (refNum_any 1 hR3).mono ?_
    rintro e w4 ⟨rfl, hR4, hg4⟩
    have hk4 := hk3.grown hg4 hne
    have hT4 := hT3.grown hg4 (by omega) (by simp; omega)
    have hz4 := hg4.size
    clear hR3
    generalize hQ : numR 1 l1 e1 = Q2 at *
    have H2 := Kp.mk (show s2 m = Q2 by unfold s2; rw [H1.out]; exact hQ)
    clear hQ
    obtain ⟨q2, l2, e2⟩ := Q2
    simp only at hR4
    go_wp2_with fail
    refine (refNum_any 1 hR4).mono ?_
    rintro e w5 ⟨rfl, hR5, hg5⟩
    have hk5 := hk4.grown hg5 hne
    have hT5 := hT4.grown hg5 (by omega) (by simp; omega)
    have hz5 := hg5.size
    clear hR4
    generalize hQ : numR 1 l2 e2 = Q3 at *
    have H3 := Kp.mk (show s3 m = Q3 by unfold s3; rw [H2.out]; exact hQ)
    clear hQ
    obtain ⟨q3, l3, e3⟩ := Q3
    simp only at hR5
    go_wp2_with fail
    refine (refNum_any 1 hR5).mono ?_
    rintro e w6 ⟨rfl, hR6, hg6⟩
    have hk6 := hk5.grown hg6 hne
    have hT6 := hT5.grown hg6 (by omega) (by simp; omega)
    have hz6 := hg6.size
    clear hR5
    generalize hQ : numR 1 l3 e3 = Q4 at *
    have H4 := Kp.mk (show s4 m = Q4 by unfold s4; rw [H3.out]; exact hQ)
    clear hQ
    obtain ⟨q4, l4, e4⟩ := Q4
    simp only at hR6
    go_wp2_with fail
    refine (refNum_any 2 hR6).mono ?_
    rintro e w7 ⟨rfl, hR7, hg7⟩
    have hk7 := hk6.grown hg7 hne
    have hT7 := hT6.grown hg7 (by omega) (by simp; omega)
    have hz7 := hg7.size
    clear hR6
    generalize hQ : numR 2 l4 e4 = Q5 at *
    have H5 := Kp.mk (show s5 m = Q5 by unfold s5; rw [H4.out]; exact hQ)
    clear hQ
    obtain ⟨q5, l5, e5⟩ := Q5
    simp only at hR7
    have hl7 := hR7.lt
    have b8 : Nb 34 (w7.alloc (.cells #[.int .i64 q1, .int .i64 q2, .int .i64 q3, .int .i64 q4, .int .i64 q5] 34)) w7.heap.size [q1, q2, q3, q4, q5] := Nb.new 34 w7 [q1, q2, q3, q4, q5]
    have h78 := below_alloc w7 (.cells #[.int .i64 q1, .int .i64 q2, .int .i64 q3, .int .i64 q4, .int .i64 q5] 34)
    have hR8 := hR7.below h78
    have hk8 := hk7.below h78 (by omega)
    have hT8 := hT7.trans (h78.mono (by omega))
    clear hk1 hk2 hk3 hk4 hk5 hk6 hk7 hT1 hT2 hT3 hT4 hT5 hT6 hT7 hR7
    generalize hE : endR l5 e5 = ee at *
    have HE := Kp.mk (show endR (s5 m).2.1 (s5 m).2.2 = ee by rw [H5.out]; exact hE)
    clear hE
    have hfine : Kp (fineQ k m ↔ k = 2 ∧ ee = 0 ∧ checkQ q1 q2 q3 q4 q5 = 0) := Kp.mk (by unfold fineQ; rw [HE.out, H1.out, H2.out, H3.out, H4.out, H5.out])
    obtain ⟨d0, d1, d2, d3, d4⟩ := hk8.five
    have hf := hk8.free
    by_cases c1 : k = 2
    · subst c1
      go_wp2_with fail
      generalize (w7.alloc (.cells #[.int .i64 q1, .int .i64 q2, .int .i64 q3, .int .i64 q4, .int .i64 q5] 34)) = w8 at *
      generalize w7.heap.size = b7 at *
      obtain ⟨a0, a1, a2, a3, a4⟩ := b8.five
      refine (refEnd_any hR8).mono ?_
      rw [show endR l5 e5 = ee from by rw [← HE.out, H5.out]]
      rintro e w' ⟨rfl, rfl⟩
      by_cases c2 : ee = 0
      · subst c2
        go_wp2_with fail
        refine (refCheck_any q1 q2 q3 q4 q5 w8).mono ?_
        rintro e w9 ⟨rfl, h9⟩
        have b9 := b8.below h9 b8.lt
        have hk10 := hk8.below h9 hk8.lt
        have hT10 := hT8.trans (h9.mono hT8.size)
        clear d0 d1 d2 d3 d4 a0 a1 a2 a3 a4 hf
        have hf := hk10.free
        obtain ⟨d0, d1, d2, d3, d4⟩ := hk10.five
        obtain ⟨a0, a1, a2, a3, a4⟩ := b9.five
        generalize hC : checkQ q1 q2 q3 q4 q5 = ck at *
        have HC := Kp.mk hC
        clear hC
        by_cases c3 : ck = 0
        · subst c3
          have Hend := Kp.mk (show parseQ l = ((q1, q2, q3, q4, q5), 0) by
            rw [hyes.out (by first | rfl | trivial) (hfine.out.2 (by simp)), H1.out, H2.out, H3.out, H4.out, H5.out])
          go_wp2_with fail
          have hk9 := hk10.put5 (f' := q1) (p' := q2) (t' := q3) (q' := q4) (n' := q5)
          have hT9 := put5_below hT10 (Nat.le_refl _) q1 q2 q3 q4 q5
          clear d0 d1 d2 d3 d4 hf
          obtain ⟨d0, d1, d2, d3, d4⟩ := hk9.five
          change bodyPost _ _ _ _ _ (put5 w9 w.heap.size q1 q2 q3 q4 q5)
          generalize put5 w9 w.heap.size q1 q2 q3 q4 q5 = wd at *
          refine bodyPost_ret (v := .tuple #[.agg #[.int .i64 q1, .int .i64 q2, .int .i64 q3, .int .i64 q4, .int .i64 q5], .int .i64 0]) (by simp [results, Tryz.results85, go_sem, d0, d1, d2, d3, d4]) rfl ?_
          exact PrbOf.mk Hend.out hT9
        · have Hend := Kp.mk (hform.out (by first | rfl | trivial) (fun h => c3 (hfine.out.1 h).2.2))
          go_wp2_with fail
          have hk9 := hk10.put5 (f' := 0) (p' := 0) (t' := 0) (q' := 0) (n' := 0)
          have hT9 := put5_below hT10 (Nat.le_refl _) 0 0 0 0 0
          clear d0 d1 d2 d3 d4 hf
          obtain ⟨d0, d1, d2, d3, d4⟩ := hk9.five
          change bodyPost _ _ _ _ _ (put5 w9 w.heap.size 0 0 0 0 0)
          generalize put5 w9 w.heap.size 0 0 0 0 0 = wd at *
          refine bodyPost_ret (v := .tuple #[.agg #[.int .i64 0, .int .i64 0, .int .i64 0, .int .i64 0, .int .i64 0], .int .i64 4]) (by simp [results, Tryz.results85, go_sem, d0, d1, d2, d3, d4]) rfl ?_
          exact PrbOf.mk Hend.out hT9
      · have Hend := Kp.mk (hform.out (by first | rfl | trivial) (fun h => c2 (hfine.out.1 h).2.1))
        go_wp2_with fail
        have hk9 := hk8.put5 (f' := 0) (p' := 0) (t' := 0) (q' := 0) (n' := 0)
        have hT9 := put5_below hT8 (Nat.le_refl _) 0 0 0 0 0
        clear d0 d1 d2 d3 d4 hf
        obtain ⟨d0, d1, d2, d3, d4⟩ := hk9.five
        change bodyPost _ _ _ _ _ (put5 w8 w.heap.size 0 0 0 0 0)
        generalize put5 w8 w.heap.size 0 0 0 0 0 = wd at *
        refine bodyPost_ret (v := .tuple #[.agg #[.int .i64 0, .int .i64 0, .int .i64 0, .int .i64 0, .int .i64 0], .int .i64 4]) (by simp [results, Tryz.results85, go_sem, d0, d1, d2, d3, d4]) rfl ?_
        exact PrbOf.mk Hend.out hT9
    · have Hend := Kp.mk (hform.out (by first | rfl | trivial) (fun h => c1 (hfine.out.1 h).1))
      go_wp2_with fail
      generalize (w7.alloc (.cells #[.int .i64 q1, .int .i64 q2, .int .i64 q3, .int .i64 q4, .int .i64 q5] 34)) = w8 at *
      have hk9 := hk8.put5 (f' := 0) (p' := 0) (t' := 0) (q' := 0) (n' := 0)
      have hT9 := put5_below hT8 (Nat.le_refl _) 0 0 0 0 0
      clear d0 d1 d2 d3 d4 hf
      obtain ⟨d0, d1, d2, d3, d4⟩ := hk9.five
      change bodyPost _ _ _ _ _ (put5 w8 w.heap.size 0 0 0 0 0)
      generalize put5 w8 w.heap.size 0 0 0 0 0 = wd at *
      refine bodyPost_ret (v := .tuple #[.agg #[.int .i64 0, .int .i64 0, .int .i64 0, .int .i64 0, .int .i64 0], .int .i64 4]) (by simp [results, Tryz.results85, go_sem, d0, d1, d2, d3, d4]) rfl ?_
      exact PrbOf.mk Hend.out hT9
  · have Hend := Kp.mk (hno.out hz)
    have hf := hk1.free
    obtain ⟨d0, d1, d2, d3, d4⟩ := hk1.five
    go_wp2_with fail
    have hk9 := hk1.put5 (f' := 0) (p' := 0) (t' := 0) (q' := 0) (n' := 0)
    have hT9 := put5_below hT1 (Nat.le_refl _) 0 0 0 0 0
    clear d0 d1 d2 d3 d4 hf
    obtain ⟨d0, d1, d2, d3, d4⟩ := hk9.five
    change bodyPost _ _ _ _ _ (put5 w1 w.heap.size 0 0 0 0 0)
    generalize put5 w1 w.heap.size 0 0 0 0 0 = wd at *
    refine bodyPost_ret (v := .tuple #[.agg #[.int .i64 0, .int .i64 0, .int .i64 0, .int .i64 0, .int .i64 0], .int .i64 e0]) (by simp [results, Tryz.results85, go_sem, d0, d1, d2, d3, d4]) rfl ?_
    exact PrbOf.mk Hend.out hT9
end Go.Proofs.YteambkehdbffmaaGreat.Oct
