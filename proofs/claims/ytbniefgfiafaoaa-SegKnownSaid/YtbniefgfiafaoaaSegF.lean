/- Contracts of layer 5: a segment is read of its bytes, and the document's reading. -/
import Derived.Test.YtbniefgfiafaoaaSegB
import Derived.Test.YtbniefgfiafaoaaSegC
namespace Go.Proofs.Ytbniefgfiafaoaa.Oct
open Go.RowKit
set_option linter.unusedVariables false

theorem SegRet.mk {x : SegV × Int} {k t f h p o s a er : Int} {b : List Int} {A : Option Addr} {n c : Nat} {w w' : World} (hp : x = (⟨k, t, f, h, p, o, s, a, b⟩, er)) (ho : Own w' w.heap.size (.slice A n c) n b) (hb : Below w.heap.size w w') :
    SegRet x.1 x.2 w (.returned (.tuple #[.agg #[.int .i64 k, .int .i64 t, .int .i64 f, .int .i64 h, .int .i64 p, .int .i64 o, .int .i64 s, .int .i64 a, .slice A n c], .int .i64 er])) w' := by
  subst hp; exact ⟨A, n, c, rfl, ho, hb⟩
theorem SegRet.none {x : SegV × Int} {er : Int} {w w' : World} (hp : x = (noSeg, er)) (hb : Below w.heap.size w w') :
    SegRet x.1 x.2 w (.returned (.tuple #[.agg #[.int .i64 0, .int .i64 0, .int .i64 0, .int .i64 0, .int .i64 0, .int .i64 0, .int .i64 0, .int .i64 0, .slice none 0 0], .int .i64 er])) w' := by
  subst hp; exact ⟨_, 0, 0, rfl, Own.nil _ _, hb⟩
/-- Whether what was opened is a segment's. -/
def fineS (k : Int) (m : List Int) : Prop := k = 3 ∧ endR (u9 m).2.1 (u9 m).2.2 = 0 ∧ checkS (segOf m).k (segOf m).t (segOf m).f (segOf m).h (segOf m).p (segOf m).o (segOf m).s (segOf m).a (segOf m).b.length = 0
theorem parseS_no {l : List Int} (h : (openP l).2.2 ≠ 0) : parseS l = (noSeg, (openP l).2.2) := if_pos h
theorem parseS_yes {l : List Int} (h : (openP l).2.2 = 0) (hf : fineS (openP l).1 (openP l).2.1) : parseS l = (segOf (openP l).2.1, 0) := by
  unfold parseS
  rw [if_neg (by simpa using h)]
  exact if_pos hf
theorem parseS_form {l : List Int} (h : (openP l).2.2 = 0) (hf : ¬ fineS (openP l).1 (openP l).2.1) : parseS l = (noSeg, 4) := by
  unfold parseS
  rw [if_neg (by simpa using h)]
  exact if_neg hf

set_option maxRecDepth 100000 in
set_option maxHeartbeats 8000000 in
theorem parseS_any {w : World} {B : Nat} {A : Option Addr} {n c : Nat} {l : List Int} (hr : Rd .u8 w B A n c l) (hl : By l) (hB : B ≤ w.heap.size) :
    Calls Try.prog 17 #[.slice A n c] w (SegRet (parseS l).1 (parseS l).2 w) := by
  have hoby := openP_by l hl
  have hol := openP_len l
  have hno := Kp.mk (@parseS_no l)
  have hyes := Kp.mk (@parseS_yes l)
  have hform := Kp.mk (@parseS_form l)
  obtain ⟨k, hk⟩ : ∃ k, (openP l).1 = k := ⟨_, rfl⟩
  obtain ⟨m, hm⟩ : ∃ m, (openP l).2.1 = m := ⟨_, rfl⟩
  obtain ⟨e0, he⟩ : ∃ e, (openP l).2.2 = e := ⟨_, rfl⟩
  have Hopen := Kp.mk (show openP l = (k, m, e0) by rw [← hk, ← hm, ← he])
  rw [hk, hm, he] at hyes hform
  rw [he] at hno
  rw [hm] at hoby hol
  clear hk hm he
  go_enter Try.func17, Try.ntmps17
  go_wp2_with fail
  have hb0 := below_alloc w (.cells #[.int .i64 0, .int .i64 0, .int .i64 0, .int .i64 0, .int .i64 0, .int .i64 0, .int .i64 0, .int .i64 0, .slice none 0 0] 24)
  have hx0 : Sg (w.alloc (.cells #[.int .i64 0, .int .i64 0, .int .i64 0, .int .i64 0, .int .i64 0, .int .i64 0, .int .i64 0, .int .i64 0, .slice none 0 0] 24)) w.heap.size [0, 0, 0, 0, 0, 0, 0, 0] (.slice none 0 0) := Sg.new w [0, 0, 0, 0, 0, 0, 0, 0] (.slice none 0 0)
  have hz0 : (w.alloc (.cells #[.int .i64 0, .int .i64 0, .int .i64 0, .int .i64 0, .int .i64 0, .int .i64 0, .int .i64 0, .int .i64 0, .slice none 0 0] 24)).heap.size = w.heap.size + 1 := by simp
  generalize (w.alloc (.cells #[.int .i64 0, .int .i64 0, .int .i64 0, .int .i64 0, .int .i64 0, .int .i64 0, .int .i64 0, .int .i64 0, .slice none 0 0] 24)) = w0 at *
  refine (open_any (hr.below' hb0 hB) hl (by omega)).mono ?_
  rw [Hopen.out]
  rintro e w1 ⟨A1, n1, c1, rfl, ho1, hb1⟩
  have hz1 := hb1.size
  have hk1 := hx0.below hb1 (by omega)
  have hT1 : Below w.heap.size w w1 := hb0.trans (hb1.mono (by omega))
  by_cases hz : e0 = 0
  · subst hz
    have hn1 := ho1.len
    have hr1 := ho1.rd
    clear hno
    go_wp2_with fail
    refine (readS_any hr1 hoby (Nat.le_refl _) (by omega)).mono ?_
    rintro e w2 ⟨A2, n2, c2, rfl, ho2, hb2⟩
    have hk2 := hk1.below hb2 (by omega)
    have hz2 := hb2.size
    have hT2 := hT1.trans (hb2.mono (by omega))
    have hl2 := ho2.len
    have hfine := Kp.mk (show fineS k m ↔ k = 3 ∧ endR (u9 m).2.1 (u9 m).2.2 = 0 ∧ checkS (segOf m).k (segOf m).t (segOf m).f (segOf m).h (segOf m).p (segOf m).o (segOf m).s (segOf m).a (segOf m).b.length = 0 from Iff.rfl)
    have hyes2 := Kp.mk (show fineS k m → parseS l = (segOf m, 0) from fun h => hyes.out (by first | rfl | trivial) h)
    have hform2 := Kp.mk (show ¬ fineS k m → parseS l = (noSeg, 4) from fun h => hform.out (by first | rfl | trivial) h)
    clear hyes hform
    generalize segOf m = Q at *
    obtain ⟨q1, q2, q3, q4, q5, q6, q7, q8, q9⟩ := Q
    generalize endR (u9 m).2.1 (u9 m).2.2 = ee at *
    simp only at hfine ho2 hl2
    rw [hl2] at hfine
    by_cases y1 : k = 3
    rotate_left
    · have k1 : (k == 3) = false := beq_eq_false_iff_ne.2 y1
      have Hend := Kp.mk (hform2.out (fun h => y1 (hfine.out.1 h).1))
      have h23 := below_alloc w2 (.cells #[.int .i64 q1, .int .i64 q2, .int .i64 q3, .int .i64 q4, .int .i64 q5, .int .i64 q6, .int .i64 q7, .int .i64 q8, .slice A2 n2 c2] 24)
      have hk3 := hk2.below h23 (by omega)
      have hT3 := hT2.trans (h23.mono (by omega))
      have hf := hk3.free
      obtain ⟨d0, d1, d2, d3, d4, d5, d6, d7, d8⟩ := hk3.nine
      go_wp2_with fail
      generalize (w2.alloc (.cells #[.int .i64 q1, .int .i64 q2, .int .i64 q3, .int .i64 q4, .int .i64 q5, .int .i64 q6, .int .i64 q7, .int .i64 q8, .slice A2 n2 c2] 24)) = w3 at *
      have hk9 := (hk3.put (k' := 0) (t' := 0) (f' := 0) (h' := 0) (p' := 0) (o' := 0) (s' := 0) (a' := 0) (m' := .slice none 0 0)).nine
      have hT9 := putS_below hT3 (Nat.le_refl _) 0 0 0 0 0 0 0 0 (.slice none 0 0)
      clear d0 d1 d2 d3 d4 d5 d6 d7 d8 hf
      obtain ⟨d0, d1, d2, d3, d4, d5, d6, d7, d8⟩ := hk9
      change bodyPost _ _ _ _ _ (putS w3 w.heap.size 0 0 0 0 0 0 0 0 (.slice none 0 0))
      generalize putS w3 w.heap.size 0 0 0 0 0 0 0 0 (.slice none 0 0) = wd at *
      refine bodyPost_ret (v := .tuple #[.agg #[.int .i64 0, .int .i64 0, .int .i64 0, .int .i64 0, .int .i64 0, .int .i64 0, .int .i64 0, .int .i64 0, .slice none 0 0], .int .i64 4]) (by simp [results, Try.results17, go_sem, d0, d1, d2, d3, d4, d5, d6, d7, d8]) rfl ?_
      exact SegRet.none Hend.out hT9
    subst y1
    by_cases y2 : ee = 0
    rotate_left
    · have k2 : (ee == 0) = false := beq_eq_false_iff_ne.2 y2
      have Hend := Kp.mk (hform2.out (fun h => y2 (hfine.out.1 h).2.1))
      have h23 := below_alloc w2 (.cells #[.int .i64 q1, .int .i64 q2, .int .i64 q3, .int .i64 q4, .int .i64 q5, .int .i64 q6, .int .i64 q7, .int .i64 q8, .slice A2 n2 c2] 24)
      have hk3 := hk2.below h23 (by omega)
      have hT3 := hT2.trans (h23.mono (by omega))
      have hf := hk3.free
      obtain ⟨d0, d1, d2, d3, d4, d5, d6, d7, d8⟩ := hk3.nine
      go_wp2_with fail
      generalize (w2.alloc (.cells #[.int .i64 q1, .int .i64 q2, .int .i64 q3, .int .i64 q4, .int .i64 q5, .int .i64 q6, .int .i64 q7, .int .i64 q8, .slice A2 n2 c2] 24)) = w3 at *
      have hk9 := (hk3.put (k' := 0) (t' := 0) (f' := 0) (h' := 0) (p' := 0) (o' := 0) (s' := 0) (a' := 0) (m' := .slice none 0 0)).nine
      have hT9 := putS_below hT3 (Nat.le_refl _) 0 0 0 0 0 0 0 0 (.slice none 0 0)
      clear d0 d1 d2 d3 d4 d5 d6 d7 d8 hf
      obtain ⟨d0, d1, d2, d3, d4, d5, d6, d7, d8⟩ := hk9
      change bodyPost _ _ _ _ _ (putS w3 w.heap.size 0 0 0 0 0 0 0 0 (.slice none 0 0))
      generalize putS w3 w.heap.size 0 0 0 0 0 0 0 0 (.slice none 0 0) = wd at *
      refine bodyPost_ret (v := .tuple #[.agg #[.int .i64 0, .int .i64 0, .int .i64 0, .int .i64 0, .int .i64 0, .int .i64 0, .int .i64 0, .int .i64 0, .slice none 0 0], .int .i64 4]) (by simp [results, Try.results17, go_sem, d0, d1, d2, d3, d4, d5, d6, d7, d8]) rfl ?_
      exact SegRet.none Hend.out hT9
    subst y2
    have h23 := below_alloc w2 (.cells #[.int .i64 q1, .int .i64 q2, .int .i64 q3, .int .i64 q4, .int .i64 q5, .int .i64 q6, .int .i64 q7, .int .i64 q8, .slice A2 n2 c2] 24)
    have hk3 := hk2.below h23 (by omega)
    have hT3 := hT2.trans (h23.mono (by omega))
    have b3 : Sg (w2.alloc (.cells #[.int .i64 q1, .int .i64 q2, .int .i64 q3, .int .i64 q4, .int .i64 q5, .int .i64 q6, .int .i64 q7, .int .i64 q8, .slice A2 n2 c2] 24)) w2.heap.size [q1, q2, q3, q4, q5, q6, q7, q8] (.slice A2 n2 c2) := Sg.new w2 [q1, q2, q3, q4, q5, q6, q7, q8] (.slice A2 n2 c2)
    have hz3 : (w2.alloc (.cells #[.int .i64 q1, .int .i64 q2, .int .i64 q3, .int .i64 q4, .int .i64 q5, .int .i64 q6, .int .i64 q7, .int .i64 q8, .slice A2 n2 c2] 24)).heap.size = w2.heap.size + 1 := by simp
    have ho3 := ho2.alloc (.cells #[.int .i64 q1, .int .i64 q2, .int .i64 q3, .int .i64 q4, .int .i64 q5, .int .i64 q6, .int .i64 q7, .int .i64 q8, .slice A2 n2 c2] 24)
    go_wp2_with fail
    generalize (w2.alloc (.cells #[.int .i64 q1, .int .i64 q2, .int .i64 q3, .int .i64 q4, .int .i64 q5, .int .i64 q6, .int .i64 q7, .int .i64 q8, .slice A2 n2 c2] 24)) = w3 at *
    refine (checkS_any q1 q2 q3 q4 q5 q6 q7 q8 A2 n2 c2 w3).mono ?_
    rintro e w4 ⟨rfl, h34⟩
    have b4 := b3.below h34 (by omega)
    have hk4 := hk3.below h34 (by omega)
    have hT4 := hT3.trans (h34.mono (by omega))
    have ho4 := ho3.below h34 (Nat.le_refl _)
    have hz4 := h34.size
    have hf := hk4.free
    obtain ⟨d0, d1, d2, d3, d4, d5, d6, d7, d8⟩ := hk4.nine
    obtain ⟨a0, a1, a2, a3, a4, a5, a6, a7, a8⟩ := b4.nine
    generalize hC : checkS q1 q2 q3 q4 q5 q6 q7 q8 n2 = ck at *
    clear hC
    by_cases y3 : ck = 0
    · subst y3
      have Hend := Kp.mk (hyes2.out (hfine.out.2 (by simp)))
      go_wp2_with fail
      have hk9 := (hk4.put (k' := q1) (t' := q2) (f' := q3) (h' := q4) (p' := q5) (o' := q6) (s' := q7) (a' := q8) (m' := .slice A2 n2 c2)).nine
      have hT9 := putS_below hT4 (Nat.le_refl _) q1 q2 q3 q4 q5 q6 q7 q8 (.slice A2 n2 c2)
      have ho9 := own_keep ho4 (putS_grown w4 w.heap.size q1 q2 q3 q4 q5 q6 q7 q8 (.slice A2 n2 c2)) (by omega)
      clear d0 d1 d2 d3 d4 d5 d6 d7 d8 hf a0 a1 a2 a3 a4 a5 a6 a7 a8
      obtain ⟨d0, d1, d2, d3, d4, d5, d6, d7, d8⟩ := hk9
      change bodyPost _ _ _ _ _ (putS w4 w.heap.size q1 q2 q3 q4 q5 q6 q7 q8 (.slice A2 n2 c2))
      generalize putS w4 w.heap.size q1 q2 q3 q4 q5 q6 q7 q8 (.slice A2 n2 c2) = wd at *
      refine bodyPost_ret (v := .tuple #[.agg #[.int .i64 q1, .int .i64 q2, .int .i64 q3, .int .i64 q4, .int .i64 q5, .int .i64 q6, .int .i64 q7, .int .i64 q8, .slice A2 n2 c2], .int .i64 0]) (by simp [results, Try.results17, go_sem, d0, d1, d2, d3, d4, d5, d6, d7, d8]) rfl ?_
      exact SegRet.mk Hend.out (ho9.lower (by omega)) hT9
    · have k3 : (ck == 0) = false := beq_eq_false_iff_ne.2 y3
      have Hend := Kp.mk (hform2.out (fun h => y3 (hfine.out.1 h).2.2))
      go_wp2_with fail
      have hk9 := (hk4.put (k' := 0) (t' := 0) (f' := 0) (h' := 0) (p' := 0) (o' := 0) (s' := 0) (a' := 0) (m' := .slice none 0 0)).nine
      have hT9 := putS_below hT4 (Nat.le_refl _) 0 0 0 0 0 0 0 0 (.slice none 0 0)
      clear d0 d1 d2 d3 d4 d5 d6 d7 d8 hf a0 a1 a2 a3 a4 a5 a6 a7 a8
      obtain ⟨d0, d1, d2, d3, d4, d5, d6, d7, d8⟩ := hk9
      change bodyPost _ _ _ _ _ (putS w4 w.heap.size 0 0 0 0 0 0 0 0 (.slice none 0 0))
      generalize putS w4 w.heap.size 0 0 0 0 0 0 0 0 (.slice none 0 0) = wd at *
      refine bodyPost_ret (v := .tuple #[.agg #[.int .i64 0, .int .i64 0, .int .i64 0, .int .i64 0, .int .i64 0, .int .i64 0, .int .i64 0, .int .i64 0, .slice none 0 0], .int .i64 4]) (by simp [results, Try.results17, go_sem, d0, d1, d2, d3, d4, d5, d6, d7, d8]) rfl ?_
      exact SegRet.none Hend.out hT9
  · have Hend := Kp.mk (hno.out hz)
    have hf := hk1.free
    obtain ⟨d0, d1, d2, d3, d4, d5, d6, d7, d8⟩ := hk1.nine
    go_wp2_with fail
    have hk9 := (hk1.put (k' := 0) (t' := 0) (f' := 0) (h' := 0) (p' := 0) (o' := 0) (s' := 0) (a' := 0) (m' := .slice none 0 0)).nine
    have hT9 := putS_below hT1 (Nat.le_refl _) 0 0 0 0 0 0 0 0 (.slice none 0 0)
    clear d0 d1 d2 d3 d4 d5 d6 d7 d8 hf
    obtain ⟨d0, d1, d2, d3, d4, d5, d6, d7, d8⟩ := hk9
    change bodyPost _ _ _ _ _ (putS w1 w.heap.size 0 0 0 0 0 0 0 0 (.slice none 0 0))
    generalize putS w1 w.heap.size 0 0 0 0 0 0 0 0 (.slice none 0 0) = wd at *
    refine bodyPost_ret (v := .tuple #[.agg #[.int .i64 0, .int .i64 0, .int .i64 0, .int .i64 0, .int .i64 0, .int .i64 0, .int .i64 0, .int .i64 0, .slice none 0 0], .int .i64 e0]) (by simp [results, Try.results17, go_sem, d0, d1, d2, d3, d4, d5, d6, d7, d8]) rfl ?_
    exact SegRet.none Hend.out hT9

set_option maxRecDepth 100000 in
set_option maxHeartbeats 8000000 in
theorem refParseS_any {w : World} {B : Nat} {A : Option Addr} {n c : Nat} {l : List Int} (hr : Rd .u8 w B A n c l) (hl : By l) (hB : B ≤ w.heap.size) :
    Calls Try.prog 18 #[.slice A n c] w (SegRet (parseS l).1 (parseS l).2 w) := by
  have hoby := openP_by l hl
  have hol := openP_len l
  have hno := Kp.mk (@parseS_no l)
  have hyes := Kp.mk (@parseS_yes l)
  have hform := Kp.mk (@parseS_form l)
  obtain ⟨k, hk⟩ : ∃ k, (openP l).1 = k := ⟨_, rfl⟩
  obtain ⟨m, hm⟩ : ∃ m, (openP l).2.1 = m := ⟨_, rfl⟩
  obtain ⟨e0, he⟩ : ∃ e, (openP l).2.2 = e := ⟨_, rfl⟩
  have Hopen := Kp.mk (show openP l = (k, m, e0) by rw [← hk, ← hm, ← he])
  rw [hk, hm, he] at hyes hform
  rw [he] at hno
  rw [hm] at hoby hol
  clear hk hm he
  go_enter Try.func18, Try.ntmps18
  go_wp2_with fail
  have hb0 := below_alloc w (.cells #[.int .i64 0, .int .i64 0, .int .i64 0, .int .i64 0, .int .i64 0, .int .i64 0, .int .i64 0, .int .i64 0, .slice none 0 0] 24)
  have hx0 : Sg (w.alloc (.cells #[.int .i64 0, .int .i64 0, .int .i64 0, .int .i64 0, .int .i64 0, .int .i64 0, .int .i64 0, .int .i64 0, .slice none 0 0] 24)) w.heap.size [0, 0, 0, 0, 0, 0, 0, 0] (.slice none 0 0) := Sg.new w [0, 0, 0, 0, 0, 0, 0, 0] (.slice none 0 0)
  have hz0 : (w.alloc (.cells #[.int .i64 0, .int .i64 0, .int .i64 0, .int .i64 0, .int .i64 0, .int .i64 0, .int .i64 0, .int .i64 0, .slice none 0 0] 24)).heap.size = w.heap.size + 1 := by simp
  generalize (w.alloc (.cells #[.int .i64 0, .int .i64 0, .int .i64 0, .int .i64 0, .int .i64 0, .int .i64 0, .int .i64 0, .int .i64 0, .slice none 0 0] 24)) = w0 at *
  refine (refOpen_any (hr.below' hb0 hB) hl (by omega)).mono ?_
  rw [Hopen.out]
  rintro e w1 ⟨A1, n1, c1, rfl, ho1, hb1⟩
  have hz1 := hb1.size
  have hk1 := hx0.below hb1 (by omega)
  have hT1 : Below w.heap.size w w1 := hb0.trans (hb1.mono (by omega))
  by_cases hz : e0 = 0
  · subst hz
    have hn1 := ho1.len
    have hr1 := ho1.rd
    clear hno
    go_wp2_with fail
    refine (refRead_any hr1 hoby (Nat.le_refl _) (by omega)).mono ?_
    rintro e w2 ⟨g, rfl, hR, hb2⟩
    have hz2 := hb2.size
    have hk := hk1.below hb2 (by omega)
    have hT := hT1.trans (hb2.mono (by omega))
    have hlo : w1.heap.size ≤ g := by obtain ⟨_, _, _, _, hlo, _⟩ := hR; exact hlo
    have hne : w.heap.size ≠ g := by omega
    have hg2 := hR.lt
    clear hk1 hT1 hx0 hb0 hb1 hb2 ho1 hr1 hr
    have HQ := Kp.mk (show segOf m = ⟨(u1 m).1, (u2 m).1, (u3 m).1, (u4 m).1, (u5 m).1, (u6 m).1, (u7 m).1, (u8 m).1, (u9 m).1⟩ from rfl)
    go_wp2_with fail
    refine (refNum_any 1 hR).mono ?_
    rintro e w3 ⟨rfl, hR', hg'⟩
    replace hk := hk.grown hg' hne
    replace hT := hT.grown hg' (by omega) (by simp; omega)
    have hz3 := hg'.size
    clear hR hg'
    have hU1 := Kp.mk (show u1 m = numR 1 m 0 from rfl)
    generalize numR 1 m 0 = Q at *
    obtain ⟨q1, l1, e1⟩ := Q
    simp only at hR'
    have hR := hR'
    clear hR'
    go_wp2_with fail
    refine (refNum_any 1 hR).mono ?_
    rintro e w4 ⟨rfl, hR', hg'⟩
    replace hk := hk.grown hg' hne
    replace hT := hT.grown hg' (by omega) (by simp; omega)
    have hz4 := hg'.size
    clear hR hg'
    have hU2 := Kp.mk (show u2 m = numR 1 l1 e1 from by unfold u2; rw [hU1.out])
    generalize numR 1 l1 e1 = Q at *
    obtain ⟨q2, l2, e2⟩ := Q
    simp only at hR'
    have hR := hR'
    clear hR'
    go_wp2_with fail
    refine (refNum_any 1 hR).mono ?_
    rintro e w5 ⟨rfl, hR', hg'⟩
    replace hk := hk.grown hg' hne
    replace hT := hT.grown hg' (by omega) (by simp; omega)
    have hz5 := hg'.size
    clear hR hg'
    have hU3 := Kp.mk (show u3 m = numR 1 l2 e2 from by unfold u3; rw [hU2.out])
    generalize numR 1 l2 e2 = Q at *
    obtain ⟨q3, l3, e3⟩ := Q
    simp only at hR'
    have hR := hR'
    clear hR'
    go_wp2_with fail
    refine (refNum_any 1 hR).mono ?_
    rintro e w6 ⟨rfl, hR', hg'⟩
    replace hk := hk.grown hg' hne
    replace hT := hT.grown hg' (by omega) (by simp; omega)
    have hz6 := hg'.size
    clear hR hg'
    have hU4 := Kp.mk (show u4 m = numR 1 l3 e3 from by unfold u4; rw [hU3.out])
    generalize numR 1 l3 e3 = Q at *
    obtain ⟨q4, l4, e4⟩ := Q
    simp only at hR'
    have hR := hR'
    clear hR'
    go_wp2_with fail
    refine (refNum_any 4 hR).mono ?_
    rintro e w7 ⟨rfl, hR', hg'⟩
    replace hk := hk.grown hg' hne
    replace hT := hT.grown hg' (by omega) (by simp; omega)
    have hz7 := hg'.size
    clear hR hg'
    have hU5 := Kp.mk (show u5 m = numR 4 l4 e4 from by unfold u5; rw [hU4.out])
    generalize numR 4 l4 e4 = Q at *
    obtain ⟨q5, l5, e5⟩ := Q
    simp only at hR'
    have hR := hR'
    clear hR'
    go_wp2_with fail
    refine (refNum_any 4 hR).mono ?_
    rintro e w8 ⟨rfl, hR', hg'⟩
    replace hk := hk.grown hg' hne
    replace hT := hT.grown hg' (by omega) (by simp; omega)
    have hz8 := hg'.size
    clear hR hg'
    have hU6 := Kp.mk (show u6 m = numR 4 l5 e5 from by unfold u6; rw [hU5.out])
    generalize numR 4 l5 e5 = Q at *
    obtain ⟨q6, l6, e6⟩ := Q
    simp only at hR'
    have hR := hR'
    clear hR'
    go_wp2_with fail
    refine (refNum_any 2 hR).mono ?_
    rintro e w9 ⟨rfl, hR', hg'⟩
    replace hk := hk.grown hg' hne
    replace hT := hT.grown hg' (by omega) (by simp; omega)
    have hz9 := hg'.size
    clear hR hg'
    have hU7 := Kp.mk (show u7 m = numR 2 l6 e6 from by unfold u7; rw [hU6.out])
    generalize numR 2 l6 e6 = Q at *
    obtain ⟨q7, l7, e7⟩ := Q
    simp only at hR'
    have hR := hR'
    clear hR'
    go_wp2_with fail
    refine (refNum_any 2 hR).mono ?_
    rintro e w10 ⟨rfl, hR', hg'⟩
    replace hk := hk.grown hg' hne
    replace hT := hT.grown hg' (by omega) (by simp; omega)
    have hz10 := hg'.size
    clear hR hg'
    have hU8 := Kp.mk (show u8 m = numR 2 l7 e7 from by unfold u8; rw [hU7.out])
    generalize numR 2 l7 e7 = Q at *
    obtain ⟨q8, l8, e8⟩ := Q
    simp only at hR'
    have hR := hR'
    clear hR'
    go_wp2_with fail
    refine (refText_anyM hR).mono ?_
    have hU9 := Kp.mk (show u9 m = textR l8 e8 by unfold u9; rw [hU8.out])
    generalize textR l8 e8 = Q at *
    obtain ⟨q9, l9, e9⟩ := Q
    rintro en w11 ⟨A2, n2, c2, rfl, ho2, hR', hg'⟩
    simp only at hR' ho2
    have hk2 := hk.grown hg' hne
    have hT2 := hT.grown hg' (by omega) (by simp; omega)
    have hz11 := hg'.size
    clear hR hg' hk hT
    have hR := hR'
    clear hR'
    have hl2 := ho2.len
    rw [hU1.out, hU2.out, hU3.out, hU4.out, hU5.out, hU6.out, hU7.out, hU8.out, hU9.out] at HQ
    have hfine := Kp.mk (show fineS k m ↔ k = 3 ∧ endR l9 e9 = 0 ∧ checkS q1 q2 q3 q4 q5 q6 q7 q8 n2 = 0 by unfold fineS; rw [HQ.out, hU9.out, ← hl2])
    have hyes2 := Kp.mk (show fineS k m → parseS l = (⟨q1, q2, q3, q4, q5, q6, q7, q8, q9⟩, 0) from fun h => by rw [← HQ.out]; exact hyes.out (by first | rfl | trivial) h)
    have hform2 := Kp.mk (show ¬ fineS k m → parseS l = (noSeg, 4) from fun h => hform.out (by first | rfl | trivial) h)
    clear hyes hform
    have hlg := hR.lt
    have h23 := below_alloc w11 (.cells #[.int .i64 q1, .int .i64 q2, .int .i64 q3, .int .i64 q4, .int .i64 q5, .int .i64 q6, .int .i64 q7, .int .i64 q8, .slice A2 n2 c2] 24)
    have hk3 := hk2.below h23 (by omega)
    have hT3 := hT2.trans (h23.mono (by omega))
    have b3 : Sg (w11.alloc (.cells #[.int .i64 q1, .int .i64 q2, .int .i64 q3, .int .i64 q4, .int .i64 q5, .int .i64 q6, .int .i64 q7, .int .i64 q8, .slice A2 n2 c2] 24)) w11.heap.size [q1, q2, q3, q4, q5, q6, q7, q8] (.slice A2 n2 c2) := Sg.new w11 [q1, q2, q3, q4, q5, q6, q7, q8] (.slice A2 n2 c2)
    have hz12 : (w11.alloc (.cells #[.int .i64 q1, .int .i64 q2, .int .i64 q3, .int .i64 q4, .int .i64 q5, .int .i64 q6, .int .i64 q7, .int .i64 q8, .slice A2 n2 c2] 24)).heap.size = w11.heap.size + 1 := by simp
    have ho3 := ho2.alloc (.cells #[.int .i64 q1, .int .i64 q2, .int .i64 q3, .int .i64 q4, .int .i64 q5, .int .i64 q6, .int .i64 q7, .int .i64 q8, .slice A2 n2 c2] 24)
    have hR3 := hR.below h23
    clear hR ho2 hk2 hT2 h23
    go_upto_region 6 with fail
    generalize (w11.alloc (.cells #[.int .i64 q1, .int .i64 q2, .int .i64 q3, .int .i64 q4, .int .i64 q5, .int .i64 q6, .int .i64 q7, .int .i64 q8, .slice A2 n2 c2] 24)) = w12 at *
    obtain ⟨a0, a1, a2, a3, a4, a5, a6, a7, a8⟩ := b3.nine
    have hf := hk3.free
    obtain ⟨d0, d1, d2, d3, d4, d5, d6, d7, d8⟩ := hk3.nine
    generalize hEE : endR l9 e9 = ee at *
    by_cases y1 : k = 3
    rotate_left
    · have k1 : (k == 3) = false := beq_eq_false_iff_ne.2 y1
      have Hend := Kp.mk (hform2.out (fun h => y1 (hfine.out.1 h).1))
      go_wp2_with fail
      have hk9 := (hk3.put (k' := 0) (t' := 0) (f' := 0) (h' := 0) (p' := 0) (o' := 0) (s' := 0) (a' := 0) (m' := .slice none 0 0)).nine
      have hT9 := putS_below hT3 (Nat.le_refl _) 0 0 0 0 0 0 0 0 (.slice none 0 0)
      clear d0 d1 d2 d3 d4 d5 d6 d7 d8 hf a0 a1 a2 a3 a4 a5 a6 a7 a8
      obtain ⟨d0, d1, d2, d3, d4, d5, d6, d7, d8⟩ := hk9
      change bodyPost _ _ _ _ _ (putS w12 w.heap.size 0 0 0 0 0 0 0 0 (.slice none 0 0))
      generalize putS w12 w.heap.size 0 0 0 0 0 0 0 0 (.slice none 0 0) = wd at *
      refine bodyPost_ret (v := .tuple #[.agg #[.int .i64 0, .int .i64 0, .int .i64 0, .int .i64 0, .int .i64 0, .int .i64 0, .int .i64 0, .int .i64 0, .slice none 0 0], .int .i64 4]) (by simp [results, Try.results18, go_sem, d0, d1, d2, d3, d4, d5, d6, d7, d8]) rfl ?_
      exact SegRet.none Hend.out hT9
    subst y1
    go_wp2_with fail
    refine (refEnd_any hR3).mono ?_
    rw [hEE]
    rintro e w' ⟨rfl, rfl⟩
    clear hEE
    by_cases y2 : ee = 0
    rotate_left
    · have k2 : (ee == 0) = false := beq_eq_false_iff_ne.2 y2
      have Hend := Kp.mk (hform2.out (fun h => y2 (hfine.out.1 h).2.1))
      go_wp2_with fail
      have hk9 := (hk3.put (k' := 0) (t' := 0) (f' := 0) (h' := 0) (p' := 0) (o' := 0) (s' := 0) (a' := 0) (m' := .slice none 0 0)).nine
      have hT9 := putS_below hT3 (Nat.le_refl _) 0 0 0 0 0 0 0 0 (.slice none 0 0)
      clear d0 d1 d2 d3 d4 d5 d6 d7 d8 hf a0 a1 a2 a3 a4 a5 a6 a7 a8
      obtain ⟨d0, d1, d2, d3, d4, d5, d6, d7, d8⟩ := hk9
      change bodyPost _ _ _ _ _ (putS w12 w.heap.size 0 0 0 0 0 0 0 0 (.slice none 0 0))
      generalize putS w12 w.heap.size 0 0 0 0 0 0 0 0 (.slice none 0 0) = wd at *
      refine bodyPost_ret (v := .tuple #[.agg #[.int .i64 0, .int .i64 0, .int .i64 0, .int .i64 0, .int .i64 0, .int .i64 0, .int .i64 0, .int .i64 0, .slice none 0 0], .int .i64 4]) (by simp [results, Try.results18, go_sem, d0, d1, d2, d3, d4, d5, d6, d7, d8]) rfl ?_
      exact SegRet.none Hend.out hT9
    subst y2
    go_wp2_with fail
    refine (refCheckS_any q1 q2 q3 q4 q5 q6 q7 q8 A2 n2 c2 w12).mono ?_
    rintro e w13 ⟨rfl, h34⟩
    have b4 := b3.below h34 (by omega)
    have hk4 := hk3.below h34 (by omega)
    have hT4 := hT3.trans (h34.mono (by omega))
    have ho4 := ho3.below h34 (Nat.le_refl _)
    have hz13 := h34.size
    clear a0 a1 a2 a3 a4 a5 a6 a7 a8 d0 d1 d2 d3 d4 d5 d6 d7 d8 hf
    have hf := hk4.free
    obtain ⟨d0, d1, d2, d3, d4, d5, d6, d7, d8⟩ := hk4.nine
    obtain ⟨a0, a1, a2, a3, a4, a5, a6, a7, a8⟩ := b4.nine
    generalize hC : checkS q1 q2 q3 q4 q5 q6 q7 q8 n2 = ck at *
    clear hC
    by_cases y3 : ck = 0
    · subst y3
      have Hend := Kp.mk (hyes2.out (hfine.out.2 (by simp)))
      go_wp2_with fail
      have hk9 := (hk4.put (k' := q1) (t' := q2) (f' := q3) (h' := q4) (p' := q5) (o' := q6) (s' := q7) (a' := q8) (m' := .slice A2 n2 c2)).nine
      have hT9 := putS_below hT4 (Nat.le_refl _) q1 q2 q3 q4 q5 q6 q7 q8 (.slice A2 n2 c2)
      have ho9 := own_keep ho4 (putS_grown w13 w.heap.size q1 q2 q3 q4 q5 q6 q7 q8 (.slice A2 n2 c2)) (by omega)
      clear d0 d1 d2 d3 d4 d5 d6 d7 d8 hf a0 a1 a2 a3 a4 a5 a6 a7 a8
      obtain ⟨d0, d1, d2, d3, d4, d5, d6, d7, d8⟩ := hk9
      change bodyPost _ _ _ _ _ (putS w13 w.heap.size q1 q2 q3 q4 q5 q6 q7 q8 (.slice A2 n2 c2))
      generalize putS w13 w.heap.size q1 q2 q3 q4 q5 q6 q7 q8 (.slice A2 n2 c2) = wd at *
      refine bodyPost_ret (v := .tuple #[.agg #[.int .i64 q1, .int .i64 q2, .int .i64 q3, .int .i64 q4, .int .i64 q5, .int .i64 q6, .int .i64 q7, .int .i64 q8, .slice A2 n2 c2], .int .i64 0]) (by simp [results, Try.results18, go_sem, d0, d1, d2, d3, d4, d5, d6, d7, d8]) rfl ?_
      exact SegRet.mk Hend.out (ho9.lower (by omega)) hT9
    · have k3 : (ck == 0) = false := beq_eq_false_iff_ne.2 y3
      have Hend := Kp.mk (hform2.out (fun h => y3 (hfine.out.1 h).2.2))
      go_wp2_with fail
      have hk9 := (hk4.put (k' := 0) (t' := 0) (f' := 0) (h' := 0) (p' := 0) (o' := 0) (s' := 0) (a' := 0) (m' := .slice none 0 0)).nine
      have hT9 := putS_below hT4 (Nat.le_refl _) 0 0 0 0 0 0 0 0 (.slice none 0 0)
      clear d0 d1 d2 d3 d4 d5 d6 d7 d8 hf a0 a1 a2 a3 a4 a5 a6 a7 a8
      obtain ⟨d0, d1, d2, d3, d4, d5, d6, d7, d8⟩ := hk9
      change bodyPost _ _ _ _ _ (putS w13 w.heap.size 0 0 0 0 0 0 0 0 (.slice none 0 0))
      generalize putS w13 w.heap.size 0 0 0 0 0 0 0 0 (.slice none 0 0) = wd at *
      refine bodyPost_ret (v := .tuple #[.agg #[.int .i64 0, .int .i64 0, .int .i64 0, .int .i64 0, .int .i64 0, .int .i64 0, .int .i64 0, .int .i64 0, .slice none 0 0], .int .i64 4]) (by simp [results, Try.results18, go_sem, d0, d1, d2, d3, d4, d5, d6, d7, d8]) rfl ?_
      exact SegRet.none Hend.out hT9
  · have Hend := Kp.mk (hno.out hz)
    have hf := hk1.free
    obtain ⟨d0, d1, d2, d3, d4, d5, d6, d7, d8⟩ := hk1.nine
    go_wp2_with fail
    have hk9 := (hk1.put (k' := 0) (t' := 0) (f' := 0) (h' := 0) (p' := 0) (o' := 0) (s' := 0) (a' := 0) (m' := .slice none 0 0)).nine
    have hT9 := putS_below hT1 (Nat.le_refl _) 0 0 0 0 0 0 0 0 (.slice none 0 0)
    clear d0 d1 d2 d3 d4 d5 d6 d7 d8 hf
    obtain ⟨d0, d1, d2, d3, d4, d5, d6, d7, d8⟩ := hk9
    change bodyPost _ _ _ _ _ (putS w1 w.heap.size 0 0 0 0 0 0 0 0 (.slice none 0 0))
    generalize putS w1 w.heap.size 0 0 0 0 0 0 0 0 (.slice none 0 0) = wd at *
    refine bodyPost_ret (v := .tuple #[.agg #[.int .i64 0, .int .i64 0, .int .i64 0, .int .i64 0, .int .i64 0, .int .i64 0, .int .i64 0, .int .i64 0, .slice none 0 0], .int .i64 e0]) (by simp [results, Try.results18, go_sem, d0, d1, d2, d3, d4, d5, d6, d7, d8]) rfl ?_
    exact SegRet.none Hend.out hT9
end Go.Proofs.Ytbniefgfiafaoaa.Oct
