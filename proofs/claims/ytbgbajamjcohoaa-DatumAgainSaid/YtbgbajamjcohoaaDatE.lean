/- Contracts of layer 3: a datum is read of its bytes. -/
import Derived.Test.YtbgbajamjcohoaaDatD
namespace Go.Proofs.Ytbgbajamjcohoaa.Oct
open Go.RowKit
set_option linter.unusedVariables false

/-- Six numbers and an error are answered. -/
def SixOf (x : (Int × Int × Int × Int × Int × Int) × Int) (w : World) : Ending → World → Prop := DatOf x.1.1 x.1.2.1 x.1.2.2.1 x.1.2.2.2.1 x.1.2.2.2.2.1 x.1.2.2.2.2.2 x.2 w
theorem openP_len (l : List Int) : (openP l).2.1.length ≤ 509 := by
  unfold openP
  split
  · simp
  · split
    · simp
    · split
      · simp only [List.length_take]; omega
      · simp
theorem endR_zero (l : List Int) (e : Int) : endR l e = 0 ↔ (e = 0 ∧ l.length = 0) := by
  unfold endR
  split
  · constructor
    · intro h; omega
    · rintro ⟨_, h⟩; omega
  · constructor
    · intro h; exact ⟨h, by omega⟩
    · rintro ⟨h, _⟩; exact h
theorem parseD_no {l : List Int} (h : (openP l).2.2 ≠ 0) : parseD l = ((0, 0, 0, 0, 0, 0), (openP l).2.2) := if_pos h
/-- Whether what was opened is a datum's. -/
def fineD (k : Int) (m : List Int) : Prop := k = 1 ∧ endR (r6 m).2.1 (r6 m).2.2 = 0 ∧ checkD (r1 m).1 (r2 m).1 (r3 m).1 = 0
theorem checkD_zero (v h i : Int) : checkD v h i = 0 ↔ okD v h i := by
  unfold checkD
  split
  · rename_i h; exact ⟨fun _ => h, fun _ => rfl⟩
  · rename_i h; exact ⟨fun e => by omega, fun e => absurd e h⟩
theorem parseD_yes {l : List Int} (h : (openP l).2.2 = 0) (hf : fineD (openP l).1 (openP l).2.1) :
    parseD l = (((r1 (openP l).2.1).1, (r2 (openP l).2.1).1, (r3 (openP l).2.1).1, (r4 (openP l).2.1).1, (r5 (openP l).2.1).1, (r6 (openP l).2.1).1), 0) := by
  unfold parseD
  obtain ⟨h1, h2, h3⟩ := hf
  rw [if_neg (by simpa using h), if_pos ⟨h1, (endR_zero _ _).1 h2, (checkD_zero _ _ _).1 h3⟩]
theorem parseD_form {l : List Int} (h : (openP l).2.2 = 0) (hf : ¬ fineD (openP l).1 (openP l).2.1) : parseD l = ((0, 0, 0, 0, 0, 0), 4) := by
  unfold parseD
  rw [if_neg (by simpa using h), if_neg (fun ⟨h1, h2, h3⟩ => hf ⟨h1, (endR_zero _ _).2 h2, (checkD_zero _ _ _).2 h3⟩)]

/-- The rest of Parse behind Open, as cases: what is answered. -/
theorem SixOf.mk {w w' : World} {x : (Int × Int × Int × Int × Int × Int) × Int} {v h i a b c e : Int} (hp : x = ((v, h, i, a, b, c), e)) (hb : Below w.heap.size w w') :
    SixOf x w (.returned (.tuple #[.agg #[.int .i64 v, .int .i64 h, .int .i64 i, .int .u8 a, .int .u8 b, .int .u8 c], .int .i64 e])) w' := by
  subst hp; exact ⟨rfl, hb⟩

set_option maxRecDepth 100000 in
set_option maxHeartbeats 1600000 in
theorem parse_any {w : World} {B : Nat} {A : Option Addr} {n c : Nat} {l : List Int} (hr : Rd .u8 w B A n c l) (hl : By l) (hB : B ≤ w.heap.size) :
    Calls Try.prog 16 #[.slice A n c] w (SixOf (parseD l) w) := by
  have hoby := openP_by l hl
  have hol := openP_len l
  have hno := Kp.mk (@parseD_no l)
  have hyes := Kp.mk (@parseD_yes l)
  have hform := Kp.mk (@parseD_form l)
  obtain ⟨k, hk⟩ : ∃ k, (openP l).1 = k := ⟨_, rfl⟩
  obtain ⟨m, hm⟩ : ∃ m, (openP l).2.1 = m := ⟨_, rfl⟩
  obtain ⟨e0, he⟩ : ∃ e, (openP l).2.2 = e := ⟨_, rfl⟩
  have Hopen := Kp.mk (show openP l = (k, m, e0) by rw [← hk, ← hm, ← he])
  rw [hk, hm, he] at hyes hform
  rw [he] at hno
  rw [hm] at hoby hol
  clear hk hm he
  go_enter Try.func16, Try.ntmps16
  go_wp2_with fail
  have hb0 := below_alloc w (.cells #[.int .i64 0, .int .i64 0, .int .i64 0, .int .u8 0, .int .u8 0, .int .u8 0] 25)
  generalize hW : (w.alloc (.cells #[.int .i64 0, .int .i64 0, .int .i64 0, .int .u8 0, .int .u8 0, .int .u8 0] 25)) = w0 at *
  have hz0 : w0.heap.size = w.heap.size + 1 := by rw [← hW]; simp
  have hx0 : Bk w0 w.heap.size 0 0 0 0 0 0 := by rw [← hW]; exact Bk.new w 0 0 0 0 0 0
  clear hW
  refine (open_any (hr.below' hb0 hB) hl (by omega)).mono ?_
  rw [Hopen.out]
  rintro e w1 ⟨A1, n1, c1, rfl, ho1, hb1⟩
  have hz1 := hb1.size
  have hk1 := hx0.below hb1 (by omega)
  have hT1 : Below w.heap.size w w1 := hb0.trans (hb1.mono (by omega))
  by_cases hz : e0 = 0
  · subst hz
    have hn1 := ho1.len
    have hr1 := ho1.rd
    clear hno
    go_wp2_with fail
    refine (readB_any hr1 hoby (Nat.le_refl _) (by omega)).mono ?_
    rintro e w2 ⟨rfl, hb2⟩
    have hk2 := hk1.below hb2 (by omega)
    have hz2 := hb2.size
    have hT2 := hT1.trans (hb2.mono (by omega))
    generalize hE : endR (r6 m).2.1 (r6 m).2.2 = ee at *
    have HE := Kp.mk hE
    clear hE
    generalize hQ1 : (r1 m).1 = q1 at *
    have H1 := Kp.mk hQ1
    clear hQ1
    generalize hQ2 : (r2 m).1 = q2 at *
    have H2 := Kp.mk hQ2
    clear hQ2
    generalize hQ3 : (r3 m).1 = q3 at *
    have H3 := Kp.mk hQ3
    clear hQ3
    generalize hQ4 : (r4 m).1 = q4 at *
    have H4 := Kp.mk hQ4
    clear hQ4
    generalize hQ5 : (r5 m).1 = q5 at *
    have H5 := Kp.mk hQ5
    clear hQ5
    generalize hQ6 : (r6 m).1 = q6 at *
    have H6 := Kp.mk hQ6
    clear hQ6
    have hf := hk2.free
    obtain ⟨d0, d1, d2, d3, d4, d5⟩ := hk2.cells
    by_cases c1 : k = 1
    · by_cases c2 : ee = 0
      · subst c1 c2
        go_wp2_with fail
        have b3 := Bk.new w2 q1 q2 q3 q4 q5 q6
        have h23 := below_alloc w2 (.cells #[.int .i64 q1, .int .i64 q2, .int .i64 q3, .int .u8 q4, .int .u8 q5, .int .u8 q6] 25)
        generalize hW : (w2.alloc (.cells #[.int .i64 q1, .int .i64 q2, .int .i64 q3, .int .u8 q4, .int .u8 q5, .int .u8 q6] 25)) = w3 at *
        have hz3 : w3.heap.size = w2.heap.size + 1 := by rw [← hW]; simp
        clear hW
        refine (check_any q1 q2 q3 q4 q5 q6 w3).mono ?_
        rintro e w4 ⟨rfl, h34⟩
        have b4 := b3.below h34 (by omega)
        have hk4 := (hk2.below h23 (by omega)).below h34 (by omega)
        have hT4 := (hT2.trans (h23.mono (by omega))).trans (h34.mono (by omega))
        clear d0 d1 d2 d3 d4 d5 hf
        have hf := hk4.free
        obtain ⟨d0, d1, d2, d3, d4, d5⟩ := hk4.cells
        obtain ⟨a0, a1, a2, a3, a4, a5⟩ := b4.cells
        generalize hC : checkD q1 q2 q3 = ck at *
        have HC := Kp.mk hC
        clear hC
        by_cases c3 : ck = 0
        · subst c3
          have Hend := Kp.mk (show parseD l = ((q1, q2, q3, q4, q5, q6), 0) by
            exact hyes.out (by first | rfl | trivial) ⟨rfl, HE.out, by rw [H1.out, H2.out, H3.out]; exact HC.out⟩)
          go_wp2_with fail
          have hk9 := (hk4.put q1 q2 q3 q4 q5 q6).cells
          have hT9 := putD_below hT4 (Nat.le_refl _) q1 q2 q3 q4 q5 q6
          clear d0 d1 d2 d3 d4 d5 hf
          obtain ⟨d0, d1, d2, d3, d4, d5⟩ := hk9
          change bodyPost _ _ _ _ _ (putD w4 w.heap.size q1 q2 q3 q4 q5 q6)
          generalize putD w4 w.heap.size q1 q2 q3 q4 q5 q6 = wd at *
          refine bodyPost_ret (v := .tuple #[.agg #[.int .i64 q1, .int .i64 q2, .int .i64 q3, .int .u8 q4, .int .u8 q5, .int .u8 q6], .int .i64 0]) (by simp [results, Try.results16, go_sem, d0, d1, d2, d3, d4, d5]) rfl ?_
          exact SixOf.mk Hend.out hT9
        · have Hend := Kp.mk (hform.out (by first | rfl | trivial) (fun h => c3 (by have := h.2.2; rw [H1.out, H2.out, H3.out] at this; exact HC.out.symm.trans this)))
          go_wp2_with fail
          have hk9 := (hk4.put 0 0 0 0 0 0).cells
          have hT9 := putD_below hT4 (Nat.le_refl _) 0 0 0 0 0 0
          clear d0 d1 d2 d3 d4 d5 hf
          obtain ⟨d0, d1, d2, d3, d4, d5⟩ := hk9
          change bodyPost _ _ _ _ _ (putD w4 w.heap.size 0 0 0 0 0 0)
          generalize putD w4 w.heap.size 0 0 0 0 0 0 = wd at *
          refine bodyPost_ret (v := .tuple #[.agg #[.int .i64 0, .int .i64 0, .int .i64 0, .int .u8 0, .int .u8 0, .int .u8 0], .int .i64 4]) (by simp [results, Try.results16, go_sem, d0, d1, d2, d3, d4, d5]) rfl ?_
          exact SixOf.mk Hend.out hT9
      · have Hend := Kp.mk (hform.out (by first | rfl | trivial) (fun h => c2 (HE.out.symm.trans h.2.1)))
        subst c1
        have h23 := below_alloc w2 (.cells #[.int .i64 q1, .int .i64 q2, .int .i64 q3, .int .u8 q4, .int .u8 q5, .int .u8 q6] 25)
        have hk3 := hk2.below h23 (by omega)
        have hT3 := hT2.trans (h23.mono (by omega))
        clear d0 d1 d2 d3 d4 d5 hf
        have hf := hk3.free
        obtain ⟨d0, d1, d2, d3, d4, d5⟩ := hk3.cells
        go_wp2_with fail
        generalize (w2.alloc (.cells #[.int .i64 q1, .int .i64 q2, .int .i64 q3, .int .u8 q4, .int .u8 q5, .int .u8 q6] 25)) = w3 at *
        have hk9 := (hk3.put 0 0 0 0 0 0).cells
        have hT9 := putD_below hT3 (Nat.le_refl _) 0 0 0 0 0 0
        clear d0 d1 d2 d3 d4 d5 hf
        obtain ⟨d0, d1, d2, d3, d4, d5⟩ := hk9
        change bodyPost _ _ _ _ _ (putD w3 w.heap.size 0 0 0 0 0 0)
        generalize putD w3 w.heap.size 0 0 0 0 0 0 = wd at *
        refine bodyPost_ret (v := .tuple #[.agg #[.int .i64 0, .int .i64 0, .int .i64 0, .int .u8 0, .int .u8 0, .int .u8 0], .int .i64 4]) (by simp [results, Try.results16, go_sem, d0, d1, d2, d3, d4, d5]) rfl ?_
        exact SixOf.mk Hend.out hT9
    · have Hend := Kp.mk (hform.out (by first | rfl | trivial) (fun h => c1 h.1))
      have h23 := below_alloc w2 (.cells #[.int .i64 q1, .int .i64 q2, .int .i64 q3, .int .u8 q4, .int .u8 q5, .int .u8 q6] 25)
      have hk3 := hk2.below h23 (by omega)
      have hT3 := hT2.trans (h23.mono (by omega))
      clear d0 d1 d2 d3 d4 d5 hf
      have hf := hk3.free
      obtain ⟨d0, d1, d2, d3, d4, d5⟩ := hk3.cells
      go_wp2_with fail
      generalize (w2.alloc (.cells #[.int .i64 q1, .int .i64 q2, .int .i64 q3, .int .u8 q4, .int .u8 q5, .int .u8 q6] 25)) = w3 at *
      have hk9 := (hk3.put 0 0 0 0 0 0).cells
      have hT9 := putD_below hT3 (Nat.le_refl _) 0 0 0 0 0 0
      clear d0 d1 d2 d3 d4 d5 hf
      obtain ⟨d0, d1, d2, d3, d4, d5⟩ := hk9
      change bodyPost _ _ _ _ _ (putD w3 w.heap.size 0 0 0 0 0 0)
      generalize putD w3 w.heap.size 0 0 0 0 0 0 = wd at *
      refine bodyPost_ret (v := .tuple #[.agg #[.int .i64 0, .int .i64 0, .int .i64 0, .int .u8 0, .int .u8 0, .int .u8 0], .int .i64 4]) (by simp [results, Try.results16, go_sem, d0, d1, d2, d3, d4, d5]) rfl ?_
      exact SixOf.mk Hend.out hT9
  · have Hend := Kp.mk (hno.out hz)
    have hf := hk1.free
    obtain ⟨d0, d1, d2, d3, d4, d5⟩ := hk1.cells
    go_wp2_with fail
    have hk9 := (hk1.put 0 0 0 0 0 0).cells
    have hT9 := putD_below hT1 (Nat.le_refl _) 0 0 0 0 0 0
    clear d0 d1 d2 d3 d4 d5 hf
    obtain ⟨d0, d1, d2, d3, d4, d5⟩ := hk9
    change bodyPost _ _ _ _ _ (putD w1 w.heap.size 0 0 0 0 0 0)
    generalize putD w1 w.heap.size 0 0 0 0 0 0 = wd at *
    refine bodyPost_ret (v := .tuple #[.agg #[.int .i64 0, .int .i64 0, .int .i64 0, .int .u8 0, .int .u8 0, .int .u8 0], .int .i64 e0]) (by simp [results, Try.results16, go_sem, d0, d1, d2, d3, d4, d5]) rfl ?_
    exact SixOf.mk Hend.out hT9
end Go.Proofs.Ytbgbajamjcohoaa.Oct
