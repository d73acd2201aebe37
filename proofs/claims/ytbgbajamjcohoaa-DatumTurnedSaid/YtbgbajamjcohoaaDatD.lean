/- Contracts of layer 3: a body is read, and a datum is read of its bytes. -/
import Derived.Test.YtbgbajamjcohoaaDatC
import Derived.LoopN
import Derived.StillTailTactics
import Derived.Deep.RegionHeld3
namespace Go.Proofs.Ytbgbajamjcohoaa.Oct
open Go.RowKit
set_option linter.unusedVariables false

theorem num1_bd (l : List Int) (e : Int) (h : By l) : 0 ≤ (numR 1 l e).1 ∧ (numR 1 l e).1 < 256 := by
  unfold numR
  split
  · exact ⟨by simp, by simp⟩
  · split
    · split
      · exact ⟨by simp, by simp⟩
      · have := num_lt (l.take (1 : Int).toNat) (h.take _)
        have h2 : (l.take (1 : Int).toNat).length ≤ 1 := by rw [List.length_take]; simp; omega
        have h3 : 256 ^ (l.take (1 : Int).toNat).length ≤ 256 ^ 1 := Nat.pow_le_pow_right (by omega) h2
        exact ⟨by simp, by have e0 : (Int.toNat 1) = 1 := rfl; rw [e0] at this h3 ⊢; omega⟩
    · exact ⟨by simp, by simp⟩
/-- A datum lies in a block of its own. -/
def Bk (w : World) (g : Nat) (v h i a b c : Int) : Prop := w.heap[g]? = some (.cells #[.int .i64 v, .int .i64 h, .int .i64 i, .int .u8 a, .int .u8 b, .int .u8 c] 25 (0, 0))
section
variable {w w' : World} {g r B : Nat} {v h i a b c : Int}
theorem Bk.lt (hx : Bk w g v h i a b c) : g < w.heap.size := (Array.getElem?_eq_some_iff.1 hx).1
theorem Bk.new (w : World) (v h i a b c : Int) : Bk (w.alloc (.cells #[.int .i64 v, .int .i64 h, .int .i64 i, .int .u8 a, .int .u8 b, .int .u8 c] 25)) w.heap.size v h i a b c := heap_alloc_new w _
theorem Bk.grown (hx : Bk w g v h i a b c) (hg : w.grownBy w' (some r)) (hne : g ≠ r) : Bk w' g v h i a b c :=
  (hg.block g hx.lt (by simp; exact hne)).trans hx
theorem Bk.below (hx : Bk w g v h i a b c) (hb : Below B w w') (hB : g < B) : Bk w' g v h i a b c := (hb.block g hB).trans hx
theorem Bk.cells (hx : Bk w g v h i a b c) : Bx w g v h i a b c := by
  refine ⟨?_, ?_, ?_, ?_, ?_, ?_⟩ <;> simp [World.cell?, show w.heap[g]? = _ from hx]
theorem Bk.free (hx : Bk w g v h i a b c) (j : Nat) : w.frozen? ⟨g, j, none⟩ = false := by simp [World.frozen?, show w.heap[g]? = _ from hx]
theorem Bk.set0 (hx : Bk w g v h i a b c) (x : Int) : Bk (w.setCell ⟨g, 3, none⟩ (.int .u8 x)) g v h i x b c := by
  simp [Bk, World.setCell, Array.getElem?_modify, show w.heap[g]? = _ from hx]
theorem Bk.set1 (hx : Bk w g v h i a b c) (x : Int) : Bk (w.setCell ⟨g, 4, none⟩ (.int .u8 x)) g v h i a x c := by
  simp [Bk, World.setCell, Array.getElem?_modify, show w.heap[g]? = _ from hx]
theorem Bk.set2 (hx : Bk w g v h i a b c) (x : Int) : Bk (w.setCell ⟨g, 5, none⟩ (.int .u8 x)) g v h i a b x := by
  simp [Bk, World.setCell, Array.getElem?_modify, show w.heap[g]? = _ from hx]
end
/-- A datum that is stored whole. -/
def putD (w : World) (g : Nat) (v h i a b c : Int) : World :=
  (((((w.setCell ⟨g, 0, none⟩ (.int .i64 v)).setCell ⟨g, 1, none⟩ (.int .i64 h)).setCell ⟨g, 2, none⟩ (.int .i64 i)).setCell ⟨g, 3, none⟩ (.int .u8 a)).setCell ⟨g, 4, none⟩ (.int .u8 b)).setCell ⟨g, 5, none⟩ (.int .u8 c)
theorem putD_below {B : Nat} {w0 w : World} {g : Nat} (h0 : Below B w0 w) (hg : B ≤ g) (v h i a b c : Int) : Below B w0 (putD w g v h i a b c) :=
  (((((h0.setCell (by simpa using hg) _).setCell (by simpa using hg) _).setCell (by simpa using hg) _).setCell (by simpa using hg) _).setCell (by simpa using hg) _).setCell (by simpa using hg) _
theorem Bk.put {w : World} {g : Nat} {v h i a b c : Int} (hx : Bk w g v h i a b c) (v' h' i' a' b' c' : Int) : Bk (putD w g v' h' i' a' b' c') g v' h' i' a' b' c' := by
  simp [Bk, putD, World.setCell, Array.getElem?_modify, show w.heap[g]? = _ from hx]
theorem Rdr.off {T : TypeId} {w : World} {lo g : Nat} {l : List Int} {e : Int} (h : Rdr T w lo g l e) (b o : Nat) (u : Value) (hb : g < b) : Rdr T (w.setCell ⟨b, o, none⟩ u) lo g l e :=
  h.keep (grownBy_set w b o u) (fun k e => .inr (by simp at e; omega))
/-- A datum and an error are answered; only new memory. -/
def DatOf (v h i a b c e : Int) (w : World) (en : Ending) (w' : World) : Prop :=
  en = .returned (.tuple #[.agg #[.int .i64 v, .int .i64 h, .int .i64 i, .int .u8 a, .int .u8 b, .int .u8 c], .int .i64 e]) ∧ Below w.heap.size w w'
/-- What reading a body tells. -/
def readD (l : List Int) (w : World) : Ending → World → Prop :=
  DatOf (r1 l).1 (r2 l).1 (r3 l).1 (r4 l).1 (r5 l).1 (r6 l).1 (endR (r6 l).2.1 (r6 l).2.2) w

set_option maxRecDepth 100000 in
set_option maxHeartbeats 1600000 in
theorem readB_any {w : World} {B : Nat} {A : Option Addr} {n c : Nat} {l : List Int} (hr : Rd .u8 w B A n c l) (hl : By l) (hB : B ≤ w.heap.size) (hn : n ≤ 140737488355000) :
    Calls Try.prog 26 #[.slice A n c] w (readD l w) := by
  go_enter Try.func26, Try.ntmps26
  go_wp2_with fail
  have hb0 := below_alloc w (.cells #[.int .i64 0, .int .i64 0, .int .i64 0, .int .u8 0, .int .u8 0, .int .u8 0] 25)
  generalize hW : (w.alloc (.cells #[.int .i64 0, .int .i64 0, .int .i64 0, .int .u8 0, .int .u8 0, .int .u8 0] 25)) = w0 at *
  have hz0 : w0.heap.size = w.heap.size + 1 := by rw [← hW]; simp
  have hx0 : Bk w0 w.heap.size 0 0 0 0 0 0 := by rw [← hW]; exact Bk.new w 0 0 0 0 0 0
  clear hW
  refine (read_any (hr.below' hb0 hB) hl (by omega) (by omega)).mono ?_
  rintro e w1 ⟨g, rfl, hR1, hb1⟩
  have hz1 := hb1.size
  go_wp2_with fail
  refine (num_any 1 hR1).mono ?_
  rintro e w2 ⟨rfl, hR2, hg2⟩
  go_wp2_with fail
  refine (num_any 1 hR2).mono ?_
  rintro e w3 ⟨rfl, hR3, hg3⟩
  go_wp2_with fail
  refine (num_any 4 hR3).mono ?_
  rintro e w4 ⟨rfl, hR4, hg4⟩
  have hz4 := hR4.lt
  generalize hQ1 : numR 1 l 0 = q1 at *
  have h1' := Kp.mk hQ1
  clear hQ1
  generalize hQ2 : numR 1 q1.2.1 q1.2.2 = q2 at *
  have h2' := Kp.mk hQ2
  clear hQ2
  generalize hQ3 : numR 4 q2.2.1 q2.2.2 = q3 at *
  have h3' := Kp.mk hQ3
  clear hQ3
  go_wp2_with fail
  refine wp_loop_rounds 4 ?_
  rw [rounds_succ]
  go_wp2_with fail
  have hR5 := hR4.below (below_alloc w4 (.cells #[.int .i64 q1.1, .int .i64 q2.1, .int .i64 q3.1, .int .u8 0, .int .u8 0, .int .u8 0] 25))
  have hx5 := Bk.new w4 q1.1 q2.1 q3.1 0 0 0
  have hb5 := below_alloc w4 (.cells #[.int .i64 q1.1, .int .i64 q2.1, .int .i64 q3.1, .int .u8 0, .int .u8 0, .int .u8 0] 25)
  generalize hW : (w4.alloc (.cells #[.int .i64 q1.1, .int .i64 q2.1, .int .i64 q3.1, .int .u8 0, .int .u8 0, .int .u8 0] 25)) = w5 at *
  have hz5 : w5.heap.size = w4.heap.size + 1 := by rw [← hW]; simp
  clear hW
  generalize hG : w4.heap.size = b5 at *
  clear hG
  refine (num_any 1 hR5).mono ?_
  rintro e w6 ⟨rfl, hR6, hg6⟩
  have hn6 := num1_bd q3.2.1 q3.2.2 hR5.by_
  have hx6 := hx5.grown hg6 (by omega)
  have hz6 := hg6.size
  generalize hQ4 : numR 1 q3.2.1 q3.2.2 = q4 at *
  have h4' := Kp.mk hQ4
  clear hQ4
  have hf6 := hx6.free
  obtain ⟨d0, d1, d2, d3, d4, d5⟩ := id hx6.cells
  obtain ⟨n61, n62⟩ := hn6
  have hR6' := hR6.off b5 3 (.int .u8 q4.1) (by omega)
  have hx6' := hx6.set0 q4.1
  have hg6' := grownBy_set w6 b5 3 (.int .u8 q4.1)
  go_wp2_with fail
  clear d0 d1 d2 d3 d4 d5 hf6
  rw [rounds_succ]
  generalize hW : w6.setCell ⟨b5, 3, none⟩ (.int .u8 q4.1) = w7 at *
  have hz7 := hg6'.size
  clear hW
  go_wp2_with fail
  refine (num_any 1 hR6').mono ?_
  rintro e w8 ⟨rfl, hR8, hg8⟩
  have hn8 := num1_bd q4.2.1 q4.2.2 hR6'.by_
  have hx8 := hx6'.grown hg8 (by omega)
  have hz8 := hg8.size
  generalize hQ5 : numR 1 q4.2.1 q4.2.2 = q5 at *
  have h5' := Kp.mk hQ5
  clear hQ5
  have hf8 := hx8.free
  obtain ⟨d0, d1, d2, d3, d4, d5⟩ := id hx8.cells
  obtain ⟨n81, n82⟩ := hn8
  have hR8' := hR8.off b5 4 (.int .u8 q5.1) (by omega)
  have hx8' := hx8.set1 q5.1
  have hg8' := grownBy_set w8 b5 4 (.int .u8 q5.1)
  go_wp2_with fail
  clear d0 d1 d2 d3 d4 d5 hf8
  rw [rounds_succ]
  generalize hW : w8.setCell ⟨b5, 4, none⟩ (.int .u8 q5.1) = w9 at *
  have hz9 := hg8'.size
  clear hW
  go_wp2_with fail
  refine (num_any 1 hR8').mono ?_
  rintro e wa ⟨rfl, hRa, hga⟩
  have hna := num1_bd q5.2.1 q5.2.2 hR8'.by_
  have hxa := hx8'.grown hga (by omega)
  have hza := hga.size
  generalize hQ6 : numR 1 q5.2.1 q5.2.2 = q6 at *
  have h6' := Kp.mk hQ6
  clear hQ6
  have hfa := hxa.free
  obtain ⟨d0, d1, d2, d3, d4, d5⟩ := id hxa.cells
  obtain ⟨na1, na2⟩ := hna
  have hRa' := hRa.off b5 5 (.int .u8 q6.1) (by omega)
  have hxa' := hxa.set2 q6.1
  have hga' := grownBy_set wa b5 5 (.int .u8 q6.1)
  go_wp2_with fail
  clear d0 d1 d2 d3 d4 d5 hfa
  rw [rounds_succ]
  generalize hW : wa.setCell ⟨b5, 5, none⟩ (.int .u8 q6.1) = wb at *
  have hzb := hga'.size
  clear hW
  obtain ⟨d0, d1, d2, d3, d4, d5⟩ := id hxa'.cells
  go_wp2_with fail
  clear d0 d1 d2 d3 d4 d5
  have hd := hxa'.cells
  have hlo : w0.heap.size ≤ g := by obtain ⟨_, _, _, _, hlo, _⟩ := hR1; exact hlo
  have hk1 := hx0.below hb1 (by omega)
  have hne : w.heap.size ≠ g := by omega
  have z2 := hg2.size
  have z3 := hg3.size
  have z4 := hg4.size
  have hne2 : w.heap.size ≠ b5 := by omega
  have hk := ((((((((((hk1.grown hg2 hne).grown hg3 hne).grown hg4 hne).below hb5 (by omega)).grown hg6 hne).grown hg6' hne2).grown hg8 hne).grown hg8' hne2).grown hga hne).grown hga' hne2)
  have hRd : Rdr 66 wb.drew w0.heap.size g q6.2.1 q6.2.2 := hRa'
  have hT : Below w.heap.size w wb := ((((((((((hb0.trans (hb1.mono (by omega))).grown hg2 (by omega) (by simp; omega)).grown hg3 (by omega) (by simp; omega)).grown hg4 (by omega) (by simp; omega)).trans (hb5.mono (by omega))).grown hg6 (by omega) (by simp; omega)).grown hg6' (by omega) (by simp; omega)).grown hg8 (by omega) (by simp; omega)).grown hg8' (by omega) (by simp; omega)).grown hga (by omega) (by simp; omega)).grown hga' (by omega) (by simp; omega)
  obtain ⟨d0, d1, d2, d3, d4, d5⟩ := hd
  clear hR1 hR2 hR3 hR4 hR5 hR6 hR6' hR8 hR8' hRa hRa' hx5 hx6 hx6' hx8 hx8' hxa hxa' hx0 hg2 hg3 hg4 hg6 hg6' hg8 hg8' hga hga' hr hk1 hne hne2 hb0 hb1 hb5
  go_still_tail 3, (by kernel_rfl)
  refine wpStill_step (fun K hK => ?_)
  go_simp
  refine ⟨_, (endM_any hRd).mono (fun _ _ ⟨h1, h2⟩ => ⟨h1, h2.symm⟩), hK _ ?_⟩
  clear hK K
  refine wpStill_nil ?_
  have hkc : Bk wb.drew w.heap.size 0 0 0 0 0 0 := hk
  have hTc : Below w.heap.size w wb.drew := hT.drew
  clear hk hT d0 d1 d2 d3 d4 d5 hRd
  change wpList _ _ _ _ _ wb.drew
  generalize wb.drew = wc at *
  obtain ⟨d0, d1, d2, d3, d4, d5⟩ := hkc.cells
  have hf := hkc.free
  go_wp2_with fail
  have hk9 := (hkc.put q1.1 q2.1 q3.1 q4.1 q5.1 q6.1).cells
  have hT9 := putD_below hTc (Nat.le_refl _) q1.1 q2.1 q3.1 q4.1 q5.1 q6.1
  clear d0 d1 d2 d3 d4 d5 hf
  obtain ⟨d0, d1, d2, d3, d4, d5⟩ := hk9
  change bodyPost _ _ _ _ _ (putD wc w.heap.size q1.1 q2.1 q3.1 q4.1 q5.1 q6.1)
  generalize putD wc w.heap.size q1.1 q2.1 q3.1 q4.1 q5.1 q6.1 = wd at *
  refine bodyPost_ret (v := .tuple #[.agg #[.int .i64 q1.1, .int .i64 q2.1, .int .i64 q3.1, .int .u8 q4.1, .int .u8 q5.1, .int .u8 q6.1], .int .i64 (endR q6.2.1 q6.2.2)]) (by simp [results, Try.results26, go_sem, d0, d1, d2, d3, d4, d5]) rfl ?_
  have e1 := h1'.out
  have e2 := h2'.out
  have e3 := h3'.out
  have e4 := h4'.out
  have e5 := h5'.out
  have e6 := h6'.out
  subst e1 e2 e3 e4 e5 e6
  exact ⟨rfl, hT9⟩
end Go.Proofs.Ytbgbajamjcohoaa.Oct
