/- The chapter's segments: the function works of the laws of layer 5 answers true. -/
import Derived.Test.YtbniefgfiafaoaaSegB
import Derived.LoopN
namespace Go.Proofs.Ytbniefgfiafaoaa.Oct
open Go.RowKit
set_option linter.unusedVariables false

theorem bytesS_doc : bytesS 3 2 0 1 3 4 0 0 [] = (frm 3 (sB 3 2 0 1 3 4 0 0 []), 0) := if_pos (by decide)
theorem take_docS : (frm 3 (sB 3 2 0 1 3 4 0 0 [])).take 19 = [3, 3, 2, 0, 1, 0, 0, 0, 3, 0, 0, 0, 4, 0, 0, 0, 0, 0, 0] := by decide +kernel
def badCells : Array Value := #[.int .i64 1, .int .i64 0, .int .i64 2, .int .i64 0, .int .i64 0, .int .i64 0, .int .i64 0, .int .i64 0, .slice none 0 0, .int .i64 4, .int .i64 1, .int .i64 0, .int .i64 0, .int .i64 0, .int .i64 0, .int .i64 0, .int .i64 0, .slice none 0 0, .int .i64 5, .int .i64 1, .int .i64 0, .int .i64 0, .int .i64 1, .int .i64 0, .int .i64 0, .int .i64 0, .slice none 0 0, .int .i64 2, .int .i64 0, .int .i64 2, .int .i64 0, .int .i64 1, .int .i64 0, .int .i64 0, .int .i64 0, .slice none 0 0]
/-- The four bad segments lie in a block. -/
def FourS (w : World) (g : Nat) : Prop := w.heap[g]? = some (.cells badCells 24 (0, 0))
theorem FourS.new (w : World) : FourS (w.alloc (.cells #[.int .i64 1, .int .i64 0, .int .i64 2, .int .i64 0, .int .i64 0, .int .i64 0, .int .i64 0, .int .i64 0, .slice none 0 0, .int .i64 4, .int .i64 1, .int .i64 0, .int .i64 0, .int .i64 0, .int .i64 0, .int .i64 0, .int .i64 0, .slice none 0 0, .int .i64 5, .int .i64 1, .int .i64 0, .int .i64 0, .int .i64 1, .int .i64 0, .int .i64 0, .int .i64 0, .slice none 0 0, .int .i64 2, .int .i64 0, .int .i64 2, .int .i64 0, .int .i64 1, .int .i64 0, .int .i64 0, .int .i64 0, .slice none 0 0] 24)) w.heap.size := heap_alloc_new w _
theorem FourS.lt {w : World} {g : Nat} (h : FourS w g) : g < w.heap.size := (Array.getElem?_eq_some_iff.1 h).1
theorem FourS.below {w w' : World} {g B : Nat} (h : FourS w g) (hb : Below B w w') (hg : g < B) : FourS w' g := (hb.block g hg).trans h
theorem FourS.cell {w : World} {g : Nat} (h : FourS w g) (j : Nat) : w.cell? ⟨g, j, none⟩ = badCells[j]? := by simp [World.cell?, show w.heap[g]? = _ from h]
theorem FourS.at0 {w : World} {g : Nat} (h : FourS w g) : w.cell? ⟨g, 0, none⟩ = some (.int .i64 1) ∧ w.cell? ⟨g, 1, none⟩ = some (.int .i64 0) ∧ w.cell? ⟨g, 2, none⟩ = some (.int .i64 2) ∧ w.cell? ⟨g, 3, none⟩ = some (.int .i64 0) ∧ w.cell? ⟨g, 4, none⟩ = some (.int .i64 0) ∧ w.cell? ⟨g, 5, none⟩ = some (.int .i64 0) ∧ w.cell? ⟨g, 6, none⟩ = some (.int .i64 0) ∧ w.cell? ⟨g, 7, none⟩ = some (.int .i64 0) ∧ w.cell? ⟨g, 8, none⟩ = some (.slice none 0 0) :=
  ⟨h.cell 0, h.cell 1, h.cell 2, h.cell 3, h.cell 4, h.cell 5, h.cell 6, h.cell 7, h.cell 8⟩
theorem FourS.at1 {w : World} {g : Nat} (h : FourS w g) : w.cell? ⟨g, 9, none⟩ = some (.int .i64 4) ∧ w.cell? ⟨g, 10, none⟩ = some (.int .i64 1) ∧ w.cell? ⟨g, 11, none⟩ = some (.int .i64 0) ∧ w.cell? ⟨g, 12, none⟩ = some (.int .i64 0) ∧ w.cell? ⟨g, 13, none⟩ = some (.int .i64 0) ∧ w.cell? ⟨g, 14, none⟩ = some (.int .i64 0) ∧ w.cell? ⟨g, 15, none⟩ = some (.int .i64 0) ∧ w.cell? ⟨g, 16, none⟩ = some (.int .i64 0) ∧ w.cell? ⟨g, 17, none⟩ = some (.slice none 0 0) :=
  ⟨h.cell 9, h.cell 10, h.cell 11, h.cell 12, h.cell 13, h.cell 14, h.cell 15, h.cell 16, h.cell 17⟩
theorem FourS.at2 {w : World} {g : Nat} (h : FourS w g) : w.cell? ⟨g, 18, none⟩ = some (.int .i64 5) ∧ w.cell? ⟨g, 19, none⟩ = some (.int .i64 1) ∧ w.cell? ⟨g, 20, none⟩ = some (.int .i64 0) ∧ w.cell? ⟨g, 21, none⟩ = some (.int .i64 0) ∧ w.cell? ⟨g, 22, none⟩ = some (.int .i64 1) ∧ w.cell? ⟨g, 23, none⟩ = some (.int .i64 0) ∧ w.cell? ⟨g, 24, none⟩ = some (.int .i64 0) ∧ w.cell? ⟨g, 25, none⟩ = some (.int .i64 0) ∧ w.cell? ⟨g, 26, none⟩ = some (.slice none 0 0) :=
  ⟨h.cell 18, h.cell 19, h.cell 20, h.cell 21, h.cell 22, h.cell 23, h.cell 24, h.cell 25, h.cell 26⟩
theorem FourS.at3 {w : World} {g : Nat} (h : FourS w g) : w.cell? ⟨g, 27, none⟩ = some (.int .i64 2) ∧ w.cell? ⟨g, 28, none⟩ = some (.int .i64 0) ∧ w.cell? ⟨g, 29, none⟩ = some (.int .i64 2) ∧ w.cell? ⟨g, 30, none⟩ = some (.int .i64 0) ∧ w.cell? ⟨g, 31, none⟩ = some (.int .i64 1) ∧ w.cell? ⟨g, 32, none⟩ = some (.int .i64 0) ∧ w.cell? ⟨g, 33, none⟩ = some (.int .i64 0) ∧ w.cell? ⟨g, 34, none⟩ = some (.int .i64 0) ∧ w.cell? ⟨g, 35, none⟩ = some (.slice none 0 0) :=
  ⟨h.cell 27, h.cell 28, h.cell 29, h.cell 30, h.cell 31, h.cell 32, h.cell 33, h.cell 34, h.cell 35⟩

set_option maxRecDepth 100000 in
set_option maxHeartbeats 4000000 in
theorem worksS_any (w : World) :
    Calls Try.prog 16 #[] w fun e w' => e = .returned (.bool true) ∧ Below w.heap.size w w' := by
  go_enter Try.func16, Try.ntmps16
  go_wp2_with fail
  refine (bytesS_any (B := w.heap.size) (l := []) (k := 3) (t := 2) (f := 0) (h := 1) (p := 3) (o := 4) (s := 0) (a := 0) (Rd.nil .u8 w w.heap.size) (Nat.le_refl _) By.nil).mono ?_
  rw [bytesS_doc]
  rintro e w1 ⟨A1, n1, c1, rfl, ho1, t1⟩
  have hn1 : n1 = 21 := by have := ho1.len; rw [← this, frm_len, sB_len]; rfl
  subst hn1
  have z1 := t1.size
  go_wp2_with fail
  have b4 := FourS.new w1
  have t2 := t1.trans ((below_alloc w1 (.cells badCells 24)).mono z1)
  have r2 := ho1.rd.below (below_alloc w1 (.cells badCells 24))
  unfold badCells at t2 r2
  generalize (w1.alloc (.cells #[.int .i64 1, .int .i64 0, .int .i64 2, .int .i64 0, .int .i64 0, .int .i64 0, .int .i64 0, .int .i64 0, .slice none 0 0, .int .i64 4, .int .i64 1, .int .i64 0, .int .i64 0, .int .i64 0, .int .i64 0, .int .i64 0, .int .i64 0, .slice none 0 0, .int .i64 5, .int .i64 1, .int .i64 0, .int .i64 0, .int .i64 1, .int .i64 0, .int .i64 0, .int .i64 0, .slice none 0 0, .int .i64 2, .int .i64 0, .int .i64 2, .int .i64 0, .int .i64 1, .int .i64 0, .int .i64 0, .int .i64 0, .slice none 0 0] 24)) = w2 at *
  have z2 := b4.lt
  clear ho1 t1
  refine wp_loop_rounds 5 ?_
  rw [rounds_succ]
  obtain ⟨d0, d1, d2, d3, d4, d5, d6, d7, d8⟩ := b4.at0
  go_wp2_with fail
  refine (checkS_any 1 0 2 0 0 0 0 0 none 0 0 w2).mono ?_
  rw [show checkS 1 0 2 0 0 0 0 0 0 = 2 from by decide]
  rintro e v0 ⟨rfl, s0⟩
  replace b4 := b4.below s0 z2
  replace r2 := r2.below' s0 (by omega)
  replace t2 := t2.trans (s0.mono (by have := t2.size; omega))
  replace z2 := b4.lt
  clear d0 d1 d2 d3 d4 d5 d6 d7 d8 s0
  go_wp2_with fail
  rw [rounds_succ]
  obtain ⟨d0, d1, d2, d3, d4, d5, d6, d7, d8⟩ := b4.at1
  go_wp2_with fail
  refine (checkS_any 4 1 0 0 0 0 0 0 none 0 0 v0).mono ?_
  rw [show checkS 4 1 0 0 0 0 0 0 0 = 2 from by decide]
  rintro e v1 ⟨rfl, s1⟩
  replace b4 := b4.below s1 z2
  replace r2 := r2.below' s1 (by omega)
  replace t2 := t2.trans (s1.mono (by have := t2.size; omega))
  replace z2 := b4.lt
  clear d0 d1 d2 d3 d4 d5 d6 d7 d8 s1
  go_wp2_with fail
  rw [rounds_succ]
  obtain ⟨d0, d1, d2, d3, d4, d5, d6, d7, d8⟩ := b4.at2
  go_wp2_with fail
  refine (checkS_any 5 1 0 0 1 0 0 0 none 0 0 v1).mono ?_
  rw [show checkS 5 1 0 0 1 0 0 0 0 = 2 from by decide]
  rintro e v2 ⟨rfl, s2⟩
  replace b4 := b4.below s2 z2
  replace r2 := r2.below' s2 (by omega)
  replace t2 := t2.trans (s2.mono (by have := t2.size; omega))
  replace z2 := b4.lt
  clear d0 d1 d2 d3 d4 d5 d6 d7 d8 s2
  go_wp2_with fail
  rw [rounds_succ]
  obtain ⟨d0, d1, d2, d3, d4, d5, d6, d7, d8⟩ := b4.at3
  go_wp2_with fail
  refine (checkS_any 2 0 2 0 1 0 0 0 none 0 0 v2).mono ?_
  rw [show checkS 2 0 2 0 1 0 0 0 0 = 2 from by decide]
  rintro e v3 ⟨rfl, s3⟩
  replace b4 := b4.below s3 z2
  replace r2 := r2.below' s3 (by omega)
  replace t2 := t2.trans (s3.mono (by have := t2.size; omega))
  replace z2 := b4.lt
  clear d0 d1 d2 d3 d4 d5 d6 d7 d8 s3
  go_wp2_with fail
  rw [rounds_succ]
  have r1 := r2.pre 19 (by omega)
  have hcap := r1.le
  have zz := t2.size
  obtain ⟨b, off, rfl, hbB, _⟩ := r1.at_ (by omega)
  clear r2 b4
  go_wp2_with fail
  have hlit := rd_lit .u8 v3 5 [3, 3, 2, 0, 1, 0, 0, 0, 3, 0, 0, 0, 4, 0, 0, 0, 0, 0, 0] (by simp [maxLen]) (v3.heap.size + 1) (by simp)
  have hb2 := below_alloc v3 (.cells ([3, 3, 2, 0, 1, 0, 0, 0, 3, 0, 0, 0, 4, 0, 0, 0, 0, 0, 0].map (Value.int .u8)).toArray 5)
  refine (eqBytes_any (r1.below' hb2 (by omega)) hlit ((frm_by 3 _ (by omega) (sB_by _ _ _ _ _ _ _ _ By.nil)).take _) (byOf rfl)).mono ?_
  rw [take_docS, show decide (([3, 3, 2, 0, 1, 0, 0, 0, 3, 0, 0, 0, 4, 0, 0, 0, 0, 0, 0] : List Int) = [3, 3, 2, 0, 1, 0, 0, 0, 3, 0, 0, 0, 4, 0, 0, 0, 0, 0, 0]) = true from rfl]
  rintro e w' ⟨rfl, rfl⟩
  go_wp2_with fail
  go_ret
  exact ⟨rfl, t2.trans (hb2.mono (by omega))⟩
end Go.Proofs.Ytbniefgfiafaoaa.Oct
