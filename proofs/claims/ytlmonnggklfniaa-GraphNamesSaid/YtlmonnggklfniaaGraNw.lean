/- Statements of layer 12 (graph): GraphNames, the walk. -/
import Derived.Test.YtlmonnggklfniaaGraNl
import Derived.Deep.CutRange
namespace Go.Proofs.Ytlmonnggklfniaa.Oct
open Go.RowKit
set_option linter.unusedVariables false
set_option linter.unusedSimpArgs false

theorem tmod6 (i : Nat) : (i : Int).tmod 6 = ((i % 6 : Nat) : Int) := by
  rw [Int.tmod_eq_emod_of_nonneg (by omega)]; omega
theorem tdiv6 (i : Nat) : (i : Int).tdiv 6 = ((i / 6 : Nat) : Int) := by
  rw [Int.tdiv_eq_ediv_of_nonneg (by omega)]; omega
/-- One of the graphs that may not be. -/
structure Bd (w : World) (BB i : Nat) (S : Int) (A : Option Addr) (n c : Nat) (ls : List Lk) (X : World) : Prop where
  p0 : X.cell? ⟨BB, i * 2, none⟩ = some (.int .i64 S)
  p1 : X.cell? ⟨BB, i * 2 + 1, none⟩ = some (.slice A n c)
  lr : Lr X X.heap.size A n c ls
  g : Bg BB X
  b : Below w.heap.size w X
theorem Bd.step {w : World} {BB i : Nat} {S : Int} {A : Option Addr} {n c : Nat} {ls : List Lk} {X Y : World} (h : Bd w BB i S A n c ls X) (hb : Below X.heap.size X Y) : Bd w BB i S A n c ls Y :=
  ⟨(hb.cell (p := ⟨BB, _, none⟩) h.g.1).trans h.p0, (hb.cell (p := ⟨BB, _, none⟩) h.g.1).trans h.p1, (h.lr.below hb).more hb.size, h.g.step hb, h.b.trans (hb.mono h.b.size)⟩

set_option maxRecDepth 100000 in
set_option maxHeartbeats 4000000 in
theorem graphNames_walk (w : World) : Calls Try.prog 7 #[] w fun e w' => e = .returned (.bool true) ∧ Below w.heap.size w w' := by
  have HL := Kp.mk (And.intro (Lits.nil w) (Below.refl w.heap.size w))
  go_enter Try.func7, Try.ntmps7
  go_wp2_with fail
  refine (link_any 1 1 1 2 _).mono ?_
  rintro e w1 ⟨rfl, hb1⟩
  replace HL := Kp.mk (And.intro (HL.out.1.step hb1) (HL.out.2.trans (hb1.mono HL.out.2.size)))
  clear hb1
  go_wp2_with fail
  have HV : Kp (Lits (w1.alloc (.cells #[.int .i64 1, .int .i64 1, .int .i64 1, .int .i64 2] 43)) [(w1.heap.size, [⟨1, 1, 1, 2⟩])] ∧ Below w.heap.size w (w1.alloc (.cells #[.int .i64 1, .int .i64 1, .int .i64 1, .int .i64 2] 43))) := Kp.mk (And.intro (HL.out.1.push [⟨1, 1, 1, 2⟩]) (HL.out.2.trans ((below_alloc w1 _).mono HL.out.2.size)))
  clear HL
  generalize w1.alloc (.cells #[.int .i64 1, .int .i64 1, .int .i64 1, .int .i64 2] 43) = v1 at *
  generalize w1.heap.size = l1 at *
  clear w1
  have HL := HV
  clear HV
  refine (link_any 1 0 2 1 _).mono ?_
  rintro e w2 ⟨rfl, hb2⟩
  replace HL := Kp.mk (And.intro (HL.out.1.step hb2) (HL.out.2.trans (hb2.mono HL.out.2.size)))
  clear hb2
  go_wp2_with fail
  have HV : Kp (Lits (w2.alloc (.cells #[.int .i64 1, .int .i64 0, .int .i64 2, .int .i64 1] 43)) [(w2.heap.size, [⟨1, 0, 2, 1⟩]), (l1, [⟨1, 1, 1, 2⟩])] ∧ Below w.heap.size w (w2.alloc (.cells #[.int .i64 1, .int .i64 0, .int .i64 2, .int .i64 1] 43))) := Kp.mk (And.intro (HL.out.1.push [⟨1, 0, 2, 1⟩]) (HL.out.2.trans ((below_alloc w2 _).mono HL.out.2.size)))
  clear HL
  generalize w2.alloc (.cells #[.int .i64 1, .int .i64 0, .int .i64 2, .int .i64 1] 43) = v2 at *
  generalize w2.heap.size = l2 at *
  clear w2
  have HL := HV
  clear HV
  refine (link_any 1 5 2 1 _).mono ?_
  rintro e w3 ⟨rfl, hb3⟩
  replace HL := Kp.mk (And.intro (HL.out.1.step hb3) (HL.out.2.trans (hb3.mono HL.out.2.size)))
  clear hb3
  go_wp2_with fail
  have HV : Kp (Lits (w3.alloc (.cells #[.int .i64 1, .int .i64 5, .int .i64 2, .int .i64 1] 43)) [(w3.heap.size, [⟨1, 5, 2, 1⟩]), (l2, [⟨1, 0, 2, 1⟩]), (l1, [⟨1, 1, 1, 2⟩])] ∧ Below w.heap.size w (w3.alloc (.cells #[.int .i64 1, .int .i64 5, .int .i64 2, .int .i64 1] 43))) := Kp.mk (And.intro (HL.out.1.push [⟨1, 5, 2, 1⟩]) (HL.out.2.trans ((below_alloc w3 _).mono HL.out.2.size)))
  clear HL
  generalize w3.alloc (.cells #[.int .i64 1, .int .i64 5, .int .i64 2, .int .i64 1] 43) = v3 at *
  generalize w3.heap.size = l3 at *
  clear w3
  have HL := HV
  clear HV
  refine (link_any 0 1 2 1 _).mono ?_
  rintro e w4 ⟨rfl, hb4⟩
  replace HL := Kp.mk (And.intro (HL.out.1.step hb4) (HL.out.2.trans (hb4.mono HL.out.2.size)))
  clear hb4
  go_wp2_with fail
  have HV : Kp (Lits (w4.alloc (.cells #[.int .i64 0, .int .i64 1, .int .i64 2, .int .i64 1] 43)) [(w4.heap.size, [⟨0, 1, 2, 1⟩]), (l3, [⟨1, 5, 2, 1⟩]), (l2, [⟨1, 0, 2, 1⟩]), (l1, [⟨1, 1, 1, 2⟩])] ∧ Below w.heap.size w (w4.alloc (.cells #[.int .i64 0, .int .i64 1, .int .i64 2, .int .i64 1] 43))) := Kp.mk (And.intro (HL.out.1.push [⟨0, 1, 2, 1⟩]) (HL.out.2.trans ((below_alloc w4 _).mono HL.out.2.size)))
  clear HL
  generalize w4.alloc (.cells #[.int .i64 0, .int .i64 1, .int .i64 2, .int .i64 1] 43) = v4 at *
  generalize w4.heap.size = l4 at *
  clear w4
  have HL := HV
  clear HV
  refine (link_any 1 1 3 1 _).mono ?_
  rintro e w5 ⟨rfl, hb5⟩
  replace HL := Kp.mk (And.intro (HL.out.1.step hb5) (HL.out.2.trans (hb5.mono HL.out.2.size)))
  clear hb5
  go_wp2_with fail
  have HV : Kp (Lits (w5.alloc (.cells #[.int .i64 1, .int .i64 1, .int .i64 3, .int .i64 1] 43)) [(w5.heap.size, [⟨1, 1, 3, 1⟩]), (l4, [⟨0, 1, 2, 1⟩]), (l3, [⟨1, 5, 2, 1⟩]), (l2, [⟨1, 0, 2, 1⟩]), (l1, [⟨1, 1, 1, 2⟩])] ∧ Below w.heap.size w (w5.alloc (.cells #[.int .i64 1, .int .i64 1, .int .i64 3, .int .i64 1] 43))) := Kp.mk (And.intro (HL.out.1.push [⟨1, 1, 3, 1⟩]) (HL.out.2.trans ((below_alloc w5 _).mono HL.out.2.size)))
  clear HL
  generalize w5.alloc (.cells #[.int .i64 1, .int .i64 1, .int .i64 3, .int .i64 1] 43) = v5 at *
  generalize w5.heap.size = l5 at *
  clear w5
  have HL := HV
  clear HV
  refine (link_any 1 1 2 1 _).mono ?_
  rintro e w6 ⟨rfl, hb6⟩
  replace HL := Kp.mk (And.intro (HL.out.1.step hb6) (HL.out.2.trans (hb6.mono HL.out.2.size)))
  clear hb6
  go_wp2_with fail
  refine (link_any 3 1 1 1 _).mono ?_
  rintro e w7 ⟨rfl, hb7⟩
  replace HL := Kp.mk (And.intro (HL.out.1.step hb7) (HL.out.2.trans (hb7.mono HL.out.2.size)))
  clear hb7
  go_wp2_with fail
  have HV : Kp (Lits (w7.alloc (.cells #[.int .i64 1, .int .i64 1, .int .i64 2, .int .i64 1, .int .i64 3, .int .i64 1, .int .i64 1, .int .i64 1] 43)) [(w7.heap.size, [⟨1, 1, 2, 1⟩, ⟨3, 1, 1, 1⟩]), (l5, [⟨1, 1, 3, 1⟩]), (l4, [⟨0, 1, 2, 1⟩]), (l3, [⟨1, 5, 2, 1⟩]), (l2, [⟨1, 0, 2, 1⟩]), (l1, [⟨1, 1, 1, 2⟩])] ∧ Below w.heap.size w (w7.alloc (.cells #[.int .i64 1, .int .i64 1, .int .i64 2, .int .i64 1, .int .i64 3, .int .i64 1, .int .i64 1, .int .i64 1] 43))) := Kp.mk (And.intro (HL.out.1.push [⟨1, 1, 2, 1⟩, ⟨3, 1, 1, 1⟩]) (HL.out.2.trans ((below_alloc w7 _).mono HL.out.2.size)))
  clear HL
  generalize w7.alloc (.cells #[.int .i64 1, .int .i64 1, .int .i64 2, .int .i64 1, .int .i64 3, .int .i64 1, .int .i64 1, .int .i64 1] 43) = v6 at *
  generalize w7.heap.size = l6 at *
  clear w7
  have HL := HV
  clear HV
  refine (link_any 1 1 2 1 _).mono ?_
  rintro e w8 ⟨rfl, hb8⟩
  replace HL := Kp.mk (And.intro (HL.out.1.step hb8) (HL.out.2.trans (hb8.mono HL.out.2.size)))
  clear hb8
  go_wp2_with fail
  refine (link_any 2 1 3 1 _).mono ?_
  rintro e w9 ⟨rfl, hb9⟩
  replace HL := Kp.mk (And.intro (HL.out.1.step hb9) (HL.out.2.trans (hb9.mono HL.out.2.size)))
  clear hb9
  go_wp2_with fail
  have HV : Kp (Lits (w9.alloc (.cells #[.int .i64 1, .int .i64 1, .int .i64 2, .int .i64 1, .int .i64 2, .int .i64 1, .int .i64 3, .int .i64 1] 43)) [(w9.heap.size, [⟨1, 1, 2, 1⟩, ⟨2, 1, 3, 1⟩]), (l6, [⟨1, 1, 2, 1⟩, ⟨3, 1, 1, 1⟩]), (l5, [⟨1, 1, 3, 1⟩]), (l4, [⟨0, 1, 2, 1⟩]), (l3, [⟨1, 5, 2, 1⟩]), (l2, [⟨1, 0, 2, 1⟩]), (l1, [⟨1, 1, 1, 2⟩])] ∧ Below w.heap.size w (w9.alloc (.cells #[.int .i64 1, .int .i64 1, .int .i64 2, .int .i64 1, .int .i64 2, .int .i64 1, .int .i64 3, .int .i64 1] 43))) := Kp.mk (And.intro (HL.out.1.push [⟨1, 1, 2, 1⟩, ⟨2, 1, 3, 1⟩]) (HL.out.2.trans ((below_alloc w9 _).mono HL.out.2.size)))
  clear HL
  generalize w9.alloc (.cells #[.int .i64 1, .int .i64 1, .int .i64 2, .int .i64 1, .int .i64 2, .int .i64 1, .int .i64 3, .int .i64 1] 43) = v7 at *
  generalize w9.heap.size = l7 at *
  clear w9
  have HL := HV
  clear HV
  refine (link_any 1 1 2 1 _).mono ?_
  rintro e w10 ⟨rfl, hb10⟩
  replace HL := Kp.mk (And.intro (HL.out.1.step hb10) (HL.out.2.trans (hb10.mono HL.out.2.size)))
  clear hb10
  go_wp2_with fail
  refine (link_any 1 1 2 1 _).mono ?_
  rintro e w11 ⟨rfl, hb11⟩
  replace HL := Kp.mk (And.intro (HL.out.1.step hb11) (HL.out.2.trans (hb11.mono HL.out.2.size)))
  clear hb11
  go_upto_region 2 with fail
  have HV : Kp (Lits (w11.alloc (.cells #[.int .i64 1, .int .i64 1, .int .i64 2, .int .i64 1, .int .i64 1, .int .i64 1, .int .i64 2, .int .i64 1] 43)) [(w11.heap.size, [⟨1, 1, 2, 1⟩, ⟨1, 1, 2, 1⟩]), (l7, [⟨1, 1, 2, 1⟩, ⟨2, 1, 3, 1⟩]), (l6, [⟨1, 1, 2, 1⟩, ⟨3, 1, 1, 1⟩]), (l5, [⟨1, 1, 3, 1⟩]), (l4, [⟨0, 1, 2, 1⟩]), (l3, [⟨1, 5, 2, 1⟩]), (l2, [⟨1, 0, 2, 1⟩]), (l1, [⟨1, 1, 1, 2⟩])] ∧ Below w.heap.size w (w11.alloc (.cells #[.int .i64 1, .int .i64 1, .int .i64 2, .int .i64 1, .int .i64 1, .int .i64 1, .int .i64 2, .int .i64 1] 43))) := Kp.mk (And.intro (HL.out.1.push [⟨1, 1, 2, 1⟩, ⟨1, 1, 2, 1⟩]) (HL.out.2.trans ((below_alloc w11 _).mono HL.out.2.size)))
  have hsz : (w11.alloc (.cells #[.int .i64 1, .int .i64 1, .int .i64 2, .int .i64 1, .int .i64 1, .int .i64 1, .int .i64 2, .int .i64 1] 43)).heap.size = w11.heap.size + 1 := by simp
  clear HL
  generalize w11.alloc (.cells #[.int .i64 1, .int .i64 1, .int .i64 2, .int .i64 1, .int .i64 1, .int .i64 1, .int .i64 2, .int .i64 1] 43) = v8 at *
  generalize w11.heap.size = l8 at *
  clear w11
  have HL := HV
  clear HV
  have hV := Vb.new 24 v8 [.int .i64 0, .slice none 0 0, .int .i64 7, .slice none 0 0, .int .i64 2, .slice (some ⟨l1, 0, none⟩) 1 1, .int .i64 2, .slice (some ⟨l2, 0, none⟩) 1 1, .int .i64 2, .slice (some ⟨l3, 0, none⟩) 1 1, .int .i64 2, .slice (some ⟨l4, 0, none⟩) 1 1, .int .i64 2, .slice (some ⟨l5, 0, none⟩) 1 1, .int .i64 3, .slice (some ⟨l6, 0, none⟩) 2 2, .int .i64 3, .slice (some ⟨l7, 0, none⟩) 2 2, .int .i64 2, .slice (some ⟨l8, 0, none⟩) 2 2]
  have hBg : Bg v8.heap.size (v8.alloc (.cells #[.int .i64 0, .slice none 0 0, .int .i64 7, .slice none 0 0, .int .i64 2, .slice (some ⟨l1, 0, none⟩) 1 1, .int .i64 2, .slice (some ⟨l2, 0, none⟩) 1 1, .int .i64 2, .slice (some ⟨l3, 0, none⟩) 1 1, .int .i64 2, .slice (some ⟨l4, 0, none⟩) 1 1, .int .i64 2, .slice (some ⟨l5, 0, none⟩) 1 1, .int .i64 3, .slice (some ⟨l6, 0, none⟩) 2 2, .int .i64 3, .slice (some ⟨l7, 0, none⟩) 2 2, .int .i64 2, .slice (some ⟨l8, 0, none⟩) 2 2] 24)) := by
    have hLt := HL.out.1.step (below_alloc v8 (.cells #[.int .i64 0, .slice none 0 0, .int .i64 7, .slice none 0 0, .int .i64 2, .slice (some ⟨l1, 0, none⟩) 1 1, .int .i64 2, .slice (some ⟨l2, 0, none⟩) 1 1, .int .i64 2, .slice (some ⟨l3, 0, none⟩) 1 1, .int .i64 2, .slice (some ⟨l4, 0, none⟩) 1 1, .int .i64 2, .slice (some ⟨l5, 0, none⟩) 1 1, .int .i64 3, .slice (some ⟨l6, 0, none⟩) 2 2, .int .i64 3, .slice (some ⟨l7, 0, none⟩) 2 2, .int .i64 2, .slice (some ⟨l8, 0, none⟩) 2 2] 24))
    refine ⟨hV.lt, fun j hj => ?_⟩
    match j, hj with
    | 0, _ => exact ⟨0, none, 0, 0, [], hV.cell 0 rfl, hV.cell 1 rfl, Lr.nil _ _, bad_dec (by decide +kernel)⟩
    | 1, _ => exact ⟨7, none, 0, 0, [], hV.cell 2 rfl, hV.cell 3 rfl, Lr.nil _ _, bad_dec (by decide +kernel)⟩
    | 2, _ => exact ⟨2, some ⟨l1, 0, none⟩, 1, 1, [⟨1, 1, 1, 2⟩], hV.cell 4 rfl, hV.cell 5 rfl, hLt.lr (by simp) (by simp), bad_dec (by decide +kernel)⟩
    | 3, _ => exact ⟨2, some ⟨l2, 0, none⟩, 1, 1, [⟨1, 0, 2, 1⟩], hV.cell 6 rfl, hV.cell 7 rfl, hLt.lr (by simp) (by simp), bad_dec (by decide +kernel)⟩
    | 4, _ => exact ⟨2, some ⟨l3, 0, none⟩, 1, 1, [⟨1, 5, 2, 1⟩], hV.cell 8 rfl, hV.cell 9 rfl, hLt.lr (by simp) (by simp), bad_dec (by decide +kernel)⟩
    | 5, _ => exact ⟨2, some ⟨l4, 0, none⟩, 1, 1, [⟨0, 1, 2, 1⟩], hV.cell 10 rfl, hV.cell 11 rfl, hLt.lr (by simp) (by simp), bad_dec (by decide +kernel)⟩
    | 6, _ => exact ⟨2, some ⟨l5, 0, none⟩, 1, 1, [⟨1, 1, 3, 1⟩], hV.cell 12 rfl, hV.cell 13 rfl, hLt.lr (by simp) (by simp), bad_dec (by decide +kernel)⟩
    | 7, _ => exact ⟨3, some ⟨l6, 0, none⟩, 2, 2, [⟨1, 1, 2, 1⟩, ⟨3, 1, 1, 1⟩], hV.cell 14 rfl, hV.cell 15 rfl, hLt.lr (by simp) (by simp), bad_dec (by decide +kernel)⟩
    | 8, _ => exact ⟨3, some ⟨l7, 0, none⟩, 2, 2, [⟨1, 1, 2, 1⟩, ⟨2, 1, 3, 1⟩], hV.cell 16 rfl, hV.cell 17 rfl, hLt.lr (by simp) (by simp), bad_dec (by decide +kernel)⟩
    | 9, _ => exact ⟨2, some ⟨l8, 0, none⟩, 2, 2, [⟨1, 1, 2, 1⟩, ⟨1, 1, 2, 1⟩], hV.cell 18 rfl, hV.cell 19 rfl, hLt.lr (by simp) (by simp), bad_dec (by decide +kernel)⟩
  have HB := Kp.mk (And.intro hBg (HL.out.2.trans ((below_alloc v8 (.cells #[.int .i64 0, .slice none 0 0, .int .i64 7, .slice none 0 0, .int .i64 2, .slice (some ⟨l1, 0, none⟩) 1 1, .int .i64 2, .slice (some ⟨l2, 0, none⟩) 1 1, .int .i64 2, .slice (some ⟨l3, 0, none⟩) 1 1, .int .i64 2, .slice (some ⟨l4, 0, none⟩) 1 1, .int .i64 2, .slice (some ⟨l5, 0, none⟩) 1 1, .int .i64 3, .slice (some ⟨l6, 0, none⟩) 2 2, .int .i64 3, .slice (some ⟨l7, 0, none⟩) 2 2, .int .i64 2, .slice (some ⟨l8, 0, none⟩) 2 2] 24)).mono HL.out.2.size)))
  rw [hsz] at HB
  clear hV hBg HL hsz
  generalize v8.alloc (.cells #[.int .i64 0, .slice none 0 0, .int .i64 7, .slice none 0 0, .int .i64 2, .slice (some ⟨l1, 0, none⟩) 1 1, .int .i64 2, .slice (some ⟨l2, 0, none⟩) 1 1, .int .i64 2, .slice (some ⟨l3, 0, none⟩) 1 1, .int .i64 2, .slice (some ⟨l4, 0, none⟩) 1 1, .int .i64 2, .slice (some ⟨l5, 0, none⟩) 1 1, .int .i64 3, .slice (some ⟨l6, 0, none⟩) 2 2, .int .i64 3, .slice (some ⟨l7, 0, none⟩) 2 2, .int .i64 2, .slice (some ⟨l8, 0, none⟩) 2 2] 24) = X0 at *
  generalize l8 + 1 = BB at *
  clear v1 v2 v3 v4 v5 v6 v7 v8
  go_wp2_with fail
  go_loopw [2] (fun s2 wr => ∃ i : Nat, s2 = .int .i64 i ∧ i ≤ 10 ∧ Kp (Bg BB wr ∧ Below w.heap.size w wr)) (fun s2 _ => 10 - (intOf s2).toNat)
  case atStart => exact ⟨0, rfl, Nat.zero_le _, HB⟩
  case round =>
    clear HB
    obtain ⟨i, rfl, hi, HB⟩ := hrel
    by_cases hlt : i < 10
    · have hlt2 : (i : Int) < 10 := by omega
      obtain ⟨S, A, n, c, ls, p0, p1, hlr, hbad⟩ := HB.out.1.2 i hlt
      have HD := Kp.mk (Bd.mk p0 p1 hlr HB.out.1 HB.out.2)
      have HN := Kp.mk hbad
      clear p0 p1 hlr hbad HB
      have c0 := HD.out.p0
      have c1 := HD.out.p1
      have hcP := bad_peer HD.out.lr HN.out
      go_wp2_with fail
      refine hcP.mono ?_
      rintro e w1 ⟨rfl, hb⟩
      clear c0 c1 hcP
      replace HD := Kp.mk (HD.out.step hb)
      clear hb
      go_upto_region 6 with fail
      replace HD := Kp.mk (HD.out.step (below_alloc w1 (.cells #[.int .i64 0, .int .i64 0] 26)))
      generalize w1.alloc (.cells #[.int .i64 0, .int .i64 0] 26) = w2 at *
      have c0 := HD.out.p0
      have c1 := HD.out.p1
      have hcP := bad_check HD.out.lr HN.out
      go_wp2_with fail
      refine hcP.mono ?_
      rintro e w3 ⟨rfl, hb⟩
      clear c0 c1 hcP
      replace HD := Kp.mk (HD.out.step hb)
      clear hb
      have c0 := HD.out.p0
      have c1 := HD.out.p1
      have hcP := bad_ports HD.out.lr HN.out
      go_wp2_with fail
      refine hcP.mono ?_
      rintro e w4 ⟨⟨A4, c4, rfl⟩, hb⟩
      clear c0 c1 hcP
      replace HD := Kp.mk (HD.out.step hb)
      clear hb
      have c0 := HD.out.p0
      have c1 := HD.out.p1
      have hcP := bad_reach HD.out.lr HN.out
      go_wp2_with fail
      refine hcP.mono ?_
      rintro e w5 ⟨⟨A5, c5, rfl⟩, hb⟩
      clear c0 c1 hcP
      replace HD := Kp.mk (HD.out.step hb)
      clear hb
      have c0 := HD.out.p0
      have c1 := HD.out.p1
      have hcP := bad_whole HD.out.lr HN.out
      go_wp2_with fail
      refine hcP.mono ?_
      rintro e w6 ⟨rfl, hb⟩
      clear c0 c1 hcP
      replace HD := Kp.mk (HD.out.step hb)
      clear hb
      go_wp2_with fail
      go_roundw
      case rel => exact ⟨i + 1, by go_num, by omega, Kp.mk ⟨HD.out.g, HD.out.b⟩⟩
      case measure => simp [intOf]; omega
    · have hi2 : ¬ (i : Int) < 10 := by omega
      go_upto_region 9 with fail
      clear hi2
      have hO : Vb 24 (wr.alloc (.cells #[.int .i64 1, .slice none 0 0] 24)) wr.heap.size [.int .i64 1, .slice none 0 0] := Vb.new 24 wr [.int .i64 1, .slice none 0 0]
      have hB := HB.out.2.trans ((below_alloc wr (.cells #[.int .i64 1, .slice none 0 0] 24)).mono HB.out.2.size)
      have hsz : (wr.alloc (.cells #[.int .i64 1, .slice none 0 0] 24)).heap.size = wr.heap.size + 1 := by simp
      clear HB
      generalize wr.alloc (.cells #[.int .i64 1, .slice none 0 0] 24) = x1 at *
      generalize wr.heap.size = ONE at *
      go_upto_region 10 with fail
      have hS0 : Sx w ONE (ONE + 1) none 0 0 (x1.alloc (.cells #[.int .i64 6, .slice none 0 0] 24)) := by
        have hb := below_alloc x1 (.cells #[.int .i64 6, .slice none 0 0] 24)
        have hs : Vb 24 (x1.alloc (.cells #[.int .i64 6, .slice none 0 0] 24)) x1.heap.size [.int .i64 6, .slice none 0 0] := Vb.new 24 x1 [.int .i64 6, .slice none 0 0]
        rw [hsz] at hs
        exact ⟨hO.below hb hO.lt, hs, World.ownsRow_nil _ _ _ 4, hB.trans (hb.mono hB.size), by omega, by have := hB.size; omega⟩
      have HS := Kp.mk hS0
      clear hS0 hO hB
      generalize x1.alloc (.cells #[.int .i64 6, .slice none 0 0] 24) = x2 at *
      clear hsz hlt hi
      generalize ONE + 1 = SIX at *
      go_wp2_with fail
      go_loopw [8] (fun s8 wr => ∃ i : Nat, s8 = .int .i64 i ∧ i ≤ 12 ∧ Kp (∃ (A : Option Addr) (c : Nat), Sx w ONE SIX A c i wr)) (fun s8 _ => 12 - (intOf s8).toNat)
      case atStart => exact ⟨0, rfl, Nat.zero_le _, Kp.mk ⟨_, _, HS.out⟩⟩
      case round =>
        clear HS
        obtain ⟨i, rfl, hi, HK⟩ := hrel
        obtain ⟨A, c, hX0⟩ := HK.out
        clear HK
        by_cases hlt : i < 12
        · have hlt2 : (i : Int) < 12 := by omega
          go_upto_region 13 with fail
          obtain ⟨m1, hm1⟩ : ∃ m, m = i % 6 := ⟨_, rfl⟩
          obtain ⟨m2, hm2⟩ : ∃ m, m = (i + 1) % 6 := ⟨_, rfl⟩
          obtain ⟨d1, hd1⟩ : ∃ d, d = i / 6 := ⟨_, rfl⟩
          have ht1 : (i : Int).tmod 6 = (m1 : Int) := by rw [hm1]; exact tmod6 i
          have ht2 : ((i : Int) + 1).tmod 6 = (m2 : Int) := by rw [hm2]; exact tmod6 (i + 1)
          have ht3 : (i : Int).tdiv 6 = (d1 : Int) := by rw [hd1]; exact tdiv6 i
          have hsx : sixAt i = ⟨1 + (m1 : Int), 1 + (d1 : Int), 1 + (m2 : Int), 3 + (d1 : Int)⟩ := by rw [hm1, hm2, hd1]; rfl
          have hm1b : m1 < 6 := by omega
          have hm2b : m2 < 6 := by omega
          have hd1b : d1 < 2 := by omega
          clear hm1 hm2 hd1
          have hz1 : IntKind.i64.wrap (1 + (m1 : Int)) = 1 + m1 := by rw [IntKind.wrap_i64]; omega
          have hz2 : IntKind.i64.wrap (1 + (m2 : Int)) = 1 + m2 := by rw [IntKind.wrap_i64]; omega
          have hz3 : IntKind.i64.wrap (1 + (d1 : Int)) = 1 + d1 := by rw [IntKind.wrap_i64]; omega
          have hz4 : IntKind.i64.wrap (3 + (d1 : Int)) = 3 + d1 := by rw [IntKind.wrap_i64]; omega
          have hz5 : IntKind.i64.wrap (d1 : Int) = d1 := by rw [IntKind.wrap_i64]; omega
          have hz6 : IntKind.i64.wrap ((i : Int) + 1) = i + 1 := by rw [IntKind.wrap_i64]; omega
          have hz7 : IntKind.i64.wrap (m1 : Int) = m1 := by rw [IntKind.wrap_i64]; omega
          have hz8 : IntKind.i64.wrap (m2 : Int) = m2 := by rw [IntKind.wrap_i64]; omega
          have HSX := Kp.mk hsx
          have hX := hX0.step (Below.refl wr.heap.size wr).drew
          clear hX0 hsx
          have hT0 : Below w.heap.size wr.drew wr.drew := Below.refl _ _
          refine wp_region_held_drew (S := fun X => Below w.heap.size wr.drew X) (by kernel_rfl) hT0 (fun _ => ?_)
          generalize wr.drew = u0 at *
          refine takeD (i := 0) (v := .pointer (some ⟨SIX, 1, none⟩)) (some 95) rfl rfl (by kernel_rfl) (by kernel_rfl) (by kernel_rfl) (fun _ _ _ h => h) (Or.inl ⟨by rfl, ?_⟩) hT0 ?_
          · rintro w' hq
            go_simp
          try simp only [Act.put, List.setIfInBounds_toArray, List.set_cons_zero, List.set_cons_succ]
          refine takeD (i := 2) (v := .int .i64 i) (some 97) rfl rfl (by kernel_rfl) (by kernel_rfl) (by kernel_rfl) (fun _ _ _ h => h) (Or.inl ⟨by rfl, ?_⟩) hT0 ?_
          · rintro w' hq
            go_simp
          try simp only [Act.put, List.setIfInBounds_toArray, List.set_cons_zero, List.set_cons_succ]
          refine takeD (i := 3) (v := .int .i64 m1) (some 98) rfl rfl (by kernel_rfl) (by kernel_rfl) (by kernel_rfl) (fun _ _ _ h => h) (Or.inl ⟨by rfl, ?_⟩) hT0 ?_
          · rintro w' hq
            go_simp
          try simp only [Act.put, List.setIfInBounds_toArray, List.set_cons_zero, List.set_cons_succ]
          refine takeD (i := 4) (v := .int .i64 (1 + m1)) (some 99) rfl rfl (by kernel_rfl) (by kernel_rfl) (by kernel_rfl) (fun _ _ _ h => h) (Or.inl ⟨by rfl, ?_⟩) hT0 ?_
          · rintro w' hq
            go_simp
          try simp only [Act.put, List.setIfInBounds_toArray, List.set_cons_zero, List.set_cons_succ]
          refine takeD (i := 5) (v := .int .i64 i) (some 100) rfl rfl (by kernel_rfl) (by kernel_rfl) (by kernel_rfl) (fun _ _ _ h => h) (Or.inl ⟨by rfl, ?_⟩) hT0 ?_
          · rintro w' hq
            go_simp
          try simp only [Act.put, List.setIfInBounds_toArray, List.set_cons_zero, List.set_cons_succ]
          refine takeD (i := 6) (v := .int .i64 d1) (some 101) rfl rfl (by kernel_rfl) (by kernel_rfl) (by kernel_rfl) (fun _ _ _ h => h) (Or.inl ⟨by rfl, ?_⟩) hT0 ?_
          · rintro w' hq
            go_simp
          try simp only [Act.put, List.setIfInBounds_toArray, List.set_cons_zero, List.set_cons_succ]
          refine takeD (i := 7) (v := .int .i64 (1 + d1)) (some 102) rfl rfl (by kernel_rfl) (by kernel_rfl) (by kernel_rfl) (fun _ _ _ h => h) (Or.inl ⟨by rfl, ?_⟩) hT0 ?_
          · rintro w' hq
            go_simp
          try simp only [Act.put, List.setIfInBounds_toArray, List.set_cons_zero, List.set_cons_succ]
          refine takeD (i := 8) (v := .int .i64 i) (some 103) rfl rfl (by kernel_rfl) (by kernel_rfl) (by kernel_rfl) (fun _ _ _ h => h) (Or.inl ⟨by rfl, ?_⟩) hT0 ?_
          · rintro w' hq
            go_simp
          try simp only [Act.put, List.setIfInBounds_toArray, List.set_cons_zero, List.set_cons_succ]
          refine takeD (i := 9) (v := .int .i64 (i + 1)) (some 104) rfl rfl (by kernel_rfl) (by kernel_rfl) (by kernel_rfl) (fun _ _ _ h => h) (Or.inl ⟨by rfl, ?_⟩) hT0 ?_
          · rintro w' hq
            go_simp
          try simp only [Act.put, List.setIfInBounds_toArray, List.set_cons_zero, List.set_cons_succ]
          refine takeD (i := 10) (v := .int .i64 m2) (some 105) rfl rfl (by kernel_rfl) (by kernel_rfl) (by kernel_rfl) (fun _ _ _ h => h) (Or.inl ⟨by rfl, ?_⟩) hT0 ?_
          · rintro w' hq
            go_simp
          try simp only [Act.put, List.setIfInBounds_toArray, List.set_cons_zero, List.set_cons_succ]
          refine takeD (i := 11) (v := .int .i64 (1 + m2)) (some 106) rfl rfl (by kernel_rfl) (by kernel_rfl) (by kernel_rfl) (fun _ _ _ h => h) (Or.inl ⟨by rfl, ?_⟩) hT0 ?_
          · rintro w' hq
            go_simp
          try simp only [Act.put, List.setIfInBounds_toArray, List.set_cons_zero, List.set_cons_succ]
          refine takeD (i := 12) (v := .int .i64 i) (some 107) rfl rfl (by kernel_rfl) (by kernel_rfl) (by kernel_rfl) (fun _ _ _ h => h) (Or.inl ⟨by rfl, ?_⟩) hT0 ?_
          · rintro w' hq
            go_simp
          try simp only [Act.put, List.setIfInBounds_toArray, List.set_cons_zero, List.set_cons_succ]
          refine takeD (i := 13) (v := .int .i64 d1) (some 108) rfl rfl (by kernel_rfl) (by kernel_rfl) (by kernel_rfl) (fun _ _ _ h => h) (Or.inl ⟨by rfl, ?_⟩) hT0 ?_
          · rintro w' hq
            go_simp
          try simp only [Act.put, List.setIfInBounds_toArray, List.set_cons_zero, List.set_cons_succ]
          refine takeD (i := 14) (v := .int .i64 (3 + d1)) (some 109) rfl rfl (by kernel_rfl) (by kernel_rfl) (by kernel_rfl) (fun _ _ _ h => h) (Or.inl ⟨by rfl, ?_⟩) hT0 ?_
          · rintro w' hq
            go_simp
          try simp only [Act.put, List.setIfInBounds_toArray, List.set_cons_zero, List.set_cons_succ]
          refine wpAnyH_ready (rs := [1, 15]) (by kernel_rfl) (by simp) ?_
          refine AllReadyH.cons rfl (fun K hK => ?_) (AllReadyH.cons rfl (fun K hK => ?_) AllReadyH.nil)
          · try rw [if_pos (by rfl)]
            have q1 := hX.s.cell 1 rfl
            go_simp
            clear q1
            refine hK.out _ _ hT0 (fun _ => ?_)
            clear hK K
            try simp only [Act.put, List.setIfInBounds_toArray, List.set_cons_zero, List.set_cons_succ]
            refine wpAnyH_ready (rs := [15]) (by kernel_rfl) (by simp) ?_
            refine AllReadyH.cons rfl (fun K hK => ?_) AllReadyH.nil
            · try rw [if_pos (by rfl)]
              go_simp
              refine (link_any (1 + m1) (1 + d1) (1 + m2) (3 + d1) _).mono ?_
              rintro e v2 ⟨rfl, hb⟩
              have hT2 := hT0.trans (hb.mono hX.b.size)
              have hX2 := hX.step hb
              clear hb
              refine hK.out _ _ hT2 (fun _ => ?_)
              clear hK K
              try simp only [Act.put, List.setIfInBounds_toArray, List.set_cons_zero, List.set_cons_succ]
              refine wpAnyH_ready (rs := [16]) (by kernel_rfl) (by simp) ?_
              refine AllReadyH.cons rfl (fun K hK => ?_) AllReadyH.nil
              · try rw [if_pos (by rfl)]
                go_simp
                have hb := below_alloc v2 (.cells #[.int .i64 (1 + m1), .int .i64 (1 + d1), .int .i64 (1 + m2), .int .i64 (3 + d1)] 43)
                have hlit : Vb 43 (v2.alloc (.cells #[.int .i64 (1 + m1), .int .i64 (1 + d1), .int .i64 (1 + m2), .int .i64 (3 + d1)] 43)) v2.heap.size [.int .i64 (1 + m1), .int .i64 (1 + d1), .int .i64 (1 + m2), .int .i64 (3 + d1)] := Vb.new 43 v2 [.int .i64 (1 + m1), .int .i64 (1 + d1), .int .i64 (1 + m2), .int .i64 (3 + d1)]
                have hT3 := hT2.trans (hb.mono hX2.b.size)
                have hX3 := hX2.step hb
                clear hb
                refine hK.out _ _ hT3 (fun _ => ?_)
                clear hK K
                try simp only [Act.put, List.setIfInBounds_toArray, List.set_cons_zero, List.set_cons_succ]
                generalize v2.alloc (.cells #[.int .i64 (1 + m1), .int .i64 (1 + d1), .int .i64 (1 + m2), .int .i64 (3 + d1)] 43) = v3 at *
                obtain ⟨gl, hgl⟩ : ∃ x, x = v2.heap.size := ⟨_, rfl⟩
                rw [← hgl] at hlit ⊢
                clear hgl
                refine wpAnyH_ready (rs := [17]) (by kernel_rfl) (by simp) ?_
                refine AllReadyH.cons rfl (fun K hK => ?_) AllReadyH.nil
                · try rw [if_pos (by rfl)]
                  have hLl : Lr v3 (gl + 1) (some ⟨gl, 0, none⟩) 1 1 [sixAt i] := by rw [HSX.out]; exact lr_vb (ls := [⟨1 + (m1 : Int), 1 + (d1 : Int), 1 + (m2 : Int), 3 + (d1 : Int)⟩]) (rest := []) hlit (Nat.lt_succ_self _) (Nat.le_refl _) (by simp [maxLen])
                  obtain ⟨A6, c6, v4, hrun, hO6, hb6, hg6⟩ := run_appendL 22 hX3.l hLl (by omega) hX3.b.size
                  have HG := Kp.mk (hX3.grow hO6 hb6 hg6)
                  have hs6 := hX3.l.vb hX3.s (by decide) hg6
                  have hT4 := hT3.trans hb6
                  have hTs : Below w.heap.size u0 (v4.setCell ⟨SIX, 1, none⟩ (.slice A6 (i + 1) c6)) := below_grown hT4 (grownBy_set v4 SIX 1 _) (Nat.le_trans hX3.b.size hb6.size) hX3.lo
                  refine op_run_appendG (.tmp 96) (.tmp 111) rfl rfl rfl hrun (hK.out _ _ hT4 (fun _ => ?_))
                  clear hK K hrun hLl hg6 hb6 hO6
                  try simp only [Act.put, List.setIfInBounds_toArray, List.set_cons_zero, List.set_cons_succ]
                  refine takeD (i := 18) (v := .pointer (some ⟨SIX, 1, none⟩)) (some 113) rfl rfl (by kernel_rfl) (by kernel_rfl) (by kernel_rfl) (fun _ _ _ h => h) (Or.inl ⟨by rfl, ?_⟩) hT4 ?_
                  · rintro w' hq
                    go_simp
                  try simp only [Act.put, List.setIfInBounds_toArray, List.set_cons_zero, List.set_cons_succ]
                  refine wpAnyH_ready (rs := [19]) (by kernel_rfl) (by simp) ?_
                  refine AllReadyH.cons rfl (fun K hK => ?_) AllReadyH.nil
                  · try rw [if_pos (by rfl)]
                    have f1 := hs6.free 1
                    have q1 := hs6.cell 1 rfl
                    go_simp
                    refine hK.out _ _ hTs (fun _ => ?_)
                    clear hK K f1 q1
                    try simp only [Act.put, List.setIfInBounds_toArray, List.set_cons_zero, List.set_cons_succ]
                    refine wpAnyH_done (by kernel_rfl) ?_ _
                    clear hTs hs6
                    go_wp2_with fail
                    go_roundw
                    case rel => exact ⟨i + 1, by go_num, by omega, Kp.mk ⟨_, _, HG.out⟩⟩
                    case measure => simp [intOf]; omega
          · try rw [if_pos (by rfl)]
            go_simp
            refine (link_any (1 + m1) (1 + d1) (1 + m2) (3 + d1) _).mono ?_
            rintro e v6 ⟨rfl, hb⟩
            have hT6 := hT0.trans (hb.mono hX.b.size)
            have hX6 := hX.step hb
            clear hb
            refine hK.out _ _ hT6 (fun _ => ?_)
            clear hK K
            try simp only [Act.put, List.setIfInBounds_toArray, List.set_cons_zero, List.set_cons_succ]
            refine wpAnyH_ready (rs := [1, 16]) (by kernel_rfl) (by simp) ?_
            refine AllReadyH.cons rfl (fun K hK => ?_) (AllReadyH.cons rfl (fun K hK => ?_) AllReadyH.nil)
            · try rw [if_pos (by rfl)]
              have q1 := hX6.s.cell 1 rfl
              go_simp
              clear q1
              refine hK.out _ _ hT6 (fun _ => ?_)
              clear hK K
              try simp only [Act.put, List.setIfInBounds_toArray, List.set_cons_zero, List.set_cons_succ]
              refine wpAnyH_ready (rs := [16]) (by kernel_rfl) (by simp) ?_
              refine AllReadyH.cons rfl (fun K hK => ?_) AllReadyH.nil
              · try rw [if_pos (by rfl)]
                go_simp
                have hb := below_alloc v6 (.cells #[.int .i64 (1 + m1), .int .i64 (1 + d1), .int .i64 (1 + m2), .int .i64 (3 + d1)] 43)
                have hlit : Vb 43 (v6.alloc (.cells #[.int .i64 (1 + m1), .int .i64 (1 + d1), .int .i64 (1 + m2), .int .i64 (3 + d1)] 43)) v6.heap.size [.int .i64 (1 + m1), .int .i64 (1 + d1), .int .i64 (1 + m2), .int .i64 (3 + d1)] := Vb.new 43 v6 [.int .i64 (1 + m1), .int .i64 (1 + d1), .int .i64 (1 + m2), .int .i64 (3 + d1)]
                have hT8 := hT6.trans (hb.mono hX6.b.size)
                have hX8 := hX6.step hb
                clear hb
                refine hK.out _ _ hT8 (fun _ => ?_)
                clear hK K
                try simp only [Act.put, List.setIfInBounds_toArray, List.set_cons_zero, List.set_cons_succ]
                generalize v6.alloc (.cells #[.int .i64 (1 + m1), .int .i64 (1 + d1), .int .i64 (1 + m2), .int .i64 (3 + d1)] 43) = v8 at *
                obtain ⟨gl, hgl⟩ : ∃ x, x = v6.heap.size := ⟨_, rfl⟩
                rw [← hgl] at hlit ⊢
                clear hgl
                refine wpAnyH_ready (rs := [17]) (by kernel_rfl) (by simp) ?_
                refine AllReadyH.cons rfl (fun K hK => ?_) AllReadyH.nil
                · try rw [if_pos (by rfl)]
                  have hLl : Lr v8 (gl + 1) (some ⟨gl, 0, none⟩) 1 1 [sixAt i] := by rw [HSX.out]; exact lr_vb (ls := [⟨1 + (m1 : Int), 1 + (d1 : Int), 1 + (m2 : Int), 3 + (d1 : Int)⟩]) (rest := []) hlit (Nat.lt_succ_self _) (Nat.le_refl _) (by simp [maxLen])
                  obtain ⟨A6, c6, v9, hrun, hO6, hb6, hg6⟩ := run_appendL 22 hX8.l hLl (by omega) hX8.b.size
                  have HG := Kp.mk (hX8.grow hO6 hb6 hg6)
                  have hs6 := hX8.l.vb hX8.s (by decide) hg6
                  have hT9 := hT8.trans hb6
                  have hTs : Below w.heap.size u0 (v9.setCell ⟨SIX, 1, none⟩ (.slice A6 (i + 1) c6)) := below_grown hT9 (grownBy_set v9 SIX 1 _) (Nat.le_trans hX8.b.size hb6.size) hX8.lo
                  refine op_run_appendG (.tmp 96) (.tmp 111) rfl rfl rfl hrun (hK.out _ _ hT9 (fun _ => ?_))
                  clear hK K hrun hLl hg6 hb6 hO6
                  try simp only [Act.put, List.setIfInBounds_toArray, List.set_cons_zero, List.set_cons_succ]
                  refine takeD (i := 18) (v := .pointer (some ⟨SIX, 1, none⟩)) (some 113) rfl rfl (by kernel_rfl) (by kernel_rfl) (by kernel_rfl) (fun _ _ _ h => h) (Or.inl ⟨by rfl, ?_⟩) hT9 ?_
                  · rintro w' hq
                    go_simp
                  try simp only [Act.put, List.setIfInBounds_toArray, List.set_cons_zero, List.set_cons_succ]
                  refine wpAnyH_ready (rs := [19]) (by kernel_rfl) (by simp) ?_
                  refine AllReadyH.cons rfl (fun K hK => ?_) AllReadyH.nil
                  · try rw [if_pos (by rfl)]
                    have f1 := hs6.free 1
                    have q1 := hs6.cell 1 rfl
                    go_simp
                    refine hK.out _ _ hTs (fun _ => ?_)
                    clear hK K f1 q1
                    try simp only [Act.put, List.setIfInBounds_toArray, List.set_cons_zero, List.set_cons_succ]
                    refine wpAnyH_done (by kernel_rfl) ?_ _
                    clear hTs hs6
                    go_wp2_with fail
                    go_roundw
                    case rel => exact ⟨i + 1, by go_num, by omega, Kp.mk ⟨_, _, HG.out⟩⟩
                    case measure => simp [intOf]; omega
            · try rw [if_pos (by rfl)]
              go_simp
              have hb := below_alloc v6 (.cells #[.int .i64 (1 + m1), .int .i64 (1 + d1), .int .i64 (1 + m2), .int .i64 (3 + d1)] 43)
              have hlit : Vb 43 (v6.alloc (.cells #[.int .i64 (1 + m1), .int .i64 (1 + d1), .int .i64 (1 + m2), .int .i64 (3 + d1)] 43)) v6.heap.size [.int .i64 (1 + m1), .int .i64 (1 + d1), .int .i64 (1 + m2), .int .i64 (3 + d1)] := Vb.new 43 v6 [.int .i64 (1 + m1), .int .i64 (1 + d1), .int .i64 (1 + m2), .int .i64 (3 + d1)]
              have hT11 := hT6.trans (hb.mono hX6.b.size)
              have hX11 := hX6.step hb
              clear hb
              refine hK.out _ _ hT11 (fun _ => ?_)
              clear hK K
              try simp only [Act.put, List.setIfInBounds_toArray, List.set_cons_zero, List.set_cons_succ]
              generalize v6.alloc (.cells #[.int .i64 (1 + m1), .int .i64 (1 + d1), .int .i64 (1 + m2), .int .i64 (3 + d1)] 43) = v11 at *
              obtain ⟨gl, hgl⟩ : ∃ x, x = v6.heap.size := ⟨_, rfl⟩
              rw [← hgl] at hlit ⊢
              clear hgl
              refine wpAnyH_ready (rs := [1]) (by kernel_rfl) (by simp) ?_
              refine AllReadyH.cons rfl (fun K hK => ?_) AllReadyH.nil
              · try rw [if_pos (by rfl)]
                have q1 := hX11.s.cell 1 rfl
                go_simp
                clear q1
                refine hK.out _ _ hT11 (fun _ => ?_)
                clear hK K
                try simp only [Act.put, List.setIfInBounds_toArray, List.set_cons_zero, List.set_cons_succ]
                refine wpAnyH_ready (rs := [17]) (by kernel_rfl) (by simp) ?_
                refine AllReadyH.cons rfl (fun K hK => ?_) AllReadyH.nil
                · try rw [if_pos (by rfl)]
                  have hLl : Lr v11 (gl + 1) (some ⟨gl, 0, none⟩) 1 1 [sixAt i] := by rw [HSX.out]; exact lr_vb (ls := [⟨1 + (m1 : Int), 1 + (d1 : Int), 1 + (m2 : Int), 3 + (d1 : Int)⟩]) (rest := []) hlit (Nat.lt_succ_self _) (Nat.le_refl _) (by simp [maxLen])
                  obtain ⟨A6, c6, v13, hrun, hO6, hb6, hg6⟩ := run_appendL 22 hX11.l hLl (by omega) hX11.b.size
                  have HG := Kp.mk (hX11.grow hO6 hb6 hg6)
                  have hs6 := hX11.l.vb hX11.s (by decide) hg6
                  have hT13 := hT11.trans hb6
                  have hTs : Below w.heap.size u0 (v13.setCell ⟨SIX, 1, none⟩ (.slice A6 (i + 1) c6)) := below_grown hT13 (grownBy_set v13 SIX 1 _) (Nat.le_trans hX11.b.size hb6.size) hX11.lo
                  refine op_run_appendG (.tmp 96) (.tmp 111) rfl rfl rfl hrun (hK.out _ _ hT13 (fun _ => ?_))
                  clear hK K hrun hLl hg6 hb6 hO6
                  try simp only [Act.put, List.setIfInBounds_toArray, List.set_cons_zero, List.set_cons_succ]
                  refine takeD (i := 18) (v := .pointer (some ⟨SIX, 1, none⟩)) (some 113) rfl rfl (by kernel_rfl) (by kernel_rfl) (by kernel_rfl) (fun _ _ _ h => h) (Or.inl ⟨by rfl, ?_⟩) hT13 ?_
                  · rintro w' hq
                    go_simp
                  try simp only [Act.put, List.setIfInBounds_toArray, List.set_cons_zero, List.set_cons_succ]
                  refine wpAnyH_ready (rs := [19]) (by kernel_rfl) (by simp) ?_
                  refine AllReadyH.cons rfl (fun K hK => ?_) AllReadyH.nil
                  · try rw [if_pos (by rfl)]
                    have f1 := hs6.free 1
                    have q1 := hs6.cell 1 rfl
                    go_simp
                    refine hK.out _ _ hTs (fun _ => ?_)
                    clear hK K f1 q1
                    try simp only [Act.put, List.setIfInBounds_toArray, List.set_cons_zero, List.set_cons_succ]
                    refine wpAnyH_done (by kernel_rfl) ?_ _
                    clear hTs hs6
                    go_wp2_with fail
                    go_roundw
                    case rel => exact ⟨i + 1, by go_num, by omega, Kp.mk ⟨_, _, HG.out⟩⟩
                    case measure => simp [intOf]; omega
        · obtain rfl : i = 12 := by omega
          go_upto_region 14 with fail
          have HS := Kp.mk hX0
          clear hX0
          have q0 := HS.out.o.cell 0 rfl
          have q1 := HS.out.o.cell 1 rfl
          have q2 := HS.out.s.cell 0 rfl
          have q3 := HS.out.s.cell 1 rfl
          have hcP := worksG_any wr
          go_wp2_with fail
          refine hcP.mono ?_
          rintro e y1 ⟨rfl, hb⟩
          clear q0 q1 q2 q3 hcP
          replace HS := Kp.mk (HS.out.step hb)
          clear hb
          have q0 := HS.out.o.cell 0 rfl
          have q1 := HS.out.o.cell 1 rfl
          have q2 := HS.out.s.cell 0 rfl
          have q3 := HS.out.s.cell 1 rfl
          have hcP := HS.out.check1
          go_wp2_with fail
          refine hcP.mono ?_
          rintro e y2 ⟨rfl, hb⟩
          clear q0 q1 q2 q3 hcP
          replace HS := Kp.mk (HS.out.step hb)
          clear hb
          have q0 := HS.out.o.cell 0 rfl
          have q1 := HS.out.o.cell 1 rfl
          have q2 := HS.out.s.cell 0 rfl
          have q3 := HS.out.s.cell 1 rfl
          have hcP := HS.out.whole1
          go_wp2_with fail
          refine hcP.mono ?_
          rintro e y3 ⟨rfl, hb⟩
          clear q0 q1 q2 q3 hcP
          replace HS := Kp.mk (HS.out.step hb)
          clear hb
          have q0 := HS.out.o.cell 0 rfl
          have q1 := HS.out.o.cell 1 rfl
          have q2 := HS.out.s.cell 0 rfl
          have q3 := HS.out.s.cell 1 rfl
          have hcP := HS.out.reach1 2 (by omega)
          go_wp2_with fail
          refine hcP.mono ?_
          rintro e y4 ⟨⟨A2, c2, rfl⟩, hb⟩
          clear q0 q1 q2 q3 hcP
          replace HS := Kp.mk (HS.out.step hb)
          clear hb
          have q0 := HS.out.o.cell 0 rfl
          have q1 := HS.out.o.cell 1 rfl
          have q2 := HS.out.s.cell 0 rfl
          have q3 := HS.out.s.cell 1 rfl
          have hcP := HS.out.reach1 0 (by omega)
          go_wp2_with fail
          refine hcP.mono ?_
          rintro e y5 ⟨⟨A3, c3, rfl⟩, hb⟩
          clear q0 q1 q2 q3 hcP
          replace HS := Kp.mk (HS.out.step hb)
          clear hb
          have q0 := HS.out.o.cell 0 rfl
          have q1 := HS.out.o.cell 1 rfl
          have q2 := HS.out.s.cell 0 rfl
          have q3 := HS.out.s.cell 1 rfl
          have hcP := HS.out.check6
          go_wp2_with fail
          refine hcP.mono ?_
          rintro e y6 ⟨rfl, hb⟩
          clear q0 q1 q2 q3 hcP
          replace HS := Kp.mk (HS.out.step hb)
          clear hb
          have q0 := HS.out.o.cell 0 rfl
          have q1 := HS.out.o.cell 1 rfl
          have q2 := HS.out.s.cell 0 rfl
          have q3 := HS.out.s.cell 1 rfl
          have hcP := HS.out.ports6
          go_wp2_with fail
          refine hcP.mono ?_
          rintro e y7 ⟨⟨A4, c4, rfl⟩, hb⟩
          clear q0 q1 q2 q3 hcP
          replace HS := Kp.mk (HS.out.step hb)
          clear hb
          have q0 := HS.out.s.cell 0 rfl
          have q1 := HS.out.s.cell 1 rfl
          go_wp2_with fail
          have hp := Vb.new 4 y7 [.bool false, .bool false]
          replace HS := Kp.mk (HS.out.step (below_alloc y7 (.cells #[.bool false, .bool false] 4)))
          have hcP := HS.out.whole6 hp
          clear q0 q1 hp
          refine hcP.mono ?_
          rintro e y8 ⟨rfl, hb⟩
          have HF := Kp.mk (HS.out.step hb).b
          clear hb hcP HS
          go_wp2_with fail
          go_ret
          exact ⟨rfl, HF.out⟩
end Go.Proofs.Ytlmonnggklfniaa.Oct
