/- Contracts of layer 11 (lane): New; lanes that are none; eq of two rows; the document's lane. -/
import Derived.Test.YtcolklkjaifplaaLanE
namespace Go.Proofs.Ytcolklkjaifplaa.Oct
open Go.RowKit
set_option linter.unusedVariables false
set_option linter.unusedSimpArgs false
section
variable {w : World} {l c room : Nat} {fs : List FrV}
theorem run_mkch (n : Nat) (h : n ≤ 64) (w : World) : (Instr.makeChan 77 (.int .i64 n)).run Try.prog w = .ok (.chan (some w.heap.size)) (w.alloc (.chan n #[] false 0 0 false)) := by
  obtain ⟨i0, hi, hz0, hz1, hz2⟩ := info_parts info_sl8
  exact Go.Conc.run_makeChan (P := Try.prog) (w := w) Try.underlying77 hi .i64 n (by omega) (by rw [hz2]; omega)
theorem lp_new (w : World) (n : Nat) (h : n ≤ 64) : Lp ((w.alloc (.chan n #[] false 0 0 false)).alloc (.cells #[.chan (some w.heap.size)] 79)) (w.heap.size + 1) w.heap.size n [] := by
  have hb := below_alloc (w.alloc (.chan n #[] false 0 0 false)) (.cells #[.chan (some w.heap.size)] 79)
  refine ⟨?_, ⟨0, 0, (hb.block w.heap.size (by simp)).trans (heap_alloc_new w _)⟩, by simp, h⟩
  have := Vb.new 79 (w.alloc (.chan n #[] false 0 0 false)) [.chan (some w.heap.size)]
  simpa using this
set_option maxRecDepth 100000 in
theorem lnew_yes (w : World) (n : Int) (h : 1 ≤ n ∧ n ≤ 64) : Calls Try.prog 23 #[.int .i64 n] w fun e w' => ∃ l c, e = .returned (.tuple #[.pointer (some ⟨l, 0, none⟩), .int .i64 0]) ∧ Lp w' l c n.toNat [] ∧ w.heap.size ≤ l ∧ w.heap.size ≤ c ∧ Below w.heap.size w w' := by
  obtain ⟨m, rfl⟩ : ∃ m : Nat, n = m := ⟨n.toNat, by omega⟩
  have hm := run_mkch m (by omega) w
  have hL := Kp.mk (lp_new w m (by omega))
  have hB := Kp.mk (below_two w (.chan m #[] false 0 0 false) (.cells #[.chan (some w.heap.size)] 79))
  have h1 : ¬ (m : Int) < 1 := by omega
  have h2 : ¬ (64 : Int) < m := by omega
  clear h
  go_enter Try.func23, Try.ntmps23
  go_wp2_with fail
  go_ret2
  exact ⟨w.heap.size + 1, rfl, w.heap.size, by simpa using hL.out, by omega, Nat.le_refl _, hB.out⟩
set_option maxRecDepth 100000 in
theorem lnew_no (w : World) (n : Int) (h : ¬ (1 ≤ n ∧ n ≤ 64)) : Calls Try.prog 23 #[.int .i64 n] w fun e w' => e = .returned (.tuple #[.pointer none, .int .i64 2]) ∧ w' = w := by
  by_cases h1 : n < 1
  · clear h
    go_enter Try.func23, Try.ntmps23
    go_wp2_with fail
    go_ret2
    exact ⟨rfl, rfl⟩
  · have h2 : (64 : Int) < n := by omega
    clear h
    go_enter Try.func23, Try.ntmps23
    go_wp2_with fail
    go_ret2
    exact ⟨rfl, rfl⟩
/-- No lane: nil, or a zero one. -/
def NL (w : World) (a : Option Addr) : Prop := a = none ∨ ∃ t, a = some ⟨t, 0, none⟩ ∧ Vb 79 w t [.chan none]
section
variable {a : Option Addr} {w' : World}
theorem NL.below (h : NL w a) (hb : Below w.heap.size w w') : NL w' a := h.imp id (fun ⟨t, e, hv⟩ => ⟨t, e, hv.below hb hv.lt⟩)
set_option maxRecDepth 100000 in
theorem NL.no (h : NL w a) : Calls Try.prog 68 #[.pointer a] w fun e w' => e = .returned (.bool true) ∧ w' = w := by
  rcases h with rfl | ⟨t, rfl, hv⟩
  · go_enter Try.func68, Try.ntmps68
    go_wp2_with fail
    go_ret
    exact ⟨rfl, rfl⟩
  · have c0 := hv.cell 0 rfl
    have hq : (binOp .eql 77 (.chan none) (.chan none)).run Try.prog w = .ok (.bool true) w := run_eql_ch none w
    go_enter Try.func68, Try.ntmps68
    go_wp2_with fail
    go_ret
    exact ⟨rfl, rfl⟩
theorem nl_len (h : NL w a) : Calls Try.prog 42 #[.pointer a] w fun e w' => e = .returned (.int .i64 0) ∧ w' = w := by
  go_enter Try.func42, Try.ntmps42
  go_wp2_with (first | (refine h.no.mono ?_; rintro e w1 ⟨rfl, rfl⟩))
  go_ret
  exact ⟨rfl, rfl⟩
theorem nl_place (h : NL w a) (i : Int) : Calls Try.prog 73 #[.pointer a, .int .i64 i] w fun e w' => e = .returned (.int .i64 1) ∧ w' = w := by
  go_enter Try.func73, Try.ntmps73
  go_wp2_with (first | (refine h.no.mono ?_; rintro e w1 ⟨rfl, rfl⟩))
  go_ret
  exact ⟨rfl, rfl⟩
theorem nl_put (h : NL w a) (A : Option Addr) (n m : Nat) : Calls Try.prog 27 #[.pointer a, .slice A n m] w fun e w' => e = .returned (.int .i64 1) ∧ w' = w := by
  go_enter Try.func27, Try.ntmps27
  go_wp2_with (first | (refine h.no.mono ?_; rintro e w1 ⟨rfl, rfl⟩))
  go_ret
  exact ⟨rfl, rfl⟩
theorem nl_take (h : NL w a) : Calls Try.prog 29 #[.pointer a] w fun e w' => e = .returned (.tuple #[.slice none 0 0, .bool false]) ∧ w' = w := by
  go_enter Try.func29, Try.ntmps29
  go_wp2_with (first | (refine h.no.mono ?_; rintro e w1 ⟨rfl, rfl⟩))
  go_ret2
  exact ⟨rfl, rfl⟩
theorem nl_drop (h : NL w a) (i : Int) : Calls Try.prog 32 #[.pointer a, .int .i64 i] w fun e w' => e = .returned (.int .i64 1) ∧ w' = w := by
  go_enter Try.func32, Try.ntmps32
  go_wp2_with (first | (refine (nl_place h i).mono ?_; rintro e w1 ⟨rfl, rfl⟩))
  go_ret
  exact ⟨rfl, rfl⟩
theorem nl_double (h : NL w a) (i : Int) : Calls Try.prog 34 #[.pointer a, .int .i64 i] w fun e w' => e = .returned (.int .i64 1) ∧ w' = w := by
  go_enter Try.func34, Try.ntmps34
  go_wp2_with (first | (refine (nl_place h i).mono ?_; rintro e w1 ⟨rfl, rfl⟩))
  go_ret
  exact ⟨rfl, rfl⟩
theorem nl_front (h : NL w a) (i : Int) : Calls Try.prog 36 #[.pointer a, .int .i64 i] w fun e w' => e = .returned (.int .i64 1) ∧ w' = w := by
  go_enter Try.func36, Try.ntmps36
  go_wp2_with (first | (refine (nl_place h i).mono ?_; rintro e w1 ⟨rfl, rfl⟩))
  go_ret
  exact ⟨rfl, rfl⟩
theorem nl_clear (h : NL w a) : Calls Try.prog 38 #[.pointer a] w fun e w' => e = .returned (.int .i64 0) ∧ w' = w := by
  go_enter Try.func38, Try.ntmps38
  go_wp2_with (first | (refine (nl_len h).mono ?_; rintro e w1 ⟨rfl, rfl⟩))
  go_loopw [7] (fun s7 wr => s7 = .int .i64 0 ∧ wr = w1) (fun _ _ => 0)
  case atStart => exact ⟨rfl, rfl⟩
  case round =>
    obtain ⟨rfl, hw⟩ := hrel
    subst hw
    go_wp2_with fail
    go_ret
    exact ⟨rfl, by first | rfl | trivial⟩
theorem nl_all (h : NL w a) : Calls Try.prog 43 #[.pointer a] w fun e w' => e = .returned (.slice none 0 0) ∧ w' = w := by
  go_enter Try.func43, Try.ntmps43
  go_wp2_with (first | (refine (nl_len h).mono ?_; rintro e w1 ⟨rfl, rfl⟩))
  go_loopw [3, 8] (fun s3 s8 wr => s3 = .slice none 0 0 ∧ s8 = .int .i64 0 ∧ wr = w1) (fun _ _ _ => 0)
  case atStart => exact ⟨rfl, rfl, rfl⟩
  case round =>
    obtain ⟨rfl, rfl, hw⟩ := hrel
    subst hw
    go_wp2_with fail
    go_ret
    exact ⟨rfl, by first | rfl | trivial⟩
end
end
theorem eqFr {w : World} {P Q : Nat → Prop} {f g : FrV} (h1 : Fok P w f) (h2 : Fok Q w g) (he : f.l = g.l) (n : Nat) : Calls Try.prog 31 #[.slice f.A f.n f.c, .slice g.A g.n g.c] (w.drewN n) fun e w' => e = .returned (.bool true) ∧ w' = w.drewN n := by
  refine (eqBytes_any (w := w.drewN n) (h1.rd.below' (below_drewN (Below.refl _ _) n) (Nat.le_refl _)) (h2.rd.below' (below_drewN (Below.refl _ _) n) (Nat.le_refl _)) h1.bytes h2.bytes).mono ?_
  rintro e w' ⟨rfl, rfl⟩
  exact ⟨by rw [decide_eq_true he], rfl⟩
theorem Ch.drewN {S : Nat → Prop} {w w' : World} (h : Ch S w w') (n : Nat) : Ch S w (w'.drewN n) := h.trans (Ch.of_below (S := S) (below_drewN (Below.refl _ _) n)) (fun _ _ e => e)
theorem Ch.none_below {w w' : World} (h : Ch (fun _ => False) w w') (B : Nat) (hB : B ≤ w.heap.size) : Below B w w' := h.below (fun _ e => e.elim) hB
set_option maxRecDepth 100000 in
/-- Two rows of frames that read alike. -/
theorem eqF_any {w : World} {P Q : Nat → Prop} {B1 B2 n c1 c2 : Nat} {A1 A2 : Option Addr} {fs gs : List FrV} (h1 : Rr w B1 A1 n c1 fs) (h2 : Rr w B2 A2 n c2 gs) (hB1 : B1 ≤ w.heap.size) (hB2 : B2 ≤ w.heap.size) (f1 : Fall P w fs) (f2 : Fall Q w gs) (he : fs.map FrV.l = gs.map FrV.l) :
    Calls Try.prog 78 #[.slice A1 n c1, .slice A2 n c2] w fun e w' => e = .returned (.bool true) ∧ Below w.heap.size w w' := by
  have m1 := h1.max
  have H1 := Kp.mk h1
  have H2 := Kp.mk h2
  have F1 := Kp.mk f1
  have F2 := Kp.mk f2
  have HE := Kp.mk he
  have HB := Kp.mk (And.intro hB1 hB2)
  have hb0 := Below.refl w.heap.size w
  clear h1 h2 f1 f2 he hB1 hB2
  go_enter Try.func78, Try.ntmps78
  go_wp2_with fail
  go_loopw [5] (fun s5 wr => ∃ k : Nat, s5 = .int .i64 k ∧ k ≤ n ∧ Below w.heap.size w wr) (fun s5 _ => n - (intOf s5).toNat)
  case atStart => exact ⟨0, rfl, Nat.zero_le _, hb0⟩
  case round =>
    clear hb0
    obtain ⟨k, rfl, hk, hw⟩ := hrel
    by_cases hlt : (k : Int) < n
    · obtain ⟨b1, o1, rfl, _, d1⟩ := (H1.out.below (hw.mono HB.out.1)).at_ (by omega)
      obtain ⟨b2, o2, rfl, _, d2⟩ := (H2.out.below (hw.mono HB.out.2)).at_ (by omega)
      have hk1 : k < fs.length := by have := H1.out.len; omega
      have hk2 : k < gs.length := by have := H2.out.len; omega
      have e1 := d1 k fs[k] (List.getElem?_eq_getElem hk1)
      have e2 := d2 k gs[k] (List.getElem?_eq_getElem hk2)
      have el : fs[k].l = gs[k].l := by
        have := congrArg (fun l => l[k]?) HE.out
        simp only [List.getElem?_map, List.getElem?_eq_getElem hk1, List.getElem?_eq_getElem hk2] at this
        simpa using this
      have hq := Kp.mk (eqFr ((F1.out fs[k] (List.getElem_mem hk1)).below hw) ((F2.out gs[k] (List.getElem_mem hk2)).below hw) el)
      clear el
      generalize fs[k] = f at *
      generalize gs[k] = g at *
      clear d1 d2 hk1 hk2
      rw [show f.val = .slice f.A f.n f.c from rfl] at e1
      rw [show g.val = .slice g.A g.n g.c from rfl] at e2
      go_wp2_with fail
      go_quiet ((go_at_call 31; exact Calls.quiet_of_same (hq.out _)))
      go_wp2_with fail
      go_roundw
      case rel => exact ⟨k + 1, by go_num, by omega, below_drewN hw _⟩
      case measure => simp [intOf]; omega
    · obtain rfl : k = n := by omega
      go_wp2_with fail
      go_ret
      exact ⟨rfl, hw⟩
end Go.Proofs.Ytcolklkjaifplaa.Oct
