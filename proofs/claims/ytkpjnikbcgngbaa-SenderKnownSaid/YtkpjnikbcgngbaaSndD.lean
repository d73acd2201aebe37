/- Contracts of layer 13 (sender): New, Left, Said, Next; senders that are none; slices.Delete of the first messages. -/
import Derived.Test.YtkpjnikbcgngbaaSndC
import Derived.Deep.CutRange
import Derived.LoopN
namespace Go.Proofs.Ytkpjnikbcgngbaa.Oct
open Go.RowKit
set_option linter.unusedVariables false
set_option linter.unusedSimpArgs false
theorem run_eql_win (a : Option Nat) (w : World) : (binOp .eql 53 (.chan a) (.chan none)).run Try.prog w = .ok (.bool a.isNone) w := by
  have h : ∀ d : Nat, (Op.equalIn (d + 1) 53 (.chan a) (.chan none)).run Try.prog w = .ok a.isNone w := fun d => by
    cases a <;> simp [Op.equalIn, run_underlying Try.underlying53]
  simp only [binOp]
  simp [Op.equal, Op.maxDepth, h 9999]
theorem run_len_win {w : World} {c wd k : Nat} (h : Wn w c wd k) (ty : TypeId) : (Builtin.len_ #[53] ty #[.chan (some c)]).run Try.prog w = .ok (.int .i64 k) w := by
  obtain ⟨s, r, h2⟩ := h
  simp [Builtin.len_, run_underlying Try.underlying53, run_getObj_chan _ _ h2, goInt]
theorem info_st0 : (Try.prog.info? 68).map (fun i => (i.zero, i.size, i.bytes)) = some (some (.agg #[]), 0, 0) := by kernel_rfl
theorem run_mkwin (n : Nat) (h : n ≤ 64) (w : World) : (Instr.makeChan 53 (.int .i64 n)).run Try.prog w = .ok (.chan (some w.heap.size)) (w.alloc (.chan n #[] false 0 0 false)) := by
  obtain ⟨i0, hi, hz0, hz1, hz2⟩ := info_parts info_st0
  exact Go.Conc.run_makeChan (P := Try.prog) (w := w) Try.underlying53 hi .i64 n (by omega) (by rw [hz2]; omega)
theorem sNumber_any (n : Int) (w : World) : Calls Try.prog 23 #[.int .i64 n] w fun e w' => e = .returned (.bool (decide (0 ≤ n ∧ n ≤ 65535))) ∧ w' = w := by
  by_cases h0 : 0 ≤ n
  · by_cases h1 : n ≤ 65535
    · rw [decide_eq_true ⟨h0, h1⟩]
      go_enter Try.func23, Try.ntmps23
      go_wp2_with fail
      go_ret
      exact ⟨by simp [h1], rfl⟩
    · rw [decide_eq_false (fun e => h1 e.2)]
      go_enter Try.func23, Try.ntmps23
      go_wp2_with fail
      go_ret
      exact ⟨by simp [h1], rfl⟩
  · rw [decide_eq_false (fun e => h0 e.1)]
    go_enter Try.func23, Try.ntmps23
    go_wp2_with fail
    go_ret
    exact ⟨rfl, rfl⟩
section
variable {P : Nat → Prop} {w w' : World} {s c wd said all : Nat} {nx : Int} {r : Option Nat} {ms : List (List Int)}
theorem sp_new (P : Nat → Prop) (w : World) (wd : Nat) (nx : Int) (h : 1 ≤ wd ∧ wd ≤ 4) (hx : 0 ≤ nx ∧ nx ≤ 65535) : Sp P ((w.alloc (.chan wd #[] false 0 0 false)).alloc (.cells #[.int .u16 nx, .int .i64 0, .slice none 0 0, .chan (some w.heap.size)] 55)) (w.heap.size + 1) w.heap.size wd nx 0 0 none [] := by
  have hb := below_alloc (w.alloc (.chan wd #[] false 0 0 false)) (.cells #[.int .u16 nx, .int .i64 0, .slice none 0 0, .chan (some w.heap.size)] 55)
  refine ⟨⟨none, 0, [], ?_, Qf.nil0 _, rfl, rfl, Fall.none _ _⟩, ⟨0, 0, (hb.block w.heap.size (by simp)).trans (heap_alloc_new w _)⟩, hx, by simp; omega⟩
  have := Vb.new 55 (w.alloc (.chan wd #[] false 0 0 false)) [.int .u16 nx, .int .i64 0, .slice none 0 0, .chan (some w.heap.size)]
  simpa using this
set_option maxRecDepth 100000 in
theorem snew_yes (P : Nat → Prop) (w : World) (wd nx : Int) (h : 1 ≤ wd ∧ wd ≤ 4) (hx : 0 ≤ nx ∧ nx ≤ 65535) : Calls Try.prog 7 #[.int .i64 wd, .int .i64 nx] w fun e w' => ∃ s c, e = .returned (.tuple #[.pointer (some ⟨s, 0, none⟩), .int .i64 0]) ∧ Sp P w' s c wd.toNat nx 0 0 none [] ∧ w.heap.size ≤ s ∧ w.heap.size ≤ c ∧ Below w.heap.size w w' := by
  obtain ⟨m, rfl⟩ : ∃ m : Nat, wd = m := ⟨wd.toNat, by omega⟩
  have hm := run_mkwin m (by omega) w
  have hL := Kp.mk (sp_new P w m nx (by omega) hx)
  have hB := Kp.mk (below_two w (.chan m #[] false 0 0 false) (.cells #[.int .u16 nx, .int .i64 0, .slice none 0 0, .chan (some w.heap.size)] 55))
  have h1 : ¬ (m : Int) < 1 := by omega
  have h2 : ¬ (4 : Int) < m := by omega
  have hn := sNumber_any nx w
  rw [decide_eq_true hx] at hn
  have hw : IntKind.u16.wrap nx = nx := by rw [IntKind.wrap_u16]; omega
  have hpl : Calls Try.prog 24 #[.int .i64 m] w fun e w' => e = .returned (.chan (some w.heap.size)) ∧ w' = w.alloc (.chan m #[] false 0 0 false) := by
    go_enter Try.func24, Try.ntmps24
    go_wp2_with fail
    go_ret
    exact ⟨rfl, rfl⟩
  clear h hx hm
  go_enter Try.func7, Try.ntmps7
  go_wp2_with (first | (refine hn.mono ?_; rintro e w1 ⟨rfl, rfl⟩) | (refine hpl.mono ?_; rintro e w1 ⟨rfl, rfl⟩))
  go_ret2
  exact ⟨_, _, rfl, by simpa using hL.out, by omega, Nat.le_refl _, hB.out⟩
set_option maxRecDepth 100000 in
theorem snew_no (w : World) (wd nx : Int) (h : ¬ ((1 ≤ wd ∧ wd ≤ 4) ∧ 0 ≤ nx ∧ nx ≤ 65535)) : Calls Try.prog 7 #[.int .i64 wd, .int .i64 nx] w fun e w' => e = .returned (.tuple #[.pointer none, .int .i64 2]) ∧ w' = w := by
  have hn := sNumber_any nx w
  by_cases h1 : wd < 1
  · clear h
    go_enter Try.func7, Try.ntmps7
    go_wp2_with fail
    go_ret2
    exact ⟨rfl, rfl⟩
  · by_cases h2 : (4 : Int) < wd
    · clear h
      go_enter Try.func7, Try.ntmps7
      go_wp2_with fail
      go_ret2
      exact ⟨rfl, rfl⟩
    · rw [decide_eq_false (fun e => h ⟨by omega, e⟩)] at hn
      clear h
      go_enter Try.func7, Try.ntmps7
      go_wp2_with (first | (refine hn.mono ?_; rintro e w1 ⟨rfl, rfl⟩))
      go_ret2
      exact ⟨rfl, rfl⟩
/-- No sender: nil, or a zero one. -/
def NS (w : World) (a : Option Addr) : Prop := a = none ∨ ∃ t, a = some ⟨t, 0, none⟩ ∧ Vb 55 w t [.int .u16 0, .int .i64 0, .slice none 0 0, .chan none]
theorem NS.below {a : Option Addr} (h : NS w a) (hb : Below w.heap.size w w') : NS w' a := h.imp id (fun ⟨t, e, hv⟩ => ⟨t, e, hv.below hb hv.lt⟩)
set_option maxRecDepth 100000 in
theorem NS.no {a : Option Addr} (h : NS w a) : Calls Try.prog 31 #[.pointer a] w fun e w' => e = .returned (.bool true) ∧ w' = w := by
  rcases h with rfl | ⟨t, rfl, hv⟩
  · go_enter Try.func31, Try.ntmps31
    go_wp2_with fail
    go_ret
    exact ⟨rfl, rfl⟩
  · have c0 := hv.cell 3 rfl
    have hq : (binOp .eql 53 (.chan none) (.chan none)).run Try.prog w = .ok (.bool true) w := run_eql_win none w
    go_enter Try.func31, Try.ntmps31
    go_wp2_with fail
    go_ret
    exact ⟨rfl, rfl⟩
set_option maxRecDepth 100000 in
theorem NS.put {a : Option Addr} (h : NS w a) (b : Value) : Calls Try.prog 18 #[.pointer a, b] w fun e w' => e = .returned (.int .i64 1) ∧ w' = w := by
  have hn := h.no
  go_enter Try.func18, Try.ntmps18
  go_wp2_with (first | (refine hn.mono ?_; rintro e w1 ⟨rfl, rfl⟩))
  go_ret
  exact ⟨rfl, rfl⟩
set_option maxRecDepth 100000 in
theorem NS.fresh {a : Option Addr} (h : NS w a) : Calls Try.prog 19 #[.pointer a] w fun e w' => e = .returned (.slice none 0 0) ∧ w' = w := by
  have hn := h.no
  go_enter Try.func19, Try.ntmps19
  go_wp2_with (first | (refine hn.mono ?_; rintro e w1 ⟨rfl, rfl⟩))
  go_ret
  exact ⟨rfl, rfl⟩
set_option maxRecDepth 100000 in
theorem NS.saidN {a : Option Addr} (h : NS w a) : Calls Try.prog 12 #[.pointer a] w fun e w' => e = .returned (.int .i64 0) ∧ w' = w := by
  have hn := h.no
  go_enter Try.func12, Try.ntmps12
  go_wp2_with (first | (refine hn.mono ?_; rintro e w1 ⟨rfl, rfl⟩))
  go_ret
  exact ⟨rfl, rfl⟩
set_option maxRecDepth 100000 in
theorem NS.left {a : Option Addr} (h : NS w a) : Calls Try.prog 10 #[.pointer a] w fun e w' => e = .returned (.int .i64 0) ∧ w' = w := by
  have hn := h.no
  go_enter Try.func10, Try.ntmps10
  go_wp2_with (first | (refine hn.mono ?_; rintro e w1 ⟨rfl, rfl⟩))
  go_ret
  exact ⟨rfl, rfl⟩
set_option maxRecDepth 100000 in
theorem NS.next {a : Option Addr} (h : NS w a) : Calls Try.prog 14 #[.pointer a] w fun e w' => e = .returned (.int .i64 0) ∧ w' = w := by
  have hn := h.no
  go_enter Try.func14, Try.ntmps14
  go_wp2_with (first | (refine hn.mono ?_; rintro e w1 ⟨rfl, rfl⟩))
  go_ret
  exact ⟨rfl, rfl⟩
set_option maxRecDepth 100000 in
theorem NS.heard {a : Option Addr} (h : NS w a) (n : Int) : Calls Try.prog 21 #[.pointer a, .int .i64 n] w fun e w' => e = .returned (.tuple #[.int .i64 0, .int .i64 1]) ∧ w' = w := by
  have hn := h.no
  go_enter Try.func21, Try.ntmps21
  go_wp2_with (first | (refine hn.mono ?_; rintro e w1 ⟨rfl, rfl⟩))
  go_ret2
  exact ⟨rfl, rfl⟩
set_option maxRecDepth 100000 in
theorem NS.again {a : Option Addr} (h : NS w a) : Calls Try.prog 22 #[.pointer a] w fun e w' => e = .returned (.slice none 0 0) ∧ w' = w := by
  have hn := h.saidN
  go_enter Try.func22, Try.ntmps22
  go_wp2_with (first | (refine hn.mono ?_; rintro e w1 ⟨rfl, rfl⟩))
  refine wp_loop_rounds 1 ?_
  rw [rounds_succ]
  go_wp2_with fail
  go_ret
  exact ⟨rfl, rfl⟩
set_option maxRecDepth 100000 in
theorem sNone_no (h : Sp P w s c wd nx said all r ms) : Calls Try.prog 31 #[.pointer (some ⟨s, 0, none⟩)] w fun e w' => e = .returned (.bool false) ∧ w' = w := by
  obtain ⟨A, m, fs, h1, h2, h3, h4, h5⟩ := h.ex
  have c0 := h1.cell 3 rfl
  have hq : (binOp .eql 53 (.chan (some c)) (.chan none)).run Try.prog w = .ok (.bool false) w := run_eql_win (some c) w
  clear h h1 h2 h3 h4 h5
  go_enter Try.func31, Try.ntmps31
  go_wp2_with fail
  go_ret
  exact ⟨rfl, rfl⟩
set_option maxRecDepth 100000 in
theorem staken_any {k : Nat} (h : Wn w c wd k) : Calls Try.prog 32 #[.chan (some c)] w fun e w' => e = .returned (.int .i64 k) ∧ w' = w := by
  have hl := run_len_win h
  clear h
  go_enter Try.func32, Try.ntmps32
  go_wp2_with fail
  go_ret
  exact ⟨rfl, rfl⟩
set_option maxRecDepth 100000 in
theorem sleft_any (h : Sp P w s c wd nx said all r ms) : Calls Try.prog 10 #[.pointer (some ⟨s, 0, none⟩)] w fun e w' => e = .returned (.int .i64 ms.length) ∧ w' = w := by
  have HN := sNone_no h
  obtain ⟨A, m, fs, h1, h2, h3, h4, h5⟩ := h.ex
  have c0 := h1.cell 2 rfl
  clear h h1 h2 h3 h4 h5
  generalize ms.length = n at *
  go_enter Try.func10, Try.ntmps10
  go_wp2_with (first | (refine HN.mono ?_; rintro e w1 ⟨rfl, rfl⟩))
  go_ret
  exact ⟨rfl, rfl⟩
set_option maxRecDepth 100000 in
theorem ssaid_any (h : Sp P w s c wd nx said all r ms) : Calls Try.prog 12 #[.pointer (some ⟨s, 0, none⟩)] w fun e w' => e = .returned (.int .i64 said) ∧ w' = w := by
  have HN := sNone_no h
  have HT := staken_any h.ch
  obtain ⟨A, m, fs, h1, h2, h3, h4, h5⟩ := h.ex
  have c0 := h1.cell 3 rfl
  clear h h1 h2 h3 h4 h5
  go_enter Try.func12, Try.ntmps12
  go_wp2_with (first | (refine HN.mono ?_; rintro e w1 ⟨rfl, rfl⟩) | (refine HT.mono ?_; rintro e w1 ⟨rfl, rfl⟩))
  go_ret
  exact ⟨rfl, rfl⟩
set_option maxRecDepth 100000 in
theorem snext_any (h : Sp P w s c wd nx said all r ms) : Calls Try.prog 14 #[.pointer (some ⟨s, 0, none⟩)] w fun e w' => e = .returned (.int .i64 nx) ∧ w' = w := by
  have HN := sNone_no h
  have hx := h.nxb
  obtain ⟨A, m, fs, h1, h2, h3, h4, h5⟩ := h.ex
  have c0 := h1.cell 0 rfl
  clear h h1 h2 h3 h4 h5
  go_enter Try.func14, Try.ntmps14
  go_wp2_with (first | (refine HN.mono ?_; rintro e w1 ⟨rfl, rfl⟩))
  go_ret
  exact ⟨rfl, rfl⟩
end
end Go.Proofs.Ytkpjnikbcgngbaa.Oct
