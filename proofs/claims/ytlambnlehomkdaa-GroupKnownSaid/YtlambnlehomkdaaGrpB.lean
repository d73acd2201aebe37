/- Contracts on slices of ints: the document's CopyInts and EqInts, slices.Clone, Index, Contains. -/
import Derived.Test.YtlambnlehomkdaaGrpA
namespace Go.Proofs.Ytlambnlehomkdaa.Oct
open Go.RowKit
set_option linter.unusedVariables false
set_option linter.unusedSimpArgs false

theorem retB {a b : Bool} (h : a = b) : Ending.returned (.bool a) = .returned (.bool b) := by rw [h]
set_option maxRecDepth 100000 in
theorem copyInts_any {w : World} {B n c : Nat} {A : Option Addr} {l : List Int} (h : Rd .i64 w B A n c l) (hsz : n ≤ 1000000000) : Calls Try.prog 40 #[.slice A n c] w fun e w' => ∃ A' c', e = .returned (.slice A' n c') ∧ Oi w' w.heap.size (.slice A' n c') n l ∧ Below w.heap.size w w' := by
  obtain ⟨A', c', w', hrun, h2, h3, _⟩ := run_appendI 71 (Oi.nil w w.heap.size) h (by omega) (Nat.le_refl _)
  rw [Nat.zero_add] at hrun h2
  go_enter Try.func40, Try.ntmps40
  go_wp2_with (at_builtin; refine Lib.wpList_append_run _ rfl _ _ _ _ rfl _ _ rfl rfl _ _ hrun ?_)
  go_ret
  exact ⟨A', c', rfl, h2, h3⟩
set_option maxRecDepth 100000 in
theorem cloneI_any {w : World} {B n c : Nat} {A : Option Addr} {l : List Int} (h : Rd .i64 w B A n c l) (hB : B ≤ w.heap.size) (hsz : n ≤ 1000000000) : Calls Try.prog 92 #[.slice A n c] w fun e w' => ∃ A' c', e = .returned (.slice A' n c') ∧ Oi w' w.heap.size (.slice A' n c') n l ∧ Below w.heap.size w w' := by
  have hb0 := below_alloc w (.cells #[] 3)
  have hO : Oi (w.alloc (.cells #[] 3)) w.heap.size (.slice (some ⟨w.heap.size, 0, none⟩) 0 0) 0 [] := World.ownsRow_made w #[] 0 (Nat.le_refl _) (Nat.zero_le _) rfl
  have hr := h.below' hb0 hB
  have hz : w.heap.size ≤ (w.alloc (.cells #[] 3)).heap.size := hb0.size
  have hc := h.2.2.2.1
  have hle := h.le
  have hl := h.len
  have hq : (binOp .eql 71 (.slice A n c) (.slice none 0 0)).run Try.prog w = .ok (.bool A.isNone) w := Lib.run_eql_slice_nil w _ _ A n c 0 0 Try.underlying71
  rcases A with _ | ad
  · obtain rfl := hc rfl
    obtain rfl : n = 0 := by omega
    obtain rfl := List.eq_nil_of_length_eq_zero hl
    simp only [Option.isNone_none] at hq
    go_enter Try.func92, Try.ntmps92
    go_wp2_with fail
    go_ret
    exact ⟨none, 0, rfl, Oi.nil _ _, Below.refl _ _⟩
  · simp only [Option.isNone_some] at hq
    obtain ⟨A', c', w', hrun, h2, h3, _⟩ := run_appendI 71 hO hr (by omega) hz
    rw [Nat.zero_add] at hrun h2
    go_enter Try.func92, Try.ntmps92
    go_wp2_with (at_builtin; refine Lib.wpList_append_run _ rfl _ _ _ _ rfl _ _ rfl rfl _ _ hrun ?_)
    go_ret
    exact ⟨A', c', rfl, h2, hb0.trans h3⟩
set_option maxRecDepth 100000 in
theorem eqInts_any {w : World} {B1 B2 : Nat} {A1 A2 : Option Addr} {n1 c1 n2 c2 : Nat} {l1 l2 : List Int} (h1 : Rd .i64 w B1 A1 n1 c1 l1) (h2 : Rd .i64 w B2 A2 n2 c2 l2) (hB1 : B1 ≤ w.heap.size) (hB2 : B2 ≤ w.heap.size) :
    Calls Try.prog 43 #[.slice A1 n1 c1, .slice A2 n2 c2] w fun e w' => e = .returned (.bool (decide (l1 = l2))) ∧ Below w.heap.size w w' := by
  have e1 := h1.len
  have e2 := h2.len
  have m1 := h1.max
  by_cases hn : n1 = n2
  · subst hn
    have hb0 := Below.refl w.heap.size w
    have hB1 := Kp.mk hB1
    have hB2 := Kp.mk hB2
    have HL1 := Kp.mk e1
    have HL2 := Kp.mk e2
    have H1 := Kp.mk h1
    have H2 := Kp.mk h2
    clear e1 e2 h1 h2
    go_enter Try.func43, Try.ntmps43
    go_wp2_with fail
    go_loopw [5] (fun s5 wr => ∃ k : Nat, s5 = .int .i64 k ∧ k ≤ n1 ∧ Below w.heap.size w wr ∧ Kp (l1.take k = l2.take k)) (fun s5 _ => n1 - (intOf s5).toNat)
    case atStart => exact ⟨0, rfl, Nat.zero_le _, hb0, Kp.mk rfl⟩
    case round =>
      clear hb0
      obtain ⟨k, rfl, hk, hbw, HT⟩ := hrel
      by_cases hlt : k < n1
      · obtain ⟨b1, o1, rfl, _, f1⟩ := (H1.out.below' hbw hB1.out).at_ (by omega)
        have j1 : (k : Int) < n1 := by omega
        obtain ⟨b2, o2, rfl, _, f2⟩ := (H2.out.below' hbw hB2.out).at_ (by omega)
        have d1 := f1 k hlt
        have d2 := f2 k hlt
        clear f1 f2
        have HS1 := Kp.mk (take_snoc l1 k (by have := HL1.out; omega))
        have HS2 := Kp.mk (take_snoc l2 k (by have := HL2.out; omega))
        have HG1 := Kp.mk (show l1[k]? = some (l1.getD k 0) by rw [List.getD_eq_getElem?_getD, List.getElem?_eq_getElem (by have := HL1.out; omega)]; rfl)
        have HG2 := Kp.mk (show l2[k]? = some (l2.getD k 0) by rw [List.getD_eq_getElem?_getD, List.getElem?_eq_getElem (by have := HL2.out; omega)]; rfl)
        generalize l1.getD k 0 = x at *
        generalize l2.getD k 0 = y at *
        by_cases hxy : x = y
        · have hne : (x != y) = false := by simp [hxy]
          have HT2 := Kp.mk (show l1.take (k + 1) = l2.take (k + 1) by rw [HS1.out, HS2.out, HT.out, hxy])
          clear hxy
          go_wp2_with fail
          go_quiet (fail)
          go_wp2_with fail
          go_roundw
          case rel => exact ⟨k + 1, by go_num, by omega, below_drewN hbw _, HT2⟩
          case measure => simp [intOf]; omega
        · have hne : (x != y) = true := by simp [hxy]
          have HD := Kp.mk (show decide (l1 = l2) = false by
            refine decide_eq_false (fun e => hxy ?_)
            have g1 := HG1.out
            rw [e, HG2.out] at g1
            exact (Option.some.inj g1).symm)
          clear hxy
          go_wp2_with fail
          go_quiet (fail)
          go_wp2_with fail
          go_ret
          exact ⟨by rw [HD.out]; rfl, below_drewN hbw _⟩
      · obtain rfl : k = n1 := by omega
        have HD := Kp.mk (show decide (l1 = l2) = true by
          refine decide_eq_true ?_
          have := HT.out
          rwa [List.take_of_length_le (by have := HL1.out; omega), List.take_of_length_le (by have := HL2.out; omega)] at this)
        go_wp2_with fail
        go_ret
        exact ⟨by rw [HD.out]; rfl, hbw⟩
  · have HD := Kp.mk (show decide (l1 = l2) = false from decide_eq_false (fun e => hn (by rw [← e1, ← e2, e])))
    have hn2 : ¬ (n1 : Int) = n2 := by omega
    have hne : ((n1 : Int) != n2) = true := by simpa using hn2
    clear hn e1 e2 h1 h2
    go_enter Try.func43, Try.ntmps43
    go_wp2_with fail
    go_ret
    exact ⟨by rw [HD.out]; rfl, Below.refl _ _⟩
set_option maxRecDepth 100000 in
theorem indexI_any {w : World} {B n c : Nat} {A : Option Addr} {l : List Int} (h : Rd .i64 w B A n c l) (p : Int) : Calls Try.prog 120 #[.slice A n c, .int .i64 p] w fun e w' => ∃ i : Int, e = .returned (.int .i64 i) ∧ (decide (0 ≤ i) = decide (p ∈ l)) ∧ w' = w := by
  have e1 := h.len
  have m1 := h.max
  have H1 := Kp.mk h
  have HL := Kp.mk e1
  clear h e1
  go_enter Try.func120, Try.ntmps120
  go_wp2_with fail
  go_loopw [8] (fun s8 wr => ∃ k : Nat, s8 = .int .i64 k ∧ k ≤ n ∧ wr = w ∧ Kp (decide (p ∈ l) = decide (p ∈ l.drop k))) (fun s8 _ => n - (intOf s8).toNat)
  case atStart => exact ⟨0, rfl, Nat.zero_le _, rfl, Kp.mk rfl⟩
  case round =>
    obtain ⟨k, rfl, hk, hwr, HT⟩ := hrel
    subst hwr
    by_cases hlt : k < n
    · obtain ⟨b1, o1, rfl, _, f1⟩ := H1.out.at_ (by omega)
      have d1 := f1 k hlt
      clear f1
      have HS := Kp.mk (drop_step (l := l) (k := k) (by have := HL.out; omega))
      generalize l.getD k 0 = x at *
      by_cases hxy : p = x
      · have hne : (p == x) = true := by simp [hxy]
        have HD := Kp.mk (show decide (p ∈ l) = true by rw [HT.out, HS.out, hxy]; simp)
        clear hxy
        go_wp2_with fail
        go_ret
        exact ⟨_, rfl, by rw [HD.out]; simp, rfl⟩
      · have hne : (p == x) = false := by simp [hxy]
        have HT2 := Kp.mk (show decide (p ∈ l) = decide (p ∈ l.drop (k + 1)) by rw [HT.out, HS.out]; simp [hxy])
        clear hxy
        go_wp2_with fail
        go_roundw
        case rel => exact ⟨k + 1, by go_num, by omega, trivial, HT2⟩
        case measure => simp [intOf]; omega
    · obtain rfl : k = n := by omega
      have HD := Kp.mk (show decide (p ∈ l) = false by rw [HT.out, List.drop_eq_nil_of_le (by have := HL.out; omega)]; simp)
      go_wp2_with fail
      go_ret
      exact ⟨_, rfl, by rw [HD.out]; rfl, by first | rfl | trivial⟩
theorem containsI_any {w : World} {B n c : Nat} {A : Option Addr} {l : List Int} (h : Rd .i64 w B A n c l) (p : Int) : Calls Try.prog 114 #[.slice A n c, .int .i64 p] w fun e w' => e = .returned (.bool (decide (p ∈ l))) ∧ w' = w := by
  have H1 := Kp.mk h
  clear h
  go_enter Try.func114, Try.ntmps114
  go_wp2_with fail
  refine (indexI_any H1.out p).mono ?_
  rintro e w' ⟨i, rfl, hi, rfl⟩
  cases hb : decide (p ∈ l) with
  | false =>
    rw [hb] at hi
    have h2 : ¬ 0 ≤ i := by simpa using hi
    have h3 : i < 0 := by omega
    have HB := Kp.mk hb
    have h4 : decide (0 ≤ i) = false := by simpa using h3
    clear hi hb
    go_wp2_with fail
    go_ret
    exact ⟨by rw [HB.out]; first | rfl | (rw [← h4]; rfl), rfl⟩
  | true =>
    rw [hb] at hi
    have h2 : 0 ≤ i := by simpa using hi
    have HB := Kp.mk hb
    clear hi hb
    go_wp2_with fail
    go_ret
    exact ⟨by rw [HB.out]; rfl, rfl⟩
set_option maxRecDepth 100000 in
/-- The first one that lives. -/
theorem indexF_any {w : World} {B n c : Nat} {A : Option Addr} {l : List Int} {s : Int} (h : Rd .i64 w B A n c l) (hs : Sg s) (hl : ∀ p ∈ l, 1 ≤ p ∧ p ≤ 4) : Calls Try.prog 97 #[.slice A n c, .func (.func 90) #[.int .u8 s] #[]] w fun e w' => (∃ i : Int, e = .returned (.int .i64 i) ∧ ((i = -1 ∧ firstG s l = none) ∨ ∃ k : Nat, i = k ∧ k < n ∧ firstG s l = some (l.getD k 0))) ∧ w' = w := by
  have e1 := h.len
  have m1 := h.max
  have H1 := Kp.mk h
  have HL := Kp.mk e1
  have HS := Kp.mk hs
  have HM := Kp.mk hl
  clear h e1 hs hl
  go_enter Try.func97, Try.ntmps97
  go_wp2_with fail
  go_loopw [8] (fun s8 wr => ∃ k : Nat, s8 = .int .i64 k ∧ k ≤ n ∧ wr = w ∧ Kp (firstG s l = firstG s (l.drop k))) (fun s8 _ => n - (intOf s8).toNat)
  case atStart => exact ⟨0, rfl, Nat.zero_le _, rfl, Kp.mk rfl⟩
  case round =>
    obtain ⟨k, rfl, hk, hwr, HT⟩ := hrel
    subst hwr
    by_cases hlt : k < n
    · obtain ⟨b1, o1, rfl, _, f1⟩ := H1.out.at_ (by omega)
      have d1 := f1 k hlt
      clear f1
      have HD := Kp.mk (drop_step (l := l) (k := k) (by have := HL.out; omega))
      have HX := Kp.mk (HM.out (l.getD k 0) (by rw [List.getD_eq_getElem?_getD, List.getElem?_eq_getElem (by have := HL.out; omega)]; exact List.getElem_mem _))
      have HG := Kp.mk (rfl : l.getD k 0 = l.getD k 0)
      obtain ⟨x, hx⟩ : ∃ x, x = l.getD k 0 := ⟨_, rfl⟩
      have HX2 := Kp.mk hx
      rw [← hx] at d1 HD HX
      clear hx HG
      have hc := set_has HS.out HX.out wr
      cases hb : bitG s x with
      | true =>
        have HR := Kp.mk (show firstG s l = some (l.getD k 0) by rw [HT.out, HD.out, firstG_yes hb, HX2.out])
        rw [hb] at hc
        clear hb
        go_wp2_with (refine hc.mono ?_; rintro e w' ⟨rfl, rfl⟩)
        go_ret
        exact ⟨⟨_, rfl, .inr ⟨k, rfl, hlt, HR.out⟩⟩, rfl⟩
      | false =>
        have HT2 := Kp.mk (show firstG s l = firstG s (l.drop (k + 1)) by rw [HT.out, HD.out, firstG_no hb])
        rw [hb] at hc
        clear hb
        go_wp2_with (refine hc.mono ?_; rintro e w' ⟨rfl, rfl⟩)
        go_roundw
        case rel => exact ⟨k + 1, by go_num, by omega, trivial, HT2⟩
        case measure => simp [intOf]; omega
    · obtain rfl : k = n := by omega
      have HD := Kp.mk (show firstG s l = none by rw [HT.out, List.drop_eq_nil_of_le (by have := HL.out; omega)]; rfl)
      go_wp2_with fail
      go_ret
      exact ⟨⟨_, rfl, .inl ⟨rfl, HD.out⟩⟩, by first | rfl | trivial⟩
end Go.Proofs.Ytlambnlehomkdaa.Oct
