/- Contracts of layer 12 (graph): slices.Sort of a short row of ints that the call owns. -/
import Derived.Test.YtlmonnggklfniaaGraE
import Derived.LoopN
namespace Go.Proofs.Ytlmonnggklfniaa.Oct
open Go.RowKit
set_option linter.unusedVariables false
set_option linter.unusedSimpArgs false

theorem isNaN_int (a : Int) (w : World) : Calls Try.prog 54 #[.int .i64 a] w fun e w' => e = .returned (.bool false) ∧ w = w' := by
  go_enter Try.func54, Try.ntmps54
  go_wp2_with fail
  go_ret
  first | exact ⟨rfl, rfl⟩ | trivial
theorem less_int (a b : Int) (w : World) : Calls Try.prog 44 #[.int .i64 a, .int .i64 b] w fun e w' => e = .returned (.bool (decide (a < b))) ∧ w' = w := by
  have h1 := isNaN_int a
  go_enter Try.func44, Try.ntmps44
  go_wp2_with (refine (h1 _).mono ?_; rintro e w' ⟨rfl, rfl⟩)
  go_ret
  first | exact ⟨rfl, rfl⟩ | trivial
theorem oi_own {w : World} {base n c : Nat} {A : Option Addr} {l : List Int} {w' : World} (h : Oi w base (.slice A n c) n l) (hg : w.grownBy w' (Value.slice A n c).ownBlock) (B : Nat) (hB : B ≤ base) (hBw : B ≤ w.heap.size) : Below B w w' := by
  refine (Below.refl B w).grown hg hBw (fun k hk => ?_)
  have := (h.lt k hk).1
  omega
theorem oi_same2 {w w' : World} {base n : Nat} {v : Value} {l : List Int} (h : Oi w base v n l) (hk : ∀ k, v.ownBlock = some k → w'.heap[k]? = w.heap[k]?) : Oi w' base v n l := by
  refine ⟨h.1, ?_⟩
  rcases h.2 with h2 | ⟨g, cap, cur, e, hbg, hg, r⟩
  · exact .inl h2
  · exact .inr ⟨g, cap, cur, e, hbg, (hk g (by rw [e]; rfl)).trans hg, r⟩
theorem below_drew_oi {w : World} {base n : Nat} {v : Value} {l : List Int} (h : Oi w base v n l) {q : Nat} : Oi (w.drewN q) base v n l := oi_same2 h (fun _ _ => rfl)
theorem grown_drew {w w' : World} {o : Option Nat} (h : w.grownBy w' o) {q : Nat} : w.grownBy (w'.drewN q) o := h.trans (grown_of_below (below_drewN (Below.refl w'.heap.size w') q) o)
set_option maxRecDepth 100000 in
set_option maxHeartbeats 1000000 in
theorem ins_any {w : World} {base n c : Nat} {A : Option Addr} {l : List Int} (hO : Oi w base (.slice A n c) n l) (hn : n ≤ 12) : Calls Try.prog 38 #[.slice A n c, .int .i64 0, .int .i64 n] w fun e w' => e = .returned (.tuple #[]) ∧ (∃ l', l'.Perm l ∧ l'.Pairwise (· ≤ ·) ∧ Oi w' base (.slice A n c) n l') ∧ w.grownBy w' (Value.slice A n c).ownBlock := by
  have hl := hO.len
  have HO := Kp.mk (And.intro hO hl)
  clear hO hl
  go_enter Try.func38, Try.ntmps38
  go_wp2_with fail
  go_loopw [6] (fun s6 wr => ∃ i : Nat, s6 = .int .i64 i ∧ 1 ≤ i ∧ i ≤ 13 ∧ Kp (∃ l' : List Int, l'.Perm l ∧ SrtTo l' i ∧ Oi wr base (.slice A n c) n l' ∧ w.grownBy wr (Value.slice A n c).ownBlock)) (fun s6 _ => 13 - (intOf s6).toNat)
  case atStart => exact ⟨1, rfl, by omega, by omega, Kp.mk ⟨l, List.Perm.refl _, fun a b h1 h2 => by omega, HO.out.1, ⟨rfl, rfl, rfl, Nat.le_refl _, fun _ _ _ => rfl⟩⟩⟩
  case round =>
    obtain ⟨i, rfl, hi1, hi2, HK⟩ := hrel
    by_cases hlt : i < n
    · have hin : (i : Int) < n := by omega
      obtain ⟨l0, hp0, hs0, hO0, hg0⟩ := HK.out
      have HI := Kp.mk (⟨l0, hp0, inJ_start hs0, hO0, hg0⟩ : ∃ l' : List Int, l'.Perm l ∧ InJ l' i i ∧ Oi wr base (.slice A n c) n l' ∧ w.grownBy wr (Value.slice A n c).ownBlock)
      clear hp0 hs0 hO0 hg0 HK
      go_wp2_with fail
      go_loopw [7] (fun s7 wx => ∃ j : Nat, s7 = .int .i64 j ∧ j ≤ i ∧ Kp (∃ l' : List Int, l'.Perm l ∧ InJ l' i j ∧ Oi wx base (.slice A n c) n l' ∧ w.grownBy wx (Value.slice A n c).ownBlock)) (fun s7 _ => (intOf s7).toNat)
      case atStart => exact ⟨i, rfl, Nat.le_refl _, HI⟩
      case round =>
        clear HI
        obtain ⟨j, rfl, hj, HJ⟩ := hrel
        obtain ⟨l1, hp1, hs1, hO1, hg1⟩ := HJ.out
        have hl1 := hO1.len
        cases j with
        | zero =>
          have HZ := Kp.mk (And.intro hp1 (And.intro (inJ_zero hs1) (And.intro hO1 hg1)))
          clear HJ hp1 hs1 hO1 hg1 hl1
          have h00 : ¬ 0 < ((0 : Nat) : Int) := by omega
          go_wp2_with fail
          go_quiet (fail)
          go_wp2_with fail
          go_roundw
          case rel => exact ⟨i + 1, by go_num, by omega, by omega, Kp.mk ⟨l1, HZ.out.1, HZ.out.2.1, below_drew_oi HZ.out.2.2.1, grown_drew HZ.out.2.2.2⟩⟩
          case measure => simp [intOf]; omega
        | succ j =>
          obtain ⟨g, hA, hcell⟩ : ∃ g, A = some ⟨g, 0, none⟩ ∧ ∀ k, k < n → wr.cell? ⟨g, k, none⟩ = some (.int .i64 (l1.getD k 0)) ∧ wr.frozen? ⟨g, k, none⟩ = false := by
            obtain ⟨g, c', e, _, _, _, _, h⟩ := hO1.at_ (by omega)
            injection e with e1 _ _
            exact ⟨g, e1, h⟩
          subst hA
          obtain ⟨d0, f0⟩ := hcell (j + 1) (by omega)
          obtain ⟨d1, f1⟩ := hcell j (by omega)
          have hj0 : 0 < ((j + 1 : Nat) : Int) := by omega
          have hjn : ((j + 1 : Nat) : Int) < n := by omega
          have hjm : (j : Int) < n := by omega
          have hj12 : (j : Int) ≤ 12 := by omega
          clear hcell
          have hcl := less_int (l1.getD (j + 1) 0) (l1.getD j 0)
          by_cases hd : l1.getD (j + 1) 0 < l1.getD j 0
          · have hlx : decide (l1.getD (j + 1) 0 < l1.getD j 0) = true := decide_eq_true hd
            have HZ := Kp.mk (And.intro ((swap_perm l1 j (by omega)).trans hp1) (And.intro (inJ_step (by omega) hj hs1 hd) (And.intro hO1 hg1)))
            rw [hlx] at hcl
            clear HJ hp1 hs1 hO1 hg1 hl1 hd hlx
            obtain ⟨x, hx⟩ : ∃ x, x = l1.getD (j + 1) 0 := ⟨_, rfl⟩
            obtain ⟨y, hy⟩ : ∃ y, y = l1.getD j 0 := ⟨_, rfl⟩
            rw [← hx] at d0 hcl
            rw [← hy] at d1 hcl
            have HXY := Kp.mk (And.intro hx hy)
            clear hx hy
            go_wp2_with fail
            go_quiet ((go_at_call 44; exact Calls.quiet_of_same (hcl _)))
            go_wp2_with fail
            go_region
            have hO8 := ((below_drew_oi (q := nq + 1) HZ.out.2.2.1).set (j + 1) y).set j x
            have hg8 := (grown_drew (q := nq + 1) HZ.out.2.2.2).trans ((grownBy_set (wr.drewN (nq + 1)) g (j + 1) (.int .i64 y)).trans (grownBy_set _ g j (.int .i64 x)))
            have hsw : (l1.set (j + 1) y).set j x = swapP l1 j := by rw [HXY.out.1, HXY.out.2]; rfl
            rw [hsw] at hO8
            have HF := Kp.mk (And.intro hO8 hg8)
            clear hO8 hg8 hsw d0 d1 f0 f1
            go_wp2_with fail
            go_roundw
            case rel => exact ⟨j, by go_num, by omega, Kp.mk ⟨swapP l1 j, HZ.out.1, HZ.out.2.1, HF.out.1, HF.out.2⟩⟩
            case measure => simp [intOf]
          · have hlx : decide (l1.getD (j + 1) 0 < l1.getD j 0) = false := decide_eq_false hd
            have HZ := Kp.mk (And.intro hp1 (And.intro (inJ_stop hs1 hd) (And.intro hO1 hg1)))
            rw [hlx] at hcl
            clear HJ hp1 hs1 hO1 hg1 hl1 hd hlx
            generalize l1.getD (j + 1) 0 = x at *
            generalize l1.getD j 0 = y at *
            go_wp2_with fail
            go_quiet ((go_at_call 44; exact Calls.quiet_of_same (hcl _)))
            go_wp2_with fail
            go_roundw
            case rel => exact ⟨i + 1, by go_num, by omega, by omega, Kp.mk ⟨l1, HZ.out.1, HZ.out.2.1, below_drew_oi HZ.out.2.2.1, grown_drew HZ.out.2.2.2⟩⟩
            case measure => simp [intOf]; omega
    · obtain ⟨l0, hp0, hs0, hO0, hg0⟩ := HK.out
      have HZ := Kp.mk (⟨⟨l0, hp0, srtTo_sorted (fun a b h1 h2 => hs0 a b h1 (by have := hO0.len; omega)), hO0⟩, hg0⟩ : (∃ l' : List Int, l'.Perm l ∧ l'.Pairwise (· ≤ ·) ∧ Oi wr base (.slice A n c) n l') ∧ w.grownBy wr (Value.slice A n c).ownBlock)
      have hin : ¬ (i : Int) < n := by omega
      clear hp0 hs0 hO0 hg0 HK
      go_wp2_with fail
      go_end0
      exact ⟨rfl, HZ.out⟩
set_option maxRecDepth 100000 in
set_option maxHeartbeats 1000000 in
theorem pdq_any {w : World} {base n c : Nat} {A : Option Addr} {l : List Int} (hO : Oi w base (.slice A n c) n l) (hn : n ≤ 12) (k : Int) : Calls Try.prog 35 #[.slice A n c, .int .i64 0, .int .i64 n, .int .i64 k] w fun e w' => e = .returned (.tuple #[]) ∧ (∃ l', l'.Perm l ∧ l'.Pairwise (· ≤ ·) ∧ Oi w' base (.slice A n c) n l') ∧ w.grownBy w' (Value.slice A n c).ownBlock := by
  have hc := ins_any hO hn
  have hn2 : (n : Int) ≤ 12 := by omega
  clear hO
  go_enter Try.func35, Try.ntmps35
  go_wp2_with fail
  refine wp_loop_rounds 1 ?_
  rw [rounds_succ]
  go_wp2_with (refine hc.mono ?_; rintro e w' ⟨rfl, hr⟩)
  refine bodyPost_ret (results_none rfl _ _ _) rfl ?_
  exact ⟨rfl, hr⟩
set_option maxRecDepth 100000 in
theorem len64_any (n : Nat) (hn : n ≤ 12) (w : World) : Calls Try.prog 48 #[.int .u64 n] w fun e w' => (∃ k : Int, e = .returned (.int .i64 k)) ∧ w = w' := by
  have key : ∀ i : Fin 13, Calls Try.prog 48 #[.int .u64 (i.val : Nat)] w fun e w' => (∃ k : Int, e = .returned (.int .i64 k)) ∧ w = w' := by
    intro i
    have h1 : ¬ (4294967296 : Int) ≤ (i.val : Nat) := by have := i.isLt; omega
    have h2 : ¬ (65536 : Int) ≤ (i.val : Nat) := by have := i.isLt; omega
    have h3 : ¬ (256 : Int) ≤ (i.val : Nat) := by have := i.isLt; omega
    go_enter Try.func48, Try.ntmps48
    go_wp2_with fail
    go_ret
    exact ⟨⟨_, rfl⟩, rfl⟩
  exact key ⟨n, by omega⟩
theorem len_any (n : Nat) (hn : n ≤ 12) (w : World) : Calls Try.prog 36 #[.int .u64 n] w fun e w' => (∃ k : Int, e = .returned (.int .i64 k)) ∧ w = w' := by
  have hc := len64_any n hn w
  go_enter Try.func36, Try.ntmps36
  go_wp2_with (refine hc.mono ?_; rintro e w' ⟨⟨k, rfl⟩, rfl⟩)
  go_ret
  exact ⟨⟨_, rfl⟩, rfl⟩
set_option maxRecDepth 100000 in
theorem sort_any {w : World} {base n c : Nat} {A : Option Addr} {l : List Int} (hO : Oi w base (.slice A n c) n l) (hn : n ≤ 12) : Calls Try.prog 29 #[.slice A n c] w fun e w' => e = .returned (.tuple #[]) ∧ (∃ l', l'.Perm l ∧ l'.Pairwise (· ≤ ·) ∧ Oi w' base (.slice A n c) n l') ∧ w.grownBy w' (Value.slice A n c).ownBlock := by
  have hc := pdq_any hO hn
  have hl := len_any n hn w
  have hn2 : (n : Int) ≤ 12 := by omega
  clear hO
  go_enter Try.func29, Try.ntmps29
  go_wp2_with fail
  refine hl.mono ?_
  rintro e w' ⟨⟨k, rfl⟩, rfl⟩
  go_wp2_with (refine (hc k).mono ?_; rintro e w' ⟨rfl, hr⟩)
  go_end0
  exact ⟨rfl, hr⟩
end Go.Proofs.Ytlmonnggklfniaa.Oct
