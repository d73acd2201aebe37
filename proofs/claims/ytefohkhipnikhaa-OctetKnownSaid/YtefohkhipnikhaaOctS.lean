/- The walk of OctetKnown. -/
import Derived.Test.YtefohkhipnikhaaOctR
namespace Go.Proofs.Ytefohkhipnikhaa.Oct
open Go.RowKit
set_option linter.unusedVariables false
set_option maxRecDepth 100000 in
set_option maxHeartbeats 1600000 in
theorem known_any (w : World) :
    Calls Try.prog 8 #[] w fun e w' => e = .returned (.bool true) ∧ Below w.heap.size w w' := by
  go_enter Try.func8, Try.ntmps8
  go_wp2_with fail
  refine (num_nil 1 w).mono ?_
  rintro en w' ⟨rfl, rfl⟩
  go_wp2_with fail
  refine (text_nil w).mono ?_
  rintro en w' ⟨rfl, rfl⟩
  go_wp2_with fail
  refine (left_nil w).mono ?_
  rintro en w' ⟨rfl, rfl⟩
  go_wp2_with fail
  refine (err_nil w).mono ?_
  rintro en w' ⟨rfl, rfl⟩
  go_wp2_with fail
  refine (end_nil w).mono ?_
  rintro en w' ⟨rfl, rfl⟩
  go_wp2_with fail
  refine (leftM_any (zero_rdr w)).mono ?_
  rintro en w' ⟨rfl, rfl⟩
  go_wp2_with fail
  refine (endM_any (zero_rdr w)).mono ?_
  rw [show endR [] 0 = 0 from rfl]
  rintro en w' ⟨rfl, rfl⟩
  go_wp2_with fail
  refine (num_any 2 (zero_rdr w)).mono ?_
  rw [show numR 2 [] 0 = (0, [], 3) from by decide +kernel]
  rintro en w1 ⟨rfl, hA, hgA⟩
  have hb1 : Below w.heap.size w w1 := below_grown (below_alloc w _) hgA (by simp) (by omega)
  clear hgA
  go_wp2_with fail
  refine (errM_any hA).mono ?_
  rintro en w' ⟨rfl, rfl⟩
  clear hA
  go_wp2_with fail
  go_loopw [3, 4] (fun i _ wr => ∃ k : Nat, k ≤ 16 ∧ i = .int .i64 k ∧ Below (w1.heap.size + 1) (kn w1) wr) (fun i _ _ => 16 - (intOf i).toNat)
  case atStart => exact ⟨0, by omega, rfl, Below.refl _ _⟩
  case round =>
    obtain ⟨i, hi, rfl, hb⟩ := hrel
    by_cases hlt : i < 16
    · obtain ⟨wo, rfl⟩ : ∃ wo : World, wo = wr := ⟨_, rfl⟩
      have hd1 : decide ((i : Int) < 16) = true := by simp; omega
      go_wp2_with fail
      clear hd1
      have hI1 : (i : Int) < 16 := by omega
      go_loopw [4] (fun k wr => ∃ q : Nat, q ≤ 16 ∧ k = .int .i64 q ∧ Below (w1.heap.size + 1) (kn w1) wr) (fun k _ => 16 - (intOf k).toNat)
      case atStart => exact ⟨0, by omega, rfl, hb⟩
      case round =>
        obtain ⟨q, hq, rfl, hb2⟩ := hrel
        by_cases hlt2 : q < 16
        · have ci := kn_cells hb2 i hlt
          have cq := kn_cells hb2 q hlt2
          have hI2 : (q : Int) < 16 := by omega
          have hz := hb2.size
          rw [kn_size] at hz
          generalize endsK.getD i 0 = x at *
          generalize endsK.getD q 0 = y at *
          have HS : KS w1 i q x y wr := ⟨ci, cq, hz, hb2⟩
          have HK := Kp.mk HS
          clear HS
          go_wp2_with fail
          go_region_held3 (fun w' => w'.cell? ⟨w1.heap.size, i, none⟩ = some (.int .i64 x) ∧ w'.cell? ⟨w1.heap.size, q, none⟩ = some (.int .i64 y) ∧ w1.heap.size + 1 ≤ w'.heap.size ∧ Below (w1.heap.size + 1) (kn w1) w')
            (first
              | with_reducible exact HK.out.dr
              | with_reducible exact HK.out.two _ _
              | with_reducible exact HK.out.one _
              | with_reducible exact HK.out.below hbw
              | (go_keep; done))
            (first | (go_at_call 3; with_reducible refine (puts_ab wr x y).mono ?_; rintro e w' ⟨rfl, hbw⟩) | (go_at_call 3; with_reducible refine (puts_ba wr x y).mono ?_; rintro e w' ⟨rfl, hbw⟩))
          all_goals rename_i hH
          all_goals go_wp2_with fail
          all_goals go_roundw
          all_goals first | exact ⟨q + 1, by omega, by go_num, hH.2.2.2⟩ | (simp [intOf]; omega)
        · obtain rfl : q = 16 := by omega
          have ci := kn_cells hb2 i hlt
          have hz := hb2.size
          rw [kn_size] at hz
          have ci2 := kn_cells_alloc hb2 i hlt (.cells #[.int .u8 0, .int .u8 1, .int .u8 7, .int .u8 8, .int .u8 9, .int .u8 0, .int .u8 9] 5)
          generalize endsK.getD i 0 = x at *
          go_wp2_with fail
          refine (reads_ab wr x _ rfl).mono ?_
          rintro e w' ⟨rfl, hbw⟩
          go_wp2_with fail
          go_roundw
          case rel => exact ⟨i + 1, by omega, by go_num, hb2.trans (hbw.mono hz)⟩
          case measure => simp [intOf]; omega
    · obtain rfl : i = 16 := by omega
      have hz := hb.size
      rw [kn_size] at hz
      go_wp2_with fail
      refine (works_any _).mono ?_
      rintro e w2 ⟨rfl, hb2⟩
      have hmk := run_zeros 65535 (by omega) 65535 rfl
      go_wp2_with fail
      clear hmk
      refine (puts_zeros 65535 (by omega) 1 w2).mono ?_
      rintro e w3 ⟨rfl, hb3⟩
      have hmk := run_zeros 65536 (by omega) 65536 rfl
      go_wp2_with fail
      clear hmk
      refine (puts_zeros 65536 (by omega) 1 w3).mono ?_
      rintro e w4 ⟨rfl, hb4⟩
      have hmk := run_zeros 509 (by omega) 509 rfl
      go_wp2_with fail
      clear hmk
      refine (puts_zeros 509 (by omega) 255 w4).mono ?_
      rintro e w5 ⟨rfl, hb5⟩
      have hmk := run_zeros 510 (by omega) 510 rfl
      go_wp2_with fail
      clear hmk
      refine (puts_zeros 510 (by omega) 255 w5).mono ?_
      rintro e w6 ⟨rfl, hb6⟩
      have hmk := run_zeros 513 (by omega) 513 rfl
      go_wp2_with fail
      clear hmk
      refine (opens_zeros 513 (by omega) w6).mono ?_
      rintro e w7 ⟨rfl, hb7⟩
      have hmk := run_zeros 2 (by omega) 2 rfl
      go_wp2_with fail
      clear hmk
      refine (opens_zeros 2 (by omega) w7).mono ?_
      rintro e w8 ⟨rfl, hb8⟩
      go_wp2_with fail
      refine (opens_none w8).mono ?_
      rintro e w9 ⟨rfl, hb9⟩
      go_wp2_with fail
      go_ret
      have t1 := ((kn_below w1).trans (hb.mono (by omega)))
      have t2 := bstep t1 hb2 t1.size
      have t3 := bstep t2 hb3 t2.size
      have t4 := bstep t3 hb4 t3.size
      have t5 := bstep t4 hb5 t4.size
      have t6 := bstep t5 hb6 t5.size
      have t7 := bstep t6 hb7 t6.size
      have t8 := bstep t7 hb8 t7.size
      have t9 := bstep t8 hb9 t8.size
      exact ⟨rfl, hb1.trans (t9.mono hb1.size)⟩
end Go.Proofs.Ytefohkhipnikhaa.Oct
