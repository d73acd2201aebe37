/- The walk of SerialRow. -/
import Derived.Test.YtefohkhipnikhaaSerD
import Derived.LoopTactic
import Derived.WalkArith
namespace Go.Proofs.Ytefohkhipnikhaa.Ser
open Go.RowKit
set_option linter.unusedVariables false

theorem at_place (f n i : Int) (hi : 0 ≤ i) (hi' : i < 65536) : atP f n (plusP f i) = if i < n then i else -1 := by
  have : (plusP f i - f) % 65536 = i := by unfold plusP; omega
  unfold atP; rw [this]
theorem at_before (f n : Int) (hn : n ≤ 301) : atP f n (plusP f (-1)) = -1 := by
  have : (plusP f (-1) - f) % 65536 = 65535 := by unfold plusP; omega
  unfold atP; rw [this, if_neg (by omega)]

set_option maxRecDepth 100000 in
set_option maxHeartbeats 800000 in
theorem row_any (f n : Int) (w : World) (hf : 0 ≤ f) (hf' : f < 65536) :
    Calls Try.prog 13 #[.int .u16 f, .int .i64 n] w fun e w' => e = .returned (.bool true) ∧ Below w.heap.size w w' := by
  have hm := (bringP_bd n 301 (by omega)).1
  have hm' := (bringP_bd n 301 (by omega)).2
  go_enter Try.func13, Try.ntmps13
  go_wp2_with fail
  refine (bring_any _ _ _ (by omega) (by omega)).mono ?_
  rintro e w' ⟨rfl, rfl⟩
  generalize bringP n 301 = m at *
  go_wp2_with fail
  go_loopw [7] (fun i wr => ∃ k : Nat, k ≤ 310 ∧ i = .int .i64 k ∧ wr.cell? ⟨w.heap.size, 0, none⟩ = some (.int .u16 f) ∧ wr.cell? ⟨w.heap.size, 1, none⟩ = some (.int .i64 m) ∧ w.heap.size + 1 ≤ wr.heap.size ∧ Below w.heap.size w wr) (fun i _ => 310 - (intOf i).toNat)
  case atStart => exact ⟨0, by omega, rfl, by simp, by simp, by simp, (Below.refl _ _).alloc (Nat.le_refl _) _⟩
  case round =>
    obtain ⟨k, hk, rfl, c0, c1, hz, hb⟩ := hrel
    have hp := (plusP_bd f k).1
    have hp' := (plusP_bd f k).2
    by_cases hlt : k < 310
    · by_cases hn : (k : Int) < m
      · have e1 : atP f m (plusP f k) = k := by rw [at_place f m k (by omega) (by omega), if_pos hn]
        go_wp2_with (go_at_call 45; refine (plus_any _ _ _ (by omega) (by omega)).mono ?_; rintro e w' ⟨rfl, rfl⟩)
        refine (has_any _ _ _ _ (by omega) (by omega) (by omega) (by omega)).mono ?_
        rw [e1]
        rintro e w1 ⟨rfl, hb1⟩
        have d0 := (hb1.cell (p := ⟨w.heap.size, 0, none⟩) (by simp <;> omega)).trans c0
        have d1 := (hb1.cell (p := ⟨w.heap.size, 1, none⟩) (by simp <;> omega)).trans c1
        have hz1 := hb1.size
        go_wp2_with fail
        refine (at_any _ _ _ _ (by omega) (by omega) (by omega) (by omega)).mono ?_
        rw [e1]
        rintro e w2 ⟨rfl, hb2⟩
        have f0 := (hb2.cell (p := ⟨w.heap.size, 0, none⟩) (by simp <;> omega)).trans d0
        have f1 := (hb2.cell (p := ⟨w.heap.size, 1, none⟩) (by simp <;> omega)).trans d1
        have hz2 := hb2.size
        go_wp2_with fail
        go_roundw
        case rel => exact ⟨k + 1, by omega, by go_num, f0, f1, by omega, hb.trans ((hb1.mono (by omega)).trans (hb2.mono (by omega)))⟩
        case measure => simp [intOf]; omega
      · have e1 : atP f m (plusP f k) = -1 := by rw [at_place f m k (by omega) (by omega), if_neg hn]
        go_wp2_with (go_at_call 45; refine (plus_any _ _ _ (by omega) (by omega)).mono ?_; rintro e w' ⟨rfl, rfl⟩)
        refine (has_any _ _ _ _ (by omega) (by omega) (by omega) (by omega)).mono ?_
        rw [e1]
        rintro e w1 ⟨rfl, hb1⟩
        have d0 := (hb1.cell (p := ⟨w.heap.size, 0, none⟩) (by simp <;> omega)).trans c0
        have d1 := (hb1.cell (p := ⟨w.heap.size, 1, none⟩) (by simp <;> omega)).trans c1
        have hz1 := hb1.size
        go_wp2_with fail
        refine (at_any _ _ _ _ (by omega) (by omega) (by omega) (by omega)).mono ?_
        rw [e1]
        rintro e w2 ⟨rfl, hb2⟩
        have f0 := (hb2.cell (p := ⟨w.heap.size, 0, none⟩) (by simp <;> omega)).trans d0
        have f1 := (hb2.cell (p := ⟨w.heap.size, 1, none⟩) (by simp <;> omega)).trans d1
        have hz2 := hb2.size
        go_wp2_with fail
        go_roundw
        case rel => exact ⟨k + 1, by omega, by go_num, f0, f1, by omega, hb.trans ((hb1.mono (by omega)).trans (hb2.mono (by omega)))⟩
        case measure => simp [intOf]; omega
    · obtain rfl : k = 310 := by omega
      have e2 := at_before f m (by omega)
      have hp := (plusP_bd f (-1)).1
      have hp' := (plusP_bd f (-1)).2
      go_wp2_with fail
      go_region_held3 (fun w' => w'.cell? ⟨w.heap.size, 0, none⟩ = some (.int .u16 f) ∧ w'.cell? ⟨w.heap.size, 1, none⟩ = some (.int .i64 m) ∧ w.heap.size + 1 ≤ w'.heap.size ∧ Below w.heap.size w w')
        (first
          | exact ⟨c0, c1, hz, hb.drew⟩
          | go_keep
          | (go_split_ands
             refine ⟨?_, ?_, ?_, ?_⟩
             · exact (hb1.cell (by simp <;> omega)).trans (by assumption)
             · exact (hb1.cell (by simp <;> omega)).trans (by assumption)
             · (have := hb1.size; omega)
             · (exact Below.trans (by assumption) (hb1.mono (by omega)))))
        (first | (go_at_call 45; refine (plus_any _ _ _ (by omega) (by omega)).mono ?_; rintro e w' ⟨rfl, rfl⟩) | (go_at_call 50; refine (has_any _ _ _ _ (by omega) (by omega) (by omega) (by omega)).mono ?_; rintro e w' ⟨rfl, hb1⟩) | (go_at_call 47; refine (works_any _).mono ?_; rintro e w' ⟨rfl, hb1⟩))
      all_goals go_wp2
      all_goals go_ret
      all_goals rename_i hH
      all_goals exact ⟨ret_bool (by simp), hH.2.2.2⟩
end Go.Proofs.Ytefohkhipnikhaa.Ser
