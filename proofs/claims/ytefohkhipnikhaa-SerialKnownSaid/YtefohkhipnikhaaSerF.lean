/- The walk of SerialKnown: three loops over two lists of numbers. -/
import Derived.Test.YtefohkhipnikhaaSerE
namespace Go.Proofs.Ytefohkhipnikhaa.Ser
open Go.RowKit
set_option linter.unusedVariables false

def endsU : List Int := [0, 1, 2, 32766, 32767, 32768, 32769, 65534, 65535]
def lensI : List Int := [-9223372036854775808, -1, 0, 1, 2, 32768, 65535, 65536, 65537, 9223372036854775807]
def kw (w : World) : World := (w.alloc (.cells (endsU.map (Value.int .u16)).toArray 49)).alloc (.cells (lensI.map (Value.int .i64)).toArray 3)

theorem kw_size (w : World) : (kw w).heap.size = w.heap.size + 2 := by simp [kw]
theorem kw_below (w : World) : Below w.heap.size w (kw w) := ((Below.refl _ _).alloc (Nat.le_refl _) _).alloc (by simp) _
theorem kw_ends (w : World) (j : Nat) (hj : j < 9) : (kw w).cell? ⟨w.heap.size, j, none⟩ = some (.int .u16 (endsU.getD j 0)) := by
  unfold kw
  rw [World.cell?_alloc_past _ _ _ (by simp), World.cell?_alloc_new]
  simp only [List.getElem?_toArray, List.getElem?_map]
  rw [List.getD_eq_getElem?_getD, List.getElem?_eq_getElem (by simpa [endsU] using hj)]
  rfl
theorem kw_lens (w : World) (j : Nat) (hj : j < 10) : (kw w).cell? ⟨w.heap.size + 1, j, none⟩ = some (.int .i64 (lensI.getD j 0)) := by
  unfold kw
  rw [World.cell?_alloc_at _ _ _ _ (by simp)]
  simp only [List.getElem?_toArray, List.getElem?_map]
  rw [List.getD_eq_getElem?_getD, List.getElem?_eq_getElem (by simpa [lensI] using hj)]
  rfl
theorem endsU_bd (j : Nat) : 0 ≤ endsU.getD j 0 ∧ endsU.getD j 0 < 65536 := by
  have key : ∀ x ∈ endsU, 0 ≤ x ∧ x < 65536 := by decide
  rw [List.getD_eq_getElem?_getD]
  by_cases hj : j < endsU.length
  · rw [List.getElem?_eq_getElem hj]
    exact key _ (List.getElem_mem _)
  · rw [List.getElem?_eq_none (by omega)]; simp
theorem endsU_nn (j : Nat) : 0 ≤ endsU.getD j 0 := (endsU_bd j).1
theorem endsU_lt (j : Nat) : endsU.getD j 0 < 65536 := (endsU_bd j).2
theorem kw_cells {w wr : World} (hb : Below (w.heap.size + 2) (kw w) wr) :
    (∀ j, j < 9 → wr.cell? ⟨w.heap.size, j, none⟩ = some (.int .u16 (endsU.getD j 0))) ∧ (∀ j, j < 10 → wr.cell? ⟨w.heap.size + 1, j, none⟩ = some (.int .i64 (lensI.getD j 0))) :=
  ⟨fun j hj => (hb.cell (by simp)).trans (kw_ends w j hj), fun j hj => (hb.cell (by simp)).trans (kw_lens w j hj)⟩

set_option maxRecDepth 100000 in
set_option maxHeartbeats 800000 in
theorem known_any (w : World) :
    Calls Try.prog 14 #[] w fun e w' => e = .returned (.bool true) ∧ Below w.heap.size w w' := by
  go_enter Try.func14, Try.ntmps14
  go_wp2_with fail
  go_loopw [3, 4, 5] (fun i _ _ wr => ∃ k : Nat, k ≤ 9 ∧ i = .int .i64 k ∧ Below (w.heap.size + 2) (kw w) wr) (fun i _ _ _ => 9 - (intOf i).toNat)
  case atStart => exact ⟨0, by omega, rfl, Below.refl _ _⟩
  case round =>
    obtain ⟨i, hi, rfl, hb⟩ := hrel
    by_cases hlt : i < 9
    · obtain ⟨wo, rfl⟩ : ∃ wo : World, wo = wr := ⟨_, rfl⟩
      have hd1 : decide ((i : Int) < 9) = true := by simp; omega
      go_wp2_with fail
      clear hd1
      have hI1 : (i : Int) < 9 := by omega
      go_loopw [4, 5] (fun k _ wr => ∃ q : Nat, q ≤ 9 ∧ k = .int .i64 q ∧ Below (w.heap.size + 2) (kw w) wr) (fun k _ _ => 9 - (intOf k).toNat)
      case atStart => exact ⟨0, by omega, rfl, hb⟩
      case round =>
        obtain ⟨q, hq, rfl, hb2⟩ := hrel
        by_cases hlt2 : q < 9
        · obtain ⟨wo2, rfl⟩ : ∃ wo2 : World, wo2 = wr := ⟨_, rfl⟩
          have hd2 : decide ((q : Int) < 9) = true := by simp; omega
          go_wp2_with fail
          clear hd2
          have hI2 : (q : Int) < 9 := by omega
          go_loopw [5] (fun n wr => ∃ r : Nat, r ≤ 10 ∧ n = .int .i64 r ∧ Below (w.heap.size + 2) (kw w) wr) (fun n _ => 10 - (intOf n).toNat)
          case atStart => exact ⟨0, by omega, rfl, hb2⟩
          case round =>
            obtain ⟨r, hr, rfl, hb3⟩ := hrel
            by_cases hlt3 : r < 10
            · have ci := (kw_cells hb3).1 i hlt
              have cq := (kw_cells hb3).1 q hlt2
              have cr := (kw_cells hb3).2 r hlt3
              have hz := hb3.size
              rw [kw_size] at hz
              have b1 := endsU_nn i
              have b2 := endsU_lt i
              have b3 := endsU_nn q
              have b4 := endsU_lt q
              generalize endsU.getD i 0 = x at *
              generalize endsU.getD q 0 = y at *
              generalize lensI.getD r 0 = z at *
              go_wp2_with fail
              go_region_held3 (fun w' => w'.cell? ⟨w.heap.size, i, none⟩ = some (.int .u16 x) ∧ w'.cell? ⟨w.heap.size, q, none⟩ = some (.int .u16 y) ∧ w'.cell? ⟨w.heap.size + 1, r, none⟩ = some (.int .i64 z) ∧ w.heap.size + 2 ≤ w'.heap.size ∧ Below (w.heap.size + 2) (kw w) w')
                (first
                  | exact ⟨ci, cq, cr, hz, hb3.drew⟩
                  | (go_keep; done)
                  | (go_split_ands
                     refine ⟨?_, ?_, ?_, ?_, ?_⟩
                     · exact (hb1.cell (by simp <;> omega)).trans (by assumption)
                     · exact (hb1.cell (by simp <;> omega)).trans (by assumption)
                     · exact (hb1.cell (by simp <;> omega)).trans (by assumption)
                     · (have := hb1.size; omega)
                     · (exact Below.trans (by assumption) (hb1.mono (by omega)))))
                (first | (go_at_call 9; refine (two_any _ _ _ _ (by omega) (by omega) (by omega) (by omega)).mono ?_; rintro e w' ⟨rfl, hb1⟩) | (go_at_call 10; refine (stretch_any _ _ _ _ (by omega) (by omega) (by omega) (by omega)).mono ?_; rintro e w' ⟨rfl, hb1⟩))
              all_goals rename_i hH
              all_goals go_wp2_with fail
              all_goals go_roundw
              case rel => first | exact ⟨r + 1, by omega, by go_num, hH.2.2.2.2⟩ | ((repeat apply Exists.intro); exact ⟨⟨r + 1, by omega, by go_num, hH.2.2.2.2⟩, rfl⟩)
              case measure => simp [intOf]; omega
            · obtain rfl : r = 10 := by omega
              go_wp2_with fail
              go_roundw
              case rel => exact ⟨q + 1, by omega, by go_num, hb3⟩
              case measure => simp [intOf]; omega
        · obtain rfl : q = 9 := by omega
          go_wp2_with fail
          go_roundw
          case rel => exact ⟨i + 1, by omega, by go_num, hb2⟩
          case measure => simp [intOf]; omega
    · obtain rfl : i = 9 := by omega
      go_wp2_with fail
      refine (works_any _).mono ?_
      rintro e w1 ⟨rfl, hb1⟩
      go_wp2_with fail
      go_ret
      have hz := hb.size
      rw [kw_size] at hz
      exact ⟨rfl, ((kw_below w).trans (hb.mono (by omega))).trans (hb1.mono (by omega))⟩
theorem SerialRow_walk (f n : Int) (w : World) (w0 : (Lit.int .u16 f).wf = true) (w1 : (Lit.int .i64 n).wf = true) :
    Calls Try.prog 13 #[.int .u16 f, .int .i64 n] w fun e w' => e = .returned (.bool true) ∧ Below w.heap.size w w' :=
  row_any f n w (wf_u16 w0).1 (wf_u16 w0).2
end Go.Proofs.Ytefohkhipnikhaa.Ser
