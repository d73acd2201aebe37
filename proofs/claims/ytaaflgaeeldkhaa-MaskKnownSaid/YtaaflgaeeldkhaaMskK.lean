/- The walk of MaskKnown. -/
import Derived.Test.YtaaflgaeeldkhaaMskL
import Derived.Deep.CutRange
namespace Go.Proofs.Ytaaflgaeeldkhaa.Oct
open Go.RowKit
set_option linter.unusedVariables false
set_option linter.unusedSimpArgs false

/-- The ten masks. -/
def tenM : List MaskV := [⟨0, 0, 0, 0, 0, 0, 0, 0⟩, ⟨0, -1, 0, 0, 0, 0, 0, 0⟩, ⟨1, -1, 0, 0, 0, 0, 0, 0⟩, ⟨2, 3, 0, 0, 0, 0, 0, 0⟩, ⟨-1, -2, 0, 0, 0, 0, 0, 0⟩, ⟨0, 3, 0, 0, 0, 0, 0, 0⟩, ⟨0, -1, 1, 2, 4, 1, 0, 4⟩, ⟨0, -1, 3, 3, 3, 255, 255, 255⟩, ⟨0, -1, 0, 0, 0, 9, 9, 9⟩, ⟨2, 3, 255, 255, 255, 1, 2, 7⟩]
def tenC : List Value := tenM.flatMap mcl

theorem ten_at {w : World} {g : Nat} (h : Vb 25 w g tenC) (i : Nat) (hi : i < 10) : ∃ x : MaskV, MB x ∧ w.cell? ⟨g, i * 8, none⟩ = some (.int .i64 x.v) ∧ w.cell? ⟨g, i * 8 + 1, none⟩ = some (.int .i64 x.m) ∧ w.cell? ⟨g, i * 8 + 2, none⟩ = some (.int .u8 x.b0) ∧ w.cell? ⟨g, i * 8 + 3, none⟩ = some (.int .u8 x.b1) ∧ w.cell? ⟨g, i * 8 + 4, none⟩ = some (.int .u8 x.b2) ∧ w.cell? ⟨g, i * 8 + 5, none⟩ = some (.int .u8 x.i0) ∧ w.cell? ⟨g, i * 8 + 6, none⟩ = some (.int .u8 x.i1) ∧ w.cell? ⟨g, i * 8 + 7, none⟩ = some (.int .u8 x.i2) := by
  match i, hi with
  | 0, _ => exact ⟨⟨0, 0, 0, 0, 0, 0, 0, 0⟩, by unfold MB; decide, h.cell 0 rfl, h.cell 1 rfl, h.cell 2 rfl, h.cell 3 rfl, h.cell 4 rfl, h.cell 5 rfl, h.cell 6 rfl, h.cell 7 rfl⟩
  | 1, _ => exact ⟨⟨0, -1, 0, 0, 0, 0, 0, 0⟩, by unfold MB; decide, h.cell 8 rfl, h.cell 9 rfl, h.cell 10 rfl, h.cell 11 rfl, h.cell 12 rfl, h.cell 13 rfl, h.cell 14 rfl, h.cell 15 rfl⟩
  | 2, _ => exact ⟨⟨1, -1, 0, 0, 0, 0, 0, 0⟩, by unfold MB; decide, h.cell 16 rfl, h.cell 17 rfl, h.cell 18 rfl, h.cell 19 rfl, h.cell 20 rfl, h.cell 21 rfl, h.cell 22 rfl, h.cell 23 rfl⟩
  | 3, _ => exact ⟨⟨2, 3, 0, 0, 0, 0, 0, 0⟩, by unfold MB; decide, h.cell 24 rfl, h.cell 25 rfl, h.cell 26 rfl, h.cell 27 rfl, h.cell 28 rfl, h.cell 29 rfl, h.cell 30 rfl, h.cell 31 rfl⟩
  | 4, _ => exact ⟨⟨-1, -2, 0, 0, 0, 0, 0, 0⟩, by unfold MB; decide, h.cell 32 rfl, h.cell 33 rfl, h.cell 34 rfl, h.cell 35 rfl, h.cell 36 rfl, h.cell 37 rfl, h.cell 38 rfl, h.cell 39 rfl⟩
  | 5, _ => exact ⟨⟨0, 3, 0, 0, 0, 0, 0, 0⟩, by unfold MB; decide, h.cell 40 rfl, h.cell 41 rfl, h.cell 42 rfl, h.cell 43 rfl, h.cell 44 rfl, h.cell 45 rfl, h.cell 46 rfl, h.cell 47 rfl⟩
  | 6, _ => exact ⟨⟨0, -1, 1, 2, 4, 1, 0, 4⟩, by unfold MB; decide, h.cell 48 rfl, h.cell 49 rfl, h.cell 50 rfl, h.cell 51 rfl, h.cell 52 rfl, h.cell 53 rfl, h.cell 54 rfl, h.cell 55 rfl⟩
  | 7, _ => exact ⟨⟨0, -1, 3, 3, 3, 255, 255, 255⟩, by unfold MB; decide, h.cell 56 rfl, h.cell 57 rfl, h.cell 58 rfl, h.cell 59 rfl, h.cell 60 rfl, h.cell 61 rfl, h.cell 62 rfl, h.cell 63 rfl⟩
  | 8, _ => exact ⟨⟨0, -1, 0, 0, 0, 9, 9, 9⟩, by unfold MB; decide, h.cell 64 rfl, h.cell 65 rfl, h.cell 66 rfl, h.cell 67 rfl, h.cell 68 rfl, h.cell 69 rfl, h.cell 70 rfl, h.cell 71 rfl⟩
  | 9, _ => exact ⟨⟨2, 3, 255, 255, 255, 1, 2, 7⟩, by unfold MB; decide, h.cell 72 rfl, h.cell 73 rfl, h.cell 74 rfl, h.cell 75 rfl, h.cell 76 rfl, h.cell 77 rfl, h.cell 78 rfl, h.cell 79 rfl⟩
theorem ten_cells {w w' : World} {g : Nat} {x : MaskV} (h : Vb 25 w g tenC) (h' : Vb 25 w' g tenC) (i : Nat) (hi : i < 10) (x0 : w'.cell? ⟨g, i * 8, none⟩ = some (.int .i64 x.v)) (x1 : w'.cell? ⟨g, i * 8 + 1, none⟩ = some (.int .i64 x.m)) (x2 : w'.cell? ⟨g, i * 8 + 2, none⟩ = some (.int .u8 x.b0)) (x3 : w'.cell? ⟨g, i * 8 + 3, none⟩ = some (.int .u8 x.b1)) (x4 : w'.cell? ⟨g, i * 8 + 4, none⟩ = some (.int .u8 x.b2)) (x5 : w'.cell? ⟨g, i * 8 + 5, none⟩ = some (.int .u8 x.i0)) (x6 : w'.cell? ⟨g, i * 8 + 6, none⟩ = some (.int .u8 x.i1)) (x7 : w'.cell? ⟨g, i * 8 + 7, none⟩ = some (.int .u8 x.i2)) :
    w.cell? ⟨g, i * 8, none⟩ = some (.int .i64 x.v) ∧ w.cell? ⟨g, i * 8 + 1, none⟩ = some (.int .i64 x.m) ∧ w.cell? ⟨g, i * 8 + 2, none⟩ = some (.int .u8 x.b0) ∧ w.cell? ⟨g, i * 8 + 3, none⟩ = some (.int .u8 x.b1) ∧ w.cell? ⟨g, i * 8 + 4, none⟩ = some (.int .u8 x.b2) ∧ w.cell? ⟨g, i * 8 + 5, none⟩ = some (.int .u8 x.i0) ∧ w.cell? ⟨g, i * 8 + 6, none⟩ = some (.int .u8 x.i1) ∧ w.cell? ⟨g, i * 8 + 7, none⟩ = some (.int .u8 x.i2) := by
  have e : ∀ j, w.cell? ⟨g, j, none⟩ = w'.cell? ⟨g, j, none⟩ := fun j => World.cell?_of_block (show w.heap[g]? = w'.heap[g]? from (show w.heap[g]? = _ from h).trans (show w'.heap[g]? = _ from h').symm)
  rw [e, e, e, e, e, e, e, e]
  exact ⟨x0, x1, x2, x3, x4, x5, x6, x7⟩
/-- A counter stands between 0 and 10, the masks lie where they lay, and only new memory has turned. -/
def KnM (w : World) (v : Value) (wr : World) : Prop := ∃ x : Int, v = .int .i64 x ∧ 0 ≤ x ∧ x ≤ 10 ∧ Vb 25 wr w.heap.size tenC ∧ Below w.heap.size w wr

set_option maxRecDepth 100000 in
set_option maxHeartbeats 8000000 in
theorem maskKnown_any (w : World) : Calls Try.prog 13 #[] w fun e w' => e = .returned (.bool true) ∧ Below w.heap.size w w' := by
  have hx : Vb 25 (w.alloc (.cells #[.int .i64 0, .int .i64 0, .int .u8 0, .int .u8 0, .int .u8 0, .int .u8 0, .int .u8 0, .int .u8 0, .int .i64 0, .int .i64 (-1), .int .u8 0, .int .u8 0, .int .u8 0, .int .u8 0, .int .u8 0, .int .u8 0, .int .i64 1, .int .i64 (-1), .int .u8 0, .int .u8 0, .int .u8 0, .int .u8 0, .int .u8 0, .int .u8 0, .int .i64 2, .int .i64 3, .int .u8 0, .int .u8 0, .int .u8 0, .int .u8 0, .int .u8 0, .int .u8 0, .int .i64 (-1), .int .i64 (-2), .int .u8 0, .int .u8 0, .int .u8 0, .int .u8 0, .int .u8 0, .int .u8 0, .int .i64 0, .int .i64 3, .int .u8 0, .int .u8 0, .int .u8 0, .int .u8 0, .int .u8 0, .int .u8 0, .int .i64 0, .int .i64 (-1), .int .u8 1, .int .u8 2, .int .u8 4, .int .u8 1, .int .u8 0, .int .u8 4, .int .i64 0, .int .i64 (-1), .int .u8 3, .int .u8 3, .int .u8 3, .int .u8 255, .int .u8 255, .int .u8 255, .int .i64 0, .int .i64 (-1), .int .u8 0, .int .u8 0, .int .u8 0, .int .u8 9, .int .u8 9, .int .u8 9, .int .i64 2, .int .i64 3, .int .u8 255, .int .u8 255, .int .u8 255, .int .u8 1, .int .u8 2, .int .u8 7] 25)) w.heap.size tenC := Vb.new 25 w tenC
  have hB := below_alloc w (.cells #[.int .i64 0, .int .i64 0, .int .u8 0, .int .u8 0, .int .u8 0, .int .u8 0, .int .u8 0, .int .u8 0, .int .i64 0, .int .i64 (-1), .int .u8 0, .int .u8 0, .int .u8 0, .int .u8 0, .int .u8 0, .int .u8 0, .int .i64 1, .int .i64 (-1), .int .u8 0, .int .u8 0, .int .u8 0, .int .u8 0, .int .u8 0, .int .u8 0, .int .i64 2, .int .i64 3, .int .u8 0, .int .u8 0, .int .u8 0, .int .u8 0, .int .u8 0, .int .u8 0, .int .i64 (-1), .int .i64 (-2), .int .u8 0, .int .u8 0, .int .u8 0, .int .u8 0, .int .u8 0, .int .u8 0, .int .i64 0, .int .i64 3, .int .u8 0, .int .u8 0, .int .u8 0, .int .u8 0, .int .u8 0, .int .u8 0, .int .i64 0, .int .i64 (-1), .int .u8 1, .int .u8 2, .int .u8 4, .int .u8 1, .int .u8 0, .int .u8 4, .int .i64 0, .int .i64 (-1), .int .u8 3, .int .u8 3, .int .u8 3, .int .u8 255, .int .u8 255, .int .u8 255, .int .i64 0, .int .i64 (-1), .int .u8 0, .int .u8 0, .int .u8 0, .int .u8 9, .int .u8 9, .int .u8 9, .int .i64 2, .int .i64 3, .int .u8 255, .int .u8 255, .int .u8 255, .int .u8 1, .int .u8 2, .int .u8 7] 25)
  go_enter Try.func13, Try.ntmps13
  go_upto_region 2 with fail
  generalize w.alloc (.cells #[.int .i64 0, .int .i64 0, .int .u8 0, .int .u8 0, .int .u8 0, .int .u8 0, .int .u8 0, .int .u8 0, .int .i64 0, .int .i64 (-1), .int .u8 0, .int .u8 0, .int .u8 0, .int .u8 0, .int .u8 0, .int .u8 0, .int .i64 1, .int .i64 (-1), .int .u8 0, .int .u8 0, .int .u8 0, .int .u8 0, .int .u8 0, .int .u8 0, .int .i64 2, .int .i64 3, .int .u8 0, .int .u8 0, .int .u8 0, .int .u8 0, .int .u8 0, .int .u8 0, .int .i64 (-1), .int .i64 (-2), .int .u8 0, .int .u8 0, .int .u8 0, .int .u8 0, .int .u8 0, .int .u8 0, .int .i64 0, .int .i64 3, .int .u8 0, .int .u8 0, .int .u8 0, .int .u8 0, .int .u8 0, .int .u8 0, .int .i64 0, .int .i64 (-1), .int .u8 1, .int .u8 2, .int .u8 4, .int .u8 1, .int .u8 0, .int .u8 4, .int .i64 0, .int .i64 (-1), .int .u8 3, .int .u8 3, .int .u8 3, .int .u8 255, .int .u8 255, .int .u8 255, .int .i64 0, .int .i64 (-1), .int .u8 0, .int .u8 0, .int .u8 0, .int .u8 9, .int .u8 9, .int .u8 9, .int .i64 2, .int .i64 3, .int .u8 255, .int .u8 255, .int .u8 255, .int .u8 1, .int .u8 2, .int .u8 7] 25) = w0 at *
  go_wp2_with fail
  go_loopw [2, 3] (fun v _ wr => KnM w v wr) (fun v _ _ => (10 - intOf v).toNat)
  case atStart => exact ⟨0, rfl, by omega, by omega, hx, hB⟩
  case round =>
    clear hx hB
    obtain ⟨ii, rfl, i1, i2, hx, hB⟩ := hrel
    by_cases i3 : ii < 10
    · go_wp2_with fail
      go_loopw [3] (fun v wr => KnM w v wr) (fun v _ => (10 - intOf v).toNat)
      case atStart => exact ⟨0, rfl, by omega, by omega, hx, hB⟩
      case round =>
        clear hx hB
        obtain ⟨kk, rfl, k1, k2, hx, hB⟩ := hrel
        by_cases k3 : kk < 10
        · obtain ⟨i, rfl⟩ : ∃ i : Nat, ii = i := ⟨ii.toNat, by omega⟩
          obtain ⟨k, rfl⟩ : ∃ k : Nat, kk = k := ⟨kk.toNat, by omega⟩
          have i4 : i < 10 := by omega
          have k4 : k < 10 := by omega
          go_upto_region 8 with fail
          go_cut [72] from 34 to 72 (fun v wx => v = .bool false ∧ Vb 25 wx w.heap.size tenC ∧ Below w.heap.size w wx)
          case first => as_aux_lemma =>
            have hS0 : (fun W => Vb 25 W w.heap.size tenC) wr.drew := hx
            replace hB : Below w.heap.size w wr.drew := hB.drew
            clear hx
            obtain ⟨x, hx8, x0, x1, x2, x3, x4, x5, x6, x7⟩ := ten_at hS0 i i4
            obtain ⟨y, hy8, y0, y1, y2, y3, y4, y5, y6, y7⟩ := ten_at hS0 k k4
            have Hx := Kp.mk (fun (W : World) (h : Vb 25 W w.heap.size tenC) => ten_cells h hS0 i i4 x0 x1 x2 x3 x4 x5 x6 x7)
            have Hy := Kp.mk (fun (W : World) (h : Vb 25 W w.heap.size tenC) => ten_cells h hS0 k k4 y0 y1 y2 y3 y4 y5 y6 y7)
            clear x0 x1 x2 x3 x4 x5 x6 x7 y0 y1 y2 y3 y4 y5 y6 y7
            have Hy8 := Kp.mk hy8
            clear hx8 hy8
            have f1 : IntKind.i64.wrap ((k : Int) - 2) = (k : Int) - 2 := IntWalk.i64_in _ (by omega)
            have f2 : IntKind.i64.wrap ((k : Int) - 1) = (k : Int) - 1 := IntWalk.i64_in _ (by omega)
            refine wp_region_held_drew (S := fun W => Vb 25 W w.heap.size tenC) (by kernel_rfl) hS0 (fun _ => ?_)
            generalize wr.drew = u0 at *
            refine takeD (i := 0) (v := .slice (some ⟨w.heap.size, 0, none⟩) 10 10) (some 34) rfl rfl (by kernel_rfl) (by kernel_rfl) (by kernel_rfl) (fun _ _ _ h => h) (Or.inl ⟨by rfl, ?_⟩) hS0 ?_
            · rintro w' s0
              go_simp
            try simp only [Act.put, List.setIfInBounds_toArray, List.set_cons_zero, List.set_cons_succ]
            refine takeD (i := 1) (v := .int .i64 (i : Int)) (some 35) rfl rfl (by kernel_rfl) (by kernel_rfl) (by kernel_rfl) (fun _ _ _ h => h) (Or.inl ⟨by rfl, ?_⟩) hS0 ?_
            · rintro w' s0
              go_simp
            try simp only [Act.put, List.setIfInBounds_toArray, List.set_cons_zero, List.set_cons_succ]
            refine takeD (i := 2) (v := .pointer (some ⟨w.heap.size, i * 8, none⟩)) (some 36) rfl rfl (by kernel_rfl) (by kernel_rfl) (by kernel_rfl) (fun _ _ _ h => h) (Or.inl ⟨by rfl, ?_⟩) hS0 ?_
            · rintro w' s0
              go_simp
            try simp only [Act.put, List.setIfInBounds_toArray, List.set_cons_zero, List.set_cons_succ]
            refine takeD (i := 3) (v := .agg #[.int .i64 x.v, .int .i64 x.m, .int .u8 x.b0, .int .u8 x.b1, .int .u8 x.b2, .int .u8 x.i0, .int .u8 x.i1, .int .u8 x.i2]) (some 37) rfl rfl (by kernel_rfl) (by kernel_rfl) (by kernel_rfl) (fun _ _ _ h => h) (Or.inl ⟨by rfl, ?_⟩) hS0 ?_
            · rintro w' s0
              obtain ⟨d0, d1, d2, d3, d4, d5, d6, d7⟩ := Hx.out w' s0
              go_simp
            try simp only [Act.put, List.setIfInBounds_toArray, List.set_cons_zero, List.set_cons_succ]
            refine takeD (i := 4) (v := .slice (some ⟨w.heap.size, 0, none⟩) 10 10) (some 38) rfl rfl (by kernel_rfl) (by kernel_rfl) (by kernel_rfl) (fun _ _ _ h => h) (Or.inl ⟨by rfl, ?_⟩) hS0 ?_
            · rintro w' s0
              go_simp
            try simp only [Act.put, List.setIfInBounds_toArray, List.set_cons_zero, List.set_cons_succ]
            refine takeD (i := 5) (v := .int .i64 (k : Int)) (some 39) rfl rfl (by kernel_rfl) (by kernel_rfl) (by kernel_rfl) (fun _ _ _ h => h) (Or.inl ⟨by rfl, ?_⟩) hS0 ?_
            · rintro w' s0
              go_simp
            try simp only [Act.put, List.setIfInBounds_toArray, List.set_cons_zero, List.set_cons_succ]
            refine takeD (i := 6) (v := .pointer (some ⟨w.heap.size, k * 8, none⟩)) (some 40) rfl rfl (by kernel_rfl) (by kernel_rfl) (by kernel_rfl) (fun _ _ _ h => h) (Or.inl ⟨by rfl, ?_⟩) hS0 ?_
            · rintro w' s0
              go_simp
            try simp only [Act.put, List.setIfInBounds_toArray, List.set_cons_zero, List.set_cons_succ]
            refine takeD (i := 7) (v := .agg #[.int .i64 y.v, .int .i64 y.m, .int .u8 y.b0, .int .u8 y.b1, .int .u8 y.b2, .int .u8 y.i0, .int .u8 y.i1, .int .u8 y.i2]) (some 41) rfl rfl (by kernel_rfl) (by kernel_rfl) (by kernel_rfl) (fun _ _ _ h => h) (Or.inl ⟨by rfl, ?_⟩) hS0 ?_
            · rintro w' s0
              obtain ⟨d0, d1, d2, d3, d4, d5, d6, d7⟩ := Hy.out w' s0
              go_simp
            try simp only [Act.put, List.setIfInBounds_toArray, List.set_cons_zero, List.set_cons_succ]
            refine wpAnyH_ready (rs := [8]) (by kernel_rfl) (by simp) ?_
            refine AllReadyH.cons rfl (fun K hK => ?_) AllReadyH.nil
            try rw [if_pos (by rfl)]
            go_simp
            go_at_call 9
            refine (maskMeets_any x y Hy8.out _).mono ?_
            rintro e v1 ⟨rfl, hb1⟩
            have hB1 := hB.trans (hb1.mono hB.size)
            refine hK.out _ _ (hS0.below hb1 hS0.lt) (fun hS1 => ?_)
            clear hK K
            try simp only [Act.put, List.setIfInBounds_toArray, List.set_cons_zero, List.set_cons_succ]
            refine takeD (i := 9) (v := .bool false) (some 43) rfl rfl (by kernel_rfl) (by kernel_rfl) (by kernel_rfl) (fun _ _ _ h => h) (Or.inl ⟨by rfl, ?_⟩) hS1 ?_
            · rintro w' s0
              go_simp
            try simp only [Act.put, List.setIfInBounds_toArray, List.set_cons_zero, List.set_cons_succ]
            refine takeD (i := 10) (v := .bool false) (some 44) rfl rfl (by kernel_rfl) (by kernel_rfl) (by kernel_rfl) (fun _ _ _ h => h) (Or.inl ⟨by rfl, ?_⟩) hS1 ?_
            · rintro w' s0
              go_simp
            try simp only [Act.put, List.setIfInBounds_toArray, List.set_cons_zero, List.set_cons_succ]
            refine takeD (i := 11) (v := .slice (some ⟨w.heap.size, 0, none⟩) 10 10) (some 45) rfl rfl (by kernel_rfl) (by kernel_rfl) (by kernel_rfl) (fun _ _ _ h => h) (Or.inl ⟨by rfl, ?_⟩) hS1 ?_
            · rintro w' s0
              go_simp
            try simp only [Act.put, List.setIfInBounds_toArray, List.set_cons_zero, List.set_cons_succ]
            refine takeD (i := 12) (v := .int .i64 (i : Int)) (some 46) rfl rfl (by kernel_rfl) (by kernel_rfl) (by kernel_rfl) (fun _ _ _ h => h) (Or.inl ⟨by rfl, ?_⟩) hS1 ?_
            · rintro w' s0
              go_simp
            try simp only [Act.put, List.setIfInBounds_toArray, List.set_cons_zero, List.set_cons_succ]
            refine takeD (i := 13) (v := .pointer (some ⟨w.heap.size, i * 8, none⟩)) (some 47) rfl rfl (by kernel_rfl) (by kernel_rfl) (by kernel_rfl) (fun _ _ _ h => h) (Or.inl ⟨by rfl, ?_⟩) hS1 ?_
            · rintro w' s0
              go_simp
            try simp only [Act.put, List.setIfInBounds_toArray, List.set_cons_zero, List.set_cons_succ]
            refine takeD (i := 14) (v := .agg #[.int .i64 x.v, .int .i64 x.m, .int .u8 x.b0, .int .u8 x.b1, .int .u8 x.b2, .int .u8 x.i0, .int .u8 x.i1, .int .u8 x.i2]) (some 48) rfl rfl (by kernel_rfl) (by kernel_rfl) (by kernel_rfl) (fun _ _ _ h => h) (Or.inl ⟨by rfl, ?_⟩) hS1 ?_
            · rintro w' s0
              obtain ⟨d0, d1, d2, d3, d4, d5, d6, d7⟩ := Hx.out w' s0
              go_simp
            try simp only [Act.put, List.setIfInBounds_toArray, List.set_cons_zero, List.set_cons_succ]
            refine takeD (i := 15) (v := .int .i64 (k : Int)) (some 49) rfl rfl (by kernel_rfl) (by kernel_rfl) (by kernel_rfl) (fun _ _ _ h => h) (Or.inl ⟨by rfl, ?_⟩) hS1 ?_
            · rintro w' s0
              go_simp
            try simp only [Act.put, List.setIfInBounds_toArray, List.set_cons_zero, List.set_cons_succ]
            refine takeD (i := 16) (v := .int .i64 ((k : Int) - 2)) (some 50) rfl rfl (by kernel_rfl) (by kernel_rfl) (by kernel_rfl) (fun _ _ _ h => h) (Or.inl ⟨by rfl, ?_⟩) hS1 ?_
            · rintro w' s0
              go_simp
            try simp only [Act.put, List.setIfInBounds_toArray, List.set_cons_zero, List.set_cons_succ]
            refine takeD (i := 17) (v := .int .i64 (k : Int)) (some 51) rfl rfl (by kernel_rfl) (by kernel_rfl) (by kernel_rfl) (fun _ _ _ h => h) (Or.inl ⟨by rfl, ?_⟩) hS1 ?_
            · rintro w' s0
              go_simp
            try simp only [Act.put, List.setIfInBounds_toArray, List.set_cons_zero, List.set_cons_succ]
            refine takeD (i := 18) (v := .int .i64 ((k : Int) - 1)) (some 52) rfl rfl (by kernel_rfl) (by kernel_rfl) (by kernel_rfl) (fun _ _ _ h => h) (Or.inl ⟨by rfl, ?_⟩) hS1 ?_
            · rintro w' s0
              go_simp
            try simp only [Act.put, List.setIfInBounds_toArray, List.set_cons_zero, List.set_cons_succ]
            refine takeD (i := 19) (v := .agg #[.int .i64 ((k : Int) - 2), .int .i64 ((k : Int) - 1)]) (some 53) rfl rfl (by kernel_rfl) (by kernel_rfl) (by kernel_rfl) (fun _ _ _ h => h) (Or.inl ⟨by rfl, ?_⟩) hS1 ?_
            · rintro w' s0
              go_simp
            try simp only [Act.put, List.setIfInBounds_toArray, List.set_cons_zero, List.set_cons_succ]
            refine takeD (i := 20) (v := .int .i64 (k : Int)) (some 54) rfl rfl (by kernel_rfl) (by kernel_rfl) (by kernel_rfl) (fun _ _ _ h => h) (Or.inl ⟨by rfl, ?_⟩) hS1 ?_
            · rintro w' s0
              go_simp
            try simp only [Act.put, List.setIfInBounds_toArray, List.set_cons_zero, List.set_cons_succ]
            refine takeD (i := 21) (v := .int .u8 (IntKind.u8.wrap (k : Int))) (some 55) rfl rfl (by kernel_rfl) (by kernel_rfl) (by kernel_rfl) (fun _ _ _ h => h) (Or.inl ⟨by rfl, ?_⟩) hS1 ?_
            · rintro w' s0
              go_simp
            try simp only [Act.put, List.setIfInBounds_toArray, List.set_cons_zero, List.set_cons_succ]
            refine takeD (i := 22) (v := .agg #[.int .u8 1, .int .u8 (IntKind.u8.wrap (k : Int)), .int .u8 7]) (some 56) rfl rfl (by kernel_rfl) (by kernel_rfl) (by kernel_rfl) (fun _ _ _ h => h) (Or.inl ⟨by rfl, ?_⟩) hS1 ?_
            · rintro w' s0
              go_simp
            try simp only [Act.put, List.setIfInBounds_toArray, List.set_cons_zero, List.set_cons_succ]
            refine wpAnyH_ready (rs := [23]) (by kernel_rfl) (by simp) ?_
            refine AllReadyH.cons rfl (fun K hK => ?_) AllReadyH.nil
            try rw [if_pos (by rfl)]
            go_simp
            go_at_call 8
            refine (maskFits_any x _ _ _ _ _ _).mono ?_
            rintro e v2 ⟨rfl, hb2⟩
            have hB2 := hB1.trans (hb2.mono hB1.size)
            refine hK.out _ _ (hS1.below hb2 hS1.lt) (fun hS2 => ?_)
            clear hK K
            try simp only [Act.put, List.setIfInBounds_toArray, List.set_cons_zero, List.set_cons_succ]
            refine takeD (i := 24) (v := .bool false) (some 58) rfl rfl (by kernel_rfl) (by kernel_rfl) (by kernel_rfl) (fun _ _ _ h => h) (Or.inl ⟨by rfl, ?_⟩) hS2 ?_
            · rintro w' s0
              go_simp
            try simp only [Act.put, List.setIfInBounds_toArray, List.set_cons_zero, List.set_cons_succ]
            refine takeD (i := 25) (v := .bool false) (some 59) rfl rfl (by kernel_rfl) (by kernel_rfl) (by kernel_rfl) (fun _ _ _ h => h) (Or.inl ⟨by rfl, ?_⟩) hS2 ?_
            · rintro w' s0
              go_simp
            try simp only [Act.put, List.setIfInBounds_toArray, List.set_cons_zero, List.set_cons_succ]
            refine takeD (i := 26) (v := .bool false) (some 60) rfl rfl (by kernel_rfl) (by kernel_rfl) (by kernel_rfl) (fun _ _ _ h => h) (Or.inl ⟨by rfl, ?_⟩) hS2 ?_
            · rintro w' s0
              go_simp
            try simp only [Act.put, List.setIfInBounds_toArray, List.set_cons_zero, List.set_cons_succ]
            refine takeD (i := 27) (v := .slice (some ⟨w.heap.size, 0, none⟩) 10 10) (some 61) rfl rfl (by kernel_rfl) (by kernel_rfl) (by kernel_rfl) (fun _ _ _ h => h) (Or.inl ⟨by rfl, ?_⟩) hS2 ?_
            · rintro w' s0
              go_simp
            try simp only [Act.put, List.setIfInBounds_toArray, List.set_cons_zero, List.set_cons_succ]
            refine takeD (i := 28) (v := .int .i64 (i : Int)) (some 62) rfl rfl (by kernel_rfl) (by kernel_rfl) (by kernel_rfl) (fun _ _ _ h => h) (Or.inl ⟨by rfl, ?_⟩) hS2 ?_
            · rintro w' s0
              go_simp
            try simp only [Act.put, List.setIfInBounds_toArray, List.set_cons_zero, List.set_cons_succ]
            refine takeD (i := 29) (v := .pointer (some ⟨w.heap.size, i * 8, none⟩)) (some 63) rfl rfl (by kernel_rfl) (by kernel_rfl) (by kernel_rfl) (fun _ _ _ h => h) (Or.inl ⟨by rfl, ?_⟩) hS2 ?_
            · rintro w' s0
              go_simp
            try simp only [Act.put, List.setIfInBounds_toArray, List.set_cons_zero, List.set_cons_succ]
            refine takeD (i := 30) (v := .agg #[.int .i64 x.v, .int .i64 x.m, .int .u8 x.b0, .int .u8 x.b1, .int .u8 x.b2, .int .u8 x.i0, .int .u8 x.i1, .int .u8 x.i2]) (some 64) rfl rfl (by kernel_rfl) (by kernel_rfl) (by kernel_rfl) (fun _ _ _ h => h) (Or.inl ⟨by rfl, ?_⟩) hS2 ?_
            · rintro w' s0
              obtain ⟨d0, d1, d2, d3, d4, d5, d6, d7⟩ := Hx.out w' s0
              go_simp
            try simp only [Act.put, List.setIfInBounds_toArray, List.set_cons_zero, List.set_cons_succ]
            refine takeD (i := 31) (v := .int .i64 (k : Int)) (some 65) rfl rfl (by kernel_rfl) (by kernel_rfl) (by kernel_rfl) (fun _ _ _ h => h) (Or.inl ⟨by rfl, ?_⟩) hS2 ?_
            · rintro w' s0
              go_simp
            try simp only [Act.put, List.setIfInBounds_toArray, List.set_cons_zero, List.set_cons_succ]
            refine takeD (i := 32) (v := .int .i64 ((k : Int) - 1)) (some 66) rfl rfl (by kernel_rfl) (by kernel_rfl) (by kernel_rfl) (fun _ _ _ h => h) (Or.inl ⟨by rfl, ?_⟩) hS2 ?_
            · rintro w' s0
              go_simp
            try simp only [Act.put, List.setIfInBounds_toArray, List.set_cons_zero, List.set_cons_succ]
            refine takeD (i := 33) (v := .int .i64 (k : Int)) (some 67) rfl rfl (by kernel_rfl) (by kernel_rfl) (by kernel_rfl) (fun _ _ _ h => h) (Or.inl ⟨by rfl, ?_⟩) hS2 ?_
            · rintro w' s0
              go_simp
            try simp only [Act.put, List.setIfInBounds_toArray, List.set_cons_zero, List.set_cons_succ]
            refine takeD (i := 34) (v := .int .u8 (IntKind.u8.wrap (k : Int))) (some 68) rfl rfl (by kernel_rfl) (by kernel_rfl) (by kernel_rfl) (fun _ _ _ h => h) (Or.inl ⟨by rfl, ?_⟩) hS2 ?_
            · rintro w' s0
              go_simp
            try simp only [Act.put, List.setIfInBounds_toArray, List.set_cons_zero, List.set_cons_succ]
            refine takeD (i := 35) (v := .agg #[.int .u8 (IntKind.u8.wrap (k : Int)), .int .u8 5]) (some 69) rfl rfl (by kernel_rfl) (by kernel_rfl) (by kernel_rfl) (fun _ _ _ h => h) (Or.inl ⟨by rfl, ?_⟩) hS2 ?_
            · rintro w' s0
              go_simp
            try simp only [Act.put, List.setIfInBounds_toArray, List.set_cons_zero, List.set_cons_succ]
            refine wpAnyH_ready (rs := [36]) (by kernel_rfl) (by simp) ?_
            refine AllReadyH.cons rfl (fun K hK => ?_) AllReadyH.nil
            try rw [if_pos (by rfl)]
            go_simp
            go_at_call 10
            refine (maskOnly_any x _ _ _ _).mono ?_
            rintro e v3 ⟨rfl, hb3⟩
            have hB3 := hB2.trans (hb3.mono hB2.size)
            refine hK.out _ _ (hS2.below hb3 hS2.lt) (fun hS3 => ?_)
            clear hK K
            try simp only [Act.put, List.setIfInBounds_toArray, List.set_cons_zero, List.set_cons_succ]
            refine takeD (i := 37) (v := .bool false) (some 71) rfl rfl (by kernel_rfl) (by kernel_rfl) (by kernel_rfl) (fun _ _ _ h => h) (Or.inl ⟨by rfl, ?_⟩) hS3 ?_
            · rintro w' s0
              go_simp
            try simp only [Act.put, List.setIfInBounds_toArray, List.set_cons_zero, List.set_cons_succ]
            refine takeD (i := 38) (v := .bool false) (some 72) rfl rfl (by kernel_rfl) (by kernel_rfl) (by kernel_rfl) (fun _ _ _ h => h) (Or.inl ⟨by rfl, ?_⟩) hS3 ?_
            · rintro w' s0
              go_simp
            try simp only [Act.put, List.setIfInBounds_toArray, List.set_cons_zero, List.set_cons_succ]
            refine wpAnyH_done (by kernel_rfl) ?_ _
            go_wp2_with fail
            go_meet
            case rel => exact ⟨rfl, hS3, hB3⟩
          clear hx hB
          obtain ⟨rfl, hx, hB⟩ := hcut
          go_wp2_with fail
          refine ⟨⟨(k : Int) + 1, rfl, by omega, by omega, hx, hB⟩, by simp [intOf]; omega⟩
        · go_wp2_with fail
          refine ⟨⟨ii + 1, rfl, by omega, by omega, hx, hB⟩, by simp [intOf]; omega⟩
    · go_wp2_with fail
      refine (worksM_any _).mono ?_
      rintro e w9 ⟨rfl, hb⟩
      go_wp2_with fail
      go_ret
      exact ⟨rfl, hB.trans (hb.mono hB.size)⟩
theorem MaskKnown_walk (w : World) : Calls Try.prog 13 #[] w fun e w' => e = .returned (.bool true) ∧ Below w.heap.size w w' := maskKnown_any w
end Go.Proofs.Ytaaflgaeeldkhaa.Oct
