/- The walks of SerialOrder and SerialMoves. -/
import Derived.Test.YtefohkhipnikhaaSerC
import Derived.Outline
import Derived.WalkSmall
import Derived.BigQuiet
import Derived.Deep.QuietTactic
import Derived.Deep.RegionWith
import Derived.Deep.RegionHeld3
namespace Go.Proofs.Ytefohkhipnikhaa.Ser
open Go.RowKit
set_option linter.unusedVariables false

theorem ret_bool {a b : Bool} (h : a = b) : Ending.returned (.bool a) = .returned (.bool b) := by rw [h]

theorem order_any (a b : Int) (w : World) (ha : 0 ≤ a) (ha' : a < 65536) (hb : 0 ≤ b) (hb' : b < 65536) :
    Calls Try.prog 11 #[.int .u16 a, .int .u16 b] w fun e w' => e = .returned (.bool true) ∧ Below w.heap.size w w' := by
  by_cases h1 : a = b
  · subst h1
    have k1 : lessP a a = false := by unfold lessP aheadP; simp
    have k2 : (a == a) = true := by simp
    go_enter Try.func11, Try.ntmps11
    go_wp2_with fail
    refine (works_any _).mono ?_
    rintro e w1 ⟨rfl, hb1⟩
    go_wp2_with (go_at_call 43; refine (less_any _ _ _ (by omega) (by omega) (by omega) (by omega)).mono ?_; rintro e w' ⟨rfl, rfl⟩)
    go_ret
    exact ⟨rfl, hb1⟩
  have k0 : (a == b) = false := by simpa using h1
  by_cases h2 : IntKind.u16.wrap (a - b) = 32768
  · have k1 : lessP a b = false := by rw [IntKind.wrap_u16] at h2; unfold lessP aheadP; simp; split <;> omega
    have k3 : lessP b a = false := by rw [IntKind.wrap_u16] at h2; unfold lessP aheadP; simp; split <;> omega
    have k2 : (IntKind.u16.wrap (a - b) == 32768) = true := by simpa using h2
    clear h2
    go_enter Try.func11, Try.ntmps11
    go_wp2_with fail
    refine (works_any _).mono ?_
    rintro e w1 ⟨rfl, hb1⟩
    go_wp2_with (go_at_call 43; refine (less_any _ _ _ (by omega) (by omega) (by omega) (by omega)).mono ?_; rintro e w' ⟨rfl, rfl⟩)
    go_ret
    exact ⟨rfl, hb1⟩
  have k2 : (IntKind.u16.wrap (a - b) == 32768) = false := by simpa using h2
  rw [IntKind.wrap_u16] at h2
  have k4 : wrap64 (-aheadP b a) = aheadP a b := by unfold wrap64 aheadP; split <;> split <;> omega
  have k5 : aheadP b a = -aheadP a b := by unfold aheadP; split <;> split <;> omega
  have K4 := Lib.hid k4
  by_cases h3 : 0 < aheadP a b
  · have k1 : lessP a b = true := by unfold lessP; simpa using h3
    have k3 : lessP b a = false := by unfold lessP; simp; omega
    clear k4 k5 h1 h2
    go_enter Try.func11, Try.ntmps11
    go_wp2_with fail
    refine (works_any _).mono ?_
    rintro e w1 ⟨rfl, hb1⟩
    go_wp2_with (first | (go_at_call 43; refine (less_any _ _ _ (by omega) (by omega) (by omega) (by omega)).mono ?_; rintro e w' ⟨rfl, rfl⟩) | (go_at_call 41; refine (ahead_any _ _ _ (by omega) (by omega) (by omega) (by omega)).mono ?_; rintro e w' ⟨rfl, rfl⟩))
    go_ret
    exact ⟨ret_bool (by rw [K4.out]; simp), hb1⟩
  · have k1 : lessP a b = false := by unfold lessP; simp; omega
    have k7 : aheadP a b ≠ 0 := by unfold aheadP; split <;> omega
    have k6 : 0 < aheadP b a := by rw [k5]; omega
    have k3 : lessP b a = true := by unfold lessP; simpa using k6
    clear k4 k5 k7 h1 h2
    go_enter Try.func11, Try.ntmps11
    go_wp2_with fail
    refine (works_any _).mono ?_
    rintro e w1 ⟨rfl, hb1⟩
    go_wp2_with (first | (go_at_call 43; refine (less_any _ _ _ (by omega) (by omega) (by omega) (by omega)).mono ?_; rintro e w' ⟨rfl, rfl⟩) | (go_at_call 41; refine (ahead_any _ _ _ (by omega) (by omega) (by omega) (by omega)).mono ?_; rintro e w' ⟨rfl, rfl⟩))
    go_ret
    exact ⟨ret_bool (by rw [K4.out]; simp; omega), hb1⟩

theorem at_moved (a b n m : Int) : atP (plusP a n) m (plusP b n) = atP a m b := by
  have : (plusP b n - plusP a n) % 65536 = (b - a) % 65536 := by unfold plusP; omega
  unfold atP; rw [this]
theorem ahead_moved (a b n : Int) : aheadP (plusP a n) (plusP b n) = aheadP a b := by
  have : (plusP b n - plusP a n) % 65536 = (b - a) % 65536 := by unfold plusP; omega
  unfold aheadP; rw [this]
theorem less_moved (a b n : Int) : lessP (plusP a n) (plusP b n) = lessP a b := by unfold lessP; rw [ahead_moved]
theorem plus_ahead (a b : Int) (hb : 0 ≤ b) (hb' : b < 65536) : plusP a (aheadP a b) = b := by unfold plusP aheadP; split <;> omega
theorem aheadP_bd (a b : Int) : -32768 ≤ aheadP a b ∧ aheadP a b ≤ 32767 := by unfold aheadP; split <;> omega

theorem two_box (W : World) (B : Nat) (x0 x1 y0 y1 : Value) (t : TypeId) (hB : W.heap.size = B) :
    let V := ((W.alloc (.cells #[x0, x1] t)).alloc (.cells #[y0, y1] t)).drew
    V.cell? ⟨B, 0, none⟩ = some x0 ∧ V.cell? ⟨B, 1, none⟩ = some x1 ∧ V.cell? ⟨B + 1, 0, none⟩ = some y0 ∧ V.cell? ⟨B + 1, 1, none⟩ = some y1 ∧ V.heap.size = B + 2 ∧ Below B W V := by
  subst hB
  refine ⟨?_, ?_, ?_, ?_, by simp, (((Below.refl _ _).alloc (Nat.le_refl _) _).alloc (by simp) _).drew⟩
  · rw [World.cell?_drew, World.cell?_alloc_past _ _ _ (by simp), World.cell?_alloc_new]; rfl
  · rw [World.cell?_drew, World.cell?_alloc_past _ _ _ (by simp), World.cell?_alloc_new]; rfl
  · rw [World.cell?_drew, World.cell?_alloc_at _ _ _ _ (by simp)]; rfl
  · rw [World.cell?_drew, World.cell?_alloc_at _ _ _ _ (by simp)]; rfl

theorem moves_any (a b n m : Int) (w : World) (ha : 0 ≤ a) (ha' : a < 65536) (hb : 0 ≤ b) (hb' : b < 65536) :
    Calls Try.prog 12 #[.agg #[.int .u16 a, .int .u16 b], .int .i64 n, .int .i64 m] w fun e w' => e = .returned (.bool true) ∧ Below w.heap.size w w' := by
  have hp := (plusP_bd a n).1
  have hp' := (plusP_bd a n).2
  have hq := (plusP_bd b n).1
  have hq' := (plusP_bd b n).2
  have e1 : (plusP a (aheadP a b) != b) = false := by rw [plus_ahead a b hb hb']; simp
  have e2 := ahead_moved a b n
  have e3 := less_moved a b n
  have e4 := at_moved a b n m
  go_enter Try.func12, Try.ntmps12
  go_wp2_with fail
  go_quiet (fail)
  rename_i nq
  go_wp2_with (first | (go_at_call 45; refine (plus_any _ _ _ (by omega) (by omega)).mono ?_; rintro e w' ⟨rfl, rfl⟩) | (go_at_call 41; refine (ahead_any _ _ _ (by omega) (by omega) (by omega) (by omega)).mono ?_; rintro e w' ⟨rfl, rfl⟩) | (go_at_call 43; refine (less_any _ _ _ (by omega) (by omega) (by omega) (by omega)).mono ?_; rintro e w' ⟨rfl, rfl⟩))
  have hini := two_box ((w.alloc (.cells #[.int .u16 a, .int .u16 b] 64)).drewN nq) (w.heap.size + 1) (.int .u16 a) (.int .i64 m) (.int .u16 (plusP a n)) (.int .i64 m) 59 (by simp [World.drewN])
  obtain ⟨i1, i2, i3, i4, i5, i6⟩ := hini
  have i7 : Below w.heap.size w ((w.alloc (.cells #[.int .u16 a, .int .u16 b] 64)).drewN nq) := below_drewN ((Below.refl _ _).alloc (Nat.le_refl _) _) _
  have i8 := i7.trans (i6.mono (by omega))
  have i9 := Nat.le_of_eq i5.symm
  clear i5 i6 i7
  go_region_held3 (fun w' => w'.cell? ⟨w.heap.size + 1, 0, none⟩ = some (.int .u16 a) ∧ w'.cell? ⟨w.heap.size + 1, 1, none⟩ = some (.int .i64 m) ∧ w'.cell? ⟨w.heap.size + 1 + 1, 0, none⟩ = some (.int .u16 (plusP a n)) ∧ w'.cell? ⟨w.heap.size + 1 + 1, 1, none⟩ = some (.int .i64 m) ∧ w.heap.size + 3 ≤ w'.heap.size ∧ Below w.heap.size w w')
    (first
      | go_keep
      | exact ⟨i1, i2, i3, i4, i9, i8⟩
      | (go_split_ands
         refine ⟨?_, ?_, ?_, ?_, ?_, ?_⟩
         · exact (hb.cell (by simp <;> omega)).trans (by assumption)
         · exact (hb.cell (by simp <;> omega)).trans (by assumption)
         · exact (hb.cell (by simp <;> omega)).trans (by assumption)
         · exact (hb.cell (by simp <;> omega)).trans (by assumption)
         · (have := hb.size; omega)
         · (exact Below.trans (by assumption) (hb.mono (by omega)))))
    (first | (go_at_call 49; refine (at_any _ _ _ _ (by omega) (by omega) (by omega) (by omega)).mono ?_; rintro e w' ⟨rfl, hb⟩) | (go_at_call 50; refine (has_any _ _ _ _ (by omega) (by omega) (by omega) (by omega)).mono ?_; rintro e w' ⟨rfl, hb⟩) | (go_at_call 47; refine (works_any _).mono ?_; rintro e w' ⟨rfl, hb⟩))
  go_wp2
  go_ret
  rename_i hH
  exact ⟨ret_bool (by simp), hH.2.2.2.2.2⟩

theorem SerialOrder_walk (a b : Int) (w : World) (w0 : (Lit.int .u16 a).wf = true) (w1 : (Lit.int .u16 b).wf = true) :
    Calls Try.prog 11 #[.int .u16 a, .int .u16 b] w fun e w' => e = .returned (.bool true) ∧ Below w.heap.size w w' :=
  order_any a b w (wf_u16 w0).1 (wf_u16 w0).2 (wf_u16 w1).1 (wf_u16 w1).2
theorem SerialMoves_walk (l : List Int) (n m : Int) (w : World) (hl : l.length = 2) (w0 : ∀ z ∈ l, (Lit.int .u16 z).wf = true) (w1 : (Lit.int .i64 n).wf = true) (w2 : (Lit.int .i64 m).wf = true) :
    Calls Try.prog 12 #[.agg (l.map (Value.int .u16)).toArray, .int .i64 n, .int .i64 m] w fun e w' => e = .returned (.bool true) ∧ Below w.heap.size w w' := by
  obtain ⟨a, b, rfl⟩ : ∃ a b, l = [a, b] := by
    match l, hl with
    | [a, b], _ => exact ⟨a, b, rfl⟩
  have ha := wf_u16 (w0 a (by simp))
  have hb := wf_u16 (w0 b (by simp))
  exact moves_any a b n m w ha.1 ha.2 hb.1 hb.2
end Go.Proofs.Ytefohkhipnikhaa.Ser
