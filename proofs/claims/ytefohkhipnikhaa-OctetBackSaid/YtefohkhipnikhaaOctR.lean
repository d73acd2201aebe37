/- Readers that are none, and the zero reader. -/
import Derived.Test.YtefohkhipnikhaaOctQ
namespace Go.Proofs.Ytefohkhipnikhaa.Oct
open Go.RowKit
set_option linter.unusedVariables false

theorem num_nil (s : Int) (w : World) :
    Calls Try.prog 30 #[.pointer none, .int .i64 s] w fun en w' => en = .returned (.int .i64 0) ∧ w = w' := by
  go_enter Try.func30, Try.ntmps30
  go_wp2_with fail
  go_ret
  exact ⟨rfl, rfl⟩
theorem text_nil (w : World) :
    Calls Try.prog 32 #[.pointer none] w fun en w' => en = .returned (.slice none 0 0) ∧ w = w' := by
  go_enter Try.func32, Try.ntmps32
  go_wp2_with fail
  go_ret
  exact ⟨rfl, rfl⟩
theorem left_nil (w : World) :
    Calls Try.prog 34 #[.pointer none] w fun en w' => en = .returned (.int .i64 0) ∧ w = w' := by
  go_enter Try.func34, Try.ntmps34
  go_wp2_with fail
  go_ret
  exact ⟨rfl, rfl⟩
theorem err_nil (w : World) :
    Calls Try.prog 36 #[.pointer none] w fun en w' => en = .returned (.int .i64 0) ∧ w = w' := by
  go_enter Try.func36, Try.ntmps36
  go_wp2_with fail
  go_ret
  exact ⟨rfl, rfl⟩
theorem end_nil (w : World) :
    Calls Try.prog 38 #[.pointer none] w fun en w' => en = .returned (.int .i64 0) ∧ w = w' := by
  go_enter Try.func38, Try.ntmps38
  go_wp2_with fail
  refine (left_nil _).mono ?_
  rintro en w' ⟨rfl, rfl⟩
  go_wp2_with fail
  refine (err_nil _).mono ?_
  rintro en w' ⟨rfl, rfl⟩
  go_wp2_with fail
  go_ret
  exact ⟨rfl, rfl⟩
theorem zero_rdr (w : World) : Rdr 52 (w.alloc (.cells #[.slice none 0 0, .int .i64 0] 52)) w.heap.size w.heap.size [] 0 :=
  (by
    obtain ⟨g, e, h, _⟩ := newRdr_of (T := 52) (Own.nil w w.heap.size) By.nil (Below.refl _ w)
    cases e; exact h)

def endsK : List Int := [-9223372036854775808, -1, 0, 1, 2, 3, 4, 5, 8, 255, 256, 65535, 65536, 4294967295, 4294967296, 9223372036854775807]
def kn (w : World) : World := w.alloc (.cells (endsK.map (Value.int .i64)).toArray 3)
theorem kn_size (w : World) : (kn w).heap.size = w.heap.size + 1 := by simp [kn]
theorem kn_below (w : World) : Below w.heap.size w (kn w) := below_alloc w _
theorem kn_ends (w : World) (j : Nat) (hj : j < 16) : (kn w).cell? ⟨w.heap.size, j, none⟩ = some (.int .i64 (endsK.getD j 0)) := by
  unfold kn
  rw [World.cell?_alloc_new]
  simp only [List.getElem?_toArray, List.getElem?_map]
  rw [List.getD_eq_getElem?_getD, List.getElem?_eq_getElem (by simpa [endsK] using hj)]
  rfl
theorem kn_cells {w wr : World} (hb : Below (w.heap.size + 1) (kn w) wr) (j : Nat) (hj : j < 16) : wr.cell? ⟨w.heap.size, j, none⟩ = some (.int .i64 (endsK.getD j 0)) :=
  (hb.cell (by simp)).trans (kn_ends w j hj)

/-- Two list literals, in blocks of their own, behind each other. -/
theorem puts_lit (w : World) (W : World) (A A2 : Option Addr) (n n2 : Nat) (l l2 : List Int) (s : Int) (hl : By l) (h1 : Rd .u8 W W.heap.size A n n l) (h2 : Rd .i64 W W.heap.size A2 n2 n2 l2) (hn : n ≤ 70000) (hn2 : n2 ≤ 10) :
    Calls Try.prog 3 #[.slice A n n, .int .i64 s, .slice A2 n2 n2] W fun e w' => e = .returned (.bool true) ∧ Below W.heap.size W w' :=
  puts_lo s h1 hl h2 (by omega) (by omega) (by omega) (by omega)

theorem zeros_by (n : Nat) : By (List.replicate n 0) := fun z hz => by simp [List.mem_replicate] at hz; omega

/-- What is kept in the rounds: two cells of the ends, how much memory there was, what is as it was. -/
abbrev KS (w1 : World) (i q : Nat) (x y : Int) (w' : World) : Prop :=
  w'.cell? ⟨w1.heap.size, i, none⟩ = some (.int .i64 x) ∧ w'.cell? ⟨w1.heap.size, q, none⟩ = some (.int .i64 y) ∧ w1.heap.size + 1 ≤ w'.heap.size ∧ Below (w1.heap.size + 1) (kn w1) w'
theorem KS.below {w1 wr w' : World} {i q : Nat} {x y : Int} (h : KS w1 i q x y wr) (hb : Below wr.heap.size wr w') : KS w1 i q x y w' :=
  ⟨(hb.cell (p := ⟨w1.heap.size, i, none⟩) (by have := h.2.2.1; simp; omega)).trans h.1, (hb.cell (p := ⟨w1.heap.size, q, none⟩) (by have := h.2.2.1; simp; omega)).trans h.2.1, Nat.le_trans h.2.2.1 hb.size, h.2.2.2.trans (hb.mono h.2.2.1)⟩
theorem KS.dr {w1 wr : World} {i q : Nat} {x y : Int} (h : KS w1 i q x y wr) : KS w1 i q x y wr.drew := h.below (Below.refl _ _).drew
theorem kn_cells_alloc {w wr : World} (hb : Below (w.heap.size + 1) (kn w) wr) (j : Nat) (hj : j < 16) (o : Obj) : (wr.alloc o).cell? ⟨w.heap.size, j, none⟩ = some (.int .i64 (endsK.getD j 0)) :=
  kn_cells (hb.trans ((below_alloc wr o).mono (by have := hb.size; rw [kn_size] at this; exact this))) j hj
theorem KS.one {w1 wr : World} {i q : Nat} {x y : Int} (h : KS w1 i q x y wr) (o : Obj) : KS w1 i q x y (wr.alloc o).drew := h.below (below_alloc wr o).drew
theorem below_two (wr : World) (o o2 : Obj) : Below wr.heap.size wr ((wr.alloc o).alloc o2) := (below_alloc wr o).trans ((below_alloc _ o2).mono (by simp))
theorem KS.two {w1 wr : World} {i q : Nat} {x y : Int} (h : KS w1 i q x y wr) (o o2 : Obj) : KS w1 i q x y ((wr.alloc o).alloc o2).drew := h.below (below_two wr o o2).drew

theorem Rd.drew {k : IntKind} {w : World} {B n c : Nat} {A : Option Addr} {l : List Int} (h : Rd k w B A n c l) : Rd k w.drew B A n c l := h.below (Below.refl _ _).drew
theorem puts_ab (w : World) (x y : Int) :
    Calls Try.prog 3 #[.slice (some ⟨w.heap.size, 0, none⟩) 2 2, .int .i64 x, .slice (some ⟨w.heap.size + 1, 0, none⟩) 2 2] ((w.alloc (.cells #[.int .u8 1, .int .u8 2] 5)).alloc (.cells #[.int .i64 y, .int .i64 5] 3)).drew fun e w' => e = .returned (.bool true) ∧ Below w.heap.size w w' := by
  have h1 := rd_lit .u8 w 5 [1, 2] (by simp [maxLen]) (w.heap.size + 1) (by omega)
  have h2 := rd_lit .i64 (w.alloc (.cells #[.int .u8 1, .int .u8 2] 5)) 3 [y, 5] (by simp [maxLen]) (w.heap.size + 2) (by simp)
  have e1 : (w.alloc (.cells #[.int .u8 1, .int .u8 2] 5)).heap.size = w.heap.size + 1 := by simp
  have h3 := (h1.below' (below_alloc _ (.cells #[.int .i64 y, .int .i64 5] 3)) (by simp)).more (B' := w.heap.size + 2) (by omega)
  have ez : ((w.alloc (.cells #[.int .u8 1, .int .u8 2] 5)).alloc (.cells #[.int .i64 y, .int .i64 5] 3)).drew.heap.size = w.heap.size + 2 := by simp [World.drew]
  refine (puts_lo x (A := some ⟨w.heap.size, 0, none⟩) (A2 := some ⟨w.heap.size + 1, 0, none⟩) (lb := [1, 2]) (ls := [y, 5]) ?_ (byOf (by decide)) ?_ (by omega) (by omega) (by omega) (by omega)).mono ?_
  · rw [ez]; exact h3.drew
  · rw [ez]
    rw [e1] at h2
    exact h2.drew
  · rintro e w' ⟨he, hb⟩
    exact ⟨he, (below_two w _ _).drew.trans (hb.mono (by rw [ez]; omega))⟩
theorem puts_ba (w : World) (x y : Int) :
    Calls Try.prog 3 #[.slice (some ⟨w.heap.size + 1, 0, none⟩) 2 2, .int .i64 x, .slice (some ⟨w.heap.size, 0, none⟩) 2 2] ((w.alloc (.cells #[.int .i64 y, .int .i64 5] 3)).alloc (.cells #[.int .u8 1, .int .u8 2] 5)).drew fun e w' => e = .returned (.bool true) ∧ Below w.heap.size w w' := by
  have h1 := rd_lit .i64 w 3 [y, 5] (by simp [maxLen]) (w.heap.size + 1) (by omega)
  have h2 := rd_lit .u8 (w.alloc (.cells #[.int .i64 y, .int .i64 5] 3)) 5 [1, 2] (by simp [maxLen]) (w.heap.size + 2) (by simp)
  have e1 : (w.alloc (.cells #[.int .i64 y, .int .i64 5] 3)).heap.size = w.heap.size + 1 := by simp
  have h3 := (h1.below' (below_alloc _ (.cells #[.int .u8 1, .int .u8 2] 5)) (by simp)).more (B' := w.heap.size + 2) (by omega)
  have ez : ((w.alloc (.cells #[.int .i64 y, .int .i64 5] 3)).alloc (.cells #[.int .u8 1, .int .u8 2] 5)).drew.heap.size = w.heap.size + 2 := by simp [World.drew]
  refine (puts_lo x (A := some ⟨w.heap.size + 1, 0, none⟩) (A2 := some ⟨w.heap.size, 0, none⟩) (lb := [1, 2]) (ls := [y, 5]) ?_ (byOf (by decide)) ?_ (by omega) (by omega) (by omega) (by omega)).mono ?_
  · rw [ez]
    rw [e1] at h2
    exact h2.drew
  · rw [ez]; exact h3.drew
  · rintro e w' ⟨he, hb⟩
    exact ⟨he, (below_two w _ _).drew.trans (hb.mono (by rw [ez]; omega))⟩
theorem reads_ab (w : World) (x : Int) (W : World) (hW : W = (w.alloc (.cells #[.int .u8 0, .int .u8 1, .int .u8 7, .int .u8 8, .int .u8 9, .int .u8 0, .int .u8 9] 5)).alloc (.cells #[.int .i64 (-1), .int .i64 1, .int .i64 x, .int .i64 2, .int .i64 (-1)] 3)) :
    Calls Try.prog 5 #[.slice (some ⟨w.heap.size, 0, none⟩) 7 7, .slice (some ⟨w.heap.size + 1, 0, none⟩) 5 5] W fun e w' => e = .returned (.bool true) ∧ Below w.heap.size w w' := by
  subst hW
  have h1 := rd_lit .u8 w 5 [0, 1, 7, 8, 9, 0, 9] (by simp [maxLen]) (w.heap.size + 1) (by omega)
  have h2 := rd_lit .i64 (w.alloc (.cells #[.int .u8 0, .int .u8 1, .int .u8 7, .int .u8 8, .int .u8 9, .int .u8 0, .int .u8 9] 5)) 3 [-1, 1, x, 2, -1] (by simp [maxLen]) (w.heap.size + 2) (by simp)
  have e1 : (w.alloc (.cells #[.int .u8 0, .int .u8 1, .int .u8 7, .int .u8 8, .int .u8 9, .int .u8 0, .int .u8 9] 5)).heap.size = w.heap.size + 1 := by simp
  have h3 := (h1.below' (below_alloc _ (.cells #[.int .i64 (-1), .int .i64 1, .int .i64 x, .int .i64 2, .int .i64 (-1)] 3)) (by simp)).more (B' := w.heap.size + 2) (by omega)
  have ez : ((w.alloc (.cells #[.int .u8 0, .int .u8 1, .int .u8 7, .int .u8 8, .int .u8 9, .int .u8 0, .int .u8 9] 5)).alloc (.cells #[.int .i64 (-1), .int .i64 1, .int .i64 x, .int .i64 2, .int .i64 (-1)] 3)).heap.size = w.heap.size + 2 := by simp
  refine (reads_any (A := some ⟨w.heap.size, 0, none⟩) (A2 := some ⟨w.heap.size + 1, 0, none⟩) (lb := [0, 1, 7, 8, 9, 0, 9]) (ls := [-1, 1, x, 2, -1]) ?_ (byOf (by decide)) ?_ (by omega)).mono ?_
  · rw [ez]; exact h3
  · rw [ez]
    rw [e1] at h2
    exact h2
  · rintro e w' ⟨he, hb⟩
    exact ⟨he, (below_two w _ _).trans (hb.mono (by rw [ez]; omega))⟩

/-- make([]byte, m), as an equation; it reads as noughts. -/
def noughts (m : Nat) : Obj := .cells (madeCells (Value.int .u8 0).cells m) 5
theorem run_zeros (m : Nat) (h : m ≤ 70000) (C : Int) (hC : C = m) (w : World) :
    (Instr.makeSlice 22 (.int .i64 C) (.int .i64 C)).run Try.prog w = .ok (.slice (some ⟨w.heap.size, 0, none⟩) m m) (w.alloc (noughts m)) := by
  obtain ⟨i0, hi, hz0, hz1, hz2⟩ := info_parts info_u8
  have hr := run_make (P := Try.prog) w 22 5 i0 _ Try.underlying22 hi hz0 .i64 .i64 C C (by omega) (by omega) (by rw [hz2]; omega) (by omega)
  rw [hr, hz1, hC]
  simp [noughts]
theorem rd_zeros (m : Nat) (h : m ≤ 70000) (w : World) : Rd .u8 (w.alloc (noughts m)) (w.heap.size + 1) (some ⟨w.heap.size, 0, none⟩) m m (List.replicate m 0) := by
  refine ⟨by simp, Nat.le_refl _, by unfold maxLen; omega, fun e => by simp at e, fun hn => ⟨w.heap.size, 0, rfl, by omega, fun j hj => ?_⟩⟩
  unfold noughts
  rw [Nat.zero_add, World.cell?_alloc_new]
  show (madeCells #[Value.int .u8 0] m)[j]? = _
  rw [List.getD_eq_getElem?_getD]
  simp [madeCells, hj, Nat.mod_one]
theorem puts_zeros (m : Nat) (h : m ≤ 70000) (x : Int) (w : World) :
    Calls Try.prog 3 #[.slice (some ⟨w.heap.size, 0, none⟩) m m, .int .i64 x, .slice none 0 0] (w.alloc (noughts m)) fun e w' => e = .returned (.bool true) ∧ Below w.heap.size w w' := by
  have h1 := rd_zeros m h w
  have ez : (w.alloc (noughts m)).heap.size = w.heap.size + 1 := by simp
  refine (puts_lo x (A := some ⟨w.heap.size, 0, none⟩) (A2 := none) (lb := List.replicate m 0) (ls := []) ?_ (zeros_by m) (Rd.nil _ _ _) (by omega) (by omega) (by omega) (by omega)).mono ?_
  · rw [ez]; exact h1
  · rintro e w' ⟨he, hb⟩
    exact ⟨he, (below_alloc w _).trans (hb.mono (by rw [ez]; omega))⟩
theorem opens_zeros (m : Nat) (h : m ≤ 70000) (w : World) :
    Calls Try.prog 4 #[.slice (some ⟨w.heap.size, 0, none⟩) m m] (w.alloc (noughts m)) fun e w' => e = .returned (.bool true) ∧ Below w.heap.size w w' := by
  have h1 := rd_zeros m h w
  have ez : (w.alloc (noughts m)).heap.size = w.heap.size + 1 := by simp
  refine (opens_any (A := some ⟨w.heap.size, 0, none⟩) (l := List.replicate m 0) ?_ (zeros_by m) (by omega)).mono ?_
  · rw [ez]; exact h1
  · rintro e w' ⟨he, hb⟩
    exact ⟨he, (below_alloc w _).trans (hb.mono (by rw [ez]; omega))⟩
theorem opens_none (w : World) :
    Calls Try.prog 4 #[.slice none 0 0] w fun e w' => e = .returned (.bool true) ∧ Below w.heap.size w w' :=
  opens_any (Rd.nil .u8 w _) By.nil (by omega)
end Go.Proofs.Ytefohkhipnikhaa.Oct
