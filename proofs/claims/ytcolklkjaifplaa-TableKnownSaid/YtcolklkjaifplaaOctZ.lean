/- Readers: small laws of their use; readers that are none; pieces that are put and read. -/
import Derived.Test.YtcolklkjaifplaaOctO
namespace Go.Proofs.Ytcolklkjaifplaa.Oct
open Go.RowKit
set_option linter.unusedVariables false

theorem own_keep {w w' : World} {base n g : Nat} {v : Value} {l : List Int} (h : Own w base v n l) (hg : w.grownBy w' (some g)) (hlt : g < base) : Own w' base v n l :=
  World.ownsRow.kept h hg (by
    cases hv : v.ownBlock with
    | none => exact .inl rfl
    | some k => exact .inr (fun e => by simp at e; have := (World.ownsRow.lt h k hv).1; omega))
theorem zeros_by (n : Nat) : By (List.replicate n 0) := fun z hz => by simp [List.mem_replicate] at hz; omega

/-- make([]byte, m), as an equation; it reads as noughts. -/
def noughts (m : Nat) : Obj := .cells (madeCells (Value.int .u8 0).cells m) 5
theorem run_zeros (m : Nat) (h : m ≤ 70000) (C : Int) (hC : C = m) (w : World) :
    (Instr.makeSlice 60 (.int .i64 C) (.int .i64 C)).run Try.prog w = .ok (.slice (some ⟨w.heap.size, 0, none⟩) m m) (w.alloc (noughts m)) := by
  obtain ⟨i0, hi, hz0, hz1, hz2⟩ := info_parts info_u8
  have hr := run_make (P := Try.prog) w 60 5 i0 _ Try.underlying60 hi hz0 .i64 .i64 C C (by omega) (by omega) (by rw [hz2]; omega) (by omega)
  rw [hr, hz1, hC]
  simp [noughts]
theorem rd_zeros (m : Nat) (h : m ≤ 70000) (w : World) : Rd .u8 (w.alloc (noughts m)) (w.heap.size + 1) (some ⟨w.heap.size, 0, none⟩) m m (List.replicate m 0) := by
  refine ⟨by simp, Nat.le_refl _, by unfold maxLen; omega, fun e => by simp at e, fun hn => ⟨w.heap.size, 0, rfl, by omega, fun j hj => ?_⟩⟩
  unfold noughts
  rw [Nat.zero_add, World.cell?_alloc_new]
  show (madeCells #[Value.int .u8 0] m)[j]? = _
  rw [List.getD_eq_getElem?_getD]
  simp [madeCells, hj, Nat.mod_one]
theorem num_dg (t : Nat) (ht : t = 1 ∨ t = 2 ∨ t = 4) (v : Int) (h0 : 0 ≤ v) (h1 : v < 2 ^ (8 * t)) : ((num (dg t v) : Nat) : Int) = v := by
  rcases ht with rfl | rfl | rfl <;> simp [num, dg] at * <;> omega
theorem numR_piece (t : Nat) (ht : t = 1 ∨ t = 2 ∨ t = 4) (v : Int) (h0 : 0 ≤ v) (h1 : v < 2 ^ (8 * t)) (R : List Int) : numR t (dg t v ++ R) 0 = (v, R, 0) := by
  unfold numR
  rw [if_neg (by simp), if_pos (by omega), if_neg (by rw [List.length_append, dg_len]; omega)]
  have e : ((t : Int)).toNat = (dg t v).length := by rw [dg_len]; omega
  rw [e, List.take_left, List.drop_left, num_dg t ht v h0 h1]
theorem textR_piece (s R : List Int) (hs : s.length ≤ 65535) : textR (dg 2 s.length ++ s ++ R) 0 = (s, R, 0) := by
  have e := numR_piece 2 (by omega) (s.length : Nat) (by omega) (by omega) (s ++ R)
  rw [← List.append_assoc] at e
  unfold textR
  rw [show ((2 : Nat) : Int) = 2 from rfl] at e
  rw [e]
  simp
theorem putP_one (l : List Int) (t : Nat) (ht : t = 1 ∨ t = 2 ∨ t = 4) (v : Int) (h0 : 0 ≤ v) (h1 : v < 2 ^ (8 * t)) : putP l t [v] = (l ++ dg t v, 0) := by
  unfold putP
  rw [if_pos (by omega)]
  have e : ((t : Int)).toNat = t := by omega
  rw [e, if_pos (by simp [fitsP, h0, h1])]
  simp

theorem wr8 : IntKind.i64.wrap 8 = 8 := by decide +kernel
theorem wr16 : IntKind.i64.wrap 16 = 16 := by decide +kernel
theorem wr32 : IntKind.i64.wrap 32 = 32 := by decide +kernel
theorem shl8 : Op.shift .shl .i64 1 .i64 8 = pure (.int .i64 256) := by
  rw [shift_shl .i64 .i64 1 8 (by decide) (by decide), show IntKind.i64.wrap (1 * 2 ^ (8 : Int).toNat) = 256 from by decide +kernel]
theorem shl16 : Op.shift .shl .i64 1 .i64 16 = pure (.int .i64 65536) := by
  rw [shift_shl .i64 .i64 1 16 (by decide) (by decide), show IntKind.i64.wrap (1 * 2 ^ (16 : Int).toNat) = 65536 from by decide +kernel]
theorem shl32 : Op.shift .shl .i64 1 .i64 32 = pure (.int .i64 4294967296) := by
  rw [shift_shl .i64 .i64 1 32 (by decide) (by decide), show IntKind.i64.wrap (1 * 2 ^ (32 : Int).toNat) = 4294967296 from by decide +kernel]
theorem cell_one {wr : World} {b o : Nat} {v : Value} (h : wr.cell? ⟨b, o, none⟩ = some v) (hlt : b < wr.heap.size) (ob : Obj) : ((wr.alloc ob).drew).cell? ⟨b, o, none⟩ = some v :=
  ((below_alloc wr ob).drew.cell (p := ⟨b, o, none⟩) hlt).trans h
theorem cell_below {wr w' : World} {b o : Nat} {v : Value} (h : wr.cell? ⟨b, o, none⟩ = some v) (hlt : b < wr.heap.size) (hb : Below wr.heap.size wr w') : w'.cell? ⟨b, o, none⟩ = some v :=
  (hb.cell (p := ⟨b, o, none⟩) hlt).trans h
theorem textP_ok (l s : List Int) (hs : s.length ≤ 400) : textP l s = (l ++ dg 2 s.length ++ s, 0) := by unfold textP; rw [if_neg (by omega)]
end Go.Proofs.Ytcolklkjaifplaa.Oct
