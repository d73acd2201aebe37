/- Contracts of layer 6: a rule's bytes, the program. -/
import Derived.Test.YtcolklkjaifplaaOrdL
import Derived.Test.YtcolklkjaifplaaOrdB
import Derived.Test.YtcolklkjaifplaaPut
namespace Go.Proofs.Ytcolklkjaifplaa.Oct
open Go.RowKit
set_option linter.unusedVariables false
set_option linter.unusedSimpArgs false

theorem put_b1 (l : List Int) (v : Int) (h : 0 ≤ v ∧ v < 256) : putP l 1 [v] = (l ++ dg 1 v, 0) := putP_one l 1 (by omega) v h.1 (by omega)
theorem put_b2 (l : List Int) (v : Int) (h : 0 ≤ v ∧ v < 65536) : putP l 2 [v] = (l ++ dg 2 v, 0) := putP_one l 2 (by omega) v h.1 (by omega)
theorem put_b4 (l : List Int) (v : Int) (h : 0 ≤ v ∧ v < 4294967296) : putP l 4 [v] = (l ++ dg 4 v, 0) := putP_one l 4 (by omega) v h.1 (by omega)
theorem put_two1 (l : List Int) (a b : Int) (ha : 0 ≤ a ∧ a < 256) (hb : 0 ≤ b ∧ b < 256) : putP l 1 [a, b] = (l ++ (dg 1 a ++ dg 1 b), 0) := by
  unfold putP
  rw [if_pos (by omega), if_pos (by simp [fitsP]; omega)]
  simp
theorem put_three2 (l : List Int) (a b c : Int) (ha : 0 ≤ a ∧ a < 65536) (hb : 0 ≤ b ∧ b < 65536) (hc : 0 ≤ c ∧ c < 65536) : putP l 2 [a, b, c] = (l ++ (dg 2 a ++ (dg 2 b ++ dg 2 c)), 0) := by
  unfold putP
  rw [if_pos (by omega), if_pos (by simp [fitsP]; omega)]
  simp
/-- Numbers of a block, as a slice over them. -/
theorem rd_part {T : TypeId} {w : World} {g B : Nat} {cs : List Value} {k : IntKind} (hv : Vb T w g cs) (off : Nat) (l : List Int) (hl : (cs.drop off).take l.length = l.map (Value.int k)) (hB : g < B) (hm : l.length ≤ 1000) : Rd k w B (some ⟨g, off, none⟩) l.length l.length l := by
  refine ⟨rfl, Nat.le_refl _, by unfold maxLen; omega, fun e => by simp at e, fun hn => ⟨g, off, rfl, hB, fun j hj => hv.cell (off + j) ?_⟩⟩
  have : ((cs.drop off).take l.length)[j]? = (l.map (Value.int k))[j]? := by rw [hl]
  rw [List.getElem?_take, if_pos hj, List.getElem?_drop] at this
  rw [this, List.getElem?_map, List.getElem?_eq_getElem hj, List.getD_eq_getElem?_getD, List.getElem?_eq_getElem hj]
  rfl
def rcl (r : RuleV) (S : Value) : List Value := [.int .i64 r.k, .int .i64 r.pr, .int .i64 r.to, .int .i64 r.po, .int .i64 r.x.v, .int .i64 r.x.m, .int .u8 r.x.b0, .int .u8 r.x.b1, .int .u8 r.x.b2, .int .u8 r.x.i0, .int .u8 r.x.i1, .int .u8 r.x.i2, S]
theorem Vb.rul {T : TypeId} {w : World} {g : Nat} {r : RuleV} {S : Value} (h : Vb T w g (rcl r S)) : w.cell? ⟨g, 0, none⟩ = some (.int .i64 r.k) ∧ w.cell? ⟨g, 1, none⟩ = some (.int .i64 r.pr) ∧ w.cell? ⟨g, 2, none⟩ = some (.int .i64 r.to) ∧ w.cell? ⟨g, 3, none⟩ = some (.int .i64 r.po) ∧ w.cell? ⟨g, 4, none⟩ = some (.int .i64 r.x.v) ∧ w.cell? ⟨g, 5, none⟩ = some (.int .i64 r.x.m) ∧ w.cell? ⟨g, 6, none⟩ = some (.int .u8 r.x.b0) ∧ w.cell? ⟨g, 7, none⟩ = some (.int .u8 r.x.b1) ∧ w.cell? ⟨g, 8, none⟩ = some (.int .u8 r.x.b2) ∧ w.cell? ⟨g, 9, none⟩ = some (.int .u8 r.x.i0) ∧ w.cell? ⟨g, 10, none⟩ = some (.int .u8 r.x.i1) ∧ w.cell? ⟨g, 11, none⟩ = some (.int .u8 r.x.i2) ∧ w.cell? ⟨g, 12, none⟩ = some (S) := h.c13
theorem outB_len (x : OutV) : (outB x).length = 7 := by simp [outB, dg_len]
theorem outsB_len (os : List OutV) : (os.flatMap outB).length = 7 * os.length := by
  induction os with
  | nil => rfl
  | cons x os ih => rw [List.flatMap_cons, List.length_append, outB_len, ih, List.length_cons]; omega
theorem flat_snoc (os : List OutV) (k : Nat) (x : OutV) (h : os[k]? = some x) : (os.take (k + 1)).flatMap outB = (os.take k).flatMap outB ++ outB x := by
  rw [List.take_add_one, h, List.flatMap_append]; simp

end Go.Proofs.Ytcolklkjaifplaa.Oct
