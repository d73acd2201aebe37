/- Contracts of layer 1: octet.Put. Contracts of layer 1: the document's Put. -/
import Derived.Test.YtcolklkjaifplaaOctC
namespace Go.Proofs.Ytcolklkjaifplaa.Oct
open Go.RowKit
set_option linter.unusedVariables false

/-- What Put answers: bytes, and an error. -/
def putP (l : List Int) (s : Int) (ls : List Int) : List Int × Int :=
  if s = 1 ∨ s = 2 ∨ s = 4 then (if ls.all (fitsP · s.toNat) then (l ++ ls.flatMap (dg s.toNat), 0) else ([], 9)) else ([], 2)
theorem flat_len (s : Nat) : ∀ ls : List Int, (ls.flatMap (dg s)).length = s * ls.length
  | [] => by simp
  | x :: ls => by rw [List.flatMap_cons, List.length_append, dg_len, flat_len s ls, List.length_cons, Nat.mul_succ]; omega
theorem flat_by (s : Nat) : ∀ ls : List Int, By (ls.flatMap (dg s))
  | [] => By.nil
  | x :: ls => by rw [List.flatMap_cons]; exact (dg_by s x).append (flat_by s ls)
theorem putP_by (l : List Int) (s : Int) (ls : List Int) (h : By l) : By (putP l s ls).1 := by
  unfold putP
  split
  · split
    · exact h.append (flat_by _ _)
    · exact By.nil
  · exact By.nil

/-- Two results: a slice of the call's own, and an error. -/
def PairOf (l : List Int) (e : Int) (w : World) (en : Ending) (w' : World) : Prop :=
  ∃ A n c, en = .returned (.tuple #[.slice A n c, .int .i64 e]) ∧ Own w' w.heap.size (.slice A n c) n l ∧ Below w.heap.size w w'
theorem PairOf.nil (e : Int) (w : World) {w' : World} (hb : Below w.heap.size w w') : PairOf [] e w (.returned (.tuple #[.slice none 0 0, .int .i64 e])) w' :=
  ⟨none, 0, 0, rfl, Own.nil _ _, hb⟩

theorem all_snoc (p : Int → Bool) (l : List Int) (k : Nat) (h : k < l.length) (h1 : (l.take k).all p = true) (h2 : p (l.getD k 0) = true) : (l.take (k + 1)).all p = true := by
  rw [take_snoc l k h, List.all_append, h1, List.all_cons, List.all_nil, h2]; rfl
theorem all_none (p : Int → Bool) (l : List Int) (k : Nat) (h : k < l.length) (h2 : p (l.getD k 0) = false) : l.all p = false := by
  rw [List.all_eq_false]
  refine ⟨l.getD k 0, ?_, by rw [h2]; decide⟩
  rw [List.getD_eq_getElem?_getD, List.getElem?_eq_getElem h]; exact List.getElem_mem _
theorem all_at (p : Int → Bool) (l : List Int) (k : Nat) (h : k < l.length) (h1 : l.all p = true) : p (l.getD k 0) = true := by
  rw [List.getD_eq_getElem?_getD, List.getElem?_eq_getElem h]
  exact List.all_eq_true.1 h1 _ (List.getElem_mem _)
theorem flat_take (s : Nat) (l : List Int) (k : Nat) (h : k < l.length) : (l.take (k + 1)).flatMap (dg s) = (l.take k).flatMap (dg s) ++ dg s (l.getD k 0) := by
  rw [take_snoc l k h, List.flatMap_append]; simp

theorem fitsP_nn {n : Int} {s : Nat} (h : fitsP n s = true) : 0 ≤ n := by unfold fitsP at h; exact (of_decide_eq_true h).1

end Go.Proofs.Ytcolklkjaifplaa.Oct

namespace Go.Proofs.Ytcolklkjaifplaa.Oct
open Go.RowKit
set_option linter.unusedVariables false

theorem pow_wrap (t : Nat) (h : t ≤ 4) : wrap64 (2 ^ (8 * t)) = 2 ^ (8 * t) := by
  have : t = 0 ∨ t = 1 ∨ t = 2 ∨ t = 3 ∨ t = 4 := by omega
  rcases this with rfl | rfl | rfl | rfl | rfl <;> simp [wrap64]
theorem fits_lo {x : Int} {t : Nat} (h : x < 0) : fitsP x t = false := by unfold fitsP; simp; omega
theorem fits_hi {x : Int} {t : Nat} (ht : t ≤ 4) (h : wrap64 (2 ^ (8 * t)) ≤ x) : fitsP x t = false := by
  rw [pow_wrap t ht] at h
  unfold fitsP; simp; intro _; exact h
theorem fits_in {x : Int} {t : Nat} (ht : t ≤ 4) (h0 : ¬ x < 0) (h : ¬ wrap64 (2 ^ (8 * t)) ≤ x) : fitsP x t = true := by
  rw [pow_wrap t ht] at h
  unfold fitsP
  exact decide_eq_true ⟨by omega, by omega⟩
theorem ps_none (l ls : List Int) (t : Nat) (k : Nat) (hk : k < ls.length) (hput : putP l t ls = if ls.all (fitsP · t) then (l ++ ls.flatMap (dg t), 0) else ([], 9)) (hf : fitsP (ls.getD k 0) t = false) : putP l t ls = ([], 9) := by
  rw [hput, all_none (fitsP · t) ls k hk hf]; simp

end Go.Proofs.Ytcolklkjaifplaa.Oct
