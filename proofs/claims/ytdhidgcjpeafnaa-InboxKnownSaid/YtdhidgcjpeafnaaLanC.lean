/- Contracts of layer 11 (lane): the methods of a lane. -/
import Derived.Test.YtdhidgcjpeafnaaLanB
import Derived.Test.YtdhidgcjpeafnaaOctC
import Derived.Deep.CutRange
namespace Go.Proofs.Ytdhidgcjpeafnaa.Oct
open Go.RowKit
set_option linter.unusedVariables false
set_option linter.unusedSimpArgs false
section
variable {w : World} {l c room : Nat} {fs a b : List FrV} {f : FrV}
theorem i64w {n : Int} (h : -9223372036854775808 ≤ n ∧ n ≤ 9223372036854775807) : IntKind.i64.wrap n = n := by rw [IntKind.wrap_i64]; omega
theorem fr_drop {k : Nat} {a : List FrV} (h : k < a.length) : ∃ x, a.drop k = x :: a.drop (k + 1) ∧ a.take (k + 1) = a.take k ++ [x] := ⟨a[k], List.drop_eq_getElem_cons h, by rw [List.take_succ_eq_append_getElem h]⟩
/-- A place where a frame is, or none. -/
def placeE (n : Nat) (i : Int) : Int := if 0 ≤ i ∧ i < n then 0 else 9
/-- A list parted at one of its places. -/
theorem part_at {α : Type} {fs : List α} {i : Int} (h : 0 ≤ i ∧ i < fs.length) : ∃ a f b, fs = a ++ f :: b ∧ i = (a.length : Nat) ∧ a = fs.take i.toNat ∧ b = fs.drop (i.toNat + 1) ∧ fs[i.toNat]? = some f := by
  have hlt : i.toNat < fs.length := by omega
  refine ⟨fs.take i.toNat, fs[i.toNat], fs.drop (i.toNat + 1), ?_, by rw [List.length_take]; omega, rfl, rfl, List.getElem?_eq_getElem hlt⟩
  rw [← List.drop_eq_getElem_cons hlt, List.take_append_drop]
/-- What Drop leaves. -/
def dropL {α : Type} (fs : List α) (i : Int) : List α := if 0 ≤ i ∧ i < fs.length then fs.take i.toNat ++ fs.drop (i.toNat + 1) else fs
/-- What Front leaves. -/
def frontL {α : Type} (fs : List α) (i : Int) : List α := if 0 ≤ i ∧ i < fs.length then fs[i.toNat]?.toList ++ dropL fs i else fs
theorem dropL_at {α : Type} (a b : List α) (f : α) : dropL (a ++ f :: b) (a.length : Nat) = a ++ b := by
  unfold dropL
  rw [if_pos (by simp; omega)]
  simp
theorem frontL_at {α : Type} (a b : List α) (f : α) : frontL (a ++ f :: b) (a.length : Nat) = f :: (a ++ b) := by
  unfold frontL
  rw [if_pos (by simp; omega), dropL_at]
  simp
end
end Go.Proofs.Ytdhidgcjpeafnaa.Oct
