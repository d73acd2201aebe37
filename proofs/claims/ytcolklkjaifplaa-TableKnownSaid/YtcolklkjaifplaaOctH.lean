/- Contracts of layer 1: Text and Seal, and the document's. Contracts of layer 1: Seal, and the document's. Contracts of layer 1: Open, and the document's. -/
import Derived.Test.YtcolklkjaifplaaOctE
import Derived.Deep.RegionWith
import Derived.Deep.RegionHeld3
namespace Go.Proofs.Ytcolklkjaifplaa.Oct
open Go.RowKit
set_option linter.unusedVariables false

def textP (l s : List Int) : List Int × Int := if 65535 < s.length then ([], 5) else (l ++ dg 2 s.length ++ s, 0)
theorem textP_by (l s : List Int) (h : By l) (hs : By s) : By (textP l s).1 := by
  unfold textP
  split
  · exact By.nil
  · exact (h.append (dg_by _ _)).append hs

theorem putP_two (l : List Int) (x : Int) (h0 : 0 ≤ x) (h : x < 65536) : putP l 2 [x] = (l ++ dg 2 x, 0) := by
  unfold putP
  rw [if_pos (by omega)]
  have : fitsP x 2 = true := by unfold fitsP; exact decide_eq_true ⟨h0, by simpa using h⟩
  simp [this]

end Go.Proofs.Ytcolklkjaifplaa.Oct

namespace Go.Proofs.Ytcolklkjaifplaa.Oct
open Go.RowKit
set_option linter.unusedVariables false

def sealP (kind : Int) (l : List Int) : List Int × Int :=
  if 0 ≤ kind ∧ kind < 256 then (if 512 < l.length + 3 then ([], 5) else (dg 1 kind ++ l ++ dg 2 (sumP (dg 1 kind ++ l)), 0)) else ([], 2)
theorem sealP_by (kind : Int) (l : List Int) (h : By l) : By (sealP kind l).1 := by
  unfold sealP
  split
  · split
    · exact By.nil
    · exact ((dg_by _ _).append h).append (dg_by _ _)
  · exact By.nil

end Go.Proofs.Ytcolklkjaifplaa.Oct

namespace Go.Proofs.Ytcolklkjaifplaa.Oct
open Go.RowKit
set_option linter.unusedVariables false

theorem quiet_l {P : Program} {f : FuncId} {args : Array Value} {w : World} {n : Nat} {v : Value}
    (h : Calls P f args (w.drewN n) fun e w' => e = .returned v ∧ w.drewN n = w') : Calls P f args (w.drewN n) fun e w'' => e = .returned v ∧ ∃ m, w'' = w.drewN m :=
  h.mono fun _ _ ⟨he, hm⟩ => ⟨he, n, hm.symm⟩

theorem Rd.drewN {k : IntKind} {w : World} {B : Nat} {A : Option Addr} {n c : Nat} {l : List Int} (h : Rd k w B A n c l) (q : Nat) : Rd k (w.drewN q) B A n c l := h
/-- A cut b[i:j] of a slice that reads as l. -/
theorem Rd.cut {k : IntKind} {w : World} {B b off n c : Nat} {l : List Int} (h : Rd k w B (some ⟨b, off, none⟩) n c l) (i j : Nat) (hij : i ≤ j) (hj : j ≤ n) :
    Rd k w B (some ⟨b, off + i, none⟩) (j - i) (c - i) ((l.drop i).take (j - i)) := by
  have hl := h.len
  have hc := h.le
  have hm := h.cap
  refine ⟨by rw [List.length_take, List.length_drop]; omega, by omega, by omega, fun e => by simp at e, fun hn => ?_⟩
  obtain ⟨b', off', e, hb, hcell⟩ := h.at_ (by omega)
  simp at e
  obtain ⟨rfl, rfl⟩ := e
  refine ⟨b, off + i, rfl, hb, fun q hq => ?_⟩
  rw [Nat.add_assoc, hcell (i + q) (by omega), List.getD_eq_getElem?_getD, List.getD_eq_getElem?_getD, List.getElem?_take_of_lt hq, List.getElem?_drop]

def openP (l : List Int) : Int × List Int × Int :=
  if 512 < l.length then (0, [], 5) else if l.length < 3 then (0, [], 3)
  else if sumP (l.take (l.length - 2)) = (num (l.drop (l.length - 2)) : Nat) then ((num (l.take 1) : Nat), (l.drop 1).take (l.length - 3), 0) else (0, [], 30)

/-- Three results: a number, a slice of the call's own, and an error. -/
def TripOf (k : Int) (l : List Int) (e : Int) (w : World) (en : Ending) (w' : World) : Prop :=
  ∃ A n c, en = .returned (.tuple #[.int .i64 k, .slice A n c, .int .i64 e]) ∧ Own w' w.heap.size (.slice A n c) n l ∧ Below w.heap.size w w'
theorem TripOf.nil (k e : Int) (w : World) {w' : World} (hb : Below w.heap.size w w') : TripOf k [] e w (.returned (.tuple #[.int .i64 k, .slice none 0 0, .int .i64 e])) w' :=
  ⟨none, 0, 0, rfl, Own.nil _ _, hb⟩

theorem num_two (l : List Int) (n : Nat) (hl : By l) (h : l.length = n) (h2 : 2 ≤ n) : ((num (l.drop (n - 2)) : Nat) : Int) = 256 * l.getD (n - 2) 0 + l.getD (n - 1) 0 := by
  have e : l.drop (n - 2) = [l.getD (n - 2) 0, l.getD (n - 1) 0] := by
    rw [List.drop_eq_getElem_cons (by omega), show n - 2 + 1 = n - 1 from by omega, List.drop_eq_getElem_cons (by omega), show n - 1 + 1 = n from by omega, List.drop_eq_nil_of_le (by omega)]
    rw [List.getD_eq_getElem?_getD, List.getD_eq_getElem?_getD, List.getElem?_eq_getElem (by omega), List.getElem?_eq_getElem (by omega)]; rfl
  have b1 := hl.getD (n - 2)
  have b2 := hl.getD (n - 1)
  rw [e]
  have e2 : num [l.getD (n - 2) 0, l.getD (n - 1) 0] = (0 * 256 + (l.getD (n - 2) 0).toNat) * 256 + (l.getD (n - 1) 0).toNat := rfl
  rw [e2]
  omega
theorem num_one (l : List Int) (hl : By l) (h : 1 ≤ l.length) : ((num (l.take 1) : Nat) : Int) = l.getD 0 0 := by
  have e : l.take 1 = [l.getD 0 0] := by
    rw [take_snoc l 0 (by omega)]; rfl
  have b1 := hl.getD 0
  rw [e]
  have e2 : num [l.getD 0 0] = 0 * 256 + (l.getD 0 0).toNat := rfl
  rw [e2]
  omega

end Go.Proofs.Ytcolklkjaifplaa.Oct
