/- What OrderKnown asks: the ends, a full rule, a link; what abides through its calls. -/
import Derived.Test.YteambkehdbffmaaGreatOrd4
import Derived.Test.YteambkehdbffmaaGreatOrd7
import Derived.Test.YteambkehdbffmaaGreatOrdS
import Derived.Test.YteambkehdbffmaaGreatOrdZ
import Derived.LoopTactic
import Derived.Deep.CutRange
namespace Go.Proofs.YteambkehdbffmaaGreat.Oct
open Go.RowKit
set_option linter.unusedVariables false
set_option linter.unusedSimpArgs false

def endsO : List Int := [-9223372036854775808, -2, -1, 0, 1, 2, 4, 5, 6, 7, 200, 201, 255, 256, 65535, 65536, 4294967295, 4294967296, 9223372036854775807]
def fullOs : List OutV := [⟨0, 255, -1, 0⟩, ⟨1, 255, -1, 1⟩, ⟨2, 255, -1, 2⟩, ⟨3, 255, -1, 3⟩, ⟨4, 255, -1, 4⟩, ⟨0, 255, -1, 5⟩, ⟨1, 255, -1, 6⟩, ⟨2, 255, -1, 7⟩]
def fullX : MaskV := ⟨200, 4, 255, 255, 255, 1, 2, 255⟩
def fullR : RuleV := ⟨1, 65535, 0, 0, fullX, fullOs⟩
def KnO (w : World) (fb lb : Nat) (A : Option Addr) (c sz : Nat) (wr : World) : Prop :=
  Vb 3 wr w.heap.size (endsO.map (Value.int .i64)) ∧ Vb 29 wr fb [.int .i64 1, .int .i64 65535, .int .i64 0, .int .i64 0, .int .i64 200, .int .i64 4, .int .u8 255, .int .u8 255, .int .u8 255, .int .u8 1, .int .u8 2, .int .u8 255, .slice A 8 c] ∧ Vb 34 wr lb [.int .i64 6, .int .i64 4, .int .i64 1, .int .i64 1, .int .i64 65535] ∧ Ro wr sz A 8 c fullOs ∧ sz ≤ wr.heap.size ∧ Below w.heap.size w wr
section
variable {w wr wr' : World} {fb lb c sz : Nat} {A : Option Addr}
theorem KnO.e (h : KnO w fb lb A c sz wr) : Vb 3 wr w.heap.size (endsO.map (Value.int .i64)) := h.1
theorem KnO.f (h : KnO w fb lb A c sz wr) : Vb 29 wr fb [.int .i64 1, .int .i64 65535, .int .i64 0, .int .i64 0, .int .i64 200, .int .i64 4, .int .u8 255, .int .u8 255, .int .u8 255, .int .u8 1, .int .u8 2, .int .u8 255, .slice A 8 c] := h.2.1
theorem KnO.l (h : KnO w fb lb A c sz wr) : Vb 34 wr lb [.int .i64 6, .int .i64 4, .int .i64 1, .int .i64 1, .int .i64 65535] := h.2.2.1
theorem KnO.r (h : KnO w fb lb A c sz wr) : Ro wr wr.heap.size A 8 c fullOs := h.2.2.2.1.more h.2.2.2.2.1
theorem KnO.b (h : KnO w fb lb A c sz wr) : Below w.heap.size w wr := h.2.2.2.2.2
theorem KnO.step (h : KnO w fb lb A c sz wr) (hb : Below wr.heap.size wr wr') : KnO w fb lb A c sz wr' :=
  ⟨h.e.below hb h.e.lt, h.f.below hb h.f.lt, h.l.below hb h.l.lt, h.2.2.2.1.below' hb h.2.2.2.2.1, Nat.le_trans h.2.2.2.2.1 hb.size, h.b.trans (hb.mono h.b.size)⟩
theorem KnO.end_ (h : KnO w fb lb A c sz wr) (i : Nat) (hi : i < 19) : wr.cell? ⟨w.heap.size, i, none⟩ = some (.int .i64 (endsO.getD i 0)) := by
  refine h.e.cell i ?_
  have hl : i < endsO.length := hi
  rw [List.getElem?_map, List.getElem?_eq_getElem hl, List.getD_eq_getElem?_getD, List.getElem?_eq_getElem hl]
  rfl
end
/-- A number of an output is stored. -/
theorem ro_set {w : World} {B b off n c : Nat} {os : List OutV} (h : Ro w B (some ⟨b, off, none⟩) n c os) (j : Nat) {o o' : OutV} (hj : os[j]? = some o) (f : Nat) (hf : f < 4) (v : Value) (hu : ocs o' = (ocs o).set f v) :
    Ro (w.setCell ⟨b, off + j * 4 + f, none⟩ v) B (some ⟨b, off, none⟩) n c (os.set j o') := by
  have hlt : j < os.length := (List.getElem?_eq_some_iff.1 hj).1
  refine ⟨by rw [List.length_set]; exact h.len, h.le, h.cap, h.2.2.2.1, fun hn => ?_⟩
  obtain ⟨b', off', e, hb, hc⟩ := h.at_ hn
  have e := Option.some.inj e
  have e1 := congrArg Addr.block e
  have e2 := congrArg Addr.off e
  simp only at e1 e2
  subst e1 e2
  refine ⟨b, off, rfl, hb, fun k p hk => ?_⟩
  have oth : ∀ x, x ≠ off + j * 4 + f → (w.setCell ⟨b, off + j * 4 + f, none⟩ v).cell? ⟨b, x, none⟩ = w.cell? ⟨b, x, none⟩ := fun x hx => by
    apply World.cell?_setCell_other
    intro e
    have e := congrArg Addr.off e
    simp only at e
    omega
  have same : ∀ (x : Nat) (u : Value), w.cell? ⟨b, x, none⟩ = some u → (w.setCell ⟨b, x, none⟩ v).cell? ⟨b, x, none⟩ = some v := fun x u h => by
    apply World.cell?_setCell_same
    exact h
  by_cases hkj : k = j
  · subst hkj
    rw [List.getElem?_set_self hlt] at hk
    have hk := Option.some.inj hk
    subst hk
    obtain ⟨c0, c1, c2, c3⟩ := hc k o hj
    match f, hf with
    | 0, _ =>
      simp [ocs] at hu
      obtain ⟨u0, u1, u2, u3⟩ := hu
      exact ⟨by rw [u0]; exact same _ _ c0, by rw [u1, oth _ (by omega)]; exact c1, by rw [u2, oth _ (by omega)]; exact c2, by rw [u3, oth _ (by omega)]; exact c3⟩
    | 1, _ =>
      simp [ocs] at hu
      obtain ⟨u0, u1, u2, u3⟩ := hu
      refine ⟨by rw [u0]; exact (oth _ (by omega)).trans c0, by rw [u1]; exact same _ _ c1, by rw [u2, oth _ (by omega)]; exact c2, by rw [u3, oth _ (by omega)]; exact c3⟩
    | 2, _ =>
      simp [ocs] at hu
      obtain ⟨u0, u1, u2, u3⟩ := hu
      refine ⟨by rw [u0]; exact (oth _ (by omega)).trans c0, by rw [u1, oth _ (by omega)]; exact c1, by rw [u2]; exact same _ _ c2, by rw [u3, oth _ (by omega)]; exact c3⟩
    | 3, _ =>
      simp [ocs] at hu
      obtain ⟨u0, u1, u2, u3⟩ := hu
      refine ⟨by rw [u0]; exact (oth _ (by omega)).trans c0, by rw [u1, oth _ (by omega)]; exact c1, by rw [u2, oth _ (by omega)]; exact c2, by rw [u3]; exact same _ _ c3⟩
  · rw [List.getElem?_set_ne (fun e => hkj e.symm)] at hk
    obtain ⟨c0, c1, c2, c3⟩ := hc k p hk
    rcases Nat.lt_or_gt_of_ne hkj with hh | hh
    · exact ⟨by rw [oth _ (by omega)]; exact c0, by rw [oth _ (by omega)]; exact c1, by rw [oth _ (by omega)]; exact c2, by rw [oth _ (by omega)]; exact c3⟩
    · exact ⟨by rw [oth _ (by omega)]; exact c0, by rw [oth _ (by omega)]; exact c1, by rw [oth _ (by omega)]; exact c2, by rw [oth _ (by omega)]; exact c3⟩
end Go.Proofs.YteambkehdbffmaaGreat.Oct
