/- Readers: their state in memory, and the contracts of both readers' methods. Contracts of octet's reader: Read, Text, Left, Err, End. Contracts of the document's reader. -/
import Derived.Test.YtcolklkjaifplaaVbl
import Derived.Test.YtcolklkjaifplaaOctY
import Derived.Laws.Pointers
namespace Go.Proofs.Ytcolklkjaifplaa.Oct
open Go.RowKit
set_option linter.unusedVariables false

/-- A reader of type T lies in block g: l is left, e was wrong; its bytes lie in a block from lo on and ahead of g. -/
def Rdr (T : TypeId) (w : World) (lo g : Nat) (l : List Int) (e : Int) : Prop :=
  ∃ A n c, w.heap[g]? = some (.cells #[.slice A n c, .int .i64 e] T (0, 0)) ∧ lo ≤ g ∧ Rd .u8 w g A n c l ∧ (0 < n → ∀ a, A = some a → lo ≤ a.block) ∧ By l ∧ (e ≠ 0 → l = [])

section
variable {T : TypeId} {w w' : World} {lo g : Nat} {l : List Int} {e : Int}
theorem Rdr.by_ (h : Rdr T w lo g l e) : By l := by obtain ⟨_, _, _, _, _, _, _, h1, _⟩ := h; exact h1
theorem Rdr.lt (h : Rdr T w lo g l e) : g < w.heap.size := by
  obtain ⟨A, n, c, hg, _⟩ := h
  exact (Array.getElem?_eq_some_iff.1 hg).1
theorem Rdr.keep (h : Rdr T w lo g l e) {row : Option Nat} (hg : w.grownBy w' row) (hr : ∀ k, row = some k → k < lo ∨ g < k) : Rdr T w' lo g l e := by
  have hlt := h.lt
  obtain ⟨A, n, c, hc, hlo, hrd, hb, hl, he⟩ := h
  have key : ∀ k, lo ≤ k → k ≤ g → w'.heap[k]? = w.heap[k]? := fun k h1 h2 => hg.block k (by omega) (fun e => by have := hr k e.symm; omega)
  refine ⟨A, n, c, (key g hlo (Nat.le_refl _)).trans hc, hlo, ?_, hb, hl, he⟩
  refine ⟨hrd.1, hrd.2.1, hrd.2.2.1, hrd.2.2.2.1, fun hn => ?_⟩
  obtain ⟨b, off, ea, hbg, hcell⟩ := hrd.at_ hn
  refine ⟨b, off, ea, hbg, fun j hj => ?_⟩
  rw [World.cell?_of_block (w := w) (a := ⟨b, off + j, none⟩) (key b (hb hn _ ea) (by omega))]
  exact hcell j hj
theorem Rdr.below (h : Rdr T w lo g l e) (hb : Below w.heap.size w w') : Rdr T w' lo g l e := h.keep (grown_of_below hb none) (fun k e => by simp at e)
theorem Rdr.cells (h : Rdr T w lo g l e) : ∃ A n c, l.length = n ∧ Rd .u8 w g A n c l ∧ w.cell? ⟨g, 0, none⟩ = some (.slice A n c) ∧ w.cell? ⟨g, 1, none⟩ = some (.int .i64 e) ∧ w.frozen? ⟨g, 0, none⟩ = false ∧ w.frozen? ⟨g, 1, none⟩ = false := by
  obtain ⟨A, n, c, hc, hlo, hrd, hb, hl, he⟩ := h
  refine ⟨A, n, c, hrd.len, hrd, ?_, ?_, ?_, ?_⟩ <;> simp [World.cell?, World.frozen?, hc]
/-- The two cells of a reader are stored anew: nothing is left, e' is wrong. -/
theorem Rdr.failed (h : Rdr T w lo g l e) (e' : Int) (hw : w'.heap[g]? = some (.cells #[.slice none 0 0, .int .i64 e'] T (0, 0))) : Rdr T w' lo g [] e' := by
  obtain ⟨A, n, c, hc, hlo, hrd, hb, hl, he⟩ := h
  exact ⟨none, 0, 0, hw, hlo, Rd.nil _ _ _, fun h => absurd h (by omega), By.nil, fun _ => rfl⟩
theorem heap_set {A : Option Addr} {n c : Nat} (h : w.heap[g]? = some (.cells #[.slice A n c, .int .i64 e] T (0, 0))) (u : Value) : (w.setCell ⟨g, 0, none⟩ u).heap[g]? = some (.cells #[u, .int .i64 e] T (0, 0)) := by
  simp [World.setCell, Array.getElem?_modify, h]
theorem heap_set2 {x y : Value} (h : w.heap[g]? = some (.cells #[x, y] T (0, 0))) (u v : Value) : ((w.setCell ⟨g, 0, none⟩ u).setCell ⟨g, 1, none⟩ v).heap[g]? = some (.cells #[u, v] T (0, 0)) := by
  simp [World.setCell, Array.getElem?_modify, h]
theorem heap_set3 {x y : Value} (h : w.heap[g]? = some (.cells #[x, y] T (0, 0))) (u v : Value) : ((w.setCell ⟨g, 1, none⟩ v).setCell ⟨g, 0, none⟩ u).heap[g]? = some (.cells #[u, v] T (0, 0)) := by
  simp [World.setCell, Array.getElem?_modify, h]
end

theorem grown_trans2 {a b c : World} {g : Nat} (h : a.grownBy b (some g)) (k : b.grownBy c (some g)) : a.grownBy c (some g) :=
  ⟨k.os.trans h.os, k.tape.trans h.tape, k.output.trans h.output, Nat.le_trans h.size k.size, fun i hi hne => (k.block i (Nat.lt_of_lt_of_le hi h.size) hne).trans (h.block i hi hne)⟩

/-- Both readers, plain: what a reading answers, what is left, what is wrong. -/
def numR (s : Int) (l : List Int) (e : Int) : Int × List Int × Int :=
  if e ≠ 0 then (0, l, e) else if s = 1 ∨ s = 2 ∨ s = 4 then (if l.length < s.toNat then (0, [], 3) else ((num (l.take s.toNat) : Nat), l.drop s.toNat, 0)) else (0, [], 2)
def textR (l : List Int) (e : Int) : List Int × List Int × Int :=
  if (numR 2 l e).2.2 ≠ 0 then ([], (numR 2 l e).2) else
  if (numR 2 l e).2.1.length < (numR 2 l e).1.toNat then ([], [], 3) else ((numR 2 l e).2.1.take (numR 2 l e).1.toNat, (numR 2 l e).2.1.drop (numR 2 l e).1.toNat, 0)

/-- A reading's end: an int, and the reader has become another one; nothing but its block, and new ones, has turned. -/
def IntRdr (T : TypeId) (w : World) (lo g : Nat) (v : Int) (l : List Int) (e : Int) (en : Ending) (w' : World) : Prop :=
  en = .returned (.int .i64 v) ∧ Rdr T w' lo g l e ∧ w.grownBy w' (some g)
def SliceRdr (T : TypeId) (w : World) (lo g : Nat) (t : List Int) (l : List Int) (e : Int) (en : Ending) (w' : World) : Prop :=
  ∃ A n c, en = .returned (.slice A n c) ∧ Own w' w.heap.size (.slice A n c) n t ∧ Rdr T w' lo g l e ∧ w.grownBy w' (some g)

theorem Rdr.drop_ {T : TypeId} {w : World} {lo g : Nat} {l : List Int} {e : Int} {A : Option Addr} {n c k : Nat} {A' : Option Addr}
    (hlo : lo ≤ g) (hrd : Rd .u8 w g A n c l) (hb : 0 < n → ∀ a, A = some a → lo ≤ a.block) (hl : By l) (he : e ≠ 0 → l = []) (hk : k ≤ n) (hc : w.heap[g]? = some (.cells #[.slice A n c, .int .i64 e] T (0, 0)))
    (hA : A' = if c = k then A else A.map (fun x => x.add k)) : Rdr T (w.setCell ⟨g, 0, none⟩ (.slice A' (n - k) (c - k))) lo g (l.drop k) e := by
  have hne : ∀ b, b < g → ∀ o, (w.setCell ⟨g, 0, none⟩ (.slice A' (n - k) (c - k))).cell? ⟨b, o, none⟩ = w.cell? ⟨b, o, none⟩ := fun b hb' o =>
    World.cell?_of_block (Below.heap_setCell _ _ _ _ (by simp; omega))
  have hle := hrd.le
  refine ⟨A', n - k, c - k, heap_set hc _, hlo, ⟨by rw [List.length_drop, hrd.len], by omega, by have := hrd.cap; omega, fun h => ?_, fun hn => ?_⟩, fun hn a ha => ?_, hl.drop _, fun h => by rw [he h]; simp⟩
  · subst hA
    split at h
    · have := hrd.2.2.2.1 h; omega
    · cases A with
      | none => have := hrd.2.2.2.1 rfl; omega
      | some a => simp at h
  · obtain ⟨b, off, e, hbg, hcell⟩ := hrd.at_ (by omega)
    subst e
    rw [if_neg (by omega)] at hA
    refine ⟨b, off + k, by rw [hA, Option.map_some, add_addr], hbg, fun j hj => ?_⟩
    rw [hne b hbg, Nat.add_assoc, hcell (k + j) (by omega), List.getD_eq_getElem?_getD, List.getD_eq_getElem?_getD, List.getElem?_drop]
  · obtain ⟨b, off, e, hbg, hcell⟩ := hrd.at_ (by omega)
    subst e
    rw [if_neg (by omega), Option.map_some, add_addr] at hA
    have := hb (by omega) _ rfl
    rw [hA] at ha
    simp at ha
    rw [← ha]; exact this

/-- The first error stays. -/
def err1 (e x : Int) : Int := if e = 0 then x else e
theorem err1_0 (x : Int) : err1 0 x = x := rfl
theorem err1_ne {e : Int} (x : Int) (h : e ≠ 0) : err1 e x = e := if_neg h

def TakeOk (T : TypeId) (w : World) (lo g : Nat) (t : List Int) (l : List Int) (e : Int) (en : Ending) (w' : World) : Prop :=
  ∃ A n c, en = .returned (.slice A n c) ∧ Rd .u8 w' g A n c t ∧ Rdr T w' lo g l e ∧ w.grownBy w' (some g)

section
variable {w : World} {lo g : Nat} {l : List Int} {e : Int}

end
end Go.Proofs.Ytcolklkjaifplaa.Oct

namespace Go.Proofs.Ytcolklkjaifplaa.Oct
open Go.RowKit
set_option linter.unusedVariables false

theorem numR_by (s : Int) (l : List Int) (e : Int) (h : By l) : By (numR s l e).2.1 := by
  unfold numR
  split
  · exact h
  · split
    · split
      · exact By.nil
      · exact h.drop _
    · exact By.nil
theorem numR_2 (l : List Int) (e : Int) (h : By l) (he : e ≠ 0 → l = []) : ∃ v : Nat, (numR 2 l e).1 = v ∧ v < 65536 ∧ ((numR 2 l e).2.2 ≠ 0 → v = 0 ∧ (numR 2 l e).2.1 = []) := by
  unfold numR
  by_cases hz : e = 0
  · subst hz
    rw [if_neg (by simp), if_pos (by omega)]
    by_cases hl : l.length < (2 : Int).toNat
    · rw [if_pos hl]; exact ⟨0, rfl, by omega, fun _ => ⟨rfl, rfl⟩⟩
    · rw [if_neg hl]
      refine ⟨_, rfl, ?_, fun h => absurd rfl h⟩
      have := num_lt (l.take (2 : Int).toNat) (h.take _)
      have h2 : (l.take (2 : Int).toNat).length = 2 := by rw [List.length_take]; simp at hl ⊢; omega
      rw [h2] at this
      omega
  · rw [if_pos hz]; exact ⟨0, rfl, by omega, fun _ => ⟨rfl, he hz⟩⟩
theorem textR_yes (l : List Int) (e : Int) (v : Nat) (l1 : List Int) (e1 : Int) (hn : numR 2 l e = ((v : Int), l1, e1)) (hz : e1 ≠ 0 → v = 0 ∧ l1 = []) (hv : v ≤ l1.length) : textR l e = (l1.take v, l1.drop v, e1) := by
  unfold textR
  rw [hn]
  by_cases h : e1 = 0
  · subst h; simp; omega
  · obtain ⟨rfl, rfl⟩ := hz h; simp [h]
theorem textR_no (l : List Int) (e : Int) (v : Nat) (l1 : List Int) (e1 : Int) (hn : numR 2 l e = ((v : Int), l1, e1)) (hz : e1 ≠ 0 → v = 0 ∧ l1 = []) (hv : l1.length < v) : e1 = 0 ∧ textR l e = ([], [], 3) := by
  have h : e1 = 0 := by
    by_cases h : e1 = 0
    · exact h
    · obtain ⟨rfl, rfl⟩ := hz h; simp at hv
  subst h
  unfold textR
  rw [hn]
  simp; omega
theorem textR_by (l : List Int) (e : Int) (h : By l) : By (textR l e).1 := by
  unfold textR
  split
  · exact By.nil
  · split
    · exact By.nil
    · exact (numR_by _ _ _ h).take _

section
variable {w : World} {lo g : Nat} {l : List Int} {e : Int}
theorem Rdr.ez {T : TypeId} (h : Rdr T w lo g l e) : e ≠ 0 → l = [] := by obtain ⟨_, _, _, _, _, _, _, _, he⟩ := h; exact he

/-- What End tells. -/
def endR (l : List Int) (e : Int) : Int := if 0 < l.length then 4 else e
end

/-- A new reader: its bytes, and it itself, lie in new blocks. -/
def NewRdr (T : TypeId) (l : List Int) (w : World) (en : Ending) (w' : World) : Prop :=
  ∃ g, en = .returned (.pointer (some ⟨g, 0, none⟩)) ∧ Rdr T w' w.heap.size g l 0 ∧ Below w.heap.size w w'
theorem newRdr_of {T : TypeId} {l : List Int} {w w1 : World} {A : Option Addr} {n c : Nat} (ho : Own w1 w.heap.size (.slice A n c) n l) (hl : By l) (hb : Below w.heap.size w w1) :
    NewRdr T l w (.returned (.pointer (some ⟨w1.heap.size, 0, none⟩))) (w1.alloc (.cells #[.slice A n c, .int .i64 0] T)) := by
  refine ⟨w1.heap.size, rfl, ⟨A, n, c, heap_alloc_new w1 _, hb.size, ?_, ?_, hl, fun h => absurd rfl h⟩, hb.alloc hb.size _⟩
  · exact ho.rd.below (below_alloc w1 _)
  · intro hn a ha
    obtain ⟨A', c', e, _, _, _, h4⟩ := ho.form
    simp only [Value.slice.injEq] at e
    rw [← e.1] at h4
    obtain ⟨g, e', h5, _⟩ := h4 a ha
    rw [e']; exact h5

end Go.Proofs.Ytcolklkjaifplaa.Oct

namespace Go.Proofs.Ytcolklkjaifplaa.Oct
open Go.RowKit
set_option linter.unusedVariables false

section
variable {w : World} {lo g : Nat} {l : List Int} {e : Int}
theorem num_mul (l : List Int) (h : By l) (k : Nat) (hk : k < l.length) : 256 * ((num (l.take k) : Nat) : Int) + l.getD k 0 = ((num (l.take (k + 1)) : Nat) : Int) := by
  have hb := h.getD k
  rw [take_snoc l k hk, num_snoc]
  omega

end
end Go.Proofs.Ytcolklkjaifplaa.Oct
