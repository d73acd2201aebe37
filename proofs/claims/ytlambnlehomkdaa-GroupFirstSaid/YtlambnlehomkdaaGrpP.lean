/- Plain facts of layer 10 (group): which ports live, as bits. -/
import Derived.Test.YtlambnlehomkdaaVbl
import Derived.Test.YtlambnlehomkdaaBring
namespace Go.Proofs.Ytlambnlehomkdaa.Oct
open Go.RowKit
set_option linter.unusedVariables false

/-- A port of a group. -/
def isPort (p : Int) : Bool := decide (1 ≤ p ∧ p ≤ 4)
theorem isPort_iff (p : Int) : isPort p = true ↔ 1 ≤ p ∧ p ≤ 4 := by unfold isPort; simp
/-- The ports that live, as bits 1 to 4. -/
def Sg (s : Int) : Prop := 0 ≤ s ∧ s < 32
def bitG (s p : Int) : Bool := s / 2 ^ p.toNat % 2 == 1
def withG (s p : Int) : Int := if bitG s p then s else s + 2 ^ p.toNat
def outG (s p : Int) : Int := if bitG s p then s - 2 ^ p.toNat else s
theorem portCases {p : Int} (h : 1 ≤ p ∧ p ≤ 4) : p = 1 ∨ p = 2 ∨ p = 3 ∨ p = 4 := by omega
theorem sg_fin {s : Int} (h : Sg s) : ∃ k : Fin 32, s = (k.val : Int) := ⟨⟨s.toNat, by have := h.1; have := h.2; omega⟩, by have := h.1; simp; omega⟩
theorem port_fin {p : Int} (h : 1 ≤ p ∧ p ≤ 4) : ∃ k : Fin 4, p = (k.val : Int) + 1 := ⟨⟨p.toNat - 1, by omega⟩, by simp; omega⟩
theorem with_tab : ∀ (s : Fin 32) (p q : Fin 4), bitG (withG (s.val : Int) ((p.val : Int) + 1)) ((q.val : Int) + 1) = (bitG (s.val : Int) ((q.val : Int) + 1) || decide (p = q)) ∧ 0 ≤ withG (s.val : Int) ((p.val : Int) + 1) ∧ withG (s.val : Int) ((p.val : Int) + 1) < 32 := by decide +kernel
theorem out_tab : ∀ (s : Fin 32) (p q : Fin 4), bitG (outG (s.val : Int) ((p.val : Int) + 1)) ((q.val : Int) + 1) = (bitG (s.val : Int) ((q.val : Int) + 1) && !decide (p = q)) ∧ 0 ≤ outG (s.val : Int) ((p.val : Int) + 1) ∧ outG (s.val : Int) ((p.val : Int) + 1) < 32 := by decide +kernel
theorem fin_eq4 (p q : Fin 4) : decide (p = q) = decide ((p.val : Int) + 1 = (q.val : Int) + 1) := by
  by_cases h : p = q
  · subst h; simp
  · have h2 : ¬ (p.val : Int) + 1 = (q.val : Int) + 1 := fun e => h (Fin.ext (by omega))
    rw [decide_eq_false h, decide_eq_false h2]
theorem with_bit {s p q : Int} (hs : Sg s) (hp : 1 ≤ p ∧ p ≤ 4) (hq : 1 ≤ q ∧ q ≤ 4) : bitG (withG s p) q = (bitG s q || decide (p = q)) := by
  obtain ⟨a, rfl⟩ := sg_fin hs
  obtain ⟨b, rfl⟩ := port_fin hp
  obtain ⟨c, rfl⟩ := port_fin hq
  rw [(with_tab a b c).1, fin_eq4]
theorem out_bit {s p q : Int} (hs : Sg s) (hp : 1 ≤ p ∧ p ≤ 4) (hq : 1 ≤ q ∧ q ≤ 4) : bitG (outG s p) q = (bitG s q && !decide (p = q)) := by
  obtain ⟨a, rfl⟩ := sg_fin hs
  obtain ⟨b, rfl⟩ := port_fin hp
  obtain ⟨c, rfl⟩ := port_fin hq
  rw [(out_tab a b c).1, fin_eq4]
theorem with_sg {s p : Int} (hs : Sg s) (hp : 1 ≤ p ∧ p ≤ 4) : Sg (withG s p) := by
  obtain ⟨a, rfl⟩ := sg_fin hs
  obtain ⟨b, rfl⟩ := port_fin hp
  exact (with_tab a b 0).2
theorem out_sg {s p : Int} (hs : Sg s) (hp : 1 ≤ p ∧ p ≤ 4) : Sg (outG s p) := by
  obtain ⟨a, rfl⟩ := sg_fin hs
  obtain ⟨b, rfl⟩ := port_fin hp
  exact (out_tab a b 0).2
theorem bit_zero {p : Int} (hp : 1 ≤ p ∧ p ≤ 4) : bitG 0 p = false := by
  rcases portCases hp with rfl | rfl | rfl | rfl <;> decide
/-- What a port is told. -/
def liveG (s p : Int) (b : Bool) : Int := if b then withG s p else outG s p
theorem live_sg {s p : Int} {b : Bool} (hs : Sg s) (hp : 1 ≤ p ∧ p ≤ 4) : Sg (liveG s p b) := by
  cases b
  · exact out_sg hs hp
  · exact with_sg hs hp
theorem live_bit {s p q : Int} {b : Bool} (hs : Sg s) (hp : 1 ≤ p ∧ p ≤ 4) (hq : 1 ≤ q ∧ q ≤ 4) : bitG (liveG s p b) q = if p = q then b else bitG s q := by
  cases b
  · show bitG (outG s p) q = _
    rw [out_bit hs hp hq]
    by_cases h : p = q <;> simp [h]
  · show bitG (withG s p) q = _
    rw [with_bit hs hp hq]
    by_cases h : p = q <;> simp [h]
/-- A group of ports, behind those that s has; none, if one is wrong. -/
def newG : Int → List Int → Option Int
  | s, [] => some s
  | s, p :: l => if isPort p && !bitG s p then newG (withG s p) l else none
theorem newG_bad {s p : Int} {l : List Int} (h : (isPort p && !bitG s p) = false) : newG s (p :: l) = none := by
  show (if _ then _ else _) = _
  rw [h]; rfl
theorem newG_good {s p : Int} {l : List Int} (h : (isPort p && !bitG s p) = true) : newG s (p :: l) = newG (withG s p) l := by
  show (if _ then _ else _) = _
  rw [h]; rfl
theorem newG_some : ∀ (l : List Int) {s t : Int}, Sg s → newG s l = some t → Sg t ∧ (∀ p ∈ l, 1 ≤ p ∧ p ≤ 4) ∧ (∀ q, 1 ≤ q ∧ q ≤ 4 → bitG t q = (bitG s q || decide (q ∈ l)))
  | [], s, t, hs, h => by
    have h := Option.some.inj h
    subst h
    exact ⟨hs, fun p hp => by simp at hp, fun q _ => by simp⟩
  | p :: l, s, t, hs, h => by
    cases hb : (isPort p && !bitG s p) with
    | false => rw [newG_bad hb] at h; simp at h
    | true =>
      rw [newG_good hb] at h
      have hp : 1 ≤ p ∧ p ≤ 4 := by rw [← isPort_iff]; cases h2 : isPort p <;> simp_all
      obtain ⟨h1, h2, h3⟩ := newG_some l (with_sg hs hp) h
      refine ⟨h1, fun q hq => ?_, fun q hq => ?_⟩
      · rcases List.mem_cons.1 hq with rfl | hq
        · exact hp
        · exact h2 q hq
      · rw [h3 q hq, with_bit hs hp hq, Bool.or_assoc]
        congr 1
        by_cases e : p = q
        · subst e; simp
        · have e2 : ¬ q = p := fun h => e h.symm
          simp [e, e2]
theorem newG_ok : ∀ (l : List Int) {s : Int}, Sg s → (∀ p ∈ l, 1 ≤ p ∧ p ≤ 4) → l.Nodup → (∀ p ∈ l, bitG s p = false) → ∃ t, newG s l = some t
  | [], s, hs, _, _, _ => ⟨s, rfl⟩
  | p :: l, s, hs, h1, h2, h3 => by
    have hp := h1 p (by simp)
    have hb : (isPort p && !bitG s p) = true := by rw [(isPort_iff p).2 hp, h3 p (by simp)]; rfl
    rw [newG_good hb]
    rw [List.nodup_cons] at h2
    refine newG_ok l (with_sg hs hp) (fun q hq => h1 q (by simp [hq])) h2.2 (fun q hq => ?_)
    rw [with_bit hs hp (h1 q (by simp [hq])), h3 q (by simp [hq])]
    have : ¬ p = q := fun e => h2.1 (e ▸ hq)
    simp [this]
theorem drop_step {l : List Int} {k : Nat} (h : k < l.length) : l.drop k = l.getD k 0 :: l.drop (k + 1) := by
  rw [List.drop_eq_getElem_cons h, List.getD_eq_getElem?_getD, List.getElem?_eq_getElem h]
  rfl
/-- The first port that lives. -/
def firstG (s : Int) : List Int → Option Int
  | [] => none
  | p :: l => if bitG s p then some p else firstG s l
theorem firstG_yes {s p : Int} {l : List Int} (h : bitG s p = true) : firstG s (p :: l) = some p := by
  show (if _ then _ else _) = _
  rw [h]; rfl
theorem firstG_no {s p : Int} {l : List Int} (h : bitG s p = false) : firstG s (p :: l) = firstG s l := by
  show (if _ then _ else _) = _
  rw [h]; rfl
/-- What First answers. -/
def firstN (s : Int) (l : List Int) : Int := (firstG s l).getD 0
def firstB (s : Int) (l : List Int) : Bool := (firstG s l).isSome
theorem mem_step (p x : Int) (l : List Int) : decide (p ∈ x :: l) = (decide (x = p) || decide (p ∈ l)) := by
  by_cases h : x = p
  · subst h; simp
  · have h2 : ¬ p = x := fun e => h e.symm
    by_cases h3 : p ∈ l <;> simp [h, h2, h3]
end Go.Proofs.Ytlambnlehomkdaa.Oct
