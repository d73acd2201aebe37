/- Compare of rules is an order: what follows for three rules. -/
import Derived.Test.YtcolklkjaifplaaRulB
namespace Go.Proofs.Ytcolklkjaifplaa.Oct
open Go.RowKit
set_option linter.unusedVariables false
set_option linter.unusedSimpArgs false

theorem cmpI_neg (a b : Int) : cmpI b a = -cmpI a b := by unfold cmpI; repeat' split <;> first | omega | rfl
theorem cmpI_zero (a b : Int) : cmpI a b = 0 ↔ a = b := by unfold cmpI; repeat' split <;> omega
theorem cmpI_le (a b : Int) : cmpI a b ≤ 0 ↔ a ≤ b := by unfold cmpI; repeat' split <;> omega
theorem cmpI_lt (a b : Int) : cmpI a b = -1 ↔ a < b := by unfold cmpI; repeat' split <;> omega
/-- Rows of numbers, one number behind the other. -/
def cmpL : List Int → List Int → Int
  | x :: xs, y :: ys => if cmpI x y = 0 then cmpL xs ys else cmpI x y
  | _, _ => 0
theorem cmpL_neg : ∀ (xs ys : List Int), cmpL ys xs = -cmpL xs ys
  | [], [] => rfl
  | [], _ :: _ => rfl
  | _ :: _, [] => rfl
  | x :: xs, y :: ys => by
    unfold cmpL
    have h := cmpI_neg x y
    by_cases h0 : cmpI x y = 0
    · rw [if_pos h0, if_pos (by omega)]; exact cmpL_neg xs ys
    · rw [if_neg h0, if_neg (by omega)]; exact h
theorem cmpL_bd : ∀ (xs ys : List Int), cmpL xs ys = -1 ∨ cmpL xs ys = 0 ∨ cmpL xs ys = 1
  | [], _ => by simp [cmpL]
  | _ :: _, [] => by simp [cmpL]
  | x :: xs, y :: ys => by
    unfold cmpL
    split
    · exact cmpL_bd xs ys
    · exact cmpI_bd x y
theorem cmpL_zero : ∀ (xs ys : List Int), xs.length = ys.length → (cmpL xs ys = 0 ↔ xs = ys)
  | [], [], _ => by simp [cmpL]
  | x :: xs, y :: ys, hl => by
    unfold cmpL
    have ih := cmpL_zero xs ys (by simpa using hl)
    have hz := cmpI_zero x y
    by_cases h0 : cmpI x y = 0
    · rw [if_pos h0, ih, hz.1 h0]; simp
    · rw [if_neg h0]
      constructor
      · intro h; exact absurd h h0
      · intro h; injection h with h1 _; exact absurd (hz.2 h1) h0
theorem cmpL_le : ∀ (xs ys zs : List Int), xs.length = ys.length → ys.length = zs.length → cmpL xs ys ≤ 0 → cmpL ys zs ≤ 0 → cmpL xs zs ≤ 0
  | [], [], [], _, _, _, _ => by simp [cmpL]
  | x :: xs, y :: ys, z :: zs, h1, h2, a, b => by
    have ih := cmpL_le xs ys zs (by simpa using h1) (by simpa using h2)
    unfold cmpL at a b ⊢
    have n1 := cmpI_le x y
    have n2 := cmpI_le y z
    have n3 := cmpI_le x z
    have e1 := cmpI_zero x y
    have e2 := cmpI_zero y z
    have e3 := cmpI_zero x z
    by_cases c1 : cmpI x y = 0 <;> by_cases c2 : cmpI y z = 0 <;> by_cases c3 : cmpI x z = 0
    · rw [if_pos c1] at a; rw [if_pos c2] at b; rw [if_pos c3]; exact ih a b
    · exact absurd (e3.2 (by have := e1.1 c1; have := e2.1 c2; omega)) c3
    · exact absurd (e2.2 (by have := e1.1 c1; have := e3.1 c3; omega)) c2
    · rw [if_neg c2] at b; rw [if_neg c3]; exact n3.2 (by have := e1.1 c1; have := n2.1 b; omega)
    · exact absurd (e1.2 (by have := e2.1 c2; have := e3.1 c3; omega)) c1
    · rw [if_neg c1] at a; rw [if_neg c3]; exact n3.2 (by have := e2.1 c2; have := n1.1 a; omega)
    · rw [if_neg c1] at a; rw [if_neg c2] at b
      have := n1.1 a; have := n2.1 b; have := e3.1 c3
      exact absurd (e1.2 (by omega)) c1
    · rw [if_neg c1] at a; rw [if_neg c2] at b; rw [if_neg c3]; exact n3.2 (by have := n1.1 a; have := n2.1 b; omega)
/-- The numbers by which a rule stands. -/
def keyR (r : RuleV) : List Int := if r.k = 1 then [r.k, -r.pr, r.x.v, r.x.m, r.x.b0, r.x.b1, r.x.b2, r.x.i0, r.x.i1, r.x.i2] else [r.k, r.to, 0, 0, 0, 0, 0, 0, 0, 0]
theorem keyR_len (r : RuleV) : (keyR r).length = 10 := by unfold keyR; split <;> rfl
theorem cmpI_self (a : Int) : cmpI a a = 0 := (cmpI_zero a a).2 rfl
theorem cmpI_opp (a b : Int) : -cmpI a b = cmpI (-a) (-b) := by unfold cmpI; repeat' split <;> omega
theorem orL_mid (l m n : List Int) : orL (l ++ (orL m :: n)) = orL (l ++ (m ++ n)) := by
  induction l with
  | nil =>
    show (if orL m = 0 then orL n else orL m) = orL (m ++ n)
    induction m with
    | nil => rfl
    | cons y m ih =>
      show (if (if y = 0 then orL m else y) = 0 then orL n else (if y = 0 then orL m else y)) = (if y = 0 then orL (m ++ n) else y)
      by_cases hy : y = 0
      · rw [if_pos hy, if_pos hy]; exact ih
      · rw [if_neg hy, if_neg hy, if_neg hy]
  | cons y l ih => show (if y = 0 then orL (l ++ (orL m :: n)) else y) = (if y = 0 then orL (l ++ (m ++ n)) else y); rw [ih]
theorem cmpL_or : ∀ (xs ys : List Int), cmpL xs ys = orL (List.zipWith cmpI xs ys)
  | [], _ => by simp [cmpL, orL]
  | _ :: _, [] => by simp [cmpL, orL]
  | x :: xs, y :: ys => by
    show (if _ then _ else _) = (if _ then _ else _)
    rw [cmpL_or xs ys]
theorem cmpR_key (a b : RuleV) : cmpR a b = cmpL (keyR a) (keyR b) := by
  rw [cmpL_or]
  unfold cmpR keyR
  by_cases ha : a.k = 1 <;> by_cases hb : b.k = 1
  · rw [if_pos ha, if_pos ha, if_pos hb]
    unfold lex3
    have e1 := orL_mid [cmpI a.k b.k, -cmpI a.pr b.pr, cmpI a.x.v b.x.v, cmpI a.x.m b.x.m] [cmpI a.x.b0 b.x.b0, cmpI a.x.b1 b.x.b1, cmpI a.x.b2 b.x.b2] [orL [cmpI a.x.i0 b.x.i0, cmpI a.x.i1 b.x.i1, cmpI a.x.i2 b.x.i2]]
    have e2 := orL_mid [cmpI a.k b.k, -cmpI a.pr b.pr, cmpI a.x.v b.x.v, cmpI a.x.m b.x.m, cmpI a.x.b0 b.x.b0, cmpI a.x.b1 b.x.b1, cmpI a.x.b2 b.x.b2] [cmpI a.x.i0 b.x.i0, cmpI a.x.i1 b.x.i1, cmpI a.x.i2 b.x.i2] []
    refine e1.trans (e2.trans ?_)
    rw [cmpI_opp]
    rfl
  · have hne : cmpI a.k b.k ≠ 0 := fun h => by have := (cmpI_zero a.k b.k).1 h; omega
    rw [if_pos ha, if_pos ha, if_neg hb]
    show (if _ then _ else _) = (if _ then _ else _)
    rw [if_neg hne, if_neg hne]
  · have hne : cmpI a.k b.k ≠ 0 := fun h => by have := (cmpI_zero a.k b.k).1 h; omega
    rw [if_neg ha, if_neg ha, if_pos hb]
    show (if _ then _ else _) = (if _ then _ else _)
    rw [if_neg hne, if_neg hne]
  · rw [if_neg ha, if_neg ha, if_neg hb]
    have z : cmpI 0 0 = 0 := cmpI_self 0
    simp only [List.zipWith, z]
    have e := orL_mid [cmpI a.k b.k, cmpI a.to b.to] [0, 0, 0, 0, 0, 0, 0, 0] []
    have e2 := orL_mid [cmpI a.k b.k, cmpI a.to b.to] [] []
    have e0 : orL [0, 0, 0, 0, 0, 0, 0, 0] = orL [] := rfl
    rw [e0] at e
    exact e2.symm.trans e
theorem cmpR_neg (a b : RuleV) : cmpR b a = -cmpR a b := by rw [cmpR_key, cmpR_key]; exact cmpL_neg _ _
theorem cmpR_bd (a b : RuleV) : cmpR a b = -1 ∨ cmpR a b = 0 ∨ cmpR a b = 1 := by rw [cmpR_key]; exact cmpL_bd _ _
theorem cmpR_zero (a b : RuleV) : cmpR a b = 0 ↔ keyR a = keyR b := by rw [cmpR_key]; exact cmpL_zero _ _ (by rw [keyR_len, keyR_len])
theorem cmpR_self (a : RuleV) : cmpR a a = 0 := (cmpR_zero a a).2 rfl
theorem cmpR_le (a b c : RuleV) (h1 : cmpR a b ≤ 0) (h2 : cmpR b c ≤ 0) : cmpR a c ≤ 0 := by
  rw [cmpR_key] at *
  exact cmpL_le _ _ _ (by rw [keyR_len, keyR_len]) (by rw [keyR_len, keyR_len]) h1 h2
theorem cmpR_like (a b c : RuleV) (h : cmpR a b = 0) : cmpR a c = cmpR b c := by rw [cmpR_key, cmpR_key, (cmpR_zero a b).1 h]
theorem cmpR_prio (a b : RuleV) (ha : a.k = 1) (hb : b.k = 1) (h : b.pr < a.pr) : cmpR a b = -1 := by
  have h0 : cmpI a.k b.k = 0 := (cmpI_zero _ _).2 (by omega)
  have h1 : cmpI a.pr b.pr = 1 := by have := cmpI_neg b.pr a.pr; have := (cmpI_lt b.pr a.pr).2 h; omega
  unfold cmpR
  rw [if_pos ha]
  show (if _ then (if _ then _ else _) else _) = _
  rw [if_pos h0, h1]
  rfl
/-- Do two rules stand in one place? -/
def placeB (x y : RuleV) : Bool := if x.k = y.k then (if x.k = 1 then (x.pr == y.pr) && eqMB x.x y.x else x.to == y.to) else false
theorem place_zero (x y : RuleV) : decide (cmpR x y = 0) = placeB x y := by
  rw [Bool.eq_iff_iff, decide_eq_true_iff, cmpR_zero]
  unfold placeB keyR
  by_cases hk : x.k = y.k
  · rw [if_pos hk]
    by_cases h1 : x.k = 1
    · rw [if_pos h1, if_pos h1, if_pos (by omega)]
      rw [Bool.and_eq_true, eqMB_iff, beq_iff_eq]
      constructor
      · intro h
        simp only [List.cons.injEq] at h
        obtain ⟨_, h2, h3, h4, h5, h6, h7, h8, h9, h10, _⟩ := h
        exact ⟨by omega, by cases hx : x.x; cases hy : y.x; simp only [hx, hy] at *; simp [*]⟩
      · rintro ⟨h2, h3⟩
        rw [hk, h2, h3]
    · rw [if_neg h1, if_neg h1, if_neg (by omega), beq_iff_eq]
      constructor
      · intro h; simp only [List.cons.injEq] at h; exact h.2.1
      · intro h; rw [hk, h]
  · rw [if_neg hk]
    constructor
    · intro h
      refine absurd ?_ hk
      by_cases h1 : x.k = 1 <;> by_cases h2 : y.k = 1
      · omega
      · rw [if_pos h1, if_neg h2] at h; injection h
      · rw [if_neg h1, if_pos h2] at h; injection h
      · rw [if_neg h1, if_neg h2] at h; injection h
    · intro h; cases h
end Go.Proofs.Ytcolklkjaifplaa.Oct
