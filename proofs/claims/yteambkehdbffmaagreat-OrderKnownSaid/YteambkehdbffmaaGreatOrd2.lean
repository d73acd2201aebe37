/- Layer 6, plain: what can be read of bytes has just these bytes. -/
import Derived.Test.YteambkehdbffmaaGreatOrdP
namespace Go.Proofs.YteambkehdbffmaaGreat.Oct
open Go.RowKit
set_option linter.unusedVariables false
set_option linter.unusedSimpArgs false
/-- A reading that went well: the bytes ahead were the number's. -/
theorem dg_num (s : Nat) (hs : s = 1 ∨ s = 2 ∨ s = 4) (l : List Int) (hl : By l) (h : s ≤ l.length) : dg s ((num (l.take s) : Nat) : Int) = l.take s ∧ ((num (l.take s) : Nat) : Int) < 2 ^ (8 * s) := by
  rcases hs with rfl | rfl | rfl
  · obtain ⟨x0, l, rfl⟩ := List.exists_cons_of_length_pos (l := l) (by omega)
    have h0 := hl x0 (by simp)
    simp [dg, num]; omega
  · obtain ⟨x0, l, rfl⟩ := List.exists_cons_of_length_pos (l := l) (by omega)
    obtain ⟨x1, l, rfl⟩ := List.exists_cons_of_length_pos (l := l) (by simp at h; omega)
    have h0 := hl x0 (by simp)
    have h1 := hl x1 (by simp)
    simp [dg, num]; omega
  · obtain ⟨x0, l, rfl⟩ := List.exists_cons_of_length_pos (l := l) (by omega)
    obtain ⟨x1, l, rfl⟩ := List.exists_cons_of_length_pos (l := l) (by simp at h; omega)
    obtain ⟨x2, l, rfl⟩ := List.exists_cons_of_length_pos (l := l) (by simp at h; omega)
    obtain ⟨x3, l, rfl⟩ := List.exists_cons_of_length_pos (l := l) (by simp at h; omega)
    have h0 := hl x0 (by simp)
    have h1 := hl x1 (by simp)
    have h2 := hl x2 (by simp)
    have h3 := hl x3 (by simp)
    simp [dg, num]; omega
theorem numR_inv (s : Nat) (hs : s = 1 ∨ s = 2 ∨ s = 4) (S : Int) (hS : S = s) (m : List Int) (hm : By m) (e : Int) (h : (numR S m e).2.2 = 0) :
    e = 0 ∧ m = dg s (numR S m e).1 ++ (numR S m e).2.1 ∧ (0 ≤ (numR S m e).1 ∧ (numR S m e).1 < 2 ^ (8 * s)) ∧ By (numR S m e).2.1 := by
  subst hS
  unfold numR at h ⊢
  by_cases he : e = 0
  · subst he
    rw [if_neg (by simp), if_pos (by omega)] at h ⊢
    by_cases h2 : m.length < s
    · rw [if_pos (by omega)] at h; simp at h
    · rw [if_neg (by omega)]
      have := dg_num s hs m hm (by omega)
      have es : ((s : Int)).toNat = s := by omega
      rw [es]
      refine ⟨rfl, ?_, ⟨by omega, this.2⟩, hm.drop _⟩
      rw [this.1, List.take_append_drop]
  · rw [if_pos he] at h; exact absurd h he
theorem bnd_inv {α β : Type} {F : St → α × St} {G : α → St → β × St} {m m' : List Int} {y : β} (hF : Fit F) (hG : ∀ x, Fit (G x)) (h : bnd F G (m, 0) = (y, (m', 0))) : ∃ x m1, F (m, 0) = (x, (m1, 0)) ∧ G x (m1, 0) = (y, (m', 0)) := by
  rcases hf : F (m, 0) with ⟨x, m1, e1⟩
  by_cases he : e1 = 0
  · subst he
    exact ⟨x, m1, rfl, by rw [bnd_eq hf] at h; exact h⟩
  · exfalso
    have hm : m1 = [] := by
      have := hF.2 (m, 0) (fun h => absurd rfl h) (by rw [hf]; exact he)
      rw [hf] at this
      exact this
    subst hm
    rw [bnd_eq hf] at h
    have := (hG x).1.1 e1 he
    rw [h] at this
    simp only [Prod.mk.injEq] at this
    exact he this.2.symm
theorem nu_inv (s : Nat) (hs : s = 1 ∨ s = 2 ∨ s = 4) {S : Int} (hS : S = s) {m m' : List Int} {v : Int} (hm : By m) (h : nu S (m, 0) = (v, (m', 0))) : m = dg s v ++ m' ∧ By m' ∧ 0 ≤ v ∧ v < 2 ^ (8 * s) := by
  have h' : numR S m 0 = (v, m', 0) := h
  have := numR_inv s hs S hS m hm 0 (by rw [h'])
  rw [h'] at this
  exact ⟨this.2.1, this.2.2.2, this.2.2.1⟩
theorem out_inv {m m' : List Int} {x : OutV} (hm : By m) (h : outRd (m, 0) = (x, (m', 0))) : m = outB x ++ m' ∧ By m' ∧ True := by
  unfold outRd at h
  obtain ⟨p, m1, h1, h⟩ := bnd_inv (by (repeat' first | exact Fit.rt _ | exact Fit.n1 | exact Fit.n2 | exact Fit.n4 | exact Fit.mask | exact Fit.out | exact Fit.outs _ | exact Fit.rule | exact Fit.tx | refine Fit.bnd ?_ (fun _ => ?_))) (fun _ => by (repeat' first | exact Fit.rt _ | exact Fit.n1 | exact Fit.n2 | exact Fit.n4 | exact Fit.mask | exact Fit.out | exact Fit.outs _ | exact Fit.rule | exact Fit.tx | refine Fit.bnd ?_ (fun _ => ?_))) h
  obtain ⟨e1, y1, b1⟩ := nu_inv 1 (by omega) rfl hm h1
  obtain ⟨a, m2, h2, h⟩ := bnd_inv (by (repeat' first | exact Fit.rt _ | exact Fit.n1 | exact Fit.n2 | exact Fit.n4 | exact Fit.mask | exact Fit.out | exact Fit.outs _ | exact Fit.rule | exact Fit.tx | refine Fit.bnd ?_ (fun _ => ?_))) (fun _ => by (repeat' first | exact Fit.rt _ | exact Fit.n1 | exact Fit.n2 | exact Fit.n4 | exact Fit.mask | exact Fit.out | exact Fit.outs _ | exact Fit.rule | exact Fit.tx | refine Fit.bnd ?_ (fun _ => ?_))) h
  obtain ⟨e2, y2, b2⟩ := nu_inv 2 (by omega) rfl y1 h2
  obtain ⟨b, m3, h3, h⟩ := bnd_inv (by (repeat' first | exact Fit.rt _ | exact Fit.n1 | exact Fit.n2 | exact Fit.n4 | exact Fit.mask | exact Fit.out | exact Fit.outs _ | exact Fit.rule | exact Fit.tx | refine Fit.bnd ?_ (fun _ => ?_))) (fun _ => by (repeat' first | exact Fit.rt _ | exact Fit.n1 | exact Fit.n2 | exact Fit.n4 | exact Fit.mask | exact Fit.out | exact Fit.outs _ | exact Fit.rule | exact Fit.tx | refine Fit.bnd ?_ (fun _ => ?_))) h
  obtain ⟨e3, y3, b3⟩ := nu_inv 2 (by omega) rfl y2 h3
  obtain ⟨c, m4, h4, h⟩ := bnd_inv (by (repeat' first | exact Fit.rt _ | exact Fit.n1 | exact Fit.n2 | exact Fit.n4 | exact Fit.mask | exact Fit.out | exact Fit.outs _ | exact Fit.rule | exact Fit.tx | refine Fit.bnd ?_ (fun _ => ?_))) (fun _ => by (repeat' first | exact Fit.rt _ | exact Fit.n1 | exact Fit.n2 | exact Fit.n4 | exact Fit.mask | exact Fit.out | exact Fit.outs _ | exact Fit.rule | exact Fit.tx | refine Fit.bnd ?_ (fun _ => ?_))) h
  obtain ⟨e4, y4, b4⟩ := nu_inv 2 (by omega) rfl y3 h4
  simp only [rt, Prod.mk.injEq] at h
  obtain ⟨rfl, rfl, _⟩ := h
  refine ⟨?_, y4, trivial⟩
  rw [e1, e2, e3, e4]
  simp [outB, Int.sub_add_cancel, List.append_assoc]
theorem outs_inv : ∀ (n : Nat) {m m' : List Int} {x : List OutV} (hm : By m) (h : outsRd n (m, 0) = (x, (m', 0))), m = x.flatMap outB ++ m' ∧ By m' ∧ x.length = n
  | 0, m, m', x, hm, h => by
    unfold outsRd at h
    simp only [rt, Prod.mk.injEq] at h
    obtain ⟨rfl, rfl, _⟩ := h
    exact ⟨rfl, hm, rfl⟩
  | n + 1, m, m', x, hm, h => by
    unfold outsRd at h
    obtain ⟨os, m1, h1, h⟩ := bnd_inv (by (repeat' first | exact Fit.rt _ | exact Fit.n1 | exact Fit.n2 | exact Fit.n4 | exact Fit.mask | exact Fit.out | exact Fit.outs _ | exact Fit.rule | exact Fit.tx | refine Fit.bnd ?_ (fun _ => ?_))) (fun _ => by (repeat' first | exact Fit.rt _ | exact Fit.n1 | exact Fit.n2 | exact Fit.n4 | exact Fit.mask | exact Fit.out | exact Fit.outs _ | exact Fit.rule | exact Fit.tx | refine Fit.bnd ?_ (fun _ => ?_))) h
    obtain ⟨e1, y1, b1⟩ := (outs_inv n) hm h1
    obtain ⟨o, m2, h2, h⟩ := bnd_inv (by (repeat' first | exact Fit.rt _ | exact Fit.n1 | exact Fit.n2 | exact Fit.n4 | exact Fit.mask | exact Fit.out | exact Fit.outs _ | exact Fit.rule | exact Fit.tx | refine Fit.bnd ?_ (fun _ => ?_))) (fun _ => by (repeat' first | exact Fit.rt _ | exact Fit.n1 | exact Fit.n2 | exact Fit.n4 | exact Fit.mask | exact Fit.out | exact Fit.outs _ | exact Fit.rule | exact Fit.tx | refine Fit.bnd ?_ (fun _ => ?_))) h
    obtain ⟨e2, y2, b2⟩ := out_inv y1 h2
    simp only [rt, Prod.mk.injEq] at h
    obtain ⟨rfl, rfl, _⟩ := h
    refine ⟨?_, y2, by simp [b1]⟩
    rw [e1, e2]
    simp [List.flatMap_append, List.append_assoc]
theorem outs_len (os : List OutV) : (os.flatMap outB).length = 7 * os.length := by
  induction os with
  | nil => rfl
  | cons o os ih => rw [List.flatMap_cons, List.length_append, ih, List.length_cons]; simp [outB, dg_len]; omega
theorem ordB_max {o : OrdV} (ok : okOrd o) : (ordB o).length ≤ 256 ∧ 0 < (ordB o).length := by
  have hk := okNM_k ok.1
  have h1 : (restB o).length ≤ 255 := by
    by_cases k2 : o.k = 2 ∨ o.k = 3
    · have hr := ok.2.1
      unfold okRu at hr
      rw [if_pos k2] at hr
      have hl := okR_len hr
      rw [restB_r k2]
      unfold ruleB dataB maskB
      split
      · simp only [List.length_append, dg_len, outs_len, List.length_cons, List.length_nil]; omega
      · simp only [List.length_append, dg_len, List.length_nil]; omega
    by_cases k8 : o.k = 8
    · rw [restB_8 k8, List.length_append, frm_len, qB_len, dg_len]; omega
    unfold restB
    rw [if_neg k2]
    (repeat' split) <;> simp only [List.length_append, dg_len, List.length_nil] <;> omega
  unfold ordB
  rw [List.length_append, dg_len]
  omega
end Go.Proofs.YteambkehdbffmaaGreat.Oct
