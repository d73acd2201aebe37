/- Plain facts of layer 6 (order). No Go in sight. -/
import Derived.Test.YtmigpmhppapkmaaPrbP
namespace Go.Proofs.Ytmigpmhppapkmaa.Oct
open Go.RowKit
set_option linter.unusedVariables false

theorem num1_bd (l : List Int) (e : Int) (h : By l) : 0 ≤ (numR 1 l e).1 ∧ (numR 1 l e).1 < 256 := by
  unfold numR
  split
  · exact ⟨by simp, by simp⟩
  · split
    · split
      · exact ⟨by simp, by simp⟩
      · have := num_lt (l.take (1 : Int).toNat) (h.take _)
        have h2 : (l.take (1 : Int).toNat).length ≤ 1 := by rw [List.length_take]; simp; omega
        have h3 : 256 ^ (l.take (1 : Int).toNat).length ≤ 256 ^ 1 := Nat.pow_le_pow_right (by omega) h2
        exact ⟨by simp, by have e0 : (Int.toNat 1) = 1 := rfl; rw [e0] at this h3 ⊢; omega⟩
    · exact ⟨by simp, by simp⟩
/-- An output, a match, a rule, an order. -/
structure OutV where
  p : Int
  a : Int
  b : Int
  c : Int
structure MaskV where
  v : Int
  m : Int
  b0 : Int
  b1 : Int
  b2 : Int
  i0 : Int
  i1 : Int
  i2 : Int
structure RuleV where
  k : Int
  pr : Int
  to : Int
  po : Int
  x : MaskV
  os : List OutV
structure OrdV where
  k : Int
  n : Int
  m : Int
  r : RuleV
  f : Int
  p : Int
  t : Int
  q : Int
  z : Int
def noMask : MaskV := ⟨0, 0, 0, 0, 0, 0, 0, 0⟩
def noRule : RuleV := ⟨0, 0, 0, 0, noMask, []⟩
def noOrd : OrdV := ⟨0, 0, 0, noRule, 0, 0, 0, 0, 0⟩

/-- What may be. -/
def within (n a b : Int) : Prop := a ≤ n ∧ n ≤ b
instance (n a b : Int) : Decidable (within n a b) := by unfold within; infer_instance
def clr (i b : Int) : Int := bits .andNot .u8 i b
def okM (x : MaskV) : Prop := within x.v 0 200 ∧ within x.m (-1) 4 ∧ clr x.i0 x.b0 = 0 ∧ clr x.i1 x.b1 = 0 ∧ clr x.i2 x.b2 = 0
def zeroM (x : MaskV) : Prop := x.v = 0 ∧ x.m = 0 ∧ x.b0 = 0 ∧ x.b1 = 0 ∧ x.b2 = 0 ∧ x.i0 = 0 ∧ x.i1 = 0 ∧ x.i2 = 0
def okO (o : OutV) : Prop := within o.p 0 4 ∧ within o.a (-1) 255 ∧ within o.b (-1) 255 ∧ within o.c (-1) 255
instance (x : MaskV) : Decidable (okM x) := by unfold okM; infer_instance
instance (x : MaskV) : Decidable (zeroM x) := by unfold zeroM; infer_instance
instance (o : OutV) : Decidable (okO o) := by unfold okO; infer_instance
def okData (r : RuleV) : Prop := r.k = 1 ∧ within r.pr 0 65535 ∧ r.to = 0 ∧ r.po = 0 ∧ okM r.x ∧ r.os.length ≤ 8 ∧ ∀ o ∈ r.os, okO o
def okCtl (r : RuleV) : Prop := r.k = 2 ∧ within r.to 0 6 ∧ within r.po 0 4 ∧ r.pr = 0 ∧ zeroM r.x ∧ r.os.length = 0
def zeroR (r : RuleV) : Prop := r.k = 0 ∧ r.pr = 0 ∧ r.to = 0 ∧ r.po = 0 ∧ zeroM r.x ∧ r.os.length = 0
instance (r : RuleV) : Decidable (okData r) := by unfold okData; infer_instance
instance (r : RuleV) : Decidable (okCtl r) := by unfold okCtl; infer_instance
instance (r : RuleV) : Decidable (zeroR r) := by unfold zeroR; infer_instance
def okR (r : RuleV) : Prop := okData r ∨ okCtl r
instance (r : RuleV) : Decidable (okR r) := by unfold okR; infer_instance
def zeroQ (o : OrdV) : Prop := o.f = 0 ∧ o.p = 0 ∧ o.t = 0 ∧ o.q = 0 ∧ o.z = 0
instance (o : OrdV) : Decidable (zeroQ o) := by unfold zeroQ; infer_instance
/-- The numbers of an order of a kind: what is wanted of N and of M. -/
def okNM (o : OrdV) : Prop :=
  (o.k = 1 ∧ o.n = 0 ∧ o.m = 0) ∨ (o.k = 2 ∧ o.n = 0 ∧ o.m = 0) ∨ (o.k = 3 ∧ o.n = 0 ∧ o.m = 0) ∨ (o.k = 4 ∧ within o.n 0 200 ∧ o.m = 0) ∨ (o.k = 5 ∧ within o.n 1 4 ∧ within o.m 0 65535) ∨
  (o.k = 6 ∧ within o.n 0 4294967295 ∧ o.m = 0) ∨ (o.k = 7 ∧ within o.n 0 4294967295 ∧ within o.m 0 65535) ∨ (o.k = 8 ∧ o.n = 0 ∧ o.m = 0) ∨ (o.k = 9 ∧ within o.n 1 4 ∧ within o.m 0 1)
instance (o : OrdV) : Decidable (okNM o) := by unfold okNM; infer_instance
def okRu (o : OrdV) : Prop := if o.k = 2 ∨ o.k = 3 then okR o.r else zeroR o.r
def okPr (o : OrdV) : Prop := if o.k = 8 then okQ o.f o.p o.t o.q o.z ∧ o.t ≠ 0 else zeroQ o
instance (o : OrdV) : Decidable (okRu o) := by unfold okRu; infer_instance
instance (o : OrdV) : Decidable (okPr o) := by unfold okPr; infer_instance
def okOrd (o : OrdV) : Prop := okNM o ∧ okRu o ∧ okPr o
instance (o : OrdV) : Decidable (okOrd o) := by unfold okOrd; infer_instance
def checkM (x : MaskV) : Int := if okM x then 0 else 2
def checkR (r : RuleV) : Int := if okR r then 0 else 2
def checkO (o : OrdV) : Int := if okOrd o then 0 else 2

/-- Bytes. -/
def outB (o : OutV) : List Int := dg 1 o.p ++ (dg 2 (o.a + 1) ++ (dg 2 (o.b + 1) ++ dg 2 (o.c + 1)))
def maskB (x : MaskV) : List Int := dg 1 x.v ++ (dg 1 (x.m + 1) ++ ([x.b0, x.b1, x.b2] ++ [x.i0, x.i1, x.i2]))
def dataB (r : RuleV) : List Int := maskB r.x ++ (dg 1 (r.os.length : Nat) ++ r.os.flatMap outB)
def ruleB (r : RuleV) : List Int := dg 1 r.k ++ (dg 2 r.pr ++ (dg 1 r.to ++ (dg 1 r.po ++ (if r.k = 1 then dataB r else []))))
def restB (o : OrdV) : List Int :=
  if o.k = 2 ∨ o.k = 3 then ruleB o.r else if o.k = 4 then dg 1 o.n else if o.k = 5 then dg 1 o.n ++ dg 2 o.m else if o.k = 6 then dg 4 o.n else if o.k = 7 then dg 4 o.n ++ dg 2 o.m else
  if o.k = 8 then dg 2 9 ++ frm 2 (qB o.f o.p o.t o.q o.z) else if o.k = 9 then dg 1 o.n ++ dg 1 o.m else []
def ordB (o : OrdV) : List Int := dg 1 o.k ++ restB o
def bytesO (o : OrdV) : List Int × Int := if okOrd o then (ordB o, 0) else ([], 2)

/-- Readings, one behind the other. -/
abbrev St := List Int × Int
def nu (s : Int) (t : St) : Int × St := numR s t.1 t.2
def tx (t : St) : List Int × St := textR t.1 t.2
def bnd {α β : Type} (F : St → α × St) (G : α → St → β × St) (t : St) : β × St := G (F t).1 (F t).2
def rt {α : Type} (x : α) (t : St) : α × St := (x, t)
def maskRd : St → MaskV × St := bnd (nu 1) fun v => bnd (nu 1) fun m => bnd (nu 1) fun b0 => bnd (nu 1) fun b1 => bnd (nu 1) fun b2 => bnd (nu 1) fun i0 => bnd (nu 1) fun i1 => bnd (nu 1) fun i2 => rt ⟨v, m - 1, b0, b1, b2, i0, i1, i2⟩
def outRd : St → OutV × St := bnd (nu 1) fun p => bnd (nu 2) fun a => bnd (nu 2) fun b => bnd (nu 2) fun c => rt ⟨p, a - 1, b - 1, c - 1⟩
def outsRd : Nat → St → List OutV × St
  | 0 => rt []
  | n + 1 => bnd (outsRd n) fun os => bnd outRd fun o => rt (os ++ [o])
def ruleRd : St → RuleV × St := bnd (nu 1) fun k => bnd (nu 2) fun pr => bnd (nu 1) fun to => bnd (nu 1) fun po =>
  if k = 1 then bnd maskRd fun x => bnd (nu 1) fun n => bnd (outsRd n.toNat) fun os => rt ⟨k, pr, to, po, x, os⟩ else rt ⟨k, pr, to, po, noMask, []⟩
def restRd (k : Int) : St → OrdV × St :=
  if k = 2 ∨ k = 3 then bnd ruleRd fun r => rt { noOrd with k := k, r := r } else if k = 4 then bnd (nu 1) fun n => rt { noOrd with k := k, n := n } else
  if k = 5 then bnd (nu 1) fun n => bnd (nu 2) fun m => rt { noOrd with k := k, n := n, m := m } else if k = 6 then bnd (nu 4) fun n => rt { noOrd with k := k, n := n } else
  if k = 7 then bnd (nu 4) fun n => bnd (nu 2) fun m => rt { noOrd with k := k, n := n, m := m } else
  if k = 8 then bnd tx fun b => rt { noOrd with k := k, f := (parseQ b).1.1, p := (parseQ b).1.2.1, t := (parseQ b).1.2.2.1, q := (parseQ b).1.2.2.2.1, z := (parseQ b).1.2.2.2.2 } else
  if k = 9 then bnd (nu 1) fun n => bnd (nu 1) fun m => rt { noOrd with k := k, n := n, m := m } else rt { noOrd with k := k }
def ordRd : St → OrdV × St := bnd (nu 1) restRd
/-- What bytes say. -/
def parseO (l : List Int) : OrdV × Int :=
  if (ordRd (l, 0)).2.2 ≠ 0 then (noOrd, (ordRd (l, 0)).2.2) else if (ordRd (l, 0)).2.1.length = 0 ∧ okOrd (ordRd (l, 0)).1 then ((ordRd (l, 0)).1, 0) else (noOrd, 4)

/-- A reading is a good one: what is wrong stays; what it takes is a piece of the bytes, it takes it of whatever stands behind; of fewer it takes all, and they end too early. -/
def Nice {α : Type} (F : St → α × St) : Prop :=
  (∀ e, e ≠ 0 → (F ([], e)).2 = ([], e)) ∧ ∀ m x m', F (m, 0) = (x, (m', 0)) → ∃ l, m = l ++ m' ∧ (∀ R, F (l ++ R, 0) = (x, (R, 0))) ∧ ∀ i, i < l.length → (F (l.take i, 0)).2 = ([], 3)
theorem Nice.rt {α : Type} (x : α) : Nice (rt x) :=
  ⟨fun e he => rfl, fun m y m' h => by
    simp only [Oct.rt, Prod.mk.injEq, and_true] at h
    obtain ⟨rfl, rfl⟩ := h
    exact ⟨[], rfl, fun R => rfl, fun i hi => absurd hi (by simp)⟩⟩
theorem nu_bad (s : Int) (m : List Int) (e : Int) (he : e ≠ 0) : nu s (m, e) = (0, (m, e)) := if_pos he
theorem nu_ok (s : Nat) (hs : s = 1 ∨ s = 2 ∨ s = 4) (m : List Int) (h : s ≤ m.length) : nu s (m, 0) = (((num (m.take s) : Nat) : Int), (m.drop s, (0 : Int))) := by
  show numR s m 0 = _
  unfold numR
  rw [if_neg (by simp), if_pos (by omega), Int.toNat_natCast, if_neg (by omega)]
theorem nu_few (s : Nat) (hs : s = 1 ∨ s = 2 ∨ s = 4) (m : List Int) (h : m.length < s) : nu s (m, 0) = (0, ([], 3)) := by
  show numR s m 0 = _
  unfold numR
  rw [if_neg (by simp), if_pos (by omega), Int.toNat_natCast, if_pos (by omega)]
theorem Nice.nu (s : Nat) (hs : s = 1 ∨ s = 2 ∨ s = 4) : Nice (nu s) :=
  ⟨fun e he => by rw [nu_bad _ _ _ he], fun m x m' h => by
    by_cases hl : m.length < s
    · rw [nu_few s hs m hl] at h; simp at h
    · rw [nu_ok s hs m (by omega)] at h
      simp only [Prod.mk.injEq, and_true] at h
      obtain ⟨rfl, rfl⟩ := h
      have ht : (m.take s).length = s := by rw [List.length_take]; omega
      refine ⟨m.take s, (List.take_append_drop s m).symm, fun R => ?_, fun i hi => ?_⟩
      · rw [nu_ok s hs _ (by rw [List.length_append, ht]; omega), List.take_append_of_le_length (by omega), List.take_of_length_le (by omega), List.drop_append_of_le_length (by omega), List.drop_of_length_le (by omega), List.nil_append]
      · rw [nu_few s hs _ (by rw [List.length_take]; omega)]⟩
theorem Nice.bnd {α β : Type} {F : St → α × St} {G : α → St → β × St} (hF : Nice F) (hG : ∀ x, Nice (G x)) (h1 : ∀ m, (F (m, 0)).2.2 ≠ 0 → (F (m, 0)).2.1 = []) : Nice (bnd F G) :=
  ⟨fun e he => by
    show (G (F ([], e)).1 (F ([], e)).2).2 = _
    rw [hF.1 e he]
    exact (hG _).1 e he, fun m y m' h => by
    change G (F (m, 0)).1 (F (m, 0)).2 = _ at h
    by_cases he : (F (m, 0)).2.2 = 0
    · obtain ⟨x, m1, e1, hx⟩ : ∃ x m1 e1, F (m, 0) = (x, (m1, e1)) := ⟨_, _, _, rfl⟩
      rw [hx] at he h
      simp only at he
      subst he
      obtain ⟨l1, rfl, hr1, hc1⟩ := hF.2 m x m1 hx
      obtain ⟨l2, rfl, hr2, hc2⟩ := (hG x).2 m1 y m' h
      refine ⟨l1 ++ l2, by rw [List.append_assoc], fun R => ?_, fun i hi => ?_⟩
      · show G (F (l1 ++ l2 ++ R, 0)).1 (F (l1 ++ l2 ++ R, 0)).2 = _
        rw [List.append_assoc, hr1]
        exact hr2 R
      · show (G (F ((l1 ++ l2).take i, 0)).1 (F ((l1 ++ l2).take i, 0)).2).2 = _
        by_cases hi1 : i < l1.length
        · rw [List.take_append_of_le_length (by omega), hc1 i hi1]
          exact (hG _).1 3 (by omega)
        · rw [List.take_append, List.take_of_length_le (by omega), hr1]
          exact hc2 _ (by rw [List.length_append] at hi; omega)
    · have e1 := h1 m he
      have e2 : (F (m, 0)).2 = ([], (F (m, 0)).2.2) := by rw [← e1]
      rw [e2] at h
      have := congrArg Prod.snd h
      rw [(hG _).1 _ he] at this
      simp only [Prod.mk.injEq] at this
      exact absurd this.2 he⟩
/-- Where something was wrong nothing is left. -/
def Empty {α : Type} (F : St → α × St) : Prop := ∀ t : St, (t.2 ≠ 0 → t.1 = []) → (F t).2.2 ≠ 0 → (F t).2.1 = []
theorem Empty.rt {α : Type} (x : α) : Empty (rt x) := fun t h => h
theorem Empty.nu (s : Nat) (hs : s = 1 ∨ s = 2 ∨ s = 4) : Empty (nu s) := fun t h h2 => by
  obtain ⟨m, e⟩ := t
  by_cases he : e = 0
  · subst he
    by_cases hl : m.length < s
    · rw [nu_few s hs m hl]
    · rw [nu_ok s hs m (by omega)] at h2; exact absurd rfl h2
  · rw [nu_bad _ _ _ he]; exact h he
theorem Empty.bnd {α β : Type} {F : St → α × St} {G : α → St → β × St} (hF : Empty F) (hG : ∀ x, Empty (G x)) : Empty (bnd F G) := fun t h => hG _ _ (hF t h)
/-- Both. -/
def Fit {α : Type} (F : St → α × St) : Prop := Nice F ∧ Empty F
theorem Fit.rt {α : Type} (x : α) : Fit (rt x) := ⟨Nice.rt x, Empty.rt x⟩
theorem Fit.nu (s : Nat) (hs : s = 1 ∨ s = 2 ∨ s = 4) : Fit (nu s) := ⟨Nice.nu s hs, Empty.nu s hs⟩
theorem Fit.n1 : Fit (Oct.nu 1) := Fit.nu 1 (by omega)
theorem Fit.n2 : Fit (Oct.nu 2) := Fit.nu 2 (by omega)
theorem Fit.n4 : Fit (Oct.nu 4) := Fit.nu 4 (by omega)
theorem Fit.bnd {α β : Type} {F : St → α × St} {G : α → St → β × St} (hF : Fit F) (hG : ∀ x, Fit (G x)) : Fit (bnd F G) :=
  ⟨Nice.bnd hF.1 (fun x => (hG x).1) (fun m h => hF.2 (m, 0) (fun h => absurd rfl h) h), Empty.bnd hF.2 (fun x => (hG x).2)⟩
theorem tx_is (t : St) : tx t = bnd (nu 2) (fun (n : Int) (t : St) => if t.2 ≠ 0 then ([], t) else if t.1.length < n.toNat then ([], ([], 3)) else (t.1.take n.toNat, (t.1.drop n.toNat, 0))) t := by
  obtain ⟨m, e⟩ := t
  show textR m e = _
  unfold textR bnd nu
  simp only
theorem Fit.tx : Fit tx := by
  have e : Oct.tx = Oct.bnd (Oct.nu 2) (fun (n : Int) (t : St) => if t.2 ≠ 0 then ([], t) else if t.1.length < n.toNat then ([], ([], 3)) else (t.1.take n.toNat, (t.1.drop n.toNat, 0))) := funext tx_is
  rw [e]
  refine Fit.bnd Fit.n2 (fun n => ⟨⟨fun e he => by simp only [ne_eq, he, not_false_eq_true, if_true], fun m x m' h => ?_⟩, fun t h => ?_⟩)
  · simp only [ne_eq, not_true_eq_false, if_false] at h
    split at h
    · simp at h
    · rename_i hl
      simp only [Prod.mk.injEq, and_true] at h
      obtain ⟨rfl, rfl⟩ := h
      have ht : (m.take n.toNat).length = n.toNat := by rw [List.length_take]; omega
      refine ⟨m.take n.toNat, (List.take_append_drop _ m).symm, fun R => ?_, fun i hi => ?_⟩
      · simp only [ne_eq, not_true_eq_false, if_false]
        rw [if_neg (by rw [List.length_append, ht]; omega), List.take_append_of_le_length (by omega), List.take_of_length_le (by omega), List.drop_append_of_le_length (by omega), List.drop_of_length_le (by omega), List.nil_append]
      · simp only [ne_eq, not_true_eq_false, if_false]
        rw [if_pos (by rw [List.length_take]; omega)]
  · intro h2
    by_cases h3 : t.2 = 0
    · by_cases h4 : t.1.length < n.toNat
      · simp only [h3, ne_eq, not_true_eq_false, if_false, h4, if_true]
      · simp only [h3, ne_eq, not_true_eq_false, if_false, h4] at h2
    · simp only [ne_eq, h3, not_false_eq_true, if_true]
      exact h h3
theorem Fit.mask : Fit maskRd := Fit.bnd Fit.n1 fun _ => Fit.bnd Fit.n1 fun _ => Fit.bnd Fit.n1 fun _ => Fit.bnd Fit.n1 fun _ => Fit.bnd Fit.n1 fun _ => Fit.bnd Fit.n1 fun _ => Fit.bnd Fit.n1 fun _ => Fit.bnd Fit.n1 fun _ => Fit.rt _
theorem Fit.out : Fit outRd := Fit.bnd Fit.n1 fun _ => Fit.bnd Fit.n2 fun _ => Fit.bnd Fit.n2 fun _ => Fit.bnd Fit.n2 fun _ => Fit.rt _
theorem Fit.outs : ∀ n, Fit (outsRd n)
  | 0 => Fit.rt _
  | n + 1 => Fit.bnd (Fit.outs n) fun _ => Fit.bnd Fit.out fun _ => Fit.rt _
theorem Fit.rule : Fit ruleRd := Fit.bnd Fit.n1 fun k => Fit.bnd Fit.n2 fun _ => Fit.bnd Fit.n1 fun _ => Fit.bnd Fit.n1 fun _ => by
  split
  · exact Fit.bnd Fit.mask fun _ => Fit.bnd Fit.n1 fun _ => Fit.bnd (Fit.outs _) fun _ => Fit.rt _
  · exact Fit.rt _
theorem Fit.rest (k : Int) : Fit (restRd k) := by
  unfold restRd
  split
  · exact Fit.bnd Fit.rule fun _ => Fit.rt _
  split
  · exact Fit.bnd Fit.n1 fun _ => Fit.rt _
  split
  · exact Fit.bnd Fit.n1 fun _ => Fit.bnd Fit.n2 fun _ => Fit.rt _
  split
  · exact Fit.bnd Fit.n4 fun _ => Fit.rt _
  split
  · exact Fit.bnd Fit.n4 fun _ => Fit.bnd Fit.n2 fun _ => Fit.rt _
  split
  · exact Fit.bnd Fit.tx fun _ => Fit.rt _
  split
  · exact Fit.bnd Fit.n1 fun _ => Fit.bnd Fit.n1 fun _ => Fit.rt _
  · exact Fit.rt _
theorem Fit.ord : Fit ordRd := Fit.bnd Fit.n1 Fit.rest

/-- A match's bits are bytes. -/
def u8M (x : MaskV) : Prop := By [x.b0, x.b1, x.b2, x.i0, x.i1, x.i2]
theorem nu_piece (t : Nat) (ht : t = 1 ∨ t = 2 ∨ t = 4) (T : Int) (hT : T = t) (v : Int) (h : 0 ≤ v ∧ v < 2 ^ (8 * t)) (R : List Int) : nu T (dg t v ++ R, 0) = (v, (R, 0)) := by
  subst hT
  exact numR_piece t ht v h.1 h.2 R
theorem nu_byte (v : Int) (h : 0 ≤ v ∧ v < 256) (R : List Int) : nu 1 (v :: R, 0) = (v, (R, 0)) := by
  have := nu_piece 1 (by omega) 1 rfl v (by omega) R
  rw [show dg 1 v = [v] from by simp [dg]; omega] at this
  exact this
theorem okR_len {r : RuleV} (h : okR r) : r.os.length ≤ 8 := by
  rcases h with h | h
  · exact h.2.2.2.2.2.1
  · have := h.2.2.2.2.2; omega
theorem bnd_eq {α β : Type} {F : St → α × St} {G : α → St → β × St} {t t' : St} {x : α} (h : F t = (x, t')) : bnd F G t = G x t' := by unfold bnd; rw [h]
theorem rd_mask (x : MaskV) (hm : okM x) (h8 : u8M x) (R : List Int) : maskRd (maskB x ++ R, 0) = (x, (R, 0)) := by
  obtain ⟨v, m, b0, b1, b2, i0, i1, i2⟩ := x
  obtain ⟨⟨h1, h2⟩, ⟨h3, h4⟩, _⟩ := hm
  have hb := fun z hz => h8 z hz
  simp only [List.mem_cons, List.not_mem_nil, or_false, forall_eq_or_imp, forall_eq] at hb h1 h2 h3 h4
  obtain ⟨c0, c1, c2, d0, d1, d2⟩ := hb
  unfold maskB maskRd
  simp only [List.append_assoc, List.cons_append, List.nil_append]
  rw [bnd_eq (nu_piece 1 (by omega) 1 rfl v (by omega) _), bnd_eq (nu_piece 1 (by omega) 1 rfl (m + 1) (by omega) _), bnd_eq (nu_byte b0 c0 _), bnd_eq (nu_byte b1 c1 _), bnd_eq (nu_byte b2 c2 _), bnd_eq (nu_byte i0 d0 _), bnd_eq (nu_byte i1 d1 _), bnd_eq (nu_byte i2 d2 _)]
  rw [show m + 1 - 1 = m from by omega]
  rfl
theorem rd_out (o : OutV) (h : okO o) (R : List Int) : outRd (outB o ++ R, 0) = (o, (R, 0)) := by
  obtain ⟨p, a, b, c⟩ := o
  obtain ⟨⟨h1, h2⟩, ⟨h3, h4⟩, ⟨h5, h6⟩, ⟨h7, h8⟩⟩ := h
  simp only at h1 h2 h3 h4 h5 h6 h7 h8
  unfold outB outRd
  simp only [List.append_assoc]
  rw [bnd_eq (nu_piece 1 (by omega) 1 rfl p (by omega) _), bnd_eq (nu_piece 2 (by omega) 2 rfl (a + 1) (by omega) _), bnd_eq (nu_piece 2 (by omega) 2 rfl (b + 1) (by omega) _), bnd_eq (nu_piece 2 (by omega) 2 rfl (c + 1) (by omega) _)]
  rw [show a + 1 - 1 = a from by omega, show b + 1 - 1 = b from by omega, show c + 1 - 1 = c from by omega]
  rfl
theorem rd_outs : ∀ (n : Nat) (os : List OutV) (_ : os.length = n) (_ : ∀ o ∈ os, okO o) (R : List Int), outsRd n (os.flatMap outB ++ R, 0) = (os, (R, 0))
  | 0, os, h, _, R => by
    obtain rfl := List.eq_nil_of_length_eq_zero h
    rfl
  | n + 1, os, h, ho, R => by
    obtain ⟨o, pre, rfl⟩ : ∃ o pre, os = pre ++ [o] := ⟨os.getLast (by intro e; subst e; simp at h), os.dropLast, (List.dropLast_concat_getLast _).symm⟩
    rw [List.flatMap_append, List.append_assoc]
    show bnd (outsRd n) _ _ = _
    rw [bnd_eq (rd_outs n pre (by simpa using h) (fun o ho' => ho o (by simp [ho'])) _)]
    simp only [List.flatMap_cons, List.flatMap_nil, List.append_nil]
    rw [bnd_eq (rd_out o (ho o (by simp)) R)]
    rfl
theorem rd_rule (r : RuleV) (h : okR r) (h8 : u8M r.x) (R : List Int) : ruleRd (ruleB r ++ R, 0) = (r, (R, 0)) := by
  have hl := okR_len h
  obtain ⟨k, pr, to, po, x, os⟩ := r
  unfold ruleB ruleRd
  simp only [List.append_assoc]
  rcases h with ⟨h1, ⟨h2, h3⟩, h4, h5, hm, _, ho⟩ | ⟨h1, ⟨h2, h3⟩, ⟨h4, h5⟩, h6, hm, ho⟩
  · simp only at h1 h2 h3 h4 h5 hm ho hl
    subst h1 h4 h5
    rw [bnd_eq (nu_piece 1 (by omega) 1 rfl 1 (by omega) _), bnd_eq (nu_piece 2 (by omega) 2 rfl pr (by omega) _), bnd_eq (nu_piece 1 (by omega) 1 rfl 0 (by omega) _), bnd_eq (nu_piece 1 (by omega) 1 rfl 0 (by omega) _)]
    rw [if_pos rfl, if_pos rfl]
    unfold dataB
    simp only [List.append_assoc]
    rw [bnd_eq (rd_mask x hm h8 _), bnd_eq (nu_piece 1 (by omega) 1 rfl _ (by omega) _), Int.toNat_natCast, bnd_eq (rd_outs _ os rfl ho R)]
    rfl
  · simp only at h1 h2 h3 h4 h5 h6 hm ho
    subst h1 h6
    rw [bnd_eq (nu_piece 1 (by omega) 1 rfl 2 (by omega) _), bnd_eq (nu_piece 2 (by omega) 2 rfl 0 (by omega) _), bnd_eq (nu_piece 1 (by omega) 1 rfl to (by omega) _), bnd_eq (nu_piece 1 (by omega) 1 rfl po (by omega) _)]
    rw [if_neg (by omega), if_neg (by omega)]
    obtain rfl := List.eq_nil_of_length_eq_zero ho
    obtain ⟨v, m, b0, b1, b2, i0, i1, i2⟩ := x
    obtain ⟨e1, e2, e3, e4, e5, e6, e7, e8⟩ := hm
    simp only at e1 e2 e3 e4 e5 e6 e7 e8
    subst e1 e2 e3 e4 e5 e6 e7 e8
    rfl
theorem zeroR_eq {r : RuleV} (h : zeroR r) : r = noRule := by
  obtain ⟨k, pr, to, po, ⟨v, m, b0, b1, b2, i0, i1, i2⟩, os⟩ := r
  obtain ⟨h1, h2, h3, h4, ⟨e1, e2, e3, e4, e5, e6, e7, e8⟩, h5⟩ := h
  simp only at h1 h2 h3 h4 h5 e1 e2 e3 e4 e5 e6 e7 e8
  obtain rfl := List.eq_nil_of_length_eq_zero h5
  subst h1 h2 h3 h4 e1 e2 e3 e4 e5 e6 e7 e8
  rfl
theorem restRd_r {k : Int} (h : k = 2 ∨ k = 3) : restRd k = bnd ruleRd fun r => rt { noOrd with k := k, r := r } := if_pos h
theorem restRd_4 : restRd 4 = bnd (nu 1) fun n => rt { noOrd with k := 4, n := n } := by unfold restRd; rw [if_neg (by omega), if_pos rfl]
theorem restRd_5 : restRd 5 = bnd (nu 1) fun n => bnd (nu 2) fun m => rt { noOrd with k := 5, n := n, m := m } := by unfold restRd; rw [if_neg (by omega), if_neg (by omega), if_pos rfl]
theorem restRd_6 : restRd 6 = bnd (nu 4) fun n => rt { noOrd with k := 6, n := n } := by unfold restRd; rw [if_neg (by omega), if_neg (by omega), if_neg (by omega), if_pos rfl]
theorem restRd_7 : restRd 7 = bnd (nu 4) fun n => bnd (nu 2) fun m => rt { noOrd with k := 7, n := n, m := m } := by unfold restRd; rw [if_neg (by omega), if_neg (by omega), if_neg (by omega), if_neg (by omega), if_pos rfl]
theorem restRd_8 : restRd 8 = bnd tx fun b => rt { noOrd with k := 8, f := (parseQ b).1.1, p := (parseQ b).1.2.1, t := (parseQ b).1.2.2.1, q := (parseQ b).1.2.2.2.1, z := (parseQ b).1.2.2.2.2 } := by
  unfold restRd; rw [if_neg (by omega), if_neg (by omega), if_neg (by omega), if_neg (by omega), if_neg (by omega), if_pos rfl]
theorem restRd_9 : restRd 9 = bnd (nu 1) fun n => bnd (nu 1) fun m => rt { noOrd with k := 9, n := n, m := m } := by
  unfold restRd; rw [if_neg (by omega), if_neg (by omega), if_neg (by omega), if_neg (by omega), if_neg (by omega), if_neg (by omega), if_pos rfl]
theorem restRd_no {k : Int} (h : k < 2 ∨ 9 < k) : restRd k = rt { noOrd with k := k } := by
  unfold restRd; rw [if_neg (by omega), if_neg (by omega), if_neg (by omega), if_neg (by omega), if_neg (by omega), if_neg (by omega), if_neg (by omega)]
section
variable {o : OrdV}
theorem restB_r (h : o.k = 2 ∨ o.k = 3) : restB o = ruleB o.r := if_pos h
theorem restB_1 (h : o.k = 1) : restB o = [] := by simp [restB, h]
theorem restB_4 (h : o.k = 4) : restB o = dg 1 o.n := by simp [restB, h]
theorem restB_5 (h : o.k = 5) : restB o = dg 1 o.n ++ dg 2 o.m := by simp [restB, h]
theorem restB_6 (h : o.k = 6) : restB o = dg 4 o.n := by simp [restB, h]
theorem restB_7 (h : o.k = 7) : restB o = dg 4 o.n ++ dg 2 o.m := by simp [restB, h]
theorem restB_8 (h : o.k = 8) : restB o = dg 2 9 ++ frm 2 (qB o.f o.p o.t o.q o.z) := by simp [restB, h]
theorem restB_9 (h : o.k = 9) : restB o = dg 1 o.n ++ dg 1 o.m := by simp [restB, h]
end
theorem rd_rest (o : OrdV) (h : okOrd o) (h8 : u8M o.r.x) (R : List Int) : restRd o.k (restB o ++ R, 0) = (o, (R, 0)) := by
  obtain ⟨k, n, m, r, f, p, t, q, z⟩ := o
  obtain ⟨hn, hr, hp⟩ := h
  unfold okNM okRu okPr zeroQ at *
  simp only [within] at hn hr hp h8 ⊢
  rcases hn with ⟨rfl, rfl, rfl⟩ | ⟨rfl, rfl, rfl⟩ | ⟨rfl, rfl, rfl⟩ | ⟨rfl, hn, rfl⟩ | ⟨rfl, hn, hm⟩ | ⟨rfl, hn, rfl⟩ | ⟨rfl, hn, hm⟩ | ⟨rfl, rfl, rfl⟩ | ⟨rfl, hn, hm⟩
  · rw [if_neg (by omega)] at hr hp
    obtain ⟨rfl, rfl, rfl, rfl, rfl⟩ := hp
    rw [zeroR_eq hr, restRd_no (by omega), restB_1 rfl]
    rfl
  · rw [if_pos (by omega)] at hr
    rw [if_neg (by omega)] at hp
    obtain ⟨rfl, rfl, rfl, rfl, rfl⟩ := hp
    rw [restRd_r (by omega), restB_r (by simp), bnd_eq (rd_rule r hr h8 R)]
    rfl
  · rw [if_pos (by omega)] at hr
    rw [if_neg (by omega)] at hp
    obtain ⟨rfl, rfl, rfl, rfl, rfl⟩ := hp
    rw [restRd_r (by omega), restB_r (by simp), bnd_eq (rd_rule r hr h8 R)]
    rfl
  · rw [if_neg (by omega)] at hr hp
    obtain ⟨rfl, rfl, rfl, rfl, rfl⟩ := hp
    rw [zeroR_eq hr]
    rw [restRd_4, restB_4 rfl]
    rw [bnd_eq (nu_piece 1 (by omega) 1 rfl n (by omega) _)]
    rfl
  · rw [if_neg (by omega)] at hr hp
    obtain ⟨rfl, rfl, rfl, rfl, rfl⟩ := hp
    rw [zeroR_eq hr]
    rw [restRd_5, restB_5 rfl]
    rw [List.append_assoc, bnd_eq (nu_piece 1 (by omega) 1 rfl n (by omega) _), bnd_eq (nu_piece 2 (by omega) 2 rfl m (by omega) _)]
    rfl
  · rw [if_neg (by omega)] at hr hp
    obtain ⟨rfl, rfl, rfl, rfl, rfl⟩ := hp
    rw [zeroR_eq hr]
    rw [restRd_6, restB_6 rfl]
    rw [bnd_eq (nu_piece 4 (by omega) 4 rfl n (by omega) _)]
    rfl
  · rw [if_neg (by omega)] at hr hp
    obtain ⟨rfl, rfl, rfl, rfl, rfl⟩ := hp
    rw [zeroR_eq hr]
    rw [restRd_7, restB_7 rfl]
    rw [List.append_assoc, bnd_eq (nu_piece 4 (by omega) 4 rfl n (by omega) _), bnd_eq (nu_piece 2 (by omega) 2 rfl m (by omega) _)]
    rfl
  · rw [if_neg (by omega)] at hr
    rw [if_pos rfl] at hp
    rw [zeroR_eq hr]
    rw [restRd_8, restB_8 rfl]
    have e9 : (frm 2 (qB f p t q z)).length = 9 := by rw [frm_len, qB_len]
    have et : tx ((dg 2 9 ++ frm 2 (qB f p t q z)) ++ R, 0) = (frm 2 (qB f p t q z), (R, 0)) := by
      have := textR_piece (frm 2 (qB f p t q z)) R (by omega)
      rw [e9] at this
      exact this
    rw [bnd_eq et, parseQ_bytes hp.1]
    rfl
  · rw [if_neg (by omega)] at hr hp
    obtain ⟨rfl, rfl, rfl, rfl, rfl⟩ := hp
    rw [zeroR_eq hr]
    rw [restRd_9, restB_9 rfl]
    rw [List.append_assoc, bnd_eq (nu_piece 1 (by omega) 1 rfl n (by omega) _), bnd_eq (nu_piece 1 (by omega) 1 rfl m (by omega) _)]
    rfl
theorem okNM_k {o : OrdV} (h : okNM o) : 1 ≤ o.k ∧ o.k ≤ 9 := by unfold okNM at h; omega
theorem rd_ord (o : OrdV) (h : okOrd o) (h8 : u8M o.r.x) (R : List Int) : ordRd (ordB o ++ R, 0) = (o, (R, 0)) := by
  have := okNM_k h.1
  unfold ordB ordRd
  rw [List.append_assoc, bnd_eq (nu_piece 1 (by omega) 1 rfl o.k (by omega) _)]
  exact rd_rest o h h8 R
/-- What has bytes is read of them as it was. -/
theorem parseO_bytes {o : OrdV} (h : okOrd o) (h8 : u8M o.r.x) : parseO (ordB o) = (o, 0) := by
  have := rd_ord o h h8 []
  rw [List.append_nil] at this
  unfold parseO
  rw [this, if_neg (by simp), if_pos ⟨rfl, h⟩]
/-- Cut anywhere they end too early; with more behind them they are none's. -/
theorem parseO_cut {o : OrdV} (h : okOrd o) (h8 : u8M o.r.x) (i : Nat) (hi : i < (ordB o).length) : (parseO ((ordB o).take i)).2 = 3 := by
  have := rd_ord o h h8 []
  rw [List.append_nil] at this
  obtain ⟨l, e, _, hc⟩ := Fit.ord.1.2 _ _ _ this
  rw [List.append_nil] at e
  subst e
  have := hc i hi
  unfold parseO
  rw [this, if_pos (by simp)]
theorem parseO_more {o : OrdV} (h : okOrd o) (h8 : u8M o.r.x) (R : List Int) (hR : R ≠ []) : parseO (ordB o ++ R) = (noOrd, 4) := by
  unfold parseO
  rw [rd_ord o h h8 R, if_neg (by simp), if_neg (fun hh => hR (List.eq_nil_of_length_eq_zero hh.1))]
end Go.Proofs.Ytmigpmhppapkmaa.Oct
