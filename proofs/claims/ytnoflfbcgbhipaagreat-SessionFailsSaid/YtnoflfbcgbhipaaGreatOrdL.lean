import Derived.Test.YtnoflfbcgbhipaaGreatOctZ
import Derived.RangeFuncNested
import Derived.RangeFuncCalls
import Derived.OrdersHeld
import Derived.OrdersIn
import Derived.Deep.RegionHeld
import Derived.Test.YtnoflfbcgbhipaaGreatVst
import Derived.ChangeKeysEq
import Derived.Deep.Cut
import Derived.BigQuiet
import Derived.Laws.Rows
set_option linter.unusedVariables false
namespace Go.Proofs.YtnoflfbcgbhipaaGreat.Oct
open Go.RowKit
def dB (v h i a b c : Int) : List Int := dg 1 v ++ (dg 1 h ++ (dg 4 i ++ (dg 1 a ++ (dg 1 b ++ dg 1 c))))
def r1 (l : List Int) := numR 1 l 0
def r2 (l : List Int) := numR 1 (r1 l).2.1 (r1 l).2.2
def r3 (l : List Int) := numR 4 (r2 l).2.1 (r2 l).2.2
def r4 (l : List Int) := numR 1 (r3 l).2.1 (r3 l).2.2
theorem one_piece (v : Int) (h : 0 ≤ v ∧ v < 256) (R : List Int) : numR 1 (dg 1 v ++ R) 0 = (v, R, 0) := numR_piece 1 (by omega) v h.1 (by omega) R
theorem four_piece (v : Int) (h : 0 ≤ v ∧ v < 4294967296) (R : List Int) : numR 4 (dg 4 v ++ R) 0 = (v, R, 0) := numR_piece 4 (by omega) v h.1 (by omega) R
theorem nine (l : List Int) (hl : By l) (h9 : l.length = 9) : ∃ v h i a b c : Int, l = dB v h i a b c ∧ (0 ≤ v ∧ v < 256) ∧ (0 ≤ h ∧ h < 256) ∧ (0 ≤ i ∧ i < 4294967296) ∧ (0 ≤ a ∧ a < 256) ∧ (0 ≤ b ∧ b < 256) ∧ (0 ≤ c ∧ c < 256) := by
 obtain ⟨x0, l, rfl⟩ := List.exists_cons_of_length_eq_add_one (n := 8) h9
 obtain ⟨x1, l, rfl⟩ := List.exists_cons_of_length_eq_add_one (n := 7) (by simpa using h9)
 obtain ⟨x2, l, rfl⟩ := List.exists_cons_of_length_eq_add_one (n := 6) (by simpa using h9)
 obtain ⟨x3, l, rfl⟩ := List.exists_cons_of_length_eq_add_one (n := 5) (by simpa using h9)
 obtain ⟨x4, l, rfl⟩ := List.exists_cons_of_length_eq_add_one (n := 4) (by simpa using h9)
 obtain ⟨x5, l, rfl⟩ := List.exists_cons_of_length_eq_add_one (n := 3) (by simpa using h9)
 obtain ⟨x6, l, rfl⟩ := List.exists_cons_of_length_eq_add_one (n := 2) (by simpa using h9)
 obtain ⟨x7, l, rfl⟩ := List.exists_cons_of_length_eq_add_one (n := 1) (by simpa using h9)
 obtain ⟨x8, l, rfl⟩ := List.exists_cons_of_length_eq_add_one (n := 0) (by simpa using h9)
 obtain rfl : l = [] := List.eq_nil_of_length_eq_zero (by simpa using h9)
 have h0 := hl x0 (by simp)
 have h1 := hl x1 (by simp)
 have h2 := hl x2 (by simp)
 have h3 := hl x3 (by simp)
 have h4 := hl x4 (by simp)
 have h5 := hl x5 (by simp)
 refine ⟨x0, x1, x2 * 16777216 + x3 * 65536 + x4 * 256 + x5, x6, x7, x8, ?_, h0, h1, by omega, hl x6 (by simp), hl x7 (by simp), hl x8 (by simp)⟩
 have h6 := hl x6 (by simp)
 have h7 := hl x7 (by simp)
 have h8 := hl x8 (by simp)
 simp [dB, dg]
 omega
def okD (v h i : Int) : Prop := (0 ≤ v ∧ v ≤ 200) ∧ (0 ≤ h ∧ h ≤ 12) ∧ (0 ≤ i ∧ i ≤ 4294967295)
instance (v h i : Int) : Decidable (okD v h i) := by unfold okD; infer_instance
section
variable {v h i a b c : Int}
end
def okQ (f p t q n : Int) : Prop := (1 ≤ f ∧ f ≤ 6) ∧ (1 ≤ p ∧ p ≤ 4) ∧ ((t = 0 ∧ q = 0) ∨ ((1 ≤ t ∧ t ≤ 6) ∧ (1 ≤ q ∧ q ≤ 4))) ∧ (0 ≤ n ∧ n ≤ 65535)
instance (f p t q n : Int) : Decidable (okQ f p t q n) := by unfold okQ; infer_instance
def qB (f p t q n : Int) : List Int := dg 1 f ++ (dg 1 p ++ (dg 1 t ++ (dg 1 q ++ dg 2 n)))
theorem qB_by (f p t q n : Int) : By (qB f p t q n) := (dg_by _ _).append ((dg_by _ _).append ((dg_by _ _).append ((dg_by _ _).append (dg_by _ _))))
theorem qB_len (f p t q n : Int) : (qB f p t q n).length = 6 := by simp [qB, dg_len]
def checkQ (f p t q n : Int) : Int := if okQ f p t q n then 0 else 2
def bytesQ (f p t q n : Int) : List Int × Int := if okQ f p t q n then (frm 2 (qB f p t q n), 0) else ([], 2)
theorem checkQ_zero (f p t q n : Int) : checkQ f p t q n = 0 ↔ okQ f p t q n := by
 unfold checkQ
 split
 ·rename_i h; exact ⟨fun _ => h, fun _ => rfl⟩
 ·rename_i h; exact ⟨fun e => by omega, fun e => absurd e h⟩
theorem bytesQ_by (f p t q n : Int) : By (bytesQ f p t q n).1 := by
 unfold bytesQ
 split
 ·exact frm_by 2 _ (by omega) (qB_by _ _ _ _ _)
 ·exact By.nil
theorem bytesQ_ok {f p t q n : Int} (ok : okQ f p t q n) : bytesQ f p t q n = sealP 2 (qB f p t q n) := by
 unfold bytesQ
 rw [if_pos ok, seal_frm 2 _ (by omega) (qB_by _ _ _ _ _) (by rw [qB_len]; omega)]
def s1 (l : List Int) := numR 1 l 0
def s2 (l : List Int) := numR 1 (s1 l).2.1 (s1 l).2.2
def s3 (l : List Int) := numR 1 (s2 l).2.1 (s2 l).2.2
def s4 (l : List Int) := numR 1 (s3 l).2.1 (s3 l).2.2
def s5 (l : List Int) := numR 2 (s4 l).2.1 (s4 l).2.2
theorem two_piece (v : Int) (h : 0 ≤ v ∧ v < 65536) (R : List Int) : numR 2 (dg 2 v ++ R) 0 = (v, R, 0) := numR_piece 2 (by omega) v h.1 (by omega) R
theorem read_qB (f p t q n : Int) (hf : 0 ≤ f ∧ f < 256) (hp : 0 ≤ p ∧ p < 256) (ht : 0 ≤ t ∧ t < 256) (hq : 0 ≤ q ∧ q < 256) (hn : 0 ≤ n ∧ n < 65536) (R : List Int) :
  let l := qB f p t q n ++ R
  (s1 l).1 = f ∧ (s2 l).1 = p ∧ (s3 l).1 = t ∧ (s4 l).1 = q ∧ s5 l = (n, R, 0) := by
 intro l
 have e : l = dg 1 f ++ (dg 1 p ++ (dg 1 t ++ (dg 1 q ++ (dg 2 n ++ R)))) := by simp [l, qB, List.append_assoc]
 have e1 : s1 l = (f, dg 1 p ++ (dg 1 t ++ (dg 1 q ++ (dg 2 n ++ R))), 0) := by rw [e]; exact one_piece f hf _
 have e2 : s2 l = (p, dg 1 t ++ (dg 1 q ++ (dg 2 n ++ R)), 0) := by unfold s2; rw [e1]; exact one_piece p hp _
 have e3 : s3 l = (t, dg 1 q ++ (dg 2 n ++ R), 0) := by unfold s3; rw [e2]; exact one_piece t ht _
 have e4 : s4 l = (q, dg 2 n ++ R, 0) := by unfold s4; rw [e3]; exact one_piece q hq _
 have e5 : s5 l = (n, R, 0) := by unfold s5; rw [e4]; exact two_piece n hn _
 rw [e1, e2, e3, e4]
 exact ⟨rfl, rfl, rfl, rfl, e5⟩
def parseQ (l : List Int) : (Int × Int × Int × Int × Int) × Int :=
 if (openP l).2.2 ≠ 0 then ((0, 0, 0, 0, 0), (openP l).2.2)
 else if (openP l).1 = 2 ∧ ((s5 (openP l).2.1).2.2 = 0 ∧ (s5 (openP l).2.1).2.1.length = 0) ∧ okQ (s1 (openP l).2.1).1 (s2 (openP l).2.1).1 (s3 (openP l).2.1).1 (s4 (openP l).2.1).1 (s5 (openP l).2.1).1 then
  (((s1 (openP l).2.1).1, (s2 (openP l).2.1).1, (s3 (openP l).2.1).1, (s4 (openP l).2.1).1, (s5 (openP l).2.1).1), 0)
 else ((0, 0, 0, 0, 0), 4)
section
variable {f p t q n : Int}
theorem okQ_open (ok : okQ f p t q n) : openP (frm 2 (qB f p t q n)) = (2, qB f p t q n, 0) :=
 open_frm 2 _ (by omega) (qB_by _ _ _ _ _) (by rw [qB_len]; omega)
theorem parseQ_bytes (ok : okQ f p t q n) : parseQ (frm 2 (qB f p t q n)) = ((f, p, t, q, n), 0) := by
 have ok' := ok
 unfold okQ at ok'
 have e := read_qB f p t q n (by omega) (by omega) (by omega) (by omega) (by omega) []
 simp only [List.append_nil] at e
 obtain ⟨e1, e2, e3, e4, e5⟩ := e
 unfold parseQ
 rw [okQ_open ok, if_neg (by simp)]
 simp only [e1, e2, e3, e4, e5]
 rw [if_pos ⟨trivial, ⟨trivial, rfl⟩, ok⟩]
end
theorem parseQ_no {l : List Int} (h : (openP l).2.2 ≠ 0) : parseQ l = ((0, 0, 0, 0, 0), (openP l).2.2) := if_pos h
theorem openQ_len (l : List Int) : (openP l).2.1.length ≤ 509 := by
 unfold openP
 split
 ·simp
 ·split
  ·simp
  ·split
   ·simp only [List.length_take]; omega
   ·simp
theorem endQ_zero (l : List Int) (e : Int) : endR l e = 0 ↔ (e = 0 ∧ l.length = 0) := by
 unfold endR
 split
 ·constructor
  ·intro h; omega
  ·rintro ⟨_, h⟩; omega
 ·constructor
  ·intro h; exact ⟨h, by omega⟩
  ·rintro ⟨h, _⟩; exact h
def fineQ (k : Int) (m : List Int) : Prop := k = 2 ∧ endR (s5 m).2.1 (s5 m).2.2 = 0 ∧ checkQ (s1 m).1 (s2 m).1 (s3 m).1 (s4 m).1 (s5 m).1 = 0
theorem parseQ_yes {l : List Int} (h : (openP l).2.2 = 0) (hf : fineQ (openP l).1 (openP l).2.1) :
  parseQ l = (((s1 (openP l).2.1).1, (s2 (openP l).2.1).1, (s3 (openP l).2.1).1, (s4 (openP l).2.1).1, (s5 (openP l).2.1).1), 0) := by
 unfold parseQ
 obtain ⟨h1, h2, h3⟩ := hf
 rw [if_neg (by simpa using h), if_pos ⟨h1, (endQ_zero _ _).1 h2, (checkQ_zero _ _ _ _ _).1 h3⟩]
theorem parseQ_form {l : List Int} (h : (openP l).2.2 = 0) (hf : ¬ fineQ (openP l).1 (openP l).2.1) : parseQ l = ((0, 0, 0, 0, 0), 4) := by
 unfold parseQ
 rw [if_neg (by simpa using h), if_neg (fun ⟨h1, h2, h3⟩ => hf ⟨h1, (endQ_zero _ _).2 h2, (checkQ_zero _ _ _ _ _).2 h3⟩)]
theorem num1_bd (l : List Int) (e : Int) (h : By l) : 0 ≤ (numR 1 l e).1 ∧ (numR 1 l e).1 < 256 := by
 unfold numR
 split
 ·exact ⟨by simp, by simp⟩
 ·split
  ·split
   ·exact ⟨by simp, by simp⟩
   ·have := num_lt (l.take (1 : Int).toNat) (h.take _)
    have h2 : (l.take (1 : Int).toNat).length ≤ 1 := by rw [List.length_take]; simp; omega
    have h3 : 256 ^ (l.take (1 : Int).toNat).length ≤ 256 ^ 1 := Nat.pow_le_pow_right (by omega) h2
    exact ⟨by simp, by have e0 : (Int.toNat 1) = 1 := rfl; rw [e0] at this h3 ⊢; omega⟩
  ·exact ⟨by simp, by simp⟩
structure OutV where
 p : Int
 a : Int
 b : Int
 c : Int
structure MaskV where
 v : Int
 m : Int
 b0 : Int
 b1 : Int
 b2 : Int
 i0 : Int
 i1 : Int
 i2 : Int
structure RuleV where
 k : Int
 pr : Int
 to : Int
 po : Int
 x : MaskV
 os : List OutV
structure OrdV where
 k : Int
 n : Int
 m : Int
 r : RuleV
 f : Int
 p : Int
 t : Int
 q : Int
 z : Int
def noMask : MaskV := ⟨0, 0, 0, 0, 0, 0, 0, 0⟩
def noRule : RuleV := ⟨0, 0, 0, 0, noMask, []⟩
def noOrd : OrdV := ⟨0, 0, 0, noRule, 0, 0, 0, 0, 0⟩
def within (n a b : Int) : Prop := a ≤ n ∧ n ≤ b
instance (n a b : Int) : Decidable (within n a b) := by unfold within; infer_instance
def clr (i b : Int) : Int := bits .andNot .u8 i b
def okM (x : MaskV) : Prop := within x.v 0 200 ∧ within x.m (-1) 4 ∧ clr x.i0 x.b0 = 0 ∧ clr x.i1 x.b1 = 0 ∧ clr x.i2 x.b2 = 0
def zeroM (x : MaskV) : Prop := x.v = 0 ∧ x.m = 0 ∧ x.b0 = 0 ∧ x.b1 = 0 ∧ x.b2 = 0 ∧ x.i0 = 0 ∧ x.i1 = 0 ∧ x.i2 = 0
def okO (o : OutV) : Prop := within o.p 0 4 ∧ within o.a (-1) 255 ∧ within o.b (-1) 255 ∧ within o.c (-1) 255
instance (x : MaskV) : Decidable (okM x) := by unfold okM; infer_instance
instance (x : MaskV) : Decidable (zeroM x) := by unfold zeroM; infer_instance
instance (o : OutV) : Decidable (okO o) := by unfold okO; infer_instance
def okData (r : RuleV) : Prop := r.k = 1 ∧ within r.pr 0 65535 ∧ r.to = 0 ∧ r.po = 0 ∧ okM r.x ∧ r.os.length ≤ 8 ∧ ∀ o ∈ r.os, okO o
def okCtl (r : RuleV) : Prop := r.k = 2 ∧ within r.to 0 6 ∧ within r.po 0 4 ∧ r.pr = 0 ∧ zeroM r.x ∧ r.os.length = 0
def zeroR (r : RuleV) : Prop := r.k = 0 ∧ r.pr = 0 ∧ r.to = 0 ∧ r.po = 0 ∧ zeroM r.x ∧ r.os.length = 0
instance (r : RuleV) : Decidable (okData r) := by unfold okData; infer_instance
instance (r : RuleV) : Decidable (okCtl r) := by unfold okCtl; infer_instance
instance (r : RuleV) : Decidable (zeroR r) := by unfold zeroR; infer_instance
def okR (r : RuleV) : Prop := okData r ∨ okCtl r
instance (r : RuleV) : Decidable (okR r) := by unfold okR; infer_instance
def zeroQ (o : OrdV) : Prop := o.f = 0 ∧ o.p = 0 ∧ o.t = 0 ∧ o.q = 0 ∧ o.z = 0
instance (o : OrdV) : Decidable (zeroQ o) := by unfold zeroQ; infer_instance
def okNM (o : OrdV) : Prop :=
 (o.k = 1 ∧ o.n = 0 ∧ o.m = 0) ∨ (o.k = 2 ∧ o.n = 0 ∧ o.m = 0) ∨ (o.k = 3 ∧ o.n = 0 ∧ o.m = 0) ∨ (o.k = 4 ∧ within o.n 0 200 ∧ o.m = 0) ∨ (o.k = 5 ∧ within o.n 1 4 ∧ within o.m 0 65535) ∨
 (o.k = 6 ∧ within o.n 0 4294967295 ∧ o.m = 0) ∨ (o.k = 7 ∧ within o.n 0 4294967295 ∧ within o.m 0 65535) ∨ (o.k = 8 ∧ o.n = 0 ∧ o.m = 0) ∨ (o.k = 9 ∧ within o.n 1 4 ∧ within o.m 0 1)
instance (o : OrdV) : Decidable (okNM o) := by unfold okNM; infer_instance
def okRu (o : OrdV) : Prop := if o.k = 2 ∨ o.k = 3 then okR o.r else zeroR o.r
def okPr (o : OrdV) : Prop := if o.k = 8 then okQ o.f o.p o.t o.q o.z ∧ o.t ≠ 0 else zeroQ o
instance (o : OrdV) : Decidable (okRu o) := by unfold okRu; infer_instance
instance (o : OrdV) : Decidable (okPr o) := by unfold okPr; infer_instance
def okOrd (o : OrdV) : Prop := okNM o ∧ okRu o ∧ okPr o
instance (o : OrdV) : Decidable (okOrd o) := by unfold okOrd; infer_instance
def checkM (x : MaskV) : Int := if okM x then 0 else 2
def checkR (r : RuleV) : Int := if okR r then 0 else 2
def checkO (o : OrdV) : Int := if okOrd o then 0 else 2
def outB (o : OutV) : List Int := dg 1 o.p ++ (dg 2 (o.a + 1) ++ (dg 2 (o.b + 1) ++ dg 2 (o.c + 1)))
def maskB (x : MaskV) : List Int := dg 1 x.v ++ (dg 1 (x.m + 1) ++ ([x.b0, x.b1, x.b2] ++ [x.i0, x.i1, x.i2]))
def dataB (r : RuleV) : List Int := maskB r.x ++ (dg 1 (r.os.length : Nat) ++ r.os.flatMap outB)
def ruleB (r : RuleV) : List Int := dg 1 r.k ++ (dg 2 r.pr ++ (dg 1 r.to ++ (dg 1 r.po ++ (if r.k = 1 then dataB r else []))))
def restB (o : OrdV) : List Int :=
 if o.k = 2 ∨ o.k = 3 then ruleB o.r else if o.k = 4 then dg 1 o.n else if o.k = 5 then dg 1 o.n ++ dg 2 o.m else if o.k = 6 then dg 4 o.n else if o.k = 7 then dg 4 o.n ++ dg 2 o.m else
 if o.k = 8 then dg 2 9 ++ frm 2 (qB o.f o.p o.t o.q o.z) else if o.k = 9 then dg 1 o.n ++ dg 1 o.m else []
def ordB (o : OrdV) : List Int := dg 1 o.k ++ restB o
def bytesO (o : OrdV) : List Int × Int := if okOrd o then (ordB o, 0) else ([], 2)
abbrev St := List Int × Int
def nu (s : Int) (t : St) : Int × St := numR s t.1 t.2
def tx (t : St) : List Int × St := textR t.1 t.2
def bnd {α β : Type} (F : St → α × St) (G : α → St → β × St) (t : St) : β × St := G (F t).1 (F t).2
def rt {α : Type} (x : α) (t : St) : α × St := (x, t)
def maskRd : St → MaskV × St := bnd (nu 1) fun v => bnd (nu 1) fun m => bnd (nu 1) fun b0 => bnd (nu 1) fun b1 => bnd (nu 1) fun b2 => bnd (nu 1) fun i0 => bnd (nu 1) fun i1 => bnd (nu 1) fun i2 => rt ⟨v, m - 1, b0, b1, b2, i0, i1, i2⟩
def outRd : St → OutV × St := bnd (nu 1) fun p => bnd (nu 2) fun a => bnd (nu 2) fun b => bnd (nu 2) fun c => rt ⟨p, a - 1, b - 1, c - 1⟩
def outsRd : Nat → St → List OutV × St
 | 0 => rt []
 | n + 1 => bnd (outsRd n) fun os => bnd outRd fun o => rt (os ++ [o])
def ruleRd : St → RuleV × St := bnd (nu 1) fun k => bnd (nu 2) fun pr => bnd (nu 1) fun to => bnd (nu 1) fun po =>
 if k = 1 then bnd maskRd fun x => bnd (nu 1) fun n => bnd (outsRd n.toNat) fun os => rt ⟨k, pr, to, po, x, os⟩ else rt ⟨k, pr, to, po, noMask, []⟩
def restRd (k : Int) : St → OrdV × St :=
 if k = 2 ∨ k = 3 then bnd ruleRd fun r => rt { noOrd with k := k, r := r } else if k = 4 then bnd (nu 1) fun n => rt { noOrd with k := k, n := n } else
 if k = 5 then bnd (nu 1) fun n => bnd (nu 2) fun m => rt { noOrd with k := k, n := n, m := m } else if k = 6 then bnd (nu 4) fun n => rt { noOrd with k := k, n := n } else
 if k = 7 then bnd (nu 4) fun n => bnd (nu 2) fun m => rt { noOrd with k := k, n := n, m := m } else
 if k = 8 then bnd tx fun b => rt { noOrd with k := k, f := (parseQ b).1.1, p := (parseQ b).1.2.1, t := (parseQ b).1.2.2.1, q := (parseQ b).1.2.2.2.1, z := (parseQ b).1.2.2.2.2 } else
 if k = 9 then bnd (nu 1) fun n => bnd (nu 1) fun m => rt { noOrd with k := k, n := n, m := m } else rt { noOrd with k := k }
def ordRd : St → OrdV × St := bnd (nu 1) restRd
def parseO (l : List Int) : OrdV × Int :=
 if (ordRd (l, 0)).2.2 ≠ 0 then (noOrd, (ordRd (l, 0)).2.2) else if (ordRd (l, 0)).2.1.length = 0 ∧ okOrd (ordRd (l, 0)).1 then ((ordRd (l, 0)).1, 0) else (noOrd, 4)
def u8M (x : MaskV) : Prop := By [x.b0, x.b1, x.b2, x.i0, x.i1, x.i2]
theorem nu_piece (t : Nat) (ht : t = 1 ∨ t = 2 ∨ t = 4) (T : Int) (hT : T = t) (v : Int) (h : 0 ≤ v ∧ v < 2 ^ (8 * t)) (R : List Int) : nu T (dg t v ++ R, 0) = (v, (R, 0)) := by
 subst hT
 exact numR_piece t ht v h.1 h.2 R
theorem nu_byte (v : Int) (h : 0 ≤ v ∧ v < 256) (R : List Int) : nu 1 (v :: R, 0) = (v, (R, 0)) := by
 have := nu_piece 1 (by omega) 1 rfl v (by omega) R
 rw [show dg 1 v = [v] from by simp [dg]; omega] at this
 exact this
theorem okR_len {r : RuleV} (h : okR r) : r.os.length ≤ 8 := by
 rcases h with h | h
 ·exact h.2.2.2.2.2.1
 ·have := h.2.2.2.2.2; omega
theorem bnd_eq {α β : Type} {F : St → α × St} {G : α → St → β × St} {t t' : St} {x : α} (h : F t = (x, t')) : bnd F G t = G x t' := by unfold bnd; rw [h]
theorem rd_mask (x : MaskV) (hm : okM x) (h8 : u8M x) (R : List Int) : maskRd (maskB x ++ R, 0) = (x, (R, 0)) := by
 obtain ⟨v, m, b0, b1, b2, i0, i1, i2⟩ := x
 obtain ⟨⟨h1, h2⟩, ⟨h3, h4⟩, _⟩ := hm
 have hb := fun z hz => h8 z hz
 simp only [List.mem_cons, List.not_mem_nil, or_false, forall_eq_or_imp, forall_eq] at hb h1 h2 h3 h4
 obtain ⟨c0, c1, c2, d0, d1, d2⟩ := hb
 unfold maskB maskRd
 simp only [List.append_assoc, List.cons_append, List.nil_append]
 rw [bnd_eq (nu_piece 1 (by omega) 1 rfl v (by omega) _), bnd_eq (nu_piece 1 (by omega) 1 rfl (m + 1) (by omega) _), bnd_eq (nu_byte b0 c0 _), bnd_eq (nu_byte b1 c1 _), bnd_eq (nu_byte b2 c2 _), bnd_eq (nu_byte i0 d0 _), bnd_eq (nu_byte i1 d1 _), bnd_eq (nu_byte i2 d2 _)]
 rw [show m + 1 - 1 = m from by omega]
 rfl
theorem rd_out (o : OutV) (h : okO o) (R : List Int) : outRd (outB o ++ R, 0) = (o, (R, 0)) := by
 obtain ⟨p, a, b, c⟩ := o
 obtain ⟨⟨h1, h2⟩, ⟨h3, h4⟩, ⟨h5, h6⟩, ⟨h7, h8⟩⟩ := h
 simp only at h1 h2 h3 h4 h5 h6 h7 h8
 unfold outB outRd
 simp only [List.append_assoc]
 rw [bnd_eq (nu_piece 1 (by omega) 1 rfl p (by omega) _), bnd_eq (nu_piece 2 (by omega) 2 rfl (a + 1) (by omega) _), bnd_eq (nu_piece 2 (by omega) 2 rfl (b + 1) (by omega) _), bnd_eq (nu_piece 2 (by omega) 2 rfl (c + 1) (by omega) _)]
 rw [show a + 1 - 1 = a from by omega, show b + 1 - 1 = b from by omega, show c + 1 - 1 = c from by omega]
 rfl
theorem rd_outs : ∀ (n : Nat) (os : List OutV) (_ : os.length = n) (_ : ∀ o ∈ os, okO o) (R : List Int), outsRd n (os.flatMap outB ++ R, 0) = (os, (R, 0))
 | 0, os, h, _, R => by
  obtain rfl := List.eq_nil_of_length_eq_zero h
  rfl
 | n + 1, os, h, ho, R => by
  obtain ⟨o, pre, rfl⟩ : ∃ o pre, os = pre ++ [o] := ⟨os.getLast (by intro e; subst e; simp at h), os.dropLast, (List.dropLast_concat_getLast _).symm⟩
  rw [List.flatMap_append, List.append_assoc]
  show bnd (outsRd n) _ _ = _
  rw [bnd_eq (rd_outs n pre (by simpa using h) (fun o ho' => ho o (by simp [ho'])) _)]
  simp only [List.flatMap_cons, List.flatMap_nil, List.append_nil]
  rw [bnd_eq (rd_out o (ho o (by simp)) R)]
  rfl
theorem rd_rule (r : RuleV) (h : okR r) (h8 : u8M r.x) (R : List Int) : ruleRd (ruleB r ++ R, 0) = (r, (R, 0)) := by
 have hl := okR_len h
 obtain ⟨k, pr, to, po, x, os⟩ := r
 unfold ruleB ruleRd
 simp only [List.append_assoc]
 rcases h with ⟨h1, ⟨h2, h3⟩, h4, h5, hm, _, ho⟩ | ⟨h1, ⟨h2, h3⟩, ⟨h4, h5⟩, h6, hm, ho⟩
 ·simp only at h1 h2 h3 h4 h5 hm ho hl
  subst h1 h4 h5
  rw [bnd_eq (nu_piece 1 (by omega) 1 rfl 1 (by omega) _), bnd_eq (nu_piece 2 (by omega) 2 rfl pr (by omega) _), bnd_eq (nu_piece 1 (by omega) 1 rfl 0 (by omega) _), bnd_eq (nu_piece 1 (by omega) 1 rfl 0 (by omega) _)]
  rw [if_pos rfl, if_pos rfl]
  unfold dataB
  simp only [List.append_assoc]
  rw [bnd_eq (rd_mask x hm h8 _), bnd_eq (nu_piece 1 (by omega) 1 rfl _ (by omega) _), Int.toNat_natCast, bnd_eq (rd_outs _ os rfl ho R)]
  rfl
 ·simp only at h1 h2 h3 h4 h5 h6 hm ho
  subst h1 h6
  rw [bnd_eq (nu_piece 1 (by omega) 1 rfl 2 (by omega) _), bnd_eq (nu_piece 2 (by omega) 2 rfl 0 (by omega) _), bnd_eq (nu_piece 1 (by omega) 1 rfl to (by omega) _), bnd_eq (nu_piece 1 (by omega) 1 rfl po (by omega) _)]
  rw [if_neg (by omega), if_neg (by omega)]
  obtain rfl := List.eq_nil_of_length_eq_zero ho
  obtain ⟨v, m, b0, b1, b2, i0, i1, i2⟩ := x
  obtain ⟨e1, e2, e3, e4, e5, e6, e7, e8⟩ := hm
  simp only at e1 e2 e3 e4 e5 e6 e7 e8
  subst e1 e2 e3 e4 e5 e6 e7 e8
  rfl
theorem zeroR_eq {r : RuleV} (h : zeroR r) : r = noRule := by
 obtain ⟨k, pr, to, po, ⟨v, m, b0, b1, b2, i0, i1, i2⟩, os⟩ := r
 obtain ⟨h1, h2, h3, h4, ⟨e1, e2, e3, e4, e5, e6, e7, e8⟩, h5⟩ := h
 simp only at h1 h2 h3 h4 h5 e1 e2 e3 e4 e5 e6 e7 e8
 obtain rfl := List.eq_nil_of_length_eq_zero h5
 subst h1 h2 h3 h4 e1 e2 e3 e4 e5 e6 e7 e8
 rfl
theorem restRd_r {k : Int} (h : k = 2 ∨ k = 3) : restRd k = bnd ruleRd fun r => rt { noOrd with k := k, r := r } := if_pos h
theorem restRd_4 : restRd 4 = bnd (nu 1) fun n => rt { noOrd with k := 4, n := n } := by unfold restRd; rw [if_neg (by omega), if_pos rfl]
theorem restRd_5 : restRd 5 = bnd (nu 1) fun n => bnd (nu 2) fun m => rt { noOrd with k := 5, n := n, m := m } := by unfold restRd; rw [if_neg (by omega), if_neg (by omega), if_pos rfl]
theorem restRd_6 : restRd 6 = bnd (nu 4) fun n => rt { noOrd with k := 6, n := n } := by unfold restRd; rw [if_neg (by omega), if_neg (by omega), if_neg (by omega), if_pos rfl]
theorem restRd_7 : restRd 7 = bnd (nu 4) fun n => bnd (nu 2) fun m => rt { noOrd with k := 7, n := n, m := m } := by unfold restRd; rw [if_neg (by omega), if_neg (by omega), if_neg (by omega), if_neg (by omega), if_pos rfl]
theorem restRd_8 : restRd 8 = bnd tx fun b => rt { noOrd with k := 8, f := (parseQ b).1.1, p := (parseQ b).1.2.1, t := (parseQ b).1.2.2.1, q := (parseQ b).1.2.2.2.1, z := (parseQ b).1.2.2.2.2 } := by
 unfold restRd; rw [if_neg (by omega), if_neg (by omega), if_neg (by omega), if_neg (by omega), if_neg (by omega), if_pos rfl]
theorem restRd_9 : restRd 9 = bnd (nu 1) fun n => bnd (nu 1) fun m => rt { noOrd with k := 9, n := n, m := m } := by
 unfold restRd; rw [if_neg (by omega), if_neg (by omega), if_neg (by omega), if_neg (by omega), if_neg (by omega), if_neg (by omega), if_pos rfl]
theorem restRd_no {k : Int} (h : k < 2 ∨ 9 < k) : restRd k = rt { noOrd with k := k } := by
 unfold restRd; rw [if_neg (by omega), if_neg (by omega), if_neg (by omega), if_neg (by omega), if_neg (by omega), if_neg (by omega), if_neg (by omega)]
section
variable {o : OrdV}
theorem restB_r (h : o.k = 2 ∨ o.k = 3) : restB o = ruleB o.r := if_pos h
theorem restB_1 (h : o.k = 1) : restB o = [] := by simp [restB, h]
theorem restB_4 (h : o.k = 4) : restB o = dg 1 o.n := by simp [restB, h]
theorem restB_5 (h : o.k = 5) : restB o = dg 1 o.n ++ dg 2 o.m := by simp [restB, h]
theorem restB_6 (h : o.k = 6) : restB o = dg 4 o.n := by simp [restB, h]
theorem restB_7 (h : o.k = 7) : restB o = dg 4 o.n ++ dg 2 o.m := by simp [restB, h]
theorem restB_8 (h : o.k = 8) : restB o = dg 2 9 ++ frm 2 (qB o.f o.p o.t o.q o.z) := by simp [restB, h]
theorem restB_9 (h : o.k = 9) : restB o = dg 1 o.n ++ dg 1 o.m := by simp [restB, h]
end
theorem rd_rest (o : OrdV) (h : okOrd o) (h8 : u8M o.r.x) (R : List Int) : restRd o.k (restB o ++ R, 0) = (o, (R, 0)) := by
 obtain ⟨k, n, m, r, f, p, t, q, z⟩ := o
 obtain ⟨hn, hr, hp⟩ := h
 unfold okNM okRu okPr zeroQ at *
 simp only [within] at hn hr hp h8 ⊢
 rcases hn with ⟨rfl, rfl, rfl⟩ | ⟨rfl, rfl, rfl⟩ | ⟨rfl, rfl, rfl⟩ | ⟨rfl, hn, rfl⟩ | ⟨rfl, hn, hm⟩ | ⟨rfl, hn, rfl⟩ | ⟨rfl, hn, hm⟩ | ⟨rfl, rfl, rfl⟩ | ⟨rfl, hn, hm⟩
 ·rw [if_neg (by omega)] at hr hp
  obtain ⟨rfl, rfl, rfl, rfl, rfl⟩ := hp
  rw [zeroR_eq hr, restRd_no (by omega), restB_1 rfl]
  rfl
 ·rw [if_pos (by omega)] at hr
  rw [if_neg (by omega)] at hp
  obtain ⟨rfl, rfl, rfl, rfl, rfl⟩ := hp
  rw [restRd_r (by omega), restB_r (by simp), bnd_eq (rd_rule r hr h8 R)]
  rfl
 ·rw [if_pos (by omega)] at hr
  rw [if_neg (by omega)] at hp
  obtain ⟨rfl, rfl, rfl, rfl, rfl⟩ := hp
  rw [restRd_r (by omega), restB_r (by simp), bnd_eq (rd_rule r hr h8 R)]
  rfl
 ·rw [if_neg (by omega)] at hr hp
  obtain ⟨rfl, rfl, rfl, rfl, rfl⟩ := hp
  rw [zeroR_eq hr]
  rw [restRd_4, restB_4 rfl]
  rw [bnd_eq (nu_piece 1 (by omega) 1 rfl n (by omega) _)]
  rfl
 ·rw [if_neg (by omega)] at hr hp
  obtain ⟨rfl, rfl, rfl, rfl, rfl⟩ := hp
  rw [zeroR_eq hr]
  rw [restRd_5, restB_5 rfl]
  rw [List.append_assoc, bnd_eq (nu_piece 1 (by omega) 1 rfl n (by omega) _), bnd_eq (nu_piece 2 (by omega) 2 rfl m (by omega) _)]
  rfl
 ·rw [if_neg (by omega)] at hr hp
  obtain ⟨rfl, rfl, rfl, rfl, rfl⟩ := hp
  rw [zeroR_eq hr]
  rw [restRd_6, restB_6 rfl]
  rw [bnd_eq (nu_piece 4 (by omega) 4 rfl n (by omega) _)]
  rfl
 ·rw [if_neg (by omega)] at hr hp
  obtain ⟨rfl, rfl, rfl, rfl, rfl⟩ := hp
  rw [zeroR_eq hr]
  rw [restRd_7, restB_7 rfl]
  rw [List.append_assoc, bnd_eq (nu_piece 4 (by omega) 4 rfl n (by omega) _), bnd_eq (nu_piece 2 (by omega) 2 rfl m (by omega) _)]
  rfl
 ·rw [if_neg (by omega)] at hr
  rw [if_pos rfl] at hp
  rw [zeroR_eq hr]
  rw [restRd_8, restB_8 rfl]
  have e9 : (frm 2 (qB f p t q z)).length = 9 := by rw [frm_len, qB_len]
  have et : tx ((dg 2 9 ++ frm 2 (qB f p t q z)) ++ R, 0) = (frm 2 (qB f p t q z), (R, 0)) := by
   have := textR_piece (frm 2 (qB f p t q z)) R (by omega)
   rw [e9] at this
   exact this
  rw [bnd_eq et, parseQ_bytes hp.1]
  rfl
 ·rw [if_neg (by omega)] at hr hp
  obtain ⟨rfl, rfl, rfl, rfl, rfl⟩ := hp
  rw [zeroR_eq hr]
  rw [restRd_9, restB_9 rfl]
  rw [List.append_assoc, bnd_eq (nu_piece 1 (by omega) 1 rfl n (by omega) _), bnd_eq (nu_piece 1 (by omega) 1 rfl m (by omega) _)]
  rfl
theorem okNM_k {o : OrdV} (h : okNM o) : 1 ≤ o.k ∧ o.k ≤ 9 := by unfold okNM at h; omega
theorem rd_ord (o : OrdV) (h : okOrd o) (h8 : u8M o.r.x) (R : List Int) : ordRd (ordB o ++ R, 0) = (o, (R, 0)) := by
 have := okNM_k h.1
 unfold ordB ordRd
 rw [List.append_assoc, bnd_eq (nu_piece 1 (by omega) 1 rfl o.k (by omega) _)]
 exact rd_rest o h h8 R
theorem parseO_bytes {o : OrdV} (h : okOrd o) (h8 : u8M o.r.x) : parseO (ordB o) = (o, 0) := by
 have := rd_ord o h h8 []
 rw [List.append_nil] at this
 unfold parseO
 rw [this, if_neg (by simp), if_pos ⟨rfl, h⟩]
def Nb (T : TypeId) (w : World) (g : Nat) (vs : List Int) : Prop := w.heap[g]? = some (.cells (vs.map (Value.int .i64)).toArray T (0, 0))
section
variable {T : TypeId} {w w' : World} {g r B : Nat} {vs : List Int}
theorem Nb.lt (h : Nb T w g vs) : g < w.heap.size := (Array.getElem?_eq_some_iff.1 h).1
theorem Nb.new (T : TypeId) (w : World) (vs : List Int) : Nb T (w.alloc (.cells (vs.map (Value.int .i64)).toArray T)) w.heap.size vs := heap_alloc_new w _
theorem Nb.grown (h : Nb T w g vs) (hg : w.grownBy w' (some r)) (hne : g ≠ r) : Nb T w' g vs := (hg.block g h.lt (by simp; exact hne)).trans h
theorem Nb.below (h : Nb T w g vs) (hb : Below B w w') (hB : g < B) : Nb T w' g vs := (hb.block g hB).trans h
theorem Nb.alloc (h : Nb T w g vs) (o : Obj) : Nb T (w.alloc o) g vs := h.below (below_alloc w o) h.lt
theorem Nb.free (h : Nb T w g vs) (j : Nat) : w.frozen? ⟨g, j, none⟩ = false := by simp [World.frozen?, show w.heap[g]? = _ from h]
theorem Nb.cell (h : Nb T w g vs) (j : Nat) (hj : j < vs.length) : w.cell? ⟨g, j, none⟩ = some (.int .i64 (vs.getD j 0)) := by
 simp [World.cell?, show w.heap[g]? = _ from h, List.getD_eq_getElem?_getD, List.getElem?_eq_getElem hj]
theorem Nb.set (h : Nb T w g vs) (j : Nat) (x : Int) : Nb T (w.setCell ⟨g, j, none⟩ (.int .i64 x)) g (vs.set j x) := by
 simp [Nb, World.setCell, Array.getElem?_modify, show w.heap[g]? = _ from h, List.map_set]
theorem Nb.five {f p t q n : Int} (h : Nb T w g [f, p, t, q, n]) : w.cell? ⟨g, 0, none⟩ = some (.int .i64 f) ∧ w.cell? ⟨g, 1, none⟩ = some (.int .i64 p) ∧ w.cell? ⟨g, 2, none⟩ = some (.int .i64 t) ∧ w.cell? ⟨g, 3, none⟩ = some (.int .i64 q) ∧ w.cell? ⟨g, 4, none⟩ = some (.int .i64 n) :=
 ⟨h.cell 0 (by simp), h.cell 1 (by simp), h.cell 2 (by simp), h.cell 3 (by simp), h.cell 4 (by simp)⟩
def put5 (w : World) (g : Nat) (f p t q n : Int) : World :=
 ((((w.setCell ⟨g, 0, none⟩ (.int .i64 f)).setCell ⟨g, 1, none⟩ (.int .i64 p)).setCell ⟨g, 2, none⟩ (.int .i64 t)).setCell ⟨g, 3, none⟩ (.int .i64 q)).setCell ⟨g, 4, none⟩ (.int .i64 n)
theorem put5_below {w0 : World} (h0 : Below B w0 w) (hg : B ≤ g) (f p t q n : Int) : Below B w0 (put5 w g f p t q n) :=
 ((((h0.setCell (by simpa using hg) _).setCell (by simpa using hg) _).setCell (by simpa using hg) _).setCell (by simpa using hg) _).setCell (by simpa using hg) _
theorem Nb.put5 {f p t q n f' p' t' q' n' : Int} (h : Nb T w g [f, p, t, q, n]) : Nb T (put5 w g f' p' t' q' n') g [f', p', t', q', n'] := ((((h.set 0 f').set 1 p').set 2 t').set 3 q').set 4 n'
theorem put5_others (w : World) (g : Nat) (f p t q n : Int) : KeepsOthers w (put5 w g f p t q n) :=
 ((((KeepsOthers.setCell _ _ _).trans (KeepsOthers.setCell _ _ _)).trans (KeepsOthers.setCell _ _ _)).trans (KeepsOthers.setCell _ _ _)).trans (KeepsOthers.setCell _ _ _)
theorem Nb.other (h : Nb T w g vs) (hne : g ≠ r) (j : Nat) (u : Value) : Nb T (w.setCell ⟨r, j, none⟩ u) g vs := h.grown (grownBy_set w r j u) hne
end
theorem cells_own {β : Type} (B : Nat) (T : TypeId) (fr : Nat × Nat) (f : β → Array Value) : Go.Own (fun s W => W.heap[B]? = some (.cells (f s) T fr)) := fun s X Y row hs hg hrow =>
 (hg.block B (Array.getElem?_eq_some_iff.1 hs).1 (fun e => by obtain ⟨o, ho, hc⟩ := hrow B e.symm; rw [hs] at ho; cases ho; cases hc)).trans hs
theorem nb_own {β : Type} (T : TypeId) (g : Nat) (f : β → List Int) : Go.Own (fun s W => Nb T W g (f s)) := cells_own g T (0, 0) (fun s => ((f s).map (Value.int .i64)).toArray)
theorem PairOf.mono {l : List Int} {e : Int} {w wa : World} {en : Ending} {w' : World} (h : PairOf l e wa en w') (hb : Below w.heap.size w wa) : PairOf l e w en w' := by
 obtain ⟨A, n, c, he, ho, hb'⟩ := h
 exact ⟨A, n, c, he, ho.lower hb.size, hb.trans (hb'.mono hb.size)⟩
theorem put_lit {w : World} {B : Nat} {A : Option Addr} {n c : Nat} {l : List Int} (s : Int) (ls : List Int) (h : Rd .u8 w B A n c l) (hB : B ≤ w.heap.size) (hm : ls.length ≤ 1000) (hs : n ≤ 140737488300000) :
  Calls Tryz.prog 154 #[.slice A n c, .int .i64 s, .slice (some ⟨w.heap.size, 0, none⟩) ls.length ls.length] (w.alloc (.cells (ls.map (Value.int .i64)).toArray 3)) (PairOf (putP l s ls).1 (putP l s ls).2 w) := by
 have h2 := rd_lit .i64 w 3 ls (by unfold maxLen; omega) (w.heap.size + 1) (by omega)
 have hb := below_alloc w (.cells (ls.map (Value.int .i64)).toArray 3)
 exact (put_any s (h.below' hb hB) h2 (by simp; omega) (by simp) (by omega)).mono (fun en w' h => h.mono hb)
def OnlyN (Q : Exit → Act → World → Prop) : Exit → Act → World → Prop
 | .normal, a, w => Q .normal a w
 | _, _, _ => False
theorem onlyN_out {Q : Exit → Act → World → Prop} : ¬ LetsOut (OnlyN Q) := fun ⟨_, _, h⟩ => h
def noDefer (ops : Array Oper) : Bool := ops.all fun o => match o.op with | .defer _ => false | _ => true
theorem noDefer_spec {ops : Array Oper} (h : noDefer ops = true) {i : Nat} {o : Oper} (hi : ops[i]? = some o) : ∀ c, o.op ≠ .defer c := by
 intro c hc
 have := Array.all_eq_true.1 h i (Array.getElem?_eq_some_iff.1 hi).1
 rw [(Array.getElem?_eq_some_iff.1 hi).2, hc] at this
 cases this
section
variable {P : Program} {r n : Nat} {Q : Exit → Act → World → Prop} {md : Region.Mode} {ops : Array Oper}
theorem op_round {o : Oper} {a : Act} {w : World} {K : Act → World → Prop} (hd : ∀ c, o.op ≠ .defer c) (h : o.wp P a w K (OnlyN Q)) : o.wpIn (Fence.wide.inRound r) n P a w K Q := by
 refine ⟨fun _ _ => trivial, ?_⟩
 unfold Oper.wp at h
 have e : Oper.semAt (Fence.wide.inRound r).round a.eval o = execOp a.eval o := Oper.semAt_eq _ _ _ hd
 rw [e]
 generalize (execOp a.eval o).run P w = x at *
 cases x with
 | ok y w' =>
  cases y with
  | value v => exact h
  | skip => exact h
  | defer d => exact h
  | enter f args =>
   refine ⟨fun hh => (by simp [Fence.wide, Fence.inRound] at hh), CallsIn.inRound r (callsIn_wide.2 (Calls.mono h ?_))⟩
   intro e w'' he
   cases e with
   | returned v => exact he
   | panicked c => exact (he : False).elim
   | outgrown => exact (onlyN_out he).elim
  | row row args =>
   refine ⟨fun hh => (by simp [Fence.wide, Fence.inRound] at hh), fun c cs _ => ?_⟩
   obtain ⟨v, w'', h1, h2⟩ := h c cs
   exact ⟨v, w'', h1, stepsIn_wide.2 h2⟩
  | _ => exact (h : False).elim
 | halt x w' =>
  cases x with
  | panic v => exact (h : False).elim
  | _ => exact (h : False).elim
theorem wpOp_round {i : Nat} {a : Act} {w : World} {K : Act → World → Prop} (hd : noDefer ops = true) (h : wpOp P ops (OnlyN Q) i K a w) : wpOpIn (Fence.wide.inRound r) n P ops Q i K a w := by
 unfold wpOp at h
 unfold wpOpIn
 cases ho : ops[i]? with
 | none => rw [ho] at h; exact h
 | some o =>
  rw [ho] at h
  simp only at h ⊢
  split
  ·rename_i hw
   rw [if_pos hw] at h
   rcases h with h | ⟨_, h⟩
   ·exact op_round (noDefer_spec hd ho) h
   ·exact (onlyN_out h).elim
  ·rename_i hw
   rw [if_neg hw] at h
   exact ⟨fun _ _ => trivial, h⟩
theorem wpAny_round (hd : noDefer ops = true) : ∀ (fuel : Nat) (listed : Array Bool) (a : Act) (w : World), wpAny P md ops (OnlyN Q) fuel listed a w → wpAnyIn (Fence.wide.inRound r) n P md ops Q fuel listed a w
 | 0, _, _, _, h => h
 | fuel + 1, _, _, _, h => ⟨fun h0 => h.1 h0, fun i hi => wpOp_round hd (wpOp_mono (fun a' w' h' => wpAny_round hd fuel _ a' w' h') (h.2 i hi))⟩
theorem region_round {id : Nat} {a : Act} {w : World} {S : World → Prop} (hm : P.follows .mixedOrders = true) (hd : noDefer ops = true) (hS : S w.drew)
  (h : S w.drew → wpAnyH P .any ops (OnlyN Q) S ops.size (Array.replicate ops.size false) a w.drew) : (Code.region id ops true).wpIn (Fence.wide.inRound r) n P Q a w :=
 wpIn_region_any hm (wpAny_round hd _ _ _ _ (wpAny_of_held _ _ _ _ (h hS)))
end
def Ro (w : World) (B : Nat) (A : Option Addr) (n c : Nat) (os : List OutV) : Prop :=
 os.length = n ∧ n ≤ c ∧ c ≤ maxLen ∧ (A = none → c = 0) ∧
 (0 < n → ∃ b off, A = some ⟨b, off, none⟩ ∧ b < B ∧ ∀ j o, os[j]? = some o → w.cell? ⟨b, off + j * 4, none⟩ = some (.int .i64 o.p) ∧ w.cell? ⟨b, off + j * 4 + 1, none⟩ = some (.int .i64 o.a) ∧ w.cell? ⟨b, off + j * 4 + 2, none⟩ = some (.int .i64 o.b) ∧ w.cell? ⟨b, off + j * 4 + 3, none⟩ = some (.int .i64 o.c))
section
variable {w w' : World} {B B' : Nat} {A : Option Addr} {n c : Nat} {os : List OutV}
theorem Ro.len (h : Ro w B A n c os) : os.length = n := h.1
theorem Ro.at_ (h : Ro w B A n c os) (hn : 0 < n) : ∃ b off, A = some ⟨b, off, none⟩ ∧ b < B ∧ ∀ j o, os[j]? = some o → w.cell? ⟨b, off + j * 4, none⟩ = some (.int .i64 o.p) ∧ w.cell? ⟨b, off + j * 4 + 1, none⟩ = some (.int .i64 o.a) ∧ w.cell? ⟨b, off + j * 4 + 2, none⟩ = some (.int .i64 o.b) ∧ w.cell? ⟨b, off + j * 4 + 3, none⟩ = some (.int .i64 o.c) := h.2.2.2.2 hn
theorem Ro.keep (h : Ro w B A n c os) (hk : ∀ b o, b < B → w'.cell? ⟨b, o, none⟩ = w.cell? ⟨b, o, none⟩) : Ro w' B A n c os :=
 ⟨h.1, h.2.1, h.2.2.1, h.2.2.2.1, fun hn => by
  obtain ⟨b, off, e, hb, hc⟩ := h.at_ hn
  refine ⟨b, off, e, hb, fun j o hj => ?_⟩
  rw [hk b _ hb, hk b _ hb, hk b _ hb, hk b _ hb]
  exact hc j o hj⟩
theorem Ro.below (h : Ro w B A n c os) (hb : Below B w w') : Ro w' B A n c os := h.keep fun b o hlt => hb.cell (p := ⟨b, o, none⟩) hlt
theorem Ro.below' (h : Ro w B A n c os) (hb : Below B' w w') (hB : B ≤ B') : Ro w' B A n c os := h.below (hb.mono hB)
theorem Ro.more (h : Ro w B A n c os) (hB : B ≤ B') : Ro w B' A n c os :=
 ⟨h.1, h.2.1, h.2.2.1, h.2.2.2.1, fun hn => by
  obtain ⟨b, off, e, hb, hc⟩ := h.at_ hn
  exact ⟨b, off, e, by omega, hc⟩⟩
theorem Ro.nil (w : World) (B : Nat) : Ro w B none 0 0 [] := ⟨rfl, Nat.le_refl _, Nat.zero_le _, fun _ => rfl, fun h => absurd h (by omega)⟩
theorem Ro.drew (h : Ro w B A n c os) : Ro w.drew B A n c os := h.below (Below.refl _ _).drew
end
theorem eq_header (a b c x y z : Int) (w : World) :
  (Op.equalIn 9999 42 (.agg #[.int .u8 a, .int .u8 b, .int .u8 c]) (.agg #[.int .u8 x, .int .u8 y, .int .u8 z])).run Tryz.prog w = .ok (a == x && (b == y && c == z)) w := by
 obtain ⟨i0, hi, hz0, hz1, hz2⟩ := info_parts info_u8
 have hc : Tryz.prog.cellsOf 5 = 1 := by kernel_rfl
 have hp : Tryz.prog.plainKey 5 = true := by kernel_rfl
 have hq : ∀ (p q : Int), (Op.equalIn 9998 5 (.int .u8 p) (.int .u8 q)).run Tryz.prog w = .ok (p == q) w := fun p q => run_equalIn_int w 9997 _ _ _ p q Tryz.underlying5
 rw [show (9999 : Nat) = 9998 + 1 from rfl, run_equalIn_array w 9998 _ _ Tryz.underlying42 hi, hc, show List.range 3 = [0, 1, 2] from rfl]
 have p0 : ∀ (u v t : Value), (part 5 #[u, v, t] 0).run Tryz.prog w = .ok u w := fun u v t => run_part_plain w hp rfl
 have p1 : ∀ (u v t : Value), (part 5 #[u, v, t] 1).run Tryz.prog w = .ok v w := fun u v t => run_part_plain w hp rfl
 have p2 : ∀ (u v t : Value), (part 5 #[u, v, t] 2).run Tryz.prog w = .ok t w := fun u v t => run_part_plain w hp rfl
 by_cases e1 : a == x
 ·by_cases e2 : b == y
  ·by_cases e3 : c == z
   ·simp [Op.eqItems, p0, p1, p2, hq, e1, e2, e3]
   ·simp [Op.eqItems, p0, p1, p2, hq, e1, e2, e3]
  ·simp [Op.eqItems, p0, p1, hq, e1, e2]
 ·simp [Op.eqItems, p0, hq, e1]
def inB (n a b : Int) : Bool := decide (within n a b)
def okOB (o : OutV) : Bool := inB o.p 0 4 && (inB o.a (-1) 255 && (inB o.b (-1) 255 && inB o.c (-1) 255))
theorem inB_iff (n a b : Int) : inB n a b = true ↔ within n a b := by unfold inB; simp
theorem okOB_iff (o : OutV) : okOB o = true ↔ okO o := by unfold okOB okO; simp [inB_iff]
def outsB (os : List OutV) : Bool := decide (os.length ≤ 8) && os.all okOB
theorem outsB_iff (os : List OutV) : outsB os = true ↔ (os.length ≤ 8 ∧ ∀ o ∈ os, okO o) := by unfold outsB; simp [okOB_iff]
def coverB (x : MaskV) : Bool := (clr x.i0 x.b0 == 0) && ((clr x.i1 x.b1 == 0) && (clr x.i2 x.b2 == 0))
def zeroMB (x : MaskV) : Bool := decide (zeroM x)
theorem checkM_zero (x : MaskV) : checkM x = 0 ↔ okM x := by
 unfold checkM; split
 ·rename_i h; exact ⟨fun _ => h, fun _ => rfl⟩
 ·rename_i h; exact ⟨fun e => by omega, fun e => absurd e h⟩
theorem checkR_zero (x : RuleV) : checkR x = 0 ↔ okR x := by
 unfold checkR; split
 ·rename_i h; exact ⟨fun _ => h, fun _ => rfl⟩
 ·rename_i h; exact ⟨fun e => by omega, fun e => absurd e h⟩
def dataBo (r : RuleV) : Bool := (r.k == 1) && (inB r.pr 0 65535 && ((r.to == 0) && ((r.po == 0) && ((checkM r.x == 0) && outsB r.os))))
def ctlBo (r : RuleV) : Bool := (r.k == 2) && (inB r.to 0 6 && (inB r.po 0 4 && ((r.pr == 0) && (zeroMB r.x && ((r.os.length : Int) == 0)))))
def noneBo (r : RuleV) : Bool := (r.k == 0) && ((r.pr == 0) && ((r.to == 0) && ((r.po == 0) && (zeroMB r.x && ((r.os.length : Int) == 0)))))
theorem dataBo_iff (r : RuleV) : dataBo r = true ↔ okData r := by unfold dataBo okData; simp [inB_iff, outsB_iff, checkM_zero]
theorem ctlBo_iff (r : RuleV) : ctlBo r = true ↔ okCtl r := by unfold ctlBo okCtl zeroMB; simp only [Bool.and_eq_true, inB_iff, beq_iff_eq, decide_eq_true_eq, Int.natCast_eq_zero]
theorem noneBo_iff (r : RuleV) : noneBo r = true ↔ zeroR r := by unfold noneBo zeroR zeroMB; simp only [Bool.and_eq_true, beq_iff_eq, decide_eq_true_eq, Int.natCast_eq_zero]
theorem checkR_Bo (r : RuleV) : checkR r = if (dataBo r || ctlBo r) = true then 0 else 2 := by
 unfold checkR
 have h : ((dataBo r || ctlBo r) = true) ↔ okR r := by rw [Bool.or_eq_true, dataBo_iff, ctlBo_iff]; rfl
 by_cases hh : okR r
 ·rw [if_pos hh, if_pos (h.2 hh)]
 ·rw [if_neg hh, if_neg (fun e => hh (h.1 e))]
theorem okM_Bo (x : MaskV) : okM x ↔ (inB x.v 0 200 = true ∧ inB x.m (-1) 4 = true ∧ coverB x = true) := by unfold okM coverB; simp [inB_iff]
def eqMB (x y : MaskV) : Bool := (x.v == y.v) && ((x.m == y.m) && ((x.b0 == y.b0 && (x.b1 == y.b1 && x.b2 == y.b2)) && (x.i0 == y.i0 && (x.i1 == y.i1 && x.i2 == y.i2))))
def eqQB (f p t q n f' p' t' q' n' : Int) : Bool := (f == f') && ((p == p') && ((t == t') && ((q == q') && (n == n'))))
theorem eq_mask (x y : MaskV) (w : World) : (Op.equalIn 10000 44 (.agg #[.int .i64 x.v, .int .i64 x.m, .int .u8 x.b0, .int .u8 x.b1, .int .u8 x.b2, .int .u8 x.i0, .int .u8 x.i1, .int .u8 x.i2]) (.agg #[.int .i64 y.v, .int .i64 y.m, .int .u8 y.b0, .int .u8 y.b1, .int .u8 y.b2, .int .u8 y.i0, .int .u8 y.i1, .int .u8 y.i2])).run Tryz.prog w = .ok (eqMB x y) w := by
 have hS : Tryz.prog.underlying 44 = some (.struct (Tryz.prog.fieldsOf 44)) := by kernel_rfl
 have hp : Tryz.prog.stoodInHeld 44 = false := by kernel_rfl
 rw [show (10000 : Nat) = 9999 + 1 from rfl, run_equalIn_agg w 9999 44 _ _ hS hp]
 have e1 := fun w => eq_header x.b0 x.b1 x.b2 y.b0 y.b1 y.b2 w
 have e2 := fun w => eq_header x.i0 x.i1 x.i2 y.i0 y.i1 y.i2 w
 simp only [Program.fieldsOf, Tryz.underlying44]
 go_simp
 unfold eqMB
 by_cases h0 : x.v = y.v
 rotate_left
 ·simp [h0]
 by_cases h1 : x.m = y.m
 rotate_left
 ·simp [h0, h1]
 by_cases h2 : x.b0 = y.b0
 rotate_left
 ·simp [h0, h1, h2]
 by_cases h3 : x.b1 = y.b1
 rotate_left
 ·simp [h0, h1, h2, h3]
 by_cases h4 : x.b2 = y.b2
 rotate_left
 ·simp [h0, h1, h2, h3, h4]
 by_cases h5 : x.i0 = y.i0
 rotate_left
 ·simp [h0, h1, h2, h3, h4, h5]
 by_cases h6 : x.i1 = y.i1
 rotate_left
 ·simp [h0, h1, h2, h3, h4, h5, h6]
 by_cases h7 : x.i2 = y.i2
 rotate_left
 ·simp [h0, h1, h2, h3, h4, h5, h6, h7]
 simp [h0, h1, h2, h3, h4, h5, h6, h7]
theorem eq_probe (f p t q n f' p' t' q' n' : Int) (w : World) : (Op.equalIn 10000 49 (.agg #[.int .i64 f, .int .i64 p, .int .i64 t, .int .i64 q, .int .i64 n]) (.agg #[.int .i64 f', .int .i64 p', .int .i64 t', .int .i64 q', .int .i64 n'])).run Tryz.prog w = .ok (eqQB f p t q n f' p' t' q' n') w := by
 have hS : Tryz.prog.underlying 49 = some (.struct (Tryz.prog.fieldsOf 49)) := by kernel_rfl
 have hp : Tryz.prog.stoodInHeld 49 = false := by kernel_rfl
 rw [show (10000 : Nat) = 9999 + 1 from rfl, run_equalIn_agg w 9999 49 _ _ hS hp]
 simp only [Program.fieldsOf, Tryz.underlying49]
 go_simp
 unfold eqQB
 by_cases h0 : f = f'
 rotate_left
 ·simp [h0]
 by_cases h1 : p = p'
 rotate_left
 ·simp [h0, h1]
 by_cases h2 : t = t'
 rotate_left
 ·simp [h0, h1, h2]
 by_cases h3 : q = q'
 rotate_left
 ·simp [h0, h1, h2, h3]
 by_cases h4 : n = n'
 rotate_left
 ·simp [h0, h1, h2, h3, h4]
 simp [h0, h1, h2, h3, h4]
theorem eqMB_no (x : MaskV) : eqMB x noMask = zeroMB x := by
 unfold eqMB zeroMB noMask
 rw [Bool.eq_iff_iff, decide_eq_true_iff]
 unfold zeroM
 simp only [Bool.and_eq_true, beq_iff_eq]
 constructor
 ·rintro ⟨h1, h2, ⟨h3, h4, h5⟩, h6, h7, h8⟩; exact ⟨h1, h2, h3, h4, h5, h6, h7, h8⟩
 ·rintro ⟨h1, h2, h3, h4, h5, h6, h7, h8⟩; exact ⟨h1, h2, ⟨h3, h4, h5⟩, h6, h7, h8⟩
theorem eqQB_iff (f p t q n f' p' t' q' n' : Int) : eqQB f p t q n f' p' t' q' n' = true ↔ (f = f' ∧ p = p' ∧ t = t' ∧ q = q' ∧ n = n') := by
 unfold eqQB
 simp only [Bool.and_eq_true, beq_iff_eq]
theorem Vb.c3 {T : TypeId} {w : World} {g : Nat} {a0 a1 a2 : Value} (h : Vb T w g [a0, a1, a2]) : w.cell? ⟨g, 0, none⟩ = some a0 ∧ w.cell? ⟨g, 1, none⟩ = some a1 ∧ w.cell? ⟨g, 2, none⟩ = some a2 :=
 ⟨h.cell 0 rfl, h.cell 1 rfl, h.cell 2 rfl⟩
theorem Vb.c4 {T : TypeId} {w : World} {g : Nat} {a0 a1 a2 a3 : Value} (h : Vb T w g [a0, a1, a2, a3]) : w.cell? ⟨g, 0, none⟩ = some a0 ∧ w.cell? ⟨g, 1, none⟩ = some a1 ∧ w.cell? ⟨g, 2, none⟩ = some a2 ∧ w.cell? ⟨g, 3, none⟩ = some a3 :=
 ⟨h.cell 0 rfl, h.cell 1 rfl, h.cell 2 rfl, h.cell 3 rfl⟩
theorem Vb.c5 {T : TypeId} {w : World} {g : Nat} {a0 a1 a2 a3 a4 : Value} (h : Vb T w g [a0, a1, a2, a3, a4]) : w.cell? ⟨g, 0, none⟩ = some a0 ∧ w.cell? ⟨g, 1, none⟩ = some a1 ∧ w.cell? ⟨g, 2, none⟩ = some a2 ∧ w.cell? ⟨g, 3, none⟩ = some a3 ∧ w.cell? ⟨g, 4, none⟩ = some a4 :=
 ⟨h.cell 0 rfl, h.cell 1 rfl, h.cell 2 rfl, h.cell 3 rfl, h.cell 4 rfl⟩
theorem Vb.c13 {T : TypeId} {w : World} {g : Nat} {a0 a1 a2 a3 a4 a5 a6 a7 a8 a9 a10 a11 a12 : Value} (h : Vb T w g [a0, a1, a2, a3, a4, a5, a6, a7, a8, a9, a10, a11, a12]) : w.cell? ⟨g, 0, none⟩ = some a0 ∧ w.cell? ⟨g, 1, none⟩ = some a1 ∧ w.cell? ⟨g, 2, none⟩ = some a2 ∧ w.cell? ⟨g, 3, none⟩ = some a3 ∧ w.cell? ⟨g, 4, none⟩ = some a4 ∧ w.cell? ⟨g, 5, none⟩ = some a5 ∧ w.cell? ⟨g, 6, none⟩ = some a6 ∧ w.cell? ⟨g, 7, none⟩ = some a7 ∧ w.cell? ⟨g, 8, none⟩ = some a8 ∧ w.cell? ⟨g, 9, none⟩ = some a9 ∧ w.cell? ⟨g, 10, none⟩ = some a10 ∧ w.cell? ⟨g, 11, none⟩ = some a11 ∧ w.cell? ⟨g, 12, none⟩ = some a12 :=
 ⟨h.cell 0 rfl, h.cell 1 rfl, h.cell 2 rfl, h.cell 3 rfl, h.cell 4 rfl, h.cell 5 rfl, h.cell 6 rfl, h.cell 7 rfl, h.cell 8 rfl, h.cell 9 rfl, h.cell 10 rfl, h.cell 11 rfl, h.cell 12 rfl⟩
theorem Vb.c21 {T : TypeId} {w : World} {g : Nat} {a0 a1 a2 a3 a4 a5 a6 a7 a8 a9 a10 a11 a12 a13 a14 a15 a16 a17 a18 a19 a20 : Value} (h : Vb T w g [a0, a1, a2, a3, a4, a5, a6, a7, a8, a9, a10, a11, a12, a13, a14, a15, a16, a17, a18, a19, a20]) : w.cell? ⟨g, 0, none⟩ = some a0 ∧ w.cell? ⟨g, 1, none⟩ = some a1 ∧ w.cell? ⟨g, 2, none⟩ = some a2 ∧ w.cell? ⟨g, 3, none⟩ = some a3 ∧ w.cell? ⟨g, 4, none⟩ = some a4 ∧ w.cell? ⟨g, 5, none⟩ = some a5 ∧ w.cell? ⟨g, 6, none⟩ = some a6 ∧ w.cell? ⟨g, 7, none⟩ = some a7 ∧ w.cell? ⟨g, 8, none⟩ = some a8 ∧ w.cell? ⟨g, 9, none⟩ = some a9 ∧ w.cell? ⟨g, 10, none⟩ = some a10 ∧ w.cell? ⟨g, 11, none⟩ = some a11 ∧ w.cell? ⟨g, 12, none⟩ = some a12 ∧ w.cell? ⟨g, 13, none⟩ = some a13 ∧ w.cell? ⟨g, 14, none⟩ = some a14 ∧ w.cell? ⟨g, 15, none⟩ = some a15 ∧ w.cell? ⟨g, 16, none⟩ = some a16 ∧ w.cell? ⟨g, 17, none⟩ = some a17 ∧ w.cell? ⟨g, 18, none⟩ = some a18 ∧ w.cell? ⟨g, 19, none⟩ = some a19 ∧ w.cell? ⟨g, 20, none⟩ = some a20 :=
 ⟨h.cell 0 rfl, h.cell 1 rfl, h.cell 2 rfl, h.cell 3 rfl, h.cell 4 rfl, h.cell 5 rfl, h.cell 6 rfl, h.cell 7 rfl, h.cell 8 rfl, h.cell 9 rfl, h.cell 10 rfl, h.cell 11 rfl, h.cell 12 rfl, h.cell 13 rfl, h.cell 14 rfl, h.cell 15 rfl, h.cell 16 rfl, h.cell 17 rfl, h.cell 18 rfl, h.cell 19 rfl, h.cell 20 rfl⟩
theorem putC_below {B g : Nat} {w0 : World} (hg : B ≤ g) : ∀ (vs : List Value) {w : World} (o : Nat), Below B w0 w → Below B w0 (putC w g o vs)
 | [], _, _, h => h
 | v :: vs, _, o, h => putC_below hg vs (o + 1) (h.setCell (by simpa using hg) v)
theorem agg_order : Agg 51 21 := ⟨⟨_, Tryz.underlying51, rfl⟩, by kernel_rfl⟩
theorem agg_own : Agg 206 21 := ⟨⟨_, Tryz.underlying206, rfl⟩, by kernel_rfl⟩
theorem agg_rule : Agg 47 13 := ⟨⟨_, Tryz.underlying47, rfl⟩, by kernel_rfl⟩
theorem agg_mask : Agg 44 8 := ⟨⟨_, Tryz.underlying44, rfl⟩, by kernel_rfl⟩
theorem agg_probe : Agg 49 5 := ⟨⟨_, Tryz.underlying49, rfl⟩, by kernel_rfl⟩
theorem agg_set : Agg 257 3 := ⟨⟨_, Tryz.underlying257, rfl⟩, by kernel_rfl⟩
theorem agg_header : Agg 42 3 := ⟨⟨_, Tryz.underlying42, rfl⟩, by kernel_rfl⟩
end Go.Proofs.YtnoflfbcgbhipaaGreat.Oct
