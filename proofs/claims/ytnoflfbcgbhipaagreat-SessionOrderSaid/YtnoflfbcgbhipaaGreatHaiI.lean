import Derived.Test.YtnoflfbcgbhipaaGreatHaiN
set_option linter.unusedSimpArgs false
set_option linter.unusedVariables false
namespace Go.Proofs.YtnoflfbcgbhipaaGreat.Oct
open Go.RowKit
structure Hinv (ep b q be E : Int) (f : Nat → Int) (l : List Sv) : Prop where
 syn : ∀ x ∈ l, x.k = 3 → x.p ≤ ep ∧ (x.p = ep → q ≠ 1 ∧ x.o = b)
 one : ∀ x ∈ l, ∀ y ∈ l, x.k = 3 → y.k = 3 → x.p = y.p → x.o = y.o
 ack : ∀ x ∈ l, x.k = 4 → f x.p.toNat ≠ 0
 by_ : ∀ j, f j ≠ 0 → (∃ x ∈ l, x.k = 3 ∧ x.p = j ∧ x.o = f j) ∧ f j ≤ be
 own : ∀ j : Nat, f j = be → (j : Int) ≤ E
 ep0 : E = 0 ∨ f E.toNat ≠ 0
 e0 : 0 ≤ E
 e1 : E ≤ ep
 be1 : 1 ≤ be
 opn : q = 3 → f ep.toNat ≠ 0
section
variable {sw ep b q be E : Int} {f : Nat → Int} {l : List Sv}
theorem Hinv.push (h : Hinv ep b q be E f l) (x : Sv) (h3 : x.k = 3 → (x.p ≤ ep ∧ (x.p = ep → q ≠ 1 ∧ x.o = b)) ∧ ∀ y ∈ l, y.k = 3 → y.p = x.p → y.o = x.o) (h4 : x.k = 4 → f x.p.toNat ≠ 0) : Hinv ep b q be E f (l ++ [x]) := by
 have hm : ∀ y, y ∈ l ++ [x] → y ∈ l ∨ y = x := fun y hy => by simpa using hy
 refine ⟨fun y hy hk => ?_, fun y hy z hz hk hk2 hp => ?_, fun y hy hk => ?_, fun j hj => ?_, h.own, h.ep0, h.e0, h.e1, h.be1, h.opn⟩
 ·rcases hm y hy with hy | rfl
  ·exact h.syn y hy hk
  ·exact (h3 hk).1
 ·rcases hm y hy with hy1 | e1
  ·rcases hm z hz with hz1 | e2
   ·exact h.one y hy1 z hz1 hk hk2 hp
   ·rw [e2] at hk2 hp ⊢
    exact (h3 hk2).2 y hy1 hk hp
  ·rw [e1] at hk hp ⊢
   rcases hm z hz with hz1 | e2
   ·exact ((h3 hk).2 z hz1 hk2 hp.symm).symm
   ·rw [e2]
 ·rcases hm y hy with hy | rfl
  ·exact h.ack y hy hk
  ·exact h4 hk
 ·obtain ⟨⟨y, hy, h1, h2, h5⟩, h6⟩ := h.by_ j hj
  exact ⟨⟨y, by simp [hy], h1, h2, h5⟩, h6⟩
theorem Hinv.says (h : Hinv ep b q be E f l) (hq : q = 1 ∨ q = 2) : Hinv ep b q be E f (l ++ [saysC sw ep b q]) := by
 rcases hq with rfl | rfl
 ·exact h.push _ (fun e => by simp [saysC, svHello] at e) (fun e => by simp [saysC, svHello] at e)
 ·refine h.push _ (fun _ => ⟨⟨Int.le_refl _, fun _ => ⟨by decide, rfl⟩⟩, fun y hy hk hp => ?_⟩) (fun e => by simp [saysC, svSyn] at e)
  exact ((h.syn y hy hk).2 hp).2
theorem Hinv.take (h : Hinv ep b q be E f l) {x : Sv} (hx : x ∈ l) : Hinv ep (bC x sw ep b q) (qC x sw ep q) be E f l := by
 unfold bC qC
 cases hg : goC x sw ep q with
 | false => simpa using h
 | true =>
  have h0 := hg
  unfold goC at h0
  rcases Bool.or_eq_true_iff.mp h0 with h1 | h1
  ·obtain ⟨h2, h3⟩ := Bool.and_eq_true_iff.mp h1
   have e : q = 1 := by simpa using h2
   subst e
   simp
   exact ⟨fun y hy hk => ⟨(h.syn y hy hk).1, fun hp => absurd rfl ((h.syn y hy hk).2 hp).1⟩, h.one, h.ack, h.by_, h.own, h.ep0, h.e0, h.e1, h.be1, fun e => absurd e (by decide)⟩
  ·obtain ⟨h2, h3⟩ := Bool.and_eq_true_iff.mp h1
   have e : q = 2 := by simpa using h2
   subst e
   obtain ⟨h4, h5⟩ := Bool.and_eq_true_iff.mp h3
   obtain ⟨h6, h7⟩ := Bool.and_eq_true_iff.mp h5
   have hp : x.p = ep := by simpa using h7
   simp
   exact ⟨fun y hy hk => ⟨(h.syn y hy hk).1, fun hp => ⟨by decide, ((h.syn y hy hk).2 hp).2⟩⟩, h.one, h.ack, h.by_, h.own, h.ep0, h.e0, h.e1, h.be1, fun _ => by rw [← hp]; exact h.ack x hx (Sv.is_k h4)⟩
theorem Hinv.gHi (h : Hinv ep b q be E f l) (x : Sv) (hb : begG x sw be E = false) (hi : isG x sw be E = true) : Hinv ep b q be E f (l ++ [ansG x sw be E]) := by
 unfold isG at hi
 cases hh : helloG x sw with
 | true =>
  have e : ansG x sw be E = svHi sw be := by unfold ansG; rw [hh]; rfl
  rw [e]
  exact h.push _ (fun e => by simp [svHi] at e) (fun e => by simp [svHi] at e)
 | false =>
  rw [hh] at hi
  have ha : ackG x sw be E = true := by simpa using hi
  have e : ansG x sw be E = svAck sw x.p := by unfold ansG; rw [hh, ha]; rfl
  rw [e]
  obtain ⟨h1, h2⟩ := Bool.and_eq_true_iff.mp ha
  have h3 : E ≤ x.p := of_decide_eq_true h2
  have h4 : ¬ E < x.p := by
   unfold begG at hb
   rw [ha] at hb
   simpa using hb
  have h5 : x.p = E := by omega
  have h6 := off_pos h1
  refine h.push _ (fun e => by simp [svAck] at e) (fun _ => ?_)
  show f x.p.toNat ≠ 0
  rw [h5]
  exact h.ep0.resolve_left (by omega)
theorem Hinv.begins (h : Hinv ep b q be E f l) {x : Sv} (hx : x ∈ l) (hb : begG x sw be E = true) :
  isG x sw be E = true ∧ epG x sw be E = x.p ∧ E < x.p ∧ x.p ≤ ep ∧ x.o = be ∧ f x.p.toNat = 0 ∧ Hinv ep b q be x.p (upd f x.p.toNat be) (l ++ [ansG x sw be E]) := by
 unfold begG at hb
 obtain ⟨ha, h1⟩ := Bool.and_eq_true_iff.mp hb
 have hlt : E < x.p := of_decide_eq_true h1
 have ha' := ha
 unfold ackG at ha
 obtain ⟨ho, _⟩ := Bool.and_eq_true_iff.mp ha
 have hh := off_not ho
 have hi := (Bool.and_eq_true_iff.mp ho).1
 have hk := Sv.is_k hi
 have hoo : x.o = be := by
  have := (Bool.and_eq_true_iff.mp (Bool.and_eq_true_iff.mp ho).2).2
  simpa using this
 have hs := h.syn x hx hk
 have h0 := h.e0
 have hf : f x.p.toNat = 0 := by
  by_cases hz : f x.p.toNat = 0
  ·exact hz
  ·obtain ⟨⟨y, hy, hyk, hyp, hyo⟩, _⟩ := h.by_ _ hz
   have h2 := h.one x hx y hy hk hyk (by omega)
   have h3 := h.own x.p.toNat (by omega)
   omega
 have hans : ansG x sw be E = svAck sw x.p := by unfold ansG; rw [hh, ha']; rfl
 have hbe := h.be1
 refine ⟨by unfold isG; rw [ha']; simp, by unfold epG; rw [ha']; rfl, hlt, hs.1, hoo, hf, ?_⟩
 have hnew : Hinv ep b q be x.p (upd f x.p.toNat be) l := by
  have hu : upd f x.p.toNat be x.p.toNat = be := by simp [upd]
  have hv : ∀ j, f j ≠ 0 → upd f x.p.toNat be j ≠ 0 := fun j hj => by
   unfold upd
   split
   ·omega
   ·exact hj
  refine ⟨h.syn, h.one, fun y hy hk => hv _ (h.ack y hy hk), fun j hj => ?_, fun j hj => ?_, .inr (by rw [hu]; omega), by omega, hs.1, h.be1, fun e => hv _ (h.opn e)⟩
  ·by_cases hj2 : j = x.p.toNat
   ·subst hj2
    rw [hu]
    exact ⟨⟨x, hx, hk, by omega, hoo⟩, Int.le_refl _⟩
   ·have e : upd f x.p.toNat be j = f j := if_neg hj2
    rw [e] at hj ⊢
    exact h.by_ j hj
  ·by_cases hj2 : j = x.p.toNat
   ·omega
   ·have e : upd f x.p.toNat be j = f j := if_neg hj2
    rw [e] at hj
    have := h.own j hj
    omega
 rw [hans]
 refine hnew.push _ (fun e => by simp [svAck] at e) (fun _ => ?_)
 show upd f x.p.toNat be x.p.toNat ≠ 0
 simp [upd]
 omega
theorem Hinv.boot (h : Hinv ep b q be E f l) : Hinv ep b q (be + 1) 0 f l :=
 ⟨h.syn, h.one, h.ack, fun j hj => ⟨(h.by_ j hj).1, by have := (h.by_ j hj).2; omega⟩, fun j hj => by
  have h1 := h.be1
  have h2 := (h.by_ j (by omega)).2
  omega, .inl rfl, by omega, by have := h.e0; have := h.e1; omega, by have := h.be1; omega, h.opn⟩
theorem Hinv.anew (h : Hinv ep b q be E f l) : Hinv (ep + 1) 0 1 be E f l :=
 ⟨fun x hx hk => ⟨by have := (h.syn x hx hk).1; omega, fun hp => by have := (h.syn x hx hk).1; omega⟩, h.one, h.ack, h.by_, h.own, h.ep0, h.e0, by have := h.e1; omega, h.be1, fun e => absurd e (by decide)⟩
end
end Go.Proofs.YtnoflfbcgbhipaaGreat.Oct
