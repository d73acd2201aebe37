/- Rows of what is sent: as rows of outputs, whose fields are bytes. -/
import Derived.Test.YtcolklkjaifplaaRulA
namespace Go.Proofs.Ytcolklkjaifplaa.Oct
open Go.RowKit
set_option linter.unusedVariables false
set_option linter.unusedSimpArgs false

/-- The slice (A, n, c) reads as the outputs os, and lies below block B. -/
def Rs (w : World) (B : Nat) (A : Option Addr) (n c : Nat) (os : List OutV) : Prop :=
  os.length = n ∧ n ≤ c ∧ c ≤ maxLen ∧ (A = none → c = 0) ∧
  (0 < n → ∃ b off, A = some ⟨b, off, none⟩ ∧ b < B ∧ ∀ j o, os[j]? = some o → w.cell? ⟨b, off + j * 4, none⟩ = some (.int .i64 o.p) ∧ w.cell? ⟨b, off + j * 4 + 1, none⟩ = some (.int .u8 o.a) ∧ w.cell? ⟨b, off + j * 4 + 2, none⟩ = some (.int .u8 o.b) ∧ w.cell? ⟨b, off + j * 4 + 3, none⟩ = some (.int .u8 o.c))
section
variable {w w' : World} {B B' : Nat} {A : Option Addr} {n c : Nat} {os : List OutV}
theorem Rs.len (h : Rs w B A n c os) : os.length = n := h.1
theorem Rs.le (h : Rs w B A n c os) : n ≤ c := h.2.1
theorem Rs.cap (h : Rs w B A n c os) : c ≤ maxLen := h.2.2.1
theorem Rs.max (h : Rs w B A n c os) : (n : Int) ≤ 9223372036854775807 := by have := h.2.1; have := h.2.2.1; unfold maxLen at this; omega
theorem Rs.at_ (h : Rs w B A n c os) (hn : 0 < n) : ∃ b off, A = some ⟨b, off, none⟩ ∧ b < B ∧ ∀ j o, os[j]? = some o → w.cell? ⟨b, off + j * 4, none⟩ = some (.int .i64 o.p) ∧ w.cell? ⟨b, off + j * 4 + 1, none⟩ = some (.int .u8 o.a) ∧ w.cell? ⟨b, off + j * 4 + 2, none⟩ = some (.int .u8 o.b) ∧ w.cell? ⟨b, off + j * 4 + 3, none⟩ = some (.int .u8 o.c) := h.2.2.2.2 hn
theorem Rs.keep (h : Rs w B A n c os) (hk : ∀ b o, b < B → w'.cell? ⟨b, o, none⟩ = w.cell? ⟨b, o, none⟩) : Rs w' B A n c os :=
  ⟨h.1, h.2.1, h.2.2.1, h.2.2.2.1, fun hn => by
    obtain ⟨b, off, e, hb, hc⟩ := h.at_ hn
    refine ⟨b, off, e, hb, fun j o hj => ?_⟩
    rw [hk b _ hb, hk b _ hb, hk b _ hb, hk b _ hb]
    exact hc j o hj⟩
theorem Rs.below (h : Rs w B A n c os) (hb : Below B w w') : Rs w' B A n c os := h.keep fun b o hlt => hb.cell (p := ⟨b, o, none⟩) hlt
theorem Rs.below' (h : Rs w B A n c os) (hb : Below B' w w') (hB : B ≤ B') : Rs w' B A n c os := h.below (hb.mono hB)
theorem Rs.more (h : Rs w B A n c os) (hB : B ≤ B') : Rs w B' A n c os :=
  ⟨h.1, h.2.1, h.2.2.1, h.2.2.2.1, fun hn => by
    obtain ⟨b, off, e, hb, hc⟩ := h.at_ hn
    exact ⟨b, off, e, by omega, hc⟩⟩
theorem Rs.nil (w : World) (B : Nat) : Rs w B none 0 0 [] := ⟨rfl, Nat.le_refl _, Nat.zero_le _, fun _ => rfl, fun h => absurd h (by omega)⟩
theorem Rs.pre (h : Rs w B A n c os) (k : Nat) (hk : k ≤ n) : Rs w B A k c (os.take k) :=
  ⟨by rw [List.length_take, h.len]; omega, by have := h.le; omega, h.cap, h.2.2.2.1, fun hn => by
    obtain ⟨b, off, e, hb, hc⟩ := h.at_ (by omega)
    refine ⟨b, off, e, hb, fun j o hj => hc j o ?_⟩
    rw [List.getElem?_take] at hj
    split at hj
    · exact hj
    · simp at hj⟩
theorem Rs.drew (h : Rs w B A n c os) : Rs w.drew B A n c os := h.below (Below.refl _ _).drew
end

/-- The outputs os, in a block from lo on. -/
def Rsn (w : World) (lo : Nat) (A : Option Addr) (n c : Nat) (os : List OutV) : Prop := Rs w w.heap.size A n c os ∧ (0 < n → ∀ a, A = some a → lo ≤ a.block)
section
variable {w w' : World} {lo n c r : Nat} {A : Option Addr} {os : List OutV}
theorem Rsn.nil (w : World) (lo : Nat) : Rsn w lo none 0 0 [] := ⟨Rs.nil _ _, fun h => absurd h (by omega)⟩
theorem Rsn.keep (h : Rsn w lo A n c os) (hz : w.heap.size ≤ w'.heap.size) (hk : ∀ b, lo ≤ b → b < w.heap.size → w'.heap[b]? = w.heap[b]?) : Rsn w' lo A n c os := by
  refine ⟨⟨h.1.1, h.1.2.1, h.1.2.2.1, h.1.2.2.2.1, fun hn => ?_⟩, h.2⟩
  obtain ⟨b, off, e, hb, hc⟩ := h.1.at_ hn
  refine ⟨b, off, e, by omega, fun j o hj => ?_⟩
  have hl := h.2 hn _ e
  have := hc j o hj
  simp only [World.cell?_of_block (w := w) (w' := w') (a := ⟨b, _, none⟩) (hk b hl hb)]
  exact this
theorem Rsn.grown (h : Rsn w lo A n c os) (hg : w.grownBy w' (some r)) (hr : r < lo) : Rsn w' lo A n c os := h.keep hg.size (fun b h1 h2 => hg.block b h2 (by simp; omega))
theorem Rsn.below (h : Rsn w lo A n c os) (hb : Below w.heap.size w w') : Rsn w' lo A n c os := h.keep hb.size (fun b _ h2 => hb.block b h2)
theorem Rsn.lower {lo' : Nat} (h : Rsn w lo A n c os) (hl : lo' ≤ lo) : Rsn w lo' A n c os := ⟨h.1, fun hn a e => Nat.le_trans hl (h.2 hn a e)⟩
theorem Rsn.ro (h : Rsn w lo A n c os) : Rs w w.heap.size A n c os := h.1
end
/-- An output's cells; outputs in a block. -/
def scs (o : OutV) : List Value := [.int .i64 o.p, .int .u8 o.a, .int .u8 o.b, .int .u8 o.c]
theorem flat_scs_len (os : List OutV) : (os.flatMap scs).length = os.length * 4 := by
  induction os with
  | nil => rfl
  | cons o os ih => rw [List.flatMap_cons, List.length_append, ih, List.length_cons]; simp [scs]; omega
theorem flat_scs_get (os : List OutV) : ∀ (j : Nat) (o : OutV), os[j]? = some o → (os.flatMap scs)[j * 4]? = some (.int .i64 o.p) ∧ (os.flatMap scs)[j * 4 + 1]? = some (.int .u8 o.a) ∧ (os.flatMap scs)[j * 4 + 2]? = some (.int .u8 o.b) ∧ (os.flatMap scs)[j * 4 + 3]? = some (.int .u8 o.c) := by
  induction os with
  | nil => intro j o h; simp at h
  | cons x os ih =>
    intro j o h
    cases j with
    | zero =>
      simp only [List.getElem?_cons_zero, Option.some.injEq] at h
      subst h
      exact ⟨rfl, rfl, rfl, rfl⟩
    | succ j =>
      rw [List.getElem?_cons_succ] at h
      have e : ∀ i, (List.flatMap scs (x :: os))[(j + 1) * 4 + i]? = (os.flatMap scs)[j * 4 + i]? := by
        intro i
        rw [List.flatMap_cons, List.getElem?_append_right (by simp [scs]; omega)]
        congr 1
        simp [scs]; omega
      have := e 0
      simp only [Nat.add_zero] at this
      rw [this, e 1, e 2, e 3]
      exact ih j o h
theorem flat_scs_set (os : List OutV) : ∀ (k : Nat) (o : OutV), k < os.length → ((((os.flatMap scs).set (k * 4) (.int .i64 o.p)).set (k * 4 + 1) (.int .u8 o.a)).set (k * 4 + 2) (.int .u8 o.b)).set (k * 4 + 3) (.int .u8 o.c) = (os.set k o).flatMap scs := by
  induction os with
  | nil => intro k o h; simp at h
  | cons x os ih =>
    intro k o h
    cases k with
    | zero => rfl
    | succ k =>
      rw [List.set_cons_succ, List.flatMap_cons, List.flatMap_cons, ← ih k o (by simpa using h)]
      have e : ∀ (i : Nat) (l : List Value) (v : Value), (scs x ++ l).set ((k + 1) * 4 + i) v = scs x ++ l.set (k * 4 + i) v := by
        intro i l v
        rw [List.set_append_right _ _ (by simp [scs]; omega)]
        congr 2
        simp [scs]; omega
      have e0 := e 0
      simp only [Nat.add_zero] at e0
      rw [e0, e 1, e 2, e 3]
theorem Rsn.of_vb {T : TypeId} {w : World} {b lo : Nat} {os : List OutV} (h : Vb T w b (os.flatMap scs)) (hl : lo ≤ b) (hm : os.length ≤ 1000) : Rsn w lo (some ⟨b, 0, none⟩) os.length os.length os := by
  refine ⟨⟨rfl, Nat.le_refl _, by unfold maxLen; omega, fun e => by simp at e, fun hn => ⟨b, 0, rfl, h.lt, fun j o hj => ?_⟩⟩, fun _ a e => by simp at e; subst e; exact hl⟩
  obtain ⟨h0, h1, h2, h3⟩ := flat_scs_get os j o hj
  simp only [Nat.zero_add]
  exact ⟨h.cell _ h0, h.cell _ h1, h.cell _ h2, h.cell _ h3⟩

section
variable {w w' : World} {base n c r : Nat} {v : Value} {os : List OutV}
end
theorem rs_cells {w : World} {B m c b off : Nat} {os : List OutV} (hr : Rs w B (some ⟨b, off, none⟩) m c os) : ∀ j u, (os.flatMap scs)[j]? = some u → w.cell? (Addr.add ⟨b, off, none⟩ j) = some u := by
  intro j u hu
  rw [add_addr]
  have hj : j < (os.flatMap scs).length := (List.getElem?_eq_some_iff.1 hu).1
  rw [flat_scs_len] at hj
  have hlen := hr.len
  obtain ⟨b', off', e, _, hc⟩ := hr.at_ (by omega)
  have e := Option.some.inj e
  have eb := congrArg Addr.block e
  have eo := congrArg Addr.off e
  simp only at eb eo
  subst eb eo
  obtain ⟨o, ho⟩ : ∃ o, os[j / 4]? = some o := ⟨_, List.getElem?_eq_getElem (by omega)⟩
  obtain ⟨c0, c1, c2, c3⟩ := hc _ o ho
  obtain ⟨q0, q1, q2, q3⟩ := flat_scs_get os _ o ho
  rcases (show j = j / 4 * 4 ∨ j = j / 4 * 4 + 1 ∨ j = j / 4 * 4 + 2 ∨ j = j / 4 * 4 + 3 by omega) with h | h | h | h
  · rw [h] at hu ⊢; rw [q0] at hu; simp at hu; subst hu; exact c0
  · rw [h] at hu ⊢; rw [q1] at hu; simp at hu; subst hu; rw [← Nat.add_assoc]; exact c1
  · rw [h] at hu ⊢; rw [q2] at hu; simp at hu; subst hu; rw [← Nat.add_assoc]; exact c2
  · rw [h] at hu ⊢; rw [q3] at hu; simp at hu; subst hu; rw [← Nat.add_assoc]; exact c3
def eqSB (x y : OutV) : Bool := (x.p == y.p) && (x.a == y.a && (x.b == y.b && x.c == y.c))
theorem eqSB_iff (x y : OutV) : eqSB x y = true ↔ x = y := by
  obtain ⟨p, a, b, c⟩ := x
  obtain ⟨p', a', b', c'⟩ := y
  unfold eqSB
  simp only [Bool.and_eq_true, beq_iff_eq, OutV.mk.injEq]
end Go.Proofs.Ytcolklkjaifplaa.Oct
