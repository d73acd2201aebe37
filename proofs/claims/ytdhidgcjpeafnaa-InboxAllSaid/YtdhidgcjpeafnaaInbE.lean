/- Layer 14 (inbox): an inbox of numbers to which the number n comes as the message at the place n: what it tells. -/
import Derived.Test.YtdhidgcjpeafnaaInbI
namespace Go.Proofs.Ytdhidgcjpeafnaa.Oct
open Go.RowKit
set_option linter.unusedVariables false
set_option linter.unusedSimpArgs false
/-- What is kept of a place. -/
def pb (h : Bool) (z : Int) : OV := if h then some (.int .i64 z) else none
theorem shp_i (h1 h2 h3 : Bool) (t : Int) : Shp_i (pb h1 (t + 1)) (pb h2 (t + 2)) (pb h3 (t + 3)) :=
  ⟨fun v h => by unfold pb at h; split at h; exact ⟨_, (Option.some.inj h).symm⟩; simp at h, fun v h => by unfold pb at h; split at h; exact ⟨_, (Option.some.inj h).symm⟩; simp at h, fun v h => by unfold pb at h; split at h; exact ⟨_, (Option.some.inj h).symm⟩; simp at h⟩
/-- How many of four are there, one behind the other; what is left behind them. -/
def ld4 : Bool → Bool → Bool → Bool → Nat
  | false, _, _, _ => 0
  | true, false, _, _ => 1
  | true, true, false, _ => 2
  | true, true, true, false => 3
  | true, true, true, true => 4
def lf4 : Bool → Bool → Bool → Bool → Bool × Bool × Bool
  | false, a, b, c => (a, b, c)
  | true, false, b, c => (b, c, false)
  | true, true, false, c => (c, false, false)
  | true, true, true, _ => (false, false, false)
theorem ld4_step (a b c : Bool) : ld4 true a b c = ld4 a b c false + 1 := by cases a <;> cases b <;> cases c <;> rfl
theorem lf4_step (a b c : Bool) : lf4 true a b c = lf4 a b c false := by cases a <;> cases b <;> cases c <;> rfl
theorem ld4_le (a b c d : Bool) : ld4 a b c d ≤ 4 := by cases a <;> cases b <;> cases c <;> cases d <;> decide
/-- Numbers, one behind the other. -/
def rngV (t : Int) (n : Nat) : List Value := (List.range n).map fun (j : Nat) => Value.int .i64 (t + (j : Int))
theorem rngV_len (t : Int) (n : Nat) : (rngV t n).length = n := by simp [rngV]
theorem rngV_at (t : Int) (n j : Nat) (h : j < n) : (rngV t n)[j]? = some (.int .i64 (t + (j : Int))) := by simp [rngV, h]
theorem rngV_add (t : Int) (n m : Nat) : rngV t n ++ rngV (t + n) m = rngV t (n + m) := by
  unfold rngV
  rw [List.range_add, List.map_append, List.map_map]
  congr 1
  apply List.map_congr_left
  intro j _
  show Value.int .i64 _ = Value.int .i64 _
  congr 1
  push_cast
  omega
theorem fol_rng (t : Int) (h1 h2 h3 : Bool) : Value.int .i64 t :: folK (pb h1 (t + 1)) (pb h2 (t + 2)) (pb h3 (t + 3)) = rngV t (ld4 true h1 h2 h3) := by
  cases h1 <;> cases h2 <;> cases h3 <;> simp [folK, pb, ld4, rngV, List.range_succ]
theorem fol_len (t : Int) (h1 h2 h3 : Bool) : 1 + (folK (pb h1 (t + 1)) (pb h2 (t + 2)) (pb h3 (t + 3))).length = ld4 true h1 h2 h3 := by
  cases h1 <;> cases h2 <;> cases h3 <;> simp [folK, pb, ld4]
abbrev II (w : World) (x b : Nat) (nx : Int) (p1 p2 p3 : OV) : Prop := Ib 52 w x b nx p1 p2 p3
/-- An inbox of numbers: t were told, of the next ones those are kept. -/
def It4 (w : World) (x b : Nat) (base t : Int) (h : Bool × Bool × Bool) : Prop := II w x b (Ser.plusP base t) (pb h.1 (t + 1)) (pb h.2.1 (t + 2)) (pb h.2.2 (t + 3))
section
variable {w w' : World} {x b : Nat} {base t : Int} {h1 h2 h3 : Bool} {S : Nat → Prop} {h : Bool × Bool × Bool}
theorem It4.stay (k : It4 w x b base t h) (hc : Ch S w w') (hx : ¬ S x) (hb : ¬ S b) : It4 w' x b base t h := Ib.stay k hc hx hb
theorem It4.below (k : It4 w x b base t h) (hb : Below w.heap.size w w') : It4 w' x b base t h := Ib.below k hb
theorem It4.rst (k : Ib 52 w x b (Ser.plusP (Ser.plusP base t) (ld4 true h1 h2 h3 : Nat)) (rst (pb h1 (t + 1)) (pb h2 (t + 2)) (pb h3 (t + 3))).1 (rst (pb h1 (t + 1)) (pb h2 (t + 2)) (pb h3 (t + 3))).2.1 (rst (pb h1 (t + 1)) (pb h2 (t + 2)) (pb h3 (t + 3))).2.2) : It4 w x b base (t + (ld4 true h1 h2 h3 : Nat)) (lf4 true h1 h2 h3) := by
  unfold It4
  rw [plusP_plusP] at k
  cases h1 <;> cases h2 <;> cases h3 <;> simpa [rst, pb, lf4, ld4, Int.add_assoc] using k
theorem It4.ack (k : It4 w x b base t h) : Calls Try.prog 20 #[.pointer (some ⟨x, 0, none⟩)] w fun e w' => e = .returned (.int .i64 (Ser.plusP base t)) ∧ w' = w := xack_i k
/-- A row of numbers is none of its blocks. -/
theorem It4.no_row (k : It4 w x b base t h) {lo n : Nat} {v : Value} {xs : List Value} (hv : Vr 3 w lo v n xs) : ∀ k, v.ownBlock = some k → ¬ (k = x ∨ k = b) := fun k2 hk => by
  obtain ⟨cur, hcur⟩ := hv.typed k2 hk
  rintro (e | e)
  · exact vb_ne (show Vb 3 w k2 cur.toList from by simpa [Vb] using hcur) (show II w x b _ _ _ _ from k).own (by decide) e
  · exact (show II w x b _ _ _ _ from k).mp.nocell _ _ _ (e ▸ hcur)
/-- One comes that is none of the next four. -/
theorem xstep_out (k : It4 w x b base t (h1, h2, h3)) (n : Int) (hn : -3 ≤ n ∧ n ≤ 5) (ho : n < 0 ∨ 4 ≤ n) (seq m : Int) (hs : seq = Ser.plusP base (t + n)) : Calls Try.prog 19 #[.pointer (some ⟨x, 0, none⟩), .int .i64 seq, .int .i64 m] w fun e w' => e = .returned (.tuple #[.slice none 0 0, .int .i64 9]) ∧ Below w.heap.size w w' := by
  subst hs
  have hbd := plusP_bd base (t + n)
  exact xtake_range_i k _ hbd.1 (by omega) (by unfold Ser.plusP; omega) m
theorem plusP_add (a t d : Int) : Ser.plusP a (t + d) = Ser.plusP (Ser.plusP a t) d := by rw [plusP_plusP]
/-- One of the next four comes. -/
theorem xstep_in (k : It4 w x b base t (h1, h2, h3)) (j : Nat) (hj : j < 4) (seq m : Int) (hs : seq = Ser.plusP base (t + j)) (hm : m = t + j) {g0 g1 g2 g3 : Bool} (hg : [false, h1, h2, h3].set j true = [g0, g1, g2, g3]) :
    Calls Try.prog 19 #[.pointer (some ⟨x, 0, none⟩), .int .i64 seq, .int .i64 m] w fun e w' => ∃ A c, e = .returned (.tuple #[.slice A (ld4 g0 g1 g2 g3) c, .int .i64 0]) ∧ Vr 3 w' w.heap.size (.slice A (ld4 g0 g1 g2 g3) c) (ld4 g0 g1 g2 g3) (rngV t (ld4 g0 g1 g2 g3)) ∧ It4 w' x b base (t + (ld4 g0 g1 g2 g3 : Nat)) (lf4 g0 g1 g2 g3) ∧ Ch (fun k => k = x ∨ k = b) w w' := by
  subst hs hm
  have cases4 : j = 0 ∨ j = 1 ∨ j = 2 ∨ j = 3 := by omega
  rcases cases4 with rfl | rfl | rfl | rfl
  · simp at hg
    obtain ⟨rfl, rfl, rfl, rfl⟩ := hg
    have e1 : Ser.plusP base (t + (0 : Nat)) = Ser.plusP base t := by simp
    have e2 : t + ((0 : Nat) : Int) = t := by simp
    rw [e1, e2]
    refine (xtake_tell_i k (shp_i h1 h2 h3 t) t).mono ?_
    rintro e w' ⟨A, n, c, rfl, hn, hV, hI, hC⟩
    rw [fol_len] at hn
    rw [fol_rng] at hV
    subst hn
    exact ⟨A, c, rfl, hV, It4.rst hI, hC⟩
  · simp at hg
    obtain ⟨rfl, rfl, rfl, rfl⟩ := hg
    have e1 : Ser.plusP base (t + ((1 : Nat) : Int)) = Ser.plusP (Ser.plusP base t) 1 := plusP_add _ _ _
    rw [e1]
    refine (xtake_ahead_i k (shp_i h1 h2 h3 t) 1 (.inl rfl) (t + 1)).mono ?_
    rintro e w' ⟨rfl, hI, hC⟩
    refine ⟨none, 0, rfl, Vr.nil0 _ _ _, ?_, hC.mono (fun _ _ e => Or.inr e)⟩
    unfold It4
    simp only [ld4, lf4]
    cases h1 <;> simpa [atD, pb] using hI
  · simp at hg
    obtain ⟨rfl, rfl, rfl, rfl⟩ := hg
    have e1 : Ser.plusP base (t + ((2 : Nat) : Int)) = Ser.plusP (Ser.plusP base t) 2 := plusP_add _ _ _
    rw [e1]
    refine (xtake_ahead_i k (shp_i h1 h2 h3 t) 2 (.inr (.inl rfl)) (t + 2)).mono ?_
    rintro e w' ⟨rfl, hI, hC⟩
    refine ⟨none, 0, rfl, Vr.nil0 _ _ _, ?_, hC.mono (fun _ _ e => Or.inr e)⟩
    unfold It4
    simp only [ld4, lf4]
    cases h2 <;> simpa [atD, pb] using hI
  · simp at hg
    obtain ⟨rfl, rfl, rfl, rfl⟩ := hg
    have e1 : Ser.plusP base (t + ((3 : Nat) : Int)) = Ser.plusP (Ser.plusP base t) 3 := plusP_add _ _ _
    rw [e1]
    refine (xtake_ahead_i k (shp_i h1 h2 h3 t) 3 (.inr (.inr rfl)) (t + 3)).mono ?_
    rintro e w' ⟨rfl, hI, hC⟩
    refine ⟨none, 0, rfl, Vr.nil0 _ _ _, ?_, hC.mono (fun _ _ e => Or.inr e)⟩
    unfold It4
    simp only [ld4, lf4]
    cases h3 <;> simpa [atD, pb] using hI
/-- .. said as what one of the next four does. -/
theorem xstep_out2 (k : It4 w x b base t (h1, h2, h3)) (n : Int) (hn : -3 ≤ n ∧ n ≤ 5) (ho : n < 0 ∨ 4 ≤ n) (seq m : Int) (hs : seq = Ser.plusP base (t + n)) {g0 g1 g2 g3 : Bool} (hg : [false, h1, h2, h3] = [g0, g1, g2, g3]) :
    Calls Try.prog 19 #[.pointer (some ⟨x, 0, none⟩), .int .i64 seq, .int .i64 m] w fun e w' => ∃ A c, e = .returned (.tuple #[.slice A (ld4 g0 g1 g2 g3) c, .int .i64 9]) ∧ Vr 3 w' w.heap.size (.slice A (ld4 g0 g1 g2 g3) c) (ld4 g0 g1 g2 g3) (rngV t (ld4 g0 g1 g2 g3)) ∧ It4 w' x b base (t + (ld4 g0 g1 g2 g3 : Nat)) (lf4 g0 g1 g2 g3) ∧ Ch (fun k => k = x ∨ k = b) w w' := by
  simp at hg
  obtain ⟨rfl, rfl, rfl, rfl⟩ := hg
  refine (xstep_out k n hn ho seq m hs).mono ?_
  rintro e w' ⟨rfl, hb⟩
  refine ⟨none, 0, rfl, Vr.nil0 _ _ _, ?_, .of_below hb⟩
  have := It4.below k hb
  simpa [ld4, lf4] using this
end
theorem inbOp_append {o : Oper} {a : Act} (d : Tmp) (hd : o.dst = some d) {K : Act → World → Prop} {Q : Exit → Act → World → Prop} {t : TypeId} {w w' : World} (s x : Operand) (ho : o.op = .call { callee := .builtin .append, args := #[s, x], argTypes := #[t, t] }) {v u y : Value} (hs : a.eval s = v) (hx : a.eval x = u)
    (hrun : (Builtin.append_ #[t, t] o.type #[v, u]).run Try.prog w = .ok y w') (h : K (a.put (some d) y) w') : o.wp Try.prog a w K Q := by
  unfold Oper.wp execOp
  simp only [ho, resolve, invoke, builtin, Sem.run_bind, Sem.run_pure, Result.andThen_ok, List.map_toArray, List.map_cons, List.map_nil, hs, hx, hrun]
  rw [← hd] at h
  exact h
theorem agg_b4 : Agg 45 4 := ⟨⟨_, Try.underlying45, rfl⟩, by kernel_rfl⟩
theorem four_set (h1 h2 h3 : Bool) (j : Nat) (hj : j < 4) : ∃ g0 g1 g2 g3, [false, h1, h2, h3].set j true = [g0, g1, g2, g3] := by
  have cases4 : j = 0 ∨ j = 1 ∨ j = 2 ∨ j = 3 := by omega
  rcases cases4 with rfl | rfl | rfl | rfl <;> exact ⟨_, _, _, _, rfl⟩
end Go.Proofs.Ytdhidgcjpeafnaa.Oct
