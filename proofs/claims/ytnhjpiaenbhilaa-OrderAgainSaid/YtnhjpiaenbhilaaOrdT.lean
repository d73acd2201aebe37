/- Outputs that the call owns; append onto them. -/
import Derived.Test.YtnhjpiaenbhilaaOrdM
namespace Go.Proofs.Ytnhjpiaenbhilaa.Oct
open Go.RowKit
set_option linter.unusedVariables false

/-- The value v is a slice of outputs that the call owns, in a block from base on; it holds os. -/
def Owo (w : World) (base : Nat) (v : Value) (n : Nat) (os : List OutV) : Prop := w.ownsRow base 71 4 v n (os.flatMap ocs)
theorem info_outs : (Try.prog.info? 71).map (fun i => (i.zero, i.size, i.bytes)) = some (some (.agg #[.int .i64 0, .int .i64 0, .int .i64 0, .int .i64 0]), 4, 32) := by kernel_rfl
section
variable {w w' : World} {base n c r : Nat} {v : Value} {os : List OutV}
theorem Owo.len (h : Owo w base v n os) : os.length = n := by have := h.1; rw [flat_ocs_len] at this; omega
theorem Owo.nil (w : World) (base : Nat) : Owo w base (.slice none 0 0) 0 [] := World.ownsRow_nil w base _ 4
theorem Owo.form (h : Owo w base v n os) : ∃ A c, v = .slice A n c ∧ n ≤ c ∧ c ≤ maxLen ∧ (A = none → c = 0) ∧ (∀ a, A = some a → ∃ g, a = ⟨g, 0, none⟩ ∧ base ≤ g ∧ g < w.heap.size) := by
  rcases h.2 with ⟨rfl, rfl⟩ | ⟨g, cap, cur, rfl, hbg, hg, hnc, hcm, _⟩
  · exact ⟨none, 0, rfl, Nat.le_refl _, Nat.zero_le _, fun _ => rfl, fun a h => by simp at h⟩
  · exact ⟨some ⟨g, 0, none⟩, cap, rfl, hnc, hcm, fun h => by simp at h, fun a h => ⟨g, by simpa using h.symm, hbg, (Array.getElem?_eq_some_iff.1 hg).1⟩⟩
theorem Owo.keep (h : Owo w base v n os) (hg : w.grownBy w' (some r)) (hlt : r < base) : Owo w' base v n os :=
  World.ownsRow.kept h hg (by
    cases hv : v.ownBlock with
    | none => exact .inl rfl
    | some k => exact .inr (fun e => by simp at e; have := (World.ownsRow.lt h k hv).1; omega))
theorem Owo.below (h : Owo w base v n os) (hb : Below w.heap.size w w') : Owo w' base v n os := by
  refine ⟨h.1, ?_⟩
  rcases h.2 with h2 | ⟨g, cap, cur, e, hbg, hg, r⟩
  · exact .inl h2
  · exact .inr ⟨g, cap, cur, e, hbg, (hb.block g (Array.getElem?_eq_some_iff.1 hg).1).trans hg, r⟩
theorem Owo.lower {b : Nat} (h : Owo w base v n os) (hb : b ≤ base) : Owo w b v n os := by
  refine ⟨h.1, ?_⟩
  rcases h.2 with h2 | ⟨g, cap, cur, e, hbg, r⟩
  · exact .inl h2
  · exact .inr ⟨g, cap, cur, e, by omega, r⟩
theorem Owo.ron {A : Option Addr} (h : Owo w base (.slice A n c) n os) : Ron w base A n c os := by
  obtain ⟨A', c', e, h1, h2, h3, h4⟩ := h.form
  have e1 := Value.slice.inj e
  obtain ⟨e1, _, e3⟩ := e1
  subst e1 e3
  have hl := h.len
  refine ⟨⟨hl, h1, h2, h3, fun hn => ?_⟩, fun hn a ea => by obtain ⟨g, e, hb, _⟩ := h4 a ea; rw [e]; exact hb⟩
  obtain ⟨g, cap, hv, _, hlt⟩ := World.ownsRow.form h hn
  obtain ⟨hA, _, _⟩ := Value.slice.inj hv
  subst hA
  refine ⟨g, 0, rfl, hlt, fun j o hj => ?_⟩
  obtain ⟨q0, q1, q2, q3⟩ := flat_ocs_get os j o hj
  have key := World.ownsRow.cells h (g := g) rfl
  have k0 := key _ _ q0
  have k1 := key _ _ q1
  have k2 := key _ _ q2
  have k3 := key _ _ q3
  rw [add_addr] at k0 k1 k2 k3
  simp only [Nat.zero_add] at k0 k1 k2 k3 ⊢
  exact ⟨k0, k1, k2, k3⟩
end
theorem ro_cells {w : World} {B m c b off : Nat} {os : List OutV} (hr : Ro w B (some ⟨b, off, none⟩) m c os) : ∀ j u, (os.flatMap ocs)[j]? = some u → w.cell? (Addr.add ⟨b, off, none⟩ j) = some u := by
  intro j u hu
  rw [add_addr]
  have hj : j < (os.flatMap ocs).length := (List.getElem?_eq_some_iff.1 hu).1
  rw [flat_ocs_len] at hj
  have hlen := hr.len
  obtain ⟨b', off', e, _, hc⟩ := hr.at_ (by omega)
  have e := Option.some.inj e
  have eb := congrArg Addr.block e
  have eo := congrArg Addr.off e
  simp only at eb eo
  subst eb eo
  obtain ⟨o, ho⟩ : ∃ o, os[j / 4]? = some o := ⟨_, List.getElem?_eq_getElem (by omega)⟩
  obtain ⟨c0, c1, c2, c3⟩ := hc _ o ho
  obtain ⟨q0, q1, q2, q3⟩ := flat_ocs_get os _ o ho
  rcases (show j = j / 4 * 4 ∨ j = j / 4 * 4 + 1 ∨ j = j / 4 * 4 + 2 ∨ j = j / 4 * 4 + 3 by omega) with h | h | h | h
  · rw [h] at hu ⊢; rw [q0] at hu; simp at hu; subst hu; exact c0
  · rw [h] at hu ⊢; rw [q1] at hu; simp at hu; subst hu; rw [← Nat.add_assoc]; exact c1
  · rw [h] at hu ⊢; rw [q2] at hu; simp at hu; subst hu; rw [← Nat.add_assoc]; exact c2
  · rw [h] at hu ⊢; rw [q3] at hu; simp at hu; subst hu; rw [← Nat.add_assoc]; exact c3
/-- append(x, y...) of outputs, x the call's own: as an equation. -/
theorem run_appendO {w : World} (ty : TypeId) {base B : Nat} {v : Value} {n m c : Nat} {A : Option Addr} {os os2 : List OutV} (hown : Owo w base v n os) (hr : Ro w B A m c os2)
    (hsz : n + m ≤ 4398046511104) (hbase : base ≤ w.heap.size) :
    ∃ A' c' w', (Builtin.append_ #[26, 26] ty #[v, .slice A m c]).run Try.prog w = .ok (.slice A' (n + m) c') w' ∧ Owo w' base (.slice A' (n + m) c') (n + m) (os ++ os2) ∧ Below base w w' ∧ w.grownBy w' v.ownBlock := by
  obtain ⟨i0, hi, hz0, hz1, hz2⟩ := info_parts info_outs
  rcases A with _ | ad
  · have hc : c = 0 := hr.2.2.2.1 rfl
    have hm : m = 0 := by have := hr.le; omega
    subst hc hm
    have hl2 : os2 = [] := List.eq_nil_of_length_eq_zero hr.len
    subst hl2
    obtain ⟨A', c', e, _⟩ := hown.form
    subst e
    exact ⟨A', c', w, run_append_owned_none (P := Try.prog) (w := w) base 26 ty 71 i0 4 Try.underlying26 hi _ n _ hown, by simpa using hown, Below.refl _ _, World.grownBy.refl _ _⟩
  · have hcells : ∀ j u, (os2.flatMap ocs)[j]? = some u → w.cell? (ad.add j) = some u := by
      intro j u hu
      have hj : j < (os2.flatMap ocs).length := (List.getElem?_eq_some_iff.1 hu).1
      rw [flat_ocs_len] at hj
      have hlen := hr.len
      obtain ⟨b, off, e, _, _⟩ := hr.at_ (by omega)
      have e := Option.some.inj e
      subst e
      exact ro_cells hr j u hu
    obtain ⟨v', w', hrun, h2, h3, _, h5⟩ := run_append_own_at (P := Try.prog) w base 26 ty 71 i0 _ 4 32 Try.underlying26 hi hz0 hz1 hz2 rfl (by omega) v n _ hown ad m c (os2.flatMap ocs) (by rw [flat_ocs_len, hr.len]) hcells
      (by intro u hu; obtain ⟨x, _, hx⟩ := List.mem_flatMap.1 hu; simp [ocs] at hx; rcases hx with rfl | rfl | rfl | rfl <;> rfl) (by unfold maxLen; omega) (by omega) hbase
    have hown' : Owo w' base v' (n + m) (os ++ os2) := by unfold Owo; rw [List.flatMap_append]; exact h2
    obtain ⟨A', c', e, _⟩ := hown'.form
    subst e
    refine ⟨A', c', w', hrun, hown', (Below.refl base w).grown h3 hbase fun k hk => ?_, h3⟩
    exact (World.ownsRow.lt hown k hk).1
theorem wpList_appendO {w : World} {ops : Array Oper} {rest : List Oper} {o : Oper} {a : Act} {Q : Exit → Act → World → Prop} (hgd : o.guard = none) (s x : Operand)
    (ho : o.op = .call { callee := .builtin .append, args := #[s, x], argTypes := #[26, 26] })
    {base B : Nat} {v : Value} {n m c : Nat} {A : Option Addr} {os os2 : List OutV} (hs : a.eval s = v) (hown : Owo w base v n os) (hx : a.eval x = .slice A m c) (hr : Ro w B A m c os2)
    (hsz : n + m ≤ 4398046511104) (hbase : base ≤ w.heap.size)
    (h : ∀ A' c' w', Owo w' base (.slice A' (n + m) c') (n + m) (os ++ os2) → Below base w w' → w.grownBy w' v.ownBlock → wpList Try.prog ops Q rest (a.put o.dst (.slice A' (n + m) c')) w') : wpList Try.prog ops Q (o :: rest) a w := by
  refine wpList_plain hgd fun K hK => ?_
  obtain ⟨A', c', w', hrun, h2, h3, h4⟩ := run_appendO (w := w) o.type hown hr hsz hbase
  unfold Oper.wp execOp
  simp only [ho, resolve, invoke, builtin, Sem.run_bind, Sem.run_pure, Result.andThen_ok, List.map_toArray, List.map_cons, List.map_nil, hs, hx, hrun]
  exact hK _ _ (h A' c' w' h2 h3 h4)
/-- What another block holds abides an append. -/
theorem Owo.other {w w' : World} {base n g : Nat} {v : Value} {os : List OutV} (h : Owo w base v n os) (hg : w.grownBy w' v.ownBlock) {T : TypeId} {cs : List Value} (hv : Vb T w g cs) (hlt : g < base) : Vb T w' g cs :=
  (hg.block g hv.lt (fun e => by have := (World.ownsRow.lt h g e.symm).1; omega)).trans hv
theorem Owo.rdr {w w' : World} {base n lo g : Nat} {v : Value} {os : List OutV} {T : TypeId} {l : List Int} {e : Int} (h : Owo w base v n os) (hg : w.grownBy w' v.ownBlock) (hR : Rdr T w lo g l e) (hlt : g < base) : Rdr T w' lo g l e :=
  hR.keep hg (fun k e => .inr (by have := (World.ownsRow.lt h k e).1; omega))
theorem Owo.grow {w w1 w2 : World} {base n g : Nat} {v : Value} {os : List OutV} (h : Owo w1 base v n os) (hg : w1.grownBy w2 v.ownBlock) (h0 : w.grownBy w1 (some g)) (hlt : w.heap.size ≤ base) : w.grownBy w2 (some g) :=
  ⟨hg.os.trans h0.os, hg.tape.trans h0.tape, hg.output.trans h0.output, Nat.le_trans h0.size hg.size, fun k hk hne => (hg.block k (Nat.lt_of_lt_of_le hk h0.size) (fun e => by have := (World.ownsRow.lt h k e.symm).1; omega)).trans (h0.block k hk hne)⟩
end Go.Proofs.Ytnhjpiaenbhilaa.Oct
