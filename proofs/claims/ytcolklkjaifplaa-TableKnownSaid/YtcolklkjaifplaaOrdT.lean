/- Words for reading: rows of outputs in new memory; readings by their equations. Outputs that the call owns; append onto them. -/
import Derived.Test.YtcolklkjaifplaaOrdH
namespace Go.Proofs.Ytcolklkjaifplaa.Oct
open Go.RowKit
set_option linter.unusedVariables false

/-- The outputs os, in a block from lo on. -/
def Ron (w : World) (lo : Nat) (A : Option Addr) (n c : Nat) (os : List OutV) : Prop := Ro w w.heap.size A n c os ∧ (0 < n → ∀ a, A = some a → lo ≤ a.block)
section
variable {w w' : World} {lo n c r : Nat} {A : Option Addr} {os : List OutV}
theorem Ron.nil (w : World) (lo : Nat) : Ron w lo none 0 0 [] := ⟨Ro.nil _ _, fun h => absurd h (by omega)⟩
theorem Ron.keep (h : Ron w lo A n c os) (hz : w.heap.size ≤ w'.heap.size) (hk : ∀ b, lo ≤ b → b < w.heap.size → w'.heap[b]? = w.heap[b]?) : Ron w' lo A n c os := by
  refine ⟨⟨h.1.1, h.1.2.1, h.1.2.2.1, h.1.2.2.2.1, fun hn => ?_⟩, h.2⟩
  obtain ⟨b, off, e, hb, hc⟩ := h.1.at_ hn
  refine ⟨b, off, e, by omega, fun j o hj => ?_⟩
  have hl := h.2 hn _ e
  have := hc j o hj
  simp only [World.cell?_of_block (w := w) (w' := w') (a := ⟨b, _, none⟩) (hk b hl hb)]
  exact this
theorem Ron.grown (h : Ron w lo A n c os) (hg : w.grownBy w' (some r)) (hr : r < lo) : Ron w' lo A n c os := h.keep hg.size (fun b h1 h2 => hg.block b h2 (by simp; omega))
theorem Ron.below (h : Ron w lo A n c os) (hb : Below w.heap.size w w') : Ron w' lo A n c os := h.keep hb.size (fun b _ h2 => hb.block b h2)
theorem Ron.lower {lo' : Nat} (h : Ron w lo A n c os) (hl : lo' ≤ lo) : Ron w lo' A n c os := ⟨h.1, fun hn a e => Nat.le_trans hl (h.2 hn a e)⟩
theorem Ron.ro (h : Ron w lo A n c os) : Ro w w.heap.size A n c os := h.1
end
/-- An output's cells; outputs in a block. -/
def ocs (o : OutV) : List Value := [.int .i64 o.p, .int .i64 o.a, .int .i64 o.b, .int .i64 o.c]
theorem flat_ocs_len (os : List OutV) : (os.flatMap ocs).length = os.length * 4 := by
  induction os with
  | nil => rfl
  | cons o os ih => rw [List.flatMap_cons, List.length_append, ih, List.length_cons]; simp [ocs]; omega
theorem flat_ocs_get (os : List OutV) : ∀ (j : Nat) (o : OutV), os[j]? = some o → (os.flatMap ocs)[j * 4]? = some (.int .i64 o.p) ∧ (os.flatMap ocs)[j * 4 + 1]? = some (.int .i64 o.a) ∧ (os.flatMap ocs)[j * 4 + 2]? = some (.int .i64 o.b) ∧ (os.flatMap ocs)[j * 4 + 3]? = some (.int .i64 o.c) := by
  induction os with
  | nil => intro j o h; simp at h
  | cons x os ih =>
    intro j o h
    cases j with
    | zero =>
      simp only [List.getElem?_cons_zero, Option.some.injEq] at h
      subst h
      exact ⟨rfl, rfl, rfl, rfl⟩
    | succ j =>
      rw [List.getElem?_cons_succ] at h
      have e : ∀ i, (List.flatMap ocs (x :: os))[(j + 1) * 4 + i]? = (os.flatMap ocs)[j * 4 + i]? := by
        intro i
        rw [List.flatMap_cons, List.getElem?_append_right (by simp [ocs]; omega)]
        congr 1
        simp [ocs]; omega
      have := e 0
      simp only [Nat.add_zero] at this
      rw [this, e 1, e 2, e 3]
      exact ih j o h
theorem flat_ocs_set (os : List OutV) : ∀ (k : Nat) (o : OutV), k < os.length → ((((os.flatMap ocs).set (k * 4) (.int .i64 o.p)).set (k * 4 + 1) (.int .i64 o.a)).set (k * 4 + 2) (.int .i64 o.b)).set (k * 4 + 3) (.int .i64 o.c) = (os.set k o).flatMap ocs := by
  induction os with
  | nil => intro k o h; simp at h
  | cons x os ih =>
    intro k o h
    cases k with
    | zero => rfl
    | succ k =>
      rw [List.set_cons_succ, List.flatMap_cons, List.flatMap_cons, ← ih k o (by simpa using h)]
      have e : ∀ (i : Nat) (l : List Value) (v : Value), (ocs x ++ l).set ((k + 1) * 4 + i) v = ocs x ++ l.set (k * 4 + i) v := by
        intro i l v
        rw [List.set_append_right _ _ (by simp [ocs]; omega)]
        congr 2
        simp [ocs]; omega
      have e0 := e 0
      simp only [Nat.add_zero] at e0
      rw [e0, e 1, e 2, e 3]
theorem Ron.of_vb {T : TypeId} {w : World} {b lo : Nat} {os : List OutV} (h : Vb T w b (os.flatMap ocs)) (hl : lo ≤ b) (hm : os.length ≤ 1000) : Ron w lo (some ⟨b, 0, none⟩) os.length os.length os := by
  refine ⟨⟨rfl, Nat.le_refl _, by unfold maxLen; omega, fun e => by simp at e, fun hn => ⟨b, 0, rfl, h.lt, fun j o hj => ?_⟩⟩, fun _ a e => by simp at e; subst e; exact hl⟩
  obtain ⟨h0, h1, h2, h3⟩ := flat_ocs_get os j o hj
  simp only [Nat.zero_add]
  exact ⟨h.cell _ h0, h.cell _ h1, h.cell _ h2, h.cell _ h3⟩

section
variable {T ty : TypeId} {w : World} {g off : Nat} {cs vs : List Value} {ops : Array Oper} {rest : List Oper} {o : Oper} {a : Act} {Q : Exit → Act → World → Prop}
theorem run_storeCells_vb (T : TypeId) (g : Nat) : ∀ (vs : List Value) (i off : Nat) (cs : List Value) (w : World), Vb T w g cs → off + i + vs.length ≤ cs.length → (vs.all (·.oneCell') = true) →
    (storeCells ⟨g, off, none⟩ vs i).run Try.prog w = .ok () (putC w g (off + i) vs)
  | [], i, off, cs, w, hv, hl, h1 => rfl
  | v :: rest, i, off, cs, w, hv, hl, h1 => by
    simp only [List.all_cons, Bool.and_eq_true] at h1
    have hi : off + i < cs.length := by simp at hl; omega
    have hcell : w.cell? ⟨g, off + i, none⟩ = some cs[off + i] := hv.cell _ (List.getElem?_eq_getElem hi)
    have hst : (store ((⟨g, off, none⟩ : Addr).add i) v).run Try.prog w = .ok () (w.setCell ⟨g, off + i, none⟩ v) := by
      rw [add_addr, run_store Try.prog w _ v _ h1.1, hcell]
      simp [hv.free (off + i)]
    have ih := run_storeCells_vb T g rest (i + 1) off (cs.set (off + i) v) _ (hv.set (off + i) v) (by simp at hl ⊢; omega) h1.2
    simp only [storeCells, Sem.run_bind, hst, Result.andThen_ok, ih]
    rfl
theorem wpList_store_at (hgd : o.guard = none) (x y : Operand) (ho : o.op = .store ty x y) (hx : a.eval x = .pointer (some ⟨g, off, none⟩)) (hy : a.eval y = .agg vs.toArray) (hv : Vb T w g cs) (hl : off + vs.length ≤ cs.length) (ht : Agg ty vs.length)
    (h1 : vs.all (·.oneCell') = true)
    (h : ∀ w', Vb T w' g (setAll cs off vs) → w.grownBy w' (some g) → w'.heap.size = w.heap.size → wpList Try.prog ops Q rest (a.put o.dst undef) w') : wpList Try.prog ops Q (o :: rest) a w := by
  refine wpList_plain hgd fun K hK => ?_
  have hst := run_storeCells_vb T g vs 0 off cs w hv (by omega) h1
  have hi : (Try.prog.info? ty).map (·.size) = some vs.length := ht.2
  have hrun : (storeVar ty ⟨g, off, none⟩ (.agg vs.toArray)).run Try.prog w = .ok () (putC w g off vs) := by
    cases hq : Try.prog.info? ty with
    | none => simp [hq] at hi
    | some i =>
      have hs : vs.length = i.size := by simp [hq] at hi; omega
      simp [storeVar, sizeOf, typeInfo, hq, Value.cells, hs, hst]
  unfold Oper.wp execOp
  simp only [ho, hx, hy, Instr.storeAt, Instr.sureAddr, Sem.run_bind, Sem.run_pure, Result.andThen_ok, hrun]
  exact hK _ _ (h _ (hv.putC vs off) (putC_grown g vs w off) (putC_size g vs w off))
end

/-- A struct is read: its cells, and the reader has become another one. -/
def AggRdr (T : TypeId) (w : World) (lo g : Nat) (vs : List Value) (l : List Int) (e : Int) (en : Ending) (w' : World) : Prop :=
  en = .returned (.agg vs.toArray) ∧ Rdr T w' lo g l e ∧ w.grownBy w' (some g)
theorem nu1_bd {l l' : List Int} {e e' v : Int} (h : By l) (hq : nu 1 (l, e) = (v, (l', e'))) : (0 ≤ v ∧ v ≤ 255) ∧ By l' := by
  have h1 := num1_bd l e h
  have h2 := numR_by 1 l e h
  change numR 1 l e = (v, (l', e')) at hq
  rw [hq] at h1 h2
  exact ⟨⟨h1.1, by have := h1.2; simp only at this; omega⟩, h2⟩
theorem num2_bd (l : List Int) (e : Int) (h : By l) : 0 ≤ (numR 2 l e).1 ∧ (numR 2 l e).1 < 65536 := by
  unfold numR
  split
  · exact ⟨by simp, by simp⟩
  · split
    · split
      · exact ⟨by simp, by simp⟩
      · have := num_lt (l.take (2 : Int).toNat) (h.take _)
        have h2 : (l.take (2 : Int).toNat).length ≤ 2 := by rw [List.length_take]; simp; omega
        have h3 : 256 ^ (l.take (2 : Int).toNat).length ≤ 256 ^ 2 := Nat.pow_le_pow_right (by omega) h2
        exact ⟨by simp, by have e0 : (Int.toNat 2) = 2 := rfl; rw [e0] at this h3 ⊢; omega⟩
    · exact ⟨by simp, by simp⟩
theorem nu2_bd {l l' : List Int} {e e' v : Int} (h : By l) (hq : nu 2 (l, e) = (v, (l', e'))) : (0 ≤ v ∧ v ≤ 65535) ∧ By l' := by
  have h1 := num2_bd l e h
  have h2 := numR_by 2 l e h
  change numR 2 l e = (v, (l', e')) at hq
  rw [hq] at h1 h2
  exact ⟨⟨h1.1, by have := h1.2; simp only at this; omega⟩, h2⟩
theorem Rdr.off' {T : TypeId} {w : World} {lo g : Nat} {l : List Int} {e : Int} (h : Rdr T w lo g l e) (b o : Nat) (u : Value) (hb : g < b) : Rdr T (w.setCell ⟨b, o, none⟩ u) lo g l e :=
  h.keep (grownBy_set w b o u) (fun k e => by simp at e; omega)
theorem grown_set2 {w w1 : World} {g b o : Nat} {u : Value} (h : w.grownBy w1 (some g)) (hb : w.heap.size ≤ b) : w.grownBy (w1.setCell ⟨b, o, none⟩ u) (some g) :=
  ⟨h.os, h.tape, h.output, Nat.le_trans h.size (by simp [World.setCell]), fun k hk hne => (Below.heap_setCell _ _ _ _ (by simp; omega)).trans (h.block k hk hne)⟩
theorem grown_new {w w1 w2 : World} {g b : Nat} (h : w.grownBy w1 (some g)) (h2 : w1.grownBy w2 (some b)) (hb : w.heap.size ≤ b) : w.grownBy w2 (some g) :=
  ⟨h2.os.trans h.os, h2.tape.trans h.tape, h2.output.trans h.output, Nat.le_trans h.size h2.size, fun k hk hne => (h2.block k (Nat.lt_of_lt_of_le hk h.size) (by simp; omega)).trans (h.block k hk hne)⟩
theorem grown_alloc (w : World) (o : Obj) (g : Nat) : w.grownBy (w.alloc o) (some g) := grown_of_below (below_alloc w o) _
theorem grown_below {w w1 w2 : World} {g : Nat} (h : w.grownBy w1 (some g)) (hb : Below w1.heap.size w1 w2) : w.grownBy w2 (some g) := grown_trans2 h (grown_of_below hb _)
end Go.Proofs.Ytcolklkjaifplaa.Oct

namespace Go.Proofs.Ytcolklkjaifplaa.Oct
open Go.RowKit
set_option linter.unusedVariables false

/-- The value v is a slice of outputs that the call owns, in a block from base on; it holds os. -/
def Owo (w : World) (base : Nat) (v : Value) (n : Nat) (os : List OutV) : Prop := w.ownsRow base 93 4 v n (os.flatMap ocs)
theorem info_outs : (Try.prog.info? 93).map (fun i => (i.zero, i.size, i.bytes)) = some (some (.agg #[.int .i64 0, .int .i64 0, .int .i64 0, .int .i64 0]), 4, 32) := by kernel_rfl
section
variable {w w' : World} {base n c r : Nat} {v : Value} {os : List OutV}
theorem Owo.len (h : Owo w base v n os) : os.length = n := by have := h.1; rw [flat_ocs_len] at this; omega
theorem Owo.nil (w : World) (base : Nat) : Owo w base (.slice none 0 0) 0 [] := World.ownsRow_nil w base _ 4
theorem Owo.form (h : Owo w base v n os) : ∃ A c, v = .slice A n c ∧ n ≤ c ∧ c ≤ maxLen ∧ (A = none → c = 0) ∧ (∀ a, A = some a → ∃ g, a = ⟨g, 0, none⟩ ∧ base ≤ g ∧ g < w.heap.size) := by
  rcases h.2 with ⟨rfl, rfl⟩ | ⟨g, cap, cur, rfl, hbg, hg, hnc, hcm, _⟩
  · exact ⟨none, 0, rfl, Nat.le_refl _, Nat.zero_le _, fun _ => rfl, fun a h => by simp at h⟩
  · exact ⟨some ⟨g, 0, none⟩, cap, rfl, hnc, hcm, fun h => by simp at h, fun a h => ⟨g, by simpa using h.symm, hbg, (Array.getElem?_eq_some_iff.1 hg).1⟩⟩
theorem Owo.keep (h : Owo w base v n os) (hg : w.grownBy w' (some r)) (hlt : r < base) : Owo w' base v n os :=
  World.ownsRow.kept h hg (by
    cases hv : v.ownBlock with
    | none => exact .inl rfl
    | some k => exact .inr (fun e => by simp at e; have := (World.ownsRow.lt h k hv).1; omega))
theorem Owo.below (h : Owo w base v n os) (hb : Below w.heap.size w w') : Owo w' base v n os := by
  refine ⟨h.1, ?_⟩
  rcases h.2 with h2 | ⟨g, cap, cur, e, hbg, hg, r⟩
  · exact .inl h2
  · exact .inr ⟨g, cap, cur, e, hbg, (hb.block g (Array.getElem?_eq_some_iff.1 hg).1).trans hg, r⟩
theorem Owo.lower {b : Nat} (h : Owo w base v n os) (hb : b ≤ base) : Owo w b v n os := by
  refine ⟨h.1, ?_⟩
  rcases h.2 with h2 | ⟨g, cap, cur, e, hbg, r⟩
  · exact .inl h2
  · exact .inr ⟨g, cap, cur, e, by omega, r⟩
theorem Owo.ron {A : Option Addr} (h : Owo w base (.slice A n c) n os) : Ron w base A n c os := by
  obtain ⟨A', c', e, h1, h2, h3, h4⟩ := h.form
  have e1 := Value.slice.inj e
  obtain ⟨e1, _, e3⟩ := e1
  subst e1 e3
  have hl := h.len
  refine ⟨⟨hl, h1, h2, h3, fun hn => ?_⟩, fun hn a ea => by obtain ⟨g, e, hb, _⟩ := h4 a ea; rw [e]; exact hb⟩
  obtain ⟨g, cap, hv, _, hlt⟩ := World.ownsRow.form h hn
  obtain ⟨hA, _, _⟩ := Value.slice.inj hv
  subst hA
  refine ⟨g, 0, rfl, hlt, fun j o hj => ?_⟩
  obtain ⟨q0, q1, q2, q3⟩ := flat_ocs_get os j o hj
  have key := World.ownsRow.cells h (g := g) rfl
  have k0 := key _ _ q0
  have k1 := key _ _ q1
  have k2 := key _ _ q2
  have k3 := key _ _ q3
  rw [add_addr] at k0 k1 k2 k3
  simp only [Nat.zero_add] at k0 k1 k2 k3 ⊢
  exact ⟨k0, k1, k2, k3⟩
end
theorem ro_cells {w : World} {B m c b off : Nat} {os : List OutV} (hr : Ro w B (some ⟨b, off, none⟩) m c os) : ∀ j u, (os.flatMap ocs)[j]? = some u → w.cell? (Addr.add ⟨b, off, none⟩ j) = some u := by
  intro j u hu
  rw [add_addr]
  have hj : j < (os.flatMap ocs).length := (List.getElem?_eq_some_iff.1 hu).1
  rw [flat_ocs_len] at hj
  have hlen := hr.len
  obtain ⟨b', off', e, _, hc⟩ := hr.at_ (by omega)
  have e := Option.some.inj e
  have eb := congrArg Addr.block e
  have eo := congrArg Addr.off e
  simp only at eb eo
  subst eb eo
  obtain ⟨o, ho⟩ : ∃ o, os[j / 4]? = some o := ⟨_, List.getElem?_eq_getElem (by omega)⟩
  obtain ⟨c0, c1, c2, c3⟩ := hc _ o ho
  obtain ⟨q0, q1, q2, q3⟩ := flat_ocs_get os _ o ho
  rcases (show j = j / 4 * 4 ∨ j = j / 4 * 4 + 1 ∨ j = j / 4 * 4 + 2 ∨ j = j / 4 * 4 + 3 by omega) with h | h | h | h
  · rw [h] at hu ⊢; rw [q0] at hu; simp at hu; subst hu; exact c0
  · rw [h] at hu ⊢; rw [q1] at hu; simp at hu; subst hu; rw [← Nat.add_assoc]; exact c1
  · rw [h] at hu ⊢; rw [q2] at hu; simp at hu; subst hu; rw [← Nat.add_assoc]; exact c2
  · rw [h] at hu ⊢; rw [q3] at hu; simp at hu; subst hu; rw [← Nat.add_assoc]; exact c3
/-- append(x, y...) of outputs, x the call's own: as an equation. -/
theorem run_appendO {w : World} (ty : TypeId) {base B : Nat} {v : Value} {n m c : Nat} {A : Option Addr} {os os2 : List OutV} (hown : Owo w base v n os) (hr : Ro w B A m c os2)
    (hsz : n + m ≤ 4398046511104) (hbase : base ≤ w.heap.size) :
    ∃ A' c' w', (Builtin.append_ #[29, 29] ty #[v, .slice A m c]).run Try.prog w = .ok (.slice A' (n + m) c') w' ∧ Owo w' base (.slice A' (n + m) c') (n + m) (os ++ os2) ∧ Below base w w' ∧ w.grownBy w' v.ownBlock := by
  obtain ⟨i0, hi, hz0, hz1, hz2⟩ := info_parts info_outs
  rcases A with _ | ad
  · have hc : c = 0 := hr.2.2.2.1 rfl
    have hm : m = 0 := by have := hr.le; omega
    subst hc hm
    have hl2 : os2 = [] := List.eq_nil_of_length_eq_zero hr.len
    subst hl2
    obtain ⟨A', c', e, _⟩ := hown.form
    subst e
    exact ⟨A', c', w, run_append_owned_none (P := Try.prog) (w := w) base 29 ty 93 i0 4 Try.underlying29 hi _ n _ hown, by simpa using hown, Below.refl _ _, World.grownBy.refl _ _⟩
  · have hcells : ∀ j u, (os2.flatMap ocs)[j]? = some u → w.cell? (ad.add j) = some u := by
      intro j u hu
      have hj : j < (os2.flatMap ocs).length := (List.getElem?_eq_some_iff.1 hu).1
      rw [flat_ocs_len] at hj
      have hlen := hr.len
      obtain ⟨b, off, e, _, _⟩ := hr.at_ (by omega)
      have e := Option.some.inj e
      subst e
      exact ro_cells hr j u hu
    obtain ⟨v', w', hrun, h2, h3, _, h5⟩ := run_append_own_at (P := Try.prog) w base 29 ty 93 i0 _ 4 32 Try.underlying29 hi hz0 hz1 hz2 rfl (by omega) v n _ hown ad m c (os2.flatMap ocs) (by rw [flat_ocs_len, hr.len]) hcells
      (by intro u hu; obtain ⟨x, _, hx⟩ := List.mem_flatMap.1 hu; simp [ocs] at hx; rcases hx with rfl | rfl | rfl | rfl <;> rfl) (by unfold maxLen; omega) (by omega) hbase
    have hown' : Owo w' base v' (n + m) (os ++ os2) := by unfold Owo; rw [List.flatMap_append]; exact h2
    obtain ⟨A', c', e, _⟩ := hown'.form
    subst e
    refine ⟨A', c', w', hrun, hown', (Below.refl base w).grown h3 hbase fun k hk => ?_, h3⟩
    exact (World.ownsRow.lt hown k hk).1
theorem wpList_appendO {w : World} {ops : Array Oper} {rest : List Oper} {o : Oper} {a : Act} {Q : Exit → Act → World → Prop} (hgd : o.guard = none) (s x : Operand)
    (ho : o.op = .call { callee := .builtin .append, args := #[s, x], argTypes := #[29, 29] })
    {base B : Nat} {v : Value} {n m c : Nat} {A : Option Addr} {os os2 : List OutV} (hs : a.eval s = v) (hown : Owo w base v n os) (hx : a.eval x = .slice A m c) (hr : Ro w B A m c os2)
    (hsz : n + m ≤ 4398046511104) (hbase : base ≤ w.heap.size)
    (h : ∀ A' c' w', Owo w' base (.slice A' (n + m) c') (n + m) (os ++ os2) → Below base w w' → w.grownBy w' v.ownBlock → wpList Try.prog ops Q rest (a.put o.dst (.slice A' (n + m) c')) w') : wpList Try.prog ops Q (o :: rest) a w := by
  refine wpList_plain hgd fun K hK => ?_
  obtain ⟨A', c', w', hrun, h2, h3, h4⟩ := run_appendO (w := w) o.type hown hr hsz hbase
  unfold Oper.wp execOp
  simp only [ho, resolve, invoke, builtin, Sem.run_bind, Sem.run_pure, Result.andThen_ok, List.map_toArray, List.map_cons, List.map_nil, hs, hx, hrun]
  exact hK _ _ (h A' c' w' h2 h3 h4)
/-- What another block holds abides an append. -/
theorem Owo.other {w w' : World} {base n g : Nat} {v : Value} {os : List OutV} (h : Owo w base v n os) (hg : w.grownBy w' v.ownBlock) {T : TypeId} {cs : List Value} (hv : Vb T w g cs) (hlt : g < base) : Vb T w' g cs :=
  (hg.block g hv.lt (fun e => by have := (World.ownsRow.lt h g e.symm).1; omega)).trans hv
theorem Owo.rdr {w w' : World} {base n lo g : Nat} {v : Value} {os : List OutV} {T : TypeId} {l : List Int} {e : Int} (h : Owo w base v n os) (hg : w.grownBy w' v.ownBlock) (hR : Rdr T w lo g l e) (hlt : g < base) : Rdr T w' lo g l e :=
  hR.keep hg (fun k e => .inr (by have := (World.ownsRow.lt h k e).1; omega))
theorem Owo.grow {w w1 w2 : World} {base n g : Nat} {v : Value} {os : List OutV} (h : Owo w1 base v n os) (hg : w1.grownBy w2 v.ownBlock) (h0 : w.grownBy w1 (some g)) (hlt : w.heap.size ≤ base) : w.grownBy w2 (some g) :=
  ⟨hg.os.trans h0.os, hg.tape.trans h0.tape, hg.output.trans h0.output, Nat.le_trans h0.size hg.size, fun k hk hne => (hg.block k (Nat.lt_of_lt_of_le hk h0.size) (fun e => by have := (World.ownsRow.lt h k e.symm).1; omega)).trans (h0.block k hk hne)⟩
end Go.Proofs.Ytcolklkjaifplaa.Oct
