/- Rows of what is sent: as rows of outputs, whose fields are bytes. -/
import Derived.Test.YteambkehdbffmaaRulA
namespace Go.Proofs.Yteambkehdbffmaa.Oct
open Go.RowKit
set_option linter.unusedVariables false
set_option linter.unusedSimpArgs false

theorem agg_sent : Agg 44 4 := ⟨⟨_, Try.underlying44, rfl⟩, by kernel_rfl⟩
/-- The slice (A, n, c) reads as the outputs os, and lies below block B. -/
def Rs (w : World) (B : Nat) (A : Option Addr) (n c : Nat) (os : List OutV) : Prop :=
  os.length = n ∧ n ≤ c ∧ c ≤ maxLen ∧ (A = none → c = 0) ∧
  (0 < n → ∃ b off, A = some ⟨b, off, none⟩ ∧ b < B ∧ ∀ j o, os[j]? = some o → w.cell? ⟨b, off + j * 4, none⟩ = some (.int .i64 o.p) ∧ w.cell? ⟨b, off + j * 4 + 1, none⟩ = some (.int .u8 o.a) ∧ w.cell? ⟨b, off + j * 4 + 2, none⟩ = some (.int .u8 o.b) ∧ w.cell? ⟨b, off + j * 4 + 3, none⟩ = some (.int .u8 o.c))
section
variable {w w' : World} {B B' : Nat} {A : Option Addr} {n c : Nat} {os : List OutV}
theorem Rs.len (h : Rs w B A n c os) : os.length = n := h.1
theorem Rs.le (h : Rs w B A n c os) : n ≤ c := h.2.1
theorem Rs.cap (h : Rs w B A n c os) : c ≤ maxLen := h.2.2.1
theorem Rs.max (h : Rs w B A n c os) : (n : Int) ≤ 9223372036854775807 := by have := h.2.1; have := h.2.2.1; unfold maxLen at this; omega
theorem Rs.at_ (h : Rs w B A n c os) (hn : 0 < n) : ∃ b off, A = some ⟨b, off, none⟩ ∧ b < B ∧ ∀ j o, os[j]? = some o → w.cell? ⟨b, off + j * 4, none⟩ = some (.int .i64 o.p) ∧ w.cell? ⟨b, off + j * 4 + 1, none⟩ = some (.int .u8 o.a) ∧ w.cell? ⟨b, off + j * 4 + 2, none⟩ = some (.int .u8 o.b) ∧ w.cell? ⟨b, off + j * 4 + 3, none⟩ = some (.int .u8 o.c) := h.2.2.2.2 hn
theorem Rs.keep (h : Rs w B A n c os) (hk : ∀ b o, b < B → w'.cell? ⟨b, o, none⟩ = w.cell? ⟨b, o, none⟩) : Rs w' B A n c os :=
  ⟨h.1, h.2.1, h.2.2.1, h.2.2.2.1, fun hn => by
    obtain ⟨b, off, e, hb, hc⟩ := h.at_ hn
    refine ⟨b, off, e, hb, fun j o hj => ?_⟩
    rw [hk b _ hb, hk b _ hb, hk b _ hb, hk b _ hb]
    exact hc j o hj⟩
theorem Rs.below (h : Rs w B A n c os) (hb : Below B w w') : Rs w' B A n c os := h.keep fun b o hlt => hb.cell (p := ⟨b, o, none⟩) hlt
theorem Rs.below' (h : Rs w B A n c os) (hb : Below B' w w') (hB : B ≤ B') : Rs w' B A n c os := h.below (hb.mono hB)
theorem Rs.more (h : Rs w B A n c os) (hB : B ≤ B') : Rs w B' A n c os :=
  ⟨h.1, h.2.1, h.2.2.1, h.2.2.2.1, fun hn => by
    obtain ⟨b, off, e, hb, hc⟩ := h.at_ hn
    exact ⟨b, off, e, by omega, hc⟩⟩
theorem Rs.nil (w : World) (B : Nat) : Rs w B none 0 0 [] := ⟨rfl, Nat.le_refl _, Nat.zero_le _, fun _ => rfl, fun h => absurd h (by omega)⟩
theorem Rs.pre (h : Rs w B A n c os) (k : Nat) (hk : k ≤ n) : Rs w B A k c (os.take k) :=
  ⟨by rw [List.length_take, h.len]; omega, by have := h.le; omega, h.cap, h.2.2.2.1, fun hn => by
    obtain ⟨b, off, e, hb, hc⟩ := h.at_ (by omega)
    refine ⟨b, off, e, hb, fun j o hj => hc j o ?_⟩
    rw [List.getElem?_take] at hj
    split at hj
    · exact hj
    · simp at hj⟩
theorem Rs.drew (h : Rs w B A n c os) : Rs w.drew B A n c os := h.below (Below.refl _ _).drew
end

/-- The outputs os, in a block from lo on. -/
def Rsn (w : World) (lo : Nat) (A : Option Addr) (n c : Nat) (os : List OutV) : Prop := Rs w w.heap.size A n c os ∧ (0 < n → ∀ a, A = some a → lo ≤ a.block)
section
variable {w w' : World} {lo n c r : Nat} {A : Option Addr} {os : List OutV}
theorem Rsn.nil (w : World) (lo : Nat) : Rsn w lo none 0 0 [] := ⟨Rs.nil _ _, fun h => absurd h (by omega)⟩
theorem Rsn.keep (h : Rsn w lo A n c os) (hz : w.heap.size ≤ w'.heap.size) (hk : ∀ b, lo ≤ b → b < w.heap.size → w'.heap[b]? = w.heap[b]?) : Rsn w' lo A n c os := by
  refine ⟨⟨h.1.1, h.1.2.1, h.1.2.2.1, h.1.2.2.2.1, fun hn => ?_⟩, h.2⟩
  obtain ⟨b, off, e, hb, hc⟩ := h.1.at_ hn
  refine ⟨b, off, e, by omega, fun j o hj => ?_⟩
  have hl := h.2 hn _ e
  have := hc j o hj
  simp only [World.cell?_of_block (w := w) (w' := w') (a := ⟨b, _, none⟩) (hk b hl hb)]
  exact this
theorem Rsn.grown (h : Rsn w lo A n c os) (hg : w.grownBy w' (some r)) (hr : r < lo) : Rsn w' lo A n c os := h.keep hg.size (fun b h1 h2 => hg.block b h2 (by simp; omega))
theorem Rsn.below (h : Rsn w lo A n c os) (hb : Below w.heap.size w w') : Rsn w' lo A n c os := h.keep hb.size (fun b _ h2 => hb.block b h2)
theorem Rsn.lower {lo' : Nat} (h : Rsn w lo A n c os) (hl : lo' ≤ lo) : Rsn w lo' A n c os := ⟨h.1, fun hn a e => Nat.le_trans hl (h.2 hn a e)⟩
theorem Rsn.ro (h : Rsn w lo A n c os) : Rs w w.heap.size A n c os := h.1
end
/-- An output's cells; outputs in a block. -/
def scs (o : OutV) : List Value := [.int .i64 o.p, .int .u8 o.a, .int .u8 o.b, .int .u8 o.c]
theorem flat_scs_len (os : List OutV) : (os.flatMap scs).length = os.length * 4 := by
  induction os with
  | nil => rfl
  | cons o os ih => rw [List.flatMap_cons, List.length_append, ih, List.length_cons]; simp [scs]; omega
theorem flat_scs_get (os : List OutV) : ∀ (j : Nat) (o : OutV), os[j]? = some o → (os.flatMap scs)[j * 4]? = some (.int .i64 o.p) ∧ (os.flatMap scs)[j * 4 + 1]? = some (.int .u8 o.a) ∧ (os.flatMap scs)[j * 4 + 2]? = some (.int .u8 o.b) ∧ (os.flatMap scs)[j * 4 + 3]? = some (.int .u8 o.c) := by
  induction os with
  | nil => intro j o h; simp at h
  | cons x os ih =>
    intro j o h
    cases j with
    | zero =>
      simp only [List.getElem?_cons_zero, Option.some.injEq] at h
      subst h
      exact ⟨rfl, rfl, rfl, rfl⟩
    | succ j =>
      rw [List.getElem?_cons_succ] at h
      have e : ∀ i, (List.flatMap scs (x :: os))[(j + 1) * 4 + i]? = (os.flatMap scs)[j * 4 + i]? := by
        intro i
        rw [List.flatMap_cons, List.getElem?_append_right (by simp [scs]; omega)]
        congr 1
        simp [scs]; omega
      have := e 0
      simp only [Nat.add_zero] at this
      rw [this, e 1, e 2, e 3]
      exact ih j o h
theorem flat_scs_set (os : List OutV) : ∀ (k : Nat) (o : OutV), k < os.length → ((((os.flatMap scs).set (k * 4) (.int .i64 o.p)).set (k * 4 + 1) (.int .u8 o.a)).set (k * 4 + 2) (.int .u8 o.b)).set (k * 4 + 3) (.int .u8 o.c) = (os.set k o).flatMap scs := by
  induction os with
  | nil => intro k o h; simp at h
  | cons x os ih =>
    intro k o h
    cases k with
    | zero => rfl
    | succ k =>
      rw [List.set_cons_succ, List.flatMap_cons, List.flatMap_cons, ← ih k o (by simpa using h)]
      have e : ∀ (i : Nat) (l : List Value) (v : Value), (scs x ++ l).set ((k + 1) * 4 + i) v = scs x ++ l.set (k * 4 + i) v := by
        intro i l v
        rw [List.set_append_right _ _ (by simp [scs]; omega)]
        congr 2
        simp [scs]; omega
      have e0 := e 0
      simp only [Nat.add_zero] at e0
      rw [e0, e 1, e 2, e 3]
theorem Rsn.of_vb {T : TypeId} {w : World} {b lo : Nat} {os : List OutV} (h : Vb T w b (os.flatMap scs)) (hl : lo ≤ b) (hm : os.length ≤ 1000) : Rsn w lo (some ⟨b, 0, none⟩) os.length os.length os := by
  refine ⟨⟨rfl, Nat.le_refl _, by unfold maxLen; omega, fun e => by simp at e, fun hn => ⟨b, 0, rfl, h.lt, fun j o hj => ?_⟩⟩, fun _ a e => by simp at e; subst e; exact hl⟩
  obtain ⟨h0, h1, h2, h3⟩ := flat_scs_get os j o hj
  simp only [Nat.zero_add]
  exact ⟨h.cell _ h0, h.cell _ h1, h.cell _ h2, h.cell _ h3⟩

/-- The value v is a slice of outputs that the call owns, in a block from base on; it holds os. -/
def Ows (w : World) (base : Nat) (v : Value) (n : Nat) (os : List OutV) : Prop := w.ownsRow base 44 4 v n (os.flatMap scs)
theorem info_sents : (Try.prog.info? 44).map (fun i => (i.zero, i.size, i.bytes)) = some (some (.agg #[.int .i64 0, .int .u8 0, .int .u8 0, .int .u8 0]), 4, 16) := by kernel_rfl
section
variable {w w' : World} {base n c r : Nat} {v : Value} {os : List OutV}
theorem Ows.len (h : Ows w base v n os) : os.length = n := by have := h.1; rw [flat_scs_len] at this; omega
theorem Ows.nil (w : World) (base : Nat) : Ows w base (.slice none 0 0) 0 [] := World.ownsRow_nil w base _ 4
theorem Ows.form (h : Ows w base v n os) : ∃ A c, v = .slice A n c ∧ n ≤ c ∧ c ≤ maxLen ∧ (A = none → c = 0) ∧ (∀ a, A = some a → ∃ g, a = ⟨g, 0, none⟩ ∧ base ≤ g ∧ g < w.heap.size) := by
  rcases h.2 with ⟨rfl, rfl⟩ | ⟨g, cap, cur, rfl, hbg, hg, hnc, hcm, _⟩
  · exact ⟨none, 0, rfl, Nat.le_refl _, Nat.zero_le _, fun _ => rfl, fun a h => by simp at h⟩
  · exact ⟨some ⟨g, 0, none⟩, cap, rfl, hnc, hcm, fun h => by simp at h, fun a h => ⟨g, by simpa using h.symm, hbg, (Array.getElem?_eq_some_iff.1 hg).1⟩⟩
theorem Ows.keep (h : Ows w base v n os) (hg : w.grownBy w' (some r)) (hlt : r < base) : Ows w' base v n os :=
  World.ownsRow.kept h hg (by
    cases hv : v.ownBlock with
    | none => exact .inl rfl
    | some k => exact .inr (fun e => by simp at e; have := (World.ownsRow.lt h k hv).1; omega))
theorem Ows.below (h : Ows w base v n os) (hb : Below w.heap.size w w') : Ows w' base v n os := by
  refine ⟨h.1, ?_⟩
  rcases h.2 with h2 | ⟨g, cap, cur, e, hbg, hg, r⟩
  · exact .inl h2
  · exact .inr ⟨g, cap, cur, e, hbg, (hb.block g (Array.getElem?_eq_some_iff.1 hg).1).trans hg, r⟩
theorem Ows.lower {b : Nat} (h : Ows w base v n os) (hb : b ≤ base) : Ows w b v n os := by
  refine ⟨h.1, ?_⟩
  rcases h.2 with h2 | ⟨g, cap, cur, e, hbg, r⟩
  · exact .inl h2
  · exact .inr ⟨g, cap, cur, e, by omega, r⟩
theorem Ows.ron {A : Option Addr} (h : Ows w base (.slice A n c) n os) : Rsn w base A n c os := by
  obtain ⟨A', c', e, h1, h2, h3, h4⟩ := h.form
  have e1 := Value.slice.inj e
  obtain ⟨e1, _, e3⟩ := e1
  subst e1 e3
  have hl := h.len
  refine ⟨⟨hl, h1, h2, h3, fun hn => ?_⟩, fun hn a ea => by obtain ⟨g, e, hb, _⟩ := h4 a ea; rw [e]; exact hb⟩
  obtain ⟨g, cap, hv, _, hlt⟩ := World.ownsRow.form h hn
  obtain ⟨hA, _, _⟩ := Value.slice.inj hv
  subst hA
  refine ⟨g, 0, rfl, hlt, fun j o hj => ?_⟩
  obtain ⟨q0, q1, q2, q3⟩ := flat_scs_get os j o hj
  have key := World.ownsRow.cells h (g := g) rfl
  have k0 := key _ _ q0
  have k1 := key _ _ q1
  have k2 := key _ _ q2
  have k3 := key _ _ q3
  rw [add_addr] at k0 k1 k2 k3
  simp only [Nat.zero_add] at k0 k1 k2 k3 ⊢
  exact ⟨k0, k1, k2, k3⟩
end
theorem rs_cells {w : World} {B m c b off : Nat} {os : List OutV} (hr : Rs w B (some ⟨b, off, none⟩) m c os) : ∀ j u, (os.flatMap scs)[j]? = some u → w.cell? (Addr.add ⟨b, off, none⟩ j) = some u := by
  intro j u hu
  rw [add_addr]
  have hj : j < (os.flatMap scs).length := (List.getElem?_eq_some_iff.1 hu).1
  rw [flat_scs_len] at hj
  have hlen := hr.len
  obtain ⟨b', off', e, _, hc⟩ := hr.at_ (by omega)
  have e := Option.some.inj e
  have eb := congrArg Addr.block e
  have eo := congrArg Addr.off e
  simp only at eb eo
  subst eb eo
  obtain ⟨o, ho⟩ : ∃ o, os[j / 4]? = some o := ⟨_, List.getElem?_eq_getElem (by omega)⟩
  obtain ⟨c0, c1, c2, c3⟩ := hc _ o ho
  obtain ⟨q0, q1, q2, q3⟩ := flat_scs_get os _ o ho
  rcases (show j = j / 4 * 4 ∨ j = j / 4 * 4 + 1 ∨ j = j / 4 * 4 + 2 ∨ j = j / 4 * 4 + 3 by omega) with h | h | h | h
  · rw [h] at hu ⊢; rw [q0] at hu; simp at hu; subst hu; exact c0
  · rw [h] at hu ⊢; rw [q1] at hu; simp at hu; subst hu; rw [← Nat.add_assoc]; exact c1
  · rw [h] at hu ⊢; rw [q2] at hu; simp at hu; subst hu; rw [← Nat.add_assoc]; exact c2
  · rw [h] at hu ⊢; rw [q3] at hu; simp at hu; subst hu; rw [← Nat.add_assoc]; exact c3
/-- append(x, y...) of outputs, x the call's own: as an equation. -/
theorem run_appendS {w : World} (ty : TypeId) {base B : Nat} {v : Value} {n m c : Nat} {A : Option Addr} {os os2 : List OutV} (hown : Ows w base v n os) (hr : Rs w B A m c os2)
    (hsz : n + m ≤ 4398046511104) (hbase : base ≤ w.heap.size) :
    ∃ A' c' w', (Builtin.append_ #[31, 31] ty #[v, .slice A m c]).run Try.prog w = .ok (.slice A' (n + m) c') w' ∧ Ows w' base (.slice A' (n + m) c') (n + m) (os ++ os2) ∧ Below base w w' ∧ w.grownBy w' v.ownBlock := by
  obtain ⟨i0, hi, hz0, hz1, hz2⟩ := info_parts info_sents
  rcases A with _ | ad
  · have hc : c = 0 := hr.2.2.2.1 rfl
    have hm : m = 0 := by have := hr.le; omega
    subst hc hm
    have hl2 : os2 = [] := List.eq_nil_of_length_eq_zero hr.len
    subst hl2
    obtain ⟨A', c', e, _⟩ := hown.form
    subst e
    exact ⟨A', c', w, run_append_owned_none (P := Try.prog) (w := w) base 31 ty 44 i0 4 Try.underlying31 hi _ n _ hown, by simpa using hown, Below.refl _ _, World.grownBy.refl _ _⟩
  · have hcells : ∀ j u, (os2.flatMap scs)[j]? = some u → w.cell? (ad.add j) = some u := by
      intro j u hu
      have hj : j < (os2.flatMap scs).length := (List.getElem?_eq_some_iff.1 hu).1
      rw [flat_scs_len] at hj
      have hlen := hr.len
      obtain ⟨b, off, e, _, _⟩ := hr.at_ (by omega)
      have e := Option.some.inj e
      subst e
      exact rs_cells hr j u hu
    obtain ⟨v', w', hrun, h2, h3, _, h5⟩ := run_append_own_at (P := Try.prog) w base 31 ty 44 i0 _ 4 16 Try.underlying31 hi hz0 hz1 hz2 rfl (by omega) v n _ hown ad m c (os2.flatMap scs) (by rw [flat_scs_len, hr.len]) hcells
      (by intro u hu; obtain ⟨x, _, hx⟩ := List.mem_flatMap.1 hu; simp [scs] at hx; rcases hx with rfl | rfl | rfl | rfl <;> rfl) (by unfold maxLen; omega) (by omega) hbase
    have hown' : Ows w' base v' (n + m) (os ++ os2) := by unfold Ows; rw [List.flatMap_append]; exact h2
    obtain ⟨A', c', e, _⟩ := hown'.form
    subst e
    refine ⟨A', c', w', hrun, hown', (Below.refl base w).grown h3 hbase fun k hk => ?_, h3⟩
    exact (World.ownsRow.lt hown k hk).1
theorem wpList_appendS {w : World} {ops : Array Oper} {rest : List Oper} {o : Oper} {a : Act} {Q : Exit → Act → World → Prop} (hgd : o.guard = none) (s x : Operand)
    (ho : o.op = .call { callee := .builtin .append, args := #[s, x], argTypes := #[31, 31] })
    {base B : Nat} {v : Value} {n m c : Nat} {A : Option Addr} {os os2 : List OutV} (hs : a.eval s = v) (hown : Ows w base v n os) (hx : a.eval x = .slice A m c) (hr : Rs w B A m c os2)
    (hsz : n + m ≤ 4398046511104) (hbase : base ≤ w.heap.size)
    (h : ∀ A' c' w', Ows w' base (.slice A' (n + m) c') (n + m) (os ++ os2) → Below base w w' → w.grownBy w' v.ownBlock → wpList Try.prog ops Q rest (a.put o.dst (.slice A' (n + m) c')) w') : wpList Try.prog ops Q (o :: rest) a w := by
  refine wpList_plain hgd fun K hK => ?_
  obtain ⟨A', c', w', hrun, h2, h3, h4⟩ := run_appendS (w := w) o.type hown hr hsz hbase
  unfold Oper.wp execOp
  simp only [ho, resolve, invoke, builtin, Sem.run_bind, Sem.run_pure, Result.andThen_ok, List.map_toArray, List.map_cons, List.map_nil, hs, hx, hrun]
  exact hK _ _ (h A' c' w' h2 h3 h4)
/-- What another block holds abides an append. -/
theorem Ows.other {w w' : World} {base n g : Nat} {v : Value} {os : List OutV} (h : Ows w base v n os) (hg : w.grownBy w' v.ownBlock) {T : TypeId} {cs : List Value} (hv : Vb T w g cs) (hlt : g < base) : Vb T w' g cs :=
  (hg.block g hv.lt (fun e => by have := (World.ownsRow.lt h g e.symm).1; omega)).trans hv
theorem Ows.grow {w w1 w2 : World} {base n g : Nat} {v : Value} {os : List OutV} (h : Ows w1 base v n os) (hg : w1.grownBy w2 v.ownBlock) (h0 : w.grownBy w1 (some g)) (hlt : w.heap.size ≤ base) : w.grownBy w2 (some g) :=
  ⟨hg.os.trans h0.os, hg.tape.trans h0.tape, hg.output.trans h0.output, Nat.le_trans h0.size hg.size, fun k hk hne => (hg.block k (Nat.lt_of_lt_of_le hk h0.size) (fun e => by have := (World.ownsRow.lt h k e.symm).1; omega)).trans (h0.block k hk hne)⟩
def eqSB (x y : OutV) : Bool := (x.p == y.p) && (x.a == y.a && (x.b == y.b && x.c == y.c))
theorem eq_sent (x y : OutV) (w : World) : (Op.equalIn 10000 44 (.agg #[.int .i64 x.p, .int .u8 x.a, .int .u8 x.b, .int .u8 x.c]) (.agg #[.int .i64 y.p, .int .u8 y.a, .int .u8 y.b, .int .u8 y.c])).run Try.prog w = .ok (eqSB x y) w := by
  have hS : Try.prog.underlying 44 = some (.struct (Try.prog.fieldsOf 44)) := by kernel_rfl
  have hp : Try.prog.stoodInHeld 44 = false := by kernel_rfl
  rw [show (10000 : Nat) = 9999 + 1 from rfl, run_equalIn_agg w 9999 44 _ _ hS hp]
  have e1 := fun w => eq_header x.a x.b x.c y.a y.b y.c w
  simp only [Program.fieldsOf, Try.underlying44]
  go_simp
  unfold eqSB
  by_cases h0 : x.p = y.p
  rotate_left
  · simp [h0]
  by_cases h1 : x.a = y.a
  rotate_left
  · simp [h0, h1]
  by_cases h2 : x.b = y.b
  rotate_left
  · simp [h0, h1, h2]
  by_cases h3 : x.c = y.c
  rotate_left
  · simp [h0, h1, h2, h3]
  simp [h0, h1, h2, h3]
theorem eqSB_iff (x y : OutV) : eqSB x y = true ↔ x = y := by
  obtain ⟨p, a, b, c⟩ := x
  obtain ⟨p', a', b', c'⟩ := y
  unfold eqSB
  simp only [Bool.and_eq_true, beq_iff_eq, OutV.mk.injEq]
end Go.Proofs.Yteambkehdbffmaa.Oct
