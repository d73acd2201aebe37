import Derived.Test.YtnoflfbcgbhipaaGreatSesH
set_option linter.unusedSimpArgs false
set_option linter.unusedVariables false
set_option maxRecDepth 100000
set_option maxHeartbeats 2000000
namespace Go.Proofs.YtnoflfbcgbhipaaGreat.Oct
open Go.RowKit
def lown (l c : Nat) (q : Bk) (k : Nat) : Prop := k = l ∨ k = c ∨ q.own k
structure LnB (w : World) (l : Nat) (q : Bk) (c : Nat) (x : Lb) : Prop where
 bd : Bd 88 [.pointer (some ⟨c, 0, none⟩), .bool x.soon, .bool x.fail] w l q x.b
 cb : Cb w c x.b.t x.b.e x.bt x.q
 hq : x.q = 1 ∨ x.q = 2 ∨ x.q = 3
 f0 : x.b.f = 0
 tb : 1 ≤ x.b.t ∧ x.b.t ≤ 6
 eb : 1 ≤ x.b.e ∧ x.b.e ≤ 4294967295
section
variable {w w' : World} {l c : Nat} {q : Bk} {x : Lb} {S : Nat → Prop}
theorem LnB.nob (h : LnB w l q c x) : Nob w (lown l c q) :=
 (((nob_vb h.bd.own (by decide) (by decide)).or (nob_vb h.cb (by decide) (by decide))).or h.bd.bi.nob).mono (fun k e => e.elim (fun e => .inl (.inl e)) (fun e => e.elim (fun e => .inl (.inr e)) .inr))
theorem LnB.ne (h : LnB w l q c x) : c ≠ l ∧ ¬ q.own c := ⟨vb_ne h.cb h.bd.own (by decide), h.bd.bi.not (by decide) h.cb⟩
theorem LnB.lt (h : LnB w l q c x) : ∀ k, lown l c q k → k < w.heap.size := fun k e => e.elim (fun e => e ▸ h.bd.own.lt) (fun e => e.elim (fun e => e ▸ Vb.lt h.cb) (h.bd.bi.lt k))
theorem LnB.stay (h : LnB w l q c x) (hc : Ch S w w') (hk : ∀ k, lown l c q k → ¬ S k) (hn : Nob w S) : LnB w' l q c x :=
 ⟨h.bd.stay hc (hk l (.inl rfl)) (fun k e => hk k (.inr (.inr e))) hn, (hc.block c (Vb.lt h.cb) (hk c (.inr (.inl rfl)))).trans h.cb, h.hq, h.f0, h.tb, h.eb⟩
theorem LnB.below (h : LnB w l q c x) (hb : Below w.heap.size w w') : LnB w' l q c x := h.stay (S := fun _ => False) (.of_below hb) (fun _ _ e => e) (Nob.none w)
theorem LnB.body (h : LnB w l q c x) {b' : Bo} {q' : Bk} (hb : Bd 88 [.pointer (some ⟨c, 0, none⟩), .bool x.soon, .bool x.fail] w' l q' b') (hc : Ch (fun k => k = l ∨ q.own k) w w') (e : b'.t = x.b.t ∧ b'.f = x.b.f ∧ b'.e = x.b.e) : LnB w' l q' c { x with b := b' } :=
 ⟨hb, by
  have h2 : Cb w' c x.b.t x.b.e x.bt x.q := (hc.block c (Vb.lt h.cb) (fun e => e.elim h.ne.1 h.ne.2)).trans h.cb
  rw [← e.1, ← e.2.2] at h2
  exact h2, h.hq, by show b'.f = 0; rw [e.2.1]; exact h.f0, by show 1 ≤ b'.t ∧ b'.t ≤ 6; rw [e.1]; exact h.tb, by show 1 ≤ b'.e ∧ b'.e ≤ _; rw [e.2.2]; exact h.eb⟩
theorem LnB.soon (h : LnB w l q c x) (v : Bool) : LnB (w.setCell ⟨l, 8, none⟩ (.bool v)) l q c { x with soon := v } :=
 have hc : Ch (fun k => k = l) w (w.setCell ⟨l, 8, none⟩ (.bool v)) := .of_grown (grownBy_set w l 8 (.bool v))
 have hn := nob_vb h.bd.own (by decide) (by decide)
 ⟨⟨h.bd.own.set 8 (.bool v), h.bd.bi.stay hc (fun k e e2 => h.bd.gno (e2 ▸ e)) hn, h.bd.ty⟩, (hc.block c (Vb.lt h.cb) h.ne.1).trans h.cb, h.hq, h.f0, h.tb, h.eb⟩
theorem LnB.failed (h : LnB w l q c x) (v : Bool) : LnB (w.setCell ⟨l, 9, none⟩ (.bool v)) l q c { x with fail := v } :=
 have hc : Ch (fun k => k = l) w (w.setCell ⟨l, 9, none⟩ (.bool v)) := .of_grown (grownBy_set w l 9 (.bool v))
 have hn := nob_vb h.bd.own (by decide) (by decide)
 ⟨⟨h.bd.own.set 9 (.bool v), h.bd.bi.stay hc (fun k e e2 => h.bd.gno (e2 ▸ e)) hn, h.bd.ty⟩, (hc.block c (Vb.lt h.cb) h.ne.1).trans h.cb, h.hq, h.f0, h.tb, h.eb⟩
end
def bk0 (l : Nat) : Bk := ⟨l, l, none, l, l, l⟩
theorem bk0_own {l k : Nat} : (bk0 l).own k ↔ k = l := by
 constructor
 ·rintro ((e | e | e) | e | e | e)
  ·exact e
  ·exact e
  ·simp [bk0] at e
  ·exact e
  ·exact e
  ·exact e
 ·intro e
  exact .inl (.inl e)
structure LnS (w : World) (l : Nat) (q : Bk) (c : Nat) (x : Ls) : Prop where
 tz : 1 ≤ x.tz ∧ x.tz ≤ 6
 no : x.s = none → Vb 88 w l [.int .i64 x.tz, .int .i64 0, .int .i64 0, .pointer none, .pointer none, .pointer none, .bool false, .pointer none, .bool false, .bool false] ∧ q = bk0 l ∧ c = l
 yes : ∀ y, x.s = some y → LnB w l q c y ∧ y.b.t = x.tz ∧ (y.fail = false → y.b.tr < 8) ∧ y.b.tr ≤ 8
section
variable {w w' : World} {l c : Nat} {q : Bk} {x : Ls} {S : Nat → Prop}
theorem LnS.nob (h : LnS w l q c x) : Nob w (lown l c q) := by
 cases hs : x.s with
 | none =>
  obtain ⟨hv, e1, e2⟩ := h.no hs
  subst e1 e2
  exact (nob_vb hv (by decide) (by decide)).mono (fun k e => e.elim id (fun e => e.elim id bk0_own.1))
 | some y => exact (h.yes y hs).1.nob
theorem LnS.lt (h : LnS w l q c x) : ∀ k, lown l c q k → k < w.heap.size := by
 cases hs : x.s with
 | none =>
  obtain ⟨hv, e1, e2⟩ := h.no hs
  subst e1 e2
  intro k e
  have e2 : k = c := e.elim id (fun e => e.elim id bk0_own.1)
  rw [e2]
  exact hv.lt
 | some y => exact (h.yes y hs).1.lt
theorem LnS.stay (h : LnS w l q c x) (hc : Ch S w w') (hk : ∀ k, lown l c q k → ¬ S k) (hn : Nob w S) : LnS w' l q c x :=
 ⟨h.tz, fun hs => ⟨(hc.block l (h.no hs).1.lt (hk l (.inl rfl))).trans (h.no hs).1, (h.no hs).2⟩, fun y hs => ⟨(h.yes y hs).1.stay hc hk hn, (h.yes y hs).2⟩⟩
theorem LnS.below (h : LnS w l q c x) (hb : Below w.heap.size w w') : LnS w' l q c x := h.stay (S := fun _ => False) (.of_below hb) (fun _ _ e => e) (Nob.none w)
theorem LnS.cells (h : LnS w l q c x) : ∃ cs cp fl, Vb 88 w l cs ∧ cs[0]? = some (.int .i64 x.tz) ∧ cs[2]? = some (.int .i64 x.e) ∧ cs[7]? = some (.pointer cp) ∧ cs[9]? = some (.bool fl) ∧ (cp.isSome && !fl) = x.on.isSome ∧ fl = x.failed := by
 obtain ⟨tz, s⟩ := x
 cases s with
 | none =>
  obtain ⟨hv, _⟩ := h.no rfl
  exact ⟨_, none, false, hv, rfl, rfl, rfl, rfl, rfl, rfl⟩
 | some y =>
  obtain ⟨hb, e, _⟩ := h.yes y rfl
  refine ⟨_, some ⟨c, 0, none⟩, y.fail, hb.bd.own, ?_, rfl, rfl, rfl, ?_, rfl⟩
  ·show some (Value.int .i64 y.b.t) = _
   rw [e]
  ·unfold Ls.on
   cases hf : y.fail <;> simp [hf]
end
section
variable {w w' : World} {l c : Nat} {q : Bk} {x : Ls} {S : Nat → Prop}
theorem lisNone {cs : List Value} {tz : Int} (hv : Vb 88 w l cs) (h0 : cs[0]? = some (.int .i64 tz)) (hne : 1 ≤ tz) : Calls Tryz.prog 53 #[.pointer (some ⟨l, 0, none⟩)] w fun en w' => en = .returned (.bool false) ∧ w' = w := by
 have c0 := hv.cell 0 h0
 have e0 : (tz == 0) = false := by simp; omega
 clear hv hne
 go_enter Tryz.func53, Tryz.ntmps53
 go_wp2_with fail
 go_ret
 exact ⟨rfl, rfl⟩
theorem lgoes {cs : List Value} {cp : Option Addr} {fl : Bool} (hv : Vb 88 w l cs) (h7 : cs[7]? = some (.pointer cp)) (h9 : cs[9]? = some (.bool fl)) : Calls Tryz.prog 50 #[.pointer (some ⟨l, 0, none⟩)] w fun en w' => en = .returned (.bool (cp.isSome && !fl)) ∧ w' = w := by
 have c7 := hv.cell 7 h7
 have c9 := hv.cell 9 h9
 clear hv
 rcases cp with _ | a
 ·go_enter Tryz.func50, Tryz.ntmps50
  go_wp2_with fail
  go_ret
  exact ⟨rfl, rfl⟩
 ·go_enter Tryz.func50, Tryz.ntmps50
  go_wp2_with fail
  go_ret
  exact ⟨rfl, rfl⟩
theorem sTick_any (n : Int) (w : World) : Calls Tryz.prog 60 #[.int .i64 n] w fun e w' => e = .returned (.bool (tickB n)) ∧ w' = w := by
 unfold tickB
 by_cases h0 : 0 ≤ n
 ·by_cases h1 : n ≤ 9007199254740991
  ·rw [decide_eq_true ⟨h0, h1⟩]
   go_enter Tryz.func60, Tryz.ntmps60
   go_wp2_with fail
   go_ret
   exact ⟨by simp [h1], rfl⟩
  ·rw [decide_eq_false (fun e => h1 e.2)]
   go_enter Tryz.func60, Tryz.ntmps60
   go_wp2_with fail
   go_ret
   exact ⟨by simp [h1], rfl⟩
 ·rw [decide_eq_false (fun e => h0 e.1)]
  go_enter Tryz.func60, Tryz.ntmps60
  go_wp2_with fail
  go_ret
  exact ⟨rfl, rfl⟩
theorem LnS.isNone (h : LnS w l q c x) : Calls Tryz.prog 53 #[.pointer (some ⟨l, 0, none⟩)] w fun en w' => en = .returned (.bool false) ∧ w' = w := by
 obtain ⟨cs, cp, fl, hv, h0, h2, h7, h9, he, hf⟩ := h.cells
 exact lisNone hv h0 h.tz.1
theorem LnS.goes (h : LnS w l q c x) : Calls Tryz.prog 50 #[.pointer (some ⟨l, 0, none⟩)] w fun en w' => en = .returned (.bool x.on.isSome) ∧ w' = w := by
 obtain ⟨cs, cp, fl, hv, h0, h2, h7, h9, he, hf⟩ := h.cells
 rw [← he]
 exact lgoes hv h7 h9
theorem LnS.epochC (h : LnS w l q c x) : Calls Tryz.prog 19 #[.pointer (some ⟨l, 0, none⟩)] w fun en w' => en = .returned (.int .i64 x.e) ∧ w' = w := by
 have hn := h.isNone
 obtain ⟨cs, cp, fl, hv, h0, h2, h7, h9, he, hf⟩ := h.cells
 have c2 := hv.cell 2 h2
 clear hv he hf h
 go_enter Tryz.func19, Tryz.ntmps19
 go_wp2_with (refine hn.mono ?_; rintro en w1 ⟨rfl, hw1⟩; replace hw1 := hw1.symm; subst hw1)
 go_ret
 exact ⟨rfl, rfl⟩
theorem on_some {x : Ls} {y : Lb} (h : x.on = some y) : x.s = some y ∧ y.fail = false := by
 obtain ⟨tz, s⟩ := x
 cases s with
 | none => simp [Ls.on] at h
 | some z =>
  unfold Ls.on at h
  cases hf : z.fail with
  | true => simp [hf] at h
  | false =>
   simp [hf] at h
   subst h
   exact ⟨rfl, hf⟩
theorem LnS.openC (h : LnS w l q c x) : Calls Tryz.prog 13 #[.pointer (some ⟨l, 0, none⟩)] w fun en w' => en = .returned (.bool x.opn) ∧ w' = w := by
 have hg := h.goes
 cases hon : x.on with
 | none =>
  rw [hon, show (none : Option Lb).isSome = false from rfl] at hg
  have he : x.opn = false := by unfold Ls.opn; rw [hon]
  rw [he]
  clear h he
  go_enter Tryz.func13, Tryz.ntmps13
  go_wp2_with (refine hg.mono ?_; rintro en w1 ⟨rfl, hw1⟩; replace hw1 := hw1.symm; subst hw1)
  go_ret
  exact ⟨rfl, rfl⟩
 | some y =>
  rw [hon, show (some y).isSome = true from rfl] at hg
  have he : x.opn = (y.q == 3) := by unfold Ls.opn Lb.opn; rw [hon]
  rw [he]
  have hb := (h.yes y (on_some hon).1).1
  have c7 := hb.bd.own.cell 7 rfl
  have ho := cOpen hb.cb
  clear h he hb
  go_enter Tryz.func13, Tryz.ntmps13
  go_wp2_with (first | (go_at_call 50; refine hg.mono ?_; rintro en w1 ⟨rfl, hw1⟩; replace hw1 := hw1.symm; subst hw1) | (refine ho.mono ?_; rintro en w1 ⟨rfl, hw1⟩; replace hw1 := hw1.symm; subst hw1))
  go_ret
  exact ⟨rfl, rfl⟩
theorem put_keeps {b : Bo} (o : OrdV) : (b.put o).t = b.t ∧ (b.put o).f = b.f ∧ (b.put o).e = b.e ∧ (b.put o).tr = b.tr := by
 unfold Bo.put
 split <;> exact ⟨rfl, rfl, rfl, rfl⟩
end
theorem agg_line : Agg 88 10 := ⟨⟨_, Tryz.underlying88, rfl⟩, by kernel_rfl⟩
theorem newLine_yes (w : World) (tz : Int) (ht : 1 ≤ tz ∧ tz ≤ 6) : Calls Tryz.prog 8 #[.int .i64 tz] w fun en w' => en = .returned (.tuple #[.pointer (some ⟨w.heap.size, 0, none⟩), .int .i64 0]) ∧ LnS w' w.heap.size (bk0 w.heap.size) w.heap.size ⟨tz, none⟩ ∧ Below w.heap.size w w' := by
 have HB := Kp.mk (below_alloc w (.cells #[.int .i64 tz, .int .i64 0, .int .i64 0, .pointer none, .pointer none, .pointer none, .bool false, .pointer none, .bool false, .bool false] 88))
 have HV := Kp.mk (Vb.new 88 w [.int .i64 tz, .int .i64 0, .int .i64 0, .pointer none, .pointer none, .pointer none, .bool false, .pointer none, .bool false, .bool false])
 have h1 : decide (tz < 1) = false := decide_eq_false (by omega)
 have h2 : decide (tz > 6) = false := decide_eq_false (by omega)
 have h3 : ¬ tz < 1 := by omega
 have h4 : ¬ (6 : Int) < tz := by omega
 have HT := Kp.mk ht
 clear ht
 go_enter Tryz.func8, Tryz.ntmps8
 go_wp2_with fail
 go_ret2
 exact ⟨rfl, ⟨HT.out, fun _ => ⟨HV.out, rfl, rfl⟩, fun y e => by simp at e⟩, HB.out⟩
section
variable {w w' : World} {l c : Nat} {q : Bk} {x : Ls} {S : Nat → Prop}
def LnTurn (w w' : World) (l c : Nat) (q : Bk) (c' : Nat) (q' : Bk) : Prop := Ch (lown l c q) w w' ∧ ∀ k, lown l c' q' k → lown l c q k ∨ w.heap.size ≤ k
theorem LnS.sendC (h : LnS w l q c x) {o : OrdV} {A : Option Addr} {n c0 : Nat} (ho : OrdIn w o A n c0) : Calls Tryz.prog 36 #[.pointer (some ⟨l, 0, none⟩), (.agg #[.int .i64 o.k, .int .i64 o.n, .int .i64 o.m, .int .i64 o.r.k, .int .i64 o.r.pr, .int .i64 o.r.to, .int .i64 o.r.po, .int .i64 o.r.x.v, .int .i64 o.r.x.m, .int .u8 o.r.x.b0, .int .u8 o.r.x.b1, .int .u8 o.r.x.b2, .int .u8 o.r.x.i0, .int .u8 o.r.x.i1, .int .u8 o.r.x.i2, .slice A n c0, .int .i64 o.f, .int .i64 o.p, .int .i64 o.t, .int .i64 o.q, .int .i64 o.z])] w fun en w' => en = .returned (.int .i64 (x.sendE o)) ∧ ∃ q', LnS w' l q' c (x.send o) ∧ LnTurn w w' l c q c q' := by
 have hb0 := below_alloc w (.cells #[.int .i64 o.k, .int .i64 o.n, .int .i64 o.m, .int .i64 o.r.k, .int .i64 o.r.pr, .int .i64 o.r.to, .int .i64 o.r.po, .int .i64 o.r.x.v, .int .i64 o.r.x.m, .int .u8 o.r.x.b0, .int .u8 o.r.x.b1, .int .u8 o.r.x.b2, .int .u8 o.r.x.i0, .int .u8 o.r.x.i1, .int .u8 o.r.x.i2, .slice A n c0, .int .i64 o.f, .int .i64 o.p, .int .i64 o.t, .int .i64 o.q, .int .i64 o.z] 51)
 have hv0 : Vb 51 (w.alloc (.cells #[.int .i64 o.k, .int .i64 o.n, .int .i64 o.m, .int .i64 o.r.k, .int .i64 o.r.pr, .int .i64 o.r.to, .int .i64 o.r.po, .int .i64 o.r.x.v, .int .i64 o.r.x.m, .int .u8 o.r.x.b0, .int .u8 o.r.x.b1, .int .u8 o.r.x.b2, .int .u8 o.r.x.i0, .int .u8 o.r.x.i1, .int .u8 o.r.x.i2, .slice A n c0, .int .i64 o.f, .int .i64 o.p, .int .i64 o.t, .int .i64 o.q, .int .i64 o.z] 51)) w.heap.size (ocl o (.slice A n c0)) := Vb.new _ w (ocl o (.slice A n c0))
 have h1 := h.below hb0
 have hn := h1.isNone
 have hg := h1.goes
 have H1 := Kp.mk h1
 have HO := Kp.mk (show OrdIn (w.alloc (.cells #[.int .i64 o.k, .int .i64 o.n, .int .i64 o.m, .int .i64 o.r.k, .int .i64 o.r.pr, .int .i64 o.r.to, .int .i64 o.r.po, .int .i64 o.r.x.v, .int .i64 o.r.x.m, .int .u8 o.r.x.b0, .int .u8 o.r.x.b1, .int .u8 o.r.x.b2, .int .u8 o.r.x.i0, .int .u8 o.r.x.i1, .int .u8 o.r.x.i2, .slice A n c0, .int .i64 o.f, .int .i64 o.p, .int .i64 o.t, .int .i64 o.q, .int .i64 o.z] 51)) o A n c0 from ⟨(ho.ro.below' hb0 (Nat.le_refl _)).more hb0.size, ho.u8⟩)
 have HB0 := Kp.mk hb0
 have HV0 := Kp.mk hv0
 clear h ho hb0 hv0 h1
 go_enter Tryz.func36, Tryz.ntmps36
 go_upto_region 1 with fail
 generalize w.alloc (.cells #[.int .i64 o.k, .int .i64 o.n, .int .i64 o.m, .int .i64 o.r.k, .int .i64 o.r.pr, .int .i64 o.r.to, .int .i64 o.r.po, .int .i64 o.r.x.v, .int .i64 o.r.x.m, .int .u8 o.r.x.b0, .int .u8 o.r.x.b1, .int .u8 o.r.x.b2, .int .u8 o.r.x.i0, .int .u8 o.r.x.i1, .int .u8 o.r.x.i2, .slice A n c0, .int .i64 o.f, .int .i64 o.p, .int .i64 o.t, .int .i64 o.q, .int .i64 o.z] 51) = w0 at *
 obtain ⟨g0, hg0⟩ : ∃ g0, g0 = w.heap.size := ⟨_, rfl⟩
 rw [← hg0] at HV0 ⊢
 clear hg0
 cases hon : x.on with
 | none =>
  rw [hon, show (none : Option Lb).isSome = false from rfl] at hg
  have HE := Kp.mk (show x.sendE o = 180 ∧ x.send o = x by unfold Ls.sendE Ls.send; rw [hon]; exact ⟨rfl, rfl⟩)
  clear hon
  go_wp2_with (first | (go_at_call 53; refine hn.mono ?_; rintro en w1 ⟨rfl, hw1⟩; replace hw1 := hw1.symm; subst hw1) | (go_at_call 50; refine hg.mono ?_; rintro en w1 ⟨rfl, hw1⟩; replace hw1 := hw1.symm; subst hw1))
  go_ret
  exact ⟨by rw [HE.out.1]; rfl, q, by rw [HE.out.2]; exact H1.out, .of_below HB0.out, fun k e => .inl e⟩
 | some y =>
  rw [hon, show (some y).isSome = true from rfl] at hg
  have HE := Kp.mk (show x.sendE o = y.b.putE o ∧ x.send o = ⟨x.tz, some { y with b := y.b.put o }⟩ by unfold Ls.sendE Ls.send; rw [hon]; exact ⟨rfl, rfl⟩)
  have hy := (H1.out.yes y (on_some hon).1)
  have HY := Kp.mk hy
  have HF := Kp.mk (on_some hon).2
  have HL := Kp.mk H1.out.lt
  have hp := bput_any hy.1.bd HO.out
  have hv0 := HV0.out
  clear hon hy
  go_wp2_with (first | (go_at_call 53; refine hn.mono ?_; rintro en w1 ⟨rfl, hw1⟩; replace hw1 := hw1.symm; subst hw1) | (go_at_call 50; refine hg.mono ?_; rintro en w1 ⟨rfl, hw1⟩; replace hw1 := hw1.symm; subst hw1) | (refine wpList_load_vb (vs := ([.int .i64 o.k, .int .i64 o.n, .int .i64 o.m, .int .i64 o.r.k, .int .i64 o.r.pr, .int .i64 o.r.to, .int .i64 o.r.po, .int .i64 o.r.x.v, .int .i64 o.r.x.m, .int .u8 o.r.x.b0, .int .u8 o.r.x.b1, .int .u8 o.r.x.b2, .int .u8 o.r.x.i0, .int .u8 o.r.x.i1, .int .u8 o.r.x.i2, .slice A n c0, .int .i64 o.f, .int .i64 o.p, .int .i64 o.t, .int .i64 o.q, .int .i64 o.z] : List Value)) rfl (.tmp 3) rfl rfl hv0 rfl agg_order ?_))
  refine wp_region_held_drew (S := fun X => Vb 51 X g0 (ocl o (.slice A n c0))) (by kernel_rfl) hv0 (fun hS0 => ?_)
  have hbd := (Below.refl w0.heap.size w0).drew
  have hY2 := (show LnB w0.drew l q c y from HY.out.1.below hbd)
  have HO2 := Kp.mk (show OrdIn w0.drew o A n c0 from ⟨HO.out.ro.drew, HO.out.u8⟩)
  have HBD := Kp.mk (HB0.out.trans (hbd.mono HB0.out.size))
  clear hbd hp hv0 HB0 HV0
  generalize w0.drew = u at *
  refine tD 0 (.pointer (some ⟨l, 0, none⟩)) 12 rfl rfl hS0 ?_ ?_
  ·rintro w' hq
   go_simp
  try simp only [Act.put, zA, zB, zC]
  refine tD 1 (.pointer (some ⟨l, 0, none⟩)) 13 rfl rfl hS0 ?_ ?_
  ·rintro w' hq
   go_simp
  try simp only [Act.put, zA, zB, zC]
  refine tD 2 (.pointer (some ⟨l, 0, none⟩)) 14 rfl rfl hS0 ?_ ?_
  ·rintro w' hq
   go_simp
  try simp only [Act.put, zA, zB, zC]
  refine tD 3 (.agg #[.int .i64 o.k, .int .i64 o.n, .int .i64 o.m, .int .i64 o.r.k, .int .i64 o.r.pr, .int .i64 o.r.to, .int .i64 o.r.po, .int .i64 o.r.x.v, .int .i64 o.r.x.m, .int .u8 o.r.x.b0, .int .u8 o.r.x.b1, .int .u8 o.r.x.b2, .int .u8 o.r.x.i0, .int .u8 o.r.x.i1, .int .u8 o.r.x.i2, .slice A n c0, .int .i64 o.f, .int .i64 o.p, .int .i64 o.t, .int .i64 o.q, .int .i64 o.z]) 15 rfl rfl hS0 ?_ ?_
  ·rintro w' hq
   exact exec_load_vb (vs := ocl o (.slice A n c0)) (.tmp 3) rfl rfl (hq) rfl agg_order
  try simp only [Act.put, zA, zB, zC]
  refine rD 4 rfl fun K hK => ?_
  try rw [if_pos (by rfl)]
  go_simp
  go_at_call 69
  refine (bput_any hY2.bd HO2.out).mono ?_
  rintro en u2 ⟨rfl, q2, hB2, hq2, hC2⟩
  have hS2 : Vb 51 u2 g0 (ocl o (.slice A n c0)) := (hC2.block g0 hS0.lt (hY2.bd.bi.not (by decide) hS0)).trans hS0
  have HF2 := Kp.mk (show LnB u2 l q2 c { y with b := y.b.put o } from hY2.body hB2 (hC2.mono (fun k _ e => .inr e)) ⟨(put_keeps o).1, (put_keeps o).2.1, (put_keeps o).2.2.1⟩)
  have HQ2 := Kp.mk (show ∀ k, lown l c q2 k → lown l c q k ∨ w.heap.size ≤ k from fun k e => e.elim (fun e => .inl (.inl e)) (fun e => e.elim (fun e => .inl (.inr (.inl e))) (fun e => (hq2 k e).elim (fun e => .inl (.inr (.inr e))) (fun e => .inr (by have := HBD.out.size; omega)))))
  have HC2 := Kp.mk ((Ch.of_below (S := lown l c q) HBD.out).trans hC2 (fun k _ e => .inr (.inr e)))
  clear hB2 hq2 hC2 hY2
  refine hK.out _ _ hS2 (fun _ => ?_)
  clear hK K
  try simp only [Act.put, zA, zB, zC]
  refine tD 5 (.int .i64 (y.b.putE o)) 4 rfl rfl hS2 (fun _ _ => by go_simp) ?_
  try simp only [Act.put, zA, zB, zC]
  refine wpAnyH_done (by kernel_rfl) ?_ _
  clear hS0 hS2
  go_wp2_with fail
  go_ret
  refine ⟨by rw [HE.out.1]; rfl, q2, ?_, HC2.out, HQ2.out⟩
  rw [HE.out.2]
  exact ⟨H1.out.tz, fun e => by simp at e, fun z e => by obtain rfl := Option.some.inj e; exact ⟨HF2.out, (put_keeps o).1.trans HY.out.2.1, fun e => by rw [(put_keeps (b := y.b) o).2.2.2]; exact HY.out.2.2.1 e, by rw [(put_keeps (b := y.b) o).2.2.2]; exact HY.out.2.2.2⟩⟩
theorem says_keeps (b : Bo) (now : Int) : (b.saysB now).t = b.t ∧ (b.saysB now).f = b.f ∧ (b.saysB now).e = b.e ∧ (b.saysB now).tr ≤ b.tr + 1 := by
 unfold Bo.saysB
 split
 ·exact ⟨rfl, rfl, rfl, Nat.zero_le _⟩
 ·split
  ·exact ⟨rfl, rfl, rfl, Nat.le_refl _⟩
  ·exact ⟨rfl, rfl, rfl, Nat.le_succ _⟩
theorem saysC_ms (t e bt q : Int) : Mok w (saysC t e bt q).ms := by
 have : ∀ y : Sv, y.A = none → y.n = 0 → y.c = 0 → Mok w y.ms := by
  intro y h1 h2 h3
  obtain ⟨k, t, f, h, p, o, s, a, A, n, c⟩ := y
  simp only at h1 h2 h3
  subst h1 h2 h3
  exact Fok.nil_ _ _
 unfold saysC
 split
 ·exact this _ rfl rfl rfl
 ·split
  ·exact this _ rfl rfl rfl
  ·exact this _ rfl rfl rfl
end
section
variable {w w' : World} {l c : Nat} {q : Bk} {y : Lb} {S : Nat → Prop}
theorem lcallDue (h : LnB w l q c y) {now : Int} (hn : tickB now = true) (ht : y.b.tr < 8) : Calls Tryz.prog 100 #[.pointer (some ⟨l, 0, none⟩), .int .i64 now] w fun en w' => en = .returned (.bool (y.soon || y.b.due now)) ∧ LnB w' l q c { y with b := y.dueB now, soon := false } ∧ Ch (lown l c q) w w' := by
 have c8 := h.bd.own.cell 8 rfl
 cases hs : y.soon with
 | true =>
  rw [hs] at c8
  have f8 := h.bd.own.free 8
  have HB := Kp.mk (h.soon false)
  have HC := Kp.mk (show Ch (lown l c q) w (w.setCell ⟨l, 8, none⟩ (.bool false)) from (Ch.of_grown (grownBy_set w l 8 (.bool false))).mono (fun k _ e => .inl e))
  have HE := Kp.mk (show y.dueB now = y.b by unfold Lb.dueB; rw [hs]; rfl)
  clear h
  go_enter Tryz.func100, Tryz.ntmps100
  go_wp2_with fail
  go_ret
  exact ⟨rfl, by rw [HE.out]; exact HB.out, HC.out⟩
 | false =>
  rw [hs] at c8
  have c5 := h.bd.own.cell 5 rfl
  cases hd : y.b.due now with
  | true =>
   have hh := h.bd.bi.dueY hn hd (by omega)
   have HE := Kp.mk (show { y with b := y.dueB now, soon := false } = ({ y with b := { y.b with a := now + wv 4 32 (y.b.tr + 1), tr := y.b.tr + 1 } } : Lb) by unfold Lb.dueB; rw [hs, hd]; simp [hs])
   have H := Kp.mk h
   clear h
   go_enter Tryz.func100, Tryz.ntmps100
   go_wp2_with fail
   refine hh.mono ?_
   rintro en w1 ⟨rfl, hB1, hC1⟩
   have hown : ∀ k, k = q.z → q.own k := fun k e => .inr (.inr (.inr e))
   have H1 := Kp.mk (H.out.body (H.out.bd.of hB1 hC1 hown ⟨rfl, rfl, rfl, rfl⟩) (hC1.mono (fun k _ e => .inr (hown k e))) ⟨rfl, rfl, rfl⟩)
   have HC1 := Kp.mk (hC1.mono (S' := lown l c q) (fun k _ e => .inr (.inr (hown k e))))
   clear hh hB1 hC1 hown c5 c8
   go_wp2_with fail
   go_ret
   exact ⟨rfl, by rw [HE.out]; exact H1.out, HC1.out⟩
  | false =>
   have hh := h.bd.bi.dueN hd
   have HE := Kp.mk (show { y with b := y.dueB now, soon := false } = y by
    obtain ⟨b, bt, qq, so, fa⟩ := y
    simp only at hs hd
    unfold Lb.dueB
    simp [hs, hd])
   have H := Kp.mk h
   clear h
   go_enter Tryz.func100, Tryz.ntmps100
   go_wp2_with fail
   refine hh.mono ?_
   rintro en w1 ⟨rfl, hw1⟩
   replace hw1 := hw1.symm
   subst hw1
   clear hh c5 c8
   go_wp2_with fail
   go_ret
   exact ⟨rfl, by rw [HE.out]; exact H.out, Ch.refl _ _⟩
def LnSays (w : World) (l : Nat) (q : Bk) (c : Nat) (y' : Lb) (A : List Sa) (en : Ending) (w' : World) : Prop :=
 ∃ A' n' c' L, en = .returned (.slice A' n' c') ∧ Kp (Said w' w.heap.size (.slice A' n' c') n' L) ∧ L.map Ms.abs = A ∧ n' ≤ 9 ∧ LnB w' l q c y' ∧ Ch (lown l c q) w w'
theorem lspeaks (h : LnB w l q c y) {now : Int} (hn : tickB now = true) (ht : y.b.tr < 8) : Calls Tryz.prog 65 #[.pointer (some ⟨l, 0, none⟩), .int .i64 now] w (LnSays w l q c { y with b := y.bodyT now, soon := if y.opn then y.soon else false } (y.says now)) := by
 unfold LnSays
 have c7 := h.bd.own.cell 7 rfl
 have ho := cOpen h.cb
 cases hop : y.opn with
 | true =>
  have ho' : (y.q == 3) = true := hop
  rw [ho'] at ho
  have hs := bsays_any h.bd hn (by omega)
  have HE := Kp.mk (show y.says now = y.b.says now ∧ y.bodyT now = y.b.saysB now by unfold Lb.says Lb.bodyT; rw [hop]; exact ⟨rfl, rfl⟩)
  have H := Kp.mk h
  clear h ho'
  go_enter Tryz.func65, Tryz.ntmps65
  go_wp2_with (refine ho.mono ?_; rintro en w1 ⟨rfl, hw1⟩; replace hw1 := hw1.symm; subst hw1)
  refine hs.mono ?_
  rintro en w1 ⟨A', n', c', L, rfl, hS, hA, hn9, hB, hC⟩
  have HP := Kp.mk (And.intro hA (And.intro hn9 (And.intro (H.out.body hB hC ⟨(says_keeps y.b now).1, (says_keeps y.b now).2.1, (says_keeps y.b now).2.2.1⟩) (hC.mono (S' := lown l c q) (fun k _ e => e.elim .inl (fun e => .inr (.inr e)))))))
  clear hs hA hn9 hB hC ho c7
  go_wp2_with fail
  go_ret
  exact ⟨A', n', c', rfl, L, hS, by rw [HE.out.1]; exact HP.out.1, HP.out.2.1, by rw [HE.out.2]; exact HP.out.2.2.1, HP.out.2.2.2⟩
 | false =>
  have ho' : (y.q == 3) = false := hop
  rw [ho'] at ho
  have hd := lcallDue h hn ht
  have H := Kp.mk h
  have HZ := Kp.mk h.cb
  clear h ho'
  cases hdu : (y.soon || y.b.due now) with
  | false =>
   rw [hdu] at hd
   have HE := Kp.mk (show y.says now = [] ∧ y.bodyT now = y.dueB now by unfold Lb.says Lb.bodyT; rw [hop, hdu]; exact ⟨rfl, rfl⟩)
   go_enter Tryz.func65, Tryz.ntmps65
   go_wp2_with (go_at_call 51; refine ho.mono ?_; rintro en w1 ⟨rfl, hw1⟩; replace hw1 := hw1.symm; subst hw1)
   refine hd.mono ?_
   rintro en w1 ⟨rfl, hB, hC⟩
   have HB := Kp.mk hB
   have HC := Kp.mk hC
   clear hd hB hC ho c7
   go_wp2_with fail
   go_ret
   exact ⟨none, 0, 0, rfl, [], Kp.mk (Said.nil0 _ _), by rw [HE.out.1]; rfl, by omega, by rw [HE.out.2]; exact HB.out, HC.out⟩
  | true =>
   rw [hdu] at hd
   have HE := Kp.mk (show y.says now = [(saysC y.b.t y.b.e y.bt y.q).ms.abs] ∧ y.bodyT now = y.dueB now by unfold Lb.says Lb.bodyT; rw [hop, hdu]; exact ⟨rfl, rfl⟩)
   have hkd : (y.dueB now).t = y.b.t ∧ (y.dueB now).e = y.b.e := by
    unfold Lb.dueB
    split
    ·exact ⟨rfl, rfl⟩
    ·split <;> exact ⟨rfl, rfl⟩
   have HK := Kp.mk hkd
   clear hkd
   go_enter Tryz.func65, Tryz.ntmps65
   go_wp2_with (go_at_call 51; refine ho.mono ?_; rintro en w1 ⟨rfl, hw1⟩; replace hw1 := hw1.symm; subst hw1)
   refine hd.mono ?_
   rintro en w1 ⟨rfl, hB, hC⟩
   have c7 := hB.bd.own.cell 7 rfl
   have hsy := cSays hB.cb hB.hq
   simp only [HK.out.1, HK.out.2] at hsy
   have HB := Kp.mk hB
   have HC := Kp.mk hC
   clear hd hB hC ho
   go_wp2_with fail
   refine hsy.mono ?_
   rintro en w2 ⟨rfl, hb2⟩
   have HB2 := Kp.mk (HB.out.below hb2)
   have HC2 := Kp.mk (HC.out.trans (Ch.of_below (S := lown l c q) hb2) (fun _ _ e => e))
   clear hsy hb2 HB HC c7
   obtain ⟨z, hz⟩ : ∃ z, z = saysC y.b.t y.b.e y.bt y.q := ⟨_, rfl⟩
   have HM := Kp.mk (fun w : World => saysC_ms (w := w) y.b.t y.b.e y.bt y.q)
   rw [← hz] at HE HM ⊢
   clear hz
   obtain ⟨zk, zt, zf, zh, zp, zo, zs, za, zA, zn, zc⟩ := z
   simp only [Sv.v]
   go_upto_region 6 with (refine wpList_store_new (vs := [.int .i64 zk, .int .i64 zt, .int .i64 zf, .int .i64 zh, .int .i64 zp, .int .i64 zo, .int .i64 zs, .int .i64 za, .slice zA zn zc]) rfl (.tmp 5) (.tmp 27) rfl rfl rfl rfl rfl rfl agg_seg rfl ?_; intro w3 hv3 hb3 hz3)
   have HB3 := Kp.mk (HB2.out.below hb3)
   have HC3 := Kp.mk (HC2.out.trans (Ch.of_below (S := lown l c q) hb3) (fun _ _ e => e))
   clear hb3 hz3 HB2 HC2
   generalize w2.heap.size = g5 at *
   have hN := new_seg w3 ⟨zk, zt, zf, zh, zp, zo, zs, za, zA, zn, zc⟩
   have HO := Kp.mk (show Said (w3.alloc (.cells #[.int .i64 zk, .int .i64 zt, .int .i64 zf, .int .i64 zh, .int .i64 zp, .int .i64 zo, .int .i64 zs, .int .i64 za, .slice zA zn zc] 54)) w.heap.size (.slice (some ⟨w3.heap.size, 0, none⟩) 1 1) 1 [(⟨zk, zt, zf, zh, zp, zo, zs, za, zA, zn, zc⟩ : Sv).ms] from
    ⟨⟨rfl, .inr ⟨w3.heap.size, 1, _, rfl, HC3.out.size, heap_alloc_new w3 _, Nat.le_refl _, by unfold maxLen; omega, rfl, rfl⟩⟩, fun m hm => by rw [List.mem_singleton.1 hm]; exact HM.out _⟩)
   have HB4 := Kp.mk (HB3.out.below hN.2)
   have HC4 := Kp.mk (HC3.out.trans (Ch.of_below (S := lown l c q) hN.2) (fun _ _ e => e))
   clear hN HB3 HC3
   go_wp2_with (refine wpList_load_vb (vs := [.int .i64 zk, .int .i64 zt, .int .i64 zf, .int .i64 zh, .int .i64 zp, .int .i64 zo, .int .i64 zs, .int .i64 za, .slice zA zn zc]) rfl (.tmp 5) rfl rfl hv3 rfl agg_seg ?_)
   go_ret
   exact ⟨_, 1, 1, rfl, _, HO, by rw [HE.out.1]; rfl, by omega, by rw [HE.out.2]; exact HB4.out, HC4.out⟩
end
theorem bodyT_keeps (y : Lb) (now : Int) : (y.bodyT now).t = y.b.t ∧ (y.bodyT now).f = y.b.f ∧ (y.bodyT now).e = y.b.e ∧ (y.bodyT now).tr ≤ y.b.tr + 1 := by
 unfold Lb.bodyT
 split
 ·exact says_keeps y.b now
 ·unfold Lb.dueB
  split
  ·exact ⟨rfl, rfl, rfl, Nat.le_succ _⟩
  ·split
   ·exact ⟨rfl, rfl, rfl, Nat.le_refl _⟩
   ·exact ⟨rfl, rfl, rfl, Nat.le_succ _⟩
theorem call_keeps (y : Lb) (m : Ms) (now : Int) : (y.callB m now).t = y.b.t ∧ (y.callB m now).f = y.b.f ∧ (y.callB m now).e = y.b.e ∧ (y.callB m now).tr ≤ y.b.tr := by
 unfold Lb.callB
 split
 ·exact ⟨rfl, rfl, rfl, Nat.zero_le _⟩
 ·split
  ·exact ⟨rfl, rfl, rfl, Nat.zero_le _⟩
  ·exact ⟨rfl, rfl, rfl, Nat.le_refl _⟩
section
variable {w w' : World} {l c : Nat} {q : Bk} {x : Ls} {y : Lb} {S : Nat → Prop}
def LsSays (w : World) (l : Nat) (q : Bk) (c : Nat) (x' : Ls) (A : List Sa) (en : Ending) (w' : World) : Prop :=
 ∃ A' n' c' L, en = .returned (.slice A' n' c') ∧ Kp (Said w' w.heap.size (.slice A' n' c') n' L) ∧ L.map Ms.abs = A ∧ n' ≤ 9 ∧ LnS w' l q c x' ∧ Ch (lown l c q) w w'
theorem LnS.tickC (h : LnS w l q c x) (now : Int) : Calls Tryz.prog 34 #[.pointer (some ⟨l, 0, none⟩), .int .i64 now] w (LsSays w l q c (x.tick now) (x.says now)) := by
 unfold LsSays
 have hg := h.goes
 have hti := sTick_any now w
 cases hon : x.on with
 | none =>
  rw [hon, show (none : Option Lb).isSome = false from rfl] at hg
  have HE := Kp.mk (show x.says now = [] ∧ x.tick now = x by unfold Ls.says Ls.tick; rw [hon]; exact ⟨by simp, by simp⟩)
  have H := Kp.mk h
  clear h hon
  go_enter Tryz.func34, Tryz.ntmps34
  go_wp2_with (go_at_call 50; refine hg.mono ?_; rintro en w1 ⟨rfl, hw1⟩; replace hw1 := hw1.symm; subst hw1)
  go_ret
  exact ⟨none, 0, 0, [], rfl, Kp.mk (Said.nil0 _ _), by rw [HE.out.1]; rfl, by omega, by rw [HE.out.2]; exact H.out, Ch.refl _ _⟩
 | some y =>
  rw [hon, show (some y).isSome = true from rfl] at hg
  cases htk : tickB now with
  | false =>
   rw [htk] at hti
   have HE := Kp.mk (show x.says now = [] ∧ x.tick now = x by unfold Ls.says Ls.tick; rw [htk]; exact ⟨by simp, by simp⟩)
   have H := Kp.mk h
   clear h hon
   go_enter Tryz.func34, Tryz.ntmps34
   go_wp2_with (first | (go_at_call 50; refine hg.mono ?_; rintro en w1 ⟨rfl, hw1⟩; replace hw1 := hw1.symm; subst hw1) | (go_at_call 60; refine hti.mono ?_; rintro en w1 ⟨rfl, hw1⟩; replace hw1 := hw1.symm; subst hw1))
   go_ret
   exact ⟨none, 0, 0, [], rfl, Kp.mk (Said.nil0 _ _), by rw [HE.out.1]; rfl, by omega, by rw [HE.out.2]; exact H.out, Ch.refl _ _⟩
  | true =>
   rw [htk] at hti
   have HE := Kp.mk (show x.says now = y.says now ∧ x.tick now = ⟨x.tz, some (y.tick now)⟩ by unfold Ls.says Ls.tick; rw [htk, hon]; exact ⟨by simp, by simp⟩)
   obtain ⟨hs, hf⟩ := on_some hon
   obtain ⟨hy, htz, htr, htr8⟩ := h.yes y hs
   have HT := Kp.mk (And.intro h.tz (And.intro htz (htr hf)))
   have hsp := lspeaks hy htk (htr hf)
   clear h hon hs hf hy htz htr htr8
   go_enter Tryz.func34, Tryz.ntmps34
   go_wp2_with (first | (go_at_call 50; refine hg.mono ?_; rintro en w1 ⟨rfl, hw1⟩; replace hw1 := hw1.symm; subst hw1) | (go_at_call 60; refine hti.mono ?_; rintro en w1 ⟨rfl, hw1⟩; replace hw1 := hw1.symm; subst hw1))
   refine hsp.mono ?_
   rintro en w1 ⟨A', n', c', L, rfl, hS, hA, hn9, hB, hC⟩
   have c5 := hB.bd.own.cell 5 rfl
   have c9 := hB.bd.own.cell 9 rfl
   have f9 := hB.bd.own.free 9
   have htri := btries_any hB.bd.bi.bt
   have hkp := bodyT_keeps y now
   have hno := fun k e => (hS.out.no hB.bd k e)
   have HP := Kp.mk (And.intro hA (And.intro hn9 hC))
   have HB := Kp.mk hB
   have HKP := Kp.mk hkp
   clear hsp hA hn9 hC hB hg hti hkp
   rw [show ({ y with b := y.bodyT now, soon := if y.opn = true then y.soon else false } : Lb).b = y.bodyT now from rfl] at htri
   by_cases h8 : 8 ≤ (y.bodyT now).tr
   ·have h8' : (8 : Int) ≤ ((y.bodyT now).tr : Int) := by omega
    have HF := Kp.mk (HB.out.failed true)
    have HD := Kp.mk (show y.tick now = { y with b := y.bodyT now, soon := if y.opn then y.soon else false, fail := true } by unfold Lb.tick; rw [decide_eq_true h8])
    have hcl : Ch (fun k => k = l) w1 (w1.setCell ⟨l, 9, none⟩ (.bool true)) := .of_grown (grownBy_set w1 l 9 (.bool true))
    have HS9 := Kp.mk (hS.out.stay hcl (fun k e e2 => (hno k e).1 e2) (nob_vb HB.out.bd.own (by decide) (by decide)))
    have HC9 := Kp.mk (HP.out.2.2.trans hcl (fun k _ e => .inl e))
    have HTR := Kp.mk (show (y.bodyT now).tr ≤ 8 by have := HKP.out.2.2.2; have := HT.out.2.2; omega)
    clear h8 hcl hno hS
    go_wp2_with (refine htri.mono ?_; rintro en w2 ⟨rfl, hw2⟩; replace hw2 := hw2.symm; subst hw2)
    go_ret
    refine ⟨A', n', c', L, rfl, HS9, by rw [HE.out.1]; exact HP.out.1, HP.out.2.1, ?_, HC9.out⟩
    rw [HE.out.2, HD.out]
    exact ⟨HT.out.1, fun e => by simp at e, fun z e => by obtain rfl := Option.some.inj e; exact ⟨HF.out, HKP.out.1.trans HT.out.2.1, fun e => by simp at e, HTR.out⟩⟩
   ·have h8' : decide ((8 : Int) ≤ ((y.bodyT now).tr : Int)) = false := decide_eq_false (by omega)
    have HF := Kp.mk (HB.out.failed false)
    have HD := Kp.mk (show y.tick now = { y with b := y.bodyT now, soon := if y.opn then y.soon else false, fail := false } by unfold Lb.tick; rw [decide_eq_false h8])
    have hcl : Ch (fun k => k = l) w1 (w1.setCell ⟨l, 9, none⟩ (.bool false)) := .of_grown (grownBy_set w1 l 9 (.bool false))
    have HS9 := Kp.mk (hS.out.stay hcl (fun k e e2 => (hno k e).1 e2) (nob_vb HB.out.bd.own (by decide) (by decide)))
    have HC9 := Kp.mk (HP.out.2.2.trans hcl (fun k _ e => .inl e))
    have HTR := Kp.mk (show (y.bodyT now).tr < 8 by omega)
    clear h8 hcl hno hS
    go_wp2_with (refine htri.mono ?_; rintro en w2 ⟨rfl, hw2⟩; replace hw2 := hw2.symm; subst hw2)
    go_ret
    refine ⟨A', n', c', L, rfl, HS9, by rw [HE.out.1]; exact HP.out.1, HP.out.2.1, ?_, HC9.out⟩
    rw [HE.out.2, HD.out]
    exact ⟨HT.out.1, fun e => by simp at e, fun z e => by obtain rfl := Option.some.inj e; exact ⟨HF.out, HKP.out.1.trans HT.out.2.1, fun _ => HTR.out, Nat.le_of_lt HTR.out⟩⟩
end
section
variable {w w' : World} {l c : Nat} {q : Bk} {x : Ls} {y : Lb} {S : Nat → Prop}
theorem LnS.full (h : LnS w l q c x) : ∃ cs, Vb 88 w l cs ∧ cs.length = 10 ∧ cs[0]? = some (.int .i64 x.tz) ∧ cs[2]? = some (.int .i64 x.e) := by
 obtain ⟨tz, s⟩ := x
 cases s with
 | none => exact ⟨_, (h.no rfl).1, rfl, rfl, rfl⟩
 | some y =>
  obtain ⟨hb, e, _⟩ := h.yes y rfl
  exact ⟨_, hb.bd.own, rfl, by show some (Value.int .i64 y.b.t) = _; rw [e], rfl⟩
theorem LnS.e0 (h : LnS w l q c x) : 0 ≤ x.e := by
 obtain ⟨tz, s⟩ := x
 cases s with
 | none => exact Int.le_refl 0
 | some y =>
  have := (h.yes y rfl).1.eb.1
  show 0 ≤ y.b.e
  omega
theorem LnS.beginC (h : LnS w l q c x) (e now : Int) : Calls Tryz.prog 31 #[.pointer (some ⟨l, 0, none⟩), .int .i64 e, .int .i64 now] w fun en w' => en = .returned (.int .i64 (x.begE e now)) ∧ ∃ q' c', LnS w' l q' c' (x.begin_ e now) ∧ LnTurn w w' l c q c' q' := by
 have hin := h.isNone
 have hti := sTick_any now w
 have he0 := h.e0
 obtain ⟨cs, hv, hcl, h0, h2⟩ := h.full
 have c0 := hv.cell 0 h0
 have c2 := hv.cell 2 h2
 have H := Kp.mk h
 have HV := Kp.mk hv
 have HTZ := Kp.mk h.tz
 clear h hv h0 h2
 cases htk : tickB now with
 | false =>
  rw [htk] at hti
  have HE := Kp.mk (show x.begE e now = 2 ∧ x.begin_ e now = x from
   have e1 : x.begE e now = 2 := by unfold Ls.begE; rw [htk]; rfl
   ⟨e1, by unfold Ls.begin_; rw [e1]; rfl⟩)
  go_enter Tryz.func31, Tryz.ntmps31
  go_wp2_with (first | (go_at_call 53; refine hin.mono ?_; rintro en w1 ⟨rfl, hw1⟩; replace hw1 := hw1.symm; subst hw1) | (go_at_call 60; refine hti.mono ?_; rintro en w1 ⟨rfl, hw1⟩; replace hw1 := hw1.symm; subst hw1))
  go_ret
  exact ⟨by rw [HE.out.1]; rfl, q, c, by rw [HE.out.2]; exact H.out, Ch.refl _ _, fun k e => .inl e⟩
 | true =>
  rw [htk] at hti
  by_cases hle : e ≤ x.e
  ·have HE := Kp.mk (show x.begE e now = 130 ∧ x.begin_ e now = x from
    have e1 : x.begE e now = 130 := by unfold Ls.begE; rw [htk, if_pos (show x.e ≥ e ∨ _ from Or.inl hle)]; rfl
    ⟨e1, by unfold Ls.begin_; rw [e1]; rfl⟩)
   generalize x.e = xe at *
   clear he0 hcl
   go_enter Tryz.func31, Tryz.ntmps31
   go_wp2_with (first | (go_at_call 53; refine hin.mono ?_; rintro en w1 ⟨rfl, hw1⟩; replace hw1 := hw1.symm; subst hw1) | (go_at_call 60; refine hti.mono ?_; rintro en w1 ⟨rfl, hw1⟩; replace hw1 := hw1.symm; subst hw1))
   go_ret
   exact ⟨by rw [HE.out.1]; rfl, q, c, by rw [HE.out.2]; exact H.out, Ch.refl _ _, fun k e => .inl e⟩
  ·by_cases hgt : (4294967295 : Int) < e
   ·have HE := Kp.mk (show x.begE e now = 130 ∧ x.begin_ e now = x from
     have e1 : x.begE e now = 130 := by unfold Ls.begE; rw [htk, if_pos (show e ≤ x.e ∨ _ from Or.inr hgt)]; rfl
     ⟨e1, by unfold Ls.begin_; rw [e1]; rfl⟩)
    generalize x.e = xe at *
    clear he0 hcl
    go_enter Tryz.func31, Tryz.ntmps31
    go_wp2_with (first | (go_at_call 53; refine hin.mono ?_; rintro en w1 ⟨rfl, hw1⟩; replace hw1 := hw1.symm; subst hw1) | (go_at_call 60; refine hti.mono ?_; rintro en w1 ⟨rfl, hw1⟩; replace hw1 := hw1.symm; subst hw1))
    go_ret
    exact ⟨by rw [HE.out.1]; rfl, q, c, by rw [HE.out.2]; exact H.out, Ch.refl _ _, fun k e => .inl e⟩
   ·have HE := Kp.mk (show x.begE e now = 0 ∧ x.begin_ e now = ⟨x.tz, some ⟨{ bo0 x.tz 0 e with a := now + 4 }, 0, 1, false, false⟩⟩ from
     have e1 : x.begE e now = 0 := by unfold Ls.begE; rw [htk, if_neg (show ¬ (e ≤ x.e ∨ 4294967295 < e) from fun h => h.elim hle hgt)]; rfl
     ⟨e1, by unfold Ls.begin_; rw [if_pos e1]⟩)
    have HEB := Kp.mk (show 1 ≤ e ∧ e ≤ 4294967295 by omega)
    have hcw := cnew_yes w x.tz e (decide_eq_true HTZ.out) (decide_eq_true HEB.out)
    obtain ⟨xz, hxz⟩ : ∃ xz, xz = x.tz := ⟨_, rfl⟩
    rw [← hxz] at HTZ hcw c0 HE
    clear hxz
    generalize x.e = xe at *
    clear he0
    go_enter Tryz.func31, Tryz.ntmps31
    go_wp2_with (first | (go_at_call 53; refine hin.mono ?_; rintro en w1 ⟨rfl, hw1⟩; replace hw1 := hw1.symm; subst hw1) | (go_at_call 60; refine hti.mono ?_; rintro en w1 ⟨rfl, hw1⟩; replace hw1 := hw1.symm; subst hw1))
    refine hcw.mono ?_
    rintro en w1 ⟨rfl, hC1, hb1⟩
    have HC1 := Kp.mk hC1
    have HV1 := Kp.mk (HV.out.below hb1 HV.out.lt)
    have HB1 := Kp.mk hb1
    have c0 := (hb1.cell (p := ⟨l, 0, none⟩) HV.out.lt).trans c0
    clear hcw hC1 hb1 hin hti c2
    obtain ⟨cb, hcb⟩ : ∃ cb, cb = w.heap.size := ⟨_, rfl⟩
    rw [← hcb] at HC1 ⊢
    have HCB := Kp.mk hcb
    clear hcb
    go_wp2_with fail
    refine (newBody_any w1 xz 0 e).mono ?_
    rintro en w2 ⟨q2, rfl, hB2, hq2, hb2⟩
    have hv2 := HV1.out.below hb2 HV1.out.lt
    have HC2 := Kp.mk (HC1.out.below hb2)
    have HB2 := Kp.mk (HB1.out.trans (hb2.mono HB1.out.size))
    have HI2 := Kp.mk hB2
    have HQ2 := Kp.mk (show (∀ k, q2.own k → w.heap.size ≤ k ∧ k ≠ l) from fun k e => ⟨Nat.le_trans HB1.out.size (hq2 k e), fun e2 => by have := hq2 k e; have := HV1.out.lt; omega⟩)
    clear c0 hb2 hB2 hq2 HB1 HC1 HV1
    go_upto_region 9 with (refine wpList_store_vb (vs := [.int .i64 xz, .int .i64 0, .int .i64 e, .pointer (some ⟨q2.s, 0, none⟩), .pointer (some ⟨q2.x, 0, none⟩), .pointer (some ⟨q2.z, 0, none⟩), .bool false, .pointer (some ⟨cb, 0, none⟩), .bool false, .bool false]) rfl (.tmp 48) (.tmp 47) rfl rfl rfl hv2 hcl agg_line rfl ?_; intro w3 hv3 hg3 hz3)
    have hc3 := Ch.of_grown hg3
    have hn3 := nob_vb hv2 (by decide) (by decide)
    have hcl3 : cb ≠ l := vb_ne HC2.out hv2 (by decide)
    have hL3 : LnB w3 l q2 cb ⟨bo0 xz 0 e, 0, 1, false, false⟩ :=
     ⟨⟨hv3, HI2.out.stay hc3 (fun k e e2 => (HQ2.out k e).2 e2) hn3, .inl rfl⟩, (hc3.block cb (Vb.lt HC2.out) hcl3).trans HC2.out, .inl rfl, rfl, HTZ.out, HEB.out⟩
    have HC3 := Kp.mk ((Ch.of_below (S := lown l c q) HB2.out).trans hc3 (fun k _ e => .inl e))
    have hst := hL3.bd.bi.start htk
    have c5 := hL3.bd.own.cell 5 rfl
    have HL3 := Kp.mk hL3
    clear hv2 hv3 hg3 hz3 hc3 hn3 hcl3 hL3 HC2 HB2 HI2
    go_wp2_with fail
    refine hst.mono ?_
    rintro en w4 ⟨rfl, hB4, hC4⟩
    have hown : ∀ k, k = q2.z → q2.own k := fun k e => .inr (.inr (.inr e))
    have HL4 := Kp.mk (HL3.out.body (HL3.out.bd.of hB4 hC4 hown ⟨rfl, rfl, rfl, rfl⟩) (hC4.mono (fun k _ e => .inr (hown k e))) ⟨rfl, rfl, rfl⟩)
    have HC4 := Kp.mk (HC3.out.trans hC4 (fun k hk e => absurd (HQ2.out k (hown k e)).1 (by omega)))
    clear hst c5 hB4 hC4 hown HL3 HC3
    go_wp2_with fail
    go_ret
    refine ⟨by rw [HE.out.1]; rfl, q2, cb, ?_, HC4.out, fun k e => e.elim (fun e => .inl (.inl e)) (fun e => .inr (e.elim (fun e => by rw [e, HCB.out]; exact Nat.le_refl _) (fun e => (HQ2.out k e).1)))⟩
    rw [HE.out.2]
    exact ⟨HTZ.out, fun e => by simp at e, fun z e => by obtain rfl := Option.some.inj e; exact ⟨HL4.out, rfl, fun _ => by show 0 < 8; omega, by show 0 ≤ 8; omega⟩⟩
end
theorem new_segv (w : World) (k t f hp p o s a : Int) (A : Option Addr) (n cc : Nat) : Vb 54 (w.alloc (.cells #[.int .i64 k, .int .i64 t, .int .i64 f, .int .i64 hp, .int .i64 p, .int .i64 o, .int .i64 s, .int .i64 a, .slice A n cc] 54)) w.heap.size [.int .i64 k, .int .i64 t, .int .i64 f, .int .i64 hp, .int .i64 p, .int .i64 o, .int .i64 s, .int .i64 a, .slice A n cc] ∧ Below w.heap.size w (w.alloc (.cells #[.int .i64 k, .int .i64 t, .int .i64 f, .int .i64 hp, .int .i64 p, .int .i64 o, .int .i64 s, .int .i64 a, .slice A n cc] 54)) := new_seg w ⟨k, t, f, hp, p, o, s, a, A, n, cc⟩
section
variable {w w' : World} {l c : Nat} {q : Bk} {x : Ls} {y : Lb} {S : Nat → Prop}
theorem LnB.called (h : LnB w l q c y) {bt' q' : Int} (hc : Cb w' c y.b.t y.b.e bt' q') (hg : w.grownBy w' (some c)) (hq : q' = 1 ∨ q' = 2 ∨ q' = 3) : LnB w' l q c { y with bt := bt', q := q' } :=
 ⟨h.bd.stay (Ch.of_grown hg) (fun e => h.ne.1 e.symm) (fun k e e2 => h.ne.2 (e2 ▸ e)) (nob_vb h.cb (by decide) (by decide)), hc, hq, h.f0, h.tb, h.eb⟩
theorem lcallTakes (h : LnB w l q c y) (m : Ms) {now : Int} (hn : tickB now = true) : Calls Tryz.prog 76 #[.pointer (some ⟨l, 0, none⟩), m.x.v, .int .i64 now] w fun en w' => en = .returned (.tuple #[]) ∧ LnB w' l q c (y.call m now) ∧ Ch (lown l c q) w w' := by
 have HCT := Kp.mk (show ∀ w1, LnB w1 l q c y → _ from fun w1 a1 => cTake_any a1.cb a1.hq m.x)
 have HCY := Kp.mk (show ∀ z, z = y.call m now → z = ⟨y.callB m now, bC m.x y.b.t y.b.e y.bt y.q, qC m.x y.b.t y.b.e y.q, if qC m.x y.b.t y.b.e y.q = 3 then y.soon else y.goes m || y.soon, y.fail⟩ from fun z e => e)
 have HQ3 := Kp.mk (qC_ok (x := m.x) (tz := y.b.t) (e := y.b.e) h.hq)
 have HCB := Kp.mk (show y.callB m now = (if qC m.x y.b.t y.b.e y.q = 3 then { y.b with a := 0, tr := 0 } else if goC m.x y.b.t y.b.e y.q then { y.b with a := now + 4, tr := 0 } else y.b) from rfl)
 have HGO := Kp.mk (show y.goes m = goC m.x y.b.t y.b.e y.q from rfl)
 obtain ⟨⟨k, t, f, hp, p, o, s, a, A, n, cc⟩, ml⟩ := m
 simp only [Sv.v] at HCT ⊢
 generalize hgo : goC ⟨k, t, f, hp, p, o, s, a, A, n, cc⟩ y.b.t y.b.e y.q = go at *
 generalize hq' : qC ⟨k, t, f, hp, p, o, s, a, A, n, cc⟩ y.b.t y.b.e y.q = q' at *
 generalize hb' : bC ⟨k, t, f, hp, p, o, s, a, A, n, cc⟩ y.b.t y.b.e y.bt y.q = b' at *
 have HEY := Kp.mk (show y.call ⟨⟨k, t, f, hp, p, o, s, a, A, n, cc⟩, ml⟩ now = ⟨(if q' = 3 then { y.b with a := 0, tr := 0 } else if go then { y.b with a := now + 4, tr := 0 } else y.b), b', q', if q' = 3 then y.soon else go || y.soon, y.fail⟩ by
  unfold Lb.call
  rw [HCB.out, hq', hb', HGO.out])
 clear HCY HCB HGO hgo hq' hb'
 have hN := new_segv w k t f hp p o s a A n cc
 have H1 := Kp.mk (h.below hN.2)
 have HC1 := Kp.mk (Ch.of_below (S := lown l c q) hN.2)
 have hs0 := hN.1
 clear h hN
 go_enter Tryz.func76, Tryz.ntmps76
 go_upto_region 1 with fail
 generalize w.alloc (.cells #[.int .i64 k, .int .i64 t, .int .i64 f, .int .i64 hp, .int .i64 p, .int .i64 o, .int .i64 s, .int .i64 a, .slice A n cc] 54) = w1 at *
 generalize w.heap.size = gs at hs0 ⊢
 refine wp_region_held_drew (S := fun X => X.cell? ⟨l, 7, none⟩ = some (.pointer (some ⟨c, 0, none⟩)) ∧ Vb 54 X gs [.int .i64 k, .int .i64 t, .int .i64 f, .int .i64 hp, .int .i64 p, .int .i64 o, .int .i64 s, .int .i64 a, .slice A n cc]) (by kernel_rfl) ⟨H1.out.bd.own.cell 7 rfl, hs0⟩ (fun hS0 => ?_)
 have hbd := (Below.refl w1.heap.size w1).drew
 have H2 := Kp.mk (show LnB w1.drew l q c y from H1.out.below hbd)
 have HC2 := Kp.mk (HC1.out.trans (Ch.of_below (S := lown l c q) hbd) (fun _ _ e => e))
 clear hbd H1 HC1 hs0
 generalize w1.drew = u at *
 refine tD 0 (.pointer (some ⟨l, 0, none⟩)) 7 rfl rfl hS0 ?_ ?_
 ·rintro w' hq
  go_simp
 try simp only [Act.put, zA, zB, zC]
 refine tD 1 (.pointer (some ⟨l, 0, none⟩)) 8 rfl rfl hS0 ?_ ?_
 ·rintro w' hq
  go_simp
 try simp only [Act.put, zA, zB, zC]
 refine tD 2 (.pointer (some ⟨l, 7, none⟩)) 9 rfl rfl hS0 ?_ ?_
 ·rintro w' hq
  go_simp
 try simp only [Act.put, zA, zB, zC]
 refine tD 3 (.pointer (some ⟨c, 0, none⟩)) 10 rfl rfl hS0 ?_ ?_
 ·rintro w' hq
  have c7 := hq.1
  go_simp
 try simp only [Act.put, zA, zB, zC]
 refine tD 4 (.agg #[.int .i64 k, .int .i64 t, .int .i64 f, .int .i64 hp, .int .i64 p, .int .i64 o, .int .i64 s, .int .i64 a, .slice A n cc]) 11 rfl rfl hS0 ?_ ?_
 ·rintro w' hq
  exact exec_load_vb (vs := [.int .i64 k, .int .i64 t, .int .i64 f, .int .i64 hp, .int .i64 p, .int .i64 o, .int .i64 s, .int .i64 a, .slice A n cc]) (.tmp 4) rfl rfl (hq.2) rfl agg_seg
 try simp only [Act.put, zA, zB, zC]
 refine rD 5 rfl fun K hK => ?_
 try rw [if_pos (by rfl)]
 go_simp
 go_at_call 121
 refine (HCT.out u H2.out).mono ?_
 rintro en u2 ⟨rfl, hc2, hg2⟩
 have h3 := H2.out.called hc2 hg2 HQ3.out
 have hne : gs ≠ c := vb_ne hS0.2 H2.out.cb (by decide)
 have hS2 : u2.cell? ⟨l, 7, none⟩ = some (.pointer (some ⟨c, 0, none⟩)) ∧ Vb 54 u2 gs [.int .i64 k, .int .i64 t, .int .i64 f, .int .i64 hp, .int .i64 p, .int .i64 o, .int .i64 s, .int .i64 a, .slice A n cc] := ⟨h3.bd.own.cell 7 rfl, hS0.2.grown hg2 hne⟩
 have H3 := Kp.mk h3
 have HC3 := Kp.mk (HC2.out.trans (Ch.of_grown hg2) (fun k _ e => .inr (.inl e)))
 clear h3 hne hc2 hg2 H2 HC2 HCT
 refine hK.out _ _ hS2 (fun _ => ?_)
 clear hK K
 try simp only [Act.put, zA, zB, zC]
 refine tD 6 (.bool go) 6 rfl rfl hS2 (fun _ _ => by go_simp) ?_
 try simp only [Act.put, zA, zB, zC]
 have c7 := hS2.1
 clear hS0 hS2
 refine wpAnyH_done (by kernel_rfl) ?_ _
 have hop := cOpen H3.out.cb
 by_cases h3q : q' = 3
 ·have e3 : (q' == 3) = true := by simpa using h3q
  have HEZ := Kp.mk (show y.call ⟨⟨k, t, f, hp, p, o, s, a, A, n, cc⟩, ml⟩ now = ⟨{ y.b with a := 0, tr := 0 }, b', q', y.soon, y.fail⟩ by rw [HEY.out, if_pos h3q, if_pos h3q])
  have hst := H3.out.bd.bi.stop
  have c5 := H3.out.bd.own.cell 5 rfl
  clear h3q HEY
  simp only [e3] at hop
  go_wp2_with (refine hop.mono ?_; rintro en w2 ⟨rfl, hw2⟩; replace hw2 := hw2.symm; subst hw2)
  refine hst.mono ?_
  rintro en w4 ⟨rfl, hB4, hC4⟩
  have hown : ∀ k, k = q.z → q.own k := fun k e => .inr (.inr (.inr e))
  have H4 := Kp.mk (H3.out.body (H3.out.bd.of hB4 hC4 hown ⟨rfl, rfl, rfl, rfl⟩) (hC4.mono (fun k _ e => .inr (hown k e))) ⟨rfl, rfl, rfl⟩)
  have HC4 := Kp.mk (HC3.out.trans hC4 (fun k _ e => .inr (.inr (hown k e))))
  clear hst c5 c7 hop hB4 hC4 hown H3 HC3
  go_wp2_with fail
  go_end0
  exact ⟨rfl, by rw [HEZ.out]; exact H4.out, HC4.out⟩
 ·have e3 : (q' == 3) = false := by simpa using h3q
  simp only [e3] at hop
  cases hgo : go with
  | false =>
   have HEZ := Kp.mk (show y.call ⟨⟨k, t, f, hp, p, o, s, a, A, n, cc⟩, ml⟩ now = ⟨y.b, b', q', y.soon, y.fail⟩ by rw [HEY.out, if_neg h3q, if_neg h3q, hgo]; rfl)
   clear h3q HEY
   go_wp2_with (refine hop.mono ?_; rintro en w2 ⟨rfl, hw2⟩; replace hw2 := hw2.symm; subst hw2)
   go_end0
   exact ⟨rfl, by rw [HEZ.out]; exact H3.out, HC3.out⟩
  | true =>
   have HEZ := Kp.mk (show y.call ⟨⟨k, t, f, hp, p, o, s, a, A, n, cc⟩, ml⟩ now = ⟨{ y.b with a := now + 4, tr := 0 }, b', q', true, y.fail⟩ by rw [HEY.out, if_neg h3q, if_neg h3q, hgo]; rfl)
   have hst := H3.out.bd.bi.start hn
   have c5 := H3.out.bd.own.cell 5 rfl
   clear h3q HEY
   go_wp2_with (go_at_call 51; refine hop.mono ?_; rintro en w2 ⟨rfl, hw2⟩; replace hw2 := hw2.symm; subst hw2)
   refine hst.mono ?_
   rintro en w4 ⟨rfl, hB4, hC4⟩
   have hown : ∀ k, k = q.z → q.own k := fun k e => .inr (.inr (.inr e))
   have h4 := H3.out.body (H3.out.bd.of hB4 hC4 hown ⟨rfl, rfl, rfl, rfl⟩) (hC4.mono (fun k _ e => .inr (hown k e))) ⟨rfl, rfl, rfl⟩
   have c8 := h4.bd.own.cell 8 rfl
   have f8 := h4.bd.own.free 8
   have H5 := Kp.mk (h4.soon true)
   have HC5 := Kp.mk ((HC3.out.trans hC4 (fun k _ e => .inr (.inr (hown k e)))).trans ((Ch.of_grown (grownBy_set w4 l 8 (.bool true))).mono (S' := lown l c q) (fun k _ e => .inl e)) (fun _ _ e => e))
   clear hst c5 c7 hop hB4 hC4 hown H3 HC3 h4
   go_wp2_with fail
   go_end0
   exact ⟨rfl, by rw [HEZ.out]; exact H5.out, HC5.out⟩
end
end Go.Proofs.YtnoflfbcgbhipaaGreat.Oct
