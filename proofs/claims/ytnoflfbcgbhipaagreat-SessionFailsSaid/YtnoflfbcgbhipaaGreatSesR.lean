import Derived.Test.YtnoflfbcgbhipaaGreatSesK
set_option linter.unusedSimpArgs false
set_option linter.unusedVariables false
set_option maxRecDepth 100000
set_option maxHeartbeats 8000000
namespace Go.Proofs.YtnoflfbcgbhipaaGreat.Oct
open Go.RowKit
structure PnS (w : World) (pb : Nat) (q : Bk) (gq : Nat) (x : Ps) : Prop where
 sf : 1 ≤ x.sf ∧ x.sf ≤ 6
 bo : 0 ≤ x.bo ∧ x.bo ≤ 4294967295
 gb : Gb w gq x.sf x.bo x.e
 no : x.s = none → Vb 91 w pb [.int .i64 0, .int .i64 x.sf, .int .i64 0, .pointer none, .pointer none, .pointer none, .bool false, .pointer (some ⟨gq, 0, none⟩)] ∧ q = bk0 pb
 yes : ∀ y, x.s = some y → Bd 91 [.pointer (some ⟨gq, 0, none⟩)] w pb q y ∧ y.t = 0 ∧ y.f = x.sf ∧ 1 ≤ y.e ∧ y.e ≤ 4294967295
section
variable {w w' : World} {pb gq : Nat} {q : Bk} {x : Ps} {S : Nat → Prop}
theorem PnS.full (h : PnS w pb q gq x) : ∃ cs, Vb 91 w pb cs ∧ cs.length = 8 ∧ cs[1]? = some (.int .i64 x.sf) ∧ cs[2]? = some (.int .i64 x.e) ∧ cs[7]? = some (.pointer (some ⟨gq, 0, none⟩)) := by
 obtain ⟨sf, bo, s⟩ := x
 cases s with
 | none => exact ⟨_, (h.no rfl).1, rfl, rfl, rfl, rfl⟩
 | some y =>
  obtain ⟨hb, e1, e2, e3⟩ := h.yes y rfl
  exact ⟨_, hb.own, rfl, by show some (Value.int .i64 y.f) = _; rw [e2], rfl, rfl⟩
theorem PnS.ne (h : PnS w pb q gq x) : gq ≠ pb ∧ ¬ q.own gq := by
 obtain ⟨cs, hv, _⟩ := h.full
 refine ⟨vb_ne h.gb hv (by decide), ?_⟩
 cases hs : x.s with
 | none =>
  rw [(h.no hs).2]
  intro e
  exact vb_ne h.gb hv (by decide) (bk0_own.1 e)
 | some y => exact (h.yes y hs).1.bi.not (by decide) h.gb
theorem PnS.nob (h : PnS w pb q gq x) : Nob w (lown pb gq q) := by
 obtain ⟨cs, hv, _⟩ := h.full
 have h1 := (nob_vb hv (by decide) (by decide)).or (nob_vb h.gb (by decide) (by decide))
 cases hs : x.s with
 | none =>
  rw [(h.no hs).2]
  exact h1.mono (fun k e => e.elim .inl (fun e => e.elim .inr (fun e => .inl (bk0_own.1 e))))
 | some y => exact (h1.or (h.yes y hs).1.bi.nob).mono (fun k e => e.elim (fun e => .inl (.inl e)) (fun e => e.elim (fun e => .inl (.inr e)) .inr))
theorem PnS.lt (h : PnS w pb q gq x) : ∀ k, lown pb gq q k → k < w.heap.size := by
 obtain ⟨cs, hv, _⟩ := h.full
 intro k e
 rcases e with e | e | e
 ·rw [e]; exact hv.lt
 ·rw [e]; exact Vb.lt h.gb
 ·cases hs : x.s with
  | none => rw [(h.no hs).2] at e; rw [bk0_own.1 e]; exact hv.lt
  | some y => exact (h.yes y hs).1.bi.lt k e
theorem PnS.stay (h : PnS w pb q gq x) (hc : Ch S w w') (hk : ∀ k, lown pb gq q k → ¬ S k) (hn : Nob w S) : PnS w' pb q gq x :=
 ⟨h.sf, h.bo, (hc.block gq (Vb.lt h.gb) (hk gq (.inr (.inl rfl)))).trans h.gb, fun hs => ⟨(hc.block pb (h.no hs).1.lt (hk pb (.inl rfl))).trans (h.no hs).1, (h.no hs).2⟩, fun y hs => ⟨(h.yes y hs).1.stay hc (hk pb (.inl rfl)) (fun k e => hk k (.inr (.inr e))) hn, (h.yes y hs).2⟩⟩
theorem PnS.below (h : PnS w pb q gq x) (hb : Below w.heap.size w w') : PnS w' pb q gq x := h.stay (S := fun _ => False) (.of_below hb) (fun _ _ e => e) (Nob.none w)
theorem PnS.e0 (h : PnS w pb q gq x) : 0 ≤ x.e ∧ (x.s = none ↔ x.e = 0) := by
 obtain ⟨sf, bo, s⟩ := x
 cases s with
 | none => exact ⟨Int.le_refl 0, by simp [Ps.e]⟩
 | some y =>
  have := (h.yes y rfl).2.2.2
  show 0 ≤ y.e ∧ (_ ↔ y.e = 0)
  refine ⟨by omega, ?_⟩
  simp
  omega
theorem PnS.body (h : PnS w pb q gq x) {y b' : Bo} {q' : Bk} (hs : x.s = some y) (hb : Bd 91 [.pointer (some ⟨gq, 0, none⟩)] w' pb q' b') (hc : Ch S w w') (hg : ¬ S gq) (e : b'.t = y.t ∧ b'.f = y.f ∧ b'.e = y.e) : PnS w' pb q' gq ⟨x.sf, x.bo, some b'⟩ := by
 obtain ⟨hy, e1, e2, e3⟩ := h.yes y hs
 have hg := (hc.block gq (Vb.lt h.gb) hg).trans h.gb
 refine ⟨h.sf, h.bo, ?_, fun e => by simp at e, fun z ez => ?_⟩
 ·have : (⟨x.sf, x.bo, some b'⟩ : Ps).e = x.e := by
   show b'.e = x.e
   rw [e.2.2]
   unfold Ps.e
   rw [hs]
  rw [this]
  exact hg
 ·obtain rfl := Option.some.inj ez
  exact ⟨hb, e.1.trans e1, e.2.1.trans e2, by rw [e.2.2]; exact e3⟩
theorem PnS.isNone (h : PnS w pb q gq x) : Calls Tryz.prog 58 #[.pointer (some ⟨pb, 0, none⟩)] w fun en w' => en = .returned (.bool false) ∧ w' = w := by
 obtain ⟨cs, hv, _, h1, h2, h7⟩ := h.full
 have c7 := hv.cell 7 h7
 clear hv h
 go_enter Tryz.func58, Tryz.ntmps58
 go_wp2_with fail
 go_ret
 exact ⟨rfl, rfl⟩
theorem PnS.epochC (h : PnS w pb q gq x) : Calls Tryz.prog 25 #[.pointer (some ⟨pb, 0, none⟩)] w fun en w' => en = .returned (.int .i64 x.e) ∧ w' = w := by
 have hn := h.isNone
 obtain ⟨cs, hv, _, h1, h2, h7⟩ := h.full
 have c2 := hv.cell 2 h2
 clear hv h
 go_enter Tryz.func25, Tryz.ntmps25
 go_wp2_with (refine hn.mono ?_; rintro en w1 ⟨rfl, hw1⟩; replace hw1 := hw1.symm; subst hw1)
 go_ret
 exact ⟨rfl, rfl⟩
theorem PnS.hasS (h : PnS w pb q gq x) : Calls Tryz.prog 67 #[.pointer (some ⟨pb, 0, none⟩)] w fun en w' => en = .returned (.bool x.s.isSome) ∧ w' = w := by
 have he := h.epochC
 have hq : (x.e != 0) = x.s.isSome := by
  have := h.e0.2
  cases hs : x.s with
  | none => have e := this.1 hs; rw [e]; rfl
  | some y =>
   have : x.e ≠ 0 := fun e => by have := this.2 e; rw [hs] at this; simp at this
   simpa using this
 rw [← hq]
 clear h hq
 go_enter Tryz.func67, Tryz.ntmps67
 go_wp2_with (refine he.mono ?_; rintro en w1 ⟨rfl, hw1⟩; replace hw1 := hw1.symm; subst hw1)
 go_ret
 exact ⟨rfl, rfl⟩
end
theorem newPort_yes (w : World) (sf bo : Int) (h1 : 1 ≤ sf ∧ sf ≤ 6) (h2 : 0 ≤ bo ∧ bo ≤ 4294967295) : Calls Tryz.prog 10 #[.int .i64 sf, .int .i64 bo] w fun en w' => ∃ pb gq, en = .returned (.tuple #[.pointer (some ⟨pb, 0, none⟩), .int .i64 0]) ∧ PnS w' pb (bk0 pb) gq ⟨sf, bo, none⟩ ∧ w.heap.size ≤ pb ∧ w.heap.size ≤ gq ∧ Below w.heap.size w w' := by
 have hg := gnew_yes w sf bo (decide_eq_true h1) (decide_eq_true h2)
 have H1 := Kp.mk h1
 have H2 := Kp.mk h2
 clear h1 h2
 go_enter Tryz.func10, Tryz.ntmps10
 go_wp2_with fail
 refine hg.mono ?_
 rintro en w1 ⟨rfl, hG1, hb1⟩
 have HB := Kp.mk (hb1.trans ((below_alloc w1 (.cells #[.int .i64 0, .int .i64 sf, .int .i64 0, .pointer none, .pointer none, .pointer none, .bool false, .pointer (some ⟨w.heap.size, 0, none⟩)] 91)).mono hb1.size))
 have HG := Kp.mk (hG1.below (below_alloc w1 (.cells #[.int .i64 0, .int .i64 sf, .int .i64 0, .pointer none, .pointer none, .pointer none, .bool false, .pointer (some ⟨w.heap.size, 0, none⟩)] 91)))
 have HV := Kp.mk (Vb.new 91 w1 [.int .i64 0, .int .i64 sf, .int .i64 0, .pointer none, .pointer none, .pointer none, .bool false, .pointer (some ⟨w.heap.size, 0, none⟩)])
 have HZ := Kp.mk hb1.size
 clear hg hG1 hb1
 go_wp2_with fail
 go_ret2
 exact ⟨_, _, rfl, ⟨H1.out, H2.out, HG.out, fun _ => ⟨HV.out, rfl⟩, fun y e => by simp at e⟩, HZ.out, Nat.le_refl _, HB.out⟩
section
variable {w w' : World} {pb gq : Nat} {q : Bk} {x : Ps} {S : Nat → Prop}
def PsSays (w : World) (pb : Nat) (q : Bk) (gq : Nat) (x' : Ps) (A : List Sa) (en : Ending) (w' : World) : Prop :=
 ∃ A' n' c' L, en = .returned (.slice A' n' c') ∧ Kp (Said w' w.heap.size (.slice A' n' c') n' L) ∧ L.map Ms.abs = A ∧ n' ≤ 9 ∧ PnS w' pb q gq x' ∧ Ch (lown pb gq q) w w'
theorem PnS.tickC (h : PnS w pb q gq x) (now : Int) (ht : ∀ y, x.s = some y → y.tr < 10000000) : Calls Tryz.prog 35 #[.pointer (some ⟨pb, 0, none⟩), .int .i64 now] w (PsSays w pb q gq (x.tick now) (x.says now)) := by
 unfold PsSays
 have hg := h.hasS
 have hti := sTick_any now w
 cases hon : x.s with
 | none =>
  rw [hon, show (none : Option Bo).isSome = false from rfl] at hg
  have HE := Kp.mk (show x.says now = [] ∧ x.tick now = x by unfold Ps.says Ps.tick; rw [hon]; exact ⟨by simp, by simp⟩)
  have H := Kp.mk h
  clear h hon ht
  go_enter Tryz.func35, Tryz.ntmps35
  go_wp2_with (go_at_call 67; refine hg.mono ?_; rintro en w1 ⟨rfl, hw1⟩; replace hw1 := hw1.symm; subst hw1)
  go_ret
  first
  | exact ⟨none, 0, 0, rfl, [], Kp.mk (Said.nil0 _ _), by rw [HE.out.1]; rfl, by omega, by rw [HE.out.2]; exact H.out, Ch.refl _ _⟩
  | exact ⟨none, 0, 0, [], rfl, Kp.mk (Said.nil0 _ _), by rw [HE.out.1]; rfl, by omega, by rw [HE.out.2]; exact H.out, Ch.refl _ _⟩
 | some y =>
  rw [hon, show (some y).isSome = true from rfl] at hg
  cases htk : tickB now with
  | false =>
   rw [htk] at hti
   have HE := Kp.mk (show x.says now = [] ∧ x.tick now = x by unfold Ps.says Ps.tick; rw [htk]; exact ⟨by simp, by simp⟩)
   have H := Kp.mk h
   clear h hon ht
   go_enter Tryz.func35, Tryz.ntmps35
   go_wp2_with (first | (go_at_call 67; refine hg.mono ?_; rintro en w1 ⟨rfl, hw1⟩; replace hw1 := hw1.symm; subst hw1) | (go_at_call 60; refine hti.mono ?_; rintro en w1 ⟨rfl, hw1⟩; replace hw1 := hw1.symm; subst hw1))
   go_ret
   first
   | exact ⟨none, 0, 0, rfl, [], Kp.mk (Said.nil0 _ _), by rw [HE.out.1]; rfl, by omega, by rw [HE.out.2]; exact H.out, Ch.refl _ _⟩
   | exact ⟨none, 0, 0, [], rfl, Kp.mk (Said.nil0 _ _), by rw [HE.out.1]; rfl, by omega, by rw [HE.out.2]; exact H.out, Ch.refl _ _⟩
  | true =>
   rw [htk] at hti
   have HE := Kp.mk (show x.says now = y.says now ∧ x.tick now = ⟨x.sf, x.bo, some (y.saysB now)⟩ by unfold Ps.says Ps.tick; rw [htk, hon]; exact ⟨by simp, by simp⟩)
   have hsp := bsays_any (h.yes y hon).1 htk (ht y hon)
   have H := Kp.mk h
   have HON := Kp.mk hon
   clear h hon ht
   go_enter Tryz.func35, Tryz.ntmps35
   go_wp2_with (first | (go_at_call 67; refine hg.mono ?_; rintro en w1 ⟨rfl, hw1⟩; replace hw1 := hw1.symm; subst hw1) | (go_at_call 60; refine hti.mono ?_; rintro en w1 ⟨rfl, hw1⟩; replace hw1 := hw1.symm; subst hw1))
   refine hsp.mono ?_
   rintro en w1 ⟨A', n', c', L, rfl, hS, hA, hn9, hB, hC⟩
   have HF := Kp.mk (H.out.body HON.out hB hC (fun e => e.elim H.out.ne.1 H.out.ne.2) ⟨(says_keeps y now).1, (says_keeps y now).2.1, (says_keeps y now).2.2.1⟩)
   have HP := Kp.mk (And.intro hA (And.intro hn9 (hC.mono (S' := lown pb gq q) (fun k _ e => e.elim .inl (fun e => .inr (.inr e))))))
   clear hsp hA hn9 hB hC
   go_wp2_with fail
   go_ret
   first
   | exact ⟨A', n', c', L, rfl, hS, by rw [HE.out.1]; exact HP.out.1, HP.out.2.1, by rw [HE.out.2]; exact HF.out, HP.out.2.2⟩
   | exact ⟨A', n', c', rfl, L, hS, by rw [HE.out.1]; exact HP.out.1, HP.out.2.1, by rw [HE.out.2]; exact HF.out, HP.out.2.2⟩
theorem PnS.sendC (h : PnS w pb q gq x) {o : OrdV} {A : Option Addr} {n c0 : Nat} (ho : OrdIn w o A n c0) : Calls Tryz.prog 39 #[.pointer (some ⟨pb, 0, none⟩), (.agg #[.int .i64 o.k, .int .i64 o.n, .int .i64 o.m, .int .i64 o.r.k, .int .i64 o.r.pr, .int .i64 o.r.to, .int .i64 o.r.po, .int .i64 o.r.x.v, .int .i64 o.r.x.m, .int .u8 o.r.x.b0, .int .u8 o.r.x.b1, .int .u8 o.r.x.b2, .int .u8 o.r.x.i0, .int .u8 o.r.x.i1, .int .u8 o.r.x.i2, .slice A n c0, .int .i64 o.f, .int .i64 o.p, .int .i64 o.t, .int .i64 o.q, .int .i64 o.z])] w fun en w' => en = .returned (.int .i64 (x.sendE o)) ∧ ∃ q', PnS w' pb q' gq (x.send o) ∧ LnTurn w w' pb gq q gq q' := by
 have hb0 := below_alloc w (.cells #[.int .i64 o.k, .int .i64 o.n, .int .i64 o.m, .int .i64 o.r.k, .int .i64 o.r.pr, .int .i64 o.r.to, .int .i64 o.r.po, .int .i64 o.r.x.v, .int .i64 o.r.x.m, .int .u8 o.r.x.b0, .int .u8 o.r.x.b1, .int .u8 o.r.x.b2, .int .u8 o.r.x.i0, .int .u8 o.r.x.i1, .int .u8 o.r.x.i2, .slice A n c0, .int .i64 o.f, .int .i64 o.p, .int .i64 o.t, .int .i64 o.q, .int .i64 o.z] 51)
 have hv0 : Vb 51 (w.alloc (.cells #[.int .i64 o.k, .int .i64 o.n, .int .i64 o.m, .int .i64 o.r.k, .int .i64 o.r.pr, .int .i64 o.r.to, .int .i64 o.r.po, .int .i64 o.r.x.v, .int .i64 o.r.x.m, .int .u8 o.r.x.b0, .int .u8 o.r.x.b1, .int .u8 o.r.x.b2, .int .u8 o.r.x.i0, .int .u8 o.r.x.i1, .int .u8 o.r.x.i2, .slice A n c0, .int .i64 o.f, .int .i64 o.p, .int .i64 o.t, .int .i64 o.q, .int .i64 o.z] 51)) w.heap.size (ocl o (.slice A n c0)) := Vb.new _ w (ocl o (.slice A n c0))
 have h1 := h.below hb0
 have hn := h1.isNone
 have hg := h1.hasS
 have H1 := Kp.mk h1
 have HO := Kp.mk (show OrdIn (w.alloc (.cells #[.int .i64 o.k, .int .i64 o.n, .int .i64 o.m, .int .i64 o.r.k, .int .i64 o.r.pr, .int .i64 o.r.to, .int .i64 o.r.po, .int .i64 o.r.x.v, .int .i64 o.r.x.m, .int .u8 o.r.x.b0, .int .u8 o.r.x.b1, .int .u8 o.r.x.b2, .int .u8 o.r.x.i0, .int .u8 o.r.x.i1, .int .u8 o.r.x.i2, .slice A n c0, .int .i64 o.f, .int .i64 o.p, .int .i64 o.t, .int .i64 o.q, .int .i64 o.z] 51)) o A n c0 from ⟨(ho.ro.below' hb0 (Nat.le_refl _)).more hb0.size, ho.u8⟩)
 have HB0 := Kp.mk hb0
 have HV0 := Kp.mk hv0
 clear h ho hb0 hv0 h1
 go_enter Tryz.func39, Tryz.ntmps39
 go_upto_region 1 with fail
 generalize w.alloc (.cells #[.int .i64 o.k, .int .i64 o.n, .int .i64 o.m, .int .i64 o.r.k, .int .i64 o.r.pr, .int .i64 o.r.to, .int .i64 o.r.po, .int .i64 o.r.x.v, .int .i64 o.r.x.m, .int .u8 o.r.x.b0, .int .u8 o.r.x.b1, .int .u8 o.r.x.b2, .int .u8 o.r.x.i0, .int .u8 o.r.x.i1, .int .u8 o.r.x.i2, .slice A n c0, .int .i64 o.f, .int .i64 o.p, .int .i64 o.t, .int .i64 o.q, .int .i64 o.z] 51) = w0 at *
 obtain ⟨g0, hg0⟩ : ∃ g0, g0 = w.heap.size := ⟨_, rfl⟩
 rw [← hg0] at HV0 ⊢
 clear hg0
 cases hon : x.s with
 | none =>
  rw [hon, show (none : Option Bo).isSome = false from rfl] at hg
  have HE := Kp.mk (show x.sendE o = 180 ∧ x.send o = x by unfold Ps.sendE Ps.send; rw [hon]; exact ⟨rfl, rfl⟩)
  clear hon
  go_wp2_with (first | (go_at_call 58; refine hn.mono ?_; rintro en w1 ⟨rfl, hw1⟩; replace hw1 := hw1.symm; subst hw1) | (go_at_call 67; refine hg.mono ?_; rintro en w1 ⟨rfl, hw1⟩; replace hw1 := hw1.symm; subst hw1))
  go_ret
  exact ⟨by rw [HE.out.1]; rfl, q, by rw [HE.out.2]; exact H1.out, .of_below HB0.out, fun k e => .inl e⟩
 | some y =>
  rw [hon, show (some y).isSome = true from rfl] at hg
  have HE := Kp.mk (show x.sendE o = y.putE o ∧ x.send o = ⟨x.sf, x.bo, some (y.put o)⟩ by unfold Ps.sendE Ps.send; rw [hon]; exact ⟨rfl, rfl⟩)
  have hv0 := HV0.out
  have HON := Kp.mk hon
  clear hon
  go_wp2_with (first | (go_at_call 58; refine hn.mono ?_; rintro en w1 ⟨rfl, hw1⟩; replace hw1 := hw1.symm; subst hw1) | (go_at_call 67; refine hg.mono ?_; rintro en w1 ⟨rfl, hw1⟩; replace hw1 := hw1.symm; subst hw1))
  refine wp_region_held_drew (S := fun X => Vb 51 X g0 (ocl o (.slice A n c0))) (by kernel_rfl) hv0 (fun hS0 => ?_)
  have hbd := (Below.refl w0.heap.size w0).drew
  have H2 := Kp.mk (H1.out.below hbd)
  have HO2 := Kp.mk (show OrdIn w0.drew o A n c0 from ⟨HO.out.ro.drew, HO.out.u8⟩)
  have HBD := Kp.mk (HB0.out.trans (hbd.mono HB0.out.size))
  clear hbd hv0 HB0 HV0 H1 HO hn hg
  generalize w0.drew = u at *
  refine tD 0 (.pointer (some ⟨pb, 0, none⟩)) 12 rfl rfl hS0 (fun _ _ => by go_simp) ?_
  try simp only [Act.put, zA, zB, zC]
  refine tD 1 (.pointer (some ⟨pb, 0, none⟩)) 13 rfl rfl hS0 (fun _ _ => by go_simp) ?_
  try simp only [Act.put, zA, zB, zC]
  refine tD 2 (.pointer (some ⟨pb, 0, none⟩)) 14 rfl rfl hS0 (fun _ _ => by go_simp) ?_
  try simp only [Act.put, zA, zB, zC]
  refine tD 3 (.agg #[.int .i64 o.k, .int .i64 o.n, .int .i64 o.m, .int .i64 o.r.k, .int .i64 o.r.pr, .int .i64 o.r.to, .int .i64 o.r.po, .int .i64 o.r.x.v, .int .i64 o.r.x.m, .int .u8 o.r.x.b0, .int .u8 o.r.x.b1, .int .u8 o.r.x.b2, .int .u8 o.r.x.i0, .int .u8 o.r.x.i1, .int .u8 o.r.x.i2, .slice A n c0, .int .i64 o.f, .int .i64 o.p, .int .i64 o.t, .int .i64 o.q, .int .i64 o.z]) 15 rfl rfl hS0 ?_ ?_
  ·rintro w' hq
   exact exec_load_vb (vs := ocl o (.slice A n c0)) (.tmp 3) rfl rfl (hq) rfl agg_order
  try simp only [Act.put, zA, zB, zC]
  refine rD 4 rfl fun K hK => ?_
  try rw [if_pos (by rfl)]
  go_simp
  go_at_call 69
  refine (bput_any (H2.out.yes y HON.out).1 HO2.out).mono ?_
  rintro en u2 ⟨rfl, q2, hB2, hq2, hC2⟩
  have hS2 : Vb 51 u2 g0 (ocl o (.slice A n c0)) := (hC2.block g0 hS0.lt ((H2.out.yes y HON.out).1.bi.not (by decide) hS0)).trans hS0
  have HF2 := Kp.mk (H2.out.body HON.out hB2 hC2 H2.out.ne.2 ⟨(put_keeps o).1, (put_keeps o).2.1, (put_keeps o).2.2.1⟩)
  have HQ2 := Kp.mk (show ∀ k, lown pb gq q2 k → lown pb gq q k ∨ w.heap.size ≤ k from fun k e => e.elim (fun e => .inl (.inl e)) (fun e => e.elim (fun e => .inl (.inr (.inl e))) (fun e => (hq2 k e).elim (fun e => .inl (.inr (.inr e))) (fun e => .inr (by have := HBD.out.size; omega)))))
  have HC2 := Kp.mk ((Ch.of_below (S := lown pb gq q) HBD.out).trans hC2 (fun k _ e => .inr (.inr e)))
  clear hB2 hq2 hC2
  refine hK.out _ _ hS2 (fun _ => ?_)
  clear hK K
  try simp only [Act.put, zA, zB, zC]
  refine tD 5 (.int .i64 (y.putE o)) 4 rfl rfl hS2 (fun _ _ => by go_simp) ?_
  try simp only [Act.put, zA, zB, zC]
  refine wpAnyH_done (by kernel_rfl) ?_ _
  clear hS0 hS2
  go_wp2_with fail
  go_ret
  exact ⟨by rw [HE.out.1]; rfl, q2, by rw [HE.out.2]; exact HF2.out, HC2.out, HQ2.out⟩
def Ps.hasM (x : Ps) (m : Ms) : Bool := match x.s with | some y => x.mine m y | none => false
theorem PnS.ofSession (h : PnS w pb q gq x) (m : Ms) : Calls Tryz.prog 72 #[.pointer (some ⟨pb, 0, none⟩), m.x.v] w fun en w' => en = .returned (.bool (x.hasM m)) ∧ Below w.heap.size w w' := by
 have HXE := Kp.mk (show ∀ y, x.s = some y → y.e = x.e from fun y e => by unfold Ps.e; rw [e])
 obtain ⟨⟨k, t, f, hp, p, o, s, a, A, n, cc⟩, ml⟩ := m
 simp only [Sv.v] at *
 have hN := new_segv w k t f hp p o s a A n cc
 have H1 := Kp.mk (h.below hN.2)
 have HC1 := Kp.mk hN.2
 have hs0 := hN.1
 clear hN h
 go_enter Tryz.func72, Tryz.ntmps72
 go_upto_region 1 with fail
 obtain ⟨gs, hgs⟩ : ∃ gs, gs = w.heap.size := ⟨_, rfl⟩
 rw [← hgs] at hs0 ⊢
 have HGS := Kp.mk hgs
 clear hgs
 generalize w.alloc (.cells #[.int .i64 k, .int .i64 t, .int .i64 f, .int .i64 hp, .int .i64 p, .int .i64 o, .int .i64 s, .int .i64 a, .slice A n cc] 54) = w1 at *
 cases hon : x.s with
 | none =>
  have HE := Kp.mk (show false = x.hasM ⟨⟨k, t, f, hp, p, o, s, a, A, n, cc⟩, ml⟩ by unfold Ps.hasM; rw [hon])
  refine wp_region_held_drew (S := fun X => PnS X pb q gq x ∧ Vb 54 X gs [.int .i64 k, .int .i64 t, .int .i64 f, .int .i64 hp, .int .i64 p, .int .i64 o, .int .i64 s, .int .i64 a, .slice A n cc]) (by kernel_rfl) ⟨H1.out.below (Below.refl _ _).drew, hs0⟩ (fun hS0 => ?_)
  have HC2 := Kp.mk ((show Below w.heap.size w w1.drew from HC1.out.trans ((Below.refl w1.heap.size w1).drew.mono HC1.out.size)))
  clear H1 HC1 hs0
  generalize w1.drew = u at *
  refine tD 0 (.pointer (some ⟨pb, 0, none⟩)) 5 rfl rfl hS0 (fun _ _ => by go_simp) ?_
  try simp only [Act.put, zA, zB, zC]
  have hgo := hS0.1.hasS
  rw [hon] at hgo
  refine rD 1 rfl fun K hK => ?_
  try rw [if_pos (by rfl)]
  go_simp
  go_at_call 67
  refine hgo.mono ?_
  rintro en u2 ⟨rfl, hw2⟩
  replace hw2 := hw2.symm
  subst hw2
  clear hgo
  refine hK.out _ _ hS0 (fun _ => ?_)
  clear hK K
  try simp only [Act.put, zA, zB, zC]
  refine tD 2 (.bool false) 7 rfl rfl hS0 (fun _ _ => by go_simp) ?_
  try simp only [Act.put, zA, zB, zC]
  refine tU 3 8 rfl rfl hS0 ?_
  try simp only [Act.put, zA, zB, zC]
  refine tU 4 9 rfl rfl hS0 ?_
  try simp only [Act.put, zA, zB, zC]
  refine tU 5 10 rfl rfl hS0 ?_
  try simp only [Act.put, zA, zB, zC]
  refine tD 6 (.bool false) 11 rfl rfl hS0 (fun _ _ => by go_simp) ?_
  try simp only [Act.put, zA, zB, zC]
  refine tD 7 (.bool false) 12 rfl rfl hS0 (fun _ _ => by go_simp) ?_
  try simp only [Act.put, zA, zB, zC]
  refine tU 8 13 rfl rfl hS0 ?_
  try simp only [Act.put, zA, zB, zC]
  refine tU 9 14 rfl rfl hS0 ?_
  try simp only [Act.put, zA, zB, zC]
  refine tU 10 15 rfl rfl hS0 ?_
  try simp only [Act.put, zA, zB, zC]
  refine tU 11 16 rfl rfl hS0 ?_
  try simp only [Act.put, zA, zB, zC]
  refine tU 12 17 rfl rfl hS0 ?_
  try simp only [Act.put, zA, zB, zC]
  refine tU 13 18 rfl rfl hS0 ?_
  try simp only [Act.put, zA, zB, zC]
  refine tU 14 19 rfl rfl hS0 ?_
  try simp only [Act.put, zA, zB, zC]
  refine tU 15 20 rfl rfl hS0 ?_
  try simp only [Act.put, zA, zB, zC]
  refine tD 16 (.bool false) 21 rfl rfl hS0 (fun _ _ => by go_simp) ?_
  try simp only [Act.put, zA, zB, zC]
  refine tD 17 (.bool false) 22 rfl rfl hS0 (fun _ _ => by go_simp) ?_
  try simp only [Act.put, zA, zB, zC]
  refine tU 18 23 rfl rfl hS0 ?_
  try simp only [Act.put, zA, zB, zC]
  refine tU 19 24 rfl rfl hS0 ?_
  try simp only [Act.put, zA, zB, zC]
  refine tU 20 25 rfl rfl hS0 ?_
  try simp only [Act.put, zA, zB, zC]
  refine tU 21 26 rfl rfl hS0 ?_
  try simp only [Act.put, zA, zB, zC]
  refine tU 22 27 rfl rfl hS0 ?_
  try simp only [Act.put, zA, zB, zC]
  refine tU 23 28 rfl rfl hS0 ?_
  try simp only [Act.put, zA, zB, zC]
  refine tU 24 29 rfl rfl hS0 ?_
  try simp only [Act.put, zA, zB, zC]
  refine tU 25 30 rfl rfl hS0 ?_
  try simp only [Act.put, zA, zB, zC]
  refine tD 26 (.bool false) 31 rfl rfl hS0 (fun _ _ => by go_simp) ?_
  try simp only [Act.put, zA, zB, zC]
  refine tD 27 (.bool false) 4 rfl rfl hS0 (fun _ _ => by go_simp) ?_
  try simp only [Act.put, zA, zB, zC]
  refine wpAnyH_done (by kernel_rfl) ?_ _
  have HF := Kp.mk hS0.1
  clear hS0
  go_wp2_with fail
  go_ret
  exact ⟨by rw [← HE.out]; rfl, HC2.out⟩
 | some y =>
  cases hok : (⟨k, t, f, hp, p, o, s, a, A, n, cc⟩ : Sv).ok with
  | false =>
   have HE := Kp.mk (show false = x.hasM ⟨⟨k, t, f, hp, p, o, s, a, A, n, cc⟩, ml⟩ by unfold Ps.hasM Ps.mine; rw [hon]; simp only [hok, Bool.false_and])
   refine wp_region_held_drew (S := fun X => PnS X pb q gq x ∧ Vb 54 X gs [.int .i64 k, .int .i64 t, .int .i64 f, .int .i64 hp, .int .i64 p, .int .i64 o, .int .i64 s, .int .i64 a, .slice A n cc]) (by kernel_rfl) ⟨H1.out.below (Below.refl _ _).drew, hs0⟩ (fun hS0 => ?_)
   have HC2 := Kp.mk ((show Below w.heap.size w w1.drew from HC1.out.trans ((Below.refl w1.heap.size w1).drew.mono HC1.out.size)))
   clear H1 HC1 hs0
   generalize w1.drew = u at *
   refine tD 0 (.pointer (some ⟨pb, 0, none⟩)) 5 rfl rfl hS0 (fun _ _ => by go_simp) ?_
   try simp only [Act.put, zA, zB, zC]
   have hgo := hS0.1.hasS
   rw [hon] at hgo
   refine rD 1 rfl fun K hK => ?_
   try rw [if_pos (by rfl)]
   go_simp
   go_at_call 67
   refine hgo.mono ?_
   rintro en u2 ⟨rfl, hw2⟩
   replace hw2 := hw2.symm
   subst hw2
   clear hgo
   refine hK.out _ _ hS0 (fun _ => ?_)
   clear hK K
   try simp only [Act.put, zA, zB, zC]
   refine tD 2 (.bool true) 7 rfl rfl hS0 (fun _ _ => by go_simp) ?_
   try simp only [Act.put, zA, zB, zC]
   refine tD 3 (.agg #[.int .i64 k, .int .i64 t, .int .i64 f, .int .i64 hp, .int .i64 p, .int .i64 o, .int .i64 s, .int .i64 a, .slice A n cc]) 8 rfl rfl hS0 ?_ ?_
   ·rintro w' hq
    exact exec_load_vb (vs := [.int .i64 k, .int .i64 t, .int .i64 f, .int .i64 hp, .int .i64 p, .int .i64 o, .int .i64 s, .int .i64 a, .slice A n cc]) (.tmp 3) rfl rfl (hq.2) rfl agg_seg
   try simp only [Act.put, zA, zB, zC]
   refine rD 4 rfl fun K hK => ?_
   try rw [if_pos (by rfl)]
   go_simp
   go_at_call 75
   refine (check_no ⟨k, t, f, hp, p, o, s, a, A, n, cc⟩ hok u).mono ?_
   rintro en u2 ⟨rfl, hb2⟩
   have hS2 : PnS u2 pb q gq x ∧ Vb 54 u2 gs [.int .i64 k, .int .i64 t, .int .i64 f, .int .i64 hp, .int .i64 p, .int .i64 o, .int .i64 s, .int .i64 a, .slice A n cc] := ⟨hS0.1.below hb2, hS0.2.below hb2 hS0.2.lt⟩
   have HC3 := Kp.mk (HC2.out.trans (hb2.mono HC2.out.size))
   clear hb2 HC2
   refine hK.out _ _ hS2 (fun _ => ?_)
   clear hK K hS0
   try simp only [Act.put, zA, zB, zC]
   refine tD 5 (.bool false) 10 rfl rfl hS2 (fun _ _ => by go_simp) ?_
   try simp only [Act.put, zA, zB, zC]
   refine tD 6 (.bool false) 11 rfl rfl hS2 (fun _ _ => by go_simp) ?_
   try simp only [Act.put, zA, zB, zC]
   refine tD 7 (.bool false) 12 rfl rfl hS2 (fun _ _ => by go_simp) ?_
   try simp only [Act.put, zA, zB, zC]
   refine tU 8 13 rfl rfl hS2 ?_
   try simp only [Act.put, zA, zB, zC]
   refine tU 9 14 rfl rfl hS2 ?_
   try simp only [Act.put, zA, zB, zC]
   refine tU 10 15 rfl rfl hS2 ?_
   try simp only [Act.put, zA, zB, zC]
   refine tU 11 16 rfl rfl hS2 ?_
   try simp only [Act.put, zA, zB, zC]
   refine tU 12 17 rfl rfl hS2 ?_
   try simp only [Act.put, zA, zB, zC]
   refine tU 13 18 rfl rfl hS2 ?_
   try simp only [Act.put, zA, zB, zC]
   refine tU 14 19 rfl rfl hS2 ?_
   try simp only [Act.put, zA, zB, zC]
   refine tU 15 20 rfl rfl hS2 ?_
   try simp only [Act.put, zA, zB, zC]
   refine tD 16 (.bool false) 21 rfl rfl hS2 (fun _ _ => by go_simp) ?_
   try simp only [Act.put, zA, zB, zC]
   refine tD 17 (.bool false) 22 rfl rfl hS2 (fun _ _ => by go_simp) ?_
   try simp only [Act.put, zA, zB, zC]
   refine tU 18 23 rfl rfl hS2 ?_
   try simp only [Act.put, zA, zB, zC]
   refine tU 19 24 rfl rfl hS2 ?_
   try simp only [Act.put, zA, zB, zC]
   refine tU 20 25 rfl rfl hS2 ?_
   try simp only [Act.put, zA, zB, zC]
   refine tU 21 26 rfl rfl hS2 ?_
   try simp only [Act.put, zA, zB, zC]
   refine tU 22 27 rfl rfl hS2 ?_
   try simp only [Act.put, zA, zB, zC]
   refine tU 23 28 rfl rfl hS2 ?_
   try simp only [Act.put, zA, zB, zC]
   refine tU 24 29 rfl rfl hS2 ?_
   try simp only [Act.put, zA, zB, zC]
   refine tU 25 30 rfl rfl hS2 ?_
   try simp only [Act.put, zA, zB, zC]
   refine tD 26 (.bool false) 31 rfl rfl hS2 (fun _ _ => by go_simp) ?_
   try simp only [Act.put, zA, zB, zC]
   refine tD 27 (.bool false) 4 rfl rfl hS2 (fun _ _ => by go_simp) ?_
   try simp only [Act.put, zA, zB, zC]
   refine wpAnyH_done (by kernel_rfl) ?_ _
   have HF := Kp.mk hS2.1
   clear hS2
   go_wp2_with fail
   go_ret
   exact ⟨by rw [← HE.out]; rfl, HC3.out⟩
  | true =>
   cases htz : (t == x.sf) with
   | false =>
    have HE := Kp.mk (show false = x.hasM ⟨⟨k, t, f, hp, p, o, s, a, A, n, cc⟩, ml⟩ by unfold Ps.hasM Ps.mine; rw [hon]; simp only [htz, Bool.and_false, Bool.false_and])
    refine wp_region_held_drew (S := fun X => PnS X pb q gq x ∧ Vb 54 X gs [.int .i64 k, .int .i64 t, .int .i64 f, .int .i64 hp, .int .i64 p, .int .i64 o, .int .i64 s, .int .i64 a, .slice A n cc]) (by kernel_rfl) ⟨H1.out.below (Below.refl _ _).drew, hs0⟩ (fun hS0 => ?_)
    have HC2 := Kp.mk ((show Below w.heap.size w w1.drew from HC1.out.trans ((Below.refl w1.heap.size w1).drew.mono HC1.out.size)))
    clear H1 HC1 hs0
    generalize w1.drew = u at *
    refine tD 0 (.pointer (some ⟨pb, 0, none⟩)) 5 rfl rfl hS0 (fun _ _ => by go_simp) ?_
    try simp only [Act.put, zA, zB, zC]
    have hgo := hS0.1.hasS
    rw [hon] at hgo
    refine rD 1 rfl fun K hK => ?_
    try rw [if_pos (by rfl)]
    go_simp
    go_at_call 67
    refine hgo.mono ?_
    rintro en u2 ⟨rfl, hw2⟩
    replace hw2 := hw2.symm
    subst hw2
    clear hgo
    refine hK.out _ _ hS0 (fun _ => ?_)
    clear hK K
    try simp only [Act.put, zA, zB, zC]
    refine tD 2 (.bool true) 7 rfl rfl hS0 (fun _ _ => by go_simp) ?_
    try simp only [Act.put, zA, zB, zC]
    refine tD 3 (.agg #[.int .i64 k, .int .i64 t, .int .i64 f, .int .i64 hp, .int .i64 p, .int .i64 o, .int .i64 s, .int .i64 a, .slice A n cc]) 8 rfl rfl hS0 ?_ ?_
    ·rintro w' hq
     exact exec_load_vb (vs := [.int .i64 k, .int .i64 t, .int .i64 f, .int .i64 hp, .int .i64 p, .int .i64 o, .int .i64 s, .int .i64 a, .slice A n cc]) (.tmp 3) rfl rfl (hq.2) rfl agg_seg
    try simp only [Act.put, zA, zB, zC]
    refine rD 4 rfl fun K hK => ?_
    try rw [if_pos (by rfl)]
    go_simp
    go_at_call 75
    refine (check_yes ⟨k, t, f, hp, p, o, s, a, A, n, cc⟩ hok u).mono ?_
    rintro en u2 ⟨rfl, hb2⟩
    have hS2 : PnS u2 pb q gq x ∧ Vb 54 u2 gs [.int .i64 k, .int .i64 t, .int .i64 f, .int .i64 hp, .int .i64 p, .int .i64 o, .int .i64 s, .int .i64 a, .slice A n cc] := ⟨hS0.1.below hb2, hS0.2.below hb2 hS0.2.lt⟩
    have HC3 := Kp.mk (HC2.out.trans (hb2.mono HC2.out.size))
    clear hb2 HC2
    refine hK.out _ _ hS2 (fun _ => ?_)
    clear hK K hS0
    try simp only [Act.put, zA, zB, zC]
    refine tD 5 (.bool true) 10 rfl rfl hS2 (fun _ _ => by go_simp) ?_
    try simp only [Act.put, zA, zB, zC]
    refine tD 6 (.bool true) 11 rfl rfl hS2 (fun _ _ => by go_simp) ?_
    try simp only [Act.put, zA, zB, zC]
    refine tD 7 (.bool true) 12 rfl rfl hS2 (fun _ _ => by go_simp) ?_
    try simp only [Act.put, zA, zB, zC]
    refine tD 8 (.pointer (some ⟨gs, 1, none⟩)) 13 rfl rfl hS2 (fun _ _ => by go_simp) ?_
    try simp only [Act.put, zA, zB, zC]
    refine tD 9 (.int .i64 t) 14 rfl rfl hS2 ?_ ?_
    ·rintro w' hq
     have s1 := hq.2.cell 1 rfl
     go_simp
    try simp only [Act.put, zA, zB, zC]
    refine tD 10 (.pointer (some ⟨pb, 0, none⟩)) 15 rfl rfl hS2 (fun _ _ => by go_simp) ?_
    try simp only [Act.put, zA, zB, zC]
    refine tD 11 (.pointer (some ⟨pb, 0, none⟩)) 16 rfl rfl hS2 (fun _ _ => by go_simp) ?_
    try simp only [Act.put, zA, zB, zC]
    refine tD 12 (.pointer (some ⟨pb, 0, none⟩)) 17 rfl rfl hS2 (fun _ _ => by go_simp) ?_
    try simp only [Act.put, zA, zB, zC]
    refine tD 13 (.pointer (some ⟨pb, 1, none⟩)) 18 rfl rfl hS2 (fun _ _ => by go_simp) ?_
    try simp only [Act.put, zA, zB, zC]
    refine tD 14 (.int .i64 x.sf) 19 rfl rfl hS2 ?_ ?_
    ·rintro w' hq
     obtain ⟨cs, hv, _, h1, _⟩ := hq.1.full
     have c1 := hv.cell 1 h1
     go_simp
    try simp only [Act.put, zA, zB, zC]
    refine tD 15 (.bool false) 20 rfl rfl hS2 ?_ ?_
    ·rintro w' _
     have hx := htz
     go_simp
    try simp only [Act.put, zA, zB, zC]
    refine tD 16 (.bool false) 21 rfl rfl hS2 (fun _ _ => by go_simp) ?_
    try simp only [Act.put, zA, zB, zC]
    refine tD 17 (.bool false) 22 rfl rfl hS2 (fun _ _ => by go_simp) ?_
    try simp only [Act.put, zA, zB, zC]
    refine tU 18 23 rfl rfl hS2 ?_
    try simp only [Act.put, zA, zB, zC]
    refine tU 19 24 rfl rfl hS2 ?_
    try simp only [Act.put, zA, zB, zC]
    refine tU 20 25 rfl rfl hS2 ?_
    try simp only [Act.put, zA, zB, zC]
    refine tU 21 26 rfl rfl hS2 ?_
    try simp only [Act.put, zA, zB, zC]
    refine tU 22 27 rfl rfl hS2 ?_
    try simp only [Act.put, zA, zB, zC]
    refine tU 23 28 rfl rfl hS2 ?_
    try simp only [Act.put, zA, zB, zC]
    refine tU 24 29 rfl rfl hS2 ?_
    try simp only [Act.put, zA, zB, zC]
    refine tU 25 30 rfl rfl hS2 ?_
    try simp only [Act.put, zA, zB, zC]
    refine tD 26 (.bool false) 31 rfl rfl hS2 (fun _ _ => by go_simp) ?_
    try simp only [Act.put, zA, zB, zC]
    refine tD 27 (.bool false) 4 rfl rfl hS2 (fun _ _ => by go_simp) ?_
    try simp only [Act.put, zA, zB, zC]
    refine wpAnyH_done (by kernel_rfl) ?_ _
    have HF := Kp.mk hS2.1
    clear hS2
    go_wp2_with fail
    go_ret
    exact ⟨by rw [← HE.out]; rfl, HC3.out⟩
   | true =>
    have HE := Kp.mk (show (p == x.e) = x.hasM ⟨⟨k, t, f, hp, p, o, s, a, A, n, cc⟩, ml⟩ by unfold Ps.hasM Ps.mine; rw [hon]; simp only [hok, htz, Bool.true_and, HXE.out y hon])
    refine wp_region_held_drew (S := fun X => PnS X pb q gq x ∧ Vb 54 X gs [.int .i64 k, .int .i64 t, .int .i64 f, .int .i64 hp, .int .i64 p, .int .i64 o, .int .i64 s, .int .i64 a, .slice A n cc]) (by kernel_rfl) ⟨H1.out.below (Below.refl _ _).drew, hs0⟩ (fun hS0 => ?_)
    have HC2 := Kp.mk ((show Below w.heap.size w w1.drew from HC1.out.trans ((Below.refl w1.heap.size w1).drew.mono HC1.out.size)))
    clear H1 HC1 hs0
    generalize w1.drew = u at *
    refine tD 0 (.pointer (some ⟨pb, 0, none⟩)) 5 rfl rfl hS0 (fun _ _ => by go_simp) ?_
    try simp only [Act.put, zA, zB, zC]
    have hgo := hS0.1.hasS
    rw [hon] at hgo
    refine rD 1 rfl fun K hK => ?_
    try rw [if_pos (by rfl)]
    go_simp
    go_at_call 67
    refine hgo.mono ?_
    rintro en u2 ⟨rfl, hw2⟩
    replace hw2 := hw2.symm
    subst hw2
    clear hgo
    refine hK.out _ _ hS0 (fun _ => ?_)
    clear hK K
    try simp only [Act.put, zA, zB, zC]
    refine tD 2 (.bool true) 7 rfl rfl hS0 (fun _ _ => by go_simp) ?_
    try simp only [Act.put, zA, zB, zC]
    refine tD 3 (.agg #[.int .i64 k, .int .i64 t, .int .i64 f, .int .i64 hp, .int .i64 p, .int .i64 o, .int .i64 s, .int .i64 a, .slice A n cc]) 8 rfl rfl hS0 ?_ ?_
    ·rintro w' hq
     exact exec_load_vb (vs := [.int .i64 k, .int .i64 t, .int .i64 f, .int .i64 hp, .int .i64 p, .int .i64 o, .int .i64 s, .int .i64 a, .slice A n cc]) (.tmp 3) rfl rfl (hq.2) rfl agg_seg
    try simp only [Act.put, zA, zB, zC]
    refine rD 4 rfl fun K hK => ?_
    try rw [if_pos (by rfl)]
    go_simp
    go_at_call 75
    refine (check_yes ⟨k, t, f, hp, p, o, s, a, A, n, cc⟩ hok u).mono ?_
    rintro en u2 ⟨rfl, hb2⟩
    have hS2 : PnS u2 pb q gq x ∧ Vb 54 u2 gs [.int .i64 k, .int .i64 t, .int .i64 f, .int .i64 hp, .int .i64 p, .int .i64 o, .int .i64 s, .int .i64 a, .slice A n cc] := ⟨hS0.1.below hb2, hS0.2.below hb2 hS0.2.lt⟩
    have HC3 := Kp.mk (HC2.out.trans (hb2.mono HC2.out.size))
    clear hb2 HC2
    refine hK.out _ _ hS2 (fun _ => ?_)
    clear hK K hS0
    try simp only [Act.put, zA, zB, zC]
    refine tD 5 (.bool true) 10 rfl rfl hS2 (fun _ _ => by go_simp) ?_
    try simp only [Act.put, zA, zB, zC]
    refine tD 6 (.bool true) 11 rfl rfl hS2 (fun _ _ => by go_simp) ?_
    try simp only [Act.put, zA, zB, zC]
    refine tD 7 (.bool true) 12 rfl rfl hS2 (fun _ _ => by go_simp) ?_
    try simp only [Act.put, zA, zB, zC]
    refine tD 8 (.pointer (some ⟨gs, 1, none⟩)) 13 rfl rfl hS2 (fun _ _ => by go_simp) ?_
    try simp only [Act.put, zA, zB, zC]
    refine tD 9 (.int .i64 t) 14 rfl rfl hS2 ?_ ?_
    ·rintro w' hq
     have s1 := hq.2.cell 1 rfl
     go_simp
    try simp only [Act.put, zA, zB, zC]
    refine tD 10 (.pointer (some ⟨pb, 0, none⟩)) 15 rfl rfl hS2 (fun _ _ => by go_simp) ?_
    try simp only [Act.put, zA, zB, zC]
    refine tD 11 (.pointer (some ⟨pb, 0, none⟩)) 16 rfl rfl hS2 (fun _ _ => by go_simp) ?_
    try simp only [Act.put, zA, zB, zC]
    refine tD 12 (.pointer (some ⟨pb, 0, none⟩)) 17 rfl rfl hS2 (fun _ _ => by go_simp) ?_
    try simp only [Act.put, zA, zB, zC]
    refine tD 13 (.pointer (some ⟨pb, 1, none⟩)) 18 rfl rfl hS2 (fun _ _ => by go_simp) ?_
    try simp only [Act.put, zA, zB, zC]
    refine tD 14 (.int .i64 x.sf) 19 rfl rfl hS2 ?_ ?_
    ·rintro w' hq
     obtain ⟨cs, hv, _, h1, _⟩ := hq.1.full
     have c1 := hv.cell 1 h1
     go_simp
    try simp only [Act.put, zA, zB, zC]
    refine tD 15 (.bool true) 20 rfl rfl hS2 ?_ ?_
    ·rintro w' _
     have hx := htz
     go_simp
    try simp only [Act.put, zA, zB, zC]
    refine tD 16 (.bool true) 21 rfl rfl hS2 (fun _ _ => by go_simp) ?_
    try simp only [Act.put, zA, zB, zC]
    refine tD 17 (.bool true) 22 rfl rfl hS2 (fun _ _ => by go_simp) ?_
    try simp only [Act.put, zA, zB, zC]
    refine tD 18 (.pointer (some ⟨gs, 4, none⟩)) 23 rfl rfl hS2 (fun _ _ => by go_simp) ?_
    try simp only [Act.put, zA, zB, zC]
    refine tD 19 (.int .i64 p) 24 rfl rfl hS2 ?_ ?_
    ·rintro w' hq
     have s4 := hq.2.cell 4 rfl
     go_simp
    try simp only [Act.put, zA, zB, zC]
    refine tD 20 (.pointer (some ⟨pb, 0, none⟩)) 25 rfl rfl hS2 (fun _ _ => by go_simp) ?_
    try simp only [Act.put, zA, zB, zC]
    refine tD 21 (.pointer (some ⟨pb, 0, none⟩)) 26 rfl rfl hS2 (fun _ _ => by go_simp) ?_
    try simp only [Act.put, zA, zB, zC]
    refine tD 22 (.pointer (some ⟨pb, 0, none⟩)) 27 rfl rfl hS2 (fun _ _ => by go_simp) ?_
    try simp only [Act.put, zA, zB, zC]
    refine tD 23 (.pointer (some ⟨pb, 2, none⟩)) 28 rfl rfl hS2 (fun _ _ => by go_simp) ?_
    try simp only [Act.put, zA, zB, zC]
    refine tD 24 (.int .i64 x.e) 29 rfl rfl hS2 ?_ ?_
    ·rintro w' hq
     obtain ⟨cs, hv, _, h1, h2, _⟩ := hq.1.full
     have c2 := hv.cell 2 h2
     go_simp
    try simp only [Act.put, zA, zB, zC]
    refine tD 25 (.bool (p == x.e)) 30 rfl rfl hS2 (fun _ _ => by go_simp) ?_
    try simp only [Act.put, zA, zB, zC]
    refine tD 26 (.bool (p == x.e)) 31 rfl rfl hS2 (fun _ _ => by go_simp) ?_
    try simp only [Act.put, zA, zB, zC]
    refine tD 27 (.bool (p == x.e)) 4 rfl rfl hS2 (fun _ _ => by go_simp) ?_
    try simp only [Act.put, zA, zB, zC]
    refine wpAnyH_done (by kernel_rfl) ?_ _
    have HF := Kp.mk hS2.1
    clear hS2
    go_wp2_with fail
    go_ret
    exact ⟨by rw [← HE.out]; rfl, HC3.out⟩
end
section
variable {w w' : World} {pb gq : Nat} {q : Bk} {x : Ps} {S : Nat → Prop}
theorem two_segs (w : World) (k t f hp p o s a : Int) (A : Option Addr) (n cc : Nat) : Vb 54 ((w.alloc (.cells #[.int .i64 k, .int .i64 t, .int .i64 f, .int .i64 hp, .int .i64 p, .int .i64 o, .int .i64 s, .int .i64 a, .slice A n cc] 54)).alloc (.cells #[.int .i64 0, .int .i64 0, .int .i64 0, .int .i64 0, .int .i64 0, .int .i64 0, .int .i64 0, .int .i64 0, .slice none 0 0] 54)) w.heap.size [.int .i64 k, .int .i64 t, .int .i64 f, .int .i64 hp, .int .i64 p, .int .i64 o, .int .i64 s, .int .i64 a, .slice A n cc] ∧ Vb 54 ((w.alloc (.cells #[.int .i64 k, .int .i64 t, .int .i64 f, .int .i64 hp, .int .i64 p, .int .i64 o, .int .i64 s, .int .i64 a, .slice A n cc] 54)).alloc (.cells #[.int .i64 0, .int .i64 0, .int .i64 0, .int .i64 0, .int .i64 0, .int .i64 0, .int .i64 0, .int .i64 0, .slice none 0 0] 54)) (w.heap.size + 1) sv0.cells ∧ Below w.heap.size w ((w.alloc (.cells #[.int .i64 k, .int .i64 t, .int .i64 f, .int .i64 hp, .int .i64 p, .int .i64 o, .int .i64 s, .int .i64 a, .slice A n cc] 54)).alloc (.cells #[.int .i64 0, .int .i64 0, .int .i64 0, .int .i64 0, .int .i64 0, .int .i64 0, .int .i64 0, .int .i64 0, .slice none 0 0] 54)) := by
 have hN := new_segv w k t f hp p o s a A n cc
 have hb2 := below_alloc (w.alloc (.cells #[.int .i64 k, .int .i64 t, .int .i64 f, .int .i64 hp, .int .i64 p, .int .i64 o, .int .i64 s, .int .i64 a, .slice A n cc] 54)) (.cells #[.int .i64 0, .int .i64 0, .int .i64 0, .int .i64 0, .int .i64 0, .int .i64 0, .int .i64 0, .int .i64 0, .slice none 0 0] 54)
 have hv2 : Vb 54 ((w.alloc (.cells #[.int .i64 k, .int .i64 t, .int .i64 f, .int .i64 hp, .int .i64 p, .int .i64 o, .int .i64 s, .int .i64 a, .slice A n cc] 54)).alloc (.cells #[.int .i64 0, .int .i64 0, .int .i64 0, .int .i64 0, .int .i64 0, .int .i64 0, .int .i64 0, .int .i64 0, .slice none 0 0] 54)) (w.alloc (.cells #[.int .i64 k, .int .i64 t, .int .i64 f, .int .i64 hp, .int .i64 p, .int .i64 o, .int .i64 s, .int .i64 a, .slice A n cc] 54)).heap.size sv0.cells := Vb.new _ _ sv0.cells
 rw [allocZ] at hv2
 exact ⟨hN.1.below hb2 hN.1.lt, hv2, hN.2.trans (hb2.mono hN.2.size)⟩
theorem answers_same (w : World) (pb : Nat) (z : Sv) (hz : z.k ≠ 4) : Calls Tryz.prog 71 #[.pointer (some ⟨pb, 0, none⟩), z.v, .bool false] w fun en w' => en = .returned z.v ∧ Below w.heap.size w w' := by
 obtain ⟨k, t, f, hp, p, o, s, a, A, n, cc⟩ := z
 simp only [Sv.v] at *
 obtain ⟨hs2, hv2, hB⟩ := two_segs w k t f hp p o s a A n cc
 have HB := Kp.mk hB
 have e4 : (k == 4) = false := by simpa using hz
 clear hz hB
 go_enter Tryz.func71, Tryz.ntmps71
 go_upto_region 1 with fail
 generalize (w.alloc (.cells #[.int .i64 k, .int .i64 t, .int .i64 f, .int .i64 hp, .int .i64 p, .int .i64 o, .int .i64 s, .int .i64 a, .slice A n cc] 54)).alloc (.cells #[.int .i64 0, .int .i64 0, .int .i64 0, .int .i64 0, .int .i64 0, .int .i64 0, .int .i64 0, .int .i64 0, .slice none 0 0] 54) = w2 at *
 have k0 := hs2.cell 0 rfl
 obtain ⟨gs, hgs⟩ : ∃ gs, gs = w.heap.size := ⟨_, rfl⟩
 obtain ⟨g6, hg6⟩ : ∃ g6, g6 = w.heap.size + 1 := ⟨_, rfl⟩
 rw [← hg6] at hv2 ⊢
 rw [← hgs] at hs2 k0 ⊢
 have HG := Kp.mk hg6
 clear hgs hg6
 go_wp2_with (first | (refine wpList_load_vb (vs := [.int .i64 k, .int .i64 t, .int .i64 f, .int .i64 hp, .int .i64 p, .int .i64 o, .int .i64 s, .int .i64 a, .slice A n cc]) rfl (.tmp 4) rfl rfl hs2 rfl agg_seg ?_) | (refine wpList_store_vb (vs := [.int .i64 k, .int .i64 t, .int .i64 f, .int .i64 hp, .int .i64 p, .int .i64 o, .int .i64 s, .int .i64 a, .slice A n cc]) rfl (.tmp 6) (.tmp 32) rfl rfl rfl hv2 rfl agg_seg rfl ?_; intro w9 hv9 hg9 hz9))
 refine bodyPost_ret (results_one Tryz.results71 _ rfl hv9 agg_seg) rfl ?_
 exact ⟨rfl, below_grown HB.out hg9 HB.out.size (by have := HG.out; omega)⟩
theorem answers_ack {y : Bo} (h : Bd 91 [.pointer (some ⟨gq, 0, none⟩)] w pb q y) (z : Sv) (hz : z.k = 4) : Calls Tryz.prog 71 #[.pointer (some ⟨pb, 0, none⟩), z.v, .bool false] w fun en w' => en = .returned ({ z with a := y.ix } : Sv).v ∧ Below w.heap.size w w' := by
 obtain ⟨k, t, f, hp, p, o, s, a, A, n, cc⟩ := z
 simp only [Sv.v] at *
 obtain ⟨hs2, hv2, hB⟩ := two_segs w k t f hp p o s a A n cc
 have HB := Kp.mk hB
 have H2 := Kp.mk (h.below hB)
 have e4 : (k == 4) = true := by simpa using hz
 clear hz hB h
 go_enter Tryz.func71, Tryz.ntmps71
 go_upto_region 1 with fail
 generalize (w.alloc (.cells #[.int .i64 k, .int .i64 t, .int .i64 f, .int .i64 hp, .int .i64 p, .int .i64 o, .int .i64 s, .int .i64 a, .slice A n cc] 54)).alloc (.cells #[.int .i64 0, .int .i64 0, .int .i64 0, .int .i64 0, .int .i64 0, .int .i64 0, .int .i64 0, .int .i64 0, .slice none 0 0] 54) = w2 at *
 have k0 := hs2.cell 0 rfl
 have k7 := hs2.cell 7 rfl
 have f7 := hs2.free 7
 obtain ⟨gs, hgs⟩ : ∃ gs, gs = w.heap.size := ⟨_, rfl⟩
 obtain ⟨g6, hg6⟩ : ∃ g6, g6 = w.heap.size + 1 := ⟨_, rfl⟩
 rw [← hg6] at hv2 ⊢
 rw [← hgs] at hs2 k0 k7 f7 ⊢
 have HG := Kp.mk (And.intro hgs hg6)
 clear hgs hg6
 have c4 := H2.out.own.cell 4 rfl
 obtain ⟨p1, p2, p3, hi, _⟩ := H2.out.bi.ib
 have hack := oack hi
 have HS3 := Kp.mk (hs2.set 7 (.int .i64 y.ix))
 have hg3 := grownBy_set w2 gs 7 (.int .i64 y.ix)
 have HV3 := Kp.mk (hv2.grown hg3 (by have := HG.out; omega))
 have HB3 := Kp.mk (below_grown HB.out hg3 HB.out.size (by rw [HG.out.1]; exact Nat.le_refl _))
 clear hi hg3 hs2 hv2
 go_upto_region 5 with (refine hack.mono ?_; rintro en w3 ⟨rfl, hw3⟩; replace hw3 := hw3.symm; subst hw3)
 clear hack c4 k0 k7 f7 H2 HB
 generalize w2.setCell _ _ = w4 at *
 have hs3 := HS3.out
 simp only [List.set_cons_succ, List.set_cons_zero] at hs3
 have hv3 := HV3.out
 go_wp2_with (first | (refine wpList_load_vb (vs := [.int .i64 k, .int .i64 t, .int .i64 f, .int .i64 hp, .int .i64 p, .int .i64 o, .int .i64 s, .int .i64 y.ix, .slice A n cc]) rfl (.tmp 4) rfl rfl hs3 rfl agg_seg ?_) | (refine wpList_store_vb (vs := [.int .i64 k, .int .i64 t, .int .i64 f, .int .i64 hp, .int .i64 p, .int .i64 o, .int .i64 s, .int .i64 y.ix, .slice A n cc]) rfl (.tmp 6) (.tmp 32) rfl rfl rfl hv3 rfl agg_seg rfl ?_; intro w9 hv9 hg9 hz9))
 refine bodyPost_ret (results_one Tryz.results71 _ rfl hv9 agg_seg) rfl ?_
 exact ⟨rfl, below_grown HB3.out hg9 HB3.out.size (by have := HG.out; omega)⟩
theorem answers_beg {cs : List Value} {sf bo E : Int} (hv : Vb 91 w pb cs) (hlen : cs.length = 8) (h1 : cs[1]? = some (.int .i64 sf)) (h7 : cs[7]? = some (.pointer (some ⟨gq, 0, none⟩))) (hg : Gb w gq sf bo E) (hsf : 1 ≤ sf ∧ sf ≤ 6) (hbo : 0 ≤ bo ∧ bo ≤ 4294967295) (hE : 1 ≤ E ∧ E ≤ 4294967295) (z : Sv) (hz : z.k = 4) : Calls Tryz.prog 71 #[.pointer (some ⟨pb, 0, none⟩), z.v, .bool true] w fun en w' => en = .returned ({ z with a := 0 } : Sv).v ∧ ∃ q', PnS w' pb q' gq ⟨sf, bo, some (bo0 0 sf E)⟩ ∧ Ch (fun k => k = pb) w w' ∧ ∀ k, q'.own k → w.heap.size ≤ k := by
 obtain ⟨k, t, f, hp, p, o, s, a, A, n, cc⟩ := z
 simp only [Sv.v] at *
 obtain ⟨hs2, hv2, hB⟩ := two_segs w k t f hp p o s a A n cc
 have HB := Kp.mk hB
 have HP2 := Kp.mk (hv.below hB hv.lt)
 have HG2 := Kp.mk (Vb.below hg hB (Vb.lt hg))
 have HLT := Kp.mk (show pb < w.heap.size ∧ gq < w.heap.size ∧ gq ≠ pb from ⟨hv.lt, Vb.lt hg, vb_ne hg hv (by decide)⟩)
 have e4 : (k == 4) = true := by simpa using hz
 clear hz hB hv hg
 go_enter Tryz.func71, Tryz.ntmps71
 go_upto_region 2 with fail
 generalize (w.alloc (.cells #[.int .i64 k, .int .i64 t, .int .i64 f, .int .i64 hp, .int .i64 p, .int .i64 o, .int .i64 s, .int .i64 a, .slice A n cc] 54)).alloc (.cells #[.int .i64 0, .int .i64 0, .int .i64 0, .int .i64 0, .int .i64 0, .int .i64 0, .int .i64 0, .int .i64 0, .slice none 0 0] 54) = w2 at *
 obtain ⟨gs, hgs⟩ : ∃ gs, gs = w.heap.size := ⟨_, rfl⟩
 obtain ⟨g6, hg6⟩ : ∃ g6, g6 = w.heap.size + 1 := ⟨_, rfl⟩
 rw [← hg6] at hv2 ⊢
 rw [← hgs] at hs2 ⊢
 have HG := Kp.mk (And.intro hgs hg6)
 clear hgs hg6
 have c1 := HP2.out.cell 1 h1
 have c7 := HP2.out.cell 7 h7
 refine wp_region_held_drew (S := fun X => X.cell? ⟨pb, 1, none⟩ = some (.int .i64 sf) ∧ X.cell? ⟨pb, 7, none⟩ = some (.pointer (some ⟨gq, 0, none⟩))) (by kernel_rfl) ⟨c1, c7⟩ (fun hS0 => ?_)
 have hbd := (Below.refl w2.heap.size w2).drew
 have HP3 := Kp.mk (HP2.out.below hbd HP2.out.lt)
 have HG3 := Kp.mk (Vb.below HG2.out hbd (Vb.lt HG2.out))
 have HS3 := Kp.mk (hs2.below hbd hs2.lt)
 have HV3 := Kp.mk (hv2.below hbd hv2.lt)
 have HB3 := Kp.mk (HB.out.trans (hbd.mono HB.out.size))
 clear hbd HP2 HG2 hs2 hv2 HB c1 c7
 generalize w2.drew = u at *
 refine tD 0 (.pointer (some ⟨pb, 0, none⟩)) 8 rfl rfl hS0 ?_ ?_
 ·rintro w' hq
  go_simp
 try simp only [Act.put, zA, zB, zC]
 refine tD 1 (.pointer (some ⟨pb, 0, none⟩)) 9 rfl rfl hS0 ?_ ?_
 ·rintro w' hq
  go_simp
 try simp only [Act.put, zA, zB, zC]
 refine tD 2 (.pointer (some ⟨pb, 0, none⟩)) 10 rfl rfl hS0 ?_ ?_
 ·rintro w' hq
  go_simp
 try simp only [Act.put, zA, zB, zC]
 refine tD 3 (.pointer (some ⟨pb, 0, none⟩)) 11 rfl rfl hS0 ?_ ?_
 ·rintro w' hq
  go_simp
 try simp only [Act.put, zA, zB, zC]
 refine tD 4 (.pointer (some ⟨pb, 1, none⟩)) 12 rfl rfl hS0 ?_ ?_
 ·rintro w' hq
  go_simp
 try simp only [Act.put, zA, zB, zC]
 refine tD 5 (.int .i64 sf) 13 rfl rfl hS0 ?_ ?_
 ·rintro w' hq
  have c1 := hq.1
  go_simp
 try simp only [Act.put, zA, zB, zC]
 refine tD 6 (.pointer (some ⟨pb, 0, none⟩)) 14 rfl rfl hS0 ?_ ?_
 ·rintro w' hq
  go_simp
 try simp only [Act.put, zA, zB, zC]
 refine tD 7 (.pointer (some ⟨pb, 0, none⟩)) 15 rfl rfl hS0 ?_ ?_
 ·rintro w' hq
  go_simp
 try simp only [Act.put, zA, zB, zC]
 refine tD 8 (.pointer (some ⟨pb, 7, none⟩)) 16 rfl rfl hS0 ?_ ?_
 ·rintro w' hq
  go_simp
 try simp only [Act.put, zA, zB, zC]
 refine tD 9 (.pointer (some ⟨gq, 0, none⟩)) 17 rfl rfl hS0 ?_ ?_
 ·rintro w' hq
  have c7 := hq.2
  go_simp
 try simp only [Act.put, zA, zB, zC]
 refine rD 10 rfl fun K hK => ?_
 try rw [if_pos (by rfl)]
 go_simp
 go_at_call 114
 refine (gEpoch HG3.out).mono ?_
 rintro en u2 ⟨rfl, hw2⟩
 replace hw2 := hw2.symm
 subst hw2
 refine hK.out _ _ hS0 (fun _ => ?_)
 clear hK K
 try simp only [Act.put, zA, zB, zC]
 refine rD 11 rfl fun K hK => ?_
 try rw [if_pos (by rfl)]
 go_simp
 go_at_call 62
 refine (newBody_any u 0 sf E).mono ?_
 rintro en u3 ⟨q3, rfl, hI3, hq3, hb3⟩
 have hS3 : u3.cell? ⟨pb, 1, none⟩ = some (.int .i64 sf) ∧ u3.cell? ⟨pb, 7, none⟩ = some (.pointer (some ⟨gq, 0, none⟩)) := ⟨(hb3.cell (p := ⟨pb, 1, none⟩) HP3.out.lt).trans hS0.1, (hb3.cell (p := ⟨pb, 7, none⟩) HP3.out.lt).trans hS0.2⟩
 have HP4 := Kp.mk (HP3.out.below hb3 HP3.out.lt)
 have HG4 := Kp.mk (Vb.below HG3.out hb3 (Vb.lt HG3.out))
 have HS4 := Kp.mk (HS3.out.below hb3 HS3.out.lt)
 have HV4 := Kp.mk (HV3.out.below hb3 HV3.out.lt)
 have HB4 := Kp.mk (HB3.out.trans (hb3.mono HB3.out.size))
 have HQ := Kp.mk (show ∀ k, q3.own k → u.heap.size ≤ k from hq3)
 have HQZ := Kp.mk (show gs < u.heap.size ∧ g6 < u.heap.size ∧ pb < u.heap.size ∧ w.heap.size ≤ u.heap.size from ⟨HS3.out.lt, HV3.out.lt, HP3.out.lt, HB3.out.size⟩)
 have HI4 := Kp.mk hI3
 clear hI3 hq3 hb3 HP3 HG3 HS3 HV3 HB3 hS0
 refine hK.out _ _ hS3 (fun _ => ?_)
 clear hK K
 try simp only [Act.put, zA, zB, zC]
 refine tD 12 (.pointer (some ⟨pb, 0, none⟩)) 20 rfl rfl hS3 (fun _ _ => by go_simp) ?_
 try simp only [Act.put, zA, zB, zC]
 refine tD 13 (.pointer (some ⟨pb, 0, none⟩)) 21 rfl rfl hS3 (fun _ _ => by go_simp) ?_
 try simp only [Act.put, zA, zB, zC]
 obtain ⟨a0, a1, a2, a3, a4, a5, a6, a7, rfl⟩ : ∃ a0 a1 a2 a3 a4 a5 a6 a7, cs = [a0, a1, a2, a3, a4, a5, a6, a7] := by
  match cs, hlen with
  | [a0, a1, a2, a3, a4, a5, a6, a7], _ => exact ⟨_, _, _, _, _, _, _, _, rfl⟩
 refine rD 14 rfl fun K hK => ?_
 try rw [if_pos (by rfl)]
 refine op_store_at (vs := [.int .i64 0, .int .i64 sf, .int .i64 E, .pointer (some ⟨q3.s, 0, none⟩), .pointer (some ⟨q3.x, 0, none⟩), .pointer (some ⟨q3.z, 0, none⟩), .bool false]) (.tmp 21) (.tmp 19) rfl rfl rfl HP4.out (by simp) agg_body rfl ?_
 intro u5 hv5 hg5 hz5
 have ha7 : a7 = .pointer (some ⟨gq, 0, none⟩) := by simpa using h7
 have hv5 : Vb 91 u5 pb [.int .i64 0, .int .i64 sf, .int .i64 E, .pointer (some ⟨q3.s, 0, none⟩), .pointer (some ⟨q3.x, 0, none⟩), .pointer (some ⟨q3.z, 0, none⟩), .bool false, .pointer (some ⟨gq, 0, none⟩)] := by rw [← ha7]; exact hv5
 have hc5 := Ch.of_grown hg5
 have hn5 := nob_vb HP4.out (by decide) (by decide)
 have hB5 : Bd 91 [.pointer (some ⟨gq, 0, none⟩)] u5 pb q3 (bo0 0 sf E) := ⟨hv5, HI4.out.stay hc5 (fun k e e2 => by have := HQ.out k e; have := HQZ.out; omega) hn5, .inr rfl⟩
 have HF := Kp.mk (show PnS u5 pb q3 gq ⟨sf, bo, some (bo0 0 sf E)⟩ from ⟨hsf, hbo, (hc5.block gq (Vb.lt HG4.out) (fun e => HLT.out.2.2 e)).trans HG4.out, fun e => by simp at e, fun y e => by obtain rfl := Option.some.inj e; exact ⟨hB5, rfl, rfl, hE⟩⟩)
 have HB5 := Kp.mk hB5
 have HS5 := Kp.mk (HS4.out.grown hg5 (by have := HG.out.1; have := HLT.out.1; omega))
 have HV5 := Kp.mk (HV4.out.grown hg5 (by have := HG.out.2; have := HLT.out.1; omega))
 have HC5 := Kp.mk ((Ch.of_below (S := fun k => k = pb) HB4.out).trans hc5 (fun _ _ e => e))
 have hS5 : u5.cell? ⟨pb, 1, none⟩ = some (.int .i64 sf) ∧ u5.cell? ⟨pb, 7, none⟩ = some (.pointer (some ⟨gq, 0, none⟩)) := ⟨hv5.cell 1 rfl, hv5.cell 7 rfl⟩
 clear hv5 hg5 hz5 hc5 hn5 hB5 HP4 HG4 HS4 HV4 HB4 HI4 hS3 ha7
 refine hK.out _ _ hS5 (fun _ => ?_)
 clear hK K
 try simp only [Act.put, zA, zB, zC]
 refine wpAnyH_done (by kernel_rfl) ?_ _
 clear hS5 h1 h7 hlen
 have hs2 := HS5.out
 have k0 := hs2.cell 0 rfl
 have k7 := hs2.cell 7 rfl
 have f7 := hs2.free 7
 have c4 := HB5.out.own.cell 4 rfl
 obtain ⟨p1, p2, p3, hi, _⟩ := HB5.out.bi.ib
 have hack := oack hi
 have HS6 := Kp.mk (hs2.set 7 (.int .i64 0))
 have hg6 := grownBy_set u5 gs 7 (.int .i64 0)
 have HV6 := Kp.mk (HV5.out.grown hg6 (by have := HG.out; omega))
 have hgo : ¬ lown pb gq q3 gs := fun e => by
  rcases e with e | e | e
  ·have := HG.out.1; have := HLT.out; omega
  ·have := HG.out.1; have := HLT.out; omega
  ·have := HQ.out _ e; have := HQZ.out; omega
 have HF6 := Kp.mk (HF.out.stay (Ch.of_grown hg6) (fun k e e2 => hgo (e2 ▸ e)) (nob_vb hs2 (by decide) (by decide)))
 have HC6 := Kp.mk (HC5.out.trans (Ch.of_grown hg6) (fun k hk e => absurd hk (by rw [e, HG.out.1]; exact Nat.lt_irrefl _)))
 clear hi hg6 hs2 hgo HS5 HV5 HF HC5
 go_upto_region 5 with (refine hack.mono ?_; rintro en w3 ⟨rfl, hw3⟩; replace hw3 := hw3.symm; subst hw3)
 clear hack c4 k0 k7 f7 HB5
 rw [show (bo0 0 sf E).ix = 0 from rfl]
 generalize u5.setCell _ _ = w4 at *
 have hs3 := HS6.out
 simp only [List.set_cons_succ, List.set_cons_zero] at hs3
 have hv3 := HV6.out
 go_wp2_with (first | (refine wpList_load_vb (vs := [.int .i64 k, .int .i64 t, .int .i64 f, .int .i64 hp, .int .i64 p, .int .i64 o, .int .i64 s, .int .i64 0, .slice A n cc]) rfl (.tmp 4) rfl rfl hs3 rfl agg_seg ?_) | (refine wpList_store_vb (vs := [.int .i64 k, .int .i64 t, .int .i64 f, .int .i64 hp, .int .i64 p, .int .i64 o, .int .i64 s, .int .i64 0, .slice A n cc]) rfl (.tmp 6) (.tmp 32) rfl rfl rfl hv3 rfl agg_seg rfl ?_; intro w9 hv9 hg9 hz9))
 refine bodyPost_ret (results_one Tryz.results71 _ rfl hv9 agg_seg) rfl ?_
 have hgo : ¬ lown pb gq q3 g6 := fun e => by
  rcases e with e | e | e
  ·have := HG.out.2; have := HLT.out; omega
  ·have := HG.out.2; have := HLT.out; omega
  ·have := HQ.out _ e; have := HQZ.out; omega
 exact ⟨rfl, q3, HF6.out.stay (Ch.of_grown hg9) (fun k e e2 => hgo (e2 ▸ e)) (nob_vb hv3 (by decide) (by decide)), HC6.out.trans (Ch.of_grown hg9) (fun k hk e => absurd hk (by rw [e, HG.out.2]; omega)), fun k e => Nat.le_trans HQZ.out.2.2.2 (HQ.out k e)⟩
end
end Go.Proofs.YtnoflfbcgbhipaaGreat.Oct
