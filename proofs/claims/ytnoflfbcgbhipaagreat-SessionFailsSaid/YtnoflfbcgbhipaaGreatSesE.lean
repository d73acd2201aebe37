import Derived.Test.YtnoflfbcgbhipaaGreatSesO
import Derived.Test.YtnoflfbcgbhipaaGreatSesP
import Derived.Test.YtnoflfbcgbhipaaGreatOrdJ
import Derived.Test.YtnoflfbcgbhipaaGreatHaiN
import Derived.Test.YtnoflfbcgbhipaaGreatOrdI
import Derived.LoopTactic
import Derived.Deep.CutRange
set_option linter.unusedSimpArgs false
set_option linter.unusedVariables false
set_option maxRecDepth 100000
set_option maxHeartbeats 4000000
namespace Go.Proofs.YtnoflfbcgbhipaaGreat.Oct
open Go.RowKit
structure Bk where
 s : Nat
 c : Nat
 r : Option Nat
 x : Nat
 m : Nat
 z : Nat
def Bk.own (q : Bk) (k : Nat) : Prop := Kb q.s q.c q.r k ∨ k = q.x ∨ k = q.m ∨ k = q.z
def Nob (w : World) (S : Nat → Prop) : Prop := ∀ k cs m, S k → w.heap[k]? ≠ some (.cells cs 5 m) ∧ w.heap[k]? ≠ some (.cells cs 259 m)
theorem Nob.none (w : World) : Nob w (fun _ => False) := fun _ _ _ h => h.elim
theorem Nob.or {w : World} {S S' : Nat → Prop} (h : Nob w S) (h' : Nob w S') : Nob w (fun k => S k ∨ S' k) := fun k cs m hk => hk.elim (h k cs m) (h' k cs m)
theorem Nob.mono {w : World} {S S' : Nat → Prop} (h : Nob w S) (hs : ∀ k, S' k → S k) : Nob w S' := fun k cs m hk => h k cs m (hs k hk)
theorem nob_vb {w : World} {T : TypeId} {g : Nat} {cs : List Value} (h : Vb T w g cs) (h1 : T ≠ 5) (h2 : T ≠ 259) : Nob w (fun k => k = g) := by
 rintro k cs' m rfl
 have h : w.heap[k]? = _ := h
 rw [h]
 refine ⟨fun e => ?_, fun e => ?_⟩
 ·have e := Option.some.inj e
  injection e with _ e _
  exact h1 e
 ·have e := Option.some.inj e
  injection e with _ e _
  exact h2 e
def Kv (w : World) (p : Option Ov) (q : Option (List Int)) : Prop := match q with | none => p = none | some l => ∃ y : Ov, p = some y ∧ y.o = (parseO l).1 ∧ y.ok w
theorem Ov.ok.stay {w w' : World} {S : Nat → Prop} {y : Ov} (h : y.ok w) (hc : Ch S w w') (hn : Nob w S) : y.ok w' := Ron.stay h hc.size hc.block (fun k cs m hk => (hn k cs m hk).2)
theorem Kv.stay {w w' : World} {S : Nat → Prop} {p : Option Ov} {q : Option (List Int)} (h : Kv w p q) (hc : Ch S w w') (hn : Nob w S) : Kv w' p q := by
 cases q with
 | none => exact h
 | some l =>
  obtain ⟨y, h1, h2, h3⟩ := h
  exact ⟨y, h1, h2, h3.stay hc hn⟩
def bcl (b : Bo) (q : Bk) (rest : List Value) : List Value := .int .i64 b.t :: .int .i64 b.f :: .int .i64 b.e :: .pointer (some ⟨q.s, 0, none⟩) :: .pointer (some ⟨q.x, 0, none⟩) :: .pointer (some ⟨q.z, 0, none⟩) :: .bool b.ow :: rest
structure Bi (w : World) (q : Bk) (b : Bo) : Prop where
 sp : Sp (fun _ => True) w q.s q.c 4 b.nx b.said b.all q.r b.ms
 ib : ∃ p1 p2 p3, Io w q.x q.m b.ix p1 p2 p3 ∧ Kv w p1 b.q1 ∧ Kv w p2 b.q2 ∧ Kv w p3 b.q3
 bt : Bt w q.z 4 32 b.a b.tr
 by_ : ∀ m ∈ b.ms, By m ∧ 1 ≤ m.length ∧ m.length ≤ 256
 tr : b.tr ≤ 10000000
section
variable {w w' : World} {q : Bk} {b : Bo} {S : Nat → Prop} {T : TypeId} {g : Nat} {rest : List Value}
theorem Bi.nob (h : Bi w q b) : Nob w q.own := by
 rintro k cs m (hk | hk | hk | hk)
 ·exact ⟨h.sp.nob k cs _ m hk (by decide) (by decide), h.sp.nob k cs _ m hk (by decide) (by decide)⟩
 ·obtain ⟨p1, p2, p3, hi, _⟩ := h.ib
  exact nob_vb hi.own (by decide) (by decide) k cs m hk
 ·obtain ⟨p1, p2, p3, hi, _⟩ := h.ib
  rw [hk]
  exact ⟨hi.mp.nocell _ _ _, hi.mp.nocell _ _ _⟩
 ·exact nob_vb h.bt.own (by decide) (by decide) k cs m hk
theorem Bi.lt (h : Bi w q b) : ∀ k, q.own k → k < w.heap.size := by
 rintro k (hk | hk | hk | hk)
 ·exact h.sp.lt k hk
 ·obtain ⟨p1, p2, p3, hi, _⟩ := h.ib
  rw [hk]; exact hi.own.lt
 ·obtain ⟨p1, p2, p3, hi, _⟩ := h.ib
  rw [hk]; exact hi.mp.lt
 ·rw [hk]; exact h.bt.own.lt
theorem Bi.not (h : Bi w q b) (hT : T ≠ 191 ∧ T ≠ 52 ∧ T ≠ 195 ∧ T ≠ 157) {cs : List Value} (hv : Vb T w g cs) : ¬ q.own g := by
 have hv2 : w.heap[g]? = _ := hv
 rintro (hk | hk | hk | hk)
 ·exact h.sp.nob g _ T _ hk hT.1 hT.2.1 hv2
 ·obtain ⟨p1, p2, p3, hi, _⟩ := h.ib
  exact vb_ne hv hi.own hT.2.2.1 hk
 ·obtain ⟨p1, p2, p3, hi, _⟩ := h.ib
  rw [hk] at hv2
  exact hi.mp.nocell _ _ _ hv2
 ·exact vb_ne hv h.bt.own hT.2.2.2 hk
theorem Bi.stay (h : Bi w q b) (hc : Ch S w w') (hk : ∀ k, q.own k → ¬ S k) (hn : Nob w S) : Bi w' q b := by
 obtain ⟨p1, p2, p3, hi, k1, k2, k3⟩ := h.ib
 have hz := h.bt.own
 exact ⟨h.sp.stay hc (fun k e => hk k (.inl e)) (fun k cs m _ _ hb e => (hn k cs m e).1 hb), ⟨p1, p2, p3, Mo.Ib.stay hi hc (hk _ (.inr (.inl rfl))) (hk _ (.inr (.inr (.inl rfl)))), k1.stay hc hn, k2.stay hc hn, k3.stay hc hn⟩, ⟨(hc.block _ hz.lt (hk _ (.inr (.inr (.inr rfl))))).trans hz, h.bt.r1, h.bt.r2, h.bt.r3⟩, h.by_, h.tr⟩
theorem Bi.below (h : Bi w q b) (hb : Below w.heap.size w w') : Bi w' q b := h.stay (S := fun _ => False) (.of_below hb) (fun _ _ e => e) (Nob.none w)
theorem Bi.apart (h : Bi w q b) : (∀ k, Kb q.s q.c q.r k → k ≠ q.x ∧ k ≠ q.m ∧ k ≠ q.z) ∧ q.x ≠ q.m ∧ q.x ≠ q.z ∧ q.m ≠ q.z := by
 obtain ⟨p1, p2, p3, hi, _⟩ := h.ib
 have hz : w.heap[q.z]? = _ := h.bt.own
 have hx : w.heap[q.x]? = _ := hi.own
 refine ⟨fun k hk => ⟨fun e => ?_, fun e => ?_, fun e => ?_⟩, hi.ne, vb_ne hi.own h.bt.own (by decide), fun e => hi.mp.nocell _ _ _ (e ▸ hz)⟩
 ·exact h.sp.nob k _ _ _ hk (by decide) (by decide) (e ▸ hx)
 ·subst e
  rcases hk with e | e | e
  ·obtain ⟨A, m, fs, h1, _⟩ := h.sp.ex
   exact hi.mp.nocell _ _ _ (e ▸ h1)
  ·obtain ⟨sd, rc, h2⟩ := h.sp.ch
   obtain ⟨ms, ck, es, h3, _⟩ := hi.mp
   rw [e, h2] at h3
   simp at h3
  ·obtain ⟨A, m, fs, h1, h2, h3, _⟩ := h.sp.ex
   obtain ⟨_, cs2, hv⟩ := h2.at_ q.m (h3.trans e)
   exact hi.mp.nocell _ _ _ hv
 ·exact h.sp.nob k _ _ _ hk (by decide) (by decide) (e ▸ hz)
end
structure Bd (T : TypeId) (rest : List Value) (w : World) (g : Nat) (q : Bk) (b : Bo) : Prop where
 own : Vb T w g (bcl b q rest)
 bi : Bi w q b
 ty : T = 88 ∨ T = 91
section
variable {w w' : World} {q : Bk} {b : Bo} {S : Nat → Prop} {T : TypeId} {g : Nat} {rest : List Value}
theorem ty_ne (h : T = 88 ∨ T = 91) : (T ≠ 191 ∧ T ≠ 52 ∧ T ≠ 195 ∧ T ≠ 157) ∧ T ≠ 5 ∧ T ≠ 259 ∧ T ≠ 54 ∧ T ≠ 51 ∧ T ≠ 203 ∧ T ≠ 149 ∧ T ≠ 132 := by
 rcases h with rfl | rfl <;> decide
theorem Bd.gno (h : Bd T rest w g q b) : ¬ q.own g := h.bi.not (ty_ne h.ty).1 h.own
theorem Bd.nob (h : Bd T rest w g q b) : Nob w (fun k => k = g ∨ q.own k) := (nob_vb h.own (ty_ne h.ty).2.1 (ty_ne h.ty).2.2.1).or h.bi.nob
theorem Bd.lt (h : Bd T rest w g q b) : ∀ k, (k = g ∨ q.own k) → k < w.heap.size := fun k hk => hk.elim (fun e => e ▸ h.own.lt) (h.bi.lt k)
theorem Bd.stay (h : Bd T rest w g q b) (hc : Ch S w w') (hg : ¬ S g) (hk : ∀ k, q.own k → ¬ S k) (hn : Nob w S) : Bd T rest w' g q b := ⟨(hc.block g h.own.lt hg).trans h.own, h.bi.stay hc hk hn, h.ty⟩
theorem Bd.below (h : Bd T rest w g q b) (hb : Below w.heap.size w w') : Bd T rest w' g q b := ⟨h.own.below hb h.own.lt, h.bi.below hb, h.ty⟩
theorem Bd.drew (h : Bd T rest w g q b) : Bd T rest w.drew g q b := h.below (Below.refl _ _).drew
theorem Bd.inner (h : Bd T rest w g q b) (hc : Ch S w w') (hs : ∀ k, S k → q.own k) : Vb T w' g (bcl b q rest) := (hc.block g h.own.lt (fun e => h.gno (hs g e))).trans h.own
end
section
variable {w w' : World} {base B n : Nat} {v : Value} {l : List Sv}
theorem Osv.lt (h : Osv w base v n l) : ∀ k, v.ownBlock = some k → base ≤ k ∧ k < w.heap.size := World.ownsRow.lt h
theorem Osv.typed (h : Osv w base v n l) : ∀ k, v.ownBlock = some k → ∃ cur, w.heap[k]? = some (.cells cur 54 (0, 0)) := by
 intro k hk
 rcases h.2 with ⟨rfl, _⟩ | ⟨g, cap, cur, rfl, hbg, hg, _⟩
 ·simp [Value.ownBlock] at hk
 ·simp [Value.ownBlock] at hk
  subst hk
  exact ⟨cur, hg⟩
theorem Osv.stay {S : Nat → Prop} (h : Osv w base v n l) (hc : Ch S w w') (hs : ∀ k, v.ownBlock = some k → ¬ S k) : Osv w' base v n l := by
 refine ⟨h.1, ?_⟩
 rcases h.2 with h2 | ⟨g, cap, cur, e, hbg, hg, r⟩
 ·exact .inl h2
 ·exact .inr ⟨g, cap, cur, e, hbg, (hc.block g (Array.getElem?_eq_some_iff.1 hg).1 (hs g (by rw [e]; rfl))).trans hg, r⟩
def Svd (w : World) (B : Nat) (A : Option Addr) (n c : Nat) (l : List Sv) : Prop :=
 l.length = n ∧ n ≤ c ∧ c ≤ maxLen ∧ (A = none → c = 0) ∧ (0 < n → ∃ b, A = some ⟨b, 0, none⟩ ∧ b < B ∧ ∀ (j : Nat) (x : Sv), l[j]? = some x → ∀ i u, x.cells[i]? = some u → w.cell? ⟨b, j * 9 + i, none⟩ = some u)
theorem Osv.svd {A : Option Addr} {c : Nat} (h : Osv w base (.slice A n c) n l) : Svd w w.heap.size A n c l := by
 obtain ⟨A', c', e, h1, h2, h3, h4⟩ := h.form
 injection e with e1 e2 e3
 subst e1 e3
 exact ⟨h.len, h1, h2, h3, fun hn => h.at_ hn⟩
theorem Svd.below {A : Option Addr} {c : Nat} (h : Svd w B A n c l) (hb : Below B w w') : Svd w' B A n c l :=
 ⟨h.1, h.2.1, h.2.2.1, h.2.2.2.1, fun hn => by
  obtain ⟨b, e, hlt, hc⟩ := h.2.2.2.2 hn
  exact ⟨b, e, hlt, fun j x hj i u hu => (hb.cell (p := ⟨b, _, none⟩) hlt).trans (hc j x hj i u hu)⟩⟩
theorem flatS_ix : ∀ (l : List Sv) (k : Nat) (u : Value), (flatS l)[k]? = some u → ∃ x, l[k / 9]? = some x ∧ x.cells[k % 9]? = some u
 | [], k, u, h => by simp [flatS] at h
 | y :: r, k, u, h => by
  rw [flatS] at h
  by_cases hk : k < 9
  ·rw [List.getElem?_append_left (by rw [Sv.cells_len]; omega)] at h
   exact ⟨y, by rw [Nat.div_eq_of_lt hk]; rfl, by rw [Nat.mod_eq_of_lt hk]; exact h⟩
  ·rw [List.getElem?_append_right (by rw [Sv.cells_len]; omega), Sv.cells_len] at h
   obtain ⟨x, h1, h2⟩ := flatS_ix r (k - 9) u h
   refine ⟨x, ?_, by rw [show k % 9 = (k - 9) % 9 by omega]; exact h2⟩
   rw [show k / 9 = (k - 9) / 9 + 1 by omega]
   simpa using h1
theorem Osv.app (ty : TypeId) {m c : Nat} {A : Option Addr} {l2 : List Sv} (h : Osv w base v n l) (hr : Svd w B A m c l2) (hsz : n + m ≤ 1000000) (hbase : base ≤ w.heap.size) :
  ∃ A' c' w', (Builtin.append_ #[37, 37] ty #[v, .slice A m c]).run Tryz.prog w = .ok (.slice A' (n + m) c') w' ∧ Osv w' base (.slice A' (n + m) c') (n + m) (l ++ l2) ∧ Ch (fun k => v.ownBlock = some k) w w' ∧ ((Value.slice A' (n + m) c').ownBlock = v.ownBlock ∨ ∀ k, (Value.slice A' (n + m) c').ownBlock = some k → w.heap.size ≤ k) := by
 obtain ⟨i0, hi, hz0, hz1, hz2⟩ := info_parts info_seg
 rcases A with _ | ad
 ·have hc : c = 0 := hr.2.2.2.1 rfl
  have hm : m = 0 := by have := hr.2.1; omega
  subst hc hm
  have hl2 : l2 = [] := List.eq_nil_of_length_eq_zero hr.1
  subst hl2
  obtain ⟨A', c', e, _⟩ := h.form
  subst e
  exact ⟨A', c', w, run_append_owned_none (P := Tryz.prog) (w := w) base 37 ty 54 i0 9 Tryz.underlying37 hi _ n _ h, by simpa using h, Ch.refl _ _, .inl rfl⟩
 ·have hcells : ∀ j u, (flatS l2)[j]? = some u → w.cell? (ad.add j) = some u := by
   intro j u hu
   have hjl := (List.getElem?_eq_some_iff.1 hu).1
   rw [flatS_len, hr.1] at hjl
   obtain ⟨b, e, _, hc⟩ := hr.2.2.2.2 (by omega)
   have e := Option.some.inj e
   subst e
   obtain ⟨x, h1, h2⟩ := flatS_ix l2 j u hu
   rw [add_addr, Nat.zero_add]
   have := hc _ x h1 _ u h2
   rwa [show j / 9 * 9 + j % 9 = j by omega] at this
  obtain ⟨v', w', hrun, h2, h3, h4, h5⟩ := run_append_own_at (P := Tryz.prog) w base 37 ty 54 i0 _ 9 88 Tryz.underlying37 hi hz0 hz1 hz2 rfl (by omega) v n _ h ad m c (flatS l2) (by rw [flatS_len, hr.1]) hcells
   (flatS_one l2) (by unfold maxLen; omega) (by omega) hbase
  have hO : Osv w' base v' (n + m) (l ++ l2) := by unfold Osv; rw [flatS_append]; exact h2
  obtain ⟨A', c', e, _⟩ := hO.form
  subst e
  exact ⟨A', c', w', hrun, hO, .of_grownv h3, h5.imp id fun e k hk => by rw [e] at hk; have := Option.some.inj hk; omega⟩
theorem Osv.push (ty : TypeId) {g2 : Nat} {x : Sv} (h : Osv w base v n l) (hr : ∀ j u, x.cells[j]? = some u → w.cell? ⟨g2, j, none⟩ = some u) (hg2 : g2 < w.heap.size) (hsz : n ≤ 100000) (hbase : base ≤ w.heap.size) :
  ∃ A' c' w', (Builtin.append_ #[37, 37] ty #[v, .slice (some ⟨g2, 0, none⟩) 1 1]).run Tryz.prog w = .ok (.slice A' (n + 1) c') w' ∧ Osv w' base (.slice A' (n + 1) c') (n + 1) (l ++ [x]) ∧ Ch (fun k => v.ownBlock = some k) w w' ∧ ((Value.slice A' (n + 1) c').ownBlock = v.ownBlock ∨ ∀ k, (Value.slice A' (n + 1) c').ownBlock = some k → w.heap.size ≤ k) :=
 h.app ty (B := w.heap.size) (l2 := [x]) ⟨rfl, Nat.le_refl _, by unfold maxLen; omega, fun e => by simp at e, fun _ => ⟨g2, rfl, hg2, fun j y hj i u hu => by
  have hj0 : j = 0 := by have := (List.getElem?_eq_some_iff.1 hj).1; simpa using this
  subst hj0
  simp at hj
  subst hj
  rw [Nat.zero_mul, Nat.zero_add]
  exact hr i u hu⟩⟩ (by omega) hbase
end
theorem agg_body : Agg 85 7 := ⟨⟨_, Tryz.underlying85, rfl⟩, by kernel_rfl⟩
theorem bytesO_by2 (o : OrdV) (h8 : u8M o.r.x) : By (bytesO o).1 := bytesO_by o h8
section
variable {w w' : World} {q : Bk} {b : Bo} {S : Nat → Prop} {T : TypeId} {g : Nat} {rest : List Value}
theorem newBody_any (w : World) (t f e : Int) : Calls Tryz.prog 62 #[.int .i64 t, .int .i64 f, .int .i64 e] w fun en w' => ∃ q : Bk, en = .returned (.agg #[.int .i64 t, .int .i64 f, .int .i64 e, .pointer (some ⟨q.s, 0, none⟩), .pointer (some ⟨q.x, 0, none⟩), .pointer (some ⟨q.z, 0, none⟩), .bool false]) ∧ Bi w' q (bo0 t f e) ∧ (∀ k, q.own k → w.heap.size ≤ k) ∧ Below w.heap.size w w' := by
 have hb0 := below_alloc w (.cells #[.int .i64 0, .int .i64 0, .int .i64 0, .pointer none, .pointer none, .pointer none, .bool false] 85)
 have hv0 := Vb.new 85 w [.int .i64 0, .int .i64 0, .int .i64 0, .pointer none, .pointer none, .pointer none, .bool false]
 change Vb _ (w.alloc (.cells #[.int .i64 0, .int .i64 0, .int .i64 0, .pointer none, .pointer none, .pointer none, .bool false] 85)) _ _ at hv0
 have HZ0 := Kp.mk (show w.heap.size < (w.alloc (.cells #[.int .i64 0, .int .i64 0, .int .i64 0, .pointer none, .pointer none, .pointer none, .bool false] 85)).heap.size by simp)
 have HV0 := Kp.mk hv0
 have HB0 := Kp.mk hb0
 clear hv0 hb0
 go_enter Tryz.func62, Tryz.ntmps62
 go_upto_region 1 with fail
 obtain ⟨g0, hg0⟩ : ∃ g0, g0 = w.heap.size := ⟨_, rfl⟩
 rw [← hg0] at HV0 HZ0 ⊢
 have HG0 := Kp.mk hg0
 clear hg0
 generalize w.alloc (.cells #[.int .i64 0, .int .i64 0, .int .i64 0, .pointer none, .pointer none, .pointer none, .bool false] 85) = w0 at *
 go_wp2_with fail
 refine (snew_yes (fun _ => True) w0 4 0 (by omega) (by omega)).mono ?_
 rintro en w1 ⟨s, c, rfl, h1, hs, hc, hb1⟩
 have HV1 := Kp.mk (HV0.out.below hb1 HV0.out.lt)
 have H1 := Kp.mk h1
 have HS := Kp.mk (show g0 < s ∧ g0 < c by have := HZ0.out; omega)
 have HB1 := Kp.mk (HB0.out.trans (hb1.mono HB0.out.size))
 clear HV0 HB0 h1 hs hc hb1
 go_wp2_with fail
 refine (onew_yes w1 0 (by omega) (by omega)).mono ?_
 rintro en w2 ⟨x, m, rfl, hx, hm, h2, hb2⟩
 have HV2 := Kp.mk (HV1.out.below hb2 HV1.out.lt)
 have HX := Kp.mk (show g0 < x ∧ g0 < m by have := HV1.out.lt; omega)
 have H1 := Kp.mk (H1.out.below hb2)
 have H2 := Kp.mk h2
 have HB2 := Kp.mk (HB1.out.trans (hb2.mono HB1.out.size))
 clear HV1 HB1 h2 hx hm hb2
 go_wp2_with fail
 refine (bnew_yes w2 4 32 (by decide)).mono ?_
 rintro en w3 ⟨rfl, h3, hb3⟩
 have HV3 := Kp.mk (HV2.out.below hb3 HV2.out.lt)
 have HZ := Kp.mk (show g0 < w2.heap.size from HV2.out.lt)
 have H1 := Kp.mk (H1.out.below hb3)
 have H2 := Kp.mk (Mo.Ib.below H2.out hb3)
 have H3 := Kp.mk h3
 have HB3 := Kp.mk (HB2.out.trans (hb3.mono HB2.out.size))
 clear HV2 HB2 h3 hb3
 generalize w2.heap.size = z at *
 go_wp2_with (refine wpList_store_vb (vs := [.int .i64 t, .int .i64 f, .int .i64 e, .pointer (some ⟨s, 0, none⟩), .pointer (some ⟨x, 0, none⟩), .pointer (some ⟨z, 0, none⟩), .bool false]) rfl (.tmp 6) (.tmp 31) rfl rfl rfl HV3.out rfl agg_body rfl ?_; intro w9 hv9 hg9 hz9)
 refine bodyPost_ret (results_one Tryz.results62 _ rfl hv9 agg_body) rfl ?_
 have hc9 : Ch (fun k => k = g0) w3 w9 := .of_grown hg9
 have hn9 := nob_vb HV3.out (by decide) (by decide)
 refine ⟨⟨s, c, none, x, m, z⟩, rfl, Bi.stay (S := fun k => k = g0) (w := w3) ⟨H1.out, ⟨none, none, none, H2.out, rfl, rfl, rfl⟩, H3.out, fun m hm => by simp [bo0] at hm, by simp [bo0]⟩ hc9 ?_ hn9, ?_, ?_⟩
 ·rintro k ((e | e | e) | e | e | e) e2
  ·have := HS.out; simp only at e; omega
  ·have := HS.out; simp only at e; omega
  ·simp at e
  ·have := HX.out; simp only at e; omega
  ·have := HX.out; simp only at e; omega
  ·have := HZ.out; simp only at e; omega
 ·have hg := HG0.out
  rintro k ((e | e | e) | e | e | e)
  ·have := HS.out; simp only at e; omega
  ·have := HS.out; simp only at e; omega
  ·simp at e
  ·have := HX.out; simp only at e; omega
  ·have := HX.out; simp only at e; omega
  ·have := HZ.out; simp only at e; omega
 ·exact below_grown HB3.out hg9 HB3.out.size (by rw [HG0.out]; exact Nat.le_refl _)
structure OrdIn (w : World) (o : OrdV) (A : Option Addr) (n c : Nat) : Prop where
 ro : Ro w w.heap.size A n c o.r.os
 u8 : u8M o.r.x
theorem bput_any (h : Bd T rest w g q b) {o : OrdV} {A : Option Addr} {n c : Nat} (ho : OrdIn w o A n c) : Calls Tryz.prog 69 #[.pointer (some ⟨g, 0, none⟩), (.agg #[.int .i64 o.k, .int .i64 o.n, .int .i64 o.m, .int .i64 o.r.k, .int .i64 o.r.pr, .int .i64 o.r.to, .int .i64 o.r.po, .int .i64 o.r.x.v, .int .i64 o.r.x.m, .int .u8 o.r.x.b0, .int .u8 o.r.x.b1, .int .u8 o.r.x.b2, .int .u8 o.r.x.i0, .int .u8 o.r.x.i1, .int .u8 o.r.x.i2, .slice A n c, .int .i64 o.f, .int .i64 o.p, .int .i64 o.t, .int .i64 o.q, .int .i64 o.z])] w fun en w' => en = .returned (.int .i64 (b.putE o)) ∧ ∃ q' : Bk, Bd T rest w' g q' (b.put o) ∧ (∀ k, q'.own k → q.own k ∨ w.heap.size ≤ k) ∧ Ch q.own w w' := by
 have hb0 := below_alloc w (.cells #[.int .i64 o.k, .int .i64 o.n, .int .i64 o.m, .int .i64 o.r.k, .int .i64 o.r.pr, .int .i64 o.r.to, .int .i64 o.r.po, .int .i64 o.r.x.v, .int .i64 o.r.x.m, .int .u8 o.r.x.b0, .int .u8 o.r.x.b1, .int .u8 o.r.x.b2, .int .u8 o.r.x.i0, .int .u8 o.r.x.i1, .int .u8 o.r.x.i2, .slice A n c, .int .i64 o.f, .int .i64 o.p, .int .i64 o.t, .int .i64 o.q, .int .i64 o.z] 51)
 have hv0 : Vb 51 (w.alloc (.cells #[.int .i64 o.k, .int .i64 o.n, .int .i64 o.m, .int .i64 o.r.k, .int .i64 o.r.pr, .int .i64 o.r.to, .int .i64 o.r.po, .int .i64 o.r.x.v, .int .i64 o.r.x.m, .int .u8 o.r.x.b0, .int .u8 o.r.x.b1, .int .u8 o.r.x.b2, .int .u8 o.r.x.i0, .int .u8 o.r.x.i1, .int .u8 o.r.x.i2, .slice A n c, .int .i64 o.f, .int .i64 o.p, .int .i64 o.t, .int .i64 o.q, .int .i64 o.z] 51)) w.heap.size (ocl o (.slice A n c)) := Vb.new _ w (ocl o (.slice A n c))
 have H := Kp.mk (h.below hb0)
 have HO := Kp.mk (ho.ro.below' hb0 (Nat.le_refl _))
 have HU := Kp.mk ho.u8
 have HB0 := Kp.mk hb0
 have HZ := Kp.mk (show w.heap.size < (w.alloc (.cells #[.int .i64 o.k, .int .i64 o.n, .int .i64 o.m, .int .i64 o.r.k, .int .i64 o.r.pr, .int .i64 o.r.to, .int .i64 o.r.po, .int .i64 o.r.x.v, .int .i64 o.r.x.m, .int .u8 o.r.x.b0, .int .u8 o.r.x.b1, .int .u8 o.r.x.b2, .int .u8 o.r.x.i0, .int .u8 o.r.x.i1, .int .u8 o.r.x.i2, .slice A n c, .int .i64 o.f, .int .i64 o.p, .int .i64 o.t, .int .i64 o.q, .int .i64 o.z] 51)).heap.size by simp)
 have HL := Kp.mk h.bi.lt
 clear h ho hb0
 go_enter Tryz.func69, Tryz.ntmps69
 go_upto_region 1 with fail
 obtain ⟨g0, hg0⟩ : ∃ g0, g0 = w.heap.size := ⟨_, rfl⟩
 rw [← hg0] at HZ HO hv0 ⊢
 have HG0 := Kp.mk hg0
 clear hg0
 generalize w.alloc (.cells #[.int .i64 o.k, .int .i64 o.n, .int .i64 o.m, .int .i64 o.r.k, .int .i64 o.r.pr, .int .i64 o.r.to, .int .i64 o.r.po, .int .i64 o.r.x.v, .int .i64 o.r.x.m, .int .u8 o.r.x.b0, .int .u8 o.r.x.b1, .int .u8 o.r.x.b2, .int .u8 o.r.x.i0, .int .u8 o.r.x.i1, .int .u8 o.r.x.i2, .slice A n c, .int .i64 o.f, .int .i64 o.p, .int .i64 o.t, .int .i64 o.q, .int .i64 o.z] 51) = w0 at *
 go_wp2_with (refine wpList_load_vb (vs := ([.int .i64 o.k, .int .i64 o.n, .int .i64 o.m, .int .i64 o.r.k, .int .i64 o.r.pr, .int .i64 o.r.to, .int .i64 o.r.po, .int .i64 o.r.x.v, .int .i64 o.r.x.m, .int .u8 o.r.x.b0, .int .u8 o.r.x.b1, .int .u8 o.r.x.b2, .int .u8 o.r.x.i0, .int .u8 o.r.x.i1, .int .u8 o.r.x.i2, .slice A n c, .int .i64 o.f, .int .i64 o.p, .int .i64 o.t, .int .i64 o.q, .int .i64 o.z] : List Value)) rfl (.tmp 3) rfl rfl hv0 rfl agg_order ?_)
 clear hv0
 refine (orderBytes_any o HO.out (by have := HZ.out; omega) HU.out).mono ?_
 rintro en w1 ⟨A1, n1, c1, rfl, hO1, hb1⟩
 have HB1 := Kp.mk (HB0.out.trans (hb1.mono HB0.out.size))
 have h1 := H.out.below hb1
 have hby := bytesO_by2 o HU.out
 have HPE : Kp (b.putE o = if (bytesO o).2 ≠ 0 then (bytesO o).2 else putSE n1 b.ms.length b.all) := Kp.mk (by unfold Bo.putE; rw [hO1.len])
 have hlen := hO1.len
 by_cases hE : (bytesO o).2 = 0
 ·have hrd : Rd .u8 w1 w1.heap.size A1 n1 c1 (bytesO o).1 := hO1.rd
  have hPE2 := HPE.out
  rw [if_neg (by rw [hE]; simp)] at hPE2
  have hne : ((bytesO o).2 != 0) = false := by rw [hE]; rfl
  have c3 := h1.own.cell 3 rfl
  have HE := Kp.mk hE
  by_cases hP : putSE n1 b.ms.length b.all = 0
  ·have hp := sput_yes h1.bi.sp hrd (Nat.le_refl _) hby hP
   have HY := Kp.mk (putSE_yes hP)
   have HP := Kp.mk (hPE2.trans hP)
   have HR := Kp.mk (And.intro hby hlen)
   have H1 := Kp.mk h1
   clear h1 H hE hP hPE2 hlen hO1 hb1 hrd hby HB0 HPE
   generalize (bytesO o).2 = eb at *
   go_wp2_with fail
   refine hp.mono ?_
   rintro en w2 ⟨r', rfl, h2, hc2, hr2⟩
   have hsz2 := hc2.size
   have hks : ∀ k, Kb q.s q.c q.r k → q.own k := fun k e => .inl e
   have hv2 := H1.out.inner hc2 hks
   have hbi := H1.out.bi
   obtain ⟨p1, p2, p3, hi, k1, k2, k3⟩ := hbi.ib
   have hap := hbi.apart
   have hn2 := hbi.nob.mono hks
   have hz := hbi.bt.own
   have hbo : b.put o = { b with ms := b.ms ++ [(bytesO o).1], all := b.all + 1 } := by unfold Bo.put; rw [if_pos HP.out]
   go_wp2_with fail
   go_ret
   refine ⟨by rw [HP.out]; rfl, ⟨q.s, q.c, r', q.x, q.m, q.z⟩, ?_, ?_, ?_⟩
   ·rw [hbo]
    refine ⟨hv2, ⟨h2.imp (fun _ _ _ => trivial), ⟨p1, p2, p3, Mo.Ib.stay hi hc2 (fun e => (hap.1 _ e).1 rfl) (fun e => (hap.1 _ e).2.1 rfl), k1.stay hc2 hn2, k2.stay hc2 hn2, k3.stay hc2 hn2⟩, ⟨(hc2.block _ hz.lt (fun e => (hap.1 _ e).2.2 rfl)).trans hz, hbi.bt.r1, hbi.bt.r2, hbi.bt.r3⟩, ?_, hbi.tr⟩, H1.out.ty⟩
    intro m hm
    rcases List.mem_append.1 hm with hm | hm
    ·exact hbi.by_ m hm
    ·rw [List.mem_singleton.1 hm]
     exact ⟨HR.out.1, by have := HY.out; have := HR.out.2; omega, by have := HY.out; have := HR.out.2; omega⟩
   ·rintro k ((e | e | e) | e | e | e)
    ·exact .inl (.inl (.inl e))
    ·exact .inl (.inl (.inr (.inl e)))
    ·rcases hr2 with hr2 | hr2
     ·exact .inl (.inl (.inr (.inr (hr2 ▸ e))))
     ·have := hr2 k e; have := HB1.out.size; exact .inr (by omega)
    ·exact .inl (.inr (.inl e))
    ·exact .inl (.inr (.inr (.inl e)))
    ·exact .inl (.inr (.inr (.inr e)))
   ·exact (Ch.of_below (S := q.own) HB1.out).trans (hc2.mono (fun k _ e => .inl e)) (fun _ _ e => e)
  ·have hp := sput_no h1.bi.sp hrd rfl hP
   have HP := Kp.mk (show b.putE o ≠ 0 by rw [hPE2]; exact hP)
   have HQ := Kp.mk hPE2
   clear hlen hO1 hb1 hrd hby HB0 HPE hP hPE2 hE
   generalize (bytesO o).2 = eb at *
   generalize putSE n1 b.ms.length b.all = pe at *
   go_wp2_with fail
   refine hp.mono ?_
   rintro en w2 ⟨rfl, hw2⟩
   subst hw2
   go_wp2_with fail
   go_ret
   exact ⟨by rw [HQ.out]; rfl, q, by unfold Bo.put; rw [if_neg HP.out]; exact h1, fun k e => .inl e, .of_below HB1.out⟩
 ·have hne : ((bytesO o).2 != 0) = true := by simpa using hE
  have HQ := Kp.mk (show b.putE o = (bytesO o).2 by rw [HPE.out, if_pos hE])
  have HP := Kp.mk (show b.putE o ≠ 0 by rw [HQ.out]; exact hE)
  clear hlen hO1 hb1 hby HB0 HPE hE
  generalize (bytesO o).2 = eb at *
  go_wp2_with fail
  go_ret
  exact ⟨by rw [HQ.out]; rfl, q, by unfold Bo.put; rw [if_neg HP.out]; exact h1, fun k e => .inl e, .of_below HB1.out⟩
def Bo.sv (b : Bo) (k s a : Int) (A : Option Addr) (n c : Nat) : Sv := ⟨k, b.t, b.f, 12, b.e, 0, s, a, A, n, c⟩
theorem bseg_any (h : Bd T rest w g q b) (k : Int) : Calls Tryz.prog 148 #[.pointer (some ⟨g, 0, none⟩), .int .i64 k] w fun en w' => en = .returned (b.sv k 0 0 none 0 0).v ∧ Below w.heap.size w w' := by
 have HN := Kp.mk (new_seg w (b.sv k 0 0 none 0 0))
 have c0 := (Vb.cell (Vb.alloc h.own (.cells #[.int .i64 0, .int .i64 0, .int .i64 0, .int .i64 0, .int .i64 0, .int .i64 0, .int .i64 0, .int .i64 0, .slice none 0 0] 54)) 0 rfl)
 have c1 := (Vb.cell (Vb.alloc h.own (.cells #[.int .i64 0, .int .i64 0, .int .i64 0, .int .i64 0, .int .i64 0, .int .i64 0, .int .i64 0, .int .i64 0, .slice none 0 0] 54)) 1 rfl)
 have c2 := (Vb.cell (Vb.alloc h.own (.cells #[.int .i64 0, .int .i64 0, .int .i64 0, .int .i64 0, .int .i64 0, .int .i64 0, .int .i64 0, .int .i64 0, .slice none 0 0] 54)) 2 rfl)
 clear h
 go_enter Tryz.func148, Tryz.ntmps148
 go_upto_region 1 with fail
 go_region
 clear c0 c1 c2
 go_wp2_with fail
 have hv := HN.out.1.below (Below.refl _ _).drew HN.out.1.lt
 refine bodyPost_ret (v := (b.sv k 0 0 none 0 0).v) (results_one Tryz.results148 _ rfl hv agg_seg) rfl ?_
 exact ⟨rfl, HN.out.2.drew⟩
end
def Bo.ofI (b : Bo) (it : Int × FrV) : Ms := ⟨b.sv 5 it.1 0 it.2.A it.2.n it.2.c, it.2.l⟩
section
variable {w w' : World} {q : Bk} {b b' : Bo} {S : Nat → Prop} {T : TypeId} {g : Nat} {rest : List Value}
theorem Bd.of (h : Bd T rest w g q b) (hi : Bi w' q b') (hc : Ch S w w') (hs : ∀ k, S k → q.own k) (e : b'.t = b.t ∧ b'.f = b.f ∧ b'.e = b.e ∧ b'.ow = b.ow) : Bd T rest w' g q b' := by
 refine ⟨?_, hi, h.ty⟩
 have := h.inner hc hs
 unfold bcl at this ⊢
 rw [e.1, e.2.1, e.2.2.1, e.2.2.2]
 exact this
theorem Bi.one (h : Bi w q b) {k : Nat} (hk : q.own k) : Nob w (fun x => x = k) := h.nob.mono (fun x e => e ▸ hk)
theorem Bi.stop (h : Bi w q b) : Calls Tryz.prog 122 #[.pointer (some ⟨q.z, 0, none⟩)] w fun en w' => en = .returned (.tuple #[]) ∧ Bi w' q { b with a := 0, tr := 0 } ∧ Ch (fun k => k = q.z) w w' :=
 (bstop_any h.bt).mono fun en w' ⟨h1, h2, h3⟩ => by
  have hc := Ch.of_grown h3
  have hn := h.one (k := q.z) (.inr (.inr (.inr rfl)))
  obtain ⟨p1, p2, p3, hi, k1, k2, k3⟩ := h.ib
  exact ⟨h1, ⟨h.sp.stay hc (fun k e e2 => (h.apart.1 k e).2.2 e2) (fun k cs m _ _ hb e => (hn k cs m e).1 hb), ⟨p1, p2, p3, Mo.Ib.stay hi hc (fun e => h.apart.2.2.1 e) (fun e => h.apart.2.2.2 e), k1.stay hc hn, k2.stay hc hn, k3.stay hc hn⟩, h2, h.by_, by simp⟩, hc⟩
theorem Bi.start (h : Bi w q b) {n : Int} (hn : tickB n = true) : Calls Tryz.prog 63 #[.pointer (some ⟨q.z, 0, none⟩), .int .i64 n] w fun en w' => en = .returned (.int .i64 0) ∧ Bi w' q { b with a := n + 4, tr := 0 } ∧ Ch (fun k => k = q.z) w w' :=
 (bstart_yes h.bt n hn).mono fun en w' ⟨h1, h2, h3⟩ => by
  have hc := Ch.of_grown h3
  have hn := h.one (k := q.z) (.inr (.inr (.inr rfl)))
  obtain ⟨p1, p2, p3, hi, k1, k2, k3⟩ := h.ib
  exact ⟨h1, ⟨h.sp.stay hc (fun k e e2 => (h.apart.1 k e).2.2 e2) (fun k cs m _ _ hb e => (hn k cs m e).1 hb), ⟨p1, p2, p3, Mo.Ib.stay hi hc (fun e => h.apart.2.2.1 e) (fun e => h.apart.2.2.2 e), k1.stay hc hn, k2.stay hc hn, k3.stay hc hn⟩, h2, h.by_, by simp⟩, hc⟩
theorem Bi.dueN (h : Bi w q b) {n : Int} (hd : b.due n = false) : Calls Tryz.prog 106 #[.pointer (some ⟨q.z, 0, none⟩), .int .i64 n] w fun en w' => en = .returned (.bool false) ∧ w' = w :=
 bdue_no h.bt n (fun e => by have := of_decide_eq_false hd; exact this ⟨e.1, e.2.2⟩)
theorem Bi.dueY (h : Bi w q b) {n : Int} (hn : tickB n = true) (hd : b.due n = true) (ht : b.tr < 10000000) : Calls Tryz.prog 106 #[.pointer (some ⟨q.z, 0, none⟩), .int .i64 n] w fun en w' => en = .returned (.bool true) ∧ Bi w' q { b with a := n + wv 4 32 (b.tr + 1), tr := b.tr + 1 } ∧ Ch (fun k => k = q.z) w w' :=
 (bdue_yes h.bt n (of_decide_eq_true hd).1 hn (of_decide_eq_true hd).2 (by omega)).mono fun en w' ⟨h1, h2, h3⟩ => by
  have hc := Ch.of_grown h3
  have hn := h.one (k := q.z) (.inr (.inr (.inr rfl)))
  obtain ⟨p1, p2, p3, hi, k1, k2, k3⟩ := h.ib
  exact ⟨h1, ⟨h.sp.stay hc (fun k e e2 => (h.apart.1 k e).2.2 e2) (fun k cs m _ _ hb e => (hn k cs m e).1 hb), ⟨p1, p2, p3, Mo.Ib.stay hi hc (fun e => h.apart.2.2.1 e) (fun e => h.apart.2.2.2 e), k1.stay hc hn, k2.stay hc hn, k3.stay hc hn⟩, h2, h.by_, by show b.tr + 1 ≤ 10000000; omega⟩, hc⟩
theorem tell_dat {P : Nat → Prop} {i n : Nat} {its : List (Int × FrV)} (h : Tell P w b.nx i b.ms its) (hn : its.length = n) : (its.map b.ofI).map Ms.abs = b.dat i n := by
 unfold Bo.dat
 apply List.ext_getElem?
 intro j
 rw [List.map_map, List.getElem?_map, List.getElem?_map]
 by_cases hj : j < n
 ·obtain ⟨x, hx⟩ : ∃ x, its[j]? = some x := ⟨its[j], List.getElem?_eq_getElem (by omega)⟩
  obtain ⟨h1, h2⟩ := h.num j x hx
  rw [hx, List.getElem?_range hj]
  simp only [Option.map_some, Function.comp, Ms.abs, Bo.ofI, Bo.sv, Bo.seg]
  rw [h1, List.getD_eq_getElem?_getD, h2]
  rfl
 ·rw [List.getElem?_eq_none (by omega), List.getElem?_eq_none (by simp; omega)]
  rfl
theorem Bi.fresh (h : Bi w q b) : Calls Tryz.prog 103 #[.pointer (some ⟨q.s, 0, none⟩)] w fun en w' => ∃ A m its, en = .returned (.slice A b.fk m) ∧ Om w' w.heap.size (.slice A b.fk m) b.fk its ∧ (its.map b.ofI).map Ms.abs = b.dat b.said b.fk ∧ (∀ it ∈ its, Fok (fun _ => True) w' it.2) ∧ Bi w' q { b with said := b.said + b.fk } ∧ Ch (fun k => k = q.c) w w' :=
 (sfresh_any h.sp).mono fun en w' ⟨A, k, m, its, h1, h2, h3, h4, h5, hc⟩ => by
  have hk : k = b.fk := by unfold Bo.fk; omega
  subst hk
  have hn := h.one (k := q.c) (.inl (.inr (.inl rfl)))
  have hap := h.apart.1 q.c (.inr (.inl rfl))
  obtain ⟨p1, p2, p3, hi, k1, k2, k3⟩ := h.ib
  have hz := h.bt.own
  exact ⟨A, m, its, h1, h3, tell_dat h4 h3.len, fun it hi => (h4.fr it hi).imp (fun _ _ _ => trivial), ⟨h5, ⟨p1, p2, p3, Mo.Ib.stay hi hc (fun e => hap.1 e.symm) (fun e => hap.2.1 e.symm), k1.stay hc hn, k2.stay hc hn, k3.stay hc hn⟩, ⟨(hc.block _ hz.lt (fun e => hap.2.2 e.symm)).trans hz, h.bt.r1, h.bt.r2, h.bt.r3⟩, h.by_, h.tr⟩, hc⟩
theorem Bi.again (h : Bi w q b) : Calls Tryz.prog 107 #[.pointer (some ⟨q.s, 0, none⟩)] w fun en w' => ∃ A m its, en = .returned (.slice A b.said m) ∧ Om w' w.heap.size (.slice A b.said m) b.said its ∧ (its.map b.ofI).map Ms.abs = b.dat 0 b.said ∧ (∀ it ∈ its, Fok (fun _ => True) w' it.2) ∧ Below w.heap.size w w' :=
 (sagain_any h.sp).mono fun en w' ⟨A, m, its, h1, h3, h4, hb⟩ => ⟨A, m, its, h1, h3, tell_dat h4 h3.len, fun it hi => (h4.fr it hi).imp (fun _ _ _ => trivial), hb⟩
theorem back_any (h : Bd T rest w g q b) : Calls Tryz.prog 102 #[.pointer (some ⟨g, 0, none⟩)] w fun en w' => en = .returned (.agg #[.int .i64 4, .int .i64 b.t, .int .i64 b.f, .int .i64 12, .int .i64 b.e, .int .i64 0, .int .i64 0, .int .i64 b.ix, .slice none 0 0]) ∧ Below w.heap.size w w' := by
 have hb0 := below_alloc w (.cells #[.int .i64 0, .int .i64 0, .int .i64 0, .int .i64 0, .int .i64 0, .int .i64 0, .int .i64 0, .int .i64 0, .slice none 0 0] 54)
 have HV0 := Kp.mk (show Vb 54 (w.alloc (.cells #[.int .i64 0, .int .i64 0, .int .i64 0, .int .i64 0, .int .i64 0, .int .i64 0, .int .i64 0, .int .i64 0, .slice none 0 0] 54)) w.heap.size sv0.cells from Vb.new _ w sv0.cells)
 have H0 := Kp.mk (h.below hb0)
 have HB0 := Kp.mk hb0
 clear h hb0
 go_enter Tryz.func102, Tryz.ntmps102
 go_upto_region 1 with fail
 obtain ⟨g0, hg0⟩ : ∃ g0, g0 = w.heap.size := ⟨_, rfl⟩
 rw [← hg0] at HV0 ⊢
 have HG0 := Kp.mk hg0
 clear hg0
 generalize w.alloc (.cells #[.int .i64 0, .int .i64 0, .int .i64 0, .int .i64 0, .int .i64 0, .int .i64 0, .int .i64 0, .int .i64 0, .slice none 0 0] 54) = w0 at *
 go_wp2_with fail
 refine (bseg_any H0.out 4).mono ?_
 rintro en w1 ⟨rfl, hb1⟩
 have H1 := Kp.mk (H0.out.below hb1)
 have HV1 := Kp.mk (HV0.out.below hb1 HV0.out.lt)
 have HB1 := Kp.mk (HB0.out.trans (hb1.mono HB0.out.size))
 clear H0 HV0 HB0 hb1
 simp only [Bo.sv, Sv.v]
 go_upto_region 2 with (refine wpList_store_new (vs := [.int .i64 4, .int .i64 b.t, .int .i64 b.f, .int .i64 12, .int .i64 b.e, .int .i64 0, .int .i64 0, .int .i64 0, .slice none 0 0]) rfl (.tmp 3) (.tmp 5) rfl rfl rfl rfl rfl rfl agg_seg rfl ?_; intro w2 hv2 hb2 hz2)
 have H2 := Kp.mk (H1.out.below hb2)
 have HV2 := Kp.mk (HV1.out.below hb2 HV1.out.lt)
 have HB2 := Kp.mk (HB1.out.trans (hb2.mono HB1.out.size))
 have HGG := Kp.mk (show g0 < w1.heap.size from HV1.out.lt)
 have HGW := Kp.mk (show w.heap.size ≤ w1.heap.size from HB1.out.size)
 clear H1 HV1 HB1 hb2 hz2
 generalize w1.heap.size = g3 at *
 obtain ⟨p1, p2, p3, hi, _⟩ := H2.out.bi.ib
 have hack := oack hi
 have c4 := H2.out.own.cell 4 rfl
 have f7 := hv2.free 7
 have v7 := hv2.cell 7 rfl
 have HV3 := Kp.mk (hv2.set 7 (.int .i64 b.ix))
 have HG3 := Kp.mk (grownBy_set w2 g3 7 (.int .i64 b.ix))
 clear hi hv2
 go_wp2_with fail
 refine hack.mono ?_
 rintro en w3 ⟨rfl, hw3⟩
 replace hw3 := hw3.symm
 subst hw3
 go_upto_region 3 with fail
 have HV4 := Kp.mk (HV2.out.grown HG3.out (by have := HGG.out; omega))
 have HB4 := Kp.mk (below_grown HB2.out HG3.out HB2.out.size HGW.out)
 clear hack c4 f7 v7 H2 HV2 HG3
 generalize w2.setCell _ _ = w4 at *
 have v3 := HV3.out
 simp only [List.set_cons_succ, List.set_cons_zero] at v3
 have v0 := HV4.out
 go_wp2_with (first | (refine wpList_load_vb (vs := [.int .i64 4, .int .i64 b.t, .int .i64 b.f, .int .i64 12, .int .i64 b.e, .int .i64 0, .int .i64 0, .int .i64 b.ix, .slice none 0 0]) rfl (.tmp 3) rfl rfl v3 rfl agg_seg ?_) | (refine wpList_store_vb (vs := [.int .i64 4, .int .i64 b.t, .int .i64 b.f, .int .i64 12, .int .i64 b.e, .int .i64 0, .int .i64 0, .int .i64 b.ix, .slice none 0 0]) rfl (.tmp 2) (.tmp 12) rfl rfl rfl v0 rfl agg_seg rfl ?_; intro w9 hv9 hg9 hz9))
 refine bodyPost_ret (results_one Tryz.results102 _ rfl hv9 agg_seg) rfl ?_
 exact ⟨rfl, below_grown HB4.out hg9 HB4.out.size (by rw [HG0.out]; exact Nat.le_refl _)⟩
end
structure DataR (T : TypeId) (rest : List Value) (w : World) (g : Nat) (q : Bk) (b : Bo) (A : Option Addr) (n c : Nat) (its : List (Int × FrV)) (j : Nat) (A' : Option Addr) (c' : Nat) (wr : World) : Prop where
 bd : Bd T rest wr g q b
 im : Im wr w.heap.size A n c its
 os : Osv wr w.heap.size (.slice A' j c') j ((its.take j).map fun it => (b.ofI it).x)
 old : Below w.heap.size w wr
theorem meas_lt2 {n j : Nat} (h : j < n) : n - (intOf (.int .i64 ((j : Int) + 1))).toNat < n - (intOf (.int .i64 (j : Int))).toNat := by
 simp only [intOf]
 omega
section
variable {w w' : World} {q : Bk} {b : Bo} {S : Nat → Prop} {T : TypeId} {g : Nat} {rest : List Value}
theorem bdata_any (h : Bd T rest w g q b) {A : Option Addr} {n c : Nat} {its : List (Int × FrV)} (hI : Im w w.heap.size A n c its) (hn : n ≤ 4) : Calls Tryz.prog 104 #[.pointer (some ⟨g, 0, none⟩), .slice A n c] w fun en w' => ∃ A' c', en = .returned (.slice A' n c') ∧ Osv w' w.heap.size (.slice A' n c') n (its.map fun it => (b.ofI it).x) ∧ Below w.heap.size w w' := by
 have hl := hI.len
 have HL := Kp.mk hl
 have hN := hI.max
 have HN4 := Kp.mk hn
 have HR := Kp.mk (show DataR T rest w g q b A n c its 0 none 0 w from ⟨h, hI, by simpa using Osv.nil0 w w.heap.size, Below.refl _ _⟩)
 clear h hI hn
 go_enter Tryz.func104, Tryz.ntmps104
 go_wp2_with fail
 go_loopw [5, 11] (fun s5 s11 wr => ∃ (j : Nat) (A' : Option Addr) (c' : Nat), s5 = .slice A' j c' ∧ s11 = .int .i64 j ∧ Kp (j ≤ n) ∧ Kp (DataR T rest w g q b A n c its j A' c' wr)) (fun _ s11 _ => (n - (intOf s11).toNat))
 case atStart => exact ⟨0, none, 0, rfl, rfl, Kp.mk (Nat.zero_le _), HR⟩
 case round =>
  clear HR
  obtain ⟨j, A', c', rfl, rfl, HJ, HR⟩ := hrel
  by_cases hj : (j : Int) < n
  rotate_left
  ·have hjn : j = n := by have := HJ.out; omega
   have HE := Kp.mk hjn
   clear hjn
   go_wp2_with fail
   go_ret
   have e := HE.out
   subst e
   have ho := HR.out.os
   rw [List.take_of_length_le (by rw [HL.out]; exact Nat.le_refl _)] at ho
   exact ⟨A', c', rfl, ho, HR.out.old⟩
  obtain ⟨gI, off, rfl, hlt, hcell⟩ := HR.out.im.at_ (by omega)
  obtain ⟨x, hx⟩ : ∃ x, its[j]? = some x := ⟨its[j], List.getElem?_eq_getElem (by omega)⟩
  obtain ⟨q0, q1⟩ := hcell j x hx
  have HX := Kp.mk hx
  clear hx hcell
  obtain ⟨xn, ⟨fA, fn, fc, fl⟩⟩ := x
  simp only [FrV.val] at q0 q1
  go_upto_region 5 with fail
  have hb1 := below_alloc wr (.cells #[.int .i64 xn, .slice fA fn fc] 203)
  have HI1 := Kp.mk (show Vb 203 (wr.alloc (.cells #[.int .i64 xn, .slice fA fn fc] 203)) wr.heap.size [.int .i64 xn, .slice fA fn fc] from Vb.new _ wr [.int .i64 xn, .slice fA fn fc])
  have H1 := Kp.mk (HR.out.bd.below hb1)
  have HM1 := Kp.mk (HR.out.im.below (hb1.mono HR.out.old.size))
  have HO1 := Kp.mk (HR.out.os.below hb1)
  have HB1 := Kp.mk (HR.out.old.trans (hb1.mono HR.out.old.size))
  clear hb1 HR q0 q1
  obtain ⟨gi, hgi⟩ : ∃ gi, gi = wr.heap.size := ⟨_, rfl⟩
  rw [← hgi] at HI1 ⊢
  clear hgi
  generalize wr.alloc (.cells #[.int .i64 xn, .slice fA fn fc] 203) = w1 at *
  go_wp2_with fail
  refine (bseg_any H1.out 5).mono ?_
  rintro en w2 ⟨rfl, hb2⟩
  have HI2 := Kp.mk (HI1.out.below hb2 HI1.out.lt)
  have H2 := Kp.mk (H1.out.below hb2)
  have HM2 := Kp.mk (HM1.out.below (hb2.mono HB1.out.size))
  have HO2 := Kp.mk (HO1.out.below hb2)
  have HB2 := Kp.mk (HB1.out.trans (hb2.mono HB1.out.size))
  clear hb2 HI1 H1 HM1 HO1 HB1
  simp only [Bo.sv, Sv.v]
  go_upto_region 6 with (refine wpList_store_new (vs := [.int .i64 5, .int .i64 b.t, .int .i64 b.f, .int .i64 12, .int .i64 b.e, .int .i64 0, .int .i64 0, .int .i64 0, .slice none 0 0]) rfl (.tmp 8) (.tmp 16) rfl rfl rfl rfl rfl rfl agg_seg rfl ?_; intro w3 hv3 hb3 hz3)
  have HI3 := Kp.mk (HI2.out.below hb3 HI2.out.lt)
  have H3 := Kp.mk (H2.out.below hb3)
  have HM3 := Kp.mk (HM2.out.below (hb3.mono HB2.out.size))
  have HO3 := Kp.mk (HO2.out.below hb3)
  have HB3 := Kp.mk (HB2.out.trans (hb3.mono HB2.out.size))
  have HGN := Kp.mk (show gi < w2.heap.size ∧ w.heap.size ≤ w2.heap.size ∧ g < w2.heap.size ∧ (∀ k, q.own k → k < w2.heap.size) ∧ (∀ k, (Value.slice A' j c').ownBlock = some k → k < w2.heap.size) from ⟨HI2.out.lt, HB2.out.size, H2.out.own.lt, H2.out.bi.lt, fun k e => (HO2.out.lt k e).2⟩)
  clear hb3 hz3 HI2 H2 HM2 HO2 HB2
  generalize w2.heap.size = g3 at *
  have i0 := HI3.out.cell 0 rfl
  have i1 := HI3.out.cell 1 rfl
  have v6 := hv3.cell 6 rfl
  have v8 := hv3.cell 8 rfl
  have f6 := hv3.free 6
  have f8 := hv3.free 8
  go_region
  all_goals (
   have hg4 := (grownBy_set w3 g3 6 (.int .i64 xn))
   have hg5 := (grownBy_set (w3.setCell ⟨g3, 6, none⟩ (.int .i64 xn)) g3 8 (.slice fA fn fc))
   have hv5 := (hv3.set 6 (.int .i64 xn)).set 8 (.slice fA fn fc)
   simp only [List.set_cons_succ, List.set_cons_zero] at hv5
   have hc5 : Ch (fun k => k = g3) w3 ((w3.setCell ⟨g3, 6, none⟩ (.int .i64 xn)).setCell ⟨g3, 8, none⟩ (.slice fA fn fc)) := (Ch.of_grown hg4).trans (Ch.of_grown hg5) (fun _ _ e => e)
   have hn5 := nob_vb hv3 (by decide) (by decide)
   have H5 := Kp.mk ((H3.out.stay hc5 (fun e => by have := HGN.out.2.2.1; omega) (fun k e e2 => by have := HGN.out.2.2.2.1 k e; omega) hn5).drew)
   have HO5 := Kp.mk ((HO3.out.stay hc5 (fun k e e2 => by have := HGN.out.2.2.2.2 k e; omega)).below (Below.refl _ _).drew)
   have hb5 : Below w.heap.size w3 ((w3.setCell ⟨g3, 6, none⟩ (.int .i64 xn)).setCell ⟨g3, 8, none⟩ (.slice fA fn fc)) := hc5.below (fun x e => by rw [e]; exact HGN.out.2.1) HB3.out.size
   have HM5 := Kp.mk ((HM3.out.below hb5).below (Below.refl _ _).drew)
   have HB5 := Kp.mk ((HB3.out.trans hb5).drew)
   have hv5 : Vb 54 ((w3.setCell ⟨g3, 6, none⟩ (.int .i64 xn)).setCell ⟨g3, 8, none⟩ (.slice fA fn fc)).drew g3 _ := hv5
   clear hg4 hg5 hc5 hn5 hb5 i0 i1 v6 v8 f6 f8 H3 HO3 HM3 HB3 HI3 hv3
   generalize ((w3.setCell ⟨g3, 6, none⟩ (.int .i64 xn)).setCell ⟨g3, 8, none⟩ (.slice fA fn fc)).drew = w5 at *
   obtain ⟨y, hy⟩ : ∃ y : Sv, y = (b.ofI (xn, ⟨fA, fn, fc, fl⟩)).x := ⟨_, rfl⟩
   have hN6 := new_seg w5 y
   have hO6 := HO5.out.below hN6.2
   obtain ⟨A9, c9, w9, hrun, hO9, hC9, hat⟩ := hO6.push 37 (g2 := w5.heap.size) (x := y) (fun i u hu => hN6.1.cell i hu) (by simp) (by have := HJ.out; have := HN4.out; omega) (Nat.le_trans HB5.out.size hN6.2.size)
   have HY := Kp.mk hy
   have HBA := Kp.mk (HB5.out.trans (hN6.2.mono HB5.out.size))
   have H6 := H5.out.below hN6.2
   have HNO := Kp.mk (show ∀ k, (Value.slice A' j c').ownBlock = some k → w.heap.size ≤ k ∧ k ≠ g ∧ ¬ q.own k ∧ ∀ cs m, (w5.alloc (.cells y.cells.toArray 54)).heap[k]? ≠ some (.cells cs 5 m) ∧ (w5.alloc (.cells y.cells.toArray 54)).heap[k]? ≠ some (.cells cs 259 m) from fun k e => by
    obtain ⟨cur, hcur⟩ := hO6.typed k e
    have hvb : Vb 54 (w5.alloc (.cells y.cells.toArray 54)) k cur.toList := by simpa [Vb] using hcur
    refine ⟨(hO6.lt k e).1, vb_ne hvb H6.own (fun e2 => (ty_ne H6.ty).2.2.2.1 e2.symm), H6.bi.not (by decide) hvb, fun cs m => nob_vb hvb (by decide) (by decide) k cs m rfl⟩)
   have H9 := Kp.mk (H6.stay hC9 (fun e => (HNO.out g e).2.1 rfl) (fun k e e2 => (HNO.out k e2).2.2.1 e) (fun k cs m e => (HNO.out k e).2.2.2 cs m))
   have HB9 := Kp.mk (HBA.out.trans (hC9.below (fun k e => (HNO.out k e).1) HBA.out.size))
   have HM9 := Kp.mk ((HM5.out.below (hN6.2.mono HB5.out.size)).below (hC9.below (fun k e => (HNO.out k e).1) HBA.out.size))
   have HO9 := Kp.mk hO9
   subst hy
   have hrun : (Builtin.append_ #[37, 37] 37 #[.slice A' j c', .slice (some ⟨w5.heap.size, 0, none⟩) 1 1]).run Tryz.prog (w5.alloc (.cells #[.int .i64 5, .int .i64 b.t, .int .i64 b.f, .int .i64 12, .int .i64 b.e, .int .i64 0, .int .i64 xn, .int .i64 0, .slice fA fn fc] 54)) = .ok (.slice A9 (j + 1) c9) w9 := hrun
   clear H6 hO6 hN6 hO9 hC9 hat H5 HO5 HM5 HB5 HBA HNO
   have hj1 := wrap_succ (show j ≤ 1000000 by have := HJ.out; have := HN4.out; omega)
   have hjn := HJ.out
   have hj4 := HN4.out
   have HJ1 := Kp.mk hj1
   clear hj1
   go_wp2_with (first | (refine wpList_load_vb (vs := [.int .i64 5, .int .i64 b.t, .int .i64 b.f, .int .i64 12, .int .i64 b.e, .int .i64 0, .int .i64 xn, .int .i64 0, .slice fA fn fc]) rfl (.tmp 8) rfl rfl hv5 rfl agg_seg ?_) | (at_builtin; refine Lib.wpList_append_run _ rfl _ _ _ _ rfl _ _ rfl rfl _ _ hrun ?_))
   go_roundw
   case rel =>
    refine ⟨j + 1, A9, c9, rfl, by rw [show ((j : Int) + 1) = ((j + 1 : Nat) : Int) from by omega], Kp.mk (by omega), Kp.mk ⟨H9.out, HM9.out, ?_, HB9.out⟩⟩
    have e : its.take (j + 1) = its.take j ++ [(xn, ⟨fA, fn, fc, fl⟩)] := by rw [List.take_add_one, HX.out]; rfl
    rw [e, List.map_append]
    exact HO9.out
   case measure => exact meas_lt2 (by omega))
end
end Go.Proofs.YtnoflfbcgbhipaaGreat.Oct
