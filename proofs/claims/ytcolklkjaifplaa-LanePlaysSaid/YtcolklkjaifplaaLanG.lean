/- Contracts of layer 11 (lane): the document's lane. -/
import Derived.Test.YtcolklkjaifplaaLanF
namespace Go.Proofs.Ytcolklkjaifplaa.Oct
open Go.RowKit
set_option linter.unusedVariables false
set_option linter.unusedSimpArgs false
/-- The document's lane in block m, its row of frames beside it (r: where), from lo on. -/
structure Lm (w : World) (lo m room : Nat) (r : Option Nat) (fs : List FrV) : Prop where
  lt : lo ≤ m
  ex : ∃ v, Vb 103 w m [.int .i64 room, v] ∧ Orw w lo v fs.length fs ∧ v.ownBlock = r
  fit : fs.length ≤ room ∧ room ≤ 64
section
variable {S : Nat → Prop} {w w' : World} {lo m room : Nat} {r : Option Nat} {fs gs a b : List FrV} {f : FrV}
theorem Lm.stay (h : Lm w lo m room r fs) (hc : Ch S w w') (hm : ¬ S m) (hr : ∀ k, r = some k → ¬ S k) : Lm w' lo m room r fs := by
  obtain ⟨v, h1, h2, h3⟩ := h.ex
  exact ⟨h.lt, ⟨v, (hc.block m h1.lt hm).trans h1, h2.stay hc (fun k hk => hr k (by rw [← h3]; exact hk)), h3⟩, h.fit⟩
theorem Lm.below (h : Lm w lo m room r fs) (hb : Below w.heap.size w w') : Lm w' lo m room r fs := h.stay (S := fun _ => False) (.of_below hb) id (fun _ _ e => e)
theorem Lm.mlt (h : Lm w lo m room r fs) : m < w.heap.size := by obtain ⟨v, h1, _⟩ := h.ex; exact h1.lt
theorem Lm.rlt (h : Lm w lo m room r fs) : ∀ k, r = some k → lo ≤ k ∧ k < w.heap.size := by
  obtain ⟨v, h1, h2, h3⟩ := h.ex
  exact fun k hk => h2.lt k (by rw [h3]; exact hk)
/-- Neither of its blocks is one of bytes, or a channel, or another struct. -/
theorem Lm.nob (h : Lm w lo m room r fs) : ∀ k cs t, (k = m ∨ r = some k) → t ≠ 103 → t ≠ 60 → ∀ mk, w.heap[k]? ≠ some (.cells cs t mk) := by
  obtain ⟨v, h1, h2, h3⟩ := h.ex
  rintro k cs t (rfl | hk) ht1 ht2 mk e
  · have h1 : w.heap[k]? = _ := h1
    rw [h1] at e
    have e := Option.some.inj e
    injection e with _ e _
    exact ht1 e.symm
  · obtain ⟨cur, h4⟩ := h2.typed k (by rw [h3]; exact hk)
    rw [h4] at e
    have e := Option.some.inj e
    injection e with _ e _
    exact ht2 e.symm
theorem Lm.noch (h : Lm w lo m room r fs) : ∀ k, (k = m ∨ r = some k) → ∀ cap buf cl s rr t, w.heap[k]? ≠ some (.chan cap buf cl s rr t) := by
  obtain ⟨v, h1, h2, h3⟩ := h.ex
  rintro k (rfl | hk) cap buf cl s rr t e
  · have h1 : w.heap[k]? = _ := h1
    rw [h1] at e
    simp at e
  · obtain ⟨cur, h4⟩ := h2.typed k (by rw [h3]; exact hk)
    rw [h4] at e
    simp at e
/-- A row is put into it. -/
theorem Lm.put (h : Lm w lo m room r fs) {v : Value} (hv : Orw w lo v gs.length gs) (hg : gs.length ≤ room) : Lm (w.setCell ⟨m, 1, none⟩ v) lo m room v.ownBlock gs ∧ Ch (fun k => k = m) w (w.setCell ⟨m, 1, none⟩ v) := by
  obtain ⟨v0, h1, h2, h3⟩ := h.ex
  have hc : Ch (fun k => k = m) w (w.setCell ⟨m, 1, none⟩ v) := .of_grown (grownBy_set w m 1 v)
  refine ⟨⟨h.lt, ⟨v, h1.set 1 v, hv.stay hc (fun k hk e => ?_), rfl⟩, hg, h.fit.2⟩, hc⟩
  subst e
  obtain ⟨cur, h4⟩ := hv.typed k hk
  have h1 : w.heap[k]? = _ := h1
  rw [h1] at h4
  have e := Option.some.inj h4
  injection e with _ e _
  exact absurd e (by decide)
theorem Lm.putV {v0 v : Value} (h1 : Vb 103 w m [.int .i64 room, v0]) (hlo : lo ≤ m) (h64 : room ≤ 64) {n : Nat} (hv : Orw w lo v n gs) (hg : gs.length ≤ room) : Lm (w.setCell ⟨m, 1, none⟩ v) lo m room v.ownBlock gs ∧ Ch (fun k => k = m) w (w.setCell ⟨m, 1, none⟩ v) := by
  obtain rfl := hv.len
  have hc : Ch (fun k => k = m) w (w.setCell ⟨m, 1, none⟩ v) := .of_grown (grownBy_set w m 1 v)
  refine ⟨⟨hlo, ⟨v, h1.set 1 v, hv.stay hc (fun k hk e => ?_), rfl⟩, hg, h64⟩, hc⟩
  subst e
  obtain ⟨cur, h4⟩ := hv.typed k hk
  have h1 : w.heap[k]? = _ := h1
  rw [h1] at h4
  have e := Option.some.inj h4
  injection e with _ e _
  exact absurd e (by decide)
/-- Its own lane and the program's are apart. -/
theorem Lp.apart {l c room2 : Nat} {hs : List FrV} (k : Lp w l c room2 hs) (h : Lm w lo m room r fs) : ¬ (l = m ∨ r = some l) ∧ ¬ (c = m ∨ r = some c) := by
  refine ⟨fun e => ?_, fun e => ?_⟩
  · exact h.nob l _ _ e (by decide) (by decide) _ k.own
  · obtain ⟨s, q, h2⟩ := k.ch
    exact h.noch c e _ _ _ _ _ _ h2
theorem Lm.far {l c room2 : Nat} {hs : List FrV} (h : Lm w lo m room r fs) (k : Lp w l c room2 hs) : ¬ m = c ∧ ∀ x, r = some x → ¬ x = c :=
  ⟨fun e => (k.apart h).2 (.inl e.symm), fun x hx e => (k.apart h).2 (.inr (by rw [← e]; exact hx))⟩
/-- append in a region that draws its order, where its run is known. -/
theorem op_run_append {o : Oper} {a : Act} {K : Act → World → Prop} {Q : Exit → Act → World → Prop} {t : TypeId} {w w' : World} (s x : Operand) (ho : o.op = .call { callee := .builtin .append, args := #[s, x], argTypes := #[t, t] }) {v u y : Value} (hs : a.eval s = v) (hx : a.eval x = u)
    (hrun : (Builtin.append_ #[t, t] o.type #[v, u]).run Try.prog w = .ok y w') (h : K (a.put o.dst y) w') : o.wp Try.prog a w K Q := by
  unfold Oper.wp execOp
  simp only [ho, resolve, invoke, builtin, Sem.run_bind, Sem.run_pure, Result.andThen_ok, List.map_toArray, List.map_cons, List.map_nil, hs, hx, hrun]
  exact h
set_option maxRecDepth 100000 in
theorem mnewL_yes (w : World) (n : Int) (h : 1 ≤ n ∧ n ≤ 64) : Calls Try.prog 24 #[.int .i64 n] w fun e w' => ∃ m, e = .returned (.tuple #[.pointer (some ⟨m, 0, none⟩), .int .i64 0]) ∧ Lm w' w.heap.size m n.toNat none [] ∧ Below w.heap.size w w' := by
  obtain ⟨k, rfl⟩ : ∃ k : Nat, n = k := ⟨n.toNat, by omega⟩
  have hV := Kp.mk (Vb.new 103 w [.int .i64 k, .slice none 0 0])
  have hB := Kp.mk (below_alloc w (.cells #[.int .i64 k, .slice none 0 0] 103))
  have HK := Kp.mk (show k ≤ 64 by omega)
  have h1 : ¬ (k : Int) < 1 := by omega
  have h2 : ¬ (64 : Int) < k := by omega
  clear h
  go_enter Try.func24, Try.ntmps24
  go_wp2_with fail
  go_ret2
  exact ⟨w.heap.size, rfl, ⟨Nat.le_refl _, ⟨.slice none 0 0, by simpa using hV.out, Orw.nil0 _ _, rfl⟩, by simp, by simpa using HK.out⟩, hB.out⟩
set_option maxRecDepth 100000 in
theorem mnewL_no (w : World) (n : Int) (h : ¬ (1 ≤ n ∧ n ≤ 64)) : Calls Try.prog 24 #[.int .i64 n] w fun e w' => e = .returned (.tuple #[.pointer none, .int .i64 2]) ∧ w' = w := by
  by_cases h1 : n < 1
  · clear h
    go_enter Try.func24, Try.ntmps24
    go_wp2_with fail
    go_ret2
    exact ⟨rfl, rfl⟩
  · have h2 : (64 : Int) < n := by omega
    clear h
    go_enter Try.func24, Try.ntmps24
    go_wp2_with fail
    go_ret2
    exact ⟨rfl, rfl⟩
/-- Is there a frame i? -/
def thereB (n : Nat) (i : Int) : Bool := decide (0 ≤ i ∧ i < n)
set_option maxRecDepth 100000 in
theorem mthere_any (h : Lm w lo m room r fs) (i : Int) : Calls Try.prog 75 #[.pointer (some ⟨m, 0, none⟩), .int .i64 i] w fun e w' => e = .returned (.bool (thereB fs.length i)) ∧ w' = w := by
  obtain ⟨v, h1, h2, h3⟩ := h.ex
  obtain ⟨A, n, rfl, -⟩ := h2.form
  have c1 := h1.cell 1 rfl
  clear h h1 h2 h3
  generalize fs.length = k at *
  by_cases h0 : 0 ≤ i
  · by_cases h4 : i < k
    · rw [show thereB k i = true from decide_eq_true ⟨h0, h4⟩]
      go_enter Try.func75, Try.ntmps75
      go_wp2_with fail
      go_ret
      exact ⟨by simp [h4], rfl⟩
    · rw [show thereB k i = false from decide_eq_false (fun e => h4 e.2)]
      go_enter Try.func75, Try.ntmps75
      go_wp2_with fail
      go_ret
      exact ⟨by simp [h4], rfl⟩
  · rw [show thereB k i = false from decide_eq_false (fun e => h0 e.1)]
    go_enter Try.func75, Try.ntmps75
    go_wp2_with fail
    go_ret
    exact ⟨rfl, rfl⟩
set_option maxRecDepth 100000 in
theorem mclear_any (h : Lm w lo m room r fs) : Calls Try.prog 39 #[.pointer (some ⟨m, 0, none⟩)] w fun e w' => e = .returned (.int .i64 fs.length) ∧ Lm w' lo m room none [] ∧ Ch (fun k => k = m) w w' := by
  obtain ⟨v, h1, h2, h3⟩ := h.ex
  have hp := Kp.mk (h.put (v := .slice none 0 0) (gs := []) (Orw.nil0 _ _) (Nat.zero_le _))
  obtain ⟨A, n, rfl, -⟩ := h2.form
  have c1 := h1.cell 1 rfl
  have hf := h1.free
  clear h h1 h2 h3
  generalize fs.length = k at *
  go_enter Try.func39, Try.ntmps39
  go_wp2_with fail
  go_ret
  exact ⟨rfl, hp.out.1, hp.out.2⟩
set_option maxRecDepth 100000 in
set_option maxHeartbeats 4000000 in
theorem without_any (h : Lm w lo m room r (a ++ f :: b)) : Calls Try.prog 72 #[.pointer (some ⟨m, 0, none⟩), .int .i64 a.length] w fun e w' => ∃ A c, e = .returned (.slice A (a.length + b.length) c) ∧ Orw w' w.heap.size (.slice A (a.length + b.length) c) (a.length + b.length) (a ++ b) ∧ Below w.heap.size w w' := by
  obtain ⟨v, h1, h2, h3⟩ := h.ex
  obtain ⟨A, c, rfl, hnc, hcm, -, hA⟩ := h2.form
  have hrr := h2.rr
  have hlen := hrr.len
  have hfit := h.fit
  obtain ⟨g, off, rfl, hg, hcell⟩ := hrr.at_ (by simp; omega)
  obtain ⟨g2, e2, -⟩ := hA _ rfl
  injection e2 with e3 e4 e5
  clear e5
  subst e3 e4
  have c1 := h1.cell 1 rfl
  have hjk : (a ++ f :: b).length = a.length + 1 + b.length := by simp; omega
  generalize hn : (a ++ f :: b).length = n at *
  generalize hk : a.length = k at *
  generalize hj : b.length = j at *
  have hr1 := hrr.fore k (by omega)
  rw [List.take_append_of_le_length (by omega), List.take_of_length_le (by omega)] at hr1
  obtain ⟨A1, m1, w1, hrun1, hO1, hC1, hN1⟩ := run_appendF 75 (Orw.nil0 w w.heap.size) hr1 (by omega) (Nat.le_refl _)
  rw [Nat.zero_add] at *
  rw [List.nil_append] at *
  have hb1 : Below w.heap.size w w1 := hC1.below (fun x e => by simp [Value.ownBlock] at e) (Nat.le_refl _)
  obtain rfl : j = n - (k + 1) := by omega
  have hr2 : Rr w1 w1.heap.size (some ⟨g, k + 1, none⟩) (n - (k + 1)) (c - (k + 1)) b := ⟨hj, by omega, by omega, fun e => by simp at e, fun hjn => ⟨g, k + 1, rfl, by have := hb1.size; omega, fun i u hi => by
    rw [hb1.cell (p := ⟨g, _, none⟩) hg, ← Nat.zero_add (k + 1 + i)]
    refine hcell (k + 1 + i) u ?_
    rw [List.getElem?_append_right (by omega), show k + 1 + i - a.length = i + 1 by omega, List.getElem?_cons_succ]
    exact hi⟩⟩
  have hr3 : c = k + 1 → Rr w1 w1.heap.size (some ⟨g, 0, none⟩) (n - (k + 1)) 0 b := fun e => ⟨hj, by omega, Nat.zero_le _, fun e => by simp at e, fun h => absurd h (by omega)⟩
  have d1 : w1.cell? ⟨m, 1, none⟩ = some (.slice (some ⟨g, 0, none⟩) n c) := (hb1.cell (p := ⟨m, 1, none⟩) h1.lt).trans c1
  have hfin : ∀ {A2 : Option Addr} {m2 : Nat} {w2 : World}, Orw w2 w.heap.size (.slice A2 (k + (n - (k + 1))) m2) (k + (n - (k + 1))) (a ++ b) → Ch (fun x => (Value.slice A1 k m1).ownBlock = some x) w1 w2 → Below w.heap.size w w2 := fun _ hc => hb1.trans (hc.below (fun x e => (hO1.lt x e).1) hb1.size)
  have HF := Kp.mk @hfin
  have HJ := Kp.mk hjk
  have hk1 : (k : Int) ≤ c ∧ ((k : Int) + 1) ≤ n ∧ (n : Int) ≤ c ∧ (k : Int) ≤ 64 := by omega
  have hsz : k + (n - (k + 1)) ≤ 1000000000 := by omega
  clear h h1 h2 h3 hrr hA hcell hr1 hC1 hN1 hfin hk hj hn hlen hjk hfit hcm
  by_cases hc : c = k + 1
  · have hr4 := hr3 hc
    obtain rfl : n = k + 1 := by omega
    subst hc
    clear hr3 hr2
    simp only [Nat.sub_self, Nat.add_zero] at *
    obtain ⟨A2, m2, w2, hrun2, hO2, hC2, hN2⟩ := run_appendF 75 hO1 hr4 (by omega) hb1.size
    simp only [Nat.add_zero] at *
    have HO2 := Kp.mk hO2
    have HC2 := Kp.mk hC2
    clear hr4 hO1 hb1 hO2 hC2 hN2 hsz
    go_enter Try.func72, Try.ntmps72
    go_upto_region 3 with (at_builtin; refine Lib.wpList_append_run _ rfl _ _ _ _ rfl _ _ rfl rfl _ _ hrun1 ?_)
    clear hrun1 c1
    go_wp2_with (at_builtin; refine Lib.wpList_append_run _ rfl _ _ _ _ rfl _ _ rfl rfl _ _ hrun2 ?_)
    go_ret
    exact ⟨A2, m2, rfl, HO2.out, HF.out HO2.out HC2.out⟩
  · obtain ⟨A2, m2, w2, hrun2, hO2, hC2, hN2⟩ := run_appendF 75 hO1 hr2 hsz hb1.size
    have HO2 := Kp.mk hO2
    have HC2 := Kp.mk hC2
    have hc2 : (k : Int) + 1 < c := by omega
    clear hr2 hr3 hO1 hb1 hO2 hC2 hN2 hsz
    go_enter Try.func72, Try.ntmps72
    go_upto_region 3 with (at_builtin; refine Lib.wpList_append_run _ rfl _ _ _ _ rfl _ _ rfl rfl _ _ hrun1 ?_)
    clear hrun1 c1
    go_wp2_with (at_builtin; refine Lib.wpList_append_run _ rfl _ _ _ _ rfl _ _ rfl rfl _ _ hrun2 ?_)
    go_ret
    exact ⟨A2, m2, rfl, HO2.out, HF.out HO2.out HC2.out⟩
theorem copyF_any {w : World} {B n c : Nat} {A : Option Addr} {bs : List Int} (hr : Rd .u8 w B A n c bs) (hn : n ≤ 512) (hby : By bs) : Calls Try.prog 25 #[.slice A n c] w fun e w' => ∃ g : FrV, e = .returned (.slice g.A g.n g.c) ∧ g.l = bs ∧ g.n = n ∧ Fok (fun b => w.heap.size ≤ b) w' g ∧ Below w.heap.size w w' := by
  refine (copyBytes_any hr (by omega)).mono ?_
  rintro e w' ⟨A1, n1, c1, rfl, hown, hb⟩
  have hl1 : n1 = n := by have := hown.len; have := hr.len; omega
  subst hl1
  exact ⟨⟨A1, n1, c1, bs⟩, rfl, rfl, rfl, Fok.of_own hown hn hby, hb⟩
set_option maxRecDepth 100000 in
set_option maxHeartbeats 4000000 in
theorem mput_any (h : Lm w lo m room r fs) {B n c : Nat} {A : Option Addr} {bs : List Int} (hr : Rd .u8 w B A n c bs) (hB : B ≤ w.heap.size) (hby : By bs) : Calls Try.prog 28 #[.pointer (some ⟨m, 0, none⟩), .slice A n c] w fun e w' =>
    e = .returned (.int .i64 (putE n fs.length room)) ∧ Ch (fun k => k = m ∨ r = some k) w w' ∧ (putE n fs.length room = 0 → ∃ (r' : Option Nat) (g : FrV), g.l = bs ∧ Fok (fun b => w.heap.size ≤ b) w' g ∧ Lm w' lo m room r' (fs ++ [g])) ∧ (putE n fs.length room ≠ 0 → Lm w' lo m room r fs) := by
  obtain ⟨v, h1, h2, h3⟩ := h.ex
  obtain ⟨A0, c0, rfl, hnc, hcm, -, -⟩ := h2.form
  have k0 := h1.cell 0 rfl
  have k1 := h1.cell 1 rfl
  have hfit := h.fit
  have hlt := h.lt
  have hl := hr.len
  have H0 := Kp.mk h
  clear h
  generalize hn0 : fs.length = n0 at *
  by_cases h5 : (512 : Int) < n
  · have HE : putE n n0 room = 5 := if_pos (by omega)
    rw [HE]
    clear HE h1 h2 h3 hr hn0 hl hfit hlt
    go_enter Try.func28, Try.ntmps28
    go_wp2_with fail
    go_ret
    exact ⟨rfl, Ch.refl _ _, fun h => absurd h (by decide), fun _ => H0.out⟩
  · by_cases h7 : (room : Int) ≤ n0
    · have HE : putE n n0 room = 7 := by unfold putE; rw [if_neg (by omega), if_pos (by omega)]
      rw [HE]
      clear HE h1 h2 h3 hr hn0 hl hfit hlt
      go_enter Try.func28, Try.ntmps28
      go_wp2_with fail
      go_quiet (fail)
      go_wp2_with fail
      go_ret
      exact ⟨rfl, (Ch.refl _ _).drewN _, fun h => absurd h (by decide), fun _ => H0.out.below (below_drewN (Below.refl _ _) _)⟩
    · have HE : putE n n0 room = 0 := by unfold putE; rw [if_neg (by omega), if_neg (by omega)]
      rw [HE]
      have H1 := Kp.mk h1
      have H2 := Kp.mk h2
      have H3 := Kp.mk h3
      have HR := Kp.mk hr
      have HL := Kp.mk (show n0 < room ∧ room ≤ 64 ∧ lo ≤ m ∧ bs.length = n ∧ n ≤ 512 ∧ fs.length = n0 ∧ lo ≤ w.heap.size from by have := h1.lt; omega)
      clear HE h1 h2 h3 hr hn0 hl hfit hlt hnc hcm
      go_enter Try.func28, Try.ntmps28
      go_wp2_with fail
      go_quiet (fail)
      clear k0 k1
      go_upto_region 5 with fail
      refine wp_region_held_drew (S := fun _ => True) (by kernel_rfl) trivial (fun hS0 => ?_)
      have hb0 : Below w.heap.size w (w.drewN nq).drew := (below_drewN (Below.refl _ _) nq).drew
      generalize (w.drewN nq).drew = u at *
      have hV := H1.out.below hb0 H1.out.lt
      have hO := H2.out.below hb0
      have hR := HR.out.below' hb0 hB
      refine takeD (i := 0) (v := .pointer (some ⟨m, 0, none⟩)) (some 18) rfl rfl (by kernel_rfl) (by kernel_rfl) (by kernel_rfl) (fun _ _ _ h => h) (Or.inl ⟨by rfl, ?_⟩) hS0 ?_
      · rintro w' _
        go_simp
      try simp only [Act.put, List.setIfInBounds_toArray, List.set_cons_zero, List.set_cons_succ]
      refine takeD (i := 1) (v := .pointer (some ⟨m, 0, none⟩)) (some 19) rfl rfl (by kernel_rfl) (by kernel_rfl) (by kernel_rfl) (fun _ _ _ h => h) (Or.inl ⟨by rfl, ?_⟩) hS0 ?_
      · rintro w' _
        go_simp
      try simp only [Act.put, List.setIfInBounds_toArray, List.set_cons_zero, List.set_cons_succ]
      refine takeD (i := 2) (v := .pointer (some ⟨m, 0, none⟩)) (some 20) rfl rfl (by kernel_rfl) (by kernel_rfl) (by kernel_rfl) (fun _ _ _ h => h) (Or.inl ⟨by rfl, ?_⟩) hS0 ?_
      · rintro w' _
        go_simp
      try simp only [Act.put, List.setIfInBounds_toArray, List.set_cons_zero, List.set_cons_succ]
      refine takeD (i := 3) (v := .pointer (some ⟨m, 1, none⟩)) (some 21) rfl rfl (by kernel_rfl) (by kernel_rfl) (by kernel_rfl) (fun _ _ _ h => h) (Or.inl ⟨by rfl, ?_⟩) hS0 ?_
      · rintro w' _
        go_simp
      try simp only [Act.put, List.setIfInBounds_toArray, List.set_cons_zero, List.set_cons_succ]
      refine takeD (i := 5) (v := .slice A n c) (some 23) rfl rfl (by kernel_rfl) (by kernel_rfl) (by kernel_rfl) (fun _ _ _ h => h) (Or.inl ⟨by rfl, ?_⟩) hS0 ?_
      · rintro w' _
        go_simp
      try simp only [Act.put, List.setIfInBounds_toArray, List.set_cons_zero, List.set_cons_succ]
      refine wpAnyH_ready (rs := [4, 6]) (by kernel_rfl) (by simp) ?_
      refine AllReadyH.cons rfl (fun K hK => ?_) (AllReadyH.cons rfl (fun K hK => ?_) AllReadyH.nil)
      · skip
        try rw [if_pos (by rfl)]
        have k1 := hV.cell 1 rfl
        go_simp
        refine hK.out _ _ trivial (fun _ => ?_)
        clear hK K k1
        try simp only [Act.put, List.setIfInBounds_toArray, List.set_cons_zero, List.set_cons_succ]
        refine wpAnyH_ready (rs := [6]) (by kernel_rfl) (by simp) ?_
        refine AllReadyH.cons rfl (fun K hK => ?_) AllReadyH.nil
        try rw [if_pos (by rfl)]
        go_simp
        go_at_call 25
        refine (copyF_any hR (by omega) hby).mono ?_
        rintro e u1 ⟨g, rfl, hgl, hgn, hown, hb1⟩
        have hz1 := Nat.le_trans hb0.size hb1.size
        have HGL := Kp.mk hgl
        have HG1 := Kp.mk (hown.imp (Q := fun b => w.heap.size ≤ b) (fun b _ h => Nat.le_trans hb0.size h))
        have hV := hV.below hb1 hV.lt
        have hO := hO.below hb1
        have hb0 := hb0.trans (hb1.mono hb0.size)
        clear hown hb1 hR hgl hgn
        refine hK.out _ _ trivial (fun _ => ?_)
        clear hK K
        try simp only [Act.put, List.setIfInBounds_toArray, List.set_cons_zero, List.set_cons_succ]
        refine wpAnyH_ready (rs := [7]) (by kernel_rfl) (by simp) ?_
        refine AllReadyH.cons rfl (fun K hK => ?_) AllReadyH.nil
        try rw [if_pos (by rfl)]
        go_simp
        have hb1 := below_alloc u1 (.cells #[.slice g.A g.n g.c] 60)
        have hlit := rr_lit u1 [g] (B := (u1.alloc (.cells #[.slice g.A g.n g.c] 60)).heap.size) (by simp) (by simp)
        have HG2 := Kp.mk (HG1.out.below hb1)
        have hV := hV.below hb1 hV.lt
        have hO := hO.below hb1
        have hb0 := hb0.trans (hb1.mono hz1)
        clear hb1 HG1
        refine hK.out _ _ trivial (fun _ => ?_)
        clear hK K
        try simp only [Act.put, List.setIfInBounds_toArray, List.set_cons_zero, List.set_cons_succ]
        obtain ⟨gl, hgl⟩ : ∃ gl, gl = u1.heap.size := ⟨_, rfl⟩
        have hlit : Rr (u1.alloc (.cells #[.slice g.A g.n g.c] 60)) (u1.alloc (.cells #[.slice g.A g.n g.c] 60)).heap.size (some ⟨gl, 0, none⟩) 1 1 [g] := by rw [hgl]; exact hlit
        rw [← hgl]
        clear hgl hz1
        generalize u1.alloc (.cells #[.slice g.A g.n g.c] 60) = u2 at *
        refine wpAnyH_ready (rs := [8]) (by kernel_rfl) (by simp) ?_
        refine AllReadyH.cons rfl (fun K hK => ?_) AllReadyH.nil
        try rw [if_pos (by rfl)]
        obtain ⟨A2, c2, u3, hrun, hO2, hC3, -⟩ := run_appendF 75 hO hlit (by have := HL.out; omega) (by have := HL.out; have := hb0.size; omega)
        have HG := Kp.mk (HG2.out.stay hC3 (fun b cs m2 _ _ hb e => row_nocell hO b cs m2 e hb))
        have hmr : ¬ (Value.slice A0 n0 c0).ownBlock = some m := fun e => by
          obtain ⟨cur, h4⟩ := hO.typed m e
          rw [show u2.heap[m]? = _ from hV] at h4
          have e := Option.some.inj h4
          injection e with _ e _
          exact absurd e (by decide)
        have hV : Vb 103 u3 m [.int .i64 room, .slice A0 n0 c0] := (hC3.block m hV.lt hmr).trans hV
        have HC := Kp.mk (show Ch (fun k => k = m ∨ r = some k) w u3 from (Ch.of_below (S := fun k => k = m ∨ r = some k) hb0).trans hC3 (fun x _ e => .inr (by rw [← H3.out]; exact e)))
        have HNB := Kp.mk (show ∀ b, b = m → ∀ cs m2, u3.heap[b]? ≠ some (.cells cs 5 m2) from by
          rintro b rfl cs m2 e
          rw [show u3.heap[b]? = _ from hV] at e
          have e := Option.some.inj e
          injection e with _ e _
          exact absurd e (by decide))
        clear hC3 hlit hO hmr HG2
        refine op_run_append (.tmp 22) (.tmp 25) rfl rfl rfl hrun (hK.out _ _ trivial (fun _ => ?_))
        clear hK K hrun
        try simp only [Act.put, List.setIfInBounds_toArray, List.set_cons_zero, List.set_cons_succ]
        refine takeD (i := 9) (v := .pointer (some ⟨m, 0, none⟩)) (some 27) rfl rfl (by kernel_rfl) (by kernel_rfl) (by kernel_rfl) (fun _ _ _ h => h) (Or.inl ⟨by rfl, ?_⟩) hS0 ?_
        · rintro w' _
          go_simp
        try simp only [Act.put, List.setIfInBounds_toArray, List.set_cons_zero, List.set_cons_succ]
        refine takeD (i := 10) (v := .pointer (some ⟨m, 1, none⟩)) (some 28) rfl rfl (by kernel_rfl) (by kernel_rfl) (by kernel_rfl) (fun _ _ _ h => h) (Or.inl ⟨by rfl, ?_⟩) hS0 ?_
        · rintro w' _
          go_simp
        try simp only [Act.put, List.setIfInBounds_toArray, List.set_cons_zero, List.set_cons_succ]
        refine wpAnyH_ready (rs := [11]) (by kernel_rfl) (by simp) ?_
        refine AllReadyH.cons rfl (fun K hK => ?_) AllReadyH.nil
        try rw [if_pos (by rfl)]
        have k1 := hV.cell 1 rfl
        have hf := hV.free 1
        have HPUT := Kp.mk (Lm.putV hV HL.out.2.2.1 HL.out.2.1 hO2 (by have := HL.out; simp; omega))
        clear hV
        go_simp
        refine hK.out _ _ trivial (fun _ => ?_)
        clear hK K k1 hf
        try simp only [Act.put, List.setIfInBounds_toArray, List.set_cons_zero, List.set_cons_succ]
        refine wpAnyH_done (by kernel_rfl) ?_ _
        go_wp2_with fail
        go_ret
        have hA := HC.out.trans HPUT.out.2 (fun x _ e => .inl e)
        have hB2 := HG.out.stay HPUT.out.2 (fun b cs m2 _ _ hb e => HNB.out b e cs m2 hb)
        have hC2 := HPUT.out.1
        exact ⟨rfl, hA, fun _ => ⟨_, g, HGL.out, hB2, hC2⟩, fun h => absurd rfl h⟩
      · skip
        try rw [if_pos (by rfl)]
        go_simp
        go_at_call 25
        refine (copyF_any hR (by omega) hby).mono ?_
        rintro e u1 ⟨g, rfl, hgl, hgn, hown, hb1⟩
        have hz1 := Nat.le_trans hb0.size hb1.size
        have HGL := Kp.mk hgl
        have HG1 := Kp.mk (hown.imp (Q := fun b => w.heap.size ≤ b) (fun b _ h => Nat.le_trans hb0.size h))
        have hV := hV.below hb1 hV.lt
        have hO := hO.below hb1
        have hb0 := hb0.trans (hb1.mono hb0.size)
        clear hown hb1 hR hgl hgn
        refine hK.out _ _ trivial (fun _ => ?_)
        clear hK K
        try simp only [Act.put, List.setIfInBounds_toArray, List.set_cons_zero, List.set_cons_succ]
        refine wpAnyH_ready (rs := [4, 7]) (by kernel_rfl) (by simp) ?_
        refine AllReadyH.cons rfl (fun K hK => ?_) (AllReadyH.cons rfl (fun K hK => ?_) AllReadyH.nil)
        · skip
          try rw [if_pos (by rfl)]
          have k1 := hV.cell 1 rfl
          go_simp
          refine hK.out _ _ trivial (fun _ => ?_)
          clear hK K k1
          try simp only [Act.put, List.setIfInBounds_toArray, List.set_cons_zero, List.set_cons_succ]
          refine wpAnyH_ready (rs := [7]) (by kernel_rfl) (by simp) ?_
          refine AllReadyH.cons rfl (fun K hK => ?_) AllReadyH.nil
          try rw [if_pos (by rfl)]
          go_simp
          have hb1 := below_alloc u1 (.cells #[.slice g.A g.n g.c] 60)
          have hlit := rr_lit u1 [g] (B := (u1.alloc (.cells #[.slice g.A g.n g.c] 60)).heap.size) (by simp) (by simp)
          have HG2 := Kp.mk (HG1.out.below hb1)
          have hV := hV.below hb1 hV.lt
          have hO := hO.below hb1
          have hb0 := hb0.trans (hb1.mono hz1)
          clear hb1 HG1
          refine hK.out _ _ trivial (fun _ => ?_)
          clear hK K
          try simp only [Act.put, List.setIfInBounds_toArray, List.set_cons_zero, List.set_cons_succ]
          obtain ⟨gl, hgl⟩ : ∃ gl, gl = u1.heap.size := ⟨_, rfl⟩
          have hlit : Rr (u1.alloc (.cells #[.slice g.A g.n g.c] 60)) (u1.alloc (.cells #[.slice g.A g.n g.c] 60)).heap.size (some ⟨gl, 0, none⟩) 1 1 [g] := by rw [hgl]; exact hlit
          rw [← hgl]
          clear hgl hz1
          generalize u1.alloc (.cells #[.slice g.A g.n g.c] 60) = u2 at *
          refine wpAnyH_ready (rs := [8]) (by kernel_rfl) (by simp) ?_
          refine AllReadyH.cons rfl (fun K hK => ?_) AllReadyH.nil
          try rw [if_pos (by rfl)]
          obtain ⟨A2, c2, u3, hrun, hO2, hC3, -⟩ := run_appendF 75 hO hlit (by have := HL.out; omega) (by have := HL.out; have := hb0.size; omega)
          have HG := Kp.mk (HG2.out.stay hC3 (fun b cs m2 _ _ hb e => row_nocell hO b cs m2 e hb))
          have hmr : ¬ (Value.slice A0 n0 c0).ownBlock = some m := fun e => by
            obtain ⟨cur, h4⟩ := hO.typed m e
            rw [show u2.heap[m]? = _ from hV] at h4
            have e := Option.some.inj h4
            injection e with _ e _
            exact absurd e (by decide)
          have hV : Vb 103 u3 m [.int .i64 room, .slice A0 n0 c0] := (hC3.block m hV.lt hmr).trans hV
          have HC := Kp.mk (show Ch (fun k => k = m ∨ r = some k) w u3 from (Ch.of_below (S := fun k => k = m ∨ r = some k) hb0).trans hC3 (fun x _ e => .inr (by rw [← H3.out]; exact e)))
          have HNB := Kp.mk (show ∀ b, b = m → ∀ cs m2, u3.heap[b]? ≠ some (.cells cs 5 m2) from by
            rintro b rfl cs m2 e
            rw [show u3.heap[b]? = _ from hV] at e
            have e := Option.some.inj e
            injection e with _ e _
            exact absurd e (by decide))
          clear hC3 hlit hO hmr HG2
          refine op_run_append (.tmp 22) (.tmp 25) rfl rfl rfl hrun (hK.out _ _ trivial (fun _ => ?_))
          clear hK K hrun
          try simp only [Act.put, List.setIfInBounds_toArray, List.set_cons_zero, List.set_cons_succ]
          refine takeD (i := 9) (v := .pointer (some ⟨m, 0, none⟩)) (some 27) rfl rfl (by kernel_rfl) (by kernel_rfl) (by kernel_rfl) (fun _ _ _ h => h) (Or.inl ⟨by rfl, ?_⟩) hS0 ?_
          · rintro w' _
            go_simp
          try simp only [Act.put, List.setIfInBounds_toArray, List.set_cons_zero, List.set_cons_succ]
          refine takeD (i := 10) (v := .pointer (some ⟨m, 1, none⟩)) (some 28) rfl rfl (by kernel_rfl) (by kernel_rfl) (by kernel_rfl) (fun _ _ _ h => h) (Or.inl ⟨by rfl, ?_⟩) hS0 ?_
          · rintro w' _
            go_simp
          try simp only [Act.put, List.setIfInBounds_toArray, List.set_cons_zero, List.set_cons_succ]
          refine wpAnyH_ready (rs := [11]) (by kernel_rfl) (by simp) ?_
          refine AllReadyH.cons rfl (fun K hK => ?_) AllReadyH.nil
          try rw [if_pos (by rfl)]
          have k1 := hV.cell 1 rfl
          have hf := hV.free 1
          have HPUT := Kp.mk (Lm.putV hV HL.out.2.2.1 HL.out.2.1 hO2 (by have := HL.out; simp; omega))
          clear hV
          go_simp
          refine hK.out _ _ trivial (fun _ => ?_)
          clear hK K k1 hf
          try simp only [Act.put, List.setIfInBounds_toArray, List.set_cons_zero, List.set_cons_succ]
          refine wpAnyH_done (by kernel_rfl) ?_ _
          go_wp2_with fail
          go_ret
          have hA := HC.out.trans HPUT.out.2 (fun x _ e => .inl e)
          have hB2 := HG.out.stay HPUT.out.2 (fun b cs m2 _ _ hb e => HNB.out b e cs m2 hb)
          have hC2 := HPUT.out.1
          exact ⟨rfl, hA, fun _ => ⟨_, g, HGL.out, hB2, hC2⟩, fun h => absurd rfl h⟩
        · skip
          try rw [if_pos (by rfl)]
          go_simp
          have hb1 := below_alloc u1 (.cells #[.slice g.A g.n g.c] 60)
          have hlit := rr_lit u1 [g] (B := (u1.alloc (.cells #[.slice g.A g.n g.c] 60)).heap.size) (by simp) (by simp)
          have HG2 := Kp.mk (HG1.out.below hb1)
          have hV := hV.below hb1 hV.lt
          have hO := hO.below hb1
          have hb0 := hb0.trans (hb1.mono hz1)
          clear hb1 HG1
          refine hK.out _ _ trivial (fun _ => ?_)
          clear hK K
          try simp only [Act.put, List.setIfInBounds_toArray, List.set_cons_zero, List.set_cons_succ]
          obtain ⟨gl, hgl⟩ : ∃ gl, gl = u1.heap.size := ⟨_, rfl⟩
          have hlit : Rr (u1.alloc (.cells #[.slice g.A g.n g.c] 60)) (u1.alloc (.cells #[.slice g.A g.n g.c] 60)).heap.size (some ⟨gl, 0, none⟩) 1 1 [g] := by rw [hgl]; exact hlit
          rw [← hgl]
          clear hgl hz1
          generalize u1.alloc (.cells #[.slice g.A g.n g.c] 60) = u2 at *
          refine wpAnyH_ready (rs := [4]) (by kernel_rfl) (by simp) ?_
          refine AllReadyH.cons rfl (fun K hK => ?_) AllReadyH.nil
          try rw [if_pos (by rfl)]
          have k1 := hV.cell 1 rfl
          go_simp
          refine hK.out _ _ trivial (fun _ => ?_)
          clear hK K k1
          try simp only [Act.put, List.setIfInBounds_toArray, List.set_cons_zero, List.set_cons_succ]
          refine wpAnyH_ready (rs := [8]) (by kernel_rfl) (by simp) ?_
          refine AllReadyH.cons rfl (fun K hK => ?_) AllReadyH.nil
          try rw [if_pos (by rfl)]
          obtain ⟨A2, c2, u3, hrun, hO2, hC3, -⟩ := run_appendF 75 hO hlit (by have := HL.out; omega) (by have := HL.out; have := hb0.size; omega)
          have HG := Kp.mk (HG2.out.stay hC3 (fun b cs m2 _ _ hb e => row_nocell hO b cs m2 e hb))
          have hmr : ¬ (Value.slice A0 n0 c0).ownBlock = some m := fun e => by
            obtain ⟨cur, h4⟩ := hO.typed m e
            rw [show u2.heap[m]? = _ from hV] at h4
            have e := Option.some.inj h4
            injection e with _ e _
            exact absurd e (by decide)
          have hV : Vb 103 u3 m [.int .i64 room, .slice A0 n0 c0] := (hC3.block m hV.lt hmr).trans hV
          have HC := Kp.mk (show Ch (fun k => k = m ∨ r = some k) w u3 from (Ch.of_below (S := fun k => k = m ∨ r = some k) hb0).trans hC3 (fun x _ e => .inr (by rw [← H3.out]; exact e)))
          have HNB := Kp.mk (show ∀ b, b = m → ∀ cs m2, u3.heap[b]? ≠ some (.cells cs 5 m2) from by
            rintro b rfl cs m2 e
            rw [show u3.heap[b]? = _ from hV] at e
            have e := Option.some.inj e
            injection e with _ e _
            exact absurd e (by decide))
          clear hC3 hlit hO hmr HG2
          refine op_run_append (.tmp 22) (.tmp 25) rfl rfl rfl hrun (hK.out _ _ trivial (fun _ => ?_))
          clear hK K hrun
          try simp only [Act.put, List.setIfInBounds_toArray, List.set_cons_zero, List.set_cons_succ]
          refine takeD (i := 9) (v := .pointer (some ⟨m, 0, none⟩)) (some 27) rfl rfl (by kernel_rfl) (by kernel_rfl) (by kernel_rfl) (fun _ _ _ h => h) (Or.inl ⟨by rfl, ?_⟩) hS0 ?_
          · rintro w' _
            go_simp
          try simp only [Act.put, List.setIfInBounds_toArray, List.set_cons_zero, List.set_cons_succ]
          refine takeD (i := 10) (v := .pointer (some ⟨m, 1, none⟩)) (some 28) rfl rfl (by kernel_rfl) (by kernel_rfl) (by kernel_rfl) (fun _ _ _ h => h) (Or.inl ⟨by rfl, ?_⟩) hS0 ?_
          · rintro w' _
            go_simp
          try simp only [Act.put, List.setIfInBounds_toArray, List.set_cons_zero, List.set_cons_succ]
          refine wpAnyH_ready (rs := [11]) (by kernel_rfl) (by simp) ?_
          refine AllReadyH.cons rfl (fun K hK => ?_) AllReadyH.nil
          try rw [if_pos (by rfl)]
          have k1 := hV.cell 1 rfl
          have hf := hV.free 1
          have HPUT := Kp.mk (Lm.putV hV HL.out.2.2.1 HL.out.2.1 hO2 (by have := HL.out; simp; omega))
          clear hV
          go_simp
          refine hK.out _ _ trivial (fun _ => ?_)
          clear hK K k1 hf
          try simp only [Act.put, List.setIfInBounds_toArray, List.set_cons_zero, List.set_cons_succ]
          refine wpAnyH_done (by kernel_rfl) ?_ _
          go_wp2_with fail
          go_ret
          have hA := HC.out.trans HPUT.out.2 (fun x _ e => .inl e)
          have hB2 := HG.out.stay HPUT.out.2 (fun b cs m2 _ _ hb e => HNB.out b e cs m2 hb)
          have hC2 := HPUT.out.1
          exact ⟨rfl, hA, fun _ => ⟨_, g, HGL.out, hB2, hC2⟩, fun h => absurd rfl h⟩
set_option maxRecDepth 100000 in
theorem mtake_none (h : Lm w lo m room r []) : Calls Try.prog 30 #[.pointer (some ⟨m, 0, none⟩)] w fun e w' => e = .returned (.tuple #[.slice none 0 0, .bool false]) ∧ w' = w := by
  obtain ⟨v, h1, h2, h3⟩ := h.ex
  obtain ⟨A0, c0, rfl, -⟩ := h2.form
  have k1 := h1.cell 1 rfl
  have k1 : w.cell? ⟨m, 1, none⟩ = some (.slice A0 0 c0) := k1
  clear h h1 h2 h3
  go_enter Try.func30, Try.ntmps30
  go_wp2_with fail
  go_ret2
  exact ⟨rfl, rfl⟩
theorem Lm.wex (h : Lm w lo m room r fs) : ∃ A c, Vb 103 w m [.int .i64 room, .slice A fs.length c] ∧ Rr w w.heap.size A fs.length c fs ∧ Orw w lo (.slice A fs.length c) fs.length fs ∧ (Value.slice A fs.length c).ownBlock = r := by
  obtain ⟨v, h1, h2, h3⟩ := h.ex
  obtain ⟨A0, c0, rfl, -⟩ := h2.form
  exact ⟨A0, c0, h1, h2.rr, h2, h3⟩
/-- A row that was just made is put into it. -/
theorem Lm.made {v : Value} {w' : World} {n : Nat} (h : Lm w lo m room r fs) (hb : Below w.heap.size w w') (hv : Orw w' w.heap.size v n gs) (hg : gs.length ≤ room) : Lm (w'.setCell ⟨m, 1, none⟩ v) lo m room v.ownBlock gs ∧ Ch (fun k => k = m) w (w'.setCell ⟨m, 1, none⟩ v) := by
  obtain ⟨A, c, h1, -⟩ := h.wex
  have := Lm.putV (h1.below hb h1.lt) h.lt h.fit.2 (hv.lower (by have := h.lt; have := h1.lt; omega)) hg
  exact ⟨this.1, (Ch.of_below (S := fun k => k = m) hb).trans this.2 (fun _ _ e => e)⟩
set_option maxRecDepth 100000 in
theorem mtake_some (h : Lm w lo m room r (f :: fs)) : Calls Try.prog 30 #[.pointer (some ⟨m, 0, none⟩)] w fun e w' => e = .returned (.tuple #[f.val, .bool true]) ∧ Ch (fun k => k = m) w w' ∧ ∃ r', Lm w' lo m room r' fs := by
  obtain ⟨A, c, h1, h2, h4, -⟩ := h.wex
  obtain ⟨b, off, rfl, hlt, hc⟩ := h2.at_ (by simp)
  have e0 := hc 0 f rfl
  have k1 := h1.cell 1 rfl
  rw [Nat.add_zero] at e0
  have hw := without_any (a := []) (b := fs) h
  simp only [List.length_nil, Nat.zero_add, List.nil_append] at hw
  have H0 := Kp.mk h
  have H1 := Kp.mk h1
  have hfit := Kp.mk h.fit
  have hn1 : ¬ ((f :: fs).length : Int) = 0 := by simp; omega
  have hn2 : 0 < (f :: fs).length := by simp
  clear h h1 h2 h4 hc
  generalize (f :: fs).length = n at *
  rw [show f.val = .slice f.A f.n f.c from rfl] at *
  go_enter Try.func30, Try.ntmps30
  go_wp2_with fail
  refine hw.mono ?_
  rintro e w1 ⟨A1, c1, rfl, hO, hb⟩
  have d1 := (H1.out.below hb H1.out.lt).cell 1 rfl
  have df := (H1.out.below hb H1.out.lt).free
  have HM := Kp.mk (H0.out.made hb hO (by have := H0.out.fit; simp at this ⊢; omega))
  clear hw hO hb
  go_wp2_with fail
  go_ret2
  exact ⟨rfl, HM.out.2, _, HM.out.1⟩
set_option maxRecDepth 100000 in
theorem mdrop_any (h : Lm w lo m room r fs) (i : Int) : Calls Try.prog 33 #[.pointer (some ⟨m, 0, none⟩), .int .i64 i] w fun e w' => e = .returned (.int .i64 (placeE fs.length i)) ∧ Ch (fun k => k = m) w w' ∧ ∃ r', Lm w' lo m room r' (dropL fs i) := by
  have ht := mthere_any h i
  by_cases hi : 0 ≤ i ∧ i < fs.length
  · have HE : placeE fs.length i = 0 := if_pos hi
    have HT : thereB fs.length i = true := decide_eq_true hi
    rw [HT] at ht
    rw [HE]
    obtain ⟨a, f, b, rfl, hi2, -⟩ := part_at hi
    have HD := Kp.mk (show dropL (a ++ f :: b) i = a ++ b by rw [hi2, dropL_at])
    have hw := without_any h
    rw [← hi2] at hw
    obtain ⟨A, c, h1, -⟩ := h.wex
    have H0 := Kp.mk h
    have H1 := Kp.mk h1
    clear h h1 hi HE HT hi2
    go_enter Try.func33, Try.ntmps33
    go_wp2_with (first | (refine ht.mono ?_; rintro e w1 ⟨rfl, rfl⟩))
    refine hw.mono ?_
    rintro e w2 ⟨A1, c1, rfl, hO, hb⟩
    have d1 := (H1.out.below hb H1.out.lt).cell 1 rfl
    have df := (H1.out.below hb H1.out.lt).free
    have HM := Kp.mk (H0.out.made hb hO (by have := H0.out.fit; simp at this ⊢; omega))
    clear hw hO hb ht
    go_wp2_with fail
    go_ret
    exact ⟨rfl, HM.out.2, _, by rw [HD.out]; exact HM.out.1⟩
  · have HE : placeE fs.length i = 9 := if_neg hi
    have HT : thereB fs.length i = false := decide_eq_false hi
    rw [HT] at ht
    rw [HE]
    have HD := Kp.mk (show dropL fs i = fs from if_neg hi)
    have H0 := Kp.mk h
    clear h hi HE HT
    go_enter Try.func33, Try.ntmps33
    go_wp2_with (first | (refine ht.mono ?_; rintro e w1 ⟨rfl, rfl⟩))
    go_ret
    exact ⟨rfl, Ch.refl _ _, _, by rw [HD.out]; exact H0.out⟩
set_option maxRecDepth 100000 in
theorem mfront_any (h : Lm w lo m room r fs) (i : Int) : Calls Try.prog 37 #[.pointer (some ⟨m, 0, none⟩), .int .i64 i] w fun e w' => e = .returned (.int .i64 (placeE fs.length i)) ∧ Ch (fun k => k = m) w w' ∧ ∃ r', Lm w' lo m room r' (frontL fs i) := by
  have ht := mthere_any h i
  by_cases hi : 0 ≤ i ∧ i < fs.length
  · have HE : placeE fs.length i = 0 := if_pos hi
    have HT : thereB fs.length i = true := decide_eq_true hi
    rw [HT] at ht
    rw [HE]
    obtain ⟨A, c, h1, h2, -⟩ := h.wex
    obtain ⟨bb, off, rfl, hlt, hc⟩ := h2.at_ (by omega)
    have k1 := h1.cell 1 rfl
    obtain ⟨a, f, b, rfl, hi2, -, -, hat⟩ := part_at hi
    have e0 := hc i.toNat f hat
    have HD := Kp.mk (show frontL (a ++ f :: b) i = f :: (a ++ b) by rw [hi2, frontL_at])
    have hb0 := below_alloc w (.cells #[f.val] 60)
    have hw := without_any (h.below hb0)
    have H0 := Kp.mk h
    have H1 := Kp.mk h1
    have hO0 : Kp (Orw (w.alloc (.cells #[f.val] 60)) w.heap.size (.slice (some ⟨w.heap.size, 0, none⟩) 1 1) 1 [f]) := Kp.mk (orw_lit (base := w.heap.size) w [f] (Nat.le_refl _) (by simp))
    have hfit := Kp.mk (show a.length + b.length + 1 ≤ room ∧ room ≤ 64 by have := h.fit; simp at this; omega)
    have hib : 0 ≤ i ∧ i < ((a ++ f :: b).length : Nat) := hi
    have HI := Kp.mk hi2
    obtain ⟨q, hq⟩ : ∃ q : Nat, q = a.length := ⟨_, rfl⟩
    rw [← hq] at hw hi2
    have hib2 : (q : Int) < ((a ++ f :: b).length : Nat) := by omega
    have HQ := Kp.mk hq
    subst hi2
    rw [Int.toNat_natCast] at e0
    clear h h1 h2 hi HE HT hat hc hq hib
    generalize (a ++ f :: b).length = n at *
    rw [show f.val = .slice f.A f.n f.c from rfl] at *
    go_enter Try.func37, Try.ntmps37
    go_wp2_with (first | (refine ht.mono ?_; rintro e w1 ⟨rfl, rfl⟩))
    refine hw.mono ?_
    rintro e w2 ⟨A1, c1, rfl, hO, hb⟩
    have hb2 := hb0.trans (hb.mono hb0.size)
    have hO1 := hO0.out.below hb
    obtain ⟨A2, c2, w3, hrun, hO3, hC3, -⟩ := run_appendF 75 hO1 hO.rr (by have := hfit.out; have := HQ.out; omega) hb2.size
    have hb3 := hb2.trans (hC3.below (fun x e => (hO1.lt x e).1) hb2.size)
    have d1 := (H1.out.below hb3 H1.out.lt).cell 1 rfl
    have df := (H1.out.below hb3 H1.out.lt).free
    have HM := Kp.mk (H0.out.made hb3 hO3 (by have := hfit.out; simp; omega))
    clear hw hO hb ht hb2 hO1 hO3 hC3 hb3 hb0 e0 k1
    go_wp2_with (at_builtin; refine Lib.wpList_append_run _ rfl _ _ _ _ rfl _ _ rfl rfl _ _ hrun ?_)
    go_ret
    exact ⟨rfl, HM.out.2, _, by rw [HD.out]; exact HM.out.1⟩
  · have HE : placeE fs.length i = 9 := if_neg hi
    have HT : thereB fs.length i = false := decide_eq_false hi
    rw [HT] at ht
    rw [HE]
    have HD := Kp.mk (show frontL fs i = fs from if_neg hi)
    have H0 := Kp.mk h
    clear h hi HE HT
    go_enter Try.func37, Try.ntmps37
    go_wp2_with (first | (refine ht.mono ?_; rintro e w1 ⟨rfl, rfl⟩))
    go_ret
    exact ⟨rfl, Ch.refl _ _, _, by rw [HD.out]; exact H0.out⟩
set_option maxRecDepth 100000 in
theorem mdouble_any {P : Nat → Prop} (h : Lm w lo m room r fs) (hf : Fall P w fs) (i : Int) : Calls Try.prog 35 #[.pointer (some ⟨m, 0, none⟩), .int .i64 i] w fun e w' =>
    e = .returned (.int .i64 (dblE fs.length room i)) ∧ Ch (fun k => k = m ∨ r = some k) w w' ∧ (dblE fs.length room i = 0 → ∃ (r' : Option Nat) (f g : FrV), fs[i.toNat]? = some f ∧ g.l = f.l ∧ Fok (fun b => w.heap.size ≤ b) w' g ∧ Lm w' lo m room r' (fs ++ [g])) ∧ (dblE fs.length room i ≠ 0 → Lm w' lo m room r fs) := by
  have ht := mthere_any h i
  by_cases hi : 0 ≤ i ∧ i < fs.length
  · have HT : thereB fs.length i = true := decide_eq_true hi
    rw [HT] at ht
    obtain ⟨A, c, h1, h2, -⟩ := h.wex
    obtain ⟨bb, off, rfl, hlt, hc⟩ := h2.at_ (by omega)
    have k1 := h1.cell 1 rfl
    have hilt : i.toNat < fs.length := by omega
    have hat : fs[i.toNat]? = some fs[i.toNat] := List.getElem?_eq_getElem hilt
    have hmem := List.getElem_mem hilt
    have HDB : dblE fs.length room i = putE fs[i.toNat].n fs.length room := by
      have := (hf _ hmem).small
      unfold dblE putE
      rw [if_pos hi, if_neg (show ¬ 512 < fs[i.toNat].n by omega)]
    generalize fs[i.toNat] = f at *
    have e0 := hc i.toNat f hat
    have hp := mput_any h (hf f hmem).rd (Nat.le_refl _) (hf f hmem).bytes
    rw [← HDB] at hp
    have HAT := Kp.mk hat
    have HP := Kp.mk hp
    obtain ⟨q, rfl⟩ : ∃ q : Nat, i = q := ⟨i.toNat, by omega⟩
    rw [Int.toNat_natCast] at *
    have hib : (q : Int) < fs.length := hi.2
    clear h h1 h2 hi HT hat hc hf hmem HDB hp hilt
    generalize dblE fs.length room q = x at *
    generalize fs.length = n at *
    rw [show f.val = .slice f.A f.n f.c from rfl] at *
    go_enter Try.func35, Try.ntmps35
    go_wp2_with (first | (refine ht.mono ?_; rintro e w1 ⟨rfl, rfl⟩))
    refine HP.out.mono ?_
    rintro e w2 ⟨rfl, hC, hy, hn⟩
    have hy := Kp.mk hy
    have hn := Kp.mk hn
    go_wp2_with fail
    go_ret
    exact ⟨rfl, hC, fun e => by obtain ⟨r', g, h1, h2, h3⟩ := hy.out e; exact ⟨r', f, g, HAT.out, h1, h2, h3⟩, hn.out⟩
  · have HT : thereB fs.length i = false := decide_eq_false hi
    have HD : dblE fs.length room i = 9 := if_neg hi
    rw [HT] at ht
    rw [HD]
    have H0 := Kp.mk h
    clear h hi HT HD
    go_enter Try.func35, Try.ntmps35
    go_wp2_with (first | (refine ht.mono ?_; rintro e w1 ⟨rfl, rfl⟩))
    go_ret
    exact ⟨rfl, Ch.refl _ _, fun h => absurd h (by decide), fun _ => H0.out⟩
end
end Go.Proofs.Ytcolklkjaifplaa.Oct
