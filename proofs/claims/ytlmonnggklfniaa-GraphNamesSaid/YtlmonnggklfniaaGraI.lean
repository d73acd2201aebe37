/- Contracts of layer 12 (graph): Reach, Whole. -/
import Derived.Test.YtlmonnggklfniaaGraH
import Derived.Test.YtlmonnggklfniaaGraS
namespace Go.Proofs.Ytlmonnggklfniaa.Oct
open Go.RowKit Go.Shelf
set_option linter.unusedVariables false
set_option linter.unusedSimpArgs false
attribute [local go_sem] Oper.semAt_some

theorem wpListIn_append_run {F : Fence} {n : Nat} {P : Program} (w : World) {ops : Array Oper} {rest : List Oper} {o : Oper} {a : Act} {Q : Exit → Act → World → Prop} (hgd : o.guard = none) (s x : Operand) (t tn : TypeId)
    (ho : o.op = .call { callee := .builtin .append, args := #[s, x], argTypes := #[t, tn] }) (vs vx : Value) (hs : a.eval s = vs) (hx : a.eval x = vx)
    (v' : Value) (w' : World) (hr : (Builtin.append_ #[t, tn] o.type #[vs, vx]).run P w = .ok v' w') (h : wpListIn F n P ops Q rest (a.put o.dst v') w') : wpListIn F n P ops Q (o :: rest) a w := by
  refine wpListIn_plain hgd fun K hK' => ?_
  unfold Oper.wpIn
  refine ⟨?_, ?_⟩
  · simp [Oper.about, ho, resolve, Target.leads, Sem.run_pure]
  · rw [Oper.semAt_plain F _ _ (by rw [ho]; intro c hc'; cases hc')]
    simp only [execOp, ho, resolve, invoke, builtin, Sem.run_bind, Sem.run_pure, Result.andThen_ok, List.map_toArray, List.map_cons, List.map_nil, hs, hx, hr]
    exact hK' _ _ h

/-- What the caller's loop keeps: its box holds a row of its own. -/
def InvR (w : World) (bx : Nat) (pre : List Int) (W : World) : Prop := ∃ v q, Vb 29 W bx [v] ∧ Oi W w.heap.size v q pre ∧ Below w.heap.size w W ∧ w.heap.size ≤ bx
theorem InvR.there {w W : World} {bx : Nat} {pre : List Int} (h : InvR w bx pre W) : bx < W.heap.size ∧ ∀ b, Mine bx W b → ∃ cs T fr, W.heap[b]? = some (.cells cs T fr) := by
  obtain ⟨v, q, hV, hO, hB, hl⟩ := h
  refine ⟨hV.lt, fun b hm => ?_⟩
  rcases hm with rfl | ⟨off, n, c, hm⟩
  · exact ⟨_, _, _, hV⟩
  · rw [hV.cell 0 rfl] at hm
    have hm := Option.some.inj hm
    subst hm
    rcases hO.2 with ⟨h2, _⟩ | ⟨g, cap, cur, e, hbg, hg, r⟩
    · cases h2
    · injection e with e1 _ _
      have e1 := Option.some.inj e1
      injection e1 with e1 _ _
      subst e1
      exact ⟨_, _, _, hg⟩
theorem InvR.step {w w0 A B : World} {bx : Nat} {pre : List Int} (hz : w.heap.size ≤ w0.heap.size) (h : InvR w bx pre A) (hit : ItK bx w0.heap.size A B) : InvR w bx pre B := by
  obtain ⟨v, q, hV, hO, hB, hl⟩ := h
  refine ⟨v, q, (hit.same bx hV.lt (.inr (.inl rfl))).trans hV, oi_same hO (fun k hk => hit.same k (hO.lt k hk).2 (.inr (.inr ?_))), ?_, hl⟩
  · rcases hO.2 with ⟨rfl, _⟩ | ⟨g, cap, cur, rfl, _⟩
    · simp [Value.ownBlock] at hk
    · have e : g = k := by simpa [Value.ownBlock] using hk
      subst e
      exact ⟨0, q, cap, hV.cell 0 rfl⟩
  · exact ⟨hit.os.trans hB.os, hit.tape.trans hB.tape, hit.output.trans hB.output, Nat.le_trans hB.size hit.size, fun b hb => (hit.same b (by have := hB.size; omega) (.inl (by omega))).trans (hB.block b hb)⟩
/-- One more is put into the row. -/
theorem InvR.push {w W : World} {bx : Nat} {pre : List Int} (h : InvR w bx pre W) (hq : pre.length ≤ 1000) (x : Int) (ty : TypeId) : ∃ v q A' c' W', W.cell? ⟨bx, 0, none⟩ = some v ∧ (Builtin.append_ #[29, 29] ty #[v, .slice (some ⟨W.heap.size, 0, none⟩) 1 1]).run Try.prog (W.alloc (.cells #[.int .i64 x] 3)) = .ok (.slice A' (q + 1) c') W' ∧
    Vb 29 W' bx [v] ∧ InvR w bx (pre ++ [x]) (W'.setCell ⟨bx, 0, none⟩ (.slice A' (q + 1) c')) ∧ RoundK bx W (W'.setCell ⟨bx, 0, none⟩ (.slice A' (q + 1) c')) := by
  have hth := h.there
  obtain ⟨v, q, hV, hO, hB, hl⟩ := h
  obtain ⟨A', c', W', hrun, hO7, hb7, hg7, hN7⟩ := app1 ty hO hB.size (by rw [← hO.len]; exact hq) x
  have hne : v.ownBlock ≠ some bx := fun e => by
    rcases hO.2 with ⟨rfl, _⟩ | ⟨g, cap, cur, rfl, _, hg, _⟩
    · simp [Value.ownBlock] at e
    · have e : g = bx := by simpa [Value.ownBlock] using e
      subst e
      rw [show W.heap[g]? = _ from hV] at hg
      have hg := Option.some.inj hg
      injection hg with _ h2 _
      revert h2; decide
  have hV7 : Vb 29 W' bx [v] := (hg7.block bx hV.lt (fun e => hne e.symm)).trans hV
  have hV8 := hV7.set 0 (.slice A' (q + 1) c')
  have hg8 := grownBy_set W' bx 0 (.slice A' (q + 1) c')
  have hz8 : (W'.setCell ⟨bx, 0, none⟩ (.slice A' (q + 1) c')).heap.size = W'.heap.size := by simp [World.setCell]
  refine ⟨v, q, A', c', W', hV.cell 0 rfl, hrun, hV7, ⟨_, q + 1, hV8, hO7.other hV7 (by decide) hg8, below_grown (hB.trans hb7) hg8 (hB.trans hb7).size hl, hl⟩, ?_⟩
  refine ⟨by rw [hz8]; exact hb7.size, fun b hb hm => ?_, fun b hm => ?_, fun b hm => ?_⟩
  · refine (hg8.block b (by have := hb7.size; omega) (fun e => hm (by cases e; exact .inl rfl))).trans (hg7.block b hb (fun e => hm (.inr ?_)))
    rcases hO.2 with ⟨rfl, _⟩ | ⟨g, cap, cur, rfl, _, hg, _⟩
    · simp [Value.ownBlock] at e
    · have e : b = g := by simpa [Value.ownBlock] using e
      subst e
      exact ⟨0, q, cap, hV.cell 0 rfl⟩
  · rcases hm with rfl | ⟨off, n, c, hm⟩
    · exact .inl (.inl rfl)
    · rw [hV8.cell 0 rfl] at hm
      have hm := Option.some.inj hm
      injection hm with e1 _ _
      rcases hN7 with e | e
      · left; right
        rcases hO.2 with ⟨rfl, _⟩ | ⟨g, cap, cur, rfl, _, hg, _⟩
        · rw [e1] at e; simp [Value.ownBlock] at e
        · rw [e1] at e
          have := (hO7.form)
          obtain ⟨A9, c9, e9, _, _, _, h9⟩ := this
          injection e9 with e10 _ _
          rw [e1] at e10
          obtain ⟨g9, e11, _⟩ := h9 _ e10.symm
          injection e11 with e12 e13 _
          subst e13
          have e : b = g := by simpa [Value.ownBlock] using e
          subst e
          exact ⟨0, q, cap, hV.cell 0 rfl⟩
      · right
        have := (hO7.form)
        obtain ⟨A9, c9, e9, _, _, _, h9⟩ := this
        injection e9 with e10 _ _
        rw [e1] at e10
        obtain ⟨g9, e11, _⟩ := h9 _ e10.symm
        injection e11 with e12 e13 _
        subst e13
        exact e b (by rw [e1]; rfl)
  · have hI9 : InvR w bx (pre ++ [x]) (W'.setCell ⟨bx, 0, none⟩ (.slice A' (q + 1) c')) := ⟨_, q + 1, hV8, hO7.other hV7 (by decide) hg8, below_grown (hB.trans hb7) hg8 (hB.trans hb7).size hl, hl⟩
    obtain ⟨cs, T, fr, h9⟩ := hI9.there.2 b hm
    exact (Array.getElem?_eq_some_iff.1 h9).1
theorem ends_nonneg {S : Int} {ls : List Lk} {es : Me} (h : endsP S ls = some es) : ∀ k e i, fnd es k = some (e, i) → 0 ≤ i := by
  obtain ⟨hg, rfl⟩ := endsP_some h
  intro k e i hf
  obtain ⟨n, l, _, rfl, _⟩ := (good_fnd hg).1 hf
  omega
theorem ends_nb {S : Int} {ls : List Lk} {es : Me} (h : endsP S ls = some es) (up : List Bool) : ∀ x y, y ∈ nbP es up x → 1 ≤ y ∧ y ≤ S := by
  obtain ⟨hg, rfl⟩ := endsP_some h
  exact nb_in hg up

set_option maxRecDepth 100000 in
set_option maxHeartbeats 2000000 in
theorem gReach_any {w : World} {B n c B2 n2 c2 : Nat} {A A2 : Option Addr} {ls : List Lk} {up : List Bool} (h : Lr w B A n c ls) (hB : B ≤ w.heap.size) (hu : Bl w B2 A2 n2 c2 up) (hB2 : B2 ≤ w.heap.size) (S s : Int) :
    Calls Try.prog 16 #[grV S A n c, .slice A2 n2 c2, .int .i64 s] w fun e w' => ∃ v, e = .returned v ∧ (∃ m, Oi w' w.heap.size v m (reachP S ls up s)) ∧ Below w.heap.size w w' := by
  have hb0 := below_alloc w (.cells #[.int .i64 S, .slice A n c] 24)
  have hc := ends_any (h.below' hb0 hB) (by simp; omega) S
  have hg0 : Vb 24 (w.alloc (.cells #[.int .i64 S, .slice A n c] 24)) w.heap.size [.int .i64 S, .slice A n c] := Vb.new 24 w [.int .i64 S, .slice A n c]
  have HB := Kp.mk (And.intro hb0 (And.intro hg0 (And.intro hu hB2)))
  have HEX := Kp.mk (And.intro (@ends_nonneg S ls) (@ends_nb S ls))
  have HRP := Kp.mk (show reachP S ls up s = (match endsP S ls with | none => [] | some es => if 1 ≤ s ∧ s ≤ S then (upto S).filter (fun x => decide (x ∈ rowP (nbP es up) s 6)) else []) from rfl)
  have HS6 := Kp.mk (show ∀ es, endsP S ls = some es → S ≤ 6 from fun es he => (endsP_some he).1.1.2)
  clear h hB hb0 hg0 hu hB2
  generalize endsP S ls = r at *
  refine (callsIn_wide (n := 8)).1 ?_
  refine callsIn_of_wp_marks Try.func16 rfl trivial ?_ rfl
  simp only [Try.ntmps16, List.size_toArray, List.length_cons, List.length_nil, Nat.reduceAdd, Nat.reduceSub, Array.replicate_succ, Array.replicate_zero, List.push_toArray, List.append_toArray, List.nil_append, List.cons_append]
  refine wpIn_wide.2 ?_
  go_wp2_with fail
  refine hc.mono ?_
  rintro e w2 he
  obtain ⟨m, rfl, hm, hml, hb2⟩ := he.mo
  have hg2 := HB.out.2.1.below hb2 HB.out.2.1.lt
  have HB2 := Kp.mk (And.intro (HB.out.1.trans (hb2.mono (by simp))) (And.intro hg2 (HB.out.2.2.1.below ((HB.out.1.trans (hb2.mono (by simp))).mono HB.out.2.2.2))))
  have HM := Kp.mk (And.intro hm hml)
  have d0 := hg2.cell 0 rfl
  have d1 := hg2.cell 1 rfl
  clear hb2 hc he hm hml hg2
  cases r with
  | none =>
    simp only [Option.isSome_none]
    have HZ := Kp.mk (show reachP S ls up s = [] from HRP.out)
    go_wp2_with fail
    refine ⟨_, results_tmp rfl _ _ _, _, rfl, ⟨0, ?_⟩, HB2.out.1⟩
    rw [HZ.out]
    exact Oi.nil _ _
  | some es =>
    simp only [Option.isSome_some]
    have hcS := isSwitch_any S s A n c w2
    cases hsw : swOk S s with
    | false =>
      rw [hsw] at hcS
      have HZ := Kp.mk (show reachP S ls up s = [] by rw [HRP.out]; exact if_neg (fun h => by have := swOk_iff.2 h; rw [hsw] at this; cases this))
      clear hsw
      go_wp2_with (refine hcS.mono ?_; rintro e w3 ⟨rfl, hb3⟩)
      refine ⟨_, results_tmp rfl _ _ _, _, rfl, ⟨0, ?_⟩, HB2.out.1.trans (hb3.mono HB2.out.1.size)⟩
      rw [HZ.out]
      exact Oi.nil _ _
    | true =>
      rw [hsw] at hcS
      have HSW := Kp.mk (swOk_iff.1 hsw)
      have HZ := Kp.mk (show reachP S ls up s = (upto S).filter (fun x => decide (x ∈ rowP (nbP es up) s 6)) by rw [HRP.out]; exact if_pos (swOk_iff.1 hsw))
      clear hsw
      go_upto_region 4 with (refine hcS.mono ?_; rintro e w3 ⟨rfl, hb3⟩)
      have HB3 := Kp.mk (And.intro (HB2.out.1.trans (hb3.mono HB2.out.1.size)) (And.intro (HM.out.1.below hb3) (HB2.out.2.2.below (hb3.mono (by have := HB2.out.1.size; have := HB.out.2.2.2; omega)))))
      have hbox : Vb 29 (w3.alloc (.cells #[.slice none 0 0] 29)) w3.heap.size [.slice none 0 0] := Vb.new 29 w3 [.slice none 0 0]
      have hb4 := below_alloc w3 (.cells #[.slice none 0 0] 29)
      have hz4 : (w3.alloc (.cells #[.slice none 0 0] 29)).heap.size = w3.heap.size + 1 := by simp
      have HB4 := Kp.mk (And.intro hbox (And.intro hb4 hz4))
      clear hb3 hcS d0 d1 hbox hb4 hz4
      go_upto_region 5 with fail
      generalize w3.alloc (.cells #[.slice none 0 0] 29) = w4 at *
      have hcR := reach_any m A2 n2 c2 s w4
      go_wp2_with (refine hcR.mono ?_; rintro e w5 ⟨rfl, hw5⟩)
      have HB5 := Kp.mk hw5
      have hz5 : w5.heap.size = w4.heap.size + 1 + 1 + 1 := by rw [← hw5]; simp
      have hb45 : Below w4.heap.size w4 w5 := by
        rw [← hw5]
        exact ((below_two w4 _ _).alloc (by simp; omega) _)
      have hcap : Cap w3.heap.size w4.heap.size (w4.heap.size + 1) (w4.heap.size + 1 + 1) B2 m es A2 n2 c2 up s w5 := by
        have hlt : w3.heap.size < w4.heap.size := by have := HB4.out.2.2; omega
        have hbx5 : Vb 29 w5 w3.heap.size [.slice none 0 0] := HB4.out.1.below hb45 hlt
        have hm4 : Mo w4 m es := HB3.out.2.1.below HB4.out.2.1
        refine ⟨?_, ?_, ?_, hm4.below hb45, (HB3.out.2.2.below (HB4.out.2.1.mono ?_)).below (hb45.mono ?_), by omega, by omega, by omega, by omega, fun b hb => ?_, ?_, fun b hm => ?_⟩
        · rw [← hw5]; exact ((Vb.new 47 w4 [.map m]).alloc _).alloc _
        · rw [← hw5]
          have := (Vb.new 36 (w4.alloc (.cells #[.map m] 47)) [.slice A2 n2 c2]).alloc (.cells #[.int .i64 s] 3)
          rwa [World.size_alloc] at this
        · rw [← hw5]
          have := Vb.new 3 ((w4.alloc (.cells #[.map m] 47)).alloc (.cells #[.slice A2 n2 c2] 36)) [.int .i64 s]
          rwa [World.size_alloc, World.size_alloc] at this
        · have := HB.out.2.2.2; have := HB3.out.1.size; omega
        · have := HB.out.2.2.2; have := HB3.out.1.size; omega
        · have := HB3.out.2.1.lt b hb; omega
        · have := HB.out.2.2.2; have := HB3.out.1.size; omega
        · rcases hm with e | ⟨off, n', c', e⟩
          · exact e
          · rw [hbx5.cell 0 rfl] at e; cases e
      have hI0 : InvR w w3.heap.size [] w5 := ⟨.slice none 0 0, 0, HB4.out.1.below hb45 (by have := HB4.out.2.2; omega), Oi.nil _ _, (HB3.out.1.trans (HB4.out.2.1.mono HB3.out.1.size)).trans (hb45.mono (by have := HB3.out.1.size; have := HB4.out.2.2; omega)), HB3.out.1.size⟩
      have hseq := fun N => reach_seq (S := S) N hcap (HEX.out.1 rfl) (HEX.out.2 rfl up) HSW.out (HS6.out es rfl)
      have HLN := Kp.mk (fun k => row_len (HEX.out.2 rfl up) HSW.out (HS6.out es rfl) k)
      have HRI := Kp.mk (And.intro (row_in (HEX.out.2 rfl up) HSW.out 6) (row_nodup (nb := nbP es up) (s := s) 6))
      have HZ5 := Kp.mk (show w.heap.size ≤ w5.heap.size from by have := HB3.out.1.size; have := HB4.out.2.2; omega)
      have HCAP := Kp.mk hI0
      clear hw5 hz5 hb45 hcap hI0 HB5 hcR
      generalize w4.heap.size = b4 at *
      refine (wpIn_wide (n := 8)).1 ?_
      refine wpIn_rangeFunc_mine (F := Fence.wide) (bx := w3.heap.size) (xs := rowP (nbP es up) s 6) (encs := fun x : Int => #[.int .i64 x]) rfl (by omega) (gf := 33) (lb := #[.pointer (some ⟨b4 + 1 + 1, 0, none⟩), .pointer (some ⟨b4, 0, none⟩), .pointer (some ⟨b4 + 1, 0, none⟩)]) ?c1 trivial ?c2 ?c3 ?c4 (InvR w w3.heap.size) ?c5 ?c6 ?c7
        (fun x => { tmps := #[grV S A n c, .slice A2 n2 c2, .int .i64 s, .pointer (some ⟨w.heap.size, 0, none⟩), undef, undef, .slice none 0 0, .map m, .bool true, .pointer (some ⟨w3.heap.size, 0, none⟩), .int .i64 x, .tuple #[.map m, .bool true], .agg #[.int .i64 S, .slice A n c], .tuple #[.map m, .bool true], .map m, .bool true, .bool true, .bool false, .bool false, .agg #[.int .i64 S, .slice A n c], .int .i64 s, .bool true, .bool false, .bool false, .map m, .slice A2 n2 c2, .int .i64 s, .func (.func 33) #[] #[.pointer (some ⟨b4 + 1 + 1, 0, none⟩), .pointer (some ⟨b4, 0, none⟩), .pointer (some ⟨b4 + 1, 0, none⟩)], .int .i64 x, undef, undef, undef, undef, undef, undef, undef], defers := [] }) ?assign ?body ?done
      case c1 => rfl
      case c2 => exact enters_of Try.func33 (by kernel_rfl) rfl
      case c3 => exact hseq _
      case c4 => intro x; rfl
      case c5 => exact fun pre W hi => hi.there
      case c6 => exact fun pre X Y hi hit => hi.step HZ5.out hit
      case c7 => exact HCAP.out
      case assign =>
        intro l x W K hK
        gi_wp2
        exact hK
      case body =>
        rintro l pre x W hi hpre
        obtain ⟨v, q, A', c', W', hcell, hrun, hV7, hI9, hR9⟩ := hi.push (by have h1 := hpre.length_le; have h2 := HLN.out 6; rw [List.length_append] at h1; omega) x 29
        have f0 := hV7.free 0
        have d0 := hV7.cell 0 rfl
        have HF := Kp.mk (And.intro hR9 hI9)
        clear hi hpre hV7 hI9 hR9
        gi_wp2_with (gi_at_builtin; refine wpListIn_append_run _ rfl _ _ _ _ rfl _ _ rfl rfl _ _ hrun ?_)
        exact HF.out
      case done =>
        rintro D W hD hi hK
        obtain ⟨v, q, hV, hO, hB9, hl9⟩ := hi
        obtain ⟨A9, c9, rfl, _⟩ := hO.form
        have hq : q ≤ 12 := by have := hO.len; have := HLN.out 6; omega
        have hcT := sort_any hO hq
        have hDo : (Value.slice A9 q c9).ownBlock ≠ some D := fun e => by
          rcases hO.2 with ⟨h2, _⟩ | ⟨g, cap, cur, h2, _, hg, _⟩
          · rw [h2] at e; simp [Value.ownBlock] at e
          · rw [h2] at e
            have e : g = D := by simpa [Value.ownBlock] using e
            subst e
            rw [hK] at hg; cases hg
        have hXo : (Value.slice A9 q c9).ownBlock ≠ some w3.heap.size := fun e => by
          rcases hO.2 with ⟨h2, _⟩ | ⟨g, cap, cur, h2, _, hg, _⟩
          · rw [h2] at e; simp [Value.ownBlock] at e
          · rw [h2] at e
            have e : g = w3.heap.size := by simpa [Value.ownBlock] using e
            rw [e, show W.heap[w3.heap.size]? = _ from hV] at hg
            have hg := Option.some.inj hg
            injection hg with _ h6 _
            revert h6; decide
        have d0 := hV.cell 0 rfl
        have HV := Kp.mk (And.intro hV (And.intro hK (And.intro hDo (And.intro hXo (And.intro hO hB9)))))
        have HD := Kp.mk (And.intro hD hl9)
        clear hV hK hDo hXo hO hB9 hq hD hl9
        gi_wp2
        go_wp2_with fail
        refine hcT.mono ?_
        rintro e W6 ⟨rfl, ⟨l', hp, hs', hO6⟩, hg6⟩
        have hV6 : Vb 29 W6 w3.heap.size [.slice A9 q c9] := (hg6.block _ HV.out.1.lt (fun e => HV.out.2.2.2.1 e.symm)).trans HV.out.1
        have hK6 : W6.heap[D]? = some (.deferred (some [])) := (hg6.block _ (Array.getElem?_eq_some_iff.1 HV.out.2.1).1 (fun e => HV.out.2.2.1 e.symm)).trans HV.out.2.1
        have hB6 : Below w.heap.size w W6 := HV.out.2.2.2.2.2.trans (oi_own HV.out.2.2.2.2.1 hg6 _ (Nat.le_refl _) HV.out.2.2.2.2.2.size)
        have HF := Kp.mk (And.intro hp (And.intro hs' (And.intro hO6 (And.intro hK6 hB6))))
        clear d0 hcT
        have d0 := hV6.cell 0 rfl
        clear hp hs' hO6 hg6 hV6 hK6 hB6
        go_wp2_with fail
        refine ⟨by simp, .inl ⟨_, _, rfl, run_takeDeferred HF.out.2.2.2.1, _, results_tmp rfl _ _ _, _, rfl, ⟨q, ?_⟩, ?_⟩⟩
        · have hDo := HV.out.2.2.1
          have e : l' = reachP S ls up s := by
            rw [HZ.out]
            exact sorted_perm_eq HF.out.2.1 (reach_sorted S _) (HF.out.1.trans (perm_filter_sorted HRI.out.2 HRI.out.1))
          rw [← e]
          exact oi_same HF.out.2.2.1 (fun k hk => World.putObj_heap_other (fun e => hDo (by rw [← e]; exact hk)))
        · exact HF.out.2.2.2.2.trans (belowK_b (w := w) (Nat.le_refl _) W6 D _ _ (by have := HD.out.1; have := HZ5.out; omega) HF.out.2.2.2.1 rfl rfl)
end Go.Proofs.Ytlmonnggklfniaa.Oct
