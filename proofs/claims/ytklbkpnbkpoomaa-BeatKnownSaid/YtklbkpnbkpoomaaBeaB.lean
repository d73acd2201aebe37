/- The waits of a beat, told by an iterator that goes on for good; the one that is taken. -/
import Derived.Test.YtklbkpnbkpoomaaBeaA
import Derived.BigRegion
import Derived.ChangeAlike
import Derived.RegionTactic
namespace Go.Proofs.Ytklbkpnbkpoomaa.Oct
open Go.RowKit Go.Shelf
set_option linter.unusedVariables false
set_option linter.unusedSimpArgs false
attribute [local go_sem] Oper.semAt_some

set_option maxRecDepth 100000 in
theorem waits_seq {bf bc K : Nat} {f c : Int} {w : World} (N : Nat) (hf : Vb 3 w bf [.int .i64 f]) (hc : Vb 3 w bc [.int .i64 c]) (h1 : 1 ≤ f) (h2 : f ≤ c) (h3 : c ≤ 10000) (hK : K ≤ 20000000) :
    SeqTil Fence.wide N Try.prog 27 #[.pointer (some ⟨bf, 0, none⟩), .pointer (some ⟨bc, 0, none⟩)] (fun i => #[.int .i64 i, .int .i64 (wv f c i)]) K w := by
  intro l J Jx W hW hJ hJx hY hYx h0
  have HJ := Kp.mk (And.intro hJ hJx)
  have HW := Kp.mk (And.intro hf (And.intro hc hW))
  have HR := Kp.mk (fun i => wv_pos h1 h2 i)
  have HC := Kp.mk h3
  have d0 : W.cell? ⟨bf, 0, none⟩ = some (.int .i64 f) := (hf.below hW hf.lt).cell 0 rfl
  clear hJ hJx h1 h2 h3 hf hc hW
  refine callsIn_of_wp Try.func27 rfl trivial ?_ rfl
  simp only [Try.ntmps27, List.size_toArray, List.length_cons, List.length_nil, Nat.reduceAdd, Nat.reduceSub, Array.replicate_succ, Array.replicate_zero, List.push_toArray, List.append_toArray, List.nil_append, List.cons_append]
  refine wpIn_wide.2 ?_
  go_wp2_with fail
  go_region
  go_wp2_with fail
  clear d0
  go_loopw [4, 5] (fun s4 s5 wr => ∃ i : Nat, s4 = .int .i64 i ∧ s5 = .int .i64 (wv f c i) ∧ i ≤ K ∧ Kp (J i wr ∧ Below w.heap.size w wr)) (fun s4 _ _ => K + 1 - (intOf s4).toNat)
  case atStart => exact ⟨0, rfl, rfl, Nat.zero_le _, Kp.mk ⟨HJ.out.1 _ _ _ h0 (Below.refl _ _).drew, HW.out.2.2.trans (Below.refl _ _).drew⟩⟩
  case round =>
    clear h0
    obtain ⟨i, rfl, rfl, hi, HK⟩ := hrel
    by_cases hik : i < K
    · obtain ⟨fn, tmps, assign, body, hy, hR⟩ := hY i wr HK.out.1 hik
      try dsimp only at hy
      refine (wpIn_wide (n := N)).1 ?_
      gi_wp2
      refine ⟨(fun h => (by cases h)), hR.mono ?_⟩
      rintro e W5 ⟨rfl, hJ5, hb5⟩
      have d0 : W5.cell? ⟨bc, 0, none⟩ = some (.int .i64 c) := (HW.out.2.1.below (HK.out.2.trans hb5) HW.out.2.1.lt).cell 0 rfl
      have HJ5 := Kp.mk (And.intro (HJ.out.1 _ _ _ hJ5 (Below.refl _ _).drew) ((HK.out.2.trans hb5).trans (Below.refl _ _).drew))
      have hb := HR.out i
      have hv : wrap64 (2 * wv f c i) = 2 * wv f c i := by have := HC.out; unfold wrap64; omega
      have HM := Kp.mk (show (if c < 2 * wv f c i then c else 2 * wv f c i) = wv f c (i + 1) by rw [wv_succ]; split <;> omega)
      have hi1 : wrap64 (i + 1) = ((i + 1 : Nat) : Int) := by unfold wrap64; omega
      clear hJ5 hb5 hy hR HK
      gi_wp2
      refine wpIn_wide.2 ?_
      go_region
      rw [HM.out]
      clear hv hb hi1 HM
      go_roundw
      case rel => exact ⟨_, _, _, _, _, _, _, _, _, _, _, _, ⟨i + 1, by go_num, rfl, by omega, HJ5⟩, rfl⟩
      case measure => simp [intOf]; omega
    · obtain rfl : i = K := by omega
      obtain ⟨fn, tmps, assign, body, hy, hR⟩ := hYx wr HK.out.1
      refine (wpIn_wide (n := N)).1 ?_
      gi_wp2
      refine ⟨(fun h => (by cases h)), hR.mono ?_⟩
      rintro e W5 ⟨rfl, hJ5⟩
      clear hy hR
      gi_wp2
      go_end0
      exact ⟨⟨_, rfl⟩, hJ5⟩
theorem waits_any (f c : Int) (w : World) : Calls Try.prog 26 #[.int .i64 f, .int .i64 c] w fun e w' => e = .returned (.func (.func 27) #[] #[.pointer (some ⟨w.heap.size, 0, none⟩), .pointer (some ⟨w.heap.size + 1, 0, none⟩)]) ∧ Vb 3 w' w.heap.size [.int .i64 f] ∧ Vb 3 w' (w.heap.size + 1) [.int .i64 c] ∧ Below w.heap.size w w' := by
  have H0 := Kp.mk ((Vb.new 3 w [.int .i64 f]).alloc (.cells #[.int .i64 c] 3))
  have hv := Vb.new 3 (w.alloc (.cells #[.int .i64 f] 3)) [.int .i64 c]
  rw [World.size_alloc] at hv
  have H1 := Kp.mk hv
  have H2 := Kp.mk (below_two w (.cells #[.int .i64 f] 3) (.cells #[.int .i64 c] 3))
  clear hv
  go_enter Try.func26, Try.ntmps26
  go_wp2_with fail
  go_ret
  exact ⟨rfl, H0.out, H1.out, H2.out⟩
/-- What lies there while the waits are told: the box of the beat, the box of the answer, the beat. -/
structure InvW (w : World) (p1 p2 x : Nat) (cs : List Value) (v : Int) (W : World) : Prop where
  box : Vb 24 W p1 [.pointer (some ⟨x, 0, none⟩)]
  ans : Vb 3 W p2 [.int .i64 v]
  beat : Vb 35 W x cs
  old : Below w.heap.size w W
theorem InvW.step {w w0 A B : World} {p1 p2 x : Nat} {cs : List Value} {v : Int} (h : InvW w p1 p2 x cs v A) (hb : Below w0.heap.size A B) (h1 : p1 < w0.heap.size) (h2 : p2 < w0.heap.size) (h3 : x < w0.heap.size) (hw : w.heap.size ≤ w0.heap.size) : InvW w p1 p2 x cs v B :=
  ⟨h.box.below hb h1, h.ans.below hb h2, h.beat.below hb h3, h.old.trans (hb.mono hw)⟩

theorem then_no {K : Act → World → Prop} {Q : Exit → Act → World → Prop} : ∀ e a w, Exit.then K (fun _ _ _ => False) e a w → Exit.then K Q e a w := by
  intro e a w h
  cases e <;> first | exact h | exact h.elim

set_option maxRecDepth 100000 in
set_option maxHeartbeats 2000000 in
theorem wait_any {w : World} {x t : Nat} {f c : Int} {a : Value} (h : Vb 35 w x [.int .i64 f, .int .i64 c, a, .int .i64 t]) (h1 : 1 ≤ f) (h2 : f ≤ c) (h3 : c ≤ 10000) (ht : t ≤ 20000000) :
    Calls Try.prog 18 #[.pointer (some ⟨x, 0, none⟩)] w fun e w' => e = .returned (.int .i64 (wv f c t)) ∧ Below w.heap.size w w' := by
  obtain ⟨K, hKt, hK1, hK2, hK3⟩ := wv_stop h1 h2 t
  have HR := Kp.mk (fun i => wv_pos h1 h2 i)
  have HB := Kp.mk (And.intro h1 (And.intro h2 h3))
  have HK := Kp.mk (And.intro hK1 (And.intro hK2 hK3))
  have HKT := Kp.mk (And.intro hKt ht)
  have hb1 := below_two w (.cells #[.pointer (some ⟨x, 0, none⟩)] 24) (.cells #[.int .i64 0] 3)
  have hp1 := (Vb.new 24 w [.pointer (some ⟨x, 0, none⟩)]).alloc (.cells #[.int .i64 0] 3)
  have hp2 := Vb.new 3 (w.alloc (.cells #[.pointer (some ⟨x, 0, none⟩)] 24)) [.int .i64 0]
  rw [World.size_alloc] at hp2
  have HI := Kp.mk (show InvW w w.heap.size (w.heap.size + 1) x [.int .i64 f, .int .i64 c, a, .int .i64 t] 0 ((w.alloc (.cells #[.pointer (some ⟨x, 0, none⟩)] 24)).alloc (.cells #[.int .i64 0] 3)) from ⟨hp1, hp2, h.below hb1 h.lt, hb1⟩)
  have HX := Kp.mk (And.intro h.lt (show ((w.alloc (.cells #[.pointer (some ⟨x, 0, none⟩)] 24)).alloc (.cells #[.int .i64 0] 3)).heap.size = w.heap.size + 1 + 1 by simp))
  clear h h1 h2 h3 hb1 hp1 hp2 hK1 hK2 hK3 hKt ht
  refine (callsIn_wide (n := 8)).1 ?_
  refine callsIn_of_wp_marks Try.func18 rfl trivial ?_ rfl
  simp only [Try.ntmps18, List.size_toArray, List.length_cons, List.length_nil, Nat.reduceAdd, Nat.reduceSub, Array.replicate_succ, Array.replicate_zero, List.push_toArray, List.append_toArray, List.nil_append, List.cons_append]
  refine wpIn_wide.2 ?_
  go_upto_region 1 with fail
  generalize ((w.alloc (.cells #[.pointer (some ⟨x, 0, none⟩)] 24)).alloc (.cells #[.int .i64 0] 3)) = w1 at *
  generalize hq1 : w.heap.size + 1 = q1 at *
  generalize hq0 : w.heap.size = q0 at *
  refine (wpIn_wide (n := 8)).1 ?_
  refine wpIn_mono ?_ then_no
  refine wpIn_wide.2 ?_
  have HS : InvW w q0 q1 x [.int .i64 f, .int .i64 c, a, .int .i64 t] 0 w1.drew := ⟨HI.out.box.below (Below.refl _ _).drew HI.out.box.lt, HI.out.ans.below (Below.refl _ _).drew HI.out.ans.lt, HI.out.beat.below (Below.refl _ _).drew HI.out.beat.lt, HI.out.old.trans ((Below.refl _ _).drew)⟩
  refine wp_region_held_drew (S := fun W => InvW w q0 q1 x [.int .i64 f, .int .i64 c, a, .int .i64 t] 0 W) (by kernel_rfl) HS (fun _ => ?_)
  refine takeD (i := 0) (v := .pointer (some ⟨x, 0, none⟩)) (some 5) rfl rfl (by kernel_rfl) (by kernel_rfl) (by kernel_rfl) (fun _ _ _ h => h) (Or.inl ⟨by rfl, ?_⟩) HS ?_
  · rintro w' z
    have d0 := z.box.cell 0 rfl
    go_simp
  try simp only [Act.put, List.setIfInBounds_toArray, List.set_cons_zero, List.set_cons_succ]
  refine takeD (i := 1) (v := .pointer (some ⟨x, 0, none⟩)) (some 6) rfl rfl (by kernel_rfl) (by kernel_rfl) (by kernel_rfl) (fun _ _ _ h => h) (Or.inl ⟨by rfl, ?_⟩) HS ?_
  · rintro w' z
    go_simp
  try simp only [Act.put, List.setIfInBounds_toArray, List.set_cons_zero, List.set_cons_succ]
  refine takeD (i := 2) (v := .pointer (some ⟨x, 0, none⟩)) (some 7) rfl rfl (by kernel_rfl) (by kernel_rfl) (by kernel_rfl) (fun _ _ _ h => h) (Or.inl ⟨by rfl, ?_⟩) HS ?_
  · rintro w' z
    go_simp
  try simp only [Act.put, List.setIfInBounds_toArray, List.set_cons_zero, List.set_cons_succ]
  refine takeD (i := 3) (v := .int .i64 f) (some 8) rfl rfl (by kernel_rfl) (by kernel_rfl) (by kernel_rfl) (fun _ _ _ h => h) (Or.inl ⟨by rfl, ?_⟩) HS ?_
  · rintro w' z
    have d0 := z.beat.cell 0 rfl
    go_simp
  try simp only [Act.put, List.setIfInBounds_toArray, List.set_cons_zero, List.set_cons_succ]
  refine takeD (i := 4) (v := .pointer (some ⟨x, 0, none⟩)) (some 9) rfl rfl (by kernel_rfl) (by kernel_rfl) (by kernel_rfl) (fun _ _ _ h => h) (Or.inl ⟨by rfl, ?_⟩) HS ?_
  · rintro w' z
    have d0 := z.box.cell 0 rfl
    go_simp
  try simp only [Act.put, List.setIfInBounds_toArray, List.set_cons_zero, List.set_cons_succ]
  refine takeD (i := 5) (v := .pointer (some ⟨x, 0, none⟩)) (some 10) rfl rfl (by kernel_rfl) (by kernel_rfl) (by kernel_rfl) (fun _ _ _ h => h) (Or.inl ⟨by rfl, ?_⟩) HS ?_
  · rintro w' z
    go_simp
  try simp only [Act.put, List.setIfInBounds_toArray, List.set_cons_zero, List.set_cons_succ]
  refine takeD (i := 6) (v := .pointer (some ⟨x, 1, none⟩)) (some 11) rfl rfl (by kernel_rfl) (by kernel_rfl) (by kernel_rfl) (fun _ _ _ h => h) (Or.inl ⟨by rfl, ?_⟩) HS ?_
  · rintro w' z
    go_simp
  try simp only [Act.put, List.setIfInBounds_toArray, List.set_cons_zero, List.set_cons_succ]
  refine takeD (i := 7) (v := .int .i64 c) (some 12) rfl rfl (by kernel_rfl) (by kernel_rfl) (by kernel_rfl) (fun _ _ _ h => h) (Or.inl ⟨by rfl, ?_⟩) HS ?_
  · rintro w' z
    have d0 := z.beat.cell 1 rfl
    go_simp
  try simp only [Act.put, List.setIfInBounds_toArray, List.set_cons_zero, List.set_cons_succ]
  generalize w1.drew = w2 at *
  refine wpAnyH_ready (rs := [8]) (by kernel_rfl) (by simp) ?_
  refine AllReadyH.cons rfl (fun K hK => ?_) AllReadyH.nil
  go_simp
  refine (waits_any f c w2).mono ?_
  rintro e w3 ⟨rfl, hf3, hc3, hb3⟩
  have HS3 : InvW w q0 q1 x [.int .i64 f, .int .i64 c, a, .int .i64 t] 0 w3 := ⟨HS.box.below hb3 HS.box.lt, HS.ans.below hb3 HS.ans.lt, HS.beat.below hb3 HS.beat.lt, HS.old.trans (hb3.mono HS.old.size)⟩
  refine hK.out _ _ HS3 (fun _ => ?_)
  clear hK K
  try simp only [Act.put, List.setIfInBounds_toArray, List.set_cons_zero, List.set_cons_succ]
  refine wpAnyH_done (by kernel_rfl) ?_ _
  have HI3 := Kp.mk HS3
  have HF3 := Kp.mk (And.intro hf3 hc3)
  have HX3 := Kp.mk (And.intro HS.beat.lt (And.intro HS.box.lt (And.intro HS.ans.lt hb3.size)))
  clear HS HS3 hf3 hc3 hb3
  generalize w2.heap.size = b2 at *
  go_wp2_with fail
  have hseq := fun N => waits_seq (K := K) N HF3.out.1 HF3.out.2 HB.out.1 HB.out.2.1 HB.out.2.2 (by have := HKT.out; omega)
  refine (wpIn_wide (n := 8)).1 ?_
  refine wpIn_rangeFunc_til (F := Fence.wide) (K := K) (encs := fun i => #[.int .i64 i, .int .i64 (wv f c i)]) rfl (by omega) (gf := 27) (lb := #[.pointer (some ⟨b2, 0, none⟩), .pointer (some ⟨b2 + 1, 0, none⟩)]) ?c1 trivial ?c2 ?c3 ?c4
    (fun _ W => InvW w q0 q1 x [.int .i64 f, .int .i64 c, a, .int .i64 t] 0 W) (fun cd W => cd = .exit 0 ∧ InvW w q0 q1 x [.int .i64 f, .int .i64 c, a, .int .i64 t] (wv f c t) W) ?c5 ?c6 ?c7
    (fun i => { tmps := #[.pointer (some ⟨x, 0, none⟩), .pointer (some ⟨q0, 0, none⟩), .pointer (some ⟨q1, 0, none⟩), .int .i64 i, .int .i64 (wv f c i), .pointer (some ⟨x, 0, none⟩), .pointer (some ⟨x, 0, none⟩), .pointer (some ⟨x, 0, none⟩), .int .i64 f, .pointer (some ⟨x, 0, none⟩), .pointer (some ⟨x, 0, none⟩), .pointer (some ⟨x, 1, none⟩), .int .i64 c, .func (.func 27) #[] #[.pointer (some ⟨b2, 0, none⟩), .pointer (some ⟨b2 + 1, 0, none⟩)], .int .i64 i, .int .i64 (wv f c i), undef, undef, undef, undef, undef, undef, undef, undef, undef, undef, undef, undef, undef, undef, undef, undef], defers := [] }) ?assign ?body ?last ?stop
  case c1 => rfl
  case c2 => exact enters_of Try.func27 (by kernel_rfl) rfl
  case c3 => exact hseq _
  case c4 => intro x; rfl
  case c5 => exact fun i A B hi hb => hi.step hb (by have := HX3.out; omega) (by have := HX3.out; omega) (by have := HX3.out; have := HX.out; have := HI.out.beat.lt; omega) (by have := HX3.out; omega)
  case c6 => exact fun cd A B hi hb => ⟨hi.1, hi.2.step hb (by have := HX3.out; omega) (by have := HX3.out; omega) (by have := HX3.out; have := HX.out; have := HI.out.beat.lt; omega) (by have := HX3.out; omega)⟩
  case c7 => exact HI3.out
  case assign =>
    intro l i W K hK
    gi_wp2
    exact hK
  case body =>
    intro l i W hi hik
    have HII := Kp.mk hi
    have d0 := hi.box.cell 0 rfl
    have d1 := hi.beat.cell 3 rfl
    have d2 := hi.beat.cell 1 rfl
    have e1 : ((i : Int) == t) = false := by have := (HK.out.1 i hik).1; simp; omega
    have e2 : (wv f c i == c) = false := by have := (HK.out.1 i hik).2; simpa using this
    clear hi hik
    gi_wp2
    exact ⟨KeepsOthers.refl _, Below.refl _ _, HII.out⟩
  case last =>
    intro l W hi
    have HS2 := Kp.mk (hi.ans.set 0 (.int .i64 (wv f c t)))
    have HG := Kp.mk (grownBy_set W q1 0 (.int .i64 (wv f c t)))
    have HII := Kp.mk hi
    have d0 := hi.box.cell 0 rfl
    have d1 := hi.beat.cell 3 rfl
    have d2 := hi.beat.cell 1 rfl
    have d3 := hi.ans.cell 0 rfl
    have d4 := hi.ans.free 0
    have HQ := Kp.mk (show q0 ≠ q1 ∧ x ≠ q1 ∧ w.heap.size ≤ q1 by have := HX3.out; have := HX.out; omega)
    have fin : InvW w q0 q1 x [.int .i64 f, .int .i64 c, a, .int .i64 t] (wv f c t) (W.setCell ⟨q1, 0, none⟩ (.int .i64 (wv f c t))) := ⟨HII.out.box.grown HG.out HQ.out.1, HS2.out, HII.out.beat.grown HG.out HQ.out.2.1, below_grown HII.out.old HG.out HII.out.old.size HQ.out.2.2⟩
    have FIN := Kp.mk (And.intro (KeepsOthers.setCell W ⟨q1, 0, none⟩ (.int .i64 (wv f c t))) fin)
    have hwv := HK.out.2.2
    clear hi fin
    rcases HK.out.2.1 with hk | ⟨hk1, hk2⟩
    · have e1 : ((K : Int) == t) = true := by simp; omega
      rw [hwv]
      clear hk
      gi_wp2
      exact ⟨FIN.out.1, rfl, FIN.out.2⟩
    · have e1 : ((K : Int) == t) = false := by simp; omega
      have e2 : (wv f c t == c) = true := by rw [← hwv]; simpa using hk2
      rw [hwv]
      clear hk1 hk2
      gi_wp2
      exact ⟨FIN.out.1, rfl, FIN.out.2⟩
  case stop =>
    rintro D cd W hD ⟨rfl, hi⟩ hK
    have d3 := hi.ans.cell 0 rfl
    have d4 := hi.ans.free 0
    have HS2 := Kp.mk (hi.ans.set 0 (.int .i64 (wv f c t)))
    have HG := Kp.mk (grownBy_set W q1 0 (.int .i64 (wv f c t)))
    have HQ := Kp.mk (show w.heap.size ≤ q1 ∧ w.heap.size ≤ D by have := HX3.out; have := HX.out; omega)
    have HB2 := Kp.mk (below_grown hi.old HG.out hi.old.size HQ.out.1)
    have HD := Kp.mk ((KeepsOthers.setCell W ⟨q1, 0, none⟩ (.int .i64 (wv f c t))).same D _ hK rfl)
    clear hi hD hK
    gi_wp2
    go_wp2_with fail
    clear d3 d4
    generalize W.setCell ⟨q1, 0, none⟩ (.int .i64 (wv f c t)) = W6 at *
    have hP : Below w.heap.size w (W6.putObj D (.deferred none)) := HB2.out.trans (belowK_b (w := w) (Nat.le_refl _) W6 D _ _ HQ.out.2 HD.out rfl rfl)
    have hc5 := cell_kept (HS2.out.cell 0 rfl) (grownBy_putObj' W6 D (.deferred none)) (fun r e => by cases e; exact ⟨_, HD.out, rfl⟩)
    refine ⟨by simp, .inl ⟨_, _, rfl, run_takeDeferred HD.out, ?_⟩⟩
    refine ⟨.int .i64 (wv f c t), ?_, rfl, hP⟩
    simp [results, Try.f18, go_sem, hc5]
end Go.Proofs.Ytklbkpnbkpoomaa.Oct
