import Derived.Test.YtnoflfbcgbhipaaGreatSesR
import Derived.Test.YtnoflfbcgbhipaaGreatSesT
set_option linter.unusedSimpArgs false
set_option linter.unusedVariables false
set_option maxRecDepth 100000
set_option maxHeartbeats 8000000
namespace Go.Proofs.YtnoflfbcgbhipaaGreat.Oct
open Go.RowKit
section
variable {w w' : World} {pb gq : Nat} {q : Bk} {x : Ps} {S : Nat → Prop}
theorem PnS.guest (h : PnS w pb q gq x) (hg : Gb w' gq x.sf x.bo x.e) (hc : Ch (fun k => k = gq) w w') : PnS w' pb q gq x := by
 have hn := nob_vb h.gb (by decide) (by decide)
 exact ⟨h.sf, h.bo, hg, fun hs => ⟨(hc.block pb (h.no hs).1.lt (fun e => h.ne.1 e.symm)).trans (h.no hs).1, (h.no hs).2⟩, fun y hs => ⟨(h.yes y hs).1.stay hc (fun e => h.ne.1 e.symm) (fun k e e2 => h.ne.2 (e2 ▸ e)) hn, (h.yes y hs).2⟩⟩
theorem isG_no {z : Sv} {sf bo E : Int} (h : isG z sf bo E = false) : begG z sf bo E = false ∧ epG z sf bo E = E := by
 unfold isG at h
 have h2 : ackG z sf bo E = false := (Bool.or_eq_false_iff.mp h).2
 unfold begG epG
 rw [h2]
 exact ⟨rfl, rfl⟩
theorem beg_facts {z : Sv} {sf bo E : Int} (h : begG z sf bo E = true) : epG z sf bo E = z.p ∧ ansG z sf bo E = svAck sf z.p ∧ 1 ≤ z.p ∧ z.p ≤ 4294967295 := by
 unfold begG at h
 have ha := (Bool.and_eq_true_iff.mp h).1
 have ho : offG z sf bo = true := (Bool.and_eq_true_iff.mp (show (offG z sf bo && decide (E ≤ z.p)) = true from ha)).1
 have hh := off_not ho
 refine ⟨by unfold epG; rw [ha]; rfl, by unfold ansG; rw [hh, ha]; rfl, off_pos ho⟩
theorem epG_same {z : Sv} {sf bo E : Int} (hb : begG z sf bo E = false) : epG z sf bo E = E := by
 unfold epG
 cases ha : ackG z sf bo E with
 | false => rfl
 | true =>
  unfold begG at hb
  rw [ha] at hb
  have h1 : ¬ E < z.p := by simpa using hb
  have h2 : E ≤ z.p := of_decide_eq_true (Bool.and_eq_true_iff.mp ha).2
  show z.p = E
  omega
theorem isn_facts {z : Sv} {sf bo E : Int} (hi : isG z sf bo E = true) (hb : begG z sf bo E = false) (hE : 0 ≤ E) : ansG z sf bo E = svHi sf bo ∨ (ansG z sf bo E = svAck sf z.p ∧ z.p = E ∧ 1 ≤ E) := by
 cases hh : helloG z sf with
 | true => exact .inl (by unfold ansG; rw [hh]; rfl)
 | false =>
  unfold isG at hi
  rw [hh] at hi
  have ha : ackG z sf bo E = true := by simpa using hi
  have ho : offG z sf bo = true := (Bool.and_eq_true_iff.mp (show (offG z sf bo && decide (E ≤ z.p)) = true from ha)).1
  have h2 := epG_same hb
  have h3 : epG z sf bo E = z.p := by unfold epG; rw [ha]; rfl
  have := off_pos ho
  exact .inr ⟨by unfold ansG; rw [hh, ha]; rfl, by omega, by omega⟩
def PsTells (w : World) (pb : Nat) (q : Bk) (gq : Nat) (x' : Ps) (R : List (List Int)) (z : Option Sv) (B : Bool) (en : Ending) (w' : World) : Prop :=
 ∃ A1 n1 c1 Lt A2 n2 c2, en = .returned (.tuple #[.slice A1 n1 c1, .slice A2 n2 c2, .bool B]) ∧ Kp (Vo w' w.heap.size (.slice A1 n1 c1) n1 Lt) ∧ Lt.map Ov.o = tells R ∧ (∀ y ∈ Lt, y.ok w') ∧ Kp (Said w' w.heap.size (.slice A2 n2 c2) n2 (z.map Sv.ms).toList) ∧ ∃ q', PnS w' pb q' gq x' ∧ LnTurn w w' pb gq q gq q'
theorem one_seg (w : World) (base : Nat) (hb : base ≤ w.heap.size) (y : Sv) (h1 : y.A = none) (h2 : y.n = 0) (h3 : y.c = 0) : Said (w.alloc (.cells y.cells.toArray 54)) base (.slice (some ⟨w.heap.size, 0, none⟩) 1 1) 1 [y.ms] :=
 ⟨⟨rfl, .inr ⟨w.heap.size, 1, _, rfl, hb, heap_alloc_new w _, Nat.le_refl _, by unfold maxLen; omega, rfl, by show List.take _ (y.cells.toArray).toList = _; simp [flatS, Sv.ms, Sv.cells]⟩⟩, fun m hm => by
  rw [List.mem_singleton.1 hm]
  obtain ⟨k, t, f, h, p, o, s, a, A, n, c⟩ := y
  simp only at h1 h2 h3
  subst h1 h2 h3
  exact Fok.nil_ _ _⟩
theorem PnS.takeC (h : PnS w pb q gq x) (m : Ms) (hm : Mok w m) (now : Int) : Calls Tryz.prog 37 #[.pointer (some ⟨pb, 0, none⟩), m.x.v, .int .i64 now] w (PsTells w pb q gq (x.take m now) (x.gets m now) (x.answers m now) (x.begins m now)) := by
 unfold PsTells
 have HMX := Kp.mk (show ∀ w2, Ch (lown pb gq q) w w2 → Mok w2 m from fun w2 hc => hm.stay hc (fun b cs m' _ _ hb e => (h.nob b cs m' e).1 hb))
 have HSF := Kp.mk (show x.sf ≠ 0 by have := h.sf.1; omega)
 have HOF := Kp.mk (show ∀ u, PnS u pb q gq x → _ from fun u a => a.ofSession m)
 obtain ⟨⟨k, t, f, hp, p, o, s, a, A, n, cc⟩, ml⟩ := m
 have HGT := Kp.mk (fun (u : World) (a_ : Gb u gq x.sf x.bo x.e) => (show Calls Tryz.prog 70 #[.pointer (some ⟨gq, 0, none⟩), .agg #[.int .i64 k, .int .i64 t, .int .i64 f, .int .i64 hp, .int .i64 p, .int .i64 o, .int .i64 s, .int .i64 a, .slice A n cc]] u (fun en w' => en = .returned (.tuple #[(ansG ⟨k, t, f, hp, p, o, s, a, A, n, cc⟩ x.sf x.bo x.e).v, .bool (isG ⟨k, t, f, hp, p, o, s, a, A, n, cc⟩ x.sf x.bo x.e), .bool (begG ⟨k, t, f, hp, p, o, s, a, A, n, cc⟩ x.sf x.bo x.e)]) ∧ Gb w' gq x.sf x.bo (epG ⟨k, t, f, hp, p, o, s, a, A, n, cc⟩ x.sf x.bo x.e) ∧ u.grownBy w' (some gq)) from gTake_any a_ HSF.out ⟨k, t, f, hp, p, o, s, a, A, n, cc⟩))
 simp only [Sv.v] at HOF ⊢
 have hN := new_segv w k t f hp p o s a A n cc
 have H1 := Kp.mk (h.below hN.2)
 have HC1 := Kp.mk (Ch.of_below (S := lown pb gq q) hN.2)
 have hs0 := hN.1
 clear hN hm h
 go_enter Tryz.func37, Tryz.ntmps37
 go_upto_region 1 with fail
 obtain ⟨gs, hgs⟩ : ∃ gs, gs = w.heap.size := ⟨_, rfl⟩
 rw [← hgs] at hs0 ⊢
 have HGS := Kp.mk hgs
 clear hgs
 generalize w.alloc (.cells #[.int .i64 k, .int .i64 t, .int .i64 f, .int .i64 hp, .int .i64 p, .int .i64 o, .int .i64 s, .int .i64 a, .slice A n cc] 54) = w1 at *
 have hin := H1.out.isNone
 have hti := sTick_any now w1
 cases htk : tickB now with
 | false =>
  rw [htk] at hti
  have HE := Kp.mk (show x.take ⟨⟨k, t, f, hp, p, o, s, a, A, n, cc⟩, ml⟩ now = x ∧ x.gets ⟨⟨k, t, f, hp, p, o, s, a, A, n, cc⟩, ml⟩ now = [] ∧ x.answers ⟨⟨k, t, f, hp, p, o, s, a, A, n, cc⟩, ml⟩ now = none ∧ x.begins ⟨⟨k, t, f, hp, p, o, s, a, A, n, cc⟩, ml⟩ now = false by
   unfold Ps.take Ps.gets Ps.answers Ps.begins
   rw [htk]
   exact ⟨by simp, by simp, by simp, by simp⟩)
  go_wp2_with (first | (go_at_call 58; refine hin.mono ?_; rintro en w2 ⟨rfl, hw2⟩; replace hw2 := hw2.symm; subst hw2) | (go_at_call 60; refine hti.mono ?_; rintro en w2 ⟨rfl, hw2⟩; replace hw2 := hw2.symm; subst hw2))
  refine bodyPost_ret (results_tmp3 rfl _ _ _) rfl ?_
  refine ⟨none, 0, 0, [], none, 0, 0, by rw [HE.out.2.2.2]; rfl, Kp.mk (Vo.nil0 _ _), by rw [HE.out.2.1]; rfl, fun y hy => by simp at hy, by rw [HE.out.2.2.1]; exact Kp.mk (Said.nil0 _ _), q, by rw [HE.out.1]; exact H1.out, HC1.out, fun k e => .inl e⟩
 | true =>
  rw [htk] at hti
  go_upto_region 3 with (first | (go_at_call 58; refine hin.mono ?_; rintro en w2 ⟨rfl, hw2⟩; replace hw2 := hw2.symm; subst hw2) | (go_at_call 60; refine hti.mono ?_; rintro en w2 ⟨rfl, hw2⟩; replace hw2 := hw2.symm; subst hw2))
  clear hin hti
  have HS0 := Kp.mk hs0
  clear hs0
  go_cut [8, 9, 10] from 19 to 28 (fun s8 s9 s10 wx => ∃ gA : Nat, s8 = .bool (begG ⟨k, t, f, hp, p, o, s, a, A, n, cc⟩ x.sf x.bo x.e) ∧ s9 = .pointer (some ⟨gA, 0, none⟩) ∧ s10 = .bool (isG ⟨k, t, f, hp, p, o, s, a, A, n, cc⟩ x.sf x.bo x.e) ∧ Kp (Gb wx gq x.sf x.bo (epG ⟨k, t, f, hp, p, o, s, a, A, n, cc⟩ x.sf x.bo x.e)) ∧ Kp (Ch (fun k => k = gq) w1 wx) ∧ Kp (Vb 54 wx gA (ansG ⟨k, t, f, hp, p, o, s, a, A, n, cc⟩ x.sf x.bo x.e).cells) ∧ Kp (w1.heap.size ≤ gA))
  case first =>
   refine wp_region_held_drew (S := fun X => (∃ cs, Vb 91 X pb cs ∧ cs[7]? = some (.pointer (some ⟨gq, 0, none⟩))) ∧ Vb 54 X gs [.int .i64 k, .int .i64 t, .int .i64 f, .int .i64 hp, .int .i64 p, .int .i64 o, .int .i64 s, .int .i64 a, .slice A n cc]) (by kernel_rfl) ⟨by obtain ⟨cs, hv, _, _, _, h7⟩ := H1.out.full; exact ⟨cs, hv, h7⟩, HS0.out⟩ (fun hS0 => ?_)
   have hgb : Gb w1.drew gq x.sf x.bo x.e := H1.out.gb
   have hcd : Ch (fun k => k = gq) w1 w1.drew := .of_below (Below.refl w1.heap.size w1).drew
   generalize w1.drew = u at *
   refine tD 0 (.pointer (some ⟨pb, 0, none⟩)) 20 rfl rfl hS0 ?_ ?_
   ·rintro w' hq
    go_simp
   try simp only [Act.put, zA, zB, zC]
   refine tD 1 (.pointer (some ⟨pb, 0, none⟩)) 21 rfl rfl hS0 ?_ ?_
   ·rintro w' hq
    go_simp
   try simp only [Act.put, zA, zB, zC]
   refine tD 2 (.pointer (some ⟨pb, 7, none⟩)) 22 rfl rfl hS0 ?_ ?_
   ·rintro w' hq
    go_simp
   try simp only [Act.put, zA, zB, zC]
   refine tD 3 (.pointer (some ⟨gq, 0, none⟩)) 23 rfl rfl hS0 ?_ ?_
   ·rintro w' hq
    obtain ⟨⟨cs, hv, h7⟩, _⟩ := hq
    have c7 := hv.cell 7 h7
    go_simp
   try simp only [Act.put, zA, zB, zC]
   refine tD 4 (.agg #[.int .i64 k, .int .i64 t, .int .i64 f, .int .i64 hp, .int .i64 p, .int .i64 o, .int .i64 s, .int .i64 a, .slice A n cc]) 24 rfl rfl hS0 ?_ ?_
   ·rintro w' hq
    exact exec_load_vb (vs := [.int .i64 k, .int .i64 t, .int .i64 f, .int .i64 hp, .int .i64 p, .int .i64 o, .int .i64 s, .int .i64 a, .slice A n cc]) (.tmp 4) rfl rfl (hq.2) rfl agg_seg
   try simp only [Act.put, zA, zB, zC]
   refine wpAnyH_ready (rs := [5, 10]) (by kernel_rfl) (by simp) ?_
   refine AllReadyH.cons rfl (fun K hK => ?_) (AllReadyH.cons rfl (fun K hK => ?_) AllReadyH.nil)
   ·skip
    try rw [if_pos (by rfl)]
    go_simp
    refine (HGT.out u hgb).mono ?_
    rintro en u2 ⟨rfl, hgb2, hg2⟩
    have hne : pb ≠ gq ∧ gs ≠ gq := by
         obtain ⟨⟨cs, hv, _⟩, hs⟩ := hS0
         exact ⟨vb_ne hv hgb (by decide), vb_ne hs hgb (by decide)⟩
    have hS2 : (∃ cs, Vb 91 u2 pb cs ∧ cs[7]? = some (.pointer (some ⟨gq, 0, none⟩))) ∧ Vb 54 u2 gs [.int .i64 k, .int .i64 t, .int .i64 f, .int .i64 hp, .int .i64 p, .int .i64 o, .int .i64 s, .int .i64 a, .slice A n cc] := ⟨by obtain ⟨⟨cs, hv, h7⟩, _⟩ := hS0; exact ⟨cs, hv.grown hg2 hne.1, h7⟩, hS0.2.grown hg2 hne.2⟩
    refine hK.out _ _ hS2 (fun _ => ?_)
    clear hK K
    try simp only [Act.put, zA, zB, zC]
    refine tD 6 (.tuple #[(ansG ⟨k, t, f, hp, p, o, s, a, A, n, cc⟩ x.sf x.bo x.e).v, .bool (isG ⟨k, t, f, hp, p, o, s, a, A, n, cc⟩ x.sf x.bo x.e), .bool (begG ⟨k, t, f, hp, p, o, s, a, A, n, cc⟩ x.sf x.bo x.e)]) 19 rfl rfl hS2 (fun _ _ => by go_simp) ?_
    try simp only [Act.put, zA, zB, zC]
    refine tD 7 ((ansG ⟨k, t, f, hp, p, o, s, a, A, n, cc⟩ x.sf x.bo x.e).v) 26 rfl rfl hS2 (fun _ _ => by go_simp) ?_
    try simp only [Act.put, zA, zB, zC]
    refine tD 8 (.bool (isG ⟨k, t, f, hp, p, o, s, a, A, n, cc⟩ x.sf x.bo x.e)) 27 rfl rfl hS2 (fun _ _ => by go_simp) ?_
    try simp only [Act.put, zA, zB, zC]
    refine tD 9 (.bool (begG ⟨k, t, f, hp, p, o, s, a, A, n, cc⟩ x.sf x.bo x.e)) 28 rfl rfl hS2 (fun _ _ => by go_simp) ?_
    try simp only [Act.put, zA, zB, zC]
    have hb3 := below_alloc u2 (.cells #[.int .i64 0, .int .i64 0, .int .i64 0, .int .i64 0, .int .i64 0, .int .i64 0, .int .i64 0, .int .i64 0, .slice none 0 0] 54)
    have hvA : Vb 54 (u2.alloc (.cells #[.int .i64 0, .int .i64 0, .int .i64 0, .int .i64 0, .int .i64 0, .int .i64 0, .int .i64 0, .int .i64 0, .slice none 0 0] 54)) u2.heap.size sv0.cells := Vb.new _ u2 sv0.cells
    have hS3 : (∃ cs, Vb 91 (u2.alloc (.cells #[.int .i64 0, .int .i64 0, .int .i64 0, .int .i64 0, .int .i64 0, .int .i64 0, .int .i64 0, .int .i64 0, .slice none 0 0] 54)) pb cs ∧ cs[7]? = some (.pointer (some ⟨gq, 0, none⟩))) ∧ Vb 54 (u2.alloc (.cells #[.int .i64 0, .int .i64 0, .int .i64 0, .int .i64 0, .int .i64 0, .int .i64 0, .int .i64 0, .int .i64 0, .slice none 0 0] 54)) gs [.int .i64 k, .int .i64 t, .int .i64 f, .int .i64 hp, .int .i64 p, .int .i64 o, .int .i64 s, .int .i64 a, .slice A n cc] := ⟨by obtain ⟨⟨cs, hv, h7⟩, _⟩ := hS2; exact ⟨cs, hv.below hb3 hv.lt, h7⟩, hS2.2.below hb3 hS2.2.lt⟩
    have hgbZ : Gb (u2.alloc (.cells #[.int .i64 0, .int .i64 0, .int .i64 0, .int .i64 0, .int .i64 0, .int .i64 0, .int .i64 0, .int .i64 0, .slice none 0 0] 54)) gq x.sf x.bo (epG ⟨k, t, f, hp, p, o, s, a, A, n, cc⟩ x.sf x.bo x.e) := Vb.below hgb2 hb3 (Vb.lt hgb2)
    have hcZ := (hcd.trans (Ch.of_grown hg2) (fun _ _ e => e)).trans (Ch.of_below (S := fun k => k = gq) hb3) (fun _ _ e => e)
    have HGA := Kp.mk (show w1.heap.size ≤ u2.heap.size from Nat.le_trans hcd.size hg2.size)
    refine rD 10 rfl fun K hK => ?_
    try rw [if_pos (by rfl)]
    go_simp
    refine hK.out _ _ hS3 (fun _ => ?_)
    clear hK K hS2 hgb2 hg2 hb3
    try simp only [Act.put, zA, zB, zC]
    generalize u2.alloc (.cells #[.int .i64 0, .int .i64 0, .int .i64 0, .int .i64 0, .int .i64 0, .int .i64 0, .int .i64 0, .int .i64 0, .slice none 0 0] 54) = u3 at *
    generalize u2.heap.size = gA at *
    refine rD 11 rfl fun K hK => ?_
    try rw [if_pos (by rfl)]
    refine wp_store_vbH (vs := (ansG ⟨k, t, f, hp, p, o, s, a, A, n, cc⟩ x.sf x.bo x.e).cells) none rfl (.tmp 9) (.tmp 26) rfl rfl rfl hvA rfl agg_seg rfl ?_
    intro u5 hv5 hg5 hz5
    have hS5 : (∃ cs, Vb 91 u5 pb cs ∧ cs[7]? = some (.pointer (some ⟨gq, 0, none⟩))) ∧ Vb 54 u5 gs [.int .i64 k, .int .i64 t, .int .i64 f, .int .i64 hp, .int .i64 p, .int .i64 o, .int .i64 s, .int .i64 a, .slice A n cc] := ⟨by obtain ⟨⟨cs, hv, h7⟩, _⟩ := hS3; exact ⟨cs, hv.grown hg5 (vb_ne hv hvA (by decide)), h7⟩, hS3.2.grown hg5 (by have := HGA.out; have := HS0.out.lt; omega)⟩
    have HG5 := Kp.mk (show Gb u5 gq x.sf x.bo (epG ⟨k, t, f, hp, p, o, s, a, A, n, cc⟩ x.sf x.bo x.e) from Vb.grown hgbZ hg5 (vb_ne hgbZ hvA (by decide)))
    have HC5 := Kp.mk (hcZ.trans (Ch.of_grown hg5) (fun k hk e => absurd hk (by have := HGA.out; omega)))
    have HV5 := Kp.mk hv5
    refine hK.out _ _ hS5 (fun _ => ?_)
    clear hK K
    try simp only [Act.put, zA, zB, zC]
    refine tD 12 (.bool (isG ⟨k, t, f, hp, p, o, s, a, A, n, cc⟩ x.sf x.bo x.e)) 10 rfl rfl hS5 (fun _ _ => by go_simp) ?_
    try simp only [Act.put, zA, zB, zC]
    refine tD 13 (.bool (begG ⟨k, t, f, hp, p, o, s, a, A, n, cc⟩ x.sf x.bo x.e)) 8 rfl rfl hS5 (fun _ _ => by go_simp) ?_
    try simp only [Act.put, zA, zB, zC]
    refine wpAnyH_done (by kernel_rfl) ?_ _
    clear hS5 hv5 hg5 hz5
    go_wp2_with fail
    go_meet
    case rel => exact ⟨gA, rfl, rfl, rfl, HG5, HC5, HV5, HGA⟩
   ·skip
    try rw [if_pos (by rfl)]
    have hb3 := below_alloc u (.cells #[.int .i64 0, .int .i64 0, .int .i64 0, .int .i64 0, .int .i64 0, .int .i64 0, .int .i64 0, .int .i64 0, .slice none 0 0] 54)
    have hvA : Vb 54 (u.alloc (.cells #[.int .i64 0, .int .i64 0, .int .i64 0, .int .i64 0, .int .i64 0, .int .i64 0, .int .i64 0, .int .i64 0, .slice none 0 0] 54)) u.heap.size sv0.cells := Vb.new _ u sv0.cells
    have hS3 : (∃ cs, Vb 91 (u.alloc (.cells #[.int .i64 0, .int .i64 0, .int .i64 0, .int .i64 0, .int .i64 0, .int .i64 0, .int .i64 0, .int .i64 0, .slice none 0 0] 54)) pb cs ∧ cs[7]? = some (.pointer (some ⟨gq, 0, none⟩))) ∧ Vb 54 (u.alloc (.cells #[.int .i64 0, .int .i64 0, .int .i64 0, .int .i64 0, .int .i64 0, .int .i64 0, .int .i64 0, .int .i64 0, .slice none 0 0] 54)) gs [.int .i64 k, .int .i64 t, .int .i64 f, .int .i64 hp, .int .i64 p, .int .i64 o, .int .i64 s, .int .i64 a, .slice A n cc] := ⟨by obtain ⟨⟨cs, hv, h7⟩, _⟩ := hS0; exact ⟨cs, hv.below hb3 hv.lt, h7⟩, hS0.2.below hb3 hS0.2.lt⟩
    replace hgb : Gb (u.alloc (.cells #[.int .i64 0, .int .i64 0, .int .i64 0, .int .i64 0, .int .i64 0, .int .i64 0, .int .i64 0, .int .i64 0, .slice none 0 0] 54)) gq x.sf x.bo x.e := Vb.below hgb hb3 (Vb.lt hgb)
    have hcd2 := hcd.trans (Ch.of_below (S := fun k => k = gq) hb3) (fun _ _ e => e)
    have HGA := Kp.mk (show w1.heap.size ≤ u.heap.size from hcd.size)
    go_simp
    refine hK.out _ _ hS3 (fun _ => ?_)
    clear hK K hS0 hb3 hcd
    try simp only [Act.put, zA, zB, zC]
    generalize u.alloc (.cells #[.int .i64 0, .int .i64 0, .int .i64 0, .int .i64 0, .int .i64 0, .int .i64 0, .int .i64 0, .int .i64 0, .slice none 0 0] 54) = u1 at *
    generalize u.heap.size = gA at *
    refine rD 5 rfl fun K hK => ?_
    try rw [if_pos (by rfl)]
    go_simp
    refine (HGT.out u1 hgb).mono ?_
    rintro en u2 ⟨rfl, hgb2, hg2⟩
    have hne : pb ≠ gq ∧ gs ≠ gq := by
         obtain ⟨⟨cs, hv, _⟩, hs⟩ := hS3
         exact ⟨vb_ne hv hgb (by decide), vb_ne hs hgb (by decide)⟩
    have hS2 : (∃ cs, Vb 91 u2 pb cs ∧ cs[7]? = some (.pointer (some ⟨gq, 0, none⟩))) ∧ Vb 54 u2 gs [.int .i64 k, .int .i64 t, .int .i64 f, .int .i64 hp, .int .i64 p, .int .i64 o, .int .i64 s, .int .i64 a, .slice A n cc] := ⟨by obtain ⟨⟨cs, hv, h7⟩, _⟩ := hS3; exact ⟨cs, hv.grown hg2 hne.1, h7⟩, hS3.2.grown hg2 hne.2⟩
    replace hvA : Vb 54 u2 gA sv0.cells := hvA.grown hg2 (vb_ne hvA hgb (by decide))
    have hgbZ := hgb2
    have hcZ := hcd2.trans (Ch.of_grown hg2) (fun _ _ e => e)
    refine hK.out _ _ hS2 (fun _ => ?_)
    clear hK K hS3 hgb hg2 hcd2
    try simp only [Act.put, zA, zB, zC]
    refine tD 6 (.tuple #[(ansG ⟨k, t, f, hp, p, o, s, a, A, n, cc⟩ x.sf x.bo x.e).v, .bool (isG ⟨k, t, f, hp, p, o, s, a, A, n, cc⟩ x.sf x.bo x.e), .bool (begG ⟨k, t, f, hp, p, o, s, a, A, n, cc⟩ x.sf x.bo x.e)]) 19 rfl rfl hS2 (fun _ _ => by go_simp) ?_
    try simp only [Act.put, zA, zB, zC]
    refine tD 7 ((ansG ⟨k, t, f, hp, p, o, s, a, A, n, cc⟩ x.sf x.bo x.e).v) 26 rfl rfl hS2 (fun _ _ => by go_simp) ?_
    try simp only [Act.put, zA, zB, zC]
    refine tD 8 (.bool (isG ⟨k, t, f, hp, p, o, s, a, A, n, cc⟩ x.sf x.bo x.e)) 27 rfl rfl hS2 (fun _ _ => by go_simp) ?_
    try simp only [Act.put, zA, zB, zC]
    refine tD 9 (.bool (begG ⟨k, t, f, hp, p, o, s, a, A, n, cc⟩ x.sf x.bo x.e)) 28 rfl rfl hS2 (fun _ _ => by go_simp) ?_
    try simp only [Act.put, zA, zB, zC]
    refine rD 11 rfl fun K hK => ?_
    try rw [if_pos (by rfl)]
    refine wp_store_vbH (vs := (ansG ⟨k, t, f, hp, p, o, s, a, A, n, cc⟩ x.sf x.bo x.e).cells) none rfl (.tmp 9) (.tmp 26) rfl rfl rfl hvA rfl agg_seg rfl ?_
    intro u5 hv5 hg5 hz5
    have hS5 : (∃ cs, Vb 91 u5 pb cs ∧ cs[7]? = some (.pointer (some ⟨gq, 0, none⟩))) ∧ Vb 54 u5 gs [.int .i64 k, .int .i64 t, .int .i64 f, .int .i64 hp, .int .i64 p, .int .i64 o, .int .i64 s, .int .i64 a, .slice A n cc] := ⟨by obtain ⟨⟨cs, hv, h7⟩, _⟩ := hS2; exact ⟨cs, hv.grown hg5 (vb_ne hv hvA (by decide)), h7⟩, hS2.2.grown hg5 (by have := HGA.out; have := HS0.out.lt; omega)⟩
    have HG5 := Kp.mk (show Gb u5 gq x.sf x.bo (epG ⟨k, t, f, hp, p, o, s, a, A, n, cc⟩ x.sf x.bo x.e) from Vb.grown hgbZ hg5 (vb_ne hgbZ hvA (by decide)))
    have HC5 := Kp.mk (hcZ.trans (Ch.of_grown hg5) (fun k hk e => absurd hk (by have := HGA.out; omega)))
    have HV5 := Kp.mk hv5
    refine hK.out _ _ hS5 (fun _ => ?_)
    clear hK K
    try simp only [Act.put, zA, zB, zC]
    refine tD 12 (.bool (isG ⟨k, t, f, hp, p, o, s, a, A, n, cc⟩ x.sf x.bo x.e)) 10 rfl rfl hS5 (fun _ _ => by go_simp) ?_
    try simp only [Act.put, zA, zB, zC]
    refine tD 13 (.bool (begG ⟨k, t, f, hp, p, o, s, a, A, n, cc⟩ x.sf x.bo x.e)) 8 rfl rfl hS5 (fun _ _ => by go_simp) ?_
    try simp only [Act.put, zA, zB, zC]
    refine wpAnyH_done (by kernel_rfl) ?_ _
    clear hS5 hv5 hg5 hz5
    go_wp2_with fail
    go_meet
    case rel => exact ⟨gA, rfl, rfl, rfl, HG5, HC5, HV5, HGA⟩
  case rest =>
  obtain ⟨gA, rfl, rfl, rfl, HG, HC, HV, HA⟩ := hcut
  have HLA := Kp.mk (show ¬ lown pb gq q gA ∧ w.heap.size ≤ gA from ⟨fun e => by have := H1.out.lt gA e; have := HA.out; omega, Nat.le_trans HC1.out.size HA.out⟩)
  cases hI : isG ⟨k, t, f, hp, p, o, s, a, A, n, cc⟩ x.sf x.bo x.e with
  | false =>
   obtain ⟨hB, hep⟩ := isG_no hI
   rw [hep] at HG
   rw [hB]
   have H2 := Kp.mk (H1.out.guest HG.out HC.out)
   have HC2 := Kp.mk (HC1.out.trans HC.out (fun k _ e => .inr (.inl e)))
   have HS2 := Kp.mk (show Vb 54 wc gs [.int .i64 k, .int .i64 t, .int .i64 f, .int .i64 hp, .int .i64 p, .int .i64 o, .int .i64 s, .int .i64 a, .slice A n cc] from (HC.out.block gs HS0.out.lt (fun e => vb_ne HS0.out H1.out.gb (by decide) e)).trans HS0.out)
   have HE := Kp.mk (show x.answers ⟨⟨k, t, f, hp, p, o, s, a, A, n, cc⟩, ml⟩ now = none ∧ x.begins ⟨⟨k, t, f, hp, p, o, s, a, A, n, cc⟩, ml⟩ now = false by
    unfold Ps.answers Ps.begins Ps.isA Ps.beg
    simp only
    rw [hI, hB, htk]
    exact ⟨rfl, rfl⟩)
   have HEN := Kp.mk (show x.hasM ⟨⟨k, t, f, hp, p, o, s, a, A, n, cc⟩, ml⟩ = false → x.take ⟨⟨k, t, f, hp, p, o, s, a, A, n, cc⟩, ml⟩ now = x ∧ x.gets ⟨⟨k, t, f, hp, p, o, s, a, A, n, cc⟩, ml⟩ now = [] from fun e => by
    unfold Ps.take Ps.gets Ps.isA
    simp only [htk, hI, if_true]
    unfold Ps.hasM at e
    cases hs : x.s with
    | none => simp
    | some y => rw [hs] at e; simp only at e; simp [e])
   have HEY := Kp.mk (show x.hasM ⟨⟨k, t, f, hp, p, o, s, a, A, n, cc⟩, ml⟩ = true → ∃ y, x.s = some y ∧ (⟨k, t, f, hp, p, o, s, a, A, n, cc⟩ : Sv).ok = true ∧ x.take ⟨⟨k, t, f, hp, p, o, s, a, A, n, cc⟩, ml⟩ now = ⟨x.sf, x.bo, some (y.hears k s a ml now)⟩ ∧ x.gets ⟨⟨k, t, f, hp, p, o, s, a, A, n, cc⟩, ml⟩ now = y.gets k s ml from fun e => by
    unfold Ps.take Ps.gets Ps.isA
    simp only [htk, hI, if_true]
    unfold Ps.hasM at e
    cases hs : x.s with
    | none => rw [hs] at e; simp at e
    | some y =>
     rw [hs] at e
     simp only at e
     have hok : (⟨k, t, f, hp, p, o, s, a, A, n, cc⟩ : Sv).ok = true := by
      unfold Ps.mine at e
      simp only [Bool.and_eq_true] at e
      exact e.1.1
     exact ⟨y, rfl, hok, by simp [e], by simp [e]⟩)
   clear hB hep hI HG HC HV HA HLA H1 HC1 HS0
   go_upto_region 7 with fail
   have hb3 := below_alloc wc (.cells #[.slice none 0 0] 124)
   have HZ2 := Kp.mk (show w.heap.size ≤ wc.heap.size from HC2.out.size)
   have HT3 := Kp.mk (show Tl (wc.alloc (.cells #[.slice none 0 0] 124)) w.heap.size wc.heap.size none [] from ⟨none, 0, 0, Vb.new 124 wc [.slice none 0 0], Vo.nil0 _ _, rfl, HZ2.out⟩)
   have HL3 := Kp.mk (H2.out.below hb3)
   have HS3 := Kp.mk (HS2.out.below hb3 HS2.out.lt)
   have HC4 := Kp.mk (HC2.out.trans (Ch.of_below (S := lown pb gq q) hb3) (fun _ _ e => e))
   have HGTT := Kp.mk (show ¬ lown pb gq q wc.heap.size ∧ w.heap.size ≤ wc.heap.size from ⟨fun e => by have := H2.out.lt _ e; omega, HZ2.out⟩)
   clear hb3 H2 HS2 HC2 HZ2
   generalize wc.alloc (.cells #[.slice none 0 0] 124) = w3 at *
   generalize wc.heap.size = gt at *
   have hs3 := HS3.out
   have hof := HOF.out w3 HL3.out
   go_wp2_with (refine wpList_load_vb (vs := [.int .i64 k, .int .i64 t, .int .i64 f, .int .i64 hp, .int .i64 p, .int .i64 o, .int .i64 s, .int .i64 a, .slice A n cc]) rfl (.tmp 4) rfl rfl hs3 rfl agg_seg ?_)
   refine hof.mono ?_
   rintro en w4 ⟨rfl, hb4⟩
   have HT4 := Kp.mk (HT3.out.below hb4)
   have HL4 := Kp.mk (HL3.out.below hb4)
   have HS4 := Kp.mk (HS3.out.below hb4 HS3.out.lt)
   have HC5 := Kp.mk (HC4.out.trans (Ch.of_below (S := lown pb gq q) hb4) (fun _ _ e => e))
   clear hof hb4 hs3 HT3 HL3 HS3 HC4
   cases hm : x.hasM ⟨⟨k, t, f, hp, p, o, s, a, A, n, cc⟩, ml⟩ with
   | false =>
    have HN := Kp.mk (HEN.out hm)
    obtain ⟨tA, tn, tc, htv, hto, htr, htb⟩ := HT4.out
    have t0 := htv.cell 0 rfl
    have HTO := Kp.mk hto
    clear htv hto htr htb HT4 hm
    go_wp2_with fail
    refine bodyPost_ret (results_tmp3 rfl _ _ _) rfl ?_
    refine ⟨tA, tn, tc, [], none, 0, 0, by rw [HE.out.2]; rfl, HTO, by rw [HN.out.2]; rfl, fun y hy => by simp at hy, by rw [HE.out.1]; exact Kp.mk (Said.nil0 _ _), q, by rw [HN.out.1]; exact HL4.out, HC5.out, fun k e => .inl e⟩
   | true =>
    obtain ⟨y, hsy, hok, htake, hgets⟩ := HEY.out hm
    have HY := Kp.mk (And.intro hsy (And.intro hok (And.intro htake hgets)))
    clear hm hsy hok htake hgets
    go_upto_region 8 with fail
    refine wp_region_held_drew (S := fun X => Vb 54 X gs [.int .i64 k, .int .i64 t, .int .i64 f, .int .i64 hp, .int .i64 p, .int .i64 o, .int .i64 s, .int .i64 a, .slice A n cc]) (by kernel_rfl) HS4.out (fun hS0 => ?_)
    have hbd := (Below.refl w4.heap.size w4).drew
    have HT5 := Kp.mk (HT4.out.below hbd)
    have HL5 := Kp.mk (HL4.out.below hbd)
    have HC6 := Kp.mk (HC5.out.trans (Ch.of_below (S := lown pb gq q) hbd) (fun _ _ e => e))
    clear hbd HT4 HL4 HS4 HC5
    generalize w4.drew = v2 at *
    refine tD 0 (.pointer (some ⟨pb, 0, none⟩)) 39 rfl rfl hS0 (fun _ _ => by go_simp) ?_
    try simp only [Act.put, zA, zB, zC]
    refine tD 1 (.pointer (some ⟨pb, 0, none⟩)) 40 rfl rfl hS0 (fun _ _ => by go_simp) ?_
    try simp only [Act.put, zA, zB, zC]
    refine tD 2 (.pointer (some ⟨pb, 0, none⟩)) 41 rfl rfl hS0 (fun _ _ => by go_simp) ?_
    try simp only [Act.put, zA, zB, zC]
    refine tD 3 (.agg #[.int .i64 k, .int .i64 t, .int .i64 f, .int .i64 hp, .int .i64 p, .int .i64 o, .int .i64 s, .int .i64 a, .slice A n cc]) 42 rfl rfl hS0 ?_ ?_
    ·rintro w' hq
     exact exec_load_vb (vs := [.int .i64 k, .int .i64 t, .int .i64 f, .int .i64 hp, .int .i64 p, .int .i64 o, .int .i64 s, .int .i64 a, .slice A n cc]) (.tmp 4) rfl rfl (hq) rfl agg_seg
    try simp only [Act.put, zA, zB, zC]
    refine tD 4 (.int .i64 now) 43 rfl rfl hS0 (fun _ _ => by go_simp) ?_
    try simp only [Act.put, zA, zB, zC]
    refine rD 5 rfl fun K hK => ?_
    try rw [if_pos (by rfl)]
    go_simp
    refine hK.out _ _ hS0 (fun _ => ?_)
    clear hK K
    try simp only [Act.put, zA, zB, zC]
    refine rD 6 rfl fun K hK => ?_
    try rw [if_pos (by rfl)]
    go_simp
    have HBD := Kp.mk (HL5.out.yes y HY.out.1)
    refine (bhears_any HBD.out.1 HT5.out (Nat.le_trans HGTT.out.2 (Nat.le_of_lt HT5.out.ltr.1)) ⟨⟨k, t, f, hp, p, o, s, a, A, n, cc⟩, ml⟩ (HMX.out v2 HC6.out) HY.out.2.1 htk).mono ?_
    rintro en v3 ⟨rfl, r, Lt, hP⟩
    have hne : gs ≠ pb ∧ ¬ q.own gs ∧ gs ≠ gt := ⟨vb_ne hS0 HBD.out.1.own (by decide), HBD.out.1.bi.not (by decide) hS0, by obtain ⟨_, _, _, hv, _⟩ := HT5.out; exact vb_ne hS0 hv (by decide)⟩
    have hS3 : Vb 54 v3 gs [.int .i64 k, .int .i64 t, .int .i64 f, .int .i64 hp, .int .i64 p, .int .i64 o, .int .i64 s, .int .i64 a, .slice A n cc] := (hP.old.block gs hS0.lt (fun e => e.elim hne.1 (fun e => e.elim hne.2.1 hne.2.2))).trans hS0
    have HP := Kp.mk hP
    clear hP hne
    refine hK.out _ _ hS3 (fun _ => ?_)
    clear hK K
    try simp only [Act.put, zA, zB, zC]
    clear hS0 hS3
    refine wpAnyH_done (by kernel_rfl) ?_ _
    obtain ⟨tA, tn, tc, htv, hto, htr, htb⟩ := HP.out.tl
    have t0 := htv.cell 0 rfl
    have HTO := Kp.mk hto
    have hgc : gq ≠ gt := by
     obtain ⟨_, _, _, hv, _⟩ := HT5.out
     exact fun e => vb_ne hv HL5.out.gb (by decide) e.symm
    have hcl : Ch (fun k => k = pb ∨ q.own k ∨ k = gt) v2 v3 := HP.out.old
    have hk := hears_keeps (b := y) k s a ml now
    have HF := Kp.mk (HL5.out.body HY.out.1 HP.out.bd hcl (fun e => e.elim HL5.out.ne.1 (fun e => e.elim HL5.out.ne.2 hgc)) ⟨hk.1, hk.2.1, hk.2.2.1⟩)
    have HC7 := Kp.mk (HC6.out.trans hcl (fun k hk e => e.elim .inl (fun e => e.elim (fun e => .inr (.inr e)) (fun e => absurd HGTT.out.2 (by omega)))))
    have HPP := Kp.mk (And.intro HP.out.map HP.out.ok)
    clear htv hto htr htb hgc hcl hk HP HL5 HC6 HT5 HBD
    go_wp2_with fail
    refine bodyPost_ret (results_tmp3 rfl _ _ _) rfl ?_
    refine ⟨tA, tn, tc, Lt, none, 0, 0, by rw [HE.out.2]; rfl, HTO, by rw [HY.out.2.2.2]; exact HPP.out.1, HPP.out.2, by rw [HE.out.1]; exact Kp.mk (Said.nil0 _ _), q, by rw [HY.out.2.2.1]; exact HF.out, HC7.out, fun k e => .inl e⟩
  | true =>
   cases hB : begG ⟨k, t, f, hp, p, o, s, a, A, n, cc⟩ x.sf x.bo x.e with
   | true =>
    obtain ⟨hep, han, hp1, hp2⟩ := beg_facts hB
    simp only at hep han hp1 hp2
    rw [hep] at HG
    rw [han] at HV
    have HE := Kp.mk (show x.take ⟨⟨k, t, f, hp, p, o, s, a, A, n, cc⟩, ml⟩ now = ⟨x.sf, x.bo, some (bo0 0 x.sf p)⟩ ∧ x.gets ⟨⟨k, t, f, hp, p, o, s, a, A, n, cc⟩, ml⟩ now = [] ∧ x.answers ⟨⟨k, t, f, hp, p, o, s, a, A, n, cc⟩, ml⟩ now = some (svAck x.sf p) ∧ x.begins ⟨⟨k, t, f, hp, p, o, s, a, A, n, cc⟩, ml⟩ now = true by
     unfold Ps.take Ps.gets Ps.answers Ps.begins Ps.ans Ps.bodyA Ps.isA Ps.beg Ps.withA
     simp only
     rw [hI, hB, htk, han]
     exact ⟨by simp, by simp, by simp [svAck, bo0], rfl⟩)
    obtain ⟨cs, hv, hlen, h1, h2, h7⟩ := H1.out.full
    have hne := H1.out.ne
    have hv2 : Vb 91 wc pb cs := (HC.out.block pb hv.lt (fun e => hne.1 e.symm)).trans hv
    have hab := answers_beg hv2 hlen h1 h7 HG.out H1.out.sf H1.out.bo ⟨hp1, hp2⟩ (svAck x.sf p) rfl
    have HC2 := Kp.mk (HC1.out.trans HC.out (fun k _ e => .inr (.inl e)))
    have HV2 := HV.out
    clear hep han hp1 hp2 hv hv2 hlen h1 h2 h7 hne HG HC HA hI hB HC1 HS0
    simp only [svAck, Sv.v, Sv.cells] at hab HV2
    go_wp2_with (refine wpList_load_vb (vs := [.int .i64 4, .int .i64 0, .int .i64 x.sf, .int .i64 12, .int .i64 p, .int .i64 0, .int .i64 0, .int .i64 0, .slice none 0 0]) rfl (.tmp 9) rfl rfl HV2 rfl agg_seg ?_)
    refine hab.mono ?_
    rintro en w5 ⟨rfl, q5, hP5, hC5, hQ5⟩
    have hN := one_seg w5 w.heap.size (Nat.le_trans HC2.out.size hC5.size) (svAck x.sf p) rfl rfl rfl
    have hb6 := below_alloc w5 (.cells (svAck x.sf p).cells.toArray 54)
    have HF := Kp.mk (hP5.below hb6)
    have HSD := Kp.mk hN
    have HC6 := Kp.mk ((HC2.out.trans hC5 (fun k _ e => .inl e)).trans (Ch.of_below (S := lown pb gq q) hb6) (fun _ _ e => e))
    have HQ := Kp.mk (show ∀ k, lown pb gq q5 k → lown pb gq q k ∨ w.heap.size ≤ k from fun k e => e.elim (fun e => .inl (.inl e)) (fun e => e.elim (fun e => .inl (.inr (.inl e))) (fun e => .inr (Nat.le_trans HC2.out.size (hQ5 k e)))))
    clear hab hN hb6 hP5 hC5 hQ5 HC2 HV2
    go_wp2_with fail
    refine bodyPost_ret (results_tmp3 rfl _ _ _) rfl ?_
    refine ⟨none, 0, 0, [], _, 1, 1, by rw [HE.out.2.2.2]; rfl, Kp.mk (Vo.nil0 _ _), by rw [HE.out.2.1]; rfl, fun y hy => by simp at hy, by rw [HE.out.2.2.1]; exact HSD, q5, by rw [HE.out.1]; exact HF.out, HC6.out, HQ.out⟩
   | false =>
    have hep := epG_same hB
    rw [hep] at HG
    have H2 := Kp.mk (H1.out.guest HG.out HC.out)
    have HC2 := Kp.mk (HC1.out.trans HC.out (fun k _ e => .inr (.inl e)))
    have HE0 := Kp.mk (show x.take ⟨⟨k, t, f, hp, p, o, s, a, A, n, cc⟩, ml⟩ now = x ∧ x.gets ⟨⟨k, t, f, hp, p, o, s, a, A, n, cc⟩, ml⟩ now = [] ∧ x.begins ⟨⟨k, t, f, hp, p, o, s, a, A, n, cc⟩, ml⟩ now = false by
     unfold Ps.take Ps.gets Ps.begins Ps.bodyA Ps.isA Ps.beg
     simp only
     rw [hI, hB, htk]
     exact ⟨by simp, by simp, rfl⟩)
    have HAN := Kp.mk (show x.answers ⟨⟨k, t, f, hp, p, o, s, a, A, n, cc⟩, ml⟩ now = some (Ps.withA (ansG ⟨k, t, f, hp, p, o, s, a, A, n, cc⟩ x.sf x.bo x.e) x.s) by
     unfold Ps.answers Ps.ans Ps.bodyA Ps.isA Ps.beg
     simp only
     rw [hI, hB, htk]
     simp)
    obtain ⟨z, hz, hza, hzc⟩ : ∃ z : Sv, z = Ps.withA (ansG ⟨k, t, f, hp, p, o, s, a, A, n, cc⟩ x.sf x.bo x.e) x.s ∧ (z.A = none ∧ z.n = 0 ∧ z.c = 0) ∧ Calls Tryz.prog 71 #[.pointer (some ⟨pb, 0, none⟩), (ansG ⟨k, t, f, hp, p, o, s, a, A, n, cc⟩ x.sf x.bo x.e).v, .bool false] wc fun en w' => en = .returned z.v ∧ Below wc.heap.size wc w' := by
     rcases isn_facts hI hB H1.out.e0.1 with h4 | ⟨h4, h5, h6⟩
     ·rw [h4]
      exact ⟨svHi x.sf x.bo, by simp [Ps.withA, svHi], ⟨rfl, rfl, rfl⟩, answers_same wc pb (svHi x.sf x.bo) (by simp [svHi])⟩
     ·simp only at h4 h5
      rw [h4]
      cases hs : x.s with
      | none => have := H1.out.e0.2.1 hs; omega
      | some y => exact ⟨{ svAck x.sf p with a := y.ix }, by simp [Ps.withA, svAck], ⟨rfl, rfl, rfl⟩, answers_ack (H2.out.yes y hs).1 (svAck x.sf p) rfl⟩
    rw [← hz] at HAN
    clear hz hep hI hB HG HC HA HLA H1 HC1 HS0
    have hv := HV.out
    generalize ansG ⟨k, t, f, hp, p, o, s, a, A, n, cc⟩ x.sf x.bo x.e = ra at *
    obtain ⟨rk, rt_, rf, rh, rp, ro, rs, ra_, rA, rn, rc⟩ := ra
    obtain ⟨zk, zt, zf, zh, zp, zo, zs, za, zA, zn, zc⟩ := z
    simp only [Sv.v, Sv.cells] at hzc hv
    go_wp2_with (refine wpList_load_vb (vs := [.int .i64 rk, .int .i64 rt_, .int .i64 rf, .int .i64 rh, .int .i64 rp, .int .i64 ro, .int .i64 rs, .int .i64 ra_, .slice rA rn rc]) rfl (.tmp 9) rfl rfl hv rfl agg_seg ?_)
    refine hzc.mono ?_
    rintro en w5 ⟨rfl, hb5⟩
    have hN := one_seg w5 w.heap.size (Nat.le_trans HC2.out.size hb5.size) ⟨zk, zt, zf, zh, zp, zo, zs, za, zA, zn, zc⟩ hza.1 hza.2.1 hza.2.2
    have hb6 := below_alloc w5 (.cells (⟨zk, zt, zf, zh, zp, zo, zs, za, zA, zn, zc⟩ : Sv).cells.toArray 54)
    have HF := Kp.mk ((H2.out.below hb5).below hb6)
    have HSD := Kp.mk hN
    have HC6 := Kp.mk ((HC2.out.trans (Ch.of_below (S := lown pb gq q) hb5) (fun _ _ e => e)).trans (Ch.of_below (S := lown pb gq q) hb6) (fun _ _ e => e))
    clear hzc hv hN hb5 hb6 H2 HC2 HV hza
    go_wp2_with fail
    refine bodyPost_ret (results_tmp3 rfl _ _ _) rfl ?_
    refine ⟨none, 0, 0, [], _, 1, 1, by rw [HE0.out.2.2]; rfl, Kp.mk (Vo.nil0 _ _), by rw [HE0.out.2.1]; rfl, fun y hy => by simp at hy, by rw [HAN.out]; exact HSD, q, by rw [HE0.out.1]; exact HF.out, HC6.out, fun k e => .inl e⟩
end
end Go.Proofs.YtnoflfbcgbhipaaGreat.Oct
