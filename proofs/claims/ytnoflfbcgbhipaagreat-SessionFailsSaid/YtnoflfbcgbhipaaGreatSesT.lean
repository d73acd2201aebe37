import Derived.Test.YtnoflfbcgbhipaaGreatSesK
set_option linter.unusedSimpArgs false
set_option linter.unusedVariables false
set_option maxRecDepth 100000
set_option maxHeartbeats 8000000
namespace Go.Proofs.YtnoflfbcgbhipaaGreat.Oct
open Go.RowKit
def LsTells (w : World) (l : Nat) (q : Bk) (c : Nat) (x' : Ls) (R : List (List Int)) (en : Ending) (w' : World) : Prop :=
 ∃ A' n' c' Lt, en = .returned (.slice A' n' c') ∧ Kp (Vo w' w.heap.size (.slice A' n' c') n' Lt) ∧ Lt.map Ov.o = tells R ∧ (∀ y ∈ Lt, y.ok w') ∧ LnS w' l q c x' ∧ Ch (lown l c q) w w'
section
variable {w w' : World} {l c : Nat} {q : Bk} {x : Ls} {y : Lb} {S : Nat → Prop}
theorem LnS.takeC (h : LnS w l q c x) (m : Ms) (hm : Mok w m) (now : Int) : Calls Tryz.prog 38 #[.pointer (some ⟨l, 0, none⟩), m.x.v, .int .i64 now] w (LsTells w l q c (x.take m now) (x.gets m now)) := by
 unfold LsTells
 have HMX := Kp.mk (show ∀ w2, Ch (lown l c q) w w2 → Mok w2 m from fun w2 hc => hm.stay hc (fun b cs m' _ _ hb e => (h.nob b cs m' e).1 hb))
 have HNO := Kp.mk (show (x.on = none ∨ tickB now = false ∨ (∀ y, x.on = some y → y.mine m = false)) → x.take m now = x ∧ x.gets m now = [] from fun e => by
  unfold Ls.take Ls.gets
  rcases e with e | e | e
  ·rw [e]; simp
  ·rw [e]; simp
  ·cases hon : x.on with
   | none => simp
   | some y =>
    have hs := (on_some hon).1
    obtain ⟨tz, s⟩ := x
    simp only at hs
    subst hs
    simp [Lb.take, Lb.gets, e y hon])
 obtain ⟨⟨k, t, f, hp, p, o, s, a, A, n, cc⟩, ml⟩ := m
 simp only [Sv.v] at *
 have hN := new_segv w k t f hp p o s a A n cc
 have H1 := Kp.mk (h.below hN.2)
 have HC1 := Kp.mk (Ch.of_below (S := lown l c q) hN.2)
 have hs0 := hN.1
 have HTZ := Kp.mk (show ∀ y, x.on = some y → y.b.t = x.tz from fun y e => (h.yes y (on_some e).1).2.1)
 clear hN hm h
 go_enter Tryz.func38, Tryz.ntmps38
 go_upto_region 1 with fail
 obtain ⟨gs, hgs⟩ : ∃ gs, gs = w.heap.size := ⟨_, rfl⟩
 rw [← hgs] at hs0 ⊢
 have HGS := Kp.mk hgs
 clear hgs
 generalize w.alloc (.cells #[.int .i64 k, .int .i64 t, .int .i64 f, .int .i64 hp, .int .i64 p, .int .i64 o, .int .i64 s, .int .i64 a, .slice A n cc] 54) = w1 at *
 cases hon : x.on with
 | none =>
  have HE := Kp.mk (HNO.out (.inl hon))
  clear HTZ
  refine wp_region_held_drew (S := fun X => LnS X l q c x ∧ Vb 54 X gs [.int .i64 k, .int .i64 t, .int .i64 f, .int .i64 hp, .int .i64 p, .int .i64 o, .int .i64 s, .int .i64 a, .slice A n cc]) (by kernel_rfl) ⟨H1.out.below (Below.refl _ _).drew, hs0⟩ (fun hS0 => ?_)
  have HC2 := Kp.mk (HC1.out.trans (Ch.of_below (S := lown l c q) (Below.refl w1.heap.size w1).drew) (fun _ _ e => e))
  clear H1 HC1 hs0
  generalize w1.drew = u at *
  refine tD 0 (.pointer (some ⟨l, 0, none⟩)) 8 rfl rfl hS0 ?_ ?_
  ·rintro w' hq
   go_simp
  try simp only [Act.put, zA, zB, zC]
  have hgo := hS0.1.goes
  rw [hon] at hgo
  refine rD 1 rfl fun K hK => ?_
  try rw [if_pos (by rfl)]
  go_simp
  go_at_call 50
  refine hgo.mono ?_
  rintro en u2 ⟨rfl, hw2⟩
  replace hw2 := hw2.symm
  subst hw2
  clear hgo
  refine hK.out _ _ hS0 (fun _ => ?_)
  clear hK K
  try simp only [Act.put, zA, zB, zC]
  refine tD 2 (.bool true) 10 rfl rfl hS0 (fun _ _ => by go_simp) ?_
  try simp only [Act.put, zA, zB, zC]
  refine tD 3 (.bool true) 11 rfl rfl hS0 (fun _ _ => by go_simp) ?_
  try simp only [Act.put, zA, zB, zC]
  refine tU 4 12 rfl rfl hS0 ?_
  try simp only [Act.put, zA, zB, zC]
  refine tU 5 13 rfl rfl hS0 ?_
  try simp only [Act.put, zA, zB, zC]
  refine tU 6 14 rfl rfl hS0 ?_
  try simp only [Act.put, zA, zB, zC]
  refine tD 7 (.bool true) 15 rfl rfl hS0 (fun _ _ => by go_simp) ?_
  try simp only [Act.put, zA, zB, zC]
  refine tD 8 (.bool true) 16 rfl rfl hS0 (fun _ _ => by go_simp) ?_
  try simp only [Act.put, zA, zB, zC]
  refine tU 9 17 rfl rfl hS0 ?_
  try simp only [Act.put, zA, zB, zC]
  refine tU 10 18 rfl rfl hS0 ?_
  try simp only [Act.put, zA, zB, zC]
  refine tU 11 19 rfl rfl hS0 ?_
  try simp only [Act.put, zA, zB, zC]
  refine tD 12 (.bool true) 20 rfl rfl hS0 (fun _ _ => by go_simp) ?_
  try simp only [Act.put, zA, zB, zC]
  refine tD 13 (.bool true) 21 rfl rfl hS0 (fun _ _ => by go_simp) ?_
  try simp only [Act.put, zA, zB, zC]
  refine tU 14 22 rfl rfl hS0 ?_
  try simp only [Act.put, zA, zB, zC]
  refine tU 15 23 rfl rfl hS0 ?_
  try simp only [Act.put, zA, zB, zC]
  refine tU 16 24 rfl rfl hS0 ?_
  try simp only [Act.put, zA, zB, zC]
  refine tU 17 25 rfl rfl hS0 ?_
  try simp only [Act.put, zA, zB, zC]
  refine tU 18 26 rfl rfl hS0 ?_
  try simp only [Act.put, zA, zB, zC]
  refine tU 19 27 rfl rfl hS0 ?_
  try simp only [Act.put, zA, zB, zC]
  refine tU 20 28 rfl rfl hS0 ?_
  try simp only [Act.put, zA, zB, zC]
  refine tU 21 29 rfl rfl hS0 ?_
  try simp only [Act.put, zA, zB, zC]
  refine tD 22 (.bool true) 30 rfl rfl hS0 (fun _ _ => by go_simp) ?_
  try simp only [Act.put, zA, zB, zC]
  refine wpAnyH_done (by kernel_rfl) ?_ _
  have HF := Kp.mk hS0.1
  clear hS0
  go_wp2_with fail
  go_ret
  exact ⟨none, 0, 0, [], rfl, Kp.mk (Vo.nil0 _ _), by rw [HE.out.2]; rfl, fun y hy => by simp at hy, by rw [HE.out.1]; exact HF.out, HC2.out⟩
 | some y =>
  cases htk : tickB now with
  | false =>
   have HE := Kp.mk (HNO.out (.inr (.inl htk)))
   refine wp_region_held_drew (S := fun X => LnS X l q c x ∧ Vb 54 X gs [.int .i64 k, .int .i64 t, .int .i64 f, .int .i64 hp, .int .i64 p, .int .i64 o, .int .i64 s, .int .i64 a, .slice A n cc]) (by kernel_rfl) ⟨H1.out.below (Below.refl _ _).drew, hs0⟩ (fun hS0 => ?_)
   have HC2 := Kp.mk (HC1.out.trans (Ch.of_below (S := lown l c q) (Below.refl w1.heap.size w1).drew) (fun _ _ e => e))
   clear H1 HC1 hs0
   generalize w1.drew = u at *
   refine tD 0 (.pointer (some ⟨l, 0, none⟩)) 8 rfl rfl hS0 ?_ ?_
   ·rintro w' hq
    go_simp
   try simp only [Act.put, zA, zB, zC]
   have hgo := hS0.1.goes
   rw [hon] at hgo
   refine rD 1 rfl fun K hK => ?_
   try rw [if_pos (by rfl)]
   go_simp
   go_at_call 50
   refine hgo.mono ?_
   rintro en u2 ⟨rfl, hw2⟩
   replace hw2 := hw2.symm
   subst hw2
   clear hgo
   refine hK.out _ _ hS0 (fun _ => ?_)
   clear hK K
   try simp only [Act.put, zA, zB, zC]
   refine tD 2 (.bool false) 10 rfl rfl hS0 (fun _ _ => by go_simp) ?_
   try simp only [Act.put, zA, zB, zC]
   refine tD 3 (.bool false) 11 rfl rfl hS0 (fun _ _ => by go_simp) ?_
   try simp only [Act.put, zA, zB, zC]
   refine tD 4 (.int .i64 now) 12 rfl rfl hS0 (fun _ _ => by go_simp) ?_
   try simp only [Act.put, zA, zB, zC]
   have hti := sTick_any now u
   rw [htk] at hti
   refine rD 5 rfl fun K hK => ?_
   try rw [if_pos (by rfl)]
   go_simp
   go_at_call 60
   refine hti.mono ?_
   rintro en u2 ⟨rfl, hw2⟩
   replace hw2 := hw2.symm
   subst hw2
   clear hti
   refine hK.out _ _ hS0 (fun _ => ?_)
   clear hK K
   try simp only [Act.put, zA, zB, zC]
   refine tD 6 (.bool true) 14 rfl rfl hS0 (fun _ _ => by go_simp) ?_
   try simp only [Act.put, zA, zB, zC]
   refine tD 7 (.bool true) 15 rfl rfl hS0 (fun _ _ => by go_simp) ?_
   try simp only [Act.put, zA, zB, zC]
   refine tD 8 (.bool true) 16 rfl rfl hS0 (fun _ _ => by go_simp) ?_
   try simp only [Act.put, zA, zB, zC]
   refine tU 9 17 rfl rfl hS0 ?_
   try simp only [Act.put, zA, zB, zC]
   refine tU 10 18 rfl rfl hS0 ?_
   try simp only [Act.put, zA, zB, zC]
   refine tU 11 19 rfl rfl hS0 ?_
   try simp only [Act.put, zA, zB, zC]
   refine tD 12 (.bool true) 20 rfl rfl hS0 (fun _ _ => by go_simp) ?_
   try simp only [Act.put, zA, zB, zC]
   refine tD 13 (.bool true) 21 rfl rfl hS0 (fun _ _ => by go_simp) ?_
   try simp only [Act.put, zA, zB, zC]
   refine tU 14 22 rfl rfl hS0 ?_
   try simp only [Act.put, zA, zB, zC]
   refine tU 15 23 rfl rfl hS0 ?_
   try simp only [Act.put, zA, zB, zC]
   refine tU 16 24 rfl rfl hS0 ?_
   try simp only [Act.put, zA, zB, zC]
   refine tU 17 25 rfl rfl hS0 ?_
   try simp only [Act.put, zA, zB, zC]
   refine tU 18 26 rfl rfl hS0 ?_
   try simp only [Act.put, zA, zB, zC]
   refine tU 19 27 rfl rfl hS0 ?_
   try simp only [Act.put, zA, zB, zC]
   refine tU 20 28 rfl rfl hS0 ?_
   try simp only [Act.put, zA, zB, zC]
   refine tU 21 29 rfl rfl hS0 ?_
   try simp only [Act.put, zA, zB, zC]
   refine tD 22 (.bool true) 30 rfl rfl hS0 (fun _ _ => by go_simp) ?_
   try simp only [Act.put, zA, zB, zC]
   refine wpAnyH_done (by kernel_rfl) ?_ _
   have HF := Kp.mk hS0.1
   clear hS0
   go_wp2_with fail
   go_ret
   exact ⟨none, 0, 0, [], rfl, Kp.mk (Vo.nil0 _ _), by rw [HE.out.2]; rfl, fun y hy => by simp at hy, by rw [HE.out.1]; exact HF.out, HC2.out⟩
  | true =>
   cases hok : (⟨k, t, f, hp, p, o, s, a, A, n, cc⟩ : Sv).ok with
   | false =>
    have HE := Kp.mk (HNO.out (.inr (.inr (fun y' e => by unfold Lb.mine; simp only; rw [hok]; rfl))))
    refine wp_region_held_drew (S := fun X => LnS X l q c x ∧ Vb 54 X gs [.int .i64 k, .int .i64 t, .int .i64 f, .int .i64 hp, .int .i64 p, .int .i64 o, .int .i64 s, .int .i64 a, .slice A n cc]) (by kernel_rfl) ⟨H1.out.below (Below.refl _ _).drew, hs0⟩ (fun hS0 => ?_)
    have HC2 := Kp.mk (HC1.out.trans (Ch.of_below (S := lown l c q) (Below.refl w1.heap.size w1).drew) (fun _ _ e => e))
    clear H1 HC1 hs0
    generalize w1.drew = u at *
    refine tD 0 (.pointer (some ⟨l, 0, none⟩)) 8 rfl rfl hS0 ?_ ?_
    ·rintro w' hq
     go_simp
    try simp only [Act.put, zA, zB, zC]
    have hgo := hS0.1.goes
    rw [hon] at hgo
    refine rD 1 rfl fun K hK => ?_
    try rw [if_pos (by rfl)]
    go_simp
    go_at_call 50
    refine hgo.mono ?_
    rintro en u2 ⟨rfl, hw2⟩
    replace hw2 := hw2.symm
    subst hw2
    clear hgo
    refine hK.out _ _ hS0 (fun _ => ?_)
    clear hK K
    try simp only [Act.put, zA, zB, zC]
    refine tD 2 (.bool false) 10 rfl rfl hS0 (fun _ _ => by go_simp) ?_
    try simp only [Act.put, zA, zB, zC]
    refine tD 3 (.bool false) 11 rfl rfl hS0 (fun _ _ => by go_simp) ?_
    try simp only [Act.put, zA, zB, zC]
    refine tD 4 (.int .i64 now) 12 rfl rfl hS0 (fun _ _ => by go_simp) ?_
    try simp only [Act.put, zA, zB, zC]
    have hti := sTick_any now u
    rw [htk] at hti
    refine rD 5 rfl fun K hK => ?_
    try rw [if_pos (by rfl)]
    go_simp
    go_at_call 60
    refine hti.mono ?_
    rintro en u2 ⟨rfl, hw2⟩
    replace hw2 := hw2.symm
    subst hw2
    clear hti
    refine hK.out _ _ hS0 (fun _ => ?_)
    clear hK K
    try simp only [Act.put, zA, zB, zC]
    refine tD 6 (.bool false) 14 rfl rfl hS0 (fun _ _ => by go_simp) ?_
    try simp only [Act.put, zA, zB, zC]
    refine tD 7 (.bool false) 15 rfl rfl hS0 (fun _ _ => by go_simp) ?_
    try simp only [Act.put, zA, zB, zC]
    refine tD 8 (.bool false) 16 rfl rfl hS0 (fun _ _ => by go_simp) ?_
    try simp only [Act.put, zA, zB, zC]
    refine tD 9 (.agg #[.int .i64 k, .int .i64 t, .int .i64 f, .int .i64 hp, .int .i64 p, .int .i64 o, .int .i64 s, .int .i64 a, .slice A n cc]) 17 rfl rfl hS0 ?_ ?_
    ·rintro w' hq
     exact exec_load_vb (vs := [.int .i64 k, .int .i64 t, .int .i64 f, .int .i64 hp, .int .i64 p, .int .i64 o, .int .i64 s, .int .i64 a, .slice A n cc]) (.tmp 4) rfl rfl (hq.2) rfl agg_seg
    try simp only [Act.put, zA, zB, zC]
    refine rD 10 rfl fun K hK => ?_
    try rw [if_pos (by rfl)]
    go_simp
    go_at_call 75
    refine (check_no ⟨k, t, f, hp, p, o, s, a, A, n, cc⟩ hok u).mono ?_
    rintro en u2 ⟨rfl, hb2⟩
    have hS2 : LnS u2 l q c x ∧ Vb 54 u2 gs [.int .i64 k, .int .i64 t, .int .i64 f, .int .i64 hp, .int .i64 p, .int .i64 o, .int .i64 s, .int .i64 a, .slice A n cc] := ⟨hS0.1.below hb2, hS0.2.below hb2 hS0.2.lt⟩
    have HC3 := Kp.mk (HC2.out.trans (Ch.of_below (S := lown l c q) hb2) (fun _ _ e => e))
    clear hb2 HC2
    refine hK.out _ _ hS2 (fun _ => ?_)
    clear hK K hS0
    try simp only [Act.put, zA, zB, zC]
    refine tD 11 (.bool true) 19 rfl rfl hS2 (fun _ _ => by go_simp) ?_
    try simp only [Act.put, zA, zB, zC]
    refine tD 12 (.bool true) 20 rfl rfl hS2 (fun _ _ => by go_simp) ?_
    try simp only [Act.put, zA, zB, zC]
    refine tD 13 (.bool true) 21 rfl rfl hS2 (fun _ _ => by go_simp) ?_
    try simp only [Act.put, zA, zB, zC]
    refine tU 14 22 rfl rfl hS2 ?_
    try simp only [Act.put, zA, zB, zC]
    refine tU 15 23 rfl rfl hS2 ?_
    try simp only [Act.put, zA, zB, zC]
    refine tU 16 24 rfl rfl hS2 ?_
    try simp only [Act.put, zA, zB, zC]
    refine tU 17 25 rfl rfl hS2 ?_
    try simp only [Act.put, zA, zB, zC]
    refine tU 18 26 rfl rfl hS2 ?_
    try simp only [Act.put, zA, zB, zC]
    refine tU 19 27 rfl rfl hS2 ?_
    try simp only [Act.put, zA, zB, zC]
    refine tU 20 28 rfl rfl hS2 ?_
    try simp only [Act.put, zA, zB, zC]
    refine tU 21 29 rfl rfl hS2 ?_
    try simp only [Act.put, zA, zB, zC]
    refine tD 22 (.bool true) 30 rfl rfl hS2 (fun _ _ => by go_simp) ?_
    try simp only [Act.put, zA, zB, zC]
    refine wpAnyH_done (by kernel_rfl) ?_ _
    have HF := Kp.mk hS2.1
    clear hS2
    go_wp2_with fail
    go_ret
    exact ⟨none, 0, 0, [], rfl, Kp.mk (Vo.nil0 _ _), by rw [HE.out.2]; rfl, fun y hy => by simp at hy, by rw [HE.out.1]; exact HF.out, HC3.out⟩
   | true =>
    cases hfz : (f != x.tz) with
    | true =>
     have HE := Kp.mk (HNO.out (.inr (.inr (fun y' e => by
      unfold Lb.mine
      simp only
      rw [HTZ.out y' e]
      have : (f == x.tz) = false := by simpa using hfz
      rw [this, Bool.and_false]))))
     refine wp_region_held_drew (S := fun X => LnS X l q c x ∧ Vb 54 X gs [.int .i64 k, .int .i64 t, .int .i64 f, .int .i64 hp, .int .i64 p, .int .i64 o, .int .i64 s, .int .i64 a, .slice A n cc]) (by kernel_rfl) ⟨H1.out.below (Below.refl _ _).drew, hs0⟩ (fun hS0 => ?_)
     have HC2 := Kp.mk (HC1.out.trans (Ch.of_below (S := lown l c q) (Below.refl w1.heap.size w1).drew) (fun _ _ e => e))
     clear H1 HC1 hs0
     generalize w1.drew = u at *
     refine tD 0 (.pointer (some ⟨l, 0, none⟩)) 8 rfl rfl hS0 ?_ ?_
     ·rintro w' hq
      go_simp
     try simp only [Act.put, zA, zB, zC]
     have hgo := hS0.1.goes
     rw [hon] at hgo
     refine rD 1 rfl fun K hK => ?_
     try rw [if_pos (by rfl)]
     go_simp
     go_at_call 50
     refine hgo.mono ?_
     rintro en u2 ⟨rfl, hw2⟩
     replace hw2 := hw2.symm
     subst hw2
     clear hgo
     refine hK.out _ _ hS0 (fun _ => ?_)
     clear hK K
     try simp only [Act.put, zA, zB, zC]
     refine tD 2 (.bool false) 10 rfl rfl hS0 (fun _ _ => by go_simp) ?_
     try simp only [Act.put, zA, zB, zC]
     refine tD 3 (.bool false) 11 rfl rfl hS0 (fun _ _ => by go_simp) ?_
     try simp only [Act.put, zA, zB, zC]
     refine tD 4 (.int .i64 now) 12 rfl rfl hS0 (fun _ _ => by go_simp) ?_
     try simp only [Act.put, zA, zB, zC]
     have hti := sTick_any now u
     rw [htk] at hti
     refine rD 5 rfl fun K hK => ?_
     try rw [if_pos (by rfl)]
     go_simp
     go_at_call 60
     refine hti.mono ?_
     rintro en u2 ⟨rfl, hw2⟩
     replace hw2 := hw2.symm
     subst hw2
     clear hti
     refine hK.out _ _ hS0 (fun _ => ?_)
     clear hK K
     try simp only [Act.put, zA, zB, zC]
     refine tD 6 (.bool false) 14 rfl rfl hS0 (fun _ _ => by go_simp) ?_
     try simp only [Act.put, zA, zB, zC]
     refine tD 7 (.bool false) 15 rfl rfl hS0 (fun _ _ => by go_simp) ?_
     try simp only [Act.put, zA, zB, zC]
     refine tD 8 (.bool false) 16 rfl rfl hS0 (fun _ _ => by go_simp) ?_
     try simp only [Act.put, zA, zB, zC]
     refine tD 9 (.agg #[.int .i64 k, .int .i64 t, .int .i64 f, .int .i64 hp, .int .i64 p, .int .i64 o, .int .i64 s, .int .i64 a, .slice A n cc]) 17 rfl rfl hS0 ?_ ?_
     ·rintro w' hq
      exact exec_load_vb (vs := [.int .i64 k, .int .i64 t, .int .i64 f, .int .i64 hp, .int .i64 p, .int .i64 o, .int .i64 s, .int .i64 a, .slice A n cc]) (.tmp 4) rfl rfl (hq.2) rfl agg_seg
     try simp only [Act.put, zA, zB, zC]
     refine rD 10 rfl fun K hK => ?_
     try rw [if_pos (by rfl)]
     go_simp
     go_at_call 75
     refine (check_yes ⟨k, t, f, hp, p, o, s, a, A, n, cc⟩ hok u).mono ?_
     rintro en u2 ⟨rfl, hb2⟩
     have hS2 : LnS u2 l q c x ∧ Vb 54 u2 gs [.int .i64 k, .int .i64 t, .int .i64 f, .int .i64 hp, .int .i64 p, .int .i64 o, .int .i64 s, .int .i64 a, .slice A n cc] := ⟨hS0.1.below hb2, hS0.2.below hb2 hS0.2.lt⟩
     have HC3 := Kp.mk (HC2.out.trans (Ch.of_below (S := lown l c q) hb2) (fun _ _ e => e))
     clear hb2 HC2
     refine hK.out _ _ hS2 (fun _ => ?_)
     clear hK K hS0
     try simp only [Act.put, zA, zB, zC]
     refine tD 11 (.bool false) 19 rfl rfl hS2 (fun _ _ => by go_simp) ?_
     try simp only [Act.put, zA, zB, zC]
     refine tD 12 (.bool false) 20 rfl rfl hS2 (fun _ _ => by go_simp) ?_
     try simp only [Act.put, zA, zB, zC]
     refine tD 13 (.bool false) 21 rfl rfl hS2 (fun _ _ => by go_simp) ?_
     try simp only [Act.put, zA, zB, zC]
     refine tD 14 (.pointer (some ⟨gs, 2, none⟩)) 22 rfl rfl hS2 (fun _ _ => by go_simp) ?_
     try simp only [Act.put, zA, zB, zC]
     refine tD 15 (.int .i64 f) 23 rfl rfl hS2 ?_ ?_
     ·rintro w' hq
      have s2 := hq.2.cell 2 rfl
      go_simp
     try simp only [Act.put, zA, zB, zC]
     refine tD 16 (.pointer (some ⟨l, 0, none⟩)) 24 rfl rfl hS2 (fun _ _ => by go_simp) ?_
     try simp only [Act.put, zA, zB, zC]
     refine tD 17 (.pointer (some ⟨l, 0, none⟩)) 25 rfl rfl hS2 (fun _ _ => by go_simp) ?_
     try simp only [Act.put, zA, zB, zC]
     refine tD 18 (.pointer (some ⟨l, 0, none⟩)) 26 rfl rfl hS2 (fun _ _ => by go_simp) ?_
     try simp only [Act.put, zA, zB, zC]
     refine tD 19 (.pointer (some ⟨l, 0, none⟩)) 27 rfl rfl hS2 (fun _ _ => by go_simp) ?_
     try simp only [Act.put, zA, zB, zC]
     refine tD 20 (.int .i64 x.tz) 28 rfl rfl hS2 ?_ ?_
     ·rintro w' hq
      obtain ⟨cs, hv, _, h0, _⟩ := hq.1.full
      have c0 := hv.cell 0 h0
      go_simp
     try simp only [Act.put, zA, zB, zC]
     refine tD 21 (.bool true) 29 rfl rfl hS2 ?_ ?_
     ·rintro w' _
      have hx := hfz
      go_simp
     try simp only [Act.put, zA, zB, zC]
     refine tD 22 (.bool true) 30 rfl rfl hS2 (fun _ _ => by go_simp) ?_
     try simp only [Act.put, zA, zB, zC]
     refine wpAnyH_done (by kernel_rfl) ?_ _
     have HF := Kp.mk hS2.1
     clear hS2
     go_wp2_with fail
     go_ret
     exact ⟨none, 0, 0, [], rfl, Kp.mk (Vo.nil0 _ _), by rw [HE.out.2]; rfl, fun y hy => by simp at hy, by rw [HE.out.1]; exact HF.out, HC3.out⟩
    | false =>
     have hfz' : f = x.tz := by simpa using hfz
     have HMI := Kp.mk (show y.mine ⟨⟨k, t, f, hp, p, o, s, a, A, n, cc⟩, ml⟩ = true by
      unfold Lb.mine
      simp only
      rw [hok, HTZ.out y hon]
      simpa using hfz')
     clear hfz'
     refine wp_region_held_drew (S := fun X => LnS X l q c x ∧ Vb 54 X gs [.int .i64 k, .int .i64 t, .int .i64 f, .int .i64 hp, .int .i64 p, .int .i64 o, .int .i64 s, .int .i64 a, .slice A n cc]) (by kernel_rfl) ⟨H1.out.below (Below.refl _ _).drew, hs0⟩ (fun hS0 => ?_)
     have HC2 := Kp.mk (HC1.out.trans (Ch.of_below (S := lown l c q) (Below.refl w1.heap.size w1).drew) (fun _ _ e => e))
     clear H1 HC1 hs0
     generalize w1.drew = u at *
     refine tD 0 (.pointer (some ⟨l, 0, none⟩)) 8 rfl rfl hS0 ?_ ?_
     ·rintro w' hq
      go_simp
     try simp only [Act.put, zA, zB, zC]
     have hgo := hS0.1.goes
     rw [hon] at hgo
     refine rD 1 rfl fun K hK => ?_
     try rw [if_pos (by rfl)]
     go_simp
     go_at_call 50
     refine hgo.mono ?_
     rintro en u2 ⟨rfl, hw2⟩
     replace hw2 := hw2.symm
     subst hw2
     clear hgo
     refine hK.out _ _ hS0 (fun _ => ?_)
     clear hK K
     try simp only [Act.put, zA, zB, zC]
     refine tD 2 (.bool false) 10 rfl rfl hS0 (fun _ _ => by go_simp) ?_
     try simp only [Act.put, zA, zB, zC]
     refine tD 3 (.bool false) 11 rfl rfl hS0 (fun _ _ => by go_simp) ?_
     try simp only [Act.put, zA, zB, zC]
     refine tD 4 (.int .i64 now) 12 rfl rfl hS0 (fun _ _ => by go_simp) ?_
     try simp only [Act.put, zA, zB, zC]
     have hti := sTick_any now u
     rw [htk] at hti
     refine rD 5 rfl fun K hK => ?_
     try rw [if_pos (by rfl)]
     go_simp
     go_at_call 60
     refine hti.mono ?_
     rintro en u2 ⟨rfl, hw2⟩
     replace hw2 := hw2.symm
     subst hw2
     clear hti
     refine hK.out _ _ hS0 (fun _ => ?_)
     clear hK K
     try simp only [Act.put, zA, zB, zC]
     refine tD 6 (.bool false) 14 rfl rfl hS0 (fun _ _ => by go_simp) ?_
     try simp only [Act.put, zA, zB, zC]
     refine tD 7 (.bool false) 15 rfl rfl hS0 (fun _ _ => by go_simp) ?_
     try simp only [Act.put, zA, zB, zC]
     refine tD 8 (.bool false) 16 rfl rfl hS0 (fun _ _ => by go_simp) ?_
     try simp only [Act.put, zA, zB, zC]
     refine tD 9 (.agg #[.int .i64 k, .int .i64 t, .int .i64 f, .int .i64 hp, .int .i64 p, .int .i64 o, .int .i64 s, .int .i64 a, .slice A n cc]) 17 rfl rfl hS0 ?_ ?_
     ·rintro w' hq
      exact exec_load_vb (vs := [.int .i64 k, .int .i64 t, .int .i64 f, .int .i64 hp, .int .i64 p, .int .i64 o, .int .i64 s, .int .i64 a, .slice A n cc]) (.tmp 4) rfl rfl (hq.2) rfl agg_seg
     try simp only [Act.put, zA, zB, zC]
     refine rD 10 rfl fun K hK => ?_
     try rw [if_pos (by rfl)]
     go_simp
     go_at_call 75
     refine (check_yes ⟨k, t, f, hp, p, o, s, a, A, n, cc⟩ hok u).mono ?_
     rintro en u2 ⟨rfl, hb2⟩
     have hS2 : LnS u2 l q c x ∧ Vb 54 u2 gs [.int .i64 k, .int .i64 t, .int .i64 f, .int .i64 hp, .int .i64 p, .int .i64 o, .int .i64 s, .int .i64 a, .slice A n cc] := ⟨hS0.1.below hb2, hS0.2.below hb2 hS0.2.lt⟩
     have HC3 := Kp.mk (HC2.out.trans (Ch.of_below (S := lown l c q) hb2) (fun _ _ e => e))
     clear hb2 HC2
     refine hK.out _ _ hS2 (fun _ => ?_)
     clear hK K hS0
     try simp only [Act.put, zA, zB, zC]
     refine tD 11 (.bool false) 19 rfl rfl hS2 (fun _ _ => by go_simp) ?_
     try simp only [Act.put, zA, zB, zC]
     refine tD 12 (.bool false) 20 rfl rfl hS2 (fun _ _ => by go_simp) ?_
     try simp only [Act.put, zA, zB, zC]
     refine tD 13 (.bool false) 21 rfl rfl hS2 (fun _ _ => by go_simp) ?_
     try simp only [Act.put, zA, zB, zC]
     refine tD 14 (.pointer (some ⟨gs, 2, none⟩)) 22 rfl rfl hS2 (fun _ _ => by go_simp) ?_
     try simp only [Act.put, zA, zB, zC]
     refine tD 15 (.int .i64 f) 23 rfl rfl hS2 ?_ ?_
     ·rintro w' hq
      have s2 := hq.2.cell 2 rfl
      go_simp
     try simp only [Act.put, zA, zB, zC]
     refine tD 16 (.pointer (some ⟨l, 0, none⟩)) 24 rfl rfl hS2 (fun _ _ => by go_simp) ?_
     try simp only [Act.put, zA, zB, zC]
     refine tD 17 (.pointer (some ⟨l, 0, none⟩)) 25 rfl rfl hS2 (fun _ _ => by go_simp) ?_
     try simp only [Act.put, zA, zB, zC]
     refine tD 18 (.pointer (some ⟨l, 0, none⟩)) 26 rfl rfl hS2 (fun _ _ => by go_simp) ?_
     try simp only [Act.put, zA, zB, zC]
     refine tD 19 (.pointer (some ⟨l, 0, none⟩)) 27 rfl rfl hS2 (fun _ _ => by go_simp) ?_
     try simp only [Act.put, zA, zB, zC]
     refine tD 20 (.int .i64 x.tz) 28 rfl rfl hS2 ?_ ?_
     ·rintro w' hq
      obtain ⟨cs, hv, _, h0, _⟩ := hq.1.full
      have c0 := hv.cell 0 h0
      go_simp
     try simp only [Act.put, zA, zB, zC]
     refine tD 21 (.bool false) 29 rfl rfl hS2 ?_ ?_
     ·rintro w' _
      have hx := hfz
      go_simp
     try simp only [Act.put, zA, zB, zC]
     refine tD 22 (.bool false) 30 rfl rfl hS2 (fun _ _ => by go_simp) ?_
     try simp only [Act.put, zA, zB, zC]
     refine wpAnyH_done (by kernel_rfl) ?_ _
     have HS2 := Kp.mk hS2.2
     have HL2 := Kp.mk hS2.1
     have HZ2 := Kp.mk (show w.heap.size ≤ u2.heap.size from HC3.out.size)
     clear hS2
     go_upto_region 4 with fail
     have hb3 := below_alloc u2 (.cells #[.slice none 0 0] 124)
     have HT3 := Kp.mk (show Tl (u2.alloc (.cells #[.slice none 0 0] 124)) w.heap.size u2.heap.size none [] from ⟨none, 0, 0, Vb.new 124 u2 [.slice none 0 0], Vo.nil0 _ _, rfl, HZ2.out⟩)
     have HL3 := Kp.mk (HL2.out.below hb3)
     have HS3 := Kp.mk (HS2.out.below hb3 HS2.out.lt)
     have HC4 := Kp.mk (HC3.out.trans (Ch.of_below (S := lown l c q) hb3) (fun _ _ e => e))
     have HGT := Kp.mk (show ¬ lown l c q u2.heap.size ∧ w.heap.size ≤ u2.heap.size from ⟨fun e => by have := HL2.out.lt _ e; omega, HZ2.out⟩)
     clear hb3 HL2 HS2 HC3 HZ2
     generalize u2.alloc (.cells #[.slice none 0 0] 124) = w3 at *
     generalize u2.heap.size = gt at *
     have HON := Kp.mk (on_some hon)
     have hy := (HL3.out.yes y HON.out.1).1
     have HYT := Kp.mk (HL3.out.yes y HON.out.1).2
     have c7 := hy.bd.own.cell 7 rfl
     have hop := cOpen hy.cb
     have hs3 := HS3.out
     cases hopn : y.opn with
     | false =>
      rw [show (y.q == 3) = false from hopn] at hop
      have hct := lcallTakes hy ⟨⟨k, t, f, hp, p, o, s, a, A, n, cc⟩, ml⟩ htk
      have HE := Kp.mk (show x.take ⟨⟨k, t, f, hp, p, o, s, a, A, n, cc⟩, ml⟩ now = ⟨x.tz, some (y.call ⟨⟨k, t, f, hp, p, o, s, a, A, n, cc⟩, ml⟩ now)⟩ ∧ x.gets ⟨⟨k, t, f, hp, p, o, s, a, A, n, cc⟩, ml⟩ now = [] by
       unfold Ls.take Ls.gets Lb.take Lb.gets
       simp [htk, hon, HMI.out, hopn])
      have HHY := Kp.mk hy
      clear hopn hy hon hok hfz htk
      go_wp2_with (first | (go_at_call 51; refine hop.mono ?_; rintro en w4 ⟨rfl, hw4⟩; replace hw4 := hw4.symm; subst hw4) | (refine wpList_load_vb (vs := [.int .i64 k, .int .i64 t, .int .i64 f, .int .i64 hp, .int .i64 p, .int .i64 o, .int .i64 s, .int .i64 a, .slice A n cc]) rfl (.tmp 4) rfl rfl hs3 rfl agg_seg ?_))
      refine hct.mono ?_
      rintro en w5 ⟨rfl, hL5, hC5⟩
      have HT5 := HT3.out.stay hC5 HGT.out.1 (fun k e => by simp at e)
      have HF5 := Kp.mk (show LnS w5 l q c ⟨x.tz, some (y.call ⟨⟨k, t, f, hp, p, o, s, a, A, n, cc⟩, ml⟩ now)⟩ from
       ⟨HL3.out.tz, fun e => by simp at e, fun z e => by
        obtain rfl := Option.some.inj e
        have hk := call_keeps y ⟨⟨k, t, f, hp, p, o, s, a, A, n, cc⟩, ml⟩ now
        exact ⟨hL5, hk.1.trans HYT.out.1, fun e => Nat.lt_of_le_of_lt hk.2.2.2 (HYT.out.2.1 e), Nat.le_trans hk.2.2.2 HYT.out.2.2⟩⟩)
      have HC5 := Kp.mk (HC4.out.trans hC5 (fun _ _ e => e))
      obtain ⟨tA, tn, tc, htv, hto, htr, htb⟩ := HT5
      have t0 := htv.cell 0 rfl
      have HTO := Kp.mk hto
      clear hct hop c7 hL5 hC5 htv hto htr htb hs3
      go_wp2_with fail
      go_ret
      first
      | exact ⟨tA, tn, tc, [], rfl, HTO, by rw [HE.out.2]; rfl, fun y hy => by simp at hy, by rw [HE.out.1]; exact HF5.out, HC5.out⟩
      | exact ⟨tA, tn, tc, rfl, [], HTO, by rw [HE.out.2]; rfl, fun y hy => by simp at hy, by rw [HE.out.1]; exact HF5.out, HC5.out⟩
     | true =>
      rw [show (y.q == 3) = true from hopn] at hop
      have HE0 := Kp.mk (show x.take ⟨⟨k, t, f, hp, p, o, s, a, A, n, cc⟩, ml⟩ now = ⟨x.tz, some (if y.ofE ⟨⟨k, t, f, hp, p, o, s, a, A, n, cc⟩, ml⟩ then { y with b := y.b.hears k s a ml now } else y)⟩ ∧ x.gets ⟨⟨k, t, f, hp, p, o, s, a, A, n, cc⟩, ml⟩ now = if y.ofE ⟨⟨k, t, f, hp, p, o, s, a, A, n, cc⟩, ml⟩ then y.b.gets k s ml else [] by
       unfold Ls.take Ls.gets Lb.take Lb.gets
       simp [htk, hon, HMI.out, hopn])
      have HHY := Kp.mk hy
      have HOK := Kp.mk hok
      have c2 := hy.bd.own.cell 2 rfl
      have s4 := hs3.cell 4 rfl
      clear hopn hy hon hok hfz
      go_upto_region 6 with (go_at_call 51; refine hop.mono ?_; rintro en w4 ⟨rfl, hw4⟩; replace hw4 := hw4.symm; subst hw4)
      refine wp_region_held_drew (S := fun X => X = w3.drew) (by kernel_rfl) rfl (fun _ => ?_)
      have d2 : w3.drew.cell? ⟨l, 2, none⟩ = some (.int .i64 y.b.e) := c2
      have d4 : w3.drew.cell? ⟨gs, 4, none⟩ = some (.int .i64 p) := s4
      have hbd := (Below.refl w3.heap.size w3).drew
      have HT4 := Kp.mk (HT3.out.below hbd)
      have HL4 := Kp.mk (HL3.out.below hbd)
      have HS4 := Kp.mk (HS3.out.below hbd HS3.out.lt)
      have HHY4 := Kp.mk (HHY.out.below hbd)
      have HC5 := Kp.mk (HC4.out.trans (Ch.of_below (S := lown l c q) hbd) (fun _ _ e => e))
      clear hbd HT3 HL3 HS3 HC4 HHY c7 hs3 s4 c2 hop
      generalize w3.drew = v at *
      refine tD 0 (.pointer (some ⟨gs, 4, none⟩)) 43 rfl rfl rfl ?_ ?_
      ·rintro w' hq
       go_simp
      try simp only [Act.put, zA, zB, zC]
      refine tD 1 (.int .i64 p) 44 rfl rfl rfl ?_ ?_
      ·rintro w' hq
       subst hq
       go_simp
      try simp only [Act.put, zA, zB, zC]
      refine tD 2 (.pointer (some ⟨l, 0, none⟩)) 45 rfl rfl rfl ?_ ?_
      ·rintro w' hq
       go_simp
      try simp only [Act.put, zA, zB, zC]
      refine tD 3 (.pointer (some ⟨l, 0, none⟩)) 46 rfl rfl rfl ?_ ?_
      ·rintro w' hq
       go_simp
      try simp only [Act.put, zA, zB, zC]
      refine tD 4 (.pointer (some ⟨l, 0, none⟩)) 47 rfl rfl rfl ?_ ?_
      ·rintro w' hq
       go_simp
      try simp only [Act.put, zA, zB, zC]
      refine tD 5 (.pointer (some ⟨l, 2, none⟩)) 48 rfl rfl rfl ?_ ?_
      ·rintro w' hq
       go_simp
      try simp only [Act.put, zA, zB, zC]
      refine tD 6 (.int .i64 y.b.e) 49 rfl rfl rfl ?_ ?_
      ·rintro w' hq
       subst hq
       go_simp
      try simp only [Act.put, zA, zB, zC]
      refine tD 7 (.bool (p == y.b.e)) 50 rfl rfl rfl ?_ ?_
      ·rintro w' hq
       go_simp
      try simp only [Act.put, zA, zB, zC]
      refine tD 8 (.bool (p == y.b.e)) 42 rfl rfl rfl ?_ ?_
      ·rintro w' hq
       go_simp
      try simp only [Act.put, zA, zB, zC]
      refine wpAnyH_done (by kernel_rfl) ?_ _
      clear d2 d4
      cases hpe : (p == y.b.e) with
      | false =>
       have HE := Kp.mk (show x.take ⟨⟨k, t, f, hp, p, o, s, a, A, n, cc⟩, ml⟩ now = ⟨x.tz, some y⟩ ∧ x.gets ⟨⟨k, t, f, hp, p, o, s, a, A, n, cc⟩, ml⟩ now = [] by
        have e : y.ofE ⟨⟨k, t, f, hp, p, o, s, a, A, n, cc⟩, ml⟩ = false := hpe
        rw [HE0.out.1, HE0.out.2, e]
        exact ⟨rfl, rfl⟩)
       have HXE := Kp.mk (show (⟨x.tz, some y⟩ : Ls) = x by
        obtain ⟨tz, xs⟩ := x
        have := HON.out.1
        simp only at this
        rw [this])
       obtain ⟨tA, tn, tc, htv, hto, htr, htb⟩ := HT4.out
       have t0 := htv.cell 0 rfl
       have HTO := Kp.mk hto
       clear htv hto htr htb hpe HT4
       go_wp2_with fail
       go_ret
       exact ⟨tA, tn, tc, rfl, [], HTO, by rw [HE.out.2]; rfl, fun y hy => by simp at hy, by rw [HE.out.1, HXE.out]; exact HL4.out, HC5.out⟩
      | true =>
       have HE := Kp.mk (show x.take ⟨⟨k, t, f, hp, p, o, s, a, A, n, cc⟩, ml⟩ now = ⟨x.tz, some { y with b := y.b.hears k s a ml now }⟩ ∧ x.gets ⟨⟨k, t, f, hp, p, o, s, a, A, n, cc⟩, ml⟩ now = y.b.gets k s ml by
        have e : y.ofE ⟨⟨k, t, f, hp, p, o, s, a, A, n, cc⟩, ml⟩ = true := hpe
        rw [HE0.out.1, HE0.out.2, e]
        exact ⟨rfl, rfl⟩)
       clear hpe HE0
       go_upto_region 7 with fail
       refine wp_region_held_drew (S := fun X => Vb 54 X gs [.int .i64 k, .int .i64 t, .int .i64 f, .int .i64 hp, .int .i64 p, .int .i64 o, .int .i64 s, .int .i64 a, .slice A n cc]) (by kernel_rfl) HS4.out (fun hS0 => ?_)
       have hbd := (Below.refl v.heap.size v).drew
       have HT5 := Kp.mk (HT4.out.below hbd)
       have HL5 := Kp.mk (HL4.out.below hbd)
       have HHY5 := Kp.mk (HHY4.out.below hbd)
       have HC6 := Kp.mk (HC5.out.trans (Ch.of_below (S := lown l c q) hbd) (fun _ _ e => e))
       clear hbd HT4 HL4 HS4 HHY4 HC5
       generalize v.drew = v2 at *
       refine tD 0 (.pointer (some ⟨l, 0, none⟩)) 51 rfl rfl hS0 (fun _ _ => by go_simp) ?_
       try simp only [Act.put, zA, zB, zC]
       refine tD 1 (.pointer (some ⟨l, 0, none⟩)) 52 rfl rfl hS0 (fun _ _ => by go_simp) ?_
       try simp only [Act.put, zA, zB, zC]
       refine tD 2 (.pointer (some ⟨l, 0, none⟩)) 53 rfl rfl hS0 (fun _ _ => by go_simp) ?_
       try simp only [Act.put, zA, zB, zC]
       refine tD 3 (.agg #[.int .i64 k, .int .i64 t, .int .i64 f, .int .i64 hp, .int .i64 p, .int .i64 o, .int .i64 s, .int .i64 a, .slice A n cc]) 54 rfl rfl hS0 ?_ ?_
       ·rintro w' hq
        exact exec_load_vb (vs := [.int .i64 k, .int .i64 t, .int .i64 f, .int .i64 hp, .int .i64 p, .int .i64 o, .int .i64 s, .int .i64 a, .slice A n cc]) (.tmp 4) rfl rfl (hq) rfl agg_seg
       try simp only [Act.put, zA, zB, zC]
       refine tD 4 (.int .i64 now) 55 rfl rfl hS0 (fun _ _ => by go_simp) ?_
       try simp only [Act.put, zA, zB, zC]
       refine rD 5 rfl fun K hK => ?_
       try rw [if_pos (by rfl)]
       go_simp
       refine hK.out _ _ hS0 (fun _ => ?_)
       clear hK K
       try simp only [Act.put, zA, zB, zC]
       refine rD 6 rfl fun K hK => ?_
       try rw [if_pos (by rfl)]
       go_simp
       refine (bhears_any HHY5.out.bd HT5.out (Nat.le_trans HGT.out.2 (Nat.le_of_lt HT5.out.ltr.1)) ⟨⟨k, t, f, hp, p, o, s, a, A, n, cc⟩, ml⟩ (HMX.out v2 HC6.out) HOK.out htk).mono ?_
       rintro en v3 ⟨rfl, r, Lt, hP⟩
       have hne : gs ≠ l ∧ ¬ q.own gs ∧ gs ≠ gt := ⟨vb_ne hS0 HHY5.out.bd.own (by decide), HHY5.out.bd.bi.not (by decide) hS0, by obtain ⟨_, _, _, hv, _⟩ := HT5.out; exact vb_ne hS0 hv (by decide)⟩
       have hS3 : Vb 54 v3 gs [.int .i64 k, .int .i64 t, .int .i64 f, .int .i64 hp, .int .i64 p, .int .i64 o, .int .i64 s, .int .i64 a, .slice A n cc] := (hP.old.block gs hS0.lt (fun e => e.elim hne.1 (fun e => e.elim hne.2.1 hne.2.2))).trans hS0
       have HP := Kp.mk hP
       clear hP hne
       refine hK.out _ _ hS3 (fun _ => ?_)
       clear hK K
       try simp only [Act.put, zA, zB, zC]
       clear hS0 hS3
       refine wpAnyH_done (by kernel_rfl) ?_ _
       obtain ⟨tA, tn, tc, htv, hto, htr, htb⟩ := HP.out.tl
       have t0 := htv.cell 0 rfl
       have HTO := Kp.mk hto
       have hgl : gt ≠ l ∧ ¬ q.own gt := (HT5.out.no HHY5.out.bd).1
       have hgc : gt ≠ c := by
        obtain ⟨_, _, _, hv, _⟩ := HT5.out
        exact vb_ne hv HHY5.out.cb (by decide)
       have hcl : Ch (fun k => k = l ∨ q.own k ∨ k = gt) v2 v3 := HP.out.old
       have HF := Kp.mk (show LnS v3 l q c ⟨x.tz, some { y with b := y.b.hears k s a ml now }⟩ from
        ⟨HL5.out.tz, fun e => by simp at e, fun z e => by
         obtain rfl := Option.some.inj e
         have hk := hears_keeps (b := y.b) k s a ml now
         have hcb : Cb v3 c y.b.t y.b.e y.bt y.q := (hcl.block c (Vb.lt HHY5.out.cb) (fun e => e.elim HHY5.out.ne.1 (fun e => e.elim HHY5.out.ne.2 (fun e => hgc e.symm)))).trans HHY5.out.cb
         refine ⟨⟨HP.out.bd, ?_, HHY5.out.hq, by show (y.b.hears k s a ml now).f = 0; rw [hk.2.1]; exact HHY5.out.f0, by show 1 ≤ (y.b.hears k s a ml now).t ∧ (y.b.hears k s a ml now).t ≤ 6; rw [hk.1]; exact HHY5.out.tb, by show 1 ≤ (y.b.hears k s a ml now).e ∧ (y.b.hears k s a ml now).e ≤ _; rw [hk.2.2.1]; exact HHY5.out.eb⟩, hk.1.trans HYT.out.1, fun e => Nat.lt_of_le_of_lt hk.2.2.2 (HYT.out.2.1 e), Nat.le_trans hk.2.2.2 HYT.out.2.2⟩
         rw [← hk.1, ← hk.2.2.1] at hcb
         exact hcb⟩)
       have HC7 := Kp.mk (HC6.out.trans hcl (fun k hk e => e.elim .inl (fun e => e.elim (fun e => .inr (.inr e)) (fun e => absurd HGT.out.2 (by omega)))))
       have HPP := Kp.mk (And.intro HP.out.map HP.out.ok)
       clear htv hto htr htb hgl hgc hcl HP HL5 HHY5 HC6 HT5
       go_wp2_with fail
       go_ret
       first
       | exact ⟨tA, tn, tc, Lt, rfl, HTO, by rw [HE.out.2]; exact HPP.out.1, HPP.out.2, by rw [HE.out.1]; exact HF.out, HC7.out⟩
       | exact ⟨tA, tn, tc, rfl, Lt, HTO, by rw [HE.out.2]; exact HPP.out.1, HPP.out.2, by rw [HE.out.1]; exact HF.out, HC7.out⟩
end
end Go.Proofs.YtnoflfbcgbhipaaGreat.Oct
