/- A lane as a statement uses it; the chapter's examples. -/
import Derived.Test.YtcolklkjaifplaaLanG
namespace Go.Proofs.Ytcolklkjaifplaa.Oct
open Go.RowKit
set_option linter.unusedVariables false
set_option linter.unusedSimpArgs false
/-- Any block. -/
def Tt (_ : Nat) : Prop := True
/-- A lane in block l, its channel in c, from lo on, with these frames; other frames xs beside it. -/
structure St (W : World) (lo : Nat) (w : World) (l c room : Nat) (fs xs : List FrV) : Prop where
  lp : Lp w l c room fs
  fr : Fall Tt w fs
  ex : Fall Tt w xs
  bl : Below lo W w
  ge : lo ≤ c ∧ lo ≤ w.heap.size
section
variable {W w w' : World} {lo l c room : Nat} {fs xs gs a b : List FrV} {f : FrV}
theorem St.below (h : St W lo w l c room fs xs) (hb : Below w.heap.size w w') : St W lo w' l c room fs xs :=
  ⟨h.lp.below hb, h.fr.below hb, h.ex.below hb, h.bl.trans (hb.mono h.ge.2), h.ge.1, Nat.le_trans h.ge.2 hb.size⟩
theorem St.step (h : St W lo w l c room fs xs) (hc : Ch (fun k => k = c) w w') (hl : Lp w' l c room gs) (hg : Fall Tt w' gs) : St W lo w' l c room gs xs :=
  ⟨hl, hg, h.ex.other hc (fun b cs m e => by rw [e]; exact h.lp.nocell cs _ m), h.bl.trans (hc.below (fun x e => by rw [e]; exact h.ge.1) h.ge.2), h.ge.1, Nat.le_trans h.ge.2 hc.size⟩
theorem St.turned (h : St W lo w l c room fs xs) (hc : Ch (fun k => k = c) w w') : Fall Tt w' fs := h.fr.other hc (fun b cs m e => by rw [e]; exact h.lp.nocell cs _ m)
/-- One more beside it. -/
theorem St.more (h : St W lo w l c room fs xs) {P : Nat → Prop} (hf : Fok P w f) : St W lo w l c room fs (f :: xs) :=
  ⟨h.lp, h.fr, fun g hg => by
    rcases List.mem_cons.1 hg with rfl | hg
    · exact hf.imp (fun _ _ _ => trivial)
    · exact h.ex g hg, h.bl, h.ge⟩
theorem St.less (h : St W lo w l c room fs xs) (ys : List FrV) (hs : ∀ y ∈ ys, y ∈ xs) : St W lo w l c room fs ys := ⟨h.lp, h.fr, h.ex.sub hs, h.bl, h.ge⟩
theorem st_new (w : World) (n : Int) (h : 1 ≤ n ∧ n ≤ 64) (W : World) (hb : Below lo W w) (hlo : lo ≤ w.heap.size) (hx : Fall Tt w xs) : Calls Try.prog 23 #[.int .i64 n] w fun e w' => ∃ l c, e = .returned (.tuple #[.pointer (some ⟨l, 0, none⟩), .int .i64 0]) ∧ St W lo w' l c n.toNat [] xs := by
  refine (lnew_yes w n h).mono ?_
  rintro e w' ⟨l, c, rfl, hL, h1, h2, hb2⟩
  exact ⟨l, c, rfl, hL, Fall.none _ _, hx.below hb2, hb.trans (hb2.mono hlo), Nat.le_trans hlo h2, Nat.le_trans hlo hb2.size⟩
theorem st_put (h : St W lo w l c room fs xs) {B n m : Nat} {A : Option Addr} {bs : List Int} (hr : Rd .u8 w B A n m bs) (hB : B ≤ w.heap.size) (hby : By bs) (h5 : n ≤ 512) (h7 : fs.length < room) : Calls Try.prog 27 #[.pointer (some ⟨l, 0, none⟩), .slice A n m] w fun e w' => e = .returned (.int .i64 0) ∧ ∃ g : FrV, g.l = bs ∧ g.n = n ∧ St W lo w' l c room (fs ++ [g]) xs := by
  have HE : putE n fs.length room = 0 := by unfold putE; rw [if_neg (by omega), if_neg (by omega)]
  refine (lput_any h.lp hr hB hby).mono ?_
  rintro e w' ⟨rfl, hC, h1, -⟩
  obtain ⟨g, hg, hgo, hL⟩ := h1 HE
  exact ⟨by rw [HE], g, hg, by rw [← hgo.len, hg, hr.len], h.step hC hL ((h.turned hC).append (Fall.one (hgo.imp (fun _ _ _ => trivial))))⟩
theorem st_put_no (h : St W lo w l c room fs xs) {B n m : Nat} {A : Option Addr} {bs : List Int} (hr : Rd .u8 w B A n m bs) (hB : B ≤ w.heap.size) (hby : By bs) {E : Int} (hE : putE n fs.length room = E) (h0 : E ≠ 0) : Calls Try.prog 27 #[.pointer (some ⟨l, 0, none⟩), .slice A n m] w fun e w' => e = .returned (.int .i64 E) ∧ St W lo w' l c room fs xs := by
  refine (lput_any h.lp hr hB hby).mono ?_
  rintro e w' ⟨rfl, hC, -, h1⟩
  exact ⟨by rw [hE], h.step hC (h1 (by rw [hE]; exact h0)) (h.turned hC)⟩
theorem st_take (h : St W lo w l c room (f :: fs) xs) : Calls Try.prog 29 #[.pointer (some ⟨l, 0, none⟩)] w fun e w' => e = .returned (.tuple #[.slice f.A f.n f.c, .bool true]) ∧ St W lo w' l c room fs (f :: xs) := by
  refine (ltake_some h.lp).mono ?_
  rintro e w' ⟨rfl, hL, hC⟩
  have h2 := h.turned hC
  exact ⟨rfl, (h.step hC hL (h2.sub (fun g hg => List.mem_cons_of_mem _ hg))).more (h2 f List.mem_cons_self)⟩
theorem st_take_no (h : St W lo w l c room [] xs) : Calls Try.prog 29 #[.pointer (some ⟨l, 0, none⟩)] w fun e w' => e = .returned (.tuple #[.slice none 0 0, .bool false]) ∧ w' = w := ltake_none h.lp
theorem drop_mem {α : Type} (fs : List α) (i : Int) : ∀ g ∈ dropL fs i, g ∈ fs := by
  intro g hg
  unfold dropL at hg
  split at hg
  · rcases List.mem_append.1 hg with h | h
    · exact List.mem_of_mem_take h
    · exact List.mem_of_mem_drop h
  · exact hg
theorem front_mem {α : Type} (fs : List α) (i : Int) : ∀ g ∈ frontL fs i, g ∈ fs := by
  intro g hg
  unfold frontL at hg
  split at hg
  · rcases List.mem_append.1 hg with h | h
    · cases h2 : fs[i.toNat]? with
      | none => rw [h2] at h; simp at h
      | some y => rw [h2] at h; simp at h; subst h; exact List.mem_of_getElem? h2
    · exact drop_mem fs i g h
  · exact hg
theorem st_drop (h : St W lo w l c room fs xs) (i : Int) : Calls Try.prog 32 #[.pointer (some ⟨l, 0, none⟩), .int .i64 i] w fun e w' => e = .returned (.int .i64 (placeE fs.length i)) ∧ St W lo w' l c room (dropL fs i) xs := by
  refine (ldrop_any h.lp i).mono ?_
  rintro e w' ⟨rfl, hL, hC⟩
  exact ⟨rfl, h.step hC hL ((h.turned hC).sub (drop_mem fs i))⟩
theorem st_front (h : St W lo w l c room fs xs) (i : Int) : Calls Try.prog 36 #[.pointer (some ⟨l, 0, none⟩), .int .i64 i] w fun e w' => e = .returned (.int .i64 (placeE fs.length i)) ∧ St W lo w' l c room (frontL fs i) xs := by
  refine (lfront_any h.lp i).mono ?_
  rintro e w' ⟨rfl, hL, hC⟩
  exact ⟨rfl, h.step hC hL ((h.turned hC).sub (front_mem fs i))⟩
theorem st_front_ok (h : St W lo w l c room fs xs) (i : Int) (hi : 0 ≤ i ∧ i < fs.length) (he : frontL fs i = gs) : Calls Try.prog 36 #[.pointer (some ⟨l, 0, none⟩), .int .i64 i] w fun e w' => e = .returned (.int .i64 0) ∧ St W lo w' l c room gs xs :=
  (st_front h i).mono (fun e w' ⟨h1, h2⟩ => ⟨by rw [h1, show placeE fs.length i = 0 from if_pos hi], he ▸ h2⟩)
theorem st_front_no (h : St W lo w l c room fs xs) (i : Int) (hi : ¬ (0 ≤ i ∧ i < fs.length)) : Calls Try.prog 36 #[.pointer (some ⟨l, 0, none⟩), .int .i64 i] w fun e w' => e = .returned (.int .i64 9) ∧ St W lo w' l c room fs xs :=
  (st_front h i).mono (fun e w' ⟨h1, h2⟩ => ⟨by rw [h1, show placeE fs.length i = 9 from if_neg hi], by rwa [show frontL fs i = fs from if_neg hi] at h2⟩)
theorem st_drop_ok (h : St W lo w l c room fs xs) (i : Int) (hi : 0 ≤ i ∧ i < fs.length) (he : dropL fs i = gs) : Calls Try.prog 32 #[.pointer (some ⟨l, 0, none⟩), .int .i64 i] w fun e w' => e = .returned (.int .i64 0) ∧ St W lo w' l c room gs xs :=
  (st_drop h i).mono (fun e w' ⟨h1, h2⟩ => ⟨by rw [h1, show placeE fs.length i = 0 from if_pos hi], he ▸ h2⟩)
theorem st_drop_no (h : St W lo w l c room fs xs) (i : Int) (hi : ¬ (0 ≤ i ∧ i < fs.length)) : Calls Try.prog 32 #[.pointer (some ⟨l, 0, none⟩), .int .i64 i] w fun e w' => e = .returned (.int .i64 9) ∧ St W lo w' l c room fs xs :=
  (st_drop h i).mono (fun e w' ⟨h1, h2⟩ => ⟨by rw [h1, show placeE fs.length i = 9 from if_neg hi], by rwa [show dropL fs i = fs from if_neg hi] at h2⟩)
theorem st_clear (h : St W lo w l c room fs xs) : Calls Try.prog 38 #[.pointer (some ⟨l, 0, none⟩)] w fun e w' => e = .returned (.int .i64 fs.length) ∧ St W lo w' l c room [] xs := by
  refine (lclear_any h.lp).mono ?_
  rintro e w' ⟨rfl, hL, hC⟩
  exact ⟨rfl, h.step hC hL (Fall.none _ _)⟩
theorem st_len (h : St W lo w l c room fs xs) : Calls Try.prog 42 #[.pointer (some ⟨l, 0, none⟩)] w fun e w' => e = .returned (.int .i64 fs.length) ∧ w' = w := llen_any h.lp
theorem st_double (h : St W lo w l c room fs xs) (i : Int) (hi : 0 ≤ i ∧ i < fs.length) (h7 : fs.length < room) : Calls Try.prog 34 #[.pointer (some ⟨l, 0, none⟩), .int .i64 i] w fun e w' => e = .returned (.int .i64 0) ∧ ∃ f g : FrV, fs[i.toNat]? = some f ∧ g.l = f.l ∧ St W lo w' l c room (fs ++ [g]) xs := by
  have HE : dblE fs.length room i = 0 := by unfold dblE; rw [if_pos hi, if_neg (show ¬ room ≤ fs.length by omega)]
  refine (ldouble_any h.lp h.fr i).mono ?_
  rintro e w' ⟨rfl, hC, h1, -⟩
  obtain ⟨f, g, hf, hg, hgo, hL⟩ := h1 HE
  exact ⟨by rw [HE], f, g, hf, hg, h.step hC hL ((h.turned hC).append (Fall.one (hgo.imp (fun _ _ _ => trivial))))⟩
theorem st_double_no (h : St W lo w l c room fs xs) (i : Int) {E : Int} (hE : dblE fs.length room i = E) (h0 : E ≠ 0) : Calls Try.prog 34 #[.pointer (some ⟨l, 0, none⟩), .int .i64 i] w fun e w' => e = .returned (.int .i64 E) ∧ St W lo w' l c room fs xs := by
  refine (ldouble_any h.lp h.fr i).mono ?_
  rintro e w' ⟨rfl, hC, -, h1⟩
  exact ⟨by rw [hE], h.step hC (h1 (by rw [hE]; exact h0)) (h.turned hC)⟩
/-- What All answers, beside the lane. -/
structure Row (W : World) (lo : Nat) (w : World) (A : Option Addr) (n m : Nat) (gs : List FrV) : Prop where
  rr : Rr w w.heap.size A n m gs
  fr : Fall Tt w gs
theorem Row.below {A : Option Addr} {n m : Nat} (h : Row W lo w A n m gs) (hb : Below w.heap.size w w') : Row W lo w' A n m gs :=
  ⟨⟨h.rr.1, h.rr.2.1, h.rr.2.2.1, h.rr.2.2.2.1, fun hn => by
    obtain ⟨b, off, e, hlt, hc⟩ := h.rr.at_ hn
    exact ⟨b, off, e, Nat.lt_of_lt_of_le hlt hb.size, fun j f hj => (hb.cell (p := ⟨b, _, none⟩) hlt).trans (hc j f hj)⟩⟩, h.fr.below hb⟩
theorem st_all (h : St W lo w l c room fs xs) : Calls Try.prog 43 #[.pointer (some ⟨l, 0, none⟩)] w fun e w' => ∃ A m, e = .returned (.slice A fs.length m) ∧ ∃ gs, gs.map FrV.l = fs.map FrV.l ∧ Row W lo w' A fs.length m gs ∧ St W lo w' l c room fs xs := by
  refine (lall_any h.lp h.fr).mono ?_
  rintro e w' ⟨A, m, gs, rfl, hO, hm, hG, hF, hL, hC⟩
  exact ⟨A, m, rfl, gs, hm, ⟨hO.rr, hG.imp (fun _ _ _ => trivial)⟩, h.step hC hL hF⟩
theorem st_eq {A1 A2 : Option Addr} {n m1 m2 : Nat} {hs : List FrV} (h1 : Row W lo w A1 n m1 gs) (h2 : Row W lo w A2 n m2 hs) (he : gs.map FrV.l = hs.map FrV.l) : Calls Try.prog 78 #[.slice A1 n m1, .slice A2 n m2] w fun e w' => e = .returned (.bool true) ∧ Below w.heap.size w w' :=
  eqF_any h1.rr h2.rr (Nat.le_refl _) (Nat.le_refl _) h1.fr h2.fr he
/-- A list literal of frames that lie beside the lane. -/
theorem row_lit (fs : List FrV) (h : Fall Tt w fs) (hl : fs.length ≤ 1000000000) : Row W lo (w.alloc (.cells (fs.map FrV.val).toArray 60)) (some ⟨w.heap.size, 0, none⟩) fs.length fs.length fs :=
  ⟨rr_lit w fs (by simp) hl, h.below (below_alloc w _)⟩
theorem row_two {x y : FrV} {X Y : Value} (hx : x.val = X) (hy : y.val = Y) (h1 : Fok Tt w x) (h2 : Fok Tt w y) : Row W lo (w.alloc (.cells #[X, Y] 60)) (some ⟨w.heap.size, 0, none⟩) 2 2 [x, y] := by
  subst hx hy
  exact row_lit [x, y] (fun f hf => by
    rcases List.mem_cons.1 hf with rfl | hf
    · exact h1
    · rw [List.mem_singleton.1 hf]; exact h2) (by simp)
/-- A literal of one byte. -/
theorem byte_lit (w : World) (x : Int) (h : 0 ≤ x ∧ x < 256) : Fok Tt (w.alloc (.cells #[.int .u8 x] 5)) ⟨some ⟨w.heap.size, 0, none⟩, 1, 1, [x]⟩ := by
  have := own_lit w [x] w.heap.size (Nat.le_refl _) (by simp [maxLen])
  exact (Fok.of_own (c := 1) (n := 1) this (by omega) (fun z hz => by rw [List.mem_singleton.1 hz]; exact h)).imp (fun _ _ _ => trivial)
end
set_option maxRecDepth 100000 in
set_option maxHeartbeats 4000000 in
theorem lworks_any (w : World) : Calls Try.prog 41 #[] w fun e w' => e = .returned (.bool true) ∧ Below w.heap.size w w' := by
  obtain ⟨W, hW⟩ : ∃ W, W = w := ⟨_, rfl⟩
  have HB := Kp.mk (show Below w.heap.size W w by rw [hW]; exact Below.refl _ _)
  have HW := Kp.mk hW
  go_enter Try.func41, Try.ntmps41
  go_wp2_with fail
  refine (st_new w 2 (by omega) W HB.out (Nat.le_refl _) (Fall.none _ _)).mono ?_
  rintro e w1 ⟨l, c, rfl, h1⟩
  generalize hlo : w.heap.size = lo at *
  have HLO := Kp.mk hlo
  clear hlo
  have hA := byte_lit w1 1 (by omega)
  have h2 := (h1.below (below_alloc w1 (.cells #[.int .u8 1] 5))).more hA
  have hz : (w1.alloc (.cells #[.int .u8 1] 5)).heap.size = w1.heap.size + 1 := by simp
  have hBB := byte_lit (w1.alloc (.cells #[.int .u8 1] 5)) 2 (by omega)
  have h3 := (h2.below (below_alloc _ (.cells #[.int .u8 2] 5))).more hBB
  rw [hz] at h3
  clear h1 hA h2 hz hBB
  go_upto_region 3 with fail
  generalize hw2 : (w1.alloc (.cells #[.int .u8 1] 5)).alloc (.cells #[.int .u8 2] 5) = w2 at *
  obtain ⟨ga, hga⟩ : ∃ ga, ga = w1.heap.size := ⟨_, rfl⟩
  obtain ⟨gb, hgb⟩ : ∃ gb, gb = w1.heap.size + 1 := ⟨_, rfl⟩
  rw [← hgb, ← hga] at h3
  rw [← hgb, ← hga]
  clear hw2 hga hgb
  generalize hfa : (⟨some ⟨ga, 0, none⟩, 1, 1, [1]⟩ : FrV) = fa at *
  generalize hfb : (⟨some ⟨gb, 0, none⟩, 1, 1, [2]⟩ : FrV) = fb at *
  have HFA := Kp.mk hfa
  have HFB := Kp.mk hfb
  have HRA : ∀ {w' : World}, Fok Tt w' fa → Rd .u8 w' w'.heap.size (some ⟨ga, 0, none⟩) 1 1 [1] := fun h => by subst hfa; exact h.rd
  have HRB : ∀ {w' : World}, Fok Tt w' fb → Rd .u8 w' w'.heap.size (some ⟨gb, 0, none⟩) 1 1 [2] := fun h => by subst hfb; exact h.rd
  have HRA := Kp.mk @HRA
  have HRB := Kp.mk @HRB
  have ma : fa ∈ [fb, fa] := by simp
  have mb : fb ∈ [fb, fa] := by simp
  have HM := Kp.mk (And.intro ma mb)
  clear hfa hfb ma mb
  have B1 := Kp.mk (show By [1] from fun z hz => by rw [List.mem_singleton.1 hz]; omega)
  have B2 := Kp.mk (show By [2] from fun z hz => by rw [List.mem_singleton.1 hz]; omega)
  go_wp2_with fail
  refine (st_put h3 (HRA.out (h3.ex fa HM.out.1)) (Nat.le_refl _) B1.out (by omega) (by decide)).mono ?_
  rintro e u4 ⟨rfl, g1, hg1, hn1, h4⟩
  clear h3
  go_wp2_with fail
  refine (st_put h4 (HRB.out (h4.ex fb HM.out.2)) (Nat.le_refl _) B2.out (by omega) (by simp)).mono ?_
  rintro e u5 ⟨rfl, g2, hg2, hn2, h5⟩
  clear h4
  have HG1 := Kp.mk hg1
  have HG2 := Kp.mk hg2
  have h5 : St W lo _ l c 2 [g1, g2] [fb, fa] := h5
  clear hg1 hg2 hn1 hn2
  go_wp2_with fail
  refine (st_put_no h5 (HRA.out (h5.ex fa HM.out.1)) (Nat.le_refl _) B1.out (E := 7) rfl (by decide)).mono ?_
  rintro e u6 ⟨rfl, h6⟩
  clear h5
  go_wp2_with fail
  refine (st_len h6).mono ?_
  rintro e w' ⟨rfl, rfl⟩
  go_wp2_with fail
  refine (st_front_ok h6 1 (by simp) (gs := [g2, g1]) rfl).mono ?_
  rintro e u7 ⟨rfl, h7⟩
  clear h6
  go_wp2_with fail
  refine (st_all h7).mono ?_
  rintro e q1 ⟨A1, m1, rfl, r1, hm1, hr1, h8a⟩
  have hrow1 := row_two (W := W) (lo := lo) (X := .slice (some ⟨gb, 0, none⟩) 1 1) (Y := .slice (some ⟨ga, 0, none⟩) 1 1) (by rw [← HFB.out]; rfl) (by rw [← HFA.out]; rfl) (h8a.ex fb HM.out.2) (h8a.ex fa HM.out.1)
  have hr1b := hr1.below (below_alloc q1 (.cells #[.slice (some ⟨gb, 0, none⟩) 1 1, .slice (some ⟨ga, 0, none⟩) 1 1] 60))
  have h8b := h8a.below (below_alloc q1 (.cells #[.slice (some ⟨gb, 0, none⟩) 1 1, .slice (some ⟨ga, 0, none⟩) 1 1] 60))
  have HE1 := Kp.mk (show r1.map FrV.l = [fb, fa].map FrV.l by rw [hm1]; simp only [List.map_cons, List.map_nil]; rw [HG1.out, HG2.out, show fa.l = [1] by rw [← HFA.out], show fb.l = [2] by rw [← HFB.out]])
  clear h7 hm1 hr1 h8a
  go_wp2_with fail
  refine (st_eq hr1b hrow1 HE1.out).mono ?_
  rintro e p1 ⟨rfl, hb1⟩
  have h8 := h8b.below hb1
  clear hr1b hrow1 h8b hb1
  go_wp2_with fail
  refine (st_double_no h8 0 (E := 7) rfl (by decide)).mono ?_
  rintro e u9 ⟨rfl, h9⟩
  clear h8
  go_wp2_with fail
  refine (st_drop_ok h9 0 (by simp) (gs := [g1]) rfl).mono ?_
  rintro e u10 ⟨rfl, h10⟩
  clear h9
  go_wp2_with fail
  refine (st_double h10 0 (by simp) (by simp)).mono ?_
  rintro e u11 ⟨rfl, f0, g3, hf0, hg3, h11⟩
  clear h10
  have hf0 : f0 = g1 := by simpa using hf0.symm
  subst hf0
  have HG3 := Kp.mk (hg3.trans HG1.out)
  have h11 : St W lo _ l c 2 [f0, g3] [fb, fa] := h11
  clear hg3
  go_wp2_with fail
  refine (st_all h11).mono ?_
  rintro e q2 ⟨A2, m2, rfl, r2, hm2, hr2, h12a⟩
  have hrow2 := row_two (W := W) (lo := lo) (X := .slice (some ⟨ga, 0, none⟩) 1 1) (Y := .slice (some ⟨ga, 0, none⟩) 1 1) (by rw [← HFA.out]; rfl) (by rw [← HFA.out]; rfl) (h12a.ex fa HM.out.1) (h12a.ex fa HM.out.1)
  have hr2b := hr2.below (below_alloc q2 (.cells #[.slice (some ⟨ga, 0, none⟩) 1 1, .slice (some ⟨ga, 0, none⟩) 1 1] 60))
  have h12b := h12a.below (below_alloc q2 (.cells #[.slice (some ⟨ga, 0, none⟩) 1 1, .slice (some ⟨ga, 0, none⟩) 1 1] 60))
  have HE2 := Kp.mk (show r2.map FrV.l = [fa, fa].map FrV.l by rw [hm2]; simp only [List.map_cons, List.map_nil]; rw [HG1.out, HG3.out, show fa.l = [1] by rw [← HFA.out]])
  clear h11 hm2 hr2 h12a
  go_wp2_with fail
  refine (st_eq hr2b hrow2 HE2.out).mono ?_
  rintro e p2 ⟨rfl, hb2⟩
  have h12 := h12b.below hb2
  clear hr2b hrow2 h12b hb2
  go_wp2_with fail
  refine (st_take h12).mono ?_
  rintro e u13 ⟨rfl, h13⟩
  clear h12
  go_wp2_with fail
  refine (st_take h13).mono ?_
  rintro e u14 ⟨rfl, h14⟩
  clear h13
  go_wp2_with fail
  refine (st_take_no h14).mono ?_
  rintro e w'' ⟨rfl, rfl⟩
  have hx1 := h14.ex f0 (by simp)
  have hx2 := h14.ex g3 (by simp)
  have hxa := h14.ex fa (by simp)
  have hq1 := eqBytes_any hx1.rd (HRA.out hxa) hx1.bytes B1.out
  have hq2 := eqBytes_any hx2.rd (HRA.out hxa) hx2.bytes B1.out
  rw [decide_eq_true HG1.out] at hq1
  rw [decide_eq_true HG3.out] at hq2
  clear hx1 hx2 hxa
  have hf := st_front_no h14 0 (by simp)
  go_wp2_with (first | (refine hq1.mono ?_; rintro e z1 ⟨rfl, rfl⟩) | (refine hq2.mono ?_; rintro e z1 ⟨rfl, rfl⟩) | (refine hf.mono ?_; rintro e z2 ⟨rfl, hfin⟩))
  go_ret
  exact ⟨rfl, by have := hfin.bl; rw [HW.out] at this; rw [HLO.out]; exact this⟩
end Go.Proofs.Ytcolklkjaifplaa.Oct
