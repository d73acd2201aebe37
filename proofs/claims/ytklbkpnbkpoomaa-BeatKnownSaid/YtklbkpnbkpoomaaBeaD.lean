/- The chapter's beat: works. -/
import Derived.Test.YtklbkpnbkpoomaaBeaC
namespace Go.Proofs.Ytklbkpnbkpoomaa.Oct
open Go.RowKit
set_option linter.unusedVariables false
set_option linter.unusedSimpArgs false

/-- A beat as a statement uses it: made since w0. -/
structure SB (w0 w : World) (x : Nat) (f c a : Int) (t : Nat) : Prop where
  bt : Bt w x f c a t
  new : w0.heap.size ≤ x
  old : Below w0.heap.size w0 w
section
variable {w0 w w' : World} {x : Nat} {f c a : Int} {t : Nat}
theorem SB.step (h : SB w0 w x f c a t) {a' : Int} {t' : Nat} (hb : Bt w' x f c a' t') (hg : w.grownBy w' (some x)) : SB w0 w' x f c a' t' := ⟨hb, h.new, below_grown h.old hg h.old.size h.new⟩
theorem SB.below (h : SB w0 w x f c a t) (hb : Below w.heap.size w w') : SB w0 w' x f c a t := ⟨h.bt.below hb h.bt.own.lt, h.new, h.old.trans (hb.mono h.old.size)⟩
theorem sb_new (h : Below w0.heap.size w0 w) (f c : Int) (hw : waitsB f c = true) : Calls Try.prog 8 #[.int .i64 f, .int .i64 c] w fun e w' => e = .returned (.tuple #[.pointer (some ⟨w.heap.size, 0, none⟩), .int .i64 0]) ∧ SB w0 w' w.heap.size f c 0 0 :=
  (bnew_yes w f c hw).mono fun _ _ ⟨h1, h2, h3⟩ => ⟨h1, h2, h.size, h.trans (h3.mono h.size)⟩
theorem SB.start (h : SB w0 w x f c a t) (n : Int) (hn : tickB n = true) {z : Int} (hz : n + f = z) : Calls Try.prog 9 #[.pointer (some ⟨x, 0, none⟩), .int .i64 n] w fun e w' => e = .returned (.int .i64 0) ∧ SB w0 w' x f c z 0 :=
  (bstart_yes h.bt n hn).mono fun _ _ ⟨h1, h2, h3⟩ => ⟨h1, hz ▸ h.step h2 h3⟩
theorem SB.due (h : SB w0 w x f c a t) (n : Int) (h0 : 0 < a) (hn : tickB n = true) (h1 : a ≤ n) (ht : t ≤ 10000000) {z : Int} (hz : n + wv f c (t + 1) = z) {u : Nat} (hu : t + 1 = u) : Calls Try.prog 10 #[.pointer (some ⟨x, 0, none⟩), .int .i64 n] w fun e w' => e = .returned (.bool true) ∧ SB w0 w' x f c z u :=
  (bdue_yes h.bt n h0 hn h1 ht).mono fun _ _ ⟨h1, h2, h3⟩ => ⟨h1, hu ▸ hz ▸ h.step h2 h3⟩
theorem SB.stop (h : SB w0 w x f c a t) : Calls Try.prog 14 #[.pointer (some ⟨x, 0, none⟩)] w fun e w' => e = .returned (.tuple #[]) ∧ SB w0 w' x f c 0 0 :=
  (bstop_any h.bt).mono fun _ _ ⟨h1, h2, h3⟩ => ⟨h1, h.step h2 h3⟩
end
set_option maxRecDepth 100000 in
set_option maxHeartbeats 2000000 in
theorem works_any (w : World) : Calls Try.prog 6 #[] w fun e w' => e = .returned (.bool true) ∧ Below w.heap.size w w' := by
  go_enter Try.func6, Try.ntmps6
  go_wp2_with fail
  refine (sb_new (Below.refl _ w) 2 5 (by decide)).mono ?_
  rintro e w1 ⟨rfl, h⟩
  obtain ⟨x, hx⟩ : ∃ x, x = w.heap.size := ⟨_, rfl⟩
  rw [← hx] at h ⊢
  have HX := Kp.mk hx
  clear hx
  go_wp2_with fail
  refine (h.start 10 (by decide) (z := 12) rfl).mono ?_
  rintro e w2 ⟨rfl, h2⟩
  clear h
  have h := h2
  clear h2
  go_wp2_with fail
  refine (bdue_no h.bt 11 (by omega)).mono ?_
  rintro e w3 ⟨rfl, hw⟩
  replace hw := hw.symm
  subst hw
  go_wp2_with fail
  refine (h.due 12 (by omega) (by decide) (by omega) (by omega) (z := 16) (by decide) (u := 1) rfl).mono ?_
  rintro e w4 ⟨rfl, h4⟩
  clear h
  have h := h4
  clear h4
  go_wp2_with fail
  refine (bat_any h.bt).mono ?_
  rintro e w5 ⟨rfl, hw⟩
  replace hw := hw.symm
  subst hw
  go_wp2_with fail
  refine (h.due 16 (by omega) (by decide) (by omega) (by omega) (z := 21) (by decide) (u := 2) rfl).mono ?_
  rintro e w6 ⟨rfl, h6⟩
  clear h
  have h := h6
  clear h6
  go_wp2_with fail
  refine (bat_any h.bt).mono ?_
  rintro e w7 ⟨rfl, hw⟩
  replace hw := hw.symm
  subst hw
  go_wp2_with fail
  refine (btries_any h.bt).mono ?_
  rintro e w8 ⟨rfl, hw⟩
  replace hw := hw.symm
  subst hw
  go_wp2_with fail
  refine (h.due 30 (by omega) (by decide) (by omega) (by omega) (z := 35) (by decide) (u := 3) rfl).mono ?_
  rintro e w9 ⟨rfl, h9⟩
  clear h
  have h := h9
  clear h9
  go_wp2_with fail
  refine (bat_any h.bt).mono ?_
  rintro e w10 ⟨rfl, hw⟩
  replace hw := hw.symm
  subst hw
  go_wp2_with fail
  refine (h.stop).mono ?_
  rintro e w11 ⟨rfl, h11⟩
  clear h
  have h := h11
  clear h11
  go_wp2_with fail
  refine (bdue_no h.bt 99 (by omega)).mono ?_
  rintro e w12 ⟨rfl, hw⟩
  replace hw := hw.symm
  subst hw
  go_wp2_with fail
  refine (btries_any h.bt).mono ?_
  rintro e w13 ⟨rfl, hw⟩
  replace hw := hw.symm
  subst hw
  go_wp2_with fail
  refine (bruns_any h.bt).mono ?_
  rintro e w14 ⟨rfl, hw⟩
  replace hw := hw.symm
  subst hw
  have HO := Kp.mk h.old
  clear h
  go_wp2_with fail
  go_ret
  exact ⟨rfl, HO.out⟩
end Go.Proofs.Ytklbkpnbkpoomaa.Oct
