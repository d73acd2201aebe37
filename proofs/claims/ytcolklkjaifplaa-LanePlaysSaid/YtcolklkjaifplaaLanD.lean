/- Contracts of layer 11 (lane): copies of frames; Put, Double, All, New; rows of frames. -/
import Derived.Test.YtcolklkjaifplaaLanC
namespace Go.Proofs.Ytcolklkjaifplaa.Oct
open Go.RowKit
set_option linter.unusedVariables false
set_option linter.unusedSimpArgs false
/-- A copy of bytes. -/
theorem cloneB_any {w : World} {B n c : Nat} {A : Option Addr} {l : List Int} (h : Rd .u8 w B A n c l) (hB : B ≤ w.heap.size) (hsz : n ≤ 512) (hby : By l) : Calls Try.prog 70 #[.slice A n c] w fun e w' => ∃ g : FrV, e = .returned g.val ∧ g.l = l ∧ g.n = n ∧ Fok (fun b => w.heap.size ≤ b) w' g ∧ Below w.heap.size w w' := by
  have hb0 := below_alloc w (.cells #[] 5)
  have hO : Own (w.alloc (.cells #[] 5)) w.heap.size (.slice (some ⟨w.heap.size, 0, none⟩) 0 0) 0 [] := World.ownsRow_made w #[] 0 (Nat.le_refl _) (Nat.zero_le _) rfl
  have hr := h.below' hb0 hB
  have hz : w.heap.size ≤ (w.alloc (.cells #[] 5)).heap.size := hb0.size
  have hc := h.2.2.2.1
  have hle := h.le
  have hl := h.len
  have hq : (binOp .eql 60 (.slice A n c) (.slice none 0 0)).run Try.prog w = .ok (.bool A.isNone) w := Lib.run_eql_slice_nil w _ _ A n c 0 0 Try.underlying60
  rcases A with _ | ad
  · obtain rfl := hc rfl
    obtain rfl : n = 0 := by omega
    obtain rfl := List.eq_nil_of_length_eq_zero hl
    simp only [Option.isNone_none] at hq
    go_enter Try.func70, Try.ntmps70
    go_wp2_with fail
    go_ret
    exact ⟨⟨none, 0, 0, []⟩, rfl, rfl, rfl, Fok.nil_ _ _, Below.refl _ _⟩
  · simp only [Option.isNone_some] at hq
    obtain ⟨A', c', w', hrun, h2, h3⟩ := run_append8 60 hO hr (by omega) hz
    rw [Nat.zero_add] at hrun h2
    rw [List.nil_append] at h2
    go_enter Try.func70, Try.ntmps70
    go_wp2_with (at_builtin; refine Lib.wpList_append_run _ rfl _ _ _ _ rfl _ _ rfl rfl _ _ hrun ?_)
    go_ret
    exact ⟨⟨A', n, c', l⟩, rfl, rfl, rfl, Fok.of_own h2 hsz hby, hb0.trans h3⟩
section
variable {w : World} {l c room : Nat} {fs a b : List FrV} {f : FrV}
/-- What Put answers. -/
def putE (n len room : Nat) : Int := if 512 < n then 5 else if room ≤ len then 7 else 0
set_option maxRecDepth 100000 in
theorem lput_any (h : Lp w l c room fs) {B n m : Nat} {A : Option Addr} {bs : List Int} (hr : Rd .u8 w B A n m bs) (hB : B ≤ w.heap.size) (hby : By bs) : Calls Try.prog 27 #[.pointer (some ⟨l, 0, none⟩), .slice A n m] w fun e w' =>
    e = .returned (.int .i64 (putE n fs.length room)) ∧ Ch (fun k => k = c) w w' ∧ (putE n fs.length room = 0 → ∃ g : FrV, g.l = bs ∧ Fok (fun b => w.heap.size ≤ b) w' g ∧ Lp w' l c room (fs ++ [g])) ∧ (putE n fs.length room ≠ 0 → Lp w' l c room fs) := by
  have HN := lisNone_no h
  by_cases h5 : (512 : Int) < n
  · have HE : putE n fs.length room = 5 := if_pos (by omega)
    rw [HE]
    have H0 := Kp.mk h
    clear h HE
    go_enter Try.func27, Try.ntmps27
    go_wp2_with (first | (refine HN.mono ?_; rintro e w1 ⟨rfl, rfl⟩))
    go_ret
    exact ⟨rfl, Ch.refl _ _, fun h => absurd h (by decide), fun _ => H0.out⟩
  · have hcl := cloneB_any hr hB (by omega) hby
    by_cases h7 : room ≤ fs.length
    · have HE : putE n fs.length room = 7 := by unfold putE; rw [if_neg (by omega), if_pos h7]
      rw [HE]
      have H0 := Kp.mk h
      have H7 := Kp.mk h7
      clear h HE h7
      go_enter Try.func27, Try.ntmps27
      go_wp2_with (first | (refine HN.mono ?_; rintro e w1 ⟨rfl, rfl⟩))
      refine hcl.mono ?_
      rintro e w2 ⟨g, rfl, hgl, hgn, hg, hb⟩
      clear hcl HN
      have hL := H0.out.below hb
      have HC := Kp.mk (Ch.of_below (S := fun k => k = c) hb)
      clear hb hg hgl hgn H0
      go_wp2_with fail
      refine (send_no hL g.val H7.out).mono ?_
      rintro e w3 ⟨rfl, rfl⟩
      have H2 := Kp.mk hL
      clear hL
      go_wp2_with fail
      go_ret
      exact ⟨rfl, HC.out, fun h => absurd h (by decide), fun _ => H2.out⟩
    · have HE : putE n fs.length room = 0 := by unfold putE; rw [if_neg (by omega), if_neg h7]
      rw [HE]
      have H0 := Kp.mk h
      have H7 := Kp.mk h7
      clear h HE h7
      go_enter Try.func27, Try.ntmps27
      go_wp2_with (first | (refine HN.mono ?_; rintro e w1 ⟨rfl, rfl⟩))
      refine hcl.mono ?_
      rintro e w2 ⟨g, rfl, hgl, hgn, hg, hb⟩
      clear hcl HN
      have hL := H0.out.below hb
      have HC := Kp.mk (Ch.of_below (S := fun k => k = c) hb)
      have HG := Kp.mk hg
      have HL := Kp.mk hgl
      have HX := Kp.mk (fun cs t m => hL.nocell cs t m)
      clear hb hg hgl hgn H0
      go_wp2_with fail
      refine (send_yes hL g (by have := H7.out; omega)).mono ?_
      rintro e w3 ⟨rfl, hL3, hC3⟩
      have H2 := Kp.mk (HG.out.stay hC3 (fun b cs m _ _ hb e => HX.out cs _ m (by rw [← e]; exact hb)))
      have H3 := Kp.mk (HC.out.trans hC3 (fun _ _ e => e))
      have H4 := Kp.mk hL3
      clear hL hC3 hL3
      go_wp2_with fail
      go_ret
      exact ⟨rfl, H3.out, fun _ => ⟨g, HL.out, H2.out, H4.out⟩, fun h => absurd rfl h⟩
/-- What Double answers. -/
def dblE (len room : Nat) (i : Int) : Int := if 0 ≤ i ∧ i < len then (if room ≤ len then 7 else 0) else 9
set_option maxRecDepth 100000 in
theorem ldouble_any {P : Nat → Prop} (h : Lp w l c room fs) (hf : Fall P w fs) (i : Int) : Calls Try.prog 34 #[.pointer (some ⟨l, 0, none⟩), .int .i64 i] w fun e w' =>
    e = .returned (.int .i64 (dblE fs.length room i)) ∧ Ch (fun k => k = c) w w' ∧ (dblE fs.length room i = 0 → ∃ f g : FrV, fs[i.toNat]? = some f ∧ g.l = f.l ∧ Fok (fun b => w.heap.size ≤ b) w' g ∧ Lp w' l c room (fs ++ [g])) ∧ (dblE fs.length room i ≠ 0 → Lp w' l c room fs) := by
  have hp := place_lan h i
  by_cases hi : 0 ≤ i ∧ i < fs.length
  · have HE : placeE fs.length i = 0 := if_pos hi
    rw [HE] at hp
    obtain ⟨a, f, b, e1, hi2, -, -, hat⟩ := part_at hi
    have hf1 := hf f (by rw [e1]; simp)
    have hs1 := hf1.small
    have hlk := look_any (e1 ▸ h) hi2
    rw [← e1] at hlk
    have HAT := Kp.mk hat
    have HX := Kp.mk (fun cs t m => h.nocell cs t m)
    clear h e1 hi2 HE hat
    by_cases h7 : room ≤ fs.length
    · have HD : dblE fs.length room i = 7 := by unfold dblE; rw [if_pos hi, if_pos h7]
      rw [HD]
      have H7 := Kp.mk h7
      clear hi h7 HD
      go_enter Try.func34, Try.ntmps34
      go_wp2_with (first | (refine hp.mono ?_; rintro e w1 ⟨rfl, rfl⟩) | (refine hlk.mono ?_; rintro e w2 ⟨rfl, hL, hC⟩))
      clear hp hlk
      have hf2 := hf1.stay hC (fun b cs m _ _ hb e => HX.out cs _ m (by rw [← e]; exact hb))
      refine (cloneB_any hf2.rd (Nat.le_refl _) hs1 hf2.bytes).mono ?_
      rintro e w3 ⟨g, rfl, hgl, hgn, hg, hb⟩
      have hL3 := hL.below hb
      have HC := Kp.mk (hC.trans (Ch.of_below (S := fun k => k = c) hb) (fun _ _ e => e))
      clear hL hC hf2 hf1 hb hg hgl hgn
      go_wp2_with fail
      refine (send_no hL3 g.val H7.out).mono ?_
      rintro e w4 ⟨rfl, rfl⟩
      have H2 := Kp.mk hL3
      clear hL3
      go_wp2_with fail
      go_ret
      exact ⟨rfl, HC.out, fun h => absurd h (by decide), fun _ => H2.out⟩
    · have HD : dblE fs.length room i = 0 := by unfold dblE; rw [if_pos hi, if_neg h7]
      rw [HD]
      have H7 := Kp.mk h7
      clear hi h7 HD
      go_enter Try.func34, Try.ntmps34
      go_wp2_with (first | (refine hp.mono ?_; rintro e w1 ⟨rfl, rfl⟩) | (refine hlk.mono ?_; rintro e w2 ⟨rfl, hL, hC⟩))
      clear hp hlk
      have hf2 := hf1.stay hC (fun b cs m _ _ hb e => HX.out cs _ m (by rw [← e]; exact hb))
      refine (cloneB_any hf2.rd (Nat.le_refl _) hs1 hf2.bytes).mono ?_
      rintro e w3 ⟨g, rfl, hgl, hgn, hg, hb⟩
      have hL3 := hL.below hb
      have HC := Kp.mk (hC.trans (Ch.of_below (S := fun k => k = c) hb) (fun _ _ e => e))
      have HG := Kp.mk (hg.imp (Q := fun b => w1.heap.size ≤ b) (fun b _ h => Nat.le_trans hC.size h))
      have HL := Kp.mk hgl
      have HY := Kp.mk (fun cs t m => hL3.nocell cs t m)
      clear hL hC hf2 hf1 hb hg hgl hgn
      go_wp2_with fail
      refine (send_yes hL3 g (by have := H7.out; omega)).mono ?_
      rintro e w4 ⟨rfl, hL4, hC4⟩
      have H2 := Kp.mk (HG.out.stay hC4 (fun b cs m _ _ hb e => HY.out cs _ m (by rw [← e]; exact hb)))
      have H3 := Kp.mk (HC.out.trans hC4 (fun _ _ e => e))
      have H4 := Kp.mk hL4
      clear hL3 hC4 hL4
      go_wp2_with fail
      go_ret
      exact ⟨rfl, H3.out, fun _ => ⟨f, g, HAT.out, HL.out, H2.out, H4.out⟩, fun h => absurd rfl h⟩
  · have HE : placeE fs.length i = 9 := if_neg hi
    have HD : dblE fs.length room i = 9 := if_neg hi
    rw [HE] at hp
    rw [HD]
    have H0 := Kp.mk h
    clear h hi HE HD
    go_enter Try.func34, Try.ntmps34
    go_wp2_with (first | (refine hp.mono ?_; rintro e w1 ⟨rfl, rfl⟩))
    go_ret
    exact ⟨rfl, Ch.refl _ _, fun h => absurd h (by decide), fun _ => H0.out⟩
end
end Go.Proofs.Ytcolklkjaifplaa.Oct
