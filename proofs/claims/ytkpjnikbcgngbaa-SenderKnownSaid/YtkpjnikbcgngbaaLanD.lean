/- Contracts of layer 11 (lane): copies of frames; Put, Double, All, New; rows of frames. -/
import Derived.Test.YtkpjnikbcgngbaaLanC
namespace Go.Proofs.Ytkpjnikbcgngbaa.Oct
open Go.RowKit
set_option linter.unusedVariables false
set_option linter.unusedSimpArgs false
/-- A copy of bytes. -/
theorem cloneB_any {w : World} {B n c : Nat} {A : Option Addr} {l : List Int} (h : Rd .u8 w B A n c l) (hB : B ≤ w.heap.size) (hsz : n ≤ 512) (hby : By l) : Calls Try.prog 34 #[.slice A n c] w fun e w' => ∃ g : FrV, e = .returned g.val ∧ g.l = l ∧ g.n = n ∧ Fok (fun b => w.heap.size ≤ b) w' g ∧ Below w.heap.size w w' := by
  have hb0 := below_alloc w (.cells #[] 5)
  have hO : Own (w.alloc (.cells #[] 5)) w.heap.size (.slice (some ⟨w.heap.size, 0, none⟩) 0 0) 0 [] := World.ownsRow_made w #[] 0 (Nat.le_refl _) (Nat.zero_le _) rfl
  have hr := h.below' hb0 hB
  have hz : w.heap.size ≤ (w.alloc (.cells #[] 5)).heap.size := hb0.size
  have hc := h.2.2.2.1
  have hle := h.le
  have hl := h.len
  have hq : (binOp .eql 30 (.slice A n c) (.slice none 0 0)).run Try.prog w = .ok (.bool A.isNone) w := Lib.run_eql_slice_nil w _ _ A n c 0 0 Try.underlying30
  rcases A with _ | ad
  · obtain rfl := hc rfl
    obtain rfl : n = 0 := by omega
    obtain rfl := List.eq_nil_of_length_eq_zero hl
    simp only [Option.isNone_none] at hq
    go_enter Try.func34, Try.ntmps34
    go_wp2_with fail
    go_ret
    exact ⟨⟨none, 0, 0, []⟩, rfl, rfl, rfl, Fok.nil_ _ _, Below.refl _ _⟩
  · simp only [Option.isNone_some] at hq
    obtain ⟨A', c', w', hrun, h2, h3⟩ := run_append8 30 hO hr (by omega) hz
    rw [Nat.zero_add] at hrun h2
    rw [List.nil_append] at h2
    go_enter Try.func34, Try.ntmps34
    go_wp2_with (at_builtin; refine Lib.wpList_append_run _ rfl _ _ _ _ rfl _ _ rfl rfl _ _ hrun ?_)
    go_ret
    exact ⟨⟨A', n, c', l⟩, rfl, rfl, rfl, Fok.of_own h2 hsz hby, hb0.trans h3⟩
section
variable {w : World} {l c room : Nat} {fs a b : List FrV} {f : FrV}
/-- What Put answers. -/
def putE (n len room : Nat) : Int := if 512 < n then 5 else if room ≤ len then 7 else 0
/-- What Double answers. -/
def dblE (len room : Nat) (i : Int) : Int := if 0 ≤ i ∧ i < len then (if room ≤ len then 7 else 0) else 9
end
end Go.Proofs.Ytkpjnikbcgngbaa.Oct
