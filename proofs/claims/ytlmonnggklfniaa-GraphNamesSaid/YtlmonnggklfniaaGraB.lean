/- Contracts of layer 12 (graph): isSwitch, isEnd, lead, isUp. -/
import Derived.Test.YtlmonnggklfniaaGraA
namespace Go.Proofs.Ytlmonnggklfniaa.Oct
open Go.RowKit
set_option linter.unusedVariables false
set_option linter.unusedSimpArgs false

def swOk (S s : Int) : Bool := decide (1 ≤ s ∧ s ≤ S)
def ptOk (p : Int) : Bool := decide (1 ≤ p ∧ p ≤ 4)
theorem endOk_two (S a p : Int) : endOk S (a, p) = (swOk S a && ptOk p) := by
  unfold endOk swOk ptOk
  by_cases h1 : 1 ≤ a ∧ a ≤ S <;> by_cases h2 : 1 ≤ p ∧ p ≤ 4 <;> simp [h1, h2]
theorem swOk_iff {S s : Int} : swOk S s = true ↔ 1 ≤ s ∧ s ≤ S := by unfold swOk; simp
theorem isSwitch_any (S s : Int) (A : Option Addr) (n c : Nat) (w : World) : Calls Try.prog 27 #[grV S A n c, .int .i64 s] w fun e w' => e = .returned (.bool (swOk S s)) ∧ Below w.heap.size w w' := by
  by_cases h1 : 1 ≤ s
  · by_cases h2 : s ≤ S
    · have HP := Kp.mk (show swOk S s = true from decide_eq_true ⟨h1, h2⟩)
      go_enter Try.func27, Try.ntmps27
      go_wp2_with fail
      go_ret
      exact ⟨by rw [HP.out]; rfl, below_alloc _ _⟩
    · have HP := Kp.mk (show swOk S s = false from decide_eq_false (fun h => h2 h.2))
      go_enter Try.func27, Try.ntmps27
      go_wp2_with fail
      go_ret
      exact ⟨by rw [HP.out]; rfl, below_alloc _ _⟩
  · have HP := Kp.mk (show swOk S s = false from decide_eq_false (fun h => h1 h.1))
    go_enter Try.func27, Try.ntmps27
    go_wp2_with fail
    go_ret
    exact ⟨by rw [HP.out]; rfl, below_alloc _ _⟩
set_option maxRecDepth 100000 in
theorem isEnd_any (S a p : Int) (A : Option Addr) (n c : Nat) (w : World) : Calls Try.prog 31 #[grV S A n c, endV (a, p)] w fun e w' => e = .returned (.bool (endOk S (a, p))) ∧ Below w.heap.size w w' := by
  have hc : ∀ w' : World, Calls Try.prog 27 #[grV S A n c, .int .i64 a] w' fun e w'' => e = .returned (.bool (swOk S a)) ∧ Below w'.heap.size w' w'' := fun w' => isSwitch_any S a A n c w'
  have hb2 := Kp.mk (below_two w (.cells #[.int .i64 S, .slice A n c] 24) (.cells #[.int .i64 a, .int .i64 p] 26))
  have HP := Kp.mk (endOk_two S a p)
  cases hd : swOk S a with
  | false =>
    simp only [hd] at hc
    have HD := Kp.mk hd
    clear hd
    go_enter Try.func31, Try.ntmps31
    go_wp2_with (refine (hc _).mono ?_; rintro e w' ⟨rfl, hb3⟩)
    go_ret
    exact ⟨by rw [HP.out, HD.out]; rfl, hb2.out.trans (hb3.mono (by simp; omega))⟩
  | true =>
    simp only [hd] at hc
    have HD := Kp.mk hd
    clear hd
    have hv := (Vb.new 26 (w.alloc (.cells #[.int .i64 S, .slice A n c] 24)) [.int .i64 a, .int .i64 p])
    rw [World.size_alloc] at hv
    have hz := Kp.mk (show ((w.alloc (.cells #[.int .i64 S, .slice A n c] 24)).alloc (.cells #[.int .i64 a, .int .i64 p] 26)).heap.size = w.heap.size + 2 by simp)
    have fin : ∀ w', Below (w.heap.size + 2) ((w.alloc (.cells #[.int .i64 S, .slice A n c] 24)).alloc (.cells #[.int .i64 a, .int .i64 p] 26)) w' → Vb 26 w' (w.heap.size + 1) [.int .i64 a, .int .i64 p] ∧ Below w.heap.size w w' := fun w' hb => ⟨Vb.below hv hb (by omega), hb2.out.trans (hb.mono (by omega))⟩
    by_cases h1 : 1 ≤ p
    · by_cases h2 : p ≤ 4
      · have HQ := Kp.mk (show ptOk p = true from decide_eq_true ⟨h1, h2⟩)
        go_enter Try.func31, Try.ntmps31
        go_wp2_with (refine (hc _).mono ?_; rintro e w' ⟨rfl, hb3⟩; rw [hz.out] at hb3; obtain ⟨hv3, hb4⟩ := fin _ hb3; have d0 := hv3.cell 0 rfl; have d1 := hv3.cell 1 rfl)
        go_ret
        exact ⟨by rw [HP.out, HD.out, HQ.out]; rfl, hb4⟩
      · have HQ := Kp.mk (show ptOk p = false from decide_eq_false (fun h => h2 h.2))
        go_enter Try.func31, Try.ntmps31
        go_wp2_with (refine (hc _).mono ?_; rintro e w' ⟨rfl, hb3⟩; rw [hz.out] at hb3; obtain ⟨hv3, hb4⟩ := fin _ hb3; have d0 := hv3.cell 0 rfl; have d1 := hv3.cell 1 rfl)
        go_ret
        exact ⟨by rw [HP.out, HD.out, HQ.out]; exact retB (decide_eq_false (by omega)), hb4⟩
    · have HQ := Kp.mk (show ptOk p = false from decide_eq_false (fun h => h1 h.1))
      go_enter Try.func31, Try.ntmps31
      go_wp2_with (refine (hc _).mono ?_; rintro e w' ⟨rfl, hb3⟩; rw [hz.out] at hb3; obtain ⟨hv3, hb4⟩ := fin _ hb3; have d0 := hv3.cell 0 rfl; have d1 := hv3.cell 1 rfl)
      go_ret
      exact ⟨by rw [HP.out, HD.out, HQ.out]; rfl, hb4⟩
set_option maxRecDepth 100000 in
/-- An end is made to lead somewhere. -/
theorem lead_any {w : World} {b : Nat} {es : Me} (h : Mp w b es) (a p x y i : Int) : Calls Try.prog 32 #[.map (some b), .agg #[.int .i64 a, .int .i64 p], .agg #[.int .i64 x, .int .i64 y, .int .i64 i]] w fun r w' => r = .returned (.bool (leadP es (a, p) ((x, y), i)).isSome) ∧ (∀ es', leadP es (a, p) ((x, y), i) = some es' → Mp w' b es') ∧ w.grownBy w' (some b) := by
  have hlt := h.lt
  have h2 : Mp ((w.alloc (.cells #[.int .i64 a, .int .i64 p] 26)).alloc (.cells #[.int .i64 x, .int .i64 y, .int .i64 i] 51)) b es := (h.alloc _).alloc _
  have hlk := run_lookG h2 (a, p)
  have hb2 := below_two w (.cells #[.int .i64 a, .int .i64 p] 26) (.cells #[.int .i64 x, .int .i64 y, .int .i64 i] 51)
  have hb3 := Kp.mk (hb2.trans ((below_alloc ((w.alloc (.cells #[.int .i64 a, .int .i64 p] 26)).alloc (.cells #[.int .i64 x, .int .i64 y, .int .i64 i] 51)) (.cells (farO (fnd es (a, p))).cells 51)).mono (by simp; omega)))
  cases hf : fnd es (a, p) with
  | some v =>
    have HL := Kp.mk (show leadP es (a, p) ((x, y), i) = none by unfold leadP; rw [hf]; rfl)
    rw [hf] at hlk hb3
    replace hlk : (Instr.lookup 47 (.map (some b)) (.agg #[.int .i64 a, .int .i64 p]) true).run Try.prog _ = .ok (.tuple #[.agg #[.int .i64 v.1.1, .int .i64 v.1.2, .int .i64 v.2], .bool true]) _ := hlk
    clear h2 hf hb2
    go_enter Try.func32, Try.ntmps32
    go_wp2_with fail
    go_ret
    exact ⟨by rw [HL.out]; rfl, fun es' e => (by rw [HL.out] at e; cases e), grown_of_below hb3.out _⟩
  | none =>
    have HL := Kp.mk (show leadP es (a, p) ((x, y), i) = some (es ++ [((a, p), ((x, y), i))]) by unfold leadP; rw [hf]; rfl)
    rw [hf] at hlk hb3
    replace hlk : (Instr.lookup 47 (.map (some b)) (.agg #[.int .i64 a, .int .i64 p]) true).run Try.prog _ = .ok (.tuple #[.agg #[.int .i64 0, .int .i64 0, .int .i64 0], .bool false]) _ := hlk
    obtain ⟨w', hup, hm, hg, hz⟩ := run_updG (h2.alloc (.cells #[.int .i64 0, .int .i64 0, .int .i64 0] 51)) (a, p) ((x, y), i) hf
    replace hup : (Instr.mapUpdate 47 (.map (some b)) (.agg #[.int .i64 a, .int .i64 p]) (.agg #[.int .i64 x, .int .i64 y, .int .i64 i])).run Try.prog _ = .ok () w' := hup
    have HM := Kp.mk (And.intro hm hg)
    clear h2 hf hb2 hm hg hz
    go_enter Try.func32, Try.ntmps32
    go_wp2_with fail
    go_ret
    refine ⟨by rw [HL.out]; rfl, fun es' e => ?_, (grown_of_below hb3.out _).trans HM.out.2⟩
    rw [HL.out] at e
    have e := Option.some.inj e
    subst e
    exact HM.out.1
def upB (up : List Bool) (i : Int) : Bool := upP up i
/-- The slice (A, n, c) reads as these bools; it lies below block B. -/
def Bl (w : World) (B : Nat) (A : Option Addr) (n c : Nat) (bs : List Bool) : Prop :=
  bs.length = n ∧ n ≤ c ∧ c ≤ maxLen ∧ (0 < n → ∃ b off, A = some ⟨b, off, none⟩ ∧ b < B ∧ ∀ j, j < n → w.cell? ⟨b, off + j, none⟩ = some (.bool (bs.getD j false)))
theorem Bl.below {w w' : World} {B : Nat} {A : Option Addr} {n c : Nat} {bs : List Bool} (h : Bl w B A n c bs) (hb : Below B w w') : Bl w' B A n c bs :=
  ⟨h.1, h.2.1, h.2.2.1, fun hn => by
    obtain ⟨b, off, e, hlt, hc⟩ := h.2.2.2 hn
    exact ⟨b, off, e, hlt, fun j hj => (hb.cell (p := ⟨b, _, none⟩) hlt).trans (hc j hj)⟩⟩
theorem Bl.more {w : World} {B B' : Nat} {A : Option Addr} {n c : Nat} {bs : List Bool} (h : Bl w B A n c bs) (hB : B ≤ B') : Bl w B' A n c bs :=
  ⟨h.1, h.2.1, h.2.2.1, fun hn => by
    obtain ⟨b, off, e, hlt, hc⟩ := h.2.2.2 hn
    exact ⟨b, off, e, by omega, hc⟩⟩
theorem Bl.nil (w : World) (B : Nat) : Bl w B none 0 0 [] := ⟨rfl, Nat.le_refl _, Nat.zero_le _, fun h => absurd h (Nat.lt_irrefl 0)⟩
theorem isUp_any {w : World} {B : Nat} {A : Option Addr} {n c : Nat} {bs : List Bool} (h : Bl w B A n c bs) (i : Nat) : Calls Try.prog 37 #[.slice A n c, .int .i64 i] w fun e w' => e = .returned (.bool (upP bs i)) ∧ w' = w := by
  have hl := h.1
  by_cases hi : (n : Int) ≤ i
  · have HP := Kp.mk (show upP bs i = true by unfold upP; rw [hl, if_pos hi])
    clear hl
    go_enter Try.func37, Try.ntmps37
    go_wp2_with fail
    go_ret
    exact ⟨by rw [HP.out]; rfl, rfl⟩
  · obtain ⟨b, off, rfl, _, hcl⟩ := h.2.2.2 (by omega)
    have d := hcl i (by omega)
    have HP := Kp.mk (show upP bs i = bs.getD i false by unfold upP; rw [hl, if_neg hi]; rfl)
    clear hl
    generalize bs.getD i false = x at *
    go_enter Try.func37, Try.ntmps37
    go_wp2_with fail
    go_ret
    exact ⟨by rw [HP.out]; rfl, rfl⟩
theorem refUp_any {w : World} {B : Nat} {A : Option Addr} {n c : Nat} {bs : List Bool} (h : Bl w B A n c bs) (i : Nat) : Calls Try.prog 30 #[.slice A n c, .int .i64 i] w fun e w' => e = .returned (.bool (upP bs i)) ∧ w' = w := by
  have hl := h.1
  by_cases hi : (n : Int) ≤ i
  · have HP := Kp.mk (show upP bs i = true by unfold upP; rw [hl, if_pos hi])
    clear hl
    go_enter Try.func30, Try.ntmps30
    go_wp2_with fail
    go_ret
    exact ⟨by rw [HP.out]; rfl, rfl⟩
  · obtain ⟨b, off, rfl, _, hcl⟩ := h.2.2.2 (by omega)
    have d := hcl i (by omega)
    have HP := Kp.mk (show upP bs i = bs.getD i false by unfold upP; rw [hl, if_neg hi]; rfl)
    clear hl
    generalize bs.getD i false = x at *
    go_enter Try.func30, Try.ntmps30
    go_wp2_with fail
    go_ret
    exact ⟨by rw [HP.out]; rfl, rfl⟩
end Go.Proofs.Ytlmonnggklfniaa.Oct
