/- Layer 14 (inbox): takes, works. -/
import Derived.Test.YtdhidgcjpeafnaaInbS
namespace Go.Proofs.Ytdhidgcjpeafnaa.Oct
open Go.RowKit
set_option linter.unusedVariables false
set_option linter.unusedSimpArgs false
set_option maxRecDepth 100000 in
set_option maxHeartbeats 4000000 in
/-- What is taken is what is wanted. -/
theorem itakes_any {w : World} {xa : Value} {seq E : Int} {m : ByteArray} {A2 : Option Addr} {n2 c2 : Nat} {ws : List ByteArray} {Q : Option Addr → Nat → Nat → World → Prop}
    (hT : Calls Try.prog 40 #[xa, .int .i64 seq, .string m] w fun e w' => ∃ A n c, e = .returned (.tuple #[.slice A n c, .int .i64 E]) ∧ Q A n c w')
    (hQ : ∀ A n c w', Q A n c w' → Vd w' w'.heap.size A n c (ws.map Value.string) ∧ Vd w' w'.heap.size A2 n2 c2 (ws.map Value.string)) (hxa : ∃ a, xa = .pointer a) :
    Calls Try.prog 31 #[xa, .int .i64 seq, .string m, .int .i64 E, .slice A2 n2 c2] w fun e w' => e = .returned (.bool true) ∧ ∃ A n c w1, Q A n c w1 ∧ Below w1.heap.size w1 w' := by
  obtain ⟨a, rfl⟩ := hxa
  go_enter Try.func31, Try.ntmps31
  go_wp2_with fail
  refine hT.mono ?_
  rintro e w1 ⟨A, n, c, rfl, hq⟩
  obtain ⟨v1, v2⟩ := hQ A n c w1 hq
  have hn2 : n2 = n := v2.len.symm.trans v1.len
  subst hn2
  have HQ := Kp.mk hq
  have HV1 := Kp.mk v1
  have HV2 := Kp.mk v2
  have hmx := v1.max
  clear hq v1 v2 hQ hT
  go_wp2_with fail
  go_loopw [13] (fun s13 wr => ∃ j : Nat, s13 = .int .i64 j ∧ j ≤ n2 ∧ Below w1.heap.size w1 wr) (fun s13 _ => n2 - (intOf s13).toNat)
  case atStart => exact ⟨0, rfl, Nat.zero_le _, Below.refl _ _⟩
  case round =>
    obtain ⟨j, rfl, hj, hb⟩ := hrel
    by_cases hlt : (j : Int) < n2
    · obtain ⟨b1, o1, e1, _, hc1⟩ := (HV1.out.below hb).at_ (by omega)
      obtain ⟨b2, o2, e2, _, hc2⟩ := (HV2.out.below hb).at_ (by omega)
      subst e1 e2
      have hjl : j < ws.length := by have := HV1.out.len; simp at this; omega
      obtain ⟨u, hu⟩ : ∃ u, ws[j]? = some u := ⟨_, List.getElem?_eq_getElem hjl⟩
      have d1 := hc1 j (.string u) (by rw [List.getElem?_map, hu]; rfl)
      have d2 := hc2 j (.string u) (by rw [List.getElem?_map, hu]; rfl)
      have HB := Kp.mk hb
      clear hc1 hc2 hu hjl hb
      go_wp2_with fail
      go_quiet (fail)
      go_wp2_with fail
      go_roundw
      case rel => exact ⟨j + 1, by go_num, by omega, below_drewN HB.out _⟩
      case measure => simp [intOf]; omega
    · have hbb := Kp.mk hb
      clear hb
      go_wp2_with fail
      go_ret
      exact ⟨rfl, A, n2, c, w1, HQ.out, hbb.out⟩
/-- Nothing is told, and nothing is wanted. -/
theorem itakes_none {w : World} {a : Option Addr} {seq E : Int} {m : ByteArray} {R : World → Prop}
    (hT : Calls Try.prog 40 #[.pointer a, .int .i64 seq, .string m] w fun e w' => e = .returned (.tuple #[.slice none 0 0, .int .i64 E]) ∧ R w') :
    Calls Try.prog 31 #[.pointer a, .int .i64 seq, .string m, .int .i64 E, .slice none 0 0] w fun e w' => e = .returned (.bool true) ∧ ∃ w1, R w1 ∧ Below w1.heap.size w1 w' := by
  refine (itakes_any (A2 := none) (n2 := 0) (c2 := 0) (ws := []) (Q := fun A n c w' => (A = none ∧ n = 0 ∧ c = 0) ∧ R w') (hT.mono ?_) ?_ ⟨a, rfl⟩).mono ?_
  · rintro e w' ⟨rfl, hr⟩
    exact ⟨none, 0, 0, rfl, ⟨rfl, rfl, rfl⟩, hr⟩
  · rintro A n c w' ⟨⟨rfl, rfl, rfl⟩, _⟩
    exact ⟨Vd.nil0 _ _, Vd.nil0 _ _⟩
  · rintro e w' ⟨rfl, A, n, c, w1, ⟨_, hr⟩, hb⟩
    exact ⟨rfl, w1, hr, hb⟩
abbrev IS (w : World) (x b : Nat) (nx : Int) (p1 p2 p3 : OV) : Prop := Ib 79 w x b nx p1 p2 p3
theorem shp_s {p1 p2 p3 : Option ByteArray} : Shp_s (p1.map Value.string) (p2.map Value.string) (p3.map Value.string) :=
  ⟨fun v h => by obtain ⟨z, _, rfl⟩ := Option.map_eq_some_iff.1 h; exact ⟨z, rfl⟩, fun v h => by obtain ⟨z, _, rfl⟩ := Option.map_eq_some_iff.1 h; exact ⟨z, rfl⟩, fun v h => by obtain ⟨z, _, rfl⟩ := Option.map_eq_some_iff.1 h; exact ⟨z, rfl⟩⟩
section
variable {w : World} {x b : Nat}
def bA : ByteArray := ⟨#[97]⟩
def bB : ByteArray := ⟨#[98]⟩
def bX : ByteArray := ⟨#[120]⟩
def bY : ByteArray := ⟨#[121]⟩
/-- The chapter's calls, one by one. -/
theorem wk1 (h : IS w x b 65535 none none none) : Calls Try.prog 31 #[.pointer (some ⟨x, 0, none⟩), .int .i64 0, .string bB, .int .i64 0, .slice none 0 0] w fun e w' => e = .returned (.bool true) ∧ IS w' x b 65535 (some (.string bB)) none none ∧ Ch (fun k => k = x ∨ k = b) w w' := by
  refine (itakes_none (xtake_ahead_s h (shp_s (p1 := none) (p2 := none) (p3 := none)) 1 (.inl rfl) bB)).mono ?_
  rintro e w' ⟨rfl, w1, ⟨h1, hc⟩, hb⟩
  exact ⟨rfl, h1.below hb, (hc.trans (Ch.of_below (S := fun k => k = b) hb) (fun _ _ e => e)).mono (fun _ _ e => Or.inr e)⟩
theorem wk2 (h : IS w x b 65535 (some (.string bB)) none none) : Calls Try.prog 31 #[.pointer (some ⟨x, 0, none⟩), .int .i64 0, .string bX, .int .i64 0, .slice none 0 0] w fun e w' => e = .returned (.bool true) ∧ IS w' x b 65535 (some (.string bB)) none none ∧ Ch (fun k => k = x ∨ k = b) w w' := by
  refine (itakes_none (xtake_ahead_s h (shp_s (p1 := some bB) (p2 := none) (p3 := none)) 1 (.inl rfl) bX)).mono ?_
  rintro e w' ⟨rfl, w1, ⟨h1, hc⟩, hb⟩
  exact ⟨rfl, h1.below hb, (hc.trans (Ch.of_below (S := fun k => k = b) hb) (fun _ _ e => e)).mono (fun _ _ e => Or.inr e)⟩
theorem wk3 (h : IS w x b 65535 (some (.string bB)) none none) {g : Nat} (hg : Vb 9 w g [.string bA, .string bB]) : Calls Try.prog 31 #[.pointer (some ⟨x, 0, none⟩), .int .i64 65535, .string bA, .int .i64 0, .slice (some ⟨g, 0, none⟩) 2 2] w fun e w' => e = .returned (.bool true) ∧ IS w' x b 1 none none none ∧ Ch (fun k => k = x ∨ k = b) w w' := by
  refine (itakes_any (ws := [bA, bB]) (Q := fun A n c w' => Vr 9 w' w.heap.size (.slice A n c) n [.string bA, .string bB] ∧ IS w' x b 1 none none none ∧ Ch (fun k => k = x ∨ k = b) w w') ((xtake_tell_s h (shp_s (p1 := some bB) (p2 := none) (p3 := none)) bA).mono ?_) ?_ ⟨_, rfl⟩).mono ?_
  · rintro e w' ⟨A, n, c, rfl, hn, hV, hI, hC⟩
    have hn : n = 2 := hn
    subst hn
    exact ⟨A, 2, c, rfl, hV, hI, hC⟩
  · rintro A n c w' ⟨hV, hI, hC⟩
    have hn : n = 2 := hV.len.symm
    subst hn
    have hx : g ≠ x := vb_ne hg h.own (by decide)
    have hb : g ≠ b := fun e => h.mp.nocell _ _ _ (e ▸ hg)
    have hg2 : Vb 9 w' g [.string bA, .string bB] := (hC.block g hg.lt (by rintro (e | e); exact hx e; exact hb e)).trans hg
    refine ⟨hV.vd, rfl, Nat.le_refl _, by unfold maxLen; omega, fun e => by simp at e, fun _ => ⟨g, 0, rfl, hg2.lt, fun j u hj => ?_⟩⟩
    rw [Nat.zero_add]
    exact hg2.cell j hj
  · rintro e w' ⟨rfl, A, n, c, w1, ⟨hV, hI, hC⟩, hb⟩
    exact ⟨rfl, hI.below hb, hC.trans (Ch.of_below (S := fun k => k = x ∨ k = b) hb) (fun _ _ e => e)⟩
theorem wk45 (h : IS w x b 1 none none none) (seq : Int) (z : ByteArray) (h0 : 0 ≤ seq) (h1 : seq ≤ 65535) (hd : ¬ (seq - 1) % 65536 < 4) : Calls Try.prog 31 #[.pointer (some ⟨x, 0, none⟩), .int .i64 seq, .string z, .int .i64 9, .slice none 0 0] w fun e w' => e = .returned (.bool true) ∧ IS w' x b 1 none none none ∧ Ch (fun k => k = x ∨ k = b) w w' := by
  refine (itakes_none (xtake_range_s h seq h0 h1 hd z)).mono ?_
  rintro e w' ⟨rfl, w1, hb1, hb⟩
  exact ⟨rfl, (h.below hb1).below hb, .of_below (hb1.trans (hb.mono hb1.size))⟩
theorem wk6 (h : IS w x b 1 none none none) : Calls Try.prog 31 #[.pointer (some ⟨x, 0, none⟩), .int .i64 4, .string bY, .int .i64 0, .slice none 0 0] w fun e w' => e = .returned (.bool true) ∧ IS w' x b 1 none none (some (.string bY)) ∧ Ch (fun k => k = x ∨ k = b) w w' := by
  refine (itakes_none (xtake_ahead_s h (shp_s (p1 := none) (p2 := none) (p3 := none)) 3 (.inr (.inr rfl)) bY)).mono ?_
  rintro e w' ⟨rfl, w1, ⟨h1, hc⟩, hb⟩
  exact ⟨rfl, h1.below hb, (hc.trans (Ch.of_below (S := fun k => k = b) hb) (fun _ _ e => e)).mono (fun _ _ e => Or.inr e)⟩
end
set_option maxRecDepth 100000 in
set_option maxHeartbeats 4000000 in
theorem iworks_any (w : World) : Calls Try.prog 17 #[] w fun e w' => e = .returned (.bool true) ∧ Below w.heap.size w w' := by
  obtain ⟨B, hB⟩ : ∃ B, B = w.heap.size := ⟨_, rfl⟩
  rw [← hB]
  have HB := Kp.mk hB
  clear hB
  go_enter Try.func17, Try.ntmps17
  go_wp2_with fail
  refine (xnew_yes_s w 65535 (by omega) (by omega)).mono ?_
  rintro e w1 ⟨x, b, rfl, hx, hb, h1, hbl⟩
  have HX := Kp.mk (show B ≤ x ∧ B ≤ b by rw [HB.out]; exact ⟨hx, hb⟩)
  have HC := Kp.mk (show Below B w w1 by rw [HB.out]; exact hbl)
  have HZ := Kp.mk (show B ≤ w1.heap.size by rw [HB.out]; exact hbl.size)
  clear hx hb hbl
  have step : ∀ w2 : World, Ch (fun k => k = x ∨ k = b) w1 w2 → Below B w w2 ∧ B ≤ w2.heap.size := fun w2 hc => ⟨HC.out.trans (hc.below (fun k e => by rcases e with rfl | rfl; exact HX.out.1; exact HX.out.2) HZ.out), Nat.le_trans HZ.out hc.size⟩
  have STEP := Kp.mk step
  have H1 := Kp.mk h1
  clear step h1 HC HZ
  go_wp2_with fail
  refine (wk1 H1.out).mono ?_
  rintro e w2 ⟨rfl, h2, hc2⟩
  have HC := Kp.mk hc2
  clear hc2
  go_wp2_with fail
  refine (wk2 h2).mono ?_
  rintro e w3 ⟨rfl, h3, hc3⟩
  have HC := Kp.mk (HC.out.trans hc3 (fun _ _ e => e))
  clear h2 hc3
  have hg := Vb.new 9 w3 [.string bA, .string bB]
  have hb4 := below_alloc w3 (.cells #[.string bA, .string bB] 9)
  have H4 := Kp.mk (h3.below hb4)
  have HC := Kp.mk (HC.out.trans (Ch.of_below (S := fun k => k = x ∨ k = b) hb4) (fun _ _ e => e))
  have HG := Kp.mk hg
  clear h3 hb4 hg
  go_wp2_with fail
  refine (wk3 H4.out HG.out).mono ?_
  rintro e w5 ⟨rfl, h5, hc5⟩
  have HC := Kp.mk (HC.out.trans hc5 (fun _ _ e => e))
  clear hc5
  go_wp2_with (first | (refine (xack_s h5).mono ?_; rintro e w6 ⟨rfl, rfl⟩))
  refine (wk45 h5 65535 bA (by omega) (by omega) (by omega)).mono ?_
  rintro e w6 ⟨rfl, h6, hc6⟩
  have HC := Kp.mk (HC.out.trans hc6 (fun _ _ e => e))
  clear h5 hc6
  go_wp2_with fail
  refine (wk45 h6 5 ⟨#[122]⟩ (by omega) (by omega) (by omega)).mono ?_
  rintro e w7 ⟨rfl, h7, hc7⟩
  have HC := Kp.mk (HC.out.trans hc7 (fun _ _ e => e))
  clear h6 hc7
  go_wp2_with fail
  refine (wk6 h7).mono ?_
  rintro e w8 ⟨rfl, h8, hc8⟩
  have HC := Kp.mk (HC.out.trans hc8 (fun _ _ e => e))
  have hw := xwaits_s h8
  clear h7 hc8
  go_wp2_with (first | (refine hw.mono ?_; rintro e w9 ⟨rfl, rfl⟩))
  go_ret
  exact ⟨rfl, (STEP.out _ HC.out).1⟩
end Go.Proofs.Ytdhidgcjpeafnaa.Oct
