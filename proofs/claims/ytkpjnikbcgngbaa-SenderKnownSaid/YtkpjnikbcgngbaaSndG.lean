/- Contracts of layer 13 (sender): Fresh and Again. -/
import Derived.Test.YtkpjnikbcgngbaaSndF
namespace Go.Proofs.Ytkpjnikbcgngbaa.Oct
open Go.RowKit
set_option linter.unusedVariables false
set_option linter.unusedSimpArgs false
theorem wrap_succ {i : Nat} (h : i ≤ 1000000) : wrap64 ((i : Int) + 1) = ((i + 1 : Nat) : Int) := by unfold wrap64; omega
theorem meas_lt {L i : Nat} (h : i < L) (hs : i ≤ 1000000) : L - (intOf (.int .i64 (wrap64 ((i : Int) + 1)))).toNat < L - (intOf (.int .i64 (i : Int))).toNat := by
  rw [wrap_succ hs]
  simp [intOf]
  omega
section
variable {P : Nat → Prop} {w w' : World} {s c wd said all : Nat} {nx : Int} {r : Option Nat} {ms : List (List Int)}
theorem Sp.took (h : Sp P w s c wd nx said all r ms) {k : Nat} (hw : Wn w' c wd k) (hc : Ch (fun x => x = c) w w') (h1 : k ≤ wd) (h2 : k ≤ ms.length) : Sp P w' s c wd nx k all r ms := by
  have hap := h.apart
  have hch := h.ch
  obtain ⟨A, m, fs, g1, g2, g3, g4, g5⟩ := h.ex
  exact ⟨⟨A, m, fs, (hc.block s g1.lt hap.1).trans g1, g2.stay hc (fun k e h => hap.2.2 (g3.symm.trans (by rw [← h]; exact e))), g3, g4, g5.other hc (fun b cs m e => by rw [e]; exact hch.nocell cs _ m)⟩, hw, h.nxb, by have := h.fit; omega⟩
/-- An item is laid and appended. -/
theorem item_push {base : Nat} {v : Value} {n : Nat} {its : List (Int × FrV)} {x : Int × FrV} (ho : Om w base v n its) (hsz : n ≤ 1000000) (hb : base ≤ w.heap.size) :
    ∃ A' c' w', (Builtin.append_ #[41, 41] 41 #[v, .slice (some ⟨w.heap.size, 0, none⟩) 1 1]).run Try.prog (w.alloc (.cells #[.int .i64 x.1, .slice x.2.A x.2.n x.2.c] 44)) = .ok (.slice A' (n + 1) c') w' ∧ Om w' base (.slice A' (n + 1) c') (n + 1) (its ++ [x]) ∧ Ch (fun k => v.ownBlock = some k) w w' := by
  have hv := Vb.new 44 w [.int .i64 x.1, .slice x.2.A x.2.n x.2.c]
  have hb1 := below_alloc w (.cells #[.int .i64 x.1, .slice x.2.A x.2.n x.2.c] 44)
  obtain ⟨A', c', w', hrun, h1, h2⟩ := run_appendI (x := x) 41 (ho.below hb1) (hv.cell 0 rfl) (hv.cell 1 rfl) hsz (Nat.le_trans hb hb1.size)
  exact ⟨A', c', w', hrun, h1, (Ch.of_below hb1).trans h2 (fun _ _ e => e)⟩
set_option maxRecDepth 100000 in
set_option maxHeartbeats 4000000 in
theorem sfresh_any (h : Sp P w s c wd nx said all r ms) : Calls Try.prog 19 #[.pointer (some ⟨s, 0, none⟩)] w fun e w' => ∃ A k m its, e = .returned (.slice A k m) ∧ said + k = min wd ms.length ∧ Om w' w.heap.size (.slice A k m) k its ∧ Tell (fun b => w.heap.size ≤ b) w' nx said ms its ∧ Sp P w' s c wd nx (said + k) all r ms ∧ Ch (fun x => x = c) w w' := by
  have HN := sNone_no h
  have HS := ssaid_any h
  have HFT := Kp.mk h.fit
  have hc0 := Kp.mk (show c < w.heap.size from h.ch.lt)
  have hkl := Kp.mk h.lt
  go_enter Try.func19, Try.ntmps19
  go_wp2_with (first | (go_at_call 31; refine HN.mono ?_; rintro e w1 ⟨rfl, rfl⟩) | (go_at_call 12; refine HS.mono ?_; rintro e w1 ⟨rfl, rfl⟩))
  clear HN HS
  go_loopw [3, 4] (fun s3 s4 wr => ∃ (j : Nat) (its : List (Int × FrV)), s4 = .int .i64 ((said + j : Nat) : Int) ∧ Sp P wr s c wd nx (said + j) all r ms ∧ Om wr w1.heap.size s3 j its ∧ Tell (fun b => w1.heap.size ≤ b) wr nx said ms its ∧ Ch (fun k => k = c) w1 wr) (fun _ s4 _ => ms.length - (intOf s4).toNat)
  case atStart => exact ⟨0, [], rfl, h, Om.nil0 _ _, Tell.nil0 _ _ _ _ _, Ch.refl _ _⟩
  case round =>
    clear h
    obtain ⟨j, its, rfl, hS, hO, hT, hC⟩ := hrel
    obtain ⟨A0, m0, rfl, -⟩ := hO.form
    have hF := hS.fit
    have HL := sleft_any hS
    obtain ⟨L, hL⟩ : ∃ L, L = ms.length := ⟨_, rfl⟩
    obtain ⟨i, hi⟩ : ∃ i, i = said + j := ⟨_, rfl⟩
    have HI := Kp.mk (And.intro hi hL)
    rw [← hL] at HL hF
    rw [← hi] at hS hF ⊢
    have HB := Kp.mk hF
    obtain ⟨A1, m1, fs1, v1, -, -, -, -⟩ := hS.ex
    have c3 := v1.cell 3 rfl
    have HTK := hS.ch
    clear hL hi v1 hF
    by_cases hlt : (i : Int) < L
    · by_cases hwd : i < wd
      · have hy := take_yes HTK hwd
        have hK1 := Kp.mk (And.intro hlt hwd)
        have hO := Kp.mk hO
        have hT := Kp.mk hT
        have hS := Kp.mk hS
        have hC := Kp.mk hC
        clear hwd
        go_wp2_with (first | (go_at_call 10; refine HL.mono ?_; rintro e w2 ⟨rfl, rfl⟩))
        refine hy.mono ?_
        rintro e w3 ⟨rfl, hw3, hc3⟩
        have hS3 := hS.out.took hw3 hc3 (by have := hK1.out; omega) (by have := hK1.out; have := HI.out; omega)
        have hO3 := Kp.mk (hO.out.stay hc3 (fun b hb e => by have := (hO.out.lt b hb).1; have := hc0.out; omega))
        have hT3 := Kp.mk (hT.out.other hc3 (fun b cs m e => by rw [e]; exact hS.out.ch.nocell cs _ m))
        have hC3 := Kp.mk (hC.out.trans hc3 (fun _ _ e => e))
        clear hO hT hC hS hw3 hc3 hy HL c3 HTK hlt
        go_wp2_with fail
        refine (sitem_any hS3 i (by have := hK1.out; have := HI.out; omega)).mono ?_
        rintro e w4 ⟨f, rfl, hf1, hf2, hb4⟩
        have hS4 := hS3.below hb4
        have hO4 := hO3.out.below hb4
        have hT4 := hT3.out.below hb4
        have hC4 := hC3.out.trans (Ch.of_below (S := fun k => k = c) hb4) (fun _ _ e => e)
        have hf2 := hf2.imp (Q := fun b => w1.heap.size ≤ b) (fun b _ h => Nat.le_trans hC3.out.size h)
        obtain ⟨A5, m5, w5, hrun, hO5, hC5⟩ := item_push (x := (Ser.plusP nx i, f)) hO4 (by have := HB.out; have := HI.out; omega) hC4.size
        have hlen := hO4.len
        have hT5 := Kp.mk ((hT4.push (x := (Ser.plusP nx i, f)) (by rw [hlen, HI.out.1]) (by rw [hlen, ← HI.out.1]; exact hf1) hf2).other hC5 (fun b cs m e => items_nocell hO4 b cs m _ (by decide) e))
        have hS5 := Kp.mk (hS4.stay hC5 (fun k hk e => by
          have h1 := hO4.lt k e
          have h2 := hkl.out k hk
          omega) (fun b cs m _ _ hb e => items_nocell hO4 b cs m _ (by decide) e hb))
        have hC6 := Kp.mk (hC4.trans hC5 (fun k hk e => absurd (hO4.lt k e).1 (by omega)))
        have hO5 := Kp.mk hO5
        clear hO4 hT4 hC4 hf1 hf2 hC5 hlen hS3 hS4 hb4 hO3 hT3 hC3
        go_wp2_with (at_builtin; refine Lib.wpList_append_run _ rfl _ _ _ _ rfl _ _ rfl rfl _ _ hrun ?_)
        go_roundw
        case rel => exact ⟨j + 1, its ++ [(Ser.plusP nx i, f)], by have h1 := HB.out; have h2 := HI.out; have h3 := hK1.out; rw [show said + (j + 1) = i + 1 by omega]; exact congrArg (Value.int .i64) (wrap_succ (by omega)), by have := hS5.out; rw [HI.out.1] at this; exact this, hO5.out, hT5.out, hC6.out⟩
        case measure => exact meas_lt (by have := hK1.out; have := HI.out; omega) (by have := HB.out; have := hK1.out; omega)
      · have hn := take_no HTK (by omega)
        have HE := Kp.mk (show said + j = min wd ms.length by have := HI.out; have := HB.out; omega)
        have hO := Kp.mk hO
        have hT := Kp.mk hT
        have hS := Kp.mk hS
        have hC := Kp.mk hC
        clear hwd
        go_wp2_with (first | (go_at_call 10; refine HL.mono ?_; rintro e w2 ⟨rfl, rfl⟩) | (go_at_call 35; refine hn.mono ?_; rintro e w2 ⟨rfl, rfl⟩))
        go_ret
        exact ⟨A0, j, m0, its, rfl, HE.out, hO.out, hT.out, by rw [← HI.out.1]; exact hS.out, hC.out⟩
    · have HE := Kp.mk (show said + j = min wd ms.length by have := HI.out; have := HB.out; omega)
      have hO := Kp.mk hO
      have hT := Kp.mk hT
      have hS := Kp.mk hS
      have hC := Kp.mk hC
      clear HTK c3
      go_wp2_with (first | (go_at_call 10; refine HL.mono ?_; rintro e w2 ⟨rfl, rfl⟩))
      go_ret
      exact ⟨A0, j, m0, its, rfl, HE.out, hO.out, hT.out, by rw [← HI.out.1]; exact hS.out, hC.out⟩
set_option maxRecDepth 100000 in
set_option maxHeartbeats 4000000 in
theorem sagain_any (h : Sp P w s c wd nx said all r ms) : Calls Try.prog 22 #[.pointer (some ⟨s, 0, none⟩)] w fun e w' => ∃ A m its, e = .returned (.slice A said m) ∧ Om w' w.heap.size (.slice A said m) said its ∧ Tell (fun b => w.heap.size ≤ b) w' nx 0 ms its ∧ Below w.heap.size w w' := by
  have HS := ssaid_any h
  have HFT := Kp.mk h.fit
  go_enter Try.func22, Try.ntmps22
  go_wp2_with (first | (go_at_call 12; refine HS.mono ?_; rintro e w1 ⟨rfl, rfl⟩))
  clear HS
  have H := Kp.mk h
  clear h
  go_loopw [3, 4, 7] (fun s3 _ s7 wr => ∃ (j : Nat) (its : List (Int × FrV)), s7 = .int .i64 (j : Int) ∧ j ≤ said ∧ Om wr w1.heap.size s3 j its ∧ Tell (fun b => w1.heap.size ≤ b) wr nx 0 ms its ∧ Below w1.heap.size w1 wr) (fun _ _ s7 _ => said - (intOf s7).toNat)
  case atStart => exact ⟨0, [], rfl, Nat.zero_le _, Om.nil0 _ _, Tell.nil0 _ _ _ _ _, Below.refl _ _⟩
  case round =>
    obtain ⟨j, its, rfl, hj, hO, hT, hB⟩ := hrel
    obtain ⟨A0, m0, rfl, -⟩ := hO.form
    by_cases hlt : (j : Int) < said
    · have hS3 := H.out.below hB
      have hK1 := Kp.mk hlt
      have hO3 := Kp.mk hO
      have hT3 := Kp.mk hT
      have hB3 := Kp.mk hB
      clear hO hT hB
      go_wp2_with fail
      refine (sitem_any hS3 j (by have := hK1.out; have := HFT.out; omega)).mono ?_
      rintro e w4 ⟨f, rfl, hf1, hf2, hb4⟩
      clear hlt
      have hO4 := hO3.out.below hb4
      have hT4 := hT3.out.below hb4
      have hB4 := hB3.out.trans (hb4.mono hB3.out.size)
      have hf2 := hf2.imp (Q := fun b => w1.heap.size ≤ b) (fun b _ h => Nat.le_trans hB3.out.size h)
      obtain ⟨A5, m5, w5, hrun, hO5, hC5⟩ := item_push (x := (Ser.plusP nx j, f)) hO4 (by have := hK1.out; have := HFT.out; omega) hB4.size
      have hlen := hO4.len
      have hT5 := Kp.mk ((hT4.push (x := (Ser.plusP nx j, f)) (by rw [hlen, Nat.zero_add]) (by rw [hlen, Nat.zero_add]; exact hf1) hf2).other hC5 (fun b cs m e => items_nocell hO4 b cs m _ (by decide) e))
      have hB6 := Kp.mk (hB4.trans (hC5.below (B := w1.heap.size) (fun k e => (hO4.lt k e).1) hB4.size))
      have hO5 := Kp.mk hO5
      clear hO4 hT4 hB4 hf1 hf2 hC5 hlen hS3 hb4 hO3 hT3 hB3
      go_wp2_with (at_builtin; refine Lib.wpList_append_run _ rfl _ _ _ _ rfl _ _ rfl rfl _ _ hrun ?_)
      go_roundw
      case rel => exact ⟨j + 1, its ++ [(Ser.plusP nx j, f)], by have h1 := HFT.out; have h3 := hK1.out; exact congrArg (Value.int .i64) (wrap_succ (by omega)), by have := hK1.out; omega, hO5.out, hT5.out, hB6.out⟩
      case measure => exact meas_lt (by have := hK1.out; omega) (by have := HFT.out; have := hK1.out; omega)
    · obtain rfl : j = said := by omega
      have hO3 := Kp.mk hO
      have hT3 := Kp.mk hT
      have hB3 := Kp.mk hB
      clear hO hT hB
      go_wp2_with fail
      go_ret
      exact ⟨A0, m0, rfl, its, hO3.out, hT3.out, hB3.out⟩
end
end Go.Proofs.Ytkpjnikbcgngbaa.Oct
