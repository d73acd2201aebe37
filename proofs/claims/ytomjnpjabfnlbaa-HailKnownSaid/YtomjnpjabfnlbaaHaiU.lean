/- Layer 16 (hail): HailKnown. -/
import Derived.Test.YtomjnpjabfnlbaaHaiQ
import Derived.Test.YtomjnpjabfnlbaaHaiZ
namespace Go.Proofs.Ytomjnpjabfnlbaa.Oct
open Go.RowKit
set_option linter.unusedVariables false
set_option linter.unusedSimpArgs false
def endsH : List Int := [-9223372036854775808, -1, 0, 1, 6, 7, 4294967294, 4294967295, 4294967296, 9223372036854775807]
def EndsV (w : World) (z : Nat) : Prop := Vb 3 w z (endsH.map (Value.int .i64))
theorem EndsV.below {w w' : World} {z : Nat} (h : EndsV w z) (hb : Below w.heap.size w w') : EndsV w' z := Vb.below h hb (Vb.lt h)
theorem EndsV.at_ {w : World} {z : Nat} (h : EndsV w z) {k : Nat} (hk : k < 10) : w.cell? ⟨z, k, none⟩ = some (.int .i64 (endsH.getD k 0)) := by
  refine Vb.cell h k ?_
  have hl : k < endsH.length := hk
  rw [List.getElem?_map, List.getElem?_eq_getElem hl, List.getD_eq_getElem?_getD, List.getElem?_eq_getElem hl]
  rfl
/-- Ends that are none, asked i times. -/
def KnA (W : World) (z : Nat) (s1 s2 s4 : Value) (wr : World) : Prop := ∃ (i : Nat) (P Q : Option Addr), s1 = .pointer P ∧ s2 = .pointer Q ∧ s4 = .int .i64 i ∧ i ≤ 2 ∧ Kp (NC wr P) ∧ Kp (NGu wr Q) ∧ Kp (Vb 31 wr z [.int .i64 1, .int .i64 1, .int .i64 0, .int .i64 0, .int .i64 0, .int .i64 0, .int .i64 0, .int .i64 0, .slice none 0 0]) ∧ Kp (Below W.heap.size W wr)
/-- What comes, j more of it. -/
def KnB (W : World) (ze : Nat) (s11 s12 : Value) (wr : World) : Prop := ∃ (j N c : Nat) (A : Option Addr) (ds : List DoH), s11 = .slice A N c ∧ s12 = .int .i64 j ∧ j ≤ 40 ∧ N = 10 + j ∧ Kp (Odo wr W.heap.size (.slice A N c) N ds) ∧ Kp (EndsV wr ze) ∧ Kp (Below W.heap.size W wr)
/-- All of it, at any numbers. -/
def KnC (W : World) (ze N c : Nat) (A : Option Addr) (ds : List DoH) (wr : World) : Prop := Odo wr W.heap.size (.slice A N c) N ds ∧ EndsV wr ze ∧ Below W.heap.size W wr
theorem KnC.below {W w w' : World} {ze N c : Nat} {A : Option Addr} {ds : List DoH} (h : KnC W ze N c A ds w) (hb : Below w.heap.size w w') : KnC W ze N c A ds w' := ⟨h.1.below hb, h.2.1.below hb, h.2.2.trans (hb.mono h.2.2.size)⟩
theorem measN {i : Nat} {m : Nat} (h : i + 1 ≤ m) : (m - (intOf (.int .i64 ((i : Int) + 1))).toNat) < (m - (intOf (.int .i64 (i : Int))).toNat) := by
  simp [intOf]
  omega
set_option maxRecDepth 100000 in
set_option maxHeartbeats 20000000 in
theorem hailKnown_any (w : World) : Calls Try.prog 6 #[] w fun en w' => en = .returned (.bool true) ∧ Below w.heap.size w w' := by
  have hN := new_seg9 w 1 1 0 0 0 0 0 0 none 0 0
  go_enter Try.func6, Try.ntmps6
  go_upto_region 4 with fail
  obtain ⟨z3, hz3⟩ : ∃ z, z = w.heap.size := ⟨_, rfl⟩
  have hv := hN.1
  rw [← hz3] at hv ⊢
  have HZ3 := Kp.mk hz3
  have HV0 := Kp.mk hv
  have HB0 := Kp.mk hN.2
  clear hv hN hz3
  generalize w.alloc (.cells #[.int .i64 1, .int .i64 1, .int .i64 0, .int .i64 0, .int .i64 0, .int .i64 0, .int .i64 0, .int .i64 0, .slice none 0 0] 31) = w1 at *
  go_wp2_with fail
  go_loopw [1, 2, 4] (fun s1 s2 s4 wr => KnA w z3 s1 s2 s4 wr) (fun _ _ s4 _ => 2 - (intOf s4).toNat)
  case atStart => exact ⟨0, none, none, rfl, rfl, rfl, by omega, Kp.mk (.inl rfl), Kp.mk (.inl rfl), HV0, HB0⟩
  case round =>
    clear HV0 HB0
    obtain ⟨i, P, Q, rfl, rfl, rfl, hi, HP, HQ, HV, HB⟩ := hrel
    by_cases hl : (i : Int) < 2
    · skip
      have ei : wrap64 ((i : Int) + 1) = (i : Int) + 1 := by unfold wrap64; omega
      have HI := Kp.mk (show i + 1 ≤ 2 ∧ ((i + 1 : Nat) : Int) = (i : Int) + 1 by omega)
      go_wp2_with fail
      refine HP.out.says.mono ?_
      rintro en w2 ⟨rfl, hb⟩
      have hp := HP.out.below hb
      have hg := HQ.out.below hb
      have hv := HV.out.below hb HV.out.lt
      have ho := HB.out.trans (hb.mono HB.out.size)
      clear HP HQ HV HB hb hi
      simp only [sv0, Sv.v]
      go_upto_region 8 with fail
      have hM := new_seg9 w2 0 0 0 0 0 0 0 0 none 0 0
      replace hp := hp.below hM.2
      replace hg := hg.below hM.2
      replace hv := hv.below hM.2 hv.lt
      replace ho := ho.trans (hM.2.mono ho.size)
      clear hM
      generalize w2.alloc (.cells #[.int .i64 0, .int .i64 0, .int .i64 0, .int .i64 0, .int .i64 0, .int .i64 0, .int .i64 0, .int .i64 0, .slice none 0 0] 31) = w3 at *
      obtain ⟨n0, n1, n2, n3, n4, n5, n6, n7, n8⟩ := seg_nine hv
      go_wp2_with fail
      refine (hg.take ⟨1, 1, 0, 0, 0, 0, 0, 0, none, 0, 0⟩).mono ?_
      rintro en w4 ⟨rfl, hb⟩
      replace hp := hp.below hb
      replace hg := hg.below hb
      replace hv := hv.below hb hv.lt
      replace ho := ho.trans (hb.mono ho.size)
      clear hb n0 n1 n2 n3 n4 n5 n6 n7 n8
      simp only [sv0, Sv.v]
      go_upto_region 9 with fail
      have hM := new_seg9 w4 0 0 0 0 0 0 0 0 none 0 0
      replace hp := hp.below hM.2
      replace hg := hg.below hM.2
      replace hv := hv.below hM.2 hv.lt
      replace ho := ho.trans (hM.2.mono ho.size)
      clear hM
      generalize w4.alloc (.cells #[.int .i64 0, .int .i64 0, .int .i64 0, .int .i64 0, .int .i64 0, .int .i64 0, .int .i64 0, .int .i64 0, .slice none 0 0] 31) = w5 at *
      go_wp2_with fail
      refine (hp.take ⟨2, 0, 1, 0, 0, 0, 0, 0, none, 0, 0⟩).mono ?_
      rintro en w6 ⟨rfl, hb⟩
      replace hp := hp.below hb
      replace hg := hg.below hb
      replace hv := hv.below hb hv.lt
      replace ho := ho.trans (hb.mono ho.size)
      clear hb
      go_wp2_with fail
      refine (hp.open_).mono ?_
      rintro en wx ⟨rfl, hw⟩
      replace hw := hw.symm
      subst hw
      go_wp2_with fail
      refine (hp.boot).mono ?_
      rintro en wx ⟨rfl, hw⟩
      replace hw := hw.symm
      subst hw
      go_wp2_with fail
      refine (hg.epoch).mono ?_
      rintro en wx ⟨rfl, hw⟩
      replace hw := hw.symm
      subst hw
      go_wp2_with fail
      refine (hg.boot).mono ?_
      rintro en wx ⟨rfl, hw⟩
      replace hw := hw.symm
      subst hw
      clear hp hg
      go_upto_region 11 with fail
      have k1 := Vb.new 65 w6 [.int .i64 0, .int .i64 0, .int .i64 0, .int .i64 0]
      have b1 := below_alloc w6 (.cells #[.int .i64 0, .int .i64 0, .int .i64 0, .int .i64 0] 65)
      replace hv := hv.below b1 hv.lt
      replace ho := ho.trans (b1.mono ho.size)
      clear b1
      go_upto_region 12 with fail
      generalize w6.alloc (.cells #[.int .i64 0, .int .i64 0, .int .i64 0, .int .i64 0] 65) = w7 at *
      have k2 := Vb.new 67 w7 [.int .i64 0, .int .i64 0, .int .i64 0]
      have b2 := below_alloc w7 (.cells #[.int .i64 0, .int .i64 0, .int .i64 0] 67)
      have H1 := Kp.mk (k1.below b2 k1.lt)
      have H2 := Kp.mk k2
      have H3 := Kp.mk (hv.below b2 hv.lt)
      have H4 := Kp.mk (ho.trans (b2.mono ho.size))
      clear k1 k2 hv ho b2
      go_wp2_with fail
      go_roundw
      case rel => exact ⟨i + 1, _, _, rfl, rfl, by rw [HI.out.2], HI.out.1, Kp.mk (.inr ⟨_, rfl, H1.out⟩), Kp.mk (.inr ⟨_, rfl, H2.out⟩), H3, H4⟩
      case measure => exact measN HI.out.1
    · skip
      have hv := HV.out
      have ho := HB.out
      clear HP HQ HV HB hi
      go_upto_region 14 with fail
      have hE : EndsV (wr.alloc (.cells #[.int .i64 (-9223372036854775808), .int .i64 (-1), .int .i64 0, .int .i64 1, .int .i64 6, .int .i64 7, .int .i64 4294967294, .int .i64 4294967295, .int .i64 4294967296, .int .i64 9223372036854775807] 3)) wr.heap.size := Vb.new 3 wr (endsH.map (Value.int .i64))
      have hb := below_alloc wr (.cells #[.int .i64 (-9223372036854775808), .int .i64 (-1), .int .i64 0, .int .i64 1, .int .i64 6, .int .i64 7, .int .i64 4294967294, .int .i64 4294967295, .int .i64 4294967296, .int .i64 9223372036854775807] 3)
      replace hv := hv.below hb hv.lt
      replace ho := ho.trans (hb.mono ho.size)
      clear hb
      generalize wr.alloc (.cells #[.int .i64 (-9223372036854775808), .int .i64 (-1), .int .i64 0, .int .i64 1, .int .i64 6, .int .i64 7, .int .i64 4294967294, .int .i64 4294967295, .int .i64 4294967296, .int .i64 9223372036854775807] 3) = w2 at *
      obtain ⟨ze, hze⟩ : ∃ z, z = wr.heap.size := ⟨_, rfl⟩
      rw [← hze] at hE ⊢
      have HZE := Kp.mk hze
      clear hze
      obtain ⟨n0, n1, n2, n3, n4, n5, n6, n7, n8⟩ := seg_nine hv
      go_upto_region 15 with fail
      clear n0 n1 n2 n3 n4 n5 n6 n7 n8 hv
      have hO : Odo (w2.alloc (.cells #[.int .i64 5, .int .i64 0, .int .i64 0, .int .i64 0, .int .i64 0, .int .i64 0, .int .i64 0, .int .i64 0, .int .i64 0, .int .i64 0, .slice none 0 0, .int .i64 4, .int .i64 0, .int .i64 0, .int .i64 0, .int .i64 0, .int .i64 0, .int .i64 0, .int .i64 0, .int .i64 0, .int .i64 0, .slice none 0 0, .int .i64 1, .int .i64 0, .int .i64 1, .int .i64 1, .int .i64 0, .int .i64 0, .int .i64 0, .int .i64 0, .int .i64 0, .int .i64 0, .slice none 0 0, .int .i64 0, .int .i64 0, .int .i64 4, .int .i64 0, .int .i64 1, .int .i64 0, .int .i64 1, .int .i64 0, .int .i64 0, .int .i64 0, .slice none 0 0, .int .i64 5, .int .i64 0, .int .i64 0, .int .i64 0, .int .i64 0, .int .i64 0, .int .i64 0, .int .i64 0, .int .i64 0, .int .i64 0, .slice none 0 0, .int .i64 4, .int .i64 0, .int .i64 0, .int .i64 0, .int .i64 0, .int .i64 0, .int .i64 0, .int .i64 0, .int .i64 0, .int .i64 0, .slice none 0 0, .int .i64 5, .int .i64 0, .int .i64 0, .int .i64 0, .int .i64 0, .int .i64 0, .int .i64 0, .int .i64 0, .int .i64 0, .int .i64 0, .slice none 0 0, .int .i64 0, .int .i64 0, .int .i64 2, .int .i64 0, .int .i64 6, .int .i64 0, .int .i64 0, .int .i64 9, .int .i64 0, .int .i64 0, .slice none 0 0, .int .i64 1, .int .i64 0, .int .i64 1, .int .i64 6, .int .i64 0, .int .i64 0, .int .i64 1, .int .i64 0, .int .i64 0, .int .i64 0, .slice none 0 0, .int .i64 1, .int .i64 0, .int .i64 0, .int .i64 0, .int .i64 0, .int .i64 0, .int .i64 0, .int .i64 0, .int .i64 0, .int .i64 0, .slice none 0 0] 47)) w.heap.size (.slice (some ⟨w2.heap.size, 0, none⟩) 10 10) 10 [⟨5, 0, sv0⟩, ⟨4, 0, sv0⟩, ⟨1, 0, ⟨1, 1, 0, 0, 0, 0, 0, 0, none, 0, 0⟩⟩, ⟨0, 0, ⟨4, 0, 1, 0, 1, 0, 0, 0, none, 0, 0⟩⟩, ⟨5, 0, sv0⟩, ⟨4, 0, sv0⟩, ⟨5, 0, sv0⟩, ⟨0, 0, ⟨2, 0, 6, 0, 0, 9, 0, 0, none, 0, 0⟩⟩, ⟨1, 0, ⟨1, 6, 0, 0, 1, 0, 0, 0, none, 0, 0⟩⟩, ⟨1, 0, sv0⟩] := Odo.lit (w := w2) ho.size [⟨5, 0, sv0⟩, ⟨4, 0, sv0⟩, ⟨1, 0, ⟨1, 1, 0, 0, 0, 0, 0, 0, none, 0, 0⟩⟩, ⟨0, 0, ⟨4, 0, 1, 0, 1, 0, 0, 0, none, 0, 0⟩⟩, ⟨5, 0, sv0⟩, ⟨4, 0, sv0⟩, ⟨5, 0, sv0⟩, ⟨0, 0, ⟨2, 0, 6, 0, 0, 9, 0, 0, none, 0, 0⟩⟩, ⟨1, 0, ⟨1, 6, 0, 0, 1, 0, 0, 0, none, 0, 0⟩⟩, ⟨1, 0, sv0⟩] rfl (by omega)
      have hb := below_alloc w2 (.cells #[.int .i64 5, .int .i64 0, .int .i64 0, .int .i64 0, .int .i64 0, .int .i64 0, .int .i64 0, .int .i64 0, .int .i64 0, .int .i64 0, .slice none 0 0, .int .i64 4, .int .i64 0, .int .i64 0, .int .i64 0, .int .i64 0, .int .i64 0, .int .i64 0, .int .i64 0, .int .i64 0, .int .i64 0, .slice none 0 0, .int .i64 1, .int .i64 0, .int .i64 1, .int .i64 1, .int .i64 0, .int .i64 0, .int .i64 0, .int .i64 0, .int .i64 0, .int .i64 0, .slice none 0 0, .int .i64 0, .int .i64 0, .int .i64 4, .int .i64 0, .int .i64 1, .int .i64 0, .int .i64 1, .int .i64 0, .int .i64 0, .int .i64 0, .slice none 0 0, .int .i64 5, .int .i64 0, .int .i64 0, .int .i64 0, .int .i64 0, .int .i64 0, .int .i64 0, .int .i64 0, .int .i64 0, .int .i64 0, .slice none 0 0, .int .i64 4, .int .i64 0, .int .i64 0, .int .i64 0, .int .i64 0, .int .i64 0, .int .i64 0, .int .i64 0, .int .i64 0, .int .i64 0, .slice none 0 0, .int .i64 5, .int .i64 0, .int .i64 0, .int .i64 0, .int .i64 0, .int .i64 0, .int .i64 0, .int .i64 0, .int .i64 0, .int .i64 0, .slice none 0 0, .int .i64 0, .int .i64 0, .int .i64 2, .int .i64 0, .int .i64 6, .int .i64 0, .int .i64 0, .int .i64 9, .int .i64 0, .int .i64 0, .slice none 0 0, .int .i64 1, .int .i64 0, .int .i64 1, .int .i64 6, .int .i64 0, .int .i64 0, .int .i64 1, .int .i64 0, .int .i64 0, .int .i64 0, .slice none 0 0, .int .i64 1, .int .i64 0, .int .i64 0, .int .i64 0, .int .i64 0, .int .i64 0, .int .i64 0, .int .i64 0, .int .i64 0, .int .i64 0, .slice none 0 0] 47)
      have H2 := Kp.mk (hE.below hb)
      have H3 := Kp.mk (ho.trans (hb.mono ho.size))
      clear hb hE ho
      generalize w2.alloc (.cells #[.int .i64 5, .int .i64 0, .int .i64 0, .int .i64 0, .int .i64 0, .int .i64 0, .int .i64 0, .int .i64 0, .int .i64 0, .int .i64 0, .slice none 0 0, .int .i64 4, .int .i64 0, .int .i64 0, .int .i64 0, .int .i64 0, .int .i64 0, .int .i64 0, .int .i64 0, .int .i64 0, .int .i64 0, .slice none 0 0, .int .i64 1, .int .i64 0, .int .i64 1, .int .i64 1, .int .i64 0, .int .i64 0, .int .i64 0, .int .i64 0, .int .i64 0, .int .i64 0, .slice none 0 0, .int .i64 0, .int .i64 0, .int .i64 4, .int .i64 0, .int .i64 1, .int .i64 0, .int .i64 1, .int .i64 0, .int .i64 0, .int .i64 0, .slice none 0 0, .int .i64 5, .int .i64 0, .int .i64 0, .int .i64 0, .int .i64 0, .int .i64 0, .int .i64 0, .int .i64 0, .int .i64 0, .int .i64 0, .slice none 0 0, .int .i64 4, .int .i64 0, .int .i64 0, .int .i64 0, .int .i64 0, .int .i64 0, .int .i64 0, .int .i64 0, .int .i64 0, .int .i64 0, .slice none 0 0, .int .i64 5, .int .i64 0, .int .i64 0, .int .i64 0, .int .i64 0, .int .i64 0, .int .i64 0, .int .i64 0, .int .i64 0, .int .i64 0, .slice none 0 0, .int .i64 0, .int .i64 0, .int .i64 2, .int .i64 0, .int .i64 6, .int .i64 0, .int .i64 0, .int .i64 9, .int .i64 0, .int .i64 0, .slice none 0 0, .int .i64 1, .int .i64 0, .int .i64 1, .int .i64 6, .int .i64 0, .int .i64 0, .int .i64 1, .int .i64 0, .int .i64 0, .int .i64 0, .slice none 0 0, .int .i64 1, .int .i64 0, .int .i64 0, .int .i64 0, .int .i64 0, .int .i64 0, .int .i64 0, .int .i64 0, .int .i64 0, .int .i64 0, .slice none 0 0] 47) = w3 at *
      have H1 := Kp.mk hO
      clear hO
      generalize w2.heap.size = zd at *
      go_wp2_with fail
      go_loopw [11, 12] (fun s11 s12 wx => KnB w ze s11 s12 wx) (fun _ s12 _ => 40 - (intOf s12).toNat)
      case atStart => exact ⟨0, 10, 10, _, _, rfl, rfl, by omega, rfl, H1, H2, H3⟩
      case round =>
        clear H1 H2 H3
        obtain ⟨j, N, cc, A, ds, rfl, rfl, hj, hN, HO, HE, HB⟩ := hrel
        by_cases hl2 : (j : Int) < 40
        · skip
          have ej : wrap64 ((j : Int) + 1) = (j : Int) + 1 := by unfold wrap64; omega
          have HJ := Kp.mk (show j + 1 ≤ 40 ∧ ((j + 1 : Nat) : Int) = (j : Int) + 1 ∧ N + 1 = 10 + (j + 1) by omega)
          obtain ⟨A7, c7, w7, hrun, hO7, hg7, hb7⟩ := HO.out.more 23 ⟨(2 + (j : Int) % 4), (7 * (j : Int)), sv0⟩ (by omega) HB.out.size
          have hrun : (Builtin.append_ #[23, 23] 23 #[.slice A N cc, .slice (some ⟨wr.heap.size, 0, none⟩) 1 1]).run Try.prog (wr.alloc (.cells #[.int .i64 (2 + (j : Int) % 4), .int .i64 (7 * (j : Int)), .int .i64 0, .int .i64 0, .int .i64 0, .int .i64 0, .int .i64 0, .int .i64 0, .int .i64 0, .int .i64 0, .slice none 0 0] 47)) = .ok (.slice A7 (N + 1) c7) w7 := hrun
          have H1 := Kp.mk hO7
          have H2 := Kp.mk (show EndsV w7 ze from HO.out.keeps HE.out (by decide) hg7)
          have H3 := Kp.mk (HB.out.trans hb7)
          clear HO HE HB hO7 hg7 hb7 hj hN
          go_wp2_with (at_builtin; refine Lib.wpList_append_run _ rfl _ _ _ _ rfl _ _ rfl rfl _ _ hrun ?_)
          clear hrun
          go_wp2_with fail
          go_roundw
          case rel => exact ⟨j + 1, N + 1, c7, A7, _, rfl, by rw [HJ.out.2.1], HJ.out.1, HJ.out.2.2, H1, H2, H3⟩
          case measure => exact measN HJ.out.1
        · skip
          have hC : KnC w ze N cc A ds wr := ⟨HO.out, HE.out, HB.out⟩
          have HC := Kp.mk hC
          clear HO HE HB hC hj hN
          go_wp2_with fail
          go_loopw [13] (fun s13 wx => ∃ i : Nat, s13 = .int .i64 i ∧ i ≤ 10 ∧ Kp (KnC w ze N cc A ds wx)) (fun s13 _ => 10 - (intOf s13).toNat)
          case atStart => exact ⟨0, rfl, by omega, HC⟩
          case round =>
            clear HC
            obtain ⟨i, rfl, hi, HC⟩ := hrel
            by_cases hl3 : (i : Int) < 10
            · skip
              have ei : wrap64 ((i : Int) + 1) = (i : Int) + 1 := by unfold wrap64; omega
              have HI := Kp.mk (show i < 10 ∧ ((i + 1 : Nat) : Int) = (i : Int) + 1 by omega)
              clear hi
              go_wp2_with fail
              go_loopw [14] (fun s14 wx => ∃ k : Nat, s14 = .int .i64 k ∧ k ≤ 10 ∧ Kp (KnC w ze N cc A ds wx)) (fun s14 _ => 10 - (intOf s14).toNat)
              case atStart => exact ⟨0, rfl, by omega, HC⟩
              case round =>
                clear HC
                obtain ⟨k, rfl, hk, HC⟩ := hrel
                by_cases hl4 : (k : Int) < 10
                · skip
                  have ek : wrap64 ((k : Int) + 1) = (k : Int) + 1 := by unfold wrap64; omega
                  have HK := Kp.mk (show k < 10 ∧ k + 1 ≤ 10 ∧ ((k + 1 : Nat) : Int) = (k : Int) + 1 by omega)
                  clear hk
                  go_upto_region 25 with fail
                  have hS0 := HC.out.below (Below.refl _ _).drew
                  clear HC
                  refine wp_region_held_drew (S := fun Y : World => KnC w ze N cc A ds Y) (by kernel_rfl) hS0 (fun _ => ?_)
                  generalize wr.drew = u0 at *
                  refine takeD (i := 0) (v := .slice (some ⟨ze, 0, none⟩) 10 10) (some 107) rfl rfl (by kernel_rfl) (by kernel_rfl) (by kernel_rfl) (fun _ _ _ h => h) (Or.inl ⟨by rfl, ?_⟩) hS0 ?_
                  · rintro w' hq
                    go_simp
                  try simp only [Act.put, List.setIfInBounds_toArray, List.set_cons_zero, List.set_cons_succ]
                  refine takeD (i := 1) (v := .int .i64 i) (some 108) rfl rfl (by kernel_rfl) (by kernel_rfl) (by kernel_rfl) (fun _ _ _ h => h) (Or.inl ⟨by rfl, ?_⟩) hS0 ?_
                  · rintro w' hq
                    go_simp
                  try simp only [Act.put, List.setIfInBounds_toArray, List.set_cons_zero, List.set_cons_succ]
                  refine takeD (i := 2) (v := .pointer (some ⟨ze, i, none⟩)) (some 109) rfl rfl (by kernel_rfl) (by kernel_rfl) (by kernel_rfl) (fun _ _ _ h => h) (Or.inl ⟨by rfl, ?_⟩) hS0 ?_
                  · rintro w' hq
                    go_simp
                  try simp only [Act.put, List.setIfInBounds_toArray, List.set_cons_zero, List.set_cons_succ]
                  refine takeD (i := 3) (v := .int .i64 (endsH.getD i 0)) (some 110) rfl rfl (by kernel_rfl) (by kernel_rfl) (by kernel_rfl) (fun _ _ _ h => h) (Or.inl ⟨by rfl, ?_⟩) hS0 ?_
                  · rintro w' hq
                    have x0 := hq.2.1.at_ HI.out.1
                    go_simp
                  try simp only [Act.put, List.setIfInBounds_toArray, List.set_cons_zero, List.set_cons_succ]
                  refine takeD (i := 4) (v := .slice (some ⟨ze, 0, none⟩) 10 10) (some 111) rfl rfl (by kernel_rfl) (by kernel_rfl) (by kernel_rfl) (fun _ _ _ h => h) (Or.inl ⟨by rfl, ?_⟩) hS0 ?_
                  · rintro w' hq
                    go_simp
                  try simp only [Act.put, List.setIfInBounds_toArray, List.set_cons_zero, List.set_cons_succ]
                  refine takeD (i := 5) (v := .int .i64 k) (some 112) rfl rfl (by kernel_rfl) (by kernel_rfl) (by kernel_rfl) (fun _ _ _ h => h) (Or.inl ⟨by rfl, ?_⟩) hS0 ?_
                  · rintro w' hq
                    go_simp
                  try simp only [Act.put, List.setIfInBounds_toArray, List.set_cons_zero, List.set_cons_succ]
                  refine takeD (i := 6) (v := .pointer (some ⟨ze, k, none⟩)) (some 113) rfl rfl (by kernel_rfl) (by kernel_rfl) (by kernel_rfl) (fun _ _ _ h => h) (Or.inl ⟨by rfl, ?_⟩) hS0 ?_
                  · rintro w' hq
                    go_simp
                  try simp only [Act.put, List.setIfInBounds_toArray, List.set_cons_zero, List.set_cons_succ]
                  refine takeD (i := 7) (v := .int .i64 (endsH.getD k 0)) (some 114) rfl rfl (by kernel_rfl) (by kernel_rfl) (by kernel_rfl) (fun _ _ _ h => h) (Or.inl ⟨by rfl, ?_⟩) hS0 ?_
                  · rintro w' hq
                    have x0 := hq.2.1.at_ HK.out.1
                    go_simp
                  try simp only [Act.put, List.setIfInBounds_toArray, List.set_cons_zero, List.set_cons_succ]
                  refine takeD (i := 8) (v := .agg #[.int .i64 (endsH.getD i 0), .int .i64 (endsH.getD k 0)]) (some 115) rfl rfl (by kernel_rfl) (by kernel_rfl) (by kernel_rfl) (fun _ _ _ h => h) (Or.inl ⟨by rfl, ?_⟩) hS0 ?_
                  · rintro w' hq
                    go_simp
                  try simp only [Act.put, List.setIfInBounds_toArray, List.set_cons_zero, List.set_cons_succ]
                  refine takeD (i := 9) (v := .int .i64 i) (some 116) rfl rfl (by kernel_rfl) (by kernel_rfl) (by kernel_rfl) (fun _ _ _ h => h) (Or.inl ⟨by rfl, ?_⟩) hS0 ?_
                  · rintro w' hq
                    go_simp
                  try simp only [Act.put, List.setIfInBounds_toArray, List.set_cons_zero, List.set_cons_succ]
                  refine takeD (i := 10) (v := .int .i64 ((i : Int).tmod 6)) (some 117) rfl rfl (by kernel_rfl) (by kernel_rfl) (by kernel_rfl) (fun _ _ _ h => h) (Or.inl ⟨by rfl, ?_⟩) hS0 ?_
                  · rintro w' hq
                    go_simp
                  try simp only [Act.put, List.setIfInBounds_toArray, List.set_cons_zero, List.set_cons_succ]
                  refine takeD (i := 11) (v := .int .i64 (IntKind.i64.wrap (1 + (i : Int).tmod 6))) (some 118) rfl rfl (by kernel_rfl) (by kernel_rfl) (by kernel_rfl) (fun _ _ _ h => h) (Or.inl ⟨by rfl, ?_⟩) hS0 ?_
                  · rintro w' hq
                    go_simp
                  try simp only [Act.put, List.setIfInBounds_toArray, List.set_cons_zero, List.set_cons_succ]
                  refine takeD (i := 12) (v := .slice (some ⟨ze, 0, none⟩) 10 10) (some 119) rfl rfl (by kernel_rfl) (by kernel_rfl) (by kernel_rfl) (fun _ _ _ h => h) (Or.inl ⟨by rfl, ?_⟩) hS0 ?_
                  · rintro w' hq
                    go_simp
                  try simp only [Act.put, List.setIfInBounds_toArray, List.set_cons_zero, List.set_cons_succ]
                  refine takeD (i := 13) (v := .int .i64 k) (some 120) rfl rfl (by kernel_rfl) (by kernel_rfl) (by kernel_rfl) (fun _ _ _ h => h) (Or.inl ⟨by rfl, ?_⟩) hS0 ?_
                  · rintro w' hq
                    go_simp
                  try simp only [Act.put, List.setIfInBounds_toArray, List.set_cons_zero, List.set_cons_succ]
                  refine takeD (i := 14) (v := .pointer (some ⟨ze, k, none⟩)) (some 121) rfl rfl (by kernel_rfl) (by kernel_rfl) (by kernel_rfl) (fun _ _ _ h => h) (Or.inl ⟨by rfl, ?_⟩) hS0 ?_
                  · rintro w' hq
                    go_simp
                  try simp only [Act.put, List.setIfInBounds_toArray, List.set_cons_zero, List.set_cons_succ]
                  refine takeD (i := 15) (v := .int .i64 (endsH.getD k 0)) (some 122) rfl rfl (by kernel_rfl) (by kernel_rfl) (by kernel_rfl) (fun _ _ _ h => h) (Or.inl ⟨by rfl, ?_⟩) hS0 ?_
                  · rintro w' hq
                    have x0 := hq.2.1.at_ HK.out.1
                    go_simp
                  try simp only [Act.put, List.setIfInBounds_toArray, List.set_cons_zero, List.set_cons_succ]
                  refine takeD (i := 16) (v := .agg #[.int .i64 (IntKind.i64.wrap (1 + (i : Int).tmod 6)), .int .i64 (endsH.getD k 0)]) (some 123) rfl rfl (by kernel_rfl) (by kernel_rfl) (by kernel_rfl) (fun _ _ _ h => h) (Or.inl ⟨by rfl, ?_⟩) hS0 ?_
                  · rintro w' hq
                    go_simp
                  try simp only [Act.put, List.setIfInBounds_toArray, List.set_cons_zero, List.set_cons_succ]
                  refine takeD (i := 17) (v := .slice A N cc) (some 124) rfl rfl (by kernel_rfl) (by kernel_rfl) (by kernel_rfl) (fun _ _ _ h => h) (Or.inl ⟨by rfl, ?_⟩) hS0 ?_
                  · rintro w' hq
                    go_simp
                  try simp only [Act.put, List.setIfInBounds_toArray, List.set_cons_zero, List.set_cons_succ]
                  refine wpAnyH_ready (rs := [18]) (by kernel_rfl) (by simp) ?_
                  refine AllReadyH.cons rfl (fun K hK => ?_) AllReadyH.nil
                  try rw [if_pos (by rfl)]
                  go_simp
                  refine (hailPlays_any (endsH.getD i 0) (endsH.getD k 0) (IntKind.i64.wrap (1 + (i : Int).tmod 6)) (endsH.getD k 0) hS0.1.dh).mono ?_
                  rintro en u1 ⟨rfl, hb⟩
                  have hS1 := hS0.below hb
                  refine hK.out _ _ hS1 (fun _ => ?_)
                  clear hK K hb hS0
                  try simp only [Act.put, List.setIfInBounds_toArray, List.set_cons_zero, List.set_cons_succ]
                  refine takeD (i := 19) (v := .bool false) (some 126) rfl rfl (by kernel_rfl) (by kernel_rfl) (by kernel_rfl) (fun _ _ _ h => h) (Or.inl ⟨by rfl, ?_⟩) hS1 ?_
                  · rintro w' hq
                    go_simp
                  try simp only [Act.put, List.setIfInBounds_toArray, List.set_cons_zero, List.set_cons_succ]
                  refine takeD (i := 20) (v := .bool false) (some 127) rfl rfl (by kernel_rfl) (by kernel_rfl) (by kernel_rfl) (fun _ _ _ h => h) (Or.inl ⟨by rfl, ?_⟩) hS1 ?_
                  · rintro w' hq
                    go_simp
                  try simp only [Act.put, List.setIfInBounds_toArray, List.set_cons_zero, List.set_cons_succ]
                  refine takeD (i := 21) (v := .int .i64 k) (some 128) rfl rfl (by kernel_rfl) (by kernel_rfl) (by kernel_rfl) (fun _ _ _ h => h) (Or.inl ⟨by rfl, ?_⟩) hS1 ?_
                  · rintro w' hq
                    go_simp
                  try simp only [Act.put, List.setIfInBounds_toArray, List.set_cons_zero, List.set_cons_succ]
                  refine takeD (i := 22) (v := .int .i64 (IntKind.i64.wrap (1 + (k : Int)))) (some 129) rfl rfl (by kernel_rfl) (by kernel_rfl) (by kernel_rfl) (fun _ _ _ h => h) (Or.inl ⟨by rfl, ?_⟩) hS1 ?_
                  · rintro w' hq
                    go_simp
                  try simp only [Act.put, List.setIfInBounds_toArray, List.set_cons_zero, List.set_cons_succ]
                  refine takeD (i := 23) (v := .agg #[.int .i64 6, .int .i64 (IntKind.i64.wrap (1 + (k : Int)))]) (some 130) rfl rfl (by kernel_rfl) (by kernel_rfl) (by kernel_rfl) (fun _ _ _ h => h) (Or.inl ⟨by rfl, ?_⟩) hS1 ?_
                  · rintro w' hq
                    go_simp
                  try simp only [Act.put, List.setIfInBounds_toArray, List.set_cons_zero, List.set_cons_succ]
                  refine takeD (i := 24) (v := .slice (some ⟨ze, 0, none⟩) 10 10) (some 131) rfl rfl (by kernel_rfl) (by kernel_rfl) (by kernel_rfl) (fun _ _ _ h => h) (Or.inl ⟨by rfl, ?_⟩) hS1 ?_
                  · rintro w' hq
                    go_simp
                  try simp only [Act.put, List.setIfInBounds_toArray, List.set_cons_zero, List.set_cons_succ]
                  refine takeD (i := 25) (v := .int .i64 i) (some 132) rfl rfl (by kernel_rfl) (by kernel_rfl) (by kernel_rfl) (fun _ _ _ h => h) (Or.inl ⟨by rfl, ?_⟩) hS1 ?_
                  · rintro w' hq
                    go_simp
                  try simp only [Act.put, List.setIfInBounds_toArray, List.set_cons_zero, List.set_cons_succ]
                  refine takeD (i := 26) (v := .pointer (some ⟨ze, i, none⟩)) (some 133) rfl rfl (by kernel_rfl) (by kernel_rfl) (by kernel_rfl) (fun _ _ _ h => h) (Or.inl ⟨by rfl, ?_⟩) hS1 ?_
                  · rintro w' hq
                    go_simp
                  try simp only [Act.put, List.setIfInBounds_toArray, List.set_cons_zero, List.set_cons_succ]
                  refine takeD (i := 27) (v := .int .i64 (endsH.getD i 0)) (some 134) rfl rfl (by kernel_rfl) (by kernel_rfl) (by kernel_rfl) (fun _ _ _ h => h) (Or.inl ⟨by rfl, ?_⟩) hS1 ?_
                  · rintro w' hq
                    have x0 := hq.2.1.at_ HI.out.1
                    go_simp
                  try simp only [Act.put, List.setIfInBounds_toArray, List.set_cons_zero, List.set_cons_succ]
                  refine takeD (i := 28) (v := .agg #[.int .i64 6, .int .i64 (endsH.getD i 0)]) (some 135) rfl rfl (by kernel_rfl) (by kernel_rfl) (by kernel_rfl) (fun _ _ _ h => h) (Or.inl ⟨by rfl, ?_⟩) hS1 ?_
                  · rintro w' hq
                    go_simp
                  try simp only [Act.put, List.setIfInBounds_toArray, List.set_cons_zero, List.set_cons_succ]
                  refine takeD (i := 29) (v := .slice A N cc) (some 136) rfl rfl (by kernel_rfl) (by kernel_rfl) (by kernel_rfl) (fun _ _ _ h => h) (Or.inl ⟨by rfl, ?_⟩) hS1 ?_
                  · rintro w' hq
                    go_simp
                  try simp only [Act.put, List.setIfInBounds_toArray, List.set_cons_zero, List.set_cons_succ]
                  refine wpAnyH_ready (rs := [30]) (by kernel_rfl) (by simp) ?_
                  refine AllReadyH.cons rfl (fun K hK => ?_) AllReadyH.nil
                  try rw [if_pos (by rfl)]
                  go_simp
                  refine (hailPlays_any 6 (IntKind.i64.wrap (1 + (k : Int))) 6 (endsH.getD i 0) hS1.1.dh).mono ?_
                  rintro en u2 ⟨rfl, hb⟩
                  have hS2 := hS1.below hb
                  refine hK.out _ _ hS2 (fun _ => ?_)
                  clear hK K hb hS1
                  try simp only [Act.put, List.setIfInBounds_toArray, List.set_cons_zero, List.set_cons_succ]
                  refine takeD (i := 31) (v := .bool false) (some 138) rfl rfl (by kernel_rfl) (by kernel_rfl) (by kernel_rfl) (fun _ _ _ h => h) (Or.inl ⟨by rfl, ?_⟩) hS2 ?_
                  · rintro w' hq
                    go_simp
                  try simp only [Act.put, List.setIfInBounds_toArray, List.set_cons_zero, List.set_cons_succ]
                  refine takeD (i := 32) (v := .bool false) (some 139) rfl rfl (by kernel_rfl) (by kernel_rfl) (by kernel_rfl) (fun _ _ _ h => h) (Or.inl ⟨by rfl, ?_⟩) hS2 ?_
                  · rintro w' hq
                    go_simp
                  try simp only [Act.put, List.setIfInBounds_toArray, List.set_cons_zero, List.set_cons_succ]
                  refine takeD (i := 33) (v := .bool false) (some 140) rfl rfl (by kernel_rfl) (by kernel_rfl) (by kernel_rfl) (fun _ _ _ h => h) (Or.inl ⟨by rfl, ?_⟩) hS2 ?_
                  · rintro w' hq
                    go_simp
                  try simp only [Act.put, List.setIfInBounds_toArray, List.set_cons_zero, List.set_cons_succ]
                  refine takeD (i := 34) (v := .agg #[.int .i64 6, .int .i64 2]) (some 141) rfl rfl (by kernel_rfl) (by kernel_rfl) (by kernel_rfl) (fun _ _ _ h => h) (Or.inl ⟨by rfl, ?_⟩) hS2 ?_
                  · rintro w' hq
                    go_simp
                  try simp only [Act.put, List.setIfInBounds_toArray, List.set_cons_zero, List.set_cons_succ]
                  refine takeD (i := 35) (v := .slice (some ⟨ze, 0, none⟩) 10 10) (some 142) rfl rfl (by kernel_rfl) (by kernel_rfl) (by kernel_rfl) (fun _ _ _ h => h) (Or.inl ⟨by rfl, ?_⟩) hS2 ?_
                  · rintro w' hq
                    go_simp
                  try simp only [Act.put, List.setIfInBounds_toArray, List.set_cons_zero, List.set_cons_succ]
                  refine takeD (i := 36) (v := .int .i64 i) (some 143) rfl rfl (by kernel_rfl) (by kernel_rfl) (by kernel_rfl) (fun _ _ _ h => h) (Or.inl ⟨by rfl, ?_⟩) hS2 ?_
                  · rintro w' hq
                    go_simp
                  try simp only [Act.put, List.setIfInBounds_toArray, List.set_cons_zero, List.set_cons_succ]
                  refine takeD (i := 37) (v := .pointer (some ⟨ze, i, none⟩)) (some 144) rfl rfl (by kernel_rfl) (by kernel_rfl) (by kernel_rfl) (fun _ _ _ h => h) (Or.inl ⟨by rfl, ?_⟩) hS2 ?_
                  · rintro w' hq
                    go_simp
                  try simp only [Act.put, List.setIfInBounds_toArray, List.set_cons_zero, List.set_cons_succ]
                  refine takeD (i := 38) (v := .int .i64 (endsH.getD i 0)) (some 145) rfl rfl (by kernel_rfl) (by kernel_rfl) (by kernel_rfl) (fun _ _ _ h => h) (Or.inl ⟨by rfl, ?_⟩) hS2 ?_
                  · rintro w' hq
                    have x0 := hq.2.1.at_ HI.out.1
                    go_simp
                  try simp only [Act.put, List.setIfInBounds_toArray, List.set_cons_zero, List.set_cons_succ]
                  refine takeD (i := 39) (v := .agg #[.int .i64 (endsH.getD i 0), .int .i64 0]) (some 146) rfl rfl (by kernel_rfl) (by kernel_rfl) (by kernel_rfl) (fun _ _ _ h => h) (Or.inl ⟨by rfl, ?_⟩) hS2 ?_
                  · rintro w' hq
                    go_simp
                  try simp only [Act.put, List.setIfInBounds_toArray, List.set_cons_zero, List.set_cons_succ]
                  refine takeD (i := 40) (v := .slice A N cc) (some 147) rfl rfl (by kernel_rfl) (by kernel_rfl) (by kernel_rfl) (fun _ _ _ h => h) (Or.inl ⟨by rfl, ?_⟩) hS2 ?_
                  · rintro w' hq
                    go_simp
                  try simp only [Act.put, List.setIfInBounds_toArray, List.set_cons_zero, List.set_cons_succ]
                  refine wpAnyH_ready (rs := [41]) (by kernel_rfl) (by simp) ?_
                  refine AllReadyH.cons rfl (fun K hK => ?_) AllReadyH.nil
                  try rw [if_pos (by rfl)]
                  go_simp
                  refine (hailPlays_any 6 2 (endsH.getD i 0) 0 hS2.1.dh).mono ?_
                  rintro en u3 ⟨rfl, hb⟩
                  have hS3 := hS2.below hb
                  refine hK.out _ _ hS3 (fun _ => ?_)
                  clear hK K hb hS2
                  try simp only [Act.put, List.setIfInBounds_toArray, List.set_cons_zero, List.set_cons_succ]
                  refine takeD (i := 42) (v := .bool false) (some 149) rfl rfl (by kernel_rfl) (by kernel_rfl) (by kernel_rfl) (fun _ _ _ h => h) (Or.inl ⟨by rfl, ?_⟩) hS3 ?_
                  · rintro w' hq
                    go_simp
                  try simp only [Act.put, List.setIfInBounds_toArray, List.set_cons_zero, List.set_cons_succ]
                  refine takeD (i := 43) (v := .bool false) (some 150) rfl rfl (by kernel_rfl) (by kernel_rfl) (by kernel_rfl) (fun _ _ _ h => h) (Or.inl ⟨by rfl, ?_⟩) hS3 ?_
                  · rintro w' hq
                    go_simp
                  try simp only [Act.put, List.setIfInBounds_toArray, List.set_cons_zero, List.set_cons_succ]
                  refine wpAnyH_done (by kernel_rfl) ?_ _
                  have H1 := Kp.mk hS3
                  clear hS3
                  go_wp2_with fail
                  go_roundw
                  case rel => exact ⟨k + 1, by rw [HK.out.2.2], HK.out.2.1, H1⟩
                  case measure => exact measN HK.out.2.1
                · go_wp2_with fail
                  go_roundw
                  case rel => exact ⟨i + 1, by rw [HI.out.2], HI.out.1, HC⟩
                  case measure => exact measN HI.out.1
            · skip
              have HO := Kp.mk HC.out.2.2
              clear HC hi
              go_wp2_with fail
              refine (worksH_any _).mono ?_
              rintro en wq ⟨rfl, hbq⟩
              go_wp2_with fail
              go_ret
              exact ⟨rfl, HO.out.trans (hbq.mono HO.out.size)⟩
end Go.Proofs.Ytomjnpjabfnlbaa.Oct
