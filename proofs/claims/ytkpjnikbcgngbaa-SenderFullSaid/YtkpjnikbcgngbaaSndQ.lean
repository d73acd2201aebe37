/- Statements of layer 13 (sender): SenderFull, the walk. -/
import Derived.Test.YtkpjnikbcgngbaaSndL
namespace Go.Proofs.Ytkpjnikbcgngbaa.Oct
open Go.RowKit
set_option linter.unusedVariables false
set_option linter.unusedSimpArgs false
/-- So many messages wait. -/
def msF (i : Nat) : List (List Int) := List.replicate (min i 512) [1]
theorem msF_len (i : Nat) : (msF i).length = min i 512 := by simp [msF]
theorem msF_push (i : Nat) (h : i < 512) : msF i ++ [[1]] = msF (i + 1) := by
  unfold msF
  rw [show min i 512 = i by omega, show min (i + 1) 512 = i + 1 by omega, List.replicate_succ']
theorem msF_turn (i : Nat) (h : 512 ≤ i) : (msF i).drop 1 ++ [[1]] = msF (i + 1) := by
  unfold msF
  rw [show min i 512 = 512 by omega, show min (i + 1) 512 = 512 by omega, List.drop_replicate, ← List.replicate_succ']
/-- Behind i rounds. -/
def SF (W : World) (lo : Nat) (w : World) (s c wd : Nat) (i : Nat) : Prop := ∃ nx said, SS W lo w s c wd nx said i (msF i) ∧ said < wd
set_option maxRecDepth 100000 in
set_option maxHeartbeats 16000000 in
theorem senderFull_any (W : World) (a : Int) : Calls Try.prog 5 #[.int .i64 a] W fun e w' => e = .returned (.bool true) ∧ Below W.heap.size W w' := by
  obtain ⟨lo, hlo⟩ : ∃ lo, lo = W.heap.size := ⟨_, rfl⟩
  rw [← hlo]
  have HLO := Kp.mk hlo
  clear hlo
  have b1 := Ser.bringP_bd a 4 (by omega)
  have hA := fun w => Ser.bring_any a 4 w (by omega) (by omega)
  generalize Ser.bringP a 4 = x at *
  obtain ⟨wd, hwd⟩ : ∃ wd : Nat, (wd : Int) = 1 + x := ⟨(1 + x).toNat, by omega⟩
  have hw1 : IntKind.i64.wrap (1 + x) = (wd : Int) := by rw [IntKind.wrap_i64]; omega
  have HX := Kp.mk (show 1 ≤ wd ∧ wd ≤ 4 by omega)
  clear b1 hwd
  go_enter Try.func5, Try.ntmps5
  go_wp2_with fail
  refine (hA _).mono ?_
  rintro e w2 ⟨rfl, hw2⟩
  subst hw2
  clear hA
  go_wp2_with fail
  refine (ss_new W wd 7 (by have := HX.out; omega) (by omega) W (Below.refl lo W) (Nat.le_of_eq HLO.out)).mono ?_
  rintro e w3 ⟨s, c, rfl, hS⟩
  rw [Int.toNat_natCast] at hS
  have hS0 : SF W lo w3 s c wd 0 := ⟨7, 0, hS, by have := HX.out; omega⟩
  clear hS hw1
  go_wp2_with fail
  go_loopw [5] (fun s5 wr => ∃ i : Nat, s5 = .int .i64 i ∧ Kp (i ≤ 20000) ∧ SF W lo wr s c wd i) (fun s5 _ => 20000 - (intOf s5).toNat)
  case atStart => exact ⟨0, rfl, ⟨by omega⟩, hS0⟩
  case round =>
    clear hS0
    obtain ⟨i, rfl, hi, nx, said, hS, hsd⟩ := hrel
    have HSD := Kp.mk hsd
    clear hsd
    by_cases hlt : i < 20000
    · have hd0 : decide ((i : Int) < 20000) = true := decide_eq_true (by omega)
      have HI := Kp.mk hlt
      clear hlt
      by_cases h5 : i < 512
      · have hd1 : decide ((i : Int) < 512) = true := decide_eq_true (by omega)
        have hd2 : decide ((512 : Int) ≤ i) = false := decide_eq_false (by omega)
        have H5 := Kp.mk h5
        have hput := ss_put (hS.below (below_alloc wr (.cells #[.int .u8 1] 5))) (one_lit wr 1) (Nat.le_refl _) (by_one (by omega)) (by rw [msF_len]; unfold putSE; rw [if_neg (by omega), if_neg (by omega), if_neg (by omega)])
        clear hS h5
        go_wp2_with fail
        refine hput.mono ?_
        rintro e w4 ⟨rfl, hS4⟩
        rw [msF_push _ H5.out] at hS4
        have HS4 := Kp.mk hS4
        clear hput hS4
        go_wp2_with fail
        go_roundw
        case rel => exact ⟨i + 1, congrArg (Value.int .i64) (wrap_succ (by have := HI.out; omega)), ⟨by have := HI.out; omega⟩, nx, said, HS4.out, HSD.out⟩
        case measure => exact meas_lt (by have := HI.out; omega) (by have := HI.out; omega)
      · have hd1 : decide ((i : Int) < 512) = false := decide_eq_false (by omega)
        have hd2 : decide ((512 : Int) ≤ i) = true := decide_eq_true (by omega)
        have H5 := Kp.mk h5
        have hS4 := hS.below (below_alloc wr (.cells #[.int .u8 1] 5))
        have hput := ss_put_no hS4 (one_lit wr 1) (E := 7) (by have hi1 := HI.out; rw [msF_len]; unfold putSE; rw [if_neg (by omega), if_neg (by omega), if_pos (by omega)]) (by decide)
        clear hS h5
        go_wp2_with fail
        refine hput.mono ?_
        rintro e w4 ⟨rfl, hw4⟩
        replace hw4 := hw4.symm
        clear hput
        obtain ⟨t, ht⟩ : ∃ t, t = wd - said := ⟨_, rfl⟩
        have hfr := ss_fresh hS4 (k := t) (by rw [msF_len]; have := HSD.out; have := HX.out; have := H5.out; omega)
        rw [hw4] at hfr
        clear hw4 hS4
        have ht1 : ¬ (t : Int) < 1 := by have := HSD.out; omega
        have HT := Kp.mk ht
        clear ht
        go_wp2_with fail
        refine hfr.mono ?_
        rintro e w5 ⟨A5, m5, its, rfl, hI, hT, hS5⟩
        rw [show said + t = wd by have := HT.out; have := HSD.out; omega] at hS5
        clear hfr hI hT
        have hnx := hS5.nxb
        have hn := ss_next hS5
        have hb1 : IntKind.i64.wrap (nx + 1) = nx + 1 := by rw [IntKind.wrap_i64]; omega
        obtain ⟨ack, hak⟩ : ∃ ack, ack = (nx + 1) % 65536 := ⟨_, rfl⟩
        have htm : Int.tmod (nx + 1) 65536 = ack := by rw [hak]; exact Int.tmod_eq_emod_of_nonneg (by omega)
        have hack : ackP nx wd ack = (1 : Nat) := by
          have e : ((nx + 1) % 65536 - nx) % 65536 = 1 := by omega
          unfold ackP Ser.atP
          rw [if_pos (by omega), hak, e, if_pos (by have := HX.out; omega)]
          rfl
        have hh := ss_heard hS5 hack
        clear hnx hak hack hS5
        go_wp2_with (go_at_call 14; refine hn.mono ?_; rintro e u1 ⟨rfl, hu⟩; replace hu := hu.symm; subst hu)
        refine hh.mono ?_
        rintro e w6 ⟨rfl, hS6⟩
        clear hh hn hb1 htm
        have hput := ss_put (hS6.below (below_alloc w6 (.cells #[.int .u8 1] 5))) (one_lit w6 1) (Nat.le_refl _) (by_one (by omega)) (by
          have h1 := HI.out
          have h2 : ((msF i).drop 1).length = 511 := by rw [List.length_drop, msF_len]; have := H5.out; omega
          rw [h2]
          unfold putSE
          rw [if_neg (by omega), if_neg (by omega), if_neg (by omega)])
        clear hS6
        go_wp2_with fail
        refine hput.mono ?_
        rintro e w7 ⟨rfl, hS7⟩
        rw [msF_turn _ (by have := H5.out; omega)] at hS7
        have HS7 := Kp.mk hS7
        clear hput hS7
        go_wp2_with fail
        go_roundw
        case rel => exact ⟨i + 1, congrArg (Value.int .i64) (wrap_succ (by have := HI.out; omega)), ⟨by have := HI.out; omega⟩, ack, wd - 1, HS7.out, by have := HX.out; omega⟩
        case measure => exact meas_lt (by have := HI.out; omega) (by have := HI.out; omega)
    · have hd0 : decide ((i : Int) < 20000) = false := decide_eq_false (by omega)
      have hi2 : i = 20000 := by have := hi.out; omega
      have HI := Kp.mk hi2
      clear hlt hi2
      have hS4 := hS.below (below_alloc wr (.cells #[.int .u8 1] 5))
      have hput := ss_put_no hS4 (one_lit wr 1) (E := 5) (by rw [msF_len]; unfold putSE; rw [if_neg (by omega), if_pos (by have := HI.out; omega)]) (by decide)
      have hput2 := ss_put_no hS4 (Rd.nil .u8 _ 0) (E := 2) (by unfold putSE; rw [if_pos (by omega)]) (by decide)
      have HB := Kp.mk (And.intro hS4.bl hS4.sz)
      clear hS hS4
      go_wp2_with fail
      refine hput.mono ?_
      rintro e w4 ⟨rfl, hw4⟩
      subst hw4
      clear hput
      go_wp2_with fail
      refine hput2.mono ?_
      rintro e w5 ⟨rfl, hw5⟩
      subst hw5
      clear hput2
      go_wp2_with fail
      refine (sworks_any _).mono ?_
      rintro e w9 ⟨rfl, hb9⟩
      have HF := Kp.mk (HB.out.1.trans (hb9.mono HB.out.2))
      clear hb9
      go_wp2_with fail
      go_ret
      exact ⟨rfl, HF.out⟩
theorem senderFull_walk (a : Int) (W : World) (wf : (Lit.int .i64 a).wf = true) : Calls Try.prog 5 #[.int .i64 a] W fun e w' => e = .returned (.bool true) ∧ Below W.heap.size W w' := senderFull_any W a
end Go.Proofs.Ytkpjnikbcgngbaa.Oct
