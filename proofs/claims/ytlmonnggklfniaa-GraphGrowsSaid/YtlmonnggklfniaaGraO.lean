/- Contracts of layer 12 (graph): the document's Reach. -/
import Derived.Test.YtlmonnggklfniaaGraN
namespace Go.Proofs.Ytlmonnggklfniaa.Oct
open Go.RowKit
set_option linter.unusedVariables false
set_option linter.unusedSimpArgs false

theorem info_bool1 : (Try.prog.info? 4).map (fun i => (i.zero, i.size, i.bytes)) = some (some (.bool false), 1, 1) := by kernel_rfl
/-- Who is in, as cells. -/
def inC (T : Int → Bool) (m : Nat) : List Value := (List.range m).map fun (i : Nat) => .bool (T i)
theorem inC_at (T : Int → Bool) (m i : Nat) (h : i < m) : (inC T m)[i]? = some (.bool (T i)) := by
  unfold inC
  rw [List.getElem?_map, List.getElem?_range h]; rfl
theorem inC_set (T : Int → Bool) (m i : Nat) (h : i < m) : (inC T m).set i (.bool true) = inC (fun x => decide (x = (i : Int)) || T x) m := by
  apply List.ext_getElem?
  intro j
  rw [List.getElem?_set]
  by_cases hj : j < m
  · rw [inC_at _ _ _ hj, inC_at _ _ _ hj]
    by_cases e : i = j
    · subst e; simp [inC, h]
    · rw [if_neg e]
      have : ¬ (j : Int) = i := by omega
      simp [this]
  · have h1 : ∀ r, (inC r m)[j]? = none := fun r => List.getElem?_eq_none (by simp [inC]; omega)
    rw [h1, h1, if_neg (by omega)]
theorem inC_len (T : Int → Bool) (m : Nat) : (inC T m).length = m := by simp [inC]
theorem run_makeB (m : Nat) (hm : m ≤ 1000000) (w : World) : (Instr.makeSlice 36 (.int .i64 m) (.int .i64 m)).run Try.prog w = .ok (.slice (some ⟨w.heap.size, 0, none⟩) m m) (w.alloc (.cells (inC (fun _ => false) m).toArray 4)) := by
  obtain ⟨i0, hi, hz0, hz1, hz2⟩ := info_parts info_bool1
  have hr := run_make (P := Try.prog) w 36 4 i0 _ Try.underlying36 hi hz0 .i64 .i64 m m (by omega) (by omega) (by rw [hz2]; omega) (by omega)
  rw [hr, hz1]
  have e : madeCells (Value.bool false).cells m = (inC (fun _ => false) m).toArray := by
    apply Array.ext'
    rw [show (Value.bool false).cells = #[Value.bool false] from rfl, toList_madeCells_one]
    apply List.ext_getElem?
    intro j
    by_cases hj : j < m
    · rw [List.getElem?_replicate, if_pos hj]
      exact (inC_at (fun _ => false) m j hj).symm
    · rw [List.getElem?_replicate, if_neg hj]
      exact (List.getElem?_eq_none (by rw [inC_len]; omega)).symm
  rw [show ((m : Int).toNat * 1) = m by omega, show (m : Int).toNat = m by omega, e]
theorem round_zero (ls : List Lk) (up : List Bool) (s : Int) : (fun x => decide (x = s) || (fun _ => false) x) = roundP ls up s 0 := by
  funext x
  show (decide (x = s) || false) = decide (x = s)
  simp
theorem relax_yes {up : List Bool} {n : Nat} {l : Lk} {T : Int → Bool} (hu : upP up n = true) (h : T l.a = true ∨ T l.b = true) : relaxP up n l T = (fun x => decide (x = l.b) || (decide (x = l.a) || T x)) := by
  unfold relaxP; rw [if_pos ⟨hu, h⟩]
theorem relax_no {up : List Bool} {n : Nat} {l : Lk} {T : Int → Bool} (h : ¬ (upP up n = true ∧ (T l.a = true ∨ T l.b = true))) : relaxP up n l T = T := by
  unfold relaxP; rw [if_neg h]

set_option maxRecDepth 100000 in
set_option maxHeartbeats 4000000 in
theorem refReach_any {w : World} {B n c B2 n2 c2 : Nat} {A A2 : Option Addr} {ls : List Lk} {up : List Bool} (h : Lr w B A n c ls) (hB : B ≤ w.heap.size) (hu : Bl w B2 A2 n2 c2 up) (hB2 : B2 ≤ w.heap.size) (S s : Int) :
    Calls Try.prog 17 #[grV S A n c, .slice A2 n2 c2, .int .i64 s] w fun e w' => ∃ v, e = .returned v ∧ (∃ m, Oi w' w.heap.size v m (reachP S ls up s)) ∧ Below w.heap.size w w' := by
  have hb0 := below_alloc w (.cells #[.int .i64 S, .slice A n c] 24)
  have hc := refCheck_any (h.below' hb0 hB) (by simp; omega) S
  have hg0 : Vb 24 (w.alloc (.cells #[.int .i64 S, .slice A n c] 24)) w.heap.size [.int .i64 S, .slice A n c] := Vb.new 24 w [.int .i64 S, .slice A n c]
  have H := Kp.mk (And.intro h (And.intro hB (And.intro hu hB2)))
  have HB := Kp.mk (And.intro hb0 hg0)
  have hmax := h.max
  clear h hB hu hB2 hb0 hg0
  go_enter Try.func17, Try.ntmps17
  go_wp2_with fail
  refine hc.mono ?_
  rintro e w2 ⟨rfl, hb2⟩
  have hg2 := HB.out.2.below hb2 HB.out.2.lt
  have HB2 := Kp.mk (HB.out.1.trans (hb2.mono (by simp)))
  have g0 := hg2.cell 0 rfl
  have g1 := hg2.cell 1 rfl
  have HG2 := Kp.mk hg2
  clear hb2 hc hg2
  by_cases hG : Good S ls
  · rw [chk_good hG]
    by_cases hs1 : s < 1
    · have HR := Kp.mk (show reachP S ls up s = [] from reach_out up (by omega))
      clear hG
      go_wp2_with fail
      go_ret
      exact ⟨_, rfl, ⟨0, by rw [HR.out]; exact Oi.nil _ _⟩, HB2.out⟩
    · by_cases hs2 : S < s
      · have HR := Kp.mk (show reachP S ls up s = [] from reach_out up (by omega))
        clear hG
        go_wp2_with fail
        go_ret
        exact ⟨_, rfl, ⟨0, by rw [HR.out]; exact Oi.nil _ _⟩, HB2.out⟩
      · obtain ⟨Sn, rfl⟩ : ∃ k : Nat, S = k := ⟨S.toNat, by have := hG.1; omega⟩
        obtain ⟨sn, rfl⟩ : ∃ k : Nat, s = k := ⟨s.toNat, by omega⟩
        have hS6 : (Sn : Int) ≤ 6 := hG.1.2
        have hdd1 : decide ((sn : Int) < 1) = false := decide_eq_false hs1
        have hdd2 : decide (Sn < sn) = false := decide_eq_false (by omega)
        have hdd3 : decide ((Sn : Int) < (sn : Int)) = false := decide_eq_false hs2
        have hs3 : (sn : Int) < (Sn : Int) + 1 := by omega
        have HR := Kp.mk (show (upto Sn).filter (roundP ls up sn Sn) = reachP Sn ls up sn from by have := reach_doc (up := up) hG (s := (sn : Int)) (by omega); rwa [show (Sn : Int).toNat = Sn by omega] at this)
        have HGD := Kp.mk hG
        have hmk : (Instr.makeSlice 36 (.int .i64 ((Sn : Int) + 1)) (.int .i64 ((Sn : Int) + 1))).run Try.prog w2 = .ok (.slice (some ⟨w2.heap.size, 0, none⟩) (Sn + 1) (Sn + 1)) (w2.alloc (.cells (inC (fun _ => false) (Sn + 1)).toArray 4)) := by
          have := run_makeB (Sn + 1) (by omega) w2
          exact this
        clear hG
        go_upto_region 4 with fail
        clear hdd1 hdd2 hdd3
        have hv1 : Vb 4 (w2.alloc (.cells (inC (fun _ => false) (Sn + 1)).toArray 4)) w2.heap.size (inC (fun _ => false) (Sn + 1)) := Vb.new 4 w2 _
        have hg3 := HG2.out.alloc (.cells (inC (fun _ => false) (Sn + 1)).toArray 4)
        have hb3 := HB2.out.alloc HB2.out.size (.cells (inC (fun _ => false) (Sn + 1)).toArray 4)
        have hIN : w.heap.size < w2.heap.size := HG2.out.lt
        obtain ⟨IN, hin⟩ : ∃ x, x = w2.heap.size := ⟨_, rfl⟩
        rw [← hin] at hv1 hIN ⊢
        clear g0 g1 hmk hin HG2 HB2 HB
        generalize w2.alloc (.cells (inC (fun _ => false) (Sn + 1)).toArray 4) = w3 at *
        have d0 := hv1.cell sn (inC_at _ _ sn (by omega))
        have f0 := hv1.free sn
        have hv2 := hv1.set sn (.bool true)
        rw [inC_set _ _ sn (by omega), round_zero ls up sn] at hv2
        have hgs := grownBy_set w3 IN sn (.bool true)
        have hg4 := hg3.grown hgs (by omega)
        have hb4 := below_grown hb3 hgs hb3.size (by omega)
        have HV := Kp.mk (And.intro hv2 (And.intro hg4 hb4))
        have HIN := Kp.mk hIN
        clear hv1 hv2 hg3 hg4 hgs hb3 hb4 hIN
        go_wp2_with fail
        clear d0 f0
        go_loopw [8] (fun s8 wr => ∃ r : Nat, s8 = .int .i64 r ∧ r ≤ Sn ∧ Kp (Vb 4 wr IN (inC (roundP ls up sn r) (Sn + 1)) ∧ Vb 24 wr w.heap.size [.int .i64 Sn, .slice A n c] ∧ Below w.heap.size w wr)) (fun s8 _ => Sn - (intOf s8).toNat)
        case atStart => exact ⟨0, rfl, Nat.zero_le _, HV⟩
        case round =>
          clear HV
          obtain ⟨r, rfl, hr, HK⟩ := hrel
          have g0 := HK.out.2.1.cell 0 rfl
          by_cases hltr : r < Sn
          · have hltr2 : (r : Int) < Sn := by omega
            go_wp2_with fail
            clear g0
            go_loopw [9] (fun s9 wr => ∃ i : Nat, s9 = .int .i64 i ∧ i ≤ n ∧ Kp (Vb 4 wr IN (inC (passTo ls up (roundP ls up sn r) i) (Sn + 1)) ∧ Vb 24 wr w.heap.size [.int .i64 Sn, .slice A n c] ∧ Below w.heap.size w wr)) (fun s9 _ => n - (intOf s9).toNat)
            case atStart => exact ⟨0, rfl, Nat.zero_le _, HK⟩
            case round =>
              clear HK
              obtain ⟨i, rfl, hi, HK⟩ := hrel
              obtain ⟨hV, hg, hb⟩ := HK.out
              have g1 := hg.cell 1 rfl
              by_cases hlt : i < n
              · have hlti : (i : Int) < n := by omega
                obtain ⟨l, hl⟩ : ∃ l, ls[i]? = some l := ⟨_, List.getElem?_eq_getElem (by have := H.out.1.len; omega)⟩
                obtain ⟨b1, o1, hA1, hb1lt, fl⟩ := (H.out.1.below' hb H.out.2.1).at_ (by omega)
                subst hA1
                obtain ⟨d0, d1, d2, d3⟩ := fl i l hl
                have hol := HGD.out.2.1 l (List.mem_of_getElem? hl)
                obtain ⟨la, lp, lb, lq⟩ := l
                have ho1 := (endOk_iff.1 hol.1).1
                have ho2 := (endOk_iff.1 hol.2.1).1
                dsimp only [Lk.A, Lk.B] at d0 d1 d2 d3 ho1 ho2
                obtain ⟨an, rfl⟩ : ∃ k : Nat, la = k := ⟨la.toNat, by omega⟩
                obtain ⟨bn, rfl⟩ : ∃ k : Nat, lb = k := ⟨lb.toNat, by omega⟩
                have ha7 : (an : Int) < (Sn : Int) + 1 := by omega
                have hb7 : (bn : Int) < (Sn : Int) + 1 := by omega
                have HP := Kp.mk (pass_step (up := up) (T := roundP ls up sn r) hl)
                have HV := Kp.mk (And.intro hV (And.intro hg hb))
                have HAB := Kp.mk (show an < Sn + 1 ∧ bn < Sn + 1 from ⟨by omega, by omega⟩)
                clear hV hg hb fl hl hol ho1 ho2 HK
                generalize hT : passTo ls up (roundP ls up sn r) i = T at *
                have HT := Kp.mk hT
                clear hT
                go_wp2_with fail
                go_quiet (fail)
                go_upto_region 12 with fail
                clear d0 d1 d2 d3 g1
                have HVd := Kp.mk (show Vb 4 (wr.drewN nq) IN (inC T (Sn + 1)) ∧ Vb 24 (wr.drewN nq) w.heap.size [.int .i64 Sn, .slice (some ⟨b1, o1, none⟩) n c] ∧ Below w.heap.size w (wr.drewN nq) from ⟨HV.out.1, HV.out.2.1, below_drewN HV.out.2.2 nq⟩)
                clear HV
                generalize wr.drewN nq = wd at *
                have hcU := refUp_any ((H.out.2.2.1).below (HVd.out.2.2.mono H.out.2.2.2)) i
                have t0 := HVd.out.1.cell an (inC_at _ _ an HAB.out.1)
                have t1 := HVd.out.1.cell bn (inC_at _ _ bn HAB.out.2)
                have f0 := HVd.out.1.free an
                have f1 := HVd.out.1.free bn
                cases hu : upP up i with
                | false =>
                  rw [hu] at hcU
                  have HP2 := Kp.mk (show passTo ls up (roundP ls up sn r) (i + 1) = T by rw [HP.out]; exact relax_no (fun h => by rw [hu] at h; cases h.1))
                  clear hu
                  clear t0 t1 f0 f1
                  go_wp2_with (refine hcU.mono ?_; rintro e w' ⟨rfl, hw'⟩; rw [hw']; clear hw' w')
                  go_roundw
                  case rel => exact ⟨i + 1, by go_num, by omega, Kp.mk ⟨by rw [HP2.out]; exact HVd.out.1, HVd.out.2.1, HVd.out.2.2⟩⟩
                  case measure => simp [intOf]; omega
                | true =>
                  rw [hu] at hcU
                  cases ha : T an with
                  | true =>
                    rw [ha] at t0
                    have HP2 := Kp.mk (show passTo ls up (roundP ls up sn r) (i + 1) = (fun x => decide (x = (bn : Int)) || (decide (x = (an : Int)) || T x)) by rw [HP.out]; exact relax_yes hu (.inl ha))
                    clear hu ha
                    have hV2 := HVd.out.1.set an (.bool true)
                    rw [inC_set _ _ an HAB.out.1] at hV2
                    have hg2 := HVd.out.2.1.grown (grownBy_set wd IN an (.bool true)) (by have := HIN.out; omega)
                    have hb2 := below_grown HVd.out.2.2 (grownBy_set wd IN an (.bool true)) HVd.out.2.2.size (by have := HIN.out; omega)
                    go_upto_region 14 with (refine hcU.mono ?_; rintro e w' ⟨rfl, hw'⟩; rw [hw']; clear hw' w')
                    clear t0 t1 f0 f1 hcU
                    generalize wd.setCell ⟨IN, an, none⟩ (.bool true) = we at *
                    have t2 := hV2.cell bn (inC_at _ _ bn HAB.out.2)
                    have f2 := hV2.free bn
                    have hV3 := hV2.set bn (.bool true)
                    rw [inC_set _ _ bn HAB.out.2] at hV3
                    have hg3 := hg2.grown (grownBy_set we IN bn (.bool true)) (by have := HIN.out; omega)
                    have hb3 := below_grown hb2 (grownBy_set we IN bn (.bool true)) hb2.size (by have := HIN.out; omega)
                    have HF := Kp.mk (And.intro hV3 (And.intro hg3 hb3))
                    clear hV2 hV3 hg2 hg3 hb2 hb3
                    go_wp2_with fail
                    go_roundw
                    case rel => exact ⟨i + 1, by go_num, by omega, Kp.mk ⟨by rw [HP2.out]; exact HF.out.1, HF.out.2.1, HF.out.2.2⟩⟩
                    case measure => simp [intOf]; omega
                  | false =>
                    rw [ha] at t0
                    cases hb : T bn with
                    | true =>
                      rw [hb] at t1
                      have HP2 := Kp.mk (show passTo ls up (roundP ls up sn r) (i + 1) = (fun x => decide (x = (bn : Int)) || (decide (x = (an : Int)) || T x)) by rw [HP.out]; exact relax_yes hu (.inr hb))
                      clear hu ha hb
                      have hV2 := HVd.out.1.set an (.bool true)
                      rw [inC_set _ _ an HAB.out.1] at hV2
                      have hg2 := HVd.out.2.1.grown (grownBy_set wd IN an (.bool true)) (by have := HIN.out; omega)
                      have hb2 := below_grown HVd.out.2.2 (grownBy_set wd IN an (.bool true)) HVd.out.2.2.size (by have := HIN.out; omega)
                      go_upto_region 14 with (refine hcU.mono ?_; rintro e w' ⟨rfl, hw'⟩; rw [hw']; clear hw' w')
                      clear t0 t1 f0 f1 hcU
                      generalize wd.setCell ⟨IN, an, none⟩ (.bool true) = we at *
                      have t2 := hV2.cell bn (inC_at _ _ bn HAB.out.2)
                      have f2 := hV2.free bn
                      have hV3 := hV2.set bn (.bool true)
                      rw [inC_set _ _ bn HAB.out.2] at hV3
                      have hg3 := hg2.grown (grownBy_set we IN bn (.bool true)) (by have := HIN.out; omega)
                      have hb3 := below_grown hb2 (grownBy_set we IN bn (.bool true)) hb2.size (by have := HIN.out; omega)
                      have HF := Kp.mk (And.intro hV3 (And.intro hg3 hb3))
                      clear hV2 hV3 hg2 hg3 hb2 hb3
                      go_wp2_with fail
                      go_roundw
                      case rel => exact ⟨i + 1, by go_num, by omega, Kp.mk ⟨by rw [HP2.out]; exact HF.out.1, HF.out.2.1, HF.out.2.2⟩⟩
                      case measure => simp [intOf]; omega
                    | false =>
                      rw [hb] at t1
                      have HP2 := Kp.mk (show passTo ls up (roundP ls up sn r) (i + 1) = T by rw [HP.out]; exact relax_no (fun h => by rcases h.2 with h | h <;> (dsimp only at h; first | (rw [ha] at h; cases h) | (rw [hb] at h; cases h))))
                      clear hu ha hb
                      clear f0 f1
                      go_wp2_with (refine hcU.mono ?_; rintro e w' ⟨rfl, hw'⟩; rw [hw']; clear hw' w')
                      go_roundw
                      case rel => exact ⟨i + 1, by go_num, by omega, Kp.mk ⟨by rw [HP2.out]; exact HVd.out.1, HVd.out.2.1, HVd.out.2.2⟩⟩
                      case measure => simp [intOf]; omega
              · obtain rfl : i = n := by omega
                have hlti : ¬ (i : Int) < i := by omega
                have HE := Kp.mk (show passTo ls up (roundP ls up sn r) i = roundP ls up sn (r + 1) by rw [show i = ls.length from (H.out.1.len).symm]; rfl)
                have HV := Kp.mk (And.intro hV (And.intro hg hb))
                clear hV hg hb HK
                go_wp2_with fail
                go_roundw
                case rel => exact ⟨r + 1, by go_num, by omega, Kp.mk ⟨by rw [← HE.out]; exact HV.out.1, HV.out.2.1, HV.out.2.2⟩⟩
                case measure => simp [intOf]; omega
          · obtain rfl : r = Sn := by omega
            have hltr2 : ¬ (r : Int) < r := by omega
            go_wp2_with fail
            clear g0
            go_loopw [12, 13] (fun s12 s13 wr => ∃ (k q : Nat), s13 = .int .i64 ((k : Int) + 1) ∧ k ≤ r ∧ Kp (Oi wr w.heap.size s12 q ((upto k).filter (roundP ls up sn r)) ∧ Vb 4 wr IN (inC (roundP ls up sn r) (r + 1)) ∧ Vb 24 wr w.heap.size [.int .i64 r, .slice A n c] ∧ Below w.heap.size w wr)) (fun _ s13 _ => (r + 1) - (intOf s13).toNat)
            case atStart => exact ⟨0, 0, rfl, Nat.zero_le _, Kp.mk ⟨Oi.nil _ _, HK.out.1, HK.out.2.1, HK.out.2.2⟩⟩
            case round =>
              clear HK
              obtain ⟨k, q, rfl, hk, HK⟩ := hrel
              obtain ⟨hO, hV, hg, hb⟩ := HK.out
              have g0 := hg.cell 0 rfl
              by_cases hlt : k < r
              · have hk1 : (k : Int) + 1 ≤ r := by omega
                have hk2 : (k : Int) + 1 < (r : Int) + 1 := by omega
                have d0 := hV.cell (k + 1) (inC_at _ _ (k + 1) (by omega))
                have HQ := Kp.mk (show q ≤ 1000 by
                  have h1 := hO.len
                  have h2 := List.length_filter_le (roundP ls up sn r) (upto k)
                  rw [upto_len] at h2
                  omega)
                have HC := Kp.mk (And.intro hO (And.intro hV (And.intro hg hb)))
                cases ht : roundP ls up sn r ((k : Int) + 1) with
                | false =>
                  have ht' : roundP ls up sn r ((k + 1 : Nat) : Int) = false := ht
                  rw [ht'] at d0
                  have HS := Kp.mk (filt_no k ht)
                  clear ht ht' hO hV hg hb HK
                  go_wp2_with fail
                  go_roundw
                  case rel => exact ⟨k + 1, q, by go_num, by omega, Kp.mk ⟨by have := HC.out.1; rw [← HS.out] at this; exact this, HC.out.2.1, HC.out.2.2.1, HC.out.2.2.2⟩⟩
                  case measure => simp [intOf]; omega
                | true =>
                  have ht' : roundP ls up sn r ((k + 1 : Nat) : Int) = true := ht
                  rw [ht'] at d0
                  have HS := Kp.mk (filt_yes k ht)
                  clear ht ht' HK
                  obtain ⟨A7, c7, w7, hrun, hO7, hb7, hg7, hN7⟩ := app1 29 hO hb.size HQ.out ((k : Int) + 1)
                  have hV7 := oi_vbg hO hV (by decide) hg7
                  have hgg7 := oi_vbg hO hg (by decide) hg7
                  have HD := Kp.mk (And.intro hO7 (And.intro hV7 (And.intro hgg7 (hb.trans hb7))))
                  clear hO hV hg hb hO7 hb7 hg7 hN7 hV7 hgg7
                  go_wp2_with (at_builtin; refine Lib.wpList_append_run _ rfl _ _ _ _ rfl _ _ rfl rfl _ _ hrun ?_)
                  go_roundw
                  case rel => exact ⟨k + 1, q + 1, by go_num, by omega, Kp.mk ⟨by have := HD.out.1; rw [← HS.out] at this; exact this, HD.out.2.1, HD.out.2.2.1, HD.out.2.2.2⟩⟩
                  case measure => simp [intOf]; omega
              · obtain rfl : k = r := by omega
                have hk1 : ¬ (k : Int) + 1 ≤ k := by omega
                have HC := Kp.mk (And.intro hO hb)
                clear hO hV hg hb HK
                go_wp2_with fail
                go_ret
                exact ⟨_, rfl, ⟨q, by rw [← HR.out]; exact HC.out.1⟩, HC.out.2⟩
  · rw [chk_bad hG]
    have HR := Kp.mk (show reachP S ls up s = [] from reach_bad hG up s)
    clear hG
    go_wp2_with fail
    go_ret
    exact ⟨_, rfl, ⟨0, by rw [HR.out]; exact Oi.nil _ _⟩, HB2.out⟩
end Go.Proofs.Ytlmonnggklfniaa.Oct
