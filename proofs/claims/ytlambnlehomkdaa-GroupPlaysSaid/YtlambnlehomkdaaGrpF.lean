/- The walk of GroupPlays. -/
import Derived.Test.YtlambnlehomkdaaGrpE
import Derived.Test.YtlambnlehomkdaaGrpX
import Derived.Deep.CutRange
namespace Go.Proofs.Ytlambnlehomkdaa.Oct
open Go.RowKit
set_option linter.unusedVariables false
set_option linter.unusedSimpArgs false

theorem Rd.fore {k : IntKind} {w : World} {B n c : Nat} {A : Option Addr} {l : List Int} (h : Rd k w B A n c l) (m : Nat) (hm : m ≤ n) : Rd k w B A m c (l.take m) :=
  ⟨by rw [List.length_take, h.len]; omega, by have := h.le; omega, h.cap, h.2.2.2.1, fun hn => by
    obtain ⟨b, off, e, hb, hc⟩ := h.at_ (by omega)
    refine ⟨b, off, e, hb, fun j hj => ?_⟩
    rw [hc j (by omega), List.getD_eq_getElem?_getD, List.getD_eq_getElem?_getD, List.getElem?_take_of_lt hj]⟩
set_option maxRecDepth 100000 in
set_option maxHeartbeats 16000000 in
theorem groupPlays_any {w : World} {A : Option Addr} {n c : Nat} {ls : List Int} {A2 : Option Addr} {n2 c2 : Nat} {ds : List (Int × Bool)} (h : Rd .i64 w w.heap.size A n c ls) (h2 : Dp w w.heap.size A2 n2 c2 ds) : Calls Try.prog 8 #[.slice A n c, .slice A2 n2 c2] w fun e w' => e = .returned (.bool true) ∧ Below w.heap.size w w' := by
  have hle := h.le
  have hm := h.max
  have hm2 := h2.max
  obtain ⟨N, hN⟩ : ∃ N, N = min n 10 := ⟨_, rfl⟩
  have HN := Kp.mk hN
  have hr := h.fore N (by omega)
  have HD := Kp.mk h2
  have HAC := Kp.mk h.2.2.2.1
  generalize ls.take N = l at *
  clear h h2 hN
  have HR := Kp.mk hr
  clear hr
  go_enter Try.func8, Try.ntmps8
  go_upto_region 1 with fail
  go_cut [0] from 19 to 23 (fun v wx => v = .slice A N c ∧ wx = w)
  case first =>
    by_cases hn : (n : Int) < 10
    · obtain rfl : N = n := by have := HN.out; omega
      clear HN
      rcases A with _ | a
      · obtain rfl := HAC.out rfl
        obtain rfl : N = 0 := by omega
        go_wp2_with fail
        go_meet
        case rel => exact ⟨rfl, rfl⟩
      · obtain ⟨b, off, _ | spot⟩ := a
        · go_wp2_with fail
          go_meet
          case rel => exact ⟨rfl, rfl⟩
        · go_wp2_with fail
          go_meet
          case rel => exact ⟨rfl, rfl⟩
    · obtain rfl : N = 10 := by have := HN.out; omega
      clear HN
      obtain ⟨b, off, rfl, _⟩ := HR.out.at_ (by omega)
      by_cases hn2 : n = 10
      · subst hn2
        clear hn
        go_wp2_with fail
        go_meet
        case rel => exact ⟨rfl, rfl⟩
      · have hn3 : (10 : Int) < n := by omega
        clear hn hn2
        go_wp2_with fail
        go_meet
        case rel => exact ⟨rfl, rfl⟩
  obtain ⟨rfl, hwc⟩ := hcut
  subst hwc
  have hN10 : N ≤ 10 := by have := HN.out; omega
  clear HN HAC hle
  go_wp2_with fail
  refine (copyInts_any HR.out (by omega)).mono ?_
  rintro e w1 ⟨Ai, ci, rfl, hO, hb1⟩
  have hIB := Kp.mk (fun k (hk : (Value.slice Ai N ci).ownBlock = some k) => hO.lt k hk)
  go_wp2_with fail
  refine (gnew_any hO.rd (Nat.le_refl _) (by omega)).mono ?_
  have hw1s := Kp.mk hb1.size
  rintro e w2 ⟨hb2, ⟨hnw, rfl⟩ | ⟨s, g, hnw, rfl, hG⟩⟩
  · skip
    replace hO := hO.below hb2
    have hB2 := hb1.trans (hb2.mono hb1.size)
    have hr2 := HR.out.below hB2
    have hb2s := Kp.mk hb2.size
    go_wp2_with fail
    refine (mnew_any hr2 hB2.size (by omega)).mono ?_
    rintro e w3 ⟨hb3, ⟨hnw2, rfl⟩ | ⟨s2, m, hnw2, rfl, hM⟩⟩
    rotate_left
    · rw [hnw] at hnw2; simp at hnw2
    replace hO := hO.below hb3
    have hB := hB2.trans (hb3.mono hB2.size)
    have hr3 := hr2.below (hb3.mono hB2.size)
    have hb3s := Kp.mk hb3.size
    clear hnw hnw2 hb1 hb2 hb3 hB2 hr2
    go_wp2_with fail
    refine (eqInts_any hO.rd hr3 (Nat.le_refl _) hB.size).mono ?_
    rintro e w4 ⟨rfl, hb4⟩
    rw [decide_eq_true (rfl : l = l)]
    replace hO := hO.below hb4
    replace hB := hB.trans (hb4.mono hB.size)
    clear hr3 hb4
    go_wp2_with fail
    go_loopw [10] (fun s10 wr => ∃ (k : Nat) (l' : List Int), s10 = .int .i64 k ∧ k ≤ N ∧ Oi wr wc.heap.size (.slice Ai N ci) N l' ∧ Below wc.heap.size wc wr) (fun s10 _ => N - (intOf s10).toNat)
    case atStart => exact ⟨0, l, rfl, Nat.zero_le _, hO, hB⟩
    case round =>
      clear hO hB
      obtain ⟨k, l', rfl, hk, hO, hB⟩ := hrel
      by_cases hlt : k < N
      · obtain ⟨gi, cj, hv, hgi, hgi2, _, _, hc⟩ := hO.at_ (by omega)
        injection hv with ha _ hcj
        subst ha hcj
        obtain ⟨d1, d2⟩ := hc k hlt
        have j1 : (k : Int) < N := by omega
        have hgl := (hIB.out gi rfl).2
        have hO2 := Kp.mk (hO.set k 9)
        have hg2 := grownBy_set wr gi k (.int .i64 9)
        have hB2 := Kp.mk (hB.grown hg2 hB.size (fun x e => by have e := Option.some.inj e; omega))
        clear hO hB hg2 hc hgi hgi2 hgl
        go_wp2_with fail
        go_roundw
        case rel => exact ⟨k + 1, _, by go_num, by omega, hO2.out, hB2.out⟩
        case measure => simp [intOf]; omega
      obtain rfl : k = N := by omega
      clear hO
      go_wp2_with fail
      go_loopw [11] (fun s11 wx => s11 = .int .i64 0 ∧ Below wc.heap.size wc wx) (fun _ _ => 0)
      case atStart => exact ⟨rfl, hB⟩
      case round =>
        clear hB
        obtain ⟨rfl, hB⟩ := hrel
        by_cases hn0 : (0 : Int) < n2
        · go_wp2_with fail
          refine (gworks_any _).mono ?_
          rintro e w5 ⟨rfl, hb⟩
          go_wp2_with fail
          go_ret
          exact ⟨rfl, hB.trans (hb.mono hB.size)⟩
        · go_wp2_with fail
          refine (gworks_any _).mono ?_
          rintro e w5 ⟨rfl, hb⟩
          go_wp2_with fail
          go_ret
          exact ⟨rfl, hB.trans (hb.mono hB.size)⟩
  · skip
    replace hO := hO.below hb2
    have hB2 := hb1.trans (hb2.mono hb1.size)
    have hr2 := HR.out.below hB2
    have hb2s := Kp.mk hb2.size
    go_wp2_with fail
    refine (mnew_any hr2 hB2.size (by omega)).mono ?_
    rintro e w3 ⟨hb3, ⟨hnw2, rfl⟩ | ⟨s2, m, hnw2, rfl, hM⟩⟩
    · rw [hnw] at hnw2; simp at hnw2
    replace hO := hO.below hb3
    have hB := hB2.trans (hb3.mono hB2.size)
    have hr3 := hr2.below (hb3.mono hB2.size)
    have hb3s := Kp.mk hb3.size
    obtain rfl : s = s2 := by rw [hnw] at hnw2; exact Option.some.inj hnw2
    replace hG := hG.below' hb3 (Nat.le_refl _)
    clear hnw hnw2 hb1 hb2 hb3 hB2 hr2
    go_wp2_with fail
    refine (eqInts_any hO.rd hr3 (Nat.le_refl _) hB.size).mono ?_
    rintro e w4 ⟨rfl, hb4⟩
    rw [decide_eq_true (rfl : l = l)]
    replace hO := hO.below hb4
    replace hG := hG.below' hb4 hG.lt.2.2
    replace hM := hM.below' hb4 (Nat.le_refl _)
    replace hB := hB.trans (hb4.mono hB.size)
    clear hr3 hb4
    go_wp2_with fail
    go_loopw [10] (fun s10 wr => ∃ (k : Nat) (l' : List Int), s10 = .int .i64 k ∧ k ≤ N ∧ Oi wr wc.heap.size (.slice Ai N ci) N l' ∧ Below wc.heap.size wc wr ∧ Gb wr w1.heap.size w2.heap.size g l s ∧ Gm wr w2.heap.size w3.heap.size m l s) (fun s10 _ => N - (intOf s10).toNat)
    case atStart => exact ⟨0, l, rfl, Nat.zero_le _, hO, hB, hG, hM⟩
    case round =>
      clear hO hB hG hM
      obtain ⟨k, l', rfl, hk, hO, hB, hG, hM⟩ := hrel
      by_cases hlt : k < N
      · obtain ⟨gi, cj, hv, hgi, hgi2, _, _, hc⟩ := hO.at_ (by omega)
        injection hv with ha _ hcj
        subst ha hcj
        obtain ⟨d1, d2⟩ := hc k hlt
        have j1 : (k : Int) < N := by omega
        have hgl := (hIB.out gi rfl).2
        have hO2 := Kp.mk (hO.set k 9)
        have hg2 := grownBy_set wr gi k (.int .i64 9)
        have hB2 := Kp.mk (hB.grown hg2 hB.size (fun x e => by have e := Option.some.inj e; omega))
        have hG2 := Kp.mk (hG.other hg2 hgl)
        have hM2 := Kp.mk (hM.other hg2 (Nat.lt_of_lt_of_le hgl hb2s.out))
        clear hO hB hg2 hc hG hM hgi hgi2 hgl
        go_wp2_with fail
        go_roundw
        case rel => exact ⟨k + 1, _, by go_num, by omega, hO2.out, hB2.out, hG2.out, hM2.out⟩
        case measure => simp [intOf]; omega
      obtain rfl : k = N := by omega
      clear hO
      have HLO := Kp.mk (show wc.heap.size ≤ w1.heap.size ∧ w1.heap.size ≤ w2.heap.size ∧ w2.heap.size ≤ w3.heap.size from ⟨hw1s.out, hb2s.out, hb3s.out⟩)
      clear hIB hb2s hb3s
      generalize w1.heap.size = lo1 at *
      generalize w2.heap.size = lo2 at *
      generalize w3.heap.size = lo3 at *
      have hl10 := Kp.mk (show l.length = k from HR.out.len)
      clear HR
      generalize wr = w5 at *
      go_wp2_with fail
      go_loopw [11] (fun s11 wr => ∃ (i : Nat) (s : Int), s11 = .int .i64 i ∧ i ≤ n2 ∧ i ≤ 100 ∧ Gb wr lo1 lo2 g l s ∧ Gm wr lo2 lo3 m l s ∧ Below wc.heap.size wc wr) (fun s11 _ => 100 - (intOf s11).toNat)
      case atStart => exact ⟨0, s, rfl, Nat.zero_le _, Nat.zero_le _, hG, hM, hB⟩
      case round =>
        clear hG hM hB
        obtain ⟨i, s, rfl, hi1, hi2, hG, hM, hB⟩ := hrel
        by_cases hgo : (i : Int) < n2 ∧ (i : Int) < 100
        · obtain ⟨j1, j2⟩ := hgo
          have HD2 := HD.out.below hB
          obtain ⟨b, off, eA, hbl, hcc⟩ := HD2.2.2.2.2 (by omega)
          subst eA
          obtain ⟨⟨dp, du⟩, hd⟩ : ∃ d, ds[i]? = some d := ⟨_, List.getElem?_eq_getElem (by have := HD2.1; omega)⟩
          obtain ⟨c1, c2⟩ := hcc i _ hd
          have HBL := Kp.mk hbl
          clear hcc hd hbl HD2
          go_upto_region 14 with fail
          have hbd0 := (Below.refl wr.heap.size wr).drew
          have hS0 : (fun W => W.cell? ⟨b, off + i * 2, none⟩ = some (.int .i64 dp) ∧ W.cell? ⟨b, off + i * 2 + 1, none⟩ = some (.bool du)) wr.drew := ⟨c1, c2⟩
          replace hG := hG.below' hbd0 hG.lt.2.2
          replace hM := hM.below' hbd0 hM.lt.2.2
          replace hB := hB.trans (hbd0.mono hB.size)
          refine wp_region_held_drew (S := fun W => W.cell? ⟨b, off + i * 2, none⟩ = some (.int .i64 dp) ∧ W.cell? ⟨b, off + i * 2 + 1, none⟩ = some (.bool du)) (by kernel_rfl) hS0 (fun _ => ?_)
          clear c1 c2 hbd0
          generalize wr.drew = u0 at *
          refine takeD (i := 0) (v := .pointer (some ⟨g, 0, none⟩)) (some 75) rfl rfl (by kernel_rfl) (by kernel_rfl) (by kernel_rfl) (fun _ _ _ h => h) (Or.inl ⟨by rfl, ?_⟩) hS0 ?_
          · rintro w' _
            go_simp
          try simp only [Act.put, List.setIfInBounds_toArray, List.set_cons_zero, List.set_cons_succ]
          refine takeD (i := 1) (v := .slice (some ⟨b, off, none⟩) n2 c2) (some 76) rfl rfl (by kernel_rfl) (by kernel_rfl) (by kernel_rfl) (fun _ _ _ h => h) (Or.inl ⟨by rfl, ?_⟩) hS0 ?_
          · rintro w' _
            go_simp
          try simp only [Act.put, List.setIfInBounds_toArray, List.set_cons_zero, List.set_cons_succ]
          refine takeD (i := 2) (v := .int .i64 i) (some 77) rfl rfl (by kernel_rfl) (by kernel_rfl) (by kernel_rfl) (fun _ _ _ h => h) (Or.inl ⟨by rfl, ?_⟩) hS0 ?_
          · rintro w' _
            go_simp
          try simp only [Act.put, List.setIfInBounds_toArray, List.set_cons_zero, List.set_cons_succ]
          refine takeD (i := 3) (v := .pointer (some ⟨b, off + i * 2, none⟩)) (some 78) rfl rfl (by kernel_rfl) (by kernel_rfl) (by kernel_rfl) (fun _ _ _ h => h) (Or.inl ⟨by rfl, ?_⟩) hS0 ?_
          · rintro w' _
            go_simp
          try simp only [Act.put, List.setIfInBounds_toArray, List.set_cons_zero, List.set_cons_succ]
          refine takeD (i := 4) (v := .pointer (some ⟨b, off + i * 2, none⟩)) (some 79) rfl rfl (by kernel_rfl) (by kernel_rfl) (by kernel_rfl) (fun _ _ _ h => h) (Or.inl ⟨by rfl, ?_⟩) hS0 ?_
          · rintro w' _
            go_simp
          try simp only [Act.put, List.setIfInBounds_toArray, List.set_cons_zero, List.set_cons_succ]
          refine takeD (i := 5) (v := .int .i64 dp) (some 80) rfl rfl (by kernel_rfl) (by kernel_rfl) (by kernel_rfl) (fun _ _ _ h => h) (Or.inl ⟨by rfl, ?_⟩) hS0 ?_
          · rintro w' ⟨s0, _⟩
            go_simp
          try simp only [Act.put, List.setIfInBounds_toArray, List.set_cons_zero, List.set_cons_succ]
          refine takeD (i := 6) (v := .slice (some ⟨b, off, none⟩) n2 c2) (some 81) rfl rfl (by kernel_rfl) (by kernel_rfl) (by kernel_rfl) (fun _ _ _ h => h) (Or.inl ⟨by rfl, ?_⟩) hS0 ?_
          · rintro w' _
            go_simp
          try simp only [Act.put, List.setIfInBounds_toArray, List.set_cons_zero, List.set_cons_succ]
          refine takeD (i := 7) (v := .int .i64 i) (some 82) rfl rfl (by kernel_rfl) (by kernel_rfl) (by kernel_rfl) (fun _ _ _ h => h) (Or.inl ⟨by rfl, ?_⟩) hS0 ?_
          · rintro w' _
            go_simp
          try simp only [Act.put, List.setIfInBounds_toArray, List.set_cons_zero, List.set_cons_succ]
          refine takeD (i := 8) (v := .pointer (some ⟨b, off + i * 2, none⟩)) (some 83) rfl rfl (by kernel_rfl) (by kernel_rfl) (by kernel_rfl) (fun _ _ _ h => h) (Or.inl ⟨by rfl, ?_⟩) hS0 ?_
          · rintro w' _
            go_simp
          try simp only [Act.put, List.setIfInBounds_toArray, List.set_cons_zero, List.set_cons_succ]
          refine takeD (i := 9) (v := .pointer (some ⟨b, off + i * 2 + 1, none⟩)) (some 84) rfl rfl (by kernel_rfl) (by kernel_rfl) (by kernel_rfl) (fun _ _ _ h => h) (Or.inl ⟨by rfl, ?_⟩) hS0 ?_
          · rintro w' _
            go_simp
          try simp only [Act.put, List.setIfInBounds_toArray, List.set_cons_zero, List.set_cons_succ]
          refine takeD (i := 10) (v := .bool du) (some 85) rfl rfl (by kernel_rfl) (by kernel_rfl) (by kernel_rfl) (fun _ _ _ h => h) (Or.inl ⟨by rfl, ?_⟩) hS0 ?_
          · rintro w' ⟨_, s0⟩
            go_simp
          try simp only [Act.put, List.setIfInBounds_toArray, List.set_cons_zero, List.set_cons_succ]
          refine takeD (i := 12) (v := .pointer (some ⟨m, 0, none⟩)) (some 87) rfl rfl (by kernel_rfl) (by kernel_rfl) (by kernel_rfl) (fun _ _ _ h => h) (Or.inl ⟨by rfl, ?_⟩) hS0 ?_
          · rintro w' _
            go_simp
          try simp only [Act.put, List.setIfInBounds_toArray, List.set_cons_zero, List.set_cons_succ]
          refine takeD (i := 13) (v := .slice (some ⟨b, off, none⟩) n2 c2) (some 88) rfl rfl (by kernel_rfl) (by kernel_rfl) (by kernel_rfl) (fun _ _ _ h => h) (Or.inl ⟨by rfl, ?_⟩) hS0 ?_
          · rintro w' _
            go_simp
          try simp only [Act.put, List.setIfInBounds_toArray, List.set_cons_zero, List.set_cons_succ]
          refine takeD (i := 14) (v := .int .i64 i) (some 89) rfl rfl (by kernel_rfl) (by kernel_rfl) (by kernel_rfl) (fun _ _ _ h => h) (Or.inl ⟨by rfl, ?_⟩) hS0 ?_
          · rintro w' _
            go_simp
          try simp only [Act.put, List.setIfInBounds_toArray, List.set_cons_zero, List.set_cons_succ]
          refine takeD (i := 15) (v := .pointer (some ⟨b, off + i * 2, none⟩)) (some 90) rfl rfl (by kernel_rfl) (by kernel_rfl) (by kernel_rfl) (fun _ _ _ h => h) (Or.inl ⟨by rfl, ?_⟩) hS0 ?_
          · rintro w' _
            go_simp
          try simp only [Act.put, List.setIfInBounds_toArray, List.set_cons_zero, List.set_cons_succ]
          refine takeD (i := 16) (v := .pointer (some ⟨b, off + i * 2, none⟩)) (some 91) rfl rfl (by kernel_rfl) (by kernel_rfl) (by kernel_rfl) (fun _ _ _ h => h) (Or.inl ⟨by rfl, ?_⟩) hS0 ?_
          · rintro w' _
            go_simp
          try simp only [Act.put, List.setIfInBounds_toArray, List.set_cons_zero, List.set_cons_succ]
          refine takeD (i := 17) (v := .int .i64 dp) (some 92) rfl rfl (by kernel_rfl) (by kernel_rfl) (by kernel_rfl) (fun _ _ _ h => h) (Or.inl ⟨by rfl, ?_⟩) hS0 ?_
          · rintro w' ⟨s0, _⟩
            go_simp
          try simp only [Act.put, List.setIfInBounds_toArray, List.set_cons_zero, List.set_cons_succ]
          refine takeD (i := 18) (v := .slice (some ⟨b, off, none⟩) n2 c2) (some 93) rfl rfl (by kernel_rfl) (by kernel_rfl) (by kernel_rfl) (fun _ _ _ h => h) (Or.inl ⟨by rfl, ?_⟩) hS0 ?_
          · rintro w' _
            go_simp
          try simp only [Act.put, List.setIfInBounds_toArray, List.set_cons_zero, List.set_cons_succ]
          refine takeD (i := 19) (v := .int .i64 i) (some 94) rfl rfl (by kernel_rfl) (by kernel_rfl) (by kernel_rfl) (fun _ _ _ h => h) (Or.inl ⟨by rfl, ?_⟩) hS0 ?_
          · rintro w' _
            go_simp
          try simp only [Act.put, List.setIfInBounds_toArray, List.set_cons_zero, List.set_cons_succ]
          refine takeD (i := 20) (v := .pointer (some ⟨b, off + i * 2, none⟩)) (some 95) rfl rfl (by kernel_rfl) (by kernel_rfl) (by kernel_rfl) (fun _ _ _ h => h) (Or.inl ⟨by rfl, ?_⟩) hS0 ?_
          · rintro w' _
            go_simp
          try simp only [Act.put, List.setIfInBounds_toArray, List.set_cons_zero, List.set_cons_succ]
          refine takeD (i := 21) (v := .pointer (some ⟨b, off + i * 2 + 1, none⟩)) (some 96) rfl rfl (by kernel_rfl) (by kernel_rfl) (by kernel_rfl) (fun _ _ _ h => h) (Or.inl ⟨by rfl, ?_⟩) hS0 ?_
          · rintro w' _
            go_simp
          try simp only [Act.put, List.setIfInBounds_toArray, List.set_cons_zero, List.set_cons_succ]
          refine takeD (i := 22) (v := .bool du) (some 97) rfl rfl (by kernel_rfl) (by kernel_rfl) (by kernel_rfl) (fun _ _ _ h => h) (Or.inl ⟨by rfl, ?_⟩) hS0 ?_
          · rintro w' ⟨_, s0⟩
            go_simp
          try simp only [Act.put, List.setIfInBounds_toArray, List.set_cons_zero, List.set_cons_succ]
          refine wpAnyH_ready (rs := [11]) (by kernel_rfl) (by simp) ?_
          refine AllReadyH.cons rfl (fun K hK => ?_) AllReadyH.nil
          go_simp
          go_at_call 44
          refine (glive_any hG dp du).mono ?_
          rintro e u1 ⟨rfl, hG1, hg1⟩
          have hgne : b ≠ g := by have := HBL.out; have := hG.lt.1; have := HLO.out.1; omega
          have hS1 : (fun W => W.cell? ⟨b, off + i * 2, none⟩ = some (.int .i64 dp) ∧ W.cell? ⟨b, off + i * 2 + 1, none⟩ = some (.bool du)) u1 := ⟨grown_cell hg1 hS0.1 hgne, grown_cell hg1 hS0.2 hgne⟩
          have hB1 := hB.grown hg1 hB.size (fun x e => by have e := Option.some.inj e; have := hG.lt.1; have := HLO.out.1; omega)
          have hM1 := hM.other hg1 hG.lt.2.1
          refine hK.out _ _ hS1 (fun _ => ?_)
          clear hK K hG hM hB hg1
          try simp only [Act.put, List.setIfInBounds_toArray, List.set_cons_zero, List.set_cons_succ]
          refine wpAnyH_ready (rs := [23]) (by kernel_rfl) (by simp) ?_
          refine AllReadyH.cons rfl (fun K hK => ?_) AllReadyH.nil
          go_simp
          go_at_call 45
          refine (mlive_any hM1 dp du).mono ?_
          rintro e u2 ⟨rfl, hM2, hg2⟩
          have hmne : b ≠ m := by have := HBL.out; have := hM1.lt.1; have := HLO.out; omega
          have hS2 : (fun W => W.cell? ⟨b, off + i * 2, none⟩ = some (.int .i64 dp) ∧ W.cell? ⟨b, off + i * 2 + 1, none⟩ = some (.bool du)) u2 := ⟨grown_cell hg2 hS1.1 hmne, grown_cell hg2 hS1.2 hmne⟩
          have hB2 := hB1.grown hg2 hB1.size (fun x e => by have e := Option.some.inj e; have := hM1.lt.1; have := HLO.out; omega)
          have hG2 : Gb u2 lo1 lo2 g l (liveS s dp du l) := hG1.below ⟨hg2.os, hg2.tape, hg2.output, hg2.size, fun x hx => hg2.block x (Nat.lt_of_lt_of_le hx hG1.lt.2.2) (fun e => by have e := Option.some.inj e; have := hM1.lt.1; omega)⟩
          refine hK.out _ _ hS2 (fun _ => ?_)
          clear hK K hG1 hM1 hB1 hg2 hS0 hS1
          try simp only [Act.put, List.setIfInBounds_toArray, List.set_cons_zero, List.set_cons_succ]
          refine takeD (i := 24) (v := .bool false) (some 99) rfl rfl (by kernel_rfl) (by kernel_rfl) (by kernel_rfl) (fun _ _ _ h => h) (Or.inl ⟨by rfl, ?_⟩) hS2 ?_
          · rintro w' _
            have he : (liveE dp l != liveE dp l) = false := by simp
            go_simp
          try simp only [Act.put, List.setIfInBounds_toArray, List.set_cons_zero, List.set_cons_succ]
          refine wpAnyH_done (by kernel_rfl) ?_ _
          clear hS2
          generalize liveS s dp du l = s2 at *
          generalize liveE dp l = ee at *
          go_wp2_with fail
          refine (gfirst_any hG2).mono ?_
          rintro e u3 ⟨rfl, hb⟩
          replace hG2 := hG2.below' hb hG2.lt.2.2
          replace hM2 := hM2.below' hb hM2.lt.2.2
          replace hB2 := hB2.trans (hb.mono hB2.size)
          clear hb
          go_wp2_with fail
          refine (mfirst_any hM2).mono ?_
          rintro e u4 ⟨rfl, hb⟩
          replace hG2 := hG2.below' hb hG2.lt.2.2
          replace hM2 := hM2.below' hb hM2.lt.2.2
          replace hB2 := hB2.trans (hb.mono hB2.size)
          clear hb
          generalize firstN s2 l = fa at *
          generalize firstB s2 l = fb at *
          have hne1 : (fa != fa) = false := by simp
          have hne2 : (fb != fb) = false := by simp
          go_wp2_with fail
          refine (gports_any hG2).mono ?_
          rintro e u5 ⟨Ap, cp, rfl, hOp, hb⟩
          replace hG2 := hG2.below' hb hG2.lt.2.2
          have hM4 := hM2.below' hb hM2.lt.2.2
          have hB4 := hB2.trans (hb.mono hB2.size)
          have HL4 := Kp.mk (show lo2 ≤ u4.heap.size ∧ lo3 ≤ u4.heap.size from ⟨Nat.le_trans hM2.lt.1 (Nat.le_trans (Nat.le_of_lt hM2.lt.2.1) hM2.lt.2.2), hM2.lt.2.2⟩)
          have HWL := Kp.mk (hB2.size)
          clear hM2 hB2
          have hb5 := hb
          clear hb
          rw [hl10.out] at hOp
          rw [hl10.out]
          go_wp2_with fail
          refine (mports_any hM4).mono ?_
          rintro e u6 ⟨Aq, cq, rfl, hOq, hb⟩
          rw [hl10.out] at hOq
          rw [hl10.out]
          replace hG2 := hG2.below' hb hG2.lt.2.2
          replace hM4 := hM4.below' hb hM4.lt.2.2
          replace hB4 := hB4.trans (hb.mono hB4.size)
          replace hOp := hOp.below hb
          replace hb5 := hb5.trans (hb.mono hb5.size)
          clear hb
          go_wp2_with fail
          refine (eqInts_any hOp.rd hOq.rd (Nat.le_refl _) (Nat.le_refl _)).mono ?_
          rintro e u7 ⟨rfl, hb⟩
          rw [decide_eq_true (rfl : l = l)]
          replace hG2 := hG2.below' hb hG2.lt.2.2
          replace hM4 := hM4.below' hb hM4.lt.2.2
          replace hB4 := hB4.trans (hb.mono hB4.size)
          replace hOp := hOp.below hb
          clear hb hOq hb5
          have HG := Kp.mk hG2
          have HM := Kp.mk hM4
          have HB := Kp.mk hB4
          clear hG2 hM4 hB4
          have hb0 := Below.refl u4.heap.size u7
          generalize u4.heap.size = q4 at *
          go_wp2_with fail
          go_loopw [17] (fun s17 wx => ∃ (j : Nat) (l' : List Int), s17 = .int .i64 j ∧ j ≤ k ∧ Oi wx q4 (.slice Ap k cp) k l' ∧ Below q4 u7 wx) (fun s17 _ => k - (intOf s17).toNat)
          case atStart => exact ⟨0, l, rfl, Nat.zero_le _, hOp, hb0⟩
          case round =>
            clear hOp hb0
            obtain ⟨j, l', rfl, hj, hO, hb⟩ := hrel
            by_cases hlt2 : j < k
            · obtain ⟨gi, cj, hv, hgi, hgi2, _, _, hc⟩ := hO.at_ (by omega)
              injection hv with ha _ hcj
              subst ha hcj
              obtain ⟨d1, d2⟩ := hc j hlt2
              have q1 : (j : Int) < k := by omega
              have hO2 := Kp.mk (hO.set j 0)
              have hb2 := Kp.mk (hb.setCell (p := ⟨gi, j, none⟩) hgi (.int .i64 0))
              clear hO hb hc hgi hgi2
              go_wp2_with fail
              go_roundw
              case rel => exact ⟨j + 1, _, by go_num, by omega, hO2.out, hb2.out⟩
              case measure => simp [intOf]; omega
            obtain rfl : j = k := by omega
            have hG := HG.out.below' hb HL4.out.1
            have hM := HM.out.below' hb HL4.out.2
            have hB := HB.out.trans (hb.mono HWL.out)
            clear hO hb HG HM HB
            generalize wr = u8 at *
            go_wp2_with fail
            go_loopw [18] (fun s18 wx => ∃ q : Int, s18 = .int .i64 q ∧ -1 ≤ q ∧ q ≤ 6 ∧ wx = u8) (fun s18 _ => (6 - intOf s18).toNat)
            case atStart => exact ⟨-1, rfl, by omega, by omega, rfl⟩
            case round =>
              obtain ⟨q, rfl, hq1, hq2, hwx⟩ := hrel
              subst hwx
              by_cases hq : q < 6
              · go_wp2_with fail
                refine (gup_any hG q).mono ?_
                rintro e u9 ⟨rfl, rfl⟩
                go_wp2_with fail
                refine (mup_any hM q).mono ?_
                rintro e u10 ⟨rfl, rfl⟩
                have hne3 : (upG s2 q l != upG s2 q l) = false := by simp
                generalize upG s2 q l = ub at *
                go_wp2_with fail
                go_roundw
                case rel => exact ⟨q + 1, by go_num, by omega, by omega, by trivial⟩
                case measure => simp [intOf]; omega
              obtain rfl : q = 6 := by omega
              go_wp2_with fail
              go_roundw
              case rel => exact ⟨i + 1, s2, by go_num, by omega, by omega, hG, hM, hB⟩
              case measure => simp [intOf]; omega
        clear hG hM
        by_cases j1 : (i : Int) < n2
        · have j2 : ¬ (i : Int) < 100 := fun h => hgo ⟨j1, h⟩
          clear hgo
          go_wp2_with fail
          refine (gworks_any _).mono ?_
          rintro e w6 ⟨rfl, hb⟩
          go_wp2_with fail
          go_ret
          exact ⟨rfl, hB.trans (hb.mono hB.size)⟩
        · clear hgo
          go_wp2_with fail
          refine (gworks_any _).mono ?_
          rintro e w6 ⟨rfl, hb⟩
          go_wp2_with fail
          go_ret
          exact ⟨rfl, hB.trans (hb.mono hB.size)⟩
theorem groupPlays_walk (a0 : Option Addr) (len0 cap0 : Nat) (z0 : List Int) (ds1 : List (Int × Bool)) (b1 : Option Addr) (len1 cap1 : Nat) (W : World) (w0 : Frame.IsRow .i64 W a0 len0 cap0 z0) (re0 : cap0 * 8 ≤ 140737488351232) (rd1 : Dp W W.heap.size b1 len1 cap1 ds1) : Calls Try.prog 8 #[.slice a0 len0 cap0, .slice b1 len1 cap1] W fun e w' => e = .returned (.bool true) ∧ Below W.heap.size W w' := groupPlays_any (Rd.of_row w0) rd1
end Go.Proofs.Ytlambnlehomkdaa.Oct
