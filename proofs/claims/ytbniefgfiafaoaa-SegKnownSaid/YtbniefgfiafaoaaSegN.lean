/- The walk of SegKnown. -/
import Derived.Test.YtbniefgfiafaoaaSegH
import Derived.Test.YtbniefgfiafaoaaSegI
import Derived.Test.YtbniefgfiafaoaaSegJ
import Derived.Deep.CutRange
namespace Go.Proofs.Ytbniefgfiafaoaa.Oct
open Go.RowKit
set_option linter.unusedVariables false
set_option linter.unusedSimpArgs false

/-- The ends that the law asks. -/
def endsS : List Int := [-9223372036854775808, -1, 0, 1, 6, 7, 12, 13, 255, 256, 65535, 65536, 4294967295, 4294967296, 9223372036854775807]
/-- The ends lie in a block of their own. -/
def knS (w : World) : World := w.alloc (.cells (endsS.map (Value.int .i64)).toArray 3)
theorem knS_size (w : World) : (knS w).heap.size = w.heap.size + 1 := by simp [knS]
theorem knS_below (w : World) : Below w.heap.size w (knS w) := below_alloc w _
theorem knS_cells {w wr : World} (hb : Below (w.heap.size + 1) (knS w) wr) (k : Nat) (hk : k < 15) : wr.cell? ⟨w.heap.size, k, none⟩ = some (.int .i64 (endsS.getD k 0)) := by
  have h := (rd_lit .i64 w 3 endsS (by unfold maxLen; decide) (w.heap.size + 1) (by omega)).below hb
  obtain ⟨b, off, e, hbB, hc⟩ := h.at_ (by decide)
  simp at e
  obtain ⟨rfl, rfl⟩ := e
  have := hc k hk
  rw [Nat.zero_add] at this
  exact this
/-- A counter stands between lo and m, and only new memory has turned. -/
def KnR (w : World) (v : Value) (lo m : Int) (wr : World) : Prop := ∃ x : Int, v = .int .i64 x ∧ lo ≤ x ∧ x ≤ m ∧ Below (w.heap.size + 1) (knS w) wr
/-- A segment lies in block g, its message in newer memory. -/
def KnS (w : World) (g : Nat) (v : Value) (wx : World) : Prop :=
  v = .pointer (some ⟨g, 0, none⟩) ∧ ∃ (k t f h p o s a : Int) (A : Option Addr) (n c : Nat) (l : List Int), Sg wx g [k, t, f, h, p, o, s, a] (.slice A n c) ∧ Own wx (g + 1) (.slice A n c) n l ∧ By l ∧ n ≤ 300 ∧ Below (w.heap.size + 1) (knS w) wx
theorem Rd.other {kd : IntKind} {w : World} {B n c : Nat} {A : Option Addr} {l : List Int} (h : Rd kd w B A n c l) (g j : Nat) (u : Value) (hne : ∀ b off r, A = some ⟨b, off, r⟩ → b ≠ g) : Rd kd (w.setCell ⟨g, j, none⟩ u) B A n c l := by
  obtain ⟨h1, h2, h3, h4, h5⟩ := h
  refine ⟨h1, h2, h3, h4, fun hn => ?_⟩
  obtain ⟨b, off, e, hb, hc⟩ := h5 hn
  have hb' := hne b off none e
  exact ⟨b, off, e, hb, fun i hi => (World.cell?_of_block (Below.heap_setCell _ _ _ _ (by simpa using hb'))).trans (hc i hi)⟩

set_option maxRecDepth 100000 in
set_option maxHeartbeats 16000000 in
theorem segKnown_any (w : World) :
    Calls Try.prog 9 #[] w fun e w' => e = .returned (.bool true) ∧ Below w.heap.size w w' := by
  go_enter Try.func9, Try.ntmps9
  go_wp2_with fail
  go_loopw [2, 3, 4, 5, 6, 7, 8] (fun v _ _ _ _ _ _ wr => KnR w v (-1) 8 wr) (fun v _ _ _ _ _ _ _ => (8 - intOf v).toNat)
  case atStart => exact ⟨-1, rfl, by omega, by omega, Below.refl _ _⟩
  case round =>
    obtain ⟨kd, rfl, kd1, kd2, hb1⟩ := hrel
    by_cases kd3 : kd < 8
    · go_wp2_with fail
      go_loopw [3, 4, 5, 6, 7, 8] (fun v _ _ _ _ _ wr => KnR w v (0) 2 wr) (fun v _ _ _ _ _ _ => (2 - intOf v).toNat)
      case atStart => exact ⟨0, rfl, by omega, by omega, hb1⟩
      case round =>
        obtain ⟨wy, rfl, wy1, wy2, hb2⟩ := hrel
        by_cases wy3 : wy < 2
        · go_wp2_with fail
          go_loopw [4, 5, 6, 7, 8] (fun v _ _ _ _ wr => KnR w v (0) 15 wr) (fun v _ _ _ _ _ => (15 - intOf v).toNat)
          case atStart => exact ⟨0, rfl, by omega, by omega, hb2⟩
          case round =>
            obtain ⟨ix, rfl, ix1, ix2, hb3⟩ := hrel
            by_cases ix3 : ix < 15
            · go_wp2_with fail
              go_loopw [5, 6, 7, 8] (fun v _ _ _ wr => KnR w v (0) 8 wr) (fun v _ _ _ _ => (8 - intOf v).toNat)
              case atStart => exact ⟨0, rfl, by omega, by omega, hb3⟩
              case round =>
                obtain ⟨kk, rfl, kk1, kk2, hb4⟩ := hrel
                by_cases kk3 : kk < 8
                · go_wp2_with fail
                  go_loopw [6, 7, 8] (fun v _ _ wr => KnR w v (0) 2 wr) (fun v _ _ _ => (2 - intOf v).toNat)
                  case atStart => exact ⟨0, rfl, by omega, by omega, hb4⟩
                  case round =>
                    obtain ⟨ft, rfl, ft1, ft2, hb5⟩ := hrel
                    by_cases ft3 : ft < 2
                    · have hz := hb5.size
                      rw [knS_size] at hz
                      go_upto_if 37 with fail
                      have hx2 : Sg (wr.alloc (.cells #[.int .i64 kd, .int .i64 0, .int .i64 0, .int .i64 0, .int .i64 0, .int .i64 0, .int .i64 0, .int .i64 0, .slice none 0 0] 24)) wr.heap.size [kd, 0, 0, 0, 0, 0, 0, 0] (.slice none 0 0) := Sg.new wr [kd, 0, 0, 0, 0, 0, 0, 0] (.slice none 0 0)
                      have T2 := hb5.trans ((below_alloc wr (.cells #[.int .i64 kd, .int .i64 0, .int .i64 0, .int .i64 0, .int .i64 0, .int .i64 0, .int .i64 0, .int .i64 0, .slice none 0 0] 24)).mono hz)
                      have hz2 : (wr.alloc (.cells #[.int .i64 kd, .int .i64 0, .int .i64 0, .int .i64 0, .int .i64 0, .int .i64 0, .int .i64 0, .int .i64 0, .slice none 0 0] 24)).heap.size = wr.heap.size + 1 := by simp
                      generalize (wr.alloc (.cells #[.int .i64 kd, .int .i64 0, .int .i64 0, .int .i64 0, .int .i64 0, .int .i64 0, .int .i64 0, .int .i64 0, .slice none 0 0] 24)) = w2 at *
                      have hlt2 := hx2.lt
                      clear hz2
                      go_cut [7] from 34 to 93 (fun v wx => KnS w wr.heap.size v wx)
                      case first =>
                        have hf := hx2.free
                        obtain ⟨d0, d1, d2, d3, d4, d5, d6, d7, d8⟩ := hx2.nine
                        by_cases hft : ft = 1
                        · subst hft
                          go_wp2_with fail
                          refine (made_any _ _ _ _ _ _ _ _ none 0 0 0 [] _ (Rd.nil _ _ _) (Nat.zero_le _) By.nil).mono ?_
                          rintro e w3 ⟨k', t', f', h', p', o', s', a', l', A', n', c', rfl, ho3, ok, hl, t3⟩
                          have hbd := okS_bd ok
                          have hln := ho3.len
                          have hx3 := hx2.below t3 hlt2
                          have T3 := T2.trans (t3.mono (by have := T2.size; rw [knS_size] at this; omega))
                          have ho4 := (own_keep ho3 (putS_grown w3 wr.heap.size k' t' f' h' p' o' s' a' (.slice A' n' c')) hlt2).lower (by omega : wr.heap.size + 1 ≤ w2.heap.size)
                          have hx4 := hx3.put (k' := k') (t' := t') (f' := f') (h' := h') (p' := p') (o' := o') (s' := s') (a' := a') (m' := .slice A' n' c')
                          have T4 := putS_below T3 hz k' t' f' h' p' o' s' a' (.slice A' n' c')
                          have hn : n' ≤ 300 := by omega
                          clear d0 d1 d2 d3 d4 d5 d6 d7 d8 hf ok hbd hln ho3 hx2 T2 T3
                          have hf := hx3.free
                          obtain ⟨d0, d1, d2, d3, d4, d5, d6, d7, d8⟩ := hx3.nine
                          go_wp2_with fail
                          go_meet
                          case rel => exact ⟨rfl, k', t', f', h', p', o', s', a', A', n', c', l', hx4, ho4, hl, hn, T4⟩
                        obtain rfl : ft = 0 := by omega
                        clear hft
                        by_cases hwy : wy = 0
                        · subst hwy
                          go_wp2_with fail
                          go_meet
                          case rel => exact ⟨rfl, _, _, _, _, _, _, _, _, none, 0, 0, [], hx2.set 1 (by simp) 3, Own.nil _ _, By.nil, by omega, T2.setCell (by simpa using hz) _⟩
                        have hwy2 : (wy == 0) = false := beq_eq_false_iff_ne.2 hwy
                        clear hwy
                        go_wp2_with fail
                        go_meet
                        case rel => exact ⟨rfl, _, _, _, _, _, _, _, _, none, 0, 0, [], hx2.set 2 (by simp) 3, Own.nil _ _, By.nil, by omega, T2.setCell (by simpa using hz) _⟩
                      case rest =>
                      obtain ⟨rfl, k, t, f, h, p, o, s, a, A, n, c, l, hx, ho, hl, hn, hT⟩ := hcut
                      clear hx2 T2 hlt2 w2
                      obtain ⟨i, hi⟩ : ∃ i : Nat, ix = i := ⟨ix.toNat, by omega⟩
                      subst hi
                      have hi15 : i < 15 := by omega
                      have ci := knS_cells hT i hi15
                      generalize endsS.getD i 0 = nn at *
                      obtain ⟨d0, d1, d2, d3, d4, d5, d6, d7, d8⟩ := hx.nine
                      have hf := hx.free
                      have hne : w.heap.size ≠ wr.heap.size := by omega
                      by_cases kk0 : kk = 0
                      · subst kk0
                        go_upto_region 40 with fail
                        clear d0 d1 d2 d3 d4 d5 d6 d7 d8 hf ci
                        replace ho := own_keep ho (grownBy_set wc wr.heap.size 1 (.int .i64 nn)) (Nat.lt_succ_self _)
                        replace hx := hx.set 1 (by simp) nn
                        replace hT := hT.setCell (p := ⟨wr.heap.size, 1, none⟩) (by simpa using hz) (.int .i64 nn)
                        generalize (wc.setCell ⟨wr.heap.size, 1, none⟩ (.int .i64 nn)) = w5 at *
                        change Sg w5 _ [k, nn, f, h, p, o, s, a] _ at hx
                        have hr := ho.rd
                        clear ho
                        have hS : One w5 wr.heap.size [k, nn, f, h, p, o, s, a] (.slice A n c) w5.drew := ⟨hx, (Below.refl w5.heap.size w5).drew⟩
                        have hz5 := hT.size
                        rw [knS_size] at hz5
                        clear hx
                        refine wp_region_held_drew (S := One w5 wr.heap.size [k, nn, f, h, p, o, s, a] (.slice A n c)) (by kernel_rfl) hS (fun _ => ?_)
                        refine takeD (i := 0) (v := .agg #[.int .i64 k, .int .i64 nn, .int .i64 f, .int .i64 h, .int .i64 p, .int .i64 o, .int .i64 s, .int .i64 a, .slice A n c]) (some 84) rfl rfl (by kernel_rfl) (by kernel_rfl) (by kernel_rfl) (fun _ _ _ h => h) (Or.inl ⟨by rfl, ?_⟩) hS ?_
                        · rintro w' ⟨s1, s3⟩
                          obtain ⟨d0, d1, d2, d3, d4, d5, d6, d7, d8⟩ := s1.nine
                          go_simp
                        try simp only [Act.put, List.setIfInBounds_toArray, List.set_cons_zero, List.set_cons_succ]
                        refine wpAnyH_ready (rs := [1]) (by kernel_rfl) (by simp) ?_
                        refine AllReadyH.cons rfl (fun K hK => ?_) AllReadyH.nil
                        go_simp
                        go_at_call 3
                        refine (segBytes_any ((hr.below hS.2).more hS.2.size) hl (by omega)).mono ?_
                        rintro e w6 ⟨rfl, hb6⟩
                        refine hK.out _ _ (hS.step hb6) (fun hS1 => ?_)
                        clear hK K
                        try simp only [Act.put, List.setIfInBounds_toArray, List.set_cons_zero, List.set_cons_succ]
                        refine takeD (i := 2) (v := .bool false) (some 86) rfl rfl (by kernel_rfl) (by kernel_rfl) (by kernel_rfl) (fun _ _ _ h => h) (Or.inl ⟨by rfl, ?_⟩) hS1 ?_
                        · rintro w' _
                          go_simp
                        try simp only [Act.put, List.setIfInBounds_toArray, List.set_cons_zero, List.set_cons_succ]
                        refine takeD (i := 3) (v := .bool false) (some 87) rfl rfl (by kernel_rfl) (by kernel_rfl) (by kernel_rfl) (fun _ _ _ h => h) (Or.inl ⟨by rfl, ?_⟩) hS1 ?_
                        · rintro w' _
                          go_simp
                        try simp only [Act.put, List.setIfInBounds_toArray, List.set_cons_zero, List.set_cons_succ]
                        refine takeD (i := 4) (v := .agg #[.int .i64 k, .int .i64 nn, .int .i64 f, .int .i64 h, .int .i64 p, .int .i64 o, .int .i64 s, .int .i64 a, .slice A n c]) (some 88) rfl rfl (by kernel_rfl) (by kernel_rfl) (by kernel_rfl) (fun _ _ _ h => h) (Or.inl ⟨by rfl, ?_⟩) hS1 ?_
                        · rintro w' ⟨s1, s3⟩
                          obtain ⟨d0, d1, d2, d3, d4, d5, d6, d7, d8⟩ := s1.nine
                          go_simp
                        try simp only [Act.put, List.setIfInBounds_toArray, List.set_cons_zero, List.set_cons_succ]
                        refine takeD (i := 5) (v := .agg #[.int .i64 k, .int .i64 nn, .int .i64 f, .int .i64 h, .int .i64 p, .int .i64 o, .int .i64 s, .int .i64 a, .slice A n c]) (some 89) rfl rfl (by kernel_rfl) (by kernel_rfl) (by kernel_rfl) (fun _ _ _ h => h) (Or.inl ⟨by rfl, ?_⟩) hS1 ?_
                        · rintro w' ⟨s1, s3⟩
                          obtain ⟨d0, d1, d2, d3, d4, d5, d6, d7, d8⟩ := s1.nine
                          go_simp
                        try simp only [Act.put, List.setIfInBounds_toArray, List.set_cons_zero, List.set_cons_succ]
                        refine wpAnyH_ready (rs := [6]) (by kernel_rfl) (by simp) ?_
                        refine AllReadyH.cons rfl (fun K hK => ?_) AllReadyH.nil
                        go_simp
                        go_at_call 21
                        refine (made_any k nn f h p o s a A n c w5.heap.size l _ (hr.below hS1.2) hS1.2.size hl).mono ?_
                        rintro e w7 ⟨k', t', f', h', p', o', s', a', l', A', n', c', rfl, ho7, ok7, hl7, hb7⟩
                        refine hK.out _ _ (hS1.step hb7) (fun hS2 => ?_)
                        clear hK K
                        try simp only [Act.put, List.setIfInBounds_toArray, List.set_cons_zero, List.set_cons_succ]
                        refine wpAnyH_ready (rs := [7]) (by kernel_rfl) (by simp) ?_
                        refine AllReadyH.cons rfl (fun K hK => ?_) AllReadyH.nil
                        go_simp
                        go_at_call 5
                        refine (segSame_any ((hr.below hS2.2).more hS2.2.size) ho7.rd hl hl7).mono ?_
                        rintro e w8 ⟨rfl, hb8⟩
                        refine hK.out _ _ (hS2.step hb8) (fun hS3 => ?_)
                        clear hK K
                        try simp only [Act.put, List.setIfInBounds_toArray, List.set_cons_zero, List.set_cons_succ]
                        refine takeD (i := 8) (v := .bool false) (some 92) rfl rfl (by kernel_rfl) (by kernel_rfl) (by kernel_rfl) (fun _ _ _ h => h) (Or.inl ⟨by rfl, ?_⟩) hS3 ?_
                        · rintro w' _
                          go_simp
                        try simp only [Act.put, List.setIfInBounds_toArray, List.set_cons_zero, List.set_cons_succ]
                        refine takeD (i := 9) (v := .bool false) (some 93) rfl rfl (by kernel_rfl) (by kernel_rfl) (by kernel_rfl) (fun _ _ _ h => h) (Or.inl ⟨by rfl, ?_⟩) hS3 ?_
                        · rintro w' _
                          go_simp
                        try simp only [Act.put, List.setIfInBounds_toArray, List.set_cons_zero, List.set_cons_succ]
                        refine wpAnyH_done (by kernel_rfl) ?_ _
                        have T9 := hT.trans (hS3.2.mono hz5)
                        clear hS hS1 hS2 hS3 hb6 hb7 hb8 ho7 ok7 hl7 hr hT
                        go_wp2_with fail
                        go_roundw
                        case rel => exact ⟨ft + 1, rfl, by omega, by omega, T9⟩
                        case measure => simp [intOf]; omega
                      by_cases kk1 : kk = 1
                      · subst kk1
                        go_upto_region 40 with fail
                        clear d0 d1 d2 d3 d4 d5 d6 d7 d8 hf ci
                        replace ho := own_keep ho (grownBy_set wc wr.heap.size 2 (.int .i64 nn)) (Nat.lt_succ_self _)
                        replace hx := hx.set 2 (by simp) nn
                        replace hT := hT.setCell (p := ⟨wr.heap.size, 2, none⟩) (by simpa using hz) (.int .i64 nn)
                        generalize (wc.setCell ⟨wr.heap.size, 2, none⟩ (.int .i64 nn)) = w5 at *
                        change Sg w5 _ [k, t, nn, h, p, o, s, a] _ at hx
                        have hr := ho.rd
                        clear ho
                        have hS : One w5 wr.heap.size [k, t, nn, h, p, o, s, a] (.slice A n c) w5.drew := ⟨hx, (Below.refl w5.heap.size w5).drew⟩
                        have hz5 := hT.size
                        rw [knS_size] at hz5
                        clear hx
                        refine wp_region_held_drew (S := One w5 wr.heap.size [k, t, nn, h, p, o, s, a] (.slice A n c)) (by kernel_rfl) hS (fun _ => ?_)
                        refine takeD (i := 0) (v := .agg #[.int .i64 k, .int .i64 t, .int .i64 nn, .int .i64 h, .int .i64 p, .int .i64 o, .int .i64 s, .int .i64 a, .slice A n c]) (some 84) rfl rfl (by kernel_rfl) (by kernel_rfl) (by kernel_rfl) (fun _ _ _ h => h) (Or.inl ⟨by rfl, ?_⟩) hS ?_
                        · rintro w' ⟨s1, s3⟩
                          obtain ⟨d0, d1, d2, d3, d4, d5, d6, d7, d8⟩ := s1.nine
                          go_simp
                        try simp only [Act.put, List.setIfInBounds_toArray, List.set_cons_zero, List.set_cons_succ]
                        refine wpAnyH_ready (rs := [1]) (by kernel_rfl) (by simp) ?_
                        refine AllReadyH.cons rfl (fun K hK => ?_) AllReadyH.nil
                        go_simp
                        go_at_call 3
                        refine (segBytes_any ((hr.below hS.2).more hS.2.size) hl (by omega)).mono ?_
                        rintro e w6 ⟨rfl, hb6⟩
                        refine hK.out _ _ (hS.step hb6) (fun hS1 => ?_)
                        clear hK K
                        try simp only [Act.put, List.setIfInBounds_toArray, List.set_cons_zero, List.set_cons_succ]
                        refine takeD (i := 2) (v := .bool false) (some 86) rfl rfl (by kernel_rfl) (by kernel_rfl) (by kernel_rfl) (fun _ _ _ h => h) (Or.inl ⟨by rfl, ?_⟩) hS1 ?_
                        · rintro w' _
                          go_simp
                        try simp only [Act.put, List.setIfInBounds_toArray, List.set_cons_zero, List.set_cons_succ]
                        refine takeD (i := 3) (v := .bool false) (some 87) rfl rfl (by kernel_rfl) (by kernel_rfl) (by kernel_rfl) (fun _ _ _ h => h) (Or.inl ⟨by rfl, ?_⟩) hS1 ?_
                        · rintro w' _
                          go_simp
                        try simp only [Act.put, List.setIfInBounds_toArray, List.set_cons_zero, List.set_cons_succ]
                        refine takeD (i := 4) (v := .agg #[.int .i64 k, .int .i64 t, .int .i64 nn, .int .i64 h, .int .i64 p, .int .i64 o, .int .i64 s, .int .i64 a, .slice A n c]) (some 88) rfl rfl (by kernel_rfl) (by kernel_rfl) (by kernel_rfl) (fun _ _ _ h => h) (Or.inl ⟨by rfl, ?_⟩) hS1 ?_
                        · rintro w' ⟨s1, s3⟩
                          obtain ⟨d0, d1, d2, d3, d4, d5, d6, d7, d8⟩ := s1.nine
                          go_simp
                        try simp only [Act.put, List.setIfInBounds_toArray, List.set_cons_zero, List.set_cons_succ]
                        refine takeD (i := 5) (v := .agg #[.int .i64 k, .int .i64 t, .int .i64 nn, .int .i64 h, .int .i64 p, .int .i64 o, .int .i64 s, .int .i64 a, .slice A n c]) (some 89) rfl rfl (by kernel_rfl) (by kernel_rfl) (by kernel_rfl) (fun _ _ _ h => h) (Or.inl ⟨by rfl, ?_⟩) hS1 ?_
                        · rintro w' ⟨s1, s3⟩
                          obtain ⟨d0, d1, d2, d3, d4, d5, d6, d7, d8⟩ := s1.nine
                          go_simp
                        try simp only [Act.put, List.setIfInBounds_toArray, List.set_cons_zero, List.set_cons_succ]
                        refine wpAnyH_ready (rs := [6]) (by kernel_rfl) (by simp) ?_
                        refine AllReadyH.cons rfl (fun K hK => ?_) AllReadyH.nil
                        go_simp
                        go_at_call 21
                        refine (made_any k t nn h p o s a A n c w5.heap.size l _ (hr.below hS1.2) hS1.2.size hl).mono ?_
                        rintro e w7 ⟨k', t', f', h', p', o', s', a', l', A', n', c', rfl, ho7, ok7, hl7, hb7⟩
                        refine hK.out _ _ (hS1.step hb7) (fun hS2 => ?_)
                        clear hK K
                        try simp only [Act.put, List.setIfInBounds_toArray, List.set_cons_zero, List.set_cons_succ]
                        refine wpAnyH_ready (rs := [7]) (by kernel_rfl) (by simp) ?_
                        refine AllReadyH.cons rfl (fun K hK => ?_) AllReadyH.nil
                        go_simp
                        go_at_call 5
                        refine (segSame_any ((hr.below hS2.2).more hS2.2.size) ho7.rd hl hl7).mono ?_
                        rintro e w8 ⟨rfl, hb8⟩
                        refine hK.out _ _ (hS2.step hb8) (fun hS3 => ?_)
                        clear hK K
                        try simp only [Act.put, List.setIfInBounds_toArray, List.set_cons_zero, List.set_cons_succ]
                        refine takeD (i := 8) (v := .bool false) (some 92) rfl rfl (by kernel_rfl) (by kernel_rfl) (by kernel_rfl) (fun _ _ _ h => h) (Or.inl ⟨by rfl, ?_⟩) hS3 ?_
                        · rintro w' _
                          go_simp
                        try simp only [Act.put, List.setIfInBounds_toArray, List.set_cons_zero, List.set_cons_succ]
                        refine takeD (i := 9) (v := .bool false) (some 93) rfl rfl (by kernel_rfl) (by kernel_rfl) (by kernel_rfl) (fun _ _ _ h => h) (Or.inl ⟨by rfl, ?_⟩) hS3 ?_
                        · rintro w' _
                          go_simp
                        try simp only [Act.put, List.setIfInBounds_toArray, List.set_cons_zero, List.set_cons_succ]
                        refine wpAnyH_done (by kernel_rfl) ?_ _
                        have T9 := hT.trans (hS3.2.mono hz5)
                        clear hS hS1 hS2 hS3 hb6 hb7 hb8 ho7 ok7 hl7 hr hT
                        go_wp2_with fail
                        go_roundw
                        case rel => exact ⟨ft + 1, rfl, by omega, by omega, T9⟩
                        case measure => simp [intOf]; omega
                      by_cases kk2 : kk = 2
                      · subst kk2
                        go_upto_region 40 with fail
                        clear d0 d1 d2 d3 d4 d5 d6 d7 d8 hf ci
                        replace ho := own_keep ho (grownBy_set wc wr.heap.size 3 (.int .i64 nn)) (Nat.lt_succ_self _)
                        replace hx := hx.set 3 (by simp) nn
                        replace hT := hT.setCell (p := ⟨wr.heap.size, 3, none⟩) (by simpa using hz) (.int .i64 nn)
                        generalize (wc.setCell ⟨wr.heap.size, 3, none⟩ (.int .i64 nn)) = w5 at *
                        change Sg w5 _ [k, t, f, nn, p, o, s, a] _ at hx
                        have hr := ho.rd
                        clear ho
                        have hS : One w5 wr.heap.size [k, t, f, nn, p, o, s, a] (.slice A n c) w5.drew := ⟨hx, (Below.refl w5.heap.size w5).drew⟩
                        have hz5 := hT.size
                        rw [knS_size] at hz5
                        clear hx
                        refine wp_region_held_drew (S := One w5 wr.heap.size [k, t, f, nn, p, o, s, a] (.slice A n c)) (by kernel_rfl) hS (fun _ => ?_)
                        refine takeD (i := 0) (v := .agg #[.int .i64 k, .int .i64 t, .int .i64 f, .int .i64 nn, .int .i64 p, .int .i64 o, .int .i64 s, .int .i64 a, .slice A n c]) (some 84) rfl rfl (by kernel_rfl) (by kernel_rfl) (by kernel_rfl) (fun _ _ _ h => h) (Or.inl ⟨by rfl, ?_⟩) hS ?_
                        · rintro w' ⟨s1, s3⟩
                          obtain ⟨d0, d1, d2, d3, d4, d5, d6, d7, d8⟩ := s1.nine
                          go_simp
                        try simp only [Act.put, List.setIfInBounds_toArray, List.set_cons_zero, List.set_cons_succ]
                        refine wpAnyH_ready (rs := [1]) (by kernel_rfl) (by simp) ?_
                        refine AllReadyH.cons rfl (fun K hK => ?_) AllReadyH.nil
                        go_simp
                        go_at_call 3
                        refine (segBytes_any ((hr.below hS.2).more hS.2.size) hl (by omega)).mono ?_
                        rintro e w6 ⟨rfl, hb6⟩
                        refine hK.out _ _ (hS.step hb6) (fun hS1 => ?_)
                        clear hK K
                        try simp only [Act.put, List.setIfInBounds_toArray, List.set_cons_zero, List.set_cons_succ]
                        refine takeD (i := 2) (v := .bool false) (some 86) rfl rfl (by kernel_rfl) (by kernel_rfl) (by kernel_rfl) (fun _ _ _ h => h) (Or.inl ⟨by rfl, ?_⟩) hS1 ?_
                        · rintro w' _
                          go_simp
                        try simp only [Act.put, List.setIfInBounds_toArray, List.set_cons_zero, List.set_cons_succ]
                        refine takeD (i := 3) (v := .bool false) (some 87) rfl rfl (by kernel_rfl) (by kernel_rfl) (by kernel_rfl) (fun _ _ _ h => h) (Or.inl ⟨by rfl, ?_⟩) hS1 ?_
                        · rintro w' _
                          go_simp
                        try simp only [Act.put, List.setIfInBounds_toArray, List.set_cons_zero, List.set_cons_succ]
                        refine takeD (i := 4) (v := .agg #[.int .i64 k, .int .i64 t, .int .i64 f, .int .i64 nn, .int .i64 p, .int .i64 o, .int .i64 s, .int .i64 a, .slice A n c]) (some 88) rfl rfl (by kernel_rfl) (by kernel_rfl) (by kernel_rfl) (fun _ _ _ h => h) (Or.inl ⟨by rfl, ?_⟩) hS1 ?_
                        · rintro w' ⟨s1, s3⟩
                          obtain ⟨d0, d1, d2, d3, d4, d5, d6, d7, d8⟩ := s1.nine
                          go_simp
                        try simp only [Act.put, List.setIfInBounds_toArray, List.set_cons_zero, List.set_cons_succ]
                        refine takeD (i := 5) (v := .agg #[.int .i64 k, .int .i64 t, .int .i64 f, .int .i64 nn, .int .i64 p, .int .i64 o, .int .i64 s, .int .i64 a, .slice A n c]) (some 89) rfl rfl (by kernel_rfl) (by kernel_rfl) (by kernel_rfl) (fun _ _ _ h => h) (Or.inl ⟨by rfl, ?_⟩) hS1 ?_
                        · rintro w' ⟨s1, s3⟩
                          obtain ⟨d0, d1, d2, d3, d4, d5, d6, d7, d8⟩ := s1.nine
                          go_simp
                        try simp only [Act.put, List.setIfInBounds_toArray, List.set_cons_zero, List.set_cons_succ]
                        refine wpAnyH_ready (rs := [6]) (by kernel_rfl) (by simp) ?_
                        refine AllReadyH.cons rfl (fun K hK => ?_) AllReadyH.nil
                        go_simp
                        go_at_call 21
                        refine (made_any k t f nn p o s a A n c w5.heap.size l _ (hr.below hS1.2) hS1.2.size hl).mono ?_
                        rintro e w7 ⟨k', t', f', h', p', o', s', a', l', A', n', c', rfl, ho7, ok7, hl7, hb7⟩
                        refine hK.out _ _ (hS1.step hb7) (fun hS2 => ?_)
                        clear hK K
                        try simp only [Act.put, List.setIfInBounds_toArray, List.set_cons_zero, List.set_cons_succ]
                        refine wpAnyH_ready (rs := [7]) (by kernel_rfl) (by simp) ?_
                        refine AllReadyH.cons rfl (fun K hK => ?_) AllReadyH.nil
                        go_simp
                        go_at_call 5
                        refine (segSame_any ((hr.below hS2.2).more hS2.2.size) ho7.rd hl hl7).mono ?_
                        rintro e w8 ⟨rfl, hb8⟩
                        refine hK.out _ _ (hS2.step hb8) (fun hS3 => ?_)
                        clear hK K
                        try simp only [Act.put, List.setIfInBounds_toArray, List.set_cons_zero, List.set_cons_succ]
                        refine takeD (i := 8) (v := .bool false) (some 92) rfl rfl (by kernel_rfl) (by kernel_rfl) (by kernel_rfl) (fun _ _ _ h => h) (Or.inl ⟨by rfl, ?_⟩) hS3 ?_
                        · rintro w' _
                          go_simp
                        try simp only [Act.put, List.setIfInBounds_toArray, List.set_cons_zero, List.set_cons_succ]
                        refine takeD (i := 9) (v := .bool false) (some 93) rfl rfl (by kernel_rfl) (by kernel_rfl) (by kernel_rfl) (fun _ _ _ h => h) (Or.inl ⟨by rfl, ?_⟩) hS3 ?_
                        · rintro w' _
                          go_simp
                        try simp only [Act.put, List.setIfInBounds_toArray, List.set_cons_zero, List.set_cons_succ]
                        refine wpAnyH_done (by kernel_rfl) ?_ _
                        have T9 := hT.trans (hS3.2.mono hz5)
                        clear hS hS1 hS2 hS3 hb6 hb7 hb8 ho7 ok7 hl7 hr hT
                        go_wp2_with fail
                        go_roundw
                        case rel => exact ⟨ft + 1, rfl, by omega, by omega, T9⟩
                        case measure => simp [intOf]; omega
                      by_cases kk3 : kk = 3
                      · subst kk3
                        go_upto_region 40 with fail
                        clear d0 d1 d2 d3 d4 d5 d6 d7 d8 hf ci
                        replace ho := own_keep ho (grownBy_set wc wr.heap.size 4 (.int .i64 nn)) (Nat.lt_succ_self _)
                        replace hx := hx.set 4 (by simp) nn
                        replace hT := hT.setCell (p := ⟨wr.heap.size, 4, none⟩) (by simpa using hz) (.int .i64 nn)
                        generalize (wc.setCell ⟨wr.heap.size, 4, none⟩ (.int .i64 nn)) = w5 at *
                        change Sg w5 _ [k, t, f, h, nn, o, s, a] _ at hx
                        have hr := ho.rd
                        clear ho
                        have hS : One w5 wr.heap.size [k, t, f, h, nn, o, s, a] (.slice A n c) w5.drew := ⟨hx, (Below.refl w5.heap.size w5).drew⟩
                        have hz5 := hT.size
                        rw [knS_size] at hz5
                        clear hx
                        refine wp_region_held_drew (S := One w5 wr.heap.size [k, t, f, h, nn, o, s, a] (.slice A n c)) (by kernel_rfl) hS (fun _ => ?_)
                        refine takeD (i := 0) (v := .agg #[.int .i64 k, .int .i64 t, .int .i64 f, .int .i64 h, .int .i64 nn, .int .i64 o, .int .i64 s, .int .i64 a, .slice A n c]) (some 84) rfl rfl (by kernel_rfl) (by kernel_rfl) (by kernel_rfl) (fun _ _ _ h => h) (Or.inl ⟨by rfl, ?_⟩) hS ?_
                        · rintro w' ⟨s1, s3⟩
                          obtain ⟨d0, d1, d2, d3, d4, d5, d6, d7, d8⟩ := s1.nine
                          go_simp
                        try simp only [Act.put, List.setIfInBounds_toArray, List.set_cons_zero, List.set_cons_succ]
                        refine wpAnyH_ready (rs := [1]) (by kernel_rfl) (by simp) ?_
                        refine AllReadyH.cons rfl (fun K hK => ?_) AllReadyH.nil
                        go_simp
                        go_at_call 3
                        refine (segBytes_any ((hr.below hS.2).more hS.2.size) hl (by omega)).mono ?_
                        rintro e w6 ⟨rfl, hb6⟩
                        refine hK.out _ _ (hS.step hb6) (fun hS1 => ?_)
                        clear hK K
                        try simp only [Act.put, List.setIfInBounds_toArray, List.set_cons_zero, List.set_cons_succ]
                        refine takeD (i := 2) (v := .bool false) (some 86) rfl rfl (by kernel_rfl) (by kernel_rfl) (by kernel_rfl) (fun _ _ _ h => h) (Or.inl ⟨by rfl, ?_⟩) hS1 ?_
                        · rintro w' _
                          go_simp
                        try simp only [Act.put, List.setIfInBounds_toArray, List.set_cons_zero, List.set_cons_succ]
                        refine takeD (i := 3) (v := .bool false) (some 87) rfl rfl (by kernel_rfl) (by kernel_rfl) (by kernel_rfl) (fun _ _ _ h => h) (Or.inl ⟨by rfl, ?_⟩) hS1 ?_
                        · rintro w' _
                          go_simp
                        try simp only [Act.put, List.setIfInBounds_toArray, List.set_cons_zero, List.set_cons_succ]
                        refine takeD (i := 4) (v := .agg #[.int .i64 k, .int .i64 t, .int .i64 f, .int .i64 h, .int .i64 nn, .int .i64 o, .int .i64 s, .int .i64 a, .slice A n c]) (some 88) rfl rfl (by kernel_rfl) (by kernel_rfl) (by kernel_rfl) (fun _ _ _ h => h) (Or.inl ⟨by rfl, ?_⟩) hS1 ?_
                        · rintro w' ⟨s1, s3⟩
                          obtain ⟨d0, d1, d2, d3, d4, d5, d6, d7, d8⟩ := s1.nine
                          go_simp
                        try simp only [Act.put, List.setIfInBounds_toArray, List.set_cons_zero, List.set_cons_succ]
                        refine takeD (i := 5) (v := .agg #[.int .i64 k, .int .i64 t, .int .i64 f, .int .i64 h, .int .i64 nn, .int .i64 o, .int .i64 s, .int .i64 a, .slice A n c]) (some 89) rfl rfl (by kernel_rfl) (by kernel_rfl) (by kernel_rfl) (fun _ _ _ h => h) (Or.inl ⟨by rfl, ?_⟩) hS1 ?_
                        · rintro w' ⟨s1, s3⟩
                          obtain ⟨d0, d1, d2, d3, d4, d5, d6, d7, d8⟩ := s1.nine
                          go_simp
                        try simp only [Act.put, List.setIfInBounds_toArray, List.set_cons_zero, List.set_cons_succ]
                        refine wpAnyH_ready (rs := [6]) (by kernel_rfl) (by simp) ?_
                        refine AllReadyH.cons rfl (fun K hK => ?_) AllReadyH.nil
                        go_simp
                        go_at_call 21
                        refine (made_any k t f h nn o s a A n c w5.heap.size l _ (hr.below hS1.2) hS1.2.size hl).mono ?_
                        rintro e w7 ⟨k', t', f', h', p', o', s', a', l', A', n', c', rfl, ho7, ok7, hl7, hb7⟩
                        refine hK.out _ _ (hS1.step hb7) (fun hS2 => ?_)
                        clear hK K
                        try simp only [Act.put, List.setIfInBounds_toArray, List.set_cons_zero, List.set_cons_succ]
                        refine wpAnyH_ready (rs := [7]) (by kernel_rfl) (by simp) ?_
                        refine AllReadyH.cons rfl (fun K hK => ?_) AllReadyH.nil
                        go_simp
                        go_at_call 5
                        refine (segSame_any ((hr.below hS2.2).more hS2.2.size) ho7.rd hl hl7).mono ?_
                        rintro e w8 ⟨rfl, hb8⟩
                        refine hK.out _ _ (hS2.step hb8) (fun hS3 => ?_)
                        clear hK K
                        try simp only [Act.put, List.setIfInBounds_toArray, List.set_cons_zero, List.set_cons_succ]
                        refine takeD (i := 8) (v := .bool false) (some 92) rfl rfl (by kernel_rfl) (by kernel_rfl) (by kernel_rfl) (fun _ _ _ h => h) (Or.inl ⟨by rfl, ?_⟩) hS3 ?_
                        · rintro w' _
                          go_simp
                        try simp only [Act.put, List.setIfInBounds_toArray, List.set_cons_zero, List.set_cons_succ]
                        refine takeD (i := 9) (v := .bool false) (some 93) rfl rfl (by kernel_rfl) (by kernel_rfl) (by kernel_rfl) (fun _ _ _ h => h) (Or.inl ⟨by rfl, ?_⟩) hS3 ?_
                        · rintro w' _
                          go_simp
                        try simp only [Act.put, List.setIfInBounds_toArray, List.set_cons_zero, List.set_cons_succ]
                        refine wpAnyH_done (by kernel_rfl) ?_ _
                        have T9 := hT.trans (hS3.2.mono hz5)
                        clear hS hS1 hS2 hS3 hb6 hb7 hb8 ho7 ok7 hl7 hr hT
                        go_wp2_with fail
                        go_roundw
                        case rel => exact ⟨ft + 1, rfl, by omega, by omega, T9⟩
                        case measure => simp [intOf]; omega
                      by_cases kk4 : kk = 4
                      · subst kk4
                        go_upto_region 40 with fail
                        clear d0 d1 d2 d3 d4 d5 d6 d7 d8 hf ci
                        replace ho := own_keep ho (grownBy_set wc wr.heap.size 5 (.int .i64 nn)) (Nat.lt_succ_self _)
                        replace hx := hx.set 5 (by simp) nn
                        replace hT := hT.setCell (p := ⟨wr.heap.size, 5, none⟩) (by simpa using hz) (.int .i64 nn)
                        generalize (wc.setCell ⟨wr.heap.size, 5, none⟩ (.int .i64 nn)) = w5 at *
                        change Sg w5 _ [k, t, f, h, p, nn, s, a] _ at hx
                        have hr := ho.rd
                        clear ho
                        have hS : One w5 wr.heap.size [k, t, f, h, p, nn, s, a] (.slice A n c) w5.drew := ⟨hx, (Below.refl w5.heap.size w5).drew⟩
                        have hz5 := hT.size
                        rw [knS_size] at hz5
                        clear hx
                        refine wp_region_held_drew (S := One w5 wr.heap.size [k, t, f, h, p, nn, s, a] (.slice A n c)) (by kernel_rfl) hS (fun _ => ?_)
                        refine takeD (i := 0) (v := .agg #[.int .i64 k, .int .i64 t, .int .i64 f, .int .i64 h, .int .i64 p, .int .i64 nn, .int .i64 s, .int .i64 a, .slice A n c]) (some 84) rfl rfl (by kernel_rfl) (by kernel_rfl) (by kernel_rfl) (fun _ _ _ h => h) (Or.inl ⟨by rfl, ?_⟩) hS ?_
                        · rintro w' ⟨s1, s3⟩
                          obtain ⟨d0, d1, d2, d3, d4, d5, d6, d7, d8⟩ := s1.nine
                          go_simp
                        try simp only [Act.put, List.setIfInBounds_toArray, List.set_cons_zero, List.set_cons_succ]
                        refine wpAnyH_ready (rs := [1]) (by kernel_rfl) (by simp) ?_
                        refine AllReadyH.cons rfl (fun K hK => ?_) AllReadyH.nil
                        go_simp
                        go_at_call 3
                        refine (segBytes_any ((hr.below hS.2).more hS.2.size) hl (by omega)).mono ?_
                        rintro e w6 ⟨rfl, hb6⟩
                        refine hK.out _ _ (hS.step hb6) (fun hS1 => ?_)
                        clear hK K
                        try simp only [Act.put, List.setIfInBounds_toArray, List.set_cons_zero, List.set_cons_succ]
                        refine takeD (i := 2) (v := .bool false) (some 86) rfl rfl (by kernel_rfl) (by kernel_rfl) (by kernel_rfl) (fun _ _ _ h => h) (Or.inl ⟨by rfl, ?_⟩) hS1 ?_
                        · rintro w' _
                          go_simp
                        try simp only [Act.put, List.setIfInBounds_toArray, List.set_cons_zero, List.set_cons_succ]
                        refine takeD (i := 3) (v := .bool false) (some 87) rfl rfl (by kernel_rfl) (by kernel_rfl) (by kernel_rfl) (fun _ _ _ h => h) (Or.inl ⟨by rfl, ?_⟩) hS1 ?_
                        · rintro w' _
                          go_simp
                        try simp only [Act.put, List.setIfInBounds_toArray, List.set_cons_zero, List.set_cons_succ]
                        refine takeD (i := 4) (v := .agg #[.int .i64 k, .int .i64 t, .int .i64 f, .int .i64 h, .int .i64 p, .int .i64 nn, .int .i64 s, .int .i64 a, .slice A n c]) (some 88) rfl rfl (by kernel_rfl) (by kernel_rfl) (by kernel_rfl) (fun _ _ _ h => h) (Or.inl ⟨by rfl, ?_⟩) hS1 ?_
                        · rintro w' ⟨s1, s3⟩
                          obtain ⟨d0, d1, d2, d3, d4, d5, d6, d7, d8⟩ := s1.nine
                          go_simp
                        try simp only [Act.put, List.setIfInBounds_toArray, List.set_cons_zero, List.set_cons_succ]
                        refine takeD (i := 5) (v := .agg #[.int .i64 k, .int .i64 t, .int .i64 f, .int .i64 h, .int .i64 p, .int .i64 nn, .int .i64 s, .int .i64 a, .slice A n c]) (some 89) rfl rfl (by kernel_rfl) (by kernel_rfl) (by kernel_rfl) (fun _ _ _ h => h) (Or.inl ⟨by rfl, ?_⟩) hS1 ?_
                        · rintro w' ⟨s1, s3⟩
                          obtain ⟨d0, d1, d2, d3, d4, d5, d6, d7, d8⟩ := s1.nine
                          go_simp
                        try simp only [Act.put, List.setIfInBounds_toArray, List.set_cons_zero, List.set_cons_succ]
                        refine wpAnyH_ready (rs := [6]) (by kernel_rfl) (by simp) ?_
                        refine AllReadyH.cons rfl (fun K hK => ?_) AllReadyH.nil
                        go_simp
                        go_at_call 21
                        refine (made_any k t f h p nn s a A n c w5.heap.size l _ (hr.below hS1.2) hS1.2.size hl).mono ?_
                        rintro e w7 ⟨k', t', f', h', p', o', s', a', l', A', n', c', rfl, ho7, ok7, hl7, hb7⟩
                        refine hK.out _ _ (hS1.step hb7) (fun hS2 => ?_)
                        clear hK K
                        try simp only [Act.put, List.setIfInBounds_toArray, List.set_cons_zero, List.set_cons_succ]
                        refine wpAnyH_ready (rs := [7]) (by kernel_rfl) (by simp) ?_
                        refine AllReadyH.cons rfl (fun K hK => ?_) AllReadyH.nil
                        go_simp
                        go_at_call 5
                        refine (segSame_any ((hr.below hS2.2).more hS2.2.size) ho7.rd hl hl7).mono ?_
                        rintro e w8 ⟨rfl, hb8⟩
                        refine hK.out _ _ (hS2.step hb8) (fun hS3 => ?_)
                        clear hK K
                        try simp only [Act.put, List.setIfInBounds_toArray, List.set_cons_zero, List.set_cons_succ]
                        refine takeD (i := 8) (v := .bool false) (some 92) rfl rfl (by kernel_rfl) (by kernel_rfl) (by kernel_rfl) (fun _ _ _ h => h) (Or.inl ⟨by rfl, ?_⟩) hS3 ?_
                        · rintro w' _
                          go_simp
                        try simp only [Act.put, List.setIfInBounds_toArray, List.set_cons_zero, List.set_cons_succ]
                        refine takeD (i := 9) (v := .bool false) (some 93) rfl rfl (by kernel_rfl) (by kernel_rfl) (by kernel_rfl) (fun _ _ _ h => h) (Or.inl ⟨by rfl, ?_⟩) hS3 ?_
                        · rintro w' _
                          go_simp
                        try simp only [Act.put, List.setIfInBounds_toArray, List.set_cons_zero, List.set_cons_succ]
                        refine wpAnyH_done (by kernel_rfl) ?_ _
                        have T9 := hT.trans (hS3.2.mono hz5)
                        clear hS hS1 hS2 hS3 hb6 hb7 hb8 ho7 ok7 hl7 hr hT
                        go_wp2_with fail
                        go_roundw
                        case rel => exact ⟨ft + 1, rfl, by omega, by omega, T9⟩
                        case measure => simp [intOf]; omega
                      by_cases kk5 : kk = 5
                      · subst kk5
                        go_upto_region 40 with fail
                        clear d0 d1 d2 d3 d4 d5 d6 d7 d8 hf ci
                        replace ho := own_keep ho (grownBy_set wc wr.heap.size 6 (.int .i64 nn)) (Nat.lt_succ_self _)
                        replace hx := hx.set 6 (by simp) nn
                        replace hT := hT.setCell (p := ⟨wr.heap.size, 6, none⟩) (by simpa using hz) (.int .i64 nn)
                        generalize (wc.setCell ⟨wr.heap.size, 6, none⟩ (.int .i64 nn)) = w5 at *
                        change Sg w5 _ [k, t, f, h, p, o, nn, a] _ at hx
                        have hr := ho.rd
                        clear ho
                        have hS : One w5 wr.heap.size [k, t, f, h, p, o, nn, a] (.slice A n c) w5.drew := ⟨hx, (Below.refl w5.heap.size w5).drew⟩
                        have hz5 := hT.size
                        rw [knS_size] at hz5
                        clear hx
                        refine wp_region_held_drew (S := One w5 wr.heap.size [k, t, f, h, p, o, nn, a] (.slice A n c)) (by kernel_rfl) hS (fun _ => ?_)
                        refine takeD (i := 0) (v := .agg #[.int .i64 k, .int .i64 t, .int .i64 f, .int .i64 h, .int .i64 p, .int .i64 o, .int .i64 nn, .int .i64 a, .slice A n c]) (some 84) rfl rfl (by kernel_rfl) (by kernel_rfl) (by kernel_rfl) (fun _ _ _ h => h) (Or.inl ⟨by rfl, ?_⟩) hS ?_
                        · rintro w' ⟨s1, s3⟩
                          obtain ⟨d0, d1, d2, d3, d4, d5, d6, d7, d8⟩ := s1.nine
                          go_simp
                        try simp only [Act.put, List.setIfInBounds_toArray, List.set_cons_zero, List.set_cons_succ]
                        refine wpAnyH_ready (rs := [1]) (by kernel_rfl) (by simp) ?_
                        refine AllReadyH.cons rfl (fun K hK => ?_) AllReadyH.nil
                        go_simp
                        go_at_call 3
                        refine (segBytes_any ((hr.below hS.2).more hS.2.size) hl (by omega)).mono ?_
                        rintro e w6 ⟨rfl, hb6⟩
                        refine hK.out _ _ (hS.step hb6) (fun hS1 => ?_)
                        clear hK K
                        try simp only [Act.put, List.setIfInBounds_toArray, List.set_cons_zero, List.set_cons_succ]
                        refine takeD (i := 2) (v := .bool false) (some 86) rfl rfl (by kernel_rfl) (by kernel_rfl) (by kernel_rfl) (fun _ _ _ h => h) (Or.inl ⟨by rfl, ?_⟩) hS1 ?_
                        · rintro w' _
                          go_simp
                        try simp only [Act.put, List.setIfInBounds_toArray, List.set_cons_zero, List.set_cons_succ]
                        refine takeD (i := 3) (v := .bool false) (some 87) rfl rfl (by kernel_rfl) (by kernel_rfl) (by kernel_rfl) (fun _ _ _ h => h) (Or.inl ⟨by rfl, ?_⟩) hS1 ?_
                        · rintro w' _
                          go_simp
                        try simp only [Act.put, List.setIfInBounds_toArray, List.set_cons_zero, List.set_cons_succ]
                        refine takeD (i := 4) (v := .agg #[.int .i64 k, .int .i64 t, .int .i64 f, .int .i64 h, .int .i64 p, .int .i64 o, .int .i64 nn, .int .i64 a, .slice A n c]) (some 88) rfl rfl (by kernel_rfl) (by kernel_rfl) (by kernel_rfl) (fun _ _ _ h => h) (Or.inl ⟨by rfl, ?_⟩) hS1 ?_
                        · rintro w' ⟨s1, s3⟩
                          obtain ⟨d0, d1, d2, d3, d4, d5, d6, d7, d8⟩ := s1.nine
                          go_simp
                        try simp only [Act.put, List.setIfInBounds_toArray, List.set_cons_zero, List.set_cons_succ]
                        refine takeD (i := 5) (v := .agg #[.int .i64 k, .int .i64 t, .int .i64 f, .int .i64 h, .int .i64 p, .int .i64 o, .int .i64 nn, .int .i64 a, .slice A n c]) (some 89) rfl rfl (by kernel_rfl) (by kernel_rfl) (by kernel_rfl) (fun _ _ _ h => h) (Or.inl ⟨by rfl, ?_⟩) hS1 ?_
                        · rintro w' ⟨s1, s3⟩
                          obtain ⟨d0, d1, d2, d3, d4, d5, d6, d7, d8⟩ := s1.nine
                          go_simp
                        try simp only [Act.put, List.setIfInBounds_toArray, List.set_cons_zero, List.set_cons_succ]
                        refine wpAnyH_ready (rs := [6]) (by kernel_rfl) (by simp) ?_
                        refine AllReadyH.cons rfl (fun K hK => ?_) AllReadyH.nil
                        go_simp
                        go_at_call 21
                        refine (made_any k t f h p o nn a A n c w5.heap.size l _ (hr.below hS1.2) hS1.2.size hl).mono ?_
                        rintro e w7 ⟨k', t', f', h', p', o', s', a', l', A', n', c', rfl, ho7, ok7, hl7, hb7⟩
                        refine hK.out _ _ (hS1.step hb7) (fun hS2 => ?_)
                        clear hK K
                        try simp only [Act.put, List.setIfInBounds_toArray, List.set_cons_zero, List.set_cons_succ]
                        refine wpAnyH_ready (rs := [7]) (by kernel_rfl) (by simp) ?_
                        refine AllReadyH.cons rfl (fun K hK => ?_) AllReadyH.nil
                        go_simp
                        go_at_call 5
                        refine (segSame_any ((hr.below hS2.2).more hS2.2.size) ho7.rd hl hl7).mono ?_
                        rintro e w8 ⟨rfl, hb8⟩
                        refine hK.out _ _ (hS2.step hb8) (fun hS3 => ?_)
                        clear hK K
                        try simp only [Act.put, List.setIfInBounds_toArray, List.set_cons_zero, List.set_cons_succ]
                        refine takeD (i := 8) (v := .bool false) (some 92) rfl rfl (by kernel_rfl) (by kernel_rfl) (by kernel_rfl) (fun _ _ _ h => h) (Or.inl ⟨by rfl, ?_⟩) hS3 ?_
                        · rintro w' _
                          go_simp
                        try simp only [Act.put, List.setIfInBounds_toArray, List.set_cons_zero, List.set_cons_succ]
                        refine takeD (i := 9) (v := .bool false) (some 93) rfl rfl (by kernel_rfl) (by kernel_rfl) (by kernel_rfl) (fun _ _ _ h => h) (Or.inl ⟨by rfl, ?_⟩) hS3 ?_
                        · rintro w' _
                          go_simp
                        try simp only [Act.put, List.setIfInBounds_toArray, List.set_cons_zero, List.set_cons_succ]
                        refine wpAnyH_done (by kernel_rfl) ?_ _
                        have T9 := hT.trans (hS3.2.mono hz5)
                        clear hS hS1 hS2 hS3 hb6 hb7 hb8 ho7 ok7 hl7 hr hT
                        go_wp2_with fail
                        go_roundw
                        case rel => exact ⟨ft + 1, rfl, by omega, by omega, T9⟩
                        case measure => simp [intOf]; omega
                      by_cases kk6 : kk = 6
                      · subst kk6
                        go_upto_region 40 with fail
                        clear d0 d1 d2 d3 d4 d5 d6 d7 d8 hf ci
                        replace ho := own_keep ho (grownBy_set wc wr.heap.size 7 (.int .i64 nn)) (Nat.lt_succ_self _)
                        replace hx := hx.set 7 (by simp) nn
                        replace hT := hT.setCell (p := ⟨wr.heap.size, 7, none⟩) (by simpa using hz) (.int .i64 nn)
                        generalize (wc.setCell ⟨wr.heap.size, 7, none⟩ (.int .i64 nn)) = w5 at *
                        change Sg w5 _ [k, t, f, h, p, o, s, nn] _ at hx
                        have hr := ho.rd
                        clear ho
                        have hS : One w5 wr.heap.size [k, t, f, h, p, o, s, nn] (.slice A n c) w5.drew := ⟨hx, (Below.refl w5.heap.size w5).drew⟩
                        have hz5 := hT.size
                        rw [knS_size] at hz5
                        clear hx
                        refine wp_region_held_drew (S := One w5 wr.heap.size [k, t, f, h, p, o, s, nn] (.slice A n c)) (by kernel_rfl) hS (fun _ => ?_)
                        refine takeD (i := 0) (v := .agg #[.int .i64 k, .int .i64 t, .int .i64 f, .int .i64 h, .int .i64 p, .int .i64 o, .int .i64 s, .int .i64 nn, .slice A n c]) (some 84) rfl rfl (by kernel_rfl) (by kernel_rfl) (by kernel_rfl) (fun _ _ _ h => h) (Or.inl ⟨by rfl, ?_⟩) hS ?_
                        · rintro w' ⟨s1, s3⟩
                          obtain ⟨d0, d1, d2, d3, d4, d5, d6, d7, d8⟩ := s1.nine
                          go_simp
                        try simp only [Act.put, List.setIfInBounds_toArray, List.set_cons_zero, List.set_cons_succ]
                        refine wpAnyH_ready (rs := [1]) (by kernel_rfl) (by simp) ?_
                        refine AllReadyH.cons rfl (fun K hK => ?_) AllReadyH.nil
                        go_simp
                        go_at_call 3
                        refine (segBytes_any ((hr.below hS.2).more hS.2.size) hl (by omega)).mono ?_
                        rintro e w6 ⟨rfl, hb6⟩
                        refine hK.out _ _ (hS.step hb6) (fun hS1 => ?_)
                        clear hK K
                        try simp only [Act.put, List.setIfInBounds_toArray, List.set_cons_zero, List.set_cons_succ]
                        refine takeD (i := 2) (v := .bool false) (some 86) rfl rfl (by kernel_rfl) (by kernel_rfl) (by kernel_rfl) (fun _ _ _ h => h) (Or.inl ⟨by rfl, ?_⟩) hS1 ?_
                        · rintro w' _
                          go_simp
                        try simp only [Act.put, List.setIfInBounds_toArray, List.set_cons_zero, List.set_cons_succ]
                        refine takeD (i := 3) (v := .bool false) (some 87) rfl rfl (by kernel_rfl) (by kernel_rfl) (by kernel_rfl) (fun _ _ _ h => h) (Or.inl ⟨by rfl, ?_⟩) hS1 ?_
                        · rintro w' _
                          go_simp
                        try simp only [Act.put, List.setIfInBounds_toArray, List.set_cons_zero, List.set_cons_succ]
                        refine takeD (i := 4) (v := .agg #[.int .i64 k, .int .i64 t, .int .i64 f, .int .i64 h, .int .i64 p, .int .i64 o, .int .i64 s, .int .i64 nn, .slice A n c]) (some 88) rfl rfl (by kernel_rfl) (by kernel_rfl) (by kernel_rfl) (fun _ _ _ h => h) (Or.inl ⟨by rfl, ?_⟩) hS1 ?_
                        · rintro w' ⟨s1, s3⟩
                          obtain ⟨d0, d1, d2, d3, d4, d5, d6, d7, d8⟩ := s1.nine
                          go_simp
                        try simp only [Act.put, List.setIfInBounds_toArray, List.set_cons_zero, List.set_cons_succ]
                        refine takeD (i := 5) (v := .agg #[.int .i64 k, .int .i64 t, .int .i64 f, .int .i64 h, .int .i64 p, .int .i64 o, .int .i64 s, .int .i64 nn, .slice A n c]) (some 89) rfl rfl (by kernel_rfl) (by kernel_rfl) (by kernel_rfl) (fun _ _ _ h => h) (Or.inl ⟨by rfl, ?_⟩) hS1 ?_
                        · rintro w' ⟨s1, s3⟩
                          obtain ⟨d0, d1, d2, d3, d4, d5, d6, d7, d8⟩ := s1.nine
                          go_simp
                        try simp only [Act.put, List.setIfInBounds_toArray, List.set_cons_zero, List.set_cons_succ]
                        refine wpAnyH_ready (rs := [6]) (by kernel_rfl) (by simp) ?_
                        refine AllReadyH.cons rfl (fun K hK => ?_) AllReadyH.nil
                        go_simp
                        go_at_call 21
                        refine (made_any k t f h p o s nn A n c w5.heap.size l _ (hr.below hS1.2) hS1.2.size hl).mono ?_
                        rintro e w7 ⟨k', t', f', h', p', o', s', a', l', A', n', c', rfl, ho7, ok7, hl7, hb7⟩
                        refine hK.out _ _ (hS1.step hb7) (fun hS2 => ?_)
                        clear hK K
                        try simp only [Act.put, List.setIfInBounds_toArray, List.set_cons_zero, List.set_cons_succ]
                        refine wpAnyH_ready (rs := [7]) (by kernel_rfl) (by simp) ?_
                        refine AllReadyH.cons rfl (fun K hK => ?_) AllReadyH.nil
                        go_simp
                        go_at_call 5
                        refine (segSame_any ((hr.below hS2.2).more hS2.2.size) ho7.rd hl hl7).mono ?_
                        rintro e w8 ⟨rfl, hb8⟩
                        refine hK.out _ _ (hS2.step hb8) (fun hS3 => ?_)
                        clear hK K
                        try simp only [Act.put, List.setIfInBounds_toArray, List.set_cons_zero, List.set_cons_succ]
                        refine takeD (i := 8) (v := .bool false) (some 92) rfl rfl (by kernel_rfl) (by kernel_rfl) (by kernel_rfl) (fun _ _ _ h => h) (Or.inl ⟨by rfl, ?_⟩) hS3 ?_
                        · rintro w' _
                          go_simp
                        try simp only [Act.put, List.setIfInBounds_toArray, List.set_cons_zero, List.set_cons_succ]
                        refine takeD (i := 9) (v := .bool false) (some 93) rfl rfl (by kernel_rfl) (by kernel_rfl) (by kernel_rfl) (fun _ _ _ h => h) (Or.inl ⟨by rfl, ?_⟩) hS3 ?_
                        · rintro w' _
                          go_simp
                        try simp only [Act.put, List.setIfInBounds_toArray, List.set_cons_zero, List.set_cons_succ]
                        refine wpAnyH_done (by kernel_rfl) ?_ _
                        have T9 := hT.trans (hS3.2.mono hz5)
                        clear hS hS1 hS2 hS3 hb6 hb7 hb8 ho7 ok7 hl7 hr hT
                        go_wp2_with fail
                        go_roundw
                        case rel => exact ⟨ft + 1, rfl, by omega, by omega, T9⟩
                        case measure => simp [intOf]; omega
                      obtain rfl : kk = 7 := by omega
                      have hbr := Ser.bringP_bd nn 258 (by omega)
                      obtain ⟨m, hm⟩ : ∃ m : Nat, Ser.bringP nn 258 = m := ⟨(Ser.bringP nn 258).toNat, by omega⟩
                      go_upto_region 25 with fail
                      have hmk := fun w => run_zeros m (by omega) (m : Int) rfl w
                      have hxa : Sg (wc.alloc (noughts m)) wr.heap.size [k, t, f, h, p, o, s, a] (.slice A n c) := hx.alloc _
                      have hra := rd_zeros m (by omega) wc
                      have hTa := hT.trans ((below_alloc wc (noughts m)).mono (by have := hT.size; rw [knS_size] at this; omega))
                      have hltc := hx.lt
                      clear d0 d1 d2 d3 d4 d5 d6 d7 d8 hf ci
                      obtain ⟨d0, d1, d2, d3, d4, d5, d6, d7, d8⟩ := hxa.nine
                      have hf := hxa.free
                      go_upto_region 40 with (go_at_call 23; refine (Ser.bring_any _ _ _ (by omega) (by omega)).mono ?_; rintro e w' ⟨rfl, rfl⟩; rw [hm])
                      clear d0 d1 d2 d3 d4 d5 d6 d7 d8 hf hmk
                      have hzs : (wc.setCell ⟨wr.heap.size, 8, none⟩ (.slice (some ⟨wc.heap.size, 0, none⟩) m m)).heap.size = wc.heap.size := by simp [World.setCell]
                      have hxs := hx.setMsg (.slice (some ⟨wc.heap.size, 0, none⟩) m m)
                      change Sg (wc.setCell ⟨wr.heap.size, 8, none⟩ (.slice (some ⟨wc.heap.size, 0, none⟩) m m)) _ _ _ at hxs
                      have hTs := hT.setCell (p := ⟨wr.heap.size, 8, none⟩) (by simpa using hz) (.slice (some ⟨wc.heap.size, 0, none⟩) m m)
                      have hra2 := rd_zeros m (by omega) (wc.setCell ⟨wr.heap.size, 8, none⟩ (.slice (some ⟨wc.heap.size, 0, none⟩) m m))
                      rw [hzs] at hra2
                      have hr0 := hra2.more (B' := ((wc.setCell ⟨wr.heap.size, 8, none⟩ (.slice (some ⟨wc.heap.size, 0, none⟩) m m)).alloc (noughts m)).heap.size) (by rw [alloc_size, hzs]; omega)
                      have hxq := hxs.alloc (noughts m)
                      have hTq := hTs.trans ((below_alloc (wc.setCell ⟨wr.heap.size, 8, none⟩ (.slice (some ⟨wc.heap.size, 0, none⟩) m m)) (noughts m)).mono (by have := hTs.size; rw [knS_size] at this; omega))
                      clear hx ho hl hT hxa hra hzs hn hxs hTs hra2 hTa
                      generalize ((wc.setCell ⟨wr.heap.size, 8, none⟩ (.slice (some ⟨wc.heap.size, 0, none⟩) m m)).alloc (noughts m)) = w5 at *
                      have hl := zeros_by m
                      generalize List.replicate m (0 : Int) = lz at *
                      have hn : m ≤ 300 := by omega
                      have hx := hxq
                      have hr := hr0
                      have hT := hTq
                      clear hxq hr0 hTq hm hbr
                      have hS : One w5 wr.heap.size [k, t, f, h, p, o, s, a] (.slice (some ⟨wc.heap.size, 0, none⟩) m m) w5.drew := ⟨hx, (Below.refl w5.heap.size w5).drew⟩
                      have hz5 := hT.size
                      rw [knS_size] at hz5
                      clear hx
                      refine wp_region_held_drew (S := One w5 wr.heap.size [k, t, f, h, p, o, s, a] (.slice (some ⟨wc.heap.size, 0, none⟩) m m)) (by kernel_rfl) hS (fun _ => ?_)
                      refine takeD (i := 0) (v := .agg #[.int .i64 k, .int .i64 t, .int .i64 f, .int .i64 h, .int .i64 p, .int .i64 o, .int .i64 s, .int .i64 a, .slice (some ⟨wc.heap.size, 0, none⟩) m m]) (some 84) rfl rfl (by kernel_rfl) (by kernel_rfl) (by kernel_rfl) (fun _ _ _ h => h) (Or.inl ⟨by rfl, ?_⟩) hS ?_
                      · rintro w' ⟨s1, s3⟩
                        obtain ⟨d0, d1, d2, d3, d4, d5, d6, d7, d8⟩ := s1.nine
                        go_simp
                      try simp only [Act.put, List.setIfInBounds_toArray, List.set_cons_zero, List.set_cons_succ]
                      refine wpAnyH_ready (rs := [1]) (by kernel_rfl) (by simp) ?_
                      refine AllReadyH.cons rfl (fun K hK => ?_) AllReadyH.nil
                      go_simp
                      go_at_call 3
                      refine (segBytes_any ((hr.below hS.2).more hS.2.size) hl (by omega)).mono ?_
                      rintro e w6 ⟨rfl, hb6⟩
                      refine hK.out _ _ (hS.step hb6) (fun hS1 => ?_)
                      clear hK K
                      try simp only [Act.put, List.setIfInBounds_toArray, List.set_cons_zero, List.set_cons_succ]
                      refine takeD (i := 2) (v := .bool false) (some 86) rfl rfl (by kernel_rfl) (by kernel_rfl) (by kernel_rfl) (fun _ _ _ h => h) (Or.inl ⟨by rfl, ?_⟩) hS1 ?_
                      · rintro w' _
                        go_simp
                      try simp only [Act.put, List.setIfInBounds_toArray, List.set_cons_zero, List.set_cons_succ]
                      refine takeD (i := 3) (v := .bool false) (some 87) rfl rfl (by kernel_rfl) (by kernel_rfl) (by kernel_rfl) (fun _ _ _ h => h) (Or.inl ⟨by rfl, ?_⟩) hS1 ?_
                      · rintro w' _
                        go_simp
                      try simp only [Act.put, List.setIfInBounds_toArray, List.set_cons_zero, List.set_cons_succ]
                      refine takeD (i := 4) (v := .agg #[.int .i64 k, .int .i64 t, .int .i64 f, .int .i64 h, .int .i64 p, .int .i64 o, .int .i64 s, .int .i64 a, .slice (some ⟨wc.heap.size, 0, none⟩) m m]) (some 88) rfl rfl (by kernel_rfl) (by kernel_rfl) (by kernel_rfl) (fun _ _ _ h => h) (Or.inl ⟨by rfl, ?_⟩) hS1 ?_
                      · rintro w' ⟨s1, s3⟩
                        obtain ⟨d0, d1, d2, d3, d4, d5, d6, d7, d8⟩ := s1.nine
                        go_simp
                      try simp only [Act.put, List.setIfInBounds_toArray, List.set_cons_zero, List.set_cons_succ]
                      refine takeD (i := 5) (v := .agg #[.int .i64 k, .int .i64 t, .int .i64 f, .int .i64 h, .int .i64 p, .int .i64 o, .int .i64 s, .int .i64 a, .slice (some ⟨wc.heap.size, 0, none⟩) m m]) (some 89) rfl rfl (by kernel_rfl) (by kernel_rfl) (by kernel_rfl) (fun _ _ _ h => h) (Or.inl ⟨by rfl, ?_⟩) hS1 ?_
                      · rintro w' ⟨s1, s3⟩
                        obtain ⟨d0, d1, d2, d3, d4, d5, d6, d7, d8⟩ := s1.nine
                        go_simp
                      try simp only [Act.put, List.setIfInBounds_toArray, List.set_cons_zero, List.set_cons_succ]
                      refine wpAnyH_ready (rs := [6]) (by kernel_rfl) (by simp) ?_
                      refine AllReadyH.cons rfl (fun K hK => ?_) AllReadyH.nil
                      go_simp
                      go_at_call 21
                      refine (made_any k t f h p o s a (some ⟨wc.heap.size, 0, none⟩) m m w5.heap.size lz _ (hr.below hS1.2) hS1.2.size hl).mono ?_
                      rintro e w7 ⟨k', t', f', h', p', o', s', a', l', A', n', c', rfl, ho7, ok7, hl7, hb7⟩
                      refine hK.out _ _ (hS1.step hb7) (fun hS2 => ?_)
                      clear hK K
                      try simp only [Act.put, List.setIfInBounds_toArray, List.set_cons_zero, List.set_cons_succ]
                      refine wpAnyH_ready (rs := [7]) (by kernel_rfl) (by simp) ?_
                      refine AllReadyH.cons rfl (fun K hK => ?_) AllReadyH.nil
                      go_simp
                      go_at_call 5
                      refine (segSame_any ((hr.below hS2.2).more hS2.2.size) ho7.rd hl hl7).mono ?_
                      rintro e w8 ⟨rfl, hb8⟩
                      refine hK.out _ _ (hS2.step hb8) (fun hS3 => ?_)
                      clear hK K
                      try simp only [Act.put, List.setIfInBounds_toArray, List.set_cons_zero, List.set_cons_succ]
                      refine takeD (i := 8) (v := .bool false) (some 92) rfl rfl (by kernel_rfl) (by kernel_rfl) (by kernel_rfl) (fun _ _ _ h => h) (Or.inl ⟨by rfl, ?_⟩) hS3 ?_
                      · rintro w' _
                        go_simp
                      try simp only [Act.put, List.setIfInBounds_toArray, List.set_cons_zero, List.set_cons_succ]
                      refine takeD (i := 9) (v := .bool false) (some 93) rfl rfl (by kernel_rfl) (by kernel_rfl) (by kernel_rfl) (fun _ _ _ h => h) (Or.inl ⟨by rfl, ?_⟩) hS3 ?_
                      · rintro w' _
                        go_simp
                      try simp only [Act.put, List.setIfInBounds_toArray, List.set_cons_zero, List.set_cons_succ]
                      refine wpAnyH_done (by kernel_rfl) ?_ _
                      have T9 := hT.trans (hS3.2.mono hz5)
                      clear hS hS1 hS2 hS3 hb6 hb7 hb8 ho7 ok7 hl7 hr hT
                      go_wp2_with fail
                      go_roundw
                      case rel => exact ⟨ft + 1, rfl, by omega, by omega, T9⟩
                      case measure => simp [intOf]; omega
                    · obtain rfl : ft = 2 := by omega
                      go_wp2_with fail
                      go_roundw
                      case rel => exact ⟨kk + 1, by go_num, by omega, by omega, hb5⟩
                      case measure => simp [intOf]; omega
                · obtain rfl : kk = 8 := by omega
                  go_wp2_with fail
                  go_roundw
                  case rel => exact ⟨ix + 1, by go_num, by omega, by omega, hb4⟩
                  case measure => simp [intOf]; omega
            · obtain rfl : ix = 15 := by omega
              go_wp2_with fail
              go_roundw
              case rel => exact ⟨wy + 1, by go_num, by omega, by omega, hb3⟩
              case measure => simp [intOf]; omega
        · obtain rfl : wy = 2 := by omega
          go_wp2_with fail
          go_roundw
          case rel => exact ⟨kd + 1, by go_num, by omega, by omega, hb2⟩
          case measure => simp [intOf]; omega
    · obtain rfl : kd = 8 := by omega
      have hm18 := fun w => run_zeros 18 (by omega) 18 rfl w
      have hm256 := fun w => run_zeros 256 (by omega) 256 rfl w
      have hm257 := fun w => run_zeros 257 (by omega) 257 rfl w
      go_wp2_with fail
      have T0 := (knS_below w).trans (hb1.mono (by omega))
      have z0 := T0.size
      refine (seal_any 2 (rd_zeros 18 (by omega) wr) (zeros_by 18) (by simp) (by omega)).mono ?_
      rintro e v2 ⟨A2, n2, c2, rfl, ho2, t2⟩
      have hn2 : n2 ≤ 512 := by have h1 := ho2.len; have h2 := sealP_len 2 (List.replicate 18 0); omega
      have t2x : Below wr.heap.size wr v2 := (below_alloc wr (noughts 18)).trans (t2.mono (by simp))
      have T2 := T0.trans (t2x.mono z0)
      have z2 := T2.size
      have hq := ho2.rd
      have hby := sealP_by 2 _ (zeros_by 18)
      generalize (sealP 2 (List.replicate 18 0)).1 = ls at *
      clear ho2 t2 t2x hb1 T0
      go_wp2_with fail
      refine (worksS_any _).mono ?_
      rintro e v3 ⟨rfl, t3⟩
      have T3 := T2.trans (t3.mono z2)
      have z3 := T3.size
      replace hq := (hq.below t3).more t3.size
      go_wp2_with fail
      refine (segParses_any hq hby (by omega)).mono ?_
      rintro e v4 ⟨rfl, t4⟩
      have T4 := T3.trans (t4.mono z3)
      have z4 := T4.size
      go_wp2_with fail
      refine (segParses_any (Rd.nil .u8 v4 v4.heap.size) By.nil (by omega)).mono ?_
      rintro e v5 ⟨rfl, t5⟩
      have T5 := T4.trans (t5.mono z4)
      have z5 := T5.size
      clear hq
      go_wp2_with fail
      have t6 := below_alloc v5 (noughts 256)
      have r6 := (rd_zeros 256 (by omega) v5).more (B' := (v5.alloc (noughts 256)).heap.size) (by simp)
      refine (segBack_any 5 6 0 12 1 0 0 0 (some ⟨v5.heap.size, 0, none⟩) 256 256 (List.replicate 256 0) _ r6 (zeros_by 256)).mono ?_
      rintro e v7 ⟨rfl, t7⟩
      have T7 := (T5.trans (t6.mono z5)).trans (t7.mono (by simp; omega))
      have z7 := T7.size
      clear r6 t6 t7
      go_wp2_with fail
      have t8 := below_alloc v7 (noughts 257)
      have r8 := (rd_zeros 257 (by omega) v7).more (B' := (v7.alloc (noughts 257)).heap.size) (by simp)
      refine (segBack_any 5 6 0 12 1 0 0 0 (some ⟨v7.heap.size, 0, none⟩) 257 257 (List.replicate 257 0) _ r8 (zeros_by 257)).mono ?_
      rintro e v9 ⟨rfl, t9⟩
      have T9 := (T7.trans (t8.mono z7)).trans (t9.mono (by simp; omega))
      go_wp2_with fail
      go_ret
      exact ⟨rfl, T9⟩
end Go.Proofs.Ytbniefgfiafaoaa.Oct
