/- The walk of GroupFirst. -/
import Derived.Test.YtlambnlehomkdaaGrpG
namespace Go.Proofs.Ytlambnlehomkdaa.Oct
open Go.RowKit
open Go.Proofs.Ytlambnlehomkdaa.Ser (bringP bring_any bringP_bd)
set_option linter.unusedVariables false
set_option linter.unusedSimpArgs false

theorem getD_mem {l : List Int} {j : Nat} (h : j < l.length) : l.getD j 0 ∈ l := by
  rw [List.getD_eq_getElem?_getD, List.getElem?_eq_getElem h]
  exact List.getElem_mem _
theorem getD_inj {l : List Int} {i j : Nat} (hn : l.Nodup) (hi : i < l.length) (hj : j < l.length) (h : l.getD i 0 = l.getD j 0) : i = j := by
  rw [List.getD_eq_getElem?_getD, List.getD_eq_getElem?_getD, List.getElem?_eq_getElem hi, List.getElem?_eq_getElem hj] at h
  have h : l[i] = l[j] := h
  exact (List.getElem_inj hn).1 h
/-- The bools say which of the ports live. -/
def Tells (s : Int) (ps : List Int) (ub : List Bool) : Prop := ∀ j, j < ps.length → bitG s (ps.getD j 0) = ub.getD j false
theorem tells_upd {s : Int} {ps : List Int} {ub : List Bool} {k : Nat} {b : Bool} (h : Tells s ps ub) (hs : Sg s) (hp : ∀ p ∈ ps, 1 ≤ p ∧ p ≤ 4) (hn : ps.Nodup) (hk : k < ps.length) (hu : ub.length = 4) (hl : ps.length ≤ 4) : Tells (liveG s (ps.getD k 0) b) ps (ub.set k b) := by
  intro j hj
  rw [live_bit hs (hp _ (getD_mem hk)) (hp _ (getD_mem hj))]
  by_cases e : k = j
  · subst e
    rw [if_pos rfl, List.getD_eq_getElem?_getD, List.getElem?_set_self (by omega)]
    rfl
  · rw [if_neg (fun h2 => e (getD_inj hn hk hj h2)), h j hj, List.getD_eq_getElem?_getD, List.getD_eq_getElem?_getD, List.getElem?_set_ne e]
/-- now is the first place of which the bools say so; the length, if there is none. -/
def Fp (M : Nat) (ub : List Bool) (now : Nat) : Prop := now ≤ M ∧ (∀ j, j < now → ub.getD j false = false) ∧ (now < M → ub.getD now false = true)
theorem fp_one {M : Nat} {ub : List Bool} {a b : Nat} (h1 : Fp M ub a) (h2 : Fp M ub b) : a = b := by
  rcases Nat.lt_trichotomy a b with h | h | h
  · have e1 := h1.2.2 (by have := h2.1; omega)
    have e2 := h2.2.1 a h
    rw [e1] at e2; simp at e2
  · exact h
  · have e1 := h2.2.2 (by have := h1.1; omega)
    have e2 := h1.2.1 b h
    rw [e1] at e2; simp at e2
/-- A port behind the first one that lives changes nothing of it. -/
theorem fp_behind {M : Nat} {ub : List Bool} {k at_ now : Nat} {b : Bool} (h1 : Fp M ub at_) (h2 : Fp M (ub.set k b) now) (hk : at_ < k) (hkM : k < M) : now = at_ := by
  refine (fp_one ⟨h1.1, fun j hj => ?_, fun hlt => ?_⟩ h2).symm
  · rw [List.getD_eq_getElem?_getD, List.getElem?_set_ne (by omega), ← List.getD_eq_getElem?_getD]; exact h1.2.1 j hj
  · rw [List.getD_eq_getElem?_getD, List.getElem?_set_ne (by omega), ← List.getD_eq_getElem?_getD]; exact h1.2.2 hlt
theorem first_drop {s : Int} {ps : List Int} : ∀ now, now ≤ ps.length → (∀ j, j < now → bitG s (ps.getD j 0) = false) → firstG s ps = firstG s (ps.drop now)
  | 0, _, _ => rfl
  | n + 1, h, hj => by rw [first_drop n (by omega) (fun j h2 => hj j (by omega)), drop_step (by omega), firstG_no (hj n (by omega))]
theorem first_fp {s : Int} {ps : List Int} {ub : List Bool} {now : Nat} (ht : Tells s ps ub) (h : Fp ps.length ub now) : firstB s ps = decide (now < ps.length) ∧ (now < ps.length → firstN s ps = ps.getD now 0) := by
  have hd := first_drop now h.1 (fun j hj => by rw [ht j (by have := h.1; omega)]; exact h.2.1 j hj)
  unfold firstB firstN
  rw [hd]
  by_cases hlt : now < ps.length
  · rw [drop_step hlt, firstG_yes (by rw [ht now hlt]; exact h.2.2 hlt), decide_eq_true hlt]
    exact ⟨rfl, fun _ => rfl⟩
  · rw [List.drop_eq_nil_of_le (by omega), decide_eq_false hlt]
    exact ⟨rfl, fun h => absurd h hlt⟩
theorem ub_cell {ub : List Bool} (h : ub.length = 4) {j : Nat} (hj : j < 4) : (ub.map Value.bool)[j]? = some (.bool (ub.getD j false)) := by
  rw [List.getElem?_map, List.getD_eq_getElem?_getD, List.getElem?_eq_getElem (by omega)]; rfl
theorem Oi.cells_at {w : World} {base g n c : Nat} {l : List Int} (h : Oi w base (.slice (some ⟨g, 0, none⟩) n c) n l) {j : Nat} (hj : j < n) : w.cell? ⟨g, j, none⟩ = some (.int .i64 (l.getD j 0)) := by
  obtain ⟨b, off, e, _, hc⟩ := h.rd.at_ (by omega)
  have e := Option.some.inj e
  injection e with e1 e2 _
  subst e1 e2
  have := hc j hj
  rwa [Nat.zero_add] at this
set_option maxRecDepth 100000 in
set_option maxHeartbeats 16000000 in
theorem groupFirst_any {w : World} {tn mn : Int} {A2 : Option Addr} {n2 c2 : Nat} {ds : List (Int × Bool)} (h2 : Dp w w.heap.size A2 n2 c2 ds) : Calls Try.prog 9 #[.int .i64 tn, .int .i64 mn, .slice A2 n2 c2] w fun e w' => e = .returned (.bool true) ∧ Below w.heap.size w w' := by
  have hm2 := h2.max
  have HD := Kp.mk h2
  clear h2
  go_enter Try.func9, Try.ntmps9
  go_wp2_with fail
  refine (gworks_any w).mono ?_
  rintro e w1 ⟨rfl, hB⟩
  go_wp2_with fail
  refine (grows_any tn mn w1).mono ?_
  rintro e w2 ⟨A, M, c, ps, lf, rfl, hO, hM4, hperm, hb2⟩
  obtain ⟨hnd, hpp, t, ht, hst, hall⟩ := perm_ports hperm
  have hlen := hO.len
  have HB1 := Kp.mk hB.size
  replace hB := hB.trans (hb2.mono hB.size)
  have HLO := Kp.mk hB.size
  have HW1 := Kp.mk hb2.size
  have HPS := Kp.mk (show ps.Nodup ∧ (∀ p ∈ ps, 1 ≤ p ∧ p ≤ 4) ∧ ps.length = M ∧ M ≤ 4 from ⟨hnd, hpp, hlen, hM4⟩)
  have HALL := Kp.mk hall
  clear hperm hnd hpp hall hb2 hlen
  go_wp2_with fail
  refine (gnew_any hO.rd (Nat.le_refl _) (by omega)).mono ?_
  rintro e w3 ⟨hb3, ⟨h0, _⟩ | ⟨s, g, h0, rfl, hG⟩⟩
  · rw [ht] at h0; simp at h0
  obtain rfl : t = s := by rw [ht] at h0; exact Option.some.inj h0
  have HOB := Kp.mk (fun k (hk : (Value.slice A M c).ownBlock = some k) => hO.lt k hk)
  replace hO := hO.below hb3
  replace hB := hB.trans (hb3.mono hB.size)
  have hb4 := below_alloc w3 (.cells #[.bool true, .bool true, .bool true, .bool true] 4)
  have hU : Vb 4 (w3.alloc (.cells #[.bool true, .bool true, .bool true, .bool true] 4)) w3.heap.size ([true, true, true, true].map Value.bool) := Vb.new 4 w3 [.bool true, .bool true, .bool true, .bool true]
  replace hO := hO.below hb4
  replace hG := hG.below' hb4 (Nat.le_refl _)
  replace hB := hB.trans (hb4.mono hB.size)
  have HI0 := Kp.mk (show ([true, true, true, true] : List Bool).length = 4 ∧ Tells t ps [true, true, true, true] ∧ Fp M [true, true, true, true] 0 from ⟨rfl, fun j hj => by
    rw [HALL.out _ (getD_mem hj)]
    have hj4 : j < 4 := by have := HPS.out.2.2.1; omega
    have : j = 0 ∨ j = 1 ∨ j = 2 ∨ j = 3 := by omega
    rcases this with rfl | rfl | rfl | rfl <;> rfl, Nat.zero_le _, fun j hj => by omega, fun _ => rfl⟩)
  clear hb3 hb4 HALL h0 HB1 ht
  go_upto_region 8 with fail
  generalize (w3.alloc (.cells #[.bool true, .bool true, .bool true, .bool true] 4)) = w4 at *
  generalize w2.heap.size = lo at *
  generalize w3.heap.size = gb at *
  generalize w1.heap.size = lo0 at *
  go_wp2_with fail
  go_loopw [11, 12] (fun s11 s12 wr => ∃ (at_ i : Nat) (s : Int) (ub : List Bool), s11 = .int .i64 at_ ∧ s12 = .int .i64 i ∧ i ≤ n2 ∧ i ≤ 100 ∧ Gb wr lo gb g ps s ∧ Vb 4 wr gb (ub.map Value.bool) ∧ Oi wr lo0 (.slice A M c) M ps ∧ Kp (ub.length = 4 ∧ Tells s ps ub ∧ Fp M ub at_) ∧ Below w.heap.size w wr) (fun _ s12 _ => 100 - (intOf s12).toNat)
  case atStart => exact ⟨0, 0, t, [true, true, true, true], rfl, rfl, Nat.zero_le _, Nat.zero_le _, hG, hU, hO, HI0, hB⟩
  case round =>
    clear hG hU hO HI0 hB hst
    obtain ⟨at_, i, s, ub, rfl, rfl, hi1, hi2, hG, hU, hO, HI, hB⟩ := hrel
    by_cases hgo : (i : Int) < n2 ∧ (i : Int) < 100 ∧ 0 < M
    · obtain ⟨j1, j2, j3⟩ := hgo
      have HD2 := HD.out.below hB
      obtain ⟨b, off, eA, hbl, hcc⟩ := HD2.2.2.2.2 (by omega)
      subst eA
      obtain ⟨⟨dp, du⟩, hd⟩ : ∃ d, ds[i]? = some d := ⟨_, List.getElem?_eq_getElem (by have := HD2.1; omega)⟩
      obtain ⟨c1, c2⟩ := hcc i _ hd
      have HBL := Kp.mk hbl
      clear hcc hd hbl HD2
      obtain ⟨gp, cp, hv, hgp1, hgp2, hgp3, hgp4, hcell⟩ := hO.at_ j3
      injection hv with ha _ hcp
      subst ha hcp
      have HGP := Kp.mk (HOB.out gp rfl)
      have hbb := bringP_bd dp M (by omega)
      obtain ⟨kk, hkk⟩ : ∃ x : Nat, bringP dp M = x := ⟨(bringP dp M).toNat, by omega⟩
      have hkM : kk < M := by omega
      have HKM := Kp.mk hkM
      have q1 : (kk : Int) < M := by omega
      have HJ3 := Kp.mk j3
      have hj3 : (0 : Int) < M := by omega
      obtain ⟨d1, _⟩ := hcell kk hkM
      have HXM := Kp.mk (show ps.getD kk 0 ∈ ps from getD_mem (by rw [HPS.out.2.2.1]; exact hkM))
      have hcl := fun W (h : Gb W lo gb g ps s) => glive_any h (ps.getD kk 0) du
      rw [show liveE (ps.getD kk 0) ps = 0 from if_pos HXM.out, show liveS s (ps.getD kk 0) du ps = liveG s (ps.getD kk 0) du from if_pos HXM.out] at hcl
      have HCL := Kp.mk hcl
      have HT2 := Kp.mk (tells_upd (b := du) HI.out.2.1 hG.ok.2.1 HPS.out.2.1 HPS.out.1 (by rw [HPS.out.2.2.1]; exact hkM) HI.out.1 (by rw [HPS.out.2.2.1]; exact HPS.out.2.2.2))
      generalize liveG s (ps.getD kk 0) du = s2 at *
      obtain ⟨x, hx⟩ : ∃ x, x = ps.getD kk 0 := ⟨_, rfl⟩
      rw [← hx] at d1 HXM HCL
      have HX := Kp.mk hx
      clear hcl hx hcell hgp1 hgp2 hgp3 hgp4 hbb
      go_upto_region 13 with (refine (bring_any dp M _ (by omega) (by omega)).mono ?_; rintro e w' ⟨rfl, rfl⟩; rw [hkk])
      have hbd0 := (Below.refl wr.heap.size wr).drew
      have hS0 : (fun W => W.cell? ⟨gp, kk, none⟩ = some (.int .i64 x) ∧ W.cell? ⟨b, off + i * 2 + 1, none⟩ = some (.bool du)) wr.drew := ⟨d1, c2⟩
      replace hG := hG.below' hbd0 hG.lt.2.2
      replace hU := hU.below hbd0 hU.lt
      replace hO := hO.below hbd0
      replace hB := hB.trans (hbd0.mono hB.size)
      refine wp_region_held_drew (S := fun W => W.cell? ⟨gp, kk, none⟩ = some (.int .i64 x) ∧ W.cell? ⟨b, off + i * 2 + 1, none⟩ = some (.bool du)) (by kernel_rfl) hS0 (fun _ => ?_)
      clear d1 c1 c2 hbd0
      generalize wr.drew = u0 at *
      refine takeD (i := 0) (v := .pointer (some ⟨g, 0, none⟩)) (some 54) rfl rfl (by kernel_rfl) (by kernel_rfl) (by kernel_rfl) (fun _ _ _ h => h) (Or.inl ⟨by rfl, ?_⟩) hS0 ?_
      · rintro w' _
        go_simp
      try simp only [Act.put, List.setIfInBounds_toArray, List.set_cons_zero, List.set_cons_succ]
      refine takeD (i := 1) (v := .slice (some ⟨gp, 0, none⟩) M c) (some 55) rfl rfl (by kernel_rfl) (by kernel_rfl) (by kernel_rfl) (fun _ _ _ h => h) (Or.inl ⟨by rfl, ?_⟩) hS0 ?_
      · rintro w' _
        go_simp
      try simp only [Act.put, List.setIfInBounds_toArray, List.set_cons_zero, List.set_cons_succ]
      refine takeD (i := 2) (v := .int .i64 kk) (some 56) rfl rfl (by kernel_rfl) (by kernel_rfl) (by kernel_rfl) (fun _ _ _ h => h) (Or.inl ⟨by rfl, ?_⟩) hS0 ?_
      · rintro w' _
        go_simp
      try simp only [Act.put, List.setIfInBounds_toArray, List.set_cons_zero, List.set_cons_succ]
      refine takeD (i := 3) (v := .pointer (some ⟨gp, kk, none⟩)) (some 57) rfl rfl (by kernel_rfl) (by kernel_rfl) (by kernel_rfl) (fun _ _ _ h => h) (Or.inl ⟨by rfl, ?_⟩) hS0 ?_
      · rintro w' _
        go_simp
      try simp only [Act.put, List.setIfInBounds_toArray, List.set_cons_zero, List.set_cons_succ]
      refine takeD (i := 4) (v := .int .i64 x) (some 58) rfl rfl (by kernel_rfl) (by kernel_rfl) (by kernel_rfl) (fun _ _ _ h => h) (Or.inl ⟨by rfl, ?_⟩) hS0 ?_
      · rintro w' ⟨s0, _⟩
        go_simp
      try simp only [Act.put, List.setIfInBounds_toArray, List.set_cons_zero, List.set_cons_succ]
      refine takeD (i := 5) (v := .slice (some ⟨b, off, none⟩) n2 c2) (some 59) rfl rfl (by kernel_rfl) (by kernel_rfl) (by kernel_rfl) (fun _ _ _ h => h) (Or.inl ⟨by rfl, ?_⟩) hS0 ?_
      · rintro w' _
        go_simp
      try simp only [Act.put, List.setIfInBounds_toArray, List.set_cons_zero, List.set_cons_succ]
      refine takeD (i := 6) (v := .int .i64 i) (some 60) rfl rfl (by kernel_rfl) (by kernel_rfl) (by kernel_rfl) (fun _ _ _ h => h) (Or.inl ⟨by rfl, ?_⟩) hS0 ?_
      · rintro w' _
        go_simp
      try simp only [Act.put, List.setIfInBounds_toArray, List.set_cons_zero, List.set_cons_succ]
      refine takeD (i := 7) (v := .pointer (some ⟨b, off + i * 2, none⟩)) (some 61) rfl rfl (by kernel_rfl) (by kernel_rfl) (by kernel_rfl) (fun _ _ _ h => h) (Or.inl ⟨by rfl, ?_⟩) hS0 ?_
      · rintro w' _
        go_simp
      try simp only [Act.put, List.setIfInBounds_toArray, List.set_cons_zero, List.set_cons_succ]
      refine takeD (i := 8) (v := .pointer (some ⟨b, off + i * 2 + 1, none⟩)) (some 62) rfl rfl (by kernel_rfl) (by kernel_rfl) (by kernel_rfl) (fun _ _ _ h => h) (Or.inl ⟨by rfl, ?_⟩) hS0 ?_
      · rintro w' _
        go_simp
      try simp only [Act.put, List.setIfInBounds_toArray, List.set_cons_zero, List.set_cons_succ]
      refine takeD (i := 9) (v := .bool du) (some 63) rfl rfl (by kernel_rfl) (by kernel_rfl) (by kernel_rfl) (fun _ _ _ h => h) (Or.inl ⟨by rfl, ?_⟩) hS0 ?_
      · rintro w' ⟨_, s0⟩
        go_simp
      try simp only [Act.put, List.setIfInBounds_toArray, List.set_cons_zero, List.set_cons_succ]
      refine wpAnyH_ready (rs := [10]) (by kernel_rfl) (by simp) ?_
      refine AllReadyH.cons rfl (fun K hK => ?_) AllReadyH.nil
      go_simp
      go_at_call 44
      refine (HCL.out _ hG).mono ?_
      rintro e u1 ⟨rfl, hG1, hg1⟩
      have hne1 : b ≠ g := by have := HBL.out; have := hG.lt.1; have := HLO.out; omega
      have hne2 : gp ≠ g := by have := HGP.out; have := hG.lt.1; omega
      have hS1 : (fun W => W.cell? ⟨gp, kk, none⟩ = some (.int .i64 x) ∧ W.cell? ⟨b, off + i * 2 + 1, none⟩ = some (.bool du)) u1 := ⟨grown_cell hg1 hS0.1 hne2, grown_cell hg1 hS0.2 hne1⟩
      have hB1 := hB.grown hg1 hB.size (fun x e => by have e := Option.some.inj e; have := hG.lt.1; have := HLO.out; omega)
      have hU1 := hU.grown hg1 (by have := hG.lt.2.1; omega)
      have hO1 := hO.grown hg1 (.inr (fun e => hne2 (by simpa [Value.ownBlock] using e)))
      refine hK.out _ _ hS1 (fun _ => ?_)
      clear hK K hG hU hO hB hg1 hS0
      try simp only [Act.put, List.setIfInBounds_toArray, List.set_cons_zero, List.set_cons_succ]
      refine takeD (i := 11) (v := .bool false) (some 65) rfl rfl (by kernel_rfl) (by kernel_rfl) (by kernel_rfl) (fun _ _ _ h => h) (Or.inl ⟨by rfl, ?_⟩) hS1 ?_
      · rintro w' _
        go_simp
      try simp only [Act.put, List.setIfInBounds_toArray, List.set_cons_zero, List.set_cons_succ]
      refine wpAnyH_done (by kernel_rfl) ?_ _
      have c2 := hS1.2
      clear hS1
      have du1 := hU1.cell kk (ub_cell HI.out.1 (by have := HKM.out; have := HPS.out.2.2.2; omega))
      have hf := hU1.free
      have q4 : (kk : Int) < 4 := by have := HPS.out.2.2.2; omega
      go_upto_region 16 with fail
      have hU2 := hU1.set kk (.bool du)
      rw [← List.map_set] at hU2
      have hbs := (Below.refl gb u1).setCell (p := ⟨gb, kk, none⟩) (Nat.le_refl _) (.bool du)
      have hG2 := hG1.below hbs
      have hO2 := hO1.keep hbs (fun k hk => Nat.lt_of_lt_of_le (HOB.out k hk).2 (show lo ≤ gb from by have := hG1.lt; omega))
      have hB2 := hB1.setCell (p := ⟨gb, kk, none⟩) (by have := hG1.lt; have := HLO.out; show w.heap.size ≤ gb; omega) (.bool du)
      have HU4 := Kp.mk (show (ub.set kk du).length = 4 by rw [List.length_set]; exact HI.out.1)
      have HFB := Kp.mk (fun now (h : Fp M (ub.set kk du) now) (hlt : at_ < kk) => fp_behind HI.out.2.2 h hlt HKM.out)
      clear hU1 hG1 hO1 hB1 hbs hf du1 c2 HI
      generalize u1.setCell ⟨gb, kk, none⟩ (.bool du) = u2 at *
      generalize ub.set kk du = ub2 at *
      go_wp2_with fail
      go_loopw [14] (fun s14 wx => ∃ j : Nat, s14 = .int .i64 j ∧ j ≤ M ∧ wx = u2 ∧ Kp (∀ q, q < j → ub2.getD q false = false)) (fun s14 _ => M - (intOf s14).toNat)
      case atStart => exact ⟨0, rfl, Nat.zero_le _, rfl, Kp.mk (fun q hq => by omega)⟩
      case round =>
        obtain ⟨j, rfl, hj, hwr, HQ⟩ := hrel
        subst hwr
        by_cases hgo2 : j < M ∧ ub2.getD j false = false
        · obtain ⟨k1, k2⟩ := hgo2
          have e1 := hU2.cell j (ub_cell HU4.out (by have := HPS.out.2.2.2; omega))
          rw [k2] at e1
          have k3 : (j : Int) < M := by omega
          have k4 : (j : Int) < 4 := by have := HPS.out.2.2.2; omega
          have HQ2 := Kp.mk (show ∀ q, q < j + 1 → ub2.getD q false = false from fun q hq => by
            by_cases e : q < j
            · exact HQ.out q e
            · obtain rfl : q = j := by omega
              exact k2)
          clear k2
          go_wp2_with fail
          go_roundw
          case rel => exact ⟨j + 1, by go_num, by omega, trivial, HQ2⟩
          case measure => simp [intOf]; omega
        have HF := Kp.mk (show Fp M ub2 j from ⟨hj, HQ.out, fun hlt => by
          cases hb : ub2.getD j false with
          | true => rfl
          | false => exact absurd ⟨hlt, hb⟩ hgo2⟩)
        go_upto_region 17 with fail
        go_cut [84] from 74 to 86 (fun v wx => v = .bool false ∧ wx = wr)
        case first =>
          by_cases k1 : j < M
          · have e1 := hU2.cell j (ub_cell HU4.out (by have := HPS.out.2.2.2; omega))
            rw [HF.out.2.2 k1] at e1
            have k3 : (j : Int) < M := by omega
            have k4 : (j : Int) < 4 := by have := HPS.out.2.2.2; omega
            clear hgo2 hG2 hU2 hO2 hB2
            go_wp2_with fail
            go_meet
            case rel => exact ⟨rfl, rfl⟩
          · have k3 : ¬ (j : Int) < M := by omega
            clear hgo2 hG2 hU2 hO2 hB2
            go_wp2_with fail
            go_meet
            case rel => exact ⟨rfl, rfl⟩
        obtain ⟨rfl, hwc⟩ := hcut
        subst hwc
        have HFF := Kp.mk (first_fp HT2.out (by rw [HPS.out.2.2.1]; exact HF.out))
        rw [HPS.out.2.2.1] at HFF
        have hfi := gfirst_any hG2
        generalize firstN s2 ps = fa at *
        generalize firstB s2 ps = fb at *
        go_wp2_with fail
        refine hfi.mono ?_
        rintro e u4 ⟨rfl, hb⟩
        replace hG2 := hG2.below' hb hG2.lt.2.2
        replace hU2 := hU2.below hb hU2.lt
        replace hO2 := hO2.below hb
        replace hB2 := hB2.trans (hb.mono hB2.size)
        clear hb hgo2 hfi
        go_upto_region 20 with fail
        go_cut [118] from 92 to 118 (fun v wx => v = .bool false ∧ wx = u4)
        case first =>
          by_cases k1 : j < M
          · have k3 : (j : Int) < M := by omega
            have e1 := hO2.cells_at k1
            have hfb := HFF.out.1
            rw [decide_eq_true k1] at hfb
            have hfa := HFF.out.2 k1
            generalize ps.getD j 0 = y at *
            subst hfb
            subst hfa
            have k8 : (fa != fa) = false := by simp
            clear hG2 hU2 hO2 hB2
            by_cases k5 : at_ < kk
            · obtain rfl : j = at_ := HFB.out j HF.out k5
              have k6 : (j : Int) < kk := by omega
              have k7 : ((j : Int) != j) = false := by simp
              clear k5
              go_wp2_with fail
              go_meet
              case rel => exact ⟨rfl, rfl⟩
            · have k6 : ¬ (at_ : Int) < kk := by omega
              clear k5
              go_wp2_with fail
              go_meet
              case rel => exact ⟨rfl, rfl⟩
          · have k3 : ¬ (j : Int) < M := by omega
            have hfb := HFF.out.1
            rw [decide_eq_false k1] at hfb
            subst hfb
            clear hG2 hU2 hO2 hB2
            by_cases k5 : at_ < kk
            · obtain rfl : j = at_ := HFB.out j HF.out k5
              have k6 : (j : Int) < kk := by omega
              have k7 : ((j : Int) != j) = false := by simp
              clear k5
              go_wp2_with fail
              go_meet
              case rel => exact ⟨rfl, rfl⟩
            · have k6 : ¬ (at_ : Int) < kk := by omega
              clear k5
              go_wp2_with fail
              go_meet
              case rel => exact ⟨rfl, rfl⟩
        obtain ⟨rfl, hwc⟩ := hcut
        subst hwc
        have HG := Kp.mk hG2
        have HU := Kp.mk hU2
        have HO := Kp.mk hO2
        have HB := Kp.mk hB2
        clear hG2 hU2 hO2 hB2 HFF HQ
        have hb0 := Below.refl wc.heap.size wc
        go_wp2_with fail
        go_loopw [17] (fun s17 wx => ∃ q : Nat, s17 = .int .i64 q ∧ q ≤ M ∧ Below wc.heap.size wc wx) (fun s17 _ => M - (intOf s17).toNat)
        case atStart => exact ⟨0, rfl, Nat.zero_le _, hb0⟩
        case round =>
          clear hb0
          obtain ⟨q, rfl, hq, hbw⟩ := hrel
          have hG := HG.out.below' hbw HG.out.lt.2.2
          have hU := HU.out.below hbw HU.out.lt
          have hO := HO.out.below hbw
          by_cases hqM : q < M
          · have e1 := hO.cells_at hqM
            have e2 := hU.cell q (ub_cell HU4.out (by have := HPS.out.2.2.2; omega))
            have k3 : (q : Int) < M := by omega
            have k4 : (q : Int) < 4 := by have := HPS.out.2.2.2; omega
            have HTE := Kp.mk (HT2.out q (by rw [HPS.out.2.2.1]; exact hqM))
            have HYM := Kp.mk (show ps.getD q 0 ∈ ps from getD_mem (by rw [HPS.out.2.2.1]; exact hqM))
            generalize ps.getD q 0 = y at *
            generalize ub2.getD q false = bb at *
            have HUP := Kp.mk (show upG s2 y ps = bb by unfold upG; rw [decide_eq_true HYM.out, HTE.out]; rfl)
            clear hU hO
            go_upto_region 26 with fail
            have hbd := hbw.drew
            have hbd0 := (Below.refl wr.heap.size wr).drew
            replace hG := hG.below' hbd0 hG.lt.2.2
            have hS0 : (fun W => W.cell? ⟨gp, q, none⟩ = some (.int .i64 y) ∧ W.cell? ⟨gb, q, none⟩ = some (.bool bb)) wr.drew := ⟨e1, e2⟩
            refine wp_region_held_drew (S := fun W => W.cell? ⟨gp, q, none⟩ = some (.int .i64 y) ∧ W.cell? ⟨gb, q, none⟩ = some (.bool bb)) (by kernel_rfl) hS0 (fun _ => ?_)
            clear e1 e2 hbw hbd0
            generalize wr.drew = u5 at *
            refine takeD (i := 0) (v := .pointer (some ⟨g, 0, none⟩)) (some 126) rfl rfl (by kernel_rfl) (by kernel_rfl) (by kernel_rfl) (fun _ _ _ h => h) (Or.inl ⟨by rfl, ?_⟩) hS0 ?_
            · rintro w' _
              go_simp
            try simp only [Act.put, List.setIfInBounds_toArray, List.set_cons_zero, List.set_cons_succ]
            refine takeD (i := 1) (v := .slice (some ⟨gp, 0, none⟩) M c) (some 127) rfl rfl (by kernel_rfl) (by kernel_rfl) (by kernel_rfl) (fun _ _ _ h => h) (Or.inl ⟨by rfl, ?_⟩) hS0 ?_
            · rintro w' _
              go_simp
            try simp only [Act.put, List.setIfInBounds_toArray, List.set_cons_zero, List.set_cons_succ]
            refine takeD (i := 2) (v := .int .i64 q) (some 128) rfl rfl (by kernel_rfl) (by kernel_rfl) (by kernel_rfl) (fun _ _ _ h => h) (Or.inl ⟨by rfl, ?_⟩) hS0 ?_
            · rintro w' _
              go_simp
            try simp only [Act.put, List.setIfInBounds_toArray, List.set_cons_zero, List.set_cons_succ]
            refine takeD (i := 3) (v := .pointer (some ⟨gp, q, none⟩)) (some 129) rfl rfl (by kernel_rfl) (by kernel_rfl) (by kernel_rfl) (fun _ _ _ h => h) (Or.inl ⟨by rfl, ?_⟩) hS0 ?_
            · rintro w' _
              go_simp
            try simp only [Act.put, List.setIfInBounds_toArray, List.set_cons_zero, List.set_cons_succ]
            refine takeD (i := 4) (v := .int .i64 y) (some 130) rfl rfl (by kernel_rfl) (by kernel_rfl) (by kernel_rfl) (fun _ _ _ h => h) (Or.inl ⟨by rfl, ?_⟩) hS0 ?_
            · rintro w' ⟨s0, _⟩
              go_simp
            try simp only [Act.put, List.setIfInBounds_toArray, List.set_cons_zero, List.set_cons_succ]
            refine takeD (i := 6) (v := .slice (some ⟨gb, 0, none⟩) 4 4) (some 132) rfl rfl (by kernel_rfl) (by kernel_rfl) (by kernel_rfl) (fun _ _ _ h => h) (Or.inl ⟨by rfl, ?_⟩) hS0 ?_
            · rintro w' _
              go_simp
            try simp only [Act.put, List.setIfInBounds_toArray, List.set_cons_zero, List.set_cons_succ]
            refine takeD (i := 7) (v := .int .i64 q) (some 133) rfl rfl (by kernel_rfl) (by kernel_rfl) (by kernel_rfl) (fun _ _ _ h => h) (Or.inl ⟨by rfl, ?_⟩) hS0 ?_
            · rintro w' _
              go_simp
            try simp only [Act.put, List.setIfInBounds_toArray, List.set_cons_zero, List.set_cons_succ]
            refine takeD (i := 8) (v := .pointer (some ⟨gb, q, none⟩)) (some 134) rfl rfl (by kernel_rfl) (by kernel_rfl) (by kernel_rfl) (fun _ _ _ h => h) (Or.inl ⟨by rfl, ?_⟩) hS0 ?_
            · rintro w' _
              go_simp
            try simp only [Act.put, List.setIfInBounds_toArray, List.set_cons_zero, List.set_cons_succ]
            refine takeD (i := 9) (v := .bool bb) (some 135) rfl rfl (by kernel_rfl) (by kernel_rfl) (by kernel_rfl) (fun _ _ _ h => h) (Or.inl ⟨by rfl, ?_⟩) hS0 ?_
            · rintro w' ⟨_, s0⟩
              go_simp
            try simp only [Act.put, List.setIfInBounds_toArray, List.set_cons_zero, List.set_cons_succ]
            refine wpAnyH_ready (rs := [5]) (by kernel_rfl) (by simp) ?_
            refine AllReadyH.cons rfl (fun K hK => ?_) AllReadyH.nil
            go_simp
            go_at_call 50
            refine (gup_any hG y).mono ?_
            rintro e u6 ⟨rfl, rfl⟩
            rw [HUP.out]
            refine hK.out _ _ hS0 (fun _ => ?_)
            clear hK K
            try simp only [Act.put, List.setIfInBounds_toArray, List.set_cons_zero, List.set_cons_succ]
            refine takeD (i := 10) (v := .bool false) (some 136) rfl rfl (by kernel_rfl) (by kernel_rfl) (by kernel_rfl) (fun _ _ _ h => h) (Or.inl ⟨by rfl, ?_⟩) hS0 ?_
            · rintro w' _
              have he : (bb != bb) = false := by simp
              go_simp
            try simp only [Act.put, List.setIfInBounds_toArray, List.set_cons_zero, List.set_cons_succ]
            refine wpAnyH_done (by kernel_rfl) ?_ _
            clear hS0 hG
            go_wp2_with fail
            go_roundw
            case rel => first | exact ⟨q + 1, by go_num, by omega, hbd⟩ | omega
            case measure => simp [intOf]; omega
          obtain rfl : q = M := by omega
          have hB := HB.out.trans (hbw.mono HB.out.size)
          have HII := Kp.mk (show ub2.length = 4 ∧ Tells s2 ps ub2 ∧ Fp q ub2 j from ⟨HU4.out, HT2.out, HF.out⟩)
          go_wp2_with fail
          go_roundw
          case rel => exact ⟨j, i + 1, s2, ub2, rfl, by go_num, by omega, by omega, hG, hU, hO, HII, hB⟩
          case measure => simp [intOf]; omega
    clear hU
    by_cases k1 : (i : Int) < n2
    · by_cases k2 : (i : Int) < 100
      · have k3 : ¬ (0 : Int) < M := fun h => hgo ⟨k1, k2, by omega⟩
        clear hgo
        go_wp2_with fail
        refine (gports_any hG).mono ?_
        rintro e u5 ⟨Ap, cp, rfl, hOp, hb⟩
        replace hO := hO.below hb
        replace hB := hB.trans (hb.mono hB.size)
        clear hb
        go_wp2_with fail
        refine (eqInts_any hOp.rd hO.rd (Nat.le_refl _) (Nat.le_refl _)).mono ?_
        rintro e u6 ⟨rfl, hb⟩
        rw [decide_eq_true (rfl : ps = ps)]
        replace hB := hB.trans (hb.mono hB.size)
        clear hb
        go_wp2_with fail
        go_ret
        exact ⟨rfl, hB⟩
      · clear hgo
        go_wp2_with fail
        refine (gports_any hG).mono ?_
        rintro e u5 ⟨Ap, cp, rfl, hOp, hb⟩
        replace hO := hO.below hb
        replace hB := hB.trans (hb.mono hB.size)
        clear hb
        go_wp2_with fail
        refine (eqInts_any hOp.rd hO.rd (Nat.le_refl _) (Nat.le_refl _)).mono ?_
        rintro e u6 ⟨rfl, hb⟩
        rw [decide_eq_true (rfl : ps = ps)]
        replace hB := hB.trans (hb.mono hB.size)
        clear hb
        go_wp2_with fail
        go_ret
        exact ⟨rfl, hB⟩
    · clear hgo
      go_wp2_with fail
      refine (gports_any hG).mono ?_
      rintro e u5 ⟨Ap, cp, rfl, hOp, hb⟩
      replace hO := hO.below hb
      replace hB := hB.trans (hb.mono hB.size)
      clear hb
      go_wp2_with fail
      refine (eqInts_any hOp.rd hO.rd (Nat.le_refl _) (Nat.le_refl _)).mono ?_
      rintro e u6 ⟨rfl, hb⟩
      rw [decide_eq_true (rfl : ps = ps)]
      replace hB := hB.trans (hb.mono hB.size)
      clear hb
      go_wp2_with fail
      go_ret
      exact ⟨rfl, hB⟩
theorem groupFirst_walk (a0 a1 : Int) (ds2 : List (Int × Bool)) (b2 : Option Addr) (len2 cap2 : Nat) (W : World) (w0 : (Lit.int .i64 a0).wf = true) (w1 : (Lit.int .i64 a1).wf = true) (rd2 : Dp W W.heap.size b2 len2 cap2 ds2) : Calls Try.prog 9 #[.int .i64 a0, .int .i64 a1, .slice b2 len2 cap2] W fun e w' => e = .returned (.bool true) ∧ Below W.heap.size W w' := groupFirst_any rd2
end Go.Proofs.Ytlambnlehomkdaa.Oct
