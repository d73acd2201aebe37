/- Contracts of layer 13 (sender): the document's Fresh and Again; SameItems. -/
import Derived.Test.YtkpjnikbcgngbaaSndH
import Derived.BigQuiet
namespace Go.Proofs.Ytkpjnikbcgngbaa.Oct
open Go.RowKit
set_option linter.unusedVariables false
set_option linter.unusedSimpArgs false
section
variable {P : Nat → Prop} {w w' : World} {m wd said all : Nat} {nx : Int} {r : Option Nat} {ms : List (List Int)}
theorem Sm.at_ (h : Sm P w m wd nx said all r ms) {i : Nat} (hi : i < ms.length) : ∃ g off n c f, w.cell? ⟨m, 1, none⟩ = some (.int .i64 nx) ∧ w.cell? ⟨m, 2, none⟩ = some (.slice (some ⟨g, off, none⟩) n c) ∧ w.cell? ⟨g, off + i, none⟩ = some (.slice f.A f.n f.c) ∧ i < n ∧ n ≤ 512 ∧ ms[i]? = some f.l ∧ Fok P w f := by
  obtain ⟨A, c, fs, h1, h2, h3, h4, h5⟩ := h.ex
  have h6 := h.fit.2.2.2.2.1
  clear h
  subst h4
  have hl : i < fs.length := by simpa using hi
  have hj : fs[i]? = some fs[i] := List.getElem?_eq_getElem hl
  obtain ⟨g, off, rfl, hc⟩ := h2.cell hj
  exact ⟨g, off, _, c, fs[i], h1.cell 1 rfl, h1.cell 2 rfl, hc, hi, h6, by rw [List.getElem?_map, hj]; rfl, h5 _ (List.getElem_mem _)⟩
set_option maxRecDepth 100000 in
set_option maxHeartbeats 4000000 in
theorem mitems_any (h : Sm P w m wd nx said all r ms) (i j : Nat) (hij : i ≤ j) (hj : j ≤ ms.length) : Calls Try.prog 40 #[.pointer (some ⟨m, 0, none⟩), .int .i64 i, .int .i64 j] w fun e w' => ∃ A c its, e = .returned (.slice A (j - i) c) ∧ Om w' w.heap.size (.slice A (j - i) c) (j - i) its ∧ Tell (fun b => w.heap.size ≤ b) w' nx i ms its ∧ Below w.heap.size w w' := by
  have HFT := Kp.mk (And.intro h.fit (And.intro hij hj))
  have HNX := Kp.mk h.nxb
  have H := Kp.mk h
  clear h hij hj
  go_enter Try.func40, Try.ntmps40
  go_wp2_with fail
  go_loopw [7, 8] (fun s7 s8 wr => ∃ (k : Nat) (its : List (Int × FrV)), s8 = .int .i64 ((i + k : Nat) : Int) ∧ i + k ≤ j ∧ Om wr w.heap.size s7 k its ∧ Tell (fun b => w.heap.size ≤ b) wr nx i ms its ∧ Below w.heap.size w wr) (fun _ s8 _ => j - (intOf s8).toNat)
  case atStart => exact ⟨0, [], rfl, HFT.out.2.1, Om.nil0 _ _, Tell.nil0 _ _ _ _ _, Below.refl _ _⟩
  case round =>
    obtain ⟨k, its, rfl, hk, hO, hT, hB⟩ := hrel
    obtain ⟨A0, m0, rfl, -⟩ := hO.form
    obtain ⟨q, hq⟩ : ∃ q, q = i + k := ⟨_, rfl⟩
    have HI := Kp.mk hq
    rw [← hq] at hk ⊢
    clear hq
    by_cases hlt : (q : Int) < j
    · have hK1 := Kp.mk hlt
      obtain ⟨g, off, n, c, f, c1, c2, cc, hin, hn5, hms, hf⟩ := H.out.at_ (i := q) (by have := HFT.out.2.2; omega)
      have HC := Kp.mk (And.intro c1 (And.intro c2 cc))
      have HLT := Kp.mk (show m < w.heap.size ∧ g < w.heap.size from ⟨World.block_lt_of_cell? w _ c1, World.block_lt_of_cell? w _ cc⟩)
      have hb1 : (q : Int) < n := by omega
      have HM := Kp.mk hms
      have HF := Kp.mk hf
      have HP := Kp.mk (show n ≤ 512 ∧ q < n from ⟨hn5, hin⟩)
      have HO := Kp.mk hO
      have HT := Kp.mk hT
      clear c1 c2 cc hin hn5 hms hf hO hT hk
      go_upto_region 5 with fail
      refine wp_region_held_drew (S := fun X => Below w.heap.size w X) (by kernel_rfl) hB.drew (fun hS0 => ?_)
      have hbu : Below wr.heap.size wr wr.drew := (Below.refl _ _).drew
      have hO := HO.out.below hbu
      have hT := HT.out.below hbu
      clear HO HT hB hbu hlt
      generalize wr.drew = u at *
      refine takeD (i := 0) (v := .slice A0 k m0) (some 15) rfl rfl (by kernel_rfl) (by kernel_rfl) (by kernel_rfl) (fun _ _ _ h => h) (Or.inl ⟨by rfl, ?_⟩) hS0 ?_
      · rintro w' hq
        go_simp
      try simp only [Act.put, List.setIfInBounds_toArray, List.set_cons_zero, List.set_cons_succ]
      refine takeD (i := 1) (v := .pointer (some ⟨m, 0, none⟩)) (some 16) rfl rfl (by kernel_rfl) (by kernel_rfl) (by kernel_rfl) (fun _ _ _ h => h) (Or.inl ⟨by rfl, ?_⟩) hS0 ?_
      · rintro w' hq
        go_simp
      try simp only [Act.put, List.setIfInBounds_toArray, List.set_cons_zero, List.set_cons_succ]
      refine takeD (i := 2) (v := .pointer (some ⟨m, 0, none⟩)) (some 17) rfl rfl (by kernel_rfl) (by kernel_rfl) (by kernel_rfl) (fun _ _ _ h => h) (Or.inl ⟨by rfl, ?_⟩) hS0 ?_
      · rintro w' hq
        go_simp
      try simp only [Act.put, List.setIfInBounds_toArray, List.set_cons_zero, List.set_cons_succ]
      refine takeD (i := 3) (v := .pointer (some ⟨m, 1, none⟩)) (some 18) rfl rfl (by kernel_rfl) (by kernel_rfl) (by kernel_rfl) (fun _ _ _ h => h) (Or.inl ⟨by rfl, ?_⟩) hS0 ?_
      · rintro w' hq
        go_simp
      try simp only [Act.put, List.setIfInBounds_toArray, List.set_cons_zero, List.set_cons_succ]
      refine takeD (i := 4) (v := .int .i64 nx) (some 19) rfl rfl (by kernel_rfl) (by kernel_rfl) (by kernel_rfl) (fun _ _ _ h => h) (Or.inl ⟨by rfl, ?_⟩) hS0 ?_
      · rintro w' hq
        have c1 := (hq.cell (p := ⟨m, 1, none⟩) HLT.out.1).trans HC.out.1
        go_simp
      try simp only [Act.put, List.setIfInBounds_toArray, List.set_cons_zero, List.set_cons_succ]
      refine takeD (i := 5) (v := .int .i64 q) (some 20) rfl rfl (by kernel_rfl) (by kernel_rfl) (by kernel_rfl) (fun _ _ _ h => h) (Or.inl ⟨by rfl, ?_⟩) hS0 ?_
      · rintro w' hq
        go_simp
      try simp only [Act.put, List.setIfInBounds_toArray, List.set_cons_zero, List.set_cons_succ]
      refine takeD (i := 7) (v := .pointer (some ⟨m, 0, none⟩)) (some 22) rfl rfl (by kernel_rfl) (by kernel_rfl) (by kernel_rfl) (fun _ _ _ h => h) (Or.inl ⟨by rfl, ?_⟩) hS0 ?_
      · rintro w' hq
        go_simp
      try simp only [Act.put, List.setIfInBounds_toArray, List.set_cons_zero, List.set_cons_succ]
      refine takeD (i := 8) (v := .pointer (some ⟨m, 0, none⟩)) (some 23) rfl rfl (by kernel_rfl) (by kernel_rfl) (by kernel_rfl) (fun _ _ _ h => h) (Or.inl ⟨by rfl, ?_⟩) hS0 ?_
      · rintro w' hq
        go_simp
      try simp only [Act.put, List.setIfInBounds_toArray, List.set_cons_zero, List.set_cons_succ]
      refine takeD (i := 9) (v := .pointer (some ⟨m, 2, none⟩)) (some 24) rfl rfl (by kernel_rfl) (by kernel_rfl) (by kernel_rfl) (fun _ _ _ h => h) (Or.inl ⟨by rfl, ?_⟩) hS0 ?_
      · rintro w' hq
        go_simp
      try simp only [Act.put, List.setIfInBounds_toArray, List.set_cons_zero, List.set_cons_succ]
      refine takeD (i := 10) (v := .slice (some ⟨g, off, none⟩) n c) (some 25) rfl rfl (by kernel_rfl) (by kernel_rfl) (by kernel_rfl) (fun _ _ _ h => h) (Or.inl ⟨by rfl, ?_⟩) hS0 ?_
      · rintro w' hq
        have c2 := (hq.cell (p := ⟨m, 2, none⟩) HLT.out.1).trans HC.out.2.1
        go_simp
      try simp only [Act.put, List.setIfInBounds_toArray, List.set_cons_zero, List.set_cons_succ]
      refine takeD (i := 11) (v := .int .i64 q) (some 26) rfl rfl (by kernel_rfl) (by kernel_rfl) (by kernel_rfl) (fun _ _ _ h => h) (Or.inl ⟨by rfl, ?_⟩) hS0 ?_
      · rintro w' hq
        go_simp
      try simp only [Act.put, List.setIfInBounds_toArray, List.set_cons_zero, List.set_cons_succ]
      refine takeD (i := 12) (v := .pointer (some ⟨g, off + q, none⟩)) (some 27) rfl rfl (by kernel_rfl) (by kernel_rfl) (by kernel_rfl) (fun _ _ _ h => h) (Or.inl ⟨by rfl, ?_⟩) hS0 ?_
      · rintro w' hq
        go_simp
      try simp only [Act.put, List.setIfInBounds_toArray, List.set_cons_zero, List.set_cons_succ]
      refine takeD (i := 13) (v := .slice f.A f.n f.c) (some 28) rfl rfl (by kernel_rfl) (by kernel_rfl) (by kernel_rfl) (fun _ _ _ h => h) (Or.inl ⟨by rfl, ?_⟩) hS0 ?_
      · rintro w' hq
        have cc := (hq.cell (p := ⟨g, off + q, none⟩) HLT.out.2).trans HC.out.2.2
        go_simp
      try simp only [Act.put, List.setIfInBounds_toArray, List.set_cons_zero, List.set_cons_succ]
      refine wpAnyH_ready (rs := [6]) (by kernel_rfl) (by simp) ?_
      refine AllReadyH.cons rfl (fun K hK => ?_) AllReadyH.nil
      try rw [if_pos (by rfl)]
      go_simp
      refine (Ser.refPlus_any nx q u HNX.out.1 (by have := HNX.out; omega)).mono ?_
      rintro e u1 ⟨rfl, hu⟩
      subst hu
      refine hK.out _ _ hS0 (fun _ => ?_)
      clear hK K
      try simp only [Act.put, List.setIfInBounds_toArray, List.set_cons_zero, List.set_cons_succ]
      refine wpAnyH_ready (rs := [14]) (by kernel_rfl) (by simp) ?_
      refine AllReadyH.cons rfl (fun K hK => ?_) AllReadyH.nil
      try rw [if_pos (by rfl)]
      go_simp
      have hf1 := HF.out.below hS0
      go_at_call 25
      refine (sndCopy_any hf1.rd hf1.small hf1.bytes).mono ?_
      rintro e u2 ⟨p, rfl, hpl, hpn, -, hp, hb⟩
      have hS2 := hS0.trans (hb.mono hS0.size)
      have hp := hp.imp (Q := fun b => w.heap.size ≤ b) (fun b _ h => Nat.le_trans hS0.size h)
      have hO := hO.below hb
      have hT := hT.below hb
      have HPL := Kp.mk hpl
      clear hpl hpn hb hf1
      refine hK.out _ _ hS2 (fun _ => ?_)
      clear hK K
      try simp only [Act.put, List.setIfInBounds_toArray, List.set_cons_zero, List.set_cons_succ]
      refine takeD (i := 15) (v := .agg #[.int .i64 (Ser.plusP nx q), .slice p.A p.n p.c]) (some 30) rfl rfl (by kernel_rfl) (by kernel_rfl) (by kernel_rfl) (fun _ _ _ h => h) (Or.inl ⟨by rfl, ?_⟩) hS2 ?_
      · rintro w' hq
        go_simp
      try simp only [Act.put, List.setIfInBounds_toArray, List.set_cons_zero, List.set_cons_succ]
      refine wpAnyH_ready (rs := [16]) (by kernel_rfl) (by simp) ?_
      refine AllReadyH.cons rfl (fun K hK => ?_) AllReadyH.nil
      try rw [if_pos (by rfl)]
      go_simp
      have hlen := hO.len
      obtain ⟨A5, m5, w5, hrun, hO5, hC5⟩ := item_push (x := (Ser.plusP nx q, p)) hO (by have := HFT.out; have := HI.out; have := HP.out; omega) hS2.size
      have hT5 := Kp.mk ((hT.push (x := (Ser.plusP nx q, p)) (by rw [hlen, HI.out]) (by rw [hlen, ← HI.out]; show ms[q]? = some p.l; rw [HPL.out]; exact HM.out) hp).other hC5 (fun b cs m e => items_nocell hO b cs m _ (by decide) e))
      have hS5 := hS2.trans (hC5.below (B := w.heap.size) (fun x e => (hO.lt x e).1) hS2.size)
      have hO5 := Kp.mk hO5
      have hal := hS2.trans ((below_alloc u2 (.cells #[.int .i64 (Ser.plusP nx q), .slice p.A p.n p.c] 44)).mono hS2.size)
      clear hlen hC5 hp hO hT
      refine hK.out _ _ hal (fun _ => ?_)
      clear hK K
      try simp only [Act.put, List.setIfInBounds_toArray, List.set_cons_zero, List.set_cons_succ]
      clear hal
      refine wpAnyH_ready (rs := [17]) (by kernel_rfl) (by simp) ?_
      refine AllReadyH.cons rfl (fun K hK => ?_) AllReadyH.nil
      try rw [if_pos (by rfl)]
      refine sndOp_append (.tmp 15) (.tmp 31) rfl rfl rfl hrun (hK.out _ _ hS5 (fun _ => ?_))
      clear hK K hrun
      try simp only [Act.put, List.setIfInBounds_toArray, List.set_cons_zero, List.set_cons_succ]
      refine takeD (i := 18) (v := .slice A5 (k + 1) m5) (some 7) rfl rfl (by kernel_rfl) (by kernel_rfl) (by kernel_rfl) (fun _ _ _ h => h) (Or.inl ⟨by rfl, ?_⟩) hS5 ?_
      · rintro w' hq
        go_simp
      try simp only [Act.put, List.setIfInBounds_toArray, List.set_cons_zero, List.set_cons_succ]
      refine wpAnyH_done (by kernel_rfl) ?_ _
      have HS5 := Kp.mk hS5
      clear hS5 hS2 hS0
      go_wp2_with fail
      go_roundw
      case rel => exact ⟨k + 1, its ++ [(Ser.plusP nx q, p)], by have h1 := HP.out; have h2 := HI.out; rw [show i + (k + 1) = q + 1 by omega]; exact congrArg (Value.int .i64) (wrap_succ (by omega)), by have h1 := hK1.out; have h2 := HI.out; omega, hO5.out, hT5.out, HS5.out⟩
      case measure => exact meas_lt (by have := hK1.out; omega) (by have := HP.out; omega)
    · have hk2 : k = j - i := by have := HI.out; omega
      have HK := Kp.mk hk2
      have HO := Kp.mk hO
      have HT := Kp.mk hT
      have HB := Kp.mk hB
      clear hO hT hB hk2
      go_wp2_with fail
      go_ret
      rw [← HK.out]
      exact ⟨A0, m0, rfl, its, HO.out, HT.out, HB.out⟩
set_option maxRecDepth 100000 in
set_option maxHeartbeats 4000000 in
theorem magain_any (h : Sm P w m wd nx said all r ms) : Calls Try.prog 29 #[.pointer (some ⟨m, 0, none⟩)] w fun e w' => ∃ A c its, e = .returned (.slice A said c) ∧ Om w' w.heap.size (.slice A said c) said its ∧ Tell (fun b => w.heap.size ≤ b) w' nx 0 ms its ∧ Below w.heap.size w w' := by
  have hi := mitems_any h 0 said (Nat.zero_le _) h.fit.2.2.2.1
  obtain ⟨A, c, fs, h1, h2, h3, h4, h5⟩ := h.ex
  have c3 := h1.cell 3 rfl
  clear h h1 h2 h3 h4 h5
  simp only [Nat.sub_zero] at hi
  go_enter Try.func29, Try.ntmps29
  go_wp2_with fail
  refine hi.mono ?_
  rintro e w1 ⟨A1, c1, its, rfl, hO, hT, hB⟩
  have HO := Kp.mk hO
  have HT := Kp.mk hT
  have HB := Kp.mk hB
  clear hO hT hB
  go_wp2_with fail
  go_ret
  exact ⟨A1, c1, its, rfl, HO.out, HT.out, HB.out⟩
set_option maxRecDepth 100000 in
set_option maxHeartbeats 4000000 in
theorem mfresh_any (h : Sm P w m wd nx said all r ms) : Calls Try.prog 28 #[.pointer (some ⟨m, 0, none⟩)] w fun e w' => ∃ A k c its, e = .returned (.slice A k c) ∧ said + k = min wd ms.length ∧ Om w' w.heap.size (.slice A k c) k its ∧ Tell (fun b => w.heap.size ≤ b) w' nx said ms its ∧ Sm P w' m wd nx (said + k) all r ms ∧ Ch (fun x => x = m) w w' := by
  have hfit := h.fit
  obtain ⟨t, ht⟩ : ∃ t, t = min wd ms.length := ⟨_, rfl⟩
  have hmin : (if ms.length < wd then (ms.length : Int) else (wd : Int)) = (t : Int) := by split <;> omega
  obtain ⟨A, c, fs, h1, -, -, -, -⟩ := h.ex
  have HT := Kp.mk (show said ≤ t ∧ t ≤ wd ∧ t ≤ ms.length from by omega)
  have HMN := Kp.mk ht
  have H1 := Kp.mk h1
  have H := Kp.mk h
  have c3 := h1.cell 3 rfl
  obtain ⟨L, hL⟩ : ∃ L, L = ms.length := ⟨_, rfl⟩
  rw [← hL] at hmin H1
  have HL := Kp.mk hL
  clear h h1 hfit ht hL
  go_enter Try.func28, Try.ntmps28
  go_upto_region 2 with fail
  have hV : Vb 58 w.drew m [.int .i64 wd, .int .i64 nx, .slice A L c, .int .i64 said, .int .i64 all] := H1.out
  have hS := H.out.below (below_drewN (Below.refl _ _) 1)
  have hC0 : Ch (fun x => x = m) w w.drew := .of_below (below_drewN (Below.refl _ _) 1)
  have hz : w.heap.size = w.drew.heap.size := rfl
  refine wp_region_held_drew (S := fun X => X.cell? ⟨m, 0, none⟩ = some (.int .i64 wd) ∧ X.cell? ⟨m, 2, none⟩ = some (.slice A L c)) (by kernel_rfl) ⟨hV.cell 0 rfl, hV.cell 2 rfl⟩ (fun hS0 => ?_)
  have HZ := Kp.mk hz
  have HC0 := Kp.mk hC0
  clear hz H H1 c3 hC0
  change Sm P w.drew m wd nx said all r ms at hS
  generalize w.drew = u at *
  refine takeD (i := 0) (v := .pointer (some ⟨m, 0, none⟩)) (some 8) rfl rfl (by kernel_rfl) (by kernel_rfl) (by kernel_rfl) (fun _ _ _ h => h) (Or.inl ⟨by rfl, ?_⟩) hS0 ?_
  · rintro w' hq
    go_simp
  try simp only [Act.put, List.setIfInBounds_toArray, List.set_cons_zero, List.set_cons_succ]
  refine takeD (i := 1) (v := .pointer (some ⟨m, 0, none⟩)) (some 9) rfl rfl (by kernel_rfl) (by kernel_rfl) (by kernel_rfl) (fun _ _ _ h => h) (Or.inl ⟨by rfl, ?_⟩) hS0 ?_
  · rintro w' hq
    go_simp
  try simp only [Act.put, List.setIfInBounds_toArray, List.set_cons_zero, List.set_cons_succ]
  refine takeD (i := 2) (v := .pointer (some ⟨m, 0, none⟩)) (some 10) rfl rfl (by kernel_rfl) (by kernel_rfl) (by kernel_rfl) (fun _ _ _ h => h) (Or.inl ⟨by rfl, ?_⟩) hS0 ?_
  · rintro w' hq
    go_simp
  try simp only [Act.put, List.setIfInBounds_toArray, List.set_cons_zero, List.set_cons_succ]
  refine takeD (i := 3) (v := .pointer (some ⟨m, 0, none⟩)) (some 11) rfl rfl (by kernel_rfl) (by kernel_rfl) (by kernel_rfl) (fun _ _ _ h => h) (Or.inl ⟨by rfl, ?_⟩) hS0 ?_
  · rintro w' hq
    go_simp
  try simp only [Act.put, List.setIfInBounds_toArray, List.set_cons_zero, List.set_cons_succ]
  refine takeD (i := 4) (v := .int .i64 wd) (some 12) rfl rfl (by kernel_rfl) (by kernel_rfl) (by kernel_rfl) (fun _ _ _ h => h) (Or.inl ⟨by rfl, ?_⟩) hS0 ?_
  · rintro w' hq
    obtain ⟨c0, c2⟩ := hq
    go_simp
  try simp only [Act.put, List.setIfInBounds_toArray, List.set_cons_zero, List.set_cons_succ]
  refine takeD (i := 5) (v := .pointer (some ⟨m, 0, none⟩)) (some 13) rfl rfl (by kernel_rfl) (by kernel_rfl) (by kernel_rfl) (fun _ _ _ h => h) (Or.inl ⟨by rfl, ?_⟩) hS0 ?_
  · rintro w' hq
    go_simp
  try simp only [Act.put, List.setIfInBounds_toArray, List.set_cons_zero, List.set_cons_succ]
  refine takeD (i := 6) (v := .pointer (some ⟨m, 0, none⟩)) (some 14) rfl rfl (by kernel_rfl) (by kernel_rfl) (by kernel_rfl) (fun _ _ _ h => h) (Or.inl ⟨by rfl, ?_⟩) hS0 ?_
  · rintro w' hq
    go_simp
  try simp only [Act.put, List.setIfInBounds_toArray, List.set_cons_zero, List.set_cons_succ]
  refine takeD (i := 7) (v := .pointer (some ⟨m, 2, none⟩)) (some 15) rfl rfl (by kernel_rfl) (by kernel_rfl) (by kernel_rfl) (fun _ _ _ h => h) (Or.inl ⟨by rfl, ?_⟩) hS0 ?_
  · rintro w' hq
    go_simp
  try simp only [Act.put, List.setIfInBounds_toArray, List.set_cons_zero, List.set_cons_succ]
  refine takeD (i := 8) (v := .slice A L c) (some 16) rfl rfl (by kernel_rfl) (by kernel_rfl) (by kernel_rfl) (fun _ _ _ h => h) (Or.inl ⟨by rfl, ?_⟩) hS0 ?_
  · rintro w' hq
    obtain ⟨c0, c2⟩ := hq
    go_simp
  try simp only [Act.put, List.setIfInBounds_toArray, List.set_cons_zero, List.set_cons_succ]
  refine takeD (i := 9) (v := .int .i64 L) (some 17) rfl rfl (by kernel_rfl) (by kernel_rfl) (by kernel_rfl) (fun _ _ _ h => h) (Or.inl ⟨by rfl, ?_⟩) hS0 ?_
  · rintro w' hq
    go_simp
  try simp only [Act.put, List.setIfInBounds_toArray, List.set_cons_zero, List.set_cons_succ]
  refine takeD (i := 10) (v := .int .i64 t) (some 18) rfl rfl (by kernel_rfl) (by kernel_rfl) (by kernel_rfl) (fun _ _ _ h => h) (Or.inl ⟨by rfl, ?_⟩) hS0 ?_
  · rintro w' hq
    go_simp
  try simp only [Act.put, List.setIfInBounds_toArray, List.set_cons_zero, List.set_cons_succ]
  refine takeD (i := 11) (v := .pointer (some ⟨m, 0, none⟩)) (some 19) rfl rfl (by kernel_rfl) (by kernel_rfl) (by kernel_rfl) (fun _ _ _ h => h) (Or.inl ⟨by rfl, ?_⟩) hS0 ?_
  · rintro w' hq
    go_simp
  try simp only [Act.put, List.setIfInBounds_toArray, List.set_cons_zero, List.set_cons_succ]
  refine takeD (i := 12) (v := .pointer (some ⟨m, 3, none⟩)) (some 20) rfl rfl (by kernel_rfl) (by kernel_rfl) (by kernel_rfl) (fun _ _ _ h => h) (Or.inl ⟨by rfl, ?_⟩) hS0 ?_
  · rintro w' hq
    go_simp
  try simp only [Act.put, List.setIfInBounds_toArray, List.set_cons_zero, List.set_cons_succ]
  refine wpAnyH_ready (rs := [13]) (by kernel_rfl) (by simp) ?_
  refine AllReadyH.cons rfl (fun K hK => ?_) AllReadyH.nil
  try rw [if_pos (by rfl)]
  have k3 := hV.cell 3 rfl
  have hf := hV.free 3
  have hc : Ch (fun x => x = m) u (u.setCell ⟨m, 3, none⟩ (.int .i64 t)) := .of_grown (grownBy_set u m 3 _)
  have hV2 := hV.set 3 (.int .i64 t)
  have hS2 := hS.turned hc (said' := t) hS.nxb HT.out.2.1 HT.out.2.2 (fun A c hv => hv.set 3 _)
  have HC2 := Kp.mk (HC0.out.trans hc (fun _ _ e => e))
  have HS2 := Kp.mk hS2
  have HNE := Kp.mk hS.nob
  clear hS hV hc hS2
  go_simp
  refine hK.out _ _ ⟨hV2.cell 0 rfl, hV2.cell 2 rfl⟩ (fun _ => ?_)
  clear hK K k3 hf
  try simp only [Act.put, List.setIfInBounds_toArray, List.set_cons_zero, List.set_cons_succ]
  refine wpAnyH_done (by kernel_rfl) ?_ _
  have c4 := hV2.cell 3 rfl
  clear hS0 hV2 hmin
  generalize u.setCell _ _ = u2 at *
  have hi := mitems_any HS2.out said t HT.out.1 HT.out.2.2
  go_wp2_with fail
  refine hi.mono ?_
  rintro e u3 ⟨A1, c1, its, rfl, hO, hT, hB⟩
  clear hi c4
  have hz : w.heap.size ≤ u2.heap.size := HC2.out.size
  have HO := Kp.mk (hO.lower hz)
  have HT1 := Kp.mk (hT.imp (Q := fun b => w.heap.size ≤ b) (fun b _ h => Nat.le_trans hz h))
  have HS3 := Kp.mk (HS2.out.below hB)
  have HC3 := Kp.mk (HC2.out.trans (Ch.of_below (S := fun x => x = m) hB) (fun _ _ e => e))
  clear hO hT hB hz
  go_wp2_with fail
  go_ret
  have e : said + (t - said) = t := by have := HT.out; omega
  exact ⟨A1, t - said, c1, its, rfl, by rw [e]; exact HMN.out, HO.out, HT1.out, by rw [e]; exact HS3.out, HC3.out⟩
end
/-- Two rows of items that tell the same. -/
theorem sameItems_any {w : World} {B1 B2 : Nat} {A1 A2 : Option Addr} {n c1 c2 : Nat} {its1 its2 : List (Int × FrV)} {P1 P2 : Nat → Prop} {nx : Int} {i : Nat} {ms : List (List Int)} (h1 : Im w B1 A1 n c1 its1) (h2 : Im w B2 A2 n c2 its2) (b1 : B1 ≤ w.heap.size) (b2 : B2 ≤ w.heap.size) (t1 : Tell P1 w nx i ms its1) (t2 : Tell P2 w nx i ms its2) (hn : n ≤ 1000) :
    Calls Try.prog 27 #[.slice A1 n c1, .slice A2 n c2] w fun e w' => e = .returned (.bool true) ∧ Below w.heap.size w w' := by
  have H1 := Kp.mk (And.intro h1 (And.intro h2 (And.intro b1 b2)))
  have T1 := Kp.mk (And.intro t1 t2)
  have HN := Kp.mk hn
  clear h1 h2 b1 b2 t1 t2 hn
  go_enter Try.func27, Try.ntmps27
  go_wp2_with fail
  go_loopw [5] (fun s5 wr => ∃ k : Nat, s5 = .int .i64 k ∧ k ≤ n ∧ Below w.heap.size w wr) (fun s5 _ => n - (intOf s5).toNat)
  case atStart => exact ⟨0, rfl, Nat.zero_le _, Below.refl _ _⟩
  case round =>
    obtain ⟨k, rfl, hk, hB⟩ := hrel
    by_cases hlt : (k : Int) < n
    · obtain ⟨x, hx⟩ : ∃ x, its1[k]? = some x := ⟨_, List.getElem?_eq_getElem (show k < its1.length by have := H1.out.1.len; omega)⟩
      obtain ⟨y, hy⟩ : ∃ y, its2[k]? = some y := ⟨_, List.getElem?_eq_getElem (show k < its2.length by have := H1.out.2.1.len; omega)⟩
      obtain ⟨x1, x2⟩ := T1.out.1.num k x hx
      obtain ⟨y1, y2⟩ := T1.out.2.num k y hy
      obtain ⟨g1, o1, rfl, _, f1⟩ := (H1.out.1.below (hB.mono H1.out.2.2.1)).at_ (by omega)
      obtain ⟨g2, o2, rfl, _, f2⟩ := (H1.out.2.1.below (hB.mono H1.out.2.2.2)).at_ (by omega)
      obtain ⟨p0, p1⟩ := f1 k x hx
      obtain ⟨q0, q1⟩ := f2 k y hy
      have hl : x.2.l = y.2.l := by rw [x2] at y2; exact Option.some.inj y2
      have hfx := (T1.out.1.fr x (List.mem_of_getElem? hx)).below hB
      have hfy := (T1.out.2.fr y (List.mem_of_getElem? hy)).below hB
      have hq : ∀ p, Calls Try.prog 20 #[.slice x.2.A x.2.n x.2.c, .slice y.2.A y.2.n y.2.c] (wr.drewN p) fun e w' => e = .returned (.bool true) ∧ w' = wr.drewN p := by
        intro p
        have hfx := hfx.below (below_drewN (Below.refl _ _) p)
        have hfy := hfy.below (below_drewN (Below.refl _ _) p)
        refine (eqBytes_any hfx.rd hfy.rd hfx.bytes hfy.bytes).mono ?_
        rintro e w' ⟨rfl, rfl⟩
        exact ⟨by rw [decide_eq_true hl], rfl⟩
      rw [x1] at p0
      rw [y1] at q0
      rw [show x.2.val = .slice x.2.A x.2.n x.2.c from rfl] at p1
      rw [show y.2.val = .slice y.2.A y.2.n y.2.c from rfl] at q1
      have HB := Kp.mk hB
      have HK := Kp.mk hlt
      clear f1 f2 hx hy x1 x2 y1 y2 hl hfx hfy hB
      generalize Ser.plusP nx _ = z at *
      go_upto_region 6 with fail
      go_quiet ((go_at_call 20; exact Calls.quiet_of_same (hq _)))
      have HB2 := Kp.mk (below_drewN HB.out nq)
      clear p0 p1 q0 q1 hq hlt
      go_wp2_with fail
      go_roundw
      case rel => exact ⟨k + 1, congrArg (Value.int .i64) (wrap_succ (by have := HK.out; have := HN.out; omega)), by have := HK.out; omega, HB2.out⟩
      case measure => exact meas_lt (by have := HK.out; omega) (by have := HN.out; have := HK.out; omega)
    · have HB := Kp.mk hB
      clear hB
      go_wp2_with fail
      go_ret
      exact ⟨rfl, HB.out⟩
end Go.Proofs.Ytkpjnikbcgngbaa.Oct
