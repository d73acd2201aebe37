/- Layer 16 (hail): what a guest takes, whole; NewGuest, Epoch, Boot. -/
import Derived.Test.YtomjnpjabfnlbaaHaiC
namespace Go.Proofs.Ytomjnpjabfnlbaa.Oct
open Go.RowKit
set_option linter.unusedVariables false
set_option linter.unusedSimpArgs false

section
variable {w w' : World} {g : Nat} {sf bo E : Int}
theorem gAll_any (h : Gb w g sf bo E) (x : Sv) : Calls Try.prog 42 #[.pointer (some ⟨g, 0, none⟩), x.v] w fun en w' => en = .returned (.tuple #[(ansA x sf bo).v, .bool (helloG x sf || offG x sf bo), .bool (offG x sf bo)]) ∧ Gb w' g sf bo (epA x sf bo E) ∧ w.grownBy w' (some g) := by
  unfold ansA epA
  cases hx : helloG x sf with
  | true =>
    rw [hello_not (bo := bo) hx]
    exact (gAll_hello h x hx).mono fun _ _ ⟨h1, h2⟩ => ⟨h1, h.below h2, grown_of_below h2 _⟩
  | false =>
    cases hy : offG x sf bo with
    | true => exact (gAll_off h x hy).mono fun _ _ ⟨h1, h2, h3⟩ => ⟨h1, h2, h3⟩
    | false => exact (gAll_none h x hx hy).mono fun _ _ ⟨h1, h2⟩ => ⟨h1, h.below h2, grown_of_below h2 _⟩
theorem ansA_eq {x : Sv} (h : offG x sf bo = true → E < x.p) : ansA x sf bo = ansG x sf bo E ∧ (helloG x sf || offG x sf bo) = isG x sf bo E ∧ offG x sf bo = begG x sf bo E ∧ epA x sf bo E = epG x sf bo E := by
  have e : ackG x sf bo E = offG x sf bo := by
    unfold ackG
    cases hy : offG x sf bo with
    | true => have := h hy; simp; omega
    | false => rfl
  unfold ansA ansG isG begG epA epG
  rw [e]
  refine ⟨rfl, rfl, ?_, rfl⟩
  cases hy : offG x sf bo with
  | true => have := h hy; simp; omega
  | false => rfl
set_option maxRecDepth 100000 in
set_option maxHeartbeats 2000000 in
theorem gOld_same (h0 : Gb w g sf bo E) (x : Sv) (hy : offG x sf bo = true) (hp : x.p = E) : Calls Try.prog 43 #[.pointer (some ⟨g, 0, none⟩), x.v] w fun en w' => en = .returned (.tuple #[(svAck sf E).v, .bool true, .bool false]) ∧ Below w.heap.size w w' := by
  have HO := Kp.mk hy
  have HP := Kp.mk hp
  clear hy hp
  obtain ⟨k, t, f, h, p, o, s, a, A, n, c'⟩ := x
  have hS := H2.new (k := k) (t := t) (f := f) (h := h) (p := p) (o := o) (s := s) (a := a) (A := A) (n := n) (c := c') h0 _ rfl
  have hN := new_seg (w.alloc (.cells #[.int .i64 k, .int .i64 t, .int .i64 f, .int .i64 h, .int .i64 p, .int .i64 o, .int .i64 s, .int .i64 a, .slice A n c'] 31)) sv0
  rw [allocZ] at hN
  have hS := hS.step (by simpa using hN.2)
  have HW := Kp.mk hN.1
  clear h0 hN
  simp only [Sv.v] at ⊢
  go_enter Try.func43, Try.ntmps43
  go_upto_region 1 with fail
  have hS0 := hS.step (Below.refl _ _).drew
  have HW0 := Kp.mk (HW.out.below (Below.refl _ _).drew HW.out.lt)
  clear hS HW
  refine wp_region_held_drew (S := H2 w w.heap.size k t f h p o s a A n c' 67 g [.int .i64 sf, .int .i64 bo, .int .i64 E]) (by kernel_rfl) hS0 (fun _ => ?_)
  refine takeD (i := 0) (v := .pointer (some ⟨g, 0, none⟩)) (some 8) rfl rfl (by kernel_rfl) (by kernel_rfl) (by kernel_rfl) (fun _ _ _ h => h) (Or.inl ⟨by rfl, ?_⟩) hS0 ?_
  · rintro w' hq
    go_simp
  try simp only [Act.put, List.setIfInBounds_toArray, List.set_cons_zero, List.set_cons_succ]
  refine takeD (i := 1) (v := .agg #[.int .i64 k, .int .i64 t, .int .i64 f, .int .i64 h, .int .i64 p, .int .i64 o, .int .i64 s, .int .i64 a, .slice A n c']) (some 9) rfl rfl (by kernel_rfl) (by kernel_rfl) (by kernel_rfl) (fun _ _ _ h => h) (Or.inl ⟨by rfl, ?_⟩) hS0 ?_
  · rintro w' hq
    obtain ⟨d0, d1, d2, d3, d4, d5, d6, d7, d8⟩ := hq.nine
    go_simp
  try simp only [Act.put, List.setIfInBounds_toArray, List.set_cons_zero, List.set_cons_succ]
  refine wpAnyH_ready (rs := [2]) (by kernel_rfl) (by simp) ?_
  refine AllReadyH.cons rfl (fun K hK => ?_) AllReadyH.nil
  try rw [if_pos (by rfl)]
  go_simp
  refine (gOffered hS0.r ⟨k, t, f, h, p, o, s, a, A, n, c'⟩).mono ?_
  rintro e u1 ⟨rfl, hb1⟩
  rw [HO.out]
  have hS1 := H2.step hS0 hb1
  refine hK.out _ _ hS1 (fun _ => ?_)
  clear hK K
  try simp only [Act.put, List.setIfInBounds_toArray, List.set_cons_zero, List.set_cons_succ]
  refine takeD (i := 3) (v := .bool true) (some 11) rfl rfl (by kernel_rfl) (by kernel_rfl) (by kernel_rfl) (fun _ _ _ h => h) (Or.inl ⟨by rfl, ?_⟩) hS1 ?_
  · rintro w' hq
    go_simp
  try simp only [Act.put, List.setIfInBounds_toArray, List.set_cons_zero, List.set_cons_succ]
  refine takeD (i := 4) (v := .pointer (some ⟨w.heap.size, 4, none⟩)) (some 12) rfl rfl (by kernel_rfl) (by kernel_rfl) (by kernel_rfl) (fun _ _ _ h => h) (Or.inl ⟨by rfl, ?_⟩) hS1 ?_
  · rintro w' hq
    go_simp
  try simp only [Act.put, List.setIfInBounds_toArray, List.set_cons_zero, List.set_cons_succ]
  refine takeD (i := 5) (v := .int .i64 p) (some 13) rfl rfl (by kernel_rfl) (by kernel_rfl) (by kernel_rfl) (fun _ _ _ h => h) (Or.inl ⟨by rfl, ?_⟩) hS1 ?_
  · rintro w' hq
    obtain ⟨d0, d1, d2, d3, d4, d5, d6, d7, d8⟩ := hq.nine
    go_simp
  try simp only [Act.put, List.setIfInBounds_toArray, List.set_cons_zero, List.set_cons_succ]
  refine takeD (i := 6) (v := .pointer (some ⟨g, 0, none⟩)) (some 14) rfl rfl (by kernel_rfl) (by kernel_rfl) (by kernel_rfl) (fun _ _ _ h => h) (Or.inl ⟨by rfl, ?_⟩) hS1 ?_
  · rintro w' hq
    go_simp
  try simp only [Act.put, List.setIfInBounds_toArray, List.set_cons_zero, List.set_cons_succ]
  refine takeD (i := 7) (v := .pointer (some ⟨g, 0, none⟩)) (some 15) rfl rfl (by kernel_rfl) (by kernel_rfl) (by kernel_rfl) (fun _ _ _ h => h) (Or.inl ⟨by rfl, ?_⟩) hS1 ?_
  · rintro w' hq
    go_simp
  try simp only [Act.put, List.setIfInBounds_toArray, List.set_cons_zero, List.set_cons_succ]
  refine takeD (i := 8) (v := .pointer (some ⟨g, 2, none⟩)) (some 16) rfl rfl (by kernel_rfl) (by kernel_rfl) (by kernel_rfl) (fun _ _ _ h => h) (Or.inl ⟨by rfl, ?_⟩) hS1 ?_
  · rintro w' hq
    go_simp
  try simp only [Act.put, List.setIfInBounds_toArray, List.set_cons_zero, List.set_cons_succ]
  refine takeD (i := 9) (v := .int .i64 E) (some 17) rfl rfl (by kernel_rfl) (by kernel_rfl) (by kernel_rfl) (fun _ _ _ h => h) (Or.inl ⟨by rfl, ?_⟩) hS1 ?_
  · rintro w' hq
    have c0 := hq.r.cell 2 rfl
    go_simp
  try simp only [Act.put, List.setIfInBounds_toArray, List.set_cons_zero, List.set_cons_succ]
  refine takeD (i := 10) (v := .bool true) (some 18) rfl rfl (by kernel_rfl) (by kernel_rfl) (by kernel_rfl) (fun _ _ _ h => h) (Or.inl ⟨by rfl, ?_⟩) hS1 ?_
  · rintro w' hq
    go_simp
    first | done | (have hp : p = E := HP.out; omega)
  try simp only [Act.put, List.setIfInBounds_toArray, List.set_cons_zero, List.set_cons_succ]
  refine takeD (i := 11) (v := .bool true) (some 19) rfl rfl (by kernel_rfl) (by kernel_rfl) (by kernel_rfl) (fun _ _ _ h => h) (Or.inl ⟨by rfl, ?_⟩) hS1 ?_
  · rintro w' hq
    go_simp
  try simp only [Act.put, List.setIfInBounds_toArray, List.set_cons_zero, List.set_cons_succ]
  refine takeD (i := 12) (v := .bool true) (some 7) rfl rfl (by kernel_rfl) (by kernel_rfl) (by kernel_rfl) (fun _ _ _ h => h) (Or.inl ⟨by rfl, ?_⟩) hS1 ?_
  · rintro w' hq
    go_simp
  try simp only [Act.put, List.setIfInBounds_toArray, List.set_cons_zero, List.set_cons_succ]
  refine wpAnyH_done (by kernel_rfl) ?_ _
  have hA := HW0.out.below hb1 HW0.out.lt
  have hGb : Gb u1 g sf bo E := hS1.r
  have HB1 := Kp.mk hS1.old
  clear hb1 hS0 HW0 hS1
  go_wp2_with fail
  refine (g_ack hGb).mono ?_
  rintro e2 u2 ⟨rfl, hb2⟩
  replace hA := hA.below hb2 hA.lt
  have HB2 := Kp.mk (HB1.out.trans (hb2.mono HB1.out.size))
  clear hGb hb2 HB1
  go_wp2_with (refine wpList_store_vb (vs := (svAck sf E).cells) rfl (.tmp 4) (.tmp 21) rfl rfl rfl hA rfl agg_seg rfl ?_; intro w4 hv4 hg4 hz4; clear hA)
  refine bodyPost_ret (v := .tuple #[(svAck sf E).v, .bool true, .bool false]) (results_three Try.results43 _ rfl hv4 agg_seg) rfl ?_
  exact ⟨rfl, below_grown HB2.out hg4 HB2.out.size (by omega)⟩
set_option maxRecDepth 100000 in
set_option maxHeartbeats 2000000 in
theorem gOld_late (h0 : Gb w g sf bo E) (x : Sv) (hy : offG x sf bo = true) (hp : x.p < E) : Calls Try.prog 43 #[.pointer (some ⟨g, 0, none⟩), x.v] w fun en w' => en = .returned (.tuple #[sv0.v, .bool false, .bool false]) ∧ Below w.heap.size w w' := by
  have HO := Kp.mk hy
  have HP := Kp.mk hp
  clear hy hp
  obtain ⟨k, t, f, h, p, o, s, a, A, n, c'⟩ := x
  have hS := H2.new (k := k) (t := t) (f := f) (h := h) (p := p) (o := o) (s := s) (a := a) (A := A) (n := n) (c := c') h0 _ rfl
  have hN := new_seg (w.alloc (.cells #[.int .i64 k, .int .i64 t, .int .i64 f, .int .i64 h, .int .i64 p, .int .i64 o, .int .i64 s, .int .i64 a, .slice A n c'] 31)) sv0
  rw [allocZ] at hN
  have hS := hS.step (by simpa using hN.2)
  have HW := Kp.mk hN.1
  clear h0 hN
  simp only [Sv.v] at ⊢
  go_enter Try.func43, Try.ntmps43
  go_upto_region 1 with fail
  have hS0 := hS.step (Below.refl _ _).drew
  have HW0 := Kp.mk (HW.out.below (Below.refl _ _).drew HW.out.lt)
  clear hS HW
  refine wp_region_held_drew (S := H2 w w.heap.size k t f h p o s a A n c' 67 g [.int .i64 sf, .int .i64 bo, .int .i64 E]) (by kernel_rfl) hS0 (fun _ => ?_)
  refine takeD (i := 0) (v := .pointer (some ⟨g, 0, none⟩)) (some 8) rfl rfl (by kernel_rfl) (by kernel_rfl) (by kernel_rfl) (fun _ _ _ h => h) (Or.inl ⟨by rfl, ?_⟩) hS0 ?_
  · rintro w' hq
    go_simp
  try simp only [Act.put, List.setIfInBounds_toArray, List.set_cons_zero, List.set_cons_succ]
  refine takeD (i := 1) (v := .agg #[.int .i64 k, .int .i64 t, .int .i64 f, .int .i64 h, .int .i64 p, .int .i64 o, .int .i64 s, .int .i64 a, .slice A n c']) (some 9) rfl rfl (by kernel_rfl) (by kernel_rfl) (by kernel_rfl) (fun _ _ _ h => h) (Or.inl ⟨by rfl, ?_⟩) hS0 ?_
  · rintro w' hq
    obtain ⟨d0, d1, d2, d3, d4, d5, d6, d7, d8⟩ := hq.nine
    go_simp
  try simp only [Act.put, List.setIfInBounds_toArray, List.set_cons_zero, List.set_cons_succ]
  refine wpAnyH_ready (rs := [2]) (by kernel_rfl) (by simp) ?_
  refine AllReadyH.cons rfl (fun K hK => ?_) AllReadyH.nil
  try rw [if_pos (by rfl)]
  go_simp
  refine (gOffered hS0.r ⟨k, t, f, h, p, o, s, a, A, n, c'⟩).mono ?_
  rintro e u1 ⟨rfl, hb1⟩
  rw [HO.out]
  have hS1 := H2.step hS0 hb1
  refine hK.out _ _ hS1 (fun _ => ?_)
  clear hK K
  try simp only [Act.put, List.setIfInBounds_toArray, List.set_cons_zero, List.set_cons_succ]
  refine takeD (i := 3) (v := .bool true) (some 11) rfl rfl (by kernel_rfl) (by kernel_rfl) (by kernel_rfl) (fun _ _ _ h => h) (Or.inl ⟨by rfl, ?_⟩) hS1 ?_
  · rintro w' hq
    go_simp
  try simp only [Act.put, List.setIfInBounds_toArray, List.set_cons_zero, List.set_cons_succ]
  refine takeD (i := 4) (v := .pointer (some ⟨w.heap.size, 4, none⟩)) (some 12) rfl rfl (by kernel_rfl) (by kernel_rfl) (by kernel_rfl) (fun _ _ _ h => h) (Or.inl ⟨by rfl, ?_⟩) hS1 ?_
  · rintro w' hq
    go_simp
  try simp only [Act.put, List.setIfInBounds_toArray, List.set_cons_zero, List.set_cons_succ]
  refine takeD (i := 5) (v := .int .i64 p) (some 13) rfl rfl (by kernel_rfl) (by kernel_rfl) (by kernel_rfl) (fun _ _ _ h => h) (Or.inl ⟨by rfl, ?_⟩) hS1 ?_
  · rintro w' hq
    obtain ⟨d0, d1, d2, d3, d4, d5, d6, d7, d8⟩ := hq.nine
    go_simp
  try simp only [Act.put, List.setIfInBounds_toArray, List.set_cons_zero, List.set_cons_succ]
  refine takeD (i := 6) (v := .pointer (some ⟨g, 0, none⟩)) (some 14) rfl rfl (by kernel_rfl) (by kernel_rfl) (by kernel_rfl) (fun _ _ _ h => h) (Or.inl ⟨by rfl, ?_⟩) hS1 ?_
  · rintro w' hq
    go_simp
  try simp only [Act.put, List.setIfInBounds_toArray, List.set_cons_zero, List.set_cons_succ]
  refine takeD (i := 7) (v := .pointer (some ⟨g, 0, none⟩)) (some 15) rfl rfl (by kernel_rfl) (by kernel_rfl) (by kernel_rfl) (fun _ _ _ h => h) (Or.inl ⟨by rfl, ?_⟩) hS1 ?_
  · rintro w' hq
    go_simp
  try simp only [Act.put, List.setIfInBounds_toArray, List.set_cons_zero, List.set_cons_succ]
  refine takeD (i := 8) (v := .pointer (some ⟨g, 2, none⟩)) (some 16) rfl rfl (by kernel_rfl) (by kernel_rfl) (by kernel_rfl) (fun _ _ _ h => h) (Or.inl ⟨by rfl, ?_⟩) hS1 ?_
  · rintro w' hq
    go_simp
  try simp only [Act.put, List.setIfInBounds_toArray, List.set_cons_zero, List.set_cons_succ]
  refine takeD (i := 9) (v := .int .i64 E) (some 17) rfl rfl (by kernel_rfl) (by kernel_rfl) (by kernel_rfl) (fun _ _ _ h => h) (Or.inl ⟨by rfl, ?_⟩) hS1 ?_
  · rintro w' hq
    have c0 := hq.r.cell 2 rfl
    go_simp
  try simp only [Act.put, List.setIfInBounds_toArray, List.set_cons_zero, List.set_cons_succ]
  refine takeD (i := 10) (v := .bool false) (some 18) rfl rfl (by kernel_rfl) (by kernel_rfl) (by kernel_rfl) (fun _ _ _ h => h) (Or.inl ⟨by rfl, ?_⟩) hS1 ?_
  · rintro w' hq
    go_simp
    first | done | (have hp : p < E := HP.out; omega)
  try simp only [Act.put, List.setIfInBounds_toArray, List.set_cons_zero, List.set_cons_succ]
  refine takeD (i := 11) (v := .bool false) (some 19) rfl rfl (by kernel_rfl) (by kernel_rfl) (by kernel_rfl) (fun _ _ _ h => h) (Or.inl ⟨by rfl, ?_⟩) hS1 ?_
  · rintro w' hq
    go_simp
  try simp only [Act.put, List.setIfInBounds_toArray, List.set_cons_zero, List.set_cons_succ]
  refine takeD (i := 12) (v := .bool false) (some 7) rfl rfl (by kernel_rfl) (by kernel_rfl) (by kernel_rfl) (fun _ _ _ h => h) (Or.inl ⟨by rfl, ?_⟩) hS1 ?_
  · rintro w' hq
    go_simp
  try simp only [Act.put, List.setIfInBounds_toArray, List.set_cons_zero, List.set_cons_succ]
  refine wpAnyH_done (by kernel_rfl) ?_ _
  have hA := HW0.out.below hb1 HW0.out.lt
  have hT := hS1
  clear hb1 hS0 HW0 hS1
  go_upto_region 3 with fail
  have hS0 := hT.step (Below.refl _ _).drew
  have HA0 := Kp.mk (hA.below (Below.refl _ _).drew hA.lt)
  clear hT hA
  refine wp_region_held_drew (S := H2 w w.heap.size k t f h p o s a A n c' 67 g [.int .i64 sf, .int .i64 bo, .int .i64 E]) (by kernel_rfl) hS0 (fun _ => ?_)
  refine takeD (i := 0) (v := .pointer (some ⟨g, 0, none⟩)) (some 23) rfl rfl (by kernel_rfl) (by kernel_rfl) (by kernel_rfl) (fun _ _ _ h => h) (Or.inl ⟨by rfl, ?_⟩) hS0 ?_
  · rintro w' hq
    go_simp
  try simp only [Act.put, List.setIfInBounds_toArray, List.set_cons_zero, List.set_cons_succ]
  refine takeD (i := 1) (v := .agg #[.int .i64 k, .int .i64 t, .int .i64 f, .int .i64 h, .int .i64 p, .int .i64 o, .int .i64 s, .int .i64 a, .slice A n c']) (some 24) rfl rfl (by kernel_rfl) (by kernel_rfl) (by kernel_rfl) (fun _ _ _ h => h) (Or.inl ⟨by rfl, ?_⟩) hS0 ?_
  · rintro w' hq
    obtain ⟨d0, d1, d2, d3, d4, d5, d6, d7, d8⟩ := hq.nine
    go_simp
  try simp only [Act.put, List.setIfInBounds_toArray, List.set_cons_zero, List.set_cons_succ]
  refine wpAnyH_ready (rs := [2]) (by kernel_rfl) (by simp) ?_
  refine AllReadyH.cons rfl (fun K hK => ?_) AllReadyH.nil
  try rw [if_pos (by rfl)]
  go_simp
  refine (gOffered hS0.r ⟨k, t, f, h, p, o, s, a, A, n, c'⟩).mono ?_
  rintro e v1 ⟨rfl, hb1⟩
  rw [HO.out]
  have hS1 := H2.step hS0 hb1
  refine hK.out _ _ hS1 (fun _ => ?_)
  clear hK K
  try simp only [Act.put, List.setIfInBounds_toArray, List.set_cons_zero, List.set_cons_succ]
  refine takeD (i := 3) (v := .bool true) (some 26) rfl rfl (by kernel_rfl) (by kernel_rfl) (by kernel_rfl) (fun _ _ _ h => h) (Or.inl ⟨by rfl, ?_⟩) hS1 ?_
  · rintro w' hq
    go_simp
  try simp only [Act.put, List.setIfInBounds_toArray, List.set_cons_zero, List.set_cons_succ]
  refine takeD (i := 4) (v := .pointer (some ⟨w.heap.size, 4, none⟩)) (some 27) rfl rfl (by kernel_rfl) (by kernel_rfl) (by kernel_rfl) (fun _ _ _ h => h) (Or.inl ⟨by rfl, ?_⟩) hS1 ?_
  · rintro w' hq
    go_simp
  try simp only [Act.put, List.setIfInBounds_toArray, List.set_cons_zero, List.set_cons_succ]
  refine takeD (i := 5) (v := .int .i64 p) (some 28) rfl rfl (by kernel_rfl) (by kernel_rfl) (by kernel_rfl) (fun _ _ _ h => h) (Or.inl ⟨by rfl, ?_⟩) hS1 ?_
  · rintro w' hq
    obtain ⟨d0, d1, d2, d3, d4, d5, d6, d7, d8⟩ := hq.nine
    go_simp
  try simp only [Act.put, List.setIfInBounds_toArray, List.set_cons_zero, List.set_cons_succ]
  refine takeD (i := 6) (v := .pointer (some ⟨g, 0, none⟩)) (some 29) rfl rfl (by kernel_rfl) (by kernel_rfl) (by kernel_rfl) (fun _ _ _ h => h) (Or.inl ⟨by rfl, ?_⟩) hS1 ?_
  · rintro w' hq
    go_simp
  try simp only [Act.put, List.setIfInBounds_toArray, List.set_cons_zero, List.set_cons_succ]
  refine takeD (i := 7) (v := .pointer (some ⟨g, 0, none⟩)) (some 30) rfl rfl (by kernel_rfl) (by kernel_rfl) (by kernel_rfl) (fun _ _ _ h => h) (Or.inl ⟨by rfl, ?_⟩) hS1 ?_
  · rintro w' hq
    go_simp
  try simp only [Act.put, List.setIfInBounds_toArray, List.set_cons_zero, List.set_cons_succ]
  refine takeD (i := 8) (v := .pointer (some ⟨g, 2, none⟩)) (some 31) rfl rfl (by kernel_rfl) (by kernel_rfl) (by kernel_rfl) (fun _ _ _ h => h) (Or.inl ⟨by rfl, ?_⟩) hS1 ?_
  · rintro w' hq
    go_simp
  try simp only [Act.put, List.setIfInBounds_toArray, List.set_cons_zero, List.set_cons_succ]
  refine takeD (i := 9) (v := .int .i64 E) (some 32) rfl rfl (by kernel_rfl) (by kernel_rfl) (by kernel_rfl) (fun _ _ _ h => h) (Or.inl ⟨by rfl, ?_⟩) hS1 ?_
  · rintro w' hq
    have c0 := hq.r.cell 2 rfl
    go_simp
  try simp only [Act.put, List.setIfInBounds_toArray, List.set_cons_zero, List.set_cons_succ]
  refine takeD (i := 10) (v := .bool true) (some 33) rfl rfl (by kernel_rfl) (by kernel_rfl) (by kernel_rfl) (fun _ _ _ h => h) (Or.inl ⟨by rfl, ?_⟩) hS1 ?_
  · rintro w' hq
    go_simp
    first | done | (have hp : p < E := HP.out; omega)
  try simp only [Act.put, List.setIfInBounds_toArray, List.set_cons_zero, List.set_cons_succ]
  refine takeD (i := 11) (v := .bool true) (some 34) rfl rfl (by kernel_rfl) (by kernel_rfl) (by kernel_rfl) (fun _ _ _ h => h) (Or.inl ⟨by rfl, ?_⟩) hS1 ?_
  · rintro w' hq
    go_simp
  try simp only [Act.put, List.setIfInBounds_toArray, List.set_cons_zero, List.set_cons_succ]
  refine takeD (i := 12) (v := .bool true) (some 22) rfl rfl (by kernel_rfl) (by kernel_rfl) (by kernel_rfl) (fun _ _ _ h => h) (Or.inl ⟨by rfl, ?_⟩) hS1 ?_
  · rintro w' hq
    go_simp
  try simp only [Act.put, List.setIfInBounds_toArray, List.set_cons_zero, List.set_cons_succ]
  refine wpAnyH_done (by kernel_rfl) ?_ _
  have hA := HA0.out.below hb1 HA0.out.lt
  clear hb1 hS0 HA0
  have HB2 := Kp.mk hS1.old
  clear hS1
  go_wp2_with (refine wpList_store_vb (vs := (sv0).cells) rfl (.tmp 4) (.tmp 35) rfl rfl rfl hA rfl agg_seg rfl ?_; intro w4 hv4 hg4 hz4; clear hA)
  refine bodyPost_ret (v := .tuple #[(sv0).v, .bool false, .bool false]) (results_three Try.results43 _ rfl hv4 agg_seg) rfl ?_
  exact ⟨rfl, below_grown HB2.out hg4 HB2.out.size (by omega)⟩
set_option maxRecDepth 100000 in
set_option maxHeartbeats 2000000 in
theorem gOld_new (h0 : Gb w g sf bo E) (x : Sv) (hy : offG x sf bo = true) (hp : E < x.p) : Calls Try.prog 43 #[.pointer (some ⟨g, 0, none⟩), x.v] w fun en w' => en = .returned (.tuple #[(ansA x sf bo).v, .bool (helloG x sf || offG x sf bo), .bool (offG x sf bo)]) ∧ Gb w' g sf bo (epA x sf bo E) ∧ w.grownBy w' (some g) := by
  have HO := Kp.mk hy
  have HP := Kp.mk hp
  clear hy hp
  obtain ⟨k, t, f, h, p, o, s, a, A, n, c'⟩ := x
  have hS := H2.new (k := k) (t := t) (f := f) (h := h) (p := p) (o := o) (s := s) (a := a) (A := A) (n := n) (c := c') h0 _ rfl
  have hN := new_seg (w.alloc (.cells #[.int .i64 k, .int .i64 t, .int .i64 f, .int .i64 h, .int .i64 p, .int .i64 o, .int .i64 s, .int .i64 a, .slice A n c'] 31)) sv0
  rw [allocZ] at hN
  have hS := hS.step (by simpa using hN.2)
  have HW := Kp.mk hN.1
  clear h0 hN
  simp only [Sv.v] at ⊢
  go_enter Try.func43, Try.ntmps43
  go_upto_region 1 with fail
  have hS0 := hS.step (Below.refl _ _).drew
  have HW0 := Kp.mk (HW.out.below (Below.refl _ _).drew HW.out.lt)
  clear hS HW
  refine wp_region_held_drew (S := H2 w w.heap.size k t f h p o s a A n c' 67 g [.int .i64 sf, .int .i64 bo, .int .i64 E]) (by kernel_rfl) hS0 (fun _ => ?_)
  refine takeD (i := 0) (v := .pointer (some ⟨g, 0, none⟩)) (some 8) rfl rfl (by kernel_rfl) (by kernel_rfl) (by kernel_rfl) (fun _ _ _ h => h) (Or.inl ⟨by rfl, ?_⟩) hS0 ?_
  · rintro w' hq
    go_simp
  try simp only [Act.put, List.setIfInBounds_toArray, List.set_cons_zero, List.set_cons_succ]
  refine takeD (i := 1) (v := .agg #[.int .i64 k, .int .i64 t, .int .i64 f, .int .i64 h, .int .i64 p, .int .i64 o, .int .i64 s, .int .i64 a, .slice A n c']) (some 9) rfl rfl (by kernel_rfl) (by kernel_rfl) (by kernel_rfl) (fun _ _ _ h => h) (Or.inl ⟨by rfl, ?_⟩) hS0 ?_
  · rintro w' hq
    obtain ⟨d0, d1, d2, d3, d4, d5, d6, d7, d8⟩ := hq.nine
    go_simp
  try simp only [Act.put, List.setIfInBounds_toArray, List.set_cons_zero, List.set_cons_succ]
  refine wpAnyH_ready (rs := [2]) (by kernel_rfl) (by simp) ?_
  refine AllReadyH.cons rfl (fun K hK => ?_) AllReadyH.nil
  try rw [if_pos (by rfl)]
  go_simp
  refine (gOffered hS0.r ⟨k, t, f, h, p, o, s, a, A, n, c'⟩).mono ?_
  rintro e u1 ⟨rfl, hb1⟩
  rw [HO.out]
  have hS1 := H2.step hS0 hb1
  refine hK.out _ _ hS1 (fun _ => ?_)
  clear hK K
  try simp only [Act.put, List.setIfInBounds_toArray, List.set_cons_zero, List.set_cons_succ]
  refine takeD (i := 3) (v := .bool true) (some 11) rfl rfl (by kernel_rfl) (by kernel_rfl) (by kernel_rfl) (fun _ _ _ h => h) (Or.inl ⟨by rfl, ?_⟩) hS1 ?_
  · rintro w' hq
    go_simp
  try simp only [Act.put, List.setIfInBounds_toArray, List.set_cons_zero, List.set_cons_succ]
  refine takeD (i := 4) (v := .pointer (some ⟨w.heap.size, 4, none⟩)) (some 12) rfl rfl (by kernel_rfl) (by kernel_rfl) (by kernel_rfl) (fun _ _ _ h => h) (Or.inl ⟨by rfl, ?_⟩) hS1 ?_
  · rintro w' hq
    go_simp
  try simp only [Act.put, List.setIfInBounds_toArray, List.set_cons_zero, List.set_cons_succ]
  refine takeD (i := 5) (v := .int .i64 p) (some 13) rfl rfl (by kernel_rfl) (by kernel_rfl) (by kernel_rfl) (fun _ _ _ h => h) (Or.inl ⟨by rfl, ?_⟩) hS1 ?_
  · rintro w' hq
    obtain ⟨d0, d1, d2, d3, d4, d5, d6, d7, d8⟩ := hq.nine
    go_simp
  try simp only [Act.put, List.setIfInBounds_toArray, List.set_cons_zero, List.set_cons_succ]
  refine takeD (i := 6) (v := .pointer (some ⟨g, 0, none⟩)) (some 14) rfl rfl (by kernel_rfl) (by kernel_rfl) (by kernel_rfl) (fun _ _ _ h => h) (Or.inl ⟨by rfl, ?_⟩) hS1 ?_
  · rintro w' hq
    go_simp
  try simp only [Act.put, List.setIfInBounds_toArray, List.set_cons_zero, List.set_cons_succ]
  refine takeD (i := 7) (v := .pointer (some ⟨g, 0, none⟩)) (some 15) rfl rfl (by kernel_rfl) (by kernel_rfl) (by kernel_rfl) (fun _ _ _ h => h) (Or.inl ⟨by rfl, ?_⟩) hS1 ?_
  · rintro w' hq
    go_simp
  try simp only [Act.put, List.setIfInBounds_toArray, List.set_cons_zero, List.set_cons_succ]
  refine takeD (i := 8) (v := .pointer (some ⟨g, 2, none⟩)) (some 16) rfl rfl (by kernel_rfl) (by kernel_rfl) (by kernel_rfl) (fun _ _ _ h => h) (Or.inl ⟨by rfl, ?_⟩) hS1 ?_
  · rintro w' hq
    go_simp
  try simp only [Act.put, List.setIfInBounds_toArray, List.set_cons_zero, List.set_cons_succ]
  refine takeD (i := 9) (v := .int .i64 E) (some 17) rfl rfl (by kernel_rfl) (by kernel_rfl) (by kernel_rfl) (fun _ _ _ h => h) (Or.inl ⟨by rfl, ?_⟩) hS1 ?_
  · rintro w' hq
    have c0 := hq.r.cell 2 rfl
    go_simp
  try simp only [Act.put, List.setIfInBounds_toArray, List.set_cons_zero, List.set_cons_succ]
  refine takeD (i := 10) (v := .bool false) (some 18) rfl rfl (by kernel_rfl) (by kernel_rfl) (by kernel_rfl) (fun _ _ _ h => h) (Or.inl ⟨by rfl, ?_⟩) hS1 ?_
  · rintro w' hq
    go_simp
    first | done | (have hp : E < p := HP.out; omega)
  try simp only [Act.put, List.setIfInBounds_toArray, List.set_cons_zero, List.set_cons_succ]
  refine takeD (i := 11) (v := .bool false) (some 19) rfl rfl (by kernel_rfl) (by kernel_rfl) (by kernel_rfl) (fun _ _ _ h => h) (Or.inl ⟨by rfl, ?_⟩) hS1 ?_
  · rintro w' hq
    go_simp
  try simp only [Act.put, List.setIfInBounds_toArray, List.set_cons_zero, List.set_cons_succ]
  refine takeD (i := 12) (v := .bool false) (some 7) rfl rfl (by kernel_rfl) (by kernel_rfl) (by kernel_rfl) (fun _ _ _ h => h) (Or.inl ⟨by rfl, ?_⟩) hS1 ?_
  · rintro w' hq
    go_simp
  try simp only [Act.put, List.setIfInBounds_toArray, List.set_cons_zero, List.set_cons_succ]
  refine wpAnyH_done (by kernel_rfl) ?_ _
  have hA := HW0.out.below hb1 HW0.out.lt
  have hT := hS1
  clear hb1 hS0 HW0 hS1
  go_upto_region 3 with fail
  have hS0 := hT.step (Below.refl _ _).drew
  have HA0 := Kp.mk (hA.below (Below.refl _ _).drew hA.lt)
  clear hT hA
  refine wp_region_held_drew (S := H2 w w.heap.size k t f h p o s a A n c' 67 g [.int .i64 sf, .int .i64 bo, .int .i64 E]) (by kernel_rfl) hS0 (fun _ => ?_)
  refine takeD (i := 0) (v := .pointer (some ⟨g, 0, none⟩)) (some 23) rfl rfl (by kernel_rfl) (by kernel_rfl) (by kernel_rfl) (fun _ _ _ h => h) (Or.inl ⟨by rfl, ?_⟩) hS0 ?_
  · rintro w' hq
    go_simp
  try simp only [Act.put, List.setIfInBounds_toArray, List.set_cons_zero, List.set_cons_succ]
  refine takeD (i := 1) (v := .agg #[.int .i64 k, .int .i64 t, .int .i64 f, .int .i64 h, .int .i64 p, .int .i64 o, .int .i64 s, .int .i64 a, .slice A n c']) (some 24) rfl rfl (by kernel_rfl) (by kernel_rfl) (by kernel_rfl) (fun _ _ _ h => h) (Or.inl ⟨by rfl, ?_⟩) hS0 ?_
  · rintro w' hq
    obtain ⟨d0, d1, d2, d3, d4, d5, d6, d7, d8⟩ := hq.nine
    go_simp
  try simp only [Act.put, List.setIfInBounds_toArray, List.set_cons_zero, List.set_cons_succ]
  refine wpAnyH_ready (rs := [2]) (by kernel_rfl) (by simp) ?_
  refine AllReadyH.cons rfl (fun K hK => ?_) AllReadyH.nil
  try rw [if_pos (by rfl)]
  go_simp
  refine (gOffered hS0.r ⟨k, t, f, h, p, o, s, a, A, n, c'⟩).mono ?_
  rintro e v1 ⟨rfl, hb1⟩
  rw [HO.out]
  have hS1 := H2.step hS0 hb1
  refine hK.out _ _ hS1 (fun _ => ?_)
  clear hK K
  try simp only [Act.put, List.setIfInBounds_toArray, List.set_cons_zero, List.set_cons_succ]
  refine takeD (i := 3) (v := .bool true) (some 26) rfl rfl (by kernel_rfl) (by kernel_rfl) (by kernel_rfl) (fun _ _ _ h => h) (Or.inl ⟨by rfl, ?_⟩) hS1 ?_
  · rintro w' hq
    go_simp
  try simp only [Act.put, List.setIfInBounds_toArray, List.set_cons_zero, List.set_cons_succ]
  refine takeD (i := 4) (v := .pointer (some ⟨w.heap.size, 4, none⟩)) (some 27) rfl rfl (by kernel_rfl) (by kernel_rfl) (by kernel_rfl) (fun _ _ _ h => h) (Or.inl ⟨by rfl, ?_⟩) hS1 ?_
  · rintro w' hq
    go_simp
  try simp only [Act.put, List.setIfInBounds_toArray, List.set_cons_zero, List.set_cons_succ]
  refine takeD (i := 5) (v := .int .i64 p) (some 28) rfl rfl (by kernel_rfl) (by kernel_rfl) (by kernel_rfl) (fun _ _ _ h => h) (Or.inl ⟨by rfl, ?_⟩) hS1 ?_
  · rintro w' hq
    obtain ⟨d0, d1, d2, d3, d4, d5, d6, d7, d8⟩ := hq.nine
    go_simp
  try simp only [Act.put, List.setIfInBounds_toArray, List.set_cons_zero, List.set_cons_succ]
  refine takeD (i := 6) (v := .pointer (some ⟨g, 0, none⟩)) (some 29) rfl rfl (by kernel_rfl) (by kernel_rfl) (by kernel_rfl) (fun _ _ _ h => h) (Or.inl ⟨by rfl, ?_⟩) hS1 ?_
  · rintro w' hq
    go_simp
  try simp only [Act.put, List.setIfInBounds_toArray, List.set_cons_zero, List.set_cons_succ]
  refine takeD (i := 7) (v := .pointer (some ⟨g, 0, none⟩)) (some 30) rfl rfl (by kernel_rfl) (by kernel_rfl) (by kernel_rfl) (fun _ _ _ h => h) (Or.inl ⟨by rfl, ?_⟩) hS1 ?_
  · rintro w' hq
    go_simp
  try simp only [Act.put, List.setIfInBounds_toArray, List.set_cons_zero, List.set_cons_succ]
  refine takeD (i := 8) (v := .pointer (some ⟨g, 2, none⟩)) (some 31) rfl rfl (by kernel_rfl) (by kernel_rfl) (by kernel_rfl) (fun _ _ _ h => h) (Or.inl ⟨by rfl, ?_⟩) hS1 ?_
  · rintro w' hq
    go_simp
  try simp only [Act.put, List.setIfInBounds_toArray, List.set_cons_zero, List.set_cons_succ]
  refine takeD (i := 9) (v := .int .i64 E) (some 32) rfl rfl (by kernel_rfl) (by kernel_rfl) (by kernel_rfl) (fun _ _ _ h => h) (Or.inl ⟨by rfl, ?_⟩) hS1 ?_
  · rintro w' hq
    have c0 := hq.r.cell 2 rfl
    go_simp
  try simp only [Act.put, List.setIfInBounds_toArray, List.set_cons_zero, List.set_cons_succ]
  refine takeD (i := 10) (v := .bool false) (some 33) rfl rfl (by kernel_rfl) (by kernel_rfl) (by kernel_rfl) (fun _ _ _ h => h) (Or.inl ⟨by rfl, ?_⟩) hS1 ?_
  · rintro w' hq
    go_simp
    first | done | (have hp : E < p := HP.out; omega)
  try simp only [Act.put, List.setIfInBounds_toArray, List.set_cons_zero, List.set_cons_succ]
  refine takeD (i := 11) (v := .bool false) (some 34) rfl rfl (by kernel_rfl) (by kernel_rfl) (by kernel_rfl) (fun _ _ _ h => h) (Or.inl ⟨by rfl, ?_⟩) hS1 ?_
  · rintro w' hq
    go_simp
  try simp only [Act.put, List.setIfInBounds_toArray, List.set_cons_zero, List.set_cons_succ]
  refine takeD (i := 12) (v := .bool false) (some 22) rfl rfl (by kernel_rfl) (by kernel_rfl) (by kernel_rfl) (fun _ _ _ h => h) (Or.inl ⟨by rfl, ?_⟩) hS1 ?_
  · rintro w' hq
    go_simp
  try simp only [Act.put, List.setIfInBounds_toArray, List.set_cons_zero, List.set_cons_succ]
  refine wpAnyH_done (by kernel_rfl) ?_ _
  have hA := HA0.out.below hb1 HA0.out.lt
  clear hb1 hS0 HA0
  have hGb : Gb v1 g sf bo E := hS1.r
  have HB1 := Kp.mk hS1.old
  obtain ⟨d0, d1, d2, d3, d4, d5, d6, d7, d8⟩ := hS1.nine
  clear hS1
  go_wp2_with fail
  refine (gAll_any hGb ⟨k, t, f, h, p, o, s, a, A, n, c'⟩).mono ?_
  rintro e2 u2 ⟨rfl, hG2, hg2⟩
  have hne : w.heap.size + 1 ≠ g := vb_ne hA hGb (by decide)
  replace hA := hA.grown hg2 hne
  have HG2 := Kp.mk (And.intro hG2 (And.intro ((grown_of_below HB1.out (some g)).trans hg2) hne))
  clear hGb HB1 d0 d1 d2 d3 d4 d5 d6 d7 d8 hG2 hg2 hne
  go_wp2_with (refine wpList_store_vb (vs := (ansA ⟨k, t, f, h, p, o, s, a, A, n, c'⟩ sf bo).cells) rfl (.tmp 4) (.tmp 39) rfl rfl rfl hA rfl agg_seg rfl ?_; intro w4 hv4 hg4 hz4; clear hA)
  refine bodyPost_ret (v := .tuple #[(ansA ⟨k, t, f, h, p, o, s, a, A, n, c'⟩ sf bo).v, .bool (helloG ⟨k, t, f, h, p, o, s, a, A, n, c'⟩ sf || offG ⟨k, t, f, h, p, o, s, a, A, n, c'⟩ sf bo), .bool (offG ⟨k, t, f, h, p, o, s, a, A, n, c'⟩ sf bo)]) (results_three Try.results43 _ rfl hv4 agg_seg) rfl ?_
  exact ⟨rfl, Vb.grown HG2.out.1 hg4 HG2.out.2.2.symm, grown_new HG2.out.2.1 hg4 (by omega)⟩
set_option maxRecDepth 100000 in
set_option maxHeartbeats 2000000 in
theorem gOld_not (h0 : Gb w g sf bo E) (x : Sv) (hy : offG x sf bo = false) : Calls Try.prog 43 #[.pointer (some ⟨g, 0, none⟩), x.v] w fun en w' => en = .returned (.tuple #[(ansA x sf bo).v, .bool (helloG x sf || offG x sf bo), .bool (offG x sf bo)]) ∧ Gb w' g sf bo (epA x sf bo E) ∧ w.grownBy w' (some g) := by
  have HO := Kp.mk hy
  clear hy
  obtain ⟨k, t, f, h, p, o, s, a, A, n, c'⟩ := x
  have hS := H2.new (k := k) (t := t) (f := f) (h := h) (p := p) (o := o) (s := s) (a := a) (A := A) (n := n) (c := c') h0 _ rfl
  have hN := new_seg (w.alloc (.cells #[.int .i64 k, .int .i64 t, .int .i64 f, .int .i64 h, .int .i64 p, .int .i64 o, .int .i64 s, .int .i64 a, .slice A n c'] 31)) sv0
  rw [allocZ] at hN
  have hS := hS.step (by simpa using hN.2)
  have HW := Kp.mk hN.1
  clear h0 hN
  simp only [Sv.v] at ⊢
  go_enter Try.func43, Try.ntmps43
  go_upto_region 1 with fail
  have hS0 := hS.step (Below.refl _ _).drew
  have HW0 := Kp.mk (HW.out.below (Below.refl _ _).drew HW.out.lt)
  clear hS HW
  refine wp_region_held_drew (S := H2 w w.heap.size k t f h p o s a A n c' 67 g [.int .i64 sf, .int .i64 bo, .int .i64 E]) (by kernel_rfl) hS0 (fun _ => ?_)
  refine takeD (i := 0) (v := .pointer (some ⟨g, 0, none⟩)) (some 8) rfl rfl (by kernel_rfl) (by kernel_rfl) (by kernel_rfl) (fun _ _ _ h => h) (Or.inl ⟨by rfl, ?_⟩) hS0 ?_
  · rintro w' hq
    go_simp
  try simp only [Act.put, List.setIfInBounds_toArray, List.set_cons_zero, List.set_cons_succ]
  refine takeD (i := 1) (v := .agg #[.int .i64 k, .int .i64 t, .int .i64 f, .int .i64 h, .int .i64 p, .int .i64 o, .int .i64 s, .int .i64 a, .slice A n c']) (some 9) rfl rfl (by kernel_rfl) (by kernel_rfl) (by kernel_rfl) (fun _ _ _ h => h) (Or.inl ⟨by rfl, ?_⟩) hS0 ?_
  · rintro w' hq
    obtain ⟨d0, d1, d2, d3, d4, d5, d6, d7, d8⟩ := hq.nine
    go_simp
  try simp only [Act.put, List.setIfInBounds_toArray, List.set_cons_zero, List.set_cons_succ]
  refine wpAnyH_ready (rs := [2]) (by kernel_rfl) (by simp) ?_
  refine AllReadyH.cons rfl (fun K hK => ?_) AllReadyH.nil
  try rw [if_pos (by rfl)]
  go_simp
  refine (gOffered hS0.r ⟨k, t, f, h, p, o, s, a, A, n, c'⟩).mono ?_
  rintro e u1 ⟨rfl, hb1⟩
  rw [HO.out]
  have hS1 := H2.step hS0 hb1
  refine hK.out _ _ hS1 (fun _ => ?_)
  clear hK K
  try simp only [Act.put, List.setIfInBounds_toArray, List.set_cons_zero, List.set_cons_succ]
  refine takeD (i := 3) (v := .bool false) (some 11) rfl rfl (by kernel_rfl) (by kernel_rfl) (by kernel_rfl) (fun _ _ _ h => h) (Or.inl ⟨by rfl, ?_⟩) hS1 ?_
  · rintro w' hq
    go_simp
  try simp only [Act.put, List.setIfInBounds_toArray, List.set_cons_zero, List.set_cons_succ]
  refine takeD (i := 4) (v := undef) (some 12) rfl rfl (by kernel_rfl) (by kernel_rfl) (by kernel_rfl) (fun _ _ _ h => h) (Or.inr ⟨by rfl, rfl⟩) hS1 ?_
  try simp only [Act.put, List.setIfInBounds_toArray, List.set_cons_zero, List.set_cons_succ]
  refine takeD (i := 5) (v := undef) (some 13) rfl rfl (by kernel_rfl) (by kernel_rfl) (by kernel_rfl) (fun _ _ _ h => h) (Or.inr ⟨by rfl, rfl⟩) hS1 ?_
  try simp only [Act.put, List.setIfInBounds_toArray, List.set_cons_zero, List.set_cons_succ]
  refine takeD (i := 6) (v := undef) (some 14) rfl rfl (by kernel_rfl) (by kernel_rfl) (by kernel_rfl) (fun _ _ _ h => h) (Or.inr ⟨by rfl, rfl⟩) hS1 ?_
  try simp only [Act.put, List.setIfInBounds_toArray, List.set_cons_zero, List.set_cons_succ]
  refine takeD (i := 7) (v := undef) (some 15) rfl rfl (by kernel_rfl) (by kernel_rfl) (by kernel_rfl) (fun _ _ _ h => h) (Or.inr ⟨by rfl, rfl⟩) hS1 ?_
  try simp only [Act.put, List.setIfInBounds_toArray, List.set_cons_zero, List.set_cons_succ]
  refine takeD (i := 8) (v := undef) (some 16) rfl rfl (by kernel_rfl) (by kernel_rfl) (by kernel_rfl) (fun _ _ _ h => h) (Or.inr ⟨by rfl, rfl⟩) hS1 ?_
  try simp only [Act.put, List.setIfInBounds_toArray, List.set_cons_zero, List.set_cons_succ]
  refine takeD (i := 9) (v := undef) (some 17) rfl rfl (by kernel_rfl) (by kernel_rfl) (by kernel_rfl) (fun _ _ _ h => h) (Or.inr ⟨by rfl, rfl⟩) hS1 ?_
  try simp only [Act.put, List.setIfInBounds_toArray, List.set_cons_zero, List.set_cons_succ]
  refine takeD (i := 10) (v := undef) (some 18) rfl rfl (by kernel_rfl) (by kernel_rfl) (by kernel_rfl) (fun _ _ _ h => h) (Or.inr ⟨by rfl, rfl⟩) hS1 ?_
  try simp only [Act.put, List.setIfInBounds_toArray, List.set_cons_zero, List.set_cons_succ]
  refine takeD (i := 11) (v := .bool false) (some 19) rfl rfl (by kernel_rfl) (by kernel_rfl) (by kernel_rfl) (fun _ _ _ h => h) (Or.inl ⟨by rfl, ?_⟩) hS1 ?_
  · rintro w' hq
    go_simp
  try simp only [Act.put, List.setIfInBounds_toArray, List.set_cons_zero, List.set_cons_succ]
  refine takeD (i := 12) (v := .bool false) (some 7) rfl rfl (by kernel_rfl) (by kernel_rfl) (by kernel_rfl) (fun _ _ _ h => h) (Or.inl ⟨by rfl, ?_⟩) hS1 ?_
  · rintro w' hq
    go_simp
  try simp only [Act.put, List.setIfInBounds_toArray, List.set_cons_zero, List.set_cons_succ]
  refine wpAnyH_done (by kernel_rfl) ?_ _
  have hA := HW0.out.below hb1 HW0.out.lt
  have hT := hS1
  clear hb1 hS0 HW0 hS1
  go_upto_region 3 with fail
  have hS0 := hT.step (Below.refl _ _).drew
  have HA0 := Kp.mk (hA.below (Below.refl _ _).drew hA.lt)
  clear hT hA
  refine wp_region_held_drew (S := H2 w w.heap.size k t f h p o s a A n c' 67 g [.int .i64 sf, .int .i64 bo, .int .i64 E]) (by kernel_rfl) hS0 (fun _ => ?_)
  refine takeD (i := 0) (v := .pointer (some ⟨g, 0, none⟩)) (some 23) rfl rfl (by kernel_rfl) (by kernel_rfl) (by kernel_rfl) (fun _ _ _ h => h) (Or.inl ⟨by rfl, ?_⟩) hS0 ?_
  · rintro w' hq
    go_simp
  try simp only [Act.put, List.setIfInBounds_toArray, List.set_cons_zero, List.set_cons_succ]
  refine takeD (i := 1) (v := .agg #[.int .i64 k, .int .i64 t, .int .i64 f, .int .i64 h, .int .i64 p, .int .i64 o, .int .i64 s, .int .i64 a, .slice A n c']) (some 24) rfl rfl (by kernel_rfl) (by kernel_rfl) (by kernel_rfl) (fun _ _ _ h => h) (Or.inl ⟨by rfl, ?_⟩) hS0 ?_
  · rintro w' hq
    obtain ⟨d0, d1, d2, d3, d4, d5, d6, d7, d8⟩ := hq.nine
    go_simp
  try simp only [Act.put, List.setIfInBounds_toArray, List.set_cons_zero, List.set_cons_succ]
  refine wpAnyH_ready (rs := [2]) (by kernel_rfl) (by simp) ?_
  refine AllReadyH.cons rfl (fun K hK => ?_) AllReadyH.nil
  try rw [if_pos (by rfl)]
  go_simp
  refine (gOffered hS0.r ⟨k, t, f, h, p, o, s, a, A, n, c'⟩).mono ?_
  rintro e v1 ⟨rfl, hb1⟩
  rw [HO.out]
  have hS1 := H2.step hS0 hb1
  refine hK.out _ _ hS1 (fun _ => ?_)
  clear hK K
  try simp only [Act.put, List.setIfInBounds_toArray, List.set_cons_zero, List.set_cons_succ]
  refine takeD (i := 3) (v := .bool false) (some 26) rfl rfl (by kernel_rfl) (by kernel_rfl) (by kernel_rfl) (fun _ _ _ h => h) (Or.inl ⟨by rfl, ?_⟩) hS1 ?_
  · rintro w' hq
    go_simp
  try simp only [Act.put, List.setIfInBounds_toArray, List.set_cons_zero, List.set_cons_succ]
  refine takeD (i := 4) (v := undef) (some 27) rfl rfl (by kernel_rfl) (by kernel_rfl) (by kernel_rfl) (fun _ _ _ h => h) (Or.inr ⟨by rfl, rfl⟩) hS1 ?_
  try simp only [Act.put, List.setIfInBounds_toArray, List.set_cons_zero, List.set_cons_succ]
  refine takeD (i := 5) (v := undef) (some 28) rfl rfl (by kernel_rfl) (by kernel_rfl) (by kernel_rfl) (fun _ _ _ h => h) (Or.inr ⟨by rfl, rfl⟩) hS1 ?_
  try simp only [Act.put, List.setIfInBounds_toArray, List.set_cons_zero, List.set_cons_succ]
  refine takeD (i := 6) (v := undef) (some 29) rfl rfl (by kernel_rfl) (by kernel_rfl) (by kernel_rfl) (fun _ _ _ h => h) (Or.inr ⟨by rfl, rfl⟩) hS1 ?_
  try simp only [Act.put, List.setIfInBounds_toArray, List.set_cons_zero, List.set_cons_succ]
  refine takeD (i := 7) (v := undef) (some 30) rfl rfl (by kernel_rfl) (by kernel_rfl) (by kernel_rfl) (fun _ _ _ h => h) (Or.inr ⟨by rfl, rfl⟩) hS1 ?_
  try simp only [Act.put, List.setIfInBounds_toArray, List.set_cons_zero, List.set_cons_succ]
  refine takeD (i := 8) (v := undef) (some 31) rfl rfl (by kernel_rfl) (by kernel_rfl) (by kernel_rfl) (fun _ _ _ h => h) (Or.inr ⟨by rfl, rfl⟩) hS1 ?_
  try simp only [Act.put, List.setIfInBounds_toArray, List.set_cons_zero, List.set_cons_succ]
  refine takeD (i := 9) (v := undef) (some 32) rfl rfl (by kernel_rfl) (by kernel_rfl) (by kernel_rfl) (fun _ _ _ h => h) (Or.inr ⟨by rfl, rfl⟩) hS1 ?_
  try simp only [Act.put, List.setIfInBounds_toArray, List.set_cons_zero, List.set_cons_succ]
  refine takeD (i := 10) (v := undef) (some 33) rfl rfl (by kernel_rfl) (by kernel_rfl) (by kernel_rfl) (fun _ _ _ h => h) (Or.inr ⟨by rfl, rfl⟩) hS1 ?_
  try simp only [Act.put, List.setIfInBounds_toArray, List.set_cons_zero, List.set_cons_succ]
  refine takeD (i := 11) (v := .bool false) (some 34) rfl rfl (by kernel_rfl) (by kernel_rfl) (by kernel_rfl) (fun _ _ _ h => h) (Or.inl ⟨by rfl, ?_⟩) hS1 ?_
  · rintro w' hq
    go_simp
  try simp only [Act.put, List.setIfInBounds_toArray, List.set_cons_zero, List.set_cons_succ]
  refine takeD (i := 12) (v := .bool false) (some 22) rfl rfl (by kernel_rfl) (by kernel_rfl) (by kernel_rfl) (fun _ _ _ h => h) (Or.inl ⟨by rfl, ?_⟩) hS1 ?_
  · rintro w' hq
    go_simp
  try simp only [Act.put, List.setIfInBounds_toArray, List.set_cons_zero, List.set_cons_succ]
  refine wpAnyH_done (by kernel_rfl) ?_ _
  have hA := HA0.out.below hb1 HA0.out.lt
  clear hb1 hS0 HA0
  have hGb : Gb v1 g sf bo E := hS1.r
  have HB1 := Kp.mk hS1.old
  obtain ⟨d0, d1, d2, d3, d4, d5, d6, d7, d8⟩ := hS1.nine
  clear hS1
  go_wp2_with fail
  refine (gAll_any hGb ⟨k, t, f, h, p, o, s, a, A, n, c'⟩).mono ?_
  rintro e2 u2 ⟨rfl, hG2, hg2⟩
  have hne : w.heap.size + 1 ≠ g := vb_ne hA hGb (by decide)
  replace hA := hA.grown hg2 hne
  have HG2 := Kp.mk (And.intro hG2 (And.intro ((grown_of_below HB1.out (some g)).trans hg2) hne))
  clear hGb HB1 d0 d1 d2 d3 d4 d5 d6 d7 d8 hG2 hg2 hne
  go_wp2_with (refine wpList_store_vb (vs := (ansA ⟨k, t, f, h, p, o, s, a, A, n, c'⟩ sf bo).cells) rfl (.tmp 4) (.tmp 39) rfl rfl rfl hA rfl agg_seg rfl ?_; intro w4 hv4 hg4 hz4; clear hA)
  refine bodyPost_ret (v := .tuple #[(ansA ⟨k, t, f, h, p, o, s, a, A, n, c'⟩ sf bo).v, .bool (helloG ⟨k, t, f, h, p, o, s, a, A, n, c'⟩ sf || offG ⟨k, t, f, h, p, o, s, a, A, n, c'⟩ sf bo), .bool (offG ⟨k, t, f, h, p, o, s, a, A, n, c'⟩ sf bo)]) (results_three Try.results43 _ rfl hv4 agg_seg) rfl ?_
  exact ⟨rfl, Vb.grown HG2.out.1 hg4 HG2.out.2.2.symm, grown_new HG2.out.2.1 hg4 (by omega)⟩
theorem gOlder (h : Gb w g sf bo E) (x : Sv) : Calls Try.prog 43 #[.pointer (some ⟨g, 0, none⟩), x.v] w fun en w' => en = .returned (.tuple #[(ansG x sf bo E).v, .bool (isG x sf bo E), .bool (begG x sf bo E)]) ∧ Gb w' g sf bo (epG x sf bo E) ∧ w.grownBy w' (some g) := by
  cases hy : offG x sf bo with
  | false =>
    obtain ⟨e1, e2, e3, e4⟩ := ansA_eq (x := x) (sf := sf) (bo := bo) (E := E) (fun h => by rw [hy] at h; cases h)
    rw [← e1, ← e2, ← e3, ← e4]
    exact gOld_not h x hy
  | true =>
    by_cases h1 : x.p = E
    · have hh := off_not hy
      have ea : ackG x sf bo E = true := by unfold ackG; rw [hy]; simp; omega
      unfold ansG isG begG epG
      rw [hh, ea, h1]
      exact (gOld_same h x hy h1).mono fun _ _ ⟨h2, h3⟩ => ⟨by simpa using h2, by simpa using h.below h3, grown_of_below h3 _⟩
    · by_cases h2 : x.p < E
      · have hh := off_not hy
        have ea : ackG x sf bo E = false := by unfold ackG; rw [hy]; simp; omega
        unfold ansG isG begG epG
        rw [hh, ea]
        exact (gOld_late h x hy h2).mono fun _ _ ⟨h2, h3⟩ => ⟨by simpa using h2, by simpa using h.below h3, grown_of_below h3 _⟩
      · obtain ⟨e1, e2, e3, e4⟩ := ansA_eq (x := x) (sf := sf) (bo := bo) (E := E) (fun _ => by omega)
        rw [← e1, ← e2, ← e3, ← e4]
        exact gOld_new h x hy (by omega)
theorem gFree (h : Gb w g sf bo 0) (x : Sv) : Calls Try.prog 42 #[.pointer (some ⟨g, 0, none⟩), x.v] w fun en w' => en = .returned (.tuple #[(ansG x sf bo 0).v, .bool (isG x sf bo 0), .bool (begG x sf bo 0)]) ∧ Gb w' g sf bo (epG x sf bo 0) ∧ w.grownBy w' (some g) := by
  obtain ⟨e1, e2, e3, e4⟩ := ansA_eq (x := x) (sf := sf) (bo := bo) (E := 0) (fun h => by have := off_pos h; omega)
  rw [← e1, ← e2, ← e3, ← e4]
  exact gAll_any h x
set_option maxRecDepth 100000 in
theorem gState (h : Gb w g sf bo E) (hs : sf ≠ 0) : Calls Try.prog 44 #[.pointer (some ⟨g, 0, none⟩)] w fun en w' => en = .returned (.int .i64 (if E = 0 then 1 else 2)) ∧ w' = w := by
  have c0 := Vb.cell h 0 rfl
  have c2 := Vb.cell h 2 rfl
  have h1 : (sf == 0) = false := by simpa using hs
  clear h hs
  by_cases hE : E = 0
  · rw [if_pos hE]
    have h2 : (E == 0) = true := by simpa using hE
    clear hE
    go_enter Try.func44, Try.ntmps44
    go_wp2_with fail
    go_ret
    exact ⟨rfl, rfl⟩
  · rw [if_neg hE]
    have h2 : (E == 0) = false := by simpa using hE
    clear hE
    go_enter Try.func44, Try.ntmps44
    go_wp2_with fail
    go_ret
    exact ⟨rfl, rfl⟩
set_option maxRecDepth 100000 in
theorem gEpoch (h : Gb w g sf bo E) : Calls Try.prog 18 #[.pointer (some ⟨g, 0, none⟩)] w fun en w' => en = .returned (.int .i64 E) ∧ w' = w := by
  have c2 := Vb.cell h 2 rfl
  clear h
  go_enter Try.func18, Try.ntmps18
  go_wp2_with fail
  go_ret
  exact ⟨rfl, rfl⟩
set_option maxRecDepth 100000 in
theorem gBoot (h : Gb w g sf bo E) : Calls Try.prog 20 #[.pointer (some ⟨g, 0, none⟩)] w fun en w' => en = .returned (.int .i64 bo) ∧ w' = w := by
  have c2 := Vb.cell h 1 rfl
  clear h
  go_enter Try.func20, Try.ntmps20
  go_wp2_with fail
  go_ret
  exact ⟨rfl, rfl⟩
end
set_option maxRecDepth 100000 in
theorem gnew_yes (w : World) (sf bo : Int) (h1 : swB sf = true) (h2 : lgB bo 0 = true) : Calls Try.prog 9 #[.int .i64 sf, .int .i64 bo] w fun en w' => en = .returned (.tuple #[.pointer (some ⟨w.heap.size, 0, none⟩), .int .i64 0]) ∧ Gb w' w.heap.size sf bo 0 ∧ Below w.heap.size w w' := by
  have HN := Kp.mk (And.intro (Vb.new 67 w [.int .i64 sf, .int .i64 bo, .int .i64 0]) (below_alloc w (.cells #[.int .i64 sf, .int .i64 bo, .int .i64 0] 67)))
  have hs := isSwitch_any sf w
  have hl := isLong_any bo 0 w
  rw [h1] at hs
  rw [h2] at hl
  clear h1 h2
  go_enter Try.func9, Try.ntmps9
  go_wp2_with fail
  refine hs.mono ?_
  rintro e1 w1 ⟨rfl, hw1⟩
  replace hw1 := hw1.symm
  subst hw1
  go_wp2_with fail
  refine hl.mono ?_
  rintro e1 w1 ⟨rfl, hw1⟩
  replace hw1 := hw1.symm
  subst hw1
  go_wp2_with fail
  go_ret2
  exact ⟨rfl, HN.out.1, HN.out.2⟩
set_option maxRecDepth 100000 in
theorem gnew_no (w : World) (sf bo : Int) (h : (swB sf && lgB bo 0) = false) : Calls Try.prog 9 #[.int .i64 sf, .int .i64 bo] w fun en w' => en = .returned (.tuple #[.pointer none, .int .i64 2]) ∧ w' = w := by
  have hs := isSwitch_any sf w
  have hl := isLong_any bo 0 w
  cases h1 : swB sf with
  | false =>
    rw [h1] at hs
    clear h h1 hl
    go_enter Try.func9, Try.ntmps9
    go_wp2_with fail
    refine hs.mono ?_
    rintro e1 w1 ⟨rfl, hw1⟩
    replace hw1 := hw1.symm
    subst hw1
    go_wp2_with fail
    go_ret2
    exact ⟨rfl, rfl⟩
  | true =>
    have h2 : lgB bo 0 = false := by rw [h1] at h; simpa using h
    rw [h1] at hs
    rw [h2] at hl
    clear h h1 h2
    go_enter Try.func9, Try.ntmps9
    go_wp2_with fail
    refine hs.mono ?_
    rintro e1 w1 ⟨rfl, hw1⟩
    replace hw1 := hw1.symm
    subst hw1
    go_wp2_with fail
    refine hl.mono ?_
    rintro e1 w1 ⟨rfl, hw1⟩
    replace hw1 := hw1.symm
    subst hw1
    go_wp2_with fail
    go_ret2
    exact ⟨rfl, rfl⟩
section
variable {w w' : World} {g : Nat} {sf bo E : Int}
theorem agg_gtakes : Agg 82 3 := ⟨⟨_, Try.underlying82, rfl⟩, by kernel_rfl⟩
set_option maxRecDepth 100000 in
set_option maxHeartbeats 2000000 in
theorem gTake_any (h0 : Gb w g sf bo E) (hs : sf ≠ 0) (x : Sv) : Calls Try.prog 27 #[.pointer (some ⟨g, 0, none⟩), x.v] w fun en w' => en = .returned (.tuple #[(ansG x sf bo E).v, .bool (isG x sf bo E), .bool (begG x sf bo E)]) ∧ Gb w' g sf bo (epG x sf bo E) ∧ w.grownBy w' (some g) := by
  obtain ⟨k, t, f, h, p, o, s, a, A, n, c'⟩ := x
  have hN := new_seg (w.alloc (.cells #[.int .i64 k, .int .i64 t, .int .i64 f, .int .i64 h, .int .i64 p, .int .i64 o, .int .i64 s, .int .i64 a, .slice A n c'] 31)) sv0
  rw [allocZ] at hN
  have hB := new_seg w ⟨k, t, f, h, p, o, s, a, A, n, c'⟩
  have H1 : Kp (Gb ((w.alloc (.cells #[.int .i64 k, .int .i64 t, .int .i64 f, .int .i64 h, .int .i64 p, .int .i64 o, .int .i64 s, .int .i64 a, .slice A n c'] 31)).alloc (.cells #[.int .i64 0, .int .i64 0, .int .i64 0, .int .i64 0, .int .i64 0, .int .i64 0, .int .i64 0, .int .i64 0, .slice none 0 0] 31)) g sf bo E ∧ Vb 31 ((w.alloc (.cells #[.int .i64 k, .int .i64 t, .int .i64 f, .int .i64 h, .int .i64 p, .int .i64 o, .int .i64 s, .int .i64 a, .slice A n c'] 31)).alloc (.cells #[.int .i64 0, .int .i64 0, .int .i64 0, .int .i64 0, .int .i64 0, .int .i64 0, .int .i64 0, .int .i64 0, .slice none 0 0] 31)) w.heap.size [.int .i64 k, .int .i64 t, .int .i64 f, .int .i64 h, .int .i64 p, .int .i64 o, .int .i64 s, .int .i64 a, .slice A n c'] ∧ Vb 31 ((w.alloc (.cells #[.int .i64 k, .int .i64 t, .int .i64 f, .int .i64 h, .int .i64 p, .int .i64 o, .int .i64 s, .int .i64 a, .slice A n c'] 31)).alloc (.cells #[.int .i64 0, .int .i64 0, .int .i64 0, .int .i64 0, .int .i64 0, .int .i64 0, .int .i64 0, .int .i64 0, .slice none 0 0] 31)) (w.heap.size + 1) sv0.cells ∧ Below w.heap.size w ((w.alloc (.cells #[.int .i64 k, .int .i64 t, .int .i64 f, .int .i64 h, .int .i64 p, .int .i64 o, .int .i64 s, .int .i64 a, .slice A n c'] 31)).alloc (.cells #[.int .i64 0, .int .i64 0, .int .i64 0, .int .i64 0, .int .i64 0, .int .i64 0, .int .i64 0, .int .i64 0, .slice none 0 0] 31))) :=
    Kp.mk ⟨Vb.alloc (Vb.alloc h0 _) _, Vb.alloc hB.1 _, hN.1, hB.2.trans (hN.2.mono (by omega))⟩
  clear h0 hN hB
  simp only [Sv.v]
  by_cases hE : E = 0
  · subst hE
    have HE := Kp.mk (show (if (0 : Int) = 0 then (1 : Int) else 2) = 1 from rfl)
    go_enter Try.func27, Try.ntmps27
    go_upto_region 2 with (refine wpList_store_new (vs := [.func (.func 41) #[] #[], .func (.func 42) #[] #[], .func (.func 43) #[] #[]]) rfl (.tmp 7) (.tmp 8) rfl rfl rfl rfl (by simp) rfl agg_gtakes rfl ?_; intro w2 hv hb hz)
    have hG2 : Gb w2 g sf bo 0 := Vb.below H1.out.1 hb (Vb.lt H1.out.1)
    have hP2 : P2 w.heap.size k t f h p o s a A n c' 82 (w.heap.size + 2) [.func (.func 41) #[] #[], .func (.func 42) #[] #[], .func (.func 43) #[] #[]] w2 := ⟨Vb.below H1.out.2.1 hb (Vb.lt H1.out.2.1), by simpa using hv⟩
    have hA2 := Vb.below H1.out.2.2.1 hb (Vb.lt H1.out.2.2.1)
    have HB2 := Kp.mk ((H1.out.2.2.2.trans (hb.mono H1.out.2.2.2.size)).drew)
    have hd := (Below.refl w2.heap.size w2).drew
    have hG0 := hG2.below hd
    have hS0 := hP2.step hd
    have hA0 := hA2.below hd hA2.lt
    clear hv hb hz hG2 hP2 hA2 hd H1
    refine wp_region_held_drew (S := P2 w.heap.size k t f h p o s a A n c' 82 (w.heap.size + 2) [.func (.func 41) #[] #[], .func (.func 42) #[] #[], .func (.func 43) #[] #[]]) (by kernel_rfl) hS0 (fun _ => ?_)
    refine takeD (i := 0) (v := .pointer (some ⟨g, 0, none⟩)) (some 9) rfl rfl (by kernel_rfl) (by kernel_rfl) (by kernel_rfl) (fun _ _ _ h => h) (Or.inl ⟨by rfl, ?_⟩) hS0 ?_
    · rintro w' hq
      go_simp
    try simp only [Act.put, List.setIfInBounds_toArray, List.set_cons_zero, List.set_cons_succ]
    refine takeD (i := 4) (v := .pointer (some ⟨g, 0, none⟩)) (some 13) rfl rfl (by kernel_rfl) (by kernel_rfl) (by kernel_rfl) (fun _ _ _ h => h) (Or.inl ⟨by rfl, ?_⟩) hS0 ?_
    · rintro w' hq
      go_simp
    try simp only [Act.put, List.setIfInBounds_toArray, List.set_cons_zero, List.set_cons_succ]
    refine takeD (i := 5) (v := .agg #[.int .i64 k, .int .i64 t, .int .i64 f, .int .i64 h, .int .i64 p, .int .i64 o, .int .i64 s, .int .i64 a, .slice A n c']) (some 14) rfl rfl (by kernel_rfl) (by kernel_rfl) (by kernel_rfl) (fun _ _ _ h => h) (Or.inl ⟨by rfl, ?_⟩) hS0 ?_
    · rintro w' hq
      obtain ⟨d0, d1, d2, d3, d4, d5, d6, d7, d8⟩ := hq.nine
      go_simp
    try simp only [Act.put, List.setIfInBounds_toArray, List.set_cons_zero, List.set_cons_succ]
    refine wpAnyH_ready (rs := [1]) (by kernel_rfl) (by simp) ?_
    refine AllReadyH.cons rfl (fun K hK => ?_) AllReadyH.nil
    try rw [if_pos (by rfl)]
    go_simp
    refine (gState hG0 hs).mono ?_
    rintro e u1 ⟨rfl, hw1⟩
    replace hw1 := hw1.symm
    subst hw1
    have hb1 := Below.refl w2.drew.heap.size w2.drew
    rw [HE.out]
    have hS1 := P2.step hS0 hb1
    refine hK.out _ _ hS1 (fun _ => ?_)
    clear hK K
    try simp only [Act.put, List.setIfInBounds_toArray, List.set_cons_zero, List.set_cons_succ]
    refine takeD (i := 2) (v := .pointer (some ⟨w.heap.size + 2, 1, none⟩)) (some 11) rfl rfl (by kernel_rfl) (by kernel_rfl) (by kernel_rfl) (fun _ _ _ h => h) (Or.inl ⟨by rfl, ?_⟩) hS1 ?_
    · rintro w' hq
      go_simp
    try simp only [Act.put, List.setIfInBounds_toArray, List.set_cons_zero, List.set_cons_succ]
    refine takeD (i := 3) (v := .func (.func 42) #[] #[]) (some 12) rfl rfl (by kernel_rfl) (by kernel_rfl) (by kernel_rfl) (fun _ _ _ h => h) (Or.inl ⟨by rfl, ?_⟩) hS1 ?_
    · rintro w' hq
      have c0 := hq.r.cell 1 rfl
      go_simp
    try simp only [Act.put, List.setIfInBounds_toArray, List.set_cons_zero, List.set_cons_succ]
    refine wpAnyH_ready (rs := [6]) (by kernel_rfl) (by simp) ?_
    refine AllReadyH.cons rfl (fun K hK => ?_) AllReadyH.nil
    try rw [if_pos (by rfl)]
    go_simp
    refine (gFree hG0 ⟨k, t, f, h, p, o, s, a, A, n, c'⟩).mono ?_
    rintro e1 u1 ⟨rfl, hG1, hg1⟩
    have hS2 := hS1.grow hg1 (vb_ne hS1.b hG0 (by decide)) (vb_ne hS1.r hG0 (by decide))
    have hne : w.heap.size + 1 ≠ g := vb_ne hA0 hG0 (by decide)
    have hA1 := hA0.grown hg1 hne
    refine hK.out _ _ hS2 (fun _ => ?_)
    clear hK K
    try simp only [Act.put, List.setIfInBounds_toArray, List.set_cons_zero, List.set_cons_succ]
    refine takeD (i := 7) (v := ((ansG ⟨k, t, f, h, p, o, s, a, A, n, c'⟩ sf bo 0).v)) (some 16) rfl rfl (by kernel_rfl) (by kernel_rfl) (by kernel_rfl) (fun _ _ _ h => h) (Or.inl ⟨by rfl, ?_⟩) hS2 ?_
    · rintro w' hq
      go_simp
    try simp only [Act.put, List.setIfInBounds_toArray, List.set_cons_zero, List.set_cons_succ]
    refine takeD (i := 8) (v := (.bool (isG ⟨k, t, f, h, p, o, s, a, A, n, c'⟩ sf bo 0))) (some 17) rfl rfl (by kernel_rfl) (by kernel_rfl) (by kernel_rfl) (fun _ _ _ h => h) (Or.inl ⟨by rfl, ?_⟩) hS2 ?_
    · rintro w' hq
      go_simp
    try simp only [Act.put, List.setIfInBounds_toArray, List.set_cons_zero, List.set_cons_succ]
    refine takeD (i := 9) (v := (.bool (begG ⟨k, t, f, h, p, o, s, a, A, n, c'⟩ sf bo 0))) (some 18) rfl rfl (by kernel_rfl) (by kernel_rfl) (by kernel_rfl) (fun _ _ _ h => h) (Or.inl ⟨by rfl, ?_⟩) hS2 ?_
    · rintro w' hq
      go_simp
    try simp only [Act.put, List.setIfInBounds_toArray, List.set_cons_zero, List.set_cons_succ]
    refine wpAnyH_ready (rs := [10]) (by kernel_rfl) (by simp) ?_
    refine AllReadyH.cons rfl (fun K hK => ?_) AllReadyH.nil
    try rw [if_pos (by rfl)]
    refine wp_store_vbH (vs := (ansG ⟨k, t, f, h, p, o, s, a, A, n, c'⟩ sf bo 0).cells) none rfl (.tmp 4) (.tmp 16) rfl rfl rfl hA1 rfl agg_seg rfl ?_
    intro u4 hv4 hg4 hz4
    have hS3 := hS2.grow hg4 (by omega) (by omega)
    refine hK.out _ _ hS3 (fun _ => ?_)
    clear hK K
    try simp only [Act.put, List.setIfInBounds_toArray, List.set_cons_zero, List.set_cons_succ]
    refine takeD (i := 11) (v := (.bool (isG ⟨k, t, f, h, p, o, s, a, A, n, c'⟩ sf bo 0))) (some 5) rfl rfl (by kernel_rfl) (by kernel_rfl) (by kernel_rfl) (fun _ _ _ h => h) (Or.inl ⟨by rfl, ?_⟩) hS3 ?_
    · rintro w' hq
      go_simp
    try simp only [Act.put, List.setIfInBounds_toArray, List.set_cons_zero, List.set_cons_succ]
    refine takeD (i := 12) (v := (.bool (begG ⟨k, t, f, h, p, o, s, a, A, n, c'⟩ sf bo 0))) (some 6) rfl rfl (by kernel_rfl) (by kernel_rfl) (by kernel_rfl) (fun _ _ _ h => h) (Or.inl ⟨by rfl, ?_⟩) hS3 ?_
    · rintro w' hq
      go_simp
    try simp only [Act.put, List.setIfInBounds_toArray, List.set_cons_zero, List.set_cons_succ]
    refine wpAnyH_done (by kernel_rfl) ?_ _
    go_wp2_with fail
    refine bodyPost_ret (v := .tuple #[(ansG ⟨k, t, f, h, p, o, s, a, A, n, c'⟩ sf bo 0).v, .bool (isG ⟨k, t, f, h, p, o, s, a, A, n, c'⟩ sf bo 0), .bool (begG ⟨k, t, f, h, p, o, s, a, A, n, c'⟩ sf bo 0)]) (results_three Try.results27 _ rfl hv4 agg_seg) rfl ?_
    exact ⟨rfl, Vb.grown hG1 hg4 hne.symm, grown_new ((grown_of_below HB2.out (some g)).trans hg1) hg4 (by omega)⟩
  · have HE := Kp.mk (show (if E = 0 then (1 : Int) else 2) = 2 from if_neg hE)
    clear hE
    go_enter Try.func27, Try.ntmps27
    go_upto_region 2 with (refine wpList_store_new (vs := [.func (.func 41) #[] #[], .func (.func 42) #[] #[], .func (.func 43) #[] #[]]) rfl (.tmp 7) (.tmp 8) rfl rfl rfl rfl (by simp) rfl agg_gtakes rfl ?_; intro w2 hv hb hz)
    have hG2 : Gb w2 g sf bo E := Vb.below H1.out.1 hb (Vb.lt H1.out.1)
    have hP2 : P2 w.heap.size k t f h p o s a A n c' 82 (w.heap.size + 2) [.func (.func 41) #[] #[], .func (.func 42) #[] #[], .func (.func 43) #[] #[]] w2 := ⟨Vb.below H1.out.2.1 hb (Vb.lt H1.out.2.1), by simpa using hv⟩
    have hA2 := Vb.below H1.out.2.2.1 hb (Vb.lt H1.out.2.2.1)
    have HB2 := Kp.mk ((H1.out.2.2.2.trans (hb.mono H1.out.2.2.2.size)).drew)
    have hd := (Below.refl w2.heap.size w2).drew
    have hG0 := hG2.below hd
    have hS0 := hP2.step hd
    have hA0 := hA2.below hd hA2.lt
    clear hv hb hz hG2 hP2 hA2 hd H1
    refine wp_region_held_drew (S := P2 w.heap.size k t f h p o s a A n c' 82 (w.heap.size + 2) [.func (.func 41) #[] #[], .func (.func 42) #[] #[], .func (.func 43) #[] #[]]) (by kernel_rfl) hS0 (fun _ => ?_)
    refine takeD (i := 0) (v := .pointer (some ⟨g, 0, none⟩)) (some 9) rfl rfl (by kernel_rfl) (by kernel_rfl) (by kernel_rfl) (fun _ _ _ h => h) (Or.inl ⟨by rfl, ?_⟩) hS0 ?_
    · rintro w' hq
      go_simp
    try simp only [Act.put, List.setIfInBounds_toArray, List.set_cons_zero, List.set_cons_succ]
    refine takeD (i := 4) (v := .pointer (some ⟨g, 0, none⟩)) (some 13) rfl rfl (by kernel_rfl) (by kernel_rfl) (by kernel_rfl) (fun _ _ _ h => h) (Or.inl ⟨by rfl, ?_⟩) hS0 ?_
    · rintro w' hq
      go_simp
    try simp only [Act.put, List.setIfInBounds_toArray, List.set_cons_zero, List.set_cons_succ]
    refine takeD (i := 5) (v := .agg #[.int .i64 k, .int .i64 t, .int .i64 f, .int .i64 h, .int .i64 p, .int .i64 o, .int .i64 s, .int .i64 a, .slice A n c']) (some 14) rfl rfl (by kernel_rfl) (by kernel_rfl) (by kernel_rfl) (fun _ _ _ h => h) (Or.inl ⟨by rfl, ?_⟩) hS0 ?_
    · rintro w' hq
      obtain ⟨d0, d1, d2, d3, d4, d5, d6, d7, d8⟩ := hq.nine
      go_simp
    try simp only [Act.put, List.setIfInBounds_toArray, List.set_cons_zero, List.set_cons_succ]
    refine wpAnyH_ready (rs := [1]) (by kernel_rfl) (by simp) ?_
    refine AllReadyH.cons rfl (fun K hK => ?_) AllReadyH.nil
    try rw [if_pos (by rfl)]
    go_simp
    refine (gState hG0 hs).mono ?_
    rintro e u1 ⟨rfl, hw1⟩
    replace hw1 := hw1.symm
    subst hw1
    have hb1 := Below.refl w2.drew.heap.size w2.drew
    rw [HE.out]
    have hS1 := P2.step hS0 hb1
    refine hK.out _ _ hS1 (fun _ => ?_)
    clear hK K
    try simp only [Act.put, List.setIfInBounds_toArray, List.set_cons_zero, List.set_cons_succ]
    refine takeD (i := 2) (v := .pointer (some ⟨w.heap.size + 2, 2, none⟩)) (some 11) rfl rfl (by kernel_rfl) (by kernel_rfl) (by kernel_rfl) (fun _ _ _ h => h) (Or.inl ⟨by rfl, ?_⟩) hS1 ?_
    · rintro w' hq
      go_simp
    try simp only [Act.put, List.setIfInBounds_toArray, List.set_cons_zero, List.set_cons_succ]
    refine takeD (i := 3) (v := .func (.func 43) #[] #[]) (some 12) rfl rfl (by kernel_rfl) (by kernel_rfl) (by kernel_rfl) (fun _ _ _ h => h) (Or.inl ⟨by rfl, ?_⟩) hS1 ?_
    · rintro w' hq
      have c0 := hq.r.cell 2 rfl
      go_simp
    try simp only [Act.put, List.setIfInBounds_toArray, List.set_cons_zero, List.set_cons_succ]
    refine wpAnyH_ready (rs := [6]) (by kernel_rfl) (by simp) ?_
    refine AllReadyH.cons rfl (fun K hK => ?_) AllReadyH.nil
    try rw [if_pos (by rfl)]
    go_simp
    refine (gOlder hG0 ⟨k, t, f, h, p, o, s, a, A, n, c'⟩).mono ?_
    rintro e1 u1 ⟨rfl, hG1, hg1⟩
    have hS2 := hS1.grow hg1 (vb_ne hS1.b hG0 (by decide)) (vb_ne hS1.r hG0 (by decide))
    have hne : w.heap.size + 1 ≠ g := vb_ne hA0 hG0 (by decide)
    have hA1 := hA0.grown hg1 hne
    refine hK.out _ _ hS2 (fun _ => ?_)
    clear hK K
    try simp only [Act.put, List.setIfInBounds_toArray, List.set_cons_zero, List.set_cons_succ]
    refine takeD (i := 7) (v := ((ansG ⟨k, t, f, h, p, o, s, a, A, n, c'⟩ sf bo E).v)) (some 16) rfl rfl (by kernel_rfl) (by kernel_rfl) (by kernel_rfl) (fun _ _ _ h => h) (Or.inl ⟨by rfl, ?_⟩) hS2 ?_
    · rintro w' hq
      go_simp
    try simp only [Act.put, List.setIfInBounds_toArray, List.set_cons_zero, List.set_cons_succ]
    refine takeD (i := 8) (v := (.bool (isG ⟨k, t, f, h, p, o, s, a, A, n, c'⟩ sf bo E))) (some 17) rfl rfl (by kernel_rfl) (by kernel_rfl) (by kernel_rfl) (fun _ _ _ h => h) (Or.inl ⟨by rfl, ?_⟩) hS2 ?_
    · rintro w' hq
      go_simp
    try simp only [Act.put, List.setIfInBounds_toArray, List.set_cons_zero, List.set_cons_succ]
    refine takeD (i := 9) (v := (.bool (begG ⟨k, t, f, h, p, o, s, a, A, n, c'⟩ sf bo E))) (some 18) rfl rfl (by kernel_rfl) (by kernel_rfl) (by kernel_rfl) (fun _ _ _ h => h) (Or.inl ⟨by rfl, ?_⟩) hS2 ?_
    · rintro w' hq
      go_simp
    try simp only [Act.put, List.setIfInBounds_toArray, List.set_cons_zero, List.set_cons_succ]
    refine wpAnyH_ready (rs := [10]) (by kernel_rfl) (by simp) ?_
    refine AllReadyH.cons rfl (fun K hK => ?_) AllReadyH.nil
    try rw [if_pos (by rfl)]
    refine wp_store_vbH (vs := (ansG ⟨k, t, f, h, p, o, s, a, A, n, c'⟩ sf bo E).cells) none rfl (.tmp 4) (.tmp 16) rfl rfl rfl hA1 rfl agg_seg rfl ?_
    intro u4 hv4 hg4 hz4
    have hS3 := hS2.grow hg4 (by omega) (by omega)
    refine hK.out _ _ hS3 (fun _ => ?_)
    clear hK K
    try simp only [Act.put, List.setIfInBounds_toArray, List.set_cons_zero, List.set_cons_succ]
    refine takeD (i := 11) (v := (.bool (isG ⟨k, t, f, h, p, o, s, a, A, n, c'⟩ sf bo E))) (some 5) rfl rfl (by kernel_rfl) (by kernel_rfl) (by kernel_rfl) (fun _ _ _ h => h) (Or.inl ⟨by rfl, ?_⟩) hS3 ?_
    · rintro w' hq
      go_simp
    try simp only [Act.put, List.setIfInBounds_toArray, List.set_cons_zero, List.set_cons_succ]
    refine takeD (i := 12) (v := (.bool (begG ⟨k, t, f, h, p, o, s, a, A, n, c'⟩ sf bo E))) (some 6) rfl rfl (by kernel_rfl) (by kernel_rfl) (by kernel_rfl) (fun _ _ _ h => h) (Or.inl ⟨by rfl, ?_⟩) hS3 ?_
    · rintro w' hq
      go_simp
    try simp only [Act.put, List.setIfInBounds_toArray, List.set_cons_zero, List.set_cons_succ]
    refine wpAnyH_done (by kernel_rfl) ?_ _
    go_wp2_with fail
    refine bodyPost_ret (v := .tuple #[(ansG ⟨k, t, f, h, p, o, s, a, A, n, c'⟩ sf bo E).v, .bool (isG ⟨k, t, f, h, p, o, s, a, A, n, c'⟩ sf bo E), .bool (begG ⟨k, t, f, h, p, o, s, a, A, n, c'⟩ sf bo E)]) (results_three Try.results27 _ rfl hv4 agg_seg) rfl ?_
    exact ⟨rfl, Vb.grown hG1 hg4 hne.symm, grown_new ((grown_of_below HB2.out (some g)).trans hg1) hg4 (by omega)⟩
end
end Go.Proofs.Ytomjnpjabfnlbaa.Oct
