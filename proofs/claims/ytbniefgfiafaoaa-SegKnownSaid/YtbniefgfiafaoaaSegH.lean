/- The walks of SegBytes and SegSame. -/
import Derived.Test.YtbniefgfiafaoaaSegB
import Derived.Test.YtbniefgfiafaoaaSegS
import Derived.Test.YtbniefgfiafaoaaSegD
namespace Go.Proofs.Ytbniefgfiafaoaa.Oct
open Go.RowKit
set_option linter.unusedVariables false
set_option linter.unusedSimpArgs false

/-- A segment lies in a block, and nothing else has turned. -/
def One (w0 : World) (g1 : Nat) (v1 : List Int) (m1 : Value) (w' : World) : Prop := Sg w' g1 v1 m1 ∧ Below w0.heap.size w0 w'
theorem One.step {w0 : World} {g1 : Nat} {v1 : List Int} {m1 : Value} {wx w1 : World} (hs : One w0 g1 v1 m1 wx) (hb : Below wx.heap.size wx w1) : One w0 g1 v1 m1 w1 :=
  ⟨hs.1.below hb hs.1.lt, hs.2.trans (hb.mono hs.2.size)⟩
section
variable {k t f h p o s a k' t' f' h' p' o' s' a' : Int} {A A' : Option Addr} {n c n' c' : Nat} {l l' : List Int} {w : World}
set_option maxRecDepth 100000 in
set_option maxHeartbeats 8000000 in
theorem segBytes_any (hr : Rd .u8 w w.heap.size A n c l) (hl : By l) (hn : n ≤ 140737488351232) :
    Calls Try.prog 3 #[.agg #[.int .i64 k, .int .i64 t, .int .i64 f, .int .i64 h, .int .i64 p, .int .i64 o, .int .i64 s, .int .i64 a, .slice A n c]] w fun e w' => e = .returned (.bool true) ∧ Below w.heap.size w w' := by
  have hby := Kp.mk (bytesS_by k t f h p o s a hl)
  go_enter Try.func3, Try.ntmps3
  go_wp2_with fail
  have hb0 := below_alloc w (.cells #[.int .i64 k, .int .i64 t, .int .i64 f, .int .i64 h, .int .i64 p, .int .i64 o, .int .i64 s, .int .i64 a, .slice A n c] 24)
  have hx0 : Sg (w.alloc (.cells #[.int .i64 k, .int .i64 t, .int .i64 f, .int .i64 h, .int .i64 p, .int .i64 o, .int .i64 s, .int .i64 a, .slice A n c] 24)) w.heap.size [k, t, f, h, p, o, s, a] (.slice A n c) := Sg.new w [k, t, f, h, p, o, s, a] (.slice A n c)
  have r0 := (hr.below hb0).more (Nat.le_succ w.heap.size)
  have hz0 : (w.alloc (.cells #[.int .i64 k, .int .i64 t, .int .i64 f, .int .i64 h, .int .i64 p, .int .i64 o, .int .i64 s, .int .i64 a, .slice A n c] 24)).heap.size = w.heap.size + 1 := by simp
  generalize (w.alloc (.cells #[.int .i64 k, .int .i64 t, .int .i64 f, .int .i64 h, .int .i64 p, .int .i64 o, .int .i64 s, .int .i64 a, .slice A n c] 24)) = w0 at *
  refine (copyBytes_any r0 (by omega)).mono ?_
  rintro e w1 ⟨A1, n1, c1, rfl, ho1, hb1⟩
  have hx1 := hx0.below hb1 (by omega)
  have r1 := r0.below' hb1 (by omega)
  have q1 := ho1.rd
  have hz1 := hb1.size
  have T1 := hb0.trans (hb1.mono (by omega))
  clear hb0 hb1 hx0 r0 ho1
  obtain ⟨d0, d1, d2, d3, d4, d5, d6, d7, d8⟩ := hx1.nine
  go_wp2_with fail
  refine (bytesS_any r1 (by omega) hl).mono ?_
  generalize hX : bytesS k t f h p o s a l = X at *
  obtain ⟨lx, xe⟩ := X
  intro e w2 hp
  obtain ⟨A2, n2, c2, rfl, q2, hb2⟩ := hp.out
  clear hp
  have hx2 := hx1.below hb2 (by omega)
  have r2 := r1.below' hb2 (by omega)
  replace q1 := q1.below hb2
  have hz2 := hb2.size
  have T2 := T1.trans (hb2.mono (by omega))
  clear d0 d1 d2 d3 d4 d5 d6 d7 d8 hx1 r1 hb2 T1
  obtain ⟨d0, d1, d2, d3, d4, d5, d6, d7, d8⟩ := hx2.nine
  go_wp2_with fail
  have hY : Calls Try.prog 12 #[.agg #[.int .i64 k, .int .i64 t, .int .i64 f, .int .i64 h, .int .i64 p, .int .i64 o, .int .i64 s, .int .i64 a, .slice A n c]] w2 (PairOf lx xe w2) := by
    have := refBytesS_any (k := k) (t := t) (f := f) (h := h) (p := p) (o := o) (s := s) (a := a) r2 (by omega) hl
    rw [hX] at this
    exact this
  refine hY.mono ?_
  intro e w3 hp
  obtain ⟨A3, n3, c3, rfl, q3, hb3⟩ := hp.out
  clear hp hY
  have hx3 := hx2.below hb3 (by omega)
  have r3 := r2.below' hb3 (by omega)
  replace q1 := q1.below' hb3 (by omega)
  replace q2 := q2.below hb3
  have hz3 := hb3.size
  have T3 := T2.trans (hb3.mono (by omega))
  clear d0 d1 d2 d3 d4 d5 d6 d7 d8 hx2 r2 hb3 T2
  have R := Kp.mk (And.intro r3 (And.intro q1 (And.intro q2 q3)))
  have hZ := Kp.mk (show w.heap.size + 1 ≤ w3.heap.size ∧ w1.heap.size ≤ w3.heap.size ∧ w2.heap.size ≤ w3.heap.size by omega)
  clear r3 q1 q2 q3
  go_upto_region 4 with fail
  have hS : One w3 w.heap.size [k, t, f, h, p, o, s, a] (.slice A n c) w3.drew := ⟨hx3, (Below.refl w3.heap.size w3).drew⟩
  clear hx3
  refine wp_region_held_drew (S := One w3 w.heap.size [k, t, f, h, p, o, s, a] (.slice A n c)) (by kernel_rfl) hS (fun _ => ?_)
  refine takeD (i := 0) (v := .agg #[.int .i64 k, .int .i64 t, .int .i64 f, .int .i64 h, .int .i64 p, .int .i64 o, .int .i64 s, .int .i64 a, .slice A n c]) (some 21) rfl rfl (by kernel_rfl) (by kernel_rfl) (by kernel_rfl) (fun _ _ _ h => h) (Or.inl ⟨by rfl, ?_⟩) hS ?_
  · rintro w' ⟨s1, s3⟩
    obtain ⟨d0, d1, d2, d3, d4, d5, d6, d7, d8⟩ := s1.nine
    go_simp
  try simp only [Act.put, List.setIfInBounds_toArray, List.set_cons_zero, List.set_cons_succ]
  refine takeD (i := 2) (v := .agg #[.int .i64 k, .int .i64 t, .int .i64 f, .int .i64 h, .int .i64 p, .int .i64 o, .int .i64 s, .int .i64 a, .slice A n c]) (some 23) rfl rfl (by kernel_rfl) (by kernel_rfl) (by kernel_rfl) (fun _ _ _ h => h) (Or.inl ⟨by rfl, ?_⟩) hS ?_
  · rintro w' ⟨s1, s3⟩
    obtain ⟨d0, d1, d2, d3, d4, d5, d6, d7, d8⟩ := s1.nine
    go_simp
  try simp only [Act.put, List.setIfInBounds_toArray, List.set_cons_zero, List.set_cons_succ]
  refine wpAnyH_ready (rs := [1]) (by kernel_rfl) (by simp) ?_
  refine AllReadyH.cons rfl (fun K hK => ?_) AllReadyH.nil
  go_simp
  go_at_call 13
  refine (checkS_any k t f h p o s a A n c _).mono ?_
  rintro e w4 ⟨rfl, hb4⟩
  refine hK.out _ _ (hS.step hb4) (fun hS1 => ?_)
  clear hK K
  try simp only [Act.put, List.setIfInBounds_toArray, List.set_cons_zero, List.set_cons_succ]
  refine wpAnyH_ready (rs := [3]) (by kernel_rfl) (by simp) ?_
  refine AllReadyH.cons rfl (fun K hK => ?_) AllReadyH.nil
  go_simp
  go_at_call 14
  refine (refCheckS_any k t f h p o s a A n c _).mono ?_
  rintro e w5 ⟨rfl, hb5⟩
  refine hK.out _ _ (hS1.step hb5) (fun hS2 => ?_)
  clear hK K
  try simp only [Act.put, List.setIfInBounds_toArray, List.set_cons_zero, List.set_cons_succ]
  clear hS hS1 hb4 hb5
  refine takeD (i := 4) (v := .bool true) (some 25) rfl rfl (by kernel_rfl) (by kernel_rfl) (by kernel_rfl) (fun _ _ _ h => h) (Or.inl ⟨by rfl, ?_⟩) hS2 ?_
  · rintro w' _
    go_simp
  try simp only [Act.put, List.setIfInBounds_toArray, List.set_cons_zero, List.set_cons_succ]
  refine takeD (i := 5) (v := .bool true) (some 26) rfl rfl (by kernel_rfl) (by kernel_rfl) (by kernel_rfl) (fun _ _ _ h => h) (Or.inl ⟨by rfl, ?_⟩) hS2 ?_
  · rintro w' _
    go_simp
  try simp only [Act.put, List.setIfInBounds_toArray, List.set_cons_zero, List.set_cons_succ]
  refine takeD (i := 6) (v := .slice A2 n2 c2) (some 27) rfl rfl (by kernel_rfl) (by kernel_rfl) (by kernel_rfl) (fun _ _ _ h => h) (Or.inl ⟨by rfl, ?_⟩) hS2 ?_
  · rintro w' _
    go_simp
  try simp only [Act.put, List.setIfInBounds_toArray, List.set_cons_zero, List.set_cons_succ]
  refine takeD (i := 7) (v := .slice A3 n3 c3) (some 28) rfl rfl (by kernel_rfl) (by kernel_rfl) (by kernel_rfl) (fun _ _ _ h => h) (Or.inl ⟨by rfl, ?_⟩) hS2 ?_
  · rintro w' _
    go_simp
  try simp only [Act.put, List.setIfInBounds_toArray, List.set_cons_zero, List.set_cons_succ]
  refine wpAnyH_ready (rs := [8]) (by kernel_rfl) (by simp) ?_
  refine AllReadyH.cons rfl (fun K hK => ?_) AllReadyH.nil
  go_simp
  go_at_call 15
  refine (eqBytes_any (R.out.2.2.1.below' hS2.2 hZ.out.2.2) (R.out.2.2.2.below' hS2.2 (Nat.le_refl _)) hby.out hby.out).mono ?_
  rw [show decide (lx = lx) = true from by simp]
  rintro e w' ⟨rfl, rfl⟩
  refine hK.out _ _ (hS2) (fun _ => ?_)
  clear hK K
  try simp only [Act.put, List.setIfInBounds_toArray, List.set_cons_zero, List.set_cons_succ]
  refine takeD (i := 9) (v := .bool true) (some 30) rfl rfl (by kernel_rfl) (by kernel_rfl) (by kernel_rfl) (fun _ _ _ h => h) (Or.inl ⟨by rfl, ?_⟩) hS2 ?_
  · rintro w' _
    go_simp
  try simp only [Act.put, List.setIfInBounds_toArray, List.set_cons_zero, List.set_cons_succ]
  refine takeD (i := 10) (v := .bool true) (some 31) rfl rfl (by kernel_rfl) (by kernel_rfl) (by kernel_rfl) (fun _ _ _ h => h) (Or.inl ⟨by rfl, ?_⟩) hS2 ?_
  · rintro w' _
    go_simp
  try simp only [Act.put, List.setIfInBounds_toArray, List.set_cons_zero, List.set_cons_succ]
  refine takeD (i := 11) (v := .int .i64 xe) (some 32) rfl rfl (by kernel_rfl) (by kernel_rfl) (by kernel_rfl) (fun _ _ _ h => h) (Or.inl ⟨by rfl, ?_⟩) hS2 ?_
  · rintro w' _
    go_simp
  try simp only [Act.put, List.setIfInBounds_toArray, List.set_cons_zero, List.set_cons_succ]
  refine takeD (i := 12) (v := .int .i64 xe) (some 33) rfl rfl (by kernel_rfl) (by kernel_rfl) (by kernel_rfl) (fun _ _ _ h => h) (Or.inl ⟨by rfl, ?_⟩) hS2 ?_
  · rintro w' _
    go_simp
  try simp only [Act.put, List.setIfInBounds_toArray, List.set_cons_zero, List.set_cons_succ]
  refine takeD (i := 13) (v := .bool true) (some 34) rfl rfl (by kernel_rfl) (by kernel_rfl) (by kernel_rfl) (fun _ _ _ h => h) (Or.inl ⟨by rfl, ?_⟩) hS2 ?_
  · rintro w' _
    go_simp
  try simp only [Act.put, List.setIfInBounds_toArray, List.set_cons_zero, List.set_cons_succ]
  refine takeD (i := 14) (v := .bool true) (some 35) rfl rfl (by kernel_rfl) (by kernel_rfl) (by kernel_rfl) (fun _ _ _ h => h) (Or.inl ⟨by rfl, ?_⟩) hS2 ?_
  · rintro w' _
    go_simp
  try simp only [Act.put, List.setIfInBounds_toArray, List.set_cons_zero, List.set_cons_succ]
  refine takeD (i := 15) (v := .bool true) (some 36) rfl rfl (by kernel_rfl) (by kernel_rfl) (by kernel_rfl) (fun _ _ _ h => h) (Or.inl ⟨by rfl, ?_⟩) hS2 ?_
  · rintro w' _
    go_simp
  try simp only [Act.put, List.setIfInBounds_toArray, List.set_cons_zero, List.set_cons_succ]
  refine takeD (i := 16) (v := .pointer (some ⟨w.heap.size, 8, none⟩)) (some 37) rfl rfl (by kernel_rfl) (by kernel_rfl) (by kernel_rfl) (fun _ _ _ h => h) (Or.inl ⟨by rfl, ?_⟩) hS2 ?_
  · rintro w' _
    go_simp
  try simp only [Act.put, List.setIfInBounds_toArray, List.set_cons_zero, List.set_cons_succ]
  refine takeD (i := 17) (v := .slice A n c) (some 38) rfl rfl (by kernel_rfl) (by kernel_rfl) (by kernel_rfl) (fun _ _ _ h => h) (Or.inl ⟨by rfl, ?_⟩) hS2 ?_
  · rintro w' ⟨s1, s3⟩
    obtain ⟨d0, d1, d2, d3, d4, d5, d6, d7, d8⟩ := s1.nine
    go_simp
  try simp only [Act.put, List.setIfInBounds_toArray, List.set_cons_zero, List.set_cons_succ]
  refine takeD (i := 18) (v := .slice A1 n1 c1) (some 39) rfl rfl (by kernel_rfl) (by kernel_rfl) (by kernel_rfl) (fun _ _ _ h => h) (Or.inl ⟨by rfl, ?_⟩) hS2 ?_
  · rintro w' _
    go_simp
  try simp only [Act.put, List.setIfInBounds_toArray, List.set_cons_zero, List.set_cons_succ]
  refine wpAnyH_ready (rs := [19]) (by kernel_rfl) (by simp) ?_
  refine AllReadyH.cons rfl (fun K hK => ?_) AllReadyH.nil
  go_simp
  go_at_call 15
  refine (eqBytes_any (R.out.1.below' hS2.2 hZ.out.1) (R.out.2.1.below' hS2.2 hZ.out.2.1) hl hl).mono ?_
  rw [show decide (l = l) = true from by simp]
  rintro e w' ⟨rfl, rfl⟩
  refine hK.out _ _ (hS2) (fun _ => ?_)
  clear hK K
  try simp only [Act.put, List.setIfInBounds_toArray, List.set_cons_zero, List.set_cons_succ]
  refine takeD (i := 20) (v := .bool true) (some 41) rfl rfl (by kernel_rfl) (by kernel_rfl) (by kernel_rfl) (fun _ _ _ h => h) (Or.inl ⟨by rfl, ?_⟩) hS2 ?_
  · rintro w' _
    go_simp
  try simp only [Act.put, List.setIfInBounds_toArray, List.set_cons_zero, List.set_cons_succ]
  refine takeD (i := 21) (v := .bool true) (some 42) rfl rfl (by kernel_rfl) (by kernel_rfl) (by kernel_rfl) (fun _ _ _ h => h) (Or.inl ⟨by rfl, ?_⟩) hS2 ?_
  · rintro w' _
    go_simp
  try simp only [Act.put, List.setIfInBounds_toArray, List.set_cons_zero, List.set_cons_succ]
  refine wpAnyH_ready (rs := [22]) (by kernel_rfl) (by simp) ?_
  refine AllReadyH.cons rfl (fun K hK => ?_) AllReadyH.nil
  go_simp
  go_at_call 16
  refine (worksS_any _).mono ?_
  rintro e w6 ⟨rfl, hb6⟩
  refine hK.out _ _ (hS2.step hb6) (fun hS3 => ?_)
  clear hK K
  try simp only [Act.put, List.setIfInBounds_toArray, List.set_cons_zero, List.set_cons_succ]
  refine takeD (i := 23) (v := .bool true) (some 44) rfl rfl (by kernel_rfl) (by kernel_rfl) (by kernel_rfl) (fun _ _ _ h => h) (Or.inl ⟨by rfl, ?_⟩) hS3 ?_
  · rintro w' _
    go_simp
  try simp only [Act.put, List.setIfInBounds_toArray, List.set_cons_zero, List.set_cons_succ]
  refine takeD (i := 24) (v := .bool true) (some 2) rfl rfl (by kernel_rfl) (by kernel_rfl) (by kernel_rfl) (fun _ _ _ h => h) (Or.inl ⟨by rfl, ?_⟩) hS3 ?_
  · rintro w' _
    go_simp
  try simp only [Act.put, List.setIfInBounds_toArray, List.set_cons_zero, List.set_cons_succ]
  refine wpAnyH_done (by kernel_rfl) ?_ _
  go_wp2_with fail
  go_ret
  exact ⟨rfl, T3.trans (hS3.2.mono (by have := T3.size; omega))⟩

theorem SegBytes_walk (k t f h p o s a : Int) (A : Option Addr) (n c : Nat) (z : List Int) (w : World) (w0 : Frame.IsRow .u8 w A n c z) (re : c * 1 ≤ 140737488351232) :
    Calls Try.prog 3 #[.agg #[.int .i64 k, .int .i64 t, .int .i64 f, .int .i64 h, .int .i64 p, .int .i64 o, .int .i64 s, .int .i64 a, .slice A n c]] w fun e w' => e = .returned (.bool true) ∧ Below w.heap.size w w' :=
  segBytes_any (Rd.of_row w0) (By.of_row w0) (by have := (Rd.of_row w0).le; omega)

set_option maxRecDepth 100000 in
set_option maxHeartbeats 8000000 in
theorem segSame_any (hr : Rd .u8 w w.heap.size A n c l) (hr' : Rd .u8 w w.heap.size A' n' c' l') (hl : By l) (hl' : By l') :
    Calls Try.prog 5 #[.agg #[.int .i64 k, .int .i64 t, .int .i64 f, .int .i64 h, .int .i64 p, .int .i64 o, .int .i64 s, .int .i64 a, .slice A n c], .agg #[.int .i64 k', .int .i64 t', .int .i64 f', .int .i64 h', .int .i64 p', .int .i64 o', .int .i64 s', .int .i64 a', .slice A' n' c']] w fun e w' => e = .returned (.bool true) ∧ Below w.heap.size w w' := by
  have hb := below_two w (.cells #[.int .i64 k, .int .i64 t, .int .i64 f, .int .i64 h, .int .i64 p, .int .i64 o, .int .i64 s, .int .i64 a, .slice A n c] 24) (.cells #[.int .i64 k', .int .i64 t', .int .i64 f', .int .i64 h', .int .i64 p', .int .i64 o', .int .i64 s', .int .i64 a', .slice A' n' c'] 24)
  have r1 := hr.below hb
  have r2 := hr'.below hb
  have hx1 : Sg ((w.alloc (.cells #[.int .i64 k, .int .i64 t, .int .i64 f, .int .i64 h, .int .i64 p, .int .i64 o, .int .i64 s, .int .i64 a, .slice A n c] 24)).alloc (.cells #[.int .i64 k', .int .i64 t', .int .i64 f', .int .i64 h', .int .i64 p', .int .i64 o', .int .i64 s', .int .i64 a', .slice A' n' c'] 24)) w.heap.size [k, t, f, h, p, o, s, a] (.slice A n c) := (Sg.new w [k, t, f, h, p, o, s, a] (.slice A n c)).alloc _
  have hx2 : Sg ((w.alloc (.cells #[.int .i64 k, .int .i64 t, .int .i64 f, .int .i64 h, .int .i64 p, .int .i64 o, .int .i64 s, .int .i64 a, .slice A n c] 24)).alloc (.cells #[.int .i64 k', .int .i64 t', .int .i64 f', .int .i64 h', .int .i64 p', .int .i64 o', .int .i64 s', .int .i64 a', .slice A' n' c'] 24)) (w.alloc (.cells #[.int .i64 k, .int .i64 t, .int .i64 f, .int .i64 h, .int .i64 p, .int .i64 o, .int .i64 s, .int .i64 a, .slice A n c] 24)).heap.size [k', t', f', h', p', o', s', a'] (.slice A' n' c') := Sg.new (w.alloc (.cells #[.int .i64 k, .int .i64 t, .int .i64 f, .int .i64 h, .int .i64 p, .int .i64 o, .int .i64 s, .int .i64 a, .slice A n c] 24)) [k', t', f', h', p', o', s', a'] (.slice A' n' c')
  rw [alloc_size] at hx2
  have hz0 : ((w.alloc (.cells #[.int .i64 k, .int .i64 t, .int .i64 f, .int .i64 h, .int .i64 p, .int .i64 o, .int .i64 s, .int .i64 a, .slice A n c] 24)).alloc (.cells #[.int .i64 k', .int .i64 t', .int .i64 f', .int .i64 h', .int .i64 p', .int .i64 o', .int .i64 s', .int .i64 a', .slice A' n' c'] 24)).heap.size = w.heap.size + 2 := by simp
  have hself := Kp.mk (sameS_self k t f h p o s a l)
  clear hr hr'
  go_enter Try.func5, Try.ntmps5
  go_upto_region 1 with fail
  generalize ((w.alloc (.cells #[.int .i64 k, .int .i64 t, .int .i64 f, .int .i64 h, .int .i64 p, .int .i64 o, .int .i64 s, .int .i64 a, .slice A n c] 24)).alloc (.cells #[.int .i64 k', .int .i64 t', .int .i64 f', .int .i64 h', .int .i64 p', .int .i64 o', .int .i64 s', .int .i64 a', .slice A' n' c'] 24)) = w0 at *
  have hw0 : w.heap.size ≤ w0.heap.size := by omega
  have R := Kp.mk (And.intro r1 r2)
  have hS : Two w0 w.heap.size (w.heap.size + 1) [k, t, f, h, p, o, s, a] (.slice A n c) [k', t', f', h', p', o', s', a'] (.slice A' n' c') w0.drew := ⟨⟨hx1, hx2⟩, (Below.refl w0.heap.size w0).drew⟩
  clear hx1 hx2 r1 r2
  refine wp_region_held_drew (S := Two w0 w.heap.size (w.heap.size + 1) [k, t, f, h, p, o, s, a] (.slice A n c) [k', t', f', h', p', o', s', a'] (.slice A' n' c')) (by kernel_rfl) hS (fun _ => ?_)
  refine takeD (i := 0) (v := .agg #[.int .i64 k, .int .i64 t, .int .i64 f, .int .i64 h, .int .i64 p, .int .i64 o, .int .i64 s, .int .i64 a, .slice A n c]) (some 5) rfl rfl (by kernel_rfl) (by kernel_rfl) (by kernel_rfl) (fun _ _ _ h => h) (Or.inl ⟨by rfl, ?_⟩) hS ?_
  · rintro w' ⟨⟨s1, s2⟩, s3⟩
    obtain ⟨d0, d1, d2, d3, d4, d5, d6, d7, d8⟩ := s1.nine
    go_simp
  try simp only [Act.put, List.setIfInBounds_toArray, List.set_cons_zero, List.set_cons_succ]
  refine takeD (i := 1) (v := .agg #[.int .i64 k', .int .i64 t', .int .i64 f', .int .i64 h', .int .i64 p', .int .i64 o', .int .i64 s', .int .i64 a', .slice A' n' c']) (some 6) rfl rfl (by kernel_rfl) (by kernel_rfl) (by kernel_rfl) (fun _ _ _ h => h) (Or.inl ⟨by rfl, ?_⟩) hS ?_
  · rintro w' ⟨⟨s1, s2⟩, s3⟩
    obtain ⟨d0, d1, d2, d3, d4, d5, d6, d7, d8⟩ := s2.nine
    go_simp
  try simp only [Act.put, List.setIfInBounds_toArray, List.set_cons_zero, List.set_cons_succ]
  refine takeD (i := 3) (v := .agg #[.int .i64 k, .int .i64 t, .int .i64 f, .int .i64 h, .int .i64 p, .int .i64 o, .int .i64 s, .int .i64 a, .slice A n c]) (some 8) rfl rfl (by kernel_rfl) (by kernel_rfl) (by kernel_rfl) (fun _ _ _ h => h) (Or.inl ⟨by rfl, ?_⟩) hS ?_
  · rintro w' ⟨⟨s1, s2⟩, s3⟩
    obtain ⟨d0, d1, d2, d3, d4, d5, d6, d7, d8⟩ := s1.nine
    go_simp
  try simp only [Act.put, List.setIfInBounds_toArray, List.set_cons_zero, List.set_cons_succ]
  refine takeD (i := 4) (v := .agg #[.int .i64 k', .int .i64 t', .int .i64 f', .int .i64 h', .int .i64 p', .int .i64 o', .int .i64 s', .int .i64 a', .slice A' n' c']) (some 9) rfl rfl (by kernel_rfl) (by kernel_rfl) (by kernel_rfl) (fun _ _ _ h => h) (Or.inl ⟨by rfl, ?_⟩) hS ?_
  · rintro w' ⟨⟨s1, s2⟩, s3⟩
    obtain ⟨d0, d1, d2, d3, d4, d5, d6, d7, d8⟩ := s2.nine
    go_simp
  try simp only [Act.put, List.setIfInBounds_toArray, List.set_cons_zero, List.set_cons_succ]
  refine wpAnyH_ready (rs := [2]) (by kernel_rfl) (by simp) ?_
  refine AllReadyH.cons rfl (fun K hK => ?_) AllReadyH.nil
  go_simp
  go_at_call 20
  refine (sameS_any (R.out.1.below' hS.2 hw0) (R.out.2.below' hS.2 hw0) (by have := hS.2.size; omega) (by have := hS.2.size; omega) hl hl').mono ?_
  rintro e w4 ⟨rfl, hb4⟩
  refine hK.out _ _ (hS.step hb4) (fun hS1 => ?_)
  clear hK K
  try simp only [Act.put, List.setIfInBounds_toArray, List.set_cons_zero, List.set_cons_succ]
  refine wpAnyH_ready (rs := [5]) (by kernel_rfl) (by simp) ?_
  refine AllReadyH.cons rfl (fun K hK => ?_) AllReadyH.nil
  go_simp
  go_at_call 19
  refine (refSame_any (R.out.1.below' hS1.2 hw0) (R.out.2.below' hS1.2 hw0) (by have := hS1.2.size; omega) (by have := hS1.2.size; omega) hl hl').mono ?_
  rintro e w5 ⟨rfl, hb5⟩
  refine hK.out _ _ (hS1.step hb5) (fun hS2 => ?_)
  clear hK K
  try simp only [Act.put, List.setIfInBounds_toArray, List.set_cons_zero, List.set_cons_succ]
  clear hS hS1 hb4 hb5
  refine takeD (i := 6) (v := .bool true) (some 11) rfl rfl (by kernel_rfl) (by kernel_rfl) (by kernel_rfl) (fun _ _ _ h => h) (Or.inl ⟨by rfl, ?_⟩) hS2 ?_
  · rintro w' _
    go_simp
  try simp only [Act.put, List.setIfInBounds_toArray, List.set_cons_zero, List.set_cons_succ]
  refine takeD (i := 7) (v := .bool true) (some 12) rfl rfl (by kernel_rfl) (by kernel_rfl) (by kernel_rfl) (fun _ _ _ h => h) (Or.inl ⟨by rfl, ?_⟩) hS2 ?_
  · rintro w' _
    go_simp
  try simp only [Act.put, List.setIfInBounds_toArray, List.set_cons_zero, List.set_cons_succ]
  refine takeD (i := 8) (v := .agg #[.int .i64 k, .int .i64 t, .int .i64 f, .int .i64 h, .int .i64 p, .int .i64 o, .int .i64 s, .int .i64 a, .slice A n c]) (some 13) rfl rfl (by kernel_rfl) (by kernel_rfl) (by kernel_rfl) (fun _ _ _ h => h) (Or.inl ⟨by rfl, ?_⟩) hS2 ?_
  · rintro w' ⟨⟨s1, s2⟩, s3⟩
    obtain ⟨d0, d1, d2, d3, d4, d5, d6, d7, d8⟩ := s1.nine
    go_simp
  try simp only [Act.put, List.setIfInBounds_toArray, List.set_cons_zero, List.set_cons_succ]
  refine takeD (i := 9) (v := .agg #[.int .i64 k, .int .i64 t, .int .i64 f, .int .i64 h, .int .i64 p, .int .i64 o, .int .i64 s, .int .i64 a, .slice A n c]) (some 14) rfl rfl (by kernel_rfl) (by kernel_rfl) (by kernel_rfl) (fun _ _ _ h => h) (Or.inl ⟨by rfl, ?_⟩) hS2 ?_
  · rintro w' ⟨⟨s1, s2⟩, s3⟩
    obtain ⟨d0, d1, d2, d3, d4, d5, d6, d7, d8⟩ := s1.nine
    go_simp
  try simp only [Act.put, List.setIfInBounds_toArray, List.set_cons_zero, List.set_cons_succ]
  refine wpAnyH_ready (rs := [10]) (by kernel_rfl) (by simp) ?_
  refine AllReadyH.cons rfl (fun K hK => ?_) AllReadyH.nil
  go_simp
  go_at_call 20
  refine (sameS_any (R.out.1.below' hS2.2 hw0) (R.out.1.below' hS2.2 hw0) (by have := hS2.2.size; omega) (by have := hS2.2.size; omega) hl hl).mono ?_
  rw [hself.out]
  rintro e w6 ⟨rfl, hb6⟩
  refine hK.out _ _ (hS2.step hb6) (fun hS3 => ?_)
  clear hK K
  try simp only [Act.put, List.setIfInBounds_toArray, List.set_cons_zero, List.set_cons_succ]
  refine takeD (i := 11) (v := .bool true) (some 16) rfl rfl (by kernel_rfl) (by kernel_rfl) (by kernel_rfl) (fun _ _ _ h => h) (Or.inl ⟨by rfl, ?_⟩) hS3 ?_
  · rintro w' _
    go_simp
  try simp only [Act.put, List.setIfInBounds_toArray, List.set_cons_zero, List.set_cons_succ]
  refine takeD (i := 12) (v := .bool true) (some 17) rfl rfl (by kernel_rfl) (by kernel_rfl) (by kernel_rfl) (fun _ _ _ h => h) (Or.inl ⟨by rfl, ?_⟩) hS3 ?_
  · rintro w' _
    go_simp
  try simp only [Act.put, List.setIfInBounds_toArray, List.set_cons_zero, List.set_cons_succ]
  refine wpAnyH_ready (rs := [13]) (by kernel_rfl) (by simp) ?_
  refine AllReadyH.cons rfl (fun K hK => ?_) AllReadyH.nil
  go_simp
  go_at_call 16
  refine (worksS_any _).mono ?_
  rintro e w7 ⟨rfl, hb7⟩
  refine hK.out _ _ (hS3.step hb7) (fun hS4 => ?_)
  clear hK K
  try simp only [Act.put, List.setIfInBounds_toArray, List.set_cons_zero, List.set_cons_succ]
  refine takeD (i := 14) (v := .bool true) (some 19) rfl rfl (by kernel_rfl) (by kernel_rfl) (by kernel_rfl) (fun _ _ _ h => h) (Or.inl ⟨by rfl, ?_⟩) hS4 ?_
  · rintro w' _
    go_simp
  try simp only [Act.put, List.setIfInBounds_toArray, List.set_cons_zero, List.set_cons_succ]
  refine takeD (i := 15) (v := .bool true) (some 4) rfl rfl (by kernel_rfl) (by kernel_rfl) (by kernel_rfl) (fun _ _ _ h => h) (Or.inl ⟨by rfl, ?_⟩) hS4 ?_
  · rintro w' _
    go_simp
  try simp only [Act.put, List.setIfInBounds_toArray, List.set_cons_zero, List.set_cons_succ]
  refine wpAnyH_done (by kernel_rfl) ?_ _
  go_wp2_with fail
  go_ret
  exact ⟨rfl, hb.trans (hS4.2.mono hw0)⟩
end

theorem SegSame_walk (k t f h p o s a : Int) (A : Option Addr) (n c : Nat) (z : List Int) (k' t' f' h' p' o' s' a' : Int) (A' : Option Addr) (n' c' : Nat) (z' : List Int) (w : World) (w0 : Frame.IsRow .u8 w A n c z) (re : c * 1 ≤ 140737488351232) (w0' : Frame.IsRow .u8 w A' n' c' z') (re' : c' * 1 ≤ 140737488351232) :
    Calls Try.prog 5 #[.agg #[.int .i64 k, .int .i64 t, .int .i64 f, .int .i64 h, .int .i64 p, .int .i64 o, .int .i64 s, .int .i64 a, .slice A n c], .agg #[.int .i64 k', .int .i64 t', .int .i64 f', .int .i64 h', .int .i64 p', .int .i64 o', .int .i64 s', .int .i64 a', .slice A' n' c']] w fun e w' => e = .returned (.bool true) ∧ Below w.heap.size w w' :=
  segSame_any (Rd.of_row w0) (Rd.of_row w0') (By.of_row w0) (By.of_row w0')
end Go.Proofs.Ytbniefgfiafaoaa.Oct
