/- Contracts of layer 14 (inbox): an inbox of bytes. -/
import Derived.Test.YtdhidgcjpeafnaaInbC
namespace Go.Proofs.Ytdhidgcjpeafnaa.Oct
open Go.RowKit
set_option linter.unusedVariables false
set_option linter.unusedSimpArgs false
def Sh_y (v : Value) : Prop := ∃ A n c, v = .slice A n c
theorem info_yE : (Try.prog.info? 27).map (fun i => (i.zero, i.size, i.bytes)) = some (some (.slice none 0 0), 1, 24) := by kernel_rfl
theorem zero_yV (w : World) : (zeroValue 74).run Try.prog w = .ok (oneV (.slice none 0 0)) w := by kernel_rfl
theorem agg_yE : Agg 74 1 := ⟨⟨_, Try.underlying74, rfl⟩, by kernel_rfl⟩
section
variable {w w' : World} {x b : Nat} {nx : Int} {p1 p2 p3 : OV}
set_option maxRecDepth 100000 in
theorem xisNone_y (h : Vb 56 w x [.int .u16 nx, .map (some b)]) : Calls Try.prog 23 #[.pointer (some ⟨x, 0, none⟩)] w fun e w' => e = .returned (.bool false) ∧ w' = w := by
  have c1 := h.cell 1 rfl
  have hq : (binOp .eql 54 (.map (some b)) (.map none)).run Try.prog w = .ok (.bool false) w := run_eql_map_nil w _ _ _ (some b) Try.underlying54
  clear h
  go_enter Try.func23, Try.ntmps23
  go_wp2_with fail
  go_ret
  exact ⟨rfl, rfl⟩
set_option maxRecDepth 100000 in
theorem xnew_no_y (w : World) (n : Int) (h : n < 0 ∨ 65535 < n) : Calls Try.prog 7 #[.int .i64 n] w fun e w' => e = .returned (.tuple #[.pointer none, .int .i64 2]) ∧ w' = w := by
  have hn := isNumber_any n w
  rw [isN_no h] at hn
  clear h
  go_enter Try.func7, Try.ntmps7
  go_wp2_with (refine hn.mono ?_; rintro e w1 ⟨rfl, rfl⟩)
  go_ret2
  exact ⟨rfl, rfl⟩
set_option maxRecDepth 100000 in
theorem xnew_yes_y (w : World) (n : Int) (h0 : 0 ≤ n) (h1 : n ≤ 65535) : Calls Try.prog 7 #[.int .i64 n] w fun e w' => ∃ x b, e = .returned (.tuple #[.pointer (some ⟨x, 0, none⟩), .int .i64 0]) ∧ w.heap.size ≤ x ∧ w.heap.size ≤ b ∧ Ib 56 w' x b n none none none ∧ Below w.heap.size w w' := by
  have hn := isNumber_any n w
  rw [isN_yes h0 h1] at hn
  have hu : IntKind.u16.wrap n = n := by rw [IntKind.wrap_u16]; omega
  have hmm := @run_makeMap Try.prog
  have HM := Kp.mk (Mf.new w)
  have HV := Vb.new 56 (w.alloc (.map #[] 0)) [.int .u16 n, .map (some w.heap.size)]
  rw [World.size_alloc] at HV
  have HV := Kp.mk HV
  have HB := Kp.mk (below_two w (.map #[] 0) (.cells #[.int .u16 n, .map (some w.heap.size)] 56))
  have HN := Kp.mk (And.intro h0 h1)
  go_enter Try.func7, Try.ntmps7
  go_wp2_with (refine hn.mono ?_; rintro e w1 ⟨rfl, rfl⟩)
  go_ret2
  refine ⟨_, _, rfl, ?_, Nat.le_refl _, ⟨HV.out, (HM.out.below (below_alloc _ _)).cong (by rw [kpt_none]) rfl, HN.out.1, by have := HN.out; omega⟩, HB.out⟩
  simp
set_option maxRecDepth 100000 in
theorem xack_y (h : Ib 56 w x b nx p1 p2 p3) : Calls Try.prog 13 #[.pointer (some ⟨x, 0, none⟩)] w fun e w' => e = .returned (.int .i64 nx) ∧ w' = w := by
  have hn := xisNone_y h.own
  have c0 := h.own.cell 0 rfl
  have h0 := h.r0
  have h1 := h.r1
  clear h
  go_enter Try.func13, Try.ntmps13
  go_wp2_with (refine hn.mono ?_; rintro e w1 ⟨rfl, rfl⟩)
  go_ret
  exact ⟨rfl, rfl⟩
set_option maxRecDepth 100000 in
theorem xwaits_y (h : Ib 56 w x b nx p1 p2 p3) : Calls Try.prog 14 #[.pointer (some ⟨x, 0, none⟩)] w fun e w' => e = .returned (.int .i64 (cnt p1 p2 p3)) ∧ w' = w := by
  have hn := xisNone_y h.own
  have c1 := h.own.cell 1 rfl
  have hl := fun ty => run_lenM Try.underlying54 h.mp ty
  clear h
  generalize cnt p1 p2 p3 = n at *
  go_enter Try.func14, Try.ntmps14
  go_wp2_with (refine hn.mono ?_; rintro e w1 ⟨rfl, rfl⟩)
  go_ret
  exact ⟨rfl, rfl⟩
set_option maxRecDepth 100000 in
theorem xkeep_yes_y {f : Int → OV} {n : Nat} (hx : Vb 56 w x [.int .u16 nx, .map (some b)]) (h : Mf w b f n) (k : Int) (zA : Option Addr) (zn zc : Nat) (hf : f k = none) : Calls Try.prog 25 #[.pointer (some ⟨x, 0, none⟩), .int .u16 k, (.slice zA zn zc)] w fun e w' => e = .returned (.tuple #[]) ∧ Mf w' b (setF f k (some (.slice zA zn zc))) (n + 1) ∧ Ch (fun y => y = b) w w' := by
  have c0 := hx.cell 1 rfl
  have hl := run_lookM Try.underlying54 Try.underlying49 zero_yV h k
  rw [hf] at hl
  have hb1 := below_alloc w (.cells #[.slice none 0 0] 74)
  obtain ⟨w2, hu, hm, hc⟩ := run_updM Try.underlying54 Try.underlying49 (h.below hb1) k (.slice zA zn zc) hf
  have c1 : (w.alloc (.cells #[.slice none 0 0] 74)).cell? ⟨x, 1, none⟩ = some (.map (some b)) := (hx.below hb1 hx.lt).cell 1 rfl
  have HM := Kp.mk hm
  have HC := Kp.mk ((Ch.of_below (S := fun y => y = b) hb1).trans hc (fun _ _ e => e))
  clear hx h hf hb1 hm hc
  simp only [lkR, Option.getD_none, Option.isSome_none] at hl
  go_enter Try.func25, Try.ntmps25
  go_wp2_with fail
  go_end0
  exact ⟨rfl, HM.out, HC.out⟩
set_option maxRecDepth 100000 in
theorem xkeep_no_y {f : Int → OV} {n : Nat} (hx : Vb 56 w x [.int .u16 nx, .map (some b)]) (h : Mf w b f n) (k : Int) (zA : Option Addr) (zn zc : Nat) {u : Value} (hf : f k = some u) (hu : Sh_y u) : Calls Try.prog 25 #[.pointer (some ⟨x, 0, none⟩), .int .u16 k, (.slice zA zn zc)] w fun e w' => e = .returned (.tuple #[]) ∧ Below w.heap.size w w' := by
  obtain ⟨z2A, z2n, z2c, rfl⟩ := hu
  have c0 := hx.cell 1 rfl
  have hl := run_lookM Try.underlying54 Try.underlying49 zero_yV h k
  rw [hf] at hl
  have hb1 := Kp.mk (below_alloc w (.cells #[(.slice z2A z2n z2c)] 74))
  clear hx h hf
  simp only [lkR, Option.getD_some, Option.isSome_some] at hl
  go_enter Try.func25, Try.ntmps25
  go_wp2_with fail
  go_end0
  exact ⟨rfl, hb1.out⟩
/-- What is kept, of this kind. -/
def Shp_y (p1 p2 p3 : OV) : Prop := (∀ v, p1 = some v → Sh_y v) ∧ (∀ v, p2 = some v → Sh_y v) ∧ (∀ v, p3 = some v → Sh_y v)
theorem Shp_y.shift (h : Shp_y p1 p2 p3) : Shp_y p2 p3 none := ⟨h.2.1, h.2.2, fun v e => by simp at e⟩
set_option maxRecDepth 100000 in
set_option maxHeartbeats 4000000 in
theorem xtell_y (h : Ib 56 w x b nx p1 p2 p3) (hs : Shp_y p1 p2 p3) (zA : Option Addr) (zn zc : Nat) : Calls Try.prog 26 #[.pointer (some ⟨x, 0, none⟩), (.slice zA zn zc)] w fun e w' => ∃ A n c, e = .returned (.slice A n c) ∧ n = 1 + (folK p1 p2 p3).length ∧ Vr 27 w' w.heap.size (.slice A n c) n ((.slice zA zn zc) :: folK p1 p2 p3) ∧ Ib 56 w' x b (Ser.plusP nx n) (rst p1 p2 p3).1 (rst p1 p2 p3).2.1 (rst p1 p2 p3).2.2 ∧ Ch (fun k => k = x ∨ k = b) w w' := by
  have hb1 := below_alloc w (.cells #[(.slice zA zn zc)] 27)
  have hV1 : Vr 27 (w.alloc (.cells #[(.slice zA zn zc)] 27)) w.heap.size (.slice (some ⟨w.heap.size, 0, none⟩) 1 1) 1 [(.slice zA zn zc)] := vr_lit 27 w [(.slice zA zn zc)] (Nat.le_refl _) (by simp)
  have h1 := h.below hb1
  have HC1 := Kp.mk (Ch.of_below (S := fun k => k = x ∨ k = b) hb1)
  have HX := Kp.mk (show x < w.heap.size ∧ b < w.heap.size ∧ x ≠ b from ⟨h.own.lt, h.mp.lt, h.ne⟩)
  have HR := Kp.mk h.r0
  clear h hb1
  go_enter Try.func26, Try.ntmps26
  go_wp2_with fail
  generalize hw0 : w.alloc (.cells #[(.slice zA zn zc)] 27) = w1 at *
  clear hw0
  obtain ⟨B, hB⟩ : ∃ B, B = w.heap.size := ⟨_, rfl⟩
  rw [← hB] at hV1 HX ⊢
  have HBW := Kp.mk hB
  clear hB
  go_loopw [5] (fun s5 wr => ∃ (A : Option Addr) (n c : Nat) (xs : List Value) (ny : Int) (q1 q2 q3 : OV), s5 = .slice A n c ∧ 1 ≤ n ∧ n + cnt q1 q2 q3 ≤ 4 ∧ Ib 56 wr x b ny q1 q2 q3 ∧ Shp_y q1 q2 q3 ∧ Vr 27 wr B (.slice A n c) n xs ∧ xs ++ folK q1 q2 q3 = (.slice zA zn zc) :: folK p1 p2 p3 ∧ n + (folK q1 q2 q3).length = 1 + (folK p1 p2 p3).length ∧ Ser.plusP ny 1 = Ser.plusP nx n ∧ rst q1 q2 q3 = rst p1 p2 p3 ∧ Ch (fun k => k = x ∨ k = b) w wr) (fun s5 _ => 5 - slN s5)
  case atStart => exact ⟨some ⟨B, 0, none⟩, 1, 1, [(.slice zA zn zc)], nx, p1, p2, p3, rfl, Nat.le_refl _, by have := cnt_le p1 p2 p3; omega, h1, hs, hV1, rfl, rfl, rfl, rfl, HC1.out⟩
  case round =>
    clear h1 hs hV1 HC1
    obtain ⟨A, n, c, xs, ny, q1, q2, q3, rfl, hn1, hn4, hI, hS, hO, hxs, hnl, hny, hrs, hC⟩ := hrel
    have hi1 := hI.own
    have c0 := hi1.cell 0 rfl
    have f0 := hi1.free 0
    have hP := Ser.plus_any ny 1 wr hI.r0 hI.r1
    have hbd := plusP_bd ny 1
    have hcS : Ch (fun k => k = x) wr (wr.setCell ⟨x, 0, none⟩ (.int .u16 (Ser.plusP ny 1))) := .of_grown (grownBy_set wr x 0 _)
    have hi2 : Vb 56 (wr.setCell ⟨x, 0, none⟩ (.int .u16 (Ser.plusP ny 1))) x [.int .u16 (Ser.plusP ny 1), .map (some b)] := hi1.set 0 _
    have hm2 : Mf (wr.setCell ⟨x, 0, none⟩ (.int .u16 (Ser.plusP ny 1))) b (kpt ny none q1 q2 q3) (cnt q1 q2 q3) := hI.mp.stay hcS (fun e => hI.ne e.symm)
    have hO2 := hO.stay hcS (fun k hk e => by have := (hO.lt k hk).1; have := HX.out; omega)
    have hC2 := hC.trans hcS (fun k _ e => Or.inl e)
    have hk1 : kpt ny none q1 q2 q3 (Ser.plusP ny 1) = q1 := kpt_1 hI.r0 hI.r1
    have hk2 : setF (kpt ny none q1 q2 q3) (Ser.plusP ny 1) none = kpt (Ser.plusP ny 1) none q2 q3 none := by rw [setF_1 hI.r0 hI.r1, kpt_shift hI.r0 hI.r1]
    have hk3 : q1 = none → kpt ny none q1 q2 q3 = kpt (Ser.plusP ny 1) none q2 q3 none := fun e => by rw [kpt_shift hI.r0 hI.r1, e]
    have HNY := Kp.mk hny
    have HK1 := Kp.mk hk1
    have HK2 := Kp.mk hk2
    have HK3 := Kp.mk hk3
    have HBD := Kp.mk hbd
    have HXS := Kp.mk (And.intro hxs (And.intro hnl hrs))
    have HN := Kp.mk (And.intro hn1 hn4)
    have HO := Kp.mk hO2
    have HC := Kp.mk hC2
    have HI := Kp.mk hi2
    have HM := Kp.mk hm2
    have HS := Kp.mk hS
    clear hI hi1 hbd hcS hi2 hm2 hO hO2 hC hC2 hk1 hk2 hk3 hny hxs hnl hrs hn1 hn4 hS
    generalize hk : Ser.plusP ny 1 = k1 at *
    clear hk
    cases q1 with
    | none =>
      have HLK := Kp.mk (show ∀ w', Below (wr.setCell ⟨x, 0, none⟩ (.int .u16 k1)).heap.size (wr.setCell ⟨x, 0, none⟩ (.int .u16 k1)) w' → (Instr.lookup 54 (.map (some b)) (u16V k1) true).run Try.prog w' = .ok (.tuple #[oneV (.slice none 0 0), .bool false]) w' from fun w' hb => by
        have := run_lookM Try.underlying54 Try.underlying49 zero_yV (HM.out.below hb) k1
        rw [HK1.out] at this
        exact this)
      go_wp2_with (go_at_call 38; refine hP.mono ?_; rintro e w9 ⟨rfl, hw9⟩; subst hw9)
      clear c0 f0 hP
      generalize wr.setCell _ _ = w2 at *
      have d0 := HI.out.cell 0 rfl
      have d1 := HI.out.cell 1 rfl
      have HLT := Kp.mk HI.out.lt
      go_upto_region 3 with fail
      refine wp_region_held_drew (S := fun X => Below w2.heap.size w2 X) (by kernel_rfl) ((Below.refl _ _).drew) (fun hS0 => ?_)
      change Below _ w2 w2.drew at hS0
      generalize w2.drew = u at *
      refine takeD (i := 0) (v := .pointer (some ⟨x, 0, none⟩)) (some 19) rfl rfl (by kernel_rfl) (by kernel_rfl) (by kernel_rfl) (fun _ _ _ h => h) (Or.inl ⟨by rfl, ?_⟩) hS0 ?_
      · rintro w' hq
        go_simp
      try simp only [Act.put, List.setIfInBounds_toArray, List.set_cons_zero, List.set_cons_succ]
      refine takeD (i := 1) (v := .pointer (some ⟨x, 0, none⟩)) (some 20) rfl rfl (by kernel_rfl) (by kernel_rfl) (by kernel_rfl) (fun _ _ _ h => h) (Or.inl ⟨by rfl, ?_⟩) hS0 ?_
      · rintro w' hq
        go_simp
      try simp only [Act.put, List.setIfInBounds_toArray, List.set_cons_zero, List.set_cons_succ]
      refine takeD (i := 2) (v := .pointer (some ⟨x, 1, none⟩)) (some 21) rfl rfl (by kernel_rfl) (by kernel_rfl) (by kernel_rfl) (fun _ _ _ h => h) (Or.inl ⟨by rfl, ?_⟩) hS0 ?_
      · rintro w' hq
        go_simp
      try simp only [Act.put, List.setIfInBounds_toArray, List.set_cons_zero, List.set_cons_succ]
      refine takeD (i := 3) (v := .map (some b)) (some 22) rfl rfl (by kernel_rfl) (by kernel_rfl) (by kernel_rfl) (fun _ _ _ h => h) (Or.inl ⟨by rfl, ?_⟩) hS0 ?_
      · rintro w' hq
        have c1 := (hq.cell (p := ⟨x, 1, none⟩) HLT.out).trans d1
        go_simp
      try simp only [Act.put, List.setIfInBounds_toArray, List.set_cons_zero, List.set_cons_succ]
      refine takeD (i := 4) (v := .pointer (some ⟨x, 0, none⟩)) (some 23) rfl rfl (by kernel_rfl) (by kernel_rfl) (by kernel_rfl) (fun _ _ _ h => h) (Or.inl ⟨by rfl, ?_⟩) hS0 ?_
      · rintro w' hq
        go_simp
      try simp only [Act.put, List.setIfInBounds_toArray, List.set_cons_zero, List.set_cons_succ]
      refine takeD (i := 5) (v := .pointer (some ⟨x, 0, none⟩)) (some 24) rfl rfl (by kernel_rfl) (by kernel_rfl) (by kernel_rfl) (fun _ _ _ h => h) (Or.inl ⟨by rfl, ?_⟩) hS0 ?_
      · rintro w' hq
        go_simp
      try simp only [Act.put, List.setIfInBounds_toArray, List.set_cons_zero, List.set_cons_succ]
      refine takeD (i := 6) (v := .pointer (some ⟨x, 0, none⟩)) (some 25) rfl rfl (by kernel_rfl) (by kernel_rfl) (by kernel_rfl) (fun _ _ _ h => h) (Or.inl ⟨by rfl, ?_⟩) hS0 ?_
      · rintro w' hq
        go_simp
      try simp only [Act.put, List.setIfInBounds_toArray, List.set_cons_zero, List.set_cons_succ]
      refine takeD (i := 7) (v := .int .u16 k1) (some 26) rfl rfl (by kernel_rfl) (by kernel_rfl) (by kernel_rfl) (fun _ _ _ h => h) (Or.inl ⟨by rfl, ?_⟩) hS0 ?_
      · rintro w' hq
        have c0 := (hq.cell (p := ⟨x, 0, none⟩) HLT.out).trans d0
        go_simp
      try simp only [Act.put, List.setIfInBounds_toArray, List.set_cons_zero, List.set_cons_succ]
      refine takeD (i := 8) (v := .tuple #[oneV (.slice none 0 0), .bool false]) (some 27) rfl rfl (by kernel_rfl) (by kernel_rfl) (by kernel_rfl) (fun _ _ _ h => h) (Or.inl ⟨by rfl, ?_⟩) hS0 ?_
      · rintro w' hq
        have hl := HLK.out w' hq
        go_simp
      try simp only [Act.put, List.setIfInBounds_toArray, List.set_cons_zero, List.set_cons_succ]
      refine takeD (i := 9) (v := .tuple #[oneV (.slice none 0 0), .bool false]) (some 18) rfl rfl (by kernel_rfl) (by kernel_rfl) (by kernel_rfl) (fun _ _ _ h => h) (Or.inl ⟨by rfl, ?_⟩) hS0 ?_
      · rintro w' hq
        go_simp
      try simp only [Act.put, List.setIfInBounds_toArray, List.set_cons_zero, List.set_cons_succ]
      refine takeD (i := 10) (v := oneV (.slice none 0 0)) (some 28) rfl rfl (by kernel_rfl) (by kernel_rfl) (by kernel_rfl) (fun _ _ _ h => h) (Or.inl ⟨by rfl, ?_⟩) hS0 ?_
      · rintro w' hq
        go_simp
      try simp only [Act.put, List.setIfInBounds_toArray, List.set_cons_zero, List.set_cons_succ]
      refine takeD (i := 11) (v := .bool false) (some 29) rfl rfl (by kernel_rfl) (by kernel_rfl) (by kernel_rfl) (fun _ _ _ h => h) (Or.inl ⟨by rfl, ?_⟩) hS0 ?_
      · rintro w' hq
        go_simp
      try simp only [Act.put, List.setIfInBounds_toArray, List.set_cons_zero, List.set_cons_succ]
      refine wpAnyH_ready (rs := [12]) (by kernel_rfl) (by simp) ?_
      refine AllReadyH.cons rfl (fun K hK => ?_) AllReadyH.nil
      try rw [if_pos (by rfl)]
      have hS1 : Below w2.heap.size w2 (u.alloc (.cells #[.slice none 0 0] 74)) := hS0.trans ((below_alloc u _).mono hS0.size)
      have hV := Vb.new 74 u [.slice none 0 0]
      have hg := Kp.mk (show w2.heap.size ≤ u.heap.size from hS0.size)
      go_simp
      refine hK.out _ _ hS1 (fun _ => ?_)
      clear hK K
      try simp only [Act.put, List.setIfInBounds_toArray, List.set_cons_zero, List.set_cons_succ]
      generalize u.alloc (.cells #[.slice none 0 0] 74) = u8 at *
      change Vb _ u8 _ _ at hV
      generalize u.heap.size = g at *
      refine wpAnyH_ready (rs := [13]) (by kernel_rfl) (by simp) ?_
      refine AllReadyH.cons rfl (fun K hK => ?_) AllReadyH.nil
      try rw [if_pos (by rfl)]
      have hf := hV.free 0
      have e0 := hV.cell 0 rfl
      have hV2 := Kp.mk (hV.set 0 (.slice none 0 0))
      have hB2 := Kp.mk (below_grown hS1 (grownBy_set u8 g 0 (.slice none 0 0)) hS1.size hg.out)
      clear hV
      go_simp
      refine hK.out _ _ hB2.out (fun _ => ?_)
      clear hK K
      try simp only [Act.put, List.setIfInBounds_toArray, List.set_cons_zero, List.set_cons_succ]
      refine takeD (i := 14) (v := .bool false) (some 7) rfl rfl (by kernel_rfl) (by kernel_rfl) (by kernel_rfl) (fun _ _ _ h => h) (Or.inl ⟨by rfl, ?_⟩) hB2.out ?_
      · rintro w' hq
        go_simp
      try simp only [Act.put, List.setIfInBounds_toArray, List.set_cons_zero, List.set_cons_succ]
      refine wpAnyH_done (by kernel_rfl) ?_ _
      have hV3 := hV2.out
      have hb3 := Kp.mk hB2.out
      clear hV2 hB2 hf e0 hS1 hS0
      generalize u8.setCell _ _ = u9 at *
      have e0 := hV3.cell 0 rfl
      clear d0 d1
      go_wp2_with fail
      go_ret
      have hc9 : Ch (fun k => k = x ∨ k = b) w2 u9 := .of_below hb3.out
      obtain ⟨a1, a2, a3⟩ := HXS.out
      rw [folK_none, List.append_nil] at a1
      rw [folK_none] at a2
      have a4 : n = 1 + (folK p1 p2 p3).length := a2
      rw [← a3, ← a1]
      refine ⟨A, n, c, rfl, a4, by rw [← HBW.out]; exact HO.out.below hb3.out, ?_, HC.out.trans hc9 (fun _ _ e => e)⟩
      rw [← HNY.out, rst_none]
      exact ⟨HI.out.below hb3.out HI.out.lt, (HM.out.below hb3.out).cong (HK3.out trivial) (by simp [cnt, one1]), HBD.out.1, HBD.out.2⟩
    | some a =>
      obtain ⟨z2A, z2n, z2c, rfl⟩ := HS.out.1 a rfl
      have HLK := Kp.mk (show ∀ w', Below (wr.setCell ⟨x, 0, none⟩ (.int .u16 k1)).heap.size (wr.setCell ⟨x, 0, none⟩ (.int .u16 k1)) w' → (Instr.lookup 54 (.map (some b)) (u16V k1) true).run Try.prog w' = .ok (.tuple #[oneV (.slice z2A z2n z2c), .bool true]) w' from fun w' hb => by
        have := run_lookM Try.underlying54 Try.underlying49 zero_yV (HM.out.below hb) k1
        rw [HK1.out] at this
        exact this)
      go_wp2_with (go_at_call 38; refine hP.mono ?_; rintro e w9 ⟨rfl, hw9⟩; subst hw9)
      clear c0 f0 hP
      generalize wr.setCell _ _ = w2 at *
      have d0 := HI.out.cell 0 rfl
      have d1 := HI.out.cell 1 rfl
      have HLT := Kp.mk HI.out.lt
      go_upto_region 3 with fail
      refine wp_region_held_drew (S := fun X => Below w2.heap.size w2 X) (by kernel_rfl) ((Below.refl _ _).drew) (fun hS0 => ?_)
      change Below _ w2 w2.drew at hS0
      generalize w2.drew = u at *
      refine takeD (i := 0) (v := .pointer (some ⟨x, 0, none⟩)) (some 19) rfl rfl (by kernel_rfl) (by kernel_rfl) (by kernel_rfl) (fun _ _ _ h => h) (Or.inl ⟨by rfl, ?_⟩) hS0 ?_
      · rintro w' hq
        go_simp
      try simp only [Act.put, List.setIfInBounds_toArray, List.set_cons_zero, List.set_cons_succ]
      refine takeD (i := 1) (v := .pointer (some ⟨x, 0, none⟩)) (some 20) rfl rfl (by kernel_rfl) (by kernel_rfl) (by kernel_rfl) (fun _ _ _ h => h) (Or.inl ⟨by rfl, ?_⟩) hS0 ?_
      · rintro w' hq
        go_simp
      try simp only [Act.put, List.setIfInBounds_toArray, List.set_cons_zero, List.set_cons_succ]
      refine takeD (i := 2) (v := .pointer (some ⟨x, 1, none⟩)) (some 21) rfl rfl (by kernel_rfl) (by kernel_rfl) (by kernel_rfl) (fun _ _ _ h => h) (Or.inl ⟨by rfl, ?_⟩) hS0 ?_
      · rintro w' hq
        go_simp
      try simp only [Act.put, List.setIfInBounds_toArray, List.set_cons_zero, List.set_cons_succ]
      refine takeD (i := 3) (v := .map (some b)) (some 22) rfl rfl (by kernel_rfl) (by kernel_rfl) (by kernel_rfl) (fun _ _ _ h => h) (Or.inl ⟨by rfl, ?_⟩) hS0 ?_
      · rintro w' hq
        have c1 := (hq.cell (p := ⟨x, 1, none⟩) HLT.out).trans d1
        go_simp
      try simp only [Act.put, List.setIfInBounds_toArray, List.set_cons_zero, List.set_cons_succ]
      refine takeD (i := 4) (v := .pointer (some ⟨x, 0, none⟩)) (some 23) rfl rfl (by kernel_rfl) (by kernel_rfl) (by kernel_rfl) (fun _ _ _ h => h) (Or.inl ⟨by rfl, ?_⟩) hS0 ?_
      · rintro w' hq
        go_simp
      try simp only [Act.put, List.setIfInBounds_toArray, List.set_cons_zero, List.set_cons_succ]
      refine takeD (i := 5) (v := .pointer (some ⟨x, 0, none⟩)) (some 24) rfl rfl (by kernel_rfl) (by kernel_rfl) (by kernel_rfl) (fun _ _ _ h => h) (Or.inl ⟨by rfl, ?_⟩) hS0 ?_
      · rintro w' hq
        go_simp
      try simp only [Act.put, List.setIfInBounds_toArray, List.set_cons_zero, List.set_cons_succ]
      refine takeD (i := 6) (v := .pointer (some ⟨x, 0, none⟩)) (some 25) rfl rfl (by kernel_rfl) (by kernel_rfl) (by kernel_rfl) (fun _ _ _ h => h) (Or.inl ⟨by rfl, ?_⟩) hS0 ?_
      · rintro w' hq
        go_simp
      try simp only [Act.put, List.setIfInBounds_toArray, List.set_cons_zero, List.set_cons_succ]
      refine takeD (i := 7) (v := .int .u16 k1) (some 26) rfl rfl (by kernel_rfl) (by kernel_rfl) (by kernel_rfl) (fun _ _ _ h => h) (Or.inl ⟨by rfl, ?_⟩) hS0 ?_
      · rintro w' hq
        have c0 := (hq.cell (p := ⟨x, 0, none⟩) HLT.out).trans d0
        go_simp
      try simp only [Act.put, List.setIfInBounds_toArray, List.set_cons_zero, List.set_cons_succ]
      refine takeD (i := 8) (v := .tuple #[oneV (.slice z2A z2n z2c), .bool true]) (some 27) rfl rfl (by kernel_rfl) (by kernel_rfl) (by kernel_rfl) (fun _ _ _ h => h) (Or.inl ⟨by rfl, ?_⟩) hS0 ?_
      · rintro w' hq
        have hl := HLK.out w' hq
        go_simp
      try simp only [Act.put, List.setIfInBounds_toArray, List.set_cons_zero, List.set_cons_succ]
      refine takeD (i := 9) (v := .tuple #[oneV (.slice z2A z2n z2c), .bool true]) (some 18) rfl rfl (by kernel_rfl) (by kernel_rfl) (by kernel_rfl) (fun _ _ _ h => h) (Or.inl ⟨by rfl, ?_⟩) hS0 ?_
      · rintro w' hq
        go_simp
      try simp only [Act.put, List.setIfInBounds_toArray, List.set_cons_zero, List.set_cons_succ]
      refine takeD (i := 10) (v := oneV (.slice z2A z2n z2c)) (some 28) rfl rfl (by kernel_rfl) (by kernel_rfl) (by kernel_rfl) (fun _ _ _ h => h) (Or.inl ⟨by rfl, ?_⟩) hS0 ?_
      · rintro w' hq
        go_simp
      try simp only [Act.put, List.setIfInBounds_toArray, List.set_cons_zero, List.set_cons_succ]
      refine takeD (i := 11) (v := .bool true) (some 29) rfl rfl (by kernel_rfl) (by kernel_rfl) (by kernel_rfl) (fun _ _ _ h => h) (Or.inl ⟨by rfl, ?_⟩) hS0 ?_
      · rintro w' hq
        go_simp
      try simp only [Act.put, List.setIfInBounds_toArray, List.set_cons_zero, List.set_cons_succ]
      refine wpAnyH_ready (rs := [12]) (by kernel_rfl) (by simp) ?_
      refine AllReadyH.cons rfl (fun K hK => ?_) AllReadyH.nil
      try rw [if_pos (by rfl)]
      have hS1 : Below w2.heap.size w2 (u.alloc (.cells #[.slice none 0 0] 74)) := hS0.trans ((below_alloc u _).mono hS0.size)
      have hV := Vb.new 74 u [.slice none 0 0]
      have hg := Kp.mk (show w2.heap.size ≤ u.heap.size from hS0.size)
      go_simp
      refine hK.out _ _ hS1 (fun _ => ?_)
      clear hK K
      try simp only [Act.put, List.setIfInBounds_toArray, List.set_cons_zero, List.set_cons_succ]
      generalize u.alloc (.cells #[.slice none 0 0] 74) = u8 at *
      change Vb _ u8 _ _ at hV
      generalize u.heap.size = g at *
      refine wpAnyH_ready (rs := [13]) (by kernel_rfl) (by simp) ?_
      refine AllReadyH.cons rfl (fun K hK => ?_) AllReadyH.nil
      try rw [if_pos (by rfl)]
      have hf := hV.free 0
      have e0 := hV.cell 0 rfl
      have hV2 := Kp.mk (hV.set 0 (.slice z2A z2n z2c))
      have hB2 := Kp.mk (below_grown hS1 (grownBy_set u8 g 0 (.slice z2A z2n z2c)) hS1.size hg.out)
      clear hV
      go_simp
      refine hK.out _ _ hB2.out (fun _ => ?_)
      clear hK K
      try simp only [Act.put, List.setIfInBounds_toArray, List.set_cons_zero, List.set_cons_succ]
      refine takeD (i := 14) (v := .bool true) (some 7) rfl rfl (by kernel_rfl) (by kernel_rfl) (by kernel_rfl) (fun _ _ _ h => h) (Or.inl ⟨by rfl, ?_⟩) hB2.out ?_
      · rintro w' hq
        go_simp
      try simp only [Act.put, List.setIfInBounds_toArray, List.set_cons_zero, List.set_cons_succ]
      refine wpAnyH_done (by kernel_rfl) ?_ _
      have hV3 := hV2.out
      have hb3 := Kp.mk hB2.out
      clear hV2 hB2 hf e0 hS1 hS0
      generalize u8.setCell _ _ = u9 at *
      have e0 := hV3.cell 0 rfl
      have hi9 := HI.out.below hb3.out HI.out.lt
      have hm9 := HM.out.below hb3.out
      have hO9 := HO.out.below hb3.out
      have hC9 := HC.out.trans (Ch.of_below (S := fun k => k = x ∨ k = b) hb3.out) (fun _ _ e => e)
      have HG := Kp.mk (show w2.heap.size ≤ g from hg.out)
      have HXW := Kp.mk (show x < w2.heap.size ∧ b < w2.heap.size ∧ B ≤ w2.heap.size from ⟨HI.out.lt, HM.out.lt, by rw [HBW.out]; exact HC.out.size⟩)
      clear d0 d1 hb3 HLK HI HM HO HC
      have d0 := hi9.cell 0 rfl
      have d1 := hi9.cell 1 rfl
      have HI9 := Kp.mk hi9
      have HM9 := Kp.mk hm9
      have HO9 := Kp.mk hO9
      have HC9 := Kp.mk hC9
      have HV3 := Kp.mk hV3
      clear hi9 hm9 hO9 hC9 hV3
      go_upto_region 6 with fail
      refine wp_region_held_drew (S := fun X => X.cell? ⟨x, 0, none⟩ = some (.int .u16 k1) ∧ X.cell? ⟨x, 1, none⟩ = some (.map (some b))) (by kernel_rfl) ⟨d0, d1⟩ (fun hS0 => ?_)
      have HI4 := Kp.mk (show Vb 56 u9.drew x [.int .u16 k1, .map (some b)] from HI9.out)
      have HM4 := Kp.mk (show Mf u9.drew b (kpt ny none (some (.slice z2A z2n z2c)) q2 q3) (cnt (some (.slice z2A z2n z2c)) q2 q3) from HM9.out)
      have HO4 := Kp.mk (show Vr 27 u9.drew B (.slice A n c) n xs from HO9.out)
      have HC4 := Kp.mk (show Ch (fun k => k = x ∨ k = b) w u9.drew from ⟨HC9.out.os, HC9.out.tape, HC9.out.output, HC9.out.size, HC9.out.block⟩)
      have HV4 := Kp.mk (show Vb 74 u9.drew g [(.slice z2A z2n z2c)] from HV3.out)
      clear HI9 HM9 HO9 HC9 HV3 d0 d1 e0
      generalize u9.drew = y at *
      refine takeD (i := 0) (v := .pointer (some ⟨x, 0, none⟩)) (some 33) rfl rfl (by kernel_rfl) (by kernel_rfl) (by kernel_rfl) (fun _ _ _ h => h) (Or.inl ⟨by rfl, ?_⟩) hS0 ?_
      · rintro w' hq
        go_simp
      try simp only [Act.put, List.setIfInBounds_toArray, List.set_cons_zero, List.set_cons_succ]
      refine takeD (i := 1) (v := .pointer (some ⟨x, 0, none⟩)) (some 34) rfl rfl (by kernel_rfl) (by kernel_rfl) (by kernel_rfl) (fun _ _ _ h => h) (Or.inl ⟨by rfl, ?_⟩) hS0 ?_
      · rintro w' hq
        go_simp
      try simp only [Act.put, List.setIfInBounds_toArray, List.set_cons_zero, List.set_cons_succ]
      refine takeD (i := 2) (v := .pointer (some ⟨x, 1, none⟩)) (some 35) rfl rfl (by kernel_rfl) (by kernel_rfl) (by kernel_rfl) (fun _ _ _ h => h) (Or.inl ⟨by rfl, ?_⟩) hS0 ?_
      · rintro w' hq
        go_simp
      try simp only [Act.put, List.setIfInBounds_toArray, List.set_cons_zero, List.set_cons_succ]
      refine takeD (i := 3) (v := .map (some b)) (some 36) rfl rfl (by kernel_rfl) (by kernel_rfl) (by kernel_rfl) (fun _ _ _ h => h) (Or.inl ⟨by rfl, ?_⟩) hS0 ?_
      · rintro w' hq
        obtain ⟨c0, c1⟩ := hq
        go_simp
      try simp only [Act.put, List.setIfInBounds_toArray, List.set_cons_zero, List.set_cons_succ]
      refine takeD (i := 4) (v := .pointer (some ⟨x, 0, none⟩)) (some 37) rfl rfl (by kernel_rfl) (by kernel_rfl) (by kernel_rfl) (fun _ _ _ h => h) (Or.inl ⟨by rfl, ?_⟩) hS0 ?_
      · rintro w' hq
        go_simp
      try simp only [Act.put, List.setIfInBounds_toArray, List.set_cons_zero, List.set_cons_succ]
      refine takeD (i := 5) (v := .pointer (some ⟨x, 0, none⟩)) (some 38) rfl rfl (by kernel_rfl) (by kernel_rfl) (by kernel_rfl) (fun _ _ _ h => h) (Or.inl ⟨by rfl, ?_⟩) hS0 ?_
      · rintro w' hq
        go_simp
      try simp only [Act.put, List.setIfInBounds_toArray, List.set_cons_zero, List.set_cons_succ]
      refine takeD (i := 6) (v := .pointer (some ⟨x, 0, none⟩)) (some 39) rfl rfl (by kernel_rfl) (by kernel_rfl) (by kernel_rfl) (fun _ _ _ h => h) (Or.inl ⟨by rfl, ?_⟩) hS0 ?_
      · rintro w' hq
        go_simp
      try simp only [Act.put, List.setIfInBounds_toArray, List.set_cons_zero, List.set_cons_succ]
      refine takeD (i := 7) (v := .int .u16 k1) (some 40) rfl rfl (by kernel_rfl) (by kernel_rfl) (by kernel_rfl) (fun _ _ _ h => h) (Or.inl ⟨by rfl, ?_⟩) hS0 ?_
      · rintro w' hq
        obtain ⟨c0, c1⟩ := hq
        go_simp
      try simp only [Act.put, List.setIfInBounds_toArray, List.set_cons_zero, List.set_cons_succ]
      obtain ⟨y2, hrun, hmY, hcY⟩ := run_delM Try.underlying54 Try.underlying49 HM4.out 0 k1 (.slice z2A z2n z2c) HK1.out
      have hiY : Vb 56 y2 x [.int .u16 k1, .map (some b)] := (hcY.block x HI4.out.lt (fun e => HX.out.2.2 e)).trans HI4.out
      have hVY : Vb 74 y2 g [(.slice z2A z2n z2c)] := (hcY.block g HV4.out.lt (fun e => by have := HXW.out; have := HG.out; omega)).trans HV4.out
      have hOY := HO4.out.stay hcY (fun k hk e => by have := (HO4.out.lt k hk).1; have := HX.out; omega)
      have hCY := HC4.out.trans hcY (fun k _ e => Or.inr e)
      rw [HK2.out] at hmY
      have HMY := Kp.mk hmY
      have HIY := Kp.mk hiY
      have HOY := Kp.mk hOY
      have HCY := Kp.mk hCY
      have HVY := Kp.mk hVY
      clear hmY hcY hiY hOY hCY hVY
      refine wpAnyH_ready (rs := [8]) (by kernel_rfl) (by simp) ?_
      refine AllReadyH.cons rfl (fun K hK => ?_) AllReadyH.nil
      try rw [if_pos (by rfl)]
      refine inbOp_delete (.tmp 36) (.tmp 40) rfl rfl rfl hrun (hK.out _ _ ⟨HIY.out.cell 0 rfl, HIY.out.cell 1 rfl⟩ (fun _ => ?_))
      clear hK K hrun
      try simp only [Act.put, List.setIfInBounds_toArray, List.set_cons_zero, List.set_cons_succ]
      refine wpAnyH_done (by kernel_rfl) ?_ _
      clear hS0
      have e0 := HVY.out.cell 0 rfl
      have hb5 := below_alloc y2 (.cells #[(.slice z2A z2n z2c)] 27)
      have hBY : B ≤ y2.heap.size := by rw [HBW.out]; exact HCY.out.size
      obtain ⟨A', c', w5, hrun, hO5, hC5, hat⟩ := run_appendV Try.underlying35 info_yE rfl (by omega) 35 (HOY.out.below hb5) (vd_lit 27 y2 [(.slice z2A z2n z2c)] (B := (y2.alloc (.cells #[(.slice z2A z2n z2c)] 27)).heap.size) (by simp) (by simp)) (fun u hu => by rw [List.mem_singleton.1 hu]; rfl) (by have := HN.out; simp; omega) (Nat.le_trans hBY hb5.size)
      have hrun : (Builtin.append_ #[35, 35] 35 #[.slice A n c, .slice (some ⟨y2.heap.size, 0, none⟩) 1 1]).run Try.prog (y2.alloc (.cells #[(.slice z2A z2n z2c)] 27)) = .ok (.slice A' (n + 1) c') w5 := hrun
      have hO5 : Vr 27 w5 B (.slice A' (n + 1) c') (n + 1) (xs ++ [(.slice z2A z2n z2c)]) := hO5
      have HLO := Kp.mk (show ∀ k, (Value.slice A n c).ownBlock = some k → B ≤ k ∧ k ≠ x ∧ k ≠ b from fun k hk => by have := (HOY.out.lt k hk).1; have := HX.out; omega)
      have HI5 := Kp.mk (show Vb 56 w5 x [.int .u16 k1, .map (some b)] from (hC5.block x (Nat.lt_of_lt_of_le HIY.out.lt hb5.size) (fun e => (HLO.out x e).2.1 rfl)).trans (HIY.out.below hb5 HIY.out.lt))
      have HM5 := Kp.mk ((HMY.out.below hb5).stay hC5 (fun e => (HLO.out b e).2.2 rfl))
      have HC5 := Kp.mk ((HCY.out.trans (Ch.of_below (S := fun k => k = x ∨ k = b) hb5) (fun _ _ e => e)).trans hC5 (fun k hk e => absurd (HLO.out k e).1 (by have := HBW.out; omega)))
      have HO5 := Kp.mk hO5
      clear hO5 hC5 hat hb5 HIY HMY HOY HCY HVY
      go_wp2_with (at_builtin; refine Lib.wpList_append_run _ rfl _ _ _ _ rfl _ _ rfl rfl _ _ hrun ?_)
      go_roundw
      case rel =>
        obtain ⟨a1, a2, a3⟩ := HXS.out
        rw [folK_step] at a1 a2
        rw [rst_step] at a3
        refine ⟨A', n + 1, c', xs ++ [(.slice z2A z2n z2c)], k1, q2, q3, none, rfl, by omega, ?_, ⟨HI5.out, HM5.out.cong rfl ?_, HBD.out.1, HBD.out.2⟩, HS.out.shift, HO5.out, ?_, ?_, ?_, a3, HC5.out⟩
        · have := HN.out; simp [cnt, one1] at this ⊢; omega
        · simp [cnt, one1]; omega
        · rw [List.append_assoc]; exact a1
        · simp at a2; omega
        · rw [HNY.out, plusP_plusP]; congr 1
      case measure => have := HN.out; show 5 - (n + 1) < 5 - n; omega
/-- How far a number is ahead. -/
theorem xhas_y (w : World) (nx k : Int) (h0 : 0 ≤ nx) (h1 : nx < 65536) (k0 : 0 ≤ k) (k1 : k < 65536) : Calls Try.prog 24 #[.agg #[.int .u16 nx, .int .i64 4], .int .u16 k] w fun e w' => e = .returned (.bool (decide ((k - nx) % 65536 < 4))) ∧ Below w.heap.size w w' := by
  have e : decide (0 ≤ Ser.atP nx 4 k) = decide ((k - nx) % 65536 < 4) := by unfold Ser.atP; split <;> simp <;> omega
  rw [← e]
  exact Ser.has_any nx 4 k w h0 h1 k0 k1
set_option maxRecDepth 100000 in
theorem xtake_arg_y (h : Ib 56 w x b nx p1 p2 p3) (seq : Int) (hq : seq < 0 ∨ 65535 < seq) (zA : Option Addr) (zn zc : Nat) : Calls Try.prog 11 #[.pointer (some ⟨x, 0, none⟩), .int .i64 seq, (.slice zA zn zc)] w fun e w' => e = .returned (.tuple #[.slice none 0 0, .int .i64 2]) ∧ w' = w := by
  have hn := xisNone_y h.own
  have hi := isNumber_any seq w
  rw [isN_no hq] at hi
  clear h hq
  go_enter Try.func11, Try.ntmps11
  go_wp2_with (first | (refine hn.mono ?_; rintro e w1 ⟨rfl, rfl⟩) | (refine hi.mono ?_; rintro e w1 ⟨rfl, rfl⟩))
  go_ret2
  exact ⟨rfl, rfl⟩
set_option maxRecDepth 100000 in
theorem xtake_range_y (h : Ib 56 w x b nx p1 p2 p3) (seq : Int) (h0 : 0 ≤ seq) (h1 : seq ≤ 65535) (hd : ¬ (seq - nx) % 65536 < 4) (zA : Option Addr) (zn zc : Nat) : Calls Try.prog 11 #[.pointer (some ⟨x, 0, none⟩), .int .i64 seq, (.slice zA zn zc)] w fun e w' => e = .returned (.tuple #[.slice none 0 0, .int .i64 9]) ∧ Below w.heap.size w w' := by
  have hn := xisNone_y h.own
  have hi := isNumber_any seq w
  rw [isN_yes h0 h1] at hi
  have hu : IntKind.u16.wrap seq = seq := by rw [IntKind.wrap_u16]; omega
  have c0 := h.own.cell 0 rfl
  have hb1 := below_alloc w (.cells #[.int .u16 nx, .int .i64 4] 61)
  have hh := xhas_y (w.alloc (.cells #[.int .u16 nx, .int .i64 4] 61)) nx seq h.r0 h.r1 h0 (by omega)
  rw [decide_eq_false hd] at hh
  have HB1 := Kp.mk hb1
  clear h hd h0 h1 hb1
  go_enter Try.func11, Try.ntmps11
  go_wp2_with (first | (refine hn.mono ?_; rintro e w1 ⟨rfl, rfl⟩) | (refine hi.mono ?_; rintro e w1 ⟨rfl, rfl⟩) | (go_at_call 24; refine hh.mono ?_; rintro e w1 ⟨rfl, hb⟩))
  go_ret2
  exact ⟨rfl, HB1.out.trans (hb.mono HB1.out.size)⟩
set_option maxRecDepth 100000 in
theorem xtake_keep_y (h : Ib 56 w x b nx p1 p2 p3) (seq : Int) (h0 : 0 ≤ seq) (h1 : seq ≤ 65535) (hd : (seq - nx) % 65536 < 4) (hne : seq ≠ nx) (zA : Option Addr) (zn zc : Nat) {R : World → Prop}
    (hk : ∀ w1, Below w.heap.size w w1 → Calls Try.prog 25 #[.pointer (some ⟨x, 0, none⟩), .int .u16 seq, (.slice zA zn zc)] w1 fun e w' => e = .returned (.tuple #[]) ∧ R w') : Calls Try.prog 11 #[.pointer (some ⟨x, 0, none⟩), .int .i64 seq, (.slice zA zn zc)] w fun e w' => e = .returned (.tuple #[.slice none 0 0, .int .i64 0]) ∧ R w' := by
  have hn := xisNone_y h.own
  have hi := isNumber_any seq w
  rw [isN_yes h0 h1] at hi
  have hu : IntKind.u16.wrap seq = seq := by rw [IntKind.wrap_u16]; omega
  have c0 := h.own.cell 0 rfl
  have hb1 := below_alloc w (.cells #[.int .u16 nx, .int .i64 4] 61)
  have hh := xhas_y (w.alloc (.cells #[.int .u16 nx, .int .i64 4] 61)) nx seq h.r0 h.r1 h0 (by omega)
  rw [decide_eq_true hd] at hh
  have HB1 := Kp.mk hb1
  have HOWN := Kp.mk h.own
  have HK := Kp.mk hk
  have hbn : (seq != nx) = true := by simpa using hne
  clear h hd h0 h1 hb1 hk
  go_enter Try.func11, Try.ntmps11
  go_wp2_with (first | (refine hn.mono ?_; rintro e w1 ⟨rfl, rfl⟩) | (refine hi.mono ?_; rintro e w1 ⟨rfl, rfl⟩) | (go_at_call 24; refine hh.mono ?_; rintro e w1 ⟨rfl, hb⟩; have hb2 := HB1.out.trans (hb.mono HB1.out.size); have c0 := (HOWN.out.below hb2 HOWN.out.lt).cell 0 rfl; have hkk := HK.out _ hb2; clear hb hb2 HK) | (refine hkk.mono ?_; rintro e w1 ⟨rfl, hr⟩))
  go_ret2
  exact ⟨rfl, hr⟩
set_option maxRecDepth 100000 in
theorem xtake_tell_y (h : Ib 56 w x b nx p1 p2 p3) (hs : Shp_y p1 p2 p3) (zA : Option Addr) (zn zc : Nat) : Calls Try.prog 11 #[.pointer (some ⟨x, 0, none⟩), .int .i64 nx, (.slice zA zn zc)] w fun e w' => ∃ A n c, e = .returned (.tuple #[.slice A n c, .int .i64 0]) ∧ n = 1 + (folK p1 p2 p3).length ∧ Vr 27 w' w.heap.size (.slice A n c) n ((.slice zA zn zc) :: folK p1 p2 p3) ∧ Ib 56 w' x b (Ser.plusP nx n) (rst p1 p2 p3).1 (rst p1 p2 p3).2.1 (rst p1 p2 p3).2.2 ∧ Ch (fun k => k = x ∨ k = b) w w' := by
  have hn := xisNone_y h.own
  have h0 := h.r0
  have h1 := h.r1
  have hi := isNumber_any nx w
  rw [isN_yes h0 (by omega)] at hi
  have hu : IntKind.u16.wrap nx = nx := by rw [IntKind.wrap_u16]; omega
  have c0 := h.own.cell 0 rfl
  have hb1 := below_alloc w (.cells #[.int .u16 nx, .int .i64 4] 61)
  have hh := xhas_y (w.alloc (.cells #[.int .u16 nx, .int .i64 4] 61)) nx nx h.r0 h.r1 h0 (by omega)
  rw [decide_eq_true (by omega)] at hh
  have HB1 := Kp.mk hb1
  have H := Kp.mk h
  have HS := Kp.mk hs
  clear h h0 h1 hb1 hs
  go_enter Try.func11, Try.ntmps11
  go_wp2_with (first | (refine hn.mono ?_; rintro e w1 ⟨rfl, rfl⟩) | (refine hi.mono ?_; rintro e w1 ⟨rfl, rfl⟩) | (go_at_call 24; refine hh.mono ?_; rintro e w1 ⟨rfl, hb⟩; have HB2 := Kp.mk (HB1.out.trans (hb.mono HB1.out.size)); have c0 := (H.out.below HB2.out).own.cell 0 rfl; clear hb))
  refine (xtell_y (H.out.below HB2.out) HS.out zA zn zc).mono ?_
  rintro e w2 ⟨A, n, c, rfl, hn2, hV, hI, hC⟩
  have HV := Kp.mk (hV.lower HB2.out.size)
  have HN := Kp.mk hn2
  have HI := Kp.mk hI
  have HC := Kp.mk ((Ch.of_below (S := fun k => k = x ∨ k = b) HB2.out).trans hC (fun _ _ e => e))
  clear hn2 hV hI hC
  go_wp2_with fail
  go_ret2
  exact ⟨A, n, c, rfl, HN.out, HV.out, HI.out, HC.out⟩
/-- A message that is ahead is kept, unless one of its number is. -/
theorem xtake_ahead_y (h : Ib 56 w x b nx p1 p2 p3) (hs : Shp_y p1 p2 p3) (d : Int) (hd : d = 1 ∨ d = 2 ∨ d = 3) (zA : Option Addr) (zn zc : Nat) : Calls Try.prog 11 #[.pointer (some ⟨x, 0, none⟩), .int .i64 (Ser.plusP nx d), (.slice zA zn zc)] w fun e w' => e = .returned (.tuple #[.slice none 0 0, .int .i64 0]) ∧ (Ib 56 w' x b nx (atD 1 d p1 (.slice zA zn zc)) (atD 2 d p2 (.slice zA zn zc)) (atD 3 d p3 (.slice zA zn zc)) ∧ Ch (fun k => k = b) w w') := by
  have hbd := plusP_bd nx d
  have r0 := h.r0
  have r1 := h.r1
  refine xtake_keep_y h (Ser.plusP nx d) hbd.1 (by omega) (by unfold Ser.plusP; omega) (by unfold Ser.plusP; omega) zA zn zc (R := fun w' => Ib 56 w' x b nx (atD 1 d p1 (.slice zA zn zc)) (atD 2 d p2 (.slice zA zn zc)) (atD 3 d p3 (.slice zA zn zc)) ∧ Ch (fun k => k = b) w w') (fun w1 hb1 => ?_)
  have hc0 : Ch (fun k => k = b) w w1 := .of_below hb1
  have h1 := h.below hb1
  have fin : ∀ (q1 q2 q3 : OV) (w' : World), Ch (fun y => y = b) w1 w' → Mf w' b (kpt nx none q1 q2 q3) (cnt q1 q2 q3) → Ib 56 w' x b nx q1 q2 q3 ∧ Ch (fun k => k = b) w w' := fun q1 q2 q3 w' hc hm => ⟨⟨(hc.block x h1.own.lt h1.ne).trans h1.own, hm, r0, r1⟩, hc0.trans hc (fun _ _ e => e)⟩
  rcases hd with rfl | rfl | rfl
  · have hk : kpt nx none p1 p2 p3 (Ser.plusP nx 1) = p1 := kpt_1 r0 r1
    cases hp : p1 with
    | none =>
      refine (xkeep_yes_y h1.own h1.mp (Ser.plusP nx 1) zA zn zc (by rw [hk, hp])).mono ?_
      rintro e w' ⟨rfl, hm, hc⟩
      subst hp
      rw [setF_1 r0 r1] at hm
      exact ⟨rfl, fin _ _ _ w' hc (hm.cong (by simp [atD]) (by simp [cnt, one1, atD]; try omega))⟩
    | some u =>
      refine (xkeep_no_y h1.own h1.mp (Ser.plusP nx 1) zA zn zc (by rw [hk, hp]) (hs.1 u hp)).mono ?_
      rintro e w' ⟨rfl, hb⟩
      subst hp
      exact ⟨rfl, fin _ _ _ w' (.of_below hb) ((h1.mp.below hb).cong (by simp [atD]) (by simp [atD]))⟩
  · have hk : kpt nx none p1 p2 p3 (Ser.plusP nx 2) = p2 := kpt_2 r0 r1
    cases hp : p2 with
    | none =>
      refine (xkeep_yes_y h1.own h1.mp (Ser.plusP nx 2) zA zn zc (by rw [hk, hp])).mono ?_
      rintro e w' ⟨rfl, hm, hc⟩
      subst hp
      rw [setF_2 r0 r1] at hm
      exact ⟨rfl, fin _ _ _ w' hc (hm.cong (by simp [atD]) (by simp [cnt, one1, atD]; try omega))⟩
    | some u =>
      refine (xkeep_no_y h1.own h1.mp (Ser.plusP nx 2) zA zn zc (by rw [hk, hp]) (hs.2.1 u hp)).mono ?_
      rintro e w' ⟨rfl, hb⟩
      subst hp
      exact ⟨rfl, fin _ _ _ w' (.of_below hb) ((h1.mp.below hb).cong (by simp [atD]) (by simp [atD]))⟩
  · have hk : kpt nx none p1 p2 p3 (Ser.plusP nx 3) = p3 := kpt_3 r0 r1
    cases hp : p3 with
    | none =>
      refine (xkeep_yes_y h1.own h1.mp (Ser.plusP nx 3) zA zn zc (by rw [hk, hp])).mono ?_
      rintro e w' ⟨rfl, hm, hc⟩
      subst hp
      rw [setF_3 r0 r1] at hm
      exact ⟨rfl, fin _ _ _ w' hc (hm.cong (by simp [atD]) (by simp [cnt, one1, atD]; try omega))⟩
    | some u =>
      refine (xkeep_no_y h1.own h1.mp (Ser.plusP nx 3) zA zn zc (by rw [hk, hp]) (hs.2.2 u hp)).mono ?_
      rintro e w' ⟨rfl, hb⟩
      subst hp
      exact ⟨rfl, fin _ _ _ w' (.of_below hb) ((h1.mp.below hb).cong (by simp [atD]) (by simp [atD]))⟩
end
end Go.Proofs.Ytdhidgcjpeafnaa.Oct
