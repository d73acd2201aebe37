/- Contracts of layer 13 (sender): item; Put. -/
import Derived.Test.YtkpjnikbcgngbaaSndE
namespace Go.Proofs.Ytkpjnikbcgngbaa.Oct
open Go.RowKit
set_option linter.unusedVariables false
set_option linter.unusedSimpArgs false
theorem agg_item : Agg 44 2 := ⟨⟨_, Try.underlying44, rfl⟩, by kernel_rfl⟩
section
variable {P : Nat → Prop} {w w' : World} {s c wd said all : Nat} {nx : Int} {r : Option Nat} {ms : List (List Int)}
/-- The message i, as it lies there. -/
theorem Sp.at_ (h : Sp P w s c wd nx said all r ms) {i : Nat} (hi : i < ms.length) : ∃ g off n m f, w.cell? ⟨s, 0, none⟩ = some (.int .u16 nx) ∧ w.cell? ⟨s, 2, none⟩ = some (.slice (some ⟨g, off, none⟩) n m) ∧ w.cell? ⟨g, off + i, none⟩ = some (.slice f.A f.n f.c) ∧ i < n ∧ n ≤ 512 ∧ ms[i]? = some f.l ∧ Fok P w f := by
  obtain ⟨A, m, fs, h1, h2, h3, h4, h5⟩ := h.ex
  have h6 := h.fit.2.2.2.2.1
  clear h
  subst h4
  have hl : i < fs.length := by simpa using hi
  have hj : fs[i]? = some fs[i] := List.getElem?_eq_getElem hl
  obtain ⟨g, off, rfl, hc⟩ := h2.cell hj
  exact ⟨g, off, _, m, fs[i], h1.cell 0 rfl, h1.cell 2 rfl, hc, hi, h6, by rw [List.getElem?_map, hj]; rfl, h5 _ (List.getElem_mem _)⟩
set_option maxRecDepth 100000 in
set_option maxHeartbeats 4000000 in
theorem sitem_any (h : Sp P w s c wd nx said all r ms) (i : Nat) (hi : i < ms.length) : Calls Try.prog 36 #[.pointer (some ⟨s, 0, none⟩), .int .i64 i] w fun e w' => ∃ f : FrV, e = .returned (.agg #[.int .i64 (Ser.plusP nx i), .slice f.A f.n f.c]) ∧ ms[i]? = some f.l ∧ Fok (fun b => w.heap.size ≤ b) w' f ∧ Below w.heap.size w w' := by
  obtain ⟨g, off, n, m, f, c0, c2, cc, hin, hn5, hms, hf⟩ := h.at_ hi
  have hnx := h.nxb
  have HP : 0 ≤ Ser.plusP nx i ∧ Ser.plusP nx i ≤ 65535 := by unfold Ser.plusP; omega
  have HC := Kp.mk (And.intro c0 (And.intro c2 cc))
  obtain ⟨q, hq⟩ : ∃ q, q = w.heap.size := ⟨_, rfl⟩
  have HQ := Kp.mk hq
  have HLT := Kp.mk (show s < q ∧ g < q from hq ▸ ⟨World.block_lt_of_cell? w _ c0, World.block_lt_of_cell? w _ cc⟩)
  have HI := Kp.mk (show (i : Int) < n ∧ i < n ∧ n ≤ 512 by omega)
  have HM := Kp.mk hms
  have HF := Kp.mk hf
  have HNX := Kp.mk hnx
  have hV0 := Kp.mk (show Vb 44 (w.alloc (.cells #[.int .i64 0, .slice none 0 0] 44)) q [.int .i64 0, .slice none 0 0] from hq ▸ Vb.new 44 w [.int .i64 0, .slice none 0 0])
  have hB0 := Kp.mk (show Below q w (w.alloc (.cells #[.int .i64 0, .slice none 0 0] 44)) from hq ▸ below_alloc w (.cells #[.int .i64 0, .slice none 0 0] 44))
  have hb1 : (i : Int) < n := HI.out.1
  clear h c0 c2 cc hin hn5 hms hf hnx hi hq
  go_enter Try.func36, Try.ntmps36
  go_upto_region 1 with fail
  rw [show w.heap.size = q from HQ.out.symm]
  refine wp_region_held_drew (S := fun X => Below q w X) (by kernel_rfl) hB0.out.drew (fun hS0 => ?_)
  have hV : Vb 44 (w.alloc (.cells #[.int .i64 0, .slice none 0 0] 44)).drew q [.int .i64 0, .slice none 0 0] := hV0.out
  have hbig := Kp.mk hV.lt
  clear hV0 hB0
  generalize (w.alloc (.cells #[.int .i64 0, .slice none 0 0] 44)).drew = u at *
  refine takeD (i := 0) (v := .pointer (some ⟨s, 0, none⟩)) (some 5) rfl rfl (by kernel_rfl) (by kernel_rfl) (by kernel_rfl) (fun _ _ _ h => h) (Or.inl ⟨by rfl, ?_⟩) hS0 ?_
  · rintro w' hq
    go_simp
  try simp only [Act.put, List.setIfInBounds_toArray, List.set_cons_zero, List.set_cons_succ]
  refine takeD (i := 1) (v := .pointer (some ⟨s, 0, none⟩)) (some 6) rfl rfl (by kernel_rfl) (by kernel_rfl) (by kernel_rfl) (fun _ _ _ h => h) (Or.inl ⟨by rfl, ?_⟩) hS0 ?_
  · rintro w' hq
    go_simp
  try simp only [Act.put, List.setIfInBounds_toArray, List.set_cons_zero, List.set_cons_succ]
  refine takeD (i := 2) (v := .pointer (some ⟨s, 0, none⟩)) (some 7) rfl rfl (by kernel_rfl) (by kernel_rfl) (by kernel_rfl) (fun _ _ _ h => h) (Or.inl ⟨by rfl, ?_⟩) hS0 ?_
  · rintro w' hq
    go_simp
  try simp only [Act.put, List.setIfInBounds_toArray, List.set_cons_zero, List.set_cons_succ]
  refine takeD (i := 3) (v := .int .u16 nx) (some 8) rfl rfl (by kernel_rfl) (by kernel_rfl) (by kernel_rfl) (fun _ _ _ h => h) (Or.inl ⟨by rfl, ?_⟩) hS0 ?_
  · rintro w' hq
    have c0 := (hq.cell (p := ⟨s, 0, none⟩) HLT.out.1).trans HC.out.1
    go_simp
  try simp only [Act.put, List.setIfInBounds_toArray, List.set_cons_zero, List.set_cons_succ]
  refine takeD (i := 4) (v := .int .i64 i) (some 9) rfl rfl (by kernel_rfl) (by kernel_rfl) (by kernel_rfl) (fun _ _ _ h => h) (Or.inl ⟨by rfl, ?_⟩) hS0 ?_
  · rintro w' hq
    go_simp
  try simp only [Act.put, List.setIfInBounds_toArray, List.set_cons_zero, List.set_cons_succ]
  refine takeD (i := 7) (v := .pointer (some ⟨s, 0, none⟩)) (some 12) rfl rfl (by kernel_rfl) (by kernel_rfl) (by kernel_rfl) (fun _ _ _ h => h) (Or.inl ⟨by rfl, ?_⟩) hS0 ?_
  · rintro w' hq
    go_simp
  try simp only [Act.put, List.setIfInBounds_toArray, List.set_cons_zero, List.set_cons_succ]
  refine takeD (i := 8) (v := .pointer (some ⟨s, 0, none⟩)) (some 13) rfl rfl (by kernel_rfl) (by kernel_rfl) (by kernel_rfl) (fun _ _ _ h => h) (Or.inl ⟨by rfl, ?_⟩) hS0 ?_
  · rintro w' hq
    go_simp
  try simp only [Act.put, List.setIfInBounds_toArray, List.set_cons_zero, List.set_cons_succ]
  refine takeD (i := 9) (v := .pointer (some ⟨s, 2, none⟩)) (some 14) rfl rfl (by kernel_rfl) (by kernel_rfl) (by kernel_rfl) (fun _ _ _ h => h) (Or.inl ⟨by rfl, ?_⟩) hS0 ?_
  · rintro w' hq
    go_simp
  try simp only [Act.put, List.setIfInBounds_toArray, List.set_cons_zero, List.set_cons_succ]
  refine takeD (i := 10) (v := .slice (some ⟨g, off, none⟩) n m) (some 15) rfl rfl (by kernel_rfl) (by kernel_rfl) (by kernel_rfl) (fun _ _ _ h => h) (Or.inl ⟨by rfl, ?_⟩) hS0 ?_
  · rintro w' hq
    have c2 := (hq.cell (p := ⟨s, 2, none⟩) HLT.out.1).trans HC.out.2.1
    go_simp
  try simp only [Act.put, List.setIfInBounds_toArray, List.set_cons_zero, List.set_cons_succ]
  refine takeD (i := 11) (v := .int .i64 i) (some 16) rfl rfl (by kernel_rfl) (by kernel_rfl) (by kernel_rfl) (fun _ _ _ h => h) (Or.inl ⟨by rfl, ?_⟩) hS0 ?_
  · rintro w' hq
    go_simp
  try simp only [Act.put, List.setIfInBounds_toArray, List.set_cons_zero, List.set_cons_succ]
  refine takeD (i := 12) (v := .pointer (some ⟨g, off + i, none⟩)) (some 17) rfl rfl (by kernel_rfl) (by kernel_rfl) (by kernel_rfl) (fun _ _ _ h => h) (Or.inl ⟨by rfl, ?_⟩) hS0 ?_
  · rintro w' hq
    go_simp
  try simp only [Act.put, List.setIfInBounds_toArray, List.set_cons_zero, List.set_cons_succ]
  refine takeD (i := 13) (v := .slice f.A f.n f.c) (some 18) rfl rfl (by kernel_rfl) (by kernel_rfl) (by kernel_rfl) (fun _ _ _ h => h) (Or.inl ⟨by rfl, ?_⟩) hS0 ?_
  · rintro w' hq
    have cc := (hq.cell (p := ⟨g, off + i, none⟩) HLT.out.2).trans HC.out.2.2
    go_simp
  try simp only [Act.put, List.setIfInBounds_toArray, List.set_cons_zero, List.set_cons_succ]
  refine wpAnyH_ready (rs := [5]) (by kernel_rfl) (by simp) ?_
  refine AllReadyH.cons rfl (fun K hK => ?_) AllReadyH.nil
  try rw [if_pos (by rfl)]
  go_simp
  refine (Ser.plus_any nx i u HNX.out.1 (by have := HNX.out; omega)).mono ?_
  rintro e u1 ⟨rfl, hu⟩
  subst hu
  refine hK.out _ _ hS0 (fun _ => ?_)
  clear hK K
  try simp only [Act.put, List.setIfInBounds_toArray, List.set_cons_zero, List.set_cons_succ]
  have hw : IntKind.i64.wrap (Ser.plusP nx i) = Ser.plusP nx i := by rw [IntKind.wrap_i64]; omega
  refine takeD (i := 6) (v := .int .i64 (Ser.plusP nx i)) (some 11) rfl rfl (by kernel_rfl) (by kernel_rfl) (by kernel_rfl) (fun _ _ _ h => h) (Or.inl ⟨by rfl, ?_⟩) hS0 ?_
  · rintro w' hq
    go_simp
  try simp only [Act.put, List.setIfInBounds_toArray, List.set_cons_zero, List.set_cons_succ]
  refine wpAnyH_ready (rs := [14]) (by kernel_rfl) (by simp) ?_
  refine AllReadyH.cons rfl (fun K hK => ?_) AllReadyH.nil
  try rw [if_pos (by rfl)]
  go_simp
  have hf1 := HF.out.below (by rw [HQ.out] at hS0; exact hS0)
  refine (cloneB_any hf1.rd (Nat.le_refl _) hf1.small hf1.bytes).mono ?_
  rintro e u2 ⟨k, rfl, hkl, hkn, hk, hb⟩
  have hS2 := hS0.trans (hb.mono (Nat.le_of_lt hbig.out))
  have hV2 := hV.below hb hV.lt
  have HK := Kp.mk (hk.imp (Q := fun b => q ≤ b) (fun b _ h => Nat.le_trans (Nat.le_of_lt hbig.out) h))
  have HKL := Kp.mk (hkl)
  have HNE := Kp.mk hbig.out
  have HKB := Kp.mk (hk.imp (Q := fun b => ¬ b = q) (fun b _ h e => by have := hbig.out; omega))
  clear hk hkl hkn hb hV hf1
  refine hK.out _ _ hS2 (fun _ => ?_)
  clear hK K
  try simp only [Act.put, List.setIfInBounds_toArray, List.set_cons_zero, List.set_cons_succ]
  rw [show k.val = .slice k.A k.n k.c from rfl]
  refine takeD (i := 15) (v := .agg #[.int .i64 (Ser.plusP nx i), .slice k.A k.n k.c]) (some 20) rfl rfl (by kernel_rfl) (by kernel_rfl) (by kernel_rfl) (fun _ _ _ h => h) (Or.inl ⟨by rfl, ?_⟩) hS2 ?_
  · rintro w' hq
    go_simp
  try simp only [Act.put, List.setIfInBounds_toArray, List.set_cons_zero, List.set_cons_succ]
  refine wpAnyH_ready (rs := [16]) (by kernel_rfl) (by simp) ?_
  refine AllReadyH.cons rfl (fun K hK => ?_) AllReadyH.nil
  try rw [if_pos (by rfl)]
  have hf0 := hV2.free 0
  have hf1 := hV2.free 1
  have d0 := hV2.cell 0 rfl
  have d1 := hV2.cell 1 rfl
  have hV3 := Kp.mk ((hV2.set 0 (.int .i64 (Ser.plusP nx i))).set 1 (.slice k.A k.n k.c))
  have hc3 : Ch (fun x => x = q) u2 ((u2.setCell ⟨q, 0, none⟩ (.int .i64 (Ser.plusP nx i))).setCell ⟨q, 1, none⟩ (.slice k.A k.n k.c)) := (Ch.of_grown (grownBy_set u2 q 0 _)).trans (Ch.of_grown (grownBy_set _ q 1 _)) (fun _ _ e => e)
  have hB3 := hS2.trans (hc3.below (B := q) (fun x e => by omega) (by have := hV2.lt; omega))
  have HK3 := Kp.mk (HKB.out.stay hc3 (fun b cs m _ h _ e => h e))
  have HK3 := Kp.mk (HK.out.stay hc3 (fun b cs m _ h hb e => by rw [e, show u2.heap[q]? = _ from hV2] at hb; have e := Option.some.inj hb; injection e with _ e _; exact absurd e (by decide)))
  clear hV2 hc3
  go_simp
  refine hK.out _ _ hB3 (fun _ => ?_)
  clear hK K
  try simp only [Act.put, List.setIfInBounds_toArray, List.set_cons_zero, List.set_cons_succ]
  refine wpAnyH_done (by kernel_rfl) ?_ _
  have HB := Kp.mk hB3
  clear hf0 hf1 d0 d1 hB3 hS2 hS0
  generalize (u2.setCell _ _).setCell _ _ = u9 at *
  have e0 := hV3.out.cell 0 rfl
  have e1 := hV3.out.cell 1 rfl
  go_wp2_with fail
  refine bodyPost_ret (results_one Try.results36 _ rfl hV3.out agg_item) rfl ?_
  exact ⟨k, rfl, by rw [HKL.out]; exact HM.out, by have := HK3.out; rw [HQ.out] at this; exact this, by have := HB.out; rw [HQ.out] at this; exact this⟩
/-- What Put answers. -/
def putSE (n left all : Nat) : Int := if n < 1 ∨ 256 < n then 2 else if 20000 ≤ all then 5 else if 512 ≤ left then 7 else 0
theorem putSE_yes {n left all : Nat} (h : putSE n left all = 0) : 1 ≤ n ∧ n ≤ 256 ∧ all < 20000 ∧ left < 512 := by
  unfold putSE at h
  split at h
  · omega
  · split at h
    · omega
    · split at h <;> omega
set_option maxRecDepth 100000 in
set_option maxHeartbeats 4000000 in
theorem sput_no (h : Sp P w s c wd nx said all r ms) {B n m : Nat} {A : Option Addr} {bs : List Int} (hr : Rd .u8 w B A n m bs) {E : Int} (hE : putSE n ms.length all = E) (h0 : E ≠ 0) : Calls Try.prog 18 #[.pointer (some ⟨s, 0, none⟩), .slice A n m] w fun e w' => e = .returned (.int .i64 E) ∧ w' = w := by
  have HN := sNone_no h
  have HL := sleft_any h
  obtain ⟨A0, m0, fs, h1, -, -, -, -⟩ := h.ex
  have c1 := h1.cell 1 rfl
  clear h h1
  generalize ms.length = left at *
  unfold putSE at hE
  split at hE
  · subst hE
    rename_i hn
    by_cases hn1 : (n : Int) < 1
    · go_enter Try.func18, Try.ntmps18
      go_wp2_with (first | (refine HN.mono ?_; rintro e w1 ⟨rfl, rfl⟩))
      go_ret
      exact ⟨rfl, rfl⟩
    · have hn2 : (256 : Int) < n := by omega
      clear hn
      go_enter Try.func18, Try.ntmps18
      go_wp2_with (first | (refine HN.mono ?_; rintro e w1 ⟨rfl, rfl⟩))
      go_ret
      exact ⟨rfl, rfl⟩
  · rename_i hn
    have hn1 : ¬ (n : Int) < 1 := by omega
    have hn2 : ¬ (256 : Int) < n := by omega
    split at hE
    · subst hE
      rename_i ha
      have ha1 : (20000 : Int) ≤ all := by omega
      clear hn ha
      go_enter Try.func18, Try.ntmps18
      go_wp2_with (first | (refine HN.mono ?_; rintro e w1 ⟨rfl, rfl⟩))
      go_ret
      exact ⟨rfl, rfl⟩
    · rename_i ha
      have ha1 : ¬ (20000 : Int) ≤ all := by omega
      split at hE
      · subst hE
        rename_i hl
        have hl1 : (512 : Int) ≤ left := by omega
        have ha2 : decide ((20000 : Int) ≤ all) = false := decide_eq_false ha1
        clear hn ha hl ha1
        go_enter Try.func18, Try.ntmps18
        go_wp2_with (first | (go_at_call 31; refine HN.mono ?_; rintro e w1 ⟨rfl, rfl⟩) | (go_at_call 10; refine HL.mono ?_; rintro e w1 ⟨rfl, rfl⟩))
        go_ret
        exact ⟨rfl, rfl⟩
      · exact absurd hE.symm h0
theorem sndOp_append {o : Oper} {a : Act} {K : Act → World → Prop} {Q : Exit → Act → World → Prop} {t : TypeId} {w w' : World} (s x : Operand) (ho : o.op = .call { callee := .builtin .append, args := #[s, x], argTypes := #[t, t] }) {v u y : Value} (hs : a.eval s = v) (hx : a.eval x = u)
    (hrun : (Builtin.append_ #[t, t] o.type #[v, u]).run Try.prog w = .ok y w') (h : K (a.put o.dst y) w') : o.wp Try.prog a w K Q := by
  unfold Oper.wp execOp
  simp only [ho, resolve, invoke, builtin, Sem.run_bind, Sem.run_pure, Result.andThen_ok, List.map_toArray, List.map_cons, List.map_nil, hs, hx, hrun]
  exact h
/-- What is put in is in a row of frames no sender's, nor a block of bytes. -/
theorem vb_no {T T' : TypeId} {w : World} {g : Nat} {cs : List Value} (h : Vb T w g cs) (hne : T ≠ T') : ∀ cs' m, w.heap[g]? ≠ some (.cells cs' T' m) := by
  intro cs' m e
  rw [show w.heap[g]? = _ from h] at e
  have e := Option.some.inj e
  injection e with _ e _
  exact hne e
set_option maxRecDepth 100000 in
set_option maxHeartbeats 4000000 in
theorem sput_yes (h : Sp P w s c wd nx said all r ms) {B n m : Nat} {A : Option Addr} {bs : List Int} (hr : Rd .u8 w B A n m bs) (hB : B ≤ w.heap.size) (hby : By bs) (hE : putSE n ms.length all = 0) : Calls Try.prog 18 #[.pointer (some ⟨s, 0, none⟩), .slice A n m] w fun e w' => ∃ r', e = .returned (.int .i64 0) ∧ Sp (fun b => P b ∨ w.heap.size ≤ b) w' s c wd nx said (all + 1) r' (ms ++ [bs]) ∧ Ch (Kb s c r) w w' ∧ (r' = r ∨ ∀ k, r' = some k → w.heap.size ≤ k) := by
  have HN := sNone_no h
  have HL := sleft_any h
  have hE := putSE_yes hE
  have HX := Kp.mk (And.intro h.fit (And.intro h.nxb h.apart))
  have HCH := Kp.mk h.ch
  obtain ⟨A0, m0, fs, h1, h2, h3, h4, h5⟩ := h.ex
  have c1 := h1.cell 1 rfl
  have hn1 : ¬ (n : Int) < 1 := by omega
  have hn2 : ¬ (256 : Int) < n := by omega
  have ha1 : decide ((20000 : Int) ≤ all) = false := decide_eq_false (by omega)
  have hl1 : decide ((512 : Int) ≤ ms.length) = false := decide_eq_false (by omega)
  have hw : IntKind.i64.wrap ((all : Int) + 1) = (all : Int) + 1 := by rw [IntKind.wrap_i64]; omega
  have HE := Kp.mk hE
  have H1 := Kp.mk h1
  have H2 := Kp.mk h2
  have H3 := Kp.mk h3
  have H4 := Kp.mk h4
  have H5 := Kp.mk h5
  have HR := Kp.mk hr
  have HBY := Kp.mk hby
  obtain ⟨n0, hn0⟩ : ∃ n0, n0 = ms.length := ⟨_, rfl⟩
  rw [← hn0] at hl1 HL H1 H2 H3
  have HLN := Kp.mk hn0
  clear h h1 h2 h3 h4 h5 hE hr hby hn0
  go_enter Try.func18, Try.ntmps18
  go_upto_region 9 with (first | (go_at_call 31; refine HN.mono ?_; rintro e w1 ⟨rfl, rfl⟩) | (go_at_call 10; refine HL.mono ?_; rintro e w1 ⟨rfl, rfl⟩))
  clear HN HL hn1 hn2 ha1 hl1 c1
  refine wp_region_held_drew (S := fun _ => True) (by kernel_rfl) trivial (fun hS0 => ?_)
  clear hS0
  have hS0 : (fun _ : World => True) w1 := trivial
  have hb0 : Below w1.heap.size w1 w1.drew := (Below.refl _ _).drew
  have hV := H1.out.below hb0 H1.out.lt
  have hQ := H2.out.below hb0
  have hR := HR.out.below' hb0 hB
  have hF := H5.out.below hb0
  have hC := HCH.out.stay (S := fun _ => False) (.of_below hb0) id
  clear H1 H2 HR H5 HCH
  generalize w1.drew = u at *
  refine takeD (i := 0) (v := .pointer (some ⟨s, 0, none⟩)) (some 27) rfl rfl (by kernel_rfl) (by kernel_rfl) (by kernel_rfl) (fun _ _ _ h => h) (Or.inl ⟨by rfl, ?_⟩) trivial ?_
  · rintro w' _
    go_simp
  try simp only [Act.put, List.setIfInBounds_toArray, List.set_cons_zero, List.set_cons_succ]
  refine takeD (i := 1) (v := .pointer (some ⟨s, 0, none⟩)) (some 28) rfl rfl (by kernel_rfl) (by kernel_rfl) (by kernel_rfl) (fun _ _ _ h => h) (Or.inl ⟨by rfl, ?_⟩) trivial ?_
  · rintro w' _
    go_simp
  try simp only [Act.put, List.setIfInBounds_toArray, List.set_cons_zero, List.set_cons_succ]
  refine takeD (i := 2) (v := .pointer (some ⟨s, 0, none⟩)) (some 29) rfl rfl (by kernel_rfl) (by kernel_rfl) (by kernel_rfl) (fun _ _ _ h => h) (Or.inl ⟨by rfl, ?_⟩) trivial ?_
  · rintro w' _
    go_simp
  try simp only [Act.put, List.setIfInBounds_toArray, List.set_cons_zero, List.set_cons_succ]
  refine takeD (i := 3) (v := .pointer (some ⟨s, 2, none⟩)) (some 30) rfl rfl (by kernel_rfl) (by kernel_rfl) (by kernel_rfl) (fun _ _ _ h => h) (Or.inl ⟨by rfl, ?_⟩) trivial ?_
  · rintro w' _
    go_simp
  try simp only [Act.put, List.setIfInBounds_toArray, List.set_cons_zero, List.set_cons_succ]
  refine takeD (i := 5) (v := .slice A n m) (some 32) rfl rfl (by kernel_rfl) (by kernel_rfl) (by kernel_rfl) (fun _ _ _ h => h) (Or.inl ⟨by rfl, ?_⟩) trivial ?_
  · rintro w' _
    go_simp
  try simp only [Act.put, List.setIfInBounds_toArray, List.set_cons_zero, List.set_cons_succ]
  refine wpAnyH_ready (rs := [4, 6]) (by kernel_rfl) (by simp) ?_
  refine AllReadyH.cons rfl (fun K hK => ?_) (AllReadyH.cons rfl (fun K hK => ?_) AllReadyH.nil)
  · skip
    try rw [if_pos (by rfl)]
    have k1 := hV.cell 2 rfl
    go_simp
    refine hK.out _ _ trivial (fun _ => ?_)
    clear hK K
    try simp only [Act.put, List.setIfInBounds_toArray, List.set_cons_zero, List.set_cons_succ]
    clear k1
    refine wpAnyH_ready (rs := [6]) (by kernel_rfl) (by simp) ?_
    refine AllReadyH.cons rfl (fun K hK => ?_) AllReadyH.nil
    try rw [if_pos (by rfl)]
    go_simp
    go_at_call 34
    refine (cloneB_any hR (by have := hb0.size; omega) (by have := HE.out; omega) HBY.out).mono ?_
    rintro e u1 ⟨g, rfl, hgl, hgn, hg, hb⟩
    have HGL := Kp.mk hgl
    have HG := Kp.mk (hg.imp (Q := fun b => w1.heap.size ≤ b) (fun b _ h => Nat.le_trans hb0.size h))
    have hV := hV.below hb hV.lt
    have hQ := hQ.below hb
    have hF := hF.below hb
    have hC := hC.stay (S := fun _ => False) (.of_below hb) id
    have hb0 := hb0.trans (hb.mono hb0.size)
    clear hR hgl hgn hg hb
    rw [show g.val = .slice g.A g.n g.c from rfl]
    refine hK.out _ _ trivial (fun _ => ?_)
    clear hK K
    try simp only [Act.put, List.setIfInBounds_toArray, List.set_cons_zero, List.set_cons_succ]
    refine wpAnyH_ready (rs := [7]) (by kernel_rfl) (by simp) ?_
    refine AllReadyH.cons rfl (fun K hK => ?_) AllReadyH.nil
    try rw [if_pos (by rfl)]
    go_simp
    have hb := below_alloc u1 (.cells #[.slice g.A g.n g.c] 30)
    have HG := Kp.mk (HG.out.below hb)
    have hV := hV.below hb hV.lt
    have hQ := hQ.below hb
    have hF := hF.below hb
    have hC := hC.stay (S := fun _ => False) (.of_below hb) id
    have hb0 := hb0.trans (hb.mono hb0.size)
    have hcl : (u1.alloc (.cells #[.slice g.A g.n g.c] 30)).cell? ⟨u1.heap.size, 0, none⟩ = some g.val := (Vb.new 30 u1 [.slice g.A g.n g.c]).cell 0 rfl
    clear hb
    refine hK.out _ _ trivial (fun _ => ?_)
    clear hK K
    try simp only [Act.put, List.setIfInBounds_toArray, List.set_cons_zero, List.set_cons_succ]
    generalize u1.alloc _ = u2 at *
    generalize u1.heap.size = gl at *
    refine wpAnyH_ready (rs := [8]) (by kernel_rfl) (by simp) ?_
    refine AllReadyH.cons rfl (fun K hK => ?_) AllReadyH.nil
    try rw [if_pos (by rfl)]
    obtain ⟨A2, c2, u3, hrun, hQ3, hC3, hat⟩ := hQ.push 51 hcl (by have := HE.out; have := HLN.out; omega)
    have hap := HX.out.2.2
    have hV3 : Vb 55 u3 s [.int .u16 nx, .int .i64 all, .slice A0 n0 m0, .chan (some c)] := (hC3.block s hV.lt (fun e => hap.2.1 (H3.out.symm.trans e))).trans hV
    have hF3 := hF.other hC3 (fun b cs m e => by obtain ⟨_, cs2, hv⟩ := hQ.at_ b e; exact vb_no hv (by decide) cs m)
    have hG3 := HG.out.stay hC3 (fun b cs m _ _ hb e => by obtain ⟨_, cs2, hv⟩ := hQ.at_ b e; exact vb_no hv (by decide) cs m hb)
    have hW3 := hC.stay hC3 (fun e => hap.2.2 (H3.out.symm.trans e))
    have HC := Kp.mk ((Ch.of_below (S := Kb s c r) hb0).trans hC3 (fun x _ e => Or.inr (.inr (H3.out.symm.trans e))))
    have HAT := Kp.mk (show (Value.slice A2 (n0 + 1) c2).ownBlock = r ∨ ∀ k, (Value.slice A2 (n0 + 1) c2).ownBlock = some k → w1.heap.size ≤ k from hat.imp (fun e => e.trans H3.out) (fun h k hk => Nat.le_trans hb0.size (h k hk)))
    have HNE := Kp.mk (show ∀ k, (Value.slice A2 (n0 + 1) c2).ownBlock = some k → k ≠ s ∧ k ≠ c from fun k hk => by
      obtain ⟨_, cs2, hv⟩ := hQ3.at_ k hk
      exact ⟨fun e => vb_no hV3 (by decide) _ _ (e ▸ hv), fun e => hW3.nocell _ _ _ (e ▸ hv)⟩)
    clear hC3 hat hV hQ hF hC hcl hap hb0 HG
    refine sndOp_append (.tmp 31) (.tmp 34) rfl rfl rfl hrun (hK.out _ _ trivial (fun _ => ?_))
    clear hK K hrun
    try simp only [Act.put, List.setIfInBounds_toArray, List.set_cons_zero, List.set_cons_succ]
    refine takeD (i := 9) (v := .pointer (some ⟨s, 0, none⟩)) (some 36) rfl rfl (by kernel_rfl) (by kernel_rfl) (by kernel_rfl) (fun _ _ _ h => h) (Or.inl ⟨by rfl, ?_⟩) trivial ?_
    · rintro w' _
      go_simp
    try simp only [Act.put, List.setIfInBounds_toArray, List.set_cons_zero, List.set_cons_succ]
    refine takeD (i := 10) (v := .pointer (some ⟨s, 2, none⟩)) (some 37) rfl rfl (by kernel_rfl) (by kernel_rfl) (by kernel_rfl) (fun _ _ _ h => h) (Or.inl ⟨by rfl, ?_⟩) trivial ?_
    · rintro w' _
      go_simp
    try simp only [Act.put, List.setIfInBounds_toArray, List.set_cons_zero, List.set_cons_succ]
    refine wpAnyH_ready (rs := [11]) (by kernel_rfl) (by simp) ?_
    refine AllReadyH.cons rfl (fun K hK => ?_) AllReadyH.nil
    try rw [if_pos (by rfl)]
    have k1 := hV3.cell 2 rfl
    have hf := hV3.free 2
    have hc4 : Ch (fun x => x = s) u3 (u3.setCell ⟨s, 2, none⟩ (.slice A2 (n0 + 1) c2)) := .of_grown (grownBy_set u3 s 2 _)
    have hV4 := hV3.set 2 (.slice A2 (n0 + 1) c2)
    have HQ4 := Kp.mk (hQ3.stay hc4 (fun k hk => (HNE.out k hk).1))
    have HW4 := Kp.mk (hW3.stay hc4 (fun e => HX.out.2.2.1 e.symm))
    have HF4 := Kp.mk (hF3.other hc4 (fun b cs m e => by rw [e]; exact vb_no hV3 (by decide) cs m))
    have HG4 := Kp.mk (hG3.stay hc4 (fun b cs m _ _ hb e => by rw [e] at hb; exact vb_no hV3 (by decide) cs m hb))
    have HC4 := Kp.mk (HC.out.trans hc4 (fun x _ e => Or.inl e))
    clear hV3 hQ3 hW3 hF3 hG3 HC hc4
    go_simp
    refine hK.out _ _ trivial (fun _ => ?_)
    clear hK K k1 hf
    try simp only [Act.put, List.setIfInBounds_toArray, List.set_cons_zero, List.set_cons_succ]
    refine wpAnyH_done (by kernel_rfl) ?_ _
    change Vb _ _ _ [.int .u16 nx, .int .i64 all, .slice A2 (n0 + 1) c2, .chan (some c)] at hV4
    generalize u3.setCell _ _ = u4 at *
    have k1 := hV4.cell 1 rfl
    have hf := hV4.free 1
    have hc5 : Ch (fun x => x = s) u4 (u4.setCell ⟨s, 1, none⟩ (.int .i64 ((all : Int) + 1))) := .of_grown (grownBy_set u4 s 1 _)
    have HV5 := Kp.mk (hV4.set 1 (.int .i64 ((all : Int) + 1)))
    have HQ5 := Kp.mk (HQ4.out.stay hc5 (fun k hk => (HNE.out k hk).1))
    have HW5 := Kp.mk (HW4.out.stay hc5 (fun e => HX.out.2.2.1 e.symm))
    have HF5 := Kp.mk (HF4.out.other hc5 (fun b cs m e => by rw [e]; exact vb_no hV4 (by decide) cs m))
    have HG5 := Kp.mk (HG4.out.stay hc5 (fun b cs m _ _ hb e => by rw [e] at hb; exact vb_no hV4 (by decide) cs m hb))
    have HC5 := Kp.mk (HC4.out.trans hc5 (fun x _ e => Or.inl e))
    clear hV4 hc5 HQ4 HW4 HF4 HG4 HC4
    go_wp2_with fail
    go_ret
    have hlen : (ms ++ [bs]).length = n0 + 1 := by rw [List.length_append, HLN.out]; rfl
    refine ⟨rfl, _, ⟨⟨A2, c2, fs ++ [g], ?_, ?_, rfl, ?_, ?_⟩, HW5.out, HX.out.2.1, ?_⟩, HC5.out, ?_⟩
    · rw [hlen]; exact HV5.out
    · rw [hlen]; exact HQ5.out
    · rw [List.map_append, H4.out]; simp [HGL.out]
    · exact (HF5.out.imp (fun _ _ h => Or.inl h)).append (Fall.one (HG5.out.imp (fun _ _ h => Or.inr h)))
    · have h1 := HX.out.1
      have h2 := HE.out
      rw [hlen]
      have := HLN.out
      omega
    · rw [hlen]; exact HAT.out
  · skip
    try rw [if_pos (by rfl)]
    go_simp
    go_at_call 34
    refine (cloneB_any hR (by have := hb0.size; omega) (by have := HE.out; omega) HBY.out).mono ?_
    rintro e u1 ⟨g, rfl, hgl, hgn, hg, hb⟩
    have HGL := Kp.mk hgl
    have HG := Kp.mk (hg.imp (Q := fun b => w1.heap.size ≤ b) (fun b _ h => Nat.le_trans hb0.size h))
    have hV := hV.below hb hV.lt
    have hQ := hQ.below hb
    have hF := hF.below hb
    have hC := hC.stay (S := fun _ => False) (.of_below hb) id
    have hb0 := hb0.trans (hb.mono hb0.size)
    clear hR hgl hgn hg hb
    rw [show g.val = .slice g.A g.n g.c from rfl]
    refine hK.out _ _ trivial (fun _ => ?_)
    clear hK K
    try simp only [Act.put, List.setIfInBounds_toArray, List.set_cons_zero, List.set_cons_succ]
    refine wpAnyH_ready (rs := [4, 7]) (by kernel_rfl) (by simp) ?_
    refine AllReadyH.cons rfl (fun K hK => ?_) (AllReadyH.cons rfl (fun K hK => ?_) AllReadyH.nil)
    · skip
      try rw [if_pos (by rfl)]
      have k1 := hV.cell 2 rfl
      go_simp
      refine hK.out _ _ trivial (fun _ => ?_)
      clear hK K
      try simp only [Act.put, List.setIfInBounds_toArray, List.set_cons_zero, List.set_cons_succ]
      clear k1
      refine wpAnyH_ready (rs := [7]) (by kernel_rfl) (by simp) ?_
      refine AllReadyH.cons rfl (fun K hK => ?_) AllReadyH.nil
      try rw [if_pos (by rfl)]
      go_simp
      have hb := below_alloc u1 (.cells #[.slice g.A g.n g.c] 30)
      have HG := Kp.mk (HG.out.below hb)
      have hV := hV.below hb hV.lt
      have hQ := hQ.below hb
      have hF := hF.below hb
      have hC := hC.stay (S := fun _ => False) (.of_below hb) id
      have hb0 := hb0.trans (hb.mono hb0.size)
      have hcl : (u1.alloc (.cells #[.slice g.A g.n g.c] 30)).cell? ⟨u1.heap.size, 0, none⟩ = some g.val := (Vb.new 30 u1 [.slice g.A g.n g.c]).cell 0 rfl
      clear hb
      refine hK.out _ _ trivial (fun _ => ?_)
      clear hK K
      try simp only [Act.put, List.setIfInBounds_toArray, List.set_cons_zero, List.set_cons_succ]
      generalize u1.alloc _ = u2 at *
      generalize u1.heap.size = gl at *
      refine wpAnyH_ready (rs := [8]) (by kernel_rfl) (by simp) ?_
      refine AllReadyH.cons rfl (fun K hK => ?_) AllReadyH.nil
      try rw [if_pos (by rfl)]
      obtain ⟨A2, c2, u3, hrun, hQ3, hC3, hat⟩ := hQ.push 51 hcl (by have := HE.out; have := HLN.out; omega)
      have hap := HX.out.2.2
      have hV3 : Vb 55 u3 s [.int .u16 nx, .int .i64 all, .slice A0 n0 m0, .chan (some c)] := (hC3.block s hV.lt (fun e => hap.2.1 (H3.out.symm.trans e))).trans hV
      have hF3 := hF.other hC3 (fun b cs m e => by obtain ⟨_, cs2, hv⟩ := hQ.at_ b e; exact vb_no hv (by decide) cs m)
      have hG3 := HG.out.stay hC3 (fun b cs m _ _ hb e => by obtain ⟨_, cs2, hv⟩ := hQ.at_ b e; exact vb_no hv (by decide) cs m hb)
      have hW3 := hC.stay hC3 (fun e => hap.2.2 (H3.out.symm.trans e))
      have HC := Kp.mk ((Ch.of_below (S := Kb s c r) hb0).trans hC3 (fun x _ e => Or.inr (.inr (H3.out.symm.trans e))))
      have HAT := Kp.mk (show (Value.slice A2 (n0 + 1) c2).ownBlock = r ∨ ∀ k, (Value.slice A2 (n0 + 1) c2).ownBlock = some k → w1.heap.size ≤ k from hat.imp (fun e => e.trans H3.out) (fun h k hk => Nat.le_trans hb0.size (h k hk)))
      have HNE := Kp.mk (show ∀ k, (Value.slice A2 (n0 + 1) c2).ownBlock = some k → k ≠ s ∧ k ≠ c from fun k hk => by
        obtain ⟨_, cs2, hv⟩ := hQ3.at_ k hk
        exact ⟨fun e => vb_no hV3 (by decide) _ _ (e ▸ hv), fun e => hW3.nocell _ _ _ (e ▸ hv)⟩)
      clear hC3 hat hV hQ hF hC hcl hap hb0 HG
      refine sndOp_append (.tmp 31) (.tmp 34) rfl rfl rfl hrun (hK.out _ _ trivial (fun _ => ?_))
      clear hK K hrun
      try simp only [Act.put, List.setIfInBounds_toArray, List.set_cons_zero, List.set_cons_succ]
      refine takeD (i := 9) (v := .pointer (some ⟨s, 0, none⟩)) (some 36) rfl rfl (by kernel_rfl) (by kernel_rfl) (by kernel_rfl) (fun _ _ _ h => h) (Or.inl ⟨by rfl, ?_⟩) trivial ?_
      · rintro w' _
        go_simp
      try simp only [Act.put, List.setIfInBounds_toArray, List.set_cons_zero, List.set_cons_succ]
      refine takeD (i := 10) (v := .pointer (some ⟨s, 2, none⟩)) (some 37) rfl rfl (by kernel_rfl) (by kernel_rfl) (by kernel_rfl) (fun _ _ _ h => h) (Or.inl ⟨by rfl, ?_⟩) trivial ?_
      · rintro w' _
        go_simp
      try simp only [Act.put, List.setIfInBounds_toArray, List.set_cons_zero, List.set_cons_succ]
      refine wpAnyH_ready (rs := [11]) (by kernel_rfl) (by simp) ?_
      refine AllReadyH.cons rfl (fun K hK => ?_) AllReadyH.nil
      try rw [if_pos (by rfl)]
      have k1 := hV3.cell 2 rfl
      have hf := hV3.free 2
      have hc4 : Ch (fun x => x = s) u3 (u3.setCell ⟨s, 2, none⟩ (.slice A2 (n0 + 1) c2)) := .of_grown (grownBy_set u3 s 2 _)
      have hV4 := hV3.set 2 (.slice A2 (n0 + 1) c2)
      have HQ4 := Kp.mk (hQ3.stay hc4 (fun k hk => (HNE.out k hk).1))
      have HW4 := Kp.mk (hW3.stay hc4 (fun e => HX.out.2.2.1 e.symm))
      have HF4 := Kp.mk (hF3.other hc4 (fun b cs m e => by rw [e]; exact vb_no hV3 (by decide) cs m))
      have HG4 := Kp.mk (hG3.stay hc4 (fun b cs m _ _ hb e => by rw [e] at hb; exact vb_no hV3 (by decide) cs m hb))
      have HC4 := Kp.mk (HC.out.trans hc4 (fun x _ e => Or.inl e))
      clear hV3 hQ3 hW3 hF3 hG3 HC hc4
      go_simp
      refine hK.out _ _ trivial (fun _ => ?_)
      clear hK K k1 hf
      try simp only [Act.put, List.setIfInBounds_toArray, List.set_cons_zero, List.set_cons_succ]
      refine wpAnyH_done (by kernel_rfl) ?_ _
      change Vb _ _ _ [.int .u16 nx, .int .i64 all, .slice A2 (n0 + 1) c2, .chan (some c)] at hV4
      generalize u3.setCell _ _ = u4 at *
      have k1 := hV4.cell 1 rfl
      have hf := hV4.free 1
      have hc5 : Ch (fun x => x = s) u4 (u4.setCell ⟨s, 1, none⟩ (.int .i64 ((all : Int) + 1))) := .of_grown (grownBy_set u4 s 1 _)
      have HV5 := Kp.mk (hV4.set 1 (.int .i64 ((all : Int) + 1)))
      have HQ5 := Kp.mk (HQ4.out.stay hc5 (fun k hk => (HNE.out k hk).1))
      have HW5 := Kp.mk (HW4.out.stay hc5 (fun e => HX.out.2.2.1 e.symm))
      have HF5 := Kp.mk (HF4.out.other hc5 (fun b cs m e => by rw [e]; exact vb_no hV4 (by decide) cs m))
      have HG5 := Kp.mk (HG4.out.stay hc5 (fun b cs m _ _ hb e => by rw [e] at hb; exact vb_no hV4 (by decide) cs m hb))
      have HC5 := Kp.mk (HC4.out.trans hc5 (fun x _ e => Or.inl e))
      clear hV4 hc5 HQ4 HW4 HF4 HG4 HC4
      go_wp2_with fail
      go_ret
      have hlen : (ms ++ [bs]).length = n0 + 1 := by rw [List.length_append, HLN.out]; rfl
      refine ⟨rfl, _, ⟨⟨A2, c2, fs ++ [g], ?_, ?_, rfl, ?_, ?_⟩, HW5.out, HX.out.2.1, ?_⟩, HC5.out, ?_⟩
      · rw [hlen]; exact HV5.out
      · rw [hlen]; exact HQ5.out
      · rw [List.map_append, H4.out]; simp [HGL.out]
      · exact (HF5.out.imp (fun _ _ h => Or.inl h)).append (Fall.one (HG5.out.imp (fun _ _ h => Or.inr h)))
      · have h1 := HX.out.1
        have h2 := HE.out
        rw [hlen]
        have := HLN.out
        omega
      · rw [hlen]; exact HAT.out
    · skip
      try rw [if_pos (by rfl)]
      go_simp
      have hb := below_alloc u1 (.cells #[.slice g.A g.n g.c] 30)
      have HG := Kp.mk (HG.out.below hb)
      have hV := hV.below hb hV.lt
      have hQ := hQ.below hb
      have hF := hF.below hb
      have hC := hC.stay (S := fun _ => False) (.of_below hb) id
      have hb0 := hb0.trans (hb.mono hb0.size)
      have hcl : (u1.alloc (.cells #[.slice g.A g.n g.c] 30)).cell? ⟨u1.heap.size, 0, none⟩ = some g.val := (Vb.new 30 u1 [.slice g.A g.n g.c]).cell 0 rfl
      clear hb
      refine hK.out _ _ trivial (fun _ => ?_)
      clear hK K
      try simp only [Act.put, List.setIfInBounds_toArray, List.set_cons_zero, List.set_cons_succ]
      generalize u1.alloc _ = u2 at *
      generalize u1.heap.size = gl at *
      refine wpAnyH_ready (rs := [4]) (by kernel_rfl) (by simp) ?_
      refine AllReadyH.cons rfl (fun K hK => ?_) AllReadyH.nil
      try rw [if_pos (by rfl)]
      have k1 := hV.cell 2 rfl
      go_simp
      refine hK.out _ _ trivial (fun _ => ?_)
      clear hK K
      try simp only [Act.put, List.setIfInBounds_toArray, List.set_cons_zero, List.set_cons_succ]
      clear k1
      refine wpAnyH_ready (rs := [8]) (by kernel_rfl) (by simp) ?_
      refine AllReadyH.cons rfl (fun K hK => ?_) AllReadyH.nil
      try rw [if_pos (by rfl)]
      obtain ⟨A2, c2, u3, hrun, hQ3, hC3, hat⟩ := hQ.push 51 hcl (by have := HE.out; have := HLN.out; omega)
      have hap := HX.out.2.2
      have hV3 : Vb 55 u3 s [.int .u16 nx, .int .i64 all, .slice A0 n0 m0, .chan (some c)] := (hC3.block s hV.lt (fun e => hap.2.1 (H3.out.symm.trans e))).trans hV
      have hF3 := hF.other hC3 (fun b cs m e => by obtain ⟨_, cs2, hv⟩ := hQ.at_ b e; exact vb_no hv (by decide) cs m)
      have hG3 := HG.out.stay hC3 (fun b cs m _ _ hb e => by obtain ⟨_, cs2, hv⟩ := hQ.at_ b e; exact vb_no hv (by decide) cs m hb)
      have hW3 := hC.stay hC3 (fun e => hap.2.2 (H3.out.symm.trans e))
      have HC := Kp.mk ((Ch.of_below (S := Kb s c r) hb0).trans hC3 (fun x _ e => Or.inr (.inr (H3.out.symm.trans e))))
      have HAT := Kp.mk (show (Value.slice A2 (n0 + 1) c2).ownBlock = r ∨ ∀ k, (Value.slice A2 (n0 + 1) c2).ownBlock = some k → w1.heap.size ≤ k from hat.imp (fun e => e.trans H3.out) (fun h k hk => Nat.le_trans hb0.size (h k hk)))
      have HNE := Kp.mk (show ∀ k, (Value.slice A2 (n0 + 1) c2).ownBlock = some k → k ≠ s ∧ k ≠ c from fun k hk => by
        obtain ⟨_, cs2, hv⟩ := hQ3.at_ k hk
        exact ⟨fun e => vb_no hV3 (by decide) _ _ (e ▸ hv), fun e => hW3.nocell _ _ _ (e ▸ hv)⟩)
      clear hC3 hat hV hQ hF hC hcl hap hb0 HG
      refine sndOp_append (.tmp 31) (.tmp 34) rfl rfl rfl hrun (hK.out _ _ trivial (fun _ => ?_))
      clear hK K hrun
      try simp only [Act.put, List.setIfInBounds_toArray, List.set_cons_zero, List.set_cons_succ]
      refine takeD (i := 9) (v := .pointer (some ⟨s, 0, none⟩)) (some 36) rfl rfl (by kernel_rfl) (by kernel_rfl) (by kernel_rfl) (fun _ _ _ h => h) (Or.inl ⟨by rfl, ?_⟩) trivial ?_
      · rintro w' _
        go_simp
      try simp only [Act.put, List.setIfInBounds_toArray, List.set_cons_zero, List.set_cons_succ]
      refine takeD (i := 10) (v := .pointer (some ⟨s, 2, none⟩)) (some 37) rfl rfl (by kernel_rfl) (by kernel_rfl) (by kernel_rfl) (fun _ _ _ h => h) (Or.inl ⟨by rfl, ?_⟩) trivial ?_
      · rintro w' _
        go_simp
      try simp only [Act.put, List.setIfInBounds_toArray, List.set_cons_zero, List.set_cons_succ]
      refine wpAnyH_ready (rs := [11]) (by kernel_rfl) (by simp) ?_
      refine AllReadyH.cons rfl (fun K hK => ?_) AllReadyH.nil
      try rw [if_pos (by rfl)]
      have k1 := hV3.cell 2 rfl
      have hf := hV3.free 2
      have hc4 : Ch (fun x => x = s) u3 (u3.setCell ⟨s, 2, none⟩ (.slice A2 (n0 + 1) c2)) := .of_grown (grownBy_set u3 s 2 _)
      have hV4 := hV3.set 2 (.slice A2 (n0 + 1) c2)
      have HQ4 := Kp.mk (hQ3.stay hc4 (fun k hk => (HNE.out k hk).1))
      have HW4 := Kp.mk (hW3.stay hc4 (fun e => HX.out.2.2.1 e.symm))
      have HF4 := Kp.mk (hF3.other hc4 (fun b cs m e => by rw [e]; exact vb_no hV3 (by decide) cs m))
      have HG4 := Kp.mk (hG3.stay hc4 (fun b cs m _ _ hb e => by rw [e] at hb; exact vb_no hV3 (by decide) cs m hb))
      have HC4 := Kp.mk (HC.out.trans hc4 (fun x _ e => Or.inl e))
      clear hV3 hQ3 hW3 hF3 hG3 HC hc4
      go_simp
      refine hK.out _ _ trivial (fun _ => ?_)
      clear hK K k1 hf
      try simp only [Act.put, List.setIfInBounds_toArray, List.set_cons_zero, List.set_cons_succ]
      refine wpAnyH_done (by kernel_rfl) ?_ _
      change Vb _ _ _ [.int .u16 nx, .int .i64 all, .slice A2 (n0 + 1) c2, .chan (some c)] at hV4
      generalize u3.setCell _ _ = u4 at *
      have k1 := hV4.cell 1 rfl
      have hf := hV4.free 1
      have hc5 : Ch (fun x => x = s) u4 (u4.setCell ⟨s, 1, none⟩ (.int .i64 ((all : Int) + 1))) := .of_grown (grownBy_set u4 s 1 _)
      have HV5 := Kp.mk (hV4.set 1 (.int .i64 ((all : Int) + 1)))
      have HQ5 := Kp.mk (HQ4.out.stay hc5 (fun k hk => (HNE.out k hk).1))
      have HW5 := Kp.mk (HW4.out.stay hc5 (fun e => HX.out.2.2.1 e.symm))
      have HF5 := Kp.mk (HF4.out.other hc5 (fun b cs m e => by rw [e]; exact vb_no hV4 (by decide) cs m))
      have HG5 := Kp.mk (HG4.out.stay hc5 (fun b cs m _ _ hb e => by rw [e] at hb; exact vb_no hV4 (by decide) cs m hb))
      have HC5 := Kp.mk (HC4.out.trans hc5 (fun x _ e => Or.inl e))
      clear hV4 hc5 HQ4 HW4 HF4 HG4 HC4
      go_wp2_with fail
      go_ret
      have hlen : (ms ++ [bs]).length = n0 + 1 := by rw [List.length_append, HLN.out]; rfl
      refine ⟨rfl, _, ⟨⟨A2, c2, fs ++ [g], ?_, ?_, rfl, ?_, ?_⟩, HW5.out, HX.out.2.1, ?_⟩, HC5.out, ?_⟩
      · rw [hlen]; exact HV5.out
      · rw [hlen]; exact HQ5.out
      · rw [List.map_append, H4.out]; simp [HGL.out]
      · exact (HF5.out.imp (fun _ _ h => Or.inl h)).append (Fall.one (HG5.out.imp (fun _ _ h => Or.inr h)))
      · have h1 := HX.out.1
        have h2 := HE.out
        rw [hlen]
        have := HLN.out
        omega
      · rw [hlen]; exact HAT.out
end
end Go.Proofs.Ytkpjnikbcgngbaa.Oct
