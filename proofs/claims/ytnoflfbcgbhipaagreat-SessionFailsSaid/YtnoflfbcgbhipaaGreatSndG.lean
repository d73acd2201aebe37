import Derived.Test.YtnoflfbcgbhipaaGreatSndE
set_option linter.unusedSimpArgs false
set_option linter.unusedVariables false
set_option maxRecDepth 100000
set_option maxHeartbeats 4000000
namespace Go.Proofs.YtnoflfbcgbhipaaGreat.Oct
open Go.RowKit
theorem agg_item : Agg 203 2 := ⟨⟨_, Tryz.underlying203, rfl⟩, by kernel_rfl⟩
section
variable {P : Nat → Prop} {w w' : World} {s c wd said all : Nat} {nx : Int} {r : Option Nat} {ms : List (List Int)}
theorem Sp.at_ (h : Sp P w s c wd nx said all r ms) {i : Nat} (hi : i < ms.length) : ∃ g off n m f, w.cell? ⟨s, 0, none⟩ = some (.int .u16 nx) ∧ w.cell? ⟨s, 2, none⟩ = some (.slice (some ⟨g, off, none⟩) n m) ∧ w.cell? ⟨g, off + i, none⟩ = some (.slice f.A f.n f.c) ∧ i < n ∧ n ≤ 512 ∧ ms[i]? = some f.l ∧ Fok P w f := by
 obtain ⟨A, m, fs, h1, h2, h3, h4, h5⟩ := h.ex
 have h6 := h.fit.2.2.2.2.1
 clear h
 subst h4
 have hl : i < fs.length := by simpa using hi
 have hj : fs[i]? = some fs[i] := List.getElem?_eq_getElem hl
 obtain ⟨g, off, rfl, hc⟩ := h2.cell hj
 exact ⟨g, off, _, m, fs[i], h1.cell 0 rfl, h1.cell 2 rfl, hc, hi, h6, by rw [List.getElem?_map, hj]; rfl, h5 _ (List.getElem_mem _)⟩
theorem sitem_any (h : Sp P w s c wd nx said all r ms) (i : Nat) (hi : i < ms.length) : Calls Tryz.prog 151 #[.pointer (some ⟨s, 0, none⟩), .int .i64 i] w fun e w' => ∃ f : FrV, e = .returned (.agg #[.int .i64 (Ser.plusP nx i), .slice f.A f.n f.c]) ∧ ms[i]? = some f.l ∧ Fok (fun b => w.heap.size ≤ b) w' f ∧ Below w.heap.size w w' := by
 obtain ⟨g, off, n, m, f, c0, c2, cc, hin, hn5, hms, hf⟩ := h.at_ hi
 have hnx := h.nxb
 have HP : 0 ≤ Ser.plusP nx i ∧ Ser.plusP nx i ≤ 65535 := by unfold Ser.plusP; omega
 have HC := Kp.mk (And.intro c0 (And.intro c2 cc))
 obtain ⟨q, hq⟩ : ∃ q, q = w.heap.size := ⟨_, rfl⟩
 have HQ := Kp.mk hq
 have HLT := Kp.mk (show s < q ∧ g < q from hq ▸ ⟨World.block_lt_of_cell? w _ c0, World.block_lt_of_cell? w _ cc⟩)
 have HI := Kp.mk (show (i : Int) < n ∧ i < n ∧ n ≤ 512 by omega)
 have HM := Kp.mk hms
 have HF := Kp.mk hf
 have HNX := Kp.mk hnx
 have hV0 := Kp.mk (show Vb 203 (w.alloc (.cells #[.int .i64 0, .slice none 0 0] 203)) q [.int .i64 0, .slice none 0 0] from hq ▸ Vb.new 203 w [.int .i64 0, .slice none 0 0])
 have hB0 := Kp.mk (show Below q w (w.alloc (.cells #[.int .i64 0, .slice none 0 0] 203)) from hq ▸ below_alloc w (.cells #[.int .i64 0, .slice none 0 0] 203))
 have hb1 : (i : Int) < n := HI.out.1
 clear h c0 c2 cc hin hn5 hms hf hnx hi hq
 go_enter Tryz.func151, Tryz.ntmps151
 go_upto_region 1 with fail
 rw [show w.heap.size = q from HQ.out.symm]
 refine wp_region_held_drew (S := fun X => Below q w X) (by kernel_rfl) hB0.out.drew (fun hS0 => ?_)
 have hV : Vb 203 (w.alloc (.cells #[.int .i64 0, .slice none 0 0] 203)).drew q [.int .i64 0, .slice none 0 0] := hV0.out
 have hbig := Kp.mk hV.lt
 clear hV0 hB0
 generalize (w.alloc (.cells #[.int .i64 0, .slice none 0 0] 203)).drew = u at *
 refine tD 0 (.pointer (some ⟨s, 0, none⟩)) 5 rfl rfl hS0 ?_ ?_
 ·rintro w' hq
  go_simp
 try simp only [Act.put, zA, zB, zC]
 refine tD 1 (.pointer (some ⟨s, 0, none⟩)) 6 rfl rfl hS0 ?_ ?_
 ·rintro w' hq
  go_simp
 try simp only [Act.put, zA, zB, zC]
 refine tD 2 (.pointer (some ⟨s, 0, none⟩)) 7 rfl rfl hS0 ?_ ?_
 ·rintro w' hq
  go_simp
 try simp only [Act.put, zA, zB, zC]
 refine tD 3 (.int .u16 nx) 8 rfl rfl hS0 ?_ ?_
 ·rintro w' hq
  have c0 := (hq.cell (p := ⟨s, 0, none⟩) HLT.out.1).trans HC.out.1
  go_simp
 try simp only [Act.put, zA, zB, zC]
 refine tD 4 (.int .i64 i) 9 rfl rfl hS0 ?_ ?_
 ·rintro w' hq
  go_simp
 try simp only [Act.put, zA, zB, zC]
 refine tD 7 (.pointer (some ⟨s, 0, none⟩)) 12 rfl rfl hS0 ?_ ?_
 ·rintro w' hq
  go_simp
 try simp only [Act.put, zA, zB, zC]
 refine tD 8 (.pointer (some ⟨s, 0, none⟩)) 13 rfl rfl hS0 ?_ ?_
 ·rintro w' hq
  go_simp
 try simp only [Act.put, zA, zB, zC]
 refine tD 9 (.pointer (some ⟨s, 2, none⟩)) 14 rfl rfl hS0 ?_ ?_
 ·rintro w' hq
  go_simp
 try simp only [Act.put, zA, zB, zC]
 refine tD 10 (.slice (some ⟨g, off, none⟩) n m) 15 rfl rfl hS0 ?_ ?_
 ·rintro w' hq
  have c2 := (hq.cell (p := ⟨s, 2, none⟩) HLT.out.1).trans HC.out.2.1
  go_simp
 try simp only [Act.put, zA, zB, zC]
 refine tD 11 (.int .i64 i) 16 rfl rfl hS0 ?_ ?_
 ·rintro w' hq
  go_simp
 try simp only [Act.put, zA, zB, zC]
 refine tD 12 (.pointer (some ⟨g, off + i, none⟩)) 17 rfl rfl hS0 ?_ ?_
 ·rintro w' hq
  go_simp
 try simp only [Act.put, zA, zB, zC]
 refine tD 13 (.slice f.A f.n f.c) 18 rfl rfl hS0 ?_ ?_
 ·rintro w' hq
  have cc := (hq.cell (p := ⟨g, off + i, none⟩) HLT.out.2).trans HC.out.2.2
  go_simp
 try simp only [Act.put, zA, zB, zC]
 refine rD 5 rfl fun K hK => ?_
 try rw [if_pos (by rfl)]
 go_simp
 refine (Ser.plus_any nx i u HNX.out.1 (by have := HNX.out; omega)).mono ?_
 rintro e u1 ⟨rfl, hu⟩
 subst hu
 refine hK.out _ _ hS0 (fun _ => ?_)
 clear hK K
 try simp only [Act.put, zA, zB, zC]
 have hw : IntKind.i64.wrap (Ser.plusP nx i) = Ser.plusP nx i := by rw [IntKind.wrap_i64]; omega
 refine tD 6 (.int .i64 (Ser.plusP nx i)) 11 rfl rfl hS0 ?_ ?_
 ·rintro w' hq
  go_simp
 try simp only [Act.put, zA, zB, zC]
 refine rD 14 rfl fun K hK => ?_
 try rw [if_pos (by rfl)]
 go_simp
 have hf1 := HF.out.below (by rw [HQ.out] at hS0; exact hS0)
 refine (cloneB_any hf1.rd (Nat.le_refl _) hf1.small hf1.bytes).mono ?_
 rintro e u2 ⟨k, rfl, hkl, hkn, hk, hb⟩
 have hS2 := hS0.trans (hb.mono (Nat.le_of_lt hbig.out))
 have hV2 := hV.below hb hV.lt
 have HK := Kp.mk (hk.imp (Q := fun b => q ≤ b) (fun b _ h => Nat.le_trans (Nat.le_of_lt hbig.out) h))
 have HKL := Kp.mk (hkl)
 have HNE := Kp.mk hbig.out
 have HKB := Kp.mk (hk.imp (Q := fun b => ¬ b = q) (fun b _ h e => by have := hbig.out; omega))
 clear hk hkl hkn hb hV hf1
 refine hK.out _ _ hS2 (fun _ => ?_)
 clear hK K
 try simp only [Act.put, zA, zB, zC]
 rw [show k.val = .slice k.A k.n k.c from rfl]
 refine tD 15 (.agg #[.int .i64 (Ser.plusP nx i), .slice k.A k.n k.c]) 20 rfl rfl hS2 ?_ ?_
 ·rintro w' hq
  go_simp
 try simp only [Act.put, zA, zB, zC]
 refine rD 16 rfl fun K hK => ?_
 try rw [if_pos (by rfl)]
 have hf0 := hV2.free 0
 have hf1 := hV2.free 1
 have d0 := hV2.cell 0 rfl
 have d1 := hV2.cell 1 rfl
 have hV3 := Kp.mk ((hV2.set 0 (.int .i64 (Ser.plusP nx i))).set 1 (.slice k.A k.n k.c))
 have hc3 : Ch (fun x => x = q) u2 ((u2.setCell ⟨q, 0, none⟩ (.int .i64 (Ser.plusP nx i))).setCell ⟨q, 1, none⟩ (.slice k.A k.n k.c)) := (Ch.of_grown (grownBy_set u2 q 0 _)).trans (Ch.of_grown (grownBy_set _ q 1 _)) (fun _ _ e => e)
 have hB3 := hS2.trans (hc3.below (B := q) (fun x e => by omega) (by have := hV2.lt; omega))
 have HK3 := Kp.mk (HKB.out.stay hc3 (fun b cs m _ h _ e => h e))
 have HK3 := Kp.mk (HK.out.stay hc3 (fun b cs m _ h hb e => by rw [e, show u2.heap[q]? = _ from hV2] at hb; have e := Option.some.inj hb; injection e with _ e _; exact absurd e (by decide)))
 clear hV2 hc3
 go_simp
 refine hK.out _ _ hB3 (fun _ => ?_)
 clear hK K
 try simp only [Act.put, zA, zB, zC]
 refine wpAnyH_done (by kernel_rfl) ?_ _
 have HB := Kp.mk hB3
 clear hf0 hf1 d0 d1 hB3 hS2 hS0
 generalize (u2.setCell _ _).setCell _ _ = u9 at *
 have e0 := hV3.out.cell 0 rfl
 have e1 := hV3.out.cell 1 rfl
 go_wp2_with fail
 refine bodyPost_ret (results_one Tryz.results151 _ rfl hV3.out agg_item) rfl ?_
 exact ⟨k, rfl, by rw [HKL.out]; exact HM.out, by have := HK3.out; rw [HQ.out] at this; exact this, by have := HB.out; rw [HQ.out] at this; exact this⟩
def putSE (n left all : Nat) : Int := if n < 1 ∨ 256 < n then 2 else if 20000 ≤ all then 5 else if 512 ≤ left then 7 else 0
theorem putSE_yes {n left all : Nat} (h : putSE n left all = 0) : 1 ≤ n ∧ n ≤ 256 ∧ all < 20000 ∧ left < 512 := by
 unfold putSE at h
 split at h
 ·omega
 ·split at h
  ·omega
  ·split at h <;> omega
theorem sput_no (h : Sp P w s c wd nx said all r ms) {B n m : Nat} {A : Option Addr} {bs : List Int} (hr : Rd .u8 w B A n m bs) {E : Int} (hE : putSE n ms.length all = E) (h0 : E ≠ 0) : Calls Tryz.prog 109 #[.pointer (some ⟨s, 0, none⟩), .slice A n m] w fun e w' => e = .returned (.int .i64 E) ∧ w' = w := by
 have HN := sNone_no h
 have HL := sleft_any h
 obtain ⟨A0, m0, fs, h1, -, -, -, -⟩ := h.ex
 have c1 := h1.cell 1 rfl
 clear h h1
 generalize ms.length = left at *
 unfold putSE at hE
 split at hE
 ·subst hE
  rename_i hn
  by_cases hn1 : (n : Int) < 1
  ·go_enter Tryz.func109, Tryz.ntmps109
   go_wp2_with (first | (refine HN.mono ?_; rintro e w1 ⟨rfl, rfl⟩))
   go_ret
   exact ⟨rfl, rfl⟩
  ·have hn2 : (256 : Int) < n := by omega
   clear hn
   go_enter Tryz.func109, Tryz.ntmps109
   go_wp2_with (first | (refine HN.mono ?_; rintro e w1 ⟨rfl, rfl⟩))
   go_ret
   exact ⟨rfl, rfl⟩
 ·rename_i hn
  have hn1 : ¬ (n : Int) < 1 := by omega
  have hn2 : ¬ (256 : Int) < n := by omega
  split at hE
  ·subst hE
   rename_i ha
   have ha1 : (20000 : Int) ≤ all := by omega
   clear hn ha
   go_enter Tryz.func109, Tryz.ntmps109
   go_wp2_with (first | (refine HN.mono ?_; rintro e w1 ⟨rfl, rfl⟩))
   go_ret
   exact ⟨rfl, rfl⟩
  ·rename_i ha
   have ha1 : ¬ (20000 : Int) ≤ all := by omega
   split at hE
   ·subst hE
    rename_i hl
    have hl1 : (512 : Int) ≤ left := by omega
    have ha2 : decide ((20000 : Int) ≤ all) = false := decide_eq_false ha1
    clear hn ha hl ha1
    go_enter Tryz.func109, Tryz.ntmps109
    go_wp2_with (first | (go_at_call 140; refine HN.mono ?_; rintro e w1 ⟨rfl, rfl⟩) | (go_at_call 93; refine HL.mono ?_; rintro e w1 ⟨rfl, rfl⟩))
    go_ret
    exact ⟨rfl, rfl⟩
   ·exact absurd hE.symm h0
theorem sndOp_append {o : Oper} {a : Act} {K : Act → World → Prop} {Q : Exit → Act → World → Prop} {t : TypeId} {w w' : World} (s x : Operand) (ho : o.op = .call { callee := .builtin .append, args := #[s, x], argTypes := #[t, t] }) {v u y : Value} (hs : a.eval s = v) (hx : a.eval x = u)
  (hrun : (Builtin.append_ #[t, t] o.type #[v, u]).run Tryz.prog w = .ok y w') (h : K (a.put o.dst y) w') : o.wp Tryz.prog a w K Q := by
 unfold Oper.wp execOp
 simp only [ho, resolve, invoke, builtin, Sem.run_bind, Sem.run_pure, Result.andThen_ok, List.map_toArray, List.map_cons, List.map_nil, hs, hx, hrun]
 exact h
theorem vb_no {T T' : TypeId} {w : World} {g : Nat} {cs : List Value} (h : Vb T w g cs) (hne : T ≠ T') : ∀ cs' m, w.heap[g]? ≠ some (.cells cs' T' m) := by
 intro cs' m e
 rw [show w.heap[g]? = _ from h] at e
 have e := Option.some.inj e
 injection e with _ e _
 exact hne e
theorem sput_yes (h : Sp P w s c wd nx said all r ms) {B n m : Nat} {A : Option Addr} {bs : List Int} (hr : Rd .u8 w B A n m bs) (hB : B ≤ w.heap.size) (hby : By bs) (hE : putSE n ms.length all = 0) : Calls Tryz.prog 109 #[.pointer (some ⟨s, 0, none⟩), .slice A n m] w fun e w' => ∃ r', e = .returned (.int .i64 0) ∧ Sp (fun b => P b ∨ w.heap.size ≤ b) w' s c wd nx said (all + 1) r' (ms ++ [bs]) ∧ Ch (Kb s c r) w w' ∧ (r' = r ∨ ∀ k, r' = some k → w.heap.size ≤ k) := by
 have HN := sNone_no h
 have HL := sleft_any h
 have hE := putSE_yes hE
 have HX := Kp.mk (And.intro h.fit (And.intro h.nxb h.apart))
 have HCH := Kp.mk h.ch
 obtain ⟨A0, m0, fs, h1, h2, h3, h4, h5⟩ := h.ex
 have c1 := h1.cell 1 rfl
 have hn1 : ¬ (n : Int) < 1 := by omega
 have hn2 : ¬ (256 : Int) < n := by omega
 have ha1 : decide ((20000 : Int) ≤ all) = false := decide_eq_false (by omega)
 have hl1 : decide ((512 : Int) ≤ ms.length) = false := decide_eq_false (by omega)
 have hw : IntKind.i64.wrap ((all : Int) + 1) = (all : Int) + 1 := by rw [IntKind.wrap_i64]; omega
 have HE := Kp.mk hE
 have H1 := Kp.mk h1
 have H2 := Kp.mk h2
 have H3 := Kp.mk h3
 have H4 := Kp.mk h4
 have H5 := Kp.mk h5
 have HR := Kp.mk hr
 have HBY := Kp.mk hby
 obtain ⟨n0, hn0⟩ : ∃ n0, n0 = ms.length := ⟨_, rfl⟩
 rw [← hn0] at hl1 HL H1 H2 H3
 have HLN := Kp.mk hn0
 clear h h1 h2 h3 h4 h5 hE hr hby hn0
 go_enter Tryz.func109, Tryz.ntmps109
 go_upto_region 9 with (first | (go_at_call 140; refine HN.mono ?_; rintro e w1 ⟨rfl, rfl⟩) | (go_at_call 93; refine HL.mono ?_; rintro e w1 ⟨rfl, rfl⟩))
 clear HN HL hn1 hn2 ha1 hl1 c1
 refine wp_region_held_drew (S := fun _ => True) (by kernel_rfl) trivial (fun hS0 => ?_)
 clear hS0
 have hS0 : (fun _ : World => True) w1 := trivial
 have hb0 : Below w1.heap.size w1 w1.drew := (Below.refl _ _).drew
 have hV := H1.out.below hb0 H1.out.lt
 have hQ := H2.out.below hb0
 have hR := HR.out.below' hb0 hB
 have hF := H5.out.below hb0
 have hC := HCH.out.stay (S := fun _ => False) (.of_below hb0) id
 clear H1 H2 HR H5 HCH
 generalize w1.drew = u at *
 refine tD 0 (.pointer (some ⟨s, 0, none⟩)) 27 rfl rfl trivial (fun _ _ => by go_simp) ?_
 try simp only [Act.put, zA, zB, zC]
 refine tD 1 (.pointer (some ⟨s, 0, none⟩)) 28 rfl rfl trivial (fun _ _ => by go_simp) ?_
 try simp only [Act.put, zA, zB, zC]
 refine tD 2 (.pointer (some ⟨s, 0, none⟩)) 29 rfl rfl trivial (fun _ _ => by go_simp) ?_
 try simp only [Act.put, zA, zB, zC]
 refine tD 3 (.pointer (some ⟨s, 2, none⟩)) 30 rfl rfl trivial (fun _ _ => by go_simp) ?_
 try simp only [Act.put, zA, zB, zC]
 refine tD 5 (.slice A n m) 32 rfl rfl trivial (fun _ _ => by go_simp) ?_
 try simp only [Act.put, zA, zB, zC]
 refine wpAnyH_ready (rs := [4, 6]) (by kernel_rfl) (by simp) ?_
 refine AllReadyH.cons rfl (fun K hK => ?_) (AllReadyH.cons rfl (fun K hK => ?_) AllReadyH.nil)
 ·skip
  try rw [if_pos (by rfl)]
  have k1 := hV.cell 2 rfl
  go_simp
  refine hK.out _ _ trivial (fun _ => ?_)
  clear hK K
  try simp only [Act.put, zA, zB, zC]
  clear k1
  refine rD 6 rfl fun K hK => ?_
  try rw [if_pos (by rfl)]
  go_simp
  go_at_call 157
  refine (cloneB_any hR (by have := hb0.size; omega) (by have := HE.out; omega) HBY.out).mono ?_
  rintro e u1 ⟨g, rfl, hgl, hgn, hg, hb⟩
  have HGL := Kp.mk hgl
  have HG := Kp.mk (hg.imp (Q := fun b => w1.heap.size ≤ b) (fun b _ h => Nat.le_trans hb0.size h))
  have hV := hV.below hb hV.lt
  have hQ := hQ.below hb
  have hF := hF.below hb
  have hC := hC.stay (S := fun _ => False) (.of_below hb) id
  have hb0 := hb0.trans (hb.mono hb0.size)
  clear hR hgl hgn hg hb
  rw [show g.val = .slice g.A g.n g.c from rfl]
  refine hK.out _ _ trivial (fun _ => ?_)
  clear hK K
  try simp only [Act.put, zA, zB, zC]
  refine rD 7 rfl fun K hK => ?_
  try rw [if_pos (by rfl)]
  go_simp
  have hb := below_alloc u1 (.cells #[.slice g.A g.n g.c] 52)
  have HG := Kp.mk (HG.out.below hb)
  have hV := hV.below hb hV.lt
  have hQ := hQ.below hb
  have hF := hF.below hb
  have hC := hC.stay (S := fun _ => False) (.of_below hb) id
  have hb0 := hb0.trans (hb.mono hb0.size)
  have hcl : (u1.alloc (.cells #[.slice g.A g.n g.c] 52)).cell? ⟨u1.heap.size, 0, none⟩ = some g.val := (Vb.new 52 u1 [.slice g.A g.n g.c]).cell 0 rfl
  clear hb
  refine hK.out _ _ trivial (fun _ => ?_)
  clear hK K
  try simp only [Act.put, zA, zB, zC]
  generalize u1.alloc _ = u2 at *
  generalize u1.heap.size = gl at *
  refine rD 8 rfl fun K hK => ?_
  try rw [if_pos (by rfl)]
  obtain ⟨A2, c2, u3, hrun, hQ3, hC3, hat⟩ := hQ.push 145 hcl (by have := HE.out; have := HLN.out; omega)
  have hap := HX.out.2.2
  have hV3 : Vb 191 u3 s [.int .u16 nx, .int .i64 all, .slice A0 n0 m0, .chan (some c)] := (hC3.block s hV.lt (fun e => hap.2.1 (H3.out.symm.trans e))).trans hV
  have hF3 := hF.other hC3 (fun b cs m e => by obtain ⟨_, cs2, hv⟩ := hQ.at_ b e; exact vb_no hv (by decide) cs m)
  have hG3 := HG.out.stay hC3 (fun b cs m _ _ hb e => by obtain ⟨_, cs2, hv⟩ := hQ.at_ b e; exact vb_no hv (by decide) cs m hb)
  have hW3 := hC.stay hC3 (fun e => hap.2.2 (H3.out.symm.trans e))
  have HC := Kp.mk ((Ch.of_below (S := Kb s c r) hb0).trans hC3 (fun x _ e => Or.inr (.inr (H3.out.symm.trans e))))
  have HAT := Kp.mk (show (Value.slice A2 (n0 + 1) c2).ownBlock = r ∨ ∀ k, (Value.slice A2 (n0 + 1) c2).ownBlock = some k → w1.heap.size ≤ k from hat.imp (fun e => e.trans H3.out) (fun h k hk => Nat.le_trans hb0.size (h k hk)))
  have HNE := Kp.mk (show ∀ k, (Value.slice A2 (n0 + 1) c2).ownBlock = some k → k ≠ s ∧ k ≠ c from fun k hk => by
   obtain ⟨_, cs2, hv⟩ := hQ3.at_ k hk
   exact ⟨fun e => vb_no hV3 (by decide) _ _ (e ▸ hv), fun e => hW3.nocell _ _ _ (e ▸ hv)⟩)
  clear hC3 hat hV hQ hF hC hcl hap hb0 HG
  refine sndOp_append (.tmp 31) (.tmp 34) rfl rfl rfl hrun (hK.out _ _ trivial (fun _ => ?_))
  clear hK K hrun
  try simp only [Act.put, zA, zB, zC]
  refine tD 9 (.pointer (some ⟨s, 0, none⟩)) 36 rfl rfl trivial (fun _ _ => by go_simp) ?_
  try simp only [Act.put, zA, zB, zC]
  refine tD 10 (.pointer (some ⟨s, 2, none⟩)) 37 rfl rfl trivial (fun _ _ => by go_simp) ?_
  try simp only [Act.put, zA, zB, zC]
  refine rD 11 rfl fun K hK => ?_
  try rw [if_pos (by rfl)]
  have k1 := hV3.cell 2 rfl
  have hf := hV3.free 2
  have hc4 : Ch (fun x => x = s) u3 (u3.setCell ⟨s, 2, none⟩ (.slice A2 (n0 + 1) c2)) := .of_grown (grownBy_set u3 s 2 _)
  have hV4 := hV3.set 2 (.slice A2 (n0 + 1) c2)
  have HQ4 := Kp.mk (hQ3.stay hc4 (fun k hk => (HNE.out k hk).1))
  have HW4 := Kp.mk (hW3.stay hc4 (fun e => HX.out.2.2.1 e.symm))
  have HF4 := Kp.mk (hF3.other hc4 (fun b cs m e => by rw [e]; exact vb_no hV3 (by decide) cs m))
  have HG4 := Kp.mk (hG3.stay hc4 (fun b cs m _ _ hb e => by rw [e] at hb; exact vb_no hV3 (by decide) cs m hb))
  have HC4 := Kp.mk (HC.out.trans hc4 (fun x _ e => Or.inl e))
  clear hV3 hQ3 hW3 hF3 hG3 HC hc4
  go_simp
  refine hK.out _ _ trivial (fun _ => ?_)
  clear hK K k1 hf
  try simp only [Act.put, zA, zB, zC]
  refine wpAnyH_done (by kernel_rfl) ?_ _
  change Vb _ _ _ [.int .u16 nx, .int .i64 all, .slice A2 (n0 + 1) c2, .chan (some c)] at hV4
  generalize u3.setCell _ _ = u4 at *
  have k1 := hV4.cell 1 rfl
  have hf := hV4.free 1
  have hc5 : Ch (fun x => x = s) u4 (u4.setCell ⟨s, 1, none⟩ (.int .i64 ((all : Int) + 1))) := .of_grown (grownBy_set u4 s 1 _)
  have HV5 := Kp.mk (hV4.set 1 (.int .i64 ((all : Int) + 1)))
  have HQ5 := Kp.mk (HQ4.out.stay hc5 (fun k hk => (HNE.out k hk).1))
  have HW5 := Kp.mk (HW4.out.stay hc5 (fun e => HX.out.2.2.1 e.symm))
  have HF5 := Kp.mk (HF4.out.other hc5 (fun b cs m e => by rw [e]; exact vb_no hV4 (by decide) cs m))
  have HG5 := Kp.mk (HG4.out.stay hc5 (fun b cs m _ _ hb e => by rw [e] at hb; exact vb_no hV4 (by decide) cs m hb))
  have HC5 := Kp.mk (HC4.out.trans hc5 (fun x _ e => Or.inl e))
  clear hV4 hc5 HQ4 HW4 HF4 HG4 HC4
  go_wp2_with fail
  go_ret
  have hlen : (ms ++ [bs]).length = n0 + 1 := by rw [List.length_append, HLN.out]; rfl
  refine ⟨rfl, _, ⟨⟨A2, c2, fs ++ [g], ?_, ?_, rfl, ?_, ?_⟩, HW5.out, HX.out.2.1, ?_⟩, HC5.out, ?_⟩
  ·rw [hlen]; exact HV5.out
  ·rw [hlen]; exact HQ5.out
  ·rw [List.map_append, H4.out]; simp [HGL.out]
  ·exact (HF5.out.imp (fun _ _ h => Or.inl h)).append (Fall.one (HG5.out.imp (fun _ _ h => Or.inr h)))
  ·have h1 := HX.out.1
   have h2 := HE.out
   rw [hlen]
   have := HLN.out
   omega
  ·rw [hlen]; exact HAT.out
 ·skip
  try rw [if_pos (by rfl)]
  go_simp
  go_at_call 157
  refine (cloneB_any hR (by have := hb0.size; omega) (by have := HE.out; omega) HBY.out).mono ?_
  rintro e u1 ⟨g, rfl, hgl, hgn, hg, hb⟩
  have HGL := Kp.mk hgl
  have HG := Kp.mk (hg.imp (Q := fun b => w1.heap.size ≤ b) (fun b _ h => Nat.le_trans hb0.size h))
  have hV := hV.below hb hV.lt
  have hQ := hQ.below hb
  have hF := hF.below hb
  have hC := hC.stay (S := fun _ => False) (.of_below hb) id
  have hb0 := hb0.trans (hb.mono hb0.size)
  clear hR hgl hgn hg hb
  rw [show g.val = .slice g.A g.n g.c from rfl]
  refine hK.out _ _ trivial (fun _ => ?_)
  clear hK K
  try simp only [Act.put, zA, zB, zC]
  refine wpAnyH_ready (rs := [4, 7]) (by kernel_rfl) (by simp) ?_
  refine AllReadyH.cons rfl (fun K hK => ?_) (AllReadyH.cons rfl (fun K hK => ?_) AllReadyH.nil)
  ·skip
   try rw [if_pos (by rfl)]
   have k1 := hV.cell 2 rfl
   go_simp
   refine hK.out _ _ trivial (fun _ => ?_)
   clear hK K
   try simp only [Act.put, zA, zB, zC]
   clear k1
   refine rD 7 rfl fun K hK => ?_
   try rw [if_pos (by rfl)]
   go_simp
   have hb := below_alloc u1 (.cells #[.slice g.A g.n g.c] 52)
   have HG := Kp.mk (HG.out.below hb)
   have hV := hV.below hb hV.lt
   have hQ := hQ.below hb
   have hF := hF.below hb
   have hC := hC.stay (S := fun _ => False) (.of_below hb) id
   have hb0 := hb0.trans (hb.mono hb0.size)
   have hcl : (u1.alloc (.cells #[.slice g.A g.n g.c] 52)).cell? ⟨u1.heap.size, 0, none⟩ = some g.val := (Vb.new 52 u1 [.slice g.A g.n g.c]).cell 0 rfl
   clear hb
   refine hK.out _ _ trivial (fun _ => ?_)
   clear hK K
   try simp only [Act.put, zA, zB, zC]
   generalize u1.alloc _ = u2 at *
   generalize u1.heap.size = gl at *
   refine rD 8 rfl fun K hK => ?_
   try rw [if_pos (by rfl)]
   obtain ⟨A2, c2, u3, hrun, hQ3, hC3, hat⟩ := hQ.push 145 hcl (by have := HE.out; have := HLN.out; omega)
   have hap := HX.out.2.2
   have hV3 : Vb 191 u3 s [.int .u16 nx, .int .i64 all, .slice A0 n0 m0, .chan (some c)] := (hC3.block s hV.lt (fun e => hap.2.1 (H3.out.symm.trans e))).trans hV
   have hF3 := hF.other hC3 (fun b cs m e => by obtain ⟨_, cs2, hv⟩ := hQ.at_ b e; exact vb_no hv (by decide) cs m)
   have hG3 := HG.out.stay hC3 (fun b cs m _ _ hb e => by obtain ⟨_, cs2, hv⟩ := hQ.at_ b e; exact vb_no hv (by decide) cs m hb)
   have hW3 := hC.stay hC3 (fun e => hap.2.2 (H3.out.symm.trans e))
   have HC := Kp.mk ((Ch.of_below (S := Kb s c r) hb0).trans hC3 (fun x _ e => Or.inr (.inr (H3.out.symm.trans e))))
   have HAT := Kp.mk (show (Value.slice A2 (n0 + 1) c2).ownBlock = r ∨ ∀ k, (Value.slice A2 (n0 + 1) c2).ownBlock = some k → w1.heap.size ≤ k from hat.imp (fun e => e.trans H3.out) (fun h k hk => Nat.le_trans hb0.size (h k hk)))
   have HNE := Kp.mk (show ∀ k, (Value.slice A2 (n0 + 1) c2).ownBlock = some k → k ≠ s ∧ k ≠ c from fun k hk => by
    obtain ⟨_, cs2, hv⟩ := hQ3.at_ k hk
    exact ⟨fun e => vb_no hV3 (by decide) _ _ (e ▸ hv), fun e => hW3.nocell _ _ _ (e ▸ hv)⟩)
   clear hC3 hat hV hQ hF hC hcl hap hb0 HG
   refine sndOp_append (.tmp 31) (.tmp 34) rfl rfl rfl hrun (hK.out _ _ trivial (fun _ => ?_))
   clear hK K hrun
   try simp only [Act.put, zA, zB, zC]
   refine tD 9 (.pointer (some ⟨s, 0, none⟩)) 36 rfl rfl trivial (fun _ _ => by go_simp) ?_
   try simp only [Act.put, zA, zB, zC]
   refine tD 10 (.pointer (some ⟨s, 2, none⟩)) 37 rfl rfl trivial (fun _ _ => by go_simp) ?_
   try simp only [Act.put, zA, zB, zC]
   refine rD 11 rfl fun K hK => ?_
   try rw [if_pos (by rfl)]
   have k1 := hV3.cell 2 rfl
   have hf := hV3.free 2
   have hc4 : Ch (fun x => x = s) u3 (u3.setCell ⟨s, 2, none⟩ (.slice A2 (n0 + 1) c2)) := .of_grown (grownBy_set u3 s 2 _)
   have hV4 := hV3.set 2 (.slice A2 (n0 + 1) c2)
   have HQ4 := Kp.mk (hQ3.stay hc4 (fun k hk => (HNE.out k hk).1))
   have HW4 := Kp.mk (hW3.stay hc4 (fun e => HX.out.2.2.1 e.symm))
   have HF4 := Kp.mk (hF3.other hc4 (fun b cs m e => by rw [e]; exact vb_no hV3 (by decide) cs m))
   have HG4 := Kp.mk (hG3.stay hc4 (fun b cs m _ _ hb e => by rw [e] at hb; exact vb_no hV3 (by decide) cs m hb))
   have HC4 := Kp.mk (HC.out.trans hc4 (fun x _ e => Or.inl e))
   clear hV3 hQ3 hW3 hF3 hG3 HC hc4
   go_simp
   refine hK.out _ _ trivial (fun _ => ?_)
   clear hK K k1 hf
   try simp only [Act.put, zA, zB, zC]
   refine wpAnyH_done (by kernel_rfl) ?_ _
   change Vb _ _ _ [.int .u16 nx, .int .i64 all, .slice A2 (n0 + 1) c2, .chan (some c)] at hV4
   generalize u3.setCell _ _ = u4 at *
   have k1 := hV4.cell 1 rfl
   have hf := hV4.free 1
   have hc5 : Ch (fun x => x = s) u4 (u4.setCell ⟨s, 1, none⟩ (.int .i64 ((all : Int) + 1))) := .of_grown (grownBy_set u4 s 1 _)
   have HV5 := Kp.mk (hV4.set 1 (.int .i64 ((all : Int) + 1)))
   have HQ5 := Kp.mk (HQ4.out.stay hc5 (fun k hk => (HNE.out k hk).1))
   have HW5 := Kp.mk (HW4.out.stay hc5 (fun e => HX.out.2.2.1 e.symm))
   have HF5 := Kp.mk (HF4.out.other hc5 (fun b cs m e => by rw [e]; exact vb_no hV4 (by decide) cs m))
   have HG5 := Kp.mk (HG4.out.stay hc5 (fun b cs m _ _ hb e => by rw [e] at hb; exact vb_no hV4 (by decide) cs m hb))
   have HC5 := Kp.mk (HC4.out.trans hc5 (fun x _ e => Or.inl e))
   clear hV4 hc5 HQ4 HW4 HF4 HG4 HC4
   go_wp2_with fail
   go_ret
   have hlen : (ms ++ [bs]).length = n0 + 1 := by rw [List.length_append, HLN.out]; rfl
   refine ⟨rfl, _, ⟨⟨A2, c2, fs ++ [g], ?_, ?_, rfl, ?_, ?_⟩, HW5.out, HX.out.2.1, ?_⟩, HC5.out, ?_⟩
   ·rw [hlen]; exact HV5.out
   ·rw [hlen]; exact HQ5.out
   ·rw [List.map_append, H4.out]; simp [HGL.out]
   ·exact (HF5.out.imp (fun _ _ h => Or.inl h)).append (Fall.one (HG5.out.imp (fun _ _ h => Or.inr h)))
   ·have h1 := HX.out.1
    have h2 := HE.out
    rw [hlen]
    have := HLN.out
    omega
   ·rw [hlen]; exact HAT.out
  ·skip
   try rw [if_pos (by rfl)]
   go_simp
   have hb := below_alloc u1 (.cells #[.slice g.A g.n g.c] 52)
   have HG := Kp.mk (HG.out.below hb)
   have hV := hV.below hb hV.lt
   have hQ := hQ.below hb
   have hF := hF.below hb
   have hC := hC.stay (S := fun _ => False) (.of_below hb) id
   have hb0 := hb0.trans (hb.mono hb0.size)
   have hcl : (u1.alloc (.cells #[.slice g.A g.n g.c] 52)).cell? ⟨u1.heap.size, 0, none⟩ = some g.val := (Vb.new 52 u1 [.slice g.A g.n g.c]).cell 0 rfl
   clear hb
   refine hK.out _ _ trivial (fun _ => ?_)
   clear hK K
   try simp only [Act.put, zA, zB, zC]
   generalize u1.alloc _ = u2 at *
   generalize u1.heap.size = gl at *
   refine rD 4 rfl fun K hK => ?_
   try rw [if_pos (by rfl)]
   have k1 := hV.cell 2 rfl
   go_simp
   refine hK.out _ _ trivial (fun _ => ?_)
   clear hK K
   try simp only [Act.put, zA, zB, zC]
   clear k1
   refine rD 8 rfl fun K hK => ?_
   try rw [if_pos (by rfl)]
   obtain ⟨A2, c2, u3, hrun, hQ3, hC3, hat⟩ := hQ.push 145 hcl (by have := HE.out; have := HLN.out; omega)
   have hap := HX.out.2.2
   have hV3 : Vb 191 u3 s [.int .u16 nx, .int .i64 all, .slice A0 n0 m0, .chan (some c)] := (hC3.block s hV.lt (fun e => hap.2.1 (H3.out.symm.trans e))).trans hV
   have hF3 := hF.other hC3 (fun b cs m e => by obtain ⟨_, cs2, hv⟩ := hQ.at_ b e; exact vb_no hv (by decide) cs m)
   have hG3 := HG.out.stay hC3 (fun b cs m _ _ hb e => by obtain ⟨_, cs2, hv⟩ := hQ.at_ b e; exact vb_no hv (by decide) cs m hb)
   have hW3 := hC.stay hC3 (fun e => hap.2.2 (H3.out.symm.trans e))
   have HC := Kp.mk ((Ch.of_below (S := Kb s c r) hb0).trans hC3 (fun x _ e => Or.inr (.inr (H3.out.symm.trans e))))
   have HAT := Kp.mk (show (Value.slice A2 (n0 + 1) c2).ownBlock = r ∨ ∀ k, (Value.slice A2 (n0 + 1) c2).ownBlock = some k → w1.heap.size ≤ k from hat.imp (fun e => e.trans H3.out) (fun h k hk => Nat.le_trans hb0.size (h k hk)))
   have HNE := Kp.mk (show ∀ k, (Value.slice A2 (n0 + 1) c2).ownBlock = some k → k ≠ s ∧ k ≠ c from fun k hk => by
    obtain ⟨_, cs2, hv⟩ := hQ3.at_ k hk
    exact ⟨fun e => vb_no hV3 (by decide) _ _ (e ▸ hv), fun e => hW3.nocell _ _ _ (e ▸ hv)⟩)
   clear hC3 hat hV hQ hF hC hcl hap hb0 HG
   refine sndOp_append (.tmp 31) (.tmp 34) rfl rfl rfl hrun (hK.out _ _ trivial (fun _ => ?_))
   clear hK K hrun
   try simp only [Act.put, zA, zB, zC]
   refine tD 9 (.pointer (some ⟨s, 0, none⟩)) 36 rfl rfl trivial (fun _ _ => by go_simp) ?_
   try simp only [Act.put, zA, zB, zC]
   refine tD 10 (.pointer (some ⟨s, 2, none⟩)) 37 rfl rfl trivial (fun _ _ => by go_simp) ?_
   try simp only [Act.put, zA, zB, zC]
   refine rD 11 rfl fun K hK => ?_
   try rw [if_pos (by rfl)]
   have k1 := hV3.cell 2 rfl
   have hf := hV3.free 2
   have hc4 : Ch (fun x => x = s) u3 (u3.setCell ⟨s, 2, none⟩ (.slice A2 (n0 + 1) c2)) := .of_grown (grownBy_set u3 s 2 _)
   have hV4 := hV3.set 2 (.slice A2 (n0 + 1) c2)
   have HQ4 := Kp.mk (hQ3.stay hc4 (fun k hk => (HNE.out k hk).1))
   have HW4 := Kp.mk (hW3.stay hc4 (fun e => HX.out.2.2.1 e.symm))
   have HF4 := Kp.mk (hF3.other hc4 (fun b cs m e => by rw [e]; exact vb_no hV3 (by decide) cs m))
   have HG4 := Kp.mk (hG3.stay hc4 (fun b cs m _ _ hb e => by rw [e] at hb; exact vb_no hV3 (by decide) cs m hb))
   have HC4 := Kp.mk (HC.out.trans hc4 (fun x _ e => Or.inl e))
   clear hV3 hQ3 hW3 hF3 hG3 HC hc4
   go_simp
   refine hK.out _ _ trivial (fun _ => ?_)
   clear hK K k1 hf
   try simp only [Act.put, zA, zB, zC]
   refine wpAnyH_done (by kernel_rfl) ?_ _
   change Vb _ _ _ [.int .u16 nx, .int .i64 all, .slice A2 (n0 + 1) c2, .chan (some c)] at hV4
   generalize u3.setCell _ _ = u4 at *
   have k1 := hV4.cell 1 rfl
   have hf := hV4.free 1
   have hc5 : Ch (fun x => x = s) u4 (u4.setCell ⟨s, 1, none⟩ (.int .i64 ((all : Int) + 1))) := .of_grown (grownBy_set u4 s 1 _)
   have HV5 := Kp.mk (hV4.set 1 (.int .i64 ((all : Int) + 1)))
   have HQ5 := Kp.mk (HQ4.out.stay hc5 (fun k hk => (HNE.out k hk).1))
   have HW5 := Kp.mk (HW4.out.stay hc5 (fun e => HX.out.2.2.1 e.symm))
   have HF5 := Kp.mk (HF4.out.other hc5 (fun b cs m e => by rw [e]; exact vb_no hV4 (by decide) cs m))
   have HG5 := Kp.mk (HG4.out.stay hc5 (fun b cs m _ _ hb e => by rw [e] at hb; exact vb_no hV4 (by decide) cs m hb))
   have HC5 := Kp.mk (HC4.out.trans hc5 (fun x _ e => Or.inl e))
   clear hV4 hc5 HQ4 HW4 HF4 HG4 HC4
   go_wp2_with fail
   go_ret
   have hlen : (ms ++ [bs]).length = n0 + 1 := by rw [List.length_append, HLN.out]; rfl
   refine ⟨rfl, _, ⟨⟨A2, c2, fs ++ [g], ?_, ?_, rfl, ?_, ?_⟩, HW5.out, HX.out.2.1, ?_⟩, HC5.out, ?_⟩
   ·rw [hlen]; exact HV5.out
   ·rw [hlen]; exact HQ5.out
   ·rw [List.map_append, H4.out]; simp [HGL.out]
   ·exact (HF5.out.imp (fun _ _ h => Or.inl h)).append (Fall.one (HG5.out.imp (fun _ _ h => Or.inr h)))
   ·have h1 := HX.out.1
    have h2 := HE.out
    rw [hlen]
    have := HLN.out
    omega
   ·rw [hlen]; exact HAT.out
end
theorem wrap_succ {i : Nat} (h : i ≤ 1000000) : wrap64 ((i : Int) + 1) = ((i + 1 : Nat) : Int) := by unfold wrap64; omega
theorem meas_lt {L i : Nat} (h : i < L) (hs : i ≤ 1000000) : L - (intOf (.int .i64 (wrap64 ((i : Int) + 1)))).toNat < L - (intOf (.int .i64 (i : Int))).toNat := by
 rw [wrap_succ hs]
 simp [intOf]
 omega
section
variable {P : Nat → Prop} {w w' : World} {s c wd said all : Nat} {nx : Int} {r : Option Nat} {ms : List (List Int)}
theorem Sp.took (h : Sp P w s c wd nx said all r ms) {k : Nat} (hw : Wn w' c wd k) (hc : Ch (fun x => x = c) w w') (h1 : k ≤ wd) (h2 : k ≤ ms.length) : Sp P w' s c wd nx k all r ms := by
 have hap := h.apart
 have hch := h.ch
 obtain ⟨A, m, fs, g1, g2, g3, g4, g5⟩ := h.ex
 exact ⟨⟨A, m, fs, (hc.block s g1.lt hap.1).trans g1, g2.stay hc (fun k e h => hap.2.2 (g3.symm.trans (by rw [← h]; exact e))), g3, g4, g5.other hc (fun b cs m e => by rw [e]; exact hch.nocell cs _ m)⟩, hw, h.nxb, by have := h.fit; omega⟩
theorem item_push {base : Nat} {v : Value} {n : Nat} {its : List (Int × FrV)} {x : Int × FrV} (ho : Om w base v n its) (hsz : n ≤ 1000000) (hb : base ≤ w.heap.size) :
  ∃ A' c' w', (Builtin.append_ #[159, 159] 159 #[v, .slice (some ⟨w.heap.size, 0, none⟩) 1 1]).run Tryz.prog (w.alloc (.cells #[.int .i64 x.1, .slice x.2.A x.2.n x.2.c] 203)) = .ok (.slice A' (n + 1) c') w' ∧ Om w' base (.slice A' (n + 1) c') (n + 1) (its ++ [x]) ∧ Ch (fun k => v.ownBlock = some k) w w' := by
 have hv := Vb.new 203 w [.int .i64 x.1, .slice x.2.A x.2.n x.2.c]
 have hb1 := below_alloc w (.cells #[.int .i64 x.1, .slice x.2.A x.2.n x.2.c] 203)
 obtain ⟨A', c', w', hrun, h1, h2⟩ := run_appendI (x := x) 159 (ho.below hb1) (hv.cell 0 rfl) (hv.cell 1 rfl) hsz (Nat.le_trans hb hb1.size)
 exact ⟨A', c', w', hrun, h1, (Ch.of_below hb1).trans h2 (fun _ _ e => e)⟩
theorem sfresh_any (h : Sp P w s c wd nx said all r ms) : Calls Tryz.prog 103 #[.pointer (some ⟨s, 0, none⟩)] w fun e w' => ∃ A k m its, e = .returned (.slice A k m) ∧ said + k = min wd ms.length ∧ Om w' w.heap.size (.slice A k m) k its ∧ Tell (fun b => w.heap.size ≤ b) w' nx said ms its ∧ Sp P w' s c wd nx (said + k) all r ms ∧ Ch (fun x => x = c) w w' := by
 have HN := sNone_no h
 have HS := ssaid_any h
 have HFT := Kp.mk h.fit
 have hc0 := Kp.mk (show c < w.heap.size from h.ch.lt)
 have hkl := Kp.mk h.lt
 go_enter Tryz.func103, Tryz.ntmps103
 go_wp2_with (first | (go_at_call 140; refine HN.mono ?_; rintro e w1 ⟨rfl, rfl⟩) | (go_at_call 149; refine HS.mono ?_; rintro e w1 ⟨rfl, rfl⟩))
 clear HN HS
 go_loopw [3, 4] (fun s3 s4 wr => ∃ (j : Nat) (its : List (Int × FrV)), s4 = .int .i64 ((said + j : Nat) : Int) ∧ Sp P wr s c wd nx (said + j) all r ms ∧ Om wr w1.heap.size s3 j its ∧ Tell (fun b => w1.heap.size ≤ b) wr nx said ms its ∧ Ch (fun k => k = c) w1 wr) (fun _ s4 _ => ms.length - (intOf s4).toNat)
 case atStart => exact ⟨0, [], rfl, h, Om.nil0 _ _, Tell.nil0 _ _ _ _ _, Ch.refl _ _⟩
 case round =>
  clear h
  obtain ⟨j, its, rfl, hS, hO, hT, hC⟩ := hrel
  obtain ⟨A0, m0, rfl, -⟩ := hO.form
  have hF := hS.fit
  have HL := sleft_any hS
  obtain ⟨L, hL⟩ : ∃ L, L = ms.length := ⟨_, rfl⟩
  obtain ⟨i, hi⟩ : ∃ i, i = said + j := ⟨_, rfl⟩
  have HI := Kp.mk (And.intro hi hL)
  rw [← hL] at HL hF
  rw [← hi] at hS hF ⊢
  have HB := Kp.mk hF
  obtain ⟨A1, m1, fs1, v1, -, -, -, -⟩ := hS.ex
  have c3 := v1.cell 3 rfl
  have HTK := hS.ch
  clear hL hi v1 hF
  by_cases hlt : (i : Int) < L
  ·by_cases hwd : i < wd
   ·have hy := take_yes HTK hwd
    have hK1 := Kp.mk (And.intro hlt hwd)
    have hO := Kp.mk hO
    have hT := Kp.mk hT
    have hS := Kp.mk hS
    have hC := Kp.mk hC
    clear hwd
    go_wp2_with (first | (go_at_call 93; refine HL.mono ?_; rintro e w2 ⟨rfl, rfl⟩))
    refine hy.mono ?_
    rintro e w3 ⟨rfl, hw3, hc3⟩
    have hS3 := hS.out.took hw3 hc3 (by have := hK1.out; omega) (by have := hK1.out; have := HI.out; omega)
    have hO3 := Kp.mk (hO.out.stay hc3 (fun b hb e => by have := (hO.out.lt b hb).1; have := hc0.out; omega))
    have hT3 := Kp.mk (hT.out.other hc3 (fun b cs m e => by rw [e]; exact hS.out.ch.nocell cs _ m))
    have hC3 := Kp.mk (hC.out.trans hc3 (fun _ _ e => e))
    clear hO hT hC hS hw3 hc3 hy HL c3 HTK hlt
    go_wp2_with fail
    refine (sitem_any hS3 i (by have := hK1.out; have := HI.out; omega)).mono ?_
    rintro e w4 ⟨f, rfl, hf1, hf2, hb4⟩
    have hS4 := hS3.below hb4
    have hO4 := hO3.out.below hb4
    have hT4 := hT3.out.below hb4
    have hC4 := hC3.out.trans (Ch.of_below (S := fun k => k = c) hb4) (fun _ _ e => e)
    have hf2 := hf2.imp (Q := fun b => w1.heap.size ≤ b) (fun b _ h => Nat.le_trans hC3.out.size h)
    obtain ⟨A5, m5, w5, hrun, hO5, hC5⟩ := item_push (x := (Ser.plusP nx i, f)) hO4 (by have := HB.out; have := HI.out; omega) hC4.size
    have hlen := hO4.len
    have hT5 := Kp.mk ((hT4.push (x := (Ser.plusP nx i, f)) (by rw [hlen, HI.out.1]) (by rw [hlen, ← HI.out.1]; exact hf1) hf2).other hC5 (fun b cs m e => items_nocell hO4 b cs m _ (by decide) e))
    have hS5 := Kp.mk (hS4.stay hC5 (fun k hk e => by
     have h1 := hO4.lt k e
     have h2 := hkl.out k hk
     omega) (fun b cs m _ _ hb e => items_nocell hO4 b cs m _ (by decide) e hb))
    have hC6 := Kp.mk (hC4.trans hC5 (fun k hk e => absurd (hO4.lt k e).1 (by omega)))
    have hO5 := Kp.mk hO5
    clear hO4 hT4 hC4 hf1 hf2 hC5 hlen hS3 hS4 hb4 hO3 hT3 hC3
    go_wp2_with (at_builtin; refine Lib.wpList_append_run _ rfl _ _ _ _ rfl _ _ rfl rfl _ _ hrun ?_)
    go_roundw
    case rel => exact ⟨j + 1, its ++ [(Ser.plusP nx i, f)], by have h1 := HB.out; have h2 := HI.out; have h3 := hK1.out; rw [show said + (j + 1) = i + 1 by omega]; exact congrArg (Value.int .i64) (wrap_succ (by omega)), by have := hS5.out; rw [HI.out.1] at this; exact this, hO5.out, hT5.out, hC6.out⟩
    case measure => exact meas_lt (by have := hK1.out; have := HI.out; omega) (by have := HB.out; have := hK1.out; omega)
   ·have hn := take_no HTK (by omega)
    have HE := Kp.mk (show said + j = min wd ms.length by have := HI.out; have := HB.out; omega)
    have hO := Kp.mk hO
    have hT := Kp.mk hT
    have hS := Kp.mk hS
    have hC := Kp.mk hC
    clear hwd
    go_wp2_with (first | (go_at_call 93; refine HL.mono ?_; rintro e w2 ⟨rfl, rfl⟩) | (go_at_call 150; refine hn.mono ?_; rintro e w2 ⟨rfl, rfl⟩))
    go_ret
    exact ⟨A0, j, m0, its, rfl, HE.out, hO.out, hT.out, by rw [← HI.out.1]; exact hS.out, hC.out⟩
  ·have HE := Kp.mk (show said + j = min wd ms.length by have := HI.out; have := HB.out; omega)
   have hO := Kp.mk hO
   have hT := Kp.mk hT
   have hS := Kp.mk hS
   have hC := Kp.mk hC
   clear HTK c3
   go_wp2_with (first | (go_at_call 93; refine HL.mono ?_; rintro e w2 ⟨rfl, rfl⟩))
   go_ret
   exact ⟨A0, j, m0, its, rfl, HE.out, hO.out, hT.out, by rw [← HI.out.1]; exact hS.out, hC.out⟩
theorem sagain_any (h : Sp P w s c wd nx said all r ms) : Calls Tryz.prog 107 #[.pointer (some ⟨s, 0, none⟩)] w fun e w' => ∃ A m its, e = .returned (.slice A said m) ∧ Om w' w.heap.size (.slice A said m) said its ∧ Tell (fun b => w.heap.size ≤ b) w' nx 0 ms its ∧ Below w.heap.size w w' := by
 have HS := ssaid_any h
 have HFT := Kp.mk h.fit
 go_enter Tryz.func107, Tryz.ntmps107
 go_wp2_with (first | (go_at_call 149; refine HS.mono ?_; rintro e w1 ⟨rfl, rfl⟩))
 clear HS
 have H := Kp.mk h
 clear h
 go_loopw [3, 4, 7] (fun s3 _ s7 wr => ∃ (j : Nat) (its : List (Int × FrV)), s7 = .int .i64 (j : Int) ∧ j ≤ said ∧ Om wr w1.heap.size s3 j its ∧ Tell (fun b => w1.heap.size ≤ b) wr nx 0 ms its ∧ Below w1.heap.size w1 wr) (fun _ _ s7 _ => said - (intOf s7).toNat)
 case atStart => exact ⟨0, [], rfl, Nat.zero_le _, Om.nil0 _ _, Tell.nil0 _ _ _ _ _, Below.refl _ _⟩
 case round =>
  obtain ⟨j, its, rfl, hj, hO, hT, hB⟩ := hrel
  obtain ⟨A0, m0, rfl, -⟩ := hO.form
  by_cases hlt : (j : Int) < said
  ·have hS3 := H.out.below hB
   have hK1 := Kp.mk hlt
   have hO3 := Kp.mk hO
   have hT3 := Kp.mk hT
   have hB3 := Kp.mk hB
   clear hO hT hB
   go_wp2_with fail
   refine (sitem_any hS3 j (by have := hK1.out; have := HFT.out; omega)).mono ?_
   rintro e w4 ⟨f, rfl, hf1, hf2, hb4⟩
   clear hlt
   have hO4 := hO3.out.below hb4
   have hT4 := hT3.out.below hb4
   have hB4 := hB3.out.trans (hb4.mono hB3.out.size)
   have hf2 := hf2.imp (Q := fun b => w1.heap.size ≤ b) (fun b _ h => Nat.le_trans hB3.out.size h)
   obtain ⟨A5, m5, w5, hrun, hO5, hC5⟩ := item_push (x := (Ser.plusP nx j, f)) hO4 (by have := hK1.out; have := HFT.out; omega) hB4.size
   have hlen := hO4.len
   have hT5 := Kp.mk ((hT4.push (x := (Ser.plusP nx j, f)) (by rw [hlen, Nat.zero_add]) (by rw [hlen, Nat.zero_add]; exact hf1) hf2).other hC5 (fun b cs m e => items_nocell hO4 b cs m _ (by decide) e))
   have hB6 := Kp.mk (hB4.trans (hC5.below (B := w1.heap.size) (fun k e => (hO4.lt k e).1) hB4.size))
   have hO5 := Kp.mk hO5
   clear hO4 hT4 hB4 hf1 hf2 hC5 hlen hS3 hb4 hO3 hT3 hB3
   go_wp2_with (at_builtin; refine Lib.wpList_append_run _ rfl _ _ _ _ rfl _ _ rfl rfl _ _ hrun ?_)
   go_roundw
   case rel => exact ⟨j + 1, its ++ [(Ser.plusP nx j, f)], by have h1 := HFT.out; have h3 := hK1.out; exact congrArg (Value.int .i64) (wrap_succ (by omega)), by have := hK1.out; omega, hO5.out, hT5.out, hB6.out⟩
   case measure => exact meas_lt (by have := hK1.out; omega) (by have := HFT.out; have := hK1.out; omega)
  ·obtain rfl : j = said := by omega
   have hO3 := Kp.mk hO
   have hT3 := Kp.mk hT
   have hB3 := Kp.mk hB
   clear hO hT hB
   go_wp2_with fail
   go_ret
   exact ⟨A0, m0, rfl, its, hO3.out, hT3.out, hB3.out⟩
end
end Go.Proofs.YtnoflfbcgbhipaaGreat.Oct
