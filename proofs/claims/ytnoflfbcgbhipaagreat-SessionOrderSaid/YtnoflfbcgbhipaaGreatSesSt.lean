import Derived.Test.YtnoflfbcgbhipaaGreatSesCp
import Derived.Test.YtnoflfbcgbhipaaGreatBring
set_option linter.unusedSimpArgs false
set_option linter.unusedVariables false
set_option maxRecDepth 100000
set_option maxHeartbeats 20000000
namespace Go.Proofs.YtnoflfbcgbhipaaGreat.Oct
open Go.RowKit
def Wd.tickL (x : Wd) (now : Int) (L : List Ms) : Wd := { x with now := now, l := x.l.tick now, wire := x.wire ++ L }
def Wd.tickP (x : Wd) (now : Int) (L : List Ms) : Wd := { x with now := now, p := x.p.tick now, wire := x.wire ++ L }
def Wd.boots (x : Wd) : Wd := { x with boot := x.boot + 1, p := ⟨3, x.boot + 1, none⟩ }
def Wd.begins (x : Wd) : Wd := { x with ep := x.ep + 1, l := x.l.begin_ (x.ep + 1) x.now }
inductive StepTo (x : Wd) : Wd → Prop
 | same : StepTo x x
 | tickL (now : Int) (L : List Ms) (h : x.now ≤ now ∧ now < x.now + 6) (hl : L.map Ms.abs = x.l.says now) (hn : L.length ≤ 9) : StepTo x (x.tickL now L)
 | tickP (now : Int) (L : List Ms) (h : x.now ≤ now ∧ now < x.now + 6) (hl : L.map Ms.abs = x.p.says now) (hn : L.length ≤ 9) : StepTo x (x.tickP now L)
 | sendL : StepTo x x.sendL
 | sendP : StepTo x x.sendP
 | boots : StepTo x x.boots
 | begins (h : x.ep < 250) : StepTo x x.begins
 | comesL (m : Ms) (hm : m ∈ x.wire) (ht : m.x.t = 0) : StepTo x (x.comesL m.abs)
 | comesP (m : Ms) (hm : m ∈ x.wire) (ht : m.x.t ≠ 0) : StepTo x (x.comesP m.abs)
structure Wok (x : Wd) : Prop where
 now : 0 ≤ x.now ∧ x.now ≤ 1000000
 boot : 1 ≤ x.boot ∧ x.boot ≤ 1000000
 ep : 0 ≤ x.ep ∧ x.ep ≤ 250
 le : 0 ≤ x.l.e ∧ x.l.e ≤ x.ep
 sent : 0 ≤ x.sent ∧ x.sent ≤ 1000000
 rows : ∀ r, r < 512 → (x.rl r).length ≤ 1000000
 wire : x.wire.length ≤ 90000
 tr : ∀ y, x.p.s = some y → y.tr < 9000000
 fine : x.fine = true
 fl : ∀ m ∈ x.wire, m.x.t = 0 → Follow (x.rl (256 + x.l.e.toNat)) (x.gt (256 + x.l.e.toNat)) (tells (x.l.gets m.abs.ms x.now))
 fp : ∀ m ∈ x.wire, m.x.t ≠ 0 → Follow (x.rl ((x.p.take m.abs.ms x.now).e % 256).toNat) (x.gt ((x.p.take m.abs.ms x.now).e % 256).toNat) (tells (x.p.gets m.abs.ms x.now))
section
variable {W w w' : World} {wb : Nat} {Z : Wk} {x : Wd}
theorem wcl_setNow (x : Wd) (Z : Wk) (n : Int) : (wcl x Z).set 2 (.int .i64 n) = wcl { x with now := n } Z := rfl
theorem wcl_setBoot (x : Wd) (Z : Wk) (n : Int) : (wcl x Z).set 3 (.int .i64 n) = wcl { x with boot := n } Z := rfl
theorem wcl_setEp (x : Wd) (Z : Wk) (n : Int) : (wcl x Z).set 4 (.int .i64 n) = wcl { x with ep := n } Z := rfl
theorem wcl_setP (x : Wd) (Z : Wk) (pb gq : Nat) (pq : Bk) (p : Ps) : (wcl x Z).set 1 (.pointer (some ⟨pb, 0, none⟩)) = wcl { x with p := p } { Z with pb := pb, pq := pq, gq := gq } := rfl
theorem wcl_setFine (x : Wd) (Z : Wk) (hf : x.fine = true) : (wcl x Z).set 1031 (.bool true) = wcl x Z := by
 refine List.ext_getElem? fun i => ?_
 rw [List.getElem?_set]
 by_cases e : 1031 = i
 ·subst e
  rw [if_pos rfl, if_pos (by rw [wcl_len]; omega), wcl_fine, hf]
 ·rw [if_neg e]
theorem Ww.fine (h : Ww W w wb Z x) (hf : x.fine = true) : Ww W (w.setCell ⟨wb, 1031, none⟩ (.bool true)) wb Z x :=
 h.cell 1031 _ (wcl_setFine x Z hf) ⟨rfl, rfl, rfl, rfl⟩ ⟨rfl, rfl, rfl, rfl, rfl, rfl, rfl, rfl⟩
theorem Ww.newp (h : Ww W w wb Z x) {pb gq : Nat} {q : Bk} {p : Ps} (hp : PnS w pb q gq p) (hd : ∀ k, lown Z.lb Z.lc Z.lq k → ¬ lown pb gq q k) (hn : ∀ k, lown pb gq q k → W.heap.size ≤ k) : Ww W (w.setCell ⟨wb, 1, none⟩ (.pointer (some ⟨pb, 0, none⟩))) wb { Z with pb := pb, pq := q, gq := gq } { x with p := p } := by
 have hg := Ch.of_grown (grownBy_set w wb 1 (.pointer (some ⟨pb, 0, none⟩)))
 have hno := nob_vb h.own (by decide) (by decide)
 refine ⟨by rw [← wcl_setP x Z pb gq q p]; exact h.own.set 1 _, h.ln.stay hg (fun k e e2 => h.ln.nots h.own (.inr (.inr (.inl rfl))) (e2 ▸ e)) hno, hp.stay hg (fun k e e2 => hp.nots h.own (.inr (.inr (.inl rfl))) (e2 ▸ e)) hno, h.wi.stay hg (fun k e e2 => by obtain ⟨cs, hv⟩ := h.wi.vb e; exact vb_ne hv h.own (by decide) e2) hno, fun j hj => (h.rows j hj).stay hg (fun k e e2 => by obtain ⟨cs, hv⟩ := (h.rows j hj).vb e; exact vb_ne hv h.own (by decide) e2), h.ap, hd, h.nl, hn, h.nw, h.old.trans (hg.below (fun k e => e ▸ h.nw) h.old.size)⟩
theorem begE_yes {l : Ls} {e now : Int} (h1 : l.e < e) (h2 : e ≤ 250) (h3 : 0 ≤ now ∧ now ≤ 1000000) : l.begE e now = 0 := by
 unfold Ls.begE
 have e1 : tickB now = true := by unfold tickB; simp; omega
 rw [if_pos e1, if_neg (by omega)]
theorem step_yes (h : Ww W w wb Z x) (hx : Wok x) {k : Int} (hk : 0 ≤ k ∧ k < 8000) : Calls Tryz.prog 29 #[.pointer (some ⟨wb, 0, none⟩), .int .i64 k] w fun en w' => en = .returned (.tuple #[]) ∧ ∃ x', (∃ Z', Ww W w' wb Z' x') ∧ StepTo x x' := by
 have HH := Kp.mk h
 have HX := Kp.mk hx
 have HK := Kp.mk hk
 have HWL := Kp.mk (show x.wire.length ≤ 90000 from hx.wire)
 clear h hx hk
 go_enter Tryz.func29, Tryz.ntmps29
 obtain ⟨z, hz⟩ : ∃ z, z = k.tmod 16 := ⟨_, rfl⟩
 have HZ := Kp.mk hz
 have hz16 : z = 0 ∨ z = 1 ∨ z = 2 ∨ z = 3 ∨ z = 4 ∨ z = 5 ∨ z = 6 ∨ z = 7 ∨ z = 8 ∨ 9 ≤ z := by
  have := HK.out
  rw [Int.tmod_eq_emod_of_nonneg (by omega)] at hz
  omega
 replace hz := hz.symm
 obtain ⟨d, hd⟩ : ∃ d, (k.tdiv 16).tmod 6 = d := ⟨_, rfl⟩
 have HD := Kp.mk (show 0 ≤ d ∧ d < 6 by
  have := HK.out
  rw [Int.tdiv_eq_ediv_of_nonneg (by omega), Int.tmod_eq_emod_of_nonneg (by omega)] at hd
  omega)
 have e2 : wrap64 (k.tdiv 16) = k.tdiv 16 := by
  have := HK.out
  rw [Int.tdiv_eq_ediv_of_nonneg (by omega)]
  unfold wrap64
  omega
 have HE2 := Kp.mk e2
 clear e2
 rcases hz16 with rfl | rfl | rfl | rfl | rfl | rfl | rfl | rfl | rfl | hz9
 ·as_aux_lemma =>
  have e2 := HE2.out
  have e3 : wrap64 (x.now + d) = x.now + d := by have := HX.out.now; have := HD.out; unfold wrap64; omega
  have a2 := HH.out.own.cell 2 (wcl_at _ Z (by omega) (u := .int .i64 x.now) rfl)
  have f2 := HH.out.own.free 2
  go_upto_region 9 with fail
  have h0 : Ww W (w.setCell ⟨wb, 2, none⟩ (.int .i64 (x.now + d))) wb Z { x with now := x.now + d } := HH.out.cell 2 _ (wcl_setNow x Z (x.now + d)) ⟨rfl, rfl, rfl, rfl⟩ ⟨rfl, rfl, rfl, rfl, rfl, rfl, rfl, rfl⟩
  have H0 := Kp.mk h0
  clear e2 e3 a2 f2 h0 hz hd
  generalize w.setCell ⟨wb, 2, none⟩ (.int .i64 (x.now + d)) = w0 at *
  obtain ⟨t, ht⟩ : ∃ t, t = x.now + d := ⟨_, rfl⟩
  rw [← ht] at H0
  have HT := Kp.mk (show x.now ≤ t ∧ t < x.now + 6 by have := HD.out; omega)
  clear ht
  have hd := H0.out.below (Below.refl _ w0).drew
  refine wp_region_held_drew (S := fun X => X.cell? ⟨wb, 0, none⟩ = some (.pointer (some ⟨Z.lb, 0, none⟩)) ∧ X.cell? ⟨wb, 2, none⟩ = some (.int .i64 t)) (by kernel_rfl) ⟨hd.own.cell 0 (wcl_at _ Z (by omega) rfl), hd.own.cell 2 (wcl_at _ Z (by omega) rfl)⟩ (fun hSu => ?_)
  have HU := Kp.mk hd
  clear hd
  generalize w0.drew = u at *
  refine tD 0 (.pointer (some ⟨wb, 0, none⟩)) 59 rfl rfl hSu (fun _ _ => by go_simp) ?_
  try simp only [Act.put, zA, zB, zC]
  refine tD 1 (.pointer (some ⟨wb, 0, none⟩)) 60 rfl rfl hSu (fun _ _ => by go_simp) ?_
  try simp only [Act.put, zA, zB, zC]
  refine tD 2 (.pointer (some ⟨wb, 0, none⟩)) 61 rfl rfl hSu (fun _ _ => by go_simp) ?_
  try simp only [Act.put, zA, zB, zC]
  refine tD 3 (.pointer (some ⟨wb, 5, none⟩)) 62 rfl rfl hSu (fun _ _ => by go_simp) ?_
  try simp only [Act.put, zA, zB, zC]
  refine tD 5 (.pointer (some ⟨wb, 0, none⟩)) 64 rfl rfl hSu (fun _ _ => by go_simp) ?_
  try simp only [Act.put, zA, zB, zC]
  refine tD 6 (.pointer (some ⟨wb, 0, none⟩)) 65 rfl rfl hSu (fun _ _ => by go_simp) ?_
  try simp only [Act.put, zA, zB, zC]
  refine tD 7 (.pointer (some ⟨wb, 0, none⟩)) 66 rfl rfl hSu (fun _ _ => by go_simp) ?_
  try simp only [Act.put, zA, zB, zC]
  refine tD 8 (.pointer (some ⟨Z.lb, 0, none⟩)) 67 rfl rfl hSu ?_ ?_
  ·rintro w' hq
   obtain ⟨hq1, hq2⟩ := hq
   go_simp
  try simp only [Act.put, zA, zB, zC]
  refine tD 9 (.pointer (some ⟨wb, 0, none⟩)) 68 rfl rfl hSu (fun _ _ => by go_simp) ?_
  try simp only [Act.put, zA, zB, zC]
  refine tD 10 (.pointer (some ⟨wb, 0, none⟩)) 69 rfl rfl hSu (fun _ _ => by go_simp) ?_
  try simp only [Act.put, zA, zB, zC]
  refine tD 11 (.pointer (some ⟨wb, 2, none⟩)) 70 rfl rfl hSu (fun _ _ => by go_simp) ?_
  try simp only [Act.put, zA, zB, zC]
  refine tD 12 (.int .i64 t) 71 rfl rfl hSu ?_ ?_
  ·rintro w' hq
   obtain ⟨hq1, hq2⟩ := hq
   go_simp
  try simp only [Act.put, zA, zB, zC]
  have c5 := HU.out.own.cell 5 (wcl_at _ Z (by omega) (u := Z.wv) rfl)
  refine wpAnyH_ready (rs := [4, 13]) (by kernel_rfl) (by simp) ?_
  refine AllReadyH.cons rfl (fun K hK => ?_) (AllReadyH.cons rfl (fun K hK => ?_) AllReadyH.nil)
  ·skip
   try rw [if_pos (by rfl)]
   go_simp
   refine hK.out _ _ hSu (fun _ => ?_)
   clear hK K
   try simp only [Act.put, zA, zB, zC]
   refine rD 13 rfl fun K hK => ?_
   try rw [if_pos (by rfl)]
   go_simp
   go_at_call 34
   refine (HU.out.ln.tickC t).mono ?_
   rintro en u5 ⟨A5, n5, c5b, L5, rfl, hv5, hL5, hn5, hl5, hc5⟩
   have h5 := HU.out.line hl5 (.same hc5)
   have hS5 : u5.cell? ⟨wb, 0, none⟩ = some (.pointer (some ⟨Z.lb, 0, none⟩)) ∧ u5.cell? ⟨wb, 2, none⟩ = some (.int .i64 t) := ⟨h5.own.cell 0 (wcl_at _ _ (by omega) rfl), h5.own.cell 2 (wcl_at _ _ (by omega) rfl)⟩
   have d5 := h5.own.cell 5 (wcl_at _ _ (by omega) (u := Z.wv) rfl)
   have H5 := Kp.mk h5
   have HV5 := Kp.mk hv5.out
   have HL5 := Kp.mk (And.intro hL5 hn5)
   clear hl5 hc5 h5 hv5 hL5 hn5
   refine hK.out _ _ hS5 (fun _ => ?_)
   clear hK K
   try simp only [Act.put, zA, zB, zC]
   obtain ⟨A9, c9, w9, hrun, ho9, _, h9⟩ := H5.out.wire 37 HV5.out (show x.wire.length + n5 ≤ 100000 by have := HWL.out; have := HL5.out.2; omega)
   have hS9 : w9.cell? ⟨wb, 0, none⟩ = some (.pointer (some ⟨Z.lb, 0, none⟩)) ∧ w9.cell? ⟨wb, 2, none⟩ = some (.int .i64 t) := ⟨ho9.cell 0 (wcl_at _ _ (by omega) rfl), ho9.cell 2 (wcl_at _ _ (by omega) rfl)⟩
   have f9 := ho9.free 5
   have d9 := ho9.cell 5 (wcl_at _ _ (by omega) (u := Z.wv) rfl)
   have hSe : (w9.setCell ⟨wb, 5, none⟩ (.slice A9 (x.wire.length + n5) c9)).cell? ⟨wb, 0, none⟩ = some (.pointer (some ⟨Z.lb, 0, none⟩)) ∧ (w9.setCell ⟨wb, 5, none⟩ (.slice A9 (x.wire.length + n5) c9)).cell? ⟨wb, 2, none⟩ = some (.int .i64 t) := ⟨h9.own.cell 0 (wcl_at _ _ (by omega) rfl), h9.own.cell 2 (wcl_at _ _ (by omega) rfl)⟩
   have HEND := Kp.mk h9
   clear h9 ho9
   refine rD 14 rfl fun K hK => ?_
   try rw [if_pos (by rfl)]
   refine sndOp_append (.tmp 63) (.tmp 72) rfl rfl rfl hrun (hK.out _ _ hS9 (fun _ => ?_))
   clear hK K hrun
   try simp only [Act.put, zA, zB, zC]
   refine tD 15 (.pointer (some ⟨wb, 0, none⟩)) 74 rfl rfl hS9 (fun _ _ => by go_simp) ?_
   try simp only [Act.put, zA, zB, zC]
   refine tD 16 (.pointer (some ⟨wb, 5, none⟩)) 75 rfl rfl hS9 (fun _ _ => by go_simp) ?_
   try simp only [Act.put, zA, zB, zC]
   refine rD 17 rfl fun K hK => ?_
   try rw [if_pos (by rfl)]
   go_simp
   refine hK.out _ _ hSe (fun _ => ?_)
   clear hK K
   try simp only [Act.put, zA, zB, zC]
   refine wpAnyH_done (by kernel_rfl) ?_ _
   clear hSu hS5 hS9 hSe f9 c5 d5 d9
   go_end0
   exact ⟨rfl, _, ⟨_, HEND.out⟩, .tickL t L5 HT.out HL5.out.1 (by have := HV5.out.len; have := HL5.out.2; omega)⟩
  ·skip
   try rw [if_pos (by rfl)]
   go_simp
   go_at_call 34
   refine (HU.out.ln.tickC t).mono ?_
   rintro en u5 ⟨A5, n5, c5b, L5, rfl, hv5, hL5, hn5, hl5, hc5⟩
   have h5 := HU.out.line hl5 (.same hc5)
   have hS5 : u5.cell? ⟨wb, 0, none⟩ = some (.pointer (some ⟨Z.lb, 0, none⟩)) ∧ u5.cell? ⟨wb, 2, none⟩ = some (.int .i64 t) := ⟨h5.own.cell 0 (wcl_at _ _ (by omega) rfl), h5.own.cell 2 (wcl_at _ _ (by omega) rfl)⟩
   have d5 := h5.own.cell 5 (wcl_at _ _ (by omega) (u := Z.wv) rfl)
   have H5 := Kp.mk h5
   have HV5 := Kp.mk hv5.out
   have HL5 := Kp.mk (And.intro hL5 hn5)
   clear hl5 hc5 h5 hv5 hL5 hn5
   refine hK.out _ _ hS5 (fun _ => ?_)
   clear hK K
   try simp only [Act.put, zA, zB, zC]
   refine rD 4 rfl fun K hK => ?_
   try rw [if_pos (by rfl)]
   go_simp
   refine hK.out _ _ hS5 (fun _ => ?_)
   clear hK K
   try simp only [Act.put, zA, zB, zC]
   obtain ⟨A9, c9, w9, hrun, ho9, _, h9⟩ := H5.out.wire 37 HV5.out (show x.wire.length + n5 ≤ 100000 by have := HWL.out; have := HL5.out.2; omega)
   have hS9 : w9.cell? ⟨wb, 0, none⟩ = some (.pointer (some ⟨Z.lb, 0, none⟩)) ∧ w9.cell? ⟨wb, 2, none⟩ = some (.int .i64 t) := ⟨ho9.cell 0 (wcl_at _ _ (by omega) rfl), ho9.cell 2 (wcl_at _ _ (by omega) rfl)⟩
   have f9 := ho9.free 5
   have d9 := ho9.cell 5 (wcl_at _ _ (by omega) (u := Z.wv) rfl)
   have hSe : (w9.setCell ⟨wb, 5, none⟩ (.slice A9 (x.wire.length + n5) c9)).cell? ⟨wb, 0, none⟩ = some (.pointer (some ⟨Z.lb, 0, none⟩)) ∧ (w9.setCell ⟨wb, 5, none⟩ (.slice A9 (x.wire.length + n5) c9)).cell? ⟨wb, 2, none⟩ = some (.int .i64 t) := ⟨h9.own.cell 0 (wcl_at _ _ (by omega) rfl), h9.own.cell 2 (wcl_at _ _ (by omega) rfl)⟩
   have HEND := Kp.mk h9
   clear h9 ho9
   refine rD 14 rfl fun K hK => ?_
   try rw [if_pos (by rfl)]
   refine sndOp_append (.tmp 63) (.tmp 72) rfl rfl rfl hrun (hK.out _ _ hS9 (fun _ => ?_))
   clear hK K hrun
   try simp only [Act.put, zA, zB, zC]
   refine tD 15 (.pointer (some ⟨wb, 0, none⟩)) 74 rfl rfl hS9 (fun _ _ => by go_simp) ?_
   try simp only [Act.put, zA, zB, zC]
   refine tD 16 (.pointer (some ⟨wb, 5, none⟩)) 75 rfl rfl hS9 (fun _ _ => by go_simp) ?_
   try simp only [Act.put, zA, zB, zC]
   refine rD 17 rfl fun K hK => ?_
   try rw [if_pos (by rfl)]
   go_simp
   refine hK.out _ _ hSe (fun _ => ?_)
   clear hK K
   try simp only [Act.put, zA, zB, zC]
   refine wpAnyH_done (by kernel_rfl) ?_ _
   clear hSu hS5 hS9 hSe f9 c5 d5 d9
   go_end0
   exact ⟨rfl, _, ⟨_, HEND.out⟩, .tickL t L5 HT.out HL5.out.1 (by have := HV5.out.len; have := HL5.out.2; omega)⟩
 ·as_aux_lemma =>
  have e2 := HE2.out
  have e3 : wrap64 (x.now + d) = x.now + d := by have := HX.out.now; have := HD.out; unfold wrap64; omega
  have a2 := HH.out.own.cell 2 (wcl_at _ Z (by omega) (u := .int .i64 x.now) rfl)
  have f2 := HH.out.own.free 2
  go_upto_region 9 with fail
  have h0 : Ww W (w.setCell ⟨wb, 2, none⟩ (.int .i64 (x.now + d))) wb Z { x with now := x.now + d } := HH.out.cell 2 _ (wcl_setNow x Z (x.now + d)) ⟨rfl, rfl, rfl, rfl⟩ ⟨rfl, rfl, rfl, rfl, rfl, rfl, rfl, rfl⟩
  have H0 := Kp.mk h0
  clear e2 e3 a2 f2 h0 hz hd
  generalize w.setCell ⟨wb, 2, none⟩ (.int .i64 (x.now + d)) = w0 at *
  obtain ⟨t, ht⟩ : ∃ t, t = x.now + d := ⟨_, rfl⟩
  rw [← ht] at H0
  have HT := Kp.mk (show x.now ≤ t ∧ t < x.now + 6 by have := HD.out; omega)
  clear ht
  have hd := H0.out.below (Below.refl _ w0).drew
  refine wp_region_held_drew (S := fun X => X.cell? ⟨wb, 0, none⟩ = some (.pointer (some ⟨Z.lb, 0, none⟩)) ∧ X.cell? ⟨wb, 2, none⟩ = some (.int .i64 t)) (by kernel_rfl) ⟨hd.own.cell 0 (wcl_at _ Z (by omega) rfl), hd.own.cell 2 (wcl_at _ Z (by omega) rfl)⟩ (fun hSu => ?_)
  have HU := Kp.mk hd
  clear hd
  generalize w0.drew = u at *
  refine tD 0 (.pointer (some ⟨wb, 0, none⟩)) 59 rfl rfl hSu (fun _ _ => by go_simp) ?_
  try simp only [Act.put, zA, zB, zC]
  refine tD 1 (.pointer (some ⟨wb, 0, none⟩)) 60 rfl rfl hSu (fun _ _ => by go_simp) ?_
  try simp only [Act.put, zA, zB, zC]
  refine tD 2 (.pointer (some ⟨wb, 0, none⟩)) 61 rfl rfl hSu (fun _ _ => by go_simp) ?_
  try simp only [Act.put, zA, zB, zC]
  refine tD 3 (.pointer (some ⟨wb, 5, none⟩)) 62 rfl rfl hSu (fun _ _ => by go_simp) ?_
  try simp only [Act.put, zA, zB, zC]
  refine tD 5 (.pointer (some ⟨wb, 0, none⟩)) 64 rfl rfl hSu (fun _ _ => by go_simp) ?_
  try simp only [Act.put, zA, zB, zC]
  refine tD 6 (.pointer (some ⟨wb, 0, none⟩)) 65 rfl rfl hSu (fun _ _ => by go_simp) ?_
  try simp only [Act.put, zA, zB, zC]
  refine tD 7 (.pointer (some ⟨wb, 0, none⟩)) 66 rfl rfl hSu (fun _ _ => by go_simp) ?_
  try simp only [Act.put, zA, zB, zC]
  refine tD 8 (.pointer (some ⟨Z.lb, 0, none⟩)) 67 rfl rfl hSu ?_ ?_
  ·rintro w' hq
   obtain ⟨hq1, hq2⟩ := hq
   go_simp
  try simp only [Act.put, zA, zB, zC]
  refine tD 9 (.pointer (some ⟨wb, 0, none⟩)) 68 rfl rfl hSu (fun _ _ => by go_simp) ?_
  try simp only [Act.put, zA, zB, zC]
  refine tD 10 (.pointer (some ⟨wb, 0, none⟩)) 69 rfl rfl hSu (fun _ _ => by go_simp) ?_
  try simp only [Act.put, zA, zB, zC]
  refine tD 11 (.pointer (some ⟨wb, 2, none⟩)) 70 rfl rfl hSu (fun _ _ => by go_simp) ?_
  try simp only [Act.put, zA, zB, zC]
  refine tD 12 (.int .i64 t) 71 rfl rfl hSu ?_ ?_
  ·rintro w' hq
   obtain ⟨hq1, hq2⟩ := hq
   go_simp
  try simp only [Act.put, zA, zB, zC]
  have c5 := HU.out.own.cell 5 (wcl_at _ Z (by omega) (u := Z.wv) rfl)
  refine wpAnyH_ready (rs := [4, 13]) (by kernel_rfl) (by simp) ?_
  refine AllReadyH.cons rfl (fun K hK => ?_) (AllReadyH.cons rfl (fun K hK => ?_) AllReadyH.nil)
  ·skip
   try rw [if_pos (by rfl)]
   go_simp
   refine hK.out _ _ hSu (fun _ => ?_)
   clear hK K
   try simp only [Act.put, zA, zB, zC]
   refine rD 13 rfl fun K hK => ?_
   try rw [if_pos (by rfl)]
   go_simp
   go_at_call 34
   refine (HU.out.ln.tickC t).mono ?_
   rintro en u5 ⟨A5, n5, c5b, L5, rfl, hv5, hL5, hn5, hl5, hc5⟩
   have h5 := HU.out.line hl5 (.same hc5)
   have hS5 : u5.cell? ⟨wb, 0, none⟩ = some (.pointer (some ⟨Z.lb, 0, none⟩)) ∧ u5.cell? ⟨wb, 2, none⟩ = some (.int .i64 t) := ⟨h5.own.cell 0 (wcl_at _ _ (by omega) rfl), h5.own.cell 2 (wcl_at _ _ (by omega) rfl)⟩
   have d5 := h5.own.cell 5 (wcl_at _ _ (by omega) (u := Z.wv) rfl)
   have H5 := Kp.mk h5
   have HV5 := Kp.mk hv5.out
   have HL5 := Kp.mk (And.intro hL5 hn5)
   clear hl5 hc5 h5 hv5 hL5 hn5
   refine hK.out _ _ hS5 (fun _ => ?_)
   clear hK K
   try simp only [Act.put, zA, zB, zC]
   obtain ⟨A9, c9, w9, hrun, ho9, _, h9⟩ := H5.out.wire 37 HV5.out (show x.wire.length + n5 ≤ 100000 by have := HWL.out; have := HL5.out.2; omega)
   have hS9 : w9.cell? ⟨wb, 0, none⟩ = some (.pointer (some ⟨Z.lb, 0, none⟩)) ∧ w9.cell? ⟨wb, 2, none⟩ = some (.int .i64 t) := ⟨ho9.cell 0 (wcl_at _ _ (by omega) rfl), ho9.cell 2 (wcl_at _ _ (by omega) rfl)⟩
   have f9 := ho9.free 5
   have d9 := ho9.cell 5 (wcl_at _ _ (by omega) (u := Z.wv) rfl)
   have hSe : (w9.setCell ⟨wb, 5, none⟩ (.slice A9 (x.wire.length + n5) c9)).cell? ⟨wb, 0, none⟩ = some (.pointer (some ⟨Z.lb, 0, none⟩)) ∧ (w9.setCell ⟨wb, 5, none⟩ (.slice A9 (x.wire.length + n5) c9)).cell? ⟨wb, 2, none⟩ = some (.int .i64 t) := ⟨h9.own.cell 0 (wcl_at _ _ (by omega) rfl), h9.own.cell 2 (wcl_at _ _ (by omega) rfl)⟩
   have HEND := Kp.mk h9
   clear h9 ho9
   refine rD 14 rfl fun K hK => ?_
   try rw [if_pos (by rfl)]
   refine sndOp_append (.tmp 63) (.tmp 72) rfl rfl rfl hrun (hK.out _ _ hS9 (fun _ => ?_))
   clear hK K hrun
   try simp only [Act.put, zA, zB, zC]
   refine tD 15 (.pointer (some ⟨wb, 0, none⟩)) 74 rfl rfl hS9 (fun _ _ => by go_simp) ?_
   try simp only [Act.put, zA, zB, zC]
   refine tD 16 (.pointer (some ⟨wb, 5, none⟩)) 75 rfl rfl hS9 (fun _ _ => by go_simp) ?_
   try simp only [Act.put, zA, zB, zC]
   refine rD 17 rfl fun K hK => ?_
   try rw [if_pos (by rfl)]
   go_simp
   refine hK.out _ _ hSe (fun _ => ?_)
   clear hK K
   try simp only [Act.put, zA, zB, zC]
   refine wpAnyH_done (by kernel_rfl) ?_ _
   clear hSu hS5 hS9 hSe f9 c5 d5 d9
   go_end0
   exact ⟨rfl, _, ⟨_, HEND.out⟩, .tickL t L5 HT.out HL5.out.1 (by have := HV5.out.len; have := HL5.out.2; omega)⟩
  ·skip
   try rw [if_pos (by rfl)]
   go_simp
   go_at_call 34
   refine (HU.out.ln.tickC t).mono ?_
   rintro en u5 ⟨A5, n5, c5b, L5, rfl, hv5, hL5, hn5, hl5, hc5⟩
   have h5 := HU.out.line hl5 (.same hc5)
   have hS5 : u5.cell? ⟨wb, 0, none⟩ = some (.pointer (some ⟨Z.lb, 0, none⟩)) ∧ u5.cell? ⟨wb, 2, none⟩ = some (.int .i64 t) := ⟨h5.own.cell 0 (wcl_at _ _ (by omega) rfl), h5.own.cell 2 (wcl_at _ _ (by omega) rfl)⟩
   have d5 := h5.own.cell 5 (wcl_at _ _ (by omega) (u := Z.wv) rfl)
   have H5 := Kp.mk h5
   have HV5 := Kp.mk hv5.out
   have HL5 := Kp.mk (And.intro hL5 hn5)
   clear hl5 hc5 h5 hv5 hL5 hn5
   refine hK.out _ _ hS5 (fun _ => ?_)
   clear hK K
   try simp only [Act.put, zA, zB, zC]
   refine rD 4 rfl fun K hK => ?_
   try rw [if_pos (by rfl)]
   go_simp
   refine hK.out _ _ hS5 (fun _ => ?_)
   clear hK K
   try simp only [Act.put, zA, zB, zC]
   obtain ⟨A9, c9, w9, hrun, ho9, _, h9⟩ := H5.out.wire 37 HV5.out (show x.wire.length + n5 ≤ 100000 by have := HWL.out; have := HL5.out.2; omega)
   have hS9 : w9.cell? ⟨wb, 0, none⟩ = some (.pointer (some ⟨Z.lb, 0, none⟩)) ∧ w9.cell? ⟨wb, 2, none⟩ = some (.int .i64 t) := ⟨ho9.cell 0 (wcl_at _ _ (by omega) rfl), ho9.cell 2 (wcl_at _ _ (by omega) rfl)⟩
   have f9 := ho9.free 5
   have d9 := ho9.cell 5 (wcl_at _ _ (by omega) (u := Z.wv) rfl)
   have hSe : (w9.setCell ⟨wb, 5, none⟩ (.slice A9 (x.wire.length + n5) c9)).cell? ⟨wb, 0, none⟩ = some (.pointer (some ⟨Z.lb, 0, none⟩)) ∧ (w9.setCell ⟨wb, 5, none⟩ (.slice A9 (x.wire.length + n5) c9)).cell? ⟨wb, 2, none⟩ = some (.int .i64 t) := ⟨h9.own.cell 0 (wcl_at _ _ (by omega) rfl), h9.own.cell 2 (wcl_at _ _ (by omega) rfl)⟩
   have HEND := Kp.mk h9
   clear h9 ho9
   refine rD 14 rfl fun K hK => ?_
   try rw [if_pos (by rfl)]
   refine sndOp_append (.tmp 63) (.tmp 72) rfl rfl rfl hrun (hK.out _ _ hS9 (fun _ => ?_))
   clear hK K hrun
   try simp only [Act.put, zA, zB, zC]
   refine tD 15 (.pointer (some ⟨wb, 0, none⟩)) 74 rfl rfl hS9 (fun _ _ => by go_simp) ?_
   try simp only [Act.put, zA, zB, zC]
   refine tD 16 (.pointer (some ⟨wb, 5, none⟩)) 75 rfl rfl hS9 (fun _ _ => by go_simp) ?_
   try simp only [Act.put, zA, zB, zC]
   refine rD 17 rfl fun K hK => ?_
   try rw [if_pos (by rfl)]
   go_simp
   refine hK.out _ _ hSe (fun _ => ?_)
   clear hK K
   try simp only [Act.put, zA, zB, zC]
   refine wpAnyH_done (by kernel_rfl) ?_ _
   clear hSu hS5 hS9 hSe f9 c5 d5 d9
   go_end0
   exact ⟨rfl, _, ⟨_, HEND.out⟩, .tickL t L5 HT.out HL5.out.1 (by have := HV5.out.len; have := HL5.out.2; omega)⟩
 ·as_aux_lemma =>
  have e2 := HE2.out
  have e3 : wrap64 (x.now + d) = x.now + d := by have := HX.out.now; have := HD.out; unfold wrap64; omega
  have a2 := HH.out.own.cell 2 (wcl_at _ Z (by omega) (u := .int .i64 x.now) rfl)
  have f2 := HH.out.own.free 2
  go_upto_region 13 with fail
  have h0 : Ww W (w.setCell ⟨wb, 2, none⟩ (.int .i64 (x.now + d))) wb Z { x with now := x.now + d } := HH.out.cell 2 _ (wcl_setNow x Z (x.now + d)) ⟨rfl, rfl, rfl, rfl⟩ ⟨rfl, rfl, rfl, rfl, rfl, rfl, rfl, rfl⟩
  have H0 := Kp.mk h0
  clear e2 e3 a2 f2 h0 hz hd
  generalize w.setCell ⟨wb, 2, none⟩ (.int .i64 (x.now + d)) = w0 at *
  obtain ⟨t, ht⟩ : ∃ t, t = x.now + d := ⟨_, rfl⟩
  rw [← ht] at H0
  have HT := Kp.mk (show x.now ≤ t ∧ t < x.now + 6 by have := HD.out; omega)
  clear ht
  have hd := H0.out.below (Below.refl _ w0).drew
  refine wp_region_held_drew (S := fun X => X.cell? ⟨wb, 1, none⟩ = some (.pointer (some ⟨Z.pb, 0, none⟩)) ∧ X.cell? ⟨wb, 2, none⟩ = some (.int .i64 t)) (by kernel_rfl) ⟨hd.own.cell 1 (wcl_at _ Z (by omega) rfl), hd.own.cell 2 (wcl_at _ Z (by omega) rfl)⟩ (fun hSu => ?_)
  have HU := Kp.mk hd
  clear hd
  generalize w0.drew = u at *
  refine tD 0 (.pointer (some ⟨wb, 0, none⟩)) 90 rfl rfl hSu (fun _ _ => by go_simp) ?_
  try simp only [Act.put, zA, zB, zC]
  refine tD 1 (.pointer (some ⟨wb, 0, none⟩)) 91 rfl rfl hSu (fun _ _ => by go_simp) ?_
  try simp only [Act.put, zA, zB, zC]
  refine tD 2 (.pointer (some ⟨wb, 0, none⟩)) 92 rfl rfl hSu (fun _ _ => by go_simp) ?_
  try simp only [Act.put, zA, zB, zC]
  refine tD 3 (.pointer (some ⟨wb, 5, none⟩)) 93 rfl rfl hSu (fun _ _ => by go_simp) ?_
  try simp only [Act.put, zA, zB, zC]
  refine tD 5 (.pointer (some ⟨wb, 0, none⟩)) 95 rfl rfl hSu (fun _ _ => by go_simp) ?_
  try simp only [Act.put, zA, zB, zC]
  refine tD 6 (.pointer (some ⟨wb, 0, none⟩)) 96 rfl rfl hSu (fun _ _ => by go_simp) ?_
  try simp only [Act.put, zA, zB, zC]
  refine tD 7 (.pointer (some ⟨wb, 1, none⟩)) 97 rfl rfl hSu (fun _ _ => by go_simp) ?_
  try simp only [Act.put, zA, zB, zC]
  refine tD 8 (.pointer (some ⟨Z.pb, 0, none⟩)) 98 rfl rfl hSu ?_ ?_
  ·rintro w' hq
   obtain ⟨hq1, hq2⟩ := hq
   go_simp
  try simp only [Act.put, zA, zB, zC]
  refine tD 9 (.pointer (some ⟨wb, 0, none⟩)) 99 rfl rfl hSu (fun _ _ => by go_simp) ?_
  try simp only [Act.put, zA, zB, zC]
  refine tD 10 (.pointer (some ⟨wb, 0, none⟩)) 100 rfl rfl hSu (fun _ _ => by go_simp) ?_
  try simp only [Act.put, zA, zB, zC]
  refine tD 11 (.pointer (some ⟨wb, 2, none⟩)) 101 rfl rfl hSu (fun _ _ => by go_simp) ?_
  try simp only [Act.put, zA, zB, zC]
  refine tD 12 (.int .i64 t) 102 rfl rfl hSu ?_ ?_
  ·rintro w' hq
   obtain ⟨hq1, hq2⟩ := hq
   go_simp
  try simp only [Act.put, zA, zB, zC]
  have c5 := HU.out.own.cell 5 (wcl_at _ Z (by omega) (u := Z.wv) rfl)
  refine wpAnyH_ready (rs := [4, 13]) (by kernel_rfl) (by simp) ?_
  refine AllReadyH.cons rfl (fun K hK => ?_) (AllReadyH.cons rfl (fun K hK => ?_) AllReadyH.nil)
  ·skip
   try rw [if_pos (by rfl)]
   go_simp
   refine hK.out _ _ hSu (fun _ => ?_)
   clear hK K
   try simp only [Act.put, zA, zB, zC]
   refine rD 13 rfl fun K hK => ?_
   try rw [if_pos (by rfl)]
   go_simp
   go_at_call 35
   refine (HU.out.pn.tickC t (fun y hy => by have := HX.out.tr y hy; omega)).mono ?_
   rintro en u5 ⟨A5, n5, c5b, L5, rfl, hv5, hL5, hn5, hl5, hc5⟩
   have h5 := HU.out.port hl5 (.same hc5)
   have hS5 : u5.cell? ⟨wb, 1, none⟩ = some (.pointer (some ⟨Z.pb, 0, none⟩)) ∧ u5.cell? ⟨wb, 2, none⟩ = some (.int .i64 t) := ⟨h5.own.cell 1 (wcl_at _ _ (by omega) rfl), h5.own.cell 2 (wcl_at _ _ (by omega) rfl)⟩
   have d5 := h5.own.cell 5 (wcl_at _ _ (by omega) (u := Z.wv) rfl)
   have H5 := Kp.mk h5
   have HV5 := Kp.mk hv5.out
   have HL5 := Kp.mk (And.intro hL5 hn5)
   clear hl5 hc5 h5 hv5 hL5 hn5
   refine hK.out _ _ hS5 (fun _ => ?_)
   clear hK K
   try simp only [Act.put, zA, zB, zC]
   obtain ⟨A9, c9, w9, hrun, ho9, _, h9⟩ := H5.out.wire 37 HV5.out (show x.wire.length + n5 ≤ 100000 by have := HWL.out; have := HL5.out.2; omega)
   have hS9 : w9.cell? ⟨wb, 1, none⟩ = some (.pointer (some ⟨Z.pb, 0, none⟩)) ∧ w9.cell? ⟨wb, 2, none⟩ = some (.int .i64 t) := ⟨ho9.cell 1 (wcl_at _ _ (by omega) rfl), ho9.cell 2 (wcl_at _ _ (by omega) rfl)⟩
   have f9 := ho9.free 5
   have d9 := ho9.cell 5 (wcl_at _ _ (by omega) (u := Z.wv) rfl)
   have hSe : (w9.setCell ⟨wb, 5, none⟩ (.slice A9 (x.wire.length + n5) c9)).cell? ⟨wb, 1, none⟩ = some (.pointer (some ⟨Z.pb, 0, none⟩)) ∧ (w9.setCell ⟨wb, 5, none⟩ (.slice A9 (x.wire.length + n5) c9)).cell? ⟨wb, 2, none⟩ = some (.int .i64 t) := ⟨h9.own.cell 1 (wcl_at _ _ (by omega) rfl), h9.own.cell 2 (wcl_at _ _ (by omega) rfl)⟩
   have HEND := Kp.mk h9
   clear h9 ho9
   refine rD 14 rfl fun K hK => ?_
   try rw [if_pos (by rfl)]
   refine sndOp_append (.tmp 94) (.tmp 103) rfl rfl rfl hrun (hK.out _ _ hS9 (fun _ => ?_))
   clear hK K hrun
   try simp only [Act.put, zA, zB, zC]
   refine tD 15 (.pointer (some ⟨wb, 0, none⟩)) 105 rfl rfl hS9 (fun _ _ => by go_simp) ?_
   try simp only [Act.put, zA, zB, zC]
   refine tD 16 (.pointer (some ⟨wb, 5, none⟩)) 106 rfl rfl hS9 (fun _ _ => by go_simp) ?_
   try simp only [Act.put, zA, zB, zC]
   refine rD 17 rfl fun K hK => ?_
   try rw [if_pos (by rfl)]
   go_simp
   refine hK.out _ _ hSe (fun _ => ?_)
   clear hK K
   try simp only [Act.put, zA, zB, zC]
   refine wpAnyH_done (by kernel_rfl) ?_ _
   clear hSu hS5 hS9 hSe f9 c5 d5 d9
   go_end0
   exact ⟨rfl, _, ⟨_, HEND.out⟩, .tickP t L5 HT.out HL5.out.1 (by have := HV5.out.len; have := HL5.out.2; omega)⟩
  ·skip
   try rw [if_pos (by rfl)]
   go_simp
   go_at_call 35
   refine (HU.out.pn.tickC t (fun y hy => by have := HX.out.tr y hy; omega)).mono ?_
   rintro en u5 ⟨A5, n5, c5b, L5, rfl, hv5, hL5, hn5, hl5, hc5⟩
   have h5 := HU.out.port hl5 (.same hc5)
   have hS5 : u5.cell? ⟨wb, 1, none⟩ = some (.pointer (some ⟨Z.pb, 0, none⟩)) ∧ u5.cell? ⟨wb, 2, none⟩ = some (.int .i64 t) := ⟨h5.own.cell 1 (wcl_at _ _ (by omega) rfl), h5.own.cell 2 (wcl_at _ _ (by omega) rfl)⟩
   have d5 := h5.own.cell 5 (wcl_at _ _ (by omega) (u := Z.wv) rfl)
   have H5 := Kp.mk h5
   have HV5 := Kp.mk hv5.out
   have HL5 := Kp.mk (And.intro hL5 hn5)
   clear hl5 hc5 h5 hv5 hL5 hn5
   refine hK.out _ _ hS5 (fun _ => ?_)
   clear hK K
   try simp only [Act.put, zA, zB, zC]
   refine rD 4 rfl fun K hK => ?_
   try rw [if_pos (by rfl)]
   go_simp
   refine hK.out _ _ hS5 (fun _ => ?_)
   clear hK K
   try simp only [Act.put, zA, zB, zC]
   obtain ⟨A9, c9, w9, hrun, ho9, _, h9⟩ := H5.out.wire 37 HV5.out (show x.wire.length + n5 ≤ 100000 by have := HWL.out; have := HL5.out.2; omega)
   have hS9 : w9.cell? ⟨wb, 1, none⟩ = some (.pointer (some ⟨Z.pb, 0, none⟩)) ∧ w9.cell? ⟨wb, 2, none⟩ = some (.int .i64 t) := ⟨ho9.cell 1 (wcl_at _ _ (by omega) rfl), ho9.cell 2 (wcl_at _ _ (by omega) rfl)⟩
   have f9 := ho9.free 5
   have d9 := ho9.cell 5 (wcl_at _ _ (by omega) (u := Z.wv) rfl)
   have hSe : (w9.setCell ⟨wb, 5, none⟩ (.slice A9 (x.wire.length + n5) c9)).cell? ⟨wb, 1, none⟩ = some (.pointer (some ⟨Z.pb, 0, none⟩)) ∧ (w9.setCell ⟨wb, 5, none⟩ (.slice A9 (x.wire.length + n5) c9)).cell? ⟨wb, 2, none⟩ = some (.int .i64 t) := ⟨h9.own.cell 1 (wcl_at _ _ (by omega) rfl), h9.own.cell 2 (wcl_at _ _ (by omega) rfl)⟩
   have HEND := Kp.mk h9
   clear h9 ho9
   refine rD 14 rfl fun K hK => ?_
   try rw [if_pos (by rfl)]
   refine sndOp_append (.tmp 94) (.tmp 103) rfl rfl rfl hrun (hK.out _ _ hS9 (fun _ => ?_))
   clear hK K hrun
   try simp only [Act.put, zA, zB, zC]
   refine tD 15 (.pointer (some ⟨wb, 0, none⟩)) 105 rfl rfl hS9 (fun _ _ => by go_simp) ?_
   try simp only [Act.put, zA, zB, zC]
   refine tD 16 (.pointer (some ⟨wb, 5, none⟩)) 106 rfl rfl hS9 (fun _ _ => by go_simp) ?_
   try simp only [Act.put, zA, zB, zC]
   refine rD 17 rfl fun K hK => ?_
   try rw [if_pos (by rfl)]
   go_simp
   refine hK.out _ _ hSe (fun _ => ?_)
   clear hK K
   try simp only [Act.put, zA, zB, zC]
   refine wpAnyH_done (by kernel_rfl) ?_ _
   clear hSu hS5 hS9 hSe f9 c5 d5 d9
   go_end0
   exact ⟨rfl, _, ⟨_, HEND.out⟩, .tickP t L5 HT.out HL5.out.1 (by have := HV5.out.len; have := HL5.out.2; omega)⟩
 ·as_aux_lemma =>
  have e2 := HE2.out
  have e3 : wrap64 (x.now + d) = x.now + d := by have := HX.out.now; have := HD.out; unfold wrap64; omega
  have a2 := HH.out.own.cell 2 (wcl_at _ Z (by omega) (u := .int .i64 x.now) rfl)
  have f2 := HH.out.own.free 2
  go_upto_region 13 with fail
  have h0 : Ww W (w.setCell ⟨wb, 2, none⟩ (.int .i64 (x.now + d))) wb Z { x with now := x.now + d } := HH.out.cell 2 _ (wcl_setNow x Z (x.now + d)) ⟨rfl, rfl, rfl, rfl⟩ ⟨rfl, rfl, rfl, rfl, rfl, rfl, rfl, rfl⟩
  have H0 := Kp.mk h0
  clear e2 e3 a2 f2 h0 hz hd
  generalize w.setCell ⟨wb, 2, none⟩ (.int .i64 (x.now + d)) = w0 at *
  obtain ⟨t, ht⟩ : ∃ t, t = x.now + d := ⟨_, rfl⟩
  rw [← ht] at H0
  have HT := Kp.mk (show x.now ≤ t ∧ t < x.now + 6 by have := HD.out; omega)
  clear ht
  have hd := H0.out.below (Below.refl _ w0).drew
  refine wp_region_held_drew (S := fun X => X.cell? ⟨wb, 1, none⟩ = some (.pointer (some ⟨Z.pb, 0, none⟩)) ∧ X.cell? ⟨wb, 2, none⟩ = some (.int .i64 t)) (by kernel_rfl) ⟨hd.own.cell 1 (wcl_at _ Z (by omega) rfl), hd.own.cell 2 (wcl_at _ Z (by omega) rfl)⟩ (fun hSu => ?_)
  have HU := Kp.mk hd
  clear hd
  generalize w0.drew = u at *
  refine tD 0 (.pointer (some ⟨wb, 0, none⟩)) 90 rfl rfl hSu (fun _ _ => by go_simp) ?_
  try simp only [Act.put, zA, zB, zC]
  refine tD 1 (.pointer (some ⟨wb, 0, none⟩)) 91 rfl rfl hSu (fun _ _ => by go_simp) ?_
  try simp only [Act.put, zA, zB, zC]
  refine tD 2 (.pointer (some ⟨wb, 0, none⟩)) 92 rfl rfl hSu (fun _ _ => by go_simp) ?_
  try simp only [Act.put, zA, zB, zC]
  refine tD 3 (.pointer (some ⟨wb, 5, none⟩)) 93 rfl rfl hSu (fun _ _ => by go_simp) ?_
  try simp only [Act.put, zA, zB, zC]
  refine tD 5 (.pointer (some ⟨wb, 0, none⟩)) 95 rfl rfl hSu (fun _ _ => by go_simp) ?_
  try simp only [Act.put, zA, zB, zC]
  refine tD 6 (.pointer (some ⟨wb, 0, none⟩)) 96 rfl rfl hSu (fun _ _ => by go_simp) ?_
  try simp only [Act.put, zA, zB, zC]
  refine tD 7 (.pointer (some ⟨wb, 1, none⟩)) 97 rfl rfl hSu (fun _ _ => by go_simp) ?_
  try simp only [Act.put, zA, zB, zC]
  refine tD 8 (.pointer (some ⟨Z.pb, 0, none⟩)) 98 rfl rfl hSu ?_ ?_
  ·rintro w' hq
   obtain ⟨hq1, hq2⟩ := hq
   go_simp
  try simp only [Act.put, zA, zB, zC]
  refine tD 9 (.pointer (some ⟨wb, 0, none⟩)) 99 rfl rfl hSu (fun _ _ => by go_simp) ?_
  try simp only [Act.put, zA, zB, zC]
  refine tD 10 (.pointer (some ⟨wb, 0, none⟩)) 100 rfl rfl hSu (fun _ _ => by go_simp) ?_
  try simp only [Act.put, zA, zB, zC]
  refine tD 11 (.pointer (some ⟨wb, 2, none⟩)) 101 rfl rfl hSu (fun _ _ => by go_simp) ?_
  try simp only [Act.put, zA, zB, zC]
  refine tD 12 (.int .i64 t) 102 rfl rfl hSu ?_ ?_
  ·rintro w' hq
   obtain ⟨hq1, hq2⟩ := hq
   go_simp
  try simp only [Act.put, zA, zB, zC]
  have c5 := HU.out.own.cell 5 (wcl_at _ Z (by omega) (u := Z.wv) rfl)
  refine wpAnyH_ready (rs := [4, 13]) (by kernel_rfl) (by simp) ?_
  refine AllReadyH.cons rfl (fun K hK => ?_) (AllReadyH.cons rfl (fun K hK => ?_) AllReadyH.nil)
  ·skip
   try rw [if_pos (by rfl)]
   go_simp
   refine hK.out _ _ hSu (fun _ => ?_)
   clear hK K
   try simp only [Act.put, zA, zB, zC]
   refine rD 13 rfl fun K hK => ?_
   try rw [if_pos (by rfl)]
   go_simp
   go_at_call 35
   refine (HU.out.pn.tickC t (fun y hy => by have := HX.out.tr y hy; omega)).mono ?_
   rintro en u5 ⟨A5, n5, c5b, L5, rfl, hv5, hL5, hn5, hl5, hc5⟩
   have h5 := HU.out.port hl5 (.same hc5)
   have hS5 : u5.cell? ⟨wb, 1, none⟩ = some (.pointer (some ⟨Z.pb, 0, none⟩)) ∧ u5.cell? ⟨wb, 2, none⟩ = some (.int .i64 t) := ⟨h5.own.cell 1 (wcl_at _ _ (by omega) rfl), h5.own.cell 2 (wcl_at _ _ (by omega) rfl)⟩
   have d5 := h5.own.cell 5 (wcl_at _ _ (by omega) (u := Z.wv) rfl)
   have H5 := Kp.mk h5
   have HV5 := Kp.mk hv5.out
   have HL5 := Kp.mk (And.intro hL5 hn5)
   clear hl5 hc5 h5 hv5 hL5 hn5
   refine hK.out _ _ hS5 (fun _ => ?_)
   clear hK K
   try simp only [Act.put, zA, zB, zC]
   obtain ⟨A9, c9, w9, hrun, ho9, _, h9⟩ := H5.out.wire 37 HV5.out (show x.wire.length + n5 ≤ 100000 by have := HWL.out; have := HL5.out.2; omega)
   have hS9 : w9.cell? ⟨wb, 1, none⟩ = some (.pointer (some ⟨Z.pb, 0, none⟩)) ∧ w9.cell? ⟨wb, 2, none⟩ = some (.int .i64 t) := ⟨ho9.cell 1 (wcl_at _ _ (by omega) rfl), ho9.cell 2 (wcl_at _ _ (by omega) rfl)⟩
   have f9 := ho9.free 5
   have d9 := ho9.cell 5 (wcl_at _ _ (by omega) (u := Z.wv) rfl)
   have hSe : (w9.setCell ⟨wb, 5, none⟩ (.slice A9 (x.wire.length + n5) c9)).cell? ⟨wb, 1, none⟩ = some (.pointer (some ⟨Z.pb, 0, none⟩)) ∧ (w9.setCell ⟨wb, 5, none⟩ (.slice A9 (x.wire.length + n5) c9)).cell? ⟨wb, 2, none⟩ = some (.int .i64 t) := ⟨h9.own.cell 1 (wcl_at _ _ (by omega) rfl), h9.own.cell 2 (wcl_at _ _ (by omega) rfl)⟩
   have HEND := Kp.mk h9
   clear h9 ho9
   refine rD 14 rfl fun K hK => ?_
   try rw [if_pos (by rfl)]
   refine sndOp_append (.tmp 94) (.tmp 103) rfl rfl rfl hrun (hK.out _ _ hS9 (fun _ => ?_))
   clear hK K hrun
   try simp only [Act.put, zA, zB, zC]
   refine tD 15 (.pointer (some ⟨wb, 0, none⟩)) 105 rfl rfl hS9 (fun _ _ => by go_simp) ?_
   try simp only [Act.put, zA, zB, zC]
   refine tD 16 (.pointer (some ⟨wb, 5, none⟩)) 106 rfl rfl hS9 (fun _ _ => by go_simp) ?_
   try simp only [Act.put, zA, zB, zC]
   refine rD 17 rfl fun K hK => ?_
   try rw [if_pos (by rfl)]
   go_simp
   refine hK.out _ _ hSe (fun _ => ?_)
   clear hK K
   try simp only [Act.put, zA, zB, zC]
   refine wpAnyH_done (by kernel_rfl) ?_ _
   clear hSu hS5 hS9 hSe f9 c5 d5 d9
   go_end0
   exact ⟨rfl, _, ⟨_, HEND.out⟩, .tickP t L5 HT.out HL5.out.1 (by have := HV5.out.len; have := HL5.out.2; omega)⟩
  ·skip
   try rw [if_pos (by rfl)]
   go_simp
   go_at_call 35
   refine (HU.out.pn.tickC t (fun y hy => by have := HX.out.tr y hy; omega)).mono ?_
   rintro en u5 ⟨A5, n5, c5b, L5, rfl, hv5, hL5, hn5, hl5, hc5⟩
   have h5 := HU.out.port hl5 (.same hc5)
   have hS5 : u5.cell? ⟨wb, 1, none⟩ = some (.pointer (some ⟨Z.pb, 0, none⟩)) ∧ u5.cell? ⟨wb, 2, none⟩ = some (.int .i64 t) := ⟨h5.own.cell 1 (wcl_at _ _ (by omega) rfl), h5.own.cell 2 (wcl_at _ _ (by omega) rfl)⟩
   have d5 := h5.own.cell 5 (wcl_at _ _ (by omega) (u := Z.wv) rfl)
   have H5 := Kp.mk h5
   have HV5 := Kp.mk hv5.out
   have HL5 := Kp.mk (And.intro hL5 hn5)
   clear hl5 hc5 h5 hv5 hL5 hn5
   refine hK.out _ _ hS5 (fun _ => ?_)
   clear hK K
   try simp only [Act.put, zA, zB, zC]
   refine rD 4 rfl fun K hK => ?_
   try rw [if_pos (by rfl)]
   go_simp
   refine hK.out _ _ hS5 (fun _ => ?_)
   clear hK K
   try simp only [Act.put, zA, zB, zC]
   obtain ⟨A9, c9, w9, hrun, ho9, _, h9⟩ := H5.out.wire 37 HV5.out (show x.wire.length + n5 ≤ 100000 by have := HWL.out; have := HL5.out.2; omega)
   have hS9 : w9.cell? ⟨wb, 1, none⟩ = some (.pointer (some ⟨Z.pb, 0, none⟩)) ∧ w9.cell? ⟨wb, 2, none⟩ = some (.int .i64 t) := ⟨ho9.cell 1 (wcl_at _ _ (by omega) rfl), ho9.cell 2 (wcl_at _ _ (by omega) rfl)⟩
   have f9 := ho9.free 5
   have d9 := ho9.cell 5 (wcl_at _ _ (by omega) (u := Z.wv) rfl)
   have hSe : (w9.setCell ⟨wb, 5, none⟩ (.slice A9 (x.wire.length + n5) c9)).cell? ⟨wb, 1, none⟩ = some (.pointer (some ⟨Z.pb, 0, none⟩)) ∧ (w9.setCell ⟨wb, 5, none⟩ (.slice A9 (x.wire.length + n5) c9)).cell? ⟨wb, 2, none⟩ = some (.int .i64 t) := ⟨h9.own.cell 1 (wcl_at _ _ (by omega) rfl), h9.own.cell 2 (wcl_at _ _ (by omega) rfl)⟩
   have HEND := Kp.mk h9
   clear h9 ho9
   refine rD 14 rfl fun K hK => ?_
   try rw [if_pos (by rfl)]
   refine sndOp_append (.tmp 94) (.tmp 103) rfl rfl rfl hrun (hK.out _ _ hS9 (fun _ => ?_))
   clear hK K hrun
   try simp only [Act.put, zA, zB, zC]
   refine tD 15 (.pointer (some ⟨wb, 0, none⟩)) 105 rfl rfl hS9 (fun _ _ => by go_simp) ?_
   try simp only [Act.put, zA, zB, zC]
   refine tD 16 (.pointer (some ⟨wb, 5, none⟩)) 106 rfl rfl hS9 (fun _ _ => by go_simp) ?_
   try simp only [Act.put, zA, zB, zC]
   refine rD 17 rfl fun K hK => ?_
   try rw [if_pos (by rfl)]
   go_simp
   refine hK.out _ _ hSe (fun _ => ?_)
   clear hK K
   try simp only [Act.put, zA, zB, zC]
   refine wpAnyH_done (by kernel_rfl) ?_ _
   clear hSu hS5 hS9 hSe f9 c5 d5 d9
   go_end0
   exact ⟨rfl, _, ⟨_, HEND.out⟩, .tickP t L5 HT.out HL5.out.1 (by have := HV5.out.len; have := HL5.out.2; omega)⟩
 ·as_aux_lemma =>
  go_upto_region 16 with fail
  go_wp2_with fail
  refine (sendsL_any HH.out (by have := HX.out.le; have := HX.out.ep; omega) HX.out.sent HX.out.rows).mono ?_
  rintro en u ⟨rfl, Z', h'⟩
  have HEND := Kp.mk h'
  clear h'
  go_wp2_with fail
  go_end0
  exact ⟨rfl, _, ⟨_, HEND.out⟩, .sendL⟩
 ·as_aux_lemma =>
  go_upto_region 16 with fail
  go_wp2_with fail
  refine (sendsL_any HH.out (by have := HX.out.le; have := HX.out.ep; omega) HX.out.sent HX.out.rows).mono ?_
  rintro en u ⟨rfl, Z', h'⟩
  have HEND := Kp.mk h'
  clear h'
  go_wp2_with fail
  go_end0
  exact ⟨rfl, _, ⟨_, HEND.out⟩, .sendL⟩
 ·as_aux_lemma =>
  go_upto_region 18 with fail
  go_wp2_with fail
  refine (sendsP_any HH.out HX.out.sent HX.out.rows).mono ?_
  rintro en u ⟨rfl, Z', h'⟩
  have HEND := Kp.mk h'
  clear h'
  go_wp2_with fail
  go_end0
  exact ⟨rfl, _, ⟨_, HEND.out⟩, .sendP⟩
 ·as_aux_lemma =>
  go_upto_region 20 with fail
  by_cases hx7 : (7000 : Int) < k
  rotate_left
  ·go_wp2_with fail
   go_end0
   exact ⟨rfl, x, ⟨Z, HH.out⟩, .same⟩
  have e3 : wrap64 (x.boot + 1) = x.boot + 1 := by have := HX.out.boot; unfold wrap64; omega
  have a3 := HH.out.own.cell 3 (wcl_at _ Z (by omega) (u := .int .i64 x.boot) rfl)
  have f3 := HH.out.own.free 3
  go_upto_region 22 with fail
  have h0 : Ww W (w.setCell ⟨wb, 3, none⟩ (.int .i64 (x.boot + 1))) wb Z { x with boot := x.boot + 1 } := HH.out.cell 3 _ (wcl_setBoot x Z (x.boot + 1)) ⟨rfl, rfl, rfl, rfl⟩ ⟨rfl, rfl, rfl, rfl, rfl, rfl, rfl, rfl⟩
  have H0 := Kp.mk h0
  clear e3 a3 f3 h0 hz hd hx7
  generalize w.setCell ⟨wb, 3, none⟩ (.int .i64 (x.boot + 1)) = w0 at *
  have HB := Kp.mk (show 0 ≤ x.boot + 1 ∧ x.boot + 1 ≤ 4294967295 by have := HX.out.boot; omega)
  have a3 := H0.out.own.cell 3 (wcl_at _ Z (by omega) (u := .int .i64 (x.boot + 1)) rfl)
  go_upto_region 23 with (refine (newPort_yes _ 3 (x.boot + 1) (by omega) HB.out).mono ?_; rintro en u ⟨pb, gq, rfl, hp, hp1, hp2, hbel⟩)
  clear a3
  have H1 := Kp.mk (H0.out.below hbel)
  have HP := Kp.mk hp
  have HN := Kp.mk (And.intro hp1 hp2)
  clear hp hp1 hp2 hbel
  have a11 := H1.out.own.cell 1031 (wcl_fine _ Z)
  rw [show ({ x with boot := x.boot + 1 } : Wd).fine = true from HX.out.fine] at a11
  have f11 := H1.out.own.free 1031
  go_upto_region 24 with fail
  have H2 := Kp.mk (H1.out.fine HX.out.fine)
  have HP2 := Kp.mk (HP.out.stay (Ch.of_grown (grownBy_set u wb 1031 (.bool true))) (fun k e e2 => HP.out.nots H1.out.own (.inr (.inr (.inl rfl))) (e2 ▸ e)) (nob_vb H1.out.own (by decide) (by decide)))
  clear a11 f11 H1 HP
  generalize u.setCell ⟨wb, 1031, none⟩ (.bool true) = u2 at *
  have hk1 : ∀ k, lown pb gq (bk0 pb) k → k = pb ∨ k = gq := fun k e => by
   rcases e with e | e | e
   ·exact .inl e
   ·exact .inr e
   ·exact .inl (bk0_own.1 e)
  have H3 := Kp.mk (H2.out.newp HP2.out (fun k e e2 => by
   have h1 := H0.out.ln.lt k e
   have := HN.out
   rcases hk1 k e2 with e3 | e3 <;> omega) (fun k e => by
   have := HN.out
   have := H0.out.old.size
   rcases hk1 k e with e3 | e3 <;> omega))
  clear hk1
  have f1 := H2.out.own.free 1
  have a1 := H2.out.own.cell 1 (wcl_at _ Z (by omega) (u := .pointer (some ⟨Z.pb, 0, none⟩)) rfl)
  clear H2 HP2
  go_wp2_with fail
  go_end0
  exact ⟨rfl, _, ⟨_, H3.out⟩, .boots⟩
 ·as_aux_lemma =>
  have a4 := HH.out.own.cell 4 (wcl_at _ Z (by omega) (u := .int .i64 x.ep) rfl)
  go_upto_region 26 with fail
  have hno : ∀ b : Bool, b = ((decide (6000 < k) || (x.ep == 0)) && decide (x.ep < 250)) → b = false ∨ (b = true ∧ x.ep < 250) := fun b e => by
   cases b with
   | false => exact .inl rfl
   | true => exact .inr ⟨rfl, of_decide_eq_true (Bool.and_eq_true_iff.mp e.symm).2⟩
  rename_i K26 h26
  go_cut [168] from 153 to 168 (fun s168 wx => s168 = .bool ((decide (6000 < k) || (x.ep == 0)) && decide (x.ep < 250)) ∧ wx = w)
  case first =>
   by_cases c1 : (6000 : Int) < k
   ·by_cases c2 : x.ep < 250
    ·go_wp2_with fail
     go_meet
     case rel => exact ⟨by rw [decide_eq_true (show 6000 < k by omega), decide_eq_true (show x.ep < 250 by omega)]; rfl, rfl⟩
    ·go_wp2_with fail
     go_meet
     case rel => exact ⟨by rw [decide_eq_false (show ¬ x.ep < 250 by omega), Bool.and_false], rfl⟩
   ·by_cases c3 : x.ep = 0
    ·have c4 : (x.ep == 0) = true := by simp [c3]
     have c2 : x.ep < 250 := by omega
     go_wp2_with fail
     go_meet
     case rel => exact ⟨by rw [c4, decide_eq_true (show x.ep < 250 by omega), Bool.or_true]; rfl, rfl⟩
    ·have c4 : (x.ep == 0) = false := by simp [c3]
     go_wp2_with fail
     go_meet
     case rel => exact ⟨by rw [c4, decide_eq_false (show ¬ 6000 < k by omega)]; rfl, rfl⟩
  obtain ⟨e168, hwx⟩ := hcut
  subst hwx
  refine h26 _ _ ?_
  rcases hno _ rfl with e9 | ⟨e9, hep⟩
  ·rw [e9] at e168
   subst e168
   clear e9 hno
   go_wp2_with fail
   go_end0
   exact ⟨rfl, x, ⟨Z, HH.out⟩, .same⟩
  rw [e9] at e168
  subst e168
  have HEP := Kp.mk hep
  clear e9 hno hep
  have e3 : wrap64 (x.ep + 1) = x.ep + 1 := by have := HX.out.ep; unfold wrap64; omega
  have f4 := HH.out.own.free 4
  go_upto_region 28 with fail
  have h0 : Ww W (wc.setCell ⟨wb, 4, none⟩ (.int .i64 (x.ep + 1))) wb Z { x with ep := x.ep + 1 } := HH.out.cell 4 _ (wcl_setEp x Z (x.ep + 1)) ⟨rfl, rfl, rfl, rfl⟩ ⟨rfl, rfl, rfl, rfl, rfl, rfl, rfl, rfl⟩
  have H0 := Kp.mk h0
  clear e3 a4 f4 h0 hz hd
  generalize wc.setCell ⟨wb, 4, none⟩ (.int .i64 (x.ep + 1)) = w0 at *
  have hd0 := H0.out.below (Below.refl _ w0).drew
  refine wp_region_held_drew (S := fun X => X.cell? ⟨wb, 0, none⟩ = some (.pointer (some ⟨Z.lb, 0, none⟩)) ∧ X.cell? ⟨wb, 2, none⟩ = some (.int .i64 x.now) ∧ X.cell? ⟨wb, 4, none⟩ = some (.int .i64 (x.ep + 1)) ∧ X.cell? ⟨wb, 1031, none⟩ = some (.bool true)) (by kernel_rfl) ⟨hd0.own.cell 0 (wcl_at _ Z (by omega) rfl), hd0.own.cell 2 (wcl_at _ Z (by omega) rfl), hd0.own.cell 4 (wcl_at _ Z (by omega) rfl), (hd0.own.cell 1031 (wcl_fine _ _)).trans (congrArg (fun b => some (Value.bool b)) HX.out.fine)⟩ (fun hSu => ?_)
  have HU := Kp.mk hd0
  clear hd0
  generalize w0.drew = u at *
  refine tD 0 (.pointer (some ⟨wb, 0, none⟩)) 177 rfl rfl hSu (fun _ _ => by go_simp) ?_
  try simp only [Act.put, zA, zB, zC]
  refine tD 1 (.pointer (some ⟨wb, 0, none⟩)) 178 rfl rfl hSu (fun _ _ => by go_simp) ?_
  try simp only [Act.put, zA, zB, zC]
  refine tD 2 (.pointer (some ⟨wb, 0, none⟩)) 179 rfl rfl hSu (fun _ _ => by go_simp) ?_
  try simp only [Act.put, zA, zB, zC]
  refine tD 3 (.pointer (some ⟨wb, 1031, none⟩)) 180 rfl rfl hSu (fun _ _ => by go_simp) ?_
  try simp only [Act.put, zA, zB, zC]
  refine tD 4 (.bool true) 181 rfl rfl hSu ?_ ?_
  ·rintro w' hq
   obtain ⟨hq1, hq2, hq3, hq4⟩ := hq
   go_simp
  try simp only [Act.put, zA, zB, zC]
  refine tD 5 (.bool true) 182 rfl rfl hSu (fun _ _ => by go_simp) ?_
  try simp only [Act.put, zA, zB, zC]
  refine tD 6 (.pointer (some ⟨wb, 0, none⟩)) 183 rfl rfl hSu (fun _ _ => by go_simp) ?_
  try simp only [Act.put, zA, zB, zC]
  refine tD 7 (.pointer (some ⟨wb, 0, none⟩)) 184 rfl rfl hSu (fun _ _ => by go_simp) ?_
  try simp only [Act.put, zA, zB, zC]
  refine tD 8 (.pointer (some ⟨wb, 0, none⟩)) 185 rfl rfl hSu (fun _ _ => by go_simp) ?_
  try simp only [Act.put, zA, zB, zC]
  refine tD 9 (.pointer (some ⟨Z.lb, 0, none⟩)) 186 rfl rfl hSu ?_ ?_
  ·rintro w' hq
   obtain ⟨hq1, hq2, hq3, hq4⟩ := hq
   go_simp
  try simp only [Act.put, zA, zB, zC]
  refine tD 10 (.pointer (some ⟨wb, 0, none⟩)) 187 rfl rfl hSu (fun _ _ => by go_simp) ?_
  try simp only [Act.put, zA, zB, zC]
  refine tD 11 (.pointer (some ⟨wb, 0, none⟩)) 188 rfl rfl hSu (fun _ _ => by go_simp) ?_
  try simp only [Act.put, zA, zB, zC]
  refine tD 12 (.pointer (some ⟨wb, 4, none⟩)) 189 rfl rfl hSu (fun _ _ => by go_simp) ?_
  try simp only [Act.put, zA, zB, zC]
  refine tD 13 (.int .i64 (x.ep + 1)) 190 rfl rfl hSu ?_ ?_
  ·rintro w' hq
   obtain ⟨hq1, hq2, hq3, hq4⟩ := hq
   go_simp
  try simp only [Act.put, zA, zB, zC]
  refine tD 14 (.pointer (some ⟨wb, 0, none⟩)) 191 rfl rfl hSu (fun _ _ => by go_simp) ?_
  try simp only [Act.put, zA, zB, zC]
  refine tD 15 (.pointer (some ⟨wb, 0, none⟩)) 192 rfl rfl hSu (fun _ _ => by go_simp) ?_
  try simp only [Act.put, zA, zB, zC]
  refine tD 16 (.pointer (some ⟨wb, 2, none⟩)) 193 rfl rfl hSu (fun _ _ => by go_simp) ?_
  try simp only [Act.put, zA, zB, zC]
  refine tD 17 (.int .i64 x.now) 194 rfl rfl hSu ?_ ?_
  ·rintro w' hq
   obtain ⟨hq1, hq2, hq3, hq4⟩ := hq
   go_simp
  try simp only [Act.put, zA, zB, zC]
  refine rD 18 rfl fun K hK => ?_
  try rw [if_pos (by rfl)]
  go_simp
  go_at_call 31
  refine (HU.out.ln.beginC (x.ep + 1) x.now).mono ?_
  rintro en u5 ⟨e5, q5, c5, hl5, ht5⟩
  rw [show Ls.begE x.l (x.ep + 1) x.now = 0 from begE_yes (by have := HX.out.le; omega) (by have := HEP.out; omega) HX.out.now] at e5
  subst e5
  have h5 := HU.out.line hl5 ht5
  have hS5 : u5.cell? ⟨wb, 0, none⟩ = some (.pointer (some ⟨Z.lb, 0, none⟩)) ∧ u5.cell? ⟨wb, 2, none⟩ = some (.int .i64 x.now) ∧ u5.cell? ⟨wb, 4, none⟩ = some (.int .i64 (x.ep + 1)) ∧ u5.cell? ⟨wb, 1031, none⟩ = some (.bool true) := ⟨h5.own.cell 0 (wcl_at _ _ (by omega) rfl), h5.own.cell 2 (wcl_at _ _ (by omega) rfl), h5.own.cell 4 (wcl_at _ _ (by omega) rfl), (h5.own.cell 1031 (wcl_fine _ _)).trans (congrArg (fun b => some (Value.bool b)) HX.out.fine)⟩
  have H5 := Kp.mk h5
  clear hl5 ht5 h5
  refine hK.out _ _ hS5 (fun _ => ?_)
  clear hK K
  try simp only [Act.put, zA, zB, zC]
  refine tD 19 (.bool true) 196 rfl rfl hS5 (fun _ _ => by go_simp) ?_
  try simp only [Act.put, zA, zB, zC]
  refine tD 20 (.bool true) 197 rfl rfl hS5 (fun _ _ => by go_simp) ?_
  try simp only [Act.put, zA, zB, zC]
  refine tD 21 (.pointer (some ⟨wb, 0, none⟩)) 198 rfl rfl hS5 (fun _ _ => by go_simp) ?_
  try simp only [Act.put, zA, zB, zC]
  refine tD 22 (.pointer (some ⟨wb, 1031, none⟩)) 199 rfl rfl hS5 (fun _ _ => by go_simp) ?_
  try simp only [Act.put, zA, zB, zC]
  have h9 := H5.out.fine HX.out.fine
  have f9 := H5.out.own.free 1031
  have hSe : (u5.setCell ⟨wb, 1031, none⟩ (.bool true)).cell? ⟨wb, 0, none⟩ = some (.pointer (some ⟨Z.lb, 0, none⟩)) ∧ (u5.setCell ⟨wb, 1031, none⟩ (.bool true)).cell? ⟨wb, 2, none⟩ = some (.int .i64 x.now) ∧ (u5.setCell ⟨wb, 1031, none⟩ (.bool true)).cell? ⟨wb, 4, none⟩ = some (.int .i64 (x.ep + 1)) ∧ (u5.setCell ⟨wb, 1031, none⟩ (.bool true)).cell? ⟨wb, 1031, none⟩ = some (.bool true) := ⟨h9.own.cell 0 (wcl_at _ _ (by omega) rfl), h9.own.cell 2 (wcl_at _ _ (by omega) rfl), h9.own.cell 4 (wcl_at _ _ (by omega) rfl), (h9.own.cell 1031 (wcl_fine _ _)).trans (congrArg (fun b => some (Value.bool b)) HX.out.fine)⟩
  have HEND := Kp.mk h9
  clear h9
  refine rD 23 rfl fun K hK => ?_
  try rw [if_pos (by rfl)]
  go_simp
  refine hK.out _ _ hSe (fun _ => ?_)
  clear hK K
  try simp only [Act.put, zA, zB, zC]
  refine wpAnyH_done (by kernel_rfl) ?_ _
  clear hSu hS5 hSe f9
  go_end0
  exact ⟨rfl, _, ⟨_, HEND.out⟩, .begins HEP.out⟩
 ·as_aux_lemma =>
  have g0 : (z == 0) = false := by simp; omega
  have g1 : (z == 1) = false := by simp; omega
  have g2 : (z == 2) = false := by simp; omega
  have g3 : (z == 3) = false := by simp; omega
  have g4 : (z == 4) = false := by simp; omega
  have g5 : (z == 5) = false := by simp; omega
  have g6 : (z == 6) = false := by simp; omega
  have g7 : (z == 7) = false := by simp; omega
  have g8 : (z == 8) = false := by simp; omega
  obtain ⟨WA, Wc, eW, _⟩ := HH.out.wi.os.form
  have a5 := HH.out.own.cell 5 (wcl_at _ Z (by omega) (u := Z.wv) rfl)
  rw [eW] at a5
  have HWI := Kp.mk HH.out.wi
  rw [eW] at HWI
  generalize hln : x.wire.length = ln at *
  have HLN := Kp.mk hln
  go_upto_region 1 with fail
  clear g0 g1 g2 g3 g4 g5 g6 g7 g8
  by_cases hln0 : ln = 0
  ·have e0 : decide ((0 : Int) < ln) = false := by simp [hln0]
   subst hln0
   go_wp2_with fail
   go_end0
   exact ⟨rfl, x, ⟨Z, HH.out⟩, .same⟩
  have e0 : (0 : Int) < ln := by omega
  have e1 : ¬ (ln : Int) = 0 := by omega
  have e2 := HE2.out
  obtain ⟨j0, hj0, hj1⟩ : ∃ j0 : Nat, (k.tdiv 16).tmod (ln : Int) = j0 ∧ j0 < ln := by
   have := HK.out
   have h1 : 0 ≤ k.tdiv 16 := by rw [Int.tdiv_eq_ediv_of_nonneg (by omega)]; omega
   have h2 := Int.emod_nonneg (k.tdiv 16) (b := (ln : Int)) (by omega)
   have h3 := Int.emod_lt_of_pos (k.tdiv 16) (b := (ln : Int)) (by omega)
   rw [Int.tmod_eq_emod_of_nonneg h1]
   exact ⟨((k.tdiv 16) % (ln : Int)).toNat, by omega, by omega⟩
  have HJ0 := Kp.mk hj1
  go_upto_region 2 with fail
  rw [show decide (0 < ln) = true from decide_eq_true (by omega)]
  rename_i K2 h2
  go_cut [6] from 15 to 22 (fun s6 wx => s6 = .int .i64 j0 ∧ wx = w)
  case first =>
   go_wp2_with fail
   go_meet
   case rel => exact ⟨rfl, rfl⟩
  obtain ⟨rfl, hwx⟩ := hcut
  subst hwx
  refine h2 _ _ ?_
  apply wp_seq_k
  intro K3 h3
  clear e0 e1 e2 hj0 hd hln0 hj1
  go_cut [6] from 23 to 35 (fun s6 wx => ∃ j : Nat, s6 = .int .i64 j ∧ Kp (j < ln) ∧ wx = wc)
  case first =>
   by_cases hz10 : (10 : Int) < z
   ·have e4 : (j0 : Int).tmod 6 = ((j0 % 6 : Nat) : Int) := by rw [Int.tmod_eq_emod_of_nonneg (by omega)]; omega
    have e5 : wrap64 ((ln : Int) - 1) = (ln : Int) - 1 := by have := HWL.out; have := HJ0.out; unfold wrap64; omega
    have hw0 := HWL.out
    go_wp2_with fail
    ·go_meet
     case rel => exact ⟨0, rfl, Kp.mk (by have := HJ0.out; omega), rfl⟩
    ·go_meet
     case rel => exact ⟨ln - 1 - j0 % 6, congrArg (Value.int .i64) (by first | omega | (unfold wrap64 at h ⊢; omega)), Kp.mk (by have := HJ0.out; omega), rfl⟩
   ·go_wp2_with fail
    go_meet
    case rel => exact ⟨j0, rfl, HJ0, rfl⟩
  obtain ⟨j, rfl, HJ, hwx⟩ := hcut
  subst hwx
  refine h3 _ _ ?_
  clear hz HJ0
  obtain ⟨sx, hsx⟩ : ∃ sx, x.wire[j]? = some sx := ⟨_, List.getElem?_eq_getElem (by have := HLN.out; have := HJ.out; omega)⟩
  have HMem := Kp.mk (List.mem_of_getElem? hsx)
  have HMok := Kp.mk (HH.out.wi.ok _ HMem.out)
  obtain ⟨⟨sk, st, sf, sh, sp, so, ss, sa, sA, sn, sc⟩, sl⟩ := sx
  obtain ⟨gW, egW, q0, q1, q2, q3, q4, q5, q6, q7, q8⟩ := HWI.out.nine hsx
  subst egW
  have hjl : (j : Int) < ln := by have := HJ.out; omega
  clear hsx HWI
  by_cases ht : st = 0
  ·have hcm := comesL_yes HH.out HMok.out ht (by have := HX.out.le; have := HX.out.ep; omega) (HX.out.fl _ HMem.out ht)
   simp only [Sv.v] at hcm
   have HT0 := Kp.mk ht
   clear ht
   go_wp2_with fail
   refine hcm.mono ?_
   rintro en u ⟨rfl, h'⟩
   have HEND := Kp.mk h'
   clear h' hcm q0 q1 q2 q3 q4 q5 q6 q7 q8 a5
   go_wp2_with fail
   go_end0
   exact ⟨rfl, _, HEND.out, .comesL ⟨⟨sk, st, sf, sh, sp, so, ss, sa, sA, sn, sc⟩, sl⟩ HMem.out HT0.out⟩
  ·have hcm := comesP_yes HH.out HMok.out ht (by have := HWL.out; have := HLN.out; omega) (HX.out.fp _ HMem.out ht)
   simp only [Sv.v] at hcm
   have HT0 := Kp.mk ht
   clear ht
   go_wp2_with fail
   refine hcm.mono ?_
   rintro en u ⟨rfl, h'⟩
   have HEND := Kp.mk h'
   clear h' hcm q0 q1 q2 q3 q4 q5 q6 q7 q8 a5
   go_wp2_with fail
   go_end0
   exact ⟨rfl, _, HEND.out, .comesP ⟨⟨sk, st, sf, sh, sp, so, ss, sa, sA, sn, sc⟩, sl⟩ HMem.out HT0.out⟩
end
end Go.Proofs.YtnoflfbcgbhipaaGreat.Oct
