/- The walk of LanePlays. -/
import Derived.Test.YtcolklkjaifplaaLanM
import Derived.Test.YtcolklkjaifplaaLanX
namespace Go.Proofs.Ytcolklkjaifplaa.Oct
open Go.RowKit
set_option linter.unusedVariables false
set_option linter.unusedSimpArgs false
/-- The program's lane is a step ahead: its frames read X. -/
structure MD (W : World) (lo : Nat) (P : Nat → Prop) (w : World) (l c m R : Nat) (r : Option Nat) (fs hs : List FrV) (X : List (List Int)) : Prop where
  lp : Lp w l c R fs
  lm : Lm w lo m R r hs
  f1 : Fall P w fs
  f2 : Fall P w hs
  map : fs.map FrV.l = X
  bl : Below lo W w
  ge : lo ≤ c ∧ lo ≤ w.heap.size
section
variable {W w w' : World} {lo l c m R n k : Nat} {r r' : Option Nat} {fs hs gs ks : List FrV} {P Q : Nat → Prop} {X : List (List Int)}
theorem MD.d (h : MD W lo P w l c m R r fs hs X) (hc : Ch (fun k => k = m ∨ r = some k) w w') : Lp w' l c R fs ∧ Fall P w' fs ∧ Fall P w' hs ∧ Below lo W w' ∧ lo ≤ c ∧ lo ≤ w'.heap.size :=
  ⟨h.lp.stay hc (h.lp.apart h.lm).1 (h.lp.apart h.lm).2, h.f1.other hc (fun b cs mk e => h.lm.nob b cs _ e (by decide) (by decide) mk), h.f2.other hc (fun b cs mk e => h.lm.nob b cs _ e (by decide) (by decide) mk), h.bl.trans (hc.below (fun x e => by
    rcases e with e | e
    · rw [e]; exact h.lm.lt
    · exact (h.lm.rlt x e).1) h.ge.2), h.ge.1, Nat.le_trans h.ge.2 hc.size⟩
/-- What a call leaves of the program's lane. -/
theorem LM.go (h : LM W lo P w l c m R r fs hs) (hc : Ch (fun k => k = c) w w') (hl : Lp w' l c R gs) (hg : Fall P w' gs) (hx : gs.map FrV.l = X) : MD W lo P w' l c m R r gs hs X := by
  obtain ⟨q1, q2, q3, q4, q5, q6⟩ := h.p hc
  exact ⟨hl, q1, hg, q3, hx, q4, q5, q6⟩
/-- What the document's call leaves. -/
theorem MD.go (h : MD W lo P w l c m R r fs hs X) (hc : Ch (fun k => k = m ∨ r = some k) w w') (hl : Lm w' lo m R r' gs) (hg : Fall P w' gs) (hx : gs.map FrV.l = X) : LM W lo P w' l c m R r' fs gs := by
  obtain ⟨q1, q2, q3, q4, q5, q6⟩ := h.d hc
  exact ⟨q1, hl, q2, hg, h.map.trans hx.symm, q4, q5, q6⟩
theorem Fall.p (h : LM W lo P w l c m R r fs hs) (hc : Ch (fun k => k = c) w w') : Fall P w' fs := (h.p hc).2.1
theorem Ch.mm (h : Ch (fun k => k = m) w w') : Ch (fun k => k = m ∨ r = some k) w w' := h.mono (fun _ _ e => .inl e)
theorem pp_put (h : LM W lo P w l c m R r fs hs) (hP : ∀ b, w.heap.size ≤ b → P b) {B : Nat} {A : Option Addr} {bs : List Int} (hr : Rd .u8 w B A n k bs) (hB : B ≤ w.heap.size) (hby : By bs) : Calls Try.prog 27 #[.pointer (some ⟨l, 0, none⟩), .slice A n k] w fun e w' => e = .returned (.int .i64 (putE n fs.length R)) ∧ Ch (fun k => k = c) w w' ∧ ∃ gs, MD W lo P w' l c m R r gs hs (if putE n fs.length R = 0 then hs.map FrV.l ++ [bs] else hs.map FrV.l) := by
  refine (lput_any h.lp hr hB hby).mono ?_
  rintro e w' ⟨rfl, hC, h1, h2⟩
  refine ⟨rfl, hC, ?_⟩
  by_cases hE : putE n fs.length R = 0
  · obtain ⟨g, hg, hgo, hL⟩ := h1 hE
    rw [if_pos hE]
    exact ⟨_, h.go hC hL ((Fall.p h hC).append (Fall.one (hgo.imp (fun b _ hb => hP b hb)))) (by rw [List.map_append, h.map]; simp [hg])⟩
  · rw [if_neg hE]
    exact ⟨_, h.go hC (h2 hE) (Fall.p h hC) h.map⟩
theorem dd_put (h : MD W lo P w l c m R r fs hs X) (hP : ∀ b, w.heap.size ≤ b → P b) {B : Nat} {A : Option Addr} {bs : List Int} (hr : Rd .u8 w B A n k bs) (hB : B ≤ w.heap.size) (hby : By bs) (hX : X = if putE n hs.length R = 0 then hs.map FrV.l ++ [bs] else hs.map FrV.l) : Calls Try.prog 28 #[.pointer (some ⟨m, 0, none⟩), .slice A n k] w fun e w' => e = .returned (.int .i64 (putE n hs.length R)) ∧ Ch (fun k => k = m ∨ r = some k) w w' ∧ ∃ r' gs, LM W lo P w' l c m R r' fs gs := by
  subst hX
  refine (mput_any h.lm hr hB hby).mono ?_
  rintro e w' ⟨rfl, hC, h1, h2⟩
  refine ⟨rfl, hC, ?_⟩
  by_cases hE : putE n hs.length R = 0
  · obtain ⟨r', g, hg, hgo, hL⟩ := h1 hE
    exact ⟨r', _, h.go hC hL ((h.d hC).2.2.1.append (Fall.one (hgo.imp (fun b _ hb => hP b hb)))) (by rw [List.map_append, if_pos hE]; simp [hg])⟩
  · exact ⟨r, _, h.go hC (h2 hE) (h.d hC).2.2.1 (by rw [if_neg hE])⟩
theorem pp_drop (h : LM W lo P w l c m R r fs hs) (i : Int) : Calls Try.prog 32 #[.pointer (some ⟨l, 0, none⟩), .int .i64 i] w fun e w' => e = .returned (.int .i64 (placeE fs.length i)) ∧ Ch (fun k => k = c) w w' ∧ ∃ gs, MD W lo P w' l c m R r gs hs (dropL (hs.map FrV.l) i) := by
  refine (ldrop_any h.lp i).mono ?_
  rintro e w' ⟨rfl, hL, hC⟩
  exact ⟨rfl, hC, _, h.go hC hL ((Fall.p h hC).sub (drop_mem fs i)) (by rw [drop_map, h.map])⟩
theorem dd_drop (h : MD W lo P w l c m R r fs hs X) (i : Int) (hX : X = dropL (hs.map FrV.l) i) : Calls Try.prog 33 #[.pointer (some ⟨m, 0, none⟩), .int .i64 i] w fun e w' => e = .returned (.int .i64 (placeE hs.length i)) ∧ Ch (fun k => k = m ∨ r = some k) w w' ∧ ∃ r' gs, LM W lo P w' l c m R r' fs gs := by
  subst hX
  refine (mdrop_any h.lm i).mono ?_
  rintro e w' ⟨rfl, hC, r', hL⟩
  exact ⟨rfl, hC.mm, r', _, h.go hC.mm hL ((h.d hC.mm).2.2.1.sub (drop_mem hs i)) (drop_map _ _ _)⟩
theorem pp_front (h : LM W lo P w l c m R r fs hs) (i : Int) : Calls Try.prog 36 #[.pointer (some ⟨l, 0, none⟩), .int .i64 i] w fun e w' => e = .returned (.int .i64 (placeE fs.length i)) ∧ Ch (fun k => k = c) w w' ∧ ∃ gs, MD W lo P w' l c m R r gs hs (frontL (hs.map FrV.l) i) := by
  refine (lfront_any h.lp i).mono ?_
  rintro e w' ⟨rfl, hL, hC⟩
  exact ⟨rfl, hC, _, h.go hC hL ((Fall.p h hC).sub (front_mem fs i)) (by rw [front_map, h.map])⟩
theorem dd_front (h : MD W lo P w l c m R r fs hs X) (i : Int) (hX : X = frontL (hs.map FrV.l) i) : Calls Try.prog 37 #[.pointer (some ⟨m, 0, none⟩), .int .i64 i] w fun e w' => e = .returned (.int .i64 (placeE hs.length i)) ∧ Ch (fun k => k = m ∨ r = some k) w w' ∧ ∃ r' gs, LM W lo P w' l c m R r' fs gs := by
  subst hX
  refine (mfront_any h.lm i).mono ?_
  rintro e w' ⟨rfl, hC, r', hL⟩
  exact ⟨rfl, hC.mm, r', _, h.go hC.mm hL ((h.d hC.mm).2.2.1.sub (front_mem hs i)) (front_map _ _ _)⟩
/-- What Double leaves. -/
def dblL (Y : List (List Int)) (len R : Nat) (i : Int) : List (List Int) := if dblE len R i = 0 then Y ++ [Y.getD i.toNat []] else Y
theorem getD_map {fs : List FrV} {i : Nat} {f : FrV} (h : fs[i]? = some f) : (fs.map FrV.l).getD i [] = f.l := by
  rw [List.getD_eq_getElem?_getD, List.getElem?_map, h]
  rfl
theorem pp_double (h : LM W lo P w l c m R r fs hs) (hP : ∀ b, w.heap.size ≤ b → P b) (i : Int) : Calls Try.prog 34 #[.pointer (some ⟨l, 0, none⟩), .int .i64 i] w fun e w' => e = .returned (.int .i64 (dblE fs.length R i)) ∧ Ch (fun k => k = c) w w' ∧ ∃ gs, MD W lo P w' l c m R r gs hs (dblL (hs.map FrV.l) fs.length R i) := by
  refine (ldouble_any h.lp h.f1 i).mono ?_
  rintro e w' ⟨rfl, hC, h1, h2⟩
  refine ⟨rfl, hC, ?_⟩
  unfold dblL
  by_cases hE : dblE fs.length R i = 0
  · obtain ⟨f, g, hf, hg, hgo, hL⟩ := h1 hE
    rw [if_pos hE]
    exact ⟨_, h.go hC hL ((Fall.p h hC).append (Fall.one (hgo.imp (fun b _ hb => hP b hb)))) (by rw [List.map_append, ← h.map, getD_map hf]; simp [hg])⟩
  · rw [if_neg hE]
    exact ⟨_, h.go hC (h2 hE) (Fall.p h hC) h.map⟩
theorem dd_double (h : MD W lo P w l c m R r fs hs X) (hP : ∀ b, w.heap.size ≤ b → P b) (i : Int) (hX : X = dblL (hs.map FrV.l) hs.length R i) : Calls Try.prog 35 #[.pointer (some ⟨m, 0, none⟩), .int .i64 i] w fun e w' => e = .returned (.int .i64 (dblE hs.length R i)) ∧ Ch (fun k => k = m ∨ r = some k) w w' ∧ ∃ r' gs, LM W lo P w' l c m R r' fs gs := by
  subst hX
  refine (mdouble_any h.lm h.f2 i).mono ?_
  rintro e w' ⟨rfl, hC, h1, h2⟩
  refine ⟨rfl, hC, ?_⟩
  by_cases hE : dblE hs.length R i = 0
  · obtain ⟨r', f, g, hf, hg, hgo, hL⟩ := h1 hE
    exact ⟨r', _, h.go hC hL ((h.d hC).2.2.1.append (Fall.one (hgo.imp (fun b _ hb => hP b hb)))) (by unfold dblL; rw [if_pos hE, List.map_append, getD_map hf]; simp [hg])⟩
  · exact ⟨r, _, h.go hC (h2 hE) (h.d hC).2.2.1 (by unfold dblL; rw [if_neg hE])⟩
theorem pp_clear (h : LM W lo P w l c m R r fs hs) : Calls Try.prog 38 #[.pointer (some ⟨l, 0, none⟩)] w fun e w' => e = .returned (.int .i64 fs.length) ∧ Ch (fun k => k = c) w w' ∧ MD W lo P w' l c m R r [] hs [] := by
  refine (lclear_any h.lp).mono ?_
  rintro e w' ⟨rfl, hL, hC⟩
  exact ⟨rfl, hC, h.go hC hL (Fall.none _ _) rfl⟩
theorem dd_clear (h : MD W lo P w l c m R r fs hs []) : Calls Try.prog 39 #[.pointer (some ⟨m, 0, none⟩)] w fun e w' => e = .returned (.int .i64 hs.length) ∧ Ch (fun k => k = m ∨ r = some k) w w' ∧ LM W lo P w' l c m R none fs [] := by
  refine (mclear_any h.lm).mono ?_
  rintro e w' ⟨rfl, hL, hC⟩
  exact ⟨rfl, hC.mm, h.go hC.mm hL (Fall.none _ _) rfl⟩
/-- Owned bytes. -/
theorem Own.stay {S : Nat → Prop} {base : Nat} {v : Value} {l : List Int} (h : Own w base v n l) (hc : Ch S w w') (hs : ∀ k cur, v.ownBlock = some k → w.heap[k]? = some (.cells cur 5 (0, 0)) → ¬ S k) : Own w' base v n l := by
  refine ⟨h.1, ?_⟩
  rcases h.2 with h2 | ⟨g, cap, cur, e, hbg, hg, q⟩
  · exact .inl h2
  · exact .inr ⟨g, cap, cur, e, hbg, (hc.block g (Array.getElem?_eq_some_iff.1 hg).1 (hs g cur (by rw [e]; rfl) hg)).trans hg, q⟩
theorem Own.blk {base k c : Nat} {A : Option Addr} {l : List Int} (h : Own w base (.slice A k c) k l) (hn : 0 < k) : ∃ gi, A = some ⟨gi, 0, none⟩ ∧ k ≤ c ∧ (∃ cur, w.heap[gi]? = some (.cells cur 5 (0, 0))) ∧ (∀ j, j < k → w.cell? ⟨gi, j, none⟩ = some (.int .u8 (l.getD j 0))) ∧ (∀ j, w.frozen? ⟨gi, j, none⟩ = false) ∧ (∀ (j : Nat) (x : Int), Own (w.setCell ⟨gi, j, none⟩ (.int .u8 x)) base (.slice A k c) k (l.set j x)) := by
  obtain ⟨g, cap, hv, hbg, hlt⟩ := World.ownsRow.form h hn
  injection hv with hA _ hcap
  subst hA hcap
  obtain ⟨A', c', e, h1, -⟩ := h.form
  injection e with e1 e2 e3
  subst e1 e3
  refine ⟨g, rfl, h1, ?_, fun j hj => ?_, fun j => World.ownsRow.frozenAt h j, fun j x => ?_⟩
  · rcases h.2 with ⟨hv, _⟩ | ⟨g', cap', cur, hv, _, hg, _⟩
    · simp at hv
    · injection hv with hA _ _
      obtain rfl : g = g' := by simpa using hA
      exact ⟨cur, hg⟩
  · obtain ⟨b, off, e, _, hc⟩ := h.rd.at_ hn
    obtain ⟨rfl, rfl⟩ : g = b ∧ 0 = off := by simpa using e
    have := hc j hj
    rwa [Nat.zero_add] at this
  · have := (World.ownsRow.stored h j (.int .u8 x)).1
    unfold Own
    rwa [List.map_set]
theorem LM.own (h : LM W lo P w l c m R r fs hs) {base : Nat} {v : Value} {bs : List Int} (hO : Own w base v n bs) (hc : Ch (fun k => k = c) w w') : Own w' base v n bs := hO.stay hc (fun k cur _ hk e => h.lp.nocell _ _ _ (by rw [← e]; exact hk))
theorem MD.own (h : MD W lo P w l c m R r fs hs X) {base : Nat} {v : Value} {bs : List Int} (hO : Own w base v n bs) (hc : Ch (fun k => k = m ∨ r = some k) w w') : Own w' base v n bs := hO.stay hc (fun k cur _ hk e => h.lm.nob k _ _ e (by decide) (by decide) _ hk)
theorem LM.box (h : LM W lo P w l c m R r fs hs) {g : Nat} {cs : List Value} (hV : Vb 62 w g cs) (hc : Ch (fun k => k = c) w w') : Vb 62 w' g cs := (hc.block g hV.lt (fun e => h.lp.nocell _ _ _ (by rw [← e]; exact hV))).trans hV
theorem MD.box (h : MD W lo P w l c m R r fs hs X) {g : Nat} {cs : List Value} (hV : Vb 62 w g cs) (hc : Ch (fun k => k = m ∨ r = some k) w w') : Vb 62 w' g cs := (hc.block g hV.lt (fun e => h.lm.nob g _ _ e (by decide) (by decide) _ hV)).trans hV
end
set_option maxRecDepth 100000 in
set_option maxHeartbeats 16000000 in
theorem lanePlays_any {W : World} {A0 : Option Addr} {n0 c0 : Nat} {ds : List DoL} (r0 : Int) (h : Dl W W.heap.size A0 n0 c0 ds) : Calls Try.prog 4 #[.int .i64 r0, .slice A0 n0 c0] W fun e w' => e = .returned (.bool true) ∧ Below W.heap.size W w' := by
  have hm := h.max
  have HR := Kp.mk h
  obtain ⟨lo, hlo⟩ : ∃ lo, lo = W.heap.size := ⟨_, rfl⟩
  rw [← hlo]
  have HLO := Kp.mk hlo
  clear hlo h
  by_cases hroom : 1 ≤ r0 ∧ r0 ≤ 64
  rotate_left
  · go_enter Try.func4, Try.ntmps4
    go_wp2_with fail
    refine (lnew_no _ r0 hroom).mono ?_
    rintro e w1 ⟨rfl, hw1⟩
    subst hw1
    go_wp2_with fail
    refine (mnewL_no _ r0 hroom).mono ?_
    rintro e w2 ⟨rfl, hw2⟩
    subst hw2
    go_wp2_with fail
    go_loopw [9] (fun s9 wr => s9 = .int .i64 0 ∧ Below lo w2 wr) (fun _ _ => 0)
    case atStart => exact ⟨rfl, Below.refl _ _⟩
    case round =>
      obtain ⟨rfl, hw⟩ := hrel
      by_cases hn0 : (0 : Int) < n0
      · have hn1 : 0 < n0 := by omega
        go_wp2_with fail
        refine (lworks_any _).mono ?_
        rintro e w9 ⟨rfl, hb9⟩
        have HF := Kp.mk (hw.trans (hb9.mono (by have := hw.size; rw [HLO.out]; exact this)))
        clear hb9
        go_wp2_with fail
        go_ret
        exact ⟨rfl, HF.out⟩
      · obtain rfl : n0 = 0 := by omega
        go_wp2_with fail
        refine (lworks_any _).mono ?_
        rintro e w9 ⟨rfl, hb9⟩
        have HF := Kp.mk (hw.trans (hb9.mono (by have := hw.size; rw [HLO.out]; exact this)))
        clear hb9
        go_wp2_with fail
        go_ret
        exact ⟨rfl, HF.out⟩
  go_enter Try.func4, Try.ntmps4
  go_wp2_with fail
  refine (lnew_yes W r0 hroom).mono ?_
  rintro e w1 ⟨l, c, rfl, hL, -, hc, hb1⟩
  go_wp2_with fail
  refine (mnewL_yes w1 r0 hroom).mono ?_
  rintro e w2 ⟨m, rfl, hM, hb2⟩
  have hLM : LM W lo Tt w2 l c m r0.toNat none [] [] := ⟨hL.below hb2, ⟨by have := hM.lt; have := hb1.size; have := HLO.out; omega, by
    obtain ⟨v, v1, v2, v3⟩ := hM.ex
    exact ⟨v, v1, v2.lower (by have := hb1.size; have := HLO.out; omega), v3⟩, hM.fit⟩, Fall.none _ _, Fall.none _ _, rfl, by rw [HLO.out]; exact hb1.trans (hb2.mono hb1.size), by have := HLO.out; have := hb1.size; have := hb2.size; omega⟩
  generalize r0.toNat = R at *
  clear hL hc hb1 hM hb2 hroom
  go_wp2_with fail
  go_loopw [9] (fun s9 wr => ∃ (i : Nat) (r : Option Nat) (fs hs : List FrV), s9 = .int .i64 i ∧ i ≤ n0 ∧ i ≤ 100 ∧ LM W lo Tt wr l c m R r fs hs) (fun s9 _ => 100 - (intOf s9).toNat)
  case atStart => exact ⟨0, none, [], [], rfl, by omega, by omega, hLM⟩
  case round =>
    clear hLM
    obtain ⟨i, r, fs, hs, rfl, hi1, hi2, hS⟩ := hrel
    by_cases hgo : (i : Int) < n0 ∧ (i : Int) < 100
    · obtain ⟨j1, j2⟩ := hgo
      have HDP := Kp.mk (HR.out.below (by have := hS.bl; rw [HLO.out] at this; exact this))
      obtain ⟨bb, off, rfl, hbl, hcc⟩ := HDP.out.ex (by omega)
      obtain ⟨d, hd⟩ : ∃ d, ds[i]? = some d := ⟨_, List.getElem?_eq_getElem (by have := HDP.out.len; omega)⟩
      obtain ⟨d0, d1, d2⟩ := hcc i d hd
      have HB := Kp.mk (HR.out.bytes d (List.mem_of_getElem? hd))
      clear hcc hd HDP
      go_upto_region 9 with fail
      have hb4 := below_alloc wr (.cells #[.int .i64 d.k, .int .i64 d.i, .slice d.A d.n d.c] 62)
      have hV := Vb.new 62 wr [.int .i64 d.k, .int .i64 d.i, .slice d.A d.n d.c]
      have hV : Vb 62 (wr.alloc (.cells #[.int .i64 d.k, .int .i64 d.i, .slice d.A d.n d.c] 62)) wr.heap.size [.int .i64 d.k, .int .i64 d.i, .slice d.A d.n d.c] := hV
      have hS4 := (hS.imp (Q := fun b => b < wr.heap.size) (fun b hb _ => hb)).below hb4
      obtain ⟨gx, hgx⟩ : ∃ gx, gx = wr.heap.size := ⟨_, rfl⟩
      rw [← hgx] at hV hS4
      rw [← hgx]
      have hgl := Kp.mk (show lo ≤ gx by rw [hgx]; exact hS.ge.2)
      clear hS hb4 hgx d0 d1 d2
      generalize wr.alloc (.cells #[.int .i64 d.k, .int .i64 d.i, .slice d.A d.n d.c] 62) = w5 at *
      have e0 := hV.cell 0 rfl
      have e1 := hV.cell 1 rfl
      have e2 := hV.cell 2 rfl
      have hrx := HB.out.1.below (by have := hS4.bl; rw [HLO.out] at this; exact this)
      have hWs := Kp.mk (show W.heap.size ≤ w5.heap.size from by have := hS4.ge.2; rw [HLO.out] at this; exact this)
      go_wp2_with fail
      refine (copyBytes_any hrx (by have := HB.out.2.2; omega)).mono ?_
      rintro e w6 ⟨Ai, ni, ci, rfl, hI, hb6⟩
      obtain rfl : d.n = ni := by have h1 := hI.len; have h2 := HB.out.1.len; omega
      have hS6 := hS4.below hb6
      have hV6 := hV.below hb6 hV.lt
      have hs5 := Kp.mk (show gx < w5.heap.size from hV.lt)
      clear hS4 hV hb6 hrx e0 e1 e2
      go_upto_region 10 with fail
      rename_i K10 h10
      go_cut [12] from 165 to 164 (fun s12 wx => s12 = .bool true ∧ wx = w6)
      case first =>
        go_wp2_with fail
        go_meet
        case rel => exact ⟨rfl, rfl⟩
      obtain ⟨rfl, hw6⟩ := hcut
      subst hw6
      refine h10 _ _ ?_
      apply wp_seq_k
      intro K3 h3
      obtain ⟨s0, hs0⟩ : ∃ s0, s0 = gx := ⟨_, rfl⟩
      rw [← hs0] at hS6
      obtain ⟨s1, hs1⟩ : ∃ s1, s1 = wc.heap.size := ⟨_, rfl⟩
      have hS6 := hS6.imp (Q := fun b => b < s0 ∨ s1 ≤ b) (fun b _ hb => .inl hb)
      have hP := Kp.mk (fun (wz : World) (hz : s1 ≤ wz.heap.size) (b : Nat) (hb : wz.heap.size ≤ b) => (Or.inr (Nat.le_trans hz hb) : b < s0 ∨ s1 ≤ b))
      have hIb := Kp.mk (show ∀ k, (Value.slice Ai d.n ci).ownBlock = some k → ¬ (k < s0 ∨ s1 ≤ k) ∧ lo ≤ k from fun k hk => by have h1 := World.ownsRow.lt hI k hk; have h2 := hs5.out; have h3 := hgl.out; rw [hs0, hs1]; omega)
      replace hs1 := Kp.mk (Nat.le_of_eq hs1)
      have HKB := Kp.mk hs0
      clear hs0
      go_cut [12] from 59 to 136 (fun s12 wx => s12 = .bool true ∧ ∃ (r : Option Nat) (fs hs : List FrV), LM W lo (fun b => b < s0 ∨ s1 ≤ b) wx l c m R r fs hs ∧ Own wx w5.heap.size (.slice Ai d.n ci) d.n d.bs ∧ Vb 62 wx gx [.int .i64 d.k, .int .i64 d.i, .slice d.A d.n d.c])

      case first =>
        have hbd := Kp.mk (Ser.bringP_bd d.k 7 (by omega))
        have hbr := Ser.bring_any d.k 7 wc (by omega) (by omega)
        generalize Ser.bringP d.k 7 = kv at *
        have hkv : kv = 0 ∨ kv = 1 ∨ kv = 2 ∨ kv = 3 ∨ kv = 4 ∨ kv = 5 ∨ kv = 6 := by have := hbd.out; omega
        clear hbd
        have k0 := hV6.cell 0 rfl
        have k1 := hV6.cell 1 rfl
        have k2 := hV6.cell 2 rfl
        rcases hkv with rfl | rfl | rfl | rfl | rfl | rfl | rfl
        · skip
          go_wp2_with fail
          refine hbr.mono ?_
          rintro e w7 ⟨rfl, hw7⟩
          subst hw7
          clear hbr
          go_wp2_with fail
          have hV0 : (fun W => Vb 62 W gx [.int .i64 d.k, .int .i64 d.i, .slice d.A d.n d.c]) wc.drew := hV6.below (Below.refl wc.heap.size wc).drew hV6.lt
          have hSd := hS6.below (Below.refl wc.heap.size wc).drew
          have hId := hI.below (Below.refl wc.heap.size wc).drew (Nat.le_refl _)
          have hsd := Kp.mk (Nat.le_trans hs1.out (Below.refl wc.heap.size wc).drew.size)
          clear hS6 hI k0 k1 k2
          refine wp_region_held_drew (S := fun W => Vb 62 W gx [.int .i64 d.k, .int .i64 d.i, .slice d.A d.n d.c]) (by kernel_rfl) hV0 (fun hS0 => ?_)
          clear hV0 hV6
          generalize wc.drew = u at *
          refine takeD (i := 0) (v := .pointer (some ⟨l, 0, none⟩)) (some 76) rfl rfl (by kernel_rfl) (by kernel_rfl) (by kernel_rfl) (fun _ _ _ h => h) (Or.inl ⟨by rfl, ?_⟩) hS0 ?_
          · rintro w' _
            go_simp
          try simp only [Act.put, List.setIfInBounds_toArray, List.set_cons_zero, List.set_cons_succ]
          refine takeD (i := 1) (v := .slice Ai d.n ci) (some 77) rfl rfl (by kernel_rfl) (by kernel_rfl) (by kernel_rfl) (fun _ _ _ h => h) (Or.inl ⟨by rfl, ?_⟩) hS0 ?_
          · rintro w' _
            go_simp
          try simp only [Act.put, List.setIfInBounds_toArray, List.set_cons_zero, List.set_cons_succ]
          refine takeD (i := 3) (v := .pointer (some ⟨m, 0, none⟩)) (some 79) rfl rfl (by kernel_rfl) (by kernel_rfl) (by kernel_rfl) (fun _ _ _ h => h) (Or.inl ⟨by rfl, ?_⟩) hS0 ?_
          · rintro w' _
            go_simp
          try simp only [Act.put, List.setIfInBounds_toArray, List.set_cons_zero, List.set_cons_succ]
          refine takeD (i := 4) (v := .pointer (some ⟨gx, 2, none⟩)) (some 80) rfl rfl (by kernel_rfl) (by kernel_rfl) (by kernel_rfl) (fun _ _ _ h => h) (Or.inl ⟨by rfl, ?_⟩) hS0 ?_
          · rintro w' _
            go_simp
          try simp only [Act.put, List.setIfInBounds_toArray, List.set_cons_zero, List.set_cons_succ]
          refine takeD (i := 5) (v := .slice d.A d.n d.c) (some 81) rfl rfl (by kernel_rfl) (by kernel_rfl) (by kernel_rfl) (fun _ _ _ h => h) (Or.inl ⟨by rfl, ?_⟩) hS0 ?_
          · rintro w' s0
            have d0 := Vb.cell (show Vb 62 w' gx [.int .i64 d.k, .int .i64 d.i, .slice d.A d.n d.c] from s0) 2 rfl
            go_simp
          try simp only [Act.put, List.setIfInBounds_toArray, List.set_cons_zero, List.set_cons_succ]
          refine wpAnyH_ready (rs := [2]) (by kernel_rfl) (by simp) ?_
          refine AllReadyH.cons rfl (fun K hK => ?_) AllReadyH.nil
          try rw [if_pos (by rfl)]
          go_simp
          go_at_call 27
          refine (pp_put hSd (hP.out u hsd.out) hId.rd (Nat.le_refl _) HB.out.2.1).mono ?_
          rintro e u1 ⟨rfl, hC1, gs1, hM⟩
          have hV1 := hSd.box hS0 hC1
          have hI1 := hSd.own hId hC1
          have hsz1 := Kp.mk (Nat.le_trans hsd.out hC1.size)
          have hln := hSd.len
          clear hSd hId hC1
          refine hK.out _ _ hV1 (fun hS1 => ?_)
          clear hK K hV1 hS0
          try simp only [Act.put, List.setIfInBounds_toArray, List.set_cons_zero, List.set_cons_succ]
          have hdd := dd_put hM (hP.out u1 hsz1.out) (HB.out.1.below (by have := hM.bl; rw [HLO.out] at this; exact this)) (by have := hM.ge.2; rw [HLO.out] at this; exact this) HB.out.2.1 (by rw [hln])
          rw [hln] at hdd
          clear hln
          refine wpAnyH_ready (rs := [6]) (by kernel_rfl) (by simp) ?_
          refine AllReadyH.cons rfl (fun K hK => ?_) AllReadyH.nil
          try rw [if_pos (by rfl)]
          go_simp
          go_at_call 28
          refine hdd.mono ?_
          rintro e u2 ⟨rfl, hC2, r3, gs2, hL2⟩
          have hV2 := hM.box hS1 hC2
          have hI2 := hM.own hI1 hC2
          clear hM hI1 hC2 hdd
          refine hK.out _ _ hV2 (fun hS2 => ?_)
          clear hK K hS1
          try simp only [Act.put, List.setIfInBounds_toArray, List.set_cons_zero, List.set_cons_succ]
          refine takeD (i := 7) (v := .bool true) (some 83) rfl rfl (by kernel_rfl) (by kernel_rfl) (by kernel_rfl) (fun _ _ _ h => h) (Or.inl ⟨by rfl, ?_⟩) hS2 ?_
          · rintro w' _
            go_simp
          try simp only [Act.put, List.setIfInBounds_toArray, List.set_cons_zero, List.set_cons_succ]
          refine takeD (i := 8) (v := .bool true) (some 12) rfl rfl (by kernel_rfl) (by kernel_rfl) (by kernel_rfl) (fun _ _ _ h => h) (Or.inl ⟨by rfl, ?_⟩) hS2 ?_
          · rintro w' _
            go_simp
          try simp only [Act.put, List.setIfInBounds_toArray, List.set_cons_zero, List.set_cons_succ]
          refine wpAnyH_done (by kernel_rfl) ?_ _
          go_wp2_with fail
          go_meet
          case rel => exact ⟨rfl, r3, gs1, gs2, hL2, hI2, hV2⟩
        · skip
          go_wp2_with fail
          refine hbr.mono ?_
          rintro e w7 ⟨rfl, hw7⟩
          subst hw7
          clear hbr
          go_wp2_with fail
          have hV0 : (fun W => Vb 62 W gx [.int .i64 d.k, .int .i64 d.i, .slice d.A d.n d.c]) wc.drew := hV6.below (Below.refl wc.heap.size wc).drew hV6.lt
          have hSd := hS6.below (Below.refl wc.heap.size wc).drew
          have hId := hI.below (Below.refl wc.heap.size wc).drew (Nat.le_refl _)
          have hsd := Kp.mk (Nat.le_trans hs1.out (Below.refl wc.heap.size wc).drew.size)
          clear hS6 hI k0 k1 k2
          refine wp_region_held_drew (S := fun W => Vb 62 W gx [.int .i64 d.k, .int .i64 d.i, .slice d.A d.n d.c]) (by kernel_rfl) hV0 (fun hS0 => ?_)
          clear hV0 hV6
          generalize wc.drew = u at *
          refine takeD (i := 0) (v := .pointer (some ⟨l, 0, none⟩)) (some 76) rfl rfl (by kernel_rfl) (by kernel_rfl) (by kernel_rfl) (fun _ _ _ h => h) (Or.inl ⟨by rfl, ?_⟩) hS0 ?_
          · rintro w' _
            go_simp
          try simp only [Act.put, List.setIfInBounds_toArray, List.set_cons_zero, List.set_cons_succ]
          refine takeD (i := 1) (v := .slice Ai d.n ci) (some 77) rfl rfl (by kernel_rfl) (by kernel_rfl) (by kernel_rfl) (fun _ _ _ h => h) (Or.inl ⟨by rfl, ?_⟩) hS0 ?_
          · rintro w' _
            go_simp
          try simp only [Act.put, List.setIfInBounds_toArray, List.set_cons_zero, List.set_cons_succ]
          refine takeD (i := 3) (v := .pointer (some ⟨m, 0, none⟩)) (some 79) rfl rfl (by kernel_rfl) (by kernel_rfl) (by kernel_rfl) (fun _ _ _ h => h) (Or.inl ⟨by rfl, ?_⟩) hS0 ?_
          · rintro w' _
            go_simp
          try simp only [Act.put, List.setIfInBounds_toArray, List.set_cons_zero, List.set_cons_succ]
          refine takeD (i := 4) (v := .pointer (some ⟨gx, 2, none⟩)) (some 80) rfl rfl (by kernel_rfl) (by kernel_rfl) (by kernel_rfl) (fun _ _ _ h => h) (Or.inl ⟨by rfl, ?_⟩) hS0 ?_
          · rintro w' _
            go_simp
          try simp only [Act.put, List.setIfInBounds_toArray, List.set_cons_zero, List.set_cons_succ]
          refine takeD (i := 5) (v := .slice d.A d.n d.c) (some 81) rfl rfl (by kernel_rfl) (by kernel_rfl) (by kernel_rfl) (fun _ _ _ h => h) (Or.inl ⟨by rfl, ?_⟩) hS0 ?_
          · rintro w' s0
            have d0 := Vb.cell (show Vb 62 w' gx [.int .i64 d.k, .int .i64 d.i, .slice d.A d.n d.c] from s0) 2 rfl
            go_simp
          try simp only [Act.put, List.setIfInBounds_toArray, List.set_cons_zero, List.set_cons_succ]
          refine wpAnyH_ready (rs := [2]) (by kernel_rfl) (by simp) ?_
          refine AllReadyH.cons rfl (fun K hK => ?_) AllReadyH.nil
          try rw [if_pos (by rfl)]
          go_simp
          go_at_call 27
          refine (pp_put hSd (hP.out u hsd.out) hId.rd (Nat.le_refl _) HB.out.2.1).mono ?_
          rintro e u1 ⟨rfl, hC1, gs1, hM⟩
          have hV1 := hSd.box hS0 hC1
          have hI1 := hSd.own hId hC1
          have hsz1 := Kp.mk (Nat.le_trans hsd.out hC1.size)
          have hln := hSd.len
          clear hSd hId hC1
          refine hK.out _ _ hV1 (fun hS1 => ?_)
          clear hK K hV1 hS0
          try simp only [Act.put, List.setIfInBounds_toArray, List.set_cons_zero, List.set_cons_succ]
          have hdd := dd_put hM (hP.out u1 hsz1.out) (HB.out.1.below (by have := hM.bl; rw [HLO.out] at this; exact this)) (by have := hM.ge.2; rw [HLO.out] at this; exact this) HB.out.2.1 (by rw [hln])
          rw [hln] at hdd
          clear hln
          refine wpAnyH_ready (rs := [6]) (by kernel_rfl) (by simp) ?_
          refine AllReadyH.cons rfl (fun K hK => ?_) AllReadyH.nil
          try rw [if_pos (by rfl)]
          go_simp
          go_at_call 28
          refine hdd.mono ?_
          rintro e u2 ⟨rfl, hC2, r3, gs2, hL2⟩
          have hV2 := hM.box hS1 hC2
          have hI2 := hM.own hI1 hC2
          clear hM hI1 hC2 hdd
          refine hK.out _ _ hV2 (fun hS2 => ?_)
          clear hK K hS1
          try simp only [Act.put, List.setIfInBounds_toArray, List.set_cons_zero, List.set_cons_succ]
          refine takeD (i := 7) (v := .bool true) (some 83) rfl rfl (by kernel_rfl) (by kernel_rfl) (by kernel_rfl) (fun _ _ _ h => h) (Or.inl ⟨by rfl, ?_⟩) hS2 ?_
          · rintro w' _
            go_simp
          try simp only [Act.put, List.setIfInBounds_toArray, List.set_cons_zero, List.set_cons_succ]
          refine takeD (i := 8) (v := .bool true) (some 12) rfl rfl (by kernel_rfl) (by kernel_rfl) (by kernel_rfl) (fun _ _ _ h => h) (Or.inl ⟨by rfl, ?_⟩) hS2 ?_
          · rintro w' _
            go_simp
          try simp only [Act.put, List.setIfInBounds_toArray, List.set_cons_zero, List.set_cons_succ]
          refine wpAnyH_done (by kernel_rfl) ?_ _
          go_wp2_with fail
          go_meet
          case rel => exact ⟨rfl, r3, gs1, gs2, hL2, hI2, hV2⟩
        · skip
          go_wp2_with fail
          refine hbr.mono ?_
          rintro e w7 ⟨rfl, hw7⟩
          subst hw7
          clear hbr
          have hln := hS6.len
          cases fs with
          | nil =>
            obtain rfl : hs = [] := List.eq_nil_of_length_eq_zero hln
            go_wp2_with fail
            refine (ltake_none hS6.lp).mono ?_
            rintro e u1 ⟨rfl, hu1⟩
            subst hu1
            go_wp2_with fail
            refine (mtake_none hS6.lm).mono ?_
            rintro e u2 ⟨rfl, hu2⟩
            subst hu2
            have heq := eqBytes_any (Rd.nil .u8 u2 u2.heap.size) (Rd.nil .u8 u2 u2.heap.size) By.nil By.nil
            rw [decide_eq_true (rfl : ([] : List Int) = [])] at heq
            have hS9 := Kp.mk hS6
            have hI9 := Kp.mk hI
            have hV9 := Kp.mk hV6
            clear hS6 hI hV6 k0 k1 k2
            go_wp2_with fail
            refine heq.mono ?_
            rintro e u3 ⟨rfl, hu3⟩
            subst hu3
            clear heq
            go_wp2_with fail
            go_meet
            case rel => exact ⟨rfl, _, [], [], hS9.out, hI9.out, hV9.out⟩
          | cons f fs =>
            cases hs with
            | nil => simp at hln
            | cons y hs =>
              have hmap := hS6.map
              simp only [List.map_cons, List.cons.injEq] at hmap
              obtain ⟨hfy, hmp⟩ := hmap
              have hfy := Kp.mk hfy
              have hmp := Kp.mk hmp
              go_wp2_with fail
              refine (ltake_some hS6.lp).mono ?_
              rintro e u1 ⟨rfl, hL1, hC1⟩
              have hF1 := Fall.p hS6 hC1
              have hM := hS6.go hC1 hL1 (hF1.sub (fun z hz => List.mem_cons_of_mem _ hz)) rfl
              have hI1 := hS6.own hI hC1
              have hV1 := hS6.box hV6 hC1
              have hf1 := hF1 f List.mem_cons_self
              clear hS6 hI hV6 hL1 hC1 hF1 k0 k1 k2 hln
              rw [show f.val = .slice f.A f.n f.c from rfl]
              go_wp2_with fail
              refine (mtake_some hM.lm).mono ?_
              rintro e u2 ⟨rfl, hC2, r3, hL2⟩
              have hC2 := hC2.mm (r := r)
              have hF2 := (hM.d hC2).2.2.1
              have hy2 := hF2 y List.mem_cons_self
              have hf2 := hf1.stay hC2 (fun b cs mk _ _ hb e => hM.lm.nob b cs _ e (by decide) (by decide) mk hb)
              have hL := Kp.mk (hM.go hC2 hL2 (hF2.sub (fun z hz => List.mem_cons_of_mem _ hz)) hmp.out.symm)
              have hI2 := Kp.mk (hM.own hI1 hC2)
              have hV2 := Kp.mk (hM.box hV1 hC2)
              have heq := eqBytes_any hf2.rd hy2.rd hf2.bytes hy2.bytes
              rw [decide_eq_true hfy.out] at heq
              clear hM hI1 hV1 hf1 hL2 hC2 hF2 hy2 hf2
              rw [show y.val = .slice y.A y.n y.c from rfl]
              go_wp2_with fail
              refine heq.mono ?_
              rintro e u3 ⟨rfl, hu3⟩
              subst hu3
              clear heq
              go_wp2_with fail
              go_meet
              case rel => exact ⟨rfl, _, _, _, hL.out, hI2.out, hV2.out⟩
        · skip
          go_wp2_with fail
          refine hbr.mono ?_
          rintro e w7 ⟨rfl, hw7⟩
          subst hw7
          clear hbr
          go_wp2_with fail
          have hV0 : (fun W => Vb 62 W gx [.int .i64 d.k, .int .i64 d.i, .slice d.A d.n d.c]) wc.drew := hV6.below (Below.refl wc.heap.size wc).drew hV6.lt
          have hSd := hS6.below (Below.refl wc.heap.size wc).drew
          have hId := hI.below (Below.refl wc.heap.size wc).drew (Nat.le_refl _)
          have hsd := Kp.mk (Nat.le_trans hs1.out (Below.refl wc.heap.size wc).drew.size)
          clear hS6 hI k0 k1 k2
          refine wp_region_held_drew (S := fun W => Vb 62 W gx [.int .i64 d.k, .int .i64 d.i, .slice d.A d.n d.c]) (by kernel_rfl) hV0 (fun hS0 => ?_)
          clear hV0 hV6
          generalize wc.drew = u at *
          refine takeD (i := 0) (v := .pointer (some ⟨l, 0, none⟩)) (some 106) rfl rfl (by kernel_rfl) (by kernel_rfl) (by kernel_rfl) (fun _ _ _ h => h) (Or.inl ⟨by rfl, ?_⟩) hS0 ?_
          · rintro w' _
            go_simp
          try simp only [Act.put, List.setIfInBounds_toArray, List.set_cons_zero, List.set_cons_succ]
          refine takeD (i := 1) (v := .pointer (some ⟨gx, 1, none⟩)) (some 107) rfl rfl (by kernel_rfl) (by kernel_rfl) (by kernel_rfl) (fun _ _ _ h => h) (Or.inl ⟨by rfl, ?_⟩) hS0 ?_
          · rintro w' _
            go_simp
          try simp only [Act.put, List.setIfInBounds_toArray, List.set_cons_zero, List.set_cons_succ]
          refine takeD (i := 2) (v := .int .i64 d.i) (some 108) rfl rfl (by kernel_rfl) (by kernel_rfl) (by kernel_rfl) (fun _ _ _ h => h) (Or.inl ⟨by rfl, ?_⟩) hS0 ?_
          · rintro w' s0
            have d0 := Vb.cell (show Vb 62 w' gx [.int .i64 d.k, .int .i64 d.i, .slice d.A d.n d.c] from s0) 1 rfl
            go_simp
          try simp only [Act.put, List.setIfInBounds_toArray, List.set_cons_zero, List.set_cons_succ]
          refine takeD (i := 4) (v := .pointer (some ⟨m, 0, none⟩)) (some 110) rfl rfl (by kernel_rfl) (by kernel_rfl) (by kernel_rfl) (fun _ _ _ h => h) (Or.inl ⟨by rfl, ?_⟩) hS0 ?_
          · rintro w' _
            go_simp
          try simp only [Act.put, List.setIfInBounds_toArray, List.set_cons_zero, List.set_cons_succ]
          refine takeD (i := 5) (v := .pointer (some ⟨gx, 1, none⟩)) (some 111) rfl rfl (by kernel_rfl) (by kernel_rfl) (by kernel_rfl) (fun _ _ _ h => h) (Or.inl ⟨by rfl, ?_⟩) hS0 ?_
          · rintro w' _
            go_simp
          try simp only [Act.put, List.setIfInBounds_toArray, List.set_cons_zero, List.set_cons_succ]
          refine takeD (i := 6) (v := .int .i64 d.i) (some 112) rfl rfl (by kernel_rfl) (by kernel_rfl) (by kernel_rfl) (fun _ _ _ h => h) (Or.inl ⟨by rfl, ?_⟩) hS0 ?_
          · rintro w' s0
            have d0 := Vb.cell (show Vb 62 w' gx [.int .i64 d.k, .int .i64 d.i, .slice d.A d.n d.c] from s0) 1 rfl
            go_simp
          try simp only [Act.put, List.setIfInBounds_toArray, List.set_cons_zero, List.set_cons_succ]
          refine wpAnyH_ready (rs := [3]) (by kernel_rfl) (by simp) ?_
          refine AllReadyH.cons rfl (fun K hK => ?_) AllReadyH.nil
          try rw [if_pos (by rfl)]
          go_simp
          go_at_call 32
          refine (pp_drop hSd d.i).mono ?_
          rintro e u1 ⟨rfl, hC1, gs1, hM⟩
          have hV1 := hSd.box hS0 hC1
          have hI1 := hSd.own hId hC1
          have hsz1 := Kp.mk (Nat.le_trans hsd.out hC1.size)
          have hln := hSd.len
          clear hSd hId hC1
          refine hK.out _ _ hV1 (fun hS1 => ?_)
          clear hK K hV1 hS0
          try simp only [Act.put, List.setIfInBounds_toArray, List.set_cons_zero, List.set_cons_succ]
          have hdd := dd_drop hM d.i (by rfl)
          rw [hln] at hdd
          clear hln
          refine wpAnyH_ready (rs := [7]) (by kernel_rfl) (by simp) ?_
          refine AllReadyH.cons rfl (fun K hK => ?_) AllReadyH.nil
          try rw [if_pos (by rfl)]
          go_simp
          go_at_call 33
          refine hdd.mono ?_
          rintro e u2 ⟨rfl, hC2, r3, gs2, hL2⟩
          have hV2 := hM.box hS1 hC2
          have hI2 := hM.own hI1 hC2
          clear hM hI1 hC2 hdd
          refine hK.out _ _ hV2 (fun hS2 => ?_)
          clear hK K hS1
          try simp only [Act.put, List.setIfInBounds_toArray, List.set_cons_zero, List.set_cons_succ]
          refine takeD (i := 8) (v := .bool true) (some 114) rfl rfl (by kernel_rfl) (by kernel_rfl) (by kernel_rfl) (fun _ _ _ h => h) (Or.inl ⟨by rfl, ?_⟩) hS2 ?_
          · rintro w' _
            go_simp
          try simp only [Act.put, List.setIfInBounds_toArray, List.set_cons_zero, List.set_cons_succ]
          refine takeD (i := 9) (v := .bool true) (some 12) rfl rfl (by kernel_rfl) (by kernel_rfl) (by kernel_rfl) (fun _ _ _ h => h) (Or.inl ⟨by rfl, ?_⟩) hS2 ?_
          · rintro w' _
            go_simp
          try simp only [Act.put, List.setIfInBounds_toArray, List.set_cons_zero, List.set_cons_succ]
          refine wpAnyH_done (by kernel_rfl) ?_ _
          go_wp2_with fail
          go_meet
          case rel => exact ⟨rfl, r3, gs1, gs2, hL2, hI2, hV2⟩
        · skip
          go_wp2_with fail
          refine hbr.mono ?_
          rintro e w7 ⟨rfl, hw7⟩
          subst hw7
          clear hbr
          go_wp2_with fail
          have hV0 : (fun W => Vb 62 W gx [.int .i64 d.k, .int .i64 d.i, .slice d.A d.n d.c]) wc.drew := hV6.below (Below.refl wc.heap.size wc).drew hV6.lt
          have hSd := hS6.below (Below.refl wc.heap.size wc).drew
          have hId := hI.below (Below.refl wc.heap.size wc).drew (Nat.le_refl _)
          have hsd := Kp.mk (Nat.le_trans hs1.out (Below.refl wc.heap.size wc).drew.size)
          clear hS6 hI k0 k1 k2
          refine wp_region_held_drew (S := fun W => Vb 62 W gx [.int .i64 d.k, .int .i64 d.i, .slice d.A d.n d.c]) (by kernel_rfl) hV0 (fun hS0 => ?_)
          clear hV0 hV6
          generalize wc.drew = u at *
          refine takeD (i := 0) (v := .pointer (some ⟨l, 0, none⟩)) (some 117) rfl rfl (by kernel_rfl) (by kernel_rfl) (by kernel_rfl) (fun _ _ _ h => h) (Or.inl ⟨by rfl, ?_⟩) hS0 ?_
          · rintro w' _
            go_simp
          try simp only [Act.put, List.setIfInBounds_toArray, List.set_cons_zero, List.set_cons_succ]
          refine takeD (i := 1) (v := .pointer (some ⟨gx, 1, none⟩)) (some 118) rfl rfl (by kernel_rfl) (by kernel_rfl) (by kernel_rfl) (fun _ _ _ h => h) (Or.inl ⟨by rfl, ?_⟩) hS0 ?_
          · rintro w' _
            go_simp
          try simp only [Act.put, List.setIfInBounds_toArray, List.set_cons_zero, List.set_cons_succ]
          refine takeD (i := 2) (v := .int .i64 d.i) (some 119) rfl rfl (by kernel_rfl) (by kernel_rfl) (by kernel_rfl) (fun _ _ _ h => h) (Or.inl ⟨by rfl, ?_⟩) hS0 ?_
          · rintro w' s0
            have d0 := Vb.cell (show Vb 62 w' gx [.int .i64 d.k, .int .i64 d.i, .slice d.A d.n d.c] from s0) 1 rfl
            go_simp
          try simp only [Act.put, List.setIfInBounds_toArray, List.set_cons_zero, List.set_cons_succ]
          refine takeD (i := 4) (v := .pointer (some ⟨m, 0, none⟩)) (some 121) rfl rfl (by kernel_rfl) (by kernel_rfl) (by kernel_rfl) (fun _ _ _ h => h) (Or.inl ⟨by rfl, ?_⟩) hS0 ?_
          · rintro w' _
            go_simp
          try simp only [Act.put, List.setIfInBounds_toArray, List.set_cons_zero, List.set_cons_succ]
          refine takeD (i := 5) (v := .pointer (some ⟨gx, 1, none⟩)) (some 122) rfl rfl (by kernel_rfl) (by kernel_rfl) (by kernel_rfl) (fun _ _ _ h => h) (Or.inl ⟨by rfl, ?_⟩) hS0 ?_
          · rintro w' _
            go_simp
          try simp only [Act.put, List.setIfInBounds_toArray, List.set_cons_zero, List.set_cons_succ]
          refine takeD (i := 6) (v := .int .i64 d.i) (some 123) rfl rfl (by kernel_rfl) (by kernel_rfl) (by kernel_rfl) (fun _ _ _ h => h) (Or.inl ⟨by rfl, ?_⟩) hS0 ?_
          · rintro w' s0
            have d0 := Vb.cell (show Vb 62 w' gx [.int .i64 d.k, .int .i64 d.i, .slice d.A d.n d.c] from s0) 1 rfl
            go_simp
          try simp only [Act.put, List.setIfInBounds_toArray, List.set_cons_zero, List.set_cons_succ]
          refine wpAnyH_ready (rs := [3]) (by kernel_rfl) (by simp) ?_
          refine AllReadyH.cons rfl (fun K hK => ?_) AllReadyH.nil
          try rw [if_pos (by rfl)]
          go_simp
          go_at_call 34
          refine (pp_double hSd (hP.out u hsd.out) d.i).mono ?_
          rintro e u1 ⟨rfl, hC1, gs1, hM⟩
          have hV1 := hSd.box hS0 hC1
          have hI1 := hSd.own hId hC1
          have hsz1 := Kp.mk (Nat.le_trans hsd.out hC1.size)
          have hln := hSd.len
          clear hSd hId hC1
          refine hK.out _ _ hV1 (fun hS1 => ?_)
          clear hK K hV1 hS0
          try simp only [Act.put, List.setIfInBounds_toArray, List.set_cons_zero, List.set_cons_succ]
          have hdd := dd_double hM (hP.out u1 hsz1.out) d.i (by rw [hln])
          rw [hln] at hdd
          clear hln
          refine wpAnyH_ready (rs := [7]) (by kernel_rfl) (by simp) ?_
          refine AllReadyH.cons rfl (fun K hK => ?_) AllReadyH.nil
          try rw [if_pos (by rfl)]
          go_simp
          go_at_call 35
          refine hdd.mono ?_
          rintro e u2 ⟨rfl, hC2, r3, gs2, hL2⟩
          have hV2 := hM.box hS1 hC2
          have hI2 := hM.own hI1 hC2
          clear hM hI1 hC2 hdd
          refine hK.out _ _ hV2 (fun hS2 => ?_)
          clear hK K hS1
          try simp only [Act.put, List.setIfInBounds_toArray, List.set_cons_zero, List.set_cons_succ]
          refine takeD (i := 8) (v := .bool true) (some 125) rfl rfl (by kernel_rfl) (by kernel_rfl) (by kernel_rfl) (fun _ _ _ h => h) (Or.inl ⟨by rfl, ?_⟩) hS2 ?_
          · rintro w' _
            go_simp
          try simp only [Act.put, List.setIfInBounds_toArray, List.set_cons_zero, List.set_cons_succ]
          refine takeD (i := 9) (v := .bool true) (some 12) rfl rfl (by kernel_rfl) (by kernel_rfl) (by kernel_rfl) (fun _ _ _ h => h) (Or.inl ⟨by rfl, ?_⟩) hS2 ?_
          · rintro w' _
            go_simp
          try simp only [Act.put, List.setIfInBounds_toArray, List.set_cons_zero, List.set_cons_succ]
          refine wpAnyH_done (by kernel_rfl) ?_ _
          go_wp2_with fail
          go_meet
          case rel => exact ⟨rfl, r3, gs1, gs2, hL2, hI2, hV2⟩
        · skip
          go_wp2_with fail
          refine hbr.mono ?_
          rintro e w7 ⟨rfl, hw7⟩
          subst hw7
          clear hbr
          go_wp2_with fail
          have hV0 : (fun W => Vb 62 W gx [.int .i64 d.k, .int .i64 d.i, .slice d.A d.n d.c]) wc.drew := hV6.below (Below.refl wc.heap.size wc).drew hV6.lt
          have hSd := hS6.below (Below.refl wc.heap.size wc).drew
          have hId := hI.below (Below.refl wc.heap.size wc).drew (Nat.le_refl _)
          have hsd := Kp.mk (Nat.le_trans hs1.out (Below.refl wc.heap.size wc).drew.size)
          clear hS6 hI k0 k1 k2
          refine wp_region_held_drew (S := fun W => Vb 62 W gx [.int .i64 d.k, .int .i64 d.i, .slice d.A d.n d.c]) (by kernel_rfl) hV0 (fun hS0 => ?_)
          clear hV0 hV6
          generalize wc.drew = u at *
          refine takeD (i := 0) (v := .pointer (some ⟨l, 0, none⟩)) (some 128) rfl rfl (by kernel_rfl) (by kernel_rfl) (by kernel_rfl) (fun _ _ _ h => h) (Or.inl ⟨by rfl, ?_⟩) hS0 ?_
          · rintro w' _
            go_simp
          try simp only [Act.put, List.setIfInBounds_toArray, List.set_cons_zero, List.set_cons_succ]
          refine takeD (i := 1) (v := .pointer (some ⟨gx, 1, none⟩)) (some 129) rfl rfl (by kernel_rfl) (by kernel_rfl) (by kernel_rfl) (fun _ _ _ h => h) (Or.inl ⟨by rfl, ?_⟩) hS0 ?_
          · rintro w' _
            go_simp
          try simp only [Act.put, List.setIfInBounds_toArray, List.set_cons_zero, List.set_cons_succ]
          refine takeD (i := 2) (v := .int .i64 d.i) (some 130) rfl rfl (by kernel_rfl) (by kernel_rfl) (by kernel_rfl) (fun _ _ _ h => h) (Or.inl ⟨by rfl, ?_⟩) hS0 ?_
          · rintro w' s0
            have d0 := Vb.cell (show Vb 62 w' gx [.int .i64 d.k, .int .i64 d.i, .slice d.A d.n d.c] from s0) 1 rfl
            go_simp
          try simp only [Act.put, List.setIfInBounds_toArray, List.set_cons_zero, List.set_cons_succ]
          refine takeD (i := 4) (v := .pointer (some ⟨m, 0, none⟩)) (some 132) rfl rfl (by kernel_rfl) (by kernel_rfl) (by kernel_rfl) (fun _ _ _ h => h) (Or.inl ⟨by rfl, ?_⟩) hS0 ?_
          · rintro w' _
            go_simp
          try simp only [Act.put, List.setIfInBounds_toArray, List.set_cons_zero, List.set_cons_succ]
          refine takeD (i := 5) (v := .pointer (some ⟨gx, 1, none⟩)) (some 133) rfl rfl (by kernel_rfl) (by kernel_rfl) (by kernel_rfl) (fun _ _ _ h => h) (Or.inl ⟨by rfl, ?_⟩) hS0 ?_
          · rintro w' _
            go_simp
          try simp only [Act.put, List.setIfInBounds_toArray, List.set_cons_zero, List.set_cons_succ]
          refine takeD (i := 6) (v := .int .i64 d.i) (some 134) rfl rfl (by kernel_rfl) (by kernel_rfl) (by kernel_rfl) (fun _ _ _ h => h) (Or.inl ⟨by rfl, ?_⟩) hS0 ?_
          · rintro w' s0
            have d0 := Vb.cell (show Vb 62 w' gx [.int .i64 d.k, .int .i64 d.i, .slice d.A d.n d.c] from s0) 1 rfl
            go_simp
          try simp only [Act.put, List.setIfInBounds_toArray, List.set_cons_zero, List.set_cons_succ]
          refine wpAnyH_ready (rs := [3]) (by kernel_rfl) (by simp) ?_
          refine AllReadyH.cons rfl (fun K hK => ?_) AllReadyH.nil
          try rw [if_pos (by rfl)]
          go_simp
          go_at_call 36
          refine (pp_front hSd d.i).mono ?_
          rintro e u1 ⟨rfl, hC1, gs1, hM⟩
          have hV1 := hSd.box hS0 hC1
          have hI1 := hSd.own hId hC1
          have hsz1 := Kp.mk (Nat.le_trans hsd.out hC1.size)
          have hln := hSd.len
          clear hSd hId hC1
          refine hK.out _ _ hV1 (fun hS1 => ?_)
          clear hK K hV1 hS0
          try simp only [Act.put, List.setIfInBounds_toArray, List.set_cons_zero, List.set_cons_succ]
          have hdd := dd_front hM d.i (by rfl)
          rw [hln] at hdd
          clear hln
          refine wpAnyH_ready (rs := [7]) (by kernel_rfl) (by simp) ?_
          refine AllReadyH.cons rfl (fun K hK => ?_) AllReadyH.nil
          try rw [if_pos (by rfl)]
          go_simp
          go_at_call 37
          refine hdd.mono ?_
          rintro e u2 ⟨rfl, hC2, r3, gs2, hL2⟩
          have hV2 := hM.box hS1 hC2
          have hI2 := hM.own hI1 hC2
          clear hM hI1 hC2 hdd
          refine hK.out _ _ hV2 (fun hS2 => ?_)
          clear hK K hS1
          try simp only [Act.put, List.setIfInBounds_toArray, List.set_cons_zero, List.set_cons_succ]
          refine takeD (i := 8) (v := .bool true) (some 136) rfl rfl (by kernel_rfl) (by kernel_rfl) (by kernel_rfl) (fun _ _ _ h => h) (Or.inl ⟨by rfl, ?_⟩) hS2 ?_
          · rintro w' _
            go_simp
          try simp only [Act.put, List.setIfInBounds_toArray, List.set_cons_zero, List.set_cons_succ]
          refine takeD (i := 9) (v := .bool true) (some 12) rfl rfl (by kernel_rfl) (by kernel_rfl) (by kernel_rfl) (fun _ _ _ h => h) (Or.inl ⟨by rfl, ?_⟩) hS2 ?_
          · rintro w' _
            go_simp
          try simp only [Act.put, List.setIfInBounds_toArray, List.set_cons_zero, List.set_cons_succ]
          refine wpAnyH_done (by kernel_rfl) ?_ _
          go_wp2_with fail
          go_meet
          case rel => exact ⟨rfl, r3, gs1, gs2, hL2, hI2, hV2⟩
        · skip
          go_wp2_with fail
          refine hbr.mono ?_
          rintro e w7 ⟨rfl, hw7⟩
          subst hw7
          clear hbr
          have hln := hS6.len
          by_cases hz : d.i.tmod 4 = 0
          · have hz2 : (d.i.tmod 4 != 0) = false := by simp [hz]
            go_wp2_with fail
            refine (pp_clear hS6).mono ?_
            rintro e u1 ⟨rfl, hC1, hM⟩
            have hI1 := hS6.own hI hC1
            have hV1 := hS6.box hV6 hC1
            clear hS6 hI hV6 hC1 k0 k1 k2
            have hdd := dd_clear hM
            rw [hln] at hdd
            clear hln
            go_wp2_with fail
            refine hdd.mono ?_
            rintro e u2 ⟨rfl, hC2, hL2⟩
            have hI2 := Kp.mk (hM.own hI1 hC2)
            have hV2 := Kp.mk (hM.box hV1 hC2)
            have hL := Kp.mk hL2
            clear hM hI1 hV1 hC2 hL2 hdd
            go_wp2_with fail
            go_meet
            case rel => exact ⟨rfl, _, _, _, hL.out, hI2.out, hV2.out⟩
          · have hz2 : (d.i.tmod 4 != 0) = true := by simp [hz]
            have hS9 := Kp.mk hS6
            have hI9 := Kp.mk hI
            have hV9 := Kp.mk hV6
            clear hS6 hI hV6 k0 k2
            go_wp2_with fail
            go_meet
            case rel => exact ⟨rfl, _, _, _, hS9.out, hI9.out, hV9.out⟩
      clear hS6 hI hV6 hP h10 hs5
      obtain ⟨rfl, r2, fs2, hs2, hL, hI2, hV2⟩ := hcut
      refine h3 _ _ ?_
      clear h3
      have k2 := hV2.cell 2 rfl
      have heq := eqBytes_any hI2.rd (HB.out.1.below (by have := hL.bl; rw [HLO.out] at this; exact this)) HB.out.2.1 HB.out.2.1
      rw [decide_eq_true (rfl : d.bs = d.bs)] at heq
      clear hV2
      go_wp2_with fail
      refine heq.mono ?_
      rintro e w8 ⟨rfl, hw8⟩
      subst hw8
      clear heq k2
      have hnmax := Kp.mk HB.out.2.2
      have hnm : (d.n : Int) ≤ 140737488351232 := by have := hnmax.out; omega
      generalize d.bs = bs0 at *
      generalize d.n = n at *
      go_wp2_with fail
      go_loopw [17] (fun s17 wr => ∃ (k : Nat) (bs : List Int), s17 = .int .i64 k ∧ k ≤ n ∧ LM W lo (fun b => b < s0 ∨ s1 ≤ b) wr l c m R r2 fs2 hs2 ∧ Own wr w5.heap.size (.slice Ai n ci) n bs) (fun s17 _ => n - (intOf s17).toNat)
      case atStart => exact ⟨0, bs0, rfl, Nat.zero_le _, hL, hI2⟩
      case round =>
        clear hL hI2
        obtain ⟨k, bs, rfl, hk, hL, hI2⟩ := hrel
        by_cases hlt : (k : Int) < n
        · obtain ⟨gi, rfl, hnc, ⟨cur, hcur⟩, hcl, hfz, hset⟩ := hI2.blk (by omega)
          have hib := hIb.out gi rfl
          have hc := hcl k (by omega)
          have hf := hfz k
          have HL := Kp.mk (fun (x : Int) => hL.u8 (o := k) hcur hib.1 hib.2 (.int .u8 x))
          have HO := Kp.mk (fun (x : Int) => hset k x)
          clear hL hI2 hcl hfz hset hib hcur
          generalize bs.getD k 0 = z at *
          have HN := Kp.mk hnm
          go_wp2_with fail
          go_roundw
          case rel => exact ⟨k + 1, _, by go_num, by omega, HL.out _, HO.out _⟩
          case measure => simp [intOf]; omega
        · obtain rfl : k = n := by omega
          clear hI2
          go_wp2_with fail
          refine (lanSame_any hL).mono ?_
          rintro e w9 ⟨rfl, hL9⟩
          have hL9 := Kp.mk hL9
          clear hL
          go_wp2_with fail
          go_roundw
          case rel => exact ⟨i + 1, r2, fs2, hs2, by go_num, by omega, by omega, hL9.out⟩
          case measure => simp [intOf]; omega
    · have hend : ¬ (i : Int) < n0 ∨ ¬ (i : Int) < 100 := by omega
      have HB := Kp.mk hS.bl
      have hge := Kp.mk hS.ge.2
      clear hS
      rcases hend with hend | hend
      · skip
        go_wp2_with fail
        refine (lworks_any _).mono ?_
        rintro e w9 ⟨rfl, hb9⟩
        have HF := Kp.mk (HB.out.trans (hb9.mono hge.out))
        clear hb9
        go_wp2_with fail
        go_ret
        exact ⟨rfl, HF.out⟩
      · by_cases hi3 : (i : Int) < n0
        · skip
          go_wp2_with fail
          refine (lworks_any _).mono ?_
          rintro e w9 ⟨rfl, hb9⟩
          have HF := Kp.mk (HB.out.trans (hb9.mono hge.out))
          clear hb9
          go_wp2_with fail
          go_ret
          exact ⟨rfl, HF.out⟩
        · skip
          go_wp2_with fail
          refine (lworks_any _).mono ?_
          rintro e w9 ⟨rfl, hb9⟩
          have HF := Kp.mk (HB.out.trans (hb9.mono hge.out))
          clear hb9
          go_wp2_with fail
          go_ret
          exact ⟨rfl, HF.out⟩
theorem lanePlays_walk (r0 : Int) (ds : List DoL) (A0 : Option Addr) (n0 c0 : Nat) (W : World) (wf : (Lit.int .i64 r0).wf = true) (h : Dl W W.heap.size A0 n0 c0 ds) : Calls Try.prog 4 #[.int .i64 r0, .slice A0 n0 c0] W fun e w' => e = .returned (.bool true) ∧ Below W.heap.size W w' := lanePlays_any r0 h
end Go.Proofs.Ytcolklkjaifplaa.Oct
