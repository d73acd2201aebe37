/- A lane and the document's beside each other; same. -/
import Derived.Test.YtcolklkjaifplaaLanH
namespace Go.Proofs.Ytcolklkjaifplaa.Oct
open Go.RowKit
set_option linter.unusedVariables false
set_option linter.unusedSimpArgs false
theorem drop_map {α β : Type} (f : α → β) (fs : List α) (i : Int) : (dropL fs i).map f = dropL (fs.map f) i := by
  unfold dropL
  rw [List.length_map]
  split
  · rw [List.map_append, List.map_take, List.map_drop]
  · rfl
theorem front_map {α β : Type} (f : α → β) (fs : List α) (i : Int) : (frontL fs i).map f = frontL (fs.map f) i := by
  unfold frontL
  rw [List.length_map]
  split
  · rw [List.map_append, drop_map, List.getElem?_map]
    cases fs[i.toNat]? <;> rfl
  · rfl
/-- Both lanes: their frames read alike, and lie where P holds. -/
structure LM (W : World) (lo : Nat) (P : Nat → Prop) (w : World) (l c m R : Nat) (r : Option Nat) (fs hs : List FrV) : Prop where
  lp : Lp w l c R fs
  lm : Lm w lo m R r hs
  f1 : Fall P w fs
  f2 : Fall P w hs
  map : fs.map FrV.l = hs.map FrV.l
  bl : Below lo W w
  ge : lo ≤ c ∧ lo ≤ w.heap.size
section
variable {W w w' : World} {lo l c m R n k : Nat} {r r' : Option Nat} {fs hs gs ks : List FrV} {P Q : Nat → Prop}
theorem LM.len (h : LM W lo P w l c m R r fs hs) : hs.length = fs.length := by
  have := congrArg List.length h.map
  rw [List.length_map, List.length_map] at this
  exact this.symm
theorem LM.imp (h : LM W lo P w l c m R r fs hs) (hq : ∀ b, b < w.heap.size → P b → Q b) : LM W lo Q w l c m R r fs hs := ⟨h.lp, h.lm, h.f1.imp hq, h.f2.imp hq, h.map, h.bl, h.ge⟩
theorem LM.below (h : LM W lo P w l c m R r fs hs) (hb : Below w.heap.size w w') : LM W lo P w' l c m R r fs hs :=
  ⟨h.lp.below hb, h.lm.below hb, h.f1.below hb, h.f2.below hb, h.map, h.bl.trans (hb.mono h.ge.2), h.ge.1, Nat.le_trans h.ge.2 hb.size⟩
/-- The program's lane is turned. -/
theorem LM.p (h : LM W lo P w l c m R r fs hs) (hc : Ch (fun k => k = c) w w') : Lm w' lo m R r hs ∧ Fall P w' fs ∧ Fall P w' hs ∧ Below lo W w' ∧ lo ≤ c ∧ lo ≤ w'.heap.size :=
  ⟨h.lm.stay hc (h.lm.far h.lp).1 (h.lm.far h.lp).2, h.f1.other hc (fun b cs mk e => by rw [e]; exact h.lp.nocell cs _ mk), h.f2.other hc (fun b cs mk e => by rw [e]; exact h.lp.nocell cs _ mk), h.bl.trans (hc.below (fun x e => by rw [e]; exact h.ge.1) h.ge.2), h.ge.1, Nat.le_trans h.ge.2 hc.size⟩
/-- A block of bytes that is no frame's is written to. -/
theorem LM.u8 (h : LM W lo P w l c m R r fs hs) {b o : Nat} {cs : Array Value} {mk : Nat × Nat} (hb : w.heap[b]? = some (.cells cs 5 mk)) (hP : ¬ P b) (hlo : lo ≤ b) (v : Value) : LM W lo P (w.setCell ⟨b, o, none⟩ v) l c m R r fs hs := by
  have hc : Ch (fun k => k = b) w (w.setCell ⟨b, o, none⟩ v) := .of_grown (grownBy_set w b o v)
  refine ⟨h.lp.stay hc (fun e => ?_) (fun e => ?_), h.lm.stay hc (fun e => ?_) (fun k hk e => ?_), h.f1.stay hc (fun x _ _ _ hx _ e => ?_), h.f2.stay hc (fun x _ _ _ hx _ e => ?_), h.map, h.bl.trans (hc.below (fun x e => by rw [e]; exact hlo) h.ge.2), h.ge.1, Nat.le_trans h.ge.2 hc.size⟩
  · rw [← e, show w.heap[l]? = _ from h.lp.own] at hb
    have hb := Option.some.inj hb
    injection hb with _ hb _
    exact absurd hb (by decide)
  · rw [← e] at hb
    exact h.lp.nocell _ _ _ hb
  · exact h.lm.nob b _ _ (.inl e.symm) (by decide) (by decide) _ hb
  · exact h.lm.nob b _ _ (.inr (by rw [← e]; exact hk)) (by decide) (by decide) _ hb
  · rw [e] at hx; exact hP hx
  · rw [e] at hx; exact hP hx
end
theorem eqF_q {w : World} {P Q : Nat → Prop} {B1 B2 n c1 c2 : Nat} {A1 A2 : Option Addr} {fs gs : List FrV} (h1 : Rr w B1 A1 n c1 fs) (h2 : Rr w B2 A2 n c2 gs) (f1 : Fall P w fs) (f2 : Fall Q w gs) (he : fs.map FrV.l = gs.map FrV.l) (t : Nat) :
    Calls Try.prog 78 #[.slice A1 n c1, .slice A2 n c2] (w.drewN t) fun e w' => e = .returned (.bool true) ∧ ∃ q, w' = w.drewN q := by
  have m1 := h1.max
  have H1 := Kp.mk h1
  have H2 := Kp.mk h2
  have F1 := Kp.mk f1
  have F2 := Kp.mk f2
  have HE := Kp.mk he
  clear h1 h2 f1 f2 he
  go_enter Try.func78, Try.ntmps78
  go_wp2_with fail
  go_loopw [5] (fun s5 wr => ∃ k : Nat, s5 = .int .i64 k ∧ k ≤ n ∧ ∃ q, wr = w.drewN q) (fun s5 _ => n - (intOf s5).toNat)
  case atStart => exact ⟨0, rfl, Nat.zero_le _, t, rfl⟩
  case round =>
    obtain ⟨k, rfl, hk, q, hw⟩ := hrel
    have hbw : Below w.heap.size w wr := by rw [hw]; exact below_drewN (Below.refl _ _) q
    have HW := Kp.mk hw
    clear hw
    by_cases hlt : (k : Int) < n
    · obtain ⟨b1, o1, rfl, _, d1⟩ := H1.out.at_ (by omega)
      obtain ⟨b2, o2, rfl, _, d2⟩ := H2.out.at_ (by omega)
      have hk1 : k < fs.length := by have := H1.out.len; omega
      have hk2 : k < gs.length := by have := H2.out.len; omega
      have e1 : wr.cell? ⟨b1, o1 + k, none⟩ = some fs[k].val := by rw [HW.out]; exact d1 k fs[k] (List.getElem?_eq_getElem hk1)
      have e2 : wr.cell? ⟨b2, o2 + k, none⟩ = some gs[k].val := by rw [HW.out]; exact d2 k gs[k] (List.getElem?_eq_getElem hk2)
      have el : fs[k].l = gs[k].l := by
        have := congrArg (fun l => l[k]?) HE.out
        simp only [List.getElem?_map, List.getElem?_eq_getElem hk1, List.getElem?_eq_getElem hk2] at this
        simpa using this
      have hq := Kp.mk (eqFr ((F1.out fs[k] (List.getElem_mem hk1)).below hbw) ((F2.out gs[k] (List.getElem_mem hk2)).below hbw) el)
      clear el hbw
      generalize fs[k] = f at *
      generalize gs[k] = g at *
      clear d1 d2 hk1 hk2
      rw [show f.val = .slice f.A f.n f.c from rfl] at e1
      rw [show g.val = .slice g.A g.n g.c from rfl] at e2
      go_wp2_with fail
      go_quiet ((go_at_call 31; exact Calls.quiet_of_same (hq.out _)))
      go_wp2_with fail
      go_roundw
      case rel => exact ⟨k + 1, by go_num, by omega, by rw [HW.out, World.drewN_drewN]; exact ⟨_, rfl⟩⟩
      case measure => simp [intOf]; omega
    · obtain rfl : k = n := by omega
      go_wp2_with fail
      go_ret
      exact ⟨rfl, q, HW.out⟩
/-- A slice of bytes that may be written to, in a block from s on. -/
def Ub (w : World) (s : Nat) (g : FrV) : Prop := g.n ≤ g.c ∧ (0 < g.n → ∃ b off cs, g.A = some ⟨b, off, none⟩ ∧ s ≤ b ∧ w.heap[b]? = some (.cells cs 5 (0, 0)) ∧ ∀ j, j < g.n → ∃ z : Int, cs[off + j]? = some (.int .u8 z))
theorem Ub.of_fok {w : World} {s : Nat} {g : FrV} (h : Fok (fun b => s ≤ b) w g) : Ub w s g := ⟨h.le, fun hn => by
  obtain ⟨b, off, cs, e, hb, hg, hc⟩ := h.at_ hn
  exact ⟨b, off, cs, e, hb, hg, fun j hj => ⟨_, hc j hj⟩⟩⟩
theorem Ub.set {w : World} {s : Nat} {g : FrV} (h : Ub w s g) (b o : Nat) (x : Int) : Ub (w.setCell ⟨b, o, none⟩ (.int .u8 x)) s g := ⟨h.1, fun hn => by
  obtain ⟨b2, off, cs, e, hb, hg, hc⟩ := h.2 hn
  by_cases hbb : b2 = b
  · subst hbb
    refine ⟨b2, off, cs.setIfInBounds o (.int .u8 x), e, hb, by simp [World.setCell, Array.getElem?_modify, hg], fun j hj => ?_⟩
    obtain ⟨z, hz⟩ := hc j hj
    by_cases hjo : off + j = o
    · rw [← hjo, Array.getElem?_setIfInBounds_self_of_lt (Array.getElem?_eq_some_iff.1 hz).1]
      exact ⟨x, rfl⟩
    · rw [Array.getElem?_setIfInBounds_ne (fun e => hjo e.symm)]
      exact ⟨z, hz⟩
  · refine ⟨b2, off, cs, e, hb, ?_, hc⟩
    rw [show (w.setCell ⟨b, o, none⟩ (.int .u8 x)).heap[b2]? = w.heap[b2]? from (grownBy_set w b o (.int .u8 x)).block b2 (Array.getElem?_eq_some_iff.1 hg).1 (fun e => hbb (Option.some.inj e))]
    exact hg⟩
theorem Ub.below {w w' : World} {s : Nat} {g : FrV} (h : Ub w s g) (hb : Below w.heap.size w w') : Ub w' s g := ⟨h.1, fun hn => by
  obtain ⟨b, off, cs, e, hs, hg, hc⟩ := h.2 hn
  exact ⟨b, off, cs, e, hs, (hb.block b (Array.getElem?_eq_some_iff.1 hg).1).trans hg, hc⟩⟩
theorem orw_u8 {w : World} {base n b o : Nat} {v u : Value} {fs : List FrV} {cs : Array Value} {mk : Nat × Nat} (h : Orw w base v n fs) (hb : w.heap[b]? = some (.cells cs 5 mk)) : Orw (w.setCell ⟨b, o, none⟩ u) base v n fs := by
  refine h.stay (.of_grown (grownBy_set w b o u)) (fun k hk e => ?_)
  obtain ⟨cur, h4⟩ := h.typed k hk
  rw [e, hb] at h4
  have h4 := Option.some.inj h4
  injection h4 with _ h4 _
  exact absurd h4 (by decide)
set_option maxRecDepth 100000 in
set_option maxHeartbeats 8000000 in
theorem lanSame_any {W w : World} {lo l c m R : Nat} {r : Option Nat} {fs hs : List FrV} {P : Nat → Prop} (h : LM W lo P w l c m R r fs hs) : Calls Try.prog 40 #[.pointer (some ⟨l, 0, none⟩), .pointer (some ⟨m, 0, none⟩)] w fun e w' => e = .returned (.bool true) ∧ LM W lo Tt w' l c m R r fs hs := by
  have h := h.imp (Q := fun b => b < w.heap.size) (fun b hb _ => hb)
  go_enter Try.func40, Try.ntmps40
  go_wp2_with fail
  refine (lall_any h.lp h.f1).mono ?_
  rintro e w1 ⟨A, m1, gs, rfl, hO, hm, hG, hF, hL, hC⟩
  obtain ⟨q1, q2, q3, q4, q5, q6⟩ := h.p hC
  have h1 : LM W lo (fun b => b < w.heap.size) w1 l c m R r fs hs := ⟨hL, q1, hF, q3, h.map, q4, q5, q6⟩
  have hs0 := Kp.mk h.ge.2
  generalize w.heap.size = s at *
  clear h q1 q2 q3 q4 q5 q6 hF hL hC
  obtain ⟨A2, c2, v1, v2, -⟩ := h1.lm.wex
  have k1 := v1.cell 1 rfl
  have hln := h1.len
  have hsm := Kp.mk (show fs.length ≤ 64 by have := h1.lp.fit; omega)
  have hlen := llen_any h1.lp
  rw [hln] at k1 v2
  have hq1 := Kp.mk (fun (t : Nat) => llen_any (h1.below (below_drewN (Below.refl w1.heap.size w1) t)).lp)
  have hq2 := Kp.mk (fun (t : Nat) => eqF_q hO.rr v2 hG h1.f2 (hm.trans h1.map) t)
  have hgl := Kp.mk hO.len
  have hU : ∀ g ∈ gs, Ub w1 s g := fun g hg => Ub.of_fok (hG g hg)
  have hSM := Kp.mk (fun g (hg : g ∈ gs) => (hG g hg).small)
  clear v1 v2 hln hlen hm hG
  generalize hfl : fs.length = n at *
  clear hfl
  go_upto_region 2 with fail
  go_quiet (first | (go_at_call 42; exact Calls.quiet_of_same (hq1.out _)) | (go_at_call 78; exact hq2.out _))
  clear hq1 hq2 k1
  have h1 := h1.below (below_drewN (Below.refl _ _) nq)
  have hO := hO.below (below_drewN (Below.refl _ _) nq)
  have hU : ∀ g ∈ gs, Ub (w1.drewN nq) s g := fun g hg => (hU g hg).below (below_drewN (Below.refl _ _) nq)
  generalize w1.drewN nq = w2 at *
  have hn64 : (n : Int) ≤ 64 := by have := hsm.out; omega
  go_wp2_with fail
  go_loopw [6] (fun s6 wr => ∃ i : Nat, s6 = .int .i64 i ∧ i ≤ n ∧ LM W lo (fun b => b < s) wr l c m R r fs hs ∧ Orw wr s (.slice A n m1) n gs ∧ (∀ g ∈ gs, Ub wr s g)) (fun s6 _ => n - (intOf s6).toNat)
  case atStart => exact ⟨0, rfl, Nat.zero_le _, h1, hO, hU⟩
  case round =>
    clear h1 hO hU
    obtain ⟨i, rfl, hi, hS, hO, hU⟩ := hrel
    by_cases hlt : (i : Int) < n
    · have hil : i < gs.length := by have := hgl.out; omega
      have hmem := Kp.mk (List.getElem_mem hil)
      have hat := Kp.mk (List.getElem?_eq_getElem hil)
      generalize gs[i] = g at *
      have hg512 : (g.n : Int) ≤ 512 := by have := hSM.out g hmem.out; omega
      obtain ⟨b, off, rfl, _, hcc⟩ := hO.rr.at_ (by omega)
      clear hcc
      have hU := Kp.mk hU
      go_wp2_with fail
      go_loopw [7] (fun s7 wr => ∃ k : Nat, s7 = .int .i64 k ∧ k ≤ g.n ∧ LM W lo (fun b => b < s) wr l c m R r fs hs ∧ Orw wr s (.slice (some ⟨b, off, none⟩) n m1) n gs ∧ Kp (∀ g ∈ gs, Ub wr s g)) (fun s7 _ => g.n - (intOf s7).toNat)
      case atStart => exact ⟨0, rfl, Nat.zero_le _, hS, hO, hU⟩
      case round =>
        clear hS hO hU
        obtain ⟨k, rfl, hk, hS, hO, hU⟩ := hrel
        have e1 : wr.cell? ⟨b, off + i, none⟩ = some (.slice g.A g.n g.c) := by
          obtain ⟨b', off', e, _, hcc⟩ := hO.rr.at_ (by omega)
          obtain ⟨rfl, rfl⟩ : b = b' ∧ off = off' := by simpa using e
          exact hcc i g hat.out
        by_cases hkt : (k : Int) < g.n
        · obtain ⟨fb, fo, cs, hA, hsb, hfb, hz⟩ := (hU.out g hmem.out).2 (by omega)
          obtain ⟨z, hz⟩ := hz k (by omega)
          have hle := (hU.out g hmem.out).1
          have e2 : wr.cell? ⟨fb, fo + k, none⟩ = some (.int .u8 z) := by simp [World.cell?, hfb, hz]
          have ef : wr.frozen? ⟨fb, fo + k, none⟩ = false := by simp [World.frozen?, hfb]
          rw [hA] at e1
          have hne : ¬ b = fb := fun e => by
            obtain ⟨cur, h4⟩ := hO.typed b rfl
            rw [e, hfb] at h4
            have h4 := Option.some.inj h4
            injection h4 with _ h4 _
            exact absurd h4 (by decide)
          have hS := Kp.mk (fun (x : Int) => (hS.below (Below.refl wr.heap.size wr).drew).u8 (o := fo + k) (show wr.drew.heap[fb]? = _ from hfb) (by show ¬ fb < s; omega) (by have := hs0.out; omega) (.int .u8 x))
          have hO := Kp.mk (fun (x : Int) => orw_u8 (u := .int .u8 x) (o := fo + k) (hO.below (Below.refl wr.heap.size wr).drew) (show wr.drew.heap[fb]? = _ from hfb))
          have hU := Kp.mk (fun (x : Int) => (fun g hg => ((hU.out g hg).below (Below.refl wr.heap.size wr).drew).set fb (fo + k) x : ∀ g ∈ gs, Ub _ s g))
          generalize g.n = gn at *
          generalize g.c = gc at *
          clear hz hfb hsb hA
          go_wp2_with fail
          have hS0 : (fun W : World => W.cell? ⟨b, off + i, none⟩ = some (.slice (some ⟨fb, fo, none⟩) gn gc)) wr.drew := e1
          refine wp_region_held_drew (S := fun W => W.cell? ⟨b, off + i, none⟩ = some (.slice (some ⟨fb, fo, none⟩) gn gc)) (by kernel_rfl) hS0 (fun _ => ?_)
          refine takeD (i := 0) (v := .slice (some ⟨b, off, none⟩) n m1) (some 42) rfl rfl (by kernel_rfl) (by kernel_rfl) (by kernel_rfl) (fun _ _ _ h => h) (Or.inl ⟨by rfl, ?_⟩) hS0 ?_
          · rintro w' _
            go_simp
          try simp only [Act.put, List.setIfInBounds_toArray, List.set_cons_zero, List.set_cons_succ]
          refine takeD (i := 1) (v := .int .i64 i) (some 43) rfl rfl (by kernel_rfl) (by kernel_rfl) (by kernel_rfl) (fun _ _ _ h => h) (Or.inl ⟨by rfl, ?_⟩) hS0 ?_
          · rintro w' _
            go_simp
          try simp only [Act.put, List.setIfInBounds_toArray, List.set_cons_zero, List.set_cons_succ]
          refine takeD (i := 2) (v := .pointer (some ⟨b, off + i, none⟩)) (some 44) rfl rfl (by kernel_rfl) (by kernel_rfl) (by kernel_rfl) (fun _ _ _ h => h) (Or.inl ⟨by rfl, ?_⟩) hS0 ?_
          · rintro w' _
            go_simp
          try simp only [Act.put, List.setIfInBounds_toArray, List.set_cons_zero, List.set_cons_succ]
          refine takeD (i := 3) (v := .slice (some ⟨fb, fo, none⟩) gn gc) (some 45) rfl rfl (by kernel_rfl) (by kernel_rfl) (by kernel_rfl) (fun _ _ _ h => h) (Or.inl ⟨by rfl, ?_⟩) hS0 ?_
          · rintro w' s0
            have s0 : w'.cell? ⟨b, off + i, none⟩ = some (.slice (some ⟨fb, fo, none⟩) gn gc) := s0
            go_simp
          try simp only [Act.put, List.setIfInBounds_toArray, List.set_cons_zero, List.set_cons_succ]
          refine takeD (i := 4) (v := .int .i64 k) (some 46) rfl rfl (by kernel_rfl) (by kernel_rfl) (by kernel_rfl) (fun _ _ _ h => h) (Or.inl ⟨by rfl, ?_⟩) hS0 ?_
          · rintro w' _
            go_simp
          try simp only [Act.put, List.setIfInBounds_toArray, List.set_cons_zero, List.set_cons_succ]
          refine takeD (i := 5) (v := .slice (some ⟨b, off, none⟩) n m1) (some 47) rfl rfl (by kernel_rfl) (by kernel_rfl) (by kernel_rfl) (fun _ _ _ h => h) (Or.inl ⟨by rfl, ?_⟩) hS0 ?_
          · rintro w' _
            go_simp
          try simp only [Act.put, List.setIfInBounds_toArray, List.set_cons_zero, List.set_cons_succ]
          refine takeD (i := 6) (v := .int .i64 i) (some 48) rfl rfl (by kernel_rfl) (by kernel_rfl) (by kernel_rfl) (fun _ _ _ h => h) (Or.inl ⟨by rfl, ?_⟩) hS0 ?_
          · rintro w' _
            go_simp
          try simp only [Act.put, List.setIfInBounds_toArray, List.set_cons_zero, List.set_cons_succ]
          refine takeD (i := 7) (v := .pointer (some ⟨b, off + i, none⟩)) (some 49) rfl rfl (by kernel_rfl) (by kernel_rfl) (by kernel_rfl) (fun _ _ _ h => h) (Or.inl ⟨by rfl, ?_⟩) hS0 ?_
          · rintro w' _
            go_simp
          try simp only [Act.put, List.setIfInBounds_toArray, List.set_cons_zero, List.set_cons_succ]
          refine takeD (i := 8) (v := .slice (some ⟨fb, fo, none⟩) gn gc) (some 50) rfl rfl (by kernel_rfl) (by kernel_rfl) (by kernel_rfl) (fun _ _ _ h => h) (Or.inl ⟨by rfl, ?_⟩) hS0 ?_
          · rintro w' s0
            have s0 : w'.cell? ⟨b, off + i, none⟩ = some (.slice (some ⟨fb, fo, none⟩) gn gc) := s0
            go_simp
          try simp only [Act.put, List.setIfInBounds_toArray, List.set_cons_zero, List.set_cons_succ]
          refine takeD (i := 9) (v := .int .i64 k) (some 51) rfl rfl (by kernel_rfl) (by kernel_rfl) (by kernel_rfl) (fun _ _ _ h => h) (Or.inl ⟨by rfl, ?_⟩) hS0 ?_
          · rintro w' _
            go_simp
          try simp only [Act.put, List.setIfInBounds_toArray, List.set_cons_zero, List.set_cons_succ]
          refine takeD (i := 10) (v := .pointer (some ⟨fb, fo + k, none⟩)) (some 52) rfl rfl (by kernel_rfl) (by kernel_rfl) (by kernel_rfl) (fun _ _ _ h => h) (Or.inl ⟨by rfl, ?_⟩) hS0 ?_
          · rintro w' _
            go_simp
          try simp only [Act.put, List.setIfInBounds_toArray, List.set_cons_zero, List.set_cons_succ]
          have e2 : wr.drew.cell? ⟨fb, fo + k, none⟩ = some (.int .u8 z) := e2
          have ef : wr.drew.frozen? ⟨fb, fo + k, none⟩ = false := ef
          generalize wr.drew = wq at *
          refine wpAnyH_ready (rs := [11]) (by kernel_rfl) (by simp) ?_
          refine AllReadyH.cons rfl (fun K hK => ?_) AllReadyH.nil
          try rw [if_pos (by rfl)]
          go_simp
          refine hK.out _ _ hS0 (fun _ => ?_)
          clear hK K
          try simp only [Act.put, List.setIfInBounds_toArray, List.set_cons_zero, List.set_cons_succ]
          refine takeD (i := 12) (v := .int .u8 (bits .xor .u8 z 90)) (some 54) rfl rfl (by kernel_rfl) (by kernel_rfl) (by kernel_rfl) (fun _ _ _ h => h) (Or.inl ⟨by rfl, ?_⟩) hS0 ?_
          · rintro w' _
            go_simp
          try simp only [Act.put, List.setIfInBounds_toArray, List.set_cons_zero, List.set_cons_succ]
          refine takeD (i := 13) (v := .pointer (some ⟨fb, fo + k, none⟩)) (some 55) rfl rfl (by kernel_rfl) (by kernel_rfl) (by kernel_rfl) (fun _ _ _ h => h) (Or.inl ⟨by rfl, ?_⟩) hS0 ?_
          · rintro w' _
            go_simp
          try simp only [Act.put, List.setIfInBounds_toArray, List.set_cons_zero, List.set_cons_succ]
          generalize bits .xor .u8 z 90 = x at *
          have hS1 : (wq.setCell ⟨fb, fo + k, none⟩ (.int .u8 x)).cell? ⟨b, off + i, none⟩ = some (.slice (some ⟨fb, fo, none⟩) gn gc) := grown_cell (grownBy_set wq fb (fo + k) (.int .u8 x)) hS0 hne
          refine wpAnyH_ready (rs := [14]) (by kernel_rfl) (by simp) ?_
          refine AllReadyH.cons rfl (fun K hK => ?_) AllReadyH.nil
          try rw [if_pos (by rfl)]
          go_simp
          refine hK.out _ _ hS1 (fun _ => ?_)
          clear hK K
          try simp only [Act.put, List.setIfInBounds_toArray, List.set_cons_zero, List.set_cons_succ]
          refine wpAnyH_done (by kernel_rfl) ?_ _
          have hSx := hS.out x
          have hOx := hO.out x
          have hUx := Kp.mk (hU.out x)
          clear hS hO hU e1 e2 ef hS0 hS1
          generalize wq.setCell ⟨fb, fo + k, none⟩ (.int .u8 x) = w9 at *
          go_wp2_with fail
          go_roundw
          case rel => exact ⟨k + 1, by go_num, by omega, hSx, hOx, hUx⟩
          case measure => simp [intOf]; omega
        · obtain rfl : k = g.n := by omega
          have hU := hU.out
          go_wp2_with fail
          go_roundw
          case rel => exact ⟨i + 1, by go_num, by omega, hS, hO, hU⟩
          case measure => simp [intOf]; omega
    · go_wp2_with fail
      go_ret
      exact ⟨rfl, hS.imp (fun _ _ _ => trivial)⟩
end Go.Proofs.Ytcolklkjaifplaa.Oct
