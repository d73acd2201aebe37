/- Contracts of layer 7: Meet, Covers, Fits, Only. -/
import Derived.Test.YtcolklkjaifplaaMskA
namespace Go.Proofs.Ytcolklkjaifplaa.Oct
open Go.RowKit
set_option linter.unusedVariables false
set_option linter.unusedSimpArgs false

def orB (a b : Int) : Int := bits .or .u8 a b
def anB (a b : Int) : Int := bits .and .u8 a b
def meetB (x y : MaskV) : Bool := eithB x.v y.v 0 && (eithB x.m y.m (-1) && likeB x y)
def bothV (x y : MaskV) : MaskV := ⟨eithN x.v y.v 0, eithN x.m y.m (-1), bits .or .u8 x.b0 y.b0, bits .or .u8 x.b1 y.b1, bits .or .u8 x.b2 y.b2, bits .or .u8 (bits .and .u8 x.i0 x.b0) (bits .and .u8 y.i0 y.b0), bits .or .u8 (bits .and .u8 x.i1 x.b1) (bits .and .u8 y.i1 y.b1), bits .or .u8 (bits .and .u8 x.i2 x.b2) (bits .and .u8 y.i2 y.b2)⟩
def meetV (x y : MaskV) : MaskV := if meetB x y = true then bothV x y else noMask
def MeetOf (x y : MaskV) (w : World) (e : Ending) (w' : World) : Prop := e = .returned (.tuple #[.agg (mcl (meetV x y)).toArray, .bool (meetB x y)]) ∧ Below w.heap.size w w'
theorem MeetOf.yes {x y : MaskV} {w w' : World} (h : meetB x y = true) (hb : Below w.heap.size w w') : MeetOf x y w (.returned (.tuple #[.agg (mcl (bothV x y)).toArray, .bool true])) w' := by
  refine ⟨?_, hb⟩; unfold meetV; rw [if_pos h, h]
theorem MeetOf.no {x y : MaskV} {w w' : World} (h : meetB x y = false) (hb : Below w.heap.size w w') : MeetOf x y w (.returned (.tuple #[.agg (mcl noMask).toArray, .bool false])) w' := by
  refine ⟨?_, hb⟩; unfold meetV; rw [if_neg (by rw [h]; simp), h]
section
variable {T ty : TypeId} {w : World} {g : Nat} {cs vs : List Value} {o : Oper} {a : Act} {K : Act → World → Prop} {Q : Exit → Act → World → Prop}
/-- A struct is stored over a whole block, inside a region that draws its order. -/
theorem wp_store_vb (d : Option Tmp) (hd : o.dst = d) (x y : Operand) (ho : o.op = .store ty x y) (hx : a.eval x = .pointer (some ⟨g, 0, none⟩)) (hy : a.eval y = .agg vs.toArray) (hv : Vb T w g cs) (hl : cs.length = vs.length) (ht : Agg ty vs.length)
    (h1 : vs.all (·.oneCell') = true)
    (h : ∀ w', Vb T w' g vs → w.grownBy w' (some g) → w'.heap.size = w.heap.size → K (a.put d undef) w') : o.wp Try.prog a w K Q := by
  subst hd
  exact wp_store_row ty x y ho g vs.toArray hx hy T cs.toArray hv (by simpa using ht.2) (by simpa using hl) (by simpa using h1) (h _ (setRow_vb hv hl) (setRow_grown _ _ _) (setRow_size _ _ _))
theorem wp_load_vb {off : Nat} (d : Option Tmp) (hd : o.dst = d) (x : Operand) (ho : o.op = .load ty x) (hx : a.eval x = .pointer (some ⟨g, off, none⟩)) (hv : Vb T w g cs) (hvs : (cs.drop off).take vs.length = vs) (ht : Agg ty vs.length)
    (h : K (a.put d (.agg vs.toArray)) w) : o.wp Try.prog a w K Q := by
  subst hd
  unfold Oper.wp execOp
  simp only [ho, hx, Instr.loadAt, Instr.sureAddr, Sem.run_bind, Sem.run_pure, Result.andThen_ok, run_loadVb hv hvs ht]
  exact h
end
theorem bothV_cells (x y : MaskV) : (mcl (bothV x y)).toArray = #[.int .i64 (eithN x.v y.v 0), .int .i64 (eithN x.m y.m (-1)), .int .u8 (bits .or .u8 x.b0 y.b0), .int .u8 (bits .or .u8 x.b1 y.b1), .int .u8 (bits .or .u8 x.b2 y.b2), .int .u8 (bits .or .u8 (bits .and .u8 x.i0 x.b0) (bits .and .u8 y.i0 y.b0)), .int .u8 (bits .or .u8 (bits .and .u8 x.i1 x.b1) (bits .and .u8 y.i1 y.b1)), .int .u8 (bits .or .u8 (bits .and .u8 x.i2 x.b2) (bits .and .u8 y.i2 y.b2))] := rfl

set_option maxRecDepth 100000 in
set_option maxHeartbeats 4000000 in
theorem meet_any (x y : MaskV) (w : World) : Calls Try.prog 87 #[.agg #[.int .i64 x.v, .int .i64 x.m, .int .u8 x.b0, .int .u8 x.b1, .int .u8 x.b2, .int .u8 x.i0, .int .u8 x.i1, .int .u8 x.i2], .agg #[.int .i64 y.v, .int .i64 y.m, .int .u8 y.b0, .int .u8 y.b1, .int .u8 y.b2, .int .u8 y.i0, .int .u8 y.i1, .int .u8 y.i2]] w (MeetOf x y w) := by
  have hx : Vb 28 (((w.alloc (.cells #[.int .i64 x.v, .int .i64 x.m, .int .u8 x.b0, .int .u8 x.b1, .int .u8 x.b2, .int .u8 x.i0, .int .u8 x.i1, .int .u8 x.i2] 28)).alloc (.cells #[.int .i64 y.v, .int .i64 y.m, .int .u8 y.b0, .int .u8 y.b1, .int .u8 y.b2, .int .u8 y.i0, .int .u8 y.i1, .int .u8 y.i2] 28)).alloc (.cells #[.int .i64 0, .int .i64 0, .int .u8 0, .int .u8 0, .int .u8 0, .int .u8 0, .int .u8 0, .int .u8 0] 28)) w.heap.size [.int .i64 x.v, .int .i64 x.m, .int .u8 x.b0, .int .u8 x.b1, .int .u8 x.b2, .int .u8 x.i0, .int .u8 x.i1, .int .u8 x.i2] := ((Vb.new 28 w (mcl x)).alloc _).alloc _
  have hy : Vb 28 (((w.alloc (.cells #[.int .i64 x.v, .int .i64 x.m, .int .u8 x.b0, .int .u8 x.b1, .int .u8 x.b2, .int .u8 x.i0, .int .u8 x.i1, .int .u8 x.i2] 28)).alloc (.cells #[.int .i64 y.v, .int .i64 y.m, .int .u8 y.b0, .int .u8 y.b1, .int .u8 y.b2, .int .u8 y.i0, .int .u8 y.i1, .int .u8 y.i2] 28)).alloc (.cells #[.int .i64 0, .int .i64 0, .int .u8 0, .int .u8 0, .int .u8 0, .int .u8 0, .int .u8 0, .int .u8 0] 28)) (w.heap.size + 1) [.int .i64 y.v, .int .i64 y.m, .int .u8 y.b0, .int .u8 y.b1, .int .u8 y.b2, .int .u8 y.i0, .int .u8 y.i1, .int .u8 y.i2] := by have := (Vb.new 28 (w.alloc (.cells #[.int .i64 x.v, .int .i64 x.m, .int .u8 x.b0, .int .u8 x.b1, .int .u8 x.b2, .int .u8 x.i0, .int .u8 x.i1, .int .u8 x.i2] 28)) (mcl y)).alloc (.cells #[.int .i64 0, .int .i64 0, .int .u8 0, .int .u8 0, .int .u8 0, .int .u8 0, .int .u8 0, .int .u8 0] 28); simpa [mcl] using this
  have hr : Vb 28 (((w.alloc (.cells #[.int .i64 x.v, .int .i64 x.m, .int .u8 x.b0, .int .u8 x.b1, .int .u8 x.b2, .int .u8 x.i0, .int .u8 x.i1, .int .u8 x.i2] 28)).alloc (.cells #[.int .i64 y.v, .int .i64 y.m, .int .u8 y.b0, .int .u8 y.b1, .int .u8 y.b2, .int .u8 y.i0, .int .u8 y.i1, .int .u8 y.i2] 28)).alloc (.cells #[.int .i64 0, .int .i64 0, .int .u8 0, .int .u8 0, .int .u8 0, .int .u8 0, .int .u8 0, .int .u8 0] 28)) (w.heap.size + 2) [.int .i64 0, .int .i64 0, .int .u8 0, .int .u8 0, .int .u8 0, .int .u8 0, .int .u8 0, .int .u8 0] := by have := Vb.new 28 ((w.alloc (.cells #[.int .i64 x.v, .int .i64 x.m, .int .u8 x.b0, .int .u8 x.b1, .int .u8 x.b2, .int .u8 x.i0, .int .u8 x.i1, .int .u8 x.i2] 28)).alloc (.cells #[.int .i64 y.v, .int .i64 y.m, .int .u8 y.b0, .int .u8 y.b1, .int .u8 y.b2, .int .u8 y.i0, .int .u8 y.i1, .int .u8 y.i2] 28)) (mcl noMask); simpa [mcl, noMask] using this
  have hB := (below_two w (.cells #[.int .i64 x.v, .int .i64 x.m, .int .u8 x.b0, .int .u8 x.b1, .int .u8 x.b2, .int .u8 x.i0, .int .u8 x.i1, .int .u8 x.i2] 28) (.cells #[.int .i64 y.v, .int .i64 y.m, .int .u8 y.b0, .int .u8 y.b1, .int .u8 y.b2, .int .u8 y.i0, .int .u8 y.i1, .int .u8 y.i2] 28)).alloc (by simp; omega) (.cells #[.int .i64 0, .int .i64 0, .int .u8 0, .int .u8 0, .int .u8 0, .int .u8 0, .int .u8 0, .int .u8 0] 28)
  have Hno := Kp.mk (fun (h : meetB x y = false) (w' : World) (hb : Below w.heap.size w w') => MeetOf.no h hb)
  have Hyes := Kp.mk (fun (h : meetB x y = true) (w' : World) (hb : Below w.heap.size w w') => MeetOf.yes h hb)
  generalize hP : MeetOf x y w = P at *
  clear hP
  generalize hev : eithB x.v y.v 0 = ev at *
  generalize hem : eithB x.m y.m (-1) = em at *
  generalize hek : likeB x y = ek at *
  have HB := Kp.mk (show meetB x y = (ev && (em && ek)) by unfold meetB; rw [hev, hem, hek])
  have Hev := Kp.mk hev
  have Hem := Kp.mk hem
  have Hek := Kp.mk hek
  clear hev hem hek
  go_enter Try.func87, Try.ntmps87
  go_upto_region 1 with fail
  generalize ((w.alloc (.cells #[.int .i64 x.v, .int .i64 x.m, .int .u8 x.b0, .int .u8 x.b1, .int .u8 x.b2, .int .u8 x.i0, .int .u8 x.i1, .int .u8 x.i2] 28)).alloc (.cells #[.int .i64 y.v, .int .i64 y.m, .int .u8 y.b0, .int .u8 y.b1, .int .u8 y.b2, .int .u8 y.i0, .int .u8 y.i1, .int .u8 y.i2] 28)).alloc (.cells #[.int .i64 0, .int .i64 0, .int .u8 0, .int .u8 0, .int .u8 0, .int .u8 0, .int .u8 0, .int .u8 0] 28) = w0 at *
  have cx := hx.c8
  have cy := hy.c8
  obtain ⟨d0, d1, d2, d3, d4, d5, d6, d7⟩ := cx
  obtain ⟨e0, e1, e2, e3, e4, e5, e6, e7⟩ := cy
  go_upto_region 3 with (go_at_call 101; refine (either_any _ _ _ _).mono ?_; rintro e w' ⟨rfl, rfl⟩; (first | rw [Hev.out] | rw [Hem.out]))

  cases ev
  · go_wp2_with (refine wpList_store_vb (vs := [.int .i64 0, .int .i64 0, .int .u8 0, .int .u8 0, .int .u8 0, .int .u8 0, .int .u8 0, .int .u8 0]) rfl (.tmp 4) (.tmp 40) rfl rfl rfl hr rfl agg_mask rfl ?_; intro w9 hv9 hg9 hz9)
    refine bodyPost_ret (results_pair Try.results87 _ rfl hv9 agg_mask) rfl ?_
    exact Hno.out (HB.out.trans rfl) w9 (hB.grown hg9 (by have := hr.lt; omega) (fun k e => by simp at e; omega))
  cases em
  · go_wp2_with (refine wpList_store_vb (vs := [.int .i64 0, .int .i64 0, .int .u8 0, .int .u8 0, .int .u8 0, .int .u8 0, .int .u8 0, .int .u8 0]) rfl (.tmp 4) (.tmp 40) rfl rfl rfl hr rfl agg_mask rfl ?_; intro w9 hv9 hg9 hz9)
    refine bodyPost_ret (results_pair Try.results87 _ rfl hv9 agg_mask) rfl ?_
    exact Hno.out (HB.out.trans rfl) w9 (hB.grown hg9 (by have := hr.lt; omega) (fun k e => by simp at e; omega))
  go_wp2_with fail
  refine (likeBits_any x y _).mono ?_
  rw [Hek.out]
  rintro e w1 ⟨rfl, hb1⟩
  clear d0 d1 d2 d3 d4 d5 d6 d7 e0 e1 e2 e3 e4 e5 e6 e7
  have hx1 := hx.below hb1 (by have := hr.lt; omega)
  have hy1 := hy.below hb1 (by have := hr.lt; omega)
  have hr1 := hr.below hb1 hr.lt
  have hB1 := hB.trans (hb1.mono (by have := hr.lt; omega))
  clear hx hy hr hB hb1
  cases ek
  · go_wp2_with (refine wpList_store_vb (vs := [.int .i64 0, .int .i64 0, .int .u8 0, .int .u8 0, .int .u8 0, .int .u8 0, .int .u8 0, .int .u8 0]) rfl (.tmp 4) (.tmp 40) rfl rfl rfl hr1 rfl agg_mask rfl ?_; intro w9 hv9 hg9 hz9)
    refine bodyPost_ret (results_pair Try.results87 _ rfl hv9 agg_mask) rfl ?_
    exact Hno.out (HB.out.trans rfl) w9 (hB1.grown hg9 (by have := hr1.lt; omega) (fun k e => by simp at e; omega))
  go_upto_region 5 with fail
  go_cut [] from 41 (fun wx => Vb 28 wx w.heap.size [.int .i64 (bareV x).v, .int .i64 (bareV x).m, .int .u8 (bareV x).b0, .int .u8 (bareV x).b1, .int .u8 (bareV x).b2, .int .u8 (bareV x).i0, .int .u8 (bareV x).i1, .int .u8 (bareV x).i2] ∧ Vb 28 wx (w.heap.size + 1) [.int .i64 (bareV y).v, .int .i64 (bareV y).m, .int .u8 (bareV y).b0, .int .u8 (bareV y).b1, .int .u8 (bareV y).b2, .int .u8 (bareV y).i0, .int .u8 (bareV y).i1, .int .u8 (bareV y).i2] ∧ Vb 28 wx (w.heap.size + 2) [.int .i64 0, .int .i64 0, .int .u8 0, .int .u8 0, .int .u8 0, .int .u8 0, .int .u8 0, .int .u8 0] ∧ Below w.heap.size w wx)
  case first =>
    have hxd : Vb 28 w1.drew w.heap.size [.int .i64 x.v, .int .i64 x.m, .int .u8 x.b0, .int .u8 x.b1, .int .u8 x.b2, .int .u8 x.i0, .int .u8 x.i1, .int .u8 x.i2] := hx1
    have hyd : Vb 28 w1.drew (w.heap.size + 1) [.int .i64 y.v, .int .i64 y.m, .int .u8 y.b0, .int .u8 y.b1, .int .u8 y.b2, .int .u8 y.i0, .int .u8 y.i1, .int .u8 y.i2] := hy1
    have hrd : Vb 28 w1.drew (w.heap.size + 2) [.int .i64 0, .int .i64 0, .int .u8 0, .int .u8 0, .int .u8 0, .int .u8 0, .int .u8 0, .int .u8 0] := hr1
    have hBd : Below w.heap.size w w1.drew := hB1.drew
    clear hx1 hy1 hr1 hB1
    refine wp_region_held_drew (S := fun _ => True) (by kernel_rfl) trivial (fun _ => ?_)
    generalize w1.drew = u at *
    refine wpAnyH_ready (rs := [0, 2]) (by kernel_rfl) (by simp) ?_
    refine AllReadyH.cons rfl (fun K hK => ?_) (AllReadyH.cons rfl (fun K hK => ?_) AllReadyH.nil)
    · try rw [if_pos (by rfl)]
      refine wp_load_vb (vs := [.int .i64 x.v, .int .i64 x.m, .int .u8 x.b0, .int .u8 x.b1, .int .u8 x.b2, .int .u8 x.i0, .int .u8 x.i1, .int .u8 x.i2]) (some 41) rfl (.tmp 2) rfl rfl hxd rfl agg_mask ?_
      refine hK.out _ _ trivial (fun _ => ?_)
      clear hK K
      try simp only [Act.put, List.setIfInBounds_toArray, List.set_cons_zero, List.set_cons_succ]
      refine wpAnyH_ready (rs := [1, 2]) (by kernel_rfl) (by simp) ?_
      refine AllReadyH.cons rfl (fun K hK => ?_) (AllReadyH.cons rfl (fun K hK => ?_) AllReadyH.nil)
      · try rw [if_pos (by rfl)]
        go_simp
        go_at_call 88
        refine (bare_any x _).mono ?_
        rintro e udc ⟨rfl, hbdc⟩
        refine hK.out _ _ trivial (fun _ => ?_)
        have hldc := hrd.lt
        have hxdc := hxd.below hbdc (by omega)
        have hydc := hyd.below hbdc (by omega)
        have hrdc := hrd.below hbdc (by omega)
        have hBdc := hBd.trans (hbdc.mono (by omega))
        clear hK K
        try simp only [Act.put, List.setIfInBounds_toArray, List.set_cons_zero, List.set_cons_succ]
        refine wpAnyH_ready (rs := [2]) (by kernel_rfl) (by simp) ?_
        refine AllReadyH.cons rfl (fun K hK => ?_) AllReadyH.nil
        try rw [if_pos (by rfl)]
        refine wp_load_vb (vs := [.int .i64 y.v, .int .i64 y.m, .int .u8 y.b0, .int .u8 y.b1, .int .u8 y.b2, .int .u8 y.i0, .int .u8 y.i1, .int .u8 y.i2]) (some 43) rfl (.tmp 3) rfl rfl hydc rfl agg_mask ?_
        refine hK.out _ _ trivial (fun _ => ?_)
        clear hK K
        try simp only [Act.put, List.setIfInBounds_toArray, List.set_cons_zero, List.set_cons_succ]
        refine wpAnyH_ready (rs := [3]) (by kernel_rfl) (by simp) ?_
        refine AllReadyH.cons rfl (fun K hK => ?_) AllReadyH.nil
        try rw [if_pos (by rfl)]
        go_simp
        go_at_call 88
        refine (bare_any y _).mono ?_
        rintro e udcc ⟨rfl, hbdcc⟩
        refine hK.out _ _ trivial (fun _ => ?_)
        have hldcc := hrdc.lt
        have hxdcc := hxdc.below hbdcc (by omega)
        have hydcc := hydc.below hbdcc (by omega)
        have hrdcc := hrdc.below hbdcc (by omega)
        have hBdcc := hBdc.trans (hbdcc.mono (by omega))
        clear hK K
        try simp only [Act.put, List.setIfInBounds_toArray, List.set_cons_zero, List.set_cons_succ]
        refine wpAnyH_ready (rs := [4]) (by kernel_rfl) (by simp) ?_
        refine AllReadyH.cons rfl (fun K hK => ?_) AllReadyH.nil
        try rw [if_pos (by rfl)]
        refine wp_store_vb (vs := [.int .i64 (bareV x).v, .int .i64 (bareV x).m, .int .u8 (bareV x).b0, .int .u8 (bareV x).b1, .int .u8 (bareV x).b2, .int .u8 (bareV x).i0, .int .u8 (bareV x).i1, .int .u8 (bareV x).i2]) none rfl (.tmp 2) (.tmp 42) rfl rfl rfl hxdcc rfl agg_mask rfl ?_
        intro udccs hxdccs hgdccs hzdccs
        refine hK.out _ _ trivial (fun _ => ?_)
        have hydccs := hydcc.grown hgdccs (by omega)
        have hrdccs := hrdcc.grown hgdccs (by omega)
        have hBdccs := hBdcc.grown hgdccs (by have := hrdcc.lt; omega) (fun k e => by simp at e; omega)
        clear hK K
        try simp only [Act.put, List.setIfInBounds_toArray, List.set_cons_zero, List.set_cons_succ]
        refine wpAnyH_ready (rs := [5]) (by kernel_rfl) (by simp) ?_
        refine AllReadyH.cons rfl (fun K hK => ?_) AllReadyH.nil
        try rw [if_pos (by rfl)]
        refine wp_store_vb (vs := [.int .i64 (bareV y).v, .int .i64 (bareV y).m, .int .u8 (bareV y).b0, .int .u8 (bareV y).b1, .int .u8 (bareV y).b2, .int .u8 (bareV y).i0, .int .u8 (bareV y).i1, .int .u8 (bareV y).i2]) none rfl (.tmp 3) (.tmp 44) rfl rfl rfl hydccs rfl agg_mask rfl ?_
        intro udccss hydccss hgdccss hzdccss
        refine hK.out _ _ trivial (fun _ => ?_)
        have hxdccss := hxdccs.grown hgdccss (by omega)
        have hrdccss := hrdccs.grown hgdccss (by omega)
        have hBdccss := hBdccs.grown hgdccss (by have := hrdccs.lt; omega) (fun k e => by simp at e; omega)
        clear hK K
        try simp only [Act.put, List.setIfInBounds_toArray, List.set_cons_zero, List.set_cons_succ]
        refine wpAnyH_done (by kernel_rfl) ?_ _
        go_wp2_with fail
        go_meet
        case rel => exact ⟨hxdccss, hydccss, hrdccss, hBdccss⟩
      · try rw [if_pos (by rfl)]
        refine wp_load_vb (vs := [.int .i64 y.v, .int .i64 y.m, .int .u8 y.b0, .int .u8 y.b1, .int .u8 y.b2, .int .u8 y.i0, .int .u8 y.i1, .int .u8 y.i2]) (some 43) rfl (.tmp 3) rfl rfl hyd rfl agg_mask ?_
        refine hK.out _ _ trivial (fun _ => ?_)
        clear hK K
        try simp only [Act.put, List.setIfInBounds_toArray, List.set_cons_zero, List.set_cons_succ]
        refine wpAnyH_ready (rs := [1]) (by kernel_rfl) (by simp) ?_
        refine AllReadyH.cons rfl (fun K hK => ?_) AllReadyH.nil
        try rw [if_pos (by rfl)]
        go_simp
        go_at_call 88
        refine (bare_any x _).mono ?_
        rintro e udc ⟨rfl, hbdc⟩
        refine hK.out _ _ trivial (fun _ => ?_)
        have hldc := hrd.lt
        have hxdc := hxd.below hbdc (by omega)
        have hydc := hyd.below hbdc (by omega)
        have hrdc := hrd.below hbdc (by omega)
        have hBdc := hBd.trans (hbdc.mono (by omega))
        clear hK K
        try simp only [Act.put, List.setIfInBounds_toArray, List.set_cons_zero, List.set_cons_succ]
        refine wpAnyH_ready (rs := [3]) (by kernel_rfl) (by simp) ?_
        refine AllReadyH.cons rfl (fun K hK => ?_) AllReadyH.nil
        try rw [if_pos (by rfl)]
        go_simp
        go_at_call 88
        refine (bare_any y _).mono ?_
        rintro e udcc ⟨rfl, hbdcc⟩
        refine hK.out _ _ trivial (fun _ => ?_)
        have hldcc := hrdc.lt
        have hxdcc := hxdc.below hbdcc (by omega)
        have hydcc := hydc.below hbdcc (by omega)
        have hrdcc := hrdc.below hbdcc (by omega)
        have hBdcc := hBdc.trans (hbdcc.mono (by omega))
        clear hK K
        try simp only [Act.put, List.setIfInBounds_toArray, List.set_cons_zero, List.set_cons_succ]
        refine wpAnyH_ready (rs := [4]) (by kernel_rfl) (by simp) ?_
        refine AllReadyH.cons rfl (fun K hK => ?_) AllReadyH.nil
        try rw [if_pos (by rfl)]
        refine wp_store_vb (vs := [.int .i64 (bareV x).v, .int .i64 (bareV x).m, .int .u8 (bareV x).b0, .int .u8 (bareV x).b1, .int .u8 (bareV x).b2, .int .u8 (bareV x).i0, .int .u8 (bareV x).i1, .int .u8 (bareV x).i2]) none rfl (.tmp 2) (.tmp 42) rfl rfl rfl hxdcc rfl agg_mask rfl ?_
        intro udccs hxdccs hgdccs hzdccs
        refine hK.out _ _ trivial (fun _ => ?_)
        have hydccs := hydcc.grown hgdccs (by omega)
        have hrdccs := hrdcc.grown hgdccs (by omega)
        have hBdccs := hBdcc.grown hgdccs (by have := hrdcc.lt; omega) (fun k e => by simp at e; omega)
        clear hK K
        try simp only [Act.put, List.setIfInBounds_toArray, List.set_cons_zero, List.set_cons_succ]
        refine wpAnyH_ready (rs := [5]) (by kernel_rfl) (by simp) ?_
        refine AllReadyH.cons rfl (fun K hK => ?_) AllReadyH.nil
        try rw [if_pos (by rfl)]
        refine wp_store_vb (vs := [.int .i64 (bareV y).v, .int .i64 (bareV y).m, .int .u8 (bareV y).b0, .int .u8 (bareV y).b1, .int .u8 (bareV y).b2, .int .u8 (bareV y).i0, .int .u8 (bareV y).i1, .int .u8 (bareV y).i2]) none rfl (.tmp 3) (.tmp 44) rfl rfl rfl hydccs rfl agg_mask rfl ?_
        intro udccss hydccss hgdccss hzdccss
        refine hK.out _ _ trivial (fun _ => ?_)
        have hxdccss := hxdccs.grown hgdccss (by omega)
        have hrdccss := hrdccs.grown hgdccss (by omega)
        have hBdccss := hBdccs.grown hgdccss (by have := hrdccs.lt; omega) (fun k e => by simp at e; omega)
        clear hK K
        try simp only [Act.put, List.setIfInBounds_toArray, List.set_cons_zero, List.set_cons_succ]
        refine wpAnyH_done (by kernel_rfl) ?_ _
        go_wp2_with fail
        go_meet
        case rel => exact ⟨hxdccss, hydccss, hrdccss, hBdccss⟩
    · try rw [if_pos (by rfl)]
      refine wp_load_vb (vs := [.int .i64 y.v, .int .i64 y.m, .int .u8 y.b0, .int .u8 y.b1, .int .u8 y.b2, .int .u8 y.i0, .int .u8 y.i1, .int .u8 y.i2]) (some 43) rfl (.tmp 3) rfl rfl hyd rfl agg_mask ?_
      refine hK.out _ _ trivial (fun _ => ?_)
      clear hK K
      try simp only [Act.put, List.setIfInBounds_toArray, List.set_cons_zero, List.set_cons_succ]
      refine wpAnyH_ready (rs := [0]) (by kernel_rfl) (by simp) ?_
      refine AllReadyH.cons rfl (fun K hK => ?_) AllReadyH.nil
      try rw [if_pos (by rfl)]
      refine wp_load_vb (vs := [.int .i64 x.v, .int .i64 x.m, .int .u8 x.b0, .int .u8 x.b1, .int .u8 x.b2, .int .u8 x.i0, .int .u8 x.i1, .int .u8 x.i2]) (some 41) rfl (.tmp 2) rfl rfl hxd rfl agg_mask ?_
      refine hK.out _ _ trivial (fun _ => ?_)
      clear hK K
      try simp only [Act.put, List.setIfInBounds_toArray, List.set_cons_zero, List.set_cons_succ]
      refine wpAnyH_ready (rs := [1]) (by kernel_rfl) (by simp) ?_
      refine AllReadyH.cons rfl (fun K hK => ?_) AllReadyH.nil
      try rw [if_pos (by rfl)]
      go_simp
      go_at_call 88
      refine (bare_any x _).mono ?_
      rintro e udc ⟨rfl, hbdc⟩
      refine hK.out _ _ trivial (fun _ => ?_)
      have hldc := hrd.lt
      have hxdc := hxd.below hbdc (by omega)
      have hydc := hyd.below hbdc (by omega)
      have hrdc := hrd.below hbdc (by omega)
      have hBdc := hBd.trans (hbdc.mono (by omega))
      clear hK K
      try simp only [Act.put, List.setIfInBounds_toArray, List.set_cons_zero, List.set_cons_succ]
      refine wpAnyH_ready (rs := [3]) (by kernel_rfl) (by simp) ?_
      refine AllReadyH.cons rfl (fun K hK => ?_) AllReadyH.nil
      try rw [if_pos (by rfl)]
      go_simp
      go_at_call 88
      refine (bare_any y _).mono ?_
      rintro e udcc ⟨rfl, hbdcc⟩
      refine hK.out _ _ trivial (fun _ => ?_)
      have hldcc := hrdc.lt
      have hxdcc := hxdc.below hbdcc (by omega)
      have hydcc := hydc.below hbdcc (by omega)
      have hrdcc := hrdc.below hbdcc (by omega)
      have hBdcc := hBdc.trans (hbdcc.mono (by omega))
      clear hK K
      try simp only [Act.put, List.setIfInBounds_toArray, List.set_cons_zero, List.set_cons_succ]
      refine wpAnyH_ready (rs := [4]) (by kernel_rfl) (by simp) ?_
      refine AllReadyH.cons rfl (fun K hK => ?_) AllReadyH.nil
      try rw [if_pos (by rfl)]
      refine wp_store_vb (vs := [.int .i64 (bareV x).v, .int .i64 (bareV x).m, .int .u8 (bareV x).b0, .int .u8 (bareV x).b1, .int .u8 (bareV x).b2, .int .u8 (bareV x).i0, .int .u8 (bareV x).i1, .int .u8 (bareV x).i2]) none rfl (.tmp 2) (.tmp 42) rfl rfl rfl hxdcc rfl agg_mask rfl ?_
      intro udccs hxdccs hgdccs hzdccs
      refine hK.out _ _ trivial (fun _ => ?_)
      have hydccs := hydcc.grown hgdccs (by omega)
      have hrdccs := hrdcc.grown hgdccs (by omega)
      have hBdccs := hBdcc.grown hgdccs (by have := hrdcc.lt; omega) (fun k e => by simp at e; omega)
      clear hK K
      try simp only [Act.put, List.setIfInBounds_toArray, List.set_cons_zero, List.set_cons_succ]
      refine wpAnyH_ready (rs := [5]) (by kernel_rfl) (by simp) ?_
      refine AllReadyH.cons rfl (fun K hK => ?_) AllReadyH.nil
      try rw [if_pos (by rfl)]
      refine wp_store_vb (vs := [.int .i64 (bareV y).v, .int .i64 (bareV y).m, .int .u8 (bareV y).b0, .int .u8 (bareV y).b1, .int .u8 (bareV y).b2, .int .u8 (bareV y).i0, .int .u8 (bareV y).i1, .int .u8 (bareV y).i2]) none rfl (.tmp 3) (.tmp 44) rfl rfl rfl hydccs rfl agg_mask rfl ?_
      intro udccss hydccss hgdccss hzdccss
      refine hK.out _ _ trivial (fun _ => ?_)
      have hxdccss := hxdccs.grown hgdccss (by omega)
      have hrdccss := hrdccs.grown hgdccss (by omega)
      have hBdccss := hBdccs.grown hgdccss (by have := hrdccs.lt; omega) (fun k e => by simp at e; omega)
      clear hK K
      try simp only [Act.put, List.setIfInBounds_toArray, List.set_cons_zero, List.set_cons_succ]
      refine wpAnyH_done (by kernel_rfl) ?_ _
      go_wp2_with fail
      go_meet
      case rel => exact ⟨hxdccss, hydccss, hrdccss, hBdccss⟩
  case rest =>
    obtain ⟨hx, hy, hr, hB⟩ := hcut
    have hx : Vb 28 wc w.heap.size [.int .i64 x.v, .int .i64 x.m, .int .u8 x.b0, .int .u8 x.b1, .int .u8 x.b2, .int .u8 (bits .and .u8 x.i0 x.b0), .int .u8 (bits .and .u8 x.i1 x.b1), .int .u8 (bits .and .u8 x.i2 x.b2)] := hx
    have hy : Vb 28 wc (w.heap.size + 1) [.int .i64 y.v, .int .i64 y.m, .int .u8 y.b0, .int .u8 y.b1, .int .u8 y.b2, .int .u8 (bits .and .u8 y.i0 y.b0), .int .u8 (bits .and .u8 y.i1 y.b1), .int .u8 (bits .and .u8 y.i2 y.b2)] := hy
    go_upto_region 8 with (refine wpList_store_new (vs := [.int .i64 (eithN x.v y.v 0), .int .i64 (eithN x.m y.m (-1)), .int .u8 0, .int .u8 0, .int .u8 0, .int .u8 0, .int .u8 0, .int .u8 0]) rfl (.tmp 10) (.tmp 47) rfl rfl rfl rfl rfl rfl agg_mask rfl ?_; intro w0 hm0 hb0 hz0)
    have hlt : w.heap.size + 2 < wc.heap.size := hr.lt
    replace hx := hx.below hb0 (by omega)
    replace hy := hy.below hb0 (by omega)
    replace hr := hr.below hb0 (by omega)
    replace hB := hB.trans (hb0.mono (by omega))
    clear hb0 hz0
    generalize wc.heap.size = g at *
    have hf := hm0.free
    obtain ⟨d0, d1, d2, d3, d4, d5, d6, d7⟩ := hx.c8
    obtain ⟨e0, e1, e2, e3, e4, e5, e6, e7⟩ := hy.c8
    refine wp_loop_rounds (3 + 1) ?_
    rw [rounds_succ]
    go_upto_region 10 with fail
    go_still_tail 12, (by kernel_rfl)
    have gx : Vb 28 w0.drew w.heap.size [.int .i64 x.v, .int .i64 x.m, .int .u8 x.b0, .int .u8 x.b1, .int .u8 x.b2, .int .u8 (bits .and .u8 x.i0 x.b0), .int .u8 (bits .and .u8 x.i1 x.b1), .int .u8 (bits .and .u8 x.i2 x.b2)] := hx
    have gy : Vb 28 w0.drew (w.heap.size + 1) [.int .i64 y.v, .int .i64 y.m, .int .u8 y.b0, .int .u8 y.b1, .int .u8 y.b2, .int .u8 (bits .and .u8 y.i0 y.b0), .int .u8 (bits .and .u8 y.i1 y.b1), .int .u8 (bits .and .u8 y.i2 y.b2)] := hy
    have gr : Vb 28 w0.drew (w.heap.size + 2) [.int .i64 0, .int .i64 0, .int .u8 0, .int .u8 0, .int .u8 0, .int .u8 0, .int .u8 0, .int .u8 0] := hr
    have gm : Vb 28 w0.drew g [.int .i64 (eithN x.v y.v 0), .int .i64 (eithN x.m y.m (-1)), .int .u8 0, .int .u8 0, .int .u8 0, .int .u8 0, .int .u8 0, .int .u8 0] := hm0
    have gB : Below w.heap.size w w0.drew := hB.drew
    clear hx hy hr hm0 hB hf d0 d1 d2 d3 d4 d5 d6 d7 e0 e1 e2 e3 e4 e5 e6 e7
    change wpList _ _ _ _ _ w0.drew
    generalize w0.drew = a0 at *
    have hf := gm.free
    obtain ⟨m0, m1, m2, m3, m4, m5, m6, m7⟩ := gm.c8
    have hx := gx.other (r := g) (by omega) 2 (.int .u8 (bits .or .u8 x.b0 y.b0))
    have hy := gy.other (r := g) (by omega) 2 (.int .u8 (bits .or .u8 x.b0 y.b0))
    have hr := gr.other (r := g) (by omega) 2 (.int .u8 (bits .or .u8 x.b0 y.b0))
    have hn0 : Vb 28 (a0.setCell ⟨g, 2, none⟩ (.int .u8 (bits .or .u8 x.b0 y.b0))) g [.int .i64 (eithN x.v y.v 0), .int .i64 (eithN x.m y.m (-1)), .int .u8 (bits .or .u8 x.b0 y.b0), .int .u8 0, .int .u8 0, .int .u8 0, .int .u8 0, .int .u8 0] := gm.set 2 _
    have hB := gB.setCell (p := ⟨g, 2, none⟩) (by simp; omega) (.int .u8 (bits .or .u8 x.b0 y.b0))
    clear gx gy gr gm gB
    go_upto_region 11 with fail
    clear hf m0 m1 m2 m3 m4 m5 m6 m7
    generalize a0.setCell ⟨g, 2, none⟩ (.int .u8 (bits .or .u8 x.b0 y.b0)) = b0 at *
    have hf := hn0.free
    obtain ⟨d0, d1, d2, d3, d4, d5, d6, d7⟩ := hx.c8
    obtain ⟨e0, e1, e2, e3, e4, e5, e6, e7⟩ := hy.c8
    go_still_tail 12, (by kernel_rfl)
    have gx : Vb 28 b0.drew w.heap.size [.int .i64 x.v, .int .i64 x.m, .int .u8 x.b0, .int .u8 x.b1, .int .u8 x.b2, .int .u8 (bits .and .u8 x.i0 x.b0), .int .u8 (bits .and .u8 x.i1 x.b1), .int .u8 (bits .and .u8 x.i2 x.b2)] := hx
    have gy : Vb 28 b0.drew (w.heap.size + 1) [.int .i64 y.v, .int .i64 y.m, .int .u8 y.b0, .int .u8 y.b1, .int .u8 y.b2, .int .u8 (bits .and .u8 y.i0 y.b0), .int .u8 (bits .and .u8 y.i1 y.b1), .int .u8 (bits .and .u8 y.i2 y.b2)] := hy
    have gr : Vb 28 b0.drew (w.heap.size + 2) [.int .i64 0, .int .i64 0, .int .u8 0, .int .u8 0, .int .u8 0, .int .u8 0, .int .u8 0, .int .u8 0] := hr
    have gm : Vb 28 b0.drew g [.int .i64 (eithN x.v y.v 0), .int .i64 (eithN x.m y.m (-1)), .int .u8 (bits .or .u8 x.b0 y.b0), .int .u8 0, .int .u8 0, .int .u8 0, .int .u8 0, .int .u8 0] := hn0
    have gB : Below w.heap.size w b0.drew := hB.drew
    clear hx hy hr hn0 hB hf d0 d1 d2 d3 d4 d5 d6 d7 e0 e1 e2 e3 e4 e5 e6 e7
    change wpList _ _ _ _ _ b0.drew
    generalize b0.drew = c0 at *
    have hf := gm.free
    obtain ⟨m0, m1, m2, m3, m4, m5, m6, m7⟩ := gm.c8
    have hx := gx.other (r := g) (by omega) 5 (.int .u8 (bits .or .u8 (bits .and .u8 x.i0 x.b0) (bits .and .u8 y.i0 y.b0)))
    have hy := gy.other (r := g) (by omega) 5 (.int .u8 (bits .or .u8 (bits .and .u8 x.i0 x.b0) (bits .and .u8 y.i0 y.b0)))
    have hr := gr.other (r := g) (by omega) 5 (.int .u8 (bits .or .u8 (bits .and .u8 x.i0 x.b0) (bits .and .u8 y.i0 y.b0)))
    have hm1 : Vb 28 (c0.setCell ⟨g, 5, none⟩ (.int .u8 (bits .or .u8 (bits .and .u8 x.i0 x.b0) (bits .and .u8 y.i0 y.b0)))) g [.int .i64 (eithN x.v y.v 0), .int .i64 (eithN x.m y.m (-1)), .int .u8 (bits .or .u8 x.b0 y.b0), .int .u8 0, .int .u8 0, .int .u8 (bits .or .u8 (bits .and .u8 x.i0 x.b0) (bits .and .u8 y.i0 y.b0)), .int .u8 0, .int .u8 0] := gm.set 5 _
    have hB := gB.setCell (p := ⟨g, 5, none⟩) (by simp; omega) (.int .u8 (bits .or .u8 (bits .and .u8 x.i0 x.b0) (bits .and .u8 y.i0 y.b0)))
    clear gx gy gr gm gB
    go_wp2_with fail
    clear hf m0 m1 m2 m3 m4 m5 m6 m7
    generalize c0.setCell ⟨g, 5, none⟩ (.int .u8 (bits .or .u8 (bits .and .u8 x.i0 x.b0) (bits .and .u8 y.i0 y.b0))) = w1 at *
    have hf := hm1.free
    obtain ⟨d0, d1, d2, d3, d4, d5, d6, d7⟩ := hx.c8
    obtain ⟨e0, e1, e2, e3, e4, e5, e6, e7⟩ := hy.c8
    rw [rounds_succ]
    go_upto_region 10 with fail
    go_still_tail 12, (by kernel_rfl)
    have gx : Vb 28 w1.drew w.heap.size [.int .i64 x.v, .int .i64 x.m, .int .u8 x.b0, .int .u8 x.b1, .int .u8 x.b2, .int .u8 (bits .and .u8 x.i0 x.b0), .int .u8 (bits .and .u8 x.i1 x.b1), .int .u8 (bits .and .u8 x.i2 x.b2)] := hx
    have gy : Vb 28 w1.drew (w.heap.size + 1) [.int .i64 y.v, .int .i64 y.m, .int .u8 y.b0, .int .u8 y.b1, .int .u8 y.b2, .int .u8 (bits .and .u8 y.i0 y.b0), .int .u8 (bits .and .u8 y.i1 y.b1), .int .u8 (bits .and .u8 y.i2 y.b2)] := hy
    have gr : Vb 28 w1.drew (w.heap.size + 2) [.int .i64 0, .int .i64 0, .int .u8 0, .int .u8 0, .int .u8 0, .int .u8 0, .int .u8 0, .int .u8 0] := hr
    have gm : Vb 28 w1.drew g [.int .i64 (eithN x.v y.v 0), .int .i64 (eithN x.m y.m (-1)), .int .u8 (bits .or .u8 x.b0 y.b0), .int .u8 0, .int .u8 0, .int .u8 (bits .or .u8 (bits .and .u8 x.i0 x.b0) (bits .and .u8 y.i0 y.b0)), .int .u8 0, .int .u8 0] := hm1
    have gB : Below w.heap.size w w1.drew := hB.drew
    clear hx hy hr hm1 hB hf d0 d1 d2 d3 d4 d5 d6 d7 e0 e1 e2 e3 e4 e5 e6 e7
    change wpList _ _ _ _ _ w1.drew
    generalize w1.drew = a1 at *
    have hf := gm.free
    obtain ⟨m0, m1, m2, m3, m4, m5, m6, m7⟩ := gm.c8
    have hx := gx.other (r := g) (by omega) 3 (.int .u8 (bits .or .u8 x.b1 y.b1))
    have hy := gy.other (r := g) (by omega) 3 (.int .u8 (bits .or .u8 x.b1 y.b1))
    have hr := gr.other (r := g) (by omega) 3 (.int .u8 (bits .or .u8 x.b1 y.b1))
    have hn1 : Vb 28 (a1.setCell ⟨g, 3, none⟩ (.int .u8 (bits .or .u8 x.b1 y.b1))) g [.int .i64 (eithN x.v y.v 0), .int .i64 (eithN x.m y.m (-1)), .int .u8 (bits .or .u8 x.b0 y.b0), .int .u8 (bits .or .u8 x.b1 y.b1), .int .u8 0, .int .u8 (bits .or .u8 (bits .and .u8 x.i0 x.b0) (bits .and .u8 y.i0 y.b0)), .int .u8 0, .int .u8 0] := gm.set 3 _
    have hB := gB.setCell (p := ⟨g, 3, none⟩) (by simp; omega) (.int .u8 (bits .or .u8 x.b1 y.b1))
    clear gx gy gr gm gB
    go_upto_region 11 with fail
    clear hf m0 m1 m2 m3 m4 m5 m6 m7
    generalize a1.setCell ⟨g, 3, none⟩ (.int .u8 (bits .or .u8 x.b1 y.b1)) = b1 at *
    have hf := hn1.free
    obtain ⟨d0, d1, d2, d3, d4, d5, d6, d7⟩ := hx.c8
    obtain ⟨e0, e1, e2, e3, e4, e5, e6, e7⟩ := hy.c8
    go_still_tail 12, (by kernel_rfl)
    have gx : Vb 28 b1.drew w.heap.size [.int .i64 x.v, .int .i64 x.m, .int .u8 x.b0, .int .u8 x.b1, .int .u8 x.b2, .int .u8 (bits .and .u8 x.i0 x.b0), .int .u8 (bits .and .u8 x.i1 x.b1), .int .u8 (bits .and .u8 x.i2 x.b2)] := hx
    have gy : Vb 28 b1.drew (w.heap.size + 1) [.int .i64 y.v, .int .i64 y.m, .int .u8 y.b0, .int .u8 y.b1, .int .u8 y.b2, .int .u8 (bits .and .u8 y.i0 y.b0), .int .u8 (bits .and .u8 y.i1 y.b1), .int .u8 (bits .and .u8 y.i2 y.b2)] := hy
    have gr : Vb 28 b1.drew (w.heap.size + 2) [.int .i64 0, .int .i64 0, .int .u8 0, .int .u8 0, .int .u8 0, .int .u8 0, .int .u8 0, .int .u8 0] := hr
    have gm : Vb 28 b1.drew g [.int .i64 (eithN x.v y.v 0), .int .i64 (eithN x.m y.m (-1)), .int .u8 (bits .or .u8 x.b0 y.b0), .int .u8 (bits .or .u8 x.b1 y.b1), .int .u8 0, .int .u8 (bits .or .u8 (bits .and .u8 x.i0 x.b0) (bits .and .u8 y.i0 y.b0)), .int .u8 0, .int .u8 0] := hn1
    have gB : Below w.heap.size w b1.drew := hB.drew
    clear hx hy hr hn1 hB hf d0 d1 d2 d3 d4 d5 d6 d7 e0 e1 e2 e3 e4 e5 e6 e7
    change wpList _ _ _ _ _ b1.drew
    generalize b1.drew = c1 at *
    have hf := gm.free
    obtain ⟨m0, m1, m2, m3, m4, m5, m6, m7⟩ := gm.c8
    have hx := gx.other (r := g) (by omega) 6 (.int .u8 (bits .or .u8 (bits .and .u8 x.i1 x.b1) (bits .and .u8 y.i1 y.b1)))
    have hy := gy.other (r := g) (by omega) 6 (.int .u8 (bits .or .u8 (bits .and .u8 x.i1 x.b1) (bits .and .u8 y.i1 y.b1)))
    have hr := gr.other (r := g) (by omega) 6 (.int .u8 (bits .or .u8 (bits .and .u8 x.i1 x.b1) (bits .and .u8 y.i1 y.b1)))
    have hm2 : Vb 28 (c1.setCell ⟨g, 6, none⟩ (.int .u8 (bits .or .u8 (bits .and .u8 x.i1 x.b1) (bits .and .u8 y.i1 y.b1)))) g [.int .i64 (eithN x.v y.v 0), .int .i64 (eithN x.m y.m (-1)), .int .u8 (bits .or .u8 x.b0 y.b0), .int .u8 (bits .or .u8 x.b1 y.b1), .int .u8 0, .int .u8 (bits .or .u8 (bits .and .u8 x.i0 x.b0) (bits .and .u8 y.i0 y.b0)), .int .u8 (bits .or .u8 (bits .and .u8 x.i1 x.b1) (bits .and .u8 y.i1 y.b1)), .int .u8 0] := gm.set 6 _
    have hB := gB.setCell (p := ⟨g, 6, none⟩) (by simp; omega) (.int .u8 (bits .or .u8 (bits .and .u8 x.i1 x.b1) (bits .and .u8 y.i1 y.b1)))
    clear gx gy gr gm gB
    go_wp2_with fail
    clear hf m0 m1 m2 m3 m4 m5 m6 m7
    generalize c1.setCell ⟨g, 6, none⟩ (.int .u8 (bits .or .u8 (bits .and .u8 x.i1 x.b1) (bits .and .u8 y.i1 y.b1))) = w2 at *
    have hf := hm2.free
    obtain ⟨d0, d1, d2, d3, d4, d5, d6, d7⟩ := hx.c8
    obtain ⟨e0, e1, e2, e3, e4, e5, e6, e7⟩ := hy.c8
    rw [rounds_succ]
    go_upto_region 10 with fail
    go_still_tail 12, (by kernel_rfl)
    have gx : Vb 28 w2.drew w.heap.size [.int .i64 x.v, .int .i64 x.m, .int .u8 x.b0, .int .u8 x.b1, .int .u8 x.b2, .int .u8 (bits .and .u8 x.i0 x.b0), .int .u8 (bits .and .u8 x.i1 x.b1), .int .u8 (bits .and .u8 x.i2 x.b2)] := hx
    have gy : Vb 28 w2.drew (w.heap.size + 1) [.int .i64 y.v, .int .i64 y.m, .int .u8 y.b0, .int .u8 y.b1, .int .u8 y.b2, .int .u8 (bits .and .u8 y.i0 y.b0), .int .u8 (bits .and .u8 y.i1 y.b1), .int .u8 (bits .and .u8 y.i2 y.b2)] := hy
    have gr : Vb 28 w2.drew (w.heap.size + 2) [.int .i64 0, .int .i64 0, .int .u8 0, .int .u8 0, .int .u8 0, .int .u8 0, .int .u8 0, .int .u8 0] := hr
    have gm : Vb 28 w2.drew g [.int .i64 (eithN x.v y.v 0), .int .i64 (eithN x.m y.m (-1)), .int .u8 (bits .or .u8 x.b0 y.b0), .int .u8 (bits .or .u8 x.b1 y.b1), .int .u8 0, .int .u8 (bits .or .u8 (bits .and .u8 x.i0 x.b0) (bits .and .u8 y.i0 y.b0)), .int .u8 (bits .or .u8 (bits .and .u8 x.i1 x.b1) (bits .and .u8 y.i1 y.b1)), .int .u8 0] := hm2
    have gB : Below w.heap.size w w2.drew := hB.drew
    clear hx hy hr hm2 hB hf d0 d1 d2 d3 d4 d5 d6 d7 e0 e1 e2 e3 e4 e5 e6 e7
    change wpList _ _ _ _ _ w2.drew
    generalize w2.drew = a2 at *
    have hf := gm.free
    obtain ⟨m0, m1, m2, m3, m4, m5, m6, m7⟩ := gm.c8
    have hx := gx.other (r := g) (by omega) 4 (.int .u8 (bits .or .u8 x.b2 y.b2))
    have hy := gy.other (r := g) (by omega) 4 (.int .u8 (bits .or .u8 x.b2 y.b2))
    have hr := gr.other (r := g) (by omega) 4 (.int .u8 (bits .or .u8 x.b2 y.b2))
    have hn2 : Vb 28 (a2.setCell ⟨g, 4, none⟩ (.int .u8 (bits .or .u8 x.b2 y.b2))) g [.int .i64 (eithN x.v y.v 0), .int .i64 (eithN x.m y.m (-1)), .int .u8 (bits .or .u8 x.b0 y.b0), .int .u8 (bits .or .u8 x.b1 y.b1), .int .u8 (bits .or .u8 x.b2 y.b2), .int .u8 (bits .or .u8 (bits .and .u8 x.i0 x.b0) (bits .and .u8 y.i0 y.b0)), .int .u8 (bits .or .u8 (bits .and .u8 x.i1 x.b1) (bits .and .u8 y.i1 y.b1)), .int .u8 0] := gm.set 4 _
    have hB := gB.setCell (p := ⟨g, 4, none⟩) (by simp; omega) (.int .u8 (bits .or .u8 x.b2 y.b2))
    clear gx gy gr gm gB
    go_upto_region 11 with fail
    clear hf m0 m1 m2 m3 m4 m5 m6 m7
    generalize a2.setCell ⟨g, 4, none⟩ (.int .u8 (bits .or .u8 x.b2 y.b2)) = b2 at *
    have hf := hn2.free
    obtain ⟨d0, d1, d2, d3, d4, d5, d6, d7⟩ := hx.c8
    obtain ⟨e0, e1, e2, e3, e4, e5, e6, e7⟩ := hy.c8
    go_still_tail 12, (by kernel_rfl)
    have gx : Vb 28 b2.drew w.heap.size [.int .i64 x.v, .int .i64 x.m, .int .u8 x.b0, .int .u8 x.b1, .int .u8 x.b2, .int .u8 (bits .and .u8 x.i0 x.b0), .int .u8 (bits .and .u8 x.i1 x.b1), .int .u8 (bits .and .u8 x.i2 x.b2)] := hx
    have gy : Vb 28 b2.drew (w.heap.size + 1) [.int .i64 y.v, .int .i64 y.m, .int .u8 y.b0, .int .u8 y.b1, .int .u8 y.b2, .int .u8 (bits .and .u8 y.i0 y.b0), .int .u8 (bits .and .u8 y.i1 y.b1), .int .u8 (bits .and .u8 y.i2 y.b2)] := hy
    have gr : Vb 28 b2.drew (w.heap.size + 2) [.int .i64 0, .int .i64 0, .int .u8 0, .int .u8 0, .int .u8 0, .int .u8 0, .int .u8 0, .int .u8 0] := hr
    have gm : Vb 28 b2.drew g [.int .i64 (eithN x.v y.v 0), .int .i64 (eithN x.m y.m (-1)), .int .u8 (bits .or .u8 x.b0 y.b0), .int .u8 (bits .or .u8 x.b1 y.b1), .int .u8 (bits .or .u8 x.b2 y.b2), .int .u8 (bits .or .u8 (bits .and .u8 x.i0 x.b0) (bits .and .u8 y.i0 y.b0)), .int .u8 (bits .or .u8 (bits .and .u8 x.i1 x.b1) (bits .and .u8 y.i1 y.b1)), .int .u8 0] := hn2
    have gB : Below w.heap.size w b2.drew := hB.drew
    clear hx hy hr hn2 hB hf d0 d1 d2 d3 d4 d5 d6 d7 e0 e1 e2 e3 e4 e5 e6 e7
    change wpList _ _ _ _ _ b2.drew
    generalize b2.drew = c2 at *
    have hf := gm.free
    obtain ⟨m0, m1, m2, m3, m4, m5, m6, m7⟩ := gm.c8
    have hx := gx.other (r := g) (by omega) 7 (.int .u8 (bits .or .u8 (bits .and .u8 x.i2 x.b2) (bits .and .u8 y.i2 y.b2)))
    have hy := gy.other (r := g) (by omega) 7 (.int .u8 (bits .or .u8 (bits .and .u8 x.i2 x.b2) (bits .and .u8 y.i2 y.b2)))
    have hr := gr.other (r := g) (by omega) 7 (.int .u8 (bits .or .u8 (bits .and .u8 x.i2 x.b2) (bits .and .u8 y.i2 y.b2)))
    have hm3 : Vb 28 (c2.setCell ⟨g, 7, none⟩ (.int .u8 (bits .or .u8 (bits .and .u8 x.i2 x.b2) (bits .and .u8 y.i2 y.b2)))) g [.int .i64 (eithN x.v y.v 0), .int .i64 (eithN x.m y.m (-1)), .int .u8 (bits .or .u8 x.b0 y.b0), .int .u8 (bits .or .u8 x.b1 y.b1), .int .u8 (bits .or .u8 x.b2 y.b2), .int .u8 (bits .or .u8 (bits .and .u8 x.i0 x.b0) (bits .and .u8 y.i0 y.b0)), .int .u8 (bits .or .u8 (bits .and .u8 x.i1 x.b1) (bits .and .u8 y.i1 y.b1)), .int .u8 (bits .or .u8 (bits .and .u8 x.i2 x.b2) (bits .and .u8 y.i2 y.b2))] := gm.set 7 _
    have hB := gB.setCell (p := ⟨g, 7, none⟩) (by simp; omega) (.int .u8 (bits .or .u8 (bits .and .u8 x.i2 x.b2) (bits .and .u8 y.i2 y.b2)))
    clear gx gy gr gm gB
    go_wp2_with fail
    clear hf m0 m1 m2 m3 m4 m5 m6 m7
    generalize c2.setCell ⟨g, 7, none⟩ (.int .u8 (bits .or .u8 (bits .and .u8 x.i2 x.b2) (bits .and .u8 y.i2 y.b2))) = w3 at *
    have hf := hm3.free
    obtain ⟨d0, d1, d2, d3, d4, d5, d6, d7⟩ := hx.c8
    obtain ⟨e0, e1, e2, e3, e4, e5, e6, e7⟩ := hy.c8
    rw [rounds_succ]
    clear hf d0 d1 d2 d3 d4 d5 d6 d7 e0 e1 e2 e3 e4 e5 e6 e7
    go_wp2_with (first | refine wpList_load_vb (vs := [.int .i64 (eithN x.v y.v 0), .int .i64 (eithN x.m y.m (-1)), .int .u8 (bits .or .u8 x.b0 y.b0), .int .u8 (bits .or .u8 x.b1 y.b1), .int .u8 (bits .or .u8 x.b2 y.b2), .int .u8 (bits .or .u8 (bits .and .u8 x.i0 x.b0) (bits .and .u8 y.i0 y.b0)), .int .u8 (bits .or .u8 (bits .and .u8 x.i1 x.b1) (bits .and .u8 y.i1 y.b1)), .int .u8 (bits .or .u8 (bits .and .u8 x.i2 x.b2) (bits .and .u8 y.i2 y.b2))]) rfl (.tmp 10) rfl rfl hm3 rfl agg_mask ?_ | (refine wpList_store_vb (vs := [.int .i64 (eithN x.v y.v 0), .int .i64 (eithN x.m y.m (-1)), .int .u8 (bits .or .u8 x.b0 y.b0), .int .u8 (bits .or .u8 x.b1 y.b1), .int .u8 (bits .or .u8 x.b2 y.b2), .int .u8 (bits .or .u8 (bits .and .u8 x.i0 x.b0) (bits .and .u8 y.i0 y.b0)), .int .u8 (bits .or .u8 (bits .and .u8 x.i1 x.b1) (bits .and .u8 y.i1 y.b1)), .int .u8 (bits .or .u8 (bits .and .u8 x.i2 x.b2) (bits .and .u8 y.i2 y.b2))]) rfl (.tmp 4) (.tmp 76) rfl rfl rfl hr rfl agg_mask rfl ?_; intro w9 hv9 hg9 hz9))
    refine bodyPost_ret (results_pair Try.results87 _ rfl hv9 agg_mask) rfl ?_
    exact Hyes.out (HB.out.trans rfl) w9 (hB.grown hg9 (by have := hr.lt; omega) (fun k e => by simp at e; omega))

end Go.Proofs.Ytcolklkjaifplaa.Oct
