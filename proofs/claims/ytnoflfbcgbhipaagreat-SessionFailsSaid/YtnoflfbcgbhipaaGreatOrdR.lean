import Derived.Test.YtnoflfbcgbhipaaGreatOrdO
import Derived.Test.YtnoflfbcgbhipaaGreatOrdJ
import Derived.Test.YtnoflfbcgbhipaaGreatOrdF
set_option linter.unusedSimpArgs false
set_option linter.unusedVariables false
set_option maxRecDepth 100000
set_option maxHeartbeats 3200000
namespace Go.Proofs.YtnoflfbcgbhipaaGreat.Oct
open Go.RowKit
def Turn2 (g h : Nat) (w w' : World) : Prop := w'.os = w.os ∧ w'.tape = w.tape ∧ w'.output = w.output ∧ w.heap.size ≤ w'.heap.size ∧ ∀ k, k < w.heap.size → k ≠ g → k ≠ h → w'.heap[k]? = w.heap[k]?
section
variable {g h : Nat} {w w1 w2 : World}
theorem Turn2.refl (g h : Nat) (w : World) : Turn2 g h w w := ⟨rfl, rfl, rfl, Nat.le_refl _, fun _ _ _ _ => rfl⟩
theorem Turn2.one (hg : w.grownBy w1 (some g)) : Turn2 g h w w1 := ⟨hg.os, hg.tape, hg.output, hg.size, fun k hk hne _ => hg.block k hk (by simp; omega)⟩
theorem Turn2.two (hg : w.grownBy w1 (some h)) : Turn2 g h w w1 := ⟨hg.os, hg.tape, hg.output, hg.size, fun k hk _ hne => hg.block k hk (by simp; omega)⟩
theorem Turn2.trans (a : Turn2 g h w w1) (b : Turn2 g h w1 w2) : Turn2 g h w w2 := ⟨b.1.trans a.1, b.2.1.trans a.2.1, b.2.2.1.trans a.2.2.1, Nat.le_trans a.2.2.2.1 b.2.2.2.1, fun k hk h1 h2 => (b.2.2.2.2 k (Nat.lt_of_lt_of_le hk a.2.2.2.1) h1 h2).trans (a.2.2.2.2 k hk h1 h2)⟩
theorem Turn2.new (a : Turn2 g h w w1) (hb : Below w1.heap.size w1 w2) : Turn2 g h w w2 := a.trans ⟨hb.os, hb.tape, hb.output, hb.size, fun k hk _ _ => hb.block k hk⟩
theorem Turn2.below {B : Nat} (a : Turn2 g h w w1) (hg : B ≤ g) (hh : B ≤ h) (hw : B ≤ w.heap.size) : Below B w w1 := ⟨a.1, a.2.1, a.2.2.1, a.2.2.2.1, fun k hk => a.2.2.2.2 k (by omega) (by omega) (by omega)⟩
theorem Turn2.cell {b o : Nat} {v : Value} (a : Turn2 g h w w1) (hc : w.cell? ⟨b, o, none⟩ = some v) (h1 : b ≠ g) (h2 : b ≠ h) : w1.cell? ⟨b, o, none⟩ = some v := by
 have hlt := World.block_lt_of_cell? w _ hc
 rw [World.cell?_of_block (w := w) (a := ⟨b, o, none⟩) (a.2.2.2.2 b hlt h1 h2)]
 exact hc
theorem Turn2.vb {T : TypeId} {b : Nat} {cs : List Value} (a : Turn2 g h w w1) (hv : Vb T w b cs) (h1 : b ≠ g) (h2 : b ≠ h) : Vb T w1 b cs := (a.2.2.2.2 b hv.lt h1 h2).trans hv
end
section
variable {T ty : TypeId} {w : World} {g off : Nat} {cs vs : List Value} {o : Oper} {a : Act} {K : Act → World → Prop} {Q : Exit → Act → World → Prop}
theorem op_store_at (x y : Operand) (ho : o.op = .store ty x y) (hx : a.eval x = .pointer (some ⟨g, off, none⟩)) (hy : a.eval y = .agg vs.toArray) (hv : Vb T w g cs) (hl : off + vs.length ≤ cs.length) (ht : Agg ty vs.length)
  (h1 : vs.all (·.oneCell') = true)
  (h : ∀ w', Vb T w' g (setAll cs off vs) → w.grownBy w' (some g) → w'.heap.size = w.heap.size → K (a.put o.dst undef) w') : o.wp Tryz.prog a w K Q := by
 have hst := run_storeCells_vb T g vs 0 off cs w hv (by omega) h1
 have hi : (Tryz.prog.info? ty).map (·.size) = some vs.length := ht.2
 have hrun : (storeVar ty ⟨g, off, none⟩ (.agg vs.toArray)).run Tryz.prog w = .ok () (putC w g off vs) := by
  cases hq : Tryz.prog.info? ty with
  | none => simp [hq] at hi
  | some i =>
   have hs : vs.length = i.size := by simp [hq] at hi; omega
   simp [storeVar, sizeOf, typeInfo, hq, Value.cells, hs, hst]
 unfold Oper.wp execOp
 simp only [ho, hx, hy, Instr.storeAt, Instr.sureAddr, Sem.run_bind, Sem.run_pure, Result.andThen_ok, hrun]
 exact h _ (hv.putC vs off) (putC_grown g vs w off) (putC_size g vs w off)
end
theorem text_eq {w : World} {lo g : Nat} {l l' t : List Int} {e e' : Int} (h : Rdr 274 w lo g l e) (hq : tx (l, e) = (t, (l', e'))) :
  Calls Tryz.prog 241 #[.pointer (some ⟨g, 0, none⟩)] w (SliceRdr 274 w lo g t l' e') := by
 have := textM_any h
 change textR l e = (t, (l', e')) at hq
 rw [hq] at this
 exact this
theorem rp_none {w : World} {T : TypeId} {lo g ho : Nat} {l l' : List Int} {e e' : Int} {cs : List Value} (A : Option Addr) (hR : Rdr 274 w lo g l e) (hx : Vb T w ho cs) (hgo : g < ho) (he : l = l' ∧ e = e') : Calls Tryz.prog 208 #[.agg #[.slice A 0 0, .pointer none, .pointer none], .pointer (some ⟨g, 0, none⟩)] w (fun en w' => en = .returned (.tuple #[]) ∧ Turn2 g ho w w' ∧ Rdr 274 w' lo g l' e' ∧ Vb T w' ho cs) := by
 obtain ⟨rfl, rfl⟩ := he
 have hb := below_alloc w (.cells #[.slice A 0 0, .pointer none, .pointer none] 211)
 have hR1 := hR.below hb
 have hx1 := hx.below hb hx.lt
 have hT := (Turn2.refl g ho w).new hb
 go_enter Tryz.func208, Tryz.ntmps208
 go_wp2_with fail
 refine wp_loop_rounds (0 + 1) ?_
 rw [rounds_succ]
 go_wp2_with fail
 go_end0
 exact ⟨rfl, hT, hR1, hx1⟩
theorem rp_rule {w : World} {T : TypeId} {lo g ho : Nat} {l l' : List Int} {e e' : Int} {cs : List Value} (A : Option Addr) (hR : Rdr 274 w lo g l e) (hx : Vb T w ho cs) (hgo : g < ho) {r : RuleV} (hlen : cs.length = 21) (hq : ruleRd (l, e) = (r, (l', e'))) : Calls Tryz.prog 208 #[.agg #[.slice A 0 0, .pointer (some ⟨ho, 3, none⟩), .pointer none], .pointer (some ⟨g, 0, none⟩)] w (fun en w' => en = .returned (.tuple #[]) ∧ Turn2 g ho w w' ∧ Rdr 274 w' lo g l' e' ∧ ∃ S n c, Vb T w' ho (setAll cs 3 (rcl r (.slice S n c))) ∧ Ron w' w.heap.size S n c r.os) := by
 have HQ := Kp.mk hq
 clear hq
 have hlt := hR.lt
 have hxl := hx.lt
 have hb := below_alloc w (.cells #[.slice A 0 0, .pointer (some ⟨ho, 3, none⟩), .pointer none] 211)
 have hR1 := hR.below hb
 have hx1 := hx.below hb hx.lt
 have hT1 := (Turn2.refl g ho w).new hb
 have hv1 := Vb.new 211 w [.slice A 0 0, .pointer (some ⟨ho, 3, none⟩), .pointer none]
 have hz1 : w.heap.size < (w.alloc (.cells #[.slice A 0 0, .pointer (some ⟨ho, 3, none⟩), .pointer none] 211)).heap.size := by simp
 go_enter Tryz.func208, Tryz.ntmps208
 go_wp2_with fail
 refine wp_loop_rounds (0 + 1) ?_
 rw [rounds_succ]
 go_upto_region 7 with fail
 generalize w.alloc (.cells #[.slice A 0 0, .pointer (some ⟨ho, 3, none⟩), .pointer none] 211) = wa at *
 have hS : (fun w' => w'.cell? ⟨w.heap.size, 1, none⟩ = some (.pointer (some ⟨ho, 3, none⟩))) wa.drew := hv1.cell 1 rfl
 refine wp_region_held_drew (S := (fun w' => w'.cell? ⟨w.heap.size, 1, none⟩ = some (.pointer (some ⟨ho, 3, none⟩)))) (by kernel_rfl) hS (fun _ => ?_)
 refine tD 0 (.pointer (some ⟨w.heap.size, 1, none⟩)) 24 rfl rfl hS (fun _ _ => by go_simp) ?_
 try simp only [Act.put, zA, zB, zC]
 refine tD 1 (.pointer (some ⟨ho, 3, none⟩)) 25 rfl rfl hS ?_ ?_
 ·rintro w' hbb
  try simp only at hbb
  go_simp
 try simp only [Act.put, zA, zB, zC]
 refine tD 2 (.pointer (some ⟨g, 0, none⟩)) 26 rfl rfl hS (fun _ _ => by go_simp) ?_
 try simp only [Act.put, zA, zB, zC]
 have hRd : Rdr 274 wa.drew lo g l e := hR1
 have hxd : Vb T wa.drew ho cs := hx1
 have hvd : Vb 211 wa.drew w.heap.size [.slice A 0 0, .pointer (some ⟨ho, 3, none⟩), .pointer none] := hv1
 have hTd : Turn2 g ho w wa.drew := hT1
 have hzd : w.heap.size < wa.drew.heap.size := hz1
 clear hR1 hx1 hv1 hT1
 generalize wa.drew = wd at *
 refine rD 3 rfl fun K hK => ?_
 go_simp
 go_at_call 239
 refine (readRule_any hRd HQ.out).mono ?_
 rintro en w2 ⟨S, n, c, rfl, hr2, hR2, hg2⟩
 have hv2 := hvd.grown hg2 (by omega)
 have hx2 := hxd.grown hg2 (by omega)
 have hT2 := hTd.trans (Turn2.one hg2)
 have hz2 := hg2.size
 refine hK.out _ _ (hv2.cell 1 rfl) (fun hS3 => ?_)
 clear hK K
 try simp only [Act.put, zA, zB, zC]
 refine tD 4 (.pointer (some ⟨ho, 3, none⟩)) 28 rfl rfl hS3 (fun _ _ => by go_simp) ?_
 try simp only [Act.put, zA, zB, zC]
 refine rD 5 rfl fun K hK => ?_
 refine op_store_at (vs := rcl r (.slice S n c)) (.tmp 28) (.tmp 27) rfl rfl rfl hx2 (by simp [rcl]; omega) agg_rule rfl ?_
 intro w3 hx3 hg3 hz3
 have hv3 := hv2.grown hg3 (by omega)
 refine hK.out _ _ (hv3.cell 1 rfl) (fun hS4 => ?_)
 clear hK K
 try simp only [Act.put, zA, zB, zC]
 have hT3 := hT2.trans (Turn2.two hg3)
 have hR3 := hR2.keep hg3 (fun k e => by simp at e; omega)
 have hr3 := hr2.grown hg3 (by omega)
 obtain ⟨f0, f1, f2⟩ := hv3.c3
 clear hS hS3 hS4
 refine wpAnyH_done (by kernel_rfl) ?_ _
 go_wp2_with fail
 go_end0
 exact ⟨rfl, hT3, hR3, S, n, c, hx3, hr3.lower (by omega)⟩
theorem rp_link {w : World} {T : TypeId} {lo g ho : Nat} {l l' : List Int} {e e' : Int} {cs : List Value} (A : Option Addr) (hR : Rdr 274 w lo g l e) (hx : Vb T w ho cs) (hgo : g < ho) {t : List Int} (hlen : cs.length = 21) (hq : tx (l, e) = (t, (l', e'))) : Calls Tryz.prog 208 #[.agg #[.slice A 0 0, .pointer none, .pointer (some ⟨ho, 16, none⟩)], .pointer (some ⟨g, 0, none⟩)] w (fun en w' => en = .returned (.tuple #[]) ∧ Turn2 g ho w w' ∧ Rdr 274 w' lo g l' e' ∧ Vb T w' ho (setAll cs 16 [.int .i64 (parseQ t).1.1, .int .i64 (parseQ t).1.2.1, .int .i64 (parseQ t).1.2.2.1, .int .i64 (parseQ t).1.2.2.2.1, .int .i64 (parseQ t).1.2.2.2.2])) := by
 have HQ := Kp.mk hq
 have hby : By t := by have := textR_by l e hR.by_; change textR l e = _ at hq; rw [hq] at this; exact this
 clear hq
 have hlt := hR.lt
 have hxl := hx.lt
 have hb := below_alloc w (.cells #[.slice A 0 0, .pointer none, .pointer (some ⟨ho, 16, none⟩)] 211)
 have hR1 := hR.below hb
 have hx1 := hx.below hb hx.lt
 have hT1 := (Turn2.refl g ho w).new hb
 have hv1 := Vb.new 211 w [.slice A 0 0, .pointer none, .pointer (some ⟨ho, 16, none⟩)]
 have hz1 : w.heap.size < (w.alloc (.cells #[.slice A 0 0, .pointer none, .pointer (some ⟨ho, 16, none⟩)] 211)).heap.size := by simp
 go_enter Tryz.func208, Tryz.ntmps208
 go_wp2_with fail
 refine wp_loop_rounds (0 + 1) ?_
 rw [rounds_succ]
 go_upto_region 9 with fail
 generalize w.alloc (.cells #[.slice A 0 0, .pointer none, .pointer (some ⟨ho, 16, none⟩)] 211) = wa at *
 have hS : (fun w' => w'.cell? ⟨w.heap.size, 2, none⟩ = some (.pointer (some ⟨ho, 16, none⟩))) wa.drew := hv1.cell 2 rfl
 refine wp_region_held_drew (S := (fun w' => w'.cell? ⟨w.heap.size, 2, none⟩ = some (.pointer (some ⟨ho, 16, none⟩)))) (by kernel_rfl) hS (fun _ => ?_)
 refine tD 0 (.pointer (some ⟨w.heap.size, 2, none⟩)) 33 rfl rfl hS (fun _ _ => by go_simp) ?_
 try simp only [Act.put, zA, zB, zC]
 refine tD 1 (.pointer (some ⟨ho, 16, none⟩)) 34 rfl rfl hS ?_ ?_
 ·rintro w' hbb
  try simp only at hbb
  go_simp
 try simp only [Act.put, zA, zB, zC]
 refine tD 2 (.pointer (some ⟨g, 0, none⟩)) 35 rfl rfl hS (fun _ _ => by go_simp) ?_
 try simp only [Act.put, zA, zB, zC]
 have hRd : Rdr 274 wa.drew lo g l e := hR1
 have hxd : Vb T wa.drew ho cs := hx1
 have hvd : Vb 211 wa.drew w.heap.size [.slice A 0 0, .pointer none, .pointer (some ⟨ho, 16, none⟩)] := hv1
 have hTd : Turn2 g ho w wa.drew := hT1
 have hzd : w.heap.size < wa.drew.heap.size := hz1
 clear hR1 hx1 hv1 hT1
 generalize wa.drew = wd at *
 refine rD 3 rfl fun K hK => ?_
 go_simp
 go_at_call 241
 refine (text_eq hRd HQ.out).mono ?_
 rintro en w2 ⟨S, n, c, rfl, ho2, hR2, hg2⟩
 have hv2 := hvd.grown hg2 (by omega)
 have hx2 := hxd.grown hg2 (by omega)
 have hT2 := hTd.trans (Turn2.one hg2)
 have hz2 := hg2.size
 refine hK.out _ _ (hv2.cell 2 rfl) (fun hS3 => ?_)
 clear hK K
 try simp only [Act.put, zA, zB, zC]
 refine rD 4 rfl fun K hK => ?_
 go_simp
 go_at_call 240
 refine (parseQ_any ho2.rd hby (Nat.le_refl _)).mono ?_
 rintro en w3 ⟨rfl, hb3⟩
 have hv3 := hv2.below hb3 (by omega)
 have hx3 := hx2.below hb3 (by omega)
 have hT3 := hT2.new hb3
 have hR3 := hR2.below hb3
 have hz3 := hb3.size
 refine hK.out _ _ (hv3.cell 2 rfl) (fun hS4 => ?_)
 clear hK K
 try simp only [Act.put, zA, zB, zC]
 refine tD 5 (.tuple #[.agg #[.int .i64 (parseQ t).1.1, .int .i64 (parseQ t).1.2.1, .int .i64 (parseQ t).1.2.2.1, .int .i64 (parseQ t).1.2.2.2.1, .int .i64 (parseQ t).1.2.2.2.2], .int .i64 (parseQ t).2]) 32 rfl rfl hS4 (fun _ _ => by go_simp) ?_
 try simp only [Act.put, zA, zB, zC]
 refine tD 6 (.agg #[.int .i64 (parseQ t).1.1, .int .i64 (parseQ t).1.2.1, .int .i64 (parseQ t).1.2.2.1, .int .i64 (parseQ t).1.2.2.2.1, .int .i64 (parseQ t).1.2.2.2.2]) 38 rfl rfl hS4 (fun _ _ => by go_simp) ?_
 try simp only [Act.put, zA, zB, zC]
 refine tD 7 (.int .i64 (parseQ t).2) 39 rfl rfl hS4 (fun _ _ => by go_simp) ?_
 try simp only [Act.put, zA, zB, zC]
 refine tD 8 (.pointer (some ⟨ho, 16, none⟩)) 40 rfl rfl hS4 (fun _ _ => by go_simp) ?_
 try simp only [Act.put, zA, zB, zC]
 refine rD 9 rfl fun K hK => ?_
 refine op_store_at (vs := [.int .i64 (parseQ t).1.1, .int .i64 (parseQ t).1.2.1, .int .i64 (parseQ t).1.2.2.1, .int .i64 (parseQ t).1.2.2.2.1, .int .i64 (parseQ t).1.2.2.2.2]) (.tmp 40) (.tmp 38) rfl rfl rfl hx3 (by simp; omega) agg_probe rfl ?_
 intro w4 hx4 hg4 hz4
 have hv4 := hv3.grown hg4 (by omega)
 refine hK.out _ _ (hv4.cell 2 rfl) (fun hS5 => ?_)
 clear hK K
 try simp only [Act.put, zA, zB, zC]
 have hT4 := hT3.trans (Turn2.two hg4)
 have hR4 := hR3.keep hg4 (fun k e => by simp at e; omega)
 obtain ⟨f0, f1, f2⟩ := hv4.c3
 clear hS hS3 hS4 hS5
 refine wpAnyH_done (by kernel_rfl) ?_ _
 go_wp2_with fail
 go_end0
 exact ⟨rfl, hT4, hR4, hx4⟩
theorem rp_1 {w : World} {T : TypeId} {lo g ho : Nat} {l l' : List Int} {e e' : Int} {cs : List Value} (A : Option Addr) (hR : Rdr 274 w lo g l e) (hx : Vb T w ho cs) (hgo : g < ho) {lo2 m : Nat} {u : NumV} {x : Int} (hN : Rn w lo2 ho A m [u]) (hlo : ho < lo2) (hu : u.at_ < cs.length) (hq0 : nu u.s (l, e) = (x, (l', e'))) : Calls Tryz.prog 208 #[.agg #[.slice A m m, .pointer none, .pointer none], .pointer (some ⟨g, 0, none⟩)] w (fun en w' => en = .returned (.tuple #[]) ∧ Turn2 g ho w w' ∧ Rdr 274 w' lo g l' e' ∧ Vb T w' ho (cs.set u.at_ (.int .i64 x))) := by
 have HQ0 := Kp.mk hq0
 clear hq0
 have hlt := hR.lt
 have hxl := hx.lt
 obtain ⟨hl, _, hc⟩ := hN
 simp at hl
 subst hl
 obtain ⟨b, rfl, hlb, hbw, hc⟩ := hc (by omega)
 obtain ⟨a00, a01, a02, a03⟩ := hc 0 u rfl
 simp only [Nat.zero_mul, Nat.zero_add, Nat.one_mul, Nat.reduceAdd] at a00 a01 a02 a03
 clear hc
 have hvb := Vb.new 211 w [.slice (some ⟨b, 0, none⟩) 1 1, .pointer none, .pointer none]
 have FU : Kp (∀ w', Turn2 g ho (w.alloc (.cells #[.slice (some ⟨b, 0, none⟩) 1 1, .pointer none, .pointer none] 211)) w' → w'.cell? ⟨w.heap.size, 1, none⟩ = some (.pointer none) ∧ w'.cell? ⟨w.heap.size, 2, none⟩ = some (.pointer none) ∧ w'.cell? ⟨b, 0, none⟩ = some (.pointer (some ⟨ho, u.at_, none⟩)) ∧ w'.cell? ⟨b, 1, none⟩ = some (.int .i64 u.s) ∧ w'.cell? ⟨b, 2, none⟩ = some (.int .i64 u.lo) ∧ w'.cell? ⟨b, 3, none⟩ = some (.int .i64 u.hi)) := Kp.mk (fun w' hgr => ⟨(hvb.cell 1 rfl |> fun h => hgr.cell h (by omega) (by omega)), (hvb.cell 2 rfl |> fun h => hgr.cell h (by omega) (by omega)), hgr.cell (cell_below a00 hbw (below_alloc w _)) (by omega) (by omega), hgr.cell (cell_below a01 hbw (below_alloc w _)) (by omega) (by omega), hgr.cell (cell_below a02 hbw (below_alloc w _)) (by omega) (by omega), hgr.cell (cell_below a03 hbw (below_alloc w _)) (by omega) (by omega)⟩)
 clear a00 a01 a02 a03
 have hx1 := hx.alloc (.cells #[.slice (some ⟨b, 0, none⟩) 1 1, .pointer none, .pointer none] 211)
 have hR1 := hR.below (below_alloc w (.cells #[.slice (some ⟨b, 0, none⟩) 1 1, .pointer none, .pointer none] 211))
 have hgr1 : Turn2 g ho (w.alloc (.cells #[.slice (some ⟨b, 0, none⟩) 1 1, .pointer none, .pointer none] 211)) (w.alloc (.cells #[.slice (some ⟨b, 0, none⟩) 1 1, .pointer none, .pointer none] 211)) := Turn2.refl _ _ _
 have hT0 := (Turn2.refl g ho w).new (below_alloc w (.cells #[.slice (some ⟨b, 0, none⟩) 1 1, .pointer none, .pointer none] 211))
 have hz1 : w.heap.size < (w.alloc (.cells #[.slice (some ⟨b, 0, none⟩) 1 1, .pointer none, .pointer none] 211)).heap.size := by simp
 go_enter Tryz.func208, Tryz.ntmps208
 go_wp2_with fail
 refine wp_loop_rounds (1 + 1) ?_
 obtain ⟨f1, f2, b00, b01, b02, b03⟩ := FU.out _ hgr1
 rw [rounds_succ]
 go_upto_region 4 with fail
 clear f1 f2 b00 b01 b02 b03
 have hm1 := Vb.new 245 (w.alloc (.cells #[.slice (some ⟨b, 0, none⟩) 1 1, .pointer none, .pointer none] 211)) [.pointer (some ⟨ho, u.at_, none⟩), .int .i64 u.s, .int .i64 u.lo, .int .i64 u.hi]
 rw [alloc_size] at hm1
 have hxa := hx1.alloc (.cells #[.pointer (some ⟨ho, u.at_, none⟩), .int .i64 u.s, .int .i64 u.lo, .int .i64 u.hi] 245)
 have hga := hgr1.new (below_alloc (w.alloc (.cells #[.slice (some ⟨b, 0, none⟩) 1 1, .pointer none, .pointer none] 211)) (.cells #[.pointer (some ⟨ho, u.at_, none⟩), .int .i64 u.s, .int .i64 u.lo, .int .i64 u.hi] 245))
 have hRa := hR1.below (below_alloc (w.alloc (.cells #[.slice (some ⟨b, 0, none⟩) 1 1, .pointer none, .pointer none] 211)) (.cells #[.pointer (some ⟨ho, u.at_, none⟩), .int .i64 u.s, .int .i64 u.lo, .int .i64 u.hi] 245))
 have hza : w.heap.size < ((w.alloc (.cells #[.slice (some ⟨b, 0, none⟩) 1 1, .pointer none, .pointer none] 211)).alloc (.cells #[.pointer (some ⟨ho, u.at_, none⟩), .int .i64 u.s, .int .i64 u.lo, .int .i64 u.hi] 245)).heap.size := Nat.lt_of_lt_of_le hz1 (below_alloc (w.alloc (.cells #[.slice (some ⟨b, 0, none⟩) 1 1, .pointer none, .pointer none] 211)) (.cells #[.pointer (some ⟨ho, u.at_, none⟩), .int .i64 u.s, .int .i64 u.lo, .int .i64 u.hi] 245)).size
 generalize ((w.alloc (.cells #[.slice (some ⟨b, 0, none⟩) 1 1, .pointer none, .pointer none] 211)).alloc (.cells #[.pointer (some ⟨ho, u.at_, none⟩), .int .i64 u.s, .int .i64 u.lo, .int .i64 u.hi] 245)) = wa1 at *
 have hS : (fun w' => w'.cell? ⟨w.heap.size + 1, 0, none⟩ = some (.pointer (some ⟨ho, u.at_, none⟩)) ∧ w'.cell? ⟨w.heap.size + 1, 1, none⟩ = some (.int .i64 u.s)) wa1.drew := ⟨hm1.cell 0 rfl, hm1.cell 1 rfl⟩
 refine wp_region_held_drew (S := (fun w' => w'.cell? ⟨w.heap.size + 1, 0, none⟩ = some (.pointer (some ⟨ho, u.at_, none⟩)) ∧ w'.cell? ⟨w.heap.size + 1, 1, none⟩ = some (.int .i64 u.s))) (by kernel_rfl) hS (fun _ => ?_)
 refine tD 0 (.pointer (some ⟨w.heap.size + 1, 0, none⟩)) 13 rfl rfl hS (fun _ _ => by go_simp) ?_
 try simp only [Act.put, zA, zB, zC]
 refine tD 1 (.pointer (some ⟨ho, u.at_, none⟩)) 14 rfl rfl hS ?_ ?_
 ·rintro w' ⟨s1, s2⟩
  go_simp
 try simp only [Act.put, zA, zB, zC]
 refine tD 2 (.pointer (some ⟨g, 0, none⟩)) 15 rfl rfl hS (fun _ _ => by go_simp) ?_
 try simp only [Act.put, zA, zB, zC]
 refine tD 3 (.pointer (some ⟨w.heap.size + 1, 1, none⟩)) 16 rfl rfl hS (fun _ _ => by go_simp) ?_
 try simp only [Act.put, zA, zB, zC]
 refine tD 4 (.int .i64 u.s) 17 rfl rfl hS ?_ ?_
 ·rintro w' ⟨s1, s2⟩
  go_simp
 try simp only [Act.put, zA, zB, zC]
 have hRd : Rdr 274 wa1.drew lo g l e := hRa
 have hxd : Vb T wa1.drew ho cs := hxa
 have hmd : Vb 245 wa1.drew (w.heap.size + 1) [.pointer (some ⟨ho, u.at_, none⟩), .int .i64 u.s, .int .i64 u.lo, .int .i64 u.hi] := hm1
 have hgd : Turn2 g ho (w.alloc (.cells #[.slice (some ⟨b, 0, none⟩) 1 1, .pointer none, .pointer none] 211)) wa1.drew := hga
 have hzd : w.heap.size < wa1.drew.heap.size := hza
 clear hRa hxa hm1 hga hza
 generalize wa1.drew = wd1 at *
 refine rD 5 rfl fun K hK => ?_
 go_simp
 go_at_call 207
 refine (num_eq u.s hRd HQ0.out).mono ?_
 rintro en v1 ⟨rfl, hS2, hg2⟩
 have hm2 := hmd.grown hg2 (by omega)
 have hx2a := hxd.grown hg2 (by omega)
 have hT2 := hgd.trans (Turn2.one hg2)
 have hzq := hg2.size
 refine hK.out _ _ ⟨hm2.cell 0 rfl, hm2.cell 1 rfl⟩ (fun hS3 => ?_)
 clear hK K
 try simp only [Act.put, zA, zB, zC]
 refine tD 6 (.pointer (some ⟨ho, u.at_, none⟩)) 19 rfl rfl hS3 (fun _ _ => by go_simp) ?_
 try simp only [Act.put, zA, zB, zC]
 obtain ⟨y0, hy0⟩ : ∃ y, (cs)[u.at_]? = some y := ⟨_, List.getElem?_eq_getElem (by simpa using hu)⟩
 have c0 := hx2a.cell u.at_ hy0
 have hf := hx2a.free
 refine rD 7 rfl fun K hK => ?_
 go_simp
 have hm3 := hm2.other (r := ho) (by omega) u.at_ (.int .i64 x)
 have hx2 := hx2a.set u.at_ (.int .i64 x)
 have hR2 := hS2.off' ho u.at_ (.int .i64 x) hgo
 have hgr2 := hT2.trans (Turn2.two (grownBy_set v1 ho u.at_ (.int .i64 x)))
 have hz2 : w.heap.size < (v1.setCell ⟨ho, u.at_, none⟩ (.int .i64 x)).heap.size := by simp [World.setCell]; omega
 refine hK.out _ _ ⟨hm3.cell 0 rfl, hm3.cell 1 rfl⟩ (fun hS4 => ?_)
 clear hK K c0 hf hy0
 try simp only [Act.put, zA, zB, zC]
 generalize (v1.setCell ⟨ho, u.at_, none⟩ (.int .i64 x)) = wb1 at *
 clear hS hS3 hS4 hm3 hm2 hx2a hT2 hS2 hg2 hzq hRd hxd hmd hgd hzd
 refine wpAnyH_done (by kernel_rfl) ?_ _
 go_wp2_with fail
 obtain ⟨f1, f2, b00, b01, b02, b03⟩ := FU.out _ hgr2
 rw [rounds_succ]
 go_wp2_with fail
 go_end0
 exact ⟨rfl, hT0.trans hgr2, hR2, hx2⟩
theorem rp_2 {w : World} {T : TypeId} {lo g ho : Nat} {l l' : List Int} {e e' : Int} {cs : List Value} (A : Option Addr) (hR : Rdr 274 w lo g l e) (hx : Vb T w ho cs) (hgo : g < ho) {lo2 m : Nat} {u v : NumV} {x y : Int} (hN : Rn w lo2 ho A m [u, v]) (hlo : ho < lo2) (hu : u.at_ < cs.length) (hv : v.at_ < cs.length) {l1 : List Int} {e1 : Int} (hq0 : nu u.s (l, e) = (x, (l1, e1))) (hq1 : nu v.s (l1, e1) = (y, (l', e'))) : Calls Tryz.prog 208 #[.agg #[.slice A m m, .pointer none, .pointer none], .pointer (some ⟨g, 0, none⟩)] w (fun en w' => en = .returned (.tuple #[]) ∧ Turn2 g ho w w' ∧ Rdr 274 w' lo g l' e' ∧ Vb T w' ho ((cs.set u.at_ (.int .i64 x)).set v.at_ (.int .i64 y))) := by
 have HQ0 := Kp.mk hq0
 have HQ1 := Kp.mk hq1
 clear hq0 hq1
 have hlt := hR.lt
 have hxl := hx.lt
 obtain ⟨hl, _, hc⟩ := hN
 simp at hl
 subst hl
 obtain ⟨b, rfl, hlb, hbw, hc⟩ := hc (by omega)
 obtain ⟨a00, a01, a02, a03⟩ := hc 0 u rfl
 simp only [Nat.zero_mul, Nat.zero_add, Nat.one_mul, Nat.reduceAdd] at a00 a01 a02 a03
 obtain ⟨a10, a11, a12, a13⟩ := hc 1 v rfl
 simp only [Nat.zero_mul, Nat.zero_add, Nat.one_mul, Nat.reduceAdd] at a10 a11 a12 a13
 clear hc
 have hvb := Vb.new 211 w [.slice (some ⟨b, 0, none⟩) 2 2, .pointer none, .pointer none]
 have FU : Kp (∀ w', Turn2 g ho (w.alloc (.cells #[.slice (some ⟨b, 0, none⟩) 2 2, .pointer none, .pointer none] 211)) w' → w'.cell? ⟨w.heap.size, 1, none⟩ = some (.pointer none) ∧ w'.cell? ⟨w.heap.size, 2, none⟩ = some (.pointer none) ∧ w'.cell? ⟨b, 0, none⟩ = some (.pointer (some ⟨ho, u.at_, none⟩)) ∧ w'.cell? ⟨b, 1, none⟩ = some (.int .i64 u.s) ∧ w'.cell? ⟨b, 2, none⟩ = some (.int .i64 u.lo) ∧ w'.cell? ⟨b, 3, none⟩ = some (.int .i64 u.hi) ∧ w'.cell? ⟨b, 4, none⟩ = some (.pointer (some ⟨ho, v.at_, none⟩)) ∧ w'.cell? ⟨b, 5, none⟩ = some (.int .i64 v.s) ∧ w'.cell? ⟨b, 6, none⟩ = some (.int .i64 v.lo) ∧ w'.cell? ⟨b, 7, none⟩ = some (.int .i64 v.hi)) := Kp.mk (fun w' hgr => ⟨(hvb.cell 1 rfl |> fun h => hgr.cell h (by omega) (by omega)), (hvb.cell 2 rfl |> fun h => hgr.cell h (by omega) (by omega)), hgr.cell (cell_below a00 hbw (below_alloc w _)) (by omega) (by omega), hgr.cell (cell_below a01 hbw (below_alloc w _)) (by omega) (by omega), hgr.cell (cell_below a02 hbw (below_alloc w _)) (by omega) (by omega), hgr.cell (cell_below a03 hbw (below_alloc w _)) (by omega) (by omega), hgr.cell (cell_below a10 hbw (below_alloc w _)) (by omega) (by omega), hgr.cell (cell_below a11 hbw (below_alloc w _)) (by omega) (by omega), hgr.cell (cell_below a12 hbw (below_alloc w _)) (by omega) (by omega), hgr.cell (cell_below a13 hbw (below_alloc w _)) (by omega) (by omega)⟩)
 clear a00 a01 a02 a03 a10 a11 a12 a13
 have hx1 := hx.alloc (.cells #[.slice (some ⟨b, 0, none⟩) 2 2, .pointer none, .pointer none] 211)
 have hR1 := hR.below (below_alloc w (.cells #[.slice (some ⟨b, 0, none⟩) 2 2, .pointer none, .pointer none] 211))
 have hgr1 : Turn2 g ho (w.alloc (.cells #[.slice (some ⟨b, 0, none⟩) 2 2, .pointer none, .pointer none] 211)) (w.alloc (.cells #[.slice (some ⟨b, 0, none⟩) 2 2, .pointer none, .pointer none] 211)) := Turn2.refl _ _ _
 have hT0 := (Turn2.refl g ho w).new (below_alloc w (.cells #[.slice (some ⟨b, 0, none⟩) 2 2, .pointer none, .pointer none] 211))
 have hz1 : w.heap.size < (w.alloc (.cells #[.slice (some ⟨b, 0, none⟩) 2 2, .pointer none, .pointer none] 211)).heap.size := by simp
 go_enter Tryz.func208, Tryz.ntmps208
 go_wp2_with fail
 refine wp_loop_rounds (2 + 1) ?_
 obtain ⟨f1, f2, b00, b01, b02, b03, b10, b11, b12, b13⟩ := FU.out _ hgr1
 rw [rounds_succ]
 go_upto_region 4 with fail
 clear f1 f2 b00 b01 b02 b03 b10 b11 b12 b13
 have hm1 := Vb.new 245 (w.alloc (.cells #[.slice (some ⟨b, 0, none⟩) 2 2, .pointer none, .pointer none] 211)) [.pointer (some ⟨ho, u.at_, none⟩), .int .i64 u.s, .int .i64 u.lo, .int .i64 u.hi]
 rw [alloc_size] at hm1
 have hxa := hx1.alloc (.cells #[.pointer (some ⟨ho, u.at_, none⟩), .int .i64 u.s, .int .i64 u.lo, .int .i64 u.hi] 245)
 have hga := hgr1.new (below_alloc (w.alloc (.cells #[.slice (some ⟨b, 0, none⟩) 2 2, .pointer none, .pointer none] 211)) (.cells #[.pointer (some ⟨ho, u.at_, none⟩), .int .i64 u.s, .int .i64 u.lo, .int .i64 u.hi] 245))
 have hRa := hR1.below (below_alloc (w.alloc (.cells #[.slice (some ⟨b, 0, none⟩) 2 2, .pointer none, .pointer none] 211)) (.cells #[.pointer (some ⟨ho, u.at_, none⟩), .int .i64 u.s, .int .i64 u.lo, .int .i64 u.hi] 245))
 have hza : w.heap.size < ((w.alloc (.cells #[.slice (some ⟨b, 0, none⟩) 2 2, .pointer none, .pointer none] 211)).alloc (.cells #[.pointer (some ⟨ho, u.at_, none⟩), .int .i64 u.s, .int .i64 u.lo, .int .i64 u.hi] 245)).heap.size := Nat.lt_of_lt_of_le hz1 (below_alloc (w.alloc (.cells #[.slice (some ⟨b, 0, none⟩) 2 2, .pointer none, .pointer none] 211)) (.cells #[.pointer (some ⟨ho, u.at_, none⟩), .int .i64 u.s, .int .i64 u.lo, .int .i64 u.hi] 245)).size
 generalize ((w.alloc (.cells #[.slice (some ⟨b, 0, none⟩) 2 2, .pointer none, .pointer none] 211)).alloc (.cells #[.pointer (some ⟨ho, u.at_, none⟩), .int .i64 u.s, .int .i64 u.lo, .int .i64 u.hi] 245)) = wa1 at *
 have hS : (fun w' => w'.cell? ⟨w.heap.size + 1, 0, none⟩ = some (.pointer (some ⟨ho, u.at_, none⟩)) ∧ w'.cell? ⟨w.heap.size + 1, 1, none⟩ = some (.int .i64 u.s)) wa1.drew := ⟨hm1.cell 0 rfl, hm1.cell 1 rfl⟩
 refine wp_region_held_drew (S := (fun w' => w'.cell? ⟨w.heap.size + 1, 0, none⟩ = some (.pointer (some ⟨ho, u.at_, none⟩)) ∧ w'.cell? ⟨w.heap.size + 1, 1, none⟩ = some (.int .i64 u.s))) (by kernel_rfl) hS (fun _ => ?_)
 refine tD 0 (.pointer (some ⟨w.heap.size + 1, 0, none⟩)) 13 rfl rfl hS (fun _ _ => by go_simp) ?_
 try simp only [Act.put, zA, zB, zC]
 refine tD 1 (.pointer (some ⟨ho, u.at_, none⟩)) 14 rfl rfl hS ?_ ?_
 ·rintro w' ⟨s1, s2⟩
  go_simp
 try simp only [Act.put, zA, zB, zC]
 refine tD 2 (.pointer (some ⟨g, 0, none⟩)) 15 rfl rfl hS (fun _ _ => by go_simp) ?_
 try simp only [Act.put, zA, zB, zC]
 refine tD 3 (.pointer (some ⟨w.heap.size + 1, 1, none⟩)) 16 rfl rfl hS (fun _ _ => by go_simp) ?_
 try simp only [Act.put, zA, zB, zC]
 refine tD 4 (.int .i64 u.s) 17 rfl rfl hS ?_ ?_
 ·rintro w' ⟨s1, s2⟩
  go_simp
 try simp only [Act.put, zA, zB, zC]
 have hRd : Rdr 274 wa1.drew lo g l e := hRa
 have hxd : Vb T wa1.drew ho cs := hxa
 have hmd : Vb 245 wa1.drew (w.heap.size + 1) [.pointer (some ⟨ho, u.at_, none⟩), .int .i64 u.s, .int .i64 u.lo, .int .i64 u.hi] := hm1
 have hgd : Turn2 g ho (w.alloc (.cells #[.slice (some ⟨b, 0, none⟩) 2 2, .pointer none, .pointer none] 211)) wa1.drew := hga
 have hzd : w.heap.size < wa1.drew.heap.size := hza
 clear hRa hxa hm1 hga hza
 generalize wa1.drew = wd1 at *
 refine rD 5 rfl fun K hK => ?_
 go_simp
 go_at_call 207
 refine (num_eq u.s hRd HQ0.out).mono ?_
 rintro en v1 ⟨rfl, hS2, hg2⟩
 have hm2 := hmd.grown hg2 (by omega)
 have hx2a := hxd.grown hg2 (by omega)
 have hT2 := hgd.trans (Turn2.one hg2)
 have hzq := hg2.size
 refine hK.out _ _ ⟨hm2.cell 0 rfl, hm2.cell 1 rfl⟩ (fun hS3 => ?_)
 clear hK K
 try simp only [Act.put, zA, zB, zC]
 refine tD 6 (.pointer (some ⟨ho, u.at_, none⟩)) 19 rfl rfl hS3 (fun _ _ => by go_simp) ?_
 try simp only [Act.put, zA, zB, zC]
 obtain ⟨y0, hy0⟩ : ∃ y, (cs)[u.at_]? = some y := ⟨_, List.getElem?_eq_getElem (by simpa using hu)⟩
 have c0 := hx2a.cell u.at_ hy0
 have hf := hx2a.free
 refine rD 7 rfl fun K hK => ?_
 go_simp
 have hm3 := hm2.other (r := ho) (by omega) u.at_ (.int .i64 x)
 have hx2 := hx2a.set u.at_ (.int .i64 x)
 have hR2 := hS2.off' ho u.at_ (.int .i64 x) hgo
 have hgr2 := hT2.trans (Turn2.two (grownBy_set v1 ho u.at_ (.int .i64 x)))
 have hz2 : w.heap.size < (v1.setCell ⟨ho, u.at_, none⟩ (.int .i64 x)).heap.size := by simp [World.setCell]; omega
 refine hK.out _ _ ⟨hm3.cell 0 rfl, hm3.cell 1 rfl⟩ (fun hS4 => ?_)
 clear hK K c0 hf hy0
 try simp only [Act.put, zA, zB, zC]
 generalize (v1.setCell ⟨ho, u.at_, none⟩ (.int .i64 x)) = wb1 at *
 clear hS hS3 hS4 hm3 hm2 hx2a hT2 hS2 hg2 hzq hRd hxd hmd hgd hzd
 refine wpAnyH_done (by kernel_rfl) ?_ _
 go_wp2_with fail
 obtain ⟨f1, f2, b00, b01, b02, b03, b10, b11, b12, b13⟩ := FU.out _ hgr2
 rw [rounds_succ]
 go_upto_region 4 with fail
 clear f1 f2 b00 b01 b02 b03 b10 b11 b12 b13
 have hm2 := Vb.new 245 wb1 [.pointer (some ⟨ho, v.at_, none⟩), .int .i64 v.s, .int .i64 v.lo, .int .i64 v.hi]
 have hxa := hx2.alloc (.cells #[.pointer (some ⟨ho, v.at_, none⟩), .int .i64 v.s, .int .i64 v.lo, .int .i64 v.hi] 245)
 have hga := hgr2.new (below_alloc wb1 (.cells #[.pointer (some ⟨ho, v.at_, none⟩), .int .i64 v.s, .int .i64 v.lo, .int .i64 v.hi] 245))
 have hRa := hR2.below (below_alloc wb1 (.cells #[.pointer (some ⟨ho, v.at_, none⟩), .int .i64 v.s, .int .i64 v.lo, .int .i64 v.hi] 245))
 have hza : w.heap.size < (wb1.alloc (.cells #[.pointer (some ⟨ho, v.at_, none⟩), .int .i64 v.s, .int .i64 v.lo, .int .i64 v.hi] 245)).heap.size := Nat.lt_of_lt_of_le hz2 (below_alloc wb1 (.cells #[.pointer (some ⟨ho, v.at_, none⟩), .int .i64 v.s, .int .i64 v.lo, .int .i64 v.hi] 245)).size
 generalize (wb1.alloc (.cells #[.pointer (some ⟨ho, v.at_, none⟩), .int .i64 v.s, .int .i64 v.lo, .int .i64 v.hi] 245)) = wa2 at *
 have hS : (fun w' => w'.cell? ⟨wb1.heap.size, 0, none⟩ = some (.pointer (some ⟨ho, v.at_, none⟩)) ∧ w'.cell? ⟨wb1.heap.size, 1, none⟩ = some (.int .i64 v.s)) wa2.drew := ⟨hm2.cell 0 rfl, hm2.cell 1 rfl⟩
 refine wp_region_held_drew (S := (fun w' => w'.cell? ⟨wb1.heap.size, 0, none⟩ = some (.pointer (some ⟨ho, v.at_, none⟩)) ∧ w'.cell? ⟨wb1.heap.size, 1, none⟩ = some (.int .i64 v.s))) (by kernel_rfl) hS (fun _ => ?_)
 refine tD 0 (.pointer (some ⟨wb1.heap.size, 0, none⟩)) 13 rfl rfl hS (fun _ _ => by go_simp) ?_
 try simp only [Act.put, zA, zB, zC]
 refine tD 1 (.pointer (some ⟨ho, v.at_, none⟩)) 14 rfl rfl hS ?_ ?_
 ·rintro w' ⟨s1, s2⟩
  go_simp
 try simp only [Act.put, zA, zB, zC]
 refine tD 2 (.pointer (some ⟨g, 0, none⟩)) 15 rfl rfl hS (fun _ _ => by go_simp) ?_
 try simp only [Act.put, zA, zB, zC]
 refine tD 3 (.pointer (some ⟨wb1.heap.size, 1, none⟩)) 16 rfl rfl hS (fun _ _ => by go_simp) ?_
 try simp only [Act.put, zA, zB, zC]
 refine tD 4 (.int .i64 v.s) 17 rfl rfl hS ?_ ?_
 ·rintro w' ⟨s1, s2⟩
  go_simp
 try simp only [Act.put, zA, zB, zC]
 have hRd : Rdr 274 wa2.drew lo g l1 e1 := hRa
 have hxd : Vb T wa2.drew ho (cs.set u.at_ (.int .i64 x)) := hxa
 have hmd : Vb 245 wa2.drew (wb1.heap.size) [.pointer (some ⟨ho, v.at_, none⟩), .int .i64 v.s, .int .i64 v.lo, .int .i64 v.hi] := hm2
 have hgd : Turn2 g ho (w.alloc (.cells #[.slice (some ⟨b, 0, none⟩) 2 2, .pointer none, .pointer none] 211)) wa2.drew := hga
 have hzd : w.heap.size < wa2.drew.heap.size := hza
 clear hRa hxa hm2 hga hza
 generalize wa2.drew = wd2 at *
 refine rD 5 rfl fun K hK => ?_
 go_simp
 go_at_call 207
 refine (num_eq v.s hRd HQ1.out).mono ?_
 rintro en v2 ⟨rfl, hS2, hg2⟩
 have hm2 := hmd.grown hg2 (by omega)
 have hx2a := hxd.grown hg2 (by omega)
 have hT2 := hgd.trans (Turn2.one hg2)
 have hzq := hg2.size
 refine hK.out _ _ ⟨hm2.cell 0 rfl, hm2.cell 1 rfl⟩ (fun hS3 => ?_)
 clear hK K
 try simp only [Act.put, zA, zB, zC]
 refine tD 6 (.pointer (some ⟨ho, v.at_, none⟩)) 19 rfl rfl hS3 (fun _ _ => by go_simp) ?_
 try simp only [Act.put, zA, zB, zC]
 obtain ⟨y0, hy0⟩ : ∃ y, ((cs.set u.at_ (.int .i64 x)))[v.at_]? = some y := ⟨_, List.getElem?_eq_getElem (by simpa using hv)⟩
 have c0 := hx2a.cell v.at_ hy0
 have hf := hx2a.free
 refine rD 7 rfl fun K hK => ?_
 go_simp
 have hm3 := hm2.other (r := ho) (by omega) v.at_ (.int .i64 y)
 have hx3 := hx2a.set v.at_ (.int .i64 y)
 have hR3 := hS2.off' ho v.at_ (.int .i64 y) hgo
 have hgr3 := hT2.trans (Turn2.two (grownBy_set v2 ho v.at_ (.int .i64 y)))
 have hz3 : w.heap.size < (v2.setCell ⟨ho, v.at_, none⟩ (.int .i64 y)).heap.size := by simp [World.setCell]; omega
 refine hK.out _ _ ⟨hm3.cell 0 rfl, hm3.cell 1 rfl⟩ (fun hS4 => ?_)
 clear hK K c0 hf hy0
 try simp only [Act.put, zA, zB, zC]
 generalize (v2.setCell ⟨ho, v.at_, none⟩ (.int .i64 y)) = wb2 at *
 clear hS hS3 hS4 hm3 hm2 hx2a hT2 hS2 hg2 hzq hRd hxd hmd hgd hzd
 refine wpAnyH_done (by kernel_rfl) ?_ _
 go_wp2_with fail
 obtain ⟨f1, f2, b00, b01, b02, b03, b10, b11, b12, b13⟩ := FU.out _ hgr3
 rw [rounds_succ]
 go_wp2_with fail
 go_end0
 exact ⟨rfl, hT0.trans hgr3, hR3, hx3⟩
def OrdRet (o : OrdV) (er : Int) (w : World) (en : Ending) (w' : World) : Prop :=
 ∃ S n c, en = .returned (.tuple #[.agg #[.int .i64 o.k, .int .i64 o.n, .int .i64 o.m, .int .i64 o.r.k, .int .i64 o.r.pr, .int .i64 o.r.to, .int .i64 o.r.po, .int .i64 o.r.x.v, .int .i64 o.r.x.m, .int .u8 o.r.x.b0, .int .u8 o.r.x.b1, .int .u8 o.r.x.b2, .int .u8 o.r.x.i0, .int .u8 o.r.x.i1, .int .u8 o.r.x.i2, .slice S n c, .int .i64 o.f, .int .i64 o.p, .int .i64 o.t, .int .i64 o.q, .int .i64 o.z], .int .i64 er]) ∧ Ron w' w.heap.size S n c o.r.os ∧ Below w.heap.size w w'
def kOrd (k : Int) : OrdV := { noOrd with k := k }
theorem wpList_load_want {T ty : TypeId} {w : World} {g off : Nat} {cs vs : List Value} {ops : Array Oper} {rest : List Oper} {o : Oper} {a : Act} {Q : Exit → Act → World → Prop} (hw : Region.wanted o (yielded ops a.tmps) = true) (x : Operand) (ho : o.op = .load ty x) (hx : a.eval x = .pointer (some ⟨g, off, none⟩)) (hv : Vb T w g cs) (hvs : (cs.drop off).take vs.length = vs) (ht : Agg ty vs.length)
  (h : wpList Tryz.prog ops Q rest (a.put o.dst (.agg vs.toArray)) w) : wpList Tryz.prog ops Q (o :: rest) a w := by
 refine BigFrame.wpList_want hw fun K hK => ?_
 unfold Oper.wp execOp
 simp only [ho, hx, Instr.loadAt, Instr.sureAddr, Sem.run_bind, Sem.run_pure, Result.andThen_ok, run_loadVb hv hvs ht]
 exact hK _ _ h
theorem isK_false {k : Int} (h : isK k = false) : k < 1 ∨ 9 < k := by
 by_cases hv : 1 ≤ k ∧ k ≤ 9
 ·rw [(isK_iff k).2 hv] at h; simp at h
 ·omega
theorem readP_any {w : World} {lo lo2 g ho m : Nat} {l l' : List Int} {e e' k : Int} {o : OrdV} {A : Option Addr} (hR : Rdr 274 w lo g l e) (hx : Vb 206 w ho (ocl (kOrd k) (.slice none 0 0))) (hgo : g < ho) (hN : Rn w lo2 ho A m (numsOf k)) (hlo : ho < lo2) (hq : restRd k (l, e) = (o, (l', e'))) :
  Calls Tryz.prog 208 #[.agg #[.slice A m m, .pointer (ruP k ho), .pointer (prP k ho)], .pointer (some ⟨g, 0, none⟩)] w (fun en w' => en = .returned (.tuple #[]) ∧ Turn2 g ho w w' ∧ Rdr 274 w' lo g l' e' ∧ ∃ S n c, Vb 206 w' ho (ocl o (.slice S n c)) ∧ Ron w' w.heap.size S n c o.r.os) := by
 unfold ruP prP
 by_cases h2 : k = 2 ∨ k = 3
 ·have hn : numsOf k = [] := by unfold numsOf; rw [if_neg (by omega), if_neg (by omega), if_neg (by omega), if_neg (by omega), if_neg (by omega)]
  rw [hn] at hN
  have hm := hN.1
  simp at hm
  subst hm
  rw [if_pos h2, if_neg (by omega)]
  rw [restRd_r h2] at hq
  rcases hr : ruleRd (l, e) with ⟨r, l1, e1⟩
  rw [bnd_eq hr] at hq
  simp only [rt, Prod.mk.injEq] at hq
  obtain ⟨rfl, rfl, rfl⟩ := hq
  exact rp_rule A hR hx hgo rfl hr
 rw [if_neg h2]
 by_cases h8 : k = 8
 ·have hn : numsOf k = [] := by rw [h8]; rfl
  rw [hn] at hN
  have hm := hN.1
  simp at hm
  subst hm
  rw [if_pos h8]
  rw [h8, restRd_8] at hq
  rcases hr : tx (l, e) with ⟨t, l1, e1⟩
  rw [bnd_eq hr] at hq
  simp only [rt, Prod.mk.injEq] at hq
  obtain ⟨rfl, rfl, rfl⟩ := hq
  refine (rp_link A hR hx hgo rfl hr).mono (fun en w' ⟨h1, h2, h3, h4⟩ => ⟨h1, h2, h3, none, 0, 0, ?_, Ron.nil _ _⟩)
  rw [h8] at h4
  exact h4
 rw [if_neg h8]
 by_cases h4k : k = 4
 ·rw [h4k] at hN hx
  rw [h4k, restRd_4] at hq
  rcases hr : nu 1 (l, e) with ⟨x, l1, e1⟩
  rw [bnd_eq hr] at hq
  simp only [rt, Prod.mk.injEq] at hq
  obtain ⟨rfl, rfl, rfl⟩ := hq
  exact (rp_1 A hR hx hgo hN hlo (by simp [ocl]) hr).mono (fun en w' ⟨h1, h2, h3, h4⟩ => ⟨h1, h2, h3, none, 0, 0, h4, Ron.nil _ _⟩)
 by_cases h5k : k = 5
 ·rw [h5k] at hN hx
  rw [h5k, restRd_5] at hq
  rcases hr : nu 1 (l, e) with ⟨x, l1, e1⟩
  rcases hs : nu 2 (l1, e1) with ⟨y, l2, e2⟩
  rw [bnd_eq hr, bnd_eq hs] at hq
  simp only [rt, Prod.mk.injEq] at hq
  obtain ⟨rfl, rfl, rfl⟩ := hq
  exact (rp_2 A hR hx hgo hN hlo (by simp [ocl]) (by simp [ocl]) hr hs).mono (fun en w' ⟨h1, h2, h3, h4⟩ => ⟨h1, h2, h3, none, 0, 0, h4, Ron.nil _ _⟩)
 by_cases h6k : k = 6
 ·rw [h6k] at hN hx
  rw [h6k, restRd_6] at hq
  rcases hr : nu 4 (l, e) with ⟨x, l1, e1⟩
  rw [bnd_eq hr] at hq
  simp only [rt, Prod.mk.injEq] at hq
  obtain ⟨rfl, rfl, rfl⟩ := hq
  exact (rp_1 A hR hx hgo hN hlo (by simp [ocl]) hr).mono (fun en w' ⟨h1, h2, h3, h4⟩ => ⟨h1, h2, h3, none, 0, 0, h4, Ron.nil _ _⟩)
 by_cases h7k : k = 7
 ·rw [h7k] at hN hx
  rw [h7k, restRd_7] at hq
  rcases hr : nu 4 (l, e) with ⟨x, l1, e1⟩
  rcases hs : nu 2 (l1, e1) with ⟨y, l2, e2⟩
  rw [bnd_eq hr, bnd_eq hs] at hq
  simp only [rt, Prod.mk.injEq] at hq
  obtain ⟨rfl, rfl, rfl⟩ := hq
  exact (rp_2 A hR hx hgo hN hlo (by simp [ocl]) (by simp [ocl]) hr hs).mono (fun en w' ⟨h1, h2, h3, h4⟩ => ⟨h1, h2, h3, none, 0, 0, h4, Ron.nil _ _⟩)
 by_cases h9k : k = 9
 ·rw [h9k] at hN hx
  rw [h9k, restRd_9] at hq
  rcases hr : nu 1 (l, e) with ⟨x, l1, e1⟩
  rcases hs : nu 1 (l1, e1) with ⟨y, l2, e2⟩
  rw [bnd_eq hr, bnd_eq hs] at hq
  simp only [rt, Prod.mk.injEq] at hq
  obtain ⟨rfl, rfl, rfl⟩ := hq
  exact (rp_2 A hR hx hgo hN hlo (by simp [ocl]) (by simp [ocl]) hr hs).mono (fun en w' ⟨h1, h2, h3, h4⟩ => ⟨h1, h2, h3, none, 0, 0, h4, Ron.nil _ _⟩)
 have hn : numsOf k = [] := by unfold numsOf; rw [if_neg (by omega), if_neg (by omega), if_neg (by omega), if_neg (by omega), if_neg (by omega)]
 rw [hn] at hN
 have hm := hN.1
 simp at hm
 subst hm
 have hq' : restRd k = rt (kOrd k) := by
  unfold restRd; rw [if_neg (by omega), if_neg (by omega), if_neg (by omega), if_neg (by omega), if_neg (by omega), if_neg (by omega), if_neg (by omega)]; rfl
 rw [hq'] at hq
 simp only [rt, Prod.mk.injEq] at hq
 obtain ⟨rfl, rfl, rfl⟩ := hq
 exact (rp_none A hR hx hgo ⟨rfl, rfl⟩).mono (fun en w' ⟨h1, h2, h3, h4⟩ => ⟨h1, h2, h3, none, 0, 0, h4, Ron.nil _ _⟩)
theorem parseO_err {l l' : List Int} {e : Int} {o : OrdV} (h : ordRd (l, 0) = (o, (l', e))) (he : e ≠ 0) : parseO l = (noOrd, e) := by unfold parseO; rw [h]; exact if_pos he
theorem parseO_form {l l' : List Int} {o : OrdV} (h : ordRd (l, 0) = (o, (l', 0))) (hf : ¬ (l'.length = 0 ∧ okOrd o)) : parseO l = (noOrd, 4) := by unfold parseO; rw [h, if_neg (by simp), if_neg hf]
theorem parseO_yes {l l' : List Int} {o : OrdV} (h : ordRd (l, 0) = (o, (l', 0))) (hf : l'.length = 0 ∧ okOrd o) : parseO l = (o, 0) := by unfold parseO; rw [h, if_neg (by simp), if_pos hf]
theorem ps_k_err {w : World} {B n c : Nat} {A : Option Addr} {l l1 l' : List Int} {v e1 e' : Int} {o : OrdV} (hr : Rd .u8 w B A n c l) (hl : By l) (hB : B ≤ w.heap.size) (hn : n ≤ 140737488355328) (h1 : nu 1 (l, 0) = (v, (l1, e1))) (h2 : restRd v (l1, e1) = (o, (l', e'))) (hi : isK v = true) (hz : e' ≠ 0) : Calls Tryz.prog 164 #[.slice A n c] w (OrdRet noOrd e' w) := by
 have H1 := Kp.mk h1
 have H2 := Kp.mk h2
 have HI := Kp.mk hi
 clear h1 h2 hi
 have hne : (e' != 0) = true := by rw [bne, beq_eq_false_iff_ne.2 hz]; rfl
 clear hz
 have hbz := below_alloc w (.cells #[.int .i64 0, .int .i64 0, .int .i64 0, .int .i64 0, .int .i64 0, .int .i64 0, .int .i64 0, .int .i64 0, .int .i64 0, .int .u8 0, .int .u8 0, .int .u8 0, .int .u8 0, .int .u8 0, .int .u8 0, .slice none 0 0, .int .i64 0, .int .i64 0, .int .i64 0, .int .i64 0, .int .i64 0] 51)
 have hvz : Vb 51 (w.alloc (.cells #[.int .i64 0, .int .i64 0, .int .i64 0, .int .i64 0, .int .i64 0, .int .i64 0, .int .i64 0, .int .i64 0, .int .i64 0, .int .u8 0, .int .u8 0, .int .u8 0, .int .u8 0, .int .u8 0, .int .u8 0, .slice none 0 0, .int .i64 0, .int .i64 0, .int .i64 0, .int .i64 0, .int .i64 0] 51)) w.heap.size (ocl noOrd (.slice none 0 0)) := Vb.new 51 w (ocl noOrd (.slice none 0 0))
 have hrz := hr.below' hbz hB
 have hzz : w.heap.size < (w.alloc (.cells #[.int .i64 0, .int .i64 0, .int .i64 0, .int .i64 0, .int .i64 0, .int .i64 0, .int .i64 0, .int .i64 0, .int .i64 0, .int .u8 0, .int .u8 0, .int .u8 0, .int .u8 0, .int .u8 0, .int .u8 0, .slice none 0 0, .int .i64 0, .int .i64 0, .int .i64 0, .int .i64 0, .int .i64 0] 51)).heap.size := by simp
 go_enter Tryz.func164, Tryz.ntmps164
 go_upto_region 1 with fail
 generalize w.alloc (.cells #[.int .i64 0, .int .i64 0, .int .i64 0, .int .i64 0, .int .i64 0, .int .i64 0, .int .i64 0, .int .i64 0, .int .i64 0, .int .u8 0, .int .u8 0, .int .u8 0, .int .u8 0, .int .u8 0, .int .u8 0, .slice none 0 0, .int .i64 0, .int .i64 0, .int .i64 0, .int .i64 0, .int .i64 0] 51) = w0 at *
 go_wp2_with fail
 refine (read_any hrz hl (by omega) hn).mono ?_
 rintro en w1 ⟨g, rfl, hR1, hb1⟩
 have hlo : w0.heap.size ≤ g := by obtain ⟨_, _, _, _, hlo, _⟩ := hR1; exact hlo
 have hv1 := hvz.below hb1 (by omega)
 have hgl := hR1.lt
 have hT1 := hbz.trans (hb1.mono (by omega))
 have hz1 := hb1.size
 clear hvz hrz hb1 hbz
 go_wp2_with fail
 refine (num_eq 1 hR1 H1.out).mono ?_
 rintro en w2 ⟨rfl, hR2, hg2⟩
 have hv2 := hv1.grown hg2 (by omega)
 have hz2 := hg2.size
 have hT2 := below_grown (B := w.heap.size) hT1 hg2 (by omega) (by omega)
 clear hv1 hR1 hg2 hT1
 go_upto_region 3 with (refine wpList_store_new (vs := ocl (kOrd v) (.slice none 0 0)) rfl (.tmp 5) (.tmp 13) rfl rfl rfl rfl rfl rfl agg_own rfl ?_; intro w3 hx3 hb3 hz3)
 have hv3 := hv2.below hb3 (by omega)
 have hR3 := hR2.below hb3
 have hT3 := hT2.trans (hb3.mono (by omega))
 have hz3' : w2.heap.size < w3.heap.size := by omega
 have hgh : g < w2.heap.size := by omega
 generalize w2.heap.size = ho at *
 clear hz3 hv2 hR2 hb3 hT2
 go_wp2_with fail
 refine (partsOf_any ho w3 v hx3.ord.1).mono ?_
 rintro en w4 ⟨Q, m, rfl, hN4, hb4⟩
 have hz4 := hb4.size
 have hx4 := hx3.below hb4 (by omega)
 have hv4 := hv3.below hb4 (by omega)
 have hR4 := hR3.below hb4
 have hT4 := hT3.trans (hb4.mono (by omega))
 simp only [HI.out]
 clear hx3 hv3 hR3 hb4 hT3
 have hbp := below_alloc w4 (.cells #[.slice Q m m, .pointer (ruP v ho), .pointer (prP v ho)] 211)
 have hp5 := Vb.new 211 w4 [.slice Q m m, .pointer (ruP v ho), .pointer (prP v ho)]
 have hx5 := hx4.below hbp (by omega)
 have hv5 := hv4.below hbp (by omega)
 have hR5 := hR4.below hbp
 have hN5 := (hN4.below hbp).lower (lo' := ho + 1) (by omega)
 have hT5 := hT4.trans (hbp.mono (by omega))
 have hz5 : w4.heap.size < (w4.alloc (.cells #[.slice Q m m, .pointer (ruP v ho), .pointer (prP v ho)] 211)).heap.size := by simp
 go_upto_region 4 with fail
 generalize w4.alloc (.cells #[.slice Q m m, .pointer (ruP v ho), .pointer (prP v ho)] 211) = w5 at *
 clear hx4 hv4 hR4 hbp hT4 hN4
 obtain ⟨f0, f1, f2⟩ := hp5.c3
 go_wp2_with fail
 refine (readP_any hR5 hx5 hgh hN5 (by omega) H2.out).mono ?_
 rintro en w6 ⟨rfl, hT6, hR6, S6, n6, c6, hx6, hr6⟩
 have hv6 := hT6.vb hv5 (by omega) (by omega)
 have hz6 := hT6.2.2.2.1
 have hTT := hT5.trans (hT6.below (by omega) (by omega) (by omega))
 have hr6 := hr6.lower (lo' := w.heap.size + 1) (by omega)
 clear f0 f1 f2 hx5 hv5 hR5 hT5 hT6 hN5 hp5
 go_wp2_with fail
 refine (errM_any hR6).mono ?_
 rintro en wq ⟨rfl, rfl⟩
 go_wp2_with (refine wpList_store_vb (vs := (ocl noOrd (.slice none 0 0))) rfl (.tmp 2) (.tmp 26) rfl rfl rfl hv6 rfl agg_order rfl ?_; intro w9 hv9 hg9 hz9)
 refine bodyPost_ret (results_pair Tryz.results164 _ rfl hv9 agg_order) rfl ?_
 exact ⟨none, 0, 0, rfl, Ron.nil _ _, (hTT.grown hg9 (by omega) (fun k e => by simp at e; omega))⟩
theorem ps_k_end {w : World} {B n c : Nat} {A : Option Addr} {l l1 l' : List Int} {v e1 e' : Int} {o : OrdV} (hr : Rd .u8 w B A n c l) (hl : By l) (hB : B ≤ w.heap.size) (hn : n ≤ 140737488355328) (h1 : nu 1 (l, 0) = (v, (l1, e1))) (h2 : restRd v (l1, e1) = (o, (l', e'))) (hi : isK v = true) (hz : e' = 0) (hp : 0 < l'.length) : Calls Tryz.prog 164 #[.slice A n c] w (OrdRet noOrd 4 w) := by
 have H1 := Kp.mk h1
 have H2 := Kp.mk h2
 have HI := Kp.mk hi
 clear h1 h2 hi
 have HZ := Kp.mk hz
 have hne : (e' != 0) = false := by rw [hz]; rfl
 have hE : endR l' e' = 4 := by unfold endR; rw [if_pos hp]
 clear hz hp
 have hbz := below_alloc w (.cells #[.int .i64 0, .int .i64 0, .int .i64 0, .int .i64 0, .int .i64 0, .int .i64 0, .int .i64 0, .int .i64 0, .int .i64 0, .int .u8 0, .int .u8 0, .int .u8 0, .int .u8 0, .int .u8 0, .int .u8 0, .slice none 0 0, .int .i64 0, .int .i64 0, .int .i64 0, .int .i64 0, .int .i64 0] 51)
 have hvz : Vb 51 (w.alloc (.cells #[.int .i64 0, .int .i64 0, .int .i64 0, .int .i64 0, .int .i64 0, .int .i64 0, .int .i64 0, .int .i64 0, .int .i64 0, .int .u8 0, .int .u8 0, .int .u8 0, .int .u8 0, .int .u8 0, .int .u8 0, .slice none 0 0, .int .i64 0, .int .i64 0, .int .i64 0, .int .i64 0, .int .i64 0] 51)) w.heap.size (ocl noOrd (.slice none 0 0)) := Vb.new 51 w (ocl noOrd (.slice none 0 0))
 have hrz := hr.below' hbz hB
 have hzz : w.heap.size < (w.alloc (.cells #[.int .i64 0, .int .i64 0, .int .i64 0, .int .i64 0, .int .i64 0, .int .i64 0, .int .i64 0, .int .i64 0, .int .i64 0, .int .u8 0, .int .u8 0, .int .u8 0, .int .u8 0, .int .u8 0, .int .u8 0, .slice none 0 0, .int .i64 0, .int .i64 0, .int .i64 0, .int .i64 0, .int .i64 0] 51)).heap.size := by simp
 go_enter Tryz.func164, Tryz.ntmps164
 go_upto_region 1 with fail
 generalize w.alloc (.cells #[.int .i64 0, .int .i64 0, .int .i64 0, .int .i64 0, .int .i64 0, .int .i64 0, .int .i64 0, .int .i64 0, .int .i64 0, .int .u8 0, .int .u8 0, .int .u8 0, .int .u8 0, .int .u8 0, .int .u8 0, .slice none 0 0, .int .i64 0, .int .i64 0, .int .i64 0, .int .i64 0, .int .i64 0] 51) = w0 at *
 go_wp2_with fail
 refine (read_any hrz hl (by omega) hn).mono ?_
 rintro en w1 ⟨g, rfl, hR1, hb1⟩
 have hlo : w0.heap.size ≤ g := by obtain ⟨_, _, _, _, hlo, _⟩ := hR1; exact hlo
 have hv1 := hvz.below hb1 (by omega)
 have hgl := hR1.lt
 have hT1 := hbz.trans (hb1.mono (by omega))
 have hz1 := hb1.size
 clear hvz hrz hb1 hbz
 go_wp2_with fail
 refine (num_eq 1 hR1 H1.out).mono ?_
 rintro en w2 ⟨rfl, hR2, hg2⟩
 have hv2 := hv1.grown hg2 (by omega)
 have hz2 := hg2.size
 have hT2 := below_grown (B := w.heap.size) hT1 hg2 (by omega) (by omega)
 clear hv1 hR1 hg2 hT1
 go_upto_region 3 with (refine wpList_store_new (vs := ocl (kOrd v) (.slice none 0 0)) rfl (.tmp 5) (.tmp 13) rfl rfl rfl rfl rfl rfl agg_own rfl ?_; intro w3 hx3 hb3 hz3)
 have hv3 := hv2.below hb3 (by omega)
 have hR3 := hR2.below hb3
 have hT3 := hT2.trans (hb3.mono (by omega))
 have hz3' : w2.heap.size < w3.heap.size := by omega
 have hgh : g < w2.heap.size := by omega
 generalize w2.heap.size = ho at *
 clear hz3 hv2 hR2 hb3 hT2
 go_wp2_with fail
 refine (partsOf_any ho w3 v hx3.ord.1).mono ?_
 rintro en w4 ⟨Q, m, rfl, hN4, hb4⟩
 have hz4 := hb4.size
 have hx4 := hx3.below hb4 (by omega)
 have hv4 := hv3.below hb4 (by omega)
 have hR4 := hR3.below hb4
 have hT4 := hT3.trans (hb4.mono (by omega))
 simp only [HI.out]
 clear hx3 hv3 hR3 hb4 hT3
 have hbp := below_alloc w4 (.cells #[.slice Q m m, .pointer (ruP v ho), .pointer (prP v ho)] 211)
 have hp5 := Vb.new 211 w4 [.slice Q m m, .pointer (ruP v ho), .pointer (prP v ho)]
 have hx5 := hx4.below hbp (by omega)
 have hv5 := hv4.below hbp (by omega)
 have hR5 := hR4.below hbp
 have hN5 := (hN4.below hbp).lower (lo' := ho + 1) (by omega)
 have hT5 := hT4.trans (hbp.mono (by omega))
 have hz5 : w4.heap.size < (w4.alloc (.cells #[.slice Q m m, .pointer (ruP v ho), .pointer (prP v ho)] 211)).heap.size := by simp
 go_upto_region 4 with fail
 generalize w4.alloc (.cells #[.slice Q m m, .pointer (ruP v ho), .pointer (prP v ho)] 211) = w5 at *
 clear hx4 hv4 hR4 hbp hT4 hN4
 obtain ⟨f0, f1, f2⟩ := hp5.c3
 go_wp2_with fail
 refine (readP_any hR5 hx5 hgh hN5 (by omega) H2.out).mono ?_
 rintro en w6 ⟨rfl, hT6, hR6, S6, n6, c6, hx6, hr6⟩
 have hv6 := hT6.vb hv5 (by omega) (by omega)
 have hz6 := hT6.2.2.2.1
 have hTT := hT5.trans (hT6.below (by omega) (by omega) (by omega))
 have hr6 := hr6.lower (lo' := w.heap.size + 1) (by omega)
 clear f0 f1 f2 hx5 hv5 hR5 hT5 hT6 hN5 hp5
 go_wp2_with fail
 refine (errM_any hR6).mono ?_
 rintro en wq ⟨rfl, rfl⟩
 go_wp2_with fail
 refine (endM_any hR6).mono ?_
 rintro en wq ⟨rfl, rfl⟩
 simp only [hE]
 go_wp2_with (refine wpList_store_vb (vs := (ocl noOrd (.slice none 0 0))) rfl (.tmp 2) (.tmp 36) rfl rfl rfl hv6 rfl agg_order rfl ?_; intro w9 hv9 hg9 hz9)
 refine bodyPost_ret (results_pair Tryz.results164 _ rfl hv9 agg_order) rfl ?_
 exact ⟨none, 0, 0, rfl, Ron.nil _ _, (hTT.grown hg9 (by omega) (fun k e => by simp at e; omega))⟩
theorem ps_k_chk {w : World} {B n c : Nat} {A : Option Addr} {l l1 l' : List Int} {v e1 e' : Int} {o : OrdV} (hr : Rd .u8 w B A n c l) (hl : By l) (hB : B ≤ w.heap.size) (hn : n ≤ 140737488355328) (h1 : nu 1 (l, 0) = (v, (l1, e1))) (h2 : restRd v (l1, e1) = (o, (l', e'))) (hi : isK v = true) (hz : e' = 0) (hp : ¬ 0 < l'.length) (hk : checkO o = 2) : Calls Tryz.prog 164 #[.slice A n c] w (OrdRet noOrd 4 w) := by
 have H1 := Kp.mk h1
 have H2 := Kp.mk h2
 have HI := Kp.mk hi
 clear h1 h2 hi
 have HZ := Kp.mk hz
 have hne : (e' != 0) = false := by rw [hz]; rfl
 have hE : endR l' e' = 0 := by rw [hz]; unfold endR; rw [if_neg hp]
 clear hz hp
 have HC := Kp.mk hk
 clear hk
 have hbz := below_alloc w (.cells #[.int .i64 0, .int .i64 0, .int .i64 0, .int .i64 0, .int .i64 0, .int .i64 0, .int .i64 0, .int .i64 0, .int .i64 0, .int .u8 0, .int .u8 0, .int .u8 0, .int .u8 0, .int .u8 0, .int .u8 0, .slice none 0 0, .int .i64 0, .int .i64 0, .int .i64 0, .int .i64 0, .int .i64 0] 51)
 have hvz : Vb 51 (w.alloc (.cells #[.int .i64 0, .int .i64 0, .int .i64 0, .int .i64 0, .int .i64 0, .int .i64 0, .int .i64 0, .int .i64 0, .int .i64 0, .int .u8 0, .int .u8 0, .int .u8 0, .int .u8 0, .int .u8 0, .int .u8 0, .slice none 0 0, .int .i64 0, .int .i64 0, .int .i64 0, .int .i64 0, .int .i64 0] 51)) w.heap.size (ocl noOrd (.slice none 0 0)) := Vb.new 51 w (ocl noOrd (.slice none 0 0))
 have hrz := hr.below' hbz hB
 have hzz : w.heap.size < (w.alloc (.cells #[.int .i64 0, .int .i64 0, .int .i64 0, .int .i64 0, .int .i64 0, .int .i64 0, .int .i64 0, .int .i64 0, .int .i64 0, .int .u8 0, .int .u8 0, .int .u8 0, .int .u8 0, .int .u8 0, .int .u8 0, .slice none 0 0, .int .i64 0, .int .i64 0, .int .i64 0, .int .i64 0, .int .i64 0] 51)).heap.size := by simp
 go_enter Tryz.func164, Tryz.ntmps164
 go_upto_region 1 with fail
 generalize w.alloc (.cells #[.int .i64 0, .int .i64 0, .int .i64 0, .int .i64 0, .int .i64 0, .int .i64 0, .int .i64 0, .int .i64 0, .int .i64 0, .int .u8 0, .int .u8 0, .int .u8 0, .int .u8 0, .int .u8 0, .int .u8 0, .slice none 0 0, .int .i64 0, .int .i64 0, .int .i64 0, .int .i64 0, .int .i64 0] 51) = w0 at *
 go_wp2_with fail
 refine (read_any hrz hl (by omega) hn).mono ?_
 rintro en w1 ⟨g, rfl, hR1, hb1⟩
 have hlo : w0.heap.size ≤ g := by obtain ⟨_, _, _, _, hlo, _⟩ := hR1; exact hlo
 have hv1 := hvz.below hb1 (by omega)
 have hgl := hR1.lt
 have hT1 := hbz.trans (hb1.mono (by omega))
 have hz1 := hb1.size
 clear hvz hrz hb1 hbz
 go_wp2_with fail
 refine (num_eq 1 hR1 H1.out).mono ?_
 rintro en w2 ⟨rfl, hR2, hg2⟩
 have hv2 := hv1.grown hg2 (by omega)
 have hz2 := hg2.size
 have hT2 := below_grown (B := w.heap.size) hT1 hg2 (by omega) (by omega)
 clear hv1 hR1 hg2 hT1
 go_upto_region 3 with (refine wpList_store_new (vs := ocl (kOrd v) (.slice none 0 0)) rfl (.tmp 5) (.tmp 13) rfl rfl rfl rfl rfl rfl agg_own rfl ?_; intro w3 hx3 hb3 hz3)
 have hv3 := hv2.below hb3 (by omega)
 have hR3 := hR2.below hb3
 have hT3 := hT2.trans (hb3.mono (by omega))
 have hz3' : w2.heap.size < w3.heap.size := by omega
 have hgh : g < w2.heap.size := by omega
 generalize w2.heap.size = ho at *
 clear hz3 hv2 hR2 hb3 hT2
 go_wp2_with fail
 refine (partsOf_any ho w3 v hx3.ord.1).mono ?_
 rintro en w4 ⟨Q, m, rfl, hN4, hb4⟩
 have hz4 := hb4.size
 have hx4 := hx3.below hb4 (by omega)
 have hv4 := hv3.below hb4 (by omega)
 have hR4 := hR3.below hb4
 have hT4 := hT3.trans (hb4.mono (by omega))
 simp only [HI.out]
 clear hx3 hv3 hR3 hb4 hT3
 have hbp := below_alloc w4 (.cells #[.slice Q m m, .pointer (ruP v ho), .pointer (prP v ho)] 211)
 have hp5 := Vb.new 211 w4 [.slice Q m m, .pointer (ruP v ho), .pointer (prP v ho)]
 have hx5 := hx4.below hbp (by omega)
 have hv5 := hv4.below hbp (by omega)
 have hR5 := hR4.below hbp
 have hN5 := (hN4.below hbp).lower (lo' := ho + 1) (by omega)
 have hT5 := hT4.trans (hbp.mono (by omega))
 have hz5 : w4.heap.size < (w4.alloc (.cells #[.slice Q m m, .pointer (ruP v ho), .pointer (prP v ho)] 211)).heap.size := by simp
 go_upto_region 4 with fail
 generalize w4.alloc (.cells #[.slice Q m m, .pointer (ruP v ho), .pointer (prP v ho)] 211) = w5 at *
 clear hx4 hv4 hR4 hbp hT4 hN4
 obtain ⟨f0, f1, f2⟩ := hp5.c3
 go_wp2_with fail
 refine (readP_any hR5 hx5 hgh hN5 (by omega) H2.out).mono ?_
 rintro en w6 ⟨rfl, hT6, hR6, S6, n6, c6, hx6, hr6⟩
 have hv6 := hT6.vb hv5 (by omega) (by omega)
 have hz6 := hT6.2.2.2.1
 have hTT := hT5.trans (hT6.below (by omega) (by omega) (by omega))
 have hr6 := hr6.lower (lo' := w.heap.size + 1) (by omega)
 clear f0 f1 f2 hx5 hv5 hR5 hT5 hT6 hN5 hp5
 go_wp2_with fail
 refine (errM_any hR6).mono ?_
 rintro en wq ⟨rfl, rfl⟩
 go_wp2_with fail
 refine (endM_any hR6).mono ?_
 rintro en wq ⟨rfl, rfl⟩
 simp only [hE]
 go_wp2_with (refine wpList_load_want (vs := ocl o (.slice S6 n6 c6)) (by rfl) (.tmp 5) rfl rfl hx6 rfl agg_own ?_)
 refine (orderCheck_any o hr6.ro (Nat.le_refl _)).mono ?_
 rw [HC.out]
 rintro en w8 ⟨rfl, hb8⟩
 have hv6 := hv6.below hb8 (by omega)
 have hx8 := hx6.below hb8 (by omega)
 have hr8 := hr6.below hb8
 have hTT := hTT.trans (hb8.mono (by omega))
 have hz8 := hb8.size
 go_wp2_with (refine wpList_store_vb (vs := (ocl noOrd (.slice none 0 0))) rfl (.tmp 2) (.tmp 36) rfl rfl rfl hv6 rfl agg_order rfl ?_; intro w9 hv9 hg9 hz9)
 refine bodyPost_ret (results_pair Tryz.results164 _ rfl hv9 agg_order) rfl ?_
 exact ⟨none, 0, 0, rfl, Ron.nil _ _, (hTT.grown hg9 (by omega) (fun k e => by simp at e; omega))⟩
theorem ps_k_ok {w : World} {B n c : Nat} {A : Option Addr} {l l1 l' : List Int} {v e1 e' : Int} {o : OrdV} (hr : Rd .u8 w B A n c l) (hl : By l) (hB : B ≤ w.heap.size) (hn : n ≤ 140737488355328) (h1 : nu 1 (l, 0) = (v, (l1, e1))) (h2 : restRd v (l1, e1) = (o, (l', e'))) (hi : isK v = true) (hz : e' = 0) (hp : ¬ 0 < l'.length) (hk : checkO o = 0) : Calls Tryz.prog 164 #[.slice A n c] w (OrdRet o 0 w) := by
 have H1 := Kp.mk h1
 have H2 := Kp.mk h2
 have HI := Kp.mk hi
 clear h1 h2 hi
 have HZ := Kp.mk hz
 have hne : (e' != 0) = false := by rw [hz]; rfl
 have hE : endR l' e' = 0 := by rw [hz]; unfold endR; rw [if_neg hp]
 clear hz hp
 have HC := Kp.mk hk
 clear hk
 have hbz := below_alloc w (.cells #[.int .i64 0, .int .i64 0, .int .i64 0, .int .i64 0, .int .i64 0, .int .i64 0, .int .i64 0, .int .i64 0, .int .i64 0, .int .u8 0, .int .u8 0, .int .u8 0, .int .u8 0, .int .u8 0, .int .u8 0, .slice none 0 0, .int .i64 0, .int .i64 0, .int .i64 0, .int .i64 0, .int .i64 0] 51)
 have hvz : Vb 51 (w.alloc (.cells #[.int .i64 0, .int .i64 0, .int .i64 0, .int .i64 0, .int .i64 0, .int .i64 0, .int .i64 0, .int .i64 0, .int .i64 0, .int .u8 0, .int .u8 0, .int .u8 0, .int .u8 0, .int .u8 0, .int .u8 0, .slice none 0 0, .int .i64 0, .int .i64 0, .int .i64 0, .int .i64 0, .int .i64 0] 51)) w.heap.size (ocl noOrd (.slice none 0 0)) := Vb.new 51 w (ocl noOrd (.slice none 0 0))
 have hrz := hr.below' hbz hB
 have hzz : w.heap.size < (w.alloc (.cells #[.int .i64 0, .int .i64 0, .int .i64 0, .int .i64 0, .int .i64 0, .int .i64 0, .int .i64 0, .int .i64 0, .int .i64 0, .int .u8 0, .int .u8 0, .int .u8 0, .int .u8 0, .int .u8 0, .int .u8 0, .slice none 0 0, .int .i64 0, .int .i64 0, .int .i64 0, .int .i64 0, .int .i64 0] 51)).heap.size := by simp
 go_enter Tryz.func164, Tryz.ntmps164
 go_upto_region 1 with fail
 generalize w.alloc (.cells #[.int .i64 0, .int .i64 0, .int .i64 0, .int .i64 0, .int .i64 0, .int .i64 0, .int .i64 0, .int .i64 0, .int .i64 0, .int .u8 0, .int .u8 0, .int .u8 0, .int .u8 0, .int .u8 0, .int .u8 0, .slice none 0 0, .int .i64 0, .int .i64 0, .int .i64 0, .int .i64 0, .int .i64 0] 51) = w0 at *
 go_wp2_with fail
 refine (read_any hrz hl (by omega) hn).mono ?_
 rintro en w1 ⟨g, rfl, hR1, hb1⟩
 have hlo : w0.heap.size ≤ g := by obtain ⟨_, _, _, _, hlo, _⟩ := hR1; exact hlo
 have hv1 := hvz.below hb1 (by omega)
 have hgl := hR1.lt
 have hT1 := hbz.trans (hb1.mono (by omega))
 have hz1 := hb1.size
 clear hvz hrz hb1 hbz
 go_wp2_with fail
 refine (num_eq 1 hR1 H1.out).mono ?_
 rintro en w2 ⟨rfl, hR2, hg2⟩
 have hv2 := hv1.grown hg2 (by omega)
 have hz2 := hg2.size
 have hT2 := below_grown (B := w.heap.size) hT1 hg2 (by omega) (by omega)
 clear hv1 hR1 hg2 hT1
 go_upto_region 3 with (refine wpList_store_new (vs := ocl (kOrd v) (.slice none 0 0)) rfl (.tmp 5) (.tmp 13) rfl rfl rfl rfl rfl rfl agg_own rfl ?_; intro w3 hx3 hb3 hz3)
 have hv3 := hv2.below hb3 (by omega)
 have hR3 := hR2.below hb3
 have hT3 := hT2.trans (hb3.mono (by omega))
 have hz3' : w2.heap.size < w3.heap.size := by omega
 have hgh : g < w2.heap.size := by omega
 generalize w2.heap.size = ho at *
 clear hz3 hv2 hR2 hb3 hT2
 go_wp2_with fail
 refine (partsOf_any ho w3 v hx3.ord.1).mono ?_
 rintro en w4 ⟨Q, m, rfl, hN4, hb4⟩
 have hz4 := hb4.size
 have hx4 := hx3.below hb4 (by omega)
 have hv4 := hv3.below hb4 (by omega)
 have hR4 := hR3.below hb4
 have hT4 := hT3.trans (hb4.mono (by omega))
 simp only [HI.out]
 clear hx3 hv3 hR3 hb4 hT3
 have hbp := below_alloc w4 (.cells #[.slice Q m m, .pointer (ruP v ho), .pointer (prP v ho)] 211)
 have hp5 := Vb.new 211 w4 [.slice Q m m, .pointer (ruP v ho), .pointer (prP v ho)]
 have hx5 := hx4.below hbp (by omega)
 have hv5 := hv4.below hbp (by omega)
 have hR5 := hR4.below hbp
 have hN5 := (hN4.below hbp).lower (lo' := ho + 1) (by omega)
 have hT5 := hT4.trans (hbp.mono (by omega))
 have hz5 : w4.heap.size < (w4.alloc (.cells #[.slice Q m m, .pointer (ruP v ho), .pointer (prP v ho)] 211)).heap.size := by simp
 go_upto_region 4 with fail
 generalize w4.alloc (.cells #[.slice Q m m, .pointer (ruP v ho), .pointer (prP v ho)] 211) = w5 at *
 clear hx4 hv4 hR4 hbp hT4 hN4
 obtain ⟨f0, f1, f2⟩ := hp5.c3
 go_wp2_with fail
 refine (readP_any hR5 hx5 hgh hN5 (by omega) H2.out).mono ?_
 rintro en w6 ⟨rfl, hT6, hR6, S6, n6, c6, hx6, hr6⟩
 have hv6 := hT6.vb hv5 (by omega) (by omega)
 have hz6 := hT6.2.2.2.1
 have hTT := hT5.trans (hT6.below (by omega) (by omega) (by omega))
 have hr6 := hr6.lower (lo' := w.heap.size + 1) (by omega)
 clear f0 f1 f2 hx5 hv5 hR5 hT5 hT6 hN5 hp5
 go_wp2_with fail
 refine (errM_any hR6).mono ?_
 rintro en wq ⟨rfl, rfl⟩
 go_wp2_with fail
 refine (endM_any hR6).mono ?_
 rintro en wq ⟨rfl, rfl⟩
 simp only [hE]
 go_wp2_with (refine wpList_load_want (vs := ocl o (.slice S6 n6 c6)) (by rfl) (.tmp 5) rfl rfl hx6 rfl agg_own ?_)
 refine (orderCheck_any o hr6.ro (Nat.le_refl _)).mono ?_
 rw [HC.out]
 rintro en w8 ⟨rfl, hb8⟩
 have hv6 := hv6.below hb8 (by omega)
 have hx8 := hx6.below hb8 (by omega)
 have hr8 := hr6.below hb8
 have hTT := hTT.trans (hb8.mono (by omega))
 have hz8 := hb8.size
 go_wp2_with (first | (refine wpList_load_vb (vs := ocl o (.slice S6 n6 c6)) rfl (.tmp 5) rfl rfl hx8 rfl agg_own ?_) | (refine wpList_store_vb (vs := ocl o (.slice S6 n6 c6)) rfl (.tmp 2) (.tmp 37) rfl rfl rfl hv6 rfl agg_order rfl ?_; intro w9 hv9 hg9 hz9))
 refine bodyPost_ret (results_pair Tryz.results164 _ rfl hv9 agg_order) rfl ?_
 exact ⟨S6, n6, c6, rfl, (hr8.grown hg9 (by omega)).lower (by omega), (hTT.grown hg9 (by omega) (fun k e => by simp at e; omega))⟩
theorem ps_n_err {w : World} {B n c : Nat} {A : Option Addr} {l l1 l' : List Int} {v e1 e' : Int} {o : OrdV} (hr : Rd .u8 w B A n c l) (hl : By l) (hB : B ≤ w.heap.size) (hn : n ≤ 140737488355328) (h1 : nu 1 (l, 0) = (v, (l1, e1))) (h2 : restRd v (l1, e1) = (o, (l', e'))) (hi : isK v = false) (hz : e' ≠ 0) : Calls Tryz.prog 164 #[.slice A n c] w (OrdRet noOrd e' w) := by
 have H1 := Kp.mk h1
 have H2 := Kp.mk h2
 have HI := Kp.mk hi
 have HO := Kp.mk (show o = kOrd v ∧ l1 = l' ∧ e1 = e' by have hv := isK_false hi; rw [restRd_no (by omega)] at h2; simp only [rt, Prod.mk.injEq] at h2; exact ⟨h2.1.symm, h2.2.1, h2.2.2⟩)
 clear h1 h2 hi
 have hne : (e' != 0) = true := by rw [bne, beq_eq_false_iff_ne.2 hz]; rfl
 clear hz
 have hbz := below_alloc w (.cells #[.int .i64 0, .int .i64 0, .int .i64 0, .int .i64 0, .int .i64 0, .int .i64 0, .int .i64 0, .int .i64 0, .int .i64 0, .int .u8 0, .int .u8 0, .int .u8 0, .int .u8 0, .int .u8 0, .int .u8 0, .slice none 0 0, .int .i64 0, .int .i64 0, .int .i64 0, .int .i64 0, .int .i64 0] 51)
 have hvz : Vb 51 (w.alloc (.cells #[.int .i64 0, .int .i64 0, .int .i64 0, .int .i64 0, .int .i64 0, .int .i64 0, .int .i64 0, .int .i64 0, .int .i64 0, .int .u8 0, .int .u8 0, .int .u8 0, .int .u8 0, .int .u8 0, .int .u8 0, .slice none 0 0, .int .i64 0, .int .i64 0, .int .i64 0, .int .i64 0, .int .i64 0] 51)) w.heap.size (ocl noOrd (.slice none 0 0)) := Vb.new 51 w (ocl noOrd (.slice none 0 0))
 have hrz := hr.below' hbz hB
 have hzz : w.heap.size < (w.alloc (.cells #[.int .i64 0, .int .i64 0, .int .i64 0, .int .i64 0, .int .i64 0, .int .i64 0, .int .i64 0, .int .i64 0, .int .i64 0, .int .u8 0, .int .u8 0, .int .u8 0, .int .u8 0, .int .u8 0, .int .u8 0, .slice none 0 0, .int .i64 0, .int .i64 0, .int .i64 0, .int .i64 0, .int .i64 0] 51)).heap.size := by simp
 go_enter Tryz.func164, Tryz.ntmps164
 go_upto_region 1 with fail
 generalize w.alloc (.cells #[.int .i64 0, .int .i64 0, .int .i64 0, .int .i64 0, .int .i64 0, .int .i64 0, .int .i64 0, .int .i64 0, .int .i64 0, .int .u8 0, .int .u8 0, .int .u8 0, .int .u8 0, .int .u8 0, .int .u8 0, .slice none 0 0, .int .i64 0, .int .i64 0, .int .i64 0, .int .i64 0, .int .i64 0] 51) = w0 at *
 go_wp2_with fail
 refine (read_any hrz hl (by omega) hn).mono ?_
 rintro en w1 ⟨g, rfl, hR1, hb1⟩
 have hlo : w0.heap.size ≤ g := by obtain ⟨_, _, _, _, hlo, _⟩ := hR1; exact hlo
 have hv1 := hvz.below hb1 (by omega)
 have hgl := hR1.lt
 have hT1 := hbz.trans (hb1.mono (by omega))
 have hz1 := hb1.size
 clear hvz hrz hb1 hbz
 go_wp2_with fail
 refine (num_eq 1 hR1 H1.out).mono ?_
 rintro en w2 ⟨rfl, hR2, hg2⟩
 have hv2 := hv1.grown hg2 (by omega)
 have hz2 := hg2.size
 have hT2 := below_grown (B := w.heap.size) hT1 hg2 (by omega) (by omega)
 clear hv1 hR1 hg2 hT1
 go_upto_region 3 with (refine wpList_store_new (vs := ocl (kOrd v) (.slice none 0 0)) rfl (.tmp 5) (.tmp 13) rfl rfl rfl rfl rfl rfl agg_own rfl ?_; intro w3 hx3 hb3 hz3)
 have hv3 := hv2.below hb3 (by omega)
 have hR3 := hR2.below hb3
 have hT3 := hT2.trans (hb3.mono (by omega))
 have hz3' : w2.heap.size < w3.heap.size := by omega
 have hgh : g < w2.heap.size := by omega
 generalize w2.heap.size = ho at *
 clear hz3 hv2 hR2 hb3 hT2
 go_wp2_with fail
 refine (partsOf_any ho w3 v hx3.ord.1).mono ?_
 rintro en w4 ⟨Q, m, rfl, hN4, hb4⟩
 have hz4 := hb4.size
 have hx4 := hx3.below hb4 (by omega)
 have hv4 := hv3.below hb4 (by omega)
 have hR4 := hR3.below hb4
 have hT4 := hT3.trans (hb4.mono (by omega))
 simp only [HI.out]
 clear hx3 hv3 hR3 hb4 hT3
 have hbp := below_alloc w4 (.cells #[.slice Q m m, .pointer (ruP v ho), .pointer (prP v ho)] 211)
 have hp5 := Vb.new 211 w4 [.slice Q m m, .pointer (ruP v ho), .pointer (prP v ho)]
 have hx5 := hx4.below hbp (by omega)
 have hv5 := hv4.below hbp (by omega)
 have hR5 := hR4.below hbp
 have hN5 := (hN4.below hbp).lower (lo' := ho + 1) (by omega)
 have hT5 := hT4.trans (hbp.mono (by omega))
 have hz5 : w4.heap.size < (w4.alloc (.cells #[.slice Q m m, .pointer (ruP v ho), .pointer (prP v ho)] 211)).heap.size := by simp
 go_upto_region 4 with fail
 generalize w4.alloc (.cells #[.slice Q m m, .pointer (ruP v ho), .pointer (prP v ho)] 211) = w5 at *
 clear hx4 hv4 hR4 hbp hT4 hN4
 have hR6 : Rdr 274 w5 w0.heap.size g l' e' := by rw [← HO.out.2.1, ← HO.out.2.2]; exact hR5
 have hx6 : Vb 206 w5 ho (ocl o (.slice none 0 0)) := by rw [HO.out.1]; exact hx5
 have hr6 : Ron w5 (w.heap.size + 1) none 0 0 o.r.os := by rw [HO.out.1]; exact Ron.nil _ _
 have hv6 := hv5
 have hTT := hT5
 have hz6 : w5.heap.size ≤ w5.heap.size := Nat.le_refl _
 clear hx5 hv5 hR5 hT5 hN5 hp5
 skip
 go_wp2_with fail
 refine (errM_any hR6).mono ?_
 rintro en wq ⟨rfl, rfl⟩
 go_wp2_with (refine wpList_store_vb (vs := (ocl noOrd (.slice none 0 0))) rfl (.tmp 2) (.tmp 26) rfl rfl rfl hv6 rfl agg_order rfl ?_; intro w9 hv9 hg9 hz9)
 refine bodyPost_ret (results_pair Tryz.results164 _ rfl hv9 agg_order) rfl ?_
 exact ⟨none, 0, 0, rfl, Ron.nil _ _, (hTT.grown hg9 (by omega) (fun k e => by simp at e; omega))⟩
theorem ps_n_end {w : World} {B n c : Nat} {A : Option Addr} {l l1 l' : List Int} {v e1 e' : Int} {o : OrdV} (hr : Rd .u8 w B A n c l) (hl : By l) (hB : B ≤ w.heap.size) (hn : n ≤ 140737488355328) (h1 : nu 1 (l, 0) = (v, (l1, e1))) (h2 : restRd v (l1, e1) = (o, (l', e'))) (hi : isK v = false) (hz : e' = 0) (hp : 0 < l'.length) : Calls Tryz.prog 164 #[.slice A n c] w (OrdRet noOrd 4 w) := by
 have H1 := Kp.mk h1
 have H2 := Kp.mk h2
 have HI := Kp.mk hi
 have HO := Kp.mk (show o = kOrd v ∧ l1 = l' ∧ e1 = e' by have hv := isK_false hi; rw [restRd_no (by omega)] at h2; simp only [rt, Prod.mk.injEq] at h2; exact ⟨h2.1.symm, h2.2.1, h2.2.2⟩)
 clear h1 h2 hi
 have HZ := Kp.mk hz
 have hne : (e' != 0) = false := by rw [hz]; rfl
 have hE : endR l' e' = 4 := by unfold endR; rw [if_pos hp]
 clear hz hp
 have hbz := below_alloc w (.cells #[.int .i64 0, .int .i64 0, .int .i64 0, .int .i64 0, .int .i64 0, .int .i64 0, .int .i64 0, .int .i64 0, .int .i64 0, .int .u8 0, .int .u8 0, .int .u8 0, .int .u8 0, .int .u8 0, .int .u8 0, .slice none 0 0, .int .i64 0, .int .i64 0, .int .i64 0, .int .i64 0, .int .i64 0] 51)
 have hvz : Vb 51 (w.alloc (.cells #[.int .i64 0, .int .i64 0, .int .i64 0, .int .i64 0, .int .i64 0, .int .i64 0, .int .i64 0, .int .i64 0, .int .i64 0, .int .u8 0, .int .u8 0, .int .u8 0, .int .u8 0, .int .u8 0, .int .u8 0, .slice none 0 0, .int .i64 0, .int .i64 0, .int .i64 0, .int .i64 0, .int .i64 0] 51)) w.heap.size (ocl noOrd (.slice none 0 0)) := Vb.new 51 w (ocl noOrd (.slice none 0 0))
 have hrz := hr.below' hbz hB
 have hzz : w.heap.size < (w.alloc (.cells #[.int .i64 0, .int .i64 0, .int .i64 0, .int .i64 0, .int .i64 0, .int .i64 0, .int .i64 0, .int .i64 0, .int .i64 0, .int .u8 0, .int .u8 0, .int .u8 0, .int .u8 0, .int .u8 0, .int .u8 0, .slice none 0 0, .int .i64 0, .int .i64 0, .int .i64 0, .int .i64 0, .int .i64 0] 51)).heap.size := by simp
 go_enter Tryz.func164, Tryz.ntmps164
 go_upto_region 1 with fail
 generalize w.alloc (.cells #[.int .i64 0, .int .i64 0, .int .i64 0, .int .i64 0, .int .i64 0, .int .i64 0, .int .i64 0, .int .i64 0, .int .i64 0, .int .u8 0, .int .u8 0, .int .u8 0, .int .u8 0, .int .u8 0, .int .u8 0, .slice none 0 0, .int .i64 0, .int .i64 0, .int .i64 0, .int .i64 0, .int .i64 0] 51) = w0 at *
 go_wp2_with fail
 refine (read_any hrz hl (by omega) hn).mono ?_
 rintro en w1 ⟨g, rfl, hR1, hb1⟩
 have hlo : w0.heap.size ≤ g := by obtain ⟨_, _, _, _, hlo, _⟩ := hR1; exact hlo
 have hv1 := hvz.below hb1 (by omega)
 have hgl := hR1.lt
 have hT1 := hbz.trans (hb1.mono (by omega))
 have hz1 := hb1.size
 clear hvz hrz hb1 hbz
 go_wp2_with fail
 refine (num_eq 1 hR1 H1.out).mono ?_
 rintro en w2 ⟨rfl, hR2, hg2⟩
 have hv2 := hv1.grown hg2 (by omega)
 have hz2 := hg2.size
 have hT2 := below_grown (B := w.heap.size) hT1 hg2 (by omega) (by omega)
 clear hv1 hR1 hg2 hT1
 go_upto_region 3 with (refine wpList_store_new (vs := ocl (kOrd v) (.slice none 0 0)) rfl (.tmp 5) (.tmp 13) rfl rfl rfl rfl rfl rfl agg_own rfl ?_; intro w3 hx3 hb3 hz3)
 have hv3 := hv2.below hb3 (by omega)
 have hR3 := hR2.below hb3
 have hT3 := hT2.trans (hb3.mono (by omega))
 have hz3' : w2.heap.size < w3.heap.size := by omega
 have hgh : g < w2.heap.size := by omega
 generalize w2.heap.size = ho at *
 clear hz3 hv2 hR2 hb3 hT2
 go_wp2_with fail
 refine (partsOf_any ho w3 v hx3.ord.1).mono ?_
 rintro en w4 ⟨Q, m, rfl, hN4, hb4⟩
 have hz4 := hb4.size
 have hx4 := hx3.below hb4 (by omega)
 have hv4 := hv3.below hb4 (by omega)
 have hR4 := hR3.below hb4
 have hT4 := hT3.trans (hb4.mono (by omega))
 simp only [HI.out]
 clear hx3 hv3 hR3 hb4 hT3
 have hbp := below_alloc w4 (.cells #[.slice Q m m, .pointer (ruP v ho), .pointer (prP v ho)] 211)
 have hp5 := Vb.new 211 w4 [.slice Q m m, .pointer (ruP v ho), .pointer (prP v ho)]
 have hx5 := hx4.below hbp (by omega)
 have hv5 := hv4.below hbp (by omega)
 have hR5 := hR4.below hbp
 have hN5 := (hN4.below hbp).lower (lo' := ho + 1) (by omega)
 have hT5 := hT4.trans (hbp.mono (by omega))
 have hz5 : w4.heap.size < (w4.alloc (.cells #[.slice Q m m, .pointer (ruP v ho), .pointer (prP v ho)] 211)).heap.size := by simp
 go_upto_region 4 with fail
 generalize w4.alloc (.cells #[.slice Q m m, .pointer (ruP v ho), .pointer (prP v ho)] 211) = w5 at *
 clear hx4 hv4 hR4 hbp hT4 hN4
 have hR6 : Rdr 274 w5 w0.heap.size g l' e' := by rw [← HO.out.2.1, ← HO.out.2.2]; exact hR5
 have hx6 : Vb 206 w5 ho (ocl o (.slice none 0 0)) := by rw [HO.out.1]; exact hx5
 have hr6 : Ron w5 (w.heap.size + 1) none 0 0 o.r.os := by rw [HO.out.1]; exact Ron.nil _ _
 have hv6 := hv5
 have hTT := hT5
 have hz6 : w5.heap.size ≤ w5.heap.size := Nat.le_refl _
 clear hx5 hv5 hR5 hT5 hN5 hp5
 skip
 go_wp2_with fail
 refine (errM_any hR6).mono ?_
 rintro en wq ⟨rfl, rfl⟩
 go_wp2_with fail
 refine (endM_any hR6).mono ?_
 rintro en wq ⟨rfl, rfl⟩
 simp only [hE]
 go_wp2_with (refine wpList_store_vb (vs := (ocl noOrd (.slice none 0 0))) rfl (.tmp 2) (.tmp 36) rfl rfl rfl hv6 rfl agg_order rfl ?_; intro w9 hv9 hg9 hz9)
 refine bodyPost_ret (results_pair Tryz.results164 _ rfl hv9 agg_order) rfl ?_
 exact ⟨none, 0, 0, rfl, Ron.nil _ _, (hTT.grown hg9 (by omega) (fun k e => by simp at e; omega))⟩
theorem ps_n_chk {w : World} {B n c : Nat} {A : Option Addr} {l l1 l' : List Int} {v e1 e' : Int} {o : OrdV} (hr : Rd .u8 w B A n c l) (hl : By l) (hB : B ≤ w.heap.size) (hn : n ≤ 140737488355328) (h1 : nu 1 (l, 0) = (v, (l1, e1))) (h2 : restRd v (l1, e1) = (o, (l', e'))) (hi : isK v = false) (hz : e' = 0) (hp : ¬ 0 < l'.length) (hk : checkO o = 2) : Calls Tryz.prog 164 #[.slice A n c] w (OrdRet noOrd 4 w) := by
 have H1 := Kp.mk h1
 have H2 := Kp.mk h2
 have HI := Kp.mk hi
 have HO := Kp.mk (show o = kOrd v ∧ l1 = l' ∧ e1 = e' by have hv := isK_false hi; rw [restRd_no (by omega)] at h2; simp only [rt, Prod.mk.injEq] at h2; exact ⟨h2.1.symm, h2.2.1, h2.2.2⟩)
 clear h1 h2 hi
 have HZ := Kp.mk hz
 have hne : (e' != 0) = false := by rw [hz]; rfl
 have hE : endR l' e' = 0 := by rw [hz]; unfold endR; rw [if_neg hp]
 clear hz hp
 have HC := Kp.mk hk
 clear hk
 have hbz := below_alloc w (.cells #[.int .i64 0, .int .i64 0, .int .i64 0, .int .i64 0, .int .i64 0, .int .i64 0, .int .i64 0, .int .i64 0, .int .i64 0, .int .u8 0, .int .u8 0, .int .u8 0, .int .u8 0, .int .u8 0, .int .u8 0, .slice none 0 0, .int .i64 0, .int .i64 0, .int .i64 0, .int .i64 0, .int .i64 0] 51)
 have hvz : Vb 51 (w.alloc (.cells #[.int .i64 0, .int .i64 0, .int .i64 0, .int .i64 0, .int .i64 0, .int .i64 0, .int .i64 0, .int .i64 0, .int .i64 0, .int .u8 0, .int .u8 0, .int .u8 0, .int .u8 0, .int .u8 0, .int .u8 0, .slice none 0 0, .int .i64 0, .int .i64 0, .int .i64 0, .int .i64 0, .int .i64 0] 51)) w.heap.size (ocl noOrd (.slice none 0 0)) := Vb.new 51 w (ocl noOrd (.slice none 0 0))
 have hrz := hr.below' hbz hB
 have hzz : w.heap.size < (w.alloc (.cells #[.int .i64 0, .int .i64 0, .int .i64 0, .int .i64 0, .int .i64 0, .int .i64 0, .int .i64 0, .int .i64 0, .int .i64 0, .int .u8 0, .int .u8 0, .int .u8 0, .int .u8 0, .int .u8 0, .int .u8 0, .slice none 0 0, .int .i64 0, .int .i64 0, .int .i64 0, .int .i64 0, .int .i64 0] 51)).heap.size := by simp
 go_enter Tryz.func164, Tryz.ntmps164
 go_upto_region 1 with fail
 generalize w.alloc (.cells #[.int .i64 0, .int .i64 0, .int .i64 0, .int .i64 0, .int .i64 0, .int .i64 0, .int .i64 0, .int .i64 0, .int .i64 0, .int .u8 0, .int .u8 0, .int .u8 0, .int .u8 0, .int .u8 0, .int .u8 0, .slice none 0 0, .int .i64 0, .int .i64 0, .int .i64 0, .int .i64 0, .int .i64 0] 51) = w0 at *
 go_wp2_with fail
 refine (read_any hrz hl (by omega) hn).mono ?_
 rintro en w1 ⟨g, rfl, hR1, hb1⟩
 have hlo : w0.heap.size ≤ g := by obtain ⟨_, _, _, _, hlo, _⟩ := hR1; exact hlo
 have hv1 := hvz.below hb1 (by omega)
 have hgl := hR1.lt
 have hT1 := hbz.trans (hb1.mono (by omega))
 have hz1 := hb1.size
 clear hvz hrz hb1 hbz
 go_wp2_with fail
 refine (num_eq 1 hR1 H1.out).mono ?_
 rintro en w2 ⟨rfl, hR2, hg2⟩
 have hv2 := hv1.grown hg2 (by omega)
 have hz2 := hg2.size
 have hT2 := below_grown (B := w.heap.size) hT1 hg2 (by omega) (by omega)
 clear hv1 hR1 hg2 hT1
 go_upto_region 3 with (refine wpList_store_new (vs := ocl (kOrd v) (.slice none 0 0)) rfl (.tmp 5) (.tmp 13) rfl rfl rfl rfl rfl rfl agg_own rfl ?_; intro w3 hx3 hb3 hz3)
 have hv3 := hv2.below hb3 (by omega)
 have hR3 := hR2.below hb3
 have hT3 := hT2.trans (hb3.mono (by omega))
 have hz3' : w2.heap.size < w3.heap.size := by omega
 have hgh : g < w2.heap.size := by omega
 generalize w2.heap.size = ho at *
 clear hz3 hv2 hR2 hb3 hT2
 go_wp2_with fail
 refine (partsOf_any ho w3 v hx3.ord.1).mono ?_
 rintro en w4 ⟨Q, m, rfl, hN4, hb4⟩
 have hz4 := hb4.size
 have hx4 := hx3.below hb4 (by omega)
 have hv4 := hv3.below hb4 (by omega)
 have hR4 := hR3.below hb4
 have hT4 := hT3.trans (hb4.mono (by omega))
 simp only [HI.out]
 clear hx3 hv3 hR3 hb4 hT3
 have hbp := below_alloc w4 (.cells #[.slice Q m m, .pointer (ruP v ho), .pointer (prP v ho)] 211)
 have hp5 := Vb.new 211 w4 [.slice Q m m, .pointer (ruP v ho), .pointer (prP v ho)]
 have hx5 := hx4.below hbp (by omega)
 have hv5 := hv4.below hbp (by omega)
 have hR5 := hR4.below hbp
 have hN5 := (hN4.below hbp).lower (lo' := ho + 1) (by omega)
 have hT5 := hT4.trans (hbp.mono (by omega))
 have hz5 : w4.heap.size < (w4.alloc (.cells #[.slice Q m m, .pointer (ruP v ho), .pointer (prP v ho)] 211)).heap.size := by simp
 go_upto_region 4 with fail
 generalize w4.alloc (.cells #[.slice Q m m, .pointer (ruP v ho), .pointer (prP v ho)] 211) = w5 at *
 clear hx4 hv4 hR4 hbp hT4 hN4
 have hR6 : Rdr 274 w5 w0.heap.size g l' e' := by rw [← HO.out.2.1, ← HO.out.2.2]; exact hR5
 have hx6 : Vb 206 w5 ho (ocl o (.slice none 0 0)) := by rw [HO.out.1]; exact hx5
 have hr6 : Ron w5 (w.heap.size + 1) none 0 0 o.r.os := by rw [HO.out.1]; exact Ron.nil _ _
 have hv6 := hv5
 have hTT := hT5
 have hz6 : w5.heap.size ≤ w5.heap.size := Nat.le_refl _
 clear hx5 hv5 hR5 hT5 hN5 hp5
 skip
 go_wp2_with fail
 refine (errM_any hR6).mono ?_
 rintro en wq ⟨rfl, rfl⟩
 go_wp2_with fail
 refine (endM_any hR6).mono ?_
 rintro en wq ⟨rfl, rfl⟩
 simp only [hE]
 go_wp2_with (refine wpList_load_want (vs := ocl o (.slice none 0 0)) (by rfl) (.tmp 5) rfl rfl hx6 rfl agg_own ?_)
 refine (orderCheck_any o hr6.ro (Nat.le_refl _)).mono ?_
 rw [HC.out]
 rintro en w8 ⟨rfl, hb8⟩
 have hv6 := hv6.below hb8 (by omega)
 have hx8 := hx6.below hb8 (by omega)
 have hr8 := hr6.below hb8
 have hTT := hTT.trans (hb8.mono (by omega))
 have hz8 := hb8.size
 go_wp2_with (refine wpList_store_vb (vs := (ocl noOrd (.slice none 0 0))) rfl (.tmp 2) (.tmp 36) rfl rfl rfl hv6 rfl agg_order rfl ?_; intro w9 hv9 hg9 hz9)
 refine bodyPost_ret (results_pair Tryz.results164 _ rfl hv9 agg_order) rfl ?_
 exact ⟨none, 0, 0, rfl, Ron.nil _ _, (hTT.grown hg9 (by omega) (fun k e => by simp at e; omega))⟩
theorem orderParse_any {w : World} {B n c : Nat} {A : Option Addr} {l : List Int} (hr : Rd .u8 w B A n c l) (hl : By l) (hB : B ≤ w.heap.size) (hn : n ≤ 140737488355328) : Calls Tryz.prog 164 #[.slice A n c] w (OrdRet (parseO l).1 (parseO l).2 w) := by
 rcases h1 : nu 1 (l, 0) with ⟨v, l1, e1⟩
 rcases h2 : restRd v (l1, e1) with ⟨o, l', e'⟩
 have hq : ordRd (l, 0) = (o, (l', e')) := by unfold ordRd; rw [bnd_eq h1, h2]
 by_cases hz : e' = 0
 ·by_cases hp : 0 < l'.length
  ·have he : parseO l = (noOrd, 4) := parseO_form (by rw [hq, hz]) (fun h => by omega)
   rw [he]
   by_cases hi : isK v = true
   ·exact ps_k_end hr hl hB hn h1 h2 hi hz hp
   ·exact ps_n_end hr hl hB hn h1 h2 (by simpa using hi) hz hp
  ·by_cases hk : okOrd o
   ·have he : parseO l = (o, 0) := parseO_yes (by rw [hq, hz]) ⟨by omega, hk⟩
    rw [he]
    by_cases hi : isK v = true
    ·exact ps_k_ok hr hl hB hn h1 h2 hi hz hp (if_pos hk)
    ·exfalso
     have hko := okNM_k hk.1
     have hv : v < 1 ∨ 9 < v := by
      by_cases hv : 1 ≤ v ∧ v ≤ 9
      ·exact absurd ((isK_iff v).2 hv) hi
      ·omega
     rw [restRd_no (by omega)] at h2
     simp only [rt, Prod.mk.injEq] at h2
     rw [← h2.1] at hko
     simp only at hko
     omega
   ·have he : parseO l = (noOrd, 4) := parseO_form (by rw [hq, hz]) (fun h => hk h.2)
    rw [he]
    by_cases hi : isK v = true
    ·exact ps_k_chk hr hl hB hn h1 h2 hi hz hp (if_neg hk)
    ·exact ps_n_chk hr hl hB hn h1 h2 (by simpa using hi) hz hp (if_neg hk)
 ·have he : parseO l = (noOrd, e') := parseO_err hq hz
  rw [he]
  by_cases hi : isK v = true
  ·exact ps_k_err hr hl hB hn h1 h2 hi hz
  ·exact ps_n_err hr hl hB hn h1 h2 (by simpa using hi) hz
end Go.Proofs.YtnoflfbcgbhipaaGreat.Oct
