/- Contracts of layer 6: the parts are read, the program. -/
import Derived.Test.YteambkehdbffmaaGreatOrdO
import Derived.Test.YteambkehdbffmaaGreatOrdJ
namespace Go.Proofs.YteambkehdbffmaaGreat.Oct
open Go.RowKit
set_option linter.unusedVariables false
set_option linter.unusedSimpArgs false

/-- Nothing but blocks g and h, and new ones, has turned. -/
def Turn2 (g h : Nat) (w w' : World) : Prop := w'.os = w.os ∧ w'.tape = w.tape ∧ w'.output = w.output ∧ w.heap.size ≤ w'.heap.size ∧ ∀ k, k < w.heap.size → k ≠ g → k ≠ h → w'.heap[k]? = w.heap[k]?
section
variable {g h : Nat} {w w1 w2 : World}
theorem Turn2.refl (g h : Nat) (w : World) : Turn2 g h w w := ⟨rfl, rfl, rfl, Nat.le_refl _, fun _ _ _ _ => rfl⟩
theorem Turn2.one (hg : w.grownBy w1 (some g)) : Turn2 g h w w1 := ⟨hg.os, hg.tape, hg.output, hg.size, fun k hk hne _ => hg.block k hk (by simp; omega)⟩
theorem Turn2.two (hg : w.grownBy w1 (some h)) : Turn2 g h w w1 := ⟨hg.os, hg.tape, hg.output, hg.size, fun k hk _ hne => hg.block k hk (by simp; omega)⟩
theorem Turn2.trans (a : Turn2 g h w w1) (b : Turn2 g h w1 w2) : Turn2 g h w w2 := ⟨b.1.trans a.1, b.2.1.trans a.2.1, b.2.2.1.trans a.2.2.1, Nat.le_trans a.2.2.2.1 b.2.2.2.1, fun k hk h1 h2 => (b.2.2.2.2 k (Nat.lt_of_lt_of_le hk a.2.2.2.1) h1 h2).trans (a.2.2.2.2 k hk h1 h2)⟩
theorem Turn2.new (a : Turn2 g h w w1) (hb : Below w1.heap.size w1 w2) : Turn2 g h w w2 := a.trans ⟨hb.os, hb.tape, hb.output, hb.size, fun k hk _ _ => hb.block k hk⟩
theorem Turn2.below {B : Nat} (a : Turn2 g h w w1) (hg : B ≤ g) (hh : B ≤ h) (hw : B ≤ w.heap.size) : Below B w w1 := ⟨a.1, a.2.1, a.2.2.1, a.2.2.2.1, fun k hk => a.2.2.2.2 k (by omega) (by omega) (by omega)⟩
theorem Turn2.cell {b o : Nat} {v : Value} (a : Turn2 g h w w1) (hc : w.cell? ⟨b, o, none⟩ = some v) (h1 : b ≠ g) (h2 : b ≠ h) : w1.cell? ⟨b, o, none⟩ = some v := by
  have hlt := World.block_lt_of_cell? w _ hc
  rw [World.cell?_of_block (w := w) (a := ⟨b, o, none⟩) (a.2.2.2.2 b hlt h1 h2)]
  exact hc
theorem Turn2.vb {T : TypeId} {b : Nat} {cs : List Value} (a : Turn2 g h w w1) (hv : Vb T w b cs) (h1 : b ≠ g) (h2 : b ≠ h) : Vb T w1 b cs := (a.2.2.2.2 b hv.lt h1 h2).trans hv
end
section
variable {T ty : TypeId} {w : World} {g off : Nat} {cs vs : List Value} {o : Oper} {a : Act} {K : Act → World → Prop} {Q : Exit → Act → World → Prop}
theorem op_store_at (x y : Operand) (ho : o.op = .store ty x y) (hx : a.eval x = .pointer (some ⟨g, off, none⟩)) (hy : a.eval y = .agg vs.toArray) (hv : Vb T w g cs) (hl : off + vs.length ≤ cs.length) (ht : Agg ty vs.length)
    (h1 : vs.all (·.oneCell') = true)
    (h : ∀ w', Vb T w' g (setAll cs off vs) → w.grownBy w' (some g) → w'.heap.size = w.heap.size → K (a.put o.dst undef) w') : o.wp Tryz.prog a w K Q := by
  have hst := run_storeCells_vb T g vs 0 off cs w hv (by omega) h1
  have hi : (Tryz.prog.info? ty).map (·.size) = some vs.length := ht.2
  have hrun : (storeVar ty ⟨g, off, none⟩ (.agg vs.toArray)).run Tryz.prog w = .ok () (putC w g off vs) := by
    cases hq : Tryz.prog.info? ty with
    | none => simp [hq] at hi
    | some i =>
      have hs : vs.length = i.size := by simp [hq] at hi; omega
      simp [storeVar, sizeOf, typeInfo, hq, Value.cells, hs, hst]
  unfold Oper.wp execOp
  simp only [ho, hx, hy, Instr.storeAt, Instr.sureAddr, Sem.run_bind, Sem.run_pure, Result.andThen_ok, hrun]
  exact h _ (hv.putC vs off) (putC_grown g vs w off) (putC_size g vs w off)
end
theorem text_eq {w : World} {lo g : Nat} {l l' t : List Int} {e e' : Int} (h : Rdr 102 w lo g l e) (hq : tx (l, e) = (t, (l', e'))) :
    Calls Tryz.prog 80 #[.pointer (some ⟨g, 0, none⟩)] w (SliceRdr 102 w lo g t l' e') := by
  have := textM_any h
  change textR l e = (t, (l', e')) at hq
  rw [hq] at this
  exact this

set_option maxRecDepth 100000 in
set_option maxHeartbeats 1600000 in
theorem rp_none {w : World} {T : TypeId} {lo g ho : Nat} {l l' : List Int} {e e' : Int} {cs : List Value} (A : Option Addr) (hR : Rdr 102 w lo g l e) (hx : Vb T w ho cs) (hgo : g < ho) (he : l = l' ∧ e = e') : Calls Tryz.prog 46 #[.agg #[.slice A 0 0, .pointer none, .pointer none], .pointer (some ⟨g, 0, none⟩)] w (fun en w' => en = .returned (.tuple #[]) ∧ Turn2 g ho w w' ∧ Rdr 102 w' lo g l' e' ∧ Vb T w' ho cs) := by
  obtain ⟨rfl, rfl⟩ := he
  have hb := below_alloc w (.cells #[.slice A 0 0, .pointer none, .pointer none] 65)
  have hR1 := hR.below hb
  have hx1 := hx.below hb hx.lt
  have hT := (Turn2.refl g ho w).new hb
  go_enter Tryz.func46, Tryz.ntmps46
  go_wp2_with fail
  refine wp_loop_rounds (0 + 1) ?_
  rw [rounds_succ]
  go_wp2_with fail
  go_end0
  exact ⟨rfl, hT, hR1, hx1⟩
set_option maxRecDepth 100000 in
set_option maxHeartbeats 1600000 in
theorem rp_rule {w : World} {T : TypeId} {lo g ho : Nat} {l l' : List Int} {e e' : Int} {cs : List Value} (A : Option Addr) (hR : Rdr 102 w lo g l e) (hx : Vb T w ho cs) (hgo : g < ho) {r : RuleV} (hlen : cs.length = 21) (hq : ruleRd (l, e) = (r, (l', e'))) : Calls Tryz.prog 46 #[.agg #[.slice A 0 0, .pointer (some ⟨ho, 3, none⟩), .pointer none], .pointer (some ⟨g, 0, none⟩)] w (fun en w' => en = .returned (.tuple #[]) ∧ Turn2 g ho w w' ∧ Rdr 102 w' lo g l' e' ∧ ∃ S n c, Vb T w' ho (setAll cs 3 (rcl r (.slice S n c))) ∧ Ron w' w.heap.size S n c r.os) := by
  have HQ := Kp.mk hq
  clear hq
  have hlt := hR.lt
  have hxl := hx.lt
  have hb := below_alloc w (.cells #[.slice A 0 0, .pointer (some ⟨ho, 3, none⟩), .pointer none] 65)
  have hR1 := hR.below hb
  have hx1 := hx.below hb hx.lt
  have hT1 := (Turn2.refl g ho w).new hb
  have hv1 := Vb.new 65 w [.slice A 0 0, .pointer (some ⟨ho, 3, none⟩), .pointer none]
  have hz1 : w.heap.size < (w.alloc (.cells #[.slice A 0 0, .pointer (some ⟨ho, 3, none⟩), .pointer none] 65)).heap.size := by simp
  go_enter Tryz.func46, Tryz.ntmps46
  go_wp2_with fail
  refine wp_loop_rounds (0 + 1) ?_
  rw [rounds_succ]
  go_upto_region 7 with fail
  generalize w.alloc (.cells #[.slice A 0 0, .pointer (some ⟨ho, 3, none⟩), .pointer none] 65) = wa at *
  have hS : (fun w' => w'.cell? ⟨w.heap.size, 1, none⟩ = some (.pointer (some ⟨ho, 3, none⟩))) wa.drew := hv1.cell 1 rfl
  refine wp_region_held_drew (S := (fun w' => w'.cell? ⟨w.heap.size, 1, none⟩ = some (.pointer (some ⟨ho, 3, none⟩)))) (by kernel_rfl) hS (fun _ => ?_)
  refine takeD (i := 0) (v := .pointer (some ⟨w.heap.size, 1, none⟩)) (some 24) rfl rfl (by kernel_rfl) (by kernel_rfl) (by kernel_rfl) (fun _ _ _ h => h) (Or.inl ⟨by rfl, ?_⟩) hS ?_
  · rintro w' _
    go_simp
  try simp only [Act.put, List.setIfInBounds_toArray, List.set_cons_zero, List.set_cons_succ]
  refine takeD (i := 1) (v := .pointer (some ⟨ho, 3, none⟩)) (some 25) rfl rfl (by kernel_rfl) (by kernel_rfl) (by kernel_rfl) (fun _ _ _ h => h) (Or.inl ⟨by rfl, ?_⟩) hS ?_
  · rintro w' hbb
    try simp only at hbb
    go_simp
  try simp only [Act.put, List.setIfInBounds_toArray, List.set_cons_zero, List.set_cons_succ]
  refine takeD (i := 2) (v := .pointer (some ⟨g, 0, none⟩)) (some 26) rfl rfl (by kernel_rfl) (by kernel_rfl) (by kernel_rfl) (fun _ _ _ h => h) (Or.inl ⟨by rfl, ?_⟩) hS ?_
  · rintro w' _
    go_simp
  try simp only [Act.put, List.setIfInBounds_toArray, List.set_cons_zero, List.set_cons_succ]
  have hRd : Rdr 102 wa.drew lo g l e := hR1
  have hxd : Vb T wa.drew ho cs := hx1
  have hvd : Vb 65 wa.drew w.heap.size [.slice A 0 0, .pointer (some ⟨ho, 3, none⟩), .pointer none] := hv1
  have hTd : Turn2 g ho w wa.drew := hT1
  have hzd : w.heap.size < wa.drew.heap.size := hz1
  clear hR1 hx1 hv1 hT1
  generalize wa.drew = wd at *
  refine wpAnyH_ready (rs := [3]) (by kernel_rfl) (by simp) ?_
  refine AllReadyH.cons rfl (fun K hK => ?_) AllReadyH.nil
  go_simp
  go_at_call 78
  refine (readRule_any hRd HQ.out).mono ?_
  rintro en w2 ⟨S, n, c, rfl, hr2, hR2, hg2⟩
  have hv2 := hvd.grown hg2 (by omega)
  have hx2 := hxd.grown hg2 (by omega)
  have hT2 := hTd.trans (Turn2.one hg2)
  have hz2 := hg2.size
  refine hK.out _ _ (hv2.cell 1 rfl) (fun hS3 => ?_)
  clear hK K
  try simp only [Act.put, List.setIfInBounds_toArray, List.set_cons_zero, List.set_cons_succ]
  refine takeD (i := 4) (v := .pointer (some ⟨ho, 3, none⟩)) (some 28) rfl rfl (by kernel_rfl) (by kernel_rfl) (by kernel_rfl) (fun _ _ _ h => h) (Or.inl ⟨by rfl, ?_⟩) hS3 ?_
  · rintro w' _
    go_simp
  try simp only [Act.put, List.setIfInBounds_toArray, List.set_cons_zero, List.set_cons_succ]
  refine wpAnyH_ready (rs := [5]) (by kernel_rfl) (by simp) ?_
  refine AllReadyH.cons rfl (fun K hK => ?_) AllReadyH.nil
  refine op_store_at (vs := rcl r (.slice S n c)) (.tmp 28) (.tmp 27) rfl rfl rfl hx2 (by simp [rcl]; omega) agg_rule rfl ?_
  intro w3 hx3 hg3 hz3
  have hv3 := hv2.grown hg3 (by omega)
  refine hK.out _ _ (hv3.cell 1 rfl) (fun hS4 => ?_)
  clear hK K
  try simp only [Act.put, List.setIfInBounds_toArray, List.set_cons_zero, List.set_cons_succ]
  have hT3 := hT2.trans (Turn2.two hg3)
  have hR3 := hR2.keep hg3 (fun k e => by simp at e; omega)
  have hr3 := hr2.grown hg3 (by omega)
  obtain ⟨f0, f1, f2⟩ := hv3.c3
  clear hS hS3 hS4
  refine wpAnyH_done (by kernel_rfl) ?_ _
  go_wp2_with fail
  go_end0
  exact ⟨rfl, hT3, hR3, S, n, c, hx3, hr3.lower (by omega)⟩
set_option maxRecDepth 100000 in
set_option maxHeartbeats 1600000 in
theorem rp_link {w : World} {T : TypeId} {lo g ho : Nat} {l l' : List Int} {e e' : Int} {cs : List Value} (A : Option Addr) (hR : Rdr 102 w lo g l e) (hx : Vb T w ho cs) (hgo : g < ho) {t : List Int} (hlen : cs.length = 21) (hq : tx (l, e) = (t, (l', e'))) : Calls Tryz.prog 46 #[.agg #[.slice A 0 0, .pointer none, .pointer (some ⟨ho, 16, none⟩)], .pointer (some ⟨g, 0, none⟩)] w (fun en w' => en = .returned (.tuple #[]) ∧ Turn2 g ho w w' ∧ Rdr 102 w' lo g l' e' ∧ Vb T w' ho (setAll cs 16 [.int .i64 (parseQ t).1.1, .int .i64 (parseQ t).1.2.1, .int .i64 (parseQ t).1.2.2.1, .int .i64 (parseQ t).1.2.2.2.1, .int .i64 (parseQ t).1.2.2.2.2])) := by
  have HQ := Kp.mk hq
  have hby : By t := by have := textR_by l e hR.by_; change textR l e = _ at hq; rw [hq] at this; exact this
  clear hq
  have hlt := hR.lt
  have hxl := hx.lt
  have hb := below_alloc w (.cells #[.slice A 0 0, .pointer none, .pointer (some ⟨ho, 16, none⟩)] 65)
  have hR1 := hR.below hb
  have hx1 := hx.below hb hx.lt
  have hT1 := (Turn2.refl g ho w).new hb
  have hv1 := Vb.new 65 w [.slice A 0 0, .pointer none, .pointer (some ⟨ho, 16, none⟩)]
  have hz1 : w.heap.size < (w.alloc (.cells #[.slice A 0 0, .pointer none, .pointer (some ⟨ho, 16, none⟩)] 65)).heap.size := by simp
  go_enter Tryz.func46, Tryz.ntmps46
  go_wp2_with fail
  refine wp_loop_rounds (0 + 1) ?_
  rw [rounds_succ]
  go_upto_region 9 with fail
  generalize w.alloc (.cells #[.slice A 0 0, .pointer none, .pointer (some ⟨ho, 16, none⟩)] 65) = wa at *
  have hS : (fun w' => w'.cell? ⟨w.heap.size, 2, none⟩ = some (.pointer (some ⟨ho, 16, none⟩))) wa.drew := hv1.cell 2 rfl
  refine wp_region_held_drew (S := (fun w' => w'.cell? ⟨w.heap.size, 2, none⟩ = some (.pointer (some ⟨ho, 16, none⟩)))) (by kernel_rfl) hS (fun _ => ?_)
  refine takeD (i := 0) (v := .pointer (some ⟨w.heap.size, 2, none⟩)) (some 33) rfl rfl (by kernel_rfl) (by kernel_rfl) (by kernel_rfl) (fun _ _ _ h => h) (Or.inl ⟨by rfl, ?_⟩) hS ?_
  · rintro w' _
    go_simp
  try simp only [Act.put, List.setIfInBounds_toArray, List.set_cons_zero, List.set_cons_succ]
  refine takeD (i := 1) (v := .pointer (some ⟨ho, 16, none⟩)) (some 34) rfl rfl (by kernel_rfl) (by kernel_rfl) (by kernel_rfl) (fun _ _ _ h => h) (Or.inl ⟨by rfl, ?_⟩) hS ?_
  · rintro w' hbb
    try simp only at hbb
    go_simp
  try simp only [Act.put, List.setIfInBounds_toArray, List.set_cons_zero, List.set_cons_succ]
  refine takeD (i := 2) (v := .pointer (some ⟨g, 0, none⟩)) (some 35) rfl rfl (by kernel_rfl) (by kernel_rfl) (by kernel_rfl) (fun _ _ _ h => h) (Or.inl ⟨by rfl, ?_⟩) hS ?_
  · rintro w' _
    go_simp
  try simp only [Act.put, List.setIfInBounds_toArray, List.set_cons_zero, List.set_cons_succ]
  have hRd : Rdr 102 wa.drew lo g l e := hR1
  have hxd : Vb T wa.drew ho cs := hx1
  have hvd : Vb 65 wa.drew w.heap.size [.slice A 0 0, .pointer none, .pointer (some ⟨ho, 16, none⟩)] := hv1
  have hTd : Turn2 g ho w wa.drew := hT1
  have hzd : w.heap.size < wa.drew.heap.size := hz1
  clear hR1 hx1 hv1 hT1
  generalize wa.drew = wd at *
  refine wpAnyH_ready (rs := [3]) (by kernel_rfl) (by simp) ?_
  refine AllReadyH.cons rfl (fun K hK => ?_) AllReadyH.nil
  go_simp
  go_at_call 80
  refine (text_eq hRd HQ.out).mono ?_
  rintro en w2 ⟨S, n, c, rfl, ho2, hR2, hg2⟩
  have hv2 := hvd.grown hg2 (by omega)
  have hx2 := hxd.grown hg2 (by omega)
  have hT2 := hTd.trans (Turn2.one hg2)
  have hz2 := hg2.size
  refine hK.out _ _ (hv2.cell 2 rfl) (fun hS3 => ?_)
  clear hK K
  try simp only [Act.put, List.setIfInBounds_toArray, List.set_cons_zero, List.set_cons_succ]
  refine wpAnyH_ready (rs := [4]) (by kernel_rfl) (by simp) ?_
  refine AllReadyH.cons rfl (fun K hK => ?_) AllReadyH.nil
  go_simp
  go_at_call 79
  refine (parseQ_any ho2.rd hby (Nat.le_refl _)).mono ?_
  rintro en w3 ⟨rfl, hb3⟩
  have hv3 := hv2.below hb3 (by omega)
  have hx3 := hx2.below hb3 (by omega)
  have hT3 := hT2.new hb3
  have hR3 := hR2.below hb3
  have hz3 := hb3.size
  refine hK.out _ _ (hv3.cell 2 rfl) (fun hS4 => ?_)
  clear hK K
  try simp only [Act.put, List.setIfInBounds_toArray, List.set_cons_zero, List.set_cons_succ]
  refine takeD (i := 5) (v := .tuple #[.agg #[.int .i64 (parseQ t).1.1, .int .i64 (parseQ t).1.2.1, .int .i64 (parseQ t).1.2.2.1, .int .i64 (parseQ t).1.2.2.2.1, .int .i64 (parseQ t).1.2.2.2.2], .int .i64 (parseQ t).2]) (some 32) rfl rfl (by kernel_rfl) (by kernel_rfl) (by kernel_rfl) (fun _ _ _ h => h) (Or.inl ⟨by rfl, ?_⟩) hS4 ?_
  · rintro w' _
    go_simp
  try simp only [Act.put, List.setIfInBounds_toArray, List.set_cons_zero, List.set_cons_succ]
  refine takeD (i := 6) (v := .agg #[.int .i64 (parseQ t).1.1, .int .i64 (parseQ t).1.2.1, .int .i64 (parseQ t).1.2.2.1, .int .i64 (parseQ t).1.2.2.2.1, .int .i64 (parseQ t).1.2.2.2.2]) (some 38) rfl rfl (by kernel_rfl) (by kernel_rfl) (by kernel_rfl) (fun _ _ _ h => h) (Or.inl ⟨by rfl, ?_⟩) hS4 ?_
  · rintro w' _
    go_simp
  try simp only [Act.put, List.setIfInBounds_toArray, List.set_cons_zero, List.set_cons_succ]
  refine takeD (i := 7) (v := .int .i64 (parseQ t).2) (some 39) rfl rfl (by kernel_rfl) (by kernel_rfl) (by kernel_rfl) (fun _ _ _ h => h) (Or.inl ⟨by rfl, ?_⟩) hS4 ?_
  · rintro w' _
    go_simp
  try simp only [Act.put, List.setIfInBounds_toArray, List.set_cons_zero, List.set_cons_succ]
  refine takeD (i := 8) (v := .pointer (some ⟨ho, 16, none⟩)) (some 40) rfl rfl (by kernel_rfl) (by kernel_rfl) (by kernel_rfl) (fun _ _ _ h => h) (Or.inl ⟨by rfl, ?_⟩) hS4 ?_
  · rintro w' _
    go_simp
  try simp only [Act.put, List.setIfInBounds_toArray, List.set_cons_zero, List.set_cons_succ]
  refine wpAnyH_ready (rs := [9]) (by kernel_rfl) (by simp) ?_
  refine AllReadyH.cons rfl (fun K hK => ?_) AllReadyH.nil
  refine op_store_at (vs := [.int .i64 (parseQ t).1.1, .int .i64 (parseQ t).1.2.1, .int .i64 (parseQ t).1.2.2.1, .int .i64 (parseQ t).1.2.2.2.1, .int .i64 (parseQ t).1.2.2.2.2]) (.tmp 40) (.tmp 38) rfl rfl rfl hx3 (by simp; omega) agg_probe rfl ?_
  intro w4 hx4 hg4 hz4
  have hv4 := hv3.grown hg4 (by omega)
  refine hK.out _ _ (hv4.cell 2 rfl) (fun hS5 => ?_)
  clear hK K
  try simp only [Act.put, List.setIfInBounds_toArray, List.set_cons_zero, List.set_cons_succ]
  have hT4 := hT3.trans (Turn2.two hg4)
  have hR4 := hR3.keep hg4 (fun k e => by simp at e; omega)
  obtain ⟨f0, f1, f2⟩ := hv4.c3
  clear hS hS3 hS4 hS5
  refine wpAnyH_done (by kernel_rfl) ?_ _
  go_wp2_with fail
  go_end0
  exact ⟨rfl, hT4, hR4, hx4⟩
set_option maxRecDepth 100000 in
set_option maxHeartbeats 1600000 in
theorem rp_1 {w : World} {T : TypeId} {lo g ho : Nat} {l l' : List Int} {e e' : Int} {cs : List Value} (A : Option Addr) (hR : Rdr 102 w lo g l e) (hx : Vb T w ho cs) (hgo : g < ho) {lo2 m : Nat} {u : NumV} {x : Int} (hN : Rn w lo2 ho A m [u]) (hlo : ho < lo2) (hu : u.at_ < cs.length) (hq0 : nu u.s (l, e) = (x, (l', e'))) : Calls Tryz.prog 46 #[.agg #[.slice A m m, .pointer none, .pointer none], .pointer (some ⟨g, 0, none⟩)] w (fun en w' => en = .returned (.tuple #[]) ∧ Turn2 g ho w w' ∧ Rdr 102 w' lo g l' e' ∧ Vb T w' ho (cs.set u.at_ (.int .i64 x))) := by
  have HQ0 := Kp.mk hq0
  clear hq0
  have hlt := hR.lt
  have hxl := hx.lt
  obtain ⟨hl, _, hc⟩ := hN
  simp at hl
  subst hl
  obtain ⟨b, rfl, hlb, hbw, hc⟩ := hc (by omega)
  obtain ⟨a00, a01, a02, a03⟩ := hc 0 u rfl
  simp only [Nat.zero_mul, Nat.zero_add, Nat.one_mul, Nat.reduceAdd] at a00 a01 a02 a03
  clear hc
  have hvb := Vb.new 65 w [.slice (some ⟨b, 0, none⟩) 1 1, .pointer none, .pointer none]
  have FU : Kp (∀ w', Turn2 g ho (w.alloc (.cells #[.slice (some ⟨b, 0, none⟩) 1 1, .pointer none, .pointer none] 65)) w' → w'.cell? ⟨w.heap.size, 1, none⟩ = some (.pointer none) ∧ w'.cell? ⟨w.heap.size, 2, none⟩ = some (.pointer none) ∧ w'.cell? ⟨b, 0, none⟩ = some (.pointer (some ⟨ho, u.at_, none⟩)) ∧ w'.cell? ⟨b, 1, none⟩ = some (.int .i64 u.s) ∧ w'.cell? ⟨b, 2, none⟩ = some (.int .i64 u.lo) ∧ w'.cell? ⟨b, 3, none⟩ = some (.int .i64 u.hi)) := Kp.mk (fun w' hgr => ⟨(hvb.cell 1 rfl |> fun h => hgr.cell h (by omega) (by omega)), (hvb.cell 2 rfl |> fun h => hgr.cell h (by omega) (by omega)), hgr.cell (cell_below a00 hbw (below_alloc w _)) (by omega) (by omega), hgr.cell (cell_below a01 hbw (below_alloc w _)) (by omega) (by omega), hgr.cell (cell_below a02 hbw (below_alloc w _)) (by omega) (by omega), hgr.cell (cell_below a03 hbw (below_alloc w _)) (by omega) (by omega)⟩)
  clear a00 a01 a02 a03
  have hx1 := hx.alloc (.cells #[.slice (some ⟨b, 0, none⟩) 1 1, .pointer none, .pointer none] 65)
  have hR1 := hR.below (below_alloc w (.cells #[.slice (some ⟨b, 0, none⟩) 1 1, .pointer none, .pointer none] 65))
  have hgr1 : Turn2 g ho (w.alloc (.cells #[.slice (some ⟨b, 0, none⟩) 1 1, .pointer none, .pointer none] 65)) (w.alloc (.cells #[.slice (some ⟨b, 0, none⟩) 1 1, .pointer none, .pointer none] 65)) := Turn2.refl _ _ _
  have hT0 := (Turn2.refl g ho w).new (below_alloc w (.cells #[.slice (some ⟨b, 0, none⟩) 1 1, .pointer none, .pointer none] 65))
  have hz1 : w.heap.size < (w.alloc (.cells #[.slice (some ⟨b, 0, none⟩) 1 1, .pointer none, .pointer none] 65)).heap.size := by simp
  go_enter Tryz.func46, Tryz.ntmps46
  go_wp2_with fail
  refine wp_loop_rounds (1 + 1) ?_
  obtain ⟨f1, f2, b00, b01, b02, b03⟩ := FU.out _ hgr1
  rw [rounds_succ]
  go_upto_region 4 with fail
  clear f1 f2 b00 b01 b02 b03
  have hm1 := Vb.new 97 (w.alloc (.cells #[.slice (some ⟨b, 0, none⟩) 1 1, .pointer none, .pointer none] 65)) [.pointer (some ⟨ho, u.at_, none⟩), .int .i64 u.s, .int .i64 u.lo, .int .i64 u.hi]
  rw [alloc_size] at hm1
  have hxa := hx1.alloc (.cells #[.pointer (some ⟨ho, u.at_, none⟩), .int .i64 u.s, .int .i64 u.lo, .int .i64 u.hi] 97)
  have hga := hgr1.new (below_alloc (w.alloc (.cells #[.slice (some ⟨b, 0, none⟩) 1 1, .pointer none, .pointer none] 65)) (.cells #[.pointer (some ⟨ho, u.at_, none⟩), .int .i64 u.s, .int .i64 u.lo, .int .i64 u.hi] 97))
  have hRa := hR1.below (below_alloc (w.alloc (.cells #[.slice (some ⟨b, 0, none⟩) 1 1, .pointer none, .pointer none] 65)) (.cells #[.pointer (some ⟨ho, u.at_, none⟩), .int .i64 u.s, .int .i64 u.lo, .int .i64 u.hi] 97))
  have hza : w.heap.size < ((w.alloc (.cells #[.slice (some ⟨b, 0, none⟩) 1 1, .pointer none, .pointer none] 65)).alloc (.cells #[.pointer (some ⟨ho, u.at_, none⟩), .int .i64 u.s, .int .i64 u.lo, .int .i64 u.hi] 97)).heap.size := Nat.lt_of_lt_of_le hz1 (below_alloc (w.alloc (.cells #[.slice (some ⟨b, 0, none⟩) 1 1, .pointer none, .pointer none] 65)) (.cells #[.pointer (some ⟨ho, u.at_, none⟩), .int .i64 u.s, .int .i64 u.lo, .int .i64 u.hi] 97)).size
  generalize ((w.alloc (.cells #[.slice (some ⟨b, 0, none⟩) 1 1, .pointer none, .pointer none] 65)).alloc (.cells #[.pointer (some ⟨ho, u.at_, none⟩), .int .i64 u.s, .int .i64 u.lo, .int .i64 u.hi] 97)) = wa1 at *
  have hS : (fun w' => w'.cell? ⟨w.heap.size + 1, 0, none⟩ = some (.pointer (some ⟨ho, u.at_, none⟩)) ∧ w'.cell? ⟨w.heap.size + 1, 1, none⟩ = some (.int .i64 u.s)) wa1.drew := ⟨hm1.cell 0 rfl, hm1.cell 1 rfl⟩
  refine wp_region_held_drew (S := (fun w' => w'.cell? ⟨w.heap.size + 1, 0, none⟩ = some (.pointer (some ⟨ho, u.at_, none⟩)) ∧ w'.cell? ⟨w.heap.size + 1, 1, none⟩ = some (.int .i64 u.s))) (by kernel_rfl) hS (fun _ => ?_)
  refine takeD (i := 0) (v := .pointer (some ⟨w.heap.size + 1, 0, none⟩)) (some 13) rfl rfl (by kernel_rfl) (by kernel_rfl) (by kernel_rfl) (fun _ _ _ h => h) (Or.inl ⟨by rfl, ?_⟩) hS ?_
  · rintro w' _
    go_simp
  try simp only [Act.put, List.setIfInBounds_toArray, List.set_cons_zero, List.set_cons_succ]
  refine takeD (i := 1) (v := .pointer (some ⟨ho, u.at_, none⟩)) (some 14) rfl rfl (by kernel_rfl) (by kernel_rfl) (by kernel_rfl) (fun _ _ _ h => h) (Or.inl ⟨by rfl, ?_⟩) hS ?_
  · rintro w' ⟨s1, s2⟩
    go_simp
  try simp only [Act.put, List.setIfInBounds_toArray, List.set_cons_zero, List.set_cons_succ]
  refine takeD (i := 2) (v := .pointer (some ⟨g, 0, none⟩)) (some 15) rfl rfl (by kernel_rfl) (by kernel_rfl) (by kernel_rfl) (fun _ _ _ h => h) (Or.inl ⟨by rfl, ?_⟩) hS ?_
  · rintro w' _
    go_simp
  try simp only [Act.put, List.setIfInBounds_toArray, List.set_cons_zero, List.set_cons_succ]
  refine takeD (i := 3) (v := .pointer (some ⟨w.heap.size + 1, 1, none⟩)) (some 16) rfl rfl (by kernel_rfl) (by kernel_rfl) (by kernel_rfl) (fun _ _ _ h => h) (Or.inl ⟨by rfl, ?_⟩) hS ?_
  · rintro w' _
    go_simp
  try simp only [Act.put, List.setIfInBounds_toArray, List.set_cons_zero, List.set_cons_succ]
  refine takeD (i := 4) (v := .int .i64 u.s) (some 17) rfl rfl (by kernel_rfl) (by kernel_rfl) (by kernel_rfl) (fun _ _ _ h => h) (Or.inl ⟨by rfl, ?_⟩) hS ?_
  · rintro w' ⟨s1, s2⟩
    go_simp
  try simp only [Act.put, List.setIfInBounds_toArray, List.set_cons_zero, List.set_cons_succ]
  have hRd : Rdr 102 wa1.drew lo g l e := hRa
  have hxd : Vb T wa1.drew ho cs := hxa
  have hmd : Vb 97 wa1.drew (w.heap.size + 1) [.pointer (some ⟨ho, u.at_, none⟩), .int .i64 u.s, .int .i64 u.lo, .int .i64 u.hi] := hm1
  have hgd : Turn2 g ho (w.alloc (.cells #[.slice (some ⟨b, 0, none⟩) 1 1, .pointer none, .pointer none] 65)) wa1.drew := hga
  have hzd : w.heap.size < wa1.drew.heap.size := hza
  clear hRa hxa hm1 hga hza
  generalize wa1.drew = wd1 at *
  refine wpAnyH_ready (rs := [5]) (by kernel_rfl) (by simp) ?_
  refine AllReadyH.cons rfl (fun K hK => ?_) AllReadyH.nil
  go_simp
  go_at_call 45
  refine (num_eq u.s hRd HQ0.out).mono ?_
  rintro en v1 ⟨rfl, hS2, hg2⟩
  have hm2 := hmd.grown hg2 (by omega)
  have hx2a := hxd.grown hg2 (by omega)
  have hT2 := hgd.trans (Turn2.one hg2)
  have hzq := hg2.size
  refine hK.out _ _ ⟨hm2.cell 0 rfl, hm2.cell 1 rfl⟩ (fun hS3 => ?_)
  clear hK K
  try simp only [Act.put, List.setIfInBounds_toArray, List.set_cons_zero, List.set_cons_succ]
  refine takeD (i := 6) (v := .pointer (some ⟨ho, u.at_, none⟩)) (some 19) rfl rfl (by kernel_rfl) (by kernel_rfl) (by kernel_rfl) (fun _ _ _ h => h) (Or.inl ⟨by rfl, ?_⟩) hS3 ?_
  · rintro w' _
    go_simp
  try simp only [Act.put, List.setIfInBounds_toArray, List.set_cons_zero, List.set_cons_succ]
  obtain ⟨y0, hy0⟩ : ∃ y, (cs)[u.at_]? = some y := ⟨_, List.getElem?_eq_getElem (by simpa using hu)⟩
  have c0 := hx2a.cell u.at_ hy0
  have hf := hx2a.free
  refine wpAnyH_ready (rs := [7]) (by kernel_rfl) (by simp) ?_
  refine AllReadyH.cons rfl (fun K hK => ?_) AllReadyH.nil
  go_simp
  have hm3 := hm2.other (r := ho) (by omega) u.at_ (.int .i64 x)
  have hx2 := hx2a.set u.at_ (.int .i64 x)
  have hR2 := hS2.off' ho u.at_ (.int .i64 x) hgo
  have hgr2 := hT2.trans (Turn2.two (grownBy_set v1 ho u.at_ (.int .i64 x)))
  have hz2 : w.heap.size < (v1.setCell ⟨ho, u.at_, none⟩ (.int .i64 x)).heap.size := by simp [World.setCell]; omega
  refine hK.out _ _ ⟨hm3.cell 0 rfl, hm3.cell 1 rfl⟩ (fun hS4 => ?_)
  clear hK K c0 hf hy0
  try simp only [Act.put, List.setIfInBounds_toArray, List.set_cons_zero, List.set_cons_succ]
  generalize (v1.setCell ⟨ho, u.at_, none⟩ (.int .i64 x)) = wb1 at *
  clear hS hS3 hS4 hm3 hm2 hx2a hT2 hS2 hg2 hzq hRd hxd hmd hgd hzd
  refine wpAnyH_done (by kernel_rfl) ?_ _
  go_wp2_with fail
  obtain ⟨f1, f2, b00, b01, b02, b03⟩ := FU.out _ hgr2
  rw [rounds_succ]
  go_wp2_with fail
  go_end0
  exact ⟨rfl, hT0.trans hgr2, hR2, hx2⟩
set_option maxRecDepth 100000 in
set_option maxHeartbeats 1600000 in
theorem rp_2 {w : World} {T : TypeId} {lo g ho : Nat} {l l' : List Int} {e e' : Int} {cs : List Value} (A : Option Addr) (hR : Rdr 102 w lo g l e) (hx : Vb T w ho cs) (hgo : g < ho) {lo2 m : Nat} {u v : NumV} {x y : Int} (hN : Rn w lo2 ho A m [u, v]) (hlo : ho < lo2) (hu : u.at_ < cs.length) (hv : v.at_ < cs.length) {l1 : List Int} {e1 : Int} (hq0 : nu u.s (l, e) = (x, (l1, e1))) (hq1 : nu v.s (l1, e1) = (y, (l', e'))) : Calls Tryz.prog 46 #[.agg #[.slice A m m, .pointer none, .pointer none], .pointer (some ⟨g, 0, none⟩)] w (fun en w' => en = .returned (.tuple #[]) ∧ Turn2 g ho w w' ∧ Rdr 102 w' lo g l' e' ∧ Vb T w' ho ((cs.set u.at_ (.int .i64 x)).set v.at_ (.int .i64 y))) := by
  have HQ0 := Kp.mk hq0
  have HQ1 := Kp.mk hq1
  clear hq0 hq1
  have hlt := hR.lt
  have hxl := hx.lt
  obtain ⟨hl, _, hc⟩ := hN
  simp at hl
  subst hl
  obtain ⟨b, rfl, hlb, hbw, hc⟩ := hc (by omega)
  obtain ⟨a00, a01, a02, a03⟩ := hc 0 u rfl
  simp only [Nat.zero_mul, Nat.zero_add, Nat.one_mul, Nat.reduceAdd] at a00 a01 a02 a03
  obtain ⟨a10, a11, a12, a13⟩ := hc 1 v rfl
  simp only [Nat.zero_mul, Nat.zero_add, Nat.one_mul, Nat.reduceAdd] at a10 a11 a12 a13
  clear hc
  have hvb := Vb.new 65 w [.slice (some ⟨b, 0, none⟩) 2 2, .pointer none, .pointer none]
  have FU : Kp (∀ w', Turn2 g ho (w.alloc (.cells #[.slice (some ⟨b, 0, none⟩) 2 2, .pointer none, .pointer none] 65)) w' → w'.cell? ⟨w.heap.size, 1, none⟩ = some (.pointer none) ∧ w'.cell? ⟨w.heap.size, 2, none⟩ = some (.pointer none) ∧ w'.cell? ⟨b, 0, none⟩ = some (.pointer (some ⟨ho, u.at_, none⟩)) ∧ w'.cell? ⟨b, 1, none⟩ = some (.int .i64 u.s) ∧ w'.cell? ⟨b, 2, none⟩ = some (.int .i64 u.lo) ∧ w'.cell? ⟨b, 3, none⟩ = some (.int .i64 u.hi) ∧ w'.cell? ⟨b, 4, none⟩ = some (.pointer (some ⟨ho, v.at_, none⟩)) ∧ w'.cell? ⟨b, 5, none⟩ = some (.int .i64 v.s) ∧ w'.cell? ⟨b, 6, none⟩ = some (.int .i64 v.lo) ∧ w'.cell? ⟨b, 7, none⟩ = some (.int .i64 v.hi)) := Kp.mk (fun w' hgr => ⟨(hvb.cell 1 rfl |> fun h => hgr.cell h (by omega) (by omega)), (hvb.cell 2 rfl |> fun h => hgr.cell h (by omega) (by omega)), hgr.cell (cell_below a00 hbw (below_alloc w _)) (by omega) (by omega), hgr.cell (cell_below a01 hbw (below_alloc w _)) (by omega) (by omega), hgr.cell (cell_below a02 hbw (below_alloc w _)) (by omega) (by omega), hgr.cell (cell_below a03 hbw (below_alloc w _)) (by omega) (by omega), hgr.cell (cell_below a10 hbw (below_alloc w _)) (by omega) (by omega), hgr.cell (cell_below a11 hbw (below_alloc w _)) (by omega) (by omega), hgr.cell (cell_below a12 hbw (below_alloc w _)) (by omega) (by omega), hgr.cell (cell_below a13 hbw (below_alloc w _)) (by omega) (by omega)⟩)
  clear a00 a01 a02 a03 a10 a11 a12 a13
  have hx1 := hx.alloc (.cells #[.slice (some ⟨b, 0, none⟩) 2 2, .pointer none, .pointer none] 65)
  have hR1 := hR.below (below_alloc w (.cells #[.slice (some ⟨b, 0, none⟩) 2 2, .pointer none, .pointer none] 65))
  have hgr1 : Turn2 g ho (w.alloc (.cells #[.slice (some ⟨b, 0, none⟩) 2 2, .pointer none, .pointer none] 65)) (w.alloc (.cells #[.slice (some ⟨b, 0, none⟩) 2 2, .pointer none, .pointer none] 65)) := Turn2.refl _ _ _
  have hT0 := (Turn2.refl g ho w).new (below_alloc w (.cells #[.slice (some ⟨b, 0, none⟩) 2 2, .pointer none, .pointer none] 65))
  have hz1 : w.heap.size < (w.alloc (.cells #[.slice (some ⟨b, 0, none⟩) 2 2, .pointer none, .pointer none] 65)).heap.size := by simp
  go_enter Tryz.func46, Tryz.ntmps46
  go_wp2_with fail
  refine wp_loop_rounds (2 + 1) ?_
  obtain ⟨f1, f2, b00, b01, b02, b03, b10, b11, b12, b13⟩ := FU.out _ hgr1
  rw [rounds_succ]
  go_upto_region 4 with fail
  clear f1 f2 b00 b01 b02 b03 b10 b11 b12 b13
  have hm1 := Vb.new 97 (w.alloc (.cells #[.slice (some ⟨b, 0, none⟩) 2 2, .pointer none, .pointer none] 65)) [.pointer (some ⟨ho, u.at_, none⟩), .int .i64 u.s, .int .i64 u.lo, .int .i64 u.hi]
  rw [alloc_size] at hm1
  have hxa := hx1.alloc (.cells #[.pointer (some ⟨ho, u.at_, none⟩), .int .i64 u.s, .int .i64 u.lo, .int .i64 u.hi] 97)
  have hga := hgr1.new (below_alloc (w.alloc (.cells #[.slice (some ⟨b, 0, none⟩) 2 2, .pointer none, .pointer none] 65)) (.cells #[.pointer (some ⟨ho, u.at_, none⟩), .int .i64 u.s, .int .i64 u.lo, .int .i64 u.hi] 97))
  have hRa := hR1.below (below_alloc (w.alloc (.cells #[.slice (some ⟨b, 0, none⟩) 2 2, .pointer none, .pointer none] 65)) (.cells #[.pointer (some ⟨ho, u.at_, none⟩), .int .i64 u.s, .int .i64 u.lo, .int .i64 u.hi] 97))
  have hza : w.heap.size < ((w.alloc (.cells #[.slice (some ⟨b, 0, none⟩) 2 2, .pointer none, .pointer none] 65)).alloc (.cells #[.pointer (some ⟨ho, u.at_, none⟩), .int .i64 u.s, .int .i64 u.lo, .int .i64 u.hi] 97)).heap.size := Nat.lt_of_lt_of_le hz1 (below_alloc (w.alloc (.cells #[.slice (some ⟨b, 0, none⟩) 2 2, .pointer none, .pointer none] 65)) (.cells #[.pointer (some ⟨ho, u.at_, none⟩), .int .i64 u.s, .int .i64 u.lo, .int .i64 u.hi] 97)).size
  generalize ((w.alloc (.cells #[.slice (some ⟨b, 0, none⟩) 2 2, .pointer none, .pointer none] 65)).alloc (.cells #[.pointer (some ⟨ho, u.at_, none⟩), .int .i64 u.s, .int .i64 u.lo, .int .i64 u.hi] 97)) = wa1 at *
  have hS : (fun w' => w'.cell? ⟨w.heap.size + 1, 0, none⟩ = some (.pointer (some ⟨ho, u.at_, none⟩)) ∧ w'.cell? ⟨w.heap.size + 1, 1, none⟩ = some (.int .i64 u.s)) wa1.drew := ⟨hm1.cell 0 rfl, hm1.cell 1 rfl⟩
  refine wp_region_held_drew (S := (fun w' => w'.cell? ⟨w.heap.size + 1, 0, none⟩ = some (.pointer (some ⟨ho, u.at_, none⟩)) ∧ w'.cell? ⟨w.heap.size + 1, 1, none⟩ = some (.int .i64 u.s))) (by kernel_rfl) hS (fun _ => ?_)
  refine takeD (i := 0) (v := .pointer (some ⟨w.heap.size + 1, 0, none⟩)) (some 13) rfl rfl (by kernel_rfl) (by kernel_rfl) (by kernel_rfl) (fun _ _ _ h => h) (Or.inl ⟨by rfl, ?_⟩) hS ?_
  · rintro w' _
    go_simp
  try simp only [Act.put, List.setIfInBounds_toArray, List.set_cons_zero, List.set_cons_succ]
  refine takeD (i := 1) (v := .pointer (some ⟨ho, u.at_, none⟩)) (some 14) rfl rfl (by kernel_rfl) (by kernel_rfl) (by kernel_rfl) (fun _ _ _ h => h) (Or.inl ⟨by rfl, ?_⟩) hS ?_
  · rintro w' ⟨s1, s2⟩
    go_simp
  try simp only [Act.put, List.setIfInBounds_toArray, List.set_cons_zero, List.set_cons_succ]
  refine takeD (i := 2) (v := .pointer (some ⟨g, 0, none⟩)) (some 15) rfl rfl (by kernel_rfl) (by kernel_rfl) (by kernel_rfl) (fun _ _ _ h => h) (Or.inl ⟨by rfl, ?_⟩) hS ?_
  · rintro w' _
    go_simp
  try simp only [Act.put, List.setIfInBounds_toArray, List.set_cons_zero, List.set_cons_succ]
  refine takeD (i := 3) (v := .pointer (some ⟨w.heap.size + 1, 1, none⟩)) (some 16) rfl rfl (by kernel_rfl) (by kernel_rfl) (by kernel_rfl) (fun _ _ _ h => h) (Or.inl ⟨by rfl, ?_⟩) hS ?_
  · rintro w' _
    go_simp
  try simp only [Act.put, List.setIfInBounds_toArray, List.set_cons_zero, List.set_cons_succ]
  refine takeD (i := 4) (v := .int .i64 u.s) (some 17) rfl rfl (by kernel_rfl) (by kernel_rfl) (by kernel_rfl) (fun _ _ _ h => h) (Or.inl ⟨by rfl, ?_⟩) hS ?_
  · rintro w' ⟨s1, s2⟩
    go_simp
  try simp only [Act.put, List.setIfInBounds_toArray, List.set_cons_zero, List.set_cons_succ]
  have hRd : Rdr 102 wa1.drew lo g l e := hRa
  have hxd : Vb T wa1.drew ho cs := hxa
  have hmd : Vb 97 wa1.drew (w.heap.size + 1) [.pointer (some ⟨ho, u.at_, none⟩), .int .i64 u.s, .int .i64 u.lo, .int .i64 u.hi] := hm1
  have hgd : Turn2 g ho (w.alloc (.cells #[.slice (some ⟨b, 0, none⟩) 2 2, .pointer none, .pointer none] 65)) wa1.drew := hga
  have hzd : w.heap.size < wa1.drew.heap.size := hza
  clear hRa hxa hm1 hga hza
  generalize wa1.drew = wd1 at *
  refine wpAnyH_ready (rs := [5]) (by kernel_rfl) (by simp) ?_
  refine AllReadyH.cons rfl (fun K hK => ?_) AllReadyH.nil
  go_simp
  go_at_call 45
  refine (num_eq u.s hRd HQ0.out).mono ?_
  rintro en v1 ⟨rfl, hS2, hg2⟩
  have hm2 := hmd.grown hg2 (by omega)
  have hx2a := hxd.grown hg2 (by omega)
  have hT2 := hgd.trans (Turn2.one hg2)
  have hzq := hg2.size
  refine hK.out _ _ ⟨hm2.cell 0 rfl, hm2.cell 1 rfl⟩ (fun hS3 => ?_)
  clear hK K
  try simp only [Act.put, List.setIfInBounds_toArray, List.set_cons_zero, List.set_cons_succ]
  refine takeD (i := 6) (v := .pointer (some ⟨ho, u.at_, none⟩)) (some 19) rfl rfl (by kernel_rfl) (by kernel_rfl) (by kernel_rfl) (fun _ _ _ h => h) (Or.inl ⟨by rfl, ?_⟩) hS3 ?_
  · rintro w' _
    go_simp
  try simp only [Act.put, List.setIfInBounds_toArray, List.set_cons_zero, List.set_cons_succ]
  obtain ⟨y0, hy0⟩ : ∃ y, (cs)[u.at_]? = some y := ⟨_, List.getElem?_eq_getElem (by simpa using hu)⟩
  have c0 := hx2a.cell u.at_ hy0
  have hf := hx2a.free
  refine wpAnyH_ready (rs := [7]) (by kernel_rfl) (by simp) ?_
  refine AllReadyH.cons rfl (fun K hK => ?_) AllReadyH.nil
  go_simp
  have hm3 := hm2.other (r := ho) (by omega) u.at_ (.int .i64 x)
  have hx2 := hx2a.set u.at_ (.int .i64 x)
  have hR2 := hS2.off' ho u.at_ (.int .i64 x) hgo
  have hgr2 := hT2.trans (Turn2.two (grownBy_set v1 ho u.at_ (.int .i64 x)))
  have hz2 : w.heap.size < (v1.setCell ⟨ho, u.at_, none⟩ (.int .i64 x)).heap.size := by simp [World.setCell]; omega
  refine hK.out _ _ ⟨hm3.cell 0 rfl, hm3.cell 1 rfl⟩ (fun hS4 => ?_)
  clear hK K c0 hf hy0
  try simp only [Act.put, List.setIfInBounds_toArray, List.set_cons_zero, List.set_cons_succ]
  generalize (v1.setCell ⟨ho, u.at_, none⟩ (.int .i64 x)) = wb1 at *
  clear hS hS3 hS4 hm3 hm2 hx2a hT2 hS2 hg2 hzq hRd hxd hmd hgd hzd
  refine wpAnyH_done (by kernel_rfl) ?_ _
  go_wp2_with fail
  obtain ⟨f1, f2, b00, b01, b02, b03, b10, b11, b12, b13⟩ := FU.out _ hgr2
  rw [rounds_succ]
  go_upto_region 4 with fail
  clear f1 f2 b00 b01 b02 b03 b10 b11 b12 b13
  have hm2 := Vb.new 97 wb1 [.pointer (some ⟨ho, v.at_, none⟩), .int .i64 v.s, .int .i64 v.lo, .int .i64 v.hi]
  have hxa := hx2.alloc (.cells #[.pointer (some ⟨ho, v.at_, none⟩), .int .i64 v.s, .int .i64 v.lo, .int .i64 v.hi] 97)
  have hga := hgr2.new (below_alloc wb1 (.cells #[.pointer (some ⟨ho, v.at_, none⟩), .int .i64 v.s, .int .i64 v.lo, .int .i64 v.hi] 97))
  have hRa := hR2.below (below_alloc wb1 (.cells #[.pointer (some ⟨ho, v.at_, none⟩), .int .i64 v.s, .int .i64 v.lo, .int .i64 v.hi] 97))
  have hza : w.heap.size < (wb1.alloc (.cells #[.pointer (some ⟨ho, v.at_, none⟩), .int .i64 v.s, .int .i64 v.lo, .int .i64 v.hi] 97)).heap.size := Nat.lt_of_lt_of_le hz2 (below_alloc wb1 (.cells #[.pointer (some ⟨ho, v.at_, none⟩), .int .i64 v.s, .int .i64 v.lo, .int .i64 v.hi] 97)).size
  generalize (wb1.alloc (.cells #[.pointer (some ⟨ho, v.at_, none⟩), .int .i64 v.s, .int .i64 v.lo, .int .i64 v.hi] 97)) = wa2 at *
  have hS : (fun w' => w'.cell? ⟨wb1.heap.size, 0, none⟩ = some (.pointer (some ⟨ho, v.at_, none⟩)) ∧ w'.cell? ⟨wb1.heap.size, 1, none⟩ = some (.int .i64 v.s)) wa2.drew := ⟨hm2.cell 0 rfl, hm2.cell 1 rfl⟩
  refine wp_region_held_drew (S := (fun w' => w'.cell? ⟨wb1.heap.size, 0, none⟩ = some (.pointer (some ⟨ho, v.at_, none⟩)) ∧ w'.cell? ⟨wb1.heap.size, 1, none⟩ = some (.int .i64 v.s))) (by kernel_rfl) hS (fun _ => ?_)
  refine takeD (i := 0) (v := .pointer (some ⟨wb1.heap.size, 0, none⟩)) (some 13) rfl rfl (by kernel_rfl) (by kernel_rfl) (by kernel_rfl) (fun _ _ _ h => h) (Or.inl ⟨by rfl, ?_⟩) hS ?_
  · rintro w' _
    go_simp
  try simp only [Act.put, List.setIfInBounds_toArray, List.set_cons_zero, List.set_cons_succ]
  refine takeD (i := 1) (v := .pointer (some ⟨ho, v.at_, none⟩)) (some 14) rfl rfl (by kernel_rfl) (by kernel_rfl) (by kernel_rfl) (fun _ _ _ h => h) (Or.inl ⟨by rfl, ?_⟩) hS ?_
  · rintro w' ⟨s1, s2⟩
    go_simp
  try simp only [Act.put, List.setIfInBounds_toArray, List.set_cons_zero, List.set_cons_succ]
  refine takeD (i := 2) (v := .pointer (some ⟨g, 0, none⟩)) (some 15) rfl rfl (by kernel_rfl) (by kernel_rfl) (by kernel_rfl) (fun _ _ _ h => h) (Or.inl ⟨by rfl, ?_⟩) hS ?_
  · rintro w' _
    go_simp
  try simp only [Act.put, List.setIfInBounds_toArray, List.set_cons_zero, List.set_cons_succ]
  refine takeD (i := 3) (v := .pointer (some ⟨wb1.heap.size, 1, none⟩)) (some 16) rfl rfl (by kernel_rfl) (by kernel_rfl) (by kernel_rfl) (fun _ _ _ h => h) (Or.inl ⟨by rfl, ?_⟩) hS ?_
  · rintro w' _
    go_simp
  try simp only [Act.put, List.setIfInBounds_toArray, List.set_cons_zero, List.set_cons_succ]
  refine takeD (i := 4) (v := .int .i64 v.s) (some 17) rfl rfl (by kernel_rfl) (by kernel_rfl) (by kernel_rfl) (fun _ _ _ h => h) (Or.inl ⟨by rfl, ?_⟩) hS ?_
  · rintro w' ⟨s1, s2⟩
    go_simp
  try simp only [Act.put, List.setIfInBounds_toArray, List.set_cons_zero, List.set_cons_succ]
  have hRd : Rdr 102 wa2.drew lo g l1 e1 := hRa
  have hxd : Vb T wa2.drew ho (cs.set u.at_ (.int .i64 x)) := hxa
  have hmd : Vb 97 wa2.drew (wb1.heap.size) [.pointer (some ⟨ho, v.at_, none⟩), .int .i64 v.s, .int .i64 v.lo, .int .i64 v.hi] := hm2
  have hgd : Turn2 g ho (w.alloc (.cells #[.slice (some ⟨b, 0, none⟩) 2 2, .pointer none, .pointer none] 65)) wa2.drew := hga
  have hzd : w.heap.size < wa2.drew.heap.size := hza
  clear hRa hxa hm2 hga hza
  generalize wa2.drew = wd2 at *
  refine wpAnyH_ready (rs := [5]) (by kernel_rfl) (by simp) ?_
  refine AllReadyH.cons rfl (fun K hK => ?_) AllReadyH.nil
  go_simp
  go_at_call 45
  refine (num_eq v.s hRd HQ1.out).mono ?_
  rintro en v2 ⟨rfl, hS2, hg2⟩
  have hm2 := hmd.grown hg2 (by omega)
  have hx2a := hxd.grown hg2 (by omega)
  have hT2 := hgd.trans (Turn2.one hg2)
  have hzq := hg2.size
  refine hK.out _ _ ⟨hm2.cell 0 rfl, hm2.cell 1 rfl⟩ (fun hS3 => ?_)
  clear hK K
  try simp only [Act.put, List.setIfInBounds_toArray, List.set_cons_zero, List.set_cons_succ]
  refine takeD (i := 6) (v := .pointer (some ⟨ho, v.at_, none⟩)) (some 19) rfl rfl (by kernel_rfl) (by kernel_rfl) (by kernel_rfl) (fun _ _ _ h => h) (Or.inl ⟨by rfl, ?_⟩) hS3 ?_
  · rintro w' _
    go_simp
  try simp only [Act.put, List.setIfInBounds_toArray, List.set_cons_zero, List.set_cons_succ]
  obtain ⟨y0, hy0⟩ : ∃ y, ((cs.set u.at_ (.int .i64 x)))[v.at_]? = some y := ⟨_, List.getElem?_eq_getElem (by simpa using hv)⟩
  have c0 := hx2a.cell v.at_ hy0
  have hf := hx2a.free
  refine wpAnyH_ready (rs := [7]) (by kernel_rfl) (by simp) ?_
  refine AllReadyH.cons rfl (fun K hK => ?_) AllReadyH.nil
  go_simp
  have hm3 := hm2.other (r := ho) (by omega) v.at_ (.int .i64 y)
  have hx3 := hx2a.set v.at_ (.int .i64 y)
  have hR3 := hS2.off' ho v.at_ (.int .i64 y) hgo
  have hgr3 := hT2.trans (Turn2.two (grownBy_set v2 ho v.at_ (.int .i64 y)))
  have hz3 : w.heap.size < (v2.setCell ⟨ho, v.at_, none⟩ (.int .i64 y)).heap.size := by simp [World.setCell]; omega
  refine hK.out _ _ ⟨hm3.cell 0 rfl, hm3.cell 1 rfl⟩ (fun hS4 => ?_)
  clear hK K c0 hf hy0
  try simp only [Act.put, List.setIfInBounds_toArray, List.set_cons_zero, List.set_cons_succ]
  generalize (v2.setCell ⟨ho, v.at_, none⟩ (.int .i64 y)) = wb2 at *
  clear hS hS3 hS4 hm3 hm2 hx2a hT2 hS2 hg2 hzq hRd hxd hmd hgd hzd
  refine wpAnyH_done (by kernel_rfl) ?_ _
  go_wp2_with fail
  obtain ⟨f1, f2, b00, b01, b02, b03, b10, b11, b12, b13⟩ := FU.out _ hgr3
  rw [rounds_succ]
  go_wp2_with fail
  go_end0
  exact ⟨rfl, hT0.trans hgr3, hR3, hx3⟩
end Go.Proofs.YteambkehdbffmaaGreat.Oct
