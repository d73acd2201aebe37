/- Contracts of layer 9: slices.Insert, Replace, Delete of rules. Contracts of layer 9: slices.Insert, Replace, Delete of rules, in one each. Contracts of layer 9: slices.Replace of rules by one rule. -/
import Derived.Test.YtcolklkjaifplaaTabA
import Derived.Shelf.RegionOpenPlain
import Derived.Laws.Externs
import Derived.BigQuiet
import Derived.Deep.QuietTactic
namespace Go.Proofs.Ytcolklkjaifplaa.Oct
open Go.RowKit
set_option linter.unusedVariables false
set_option linter.unusedSimpArgs false

theorem wpList_copy_runR (w : World) {ops : Array Oper} {rest : List Oper} {o : Oper} {a : Act} {Q : Exit → Act → World → Prop} (hgd : o.guard = none) (d s : Operand) (t t' : TypeId)
    (ho : o.op = .call { callee := .builtin .copy, args := #[d, s], argTypes := #[t, t'] }) (v u : Value) (hd : a.eval d = v) (hs : a.eval s = u) {v' : Value} {w' : World}
    (hr : (Builtin.copy_ #[t, t'] o.type #[v, u]).run Try.prog w = .ok v' w') (h : wpList Try.prog ops Q rest (a.put o.dst v') w') : wpList Try.prog ops Q (o :: rest) a w :=
  wpList_plain hgd fun K hK => by
    unfold Oper.wp execOp
    simp only [ho, resolve, invoke, builtin, Sem.run_bind, Sem.run_pure, Result.andThen_ok, List.map_toArray, List.map_cons, List.map_nil, hd, hs, hr]
    exact hK _ _ h
theorem wpList_clear_runR (w : World) {ops : Array Oper} {rest : List Oper} {o : Oper} {a : Act} {Q : Exit → Act → World → Prop} (hgd : o.guard = none) (d : Operand) (t : TypeId)
    (ho : o.op = .call { callee := .builtin .clear, args := #[d], argTypes := #[t] }) (v : Value) (hd : a.eval d = v) {v' : Value} {w' : World}
    (hr : (Builtin.clear_ #[t] o.type #[v]).run Try.prog w = .ok v' w') (h : wpList Try.prog ops Q rest (a.put o.dst v') w') : wpList Try.prog ops Q (o :: rest) a w :=
  wpList_plain hgd fun K hK => by
    unfold Oper.wp execOp
    simp only [ho, resolve, invoke, builtin, Sem.run_bind, Sem.run_pure, Result.andThen_ok, List.map_toArray, List.map_cons, List.map_nil, hd, hr]
    exact hK _ _ h
theorem step_copy_runR {ops : Array Oper} {o : Oper} {a : Act} {w : World} {K : Act → World → Prop} {Q : Exit → Act → World → Prop} {E : Prop}
    (hg : o.guard = none) (d x : Operand) (dT sT : TypeId) (hop : o.op = Op.call { callee := Callee.builtin Builtin.copy, args := #[d, x], argTypes := #[dT, sT] })
    (v u : Value) (hd : a.eval d = v) (hx : a.eval x = u) {v' : Value} {w' : World} (hr : (Builtin.copy_ #[dT, sT] o.type #[v, u]).run Try.prog w = .ok v' w') (hK : K (a.put o.dst v') w') :
    if Region.wanted o (yielded ops a.tmps) = true then Oper.wp Try.prog o a w K Q else E := by
  have hw : Region.wanted o (yielded ops a.tmps) = true := by simp [Region.wanted, hg]
  rw [if_pos hw]
  unfold Oper.wp
  simp [execOp, hop, resolve, invoke, builtin, hd, hx, hr, Result.andThen]
  exact hK
/-- The slice that comes of a row: the old block, or a new one. -/
def Nx (w : World) (v v' : Value) : Prop := v'.ownBlock = v.ownBlock ∨ ∃ k, v'.ownBlock = some k ∧ w.heap.size ≤ k
theorem overlaps_no {w : World} {g h i la ca lb cb : Nat} {ys zs : List It} (hg : Rowb w g ys) (hh : Rowb w h zs) (hne : h ≠ g) (hy : ys ≠ []) :
    (callFunc 84 #[.slice (some ⟨h, 0, none⟩) la ca, .slice (some ⟨g, i, none⟩) lb cb]).run Try.prog w = .ok (.value (.bool false)) w := by
  have sg : w.shape? g = some (31, (ys.flatMap ics).length) := by simp [World.shape?, show w.heap[g]? = _ from hg]
  have sh : w.shape? h = some (31, (zs.flatMap ics).length) := by simp [World.shape?, show w.heap[h]? = _ from hh]
  have hz : ∀ w, (Go.sizeOf 31).run Try.prog w = .ok 13 w := fun w => by
    obtain ⟨i0, hi0, hz0, hz1, hz2⟩ := info_parts info_rule
    simp [sizeOf, typeInfo, hi0, hz1]
  rw [run_callFunc_extern Try.func84 (by kernel_rfl) (by kernel_rfl) (by kernel_rfl) (e := Extern.SlicesOverlaps.overlaps #[39, 39] #[4]) (by kernel_rfl),
    Lib.run_overlaps_apart w 39 4 31 Try.underlying39 13 hz ⟨h, 0, none⟩ ⟨g, i, none⟩ la ca lb cb hne _ _ _ _ sh sg (by
      rw [fl_len]
      cases ys with
      | nil => exact absurd rfl hy
      | cons y ys => simp) (hh.free 0) (hh.free _)]
  rfl
set_option maxRecDepth 100000 in
set_option maxHeartbeats 4000000 in
theorem insert_end {w : World} {v : Value} {its : List It} {vb : Nat} {x : It} (hv : RowS w v its) (hvb : Rowb w vb [x]) (hl : its.length ≤ 1000) :
    Calls Try.prog 83 #[v, .int .i64 its.length, .slice (some ⟨vb, 0, none⟩) 1 1] w fun e w' => ∃ v', e = .returned v' ∧ RowS w' v' (its ++ [x]) ∧ w.grownBy w' v.ownBlock ∧ Nx w v v' := by
  have hs : SrcR w (some ⟨vb, 0, none⟩) 1 [x] := ⟨rfl, .inr ⟨vb, 0, [x], rfl, hvb, by simp, rfl⟩⟩
  obtain ⟨v', w', hrun, h1, h2, h3⟩ := run_appendR (c := 1) 39 hv hs (by omega)
  obtain ⟨A, c, rfl, hsr, hc1, hc2, hc3⟩ := hv.form
  have HS := Kp.mk hsr
  clear hsr hv hs hvb
  generalize its.length = n at *
  rcases A with _ | ⟨ab, ao, asp⟩
  · obtain rfl := hc3 rfl
    obtain rfl : n = 0 := by omega
    go_enter Try.func83, Try.ntmps83
    go_wp2_with (at_builtin; refine Lib.wpList_append_run _ rfl _ _ _ _ rfl _ _ rfl rfl _ _ hrun ?_)
    go_ret
    exact ⟨v', rfl, h1, h2, h3⟩
  · obtain ⟨_, h0⟩ := HS.out
    have h0 := Kp.mk h0
    go_enter Try.func83, Try.ntmps83
    go_wp2_with (at_builtin; refine Lib.wpList_append_run _ rfl _ _ _ _ rfl _ _ rfl rfl _ _ hrun ?_)
    all_goals (go_ret; exact ⟨v', rfl, h1, h2, h3⟩)
theorem ins_list (its ys : List It) (x : It) (i : Nat) (hi : i < its.length) (hy : 0 < ys.length) {n : Nat} (hn : its.length = n) :
    ((its ++ ys).take (i + 1) ++ ((its ++ ys).drop i).take (n - i) ++ (its ++ ys).drop (i + 1 + (n - i))).take i ++ (([x] : List It).drop 0).take 1 ++ ((its ++ ys).take (i + 1) ++ ((its ++ ys).drop i).take (n - i) ++ (its ++ ys).drop (i + 1 + (n - i))).drop (i + 1) = (its.take i ++ [x] ++ its.drop i) ++ ys.drop 1 := by
  subst hn
  have h1 : (its ++ ys).take (i + 1) = its.take (i + 1) := by rw [List.take_append_of_le_length (by omega)]
  have h2 : ((its ++ ys).drop i).take (its.length - i) = its.drop i := by
    rw [List.drop_append_of_le_length (by omega), List.take_append_of_le_length (by simp), List.take_of_length_le (by simp)]
  have h3 : (its ++ ys).drop (i + 1 + (its.length - i)) = ys.drop 1 := by
    rw [show i + 1 + (its.length - i) = its.length + 1 by omega, List.drop_append]
    simp
  rw [h1, h2, h3]
  have l1 : (its.take (i + 1)).length = i + 1 := by simp; omega
  have key : ∀ (A D : List It), A.length = i + 1 → (A ++ D).take i = A.take i ∧ (A ++ D).drop (i + 1) = D := fun A D hA => ⟨List.take_append_of_le_length (by omega), by rw [List.drop_append, List.drop_of_length_le (by omega), hA]; simp⟩
  rw [List.append_assoc (its.take (i + 1)), (key _ _ l1).1, (key _ _ l1).2, List.take_take]
  simp
set_option maxRecDepth 100000 in
set_option maxHeartbeats 4000000 in
theorem insert_in {w : World} {g i vb : Nat} {its ys : List It} {x : It} (hr : Rowb w g (its ++ ys)) (hm : its.length + ys.length ≤ maxLen) (hi : i < its.length) (hy : 0 < ys.length) (hvb : Rowb w vb [x]) (hne : vb ≠ g) (hl : its.length ≤ 1000) :
    Calls Try.prog 83 #[.slice (some ⟨g, 0, none⟩) its.length (its.length + ys.length), .int .i64 i, .slice (some ⟨vb, 0, none⟩) 1 1] w fun e w' => ∃ v', e = .returned v' ∧ RowS w' v' (its.take i ++ [x] ++ its.drop i) ∧ w.grownBy w' (some g) ∧ v'.ownBlock = some g := by
  have hov := fun la ca lb cb o => overlaps_no (i := o) (la := la) (ca := ca) (lb := lb) (cb := cb) hr hvb hne (by intro e; simp at e; have := e.1; rw [this] at hi; simp at hi)
  have HR := Kp.mk hr
  unfold maxLen at hm
  clear hr
  generalize hn : its.length = n at *
  generalize hc : n + ys.length = c at *
  have hw1 : IntKind.i64.wrap ((n : Int) + 1) = (n : Int) + 1 := by rw [IntKind.wrap_i64]; omega
  have hw2 : IntKind.i64.wrap ((i : Int) + 1) = (i : Int) + 1 := by rw [IntKind.wrap_i64]; omega
  go_enter Try.func83, Try.ntmps83
  have mixed : Try.prog.follows .mixedOrders = true := by kernel_rfl
  have b1 : (0 : Int) ≤ (i : Int) + 1 := by omega
  have b2 : ((i : Int) + 1).toNat = i + 1 := by omega
  have b3 : ¬ (c = i + 1) := by omega
  have b4 : ¬ (c = i) := by omega
  have b5 : (i : Int) ≤ (n : Int) + 1 := by omega
  have b6 : (i : Int) + 1 ≤ (n : Int) + 1 := by omega
  have HR0 : Rowb w.drew g (its ++ ys) := HR.out
  obtain ⟨w1, hrun1, hR1, hg1, hz1⟩ := run_copyR (w := w.drew) (i := i + 1) (j := i) (dn := n + 1 - (i + 1)) (dc := c - (i + 1)) (sn := n + 1 - i) (sc := c - i) (m := n - i) 3 HR0 HR0 (by simp only [Nat.min_def]; split <;> omega) (by simp; omega) (by simp; omega)
  have hvb1 : Rowb w1 vb [x] := Vb.grown (w := w.drew) hvb hg1 hne
  obtain ⟨w2, hrun2, hR2, hg2, hz2⟩ := run_copyR (w := w1) (i := i) (j := 0) (dn := n + 1 - i) (dc := c - i) (sn := 1) (sc := 1) (m := 1) 3 hR1 hvb1 (by simp only [Nat.min_def]; split <;> omega) (by simp; omega) (by simp)
  rw [Nat.zero_mul] at hrun2
  have HF := Kp.mk (show RowS w2 (.slice (some ⟨g, 0, none⟩) (n + 1) c) (its.take i ++ [x] ++ its.drop i) by
    refine .inr ⟨g, ys.drop 1, ?_, ?_, ?_⟩
    · simp; omega
    · rw [ins_list its ys x i (by omega) hy hn] at hR2
      exact hR2
    · simp; unfold maxLen; omega)
  have HG := Kp.mk (show w.grownBy w2 (some g) from (⟨rfl, rfl, rfl, Nat.le_refl _, fun _ _ _ => rfl⟩ : w.grownBy w.drew (some g)).trans (hg1.trans hg2))
  clear hR2 hg2 hg1 hR1 hvb1 hz1 hz2 HR0
  go_wp2_with (simp only [hov])
  go_region_law_o (refine step_copy_runR rfl _ _ 39 39 rfl _ _ (by simp [Act.eval, Act.put]) (by simp [Act.eval, Act.put]) hrun1 ?_)
  go_wp2_with (at_builtin; refine wpList_copy_runR _ rfl _ _ 39 39 rfl _ _ rfl rfl hrun2 ?_)
  go_ret
  exact ⟨_, rfl, HF.out, HG.out, rfl⟩
/-- append(a piece of a row, make(..)...), where there is no room. -/
theorem run_append_zerosR {w : World} (ty : TypeId) {g i c k : Nat} {ys : List It} (hr : Rowb w g ys) (hi : i ≤ ys.length) (hk : 0 < k) (hroom : c < i + k) (hsz : i + k ≤ 1000000000) :
    ∃ gc w', (Builtin.append_ #[39, 3] ty #[.slice (some ⟨g, 0, none⟩) i c, .int .i64 k]).run Try.prog w = .ok (.slice (some ⟨w.heap.size, 0, none⟩) (i + k) gc) w' ∧ i + k ≤ gc ∧ gc ≤ maxLen ∧ Rowb w' w.heap.size (ys.take i ++ List.replicate k zIt ++ List.replicate (gc - (i + k)) zIt) ∧ Below w.heap.size w w' := by
  obtain ⟨i0, hi0, hz0, hz1, hz2⟩ := info_parts info_rule
  have hn : k ≠ 0 := by omega
  have hw : IntKind.i64.wrap (k : Int) = k := by rw [IntKind.wrap_i64]; omega
  have h63' : ¬ (9223372036854775807 < ((i : Int) + (k : Int))) := by omega
  have hfit := growslice_fits (bytes := 80) hroom (by omega)
  have h48' : ¬ (281474976710656 < Builtin.nextslicecap (i + k) c * 80) := by omega
  have h48i : ¬ (281474976710656 < (k : Int) * 80) := by omega
  have hneg : ¬ ((k : Int) < 0) := by omega
  have hns : ¬ (k * 13 = 0) := by omega
  have hnr : ¬ (i + k ≤ c) := by omega
  have hold := run_firstCells_some (P := Try.prog) w.drew 13 i ⟨g, 0, none⟩ i c ((ys.take i).flatMap ics) (by rw [fl_len]; simp; omega) (by have := Rowb.cellsT (w := w.drew) hr 0 i; simpa using this)
  have hge := grownCap_ge w (i + k) c 31
  have hlm := grownCap_le_maxLen w (i + k) c 31 (by unfold maxLen; omega)
  refine ⟨grownCap w (i + k) c 31, w.drew.alloc (.cells (((ys.take i).flatMap ics).toArray ++ Builtin.zeroCells (Value.agg (ics zIt).toArray).cells k ++ Builtin.zeroCells (Value.agg (ics zIt).toArray).cells (grownCap w (i + k) c 31 - (i + k))) 31), ?_, hge, hlm, ?_, ?_⟩
  · simp [Builtin.append_, run_underlying Try.underlying39, run_underlying Try.underlying3, sizeOf, typeInfo, zeroValue, hi0, hz0, hz1, hz2, asInt, asIntOf, hw, hn, hneg, hnr, hns, h63', h48', h48i, Question.forced, hold, newRow, grownCap]
  · generalize grownCap w (i + k) c 31 = gc at *
    have hv := Vb.new 31 w.drew ((ys.take i ++ List.replicate k zIt ++ List.replicate (gc - (i + k)) zIt).flatMap ics)
    have e : ((ys.take i ++ List.replicate k zIt ++ List.replicate (gc - (i + k)) zIt).flatMap ics).toArray = ((ys.take i).flatMap ics).toArray ++ Builtin.zeroCells (Value.agg (ics zIt).toArray).cells k ++ Builtin.zeroCells (Value.agg (ics zIt).toArray).cells (gc - (i + k)) := by
      apply Array.ext'
      rw [Array.toList_append, Array.toList_append, zeros_fl, zeros_fl, List.flatMap_append, List.flatMap_append]
    rw [e] at hv
    exact hv
  · exact ((Below.refl _ w).drew).alloc (Nat.le_refl _) _
theorem ins_list2 (its : List It) (x : It) (i : Nat) (hi : i < its.length) {n : Nat} (hn : its.length = n) (zs : List It) :
    ((its.take i ++ List.replicate (n + 1 - i) zIt ++ zs).take i ++ (([x] : List It).drop 0).take 1 ++ (its.take i ++ List.replicate (n + 1 - i) zIt ++ zs).drop (i + 1)).take (i + 1) ++ (its.drop i).take (n - i) ++ ((its.take i ++ List.replicate (n + 1 - i) zIt ++ zs).take i ++ (([x] : List It).drop 0).take 1 ++ (its.take i ++ List.replicate (n + 1 - i) zIt ++ zs).drop (i + 1)).drop (i + 1 + (n - i)) = (its.take i ++ [x] ++ its.drop i) ++ zs := by
  subst hn
  have l1 : (its.take i).length = i := by simp; omega
  have key : ∀ (A D : List It), A.length = i → (A ++ D).take i = A ∧ (A ++ D).drop (i + 1) = D.drop 1 := fun A D hA => ⟨by rw [List.take_append_of_le_length (by omega), List.take_of_length_le (by omega)], by rw [List.drop_append, List.drop_of_length_le (by omega), hA]; simp⟩
  have key2 : ∀ (A D : List It), A.length = i + 1 → (A ++ D).take (i + 1) = A ∧ ∀ k, (A ++ D).drop (i + 1 + k) = D.drop k := fun A D hA => ⟨by rw [List.take_append_of_le_length (by omega), List.take_of_length_le (by omega)], fun k => by rw [List.drop_append, List.drop_of_length_le (by omega), hA]; simp⟩
  rw [List.append_assoc (its.take i) (List.replicate _ _), (key _ _ l1).1, (key _ _ l1).2]
  rw [show (([x] : List It).drop 0).take 1 = [x] from rfl]
  have l2 : (its.take i ++ [x]).length = i + 1 := by simp; omega
  have e3 : (its.drop i).take (its.length - i) = its.drop i := List.take_of_length_le (by simp)
  have e4 : (List.replicate (its.length - i) zIt).drop (its.length - i) = [] := List.drop_of_length_le (by simp)
  rw [(key2 _ _ l2).1, (key2 _ _ l2).2, e3, show its.length + 1 - i = (its.length - i) + 1 by omega, List.replicate_succ, List.cons_append, List.drop_succ_cons, List.drop_zero, List.drop_append, e4]
  simp
set_option maxRecDepth 100000 in
set_option maxHeartbeats 4000000 in
theorem insert_grow {w : World} {g i vb : Nat} {its : List It} {x : It} (hr : Rowb w g its) (hi : i < its.length) (hvb : Rowb w vb [x]) (hne : vb ≠ g) (hl : its.length ≤ 1000) :
    Calls Try.prog 83 #[.slice (some ⟨g, 0, none⟩) its.length its.length, .int .i64 i, .slice (some ⟨vb, 0, none⟩) 1 1] w fun e w' => ∃ v', e = .returned v' ∧ RowS w' v' (its.take i ++ [x] ++ its.drop i) ∧ Below w.heap.size w w' ∧ v'.ownBlock = some w.heap.size := by
  have HR := Kp.mk hr
  clear hr
  generalize hn : its.length = n at *
  have hw1 : IntKind.i64.wrap ((n : Int) + 1) = (n : Int) + 1 := by rw [IntKind.wrap_i64]; omega
  have hw2 : IntKind.i64.wrap ((i : Int) + 1) = (i : Int) + 1 := by rw [IntKind.wrap_i64]; omega
  have hw3 : IntKind.i64.wrap ((n : Int) + 1 - i) = ((n + 1 - i : Nat) : Int) := by rw [IntKind.wrap_i64]; omega
  have mixed : Try.prog.follows .mixedOrders = true := by kernel_rfl
  have b1 : (0 : Int) ≤ (i : Int) + 1 := by omega
  have b2 : ((i : Int) + 1).toNat = i + 1 := by omega
  have b4 : ¬ (n = i) := by omega
  obtain ⟨gc, w1, hrun1, hge, hgm, hR1, hb1⟩ := run_append_zerosR (w := w) 39 (i := i) (c := n) (k := n + 1 - i) HR.out (by omega) (by omega) (by omega) (by omega)
  have e0 : i + (n + 1 - i) = n + 1 := by omega
  rw [e0] at hrun1 hge hR1
  have hvb1 : Rowb w1 vb [x] := Vb.below hvb hb1 (Vb.lt hvb)
  have hR1' : Rowb w1 g its := Vb.below HR.out hb1 (Vb.lt HR.out)
  obtain ⟨w2, hrun2, hR2, hg2, hz2⟩ := run_copyR (w := w1) (i := i) (j := 0) (dn := n + 1 - i) (dc := gc - i) (sn := 1) (sc := 1) (m := 1) 3 hR1 hvb1 (by simp only [Nat.min_def]; split <;> omega) (by simp; omega) (by simp)
  rw [Nat.zero_mul] at hrun2
  have hR2' : Rowb w2 g its := Vb.grown hR1' hg2 (by have := Vb.lt HR.out; omega)
  obtain ⟨w3, hrun3, hR3, hg3, hz3⟩ := run_copyR (w := w2.drew) (i := i + 1) (j := i) (dn := n + 1 - (i + 1)) (dc := gc - (i + 1)) (sn := n - i) (sc := n - i) (m := n - i) 3 hR2 hR2' (by simp only [Nat.min_def]; split <;> omega) (by simp; omega) (by omega)
  have HF := Kp.mk (show RowS w3 (.slice (some ⟨w.heap.size, 0, none⟩) (n + 1) gc) (its.take i ++ [x] ++ its.drop i) by
    refine .inr ⟨w.heap.size, List.replicate (gc - (n + 1)) zIt, ?_, ?_, ?_⟩
    · simp; omega
    · rw [ins_list2 its x i (by omega) hn] at hR3
      exact hR3
    · simp; omega)
  have HB := Kp.mk (show Below w.heap.size w w3 from ((hb1.grown hg2 hb1.size (fun k e => by simp at e; omega)).drew).grown hg3 (by have := hb1.size; have := hg2.size; show w.heap.size ≤ w2.heap.size; omega) (fun k e => by simp at e; omega))
  have b3 : ¬ (gc = i + 1) := by omega
  have b7 : ¬ (gc = i) := by omega
  have b5 : (i : Int) ≤ (n : Int) + 1 := by omega
  have b6 : (i : Int) + 1 ≤ (n : Int) + 1 := by omega
  have b8 : i ≤ n := by omega
  clear hR1 hb1 hvb1 hR1' hR2 hg2 hz2 hR2' hR3 hg3 hz3 hvb
  go_enter Try.func83, Try.ntmps83
  go_wp2_with (at_builtin; first | refine Lib.wpList_append_run _ rfl _ _ _ _ rfl _ _ rfl rfl _ _ hrun1 ?_ | refine wpList_copy_runR _ rfl _ _ 39 39 rfl _ _ rfl rfl hrun2 ?_)
  go_region_law_o (refine step_copy_runR rfl _ _ 39 39 rfl _ _ (by simp [Act.eval, Act.put]) (by simp [Act.eval, Act.put]) hrun3 ?_)
  go_wp2_with fail
  go_ret
  exact ⟨_, rfl, HF.out, HB.out, rfl⟩
end Go.Proofs.Ytcolklkjaifplaa.Oct

namespace Go.Proofs.Ytcolklkjaifplaa.Oct
open Go.RowKit
set_option linter.unusedVariables false
set_option linter.unusedSimpArgs false

theorem insert_any {w : World} {v : Value} {its : List It} {i vb : Nat} {x : It} (hv : RowS w v its) (hi : i ≤ its.length) (hvb : Rowb w vb [x]) (hne : v.ownBlock ≠ some vb) (hl : its.length ≤ 1000) :
    Calls Try.prog 83 #[v, .int .i64 i, .slice (some ⟨vb, 0, none⟩) 1 1] w fun e w' => ∃ v', e = .returned v' ∧ RowS w' v' (its.take i ++ [x] ++ its.drop i) ∧ w.grownBy w' v.ownBlock ∧ Nx w v v' := by
  by_cases he : i = its.length
  · subst he
    have := insert_end hv hvb hl
    simpa using this
  · rcases hv with ⟨rfl, rfl⟩ | ⟨g, ys, rfl, hr, hm⟩
    · simp at he hi; omega
    · have hne' : vb ≠ g := fun e => hne (by rw [e]; rfl)
      by_cases hy : 0 < ys.length
      · refine (insert_in hr hm (by omega) hy hvb hne' hl).mono ?_
        rintro e w' ⟨v', rfl, h1, h2, h3⟩
        exact ⟨v', rfl, h1, h2, .inl h3⟩
      · have hy0 := List.eq_nil_of_length_eq_zero (Nat.eq_zero_of_not_pos hy)
        subst hy0
        rw [List.append_nil] at hr
        refine (insert_grow hr (by omega) hvb hne' hl).mono ?_
        rintro e w' ⟨v', rfl, h1, h2, h3⟩
        exact ⟨v', rfl, h1, grown_of_below h2 _, .inr ⟨_, h3, Nat.le_refl _⟩⟩
theorem run_append_roomR {w : World} (ty : TypeId) {g h i j m c sc : Nat} {ys zs : List It} (hg : Rowb w g ys) (hh : Rowb w h zs) (hroom : i + m ≤ c) (hfit : i + m ≤ ys.length) (hj : j + m ≤ zs.length) :
    ∃ w', (Builtin.append_ #[39, 39] ty #[.slice (some ⟨g, 0, none⟩) i c, .slice (some ⟨h, j * 13, none⟩) m sc]).run Try.prog w = .ok (.slice (some ⟨g, 0, none⟩) (i + m) c) w' ∧ Rowb w' g (ys.take i ++ (zs.drop j).take m ++ ys.drop (i + m)) ∧ w.grownBy w' (some g) ∧ w'.heap.size = w.heap.size := by
  obtain ⟨i0, hi0, hz0, hz1, hz2⟩ := info_parts info_rule
  have hl : ((zs.drop j).take m).length = m := by simp; omega
  obtain ⟨w', hst, h1, h2, h3⟩ := hg.store i m ((zs.drop j).take m) hl hfit
  have hf := run_firstCells_some (P := Try.prog) w 13 m ⟨h, j * 13, none⟩ m sc (((zs.drop j).take m).flatMap ics) (by rw [fl_len, hl]) (hh.cellsT j m)
  refine ⟨w', ?_, h1, h2, h3⟩
  simp [Builtin.append_, run_underlying Try.underlying39, sizeOf, typeInfo, hi0, hz1, Builtin.lenOf, hroom, hf, Addr.add_lit, hst]
theorem step_append_runR {ops : Array Oper} {o : Oper} {a : Act} {w : World} {K : Act → World → Prop} {Q : Exit → Act → World → Prop} {E : Prop}
    (hg : o.guard = none) (d x : Operand) (dT sT : TypeId) (hop : o.op = Op.call { callee := Callee.builtin Builtin.append, args := #[d, x], argTypes := #[dT, sT] })
    (v u : Value) (hd : a.eval d = v) (hx : a.eval x = u) {v' : Value} {w' : World} (hr : (Builtin.append_ #[dT, sT] o.type #[v, u]).run Try.prog w = .ok v' w') (hK : K (a.put o.dst v') w') :
    if Region.wanted o (yielded ops a.tmps) = true then Oper.wp Try.prog o a w K Q else E := by
  have hw : Region.wanted o (yielded ops a.tmps) = true := by simp [Region.wanted, hg]
  rw [if_pos hw]
  unfold Oper.wp
  simp [execOp, hop, resolve, invoke, builtin, hd, hx, hr, Result.andThen]
  exact hK
theorem run_clear0 (w : World) (ty : TypeId) (A : Option Addr) (c : Nat) : (Builtin.clear_ #[39] ty #[.slice A 0 c]).run Try.prog w = .ok (.tuple #[]) w := by
  cases A <;> simp [Builtin.clear_, run_underlying Try.underlying39]
theorem del_list (its ys : List It) (i : Nat) (hi : i < its.length) : (its ++ ys).take i ++ ((its ++ ys).drop (i + 1)).take (its.length - (i + 1)) ++ (its ++ ys).drop (its.length - 1) = (its.take i ++ its.drop (i + 1)) ++ (its.drop (its.length - 1) ++ ys) := by
  have e : (its.drop (i + 1)).take (its.length - (i + 1)) = its.drop (i + 1) := List.take_of_length_le (by simp)
  rw [List.take_append_of_le_length (by omega), List.drop_append_of_le_length (by omega), List.take_append_of_le_length (by simp), List.drop_append_of_le_length (by omega), e]
theorem clr_list (a b : List It) (h : b ≠ []) : ∀ n, a.length = n → (a ++ b).take n ++ List.replicate 1 zIt ++ (a ++ b).drop (n + 1) = a ++ (zIt :: b.drop 1) := by
  intro n hn
  subst hn
  simp
theorem nil_take {α : Type} (l : List α) : (l.drop 0).take 0 = [] := by simp
set_option maxRecDepth 100000 in
set_option maxHeartbeats 4000000 in
theorem delete_any {w : World} {g i : Nat} {its ys : List It} (hr : Rowb w g (its ++ ys)) (hm : its.length + ys.length ≤ maxLen) (hi : i < its.length) (hl : its.length ≤ 1000) :
    Calls Try.prog 54 #[.slice (some ⟨g, 0, none⟩) its.length (its.length + ys.length), .int .i64 i, .int .i64 (i + 1 : Nat)] w fun e w' => ∃ v', e = .returned v' ∧ RowS w' v' (its.take i ++ its.drop (i + 1)) ∧ w.grownBy w' (some g) ∧ v'.ownBlock = some g := by
  have mixed : Try.prog.follows .mixedOrders = true := by kernel_rfl
  have HR0 : Rowb w.drew g (its ++ ys) := hr
  have HR := Kp.mk HR0
  unfold maxLen at hm
  clear hr
  obtain ⟨n, hn⟩ : ∃ n, its.length = n := ⟨_, rfl⟩
  obtain ⟨c, hc⟩ : ∃ c, n + ys.length = c := ⟨_, rfl⟩
  have hd := del_list its ys i hi
  rw [hn] at hi hl hm hd ⊢
  rw [hc] at hm ⊢
  have b0 : ((i + 1 : Nat) : Int) = (i : Int) + 1 := by omega
  have b4 : ¬ (c = i) := by omega
  have bz : (i : Int) ≤ (i : Int) + 1 := by omega
  have bz2 : i ≤ c := by omega
  have bz3 : (i : Int) + 1 ≤ (n : Int) := by omega
  have bz4 : (i : Int) + 1 ≤ (c : Int) := by omega
  have bz5 : ((i : Int) + 1).toNat = i + 1 := by omega
  have bz6 : (0 : Int) ≤ (i : Int) + 1 := by omega
  have b5 : i ≤ n := by omega
  have b6 : i + 1 ≤ n := by omega
  have b7 : n ≤ c := by omega
  have bb : ¬ (c = n - 1) := by omega
  have bx : i + (n - (i + 1)) = n - 1 := by omega
  have by1 : ((n : Int) - 1).toNat = n - 1 := by omega
  have by2 : n - (n - 1) = 1 := by omega
  have hlast : its.drop (n - 1) ++ ys ≠ [] := by
    intro e
    have := congrArg List.length e
    simp at this
    omega
  have hlen : (its.take i ++ its.drop (i + 1)).length = n - 1 := by simp; omega
  by_cases hci : c = i + 1
  · have hin : n = i + 1 := by omega
    subst hin
    subst hci
    simp only [Nat.add_sub_cancel] at hd hlast hlen
    obtain ⟨w1, hrun1, hR1, hg1, hz1⟩ := run_append_roomR (w := w.drew) (i := i) (j := 0) (m := 0) (c := i + 1) (sc := 0) 39 HR0 HR0 (by omega) (by simp; omega) (by simp)
    have hR1' : Rowb w1 g ((its.take i ++ its.drop (i + 1)) ++ (its.drop i ++ ys)) := by
      rw [← hd]
      simpa using hR1
    obtain ⟨w2, hrun2, hR2, hg2, hz2⟩ := run_clearR (w := w1) (i := i) (n := 1) (c := 1) 0 hR1' (by simp; omega)
    rw [clr_list _ _ hlast _ hlen] at hR2
    have HF := Kp.mk (show RowS w2 (.slice (some ⟨g, 0, none⟩) i (i + 1)) (its.take i ++ its.drop (i + 1)) by
      refine .inr ⟨g, _, ?_, hR2, ?_⟩
      · simp; omega
      · simp; unfold maxLen; omega)
    have HG := Kp.mk (show w.grownBy w2 (some g) from (⟨rfl, rfl, rfl, Nat.le_refl _, fun _ _ _ => rfl⟩ : w.grownBy w.drew (some g)).trans (hg1.trans hg2))
    simp only [Nat.add_zero, Nat.zero_mul] at hrun1
    clear hR1 hR1' hg1 hg2 hR2 hz1 hz2 hd HR0
    go_enter Try.func54, Try.ntmps54
    go_wp2_with fail
    go_region_law_o (refine step_append_runR rfl _ _ 39 39 rfl _ _ (by simp [Act.eval, Act.put]) (by simp [Act.eval, Act.put]) hrun1 ?_)
    go_wp2_with (at_builtin; refine wpList_clear_runR _ rfl _ _ rfl _ rfl hrun2 ?_)
    go_ret
    exact ⟨_, rfl, HF.out, HG.out, rfl⟩
  · obtain ⟨w1, hrun1, hR1, hg1, hz1⟩ := run_append_roomR (w := w.drew) (i := i) (j := i + 1) (m := n - (i + 1)) (c := c) (sc := c - (i + 1)) 39 HR0 HR0 (by omega) (by simp; omega) (by simp; omega)
    rw [bx] at hR1
    rw [hd] at hR1
    rw [bx] at hrun1
    obtain ⟨w2, hrun2, hR2, hg2, hz2⟩ := run_clearR (w := w1) (i := n - 1) (n := 1) (c := c - (n - 1)) 0 hR1 (by simp; omega)
    rw [clr_list _ _ hlast _ hlen] at hR2
    have HF := Kp.mk (show RowS w2 (.slice (some ⟨g, 0, none⟩) (n - 1) c) (its.take i ++ its.drop (i + 1)) by
      refine .inr ⟨g, _, ?_, hR2, ?_⟩
      · simp; omega
      · simp; unfold maxLen; omega)
    have HG := Kp.mk (show w.grownBy w2 (some g) from (⟨rfl, rfl, rfl, Nat.le_refl _, fun _ _ _ => rfl⟩ : w.grownBy w.drew (some g)).trans (hg1.trans hg2))
    clear hR1 hg1 hg2 hR2 hz1 hz2 hd HR0
    go_enter Try.func54, Try.ntmps54
    go_wp2_with fail
    go_region_law_o (refine step_append_runR rfl _ _ 39 39 rfl _ _ (by simp [Act.eval, Act.put]) (by simp [Act.eval, Act.put]) hrun1 ?_)
    go_wp2_with (at_builtin; refine wpList_clear_runR _ rfl _ _ rfl _ rfl hrun2 ?_)
    go_ret
    exact ⟨_, rfl, HF.out, HG.out, rfl⟩
end Go.Proofs.Ytcolklkjaifplaa.Oct

namespace Go.Proofs.Ytcolklkjaifplaa.Oct
open Go.RowKit
set_option linter.unusedVariables false
set_option linter.unusedSimpArgs false

theorem below_drewNR {B : Nat} {a w : World} (h : Below B a w) : ∀ n, Below B a (w.drewN n)
  | 0 => h
  | n + 1 => by
    have := below_drewNR h n
    exact ⟨this.os, this.tape, this.output, this.size, this.block⟩
set_option maxRecDepth 100000 in
set_option maxHeartbeats 4000000 in
theorem replace_at {w : World} {v : Value} {its : List It} {i vb : Nat} {x : It} (hv : RowS w v its) (hi : i ≤ its.length) (hvb : Rowb w vb [x]) (hne : v.ownBlock ≠ some vb) (hl : its.length ≤ 1000) :
    Calls Try.prog 53 #[v, .int .i64 i, .int .i64 i, .slice (some ⟨vb, 0, none⟩) 1 1] w fun e w' => ∃ v', e = .returned v' ∧ RowS w' v' (its.take i ++ [x] ++ its.drop i) ∧ w.grownBy w' v.ownBlock ∧ Nx w v v' := by
  have HC := Kp.mk (insert_any hv hi hvb hne hl)
  rcases hv with ⟨rfl, rfl⟩ | ⟨g, ys, rfl, hr, hm⟩
  · obtain rfl : i = 0 := by simpa using hi
    clear hvb hne
    go_enter Try.func53, Try.ntmps53
    go_wp2_with fail
    refine HC.out.mono ?_
    rintro e w1 ⟨v', rfl, h⟩
    go_wp2_with fail
    go_ret
    exact ⟨v', rfl, h⟩
  · clear hvb hr hne
    unfold maxLen at hm
    generalize its.length = n at *
    generalize hc : n + ys.length = c at *
    have b1 : n ≤ c := by omega
    have b2 : i ≤ c := by omega
    by_cases hci : c = i
    · obtain rfl : n = i := by omega
      subst hci
      go_enter Try.func53, Try.ntmps53
      go_wp2_with fail
      refine HC.out.mono ?_
      rintro e w1 ⟨v', rfl, h⟩
      go_wp2_with fail
      go_ret
      exact ⟨v', rfl, h⟩
    · go_enter Try.func53, Try.ntmps53
      go_wp2_with fail
      refine HC.out.mono ?_
      rintro e w1 ⟨v', rfl, h⟩
      go_wp2_with fail
      go_ret
      exact ⟨v', rfl, h⟩
theorem rep_list (its ys : List It) (x : It) (i : Nat) (hi : i < its.length) : (its ++ ys).take i ++ (([x] : List It).drop 0).take 1 ++ (its ++ ys).drop (i + 1) = (its.take i ++ [x] ++ its.drop (i + 1)) ++ ys := by
  rw [List.take_append_of_le_length (by omega), List.drop_append_of_le_length (by omega)]
  simp
theorem self_list (l : List It) (k m : Nat) (h : k + m ≤ l.length) : l.take k ++ (l.drop k).take m ++ l.drop (k + m) = l := by
  rw [List.append_assoc, show l.drop (k + m) = (l.drop k).drop m by rw [List.drop_drop], List.take_append_drop, List.take_append_drop]
set_option maxRecDepth 100000 in
set_option maxHeartbeats 4000000 in
theorem replace_over {w : World} {g i vb : Nat} {its ys : List It} {x : It} (hr : Rowb w g (its ++ ys)) (hm : its.length + ys.length ≤ maxLen) (hi : i < its.length) (hvb : Rowb w vb [x]) (hne : vb ≠ g) (hl : its.length ≤ 1000) :
    Calls Try.prog 53 #[.slice (some ⟨g, 0, none⟩) its.length (its.length + ys.length), .int .i64 i, .int .i64 (i + 1 : Nat), .slice (some ⟨vb, 0, none⟩) 1 1] w fun e w' => ∃ v', e = .returned v' ∧ RowS w' v' (its.take i ++ [x] ++ its.drop (i + 1)) ∧ w.grownBy w' (some g) ∧ v'.ownBlock = some g := by
  have mixed : Try.prog.follows .mixedOrders = true := by kernel_rfl
  have HR := Kp.mk hr
  have HV := Kp.mk hvb
  have hrep := rep_list its ys x i hi
  unfold maxLen at hm
  clear hr hvb
  obtain ⟨n, hn⟩ : ∃ n, its.length = n := ⟨_, rfl⟩
  obtain ⟨c, hc⟩ : ∃ c, n + ys.length = c := ⟨_, rfl⟩
  rw [hn] at hi hl hm ⊢
  rw [hc] at hm ⊢
  have hyc : (its ++ ys).length = c := by simp [hn, hc]
  have hyd : (its.take i ++ [x] ++ its.drop (i + 1)).length = n := by simp; omega
  have hye : ((its.take i ++ [x] ++ its.drop (i + 1)) ++ ys).length = c := by rw [List.length_append, hyd]; exact hc
  have b0 : ((i + 1 : Nat) : Int) = (i : Int) + 1 := by omega
  have b1 : i ≤ n := by omega
  have b2 : i ≤ c := by omega
  have b3 : n ≤ c := by omega
  have b4 : (i : Int) + 1 ≤ n := by omega
  have b5 : (i : Int) + 1 ≤ c := by omega
  have b6 : ((i : Int) + 1).toNat = i + 1 := by omega
  have b7 : (0 : Int) ≤ (i : Int) + 1 := by omega
  have b8 : ¬ (c = i) := by omega
  have b9 : i + 1 ≤ n := by omega
  by_cases hin : n = i + 1
  · subst hin
    obtain ⟨w1, hrun1, hR1, hg1, hz1⟩ := run_append_roomR (w := w) (i := i) (j := 0) (m := 1) (c := c) (sc := 1) 39 HR.out HV.out (by omega) (by omega) (by simp)
    rw [hrep] at hR1
    have HF := Kp.mk (show RowS w1 (.slice (some ⟨g, 0, none⟩) (i + 1) c) (its.take i ++ [x] ++ its.drop (i + 1)) by
      refine .inr ⟨g, ys, ?_, hR1, ?_⟩
      · rw [hyd, hc]
      · rw [hyd, hc]; unfold maxLen; omega)
    have HG := Kp.mk hg1
    simp only [Nat.zero_mul] at hrun1
    clear hR1 hg1 hz1 hrep
    go_enter Try.func53, Try.ntmps53
    go_wp2_with (at_builtin; refine Lib.wpList_append_run _ rfl _ _ _ _ rfl _ _ rfl rfl _ _ hrun1 ?_)
    go_ret
    exact ⟨_, rfl, HF.out, HG.out, rfl⟩
  · have bn : ¬ ((i : Int) + 1 = n) := by omega
    have bw : IntKind.i64.wrap ((i : Int) + 1) = (i : Int) + 1 := by rw [IntKind.wrap_i64]; omega
    have bw2 : IntKind.i64.wrap ((i : Int) + 1 + ((n - (i + 1) : Nat) : Int)) = (n : Int) := by rw [IntKind.wrap_i64]; omega
    by_cases hcn : c = n
    · have hcn2 := hcn.symm
      clear hcn
      subst hcn2
      have bc : ¬ (n = i + 1) := by omega
      go_enter Try.func53, Try.ntmps53
      go_wp2_with fail
      go_quiet (fail)
      have hbq := below_drewNR (Below.refl w.heap.size w) nq
      have HR1 : Rowb (w.drewN nq) g (its ++ ys) := Vb.below HR.out hbq (Vb.lt HR.out)
      have HV1 : Rowb (w.drewN nq) vb [x] := Vb.below HV.out hbq (Vb.lt HV.out)
      obtain ⟨w1, hrun1, hR1, hg1, hz1⟩ := run_copyR (w := w.drewN nq) (i := i) (j := 0) (dn := n - i) (dc := n - i) (sn := 1) (sc := 1) (m := 1) 3 HR1 HV1 (by simp only [Nat.min_def]; split <;> omega) (by omega) (by simp)
      rw [hrep] at hR1
      simp only [Nat.zero_mul] at hrun1
      obtain ⟨w2, hrun2, hR2, hg2, hz2⟩ := run_copyR (w := w1.drew) (i := i + 1) (j := i + 1) (dn := n - (i + 1)) (dc := n - (i + 1)) (sn := n - (i + 1)) (sc := n - (i + 1)) (m := n - (i + 1)) 3 hR1 hR1 (by simp only [Nat.min_def]; split <;> omega) (by omega) (by omega)
      rw [self_list _ _ _ (by omega)] at hR2
      have HF := Kp.mk (show RowS w2 (.slice (some ⟨g, 0, none⟩) n n) (its.take i ++ [x] ++ its.drop (i + 1)) by
        refine .inr ⟨g, ys, ?_, hR2, ?_⟩
        · rw [hyd, hc]
        · rw [hyd, hc]; unfold maxLen; omega)
      have HG := Kp.mk (show w.grownBy w2 (some g) from ((grown_of_below hbq _).trans hg1).trans ((⟨rfl, rfl, rfl, Nat.le_refl _, fun _ _ _ => rfl⟩ : w1.grownBy w1.drew (some g)).trans hg2))
      clear hR1 hg1 hg2 hR2 hz1 hz2 hbq HR1 HV1
      generalize w.drewN nq = wq at *
      go_wp2_with (at_builtin; refine wpList_copy_runR _ rfl _ _ 39 39 rfl _ _ rfl rfl hrun1 ?_)
      go_region_law_o (refine step_copy_runR rfl _ _ 39 39 rfl _ _ (by simp [Act.eval, Act.put]) (by simp [Act.eval, Act.put]) hrun2 ?_)
      have hq := run_clear0 w2 0 (some ⟨g, 0, none⟩) 0
      go_wp2_with fail
      all_goals (go_ret; exact ⟨_, rfl, HF.out, HG.out, rfl⟩)
    · have bc2 : ¬ (n = c) := fun e => hcn e.symm
      have bc : ¬ (c = i + 1) := by omega
      go_enter Try.func53, Try.ntmps53
      go_wp2_with fail
      go_quiet (fail)
      have hbq := below_drewNR (Below.refl w.heap.size w) nq
      have HR1 : Rowb (w.drewN nq) g (its ++ ys) := Vb.below HR.out hbq (Vb.lt HR.out)
      have HV1 : Rowb (w.drewN nq) vb [x] := Vb.below HV.out hbq (Vb.lt HV.out)
      obtain ⟨w1, hrun1, hR1, hg1, hz1⟩ := run_copyR (w := w.drewN nq) (i := i) (j := 0) (dn := n - i) (dc := c - i) (sn := 1) (sc := 1) (m := 1) 3 HR1 HV1 (by simp only [Nat.min_def]; split <;> omega) (by omega) (by simp)
      rw [hrep] at hR1
      simp only [Nat.zero_mul] at hrun1
      obtain ⟨w2, hrun2, hR2, hg2, hz2⟩ := run_copyR (w := w1.drew) (i := i + 1) (j := i + 1) (dn := n - (i + 1)) (dc := c - (i + 1)) (sn := n - (i + 1)) (sc := c - (i + 1)) (m := n - (i + 1)) 3 hR1 hR1 (by simp only [Nat.min_def]; split <;> omega) (by omega) (by omega)
      rw [self_list _ _ _ (by omega)] at hR2
      have HF := Kp.mk (show RowS w2 (.slice (some ⟨g, 0, none⟩) n c) (its.take i ++ [x] ++ its.drop (i + 1)) by
        refine .inr ⟨g, ys, ?_, hR2, ?_⟩
        · rw [hyd, hc]
        · rw [hyd, hc]; unfold maxLen; omega)
      have HG := Kp.mk (show w.grownBy w2 (some g) from ((grown_of_below hbq _).trans hg1).trans ((⟨rfl, rfl, rfl, Nat.le_refl _, fun _ _ _ => rfl⟩ : w1.grownBy w1.drew (some g)).trans hg2))
      clear hR1 hg1 hg2 hR2 hz1 hz2 hbq HR1 HV1
      generalize w.drewN nq = wq at *
      go_wp2_with (at_builtin; refine wpList_copy_runR _ rfl _ _ 39 39 rfl _ _ rfl rfl hrun1 ?_)
      go_region_law_o (refine step_copy_runR rfl _ _ 39 39 rfl _ _ (by simp [Act.eval, Act.put]) (by simp [Act.eval, Act.put]) hrun2 ?_)
      have hq := run_clear0 w2 0 (some ⟨g, n * 13, none⟩) (c - n)
      go_wp2_with fail
      all_goals (go_ret; exact ⟨_, rfl, HF.out, HG.out, rfl⟩)
end Go.Proofs.Ytcolklkjaifplaa.Oct
