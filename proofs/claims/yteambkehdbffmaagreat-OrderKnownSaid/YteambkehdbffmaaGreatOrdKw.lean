/- The walk of OrderKnown. -/
import Derived.Test.YteambkehdbffmaaGreatOrdKn
namespace Go.Proofs.YteambkehdbffmaaGreat.Oct
open Go.RowKit
set_option linter.unusedVariables false
set_option linter.unusedSimpArgs false

theorem run_buildSlice {w : World} (t elem : TypeId) (len : Nat) (parts : Array (Nat × Value)) (cells : Array Value) (i0 : TypeInfo) (hu : Tryz.prog.underlying t = some (.slice elem)) (hi : Tryz.prog.info? elem = some i0) (hs : ¬ (2 ^ 24 < len * i0.size)) (h0 : ¬ (len * i0.size = 0)) (z : Value) (hz : i0.zero = some z)
    (hf : Instr.fill (fun i => some (i * i0.size, i0.size)) ((Array.range (len * i0.size)).map (fun k => z.cells[k % z.cells.size]!)) parts.toList = some cells) :
    (Instr.buildSlice t len parts).run Tryz.prog w = .ok (.slice (some ⟨w.heap.size, 0, none⟩) len len) (w.alloc (.cells cells elem)) := by
  unfold Instr.buildSlice
  rw [Sem.run_bind, run_underlying hu w]
  have hn : (newRow elem cells).run Tryz.prog w = .ok ⟨w.heap.size, 0, none⟩ (w.alloc (.cells cells elem)) := rfl
  simp [Sem.run_bind, sizeOf, typeInfo, hi, hs, h0, zeroValue, hz, hf, hn]
theorem wpList_buildSlice {w : World} {ops : Array Oper} {rest : List Oper} {o : Oper} {a : Act} {Q : Exit → Act → World → Prop} (hgd : o.guard = none) (t elem : TypeId) (len : Nat) (ps : Array (Nat × Operand)) (ho : o.op = .buildSlice t len ps) (cells : Array Value) (i0 : TypeInfo) (hu : Tryz.prog.underlying t = some (.slice elem)) (hi : Tryz.prog.info? elem = some i0) (n : Nat) (hn : i0.size = n) (hs : ¬ (2 ^ 24 < len * n)) (h0 : ¬ (len * n = 0)) (z : Value) (hz : i0.zero = some z)
    (hf : Instr.fill (fun i => some (i * n, n)) ((Array.range (len * n)).map (fun k => z.cells[k % z.cells.size]!)) (ps.map fun (i, x) => (i, a.eval x)).toList = some cells)
    (h : wpList Tryz.prog ops Q rest (a.put o.dst (.slice (some ⟨w.heap.size, 0, none⟩) len len)) (w.alloc (.cells cells elem))) : wpList Tryz.prog ops Q (o :: rest) a w := by
  subst hn
  refine wpList_plain hgd fun K hK => ?_
  have hr := run_buildSlice (w := w) t elem len (ps.map fun (i, x) => (i, a.eval x)) cells i0 hu hi hs h0 z hz hf
  unfold Oper.wp execOp
  simp only [ho, Sem.run_bind, Sem.run_pure, Result.andThen_ok, hr]
  exact hK _ _ h
theorem info_rule_ : (Tryz.prog.info? 29).map (fun i => (i.zero, i.size)) = some (some (.agg #[.int .i64 0, .int .i64 0, .int .i64 0, .int .i64 0, .int .i64 0, .int .i64 0, .int .u8 0, .int .u8 0, .int .u8 0, .int .u8 0, .int .u8 0, .int .u8 0, .slice none 0 0]), 13) := by kernel_rfl
theorem rule_info : ∃ i0, Tryz.prog.info? 29 = some i0 ∧ i0.size = 13 ∧ i0.zero = some (.agg #[.int .i64 0, .int .i64 0, .int .i64 0, .int .i64 0, .int .i64 0, .int .i64 0, .int .u8 0, .int .u8 0, .int .u8 0, .int .u8 0, .int .u8 0, .int .u8 0, .slice none 0 0]) := by
  have h := info_rule_
  cases hq : Tryz.prog.info? 29 with
  | none => rw [hq] at h; simp at h
  | some i0 =>
    rw [hq] at h
    simp only [Option.map_some, Option.some.injEq, Prod.mk.injEq] at h
    exact ⟨i0, rfl, h.2, h.1⟩
def sixC (s9 s8 s1 : Value) : List Value := [.int .i64 1, .int .i64 65535, .int .i64 0, .int .i64 0, .int .i64 200, .int .i64 4, .int .u8 255, .int .u8 255, .int .u8 255, .int .u8 1, .int .u8 2, .int .u8 255, s9] ++ ([.int .i64 1, .int .i64 65535, .int .i64 0, .int .i64 0, .int .i64 200, .int .i64 4, .int .u8 255, .int .u8 253, .int .u8 255, .int .u8 1, .int .u8 2, .int .u8 255, s8] ++ ([.int .i64 2, .int .i64 1, .int .i64 0, .int .i64 0, .int .i64 0, .int .i64 0, .int .u8 0, .int .u8 0, .int .u8 0, .int .u8 0, .int .u8 0, .int .u8 0, .slice none 0 0] ++ ([.int .i64 2, .int .i64 0, .int .i64 0, .int .i64 0, .int .i64 0, .int .i64 1, .int .u8 0, .int .u8 0, .int .u8 0, .int .u8 0, .int .u8 0, .int .u8 0, .slice none 0 0] ++ ([.int .i64 2, .int .i64 0, .int .i64 0, .int .i64 0, .int .i64 0, .int .i64 0, .int .u8 0, .int .u8 0, .int .u8 0, .int .u8 0, .int .u8 0, .int .u8 0, s1] ++ ([.int .i64 0, .int .i64 0, .int .i64 0, .int .i64 0, .int .i64 0, .int .i64 0, .int .u8 0, .int .u8 0, .int .u8 0, .int .u8 0, .int .u8 0, .int .u8 0, .slice none 0 0])))))
set_option maxRecDepth 100000 in
theorem fill_six (s9 s8 s1 : Value) : Instr.fill (fun i => some (i * 13, 13)) ((Array.range (6 * 13)).map (fun k => (Value.agg #[.int .i64 0, .int .i64 0, .int .i64 0, .int .i64 0, .int .i64 0, .int .i64 0, .int .u8 0, .int .u8 0, .int .u8 0, .int .u8 0, .int .u8 0, .int .u8 0, .slice none 0 0]).cells[k % (Value.agg #[.int .i64 0, .int .i64 0, .int .i64 0, .int .i64 0, .int .i64 0, .int .i64 0, .int .u8 0, .int .u8 0, .int .u8 0, .int .u8 0, .int .u8 0, .int .u8 0, .slice none 0 0]).cells.size]!)) [(0, .agg #[.int .i64 1, .int .i64 65535, .int .i64 0, .int .i64 0, .int .i64 200, .int .i64 4, .int .u8 255, .int .u8 255, .int .u8 255, .int .u8 1, .int .u8 2, .int .u8 255, s9]), (1, .agg #[.int .i64 1, .int .i64 65535, .int .i64 0, .int .i64 0, .int .i64 200, .int .i64 4, .int .u8 255, .int .u8 253, .int .u8 255, .int .u8 1, .int .u8 2, .int .u8 255, s8]), (2, .agg #[.int .i64 2, .int .i64 1, .int .i64 0, .int .i64 0, .int .i64 0, .int .i64 0, .int .u8 0, .int .u8 0, .int .u8 0, .int .u8 0, .int .u8 0, .int .u8 0, .slice none 0 0]), (3, .agg #[.int .i64 2, .int .i64 0, .int .i64 0, .int .i64 0, .int .i64 0, .int .i64 1, .int .u8 0, .int .u8 0, .int .u8 0, .int .u8 0, .int .u8 0, .int .u8 0, .slice none 0 0]), (4, .agg #[.int .i64 2, .int .i64 0, .int .i64 0, .int .i64 0, .int .i64 0, .int .i64 0, .int .u8 0, .int .u8 0, .int .u8 0, .int .u8 0, .int .u8 0, .int .u8 0, s1]), (5, .agg #[.int .i64 0, .int .i64 0, .int .i64 0, .int .i64 0, .int .i64 0, .int .i64 0, .int .u8 0, .int .u8 0, .int .u8 0, .int .u8 0, .int .u8 0, .int .u8 0, .slice none 0 0])] = some (sixC s9 s8 s1).toArray := by kernel_rfl
theorem wpList_six {w : World} {ops : Array Oper} {rest : List Oper} {o : Oper} {a : Act} {Q : Exit → Act → World → Prop} (hgd : o.guard = none) (x1 x2 x3 x4 x5 x6 : Operand) (ho : o.op = .buildSlice 40 6 #[(0, x1), (1, x2), (2, x3), (3, x4), (4, x5), (5, x6)]) (s9 s8 s1 : Value)
    (e1 : a.eval x1 = .agg #[.int .i64 1, .int .i64 65535, .int .i64 0, .int .i64 0, .int .i64 200, .int .i64 4, .int .u8 255, .int .u8 255, .int .u8 255, .int .u8 1, .int .u8 2, .int .u8 255, s9]) (e2 : a.eval x2 = .agg #[.int .i64 1, .int .i64 65535, .int .i64 0, .int .i64 0, .int .i64 200, .int .i64 4, .int .u8 255, .int .u8 253, .int .u8 255, .int .u8 1, .int .u8 2, .int .u8 255, s8]) (e3 : a.eval x3 = .agg #[.int .i64 2, .int .i64 1, .int .i64 0, .int .i64 0, .int .i64 0, .int .i64 0, .int .u8 0, .int .u8 0, .int .u8 0, .int .u8 0, .int .u8 0, .int .u8 0, .slice none 0 0]) (e4 : a.eval x4 = .agg #[.int .i64 2, .int .i64 0, .int .i64 0, .int .i64 0, .int .i64 0, .int .i64 1, .int .u8 0, .int .u8 0, .int .u8 0, .int .u8 0, .int .u8 0, .int .u8 0, .slice none 0 0]) (e5 : a.eval x5 = .agg #[.int .i64 2, .int .i64 0, .int .i64 0, .int .i64 0, .int .i64 0, .int .i64 0, .int .u8 0, .int .u8 0, .int .u8 0, .int .u8 0, .int .u8 0, .int .u8 0, s1]) (e6 : a.eval x6 = .agg #[.int .i64 0, .int .i64 0, .int .i64 0, .int .i64 0, .int .i64 0, .int .i64 0, .int .u8 0, .int .u8 0, .int .u8 0, .int .u8 0, .int .u8 0, .int .u8 0, .slice none 0 0])
    (h : wpList Tryz.prog ops Q rest (a.put o.dst (.slice (some ⟨w.heap.size, 0, none⟩) 6 6)) (w.alloc (.cells (sixC s9 s8 s1).toArray 29))) : wpList Tryz.prog ops Q (o :: rest) a w := by
  obtain ⟨i0, hi0, hn0, hz0⟩ := rule_info
  refine wpList_buildSlice hgd 40 29 6 _ ho (sixC s9 s8 s1).toArray i0 Tryz.underlying40 hi0 13 hn0 (by decide) (by decide) _ hz0 ?_ h
  have hp : (#[(0, x1), (1, x2), (2, x3), (3, x4), (4, x5), (5, x6)].map fun ((i, x) : Nat × Operand) => (i, a.eval x)).toList = [(0, .agg #[.int .i64 1, .int .i64 65535, .int .i64 0, .int .i64 0, .int .i64 200, .int .i64 4, .int .u8 255, .int .u8 255, .int .u8 255, .int .u8 1, .int .u8 2, .int .u8 255, s9]), (1, .agg #[.int .i64 1, .int .i64 65535, .int .i64 0, .int .i64 0, .int .i64 200, .int .i64 4, .int .u8 255, .int .u8 253, .int .u8 255, .int .u8 1, .int .u8 2, .int .u8 255, s8]), (2, .agg #[.int .i64 2, .int .i64 1, .int .i64 0, .int .i64 0, .int .i64 0, .int .i64 0, .int .u8 0, .int .u8 0, .int .u8 0, .int .u8 0, .int .u8 0, .int .u8 0, .slice none 0 0]), (3, .agg #[.int .i64 2, .int .i64 0, .int .i64 0, .int .i64 0, .int .i64 0, .int .i64 1, .int .u8 0, .int .u8 0, .int .u8 0, .int .u8 0, .int .u8 0, .int .u8 0, .slice none 0 0]), (4, .agg #[.int .i64 2, .int .i64 0, .int .i64 0, .int .i64 0, .int .i64 0, .int .i64 0, .int .u8 0, .int .u8 0, .int .u8 0, .int .u8 0, .int .u8 0, .int .u8 0, s1]), (5, .agg #[.int .i64 0, .int .i64 0, .int .i64 0, .int .i64 0, .int .i64 0, .int .i64 0, .int .u8 0, .int .u8 0, .int .u8 0, .int .u8 0, .int .u8 0, .int .u8 0, .slice none 0 0])] := by
    simp [e1, e2, e3, e4, e5, e6]
  rw [hp]
  exact fill_six s9 s8 s1
theorem eval_put_ne {a : Act} {d t : Nat} {v u : Value} (h : a.eval (.tmp t) = u) (hne : d ≠ t) : (a.put (some d) v).eval (.tmp t) = u := by
  subst h
  simp only [Act.put, Act.eval, Array.getD_eq_getD_getElem?]
  rw [Array.getElem?_setIfInBounds_ne hne]
theorem wpList_five {ty T : TypeId} {c0 c1 c2 c3 c4 : List Value} {g0 g1 g2 g3 g4 : Nat} {w : World} {ops : Array Oper} {rest : List Oper} {o0 o1 o2 o3 o4 : Oper} {a : Act} {Q : Exit → Act → World → Prop}
    (p0 : o0.guard = none ∧ o0.op = .load ty (.tmp 10) ∧ o0.dst = some 168) (p1 : o1.guard = none ∧ o1.op = .load ty (.tmp 11) ∧ o1.dst = some 169) (p2 : o2.guard = none ∧ o2.op = .load ty (.tmp 12) ∧ o2.dst = some 170) (p3 : o3.guard = none ∧ o3.op = .load ty (.tmp 13) ∧ o3.dst = some 171) (p4 : o4.guard = none ∧ o4.op = .load ty (.tmp 14) ∧ o4.dst = some 172)
    (x0 : a.eval (.tmp 10) = .pointer (some ⟨g0, 0, none⟩)) (x1 : a.eval (.tmp 11) = .pointer (some ⟨g1, 0, none⟩)) (x2 : a.eval (.tmp 12) = .pointer (some ⟨g2, 0, none⟩)) (x3 : a.eval (.tmp 13) = .pointer (some ⟨g3, 0, none⟩)) (x4 : a.eval (.tmp 14) = .pointer (some ⟨g4, 0, none⟩))
    (h0 : Vb T w g0 c0) (h1 : Vb T w g1 c1) (h2 : Vb T w g2 c2) (h3 : Vb T w g3 c3) (h4 : Vb T w g4 c4)
    (ht : Agg ty 13) (l0 : c0.length = 13) (l1 : c1.length = 13) (l2 : c2.length = 13) (l3 : c3.length = 13) (l4 : c4.length = 13)
    (h : wpList Tryz.prog ops Q rest (((((a.put (some 168) (.agg c0.toArray)).put (some 169) (.agg c1.toArray)).put (some 170) (.agg c2.toArray)).put (some 171) (.agg c3.toArray)).put (some 172) (.agg c4.toArray)) w) : wpList Tryz.prog ops Q (o0 :: o1 :: o2 :: o3 :: o4 :: rest) a w := by
  obtain ⟨q0, r0, s0⟩ := p0
  obtain ⟨q1, r1, s1⟩ := p1
  obtain ⟨q2, r2, s2⟩ := p2
  obtain ⟨q3, r3, s3⟩ := p3
  obtain ⟨q4, r4, s4⟩ := p4
  refine wpList_load_vb (vs := c0) q0 (.tmp 10) r0 x0 h0 (by simp) (by rw [l0]; exact ht) ?_
  rw [s0]
  refine wpList_load_vb (vs := c1) q1 (.tmp 11) r1 (eval_put_ne x1 (by omega)) h1 (by simp) (by rw [l1]; exact ht) ?_
  rw [s1]
  refine wpList_load_vb (vs := c2) q2 (.tmp 12) r2 (eval_put_ne (eval_put_ne x2 (by omega)) (by omega)) h2 (by simp) (by rw [l2]; exact ht) ?_
  rw [s2]
  refine wpList_load_vb (vs := c3) q3 (.tmp 13) r3 (eval_put_ne (eval_put_ne (eval_put_ne x3 (by omega)) (by omega)) (by omega)) h3 (by simp) (by rw [l3]; exact ht) ?_
  rw [s3]
  refine wpList_load_vb (vs := c4) q4 (.tmp 14) r4 (eval_put_ne (eval_put_ne (eval_put_ne (eval_put_ne x4 (by omega)) (by omega)) (by omega)) (by omega)) h4 (by simp) (by rw [l4]; exact ht) ?_
  rw [s4]
  exact h
theorem one_out (w : World) (x : OutV) : Ro (w.alloc (.cells #[.int .i64 x.p, .int .i64 x.a, .int .i64 x.b, .int .i64 x.c] 32)) (w.heap.size + 1) (some ⟨w.heap.size, 0, none⟩) 1 1 [x] := by
  have h9 := (Ron.of_vb (lo := 0) (os := [x]) (Vb.new 32 w (([x]).flatMap ocs)) (Nat.zero_le _) (by simp)).ro
  rw [alloc_size] at h9
  exact h9
set_option maxRecDepth 100000 in
set_option maxHeartbeats 100000000 in
theorem orderKnown_any (w : World) : Calls Tryz.prog 3 #[] w fun e w' => e = .returned (.bool true) ∧ Below w.heap.size w w' := by
  have hE : Vb 3 (w.alloc (.cells #[.int .i64 (-9223372036854775808), .int .i64 (-2), .int .i64 (-1), .int .i64 0, .int .i64 1, .int .i64 2, .int .i64 4, .int .i64 5, .int .i64 6, .int .i64 7, .int .i64 200, .int .i64 201, .int .i64 255, .int .i64 256, .int .i64 65535, .int .i64 65536, .int .i64 4294967295, .int .i64 4294967296, .int .i64 9223372036854775807] 3)) w.heap.size (endsO.map (Value.int .i64)) := Vb.new 3 w (endsO.map (Value.int .i64))
  have hB := below_alloc w (.cells #[.int .i64 (-9223372036854775808), .int .i64 (-2), .int .i64 (-1), .int .i64 0, .int .i64 1, .int .i64 2, .int .i64 4, .int .i64 5, .int .i64 6, .int .i64 7, .int .i64 200, .int .i64 201, .int .i64 255, .int .i64 256, .int .i64 65535, .int .i64 65536, .int .i64 4294967295, .int .i64 4294967296, .int .i64 9223372036854775807] 3)
  go_enter Tryz.func3, Tryz.ntmps3
  go_upto_region 2 with fail
  generalize w.alloc (.cells #[.int .i64 (-9223372036854775808), .int .i64 (-2), .int .i64 (-1), .int .i64 0, .int .i64 1, .int .i64 2, .int .i64 4, .int .i64 5, .int .i64 6, .int .i64 7, .int .i64 200, .int .i64 201, .int .i64 255, .int .i64 256, .int .i64 65535, .int .i64 65536, .int .i64 4294967295, .int .i64 4294967296, .int .i64 9223372036854775807] 3) = w0 at *
  have hE0 := hE.lt
  go_upto_region 3 with (refine wpList_store_new (vs := [.int .i64 1, .int .i64 65535, .int .i64 0, .int .i64 0, .int .i64 200, .int .i64 4, .int .u8 255, .int .u8 255, .int .u8 255, .int .u8 1, .int .u8 2, .int .u8 255, .slice none 0 0]) rfl (.tmp 2) (.tmp 21) rfl rfl rfl rfl rfl rfl agg_rule rfl ?_; intro w1 hF hb2 hz2)
  replace hE := hE.below hb2 hE.lt
  replace hB := hB.trans (hb2.mono hB.size)
  clear hb2 hz2
  generalize w0.heap.size = fb at *
  have hO : Owo w1 (fb + 1) (.slice none 0 0) 0 [] := Owo.nil _ _
  have hFl := hF.lt
  have hw1 : w.heap.size < w1.heap.size := by omega
  go_wp2_with fail
  refine wp_loop_rounds (8 + 1) ?_
  rw [rounds_succ]
  have d12 := hF.cell 12 rfl
  have hrl : Ro (w1.alloc (.cells #[.int .i64 0, .int .i64 255, .int .i64 (-1), .int .i64 0] 32)) (w1.heap.size + 1) (some ⟨w1.heap.size, 0, none⟩) 1 1 [⟨0, 255, -1, 0⟩] := by
    have h9 := (Ron.of_vb (lo := 0) (os := [(⟨0, 255, -1, 0⟩ : OutV)]) (Vb.new 32 w1 (([(⟨0, 255, -1, 0⟩ : OutV)]).flatMap ocs)) (Nat.zero_le _) (by simp)).ro
    rw [alloc_size] at h9
    exact h9
  have hba := below_alloc w1 (.cells #[.int .i64 0, .int .i64 255, .int .i64 (-1), .int .i64 0] 32)
  have hOa := hO.below hba
  have hFa := hF.below hba hF.lt
  have hEa := hE.below hba hE.lt
  have hBa := hB.trans (hba.mono hB.size)
  have hza : fb < (w1.alloc (.cells #[.int .i64 0, .int .i64 255, .int .i64 (-1), .int .i64 0] 32)).heap.size := by simp; omega
  have hda := hFa.cell 12 rfl
  have hfa := hFa.free
  go_upto_region 5 with (at_builtin; refine wpList_appendO rfl (.tmp 27) (.tmp 33) rfl rfl hOa rfl hrl (by omega) (by omega) ?_; intro A0 c0 t0 hO6 hb6 hg6_; have hF6 := hOa.other hg6_ hFa (by omega); have hf6 := hF6.free; have hd6 := hF6.cell 12 rfl)
  have hE6 := hOa.other hg6_ hEa (by omega)
  have hB6 := hBa.trans (hb6.mono (by omega))
  have hF7 : Vb 29 (t0.setCell ⟨fb, 12, none⟩ (.slice A0 1 c0)) fb [.int .i64 1, .int .i64 65535, .int .i64 0, .int .i64 0, .int .i64 200, .int .i64 4, .int .u8 255, .int .u8 255, .int .u8 255, .int .u8 1, .int .u8 2, .int .u8 255, .slice A0 1 c0] := hF6.set 12 _
  have hgs := grownBy_set t0 fb 12 (.slice A0 1 c0)
  have hE7 := hE6.grown hgs (by omega)
  have hB7 := hB6.setCell (p := ⟨fb, 12, none⟩) (by simp; omega) (.slice A0 1 c0)
  have hO7 : Owo (t0.setCell ⟨fb, 12, none⟩ (.slice A0 1 c0)) (fb + 1) (.slice A0 1 c0) 1 [⟨0, 255, -1, 0⟩] := hO6.keep hgs (by omega)
  clear d12 hrl hba hOa hFa hEa hBa hza hda hfa hF6 hf6 hd6 hE6 hB6 hgs hO6 hb6 hg6_ hF hE hB hO hFl
  generalize (t0.setCell ⟨fb, 12, none⟩ (.slice A0 1 c0)) = x0 at *
  have hF := hF7
  have hE := hE7
  have hB := hB7
  have hO := hO7
  have hFl := hF.lt
  clear hF7 hE7 hB7 hO7
  go_wp2_with fail
  rw [rounds_succ]
  have d12 := hF.cell 12 rfl
  have hrl : Ro (x0.alloc (.cells #[.int .i64 1, .int .i64 255, .int .i64 (-1), .int .i64 1] 32)) (x0.heap.size + 1) (some ⟨x0.heap.size, 0, none⟩) 1 1 [⟨1, 255, -1, 1⟩] := by
    have h9 := (Ron.of_vb (lo := 0) (os := [(⟨1, 255, -1, 1⟩ : OutV)]) (Vb.new 32 x0 (([(⟨1, 255, -1, 1⟩ : OutV)]).flatMap ocs)) (Nat.zero_le _) (by simp)).ro
    rw [alloc_size] at h9
    exact h9
  have hba := below_alloc x0 (.cells #[.int .i64 1, .int .i64 255, .int .i64 (-1), .int .i64 1] 32)
  have hOa := hO.below hba
  have hFa := hF.below hba hF.lt
  have hEa := hE.below hba hE.lt
  have hBa := hB.trans (hba.mono hB.size)
  have hza : fb < (x0.alloc (.cells #[.int .i64 1, .int .i64 255, .int .i64 (-1), .int .i64 1] 32)).heap.size := by simp; omega
  have hda := hFa.cell 12 rfl
  have hfa := hFa.free
  go_upto_region 5 with (at_builtin; refine wpList_appendO rfl (.tmp 27) (.tmp 33) rfl rfl hOa rfl hrl (by omega) (by omega) ?_; intro A1 c1 t1 hO6 hb6 hg6_; have hF6 := hOa.other hg6_ hFa (by omega); have hf6 := hF6.free; have hd6 := hF6.cell 12 rfl)
  have hE6 := hOa.other hg6_ hEa (by omega)
  have hB6 := hBa.trans (hb6.mono (by omega))
  have hF7 : Vb 29 (t1.setCell ⟨fb, 12, none⟩ (.slice A1 2 c1)) fb [.int .i64 1, .int .i64 65535, .int .i64 0, .int .i64 0, .int .i64 200, .int .i64 4, .int .u8 255, .int .u8 255, .int .u8 255, .int .u8 1, .int .u8 2, .int .u8 255, .slice A1 2 c1] := hF6.set 12 _
  have hgs := grownBy_set t1 fb 12 (.slice A1 2 c1)
  have hE7 := hE6.grown hgs (by omega)
  have hB7 := hB6.setCell (p := ⟨fb, 12, none⟩) (by simp; omega) (.slice A1 2 c1)
  have hO7 : Owo (t1.setCell ⟨fb, 12, none⟩ (.slice A1 2 c1)) (fb + 1) (.slice A1 2 c1) 2 [⟨0, 255, -1, 0⟩, ⟨1, 255, -1, 1⟩] := hO6.keep hgs (by omega)
  clear d12 hrl hba hOa hFa hEa hBa hza hda hfa hF6 hf6 hd6 hE6 hB6 hgs hO6 hb6 hg6_ hF hE hB hO hFl
  generalize (t1.setCell ⟨fb, 12, none⟩ (.slice A1 2 c1)) = x1 at *
  have hF := hF7
  have hE := hE7
  have hB := hB7
  have hO := hO7
  have hFl := hF.lt
  clear hF7 hE7 hB7 hO7
  go_wp2_with fail
  rw [rounds_succ]
  have d12 := hF.cell 12 rfl
  have hrl : Ro (x1.alloc (.cells #[.int .i64 2, .int .i64 255, .int .i64 (-1), .int .i64 2] 32)) (x1.heap.size + 1) (some ⟨x1.heap.size, 0, none⟩) 1 1 [⟨2, 255, -1, 2⟩] := by
    have h9 := (Ron.of_vb (lo := 0) (os := [(⟨2, 255, -1, 2⟩ : OutV)]) (Vb.new 32 x1 (([(⟨2, 255, -1, 2⟩ : OutV)]).flatMap ocs)) (Nat.zero_le _) (by simp)).ro
    rw [alloc_size] at h9
    exact h9
  have hba := below_alloc x1 (.cells #[.int .i64 2, .int .i64 255, .int .i64 (-1), .int .i64 2] 32)
  have hOa := hO.below hba
  have hFa := hF.below hba hF.lt
  have hEa := hE.below hba hE.lt
  have hBa := hB.trans (hba.mono hB.size)
  have hza : fb < (x1.alloc (.cells #[.int .i64 2, .int .i64 255, .int .i64 (-1), .int .i64 2] 32)).heap.size := by simp; omega
  have hda := hFa.cell 12 rfl
  have hfa := hFa.free
  go_upto_region 5 with (at_builtin; refine wpList_appendO rfl (.tmp 27) (.tmp 33) rfl rfl hOa rfl hrl (by omega) (by omega) ?_; intro A2 c2 t2 hO6 hb6 hg6_; have hF6 := hOa.other hg6_ hFa (by omega); have hf6 := hF6.free; have hd6 := hF6.cell 12 rfl)
  have hE6 := hOa.other hg6_ hEa (by omega)
  have hB6 := hBa.trans (hb6.mono (by omega))
  have hF7 : Vb 29 (t2.setCell ⟨fb, 12, none⟩ (.slice A2 3 c2)) fb [.int .i64 1, .int .i64 65535, .int .i64 0, .int .i64 0, .int .i64 200, .int .i64 4, .int .u8 255, .int .u8 255, .int .u8 255, .int .u8 1, .int .u8 2, .int .u8 255, .slice A2 3 c2] := hF6.set 12 _
  have hgs := grownBy_set t2 fb 12 (.slice A2 3 c2)
  have hE7 := hE6.grown hgs (by omega)
  have hB7 := hB6.setCell (p := ⟨fb, 12, none⟩) (by simp; omega) (.slice A2 3 c2)
  have hO7 : Owo (t2.setCell ⟨fb, 12, none⟩ (.slice A2 3 c2)) (fb + 1) (.slice A2 3 c2) 3 [⟨0, 255, -1, 0⟩, ⟨1, 255, -1, 1⟩, ⟨2, 255, -1, 2⟩] := hO6.keep hgs (by omega)
  clear d12 hrl hba hOa hFa hEa hBa hza hda hfa hF6 hf6 hd6 hE6 hB6 hgs hO6 hb6 hg6_ hF hE hB hO hFl
  generalize (t2.setCell ⟨fb, 12, none⟩ (.slice A2 3 c2)) = x2 at *
  have hF := hF7
  have hE := hE7
  have hB := hB7
  have hO := hO7
  have hFl := hF.lt
  clear hF7 hE7 hB7 hO7
  go_wp2_with fail
  rw [rounds_succ]
  have d12 := hF.cell 12 rfl
  have hrl : Ro (x2.alloc (.cells #[.int .i64 3, .int .i64 255, .int .i64 (-1), .int .i64 3] 32)) (x2.heap.size + 1) (some ⟨x2.heap.size, 0, none⟩) 1 1 [⟨3, 255, -1, 3⟩] := by
    have h9 := (Ron.of_vb (lo := 0) (os := [(⟨3, 255, -1, 3⟩ : OutV)]) (Vb.new 32 x2 (([(⟨3, 255, -1, 3⟩ : OutV)]).flatMap ocs)) (Nat.zero_le _) (by simp)).ro
    rw [alloc_size] at h9
    exact h9
  have hba := below_alloc x2 (.cells #[.int .i64 3, .int .i64 255, .int .i64 (-1), .int .i64 3] 32)
  have hOa := hO.below hba
  have hFa := hF.below hba hF.lt
  have hEa := hE.below hba hE.lt
  have hBa := hB.trans (hba.mono hB.size)
  have hza : fb < (x2.alloc (.cells #[.int .i64 3, .int .i64 255, .int .i64 (-1), .int .i64 3] 32)).heap.size := by simp; omega
  have hda := hFa.cell 12 rfl
  have hfa := hFa.free
  go_upto_region 5 with (at_builtin; refine wpList_appendO rfl (.tmp 27) (.tmp 33) rfl rfl hOa rfl hrl (by omega) (by omega) ?_; intro A3 c3 t3 hO6 hb6 hg6_; have hF6 := hOa.other hg6_ hFa (by omega); have hf6 := hF6.free; have hd6 := hF6.cell 12 rfl)
  have hE6 := hOa.other hg6_ hEa (by omega)
  have hB6 := hBa.trans (hb6.mono (by omega))
  have hF7 : Vb 29 (t3.setCell ⟨fb, 12, none⟩ (.slice A3 4 c3)) fb [.int .i64 1, .int .i64 65535, .int .i64 0, .int .i64 0, .int .i64 200, .int .i64 4, .int .u8 255, .int .u8 255, .int .u8 255, .int .u8 1, .int .u8 2, .int .u8 255, .slice A3 4 c3] := hF6.set 12 _
  have hgs := grownBy_set t3 fb 12 (.slice A3 4 c3)
  have hE7 := hE6.grown hgs (by omega)
  have hB7 := hB6.setCell (p := ⟨fb, 12, none⟩) (by simp; omega) (.slice A3 4 c3)
  have hO7 : Owo (t3.setCell ⟨fb, 12, none⟩ (.slice A3 4 c3)) (fb + 1) (.slice A3 4 c3) 4 [⟨0, 255, -1, 0⟩, ⟨1, 255, -1, 1⟩, ⟨2, 255, -1, 2⟩, ⟨3, 255, -1, 3⟩] := hO6.keep hgs (by omega)
  clear d12 hrl hba hOa hFa hEa hBa hza hda hfa hF6 hf6 hd6 hE6 hB6 hgs hO6 hb6 hg6_ hF hE hB hO hFl
  generalize (t3.setCell ⟨fb, 12, none⟩ (.slice A3 4 c3)) = x3 at *
  have hF := hF7
  have hE := hE7
  have hB := hB7
  have hO := hO7
  have hFl := hF.lt
  clear hF7 hE7 hB7 hO7
  go_wp2_with fail
  rw [rounds_succ]
  have d12 := hF.cell 12 rfl
  have hrl : Ro (x3.alloc (.cells #[.int .i64 4, .int .i64 255, .int .i64 (-1), .int .i64 4] 32)) (x3.heap.size + 1) (some ⟨x3.heap.size, 0, none⟩) 1 1 [⟨4, 255, -1, 4⟩] := by
    have h9 := (Ron.of_vb (lo := 0) (os := [(⟨4, 255, -1, 4⟩ : OutV)]) (Vb.new 32 x3 (([(⟨4, 255, -1, 4⟩ : OutV)]).flatMap ocs)) (Nat.zero_le _) (by simp)).ro
    rw [alloc_size] at h9
    exact h9
  have hba := below_alloc x3 (.cells #[.int .i64 4, .int .i64 255, .int .i64 (-1), .int .i64 4] 32)
  have hOa := hO.below hba
  have hFa := hF.below hba hF.lt
  have hEa := hE.below hba hE.lt
  have hBa := hB.trans (hba.mono hB.size)
  have hza : fb < (x3.alloc (.cells #[.int .i64 4, .int .i64 255, .int .i64 (-1), .int .i64 4] 32)).heap.size := by simp; omega
  have hda := hFa.cell 12 rfl
  have hfa := hFa.free
  go_upto_region 5 with (at_builtin; refine wpList_appendO rfl (.tmp 27) (.tmp 33) rfl rfl hOa rfl hrl (by omega) (by omega) ?_; intro A4 c4 t4 hO6 hb6 hg6_; have hF6 := hOa.other hg6_ hFa (by omega); have hf6 := hF6.free; have hd6 := hF6.cell 12 rfl)
  have hE6 := hOa.other hg6_ hEa (by omega)
  have hB6 := hBa.trans (hb6.mono (by omega))
  have hF7 : Vb 29 (t4.setCell ⟨fb, 12, none⟩ (.slice A4 5 c4)) fb [.int .i64 1, .int .i64 65535, .int .i64 0, .int .i64 0, .int .i64 200, .int .i64 4, .int .u8 255, .int .u8 255, .int .u8 255, .int .u8 1, .int .u8 2, .int .u8 255, .slice A4 5 c4] := hF6.set 12 _
  have hgs := grownBy_set t4 fb 12 (.slice A4 5 c4)
  have hE7 := hE6.grown hgs (by omega)
  have hB7 := hB6.setCell (p := ⟨fb, 12, none⟩) (by simp; omega) (.slice A4 5 c4)
  have hO7 : Owo (t4.setCell ⟨fb, 12, none⟩ (.slice A4 5 c4)) (fb + 1) (.slice A4 5 c4) 5 [⟨0, 255, -1, 0⟩, ⟨1, 255, -1, 1⟩, ⟨2, 255, -1, 2⟩, ⟨3, 255, -1, 3⟩, ⟨4, 255, -1, 4⟩] := hO6.keep hgs (by omega)
  clear d12 hrl hba hOa hFa hEa hBa hza hda hfa hF6 hf6 hd6 hE6 hB6 hgs hO6 hb6 hg6_ hF hE hB hO hFl
  generalize (t4.setCell ⟨fb, 12, none⟩ (.slice A4 5 c4)) = x4 at *
  have hF := hF7
  have hE := hE7
  have hB := hB7
  have hO := hO7
  have hFl := hF.lt
  clear hF7 hE7 hB7 hO7
  go_wp2_with fail
  rw [rounds_succ]
  have d12 := hF.cell 12 rfl
  have hrl : Ro (x4.alloc (.cells #[.int .i64 0, .int .i64 255, .int .i64 (-1), .int .i64 5] 32)) (x4.heap.size + 1) (some ⟨x4.heap.size, 0, none⟩) 1 1 [⟨0, 255, -1, 5⟩] := by
    have h9 := (Ron.of_vb (lo := 0) (os := [(⟨0, 255, -1, 5⟩ : OutV)]) (Vb.new 32 x4 (([(⟨0, 255, -1, 5⟩ : OutV)]).flatMap ocs)) (Nat.zero_le _) (by simp)).ro
    rw [alloc_size] at h9
    exact h9
  have hba := below_alloc x4 (.cells #[.int .i64 0, .int .i64 255, .int .i64 (-1), .int .i64 5] 32)
  have hOa := hO.below hba
  have hFa := hF.below hba hF.lt
  have hEa := hE.below hba hE.lt
  have hBa := hB.trans (hba.mono hB.size)
  have hza : fb < (x4.alloc (.cells #[.int .i64 0, .int .i64 255, .int .i64 (-1), .int .i64 5] 32)).heap.size := by simp; omega
  have hda := hFa.cell 12 rfl
  have hfa := hFa.free
  go_upto_region 5 with (at_builtin; refine wpList_appendO rfl (.tmp 27) (.tmp 33) rfl rfl hOa rfl hrl (by omega) (by omega) ?_; intro A5 c5 t5 hO6 hb6 hg6_; have hF6 := hOa.other hg6_ hFa (by omega); have hf6 := hF6.free; have hd6 := hF6.cell 12 rfl)
  have hE6 := hOa.other hg6_ hEa (by omega)
  have hB6 := hBa.trans (hb6.mono (by omega))
  have hF7 : Vb 29 (t5.setCell ⟨fb, 12, none⟩ (.slice A5 6 c5)) fb [.int .i64 1, .int .i64 65535, .int .i64 0, .int .i64 0, .int .i64 200, .int .i64 4, .int .u8 255, .int .u8 255, .int .u8 255, .int .u8 1, .int .u8 2, .int .u8 255, .slice A5 6 c5] := hF6.set 12 _
  have hgs := grownBy_set t5 fb 12 (.slice A5 6 c5)
  have hE7 := hE6.grown hgs (by omega)
  have hB7 := hB6.setCell (p := ⟨fb, 12, none⟩) (by simp; omega) (.slice A5 6 c5)
  have hO7 : Owo (t5.setCell ⟨fb, 12, none⟩ (.slice A5 6 c5)) (fb + 1) (.slice A5 6 c5) 6 [⟨0, 255, -1, 0⟩, ⟨1, 255, -1, 1⟩, ⟨2, 255, -1, 2⟩, ⟨3, 255, -1, 3⟩, ⟨4, 255, -1, 4⟩, ⟨0, 255, -1, 5⟩] := hO6.keep hgs (by omega)
  clear d12 hrl hba hOa hFa hEa hBa hza hda hfa hF6 hf6 hd6 hE6 hB6 hgs hO6 hb6 hg6_ hF hE hB hO hFl
  generalize (t5.setCell ⟨fb, 12, none⟩ (.slice A5 6 c5)) = x5 at *
  have hF := hF7
  have hE := hE7
  have hB := hB7
  have hO := hO7
  have hFl := hF.lt
  clear hF7 hE7 hB7 hO7
  go_wp2_with fail
  rw [rounds_succ]
  have d12 := hF.cell 12 rfl
  have hrl : Ro (x5.alloc (.cells #[.int .i64 1, .int .i64 255, .int .i64 (-1), .int .i64 6] 32)) (x5.heap.size + 1) (some ⟨x5.heap.size, 0, none⟩) 1 1 [⟨1, 255, -1, 6⟩] := by
    have h9 := (Ron.of_vb (lo := 0) (os := [(⟨1, 255, -1, 6⟩ : OutV)]) (Vb.new 32 x5 (([(⟨1, 255, -1, 6⟩ : OutV)]).flatMap ocs)) (Nat.zero_le _) (by simp)).ro
    rw [alloc_size] at h9
    exact h9
  have hba := below_alloc x5 (.cells #[.int .i64 1, .int .i64 255, .int .i64 (-1), .int .i64 6] 32)
  have hOa := hO.below hba
  have hFa := hF.below hba hF.lt
  have hEa := hE.below hba hE.lt
  have hBa := hB.trans (hba.mono hB.size)
  have hza : fb < (x5.alloc (.cells #[.int .i64 1, .int .i64 255, .int .i64 (-1), .int .i64 6] 32)).heap.size := by simp; omega
  have hda := hFa.cell 12 rfl
  have hfa := hFa.free
  go_upto_region 5 with (at_builtin; refine wpList_appendO rfl (.tmp 27) (.tmp 33) rfl rfl hOa rfl hrl (by omega) (by omega) ?_; intro A6 c6 t6 hO6 hb6 hg6_; have hF6 := hOa.other hg6_ hFa (by omega); have hf6 := hF6.free; have hd6 := hF6.cell 12 rfl)
  have hE6 := hOa.other hg6_ hEa (by omega)
  have hB6 := hBa.trans (hb6.mono (by omega))
  have hF7 : Vb 29 (t6.setCell ⟨fb, 12, none⟩ (.slice A6 7 c6)) fb [.int .i64 1, .int .i64 65535, .int .i64 0, .int .i64 0, .int .i64 200, .int .i64 4, .int .u8 255, .int .u8 255, .int .u8 255, .int .u8 1, .int .u8 2, .int .u8 255, .slice A6 7 c6] := hF6.set 12 _
  have hgs := grownBy_set t6 fb 12 (.slice A6 7 c6)
  have hE7 := hE6.grown hgs (by omega)
  have hB7 := hB6.setCell (p := ⟨fb, 12, none⟩) (by simp; omega) (.slice A6 7 c6)
  have hO7 : Owo (t6.setCell ⟨fb, 12, none⟩ (.slice A6 7 c6)) (fb + 1) (.slice A6 7 c6) 7 [⟨0, 255, -1, 0⟩, ⟨1, 255, -1, 1⟩, ⟨2, 255, -1, 2⟩, ⟨3, 255, -1, 3⟩, ⟨4, 255, -1, 4⟩, ⟨0, 255, -1, 5⟩, ⟨1, 255, -1, 6⟩] := hO6.keep hgs (by omega)
  clear d12 hrl hba hOa hFa hEa hBa hza hda hfa hF6 hf6 hd6 hE6 hB6 hgs hO6 hb6 hg6_ hF hE hB hO hFl
  generalize (t6.setCell ⟨fb, 12, none⟩ (.slice A6 7 c6)) = x6 at *
  have hF := hF7
  have hE := hE7
  have hB := hB7
  have hO := hO7
  have hFl := hF.lt
  clear hF7 hE7 hB7 hO7
  go_wp2_with fail
  rw [rounds_succ]
  have d12 := hF.cell 12 rfl
  have hrl : Ro (x6.alloc (.cells #[.int .i64 2, .int .i64 255, .int .i64 (-1), .int .i64 7] 32)) (x6.heap.size + 1) (some ⟨x6.heap.size, 0, none⟩) 1 1 [⟨2, 255, -1, 7⟩] := by
    have h9 := (Ron.of_vb (lo := 0) (os := [(⟨2, 255, -1, 7⟩ : OutV)]) (Vb.new 32 x6 (([(⟨2, 255, -1, 7⟩ : OutV)]).flatMap ocs)) (Nat.zero_le _) (by simp)).ro
    rw [alloc_size] at h9
    exact h9
  have hba := below_alloc x6 (.cells #[.int .i64 2, .int .i64 255, .int .i64 (-1), .int .i64 7] 32)
  have hOa := hO.below hba
  have hFa := hF.below hba hF.lt
  have hEa := hE.below hba hE.lt
  have hBa := hB.trans (hba.mono hB.size)
  have hza : fb < (x6.alloc (.cells #[.int .i64 2, .int .i64 255, .int .i64 (-1), .int .i64 7] 32)).heap.size := by simp; omega
  have hda := hFa.cell 12 rfl
  have hfa := hFa.free
  go_upto_region 5 with (at_builtin; refine wpList_appendO rfl (.tmp 27) (.tmp 33) rfl rfl hOa rfl hrl (by omega) (by omega) ?_; intro A7 c7 t7 hO6 hb6 hg6_; have hF6 := hOa.other hg6_ hFa (by omega); have hf6 := hF6.free; have hd6 := hF6.cell 12 rfl)
  have hE6 := hOa.other hg6_ hEa (by omega)
  have hB6 := hBa.trans (hb6.mono (by omega))
  have hF7 : Vb 29 (t7.setCell ⟨fb, 12, none⟩ (.slice A7 8 c7)) fb [.int .i64 1, .int .i64 65535, .int .i64 0, .int .i64 0, .int .i64 200, .int .i64 4, .int .u8 255, .int .u8 255, .int .u8 255, .int .u8 1, .int .u8 2, .int .u8 255, .slice A7 8 c7] := hF6.set 12 _
  have hgs := grownBy_set t7 fb 12 (.slice A7 8 c7)
  have hE7 := hE6.grown hgs (by omega)
  have hB7 := hB6.setCell (p := ⟨fb, 12, none⟩) (by simp; omega) (.slice A7 8 c7)
  have hO7 : Owo (t7.setCell ⟨fb, 12, none⟩ (.slice A7 8 c7)) (fb + 1) (.slice A7 8 c7) 8 [⟨0, 255, -1, 0⟩, ⟨1, 255, -1, 1⟩, ⟨2, 255, -1, 2⟩, ⟨3, 255, -1, 3⟩, ⟨4, 255, -1, 4⟩, ⟨0, 255, -1, 5⟩, ⟨1, 255, -1, 6⟩, ⟨2, 255, -1, 7⟩] := hO6.keep hgs (by omega)
  clear d12 hrl hba hOa hFa hEa hBa hza hda hfa hF6 hf6 hd6 hE6 hB6 hgs hO6 hb6 hg6_ hF hE hB hO hFl
  generalize (t7.setCell ⟨fb, 12, none⟩ (.slice A7 8 c7)) = x7 at *
  have hF := hF7
  have hE := hE7
  have hB := hB7
  have hO := hO7
  have hFl := hF.lt
  clear hF7 hE7 hB7 hO7
  go_wp2_with fail
  rw [rounds_succ]
  have hr := hO.ron.1
  clear hO
  go_upto_region 8 with (refine wpList_store_new (vs := [.int .i64 6, .int .i64 4, .int .i64 1, .int .i64 1, .int .i64 65535]) rfl (.tmp 4) (.tmp 36) rfl rfl rfl rfl rfl rfl agg_probe rfl ?_; intro y0 hL hb2 hz2)
  replace hE := hE.below hb2 hE.lt
  replace hF := hF.below hb2 hF.lt
  replace hr := hr.below' hb2 (Nat.le_refl _)
  replace hB := hB.trans (hb2.mono hB.size)
  have hsz := hb2.size
  have hK : KnO w fb x7.heap.size A7 c7 x7.heap.size y0 := ⟨hE, hF, hL, hr, hsz, hB⟩
  clear hE hF hL hr hB hb2 hz2 hsz hFl hE0 hw1
  generalize hsz : x7.heap.size = lb at *
  clear hsz
  obtain ⟨sz, hK⟩ : ∃ sz, KnO w fb lb A7 c7 sz y0 := ⟨_, hK⟩
  obtain ⟨A, hA⟩ : ∃ A, A = A7 := ⟨_, rfl⟩
  obtain ⟨c, hc⟩ : ∃ c, c = c7 := ⟨_, rfl⟩
  subst hA hc
  go_wp2_with fail
  go_loopw [5, 6, 7, 8, 9] (fun v _ _ _ _ wr => ∃ x : Int, v = .int .i64 x ∧ 0 ≤ x ∧ x ≤ 19 ∧ KnO w fb lb A c sz wr) (fun v _ _ _ _ _ => (19 - intOf v).toNat)
  case atStart => exact ⟨0, rfl, by omega, by omega, hK⟩
  case round =>
    clear hK
    obtain ⟨ix, rfl, i1, i2, hK⟩ := hrel
    by_cases i3 : ix < 19
    rotate_left
    · have hF := hK.f
      have hr := hK.r
      have hB := hK.b
      have hfl := hF.lt
      clear hK
      have hws := hB.size
      go_upto_region 26 with (first | refine wpList_load_vb (vs := [.int .i64 1, .int .i64 65535, .int .i64 0, .int .i64 0, .int .i64 200, .int .i64 4, .int .u8 255, .int .u8 255, .int .u8 255, .int .u8 1, .int .u8 2, .int .u8 255, .slice A 8 c]) rfl (.tmp 2) rfl rfl hF rfl agg_rule ?_ | (refine wpList_store_new (vs := [.int .i64 1, .int .i64 65535, .int .i64 0, .int .i64 0, .int .i64 200, .int .i64 4, .int .u8 255, .int .u8 255, .int .u8 255, .int .u8 1, .int .u8 2, .int .u8 255, .slice A 8 c]) rfl (.tmp 10) (.tmp 149) rfl rfl rfl rfl rfl rfl agg_rule rfl ?_; intro w2 hM hb2 hz2))
      replace hF := hF.below hb2 hfl
      replace hr := hr.below' hb2 (Nat.le_refl _)
      replace hB := hB.trans (hb2.mono hB.size)
      have hml := hM.lt
      clear hb2 hz2
      generalize wr.heap.size = g10 at *
      have hOw : Owo (w2.alloc (.cells #[] 32)) w2.heap.size (.slice (some ⟨w2.heap.size, 0, none⟩) 0 0) 0 [] := Owo.empty (Vb.new 32 w2 []) (Nat.le_refl _)
      have ba := below_alloc w2 (.cells #[] 32)
      have hFa := hF.below ba hF.lt
      have hMa := hM.below ba hml
      have hra := hr.below' ba (by omega)
      have hBa := hB.trans (ba.mono hB.size)
      have lz : w2.heap.size < (w2.alloc (.cells #[] 32)).heap.size := by simp
      have hc12 := hFa.cell 12 rfl
      clear ba hF hM hr hB
      go_upto_region 27 with (first
        | (at_builtin; refine wpList_appendO rfl (.tmp 150) (.tmp 152) rfl rfl hOw rfl hra (by omega) (by omega) ?_; intro A2 c2 w4 hO hb4 hg4; have hM4 := hOw.other hg4 hMa hml; have hF4 := hOw.other hg4 hFa (by omega); have hr4 := hra.below' hb4 (by omega); have hB4 := hBa.trans (hb4.mono (by omega)); have hO4 : Owo w4 w2.heap.size (.slice A2 8 c2) 8 fullOs := (by simpa using hO); have hz4 := hb4.size; have hba := below_alloc w4 (.cells #[.int .i64 0, .int .i64 0, .int .i64 0, .int .i64 0] 32); have hOa := hO4.below hba; have hMb := hM4.below hba hM4.lt; have hFb := hF4.below hba hF4.lt; have hrb := hr4.below' hba (by omega); have hBb := hB4.trans (hba.mono hB4.size); have hzb : w2.heap.size < (w4.alloc (.cells #[.int .i64 0, .int .i64 0, .int .i64 0, .int .i64 0] 32)).heap.size := (by simp; omega); have hla : Ro (w4.alloc (.cells #[.int .i64 0, .int .i64 0, .int .i64 0, .int .i64 0] 32)) (w4.heap.size + 1) (some ⟨w4.heap.size, 0, none⟩) 1 1 [⟨0, 0, 0, 0⟩] := one_out w4 ⟨0, 0, 0, 0⟩; clear hO hb4 hg4 hM4 hF4 hr4 hB4 hO4 hba)
        | (at_builtin; refine wpList_appendO rfl (.tmp 153) (.tmp 155) rfl rfl hOa rfl hla (by omega) (by omega) ?_; intro A3 c3 w6 hO6 hb6 hg6; have hM6 := hOa.other hg6 hMb hml; have hF6 := hOa.other hg6 hFb (by omega); have hr6 := hrb.below' hb6 (by omega); have hB6 := hBb.trans (hb6.mono (by omega)); have hz6 := hb6.size; have hf6 := hM6.free; have hd6 := hM6.cell 12 rfl))
      have hgs := grownBy_set w6 g10 12 (.slice A3 9 c3)
      have hO7 : Owo (w6.setCell ⟨g10, 12, none⟩ (.slice A3 9 c3)) w2.heap.size (.slice A3 9 c3) 9 (fullOs ++ [⟨0, 0, 0, 0⟩]) := hO6.keep hgs hml
      have hM7 : Vb 29 (w6.setCell ⟨g10, 12, none⟩ (.slice A3 9 c3)) g10 [.int .i64 1, .int .i64 65535, .int .i64 0, .int .i64 0, .int .i64 200, .int .i64 4, .int .u8 255, .int .u8 255, .int .u8 255, .int .u8 1, .int .u8 2, .int .u8 255, .slice A3 9 c3] := hM6.set 12 _
      have hF7 := hF6.grown hgs (by omega)
      have gb := (Below.refl g10 w6).setCell (p := ⟨g10, 12, none⟩) (by simp) (.slice A3 9 c3)
      have hr7 := hr6.below' gb (by omega)
      have hB7 := hB6.trans (gb.mono (by omega))
      have hs7 := hO7.ron.1
      have hm7 : g10 < (w6.setCell ⟨g10, 12, none⟩ (.slice A3 9 c3)).heap.size := hM7.lt
      clear hOw hFa hMa hra hBa lz hc12 hz4 hOa hMb hFb hrb hBb hzb hla hO6 hb6 hg6 hM6 hF6 hr6 hB6 hz6 hf6 hd6 hgs hO7 gb
      generalize w6.setCell ⟨g10, 12, none⟩ (.slice A3 9 c3) = v0 at *
      have hKp : Ro v0 v0.heap.size A 8 c fullOs := hr7.more (by omega)
      clear hr7
      go_upto_region 28 with (first | refine wpList_load_vb (vs := [.int .i64 1, .int .i64 65535, .int .i64 0, .int .i64 0, .int .i64 200, .int .i64 4, .int .u8 255, .int .u8 255, .int .u8 255, .int .u8 1, .int .u8 2, .int .u8 255, .slice A 8 c]) rfl (.tmp 2) rfl rfl hF7 rfl agg_rule ?_ | (refine wpList_store_new (vs := [.int .i64 1, .int .i64 65535, .int .i64 0, .int .i64 0, .int .i64 200, .int .i64 4, .int .u8 255, .int .u8 255, .int .u8 255, .int .u8 1, .int .u8 2, .int .u8 255, .slice A 8 c]) rfl (.tmp 11) (.tmp 158) rfl rfl rfl rfl rfl rfl agg_rule rfl ?_; intro v1 hN T1 hz2))
      have hnl := hN.lt
      clear hz2
      have hfl7 := hF7.lt
      generalize v0.heap.size = g11 at *
      go_upto_region 29 with (refine wpList_store_at (vs := [.int .u8 255, .int .u8 253, .int .u8 255]) rfl (.tmp 161) (.tmp 159) rfl rfl rfl hN (by simp) agg_header rfl ?_; intro v2 hN2 hg2 hz2)
      replace hN2 : Vb 29 v2 g11 [.int .i64 1, .int .i64 65535, .int .i64 0, .int .i64 0, .int .i64 200, .int .i64 4, .int .u8 255, .int .u8 253, .int .u8 255, .int .u8 1, .int .u8 2, .int .u8 255, .slice A 8 c] := hN2
      have T2 := T1.grown hg2 (by omega) (fun k e => by simp at e; omega)
      have hn2 := hN2.lt
      clear hN T1 hg2 hz2 hnl
      go_upto_region 30 with (refine wpList_store_new (vs := [.int .i64 2, .int .i64 1, .int .i64 0, .int .i64 0, .int .i64 0, .int .i64 0, .int .u8 0, .int .u8 0, .int .u8 0, .int .u8 0, .int .u8 0, .int .u8 0, .slice none 0 0]) rfl (.tmp 12) (.tmp 162) rfl rfl rfl rfl rfl rfl agg_rule rfl ?_; intro v3 hZ hb2 hz2)
      have hN3 := hN2.below hb2 hn2
      have T3 := T2.trans (hb2.mono (by omega))
      have hzl := hZ.lt
      clear hb2 hz2 hN2 T2
      generalize v2.heap.size = g12 at *
      go_upto_region 31 with (refine wpList_store_new (vs := [.int .i64 2, .int .i64 0, .int .i64 0, .int .i64 0, .int .i64 0, .int .i64 1, .int .u8 0, .int .u8 0, .int .u8 0, .int .u8 0, .int .u8 0, .int .u8 0, .slice none 0 0]) rfl (.tmp 13) (.tmp 164) rfl rfl rfl rfl rfl rfl agg_rule rfl ?_; intro v4 hW hb2 hz2)
      have hN4 := hN3.below hb2 (by omega)
      have hZ4 := hZ.below hb2 hzl
      have T4 := T3.trans (hb2.mono (by omega))
      have hwl := hW.lt
      clear hb2 hz2 hN3 hZ T3
      generalize v3.heap.size = g13 at *
      have hlo : Ro (v4.alloc (.cells #[.int .i64 0, .int .i64 0, .int .i64 0, .int .i64 0] 32)) (v4.heap.size + 1) (some ⟨v4.heap.size, 0, none⟩) 1 1 [⟨0, 0, 0, 0⟩] := by
        have h9 := (Ron.of_vb (lo := 0) (os := [(⟨0, 0, 0, 0⟩ : OutV)]) (Vb.new 32 v4 (([(⟨0, 0, 0, 0⟩ : OutV)]).flatMap ocs)) (Nat.zero_le _) (by simp)).ro
        rw [alloc_size] at h9
        exact h9
      have hba := below_alloc v4 (.cells #[.int .i64 0, .int .i64 0, .int .i64 0, .int .i64 0] 32)
      have hN5 := hN4.below hba (by omega)
      have hZ5 := hZ4.below hba (by omega)
      have hW5 := hW.below hba hwl
      have T5 := T4.trans (hba.mono (by omega))
      have hz5 : g13 < (v4.alloc (.cells #[.int .i64 0, .int .i64 0, .int .i64 0, .int .i64 0] 32)).heap.size := by simp; omega
      have hzp : (v4.alloc (.cells #[.int .i64 0, .int .i64 0, .int .i64 0, .int .i64 0] 32)).heap.size = v4.heap.size + 1 := by simp
      have hzp2 : v4.heap.size + 1 ≤ (v4.alloc (.cells #[.int .i64 0, .int .i64 0, .int .i64 0, .int .i64 0] 32)).heap.size := by omega
      clear hzp hba hN4 hZ4 hW T4
      go_upto_region 32 with (refine wpList_store_new (vs := [.int .i64 2, .int .i64 0, .int .i64 0, .int .i64 0, .int .i64 0, .int .i64 0, .int .u8 0, .int .u8 0, .int .u8 0, .int .u8 0, .int .u8 0, .int .u8 0, .slice (some ⟨v4.heap.size, 0, none⟩) 1 1]) rfl (.tmp 14) (.tmp 167) rfl rfl rfl rfl (by simp) rfl agg_rule rfl ?_; intro v5 hV hb2 hz2)
      have hN6 := hN5.below hb2 (by omega)
      have hZ6 := hZ5.below hb2 (by omega)
      have hW6 := hW5.below hb2 (by omega)
      have hlo6 := hlo.below' hb2 hzp2
      have T6 := T5.trans (hb2.mono (by omega))
      have hvl := hV.lt
      have hzq : v4.heap.size + 1 ≤ v5.heap.size := by have := hb2.size; omega
      clear hb2 hz2 hN5 hZ5 hW5 hlo T5
      generalize v4.heap.size = pb at *
      have hM6 := hM7.below T6 hm7
      have hF6_ := hF7.below T6 hfl7
      have hs6 := (hs7.below' T6 (Nat.le_refl _)).more (show g11 ≤ v5.heap.size by omega)
      have hK6 := (hKp.below' T6 (Nat.le_refl _)).more (show g11 ≤ v5.heap.size by omega)
      have ho6 := hlo6.more hzq
      have hB6 := hB7.trans (T6.mono (by omega))
      clear T6 hM7 hF7 hs7 hKp hlo6 hB7
      go_upto_region 33 with (first | refine wpList_five ⟨rfl, rfl, rfl⟩ ⟨rfl, rfl, rfl⟩ ⟨rfl, rfl, rfl⟩ ⟨rfl, rfl, rfl⟩ ⟨rfl, rfl, rfl⟩ rfl rfl rfl rfl rfl hM6 hN6 hZ6 hW6 hV agg_rule rfl rfl rfl rfl rfl ?_ | refine wpList_six rfl (.tmp 168) (.tmp 169) (.tmp 170) (.tmp 171) (.tmp 172) (.tmp 173) rfl (.slice A3 9 c3) (.slice A 8 c) (.slice (some ⟨pb, 0, none⟩) 1 1) rfl rfl rfl rfl rfl rfl ?_)
      have hba := below_alloc v5 (.cells (sixC (.slice A3 9 c3) (.slice A 8 c) (.slice (some ⟨pb, 0, none⟩) 1 1)).toArray 29)
      have hl : Vb 29 (v5.alloc (.cells (sixC (.slice A3 9 c3) (.slice A 8 c) (.slice (some ⟨pb, 0, none⟩) 1 1)).toArray 29)) v5.heap.size (sixC (.slice A3 9 c3) (.slice A 8 c) (.slice (some ⟨pb, 0, none⟩) 1 1)) := Vb.new 29 v5 (sixC (.slice A3 9 c3) (.slice A 8 c) (.slice (some ⟨pb, 0, none⟩) 1 1))
      replace hF6_ := hF6_.below hba (by omega)
      replace hs6 := (hs6.below' hba (Nat.le_refl _)).more hba.size
      replace hK6 := (hK6.below' hba (Nat.le_refl _)).more hba.size
      replace ho6 := (ho6.below' hba (Nat.le_refl _)).more hba.size
      replace hB6 := hB6.trans (hba.mono hB6.size)
      clear hba hM6 hN6 hZ6 hW6 hV
      generalize v5.alloc (.cells (sixC (.slice A3 9 c3) (.slice A 8 c) (.slice (some ⟨pb, 0, none⟩) 1 1)).toArray 29) = y1 at *
      generalize v5.heap.size = gl at *
      have hfly : fb < y1.heap.size := hF6_.lt
      go_wp2_with fail
      refine wp_loop_rounds (6 + 1) ?_
      rw [rounds_succ]
      go_wp2_with (refine wpList_load_vb (vs := [.int .i64 1, .int .i64 65535, .int .i64 0, .int .i64 0, .int .i64 200, .int .i64 4, .int .u8 255, .int .u8 255, .int .u8 255, .int .u8 1, .int .u8 2, .int .u8 255, .slice A3 9 c3]) rfl (.tmp 183) rfl rfl hl rfl agg_rule ?_)
      refine (orderBytesL_any ⟨2, 0, 0, ⟨1, 65535, 0, 0, fullX, fullOs ++ [⟨0, 0, 0, 0⟩]⟩, 0, 0, 0, 0, 0⟩ hs6 (byOf rfl)).mono ?_
      rintro e y2 ⟨rfl, hb⟩
      replace hl := hl.below hb hl.lt
      replace hF6_ := hF6_.below hb hF6_.lt
      replace hs6 := (hs6.below' hb (Nat.le_refl _)).more hb.size
      replace hK6 := (hK6.below' hb (Nat.le_refl _)).more hb.size
      replace ho6 := (ho6.below' hb (Nat.le_refl _)).more hb.size
      replace hB6 := hB6.trans (hb.mono hB6.size)
      clear hb
      go_wp2_with (refine wpList_load_want (vs := [.int .i64 1, .int .i64 65535, .int .i64 0, .int .i64 0, .int .i64 200, .int .i64 4, .int .u8 255, .int .u8 255, .int .u8 255, .int .u8 1, .int .u8 2, .int .u8 255, .slice A3 9 c3]) rfl (.tmp 191) rfl rfl hl rfl agg_rule ?_)
      refine (ruleO_any ⟨1, 65535, 0, 0, fullX, fullOs ++ [⟨0, 0, 0, 0⟩]⟩ hs6 (Nat.le_refl _ ) ).mono ?_
      rw [show checkR ⟨1, 65535, 0, 0, fullX, fullOs ++ [⟨0, 0, 0, 0⟩]⟩ = 2 by decide +kernel]
      rintro e y3 ⟨rfl, hb⟩
      replace hl := hl.below hb hl.lt
      replace hF6_ := hF6_.below hb hF6_.lt
      replace hs6 := (hs6.below' hb (Nat.le_refl _)).more hb.size
      replace hK6 := (hK6.below' hb (Nat.le_refl _)).more hb.size
      replace ho6 := (ho6.below' hb (Nat.le_refl _)).more hb.size
      replace hB6 := hB6.trans (hb.mono hB6.size)
      clear hb
      go_wp2_with fail
      rw [rounds_succ]
      go_wp2_with (refine wpList_load_vb (vs := [.int .i64 1, .int .i64 65535, .int .i64 0, .int .i64 0, .int .i64 200, .int .i64 4, .int .u8 255, .int .u8 253, .int .u8 255, .int .u8 1, .int .u8 2, .int .u8 255, .slice A 8 c]) rfl (.tmp 183) rfl rfl hl rfl agg_rule ?_)
      refine (orderBytesL_any ⟨2, 0, 0, ⟨1, 65535, 0, 0, ⟨200, 4, 255, 253, 255, 1, 2, 255⟩, fullOs⟩, 0, 0, 0, 0, 0⟩ hK6 (byOf rfl)).mono ?_
      rintro e y2 ⟨rfl, hb⟩
      replace hl := hl.below hb hl.lt
      replace hF6_ := hF6_.below hb hF6_.lt
      replace hs6 := (hs6.below' hb (Nat.le_refl _)).more hb.size
      replace hK6 := (hK6.below' hb (Nat.le_refl _)).more hb.size
      replace ho6 := (ho6.below' hb (Nat.le_refl _)).more hb.size
      replace hB6 := hB6.trans (hb.mono hB6.size)
      clear hb
      go_wp2_with (refine wpList_load_want (vs := [.int .i64 1, .int .i64 65535, .int .i64 0, .int .i64 0, .int .i64 200, .int .i64 4, .int .u8 255, .int .u8 253, .int .u8 255, .int .u8 1, .int .u8 2, .int .u8 255, .slice A 8 c]) rfl (.tmp 191) rfl rfl hl rfl agg_rule ?_)
      refine (ruleO_any ⟨1, 65535, 0, 0, ⟨200, 4, 255, 253, 255, 1, 2, 255⟩, fullOs⟩ hK6 (Nat.le_refl _ ) ).mono ?_
      rw [show checkR ⟨1, 65535, 0, 0, ⟨200, 4, 255, 253, 255, 1, 2, 255⟩, fullOs⟩ = 2 by decide +kernel]
      rintro e y3 ⟨rfl, hb⟩
      replace hl := hl.below hb hl.lt
      replace hF6_ := hF6_.below hb hF6_.lt
      replace hs6 := (hs6.below' hb (Nat.le_refl _)).more hb.size
      replace hK6 := (hK6.below' hb (Nat.le_refl _)).more hb.size
      replace ho6 := (ho6.below' hb (Nat.le_refl _)).more hb.size
      replace hB6 := hB6.trans (hb.mono hB6.size)
      clear hb
      go_wp2_with fail
      rw [rounds_succ]
      go_wp2_with (refine wpList_load_vb (vs := [.int .i64 2, .int .i64 1, .int .i64 0, .int .i64 0, .int .i64 0, .int .i64 0, .int .u8 0, .int .u8 0, .int .u8 0, .int .u8 0, .int .u8 0, .int .u8 0, .slice none 0 0]) rfl (.tmp 183) rfl rfl hl rfl agg_rule ?_)
      refine (orderBytesL_any (A := none) (n := 0) (c := 0) ⟨2, 0, 0, ⟨2, 1, 0, 0, noMask, []⟩, 0, 0, 0, 0, 0⟩ (Ro.nil _ _) (byOf rfl)).mono ?_
      rintro e y2 ⟨rfl, hb⟩
      replace hl := hl.below hb hl.lt
      replace hF6_ := hF6_.below hb hF6_.lt
      replace hs6 := (hs6.below' hb (Nat.le_refl _)).more hb.size
      replace hK6 := (hK6.below' hb (Nat.le_refl _)).more hb.size
      replace ho6 := (ho6.below' hb (Nat.le_refl _)).more hb.size
      replace hB6 := hB6.trans (hb.mono hB6.size)
      clear hb
      go_wp2_with (refine wpList_load_want (vs := [.int .i64 2, .int .i64 1, .int .i64 0, .int .i64 0, .int .i64 0, .int .i64 0, .int .u8 0, .int .u8 0, .int .u8 0, .int .u8 0, .int .u8 0, .int .u8 0, .slice none 0 0]) rfl (.tmp 191) rfl rfl hl rfl agg_rule ?_)
      refine (ruleO_any (A := none) (n := 0) (c := 0) ⟨2, 1, 0, 0, noMask, []⟩ (Ro.nil _ _) (Nat.le_refl _ ) ).mono ?_
      rw [show checkR ⟨2, 1, 0, 0, noMask, []⟩ = 2 by decide +kernel]
      rintro e y3 ⟨rfl, hb⟩
      replace hl := hl.below hb hl.lt
      replace hF6_ := hF6_.below hb hF6_.lt
      replace hs6 := (hs6.below' hb (Nat.le_refl _)).more hb.size
      replace hK6 := (hK6.below' hb (Nat.le_refl _)).more hb.size
      replace ho6 := (ho6.below' hb (Nat.le_refl _)).more hb.size
      replace hB6 := hB6.trans (hb.mono hB6.size)
      clear hb
      go_wp2_with fail
      rw [rounds_succ]
      go_wp2_with (refine wpList_load_vb (vs := [.int .i64 2, .int .i64 0, .int .i64 0, .int .i64 0, .int .i64 0, .int .i64 1, .int .u8 0, .int .u8 0, .int .u8 0, .int .u8 0, .int .u8 0, .int .u8 0, .slice none 0 0]) rfl (.tmp 183) rfl rfl hl rfl agg_rule ?_)
      refine (orderBytesL_any (A := none) (n := 0) (c := 0) ⟨2, 0, 0, ⟨2, 0, 0, 0, ⟨0, 1, 0, 0, 0, 0, 0, 0⟩, []⟩, 0, 0, 0, 0, 0⟩ (Ro.nil _ _) (byOf rfl)).mono ?_
      rintro e y2 ⟨rfl, hb⟩
      replace hl := hl.below hb hl.lt
      replace hF6_ := hF6_.below hb hF6_.lt
      replace hs6 := (hs6.below' hb (Nat.le_refl _)).more hb.size
      replace hK6 := (hK6.below' hb (Nat.le_refl _)).more hb.size
      replace ho6 := (ho6.below' hb (Nat.le_refl _)).more hb.size
      replace hB6 := hB6.trans (hb.mono hB6.size)
      clear hb
      go_wp2_with (refine wpList_load_want (vs := [.int .i64 2, .int .i64 0, .int .i64 0, .int .i64 0, .int .i64 0, .int .i64 1, .int .u8 0, .int .u8 0, .int .u8 0, .int .u8 0, .int .u8 0, .int .u8 0, .slice none 0 0]) rfl (.tmp 191) rfl rfl hl rfl agg_rule ?_)
      refine (ruleO_any (A := none) (n := 0) (c := 0) ⟨2, 0, 0, 0, ⟨0, 1, 0, 0, 0, 0, 0, 0⟩, []⟩ (Ro.nil _ _) (Nat.le_refl _ ) ).mono ?_
      rw [show checkR ⟨2, 0, 0, 0, ⟨0, 1, 0, 0, 0, 0, 0, 0⟩, []⟩ = 2 by decide +kernel]
      rintro e y3 ⟨rfl, hb⟩
      replace hl := hl.below hb hl.lt
      replace hF6_ := hF6_.below hb hF6_.lt
      replace hs6 := (hs6.below' hb (Nat.le_refl _)).more hb.size
      replace hK6 := (hK6.below' hb (Nat.le_refl _)).more hb.size
      replace ho6 := (ho6.below' hb (Nat.le_refl _)).more hb.size
      replace hB6 := hB6.trans (hb.mono hB6.size)
      clear hb
      go_wp2_with fail
      rw [rounds_succ]
      go_wp2_with (refine wpList_load_vb (vs := [.int .i64 2, .int .i64 0, .int .i64 0, .int .i64 0, .int .i64 0, .int .i64 0, .int .u8 0, .int .u8 0, .int .u8 0, .int .u8 0, .int .u8 0, .int .u8 0, .slice (some ⟨pb, 0, none⟩) 1 1]) rfl (.tmp 183) rfl rfl hl rfl agg_rule ?_)
      refine (orderBytesL_any ⟨2, 0, 0, ⟨2, 0, 0, 0, noMask, [⟨0, 0, 0, 0⟩]⟩, 0, 0, 0, 0, 0⟩ ho6 (byOf rfl)).mono ?_
      rintro e y2 ⟨rfl, hb⟩
      replace hl := hl.below hb hl.lt
      replace hF6_ := hF6_.below hb hF6_.lt
      replace hs6 := (hs6.below' hb (Nat.le_refl _)).more hb.size
      replace hK6 := (hK6.below' hb (Nat.le_refl _)).more hb.size
      replace ho6 := (ho6.below' hb (Nat.le_refl _)).more hb.size
      replace hB6 := hB6.trans (hb.mono hB6.size)
      clear hb
      go_wp2_with (refine wpList_load_want (vs := [.int .i64 2, .int .i64 0, .int .i64 0, .int .i64 0, .int .i64 0, .int .i64 0, .int .u8 0, .int .u8 0, .int .u8 0, .int .u8 0, .int .u8 0, .int .u8 0, .slice (some ⟨pb, 0, none⟩) 1 1]) rfl (.tmp 191) rfl rfl hl rfl agg_rule ?_)
      refine (ruleO_any ⟨2, 0, 0, 0, noMask, [⟨0, 0, 0, 0⟩]⟩ ho6 (Nat.le_refl _ ) ).mono ?_
      rw [show checkR ⟨2, 0, 0, 0, noMask, [⟨0, 0, 0, 0⟩]⟩ = 2 by decide +kernel]
      rintro e y3 ⟨rfl, hb⟩
      replace hl := hl.below hb hl.lt
      replace hF6_ := hF6_.below hb hF6_.lt
      replace hs6 := (hs6.below' hb (Nat.le_refl _)).more hb.size
      replace hK6 := (hK6.below' hb (Nat.le_refl _)).more hb.size
      replace ho6 := (ho6.below' hb (Nat.le_refl _)).more hb.size
      replace hB6 := hB6.trans (hb.mono hB6.size)
      clear hb
      go_wp2_with fail
      rw [rounds_succ]
      go_wp2_with (refine wpList_load_vb (vs := [.int .i64 0, .int .i64 0, .int .i64 0, .int .i64 0, .int .i64 0, .int .i64 0, .int .u8 0, .int .u8 0, .int .u8 0, .int .u8 0, .int .u8 0, .int .u8 0, .slice none 0 0]) rfl (.tmp 183) rfl rfl hl rfl agg_rule ?_)
      refine (orderBytesL_any (A := none) (n := 0) (c := 0) ⟨2, 0, 0, ⟨0, 0, 0, 0, noMask, []⟩, 0, 0, 0, 0, 0⟩ (Ro.nil _ _) (byOf rfl)).mono ?_
      rintro e y2 ⟨rfl, hb⟩
      replace hl := hl.below hb hl.lt
      replace hF6_ := hF6_.below hb hF6_.lt
      replace hs6 := (hs6.below' hb (Nat.le_refl _)).more hb.size
      replace hK6 := (hK6.below' hb (Nat.le_refl _)).more hb.size
      replace ho6 := (ho6.below' hb (Nat.le_refl _)).more hb.size
      replace hB6 := hB6.trans (hb.mono hB6.size)
      clear hb
      go_wp2_with (refine wpList_load_want (vs := [.int .i64 0, .int .i64 0, .int .i64 0, .int .i64 0, .int .i64 0, .int .i64 0, .int .u8 0, .int .u8 0, .int .u8 0, .int .u8 0, .int .u8 0, .int .u8 0, .slice none 0 0]) rfl (.tmp 191) rfl rfl hl rfl agg_rule ?_)
      refine (ruleO_any (A := none) (n := 0) (c := 0) ⟨0, 0, 0, 0, noMask, []⟩ (Ro.nil _ _) (Nat.le_refl _ ) ).mono ?_
      rw [show checkR ⟨0, 0, 0, 0, noMask, []⟩ = 2 by decide +kernel]
      rintro e y3 ⟨rfl, hb⟩
      replace hl := hl.below hb hl.lt
      replace hF6_ := hF6_.below hb hF6_.lt
      replace hs6 := (hs6.below' hb (Nat.le_refl _)).more hb.size
      replace hK6 := (hK6.below' hb (Nat.le_refl _)).more hb.size
      replace ho6 := (ho6.below' hb (Nat.le_refl _)).more hb.size
      replace hB6 := hB6.trans (hb.mono hB6.size)
      clear hb
      go_wp2_with fail
      rw [rounds_succ]
      clear hl hs6 ho6
      go_wp2_with fail
      refine (worksO_any _).mono ?_
      rintro e z1 ⟨rfl, hb⟩
      replace hF6_ := hF6_.below hb hF6_.lt
      replace hK6 := (hK6.below' hb (Nat.le_refl _)).more hb.size
      replace hB6 := hB6.trans (hb.mono hB6.size)
      clear hb
      go_wp2_with (refine wpList_load_want (vs := [.int .i64 1, .int .i64 65535, .int .i64 0, .int .i64 0, .int .i64 200, .int .i64 4, .int .u8 255, .int .u8 255, .int .u8 255, .int .u8 1, .int .u8 2, .int .u8 255, .slice A 8 c]) rfl (.tmp 2) rfl rfl hF6_ rfl agg_rule ?_)
      refine (orderBack_any ⟨2, 0, 0, fullR, 0, 0, 0, 0, 0⟩ hK6 (byOf rfl)).mono ?_
      rintro e z2 ⟨rfl, hb⟩
      replace hB6 := hB6.trans (hb.mono hB6.size)
      clear hb hF6_ hK6
      go_wp2_with fail
      refine (orderParses_any (Rd.nil .u8 _ _) By.nil (by omega)).mono ?_
      rintro e z3 ⟨rfl, hb⟩
      replace hB6 := hB6.trans (hb.mono hB6.size)
      clear hb
      have hli := rd_lit .u8 z3 5 [8, 0, 1, 2] (by simp [maxLen]) (z3.heap.size + 1) (by simp)
      have hba := below_alloc z3 (.cells ([8, 0, 1, 2].map (Value.int .u8)).toArray 5)
      replace hB6 := hB6.trans (hba.mono hB6.size)
      clear hba
      go_wp2_with fail
      refine (orderParses_any (hli.more (by simp)) (byOf rfl) (by simp)).mono ?_
      rintro e z4 ⟨rfl, hb⟩
      replace hB6 := hB6.trans (hb.mono hB6.size)
      clear hb hli
      have hli := rd_lit .u8 z4 5 [8, 0, 3, 1, 2, 3] (by simp [maxLen]) (z4.heap.size + 1) (by simp)
      have hba := below_alloc z4 (.cells ([8, 0, 3, 1, 2, 3].map (Value.int .u8)).toArray 5)
      replace hB6 := hB6.trans (hba.mono hB6.size)
      clear hba
      go_wp2_with fail
      refine (orderParses_any (hli.more (by simp)) (byOf rfl) (by simp)).mono ?_
      rintro e z5 ⟨rfl, hb⟩
      replace hB6 := hB6.trans (hb.mono hB6.size)
      clear hb hli
      have hli := rd_lit .u8 z5 5 [2, 1, 0, 0, 0, 0, 0, 0, 0, 0, 0, 0, 0, 0, 255] (by simp [maxLen]) (z5.heap.size + 1) (by simp)
      have hba := below_alloc z5 (.cells ([2, 1, 0, 0, 0, 0, 0, 0, 0, 0, 0, 0, 0, 0, 255].map (Value.int .u8)).toArray 5)
      replace hB6 := hB6.trans (hba.mono hB6.size)
      clear hba
      go_wp2_with fail
      refine (orderParses_any (hli.more (by simp)) (byOf rfl) (by simp)).mono ?_
      rintro e z6 ⟨rfl, hb⟩
      replace hB6 := hB6.trans (hb.mono hB6.size)
      clear hb hli
      have hli := rd_lit .u8 z6 5 [2, 3, 0, 0, 0, 0] (by simp [maxLen]) (z6.heap.size + 1) (by simp)
      have hba := below_alloc z6 (.cells ([2, 3, 0, 0, 0, 0].map (Value.int .u8)).toArray 5)
      replace hB6 := hB6.trans (hba.mono hB6.size)
      clear hba
      go_wp2_with fail
      refine (orderParses_any (hli.more (by simp)) (byOf rfl) (by simp)).mono ?_
      rintro e z7 ⟨rfl, hb⟩
      replace hB6 := hB6.trans (hb.mono hB6.size)
      clear hb hli
      go_wp2_with fail
      go_ret
      exact ⟨rfl, hB6⟩
    obtain ⟨i, rfl⟩ : ∃ i : Nat, ix = i := ⟨ix.toNat, by omega⟩
    have ci := hK.end_ i (by omega)
    generalize endsO.getD i 0 = nn at *
    go_wp2_with fail
    clear ci
    go_loopw [7] (fun v wr => ∃ x : Int, v = .int .i64 x ∧ 0 ≤ x ∧ x ≤ 11 ∧ KnO w fb lb A c sz wr) (fun v _ => (11 - intOf v).toNat)
    case atStart => exact ⟨0, rfl, by omega, by omega, hK⟩
    case round =>
      clear hK
      obtain ⟨kk, rfl, k1, k2, hK⟩ := hrel
      by_cases k3 : kk < 11
      · skip
        go_wp2_with (first | refine wpList_load_want (vs := [.int .i64 1, .int .i64 65535, .int .i64 0, .int .i64 0, .int .i64 200, .int .i64 4, .int .u8 255, .int .u8 255, .int .u8 255, .int .u8 1, .int .u8 2, .int .u8 255, .slice A 8 c]) rfl (.tmp 2) rfl rfl hK.f rfl agg_rule ?_ | refine wpList_load_want (vs := [.int .i64 6, .int .i64 4, .int .i64 1, .int .i64 1, .int .i64 65535]) rfl (.tmp 4) rfl rfl hK.l rfl agg_probe ?_)
        refine (orderBytesL_any (A := none) (n := 0) (c := 0) ⟨kk, nn, 0, noRule, 0, 0, 0, 0, 0⟩ (Ro.nil _ _) (byOf rfl)).mono ?_
        rintro e v ⟨rfl, hb⟩
        replace hK := hK.step hb
        clear hb
        go_wp2_with (first | refine wpList_load_want (vs := [.int .i64 1, .int .i64 65535, .int .i64 0, .int .i64 0, .int .i64 200, .int .i64 4, .int .u8 255, .int .u8 255, .int .u8 255, .int .u8 1, .int .u8 2, .int .u8 255, .slice A 8 c]) rfl (.tmp 2) rfl rfl hK.f rfl agg_rule ?_ | refine wpList_load_want (vs := [.int .i64 6, .int .i64 4, .int .i64 1, .int .i64 1, .int .i64 65535]) rfl (.tmp 4) rfl rfl hK.l rfl agg_probe ?_)
        refine (orderBytesL_any (A := none) (n := 0) (c := 0) ⟨kk, 1, nn, noRule, 0, 0, 0, 0, 0⟩ (Ro.nil _ _) (byOf rfl)).mono ?_
        rintro e v ⟨rfl, hb⟩
        replace hK := hK.step hb
        clear hb
        go_wp2_with (first | refine wpList_load_want (vs := [.int .i64 1, .int .i64 65535, .int .i64 0, .int .i64 0, .int .i64 200, .int .i64 4, .int .u8 255, .int .u8 255, .int .u8 255, .int .u8 1, .int .u8 2, .int .u8 255, .slice A 8 c]) rfl (.tmp 2) rfl rfl hK.f rfl agg_rule ?_ | refine wpList_load_want (vs := [.int .i64 6, .int .i64 4, .int .i64 1, .int .i64 1, .int .i64 65535]) rfl (.tmp 4) rfl rfl hK.l rfl agg_probe ?_)
        refine (orderBytesL_any (A := A) (n := 8) (c := c) ⟨kk, 1, 0, fullR, 0, 0, 0, 0, 0⟩ hK.r (byOf rfl)).mono ?_
        rintro e v ⟨rfl, hb⟩
        replace hK := hK.step hb
        clear hb
        go_wp2_with (first | refine wpList_load_want (vs := [.int .i64 1, .int .i64 65535, .int .i64 0, .int .i64 0, .int .i64 200, .int .i64 4, .int .u8 255, .int .u8 255, .int .u8 255, .int .u8 1, .int .u8 2, .int .u8 255, .slice A 8 c]) rfl (.tmp 2) rfl rfl hK.f rfl agg_rule ?_ | refine wpList_load_want (vs := [.int .i64 6, .int .i64 4, .int .i64 1, .int .i64 1, .int .i64 65535]) rfl (.tmp 4) rfl rfl hK.l rfl agg_probe ?_)
        refine (orderBytesL_any (A := none) (n := 0) (c := 0) ⟨kk, nn, 0, noRule, 6, 4, 1, 1, 65535⟩ (Ro.nil _ _) (byOf rfl)).mono ?_
        rintro e v ⟨rfl, hb⟩
        replace hK := hK.step hb
        clear hb
        go_wp2_with (first | refine wpList_load_want (vs := [.int .i64 1, .int .i64 65535, .int .i64 0, .int .i64 0, .int .i64 200, .int .i64 4, .int .u8 255, .int .u8 255, .int .u8 255, .int .u8 1, .int .u8 2, .int .u8 255, .slice A 8 c]) rfl (.tmp 2) rfl rfl hK.f rfl agg_rule ?_ | refine wpList_load_want (vs := [.int .i64 6, .int .i64 4, .int .i64 1, .int .i64 1, .int .i64 65535]) rfl (.tmp 4) rfl rfl hK.l rfl agg_probe ?_)
        refine (orderBytesL_any (A := none) (n := 0) (c := 0) ⟨kk, 0, 0, noRule, 6, 4, 1, 1, 65535⟩ (Ro.nil _ _) (byOf rfl)).mono ?_
        rintro e v ⟨rfl, hb⟩
        replace hK := hK.step hb
        clear hb
        go_wp2_with (first | refine wpList_load_want (vs := [.int .i64 1, .int .i64 65535, .int .i64 0, .int .i64 0, .int .i64 200, .int .i64 4, .int .u8 255, .int .u8 255, .int .u8 255, .int .u8 1, .int .u8 2, .int .u8 255, .slice A 8 c]) rfl (.tmp 2) rfl rfl hK.f rfl agg_rule ?_ | refine wpList_load_want (vs := [.int .i64 6, .int .i64 4, .int .i64 1, .int .i64 1, .int .i64 65535]) rfl (.tmp 4) rfl rfl hK.l rfl agg_probe ?_)
        refine (orderBytesL_any (A := none) (n := 0) (c := 0) ⟨kk, 0, 0, ⟨2, 0, nn, 0, noMask, []⟩, 0, 0, 0, 0, 0⟩ (Ro.nil _ _) (byOf rfl)).mono ?_
        rintro e v ⟨rfl, hb⟩
        replace hK := hK.step hb
        clear hb
        go_wp2_with (first | refine wpList_load_want (vs := [.int .i64 1, .int .i64 65535, .int .i64 0, .int .i64 0, .int .i64 200, .int .i64 4, .int .u8 255, .int .u8 255, .int .u8 255, .int .u8 1, .int .u8 2, .int .u8 255, .slice A 8 c]) rfl (.tmp 2) rfl rfl hK.f rfl agg_rule ?_ | refine wpList_load_want (vs := [.int .i64 6, .int .i64 4, .int .i64 1, .int .i64 1, .int .i64 65535]) rfl (.tmp 4) rfl rfl hK.l rfl agg_probe ?_)
        refine (orderBytesL_any (A := none) (n := 0) (c := 0) ⟨kk, 0, 0, ⟨2, 0, 0, nn, noMask, []⟩, 0, 0, 0, 0, 0⟩ (Ro.nil _ _) (byOf rfl)).mono ?_
        rintro e v ⟨rfl, hb⟩
        replace hK := hK.step hb
        clear hb
        go_wp2_with fail
        refine ⟨⟨kk + 1, by go_num, by omega, by omega, hK⟩, by simp [intOf]; omega⟩
      go_wp2_with fail
      go_loopw [8, 9] (fun v _ wr => ∃ x : Int, v = .int .i64 x ∧ 0 ≤ x ∧ x ≤ 9 ∧ KnO w fb lb A c sz wr) (fun v _ _ => (9 - intOf v).toNat)
      case atStart => exact ⟨0, rfl, by omega, by omega, hK⟩
      case round =>
        clear hK
        obtain ⟨xk, rfl, x1, x2, hK⟩ := hrel
        by_cases x3 : xk < 9
        rotate_left
        · go_wp2_with fail
          refine ⟨⟨(i : Int) + 1, by go_num, by omega, by omega, hK⟩, by simp [intOf]; omega⟩
        have hfl := hK.f.lt
        have Hst := Kp.mk (fun (W : World) (h : Below wr.heap.size wr W) => hK.step h)
        have hr := hK.r
        go_upto_region 21 with (first | refine wpList_load_vb (vs := [.int .i64 1, .int .i64 65535, .int .i64 0, .int .i64 0, .int .i64 200, .int .i64 4, .int .u8 255, .int .u8 255, .int .u8 255, .int .u8 1, .int .u8 2, .int .u8 255, .slice A 8 c]) rfl (.tmp 2) rfl rfl hK.f rfl agg_rule ?_ | (refine wpList_store_new (vs := [.int .i64 1, .int .i64 65535, .int .i64 0, .int .i64 0, .int .i64 200, .int .i64 4, .int .u8 255, .int .u8 255, .int .u8 255, .int .u8 1, .int .u8 2, .int .u8 255, .slice A 8 c]) rfl (.tmp 9) (.tmp 105) rfl rfl rfl rfl rfl rfl agg_rule rfl ?_; intro w2 hR hb2 hz2))
        have hF := hK.f.below hb2 hfl
        replace hr := hr.below' hb2 (Nat.le_refl _)
        have hrl := hR.lt
        clear hz2 hK
        generalize wr.heap.size = rb at *
        have hOw : Owo (w2.alloc (.cells #[] 32)) w2.heap.size (.slice (some ⟨w2.heap.size, 0, none⟩) 0 0) 0 [] := Owo.empty (Vb.new 32 w2 []) (Nat.le_refl _)
        have ba := below_alloc w2 (.cells #[] 32)
        replace hF := hF.below ba hF.lt
        replace hR := hR.below ba hrl
        replace hr := hr.below' ba (by omega)
        have hb := hb2.trans (ba.mono (by omega))
        have lz : w2.heap.size < (w2.alloc (.cells #[] 32)).heap.size := by simp
        have hc12 := hF.cell 12 rfl
        clear hb2 ba
        go_upto_region 22 with (at_builtin; refine wpList_appendO rfl (.tmp 106) (.tmp 108) rfl rfl hOw rfl hr (by omega) (by omega) ?_; intro A2 c2 w4 hO hb4 hg4; have hR4 := hOw.other hg4 hR hrl; have hf4 := hR4.free; have hd4 := hR4.cell 12 rfl)
        have hO4 : Owo w4 w2.heap.size (.slice A2 8 c2) 8 fullOs := by simpa using hO
        have hgs := grownBy_set w4 rb 12 (.slice A2 8 c2)
        have hO5 := hO4.keep hgs hrl
        have hR5 : Vb 29 (w4.setCell ⟨rb, 12, none⟩ (.slice A2 8 c2)) rb [.int .i64 1, .int .i64 65535, .int .i64 0, .int .i64 0, .int .i64 200, .int .i64 4, .int .u8 255, .int .u8 255, .int .u8 255, .int .u8 1, .int .u8 2, .int .u8 255, .slice A2 8 c2] := hR4.set 12 _
        have hb5 := (hb.trans (hb4.mono (by omega))).setCell (p := ⟨rb, 12, none⟩) (by simp) (.slice A2 8 c2)
        have hz5 : w2.heap.size ≤ (w4.setCell ⟨rb, 12, none⟩ (.slice A2 8 c2)).heap.size := by have := hb4.size; simp; omega
        clear hOw hO hO4 hgs hb4 hg4 hR4 hf4 hd4 hF hR hr hb hc12 lz
        generalize w4.setCell ⟨rb, 12, none⟩ (.slice A2 8 c2) = w5 at *
        obtain ⟨ob, cap, hv, hob1, hob2⟩ := World.ownsRow.form hO5 (by omega)
        obtain ⟨hA, _, _⟩ := Value.slice.inj hv
        subst hA
        go_cut [] from 111 to 148 (fun wx => ∃ (r' : RuleV) (s' : Nat), Vb 29 wx rb [.int .i64 r'.k, .int .i64 r'.pr, .int .i64 r'.to, .int .i64 r'.po, .int .i64 r'.x.v, .int .i64 r'.x.m, .int .u8 r'.x.b0, .int .u8 r'.x.b1, .int .u8 r'.x.b2, .int .u8 r'.x.i0, .int .u8 r'.x.i1, .int .u8 r'.x.i2, .slice (some ⟨ob, 0, none⟩) 8 c2] ∧ Ro wx s' (some ⟨ob, 0, none⟩) 8 c2 r'.os ∧ s' ≤ wx.heap.size ∧ u8M r'.x ∧ Below rb wr wx)
        case first =>
          replace hb5 : Below rb wr w5.drew := hb5.drew
          replace hO5 : Owo w5.drew w2.heap.size (.slice (some ⟨ob, 0, none⟩) 8 c2) 8 fullOs := hO5
          replace hR5 : Vb 29 w5.drew rb [.int .i64 1, .int .i64 65535, .int .i64 0, .int .i64 0, .int .i64 200, .int .i64 4, .int .u8 255, .int .u8 255, .int .u8 255, .int .u8 1, .int .u8 2, .int .u8 255, .slice (some ⟨ob, 0, none⟩) 8 c2] := hR5
          replace hob2 : ob < w5.drew.heap.size := hob2
          have hS0 : (fun W => W.cell? ⟨rb, 12, none⟩ = some (.slice (some ⟨ob, 0, none⟩) 8 c2)) w5.drew := hR5.cell 12 rfl
          refine wp_region_held_drew (S := fun W => W.cell? ⟨rb, 12, none⟩ = some (.slice (some ⟨ob, 0, none⟩) 8 c2)) (by kernel_rfl) hS0 (fun _ => ?_)
          generalize w5.drew = u0 at *
          refine takeD (i := 0) (v := .pointer (some ⟨rb, 0, none⟩)) (some 111) rfl rfl (by kernel_rfl) (by kernel_rfl) (by kernel_rfl) (fun _ _ _ h => h) (Or.inl ⟨by rfl, ?_⟩) hS0 ?_
          · rintro w' s0
            go_simp
          try simp only [Act.put, List.setIfInBounds_toArray, List.set_cons_zero, List.set_cons_succ]
          refine takeD (i := 1) (v := .pointer (some ⟨rb, 1, none⟩)) (some 112) rfl rfl (by kernel_rfl) (by kernel_rfl) (by kernel_rfl) (fun _ _ _ h => h) (Or.inl ⟨by rfl, ?_⟩) hS0 ?_
          · rintro w' s0
            go_simp
          try simp only [Act.put, List.setIfInBounds_toArray, List.set_cons_zero, List.set_cons_succ]
          refine takeD (i := 2) (v := .pointer (some ⟨rb, 2, none⟩)) (some 113) rfl rfl (by kernel_rfl) (by kernel_rfl) (by kernel_rfl) (fun _ _ _ h => h) (Or.inl ⟨by rfl, ?_⟩) hS0 ?_
          · rintro w' s0
            go_simp
          try simp only [Act.put, List.setIfInBounds_toArray, List.set_cons_zero, List.set_cons_succ]
          refine takeD (i := 3) (v := .pointer (some ⟨rb, 3, none⟩)) (some 114) rfl rfl (by kernel_rfl) (by kernel_rfl) (by kernel_rfl) (fun _ _ _ h => h) (Or.inl ⟨by rfl, ?_⟩) hS0 ?_
          · rintro w' s0
            go_simp
          try simp only [Act.put, List.setIfInBounds_toArray, List.set_cons_zero, List.set_cons_succ]
          refine takeD (i := 4) (v := .pointer (some ⟨rb, 4, none⟩)) (some 115) rfl rfl (by kernel_rfl) (by kernel_rfl) (by kernel_rfl) (fun _ _ _ h => h) (Or.inl ⟨by rfl, ?_⟩) hS0 ?_
          · rintro w' s0
            go_simp
          try simp only [Act.put, List.setIfInBounds_toArray, List.set_cons_zero, List.set_cons_succ]
          refine takeD (i := 5) (v := .pointer (some ⟨rb, 4, none⟩)) (some 116) rfl rfl (by kernel_rfl) (by kernel_rfl) (by kernel_rfl) (fun _ _ _ h => h) (Or.inl ⟨by rfl, ?_⟩) hS0 ?_
          · rintro w' s0
            go_simp
          try simp only [Act.put, List.setIfInBounds_toArray, List.set_cons_zero, List.set_cons_succ]
          refine takeD (i := 6) (v := .pointer (some ⟨rb, 4, none⟩)) (some 117) rfl rfl (by kernel_rfl) (by kernel_rfl) (by kernel_rfl) (fun _ _ _ h => h) (Or.inl ⟨by rfl, ?_⟩) hS0 ?_
          · rintro w' s0
            go_simp
          try simp only [Act.put, List.setIfInBounds_toArray, List.set_cons_zero, List.set_cons_succ]
          refine takeD (i := 7) (v := .pointer (some ⟨rb, 5, none⟩)) (some 118) rfl rfl (by kernel_rfl) (by kernel_rfl) (by kernel_rfl) (fun _ _ _ h => h) (Or.inl ⟨by rfl, ?_⟩) hS0 ?_
          · rintro w' s0
            go_simp
          try simp only [Act.put, List.setIfInBounds_toArray, List.set_cons_zero, List.set_cons_succ]
          refine takeD (i := 8) (v := .pointer (some ⟨rb, 12, none⟩)) (some 119) rfl rfl (by kernel_rfl) (by kernel_rfl) (by kernel_rfl) (fun _ _ _ h => h) (Or.inl ⟨by rfl, ?_⟩) hS0 ?_
          · rintro w' s0
            go_simp
          try simp only [Act.put, List.setIfInBounds_toArray, List.set_cons_zero, List.set_cons_succ]
          refine takeD (i := 9) (v := .slice (some ⟨ob, 0, none⟩) 8 c2) (some 120) rfl rfl (by kernel_rfl) (by kernel_rfl) (by kernel_rfl) (fun _ _ _ h => h) (Or.inl ⟨by rfl, ?_⟩) hS0 ?_
          · rintro w' s0
            go_simp
          try simp only [Act.put, List.setIfInBounds_toArray, List.set_cons_zero, List.set_cons_succ]
          refine takeD (i := 10) (v := .pointer (some ⟨ob, 28, none⟩)) (some 121) rfl rfl (by kernel_rfl) (by kernel_rfl) (by kernel_rfl) (fun _ _ _ h => h) (Or.inl ⟨by rfl, ?_⟩) hS0 ?_
          · rintro w' s0
            go_simp
          try simp only [Act.put, List.setIfInBounds_toArray, List.set_cons_zero, List.set_cons_succ]
          refine takeD (i := 11) (v := .pointer (some ⟨ob, 28, none⟩)) (some 122) rfl rfl (by kernel_rfl) (by kernel_rfl) (by kernel_rfl) (fun _ _ _ h => h) (Or.inl ⟨by rfl, ?_⟩) hS0 ?_
          · rintro w' s0
            go_simp
          try simp only [Act.put, List.setIfInBounds_toArray, List.set_cons_zero, List.set_cons_succ]
          refine takeD (i := 12) (v := .pointer (some ⟨rb, 12, none⟩)) (some 123) rfl rfl (by kernel_rfl) (by kernel_rfl) (by kernel_rfl) (fun _ _ _ h => h) (Or.inl ⟨by rfl, ?_⟩) hS0 ?_
          · rintro w' s0
            go_simp
          try simp only [Act.put, List.setIfInBounds_toArray, List.set_cons_zero, List.set_cons_succ]
          refine takeD (i := 13) (v := .slice (some ⟨ob, 0, none⟩) 8 c2) (some 124) rfl rfl (by kernel_rfl) (by kernel_rfl) (by kernel_rfl) (fun _ _ _ h => h) (Or.inl ⟨by rfl, ?_⟩) hS0 ?_
          · rintro w' s0
            go_simp
          try simp only [Act.put, List.setIfInBounds_toArray, List.set_cons_zero, List.set_cons_succ]
          refine takeD (i := 14) (v := .pointer (some ⟨ob, 28, none⟩)) (some 125) rfl rfl (by kernel_rfl) (by kernel_rfl) (by kernel_rfl) (fun _ _ _ h => h) (Or.inl ⟨by rfl, ?_⟩) hS0 ?_
          · rintro w' s0
            go_simp
          try simp only [Act.put, List.setIfInBounds_toArray, List.set_cons_zero, List.set_cons_succ]
          refine takeD (i := 15) (v := .pointer (some ⟨ob, 29, none⟩)) (some 126) rfl rfl (by kernel_rfl) (by kernel_rfl) (by kernel_rfl) (fun _ _ _ h => h) (Or.inl ⟨by rfl, ?_⟩) hS0 ?_
          · rintro w' s0
            go_simp
          try simp only [Act.put, List.setIfInBounds_toArray, List.set_cons_zero, List.set_cons_succ]
          refine takeD (i := 16) (v := .pointer (some ⟨ob, 29, none⟩)) (some 127) rfl rfl (by kernel_rfl) (by kernel_rfl) (by kernel_rfl) (fun _ _ _ h => h) (Or.inl ⟨by rfl, ?_⟩) hS0 ?_
          · rintro w' s0
            go_simp
          try simp only [Act.put, List.setIfInBounds_toArray, List.set_cons_zero, List.set_cons_succ]
          refine takeD (i := 17) (v := .pointer (some ⟨rb, 12, none⟩)) (some 128) rfl rfl (by kernel_rfl) (by kernel_rfl) (by kernel_rfl) (fun _ _ _ h => h) (Or.inl ⟨by rfl, ?_⟩) hS0 ?_
          · rintro w' s0
            go_simp
          try simp only [Act.put, List.setIfInBounds_toArray, List.set_cons_zero, List.set_cons_succ]
          refine takeD (i := 18) (v := .slice (some ⟨ob, 0, none⟩) 8 c2) (some 129) rfl rfl (by kernel_rfl) (by kernel_rfl) (by kernel_rfl) (fun _ _ _ h => h) (Or.inl ⟨by rfl, ?_⟩) hS0 ?_
          · rintro w' s0
            go_simp
          try simp only [Act.put, List.setIfInBounds_toArray, List.set_cons_zero, List.set_cons_succ]
          refine takeD (i := 19) (v := .pointer (some ⟨ob, 0, none⟩)) (some 130) rfl rfl (by kernel_rfl) (by kernel_rfl) (by kernel_rfl) (fun _ _ _ h => h) (Or.inl ⟨by rfl, ?_⟩) hS0 ?_
          · rintro w' s0
            go_simp
          try simp only [Act.put, List.setIfInBounds_toArray, List.set_cons_zero, List.set_cons_succ]
          refine takeD (i := 20) (v := .pointer (some ⟨ob, 1, none⟩)) (some 131) rfl rfl (by kernel_rfl) (by kernel_rfl) (by kernel_rfl) (fun _ _ _ h => h) (Or.inl ⟨by rfl, ?_⟩) hS0 ?_
          · rintro w' s0
            go_simp
          try simp only [Act.put, List.setIfInBounds_toArray, List.set_cons_zero, List.set_cons_succ]
          refine takeD (i := 21) (v := .pointer (some ⟨ob, 3, none⟩)) (some 132) rfl rfl (by kernel_rfl) (by kernel_rfl) (by kernel_rfl) (fun _ _ _ h => h) (Or.inl ⟨by rfl, ?_⟩) hS0 ?_
          · rintro w' s0
            go_simp
          try simp only [Act.put, List.setIfInBounds_toArray, List.set_cons_zero, List.set_cons_succ]
          refine takeD (i := 23) (v := .int .i64 xk) (some 134) rfl rfl (by kernel_rfl) (by kernel_rfl) (by kernel_rfl) (fun _ _ _ h => h) (Or.inl ⟨by rfl, ?_⟩) hS0 ?_
          · rintro w' s0
            go_simp
          try simp only [Act.put, List.setIfInBounds_toArray, List.set_cons_zero, List.set_cons_succ]
          refine takeD (i := 26) (v := .int .i64 nn) (some 137) rfl rfl (by kernel_rfl) (by kernel_rfl) (by kernel_rfl) (fun _ _ _ h => h) (Or.inl ⟨by rfl, ?_⟩) hS0 ?_
          · rintro w' s0
            go_simp
          try simp only [Act.put, List.setIfInBounds_toArray, List.set_cons_zero, List.set_cons_succ]
          refine wpAnyH_ready (rs := [22]) (by kernel_rfl) (by simp) ?_
          refine AllReadyH.cons rfl (fun K hK => ?_) AllReadyH.nil
          try rw [if_pos (by rfl)]
          go_simp
          have ba := below_alloc u0 (.cells #[.pointer (some ⟨rb, 0, none⟩), .pointer (some ⟨rb, 1, none⟩), .pointer (some ⟨rb, 2, none⟩), .pointer (some ⟨rb, 3, none⟩), .pointer (some ⟨rb, 4, none⟩), .pointer (some ⟨rb, 5, none⟩), .pointer (some ⟨ob, 28, none⟩), .pointer (some ⟨ob, 29, none⟩), .pointer (some ⟨ob, 3, none⟩)] 38)
          have hP : Vb 38 (u0.alloc (.cells #[.pointer (some ⟨rb, 0, none⟩), .pointer (some ⟨rb, 1, none⟩), .pointer (some ⟨rb, 2, none⟩), .pointer (some ⟨rb, 3, none⟩), .pointer (some ⟨rb, 4, none⟩), .pointer (some ⟨rb, 5, none⟩), .pointer (some ⟨ob, 28, none⟩), .pointer (some ⟨ob, 29, none⟩), .pointer (some ⟨ob, 3, none⟩)] 38)) u0.heap.size [.pointer (some ⟨rb, 0, none⟩), .pointer (some ⟨rb, 1, none⟩), .pointer (some ⟨rb, 2, none⟩), .pointer (some ⟨rb, 3, none⟩), .pointer (some ⟨rb, 4, none⟩), .pointer (some ⟨rb, 5, none⟩), .pointer (some ⟨ob, 28, none⟩), .pointer (some ⟨ob, 29, none⟩), .pointer (some ⟨ob, 3, none⟩)] := Vb.new 38 u0 [.pointer (some ⟨rb, 0, none⟩), .pointer (some ⟨rb, 1, none⟩), .pointer (some ⟨rb, 2, none⟩), .pointer (some ⟨rb, 3, none⟩), .pointer (some ⟨rb, 4, none⟩), .pointer (some ⟨rb, 5, none⟩), .pointer (some ⟨ob, 28, none⟩), .pointer (some ⟨ob, 29, none⟩), .pointer (some ⟨ob, 3, none⟩)]
          have hRr : rb < u0.heap.size := hR5.lt
          have hS1 := (ba.cell (p := ⟨rb, 12, none⟩) (by simp only; omega)).trans hS0
          refine hK.out _ _ hS1 (fun _ => ?_)
          clear hK K
          try simp only [Act.put, List.setIfInBounds_toArray, List.set_cons_zero, List.set_cons_succ]
          replace hR5 := hR5.below ba hRr
          replace hO5 := hO5.below ba
          replace hb5 := hb5.trans (ba.mono (by omega))
          clear hS0 ba
          generalize u0.alloc (.cells #[.pointer (some ⟨rb, 0, none⟩), .pointer (some ⟨rb, 1, none⟩), .pointer (some ⟨rb, 2, none⟩), .pointer (some ⟨rb, 3, none⟩), .pointer (some ⟨rb, 4, none⟩), .pointer (some ⟨rb, 5, none⟩), .pointer (some ⟨ob, 28, none⟩), .pointer (some ⟨ob, 29, none⟩), .pointer (some ⟨ob, 3, none⟩)] 38) = u1 at *
          have hpl := hP.lt
          have hRo := hO5.ron
          have hfo : ∀ j, u1.frozen? ⟨ob, j, none⟩ = false := by
            rcases hO5.2 with ⟨e, _⟩ | ⟨g, cp, cur, e, _, hg, _⟩
            · exact absurd e (by simp)
            · have e1 := Option.some.inj (Value.slice.inj e).1
              have e2 := congrArg Addr.block e1
              simp only at e2
              subst e2
              intro j
              simp [World.frozen?, hg]
          have hf := hR5.free
          skip
          have hxk : xk = 0 ∨ xk = 1 ∨ xk = 2 ∨ xk = 3 ∨ xk = 4 ∨ xk = 5 ∨ xk = 6 ∨ xk = 7 ∨ xk = 8 := by omega
          clear hO5
          generalize u0.heap.size = pb at *
          rcases hxk with rfl | rfl | rfl | rfl | rfl | rfl | rfl | rfl | rfl
          · skip
            refine takeD (i := 24) (v := .pointer (some ⟨pb, 0, none⟩)) (some 135) rfl rfl (by kernel_rfl) (by kernel_rfl) (by kernel_rfl) (fun _ _ _ h => h) (Or.inl ⟨by rfl, ?_⟩) hS1 ?_
            · rintro w' s0
              go_simp
            try simp only [Act.put, List.setIfInBounds_toArray, List.set_cons_zero, List.set_cons_succ]
            have e0 := hP.cell 0 rfl
            refine wpAnyH_ready (rs := [25]) (by kernel_rfl) (by simp) ?_
            refine AllReadyH.cons rfl (fun K hK => ?_) AllReadyH.nil
            try rw [if_pos (by rfl)]
            go_simp
            refine hK.out _ _ hS1 (fun _ => ?_)
            clear hK K e0
            try simp only [Act.put, List.setIfInBounds_toArray, List.set_cons_zero, List.set_cons_succ]
            refine takeD (i := 27) (v := .pointer (some ⟨rb, 0, none⟩)) (some 138) rfl rfl (by kernel_rfl) (by kernel_rfl) (by kernel_rfl) (fun _ _ _ h => h) (Or.inl ⟨by rfl, ?_⟩) hS1 ?_
            · rintro w' s0
              go_simp
            try simp only [Act.put, List.setIfInBounds_toArray, List.set_cons_zero, List.set_cons_succ]
            have e1 := hR5.cell 0 rfl
            refine wpAnyH_ready (rs := [28]) (by kernel_rfl) (by simp) ?_
            refine AllReadyH.cons rfl (fun K hK => ?_) AllReadyH.nil
            try rw [if_pos (by rfl)]
            go_simp
            have gs := grownBy_set u1 rb 0 (.int .i64 nn)
            have hR6 : Vb 29 (u1.setCell ⟨rb, 0, none⟩ (.int .i64 nn)) rb [.int .i64 (⟨nn, 65535, 0, 0, fullX, fullOs⟩ : RuleV).k, .int .i64 (⟨nn, 65535, 0, 0, fullX, fullOs⟩ : RuleV).pr, .int .i64 (⟨nn, 65535, 0, 0, fullX, fullOs⟩ : RuleV).to, .int .i64 (⟨nn, 65535, 0, 0, fullX, fullOs⟩ : RuleV).po, .int .i64 (⟨nn, 65535, 0, 0, fullX, fullOs⟩ : RuleV).x.v, .int .i64 (⟨nn, 65535, 0, 0, fullX, fullOs⟩ : RuleV).x.m, .int .u8 (⟨nn, 65535, 0, 0, fullX, fullOs⟩ : RuleV).x.b0, .int .u8 (⟨nn, 65535, 0, 0, fullX, fullOs⟩ : RuleV).x.b1, .int .u8 (⟨nn, 65535, 0, 0, fullX, fullOs⟩ : RuleV).x.b2, .int .u8 (⟨nn, 65535, 0, 0, fullX, fullOs⟩ : RuleV).x.i0, .int .u8 (⟨nn, 65535, 0, 0, fullX, fullOs⟩ : RuleV).x.i1, .int .u8 (⟨nn, 65535, 0, 0, fullX, fullOs⟩ : RuleV).x.i2, .slice (some ⟨ob, 0, none⟩) 8 c2] := hR5.set 0 _
            have hs6 := (hRo.keep (by have := gs.size; omega) (fun b h1 h2 => gs.block b h2 (by simp; omega))).1
            have hb6 := hb5.setCell (p := ⟨rb, 0, none⟩) (by simp; try omega) (.int .i64 nn)
            have hS6 : (u1.setCell ⟨rb, 0, none⟩ (.int .i64 nn)).cell? ⟨rb, 12, none⟩ = some (.slice (some ⟨ob, 0, none⟩) 8 c2) := hR6.cell 12 rfl
            refine hK.out _ _ hS6 (fun _ => ?_)
            clear hK K e1 hS1
            try simp only [Act.put, List.setIfInBounds_toArray, List.set_cons_zero, List.set_cons_succ]
            have hsz6 : u1.heap.size ≤ (u1.setCell ⟨rb, 0, none⟩ (.int .i64 nn)).heap.size := gs.size
            skip
            generalize u1.setCell ⟨rb, 0, none⟩ (.int .i64 nn) = u2 at *
            refine wpAnyH_done (by kernel_rfl) ?_ _
            go_wp2_with fail
            go_meet
            case rel => exact ⟨⟨nn, 65535, 0, 0, fullX, fullOs⟩, _, hR6, hs6, by first | exact Nat.le_refl _ | exact hsz6, byOf rfl, hb6⟩
          · skip
            refine takeD (i := 24) (v := .pointer (some ⟨pb, 1, none⟩)) (some 135) rfl rfl (by kernel_rfl) (by kernel_rfl) (by kernel_rfl) (fun _ _ _ h => h) (Or.inl ⟨by rfl, ?_⟩) hS1 ?_
            · rintro w' s0
              go_simp
            try simp only [Act.put, List.setIfInBounds_toArray, List.set_cons_zero, List.set_cons_succ]
            have e0 := hP.cell 1 rfl
            refine wpAnyH_ready (rs := [25]) (by kernel_rfl) (by simp) ?_
            refine AllReadyH.cons rfl (fun K hK => ?_) AllReadyH.nil
            try rw [if_pos (by rfl)]
            go_simp
            refine hK.out _ _ hS1 (fun _ => ?_)
            clear hK K e0
            try simp only [Act.put, List.setIfInBounds_toArray, List.set_cons_zero, List.set_cons_succ]
            refine takeD (i := 27) (v := .pointer (some ⟨rb, 1, none⟩)) (some 138) rfl rfl (by kernel_rfl) (by kernel_rfl) (by kernel_rfl) (fun _ _ _ h => h) (Or.inl ⟨by rfl, ?_⟩) hS1 ?_
            · rintro w' s0
              go_simp
            try simp only [Act.put, List.setIfInBounds_toArray, List.set_cons_zero, List.set_cons_succ]
            have e1 := hR5.cell 1 rfl
            refine wpAnyH_ready (rs := [28]) (by kernel_rfl) (by simp) ?_
            refine AllReadyH.cons rfl (fun K hK => ?_) AllReadyH.nil
            try rw [if_pos (by rfl)]
            go_simp
            have gs := grownBy_set u1 rb 1 (.int .i64 nn)
            have hR6 : Vb 29 (u1.setCell ⟨rb, 1, none⟩ (.int .i64 nn)) rb [.int .i64 (⟨1, nn, 0, 0, fullX, fullOs⟩ : RuleV).k, .int .i64 (⟨1, nn, 0, 0, fullX, fullOs⟩ : RuleV).pr, .int .i64 (⟨1, nn, 0, 0, fullX, fullOs⟩ : RuleV).to, .int .i64 (⟨1, nn, 0, 0, fullX, fullOs⟩ : RuleV).po, .int .i64 (⟨1, nn, 0, 0, fullX, fullOs⟩ : RuleV).x.v, .int .i64 (⟨1, nn, 0, 0, fullX, fullOs⟩ : RuleV).x.m, .int .u8 (⟨1, nn, 0, 0, fullX, fullOs⟩ : RuleV).x.b0, .int .u8 (⟨1, nn, 0, 0, fullX, fullOs⟩ : RuleV).x.b1, .int .u8 (⟨1, nn, 0, 0, fullX, fullOs⟩ : RuleV).x.b2, .int .u8 (⟨1, nn, 0, 0, fullX, fullOs⟩ : RuleV).x.i0, .int .u8 (⟨1, nn, 0, 0, fullX, fullOs⟩ : RuleV).x.i1, .int .u8 (⟨1, nn, 0, 0, fullX, fullOs⟩ : RuleV).x.i2, .slice (some ⟨ob, 0, none⟩) 8 c2] := hR5.set 1 _
            have hs6 := (hRo.keep (by have := gs.size; omega) (fun b h1 h2 => gs.block b h2 (by simp; omega))).1
            have hb6 := hb5.setCell (p := ⟨rb, 1, none⟩) (by simp; try omega) (.int .i64 nn)
            have hS6 : (u1.setCell ⟨rb, 1, none⟩ (.int .i64 nn)).cell? ⟨rb, 12, none⟩ = some (.slice (some ⟨ob, 0, none⟩) 8 c2) := hR6.cell 12 rfl
            refine hK.out _ _ hS6 (fun _ => ?_)
            clear hK K e1 hS1
            try simp only [Act.put, List.setIfInBounds_toArray, List.set_cons_zero, List.set_cons_succ]
            have hsz6 : u1.heap.size ≤ (u1.setCell ⟨rb, 1, none⟩ (.int .i64 nn)).heap.size := gs.size
            skip
            generalize u1.setCell ⟨rb, 1, none⟩ (.int .i64 nn) = u2 at *
            refine wpAnyH_done (by kernel_rfl) ?_ _
            go_wp2_with fail
            go_meet
            case rel => exact ⟨⟨1, nn, 0, 0, fullX, fullOs⟩, _, hR6, hs6, by first | exact Nat.le_refl _ | exact hsz6, byOf rfl, hb6⟩
          · skip
            refine takeD (i := 24) (v := .pointer (some ⟨pb, 2, none⟩)) (some 135) rfl rfl (by kernel_rfl) (by kernel_rfl) (by kernel_rfl) (fun _ _ _ h => h) (Or.inl ⟨by rfl, ?_⟩) hS1 ?_
            · rintro w' s0
              go_simp
            try simp only [Act.put, List.setIfInBounds_toArray, List.set_cons_zero, List.set_cons_succ]
            have e0 := hP.cell 2 rfl
            refine wpAnyH_ready (rs := [25]) (by kernel_rfl) (by simp) ?_
            refine AllReadyH.cons rfl (fun K hK => ?_) AllReadyH.nil
            try rw [if_pos (by rfl)]
            go_simp
            refine hK.out _ _ hS1 (fun _ => ?_)
            clear hK K e0
            try simp only [Act.put, List.setIfInBounds_toArray, List.set_cons_zero, List.set_cons_succ]
            refine takeD (i := 27) (v := .pointer (some ⟨rb, 2, none⟩)) (some 138) rfl rfl (by kernel_rfl) (by kernel_rfl) (by kernel_rfl) (fun _ _ _ h => h) (Or.inl ⟨by rfl, ?_⟩) hS1 ?_
            · rintro w' s0
              go_simp
            try simp only [Act.put, List.setIfInBounds_toArray, List.set_cons_zero, List.set_cons_succ]
            have e1 := hR5.cell 2 rfl
            refine wpAnyH_ready (rs := [28]) (by kernel_rfl) (by simp) ?_
            refine AllReadyH.cons rfl (fun K hK => ?_) AllReadyH.nil
            try rw [if_pos (by rfl)]
            go_simp
            have gs := grownBy_set u1 rb 2 (.int .i64 nn)
            have hR6 : Vb 29 (u1.setCell ⟨rb, 2, none⟩ (.int .i64 nn)) rb [.int .i64 (⟨1, 65535, nn, 0, fullX, fullOs⟩ : RuleV).k, .int .i64 (⟨1, 65535, nn, 0, fullX, fullOs⟩ : RuleV).pr, .int .i64 (⟨1, 65535, nn, 0, fullX, fullOs⟩ : RuleV).to, .int .i64 (⟨1, 65535, nn, 0, fullX, fullOs⟩ : RuleV).po, .int .i64 (⟨1, 65535, nn, 0, fullX, fullOs⟩ : RuleV).x.v, .int .i64 (⟨1, 65535, nn, 0, fullX, fullOs⟩ : RuleV).x.m, .int .u8 (⟨1, 65535, nn, 0, fullX, fullOs⟩ : RuleV).x.b0, .int .u8 (⟨1, 65535, nn, 0, fullX, fullOs⟩ : RuleV).x.b1, .int .u8 (⟨1, 65535, nn, 0, fullX, fullOs⟩ : RuleV).x.b2, .int .u8 (⟨1, 65535, nn, 0, fullX, fullOs⟩ : RuleV).x.i0, .int .u8 (⟨1, 65535, nn, 0, fullX, fullOs⟩ : RuleV).x.i1, .int .u8 (⟨1, 65535, nn, 0, fullX, fullOs⟩ : RuleV).x.i2, .slice (some ⟨ob, 0, none⟩) 8 c2] := hR5.set 2 _
            have hs6 := (hRo.keep (by have := gs.size; omega) (fun b h1 h2 => gs.block b h2 (by simp; omega))).1
            have hb6 := hb5.setCell (p := ⟨rb, 2, none⟩) (by simp; try omega) (.int .i64 nn)
            have hS6 : (u1.setCell ⟨rb, 2, none⟩ (.int .i64 nn)).cell? ⟨rb, 12, none⟩ = some (.slice (some ⟨ob, 0, none⟩) 8 c2) := hR6.cell 12 rfl
            refine hK.out _ _ hS6 (fun _ => ?_)
            clear hK K e1 hS1
            try simp only [Act.put, List.setIfInBounds_toArray, List.set_cons_zero, List.set_cons_succ]
            have hsz6 : u1.heap.size ≤ (u1.setCell ⟨rb, 2, none⟩ (.int .i64 nn)).heap.size := gs.size
            skip
            generalize u1.setCell ⟨rb, 2, none⟩ (.int .i64 nn) = u2 at *
            refine wpAnyH_done (by kernel_rfl) ?_ _
            go_wp2_with fail
            go_meet
            case rel => exact ⟨⟨1, 65535, nn, 0, fullX, fullOs⟩, _, hR6, hs6, by first | exact Nat.le_refl _ | exact hsz6, byOf rfl, hb6⟩
          · skip
            refine takeD (i := 24) (v := .pointer (some ⟨pb, 3, none⟩)) (some 135) rfl rfl (by kernel_rfl) (by kernel_rfl) (by kernel_rfl) (fun _ _ _ h => h) (Or.inl ⟨by rfl, ?_⟩) hS1 ?_
            · rintro w' s0
              go_simp
            try simp only [Act.put, List.setIfInBounds_toArray, List.set_cons_zero, List.set_cons_succ]
            have e0 := hP.cell 3 rfl
            refine wpAnyH_ready (rs := [25]) (by kernel_rfl) (by simp) ?_
            refine AllReadyH.cons rfl (fun K hK => ?_) AllReadyH.nil
            try rw [if_pos (by rfl)]
            go_simp
            refine hK.out _ _ hS1 (fun _ => ?_)
            clear hK K e0
            try simp only [Act.put, List.setIfInBounds_toArray, List.set_cons_zero, List.set_cons_succ]
            refine takeD (i := 27) (v := .pointer (some ⟨rb, 3, none⟩)) (some 138) rfl rfl (by kernel_rfl) (by kernel_rfl) (by kernel_rfl) (fun _ _ _ h => h) (Or.inl ⟨by rfl, ?_⟩) hS1 ?_
            · rintro w' s0
              go_simp
            try simp only [Act.put, List.setIfInBounds_toArray, List.set_cons_zero, List.set_cons_succ]
            have e1 := hR5.cell 3 rfl
            refine wpAnyH_ready (rs := [28]) (by kernel_rfl) (by simp) ?_
            refine AllReadyH.cons rfl (fun K hK => ?_) AllReadyH.nil
            try rw [if_pos (by rfl)]
            go_simp
            have gs := grownBy_set u1 rb 3 (.int .i64 nn)
            have hR6 : Vb 29 (u1.setCell ⟨rb, 3, none⟩ (.int .i64 nn)) rb [.int .i64 (⟨1, 65535, 0, nn, fullX, fullOs⟩ : RuleV).k, .int .i64 (⟨1, 65535, 0, nn, fullX, fullOs⟩ : RuleV).pr, .int .i64 (⟨1, 65535, 0, nn, fullX, fullOs⟩ : RuleV).to, .int .i64 (⟨1, 65535, 0, nn, fullX, fullOs⟩ : RuleV).po, .int .i64 (⟨1, 65535, 0, nn, fullX, fullOs⟩ : RuleV).x.v, .int .i64 (⟨1, 65535, 0, nn, fullX, fullOs⟩ : RuleV).x.m, .int .u8 (⟨1, 65535, 0, nn, fullX, fullOs⟩ : RuleV).x.b0, .int .u8 (⟨1, 65535, 0, nn, fullX, fullOs⟩ : RuleV).x.b1, .int .u8 (⟨1, 65535, 0, nn, fullX, fullOs⟩ : RuleV).x.b2, .int .u8 (⟨1, 65535, 0, nn, fullX, fullOs⟩ : RuleV).x.i0, .int .u8 (⟨1, 65535, 0, nn, fullX, fullOs⟩ : RuleV).x.i1, .int .u8 (⟨1, 65535, 0, nn, fullX, fullOs⟩ : RuleV).x.i2, .slice (some ⟨ob, 0, none⟩) 8 c2] := hR5.set 3 _
            have hs6 := (hRo.keep (by have := gs.size; omega) (fun b h1 h2 => gs.block b h2 (by simp; omega))).1
            have hb6 := hb5.setCell (p := ⟨rb, 3, none⟩) (by simp; try omega) (.int .i64 nn)
            have hS6 : (u1.setCell ⟨rb, 3, none⟩ (.int .i64 nn)).cell? ⟨rb, 12, none⟩ = some (.slice (some ⟨ob, 0, none⟩) 8 c2) := hR6.cell 12 rfl
            refine hK.out _ _ hS6 (fun _ => ?_)
            clear hK K e1 hS1
            try simp only [Act.put, List.setIfInBounds_toArray, List.set_cons_zero, List.set_cons_succ]
            have hsz6 : u1.heap.size ≤ (u1.setCell ⟨rb, 3, none⟩ (.int .i64 nn)).heap.size := gs.size
            skip
            generalize u1.setCell ⟨rb, 3, none⟩ (.int .i64 nn) = u2 at *
            refine wpAnyH_done (by kernel_rfl) ?_ _
            go_wp2_with fail
            go_meet
            case rel => exact ⟨⟨1, 65535, 0, nn, fullX, fullOs⟩, _, hR6, hs6, by first | exact Nat.le_refl _ | exact hsz6, byOf rfl, hb6⟩
          · skip
            refine takeD (i := 24) (v := .pointer (some ⟨pb, 4, none⟩)) (some 135) rfl rfl (by kernel_rfl) (by kernel_rfl) (by kernel_rfl) (fun _ _ _ h => h) (Or.inl ⟨by rfl, ?_⟩) hS1 ?_
            · rintro w' s0
              go_simp
            try simp only [Act.put, List.setIfInBounds_toArray, List.set_cons_zero, List.set_cons_succ]
            have e0 := hP.cell 4 rfl
            refine wpAnyH_ready (rs := [25]) (by kernel_rfl) (by simp) ?_
            refine AllReadyH.cons rfl (fun K hK => ?_) AllReadyH.nil
            try rw [if_pos (by rfl)]
            go_simp
            refine hK.out _ _ hS1 (fun _ => ?_)
            clear hK K e0
            try simp only [Act.put, List.setIfInBounds_toArray, List.set_cons_zero, List.set_cons_succ]
            refine takeD (i := 27) (v := .pointer (some ⟨rb, 4, none⟩)) (some 138) rfl rfl (by kernel_rfl) (by kernel_rfl) (by kernel_rfl) (fun _ _ _ h => h) (Or.inl ⟨by rfl, ?_⟩) hS1 ?_
            · rintro w' s0
              go_simp
            try simp only [Act.put, List.setIfInBounds_toArray, List.set_cons_zero, List.set_cons_succ]
            have e1 := hR5.cell 4 rfl
            refine wpAnyH_ready (rs := [28]) (by kernel_rfl) (by simp) ?_
            refine AllReadyH.cons rfl (fun K hK => ?_) AllReadyH.nil
            try rw [if_pos (by rfl)]
            go_simp
            have gs := grownBy_set u1 rb 4 (.int .i64 nn)
            have hR6 : Vb 29 (u1.setCell ⟨rb, 4, none⟩ (.int .i64 nn)) rb [.int .i64 (⟨1, 65535, 0, 0, ⟨nn, 4, 255, 255, 255, 1, 2, 255⟩, fullOs⟩ : RuleV).k, .int .i64 (⟨1, 65535, 0, 0, ⟨nn, 4, 255, 255, 255, 1, 2, 255⟩, fullOs⟩ : RuleV).pr, .int .i64 (⟨1, 65535, 0, 0, ⟨nn, 4, 255, 255, 255, 1, 2, 255⟩, fullOs⟩ : RuleV).to, .int .i64 (⟨1, 65535, 0, 0, ⟨nn, 4, 255, 255, 255, 1, 2, 255⟩, fullOs⟩ : RuleV).po, .int .i64 (⟨1, 65535, 0, 0, ⟨nn, 4, 255, 255, 255, 1, 2, 255⟩, fullOs⟩ : RuleV).x.v, .int .i64 (⟨1, 65535, 0, 0, ⟨nn, 4, 255, 255, 255, 1, 2, 255⟩, fullOs⟩ : RuleV).x.m, .int .u8 (⟨1, 65535, 0, 0, ⟨nn, 4, 255, 255, 255, 1, 2, 255⟩, fullOs⟩ : RuleV).x.b0, .int .u8 (⟨1, 65535, 0, 0, ⟨nn, 4, 255, 255, 255, 1, 2, 255⟩, fullOs⟩ : RuleV).x.b1, .int .u8 (⟨1, 65535, 0, 0, ⟨nn, 4, 255, 255, 255, 1, 2, 255⟩, fullOs⟩ : RuleV).x.b2, .int .u8 (⟨1, 65535, 0, 0, ⟨nn, 4, 255, 255, 255, 1, 2, 255⟩, fullOs⟩ : RuleV).x.i0, .int .u8 (⟨1, 65535, 0, 0, ⟨nn, 4, 255, 255, 255, 1, 2, 255⟩, fullOs⟩ : RuleV).x.i1, .int .u8 (⟨1, 65535, 0, 0, ⟨nn, 4, 255, 255, 255, 1, 2, 255⟩, fullOs⟩ : RuleV).x.i2, .slice (some ⟨ob, 0, none⟩) 8 c2] := hR5.set 4 _
            have hs6 := (hRo.keep (by have := gs.size; omega) (fun b h1 h2 => gs.block b h2 (by simp; omega))).1
            have hb6 := hb5.setCell (p := ⟨rb, 4, none⟩) (by simp; try omega) (.int .i64 nn)
            have hS6 : (u1.setCell ⟨rb, 4, none⟩ (.int .i64 nn)).cell? ⟨rb, 12, none⟩ = some (.slice (some ⟨ob, 0, none⟩) 8 c2) := hR6.cell 12 rfl
            refine hK.out _ _ hS6 (fun _ => ?_)
            clear hK K e1 hS1
            try simp only [Act.put, List.setIfInBounds_toArray, List.set_cons_zero, List.set_cons_succ]
            have hsz6 : u1.heap.size ≤ (u1.setCell ⟨rb, 4, none⟩ (.int .i64 nn)).heap.size := gs.size
            skip
            generalize u1.setCell ⟨rb, 4, none⟩ (.int .i64 nn) = u2 at *
            refine wpAnyH_done (by kernel_rfl) ?_ _
            go_wp2_with fail
            go_meet
            case rel => exact ⟨⟨1, 65535, 0, 0, ⟨nn, 4, 255, 255, 255, 1, 2, 255⟩, fullOs⟩, _, hR6, hs6, by first | exact Nat.le_refl _ | exact hsz6, byOf rfl, hb6⟩
          · skip
            refine takeD (i := 24) (v := .pointer (some ⟨pb, 5, none⟩)) (some 135) rfl rfl (by kernel_rfl) (by kernel_rfl) (by kernel_rfl) (fun _ _ _ h => h) (Or.inl ⟨by rfl, ?_⟩) hS1 ?_
            · rintro w' s0
              go_simp
            try simp only [Act.put, List.setIfInBounds_toArray, List.set_cons_zero, List.set_cons_succ]
            have e0 := hP.cell 5 rfl
            refine wpAnyH_ready (rs := [25]) (by kernel_rfl) (by simp) ?_
            refine AllReadyH.cons rfl (fun K hK => ?_) AllReadyH.nil
            try rw [if_pos (by rfl)]
            go_simp
            refine hK.out _ _ hS1 (fun _ => ?_)
            clear hK K e0
            try simp only [Act.put, List.setIfInBounds_toArray, List.set_cons_zero, List.set_cons_succ]
            refine takeD (i := 27) (v := .pointer (some ⟨rb, 5, none⟩)) (some 138) rfl rfl (by kernel_rfl) (by kernel_rfl) (by kernel_rfl) (fun _ _ _ h => h) (Or.inl ⟨by rfl, ?_⟩) hS1 ?_
            · rintro w' s0
              go_simp
            try simp only [Act.put, List.setIfInBounds_toArray, List.set_cons_zero, List.set_cons_succ]
            have e1 := hR5.cell 5 rfl
            refine wpAnyH_ready (rs := [28]) (by kernel_rfl) (by simp) ?_
            refine AllReadyH.cons rfl (fun K hK => ?_) AllReadyH.nil
            try rw [if_pos (by rfl)]
            go_simp
            have gs := grownBy_set u1 rb 5 (.int .i64 nn)
            have hR6 : Vb 29 (u1.setCell ⟨rb, 5, none⟩ (.int .i64 nn)) rb [.int .i64 (⟨1, 65535, 0, 0, ⟨200, nn, 255, 255, 255, 1, 2, 255⟩, fullOs⟩ : RuleV).k, .int .i64 (⟨1, 65535, 0, 0, ⟨200, nn, 255, 255, 255, 1, 2, 255⟩, fullOs⟩ : RuleV).pr, .int .i64 (⟨1, 65535, 0, 0, ⟨200, nn, 255, 255, 255, 1, 2, 255⟩, fullOs⟩ : RuleV).to, .int .i64 (⟨1, 65535, 0, 0, ⟨200, nn, 255, 255, 255, 1, 2, 255⟩, fullOs⟩ : RuleV).po, .int .i64 (⟨1, 65535, 0, 0, ⟨200, nn, 255, 255, 255, 1, 2, 255⟩, fullOs⟩ : RuleV).x.v, .int .i64 (⟨1, 65535, 0, 0, ⟨200, nn, 255, 255, 255, 1, 2, 255⟩, fullOs⟩ : RuleV).x.m, .int .u8 (⟨1, 65535, 0, 0, ⟨200, nn, 255, 255, 255, 1, 2, 255⟩, fullOs⟩ : RuleV).x.b0, .int .u8 (⟨1, 65535, 0, 0, ⟨200, nn, 255, 255, 255, 1, 2, 255⟩, fullOs⟩ : RuleV).x.b1, .int .u8 (⟨1, 65535, 0, 0, ⟨200, nn, 255, 255, 255, 1, 2, 255⟩, fullOs⟩ : RuleV).x.b2, .int .u8 (⟨1, 65535, 0, 0, ⟨200, nn, 255, 255, 255, 1, 2, 255⟩, fullOs⟩ : RuleV).x.i0, .int .u8 (⟨1, 65535, 0, 0, ⟨200, nn, 255, 255, 255, 1, 2, 255⟩, fullOs⟩ : RuleV).x.i1, .int .u8 (⟨1, 65535, 0, 0, ⟨200, nn, 255, 255, 255, 1, 2, 255⟩, fullOs⟩ : RuleV).x.i2, .slice (some ⟨ob, 0, none⟩) 8 c2] := hR5.set 5 _
            have hs6 := (hRo.keep (by have := gs.size; omega) (fun b h1 h2 => gs.block b h2 (by simp; omega))).1
            have hb6 := hb5.setCell (p := ⟨rb, 5, none⟩) (by simp; try omega) (.int .i64 nn)
            have hS6 : (u1.setCell ⟨rb, 5, none⟩ (.int .i64 nn)).cell? ⟨rb, 12, none⟩ = some (.slice (some ⟨ob, 0, none⟩) 8 c2) := hR6.cell 12 rfl
            refine hK.out _ _ hS6 (fun _ => ?_)
            clear hK K e1 hS1
            try simp only [Act.put, List.setIfInBounds_toArray, List.set_cons_zero, List.set_cons_succ]
            have hsz6 : u1.heap.size ≤ (u1.setCell ⟨rb, 5, none⟩ (.int .i64 nn)).heap.size := gs.size
            skip
            generalize u1.setCell ⟨rb, 5, none⟩ (.int .i64 nn) = u2 at *
            refine wpAnyH_done (by kernel_rfl) ?_ _
            go_wp2_with fail
            go_meet
            case rel => exact ⟨⟨1, 65535, 0, 0, ⟨200, nn, 255, 255, 255, 1, 2, 255⟩, fullOs⟩, _, hR6, hs6, by first | exact Nat.le_refl _ | exact hsz6, byOf rfl, hb6⟩
          · skip
            refine takeD (i := 24) (v := .pointer (some ⟨pb, 6, none⟩)) (some 135) rfl rfl (by kernel_rfl) (by kernel_rfl) (by kernel_rfl) (fun _ _ _ h => h) (Or.inl ⟨by rfl, ?_⟩) hS1 ?_
            · rintro w' s0
              go_simp
            try simp only [Act.put, List.setIfInBounds_toArray, List.set_cons_zero, List.set_cons_succ]
            have e0 := hP.cell 6 rfl
            refine wpAnyH_ready (rs := [25]) (by kernel_rfl) (by simp) ?_
            refine AllReadyH.cons rfl (fun K hK => ?_) AllReadyH.nil
            try rw [if_pos (by rfl)]
            go_simp
            refine hK.out _ _ hS1 (fun _ => ?_)
            clear hK K e0
            try simp only [Act.put, List.setIfInBounds_toArray, List.set_cons_zero, List.set_cons_succ]
            refine takeD (i := 27) (v := .pointer (some ⟨ob, 28, none⟩)) (some 138) rfl rfl (by kernel_rfl) (by kernel_rfl) (by kernel_rfl) (fun _ _ _ h => h) (Or.inl ⟨by rfl, ?_⟩) hS1 ?_
            · rintro w' s0
              go_simp
            try simp only [Act.put, List.setIfInBounds_toArray, List.set_cons_zero, List.set_cons_succ]
            obtain ⟨b2, off2, ee, _, hoc⟩ := hRo.1.at_ (by omega)
            have ee := Option.some.inj ee
            have ee1 := congrArg Addr.block ee
            have ee2 := congrArg Addr.off ee
            simp only at ee1 ee2
            subst ee1 ee2
            obtain ⟨y0, y1, y2, y3⟩ := hoc 7 ⟨2, 255, (-1), 7⟩ rfl
            have e1 := y0
            change u1.cell? ⟨ob, 28, none⟩ = _ at e1
            clear y0 y1 y2 y3 hoc ee
            refine wpAnyH_ready (rs := [28]) (by kernel_rfl) (by simp) ?_
            refine AllReadyH.cons rfl (fun K hK => ?_) AllReadyH.nil
            try rw [if_pos (by rfl)]
            go_simp
            have gs := grownBy_set u1 ob 28 (.int .i64 nn)
            have hR6 : Vb 29 (u1.setCell ⟨ob, 28, none⟩ (.int .i64 nn)) rb [.int .i64 (⟨1, 65535, 0, 0, fullX, fullOs.set 7 ⟨nn, 255, -1, 7⟩⟩ : RuleV).k, .int .i64 (⟨1, 65535, 0, 0, fullX, fullOs.set 7 ⟨nn, 255, -1, 7⟩⟩ : RuleV).pr, .int .i64 (⟨1, 65535, 0, 0, fullX, fullOs.set 7 ⟨nn, 255, -1, 7⟩⟩ : RuleV).to, .int .i64 (⟨1, 65535, 0, 0, fullX, fullOs.set 7 ⟨nn, 255, -1, 7⟩⟩ : RuleV).po, .int .i64 (⟨1, 65535, 0, 0, fullX, fullOs.set 7 ⟨nn, 255, -1, 7⟩⟩ : RuleV).x.v, .int .i64 (⟨1, 65535, 0, 0, fullX, fullOs.set 7 ⟨nn, 255, -1, 7⟩⟩ : RuleV).x.m, .int .u8 (⟨1, 65535, 0, 0, fullX, fullOs.set 7 ⟨nn, 255, -1, 7⟩⟩ : RuleV).x.b0, .int .u8 (⟨1, 65535, 0, 0, fullX, fullOs.set 7 ⟨nn, 255, -1, 7⟩⟩ : RuleV).x.b1, .int .u8 (⟨1, 65535, 0, 0, fullX, fullOs.set 7 ⟨nn, 255, -1, 7⟩⟩ : RuleV).x.b2, .int .u8 (⟨1, 65535, 0, 0, fullX, fullOs.set 7 ⟨nn, 255, -1, 7⟩⟩ : RuleV).x.i0, .int .u8 (⟨1, 65535, 0, 0, fullX, fullOs.set 7 ⟨nn, 255, -1, 7⟩⟩ : RuleV).x.i1, .int .u8 (⟨1, 65535, 0, 0, fullX, fullOs.set 7 ⟨nn, 255, -1, 7⟩⟩ : RuleV).x.i2, .slice (some ⟨ob, 0, none⟩) 8 c2] := hR5.other (r := ob) (by omega) 28 _
            have hs6 : Ro (u1.setCell ⟨ob, 28, none⟩ (.int .i64 nn)) u1.heap.size (some ⟨ob, 0, none⟩) 8 c2 (fullOs.set 7 ⟨nn, 255, -1, 7⟩) := ro_set (o := ⟨2, 255, (-1), 7⟩) (o' := ⟨nn, 255, -1, 7⟩) hRo.1 7 rfl 0 (by omega) (.int .i64 nn) rfl
            have hb6 := hb5.setCell (p := ⟨ob, 28, none⟩) (by simp; try omega) (.int .i64 nn)
            have hS6 : (u1.setCell ⟨ob, 28, none⟩ (.int .i64 nn)).cell? ⟨rb, 12, none⟩ = some (.slice (some ⟨ob, 0, none⟩) 8 c2) := hR6.cell 12 rfl
            refine hK.out _ _ hS6 (fun _ => ?_)
            clear hK K e1 hS1
            try simp only [Act.put, List.setIfInBounds_toArray, List.set_cons_zero, List.set_cons_succ]
            have hsz6 : u1.heap.size ≤ (u1.setCell ⟨ob, 28, none⟩ (.int .i64 nn)).heap.size := gs.size
            skip
            generalize u1.setCell ⟨ob, 28, none⟩ (.int .i64 nn) = u2 at *
            refine wpAnyH_done (by kernel_rfl) ?_ _
            go_wp2_with fail
            go_meet
            case rel => exact ⟨⟨1, 65535, 0, 0, fullX, fullOs.set 7 ⟨nn, 255, -1, 7⟩⟩, _, hR6, hs6, by first | exact Nat.le_refl _ | exact hsz6, byOf rfl, hb6⟩
          · skip
            refine takeD (i := 24) (v := .pointer (some ⟨pb, 7, none⟩)) (some 135) rfl rfl (by kernel_rfl) (by kernel_rfl) (by kernel_rfl) (fun _ _ _ h => h) (Or.inl ⟨by rfl, ?_⟩) hS1 ?_
            · rintro w' s0
              go_simp
            try simp only [Act.put, List.setIfInBounds_toArray, List.set_cons_zero, List.set_cons_succ]
            have e0 := hP.cell 7 rfl
            refine wpAnyH_ready (rs := [25]) (by kernel_rfl) (by simp) ?_
            refine AllReadyH.cons rfl (fun K hK => ?_) AllReadyH.nil
            try rw [if_pos (by rfl)]
            go_simp
            refine hK.out _ _ hS1 (fun _ => ?_)
            clear hK K e0
            try simp only [Act.put, List.setIfInBounds_toArray, List.set_cons_zero, List.set_cons_succ]
            refine takeD (i := 27) (v := .pointer (some ⟨ob, 29, none⟩)) (some 138) rfl rfl (by kernel_rfl) (by kernel_rfl) (by kernel_rfl) (fun _ _ _ h => h) (Or.inl ⟨by rfl, ?_⟩) hS1 ?_
            · rintro w' s0
              go_simp
            try simp only [Act.put, List.setIfInBounds_toArray, List.set_cons_zero, List.set_cons_succ]
            obtain ⟨b2, off2, ee, _, hoc⟩ := hRo.1.at_ (by omega)
            have ee := Option.some.inj ee
            have ee1 := congrArg Addr.block ee
            have ee2 := congrArg Addr.off ee
            simp only at ee1 ee2
            subst ee1 ee2
            obtain ⟨y0, y1, y2, y3⟩ := hoc 7 ⟨2, 255, (-1), 7⟩ rfl
            have e1 := y1
            change u1.cell? ⟨ob, 29, none⟩ = _ at e1
            clear y0 y1 y2 y3 hoc ee
            refine wpAnyH_ready (rs := [28]) (by kernel_rfl) (by simp) ?_
            refine AllReadyH.cons rfl (fun K hK => ?_) AllReadyH.nil
            try rw [if_pos (by rfl)]
            go_simp
            have gs := grownBy_set u1 ob 29 (.int .i64 nn)
            have hR6 : Vb 29 (u1.setCell ⟨ob, 29, none⟩ (.int .i64 nn)) rb [.int .i64 (⟨1, 65535, 0, 0, fullX, fullOs.set 7 ⟨2, nn, -1, 7⟩⟩ : RuleV).k, .int .i64 (⟨1, 65535, 0, 0, fullX, fullOs.set 7 ⟨2, nn, -1, 7⟩⟩ : RuleV).pr, .int .i64 (⟨1, 65535, 0, 0, fullX, fullOs.set 7 ⟨2, nn, -1, 7⟩⟩ : RuleV).to, .int .i64 (⟨1, 65535, 0, 0, fullX, fullOs.set 7 ⟨2, nn, -1, 7⟩⟩ : RuleV).po, .int .i64 (⟨1, 65535, 0, 0, fullX, fullOs.set 7 ⟨2, nn, -1, 7⟩⟩ : RuleV).x.v, .int .i64 (⟨1, 65535, 0, 0, fullX, fullOs.set 7 ⟨2, nn, -1, 7⟩⟩ : RuleV).x.m, .int .u8 (⟨1, 65535, 0, 0, fullX, fullOs.set 7 ⟨2, nn, -1, 7⟩⟩ : RuleV).x.b0, .int .u8 (⟨1, 65535, 0, 0, fullX, fullOs.set 7 ⟨2, nn, -1, 7⟩⟩ : RuleV).x.b1, .int .u8 (⟨1, 65535, 0, 0, fullX, fullOs.set 7 ⟨2, nn, -1, 7⟩⟩ : RuleV).x.b2, .int .u8 (⟨1, 65535, 0, 0, fullX, fullOs.set 7 ⟨2, nn, -1, 7⟩⟩ : RuleV).x.i0, .int .u8 (⟨1, 65535, 0, 0, fullX, fullOs.set 7 ⟨2, nn, -1, 7⟩⟩ : RuleV).x.i1, .int .u8 (⟨1, 65535, 0, 0, fullX, fullOs.set 7 ⟨2, nn, -1, 7⟩⟩ : RuleV).x.i2, .slice (some ⟨ob, 0, none⟩) 8 c2] := hR5.other (r := ob) (by omega) 29 _
            have hs6 : Ro (u1.setCell ⟨ob, 29, none⟩ (.int .i64 nn)) u1.heap.size (some ⟨ob, 0, none⟩) 8 c2 (fullOs.set 7 ⟨2, nn, -1, 7⟩) := ro_set (o := ⟨2, 255, (-1), 7⟩) (o' := ⟨2, nn, -1, 7⟩) hRo.1 7 rfl 1 (by omega) (.int .i64 nn) rfl
            have hb6 := hb5.setCell (p := ⟨ob, 29, none⟩) (by simp; try omega) (.int .i64 nn)
            have hS6 : (u1.setCell ⟨ob, 29, none⟩ (.int .i64 nn)).cell? ⟨rb, 12, none⟩ = some (.slice (some ⟨ob, 0, none⟩) 8 c2) := hR6.cell 12 rfl
            refine hK.out _ _ hS6 (fun _ => ?_)
            clear hK K e1 hS1
            try simp only [Act.put, List.setIfInBounds_toArray, List.set_cons_zero, List.set_cons_succ]
            have hsz6 : u1.heap.size ≤ (u1.setCell ⟨ob, 29, none⟩ (.int .i64 nn)).heap.size := gs.size
            skip
            generalize u1.setCell ⟨ob, 29, none⟩ (.int .i64 nn) = u2 at *
            refine wpAnyH_done (by kernel_rfl) ?_ _
            go_wp2_with fail
            go_meet
            case rel => exact ⟨⟨1, 65535, 0, 0, fullX, fullOs.set 7 ⟨2, nn, -1, 7⟩⟩, _, hR6, hs6, by first | exact Nat.le_refl _ | exact hsz6, byOf rfl, hb6⟩
          · skip
            refine takeD (i := 24) (v := .pointer (some ⟨pb, 8, none⟩)) (some 135) rfl rfl (by kernel_rfl) (by kernel_rfl) (by kernel_rfl) (fun _ _ _ h => h) (Or.inl ⟨by rfl, ?_⟩) hS1 ?_
            · rintro w' s0
              go_simp
            try simp only [Act.put, List.setIfInBounds_toArray, List.set_cons_zero, List.set_cons_succ]
            have e0 := hP.cell 8 rfl
            refine wpAnyH_ready (rs := [25]) (by kernel_rfl) (by simp) ?_
            refine AllReadyH.cons rfl (fun K hK => ?_) AllReadyH.nil
            try rw [if_pos (by rfl)]
            go_simp
            refine hK.out _ _ hS1 (fun _ => ?_)
            clear hK K e0
            try simp only [Act.put, List.setIfInBounds_toArray, List.set_cons_zero, List.set_cons_succ]
            refine takeD (i := 27) (v := .pointer (some ⟨ob, 3, none⟩)) (some 138) rfl rfl (by kernel_rfl) (by kernel_rfl) (by kernel_rfl) (fun _ _ _ h => h) (Or.inl ⟨by rfl, ?_⟩) hS1 ?_
            · rintro w' s0
              go_simp
            try simp only [Act.put, List.setIfInBounds_toArray, List.set_cons_zero, List.set_cons_succ]
            obtain ⟨b2, off2, ee, _, hoc⟩ := hRo.1.at_ (by omega)
            have ee := Option.some.inj ee
            have ee1 := congrArg Addr.block ee
            have ee2 := congrArg Addr.off ee
            simp only at ee1 ee2
            subst ee1 ee2
            obtain ⟨y0, y1, y2, y3⟩ := hoc 0 ⟨0, 255, (-1), 0⟩ rfl
            have e1 := y3
            change u1.cell? ⟨ob, 3, none⟩ = _ at e1
            clear y0 y1 y2 y3 hoc ee
            refine wpAnyH_ready (rs := [28]) (by kernel_rfl) (by simp) ?_
            refine AllReadyH.cons rfl (fun K hK => ?_) AllReadyH.nil
            try rw [if_pos (by rfl)]
            go_simp
            have gs := grownBy_set u1 ob 3 (.int .i64 nn)
            have hR6 : Vb 29 (u1.setCell ⟨ob, 3, none⟩ (.int .i64 nn)) rb [.int .i64 (⟨1, 65535, 0, 0, fullX, fullOs.set 0 ⟨0, 255, -1, nn⟩⟩ : RuleV).k, .int .i64 (⟨1, 65535, 0, 0, fullX, fullOs.set 0 ⟨0, 255, -1, nn⟩⟩ : RuleV).pr, .int .i64 (⟨1, 65535, 0, 0, fullX, fullOs.set 0 ⟨0, 255, -1, nn⟩⟩ : RuleV).to, .int .i64 (⟨1, 65535, 0, 0, fullX, fullOs.set 0 ⟨0, 255, -1, nn⟩⟩ : RuleV).po, .int .i64 (⟨1, 65535, 0, 0, fullX, fullOs.set 0 ⟨0, 255, -1, nn⟩⟩ : RuleV).x.v, .int .i64 (⟨1, 65535, 0, 0, fullX, fullOs.set 0 ⟨0, 255, -1, nn⟩⟩ : RuleV).x.m, .int .u8 (⟨1, 65535, 0, 0, fullX, fullOs.set 0 ⟨0, 255, -1, nn⟩⟩ : RuleV).x.b0, .int .u8 (⟨1, 65535, 0, 0, fullX, fullOs.set 0 ⟨0, 255, -1, nn⟩⟩ : RuleV).x.b1, .int .u8 (⟨1, 65535, 0, 0, fullX, fullOs.set 0 ⟨0, 255, -1, nn⟩⟩ : RuleV).x.b2, .int .u8 (⟨1, 65535, 0, 0, fullX, fullOs.set 0 ⟨0, 255, -1, nn⟩⟩ : RuleV).x.i0, .int .u8 (⟨1, 65535, 0, 0, fullX, fullOs.set 0 ⟨0, 255, -1, nn⟩⟩ : RuleV).x.i1, .int .u8 (⟨1, 65535, 0, 0, fullX, fullOs.set 0 ⟨0, 255, -1, nn⟩⟩ : RuleV).x.i2, .slice (some ⟨ob, 0, none⟩) 8 c2] := hR5.other (r := ob) (by omega) 3 _
            have hs6 : Ro (u1.setCell ⟨ob, 3, none⟩ (.int .i64 nn)) u1.heap.size (some ⟨ob, 0, none⟩) 8 c2 (fullOs.set 0 ⟨0, 255, -1, nn⟩) := ro_set (o := ⟨0, 255, (-1), 0⟩) (o' := ⟨0, 255, -1, nn⟩) hRo.1 0 rfl 3 (by omega) (.int .i64 nn) rfl
            have hb6 := hb5.setCell (p := ⟨ob, 3, none⟩) (by simp; try omega) (.int .i64 nn)
            have hS6 : (u1.setCell ⟨ob, 3, none⟩ (.int .i64 nn)).cell? ⟨rb, 12, none⟩ = some (.slice (some ⟨ob, 0, none⟩) 8 c2) := hR6.cell 12 rfl
            refine hK.out _ _ hS6 (fun _ => ?_)
            clear hK K e1 hS1
            try simp only [Act.put, List.setIfInBounds_toArray, List.set_cons_zero, List.set_cons_succ]
            have hsz6 : u1.heap.size ≤ (u1.setCell ⟨ob, 3, none⟩ (.int .i64 nn)).heap.size := gs.size
            skip
            generalize u1.setCell ⟨ob, 3, none⟩ (.int .i64 nn) = u2 at *
            refine wpAnyH_done (by kernel_rfl) ?_ _
            go_wp2_with fail
            go_meet
            case rel => exact ⟨⟨1, 65535, 0, 0, fullX, fullOs.set 0 ⟨0, 255, -1, nn⟩⟩, _, hR6, hs6, by first | exact Nat.le_refl _ | exact hsz6, byOf rfl, hb6⟩
        clear hR5 hO5 hb5
        obtain ⟨r', s', hR, hs, hsl, h8, hb⟩ := hcut
        replace hs := hs.more hsl
        have hzr := hR.lt
        go_wp2_with (refine wpList_load_vb (vs := [.int .i64 r'.k, .int .i64 r'.pr, .int .i64 r'.to, .int .i64 r'.po, .int .i64 r'.x.v, .int .i64 r'.x.m, .int .u8 r'.x.b0, .int .u8 r'.x.b1, .int .u8 r'.x.b2, .int .u8 r'.x.i0, .int .u8 r'.x.i1, .int .u8 r'.x.i2, .slice (some ⟨ob, 0, none⟩) 8 c2]) rfl (.tmp 9) rfl rfl hR rfl agg_rule ?_)
        refine (orderBytesL_any ⟨2, 0, 0, r', 0, 0, 0, 0, 0⟩ hs h8).mono ?_
        rintro e v1 ⟨rfl, hb1⟩
        replace hR := hR.below hb1 hzr
        replace hs := (hs.below' hb1 (Nat.le_refl _)).more hb1.size
        replace hb := hb.trans (hb1.mono (by omega))
        replace hzr := hR.lt
        clear hb1
        go_wp2_with (refine wpList_load_want (vs := [.int .i64 r'.k, .int .i64 r'.pr, .int .i64 r'.to, .int .i64 r'.po, .int .i64 r'.x.v, .int .i64 r'.x.m, .int .u8 r'.x.b0, .int .u8 r'.x.b1, .int .u8 r'.x.b2, .int .u8 r'.x.i0, .int .u8 r'.x.i1, .int .u8 r'.x.i2, .slice (some ⟨ob, 0, none⟩) 8 c2]) rfl (.tmp 9) rfl rfl hR rfl agg_rule ?_)
        refine (orderBytesL_any ⟨3, 0, 0, r', 0, 0, 0, 0, 0⟩ hs h8).mono ?_
        rintro e v2 ⟨rfl, hb1⟩
        replace hb := hb.trans (hb1.mono (by omega))
        have hK := Hst.out _ hb
        clear hb1 hb hs hR hzr
        go_wp2_with fail
        refine ⟨⟨xk + 1, by go_num, by omega, by omega, hK⟩, by simp [intOf]; omega⟩
theorem OrderKnown_walk (w : World) : Calls Tryz.prog 3 #[] w fun e w' => e = .returned (.bool true) ∧ Below w.heap.size w w' := orderKnown_any w
end Go.Proofs.YteambkehdbffmaaGreat.Oct
