/- Contracts of layer 6: a rule's bytes, the program. -/
import Derived.Test.YteambkehdbffmaaGreatOrdL
import Derived.Test.YteambkehdbffmaaGreatOrdB
import Derived.Test.YteambkehdbffmaaGreatPut
namespace Go.Proofs.YteambkehdbffmaaGreat.Oct
open Go.RowKit
set_option linter.unusedVariables false
set_option linter.unusedSimpArgs false

theorem put_b1 (l : List Int) (v : Int) (h : 0 ≤ v ∧ v < 256) : putP l 1 [v] = (l ++ dg 1 v, 0) := putP_one l 1 (by omega) v h.1 (by omega)
theorem put_b2 (l : List Int) (v : Int) (h : 0 ≤ v ∧ v < 65536) : putP l 2 [v] = (l ++ dg 2 v, 0) := putP_one l 2 (by omega) v h.1 (by omega)
theorem put_b4 (l : List Int) (v : Int) (h : 0 ≤ v ∧ v < 4294967296) : putP l 4 [v] = (l ++ dg 4 v, 0) := putP_one l 4 (by omega) v h.1 (by omega)
theorem put_two1 (l : List Int) (a b : Int) (ha : 0 ≤ a ∧ a < 256) (hb : 0 ≤ b ∧ b < 256) : putP l 1 [a, b] = (l ++ (dg 1 a ++ dg 1 b), 0) := by
  unfold putP
  rw [if_pos (by omega), if_pos (by simp [fitsP]; omega)]
  simp
theorem put_three2 (l : List Int) (a b c : Int) (ha : 0 ≤ a ∧ a < 65536) (hb : 0 ≤ b ∧ b < 65536) (hc : 0 ≤ c ∧ c < 65536) : putP l 2 [a, b, c] = (l ++ (dg 2 a ++ (dg 2 b ++ dg 2 c)), 0) := by
  unfold putP
  rw [if_pos (by omega), if_pos (by simp [fitsP]; omega)]
  simp
/-- Numbers of a block, as a slice over them. -/
theorem rd_part {T : TypeId} {w : World} {g B : Nat} {cs : List Value} {k : IntKind} (hv : Vb T w g cs) (off : Nat) (l : List Int) (hl : (cs.drop off).take l.length = l.map (Value.int k)) (hB : g < B) (hm : l.length ≤ 1000) : Rd k w B (some ⟨g, off, none⟩) l.length l.length l := by
  refine ⟨rfl, Nat.le_refl _, by unfold maxLen; omega, fun e => by simp at e, fun hn => ⟨g, off, rfl, hB, fun j hj => hv.cell (off + j) ?_⟩⟩
  have : ((cs.drop off).take l.length)[j]? = (l.map (Value.int k))[j]? := by rw [hl]
  rw [List.getElem?_take, if_pos hj, List.getElem?_drop] at this
  rw [this, List.getElem?_map, List.getElem?_eq_getElem hj, List.getD_eq_getElem?_getD, List.getElem?_eq_getElem hj]
  rfl
def rcl (r : RuleV) (S : Value) : List Value := [.int .i64 r.k, .int .i64 r.pr, .int .i64 r.to, .int .i64 r.po, .int .i64 r.x.v, .int .i64 r.x.m, .int .u8 r.x.b0, .int .u8 r.x.b1, .int .u8 r.x.b2, .int .u8 r.x.i0, .int .u8 r.x.i1, .int .u8 r.x.i2, S]
theorem Vb.rul {T : TypeId} {w : World} {g : Nat} {r : RuleV} {S : Value} (h : Vb T w g (rcl r S)) : w.cell? ⟨g, 0, none⟩ = some (.int .i64 r.k) ∧ w.cell? ⟨g, 1, none⟩ = some (.int .i64 r.pr) ∧ w.cell? ⟨g, 2, none⟩ = some (.int .i64 r.to) ∧ w.cell? ⟨g, 3, none⟩ = some (.int .i64 r.po) ∧ w.cell? ⟨g, 4, none⟩ = some (.int .i64 r.x.v) ∧ w.cell? ⟨g, 5, none⟩ = some (.int .i64 r.x.m) ∧ w.cell? ⟨g, 6, none⟩ = some (.int .u8 r.x.b0) ∧ w.cell? ⟨g, 7, none⟩ = some (.int .u8 r.x.b1) ∧ w.cell? ⟨g, 8, none⟩ = some (.int .u8 r.x.b2) ∧ w.cell? ⟨g, 9, none⟩ = some (.int .u8 r.x.i0) ∧ w.cell? ⟨g, 10, none⟩ = some (.int .u8 r.x.i1) ∧ w.cell? ⟨g, 11, none⟩ = some (.int .u8 r.x.i2) ∧ w.cell? ⟨g, 12, none⟩ = some (S) := h.c13
theorem outB_len (x : OutV) : (outB x).length = 7 := by simp [outB, dg_len]
theorem outsB_len (os : List OutV) : (os.flatMap outB).length = 7 * os.length := by
  induction os with
  | nil => rfl
  | cons x os ih => rw [List.flatMap_cons, List.length_append, outB_len, ih, List.length_cons]; omega
theorem flat_snoc (os : List OutV) (k : Nat) (x : OutV) (h : os[k]? = some x) : (os.take (k + 1)).flatMap outB = (os.take k).flatMap outB ++ outB x := by
  rw [List.take_add_one, h, List.flatMap_append]; simp

set_option maxRecDepth 100000 in
set_option maxHeartbeats 1600000 in
theorem plus_any (a b c n : Int) (w : World) (hn : -1 ≤ n ∧ n ≤ 1) (ha : -2 ≤ a ∧ a ≤ 70000) (hb : -2 ≤ b ∧ b ≤ 70000) (hc : -2 ≤ c ∧ c ≤ 70000) : Calls Tryz.prog 86 #[.agg #[.int .i64 a, .int .i64 b, .int .i64 c], .int .i64 n] w fun e w' => e = .returned (.agg #[.int .i64 (a + n), .int .i64 (b + n), .int .i64 (c + n)]) ∧ Below w.heap.size w w' := by
  obtain ⟨n1, n2⟩ := hn
  obtain ⟨a1, a2⟩ := ha
  obtain ⟨b1, b2⟩ := hb
  obtain ⟨c1, c2⟩ := hc
  go_enter Tryz.func86, Tryz.ntmps86
  go_wp2_with fail
  refine wp_loop_rounds (3 + 1) ?_
  rw [rounds_succ]
  go_wp2_with fail
  rw [rounds_succ]
  go_wp2_with fail
  rw [rounds_succ]
  go_wp2_with fail
  rw [rounds_succ]
  go_wp2_with fail
  refine bodyPost_ret (v := .agg #[.int .i64 (a + n), .int .i64 (b + n), .int .i64 (c + n)]) (by simp [results, Tryz.results86, go_sem]) rfl ?_
  exact ⟨rfl, below_two w _ _⟩
set_option maxRecDepth 100000 in
set_option maxHeartbeats 1600000 in
theorem writeCtl_any {w : World} {B1 B n1 c1 n c : Nat} {A1 A : Option Addr} {l : List Int} (r : RuleV) (hb : Rd .u8 w B1 A1 n1 c1 l) (hB1 : B1 ≤ w.heap.size) (h : Ro w B A n c r.os) (hB : B ≤ w.heap.size) (ok : okCtl r) (hl : l.length ≤ 10) : Calls Tryz.prog 67 #[.slice A1 n1 c1, .agg #[.int .i64 r.k, .int .i64 r.pr, .int .i64 r.to, .int .i64 r.po, .int .i64 r.x.v, .int .i64 r.x.m, .int .u8 r.x.b0, .int .u8 r.x.b1, .int .u8 r.x.b2, .int .u8 r.x.i0, .int .u8 r.x.i1, .int .u8 r.x.i2, .slice A n c]] w (NewOf (l ++ ruleB r) w) := by
  obtain ⟨o1, ⟨o2, o3⟩, ⟨o4, o5⟩, o6, _, _⟩ := ok
  have hq1 := Kp.mk (put_b1 l r.k (by omega))
  have hq2 := Kp.mk (fun l => put_b2 l r.pr (by omega))
  have hq3 := Kp.mk (fun l => put_two1 l r.to r.po (by omega) (by omega))
  have hp := Kp.mk (show ((l ++ dg 1 r.k) ++ dg 2 r.pr) ++ (dg 1 r.to ++ dg 1 r.po) = l ++ ruleB r by unfold ruleB; rw [if_neg (by omega)]; simp only [List.append_assoc, List.append_nil])
  have k1 : (r.k != 1) = true := by rw [bne, beq_eq_false_iff_ne.2 (by omega)]; rfl
  clear o1 o2 o3 o4 o5 o6
  have hln := hb.len
  have hba := below_alloc w (.cells #[.int .i64 r.k, .int .i64 r.pr, .int .i64 r.to, .int .i64 r.po, .int .i64 r.x.v, .int .i64 r.x.m, .int .u8 r.x.b0, .int .u8 r.x.b1, .int .u8 r.x.b2, .int .u8 r.x.i0, .int .u8 r.x.i1, .int .u8 r.x.i2, .slice A n c] 29)
  have hza : w.heap.size < (w.alloc (.cells #[.int .i64 r.k, .int .i64 r.pr, .int .i64 r.to, .int .i64 r.po, .int .i64 r.x.v, .int .i64 r.x.m, .int .u8 r.x.b0, .int .u8 r.x.b1, .int .u8 r.x.b2, .int .u8 r.x.i0, .int .u8 r.x.i1, .int .u8 r.x.i2, .slice A n c] 29)).heap.size := by simp
  have hxa : Vb 29 (w.alloc (.cells #[.int .i64 r.k, .int .i64 r.pr, .int .i64 r.to, .int .i64 r.po, .int .i64 r.x.v, .int .i64 r.x.m, .int .u8 r.x.b0, .int .u8 r.x.b1, .int .u8 r.x.b2, .int .u8 r.x.i0, .int .u8 r.x.i1, .int .u8 r.x.i2, .slice A n c] 29)) w.heap.size (rcl r (.slice A n c)) := Vb.new 29 w (rcl r (.slice A n c))
  have hra := hb.below' hba hB1
  have hn1 : n1 ≤ 20 := by omega
  clear hln
  have HA := Kp.mk h
  go_enter Tryz.func67, Tryz.ntmps67
  go_upto_region 1 with fail
  generalize (w.alloc (.cells #[.int .i64 r.k, .int .i64 r.pr, .int .i64 r.to, .int .i64 r.po, .int .i64 r.x.v, .int .i64 r.x.m, .int .u8 r.x.b0, .int .u8 r.x.b1, .int .u8 r.x.b2, .int .u8 r.x.i0, .int .u8 r.x.i1, .int .u8 r.x.i2, .slice A n c] 29)) = wa at *
  obtain ⟨d0, d1, d2, d3, d4, d5, d6, d7, d8, d9, d10, d11, d12⟩ := hxa.rul
  go_wp2_with fail
  refine (put_lit 1 [r.k] hra (by omega) (by simp) (by omega)).mono ?_
  rw [hq1.out]
  rintro e w1 ⟨A2, n2, c2, rfl, ho1, hb1⟩
  have hx1 := hxa.below hb1 (by omega)
  have hz1 := hb1.size
  have hT1 := hba.trans (hb1.mono (by omega))
  have hl1 : n2 ≤ 30 := by have := ho1.len; simp [dg_len] at this; omega
  clear d0 d1 d2 d3 d4 d5 d6 d7 d8 d9 d10 d11 d12 hxa hba hb1 hra
  obtain ⟨d0, d1, d2, d3, d4, d5, d6, d7, d8, d9, d10, d11, d12⟩ := hx1.rul
  go_wp2_with fail
  refine (put_lit 2 [r.pr] ho1.rd (Nat.le_refl _) (by simp) (by omega)).mono ?_
  rw [hq2.out]
  rintro e w2 ⟨A3, n3, c3, rfl, ho2, hb2⟩
  have hx2 := hx1.below hb2 (by omega)
  have hz2 := hb2.size
  have hT2 := hT1.trans (hb2.mono (by omega))
  have hl2 : n3 ≤ 40 := by have := ho2.len; simp [dg_len] at this; omega
  clear d0 d1 d2 d3 d4 d5 d6 d7 d8 d9 d10 d11 d12 hx1 hb2 hT1 ho1
  obtain ⟨d0, d1, d2, d3, d4, d5, d6, d7, d8, d9, d10, d11, d12⟩ := hx2.rul
  go_wp2_with fail
  refine (put_lit 1 [r.to, r.po] ho2.rd (Nat.le_refl _) (by simp) (by omega)).mono ?_
  rw [hq3.out]
  rintro e w3 ⟨A4, n4, c4, rfl, ho3, hb3⟩
  have hx3 := hx2.below hb3 (by omega)
  have hz3 := hb3.size
  have hT3 := hT2.trans (hb3.mono (by omega))
  have hl3 : n4 ≤ 50 := by have := ho3.len; simp [dg_len] at this; omega
  clear d0 d1 d2 d3 d4 d5 d6 d7 d8 d9 d10 d11 d12 hx2 hb3 hT2 ho2
  obtain ⟨d0, d1, d2, d3, d4, d5, d6, d7, d8, d9, d10, d11, d12⟩ := hx3.rul
  rw [hp.out] at ho3
  go_wp2_with fail
  go_ret
  exact ⟨A4, n4, c4, rfl, ho3.lower (by omega), hT3⟩
set_option maxRecDepth 100000 in
set_option maxHeartbeats 3200000 in
theorem writeData_any {w : World} {B1 B n1 c1 n c : Nat} {A1 A : Option Addr} {l : List Int} (r : RuleV) (hb : Rd .u8 w B1 A1 n1 c1 l) (hB1 : B1 ≤ w.heap.size) (h : Ro w B A n c r.os) (hB : B ≤ w.heap.size) (ok : okData r) (h8 : u8M r.x) (hl : l.length ≤ 10) : Calls Tryz.prog 67 #[.slice A1 n1 c1, .agg #[.int .i64 r.k, .int .i64 r.pr, .int .i64 r.to, .int .i64 r.po, .int .i64 r.x.v, .int .i64 r.x.m, .int .u8 r.x.b0, .int .u8 r.x.b1, .int .u8 r.x.b2, .int .u8 r.x.i0, .int .u8 r.x.i1, .int .u8 r.x.i2, .slice A n c]] w (NewOf (l ++ ruleB r) w) := by
  obtain ⟨o1, ⟨o2, o3⟩, o4, o5, ⟨⟨m1, m2⟩, ⟨m3, m4⟩, _⟩, o8, oo⟩ := ok
  have hq1 := Kp.mk (put_b1 l r.k (by omega))
  have hq2 := Kp.mk (fun l => put_b2 l r.pr (by omega))
  have hq3 := Kp.mk (fun l => put_two1 l r.to r.po (by omega) (by omega))
  have hq4 := Kp.mk (fun l => put_two1 l r.x.v (r.x.m + 1) (by omega) (by omega))
  have hnl := h.len
  have hn8 : n ≤ 8 := by omega
  have hq5 := Kp.mk (fun l => put_b1 l (n : Nat) (by omega))
  have hOk := Kp.mk oo
  have HL := Kp.mk hnl
  have H8 := Kp.mk h8
  have hp := Kp.mk (show (((((((l ++ dg 1 r.k) ++ dg 2 r.pr) ++ (dg 1 r.to ++ dg 1 r.po)) ++ (dg 1 r.x.v ++ dg 1 (r.x.m + 1))) ++ [r.x.b0, r.x.b1, r.x.b2]) ++ [r.x.i0, r.x.i1, r.x.i2]) ++ dg 1 (n : Nat)) ++ r.os.flatMap outB = l ++ ruleB r by unfold ruleB dataB maskB; rw [if_pos o1, hnl]; simp only [List.append_assoc])
  have k1 : (r.k != 1) = false := by rw [bne, o1]; rfl
  clear o1 o2 o3 o4 o5 o8 oo hnl h8 m1 m2
  have hln := hb.len
  have hba := below_alloc w (.cells #[.int .i64 r.k, .int .i64 r.pr, .int .i64 r.to, .int .i64 r.po, .int .i64 r.x.v, .int .i64 r.x.m, .int .u8 r.x.b0, .int .u8 r.x.b1, .int .u8 r.x.b2, .int .u8 r.x.i0, .int .u8 r.x.i1, .int .u8 r.x.i2, .slice A n c] 29)
  have hza : w.heap.size < (w.alloc (.cells #[.int .i64 r.k, .int .i64 r.pr, .int .i64 r.to, .int .i64 r.po, .int .i64 r.x.v, .int .i64 r.x.m, .int .u8 r.x.b0, .int .u8 r.x.b1, .int .u8 r.x.b2, .int .u8 r.x.i0, .int .u8 r.x.i1, .int .u8 r.x.i2, .slice A n c] 29)).heap.size := by simp
  have hxa : Vb 29 (w.alloc (.cells #[.int .i64 r.k, .int .i64 r.pr, .int .i64 r.to, .int .i64 r.po, .int .i64 r.x.v, .int .i64 r.x.m, .int .u8 r.x.b0, .int .u8 r.x.b1, .int .u8 r.x.b2, .int .u8 r.x.i0, .int .u8 r.x.i1, .int .u8 r.x.i2, .slice A n c] 29)) w.heap.size (rcl r (.slice A n c)) := Vb.new 29 w (rcl r (.slice A n c))
  have hra := hb.below' hba hB1
  have hn1 : n1 ≤ 20 := by omega
  clear hln
  have HA := Kp.mk h
  go_enter Tryz.func67, Tryz.ntmps67
  go_upto_region 1 with fail
  generalize (w.alloc (.cells #[.int .i64 r.k, .int .i64 r.pr, .int .i64 r.to, .int .i64 r.po, .int .i64 r.x.v, .int .i64 r.x.m, .int .u8 r.x.b0, .int .u8 r.x.b1, .int .u8 r.x.b2, .int .u8 r.x.i0, .int .u8 r.x.i1, .int .u8 r.x.i2, .slice A n c] 29)) = wa at *
  obtain ⟨d0, d1, d2, d3, d4, d5, d6, d7, d8, d9, d10, d11, d12⟩ := hxa.rul
  go_wp2_with fail
  refine (put_lit 1 [r.k] hra (by omega) (by simp) (by omega)).mono ?_
  rw [hq1.out]
  rintro e w1 ⟨A2, n2, c2, rfl, ho1, hb1⟩
  have hx1 := hxa.below hb1 (by omega)
  have hz1 := hb1.size
  have hT1 := hba.trans (hb1.mono (by omega))
  have hl1 : n2 ≤ 30 := by have := ho1.len; simp [dg_len] at this; omega
  clear d0 d1 d2 d3 d4 d5 d6 d7 d8 d9 d10 d11 d12 hxa hba hb1 hra
  obtain ⟨d0, d1, d2, d3, d4, d5, d6, d7, d8, d9, d10, d11, d12⟩ := hx1.rul
  go_wp2_with fail
  refine (put_lit 2 [r.pr] ho1.rd (Nat.le_refl _) (by simp) (by omega)).mono ?_
  rw [hq2.out]
  rintro e w2 ⟨A3, n3, c3, rfl, ho2, hb2⟩
  have hx2 := hx1.below hb2 (by omega)
  have hz2 := hb2.size
  have hT2 := hT1.trans (hb2.mono (by omega))
  have hl2 : n3 ≤ 40 := by have := ho2.len; simp [dg_len] at this; omega
  clear d0 d1 d2 d3 d4 d5 d6 d7 d8 d9 d10 d11 d12 hx1 hb2 hT1 ho1
  obtain ⟨d0, d1, d2, d3, d4, d5, d6, d7, d8, d9, d10, d11, d12⟩ := hx2.rul
  go_wp2_with fail
  refine (put_lit 1 [r.to, r.po] ho2.rd (Nat.le_refl _) (by simp) (by omega)).mono ?_
  rw [hq3.out]
  rintro e w3 ⟨A4, n4, c4, rfl, ho3, hb3⟩
  have hx3 := hx2.below hb3 (by omega)
  have hz3 := hb3.size
  have hT3 := hT2.trans (hb3.mono (by omega))
  have hl3 : n4 ≤ 50 := by have := ho3.len; simp [dg_len] at this; omega
  clear d0 d1 d2 d3 d4 d5 d6 d7 d8 d9 d10 d11 d12 hx2 hb3 hT2 ho2
  obtain ⟨d0, d1, d2, d3, d4, d5, d6, d7, d8, d9, d10, d11, d12⟩ := hx3.rul
  go_wp2_with fail
  refine (put_lit 1 [r.x.v, r.x.m + 1] ho3.rd (Nat.le_refl _) (by simp) (by omega)).mono ?_
  rw [hq4.out]
  rintro e w4 ⟨A5, n5, c5, rfl, ho4, hb4⟩
  have hx4 := hx3.below hb4 (by omega)
  have hz4 := hb4.size
  have hT4 := hT3.trans (hb4.mono (by omega))
  have hl4 : n5 ≤ 60 := by have := ho4.len; simp [dg_len] at this; omega
  clear d0 d1 d2 d3 d4 d5 d6 d7 d8 d9 d10 d11 d12 hx3 hb4 hT3 ho3
  obtain ⟨d0, d1, d2, d3, d4, d5, d6, d7, d8, d9, d10, d11, d12⟩ := hx4.rul
  have hr4 := rd_part (k := .u8) (B := w4.heap.size) hx4 6 [r.x.b0, r.x.b1, r.x.b2] rfl (by omega) (by simp)
  go_upto_region 8 with (at_builtin; refine wpList_append8 rfl (.tmp 51) (.tmp 54) rfl rfl (ho4.lower (b := w3.heap.size) (Nat.le_refl _)) rfl hr4 (by simp; omega) (by omega) ?_; intro A6 c6 w5 ho5 hb5)
  try simp only [List.length_cons, List.length_nil, Nat.zero_add, Nat.reduceAdd] at ho5
  have hx5 := hx4.below hb5 (by omega)
  have hz5 := hb5.size
  have hT5 := hT4.trans (hb5.mono (by omega))
  clear d0 d1 d2 d3 d4 d5 d6 d7 d8 d9 d10 d11 d12 hx4 hb5 hT4 ho4 hr4
  obtain ⟨d0, d1, d2, d3, d4, d5, d6, d7, d8, d9, d10, d11, d12⟩ := hx5.rul
  have hr5 := rd_part (k := .u8) (B := w5.heap.size) hx5 9 [r.x.i0, r.x.i1, r.x.i2] rfl (by omega) (by simp)
  go_upto_region 9 with (at_builtin; refine wpList_append8 rfl (.tmp 56) (.tmp 59) rfl rfl ho5 rfl hr5 (by simp; omega) (by omega) ?_; intro A7 c7 w6 ho6 hb6)
  try simp only [List.length_cons, List.length_nil, Nat.zero_add, Nat.reduceAdd] at ho6
  have hx6 := hx5.below hb6 (by omega)
  have hz6 := hb6.size
  have hT6 := hT5.trans (hb6.mono (by omega))
  clear d0 d1 d2 d3 d4 d5 d6 d7 d8 d9 d10 d11 d12 hx5 hb6 hT5 ho5 hr5
  obtain ⟨d0, d1, d2, d3, d4, d5, d6, d7, d8, d9, d10, d11, d12⟩ := hx6.rul
  go_wp2_with fail
  refine (put_lit 1 [(n : Int)] ho6.rd (Nat.le_refl _) (by simp) (by omega)).mono ?_
  rw [hq5.out]
  rintro e w7 ⟨A8, n8, c8, rfl, ho7, hb7⟩
  have hx7 := hx6.below hb7 (by omega)
  have hz7 := hb7.size
  have hT7 := hT6.trans (hb7.mono (by omega))
  have hl7 : n8 ≤ 80 := by have := ho7.len; simp [dg_len] at this; have := ho6.len; simp [dg_len] at this; omega
  clear d0 d1 d2 d3 d4 d5 d6 d7 d8 d9 d10 d11 d12 hx6 hb7 hT6 ho6
  obtain ⟨d0, d1, d2, d3, d4, d5, d6, d7, d8, d9, d10, d11, d12⟩ := hx7.rul
  replace ho7 := ho7.lower (b := w.heap.size) (by omega)
  generalize ((((((l ++ dg 1 r.k) ++ dg 2 r.pr) ++ (dg 1 r.to ++ dg 1 r.po)) ++ (dg 1 r.x.v ++ dg 1 (r.x.m + 1))) ++ [r.x.b0, r.x.b1, r.x.b2]) ++ [r.x.i0, r.x.i1, r.x.i2]) ++ dg 1 (n : Nat) = l7 at *
  change Own w7 w.heap.size (.slice A8 n8 c8) n8 l7 at ho7
  have hl7' : l7.length ≤ 80 := by have := ho7.len; omega
  clear hq1 hq2 hq3 hq4 hq5
  go_wp2_with fail
  clear d0 d1 d2 d3 d4 d5 d6 d7 d8 d9 d10 d11 d12 hx7
  go_loopw [0, 73] (fun b i wr => ∃ (k : Nat) (Ak : Option Addr) (nk ck : Nat), k ≤ n ∧ i = .int .i64 k ∧ b = .slice Ak nk ck ∧ Own wr w.heap.size (.slice Ak nk ck) nk (l7 ++ (r.os.take k).flatMap outB) ∧ Below w.heap.size w wr) (fun _ i _ => n - (intOf i).toNat)
  case atStart => exact ⟨0, A8, n8, c8, by omega, rfl, rfl, by simpa using ho7, hT7⟩
  case round =>
    obtain ⟨k, Ak, nk, ck, hk, rfl, rfl, ho, hT⟩ := hrel
    have hz := hT.size
    by_cases hlt : k < n
    rotate_left
    · obtain rfl : k = n := by omega
      have ht : r.os.take k = r.os := List.take_of_length_le (by have := HL.out; omega)
      rw [ht, hp.out] at ho
      go_wp2_with fail
      go_ret
      exact ⟨Ak, nk, ck, rfl, ho, hT⟩
    obtain ⟨b, off, rfl, hbB, hc⟩ := (HA.out.below' hT hB).at_ (by omega)
    obtain ⟨x, hok⟩ : ∃ x, r.os[k]? = some x := ⟨_, List.getElem?_eq_getElem (by have := HL.out; omega)⟩
    obtain ⟨d0, d1, d2, d3⟩ := hc k x hok
    have hxo := hOk.out x (List.mem_of_getElem? hok)
    obtain ⟨⟨x1, x2⟩, ⟨x3, x4⟩, ⟨x5, x6⟩, ⟨x7, x8⟩⟩ := hxo
    have hnk : nk ≤ 200 := by have := ho.len; rw [List.length_append, outsB_len, List.length_take] at this; omega
    have HS := Kp.mk (flat_snoc r.os k x hok)
    have j1 : (k : Int) < n := by omega
    have s1 := Kp.mk (fun l => put_b1 l x.p (by omega))
    have s2 := Kp.mk (fun l => put_three2 l (x.a + 1) (x.b + 1) (x.c + 1) (by omega) (by omega) (by omega))
    clear hc hok hOk HL
    go_wp2_with fail
    refine (plus_any x.a x.b x.c 1 _ (by omega) (by omega) (by omega) (by omega)).mono ?_
    rintro e v1 ⟨rfl, hv1⟩
    have hm := (Vb.new 32 wr [.int .i64 x.p, .int .i64 x.a, .int .i64 x.b, .int .i64 x.c]).below hv1 (by simp)
    have hU1 : Below wr.heap.size wr v1 := (below_alloc wr (.cells #[.int .i64 x.p, .int .i64 x.a, .int .i64 x.b, .int .i64 x.c] 32)).trans (hv1.mono (by simp))
    have hu1 : wr.heap.size < v1.heap.size := by have := hv1.size; simp at this; omega
    clear hv1 d0 d1 d2 d3
    obtain ⟨d0, d1, d2, d3⟩ := hm.c4
    go_upto_region 14 with fail
    have hs := Vb.new 30 v1 [.int .i64 (x.a + 1), .int .i64 (x.b + 1), .int .i64 (x.c + 1)]
    have hm2 := hm.alloc (.cells #[.int .i64 (x.a + 1), .int .i64 (x.b + 1), .int .i64 (x.c + 1)] 30)
    have hU2 := hU1.trans ((below_alloc v1 (.cells #[.int .i64 (x.a + 1), .int .i64 (x.b + 1), .int .i64 (x.c + 1)] 30)).mono (by omega))
    have hu2 : v1.heap.size < (v1.alloc (.cells #[.int .i64 (x.a + 1), .int .i64 (x.b + 1), .int .i64 (x.c + 1)] 30)).heap.size := by simp
    generalize v1.alloc (.cells #[.int .i64 (x.a + 1), .int .i64 (x.b + 1), .int .i64 (x.c + 1)] 30) = v2 at *
    clear d0 d1 d2 d3
    obtain ⟨d0, d1, d2, d3⟩ := hm2.c4
    go_wp2_with fail
    have ho2 := ho.below hU2 (Nat.le_refl _)
    refine (put_lit 1 [x.p] ho2.rd (Nat.le_refl _) (by simp) (by omega)).mono ?_
    rw [s1.out]
    rintro e v3 ⟨Aa, na, ca, rfl, hoa, hv3⟩
    have hs3 := hs.below hv3 (by omega)
    have hu3 := hv3.size
    have hna : na ≤ 210 := by have := hoa.len; have := ho.len; simp only [List.length_append, dg_len] at *; omega
    have hU3 := hU2.trans (hv3.mono (by omega))
    clear d0 d1 d2 d3
    go_wp2_with fail
    have hr3 := rd_part (k := .i64) (B := v3.heap.size) hs3 0 [x.a + 1, x.b + 1, x.c + 1] rfl (by omega) (by simp)
    refine (put_any 2 hoa.rd hr3 (Nat.le_refl _) (Nat.le_refl _) (by simp; omega)).mono ?_
    rw [s2.out]
    rintro e v4 ⟨Ab, nb, cb, rfl, hob, hv4⟩
    have hu4 := hv4.size
    have hU4 := hU3.trans (hv4.mono (by omega))
    go_wp2_with fail
    go_roundw
    case rel => exact ⟨k + 1, Ab, nb, cb, by omega, by go_num, rfl, by rw [HS.out]; unfold outB; simp only [List.append_assoc] at hob ⊢; exact hob.lower (by omega), hT.trans (hU4.mono (by omega))⟩
    case measure => simp [intOf]; omega
theorem writeRule_any {w : World} {B1 B n1 c1 n c : Nat} {A1 A : Option Addr} {l : List Int} (r : RuleV) (hb : Rd .u8 w B1 A1 n1 c1 l) (hB1 : B1 ≤ w.heap.size) (h : Ro w B A n c r.os) (hB : B ≤ w.heap.size) (ok : okR r) (h8 : u8M r.x) (hl : l.length ≤ 10) : Calls Tryz.prog 67 #[.slice A1 n1 c1, .agg #[.int .i64 r.k, .int .i64 r.pr, .int .i64 r.to, .int .i64 r.po, .int .i64 r.x.v, .int .i64 r.x.m, .int .u8 r.x.b0, .int .u8 r.x.b1, .int .u8 r.x.b2, .int .u8 r.x.i0, .int .u8 r.x.i1, .int .u8 r.x.i2, .slice A n c]] w (NewOf (l ++ ruleB r) w) := by
  rcases ok with ok | ok
  · exact writeData_any r hb hB1 h hB ok h8 hl
  · exact writeCtl_any r hb hB1 h hB ok hl
end Go.Proofs.YteambkehdbffmaaGreat.Oct
