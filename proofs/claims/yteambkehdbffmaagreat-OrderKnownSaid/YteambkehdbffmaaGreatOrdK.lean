/- Contracts of layer 6: a rule's and an order's bytes, the document's. -/
import Derived.Test.YteambkehdbffmaaGreatOrdJ
import Derived.Test.YteambkehdbffmaaGreatOrdG
import Derived.Test.YteambkehdbffmaaGreatPrbE
namespace Go.Proofs.YteambkehdbffmaaGreat.Oct
open Go.RowKit
set_option linter.unusedVariables false
set_option linter.unusedSimpArgs false

/-- append(x, y...) of bytes, x the call's own: as an equation. -/
theorem run_append8g {w : World} (ty : TypeId) {base B : Nat} {v : Value} {n m c : Nat} {A : Option Addr} {l l2 : List Int} (hown : Own w base v n l) (hr : Rd .u8 w B A m c l2)
    (hsz : n + m ≤ 140737488355328) (hbase : base ≤ w.heap.size) :
    ∃ A' c' w', (Builtin.append_ #[45, 45] ty #[v, .slice A m c]).run Tryz.prog w = .ok (.slice A' (n + m) c') w' ∧ Own w' base (.slice A' (n + m) c') (n + m) (l ++ l2) ∧ Below base w w' ∧ w.grownBy w' v.ownBlock := by
  obtain ⟨i0, hi, hz0, hz1, hz2⟩ := info_parts info_u8
  rcases A with _ | ad
  · have hc : c = 0 := hr.2.2.2.1 rfl
    have hm : m = 0 := by have := hr.le; omega
    subst hc hm
    have hl2 : l2 = [] := List.eq_nil_of_length_eq_zero hr.len
    subst hl2
    obtain ⟨A', c', e, _⟩ := hown.form
    subst e
    exact ⟨A', c', w, run_append_owned_none (P := Tryz.prog) (w := w) base 45 ty 5 i0 1 Tryz.underlying45 hi _ n _ hown, by simpa using hown, Below.refl _ _, World.grownBy.refl _ _⟩
  · have hcells : ∀ j u, (l2.map (Value.int .u8))[j]? = some u → w.cell? (ad.add j) = some u := by
      intro j u hu
      have hjl : j < l2.length := by
        rcases Nat.lt_or_ge j l2.length with h | h
        · exact h
        · simp [List.getElem?_eq_none (show (l2.map (Value.int .u8)).length ≤ j by simpa using h)] at hu
      obtain ⟨b, off, e, _, hc⟩ := hr.at_ (by have := hr.len; omega)
      have e := Option.some.inj e
      subst e
      rw [add_addr, hc j (by have := hr.len; omega)]
      rw [List.getElem?_map, List.getElem?_eq_getElem hjl] at hu
      simp at hu
      rw [List.getD_eq_getElem?_getD, List.getElem?_eq_getElem hjl, ← hu]; rfl
    obtain ⟨v', w', hrun, h2, h3, _, h5⟩ := run_append_own_at (P := Tryz.prog) w base 45 ty 5 i0 _ 1 1 Tryz.underlying45 hi hz0 hz1 hz2 rfl (by omega) v n _ hown ad m c (l2.map (Value.int .u8)) (by simp [hr.len]) hcells
      (by intro u hu; obtain ⟨z, _, rfl⟩ := List.mem_map.1 hu; rfl) (by unfold maxLen; omega) (by omega) hbase
    have hown' : Own w' base v' (n + m) (l ++ l2) := by unfold Own; rw [List.map_append]; exact h2
    obtain ⟨A', c', e, _⟩ := hown'.form
    subst e
    refine ⟨A', c', w', hrun, hown', (Below.refl base w).grown h3 hbase fun k hk => ?_, h3⟩
    exact (World.ownsRow.lt hown k hk).1

theorem op_append8g {w : World} {o : Oper} {a : Act} {K : Act → World → Prop} {Q : Exit → Act → World → Prop} (s x : Operand)
    (ho : o.op = .call { callee := .builtin .append, args := #[s, x], argTypes := #[45, 45] })
    {base B : Nat} {v : Value} {n m c : Nat} {A : Option Addr} {l l2 : List Int} (hs : a.eval s = v) (hown : Own w base v n l) (hx : a.eval x = .slice A m c) (hr : Rd .u8 w B A m c l2)
    (hsz : n + m ≤ 140737488355328) (hbase : base ≤ w.heap.size)
    (h : ∀ A' c' w', Own w' base (.slice A' (n + m) c') (n + m) (l ++ l2) → Below base w w' → w.grownBy w' v.ownBlock → K (a.put o.dst (.slice A' (n + m) c')) w') : o.wp Tryz.prog a w K Q := by
  obtain ⟨A', c', w', hrun, h2, h3, h4⟩ := run_append8g (w := w) o.type hown hr hsz hbase
  unfold Oper.wp execOp
  simp only [ho, resolve, invoke, builtin, Sem.run_bind, Sem.run_pure, Result.andThen_ok, List.map_toArray, List.map_cons, List.map_nil, hs, hx, hrun]
  exact h A' c' w' h2 h3 h4

theorem cell_low {w w' : World} {B b o : Nat} {v : Value} (h : w.cell? ⟨b, o, none⟩ = some v) (hlt : b < B) (hb : Below B w w') : w'.cell? ⟨b, o, none⟩ = some v := (hb.cell (p := ⟨b, o, none⟩) hlt).trans h
theorem rd_grown {k : IntKind} {w w' : World} {B n c b off r : Nat} {l : List Int} (h : Rd k w B (some ⟨b, off, none⟩) n c l) (hg : w.grownBy w' (some r)) (hne : b ≠ r) : Rd k w' B (some ⟨b, off, none⟩) n c l :=
  ⟨h.1, h.2.1, h.2.2.1, h.2.2.2.1, fun hn => by
    obtain ⟨b', off', e, hb, hc⟩ := h.at_ hn
    injection e with e
    injection e with e1 e2 e3
    subst e1 e2
    exact ⟨b, off, rfl, hb, fun j hj => grown_cell hg (hc j hj) hne⟩⟩

set_option maxRecDepth 100000 in
set_option maxHeartbeats 1600000 in
theorem refPutCtl_any {w : World} {B1 B n1 c1 n c : Nat} {A1 A : Option Addr} {l : List Int} (r : RuleV) (hb : Rd .u8 w B1 A1 n1 c1 l) (hB1 : B1 ≤ w.heap.size) (h : Ro w B A n c r.os) (hB : B ≤ w.heap.size) (ok : okCtl r) (hl : l.length ≤ 10) : Calls Tryz.prog 29 #[.slice A1 n1 c1, .agg #[.int .i64 r.k, .int .i64 r.pr, .int .i64 r.to, .int .i64 r.po, .int .i64 r.x.v, .int .i64 r.x.m, .int .u8 r.x.b0, .int .u8 r.x.b1, .int .u8 r.x.b2, .int .u8 r.x.i0, .int .u8 r.x.i1, .int .u8 r.x.i2, .slice A n c]] w (NewOf (l ++ ruleB r) w) := by
  obtain ⟨o1, ⟨o2, o3⟩, ⟨o4, o5⟩, o6, _, _⟩ := ok
  have hq1 := Kp.mk (put_b1 l r.k (by omega))
  have hq2 := Kp.mk (fun l => put_b2 l r.pr (by omega))
  have hq3 := Kp.mk (fun l => put_two1 l r.to r.po (by omega) (by omega))
  have hp := Kp.mk (show ((l ++ dg 1 r.k) ++ dg 2 r.pr) ++ (dg 1 r.to ++ dg 1 r.po) = l ++ ruleB r by unfold ruleB; rw [if_neg (by omega)]; simp only [List.append_assoc, List.append_nil])
  have k1 : (r.k == 2) = true := by rw [o1]; rfl
  clear o1 o2 o3 o4 o5 o6
  have hln := hb.len
  have hba := below_alloc w (.cells #[.int .i64 r.k, .int .i64 r.pr, .int .i64 r.to, .int .i64 r.po, .int .i64 r.x.v, .int .i64 r.x.m, .int .u8 r.x.b0, .int .u8 r.x.b1, .int .u8 r.x.b2, .int .u8 r.x.i0, .int .u8 r.x.i1, .int .u8 r.x.i2, .slice A n c] 29)
  have hza : w.heap.size < (w.alloc (.cells #[.int .i64 r.k, .int .i64 r.pr, .int .i64 r.to, .int .i64 r.po, .int .i64 r.x.v, .int .i64 r.x.m, .int .u8 r.x.b0, .int .u8 r.x.b1, .int .u8 r.x.b2, .int .u8 r.x.i0, .int .u8 r.x.i1, .int .u8 r.x.i2, .slice A n c] 29)).heap.size := by simp
  have hxa : Vb 29 (w.alloc (.cells #[.int .i64 r.k, .int .i64 r.pr, .int .i64 r.to, .int .i64 r.po, .int .i64 r.x.v, .int .i64 r.x.m, .int .u8 r.x.b0, .int .u8 r.x.b1, .int .u8 r.x.b2, .int .u8 r.x.i0, .int .u8 r.x.i1, .int .u8 r.x.i2, .slice A n c] 29)) w.heap.size (rcl r (.slice A n c)) := Vb.new 29 w (rcl r (.slice A n c))
  have hra := hb.below' hba hB1
  have hn1 : n1 ≤ 20 := by omega
  clear hln
  have HA := Kp.mk h
  go_enter Tryz.func29, Tryz.ntmps29
  go_upto_region 1 with fail
  generalize (w.alloc (.cells #[.int .i64 r.k, .int .i64 r.pr, .int .i64 r.to, .int .i64 r.po, .int .i64 r.x.v, .int .i64 r.x.m, .int .u8 r.x.b0, .int .u8 r.x.b1, .int .u8 r.x.b2, .int .u8 r.x.i0, .int .u8 r.x.i1, .int .u8 r.x.i2, .slice A n c] 29)) = wa at *
  obtain ⟨d0, d1, d2, d3, d4, d5, d6, d7, d8, d9, d10, d11, d12⟩ := hxa.rul
  go_wp2_with fail
  refine (refPut_lit 1 [r.k] hra (by omega) (by simp) (by omega)).mono ?_
  rw [hq1.out]
  rintro e w1 ⟨A2, n2, c2, rfl, ho1, hb1⟩
  have hx1 := hxa.below hb1 (by omega)
  have hz1 := hb1.size
  have hT1 := hba.trans (hb1.mono (by omega))
  have hl1 : n2 ≤ 30 := by have := ho1.len; simp [dg_len] at this; omega
  clear d0 d1 d2 d3 d4 d5 d6 d7 d8 d9 d10 d11 d12 hxa hba hb1 hra
  obtain ⟨d0, d1, d2, d3, d4, d5, d6, d7, d8, d9, d10, d11, d12⟩ := hx1.rul
  go_wp2_with fail
  refine (refPut_lit 2 [r.pr] ho1.rd (Nat.le_refl _) (by simp) (by omega)).mono ?_
  rw [hq2.out]
  rintro e w2 ⟨A3, n3, c3, rfl, ho2, hb2⟩
  have hx2 := hx1.below hb2 (by omega)
  have hz2 := hb2.size
  have hT2 := hT1.trans (hb2.mono (by omega))
  have hl2 : n3 ≤ 40 := by have := ho2.len; simp [dg_len] at this; omega
  clear d0 d1 d2 d3 d4 d5 d6 d7 d8 d9 d10 d11 d12 hx1 hb2 hT1 ho1
  obtain ⟨d0, d1, d2, d3, d4, d5, d6, d7, d8, d9, d10, d11, d12⟩ := hx2.rul
  go_wp2_with fail
  refine (refPut_lit 1 [r.to, r.po] ho2.rd (Nat.le_refl _) (by simp) (by omega)).mono ?_
  rw [hq3.out]
  rintro e w3 ⟨A4, n4, c4, rfl, ho3, hb3⟩
  have hx3 := hx2.below hb3 (by omega)
  have hz3 := hb3.size
  have hT3 := hT2.trans (hb3.mono (by omega))
  have hl3 : n4 ≤ 50 := by have := ho3.len; simp [dg_len] at this; omega
  clear d0 d1 d2 d3 d4 d5 d6 d7 d8 d9 d10 d11 d12 hx2 hb3 hT2 ho2
  obtain ⟨d0, d1, d2, d3, d4, d5, d6, d7, d8, d9, d10, d11, d12⟩ := hx3.rul
  rw [hp.out] at ho3
  go_wp2_with fail
  go_ret
  exact ⟨A4, n4, c4, rfl, ho3.lower (by omega), hT3⟩
set_option maxRecDepth 100000 in
set_option maxHeartbeats 3200000 in
theorem refPutData_any {w : World} {B1 B n1 c1 n c : Nat} {A1 A : Option Addr} {l : List Int} (r : RuleV) (hb : Rd .u8 w B1 A1 n1 c1 l) (hB1 : B1 ≤ w.heap.size) (h : Ro w B A n c r.os) (hB : B ≤ w.heap.size) (ok : okData r) (h8 : u8M r.x) (hl : l.length ≤ 10) : Calls Tryz.prog 29 #[.slice A1 n1 c1, .agg #[.int .i64 r.k, .int .i64 r.pr, .int .i64 r.to, .int .i64 r.po, .int .i64 r.x.v, .int .i64 r.x.m, .int .u8 r.x.b0, .int .u8 r.x.b1, .int .u8 r.x.b2, .int .u8 r.x.i0, .int .u8 r.x.i1, .int .u8 r.x.i2, .slice A n c]] w (NewOf (l ++ ruleB r) w) := by
  obtain ⟨o1, ⟨o2, o3⟩, o4, o5, ⟨⟨m1, m2⟩, ⟨m3, m4⟩, _⟩, o8, oo⟩ := ok
  have hq1 := Kp.mk (put_b1 l r.k (by omega))
  have hq2 := Kp.mk (fun l => put_b2 l r.pr (by omega))
  have hq3 := Kp.mk (fun l => put_two1 l r.to r.po (by omega) (by omega))
  have hq4 := Kp.mk (fun l => put_two1 l r.x.v (r.x.m + 1) (by omega) (by omega))
  have hnl := h.len
  have hn8 : n ≤ 8 := by omega
  have hq5 := Kp.mk (fun l => put_b1 l (n : Nat) (by omega))
  have hOk := Kp.mk oo
  have HL := Kp.mk hnl
  have H8 := Kp.mk h8
  have hp := Kp.mk (show ((((((l ++ dg 1 r.k) ++ dg 2 r.pr) ++ (dg 1 r.to ++ dg 1 r.po)) ++ (dg 1 r.x.v ++ dg 1 (r.x.m + 1))) ++ [r.x.b0, r.x.b1, r.x.b2, r.x.i0, r.x.i1, r.x.i2]) ++ dg 1 (n : Nat)) ++ r.os.flatMap outB = l ++ ruleB r by unfold ruleB dataB maskB; rw [if_pos o1, hnl]; simp only [List.append_assoc, List.cons_append, List.nil_append])
  have k1 : (r.k == 2) = false := by rw [o1]; rfl
  clear o1 o2 o3 o4 o5 o8 oo hnl h8 m1 m2
  have hln := hb.len
  have hba := below_alloc w (.cells #[.int .i64 r.k, .int .i64 r.pr, .int .i64 r.to, .int .i64 r.po, .int .i64 r.x.v, .int .i64 r.x.m, .int .u8 r.x.b0, .int .u8 r.x.b1, .int .u8 r.x.b2, .int .u8 r.x.i0, .int .u8 r.x.i1, .int .u8 r.x.i2, .slice A n c] 29)
  have hza : w.heap.size < (w.alloc (.cells #[.int .i64 r.k, .int .i64 r.pr, .int .i64 r.to, .int .i64 r.po, .int .i64 r.x.v, .int .i64 r.x.m, .int .u8 r.x.b0, .int .u8 r.x.b1, .int .u8 r.x.b2, .int .u8 r.x.i0, .int .u8 r.x.i1, .int .u8 r.x.i2, .slice A n c] 29)).heap.size := by simp
  have hxa : Vb 29 (w.alloc (.cells #[.int .i64 r.k, .int .i64 r.pr, .int .i64 r.to, .int .i64 r.po, .int .i64 r.x.v, .int .i64 r.x.m, .int .u8 r.x.b0, .int .u8 r.x.b1, .int .u8 r.x.b2, .int .u8 r.x.i0, .int .u8 r.x.i1, .int .u8 r.x.i2, .slice A n c] 29)) w.heap.size (rcl r (.slice A n c)) := Vb.new 29 w (rcl r (.slice A n c))
  have hra := hb.below' hba hB1
  have hn1 : n1 ≤ 20 := by omega
  clear hln
  have HA := Kp.mk h
  go_enter Tryz.func29, Tryz.ntmps29
  go_upto_region 1 with fail
  generalize (w.alloc (.cells #[.int .i64 r.k, .int .i64 r.pr, .int .i64 r.to, .int .i64 r.po, .int .i64 r.x.v, .int .i64 r.x.m, .int .u8 r.x.b0, .int .u8 r.x.b1, .int .u8 r.x.b2, .int .u8 r.x.i0, .int .u8 r.x.i1, .int .u8 r.x.i2, .slice A n c] 29)) = wa at *
  obtain ⟨d0, d1, d2, d3, d4, d5, d6, d7, d8, d9, d10, d11, d12⟩ := hxa.rul
  go_wp2_with fail
  refine (refPut_lit 1 [r.k] hra (by omega) (by simp) (by omega)).mono ?_
  rw [hq1.out]
  rintro e w1 ⟨A2, n2, c2, rfl, ho1, hb1⟩
  have hx1 := hxa.below hb1 (by omega)
  have hz1 := hb1.size
  have hT1 := hba.trans (hb1.mono (by omega))
  have hl1 : n2 ≤ 30 := by have := ho1.len; simp [dg_len] at this; omega
  clear d0 d1 d2 d3 d4 d5 d6 d7 d8 d9 d10 d11 d12 hxa hba hb1 hra
  obtain ⟨d0, d1, d2, d3, d4, d5, d6, d7, d8, d9, d10, d11, d12⟩ := hx1.rul
  go_wp2_with fail
  refine (refPut_lit 2 [r.pr] ho1.rd (Nat.le_refl _) (by simp) (by omega)).mono ?_
  rw [hq2.out]
  rintro e w2 ⟨A3, n3, c3, rfl, ho2, hb2⟩
  have hx2 := hx1.below hb2 (by omega)
  have hz2 := hb2.size
  have hT2 := hT1.trans (hb2.mono (by omega))
  have hl2 : n3 ≤ 40 := by have := ho2.len; simp [dg_len] at this; omega
  clear d0 d1 d2 d3 d4 d5 d6 d7 d8 d9 d10 d11 d12 hx1 hb2 hT1 ho1
  obtain ⟨d0, d1, d2, d3, d4, d5, d6, d7, d8, d9, d10, d11, d12⟩ := hx2.rul
  go_wp2_with fail
  refine (refPut_lit 1 [r.to, r.po] ho2.rd (Nat.le_refl _) (by simp) (by omega)).mono ?_
  rw [hq3.out]
  rintro e w3 ⟨A4, n4, c4, rfl, ho3, hb3⟩
  have hx3 := hx2.below hb3 (by omega)
  have hz3 := hb3.size
  have hT3 := hT2.trans (hb3.mono (by omega))
  have hl3 : n4 ≤ 50 := by have := ho3.len; simp [dg_len] at this; omega
  clear d0 d1 d2 d3 d4 d5 d6 d7 d8 d9 d10 d11 d12 hx2 hb3 hT2 ho2
  obtain ⟨d0, d1, d2, d3, d4, d5, d6, d7, d8, d9, d10, d11, d12⟩ := hx3.rul
  go_upto_region 7 with (first | (refine wpList_load_vb (vs := [.int .i64 r.x.v, .int .i64 r.x.m, .int .u8 r.x.b0, .int .u8 r.x.b1, .int .u8 r.x.b2, .int .u8 r.x.i0, .int .u8 r.x.i1, .int .u8 r.x.i2]) rfl (.tmp 38) rfl rfl hx3 rfl agg_mask ?_) | (refine wpList_store_new (vs := [.int .i64 r.x.v, .int .i64 r.x.m, .int .u8 r.x.b0, .int .u8 r.x.b1, .int .u8 r.x.b2, .int .u8 r.x.i0, .int .u8 r.x.i1, .int .u8 r.x.i2]) rfl (.tmp 5) (.tmp 39) rfl rfl rfl rfl rfl rfl agg_mask rfl ?_; intro w4 hm4 hb4 hz4))
  have hx4 := hx3.below hb4 (by omega)
  have ho4 := ho3.keep_below hb4
  have hT4 := hT3.trans (hb4.mono (by omega))
  have hz4' : w3.heap.size < w4.heap.size := by omega
  clear hz4 d0 d1 d2 d3 d4 d5 d6 d7 d8 d9 d10 d11 d12 hx3 hb4 ho3 hT3
  obtain ⟨m0, m1, m2, m3, m4, m5, m6, m7⟩ := hm4.c8
  go_wp2_with fail
  refine (refPut_lit 1 [r.x.v, r.x.m + 1] ho4.rd (Nat.le_refl _) (by simp) (by omega)).mono ?_
  rw [hq4.out]
  rintro e w5 ⟨A5, n5, c5, rfl, ho5, hb5⟩
  have hx5 := hx4.below hb5 (by omega)
  have hm5 := hm4.below hb5 (by omega)
  have hz5 := hb5.size
  have hT5 := hT4.trans (hb5.mono (by omega))
  have hl5 : n5 ≤ 60 := by have := ho5.len; simp [dg_len] at this; omega
  clear m0 m1 m2 m3 m4 m5 m6 m7 hx4 hm4 hb5 hT4 ho4
  obtain ⟨m0, m1, m2, m3, m4, m5, m6, m7⟩ := hm5.c8
  have hr5 := rd_lit .u8 w5 5 [r.x.b0, r.x.b1, r.x.b2, r.x.i0, r.x.i1, r.x.i2] (by simp [maxLen]) (w5.heap.size + 1) (by omega)
  have ho5a := ho5.alloc (.cells #[.int .u8 r.x.b0, .int .u8 r.x.b1, .int .u8 r.x.b2, .int .u8 r.x.i0, .int .u8 r.x.i1, .int .u8 r.x.i2] 5)
  go_upto_region 9 with (at_builtin; refine wpList_append8 rfl (.tmp 51) (.tmp 70) rfl rfl (ho5a.lower (b := w4.heap.size) (Nat.le_refl _)) rfl hr5 (by simp; omega) (by simp; omega) ?_; intro A6 c6 w6 ho6 hb6)
  have hbl := below_alloc w5 (.cells #[.int .u8 r.x.b0, .int .u8 r.x.b1, .int .u8 r.x.b2, .int .u8 r.x.i0, .int .u8 r.x.i1, .int .u8 r.x.i2] 5)
  have hx6 := (hx5.below hbl (by omega)).below hb6 (by omega)
  have hz6 : w5.heap.size < w6.heap.size := by have := hb6.size; simp at this; omega
  have hT6 := hT5.trans ((hbl.mono (by omega)).trans (hb6.mono (by omega)))
  clear m0 m1 m2 m3 m4 m5 m6 m7 hx5 hm5 hb6 hbl hT5 ho5 ho5a hr5
  obtain ⟨d0, d1, d2, d3, d4, d5, d6, d7, d8, d9, d10, d11, d12⟩ := hx6.rul
  have hl6 : n5 + 6 ≤ 70 := by omega
  go_wp2_with fail
  refine (refPut_lit 1 [(n : Int)] ho6.rd (Nat.le_refl _) (by simp) (by omega)).mono ?_
  rw [hq5.out]
  rintro e w7 ⟨A8, n8, c8, rfl, ho7, hb7⟩
  have hx7 := hx6.below hb7 (by omega)
  have hz7 := hb7.size
  have hT7 := hT6.trans (hb7.mono (by omega))
  have hl7 : n8 ≤ 80 := by have := ho7.len; simp [dg_len] at this; have := ho6.len; simp [dg_len] at this; omega
  clear d0 d1 d2 d3 d4 d5 d6 d7 d8 d9 d10 d11 d12 hx6 hb7 hT6 ho6
  replace ho7 := ho7.lower (b := w.heap.size) (by omega)
  generalize ((((((l ++ dg 1 r.k) ++ dg 2 r.pr) ++ (dg 1 r.to ++ dg 1 r.po)) ++ (dg 1 r.x.v ++ dg 1 (r.x.m + 1))) ++ [r.x.b0, r.x.b1, r.x.b2, r.x.i0, r.x.i1, r.x.i2]) ++ dg 1 (n : Nat)) = l7 at *
  change Own w7 w.heap.size (.slice A8 n8 c8) n8 l7 at ho7
  have hl7' : l7.length ≤ 80 := by have := ho7.len; omega
  clear hq1 hq2 hq3 hq4 hq5
  go_wp2_with fail
  go_loopw [0, 6] (fun b i wr => ∃ (k : Nat) (Ak : Option Addr) (nk ck : Nat), k ≤ n ∧ i = .int .i64 k ∧ b = .slice Ak nk ck ∧ Own wr w.heap.size (.slice Ak nk ck) nk (l7 ++ (r.os.take k).flatMap outB) ∧ Below (w.heap.size + 1) w7 wr) (fun _ i _ => n - (intOf i).toNat)
  case atStart => exact ⟨0, A8, n8, c8, by omega, rfl, rfl, by simpa using ho7, Below.refl _ _⟩
  case round =>
    obtain ⟨k, Ak, nk, ck, hk, rfl, rfl, ho, hT⟩ := hrel
    have hz := hT.size
    have hTw := hT7.trans (hT.mono (by omega))
    have hx := hx7.below hT (by omega)
    have g12 := hx.cell 12 rfl
    by_cases hlt : k < n
    rotate_left
    · obtain rfl : k = n := by omega
      have ht : r.os.take k = r.os := List.take_of_length_le (by have := HL.out; omega)
      rw [ht, hp.out] at ho
      go_wp2_with fail
      go_ret
      exact ⟨Ak, nk, ck, rfl, ho, hTw⟩
    obtain ⟨b, off, rfl, hbB, hc⟩ := (HA.out.below' hTw hB).at_ (by omega)
    obtain ⟨x, hok⟩ : ∃ x, r.os[k]? = some x := ⟨_, List.getElem?_eq_getElem (by have := HL.out; omega)⟩
    obtain ⟨d0, d1, d2, d3⟩ := hc k x hok
    have hxo := hOk.out x (List.mem_of_getElem? hok)
    obtain ⟨⟨x1, x2⟩, ⟨x3, x4⟩, ⟨x5, x6⟩, ⟨x7, x8⟩⟩ := hxo
    have hnk : nk ≤ 200 := by have := ho.len; rw [List.length_append, outsB_len, List.length_take] at this; omega
    have HS := Kp.mk (flat_snoc r.os k x hok)
    have j1 : (k : Int) < n := by omega
    have s1 := Kp.mk (fun l => put_b1 l x.p (by omega))
    have s2 := Kp.mk (fun l => put_three2 l (x.a + 1) (x.b + 1) (x.c + 1) (by omega) (by omega) (by omega))
    clear hc hok hOk HL
    go_upto_region 14 with fail
    have hm := Vb.new 32 wr [.int .i64 x.p, .int .i64 x.a, .int .i64 x.b, .int .i64 x.c]
    have hU1 := below_alloc wr (.cells #[.int .i64 x.p, .int .i64 x.a, .int .i64 x.b, .int .i64 x.c] 32)
    have hu1 : wr.heap.size < (wr.alloc (.cells #[.int .i64 x.p, .int .i64 x.a, .int .i64 x.b, .int .i64 x.c] 32)).heap.size := by simp
    generalize wr.alloc (.cells #[.int .i64 x.p, .int .i64 x.a, .int .i64 x.b, .int .i64 x.c] 32) = v1 at *
    clear d0 d1 d2 d3
    obtain ⟨d0, d1, d2, d3⟩ := hm.c4
    have ho1 := ho.below hU1 (Nat.le_refl _)
    go_wp2_with fail
    refine (refPut_lit 1 [x.p] ho1.rd (Nat.le_refl _) (by simp) (by omega)).mono ?_
    rw [s1.out]
    rintro e v3 ⟨Aa, na, ca, rfl, hoa, hv3⟩
    have hm3 := hm.below hv3 (by omega)
    have hu3 := hv3.size
    have hna : na ≤ 210 := by have := hoa.len; have := ho.len; simp only [List.length_append, dg_len] at *; omega
    have hU3 := hU1.trans (hv3.mono (by omega))
    clear d0 d1 d2 d3
    obtain ⟨d0, d1, d2, d3⟩ := hm3.c4
    go_wp2_with fail
    refine (refPut_lit 2 [x.a + 1, x.b + 1, x.c + 1] hoa.rd (Nat.le_refl _) (by simp) (by omega)).mono ?_
    rw [s2.out]
    rintro e v4 ⟨Ab, nb, cb, rfl, hob, hv4⟩
    have hu4 := hv4.size
    have hU4 := hU3.trans (hv4.mono (by omega))
    go_wp2_with fail
    go_roundw
    case rel => exact ⟨k + 1, Ab, nb, cb, by omega, by go_num, rfl, by rw [HS.out]; unfold outB; simp only [List.append_assoc] at hob ⊢; exact hob.lower (by omega), hT.trans (hU4.mono (by omega))⟩
    case measure => simp [intOf]; omega
theorem refPutRule_any {w : World} {B1 B n1 c1 n c : Nat} {A1 A : Option Addr} {l : List Int} (r : RuleV) (hb : Rd .u8 w B1 A1 n1 c1 l) (hB1 : B1 ≤ w.heap.size) (h : Ro w B A n c r.os) (hB : B ≤ w.heap.size) (ok : okR r) (h8 : u8M r.x) (hl : l.length ≤ 10) : Calls Tryz.prog 29 #[.slice A1 n1 c1, .agg #[.int .i64 r.k, .int .i64 r.pr, .int .i64 r.to, .int .i64 r.po, .int .i64 r.x.v, .int .i64 r.x.m, .int .u8 r.x.b0, .int .u8 r.x.b1, .int .u8 r.x.b2, .int .u8 r.x.i0, .int .u8 r.x.i1, .int .u8 r.x.i2, .slice A n c]] w (NewOf (l ++ ruleB r) w) := by
  rcases ok with ok | ok
  · exact refPutData_any r hb hB1 h hB ok h8 hl
  · exact refPutCtl_any r hb hB1 h hB ok hl
theorem dg1_eq (v : Int) : dg 1 v = [v % 256] := by simp [dg]
set_option maxRecDepth 100000 in
set_option maxHeartbeats 1600000 in
theorem refBytes_no {w : World} {B n c : Nat} {A : Option Addr} (o : OrdV) (h : Ro w B A n c o.r.os) (hB : B ≤ w.heap.size) (h8 : u8M o.r.x) (ok : ¬ okOrd o) : Calls Tryz.prog 10 #[.agg #[.int .i64 o.k, .int .i64 o.n, .int .i64 o.m, .int .i64 o.r.k, .int .i64 o.r.pr, .int .i64 o.r.to, .int .i64 o.r.po, .int .i64 o.r.x.v, .int .i64 o.r.x.m, .int .u8 o.r.x.b0, .int .u8 o.r.x.b1, .int .u8 o.r.x.b2, .int .u8 o.r.x.i0, .int .u8 o.r.x.i1, .int .u8 o.r.x.i2, .slice A n c, .int .i64 o.f, .int .i64 o.p, .int .i64 o.t, .int .i64 o.q, .int .i64 o.z]] w (PairOf (bytesO o).1 (bytesO o).2 w) := by
  have hc := Kp.mk (show checkO o = 2 from if_neg ok)
  have hp := Kp.mk (show bytesO o = ([], 2) from if_neg ok)
  clear ok
  have hba := below_alloc w (.cells #[.int .i64 o.k, .int .i64 o.n, .int .i64 o.m, .int .i64 o.r.k, .int .i64 o.r.pr, .int .i64 o.r.to, .int .i64 o.r.po, .int .i64 o.r.x.v, .int .i64 o.r.x.m, .int .u8 o.r.x.b0, .int .u8 o.r.x.b1, .int .u8 o.r.x.b2, .int .u8 o.r.x.i0, .int .u8 o.r.x.i1, .int .u8 o.r.x.i2, .slice A n c, .int .i64 o.f, .int .i64 o.p, .int .i64 o.t, .int .i64 o.q, .int .i64 o.z] 37)
  have hza : w.heap.size < (w.alloc (.cells #[.int .i64 o.k, .int .i64 o.n, .int .i64 o.m, .int .i64 o.r.k, .int .i64 o.r.pr, .int .i64 o.r.to, .int .i64 o.r.po, .int .i64 o.r.x.v, .int .i64 o.r.x.m, .int .u8 o.r.x.b0, .int .u8 o.r.x.b1, .int .u8 o.r.x.b2, .int .u8 o.r.x.i0, .int .u8 o.r.x.i1, .int .u8 o.r.x.i2, .slice A n c, .int .i64 o.f, .int .i64 o.p, .int .i64 o.t, .int .i64 o.q, .int .i64 o.z] 37)).heap.size := by simp
  have hxa : Vb 37 (w.alloc (.cells #[.int .i64 o.k, .int .i64 o.n, .int .i64 o.m, .int .i64 o.r.k, .int .i64 o.r.pr, .int .i64 o.r.to, .int .i64 o.r.po, .int .i64 o.r.x.v, .int .i64 o.r.x.m, .int .u8 o.r.x.b0, .int .u8 o.r.x.b1, .int .u8 o.r.x.b2, .int .u8 o.r.x.i0, .int .u8 o.r.x.i1, .int .u8 o.r.x.i2, .slice A n c, .int .i64 o.f, .int .i64 o.p, .int .i64 o.t, .int .i64 o.q, .int .i64 o.z] 37)) w.heap.size (ocl o (.slice A n c)) := Vb.new 37 w (ocl o (.slice A n c))
  have ha := h.below' hba hB
  go_enter Tryz.func10, Tryz.ntmps10
  go_upto_region 1 with fail
  generalize (w.alloc (.cells #[.int .i64 o.k, .int .i64 o.n, .int .i64 o.m, .int .i64 o.r.k, .int .i64 o.r.pr, .int .i64 o.r.to, .int .i64 o.r.po, .int .i64 o.r.x.v, .int .i64 o.r.x.m, .int .u8 o.r.x.b0, .int .u8 o.r.x.b1, .int .u8 o.r.x.b2, .int .u8 o.r.x.i0, .int .u8 o.r.x.i1, .int .u8 o.r.x.i2, .slice A n c, .int .i64 o.f, .int .i64 o.p, .int .i64 o.t, .int .i64 o.q, .int .i64 o.z] 37)) = wa at *
  go_wp2_with (refine wpList_load_vb (vs := ocl o (.slice A n c)) rfl (.tmp 1) rfl rfl hxa rfl agg_order ?_)
  refine (refOrderCheck_any o ha (by omega)).mono ?_
  rw [hc.out]
  rintro e w1 ⟨rfl, hb1⟩
  have hz1 := hb1.size
  have hT1 := hba.trans (hb1.mono (by omega))
  go_wp2_with fail
  rw [hp.out]
  go_ret2
  exact PairOf.nil 2 w hT1
set_option maxRecDepth 100000 in
set_option maxHeartbeats 1600000 in
theorem refBytes_1 {w : World} {B n c : Nat} {A : Option Addr} (o : OrdV) (h : Ro w B A n c o.r.os) (hB : B ≤ w.heap.size) (h8 : u8M o.r.x) (hk : o.k = 1) (ok : okOrd o) : Calls Tryz.prog 10 #[.agg #[.int .i64 o.k, .int .i64 o.n, .int .i64 o.m, .int .i64 o.r.k, .int .i64 o.r.pr, .int .i64 o.r.to, .int .i64 o.r.po, .int .i64 o.r.x.v, .int .i64 o.r.x.m, .int .u8 o.r.x.b0, .int .u8 o.r.x.b1, .int .u8 o.r.x.b2, .int .u8 o.r.x.i0, .int .u8 o.r.x.i1, .int .u8 o.r.x.i2, .slice A n c, .int .i64 o.f, .int .i64 o.p, .int .i64 o.t, .int .i64 o.q, .int .i64 o.z]] w (PairOf (bytesO o).1 (bytesO o).2 w) := by
  have hc := Kp.mk (show checkO o = 0 from if_pos ok)
  have HOK := Kp.mk ok
  have hon := ok.1
  unfold okNM at hon
  simp only [within] at hon
  have hp := Kp.mk (show bytesO o = ([1] ++ restB o, 0) by rw [show bytesO o = (ordB o, 0) from if_pos ok]; unfold ordB; rw [dg1_eq, hk]; rfl)
  have HR := Kp.mk (restB_1 hk)
  obtain ⟨b1, b2⟩ : (0 : Int) ≤ 0 ∧ (0 : Int) ≤ 0 := by omega
  have HB1 := Kp.mk b1
  have HB2 := Kp.mk b2
  clear ok hon b1 b2
  have HK := Kp.mk hk
  clear hk
  have hba := below_alloc w (.cells #[.int .i64 o.k, .int .i64 o.n, .int .i64 o.m, .int .i64 o.r.k, .int .i64 o.r.pr, .int .i64 o.r.to, .int .i64 o.r.po, .int .i64 o.r.x.v, .int .i64 o.r.x.m, .int .u8 o.r.x.b0, .int .u8 o.r.x.b1, .int .u8 o.r.x.b2, .int .u8 o.r.x.i0, .int .u8 o.r.x.i1, .int .u8 o.r.x.i2, .slice A n c, .int .i64 o.f, .int .i64 o.p, .int .i64 o.t, .int .i64 o.q, .int .i64 o.z] 37)
  have hza : w.heap.size < (w.alloc (.cells #[.int .i64 o.k, .int .i64 o.n, .int .i64 o.m, .int .i64 o.r.k, .int .i64 o.r.pr, .int .i64 o.r.to, .int .i64 o.r.po, .int .i64 o.r.x.v, .int .i64 o.r.x.m, .int .u8 o.r.x.b0, .int .u8 o.r.x.b1, .int .u8 o.r.x.b2, .int .u8 o.r.x.i0, .int .u8 o.r.x.i1, .int .u8 o.r.x.i2, .slice A n c, .int .i64 o.f, .int .i64 o.p, .int .i64 o.t, .int .i64 o.q, .int .i64 o.z] 37)).heap.size := by simp
  have hxa : Vb 37 (w.alloc (.cells #[.int .i64 o.k, .int .i64 o.n, .int .i64 o.m, .int .i64 o.r.k, .int .i64 o.r.pr, .int .i64 o.r.to, .int .i64 o.r.po, .int .i64 o.r.x.v, .int .i64 o.r.x.m, .int .u8 o.r.x.b0, .int .u8 o.r.x.b1, .int .u8 o.r.x.b2, .int .u8 o.r.x.i0, .int .u8 o.r.x.i1, .int .u8 o.r.x.i2, .slice A n c, .int .i64 o.f, .int .i64 o.p, .int .i64 o.t, .int .i64 o.q, .int .i64 o.z] 37)) w.heap.size (ocl o (.slice A n c)) := Vb.new 37 w (ocl o (.slice A n c))
  have ha := h.below' hba hB
  go_enter Tryz.func10, Tryz.ntmps10
  go_upto_region 1 with fail
  generalize (w.alloc (.cells #[.int .i64 o.k, .int .i64 o.n, .int .i64 o.m, .int .i64 o.r.k, .int .i64 o.r.pr, .int .i64 o.r.to, .int .i64 o.r.po, .int .i64 o.r.x.v, .int .i64 o.r.x.m, .int .u8 o.r.x.b0, .int .u8 o.r.x.b1, .int .u8 o.r.x.b2, .int .u8 o.r.x.i0, .int .u8 o.r.x.i1, .int .u8 o.r.x.i2, .slice A n c, .int .i64 o.f, .int .i64 o.p, .int .i64 o.t, .int .i64 o.q, .int .i64 o.z] 37)) = wa at *
  go_wp2_with (refine wpList_load_vb (vs := ocl o (.slice A n c)) rfl (.tmp 1) rfl rfl hxa rfl agg_order ?_)
  refine (refOrderCheck_any o ha (by omega)).mono ?_
  rw [hc.out]
  rintro e w1 ⟨rfl, hb1⟩
  have hz1 := hb1.size
  have hT1 := hba.trans (hb1.mono (by omega))
  have hx1 := hxa.below hb1 (by omega)
  have h1 := ha.below' hb1 (by omega)
  clear hxa hba hb1 ha
  obtain ⟨d0, d1, d2, d3, d4, d5, d6, d7, d8, d9, d10, d11, d12, d13, d14, d15, d16, d17, d18, d19, d20⟩ := hx1.ord
  rw [HK.out] at d0
  go_upto_region 5 with fail
  have hb2 := below_alloc w1 (.cells #[.int .u8 1] 5)
  have ho2 := own_lit w1 [1] w1.heap.size (Nat.le_refl _) (by simp [maxLen])
  have hz2 : w1.heap.size < (w1.alloc (.cells #[.int .u8 1] 5)).heap.size := by simp
  change Own (w1.alloc (.cells #[.int .u8 1] 5)) _ _ _ _ at ho2
  generalize (w1.alloc (.cells #[.int .u8 1] 5)) = w2 at *
  simp only [List.length_cons, List.length_nil, Nat.zero_add] at ho2
  have hx2 := hx1.below hb2 (by omega)
  have h2 := h1.below' hb2 (by omega)
  have hT2 := hT1.trans (hb2.mono (by omega))
  clear d0 d1 d2 d3 d4 d5 d6 d7 d8 d9 d10 d11 d12 d13 d14 d15 d16 d17 d18 d19 d20 hx1 h1 hb2 hT1
  obtain ⟨d0, d1, d2, d3, d4, d5, d6, d7, d8, d9, d10, d11, d12, d13, d14, d15, d16, d17, d18, d19, d20⟩ := hx2.ord
  rw [HK.out] at d0
  go_wp2_with fail
  rw [hp.out, HR.out]
  go_ret2
  exact ⟨_, _, _, rfl, ho2.lower (by omega), hT2⟩
set_option maxRecDepth 100000 in
set_option maxHeartbeats 1600000 in
theorem refBytes_2 {w : World} {B n c : Nat} {A : Option Addr} (o : OrdV) (h : Ro w B A n c o.r.os) (hB : B ≤ w.heap.size) (h8 : u8M o.r.x) (hk : o.k = 2) (ok : okOrd o) : Calls Tryz.prog 10 #[.agg #[.int .i64 o.k, .int .i64 o.n, .int .i64 o.m, .int .i64 o.r.k, .int .i64 o.r.pr, .int .i64 o.r.to, .int .i64 o.r.po, .int .i64 o.r.x.v, .int .i64 o.r.x.m, .int .u8 o.r.x.b0, .int .u8 o.r.x.b1, .int .u8 o.r.x.b2, .int .u8 o.r.x.i0, .int .u8 o.r.x.i1, .int .u8 o.r.x.i2, .slice A n c, .int .i64 o.f, .int .i64 o.p, .int .i64 o.t, .int .i64 o.q, .int .i64 o.z]] w (PairOf (bytesO o).1 (bytesO o).2 w) := by
  have hc := Kp.mk (show checkO o = 0 from if_pos ok)
  have HOK := Kp.mk ok
  have hon := ok.1
  unfold okNM at hon
  simp only [within] at hon
  have hp := Kp.mk (show bytesO o = ([2] ++ restB o, 0) by rw [show bytesO o = (ordB o, 0) from if_pos ok]; unfold ordB; rw [dg1_eq, hk]; rfl)
  have HR := Kp.mk (restB_r (o := o) (by omega))
  have HU := Kp.mk (show okR o.r by have := ok.2.1; unfold okRu at this; rw [if_pos (by omega)] at this; exact this)
  obtain ⟨b1, b2⟩ : (0 : Int) ≤ 0 ∧ (0 : Int) ≤ 0 := by omega
  have HB1 := Kp.mk b1
  have HB2 := Kp.mk b2
  clear ok hon b1 b2
  have HK := Kp.mk hk
  clear hk
  have hba := below_alloc w (.cells #[.int .i64 o.k, .int .i64 o.n, .int .i64 o.m, .int .i64 o.r.k, .int .i64 o.r.pr, .int .i64 o.r.to, .int .i64 o.r.po, .int .i64 o.r.x.v, .int .i64 o.r.x.m, .int .u8 o.r.x.b0, .int .u8 o.r.x.b1, .int .u8 o.r.x.b2, .int .u8 o.r.x.i0, .int .u8 o.r.x.i1, .int .u8 o.r.x.i2, .slice A n c, .int .i64 o.f, .int .i64 o.p, .int .i64 o.t, .int .i64 o.q, .int .i64 o.z] 37)
  have hza : w.heap.size < (w.alloc (.cells #[.int .i64 o.k, .int .i64 o.n, .int .i64 o.m, .int .i64 o.r.k, .int .i64 o.r.pr, .int .i64 o.r.to, .int .i64 o.r.po, .int .i64 o.r.x.v, .int .i64 o.r.x.m, .int .u8 o.r.x.b0, .int .u8 o.r.x.b1, .int .u8 o.r.x.b2, .int .u8 o.r.x.i0, .int .u8 o.r.x.i1, .int .u8 o.r.x.i2, .slice A n c, .int .i64 o.f, .int .i64 o.p, .int .i64 o.t, .int .i64 o.q, .int .i64 o.z] 37)).heap.size := by simp
  have hxa : Vb 37 (w.alloc (.cells #[.int .i64 o.k, .int .i64 o.n, .int .i64 o.m, .int .i64 o.r.k, .int .i64 o.r.pr, .int .i64 o.r.to, .int .i64 o.r.po, .int .i64 o.r.x.v, .int .i64 o.r.x.m, .int .u8 o.r.x.b0, .int .u8 o.r.x.b1, .int .u8 o.r.x.b2, .int .u8 o.r.x.i0, .int .u8 o.r.x.i1, .int .u8 o.r.x.i2, .slice A n c, .int .i64 o.f, .int .i64 o.p, .int .i64 o.t, .int .i64 o.q, .int .i64 o.z] 37)) w.heap.size (ocl o (.slice A n c)) := Vb.new 37 w (ocl o (.slice A n c))
  have ha := h.below' hba hB
  go_enter Tryz.func10, Tryz.ntmps10
  go_upto_region 1 with fail
  generalize (w.alloc (.cells #[.int .i64 o.k, .int .i64 o.n, .int .i64 o.m, .int .i64 o.r.k, .int .i64 o.r.pr, .int .i64 o.r.to, .int .i64 o.r.po, .int .i64 o.r.x.v, .int .i64 o.r.x.m, .int .u8 o.r.x.b0, .int .u8 o.r.x.b1, .int .u8 o.r.x.b2, .int .u8 o.r.x.i0, .int .u8 o.r.x.i1, .int .u8 o.r.x.i2, .slice A n c, .int .i64 o.f, .int .i64 o.p, .int .i64 o.t, .int .i64 o.q, .int .i64 o.z] 37)) = wa at *
  go_wp2_with (refine wpList_load_vb (vs := ocl o (.slice A n c)) rfl (.tmp 1) rfl rfl hxa rfl agg_order ?_)
  refine (refOrderCheck_any o ha (by omega)).mono ?_
  rw [hc.out]
  rintro e w1 ⟨rfl, hb1⟩
  have hz1 := hb1.size
  have hT1 := hba.trans (hb1.mono (by omega))
  have hx1 := hxa.below hb1 (by omega)
  have h1 := ha.below' hb1 (by omega)
  clear hxa hba hb1 ha
  obtain ⟨d0, d1, d2, d3, d4, d5, d6, d7, d8, d9, d10, d11, d12, d13, d14, d15, d16, d17, d18, d19, d20⟩ := hx1.ord
  rw [HK.out] at d0
  go_upto_region 5 with fail
  have hb2 := below_alloc w1 (.cells #[.int .u8 2] 5)
  have ho2 := own_lit w1 [2] w1.heap.size (Nat.le_refl _) (by simp [maxLen])
  have hz2 : w1.heap.size < (w1.alloc (.cells #[.int .u8 2] 5)).heap.size := by simp
  change Own (w1.alloc (.cells #[.int .u8 2] 5)) _ _ _ _ at ho2
  generalize (w1.alloc (.cells #[.int .u8 2] 5)) = w2 at *
  simp only [List.length_cons, List.length_nil, Nat.zero_add] at ho2
  have hx2 := hx1.below hb2 (by omega)
  have h2 := h1.below' hb2 (by omega)
  have hT2 := hT1.trans (hb2.mono (by omega))
  clear d0 d1 d2 d3 d4 d5 d6 d7 d8 d9 d10 d11 d12 d13 d14 d15 d16 d17 d18 d19 d20 hx1 h1 hb2 hT1
  obtain ⟨d0, d1, d2, d3, d4, d5, d6, d7, d8, d9, d10, d11, d12, d13, d14, d15, d16, d17, d18, d19, d20⟩ := hx2.ord
  rw [HK.out] at d0
  clear d0 d1 d2 d3 d4 d5 d6 d7 d8 d9 d10 d11 d12 d13 d14 d15 d16 d17 d18 d19 d20
  have d0 := hx2.ord.1
  rw [HK.out] at d0
  go_wp2_with (refine wpList_load_vb (vs := rcl o.r (.slice A n c)) rfl (.tmp 23) rfl rfl hx2 rfl agg_rule ?_)
  refine (refPutRule_any o.r ho2.rd (Nat.le_refl _) h2 (by omega) HU.out h8 (by simp)).mono ?_
  rintro e w3 ⟨A3, n3, c3, rfl, ho3, hb3⟩
  go_wp2_with fail
  rw [hp.out, HR.out]
  go_ret2
  exact ⟨A3, n3, c3, rfl, ho3.lower (by omega), hT2.trans (hb3.mono (by omega))⟩
set_option maxRecDepth 100000 in
set_option maxHeartbeats 1600000 in
theorem refBytes_3 {w : World} {B n c : Nat} {A : Option Addr} (o : OrdV) (h : Ro w B A n c o.r.os) (hB : B ≤ w.heap.size) (h8 : u8M o.r.x) (hk : o.k = 3) (ok : okOrd o) : Calls Tryz.prog 10 #[.agg #[.int .i64 o.k, .int .i64 o.n, .int .i64 o.m, .int .i64 o.r.k, .int .i64 o.r.pr, .int .i64 o.r.to, .int .i64 o.r.po, .int .i64 o.r.x.v, .int .i64 o.r.x.m, .int .u8 o.r.x.b0, .int .u8 o.r.x.b1, .int .u8 o.r.x.b2, .int .u8 o.r.x.i0, .int .u8 o.r.x.i1, .int .u8 o.r.x.i2, .slice A n c, .int .i64 o.f, .int .i64 o.p, .int .i64 o.t, .int .i64 o.q, .int .i64 o.z]] w (PairOf (bytesO o).1 (bytesO o).2 w) := by
  have hc := Kp.mk (show checkO o = 0 from if_pos ok)
  have HOK := Kp.mk ok
  have hon := ok.1
  unfold okNM at hon
  simp only [within] at hon
  have hp := Kp.mk (show bytesO o = ([3] ++ restB o, 0) by rw [show bytesO o = (ordB o, 0) from if_pos ok]; unfold ordB; rw [dg1_eq, hk]; rfl)
  have HR := Kp.mk (restB_r (o := o) (by omega))
  have HU := Kp.mk (show okR o.r by have := ok.2.1; unfold okRu at this; rw [if_pos (by omega)] at this; exact this)
  obtain ⟨b1, b2⟩ : (0 : Int) ≤ 0 ∧ (0 : Int) ≤ 0 := by omega
  have HB1 := Kp.mk b1
  have HB2 := Kp.mk b2
  clear ok hon b1 b2
  have HK := Kp.mk hk
  clear hk
  have hba := below_alloc w (.cells #[.int .i64 o.k, .int .i64 o.n, .int .i64 o.m, .int .i64 o.r.k, .int .i64 o.r.pr, .int .i64 o.r.to, .int .i64 o.r.po, .int .i64 o.r.x.v, .int .i64 o.r.x.m, .int .u8 o.r.x.b0, .int .u8 o.r.x.b1, .int .u8 o.r.x.b2, .int .u8 o.r.x.i0, .int .u8 o.r.x.i1, .int .u8 o.r.x.i2, .slice A n c, .int .i64 o.f, .int .i64 o.p, .int .i64 o.t, .int .i64 o.q, .int .i64 o.z] 37)
  have hza : w.heap.size < (w.alloc (.cells #[.int .i64 o.k, .int .i64 o.n, .int .i64 o.m, .int .i64 o.r.k, .int .i64 o.r.pr, .int .i64 o.r.to, .int .i64 o.r.po, .int .i64 o.r.x.v, .int .i64 o.r.x.m, .int .u8 o.r.x.b0, .int .u8 o.r.x.b1, .int .u8 o.r.x.b2, .int .u8 o.r.x.i0, .int .u8 o.r.x.i1, .int .u8 o.r.x.i2, .slice A n c, .int .i64 o.f, .int .i64 o.p, .int .i64 o.t, .int .i64 o.q, .int .i64 o.z] 37)).heap.size := by simp
  have hxa : Vb 37 (w.alloc (.cells #[.int .i64 o.k, .int .i64 o.n, .int .i64 o.m, .int .i64 o.r.k, .int .i64 o.r.pr, .int .i64 o.r.to, .int .i64 o.r.po, .int .i64 o.r.x.v, .int .i64 o.r.x.m, .int .u8 o.r.x.b0, .int .u8 o.r.x.b1, .int .u8 o.r.x.b2, .int .u8 o.r.x.i0, .int .u8 o.r.x.i1, .int .u8 o.r.x.i2, .slice A n c, .int .i64 o.f, .int .i64 o.p, .int .i64 o.t, .int .i64 o.q, .int .i64 o.z] 37)) w.heap.size (ocl o (.slice A n c)) := Vb.new 37 w (ocl o (.slice A n c))
  have ha := h.below' hba hB
  go_enter Tryz.func10, Tryz.ntmps10
  go_upto_region 1 with fail
  generalize (w.alloc (.cells #[.int .i64 o.k, .int .i64 o.n, .int .i64 o.m, .int .i64 o.r.k, .int .i64 o.r.pr, .int .i64 o.r.to, .int .i64 o.r.po, .int .i64 o.r.x.v, .int .i64 o.r.x.m, .int .u8 o.r.x.b0, .int .u8 o.r.x.b1, .int .u8 o.r.x.b2, .int .u8 o.r.x.i0, .int .u8 o.r.x.i1, .int .u8 o.r.x.i2, .slice A n c, .int .i64 o.f, .int .i64 o.p, .int .i64 o.t, .int .i64 o.q, .int .i64 o.z] 37)) = wa at *
  go_wp2_with (refine wpList_load_vb (vs := ocl o (.slice A n c)) rfl (.tmp 1) rfl rfl hxa rfl agg_order ?_)
  refine (refOrderCheck_any o ha (by omega)).mono ?_
  rw [hc.out]
  rintro e w1 ⟨rfl, hb1⟩
  have hz1 := hb1.size
  have hT1 := hba.trans (hb1.mono (by omega))
  have hx1 := hxa.below hb1 (by omega)
  have h1 := ha.below' hb1 (by omega)
  clear hxa hba hb1 ha
  obtain ⟨d0, d1, d2, d3, d4, d5, d6, d7, d8, d9, d10, d11, d12, d13, d14, d15, d16, d17, d18, d19, d20⟩ := hx1.ord
  rw [HK.out] at d0
  go_upto_region 5 with fail
  have hb2 := below_alloc w1 (.cells #[.int .u8 3] 5)
  have ho2 := own_lit w1 [3] w1.heap.size (Nat.le_refl _) (by simp [maxLen])
  have hz2 : w1.heap.size < (w1.alloc (.cells #[.int .u8 3] 5)).heap.size := by simp
  change Own (w1.alloc (.cells #[.int .u8 3] 5)) _ _ _ _ at ho2
  generalize (w1.alloc (.cells #[.int .u8 3] 5)) = w2 at *
  simp only [List.length_cons, List.length_nil, Nat.zero_add] at ho2
  have hx2 := hx1.below hb2 (by omega)
  have h2 := h1.below' hb2 (by omega)
  have hT2 := hT1.trans (hb2.mono (by omega))
  clear d0 d1 d2 d3 d4 d5 d6 d7 d8 d9 d10 d11 d12 d13 d14 d15 d16 d17 d18 d19 d20 hx1 h1 hb2 hT1
  obtain ⟨d0, d1, d2, d3, d4, d5, d6, d7, d8, d9, d10, d11, d12, d13, d14, d15, d16, d17, d18, d19, d20⟩ := hx2.ord
  rw [HK.out] at d0
  clear d0 d1 d2 d3 d4 d5 d6 d7 d8 d9 d10 d11 d12 d13 d14 d15 d16 d17 d18 d19 d20
  have d0 := hx2.ord.1
  rw [HK.out] at d0
  go_wp2_with (refine wpList_load_vb (vs := rcl o.r (.slice A n c)) rfl (.tmp 23) rfl rfl hx2 rfl agg_rule ?_)
  refine (refPutRule_any o.r ho2.rd (Nat.le_refl _) h2 (by omega) HU.out h8 (by simp)).mono ?_
  rintro e w3 ⟨A3, n3, c3, rfl, ho3, hb3⟩
  go_wp2_with fail
  rw [hp.out, HR.out]
  go_ret2
  exact ⟨A3, n3, c3, rfl, ho3.lower (by omega), hT2.trans (hb3.mono (by omega))⟩
set_option maxRecDepth 100000 in
set_option maxHeartbeats 1600000 in
theorem refBytes_4 {w : World} {B n c : Nat} {A : Option Addr} (o : OrdV) (h : Ro w B A n c o.r.os) (hB : B ≤ w.heap.size) (h8 : u8M o.r.x) (hk : o.k = 4) (ok : okOrd o) : Calls Tryz.prog 10 #[.agg #[.int .i64 o.k, .int .i64 o.n, .int .i64 o.m, .int .i64 o.r.k, .int .i64 o.r.pr, .int .i64 o.r.to, .int .i64 o.r.po, .int .i64 o.r.x.v, .int .i64 o.r.x.m, .int .u8 o.r.x.b0, .int .u8 o.r.x.b1, .int .u8 o.r.x.b2, .int .u8 o.r.x.i0, .int .u8 o.r.x.i1, .int .u8 o.r.x.i2, .slice A n c, .int .i64 o.f, .int .i64 o.p, .int .i64 o.t, .int .i64 o.q, .int .i64 o.z]] w (PairOf (bytesO o).1 (bytesO o).2 w) := by
  have hc := Kp.mk (show checkO o = 0 from if_pos ok)
  have HOK := Kp.mk ok
  have hon := ok.1
  unfold okNM at hon
  simp only [within] at hon
  have hp := Kp.mk (show bytesO o = ([4] ++ restB o, 0) by rw [show bytesO o = (ordB o, 0) from if_pos ok]; unfold ordB; rw [dg1_eq, hk]; rfl)
  have HR := Kp.mk (restB_4 hk)
  obtain ⟨b1, b2⟩ : (0 ≤ o.n ∧ o.n < 256) ∧ (0 : Int) ≤ 0 := by omega
  have HB1 := Kp.mk b1
  have HB2 := Kp.mk b2
  clear ok hon b1 b2
  have HK := Kp.mk hk
  clear hk
  have hba := below_alloc w (.cells #[.int .i64 o.k, .int .i64 o.n, .int .i64 o.m, .int .i64 o.r.k, .int .i64 o.r.pr, .int .i64 o.r.to, .int .i64 o.r.po, .int .i64 o.r.x.v, .int .i64 o.r.x.m, .int .u8 o.r.x.b0, .int .u8 o.r.x.b1, .int .u8 o.r.x.b2, .int .u8 o.r.x.i0, .int .u8 o.r.x.i1, .int .u8 o.r.x.i2, .slice A n c, .int .i64 o.f, .int .i64 o.p, .int .i64 o.t, .int .i64 o.q, .int .i64 o.z] 37)
  have hza : w.heap.size < (w.alloc (.cells #[.int .i64 o.k, .int .i64 o.n, .int .i64 o.m, .int .i64 o.r.k, .int .i64 o.r.pr, .int .i64 o.r.to, .int .i64 o.r.po, .int .i64 o.r.x.v, .int .i64 o.r.x.m, .int .u8 o.r.x.b0, .int .u8 o.r.x.b1, .int .u8 o.r.x.b2, .int .u8 o.r.x.i0, .int .u8 o.r.x.i1, .int .u8 o.r.x.i2, .slice A n c, .int .i64 o.f, .int .i64 o.p, .int .i64 o.t, .int .i64 o.q, .int .i64 o.z] 37)).heap.size := by simp
  have hxa : Vb 37 (w.alloc (.cells #[.int .i64 o.k, .int .i64 o.n, .int .i64 o.m, .int .i64 o.r.k, .int .i64 o.r.pr, .int .i64 o.r.to, .int .i64 o.r.po, .int .i64 o.r.x.v, .int .i64 o.r.x.m, .int .u8 o.r.x.b0, .int .u8 o.r.x.b1, .int .u8 o.r.x.b2, .int .u8 o.r.x.i0, .int .u8 o.r.x.i1, .int .u8 o.r.x.i2, .slice A n c, .int .i64 o.f, .int .i64 o.p, .int .i64 o.t, .int .i64 o.q, .int .i64 o.z] 37)) w.heap.size (ocl o (.slice A n c)) := Vb.new 37 w (ocl o (.slice A n c))
  have ha := h.below' hba hB
  go_enter Tryz.func10, Tryz.ntmps10
  go_upto_region 1 with fail
  generalize (w.alloc (.cells #[.int .i64 o.k, .int .i64 o.n, .int .i64 o.m, .int .i64 o.r.k, .int .i64 o.r.pr, .int .i64 o.r.to, .int .i64 o.r.po, .int .i64 o.r.x.v, .int .i64 o.r.x.m, .int .u8 o.r.x.b0, .int .u8 o.r.x.b1, .int .u8 o.r.x.b2, .int .u8 o.r.x.i0, .int .u8 o.r.x.i1, .int .u8 o.r.x.i2, .slice A n c, .int .i64 o.f, .int .i64 o.p, .int .i64 o.t, .int .i64 o.q, .int .i64 o.z] 37)) = wa at *
  go_wp2_with (refine wpList_load_vb (vs := ocl o (.slice A n c)) rfl (.tmp 1) rfl rfl hxa rfl agg_order ?_)
  refine (refOrderCheck_any o ha (by omega)).mono ?_
  rw [hc.out]
  rintro e w1 ⟨rfl, hb1⟩
  have hz1 := hb1.size
  have hT1 := hba.trans (hb1.mono (by omega))
  have hx1 := hxa.below hb1 (by omega)
  have h1 := ha.below' hb1 (by omega)
  clear hxa hba hb1 ha
  obtain ⟨d0, d1, d2, d3, d4, d5, d6, d7, d8, d9, d10, d11, d12, d13, d14, d15, d16, d17, d18, d19, d20⟩ := hx1.ord
  rw [HK.out] at d0
  go_upto_region 5 with fail
  have hb2 := below_alloc w1 (.cells #[.int .u8 4] 5)
  have ho2 := own_lit w1 [4] w1.heap.size (Nat.le_refl _) (by simp [maxLen])
  have hz2 : w1.heap.size < (w1.alloc (.cells #[.int .u8 4] 5)).heap.size := by simp
  change Own (w1.alloc (.cells #[.int .u8 4] 5)) _ _ _ _ at ho2
  generalize (w1.alloc (.cells #[.int .u8 4] 5)) = w2 at *
  simp only [List.length_cons, List.length_nil, Nat.zero_add] at ho2
  have hx2 := hx1.below hb2 (by omega)
  have h2 := h1.below' hb2 (by omega)
  have hT2 := hT1.trans (hb2.mono (by omega))
  clear d0 d1 d2 d3 d4 d5 d6 d7 d8 d9 d10 d11 d12 d13 d14 d15 d16 d17 d18 d19 d20 hx1 h1 hb2 hT1
  obtain ⟨d0, d1, d2, d3, d4, d5, d6, d7, d8, d9, d10, d11, d12, d13, d14, d15, d16, d17, d18, d19, d20⟩ := hx2.ord
  rw [HK.out] at d0
  have hr2 := rd_lit .u8 w2 5 [o.n % 256] (by simp [maxLen]) (w2.heap.size + 1) (by omega)
  have ho2a := ho2.alloc (.cells #[.int .u8 (o.n % 256)] 5)
  have hbl := below_alloc w2 (.cells #[.int .u8 (o.n % 256)] 5)
  go_upto_region 23 with (at_builtin; refine wpList_append8 rfl (.tmp 28) (.tmp 32) rfl rfl ho2a rfl hr2 (by first | omega | (simp; done) | (simp; omega)) (by simp; omega) ?_; intro A3 c3 w3 ho3 hb3)
  have hT3 := hT2.trans ((hbl.mono (by omega)).trans (hb3.mono (by omega)))
  clear d0 d1 d2 d3 d4 d5 d6 d7 d8 d9 d10 d11 d12 d13 d14 d15 d16 d17 d18 d19 d20
  go_wp2_with fail
  rw [hp.out, HR.out, dg1_eq]
  go_ret2
  exact ⟨A3, _, c3, rfl, ho3.lower (by omega), hT3⟩
set_option maxRecDepth 100000 in
set_option maxHeartbeats 1600000 in
theorem refBytes_9 {w : World} {B n c : Nat} {A : Option Addr} (o : OrdV) (h : Ro w B A n c o.r.os) (hB : B ≤ w.heap.size) (h8 : u8M o.r.x) (hk : o.k = 9) (ok : okOrd o) : Calls Tryz.prog 10 #[.agg #[.int .i64 o.k, .int .i64 o.n, .int .i64 o.m, .int .i64 o.r.k, .int .i64 o.r.pr, .int .i64 o.r.to, .int .i64 o.r.po, .int .i64 o.r.x.v, .int .i64 o.r.x.m, .int .u8 o.r.x.b0, .int .u8 o.r.x.b1, .int .u8 o.r.x.b2, .int .u8 o.r.x.i0, .int .u8 o.r.x.i1, .int .u8 o.r.x.i2, .slice A n c, .int .i64 o.f, .int .i64 o.p, .int .i64 o.t, .int .i64 o.q, .int .i64 o.z]] w (PairOf (bytesO o).1 (bytesO o).2 w) := by
  have hc := Kp.mk (show checkO o = 0 from if_pos ok)
  have HOK := Kp.mk ok
  have hon := ok.1
  unfold okNM at hon
  simp only [within] at hon
  have hp := Kp.mk (show bytesO o = ([9] ++ restB o, 0) by rw [show bytesO o = (ordB o, 0) from if_pos ok]; unfold ordB; rw [dg1_eq, hk]; rfl)
  have HR := Kp.mk (restB_9 hk)
  obtain ⟨b1, b2⟩ : (0 ≤ o.n ∧ o.n < 256) ∧ (0 ≤ o.m ∧ o.m < 256) := by omega
  have HB1 := Kp.mk b1
  have HB2 := Kp.mk b2
  clear ok hon b1 b2
  have HK := Kp.mk hk
  clear hk
  have hba := below_alloc w (.cells #[.int .i64 o.k, .int .i64 o.n, .int .i64 o.m, .int .i64 o.r.k, .int .i64 o.r.pr, .int .i64 o.r.to, .int .i64 o.r.po, .int .i64 o.r.x.v, .int .i64 o.r.x.m, .int .u8 o.r.x.b0, .int .u8 o.r.x.b1, .int .u8 o.r.x.b2, .int .u8 o.r.x.i0, .int .u8 o.r.x.i1, .int .u8 o.r.x.i2, .slice A n c, .int .i64 o.f, .int .i64 o.p, .int .i64 o.t, .int .i64 o.q, .int .i64 o.z] 37)
  have hza : w.heap.size < (w.alloc (.cells #[.int .i64 o.k, .int .i64 o.n, .int .i64 o.m, .int .i64 o.r.k, .int .i64 o.r.pr, .int .i64 o.r.to, .int .i64 o.r.po, .int .i64 o.r.x.v, .int .i64 o.r.x.m, .int .u8 o.r.x.b0, .int .u8 o.r.x.b1, .int .u8 o.r.x.b2, .int .u8 o.r.x.i0, .int .u8 o.r.x.i1, .int .u8 o.r.x.i2, .slice A n c, .int .i64 o.f, .int .i64 o.p, .int .i64 o.t, .int .i64 o.q, .int .i64 o.z] 37)).heap.size := by simp
  have hxa : Vb 37 (w.alloc (.cells #[.int .i64 o.k, .int .i64 o.n, .int .i64 o.m, .int .i64 o.r.k, .int .i64 o.r.pr, .int .i64 o.r.to, .int .i64 o.r.po, .int .i64 o.r.x.v, .int .i64 o.r.x.m, .int .u8 o.r.x.b0, .int .u8 o.r.x.b1, .int .u8 o.r.x.b2, .int .u8 o.r.x.i0, .int .u8 o.r.x.i1, .int .u8 o.r.x.i2, .slice A n c, .int .i64 o.f, .int .i64 o.p, .int .i64 o.t, .int .i64 o.q, .int .i64 o.z] 37)) w.heap.size (ocl o (.slice A n c)) := Vb.new 37 w (ocl o (.slice A n c))
  have ha := h.below' hba hB
  go_enter Tryz.func10, Tryz.ntmps10
  go_upto_region 1 with fail
  generalize (w.alloc (.cells #[.int .i64 o.k, .int .i64 o.n, .int .i64 o.m, .int .i64 o.r.k, .int .i64 o.r.pr, .int .i64 o.r.to, .int .i64 o.r.po, .int .i64 o.r.x.v, .int .i64 o.r.x.m, .int .u8 o.r.x.b0, .int .u8 o.r.x.b1, .int .u8 o.r.x.b2, .int .u8 o.r.x.i0, .int .u8 o.r.x.i1, .int .u8 o.r.x.i2, .slice A n c, .int .i64 o.f, .int .i64 o.p, .int .i64 o.t, .int .i64 o.q, .int .i64 o.z] 37)) = wa at *
  go_wp2_with (refine wpList_load_vb (vs := ocl o (.slice A n c)) rfl (.tmp 1) rfl rfl hxa rfl agg_order ?_)
  refine (refOrderCheck_any o ha (by omega)).mono ?_
  rw [hc.out]
  rintro e w1 ⟨rfl, hb1⟩
  have hz1 := hb1.size
  have hT1 := hba.trans (hb1.mono (by omega))
  have hx1 := hxa.below hb1 (by omega)
  have h1 := ha.below' hb1 (by omega)
  clear hxa hba hb1 ha
  obtain ⟨d0, d1, d2, d3, d4, d5, d6, d7, d8, d9, d10, d11, d12, d13, d14, d15, d16, d17, d18, d19, d20⟩ := hx1.ord
  rw [HK.out] at d0
  go_upto_region 5 with fail
  have hb2 := below_alloc w1 (.cells #[.int .u8 9] 5)
  have ho2 := own_lit w1 [9] w1.heap.size (Nat.le_refl _) (by simp [maxLen])
  have hz2 : w1.heap.size < (w1.alloc (.cells #[.int .u8 9] 5)).heap.size := by simp
  change Own (w1.alloc (.cells #[.int .u8 9] 5)) _ _ _ _ at ho2
  generalize (w1.alloc (.cells #[.int .u8 9] 5)) = w2 at *
  simp only [List.length_cons, List.length_nil, Nat.zero_add] at ho2
  have hx2 := hx1.below hb2 (by omega)
  have h2 := h1.below' hb2 (by omega)
  have hT2 := hT1.trans (hb2.mono (by omega))
  clear d0 d1 d2 d3 d4 d5 d6 d7 d8 d9 d10 d11 d12 d13 d14 d15 d16 d17 d18 d19 d20 hx1 h1 hb2 hT1
  obtain ⟨d0, d1, d2, d3, d4, d5, d6, d7, d8, d9, d10, d11, d12, d13, d14, d15, d16, d17, d18, d19, d20⟩ := hx2.ord
  rw [HK.out] at d0
  have hr2 := rd_lit .u8 w2 5 [o.n % 256, o.m % 256] (by simp [maxLen]) (w2.heap.size + 1) (by omega)
  have ho2a := ho2.alloc (.cells #[.int .u8 (o.n % 256), .int .u8 (o.m % 256)] 5)
  have hbl := below_alloc w2 (.cells #[.int .u8 (o.n % 256), .int .u8 (o.m % 256)] 5)
  go_upto_region 23 with (at_builtin; refine wpList_append8 rfl (.tmp 36) (.tmp 43) rfl rfl ho2a rfl hr2 (by first | omega | (simp; done) | (simp; omega)) (by simp; omega) ?_; intro A3 c3 w3 ho3 hb3)
  have hT3 := hT2.trans ((hbl.mono (by omega)).trans (hb3.mono (by omega)))
  clear d0 d1 d2 d3 d4 d5 d6 d7 d8 d9 d10 d11 d12 d13 d14 d15 d16 d17 d18 d19 d20
  go_wp2_with fail
  rw [hp.out, HR.out, dg1_eq, dg1_eq]
  go_ret2
  exact ⟨A3, _, c3, rfl, ho3.lower (by omega), hT3⟩
set_option maxRecDepth 100000 in
set_option maxHeartbeats 1600000 in
theorem refBytes_6 {w : World} {B n c : Nat} {A : Option Addr} (o : OrdV) (h : Ro w B A n c o.r.os) (hB : B ≤ w.heap.size) (h8 : u8M o.r.x) (hk : o.k = 6) (ok : okOrd o) : Calls Tryz.prog 10 #[.agg #[.int .i64 o.k, .int .i64 o.n, .int .i64 o.m, .int .i64 o.r.k, .int .i64 o.r.pr, .int .i64 o.r.to, .int .i64 o.r.po, .int .i64 o.r.x.v, .int .i64 o.r.x.m, .int .u8 o.r.x.b0, .int .u8 o.r.x.b1, .int .u8 o.r.x.b2, .int .u8 o.r.x.i0, .int .u8 o.r.x.i1, .int .u8 o.r.x.i2, .slice A n c, .int .i64 o.f, .int .i64 o.p, .int .i64 o.t, .int .i64 o.q, .int .i64 o.z]] w (PairOf (bytesO o).1 (bytesO o).2 w) := by
  have hc := Kp.mk (show checkO o = 0 from if_pos ok)
  have HOK := Kp.mk ok
  have hon := ok.1
  unfold okNM at hon
  simp only [within] at hon
  have hp := Kp.mk (show bytesO o = ([6] ++ restB o, 0) by rw [show bytesO o = (ordB o, 0) from if_pos ok]; unfold ordB; rw [dg1_eq, hk]; rfl)
  have HR := Kp.mk (restB_6 hk)
  obtain ⟨b1, b2⟩ : (0 ≤ o.n ∧ o.n < 4294967296) ∧ (0 : Int) ≤ 0 := by omega
  have HB1 := Kp.mk b1
  have HB2 := Kp.mk b2
  clear ok hon b1 b2
  have HK := Kp.mk hk
  clear hk
  have hba := below_alloc w (.cells #[.int .i64 o.k, .int .i64 o.n, .int .i64 o.m, .int .i64 o.r.k, .int .i64 o.r.pr, .int .i64 o.r.to, .int .i64 o.r.po, .int .i64 o.r.x.v, .int .i64 o.r.x.m, .int .u8 o.r.x.b0, .int .u8 o.r.x.b1, .int .u8 o.r.x.b2, .int .u8 o.r.x.i0, .int .u8 o.r.x.i1, .int .u8 o.r.x.i2, .slice A n c, .int .i64 o.f, .int .i64 o.p, .int .i64 o.t, .int .i64 o.q, .int .i64 o.z] 37)
  have hza : w.heap.size < (w.alloc (.cells #[.int .i64 o.k, .int .i64 o.n, .int .i64 o.m, .int .i64 o.r.k, .int .i64 o.r.pr, .int .i64 o.r.to, .int .i64 o.r.po, .int .i64 o.r.x.v, .int .i64 o.r.x.m, .int .u8 o.r.x.b0, .int .u8 o.r.x.b1, .int .u8 o.r.x.b2, .int .u8 o.r.x.i0, .int .u8 o.r.x.i1, .int .u8 o.r.x.i2, .slice A n c, .int .i64 o.f, .int .i64 o.p, .int .i64 o.t, .int .i64 o.q, .int .i64 o.z] 37)).heap.size := by simp
  have hxa : Vb 37 (w.alloc (.cells #[.int .i64 o.k, .int .i64 o.n, .int .i64 o.m, .int .i64 o.r.k, .int .i64 o.r.pr, .int .i64 o.r.to, .int .i64 o.r.po, .int .i64 o.r.x.v, .int .i64 o.r.x.m, .int .u8 o.r.x.b0, .int .u8 o.r.x.b1, .int .u8 o.r.x.b2, .int .u8 o.r.x.i0, .int .u8 o.r.x.i1, .int .u8 o.r.x.i2, .slice A n c, .int .i64 o.f, .int .i64 o.p, .int .i64 o.t, .int .i64 o.q, .int .i64 o.z] 37)) w.heap.size (ocl o (.slice A n c)) := Vb.new 37 w (ocl o (.slice A n c))
  have ha := h.below' hba hB
  go_enter Tryz.func10, Tryz.ntmps10
  go_upto_region 1 with fail
  generalize (w.alloc (.cells #[.int .i64 o.k, .int .i64 o.n, .int .i64 o.m, .int .i64 o.r.k, .int .i64 o.r.pr, .int .i64 o.r.to, .int .i64 o.r.po, .int .i64 o.r.x.v, .int .i64 o.r.x.m, .int .u8 o.r.x.b0, .int .u8 o.r.x.b1, .int .u8 o.r.x.b2, .int .u8 o.r.x.i0, .int .u8 o.r.x.i1, .int .u8 o.r.x.i2, .slice A n c, .int .i64 o.f, .int .i64 o.p, .int .i64 o.t, .int .i64 o.q, .int .i64 o.z] 37)) = wa at *
  go_wp2_with (refine wpList_load_vb (vs := ocl o (.slice A n c)) rfl (.tmp 1) rfl rfl hxa rfl agg_order ?_)
  refine (refOrderCheck_any o ha (by omega)).mono ?_
  rw [hc.out]
  rintro e w1 ⟨rfl, hb1⟩
  have hz1 := hb1.size
  have hT1 := hba.trans (hb1.mono (by omega))
  have hx1 := hxa.below hb1 (by omega)
  have h1 := ha.below' hb1 (by omega)
  clear hxa hba hb1 ha
  obtain ⟨d0, d1, d2, d3, d4, d5, d6, d7, d8, d9, d10, d11, d12, d13, d14, d15, d16, d17, d18, d19, d20⟩ := hx1.ord
  rw [HK.out] at d0
  go_upto_region 5 with fail
  have hb2 := below_alloc w1 (.cells #[.int .u8 6] 5)
  have ho2 := own_lit w1 [6] w1.heap.size (Nat.le_refl _) (by simp [maxLen])
  have hz2 : w1.heap.size < (w1.alloc (.cells #[.int .u8 6] 5)).heap.size := by simp
  change Own (w1.alloc (.cells #[.int .u8 6] 5)) _ _ _ _ at ho2
  generalize (w1.alloc (.cells #[.int .u8 6] 5)) = w2 at *
  simp only [List.length_cons, List.length_nil, Nat.zero_add] at ho2
  have hx2 := hx1.below hb2 (by omega)
  have h2 := h1.below' hb2 (by omega)
  have hT2 := hT1.trans (hb2.mono (by omega))
  clear d0 d1 d2 d3 d4 d5 d6 d7 d8 d9 d10 d11 d12 d13 d14 d15 d16 d17 d18 d19 d20 hx1 h1 hb2 hT1
  obtain ⟨d0, d1, d2, d3, d4, d5, d6, d7, d8, d9, d10, d11, d12, d13, d14, d15, d16, d17, d18, d19, d20⟩ := hx2.ord
  rw [HK.out] at d0
  have hq := Kp.mk (put_b4 [6] o.n HB1.out)
  go_wp2_with fail
  refine (refPut_lit 4 [o.n] ho2.rd (Nat.le_refl _) (by simp) (by simp)).mono ?_
  rw [hq.out]
  rintro e w3 ⟨A3, n3, c3, rfl, ho3, hb3⟩
  clear d0 d1 d2 d3 d4 d5 d6 d7 d8 d9 d10 d11 d12 d13 d14 d15 d16 d17 d18 d19 d20
  go_wp2_with fail
  rw [hp.out, HR.out]
  go_ret2
  exact ⟨A3, n3, c3, rfl, ho3.lower (by omega), hT2.trans (hb3.mono (by omega))⟩
set_option maxRecDepth 100000 in
set_option maxHeartbeats 1600000 in
theorem refBytes_7 {w : World} {B n c : Nat} {A : Option Addr} (o : OrdV) (h : Ro w B A n c o.r.os) (hB : B ≤ w.heap.size) (h8 : u8M o.r.x) (hk : o.k = 7) (ok : okOrd o) : Calls Tryz.prog 10 #[.agg #[.int .i64 o.k, .int .i64 o.n, .int .i64 o.m, .int .i64 o.r.k, .int .i64 o.r.pr, .int .i64 o.r.to, .int .i64 o.r.po, .int .i64 o.r.x.v, .int .i64 o.r.x.m, .int .u8 o.r.x.b0, .int .u8 o.r.x.b1, .int .u8 o.r.x.b2, .int .u8 o.r.x.i0, .int .u8 o.r.x.i1, .int .u8 o.r.x.i2, .slice A n c, .int .i64 o.f, .int .i64 o.p, .int .i64 o.t, .int .i64 o.q, .int .i64 o.z]] w (PairOf (bytesO o).1 (bytesO o).2 w) := by
  have hc := Kp.mk (show checkO o = 0 from if_pos ok)
  have HOK := Kp.mk ok
  have hon := ok.1
  unfold okNM at hon
  simp only [within] at hon
  have hp := Kp.mk (show bytesO o = ([7] ++ restB o, 0) by rw [show bytesO o = (ordB o, 0) from if_pos ok]; unfold ordB; rw [dg1_eq, hk]; rfl)
  have HR := Kp.mk (restB_7 hk)
  obtain ⟨b1, b2⟩ : (0 ≤ o.n ∧ o.n < 4294967296) ∧ (0 ≤ o.m ∧ o.m < 65536) := by omega
  have HB1 := Kp.mk b1
  have HB2 := Kp.mk b2
  clear ok hon b1 b2
  have HK := Kp.mk hk
  clear hk
  have hba := below_alloc w (.cells #[.int .i64 o.k, .int .i64 o.n, .int .i64 o.m, .int .i64 o.r.k, .int .i64 o.r.pr, .int .i64 o.r.to, .int .i64 o.r.po, .int .i64 o.r.x.v, .int .i64 o.r.x.m, .int .u8 o.r.x.b0, .int .u8 o.r.x.b1, .int .u8 o.r.x.b2, .int .u8 o.r.x.i0, .int .u8 o.r.x.i1, .int .u8 o.r.x.i2, .slice A n c, .int .i64 o.f, .int .i64 o.p, .int .i64 o.t, .int .i64 o.q, .int .i64 o.z] 37)
  have hza : w.heap.size < (w.alloc (.cells #[.int .i64 o.k, .int .i64 o.n, .int .i64 o.m, .int .i64 o.r.k, .int .i64 o.r.pr, .int .i64 o.r.to, .int .i64 o.r.po, .int .i64 o.r.x.v, .int .i64 o.r.x.m, .int .u8 o.r.x.b0, .int .u8 o.r.x.b1, .int .u8 o.r.x.b2, .int .u8 o.r.x.i0, .int .u8 o.r.x.i1, .int .u8 o.r.x.i2, .slice A n c, .int .i64 o.f, .int .i64 o.p, .int .i64 o.t, .int .i64 o.q, .int .i64 o.z] 37)).heap.size := by simp
  have hxa : Vb 37 (w.alloc (.cells #[.int .i64 o.k, .int .i64 o.n, .int .i64 o.m, .int .i64 o.r.k, .int .i64 o.r.pr, .int .i64 o.r.to, .int .i64 o.r.po, .int .i64 o.r.x.v, .int .i64 o.r.x.m, .int .u8 o.r.x.b0, .int .u8 o.r.x.b1, .int .u8 o.r.x.b2, .int .u8 o.r.x.i0, .int .u8 o.r.x.i1, .int .u8 o.r.x.i2, .slice A n c, .int .i64 o.f, .int .i64 o.p, .int .i64 o.t, .int .i64 o.q, .int .i64 o.z] 37)) w.heap.size (ocl o (.slice A n c)) := Vb.new 37 w (ocl o (.slice A n c))
  have ha := h.below' hba hB
  go_enter Tryz.func10, Tryz.ntmps10
  go_upto_region 1 with fail
  generalize (w.alloc (.cells #[.int .i64 o.k, .int .i64 o.n, .int .i64 o.m, .int .i64 o.r.k, .int .i64 o.r.pr, .int .i64 o.r.to, .int .i64 o.r.po, .int .i64 o.r.x.v, .int .i64 o.r.x.m, .int .u8 o.r.x.b0, .int .u8 o.r.x.b1, .int .u8 o.r.x.b2, .int .u8 o.r.x.i0, .int .u8 o.r.x.i1, .int .u8 o.r.x.i2, .slice A n c, .int .i64 o.f, .int .i64 o.p, .int .i64 o.t, .int .i64 o.q, .int .i64 o.z] 37)) = wa at *
  go_wp2_with (refine wpList_load_vb (vs := ocl o (.slice A n c)) rfl (.tmp 1) rfl rfl hxa rfl agg_order ?_)
  refine (refOrderCheck_any o ha (by omega)).mono ?_
  rw [hc.out]
  rintro e w1 ⟨rfl, hb1⟩
  have hz1 := hb1.size
  have hT1 := hba.trans (hb1.mono (by omega))
  have hx1 := hxa.below hb1 (by omega)
  have h1 := ha.below' hb1 (by omega)
  clear hxa hba hb1 ha
  obtain ⟨d0, d1, d2, d3, d4, d5, d6, d7, d8, d9, d10, d11, d12, d13, d14, d15, d16, d17, d18, d19, d20⟩ := hx1.ord
  rw [HK.out] at d0
  go_upto_region 5 with fail
  have hb2 := below_alloc w1 (.cells #[.int .u8 7] 5)
  have ho2 := own_lit w1 [7] w1.heap.size (Nat.le_refl _) (by simp [maxLen])
  have hz2 : w1.heap.size < (w1.alloc (.cells #[.int .u8 7] 5)).heap.size := by simp
  change Own (w1.alloc (.cells #[.int .u8 7] 5)) _ _ _ _ at ho2
  generalize (w1.alloc (.cells #[.int .u8 7] 5)) = w2 at *
  simp only [List.length_cons, List.length_nil, Nat.zero_add] at ho2
  have hx2 := hx1.below hb2 (by omega)
  have h2 := h1.below' hb2 (by omega)
  have hT2 := hT1.trans (hb2.mono (by omega))
  clear d0 d1 d2 d3 d4 d5 d6 d7 d8 d9 d10 d11 d12 d13 d14 d15 d16 d17 d18 d19 d20 hx1 h1 hb2 hT1
  obtain ⟨d0, d1, d2, d3, d4, d5, d6, d7, d8, d9, d10, d11, d12, d13, d14, d15, d16, d17, d18, d19, d20⟩ := hx2.ord
  rw [HK.out] at d0
  have hq := Kp.mk (put_b4 [7] o.n HB1.out)
  have hqq := Kp.mk (fun l => put_b2 l o.m HB2.out)
  go_wp2_with fail
  refine (refPut_lit 4 [o.n] ho2.rd (Nat.le_refl _) (by simp) (by simp)).mono ?_
  rw [hq.out]
  rintro e w3 ⟨A3, n3, c3, rfl, ho3, hb3⟩
  have hx3 := hx2.below hb3 (by omega)
  have hz3 := hb3.size
  have hn3 : n3 ≤ 20 := by have := ho3.len; simp [dg_len] at this; omega
  clear d0 d1 d2 d3 d4 d5 d6 d7 d8 d9 d10 d11 d12 d13 d14 d15 d16 d17 d18 d19 d20
  obtain ⟨d0, d1, d2, d3, d4, d5, d6, d7, d8, d9, d10, d11, d12, d13, d14, d15, d16, d17, d18, d19, d20⟩ := hx3.ord
  rw [HK.out] at d0
  go_wp2_with fail
  refine (refPut_lit 2 [o.m] ho3.rd (Nat.le_refl _) (by simp) (by omega)).mono ?_
  rw [hqq.out]
  rintro e w4 ⟨A4, n4, c4, rfl, ho4, hb4⟩
  clear d0 d1 d2 d3 d4 d5 d6 d7 d8 d9 d10 d11 d12 d13 d14 d15 d16 d17 d18 d19 d20
  go_wp2_with fail
  rw [hp.out, HR.out, ← List.append_assoc]
  go_ret2
  exact ⟨A4, n4, c4, rfl, ho4.lower (by omega), hT2.trans ((hb3.mono (by omega)).trans (hb4.mono (by omega)))⟩
set_option maxRecDepth 100000 in
set_option maxHeartbeats 1600000 in
theorem refBytes_8 {w : World} {B n c : Nat} {A : Option Addr} (o : OrdV) (h : Ro w B A n c o.r.os) (hB : B ≤ w.heap.size) (h8 : u8M o.r.x) (hk : o.k = 8) (ok : okOrd o) : Calls Tryz.prog 10 #[.agg #[.int .i64 o.k, .int .i64 o.n, .int .i64 o.m, .int .i64 o.r.k, .int .i64 o.r.pr, .int .i64 o.r.to, .int .i64 o.r.po, .int .i64 o.r.x.v, .int .i64 o.r.x.m, .int .u8 o.r.x.b0, .int .u8 o.r.x.b1, .int .u8 o.r.x.b2, .int .u8 o.r.x.i0, .int .u8 o.r.x.i1, .int .u8 o.r.x.i2, .slice A n c, .int .i64 o.f, .int .i64 o.p, .int .i64 o.t, .int .i64 o.q, .int .i64 o.z]] w (PairOf (bytesO o).1 (bytesO o).2 w) := by
  have hc := Kp.mk (show checkO o = 0 from if_pos ok)
  have HOK := Kp.mk ok
  have hon := ok.1
  unfold okNM at hon
  simp only [within] at hon
  have hp := Kp.mk (show bytesO o = ([8] ++ restB o, 0) by rw [show bytesO o = (ordB o, 0) from if_pos ok]; unfold ordB; rw [dg1_eq, hk]; rfl)
  have HR := Kp.mk (restB_8 hk)
  have HP := Kp.mk (show okQ o.f o.p o.t o.q o.z by have := ok.2.2; unfold okPr at this; rw [if_pos hk] at this; exact this.1)
  obtain ⟨b1, b2⟩ : (0 : Int) ≤ 0 ∧ (0 : Int) ≤ 0 := by omega
  have HB1 := Kp.mk b1
  have HB2 := Kp.mk b2
  clear ok hon b1 b2
  have HK := Kp.mk hk
  clear hk
  have hba := below_alloc w (.cells #[.int .i64 o.k, .int .i64 o.n, .int .i64 o.m, .int .i64 o.r.k, .int .i64 o.r.pr, .int .i64 o.r.to, .int .i64 o.r.po, .int .i64 o.r.x.v, .int .i64 o.r.x.m, .int .u8 o.r.x.b0, .int .u8 o.r.x.b1, .int .u8 o.r.x.b2, .int .u8 o.r.x.i0, .int .u8 o.r.x.i1, .int .u8 o.r.x.i2, .slice A n c, .int .i64 o.f, .int .i64 o.p, .int .i64 o.t, .int .i64 o.q, .int .i64 o.z] 37)
  have hza : w.heap.size < (w.alloc (.cells #[.int .i64 o.k, .int .i64 o.n, .int .i64 o.m, .int .i64 o.r.k, .int .i64 o.r.pr, .int .i64 o.r.to, .int .i64 o.r.po, .int .i64 o.r.x.v, .int .i64 o.r.x.m, .int .u8 o.r.x.b0, .int .u8 o.r.x.b1, .int .u8 o.r.x.b2, .int .u8 o.r.x.i0, .int .u8 o.r.x.i1, .int .u8 o.r.x.i2, .slice A n c, .int .i64 o.f, .int .i64 o.p, .int .i64 o.t, .int .i64 o.q, .int .i64 o.z] 37)).heap.size := by simp
  have hxa : Vb 37 (w.alloc (.cells #[.int .i64 o.k, .int .i64 o.n, .int .i64 o.m, .int .i64 o.r.k, .int .i64 o.r.pr, .int .i64 o.r.to, .int .i64 o.r.po, .int .i64 o.r.x.v, .int .i64 o.r.x.m, .int .u8 o.r.x.b0, .int .u8 o.r.x.b1, .int .u8 o.r.x.b2, .int .u8 o.r.x.i0, .int .u8 o.r.x.i1, .int .u8 o.r.x.i2, .slice A n c, .int .i64 o.f, .int .i64 o.p, .int .i64 o.t, .int .i64 o.q, .int .i64 o.z] 37)) w.heap.size (ocl o (.slice A n c)) := Vb.new 37 w (ocl o (.slice A n c))
  have ha := h.below' hba hB
  go_enter Tryz.func10, Tryz.ntmps10
  go_upto_region 1 with fail
  generalize (w.alloc (.cells #[.int .i64 o.k, .int .i64 o.n, .int .i64 o.m, .int .i64 o.r.k, .int .i64 o.r.pr, .int .i64 o.r.to, .int .i64 o.r.po, .int .i64 o.r.x.v, .int .i64 o.r.x.m, .int .u8 o.r.x.b0, .int .u8 o.r.x.b1, .int .u8 o.r.x.b2, .int .u8 o.r.x.i0, .int .u8 o.r.x.i1, .int .u8 o.r.x.i2, .slice A n c, .int .i64 o.f, .int .i64 o.p, .int .i64 o.t, .int .i64 o.q, .int .i64 o.z] 37)) = wa at *
  go_wp2_with (refine wpList_load_vb (vs := ocl o (.slice A n c)) rfl (.tmp 1) rfl rfl hxa rfl agg_order ?_)
  refine (refOrderCheck_any o ha (by omega)).mono ?_
  rw [hc.out]
  rintro e w1 ⟨rfl, hb1⟩
  have hz1 := hb1.size
  have hT1 := hba.trans (hb1.mono (by omega))
  have hx1 := hxa.below hb1 (by omega)
  have h1 := ha.below' hb1 (by omega)
  clear hxa hba hb1 ha
  obtain ⟨d0, d1, d2, d3, d4, d5, d6, d7, d8, d9, d10, d11, d12, d13, d14, d15, d16, d17, d18, d19, d20⟩ := hx1.ord
  rw [HK.out] at d0
  go_upto_region 5 with fail
  have hb2 := below_alloc w1 (.cells #[.int .u8 8] 5)
  have ho2 := own_lit w1 [8] w1.heap.size (Nat.le_refl _) (by simp [maxLen])
  have hz2 : w1.heap.size < (w1.alloc (.cells #[.int .u8 8] 5)).heap.size := by simp
  change Own (w1.alloc (.cells #[.int .u8 8] 5)) _ _ _ _ at ho2
  generalize (w1.alloc (.cells #[.int .u8 8] 5)) = w2 at *
  simp only [List.length_cons, List.length_nil, Nat.zero_add] at ho2
  have hx2 := hx1.below hb2 (by omega)
  have h2 := h1.below' hb2 (by omega)
  have hT2 := hT1.trans (hb2.mono (by omega))
  clear d0 d1 d2 d3 d4 d5 d6 d7 d8 d9 d10 d11 d12 d13 d14 d15 d16 d17 d18 d19 d20 hx1 h1 hb2 hT1
  obtain ⟨d0, d1, d2, d3, d4, d5, d6, d7, d8, d9, d10, d11, d12, d13, d14, d15, d16, d17, d18, d19, d20⟩ := hx2.ord
  rw [HK.out] at d0
  have e9 : (frm 2 (qB o.f o.p o.t o.q o.z)).length = 9 := by rw [frm_len, qB_len]
  have hq1 := Kp.mk (show bytesQ o.f o.p o.t o.q o.z = (frm 2 (qB o.f o.p o.t o.q o.z), 0) from if_pos HP.out)
  have hq2 := Kp.mk (show textP [8] (frm 2 (qB o.f o.p o.t o.q o.z)) = ([8] ++ (dg 2 9 ++ frm 2 (qB o.f o.p o.t o.q o.z)), 0) by rw [textP_ok _ _ (by omega), e9, List.append_assoc]; rfl)
  have H9 := Kp.mk e9
  clear e9
  clear d0 d1 d2 d3 d4 d5 d6 d7 d8 d9 d10 d11 d12 d13 d14 d15 d16 d17 d18 d19 d20
  have d0 := hx2.ord.1
  rw [HK.out] at d0
  go_wp2_with (refine wpList_load_vb (vs := [.int .i64 o.f, .int .i64 o.p, .int .i64 o.t, .int .i64 o.q, .int .i64 o.z]) rfl (.tmp 91) rfl rfl hx2 rfl agg_probe ?_)
  refine (refBytes_any o.f o.p o.t o.q o.z w2).mono ?_
  rw [hq1.out]
  rintro e w3 ⟨A3, n3, c3, rfl, ho3, hb3⟩
  have hz3 := hb3.size
  have ho23 := ho2.keep_below hb3
  have hn3 : n3 ≤ 10 := by have := ho3.len; have := H9.out; simp only at *; omega
  go_wp2_with fail
  refine (refText_any ho23.rd ho3.rd (Nat.le_refl _) (Nat.le_refl _) (by omega)).mono ?_
  rw [hq2.out]
  rintro e w4 ⟨A4, n4, c4, rfl, ho4, hb4⟩
  go_wp2_with fail
  rw [hp.out, HR.out]
  go_ret2
  exact ⟨A4, n4, c4, rfl, ho4.lower (by omega), hT2.trans ((hb3.mono (by omega)).trans (hb4.mono (by omega)))⟩
set_option maxRecDepth 100000 in
set_option maxHeartbeats 1600000 in
theorem refBytes_5 {w : World} {B n c : Nat} {A : Option Addr} (o : OrdV) (h : Ro w B A n c o.r.os) (hB : B ≤ w.heap.size) (h8 : u8M o.r.x) (hk : o.k = 5) (ok : okOrd o) : Calls Tryz.prog 10 #[.agg #[.int .i64 o.k, .int .i64 o.n, .int .i64 o.m, .int .i64 o.r.k, .int .i64 o.r.pr, .int .i64 o.r.to, .int .i64 o.r.po, .int .i64 o.r.x.v, .int .i64 o.r.x.m, .int .u8 o.r.x.b0, .int .u8 o.r.x.b1, .int .u8 o.r.x.b2, .int .u8 o.r.x.i0, .int .u8 o.r.x.i1, .int .u8 o.r.x.i2, .slice A n c, .int .i64 o.f, .int .i64 o.p, .int .i64 o.t, .int .i64 o.q, .int .i64 o.z]] w (PairOf (bytesO o).1 (bytesO o).2 w) := by
  have hc := Kp.mk (show checkO o = 0 from if_pos ok)
  have HOK := Kp.mk ok
  have hon := ok.1
  unfold okNM at hon
  simp only [within] at hon
  have hp := Kp.mk (show bytesO o = ([5] ++ restB o, 0) by rw [show bytesO o = (ordB o, 0) from if_pos ok]; unfold ordB; rw [dg1_eq, hk]; rfl)
  have HR := Kp.mk (restB_5 hk)
  obtain ⟨b1, b2⟩ : (0 ≤ o.n ∧ o.n < 256) ∧ (0 ≤ o.m ∧ o.m < 65536) := by omega
  have HB1 := Kp.mk b1
  have HB2 := Kp.mk b2
  clear ok hon b1 b2
  have HK := Kp.mk hk
  clear hk
  have hba := below_alloc w (.cells #[.int .i64 o.k, .int .i64 o.n, .int .i64 o.m, .int .i64 o.r.k, .int .i64 o.r.pr, .int .i64 o.r.to, .int .i64 o.r.po, .int .i64 o.r.x.v, .int .i64 o.r.x.m, .int .u8 o.r.x.b0, .int .u8 o.r.x.b1, .int .u8 o.r.x.b2, .int .u8 o.r.x.i0, .int .u8 o.r.x.i1, .int .u8 o.r.x.i2, .slice A n c, .int .i64 o.f, .int .i64 o.p, .int .i64 o.t, .int .i64 o.q, .int .i64 o.z] 37)
  have hza : w.heap.size < (w.alloc (.cells #[.int .i64 o.k, .int .i64 o.n, .int .i64 o.m, .int .i64 o.r.k, .int .i64 o.r.pr, .int .i64 o.r.to, .int .i64 o.r.po, .int .i64 o.r.x.v, .int .i64 o.r.x.m, .int .u8 o.r.x.b0, .int .u8 o.r.x.b1, .int .u8 o.r.x.b2, .int .u8 o.r.x.i0, .int .u8 o.r.x.i1, .int .u8 o.r.x.i2, .slice A n c, .int .i64 o.f, .int .i64 o.p, .int .i64 o.t, .int .i64 o.q, .int .i64 o.z] 37)).heap.size := by simp
  have hxa : Vb 37 (w.alloc (.cells #[.int .i64 o.k, .int .i64 o.n, .int .i64 o.m, .int .i64 o.r.k, .int .i64 o.r.pr, .int .i64 o.r.to, .int .i64 o.r.po, .int .i64 o.r.x.v, .int .i64 o.r.x.m, .int .u8 o.r.x.b0, .int .u8 o.r.x.b1, .int .u8 o.r.x.b2, .int .u8 o.r.x.i0, .int .u8 o.r.x.i1, .int .u8 o.r.x.i2, .slice A n c, .int .i64 o.f, .int .i64 o.p, .int .i64 o.t, .int .i64 o.q, .int .i64 o.z] 37)) w.heap.size (ocl o (.slice A n c)) := Vb.new 37 w (ocl o (.slice A n c))
  have ha := h.below' hba hB
  go_enter Tryz.func10, Tryz.ntmps10
  go_upto_region 1 with fail
  generalize (w.alloc (.cells #[.int .i64 o.k, .int .i64 o.n, .int .i64 o.m, .int .i64 o.r.k, .int .i64 o.r.pr, .int .i64 o.r.to, .int .i64 o.r.po, .int .i64 o.r.x.v, .int .i64 o.r.x.m, .int .u8 o.r.x.b0, .int .u8 o.r.x.b1, .int .u8 o.r.x.b2, .int .u8 o.r.x.i0, .int .u8 o.r.x.i1, .int .u8 o.r.x.i2, .slice A n c, .int .i64 o.f, .int .i64 o.p, .int .i64 o.t, .int .i64 o.q, .int .i64 o.z] 37)) = wa at *
  go_wp2_with (refine wpList_load_vb (vs := ocl o (.slice A n c)) rfl (.tmp 1) rfl rfl hxa rfl agg_order ?_)
  refine (refOrderCheck_any o ha (by omega)).mono ?_
  rw [hc.out]
  rintro e w1 ⟨rfl, hb1⟩
  have hz1 := hb1.size
  have hT1 := hba.trans (hb1.mono (by omega))
  have hx1 := hxa.below hb1 (by omega)
  have h1 := ha.below' hb1 (by omega)
  clear hxa hba hb1 ha
  obtain ⟨d0, d1, d2, d3, d4, d5, d6, d7, d8, d9, d10, d11, d12, d13, d14, d15, d16, d17, d18, d19, d20⟩ := hx1.ord
  rw [HK.out] at d0
  go_upto_region 5 with fail
  have hb2 := below_alloc w1 (.cells #[.int .u8 5] 5)
  have ho2 := own_lit w1 [5] w1.heap.size (Nat.le_refl _) (by simp [maxLen])
  have hz2 : w1.heap.size < (w1.alloc (.cells #[.int .u8 5] 5)).heap.size := by simp
  change Own (w1.alloc (.cells #[.int .u8 5] 5)) _ _ _ _ at ho2
  generalize (w1.alloc (.cells #[.int .u8 5] 5)) = w2 at *
  simp only [List.length_cons, List.length_nil, Nat.zero_add] at ho2
  have hx2 := hx1.below hb2 (by omega)
  have h2 := h1.below' hb2 (by omega)
  have hT2 := hT1.trans (hb2.mono (by omega))
  clear d0 d1 d2 d3 d4 d5 d6 d7 d8 d9 d10 d11 d12 d13 d14 d15 d16 d17 d18 d19 d20 hx1 h1 hb2 hT1
  obtain ⟨d0, d1, d2, d3, d4, d5, d6, d7, d8, d9, d10, d11, d12, d13, d14, d15, d16, d17, d18, d19, d20⟩ := hx2.ord
  rw [HK.out] at d0
  have hq := Kp.mk (put_b2 ([5] ++ [o.n % 256]) o.m HB2.out)
  go_upto_region 14 with fail
  have hS : (fun w' => Below w1.heap.size w2 w') w2.drew := (Below.refl _ _).drew
  have hxl : w.heap.size < w1.heap.size := by omega
  refine wp_region_held_drew (S := (fun w' => Below w1.heap.size w2 w')) (by kernel_rfl) hS (fun _ => ?_)
  refine takeD (i := 0) (v := .slice (some ⟨w1.heap.size, 0, none⟩) 1 1) (some 48) rfl rfl (by kernel_rfl) (by kernel_rfl) (by kernel_rfl) (fun _ _ _ h => h) (Or.inl ⟨by rfl, ?_⟩) hS ?_
  · rintro w' _
    go_simp
  try simp only [Act.put, List.setIfInBounds_toArray, List.set_cons_zero, List.set_cons_succ]
  refine takeD (i := 1) (v := .pointer (some ⟨w.heap.size, 1, none⟩)) (some 49) rfl rfl (by kernel_rfl) (by kernel_rfl) (by kernel_rfl) (fun _ _ _ h => h) (Or.inl ⟨by rfl, ?_⟩) hS ?_
  · rintro w' _
    go_simp
  try simp only [Act.put, List.setIfInBounds_toArray, List.set_cons_zero, List.set_cons_succ]
  refine takeD (i := 2) (v := .int .i64 o.n) (some 50) rfl rfl (by kernel_rfl) (by kernel_rfl) (by kernel_rfl) (fun _ _ _ h => h) (Or.inl ⟨by rfl, ?_⟩) hS ?_
  · rintro w' hbb
    have hc0 := cell_low d1 hxl hbb
    go_simp
  try simp only [Act.put, List.setIfInBounds_toArray, List.set_cons_zero, List.set_cons_succ]
  refine takeD (i := 3) (v := .int .u8 (o.n % 256)) (some 51) rfl rfl (by kernel_rfl) (by kernel_rfl) (by kernel_rfl) (fun _ _ _ h => h) (Or.inl ⟨by rfl, ?_⟩) hS ?_
  · rintro w' _
    go_simp
    first | done | (rw [IntKind.wrap_u8])
  try simp only [Act.put, List.setIfInBounds_toArray, List.set_cons_zero, List.set_cons_succ]
  refine takeD (i := 6) (v := .pointer (some ⟨w.heap.size, 2, none⟩)) (some 54) rfl rfl (by kernel_rfl) (by kernel_rfl) (by kernel_rfl) (fun _ _ _ h => h) (Or.inl ⟨by rfl, ?_⟩) hS ?_
  · rintro w' _
    go_simp
  try simp only [Act.put, List.setIfInBounds_toArray, List.set_cons_zero, List.set_cons_succ]
  refine takeD (i := 7) (v := .int .i64 o.m) (some 55) rfl rfl (by kernel_rfl) (by kernel_rfl) (by kernel_rfl) (fun _ _ _ h => h) (Or.inl ⟨by rfl, ?_⟩) hS ?_
  · rintro w' hbb
    have hc0 := cell_low d2 hxl hbb
    go_simp
  try simp only [Act.put, List.setIfInBounds_toArray, List.set_cons_zero, List.set_cons_succ]
  clear d0 d1 d2 d3 d4 d5 d6 d7 d8 d9 d10 d11 d12 d13 d14 d15 d16 d17 d18 d19 d20
  have ho3 : Own w2.drew w1.heap.size (.slice (some ⟨w1.heap.size, 0, none⟩) 1 1) 1 [5] := ho2
  have hTd : Below w.heap.size w w2.drew := hT2.drew
  have hzd : w1.heap.size < w2.drew.heap.size := hz2
  generalize w2.drew = wd at *
  have hS0 := hS
  refine wpAnyH_ready (rs := [4, 8]) (by kernel_rfl) (by simp) ?_
  refine AllReadyH.cons rfl (fun K hK => ?_) (AllReadyH.cons rfl (fun K hK => ?_) AllReadyH.nil)
  · go_simp
    refine hK.out _ _ (hS0.trans ((below_alloc wd (.cells #[.int .u8 (o.n % 256)] 5)).mono (by omega))) (fun hS1 => ?_)
    clear hK K
    try simp only [Act.put, List.setIfInBounds_toArray, List.set_cons_zero, List.set_cons_succ]
    have ha1 := ho3.alloc (.cells #[.int .u8 (o.n % 256)] 5)
    have hT10 := hTd.trans ((below_alloc wd (.cells #[.int .u8 (o.n % 256)] 5)).mono (by omega))
    have hzz1 : wd.heap.size < (wd.alloc (.cells #[.int .u8 (o.n % 256)] 5)).heap.size := by simp
    have hrA := rd_lit .u8 wd 5 [o.n % 256] (by simp [maxLen]) (wd.heap.size + 1) (by omega)
    change Own (wd.alloc (.cells #[.int .u8 (o.n % 256)] 5)) _ _ _ _ at ha1
    change Rd _ (wd.alloc (.cells #[.int .u8 (o.n % 256)] 5)) _ _ _ _ _ at hrA
    generalize (wd.alloc (.cells #[.int .u8 (o.n % 256)] 5)) = wn1 at *
    simp only [List.length_cons, List.length_nil, Nat.zero_add] at hrA
    refine wpAnyH_ready (rs := [5, 8]) (by kernel_rfl) (by simp) ?_
    refine AllReadyH.cons rfl (fun K hK => ?_) (AllReadyH.cons rfl (fun K hK => ?_) AllReadyH.nil)
    · refine op_append8g (.tmp 48) (.tmp 52) rfl rfl ha1 rfl hrA (by omega) (by omega) ?_
      intro A2 c2 wn2 ha2 hbA hgA
      refine hK.out _ _ (hS1.trans hbA) (fun hS2 => ?_)
      clear hK K
      try simp only [Act.put, List.setIfInBounds_toArray, List.set_cons_zero, List.set_cons_succ]
      have hzz2 := hbA.size
      have hT20 := hT10.trans (hbA.mono (by omega))
      clear hbA hgA
      refine wpAnyH_ready (rs := [8]) (by kernel_rfl) (by simp) ?_
      refine AllReadyH.cons rfl (fun K hK => ?_) AllReadyH.nil
      go_simp
      refine hK.out _ _ (hS2.trans ((below_alloc wn2 (.cells #[.int .i64 o.m] 3)).mono (by omega))) (fun hS3 => ?_)
      clear hK K
      try simp only [Act.put, List.setIfInBounds_toArray, List.set_cons_zero, List.set_cons_succ]
      have ha3 := ha2.alloc (.cells #[.int .i64 o.m] 3)
      have hT30 := hT20.trans ((below_alloc wn2 (.cells #[.int .i64 o.m] 3)).mono (by omega))
      have hzz3 : wn2.heap.size < (wn2.alloc (.cells #[.int .i64 o.m] 3)).heap.size := by simp
      have hrB := rd_lit .i64 wn2 3 [o.m] (by simp [maxLen]) (wn2.heap.size + 1) (by omega)
      change Own (wn2.alloc (.cells #[.int .i64 o.m] 3)) _ _ _ _ at ha3
      change Rd _ (wn2.alloc (.cells #[.int .i64 o.m] 3)) _ _ _ _ _ at hrB
      generalize (wn2.alloc (.cells #[.int .i64 o.m] 3)) = wn3 at *
      simp only [List.length_cons, List.length_nil, Nat.zero_add] at hrB
      refine wpAnyH_ready (rs := [9]) (by kernel_rfl) (by simp) ?_
      refine AllReadyH.cons rfl (fun K hK => ?_) AllReadyH.nil
      go_simp
      go_at_call 30
      refine (refPut_any 2 ha3.rd hrB (Nat.le_refl _) (by omega) (by omega)).mono ?_
      rw [hq.out]
      rintro e w9 ⟨A9, n9, c9, rfl, ho9, hb9⟩
      have hTT := hT30.trans (hb9.mono (by omega))
      refine hK.out _ _ (hS3.trans (hb9.mono (by omega))) (fun hS9 => ?_)
      clear hK K
      try simp only [Act.put, List.setIfInBounds_toArray, List.set_cons_zero, List.set_cons_succ]
      refine takeD (i := 10) (v := .tuple #[.slice A9 n9 c9, .int .i64 0]) (some 47) rfl rfl (by kernel_rfl) (by kernel_rfl) (by kernel_rfl) (fun _ _ _ h => h) (Or.inl ⟨by rfl, ?_⟩) hS9 ?_
      · rintro w' _
        go_simp
      try simp only [Act.put, List.setIfInBounds_toArray, List.set_cons_zero, List.set_cons_succ]
      refine takeD (i := 11) (v := .slice A9 n9 c9) (some 58) rfl rfl (by kernel_rfl) (by kernel_rfl) (by kernel_rfl) (fun _ _ _ h => h) (Or.inl ⟨by rfl, ?_⟩) hS9 ?_
      · rintro w' _
        go_simp
      try simp only [Act.put, List.setIfInBounds_toArray, List.set_cons_zero, List.set_cons_succ]
      refine takeD (i := 12) (v := .int .i64 0) (some 59) rfl rfl (by kernel_rfl) (by kernel_rfl) (by kernel_rfl) (fun _ _ _ h => h) (Or.inl ⟨by rfl, ?_⟩) hS9 ?_
      · rintro w' _
        go_simp
      try simp only [Act.put, List.setIfInBounds_toArray, List.set_cons_zero, List.set_cons_succ]
      refine takeD (i := 13) (v := .slice A9 n9 c9) (some 5) rfl rfl (by kernel_rfl) (by kernel_rfl) (by kernel_rfl) (fun _ _ _ h => h) (Or.inl ⟨by rfl, ?_⟩) hS9 ?_
      · rintro w' _
        go_simp
      try simp only [Act.put, List.setIfInBounds_toArray, List.set_cons_zero, List.set_cons_succ]
      refine wpAnyH_done (by kernel_rfl) ?_ _
      go_wp2_with fail
      rw [hp.out, HR.out, dg1_eq, ← List.append_assoc]
      go_ret2
      exact ⟨A9, n9, c9, rfl, ho9.lower (by omega), hTT⟩
    · go_simp
      refine hK.out _ _ (hS1.trans ((below_alloc wn1 (.cells #[.int .i64 o.m] 3)).mono (by omega))) (fun hS2 => ?_)
      clear hK K
      try simp only [Act.put, List.setIfInBounds_toArray, List.set_cons_zero, List.set_cons_succ]
      have ha2 := ha1.alloc (.cells #[.int .i64 o.m] 3)
      have hT20 := hT10.trans ((below_alloc wn1 (.cells #[.int .i64 o.m] 3)).mono (by omega))
      have hzz2 : wn1.heap.size < (wn1.alloc (.cells #[.int .i64 o.m] 3)).heap.size := by simp
      have hrB := rd_lit .i64 wn1 3 [o.m] (by simp [maxLen]) (wn1.heap.size + 1) (by omega)
      replace hrA := hrA.below' (below_alloc wn1 (.cells #[.int .i64 o.m] 3)) (by omega)
      change Own (wn1.alloc (.cells #[.int .i64 o.m] 3)) _ _ _ _ at ha2
      change Rd _ (wn1.alloc (.cells #[.int .i64 o.m] 3)) _ _ _ _ _ at hrB
      generalize (wn1.alloc (.cells #[.int .i64 o.m] 3)) = wn2 at *
      simp only [List.length_cons, List.length_nil, Nat.zero_add] at hrB
      refine wpAnyH_ready (rs := [5]) (by kernel_rfl) (by simp) ?_
      refine AllReadyH.cons rfl (fun K hK => ?_) AllReadyH.nil
      refine op_append8g (.tmp 48) (.tmp 52) rfl rfl ha2 rfl hrA (by omega) (by omega) ?_
      intro A3 c3 wn3 ha3 hbA hgA
      refine hK.out _ _ (hS2.trans hbA) (fun hS3 => ?_)
      clear hK K
      try simp only [Act.put, List.setIfInBounds_toArray, List.set_cons_zero, List.set_cons_succ]
      have hzz3 := hbA.size
      have hT30 := hT20.trans (hbA.mono (by omega))
      replace hrB := rd_grown hrB hgA (by simp only; omega)
      clear hbA hgA
      refine wpAnyH_ready (rs := [9]) (by kernel_rfl) (by simp) ?_
      refine AllReadyH.cons rfl (fun K hK => ?_) AllReadyH.nil
      go_simp
      go_at_call 30
      refine (refPut_any 2 ha3.rd hrB (Nat.le_refl _) (by omega) (by omega)).mono ?_
      rw [hq.out]
      rintro e w9 ⟨A9, n9, c9, rfl, ho9, hb9⟩
      have hTT := hT30.trans (hb9.mono (by omega))
      refine hK.out _ _ (hS3.trans (hb9.mono (by omega))) (fun hS9 => ?_)
      clear hK K
      try simp only [Act.put, List.setIfInBounds_toArray, List.set_cons_zero, List.set_cons_succ]
      refine takeD (i := 10) (v := .tuple #[.slice A9 n9 c9, .int .i64 0]) (some 47) rfl rfl (by kernel_rfl) (by kernel_rfl) (by kernel_rfl) (fun _ _ _ h => h) (Or.inl ⟨by rfl, ?_⟩) hS9 ?_
      · rintro w' _
        go_simp
      try simp only [Act.put, List.setIfInBounds_toArray, List.set_cons_zero, List.set_cons_succ]
      refine takeD (i := 11) (v := .slice A9 n9 c9) (some 58) rfl rfl (by kernel_rfl) (by kernel_rfl) (by kernel_rfl) (fun _ _ _ h => h) (Or.inl ⟨by rfl, ?_⟩) hS9 ?_
      · rintro w' _
        go_simp
      try simp only [Act.put, List.setIfInBounds_toArray, List.set_cons_zero, List.set_cons_succ]
      refine takeD (i := 12) (v := .int .i64 0) (some 59) rfl rfl (by kernel_rfl) (by kernel_rfl) (by kernel_rfl) (fun _ _ _ h => h) (Or.inl ⟨by rfl, ?_⟩) hS9 ?_
      · rintro w' _
        go_simp
      try simp only [Act.put, List.setIfInBounds_toArray, List.set_cons_zero, List.set_cons_succ]
      refine takeD (i := 13) (v := .slice A9 n9 c9) (some 5) rfl rfl (by kernel_rfl) (by kernel_rfl) (by kernel_rfl) (fun _ _ _ h => h) (Or.inl ⟨by rfl, ?_⟩) hS9 ?_
      · rintro w' _
        go_simp
      try simp only [Act.put, List.setIfInBounds_toArray, List.set_cons_zero, List.set_cons_succ]
      refine wpAnyH_done (by kernel_rfl) ?_ _
      go_wp2_with fail
      rw [hp.out, HR.out, dg1_eq, ← List.append_assoc]
      go_ret2
      exact ⟨A9, n9, c9, rfl, ho9.lower (by omega), hTT⟩
  · go_simp
    refine hK.out _ _ (hS0.trans ((below_alloc wd (.cells #[.int .i64 o.m] 3)).mono (by omega))) (fun hS1 => ?_)
    clear hK K
    try simp only [Act.put, List.setIfInBounds_toArray, List.set_cons_zero, List.set_cons_succ]
    have ha1 := ho3.alloc (.cells #[.int .i64 o.m] 3)
    have hT10 := hTd.trans ((below_alloc wd (.cells #[.int .i64 o.m] 3)).mono (by omega))
    have hzz1 : wd.heap.size < (wd.alloc (.cells #[.int .i64 o.m] 3)).heap.size := by simp
    have hrB := rd_lit .i64 wd 3 [o.m] (by simp [maxLen]) (wd.heap.size + 1) (by omega)
    change Own (wd.alloc (.cells #[.int .i64 o.m] 3)) _ _ _ _ at ha1
    change Rd _ (wd.alloc (.cells #[.int .i64 o.m] 3)) _ _ _ _ _ at hrB
    generalize (wd.alloc (.cells #[.int .i64 o.m] 3)) = wn1 at *
    simp only [List.length_cons, List.length_nil, Nat.zero_add] at hrB
    refine wpAnyH_ready (rs := [4]) (by kernel_rfl) (by simp) ?_
    refine AllReadyH.cons rfl (fun K hK => ?_) AllReadyH.nil
    go_simp
    refine hK.out _ _ (hS1.trans ((below_alloc wn1 (.cells #[.int .u8 (o.n % 256)] 5)).mono (by omega))) (fun hS2 => ?_)
    clear hK K
    try simp only [Act.put, List.setIfInBounds_toArray, List.set_cons_zero, List.set_cons_succ]
    have ha2 := ha1.alloc (.cells #[.int .u8 (o.n % 256)] 5)
    have hT20 := hT10.trans ((below_alloc wn1 (.cells #[.int .u8 (o.n % 256)] 5)).mono (by omega))
    have hzz2 : wn1.heap.size < (wn1.alloc (.cells #[.int .u8 (o.n % 256)] 5)).heap.size := by simp
    have hrA := rd_lit .u8 wn1 5 [o.n % 256] (by simp [maxLen]) (wn1.heap.size + 1) (by omega)
    replace hrB := hrB.below' (below_alloc wn1 (.cells #[.int .u8 (o.n % 256)] 5)) (by omega)
    change Own (wn1.alloc (.cells #[.int .u8 (o.n % 256)] 5)) _ _ _ _ at ha2
    change Rd _ (wn1.alloc (.cells #[.int .u8 (o.n % 256)] 5)) _ _ _ _ _ at hrA
    generalize (wn1.alloc (.cells #[.int .u8 (o.n % 256)] 5)) = wn2 at *
    simp only [List.length_cons, List.length_nil, Nat.zero_add] at hrA
    refine wpAnyH_ready (rs := [5]) (by kernel_rfl) (by simp) ?_
    refine AllReadyH.cons rfl (fun K hK => ?_) AllReadyH.nil
    refine op_append8g (.tmp 48) (.tmp 52) rfl rfl ha2 rfl hrA (by omega) (by omega) ?_
    intro A3 c3 wn3 ha3 hbA hgA
    refine hK.out _ _ (hS2.trans hbA) (fun hS3 => ?_)
    clear hK K
    try simp only [Act.put, List.setIfInBounds_toArray, List.set_cons_zero, List.set_cons_succ]
    have hzz3 := hbA.size
    have hT30 := hT20.trans (hbA.mono (by omega))
    replace hrB := rd_grown hrB hgA (by simp only; omega)
    clear hbA hgA
    refine wpAnyH_ready (rs := [9]) (by kernel_rfl) (by simp) ?_
    refine AllReadyH.cons rfl (fun K hK => ?_) AllReadyH.nil
    go_simp
    go_at_call 30
    refine (refPut_any 2 ha3.rd hrB (Nat.le_refl _) (by omega) (by omega)).mono ?_
    rw [hq.out]
    rintro e w9 ⟨A9, n9, c9, rfl, ho9, hb9⟩
    have hTT := hT30.trans (hb9.mono (by omega))
    refine hK.out _ _ (hS3.trans (hb9.mono (by omega))) (fun hS9 => ?_)
    clear hK K
    try simp only [Act.put, List.setIfInBounds_toArray, List.set_cons_zero, List.set_cons_succ]
    refine takeD (i := 10) (v := .tuple #[.slice A9 n9 c9, .int .i64 0]) (some 47) rfl rfl (by kernel_rfl) (by kernel_rfl) (by kernel_rfl) (fun _ _ _ h => h) (Or.inl ⟨by rfl, ?_⟩) hS9 ?_
    · rintro w' _
      go_simp
    try simp only [Act.put, List.setIfInBounds_toArray, List.set_cons_zero, List.set_cons_succ]
    refine takeD (i := 11) (v := .slice A9 n9 c9) (some 58) rfl rfl (by kernel_rfl) (by kernel_rfl) (by kernel_rfl) (fun _ _ _ h => h) (Or.inl ⟨by rfl, ?_⟩) hS9 ?_
    · rintro w' _
      go_simp
    try simp only [Act.put, List.setIfInBounds_toArray, List.set_cons_zero, List.set_cons_succ]
    refine takeD (i := 12) (v := .int .i64 0) (some 59) rfl rfl (by kernel_rfl) (by kernel_rfl) (by kernel_rfl) (fun _ _ _ h => h) (Or.inl ⟨by rfl, ?_⟩) hS9 ?_
    · rintro w' _
      go_simp
    try simp only [Act.put, List.setIfInBounds_toArray, List.set_cons_zero, List.set_cons_succ]
    refine takeD (i := 13) (v := .slice A9 n9 c9) (some 5) rfl rfl (by kernel_rfl) (by kernel_rfl) (by kernel_rfl) (fun _ _ _ h => h) (Or.inl ⟨by rfl, ?_⟩) hS9 ?_
    · rintro w' _
      go_simp
    try simp only [Act.put, List.setIfInBounds_toArray, List.set_cons_zero, List.set_cons_succ]
    refine wpAnyH_done (by kernel_rfl) ?_ _
    go_wp2_with fail
    rw [hp.out, HR.out, dg1_eq, ← List.append_assoc]
    go_ret2
    exact ⟨A9, n9, c9, rfl, ho9.lower (by omega), hTT⟩
theorem refOrderBytes_any {w : World} {B n c : Nat} {A : Option Addr} (o : OrdV) (h : Ro w B A n c o.r.os) (hB : B ≤ w.heap.size) (h8 : u8M o.r.x) : Calls Tryz.prog 10 #[.agg #[.int .i64 o.k, .int .i64 o.n, .int .i64 o.m, .int .i64 o.r.k, .int .i64 o.r.pr, .int .i64 o.r.to, .int .i64 o.r.po, .int .i64 o.r.x.v, .int .i64 o.r.x.m, .int .u8 o.r.x.b0, .int .u8 o.r.x.b1, .int .u8 o.r.x.b2, .int .u8 o.r.x.i0, .int .u8 o.r.x.i1, .int .u8 o.r.x.i2, .slice A n c, .int .i64 o.f, .int .i64 o.p, .int .i64 o.t, .int .i64 o.q, .int .i64 o.z]] w (PairOf (bytesO o).1 (bytesO o).2 w) := by
  by_cases ok : okOrd o
  rotate_left
  · exact refBytes_no o h hB h8 ok
  have hk := okNM_k ok.1
  by_cases q1 : o.k = 1
  · exact refBytes_1 o h hB h8 q1 ok
  by_cases q2 : o.k = 2
  · exact refBytes_2 o h hB h8 q2 ok
  by_cases q3 : o.k = 3
  · exact refBytes_3 o h hB h8 q3 ok
  by_cases q4 : o.k = 4
  · exact refBytes_4 o h hB h8 q4 ok
  by_cases q5 : o.k = 5
  · exact refBytes_5 o h hB h8 q5 ok
  by_cases q6 : o.k = 6
  · exact refBytes_6 o h hB h8 q6 ok
  by_cases q7 : o.k = 7
  · exact refBytes_7 o h hB h8 q7 ok
  by_cases q8 : o.k = 8
  · exact refBytes_8 o h hB h8 q8 ok
  by_cases q9 : o.k = 9
  · exact refBytes_9 o h hB h8 q9 ok
  omega
end Go.Proofs.YteambkehdbffmaaGreat.Oct
