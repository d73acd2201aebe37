import Derived.Test.YtnoflfbcgbhipaaGreatOrdH
import Derived.Test.YtnoflfbcgbhipaaGreatOrdF
import Derived.Test.YtnoflfbcgbhipaaGreatOctZ
set_option linter.unusedSimpArgs false
set_option linter.unusedVariables false
set_option maxRecDepth 100000
set_option maxHeartbeats 3200000
namespace Go.Proofs.YtnoflfbcgbhipaaGreat.Oct
open Go.RowKit
def OwnOf (base : Nat) (l : List Int) (w : World) (e : Ending) (w' : World) : Prop :=
 ∃ A n c, e = .returned (.slice A n c) ∧ Own w' base (.slice A n c) n l ∧ Below w.heap.size w w'
theorem Own.keep_below {w w' : World} {base n : Nat} {v : Value} {l : List Int} (h : Own w base v n l) (hb : Below w.heap.size w w') : Own w' base v n l := h.below hb (Nat.le_refl _)
theorem wr_none {w : World} {base n1 c1 : Nat} {A1 : Option Addr} {l : List Int} (hb : Own w base (.slice A1 n1 c1) n1 l) (hbase : base ≤ w.heap.size) (A : Option Addr) : Calls Tryz.prog 156 #[.agg #[.slice A 0 0, .pointer none, .pointer none], .slice A1 n1 c1] w (OwnOf base (l) w) := by
 have hb1 := below_alloc w (.cells #[.slice A 0 0, .pointer none, .pointer none] 211)
 go_enter Tryz.func156, Tryz.ntmps156
 go_wp2_with fail
 refine wp_loop_rounds (0 + 1) ?_
 rw [rounds_succ]
 go_wp2_with fail
 go_ret
 exact ⟨A1, n1, c1, rfl, hb.alloc _, hb1⟩
theorem wr_rule {w : World} {base n1 c1 : Nat} {A1 : Option Addr} {l : List Int} (hb : Own w base (.slice A1 n1 c1) n1 l) (hbase : base ≤ w.heap.size) (A : Option Addr) {g B n c : Nat} {S : Option Addr} {o : OrdV} (hx : Vb 206 w g (ocl o (.slice S n c))) (h : Ro w B S n c o.r.os) (hB : B ≤ w.heap.size) (ok : okR o.r) (h8 : u8M o.r.x) (hl : l.length ≤ 10) : Calls Tryz.prog 156 #[.agg #[.slice A 0 0, .pointer (some ⟨g, 3, none⟩), .pointer none], .slice A1 n1 c1] w (OwnOf base (l ++ ruleB o.r) w) := by
 have hb1 := below_alloc w (.cells #[.slice A 0 0, .pointer (some ⟨g, 3, none⟩), .pointer none] 211)
 have hx1 := hx.alloc (.cells #[.slice A 0 0, .pointer (some ⟨g, 3, none⟩), .pointer none] 211)
 have ho1 := hb.alloc (.cells #[.slice A 0 0, .pointer (some ⟨g, 3, none⟩), .pointer none] 211)
 have h1 := h.below' hb1 hB
 have hv1 := Vb.new 211 w [.slice A 0 0, .pointer (some ⟨g, 3, none⟩), .pointer none]
 have hz1 : w.heap.size < (w.alloc (.cells #[.slice A 0 0, .pointer (some ⟨g, 3, none⟩), .pointer none] 211)).heap.size := by simp
 go_enter Tryz.func156, Tryz.ntmps156
 go_wp2_with fail
 refine wp_loop_rounds (0 + 1) ?_
 rw [rounds_succ]
 go_upto_region 7 with fail
 generalize w.alloc (.cells #[.slice A 0 0, .pointer (some ⟨g, 3, none⟩), .pointer none] 211) = wa at *
 obtain ⟨f0, f1, f2⟩ := hv1.c3
 go_wp2_with (refine wpList_load_vb (vs := rcl o.r (.slice S n c)) rfl (.tmp 35) rfl rfl hx1 rfl agg_rule ?_)
 refine (writeRule_any o.r ho1.rd (Nat.le_refl _) h1 (by omega) ok h8 hl).mono ?_
 rintro e w2 ⟨A2, n2, c2, rfl, ho2, hb2⟩
 have hv2 := hv1.below hb2 (by omega)
 have hz2 := hb2.size
 clear f0 f1 f2
 obtain ⟨f0, f1, f2⟩ := hv2.c3
 go_wp2_with fail
 go_ret
 exact ⟨A2, n2, c2, rfl, ho2.lower (by omega), hb1.trans (hb2.mono (by omega))⟩
theorem wr_link {w : World} {base n1 c1 : Nat} {A1 : Option Addr} {l : List Int} (hb : Own w base (.slice A1 n1 c1) n1 l) (hbase : base ≤ w.heap.size) (A : Option Addr) {g : Nat} {S : Value} {o : OrdV} (hx : Vb 206 w g (ocl o S)) (ok : okQ o.f o.p o.t o.q o.z) (hl : l.length ≤ 10) : Calls Tryz.prog 156 #[.agg #[.slice A 0 0, .pointer none, .pointer (some ⟨g, 16, none⟩)], .slice A1 n1 c1] w (OwnOf base (l ++ (dg 2 9 ++ frm 2 (qB o.f o.p o.t o.q o.z))) w) := by
 have hb1 := below_alloc w (.cells #[.slice A 0 0, .pointer none, .pointer (some ⟨g, 16, none⟩)] 211)
 have hx1 := hx.alloc (.cells #[.slice A 0 0, .pointer none, .pointer (some ⟨g, 16, none⟩)] 211)
 have ho1 := hb.alloc (.cells #[.slice A 0 0, .pointer none, .pointer (some ⟨g, 16, none⟩)] 211)
 have hv1 := Vb.new 211 w [.slice A 0 0, .pointer none, .pointer (some ⟨g, 16, none⟩)]
 have hz1 : w.heap.size < (w.alloc (.cells #[.slice A 0 0, .pointer none, .pointer (some ⟨g, 16, none⟩)] 211)).heap.size := by simp
 have e9 : (frm 2 (qB o.f o.p o.t o.q o.z)).length = 9 := by rw [frm_len, qB_len]
 have hq1 := Kp.mk (show bytesQ o.f o.p o.t o.q o.z = (frm 2 (qB o.f o.p o.t o.q o.z), 0) from if_pos ok)
 have hq2 := Kp.mk (show textP l (frm 2 (qB o.f o.p o.t o.q o.z)) = (l ++ (dg 2 9 ++ frm 2 (qB o.f o.p o.t o.q o.z)), 0) by rw [textP_ok _ _ (by omega), e9, List.append_assoc]; rfl)
 have H9 := Kp.mk e9
 have hln := hb.len
 have hn1 : n1 ≤ 10 := by omega
 clear e9 hln
 go_enter Tryz.func156, Tryz.ntmps156
 go_wp2_with fail
 refine wp_loop_rounds (0 + 1) ?_
 rw [rounds_succ]
 go_upto_region 9 with fail
 generalize w.alloc (.cells #[.slice A 0 0, .pointer none, .pointer (some ⟨g, 16, none⟩)] 211) = wa at *
 obtain ⟨f0, f1, f2⟩ := hv1.c3
 go_wp2_with (refine wpList_load_vb (vs := [.int .i64 o.f, .int .i64 o.p, .int .i64 o.t, .int .i64 o.q, .int .i64 o.z]) rfl (.tmp 44) rfl rfl hx1 rfl agg_probe ?_)
 refine (bytes_any o.f o.p o.t o.q o.z wa).mono ?_
 rw [hq1.out]
 rintro e w2 ⟨A2, n2, c2, rfl, ho2, hb2⟩
 have hz2 := hb2.size
 have ho12 := ho1.keep_below hb2
 have hn2 : n2 ≤ 10 := by have := ho2.len; have := H9.out; simp only at *; omega
 go_wp2_with fail
 refine (text_any ho12.rd ho2.rd (Nat.le_refl _) (Nat.le_refl _) (by omega)).mono ?_
 rw [hq2.out]
 rintro e w3 ⟨A3, n3, c3, rfl, ho3, hb3⟩
 have hz3 := hb3.size
 go_wp2_with fail
 go_ret
 exact ⟨A3, n3, c3, rfl, ho3.lower (by omega), hb1.trans ((hb2.mono (by omega)).trans (hb3.mono (by omega)))⟩
theorem wr_1 {w : World} {base n1 c1 : Nat} {A1 : Option Addr} {l : List Int} (hb : Own w base (.slice A1 n1 c1) n1 l) (hbase : base ≤ w.heap.size) {lo g m : Nat} {A : Option Addr} {u : NumV} (x : Int) (s : Nat) (hR : Rn w lo g A m [u]) (hg : g < w.heap.size) (hu : w.cell? ⟨g, u.at_, none⟩ = some (.int .i64 x)) (ku : u.s = (s : Nat)) (tu : s = 1 ∨ s = 2 ∨ s = 4) (bu : 0 ≤ x ∧ x < 2 ^ (8 * s)) (hl : l.length ≤ 10) : Calls Tryz.prog 156 #[.agg #[.slice A m m, .pointer none, .pointer none], .slice A1 n1 c1] w (OwnOf base ((l ++ dg s x)) w) := by
 have hln := hb.len
 have hn1 : n1 ≤ 10 := by omega
 clear hln
 obtain ⟨hlm, _, hc⟩ := hR
 simp at hlm
 subst hlm
 obtain ⟨b, rfl, _, hbw, hc⟩ := hc (by omega)
 have qu := Kp.mk (fun l => show putP l u.s [x] = (l ++ dg s x, 0) by rw [ku]; exact putP_one l s tu x bu.1 bu.2)
 have hss : s ≤ 4 := by omega
 clear ku tu bu
 obtain ⟨a00, a01, a02, a03⟩ := hc 0 u rfl
 simp only [Nat.zero_mul, Nat.zero_add, Nat.one_mul, Nat.reduceAdd] at a00 a01 a02 a03
 clear hc
 have hbw0 := below_alloc w (.cells #[.slice (some ⟨b, 0, none⟩) 1 1, .pointer none, .pointer none] 211)
 have hvb := Vb.new 211 w [.slice (some ⟨b, 0, none⟩) 1 1, .pointer none, .pointer none]
 have FU : Kp (∀ w', Below (w.heap.size + 1) (w.alloc (.cells #[.slice (some ⟨b, 0, none⟩) 1 1, .pointer none, .pointer none] 211)) w' → w'.cell? ⟨w.heap.size, 1, none⟩ = some (.pointer none) ∧ w'.cell? ⟨w.heap.size, 2, none⟩ = some (.pointer none) ∧ w'.cell? ⟨g, u.at_, none⟩ = some (.int .i64 x) ∧ w'.cell? ⟨b, 0, none⟩ = some (.pointer (some ⟨g, u.at_, none⟩)) ∧ w'.cell? ⟨b, 1, none⟩ = some (.int .i64 u.s) ∧ w'.cell? ⟨b, 2, none⟩ = some (.int .i64 u.lo) ∧ w'.cell? ⟨b, 3, none⟩ = some (.int .i64 u.hi)) := Kp.mk (fun w' hb0 => by have hbb := hbw0.trans (hb0.mono (by omega)); have hvv := hvb.below hb0 (by omega); exact ⟨hvv.cell 1 rfl, hvv.cell 2 rfl, cell_below hu hg hbb, cell_below a00 hbw hbb, cell_below a01 hbw hbb, cell_below a02 hbw hbb, cell_below a03 hbw hbb⟩)
 clear hu a00 a01 a02 a03
 have hb1 : Below (w.heap.size + 1) (w.alloc (.cells #[.slice (some ⟨b, 0, none⟩) 1 1, .pointer none, .pointer none] 211)) (w.alloc (.cells #[.slice (some ⟨b, 0, none⟩) 1 1, .pointer none, .pointer none] 211)) := Below.refl _ _
 have hz1 : w.heap.size + 1 ≤ (w.alloc (.cells #[.slice (some ⟨b, 0, none⟩) 1 1, .pointer none, .pointer none] 211)).heap.size := by simp
 have ho1 := hb.alloc (.cells #[.slice (some ⟨b, 0, none⟩) 1 1, .pointer none, .pointer none] 211)
 go_enter Tryz.func156, Tryz.ntmps156
 go_wp2_with fail
 refine wp_loop_rounds (1 + 1) ?_
 obtain ⟨f1, f2, ku, b00, b01, b02, b03⟩ := FU.out _ hb1
 rw [rounds_succ]
 go_upto_region 4 with fail
 clear f1 f2 ku b00 b01 b02 b03
 have hm1 := Vb.new 245 (w.alloc (.cells #[.slice (some ⟨b, 0, none⟩) 1 1, .pointer none, .pointer none] 211)) [.pointer (some ⟨g, u.at_, none⟩), .int .i64 u.s, .int .i64 u.lo, .int .i64 u.hi]
 rw [alloc_size] at hm1
 have hba1 := hb1.trans ((below_alloc (w.alloc (.cells #[.slice (some ⟨b, 0, none⟩) 1 1, .pointer none, .pointer none] 211)) (.cells #[.pointer (some ⟨g, u.at_, none⟩), .int .i64 u.s, .int .i64 u.lo, .int .i64 u.hi] 245)).mono hz1)
 have hoa1 := ho1.alloc (.cells #[.pointer (some ⟨g, u.at_, none⟩), .int .i64 u.s, .int .i64 u.lo, .int .i64 u.hi] 245)
 have hza1 : w.heap.size + 1 ≤ ((w.alloc (.cells #[.slice (some ⟨b, 0, none⟩) 1 1, .pointer none, .pointer none] 211)).alloc (.cells #[.pointer (some ⟨g, u.at_, none⟩), .int .i64 u.s, .int .i64 u.lo, .int .i64 u.hi] 245)).heap.size := Nat.le_trans hz1 (below_alloc (w.alloc (.cells #[.slice (some ⟨b, 0, none⟩) 1 1, .pointer none, .pointer none] 211)) (.cells #[.pointer (some ⟨g, u.at_, none⟩), .int .i64 u.s, .int .i64 u.lo, .int .i64 u.hi] 245)).size
 generalize ((w.alloc (.cells #[.slice (some ⟨b, 0, none⟩) 1 1, .pointer none, .pointer none] 211)).alloc (.cells #[.pointer (some ⟨g, u.at_, none⟩), .int .i64 u.s, .int .i64 u.lo, .int .i64 u.hi] 245)) = wa1 at *
 obtain ⟨e0, e1, e2, e3⟩ := hm1.c4
 obtain ⟨f1, f2, ku, b00, b01, b02, b03⟩ := FU.out _ hba1
 have hlt := hm1.lt
 have hgl : g < wa1.heap.size := by omega
 have hS : (fun w' => Below wa1.heap.size wa1 w') wa1.drew := (Below.refl _ _).drew
 refine wp_region_held_drew (S := (fun w' => Below wa1.heap.size wa1 w')) (by kernel_rfl) hS (fun _ => ?_)
 refine tD 0 (.slice A1 n1 c1) 17 rfl rfl hS (fun _ _ => by go_simp) ?_
 try simp only [Act.put, zA, zB, zC]
 refine tD 1 (.pointer (some ⟨w.heap.size + 1, 1, none⟩)) 18 rfl rfl hS (fun _ _ => by go_simp) ?_
 try simp only [Act.put, zA, zB, zC]
 refine tD 2 (.int .i64 u.s) 19 rfl rfl hS ?_ ?_
 ·rintro w' hbb
  have hc0 := cell_below e1 hlt hbb
  go_simp
 try simp only [Act.put, zA, zB, zC]
 refine tD 3 (.pointer (some ⟨w.heap.size + 1, 0, none⟩)) 20 rfl rfl hS (fun _ _ => by go_simp) ?_
 try simp only [Act.put, zA, zB, zC]
 refine tD 4 (.pointer (some ⟨g, u.at_, none⟩)) 21 rfl rfl hS ?_ ?_
 ·rintro w' hbb
  have hc0 := cell_below e0 hlt hbb
  go_simp
 try simp only [Act.put, zA, zB, zC]
 refine tD 5 (.pointer (some ⟨g, u.at_, none⟩)) 22 rfl rfl hS (fun _ _ => by go_simp) ?_
 try simp only [Act.put, zA, zB, zC]
 refine tD 6 (.int .i64 x) 23 rfl rfl hS ?_ ?_
 ·rintro w' hbb
  have hc0 := cell_below ku hgl hbb
  go_simp
 try simp only [Act.put, zA, zB, zC]
 clear e0 e1 e2 e3 f1 f2 ku b00 b01 b02 b03
 have hbd1 : Below (w.heap.size + 1) (w.alloc (.cells #[.slice (some ⟨b, 0, none⟩) 1 1, .pointer none, .pointer none] 211)) wa1.drew := hba1.drew
 have hod1 : Own wa1.drew base (.slice A1 n1 c1) n1 (l) := hoa1
 have hzd1 : w.heap.size + 1 ≤ wa1.drew.heap.size := hza1
 generalize wa1.drew = wd1 at *
 refine rD 7 rfl fun K hK => ?_
 go_simp
 refine hK.out _ _ (hS.trans ((below_alloc wd1 _).mono hS.size)) (fun hS7 => ?_)
 clear hK K
 try simp only [Act.put, zA, zB, zC]
 refine rD 8 rfl fun K hK => ?_
 go_simp
 go_at_call 154
 refine (put_lit u.s [x] hod1.rd (Nat.le_refl _) (by simp) (by omega)).mono ?_
 rw [qu.out]
 rintro e w2 ⟨B1, m1, d1, rfl, hp1, hbp1⟩
 refine hK.out _ _ (hS.trans (hbp1.mono hS.size)) (fun hS8 => ?_)
 clear hK K
 try simp only [Act.put, zA, zB, zC]
 refine tD 9 (.tuple #[.slice B1 m1 d1, .int .i64 0]) 16 rfl rfl hS8 (fun _ _ => by go_simp) ?_
 try simp only [Act.put, zA, zB, zC]
 refine tD 10 (.slice B1 m1 d1) 26 rfl rfl hS8 (fun _ _ => by go_simp) ?_
 try simp only [Act.put, zA, zB, zC]
 refine tD 11 (.int .i64 0) 27 rfl rfl hS8 (fun _ _ => by go_simp) ?_
 try simp only [Act.put, zA, zB, zC]
 refine tD 12 (.slice B1 m1 d1) 1 rfl rfl hS8 (fun _ _ => by go_simp) ?_
 try simp only [Act.put, zA, zB, zC]
 have hb2 := hbd1.trans (hbp1.mono hzd1)
 have ho2 : Own w2 base (.slice B1 m1 d1) m1 (l ++ dg s x) := hp1.lower (by omega)
 have hz2 : w.heap.size + 1 ≤ w2.heap.size := Nat.le_trans hzd1 hbp1.size
 have hn2 : m1 ≤ 14 := by have := ho2.len; simp only [List.length_append, dg_len] at this; omega
 clear hS hS7 hS8 hp1 hbp1
 refine wpAnyH_done (by kernel_rfl) ?_ _
 go_wp2_with fail
 obtain ⟨f1, f2, ku, b00, b01, b02, b03⟩ := FU.out _ hb2
 rw [rounds_succ]
 go_wp2_with fail
 go_ret
 exact ⟨B1, m1, d1, rfl, ho2, hbw0.trans (hb2.mono (by omega))⟩
theorem wr_2 {w : World} {base n1 c1 : Nat} {A1 : Option Addr} {l : List Int} (hb : Own w base (.slice A1 n1 c1) n1 l) (hbase : base ≤ w.heap.size) {lo g m : Nat} {A : Option Addr} {u v : NumV} (x y : Int) (s t : Nat) (hR : Rn w lo g A m [u, v]) (hg : g < w.heap.size) (hu : w.cell? ⟨g, u.at_, none⟩ = some (.int .i64 x)) (ku : u.s = (s : Nat)) (tu : s = 1 ∨ s = 2 ∨ s = 4) (bu : 0 ≤ x ∧ x < 2 ^ (8 * s)) (hv : w.cell? ⟨g, v.at_, none⟩ = some (.int .i64 y)) (kv : v.s = (t : Nat)) (tv : t = 1 ∨ t = 2 ∨ t = 4) (bv : 0 ≤ y ∧ y < 2 ^ (8 * t)) (hl : l.length ≤ 10) : Calls Tryz.prog 156 #[.agg #[.slice A m m, .pointer none, .pointer none], .slice A1 n1 c1] w (OwnOf base (((l ++ dg s x) ++ dg t y)) w) := by
 have hln := hb.len
 have hn1 : n1 ≤ 10 := by omega
 clear hln
 obtain ⟨hlm, _, hc⟩ := hR
 simp at hlm
 subst hlm
 obtain ⟨b, rfl, _, hbw, hc⟩ := hc (by omega)
 have qu := Kp.mk (fun l => show putP l u.s [x] = (l ++ dg s x, 0) by rw [ku]; exact putP_one l s tu x bu.1 bu.2)
 have qv := Kp.mk (fun l => show putP l v.s [y] = (l ++ dg t y, 0) by rw [kv]; exact putP_one l t tv y bv.1 bv.2)
 have hss : s ≤ 4 := by omega
 have hst : t ≤ 4 := by omega
 clear ku tu bu kv tv bv
 obtain ⟨a00, a01, a02, a03⟩ := hc 0 u rfl
 simp only [Nat.zero_mul, Nat.zero_add, Nat.one_mul, Nat.reduceAdd] at a00 a01 a02 a03
 obtain ⟨a10, a11, a12, a13⟩ := hc 1 v rfl
 simp only [Nat.zero_mul, Nat.zero_add, Nat.one_mul, Nat.reduceAdd] at a10 a11 a12 a13
 clear hc
 have hbw0 := below_alloc w (.cells #[.slice (some ⟨b, 0, none⟩) 2 2, .pointer none, .pointer none] 211)
 have hvb := Vb.new 211 w [.slice (some ⟨b, 0, none⟩) 2 2, .pointer none, .pointer none]
 have FU : Kp (∀ w', Below (w.heap.size + 1) (w.alloc (.cells #[.slice (some ⟨b, 0, none⟩) 2 2, .pointer none, .pointer none] 211)) w' → w'.cell? ⟨w.heap.size, 1, none⟩ = some (.pointer none) ∧ w'.cell? ⟨w.heap.size, 2, none⟩ = some (.pointer none) ∧ w'.cell? ⟨g, u.at_, none⟩ = some (.int .i64 x) ∧ w'.cell? ⟨g, v.at_, none⟩ = some (.int .i64 y) ∧ w'.cell? ⟨b, 0, none⟩ = some (.pointer (some ⟨g, u.at_, none⟩)) ∧ w'.cell? ⟨b, 1, none⟩ = some (.int .i64 u.s) ∧ w'.cell? ⟨b, 2, none⟩ = some (.int .i64 u.lo) ∧ w'.cell? ⟨b, 3, none⟩ = some (.int .i64 u.hi) ∧ w'.cell? ⟨b, 4, none⟩ = some (.pointer (some ⟨g, v.at_, none⟩)) ∧ w'.cell? ⟨b, 5, none⟩ = some (.int .i64 v.s) ∧ w'.cell? ⟨b, 6, none⟩ = some (.int .i64 v.lo) ∧ w'.cell? ⟨b, 7, none⟩ = some (.int .i64 v.hi)) := Kp.mk (fun w' hb0 => by have hbb := hbw0.trans (hb0.mono (by omega)); have hvv := hvb.below hb0 (by omega); exact ⟨hvv.cell 1 rfl, hvv.cell 2 rfl, cell_below hu hg hbb, cell_below hv hg hbb, cell_below a00 hbw hbb, cell_below a01 hbw hbb, cell_below a02 hbw hbb, cell_below a03 hbw hbb, cell_below a10 hbw hbb, cell_below a11 hbw hbb, cell_below a12 hbw hbb, cell_below a13 hbw hbb⟩)
 clear hu hv a00 a01 a02 a03 a10 a11 a12 a13
 have hb1 : Below (w.heap.size + 1) (w.alloc (.cells #[.slice (some ⟨b, 0, none⟩) 2 2, .pointer none, .pointer none] 211)) (w.alloc (.cells #[.slice (some ⟨b, 0, none⟩) 2 2, .pointer none, .pointer none] 211)) := Below.refl _ _
 have hz1 : w.heap.size + 1 ≤ (w.alloc (.cells #[.slice (some ⟨b, 0, none⟩) 2 2, .pointer none, .pointer none] 211)).heap.size := by simp
 have ho1 := hb.alloc (.cells #[.slice (some ⟨b, 0, none⟩) 2 2, .pointer none, .pointer none] 211)
 go_enter Tryz.func156, Tryz.ntmps156
 go_wp2_with fail
 refine wp_loop_rounds (2 + 1) ?_
 obtain ⟨f1, f2, ku, kv, b00, b01, b02, b03, b10, b11, b12, b13⟩ := FU.out _ hb1
 rw [rounds_succ]
 go_upto_region 4 with fail
 clear f1 f2 ku kv b00 b01 b02 b03 b10 b11 b12 b13
 have hm1 := Vb.new 245 (w.alloc (.cells #[.slice (some ⟨b, 0, none⟩) 2 2, .pointer none, .pointer none] 211)) [.pointer (some ⟨g, u.at_, none⟩), .int .i64 u.s, .int .i64 u.lo, .int .i64 u.hi]
 rw [alloc_size] at hm1
 have hba1 := hb1.trans ((below_alloc (w.alloc (.cells #[.slice (some ⟨b, 0, none⟩) 2 2, .pointer none, .pointer none] 211)) (.cells #[.pointer (some ⟨g, u.at_, none⟩), .int .i64 u.s, .int .i64 u.lo, .int .i64 u.hi] 245)).mono hz1)
 have hoa1 := ho1.alloc (.cells #[.pointer (some ⟨g, u.at_, none⟩), .int .i64 u.s, .int .i64 u.lo, .int .i64 u.hi] 245)
 have hza1 : w.heap.size + 1 ≤ ((w.alloc (.cells #[.slice (some ⟨b, 0, none⟩) 2 2, .pointer none, .pointer none] 211)).alloc (.cells #[.pointer (some ⟨g, u.at_, none⟩), .int .i64 u.s, .int .i64 u.lo, .int .i64 u.hi] 245)).heap.size := Nat.le_trans hz1 (below_alloc (w.alloc (.cells #[.slice (some ⟨b, 0, none⟩) 2 2, .pointer none, .pointer none] 211)) (.cells #[.pointer (some ⟨g, u.at_, none⟩), .int .i64 u.s, .int .i64 u.lo, .int .i64 u.hi] 245)).size
 generalize ((w.alloc (.cells #[.slice (some ⟨b, 0, none⟩) 2 2, .pointer none, .pointer none] 211)).alloc (.cells #[.pointer (some ⟨g, u.at_, none⟩), .int .i64 u.s, .int .i64 u.lo, .int .i64 u.hi] 245)) = wa1 at *
 obtain ⟨e0, e1, e2, e3⟩ := hm1.c4
 obtain ⟨f1, f2, ku, kv, b00, b01, b02, b03, b10, b11, b12, b13⟩ := FU.out _ hba1
 have hlt := hm1.lt
 have hgl : g < wa1.heap.size := by omega
 have hS : (fun w' => Below wa1.heap.size wa1 w') wa1.drew := (Below.refl _ _).drew
 refine wp_region_held_drew (S := (fun w' => Below wa1.heap.size wa1 w')) (by kernel_rfl) hS (fun _ => ?_)
 refine tD 0 (.slice A1 n1 c1) 17 rfl rfl hS (fun _ _ => by go_simp) ?_
 try simp only [Act.put, zA, zB, zC]
 refine tD 1 (.pointer (some ⟨w.heap.size + 1, 1, none⟩)) 18 rfl rfl hS (fun _ _ => by go_simp) ?_
 try simp only [Act.put, zA, zB, zC]
 refine tD 2 (.int .i64 u.s) 19 rfl rfl hS ?_ ?_
 ·rintro w' hbb
  have hc0 := cell_below e1 hlt hbb
  go_simp
 try simp only [Act.put, zA, zB, zC]
 refine tD 3 (.pointer (some ⟨w.heap.size + 1, 0, none⟩)) 20 rfl rfl hS (fun _ _ => by go_simp) ?_
 try simp only [Act.put, zA, zB, zC]
 refine tD 4 (.pointer (some ⟨g, u.at_, none⟩)) 21 rfl rfl hS ?_ ?_
 ·rintro w' hbb
  have hc0 := cell_below e0 hlt hbb
  go_simp
 try simp only [Act.put, zA, zB, zC]
 refine tD 5 (.pointer (some ⟨g, u.at_, none⟩)) 22 rfl rfl hS (fun _ _ => by go_simp) ?_
 try simp only [Act.put, zA, zB, zC]
 refine tD 6 (.int .i64 x) 23 rfl rfl hS ?_ ?_
 ·rintro w' hbb
  have hc0 := cell_below ku hgl hbb
  go_simp
 try simp only [Act.put, zA, zB, zC]
 clear e0 e1 e2 e3 f1 f2 ku kv b00 b01 b02 b03 b10 b11 b12 b13
 have hbd1 : Below (w.heap.size + 1) (w.alloc (.cells #[.slice (some ⟨b, 0, none⟩) 2 2, .pointer none, .pointer none] 211)) wa1.drew := hba1.drew
 have hod1 : Own wa1.drew base (.slice A1 n1 c1) n1 (l) := hoa1
 have hzd1 : w.heap.size + 1 ≤ wa1.drew.heap.size := hza1
 generalize wa1.drew = wd1 at *
 refine rD 7 rfl fun K hK => ?_
 go_simp
 refine hK.out _ _ (hS.trans ((below_alloc wd1 _).mono hS.size)) (fun hS7 => ?_)
 clear hK K
 try simp only [Act.put, zA, zB, zC]
 refine rD 8 rfl fun K hK => ?_
 go_simp
 go_at_call 154
 refine (put_lit u.s [x] hod1.rd (Nat.le_refl _) (by simp) (by omega)).mono ?_
 rw [qu.out]
 rintro e w2 ⟨B1, m1, d1, rfl, hp1, hbp1⟩
 refine hK.out _ _ (hS.trans (hbp1.mono hS.size)) (fun hS8 => ?_)
 clear hK K
 try simp only [Act.put, zA, zB, zC]
 refine tD 9 (.tuple #[.slice B1 m1 d1, .int .i64 0]) 16 rfl rfl hS8 (fun _ _ => by go_simp) ?_
 try simp only [Act.put, zA, zB, zC]
 refine tD 10 (.slice B1 m1 d1) 26 rfl rfl hS8 (fun _ _ => by go_simp) ?_
 try simp only [Act.put, zA, zB, zC]
 refine tD 11 (.int .i64 0) 27 rfl rfl hS8 (fun _ _ => by go_simp) ?_
 try simp only [Act.put, zA, zB, zC]
 refine tD 12 (.slice B1 m1 d1) 1 rfl rfl hS8 (fun _ _ => by go_simp) ?_
 try simp only [Act.put, zA, zB, zC]
 have hb2 := hbd1.trans (hbp1.mono hzd1)
 have ho2 : Own w2 base (.slice B1 m1 d1) m1 (l ++ dg s x) := hp1.lower (by omega)
 have hz2 : w.heap.size + 1 ≤ w2.heap.size := Nat.le_trans hzd1 hbp1.size
 have hn2 : m1 ≤ 14 := by have := ho2.len; simp only [List.length_append, dg_len] at this; omega
 clear hS hS7 hS8 hp1 hbp1
 refine wpAnyH_done (by kernel_rfl) ?_ _
 go_wp2_with fail
 obtain ⟨f1, f2, ku, kv, b00, b01, b02, b03, b10, b11, b12, b13⟩ := FU.out _ hb2
 rw [rounds_succ]
 go_upto_region 4 with fail
 clear f1 f2 ku kv b00 b01 b02 b03 b10 b11 b12 b13
 have hm2 := Vb.new 245 w2 [.pointer (some ⟨g, v.at_, none⟩), .int .i64 v.s, .int .i64 v.lo, .int .i64 v.hi]
 have hba2 := hb2.trans ((below_alloc w2 (.cells #[.pointer (some ⟨g, v.at_, none⟩), .int .i64 v.s, .int .i64 v.lo, .int .i64 v.hi] 245)).mono hz2)
 have hoa2 := ho2.alloc (.cells #[.pointer (some ⟨g, v.at_, none⟩), .int .i64 v.s, .int .i64 v.lo, .int .i64 v.hi] 245)
 have hza2 : w.heap.size + 1 ≤ (w2.alloc (.cells #[.pointer (some ⟨g, v.at_, none⟩), .int .i64 v.s, .int .i64 v.lo, .int .i64 v.hi] 245)).heap.size := Nat.le_trans hz2 (below_alloc w2 (.cells #[.pointer (some ⟨g, v.at_, none⟩), .int .i64 v.s, .int .i64 v.lo, .int .i64 v.hi] 245)).size
 generalize (w2.alloc (.cells #[.pointer (some ⟨g, v.at_, none⟩), .int .i64 v.s, .int .i64 v.lo, .int .i64 v.hi] 245)) = wa2 at *
 obtain ⟨e0, e1, e2, e3⟩ := hm2.c4
 obtain ⟨f1, f2, ku, kv, b00, b01, b02, b03, b10, b11, b12, b13⟩ := FU.out _ hba2
 have hlt := hm2.lt
 have hgl : g < wa2.heap.size := by omega
 have hS : (fun w' => Below wa2.heap.size wa2 w') wa2.drew := (Below.refl _ _).drew
 refine wp_region_held_drew (S := (fun w' => Below wa2.heap.size wa2 w')) (by kernel_rfl) hS (fun _ => ?_)
 refine tD 0 (.slice B1 m1 d1) 17 rfl rfl hS (fun _ _ => by go_simp) ?_
 try simp only [Act.put, zA, zB, zC]
 refine tD 1 (.pointer (some ⟨w2.heap.size, 1, none⟩)) 18 rfl rfl hS (fun _ _ => by go_simp) ?_
 try simp only [Act.put, zA, zB, zC]
 refine tD 2 (.int .i64 v.s) 19 rfl rfl hS ?_ ?_
 ·rintro w' hbb
  have hc0 := cell_below e1 hlt hbb
  go_simp
 try simp only [Act.put, zA, zB, zC]
 refine tD 3 (.pointer (some ⟨w2.heap.size, 0, none⟩)) 20 rfl rfl hS (fun _ _ => by go_simp) ?_
 try simp only [Act.put, zA, zB, zC]
 refine tD 4 (.pointer (some ⟨g, v.at_, none⟩)) 21 rfl rfl hS ?_ ?_
 ·rintro w' hbb
  have hc0 := cell_below e0 hlt hbb
  go_simp
 try simp only [Act.put, zA, zB, zC]
 refine tD 5 (.pointer (some ⟨g, v.at_, none⟩)) 22 rfl rfl hS (fun _ _ => by go_simp) ?_
 try simp only [Act.put, zA, zB, zC]
 refine tD 6 (.int .i64 y) 23 rfl rfl hS ?_ ?_
 ·rintro w' hbb
  have hc0 := cell_below kv hgl hbb
  go_simp
 try simp only [Act.put, zA, zB, zC]
 clear e0 e1 e2 e3 f1 f2 ku kv b00 b01 b02 b03 b10 b11 b12 b13
 have hbd2 : Below (w.heap.size + 1) (w.alloc (.cells #[.slice (some ⟨b, 0, none⟩) 2 2, .pointer none, .pointer none] 211)) wa2.drew := hba2.drew
 have hod2 : Own wa2.drew base (.slice B1 m1 d1) m1 ((l ++ dg s x)) := hoa2
 have hzd2 : w.heap.size + 1 ≤ wa2.drew.heap.size := hza2
 generalize wa2.drew = wd2 at *
 refine rD 7 rfl fun K hK => ?_
 go_simp
 refine hK.out _ _ (hS.trans ((below_alloc wd2 _).mono hS.size)) (fun hS7 => ?_)
 clear hK K
 try simp only [Act.put, zA, zB, zC]
 refine rD 8 rfl fun K hK => ?_
 go_simp
 go_at_call 154
 refine (put_lit v.s [y] hod2.rd (Nat.le_refl _) (by simp) (by omega)).mono ?_
 rw [qv.out]
 rintro e w3 ⟨B2, m2, d2, rfl, hp2, hbp2⟩
 refine hK.out _ _ (hS.trans (hbp2.mono hS.size)) (fun hS8 => ?_)
 clear hK K
 try simp only [Act.put, zA, zB, zC]
 refine tD 9 (.tuple #[.slice B2 m2 d2, .int .i64 0]) 16 rfl rfl hS8 (fun _ _ => by go_simp) ?_
 try simp only [Act.put, zA, zB, zC]
 refine tD 10 (.slice B2 m2 d2) 26 rfl rfl hS8 (fun _ _ => by go_simp) ?_
 try simp only [Act.put, zA, zB, zC]
 refine tD 11 (.int .i64 0) 27 rfl rfl hS8 (fun _ _ => by go_simp) ?_
 try simp only [Act.put, zA, zB, zC]
 refine tD 12 (.slice B2 m2 d2) 1 rfl rfl hS8 (fun _ _ => by go_simp) ?_
 try simp only [Act.put, zA, zB, zC]
 have hb3 := hbd2.trans (hbp2.mono hzd2)
 have ho3 : Own w3 base (.slice B2 m2 d2) m2 ((l ++ dg s x) ++ dg t y) := hp2.lower (by omega)
 have hz3 : w.heap.size + 1 ≤ w3.heap.size := Nat.le_trans hzd2 hbp2.size
 have hn3 : m2 ≤ 18 := by have := ho3.len; simp only [List.length_append, dg_len] at this; omega
 clear hS hS7 hS8 hp2 hbp2
 refine wpAnyH_done (by kernel_rfl) ?_ _
 go_wp2_with fail
 obtain ⟨f1, f2, ku, kv, b00, b01, b02, b03, b10, b11, b12, b13⟩ := FU.out _ hb3
 rw [rounds_succ]
 go_wp2_with fail
 go_ret
 exact ⟨B2, m2, d2, rfl, ho3, hbw0.trans (hb3.mono (by omega))⟩
section
variable {w : World} {base B lo g n c m n1 c1 : Nat} {S A A1 : Option Addr} {o : OrdV} {l : List Int}
theorem write_any (hb : Own w base (.slice A1 n1 c1) n1 l) (hbase : base ≤ w.heap.size) (hx : Vb 206 w g (ocl o (.slice S n c))) (h : Ro w B S n c o.r.os) (hB : B ≤ w.heap.size) (hR : Rn w lo g A m (numsOf o.k)) (ok : okOrd o) (h8 : u8M o.r.x) (hl : l.length ≤ 10) :
  Calls Tryz.prog 156 #[.agg #[.slice A m m, .pointer (ruP o.k g), .pointer (prP o.k g)], .slice A1 n1 c1] w (OwnOf base (l ++ restB o) w) := by
 obtain ⟨d0, d1, d2, d3, d4, d5, d6, d7, d8, d9, d10, d11, d12, d13, d14, d15, d16, d17, d18, d19, d20⟩ := hx.ord
 have hg := hx.lt
 obtain ⟨on, our, opr⟩ := ok
 unfold okNM at on
 unfold okRu at our
 unfold okPr at opr
 simp only [within] at on
 unfold ruP prP
 by_cases h2 : o.k = 2 ∨ o.k = 3
 ·have hn : numsOf o.k = [] := by unfold numsOf; rw [if_neg (by omega), if_neg (by omega), if_neg (by omega), if_neg (by omega), if_neg (by omega)]
  rw [hn] at hR
  have hm := hR.1
  simp at hm
  subst hm
  rw [if_pos h2] at our
  rw [if_pos h2, if_neg (by omega), restB_r h2]
  exact wr_rule hb hbase A hx h hB our h8 hl
 rw [if_neg h2]
 by_cases h8k : o.k = 8
 ·have hn : numsOf o.k = [] := by rw [h8k]; rfl
  rw [hn] at hR
  have hm := hR.1
  simp at hm
  subst hm
  rw [if_pos h8k] at opr
  rw [if_pos h8k, restB_8 h8k]
  exact wr_link hb hbase A hx opr.1 hl
 rw [if_neg h8k]
 by_cases h4k : o.k = 4
 ·rw [h4k] at hR
  rw [restB_4 h4k]
  exact wr_1 hb hbase o.n 1 hR hg d1 rfl (by omega) ⟨by omega, by omega⟩ hl
 by_cases h5k : o.k = 5
 ·rw [h5k] at hR
  rw [restB_5 h5k, ← List.append_assoc]
  exact wr_2 hb hbase o.n o.m 1 2 hR hg d1 rfl (by omega) ⟨by omega, by omega⟩ d2 rfl (by omega) ⟨by omega, by omega⟩ hl
 by_cases h6k : o.k = 6
 ·rw [h6k] at hR
  rw [restB_6 h6k]
  exact wr_1 hb hbase o.n 4 hR hg d1 rfl (by omega) ⟨by omega, by omega⟩ hl
 by_cases h7k : o.k = 7
 ·rw [h7k] at hR
  rw [restB_7 h7k, ← List.append_assoc]
  exact wr_2 hb hbase o.n o.m 4 2 hR hg d1 rfl (by omega) ⟨by omega, by omega⟩ d2 rfl (by omega) ⟨by omega, by omega⟩ hl
 by_cases h9k : o.k = 9
 ·rw [h9k] at hR
  rw [restB_9 h9k, ← List.append_assoc]
  exact wr_2 hb hbase o.n o.m 1 1 hR hg d1 rfl (by omega) ⟨by omega, by omega⟩ d2 rfl (by omega) ⟨by omega, by omega⟩ hl
 have hn : numsOf o.k = [] := by unfold numsOf; rw [if_neg (by omega), if_neg (by omega), if_neg (by omega), if_neg (by omega), if_neg (by omega)]
 rw [hn] at hR
 have hm := hR.1
 simp at hm
 subst hm
 rw [restB_1 (by omega), List.append_nil]
 exact wr_none hb hbase A
end
theorem orderBytes_any {w : World} {B n c : Nat} {A : Option Addr} (o : OrdV) (h : Ro w B A n c o.r.os) (hB : B ≤ w.heap.size) (h8 : u8M o.r.x) : Calls Tryz.prog 108 #[.agg #[.int .i64 o.k, .int .i64 o.n, .int .i64 o.m, .int .i64 o.r.k, .int .i64 o.r.pr, .int .i64 o.r.to, .int .i64 o.r.po, .int .i64 o.r.x.v, .int .i64 o.r.x.m, .int .u8 o.r.x.b0, .int .u8 o.r.x.b1, .int .u8 o.r.x.b2, .int .u8 o.r.x.i0, .int .u8 o.r.x.i1, .int .u8 o.r.x.i2, .slice A n c, .int .i64 o.f, .int .i64 o.p, .int .i64 o.t, .int .i64 o.q, .int .i64 o.z]] w (PairOf (bytesO o).1 (bytesO o).2 w) := by
 by_cases ok : okOrd o
 ·have hc := Kp.mk (checkO_yes ((okOrd_parts o).1 ok))
  have hp := Kp.mk (show bytesO o = (ordB o, 0) from if_pos ok)
  have hk := okNM_k ok.1
  have hq := Kp.mk (put_b1 [] o.k (by omega))
  have HOK := Kp.mk ok
  clear hk ok
  have hba := below_alloc w (.cells #[.int .i64 o.k, .int .i64 o.n, .int .i64 o.m, .int .i64 o.r.k, .int .i64 o.r.pr, .int .i64 o.r.to, .int .i64 o.r.po, .int .i64 o.r.x.v, .int .i64 o.r.x.m, .int .u8 o.r.x.b0, .int .u8 o.r.x.b1, .int .u8 o.r.x.b2, .int .u8 o.r.x.i0, .int .u8 o.r.x.i1, .int .u8 o.r.x.i2, .slice A n c, .int .i64 o.f, .int .i64 o.p, .int .i64 o.t, .int .i64 o.q, .int .i64 o.z] 51)
  have hza : w.heap.size < (w.alloc (.cells #[.int .i64 o.k, .int .i64 o.n, .int .i64 o.m, .int .i64 o.r.k, .int .i64 o.r.pr, .int .i64 o.r.to, .int .i64 o.r.po, .int .i64 o.r.x.v, .int .i64 o.r.x.m, .int .u8 o.r.x.b0, .int .u8 o.r.x.b1, .int .u8 o.r.x.b2, .int .u8 o.r.x.i0, .int .u8 o.r.x.i1, .int .u8 o.r.x.i2, .slice A n c, .int .i64 o.f, .int .i64 o.p, .int .i64 o.t, .int .i64 o.q, .int .i64 o.z] 51)).heap.size := by simp
  have hxa : Vb 51 (w.alloc (.cells #[.int .i64 o.k, .int .i64 o.n, .int .i64 o.m, .int .i64 o.r.k, .int .i64 o.r.pr, .int .i64 o.r.to, .int .i64 o.r.po, .int .i64 o.r.x.v, .int .i64 o.r.x.m, .int .u8 o.r.x.b0, .int .u8 o.r.x.b1, .int .u8 o.r.x.b2, .int .u8 o.r.x.i0, .int .u8 o.r.x.i1, .int .u8 o.r.x.i2, .slice A n c, .int .i64 o.f, .int .i64 o.p, .int .i64 o.t, .int .i64 o.q, .int .i64 o.z] 51)) w.heap.size (ocl o (.slice A n c)) := Vb.new 51 w (ocl o (.slice A n c))
  have ha := h.below' hba hB
  go_enter Tryz.func108, Tryz.ntmps108
  go_upto_region 1 with fail
  generalize (w.alloc (.cells #[.int .i64 o.k, .int .i64 o.n, .int .i64 o.m, .int .i64 o.r.k, .int .i64 o.r.pr, .int .i64 o.r.to, .int .i64 o.r.po, .int .i64 o.r.x.v, .int .i64 o.r.x.m, .int .u8 o.r.x.b0, .int .u8 o.r.x.b1, .int .u8 o.r.x.b2, .int .u8 o.r.x.i0, .int .u8 o.r.x.i1, .int .u8 o.r.x.i2, .slice A n c, .int .i64 o.f, .int .i64 o.p, .int .i64 o.t, .int .i64 o.q, .int .i64 o.z] 51)) = wa at *
  go_wp2_with (refine wpList_load_vb (vs := ocl o (.slice A n c)) rfl (.tmp 1) rfl rfl hxa rfl agg_order ?_)
  refine (orderCheck_any o ha (by omega)).mono ?_
  rw [hc.out]
  rintro e w1 ⟨rfl, hb1⟩
  have hz1 := hb1.size
  have hT1 := hba.trans (hb1.mono (by omega))
  have hx1 := hxa.below hb1 (by omega)
  have h1 := ha.below' hb1 (by omega)
  obtain ⟨d0, d1, d2, d3, d4, d5, d6, d7, d8, d9, d10, d11, d12, d13, d14, d15, d16, d17, d18, d19, d20⟩ := hx1.ord
  clear hxa hba hb1 ha
  go_wp2_with fail
  refine (put_lit 1 [o.k] (Rd.nil .u8 w1 0) (by omega) (by simp) (by simp)).mono ?_
  rw [hq.out]
  rintro e w2 ⟨A2, n2, c2, rfl, ho2, hb2⟩
  have hx2 := hx1.below hb2 (by omega)
  have h2 := h1.below' hb2 (by omega)
  have hz2 := hb2.size
  have hT2 := hT1.trans (hb2.mono (by omega))
  clear d0 d1 d2 d3 d4 d5 d6 d7 d8 d9 d10 d11 d12 d13 d14 d15 d16 d17 d18 d19 d20 hx1 hb2 hT1 h1
  go_upto_region 6 with (first | (refine wpList_load_vb (vs := ocl o (.slice A n c)) rfl (.tmp 1) rfl rfl hx2 rfl agg_order ?_) | (refine wpList_store_new (vs := ocl o (.slice A n c)) rfl (.tmp 7) (.tmp 22) rfl rfl rfl rfl rfl rfl agg_own rfl ?_; intro w3 hx3 hb3 hz3))
  have h3 := h2.below' hb3 (by omega)
  have ho3 := (ho2.keep_below hb3).lower (b := w.heap.size) (by omega)
  have hT3 := hT2.trans (hb3.mono (by omega))
  have hz3' : w2.heap.size < w3.heap.size := by omega
  clear hz3 hx2 ho2 hb3 h2 hT2
  go_wp2_with fail
  refine (partsOf_any w2.heap.size w3 o.k hx3.ord.1).mono ?_
  rintro e w4 ⟨Q, m, rfl, hR4, hb4⟩
  have hx4 := hx3.below hb4 (by omega)
  have h4 := h3.below' hb4 (by omega)
  have hz4 := hb4.size
  have ho4 := ho3.keep_below hb4
  have hT4 := hT3.trans (hb4.mono (by omega))
  have hbp := below_alloc w4 (.cells #[.slice Q m m, .pointer (ruP o.k w2.heap.size), .pointer (prP o.k w2.heap.size)] 211)
  have hv5 := Vb.new 211 w4 [.slice Q m m, .pointer (ruP o.k w2.heap.size), .pointer (prP o.k w2.heap.size)]
  have hx5 := hx4.below hbp (by omega)
  have h5 := h4.below' hbp (by omega)
  have hR5 := hR4.below hbp
  have ho5 := ho4.keep_below hbp
  have hT5 := hT4.trans (hbp.mono (by omega))
  have hz5 : w4.heap.size < (w4.alloc (.cells #[.slice Q m m, .pointer (ruP o.k w2.heap.size), .pointer (prP o.k w2.heap.size)] 211)).heap.size := by simp
  go_upto_region 7 with fail
  generalize w4.alloc (.cells #[.slice Q m m, .pointer (ruP o.k w2.heap.size), .pointer (prP o.k w2.heap.size)] 211) = w5 at *
  obtain ⟨d0, d1, d2⟩ := hv5.c3
  go_wp2_with fail
  refine (write_any ho5 (by omega) hx5 h5 (by omega) hR5 HOK.out h8 (by simp [dg_len])).mono ?_
  rintro e w6 ⟨A6, n6, c6, rfl, ho6, hb6⟩
  go_wp2_with fail
  rw [hp.out]
  go_ret2
  exact ⟨A6, n6, c6, rfl, ho6, hT5.trans (hb6.mono (by omega))⟩
 ·have hc := Kp.mk (show checkO o = 2 from if_neg ok)
  have hp := Kp.mk (show bytesO o = ([], 2) from if_neg ok)
  clear ok
  have hba := below_alloc w (.cells #[.int .i64 o.k, .int .i64 o.n, .int .i64 o.m, .int .i64 o.r.k, .int .i64 o.r.pr, .int .i64 o.r.to, .int .i64 o.r.po, .int .i64 o.r.x.v, .int .i64 o.r.x.m, .int .u8 o.r.x.b0, .int .u8 o.r.x.b1, .int .u8 o.r.x.b2, .int .u8 o.r.x.i0, .int .u8 o.r.x.i1, .int .u8 o.r.x.i2, .slice A n c, .int .i64 o.f, .int .i64 o.p, .int .i64 o.t, .int .i64 o.q, .int .i64 o.z] 51)
  have hza : w.heap.size < (w.alloc (.cells #[.int .i64 o.k, .int .i64 o.n, .int .i64 o.m, .int .i64 o.r.k, .int .i64 o.r.pr, .int .i64 o.r.to, .int .i64 o.r.po, .int .i64 o.r.x.v, .int .i64 o.r.x.m, .int .u8 o.r.x.b0, .int .u8 o.r.x.b1, .int .u8 o.r.x.b2, .int .u8 o.r.x.i0, .int .u8 o.r.x.i1, .int .u8 o.r.x.i2, .slice A n c, .int .i64 o.f, .int .i64 o.p, .int .i64 o.t, .int .i64 o.q, .int .i64 o.z] 51)).heap.size := by simp
  have hxa : Vb 51 (w.alloc (.cells #[.int .i64 o.k, .int .i64 o.n, .int .i64 o.m, .int .i64 o.r.k, .int .i64 o.r.pr, .int .i64 o.r.to, .int .i64 o.r.po, .int .i64 o.r.x.v, .int .i64 o.r.x.m, .int .u8 o.r.x.b0, .int .u8 o.r.x.b1, .int .u8 o.r.x.b2, .int .u8 o.r.x.i0, .int .u8 o.r.x.i1, .int .u8 o.r.x.i2, .slice A n c, .int .i64 o.f, .int .i64 o.p, .int .i64 o.t, .int .i64 o.q, .int .i64 o.z] 51)) w.heap.size (ocl o (.slice A n c)) := Vb.new 51 w (ocl o (.slice A n c))
  have ha := h.below' hba hB
  go_enter Tryz.func108, Tryz.ntmps108
  go_upto_region 1 with fail
  generalize (w.alloc (.cells #[.int .i64 o.k, .int .i64 o.n, .int .i64 o.m, .int .i64 o.r.k, .int .i64 o.r.pr, .int .i64 o.r.to, .int .i64 o.r.po, .int .i64 o.r.x.v, .int .i64 o.r.x.m, .int .u8 o.r.x.b0, .int .u8 o.r.x.b1, .int .u8 o.r.x.b2, .int .u8 o.r.x.i0, .int .u8 o.r.x.i1, .int .u8 o.r.x.i2, .slice A n c, .int .i64 o.f, .int .i64 o.p, .int .i64 o.t, .int .i64 o.q, .int .i64 o.z] 51)) = wa at *
  go_wp2_with (refine wpList_load_vb (vs := ocl o (.slice A n c)) rfl (.tmp 1) rfl rfl hxa rfl agg_order ?_)
  refine (orderCheck_any o ha (by omega)).mono ?_
  rw [hc.out]
  rintro e w1 ⟨rfl, hb1⟩
  have hz1 := hb1.size
  have hT1 := hba.trans (hb1.mono (by omega))
  go_wp2_with fail
  rw [hp.out]
  go_ret2
  exact PairOf.nil 2 w hT1
end Go.Proofs.YtnoflfbcgbhipaaGreat.Oct
