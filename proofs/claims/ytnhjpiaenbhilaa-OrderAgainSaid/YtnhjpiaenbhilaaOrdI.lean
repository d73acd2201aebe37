/- Contracts of layer 6: an order's bytes, the program. -/
import Derived.Test.YtnhjpiaenbhilaaOrdH
import Derived.Test.YtnhjpiaenbhilaaOrdF
import Derived.Test.YtnhjpiaenbhilaaRgn
namespace Go.Proofs.Ytnhjpiaenbhilaa.Oct
open Go.RowKit
set_option linter.unusedVariables false
set_option linter.unusedSimpArgs false

/-- Bytes behind others, owned from base on. -/
def OwnOf (base : Nat) (l : List Int) (w : World) (e : Ending) (w' : World) : Prop :=
  ∃ A n c, e = .returned (.slice A n c) ∧ Own w' base (.slice A n c) n l ∧ Below w.heap.size w w'
theorem Own.keep_below {w w' : World} {base n : Nat} {v : Value} {l : List Int} (h : Own w base v n l) (hb : Below w.heap.size w w') : Own w' base v n l := h.below hb (Nat.le_refl _)

set_option maxRecDepth 100000 in
set_option maxHeartbeats 1600000 in
theorem wr_none {w : World} {base n1 c1 : Nat} {A1 : Option Addr} {l : List Int} (hb : Own w base (.slice A1 n1 c1) n1 l) (hbase : base ≤ w.heap.size) (A : Option Addr) : Calls Try.prog 27 #[.agg #[.slice A 0 0, .pointer none, .pointer none], .slice A1 n1 c1] w (OwnOf base (l) w) := by
  have hb1 := below_alloc w (.cells #[.slice A 0 0, .pointer none, .pointer none] 58)
  go_enter Try.func27, Try.ntmps27
  go_wp2_with fail
  refine wp_loop_rounds (0 + 1) ?_
  rw [rounds_succ]
  go_wp2_with fail
  go_ret
  exact ⟨A1, n1, c1, rfl, hb.alloc _, hb1⟩
set_option maxRecDepth 100000 in
set_option maxHeartbeats 1600000 in
theorem wr_rule {w : World} {base n1 c1 : Nat} {A1 : Option Addr} {l : List Int} (hb : Own w base (.slice A1 n1 c1) n1 l) (hbase : base ≤ w.heap.size) (A : Option Addr) {g B n c : Nat} {S : Option Addr} {o : OrdV} (hx : Vb 53 w g (ocl o (.slice S n c))) (h : Ro w B S n c o.r.os) (hB : B ≤ w.heap.size) (ok : okR o.r) (h8 : u8M o.r.x) (hl : l.length ≤ 10) : Calls Try.prog 27 #[.agg #[.slice A 0 0, .pointer (some ⟨g, 3, none⟩), .pointer none], .slice A1 n1 c1] w (OwnOf base (l ++ ruleB o.r) w) := by
  have hb1 := below_alloc w (.cells #[.slice A 0 0, .pointer (some ⟨g, 3, none⟩), .pointer none] 58)
  have hx1 := hx.alloc (.cells #[.slice A 0 0, .pointer (some ⟨g, 3, none⟩), .pointer none] 58)
  have ho1 := hb.alloc (.cells #[.slice A 0 0, .pointer (some ⟨g, 3, none⟩), .pointer none] 58)
  have h1 := h.below' hb1 hB
  have hv1 := Vb.new 58 w [.slice A 0 0, .pointer (some ⟨g, 3, none⟩), .pointer none]
  have hz1 : w.heap.size < (w.alloc (.cells #[.slice A 0 0, .pointer (some ⟨g, 3, none⟩), .pointer none] 58)).heap.size := by simp
  go_enter Try.func27, Try.ntmps27
  go_wp2_with fail
  refine wp_loop_rounds (0 + 1) ?_
  rw [rounds_succ]
  go_upto_region 7 with fail
  generalize w.alloc (.cells #[.slice A 0 0, .pointer (some ⟨g, 3, none⟩), .pointer none] 58) = wa at *
  obtain ⟨f0, f1, f2⟩ := hv1.c3
  go_wp2_with (refine wpList_load_vb (vs := rcl o.r (.slice S n c)) rfl (.tmp 35) rfl rfl hx1 rfl agg_rule ?_)
  refine (writeRule_any o.r ho1.rd (Nat.le_refl _) h1 (by omega) ok h8 hl).mono ?_
  rintro e w2 ⟨A2, n2, c2, rfl, ho2, hb2⟩
  have hv2 := hv1.below hb2 (by omega)
  have hz2 := hb2.size
  clear f0 f1 f2
  obtain ⟨f0, f1, f2⟩ := hv2.c3
  go_wp2_with fail
  go_ret
  exact ⟨A2, n2, c2, rfl, ho2.lower (by omega), hb1.trans (hb2.mono (by omega))⟩
set_option maxRecDepth 100000 in
set_option maxHeartbeats 1600000 in
theorem wr_link {w : World} {base n1 c1 : Nat} {A1 : Option Addr} {l : List Int} (hb : Own w base (.slice A1 n1 c1) n1 l) (hbase : base ≤ w.heap.size) (A : Option Addr) {g : Nat} {S : Value} {o : OrdV} (hx : Vb 53 w g (ocl o S)) (ok : okQ o.f o.p o.t o.q o.z) (hl : l.length ≤ 10) : Calls Try.prog 27 #[.agg #[.slice A 0 0, .pointer none, .pointer (some ⟨g, 16, none⟩)], .slice A1 n1 c1] w (OwnOf base (l ++ (dg 2 9 ++ frm 2 (qB o.f o.p o.t o.q o.z))) w) := by
  have hb1 := below_alloc w (.cells #[.slice A 0 0, .pointer none, .pointer (some ⟨g, 16, none⟩)] 58)
  have hx1 := hx.alloc (.cells #[.slice A 0 0, .pointer none, .pointer (some ⟨g, 16, none⟩)] 58)
  have ho1 := hb.alloc (.cells #[.slice A 0 0, .pointer none, .pointer (some ⟨g, 16, none⟩)] 58)
  have hv1 := Vb.new 58 w [.slice A 0 0, .pointer none, .pointer (some ⟨g, 16, none⟩)]
  have hz1 : w.heap.size < (w.alloc (.cells #[.slice A 0 0, .pointer none, .pointer (some ⟨g, 16, none⟩)] 58)).heap.size := by simp
  have e9 : (frm 2 (qB o.f o.p o.t o.q o.z)).length = 9 := by rw [frm_len, qB_len]
  have hq1 := Kp.mk (show bytesQ o.f o.p o.t o.q o.z = (frm 2 (qB o.f o.p o.t o.q o.z), 0) from if_pos ok)
  have hq2 := Kp.mk (show textP l (frm 2 (qB o.f o.p o.t o.q o.z)) = (l ++ (dg 2 9 ++ frm 2 (qB o.f o.p o.t o.q o.z)), 0) by rw [textP_ok _ _ (by omega), e9, List.append_assoc]; rfl)
  have H9 := Kp.mk e9
  have hln := hb.len
  have hn1 : n1 ≤ 10 := by omega
  clear e9 hln
  go_enter Try.func27, Try.ntmps27
  go_wp2_with fail
  refine wp_loop_rounds (0 + 1) ?_
  rw [rounds_succ]
  go_upto_region 9 with fail
  generalize w.alloc (.cells #[.slice A 0 0, .pointer none, .pointer (some ⟨g, 16, none⟩)] 58) = wa at *
  obtain ⟨f0, f1, f2⟩ := hv1.c3
  go_wp2_with (refine wpList_load_vb (vs := [.int .i64 o.f, .int .i64 o.p, .int .i64 o.t, .int .i64 o.q, .int .i64 o.z]) rfl (.tmp 44) rfl rfl hx1 rfl agg_probe ?_)
  refine (bytes_any o.f o.p o.t o.q o.z wa).mono ?_
  rw [hq1.out]
  rintro e w2 ⟨A2, n2, c2, rfl, ho2, hb2⟩
  have hz2 := hb2.size
  have ho12 := ho1.keep_below hb2
  have hn2 : n2 ≤ 10 := by have := ho2.len; have := H9.out; simp only at *; omega
  go_wp2_with fail
  refine (text_any ho12.rd ho2.rd (Nat.le_refl _) (Nat.le_refl _) (by omega)).mono ?_
  rw [hq2.out]
  rintro e w3 ⟨A3, n3, c3, rfl, ho3, hb3⟩
  have hz3 := hb3.size
  go_wp2_with fail
  go_ret
  exact ⟨A3, n3, c3, rfl, ho3.lower (by omega), hb1.trans ((hb2.mono (by omega)).trans (hb3.mono (by omega)))⟩
set_option maxRecDepth 100000 in
set_option maxHeartbeats 1600000 in
theorem wr_1 {w : World} {base n1 c1 : Nat} {A1 : Option Addr} {l : List Int} (hb : Own w base (.slice A1 n1 c1) n1 l) (hbase : base ≤ w.heap.size) {lo g m : Nat} {A : Option Addr} {u : NumV} (x : Int) (s : Nat) (hR : Rn w lo g A m [u]) (hg : g < w.heap.size) (hu : w.cell? ⟨g, u.at_, none⟩ = some (.int .i64 x)) (ku : u.s = (s : Nat)) (tu : s = 1 ∨ s = 2 ∨ s = 4) (bu : 0 ≤ x ∧ x < 2 ^ (8 * s)) (hl : l.length ≤ 10) : Calls Try.prog 27 #[.agg #[.slice A m m, .pointer none, .pointer none], .slice A1 n1 c1] w (OwnOf base ((l ++ dg s x)) w) := by
  have hln := hb.len
  have hn1 : n1 ≤ 10 := by omega
  clear hln
  obtain ⟨hlm, _, hc⟩ := hR
  simp at hlm
  subst hlm
  obtain ⟨b, rfl, _, hbw, hc⟩ := hc (by omega)
  have qu := Kp.mk (fun l => show putP l u.s [x] = (l ++ dg s x, 0) by rw [ku]; exact putP_one l s tu x bu.1 bu.2)
  have hss : s ≤ 4 := by omega
  clear ku tu bu
  obtain ⟨a00, a01, a02, a03⟩ := hc 0 u rfl
  simp only [Nat.zero_mul, Nat.zero_add, Nat.one_mul, Nat.reduceAdd] at a00 a01 a02 a03
  clear hc
  have hbw0 := below_alloc w (.cells #[.slice (some ⟨b, 0, none⟩) 1 1, .pointer none, .pointer none] 58)
  have hvb := Vb.new 58 w [.slice (some ⟨b, 0, none⟩) 1 1, .pointer none, .pointer none]
  have FU : Kp (∀ w', Below (w.heap.size + 1) (w.alloc (.cells #[.slice (some ⟨b, 0, none⟩) 1 1, .pointer none, .pointer none] 58)) w' → w'.cell? ⟨w.heap.size, 1, none⟩ = some (.pointer none) ∧ w'.cell? ⟨w.heap.size, 2, none⟩ = some (.pointer none) ∧ w'.cell? ⟨g, u.at_, none⟩ = some (.int .i64 x) ∧ w'.cell? ⟨b, 0, none⟩ = some (.pointer (some ⟨g, u.at_, none⟩)) ∧ w'.cell? ⟨b, 1, none⟩ = some (.int .i64 u.s) ∧ w'.cell? ⟨b, 2, none⟩ = some (.int .i64 u.lo) ∧ w'.cell? ⟨b, 3, none⟩ = some (.int .i64 u.hi)) := Kp.mk (fun w' hb0 => by have hbb := hbw0.trans (hb0.mono (by omega)); have hvv := hvb.below hb0 (by omega); exact ⟨hvv.cell 1 rfl, hvv.cell 2 rfl, cell_below hu hg hbb, cell_below a00 hbw hbb, cell_below a01 hbw hbb, cell_below a02 hbw hbb, cell_below a03 hbw hbb⟩)
  clear hu a00 a01 a02 a03
  have hb1 : Below (w.heap.size + 1) (w.alloc (.cells #[.slice (some ⟨b, 0, none⟩) 1 1, .pointer none, .pointer none] 58)) (w.alloc (.cells #[.slice (some ⟨b, 0, none⟩) 1 1, .pointer none, .pointer none] 58)) := Below.refl _ _
  have hz1 : w.heap.size + 1 ≤ (w.alloc (.cells #[.slice (some ⟨b, 0, none⟩) 1 1, .pointer none, .pointer none] 58)).heap.size := by simp
  have ho1 := hb.alloc (.cells #[.slice (some ⟨b, 0, none⟩) 1 1, .pointer none, .pointer none] 58)
  go_enter Try.func27, Try.ntmps27
  go_wp2_with fail
  refine wp_loop_rounds (1 + 1) ?_
  obtain ⟨f1, f2, ku, b00, b01, b02, b03⟩ := FU.out _ hb1
  rw [rounds_succ]
  go_upto_region 4 with fail
  clear f1 f2 ku b00 b01 b02 b03
  have hm1 := Vb.new 95 (w.alloc (.cells #[.slice (some ⟨b, 0, none⟩) 1 1, .pointer none, .pointer none] 58)) [.pointer (some ⟨g, u.at_, none⟩), .int .i64 u.s, .int .i64 u.lo, .int .i64 u.hi]
  rw [alloc_size] at hm1
  have hba1 := hb1.trans ((below_alloc (w.alloc (.cells #[.slice (some ⟨b, 0, none⟩) 1 1, .pointer none, .pointer none] 58)) (.cells #[.pointer (some ⟨g, u.at_, none⟩), .int .i64 u.s, .int .i64 u.lo, .int .i64 u.hi] 95)).mono hz1)
  have hoa1 := ho1.alloc (.cells #[.pointer (some ⟨g, u.at_, none⟩), .int .i64 u.s, .int .i64 u.lo, .int .i64 u.hi] 95)
  have hza1 : w.heap.size + 1 ≤ ((w.alloc (.cells #[.slice (some ⟨b, 0, none⟩) 1 1, .pointer none, .pointer none] 58)).alloc (.cells #[.pointer (some ⟨g, u.at_, none⟩), .int .i64 u.s, .int .i64 u.lo, .int .i64 u.hi] 95)).heap.size := Nat.le_trans hz1 (below_alloc (w.alloc (.cells #[.slice (some ⟨b, 0, none⟩) 1 1, .pointer none, .pointer none] 58)) (.cells #[.pointer (some ⟨g, u.at_, none⟩), .int .i64 u.s, .int .i64 u.lo, .int .i64 u.hi] 95)).size
  generalize ((w.alloc (.cells #[.slice (some ⟨b, 0, none⟩) 1 1, .pointer none, .pointer none] 58)).alloc (.cells #[.pointer (some ⟨g, u.at_, none⟩), .int .i64 u.s, .int .i64 u.lo, .int .i64 u.hi] 95)) = wa1 at *
  obtain ⟨e0, e1, e2, e3⟩ := hm1.c4
  obtain ⟨f1, f2, ku, b00, b01, b02, b03⟩ := FU.out _ hba1
  have hlt := hm1.lt
  have hgl : g < wa1.heap.size := by omega
  have hS : (fun w' => Below wa1.heap.size wa1 w') wa1.drew := (Below.refl _ _).drew
  refine wp_region_held_drew (S := (fun w' => Below wa1.heap.size wa1 w')) (by kernel_rfl) hS (fun _ => ?_)
  refine takeD (i := 0) (v := .slice A1 n1 c1) (some 17) rfl rfl (by kernel_rfl) (by kernel_rfl) (by kernel_rfl) (fun _ _ _ h => h) (Or.inl ⟨by rfl, ?_⟩) hS ?_
  · rintro w' _
    go_simp
  try simp only [Act.put, List.setIfInBounds_toArray, List.set_cons_zero, List.set_cons_succ]
  refine takeD (i := 1) (v := .pointer (some ⟨w.heap.size + 1, 1, none⟩)) (some 18) rfl rfl (by kernel_rfl) (by kernel_rfl) (by kernel_rfl) (fun _ _ _ h => h) (Or.inl ⟨by rfl, ?_⟩) hS ?_
  · rintro w' _
    go_simp
  try simp only [Act.put, List.setIfInBounds_toArray, List.set_cons_zero, List.set_cons_succ]
  refine takeD (i := 2) (v := .int .i64 u.s) (some 19) rfl rfl (by kernel_rfl) (by kernel_rfl) (by kernel_rfl) (fun _ _ _ h => h) (Or.inl ⟨by rfl, ?_⟩) hS ?_
  · rintro w' hbb
    have hc0 := cell_below e1 hlt hbb
    go_simp
  try simp only [Act.put, List.setIfInBounds_toArray, List.set_cons_zero, List.set_cons_succ]
  refine takeD (i := 3) (v := .pointer (some ⟨w.heap.size + 1, 0, none⟩)) (some 20) rfl rfl (by kernel_rfl) (by kernel_rfl) (by kernel_rfl) (fun _ _ _ h => h) (Or.inl ⟨by rfl, ?_⟩) hS ?_
  · rintro w' _
    go_simp
  try simp only [Act.put, List.setIfInBounds_toArray, List.set_cons_zero, List.set_cons_succ]
  refine takeD (i := 4) (v := .pointer (some ⟨g, u.at_, none⟩)) (some 21) rfl rfl (by kernel_rfl) (by kernel_rfl) (by kernel_rfl) (fun _ _ _ h => h) (Or.inl ⟨by rfl, ?_⟩) hS ?_
  · rintro w' hbb
    have hc0 := cell_below e0 hlt hbb
    go_simp
  try simp only [Act.put, List.setIfInBounds_toArray, List.set_cons_zero, List.set_cons_succ]
  refine takeD (i := 5) (v := .pointer (some ⟨g, u.at_, none⟩)) (some 22) rfl rfl (by kernel_rfl) (by kernel_rfl) (by kernel_rfl) (fun _ _ _ h => h) (Or.inl ⟨by rfl, ?_⟩) hS ?_
  · rintro w' _
    go_simp
  try simp only [Act.put, List.setIfInBounds_toArray, List.set_cons_zero, List.set_cons_succ]
  refine takeD (i := 6) (v := .int .i64 x) (some 23) rfl rfl (by kernel_rfl) (by kernel_rfl) (by kernel_rfl) (fun _ _ _ h => h) (Or.inl ⟨by rfl, ?_⟩) hS ?_
  · rintro w' hbb
    have hc0 := cell_below ku hgl hbb
    go_simp
  try simp only [Act.put, List.setIfInBounds_toArray, List.set_cons_zero, List.set_cons_succ]
  clear e0 e1 e2 e3 f1 f2 ku b00 b01 b02 b03
  have hbd1 : Below (w.heap.size + 1) (w.alloc (.cells #[.slice (some ⟨b, 0, none⟩) 1 1, .pointer none, .pointer none] 58)) wa1.drew := hba1.drew
  have hod1 : Own wa1.drew base (.slice A1 n1 c1) n1 (l) := hoa1
  have hzd1 : w.heap.size + 1 ≤ wa1.drew.heap.size := hza1
  generalize wa1.drew = wd1 at *
  refine wpAnyH_ready (rs := [7]) (by kernel_rfl) (by simp) ?_
  refine AllReadyH.cons rfl (fun K hK => ?_) AllReadyH.nil
  go_simp
  refine hK.out _ _ (hS.trans ((below_alloc wd1 _).mono hS.size)) (fun hS7 => ?_)
  clear hK K
  try simp only [Act.put, List.setIfInBounds_toArray, List.set_cons_zero, List.set_cons_succ]
  refine wpAnyH_ready (rs := [8]) (by kernel_rfl) (by simp) ?_
  refine AllReadyH.cons rfl (fun K hK => ?_) AllReadyH.nil
  go_simp
  go_at_call 25
  refine (put_lit u.s [x] hod1.rd (Nat.le_refl _) (by simp) (by omega)).mono ?_
  rw [qu.out]
  rintro e w2 ⟨B1, m1, d1, rfl, hp1, hbp1⟩
  refine hK.out _ _ (hS.trans (hbp1.mono hS.size)) (fun hS8 => ?_)
  clear hK K
  try simp only [Act.put, List.setIfInBounds_toArray, List.set_cons_zero, List.set_cons_succ]
  refine takeD (i := 9) (v := .tuple #[.slice B1 m1 d1, .int .i64 0]) (some 16) rfl rfl (by kernel_rfl) (by kernel_rfl) (by kernel_rfl) (fun _ _ _ h => h) (Or.inl ⟨by rfl, ?_⟩) hS8 ?_
  · rintro w' _
    go_simp
  try simp only [Act.put, List.setIfInBounds_toArray, List.set_cons_zero, List.set_cons_succ]
  refine takeD (i := 10) (v := .slice B1 m1 d1) (some 26) rfl rfl (by kernel_rfl) (by kernel_rfl) (by kernel_rfl) (fun _ _ _ h => h) (Or.inl ⟨by rfl, ?_⟩) hS8 ?_
  · rintro w' _
    go_simp
  try simp only [Act.put, List.setIfInBounds_toArray, List.set_cons_zero, List.set_cons_succ]
  refine takeD (i := 11) (v := .int .i64 0) (some 27) rfl rfl (by kernel_rfl) (by kernel_rfl) (by kernel_rfl) (fun _ _ _ h => h) (Or.inl ⟨by rfl, ?_⟩) hS8 ?_
  · rintro w' _
    go_simp
  try simp only [Act.put, List.setIfInBounds_toArray, List.set_cons_zero, List.set_cons_succ]
  refine takeD (i := 12) (v := .slice B1 m1 d1) (some 1) rfl rfl (by kernel_rfl) (by kernel_rfl) (by kernel_rfl) (fun _ _ _ h => h) (Or.inl ⟨by rfl, ?_⟩) hS8 ?_
  · rintro w' _
    go_simp
  try simp only [Act.put, List.setIfInBounds_toArray, List.set_cons_zero, List.set_cons_succ]
  have hb2 := hbd1.trans (hbp1.mono hzd1)
  have ho2 : Own w2 base (.slice B1 m1 d1) m1 (l ++ dg s x) := hp1.lower (by omega)
  have hz2 : w.heap.size + 1 ≤ w2.heap.size := Nat.le_trans hzd1 hbp1.size
  have hn2 : m1 ≤ 14 := by have := ho2.len; simp only [List.length_append, dg_len] at this; omega
  clear hS hS7 hS8 hp1 hbp1
  refine wpAnyH_done (by kernel_rfl) ?_ _
  go_wp2_with fail
  obtain ⟨f1, f2, ku, b00, b01, b02, b03⟩ := FU.out _ hb2
  rw [rounds_succ]
  go_wp2_with fail
  go_ret
  exact ⟨B1, m1, d1, rfl, ho2, hbw0.trans (hb2.mono (by omega))⟩
set_option maxRecDepth 100000 in
set_option maxHeartbeats 1600000 in
theorem wr_2 {w : World} {base n1 c1 : Nat} {A1 : Option Addr} {l : List Int} (hb : Own w base (.slice A1 n1 c1) n1 l) (hbase : base ≤ w.heap.size) {lo g m : Nat} {A : Option Addr} {u v : NumV} (x y : Int) (s t : Nat) (hR : Rn w lo g A m [u, v]) (hg : g < w.heap.size) (hu : w.cell? ⟨g, u.at_, none⟩ = some (.int .i64 x)) (ku : u.s = (s : Nat)) (tu : s = 1 ∨ s = 2 ∨ s = 4) (bu : 0 ≤ x ∧ x < 2 ^ (8 * s)) (hv : w.cell? ⟨g, v.at_, none⟩ = some (.int .i64 y)) (kv : v.s = (t : Nat)) (tv : t = 1 ∨ t = 2 ∨ t = 4) (bv : 0 ≤ y ∧ y < 2 ^ (8 * t)) (hl : l.length ≤ 10) : Calls Try.prog 27 #[.agg #[.slice A m m, .pointer none, .pointer none], .slice A1 n1 c1] w (OwnOf base (((l ++ dg s x) ++ dg t y)) w) := by
  have hln := hb.len
  have hn1 : n1 ≤ 10 := by omega
  clear hln
  obtain ⟨hlm, _, hc⟩ := hR
  simp at hlm
  subst hlm
  obtain ⟨b, rfl, _, hbw, hc⟩ := hc (by omega)
  have qu := Kp.mk (fun l => show putP l u.s [x] = (l ++ dg s x, 0) by rw [ku]; exact putP_one l s tu x bu.1 bu.2)
  have qv := Kp.mk (fun l => show putP l v.s [y] = (l ++ dg t y, 0) by rw [kv]; exact putP_one l t tv y bv.1 bv.2)
  have hss : s ≤ 4 := by omega
  have hst : t ≤ 4 := by omega
  clear ku tu bu kv tv bv
  obtain ⟨a00, a01, a02, a03⟩ := hc 0 u rfl
  simp only [Nat.zero_mul, Nat.zero_add, Nat.one_mul, Nat.reduceAdd] at a00 a01 a02 a03
  obtain ⟨a10, a11, a12, a13⟩ := hc 1 v rfl
  simp only [Nat.zero_mul, Nat.zero_add, Nat.one_mul, Nat.reduceAdd] at a10 a11 a12 a13
  clear hc
  have hbw0 := below_alloc w (.cells #[.slice (some ⟨b, 0, none⟩) 2 2, .pointer none, .pointer none] 58)
  have hvb := Vb.new 58 w [.slice (some ⟨b, 0, none⟩) 2 2, .pointer none, .pointer none]
  have FU : Kp (∀ w', Below (w.heap.size + 1) (w.alloc (.cells #[.slice (some ⟨b, 0, none⟩) 2 2, .pointer none, .pointer none] 58)) w' → w'.cell? ⟨w.heap.size, 1, none⟩ = some (.pointer none) ∧ w'.cell? ⟨w.heap.size, 2, none⟩ = some (.pointer none) ∧ w'.cell? ⟨g, u.at_, none⟩ = some (.int .i64 x) ∧ w'.cell? ⟨g, v.at_, none⟩ = some (.int .i64 y) ∧ w'.cell? ⟨b, 0, none⟩ = some (.pointer (some ⟨g, u.at_, none⟩)) ∧ w'.cell? ⟨b, 1, none⟩ = some (.int .i64 u.s) ∧ w'.cell? ⟨b, 2, none⟩ = some (.int .i64 u.lo) ∧ w'.cell? ⟨b, 3, none⟩ = some (.int .i64 u.hi) ∧ w'.cell? ⟨b, 4, none⟩ = some (.pointer (some ⟨g, v.at_, none⟩)) ∧ w'.cell? ⟨b, 5, none⟩ = some (.int .i64 v.s) ∧ w'.cell? ⟨b, 6, none⟩ = some (.int .i64 v.lo) ∧ w'.cell? ⟨b, 7, none⟩ = some (.int .i64 v.hi)) := Kp.mk (fun w' hb0 => by have hbb := hbw0.trans (hb0.mono (by omega)); have hvv := hvb.below hb0 (by omega); exact ⟨hvv.cell 1 rfl, hvv.cell 2 rfl, cell_below hu hg hbb, cell_below hv hg hbb, cell_below a00 hbw hbb, cell_below a01 hbw hbb, cell_below a02 hbw hbb, cell_below a03 hbw hbb, cell_below a10 hbw hbb, cell_below a11 hbw hbb, cell_below a12 hbw hbb, cell_below a13 hbw hbb⟩)
  clear hu hv a00 a01 a02 a03 a10 a11 a12 a13
  have hb1 : Below (w.heap.size + 1) (w.alloc (.cells #[.slice (some ⟨b, 0, none⟩) 2 2, .pointer none, .pointer none] 58)) (w.alloc (.cells #[.slice (some ⟨b, 0, none⟩) 2 2, .pointer none, .pointer none] 58)) := Below.refl _ _
  have hz1 : w.heap.size + 1 ≤ (w.alloc (.cells #[.slice (some ⟨b, 0, none⟩) 2 2, .pointer none, .pointer none] 58)).heap.size := by simp
  have ho1 := hb.alloc (.cells #[.slice (some ⟨b, 0, none⟩) 2 2, .pointer none, .pointer none] 58)
  go_enter Try.func27, Try.ntmps27
  go_wp2_with fail
  refine wp_loop_rounds (2 + 1) ?_
  obtain ⟨f1, f2, ku, kv, b00, b01, b02, b03, b10, b11, b12, b13⟩ := FU.out _ hb1
  rw [rounds_succ]
  go_upto_region 4 with fail
  clear f1 f2 ku kv b00 b01 b02 b03 b10 b11 b12 b13
  have hm1 := Vb.new 95 (w.alloc (.cells #[.slice (some ⟨b, 0, none⟩) 2 2, .pointer none, .pointer none] 58)) [.pointer (some ⟨g, u.at_, none⟩), .int .i64 u.s, .int .i64 u.lo, .int .i64 u.hi]
  rw [alloc_size] at hm1
  have hba1 := hb1.trans ((below_alloc (w.alloc (.cells #[.slice (some ⟨b, 0, none⟩) 2 2, .pointer none, .pointer none] 58)) (.cells #[.pointer (some ⟨g, u.at_, none⟩), .int .i64 u.s, .int .i64 u.lo, .int .i64 u.hi] 95)).mono hz1)
  have hoa1 := ho1.alloc (.cells #[.pointer (some ⟨g, u.at_, none⟩), .int .i64 u.s, .int .i64 u.lo, .int .i64 u.hi] 95)
  have hza1 : w.heap.size + 1 ≤ ((w.alloc (.cells #[.slice (some ⟨b, 0, none⟩) 2 2, .pointer none, .pointer none] 58)).alloc (.cells #[.pointer (some ⟨g, u.at_, none⟩), .int .i64 u.s, .int .i64 u.lo, .int .i64 u.hi] 95)).heap.size := Nat.le_trans hz1 (below_alloc (w.alloc (.cells #[.slice (some ⟨b, 0, none⟩) 2 2, .pointer none, .pointer none] 58)) (.cells #[.pointer (some ⟨g, u.at_, none⟩), .int .i64 u.s, .int .i64 u.lo, .int .i64 u.hi] 95)).size
  generalize ((w.alloc (.cells #[.slice (some ⟨b, 0, none⟩) 2 2, .pointer none, .pointer none] 58)).alloc (.cells #[.pointer (some ⟨g, u.at_, none⟩), .int .i64 u.s, .int .i64 u.lo, .int .i64 u.hi] 95)) = wa1 at *
  obtain ⟨e0, e1, e2, e3⟩ := hm1.c4
  obtain ⟨f1, f2, ku, kv, b00, b01, b02, b03, b10, b11, b12, b13⟩ := FU.out _ hba1
  have hlt := hm1.lt
  have hgl : g < wa1.heap.size := by omega
  have hS : (fun w' => Below wa1.heap.size wa1 w') wa1.drew := (Below.refl _ _).drew
  refine wp_region_held_drew (S := (fun w' => Below wa1.heap.size wa1 w')) (by kernel_rfl) hS (fun _ => ?_)
  refine takeD (i := 0) (v := .slice A1 n1 c1) (some 17) rfl rfl (by kernel_rfl) (by kernel_rfl) (by kernel_rfl) (fun _ _ _ h => h) (Or.inl ⟨by rfl, ?_⟩) hS ?_
  · rintro w' _
    go_simp
  try simp only [Act.put, List.setIfInBounds_toArray, List.set_cons_zero, List.set_cons_succ]
  refine takeD (i := 1) (v := .pointer (some ⟨w.heap.size + 1, 1, none⟩)) (some 18) rfl rfl (by kernel_rfl) (by kernel_rfl) (by kernel_rfl) (fun _ _ _ h => h) (Or.inl ⟨by rfl, ?_⟩) hS ?_
  · rintro w' _
    go_simp
  try simp only [Act.put, List.setIfInBounds_toArray, List.set_cons_zero, List.set_cons_succ]
  refine takeD (i := 2) (v := .int .i64 u.s) (some 19) rfl rfl (by kernel_rfl) (by kernel_rfl) (by kernel_rfl) (fun _ _ _ h => h) (Or.inl ⟨by rfl, ?_⟩) hS ?_
  · rintro w' hbb
    have hc0 := cell_below e1 hlt hbb
    go_simp
  try simp only [Act.put, List.setIfInBounds_toArray, List.set_cons_zero, List.set_cons_succ]
  refine takeD (i := 3) (v := .pointer (some ⟨w.heap.size + 1, 0, none⟩)) (some 20) rfl rfl (by kernel_rfl) (by kernel_rfl) (by kernel_rfl) (fun _ _ _ h => h) (Or.inl ⟨by rfl, ?_⟩) hS ?_
  · rintro w' _
    go_simp
  try simp only [Act.put, List.setIfInBounds_toArray, List.set_cons_zero, List.set_cons_succ]
  refine takeD (i := 4) (v := .pointer (some ⟨g, u.at_, none⟩)) (some 21) rfl rfl (by kernel_rfl) (by kernel_rfl) (by kernel_rfl) (fun _ _ _ h => h) (Or.inl ⟨by rfl, ?_⟩) hS ?_
  · rintro w' hbb
    have hc0 := cell_below e0 hlt hbb
    go_simp
  try simp only [Act.put, List.setIfInBounds_toArray, List.set_cons_zero, List.set_cons_succ]
  refine takeD (i := 5) (v := .pointer (some ⟨g, u.at_, none⟩)) (some 22) rfl rfl (by kernel_rfl) (by kernel_rfl) (by kernel_rfl) (fun _ _ _ h => h) (Or.inl ⟨by rfl, ?_⟩) hS ?_
  · rintro w' _
    go_simp
  try simp only [Act.put, List.setIfInBounds_toArray, List.set_cons_zero, List.set_cons_succ]
  refine takeD (i := 6) (v := .int .i64 x) (some 23) rfl rfl (by kernel_rfl) (by kernel_rfl) (by kernel_rfl) (fun _ _ _ h => h) (Or.inl ⟨by rfl, ?_⟩) hS ?_
  · rintro w' hbb
    have hc0 := cell_below ku hgl hbb
    go_simp
  try simp only [Act.put, List.setIfInBounds_toArray, List.set_cons_zero, List.set_cons_succ]
  clear e0 e1 e2 e3 f1 f2 ku kv b00 b01 b02 b03 b10 b11 b12 b13
  have hbd1 : Below (w.heap.size + 1) (w.alloc (.cells #[.slice (some ⟨b, 0, none⟩) 2 2, .pointer none, .pointer none] 58)) wa1.drew := hba1.drew
  have hod1 : Own wa1.drew base (.slice A1 n1 c1) n1 (l) := hoa1
  have hzd1 : w.heap.size + 1 ≤ wa1.drew.heap.size := hza1
  generalize wa1.drew = wd1 at *
  refine wpAnyH_ready (rs := [7]) (by kernel_rfl) (by simp) ?_
  refine AllReadyH.cons rfl (fun K hK => ?_) AllReadyH.nil
  go_simp
  refine hK.out _ _ (hS.trans ((below_alloc wd1 _).mono hS.size)) (fun hS7 => ?_)
  clear hK K
  try simp only [Act.put, List.setIfInBounds_toArray, List.set_cons_zero, List.set_cons_succ]
  refine wpAnyH_ready (rs := [8]) (by kernel_rfl) (by simp) ?_
  refine AllReadyH.cons rfl (fun K hK => ?_) AllReadyH.nil
  go_simp
  go_at_call 25
  refine (put_lit u.s [x] hod1.rd (Nat.le_refl _) (by simp) (by omega)).mono ?_
  rw [qu.out]
  rintro e w2 ⟨B1, m1, d1, rfl, hp1, hbp1⟩
  refine hK.out _ _ (hS.trans (hbp1.mono hS.size)) (fun hS8 => ?_)
  clear hK K
  try simp only [Act.put, List.setIfInBounds_toArray, List.set_cons_zero, List.set_cons_succ]
  refine takeD (i := 9) (v := .tuple #[.slice B1 m1 d1, .int .i64 0]) (some 16) rfl rfl (by kernel_rfl) (by kernel_rfl) (by kernel_rfl) (fun _ _ _ h => h) (Or.inl ⟨by rfl, ?_⟩) hS8 ?_
  · rintro w' _
    go_simp
  try simp only [Act.put, List.setIfInBounds_toArray, List.set_cons_zero, List.set_cons_succ]
  refine takeD (i := 10) (v := .slice B1 m1 d1) (some 26) rfl rfl (by kernel_rfl) (by kernel_rfl) (by kernel_rfl) (fun _ _ _ h => h) (Or.inl ⟨by rfl, ?_⟩) hS8 ?_
  · rintro w' _
    go_simp
  try simp only [Act.put, List.setIfInBounds_toArray, List.set_cons_zero, List.set_cons_succ]
  refine takeD (i := 11) (v := .int .i64 0) (some 27) rfl rfl (by kernel_rfl) (by kernel_rfl) (by kernel_rfl) (fun _ _ _ h => h) (Or.inl ⟨by rfl, ?_⟩) hS8 ?_
  · rintro w' _
    go_simp
  try simp only [Act.put, List.setIfInBounds_toArray, List.set_cons_zero, List.set_cons_succ]
  refine takeD (i := 12) (v := .slice B1 m1 d1) (some 1) rfl rfl (by kernel_rfl) (by kernel_rfl) (by kernel_rfl) (fun _ _ _ h => h) (Or.inl ⟨by rfl, ?_⟩) hS8 ?_
  · rintro w' _
    go_simp
  try simp only [Act.put, List.setIfInBounds_toArray, List.set_cons_zero, List.set_cons_succ]
  have hb2 := hbd1.trans (hbp1.mono hzd1)
  have ho2 : Own w2 base (.slice B1 m1 d1) m1 (l ++ dg s x) := hp1.lower (by omega)
  have hz2 : w.heap.size + 1 ≤ w2.heap.size := Nat.le_trans hzd1 hbp1.size
  have hn2 : m1 ≤ 14 := by have := ho2.len; simp only [List.length_append, dg_len] at this; omega
  clear hS hS7 hS8 hp1 hbp1
  refine wpAnyH_done (by kernel_rfl) ?_ _
  go_wp2_with fail
  obtain ⟨f1, f2, ku, kv, b00, b01, b02, b03, b10, b11, b12, b13⟩ := FU.out _ hb2
  rw [rounds_succ]
  go_upto_region 4 with fail
  clear f1 f2 ku kv b00 b01 b02 b03 b10 b11 b12 b13
  have hm2 := Vb.new 95 w2 [.pointer (some ⟨g, v.at_, none⟩), .int .i64 v.s, .int .i64 v.lo, .int .i64 v.hi]
  have hba2 := hb2.trans ((below_alloc w2 (.cells #[.pointer (some ⟨g, v.at_, none⟩), .int .i64 v.s, .int .i64 v.lo, .int .i64 v.hi] 95)).mono hz2)
  have hoa2 := ho2.alloc (.cells #[.pointer (some ⟨g, v.at_, none⟩), .int .i64 v.s, .int .i64 v.lo, .int .i64 v.hi] 95)
  have hza2 : w.heap.size + 1 ≤ (w2.alloc (.cells #[.pointer (some ⟨g, v.at_, none⟩), .int .i64 v.s, .int .i64 v.lo, .int .i64 v.hi] 95)).heap.size := Nat.le_trans hz2 (below_alloc w2 (.cells #[.pointer (some ⟨g, v.at_, none⟩), .int .i64 v.s, .int .i64 v.lo, .int .i64 v.hi] 95)).size
  generalize (w2.alloc (.cells #[.pointer (some ⟨g, v.at_, none⟩), .int .i64 v.s, .int .i64 v.lo, .int .i64 v.hi] 95)) = wa2 at *
  obtain ⟨e0, e1, e2, e3⟩ := hm2.c4
  obtain ⟨f1, f2, ku, kv, b00, b01, b02, b03, b10, b11, b12, b13⟩ := FU.out _ hba2
  have hlt := hm2.lt
  have hgl : g < wa2.heap.size := by omega
  have hS : (fun w' => Below wa2.heap.size wa2 w') wa2.drew := (Below.refl _ _).drew
  refine wp_region_held_drew (S := (fun w' => Below wa2.heap.size wa2 w')) (by kernel_rfl) hS (fun _ => ?_)
  refine takeD (i := 0) (v := .slice B1 m1 d1) (some 17) rfl rfl (by kernel_rfl) (by kernel_rfl) (by kernel_rfl) (fun _ _ _ h => h) (Or.inl ⟨by rfl, ?_⟩) hS ?_
  · rintro w' _
    go_simp
  try simp only [Act.put, List.setIfInBounds_toArray, List.set_cons_zero, List.set_cons_succ]
  refine takeD (i := 1) (v := .pointer (some ⟨w2.heap.size, 1, none⟩)) (some 18) rfl rfl (by kernel_rfl) (by kernel_rfl) (by kernel_rfl) (fun _ _ _ h => h) (Or.inl ⟨by rfl, ?_⟩) hS ?_
  · rintro w' _
    go_simp
  try simp only [Act.put, List.setIfInBounds_toArray, List.set_cons_zero, List.set_cons_succ]
  refine takeD (i := 2) (v := .int .i64 v.s) (some 19) rfl rfl (by kernel_rfl) (by kernel_rfl) (by kernel_rfl) (fun _ _ _ h => h) (Or.inl ⟨by rfl, ?_⟩) hS ?_
  · rintro w' hbb
    have hc0 := cell_below e1 hlt hbb
    go_simp
  try simp only [Act.put, List.setIfInBounds_toArray, List.set_cons_zero, List.set_cons_succ]
  refine takeD (i := 3) (v := .pointer (some ⟨w2.heap.size, 0, none⟩)) (some 20) rfl rfl (by kernel_rfl) (by kernel_rfl) (by kernel_rfl) (fun _ _ _ h => h) (Or.inl ⟨by rfl, ?_⟩) hS ?_
  · rintro w' _
    go_simp
  try simp only [Act.put, List.setIfInBounds_toArray, List.set_cons_zero, List.set_cons_succ]
  refine takeD (i := 4) (v := .pointer (some ⟨g, v.at_, none⟩)) (some 21) rfl rfl (by kernel_rfl) (by kernel_rfl) (by kernel_rfl) (fun _ _ _ h => h) (Or.inl ⟨by rfl, ?_⟩) hS ?_
  · rintro w' hbb
    have hc0 := cell_below e0 hlt hbb
    go_simp
  try simp only [Act.put, List.setIfInBounds_toArray, List.set_cons_zero, List.set_cons_succ]
  refine takeD (i := 5) (v := .pointer (some ⟨g, v.at_, none⟩)) (some 22) rfl rfl (by kernel_rfl) (by kernel_rfl) (by kernel_rfl) (fun _ _ _ h => h) (Or.inl ⟨by rfl, ?_⟩) hS ?_
  · rintro w' _
    go_simp
  try simp only [Act.put, List.setIfInBounds_toArray, List.set_cons_zero, List.set_cons_succ]
  refine takeD (i := 6) (v := .int .i64 y) (some 23) rfl rfl (by kernel_rfl) (by kernel_rfl) (by kernel_rfl) (fun _ _ _ h => h) (Or.inl ⟨by rfl, ?_⟩) hS ?_
  · rintro w' hbb
    have hc0 := cell_below kv hgl hbb
    go_simp
  try simp only [Act.put, List.setIfInBounds_toArray, List.set_cons_zero, List.set_cons_succ]
  clear e0 e1 e2 e3 f1 f2 ku kv b00 b01 b02 b03 b10 b11 b12 b13
  have hbd2 : Below (w.heap.size + 1) (w.alloc (.cells #[.slice (some ⟨b, 0, none⟩) 2 2, .pointer none, .pointer none] 58)) wa2.drew := hba2.drew
  have hod2 : Own wa2.drew base (.slice B1 m1 d1) m1 ((l ++ dg s x)) := hoa2
  have hzd2 : w.heap.size + 1 ≤ wa2.drew.heap.size := hza2
  generalize wa2.drew = wd2 at *
  refine wpAnyH_ready (rs := [7]) (by kernel_rfl) (by simp) ?_
  refine AllReadyH.cons rfl (fun K hK => ?_) AllReadyH.nil
  go_simp
  refine hK.out _ _ (hS.trans ((below_alloc wd2 _).mono hS.size)) (fun hS7 => ?_)
  clear hK K
  try simp only [Act.put, List.setIfInBounds_toArray, List.set_cons_zero, List.set_cons_succ]
  refine wpAnyH_ready (rs := [8]) (by kernel_rfl) (by simp) ?_
  refine AllReadyH.cons rfl (fun K hK => ?_) AllReadyH.nil
  go_simp
  go_at_call 25
  refine (put_lit v.s [y] hod2.rd (Nat.le_refl _) (by simp) (by omega)).mono ?_
  rw [qv.out]
  rintro e w3 ⟨B2, m2, d2, rfl, hp2, hbp2⟩
  refine hK.out _ _ (hS.trans (hbp2.mono hS.size)) (fun hS8 => ?_)
  clear hK K
  try simp only [Act.put, List.setIfInBounds_toArray, List.set_cons_zero, List.set_cons_succ]
  refine takeD (i := 9) (v := .tuple #[.slice B2 m2 d2, .int .i64 0]) (some 16) rfl rfl (by kernel_rfl) (by kernel_rfl) (by kernel_rfl) (fun _ _ _ h => h) (Or.inl ⟨by rfl, ?_⟩) hS8 ?_
  · rintro w' _
    go_simp
  try simp only [Act.put, List.setIfInBounds_toArray, List.set_cons_zero, List.set_cons_succ]
  refine takeD (i := 10) (v := .slice B2 m2 d2) (some 26) rfl rfl (by kernel_rfl) (by kernel_rfl) (by kernel_rfl) (fun _ _ _ h => h) (Or.inl ⟨by rfl, ?_⟩) hS8 ?_
  · rintro w' _
    go_simp
  try simp only [Act.put, List.setIfInBounds_toArray, List.set_cons_zero, List.set_cons_succ]
  refine takeD (i := 11) (v := .int .i64 0) (some 27) rfl rfl (by kernel_rfl) (by kernel_rfl) (by kernel_rfl) (fun _ _ _ h => h) (Or.inl ⟨by rfl, ?_⟩) hS8 ?_
  · rintro w' _
    go_simp
  try simp only [Act.put, List.setIfInBounds_toArray, List.set_cons_zero, List.set_cons_succ]
  refine takeD (i := 12) (v := .slice B2 m2 d2) (some 1) rfl rfl (by kernel_rfl) (by kernel_rfl) (by kernel_rfl) (fun _ _ _ h => h) (Or.inl ⟨by rfl, ?_⟩) hS8 ?_
  · rintro w' _
    go_simp
  try simp only [Act.put, List.setIfInBounds_toArray, List.set_cons_zero, List.set_cons_succ]
  have hb3 := hbd2.trans (hbp2.mono hzd2)
  have ho3 : Own w3 base (.slice B2 m2 d2) m2 ((l ++ dg s x) ++ dg t y) := hp2.lower (by omega)
  have hz3 : w.heap.size + 1 ≤ w3.heap.size := Nat.le_trans hzd2 hbp2.size
  have hn3 : m2 ≤ 18 := by have := ho3.len; simp only [List.length_append, dg_len] at this; omega
  clear hS hS7 hS8 hp2 hbp2
  refine wpAnyH_done (by kernel_rfl) ?_ _
  go_wp2_with fail
  obtain ⟨f1, f2, ku, kv, b00, b01, b02, b03, b10, b11, b12, b13⟩ := FU.out _ hb3
  rw [rounds_succ]
  go_wp2_with fail
  go_ret
  exact ⟨B2, m2, d2, rfl, ho3, hbw0.trans (hb3.mono (by omega))⟩
end Go.Proofs.Ytnhjpiaenbhilaa.Oct
