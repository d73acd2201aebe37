/- Contracts of layer 9: Add. -/
import Derived.Test.YtcolklkjaifplaaTabN
import Derived.Test.YtcolklkjaifplaaMskB
import Derived.BigQuiet
import Derived.Deep.QuietTactic
namespace Go.Proofs.Ytcolklkjaifplaa.Oct
open Go.RowKit
set_option linter.unusedVariables false
set_option linter.unusedSimpArgs false

theorem replace_any {w : World} {v : Value} {its : List It} {i j vb : Nat} {x : It} (hv : RowS w v its) (hij : j = i ∨ j = i + 1) (hj : j ≤ its.length) (hvb : Rowb w vb [x]) (hne : v.ownBlock ≠ some vb) (hl : its.length ≤ 1000) :
    Calls Try.prog 53 #[v, .int .i64 i, .int .i64 j, .slice (some ⟨vb, 0, none⟩) 1 1] w fun e w' => ∃ v', e = .returned v' ∧ RowS w' v' (its.take i ++ [x] ++ its.drop j) ∧ w.grownBy w' v.ownBlock ∧ Nx w v v' := by
  rcases hij with rfl | rfl
  · exact replace_at hv hj hvb hne hl
  · rcases hv with ⟨rfl, rfl⟩ | ⟨g, ys, rfl, hr, hm⟩
    · simp at hj
    · refine (replace_over hr hm (by omega) hvb (fun e => hne (by rw [e]; rfl)) hl).mono ?_
      rintro e w' ⟨v', rfl, h1, h2, h3⟩
      exact ⟨v', rfl, h1, h2, .inl h3⟩
section
variable {w : World} {t : Nat} {v : Value} {room : Int} {its : List It}
def addE (room : Int) (r : RuleV) (l : List RuleV) : Int := if checkR r = 0 then (if loP r l = hiP r l ∧ (l.length : Int) = room then 90 else 0) else checkR r
def addL (room : Int) (r : RuleV) (l : List RuleV) : List RuleV := if addE room r l = 0 then tadd r l else l
/-- Where a rule's outputs are. -/
def Liv (X : Nat → Prop) (y : It) : Prop := 0 < y.r.os.length → ∀ a, y.A = some a → X a.block
set_option maxRecDepth 100000 in
set_option maxHeartbeats 8000000 in
theorem add_tab {B : Nat} (h : Tb w t v room its) (hS : Srt (rls its)) (hl : its.length ≤ 1000) (x : It) (hx : Ro w B x.A x.r.os.length x.c x.r.os) (hB : B ≤ w.heap.size) (hxl : x.r.os.length ≤ 1000000000) : Calls Try.prog 10 #[.pointer (some ⟨t, 0, none⟩), .agg (ics x).toArray] w fun e w' => ∃ v' its', e = .returned (.int .i64 (addE room x.r (rls its))) ∧ rls its' = addL room x.r (rls its) ∧ Tb w' t v' room its' ∧ Fr2 t v.ownBlock w w' ∧ Nx w v v' ∧ (∀ X : Nat → Prop, (∀ y ∈ its, Liv X y) → (∀ b, w.heap.size ≤ b → X b) → ∀ y ∈ its', Liv X y) := by
  have hb0 := below_alloc w (.cells (ics x).toArray 31)
  have hv := Vb.new 31 w (ics x)
  have h1 := h.below hb0
  have hx1 := hx.below' hb0 hB
  have hB1 : B ≤ (w.alloc (.cells (ics x).toArray 31)).heap.size := by have := hb0.size; omega
  obtain ⟨dE, hde⟩ : ∃ dE, dE = addE room x.r (rls its) := ⟨_, rfl⟩
  obtain ⟨dL, hdl⟩ : ∃ dL, dL = addL room x.r (rls its) := ⟨_, rfl⟩
  rw [← hde, ← hdl]
  have HE := Kp.mk hde
  have HL := Kp.mk hdl
  clear hde hdl
  have l1 := lo_hi (r := x.r) hS
  have l2 := hi_lo (r := x.r) hS
  have l3 := hi_le (r := x.r) (l := rls its)
  rw [rls_len] at l3
  have HX := Kp.mk hx
  have HB := Kp.mk hB
  have HXL := Kp.mk hxl
  have HTX := Kp.mk (show t < w.heap.size from h.blk.lt)
  have HXB := Kp.mk (show ∀ {u : World}, Below w.heap.size w u → v.ownBlock ≠ some w.heap.size from fun _ e => by have := (h.row.lt _ e).1; omega)
  clear h hx hB hxl
  go_enter Try.func10, Try.ntmps10
  go_upto_region 1 with fail
  generalize w.alloc (.cells (ics x).toArray 31) = w0 at *
  have HCk := Kp.mk (check_tab h1 x hx1 hB1)
  go_upto_region 2 with (first | refine wpList_load_vb (vs := ics x) rfl (.tmp 3) rfl rfl hv rfl agg_rule ?_ | (refine HCk.out.mono ?_; rintro e w1 ⟨rfl, hb1⟩))
  have h2 := h1.below hb1
  have hv2 := hv.below hb1 hv.lt
  have hBl := hb0.trans (hb1.mono hb0.size)
  clear hv HCk hx1 hB1 hb1 h1 hb0
  by_cases hck : checkR x.r = 0
  rotate_left
  · have HE2 := Kp.mk (show dE = checkR x.r by rw [HE.out]; unfold addE; rw [if_neg hck])
    have HL2 := Kp.mk (show dL = rls its by rw [HL.out]; unfold addL addE; rw [if_neg hck, if_neg hck])
    have hck' : (checkR x.r != 0) = true := by simpa using hck
    clear HE HL
    go_wp2_with fail
    go_ret
    exact ⟨v, its, by rw [HE2.out]; rfl, HL2.out.symm, h2, Fr2.of_below hBl, .inl rfl, fun X h _ => h⟩
  have HSt := Kp.mk (stretch_any h2 hS hl x)
  have HE2 := Kp.mk (show dE = if loP x.r (rls its) = hiP x.r (rls its) ∧ (its.length : Int) = room then 90 else 0 by rw [← rls_len its]; rw [HE.out]; unfold addE; rw [if_pos hck])
  have HL2 := Kp.mk (show dL = if loP x.r (rls its) = hiP x.r (rls its) ∧ (its.length : Int) = room then rls its else tadd x.r (rls its) by
    rw [HL.out, ← rls_len its]; unfold addL addE; rw [if_pos hck]; split <;> simp_all)
  have HD := Kp.mk (show tadd x.r (rls its) = (rls its).take (loP x.r (rls its)) ++ [x.r] ++ (rls its).drop (hiP x.r (rls its)) from rfl)
  clear HE HL hS
  have hck' : (checkR x.r != 0) = false := by simpa using hck
  generalize checkR x.r = ck at *
  subst hck
  generalize loP x.r (rls its) = lo at *
  generalize hiP x.r (rls its) = hi at *
  generalize tadd x.r (rls its) = td at *
  go_upto_region 4 with fail
  clear hck'
  replace l1 := Kp.mk l1
  replace l2 := Kp.mk l2
  replace l3 := Kp.mk l3
  go_upto_region 5 with (refine wpList_load_vb (vs := ics x) rfl (.tmp 3) rfl rfl hv2 rfl agg_rule ?_)
  refine HSt.out.mono ?_
  rintro e w2 ⟨rfl, hb2⟩
  go_upto_region 5 with fail
  replace l1 := l1.out
  replace l2 := l2.out
  replace l3 := l3.out
  have h3 := h2.below hb2
  have hBl2 := hBl.trans (hb2.mono hBl.size)
  have hv3 := hv2.below hb2 hv2.lt
  clear hv2 HSt h2 hb2 hBl
  by_cases hfull : lo = hi ∧ (its.length : Int) = room
  · have HE3 := Kp.mk (show dE = 90 by rw [HE2.out, if_pos hfull])
    have HL3 := Kp.mk (show dL = rls its by rw [HL2.out, if_pos hfull])
    obtain ⟨hlh, hfl⟩ := hfull
    subst hlh
    clear HE2 HL2 HD l1 l2 l3
    have c2 := h3.blk.cell 2 rfl
    have c1 := h3.blk.cell 1 rfl
    obtain ⟨A, c, hv, _⟩ := h3.row.form
    rw [hv] at c2
    generalize its.length = n at *
    subst hfl
    go_quiet (fail)
    have hbq := hBl2.trans (below_drewNR (Below.refl _ w2) nq |>.mono hBl2.size)
    have h4 := h3.below (below_drewNR (Below.refl _ w2) nq)
    go_wp2_with fail
    go_ret
    exact ⟨v, its, by rw [HE3.out]; rfl, HL3.out.symm, h4, Fr2.of_below hbq, .inl rfl, fun X h _ => h⟩
  have HE3 := Kp.mk (show dE = 0 by rw [HE2.out, if_neg hfull])
  have HL3 := Kp.mk (show dL = (rls its).take lo ++ [x.r] ++ (rls its).drop hi by rw [HL2.out, if_neg hfull, HD.out])
  have HIJ := Kp.mk (show hi = lo ∨ hi = lo + 1 by omega)
  have HJL := Kp.mk l3
  have HLE := Kp.mk l1
  have HLen := Kp.mk hl
  clear HE2 HL2 HD l1 l2 l3 hl
  go_cut [34] from 20 (fun v wx => v = .bool false ∧ Below w2.heap.size w2 wx)
  case first =>
    by_cases hlh : lo = hi
    · subst hlh
      have hfl : ¬ ((its.length : Int) = room) := fun e => hfull ⟨rfl, e⟩
      have c2 := h3.blk.cell 2 rfl
      have c1 := h3.blk.cell 1 rfl
      obtain ⟨A, c, hv, _⟩ := h3.row.form
      rw [hv] at c2
      have hfl' : ((its.length : Int) == room) = false := by simpa using hfl
      clear hfull hfl
      generalize its.length = n at *
      go_quiet (fail)
      have hbq := below_drewNR (Below.refl w2.heap.size w2) nq
      go_wp2_with fail
      go_meet
      case rel => exact ⟨rfl, hbq⟩
    · have hlh' : ((lo : Int) == (hi : Int)) = false := by simp; omega
      clear hfull
      go_quiet (fail)
      have hbq := below_drewNR (Below.refl w2.heap.size w2) nq
      go_wp2_with fail
      go_meet
      case rel => exact ⟨rfl, hbq⟩
  obtain ⟨rfl, hbq⟩ := hcut
  clear hfull
  have h4 := h3.below hbq
  have hv4 := hv3.below hbq hv3.lt
  have hBq := hBl2.trans (hbq.mono hBl2.size)
  clear h3 hv3 hbq hBl2
  go_upto_region 7 with fail
  have hS0 : (fun W => Vb 31 W w.heap.size [.int .i64 x.r.k, .int .i64 x.r.pr, .int .i64 x.r.to, .int .i64 x.r.po, .int .i64 x.r.x.v, .int .i64 x.r.x.m, .int .u8 x.r.x.b0, .int .u8 x.r.x.b1, .int .u8 x.r.x.b2, .int .u8 x.r.x.i0, .int .u8 x.r.x.i1, .int .u8 x.r.x.i2, .slice x.A x.r.os.length x.c]) wc.drew := hv4
  have hT := h4.below ((Below.refl _ wc).drew)
  have hBu := hBq.drew
  refine wp_region_held_drew (S := fun W => Vb 31 W w.heap.size [.int .i64 x.r.k, .int .i64 x.r.pr, .int .i64 x.r.to, .int .i64 x.r.po, .int .i64 x.r.x.v, .int .i64 x.r.x.m, .int .u8 x.r.x.b0, .int .u8 x.r.x.b1, .int .u8 x.r.x.b2, .int .u8 x.r.x.i0, .int .u8 x.r.x.i1, .int .u8 x.r.x.i2, .slice x.A x.r.os.length x.c]) (by kernel_rfl) hS0 (fun _ => ?_)
  clear h4 hv4 hBq
  generalize wc.drew = u0 at *
  refine takeD (i := 0) (v := .pointer (some ⟨t, 0, none⟩)) (some 35) rfl rfl (by kernel_rfl) (by kernel_rfl) (by kernel_rfl) (fun _ _ _ h => h) (Or.inl ⟨by rfl, ?_⟩) hS0 ?_
  · rintro w' _
    go_simp
  try simp only [Act.put, List.setIfInBounds_toArray, List.set_cons_zero, List.set_cons_succ]
  refine takeD (i := 1) (v := .pointer (some ⟨t, 0, none⟩)) (some 36) rfl rfl (by kernel_rfl) (by kernel_rfl) (by kernel_rfl) (fun _ _ _ h => h) (Or.inl ⟨by rfl, ?_⟩) hS0 ?_
  · rintro w' _
    go_simp
  try simp only [Act.put, List.setIfInBounds_toArray, List.set_cons_zero, List.set_cons_succ]
  refine takeD (i := 2) (v := .pointer (some ⟨t, 0, none⟩)) (some 37) rfl rfl (by kernel_rfl) (by kernel_rfl) (by kernel_rfl) (fun _ _ _ h => h) (Or.inl ⟨by rfl, ?_⟩) hS0 ?_
  · rintro w' _
    go_simp
  try simp only [Act.put, List.setIfInBounds_toArray, List.set_cons_zero, List.set_cons_succ]
  refine takeD (i := 3) (v := .pointer (some ⟨t, 2, none⟩)) (some 38) rfl rfl (by kernel_rfl) (by kernel_rfl) (by kernel_rfl) (fun _ _ _ h => h) (Or.inl ⟨by rfl, ?_⟩) hS0 ?_
  · rintro w' _
    go_simp
  try simp only [Act.put, List.setIfInBounds_toArray, List.set_cons_zero, List.set_cons_succ]
  refine takeD (i := 5) (v := .int .i64 lo) (some 40) rfl rfl (by kernel_rfl) (by kernel_rfl) (by kernel_rfl) (fun _ _ _ h => h) (Or.inl ⟨by rfl, ?_⟩) hS0 ?_
  · rintro w' _
    go_simp
  try simp only [Act.put, List.setIfInBounds_toArray, List.set_cons_zero, List.set_cons_succ]
  refine takeD (i := 6) (v := .int .i64 hi) (some 41) rfl rfl (by kernel_rfl) (by kernel_rfl) (by kernel_rfl) (fun _ _ _ h => h) (Or.inl ⟨by rfl, ?_⟩) hS0 ?_
  · rintro w' _
    go_simp
  try simp only [Act.put, List.setIfInBounds_toArray, List.set_cons_zero, List.set_cons_succ]
  refine takeD (i := 7) (v := .agg #[.int .i64 x.r.k, .int .i64 x.r.pr, .int .i64 x.r.to, .int .i64 x.r.po, .int .i64 x.r.x.v, .int .i64 x.r.x.m, .int .u8 x.r.x.b0, .int .u8 x.r.x.b1, .int .u8 x.r.x.b2, .int .u8 x.r.x.i0, .int .u8 x.r.x.i1, .int .u8 x.r.x.i2, .slice x.A x.r.os.length x.c]) (some 42) rfl rfl (by kernel_rfl) (by kernel_rfl) (by kernel_rfl) (fun _ _ _ h => h) (Or.inl ⟨by rfl, ?_⟩) hS0 ?_
  · rintro w' s0
    obtain ⟨d0, d1, d2, d3, d4, d5, d6, d7, d8, d9, d10, d11, d12⟩ := s0.c13
    go_simp
  try simp only [Act.put, List.setIfInBounds_toArray, List.set_cons_zero, List.set_cons_succ]
  refine wpAnyH_ready (rs := [4, 8]) (by kernel_rfl) (by simp) ?_
  refine AllReadyH.cons rfl (fun K hK => ?_) (AllReadyH.cons rfl (fun K hK => ?_) AllReadyH.nil)
  · try rw [if_pos (by rfl)]
    have c2 := hT.blk.cell 2 rfl
    go_simp
    refine hK.out _ _ hS0 (fun _ => ?_)
    clear hK K c2
    try simp only [Act.put, List.setIfInBounds_toArray, List.set_cons_zero, List.set_cons_succ]
    refine wpAnyH_ready (rs := [8]) (by kernel_rfl) (by simp) ?_
    refine AllReadyH.cons rfl (fun K hK => ?_) AllReadyH.nil
    · try rw [if_pos (by rfl)]
      go_simp
      go_at_call 50
      refine (copyX_any (w := u0) x (HX.out.below' hBu HB.out) (by have := HB.out; have := hBu.size; omega) HXL.out).mono ?_
      rintro e u8 ⟨y, hyr, rfl, hyo, hyf, hb8⟩
      replace hyr := Kp.mk hyr
      have hS8 := Vb.below hS0 hb8 (Vb.lt hS0)
      have hT8 := hT.below hb8
      have hB8 := hBu.trans (hb8.mono hBu.size)
      have hy8 := Kp.mk (show Fre w.heap.size y from fun hn a e => by have := hyf hn a e; have := hBu.size; omega)
      refine hK.out _ _ hS8 (fun _ => ?_)
      clear hK K hb8 hyf
      try simp only [Act.put, List.setIfInBounds_toArray, List.set_cons_zero, List.set_cons_succ]
      refine wpAnyH_ready (rs := [9]) (by kernel_rfl) (by simp) ?_
      refine AllReadyH.cons rfl (fun K hK => ?_) AllReadyH.nil
      · try rw [if_pos (by rfl)]
        have hba := below_alloc u8 (.cells #[.int .i64 y.r.k, .int .i64 y.r.pr, .int .i64 y.r.to, .int .i64 y.r.po, .int .i64 y.r.x.v, .int .i64 y.r.x.m, .int .u8 y.r.x.b0, .int .u8 y.r.x.b1, .int .u8 y.r.x.b2, .int .u8 y.r.x.i0, .int .u8 y.r.x.i1, .int .u8 y.r.x.i2, .slice y.A y.r.os.length y.c] 31)
        have hr9 := rowb_one u8 y
        have hT9 := hT8.below hba
        have hB9 := hB8.trans (hba.mono hB8.size)
        have hS9 := Vb.below hS8 hba (Vb.lt hS8)
        have hy9 := hyo.below hba
        have hN9 := Kp.mk (show v.ownBlock ≠ some u8.heap.size from fun e => by have := (hT8.row.lt _ e).1; omega)
        go_simp
        refine hK.out _ _ hS9 (fun _ => ?_)
        clear hK K hba
        try simp only [Act.put, List.setIfInBounds_toArray, List.set_cons_zero, List.set_cons_succ]
        generalize hu9 : u8.alloc (.cells #[.int .i64 y.r.k, .int .i64 y.r.pr, .int .i64 y.r.to, .int .i64 y.r.po, .int .i64 y.r.x.v, .int .i64 y.r.x.m, .int .u8 y.r.x.b0, .int .u8 y.r.x.b1, .int .u8 y.r.x.b2, .int .u8 y.r.x.i0, .int .u8 y.r.x.i1, .int .u8 y.r.x.i2, .slice y.A y.r.os.length y.c] 31) = u9 at *
        clear hu9
        generalize u8.heap.size = gb at *
        refine wpAnyH_ready (rs := [10]) (by kernel_rfl) (by simp) ?_
        refine AllReadyH.cons rfl (fun K hK => ?_) AllReadyH.nil
        try rw [if_pos (by rfl)]
        go_simp
        go_at_call 53
        refine (replace_any (i := lo) (j := hi) hT9.row HIJ.out HJL.out hr9 hN9.out HLen.out).mono ?_
        rintro e u10 ⟨v', rfl, hr10, hg10, hn10⟩
        have hS10 : Vb 31 u10 w.heap.size [.int .i64 x.r.k, .int .i64 x.r.pr, .int .i64 x.r.to, .int .i64 x.r.po, .int .i64 x.r.x.v, .int .i64 x.r.x.m, .int .u8 x.r.x.b0, .int .u8 x.r.x.b1, .int .u8 x.r.x.b2, .int .u8 x.r.x.i0, .int .u8 x.r.x.i1, .int .u8 x.r.x.i2, .slice x.A x.r.os.length x.c] := (hg10.block _ (Vb.lt hS9) (fun e => HXB.out (hB9 : Below w.heap.size w u9) e.symm)).trans hS9
        have hT10 := hT9.blk_row hg10
        have hO10 := Kp.mk (hT9.outs_row hg10)
        have hy10 := Kp.mk (show Ob u10 y from by
          cases hv : v.ownBlock with
          | none => rw [hv] at hg10; exact hy9.keep hg10.size fun b cur hc => hg10.block b (Array.getElem?_eq_some_iff.1 hc).1 (by simp)
          | some g =>
            rw [hv] at hg10
            obtain ⟨_, zs, hrr⟩ := hT9.row.lt g hv
            exact hy9.row hrr hg10)
        have hF10 := (Fr2.of_below (t := t) (r := v.ownBlock) hB9).trans (Fr2.of_grown hg10) (.inl rfl)
        have hn10 := Kp.mk (show Nx w v v' from hn10.elim (fun e => .inl e) (fun ⟨k, e, h2⟩ => .inr ⟨k, e, by have := hB9.size; omega⟩))
        have hne10 := Kp.mk (show v'.ownBlock ≠ some t from fun e => by
          obtain ⟨_, zs, hrr⟩ := hr10.lt t e
          exact vb_ne hT10 hrr (by decide) rfl)
        obtain ⟨A2, c3, rfl, _⟩ := hr10.form
        generalize (its.take lo ++ [y] ++ its.drop hi).length = nn at *
        refine hK.out _ _ hS10 (fun _ => ?_)
        clear hK K hT9 hr9 hy9 hB9 hS9 hg10
        try simp only [Act.put, List.setIfInBounds_toArray, List.set_cons_zero, List.set_cons_succ]
        refine takeD (i := 11) (v := .pointer (some ⟨t, 0, none⟩)) (some 46) rfl rfl (by kernel_rfl) (by kernel_rfl) (by kernel_rfl) (fun _ _ _ h => h) (Or.inl ⟨by rfl, ?_⟩) hS10 ?_
        · rintro w' _
          go_simp
        try simp only [Act.put, List.setIfInBounds_toArray, List.set_cons_zero, List.set_cons_succ]
        refine takeD (i := 12) (v := .pointer (some ⟨t, 2, none⟩)) (some 47) rfl rfl (by kernel_rfl) (by kernel_rfl) (by kernel_rfl) (fun _ _ _ h => h) (Or.inl ⟨by rfl, ?_⟩) hS10 ?_
        · rintro w' _
          go_simp
        try simp only [Act.put, List.setIfInBounds_toArray, List.set_cons_zero, List.set_cons_succ]
        refine wpAnyH_ready (rs := [13]) (by kernel_rfl) (by simp) ?_
        refine AllReadyH.cons rfl (fun K hK => ?_) AllReadyH.nil
        try rw [if_pos (by rfl)]
        have hf := hT10.free
        have d2 := hT10.cell 2 rfl
        go_simp
        have hg11 := grownBy_set u10 t 2 (.slice A2 nn c3)
        have hS11 := Vb.grown hS10 hg11 (by have := HTX.out; omega)
        refine hK.out _ _ hS11 (fun _ => ?_)
        clear hK K hf d2
        try simp only [Act.put, List.setIfInBounds_toArray, List.set_cons_zero, List.set_cons_succ]
        refine wpAnyH_done (by kernel_rfl) ?_ _
        have hT11 := hT10.set 2 (.slice A2 nn c3)
        have hr11 := hr10.grown hg11 (.inr hne10.out)
        have hF11 := hF10.trans (Fr2.of_grown' hg11) (.inl rfl)
        have hO11 := Kp.mk (fun z (hz : z ∈ its) => (hO10.out z hz).tab hT10 hg11)
        have hy11 := Kp.mk (hy10.out.tab hT10 hg11)
        clear hO10 hy10 hT10 hr10 hF10 hS10 hS11 hg11
        generalize u10.setCell ⟨t, 2, none⟩ (.slice A2 nn c3) = u11 at *
        go_wp2_with fail
        go_ret
        refine ⟨_, its.take lo ++ [y] ++ its.drop hi, by rw [HE3.out]; rfl, ?_, ⟨hT11, hr11, ?_⟩, hF11, hn10.out, ?_⟩
        · rw [HL3.out, ← hyr.out]; simp [rls, List.map_take, List.map_drop]
        · intro z hz
          simp only [List.mem_append, List.mem_singleton] at hz
          rcases hz with (hz | rfl) | hz
          · exact hO11.out z (List.mem_of_mem_take hz)
          · exact hy11.out
          · exact hO11.out z (List.mem_of_mem_drop hz)
        · intro X hX hf z hz
          simp only [List.mem_append, List.mem_singleton] at hz
          rcases hz with (hz | rfl) | hz
          · exact hX z (List.mem_of_mem_take hz)
          · exact fun hn a e => hf _ (hy8.out hn a e)
          · exact hX z (List.mem_of_mem_drop hz)
  · try rw [if_pos (by rfl)]
    go_simp
    go_at_call 50
    refine (copyX_any (w := u0) x (HX.out.below' hBu HB.out) (by have := HB.out; have := hBu.size; omega) HXL.out).mono ?_
    rintro e u8 ⟨y, hyr, rfl, hyo, hyf, hb8⟩
    replace hyr := Kp.mk hyr
    have hS8 := Vb.below hS0 hb8 (Vb.lt hS0)
    have hT8 := hT.below hb8
    have hB8 := hBu.trans (hb8.mono hBu.size)
    have hy8 := Kp.mk (show Fre w.heap.size y from fun hn a e => by have := hyf hn a e; have := hBu.size; omega)
    refine hK.out _ _ hS8 (fun _ => ?_)
    clear hK K hb8 hyf
    try simp only [Act.put, List.setIfInBounds_toArray, List.set_cons_zero, List.set_cons_succ]
    refine wpAnyH_ready (rs := [4, 9]) (by kernel_rfl) (by simp) ?_
    refine AllReadyH.cons rfl (fun K hK => ?_) (AllReadyH.cons rfl (fun K hK => ?_) AllReadyH.nil)
    · try rw [if_pos (by rfl)]
      have c2 := hT8.blk.cell 2 rfl
      go_simp
      refine hK.out _ _ hS8 (fun _ => ?_)
      clear hK K c2
      try simp only [Act.put, List.setIfInBounds_toArray, List.set_cons_zero, List.set_cons_succ]
      refine wpAnyH_ready (rs := [9]) (by kernel_rfl) (by simp) ?_
      refine AllReadyH.cons rfl (fun K hK => ?_) AllReadyH.nil
      · try rw [if_pos (by rfl)]
        have hba := below_alloc u8 (.cells #[.int .i64 y.r.k, .int .i64 y.r.pr, .int .i64 y.r.to, .int .i64 y.r.po, .int .i64 y.r.x.v, .int .i64 y.r.x.m, .int .u8 y.r.x.b0, .int .u8 y.r.x.b1, .int .u8 y.r.x.b2, .int .u8 y.r.x.i0, .int .u8 y.r.x.i1, .int .u8 y.r.x.i2, .slice y.A y.r.os.length y.c] 31)
        have hr9 := rowb_one u8 y
        have hT9 := hT8.below hba
        have hB9 := hB8.trans (hba.mono hB8.size)
        have hS9 := Vb.below hS8 hba (Vb.lt hS8)
        have hy9 := hyo.below hba
        have hN9 := Kp.mk (show v.ownBlock ≠ some u8.heap.size from fun e => by have := (hT8.row.lt _ e).1; omega)
        go_simp
        refine hK.out _ _ hS9 (fun _ => ?_)
        clear hK K hba
        try simp only [Act.put, List.setIfInBounds_toArray, List.set_cons_zero, List.set_cons_succ]
        generalize hu9 : u8.alloc (.cells #[.int .i64 y.r.k, .int .i64 y.r.pr, .int .i64 y.r.to, .int .i64 y.r.po, .int .i64 y.r.x.v, .int .i64 y.r.x.m, .int .u8 y.r.x.b0, .int .u8 y.r.x.b1, .int .u8 y.r.x.b2, .int .u8 y.r.x.i0, .int .u8 y.r.x.i1, .int .u8 y.r.x.i2, .slice y.A y.r.os.length y.c] 31) = u9 at *
        clear hu9
        generalize u8.heap.size = gb at *
        refine wpAnyH_ready (rs := [10]) (by kernel_rfl) (by simp) ?_
        refine AllReadyH.cons rfl (fun K hK => ?_) AllReadyH.nil
        try rw [if_pos (by rfl)]
        go_simp
        go_at_call 53
        refine (replace_any (i := lo) (j := hi) hT9.row HIJ.out HJL.out hr9 hN9.out HLen.out).mono ?_
        rintro e u10 ⟨v', rfl, hr10, hg10, hn10⟩
        have hS10 : Vb 31 u10 w.heap.size [.int .i64 x.r.k, .int .i64 x.r.pr, .int .i64 x.r.to, .int .i64 x.r.po, .int .i64 x.r.x.v, .int .i64 x.r.x.m, .int .u8 x.r.x.b0, .int .u8 x.r.x.b1, .int .u8 x.r.x.b2, .int .u8 x.r.x.i0, .int .u8 x.r.x.i1, .int .u8 x.r.x.i2, .slice x.A x.r.os.length x.c] := (hg10.block _ (Vb.lt hS9) (fun e => HXB.out (hB9 : Below w.heap.size w u9) e.symm)).trans hS9
        have hT10 := hT9.blk_row hg10
        have hO10 := Kp.mk (hT9.outs_row hg10)
        have hy10 := Kp.mk (show Ob u10 y from by
          cases hv : v.ownBlock with
          | none => rw [hv] at hg10; exact hy9.keep hg10.size fun b cur hc => hg10.block b (Array.getElem?_eq_some_iff.1 hc).1 (by simp)
          | some g =>
            rw [hv] at hg10
            obtain ⟨_, zs, hrr⟩ := hT9.row.lt g hv
            exact hy9.row hrr hg10)
        have hF10 := (Fr2.of_below (t := t) (r := v.ownBlock) hB9).trans (Fr2.of_grown hg10) (.inl rfl)
        have hn10 := Kp.mk (show Nx w v v' from hn10.elim (fun e => .inl e) (fun ⟨k, e, h2⟩ => .inr ⟨k, e, by have := hB9.size; omega⟩))
        have hne10 := Kp.mk (show v'.ownBlock ≠ some t from fun e => by
          obtain ⟨_, zs, hrr⟩ := hr10.lt t e
          exact vb_ne hT10 hrr (by decide) rfl)
        obtain ⟨A2, c3, rfl, _⟩ := hr10.form
        generalize (its.take lo ++ [y] ++ its.drop hi).length = nn at *
        refine hK.out _ _ hS10 (fun _ => ?_)
        clear hK K hT9 hr9 hy9 hB9 hS9 hg10
        try simp only [Act.put, List.setIfInBounds_toArray, List.set_cons_zero, List.set_cons_succ]
        refine takeD (i := 11) (v := .pointer (some ⟨t, 0, none⟩)) (some 46) rfl rfl (by kernel_rfl) (by kernel_rfl) (by kernel_rfl) (fun _ _ _ h => h) (Or.inl ⟨by rfl, ?_⟩) hS10 ?_
        · rintro w' _
          go_simp
        try simp only [Act.put, List.setIfInBounds_toArray, List.set_cons_zero, List.set_cons_succ]
        refine takeD (i := 12) (v := .pointer (some ⟨t, 2, none⟩)) (some 47) rfl rfl (by kernel_rfl) (by kernel_rfl) (by kernel_rfl) (fun _ _ _ h => h) (Or.inl ⟨by rfl, ?_⟩) hS10 ?_
        · rintro w' _
          go_simp
        try simp only [Act.put, List.setIfInBounds_toArray, List.set_cons_zero, List.set_cons_succ]
        refine wpAnyH_ready (rs := [13]) (by kernel_rfl) (by simp) ?_
        refine AllReadyH.cons rfl (fun K hK => ?_) AllReadyH.nil
        try rw [if_pos (by rfl)]
        have hf := hT10.free
        have d2 := hT10.cell 2 rfl
        go_simp
        have hg11 := grownBy_set u10 t 2 (.slice A2 nn c3)
        have hS11 := Vb.grown hS10 hg11 (by have := HTX.out; omega)
        refine hK.out _ _ hS11 (fun _ => ?_)
        clear hK K hf d2
        try simp only [Act.put, List.setIfInBounds_toArray, List.set_cons_zero, List.set_cons_succ]
        refine wpAnyH_done (by kernel_rfl) ?_ _
        have hT11 := hT10.set 2 (.slice A2 nn c3)
        have hr11 := hr10.grown hg11 (.inr hne10.out)
        have hF11 := hF10.trans (Fr2.of_grown' hg11) (.inl rfl)
        have hO11 := Kp.mk (fun z (hz : z ∈ its) => (hO10.out z hz).tab hT10 hg11)
        have hy11 := Kp.mk (hy10.out.tab hT10 hg11)
        clear hO10 hy10 hT10 hr10 hF10 hS10 hS11 hg11
        generalize u10.setCell ⟨t, 2, none⟩ (.slice A2 nn c3) = u11 at *
        go_wp2_with fail
        go_ret
        refine ⟨_, its.take lo ++ [y] ++ its.drop hi, by rw [HE3.out]; rfl, ?_, ⟨hT11, hr11, ?_⟩, hF11, hn10.out, ?_⟩
        · rw [HL3.out, ← hyr.out]; simp [rls, List.map_take, List.map_drop]
        · intro z hz
          simp only [List.mem_append, List.mem_singleton] at hz
          rcases hz with (hz | rfl) | hz
          · exact hO11.out z (List.mem_of_mem_take hz)
          · exact hy11.out
          · exact hO11.out z (List.mem_of_mem_drop hz)
        · intro X hX hf z hz
          simp only [List.mem_append, List.mem_singleton] at hz
          rcases hz with (hz | rfl) | hz
          · exact hX z (List.mem_of_mem_take hz)
          · exact fun hn a e => hf _ (hy8.out hn a e)
          · exact hX z (List.mem_of_mem_drop hz)
    · try rw [if_pos (by rfl)]
      have hba := below_alloc u8 (.cells #[.int .i64 y.r.k, .int .i64 y.r.pr, .int .i64 y.r.to, .int .i64 y.r.po, .int .i64 y.r.x.v, .int .i64 y.r.x.m, .int .u8 y.r.x.b0, .int .u8 y.r.x.b1, .int .u8 y.r.x.b2, .int .u8 y.r.x.i0, .int .u8 y.r.x.i1, .int .u8 y.r.x.i2, .slice y.A y.r.os.length y.c] 31)
      have hr9 := rowb_one u8 y
      have hT9 := hT8.below hba
      have hB9 := hB8.trans (hba.mono hB8.size)
      have hS9 := Vb.below hS8 hba (Vb.lt hS8)
      have hy9 := hyo.below hba
      have hN9 := Kp.mk (show v.ownBlock ≠ some u8.heap.size from fun e => by have := (hT8.row.lt _ e).1; omega)
      go_simp
      refine hK.out _ _ hS9 (fun _ => ?_)
      clear hK K hba
      try simp only [Act.put, List.setIfInBounds_toArray, List.set_cons_zero, List.set_cons_succ]
      generalize hu9 : u8.alloc (.cells #[.int .i64 y.r.k, .int .i64 y.r.pr, .int .i64 y.r.to, .int .i64 y.r.po, .int .i64 y.r.x.v, .int .i64 y.r.x.m, .int .u8 y.r.x.b0, .int .u8 y.r.x.b1, .int .u8 y.r.x.b2, .int .u8 y.r.x.i0, .int .u8 y.r.x.i1, .int .u8 y.r.x.i2, .slice y.A y.r.os.length y.c] 31) = u9 at *
      clear hu9
      generalize u8.heap.size = gb at *
      refine wpAnyH_ready (rs := [4]) (by kernel_rfl) (by simp) ?_
      refine AllReadyH.cons rfl (fun K hK => ?_) AllReadyH.nil
      · try rw [if_pos (by rfl)]
        have c2 := hT9.blk.cell 2 rfl
        go_simp
        refine hK.out _ _ hS9 (fun _ => ?_)
        clear hK K c2
        try simp only [Act.put, List.setIfInBounds_toArray, List.set_cons_zero, List.set_cons_succ]
        refine wpAnyH_ready (rs := [10]) (by kernel_rfl) (by simp) ?_
        refine AllReadyH.cons rfl (fun K hK => ?_) AllReadyH.nil
        try rw [if_pos (by rfl)]
        go_simp
        go_at_call 53
        refine (replace_any (i := lo) (j := hi) hT9.row HIJ.out HJL.out hr9 hN9.out HLen.out).mono ?_
        rintro e u10 ⟨v', rfl, hr10, hg10, hn10⟩
        have hS10 : Vb 31 u10 w.heap.size [.int .i64 x.r.k, .int .i64 x.r.pr, .int .i64 x.r.to, .int .i64 x.r.po, .int .i64 x.r.x.v, .int .i64 x.r.x.m, .int .u8 x.r.x.b0, .int .u8 x.r.x.b1, .int .u8 x.r.x.b2, .int .u8 x.r.x.i0, .int .u8 x.r.x.i1, .int .u8 x.r.x.i2, .slice x.A x.r.os.length x.c] := (hg10.block _ (Vb.lt hS9) (fun e => HXB.out (hB9 : Below w.heap.size w u9) e.symm)).trans hS9
        have hT10 := hT9.blk_row hg10
        have hO10 := Kp.mk (hT9.outs_row hg10)
        have hy10 := Kp.mk (show Ob u10 y from by
          cases hv : v.ownBlock with
          | none => rw [hv] at hg10; exact hy9.keep hg10.size fun b cur hc => hg10.block b (Array.getElem?_eq_some_iff.1 hc).1 (by simp)
          | some g =>
            rw [hv] at hg10
            obtain ⟨_, zs, hrr⟩ := hT9.row.lt g hv
            exact hy9.row hrr hg10)
        have hF10 := (Fr2.of_below (t := t) (r := v.ownBlock) hB9).trans (Fr2.of_grown hg10) (.inl rfl)
        have hn10 := Kp.mk (show Nx w v v' from hn10.elim (fun e => .inl e) (fun ⟨k, e, h2⟩ => .inr ⟨k, e, by have := hB9.size; omega⟩))
        have hne10 := Kp.mk (show v'.ownBlock ≠ some t from fun e => by
          obtain ⟨_, zs, hrr⟩ := hr10.lt t e
          exact vb_ne hT10 hrr (by decide) rfl)
        obtain ⟨A2, c3, rfl, _⟩ := hr10.form
        generalize (its.take lo ++ [y] ++ its.drop hi).length = nn at *
        refine hK.out _ _ hS10 (fun _ => ?_)
        clear hK K hT9 hr9 hy9 hB9 hS9 hg10
        try simp only [Act.put, List.setIfInBounds_toArray, List.set_cons_zero, List.set_cons_succ]
        refine takeD (i := 11) (v := .pointer (some ⟨t, 0, none⟩)) (some 46) rfl rfl (by kernel_rfl) (by kernel_rfl) (by kernel_rfl) (fun _ _ _ h => h) (Or.inl ⟨by rfl, ?_⟩) hS10 ?_
        · rintro w' _
          go_simp
        try simp only [Act.put, List.setIfInBounds_toArray, List.set_cons_zero, List.set_cons_succ]
        refine takeD (i := 12) (v := .pointer (some ⟨t, 2, none⟩)) (some 47) rfl rfl (by kernel_rfl) (by kernel_rfl) (by kernel_rfl) (fun _ _ _ h => h) (Or.inl ⟨by rfl, ?_⟩) hS10 ?_
        · rintro w' _
          go_simp
        try simp only [Act.put, List.setIfInBounds_toArray, List.set_cons_zero, List.set_cons_succ]
        refine wpAnyH_ready (rs := [13]) (by kernel_rfl) (by simp) ?_
        refine AllReadyH.cons rfl (fun K hK => ?_) AllReadyH.nil
        try rw [if_pos (by rfl)]
        have hf := hT10.free
        have d2 := hT10.cell 2 rfl
        go_simp
        have hg11 := grownBy_set u10 t 2 (.slice A2 nn c3)
        have hS11 := Vb.grown hS10 hg11 (by have := HTX.out; omega)
        refine hK.out _ _ hS11 (fun _ => ?_)
        clear hK K hf d2
        try simp only [Act.put, List.setIfInBounds_toArray, List.set_cons_zero, List.set_cons_succ]
        refine wpAnyH_done (by kernel_rfl) ?_ _
        have hT11 := hT10.set 2 (.slice A2 nn c3)
        have hr11 := hr10.grown hg11 (.inr hne10.out)
        have hF11 := hF10.trans (Fr2.of_grown' hg11) (.inl rfl)
        have hO11 := Kp.mk (fun z (hz : z ∈ its) => (hO10.out z hz).tab hT10 hg11)
        have hy11 := Kp.mk (hy10.out.tab hT10 hg11)
        clear hO10 hy10 hT10 hr10 hF10 hS10 hS11 hg11
        generalize u10.setCell ⟨t, 2, none⟩ (.slice A2 nn c3) = u11 at *
        go_wp2_with fail
        go_ret
        refine ⟨_, its.take lo ++ [y] ++ its.drop hi, by rw [HE3.out]; rfl, ?_, ⟨hT11, hr11, ?_⟩, hF11, hn10.out, ?_⟩
        · rw [HL3.out, ← hyr.out]; simp [rls, List.map_take, List.map_drop]
        · intro z hz
          simp only [List.mem_append, List.mem_singleton] at hz
          rcases hz with (hz | rfl) | hz
          · exact hO11.out z (List.mem_of_mem_take hz)
          · exact hy11.out
          · exact hO11.out z (List.mem_of_mem_drop hz)
        · intro X hX hf z hz
          simp only [List.mem_append, List.mem_singleton] at hz
          rcases hz with (hz | rfl) | hz
          · exact hX z (List.mem_of_mem_take hz)
          · exact fun hn a e => hf _ (hy8.out hn a e)
          · exact hX z (List.mem_of_mem_drop hz)
end
end Go.Proofs.Ytcolklkjaifplaa.Oct
