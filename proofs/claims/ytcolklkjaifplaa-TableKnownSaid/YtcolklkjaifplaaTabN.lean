/- Contracts of layer 9: Rules, Del. Contracts of layer 9: Del. -/
import Derived.Test.YtcolklkjaifplaaTabL
import Derived.Laws.MakeOwn
namespace Go.Proofs.Ytcolklkjaifplaa.Oct
open Go.RowKit
set_option linter.unusedVariables false
set_option linter.unusedSimpArgs false

theorem rowb_one (w : World) (y : It) : Rowb (w.alloc (.cells #[.int .i64 y.r.k, .int .i64 y.r.pr, .int .i64 y.r.to, .int .i64 y.r.po, .int .i64 y.r.x.v, .int .i64 y.r.x.m, .int .u8 y.r.x.b0, .int .u8 y.r.x.b1, .int .u8 y.r.x.b2, .int .u8 y.r.x.i0, .int .u8 y.r.x.i1, .int .u8 y.r.x.i2, .slice y.A y.r.os.length y.c] 31)) w.heap.size [y] := by
  have := Vb.new 31 w (([y] : List It).flatMap ics)
  rw [show ([y] : List It).flatMap ics = ics y by simp] at this
  unfold Rowb
  rw [show ([y] : List It).flatMap ics = ics y by simp]
  exact this
theorem copyX_any {w : World} {B : Nat} (x : It) (h : Ro w B x.A x.r.os.length x.c x.r.os) (hB : B ≤ w.heap.size) (hsz : x.r.os.length ≤ 1000000000) : Calls Try.prog 50 #[.agg (ics x).toArray] w fun e w' => ∃ y : It, y.r = x.r ∧ e = .returned (.agg #[.int .i64 y.r.k, .int .i64 y.r.pr, .int .i64 y.r.to, .int .i64 y.r.po, .int .i64 y.r.x.v, .int .i64 y.r.x.m, .int .u8 y.r.x.b0, .int .u8 y.r.x.b1, .int .u8 y.r.x.b2, .int .u8 y.r.x.i0, .int .u8 y.r.x.i1, .int .u8 y.r.x.i2, .slice y.A y.r.os.length y.c]) ∧ Ob w' y ∧ Fre w.heap.size y ∧ Below w.heap.size w w' := copyR_any x h hB hsz
theorem run_makeR (n : Nat) (hn : n ≤ 1000000) (w : World) : (Instr.makeSlice 39 (.int .i64 0) (.int .i64 n)).run Try.prog w = .ok (.slice (some ⟨w.heap.size, 0, none⟩) 0 n) (w.alloc (.cells (Builtin.zeroCells (Value.agg (ics zIt).toArray).cells n) 31)) := by
  obtain ⟨i0, hi0, hz0, hz1, hz2⟩ := info_parts info_rule
  have hr := run_make (P := Try.prog) w 39 31 i0 _ Try.underlying39 hi0 hz0 .i64 .i64 0 n (by omega) (by omega) (by rw [hz2]; omega) (by omega)
  rw [hr, hz1]
  simp
  rfl
theorem rows_made (n : Nat) (hn : n ≤ 1000000) (w : World) : RowS (w.alloc (.cells (Builtin.zeroCells (Value.agg (ics zIt).toArray).cells n) 31)) (.slice (some ⟨w.heap.size, 0, none⟩) 0 n) [] := by
  refine .inr ⟨w.heap.size, List.replicate n zIt, by simp, ?_, by simp; unfold maxLen; omega⟩
  have := Vb.new 31 w ((List.replicate n zIt).flatMap ics)
  rw [← zeros_fl] at this
  rw [List.nil_append]
  unfold Rowb
  rw [← zeros_fl]
  simpa using this
theorem run_makeR2 (n : Nat) (hn : n ≤ 1000000) (w : World) : (Instr.makeSlice 39 (.int .i64 0) (.int .i64 n)).run Try.prog w = .ok (.slice (some ⟨w.heap.size, 0, none⟩) 0 n) (w.alloc (.cells (Builtin.zeroCells (ics zIt).toArray n) 31)) := run_makeR n hn w
theorem rows_made2 (n : Nat) (hn : n ≤ 1000000) (w : World) : RowS (w.alloc (.cells (Builtin.zeroCells (ics zIt).toArray n) 31)) (.slice (some ⟨w.heap.size, 0, none⟩) 0 n) [] := rows_made n hn w
theorem rls_step {its : List It} {k : Nat} {x : It} (h : its[k]? = some x) : (rls its).take (k + 1) = (rls its).take k ++ [x.r] := by
  rw [List.take_add_one, rls_at h]
  rfl
section
variable {w : World} {t : Nat} {v : Value} {room : Int} {its : List It}
set_option maxRecDepth 100000 in
set_option maxHeartbeats 8000000 in
theorem rules_tab (h : Tb w t v room its) (hok : ∀ x ∈ rls its, okR x) (hl : its.length ≤ 1000) : Calls Try.prog 17 #[.pointer (some ⟨t, 0, none⟩)] w fun e w' => ∃ v' its', e = .returned v' ∧ RowS w' v' its' ∧ rls its' = rls its ∧ (∀ y ∈ its', Ob w' y ∧ Fre w.heap.size y) ∧ (∀ k, v'.ownBlock = some k → w.heap.size ≤ k) ∧ Below w.heap.size w w' := by
  obtain ⟨A, c, hv, hs, hc1, hc2, hc3⟩ := h.row.form
  obtain ⟨n, hn⟩ : ∃ n, its.length = n := ⟨_, rfl⟩
  rw [hn] at hl hv hs hc1
  subst hv
  have c2 := h.blk.cell 2 rfl
  have hmk := run_makeR2 n (by omega) w
  have hR0 := rows_made2 n (by omega) w
  have hba := below_alloc w (.cells (Builtin.zeroCells (ics zIt).toArray n) 31)
  have c2' := (h.blk.below hba h.blk.lt).cell 2 rfl
  have HT := Kp.mk h
  have HS := Kp.mk hs
  have HOK := Kp.mk hok
  clear hok hs hc1 hc2 hc3
  go_enter Try.func17, Try.ntmps17
  go_upto_region 3 with (first | (refine (isNone_no h).mono ?_; rintro e w1 ⟨rfl, rfl⟩))
  clear h
  go_upto_region 4 with fail
  generalize w1.alloc (.cells (Builtin.zeroCells (ics zIt).toArray n) 31) = w0 at *
  have hF0 := Kp.mk (show ∀ k, (Value.slice (some ⟨w1.heap.size, 0, none⟩) 0 n).ownBlock = some k → w1.heap.size ≤ k from fun k hk => by simp [Value.ownBlock] at hk; omega)
  clear hmk c2
  generalize (Value.slice (some ⟨w1.heap.size, 0, none⟩) 0 n) = v0 at *
  go_wp2_with fail
  go_loopw [3, 5, 19] (fun s3 _ s19 wr => ∃ (k : Nat) (ys : List It), s19 = .int .i64 k ∧ k ≤ n ∧ RowS wr s3 ys ∧ Kp (rls ys = (rls its).take k) ∧ ys.length = k ∧ Kp (∀ y ∈ ys, Ob wr y ∧ Fre w1.heap.size y) ∧ Kp (∀ k, s3.ownBlock = some k → w1.heap.size ≤ k) ∧ Below w1.heap.size w1 wr) (fun _ _ s19 _ => n - (intOf s19).toNat)
  case atStart => exact ⟨0, [], rfl, Nat.zero_le _, hR0, Kp.mk rfl, rfl, Kp.mk (fun y hy => by simp at hy), hF0, hba⟩
  case round =>
    clear hR0 hF0 hba c2'
    obtain ⟨k, ys, rfl, hk, hR, HY, hyl, HO, HF, hB⟩ := hrel
    by_cases hlt : k < n
    · obtain ⟨x, hx⟩ : ∃ x, its[k]? = some x := ⟨_, List.getElem?_eq_getElem (by omega)⟩
      have HST := Kp.mk (rls_step hx)
      have hT := HT.out.below hB
      have hox := hT.outs x (List.mem_of_getElem? hx)
      have hxl : x.r.os.length ≤ 1000000000 := by have := okR_len (HOK.out x.r (List.mem_of_getElem? (rls_at hx))); omega
      have hs := HS.out.below hB
      obtain ⟨_, hs⟩ := hs
      rcases hs with ⟨_, h0⟩ | ⟨g, j, zs, rfl, hr, hj, he⟩
      · omega
      have hz : zs[j + k]? = some x := by
        have := congrArg (fun l => l[k]?) he
        simp only [List.getElem?_take, List.getElem?_drop, if_pos hlt] at this
        rw [this]; exact hx
      clear he hj hT hx
      have hro := hox.ro
      clear hox
      go_upto_region 7 with (first | refine wpList_load_vb (vs := ics x) rfl (.tmp 21) rfl rfl hr (fl_off hz (by omega)) agg_rule ?_ | (refine wpList_store_new (vs := ics x) rfl (.tmp 5) (.tmp 22) rfl rfl rfl rfl rfl rfl agg_rule rfl ?_; intro w5 ho hb5 hz5))
      have hR5 := hR.below hb5
      have HO5 := Kp.mk (show ∀ y ∈ ys, Ob w5 y ∧ Fre w1.heap.size y from fun y hy => ⟨(HO.out y hy).1.below hb5, (HO.out y hy).2⟩)
      have hB5 := hB.trans (hb5.mono hB.size)
      have hro5 := hro.below hb5
      have hz5' := hb5.size
      have hw5 := hB.size
      clear hR HO hB hro hr hz
      have HC := Kp.mk (copyX_any (w := w5) x hro5 hz5' hxl)
      clear hro5
      go_upto_region 8 with (first | refine wpList_load_vb (vs := ics x) rfl (.tmp 5) rfl rfl ho rfl agg_rule ?_)
      refine HC.out.mono ?_
      rintro e w6 ⟨y, hyr, rfl, hyo, hyf, hb6⟩
      replace hyr := Kp.mk hyr
      have hba6 := below_alloc w6 (.cells #[.int .i64 y.r.k, .int .i64 y.r.pr, .int .i64 y.r.to, .int .i64 y.r.po, .int .i64 y.r.x.v, .int .i64 y.r.x.m, .int .u8 y.r.x.b0, .int .u8 y.r.x.b1, .int .u8 y.r.x.b2, .int .u8 y.r.x.i0, .int .u8 y.r.x.i1, .int .u8 y.r.x.i2, .slice y.A y.r.os.length y.c] 31)
      have hr6 := rowb_one w6 y
      have hR6 := (hR5.below hb6).below hba6
      obtain ⟨v7, w7, hrun7, hR7, hg7, hN7⟩ := run_appendR (c := 1) 39 hR6 (⟨rfl, .inr ⟨w6.heap.size, 0, [y], by simp, hr6, by simp, rfl⟩⟩ : SrcR _ (some ⟨w6.heap.size, 0, none⟩) 1 [y]) (by omega)
      have hbb := hb6.trans (hba6.mono hb6.size)
      have hN6 := hbb.size
      have HO7 := Kp.mk (show ∀ z ∈ ys ++ [y], Ob w7 z ∧ Fre w1.heap.size z from by
        have key : ∀ z, Ob (w6.alloc (.cells #[.int .i64 y.r.k, .int .i64 y.r.pr, .int .i64 y.r.to, .int .i64 y.r.po, .int .i64 y.r.x.v, .int .i64 y.r.x.m, .int .u8 y.r.x.b0, .int .u8 y.r.x.b1, .int .u8 y.r.x.b2, .int .u8 y.r.x.i0, .int .u8 y.r.x.i1, .int .u8 y.r.x.i2, .slice y.A y.r.os.length y.c] 31)) z → Ob w7 z := fun z hz => by
          cases hv : Value.ownBlock u3 with
          | none => rw [hv] at hg7; exact hz.keep hg7.size fun b cur hc => hg7.block b (Array.getElem?_eq_some_iff.1 hc).1 (by simp)
          | some g =>
            rw [hv] at hg7
            obtain ⟨_, zs, hrr⟩ := hR6.lt g hv
            exact hz.row hrr hg7
        intro z hz
        rcases List.mem_append.1 hz with hz | hz
        · exact ⟨key z ((HO5.out z hz).1.below hbb), (HO5.out z hz).2⟩
        · have hz := List.mem_singleton.1 hz
          subst hz
          exact ⟨key z (hyo.below hba6), fun hn a e => by have := hyf hn a e; omega⟩)
      have hB7 : Below w1.heap.size w1 w7 := (hB5.trans (hbb.mono hB5.size)).grown hg7 (by omega) (fun k e => HF.out k e)
      have HF7 := Kp.mk (show ∀ k, v7.ownBlock = some k → w1.heap.size ≤ k from fun k hk => by
        rcases hN7 with e | ⟨k2, e, h2⟩
        · exact HF.out k (e ▸ hk)
        · rw [e] at hk
          have := Option.some.inj hk
          omega)
      have HY7 := Kp.mk (show rls (ys ++ [y]) = (rls its).take (k + 1) by rw [HST.out, ← HY.out, ← hyr.out]; simp [rls])
      have hyl7 : (ys ++ [y]).length = k + 1 := by simp [hyl]
      clear hR5 HO5 hB5 hr6 hR6 hg7 hN7 hyo hyf hbb hba6 hb6 hb5 HF
      go_wp2_with (at_builtin; refine Lib.wpList_append_run _ rfl _ _ _ _ rfl _ _ rfl rfl _ _ hrun7 ?_)
      go_roundw
      case rel => exact ⟨k + 1, ys ++ [y], by go_num, by omega, hR7, HY7, hyl7, HO7, HF7, hB7⟩
      case measure => simp [intOf]; omega
    · obtain rfl : k = n := by omega
      go_wp2_with fail
      go_ret
      exact ⟨_, ys, rfl, hR, by rw [HY.out, List.take_of_length_le (by rw [rls_len]; omega)], HO.out, HF.out, hB⟩
end
end Go.Proofs.Ytcolklkjaifplaa.Oct

namespace Go.Proofs.Ytcolklkjaifplaa.Oct
open Go.RowKit
set_option linter.unusedVariables false
set_option linter.unusedSimpArgs false

section
variable {w : World} {t : Nat} {v : Value} {room : Int} {its : List It}
def delE (r : RuleV) (l : List RuleV) : Int := if checkR r = 0 then (if loP r l = hiP r l then 91 else 0) else checkR r
def delL (r : RuleV) (l : List RuleV) : List RuleV := if delE r l = 0 then tdel r l else l
set_option maxRecDepth 100000 in
set_option maxHeartbeats 8000000 in
theorem del_tab {B : Nat} (h : Tb w t v room its) (hS : Srt (rls its)) (hl : its.length ≤ 1000) (x : It) (hx : Ro w B x.A x.r.os.length x.c x.r.os) (hB : B ≤ w.heap.size) : Calls Try.prog 11 #[.pointer (some ⟨t, 0, none⟩), .agg (ics x).toArray] w fun e w' => ∃ v' its', e = .returned (.int .i64 (delE x.r (rls its))) ∧ rls its' = delL x.r (rls its) ∧ Tb w' t v' room its' ∧ Fr2 t v.ownBlock w w' ∧ Nx w v v' ∧ (∀ y ∈ its', y ∈ its) := by
  have hb0 := below_alloc w (.cells (ics x).toArray 31)
  have hv := Vb.new 31 w (ics x)
  have h1 := h.below hb0
  have hx1 := hx.below' hb0 hB
  have hB1 : B ≤ (w.alloc (.cells (ics x).toArray 31)).heap.size := by have := hb0.size; omega
  obtain ⟨dE, hde⟩ : ∃ dE, dE = delE x.r (rls its) := ⟨_, rfl⟩
  obtain ⟨dL, hdl⟩ : ∃ dL, dL = delL x.r (rls its) := ⟨_, rfl⟩
  rw [← hde, ← hdl]
  have HE := Kp.mk hde
  have HL := Kp.mk hdl
  clear hde hdl
  have l1 := lo_hi (r := x.r) hS
  have l2 := hi_lo (r := x.r) hS
  have l3 := hi_le (r := x.r) (l := rls its)
  rw [rls_len] at l3
  clear h hx hB
  go_enter Try.func11, Try.ntmps11
  go_upto_region 1 with fail
  generalize w.alloc (.cells (ics x).toArray 31) = w0 at *
  have HCk := Kp.mk (check_tab h1 x hx1 hB1)
  go_upto_region 2 with (first | refine wpList_load_vb (vs := ics x) rfl (.tmp 3) rfl rfl hv rfl agg_rule ?_ | (refine HCk.out.mono ?_; rintro e w1 ⟨rfl, hb1⟩))
  have h2 := h1.below hb1
  have hv2 := hv.below hb1 hv.lt
  have hBl := hb0.trans (hb1.mono hb0.size)
  clear hv HCk hx1 hB1 hb1 h1 hb0
  by_cases hck : checkR x.r = 0
  rotate_left
  · have HE2 := Kp.mk (show dE = checkR x.r by rw [HE.out]; unfold delE; rw [if_neg hck])
    have HL2 := Kp.mk (show dL = rls its by rw [HL.out]; unfold delL delE; rw [if_neg hck, if_neg hck])
    have hck' : (checkR x.r != 0) = true := by simpa using hck
    clear HE HL
    go_wp2_with fail
    go_ret
    exact ⟨v, its, by rw [HE2.out]; rfl, HL2.out.symm, h2, Fr2.of_below hBl, .inl rfl, fun y hy => hy⟩
  have HSt := Kp.mk (stretch_any h2 hS hl x)
  have HE2 := Kp.mk (show dE = if loP x.r (rls its) = hiP x.r (rls its) then 91 else 0 by rw [HE.out]; unfold delE; rw [if_pos hck])
  have HL2 := Kp.mk (show dL = if loP x.r (rls its) = hiP x.r (rls its) then rls its else tdel x.r (rls its) by
    rw [HL.out]; unfold delL delE; rw [if_pos hck]; split <;> simp_all)
  have HD := Kp.mk (show tdel x.r (rls its) = (rls its).take (loP x.r (rls its)) ++ (rls its).drop (hiP x.r (rls its)) from rfl)
  clear HE HL hS
  have hck' : (checkR x.r != 0) = false := by simpa using hck
  generalize checkR x.r = ck at *
  subst hck
  generalize loP x.r (rls its) = lo at *
  generalize hiP x.r (rls its) = hi at *
  generalize tdel x.r (rls its) = td at *
  go_upto_region 4 with fail
  clear hck'
  replace l1 := Kp.mk l1
  replace l2 := Kp.mk l2
  replace l3 := Kp.mk l3
  go_upto_region 5 with (refine wpList_load_vb (vs := ics x) rfl (.tmp 3) rfl rfl hv2 rfl agg_rule ?_)
  refine HSt.out.mono ?_
  rintro e w2 ⟨rfl, hb2⟩
  go_upto_region 5 with fail
  replace l1 := l1.out
  replace l2 := l2.out
  replace l3 := l3.out
  have h3 := h2.below hb2
  have hBl2 := hBl.trans (hb2.mono hBl.size)
  clear hv2 HSt h2 hb2 hBl
  by_cases hlh : lo = hi
  · have HE3 := Kp.mk (show dE = 91 by rw [HE2.out, if_pos hlh])
    have HL3 := Kp.mk (show dL = rls its by rw [HL2.out, if_pos hlh])
    subst hlh
    clear HE2 HL2 HD l1 l2 l3
    go_wp2_with fail
    go_ret
    exact ⟨v, its, by rw [HE3.out]; rfl, HL3.out.symm, h3, Fr2.of_below hBl2, .inl rfl, fun y hy => hy⟩
  · have HE3 := Kp.mk (show dE = 0 by rw [HE2.out, if_neg hlh])
    have HL3 := Kp.mk (show dL = rls (its.take lo ++ its.drop hi) by rw [HL2.out, if_neg hlh, HD.out]; simp [rls, List.map_take, List.map_drop])
    have hlh' : ((lo : Int) == hi) = false := by simp; omega
    clear HE2 HL2 HD
    obtain rfl : hi = lo + 1 := by omega
    clear hlh hlh'
    have hlh' : ((lo : Int) == ((lo + 1 : Nat) : Int)) = false := by simp; omega
    have hrow := h3.row
    rcases hrow with ⟨rfl, rfl⟩ | ⟨g, ys, rfl, hr, hmx⟩
    · simp at l3
    have c2 := h3.blk.cell 2 rfl
    have HDel0 := delete_any (i := lo) hr hmx (by omega) hl
    rw [show ((lo + 1 : Nat) : Int) = (lo : Int) + 1 from by omega] at HDel0
    have HDel := Kp.mk HDel0
    clear HDel0
    have l4 := Kp.mk l3
    clear l1 l2 l3 hl hmx hr
    generalize its.length = n at *
    replace c2 := c2
    go_upto_region 8 with fail
    refine HDel.out.mono ?_
    rintro e w4 ⟨v', rfl, hr4, hg4, hob⟩
    obtain ⟨A2, c3, rfl, _⟩ := hr4.form
    generalize (its.take lo ++ its.drop (lo + 1)).length = nn at *
    have hT4 := h3.blk_row hg4
    have hO4 := h3.outs_row hg4
    have hf4 := hT4.free
    have d24 := hT4.cell 2 rfl
    go_upto_region 8 with fail
    have hT5 := hT4.set 2 (.slice A2 nn c3)
    have hg5 := grownBy_set w4 t 2 (.slice A2 nn c3)
    have hO5 := Kp.mk (fun y (hy : y ∈ its) => (hO4 y hy).tab hT4 hg5)
    have hr5 := hr4.grown hg5 (by rw [hob]; exact .inr (fun e => h3.ne (by rw [← e]; rfl)))
    have hF := (Fr2.of_below (t := t) (r := some g) hBl2).trans ((Fr2.of_grown hg4).trans (Fr2.of_grown' hg5) (.inl rfl)) (.inl rfl)
    clear hr4 hg4 hT4 hO4 hf4 d24 hg5 c2 HDel
    go_wp2_with fail
    go_ret
    refine ⟨_, _, by rw [HE3.out]; rfl, HL3.out.symm, ⟨hT5, hr5, fun y hy => hO5.out y ?_⟩, hF, .inl (by rw [hob]; rfl), fun y hy => ?_⟩
    all_goals (rcases List.mem_append.1 hy with hy | hy; · exact List.mem_of_mem_take hy
               · exact List.mem_of_mem_drop hy)
end
end Go.Proofs.Ytcolklkjaifplaa.Oct
