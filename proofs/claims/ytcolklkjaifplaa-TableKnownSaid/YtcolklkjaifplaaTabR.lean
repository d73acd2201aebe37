/- Contracts of layer 9's statements: works. -/
import Derived.Test.YtcolklkjaifplaaTabT
import Derived.Test.YtcolklkjaifplaaTabQ
namespace Go.Proofs.Ytcolklkjaifplaa.Oct
open Go.RowKit
set_option linter.unusedVariables false
set_option linter.unusedSimpArgs false

theorem only_7 (w : World) : Calls Try.prog 58 #[.agg #[.int .i64 0, .int .i64 (-1), .int .u8 0, .int .u8 0, .int .u8 0, .int .u8 0, .int .u8 0, .int .u8 0], .int .i64 1, .int .u8 255, .int .u8 7] w fun e w' => e = .returned (.tuple #[.agg #[.int .i64 0, .int .i64 (-1), .int .u8 0, .int .u8 255, .int .u8 0, .int .u8 0, .int .u8 7, .int .u8 0], .bool true]) ∧ Below w.heap.size w w' :=
  (onlyM_any ⟨0, -1, 0, 0, 0, 0, 0, 0⟩ 1 255 7 w).mono (fun e w' h => ⟨h.1.trans (by rw [show onlyV ⟨0, -1, 0, 0, 0, 0, 0, 0⟩ 1 255 7 = ⟨0, -1, 0, 255, 0, 0, 7, 0⟩ by kernel_rfl, show onlyB ⟨0, -1, 0, 0, 0, 0, 0, 0⟩ 1 255 7 = true by decide +kernel]; rfl), h.2⟩)
theorem only_8 (w : World) : Calls Try.prog 58 #[.agg #[.int .i64 0, .int .i64 (-1), .int .u8 0, .int .u8 0, .int .u8 0, .int .u8 0, .int .u8 0, .int .u8 0], .int .i64 1, .int .u8 255, .int .u8 8] w fun e w' => e = .returned (.tuple #[.agg #[.int .i64 0, .int .i64 (-1), .int .u8 0, .int .u8 255, .int .u8 0, .int .u8 0, .int .u8 8, .int .u8 0], .bool true]) ∧ Below w.heap.size w w' :=
  (onlyM_any ⟨0, -1, 0, 0, 0, 0, 0, 0⟩ 1 255 8 w).mono (fun e w' h => ⟨h.1.trans (by rw [show onlyV ⟨0, -1, 0, 0, 0, 0, 0, 0⟩ 1 255 8 = ⟨0, -1, 0, 255, 0, 0, 8, 0⟩ by kernel_rfl, show onlyB ⟨0, -1, 0, 0, 0, 0, 0, 0⟩ 1 255 8 = true by decide +kernel]; rfl), h.2⟩)
theorem ts_addc {n m : Nat} {room : Int} {w : World} {t : Nat} {l l' : List RuleV} {e0 : Int} {x : It} {r : RuleV} (h : TS n m room w t l) (hx : Ob w x) (hr : x.r = r) (ho : r.os.length ≤ 1000) (hE : addE room r l = e0) (hL : addL room r l = l') : Calls Try.prog 10 #[.pointer (some ⟨t, 0, none⟩), .agg (ics x).toArray] w fun e w' => e = .returned (.int .i64 e0) ∧ TS n w'.heap.size room w' t l' ∧ Kpt n m w w' := by
  subst hr
  rw [← hE, ← hL]
  exact ts_add h hx (by omega)
theorem ts_delc {n m : Nat} {room : Int} {w : World} {t : Nat} {l l' : List RuleV} {e0 : Int} {x : It} {r : RuleV} (h : TS n m room w t l) (hx : Ob w x) (hr : x.r = r) (hE : delE r l = e0) (hL : delL r l = l') : Calls Try.prog 11 #[.pointer (some ⟨t, 0, none⟩), .agg (ics x).toArray] w fun e w' => e = .returned (.int .i64 e0) ∧ TS n w'.heap.size room w' t l' ∧ Kpt n m w w' := by
  subst hr
  rw [← hE, ← hL]
  exact ts_del h hx
theorem data_yes {y : RuleV} {b : Bool} (h : DataP [(datO 5 ⟨0, -1, 0, 255, 0, 0, 7, 0⟩ 1), (ctlO 3 2)] 0 1 1 7 1 y b) : b = true ∧ y = (datO 5 ⟨0, -1, 0, 255, 0, 0, 7, 0⟩ 1) := by
  have hf : fitsM ⟨0, -1, 0, 255, 0, 0, 7, 0⟩ 0 1 1 7 1 = true := by decide +kernel
  rcases h with ⟨_, _, h⟩ | ⟨rfl, j, hj, hy, _⟩
  · exact absurd ⟨rfl, hf⟩ (h (datO 5 ⟨0, -1, 0, 255, 0, 0, 7, 0⟩ 1) (by simp))
  · match j, hj with
    | 0, hj => exact ⟨rfl, by simpa using hj.symm⟩
    | 1, hj => have e : (ctlO 3 2) = y := by simpa using hj
               rw [← e] at hy; exact absurd hy.1 (by simp [ctlO])
    | j + 2, hj => simp at hj
theorem data_no {y : RuleV} {b : Bool} (h : DataP [(datO 5 ⟨0, -1, 0, 255, 0, 0, 7, 0⟩ 1), (ctlO 3 2)] 0 1 1 8 1 y b) : b = false := by
  have hf : fitsM ⟨0, -1, 0, 255, 0, 0, 7, 0⟩ 0 1 1 8 1 = false := by decide +kernel
  rcases h with ⟨h, _⟩ | ⟨rfl, j, hj, hy, _⟩
  · exact h
  · match j, hj with
    | 0, hj => have e : (datO 5 ⟨0, -1, 0, 255, 0, 0, 7, 0⟩ 1) = y := by simpa using hj
               rw [← e] at hy; have := hy.2; rw [show (datO 5 ⟨0, -1, 0, 255, 0, 0, 7, 0⟩ 1).x = ⟨0, -1, 0, 255, 0, 0, 7, 0⟩ from rfl, hf] at this; simp at this
    | 1, hj => have e : (ctlO 3 2) = y := by simpa using hj
               rw [← e] at hy; exact absurd hy.1 (by simp [ctlO])
    | j + 2, hj => simp at hj
theorem ctl_two {q : Int} {b : Bool} (h : Ctl [(ctlO 3 2)] 3 q b) : q = 2 ∧ b = true := by
  rcases h with ⟨_, _, h⟩ | ⟨rfl, x, hx, _, rfl⟩
  · exact absurd ⟨rfl, rfl⟩ (h (ctlO 3 2) (by simp))
  · have e : x = (ctlO 3 2) := by simpa using hx
    rw [e]; exact ⟨rfl, rfl⟩
set_option maxRecDepth 100000 in
set_option maxHeartbeats 16000000 in
theorem worksT_any (w : World) : Calls Try.prog 21 #[] w fun e w' => e = .returned (.bool true) ∧ Below w.heap.size w w' := by
  have hB := Below.refl w.heap.size w
  go_enter Try.func21, Try.ntmps21
  go_wp2_with fail
  refine (ts_new w 2 (by omega) (by omega)).mono ?_
  rintro e w0 ⟨rfl, hT, hb0, hz0⟩
  replace hB := hB.trans hb0
  clear hb0 hz0
  go_wp2_with fail
  refine (anyM_any _).mono ?_
  rintro e w1 ⟨rfl, hb1⟩
  replace hT := hT.below hb1
  replace hB := hB.trans (hb1.mono hB.size)
  clear hb1
  go_wp2_with fail
  refine (only_7 _).mono ?_
  rintro e w2 ⟨rfl, hb2⟩
  replace hT := hT.below hb2
  replace hB := hB.trans (hb2.mono hB.size)
  clear hb2
  go_upto_region 3 with (refine wpList_store_new (vs := [.int .i64 0, .int .i64 (-1), .int .u8 0, .int .u8 255, .int .u8 0, .int .u8 0, .int .u8 7, .int .u8 0]) rfl (.tmp 3) (.tmp 20) rfl rfl rfl rfl rfl rfl agg_mask rfl ?_; intro wm3 hd hbm hzm)
  replace hT := hT.below hbm
  replace hB := hB.trans (hbm.mono hB.size)
  clear hbm hzm
  generalize w2.heap.size = g3 at *
  go_wp2_with fail
  refine (anyM_any _).mono ?_
  rintro e w3 ⟨rfl, hb3⟩
  replace hT := hT.below hb3
  replace hB := hB.trans (hb3.mono hB.size)
  replace hd := hd.below hb3 hd.lt
  clear hb3
  go_wp2_with fail
  refine (only_8 _).mono ?_
  rintro e w4 ⟨rfl, hb4⟩
  replace hT := hT.below hb4
  replace hB := hB.trans (hb4.mono hB.size)
  replace hd := hd.below hb4 hd.lt
  clear hb4
  go_upto_region 4 with (refine wpList_store_new (vs := [.int .i64 0, .int .i64 (-1), .int .u8 0, .int .u8 255, .int .u8 0, .int .u8 0, .int .u8 8, .int .u8 0]) rfl (.tmp 5) (.tmp 25) rfl rfl rfl rfl rfl rfl agg_mask rfl ?_; intro wm5 he hbm hzm)
  replace hT := hT.below hbm
  replace hB := hB.trans (hbm.mono hB.size)
  replace hd := hd.below hbm hd.lt
  clear hbm hzm
  generalize w4.heap.size = g5 at *
  go_wp2_with fail
  refine (control_law 3 1 _).mono ?_
  rintro e w5 ⟨z, hzr, rfl, hzo, _, hb5⟩
  replace hT := hT.below hb5
  replace hB := hB.trans (hb5.mono hB.size)
  replace hd := hd.below hb5 hd.lt
  replace he := he.below hb5 he.lt
  clear hb5
  go_wp2_with fail
  refine (ts_addc (l' := [(ctlO 3 1)]) (e0 := 0) hT hzo hzr (by decide) (by kernel_rfl) (by kernel_rfl)).mono ?_
  rintro e w6 ⟨rfl, ht6, hk6⟩
  have hn6 := hB.size
  replace hB := hB.trans (hk6.below hn6)
  replace hd := hk6.2.1 _ _ _ (by decide) (by decide) hd
  replace he := hk6.2.1 _ _ _ (by decide) (by decide) he
  clear hT hk6 hn6
  have hT := ht6
  clear ht6
  clear hzr
  clear hzo
  go_wp2_with fail
  refine (control_law 3 2 _).mono ?_
  rintro e w7 ⟨z, hzr, rfl, hzo, _, hb7⟩
  replace hT := hT.below hb7
  replace hB := hB.trans (hb7.mono hB.size)
  replace hd := hd.below hb7 hd.lt
  replace he := he.below hb7 he.lt
  clear hb7
  go_wp2_with fail
  refine (ts_addc (l' := [(ctlO 3 2)]) (e0 := 0) hT hzo hzr (by decide) (by kernel_rfl) (by kernel_rfl)).mono ?_
  rintro e w8 ⟨rfl, ht8, hk8⟩
  have hn8 := hB.size
  replace hB := hB.trans (hk8.below hn8)
  replace hd := hk8.2.1 _ _ _ (by decide) (by decide) hd
  replace he := hk8.2.1 _ _ _ (by decide) (by decide) he
  clear hT hk8 hn8
  have hT := ht8
  clear ht8
  clear hzr
  clear hzo
  go_wp2_with fail
  refine (ts_control hT 3).mono ?_
  rintro e w9 ⟨q, b, rfl, hq, hb9⟩
  replace hT := hT.below hb9
  replace hB := hB.trans (hb9.mono hB.size)
  replace hd := hd.below hb9 hd.lt
  replace he := he.below hb9 he.lt
  clear hb9
  obtain ⟨rfl, rfl⟩ := ctl_two hq
  clear hq
  go_wp2_with fail
  refine (ts_len hT).mono ?_
  rintro e w9a ⟨rfl, rfl⟩
  go_wp2_with (refine wpList_load_wantR (vs := [.int .i64 0, .int .i64 (-1), .int .u8 0, .int .u8 255, .int .u8 0, .int .u8 0, .int .u8 7, .int .u8 0]) (by rfl) (.tmp 3) rfl rfl hd rfl agg_mask ?_)
  refine (data_law 5 ⟨0, -1, 0, 255, 0, 0, 7, 0⟩ 1 _).mono ?_
  rintro e w10 ⟨z, hzr, rfl, hzo, _, hb10⟩
  replace hT := hT.below hb10
  replace hB := hB.trans (hb10.mono hB.size)
  replace hd := hd.below hb10 hd.lt
  replace he := he.below hb10 he.lt
  clear hb10
  go_wp2_with fail
  refine (ts_addc (l' := [(datO 5 ⟨0, -1, 0, 255, 0, 0, 7, 0⟩ 1), (ctlO 3 2)]) (e0 := 0) hT hzo hzr (by decide) (by kernel_rfl) (by kernel_rfl)).mono ?_
  rintro e w11 ⟨rfl, ht11, hk11⟩
  have hn11 := hB.size
  replace hB := hB.trans (hk11.below hn11)
  replace hd := hk11.2.1 _ _ _ (by decide) (by decide) hd
  replace he := hk11.2.1 _ _ _ (by decide) (by decide) he
  clear hT hk11 hn11
  have hT := ht11
  clear ht11
  clear hzr
  clear hzo
  go_wp2_with fail
  refine (anyM_any _).mono ?_
  rintro e w12 ⟨rfl, hb12⟩
  replace hT := hT.below hb12
  replace hB := hB.trans (hb12.mono hB.size)
  replace hd := hd.below hb12 hd.lt
  replace he := he.below hb12 he.lt
  clear hb12
  go_wp2_with fail
  refine (data_law 6 ⟨0, -1, 0, 0, 0, 0, 0, 0⟩ 2 _).mono ?_
  rintro e w13 ⟨z, hzr, rfl, hzo, _, hb13⟩
  replace hT := hT.below hb13
  replace hB := hB.trans (hb13.mono hB.size)
  replace hd := hd.below hb13 hd.lt
  replace he := he.below hb13 he.lt
  clear hb13
  go_wp2_with fail
  refine (ts_addc (l' := [(datO 5 ⟨0, -1, 0, 255, 0, 0, 7, 0⟩ 1), (ctlO 3 2)]) (e0 := 90) hT hzo hzr (by decide) (by kernel_rfl) (by kernel_rfl)).mono ?_
  rintro e w14 ⟨rfl, ht14, hk14⟩
  have hn14 := hB.size
  replace hB := hB.trans (hk14.below hn14)
  replace hd := hk14.2.1 _ _ _ (by decide) (by decide) hd
  replace he := hk14.2.1 _ _ _ (by decide) (by decide) he
  clear hT hk14 hn14
  have hT := ht14
  clear ht14
  clear hzr
  clear hzo
  go_wp2_with (refine wpList_load_wantR (vs := [.int .i64 0, .int .i64 (-1), .int .u8 0, .int .u8 255, .int .u8 0, .int .u8 0, .int .u8 8, .int .u8 0]) (by rfl) (.tmp 5) rfl rfl he rfl agg_mask ?_)
  refine (data_law 5 ⟨0, -1, 0, 255, 0, 0, 8, 0⟩ 1 _).mono ?_
  rintro e w15 ⟨z, hzr, rfl, hzo, _, hb15⟩
  replace hT := hT.below hb15
  replace hB := hB.trans (hb15.mono hB.size)
  replace hd := hd.below hb15 hd.lt
  replace he := he.below hb15 he.lt
  clear hb15
  go_wp2_with fail
  refine (ts_delc (l' := [(datO 5 ⟨0, -1, 0, 255, 0, 0, 7, 0⟩ 1), (ctlO 3 2)]) (e0 := 91) hT hzo hzr (by kernel_rfl) (by kernel_rfl)).mono ?_
  rintro e w16 ⟨rfl, ht16, hk16⟩
  have hn16 := hB.size
  replace hB := hB.trans (hk16.below hn16)
  replace hd := hk16.2.1 _ _ _ (by decide) (by decide) hd
  replace he := hk16.2.1 _ _ _ (by decide) (by decide) he
  clear hT hk16 hn16
  have hT := ht16
  clear ht16
  clear hzr hzo
  go_wp2_with fail
  refine (ts_data hT 0 1 1 7 1).mono ?_
  rintro e w17 ⟨⟨yr, yA, yc⟩, b, rfl, hP, hyo, _, hb17⟩
  replace hT := hT.below hb17
  replace hB := hB.trans (hb17.mono hB.size)
  replace hd := hd.below hb17 hd.lt
  replace he := he.below hb17 he.lt
  clear hb17
  obtain ⟨rfl, rfl⟩ := data_yes hP
  clear hP
  go_upto_region 10 with (refine wpList_store_new (vs := ics ⟨(datO 5 ⟨0, -1, 0, 255, 0, 0, 7, 0⟩ 1), yA, yc⟩) rfl (.tmp 9) (.tmp 86) rfl rfl rfl rfl rfl rfl agg_rule rfl ?_; intro wr9 hr9 hbm hzm)
  replace hT := hT.below hbm
  replace hB := hB.trans (hbm.mono hB.size)
  replace hyo := hyo.below hbm
  clear hbm hzm hd he
  generalize w17.heap.size = g9 at *
  go_wp2_with fail
  refine (ts_data hT 0 1 1 8 1).mono ?_
  rintro e w18 ⟨y8, b, rfl, hP, _, _, hb18⟩
  replace hT := hT.below hb18
  replace hB := hB.trans (hb18.mono hB.size)
  replace hr9 := hr9.below hb18 hr9.lt
  replace hyo := hyo.below hb18
  clear hb18
  obtain rfl := data_no hP
  clear hP
  go_upto_region 11 with (refine wpList_store_new (vs := ics y8) rfl (.tmp 11) (.tmp 92) rfl rfl rfl rfl rfl rfl agg_rule rfl ?_; intro wr11 hr11 hbm hzm)
  replace hT := hT.below hbm
  replace hB := hB.trans (hbm.mono hB.size)
  replace hyo := hyo.below hbm
  replace hr9 := hr9.below hbm hr9.lt
  clear hbm hzm hr11
  obtain ⟨ob, oo, eA, _, hc⟩ := hyo.ro.at_ (by simp [datO])
  have eA2 : yA = some ⟨ob, oo, none⟩ := eA
  subst eA2
  have q0 := (hc 0 ⟨1, -1, -1, -1⟩ rfl).1
  rw [Nat.zero_mul, Nat.add_zero] at q0
  have c12 : wr11.cell? ⟨g9, 12, none⟩ = some (.slice (some ⟨ob, oo, none⟩) 1 yc) := hr9.cell 12 rfl
  clear hc hyo eA hr9
  go_wp2_with fail
  clear q0 c12
  refine (anyM_any _).mono ?_
  rintro e w19 ⟨rfl, hb19⟩
  replace hT := hT.below hb19
  replace hB := hB.trans (hb19.mono hB.size)
  clear hb19
  go_wp2_with fail
  refine (ts_loose hT ⟨0, -1, 0, 0, 0, 0, 0, 0⟩).mono ?_
  rintro e w20 ⟨rfl, ht20, hk20⟩
  have hn20 := hB.size
  replace hB := hB.trans (hk20.below hn20)
  clear hT hk20 hn20
  have hT := ht20
  clear ht20
  rw [show loosL ⟨0, -1, 0, 0, 0, 0, 0, 0⟩ [(datO 5 ⟨0, -1, 0, 255, 0, 0, 7, 0⟩ 1), (ctlO 3 2)] = [(ctlO 3 2)] by kernel_rfl] at *
  go_wp2_with fail
  refine (ts_len hT).mono ?_
  rintro e w99 ⟨rfl, rfl⟩
  go_wp2_with fail
  go_ret
  exact ⟨rfl, hB⟩
end Go.Proofs.Ytcolklkjaifplaa.Oct
