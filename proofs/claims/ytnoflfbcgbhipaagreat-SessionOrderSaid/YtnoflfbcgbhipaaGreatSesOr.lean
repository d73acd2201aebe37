import Derived.Test.YtnoflfbcgbhipaaGreatSesVj
import Derived.Test.YtnoflfbcgbhipaaGreatSesY
set_option linter.unusedSimpArgs false
set_option linter.unusedVariables false
set_option maxRecDepth 100000
set_option maxHeartbeats 20000000
namespace Go.Proofs.YtnoflfbcgbhipaaGreat.Oct
open Go.RowKit
theorem meas401 {i : Nat} (h : i + 1 ≤ 400) (e : wrap64 ((i : Int) + 1) = (i : Int) + 1) : (401 - intOf (.int .i64 (wrap64 ((i : Int) + 1)))).toNat < (401 - intOf (.int .i64 (i : Int))).toNat := by
 rw [e]
 simp [intOf]
 omega
theorem sessionOrder_any {W : World} {A0 : Option Addr} {n0 c0 : Nat} {zs : List Int} (h0 : Rd .i64 W W.heap.size A0 n0 c0 zs) : Calls Tryz.prog 4 #[.slice A0 n0 c0] W fun e w' => e = .returned (.bool true) ∧ Below W.heap.size W w' := by
 have hm := h0.max
 have HR := Kp.mk h0
 clear h0
 go_enter Tryz.func4, Tryz.ntmps4
 go_wp2_with fail
 refine (works17 W).mono ?_
 rintro e w1 ⟨rfl, hb1⟩
 have HB1 := Kp.mk hb1
 have HR1 := Kp.mk (HR.out.below hb1)
 clear hb1 HR
 go_wp2_with fail
 refine (begun_yes w1).mono ?_
 rintro e w2 ⟨wb, Z0, rfl, h⟩
 have HW := Kp.mk h
 clear h
 go_wp2_with fail
 go_loopw [4] (fun s4 wr => ∃ (i : Nat) (x : Wd) (Z : Wk), s4 = .int .i64 i ∧ Kp (i ≤ n0 ∧ i ≤ 400) ∧ Kp (Ww w1 wr wb Z x) ∧ Kp (Oinv i x)) (fun s4 _ => (401 - intOf s4).toNat)
 case atStart => exact ⟨0, wd0, Z0, rfl, Kp.mk ⟨by omega, by omega⟩, HW, Kp.mk Oinv.start⟩
 case round =>
  clear HW
  obtain ⟨i, x, Z, rfl, HI, HW, HO⟩ := hrel
  have a11 := HW.out.own.cell 1031 (wcl_fine _ Z)
  rw [HO.out.fine] at a11
  by_cases hl1 : (i : Int) < n0
  rotate_left
  ·have HE := Kp.mk (HB1.out.trans (HW.out.old.mono HB1.out.size))
   clear HW HO
   go_wp2_with fail
   go_ret
   exact ⟨rfl, HE.out⟩
  by_cases hl2 : (i : Int) < 400
  rotate_left
  ·have HE := Kp.mk (HB1.out.trans (HW.out.old.mono HB1.out.size))
   clear HW HO
   go_wp2_with fail
   go_ret
   exact ⟨rfl, HE.out⟩
  obtain ⟨bH, oH, eH, hbH, hcH⟩ := (HR1.out.below (HW.out.old.mono HB1.out.size)).at_ (by omega)
  subst eH
  have d0 := hcH i (by omega)
  clear hcH
  generalize zs.getD i 0 = zi at *
  have hbr := Ser.bring_any zi 8000 wr (by omega) (by omega)
  have hxb := Ser.bringP_bd zi 8000 (by omega)
  generalize Ser.bringP zi 8000 = k at *
  have HX := Kp.mk hxb
  clear hxb
  go_upto_region 7 with fail
  go_wp2_with fail
  refine hbr.mono ?_
  rintro e w4 ⟨rfl, hw4⟩
  subst hw4
  clear d0 hbr a11
  go_wp2_with fail
  refine (step_yes HW.out (HO.out.wok (by have := HI.out; omega)) HX.out).mono ?_
  rintro e w5 ⟨rfl, x', ⟨Z', h'⟩, hst⟩
  have HW5 := Kp.mk h'
  have HO5 := Kp.mk (HO.out.step (by have := HI.out; omega) hst)
  have HI2 := Kp.mk (show i + 1 ≤ n0 ∧ i + 1 ≤ 400 by omega)
  have ei : wrap64 ((i : Int) + 1) = (i : Int) + 1 := by have := HI2.out; unfold wrap64; omega
  have HEI := Kp.mk ei
  clear h' hst HW HO hl1 hl2 ei
  go_wp2_with fail
  go_roundw
  case rel => exact ⟨i + 1, x', Z', by rw [HEI.out]; rfl, HI2, HW5, HO5⟩
  case measure => exact meas401 HI2.out.2 HEI.out
theorem sessionOrder_walk (A : Option Addr) (n c : Nat) (z : List Int) (w : World) (w0 : Frame.IsRow .i64 w A n c z) (re : c * 8 ≤ 140737488351232) : Calls Tryz.prog 4 #[.slice A n c] w fun e w' => e = .returned (.bool true) ∧ Below w.heap.size w w' := sessionOrder_any (Rd.of_row w0)
end Go.Proofs.YtnoflfbcgbhipaaGreat.Oct
