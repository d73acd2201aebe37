/- Layer 16 (hail): HailOne. -/
import Derived.Test.YtomjnpjabfnlbaaHaiI
import Derived.LoopTactic
import Derived.Deep.CutRange
namespace Go.Proofs.Ytomjnpjabfnlbaa.Oct
open Go.RowKit
set_option linter.unusedVariables false
set_option linter.unusedSimpArgs false
/-- What lies in memory between two steps. -/
structure Hp (W wr : World) (k N : Nat) (be ep b q E : Int) (c g : Nat) (A : Option Addr) (m cp : Nat) (f : Nat → Int) (l : List Sv) : Prop where
  cg : CG W wr c g 4 ep b q 4 be E
  by_ : Bv wr k f
  kn : W.heap.size ≤ k
  wi : Osv wr W.heap.size (.slice A m cp) m l
  mn : m ≤ N
  b1 : be ≤ N + 1
  p1 : ep ≤ N + 1
  p0 : 1 ≤ ep
/-- .. and what holds of it. -/
structure Ho (W wr : World) (k N : Nat) (be ep b q E : Int) (c g : Nat) (A : Option Addr) (m cp : Nat) (f : Nat → Int) (l : List Sv) : Prop where
  pt : Hp W wr k N be ep b q E c g A m cp f l
  inv : Hinv ep b q be E f l
def HoR (W : World) (k n0 : Nat) (s3 s4 s5 s6 s7 s8 s10 : Value) (wr : World) : Prop := ∃ (i : Nat) (be ep b q E : Int) (c g : Nat) (A : Option Addr) (m cp : Nat) (f : Nat → Int) (l : List Sv), s3 = .int .i64 be ∧ s4 = .int .i64 ep ∧ s5 = .pointer (some ⟨c, 0, none⟩) ∧ s6 = .pointer (some ⟨g, 0, none⟩) ∧ s7 = .bool true ∧ s8 = .slice A m cp ∧ s10 = .int .i64 i ∧ Kp (i ≤ 200 ∧ i ≤ n0) ∧ Kp (Ho W wr k i be ep b q E c g A m cp f l)
def HoS (W : World) (k i : Nat) (s3 s4 s5 s6 s7 s8 : Value) (wx : World) : Prop := ∃ (be ep b q E : Int) (c g : Nat) (A : Option Addr) (m cp : Nat) (f : Nat → Int) (l : List Sv), s3 = .int .i64 be ∧ s4 = .int .i64 ep ∧ s5 = .pointer (some ⟨c, 0, none⟩) ∧ s6 = .pointer (some ⟨g, 0, none⟩) ∧ s7 = .bool true ∧ s8 = .slice A m cp ∧ Kp (Ho W wx k (i + 1) be ep b q E c g A m cp f l)
theorem Bv.below {w w' : World} {k : Nat} {f : Nat → Int} (h : Bv w k f) (hb : Below w.heap.size w w') : Bv w' k f := Vb.below h hb (Vb.lt h)
section
variable {W wr w' : World} {k N : Nat} {be ep b q E : Int} {c g : Nat} {A : Option Addr} {m cp : Nat} {f : Nat → Int} {l : List Sv}
theorem Hp.below (h : Hp W wr k N be ep b q E c g A m cp f l) (hb : Below wr.heap.size wr w') : Hp W w' k N be ep b q E c g A m cp f l := ⟨h.cg.below hb, h.by_.below hb, h.kn, h.wi.below hb, h.mn, h.b1, h.p1, h.p0⟩
theorem Hp.more (h : Hp W wr k N be ep b q E c g A m cp f l) {M : Nat} (hM : N ≤ M) : Hp W wr k M be ep b q E c g A m cp f l := ⟨h.cg, h.by_, h.kn, h.wi, Nat.le_trans h.mn hM, by have := h.b1; omega, by have := h.p1; omega, h.p0⟩
theorem Ho.below (h : Ho W wr k N be ep b q E c g A m cp f l) (hb : Below wr.heap.size wr w') : Ho W w' k N be ep b q E c g A m cp f l := ⟨h.pt.below hb, h.inv⟩
theorem Ho.more (h : Ho W wr k N be ep b q E c g A m cp f l) {M : Nat} (hM : N ≤ M) : Ho W wr k M be ep b q E c g A m cp f l := ⟨h.pt.more hM, h.inv⟩
theorem Ho.says (h : Ho W wr k N be ep b q E c g A m cp f l) : Calls Try.prog 11 #[.pointer (some ⟨c, 0, none⟩)] wr fun en w' => en = .returned (.tuple #[(saysC 4 ep b q).v, .bool (q != 3)]) ∧ Ho W w' k N be ep b q E c g A m cp f l ∧ Below wr.heap.size wr w' :=
  h.pt.cg.says.mono fun _ _ ⟨h1, h2, h3⟩ => ⟨h1, h.below h3, h3⟩
theorem Ho.take (h : Ho W wr k N be ep b q E c g A m cp f l) {x : Sv} (hx : x ∈ l) : Calls Try.prog 26 #[.pointer (some ⟨c, 0, none⟩), x.v] wr fun en w' => en = .returned (.bool (goC x 4 ep q)) ∧ Ho W w' k N be ep (bC x 4 ep b q) (qC x 4 ep q) E c g A m cp f l :=
  (h.pt.cg.take x).mono fun _ _ ⟨h1, h2, h3⟩ => ⟨h1, ⟨h2, Vb.grown h.pt.by_ h3 (vb_ne h.pt.by_ h.pt.cg.cb (by decide)), h.pt.kn, h.pt.wi.grown h.pt.cg.cb (by decide) h3, h.pt.mn, h.pt.b1, h.pt.p1, h.pt.p0⟩, h.inv.take hx⟩
/-- The guest has turned. -/
theorem Hp.guest (h : Hp W wr k N be ep b q E c g A m cp f l) {E' : Int} (h2 : CG W w' c g 4 ep b q 4 be E') (h3 : wr.grownBy w' (some g)) : Hp W w' k N be ep b q E' c g A m cp f l :=
  ⟨h2, Vb.grown h.by_ h3 (vb_ne h.by_ h.cg.gb (by decide)), h.kn, h.wi.grown h.cg.gb (by decide) h3, h.mn, h.b1, h.p1, h.p0⟩
/-- A segment is appended. -/
theorem Hp.append (h : Hp W wr k N be ep b q E c g A m cp f l) {A' : Option Addr} {c' : Nat} {x : Sv} (hw : Osv w' W.heap.size (.slice A' (m + 1) c') (m + 1) (l ++ [x])) (hg : wr.grownBy w' (Value.slice A m cp).ownBlock) (hb : Below W.heap.size wr w') : Hp W w' k (N + 1) be ep b q E c g A' (m + 1) c' f (l ++ [x]) :=
  ⟨⟨h.wi.keeps h.cg.cb (by decide) hg, h.wi.keeps h.cg.gb (by decide) hg, h.cg.cn, h.cg.gn, h.cg.hq, h.cg.hs, h.cg.old.trans hb⟩, h.wi.keeps h.by_ (by decide) hg, h.kn, hw, by have := h.mn; omega, by have := h.b1; omega, by have := h.p1; omega, h.p0⟩
/-- An epoch's boot is written down. -/
theorem Hp.set (h : Hp W wr k N be ep b q E c g A m cp f l) (j : Nat) (x : Int) : Hp W (wr.setCell ⟨k, j, none⟩ (.int .i64 x)) k N be ep b q E c g A m cp (upd f j x) l := by
  have hg := grownBy_set wr k j (.int .i64 x)
  exact ⟨h.cg.grown hg (vb_ne h.cg.cb h.by_ (by decide)) (vb_ne h.cg.gb h.by_ (by decide)) h.kn, h.by_.set j x, h.kn, h.wi.grown h.by_ (by decide) hg, h.mn, h.b1, h.p1, h.p0⟩
/-- The switch begins anew. -/
theorem Ho.boot (h : Ho W wr k N be ep b q E c g A m cp f l) (hg : Gb w' wr.heap.size 4 (be + 1) 0) (hb : Below wr.heap.size wr w') : Ho W w' k (N + 1) (be + 1) ep b q 0 c wr.heap.size A m cp f l :=
  have h2 := (h.pt.below hb).more (Nat.le_succ N)
  ⟨⟨⟨h2.cg.cb, hg, h2.cg.cn, h.pt.cg.old.size, h2.cg.hq, h2.cg.hs, h2.cg.old⟩, h2.by_, h2.kn, h2.wi, h2.mn, by have := h.pt.b1; omega, h2.p1, h2.p0⟩, h.inv.boot⟩
/-- The controller calls anew. -/
theorem Ho.anew (h : Ho W wr k N be ep b q E c g A m cp f l) (hc : Cb w' wr.heap.size 4 (ep + 1) 0 1) (hb : Below wr.heap.size wr w') : Ho W w' k (N + 1) be (ep + 1) 0 1 E wr.heap.size g A m cp f l :=
  have h2 := (h.pt.below hb).more (Nat.le_succ N)
  ⟨⟨⟨hc, h2.cg.gb, h.pt.cg.old.size, h2.cg.gn, .inl rfl, h2.cg.hs, h2.cg.old⟩, h2.by_, h2.kn, h2.wi, h2.mn, h2.b1, by have := h.pt.p1; omega, by have := h.pt.p0; omega⟩, h.inv.anew⟩
end
theorem zero256 (w : World) : (zeroValue 56).run Try.prog w = .ok (.agg ((List.range 256).map fun j => Value.int .i64 ((fun _ => (0 : Int) : Nat → Int) j)).toArray) w := by kernel_rfl
theorem meas201 {i : Nat} (h : i + 1 ≤ 200) (e : wrap64 ((i : Int) + 1) = (i : Int) + 1) : (201 - intOf (.int .i64 (wrap64 ((i : Int) + 1)))).toNat < (201 - intOf (.int .i64 (i : Int))).toNat := by
  rw [e]
  simp [intOf]
  omega
theorem four_sw : swB 4 = true := by decide
theorem lg_of {n f : Int} (h : f ≤ n ∧ n ≤ 4294967295) : lgB n f = true := decide_eq_true h
set_option maxRecDepth 100000 in
set_option maxHeartbeats 60000000 in
theorem hailOne_any {W : World} {A0 : Option Addr} {n0 c0 : Nat} {zs : List Int} (h0 : Rd .i64 W W.heap.size A0 n0 c0 zs) : Calls Try.prog 4 #[.slice A0 n0 c0] W fun e w' => e = .returned (.bool true) ∧ Below W.heap.size W w' := by
  have hm := h0.max
  have HR := Kp.mk h0
  clear h0
  go_enter Try.func4, Try.ntmps4
  go_wp2_with fail
  refine (worksH_any W).mono ?_
  rintro e w1 ⟨rfl, hb1⟩
  go_wp2_with fail
  refine (meets_yes hb1 4 1 1 (by decide) (by decide) (by decide)).mono ?_
  rintro e w2 ⟨c, g, rfl, h⟩
  clear hb1
  have hz := zero256 w2
  have HV := Kp.mk (show Bv (w2.alloc (.cells ((List.range 256).map fun j => Value.int .i64 ((fun _ => (0 : Int) : Nat → Int) j)).toArray 56)) w2.heap.size (fun _ => 0) from Vb.new _ w2 _)
  have HB := Kp.mk (below_alloc w2 (.cells ((List.range 256).map fun j => Value.int .i64 ((fun _ => (0 : Int) : Nat → Int) j)).toArray 56))
  generalize ((List.range 256).map fun j => Value.int .i64 ((fun _ => (0 : Int) : Nat → Int) j)).toArray = zs256 at *
  go_wp2_with fail
  have hH : Ho W (w2.alloc (.cells zs256 56)) w2.heap.size 0 1 1 0 1 0 c g none 0 0 (fun _ => 0) [] :=
    ⟨⟨h.below HB.out, HV.out, h.old.size, Osv.nil0 _ _, by omega, by omega, by omega, by omega⟩, Hinv.start⟩
  clear h HV HB hz
  generalize w2.alloc (.cells zs256 56) = w3 at *
  generalize w2.heap.size = k at *
  have HH := Kp.mk hH
  clear hH
  go_loopw [3, 4, 5, 6, 7, 8, 10] (fun s3 s4 s5 s6 s7 s8 s10 wr => HoR W k n0 s3 s4 s5 s6 s7 s8 s10 wr) (fun _ _ _ _ _ _ s10 _ => (201 - intOf s10).toNat)
  case atStart => exact ⟨0, 1, 1, 0, 1, 0, c, g, none, 0, 0, fun _ => 0, [], rfl, rfl, rfl, rfl, rfl, rfl, rfl, Kp.mk ⟨by omega, by omega⟩, HH⟩
  case round =>
    clear HH
    obtain ⟨i, be, ep, b, q, E, c, g, A, m, cp, f, l, rfl, rfl, rfl, rfl, rfl, rfl, rfl, HI, HH⟩ := hrel
    by_cases hl1 : (i : Int) < n0
    rotate_left
    · have HO := Kp.mk HH.out.pt.cg.old
      clear HH
      go_wp2_with fail
      go_ret
      exact ⟨rfl, HO.out⟩
    by_cases hl2 : (i : Int) < 200
    rotate_left
    · have HO := Kp.mk HH.out.pt.cg.old
      clear HH
      go_wp2_with fail
      go_ret
      exact ⟨rfl, HO.out⟩
    obtain ⟨bH, oH, eH, hbH, hcH⟩ := (HR.out.below HH.out.pt.cg.old).at_ (by omega)
    subst eH
    have d0 := hcH i (by omega)
    clear hcH
    generalize zs.getD i 0 = zi at *
    have hbr := Ser.bring_any zi 400 wr (by omega) (by omega)
    have hxb := Ser.bringP_bd zi 400 (by omega)
    generalize Ser.bringP zi 400 = x at *
    have HX := Kp.mk hxb
    clear hxb
    go_upto_region 11 with (refine hbr.mono ?_; rintro e w4 ⟨rfl, hw4⟩; subst hw4)
    clear d0 hbr
    rename_i K10 h10
    go_cut [12] from 50 to 51 (fun s12 wx => s12 = .int .i64 E ∧ wx = wr)
    case first =>
      go_wp2_with fail
      refine HH.out.pt.cg.epoch.mono ?_
      rintro e w5 ⟨rfl, hw5⟩
      replace hw5 := hw5.symm
      subst hw5
      go_wp2_with fail
      go_meet
      case rel => exact ⟨rfl, rfl⟩
    obtain ⟨rfl, hw6⟩ := hcut
    subst hw6
    refine h10 _ _ ?_
    apply wp_seq_k
    intro K3 h3
    go_cut [3, 4, 5, 6, 7, 8, 13, 14, 15, 16, 17, 18, 19, 20, 21, 22] from 52 to 161 (fun s3 s4 s5 s6 s7 s8 _ _ _ _ _ _ _ _ _ _ wx => HoS W k i s3 s4 s5 s6 s7 s8 wx)
    case first =>
      obtain ⟨z, hz⟩ : ∃ z, z = x.tmod 8 := ⟨_, rfl⟩
      have hz8 : z = 0 ∨ z = 1 ∨ (2 ≤ z ∧ z ≤ 5) ∨ z = 6 ∨ z = 7 := by
        have := HX.out
        rw [Int.tmod_eq_emod_of_nonneg (by omega)] at hz
        omega
      replace hz := hz.symm
      rcases hz8 with rfl | rfl | hzz | rfl | rfl
      · skip
        go_wp2_with fail
        refine HH.out.says.mono ?_
        rintro e w5 ⟨rfl, h5, hb5⟩
        clear hb5 hz
        have hq := h5.pt.cg.hq
        have HS := Kp.mk (fun h : q = 1 ∨ q = 2 => h5.inv.says h)
        rcases (show q < 3 ∨ 3 ≤ q by omega) with hq3 | hq3
        · have hQ : (q != 3) = true := by simp; omega
          rw [hQ]
          replace HS := Kp.mk (HS.out (by omega))
          generalize saysC 4 ep b q = y at *
          obtain ⟨yk, yt, yf, yh, yp, yo, ys, ya, yA, yn, yc⟩ := y
          simp only [Sv.v]
          clear hq hq3 hQ HH
          go_upto_region 22 with fail
          have hN := new_seg9 w5 yk yt yf yh yp yo ys ya yA yn yc
          have h6 := h5.below hN.2
          obtain ⟨zb, hzb⟩ : ∃ zb, zb = w5.heap.size := ⟨_, rfl⟩
          rw [← hzb] at hN ⊢
          have HZB := Kp.mk hzb
          clear hzb
          have v6 := hN.1
          clear hN h5
          generalize w5.alloc (.cells #[.int .i64 yk, .int .i64 yt, .int .i64 yf, .int .i64 yh, .int .i64 yp, .int .i64 yo, .int .i64 ys, .int .i64 ya, .slice yA yn yc] 31) = w6 at *
          obtain ⟨n0_0, n0_1, n0_2, n0_3, n0_4, n0_5, n0_6, n0_7, n0_8⟩ := seg_nine v6
          obtain ⟨A7, c7, w7, hrun, hO7, hg7, hb7⟩ := h6.pt.wi.more 55 ⟨yk, yt, yf, yh, yp, yo, ys, ya, yA, yn, yc⟩ (by have := h6.pt.mn; have := HI.out; omega) h6.pt.cg.old.size
          have hrun : (Builtin.append_ #[55, 55] 55 #[.slice A m cp, .slice (some ⟨w6.heap.size, 0, none⟩) 1 1]).run Try.prog (w6.alloc (.cells #[.int .i64 yk, .int .i64 yt, .int .i64 yf, .int .i64 yh, .int .i64 yp, .int .i64 yo, .int .i64 ys, .int .i64 ya, .slice yA yn yc] 31)) = .ok (.slice A7 (m + 1) c7) w7 := hrun
          have H7 := Kp.mk (Ho.mk (h6.pt.append hO7 hg7 hb7) (HS.out))
          clear h6 hO7 hg7 hb7 v6
          go_wp2_with (at_builtin; refine Lib.wpList_append_run _ rfl _ _ _ _ rfl _ _ rfl rfl _ _ hrun ?_)
          clear hrun
          go_meet
          case rel => exact ⟨be, ep, b, q, E, c, g, A7, m + 1, c7, f, _, rfl, rfl, rfl, rfl, rfl, rfl, H7⟩
        · have e3 : q = 3 := by omega
          subst e3
          rw [show ((3 : Int) != 3) = false from rfl]
          clear hq hq3 HS HH
          rw [show saysC 4 ep b 3 = sv0 from rfl]
          simp only [sv0, Sv.v]
          go_upto_region 21 with fail
          have hN := new_seg9 w5 0 0 0 0 0 0 0 0 none 0 0
          have H6 := Kp.mk ((h5.below hN.2).more (Nat.le_succ i))
          clear hN h5
          go_wp2_with fail
          go_meet
          case rel => exact ⟨be, ep, b, 3, E, c, g, A, m, cp, f, l, rfl, rfl, rfl, rfl, rfl, rfl, H6⟩
      · skip
        go_wp2_with fail
        refine HH.out.says.mono ?_
        rintro e w5 ⟨rfl, h5, hb5⟩
        clear hb5 hz
        have hq := h5.pt.cg.hq
        have HS := Kp.mk (fun h : q = 1 ∨ q = 2 => h5.inv.says h)
        rcases (show q < 3 ∨ 3 ≤ q by omega) with hq3 | hq3
        · have hQ : (q != 3) = true := by simp; omega
          rw [hQ]
          replace HS := Kp.mk (HS.out (by omega))
          generalize saysC 4 ep b q = y at *
          obtain ⟨yk, yt, yf, yh, yp, yo, ys, ya, yA, yn, yc⟩ := y
          simp only [Sv.v]
          clear hq hq3 hQ HH
          go_upto_region 22 with fail
          have hN := new_seg9 w5 yk yt yf yh yp yo ys ya yA yn yc
          have h6 := h5.below hN.2
          obtain ⟨zb, hzb⟩ : ∃ zb, zb = w5.heap.size := ⟨_, rfl⟩
          rw [← hzb] at hN ⊢
          have HZB := Kp.mk hzb
          clear hzb
          have v6 := hN.1
          clear hN h5
          generalize w5.alloc (.cells #[.int .i64 yk, .int .i64 yt, .int .i64 yf, .int .i64 yh, .int .i64 yp, .int .i64 yo, .int .i64 ys, .int .i64 ya, .slice yA yn yc] 31) = w6 at *
          obtain ⟨n0_0, n0_1, n0_2, n0_3, n0_4, n0_5, n0_6, n0_7, n0_8⟩ := seg_nine v6
          obtain ⟨A7, c7, w7, hrun, hO7, hg7, hb7⟩ := h6.pt.wi.more 55 ⟨yk, yt, yf, yh, yp, yo, ys, ya, yA, yn, yc⟩ (by have := h6.pt.mn; have := HI.out; omega) h6.pt.cg.old.size
          have hrun : (Builtin.append_ #[55, 55] 55 #[.slice A m cp, .slice (some ⟨w6.heap.size, 0, none⟩) 1 1]).run Try.prog (w6.alloc (.cells #[.int .i64 yk, .int .i64 yt, .int .i64 yf, .int .i64 yh, .int .i64 yp, .int .i64 yo, .int .i64 ys, .int .i64 ya, .slice yA yn yc] 31)) = .ok (.slice A7 (m + 1) c7) w7 := hrun
          have H7 := Kp.mk (Ho.mk (h6.pt.append hO7 hg7 hb7) (HS.out))
          clear h6 hO7 hg7 hb7 v6
          go_wp2_with (at_builtin; refine Lib.wpList_append_run _ rfl _ _ _ _ rfl _ _ rfl rfl _ _ hrun ?_)
          clear hrun
          go_meet
          case rel => exact ⟨be, ep, b, q, E, c, g, A7, m + 1, c7, f, _, rfl, rfl, rfl, rfl, rfl, rfl, H7⟩
        · have e3 : q = 3 := by omega
          subst e3
          rw [show ((3 : Int) != 3) = false from rfl]
          clear hq hq3 HS HH
          rw [show saysC 4 ep b 3 = sv0 from rfl]
          simp only [sv0, Sv.v]
          go_upto_region 21 with fail
          have hN := new_seg9 w5 0 0 0 0 0 0 0 0 none 0 0
          have H6 := Kp.mk ((h5.below hN.2).more (Nat.le_succ i))
          clear hN h5
          go_wp2_with fail
          go_meet
          case rel => exact ⟨be, ep, b, 3, E, c, g, A, m, cp, f, l, rfl, rfl, rfl, rfl, rfl, rfl, H6⟩
      · skip
        have g0 : (z == 0) = false := by simp; omega
        have g1 : (z == 1) = false := by simp; omega
        go_upto_region 19 with fail
        rename_i K19 h19
        go_cut [66] from 68 to 68 (fun s66 wx => s66 = .bool false ∧ wx = wc)
        case first =>
          go_wp2_with fail
          go_meet
          case rel => exact ⟨rfl, rfl⟩
        obtain ⟨rfl, hw7⟩ := hcut
        subst hw7
        refine h19 _ _ ?_
        refine wp_cond_false rfl ?_
        apply wp_seq_k
        intro K20 h20
        go_cut [79] from 80 to 83 (fun s79 wx => s79 = .bool true ∧ wx = wc)
        case first =>
          have hz4 : z = 2 ∨ z = 3 ∨ z = 4 ∨ z = 5 := by omega
          rcases hz4 with rfl | rfl | rfl | rfl
          all_goals (go_wp2_with fail; go_meet; case rel => exact ⟨rfl, rfl⟩)
        obtain ⟨rfl, hw7⟩ := hcut
        subst hw7
        refine h20 _ _ ?_
        clear hz g0 g1
        go_upto_region 27 with fail
        by_cases hm0 : m = 0
        · have e0 : ((m : Int) == 0) = true := by simp [hm0]
          have H6 := Kp.mk (HH.out.more (Nat.le_succ i))
          clear HH hm0
          go_wp2_with fail
          go_meet
          case rel => exact ⟨be, ep, b, q, E, c, g, A, m, cp, f, l, rfl, rfl, rfl, rfl, rfl, rfl, H6⟩
        have e0 : ((m : Int) == 0) = false := by simp [hm0]
        have e1 : ¬ (m : Int) = 0 := by omega
        have e2 : wrap64 (x.tdiv 8) = x.tdiv 8 := by
          have := HX.out
          rw [Int.tdiv_eq_ediv_of_nonneg (by omega)]
          unfold wrap64
          omega
        have hml := HH.out.pt.wi.len
        have hj : ∃ j : Nat, (x.tdiv 8).tmod (m : Int) = j ∧ j < m := by
          have := HX.out
          have h1 : 0 ≤ x.tdiv 8 := by rw [Int.tdiv_eq_ediv_of_nonneg (by omega)]; omega
          have h2 := Int.emod_nonneg (x.tdiv 8) (b := (m : Int)) (by omega)
          have h3 := Int.emod_lt_of_pos (x.tdiv 8) (b := (m : Int)) (by omega)
          rw [Int.tmod_eq_emod_of_nonneg h1]
          exact ⟨((x.tdiv 8) % (m : Int)).toNat, by omega, by omega⟩
        obtain ⟨j, e3, hjm⟩ := hj
        obtain ⟨sx, hsx⟩ : ∃ sx, l[j]? = some sx := ⟨_, List.getElem?_eq_getElem (by omega)⟩
        have HMem := Kp.mk (List.mem_of_getElem? hsx)
        have HJ := Kp.mk hjm
        obtain ⟨gW, eW, hlW, hcW⟩ := HH.out.pt.wi.at_ (by omega)
        subst eW
        obtain ⟨sk, st, sf, sh, sp, so, ss, sa, sA, sn, sc⟩ := sx
        have hcell := hcW j _ hsx
        have q0 : wc.cell? ⟨gW, j * 9, none⟩ = some (.int .i64 sk) := hcell 0 _ rfl
        have q1 : wc.cell? ⟨gW, j * 9 + 1, none⟩ = some (.int .i64 st) := hcell 1 _ rfl
        have q2 : wc.cell? ⟨gW, j * 9 + 2, none⟩ = some (.int .i64 sf) := hcell 2 _ rfl
        have q3 : wc.cell? ⟨gW, j * 9 + 3, none⟩ = some (.int .i64 sh) := hcell 3 _ rfl
        have q4 : wc.cell? ⟨gW, j * 9 + 4, none⟩ = some (.int .i64 sp) := hcell 4 _ rfl
        have q5 : wc.cell? ⟨gW, j * 9 + 5, none⟩ = some (.int .i64 so) := hcell 5 _ rfl
        have q6 : wc.cell? ⟨gW, j * 9 + 6, none⟩ = some (.int .i64 ss) := hcell 6 _ rfl
        have q7 : wc.cell? ⟨gW, j * 9 + 7, none⟩ = some (.int .i64 sa) := hcell 7 _ rfl
        have q8 : wc.cell? ⟨gW, j * 9 + 8, none⟩ = some (.slice sA sn sc) := hcell 8 _ rfl
        have hjl : (j : Int) < m := by omega
        clear hcell hcW hsx hm0 hml hjm
        go_upto_region 29 with fail
        clear q0 q1 q2 q3 q4 q5 q6 q7 q8 e1 e2 e3 hjl e0
        have hN := new_seg9 wc sk st sf sh sp so ss sa sA sn sc
        have h6 := HH.out.below hN.2
        obtain ⟨zb, hzb⟩ : ∃ zb, zb = wc.heap.size := ⟨_, rfl⟩
        have HGZ := Kp.mk (show gW < zb by rw [hzb]; exact hlW)
        rw [← hzb] at hN ⊢
        have HZB := Kp.mk hzb
        clear hzb HH hlW
        have v6 := hN.1
        clear hN
        generalize wc.alloc (.cells #[.int .i64 sk, .int .i64 st, .int .i64 sf, .int .i64 sh, .int .i64 sp, .int .i64 so, .int .i64 ss, .int .i64 sa, .slice sA sn sc] 31) = w6 at *
        obtain ⟨n0_0, n0_1, n0_2, n0_3, n0_4, n0_5, n0_6, n0_7, n0_8⟩ := seg_nine v6
        cases ht : (st == 0) with
        | true =>
          go_wp2_with fail
          refine (h6.take HMem.out).mono ?_
          rintro e w7 ⟨rfl, h7⟩
          have H7 := Kp.mk (h7.more (Nat.le_succ i))
          clear h6 h7 v6 n0_0 n0_1 n0_2 n0_3 n0_4 n0_5 n0_6 n0_7 n0_8 ht
          go_wp2_with fail
          go_meet
          case rel => exact ⟨be, ep, _, _, E, c, g, _, m, cp, f, l, rfl, rfl, rfl, rfl, rfl, rfl, H7⟩
        | false =>
          go_wp2_with fail
          refine (h6.pt.cg.gtake ⟨sk, st, sf, sh, sp, so, ss, sa, sA, sn, sc⟩).mono ?_
          rintro e w7 ⟨rfl, h7, hg7⟩
          have hP := h6.pt.guest h7 hg7
          have HI6 := Kp.mk h6.inv
          have v7 := v6.grown hg7 (vb_ne v6 h6.pt.cg.gb (by decide))
          clear h7 hg7 h6 v6 n0_0 n0_1 n0_2 n0_3 n0_4 n0_5 n0_6 n0_7 n0_8 ht
          cases hbg : begG ⟨sk, st, sf, sh, sp, so, ss, sa, sA, sn, sc⟩ 4 be E with
          | false =>
            rw [ep_same hbg] at hP
            cases hig : isG ⟨sk, st, sf, sh, sp, so, ss, sa, sA, sn, sc⟩ 4 be E with
            | false =>
              generalize ansG ⟨sk, st, sf, sh, sp, so, ss, sa, sA, sn, sc⟩ 4 be E = y at *
              obtain ⟨yk, yt, yf, yh, yp, yo, ys, ya, yA, yn, yc⟩ := y
              simp only [Sv.v]
              go_upto_region 32 with fail
              have hN := new_seg9 w7 yk yt yf yh yp yo ys ya yA yn yc
              have h8 := hP.below hN.2
              clear hN hP v7
              generalize w7.alloc (.cells #[.int .i64 yk, .int .i64 yt, .int .i64 yf, .int .i64 yh, .int .i64 yp, .int .i64 yo, .int .i64 ys, .int .i64 ya, .slice yA yn yc] 31) = w8 at *
              have e4 : decide (E < E) = false := decide_eq_false (by omega)
              have H8 := Kp.mk (Ho.mk (h8.more (Nat.le_succ i)) HI6.out)
              go_wp2_with fail
              refine h8.cg.epoch.mono ?_
              rintro e w9 ⟨rfl, hw9⟩
              replace hw9 := hw9.symm
              subst hw9
              go_wp2_with fail
              refine h8.cg.epoch.mono ?_
              rintro e w9 ⟨rfl, hw9⟩
              replace hw9 := hw9.symm
              subst hw9
              clear h8
              go_wp2_with fail
              go_meet
              case rel => exact ⟨be, ep, b, q, E, c, g, _, m, cp, f, l, rfl, rfl, rfl, rfl, rfl, rfl, H8⟩
            | true =>
              have HS := Kp.mk (HI6.out.gHi ⟨sk, st, sf, sh, sp, so, ss, sa, sA, sn, sc⟩ hbg hig)
              generalize ansG ⟨sk, st, sf, sh, sp, so, ss, sa, sA, sn, sc⟩ 4 be E = y at *
              obtain ⟨yk, yt, yf, yh, yp, yo, ys, ya, yA, yn, yc⟩ := y
              simp only [Sv.v]
              go_upto_region 33 with fail
              have hN := new_seg9 w7 yk yt yf yh yp yo ys ya yA yn yc
              have h8 := hP.below hN.2
              replace v7 := v7.below hN.2 v7.lt
              have v8 := hN.1
              obtain ⟨zc, hzc⟩ : ∃ zc, zc = w7.heap.size := ⟨_, rfl⟩
              rw [← hzc] at v8 ⊢
              have HZC := Kp.mk hzc
              clear hzc hN hP
              generalize w7.alloc (.cells #[.int .i64 yk, .int .i64 yt, .int .i64 yf, .int .i64 yh, .int .i64 yp, .int .i64 yo, .int .i64 ys, .int .i64 ya, .slice yA yn yc] 31) = w8 at *
              obtain ⟨n0_0, n0_1, n0_2, n0_3, n0_4, n0_5, n0_6, n0_7, n0_8⟩ := seg_nine v8
              obtain ⟨A7, c7, w9, hrun, hO7, hg7, hb7⟩ := h8.wi.more 55 ⟨yk, yt, yf, yh, yp, yo, ys, ya, yA, yn, yc⟩ (by have := h8.mn; have := HI.out; omega) h8.cg.old.size
              have hrun : (Builtin.append_ #[55, 55] 55 #[.slice (some ⟨gW, 0, none⟩) m cp, .slice (some ⟨w8.heap.size, 0, none⟩) 1 1]).run Try.prog (w8.alloc (.cells #[.int .i64 yk, .int .i64 yt, .int .i64 yf, .int .i64 yh, .int .i64 yp, .int .i64 yo, .int .i64 ys, .int .i64 ya, .slice yA yn yc] 31)) = .ok (.slice A7 (m + 1) c7) w9 := hrun
              have hQ := h8.append hO7 hg7 hb7
              have v9 := v7.grown (r := gW) hg7 (by have := HGZ.out; omega)
              clear h8 hO7 hg7 hb7 v7 v8
              go_wp2_with (at_builtin; refine Lib.wpList_append_run _ rfl _ _ _ _ rfl _ _ rfl rfl _ _ hrun ?_)
              clear hrun n0_0 n0_1 n0_2 n0_3 n0_4 n0_5 n0_6 n0_7 n0_8
              have e4 : decide (E < E) = false := decide_eq_false (by omega)
              refine hQ.cg.epoch.mono ?_
              rintro e wx ⟨rfl, hwx⟩
              replace hwx := hwx.symm
              subst hwx
              go_wp2_with fail
              refine hQ.cg.epoch.mono ?_
              rintro e wx ⟨rfl, hwx⟩
              replace hwx := hwx.symm
              subst hwx
              have H8 := Kp.mk (Ho.mk hQ HS.out)
              clear hQ v9
              go_wp2_with fail
              go_meet
              case rel => exact ⟨be, ep, b, q, E, c, g, _, _, _, f, _, rfl, rfl, rfl, rfl, rfl, rfl, H8⟩
          | true =>
            obtain ⟨hig, hep, hlt, hpe, hoo, hf0, hS⟩ := HI6.out.begins HMem.out hbg
            rw [hep] at hP
            rw [hig]
            have HS := Kp.mk hS
            generalize ansG ⟨sk, st, sf, sh, sp, so, ss, sa, sA, sn, sc⟩ 4 be E = y at *
            clear hS hep hig hbg HMem HJ
            replace hlt : E < sp := hlt
            obtain ⟨P, hPP⟩ : ∃ P : Nat, sp = P := ⟨sp.toNat, by have := HI6.out.e0; omega⟩
            replace hoo : so = be := hoo
            replace hpe : sp ≤ ep := hpe
            replace hf0 : f sp.toNat = 0 := hf0
            replace hP : Hp W w7 k i be ep b q sp c g (some ⟨gW, 0, none⟩) m cp f l := hP
            subst hPP hoo
            rw [Int.toNat_natCast] at hf0
            have HB := Kp.mk (show P < 256 ∧ E < (P : Int) ∧ (P : Int) ≤ ep ∧ ep ≤ 201 by have := hP.p1; have := HI.out; omega)
            have HF := Kp.mk hf0
            clear hlt hpe hf0
            obtain ⟨yk, yt, yf, yh, yp, yo, ys, ya, yA, yn, yc⟩ := y
            simp only [Sv.v]
            go_upto_region 33 with fail
            have hN := new_seg9 w7 yk yt yf yh yp yo ys ya yA yn yc
            have h8 := hP.below hN.2
            replace v7 := v7.below hN.2 v7.lt
            have v8 := hN.1
            obtain ⟨zc, hzc⟩ : ∃ zc, zc = w7.heap.size := ⟨_, rfl⟩
            rw [← hzc] at v8 ⊢
            have HZC := Kp.mk hzc
            clear hzc hN hP
            generalize w7.alloc (.cells #[.int .i64 yk, .int .i64 yt, .int .i64 yf, .int .i64 yh, .int .i64 yp, .int .i64 yo, .int .i64 ys, .int .i64 ya, .slice yA yn yc] 31) = w8 at *
            obtain ⟨n0_0, n0_1, n0_2, n0_3, n0_4, n0_5, n0_6, n0_7, n0_8⟩ := seg_nine v8
            obtain ⟨A7, c7, w9, hrun, hO7, hg7, hb7⟩ := h8.wi.more 55 ⟨yk, yt, yf, yh, yp, yo, ys, ya, yA, yn, yc⟩ (by have := h8.mn; have := HI.out; omega) h8.cg.old.size
            have hrun : (Builtin.append_ #[55, 55] 55 #[.slice (some ⟨gW, 0, none⟩) m cp, .slice (some ⟨w8.heap.size, 0, none⟩) 1 1]).run Try.prog (w8.alloc (.cells #[.int .i64 yk, .int .i64 yt, .int .i64 yf, .int .i64 yh, .int .i64 yp, .int .i64 yo, .int .i64 ys, .int .i64 ya, .slice yA yn yc] 31)) = .ok (.slice A7 (m + 1) c7) w9 := hrun
            have hQ := h8.append hO7 hg7 hb7
            have v9 := v7.grown (r := gW) hg7 (by have := HGZ.out; omega)
            clear h8 hO7 hg7 hb7 v7 v8
            go_wp2_with (at_builtin; refine Lib.wpList_append_run _ rfl _ _ _ _ rfl _ _ rfl rfl _ _ hrun ?_)
            clear hrun n0_0 n0_1 n0_2 n0_3 n0_4 n0_5 n0_6 n0_7 n0_8
            have e4 : decide (E < (P : Int)) = true := decide_eq_true HB.out.2.1
            have e5 : decide ((P : Int) < E) = false := decide_eq_false (by have := HB.out; omega)
            have r5 : w9.cell? ⟨zb, 5, none⟩ = some (.int .i64 so) := v9.cell 5 rfl
            have hbP := Ser.bring_any (P : Int) 256 w9 (by omega) (by omega)
            rw [show Ser.bringP (P : Int) 256 = P from Int.emod_eq_of_lt (by omega) (by have := HB.out; omega)] at hbP
            have c5 := hQ.by_.cell P HB.out.1
            have f5 := Vb.free hQ.by_ P
            rw [HF.out] at c5
            have h256 : (P : Int) < 256 := by have := HB.out; omega
            have HS2 := HS.out
            rw [Int.toNat_natCast] at HS2
            have H9 := Kp.mk (Ho.mk (hQ.set P so) HS2)
            clear HS2 v9
            refine hQ.cg.epoch.mono ?_
            rintro e wx ⟨rfl, hwx⟩
            replace hwx := hwx.symm
            subst hwx
            go_wp2_with fail
            refine hQ.cg.epoch.mono ?_
            rintro e wx ⟨rfl, hwx⟩
            replace hwx := hwx.symm
            subst hwx
            go_wp2_with fail
            refine hQ.cg.epoch.mono ?_
            rintro e wx ⟨rfl, hwx⟩
            replace hwx := hwx.symm
            subst hwx
            go_wp2_with fail
            refine hbP.mono ?_
            rintro e wx ⟨rfl, hwx⟩
            subst hwx
            go_wp2_with fail
            refine hQ.cg.epoch.mono ?_
            rintro e wx ⟨rfl, hwx⟩
            replace hwx := hwx.symm
            subst hwx
            clear hQ
            go_wp2_with fail
            refine hbP.mono ?_
            rintro e wx ⟨rfl, hwx⟩
            subst hwx
            clear hbP
            go_wp2_with fail
            go_meet
            case rel => exact ⟨so, ep, b, q, P, c, g, _, _, _, _, _, rfl, rfl, rfl, rfl, rfl, rfl, H9⟩
      · skip
        go_upto_region 39 with fail
        clear hz
        by_cases hx : (300 : Int) < x
        · have e4 : wrap64 (be + 1) = be + 1 := by have := HH.out.pt.b1; have := HH.out.pt.p1; have := HH.out.inv.be1; have := HH.out.pt.p0; have := HI.out; unfold wrap64; omega
          have hn := gnew_yes wc 4 (be + 1) (by decide) (lg_of (by have := HH.out.pt.b1; have := HH.out.pt.p1; have := HH.out.inv.be1; have := HH.out.pt.p0; have := HI.out; omega))
          go_wp2_with fail
          refine hn.mono ?_
          rintro e w5 ⟨rfl, hg5, hb5⟩
          have H5 := Kp.mk (HH.out.boot hg5 hb5)
          clear hn HH hg5 hb5
          go_wp2_with fail
          go_meet
          case rel => exact ⟨be + 1, ep, b, q, 0, c, wc.heap.size, A, m, cp, f, l, rfl, rfl, rfl, rfl, rfl, rfl, H5⟩
        · have H5 := Kp.mk (HH.out.more (Nat.le_succ i))
          clear HH
          go_wp2_with fail
          go_meet
          case rel => exact ⟨be, ep, b, q, E, c, g, A, m, cp, f, l, rfl, rfl, rfl, rfl, rfl, rfl, H5⟩
      · skip
        go_upto_region 13 with fail
        clear hz
        by_cases hx : (200 : Int) < x
        · have e4 : wrap64 (ep + 1) = ep + 1 := by have := HH.out.pt.b1; have := HH.out.pt.p1; have := HH.out.inv.be1; have := HH.out.pt.p0; have := HI.out; unfold wrap64; omega
          have hn := cnew_yes wc 4 (ep + 1) (by decide) (lg_of (by have := HH.out.pt.b1; have := HH.out.pt.p1; have := HH.out.inv.be1; have := HH.out.pt.p0; have := HI.out; omega))
          go_wp2_with fail
          refine hn.mono ?_
          rintro e w5 ⟨rfl, hg5, hb5⟩
          have H5 := Kp.mk (HH.out.anew hg5 hb5)
          clear hn HH hg5 hb5
          go_wp2_with fail
          go_meet
          case rel => exact ⟨be, ep + 1, 0, 1, E, wc.heap.size, g, A, m, cp, f, l, rfl, rfl, rfl, rfl, rfl, rfl, H5⟩
        · have H5 := Kp.mk (HH.out.more (Nat.le_succ i))
          clear HH
          go_wp2_with fail
          go_meet
          case rel => exact ⟨be, ep, b, q, E, c, g, A, m, cp, f, l, rfl, rfl, rfl, rfl, rfl, rfl, H5⟩
    case rest =>
    obtain ⟨be, ep, b, q, E, c, g, A, m, cp, f, l, rfl, rfl, rfl, rfl, rfl, rfl, HH⟩ := hcut
    refine h3 _ _ ?_
    have HI2 := Kp.mk (show i + 1 ≤ 200 ∧ i + 1 ≤ n0 ∧ ((i + 1 : Nat) : Int) = (i : Int) + 1 by have := HI.out; omega)
    have ei : wrap64 ((i : Int) + 1) = (i : Int) + 1 := by have := HI.out; unfold wrap64; omega
    have HEI := Kp.mk ei
    obtain ⟨P, hPP⟩ : ∃ P : Nat, ep = P := ⟨ep.toNat, by have := HH.out.pt.p0; omega⟩
    subst hPP
    have c5 := HH.out.pt.by_.cell P (by have := HH.out.pt.p1; have := HI.out; omega)
    have h256 : (P : Int) < 256 := by have := HH.out.pt.p1; have := HI.out; omega
    cases hq : (q == 3) with
    | false => as_aux_lemma =>
      go_wp2_with fail
      refine HH.out.pt.cg.open_.mono ?_
      rintro e wx ⟨rfl, hwx⟩
      replace hwx := hwx.symm
      subst hwx
      rw [hq]
      clear c5 hl1 hl2
      go_wp2_with fail
      go_roundw
      case rel => exact ⟨i + 1, be, P, b, q, E, c, g, A, m, cp, f, l, rfl, rfl, rfl, rfl, rfl, rfl, by rw [HI2.out.2.2, HEI.out], Kp.mk ⟨HI2.out.1, HI2.out.2.1⟩, HH⟩
      case measure => exact meas201 HI2.out.1 HEI.out
    | true => as_aux_lemma =>
      have hne : (f P == 0) = false := by
        have h1 := HH.out.inv.opn (by simpa using hq)
        rw [Int.toNat_natCast] at h1
        simpa using h1
      go_wp2_with fail
      refine HH.out.pt.cg.open_.mono ?_
      rintro e wx ⟨rfl, hwx⟩
      replace hwx := hwx.symm
      subst hwx
      rw [hq]
      clear hl1 hl2
      go_wp2_with fail
      go_roundw
      case rel => exact ⟨i + 1, be, P, b, q, E, c, g, A, m, cp, f, l, rfl, rfl, rfl, rfl, rfl, rfl, by rw [HI2.out.2.2, HEI.out], Kp.mk ⟨HI2.out.1, HI2.out.2.1⟩, HH⟩
      case measure => exact meas201 HI2.out.1 HEI.out
theorem hailOne_walk (A : Option Addr) (n c : Nat) (z : List Int) (w : World) (w0 : Frame.IsRow .i64 w A n c z) (re : c * 8 ≤ 140737488351232) : Calls Try.prog 4 #[.slice A n c] w fun e w' => e = .returned (.bool true) ∧ Below w.heap.size w w' := hailOne_any (Rd.of_row w0)
end Go.Proofs.Ytomjnpjabfnlbaa.Oct
