/- Contracts of layer 13 (sender): a call of both senders, of whatever kind, answers true. -/
import Derived.Test.YtkpjnikbcgngbaaSndJ
namespace Go.Proofs.Ytkpjnikbcgngbaa.Oct
open Go.RowKit
set_option linter.unusedVariables false
set_option linter.unusedSimpArgs false
/-- Any block. -/
def Tq (_ : Nat) : Prop := True
section
variable {w w' W : World} {s c m wd said all lo : Nat} {nx : Int} {r rm : Option Nat} {ms : List (List Int)}
/-- What a step leaves. -/
def Stp (W : World) (lo : Nat) (s c wd m : Nat) (w' : World) : Prop := ∃ nx said all r rm ms, PS Tq W lo w' s c wd m nx said all r rm ms
theorem Stp.of {P : Nat → Prop} (h : PS P W lo w s c wd m nx said all r rm ms) : Stp W lo s c wd m w := ⟨nx, said, all, r, rm, ms, h.imp (fun _ _ _ => trivial)⟩
/-- Where one side is done and then the other one. -/
theorem PS.both {P Q : Nat → Prop} {nx' : Int} {said' all' : Nat} {r' rm' : Option Nat} {ms' : List (List Int)} {w1 w2 : World} (h : PS P W lo w s c wd m nx said all r rm ms) (hsp : Sp Q w2 s c wd nx' said' all' r' ms') (hsm : Sm Q w2 m wd nx' said' all' rm' ms')
    (z1 : w.heap.size ≤ w1.heap.size) (z2 : w1.heap.size ≤ w2.heap.size) (hbl : Below lo W w2) (h1 : r' = r ∨ ∀ k, r' = some k → w.heap.size ≤ k) (h2 : rm' = rm ∨ ∀ k, rm' = some k → w1.heap.size ≤ k) (h3 : ∀ k, r' = some k → k < w1.heap.size) : PS Q W lo w2 s c wd m nx' said' all' r' rm' ms' := by
  have hk1 : ∀ k, Kb s c r' k → Kb s c r k ∨ (w.heap.size ≤ k ∧ k < w1.heap.size) := by
    rintro k (e | e | e)
    · exact .inl (.inl e)
    · exact .inl (.inr (.inl e))
    · rcases h1 with rfl | h1
      · exact .inl (.inr (.inr e))
      · exact .inr ⟨h1 k e, h3 k e⟩
  have hk2 : ∀ k, Kb m m rm' k → Kb m m rm k ∨ w1.heap.size ≤ k := by
    rintro k (e | e | e)
    · exact .inl (.inl e)
    · exact .inl (.inl e)
    · rcases h2 with rfl | h2
      · exact .inl (.inr (.inr e))
      · exact .inr (h2 k e)
  refine ⟨hsp, hsm, fun k e1 e2 => ?_, fun k e => ?_, fun k e => ?_, ?_, ?_⟩
  · have q1 := h.sp.lt k
    have q2 := h.sm.lt k
    rcases hk1 k e1 with e1 | ⟨e1, e3⟩ <;> rcases hk2 k e2 with e2 | e2
    · exact h.ap k e1 e2
    · have := q1 e1; omega
    · have := q2 e2; omega
    · omega
  · rcases hk1 k e with e | ⟨e, _⟩
    · exact h.g1 k e
    · exact Nat.le_trans h.sz e
  · rcases hk2 k e with e | e
    · exact h.g2 k e
    · exact Nat.le_trans h.sz (Nat.le_trans z1 e)
  · exact hbl
  · exact Nat.le_trans h.sz (Nat.le_trans z1 z2)
end
set_option maxRecDepth 100000 in
set_option maxHeartbeats 16000000 in
theorem step_any {w W : World} {s c m wd said all lo : Nat} {nx : Int} {r rm : Option Nat} {ms : List (List Int)} {dA : Option Addr} {dn dc : Nat} {bs : List Int} (h : PS Tq W lo w s c wd m nx said all r rm ms) (dk di : Int) (hr : Rd .u8 w lo dA dn dc bs) (hby : By bs) (hn : dn ≤ 300) : Calls Try.prog 9 #[.pointer (some ⟨s, 0, none⟩), .pointer (some ⟨m, 0, none⟩), .agg #[.int .i64 dk, .int .i64 di, .slice dA dn dc]] w fun e w' => e = .returned (.bool true) ∧ Stp W lo s c wd m w' := by
  have hb0 := below_alloc w (.cells #[.int .i64 dk, .int .i64 di, .slice dA dn dc] 32)
  have hV : Vb 32 (w.alloc (.cells #[.int .i64 dk, .int .i64 di, .slice dA dn dc] 32)) w.heap.size [.int .i64 dk, .int .i64 di, .slice dA dn dc] := Vb.new 32 w [.int .i64 dk, .int .i64 di, .slice dA dn dc]
  have h1 := h.below hb0
  have hr1 := hr.below' (hb0.mono h.sz) (Nat.le_refl _)
  have hgx := Kp.mk h.sz
  have HBY := Kp.mk (And.intro hby hn)
  clear h hb0 hr hby hn
  go_enter Try.func9, Try.ntmps9
  go_upto_region 1 with fail
  obtain ⟨gx, hg⟩ : ∃ gx, gx = w.heap.size := ⟨_, rfl⟩
  rw [← hg] at hV hgx ⊢
  clear hg
  generalize w.alloc (.cells #[.int .i64 dk, .int .i64 di, .slice dA dn dc] 32) = w1 at *
  have e0 := hV.cell 0 rfl
  have e1 := hV.cell 1 rfl
  have e2 := hV.cell 2 rfl
  have hbd := Kp.mk (Ser.bringP_bd dk 5 (by omega))
  have hbr := Ser.bring_any dk 5 w1 (by omega) (by omega)
  generalize Ser.bringP dk 5 = z at *
  have hz : z = 0 ∨ z = 1 ∨ z = 2 ∨ z = 3 ∨ z = 4 := by have := hbd.out; omega
  clear hbd
  have H := Kp.mk h1
  have HV := Kp.mk hV
  have HR := Kp.mk hr1
  clear h1 hV hr1
  rcases hz with rfl | rfl | rfl | rfl | rfl
  · skip
    clear e1
    go_wp2_with (first | (go_at_call 17; refine hbr.mono ?_; rintro e q ⟨rfl, hq1⟩; subst hq1))
    refine (sndCopy_any HR.out (by have := HBY.out.2; omega) HBY.out.1).mono ?_
    rintro e w2 ⟨⟨gA, gn, gc, gl⟩, rfl, hgl, hgn, hown, hfok, hb2⟩
    have hgl : bs = gl := hgl.symm
    have hgn : dn = gn := hgn.symm
    subst hgl
    subst hgn
    change Own w2 w1.heap.size (.slice gA gn gc) gn bs at hown
    have hrg : Rd .u8 w2 w2.heap.size gA gn gc bs := hfok.rd
    clear e0 e2
    have h2 := (H.out.imp (Q := fun b => b < w1.heap.size) (fun b hb _ => hb)).below hb2
    have hV2 := HV.out.below hb2 HV.out.lt
    have hz2 := Kp.mk hb2.size
    have HIB := Kp.mk (show ∀ k, (Value.slice gA gn gc).ownBlock = some k → w1.heap.size ≤ k ∧ k < w2.heap.size from World.ownsRow.lt hown)
    have HKL := Kp.mk (show (∀ k, Kb s c r k → k < w1.heap.size) ∧ ∀ k, Kb m m rm k → k < w1.heap.size from ⟨H.out.sp.lt, H.out.sm.lt⟩)
    have HR2 := HR.out.below (hb2.mono H.out.sz)
    clear HR hbr hb2 hfok
    go_wp2_with fail
    refine (sput_any h2.sp hrg (Nat.le_refl _) HBY.out.1).mono ?_
    rintro e w3 ⟨r3, rfl, hS3, hC3, hr3⟩
    have hown3 := sOwn_stay hown hC3 (fun k hk cur hcur hb => h2.sp.bytes k _ _ hb hcur)
    have hM3 := h2.sm.stay hC3 (fun k e1 e2 => h2.ap k e2 e1) (fun b cs m _ _ hb e => h2.sp.bytes b cs m e hb)
    have hV3 : Vb 32 w3 gx [.int .i64 dk, .int .i64 di, .slice dA gn dc] := (hC3.block gx hV2.lt (fun e => h2.sp.nob gx _ _ _ e (by decide) (by decide) hV2)).trans hV2
    have hR3 := HR2.below (hC3.below (B := lo) h2.g1 h2.sz)
    have H2 := Kp.mk h2
    have HC3 := Kp.mk (And.intro hC3 (And.intro hr3 (show ∀ k, Kb s c r3 k → k < w3.heap.size from hS3.lt)))
    clear h2 hown hC3 hr3 hV2 HR2 hrg
    obtain ⟨E, hE⟩ : ∃ E, E = putSE gn ms.length all := ⟨_, rfl⟩
    rw [← hE] at hS3 ⊢
    have HE := Kp.mk hE
    have HS3 := Kp.mk hS3
    have HM3 := Kp.mk hM3
    have HV3 := Kp.mk hV3
    have HR3 := Kp.mk hR3
    have HWL := Kp.mk (show w1.heap.size ≤ w2.heap.size ∧ w2.heap.size ≤ w3.heap.size ∧ lo ≤ w1.heap.size ∧ gx < w1.heap.size from ⟨hz2.out, HC3.out.1.size, H.out.sz, HV.out.lt⟩)
    clear hE hS3 hM3 hV3 hR3 hz2
    go_wp2_with fail
    go_loopw [9] (fun s9 wr => ∃ (j : Nat) (l' : List Int), s9 = .int .i64 j ∧ j ≤ gn ∧ Own wr w1.heap.size (.slice gA gn gc) gn l' ∧ Ch (fun x => (Value.slice gA gn gc).ownBlock = some x) w3 wr) (fun s9 _ => gn - (intOf s9).toNat)
    case atStart => exact ⟨0, bs, rfl, Nat.zero_le _, hown3, Ch.refl _ _⟩
    case round =>
      clear hown3
      obtain ⟨j, l', rfl, hj, hO, hC⟩ := hrel
      by_cases hlt : (j : Int) < gn
      · obtain ⟨gi, hA, hnc, ⟨cur, hcur⟩, hcell, hfz, hset⟩ := sOwn_blk hO (by omega)
        have d0 := hcell j (by omega)
        have f0 := hfz j
        have HK := Kp.mk hlt
        have HS := Kp.mk hset
        have HC := Kp.mk hC
        subst hA
        clear hcell hfz hset hcur hO hC
        go_wp2_with fail
        go_roundw
        case rel => exact ⟨j + 1, _, congrArg (Value.int .i64) (wrap_succ (by have := HBY.out.2; have := HK.out; omega)), by have := HK.out; omega, HS.out j _, HC.out.trans (Ch.of_grown (grownBy_set wr gi j _)) (fun x _ e => by rw [e]; rfl)⟩
        case measure => exact meas_lt (by have := HK.out; omega) (by have := HBY.out.2; have := HK.out; omega)
      · have hni : ∀ k, (Value.slice gA gn gc).ownBlock = some k → ¬ Kb s c r3 k ∧ ¬ Kb m m rm k ∧ k ≠ gx ∧ w1.heap.size ≤ k ∧ k < w2.heap.size := by
          intro k hk
          have hb := HIB.out k hk
          have hw := HWL.out
          refine ⟨?_, fun e => by have := HKL.out.2 k e; omega, by omega, hb⟩
          rintro (e | e | e)
          · have := HKL.out.1 k (.inl e); omega
          · have := HKL.out.1 k (.inr (.inl e)); omega
          · rcases HC3.out.2.1 with rfl | h3
            · have := HKL.out.1 k (.inr (.inr e)); omega
            · have := h3 k e; omega
        have hS4 := HS3.out.stay hC (fun k e1 e2 => (hni k e2).1 e1) (fun b cs m hb hp _ e => by have := hni b e; omega)
        have hM4 := HM3.out.stay hC (fun k e1 e2 => (hni k e2).2.1 e1) (fun b cs m hb hp _ e => by have := hni b e; omega)
        have hV4 : Vb 32 wr gx [.int .i64 dk, .int .i64 di, .slice dA gn dc] := (hC.block gx HV3.out.lt (fun e => (hni gx e).2.2.1 rfl)).trans HV3.out
        have hR4 := HR3.out.below (hC.below (B := lo) (fun k e => by have := hni k e; have := HWL.out; omega) (by have := HWL.out; omega))
        have hC4 := Kp.mk hC
        have hl := hlt
        have e2 := hV4.cell 2 rfl
        have HNI := Kp.mk hni
        have HMB := Kp.mk hM4.bytes
        have HBL := Kp.mk (show Below lo W wr from (H2.out.bl.trans (HC3.out.1.below H2.out.g1 H2.out.sz)).trans (hC.below (B := lo) (fun k e => by have := hni k e; have := HWL.out; omega) (by have := HWL.out; omega)))
        have HZ := Kp.mk (show w3.heap.size ≤ wr.heap.size from hC.size)
        have hpm := mput_anyS hM4 hR4 (by have := HWL.out; have := hC.size; omega) HBY.out.1
        rw [← HE.out] at hpm
        have HS4 := Kp.mk hS4
        clear hni hO hC hV4 hR4 hM4 hS4
        go_wp2_with fail
        refine hpm.mono ?_
        rintro e w5 ⟨r5, rfl, hM5, hC5, hr5⟩
        clear hpm e2
        have hap : ∀ k, Kb s c r3 k → ¬ Kb m m rm k := by
          intro k e1 e2
          rcases e1 with e1 | e1 | e1
          · exact H2.out.ap k (.inl e1) e2
          · exact H2.out.ap k (.inr (.inl e1)) e2
          · rcases HC3.out.2.1 with rfl | h3
            · exact H2.out.ap k (.inr (.inr e1)) e2
            · have := h3 k e1
              have := HKL.out.2 k e2
              have := HWL.out
              omega
        have hS5 := HS4.out.stay hC5 (fun k e1 e2 => hap k e1 e2) (fun b cs mk _ _ hb e => HMB.out b cs mk e hb)
        have hfin := H2.out.both (w1 := wr) (hS5.imp (Q := Tq) (fun _ _ _ => trivial)) (hM5.imp (Q := Tq) (fun _ _ _ => trivial)) (by have := HWL.out; have := HZ.out; omega) hC5.size (HBL.out.trans (hC5.below H2.out.g2 (by have := HWL.out; have := HZ.out; omega))) HC3.out.2.1 hr5 (fun k e => by have := HC3.out.2.2 k (.inr (.inr e)); have := HZ.out; omega)
        have HFIN := Kp.mk (Stp.of hfin)
        clear hap hS5 hfin hM5 hC5 hr5
        go_wp2_with fail
        go_ret
        exact ⟨rfl, HFIN.out⟩
  · skip
    clear e1 e2
    go_wp2_with (first | (go_at_call 17; refine hbr.mono ?_; rintro e q ⟨rfl, hq1⟩; subst hq1))
    clear e0 hbr
    refine (sfresh_any (H.out.sp.imp (Q := fun b => b < w1.heap.size) (fun b hb _ => hb))).mono ?_
    rintro e w2 ⟨A1, n1, c1, its1, rfl, hk1, hO1, hT1, hS2, hC2⟩
    have hM2 := (H.out.sm.imp (Q := fun b => b < w1.heap.size) (fun b hb _ => hb)).stay hC2 (fun k e1 e2 => H.out.ap k (.inr (.inl e2)) e1) (fun b cs mk _ _ hb e => H.out.sp.bytes b cs mk (.inr (.inl e)) hb)
    have HKL := Kp.mk (show (∀ k, Kb s c r k → k < w1.heap.size) ∧ ∀ k, Kb m m rm k → k < w1.heap.size from ⟨H.out.sp.lt, H.out.sm.lt⟩)
    have HK1 := Kp.mk hk1
    have HC2 := Kp.mk hC2
    have HS2 := Kp.mk hS2
    have HO1 := Kp.mk hO1
    have HT1 := Kp.mk hT1
    clear hk1 hC2 hS2 hO1 hT1
    go_wp2_with fail
    refine (mfresh_any hM2).mono ?_
    rintro e w3 ⟨A2, n2, c2, its2, rfl, hk2, hO2, hT2, hM3, hC3⟩
    obtain rfl : n2 = n1 := by have := HK1.out; omega
    have hml := HKL.out.2 m (.inl rfl)
    have hS3 := HS2.out.stay hC3 (fun k e1 e2 => H.out.ap k e1 (.inl e2)) (fun b cs mk _ _ hb e => hM2.bytes b cs mk (.inl e) hb)
    have hO3 := HO1.out.stay hC3 (fun k hk e => by have := HO1.out.lt k hk; omega)
    have hT3 := HT1.out.other hC3 (fun b cs mk e => hM2.bytes b cs mk (.inl e))
    have hz2 := HC2.out.size
    have hsi := sameItems_any hO3.im hO2.im (Nat.le_refl _) (Nat.le_refl _) hT3 hT2 (by have := hS3.fit; omega)
    have hP3 := Kp.mk (H.out.both (w1 := w2) hS3 hM3 hz2 hC3.size ((H.out.bl.trans (HC2.out.below (fun k e => H.out.g1 k (.inr (.inl e))) H.out.sz)).trans (hC3.below (fun k e => H.out.g2 k (.inl e)) (Nat.le_trans H.out.sz hz2))) (.inl rfl) (.inl rfl) (fun k e => HS2.out.lt k (.inr (.inr e))))
    have HO3 := Kp.mk hO3
    have HT3 := Kp.mk hT3
    have HW := Kp.mk (show w1.heap.size ≤ w3.heap.size from Nat.le_trans hz2 hC3.size)
    have HN1 := Kp.mk (show n2 ≤ 4 by have := hS3.fit; have := HK1.out; omega)
    clear hM2 hk2 hO2 hT2 hM3 hC3 hS3 hO3 hT3 hz2 hml HO1 HT1 HC2 HS2
    go_wp2_with fail
    refine hsi.mono ?_
    rintro e w4 ⟨rfl, hb4⟩
    have hO4 := HO3.out.below hb4
    have hL4 : ∀ x ∈ its1, Sl8 (fun b => w1.heap.size ≤ b) w4 x.2 := fun x hx => Sl8.of ((HT3.out.fr x hx).below hb4)
    have H4 := Kp.mk (hP3.out.below hb4)
    have HW4 := Kp.mk (show w1.heap.size ≤ w4.heap.size from Nat.le_trans HW.out hb4.size)
    clear hsi hb4 HT3
    go_wp2_with fail
    go_loopw [12, 13] (fun s12 _ wr => ∃ (i : Nat) (its : List (Int × FrV)), s12 = .int .i64 i ∧ i ≤ n2 ∧ Om wr w1.heap.size (.slice A1 n2 c1) n2 its ∧ (∀ x ∈ its, Sl8 (fun b => w1.heap.size ≤ b) wr x.2) ∧ Ch (fun x => w1.heap.size ≤ x) w4 wr) (fun s12 _ _ => n2 - (intOf s12).toNat)
    case atStart => exact ⟨0, its1, rfl, Nat.zero_le _, hO4, hL4, Ch.refl _ _⟩
    case round =>
      clear hO4 hL4
      obtain ⟨i, its, rfl, hi, hO, hL, hC⟩ := hrel
      by_cases hlt : (i : Int) < n2
      · obtain ⟨x, hx⟩ : ∃ x, its[i]? = some x := ⟨_, List.getElem?_eq_getElem (show i < its.length by have := hO.len; omega)⟩
        obtain ⟨g, hA, hbg, q1, q2, hfz, hset⟩ := hO.turn hx
        subst hA
        have f0 := hfz (i * 2)
        have hHN := HN1.out
        have hcc : ∀ b cs mk, b = g → wr.heap[b]? ≠ some (.cells cs 5 mk) := fun b cs mk e => items_nocell hO b cs mk _ (by decide) (by rw [e]; rfl)
        have hc5 : Ch (fun y => y = g) wr (wr.setCell ⟨g, i * 2, none⟩ (.int .i64 (-1))) := .of_grown (grownBy_set wr g (i * 2) _)
        have hO5 := Kp.mk (hset (-1))
        have hL5 := Kp.mk (show ∀ y ∈ its.set i (-1, x.2), Sl8 (fun b => w1.heap.size ≤ b) (wr.setCell ⟨g, i * 2, none⟩ (.int .i64 (-1))) y.2 from fun y hy => by
          refine Sl8.other ?_ hc5 (fun b cs mk e => hcc b cs mk e)
          rcases List.mem_or_eq_of_mem_set hy with h | rfl
          · exact hL y h
          · exact hL x (List.mem_of_getElem? hx))
        have hC5 := Kp.mk (hC.trans hc5 (fun y _ e => by rw [e]; exact hbg))
        have hx5 := Kp.mk (show (its.set i (-1, x.2))[i]? = some (-1, x.2) from by rw [List.getElem?_set_self (List.getElem?_eq_some_iff.1 hx).1])
        have hx6 := Kp.mk (hL x (List.mem_of_getElem? hx)).small
        have HI := Kp.mk hlt
        clear hset hfz hO hL hC hc5 hcc hHN hi
        generalize its.set i (-1, x.2) = its5 at *
        go_wp2_with fail
        generalize wr.setCell _ _ = w5 at *
        go_loopw [13] (fun s13 wq => ∃ j : Nat, s13 = .int .i64 j ∧ j ≤ x.2.n ∧ Om wq w1.heap.size (.slice (some ⟨g, 0, none⟩) n2 c1) n2 its5 ∧ (∀ y ∈ its5, Sl8 (fun b => w1.heap.size ≤ b) wq y.2) ∧ Ch (fun y => w1.heap.size ≤ y) w4 wq) (fun s13 _ => x.2.n - (intOf s13).toNat)
        case atStart => exact ⟨0, rfl, Nat.zero_le _, hO5.out, hL5.out, hC5.out⟩
        case round =>
          clear f0 q1 q2
          obtain ⟨j, rfl, hj, hO, hL, hC⟩ := hrel
          obtain ⟨g', hA, hbg, q1, q2, hfz, hset⟩ := hO.turn hx5.out
          obtain rfl : g = g' := by simpa using hA
          obtain ⟨xn, hxn⟩ : ∃ xn, xn = x.2.n := ⟨_, rfl⟩
          obtain ⟨xc, hxc⟩ : ∃ xc, xc = x.2.c := ⟨_, rfl⟩
          obtain ⟨xA, hxA⟩ : ∃ xA, xA = x.2.A := ⟨_, rfl⟩
          replace q2 : wr.cell? ⟨g, i * 2 + 1, none⟩ = some (.slice xA xn xc) := by rw [hxn, hxc, hxA]; exact q2
          rw [← hxn] at hj ⊢
          have HXN := Kp.mk hxn
          by_cases hjl : (j : Int) < xn
          · have hsl := hL _ (List.mem_of_getElem? hx5.out)
            have hle := hsl.le
            obtain ⟨b, off, cs, e, hpb, hb, hcz⟩ := hsl.at_ (show 0 < x.2.n by omega)
            obtain ⟨z, hcz⟩ := hcz j (by show j < x.2.n; omega)
            replace e : xA = some ⟨b, off, none⟩ := hxA.trans e
            subst e
            replace hcz : wr.cell? ⟨b, off + j, none⟩ = some (.int .u8 z) := by simp [World.cell?, hb, hcz]
            replace hfz : wr.frozen? ⟨b, off + j, none⟩ = false := by simp [World.frozen?, hb]
            have hne : ¬ g = b := fun e => items_nocell hO g cs (0, 0) 5 (by decide) rfl (by rw [e]; exact hb)
            have HJ := Kp.mk hjl
            have hjn : ¬ (i : Int) < 0 := by omega
            have hi1 : (i : Int) < n2 := HI.out
            have HO := Kp.mk hO
            have hS9 : (wr.drew.setCell ⟨b, off + j, none⟩ (.int .u8 (bits BinOp.xor .u8 z 51))).cell? ⟨g, i * 2 + 1, none⟩ = some (.slice (some ⟨b, off, none⟩) xn xc) := by
              rw [World.cell?_setCell_other _ _ _ _ (fun e => hne (congrArg Addr.block e).symm)]
              exact q2
            have hcD : Ch (fun y => w1.heap.size ≤ y) w4 wr.drew := hC.trans (Ch.of_below (S := fun y => w1.heap.size ≤ y) (below_drewN (Below.refl wr.heap.size wr) 1)) (fun _ _ e => e)
            have hc9 : Ch (fun y => y = b) wr.drew (wr.drew.setCell ⟨b, off + j, none⟩ (.int .u8 (bits BinOp.xor .u8 z 51))) := .of_grown (grownBy_set wr.drew b (off + j) _)
            have hO9 := Kp.mk ((hO.below (below_drewN (Below.refl wr.heap.size wr) 1)).stay hc9 (fun k hk e => hne (by simpa [Value.ownBlock, e] using hk)))
            have hL9 := Kp.mk (show ∀ y ∈ its5, Sl8 (fun b => w1.heap.size ≤ b) (wr.drew.setCell ⟨b, off + j, none⟩ (.int .u8 (bits BinOp.xor .u8 z 51))) y.2 from fun y hy => Sl8.poke (w := wr.drew) ((hL y hy).other (Ch.of_below (S := fun _ => False) (below_drewN (Below.refl wr.heap.size wr) 1)) (fun _ _ _ e => e.elim)) b (off + j) _)
            have hC9 := Kp.mk (hcD.trans hc9 (fun y _ e => by rw [e]; exact hpb))
            have hle' : (j : Int) < xn := hjl
            have hxl : xn ≤ 512 := by rw [hxn]; exact hx6.out
            have HXL := Kp.mk hxl
            clear hO hL hC hset hsl hcD hc9 hpb hb hbg hle hxl hxn hxc hxA hj
            go_upto_region 20 with fail
            refine wp_region_held_drew (S := fun X => X.cell? ⟨g, i * 2 + 1, none⟩ = some (.slice (some ⟨b, off, none⟩) xn xc)) (by kernel_rfl) q2 (fun hS0 => ?_)
            change wr.drew.cell? _ = _ at hcz
            change wr.drew.frozen? _ = _ at hfz
            generalize wr.drew = u at *
            refine takeD (i := 0) (v := .slice (some ⟨g, 0, none⟩) n2 c1) (some 82) rfl rfl (by kernel_rfl) (by kernel_rfl) (by kernel_rfl) (fun _ _ _ h => h) (Or.inl ⟨by rfl, ?_⟩) hS0 ?_
            · rintro w' hq
              go_simp
            try simp only [Act.put, List.setIfInBounds_toArray, List.set_cons_zero, List.set_cons_succ]
            refine takeD (i := 1) (v := .int .i64 i) (some 83) rfl rfl (by kernel_rfl) (by kernel_rfl) (by kernel_rfl) (fun _ _ _ h => h) (Or.inl ⟨by rfl, ?_⟩) hS0 ?_
            · rintro w' hq
              go_simp
            try simp only [Act.put, List.setIfInBounds_toArray, List.set_cons_zero, List.set_cons_succ]
            refine takeD (i := 2) (v := .pointer (some ⟨g, i * 2, none⟩)) (some 84) rfl rfl (by kernel_rfl) (by kernel_rfl) (by kernel_rfl) (fun _ _ _ h => h) (Or.inl ⟨by rfl, ?_⟩) hS0 ?_
            · rintro w' hq
              go_simp
            try simp only [Act.put, List.setIfInBounds_toArray, List.set_cons_zero, List.set_cons_succ]
            refine takeD (i := 3) (v := .pointer (some ⟨g, i * 2 + 1, none⟩)) (some 85) rfl rfl (by kernel_rfl) (by kernel_rfl) (by kernel_rfl) (fun _ _ _ h => h) (Or.inl ⟨by rfl, ?_⟩) hS0 ?_
            · rintro w' hq
              go_simp
            try simp only [Act.put, List.setIfInBounds_toArray, List.set_cons_zero, List.set_cons_succ]
            refine takeD (i := 4) (v := .slice (some ⟨b, off, none⟩) xn xc) (some 86) rfl rfl (by kernel_rfl) (by kernel_rfl) (by kernel_rfl) (fun _ _ _ h => h) (Or.inl ⟨by rfl, ?_⟩) hS0 ?_
            · rintro w' hq
              have c0 := hq
              go_simp
            try simp only [Act.put, List.setIfInBounds_toArray, List.set_cons_zero, List.set_cons_succ]
            refine takeD (i := 5) (v := .int .i64 j) (some 87) rfl rfl (by kernel_rfl) (by kernel_rfl) (by kernel_rfl) (fun _ _ _ h => h) (Or.inl ⟨by rfl, ?_⟩) hS0 ?_
            · rintro w' hq
              go_simp
            try simp only [Act.put, List.setIfInBounds_toArray, List.set_cons_zero, List.set_cons_succ]
            refine takeD (i := 6) (v := .slice (some ⟨g, 0, none⟩) n2 c1) (some 88) rfl rfl (by kernel_rfl) (by kernel_rfl) (by kernel_rfl) (fun _ _ _ h => h) (Or.inl ⟨by rfl, ?_⟩) hS0 ?_
            · rintro w' hq
              go_simp
            try simp only [Act.put, List.setIfInBounds_toArray, List.set_cons_zero, List.set_cons_succ]
            refine takeD (i := 7) (v := .int .i64 i) (some 89) rfl rfl (by kernel_rfl) (by kernel_rfl) (by kernel_rfl) (fun _ _ _ h => h) (Or.inl ⟨by rfl, ?_⟩) hS0 ?_
            · rintro w' hq
              go_simp
            try simp only [Act.put, List.setIfInBounds_toArray, List.set_cons_zero, List.set_cons_succ]
            refine takeD (i := 8) (v := .pointer (some ⟨g, i * 2, none⟩)) (some 90) rfl rfl (by kernel_rfl) (by kernel_rfl) (by kernel_rfl) (fun _ _ _ h => h) (Or.inl ⟨by rfl, ?_⟩) hS0 ?_
            · rintro w' hq
              go_simp
            try simp only [Act.put, List.setIfInBounds_toArray, List.set_cons_zero, List.set_cons_succ]
            refine takeD (i := 9) (v := .pointer (some ⟨g, i * 2 + 1, none⟩)) (some 91) rfl rfl (by kernel_rfl) (by kernel_rfl) (by kernel_rfl) (fun _ _ _ h => h) (Or.inl ⟨by rfl, ?_⟩) hS0 ?_
            · rintro w' hq
              go_simp
            try simp only [Act.put, List.setIfInBounds_toArray, List.set_cons_zero, List.set_cons_succ]
            refine takeD (i := 10) (v := .slice (some ⟨b, off, none⟩) xn xc) (some 92) rfl rfl (by kernel_rfl) (by kernel_rfl) (by kernel_rfl) (fun _ _ _ h => h) (Or.inl ⟨by rfl, ?_⟩) hS0 ?_
            · rintro w' hq
              have c0 := hq
              go_simp
            try simp only [Act.put, List.setIfInBounds_toArray, List.set_cons_zero, List.set_cons_succ]
            refine takeD (i := 11) (v := .int .i64 j) (some 93) rfl rfl (by kernel_rfl) (by kernel_rfl) (by kernel_rfl) (fun _ _ _ h => h) (Or.inl ⟨by rfl, ?_⟩) hS0 ?_
            · rintro w' hq
              go_simp
            try simp only [Act.put, List.setIfInBounds_toArray, List.set_cons_zero, List.set_cons_succ]
            refine takeD (i := 12) (v := .pointer (some ⟨b, off + j, none⟩)) (some 94) rfl rfl (by kernel_rfl) (by kernel_rfl) (by kernel_rfl) (fun _ _ _ h => h) (Or.inl ⟨by rfl, ?_⟩) hS0 ?_
            · rintro w' hq
              go_simp
            try simp only [Act.put, List.setIfInBounds_toArray, List.set_cons_zero, List.set_cons_succ]
            refine wpAnyH_ready (rs := [13]) (by kernel_rfl) (by simp) ?_
            refine AllReadyH.cons rfl (fun K hK => ?_) AllReadyH.nil
            try rw [if_pos (by rfl)]
            have c1 := hcz
            go_simp
            refine hK.out _ _ hS0 (fun _ => ?_)
            clear hK K
            try simp only [Act.put, List.setIfInBounds_toArray, List.set_cons_zero, List.set_cons_succ]
            refine takeD (i := 14) (v := .int .u8 (bits BinOp.xor .u8 z 51)) (some 96) rfl rfl (by kernel_rfl) (by kernel_rfl) (by kernel_rfl) (fun _ _ _ h => h) (Or.inl ⟨by rfl, ?_⟩) hS0 ?_
            · rintro w' hq
              go_simp
            try simp only [Act.put, List.setIfInBounds_toArray, List.set_cons_zero, List.set_cons_succ]
            refine takeD (i := 15) (v := .pointer (some ⟨b, off + j, none⟩)) (some 97) rfl rfl (by kernel_rfl) (by kernel_rfl) (by kernel_rfl) (fun _ _ _ h => h) (Or.inl ⟨by rfl, ?_⟩) hS0 ?_
            · rintro w' hq
              go_simp
            try simp only [Act.put, List.setIfInBounds_toArray, List.set_cons_zero, List.set_cons_succ]
            refine wpAnyH_ready (rs := [16]) (by kernel_rfl) (by simp) ?_
            refine AllReadyH.cons rfl (fun K hK => ?_) AllReadyH.nil
            try rw [if_pos (by rfl)]
            have c1 := hcz
            have f1 := hfz
            go_simp
            refine hK.out _ _ hS9 (fun _ => ?_)
            clear hK K c1 f1
            try simp only [Act.put, List.setIfInBounds_toArray, List.set_cons_zero, List.set_cons_succ]
            refine wpAnyH_done (by kernel_rfl) ?_ _
            clear hS0 hS9 hcz hfz q1 q2
            generalize u.setCell _ _ = u9 at *
            go_wp2_with fail
            go_roundw
            case rel => exact ⟨j + 1, congrArg (Value.int .i64) (wrap_succ (by have := HXL.out; have := HJ.out; omega)), by have := HJ.out; have := HXN.out; omega, hO9.out, hL9.out, hC9.out⟩
            case measure => exact meas_lt (by have := HJ.out; omega) (by have := HXL.out; have := HJ.out; omega)
          · have HO := Kp.mk hO
            have HL := Kp.mk hL
            have HC := Kp.mk hC
            clear hO hL hC hset hfz
            go_wp2_with fail
            go_roundw
            case rel => exact ⟨i + 1, its5, congrArg (Value.int .i64) (wrap_succ (by have := HN1.out; have := HI.out; omega)), by have := HI.out; omega, HO.out, HL.out, HC.out⟩
            case measure => exact meas_lt (by have := HI.out; omega) (by have := HN1.out; have := HI.out; omega)
      · have hP := H4.out.stay hC (fun k e1 e2 => by have := HKL.out.1 k e1; omega) (fun k e1 e2 => by have := HKL.out.2 k e1; omega) (fun b cs mk _ hp _ e => by omega) (fun k e => Nat.le_trans H.out.sz e)
        have HF := Kp.mk (Stp.of hP)
        clear hO hL hC hP
        go_wp2_with fail
        go_ret
        exact ⟨rfl, HF.out⟩
  · skip
    clear e1 e2
    go_wp2_with (first | (go_at_call 17; refine hbr.mono ?_; rintro e q ⟨rfl, hq1⟩; subst hq1))
    clear e0 hbr
    refine (sagain_any H.out.sp).mono ?_
    rintro e w2 ⟨A1, m1, its1, rfl, hO1, hT1, hb1⟩
    have h2 := H.out.below hb1
    clear hb1
    go_wp2_with fail
    refine (magain_any h2.sm).mono ?_
    rintro e w3 ⟨A2, m2, its2, rfl, hO2, hT2, hb2⟩
    have h3 := h2.below hb2
    have hO3 := hO1.below hb2
    have hT3 := hT1.below hb2
    have hsi := sameItems_any hO3.im hO2.im (Nat.le_refl _) (Nat.le_refl _) hT3 hT2 (by have := h3.sp.fit; omega)
    clear h2 hO1 hT1 hO2 hT2 hb2 hO3 hT3
    have H3 := Kp.mk h3
    clear h3
    go_wp2_with fail
    refine hsi.mono ?_
    rintro e w4 ⟨rfl, hb4⟩
    have HF := Kp.mk (Stp.of (H3.out.below hb4))
    clear hsi hb4
    go_wp2_with fail
    go_ret
    exact ⟨rfl, HF.out⟩
  · skip
    clear e2
    go_wp2_with (first | (go_at_call 17; refine hbr.mono ?_; rintro e q ⟨rfl, hq1⟩; subst hq1))
    clear e0 hbr
    have hcase : ackP nx said di = -1 ∨ ∃ k : Nat, ackP nx said di = k := by
      have := ackP_bd nx said di
      by_cases hq : ackP nx said di = -1
      · exact .inl hq
      · exact .inr ⟨(ackP nx said di).toNat, by omega⟩
    rcases hcase with hk | ⟨k, hk⟩
    · go_wp2_with fail
      refine (sheard_no H.out.sp hk).mono ?_
      rintro e w2 ⟨rfl, hb2⟩
      have h2 := H.out.below hb2
      have hV2 := HV.out.below hb2 HV.out.lt
      have hM := mheard_no h2.sm hk
      clear e1
      have e1 := hV2.cell 1 rfl
      have HF := Kp.mk (Stp.of h2)
      clear h2 hV2 hb2
      go_wp2_with fail
      refine hM.mono ?_
      rintro e w3 ⟨rfl, hw3⟩
      subst hw3
      clear hM
      go_wp2_with fail
      go_ret
      exact ⟨rfl, HF.out⟩
    · go_wp2_with fail
      refine (sheard_yes H.out.sp hk).mono ?_
      rintro e w2 ⟨rfl, hS2, hC2⟩
      have hM2 := H.out.sm.stay hC2 (fun k e1 e2 => H.out.ap k e2 e1) (fun b cs mk _ _ hb e => H.out.sp.bytes b cs mk e hb)
      have hV2 : Vb 32 w2 gx [.int .i64 dk, .int .i64 di, .slice dA dn dc] := (hC2.block gx HV.out.lt (fun e => H.out.sp.nob gx _ _ _ e (by decide) (by decide) HV.out)).trans HV.out
      have hM := mheard_yes hM2 hk
      clear e1
      have e1 := hV2.cell 1 rfl
      have HS2 := Kp.mk hS2
      have HC2 := Kp.mk hC2
      have HMB := Kp.mk hM2.bytes
      clear hV2 hS2 hC2 hM2
      go_wp2_with fail
      refine hM.mono ?_
      rintro e w3 ⟨rfl, hM3, hC3⟩
      have hC3 := hC3.mono (S' := Kb m m rm) (fun _ _ e => Or.inl e)
      have hS3 := HS2.out.stay hC3 (fun k e1 e2 => H.out.ap k e1 e2) (fun b cs mk _ _ hb e => HMB.out b cs mk e hb)
      have hfin := H.out.both (w1 := w2) hS3 hM3 HC2.out.size hC3.size ((H.out.bl.trans (HC2.out.below H.out.g1 H.out.sz)).trans (hC3.below H.out.g2 (Nat.le_trans H.out.sz HC2.out.size))) (.inl rfl) (.inl rfl) (fun k e => HS2.out.lt k (.inr (.inr e)))
      have HFIN := Kp.mk (Stp.of hfin)
      clear hM hM3 hC3 hS3 hfin
      go_wp2_with fail
      go_ret
      exact ⟨rfl, HFIN.out⟩
  · skip
    clear e2
    go_wp2_with (first | (go_at_call 17; refine hbr.mono ?_; rintro e q ⟨rfl, hq1⟩; subst hq1))
    clear e0 hbr
    have hnx := H.out.sp.nxb
    have hbd := Ser.bringP_bd di 6 (by omega)
    have hn : ∀ p, Calls Try.prog 15 #[.pointer (some ⟨m, 0, none⟩)] (w1.drewN p) fun e w' => e = .returned (.int .i64 nx) ∧ w' = w1.drewN p := fun p => mnextS_any (H.out.sm.below (below_drewN (Below.refl _ _) p))
    have hq : ∀ p, Calls Try.prog 17 #[.int .i64 di, .int .i64 6] (w1.drewN p) fun e w' => e = .returned (.int .i64 (Ser.bringP di 6)) ∧ w' = w1.drewN p := fun p => (Ser.bring_any di 6 _ (by omega) (by omega)).mono (fun e w' h => ⟨h.1, h.2.symm⟩)
    generalize Ser.bringP di 6 = b at *
    have hw : IntKind.i64.wrap (nx + b) = nx + b := by rw [IntKind.wrap_i64]; omega
    obtain ⟨ak, hak⟩ : ∃ ak, ak = (nx + b) % 65536 := ⟨_, rfl⟩
    have ht : Int.tmod (nx + b) 65536 = ak := by rw [hak]; exact Int.tmod_eq_emod_of_nonneg (by omega)
    have hb1 : 0 ≤ ak ∧ ak < 65536 := by rw [hak]; omega
    have HAK := Kp.mk hb1
    clear hak hnx hbd hb1
    go_upto_region 28 with fail
    go_quiet (first | (go_at_call 15; exact Calls.quiet_of_same (hn _)) | (go_at_call 17; exact Calls.quiet_of_same (hq _)))
    have H2 := Kp.mk (H.out.below (below_drewN (Below.refl _ _) nq))
    have HV2 := Kp.mk (HV.out.below (below_drewN (Below.refl w1.heap.size w1) nq) HV.out.lt)
    clear hn hq hw ht HV HR
    have hcase : ackP nx said ak = -1 ∨ ∃ k : Nat, ackP nx said ak = k := by
      have := ackP_bd nx said ak
      by_cases hq : ackP nx said ak = -1
      · exact .inl hq
      · exact .inr ⟨(ackP nx said ak).toNat, by omega⟩
    rcases hcase with hk | ⟨k, hk⟩
    · go_wp2_with fail
      refine (sheard_no H2.out.sp hk).mono ?_
      rintro e w2 ⟨rfl, hb2⟩
      have h2 := H2.out.below hb2
      have hV2 := HV2.out.below hb2 HV2.out.lt
      have hM := mheard_no h2.sm hk
      clear e1
      skip
      have HF := Kp.mk (Stp.of h2)
      clear h2 hV2 hb2
      go_wp2_with fail
      refine hM.mono ?_
      rintro e w3 ⟨rfl, hw3⟩
      subst hw3
      clear hM
      go_wp2_with fail
      go_ret
      exact ⟨rfl, HF.out⟩
    · go_wp2_with fail
      refine (sheard_yes H2.out.sp hk).mono ?_
      rintro e w2 ⟨rfl, hS2, hC2⟩
      have hM2 := H2.out.sm.stay hC2 (fun k e1 e2 => H2.out.ap k e2 e1) (fun b cs mk _ _ hb e => H2.out.sp.bytes b cs mk e hb)
      have hV2 : Vb 32 w2 gx [.int .i64 dk, .int .i64 di, .slice dA dn dc] := (hC2.block gx HV2.out.lt (fun e => H2.out.sp.nob gx _ _ _ e (by decide) (by decide) HV2.out)).trans HV2.out
      have hM := mheard_yes hM2 hk
      clear e1
      skip
      have HS2 := Kp.mk hS2
      have HC2 := Kp.mk hC2
      have HMB := Kp.mk hM2.bytes
      clear hV2 hS2 hC2 hM2
      go_wp2_with fail
      refine hM.mono ?_
      rintro e w3 ⟨rfl, hM3, hC3⟩
      have hC3 := hC3.mono (S' := Kb m m rm) (fun _ _ e => Or.inl e)
      have hS3 := HS2.out.stay hC3 (fun k e1 e2 => H2.out.ap k e1 e2) (fun b cs mk _ _ hb e => HMB.out b cs mk e hb)
      have hfin := H2.out.both (w1 := w2) hS3 hM3 HC2.out.size hC3.size ((H2.out.bl.trans (HC2.out.below H2.out.g1 H2.out.sz)).trans (hC3.below H2.out.g2 (Nat.le_trans H2.out.sz HC2.out.size))) (.inl rfl) (.inl rfl) (fun k e => HS2.out.lt k (.inr (.inr e)))
      have HFIN := Kp.mk (Stp.of hfin)
      clear hM hM3 hC3 hS3 hfin
      go_wp2_with fail
      go_ret
      exact ⟨rfl, HFIN.out⟩
end Go.Proofs.Ytkpjnikbcgngbaa.Oct
