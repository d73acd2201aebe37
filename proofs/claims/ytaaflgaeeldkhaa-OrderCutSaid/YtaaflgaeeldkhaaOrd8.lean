/- The walk of OrderCut. -/
import Derived.Test.YtaaflgaeeldkhaaOrd6
import Derived.Test.YtaaflgaeeldkhaaOrd2
import Derived.Test.YtaaflgaeeldkhaaOrdZ
import Derived.Test.YtaaflgaeeldkhaaOrdW
import Derived.Test.YtaaflgaeeldkhaaOrdI
namespace Go.Proofs.Ytaaflgaeeldkhaa.Oct
open Go.RowKit
set_option linter.unusedVariables false
set_option linter.unusedSimpArgs false


set_option maxRecDepth 100000 in
set_option maxHeartbeats 8000000 in
theorem orderCut_any {w : World} {n c : Nat} {A : Option Addr} (o : OrdV) (at_ more : Int) (h : Ro w w.heap.size A n c o.r.os) (h8 : u8M o.r.x) (hmo : 0 ≤ more ∧ more < 256) : Calls Try.prog 7 #[.agg #[.int .i64 o.k, .int .i64 o.n, .int .i64 o.m, .int .i64 o.r.k, .int .i64 o.r.pr, .int .i64 o.r.to, .int .i64 o.r.po, .int .i64 o.r.x.v, .int .i64 o.r.x.m, .int .u8 o.r.x.b0, .int .u8 o.r.x.b1, .int .u8 o.r.x.b2, .int .u8 o.r.x.i0, .int .u8 o.r.x.i1, .int .u8 o.r.x.i2, .slice A n c, .int .i64 o.f, .int .i64 o.p, .int .i64 o.t, .int .i64 o.q, .int .i64 o.z], .int .i64 at_, .int .u8 more] w fun e w' => e = .returned (.bool true) ∧ Below w.heap.size w w' := by
  have hx : Vb 32 (w.alloc (.cells #[.int .i64 o.k, .int .i64 o.n, .int .i64 o.m, .int .i64 o.r.k, .int .i64 o.r.pr, .int .i64 o.r.to, .int .i64 o.r.po, .int .i64 o.r.x.v, .int .i64 o.r.x.m, .int .u8 o.r.x.b0, .int .u8 o.r.x.b1, .int .u8 o.r.x.b2, .int .u8 o.r.x.i0, .int .u8 o.r.x.i1, .int .u8 o.r.x.i2, .slice A n c, .int .i64 o.f, .int .i64 o.p, .int .i64 o.t, .int .i64 o.q, .int .i64 o.z] 32)) w.heap.size (ocl o (.slice A n c)) := Vb.new 32 w (ocl o (.slice A n c))
  have hB := below_alloc w (.cells #[.int .i64 o.k, .int .i64 o.n, .int .i64 o.m, .int .i64 o.r.k, .int .i64 o.r.pr, .int .i64 o.r.to, .int .i64 o.r.po, .int .i64 o.r.x.v, .int .i64 o.r.x.m, .int .u8 o.r.x.b0, .int .u8 o.r.x.b1, .int .u8 o.r.x.b2, .int .u8 o.r.x.i0, .int .u8 o.r.x.i1, .int .u8 o.r.x.i2, .slice A n c, .int .i64 o.f, .int .i64 o.p, .int .i64 o.t, .int .i64 o.q, .int .i64 o.z] 32)
  have hr := h.below hB
  clear h
  go_enter Try.func7, Try.ntmps7
  go_upto_region 1 with fail
  generalize w.alloc (.cells #[.int .i64 o.k, .int .i64 o.n, .int .i64 o.m, .int .i64 o.r.k, .int .i64 o.r.pr, .int .i64 o.r.to, .int .i64 o.r.po, .int .i64 o.r.x.v, .int .i64 o.r.x.m, .int .u8 o.r.x.b0, .int .u8 o.r.x.b1, .int .u8 o.r.x.b2, .int .u8 o.r.x.i0, .int .u8 o.r.x.i1, .int .u8 o.r.x.i2, .slice A n c, .int .i64 o.f, .int .i64 o.p, .int .i64 o.t, .int .i64 o.q, .int .i64 o.z] 32) = w0 at *
  have hlt := hx.lt
  go_wp2_with (refine wpList_load_vb (vs := ocl o (.slice A n c)) rfl (.tmp 3) rfl rfl hx rfl agg_order ?_)
  refine (madeO_any o hr (by omega) h8).mono ?_
  intro e w1 hp
  obtain ⟨o1, A1, n1, c1, rfl, hr1, ok1, u1, hb1⟩ := hp
  replace hB := hB.trans (hb1.mono hB.size)
  clear hx hr hb1 h8
  have hl1 := hB.size
  have hby : bytesO o1 = (ordB o1, 0) := if_pos ok1
  have hB1 := Kp.mk (ordB_by o1 ok1 u1)
  have hcut := Kp.mk (fun i hi => parseO_cut ok1 u1 i hi)
  have hmore := Kp.mk (parseO_more ok1 u1 [more] (by simp))
  have hmx := ordB_max ok1
  go_wp2_with fail
  refine (orderBytes_any o1 hr1.1 (Nat.le_refl _) u1).mono ?_
  rw [hby]
  intro e w2 hp
  obtain ⟨A2, n2, c2, rfl, ho2, hb2⟩ := hp
  simp only at ho2
  have hl2 := hb2.size
  replace hB := hB.trans (hb2.mono hB.size)
  have hn2 := ho2.rd.len
  have hc2 := ho2.rd.le
  have hm2 := ho2.rd.cap
  unfold maxLen at hm2
  have hrd := ho2.rd
  clear hby hr1 ok1 u1 hb2 ho2
  generalize ordB o1 = l at *
  obtain ⟨hx1, hx2⟩ := hmx
  have q1 : ((n2 : Int) == 0) = false := by simp; omega
  have bb := Ser.bringP_bd at_ n2 (by omega)
  obtain ⟨kn, hkn⟩ : ∃ kn : Nat, Ser.bringP at_ n2 = kn := ⟨(Ser.bringP at_ n2).toNat, by omega⟩
  have Hkn := Kp.mk hkn
  rw [hkn] at bb
  clear hkn
  go_wp2_with fail
  refine (Ser.bring_any _ _ _ (by omega) (by omega)).mono ?_
  rw [Hkn.out]
  rintro e v ⟨rfl, rfl⟩
  have hkc : (kn : Int) ≤ c2 := by omega
  have hp3 := hcut.out kn (by omega)
  go_wp2_with fail
  refine (orderParse_any (hrd.pre kn (by omega)) (hB1.out.take _) (Nat.le_refl _) (by omega)).mono ?_
  generalize parseO (List.take kn l) = X at *
  obtain ⟨o3, e3⟩ := X
  simp only at hp3
  subst hp3
  intro e w3 hp
  obtain ⟨S3, n3, c3, rfl, hro3, hb3⟩ := hp
  have hl3 := hb3.size
  replace hB := hB.trans (hb3.mono hB.size)
  have hrd3 := hrd.below' hb3 (Nat.le_refl _)
  clear hrd hro3 hb3 q1 bb hkc hcut
  go_upto_region 5 with (refine wpList_store_new (vs := ocl o3 (.slice S3 n3 c3)) rfl (.tmp 9) (.tmp 34) rfl rfl rfl rfl rfl rfl agg_order rfl ?_; intro w4 hm4 hb4 hz4)
  replace hB := hB.trans (hb4.mono hB.size)
  have hrd4 := hrd3.below' hb4 hl3
  have hl4 := hb4.size
  clear hrd3 hm4 hb4 hz4
  go_wp2_with fail
  refine (copyBytes_any hrd4 (by omega)).mono ?_
  intro e w5 hp
  obtain ⟨A5, n5, c5, rfl, ho5, hb5⟩ := hp
  have hl5 := hb5.size
  replace hB := hB.trans (hb5.mono hB.size)
  have hn5 := ho5.rd.len
  clear hrd4 hb5
  have hlit := rd_lit .u8 w5 5 [more] (by simp [maxLen]) (w5.heap.size + 1) (by simp)
  have hba := below_alloc w5 (.cells ([more].map (Value.int .u8)).toArray 5)
  have hoa := ho5.keep_below hba
  replace hB := hB.trans (hba.mono hB.size)
  have hza : w4.heap.size ≤ (w5.alloc (.cells ([more].map (Value.int .u8)).toArray 5)).heap.size := by simp; omega
  clear ho5 hba
  go_wp2_with (at_builtin; refine wpList_append8 rfl (.tmp 38) (.tmp 40) rfl rfl hoa rfl hlit (by omega) hza ?_; intro A6 c6 w6 ho6 hb6)
  have hB6 := hB.trans (hb6.mono (by omega))
  have hl6 : w.heap.size ≤ w6.heap.size := hB6.size
  have hby6 : By (l ++ [more]) := hB1.out.append (By.cons hmo By.nil)
  refine (orderParse_any ho6.rd hby6 (Nat.le_refl _) (by simp; omega)).mono ?_
  rw [hmore.out]
  intro e w7 hp
  obtain ⟨S7, n7, c7, rfl, hro7, hb7⟩ := hp
  replace hB6 := hB6.trans (hb7.mono hB6.size)
  clear hro7 hb7 ho6 hb6 hoa hlit hB
  go_upto_region 6 with (refine wpList_store_new (vs := ocl noOrd (.slice S7 n7 c7)) rfl (.tmp 11) (.tmp 43) rfl rfl rfl rfl rfl rfl agg_order rfl ?_; intro w8 hm8 hb8 hz8)
  replace hB6 := hB6.trans (hb8.mono hB6.size)
  clear hm8 hb8 hz8
  go_wp2_with fail
  refine (worksO_any _).mono ?_
  rintro e w9 ⟨rfl, hb9⟩
  go_wp2_with fail
  go_ret
  exact ⟨rfl, hB6.trans (hb9.mono hB6.size)⟩
theorem OrderCut_walk (o : OrdV) (A : Option Addr) (n c : Nat) (at_ more : Int) (w : World) (h : Ro w w.heap.size A n c o.r.os) (h8 : MB o.r.x) (hc : c * 32 ≤ 140737488351232) (w1 : (Lit.int .i64 at_).wf = true) (w2 : (Lit.int .u8 more).wf = true) : Calls Try.prog 7 #[.agg #[.int .i64 o.k, .int .i64 o.n, .int .i64 o.m, .int .i64 o.r.k, .int .i64 o.r.pr, .int .i64 o.r.to, .int .i64 o.r.po, .int .i64 o.r.x.v, .int .i64 o.r.x.m, .int .u8 o.r.x.b0, .int .u8 o.r.x.b1, .int .u8 o.r.x.b2, .int .u8 o.r.x.i0, .int .u8 o.r.x.i1, .int .u8 o.r.x.i2, .slice A n c, .int .i64 o.f, .int .i64 o.p, .int .i64 o.t, .int .i64 o.q, .int .i64 o.z], .int .i64 at_, .int .u8 more] w fun e w' => e = .returned (.bool true) ∧ Below w.heap.size w w' :=
  orderCut_any o at_ more h (u8M_of h8) (wf_byte w2)
end Go.Proofs.Ytaaflgaeeldkhaa.Oct
