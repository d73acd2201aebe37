/- BeatPlays: what a beat answers, call by call, is what the document's beat answers. -/
import Derived.Test.YtklbkpnbkpoomaaBeaG
import Derived.LoopTactic
import Derived.LoopN
import Derived.Deep.CutRange
namespace Go.Proofs.Ytklbkpnbkpoomaa.Oct
open Go.RowKit
set_option linter.unusedVariables false
set_option linter.unusedSimpArgs false
/-- A row of calls as it lies: kinds and ticks. -/
structure Db (w : World) (B : Nat) (A : Option Addr) (n c : Nat) (ds : List (Int × Int)) : Prop where
  len : ds.length = n
  le : n ≤ c
  cap : c ≤ maxLen
  ex : 0 < n → ∃ b off, A = some ⟨b, off, none⟩ ∧ b < B ∧ ∀ j d, ds[j]? = some d → w.cell? ⟨b, off + j * 2, none⟩ = some (.int .i64 d.1) ∧ w.cell? ⟨b, off + j * 2 + 1, none⟩ = some (.int .i64 d.2)
theorem Db.below {w w' : World} {B : Nat} {A : Option Addr} {n c : Nat} {ds : List (Int × Int)} (h : Db w B A n c ds) (hb : Below B w w') : Db w' B A n c ds :=
  ⟨h.len, h.le, h.cap, fun hn => by
    obtain ⟨b, off, e, hlt, hc⟩ := h.ex hn
    exact ⟨b, off, e, hlt, fun j d hj => ⟨(hb.cell (p := ⟨b, _, none⟩) hlt).trans (hc j d hj).1, (hb.cell (p := ⟨b, _, none⟩) hlt).trans (hc j d hj).2⟩⟩⟩
theorem Db.max {w : World} {B : Nat} {A : Option Addr} {n c : Nat} {ds : List (Int × Int)} (h : Db w B A n c ds) : (n : Int) ≤ 9223372036854775807 := by have := h.le; have := h.cap; unfold maxLen at this; omega
/-- Between two calls. -/
def PlR (W : World) (x y : Nat) (f c : Int) (n0 : Nat) (s11 s12 : Value) (wr : World) : Prop := ∃ (i t : Nat) (n a wt : Int), s11 = .int .i64 n ∧ s12 = .int .i64 i ∧ PB W wr x y f c a a wt t t ∧ Kp (i ≤ n0 ∧ i ≤ 200 ∧ t ≤ i ∧ 0 ≤ n ∧ n ≤ 1099511627776 + 50 * i ∧ (0 < a → wt = wv f c (t + 1)))
/-- Behind one call. -/
def PlS (W : World) (x y : Nat) (f c : Int) (i : Nat) (s11 s13 : Value) (wr : World) : Prop := s13 = .bool true ∧ ∃ (t : Nat) (n a wt : Int), s11 = .int .i64 n ∧ PB W wr x y f c a a wt t t ∧ Kp (t ≤ i + 1 ∧ 0 ≤ n ∧ n ≤ 1099511627776 + 50 * ((i : Int) + 1) ∧ (0 < a → wt = wv f c (t + 1)))
set_option maxRecDepth 100000 in
set_option maxHeartbeats 8000000 in
theorem beatPlays_any {W : World} {A0 : Option Addr} {n0 c0 : Nat} {ds : List (Int × Int)} (f c : Int) (h : Db W W.heap.size A0 n0 c0 ds) : Calls Try.prog 15 #[.int .i64 f, .int .i64 c, .slice A0 n0 c0] W fun e w' => e = .returned (.bool true) ∧ Below W.heap.size W w' := by
  have hm := h.max
  have HR := Kp.mk h
  clear h
  cases hwb : waitsB f c with
  | false =>
    have hN := bnew_no W f c hwb
    have hM := rnew_no W f c hwb
    have hW := works_any W
    clear hwb
    go_enter Try.func15, Try.ntmps15
    go_wp2_with fail
    refine hN.mono ?_
    rintro e w1 ⟨rfl, hw1⟩
    replace hw1 := hw1.symm
    subst hw1
    clear hN
    go_wp2_with fail
    refine hM.mono ?_
    rintro e w1 ⟨rfl, hw1⟩
    replace hw1 := hw1.symm
    subst hw1
    clear hM
    go_wp2_with fail
    refine wp_loop_rounds 1 ?_
    rw [rounds_succ]
    by_cases hl : (0 : Int) < n0
    · go_wp2_with fail
      refine hW.mono ?_
      rintro e w1 ⟨rfl, hb⟩
      have HB := Kp.mk hb
      clear hb hW
      go_wp2_with fail
      go_ret
      exact ⟨rfl, HB.out⟩
    · go_wp2_with fail
      refine hW.mono ?_
      rintro e w1 ⟨rfl, hb⟩
      have HB := Kp.mk hb
      clear hb hW
      go_wp2_with fail
      go_ret
      exact ⟨rfl, HB.out⟩
  | true =>
    have hN := bnew_yes W f c hwb
    have hM := fun w => rnew_yes w f c hwb
    clear hwb
    go_enter Try.func15, Try.ntmps15
    go_wp2_with fail
    refine hN.mono ?_
    rintro e w1 ⟨rfl, h1, hb1⟩
    clear hN
    obtain ⟨x, hx⟩ : ∃ x, x = W.heap.size := ⟨_, rfl⟩
    rw [← hx] at h1
    rw [← hx]
    have HX := Kp.mk hx
    clear hx
    go_wp2_with fail
    refine (hM w1).mono ?_
    rintro e w2 ⟨rfl, h2, hb2⟩
    clear hM
    have hS : PB W w2 x w1.heap.size f c 0 0 0 0 0 := ⟨h1.below hb2 h1.own.lt, h2, Nat.le_of_eq HX.out.symm, hb1.size, hb1.trans (hb2.mono hb1.size)⟩
    generalize w1.heap.size = y at *
    have HS := Kp.mk hS
    clear h1 h2 hb1 hb2 hS
    go_wp2_with fail
    go_loopw [11, 12] (fun s11 s12 wr => PlR W x y f c n0 s11 s12 wr) (fun _ s12 _ => (201 - intOf s12).toNat)
    case atStart => exact ⟨0, 0, 0, 0, 0, rfl, rfl, HS.out, Kp.mk ⟨by omega, by omega, by omega, by omega, by omega, fun h => absurd h (by omega)⟩⟩
    case round =>
      clear HS
      obtain ⟨i, t, n, a, wt, rfl, rfl, hS, HK⟩ := hrel
      by_cases hl1 : (i : Int) < n0
      · by_cases hl2 : (i : Int) < 200
        · obtain ⟨bH, oH, eH, hbH, hcH⟩ := (HR.out.below hS.old).ex (by omega)
          subst eH
          obtain ⟨d, hd⟩ : ∃ d, ds[i]? = some d := ⟨_, List.getElem?_eq_getElem (by have := HR.out.len; omega)⟩
          obtain ⟨d0, d1⟩ := hcH i d hd
          have HBX := Kp.mk (show bH ≠ x ∧ bH ≠ y ∧ bH < wr.heap.size by have := hS.xn; have := hS.yn; have := hS.p.own.lt; omega)
          obtain ⟨dk, da⟩ := d
          replace d0 : wr.cell? ⟨bH, oH + i * 2, none⟩ = some (.int .i64 dk) := d0
          replace d1 : wr.cell? ⟨bH, oH + i * 2 + 1, none⟩ = some (.int .i64 da) := d1
          clear hcH hd hbH
          go_upto_region 9 with fail
          rename_i K10 h10
          go_cut [13] from 140 to 139 (fun s13 wx => s13 = .bool true ∧ wx = wr)
          case first =>
            go_wp2_with fail
            go_meet
            case rel => exact ⟨rfl, rfl⟩
          obtain ⟨rfl, hw6⟩ := hcut
          subst hw6
          refine h10 _ _ ?_
          apply wp_seq_k
          intro K3 h3
          go_cut [11, 13] from 50 to 116 (fun s11 s13 wx => PlS W x y f c i s11 s13 wx)
          case first =>
            have hbd := Kp.mk (Ser.bringP_bd dk 4 (by omega))
            have hbr := Ser.bring_any dk 4 wc (by omega) (by omega)
            generalize Ser.bringP dk 4 = kv at *
            have hkv : kv = 0 ∨ kv = 1 ∨ kv = 2 ∨ kv = 3 := by have := hbd.out; omega
            clear hbd
            rcases hkv with rfl | rfl | rfl | rfl
            · skip
              go_wp2_with fail
              refine hbr.mono ?_
              rintro e w7 ⟨rfl, hw7⟩
              subst hw7
              clear hbr
              go_wp2_with fail
              cases htk : tickB da with
              | true =>
                have hV0 : (fun X : World => X.cell? ⟨bH, oH + i * 2 + 1, none⟩ = some (.int .i64 da)) wc.drew := ((Below.refl wc.heap.size wc).drew.cell (p := ⟨bH, oH + i * 2 + 1, none⟩) HBX.out.2.2).trans d1
                have hSd := hS.below (Below.refl wc.heap.size wc).drew
                clear hS d0 d1
                refine wp_region_held_drew (S := fun X : World => X.cell? ⟨bH, oH + i * 2 + 1, none⟩ = some (.int .i64 da)) (by kernel_rfl) hV0 (fun hS0 => ?_)
                clear hV0
                generalize wc.drew = u at *
                refine takeD (i := 0) (v := .pointer (some ⟨x, 0, none⟩)) (some 73) rfl rfl (by kernel_rfl) (by kernel_rfl) (by kernel_rfl) (fun _ _ _ h => h) (Or.inl ⟨by rfl, ?_⟩) hS0 ?_
                · rintro w' _
                  go_simp
                try simp only [Act.put, List.setIfInBounds_toArray, List.set_cons_zero, List.set_cons_succ]
                refine takeD (i := 1) (v := .slice (some ⟨bH, oH, none⟩) n0 c0) (some 74) rfl rfl (by kernel_rfl) (by kernel_rfl) (by kernel_rfl) (fun _ _ _ h => h) (Or.inl ⟨by rfl, ?_⟩) hS0 ?_
                · rintro w' _
                  go_simp
                try simp only [Act.put, List.setIfInBounds_toArray, List.set_cons_zero, List.set_cons_succ]
                refine takeD (i := 2) (v := .int .i64 i) (some 75) rfl rfl (by kernel_rfl) (by kernel_rfl) (by kernel_rfl) (fun _ _ _ h => h) (Or.inl ⟨by rfl, ?_⟩) hS0 ?_
                · rintro w' _
                  go_simp
                try simp only [Act.put, List.setIfInBounds_toArray, List.set_cons_zero, List.set_cons_succ]
                refine takeD (i := 3) (v := .pointer (some ⟨bH, oH + i * 2, none⟩)) (some 76) rfl rfl (by kernel_rfl) (by kernel_rfl) (by kernel_rfl) (fun _ _ _ h => h) (Or.inl ⟨by rfl, ?_⟩) hS0 ?_
                · rintro w' _
                  go_simp
                try simp only [Act.put, List.setIfInBounds_toArray, List.set_cons_zero, List.set_cons_succ]
                refine takeD (i := 4) (v := .pointer (some ⟨bH, oH + i * 2 + 1, none⟩)) (some 77) rfl rfl (by kernel_rfl) (by kernel_rfl) (by kernel_rfl) (fun _ _ _ h => h) (Or.inl ⟨by rfl, ?_⟩) hS0 ?_
                · rintro w' _
                  go_simp
                try simp only [Act.put, List.setIfInBounds_toArray, List.set_cons_zero, List.set_cons_succ]
                refine takeD (i := 5) (v := .int .i64 da) (some 78) rfl rfl (by kernel_rfl) (by kernel_rfl) (by kernel_rfl) (fun _ _ _ h => h) (Or.inl ⟨by rfl, ?_⟩) hS0 ?_
                · rintro w' (d0 : w'.cell? ⟨bH, oH + i * 2 + 1, none⟩ = some (.int .i64 da))
                  go_simp
                try simp only [Act.put, List.setIfInBounds_toArray, List.set_cons_zero, List.set_cons_succ]
                refine takeD (i := 7) (v := .pointer (some ⟨y, 0, none⟩)) (some 80) rfl rfl (by kernel_rfl) (by kernel_rfl) (by kernel_rfl) (fun _ _ _ h => h) (Or.inl ⟨by rfl, ?_⟩) hS0 ?_
                · rintro w' _
                  go_simp
                try simp only [Act.put, List.setIfInBounds_toArray, List.set_cons_zero, List.set_cons_succ]
                refine takeD (i := 8) (v := .slice (some ⟨bH, oH, none⟩) n0 c0) (some 81) rfl rfl (by kernel_rfl) (by kernel_rfl) (by kernel_rfl) (fun _ _ _ h => h) (Or.inl ⟨by rfl, ?_⟩) hS0 ?_
                · rintro w' _
                  go_simp
                try simp only [Act.put, List.setIfInBounds_toArray, List.set_cons_zero, List.set_cons_succ]
                refine takeD (i := 9) (v := .int .i64 i) (some 82) rfl rfl (by kernel_rfl) (by kernel_rfl) (by kernel_rfl) (fun _ _ _ h => h) (Or.inl ⟨by rfl, ?_⟩) hS0 ?_
                · rintro w' _
                  go_simp
                try simp only [Act.put, List.setIfInBounds_toArray, List.set_cons_zero, List.set_cons_succ]
                refine takeD (i := 10) (v := .pointer (some ⟨bH, oH + i * 2, none⟩)) (some 83) rfl rfl (by kernel_rfl) (by kernel_rfl) (by kernel_rfl) (fun _ _ _ h => h) (Or.inl ⟨by rfl, ?_⟩) hS0 ?_
                · rintro w' _
                  go_simp
                try simp only [Act.put, List.setIfInBounds_toArray, List.set_cons_zero, List.set_cons_succ]
                refine takeD (i := 11) (v := .pointer (some ⟨bH, oH + i * 2 + 1, none⟩)) (some 84) rfl rfl (by kernel_rfl) (by kernel_rfl) (by kernel_rfl) (fun _ _ _ h => h) (Or.inl ⟨by rfl, ?_⟩) hS0 ?_
                · rintro w' _
                  go_simp
                try simp only [Act.put, List.setIfInBounds_toArray, List.set_cons_zero, List.set_cons_succ]
                refine takeD (i := 12) (v := .int .i64 da) (some 85) rfl rfl (by kernel_rfl) (by kernel_rfl) (by kernel_rfl) (fun _ _ _ h => h) (Or.inl ⟨by rfl, ?_⟩) hS0 ?_
                · rintro w' (d0 : w'.cell? ⟨bH, oH + i * 2 + 1, none⟩ = some (.int .i64 da))
                  go_simp
                try simp only [Act.put, List.setIfInBounds_toArray, List.set_cons_zero, List.set_cons_succ]
                refine wpAnyH_ready (rs := [6]) (by kernel_rfl) (by simp) ?_
                refine AllReadyH.cons rfl (fun K hK => ?_) AllReadyH.nil
                try rw [if_pos (by rfl)]
                go_simp
                go_at_call 9
                refine (hSd.start da htk).mono ?_
                rintro e u1 ⟨rfl, hP1, hg1⟩
                have hV1 : (fun X : World => X.cell? ⟨bH, oH + i * 2 + 1, none⟩ = some (.int .i64 da)) u1 := grown_cell hg1 hS0 HBX.out.1
                clear hSd
                refine hK.out _ _ hV1 (fun hS1 => ?_)
                clear hK K hV1 hS0
                try simp only [Act.put, List.setIfInBounds_toArray, List.set_cons_zero, List.set_cons_succ]
                refine wpAnyH_ready (rs := [13]) (by kernel_rfl) (by simp) ?_
                refine AllReadyH.cons rfl (fun K hK => ?_) AllReadyH.nil
                try rw [if_pos (by rfl)]
                go_simp
                go_at_call 20
                refine (hP1.startR da htk).mono ?_
                rintro e u2 ⟨rfl, hP, hg2⟩
                have hV2 : (fun X : World => X.cell? ⟨bH, oH + i * 2 + 1, none⟩ = some (.int .i64 da)) u2 := grown_cell hg2 hS1 HBX.out.2.1
                clear hP1 hg1 hg2
                refine hK.out _ _ hV2 (fun hS2 => ?_)
                clear hK K hV2 hS1
                try simp only [Act.put, List.setIfInBounds_toArray, List.set_cons_zero, List.set_cons_succ]
                refine takeD (i := 14) (v := .bool true) (some 87) rfl rfl (by kernel_rfl) (by kernel_rfl) (by kernel_rfl) (fun _ _ _ h => h) (Or.inl ⟨by rfl, ?_⟩) hS2 ?_
                · rintro w' _
                  go_simp
                try simp only [Act.put, List.setIfInBounds_toArray, List.set_cons_zero, List.set_cons_succ]
                refine takeD (i := 15) (v := .bool true) (some 13) rfl rfl (by kernel_rfl) (by kernel_rfl) (by kernel_rfl) (fun _ _ _ h => h) (Or.inl ⟨by rfl, ?_⟩) hS2 ?_
                · rintro w' _
                  go_simp
                try simp only [Act.put, List.setIfInBounds_toArray, List.set_cons_zero, List.set_cons_succ]
                refine wpAnyH_done (by kernel_rfl) ?_ _
                have dd : u2.cell? ⟨bH, oH + i * 2 + 1, none⟩ = some (.int .i64 da) := hS2
                have hbr2 := Ser.bring_any da 1099511627776 u2 (by omega) (by omega)
                have hb2 := Ser.bringP_bd da 1099511627776 (by omega)
                generalize Ser.bringP da 1099511627776 = m at *
                have HM := Kp.mk hb2
                clear hb2
                have HS := Kp.mk hP
                clear hP hS2
                go_wp2_with fail
                refine hbr2.mono ?_
                rintro e w7 ⟨rfl, hw7⟩
                subst hw7
                clear hbr2
                go_wp2_with fail
                go_meet
                case rel => exact ⟨rfl, 0, m, da + f, wv f c 1, rfl, HS.out, Kp.mk ⟨by omega, HM.out.1, by have := HM.out; omega, fun _ => rfl⟩⟩
              | false =>
                have hV0 : (fun X : World => X.cell? ⟨bH, oH + i * 2 + 1, none⟩ = some (.int .i64 da)) wc.drew := ((Below.refl wc.heap.size wc).drew.cell (p := ⟨bH, oH + i * 2 + 1, none⟩) HBX.out.2.2).trans d1
                have hSd := hS.below (Below.refl wc.heap.size wc).drew
                clear hS d0 d1
                refine wp_region_held_drew (S := fun X : World => X.cell? ⟨bH, oH + i * 2 + 1, none⟩ = some (.int .i64 da)) (by kernel_rfl) hV0 (fun hS0 => ?_)
                clear hV0
                generalize wc.drew = u at *
                refine takeD (i := 0) (v := .pointer (some ⟨x, 0, none⟩)) (some 73) rfl rfl (by kernel_rfl) (by kernel_rfl) (by kernel_rfl) (fun _ _ _ h => h) (Or.inl ⟨by rfl, ?_⟩) hS0 ?_
                · rintro w' _
                  go_simp
                try simp only [Act.put, List.setIfInBounds_toArray, List.set_cons_zero, List.set_cons_succ]
                refine takeD (i := 1) (v := .slice (some ⟨bH, oH, none⟩) n0 c0) (some 74) rfl rfl (by kernel_rfl) (by kernel_rfl) (by kernel_rfl) (fun _ _ _ h => h) (Or.inl ⟨by rfl, ?_⟩) hS0 ?_
                · rintro w' _
                  go_simp
                try simp only [Act.put, List.setIfInBounds_toArray, List.set_cons_zero, List.set_cons_succ]
                refine takeD (i := 2) (v := .int .i64 i) (some 75) rfl rfl (by kernel_rfl) (by kernel_rfl) (by kernel_rfl) (fun _ _ _ h => h) (Or.inl ⟨by rfl, ?_⟩) hS0 ?_
                · rintro w' _
                  go_simp
                try simp only [Act.put, List.setIfInBounds_toArray, List.set_cons_zero, List.set_cons_succ]
                refine takeD (i := 3) (v := .pointer (some ⟨bH, oH + i * 2, none⟩)) (some 76) rfl rfl (by kernel_rfl) (by kernel_rfl) (by kernel_rfl) (fun _ _ _ h => h) (Or.inl ⟨by rfl, ?_⟩) hS0 ?_
                · rintro w' _
                  go_simp
                try simp only [Act.put, List.setIfInBounds_toArray, List.set_cons_zero, List.set_cons_succ]
                refine takeD (i := 4) (v := .pointer (some ⟨bH, oH + i * 2 + 1, none⟩)) (some 77) rfl rfl (by kernel_rfl) (by kernel_rfl) (by kernel_rfl) (fun _ _ _ h => h) (Or.inl ⟨by rfl, ?_⟩) hS0 ?_
                · rintro w' _
                  go_simp
                try simp only [Act.put, List.setIfInBounds_toArray, List.set_cons_zero, List.set_cons_succ]
                refine takeD (i := 5) (v := .int .i64 da) (some 78) rfl rfl (by kernel_rfl) (by kernel_rfl) (by kernel_rfl) (fun _ _ _ h => h) (Or.inl ⟨by rfl, ?_⟩) hS0 ?_
                · rintro w' (d0 : w'.cell? ⟨bH, oH + i * 2 + 1, none⟩ = some (.int .i64 da))
                  go_simp
                try simp only [Act.put, List.setIfInBounds_toArray, List.set_cons_zero, List.set_cons_succ]
                refine takeD (i := 7) (v := .pointer (some ⟨y, 0, none⟩)) (some 80) rfl rfl (by kernel_rfl) (by kernel_rfl) (by kernel_rfl) (fun _ _ _ h => h) (Or.inl ⟨by rfl, ?_⟩) hS0 ?_
                · rintro w' _
                  go_simp
                try simp only [Act.put, List.setIfInBounds_toArray, List.set_cons_zero, List.set_cons_succ]
                refine takeD (i := 8) (v := .slice (some ⟨bH, oH, none⟩) n0 c0) (some 81) rfl rfl (by kernel_rfl) (by kernel_rfl) (by kernel_rfl) (fun _ _ _ h => h) (Or.inl ⟨by rfl, ?_⟩) hS0 ?_
                · rintro w' _
                  go_simp
                try simp only [Act.put, List.setIfInBounds_toArray, List.set_cons_zero, List.set_cons_succ]
                refine takeD (i := 9) (v := .int .i64 i) (some 82) rfl rfl (by kernel_rfl) (by kernel_rfl) (by kernel_rfl) (fun _ _ _ h => h) (Or.inl ⟨by rfl, ?_⟩) hS0 ?_
                · rintro w' _
                  go_simp
                try simp only [Act.put, List.setIfInBounds_toArray, List.set_cons_zero, List.set_cons_succ]
                refine takeD (i := 10) (v := .pointer (some ⟨bH, oH + i * 2, none⟩)) (some 83) rfl rfl (by kernel_rfl) (by kernel_rfl) (by kernel_rfl) (fun _ _ _ h => h) (Or.inl ⟨by rfl, ?_⟩) hS0 ?_
                · rintro w' _
                  go_simp
                try simp only [Act.put, List.setIfInBounds_toArray, List.set_cons_zero, List.set_cons_succ]
                refine takeD (i := 11) (v := .pointer (some ⟨bH, oH + i * 2 + 1, none⟩)) (some 84) rfl rfl (by kernel_rfl) (by kernel_rfl) (by kernel_rfl) (fun _ _ _ h => h) (Or.inl ⟨by rfl, ?_⟩) hS0 ?_
                · rintro w' _
                  go_simp
                try simp only [Act.put, List.setIfInBounds_toArray, List.set_cons_zero, List.set_cons_succ]
                refine takeD (i := 12) (v := .int .i64 da) (some 85) rfl rfl (by kernel_rfl) (by kernel_rfl) (by kernel_rfl) (fun _ _ _ h => h) (Or.inl ⟨by rfl, ?_⟩) hS0 ?_
                · rintro w' (d0 : w'.cell? ⟨bH, oH + i * 2 + 1, none⟩ = some (.int .i64 da))
                  go_simp
                try simp only [Act.put, List.setIfInBounds_toArray, List.set_cons_zero, List.set_cons_succ]
                refine wpAnyH_ready (rs := [6]) (by kernel_rfl) (by simp) ?_
                refine AllReadyH.cons rfl (fun K hK => ?_) AllReadyH.nil
                try rw [if_pos (by rfl)]
                go_simp
                go_at_call 9
                refine (bstart_no hSd.p da htk).mono ?_
                rintro e u1 ⟨rfl, hw1⟩
                replace hw1 := hw1.symm
                subst hw1
                have hV1 := hS0
                refine hK.out _ _ hV1 (fun hS1 => ?_)
                clear hK K hV1 hS0
                try simp only [Act.put, List.setIfInBounds_toArray, List.set_cons_zero, List.set_cons_succ]
                refine wpAnyH_ready (rs := [13]) (by kernel_rfl) (by simp) ?_
                refine AllReadyH.cons rfl (fun K hK => ?_) AllReadyH.nil
                try rw [if_pos (by rfl)]
                go_simp
                go_at_call 20
                refine (rstart_no _ y da htk).mono ?_
                rintro e u2 ⟨rfl, hw2⟩
                replace hw2 := hw2.symm
                subst hw2
                have hV2 := hS1
                have hP := hSd
                clear hSd
                refine hK.out _ _ hV2 (fun hS2 => ?_)
                clear hK K hV2 hS1
                try simp only [Act.put, List.setIfInBounds_toArray, List.set_cons_zero, List.set_cons_succ]
                refine takeD (i := 14) (v := .bool true) (some 87) rfl rfl (by kernel_rfl) (by kernel_rfl) (by kernel_rfl) (fun _ _ _ h => h) (Or.inl ⟨by rfl, ?_⟩) hS2 ?_
                · rintro w' _
                  go_simp
                try simp only [Act.put, List.setIfInBounds_toArray, List.set_cons_zero, List.set_cons_succ]
                refine takeD (i := 15) (v := .bool true) (some 13) rfl rfl (by kernel_rfl) (by kernel_rfl) (by kernel_rfl) (fun _ _ _ h => h) (Or.inl ⟨by rfl, ?_⟩) hS2 ?_
                · rintro w' _
                  go_simp
                try simp only [Act.put, List.setIfInBounds_toArray, List.set_cons_zero, List.set_cons_succ]
                refine wpAnyH_done (by kernel_rfl) ?_ _
                have dd : u.cell? ⟨bH, oH + i * 2 + 1, none⟩ = some (.int .i64 da) := hS2
                have hbr2 := Ser.bring_any da 1099511627776 u (by omega) (by omega)
                have hb2 := Ser.bringP_bd da 1099511627776 (by omega)
                generalize Ser.bringP da 1099511627776 = m at *
                have HM := Kp.mk hb2
                clear hb2
                have HS := Kp.mk hP
                clear hP hS2
                go_wp2_with fail
                refine hbr2.mono ?_
                rintro e w7 ⟨rfl, hw7⟩
                subst hw7
                clear hbr2
                go_wp2_with fail
                go_meet
                case rel => exact ⟨rfl, t, m, a, wt, rfl, HS.out, Kp.mk ⟨by have := HK.out; omega, HM.out.1, by have := HM.out; omega, HK.out.2.2.2.2.2⟩⟩
            · skip
              go_wp2_with fail
              refine hbr.mono ?_
              rintro e w7 ⟨rfl, hw7⟩
              subst hw7
              clear hbr
              go_wp2_with fail
              refine hS.stop.mono ?_
              rintro e w7 ⟨rfl, h7⟩
              clear hS
              go_wp2_with fail
              refine h7.stopR.mono ?_
              rintro e w8 ⟨rfl, h8⟩
              have HS := Kp.mk h8
              clear h7 h8
              go_wp2_with fail
              go_meet
              case rel => exact ⟨rfl, 0, n, 0, wt, rfl, HS.out, Kp.mk ⟨by omega, HK.out.2.2.2.1, by have := HK.out; omega, fun h => absurd h (by omega)⟩⟩
            · skip
              go_wp2_with fail
              refine hbr.mono ?_
              rintro e w7 ⟨rfl, hw7⟩
              subst hw7
              clear hbr
              go_wp2_with fail
              by_cases hdu : 0 < a ∧ tickB da = true ∧ a ≤ da
              · have HWT := Kp.mk (HK.out.2.2.2.2.2 hdu.1)
                have hV0 : (fun X : World => X.cell? ⟨bH, oH + i * 2 + 1, none⟩ = some (.int .i64 da)) wc.drew := ((Below.refl wc.heap.size wc).drew.cell (p := ⟨bH, oH + i * 2 + 1, none⟩) HBX.out.2.2).trans d1
                have hSd := hS.below (Below.refl wc.heap.size wc).drew
                clear hS d0 d1
                refine wp_region_held_drew (S := fun X : World => X.cell? ⟨bH, oH + i * 2 + 1, none⟩ = some (.int .i64 da)) (by kernel_rfl) hV0 (fun hS0 => ?_)
                clear hV0
                generalize wc.drew = u at *
                refine takeD (i := 0) (v := .pointer (some ⟨x, 0, none⟩)) (some 102) rfl rfl (by kernel_rfl) (by kernel_rfl) (by kernel_rfl) (fun _ _ _ h => h) (Or.inl ⟨by rfl, ?_⟩) hS0 ?_
                · rintro w' _
                  go_simp
                try simp only [Act.put, List.setIfInBounds_toArray, List.set_cons_zero, List.set_cons_succ]
                refine takeD (i := 1) (v := .slice (some ⟨bH, oH, none⟩) n0 c0) (some 103) rfl rfl (by kernel_rfl) (by kernel_rfl) (by kernel_rfl) (fun _ _ _ h => h) (Or.inl ⟨by rfl, ?_⟩) hS0 ?_
                · rintro w' _
                  go_simp
                try simp only [Act.put, List.setIfInBounds_toArray, List.set_cons_zero, List.set_cons_succ]
                refine takeD (i := 2) (v := .int .i64 i) (some 104) rfl rfl (by kernel_rfl) (by kernel_rfl) (by kernel_rfl) (fun _ _ _ h => h) (Or.inl ⟨by rfl, ?_⟩) hS0 ?_
                · rintro w' _
                  go_simp
                try simp only [Act.put, List.setIfInBounds_toArray, List.set_cons_zero, List.set_cons_succ]
                refine takeD (i := 3) (v := .pointer (some ⟨bH, oH + i * 2, none⟩)) (some 105) rfl rfl (by kernel_rfl) (by kernel_rfl) (by kernel_rfl) (fun _ _ _ h => h) (Or.inl ⟨by rfl, ?_⟩) hS0 ?_
                · rintro w' _
                  go_simp
                try simp only [Act.put, List.setIfInBounds_toArray, List.set_cons_zero, List.set_cons_succ]
                refine takeD (i := 4) (v := .pointer (some ⟨bH, oH + i * 2 + 1, none⟩)) (some 106) rfl rfl (by kernel_rfl) (by kernel_rfl) (by kernel_rfl) (fun _ _ _ h => h) (Or.inl ⟨by rfl, ?_⟩) hS0 ?_
                · rintro w' _
                  go_simp
                try simp only [Act.put, List.setIfInBounds_toArray, List.set_cons_zero, List.set_cons_succ]
                refine takeD (i := 5) (v := .int .i64 da) (some 107) rfl rfl (by kernel_rfl) (by kernel_rfl) (by kernel_rfl) (fun _ _ _ h => h) (Or.inl ⟨by rfl, ?_⟩) hS0 ?_
                · rintro w' (d0 : w'.cell? ⟨bH, oH + i * 2 + 1, none⟩ = some (.int .i64 da))
                  go_simp
                try simp only [Act.put, List.setIfInBounds_toArray, List.set_cons_zero, List.set_cons_succ]
                refine takeD (i := 7) (v := .pointer (some ⟨y, 0, none⟩)) (some 109) rfl rfl (by kernel_rfl) (by kernel_rfl) (by kernel_rfl) (fun _ _ _ h => h) (Or.inl ⟨by rfl, ?_⟩) hS0 ?_
                · rintro w' _
                  go_simp
                try simp only [Act.put, List.setIfInBounds_toArray, List.set_cons_zero, List.set_cons_succ]
                refine takeD (i := 8) (v := .slice (some ⟨bH, oH, none⟩) n0 c0) (some 110) rfl rfl (by kernel_rfl) (by kernel_rfl) (by kernel_rfl) (fun _ _ _ h => h) (Or.inl ⟨by rfl, ?_⟩) hS0 ?_
                · rintro w' _
                  go_simp
                try simp only [Act.put, List.setIfInBounds_toArray, List.set_cons_zero, List.set_cons_succ]
                refine takeD (i := 9) (v := .int .i64 i) (some 111) rfl rfl (by kernel_rfl) (by kernel_rfl) (by kernel_rfl) (fun _ _ _ h => h) (Or.inl ⟨by rfl, ?_⟩) hS0 ?_
                · rintro w' _
                  go_simp
                try simp only [Act.put, List.setIfInBounds_toArray, List.set_cons_zero, List.set_cons_succ]
                refine takeD (i := 10) (v := .pointer (some ⟨bH, oH + i * 2, none⟩)) (some 112) rfl rfl (by kernel_rfl) (by kernel_rfl) (by kernel_rfl) (fun _ _ _ h => h) (Or.inl ⟨by rfl, ?_⟩) hS0 ?_
                · rintro w' _
                  go_simp
                try simp only [Act.put, List.setIfInBounds_toArray, List.set_cons_zero, List.set_cons_succ]
                refine takeD (i := 11) (v := .pointer (some ⟨bH, oH + i * 2 + 1, none⟩)) (some 113) rfl rfl (by kernel_rfl) (by kernel_rfl) (by kernel_rfl) (fun _ _ _ h => h) (Or.inl ⟨by rfl, ?_⟩) hS0 ?_
                · rintro w' _
                  go_simp
                try simp only [Act.put, List.setIfInBounds_toArray, List.set_cons_zero, List.set_cons_succ]
                refine takeD (i := 12) (v := .int .i64 da) (some 114) rfl rfl (by kernel_rfl) (by kernel_rfl) (by kernel_rfl) (fun _ _ _ h => h) (Or.inl ⟨by rfl, ?_⟩) hS0 ?_
                · rintro w' (d0 : w'.cell? ⟨bH, oH + i * 2 + 1, none⟩ = some (.int .i64 da))
                  go_simp
                try simp only [Act.put, List.setIfInBounds_toArray, List.set_cons_zero, List.set_cons_succ]
                refine wpAnyH_ready (rs := [6]) (by kernel_rfl) (by simp) ?_
                refine AllReadyH.cons rfl (fun K hK => ?_) AllReadyH.nil
                try rw [if_pos (by rfl)]
                go_simp
                go_at_call 10
                refine (hSd.due da hdu.1 hdu.2.1 hdu.2.2 (by have := HK.out; omega)).mono ?_
                rintro e u1 ⟨rfl, hP1, hg1⟩
                have hV1 : (fun X : World => X.cell? ⟨bH, oH + i * 2 + 1, none⟩ = some (.int .i64 da)) u1 := grown_cell hg1 hS0 HBX.out.1
                clear hSd
                refine hK.out _ _ hV1 (fun hS1 => ?_)
                clear hK K hV1 hS0
                try simp only [Act.put, List.setIfInBounds_toArray, List.set_cons_zero, List.set_cons_succ]
                refine wpAnyH_ready (rs := [13]) (by kernel_rfl) (by simp) ?_
                refine AllReadyH.cons rfl (fun K hK => ?_) AllReadyH.nil
                try rw [if_pos (by rfl)]
                go_simp
                go_at_call 22
                refine (hP1.dueR da hdu.1 hdu.2.1 hdu.2.2 (by have := HK.out; omega) (by rw [HK.out.2.2.2.2.2 hdu.1]; exact hP1.p.wv _)).mono ?_
                rintro e u2 ⟨rfl, hP, hg2⟩
                have hV2 : (fun X : World => X.cell? ⟨bH, oH + i * 2 + 1, none⟩ = some (.int .i64 da)) u2 := grown_cell hg2 hS1 HBX.out.2.1
                clear hP1 hg1 hg2
                refine hK.out _ _ hV2 (fun hS2 => ?_)
                clear hK K hV2 hS1
                try simp only [Act.put, List.setIfInBounds_toArray, List.set_cons_zero, List.set_cons_succ]
                refine takeD (i := 14) (v := .bool true) (some 116) rfl rfl (by kernel_rfl) (by kernel_rfl) (by kernel_rfl) (fun _ _ _ h => h) (Or.inl ⟨by rfl, ?_⟩) hS2 ?_
                · rintro w' _
                  go_simp
                try simp only [Act.put, List.setIfInBounds_toArray, List.set_cons_zero, List.set_cons_succ]
                refine takeD (i := 15) (v := .bool true) (some 13) rfl rfl (by kernel_rfl) (by kernel_rfl) (by kernel_rfl) (fun _ _ _ h => h) (Or.inl ⟨by rfl, ?_⟩) hS2 ?_
                · rintro w' _
                  go_simp
                try simp only [Act.put, List.setIfInBounds_toArray, List.set_cons_zero, List.set_cons_succ]
                refine wpAnyH_done (by kernel_rfl) ?_ _
                rw [HWT.out] at hP
                have HS := Kp.mk hP
                clear hP hS2
                go_wp2_with fail
                go_meet
                case rel => exact ⟨rfl, t + 1, n, da + wv f c (t + 1), wv f c (t + 2), rfl, HS.out, Kp.mk ⟨by have := HK.out; omega, HK.out.2.2.2.1, by have := HK.out; omega, fun _ => rfl⟩⟩
              · skip
                have hV0 : (fun X : World => X.cell? ⟨bH, oH + i * 2 + 1, none⟩ = some (.int .i64 da)) wc.drew := ((Below.refl wc.heap.size wc).drew.cell (p := ⟨bH, oH + i * 2 + 1, none⟩) HBX.out.2.2).trans d1
                have hSd := hS.below (Below.refl wc.heap.size wc).drew
                clear hS d0 d1
                refine wp_region_held_drew (S := fun X : World => X.cell? ⟨bH, oH + i * 2 + 1, none⟩ = some (.int .i64 da)) (by kernel_rfl) hV0 (fun hS0 => ?_)
                clear hV0
                generalize wc.drew = u at *
                refine takeD (i := 0) (v := .pointer (some ⟨x, 0, none⟩)) (some 102) rfl rfl (by kernel_rfl) (by kernel_rfl) (by kernel_rfl) (fun _ _ _ h => h) (Or.inl ⟨by rfl, ?_⟩) hS0 ?_
                · rintro w' _
                  go_simp
                try simp only [Act.put, List.setIfInBounds_toArray, List.set_cons_zero, List.set_cons_succ]
                refine takeD (i := 1) (v := .slice (some ⟨bH, oH, none⟩) n0 c0) (some 103) rfl rfl (by kernel_rfl) (by kernel_rfl) (by kernel_rfl) (fun _ _ _ h => h) (Or.inl ⟨by rfl, ?_⟩) hS0 ?_
                · rintro w' _
                  go_simp
                try simp only [Act.put, List.setIfInBounds_toArray, List.set_cons_zero, List.set_cons_succ]
                refine takeD (i := 2) (v := .int .i64 i) (some 104) rfl rfl (by kernel_rfl) (by kernel_rfl) (by kernel_rfl) (fun _ _ _ h => h) (Or.inl ⟨by rfl, ?_⟩) hS0 ?_
                · rintro w' _
                  go_simp
                try simp only [Act.put, List.setIfInBounds_toArray, List.set_cons_zero, List.set_cons_succ]
                refine takeD (i := 3) (v := .pointer (some ⟨bH, oH + i * 2, none⟩)) (some 105) rfl rfl (by kernel_rfl) (by kernel_rfl) (by kernel_rfl) (fun _ _ _ h => h) (Or.inl ⟨by rfl, ?_⟩) hS0 ?_
                · rintro w' _
                  go_simp
                try simp only [Act.put, List.setIfInBounds_toArray, List.set_cons_zero, List.set_cons_succ]
                refine takeD (i := 4) (v := .pointer (some ⟨bH, oH + i * 2 + 1, none⟩)) (some 106) rfl rfl (by kernel_rfl) (by kernel_rfl) (by kernel_rfl) (fun _ _ _ h => h) (Or.inl ⟨by rfl, ?_⟩) hS0 ?_
                · rintro w' _
                  go_simp
                try simp only [Act.put, List.setIfInBounds_toArray, List.set_cons_zero, List.set_cons_succ]
                refine takeD (i := 5) (v := .int .i64 da) (some 107) rfl rfl (by kernel_rfl) (by kernel_rfl) (by kernel_rfl) (fun _ _ _ h => h) (Or.inl ⟨by rfl, ?_⟩) hS0 ?_
                · rintro w' (d0 : w'.cell? ⟨bH, oH + i * 2 + 1, none⟩ = some (.int .i64 da))
                  go_simp
                try simp only [Act.put, List.setIfInBounds_toArray, List.set_cons_zero, List.set_cons_succ]
                refine takeD (i := 7) (v := .pointer (some ⟨y, 0, none⟩)) (some 109) rfl rfl (by kernel_rfl) (by kernel_rfl) (by kernel_rfl) (fun _ _ _ h => h) (Or.inl ⟨by rfl, ?_⟩) hS0 ?_
                · rintro w' _
                  go_simp
                try simp only [Act.put, List.setIfInBounds_toArray, List.set_cons_zero, List.set_cons_succ]
                refine takeD (i := 8) (v := .slice (some ⟨bH, oH, none⟩) n0 c0) (some 110) rfl rfl (by kernel_rfl) (by kernel_rfl) (by kernel_rfl) (fun _ _ _ h => h) (Or.inl ⟨by rfl, ?_⟩) hS0 ?_
                · rintro w' _
                  go_simp
                try simp only [Act.put, List.setIfInBounds_toArray, List.set_cons_zero, List.set_cons_succ]
                refine takeD (i := 9) (v := .int .i64 i) (some 111) rfl rfl (by kernel_rfl) (by kernel_rfl) (by kernel_rfl) (fun _ _ _ h => h) (Or.inl ⟨by rfl, ?_⟩) hS0 ?_
                · rintro w' _
                  go_simp
                try simp only [Act.put, List.setIfInBounds_toArray, List.set_cons_zero, List.set_cons_succ]
                refine takeD (i := 10) (v := .pointer (some ⟨bH, oH + i * 2, none⟩)) (some 112) rfl rfl (by kernel_rfl) (by kernel_rfl) (by kernel_rfl) (fun _ _ _ h => h) (Or.inl ⟨by rfl, ?_⟩) hS0 ?_
                · rintro w' _
                  go_simp
                try simp only [Act.put, List.setIfInBounds_toArray, List.set_cons_zero, List.set_cons_succ]
                refine takeD (i := 11) (v := .pointer (some ⟨bH, oH + i * 2 + 1, none⟩)) (some 113) rfl rfl (by kernel_rfl) (by kernel_rfl) (by kernel_rfl) (fun _ _ _ h => h) (Or.inl ⟨by rfl, ?_⟩) hS0 ?_
                · rintro w' _
                  go_simp
                try simp only [Act.put, List.setIfInBounds_toArray, List.set_cons_zero, List.set_cons_succ]
                refine takeD (i := 12) (v := .int .i64 da) (some 114) rfl rfl (by kernel_rfl) (by kernel_rfl) (by kernel_rfl) (fun _ _ _ h => h) (Or.inl ⟨by rfl, ?_⟩) hS0 ?_
                · rintro w' (d0 : w'.cell? ⟨bH, oH + i * 2 + 1, none⟩ = some (.int .i64 da))
                  go_simp
                try simp only [Act.put, List.setIfInBounds_toArray, List.set_cons_zero, List.set_cons_succ]
                refine wpAnyH_ready (rs := [6]) (by kernel_rfl) (by simp) ?_
                refine AllReadyH.cons rfl (fun K hK => ?_) AllReadyH.nil
                try rw [if_pos (by rfl)]
                go_simp
                go_at_call 10
                refine (bdue_no hSd.p da hdu).mono ?_
                rintro e u1 ⟨rfl, hw1⟩
                replace hw1 := hw1.symm
                subst hw1
                have hV1 := hS0
                refine hK.out _ _ hV1 (fun hS1 => ?_)
                clear hK K hV1 hS0
                try simp only [Act.put, List.setIfInBounds_toArray, List.set_cons_zero, List.set_cons_succ]
                refine wpAnyH_ready (rs := [13]) (by kernel_rfl) (by simp) ?_
                refine AllReadyH.cons rfl (fun K hK => ?_) AllReadyH.nil
                try rw [if_pos (by rfl)]
                go_simp
                go_at_call 22
                refine (rdue_no hSd.r da hdu).mono ?_
                rintro e u2 ⟨rfl, hw2⟩
                replace hw2 := hw2.symm
                subst hw2
                have hV2 := hS1
                have hP := hSd
                clear hSd
                refine hK.out _ _ hV2 (fun hS2 => ?_)
                clear hK K hV2 hS1
                try simp only [Act.put, List.setIfInBounds_toArray, List.set_cons_zero, List.set_cons_succ]
                refine takeD (i := 14) (v := .bool true) (some 116) rfl rfl (by kernel_rfl) (by kernel_rfl) (by kernel_rfl) (fun _ _ _ h => h) (Or.inl ⟨by rfl, ?_⟩) hS2 ?_
                · rintro w' _
                  go_simp
                try simp only [Act.put, List.setIfInBounds_toArray, List.set_cons_zero, List.set_cons_succ]
                refine takeD (i := 15) (v := .bool true) (some 13) rfl rfl (by kernel_rfl) (by kernel_rfl) (by kernel_rfl) (fun _ _ _ h => h) (Or.inl ⟨by rfl, ?_⟩) hS2 ?_
                · rintro w' _
                  go_simp
                try simp only [Act.put, List.setIfInBounds_toArray, List.set_cons_zero, List.set_cons_succ]
                refine wpAnyH_done (by kernel_rfl) ?_ _
                have HS := Kp.mk hP
                clear hP hS2
                go_wp2_with fail
                go_meet
                case rel => exact ⟨rfl, t, n, a, wt, rfl, HS.out, Kp.mk ⟨by have := HK.out; omega, HK.out.2.2.2.1, by have := HK.out; omega, HK.out.2.2.2.2.2⟩⟩
            · skip
              go_wp2_with fail
              refine hbr.mono ?_
              rintro e w7 ⟨rfl, hw7⟩
              subst hw7
              clear hbr
              have hbr2 := Ser.bring_any da 50 wc (by omega) (by omega)
              have hb2 := Ser.bringP_bd da 50 (by omega)
              generalize Ser.bringP da 50 = m at *
              have ew : wrap64 (n + m) = n + m := by have := HK.out; unfold wrap64; omega
              have HM := Kp.mk (show 0 ≤ n + m ∧ n + m ≤ 1099511627776 + 50 * ((i : Int) + 1) by have := HK.out; omega)
              have htk : tickB (n + m) = true := tickI HM.out.1 (by have := HM.out; have := HK.out; omega)
              clear hb2
              go_wp2_with fail
              refine hbr2.mono ?_
              rintro e w7 ⟨rfl, hw7⟩
              subst hw7
              clear hbr2
              go_wp2_with fail
              by_cases hdu : 0 < a ∧ tickB (n + m) = true ∧ a ≤ n + m
              · skip
                have HWT := Kp.mk (HK.out.2.2.2.2.2 hdu.1)
                have HWV := Kp.mk (show 1 ≤ wt ∧ wt ≤ 10000 by rw [HWT.out]; exact hS.p.wv _)
                refine (hS.due (n + m) hdu.1 hdu.2.1 hdu.2.2 (by have := HK.out; omega)).mono ?_
                rintro e w7 ⟨rfl, h7, -⟩
                clear hS
                go_wp2_with fail
                refine (h7.dueR (n + m) hdu.1 hdu.2.1 hdu.2.2 (by have := HK.out; omega) HWV.out).mono ?_
                rintro e w8 ⟨rfl, h8, -⟩
                rw [HWT.out] at h8
                have HS := Kp.mk h8
                clear h7 h8 hdu htk
                go_wp2_with fail
                go_meet
                case rel => exact ⟨rfl, t + 1, n + m, n + m + wv f c (t + 1), wv f c (t + 2), rfl, HS.out, Kp.mk ⟨by have := HK.out; omega, HM.out.1, HM.out.2, fun _ => rfl⟩⟩
              · skip
                refine (bdue_no hS.p (n + m) hdu).mono ?_
                rintro e w7 ⟨rfl, hw7⟩
                replace hw7 := hw7.symm
                subst hw7
                go_wp2_with fail
                refine (rdue_no hS.r (n + m) hdu).mono ?_
                rintro e w7 ⟨rfl, hw7⟩
                replace hw7 := hw7.symm
                subst hw7
                have HS := Kp.mk hS
                clear hS hdu htk
                go_wp2_with fail
                go_meet
                case rel => exact ⟨rfl, t, n + m, a, wt, rfl, HS.out, Kp.mk ⟨by have := HK.out; omega, HM.out.1, HM.out.2, HK.out.2.2.2.2.2⟩⟩
          case rest =>
            clear hS
            obtain ⟨rfl, t2, n2, a2, wt2, rfl, hS, HK2⟩ := hcut
            refine h3 _ _ ?_
            have hi1 : wrap64 ((i : Int) + 1) = (i : Int) + 1 := by unfold wrap64; omega
            have HI := Kp.mk (show i + 1 ≤ n0 ∧ i + 1 ≤ 200 ∧ ((i + 1 : Nat) : Int) = (i : Int) + 1 by omega)
            go_wp2_with fail
            refine (bruns_any hS.p).mono ?_
            rintro e v0 ⟨rfl, hv0⟩
            replace hv0 := hv0.symm
            subst hv0
            go_wp2_with fail
            refine (rruns_any hS.r).mono ?_
            rintro e v1 ⟨rfl, hv1⟩
            replace hv1 := hv1.symm
            subst hv1
            go_wp2_with fail
            refine (bat_any hS.p).mono ?_
            rintro e v2 ⟨rfl, hv2⟩
            replace hv2 := hv2.symm
            subst hv2
            go_wp2_with fail
            refine (rat_any hS.r).mono ?_
            rintro e v3 ⟨rfl, hv3⟩
            replace hv3 := hv3.symm
            subst hv3
            go_wp2_with fail
            refine (btries_any hS.p).mono ?_
            rintro e v4 ⟨rfl, hv4⟩
            replace hv4 := hv4.symm
            subst hv4
            go_wp2_with fail
            refine (rtries_any hS.r).mono ?_
            rintro e v5 ⟨rfl, hv5⟩
            replace hv5 := hv5.symm
            subst hv5
            have HS := Kp.mk hS
            clear hS
            go_wp2_with fail
            go_roundw
            case rel => exact ⟨i + 1, t2, n2, a2, wt2, rfl, by rw [HI.out.2.2], HS.out, Kp.mk ⟨HI.out.1, HI.out.2.1, HK2.out.1, HK2.out.2.1, by have := HK2.out; have := HI.out; omega, HK2.out.2.2.2⟩⟩
            case measure => have := HI.out; simp [intOf]; omega
        · skip
          have hO := hS.old
          have HS := Kp.mk hO
          have hW := works_any wr
          clear hS hO
          go_wp2_with fail
          refine hW.mono ?_
          rintro e w9 ⟨rfl, hb⟩
          have HB := Kp.mk (HS.out.trans (hb.mono HS.out.size))
          clear hb hW
          go_wp2_with fail
          go_ret
          exact ⟨rfl, HB.out⟩
      · skip
        have hO := hS.old
        have HS := Kp.mk hO
        have hW := works_any wr
        clear hS hO
        go_wp2_with fail
        refine hW.mono ?_
        rintro e w9 ⟨rfl, hb⟩
        have HB := Kp.mk (HS.out.trans (hb.mono HS.out.size))
        clear hb hW
        go_wp2_with fail
        go_ret
        exact ⟨rfl, HB.out⟩
end Go.Proofs.Ytklbkpnbkpoomaa.Oct
