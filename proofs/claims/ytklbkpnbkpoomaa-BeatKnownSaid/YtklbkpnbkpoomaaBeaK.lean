/- BeatKnown: both ends of all; beats that are none. -/
import Derived.Test.YtklbkpnbkpoomaaBeaO
namespace Go.Proofs.Ytklbkpnbkpoomaa.Oct
open Go.RowKit
set_option linter.unusedVariables false
set_option linter.unusedSimpArgs false
theorem beatOp_append {o : Oper} {a : Act} (d : Tmp) (hd : o.dst = some d) {K : Act → World → Prop} {Q : Exit → Act → World → Prop} {t : TypeId} {w w' : World} (s x : Operand) (ho : o.op = .call { callee := .builtin .append, args := #[s, x], argTypes := #[t, t] }) {v u y : Value} (hs : a.eval s = v) (hx : a.eval x = u)
    (hrun : (Builtin.append_ #[t, t] o.type #[v, u]).run Try.prog w = .ok y w') (h : K (a.put (some d) y) w') : o.wp Try.prog a w K Q := by
  unfold Oper.wp execOp
  simp only [ho, resolve, invoke, builtin, Sem.run_bind, Sem.run_pure, Result.andThen_ok, List.map_toArray, List.map_cons, List.map_nil, hs, hx, hrun]
  rw [← hd] at h
  exact h
/-- The ends. -/
def endsE : List Int := [(-9223372036854775808), (-1), 0, 1, 2, 999, 1000, 1001, 9999, 10000, 10001, 9007199254740991, 9007199254740992]
def endsV (w : World) (be : Nat) : Prop := Vb 3 w be [.int .i64 (-9223372036854775808), .int .i64 (-1), .int .i64 0, .int .i64 1, .int .i64 2, .int .i64 999, .int .i64 1000, .int .i64 1001, .int .i64 9999, .int .i64 10000, .int .i64 10001, .int .i64 9007199254740991, .int .i64 9007199254740992]
theorem endsV.at_ {w : World} {be : Nat} (h : endsV w be) {j : Nat} (hj : j < 13) : w.cell? ⟨be, j, none⟩ = some (.int .i64 (endsE.getD j 0)) := by
  unfold endsV at h
  refine h.cell j ?_
  have : j = 0 ∨ j = 1 ∨ j = 2 ∨ j = 3 ∨ j = 4 ∨ j = 5 ∨ j = 6 ∨ j = 7 ∨ j = 8 ∨ j = 9 ∨ j = 10 ∨ j = 11 ∨ j = 12 := by omega
  rcases this with rfl | rfl | rfl | rfl | rfl | rfl | rfl | rfl | rfl | rfl | rfl | rfl | rfl <;> rfl
theorem endsV.below {w w' : World} {be B : Nat} (h : endsV w be) (hb : Below B w w') (hB : be < B) : endsV w' be := Vb.below h hb hB
theorem Db.wide {w : World} {B B' : Nat} {A : Option Addr} {n c : Nat} {ds : List (Int × Int)} (h : Db w B A n c ds) (hB : B ≤ B') : Db w B' A n c ds :=
  ⟨h.len, h.le, h.cap, fun hn => by obtain ⟨b, off, e, hlt, hc⟩ := h.ex hn; exact ⟨b, off, e, by omega, hc⟩⟩
set_option maxRecDepth 100000 in
set_option maxHeartbeats 8000000 in
theorem beatKnown_walk (W : World) : Calls Try.prog 5 #[] W fun e w' => e = .returned (.bool true) ∧ Below W.heap.size W w' := by
  go_enter Try.func5, Try.ntmps5
  go_wp2_with fail
  go_loopw [1, 2] (fun s1 s2 wr => ∃ (k : Nat) (a : Option Addr), s1 = .pointer a ∧ s2 = .int .i64 k ∧ k ≤ 2 ∧ NB wr a ∧ Kp (Below W.heap.size W wr)) (fun _ s2 _ => 2 - (intOf s2).toNat)
  case atStart => exact ⟨0, none, rfl, rfl, by omega, .inl rfl, Kp.mk (Below.refl _ _)⟩
  case round =>
    obtain ⟨k, a, rfl, rfl, hk, hN, HB⟩ := hrel
    by_cases hk2 : (k : Int) < 2
    · have hk1 : wrap64 ((k : Int) + 1) = (k : Int) + 1 := by unfold wrap64; omega
      have HK := Kp.mk (show k + 1 ≤ 2 ∧ ((k + 1 : Nat) : Int) = (k : Int) + 1 by omega)
      go_wp2_with fail
      refine (hN.stop).mono ?_
      rintro e v0 ⟨rfl, hv0⟩
      replace hv0 := hv0.symm
      subst hv0
      go_wp2_with fail
      refine (hN.start (-1)).mono ?_
      rintro e v1 ⟨rfl, hv1⟩
      replace hv1 := hv1.symm
      subst hv1
      go_wp2_with fail
      refine (hN.due 5).mono ?_
      rintro e v2 ⟨rfl, hv2⟩
      replace hv2 := hv2.symm
      subst hv2
      go_wp2_with fail
      refine (hN.runs).mono ?_
      rintro e v3 ⟨rfl, hv3⟩
      replace hv3 := hv3.symm
      subst hv3
      go_wp2_with fail
      refine (hN.at_).mono ?_
      rintro e v4 ⟨rfl, hv4⟩
      replace hv4 := hv4.symm
      subst hv4
      go_wp2_with fail
      refine (hN.tries).mono ?_
      rintro e v5 ⟨rfl, hv5⟩
      replace hv5 := hv5.symm
      subst hv5
      have hz := Kp.mk (Vb.new 35 wr [.int .i64 0, .int .i64 0, .int .i64 0, .int .i64 0])
      have hba := Kp.mk (HB.out.trans ((below_alloc wr (.cells #[.int .i64 0, .int .i64 0, .int .i64 0, .int .i64 0] 35)).mono HB.out.size))
      clear hN
      go_wp2_with fail
      go_roundw
      case rel => exact ⟨k + 1, some ⟨wr.heap.size, 0, none⟩, rfl, by rw [HK.out.2], HK.out.1, .inr ⟨_, rfl, hz.out⟩, hba⟩
      case measure => have := HK.out; simp [intOf]; omega
    · skip
      clear hN
      have hE : endsV (wr.alloc (.cells #[.int .i64 (-9223372036854775808), .int .i64 (-1), .int .i64 0, .int .i64 1, .int .i64 2, .int .i64 999, .int .i64 1000, .int .i64 1001, .int .i64 9999, .int .i64 10000, .int .i64 10001, .int .i64 9007199254740991, .int .i64 9007199254740992] 3)) wr.heap.size := Vb.new 3 wr [.int .i64 (-9223372036854775808), .int .i64 (-1), .int .i64 0, .int .i64 1, .int .i64 2, .int .i64 999, .int .i64 1000, .int .i64 1001, .int .i64 9999, .int .i64 10000, .int .i64 10001, .int .i64 9007199254740991, .int .i64 9007199254740992]
      have hbe := below_alloc wr (.cells #[.int .i64 (-9223372036854775808), .int .i64 (-1), .int .i64 0, .int .i64 1, .int .i64 2, .int .i64 999, .int .i64 1000, .int .i64 1001, .int .i64 9999, .int .i64 10000, .int .i64 10001, .int .i64 9007199254740991, .int .i64 9007199254740992] 3)
      have HBE := Kp.mk (HB.out.trans (hbe.mono HB.out.size))
      go_upto_region 10 with fail
      obtain ⟨be, hbe2⟩ : ∃ be, be = wr.heap.size := ⟨_, rfl⟩
      rw [← hbe2] at hE ⊢
      generalize wr.alloc (.cells #[.int .i64 (-9223372036854775808), .int .i64 (-1), .int .i64 0, .int .i64 1, .int .i64 2, .int .i64 999, .int .i64 1000, .int .i64 1001, .int .i64 9999, .int .i64 10000, .int .i64 10001, .int .i64 9007199254740991, .int .i64 9007199254740992] 3) = w1 at *
      have HE := Kp.mk hE
      have HX := Kp.mk (show W.heap.size ≤ be by rw [hbe2]; exact HB.out.size)
      clear hE hbe hbe2 HB hk hk2
      go_wp2_with fail
      go_loopw [4, 5] (fun s4 s5 wr => ∃ (i N c : Nat) (A : Option Addr) (ds : List (Int × Int)), s4 = .slice A N c ∧ s5 = .int .i64 i ∧ Kp (i ≤ 13 ∧ N = 6 * i) ∧ Obr wr w1.heap.size (.slice A N c) N ds ∧ Kp (Below w1.heap.size w1 wr)) (fun _ s5 _ => 13 - (intOf s5).toNat)
      case atStart => exact ⟨0, 0, 0, none, [], rfl, rfl, Kp.mk ⟨by omega, by omega⟩, Obr.nil0 _ _, Kp.mk (Below.refl _ _)⟩
      case round =>
        obtain ⟨i, N, c, A, ds, rfl, rfl, HI, hO, HB⟩ := hrel
        by_cases hi : (i : Int) < 13
        · have HJ := Kp.mk (show i < 13 by omega)
          by_cases h2 : (i : Int) < 2
          · skip
            have hu : endsV wr.drew be := (HE.out.below HB.out HE.out.lt).below (Below.refl wr.heap.size wr).drew (by have := HE.out.lt; have := HB.out.size; omega)
            have hOd := hO.below (Below.refl wr.heap.size wr).drew
            have hBd := HB.out.trans ((Below.refl wr.heap.size wr).drew.mono HB.out.size)
            clear hO
            go_upto_region 14 with fail
            refine wp_region_held_drew (S := fun X : World => endsV X be) (by kernel_rfl) hu (fun hS0 => ?_)
            clear hu
            generalize wr.drew = u at *
            refine takeD (i := 0) (v := .slice A N c) (some 44) rfl rfl (by kernel_rfl) (by kernel_rfl) (by kernel_rfl) (fun _ _ _ h => h) (Or.inl ⟨by rfl, ?_⟩) hS0 ?_
            · rintro w' _
              go_simp
            try simp only [Act.put, List.setIfInBounds_toArray, List.set_cons_zero, List.set_cons_succ]
            refine takeD (i := 1) (v := .slice (some ⟨be, 0, none⟩) 13 13) (some 45) rfl rfl (by kernel_rfl) (by kernel_rfl) (by kernel_rfl) (fun _ _ _ h => h) (Or.inl ⟨by rfl, ?_⟩) hS0 ?_
            · rintro w' _
              go_simp
            try simp only [Act.put, List.setIfInBounds_toArray, List.set_cons_zero, List.set_cons_succ]
            refine takeD (i := 2) (v := .int .i64 i) (some 46) rfl rfl (by kernel_rfl) (by kernel_rfl) (by kernel_rfl) (fun _ _ _ h => h) (Or.inl ⟨by rfl, ?_⟩) hS0 ?_
            · rintro w' _
              go_simp
            try simp only [Act.put, List.setIfInBounds_toArray, List.set_cons_zero, List.set_cons_succ]
            refine takeD (i := 3) (v := .pointer (some ⟨be, i, none⟩)) (some 47) rfl rfl (by kernel_rfl) (by kernel_rfl) (by kernel_rfl) (fun _ _ _ h => h) (Or.inl ⟨by rfl, ?_⟩) hS0 ?_
            · rintro w' _
              go_simp
            try simp only [Act.put, List.setIfInBounds_toArray, List.set_cons_zero, List.set_cons_succ]
            refine takeD (i := 4) (v := .int .i64 (endsE.getD i 0)) (some 48) rfl rfl (by kernel_rfl) (by kernel_rfl) (by kernel_rfl) (fun _ _ _ h => h) (Or.inl ⟨by rfl, ?_⟩) hS0 ?_
            · rintro w' (q : endsV w' be)
              have d0 := endsV.at_ q (j := i) (by have := HJ.out; omega)
              go_simp
            try simp only [Act.put, List.setIfInBounds_toArray, List.set_cons_zero, List.set_cons_succ]
            refine takeD (i := 5) (v := .agg #[.int .i64 0, .int .i64 (endsE.getD i 0)]) (some 49) rfl rfl (by kernel_rfl) (by kernel_rfl) (by kernel_rfl) (fun _ _ _ h => h) (Or.inl ⟨by rfl, ?_⟩) hS0 ?_
            · rintro w' _
              go_simp
            try simp only [Act.put, List.setIfInBounds_toArray, List.set_cons_zero, List.set_cons_succ]
            refine takeD (i := 6) (v := .slice (some ⟨be, 0, none⟩) 13 13) (some 50) rfl rfl (by kernel_rfl) (by kernel_rfl) (by kernel_rfl) (fun _ _ _ h => h) (Or.inl ⟨by rfl, ?_⟩) hS0 ?_
            · rintro w' _
              go_simp
            try simp only [Act.put, List.setIfInBounds_toArray, List.set_cons_zero, List.set_cons_succ]
            refine takeD (i := 7) (v := .int .i64 i) (some 51) rfl rfl (by kernel_rfl) (by kernel_rfl) (by kernel_rfl) (fun _ _ _ h => h) (Or.inl ⟨by rfl, ?_⟩) hS0 ?_
            · rintro w' _
              go_simp
            try simp only [Act.put, List.setIfInBounds_toArray, List.set_cons_zero, List.set_cons_succ]
            refine takeD (i := 8) (v := .pointer (some ⟨be, i, none⟩)) (some 52) rfl rfl (by kernel_rfl) (by kernel_rfl) (by kernel_rfl) (fun _ _ _ h => h) (Or.inl ⟨by rfl, ?_⟩) hS0 ?_
            · rintro w' _
              go_simp
            try simp only [Act.put, List.setIfInBounds_toArray, List.set_cons_zero, List.set_cons_succ]
            refine takeD (i := 9) (v := .int .i64 (endsE.getD i 0)) (some 53) rfl rfl (by kernel_rfl) (by kernel_rfl) (by kernel_rfl) (fun _ _ _ h => h) (Or.inl ⟨by rfl, ?_⟩) hS0 ?_
            · rintro w' (q : endsV w' be)
              have d0 := endsV.at_ q (j := i) (by have := HJ.out; omega)
              go_simp
            try simp only [Act.put, List.setIfInBounds_toArray, List.set_cons_zero, List.set_cons_succ]
            refine takeD (i := 10) (v := .agg #[.int .i64 2, .int .i64 (endsE.getD i 0)]) (some 54) rfl rfl (by kernel_rfl) (by kernel_rfl) (by kernel_rfl) (fun _ _ _ h => h) (Or.inl ⟨by rfl, ?_⟩) hS0 ?_
            · rintro w' _
              go_simp
            try simp only [Act.put, List.setIfInBounds_toArray, List.set_cons_zero, List.set_cons_succ]
            refine takeD (i := 11) (v := .agg #[.int .i64 3, .int .i64 40]) (some 55) rfl rfl (by kernel_rfl) (by kernel_rfl) (by kernel_rfl) (fun _ _ _ h => h) (Or.inl ⟨by rfl, ?_⟩) hS0 ?_
            · rintro w' _
              go_simp
            try simp only [Act.put, List.setIfInBounds_toArray, List.set_cons_zero, List.set_cons_succ]
            refine takeD (i := 12) (v := .agg #[.int .i64 3, .int .i64 49]) (some 56) rfl rfl (by kernel_rfl) (by kernel_rfl) (by kernel_rfl) (fun _ _ _ h => h) (Or.inl ⟨by rfl, ?_⟩) hS0 ?_
            · rintro w' _
              go_simp
            try simp only [Act.put, List.setIfInBounds_toArray, List.set_cons_zero, List.set_cons_succ]
            refine takeD (i := 13) (v := .agg #[.int .i64 3, .int .i64 3]) (some 57) rfl rfl (by kernel_rfl) (by kernel_rfl) (by kernel_rfl) (fun _ _ _ h => h) (Or.inl ⟨by rfl, ?_⟩) hS0 ?_
            · rintro w' _
              go_simp
            try simp only [Act.put, List.setIfInBounds_toArray, List.set_cons_zero, List.set_cons_succ]
            refine takeD (i := 14) (v := .slice (some ⟨be, 0, none⟩) 13 13) (some 58) rfl rfl (by kernel_rfl) (by kernel_rfl) (by kernel_rfl) (fun _ _ _ h => h) (Or.inl ⟨by rfl, ?_⟩) hS0 ?_
            · rintro w' _
              go_simp
            try simp only [Act.put, List.setIfInBounds_toArray, List.set_cons_zero, List.set_cons_succ]
            refine takeD (i := 15) (v := .int .i64 i) (some 59) rfl rfl (by kernel_rfl) (by kernel_rfl) (by kernel_rfl) (fun _ _ _ h => h) (Or.inl ⟨by rfl, ?_⟩) hS0 ?_
            · rintro w' _
              go_simp
            try simp only [Act.put, List.setIfInBounds_toArray, List.set_cons_zero, List.set_cons_succ]
            refine takeD (i := 16) (v := .int .i64 2) (some 60) rfl rfl (by kernel_rfl) (by kernel_rfl) (by kernel_rfl) (fun _ _ _ h => h) (Or.inl ⟨by rfl, ?_⟩) hS0 ?_
            · rintro w' _
              go_simp
            try simp only [Act.put, List.setIfInBounds_toArray, List.set_cons_zero, List.set_cons_succ]
            refine takeD (i := 17) (v := .pointer (some ⟨be, 2, none⟩)) (some 61) rfl rfl (by kernel_rfl) (by kernel_rfl) (by kernel_rfl) (fun _ _ _ h => h) (Or.inl ⟨by rfl, ?_⟩) hS0 ?_
            · rintro w' _
              go_simp
            try simp only [Act.put, List.setIfInBounds_toArray, List.set_cons_zero, List.set_cons_succ]
            refine takeD (i := 18) (v := .int .i64 (endsE.getD 2 0)) (some 62) rfl rfl (by kernel_rfl) (by kernel_rfl) (by kernel_rfl) (fun _ _ _ h => h) (Or.inl ⟨by rfl, ?_⟩) hS0 ?_
            · rintro w' (q : endsV w' be)
              have d0 := endsV.at_ q (j := 2) (by have := HJ.out; omega)
              go_simp
            try simp only [Act.put, List.setIfInBounds_toArray, List.set_cons_zero, List.set_cons_succ]
            refine takeD (i := 19) (v := .int .i64 (IntKind.i64.wrap (endsE.getD 2 0 + 2000))) (some 63) rfl rfl (by kernel_rfl) (by kernel_rfl) (by kernel_rfl) (fun _ _ _ h => h) (Or.inl ⟨by rfl, ?_⟩) hS0 ?_
            · rintro w' _
              go_simp
            try simp only [Act.put, List.setIfInBounds_toArray, List.set_cons_zero, List.set_cons_succ]
            refine takeD (i := 20) (v := .agg #[.int .i64 2, .int .i64 (IntKind.i64.wrap (endsE.getD 2 0 + 2000))]) (some 64) rfl rfl (by kernel_rfl) (by kernel_rfl) (by kernel_rfl) (fun _ _ _ h => h) (Or.inl ⟨by rfl, ?_⟩) hS0 ?_
            · rintro w' _
              go_simp
            try simp only [Act.put, List.setIfInBounds_toArray, List.set_cons_zero, List.set_cons_succ]
            obtain ⟨A7, c7, w7, hrun, hO7, hb7⟩ := hOd.more (m := 6) (es := [(0, endsE.getD i 0), (2, endsE.getD i 0), (3, 40), (3, 49), (3, 3), (2, IntKind.i64.wrap (endsE.getD 2 0 + 2000))]) 36 rfl (by have := HI.out; omega) hBd.size
            have hrun : (Builtin.append_ #[36, 36] 36 #[.slice A N c, .slice (some ⟨u.heap.size, 0, none⟩) 6 6]).run Try.prog (u.alloc (.cells #[.int .i64 0, .int .i64 (endsE.getD i 0), .int .i64 2, .int .i64 (endsE.getD i 0), .int .i64 3, .int .i64 40, .int .i64 3, .int .i64 49, .int .i64 3, .int .i64 3, .int .i64 2, .int .i64 (IntKind.i64.wrap (endsE.getD 2 0 + 2000))] 38)) = .ok (.slice A7 (N + 6) c7) w7 := hrun
            have hE7 : endsV w7 be := (HE.out.below hBd HE.out.lt).below hb7 HE.out.lt
            have hE6 : endsV (u.alloc (.cells #[.int .i64 0, .int .i64 (endsE.getD i 0), .int .i64 2, .int .i64 (endsE.getD i 0), .int .i64 3, .int .i64 40, .int .i64 3, .int .i64 49, .int .i64 3, .int .i64 3, .int .i64 2, .int .i64 (IntKind.i64.wrap (endsE.getD 2 0 + 2000))] 38)) be := hS0.below (below_alloc u _) (Vb.lt hS0)
            have HB7 := Kp.mk (hBd.trans hb7)
            have HO7 := Kp.mk hO7
            have HN := Kp.mk (show i + 1 ≤ 13 ∧ N + 6 = 6 * (i + 1) by have := HI.out; omega)
            clear hOd hBd hb7 hO7
            refine wpAnyH_ready (rs := [21]) (by kernel_rfl) (by simp) ?_
            refine AllReadyH.cons rfl (fun K hK => ?_) AllReadyH.nil
            try rw [if_pos (by rfl)]
            go_simp
            refine hK.out _ _ hE6 (fun hS6 => ?_)
            clear hK K hE6
            try simp only [Act.put, List.setIfInBounds_toArray, List.set_cons_zero, List.set_cons_succ]
            refine wpAnyH_ready (rs := [22]) (by kernel_rfl) (by simp) ?_
            refine AllReadyH.cons rfl (fun K hK => ?_) AllReadyH.nil
            try rw [if_pos (by rfl)]
            refine beatOp_append 66 rfl (.tmp 44) (.tmp 65) rfl rfl rfl hrun (hK.out _ _ hE7 (fun hS7 => ?_))
            clear hK K hrun hS6
            try simp only [Act.put, List.setIfInBounds_toArray, List.set_cons_zero, List.set_cons_succ]
            refine takeD (i := 23) (v := .slice A7 (N + 6) c7) (some 4) rfl rfl (by kernel_rfl) (by kernel_rfl) (by kernel_rfl) (fun _ _ _ h => h) (Or.inl ⟨by rfl, ?_⟩) hS7 ?_
            · rintro w' _
              go_simp
            try simp only [Act.put, List.setIfInBounds_toArray, List.set_cons_zero, List.set_cons_succ]
            refine wpAnyH_done (by kernel_rfl) ?_ _
            clear hS0 hS7 hE7
            have hi1 : wrap64 ((i : Int) + 1) = (i : Int) + 1 := by unfold wrap64; omega
            go_wp2_with fail
            go_roundw
            case rel => exact ⟨i + 1, N + 6, c7, A7, _, rfl, by go_num, Kp.mk HN.out, HO7.out, HB7⟩
            case measure => simp [intOf]; omega
          · skip
            have hu : endsV wr.drew be := (HE.out.below HB.out HE.out.lt).below (Below.refl wr.heap.size wr).drew (by have := HE.out.lt; have := HB.out.size; omega)
            have hOd := hO.below (Below.refl wr.heap.size wr).drew
            have hBd := HB.out.trans ((Below.refl wr.heap.size wr).drew.mono HB.out.size)
            clear hO
            go_upto_region 14 with fail
            refine wp_region_held_drew (S := fun X : World => endsV X be) (by kernel_rfl) hu (fun hS0 => ?_)
            clear hu
            generalize wr.drew = u at *
            refine takeD (i := 0) (v := .slice A N c) (some 44) rfl rfl (by kernel_rfl) (by kernel_rfl) (by kernel_rfl) (fun _ _ _ h => h) (Or.inl ⟨by rfl, ?_⟩) hS0 ?_
            · rintro w' _
              go_simp
            try simp only [Act.put, List.setIfInBounds_toArray, List.set_cons_zero, List.set_cons_succ]
            refine takeD (i := 1) (v := .slice (some ⟨be, 0, none⟩) 13 13) (some 45) rfl rfl (by kernel_rfl) (by kernel_rfl) (by kernel_rfl) (fun _ _ _ h => h) (Or.inl ⟨by rfl, ?_⟩) hS0 ?_
            · rintro w' _
              go_simp
            try simp only [Act.put, List.setIfInBounds_toArray, List.set_cons_zero, List.set_cons_succ]
            refine takeD (i := 2) (v := .int .i64 i) (some 46) rfl rfl (by kernel_rfl) (by kernel_rfl) (by kernel_rfl) (fun _ _ _ h => h) (Or.inl ⟨by rfl, ?_⟩) hS0 ?_
            · rintro w' _
              go_simp
            try simp only [Act.put, List.setIfInBounds_toArray, List.set_cons_zero, List.set_cons_succ]
            refine takeD (i := 3) (v := .pointer (some ⟨be, i, none⟩)) (some 47) rfl rfl (by kernel_rfl) (by kernel_rfl) (by kernel_rfl) (fun _ _ _ h => h) (Or.inl ⟨by rfl, ?_⟩) hS0 ?_
            · rintro w' _
              go_simp
            try simp only [Act.put, List.setIfInBounds_toArray, List.set_cons_zero, List.set_cons_succ]
            refine takeD (i := 4) (v := .int .i64 (endsE.getD i 0)) (some 48) rfl rfl (by kernel_rfl) (by kernel_rfl) (by kernel_rfl) (fun _ _ _ h => h) (Or.inl ⟨by rfl, ?_⟩) hS0 ?_
            · rintro w' (q : endsV w' be)
              have d0 := endsV.at_ q (j := i) (by have := HJ.out; omega)
              go_simp
            try simp only [Act.put, List.setIfInBounds_toArray, List.set_cons_zero, List.set_cons_succ]
            refine takeD (i := 5) (v := .agg #[.int .i64 0, .int .i64 (endsE.getD i 0)]) (some 49) rfl rfl (by kernel_rfl) (by kernel_rfl) (by kernel_rfl) (fun _ _ _ h => h) (Or.inl ⟨by rfl, ?_⟩) hS0 ?_
            · rintro w' _
              go_simp
            try simp only [Act.put, List.setIfInBounds_toArray, List.set_cons_zero, List.set_cons_succ]
            refine takeD (i := 6) (v := .slice (some ⟨be, 0, none⟩) 13 13) (some 50) rfl rfl (by kernel_rfl) (by kernel_rfl) (by kernel_rfl) (fun _ _ _ h => h) (Or.inl ⟨by rfl, ?_⟩) hS0 ?_
            · rintro w' _
              go_simp
            try simp only [Act.put, List.setIfInBounds_toArray, List.set_cons_zero, List.set_cons_succ]
            refine takeD (i := 7) (v := .int .i64 i) (some 51) rfl rfl (by kernel_rfl) (by kernel_rfl) (by kernel_rfl) (fun _ _ _ h => h) (Or.inl ⟨by rfl, ?_⟩) hS0 ?_
            · rintro w' _
              go_simp
            try simp only [Act.put, List.setIfInBounds_toArray, List.set_cons_zero, List.set_cons_succ]
            refine takeD (i := 8) (v := .pointer (some ⟨be, i, none⟩)) (some 52) rfl rfl (by kernel_rfl) (by kernel_rfl) (by kernel_rfl) (fun _ _ _ h => h) (Or.inl ⟨by rfl, ?_⟩) hS0 ?_
            · rintro w' _
              go_simp
            try simp only [Act.put, List.setIfInBounds_toArray, List.set_cons_zero, List.set_cons_succ]
            refine takeD (i := 9) (v := .int .i64 (endsE.getD i 0)) (some 53) rfl rfl (by kernel_rfl) (by kernel_rfl) (by kernel_rfl) (fun _ _ _ h => h) (Or.inl ⟨by rfl, ?_⟩) hS0 ?_
            · rintro w' (q : endsV w' be)
              have d0 := endsV.at_ q (j := i) (by have := HJ.out; omega)
              go_simp
            try simp only [Act.put, List.setIfInBounds_toArray, List.set_cons_zero, List.set_cons_succ]
            refine takeD (i := 10) (v := .agg #[.int .i64 2, .int .i64 (endsE.getD i 0)]) (some 54) rfl rfl (by kernel_rfl) (by kernel_rfl) (by kernel_rfl) (fun _ _ _ h => h) (Or.inl ⟨by rfl, ?_⟩) hS0 ?_
            · rintro w' _
              go_simp
            try simp only [Act.put, List.setIfInBounds_toArray, List.set_cons_zero, List.set_cons_succ]
            refine takeD (i := 11) (v := .agg #[.int .i64 3, .int .i64 40]) (some 55) rfl rfl (by kernel_rfl) (by kernel_rfl) (by kernel_rfl) (fun _ _ _ h => h) (Or.inl ⟨by rfl, ?_⟩) hS0 ?_
            · rintro w' _
              go_simp
            try simp only [Act.put, List.setIfInBounds_toArray, List.set_cons_zero, List.set_cons_succ]
            refine takeD (i := 12) (v := .agg #[.int .i64 3, .int .i64 49]) (some 56) rfl rfl (by kernel_rfl) (by kernel_rfl) (by kernel_rfl) (fun _ _ _ h => h) (Or.inl ⟨by rfl, ?_⟩) hS0 ?_
            · rintro w' _
              go_simp
            try simp only [Act.put, List.setIfInBounds_toArray, List.set_cons_zero, List.set_cons_succ]
            refine takeD (i := 13) (v := .agg #[.int .i64 3, .int .i64 3]) (some 57) rfl rfl (by kernel_rfl) (by kernel_rfl) (by kernel_rfl) (fun _ _ _ h => h) (Or.inl ⟨by rfl, ?_⟩) hS0 ?_
            · rintro w' _
              go_simp
            try simp only [Act.put, List.setIfInBounds_toArray, List.set_cons_zero, List.set_cons_succ]
            refine takeD (i := 14) (v := .slice (some ⟨be, 0, none⟩) 13 13) (some 58) rfl rfl (by kernel_rfl) (by kernel_rfl) (by kernel_rfl) (fun _ _ _ h => h) (Or.inl ⟨by rfl, ?_⟩) hS0 ?_
            · rintro w' _
              go_simp
            try simp only [Act.put, List.setIfInBounds_toArray, List.set_cons_zero, List.set_cons_succ]
            refine takeD (i := 15) (v := .int .i64 i) (some 59) rfl rfl (by kernel_rfl) (by kernel_rfl) (by kernel_rfl) (fun _ _ _ h => h) (Or.inl ⟨by rfl, ?_⟩) hS0 ?_
            · rintro w' _
              go_simp
            try simp only [Act.put, List.setIfInBounds_toArray, List.set_cons_zero, List.set_cons_succ]
            refine takeD (i := 16) (v := .int .i64 i) (some 60) rfl rfl (by kernel_rfl) (by kernel_rfl) (by kernel_rfl) (fun _ _ _ h => h) (Or.inl ⟨by rfl, ?_⟩) hS0 ?_
            · rintro w' _
              go_simp
            try simp only [Act.put, List.setIfInBounds_toArray, List.set_cons_zero, List.set_cons_succ]
            refine takeD (i := 17) (v := .pointer (some ⟨be, i, none⟩)) (some 61) rfl rfl (by kernel_rfl) (by kernel_rfl) (by kernel_rfl) (fun _ _ _ h => h) (Or.inl ⟨by rfl, ?_⟩) hS0 ?_
            · rintro w' _
              go_simp
            try simp only [Act.put, List.setIfInBounds_toArray, List.set_cons_zero, List.set_cons_succ]
            refine takeD (i := 18) (v := .int .i64 (endsE.getD i 0)) (some 62) rfl rfl (by kernel_rfl) (by kernel_rfl) (by kernel_rfl) (fun _ _ _ h => h) (Or.inl ⟨by rfl, ?_⟩) hS0 ?_
            · rintro w' (q : endsV w' be)
              have d0 := endsV.at_ q (j := i) (by have := HJ.out; omega)
              go_simp
            try simp only [Act.put, List.setIfInBounds_toArray, List.set_cons_zero, List.set_cons_succ]
            refine takeD (i := 19) (v := .int .i64 (IntKind.i64.wrap (endsE.getD i 0 + 2000))) (some 63) rfl rfl (by kernel_rfl) (by kernel_rfl) (by kernel_rfl) (fun _ _ _ h => h) (Or.inl ⟨by rfl, ?_⟩) hS0 ?_
            · rintro w' _
              go_simp
            try simp only [Act.put, List.setIfInBounds_toArray, List.set_cons_zero, List.set_cons_succ]
            refine takeD (i := 20) (v := .agg #[.int .i64 2, .int .i64 (IntKind.i64.wrap (endsE.getD i 0 + 2000))]) (some 64) rfl rfl (by kernel_rfl) (by kernel_rfl) (by kernel_rfl) (fun _ _ _ h => h) (Or.inl ⟨by rfl, ?_⟩) hS0 ?_
            · rintro w' _
              go_simp
            try simp only [Act.put, List.setIfInBounds_toArray, List.set_cons_zero, List.set_cons_succ]
            obtain ⟨A7, c7, w7, hrun, hO7, hb7⟩ := hOd.more (m := 6) (es := [(0, endsE.getD i 0), (2, endsE.getD i 0), (3, 40), (3, 49), (3, 3), (2, IntKind.i64.wrap (endsE.getD i 0 + 2000))]) 36 rfl (by have := HI.out; omega) hBd.size
            have hrun : (Builtin.append_ #[36, 36] 36 #[.slice A N c, .slice (some ⟨u.heap.size, 0, none⟩) 6 6]).run Try.prog (u.alloc (.cells #[.int .i64 0, .int .i64 (endsE.getD i 0), .int .i64 2, .int .i64 (endsE.getD i 0), .int .i64 3, .int .i64 40, .int .i64 3, .int .i64 49, .int .i64 3, .int .i64 3, .int .i64 2, .int .i64 (IntKind.i64.wrap (endsE.getD i 0 + 2000))] 38)) = .ok (.slice A7 (N + 6) c7) w7 := hrun
            have hE7 : endsV w7 be := (HE.out.below hBd HE.out.lt).below hb7 HE.out.lt
            have hE6 : endsV (u.alloc (.cells #[.int .i64 0, .int .i64 (endsE.getD i 0), .int .i64 2, .int .i64 (endsE.getD i 0), .int .i64 3, .int .i64 40, .int .i64 3, .int .i64 49, .int .i64 3, .int .i64 3, .int .i64 2, .int .i64 (IntKind.i64.wrap (endsE.getD i 0 + 2000))] 38)) be := hS0.below (below_alloc u _) (Vb.lt hS0)
            have HB7 := Kp.mk (hBd.trans hb7)
            have HO7 := Kp.mk hO7
            have HN := Kp.mk (show i + 1 ≤ 13 ∧ N + 6 = 6 * (i + 1) by have := HI.out; omega)
            clear hOd hBd hb7 hO7
            refine wpAnyH_ready (rs := [21]) (by kernel_rfl) (by simp) ?_
            refine AllReadyH.cons rfl (fun K hK => ?_) AllReadyH.nil
            try rw [if_pos (by rfl)]
            go_simp
            refine hK.out _ _ hE6 (fun hS6 => ?_)
            clear hK K hE6
            try simp only [Act.put, List.setIfInBounds_toArray, List.set_cons_zero, List.set_cons_succ]
            refine wpAnyH_ready (rs := [22]) (by kernel_rfl) (by simp) ?_
            refine AllReadyH.cons rfl (fun K hK => ?_) AllReadyH.nil
            try rw [if_pos (by rfl)]
            refine beatOp_append 66 rfl (.tmp 44) (.tmp 65) rfl rfl rfl hrun (hK.out _ _ hE7 (fun hS7 => ?_))
            clear hK K hrun hS6
            try simp only [Act.put, List.setIfInBounds_toArray, List.set_cons_zero, List.set_cons_succ]
            refine takeD (i := 23) (v := .slice A7 (N + 6) c7) (some 4) rfl rfl (by kernel_rfl) (by kernel_rfl) (by kernel_rfl) (fun _ _ _ h => h) (Or.inl ⟨by rfl, ?_⟩) hS7 ?_
            · rintro w' _
              go_simp
            try simp only [Act.put, List.setIfInBounds_toArray, List.set_cons_zero, List.set_cons_succ]
            refine wpAnyH_done (by kernel_rfl) ?_ _
            clear hS0 hS7 hE7
            have hi1 : wrap64 ((i : Int) + 1) = (i : Int) + 1 := by unfold wrap64; omega
            go_wp2_with fail
            go_roundw
            case rel => exact ⟨i + 1, N + 6, c7, A7, _, rfl, by go_num, Kp.mk HN.out, HO7.out, HB7⟩
            case measure => simp [intOf]; omega
        · have HN := Kp.mk HI.out
          have hi13 : ¬ (i : Int) < 13 := hi
          obtain ⟨A7, c7, w7, hrun, hO7, hb7⟩ := hO.more (m := 2) (es := [(1, 0), (3, 9)]) 36 rfl (by have := HI.out; omega) HB.out.size
          have hrun : (Builtin.append_ #[36, 36] 36 #[.slice A N c, .slice (some ⟨wr.heap.size, 0, none⟩) 2 2]).run Try.prog (wr.alloc (.cells #[.int .i64 1, .int .i64 0, .int .i64 3, .int .i64 9] 38)) = .ok (.slice A7 (N + 2) c7) w7 := hrun
          have HD := Kp.mk hO7.dbof
          have HB7 := Kp.mk (HB.out.trans hb7)
          have HE7 := Kp.mk ((HE.out.below HB.out HE.out.lt).below hb7 HE.out.lt)
          clear hO hO7 hb7 HI HN
          go_wp2_with (at_builtin; refine Lib.wpList_append_run _ rfl _ _ _ _ rfl _ _ rfl rfl _ _ hrun ?_)
          clear hrun
          generalize N + 2 = M at *
          go_loopw [6, 7] (fun s6 _ wx => ∃ p : Nat, s6 = .int .i64 p ∧ p ≤ 13 ∧ Kp (Below w7.heap.size w7 wx)) (fun s6 _ _ => 13 - (intOf s6).toNat)
          case atStart => exact ⟨0, rfl, by omega, Kp.mk (Below.refl _ _)⟩
          case round =>
            clear hi hi13
            obtain ⟨p, rfl, hp, HP⟩ := hrel
            by_cases hp13 : (p : Int) < 13
            · have hp1 : wrap64 ((p : Int) + 1) = (p : Int) + 1 := by unfold wrap64; omega
              have HPN := Kp.mk (show p + 1 ≤ 13 ∧ ((p + 1 : Nat) : Int) = (p : Int) + 1 ∧ p < 13 by omega)
              go_wp2_with fail
              go_loopw [7] (fun s7 wx => ∃ q : Nat, s7 = .int .i64 q ∧ q ≤ 13 ∧ Kp (Below w7.heap.size w7 wx)) (fun s7 _ => 13 - (intOf s7).toNat)
              case atStart => exact ⟨0, by go_num, by omega, HP⟩
              case round =>
                clear HP
                obtain ⟨q, rfl, hq, HQ⟩ := hrel
                by_cases hq13 : (q : Int) < 13
                · have hq1 : wrap64 ((q : Int) + 1) = (q : Int) + 1 := by unfold wrap64; omega
                  have HQN := Kp.mk (show q + 1 ≤ 13 ∧ ((q + 1 : Nat) : Int) = (q : Int) + 1 ∧ q < 13 by omega)
                  have hBd := HQ.out.trans ((Below.refl wr.heap.size wr).drew.mono HQ.out.size)
                  have hu : endsV wr.drew be := HE7.out.below hBd (Vb.lt HE7.out)
                  go_upto_region 22 with fail
                  refine wp_region_held_drew (S := fun X : World => endsV X be) (by kernel_rfl) hu (fun hS0 => ?_)
                  clear hu
                  generalize wr.drew = u at *
                  refine takeD (i := 0) (v := .slice (some ⟨be, 0, none⟩) 13 13) (some 84) rfl rfl (by kernel_rfl) (by kernel_rfl) (by kernel_rfl) (fun _ _ _ h => h) (Or.inl ⟨by rfl, ?_⟩) hS0 ?_
                  · rintro w' _
                    go_simp
                  try simp only [Act.put, List.setIfInBounds_toArray, List.set_cons_zero, List.set_cons_succ]
                  refine takeD (i := 1) (v := .int .i64 p) (some 85) rfl rfl (by kernel_rfl) (by kernel_rfl) (by kernel_rfl) (fun _ _ _ h => h) (Or.inl ⟨by rfl, ?_⟩) hS0 ?_
                  · rintro w' _
                    go_simp
                  try simp only [Act.put, List.setIfInBounds_toArray, List.set_cons_zero, List.set_cons_succ]
                  refine takeD (i := 2) (v := .pointer (some ⟨be, p, none⟩)) (some 86) rfl rfl (by kernel_rfl) (by kernel_rfl) (by kernel_rfl) (fun _ _ _ h => h) (Or.inl ⟨by rfl, ?_⟩) hS0 ?_
                  · rintro w' _
                    go_simp
                  try simp only [Act.put, List.setIfInBounds_toArray, List.set_cons_zero, List.set_cons_succ]
                  refine takeD (i := 3) (v := .int .i64 (endsE.getD p 0)) (some 87) rfl rfl (by kernel_rfl) (by kernel_rfl) (by kernel_rfl) (fun _ _ _ h => h) (Or.inl ⟨by rfl, ?_⟩) hS0 ?_
                  · rintro w' (z : endsV w' be)
                    have d0 := endsV.at_ z (j := p) (by have := HPN.out; omega)
                    go_simp
                  try simp only [Act.put, List.setIfInBounds_toArray, List.set_cons_zero, List.set_cons_succ]
                  refine takeD (i := 4) (v := .slice (some ⟨be, 0, none⟩) 13 13) (some 88) rfl rfl (by kernel_rfl) (by kernel_rfl) (by kernel_rfl) (fun _ _ _ h => h) (Or.inl ⟨by rfl, ?_⟩) hS0 ?_
                  · rintro w' _
                    go_simp
                  try simp only [Act.put, List.setIfInBounds_toArray, List.set_cons_zero, List.set_cons_succ]
                  refine takeD (i := 5) (v := .int .i64 q) (some 89) rfl rfl (by kernel_rfl) (by kernel_rfl) (by kernel_rfl) (fun _ _ _ h => h) (Or.inl ⟨by rfl, ?_⟩) hS0 ?_
                  · rintro w' _
                    go_simp
                  try simp only [Act.put, List.setIfInBounds_toArray, List.set_cons_zero, List.set_cons_succ]
                  refine takeD (i := 6) (v := .pointer (some ⟨be, q, none⟩)) (some 90) rfl rfl (by kernel_rfl) (by kernel_rfl) (by kernel_rfl) (fun _ _ _ h => h) (Or.inl ⟨by rfl, ?_⟩) hS0 ?_
                  · rintro w' _
                    go_simp
                  try simp only [Act.put, List.setIfInBounds_toArray, List.set_cons_zero, List.set_cons_succ]
                  refine takeD (i := 7) (v := .int .i64 (endsE.getD q 0)) (some 91) rfl rfl (by kernel_rfl) (by kernel_rfl) (by kernel_rfl) (fun _ _ _ h => h) (Or.inl ⟨by rfl, ?_⟩) hS0 ?_
                  · rintro w' (z : endsV w' be)
                    have d0 := endsV.at_ z (j := q) (by have := HQN.out; omega)
                    go_simp
                  try simp only [Act.put, List.setIfInBounds_toArray, List.set_cons_zero, List.set_cons_succ]
                  refine takeD (i := 8) (v := .slice A7 M c7) (some 92) rfl rfl (by kernel_rfl) (by kernel_rfl) (by kernel_rfl) (fun _ _ _ h => h) (Or.inl ⟨by rfl, ?_⟩) hS0 ?_
                  · rintro w' _
                    go_simp
                  try simp only [Act.put, List.setIfInBounds_toArray, List.set_cons_zero, List.set_cons_succ]
                  have hDu := (HD.out.below hBd).wide hBd.size
                  refine wpAnyH_ready (rs := [9]) (by kernel_rfl) (by simp) ?_
                  refine AllReadyH.cons rfl (fun K hK => ?_) AllReadyH.nil
                  try rw [if_pos (by rfl)]
                  go_simp
                  go_at_call 15
                  refine (beatPlays_any (endsE.getD p 0) (endsE.getD q 0) hDu).mono ?_
                  rintro e u1 ⟨rfl, hb1⟩
                  have hS1 : endsV u1 be := hS0.below hb1 (Vb.lt hS0)
                  have HB1 := Kp.mk (hBd.trans (hb1.mono hBd.size))
                  clear hDu hb1 hBd
                  refine hK.out _ _ hS1 (fun hS2 => ?_)
                  clear hK K hS1 hS0
                  try simp only [Act.put, List.setIfInBounds_toArray, List.set_cons_zero, List.set_cons_succ]
                  refine takeD (i := 10) (v := .bool false) (some 94) rfl rfl (by kernel_rfl) (by kernel_rfl) (by kernel_rfl) (fun _ _ _ h => h) (Or.inl ⟨by rfl, ?_⟩) hS2 ?_
                  · rintro w' _
                    go_simp
                  try simp only [Act.put, List.setIfInBounds_toArray, List.set_cons_zero, List.set_cons_succ]
                  refine wpAnyH_done (by kernel_rfl) ?_ _
                  clear hS2
                  go_wp2_with fail
                  go_roundw
                  case rel => exact ⟨q + 1, by rw [HQN.out.2.1], HQN.out.1, HB1⟩
                  case measure => have := HQN.out; simp [intOf]; omega
                · clear hq
                  go_wp2_with fail
                  go_roundw
                  case rel => exact ⟨p + 1, by rw [HPN.out.2.1], HPN.out.1, HQ⟩
                  case measure => have := HPN.out; simp [intOf]; omega
            · clear hp
              have hW := works_any wr
              go_wp2_with fail
              refine hW.mono ?_
              rintro e w9 ⟨rfl, hb⟩
              have HO := Kp.mk (show Below W.heap.size W w9 from (HBE.out.trans ((HB7.out.trans (HP.out.mono HB7.out.size)).mono HBE.out.size)).trans (hb.mono (Nat.le_trans HBE.out.size (Nat.le_trans HB7.out.size HP.out.size))))
              clear hb hW
              go_wp2_with fail
              go_ret
              exact ⟨rfl, HO.out⟩
end Go.Proofs.Ytklbkpnbkpoomaa.Oct
