/- Rows of ports, and the walk of GroupFirst. -/
import Derived.Test.YtlambnlehomkdaaGrpE
import Derived.Test.YtlambnlehomkdaaGrpX
import Derived.Deep.CutRange
namespace Go.Proofs.Ytlambnlehomkdaa.Oct
open Go.RowKit
open Go.Proofs.Ytlambnlehomkdaa.Ser (bringP bring_any bringP_bd)
set_option linter.unusedVariables false
set_option linter.unusedSimpArgs false

theorem tmod_nat (a b : Nat) : (a : Int).tmod (b : Int) = ((a % b : Nat) : Int) := by
  rw [Int.tmod_eq_emod_of_nonneg (by omega)]
  omega
theorem tdiv_nat (a b : Nat) : (a : Int).tdiv (b : Int) = ((a / b : Nat) : Int) := by
  rw [Int.tdiv_eq_ediv_of_nonneg (by omega)]
  omega
theorem perm_step {out lf : List Int} {k : Nat} (hk : k < lf.length) (h : (out ++ lf).Perm [1, 2, 3, 4]) : ((out ++ [lf.getD k 0]) ++ (lf.take k ++ lf.drop (k + 1))).Perm [1, 2, 3, 4] := by
  refine List.Perm.trans ?_ h
  rw [List.append_assoc]
  refine List.Perm.append_left out ?_
  have e : lf = lf.take k ++ (lf.getD k 0 :: lf.drop (k + 1)) := by rw [← drop_step hk, List.take_append_drop]
  have h1 : ([lf.getD k 0] ++ (lf.take k ++ lf.drop (k + 1))).Perm (lf.take k ++ (lf.getD k 0 :: lf.drop (k + 1))) := by
    rw [List.singleton_append]
    exact List.perm_middle.symm
  rw [← e] at h1
  exact h1
theorem perm_ports {out lf : List Int} (h : (out ++ lf).Perm [1, 2, 3, 4]) : out.Nodup ∧ (∀ p ∈ out, 1 ≤ p ∧ p ≤ 4) ∧ ∃ t, newG 0 out = some t ∧ Sg t ∧ ∀ p ∈ out, bitG t p = true := by
  have hn : (out ++ lf).Nodup := h.nodup_iff.2 (by decide)
  have h1 : out.Nodup := (List.nodup_append.1 hn).1
  have h2 : ∀ p ∈ out, 1 ≤ p ∧ p ≤ 4 := fun p hp => by
    have : p ∈ [1, 2, 3, (4 : Int)] := h.mem_iff.1 (List.mem_append_left _ hp)
    simp at this
    omega
  obtain ⟨t, ht⟩ := newG_ok out (s := 0) ⟨by omega, by omega⟩ h2 h1 (fun p hp => bit_zero (h2 p hp))
  obtain ⟨h3, _, h4⟩ := newG_some out ⟨by omega, by omega⟩ ht
  exact ⟨h1, h2, t, ht, h3, fun p hp => by rw [h4 p (h2 p hp), decide_eq_true hp, Bool.or_true]⟩
/-- The end of a slice, behind its place k. -/
theorem Rd.rear {w : World} {B g L c o : Nat} {l : List Int} (h : Rd .i64 w B (some ⟨g, 0, none⟩) L c l) (k : Nat) (hk : k < L) (ho : o = k + 1 ∨ L = k + 1) : Rd .i64 w B (some ⟨g, o, none⟩) (L - (k + 1)) (c - (k + 1)) (l.drop (k + 1)) := by
  refine ⟨by rw [List.length_drop, h.len], by have := h.le; omega, by have := h.cap; omega, fun e => by simp at e, fun hn => ?_⟩
  obtain ⟨b, off, e, hb, hc⟩ := h.at_ (by omega)
  have e := Option.some.inj e
  injection e with e1 e2 _
  subst e1 e2
  refine ⟨g, o, rfl, hb, fun j hj => ?_⟩
  rcases ho with rfl | h2
  · have := hc (k + 1 + j) (by omega)
    rw [Nat.zero_add] at this
    rw [this, List.getD_eq_getElem?_getD, List.getD_eq_getElem?_getD, List.getElem?_drop]
  · omega
theorem Rd.fore' {k : IntKind} {w : World} {B n c : Nat} {A : Option Addr} {l : List Int} (h : Rd k w B A n c l) (m : Nat) (hm : m ≤ n) : Rd k w B A m c (l.take m) :=
  ⟨by rw [List.length_take, h.len]; omega, by have := h.le; omega, h.cap, h.2.2.2.1, fun hn => by
    obtain ⟨b, off, e, hb, hc⟩ := h.at_ (by omega)
    refine ⟨b, off, e, hb, fun j hj => ?_⟩
    rw [hc j (by omega), List.getD_eq_getElem?_getD, List.getD_eq_getElem?_getD, List.getElem?_take_of_lt hj]⟩
set_option maxRecDepth 100000 in
set_option maxHeartbeats 8000000 in
theorem grows_any (tn mn : Int) (w : World) : Calls Try.prog 53 #[.int .i64 tn, .int .i64 mn] w fun e w' => ∃ (A : Option Addr) (M c : Nat) (ps lf : List Int), e = .returned (.slice A M c) ∧ Oi w' w.heap.size (.slice A M c) M ps ∧ M ≤ 4 ∧ (ps ++ lf).Perm [1, 2, 3, 4] ∧ Below w.heap.size w w' := by
  have hb0 := below_alloc w (.cells #[.int .i64 1, .int .i64 2, .int .i64 3, .int .i64 4] 3)
  have hl0 : Oi (w.alloc (.cells #[.int .i64 1, .int .i64 2, .int .i64 3, .int .i64 4] 3)) w.heap.size (.slice (some ⟨w.heap.size, 0, none⟩) 4 4) 4 [1, 2, 3, 4] := Oi.lit w [1, 2, 3, 4] w.heap.size (Nat.le_refl _) (by simp [maxLen])
  have ho0 := Oi.nil (w.alloc (.cells #[.int .i64 1, .int .i64 2, .int .i64 3, .int .i64 4] 3)) w.heap.size
  have hbd := bringP_bd tn 24 (by omega)
  have hbm := bringP_bd mn 5 (by omega)
  obtain ⟨nn, hnn⟩ : ∃ x : Nat, bringP tn 24 = x := ⟨(bringP tn 24).toNat, by omega⟩
  obtain ⟨M, hM⟩ : ∃ x : Nat, bringP mn 5 = x := ⟨(bringP mn 5).toNat, by omega⟩
  have HM := Kp.mk hM
  have hM4 : M ≤ 4 := by omega
  go_enter Try.func53, Try.ntmps53
  go_upto_region 3 with fail
  generalize (w.alloc (.cells #[.int .i64 1, .int .i64 2, .int .i64 3, .int .i64 4] 3)) = w0 at *
  generalize (Value.slice (some ⟨w.heap.size, 0, none⟩) 4 4) = v0 at *
  go_wp2_with (refine (bring_any tn 24 _ (by omega) (by omega)).mono ?_; rintro e w1 ⟨rfl, rfl⟩; rw [hnn])
  have hq : nn < 24 := by omega
  clear hnn hbd hbm hM
  go_loopw [5, 6, 7, 8] (fun s5 s6 s7 s8 wr => ∃ (i m : Nat) (lf out : List Int), s8 = .int .i64 i ∧ i ≤ M ∧ s7 = .int .i64 m ∧ m < 24 ∧ Oi wr w.heap.size s5 (4 - i) lf ∧ Oi wr w.heap.size s6 i out ∧ Kp (∀ k, s5.ownBlock = some k → s6.ownBlock ≠ some k) ∧ Kp ((out ++ lf).Perm [1, 2, 3, 4]) ∧ Below w.heap.size w wr) (fun _ _ _ s8 _ => 4 - (intOf s8).toNat)
  case atStart => exact ⟨0, nn, [1, 2, 3, 4], [], rfl, Nat.zero_le _, rfl, hq, hl0, ho0, Kp.mk (fun k _ => by simp [Value.ownBlock]), Kp.mk (List.Perm.refl _), hb0⟩
  case round =>
    clear hl0 ho0 hb0 hq
    obtain ⟨i, m, lf, out, rfl, hi, rfl, hm, hL, hO, HA, HP, hB⟩ := hrel
    have hbr := bring_any mn 5 wr (by omega) (by omega)
    rw [HM.out] at hbr
    by_cases hlt : i < M
    · obtain ⟨L, hLe⟩ : ∃ L, L = 4 - i := ⟨_, rfl⟩
      rw [← hLe] at hL
      have HLE := Kp.mk hLe
      have hLp : 0 < L := by omega
      have hL4 : L ≤ 4 := by omega
      clear hLe
      obtain ⟨g, c, rfl, hg1, hg2, hlc, hcm, hcell⟩ := hL.at_ hLp
      have hne0 : ((L : Int) == 0) = false := by simp; omega
      have hne1 : ¬ (L : Int) = 0 := by omega
      have hmod := tmod_nat m L
      have hdiv := tdiv_nat m L
      have hkl : m % L < L := Nat.mod_lt _ hLp
      have hdl : m / L < 24 := Nat.lt_of_le_of_lt (Nat.div_le_self _ _) hm
      obtain ⟨k, hk⟩ : ∃ k, k = m % L := ⟨_, rfl⟩
      obtain ⟨m2, hm2⟩ : ∃ k, k = m / L := ⟨_, rfl⟩
      rw [← hk] at hmod hkl
      rw [← hm2] at hdiv hdl
      clear hk hm2
      obtain ⟨d1, _⟩ := hcell k hkl
      have hj1 : (k : Int) < L := by omega
      have HPS := Kp.mk (perm_step (k := k) (by rw [hL.len]; exact hkl) HP.out)
      clear hcell
      generalize lf.getD k 0 = x at *
      have hb6 := below_alloc wr (.cells #[.int .i64 x] 3)
      have hr6 : Rd .i64 (wr.alloc (.cells #[.int .i64 x] 3)) (wr.heap.size + 1) (some ⟨wr.heap.size, 0, none⟩) 1 1 [x] := rd_lit .i64 wr 3 [x] (by simp [maxLen]) (wr.heap.size + 1) (by omega)
      have hO6 := hO.below hb6
      have hL6 := hL.below hb6
      have hB6 := hB.trans (hb6.mono hB.size)
      obtain ⟨A7, c7, w7, hrun, hO7, hb7, hg7, hN7⟩ := run_appendI 71 hO6 hr6 (by omega) hB6.size
      have hL7 := hL6.grown hg7 (by
        cases hov : u6.ownBlock with
        | none => exact .inr (by simp [Value.ownBlock])
        | some q => exact .inr (fun e => HA.out g rfl (by rw [hov, ← e]; rfl)))
      have hB7 := hB6.trans hb7
      have HO7 := Kp.mk hO7
      have HOB := Kp.mk (show ∀ q, (Value.slice A7 (i + 1) c7).ownBlock = some q → q < w7.heap.size from fun q hq => (hO7.lt q hq).2)
      clear hb6 hr6 hO6 hL6 hB6 hO7 hb7 hg7 hN7 hL hO hg1 hg2 HA HP
      go_upto_region 10 with (first | (refine hbr.mono ?_; rintro e w' ⟨rfl, rfl⟩) | (at_builtin; refine Lib.wpList_append_run _ rfl _ _ _ _ rfl _ _ rfl rfl _ _ hrun ?_))
      clear hrun d1 hbr
      have hB8 := Kp.mk hB7.drew
      have hL8 := hL7.below (Below.refl w7.heap.size w7).drew
      have hO8 := Kp.mk (HO7.out.below (Below.refl w7.heap.size w7).drew)
      have HZ8 := Kp.mk (show w7.heap.size = w7.drew.heap.size from rfl)
      clear hL7 HO7 hB7
      have hS0 : (fun _ : World => True) w7.drew := trivial
      refine wp_region_held_drew (S := fun _ => True) (by kernel_rfl) hS0 (fun _ => ?_)
      generalize w7.drew = u0 at *
      obtain ⟨o2, ho2⟩ : ∃ o2 : Nat, o2 = if c = k + 1 then 0 else k + 1 := ⟨_, rfl⟩
      have HO2 := Kp.mk (show o2 = k + 1 ∨ L = k + 1 from by
        rw [ho2]
        split
        · right; omega
        · left; rfl)
      refine takeD (i := 1) (v := .slice (some ⟨g, 0, none⟩) L c) (some 35) rfl rfl (by kernel_rfl) (by kernel_rfl) (by kernel_rfl) (fun _ _ _ h => h) (Or.inl ⟨by rfl, ?_⟩) hS0 ?_
      · rintro w' _
        go_simp
      try simp only [Act.put, List.setIfInBounds_toArray, List.set_cons_zero, List.set_cons_succ]
      refine takeD (i := 2) (v := .int .i64 k) (some 36) rfl rfl (by kernel_rfl) (by kernel_rfl) (by kernel_rfl) (fun _ _ _ h => h) (Or.inl ⟨by rfl, ?_⟩) hS0 ?_
      · rintro w' _
        go_simp
      try simp only [Act.put, List.setIfInBounds_toArray, List.set_cons_zero, List.set_cons_succ]
      refine takeD (i := 3) (v := .slice (some ⟨g, 0, none⟩) k c) (some 37) rfl rfl (by kernel_rfl) (by kernel_rfl) (by kernel_rfl) (fun _ _ _ h => h) (Or.inl ⟨by rfl, ?_⟩) hS0 ?_
      · rintro w' _
        go_simp
        intro hx
        exfalso
        omega
      try simp only [Act.put, List.setIfInBounds_toArray, List.set_cons_zero, List.set_cons_succ]
      refine takeD (i := 5) (v := .slice (some ⟨g, 0, none⟩) L c) (some 39) rfl rfl (by kernel_rfl) (by kernel_rfl) (by kernel_rfl) (fun _ _ _ h => h) (Or.inl ⟨by rfl, ?_⟩) hS0 ?_
      · rintro w' _
        go_simp
      try simp only [Act.put, List.setIfInBounds_toArray, List.set_cons_zero, List.set_cons_succ]
      refine takeD (i := 6) (v := .int .i64 k) (some 40) rfl rfl (by kernel_rfl) (by kernel_rfl) (by kernel_rfl) (fun _ _ _ h => h) (Or.inl ⟨by rfl, ?_⟩) hS0 ?_
      · rintro w' _
        go_simp
      try simp only [Act.put, List.setIfInBounds_toArray, List.set_cons_zero, List.set_cons_succ]
      refine takeD (i := 7) (v := .int .i64 ((k : Int) + 1)) (some 41) rfl rfl (by kernel_rfl) (by kernel_rfl) (by kernel_rfl) (fun _ _ _ h => h) (Or.inl ⟨by rfl, ?_⟩) hS0 ?_
      · rintro w' _
        go_simp
        rw [IntKind.wrap_i64]
        omega
      try simp only [Act.put, List.setIfInBounds_toArray, List.set_cons_zero, List.set_cons_succ]
      refine takeD (i := 8) (v := .slice (some ⟨g, o2, none⟩) (L - (k + 1)) (c - (k + 1))) (some 42) rfl rfl (by kernel_rfl) (by kernel_rfl) (by kernel_rfl) (fun _ _ _ h => h) (Or.inl ⟨by rfl, ?_⟩) hS0 ?_
      · rintro w' _
        rw [ho2]
        by_cases hck : c = k + 1
        · rw [if_pos hck]
          go_simp
          intro hx
          exfalso
          have := hx (by omega)
          omega
        · rw [if_neg hck]
          go_simp
          intro hx
          exfalso
          have := hx (by omega)
          omega
      try simp only [Act.put, List.setIfInBounds_toArray, List.set_cons_zero, List.set_cons_succ]
      clear ho2
      refine wpAnyH_ready (rs := [0]) (by kernel_rfl) (by simp) ?_
      refine AllReadyH.cons rfl (fun K hK => ?_) AllReadyH.nil
      go_simp
      refine hK.out _ _ trivial (fun _ => ?_)
      clear hK K
      try simp only [Act.put, List.setIfInBounds_toArray, List.set_cons_zero, List.set_cons_succ]
      have hb9 := below_alloc u0 (.cells #[] 3)
      have hE9 : Oi (u0.alloc (.cells #[] 3)) u0.heap.size (.slice (some ⟨u0.heap.size, 0, none⟩) 0 0) 0 [] := World.ownsRow_made u0 #[] 0 (Nat.le_refl _) (Nat.zero_le _) rfl
      have hL9 := hL8.below hb9
      have hz9 : u0.heap.size ≤ (u0.alloc (.cells #[] 3)).heap.size := hb9.size
      obtain ⟨A10, c10, w10, hrun, hE10, hb10, hg10, hN10⟩ := run_appendI 71 hE9 (hL9.rd.fore' k (by omega)) (by omega) hz9
      rw [Nat.zero_add] at hrun hE10
      refine wpAnyH_ready (rs := [4]) (by kernel_rfl) (by simp) ?_
      refine AllReadyH.cons rfl (fun K hK => ?_) AllReadyH.nil
      try rw [if_pos (by rfl)]
      refine Lib.wp_append_run _ (.tmp 34) (.tmp 37) _ _ rfl _ _ rfl rfl _ _ hrun (hK.out _ _ trivial (fun _ => ?_))
      clear hK K hrun
      try simp only [Act.put, List.setIfInBounds_toArray, List.set_cons_zero, List.set_cons_succ]
      have hb11 := hb9.trans hb10
      have hL11 := hL8.below hb11
      clear hL9 hb9 hb10 hg10 hN10 hE9
      obtain ⟨A12, c12, w12, hrun, hE12, hb12, hg12, hN12⟩ := run_appendI 71 hE10 (hL11.rd.rear k hkl HO2.out) (by omega) hb11.size
      rw [show k + (L - (k + 1)) = 3 - i by have := HLE.out; omega] at hrun hE12
      refine wpAnyH_ready (rs := [9]) (by kernel_rfl) (by simp) ?_
      refine AllReadyH.cons rfl (fun K hK => ?_) AllReadyH.nil
      try rw [if_pos (by rfl)]
      refine Lib.wp_append_run _ (.tmp 38) (.tmp 42) _ _ rfl _ _ rfl rfl _ _ hrun (hK.out _ _ trivial (fun _ => ?_))
      clear hK K hrun
      try simp only [Act.put, List.setIfInBounds_toArray, List.set_cons_zero, List.set_cons_succ]
      refine takeD (i := 10) (v := .slice A12 (3 - i) c12) (some 5) rfl rfl (by kernel_rfl) (by kernel_rfl) (by kernel_rfl) (fun _ _ _ h => h) (Or.inl ⟨by rfl, ?_⟩) hS0 ?_
      · rintro w' _
        go_simp
      try simp only [Act.put, List.setIfInBounds_toArray, List.set_cons_zero, List.set_cons_succ]
      refine wpAnyH_done (by kernel_rfl) ?_ _
      have hb13 := hb11.trans hb12
      have HB13 := Kp.mk (hB8.out.trans (hb13.mono hB8.out.size))
      have HO13 := Kp.mk (hO8.out.below hb13)
      have HL13 := Kp.mk (hE12.lower hB8.out.size)
      have HA13 := Kp.mk (show ∀ q, (Value.slice A12 (3 - i) c12).ownBlock = some q → (Value.slice A7 (i + 1) c7).ownBlock ≠ some q from fun q hq e => by have h1 := (hE12.lt q hq).1; have h2 := HOB.out q e; have := HZ8.out; omega)
      clear hb11 hb12 hb13 hE12 hE10 hL8 hL11 hO8 hB8 hg12 hN12 hz9 hS0
      go_wp2_with fail
      go_roundw
      case rel => exact ⟨i + 1, m2, lf.take k ++ lf.drop (k + 1), out ++ [x], by go_num, by omega, rfl, hdl, by (first | (rw [show 4 - (i + 1) = 3 - i from by omega]; exact HL13.out) | exact HL13.out), HO13.out, HA13, HPS, HB13.out⟩
      case measure => simp [intOf]; omega
    · obtain rfl : i = M := by omega
      obtain ⟨A, c, rfl, _⟩ := hO.form
      have HO := Kp.mk hO
      clear hO hL
      go_wp2_with (refine hbr.mono ?_; rintro e w' ⟨rfl, rfl⟩)
      go_ret
      exact ⟨A, i, c, out, lf, rfl, HO.out, hM4, HP.out, hB⟩
end Go.Proofs.Ytlambnlehomkdaa.Oct
