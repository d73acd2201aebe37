/- Contracts of layer 13 (sender): slices.Delete of the first messages; ahead; Heard. -/
import Derived.Test.YtkpjnikbcgngbaaSndD
import Derived.Shelf.RegionOpenPlain
import Derived.BigQuiet
import Derived.Deep.QuietTactic
namespace Go.Proofs.Ytkpjnikbcgngbaa.Oct
open Go.RowKit
set_option linter.unusedVariables false
set_option linter.unusedSimpArgs false
section
variable {w w' : World} {n c : Nat} {A : Option Addr} {fs : List FrV}
set_option maxRecDepth 100000 in
set_option maxHeartbeats 4000000 in
theorem sdelete_any (h : Qf w A n c fs) (k : Nat) (hk : k ≤ n) : Calls Try.prog 38 #[.slice A n c, .int .i64 0, .int .i64 k] w fun e w' => e = .returned (.slice A (n - k) c) ∧ Qf w' A (n - k) c (fs.drop k) ∧ Ch (fun x => (Value.slice A n c).ownBlock = some x) w w' := by
  have hle := h.le
  have hmx := h.max
  have mixed : Try.prog.follows .mixedOrders = true := by kernel_rfl
  by_cases h0 : k = 0
  · subst h0
    have H0 := Kp.mk h
    have b1 : (0 : Int) ≤ (n : Int) := by omega
    have b2 : (n : Int) ≤ (c : Int) := by omega
    have b3 : (0 : Int) ≤ (c : Int) := by omega
    clear h hk
    go_enter Try.func38, Try.ntmps38
    go_wp2_with fail
    go_ret
    exact ⟨rfl, by simpa using H0.out, Ch.refl _ _⟩
  · rcases A with _ | ⟨g, off, sp⟩
    · have := h.nil rfl; omega
    obtain ⟨g', off', cs, e, -⟩ := h.ex _ rfl
    injection e with e1 e2 e3
    subst e1 e2 e3
    have hd : Qf w.drew (some ⟨g, off, none⟩) n c fs := h.below (below_drewN (Below.refl _ _) 1)
    have b1 : (0 : Int) ≤ (n : Int) := by omega
    have b2 : (n : Int) ≤ (c : Int) := by omega
    have b3 : (k : Int) ≤ (n : Int) := by omega
    have b4 : (k : Int) ≤ (c : Int) := by omega
    have b5 : (0 : Int) ≤ (k : Int) := by omega
    have b6 : ¬ ((0 : Int) = (k : Int)) := by omega
    have b7 : (n : Int) - k = ((n - k : Nat) : Int) := by omega
    have b8 : (n - k : Nat) ≤ (c : Nat) := by omega
    have b9 : n - (n - k) = k := by omega
    have b10 : ¬ (c = n - k) := by omega
    have b11 : ((n - k : Nat) : Int) ≤ (n : Int) := by omega
    by_cases hck : c = k
    · obtain rfl : n = k := by omega
      subst hck
      obtain ⟨w1, w2, hrun1, hrun2, hQ, hC⟩ := hd.dels _ (by omega) (Nat.le_refl _) 0 off (fun h => absurd h (by omega)) 51 0
      have HQ := Kp.mk hQ
      have HC := Kp.mk ((Ch.of_below (S := fun x => (Value.slice (some ⟨g, off, none⟩) 0 0).ownBlock = some x) (below_drewN (Below.refl w.heap.size w) 1)).trans hC (fun x _ e => by rw [e]; rfl))
      simp only [Nat.sub_self, Nat.add_zero, Nat.sub_zero] at *
      clear h hd hQ hC hk
      go_enter Try.func38, Try.ntmps38
      go_wp2_with fail
      go_region_law_o (refine step_append_F rfl _ _ 51 51 rfl _ _ (by simp [Act.eval, Act.put]) (by simp [Act.eval, Act.put]) hrun1 ?_)
      go_wp2_with (at_builtin; refine wpList_clear_F _ rfl _ _ rfl _ rfl hrun2 ?_)
      go_ret
      exact ⟨rfl, HQ.out, HC.out⟩
    · obtain ⟨w1, w2, hrun1, hrun2, hQ, hC⟩ := hd.dels k (by omega) hk (c - k) (off + k) (fun h => ⟨rfl, rfl⟩) 51 0
      have HQ := Kp.mk hQ
      have HC := Kp.mk ((Ch.of_below (S := fun x => (Value.slice (some ⟨g, off, none⟩) n c).ownBlock = some x) (below_drewN (Below.refl w.heap.size w) 1)).trans hC (fun x _ e => by rw [e]; rfl))
      clear h hd hQ hC hk
      go_enter Try.func38, Try.ntmps38
      go_wp2_with fail
      go_region_law_o (refine step_append_F rfl _ _ 51 51 rfl _ _ (by simp [Act.eval, Act.put]) (by simp [Act.eval, Act.put]) hrun1 ?_)
      go_wp2_with (at_builtin; refine wpList_clear_F _ rfl _ _ rfl _ rfl hrun2 ?_)
      go_ret
      exact ⟨rfl, HQ.out, HC.out⟩
end
section
variable {P : Nat → Prop} {w w' : World} {s c wd said all : Nat} {nx : Int} {r : Option Nat} {ms : List (List Int)}
/-- How many of those that were said are ahead of ack; -1 if none is. -/
def ackP (nx : Int) (said : Nat) (ack : Int) : Int := if 0 ≤ ack ∧ ack ≤ 65535 then Ser.atP nx (said + 1) ack else -1
theorem ackP_bd (nx : Int) (said : Nat) (ack : Int) : -1 ≤ ackP nx said ack ∧ ackP nx said ack ≤ said := by
  unfold ackP Ser.atP
  split
  · split <;> omega
  · omega
set_option maxRecDepth 100000 in
set_option maxHeartbeats 4000000 in
theorem sahead_any (h : Sp P w s c wd nx said all r ms) (ack : Int) : Calls Try.prog 37 #[.pointer (some ⟨s, 0, none⟩), .int .i64 ack] w fun e w' => e = .returned (.int .i64 (ackP nx said ack)) ∧ Below w.heap.size w w' := by
  have hn := sNumber_any ack w
  by_cases hx : 0 ≤ ack ∧ ack ≤ 65535
  · rw [decide_eq_true hx] at hn
    rw [show ackP nx said ack = Ser.atP nx (said + 1) ack from if_pos hx]
    have hw1 : IntKind.u16.wrap ack = ack := by rw [IntKind.wrap_u16]; omega
    have hw2 : IntKind.i64.wrap ((said : Int) + 1) = (said : Int) + 1 := by have := h.fit; rw [IntKind.wrap_i64]; omega
    have H := Kp.mk h
    have HX := Kp.mk hx
    clear h hx
    go_enter Try.func37, Try.ntmps37
    go_upto_region 3 with (first | (refine hn.mono ?_; rintro e w1 ⟨rfl, rfl⟩))
    refine wp_region_held_drew (S := fun X => Below w1.heap.size w1 X) (by kernel_rfl) ((Below.refl _ _).drew) (fun hS0 => ?_)
    generalize w1.drew = u at *
    refine takeD (i := 0) (v := .pointer (some ⟨s, 0, none⟩)) (some 9) rfl rfl (by kernel_rfl) (by kernel_rfl) (by kernel_rfl) (fun _ _ _ h => h) (Or.inl ⟨by rfl, ?_⟩) hS0 ?_
    · rintro w' hq
      go_simp
    try simp only [Act.put, List.setIfInBounds_toArray, List.set_cons_zero, List.set_cons_succ]
    refine takeD (i := 1) (v := .pointer (some ⟨s, 0, none⟩)) (some 10) rfl rfl (by kernel_rfl) (by kernel_rfl) (by kernel_rfl) (fun _ _ _ h => h) (Or.inl ⟨by rfl, ?_⟩) hS0 ?_
    · rintro w' hq
      go_simp
    try simp only [Act.put, List.setIfInBounds_toArray, List.set_cons_zero, List.set_cons_succ]
    refine takeD (i := 2) (v := .pointer (some ⟨s, 0, none⟩)) (some 11) rfl rfl (by kernel_rfl) (by kernel_rfl) (by kernel_rfl) (fun _ _ _ h => h) (Or.inl ⟨by rfl, ?_⟩) hS0 ?_
    · rintro w' hq
      go_simp
    try simp only [Act.put, List.setIfInBounds_toArray, List.set_cons_zero, List.set_cons_succ]
    refine takeD (i := 3) (v := .int .u16 nx) (some 12) rfl rfl (by kernel_rfl) (by kernel_rfl) (by kernel_rfl) (fun _ _ _ h => h) (Or.inl ⟨by rfl, ?_⟩) hS0 ?_
    · rintro w' hq
      obtain ⟨A, m, fs, h1, -, -, -, -⟩ := (H.out.below hq).ex
      have c0 := h1.cell 0 rfl
      clear h1
      go_simp
    try simp only [Act.put, List.setIfInBounds_toArray, List.set_cons_zero, List.set_cons_succ]
    refine takeD (i := 4) (v := .pointer (some ⟨s, 0, none⟩)) (some 13) rfl rfl (by kernel_rfl) (by kernel_rfl) (by kernel_rfl) (fun _ _ _ h => h) (Or.inl ⟨by rfl, ?_⟩) hS0 ?_
    · rintro w' hq
      go_simp
    try simp only [Act.put, List.setIfInBounds_toArray, List.set_cons_zero, List.set_cons_succ]
    refine wpAnyH_ready (rs := [5, 8]) (by kernel_rfl) (by simp) ?_
    refine AllReadyH.cons rfl (fun K hK => ?_) (AllReadyH.cons rfl (fun K hK => ?_) AllReadyH.nil)
    · skip
      try rw [if_pos (by rfl)]
      go_simp
      refine (ssaid_any (H.out.below hS0)).mono ?_
      rintro e u1 ⟨rfl, hu⟩
      subst hu
      refine hK.out _ _ hS0 (fun _ => ?_)
      clear hK K
      try simp only [Act.put, List.setIfInBounds_toArray, List.set_cons_zero, List.set_cons_succ]
      refine takeD (i := 6) (v := .int .i64 ((said : Int) + 1)) (some 15) rfl rfl (by kernel_rfl) (by kernel_rfl) (by kernel_rfl) (fun _ _ _ h => h) (Or.inl ⟨by rfl, ?_⟩) hS0 ?_
      · rintro w' hq
        go_simp
      try simp only [Act.put, List.setIfInBounds_toArray, List.set_cons_zero, List.set_cons_succ]
      refine takeD (i := 7) (v := .agg #[.int .u16 nx, .int .i64 ((said : Int) + 1)]) (some 16) rfl rfl (by kernel_rfl) (by kernel_rfl) (by kernel_rfl) (fun _ _ _ h => h) (Or.inl ⟨by rfl, ?_⟩) hS0 ?_
      · rintro w' hq
        go_simp
      try simp only [Act.put, List.setIfInBounds_toArray, List.set_cons_zero, List.set_cons_succ]
      refine wpAnyH_ready (rs := [8]) (by kernel_rfl) (by simp) ?_
      refine AllReadyH.cons rfl (fun K hK => ?_) AllReadyH.nil
      try rw [if_pos (by rfl)]
      have hS1 : Below w1.heap.size w1 (u1.alloc (.cells #[.int .u16 0, .int .i64 0] 71)) := hS0.trans ((below_alloc u1 _).mono hS0.size)
      have hV := Vb.new 71 u1 [.int .u16 0, .int .i64 0]
      have hg := Kp.mk (show w1.heap.size ≤ u1.heap.size from hS0.size)
      go_simp
      refine hK.out _ _ hS1 (fun _ => ?_)
      clear hK K
      try simp only [Act.put, List.setIfInBounds_toArray, List.set_cons_zero, List.set_cons_succ]
      generalize u1.alloc (.cells #[.int .u16 0, .int .i64 0] 71) = u8 at *
      change Vb _ u8 _ _ at hV
      generalize u1.heap.size = g at *
      refine wpAnyH_ready (rs := [9]) (by kernel_rfl) (by simp) ?_
      refine AllReadyH.cons rfl (fun K hK => ?_) AllReadyH.nil
      try rw [if_pos (by rfl)]
      have hf := hV.free 0
      have hf1 := hV.free 1
      have d0 := hV.cell 0 rfl
      have d1 := hV.cell 1 rfl
      have hV2 := Kp.mk ((hV.set 0 (.int .u16 nx)).set 1 (.int .i64 ((said : Int) + 1)))
      have hB2 := Kp.mk (below_grown (below_grown hS1 (grownBy_set u8 g 0 (.int .u16 nx)) hS1.size hg.out) (grownBy_set _ g 1 (.int .i64 ((said : Int) + 1))) (by simpa [World.setCell] using hS1.size) hg.out)
      clear hV
      go_simp
      refine hK.out _ _ hB2.out (fun _ => ?_)
      clear hK K
      try simp only [Act.put, List.setIfInBounds_toArray, List.set_cons_zero, List.set_cons_succ]
      refine wpAnyH_done (by kernel_rfl) ?_ _
      have hV3 := hV2.out
      have hb3 := hB2.out
      clear hV2 hB2 hf hf1 d0 d1
      generalize (u8.setCell _ _).setCell _ _ = u9 at *
      have e0 := hV3.cell 0 rfl
      have e1 := hV3.cell 1 rfl
      have HB := Kp.mk hb3
      clear hb3 hS0
      go_wp2_with fail
      go_at_call 43
      refine (Ser.at_any _ _ _ _ H.out.nxb.1 (by have := H.out.nxb; omega) HX.out.1 (by have := HX.out; omega)).mono ?_
      rintro e w9 ⟨rfl, hb⟩
      have HB2 := Kp.mk (HB.out.trans (hb.mono HB.out.size))
      clear hb
      go_wp2_with fail
      go_ret
      exact ⟨rfl, HB2.out⟩
    · skip
      try rw [if_pos (by rfl)]
      have hS1 : Below w1.heap.size w1 (u.alloc (.cells #[.int .u16 0, .int .i64 0] 71)) := hS0.trans ((below_alloc u _).mono hS0.size)
      have hV := Vb.new 71 u [.int .u16 0, .int .i64 0]
      have hg := Kp.mk (show w1.heap.size ≤ u.heap.size from hS0.size)
      go_simp
      refine hK.out _ _ hS1 (fun _ => ?_)
      clear hK K
      try simp only [Act.put, List.setIfInBounds_toArray, List.set_cons_zero, List.set_cons_succ]
      generalize u.alloc (.cells #[.int .u16 0, .int .i64 0] 71) = u8 at *
      change Vb _ u8 _ _ at hV
      generalize u.heap.size = g at *
      refine wpAnyH_ready (rs := [5]) (by kernel_rfl) (by simp) ?_
      refine AllReadyH.cons rfl (fun K hK => ?_) AllReadyH.nil
      try rw [if_pos (by rfl)]
      go_simp
      refine (ssaid_any (H.out.below hS1)).mono ?_
      rintro e u2 ⟨rfl, hu⟩
      subst hu
      refine hK.out _ _ hS1 (fun _ => ?_)
      clear hK K
      try simp only [Act.put, List.setIfInBounds_toArray, List.set_cons_zero, List.set_cons_succ]
      refine takeD (i := 6) (v := .int .i64 ((said : Int) + 1)) (some 15) rfl rfl (by kernel_rfl) (by kernel_rfl) (by kernel_rfl) (fun _ _ _ h => h) (Or.inl ⟨by rfl, ?_⟩) hS1 ?_
      · rintro w' hq
        go_simp
      try simp only [Act.put, List.setIfInBounds_toArray, List.set_cons_zero, List.set_cons_succ]
      refine takeD (i := 7) (v := .agg #[.int .u16 nx, .int .i64 ((said : Int) + 1)]) (some 16) rfl rfl (by kernel_rfl) (by kernel_rfl) (by kernel_rfl) (fun _ _ _ h => h) (Or.inl ⟨by rfl, ?_⟩) hS1 ?_
      · rintro w' hq
        go_simp
      try simp only [Act.put, List.setIfInBounds_toArray, List.set_cons_zero, List.set_cons_succ]
      refine wpAnyH_ready (rs := [9]) (by kernel_rfl) (by simp) ?_
      refine AllReadyH.cons rfl (fun K hK => ?_) AllReadyH.nil
      try rw [if_pos (by rfl)]
      have hf := hV.free 0
      have hf1 := hV.free 1
      have d0 := hV.cell 0 rfl
      have d1 := hV.cell 1 rfl
      have hV2 := Kp.mk ((hV.set 0 (.int .u16 nx)).set 1 (.int .i64 ((said : Int) + 1)))
      have hB2 := Kp.mk (below_grown (below_grown hS1 (grownBy_set u2 g 0 (.int .u16 nx)) hS1.size hg.out) (grownBy_set _ g 1 (.int .i64 ((said : Int) + 1))) (by simpa [World.setCell] using hS1.size) hg.out)
      clear hV
      go_simp
      refine hK.out _ _ hB2.out (fun _ => ?_)
      clear hK K
      try simp only [Act.put, List.setIfInBounds_toArray, List.set_cons_zero, List.set_cons_succ]
      refine wpAnyH_done (by kernel_rfl) ?_ _
      have hV3 := hV2.out
      have hb3 := hB2.out
      clear hV2 hB2 hf hf1 d0 d1
      generalize (u2.setCell _ _).setCell _ _ = u9 at *
      have e0 := hV3.cell 0 rfl
      have e1 := hV3.cell 1 rfl
      have HB := Kp.mk hb3
      clear hb3 hS0
      go_wp2_with fail
      go_at_call 43
      refine (Ser.at_any _ _ _ _ H.out.nxb.1 (by have := H.out.nxb; omega) HX.out.1 (by have := HX.out; omega)).mono ?_
      rintro e w9 ⟨rfl, hb⟩
      have HB2 := Kp.mk (HB.out.trans (hb.mono HB.out.size))
      clear hb
      go_wp2_with fail
      go_ret
      exact ⟨rfl, HB2.out⟩
  · rw [decide_eq_false hx] at hn
    rw [show ackP nx said ack = -1 from if_neg hx]
    clear h hx
    go_enter Try.func37, Try.ntmps37
    go_wp2_with (first | (refine hn.mono ?_; rintro e w1 ⟨rfl, rfl⟩))
    go_ret
    exact ⟨rfl, Below.refl _ _⟩
theorem free_any {j k : Nat} (h : Wn w c wd (j + k)) (hj : j ≤ 4) : Calls Try.prog 39 #[.chan (some c), .int .i64 j] w fun e w' => e = .returned (.tuple #[]) ∧ Wn w' c wd k ∧ Ch (fun x => x = c) w w' := by
  match j, hj, h with
  | 0, _, h => exact free_0 (by rw [Nat.zero_add] at h; exact h)
  | 1, _, h => exact free_1 h
  | 2, _, h => exact free_2 h
  | 3, _, h => exact free_3 h
  | 4, _, h => exact free_4 h
theorem own_eq (A : Option Addr) (n m n' m' : Nat) : (Value.slice A n m).ownBlock = (Value.slice A n' m').ownBlock := by cases A <;> rfl
set_option maxRecDepth 100000 in
theorem sheard_no (h : Sp P w s c wd nx said all r ms) {ack : Int} (hk : ackP nx said ack = -1) : Calls Try.prog 21 #[.pointer (some ⟨s, 0, none⟩), .int .i64 ack] w fun e w' => e = .returned (.tuple #[.int .i64 0, .int .i64 9]) ∧ Below w.heap.size w w' := by
  have HN := sNone_no h
  have HA := sahead_any h ack
  rw [hk] at HA
  clear h hk
  go_enter Try.func21, Try.ntmps21
  go_wp2_with (first | (refine HN.mono ?_; rintro e w1 ⟨rfl, rfl⟩))
  refine HA.mono ?_
  rintro e w2 ⟨rfl, hb⟩
  have HB := Kp.mk hb
  clear hb
  go_wp2_with fail
  go_ret2
  exact ⟨rfl, HB.out⟩
set_option maxRecDepth 100000 in
set_option maxHeartbeats 4000000 in
theorem sheard_yes (h : Sp P w s c wd nx said all r ms) {ack : Int} {k : Nat} (hk : ackP nx said ack = k) : Calls Try.prog 21 #[.pointer (some ⟨s, 0, none⟩), .int .i64 ack] w fun e w' => e = .returned (.tuple #[.int .i64 k, .int .i64 0]) ∧ Sp P w' s c wd ack (said - k) all r (ms.drop k) ∧ Ch (Kb s c r) w w' := by
  have HN := sNone_no h
  have HA := sahead_any h ack
  have hbd := ackP_bd nx said ack
  have hack : 0 ≤ ack ∧ ack ≤ 65535 := by
    unfold ackP at hk
    split at hk
    · assumption
    · omega
  rw [hk] at HA hbd
  have hw : IntKind.u16.wrap ack = ack := by rw [IntKind.wrap_u16]; omega
  have hfit := h.fit
  have hks : k ≤ said := by omega
  have H := Kp.mk h
  have HK := Kp.mk (show k ≤ said ∧ said ≤ wd ∧ wd ≤ 4 ∧ said ≤ ms.length ∧ (0 ≤ ack ∧ ack ≤ 65535) from ⟨hks, hfit.1, hfit.2.2.1, hfit.2.2.2.1, hack⟩)
  have hk0 : ¬ ((k : Int) < 0) := by omega
  clear h hk hbd hack hfit hks
  go_enter Try.func21, Try.ntmps21
  go_wp2_with (first | (refine HN.mono ?_; rintro e w1 ⟨rfl, rfl⟩))
  refine HA.mono ?_
  rintro e w2 ⟨rfl, hb⟩
  have h2 := H.out.below hb
  obtain ⟨A, m, fs, g1, g2, g3, g4, g5⟩ := h2.ex
  have hap := h2.apart
  have hlt := h2.lt
  have hWn := h2.ch
  have hNX := h2.fit
  have hBy := h2.bytes
  have hC0 := Ch.of_below (S := Kb s c r) hb
  clear hb HN HA
  have c2 := g1.cell 2 rfl
  have hD := sdelete_any g2 k (by have := HK.out; omega)
  have HR := Kp.mk g3
  have hL := ms.length
  have hC1 := Kp.mk (hC0)
  have HF := Kp.mk (And.intro g4 g5)
  have HX := Kp.mk (And.intro hap hNX)
  have HBY := Kp.mk hBy
  have HWN := Kp.mk hWn
  have G1 := Kp.mk g1
  have HLT := Kp.mk (hlt c (.inr (.inl rfl)))
  clear g3 g4 g5 hap hNX hBy hWn hC0 hlt hL g1 g2 h2
  obtain ⟨n, hn⟩ : ∃ n, n = ms.length := ⟨_, rfl⟩
  rw [← hn] at c2 hD G1 HR
  have HLN := Kp.mk hn
  clear hn
  have HR2 := Kp.mk (show (Value.slice A (n - k) m).ownBlock = r from (own_eq A _ _ _ _).trans HR.out)
  go_upto_region 6 with fail
  go_wp2_with fail
  refine hD.mono ?_
  rintro e w3 ⟨rfl, hQ3, hC3⟩
  have v3 : Vb 55 w3 s [.int .u16 nx, .int .i64 all, .slice A n m, .chan (some c)] := (hC3.block s G1.out.lt (fun e => HX.out.1.2.1 (HR.out.symm.trans e))).trans G1.out
  have hW3 : Wn w3 c wd said := HWN.out.stay hC3 (fun e => HX.out.1.2.2 (HR.out.symm.trans e))
  have g5 := HF.out.2.other hC3 (fun b cs m e => HBY.out b cs m (.inr (.inr (HR.out.symm.trans e))))
  have hC3 := Kp.mk (hC1.out.trans hC3 (fun x _ e => Or.inr (.inr (HR.out.symm.trans e))))
  have hB3 := Kp.mk (show ∀ cs m, w3.heap[s]? ≠ some (.cells cs 5 m) from fun cs m e => by
    rw [show w3.heap[s]? = _ from v3] at e
    have e := Option.some.inj e
    injection e with _ e _
    exact absurd e (by decide))
  clear hC1 c2 hD
  have hf := v3.free 2
  have d3 := v3.cell 3 rfl
  have d2 := v3.cell 2 rfl
  have hc4 : Ch (fun x => x = s) w3 (w3.setCell ⟨s, 2, none⟩ (.slice A (n - k) m)) := .of_grown (grownBy_set w3 s 2 _)
  have v4 := Kp.mk (v3.set 2 (.slice A (n - k) m))
  have hQ4 := Kp.mk (hQ3.stay hc4 (fun x e h => HX.out.1.2.1 (HR2.out.symm.trans (by rw [← h]; exact e))))
  have hW4 := Kp.mk (hW3.stay hc4 (fun h => HX.out.1.1 h.symm))
  have g5 := Kp.mk (g5.other hc4 (fun b cs m e => by rw [e]; exact hB3.out cs m))
  have hC4 := Kp.mk (hC3.out.trans hc4 (fun x _ e => Or.inl e))
  clear hC3 hc4 hQ3 hW3 hB3 v3
  go_wp2_with fail
  generalize w3.setCell _ _ = w4 at *
  have hFr := free_any (j := k) (k := said - k) (by have := HK.out; rw [show k + (said - k) = said by omega]; exact hW4.out) (by have := HK.out; omega)
  clear d2 d3 hf
  refine hFr.mono ?_
  rintro e w5 ⟨rfl, hW5, hC5⟩
  have v5 : Vb 55 w5 s [.int .u16 nx, .int .i64 all, .slice A (n - k) m, .chan (some c)] := (hC5.block s v4.out.lt HX.out.1.1).trans v4.out
  have hQ5 := hQ4.out.stay hC5 (fun x e h => HX.out.1.2.2 (HR2.out.symm.trans (by rw [← h]; exact e)))
  have g5 := g5.out.other hC5 (fun b cs m e => by rw [e]; exact hW4.out.nocell cs _ m)
  have hC5 := Kp.mk (hC4.out.trans hC5 (fun x _ e => Or.inr (.inl e)))
  have hB5 := Kp.mk (show ∀ cs m, w5.heap[s]? ≠ some (.cells cs 5 m) from fun cs m e => by
    rw [show w5.heap[s]? = _ from v5] at e
    have e := Option.some.inj e
    injection e with _ e _
    exact absurd e (by decide))
  clear hC4 hFr hW4 hQ4 v4
  have hf := v5.free 0
  have d0 := v5.cell 0 rfl
  have hc6 : Ch (fun x => x = s) w5 (w5.setCell ⟨s, 0, none⟩ (.int .u16 ack)) := .of_grown (grownBy_set w5 s 0 _)
  have v6 := Kp.mk (v5.set 0 (.int .u16 ack))
  have hQ6 := Kp.mk (hQ5.stay hc6 (fun x e h => HX.out.1.2.1 (HR2.out.symm.trans (by rw [← h]; exact e))))
  have hW6 := Kp.mk (hW5.stay hc6 (fun h => HX.out.1.1 h.symm))
  have g6 := Kp.mk (g5.other hc6 (fun b cs m e => by rw [e]; exact hB5.out cs m))
  have hC6 := Kp.mk (hC5.out.trans hc6 (fun x _ e => Or.inl e))
  clear hC5 hc6 hQ5 hW5 hB5 v5 g5
  go_wp2_with fail
  go_ret2
  have hlen : (ms.drop k).length = n - k := by rw [List.length_drop, HLN.out]
  refine ⟨rfl, ⟨⟨A, m, fs.drop k, ?_, ?_, ?_, ?_, ?_⟩, hW6.out, HK.out.2.2.2.2, ?_⟩, hC6.out⟩
  · rw [hlen]; exact v6.out
  · rw [hlen]; exact hQ6.out
  · rw [hlen]; exact HR2.out
  · rw [List.map_drop, HF.out.1]
  · exact g6.out.sub (fun f hf => List.mem_of_mem_drop hf)
  · have h1 := HX.out.2
    have h2 := HK.out
    rw [hlen, HLN.out]
    omega
end
end Go.Proofs.Ytkpjnikbcgngbaa.Oct
