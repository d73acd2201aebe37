/- Contracts of layer 12 (graph): the document's Check. -/
import Derived.Test.YtlmonnggklfniaaGraK
namespace Go.Proofs.Ytlmonnggklfniaa.Oct
open Go.RowKit
set_option linter.unusedVariables false
set_option linter.unusedSimpArgs false

/-- What lies there in a round of the document's Check. -/
structure Ek (S : Int) (A : Option Addr) (n c : Nat) (G LB : Nat) (l : Lk) (w0 w : World) : Prop where
  g : Vb 24 w G [.int .i64 S, .slice A n c]
  k : Vb 43 w LB [.int .i64 l.a, .int .i64 l.p, .int .i64 l.b, .int .i64 l.q]
  b : Below w0.heap.size w0 w
theorem Ek.below {S : Int} {A : Option Addr} {n c G LB : Nat} {l : Lk} {w0 w w' : World} (h : Ek S A n c G LB l w0 w) (hb : Below w.heap.size w w') : Ek S A n c G LB l w0 w' := ⟨h.g.below hb h.g.lt, h.k.below hb h.k.lt, h.b.trans (hb.mono h.b.size)⟩
theorem Ek.cells {S : Int} {A : Option Addr} {n c G LB : Nat} {l : Lk} {w0 w : World} (h : Ek S A n c G LB l w0 w) : w.cell? ⟨G, 0, none⟩ = some (.int .i64 S) ∧ w.cell? ⟨G, 1, none⟩ = some (.slice A n c) ∧ w.cell? ⟨LB, 0, none⟩ = some (.int .i64 l.a) ∧ w.cell? ⟨LB, 1, none⟩ = some (.int .i64 l.p) ∧ w.cell? ⟨LB, 2, none⟩ = some (.int .i64 l.b) ∧ w.cell? ⟨LB, 3, none⟩ = some (.int .i64 l.q) :=
  ⟨h.g.cell 0 rfl, h.g.cell 1 rfl, h.k.cell 0 rfl, h.k.cell 1 rfl, h.k.cell 2 rfl, h.k.cell 3 rfl⟩
theorem chk_bad {S : Int} {ls : List Lk} (h : ¬ Good S ls) : chkP S ls = 2 := by unfold chkP; rw [endsP_bad h]; rfl
theorem chk_good {S : Int} {ls : List Lk} (h : Good S ls) : chkP S ls = 0 := by unfold chkP; rw [endsP_good h]; rfl
theorem good_ok {S : Int} {ls : List Lk} {i : Nat} {x : Lk} (h : Good S ls) (hx : ls[i]? = some x) : okL S x := h.2.1 x (List.mem_of_getElem? hx)
theorem retI {a b : Int} (h : a = b) : Ending.returned (.int .i64 a) = .returned (.int .i64 b) := by rw [h]

set_option maxRecDepth 100000 in
set_option maxHeartbeats 2000000 in
theorem refCheck_any {w : World} {B n c : Nat} {A : Option Addr} {ls : List Lk} (h : Lr w B A n c ls) (hB : B ≤ w.heap.size) (S : Int) : Calls Try.prog 12 #[grV S A n c] w fun e w' => e = .returned (.int .i64 (chkP S ls)) ∧ Below w.heap.size w w' := by
  have hlen := h.len
  have hmax := h.max
  have H := Kp.mk h
  have HL := Kp.mk hlen
  have HB := Kp.mk hB
  clear h hlen hB
  by_cases h1 : S < 1
  · have HP := Kp.mk (show chkP S ls = 2 from chk_bad (fun hg => by have := hg.1; omega))
    go_enter Try.func12, Try.ntmps12
    go_wp2_with fail
    go_ret
    exact ⟨by rw [HP.out]; rfl, below_alloc _ _⟩
  · by_cases h2 : 6 < S
    · have HP := Kp.mk (show chkP S ls = 2 from chk_bad (fun hg => by have := hg.1; omega))
      go_enter Try.func12, Try.ntmps12
      go_wp2_with fail
      go_ret
      exact ⟨by rw [HP.out]; rfl, below_alloc _ _⟩
    · by_cases h3 : 12 < (n : Int)
      · have HP := Kp.mk (show chkP S ls = 2 from chk_bad (fun hg => by have := good_len hg; have := HL.out; omega))
        go_enter Try.func12, Try.ntmps12
        go_wp2_with fail
        go_ret
        exact ⟨by rw [HP.out]; rfl, below_alloc _ _⟩
      · have HS := Kp.mk (show 1 ≤ S ∧ S ≤ 6 from by omega)
        have hg0 : Vb 24 (w.alloc (.cells #[.int .i64 S, .slice A n c] 24)) w.heap.size [.int .i64 S, .slice A n c] := Vb.new 24 w [.int .i64 S, .slice A n c]
        have HZ := Kp.mk (And.intro hg0 (below_alloc w (.cells #[.int .i64 S, .slice A n c] 24)))
        clear hg0
        go_enter Try.func12, Try.ntmps12
        go_wp2_with fail
        go_loopw [3] (fun s3 wr => ∃ i : Nat, s3 = .int .i64 i ∧ i ≤ n ∧ Kp (OkTo S ls i ∧ Vb 24 wr w.heap.size [.int .i64 S, .slice A n c] ∧ Below w.heap.size w wr)) (fun s3 _ => n - (intOf s3).toNat)
        case atStart => exact ⟨0, rfl, Nat.zero_le _, Kp.mk ⟨okTo_zero S ls, HZ.out.1, HZ.out.2⟩⟩
        case round =>
          clear HZ
          obtain ⟨i, rfl, hi, HK⟩ := hrel
          obtain ⟨hok, hg, hb⟩ := HK.out
          have g0 := hg.cell 0 rfl
          have g1 := hg.cell 1 rfl
          by_cases hlt : i < n
          · obtain ⟨l, hl⟩ : ∃ l, ls[i]? = some l := ⟨_, List.getElem?_eq_getElem (by have := HL.out; omega)⟩
            obtain ⟨b1, o1, hA1, hb1lt, f1⟩ := (H.out.below' hb HB.out).at_ (by omega)
            subst hA1
            obtain ⟨d0, d1, d2, d3⟩ := f1 i l hl
            obtain ⟨a, p, b, q⟩ := l
            have hlti : (i : Int) < n := by omega
            have hE : Ek S (some ⟨b1, o1, none⟩) n c w.heap.size wr.heap.size ⟨a, p, b, q⟩ w (wr.alloc (.cells #[.int .i64 a, .int .i64 p, .int .i64 b, .int .i64 q] 43)) := ⟨hg.alloc _, Vb.new _ wr [_, _, _, _], hb.alloc hb.size _⟩
            have HE := Kp.mk hE
            have HO := Kp.mk (And.intro hok (And.intro hl hb1lt))
            obtain ⟨c0, c1, c2, c3, c4, c5⟩ := hE.cells
            clear hE hg hb f1 HK hok hl hb1lt
            have hcA := refEnd_any S a p (some ⟨b1, o1, none⟩) n c
            have hcB := refEnd_any S b q (some ⟨b1, o1, none⟩) n c
            go_wp2_with fail
            clear g0 g1
            cases hA : endOk S (a, p) with
            | false =>
              have HN := Kp.mk (show chkP S ls = 2 from chk_bad (fun hg => by have := (good_ok hg HO.out.2.1).1; simp only [Lk.A] at this; rw [hA] at this; cases this))
              simp only [hA] at hcA
              clear hA hcB
              refine (hcA _).mono ?_
              rintro e w2 ⟨rfl, hb2⟩
              have hE2 := Kp.mk (HE.out.below hb2)
              clear c0 c1 c2 c3 c4 c5 d0 d1 d2 d3 hcA hb2
              go_wp2_with fail
              go_ret
              exact ⟨by rw [HN.out]; rfl, hE2.out.b⟩
            | true =>
              have HA := Kp.mk hA
              simp only [hA] at hcA
              clear hA
              refine (hcA _).mono ?_
              rintro e w2 ⟨rfl, hb2⟩
              have hE2 := HE.out.below hb2
              have HE2 := Kp.mk hE2
              clear c0 c1 c2 c3 c4 c5 d0 d1 d2 d3 hcA hb2
              obtain ⟨c0, c1, c2, c3, c4, c5⟩ := hE2.cells
              clear hE2
              go_wp2_with fail
              cases hA : endOk S (b, q) with
              | false =>
                have HN := Kp.mk (show chkP S ls = 2 from chk_bad (fun hg => by have := (good_ok hg HO.out.2.1).2.1; simp only [Lk.B] at this; rw [hA] at this; cases this))
                simp only [hA] at hcB
                clear hA
                refine (hcB _).mono ?_
                rintro e w3 ⟨rfl, hb2⟩
                have hE3 := Kp.mk (HE2.out.below hb2)
                clear c0 c1 c2 c3 c4 c5 hcB hb2
                go_wp2_with fail
                go_ret
                exact ⟨by rw [HN.out]; rfl, hE3.out.b⟩
              | true =>
                have HB2 := Kp.mk hA
                simp only [hA] at hcB
                clear hA
                refine (hcB _).mono ?_
                rintro e w3 ⟨rfl, hb2⟩
                have hE3 := HE2.out.below hb2
                have HE3 := Kp.mk hE3
                clear c0 c1 c2 c3 c4 c5 hcB hb2
                obtain ⟨c0, c1, c2, c3, c4, c5⟩ := hE3.cells
                clear hE3
                by_cases hab : a = b
                · have HN := Kp.mk (show chkP S ls = 2 from chk_bad (fun hg => (good_ok hg HO.out.2.1).2.2 hab))
                  have hab2 : (a == b) = true := by simpa using hab
                  clear hab
                  go_wp2_with fail
                  go_ret
                  exact ⟨by rw [HN.out]; rfl, HE3.out.b⟩
                · have HY := Kp.mk (show okL S ⟨a, p, b, q⟩ from ⟨HA.out, HB2.out, hab⟩)
                  have hab2 : (a == b) = false := by simpa using hab
                  obtain ⟨wr0, hwr0⟩ : ∃ x, x = wr.heap.size := ⟨_, rfl⟩
                  rw [← hwr0] at HE3 c2 c3 c4 c5 ⊢
                  clear hab HE HE2 hwr0
                  go_wp2_with fail
                  clear c0 c1 c2 c3 c4 c5
                  go_loopw [5] (fun s5 wr => ∃ k : Nat, s5 = .int .i64 k ∧ k ≤ i ∧ Kp ((∀ k' y, k' < k → ls[k']? = some y → sharesP ⟨a, p, b, q⟩ y = false) ∧ Ek S (some ⟨b1, o1, none⟩) n c w.heap.size wr0 ⟨a, p, b, q⟩ w wr)) (fun s5 _ => i - (intOf s5).toNat)
                  case atStart => exact ⟨0, rfl, Nat.zero_le _, Kp.mk ⟨fun k' y h => by omega, HE3.out⟩⟩
                  case round =>
                    clear HE3
                    obtain ⟨k, rfl, hk, HK2⟩ := hrel
                    by_cases hlt2 : k < i
                    · obtain ⟨hsh, hE4⟩ := HK2.out
                      obtain ⟨y, hy⟩ : ∃ y, ls[k]? = some y := ⟨_, List.getElem?_eq_getElem (by have := HL.out; omega)⟩
                      obtain ⟨b1', o1', hA1', _, f2⟩ := (H.out.below' hE4.b HB.out).at_ (by omega)
                      have hA1' := Option.some.inj hA1'
                      injection hA1' with hx1 hx2 _
                      subst hx1 hx2
                      obtain ⟨e0, e1, e2, e3⟩ := f2 k y hy
                      obtain ⟨a2, p2, b2, q2⟩ := y
                      obtain ⟨c0, c1, c2, c3, c4, c5⟩ := hE4.cells
                      have hlk : (k : Int) < i := by omega
                      have hlkn : (k : Int) < n := by omega
                      have HS2 := Kp.mk (And.intro hsh (And.intro hE4 hy))
                      have hcS := fun w => refShares_any a p b q a2 p2 b2 q2 w
                      clear hsh HK2 f2
                      cases hs : sharesP ⟨a, p, b, q⟩ ⟨a2, p2, b2, q2⟩ with
                      | true =>
                        rw [hs] at hcS
                        have HN := Kp.mk (show chkP S ls = 2 from chk_bad (fun hg => by have := good_share hg hlt2 HO.out.2.1 HS2.out.2.2; rw [hs] at this; cases this))
                        clear hs hE4 hy
                        go_upto_region 12 with fail
                        have hS0 : (fun w' : World => (w'.cell? ⟨wr0, 0, none⟩ = some (.int .i64 a) ∧ w'.cell? ⟨wr0, 1, none⟩ = some (.int .i64 p) ∧ w'.cell? ⟨wr0, 2, none⟩ = some (.int .i64 b) ∧ w'.cell? ⟨wr0, 3, none⟩ = some (.int .i64 q)) ∧ (w'.cell? ⟨w.heap.size, 1, none⟩ = some (.slice (some ⟨b1, o1, none⟩) n c) ∧ w'.cell? ⟨b1, o1 + k * 4, none⟩ = some (.int .i64 a2) ∧ w'.cell? ⟨b1, o1 + k * 4 + 1, none⟩ = some (.int .i64 p2) ∧ w'.cell? ⟨b1, o1 + k * 4 + 2, none⟩ = some (.int .i64 b2) ∧ w'.cell? ⟨b1, o1 + k * 4 + 3, none⟩ = some (.int .i64 q2))) wr.drew := ⟨⟨c2, c3, c4, c5⟩, c1, e0, e1, e2, e3⟩
                        refine wp_region_held_drew (S := fun w' : World => (w'.cell? ⟨wr0, 0, none⟩ = some (.int .i64 a) ∧ w'.cell? ⟨wr0, 1, none⟩ = some (.int .i64 p) ∧ w'.cell? ⟨wr0, 2, none⟩ = some (.int .i64 b) ∧ w'.cell? ⟨wr0, 3, none⟩ = some (.int .i64 q)) ∧ (w'.cell? ⟨w.heap.size, 1, none⟩ = some (.slice (some ⟨b1, o1, none⟩) n c) ∧ w'.cell? ⟨b1, o1 + k * 4, none⟩ = some (.int .i64 a2) ∧ w'.cell? ⟨b1, o1 + k * 4 + 1, none⟩ = some (.int .i64 p2) ∧ w'.cell? ⟨b1, o1 + k * 4 + 2, none⟩ = some (.int .i64 b2) ∧ w'.cell? ⟨b1, o1 + k * 4 + 3, none⟩ = some (.int .i64 q2))) (by kernel_rfl) hS0 (fun _ => ?_)
                        refine takeD (i := 0) (v := .agg #[.int .i64 a, .int .i64 p, .int .i64 b, .int .i64 q]) (some 58) rfl rfl (by kernel_rfl) (by kernel_rfl) (by kernel_rfl) (fun _ _ _ h => h) (Or.inl ⟨by rfl, ?_⟩) hS0 ?_
                        · rintro w' ⟨⟨z0, z1, z2, z3⟩, z4, z5, z6, z7, z8⟩
                          go_simp
                        try simp only [Act.put, List.setIfInBounds_toArray, List.set_cons_zero, List.set_cons_succ]
                        refine takeD (i := 1) (v := .pointer (some ⟨w.heap.size, 1, none⟩)) (some 59) rfl rfl (by kernel_rfl) (by kernel_rfl) (by kernel_rfl) (fun _ _ _ h => h) (Or.inl ⟨by rfl, ?_⟩) hS0 ?_
                        · rintro w' _
                          go_simp
                        try simp only [Act.put, List.setIfInBounds_toArray, List.set_cons_zero, List.set_cons_succ]
                        refine takeD (i := 2) (v := .slice (some ⟨b1, o1, none⟩) n c) (some 60) rfl rfl (by kernel_rfl) (by kernel_rfl) (by kernel_rfl) (fun _ _ _ h => h) (Or.inl ⟨by rfl, ?_⟩) hS0 ?_
                        · rintro w' ⟨⟨z0, z1, z2, z3⟩, z4, z5, z6, z7, z8⟩
                          go_simp
                        try simp only [Act.put, List.setIfInBounds_toArray, List.set_cons_zero, List.set_cons_succ]
                        refine takeD (i := 3) (v := .int .i64 k) (some 61) rfl rfl (by kernel_rfl) (by kernel_rfl) (by kernel_rfl) (fun _ _ _ h => h) (Or.inl ⟨by rfl, ?_⟩) hS0 ?_
                        · rintro w' _
                          go_simp
                        try simp only [Act.put, List.setIfInBounds_toArray, List.set_cons_zero, List.set_cons_succ]
                        refine takeD (i := 4) (v := .pointer (some ⟨b1, o1 + k * 4, none⟩)) (some 62) rfl rfl (by kernel_rfl) (by kernel_rfl) (by kernel_rfl) (fun _ _ _ h => h) (Or.inl ⟨by rfl, ?_⟩) hS0 ?_
                        · rintro w' _
                          go_simp
                        try simp only [Act.put, List.setIfInBounds_toArray, List.set_cons_zero, List.set_cons_succ]
                        refine takeD (i := 5) (v := .agg #[.int .i64 a2, .int .i64 p2, .int .i64 b2, .int .i64 q2]) (some 63) rfl rfl (by kernel_rfl) (by kernel_rfl) (by kernel_rfl) (fun _ _ _ h => h) (Or.inl ⟨by rfl, ?_⟩) hS0 ?_
                        · rintro w' ⟨⟨z0, z1, z2, z3⟩, z4, z5, z6, z7, z8⟩
                          go_simp
                        try simp only [Act.put, List.setIfInBounds_toArray, List.set_cons_zero, List.set_cons_succ]
                        refine wpAnyH_ready (rs := [6]) (by kernel_rfl) (by simp) ?_
                        refine AllReadyH.cons rfl (fun K hK => ?_) AllReadyH.nil
                        go_simp
                        refine (hcS _).mono ?_
                        rintro e u1 ⟨rfl, hbN⟩
                        have hS1 := (show (fun w' : World => (w'.cell? ⟨wr0, 0, none⟩ = some (.int .i64 a) ∧ w'.cell? ⟨wr0, 1, none⟩ = some (.int .i64 p) ∧ w'.cell? ⟨wr0, 2, none⟩ = some (.int .i64 b) ∧ w'.cell? ⟨wr0, 3, none⟩ = some (.int .i64 q)) ∧ (w'.cell? ⟨w.heap.size, 1, none⟩ = some (.slice (some ⟨b1, o1, none⟩) n c) ∧ w'.cell? ⟨b1, o1 + k * 4, none⟩ = some (.int .i64 a2) ∧ w'.cell? ⟨b1, o1 + k * 4 + 1, none⟩ = some (.int .i64 p2) ∧ w'.cell? ⟨b1, o1 + k * 4 + 2, none⟩ = some (.int .i64 b2) ∧ w'.cell? ⟨b1, o1 + k * 4 + 3, none⟩ = some (.int .i64 q2))) u1 from ⟨⟨(hbN.cell (p := ⟨wr0, 0, none⟩) HS2.out.2.1.k.lt).trans c2, (hbN.cell (p := ⟨wr0, 1, none⟩) HS2.out.2.1.k.lt).trans c3, (hbN.cell (p := ⟨wr0, 2, none⟩) HS2.out.2.1.k.lt).trans c4, (hbN.cell (p := ⟨wr0, 3, none⟩) HS2.out.2.1.k.lt).trans c5⟩, (hbN.cell (p := ⟨w.heap.size, 1, none⟩) HS2.out.2.1.g.lt).trans c1, (hbN.cell (p := ⟨b1, _, none⟩) (World.block_lt_of_cell? wr _ e0)).trans e0, (hbN.cell (p := ⟨b1, _, none⟩) (World.block_lt_of_cell? wr _ e1)).trans e1, (hbN.cell (p := ⟨b1, _, none⟩) (World.block_lt_of_cell? wr _ e2)).trans e2, (hbN.cell (p := ⟨b1, _, none⟩) (World.block_lt_of_cell? wr _ e3)).trans e3⟩)
                        refine hK.out _ _ hS1 (fun _ => ?_)
                        clear hK K
                        try simp only [Act.put, List.setIfInBounds_toArray, List.set_cons_zero, List.set_cons_succ]
                        refine wpAnyH_done (by kernel_rfl) ?_ _
                        go_wp2_with fail
                        go_ret
                        exact ⟨by rw [HN.out]; rfl, (HS2.out.2.1.b.drew).trans (hbN.mono HS2.out.2.1.b.size)⟩
                      | false =>
                        rw [hs] at hcS
                        have HS3 := Kp.mk (show ∀ k' y, k' < k + 1 → ls[k']? = some y → sharesP ⟨a, p, b, q⟩ y = false from fun k' y h1 h2 => by
                          rcases Nat.lt_or_ge k' k with h | h
                          · exact HS2.out.1 k' y h h2
                          · obtain rfl : k' = k := by omega
                            rw [HS2.out.2.2] at h2
                            rw [← Option.some.inj h2]; exact hs)
                        clear hs hE4 hy
                        go_upto_region 12 with fail
                        have hS0 : (fun w' : World => (w'.cell? ⟨wr0, 0, none⟩ = some (.int .i64 a) ∧ w'.cell? ⟨wr0, 1, none⟩ = some (.int .i64 p) ∧ w'.cell? ⟨wr0, 2, none⟩ = some (.int .i64 b) ∧ w'.cell? ⟨wr0, 3, none⟩ = some (.int .i64 q)) ∧ (w'.cell? ⟨w.heap.size, 1, none⟩ = some (.slice (some ⟨b1, o1, none⟩) n c) ∧ w'.cell? ⟨b1, o1 + k * 4, none⟩ = some (.int .i64 a2) ∧ w'.cell? ⟨b1, o1 + k * 4 + 1, none⟩ = some (.int .i64 p2) ∧ w'.cell? ⟨b1, o1 + k * 4 + 2, none⟩ = some (.int .i64 b2) ∧ w'.cell? ⟨b1, o1 + k * 4 + 3, none⟩ = some (.int .i64 q2))) wr.drew := ⟨⟨c2, c3, c4, c5⟩, c1, e0, e1, e2, e3⟩
                        refine wp_region_held_drew (S := fun w' : World => (w'.cell? ⟨wr0, 0, none⟩ = some (.int .i64 a) ∧ w'.cell? ⟨wr0, 1, none⟩ = some (.int .i64 p) ∧ w'.cell? ⟨wr0, 2, none⟩ = some (.int .i64 b) ∧ w'.cell? ⟨wr0, 3, none⟩ = some (.int .i64 q)) ∧ (w'.cell? ⟨w.heap.size, 1, none⟩ = some (.slice (some ⟨b1, o1, none⟩) n c) ∧ w'.cell? ⟨b1, o1 + k * 4, none⟩ = some (.int .i64 a2) ∧ w'.cell? ⟨b1, o1 + k * 4 + 1, none⟩ = some (.int .i64 p2) ∧ w'.cell? ⟨b1, o1 + k * 4 + 2, none⟩ = some (.int .i64 b2) ∧ w'.cell? ⟨b1, o1 + k * 4 + 3, none⟩ = some (.int .i64 q2))) (by kernel_rfl) hS0 (fun _ => ?_)
                        refine takeD (i := 0) (v := .agg #[.int .i64 a, .int .i64 p, .int .i64 b, .int .i64 q]) (some 58) rfl rfl (by kernel_rfl) (by kernel_rfl) (by kernel_rfl) (fun _ _ _ h => h) (Or.inl ⟨by rfl, ?_⟩) hS0 ?_
                        · rintro w' ⟨⟨z0, z1, z2, z3⟩, z4, z5, z6, z7, z8⟩
                          go_simp
                        try simp only [Act.put, List.setIfInBounds_toArray, List.set_cons_zero, List.set_cons_succ]
                        refine takeD (i := 1) (v := .pointer (some ⟨w.heap.size, 1, none⟩)) (some 59) rfl rfl (by kernel_rfl) (by kernel_rfl) (by kernel_rfl) (fun _ _ _ h => h) (Or.inl ⟨by rfl, ?_⟩) hS0 ?_
                        · rintro w' _
                          go_simp
                        try simp only [Act.put, List.setIfInBounds_toArray, List.set_cons_zero, List.set_cons_succ]
                        refine takeD (i := 2) (v := .slice (some ⟨b1, o1, none⟩) n c) (some 60) rfl rfl (by kernel_rfl) (by kernel_rfl) (by kernel_rfl) (fun _ _ _ h => h) (Or.inl ⟨by rfl, ?_⟩) hS0 ?_
                        · rintro w' ⟨⟨z0, z1, z2, z3⟩, z4, z5, z6, z7, z8⟩
                          go_simp
                        try simp only [Act.put, List.setIfInBounds_toArray, List.set_cons_zero, List.set_cons_succ]
                        refine takeD (i := 3) (v := .int .i64 k) (some 61) rfl rfl (by kernel_rfl) (by kernel_rfl) (by kernel_rfl) (fun _ _ _ h => h) (Or.inl ⟨by rfl, ?_⟩) hS0 ?_
                        · rintro w' _
                          go_simp
                        try simp only [Act.put, List.setIfInBounds_toArray, List.set_cons_zero, List.set_cons_succ]
                        refine takeD (i := 4) (v := .pointer (some ⟨b1, o1 + k * 4, none⟩)) (some 62) rfl rfl (by kernel_rfl) (by kernel_rfl) (by kernel_rfl) (fun _ _ _ h => h) (Or.inl ⟨by rfl, ?_⟩) hS0 ?_
                        · rintro w' _
                          go_simp
                        try simp only [Act.put, List.setIfInBounds_toArray, List.set_cons_zero, List.set_cons_succ]
                        refine takeD (i := 5) (v := .agg #[.int .i64 a2, .int .i64 p2, .int .i64 b2, .int .i64 q2]) (some 63) rfl rfl (by kernel_rfl) (by kernel_rfl) (by kernel_rfl) (fun _ _ _ h => h) (Or.inl ⟨by rfl, ?_⟩) hS0 ?_
                        · rintro w' ⟨⟨z0, z1, z2, z3⟩, z4, z5, z6, z7, z8⟩
                          go_simp
                        try simp only [Act.put, List.setIfInBounds_toArray, List.set_cons_zero, List.set_cons_succ]
                        refine wpAnyH_ready (rs := [6]) (by kernel_rfl) (by simp) ?_
                        refine AllReadyH.cons rfl (fun K hK => ?_) AllReadyH.nil
                        go_simp
                        refine (hcS _).mono ?_
                        rintro e u1 ⟨rfl, hbN⟩
                        have hS1 := (show (fun w' : World => (w'.cell? ⟨wr0, 0, none⟩ = some (.int .i64 a) ∧ w'.cell? ⟨wr0, 1, none⟩ = some (.int .i64 p) ∧ w'.cell? ⟨wr0, 2, none⟩ = some (.int .i64 b) ∧ w'.cell? ⟨wr0, 3, none⟩ = some (.int .i64 q)) ∧ (w'.cell? ⟨w.heap.size, 1, none⟩ = some (.slice (some ⟨b1, o1, none⟩) n c) ∧ w'.cell? ⟨b1, o1 + k * 4, none⟩ = some (.int .i64 a2) ∧ w'.cell? ⟨b1, o1 + k * 4 + 1, none⟩ = some (.int .i64 p2) ∧ w'.cell? ⟨b1, o1 + k * 4 + 2, none⟩ = some (.int .i64 b2) ∧ w'.cell? ⟨b1, o1 + k * 4 + 3, none⟩ = some (.int .i64 q2))) u1 from ⟨⟨(hbN.cell (p := ⟨wr0, 0, none⟩) HS2.out.2.1.k.lt).trans c2, (hbN.cell (p := ⟨wr0, 1, none⟩) HS2.out.2.1.k.lt).trans c3, (hbN.cell (p := ⟨wr0, 2, none⟩) HS2.out.2.1.k.lt).trans c4, (hbN.cell (p := ⟨wr0, 3, none⟩) HS2.out.2.1.k.lt).trans c5⟩, (hbN.cell (p := ⟨w.heap.size, 1, none⟩) HS2.out.2.1.g.lt).trans c1, (hbN.cell (p := ⟨b1, _, none⟩) (World.block_lt_of_cell? wr _ e0)).trans e0, (hbN.cell (p := ⟨b1, _, none⟩) (World.block_lt_of_cell? wr _ e1)).trans e1, (hbN.cell (p := ⟨b1, _, none⟩) (World.block_lt_of_cell? wr _ e2)).trans e2, (hbN.cell (p := ⟨b1, _, none⟩) (World.block_lt_of_cell? wr _ e3)).trans e3⟩)
                        refine hK.out _ _ hS1 (fun _ => ?_)
                        clear hK K
                        try simp only [Act.put, List.setIfInBounds_toArray, List.set_cons_zero, List.set_cons_succ]
                        refine wpAnyH_done (by kernel_rfl) ?_ _
                        have HE5 := Kp.mk ((HS2.out.2.1.below (Below.refl _ _).drew).below hbN)
                        clear hS0 hS1 hbN c0 c1 c2 c3 c4 c5 e0 e1 e2 e3
                        go_wp2_with fail
                        go_roundw
                        case rel => exact ⟨k + 1, by go_num, by omega, Kp.mk ⟨HS3.out, HE5.out⟩⟩
                        case measure => simp [intOf]; omega
                    · obtain rfl : k = i := by omega
                      have HF := Kp.mk (And.intro (okTo_step HO.out.2.1 HO.out.1 HY.out HK2.out.1) (And.intro HK2.out.2.g HK2.out.2.b))
                      have hlk : ¬ (k : Int) < k := by omega
                      clear HK2
                      go_wp2_with fail
                      go_roundw
                      case rel => exact ⟨k + 1, by go_num, by omega, HF⟩
                      case measure => simp [intOf]; omega
          · obtain rfl : i = n := by omega
            have HF := Kp.mk (show chkP S ls = 0 from chk_good (good_of_okTo HS.out (by rw [HL.out]; exact hok)))
            have HBB := Kp.mk hb
            clear hb hok HK hg
            go_wp2_with fail
            go_ret
            exact ⟨by rw [HF.out]; rfl, HBB.out⟩
end Go.Proofs.Ytlmonnggklfniaa.Oct
