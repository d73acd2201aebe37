/- Statements of layer 12 (graph): GraphPeers, the walk. -/
import Derived.Test.YtlmonnggklfniaaGraZ
import Derived.Test.YtlmonnggklfniaaGraY
namespace Go.Proofs.Ytlmonnggklfniaa.Oct
open Go.RowKit
set_option linter.unusedVariables false
set_option linter.unusedSimpArgs false

/-- What lies there behind made. -/
structure Pw (w : World) (S : Int) (A : Option Addr) (n c : Nat) (ls : List Lk) (b2 : Option Addr) (n2 c2 : Nat) (up : List Bool) (X : World) : Prop where
  g : Vb 24 X w.heap.size [.int .i64 S, .slice A n c]
  l : Ol X w.heap.size (.slice A n c) n ls
  u : Bl X w.heap.size b2 n2 c2 up
  b : Below w.heap.size w X
section
variable {w : World} {S : Int} {A : Option Addr} {n c : Nat} {ls : List Lk} {b2 : Option Addr} {n2 c2 : Nat} {up : List Bool} {X Y : World}
theorem Pw.step (h : Pw w S A n c ls b2 n2 c2 up X) (hb : Below X.heap.size X Y) : Pw w S A n c ls b2 n2 c2 up Y := ⟨h.g.below hb h.g.lt, h.l.below hb, h.u.below (hb.mono h.b.size), h.b.trans (hb.mono h.b.size)⟩
theorem Pw.cells (h : Pw w S A n c ls b2 n2 c2 up X) : X.cell? ⟨w.heap.size, 0, none⟩ = some (.int .i64 S) ∧ X.cell? ⟨w.heap.size, 1, none⟩ = some (.slice A n c) := ⟨h.g.cell 0 rfl, h.g.cell 1 rfl⟩
/-- The graph is made anew. -/
theorem Pw.start {X : World} {S0 : Int} {b : Option Addr} {n0 c0 : Nat} (hg : Vb 24 X w.heap.size [.int .i64 S0, .slice b n0 c0]) (hl : Ol X w.heap.size (.slice A n c) n ls) (hu : Bl X w.heap.size b2 n2 c2 up) (hb : Below w.heap.size w X) : Pw w S A n c ls b2 n2 c2 up ((X.setCell ⟨w.heap.size, 0, none⟩ (.int .i64 S)).setCell ⟨w.heap.size, 1, none⟩ (.slice A n c)) := by
  have g1 := grownBy_set X w.heap.size 0 (.int .i64 S)
  have hO1 := hg.set 0 (.int .i64 S)
  have g2 := grownBy_set (X.setCell ⟨w.heap.size, 0, none⟩ (.int .i64 S)) w.heap.size 1 (.slice A n c)
  have hz := hb.size
  have hB := below_grown (below_grown (Below.refl w.heap.size X) g1 hz (Nat.le_refl _)) g2 (Nat.le_trans hz g1.size) (Nat.le_refl _)
  exact ⟨hO1.set 1 _, ol_other (ol_other hl hg (by decide) g1) hO1 (by decide) g2, hu.below hB, hb.trans hB⟩
end
theorem filt_eq {ls : List Lk} {S : Int} (hg : Good S ls) (up : List Bool) {s x : Int} (hx : x ∈ reachP S ls up s) : reachP S ls up x = reachP S ls up s := by
  obtain ⟨_, hs, hx1⟩ := reach_mem hx
  have hr := (reach_iff hg up hs).1 hx
  rw [reach_good hg up hs, reach_good hg up hx1]
  refine List.filter_congr (fun y hy => ?_)
  have h1 := row_rst hg up hx1 (x := y)
  have h2 := row_rst hg up hs (x := y)
  have : (y ∈ rowP (nbP (entries ls 0) up) x 6) ↔ (y ∈ rowP (nbP (entries ls 0) up) s 6) := by
    rw [h1, h2]
    exact ⟨fun h => hr.trans h, fun h => (hr.symm (fun _ _ h => h.symm)).trans h⟩
  exact decide_eq_decide.2 this
theorem self_in {ls : List Lk} {S : Int} (hg : Good S ls) (up : List Bool) {s : Int} (hs : 1 ≤ s ∧ s ≤ S) : s ∈ reachP S ls up s := (reach_iff hg up hs).2 .refl
theorem port_in {S : Int} {ls : List Lk} {s : Int} {j : Nat} (h : j < 4) : ((j : Int) + 1 ∈ portsP S ls s) ↔ (peerP S ls (s, (j : Int) + 1)).isSome = true := by
  unfold portsP
  rw [List.mem_filter]
  have : (j : Int) + 1 ∈ ([1, 2, 3, 4] : List Int) := List.mem_of_getElem? (four_at h)
  exact ⟨fun h => h.2, fun h => ⟨this, h⟩⟩

theorem Oi.cellsP {w : World} {base g n c : Nat} {l : List Int} (h : Oi w base (.slice (some ⟨g, 0, none⟩) n c) n l) {j : Nat} (hj : j < n) : w.cell? ⟨g, j, none⟩ = some (.int .i64 (l.getD j 0)) := by
  obtain ⟨b, off, e, _, hc⟩ := h.rd.at_ (by omega)
  have e := Option.some.inj e
  injection e with e1 e2 _
  subst e1 e2
  have := hc j hj
  rwa [Nat.zero_add] at this
/-- What lies there behind Reach. -/
structure Pr (w : World) (S : Int) (A : Option Addr) (n c : Nat) (ls : List Lk) (b2 : Option Addr) (n2 c2 : Nat) (up : List Bool) (A5 : Option Addr) (m c5 : Nat) (L : List Int) (X : World) : Prop where
  p : Pw w S A n c ls b2 n2 c2 up X
  o : Oi X w.heap.size (.slice A5 m c5) m L
theorem Pr.step {w : World} {S : Int} {A : Option Addr} {n c : Nat} {ls : List Lk} {b2 : Option Addr} {n2 c2 : Nat} {up : List Bool} {A5 : Option Addr} {m c5 : Nat} {L : List Int} {X Y : World} (h : Pr w S A n c ls b2 n2 c2 up A5 m c5 L X) (hb : Below X.heap.size X Y) : Pr w S A n c ls b2 n2 c2 up A5 m c5 L Y := ⟨h.p.step hb, h.o.below hb⟩
theorem PeerIs.two (r : Option ((Int × Int) × Int)) : ∃ (x y i : Int) (is : Bool), (∀ e, PeerIs r e → e = .returned (.tuple #[.agg #[.int .i64 x, .int .i64 y], .int .i64 i, .bool is])) ∧ r.isSome = is ∧ (is = true → r = some ((x, y), i)) := by
  cases r with
  | none => exact ⟨0, 0, 0, false, fun e h => h, rfl, fun h => by cases h⟩
  | some v => exact ⟨v.1.1, v.1.2, v.2, true, fun e h => h, rfl, fun _ => rfl⟩

set_option maxRecDepth 100000 in
set_option maxHeartbeats 4000000 in
theorem graphPeers_walk (S : Int) (ls : List Lk) (b : Option Addr) (n c : Nat) (up : List Bool) (b2 : Option Addr) (n2 c2 : Nat) (w : World) (h : Lr w w.heap.size b n c ls) (hu : Bl w w.heap.size b2 n2 c2 up) :
    Calls Try.prog 5 #[.agg #[.int .i64 S, .slice b n c], .slice b2 n2 c2] w fun e w' => e = .returned (.bool true) ∧ Below w.heap.size w w' := by
  have hg0 : Vb 24 (w.alloc (.cells #[.int .i64 S, .slice b n c] 24)) w.heap.size [.int .i64 S, .slice b n c] := Vb.new 24 w [.int .i64 S, .slice b n c]
  have hb0 := below_alloc w (.cells #[.int .i64 S, .slice b n c] 24)
  have H := Kp.mk (And.intro h hu)
  clear h hu
  go_enter Try.func5, Try.ntmps5
  go_upto_region 1 with fail
  generalize w.alloc (.cells #[.int .i64 S, .slice b n c] 24) = w0 at *
  go_wp2_with fail
  refine (worksG_any w0).mono ?_
  rintro e w1 ⟨rfl, hb1⟩
  have hg1 := hg0.below hb1 hg0.lt
  have hB1 := hb0.trans (hb1.mono hb0.size)
  have c0 := hg1.cell 0 rfl
  have c1 := hg1.cell 1 rfl
  have hcM := made_any ((H.out.1.below hB1).more hB1.size) S
  have HW1 := Kp.mk (And.intro hg1 hB1)
  clear hg0 hb0 hb1 hg1 hB1
  go_upto_region 3 with fail
  go_wp2_with fail
  refine hcM.mono ?_
  rintro e w2 ⟨So, A1, n1, c1', rfl, ⟨l1, hO, hgd⟩, hb2⟩
  have hg2 := HW1.out.1.below hb2 HW1.out.1.lt
  have hB2 := HW1.out.2.trans (hb2.mono HW1.out.2.size)
  have hP := Pw.start hg2 (ol_lower hO HW1.out.2.size) (H.out.2.below hB2) hB2 (S := So)
  have d0 := hg2.cell 0 rfl
  have d1 := hg2.cell 1 rfl
  have f0 := hg2.free 0
  have f1 := hg2.free 1
  have HG := Kp.mk hgd
  have HP := Kp.mk hP
  obtain ⟨SN, rfl⟩ : ∃ k : Nat, So = (k : Int) := ⟨So.toNat, by have := hgd.1; omega⟩
  have hSN : SN ≤ 6 := by have := hgd.1; omega
  have hSN1 : 1 ≤ SN := by have := hgd.1; omega
  clear c0 c1 hcM HW1 hgd hP hg2 hB2 hO hb2 H
  go_wp2_with fail
  clear d0 d1 f0 f1
  generalize (w2.setCell ⟨w.heap.size, 0, none⟩ (.int .i64 SN)).setCell ⟨w.heap.size, 1, none⟩ (.slice A1 n1 c1') = w3 at *
  clear w2 w1
  go_loopw [5] (fun s5 wr => ∃ i : Nat, s5 = .int .i64 ((i : Int) + 1) ∧ i ≤ SN ∧ Kp (Pw w SN A1 n1 c1' l1 b2 n2 c2 up wr)) (fun s5 _ => SN + 1 - (intOf s5).toNat)
  case atStart => exact ⟨0, rfl, Nat.zero_le _, HP⟩
  case round =>
    clear HP
    obtain ⟨i, rfl, hi, HP⟩ := hrel
    obtain ⟨c0, c1⟩ := HP.out.cells
    by_cases hlt : i < SN
    · have hlt2 : (i : Int) + 1 ≤ SN := by omega
      go_wp2_with fail
      clear c0 c1
      go_loopw [6] (fun s6 wr => ∃ j : Nat, s6 = .int .i64 ((j : Int) + 1) ∧ j ≤ 4 ∧ Kp (Pw w SN A1 n1 c1' l1 b2 n2 c2 up wr)) (fun s6 _ => 5 - (intOf s6).toNat)
      case atStart => exact ⟨0, rfl, Nat.zero_le _, HP⟩
      case round =>
        clear HP
        obtain ⟨j, rfl, hj, HP⟩ := hrel
        by_cases hj4 : j < 4
        · have hj5 : (j : Int) + 1 ≤ 4 := by omega
          obtain ⟨s, hs⟩ : ∃ s : Int, s = (i : Int) + 1 := ⟨_, rfl⟩
          obtain ⟨p, hp⟩ : ∃ p : Int, p = (j : Int) + 1 := ⟨_, rfl⟩
          have HJ := Kp.mk (hp ▸ port_in (S := SN) (ls := l1) (s := s) hj4)
          have HSP := Kp.mk (And.intro hs hp)
          rw [← hp] at hj5
          rw [← hs, ← hp]
          have hp1 : 1 ≤ p := by omega
          have hs1 : 1 ≤ s := by omega
          have hs2 : s ≤ SN := by omega
          clear hs hp
          go_upto_region 11 with fail
          have hE : Vb 26 (wr.alloc (.cells #[.int .i64 s, .int .i64 p] 26)) wr.heap.size [.int .i64 s, .int .i64 p] := Vb.new 26 wr [.int .i64 s, .int .i64 p]
          have hP := HP.out.step (below_alloc wr (.cells #[.int .i64 s, .int .i64 p] 26))
          clear HP
          generalize wr.alloc (.cells #[.int .i64 s, .int .i64 p] 26) = wa at *
          generalize wr.heap.size = eb at *
          obtain ⟨x, y, k, is, hpi, his, hpk⟩ := PeerIs.two (peerP SN l1 (s, p))
          obtain ⟨c0, c1⟩ := hP.cells
          have e0 := hE.cell 0 rfl
          have e1 := hE.cell 1 rfl
          have hcP := gPeer_any hP.l.lr (Nat.le_refl _) SN s p
          have HPe := Kp.mk (And.intro hP hE)
          have HPI := Kp.mk (And.intro hpi hpk)
          have HIS := Kp.mk (show decide (p ∈ portsP SN l1 s) = is by rw [← his]; cases hq : (peerP SN l1 (s, p)).isSome with
            | true => exact decide_eq_true (HJ.out.2 hq)
            | false => exact decide_eq_false (fun hm => by have := HJ.out.1 hm; rw [hq] at this; cases this))
          clear hP hE hpi his hpk HJ
          go_wp2_with fail
          refine hcP.mono ?_
          rintro e wb ⟨he, hb⟩
          obtain rfl := HPI.out.1 e he
          have hP := HPe.out.1.step hb
          have hE := HPe.out.2.below hb HPe.out.2.lt
          clear hcP he hb c0 c1 e0 e1 HPe
          go_upto_region 12 with fail
          have hX : Vb 26 (wb.alloc (.cells #[.int .i64 x, .int .i64 y] 26)) wb.heap.size [.int .i64 x, .int .i64 y] := Vb.new 26 wb [.int .i64 x, .int .i64 y]
          have hbx := below_alloc wb (.cells #[.int .i64 x, .int .i64 y] 26)
          replace hP := hP.step hbx
          replace hE := hE.below hbx hE.lt
          clear hbx
          generalize wb.alloc (.cells #[.int .i64 x, .int .i64 y] 26) = wc at *
          generalize wb.heap.size = xb at *
          obtain ⟨c0, c1⟩ := hP.cells
          have hcQ := gPorts_any hP.l.lr (Nat.le_refl _) SN s
          have HPe := Kp.mk (And.intro hP (And.intro hE hX))
          clear hP hE hX
          go_wp2_with fail
          refine hcQ.mono ?_
          rintro e wd ⟨v, rfl, ⟨m, hO⟩, hb⟩
          obtain ⟨A5, c5, rfl, _⟩ := hO.form
          have hcI := in_any hO.rd p
          rw [HIS.out] at hcI
          have hP := HPe.out.1.step hb
          have hE := HPe.out.2.1.below hb HPe.out.2.1.lt
          have hX := HPe.out.2.2.below hb HPe.out.2.2.lt
          clear hcQ hb c0 c1 HPe hO HIS
          obtain ⟨c0, c1⟩ := hP.cells
          have x0 := hX.cell 0 rfl
          have x1 := hX.cell 1 rfl
          have hcR := gPeer_any hP.l.lr (Nat.le_refl _) SN x y
          have HPe := Kp.mk (And.intro hP (And.intro hE hX))
          clear hP hE hX
          cases is with
          | false =>
            go_wp2_with (refine hcI.mono ?_; rintro e wx ⟨rfl, hwx⟩; rw [hwx]; clear hwx wx)
            go_roundw
            case rel => exact ⟨j + 1, by rw [HSP.out.2]; go_num, by omega, Kp.mk HPe.out.1⟩
            case measure => rw [HSP.out.2]; simp [intOf]; omega
          | true =>
            have HB := Kp.mk (peer_back (HPI.out.2 rfl))
            rw [HB.out.1] at hcR
            clear HPI
            go_upto_region 15 with (refine hcI.mono ?_; rintro e wx ⟨rfl, hwx⟩; rw [hwx]; clear hwx wx)
            go_wp2_with fail
            refine hcR.mono ?_
            rintro e we ⟨he, hb⟩
            obtain rfl : e = .returned (.tuple #[.agg #[.int .i64 s, .int .i64 p], .int .i64 k, .bool true]) := he
            have hP := HPe.out.1.step hb
            have hE := HPe.out.2.1.below hb HPe.out.2.1.lt
            clear hcR hcI hb c0 c1 x0 x1 HPe
            go_upto_region 16 with fail
            have hK : Vb 26 (we.alloc (.cells #[.int .i64 s, .int .i64 p] 26)) we.heap.size [.int .i64 s, .int .i64 p] := Vb.new 26 we [.int .i64 s, .int .i64 p]
            have hbk := below_alloc we (.cells #[.int .i64 s, .int .i64 p] 26)
            replace hP := hP.step hbk
            replace hE := hE.below hbk hE.lt
            clear hbk
            generalize we.alloc (.cells #[.int .i64 s, .int .i64 p] 26) = wf at *
            generalize we.heap.size = kb at *
            obtain ⟨c0, c1⟩ := hP.cells
            have e0 := hE.cell 0 rfl
            have e1 := hE.cell 1 rfl
            have k0 := hK.cell 0 rfl
            have k1 := hK.cell 1 rfl
            obtain ⟨nn, lk, hlk, rfl, hAB⟩ := HB.out.2
            have hnn : nn < n1 := by have := (List.getElem?_eq_some_iff.1 hlk).1; have := hP.l.len; omega
            obtain ⟨bl, ol, rfl, _, fl⟩ := hP.l.lr.at_ (by omega)
            obtain ⟨d0, d1, d2, d3⟩ := fl nn lk hlk
            clear fl
            have hnn2 : (nn : Int) < n1 := by omega
            have hnn3 : ¬ (n1 : Int) ≤ nn := by omega
            have HPe := Kp.mk (And.intro hP (And.intro hE hK))
            clear hP hE hK HB
            obtain ⟨la, lp, lb, lq⟩ := lk
            clear hlk
            dsimp only at d0 d1 d2 d3
            have hend : ∀ (x y u v : Int) w, (Op.equalIn 10000 26 (.agg #[.int .i64 x, .int .i64 y]) (.agg #[.int .i64 u, .int .i64 v])).run Try.prog w = .ok (decide ((x, y) = (u, v))) w := fun x y u v w => eq_end x y u v w
            have hAB2 : (la, lp) = (s, p) ∨ ((la, lp) ≠ (s, p) ∧ (lb, lq) = (s, p)) := by
              by_cases h : (la, lp) = (s, p)
              · exact .inl h
              · exact .inr ⟨h, hAB.resolve_left h⟩
            have HAB := Kp.mk hAB2
            clear hAB hAB2
            have hK1 := hend s p s p
            have hK2 := hend la lp s p
            have hK3 := hend lb lq s p
            rw [decide_eq_true rfl] at hK1
            clear hend
            have HP16 := Kp.mk (HPe.out.1.step (Below.refl wf.heap.size wf).drew)
            have z0 : wf.drew.cell? _ = _ := c1
            have z1 : wf.drew.cell? _ = _ := e0
            have z2 : wf.drew.cell? _ = _ := e1
            have z3 : wf.drew.cell? _ = _ := k0
            have z4 : wf.drew.cell? _ = _ := k1
            have z5 : wf.drew.cell? _ = _ := d0
            have z6 : wf.drew.cell? _ = _ := d1
            have z7 : wf.drew.cell? _ = _ := d2
            have z8 : wf.drew.cell? _ = _ := d3
            clear c0 c1 e0 e1 k0 k1 d0 d1 d2 d3 HPe
            rcases HAB.out with h1 | ⟨h1, h2⟩
            · rw [decide_eq_true h1] at hK2
              clear h1 hK3 HAB
              refine wp_region_held_drew (S := fun X => X = wf.drew) (by kernel_rfl) rfl (fun _ => ?_)
              generalize wf.drew = u0 at *
              refine takeD (i := 0) (v := .bool true) (some 56) rfl rfl (by kernel_rfl) (by kernel_rfl) (by kernel_rfl) (fun _ _ _ h => h) (Or.inl ⟨by rfl, ?_⟩) rfl ?_
              · rintro w' rfl
                go_simp
              try simp only [Act.put, List.setIfInBounds_toArray, List.set_cons_zero, List.set_cons_succ]
              refine takeD (i := 1) (v := .bool false) (some 57) rfl rfl (by kernel_rfl) (by kernel_rfl) (by kernel_rfl) (fun _ _ _ h => h) (Or.inl ⟨by rfl, ?_⟩) rfl ?_
              · rintro w' rfl
                go_simp
              try simp only [Act.put, List.setIfInBounds_toArray, List.set_cons_zero, List.set_cons_succ]
              refine takeD (i := 2) (v := .bool false) (some 58) rfl rfl (by kernel_rfl) (by kernel_rfl) (by kernel_rfl) (fun _ _ _ h => h) (Or.inl ⟨by rfl, ?_⟩) rfl ?_
              · rintro w' rfl
                go_simp
              try simp only [Act.put, List.setIfInBounds_toArray, List.set_cons_zero, List.set_cons_succ]
              refine takeD (i := 3) (v := .agg #[.int .i64 s, .int .i64 p]) (some 59) rfl rfl (by kernel_rfl) (by kernel_rfl) (by kernel_rfl) (fun _ _ _ h => h) (Or.inl ⟨by rfl, ?_⟩) rfl ?_
              · rintro w' rfl
                go_simp
              try simp only [Act.put, List.setIfInBounds_toArray, List.set_cons_zero, List.set_cons_succ]
              refine takeD (i := 4) (v := .agg #[.int .i64 s, .int .i64 p]) (some 60) rfl rfl (by kernel_rfl) (by kernel_rfl) (by kernel_rfl) (fun _ _ _ h => h) (Or.inl ⟨by rfl, ?_⟩) rfl ?_
              · rintro w' rfl
                go_simp
              try simp only [Act.put, List.setIfInBounds_toArray, List.set_cons_zero, List.set_cons_succ]
              refine takeD (i := 5) (v := .bool false) (some 61) rfl rfl (by kernel_rfl) (by kernel_rfl) (by kernel_rfl) (fun _ _ _ h => h) (Or.inl ⟨by rfl, ?_⟩) rfl ?_
              · rintro w' rfl
                go_simp
              try simp only [Act.put, List.setIfInBounds_toArray, List.set_cons_zero, List.set_cons_succ]
              refine takeD (i := 6) (v := .bool false) (some 62) rfl rfl (by kernel_rfl) (by kernel_rfl) (by kernel_rfl) (fun _ _ _ h => h) (Or.inl ⟨by rfl, ?_⟩) rfl ?_
              · rintro w' rfl
                go_simp
              try simp only [Act.put, List.setIfInBounds_toArray, List.set_cons_zero, List.set_cons_succ]
              refine takeD (i := 7) (v := .bool false) (some 63) rfl rfl (by kernel_rfl) (by kernel_rfl) (by kernel_rfl) (fun _ _ _ h => h) (Or.inl ⟨by rfl, ?_⟩) rfl ?_
              · rintro w' rfl
                go_simp
              try simp only [Act.put, List.setIfInBounds_toArray, List.set_cons_zero, List.set_cons_succ]
              refine takeD (i := 8) (v := .int .i64 nn) (some 64) rfl rfl (by kernel_rfl) (by kernel_rfl) (by kernel_rfl) (fun _ _ _ h => h) (Or.inl ⟨by rfl, ?_⟩) rfl ?_
              · rintro w' rfl
                go_simp
              try simp only [Act.put, List.setIfInBounds_toArray, List.set_cons_zero, List.set_cons_succ]
              refine takeD (i := 9) (v := .int .i64 nn) (some 65) rfl rfl (by kernel_rfl) (by kernel_rfl) (by kernel_rfl) (fun _ _ _ h => h) (Or.inl ⟨by rfl, ?_⟩) rfl ?_
              · rintro w' rfl
                go_simp
              try simp only [Act.put, List.setIfInBounds_toArray, List.set_cons_zero, List.set_cons_succ]
              refine takeD (i := 10) (v := .bool false) (some 66) rfl rfl (by kernel_rfl) (by kernel_rfl) (by kernel_rfl) (fun _ _ _ h => h) (Or.inl ⟨by rfl, ?_⟩) rfl ?_
              · rintro w' rfl
                go_simp
              try simp only [Act.put, List.setIfInBounds_toArray, List.set_cons_zero, List.set_cons_succ]
              refine takeD (i := 11) (v := .bool false) (some 67) rfl rfl (by kernel_rfl) (by kernel_rfl) (by kernel_rfl) (fun _ _ _ h => h) (Or.inl ⟨by rfl, ?_⟩) rfl ?_
              · rintro w' rfl
                go_simp
              try simp only [Act.put, List.setIfInBounds_toArray, List.set_cons_zero, List.set_cons_succ]
              refine takeD (i := 12) (v := .bool false) (some 68) rfl rfl (by kernel_rfl) (by kernel_rfl) (by kernel_rfl) (fun _ _ _ h => h) (Or.inl ⟨by rfl, ?_⟩) rfl ?_
              · rintro w' rfl
                go_simp
              try simp only [Act.put, List.setIfInBounds_toArray, List.set_cons_zero, List.set_cons_succ]
              refine takeD (i := 13) (v := .int .i64 nn) (some 69) rfl rfl (by kernel_rfl) (by kernel_rfl) (by kernel_rfl) (fun _ _ _ h => h) (Or.inl ⟨by rfl, ?_⟩) rfl ?_
              · rintro w' rfl
                go_simp
              try simp only [Act.put, List.setIfInBounds_toArray, List.set_cons_zero, List.set_cons_succ]
              refine takeD (i := 14) (v := .bool false) (some 70) rfl rfl (by kernel_rfl) (by kernel_rfl) (by kernel_rfl) (fun _ _ _ h => h) (Or.inl ⟨by rfl, ?_⟩) rfl ?_
              · rintro w' rfl
                go_simp
              try simp only [Act.put, List.setIfInBounds_toArray, List.set_cons_zero, List.set_cons_succ]
              refine takeD (i := 15) (v := .bool false) (some 71) rfl rfl (by kernel_rfl) (by kernel_rfl) (by kernel_rfl) (fun _ _ _ h => h) (Or.inl ⟨by rfl, ?_⟩) rfl ?_
              · rintro w' rfl
                go_simp
              try simp only [Act.put, List.setIfInBounds_toArray, List.set_cons_zero, List.set_cons_succ]
              refine takeD (i := 16) (v := .bool false) (some 72) rfl rfl (by kernel_rfl) (by kernel_rfl) (by kernel_rfl) (fun _ _ _ h => h) (Or.inl ⟨by rfl, ?_⟩) rfl ?_
              · rintro w' rfl
                go_simp
              try simp only [Act.put, List.setIfInBounds_toArray, List.set_cons_zero, List.set_cons_succ]
              refine takeD (i := 17) (v := .int .i64 nn) (some 73) rfl rfl (by kernel_rfl) (by kernel_rfl) (by kernel_rfl) (fun _ _ _ h => h) (Or.inl ⟨by rfl, ?_⟩) rfl ?_
              · rintro w' rfl
                go_simp
              try simp only [Act.put, List.setIfInBounds_toArray, List.set_cons_zero, List.set_cons_succ]
              refine takeD (i := 18) (v := .pointer (some ⟨w.heap.size, 1, none⟩)) (some 74) rfl rfl (by kernel_rfl) (by kernel_rfl) (by kernel_rfl) (fun _ _ _ h => h) (Or.inl ⟨by rfl, ?_⟩) rfl ?_
              · rintro w' rfl
                go_simp
              try simp only [Act.put, List.setIfInBounds_toArray, List.set_cons_zero, List.set_cons_succ]
              refine takeD (i := 19) (v := .slice (some ⟨bl, ol, none⟩) n1 c1') (some 75) rfl rfl (by kernel_rfl) (by kernel_rfl) (by kernel_rfl) (fun _ _ _ h => h) (Or.inl ⟨by rfl, ?_⟩) rfl ?_
              · rintro w' rfl
                go_simp
              try simp only [Act.put, List.setIfInBounds_toArray, List.set_cons_zero, List.set_cons_succ]
              refine takeD (i := 20) (v := .int .i64 n1) (some 76) rfl rfl (by kernel_rfl) (by kernel_rfl) (by kernel_rfl) (fun _ _ _ h => h) (Or.inl ⟨by rfl, ?_⟩) rfl ?_
              · rintro w' rfl
                go_simp
              try simp only [Act.put, List.setIfInBounds_toArray, List.set_cons_zero, List.set_cons_succ]
              refine takeD (i := 21) (v := .bool false) (some 77) rfl rfl (by kernel_rfl) (by kernel_rfl) (by kernel_rfl) (fun _ _ _ h => h) (Or.inl ⟨by rfl, ?_⟩) rfl ?_
              · rintro w' rfl
                go_simp
              try simp only [Act.put, List.setIfInBounds_toArray, List.set_cons_zero, List.set_cons_succ]
              refine takeD (i := 22) (v := .bool false) (some 78) rfl rfl (by kernel_rfl) (by kernel_rfl) (by kernel_rfl) (fun _ _ _ h => h) (Or.inl ⟨by rfl, ?_⟩) rfl ?_
              · rintro w' rfl
                go_simp
              try simp only [Act.put, List.setIfInBounds_toArray, List.set_cons_zero, List.set_cons_succ]
              refine takeD (i := 23) (v := .bool false) (some 79) rfl rfl (by kernel_rfl) (by kernel_rfl) (by kernel_rfl) (fun _ _ _ h => h) (Or.inl ⟨by rfl, ?_⟩) rfl ?_
              · rintro w' rfl
                go_simp
              try simp only [Act.put, List.setIfInBounds_toArray, List.set_cons_zero, List.set_cons_succ]
              refine takeD (i := 24) (v := .pointer (some ⟨w.heap.size, 1, none⟩)) (some 80) rfl rfl (by kernel_rfl) (by kernel_rfl) (by kernel_rfl) (fun _ _ _ h => h) (Or.inl ⟨by rfl, ?_⟩) rfl ?_
              · rintro w' rfl
                go_simp
              try simp only [Act.put, List.setIfInBounds_toArray, List.set_cons_zero, List.set_cons_succ]
              refine takeD (i := 25) (v := .slice (some ⟨bl, ol, none⟩) n1 c1') (some 81) rfl rfl (by kernel_rfl) (by kernel_rfl) (by kernel_rfl) (fun _ _ _ h => h) (Or.inl ⟨by rfl, ?_⟩) rfl ?_
              · rintro w' rfl
                go_simp
              try simp only [Act.put, List.setIfInBounds_toArray, List.set_cons_zero, List.set_cons_succ]
              refine takeD (i := 26) (v := .int .i64 nn) (some 82) rfl rfl (by kernel_rfl) (by kernel_rfl) (by kernel_rfl) (fun _ _ _ h => h) (Or.inl ⟨by rfl, ?_⟩) rfl ?_
              · rintro w' rfl
                go_simp
              try simp only [Act.put, List.setIfInBounds_toArray, List.set_cons_zero, List.set_cons_succ]
              refine takeD (i := 27) (v := .pointer (some ⟨bl, ol + nn * 4, none⟩)) (some 83) rfl rfl (by kernel_rfl) (by kernel_rfl) (by kernel_rfl) (fun _ _ _ h => h) (Or.inl ⟨by rfl, ?_⟩) rfl ?_
              · rintro w' rfl
                go_simp
              try simp only [Act.put, List.setIfInBounds_toArray, List.set_cons_zero, List.set_cons_succ]
              refine takeD (i := 28) (v := .pointer (some ⟨bl, ol + nn * 4, none⟩)) (some 84) rfl rfl (by kernel_rfl) (by kernel_rfl) (by kernel_rfl) (fun _ _ _ h => h) (Or.inl ⟨by rfl, ?_⟩) rfl ?_
              · rintro w' rfl
                go_simp
              try simp only [Act.put, List.setIfInBounds_toArray, List.set_cons_zero, List.set_cons_succ]
              refine takeD (i := 29) (v := .agg #[.int .i64 la, .int .i64 lp]) (some 85) rfl rfl (by kernel_rfl) (by kernel_rfl) (by kernel_rfl) (fun _ _ _ h => h) (Or.inl ⟨by rfl, ?_⟩) rfl ?_
              · rintro w' rfl
                go_simp
              try simp only [Act.put, List.setIfInBounds_toArray, List.set_cons_zero, List.set_cons_succ]
              refine takeD (i := 30) (v := .agg #[.int .i64 s, .int .i64 p]) (some 86) rfl rfl (by kernel_rfl) (by kernel_rfl) (by kernel_rfl) (fun _ _ _ h => h) (Or.inl ⟨by rfl, ?_⟩) rfl ?_
              · rintro w' rfl
                go_simp
              try simp only [Act.put, List.setIfInBounds_toArray, List.set_cons_zero, List.set_cons_succ]
              refine takeD (i := 31) (v := .bool false) (some 87) rfl rfl (by kernel_rfl) (by kernel_rfl) (by kernel_rfl) (fun _ _ _ h => h) (Or.inl ⟨by rfl, ?_⟩) rfl ?_
              · rintro w' rfl
                go_simp
              try simp only [Act.put, List.setIfInBounds_toArray, List.set_cons_zero, List.set_cons_succ]
              refine takeD (i := 32) (v := .bool false) (some 88) rfl rfl (by kernel_rfl) (by kernel_rfl) (by kernel_rfl) (fun _ _ _ h => h) (Or.inl ⟨by rfl, ?_⟩) rfl ?_
              · rintro w' rfl
                go_simp
              try simp only [Act.put, List.setIfInBounds_toArray, List.set_cons_zero, List.set_cons_succ]
              refine takeD (i := 33) (v := undef) (some 89) rfl rfl (by kernel_rfl) (by kernel_rfl) (by kernel_rfl) (fun _ _ _ h => h) (Or.inr ⟨by rfl, rfl⟩) rfl ?_
              try simp only [Act.put, List.setIfInBounds_toArray, List.set_cons_zero, List.set_cons_succ]
              refine takeD (i := 34) (v := undef) (some 90) rfl rfl (by kernel_rfl) (by kernel_rfl) (by kernel_rfl) (fun _ _ _ h => h) (Or.inr ⟨by rfl, rfl⟩) rfl ?_
              try simp only [Act.put, List.setIfInBounds_toArray, List.set_cons_zero, List.set_cons_succ]
              refine takeD (i := 35) (v := undef) (some 91) rfl rfl (by kernel_rfl) (by kernel_rfl) (by kernel_rfl) (fun _ _ _ h => h) (Or.inr ⟨by rfl, rfl⟩) rfl ?_
              try simp only [Act.put, List.setIfInBounds_toArray, List.set_cons_zero, List.set_cons_succ]
              refine takeD (i := 36) (v := undef) (some 92) rfl rfl (by kernel_rfl) (by kernel_rfl) (by kernel_rfl) (fun _ _ _ h => h) (Or.inr ⟨by rfl, rfl⟩) rfl ?_
              try simp only [Act.put, List.setIfInBounds_toArray, List.set_cons_zero, List.set_cons_succ]
              refine takeD (i := 37) (v := undef) (some 93) rfl rfl (by kernel_rfl) (by kernel_rfl) (by kernel_rfl) (fun _ _ _ h => h) (Or.inr ⟨by rfl, rfl⟩) rfl ?_
              try simp only [Act.put, List.setIfInBounds_toArray, List.set_cons_zero, List.set_cons_succ]
              refine takeD (i := 38) (v := undef) (some 94) rfl rfl (by kernel_rfl) (by kernel_rfl) (by kernel_rfl) (fun _ _ _ h => h) (Or.inr ⟨by rfl, rfl⟩) rfl ?_
              try simp only [Act.put, List.setIfInBounds_toArray, List.set_cons_zero, List.set_cons_succ]
              refine takeD (i := 39) (v := undef) (some 95) rfl rfl (by kernel_rfl) (by kernel_rfl) (by kernel_rfl) (fun _ _ _ h => h) (Or.inr ⟨by rfl, rfl⟩) rfl ?_
              try simp only [Act.put, List.setIfInBounds_toArray, List.set_cons_zero, List.set_cons_succ]
              refine takeD (i := 40) (v := undef) (some 96) rfl rfl (by kernel_rfl) (by kernel_rfl) (by kernel_rfl) (fun _ _ _ h => h) (Or.inr ⟨by rfl, rfl⟩) rfl ?_
              try simp only [Act.put, List.setIfInBounds_toArray, List.set_cons_zero, List.set_cons_succ]
              refine takeD (i := 41) (v := .bool false) (some 97) rfl rfl (by kernel_rfl) (by kernel_rfl) (by kernel_rfl) (fun _ _ _ h => h) (Or.inl ⟨by rfl, ?_⟩) rfl ?_
              · rintro w' rfl
                go_simp
              try simp only [Act.put, List.setIfInBounds_toArray, List.set_cons_zero, List.set_cons_succ]
              refine takeD (i := 42) (v := .bool false) (some 98) rfl rfl (by kernel_rfl) (by kernel_rfl) (by kernel_rfl) (fun _ _ _ h => h) (Or.inl ⟨by rfl, ?_⟩) rfl ?_
              · rintro w' rfl
                go_simp
              try simp only [Act.put, List.setIfInBounds_toArray, List.set_cons_zero, List.set_cons_succ]
              refine wpAnyH_done (by kernel_rfl) ?_ _
              clear z0 z1 z2 z3 z4 z5 z6 z7 z8
              go_wp2_with fail
              go_roundw
              case rel => exact ⟨j + 1, by rw [HSP.out.2]; go_num, by omega, Kp.mk HP16.out⟩
              case measure => rw [HSP.out.2]; simp [intOf]; omega
            · rw [decide_eq_false h1] at hK2
              rw [decide_eq_true h2] at hK3
              clear h1 h2 HAB
              refine wp_region_held_drew (S := fun X => X = wf.drew) (by kernel_rfl) rfl (fun _ => ?_)
              generalize wf.drew = u0 at *
              refine takeD (i := 0) (v := .bool true) (some 56) rfl rfl (by kernel_rfl) (by kernel_rfl) (by kernel_rfl) (fun _ _ _ h => h) (Or.inl ⟨by rfl, ?_⟩) rfl ?_
              · rintro w' rfl
                go_simp
              try simp only [Act.put, List.setIfInBounds_toArray, List.set_cons_zero, List.set_cons_succ]
              refine takeD (i := 1) (v := .bool false) (some 57) rfl rfl (by kernel_rfl) (by kernel_rfl) (by kernel_rfl) (fun _ _ _ h => h) (Or.inl ⟨by rfl, ?_⟩) rfl ?_
              · rintro w' rfl
                go_simp
              try simp only [Act.put, List.setIfInBounds_toArray, List.set_cons_zero, List.set_cons_succ]
              refine takeD (i := 2) (v := .bool false) (some 58) rfl rfl (by kernel_rfl) (by kernel_rfl) (by kernel_rfl) (fun _ _ _ h => h) (Or.inl ⟨by rfl, ?_⟩) rfl ?_
              · rintro w' rfl
                go_simp
              try simp only [Act.put, List.setIfInBounds_toArray, List.set_cons_zero, List.set_cons_succ]
              refine takeD (i := 3) (v := .agg #[.int .i64 s, .int .i64 p]) (some 59) rfl rfl (by kernel_rfl) (by kernel_rfl) (by kernel_rfl) (fun _ _ _ h => h) (Or.inl ⟨by rfl, ?_⟩) rfl ?_
              · rintro w' rfl
                go_simp
              try simp only [Act.put, List.setIfInBounds_toArray, List.set_cons_zero, List.set_cons_succ]
              refine takeD (i := 4) (v := .agg #[.int .i64 s, .int .i64 p]) (some 60) rfl rfl (by kernel_rfl) (by kernel_rfl) (by kernel_rfl) (fun _ _ _ h => h) (Or.inl ⟨by rfl, ?_⟩) rfl ?_
              · rintro w' rfl
                go_simp
              try simp only [Act.put, List.setIfInBounds_toArray, List.set_cons_zero, List.set_cons_succ]
              refine takeD (i := 5) (v := .bool false) (some 61) rfl rfl (by kernel_rfl) (by kernel_rfl) (by kernel_rfl) (fun _ _ _ h => h) (Or.inl ⟨by rfl, ?_⟩) rfl ?_
              · rintro w' rfl
                go_simp
              try simp only [Act.put, List.setIfInBounds_toArray, List.set_cons_zero, List.set_cons_succ]
              refine takeD (i := 6) (v := .bool false) (some 62) rfl rfl (by kernel_rfl) (by kernel_rfl) (by kernel_rfl) (fun _ _ _ h => h) (Or.inl ⟨by rfl, ?_⟩) rfl ?_
              · rintro w' rfl
                go_simp
              try simp only [Act.put, List.setIfInBounds_toArray, List.set_cons_zero, List.set_cons_succ]
              refine takeD (i := 7) (v := .bool false) (some 63) rfl rfl (by kernel_rfl) (by kernel_rfl) (by kernel_rfl) (fun _ _ _ h => h) (Or.inl ⟨by rfl, ?_⟩) rfl ?_
              · rintro w' rfl
                go_simp
              try simp only [Act.put, List.setIfInBounds_toArray, List.set_cons_zero, List.set_cons_succ]
              refine takeD (i := 8) (v := .int .i64 nn) (some 64) rfl rfl (by kernel_rfl) (by kernel_rfl) (by kernel_rfl) (fun _ _ _ h => h) (Or.inl ⟨by rfl, ?_⟩) rfl ?_
              · rintro w' rfl
                go_simp
              try simp only [Act.put, List.setIfInBounds_toArray, List.set_cons_zero, List.set_cons_succ]
              refine takeD (i := 9) (v := .int .i64 nn) (some 65) rfl rfl (by kernel_rfl) (by kernel_rfl) (by kernel_rfl) (fun _ _ _ h => h) (Or.inl ⟨by rfl, ?_⟩) rfl ?_
              · rintro w' rfl
                go_simp
              try simp only [Act.put, List.setIfInBounds_toArray, List.set_cons_zero, List.set_cons_succ]
              refine takeD (i := 10) (v := .bool false) (some 66) rfl rfl (by kernel_rfl) (by kernel_rfl) (by kernel_rfl) (fun _ _ _ h => h) (Or.inl ⟨by rfl, ?_⟩) rfl ?_
              · rintro w' rfl
                go_simp
              try simp only [Act.put, List.setIfInBounds_toArray, List.set_cons_zero, List.set_cons_succ]
              refine takeD (i := 11) (v := .bool false) (some 67) rfl rfl (by kernel_rfl) (by kernel_rfl) (by kernel_rfl) (fun _ _ _ h => h) (Or.inl ⟨by rfl, ?_⟩) rfl ?_
              · rintro w' rfl
                go_simp
              try simp only [Act.put, List.setIfInBounds_toArray, List.set_cons_zero, List.set_cons_succ]
              refine takeD (i := 12) (v := .bool false) (some 68) rfl rfl (by kernel_rfl) (by kernel_rfl) (by kernel_rfl) (fun _ _ _ h => h) (Or.inl ⟨by rfl, ?_⟩) rfl ?_
              · rintro w' rfl
                go_simp
              try simp only [Act.put, List.setIfInBounds_toArray, List.set_cons_zero, List.set_cons_succ]
              refine takeD (i := 13) (v := .int .i64 nn) (some 69) rfl rfl (by kernel_rfl) (by kernel_rfl) (by kernel_rfl) (fun _ _ _ h => h) (Or.inl ⟨by rfl, ?_⟩) rfl ?_
              · rintro w' rfl
                go_simp
              try simp only [Act.put, List.setIfInBounds_toArray, List.set_cons_zero, List.set_cons_succ]
              refine takeD (i := 14) (v := .bool false) (some 70) rfl rfl (by kernel_rfl) (by kernel_rfl) (by kernel_rfl) (fun _ _ _ h => h) (Or.inl ⟨by rfl, ?_⟩) rfl ?_
              · rintro w' rfl
                go_simp
              try simp only [Act.put, List.setIfInBounds_toArray, List.set_cons_zero, List.set_cons_succ]
              refine takeD (i := 15) (v := .bool false) (some 71) rfl rfl (by kernel_rfl) (by kernel_rfl) (by kernel_rfl) (fun _ _ _ h => h) (Or.inl ⟨by rfl, ?_⟩) rfl ?_
              · rintro w' rfl
                go_simp
              try simp only [Act.put, List.setIfInBounds_toArray, List.set_cons_zero, List.set_cons_succ]
              refine takeD (i := 16) (v := .bool false) (some 72) rfl rfl (by kernel_rfl) (by kernel_rfl) (by kernel_rfl) (fun _ _ _ h => h) (Or.inl ⟨by rfl, ?_⟩) rfl ?_
              · rintro w' rfl
                go_simp
              try simp only [Act.put, List.setIfInBounds_toArray, List.set_cons_zero, List.set_cons_succ]
              refine takeD (i := 17) (v := .int .i64 nn) (some 73) rfl rfl (by kernel_rfl) (by kernel_rfl) (by kernel_rfl) (fun _ _ _ h => h) (Or.inl ⟨by rfl, ?_⟩) rfl ?_
              · rintro w' rfl
                go_simp
              try simp only [Act.put, List.setIfInBounds_toArray, List.set_cons_zero, List.set_cons_succ]
              refine takeD (i := 18) (v := .pointer (some ⟨w.heap.size, 1, none⟩)) (some 74) rfl rfl (by kernel_rfl) (by kernel_rfl) (by kernel_rfl) (fun _ _ _ h => h) (Or.inl ⟨by rfl, ?_⟩) rfl ?_
              · rintro w' rfl
                go_simp
              try simp only [Act.put, List.setIfInBounds_toArray, List.set_cons_zero, List.set_cons_succ]
              refine takeD (i := 19) (v := .slice (some ⟨bl, ol, none⟩) n1 c1') (some 75) rfl rfl (by kernel_rfl) (by kernel_rfl) (by kernel_rfl) (fun _ _ _ h => h) (Or.inl ⟨by rfl, ?_⟩) rfl ?_
              · rintro w' rfl
                go_simp
              try simp only [Act.put, List.setIfInBounds_toArray, List.set_cons_zero, List.set_cons_succ]
              refine takeD (i := 20) (v := .int .i64 n1) (some 76) rfl rfl (by kernel_rfl) (by kernel_rfl) (by kernel_rfl) (fun _ _ _ h => h) (Or.inl ⟨by rfl, ?_⟩) rfl ?_
              · rintro w' rfl
                go_simp
              try simp only [Act.put, List.setIfInBounds_toArray, List.set_cons_zero, List.set_cons_succ]
              refine takeD (i := 21) (v := .bool false) (some 77) rfl rfl (by kernel_rfl) (by kernel_rfl) (by kernel_rfl) (fun _ _ _ h => h) (Or.inl ⟨by rfl, ?_⟩) rfl ?_
              · rintro w' rfl
                go_simp
              try simp only [Act.put, List.setIfInBounds_toArray, List.set_cons_zero, List.set_cons_succ]
              refine takeD (i := 22) (v := .bool false) (some 78) rfl rfl (by kernel_rfl) (by kernel_rfl) (by kernel_rfl) (fun _ _ _ h => h) (Or.inl ⟨by rfl, ?_⟩) rfl ?_
              · rintro w' rfl
                go_simp
              try simp only [Act.put, List.setIfInBounds_toArray, List.set_cons_zero, List.set_cons_succ]
              refine takeD (i := 23) (v := .bool false) (some 79) rfl rfl (by kernel_rfl) (by kernel_rfl) (by kernel_rfl) (fun _ _ _ h => h) (Or.inl ⟨by rfl, ?_⟩) rfl ?_
              · rintro w' rfl
                go_simp
              try simp only [Act.put, List.setIfInBounds_toArray, List.set_cons_zero, List.set_cons_succ]
              refine takeD (i := 24) (v := .pointer (some ⟨w.heap.size, 1, none⟩)) (some 80) rfl rfl (by kernel_rfl) (by kernel_rfl) (by kernel_rfl) (fun _ _ _ h => h) (Or.inl ⟨by rfl, ?_⟩) rfl ?_
              · rintro w' rfl
                go_simp
              try simp only [Act.put, List.setIfInBounds_toArray, List.set_cons_zero, List.set_cons_succ]
              refine takeD (i := 25) (v := .slice (some ⟨bl, ol, none⟩) n1 c1') (some 81) rfl rfl (by kernel_rfl) (by kernel_rfl) (by kernel_rfl) (fun _ _ _ h => h) (Or.inl ⟨by rfl, ?_⟩) rfl ?_
              · rintro w' rfl
                go_simp
              try simp only [Act.put, List.setIfInBounds_toArray, List.set_cons_zero, List.set_cons_succ]
              refine takeD (i := 26) (v := .int .i64 nn) (some 82) rfl rfl (by kernel_rfl) (by kernel_rfl) (by kernel_rfl) (fun _ _ _ h => h) (Or.inl ⟨by rfl, ?_⟩) rfl ?_
              · rintro w' rfl
                go_simp
              try simp only [Act.put, List.setIfInBounds_toArray, List.set_cons_zero, List.set_cons_succ]
              refine takeD (i := 27) (v := .pointer (some ⟨bl, ol + nn * 4, none⟩)) (some 83) rfl rfl (by kernel_rfl) (by kernel_rfl) (by kernel_rfl) (fun _ _ _ h => h) (Or.inl ⟨by rfl, ?_⟩) rfl ?_
              · rintro w' rfl
                go_simp
              try simp only [Act.put, List.setIfInBounds_toArray, List.set_cons_zero, List.set_cons_succ]
              refine takeD (i := 28) (v := .pointer (some ⟨bl, ol + nn * 4, none⟩)) (some 84) rfl rfl (by kernel_rfl) (by kernel_rfl) (by kernel_rfl) (fun _ _ _ h => h) (Or.inl ⟨by rfl, ?_⟩) rfl ?_
              · rintro w' rfl
                go_simp
              try simp only [Act.put, List.setIfInBounds_toArray, List.set_cons_zero, List.set_cons_succ]
              refine takeD (i := 29) (v := .agg #[.int .i64 la, .int .i64 lp]) (some 85) rfl rfl (by kernel_rfl) (by kernel_rfl) (by kernel_rfl) (fun _ _ _ h => h) (Or.inl ⟨by rfl, ?_⟩) rfl ?_
              · rintro w' rfl
                go_simp
              try simp only [Act.put, List.setIfInBounds_toArray, List.set_cons_zero, List.set_cons_succ]
              refine takeD (i := 30) (v := .agg #[.int .i64 s, .int .i64 p]) (some 86) rfl rfl (by kernel_rfl) (by kernel_rfl) (by kernel_rfl) (fun _ _ _ h => h) (Or.inl ⟨by rfl, ?_⟩) rfl ?_
              · rintro w' rfl
                go_simp
              try simp only [Act.put, List.setIfInBounds_toArray, List.set_cons_zero, List.set_cons_succ]
              refine takeD (i := 31) (v := .bool true) (some 87) rfl rfl (by kernel_rfl) (by kernel_rfl) (by kernel_rfl) (fun _ _ _ h => h) (Or.inl ⟨by rfl, ?_⟩) rfl ?_
              · rintro w' rfl
                go_simp
              try simp only [Act.put, List.setIfInBounds_toArray, List.set_cons_zero, List.set_cons_succ]
              refine takeD (i := 32) (v := .bool true) (some 88) rfl rfl (by kernel_rfl) (by kernel_rfl) (by kernel_rfl) (fun _ _ _ h => h) (Or.inl ⟨by rfl, ?_⟩) rfl ?_
              · rintro w' rfl
                go_simp
              try simp only [Act.put, List.setIfInBounds_toArray, List.set_cons_zero, List.set_cons_succ]
              refine takeD (i := 33) (v := .pointer (some ⟨w.heap.size, 1, none⟩)) (some 89) rfl rfl (by kernel_rfl) (by kernel_rfl) (by kernel_rfl) (fun _ _ _ h => h) (Or.inl ⟨by rfl, ?_⟩) rfl ?_
              · rintro w' rfl
                go_simp
              try simp only [Act.put, List.setIfInBounds_toArray, List.set_cons_zero, List.set_cons_succ]
              refine takeD (i := 34) (v := .slice (some ⟨bl, ol, none⟩) n1 c1') (some 90) rfl rfl (by kernel_rfl) (by kernel_rfl) (by kernel_rfl) (fun _ _ _ h => h) (Or.inl ⟨by rfl, ?_⟩) rfl ?_
              · rintro w' rfl
                go_simp
              try simp only [Act.put, List.setIfInBounds_toArray, List.set_cons_zero, List.set_cons_succ]
              refine takeD (i := 35) (v := .int .i64 nn) (some 91) rfl rfl (by kernel_rfl) (by kernel_rfl) (by kernel_rfl) (fun _ _ _ h => h) (Or.inl ⟨by rfl, ?_⟩) rfl ?_
              · rintro w' rfl
                go_simp
              try simp only [Act.put, List.setIfInBounds_toArray, List.set_cons_zero, List.set_cons_succ]
              refine takeD (i := 36) (v := .pointer (some ⟨bl, ol + nn * 4, none⟩)) (some 92) rfl rfl (by kernel_rfl) (by kernel_rfl) (by kernel_rfl) (fun _ _ _ h => h) (Or.inl ⟨by rfl, ?_⟩) rfl ?_
              · rintro w' rfl
                go_simp
              try simp only [Act.put, List.setIfInBounds_toArray, List.set_cons_zero, List.set_cons_succ]
              refine takeD (i := 37) (v := .pointer (some ⟨bl, ol + nn * 4 + 2, none⟩)) (some 93) rfl rfl (by kernel_rfl) (by kernel_rfl) (by kernel_rfl) (fun _ _ _ h => h) (Or.inl ⟨by rfl, ?_⟩) rfl ?_
              · rintro w' rfl
                go_simp
              try simp only [Act.put, List.setIfInBounds_toArray, List.set_cons_zero, List.set_cons_succ]
              refine takeD (i := 38) (v := .agg #[.int .i64 lb, .int .i64 lq]) (some 94) rfl rfl (by kernel_rfl) (by kernel_rfl) (by kernel_rfl) (fun _ _ _ h => h) (Or.inl ⟨by rfl, ?_⟩) rfl ?_
              · rintro w' rfl
                go_simp
              try simp only [Act.put, List.setIfInBounds_toArray, List.set_cons_zero, List.set_cons_succ]
              refine takeD (i := 39) (v := .agg #[.int .i64 s, .int .i64 p]) (some 95) rfl rfl (by kernel_rfl) (by kernel_rfl) (by kernel_rfl) (fun _ _ _ h => h) (Or.inl ⟨by rfl, ?_⟩) rfl ?_
              · rintro w' rfl
                go_simp
              try simp only [Act.put, List.setIfInBounds_toArray, List.set_cons_zero, List.set_cons_succ]
              refine takeD (i := 40) (v := .bool false) (some 96) rfl rfl (by kernel_rfl) (by kernel_rfl) (by kernel_rfl) (fun _ _ _ h => h) (Or.inl ⟨by rfl, ?_⟩) rfl ?_
              · rintro w' rfl
                go_simp
              try simp only [Act.put, List.setIfInBounds_toArray, List.set_cons_zero, List.set_cons_succ]
              refine takeD (i := 41) (v := .bool false) (some 97) rfl rfl (by kernel_rfl) (by kernel_rfl) (by kernel_rfl) (fun _ _ _ h => h) (Or.inl ⟨by rfl, ?_⟩) rfl ?_
              · rintro w' rfl
                go_simp
              try simp only [Act.put, List.setIfInBounds_toArray, List.set_cons_zero, List.set_cons_succ]
              refine takeD (i := 42) (v := .bool false) (some 98) rfl rfl (by kernel_rfl) (by kernel_rfl) (by kernel_rfl) (fun _ _ _ h => h) (Or.inl ⟨by rfl, ?_⟩) rfl ?_
              · rintro w' rfl
                go_simp
              try simp only [Act.put, List.setIfInBounds_toArray, List.set_cons_zero, List.set_cons_succ]
              refine wpAnyH_done (by kernel_rfl) ?_ _
              clear z0 z1 z2 z3 z4 z5 z6 z7 z8
              go_wp2_with fail
              go_roundw
              case rel => exact ⟨j + 1, by rw [HSP.out.2]; go_num, by omega, Kp.mk HP16.out⟩
              case measure => rw [HSP.out.2]; simp [intOf]; omega
        · obtain rfl : j = 4 := by omega
          obtain ⟨s, hs⟩ : ∃ s : Int, s = (i : Int) + 1 := ⟨_, rfl⟩
          have hs1 : 1 ≤ s := by omega
          have hs2 : s ≤ SN := by omega
          have HSI := Kp.mk hs
          rw [← hs]
          clear hs
          obtain ⟨c0, c1⟩ := HP.out.cells
          have hcR := gReach_any HP.out.l.lr (Nat.le_refl _) HP.out.u HP.out.b.size SN s
          go_wp2_with fail
          refine hcR.mono ?_
          rintro e wb ⟨v, rfl, ⟨m, hO⟩, hb⟩
          obtain ⟨A5, c5, rfl, _⟩ := hO.form
          have hcI := in_any hO.rd s
          rw [decide_eq_true (self_in HG.out up ⟨hs1, hs2⟩)] at hcI
          have HFE := Kp.mk (fun x => @filt_eq l1 SN HG.out up s x)
          have HR := Kp.mk (Pr.mk (HP.out.step hb) (hO.lower HP.out.b.size))
          clear hcR hb c0 c1 HP hO
          generalize reachP SN l1 up s = L at *
          go_wp2_with (refine hcI.mono ?_; rintro e wx ⟨rfl, hwx⟩; rw [hwx]; clear hwx wx)
          clear hcI
          go_loopw [15] (fun s15 wr => ∃ k : Nat, s15 = .int .i64 k ∧ k ≤ m ∧ Kp (Pr w SN A1 n1 c1' l1 b2 n2 c2 up A5 m c5 L wr)) (fun s15 _ => m - (intOf s15).toNat)
          case atStart => exact ⟨0, rfl, Nat.zero_le _, HR⟩
          case round =>
            clear HR
            obtain ⟨k, rfl, hk, HR⟩ := hrel
            have hlen := HR.out.o.len
            have hmx : (m : Int) ≤ 9223372036854775807 := HR.out.o.rd.max
            by_cases hkm : k < m
            · have hkm2 : (k : Int) < m := by omega
              obtain ⟨g5, c6, hv, _⟩ := HR.out.o.at_ (by omega)
              injection hv with hA5 _ hc6
              subst hA5 hc6
              obtain ⟨x, hx⟩ : ∃ x, x = L.getD k 0 := ⟨_, rfl⟩
              have HX := Kp.mk (And.intro hx.symm (HFE.out x (by rw [hx, List.getD_eq_getElem?_getD, List.getElem?_eq_getElem (by omega)]; exact List.getElem_mem _)))
              clear hx hlen
              go_upto_region 24 with fail
              have hS0 := HR.out.step (Below.refl wr.heap.size wr).drew
              have HKM := Kp.mk hkm
              clear HR
              refine wp_region_held_drew (S := Pr w SN A1 n1 c1' l1 b2 n2 c2 up (some ⟨g5, 0, none⟩) m c5 L) (by kernel_rfl) hS0 (fun _ => ?_)
              refine takeD (i := 0) (v := .agg #[.int .i64 SN, .slice A1 n1 c1']) (some 113) rfl rfl (by kernel_rfl) (by kernel_rfl) (by kernel_rfl) (fun _ _ _ h => h) (Or.inl ⟨by rfl, ?_⟩) hS0 ?_
              · rintro w' hq
                obtain ⟨z0, z1⟩ := hq.p.cells
                go_simp
              try simp only [Act.put, List.setIfInBounds_toArray, List.set_cons_zero, List.set_cons_succ]
              refine takeD (i := 1) (v := .slice b2 n2 c2) (some 114) rfl rfl (by kernel_rfl) (by kernel_rfl) (by kernel_rfl) (fun _ _ _ h => h) (Or.inl ⟨by rfl, ?_⟩) hS0 ?_
              · rintro w' hq
                go_simp
              try simp only [Act.put, List.setIfInBounds_toArray, List.set_cons_zero, List.set_cons_succ]
              refine takeD (i := 2) (v := .slice (some ⟨g5, 0, none⟩) m c5) (some 115) rfl rfl (by kernel_rfl) (by kernel_rfl) (by kernel_rfl) (fun _ _ _ h => h) (Or.inl ⟨by rfl, ?_⟩) hS0 ?_
              · rintro w' hq
                go_simp
              try simp only [Act.put, List.setIfInBounds_toArray, List.set_cons_zero, List.set_cons_succ]
              refine takeD (i := 3) (v := .int .i64 k) (some 116) rfl rfl (by kernel_rfl) (by kernel_rfl) (by kernel_rfl) (fun _ _ _ h => h) (Or.inl ⟨by rfl, ?_⟩) hS0 ?_
              · rintro w' hq
                go_simp
              try simp only [Act.put, List.setIfInBounds_toArray, List.set_cons_zero, List.set_cons_succ]
              refine takeD (i := 4) (v := .pointer (some ⟨g5, k, none⟩)) (some 117) rfl rfl (by kernel_rfl) (by kernel_rfl) (by kernel_rfl) (fun _ _ _ h => h) (Or.inl ⟨by rfl, ?_⟩) hS0 ?_
              · rintro w' hq
                go_simp
              try simp only [Act.put, List.setIfInBounds_toArray, List.set_cons_zero, List.set_cons_succ]
              refine takeD (i := 5) (v := .int .i64 x) (some 118) rfl rfl (by kernel_rfl) (by kernel_rfl) (by kernel_rfl) (fun _ _ _ h => h) (Or.inl ⟨by rfl, ?_⟩) hS0 ?_
              · rintro w' hq
                have z2 := hq.o.cellsP HKM.out
                rw [HX.out.1] at z2
                go_simp
              try simp only [Act.put, List.setIfInBounds_toArray, List.set_cons_zero, List.set_cons_succ]
              refine takeD (i := 7) (v := .slice (some ⟨g5, 0, none⟩) m c5) (some 120) rfl rfl (by kernel_rfl) (by kernel_rfl) (by kernel_rfl) (fun _ _ _ h => h) (Or.inl ⟨by rfl, ?_⟩) hS0 ?_
              · rintro w' hq
                go_simp
              try simp only [Act.put, List.setIfInBounds_toArray, List.set_cons_zero, List.set_cons_succ]
              refine wpAnyH_ready (rs := [6]) (by kernel_rfl) (by simp) ?_
              refine AllReadyH.cons rfl (fun K hK => ?_) AllReadyH.nil
              try rw [if_pos (by rfl)]
              go_simp
              refine (gReach_any hS0.p.l.lr (Nat.le_refl _) hS0.p.u hS0.p.b.size SN x).mono ?_
              rintro e u1 ⟨v1, rfl, ⟨q1, hO1⟩, hb1⟩
              obtain ⟨A7, c7, rfl, _⟩ := hO1.form
              rw [HX.out.2] at hO1
              have hS1 := Pr.step hS0 hb1
              refine hK.out _ _ hS1 (fun _ => ?_)
              clear hK K
              try simp only [Act.put, List.setIfInBounds_toArray, List.set_cons_zero, List.set_cons_succ]
              refine wpAnyH_ready (rs := [8]) (by kernel_rfl) (by simp) ?_
              refine AllReadyH.cons rfl (fun K hK => ?_) AllReadyH.nil
              try rw [if_pos (by rfl)]
              go_simp
              refine (eqInts_any hO1.rd hS1.o.rd (Nat.le_refl _) (Nat.le_refl _)).mono ?_
              rintro e u2 ⟨he2, hb2⟩
              rw [decide_eq_true rfl] at he2
              subst he2
              have hS2 := Pr.step hS1 hb2
              refine hK.out _ _ hS2 (fun _ => ?_)
              clear hK K
              try simp only [Act.put, List.setIfInBounds_toArray, List.set_cons_zero, List.set_cons_succ]
              refine takeD (i := 9) (v := .bool false) (some 122) rfl rfl (by kernel_rfl) (by kernel_rfl) (by kernel_rfl) (fun _ _ _ h => h) (Or.inl ⟨by rfl, ?_⟩) hS2 ?_
              · rintro w' hq
                go_simp
              try simp only [Act.put, List.setIfInBounds_toArray, List.set_cons_zero, List.set_cons_succ]
              refine wpAnyH_done (by kernel_rfl) ?_ _
              have HF := Kp.mk hS2
              clear hS0 hS1 hS2 hO1
              go_wp2_with fail
              go_roundw
              case rel => exact ⟨k + 1, by go_num, by omega, HF⟩
              case measure => simp [intOf]; omega
            · obtain rfl : k = m := by omega
              have hkm2 : ¬ (k : Int) < k := by omega
              go_wp2_with fail
              go_roundw
              case rel => exact ⟨i + 1, by rw [HSI.out]; go_num, by omega, Kp.mk HR.out.p⟩
              case measure => rw [HSI.out]; simp [intOf]; omega
    · obtain rfl : i = SN := by omega
      have hlt2 : ¬ (i : Int) + 1 ≤ i := by omega
      have HF := Kp.mk HP.out.b
      clear HP
      go_wp2_with fail
      go_ret
      exact ⟨rfl, HF.out⟩
end Go.Proofs.Ytlmonnggklfniaa.Oct
