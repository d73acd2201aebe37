/- Statements of layer 12 (graph): GraphGrows, the walk. -/
import Derived.Test.YtlmonnggklfniaaGraGa
import Derived.Deep.CutRange
namespace Go.Proofs.Ytlmonnggklfniaa.Oct
open Go.RowKit
open Go.Proofs.Ytlmonnggklfniaa.Ser (bringP bring_any bringP_bd)
set_option linter.unusedVariables false
set_option linter.unusedSimpArgs false

def upTo (up : List Bool) (i : Nat) : Int → Bool := fun x => decide (x < i) && upP up x
theorem upTo_zero (up : List Bool) (m : Nat) : inC (fun _ => false) m = inC (upTo up 0) m := by
  unfold inC
  refine List.map_congr_left (fun i _ => ?_)
  have h0 : decide ((i : Int) < ((0 : Nat) : Int)) = false := decide_eq_false (by omega)
  simp only [upTo, h0, Bool.false_and]
theorem upTo_step (up : List Bool) (m i : Nat) (h : i < m) : (inC (upTo up i) m).set i (.bool (upP up i)) = inC (upTo up (i + 1)) m := by
  rw [inC_put _ m i h]
  unfold inC
  refine List.map_congr_left (fun j _ => ?_)
  by_cases e : j = i
  · subst e
    have h0 : decide ((j : Int) < ((j + 1 : Nat) : Int)) = true := decide_eq_true (by omega)
    simp only [upTo, h0, Bool.true_and, if_true]
  · have h1 : ¬ (j : Int) = i := by omega
    have h2 : ((j : Int) < ((i + 1 : Nat) : Int)) ↔ ((j : Int) < i) := by omega
    simp only [upTo, h1, h2, if_false]
theorem upP_ge {up : List Bool} {i : Nat} (h : up.length ≤ i) : upP up i = true := by unfold upP; rw [if_pos (by omega)]
theorem upP_lt {up : List Bool} {i : Nat} (h : i < up.length) : upP up i = up.getD i false := by unfold upP; rw [if_neg (by omega)]; simp
theorem ob_lower {w : World} {base n b : Nat} {v : Value} {bs : List Bool} (h : Ob w base v n bs) (hb : b ≤ base) : Ob w b v n bs := by
  refine ⟨h.1, ?_⟩
  rcases h.2 with h2 | ⟨g, cap, cur, e, hbg, r⟩
  · exact .inl h2
  · exact .inr ⟨g, cap, cur, e, by omega, r⟩
/-- What lies there behind the two Reach. -/
structure Gr (w : World) (S : Int) (A : Option Addr) (n c : Nat) (ls : List Lk) (MB : Nat) (A9 : Option Addr) (c9 : Nat) (T T' : Int → Bool) (A5 : Option Addr) (m5 c5 : Nat) (L5 : List Int) (A6 : Option Addr) (m6 c6 : Nat) (L6 : List Int) (X : World) : Prop where
  g : Gw w S A n c ls MB A9 c9 T T' X
  a : Oi X w.heap.size (.slice A5 m5 c5) m5 L5
  b : Oi X w.heap.size (.slice A6 m6 c6) m6 L6

theorem Gw.link {w : World} {S : Int} {bl ol : Nat} {n c : Nat} {ls : List Lk} {MB : Nat} {A9 : Option Addr} {c9 : Nat} {T T' : Int → Bool} {X : World} (h : Gw w S (some ⟨bl, ol, none⟩) n c ls MB A9 c9 T T' X) {k : Nat} {l : Lk} (hl : ls[k]? = some l) :
    X.cell? ⟨bl, ol + k * 4, none⟩ = some (.int .i64 l.a) ∧ X.cell? ⟨bl, ol + k * 4 + 2, none⟩ = some (.int .i64 l.b) := by
  obtain ⟨b, off, e, _, hc⟩ := h.l.lr.at_ (by have := (List.getElem?_eq_some_iff.1 hl).1; have := h.l.len; omega)
  have e := Option.some.inj e
  injection e with e1 e2 _
  subst e1 e2
  exact ⟨(hc k l hl).1, (hc k l hl).2.2.1⟩
set_option maxRecDepth 100000 in
set_option maxHeartbeats 4000000 in
theorem graphGrows_walk (S : Int) (ls : List Lk) (b : Option Addr) (n c : Nat) (up : List Bool) (b2 : Option Addr) (n2 c2 : Nat) (z : Int) (w : World) (h : Lr w w.heap.size b n c ls) (hu : Bl w w.heap.size b2 n2 c2 up) (hz : (Lit.int .i64 z).wf = true) :
    Calls Try.prog 6 #[.agg #[.int .i64 S, .slice b n c], .slice b2 n2 c2, .int .i64 z] w fun e w' => e = .returned (.bool true) ∧ Below w.heap.size w w' := by
  have hg0 : Vb 24 (w.alloc (.cells #[.int .i64 S, .slice b n c] 24)) w.heap.size [.int .i64 S, .slice b n c] := Vb.new 24 w [.int .i64 S, .slice b n c]
  have hb0 := below_alloc w (.cells #[.int .i64 S, .slice b n c] 24)
  have hul := hu.1
  have hn2 : (n2 : Int) ≤ 9223372036854775807 := by have h1 := hu.2.1; have h2 := hu.2.2.1; unfold maxLen at h2; omega
  have H := Kp.mk (And.intro h hu)
  clear h hu hz
  go_enter Try.func6, Try.ntmps6
  go_upto_region 1 with fail
  generalize w.alloc (.cells #[.int .i64 S, .slice b n c] 24) = w0 at *
  have c0 := hg0.cell 0 rfl
  have c1 := hg0.cell 1 rfl
  have hcM := made_any ((H.out.1.below hb0).more hb0.size) S
  have HW1 := Kp.mk (And.intro hg0 hb0)
  clear hg0 hb0
  go_wp2_with fail
  refine hcM.mono ?_
  rintro e w2 ⟨So, A1, n1, c1', rfl, ⟨l1, hO, hgd⟩, hb2⟩
  have hg2 := HW1.out.1.below hb2 HW1.out.1.lt
  have hB2 := HW1.out.2.trans (hb2.mono HW1.out.2.size)
  have hP := Pw.start hg2 (ol_lower hO HW1.out.2.size) (H.out.2.below hB2) hB2 (S := So)
  have d0 := hg2.cell 0 rfl
  have d1 := hg2.cell 1 rfl
  have f0 := hg2.free 0
  have f1 := hg2.free 1
  have HG := Kp.mk hgd
  have HP := Kp.mk hP
  obtain ⟨SN, rfl⟩ : ∃ k : Nat, So = (k : Int) := ⟨So.toNat, by have := hgd.1; omega⟩
  have hSN : SN ≤ 6 := by have := hgd.1; omega
  have hSN1 : 1 ≤ SN := by have := hgd.1; omega
  clear c0 c1 hcM HW1 hgd hP hg2 hB2 hO hb2 H
  go_upto_region 2 with fail
  clear d0 d1 f0 f1
  generalize (w2.setCell ⟨w.heap.size, 0, none⟩ (.int .i64 SN)).setCell ⟨w.heap.size, 1, none⟩ (.slice A1 n1 c1') = w3 at *
  clear w2
  obtain ⟨c0, c1⟩ := HP.out.cells
  have hn12 : n1 ≤ 12 := by have := good_len HG.out; have := HP.out.l.len; omega
  have hmk := run_makeB n1 (by omega) w3
  have hmx : (n1 : Int) ≤ 9223372036854775807 := by omega
  have hM : Vb 4 (w3.alloc (.cells (inC (fun _ => false) n1).toArray 4)) w3.heap.size (inC (upTo up 0) n1) := by rw [← upTo_zero]; exact Vb.new 4 w3 (inC (fun _ => false) n1)
  have HX := Kp.mk (And.intro (HP.out.step (below_alloc w3 (.cells (inC (fun _ => false) n1).toArray 4))) hM)
  have HML := Kp.mk HP.out.g.lt
  clear hM HP
  go_wp2_with fail
  clear hmk c0 c1
  generalize w3.alloc (.cells (inC (fun _ => false) n1).toArray 4) = w4 at *
  generalize w3.heap.size = MB at *
  clear w3
  go_loopw [8] (fun s8 wr => ∃ i : Nat, s8 = .int .i64 i ∧ i ≤ n1 ∧ Kp (Pw w SN A1 n1 c1' l1 b2 n2 c2 up wr ∧ Vb 4 wr MB (inC (upTo up i) n1))) (fun s8 _ => n1 - (intOf s8).toNat)
  case atStart => exact ⟨0, rfl, Nat.zero_le _, HX⟩
  case round =>
    clear HX
    obtain ⟨i, rfl, hi, HX⟩ := hrel
    by_cases hlt : i < n1
    · have hlt2 : (i : Int) < n1 := by omega
      have m0 := HX.out.2.cell i (inC_at _ n1 i hlt)
      have f0 := HX.out.2.free i
      have hgr := grownBy_set wr MB i (.bool (upP up i))
      have hV := HX.out.2.set i (.bool (upP up i))
      rw [upTo_step up n1 i hlt] at hV
      have HN := Kp.mk (And.intro (HX.out.1.grown HX.out.2 HML.out hgr) hV)
      have HU := Kp.mk HX.out.1.u
      clear hV hgr HX
      by_cases hui : n2 ≤ i
      · have hui2 : (n2 : Int) ≤ i := by omega
        rw [upP_ge (by omega)] at HN
        clear HU
        go_wp2_with fail
        go_roundw
        case rel => exact ⟨i + 1, by go_num, by omega, HN⟩
        case measure => simp [intOf]; omega
      · have hui2 : ¬ (n2 : Int) ≤ i := by omega
        have hui3 : (i : Int) < n2 := by omega
        obtain ⟨bu, ou, rfl, _, hcl⟩ := HU.out.2.2.2 (by omega)
        have u0 := hcl i (by omega)
        rw [upP_lt (by omega)] at HN
        clear hcl HU
        generalize up.getD i false = ui at *
        go_wp2_with fail
        go_roundw
        case rel => exact ⟨i + 1, by go_num, by omega, HN⟩
        case measure => simp [intOf]; omega
    · obtain rfl : i = n1 := by omega
      have hlt2 : ¬ (i : Int) < i := by omega
      obtain ⟨T, hT⟩ : ∃ T, T = upTo up i := ⟨_, rfl⟩
      rw [← hT] at HX
      clear hT hul hn2 hlt
      generalize i = n1 at *
      have hbn := below_alloc wr (.cells #[] 4)
      have hL : Vb 4 (wr.alloc (.cells #[] 4)) wr.heap.size [] := Vb.new 4 wr []
      have hO : Ob (wr.alloc (.cells #[] 4)) wr.heap.size (.slice (some ⟨wr.heap.size, 0, none⟩) 0 0) 0 [] := World.ownsRow_made wr #[] 0 (Nat.le_refl _) (Nat.zero_le _) rfl
      have hMl : MB < wr.heap.size := HX.out.2.lt
      have hP := HX.out.1.step hbn
      have hM := HX.out.2.below hbn hMl
      have hBl : Bl (wr.alloc (.cells #[] 4)) (wr.alloc (.cells #[] 4)).heap.size (some ⟨MB, 0, none⟩) n1 n1 (bsC T n1) := by
        have hv : Vb 4 (wr.alloc (.cells #[] 4)) MB ((bsC T n1).map Value.bool) := by rw [bsC_map]; exact hM
        have := bl_vb (B := (wr.alloc (.cells #[] 4)).heap.size) hv hM.lt (by rw [bsC_len]; unfold maxLen; omega)
        rwa [bsC_len] at this
      obtain ⟨A9, c9, w9, hrun, hO9, hb9, hg9⟩ := run_appendB 36 (ob_lower hO (show MB + 1 ≤ wr.heap.size from hMl)) hBl (fun e => by cases e) (by omega) (by simp; omega)
      rw [Nat.zero_add] at hrun hO9
      replace hg9 : (wr.alloc (.cells #[] 4)).grownBy w9 (some wr.heap.size) := hg9
      have hM9 := hM.grown hg9 (by omega)
      have hP9 := hP.grown hL (by have := HML.out; omega) hg9
      have hGw : Gw w SN A1 n1 c1' l1 MB A9 c9 T T w9 := ⟨hP9.g, hP9.l, hM9, hO9, hP9.b, hn12⟩
      have HGw := Kp.mk hGw
      clear hbn hL hO hMl hP hM hBl hO9 hb9 hg9 hM9 hP9 hGw HX
      go_upto_region 8 with (at_builtin; refine Lib.wpList_append_run _ rfl _ _ _ _ rfl _ _ rfl rfl _ _ hrun ?_)
      clear hrun hlt2 hi
      obtain ⟨q, hq⟩ : ∃ q, q = decide ((0 : Int) < n1) := ⟨_, rfl⟩
      go_cut [45] from 43 (fun s45 wx => s45 = .bool q ∧ wx = w9)
      case first =>
        by_cases hn0 : n1 = 0
        · have hn1 : ¬ (0 : Int) < n1 := by omega
          have hn2 : ¬ 0 < n1 := by omega
          clear hn0
          rw [decide_eq_false hn1] at hq
          go_wp2_with fail
          go_meet
          exact ⟨by rw [hq], rfl⟩
        · have hn1 : (0 : Int) < n1 := by omega
          have hn2 : 0 < n1 := by omega
          clear hn0
          rw [decide_eq_true hn1] at hq
          go_wp2_with fail
          go_meet
          exact ⟨by rw [hq], rfl⟩
      case rest =>
      rename_i hk
      obtain ⟨rfl, rfl⟩ := hcut
      refine hk _ _ ?_
      clear hk
      go_cut [] from 43 (fun wx => ∃ T' : Int → Bool, Kp ((∀ x, T x = true → T' x = true) ∧ Gw w SN A1 n1 c1' l1 MB A9 c9 T T' wx))
      case first =>
        by_cases hn0 : n1 = 0
        · have hn1 : ¬ (0 : Int) < n1 := by omega
          rw [decide_eq_false hn1] at hq
          subst hq
          clear hn1
          go_wp2_with fail
          go_meet
          case rel => exact ⟨T, Kp.mk ⟨fun _ h => h, HGw.out⟩⟩
        · have hn1 : (0 : Int) < n1 := by omega
          rw [decide_eq_true hn1] at hq
          subst hq
          obtain ⟨r, hr⟩ : ∃ r, bringP z n1 = r := ⟨_, rfl⟩
          have hbd := bringP_bd z n1 (by omega)
          rw [hr] at hbd
          obtain ⟨rn, rfl⟩ : ∃ k : Nat, r = (k : Int) := ⟨r.toNat, by have := hbd.1; omega⟩
          have hr1 : rn < n1 := by omega
          have hr2 : (rn : Int) < n1 := by omega
          have hbr := bring_at z n1 rn hr (by omega) (by omega)
          have m0 := HGw.out.m.cell rn (inC_at _ n1 rn hr1)
          have f0 := HGw.out.m.free rn
          have hgr := grownBy_set wc MB rn (.bool true)
          have hV := HGw.out.m.set rn (.bool true)
          rw [inC_set T n1 rn hr1] at hV
          have HV := Kp.mk (Gw.mk (HGw.out.g.grown hgr (by have := HML.out; omega)) (ol_other HGw.out.l HGw.out.m (by decide) hgr) hV (HGw.out.f.keep (Nat.lt_succ_self _) hgr) (below_grown HGw.out.b hgr HGw.out.b.size (by have := HML.out; omega)) hn12)
          clear hbd hr hgr hV
          go_wp2_with (refine (hbr _).mono ?_; rintro e w' ⟨rfl, hw'⟩; rw [hw']; clear hw' w')
          go_meet
          case rel => exact ⟨_, Kp.mk ⟨fun x h => by show (decide _ || T x) = true; rw [h, Bool.or_true], HV.out⟩⟩
      case rest =>
        clear HGw
        obtain ⟨T', HK⟩ := hcut
        have HT := Kp.mk HK.out.1
        have HGw := Kp.mk HK.out.2
        clear HK
        have hTT := HT.out
        go_wp2_with fail
        clear hTT
        go_loopw [10] (fun s10 wr => ∃ i : Nat, s10 = .int .i64 ((i : Int) + 1) ∧ i ≤ SN ∧ Kp (Gw w SN A1 n1 c1' l1 MB A9 c9 T T' wr)) (fun s10 _ => SN + 1 - (intOf s10).toNat)
        case atStart => exact ⟨0, rfl, Nat.zero_le _, HGw⟩
        case round =>
          clear HGw
          obtain ⟨i, rfl, hi, HGw⟩ := hrel
          obtain ⟨c0, c1⟩ := HGw.out.cells
          by_cases hlt : i < SN
          · have hlt2 : (i : Int) + 1 ≤ SN := by omega
            obtain ⟨s, hs⟩ : ∃ s : Int, s = (i : Int) + 1 := ⟨_, rfl⟩
            have hs1 : 1 ≤ s := by omega
            have hs2 : s ≤ SN := by omega
            have HSI := Kp.mk hs
            rw [← hs] at hlt2
            rw [← hs]
            clear hs
            go_upto_region 13 with fail
            clear c0 c1
            have hS0 := HGw.out.step (Below.refl wr.heap.size wr).drew
            clear HGw
            refine wp_region_held_drew (S := Gw w SN A1 n1 c1' l1 MB A9 c9 T T') (by kernel_rfl) hS0 (fun _ => ?_)
            refine takeD (i := 0) (v := .agg #[.int .i64 SN, .slice A1 n1 c1']) (some 58) rfl rfl (by kernel_rfl) (by kernel_rfl) (by kernel_rfl) (fun _ _ _ h => h) (Or.inl ⟨by rfl, ?_⟩) hS0 ?_
            · rintro w' hq
              obtain ⟨z0, z1⟩ := hq.cells
              go_simp
            try simp only [Act.put, List.setIfInBounds_toArray, List.set_cons_zero, List.set_cons_succ]
            refine takeD (i := 1) (v := .slice A9 n1 c9) (some 59) rfl rfl (by kernel_rfl) (by kernel_rfl) (by kernel_rfl) (fun _ _ _ h => h) (Or.inl ⟨by rfl, ?_⟩) hS0 ?_
            · rintro w' hq
              go_simp
            try simp only [Act.put, List.setIfInBounds_toArray, List.set_cons_zero, List.set_cons_succ]
            refine takeD (i := 2) (v := .int .i64 s) (some 60) rfl rfl (by kernel_rfl) (by kernel_rfl) (by kernel_rfl) (fun _ _ _ h => h) (Or.inl ⟨by rfl, ?_⟩) hS0 ?_
            · rintro w' hq
              go_simp
            try simp only [Act.put, List.setIfInBounds_toArray, List.set_cons_zero, List.set_cons_succ]
            refine takeD (i := 4) (v := .agg #[.int .i64 SN, .slice A1 n1 c1']) (some 62) rfl rfl (by kernel_rfl) (by kernel_rfl) (by kernel_rfl) (fun _ _ _ h => h) (Or.inl ⟨by rfl, ?_⟩) hS0 ?_
            · rintro w' hq
              obtain ⟨z0, z1⟩ := hq.cells
              go_simp
            try simp only [Act.put, List.setIfInBounds_toArray, List.set_cons_zero, List.set_cons_succ]
            refine takeD (i := 5) (v := .slice (some ⟨MB, 0, none⟩) n1 n1) (some 63) rfl rfl (by kernel_rfl) (by kernel_rfl) (by kernel_rfl) (fun _ _ _ h => h) (Or.inl ⟨by rfl, ?_⟩) hS0 ?_
            · rintro w' hq
              go_simp
            try simp only [Act.put, List.setIfInBounds_toArray, List.set_cons_zero, List.set_cons_succ]
            refine takeD (i := 6) (v := .int .i64 s) (some 64) rfl rfl (by kernel_rfl) (by kernel_rfl) (by kernel_rfl) (fun _ _ _ h => h) (Or.inl ⟨by rfl, ?_⟩) hS0 ?_
            · rintro w' hq
              go_simp
            try simp only [Act.put, List.setIfInBounds_toArray, List.set_cons_zero, List.set_cons_succ]
            refine wpAnyH_ready (rs := [3]) (by kernel_rfl) (by simp) ?_
            refine AllReadyH.cons rfl (fun K hK => ?_) AllReadyH.nil
            try rw [if_pos (by rfl)]
            go_simp
            refine (gReach_any hS0.l.lr (Nat.le_refl _) hS0.few (Nat.le_refl _) SN s).mono ?_
            rintro e u1 ⟨v1, rfl, ⟨q1, hO1⟩, hb1⟩
            obtain ⟨A5, c5, rfl, _⟩ := hO1.form
            have hS1 := Gw.step hS0 hb1
            refine hK.out _ _ hS1 (fun _ => ?_)
            clear hK K
            try simp only [Act.put, List.setIfInBounds_toArray, List.set_cons_zero, List.set_cons_succ]
            refine wpAnyH_ready (rs := [7]) (by kernel_rfl) (by simp) ?_
            refine AllReadyH.cons rfl (fun K hK => ?_) AllReadyH.nil
            try rw [if_pos (by rfl)]
            go_simp
            refine (gReach_any hS1.l.lr (Nat.le_refl _) hS1.more (Nat.le_refl _) SN s).mono ?_
            rintro e u2 ⟨v2, rfl, ⟨q2, hO2⟩, hb2⟩
            obtain ⟨A6, c6, rfl, _⟩ := hO2.form
            have hS2 := Gw.step hS1 hb2
            refine hK.out _ _ hS2 (fun _ => ?_)
            clear hK K
            try simp only [Act.put, List.setIfInBounds_toArray, List.set_cons_zero, List.set_cons_succ]
            refine takeD (i := 8) (v := .slice A5 q1 c5) (some 11) rfl rfl (by kernel_rfl) (by kernel_rfl) (by kernel_rfl) (fun _ _ _ h => h) (Or.inl ⟨by rfl, ?_⟩) hS2 ?_
            · rintro w' hq
              go_simp
            try simp only [Act.put, List.setIfInBounds_toArray, List.set_cons_zero, List.set_cons_succ]
            refine takeD (i := 9) (v := .slice A6 q2 c6) (some 12) rfl rfl (by kernel_rfl) (by kernel_rfl) (by kernel_rfl) (fun _ _ _ h => h) (Or.inl ⟨by rfl, ?_⟩) hS2 ?_
            · rintro w' hq
              go_simp
            try simp only [Act.put, List.setIfInBounds_toArray, List.set_cons_zero, List.set_cons_succ]
            refine wpAnyH_done (by kernel_rfl) ?_ _
            have hR : ∀ x, x ∈ reachP SN l1 (bsC T n1) s → x ∈ reachP SN l1 (bsC T' n1) s := fun x => reach_more hS0.l.len HT.out
            generalize reachP SN l1 (bsC T n1) s = L5 at *
            generalize reachP SN l1 (bsC T' n1) s = L6 at *
            have HR := Kp.mk (Gr.mk hS2 ((hO1.below hb2).lower hS0.b.size) (hO2.lower hS1.b.size))
            have HSUB := Kp.mk hR
            clear hS0 hS1 hS2 hO1 hO2 hb1 hb2 hR
            have hmx5 : (q1 : Int) ≤ 9223372036854775807 := HR.out.a.rd.max
            go_wp2_with fail
            go_loopw [13] (fun s13 wr => ∃ k : Nat, s13 = .int .i64 k ∧ k ≤ q1 ∧ Kp (Gr w SN A1 n1 c1' l1 MB A9 c9 T T' A5 q1 c5 L5 A6 q2 c6 L6 wr)) (fun s13 _ => q1 - (intOf s13).toNat)
            case atStart => exact ⟨0, rfl, Nat.zero_le _, HR⟩
            case round =>
              clear HR
              obtain ⟨k, rfl, hk, HR⟩ := hrel
              by_cases hkm : k < q1
              · have hkm2 : (k : Int) < q1 := by omega
                have hlen := HR.out.a.len
                obtain ⟨g5, c7, hv, hrest⟩ := HR.out.a.at_ (by omega)
                clear hrest
                injection hv with hA5 _ hc6
                subst hA5 hc6
                have z2 := HR.out.a.cellsP hkm
                have hcI := in_any HR.out.b.rd (L5.getD k 0)
                rw [decide_eq_true (HSUB.out _ (by rw [List.getD_eq_getElem?_getD, List.getElem?_eq_getElem (by omega)]; exact List.getElem_mem _))] at hcI
                obtain ⟨x, hx⟩ : ∃ x, x = L5.getD k 0 := ⟨_, rfl⟩
                rw [← hx] at z2 hcI
                clear hlen hx
                go_wp2_with fail
                refine hcI.mono ?_
                rintro e wx ⟨rfl, hwx⟩
                rw [hwx]
                clear hwx wx
                go_wp2_with fail
                go_roundw
                case rel => exact ⟨k + 1, by go_num, by omega, HR⟩
                case measure => simp [intOf]; omega
              · obtain rfl : k = q1 := by omega
                have hkm2 : ¬ (k : Int) < k := by omega
                go_wp2_with fail
                go_roundw
                case rel => exact ⟨i + 1, by rw [HSI.out]; go_num, by omega, Kp.mk HR.out.g⟩
                case measure => rw [HSI.out]; simp [intOf]; omega
          · obtain rfl : i = SN := by omega
            have hlt2 : ¬ (i : Int) + 1 ≤ i := by omega
            have HSN := Kp.mk (And.intro hSN hSN1)
            go_wp2_with fail
            clear c0 c1
            go_loopw [14] (fun s14 wr => ∃ k : Nat, s14 = .int .i64 k ∧ k ≤ n1 ∧ Kp (Gw w i A1 n1 c1' l1 MB A9 c9 T T' wr)) (fun s14 _ => n1 - (intOf s14).toNat)
            case atStart => exact ⟨0, rfl, Nat.zero_le _, HGw⟩
            case round =>
              clear HGw
              obtain ⟨k, rfl, hk, HGw⟩ := hrel
              by_cases hkm : k < n1
              · have hkm2 : (k : Int) < n1 := by omega
                obtain ⟨lk, hlk⟩ : ∃ l, l1[k]? = some l := ⟨_, List.getElem?_eq_getElem (by have := HGw.out.l.len; omega)⟩
                obtain ⟨bl, ol, rfl, _, fl⟩ := HGw.out.l.lr.at_ (by omega)
                clear fl
                go_upto_region 22 with fail
                have hS0 := HGw.out.step (Below.refl wr.heap.size wr).drew
                have HKM := Kp.mk hkm
                clear HGw
                cases hT : T' k with
                | false =>
                  have HTK := Kp.mk hT
                  clear hT hlk
                  refine wp_region_held_drew (S := Gw w i (some ⟨bl, ol, none⟩) n1 c1' l1 MB A9 c9 T T') (by kernel_rfl) hS0 (fun _ => ?_)
                  refine takeD (i := 0) (v := .slice (some ⟨MB, 0, none⟩) n1 n1) (some 85) rfl rfl (by kernel_rfl) (by kernel_rfl) (by kernel_rfl) (fun _ _ _ h => h) (Or.inl ⟨by rfl, ?_⟩) hS0 ?_
                  · rintro w' hq
                    go_simp
                  try simp only [Act.put, List.setIfInBounds_toArray, List.set_cons_zero, List.set_cons_succ]
                  refine takeD (i := 1) (v := .int .i64 k) (some 86) rfl rfl (by kernel_rfl) (by kernel_rfl) (by kernel_rfl) (fun _ _ _ h => h) (Or.inl ⟨by rfl, ?_⟩) hS0 ?_
                  · rintro w' hq
                    go_simp
                  try simp only [Act.put, List.setIfInBounds_toArray, List.set_cons_zero, List.set_cons_succ]
                  refine takeD (i := 2) (v := .pointer (some ⟨MB, k, none⟩)) (some 87) rfl rfl (by kernel_rfl) (by kernel_rfl) (by kernel_rfl) (fun _ _ _ h => h) (Or.inl ⟨by rfl, ?_⟩) hS0 ?_
                  · rintro w' hq
                    go_simp
                  try simp only [Act.put, List.setIfInBounds_toArray, List.set_cons_zero, List.set_cons_succ]
                  refine takeD (i := 3) (v := .bool false) (some 88) rfl rfl (by kernel_rfl) (by kernel_rfl) (by kernel_rfl) (fun _ _ _ h => h) (Or.inl ⟨by rfl, ?_⟩) hS0 ?_
                  · rintro w' hq
                    have z2 := hq.at_ HKM.out
                    rw [HTK.out] at z2
                    go_simp
                  try simp only [Act.put, List.setIfInBounds_toArray, List.set_cons_zero, List.set_cons_succ]
                  refine takeD (i := 4) (v := .bool false) (some 89) rfl rfl (by kernel_rfl) (by kernel_rfl) (by kernel_rfl) (fun _ _ _ h => h) (Or.inl ⟨by rfl, ?_⟩) hS0 ?_
                  · rintro w' hq
                    go_simp
                  try simp only [Act.put, List.setIfInBounds_toArray, List.set_cons_zero, List.set_cons_succ]
                  refine takeD (i := 5) (v := undef) (some 90) rfl rfl (by kernel_rfl) (by kernel_rfl) (by kernel_rfl) (fun _ _ _ h => h) (Or.inr ⟨by rfl, rfl⟩) hS0 ?_
                  try simp only [Act.put, List.setIfInBounds_toArray, List.set_cons_zero, List.set_cons_succ]
                  refine takeD (i := 6) (v := undef) (some 91) rfl rfl (by kernel_rfl) (by kernel_rfl) (by kernel_rfl) (fun _ _ _ h => h) (Or.inr ⟨by rfl, rfl⟩) hS0 ?_
                  try simp only [Act.put, List.setIfInBounds_toArray, List.set_cons_zero, List.set_cons_succ]
                  refine takeD (i := 7) (v := undef) (some 92) rfl rfl (by kernel_rfl) (by kernel_rfl) (by kernel_rfl) (fun _ _ _ h => h) (Or.inr ⟨by rfl, rfl⟩) hS0 ?_
                  try simp only [Act.put, List.setIfInBounds_toArray, List.set_cons_zero, List.set_cons_succ]
                  refine takeD (i := 8) (v := undef) (some 93) rfl rfl (by kernel_rfl) (by kernel_rfl) (by kernel_rfl) (fun _ _ _ h => h) (Or.inr ⟨by rfl, rfl⟩) hS0 ?_
                  try simp only [Act.put, List.setIfInBounds_toArray, List.set_cons_zero, List.set_cons_succ]
                  refine takeD (i := 9) (v := undef) (some 94) rfl rfl (by kernel_rfl) (by kernel_rfl) (by kernel_rfl) (fun _ _ _ h => h) (Or.inr ⟨by rfl, rfl⟩) hS0 ?_
                  try simp only [Act.put, List.setIfInBounds_toArray, List.set_cons_zero, List.set_cons_succ]
                  refine takeD (i := 10) (v := undef) (some 95) rfl rfl (by kernel_rfl) (by kernel_rfl) (by kernel_rfl) (fun _ _ _ h => h) (Or.inr ⟨by rfl, rfl⟩) hS0 ?_
                  try simp only [Act.put, List.setIfInBounds_toArray, List.set_cons_zero, List.set_cons_succ]
                  refine takeD (i := 11) (v := undef) (some 96) rfl rfl (by kernel_rfl) (by kernel_rfl) (by kernel_rfl) (fun _ _ _ h => h) (Or.inr ⟨by rfl, rfl⟩) hS0 ?_
                  try simp only [Act.put, List.setIfInBounds_toArray, List.set_cons_zero, List.set_cons_succ]
                  refine takeD (i := 12) (v := undef) (some 97) rfl rfl (by kernel_rfl) (by kernel_rfl) (by kernel_rfl) (fun _ _ _ h => h) (Or.inr ⟨by rfl, rfl⟩) hS0 ?_
                  try simp only [Act.put, List.setIfInBounds_toArray, List.set_cons_zero, List.set_cons_succ]
                  refine takeD (i := 13) (v := undef) (some 98) rfl rfl (by kernel_rfl) (by kernel_rfl) (by kernel_rfl) (fun _ _ _ h => h) (Or.inr ⟨by rfl, rfl⟩) hS0 ?_
                  try simp only [Act.put, List.setIfInBounds_toArray, List.set_cons_zero, List.set_cons_succ]
                  refine takeD (i := 14) (v := undef) (some 99) rfl rfl (by kernel_rfl) (by kernel_rfl) (by kernel_rfl) (fun _ _ _ h => h) (Or.inr ⟨by rfl, rfl⟩) hS0 ?_
                  try simp only [Act.put, List.setIfInBounds_toArray, List.set_cons_zero, List.set_cons_succ]
                  refine takeD (i := 15) (v := undef) (some 100) rfl rfl (by kernel_rfl) (by kernel_rfl) (by kernel_rfl) (fun _ _ _ h => h) (Or.inr ⟨by rfl, rfl⟩) hS0 ?_
                  try simp only [Act.put, List.setIfInBounds_toArray, List.set_cons_zero, List.set_cons_succ]
                  refine takeD (i := 16) (v := undef) (some 101) rfl rfl (by kernel_rfl) (by kernel_rfl) (by kernel_rfl) (fun _ _ _ h => h) (Or.inr ⟨by rfl, rfl⟩) hS0 ?_
                  try simp only [Act.put, List.setIfInBounds_toArray, List.set_cons_zero, List.set_cons_succ]
                  refine takeD (i := 17) (v := undef) (some 102) rfl rfl (by kernel_rfl) (by kernel_rfl) (by kernel_rfl) (fun _ _ _ h => h) (Or.inr ⟨by rfl, rfl⟩) hS0 ?_
                  try simp only [Act.put, List.setIfInBounds_toArray, List.set_cons_zero, List.set_cons_succ]
                  refine takeD (i := 18) (v := undef) (some 103) rfl rfl (by kernel_rfl) (by kernel_rfl) (by kernel_rfl) (fun _ _ _ h => h) (Or.inr ⟨by rfl, rfl⟩) hS0 ?_
                  try simp only [Act.put, List.setIfInBounds_toArray, List.set_cons_zero, List.set_cons_succ]
                  refine takeD (i := 19) (v := undef) (some 104) rfl rfl (by kernel_rfl) (by kernel_rfl) (by kernel_rfl) (fun _ _ _ h => h) (Or.inr ⟨by rfl, rfl⟩) hS0 ?_
                  try simp only [Act.put, List.setIfInBounds_toArray, List.set_cons_zero, List.set_cons_succ]
                  refine takeD (i := 20) (v := undef) (some 105) rfl rfl (by kernel_rfl) (by kernel_rfl) (by kernel_rfl) (fun _ _ _ h => h) (Or.inr ⟨by rfl, rfl⟩) hS0 ?_
                  try simp only [Act.put, List.setIfInBounds_toArray, List.set_cons_zero, List.set_cons_succ]
                  refine takeD (i := 21) (v := undef) (some 106) rfl rfl (by kernel_rfl) (by kernel_rfl) (by kernel_rfl) (fun _ _ _ h => h) (Or.inr ⟨by rfl, rfl⟩) hS0 ?_
                  try simp only [Act.put, List.setIfInBounds_toArray, List.set_cons_zero, List.set_cons_succ]
                  refine takeD (i := 22) (v := undef) (some 107) rfl rfl (by kernel_rfl) (by kernel_rfl) (by kernel_rfl) (fun _ _ _ h => h) (Or.inr ⟨by rfl, rfl⟩) hS0 ?_
                  try simp only [Act.put, List.setIfInBounds_toArray, List.set_cons_zero, List.set_cons_succ]
                  refine takeD (i := 23) (v := undef) (some 108) rfl rfl (by kernel_rfl) (by kernel_rfl) (by kernel_rfl) (fun _ _ _ h => h) (Or.inr ⟨by rfl, rfl⟩) hS0 ?_
                  try simp only [Act.put, List.setIfInBounds_toArray, List.set_cons_zero, List.set_cons_succ]
                  refine takeD (i := 24) (v := .bool false) (some 109) rfl rfl (by kernel_rfl) (by kernel_rfl) (by kernel_rfl) (fun _ _ _ h => h) (Or.inl ⟨by rfl, ?_⟩) hS0 ?_
                  · rintro w' hq
                    go_simp
                  try simp only [Act.put, List.setIfInBounds_toArray, List.set_cons_zero, List.set_cons_succ]
                  refine wpAnyH_done (by kernel_rfl) ?_ _
                  have HF := Kp.mk hS0
                  clear hS0
                  go_wp2_with fail
                  go_roundw
                  case rel => exact ⟨k + 1, by go_num, by omega, HF⟩
                  case measure => simp [intOf]; omega
                | true =>
                  have HTK := Kp.mk hT
                  have HLK := Kp.mk hlk
                  have HIN := Kp.mk (reach_link (T := T') hS0.l.len HG.out hlk hT)
                  obtain ⟨la, lp, lb, lq⟩ := lk
                  clear hT hlk
                  refine wp_region_held_drew (S := Gw w i (some ⟨bl, ol, none⟩) n1 c1' l1 MB A9 c9 T T') (by kernel_rfl) hS0 (fun _ => ?_)
                  refine takeD (i := 0) (v := .slice (some ⟨MB, 0, none⟩) n1 n1) (some 85) rfl rfl (by kernel_rfl) (by kernel_rfl) (by kernel_rfl) (fun _ _ _ h => h) (Or.inl ⟨by rfl, ?_⟩) hS0 ?_
                  · rintro w' hq
                    go_simp
                  try simp only [Act.put, List.setIfInBounds_toArray, List.set_cons_zero, List.set_cons_succ]
                  refine takeD (i := 1) (v := .int .i64 k) (some 86) rfl rfl (by kernel_rfl) (by kernel_rfl) (by kernel_rfl) (fun _ _ _ h => h) (Or.inl ⟨by rfl, ?_⟩) hS0 ?_
                  · rintro w' hq
                    go_simp
                  try simp only [Act.put, List.setIfInBounds_toArray, List.set_cons_zero, List.set_cons_succ]
                  refine takeD (i := 2) (v := .pointer (some ⟨MB, k, none⟩)) (some 87) rfl rfl (by kernel_rfl) (by kernel_rfl) (by kernel_rfl) (fun _ _ _ h => h) (Or.inl ⟨by rfl, ?_⟩) hS0 ?_
                  · rintro w' hq
                    go_simp
                  try simp only [Act.put, List.setIfInBounds_toArray, List.set_cons_zero, List.set_cons_succ]
                  refine takeD (i := 3) (v := .bool true) (some 88) rfl rfl (by kernel_rfl) (by kernel_rfl) (by kernel_rfl) (fun _ _ _ h => h) (Or.inl ⟨by rfl, ?_⟩) hS0 ?_
                  · rintro w' hq
                    have z2 := hq.at_ HKM.out
                    rw [HTK.out] at z2
                    go_simp
                  try simp only [Act.put, List.setIfInBounds_toArray, List.set_cons_zero, List.set_cons_succ]
                  refine takeD (i := 4) (v := .bool true) (some 89) rfl rfl (by kernel_rfl) (by kernel_rfl) (by kernel_rfl) (fun _ _ _ h => h) (Or.inl ⟨by rfl, ?_⟩) hS0 ?_
                  · rintro w' hq
                    go_simp
                  try simp only [Act.put, List.setIfInBounds_toArray, List.set_cons_zero, List.set_cons_succ]
                  refine takeD (i := 5) (v := .agg #[.int .i64 i, .slice (some ⟨bl, ol, none⟩) n1 c1']) (some 90) rfl rfl (by kernel_rfl) (by kernel_rfl) (by kernel_rfl) (fun _ _ _ h => h) (Or.inl ⟨by rfl, ?_⟩) hS0 ?_
                  · rintro w' hq
                    obtain ⟨z0, z1⟩ := hq.cells
                    go_simp
                  try simp only [Act.put, List.setIfInBounds_toArray, List.set_cons_zero, List.set_cons_succ]
                  refine takeD (i := 6) (v := .slice (some ⟨MB, 0, none⟩) n1 n1) (some 91) rfl rfl (by kernel_rfl) (by kernel_rfl) (by kernel_rfl) (fun _ _ _ h => h) (Or.inl ⟨by rfl, ?_⟩) hS0 ?_
                  · rintro w' hq
                    go_simp
                  try simp only [Act.put, List.setIfInBounds_toArray, List.set_cons_zero, List.set_cons_succ]
                  refine takeD (i := 7) (v := .pointer (some ⟨w.heap.size, 1, none⟩)) (some 92) rfl rfl (by kernel_rfl) (by kernel_rfl) (by kernel_rfl) (fun _ _ _ h => h) (Or.inl ⟨by rfl, ?_⟩) hS0 ?_
                  · rintro w' hq
                    go_simp
                  try simp only [Act.put, List.setIfInBounds_toArray, List.set_cons_zero, List.set_cons_succ]
                  refine takeD (i := 8) (v := .slice (some ⟨bl, ol, none⟩) n1 c1') (some 93) rfl rfl (by kernel_rfl) (by kernel_rfl) (by kernel_rfl) (fun _ _ _ h => h) (Or.inl ⟨by rfl, ?_⟩) hS0 ?_
                  · rintro w' hq
                    obtain ⟨z0, z1⟩ := hq.cells
                    go_simp
                  try simp only [Act.put, List.setIfInBounds_toArray, List.set_cons_zero, List.set_cons_succ]
                  refine takeD (i := 9) (v := .int .i64 k) (some 94) rfl rfl (by kernel_rfl) (by kernel_rfl) (by kernel_rfl) (fun _ _ _ h => h) (Or.inl ⟨by rfl, ?_⟩) hS0 ?_
                  · rintro w' hq
                    go_simp
                  try simp only [Act.put, List.setIfInBounds_toArray, List.set_cons_zero, List.set_cons_succ]
                  refine takeD (i := 10) (v := .pointer (some ⟨bl, ol + k * 4, none⟩)) (some 95) rfl rfl (by kernel_rfl) (by kernel_rfl) (by kernel_rfl) (fun _ _ _ h => h) (Or.inl ⟨by rfl, ?_⟩) hS0 ?_
                  · rintro w' hq
                    have hk1 : (k : Int) < n1 := by have := HKM.out; omega
                    have hk2 := HKM.out
                    go_simp
                  try simp only [Act.put, List.setIfInBounds_toArray, List.set_cons_zero, List.set_cons_succ]
                  refine takeD (i := 11) (v := .pointer (some ⟨bl, ol + k * 4, none⟩)) (some 96) rfl rfl (by kernel_rfl) (by kernel_rfl) (by kernel_rfl) (fun _ _ _ h => h) (Or.inl ⟨by rfl, ?_⟩) hS0 ?_
                  · rintro w' hq
                    go_simp
                  try simp only [Act.put, List.setIfInBounds_toArray, List.set_cons_zero, List.set_cons_succ]
                  refine takeD (i := 12) (v := .pointer (some ⟨bl, ol + k * 4, none⟩)) (some 97) rfl rfl (by kernel_rfl) (by kernel_rfl) (by kernel_rfl) (fun _ _ _ h => h) (Or.inl ⟨by rfl, ?_⟩) hS0 ?_
                  · rintro w' hq
                    go_simp
                  try simp only [Act.put, List.setIfInBounds_toArray, List.set_cons_zero, List.set_cons_succ]
                  refine takeD (i := 13) (v := .int .i64 la) (some 98) rfl rfl (by kernel_rfl) (by kernel_rfl) (by kernel_rfl) (fun _ _ _ h => h) (Or.inl ⟨by rfl, ?_⟩) hS0 ?_
                  · rintro w' hq
                    obtain ⟨y0, y1⟩ := hq.link HLK.out
                    dsimp only at y0 y1
                    go_simp
                  try simp only [Act.put, List.setIfInBounds_toArray, List.set_cons_zero, List.set_cons_succ]
                  refine takeD (i := 15) (v := .pointer (some ⟨w.heap.size, 1, none⟩)) (some 100) rfl rfl (by kernel_rfl) (by kernel_rfl) (by kernel_rfl) (fun _ _ _ h => h) (Or.inl ⟨by rfl, ?_⟩) hS0 ?_
                  · rintro w' hq
                    go_simp
                  try simp only [Act.put, List.setIfInBounds_toArray, List.set_cons_zero, List.set_cons_succ]
                  refine takeD (i := 16) (v := .slice (some ⟨bl, ol, none⟩) n1 c1') (some 101) rfl rfl (by kernel_rfl) (by kernel_rfl) (by kernel_rfl) (fun _ _ _ h => h) (Or.inl ⟨by rfl, ?_⟩) hS0 ?_
                  · rintro w' hq
                    obtain ⟨z0, z1⟩ := hq.cells
                    go_simp
                  try simp only [Act.put, List.setIfInBounds_toArray, List.set_cons_zero, List.set_cons_succ]
                  refine takeD (i := 17) (v := .int .i64 k) (some 102) rfl rfl (by kernel_rfl) (by kernel_rfl) (by kernel_rfl) (fun _ _ _ h => h) (Or.inl ⟨by rfl, ?_⟩) hS0 ?_
                  · rintro w' hq
                    go_simp
                  try simp only [Act.put, List.setIfInBounds_toArray, List.set_cons_zero, List.set_cons_succ]
                  refine takeD (i := 18) (v := .pointer (some ⟨bl, ol + k * 4, none⟩)) (some 103) rfl rfl (by kernel_rfl) (by kernel_rfl) (by kernel_rfl) (fun _ _ _ h => h) (Or.inl ⟨by rfl, ?_⟩) hS0 ?_
                  · rintro w' hq
                    have hk1 : (k : Int) < n1 := by have := HKM.out; omega
                    have hk2 := HKM.out
                    go_simp
                  try simp only [Act.put, List.setIfInBounds_toArray, List.set_cons_zero, List.set_cons_succ]
                  refine takeD (i := 19) (v := .pointer (some ⟨bl, ol + k * 4 + 2, none⟩)) (some 104) rfl rfl (by kernel_rfl) (by kernel_rfl) (by kernel_rfl) (fun _ _ _ h => h) (Or.inl ⟨by rfl, ?_⟩) hS0 ?_
                  · rintro w' hq
                    go_simp
                  try simp only [Act.put, List.setIfInBounds_toArray, List.set_cons_zero, List.set_cons_succ]
                  refine takeD (i := 20) (v := .pointer (some ⟨bl, ol + k * 4 + 2, none⟩)) (some 105) rfl rfl (by kernel_rfl) (by kernel_rfl) (by kernel_rfl) (fun _ _ _ h => h) (Or.inl ⟨by rfl, ?_⟩) hS0 ?_
                  · rintro w' hq
                    go_simp
                  try simp only [Act.put, List.setIfInBounds_toArray, List.set_cons_zero, List.set_cons_succ]
                  refine takeD (i := 21) (v := .int .i64 lb) (some 106) rfl rfl (by kernel_rfl) (by kernel_rfl) (by kernel_rfl) (fun _ _ _ h => h) (Or.inl ⟨by rfl, ?_⟩) hS0 ?_
                  · rintro w' hq
                    obtain ⟨y0, y1⟩ := hq.link HLK.out
                    dsimp only at y0 y1
                    go_simp
                  try simp only [Act.put, List.setIfInBounds_toArray, List.set_cons_zero, List.set_cons_succ]
                  refine wpAnyH_ready (rs := [14]) (by kernel_rfl) (by simp) ?_
                  refine AllReadyH.cons rfl (fun K hK => ?_) AllReadyH.nil
                  try rw [if_pos (by rfl)]
                  go_simp
                  refine (gReach_any hS0.l.lr (Nat.le_refl _) hS0.more (Nat.le_refl _) i la).mono ?_
                  rintro e u1 ⟨v1, rfl, ⟨q1, hO1⟩, hb1⟩
                  obtain ⟨A5, c5, rfl, _⟩ := hO1.form
                  have hS1 := Gw.step hS0 hb1
                  refine hK.out _ _ hS1 (fun _ => ?_)
                  clear hK K
                  try simp only [Act.put, List.setIfInBounds_toArray, List.set_cons_zero, List.set_cons_succ]
                  refine wpAnyH_ready (rs := [22]) (by kernel_rfl) (by simp) ?_
                  refine AllReadyH.cons rfl (fun K hK => ?_) AllReadyH.nil
                  try rw [if_pos (by rfl)]
                  go_simp
                  refine (in_any hO1.rd lb).mono ?_
                  rintro e u2 ⟨rfl, hu2⟩
                  rw [hu2, decide_eq_true (show lb ∈ _ from HIN.out)]
                  clear hu2 u2
                  refine hK.out _ _ hS1 (fun _ => ?_)
                  clear hK K
                  try simp only [Act.put, List.setIfInBounds_toArray, List.set_cons_zero, List.set_cons_succ]
                  refine takeD (i := 23) (v := .bool false) (some 108) rfl rfl (by kernel_rfl) (by kernel_rfl) (by kernel_rfl) (fun _ _ _ h => h) (Or.inl ⟨by rfl, ?_⟩) hS1 ?_
                  · rintro w' hq
                    go_simp
                  try simp only [Act.put, List.setIfInBounds_toArray, List.set_cons_zero, List.set_cons_succ]
                  refine takeD (i := 24) (v := .bool false) (some 109) rfl rfl (by kernel_rfl) (by kernel_rfl) (by kernel_rfl) (fun _ _ _ h => h) (Or.inl ⟨by rfl, ?_⟩) hS1 ?_
                  · rintro w' hq
                    go_simp
                  try simp only [Act.put, List.setIfInBounds_toArray, List.set_cons_zero, List.set_cons_succ]
                  refine wpAnyH_done (by kernel_rfl) ?_ _
                  have HF := Kp.mk hS1
                  clear hS0 hS1 hO1 hb1
                  go_wp2_with fail
                  go_roundw
                  case rel => exact ⟨k + 1, by go_num, by omega, HF⟩
                  case measure => simp [intOf]; omega
              · obtain rfl : k = n1 := by omega
                have hkm2 : ¬ (k : Int) < k := by omega
                go_upto_region 24 with fail
                have hS0 := HGw.out.step (Below.refl wr.heap.size wr).drew
                have hwh := whole_reach (bsC T k) HG.out
                clear HGw
                obtain ⟨L, hL⟩ : ∃ L, L = reachP i l1 (bsC T k) 1 := ⟨_, rfl⟩
                rw [← hL] at hwh
                have HL := Kp.mk hL.symm
                clear hL
                by_cases hLS : (L.length : Int) = i
                · rw [decide_eq_true hLS] at hwh
                  have HWH := Kp.mk hwh
                  clear hwh
                  refine wp_region_held_drew (S := Gw w i A1 k c1' l1 MB A9 c9 T T') (by kernel_rfl) hS0 (fun _ => ?_)
                  refine takeD (i := 0) (v := .agg #[.int .i64 i, .slice A1 k c1']) (some 110) rfl rfl (by kernel_rfl) (by kernel_rfl) (by kernel_rfl) (fun _ _ _ h => h) (Or.inl ⟨by rfl, ?_⟩) hS0 ?_
                  · rintro w' hq
                    obtain ⟨z0, z1⟩ := hq.cells
                    go_simp
                  try simp only [Act.put, List.setIfInBounds_toArray, List.set_cons_zero, List.set_cons_succ]
                  refine takeD (i := 1) (v := .slice A9 k c9) (some 111) rfl rfl (by kernel_rfl) (by kernel_rfl) (by kernel_rfl) (fun _ _ _ h => h) (Or.inl ⟨by rfl, ?_⟩) hS0 ?_
                  · rintro w' hq
                    go_simp
                  try simp only [Act.put, List.setIfInBounds_toArray, List.set_cons_zero, List.set_cons_succ]
                  refine takeD (i := 3) (v := .agg #[.int .i64 i, .slice A1 k c1']) (some 113) rfl rfl (by kernel_rfl) (by kernel_rfl) (by kernel_rfl) (fun _ _ _ h => h) (Or.inl ⟨by rfl, ?_⟩) hS0 ?_
                  · rintro w' hq
                    obtain ⟨z0, z1⟩ := hq.cells
                    go_simp
                  try simp only [Act.put, List.setIfInBounds_toArray, List.set_cons_zero, List.set_cons_succ]
                  refine takeD (i := 4) (v := .slice A9 k c9) (some 114) rfl rfl (by kernel_rfl) (by kernel_rfl) (by kernel_rfl) (fun _ _ _ h => h) (Or.inl ⟨by rfl, ?_⟩) hS0 ?_
                  · rintro w' hq
                    go_simp
                  try simp only [Act.put, List.setIfInBounds_toArray, List.set_cons_zero, List.set_cons_succ]
                  refine takeD (i := 7) (v := .pointer (some ⟨w.heap.size, 0, none⟩)) (some 117) rfl rfl (by kernel_rfl) (by kernel_rfl) (by kernel_rfl) (fun _ _ _ h => h) (Or.inl ⟨by rfl, ?_⟩) hS0 ?_
                  · rintro w' hq
                    go_simp
                  try simp only [Act.put, List.setIfInBounds_toArray, List.set_cons_zero, List.set_cons_succ]
                  refine takeD (i := 8) (v := .int .i64 i) (some 118) rfl rfl (by kernel_rfl) (by kernel_rfl) (by kernel_rfl) (fun _ _ _ h => h) (Or.inl ⟨by rfl, ?_⟩) hS0 ?_
                  · rintro w' hq
                    obtain ⟨z0, z1⟩ := hq.cells
                    go_simp
                  try simp only [Act.put, List.setIfInBounds_toArray, List.set_cons_zero, List.set_cons_succ]
                  refine wpAnyH_ready (rs := [2]) (by kernel_rfl) (by simp) ?_
                  refine AllReadyH.cons rfl (fun K hK => ?_) AllReadyH.nil
                  try rw [if_pos (by rfl)]
                  go_simp
                  refine (gWhole_any hS0.l.lr (Nat.le_refl _) hS0.few (Nat.le_refl _) i).mono ?_
                  rintro e u1 ⟨rfl, hb1⟩
                  rw [HWH.out]
                  have hS1 := Gw.step hS0 hb1
                  refine hK.out _ _ hS1 (fun _ => ?_)
                  clear hK K
                  try simp only [Act.put, List.setIfInBounds_toArray, List.set_cons_zero, List.set_cons_succ]
                  refine wpAnyH_ready (rs := [5]) (by kernel_rfl) (by simp) ?_
                  refine AllReadyH.cons rfl (fun K hK => ?_) AllReadyH.nil
                  try rw [if_pos (by rfl)]
                  go_simp
                  refine (gReach_any hS1.l.lr (Nat.le_refl _) hS1.few (Nat.le_refl _) i 1).mono ?_
                  rintro e u2 ⟨v1, rfl, ⟨q1, hO1⟩, hb2⟩
                  obtain ⟨A5, c5, rfl, _⟩ := hO1.form
                  rw [HL.out] at hO1
                  have hq1 := hO1.len
                  subst hq1
                  have hS2 := Gw.step hS1 hb2
                  refine hK.out _ _ hS2 (fun _ => ?_)
                  clear hK K
                  try simp only [Act.put, List.setIfInBounds_toArray, List.set_cons_zero, List.set_cons_succ]
                  refine takeD (i := 6) (v := .int .i64 L.length) (some 116) rfl rfl (by kernel_rfl) (by kernel_rfl) (by kernel_rfl) (fun _ _ _ h => h) (Or.inl ⟨by rfl, ?_⟩) hS2 ?_
                  · rintro w' hq
                    go_simp
                  try simp only [Act.put, List.setIfInBounds_toArray, List.set_cons_zero, List.set_cons_succ]
                  refine takeD (i := 9) (v := .bool true) (some 119) rfl rfl (by kernel_rfl) (by kernel_rfl) (by kernel_rfl) (fun _ _ _ h => h) (Or.inl ⟨by rfl, ?_⟩) hS2 ?_
                  · rintro w' hq
                    have hLS2 := hLS
                    go_simp
                  try simp only [Act.put, List.setIfInBounds_toArray, List.set_cons_zero, List.set_cons_succ]
                  refine takeD (i := 10) (v := .bool true) (some 120) rfl rfl (by kernel_rfl) (by kernel_rfl) (by kernel_rfl) (fun _ _ _ h => h) (Or.inl ⟨by rfl, ?_⟩) hS2 ?_
                  · rintro w' hq
                    go_simp
                  try simp only [Act.put, List.setIfInBounds_toArray, List.set_cons_zero, List.set_cons_succ]
                  refine takeD (i := 11) (v := .bool true) (some 121) rfl rfl (by kernel_rfl) (by kernel_rfl) (by kernel_rfl) (fun _ _ _ h => h) (Or.inl ⟨by rfl, ?_⟩) hS2 ?_
                  · rintro w' hq
                    go_simp
                  try simp only [Act.put, List.setIfInBounds_toArray, List.set_cons_zero, List.set_cons_succ]
                  refine wpAnyH_ready (rs := [12]) (by kernel_rfl) (by simp) ?_
                  refine AllReadyH.cons rfl (fun K hK => ?_) AllReadyH.nil
                  try rw [if_pos (by rfl)]
                  go_simp
                  refine (worksG_any _).mono ?_
                  rintro e u3 ⟨rfl, hb3⟩
                  have hS3 := Gw.step hS2 hb3
                  refine hK.out _ _ hS3 (fun _ => ?_)
                  clear hK K
                  try simp only [Act.put, List.setIfInBounds_toArray, List.set_cons_zero, List.set_cons_succ]
                  refine takeD (i := 13) (v := .bool true) (some 123) rfl rfl (by kernel_rfl) (by kernel_rfl) (by kernel_rfl) (fun _ _ _ h => h) (Or.inl ⟨by rfl, ?_⟩) hS3 ?_
                  · rintro w' hq
                    go_simp
                  try simp only [Act.put, List.setIfInBounds_toArray, List.set_cons_zero, List.set_cons_succ]
                  refine takeD (i := 14) (v := .bool true) (some 6) rfl rfl (by kernel_rfl) (by kernel_rfl) (by kernel_rfl) (fun _ _ _ h => h) (Or.inl ⟨by rfl, ?_⟩) hS3 ?_
                  · rintro w' hq
                    go_simp
                  try simp only [Act.put, List.setIfInBounds_toArray, List.set_cons_zero, List.set_cons_succ]
                  refine wpAnyH_done (by kernel_rfl) ?_ _
                  have HF := Kp.mk hS3.b
                  clear hS0 hS1 hS2 hS3 hO1 hb1 hb2 hb3
                  go_wp2_with fail
                  go_ret
                  exact ⟨rfl, HF.out⟩
                · rw [decide_eq_false hLS] at hwh
                  have HWH := Kp.mk hwh
                  clear hwh
                  refine wp_region_held_drew (S := Gw w i A1 k c1' l1 MB A9 c9 T T') (by kernel_rfl) hS0 (fun _ => ?_)
                  refine takeD (i := 0) (v := .agg #[.int .i64 i, .slice A1 k c1']) (some 110) rfl rfl (by kernel_rfl) (by kernel_rfl) (by kernel_rfl) (fun _ _ _ h => h) (Or.inl ⟨by rfl, ?_⟩) hS0 ?_
                  · rintro w' hq
                    obtain ⟨z0, z1⟩ := hq.cells
                    go_simp
                  try simp only [Act.put, List.setIfInBounds_toArray, List.set_cons_zero, List.set_cons_succ]
                  refine takeD (i := 1) (v := .slice A9 k c9) (some 111) rfl rfl (by kernel_rfl) (by kernel_rfl) (by kernel_rfl) (fun _ _ _ h => h) (Or.inl ⟨by rfl, ?_⟩) hS0 ?_
                  · rintro w' hq
                    go_simp
                  try simp only [Act.put, List.setIfInBounds_toArray, List.set_cons_zero, List.set_cons_succ]
                  refine takeD (i := 3) (v := .agg #[.int .i64 i, .slice A1 k c1']) (some 113) rfl rfl (by kernel_rfl) (by kernel_rfl) (by kernel_rfl) (fun _ _ _ h => h) (Or.inl ⟨by rfl, ?_⟩) hS0 ?_
                  · rintro w' hq
                    obtain ⟨z0, z1⟩ := hq.cells
                    go_simp
                  try simp only [Act.put, List.setIfInBounds_toArray, List.set_cons_zero, List.set_cons_succ]
                  refine takeD (i := 4) (v := .slice A9 k c9) (some 114) rfl rfl (by kernel_rfl) (by kernel_rfl) (by kernel_rfl) (fun _ _ _ h => h) (Or.inl ⟨by rfl, ?_⟩) hS0 ?_
                  · rintro w' hq
                    go_simp
                  try simp only [Act.put, List.setIfInBounds_toArray, List.set_cons_zero, List.set_cons_succ]
                  refine takeD (i := 7) (v := .pointer (some ⟨w.heap.size, 0, none⟩)) (some 117) rfl rfl (by kernel_rfl) (by kernel_rfl) (by kernel_rfl) (fun _ _ _ h => h) (Or.inl ⟨by rfl, ?_⟩) hS0 ?_
                  · rintro w' hq
                    go_simp
                  try simp only [Act.put, List.setIfInBounds_toArray, List.set_cons_zero, List.set_cons_succ]
                  refine takeD (i := 8) (v := .int .i64 i) (some 118) rfl rfl (by kernel_rfl) (by kernel_rfl) (by kernel_rfl) (fun _ _ _ h => h) (Or.inl ⟨by rfl, ?_⟩) hS0 ?_
                  · rintro w' hq
                    obtain ⟨z0, z1⟩ := hq.cells
                    go_simp
                  try simp only [Act.put, List.setIfInBounds_toArray, List.set_cons_zero, List.set_cons_succ]
                  refine wpAnyH_ready (rs := [2]) (by kernel_rfl) (by simp) ?_
                  refine AllReadyH.cons rfl (fun K hK => ?_) AllReadyH.nil
                  try rw [if_pos (by rfl)]
                  go_simp
                  refine (gWhole_any hS0.l.lr (Nat.le_refl _) hS0.few (Nat.le_refl _) i).mono ?_
                  rintro e u1 ⟨rfl, hb1⟩
                  rw [HWH.out]
                  have hS1 := Gw.step hS0 hb1
                  refine hK.out _ _ hS1 (fun _ => ?_)
                  clear hK K
                  try simp only [Act.put, List.setIfInBounds_toArray, List.set_cons_zero, List.set_cons_succ]
                  refine wpAnyH_ready (rs := [5]) (by kernel_rfl) (by simp) ?_
                  refine AllReadyH.cons rfl (fun K hK => ?_) AllReadyH.nil
                  try rw [if_pos (by rfl)]
                  go_simp
                  refine (gReach_any hS1.l.lr (Nat.le_refl _) hS1.few (Nat.le_refl _) i 1).mono ?_
                  rintro e u2 ⟨v1, rfl, ⟨q1, hO1⟩, hb2⟩
                  obtain ⟨A5, c5, rfl, _⟩ := hO1.form
                  rw [HL.out] at hO1
                  have hq1 := hO1.len
                  subst hq1
                  have hS2 := Gw.step hS1 hb2
                  refine hK.out _ _ hS2 (fun _ => ?_)
                  clear hK K
                  try simp only [Act.put, List.setIfInBounds_toArray, List.set_cons_zero, List.set_cons_succ]
                  refine takeD (i := 6) (v := .int .i64 L.length) (some 116) rfl rfl (by kernel_rfl) (by kernel_rfl) (by kernel_rfl) (fun _ _ _ h => h) (Or.inl ⟨by rfl, ?_⟩) hS2 ?_
                  · rintro w' hq
                    go_simp
                  try simp only [Act.put, List.setIfInBounds_toArray, List.set_cons_zero, List.set_cons_succ]
                  refine takeD (i := 9) (v := .bool false) (some 119) rfl rfl (by kernel_rfl) (by kernel_rfl) (by kernel_rfl) (fun _ _ _ h => h) (Or.inl ⟨by rfl, ?_⟩) hS2 ?_
                  · rintro w' hq
                    have hLS2 := hLS
                    go_simp
                  try simp only [Act.put, List.setIfInBounds_toArray, List.set_cons_zero, List.set_cons_succ]
                  refine takeD (i := 10) (v := .bool true) (some 120) rfl rfl (by kernel_rfl) (by kernel_rfl) (by kernel_rfl) (fun _ _ _ h => h) (Or.inl ⟨by rfl, ?_⟩) hS2 ?_
                  · rintro w' hq
                    go_simp
                  try simp only [Act.put, List.setIfInBounds_toArray, List.set_cons_zero, List.set_cons_succ]
                  refine takeD (i := 11) (v := .bool true) (some 121) rfl rfl (by kernel_rfl) (by kernel_rfl) (by kernel_rfl) (fun _ _ _ h => h) (Or.inl ⟨by rfl, ?_⟩) hS2 ?_
                  · rintro w' hq
                    go_simp
                  try simp only [Act.put, List.setIfInBounds_toArray, List.set_cons_zero, List.set_cons_succ]
                  refine wpAnyH_ready (rs := [12]) (by kernel_rfl) (by simp) ?_
                  refine AllReadyH.cons rfl (fun K hK => ?_) AllReadyH.nil
                  try rw [if_pos (by rfl)]
                  go_simp
                  refine (worksG_any _).mono ?_
                  rintro e u3 ⟨rfl, hb3⟩
                  have hS3 := Gw.step hS2 hb3
                  refine hK.out _ _ hS3 (fun _ => ?_)
                  clear hK K
                  try simp only [Act.put, List.setIfInBounds_toArray, List.set_cons_zero, List.set_cons_succ]
                  refine takeD (i := 13) (v := .bool true) (some 123) rfl rfl (by kernel_rfl) (by kernel_rfl) (by kernel_rfl) (fun _ _ _ h => h) (Or.inl ⟨by rfl, ?_⟩) hS3 ?_
                  · rintro w' hq
                    go_simp
                  try simp only [Act.put, List.setIfInBounds_toArray, List.set_cons_zero, List.set_cons_succ]
                  refine takeD (i := 14) (v := .bool true) (some 6) rfl rfl (by kernel_rfl) (by kernel_rfl) (by kernel_rfl) (fun _ _ _ h => h) (Or.inl ⟨by rfl, ?_⟩) hS3 ?_
                  · rintro w' hq
                    go_simp
                  try simp only [Act.put, List.setIfInBounds_toArray, List.set_cons_zero, List.set_cons_succ]
                  refine wpAnyH_done (by kernel_rfl) ?_ _
                  have HF := Kp.mk hS3.b
                  clear hS0 hS1 hS2 hS3 hO1 hb1 hb2 hb3
                  go_wp2_with fail
                  go_ret
                  exact ⟨rfl, HF.out⟩
end Go.Proofs.Ytlmonnggklfniaa.Oct
