/- Layer 14 (inbox): InboxPlays walked. -/
import Derived.Test.YtdhidgcjpeafnaaInbD
import Derived.Test.YtdhidgcjpeafnaaInbM
import Derived.Test.YtdhidgcjpeafnaaInbX
import Derived.Deep.QuietTactic
namespace Go.Proofs.Ytdhidgcjpeafnaa.Oct
open Go.RowKit
set_option linter.unusedVariables false
set_option linter.unusedSimpArgs false
theorem quiet_i {P : Program} {f : FuncId} {args : Array Value} {w : World} {n : Nat} {v : Value}
    (h : Calls P f args (w.drewN n) fun e w' => e = .returned v ∧ w.drewN n = w') : Calls P f args (w.drewN n) fun e w'' => e = .returned v ∧ ∃ m, w'' = w.drewN m :=
  h.mono fun _ _ ⟨he, hm⟩ => ⟨he, n, hm.symm⟩
/-- Both inboxes, which are the same, all of them in blocks from lo on. -/
structure PI (W : World) (lo x b m : Nat) (wr : World) (base : Int) (f1 f2 f3 m1 m2 m3 : Option FrV) : Prop where
  ib : IY wr x b base (f1.map FrV.val) (f2.map FrV.val) (f3.map FrV.val)
  rm : Rm (fun k => lo ≤ k) wr m base none m1 m2 m3
  e1 : f1.map FrV.l = m1.map FrV.l
  e2 : f2.map FrV.l = m2.map FrV.l
  e3 : f3.map FrV.l = m3.map FrV.l
  r1 : ∀ f, f1 = some f → Fr wr lo f
  r2 : ∀ f, f2 = some f → Fr wr lo f
  r3 : ∀ f, f3 = some f → Fr wr lo f
  bl : Below lo W wr
  sz : lo ≤ wr.heap.size
  gx : lo ≤ x ∧ lo ≤ b ∧ lo ≤ m
theorem PI.ne {W wr : World} {lo x b m : Nat} {base : Int} {f1 f2 f3 m1 m2 m3 : Option FrV} (h : PI W lo x b m wr base f1 f2 f3 m1 m2 m3) : m ≠ x ∧ m ≠ b := ⟨vb_ne h.rm.vb h.ib.own (by decide), fun e => h.ib.mp.nocell _ _ _ (e ▸ h.rm.vb)⟩
theorem PI.stay {W wr w' : World} {lo x b m : Nat} {base : Int} {f1 f2 f3 m1 m2 m3 : Option FrV} {S : Nat → Prop} (h : PI W lo x b m wr base f1 f2 f3 m1 m2 m3) (hc : Ch S wr w') (hx : ¬ S x) (hb : ¬ S b) (hm : ¬ S m) (hs : ∀ b cs m, b < wr.heap.size → lo ≤ b → wr.heap[b]? = some (.cells cs 5 m) → ¬ S b) (hlo : ∀ k, S k → lo ≤ k) : PI W lo x b m w' base f1 f2 f3 m1 m2 m3 :=
  have hbl := hc.below (B := lo) hlo h.sz
  ⟨h.ib.stay hc hx hb, h.rm.stay hc hm hs, h.e1, h.e2, h.e3, fun f e => (h.r1 f e).below hbl, fun f e => (h.r2 f e).below hbl, fun f e => (h.r3 f e).below hbl, h.bl.trans hbl, Nat.le_trans h.sz hc.size, h.gx⟩
theorem PI.below {W wr w' : World} {lo x b m : Nat} {base : Int} {f1 f2 f3 m1 m2 m3 : Option FrV} (h : PI W lo x b m wr base f1 f2 f3 m1 m2 m3) (hb : Below wr.heap.size wr w') : PI W lo x b m w' base f1 f2 f3 m1 m2 m3 := h.stay (S := fun _ => False) (.of_below hb) id id id (fun _ _ _ _ _ _ e => e) (fun _ e => e.elim)
theorem PI.cnt {W wr : World} {lo x b m : Nat} {base : Int} {f1 f2 f3 m1 m2 m3 : Option FrV} (h : PI W lo x b m wr base f1 f2 f3 m1 m2 m3) : cnt (f1.map FrV.val) (f2.map FrV.val) (f3.map FrV.val) = cnt4 none m1 m2 m3 := by
  have k : ∀ f k : Option FrV, f.map FrV.l = k.map FrV.l → one1 (f.map FrV.val) = is1 k := by
    intro f k e
    cases f <;> cases k <;> simp_all [one1, is1]
  unfold Oct.cnt cnt4
  rw [k _ _ h.e1, k _ _ h.e2, k _ _ h.e3]
  simp [is1]
/-- The program's inbox has taken one. -/
theorem PI.prog {W wr w5 : World} {lo x b m : Nat} {base : Int} {f1 f2 f3 m1 m2 m3 : Option FrV} (h : PI W lo x b m wr base f1 f2 f3 m1 m2 m3) (hC : Ch (fun k => k = x ∨ k = b) wr w5) : Rm (fun k => lo ≤ k) w5 m base none m1 m2 m3 ∧ Below lo wr w5 ∧ lo ≤ w5.heap.size := by
  have hbl := hC.below (B := lo) (fun k e => by rcases e with rfl | rfl; exact h.gx.1; exact h.gx.2.1) h.sz
  refine ⟨h.rm.stay hC (fun e => by rcases e with e | e; exact h.ne.1 e; exact h.ne.2 e) (fun k cs mk _ _ hb e => ?_), hbl, Nat.le_trans h.sz hC.size⟩
  rcases e with rfl | rfl
  · have h2 := h.ib.own
    rw [show wr.heap[k]? = _ from h2] at hb
    have e := Option.some.inj hb
    injection e with _ e _
    exact absurd e (by decide)
  · exact h.ib.mp.nocell _ _ _ hb
/-- .. and the document's too. -/
theorem PI.both {W wr w5 w6 : World} {lo x b m n : Nat} {base seq : Int} {f1 f2 f3 m1 m2 m3 : Option FrV} {v f : FrV} (h : PI W lo x b m wr base f1 f2 f3 m1 m2 m3) (hC : Ch (fun k => k = x ∨ k = b) wr w5) (hv : Fr wr lo v) (hfl : f.l = v.l)
    (hI : IY w5 x b (Ser.plusP base n) ((nwG base seq f1 f2 f3 v).1.map FrV.val) ((nwG base seq f1 f2 f3 v).2.1.map FrV.val) ((nwG base seq f1 f2 f3 v).2.2.map FrV.val))
    (hR : Rm (fun k => lo ≤ k ∨ w5.heap.size ≤ k) w6 m (Ser.plusP base n) none (nwG base seq m1 m2 m3 f).1 (nwG base seq m1 m2 m3 f).2.1 (nwG base seq m1 m2 m3 f).2.2) (hC6 : Ch (fun k => k = m) w5 w6) :
    PI W lo x b m w6 (Ser.plusP base n) (nwG base seq f1 f2 f3 v).1 (nwG base seq f1 f2 f3 v).2.1 (nwG base seq f1 f2 f3 v).2.2 (nwG base seq m1 m2 m3 f).1 (nwG base seq m1 m2 m3 f).2.1 (nwG base seq m1 m2 m3 f).2.2 ∧ (∀ y ∈ outG base seq f1 f2 f3 v, Fr w6 lo y) := by
  obtain ⟨k1, k2, k3⟩ := h.prog hC
  have hbl6 := hC6.below (B := lo) (fun k e => by rw [e]; exact h.gx.2.2) k3
  have hb := k2.trans hbl6
  obtain ⟨q0, q1, q2, q3⟩ := nwG_mem (P := Fr w6 lo) (base := base) (seq := seq) (fun y e => (h.r1 y e).below hb) (fun y e => (h.r2 y e).below hb) (fun y e => (h.r3 y e).below hb) (hv.below hb)
  have en := nwG_map FrV.l base seq f1 f2 f3 v
  rw [h.e1, h.e2, h.e3, ← hfl, nwG_map FrV.l base seq m1 m2 m3 f] at en
  simp only [Prod.mk.injEq] at en
  exact ⟨⟨hI.stay hC6 (fun e => h.ne.1 e.symm) (fun e => h.ne.2 e.symm), hR.imp (fun k _ e => by rcases e with e | e; exact e; exact Nat.le_trans k3 e), en.1.symm, en.2.1.symm, en.2.2.symm, q1, q2, q3, h.bl.trans hb, Nat.le_trans k3 hC6.size, h.gx⟩, q0⟩
theorem orw_blk {w : World} {base n c k : Nat} {A : Option Addr} {fs : List FrV} {f : FrV} (h : Orw w base (.slice A n c) n fs) (hk : fs[k]? = some f) : ∃ g, A = some ⟨g, 0, none⟩ ∧ w.cell? ⟨g, k, none⟩ = some f.val ∧ (∀ j, w.frozen? ⟨g, j, none⟩ = false) ∧ ∀ f' : FrV, Orw (w.setCell ⟨g, k, none⟩ f'.val) base (.slice A n c) n (fs.set k f') := by
  have hlt := (List.getElem?_eq_some_iff.1 hk).1
  have hl := h.len
  obtain ⟨g, cap, hv, hbg, hg⟩ := World.ownsRow.form h (by omega)
  injection hv with hA _ hcap
  subst hA hcap
  obtain ⟨b, off, e, _, hc⟩ := h.rr.at_ (by omega)
  obtain ⟨rfl, rfl⟩ : g = b ∧ 0 = off := by simpa using e
  have q := hc k f hk
  rw [Nat.zero_add] at q
  refine ⟨g, rfl, q, fun j => World.ownsRow.frozenAt h j, fun f' => ?_⟩
  have := (World.ownsRow.stored h k f'.val).1
  unfold Orw
  rw [List.map_set]
  exact this
def PlR (W : World) (lo x b m n0 : Nat) (s9 : Value) (wr : World) : Prop := ∃ (i : Nat) (base : Int) (f1 f2 f3 m1 m2 m3 : Option FrV), s9 = .int .i64 i ∧ i ≤ n0 ∧ i ≤ 200 ∧ PI W lo x b m wr base f1 f2 f3 m1 m2 m3
set_option maxRecDepth 100000 in
set_option maxHeartbeats 16000000 in
theorem inboxPlays_any {W : World} {A0 : Option Addr} {n0 c0 : Nat} {ds : List DoI} (a : Int) (h : Di W W.heap.size A0 n0 c0 ds) : Calls Try.prog 3 #[.int .i64 a, .slice A0 n0 c0] W fun e w' => e = .returned (.bool true) ∧ Below W.heap.size W w' := by
  have hm := h.max
  have HR := Kp.mk h
  obtain ⟨lo, hlo⟩ : ∃ lo, lo = W.heap.size := ⟨_, rfl⟩
  rw [← hlo]
  have HLO := Kp.mk hlo
  clear hlo h
  by_cases hok : a < 0 ∨ 65535 < a
  · go_enter Try.func3, Try.ntmps3
    go_wp2_with fail
    refine (xnew_no_y W a hok).mono ?_
    rintro e w1 ⟨rfl, hw1⟩
    subst hw1
    go_wp2_with fail
    refine (mnew_no w1 a hok).mono ?_
    rintro e w2 ⟨rfl, hw2⟩
    subst hw2
    go_wp2_with fail
    refine wp_loop_rounds 1 ?_
    rw [rounds_succ]
    by_cases hn0 : (0 : Int) < n0
    · go_wp2_with fail
      refine (iworks_any w2).mono ?_
      rintro e w9 ⟨rfl, hb9⟩
      have HF := Kp.mk (show Below lo w2 w9 by rw [HLO.out]; exact hb9)
      clear hb9
      go_wp2_with fail
      go_ret
      exact ⟨rfl, HF.out⟩
    · obtain rfl : n0 = 0 := by omega
      go_wp2_with fail
      refine (iworks_any w2).mono ?_
      rintro e w9 ⟨rfl, hb9⟩
      have HF := Kp.mk (show Below lo w2 w9 by rw [HLO.out]; exact hb9)
      clear hb9
      go_wp2_with fail
      go_ret
      exact ⟨rfl, HF.out⟩
  · go_enter Try.func3, Try.ntmps3
    go_wp2_with fail
    refine (xnew_yes_y W a (by omega) (by omega)).mono ?_
    rintro e w1 ⟨x, b, rfl, hx, hb, h1, hb1⟩
    have H1 := Kp.mk h1
    have HB1 := Kp.mk hb1
    have HX := Kp.mk (show lo ≤ x ∧ lo ≤ b by rw [HLO.out]; exact ⟨hx, hb⟩)
    clear hx hb h1 hb1
    go_wp2_with fail
    refine (mnew_yes (P := fun k => lo ≤ k) w1 a (by omega) (by omega)).mono ?_
    rintro e w2 ⟨rfl, hR2, hb2⟩
    have HP := Kp.mk (show PI W lo x b w1.heap.size w2 a none none none none none none from ⟨H1.out.below hb2, hR2, rfl, rfl, rfl, fun f e => by simp at e, fun f e => by simp at e, fun f e => by simp at e, by rw [HLO.out]; exact HB1.out.trans (hb2.mono HB1.out.size), by have := HB1.out.size; have := hb2.size; have := HLO.out; omega, HX.out.1, HX.out.2, by have := HB1.out.size; have := HLO.out; omega⟩)
    generalize w1.heap.size = m at *
    clear hR2 hb2 H1 HB1
    go_wp2_with fail
    go_loopw [9] (fun s9 wr => PlR W lo x b m n0 s9 wr) (fun s9 _ => 200 - (intOf s9).toNat)
    case atStart => exact ⟨0, a, none, none, none, none, none, none, rfl, Nat.zero_le _, Nat.zero_le _, HP.out⟩
    case round =>
      clear HP
      obtain ⟨i, base, f1, f2, f3, m1, m2, m3, rfl, hi1, hi2, hP⟩ := hrel
      by_cases hl1 : (i : Int) < n0
      · by_cases hl2 : (i : Int) < 200
        · obtain ⟨bD, oD, eD, hbD, hcD⟩ := (HR.out.below (hP.bl.mono (by rw [HLO.out]; exact Nat.le_refl _))).ex (by omega)
          subst eD
          have hil : i < ds.length := by have := HR.out.len; omega
          obtain ⟨q, hq⟩ : ∃ q, ds[i]? = some q := ⟨_, List.getElem?_eq_getElem hil⟩
          obtain ⟨d0, d1, d2⟩ := hcD i q hq
          have hby := HR.out.bytes q (List.mem_of_getElem? hq)
          rw [← HLO.out] at hby hbD
          obtain ⟨qk, qi, qA, qn, qc, qbs⟩ := q
          have hFq := Kp.mk (show Fr W lo ⟨qA, qn, qc, qbs⟩ from hby)
          have hbx := Kp.mk hbD
          have D0 := Kp.mk d0
          have D2 := Kp.mk d2
          have H := Kp.mk hP
          have HI := Kp.mk (And.intro hi1 hi2)
          clear hcD hq hil hby hbD hi1 hi2 hP
          dsimp only at d0 d1 d2 D0 D2
          have hbr : ∀ t : Nat, Calls Try.prog 10 #[.int .i64 qk, .int .i64 8] (wr.drewN t) fun e w' => e = .returned (.int .i64 (Ser.bringP qk 8)) ∧ wr.drewN t = w' := fun t => Ser.bring_any qk 8 _ (by omega) (by omega)
          have hak : ∀ t : Nat, Calls Try.prog 9 #[.pointer (some ⟨m, 0, none⟩)] (wr.drewN t) fun e w' => e = .returned (.int .i64 base) ∧ w' = wr.drewN t := fun t => mack_any (H.out.rm.below (below_drewN (Below.refl _ _) t))
          have HBR := Kp.mk hbr
          have HAK := Kp.mk hak
          have hbz := Ser.bringP_bd qk 8 (by omega)
          have hb0 := H.out.ib.r0
          have hb1 := H.out.ib.r1
          clear hbr hak
          generalize Ser.bringP qk 8 = z at *
          have hw1 : IntKind.i64.wrap (base + 65536) = base + 65536 := by rw [IntKind.wrap_i64]; omega
          have hw2 : IntKind.i64.wrap (base + 65536 + z) = base + 65536 + z := by rw [IntKind.wrap_i64]; omega
          have hw3 : IntKind.i64.wrap (base + 65536 + z - 2) = base + 65536 + z - 2 := by rw [IntKind.wrap_i64]; omega
          have hw4 : (base + 65536 + z - 2).tmod 65536 = (base + 65536 + z - 2) % 65536 := Int.tmod_eq_emod_of_nonneg (by omega)
          cases qi
          · go_wp2_with fail
            go_quiet (first | (go_at_call 9; exact Calls.quiet_of_same (HAK.out _)) | (go_at_call 10; exact quiet_i (HBR.out _)))
            have HU := Kp.mk (H.out.below (below_drewN (Below.refl _ _) nq))
            have DU := Kp.mk (show (wr.drewN nq).cell? ⟨bD, oD + i * 3 + 2, none⟩ = some (.slice qA qn qc) from D2.out)
            have d2 := DU.out
            generalize wr.drewN nq = wd at *
            clear H D0 D2 HBR HAK d0 d1
            obtain ⟨seq, hseq⟩ : ∃ seq, seq = (base + 65536 + z - 2) % 65536 := ⟨_, rfl⟩
            rw [← hseq]
            clear hseq hw1 hw2 hw3 hw4 hbz hb0 hb1
            go_wp2_with fail
            refine (ystep_any HU.out.ib seq ⟨qA, qn, qc, qbs⟩).mono ?_
            rintro e w5 ⟨A, n, c, rfl, hO, hI, hC⟩
            obtain ⟨k1, k2, k3⟩ := HU.out.prog hC
            have hbl5 := HU.out.bl.trans k2
            have d2 : w5.cell? ⟨bD, oD + i * 3 + 2, none⟩ = some (.slice qA qn qc) := (k2.cell (p := ⟨bD, _, none⟩) hbx.out).trans DU.out
            have hf5 : Fr w5 lo ⟨qA, qn, qc, qbs⟩ := hFq.out.below hbl5
            have HO := Kp.mk hO
            have HI5 := Kp.mk hI
            have HC5 := Kp.mk hC
            have HZ5 := Kp.mk (show lo ≤ w5.heap.size from k3)
            obtain ⟨E, hE⟩ : ∃ E, E = bad base seq := ⟨_, rfl⟩
            rw [← hE]
            have HE := Kp.mk hE
            clear hO hI hC k2 k3 hbl5 hE
            go_wp2_with fail
            refine (mstep_any k1 seq hf5.1 HU.out.gx.2.2 hf5.2.1 hf5.2.2).mono ?_
            rintro e w6 ⟨f, A', n', c', hfl, rfl, hO', hFb', hR6, hC6⟩
            rw [← HE.out]
            obtain ⟨hP6, hfr⟩ := HU.out.both HC5.out (hFq.out.below HU.out.bl) hfl HI5.out (by
              have hn : n' = n := by
                have h1 := hO'.len
                have h2 := HO.out.len
                have h3 := congrArg List.length (outG_map FrV.l base seq f1 f2 f3 ⟨qA, qn, qc, qbs⟩)
                rw [HU.out.e1, HU.out.e2, HU.out.e3, show (⟨qA, qn, qc, qbs⟩ : FrV).l = f.l from hfl.symm, outG_map FrV.l base seq m1 m2 m3 f] at h3
                simp at h3
                omega
              rw [← hn]
              exact hR6) hC6
            have hml : (outG base seq f1 f2 f3 ⟨qA, qn, qc, qbs⟩).map FrV.l = (outG base seq m1 m2 m3 f).map FrV.l := by
              have h3 := outG_map FrV.l base seq f1 f2 f3 ⟨qA, qn, qc, qbs⟩
              rw [HU.out.e1, HU.out.e2, HU.out.e3, show (⟨qA, qn, qc, qbs⟩ : FrV).l = f.l from hfl.symm, outG_map FrV.l base seq m1 m2 m3 f] at h3
              exact h3.symm
            have hOa := HO.out.stay hC6 (fun k hk e => by
              obtain ⟨cur, hcur⟩ := HO.out.typed k hk
              exact vb_ne (show Vb 27 w5 k cur.toList from by simpa [Vb] using hcur) k1.vb (by decide) e)
            have hn : n' = n := by
              have h1 := hO'.len
              have h2 := hOa.len
              have h3 := congrArg List.length hml
              simp at h3
              omega
            subst hn
            have hn4 : n' ≤ 4 := by have := hOa.len; have := out_le base seq f1 f2 f3 ⟨qA, qn, qc, qbs⟩; omega
            have hab : ∀ k, (Value.slice A n' c).ownBlock = some k → k < w5.heap.size ∧ lo ≤ k := fun k hk => ⟨(HO.out.lt k hk).2, Nat.le_trans (by have := HU.out.sz; omega) (HO.out.lt k hk).1⟩
            have hFb6 : ∀ g ∈ outG base seq m1 m2 m3 f, Fb (fun k => lo ≤ k) w6 g := fun g hg => (hFb' g hg).imp (fun k _ e => by rcases e with e | e; exact e; exact Nat.le_trans HZ5.out e)
            have hk1 := xack_y hP6.ib
            have hk2 := mack_any hP6.rm
            have hk3 := xwaits_y hP6.ib
            have hk4 := mwaits_any hP6.rm
            rw [hP6.cnt] at hk3
            have HP6 := Kp.mk hP6
            have HOA := Kp.mk hOa
            have HOB := Kp.mk hO'
            have HFR := Kp.mk hfr
            have HFB := Kp.mk hFb6
            have HML := Kp.mk hml
            have HAB := Kp.mk hab
            clear hO' hFb' hR6 hC6 hP6 hfr hml hOa hab hFb6 d2 hf5 k1 HO HI5 HC5
            generalize cnt4 none (nwG base seq m1 m2 m3 f).1 (nwG base seq m1 m2 m3 f).2.1 (nwG base seq m1 m2 m3 f).2.2 = cn at *
            obtain ⟨by', hby'⟩ : ∃ by', by' = Ser.plusP base n' := ⟨_, rfl⟩
            rw [← hby'] at hk1 hk2
            have HBY := Kp.mk hby'
            obtain ⟨fs, hfs⟩ : ∃ fs, fs = outG base seq f1 f2 f3 ⟨qA, qn, qc, qbs⟩ := ⟨_, rfl⟩
            obtain ⟨gs, hgs⟩ : ∃ gs, gs = outG base seq m1 m2 m3 f := ⟨_, rfl⟩
            rw [← hfs] at HOA HFR HML
            rw [← hgs] at HOB HFB HML
            clear hfs hgs hby'
            go_wp2_with (first | (refine hk1.mono ?_; rintro e u ⟨rfl, hu⟩; subst hu) | (refine hk2.mono ?_; rintro e u ⟨rfl, hu⟩; subst hu) | (refine hk3.mono ?_; rintro e u ⟨rfl, hu⟩; subst hu) | (refine hk4.mono ?_; rintro e u ⟨rfl, hu⟩; subst hu))
            clear hk1 hk2 hk3 hk4
            go_loopw [15] (fun s15 wq => ∃ (k : Nat) (fs' : List FrV), s15 = .int .i64 k ∧ k ≤ n' ∧ (∃ wa : Nat, Orw wq wa (.slice A n' c) n' fs') ∧ (∀ j, k ≤ j → fs'[j]? = fs[j]?) ∧ Ch (fun y => (Value.slice A n' c).ownBlock = some y) u wq) (fun s15 _ => n' - (intOf s15).toNat)
            case atStart => exact ⟨0, fs, rfl, Nat.zero_le _, ⟨_, HOA.out⟩, fun _ _ => rfl, Ch.refl _ _⟩
            case round =>
              obtain ⟨k, fs', rfl, hk, ⟨wa, hO⟩, hsame, hC⟩ := hrel
              have hOb := HOB.out.stay hC (fun k1 hk1 e => by have := (HOB.out.lt k1 hk1).1; have := (HAB.out k1 e).1; omega)
              have hnb : ∀ b cs mk, (Value.slice A n' c).ownBlock = some b → u.heap[b]? ≠ some (.cells cs 5 mk) := row_nocell HOA.out
              by_cases hlt : (k : Int) < n'
              · obtain ⟨y, hy⟩ : ∃ y, fs[k]? = some y := ⟨_, List.getElem?_eq_getElem (show k < fs.length by have := HOA.out.len; omega)⟩
                obtain ⟨y2, hy2⟩ : ∃ y2, gs[k]? = some y2 := ⟨_, List.getElem?_eq_getElem (show k < gs.length by have := HOB.out.len; omega)⟩
                have hl : y.l = y2.l := by
                  have h1 := congrArg (fun l => l[k]?) HML.out
                  simp only [List.getElem?_map, hy, hy2] at h1
                  simpa using h1
                obtain ⟨g, hA, q1, q2, q3⟩ := orw_blk hO ((hsame k (Nat.le_refl _)).trans hy)
                obtain ⟨b2, o2, e2, _, hc2⟩ := hOb.rr.at_ (by omega)
                have d4 := hc2 k y2 hy2
                subst hA e2
                have hbw := hC.below (B := lo) (fun k1 e => (HAB.out k1 e).2) HP6.out.sz
                have r1 := ((HFR.out y (List.mem_of_getElem? hy)).below hbw)
                have r2 := (HFB.out y2 (List.mem_of_getElem? hy2)).other hC (fun b cs mk e hb => hnb b cs mk e hb)
                have hq := Kp.mk (show ∀ t : Nat, Calls Try.prog 16 #[.slice y.A y.n y.c, .slice y2.A y2.n y2.c] (wr.drewN t) fun e w' => e = .returned (.bool true) ∧ wr.drewN t = w' from fun t => by
                  have := eqBytes_any (r1.1.below (below_drewN (Below.refl lo wr) t)) (r2.rd.below (below_drewN (Below.refl wr.heap.size wr) t)) r1.2.1 r2.bytes
                  rw [decide_eq_true hl] at this
                  exact this)
                have d3 : wr.cell? ⟨g, k, none⟩ = some (.slice y.A y.n y.c) := q1
                have d4 : wr.cell? ⟨b2, o2 + k, none⟩ = some (.slice y2.A y2.n y2.c) := d4
                have HQ3 := Kp.mk q3
                have HQ2 := Kp.mk (q2 k)
                have HCC := Kp.mk hC
                have HSM := Kp.mk hsame
                have D3 := Kp.mk d3
                have HFL := Kp.mk (show fs'.length = n' from hO.len)
                clear q1 q2 q3 hc2 hO hOb hsame hC hnb r1 r2 hbw hl hy hy2
                go_wp2_with fail
                go_quiet ((go_at_call 16; exact quiet_i (hq.out _)))
                have HCD := Kp.mk (show Ch (fun y => (Value.slice (some (⟨g, 0, none⟩ : Addr)) n' c).ownBlock = some y) u (wr.drewN nq) from ⟨HCC.out.os, HCC.out.tape, HCC.out.output, HCC.out.size, HCC.out.block⟩)
                have HQD := Kp.mk (show Orw ((wr.drewN nq).setCell ⟨g, k, none⟩ (.slice none 0 0)) wa (.slice (some ⟨g, 0, none⟩) n' c) n' (fs'.set k ⟨none, 0, 0, []⟩) from HQ3.out ⟨none, 0, 0, []⟩)
                have d5 : (wr.drewN nq).cell? ⟨g, k, none⟩ = some (.slice y.A y.n y.c) := D3.out
                have f5 : (wr.drewN nq).frozen? ⟨g, k, none⟩ = false := HQ2.out
                clear d3 d4 HQ3 HQ2 HCC D3 hq
                generalize wr.drewN nq = wz at *
                go_wp2_with fail
                go_roundw
                case rel => exact ⟨k + 1, fs'.set k ⟨none, 0, 0, []⟩, by go_num, by omega, ⟨wa, HQD.out⟩, fun j hj => by rw [List.getElem?_set_ne (by omega)]; exact HSM.out j (by omega), HCD.out.trans (Ch.of_grown (grownBy_set wz g k _)) (fun x _ e => by rw [e]; rfl)⟩
                case measure => simp [intOf]; omega
              · have hP7 := HP6.out.stay hC (fun e => by
                  obtain ⟨cur, hcur⟩ := HOA.out.typed x e
                  exact vb_ne (show Vb 27 u x cur.toList from by simpa [Vb] using hcur) HP6.out.ib.own (by decide) rfl) (fun e => by
                  obtain ⟨cur, hcur⟩ := HOA.out.typed b e
                  exact HP6.out.ib.mp.nocell _ _ _ hcur) (fun e => by
                  obtain ⟨cur, hcur⟩ := HOA.out.typed m e
                  exact vb_ne (show Vb 27 u m cur.toList from by simpa [Vb] using hcur) HP6.out.rm.vb (by decide) rfl) (fun b cs mk _ _ hb e => hnb b cs mk e hb) (fun k1 e => (HAB.out k1 e).2)
                have HP7 := Kp.mk hP7
                clear hP7 hO hOb hsame hC hnb
                go_wp2_with fail
                go_roundw
                case rel => exact ⟨i + 1, _, _, _, _, _, _, _, by go_num, by omega, by omega, HP7.out⟩
                case measure => simp [intOf]; omega
          · go_wp2_with fail
            have HU := Kp.mk H.out
            have DU := Kp.mk D2.out
            clear H D0 D2 HBR HAK d0 d1 hw1 hw2 hw3 hw4 hbz hb0 hb1
            obtain ⟨seq, hseq⟩ : ∃ seq, seq = qk := ⟨_, rfl⟩
            rw [← hseq]
            clear hseq
            refine (ystep_any HU.out.ib seq ⟨qA, qn, qc, qbs⟩).mono ?_
            rintro e w5 ⟨A, n, c, rfl, hO, hI, hC⟩
            obtain ⟨k1, k2, k3⟩ := HU.out.prog hC
            have hbl5 := HU.out.bl.trans k2
            have d2 : w5.cell? ⟨bD, oD + i * 3 + 2, none⟩ = some (.slice qA qn qc) := (k2.cell (p := ⟨bD, _, none⟩) hbx.out).trans DU.out
            have hf5 : Fr w5 lo ⟨qA, qn, qc, qbs⟩ := hFq.out.below hbl5
            have HO := Kp.mk hO
            have HI5 := Kp.mk hI
            have HC5 := Kp.mk hC
            have HZ5 := Kp.mk (show lo ≤ w5.heap.size from k3)
            obtain ⟨E, hE⟩ : ∃ E, E = bad base seq := ⟨_, rfl⟩
            rw [← hE]
            have HE := Kp.mk hE
            clear hO hI hC k2 k3 hbl5 hE
            go_wp2_with fail
            refine (mstep_any k1 seq hf5.1 HU.out.gx.2.2 hf5.2.1 hf5.2.2).mono ?_
            rintro e w6 ⟨f, A', n', c', hfl, rfl, hO', hFb', hR6, hC6⟩
            rw [← HE.out]
            obtain ⟨hP6, hfr⟩ := HU.out.both HC5.out (hFq.out.below HU.out.bl) hfl HI5.out (by
              have hn : n' = n := by
                have h1 := hO'.len
                have h2 := HO.out.len
                have h3 := congrArg List.length (outG_map FrV.l base seq f1 f2 f3 ⟨qA, qn, qc, qbs⟩)
                rw [HU.out.e1, HU.out.e2, HU.out.e3, show (⟨qA, qn, qc, qbs⟩ : FrV).l = f.l from hfl.symm, outG_map FrV.l base seq m1 m2 m3 f] at h3
                simp at h3
                omega
              rw [← hn]
              exact hR6) hC6
            have hml : (outG base seq f1 f2 f3 ⟨qA, qn, qc, qbs⟩).map FrV.l = (outG base seq m1 m2 m3 f).map FrV.l := by
              have h3 := outG_map FrV.l base seq f1 f2 f3 ⟨qA, qn, qc, qbs⟩
              rw [HU.out.e1, HU.out.e2, HU.out.e3, show (⟨qA, qn, qc, qbs⟩ : FrV).l = f.l from hfl.symm, outG_map FrV.l base seq m1 m2 m3 f] at h3
              exact h3.symm
            have hOa := HO.out.stay hC6 (fun k hk e => by
              obtain ⟨cur, hcur⟩ := HO.out.typed k hk
              exact vb_ne (show Vb 27 w5 k cur.toList from by simpa [Vb] using hcur) k1.vb (by decide) e)
            have hn : n' = n := by
              have h1 := hO'.len
              have h2 := hOa.len
              have h3 := congrArg List.length hml
              simp at h3
              omega
            subst hn
            have hn4 : n' ≤ 4 := by have := hOa.len; have := out_le base seq f1 f2 f3 ⟨qA, qn, qc, qbs⟩; omega
            have hab : ∀ k, (Value.slice A n' c).ownBlock = some k → k < w5.heap.size ∧ lo ≤ k := fun k hk => ⟨(HO.out.lt k hk).2, Nat.le_trans (by have := HU.out.sz; omega) (HO.out.lt k hk).1⟩
            have hFb6 : ∀ g ∈ outG base seq m1 m2 m3 f, Fb (fun k => lo ≤ k) w6 g := fun g hg => (hFb' g hg).imp (fun k _ e => by rcases e with e | e; exact e; exact Nat.le_trans HZ5.out e)
            have hk1 := xack_y hP6.ib
            have hk2 := mack_any hP6.rm
            have hk3 := xwaits_y hP6.ib
            have hk4 := mwaits_any hP6.rm
            rw [hP6.cnt] at hk3
            have HP6 := Kp.mk hP6
            have HOA := Kp.mk hOa
            have HOB := Kp.mk hO'
            have HFR := Kp.mk hfr
            have HFB := Kp.mk hFb6
            have HML := Kp.mk hml
            have HAB := Kp.mk hab
            clear hO' hFb' hR6 hC6 hP6 hfr hml hOa hab hFb6 d2 hf5 k1 HO HI5 HC5
            generalize cnt4 none (nwG base seq m1 m2 m3 f).1 (nwG base seq m1 m2 m3 f).2.1 (nwG base seq m1 m2 m3 f).2.2 = cn at *
            obtain ⟨by', hby'⟩ : ∃ by', by' = Ser.plusP base n' := ⟨_, rfl⟩
            rw [← hby'] at hk1 hk2
            have HBY := Kp.mk hby'
            obtain ⟨fs, hfs⟩ : ∃ fs, fs = outG base seq f1 f2 f3 ⟨qA, qn, qc, qbs⟩ := ⟨_, rfl⟩
            obtain ⟨gs, hgs⟩ : ∃ gs, gs = outG base seq m1 m2 m3 f := ⟨_, rfl⟩
            rw [← hfs] at HOA HFR HML
            rw [← hgs] at HOB HFB HML
            clear hfs hgs hby'
            go_wp2_with (first | (refine hk1.mono ?_; rintro e u ⟨rfl, hu⟩; subst hu) | (refine hk2.mono ?_; rintro e u ⟨rfl, hu⟩; subst hu) | (refine hk3.mono ?_; rintro e u ⟨rfl, hu⟩; subst hu) | (refine hk4.mono ?_; rintro e u ⟨rfl, hu⟩; subst hu))
            clear hk1 hk2 hk3 hk4
            go_loopw [15] (fun s15 wq => ∃ (k : Nat) (fs' : List FrV), s15 = .int .i64 k ∧ k ≤ n' ∧ (∃ wa : Nat, Orw wq wa (.slice A n' c) n' fs') ∧ (∀ j, k ≤ j → fs'[j]? = fs[j]?) ∧ Ch (fun y => (Value.slice A n' c).ownBlock = some y) u wq) (fun s15 _ => n' - (intOf s15).toNat)
            case atStart => exact ⟨0, fs, rfl, Nat.zero_le _, ⟨_, HOA.out⟩, fun _ _ => rfl, Ch.refl _ _⟩
            case round =>
              obtain ⟨k, fs', rfl, hk, ⟨wa, hO⟩, hsame, hC⟩ := hrel
              have hOb := HOB.out.stay hC (fun k1 hk1 e => by have := (HOB.out.lt k1 hk1).1; have := (HAB.out k1 e).1; omega)
              have hnb : ∀ b cs mk, (Value.slice A n' c).ownBlock = some b → u.heap[b]? ≠ some (.cells cs 5 mk) := row_nocell HOA.out
              by_cases hlt : (k : Int) < n'
              · obtain ⟨y, hy⟩ : ∃ y, fs[k]? = some y := ⟨_, List.getElem?_eq_getElem (show k < fs.length by have := HOA.out.len; omega)⟩
                obtain ⟨y2, hy2⟩ : ∃ y2, gs[k]? = some y2 := ⟨_, List.getElem?_eq_getElem (show k < gs.length by have := HOB.out.len; omega)⟩
                have hl : y.l = y2.l := by
                  have h1 := congrArg (fun l => l[k]?) HML.out
                  simp only [List.getElem?_map, hy, hy2] at h1
                  simpa using h1
                obtain ⟨g, hA, q1, q2, q3⟩ := orw_blk hO ((hsame k (Nat.le_refl _)).trans hy)
                obtain ⟨b2, o2, e2, _, hc2⟩ := hOb.rr.at_ (by omega)
                have d4 := hc2 k y2 hy2
                subst hA e2
                have hbw := hC.below (B := lo) (fun k1 e => (HAB.out k1 e).2) HP6.out.sz
                have r1 := ((HFR.out y (List.mem_of_getElem? hy)).below hbw)
                have r2 := (HFB.out y2 (List.mem_of_getElem? hy2)).other hC (fun b cs mk e hb => hnb b cs mk e hb)
                have hq := Kp.mk (show ∀ t : Nat, Calls Try.prog 16 #[.slice y.A y.n y.c, .slice y2.A y2.n y2.c] (wr.drewN t) fun e w' => e = .returned (.bool true) ∧ wr.drewN t = w' from fun t => by
                  have := eqBytes_any (r1.1.below (below_drewN (Below.refl lo wr) t)) (r2.rd.below (below_drewN (Below.refl wr.heap.size wr) t)) r1.2.1 r2.bytes
                  rw [decide_eq_true hl] at this
                  exact this)
                have d3 : wr.cell? ⟨g, k, none⟩ = some (.slice y.A y.n y.c) := q1
                have d4 : wr.cell? ⟨b2, o2 + k, none⟩ = some (.slice y2.A y2.n y2.c) := d4
                have HQ3 := Kp.mk q3
                have HQ2 := Kp.mk (q2 k)
                have HCC := Kp.mk hC
                have HSM := Kp.mk hsame
                have D3 := Kp.mk d3
                have HFL := Kp.mk (show fs'.length = n' from hO.len)
                clear q1 q2 q3 hc2 hO hOb hsame hC hnb r1 r2 hbw hl hy hy2
                go_wp2_with fail
                go_quiet ((go_at_call 16; exact quiet_i (hq.out _)))
                have HCD := Kp.mk (show Ch (fun y => (Value.slice (some (⟨g, 0, none⟩ : Addr)) n' c).ownBlock = some y) u (wr.drewN nq) from ⟨HCC.out.os, HCC.out.tape, HCC.out.output, HCC.out.size, HCC.out.block⟩)
                have HQD := Kp.mk (show Orw ((wr.drewN nq).setCell ⟨g, k, none⟩ (.slice none 0 0)) wa (.slice (some ⟨g, 0, none⟩) n' c) n' (fs'.set k ⟨none, 0, 0, []⟩) from HQ3.out ⟨none, 0, 0, []⟩)
                have d5 : (wr.drewN nq).cell? ⟨g, k, none⟩ = some (.slice y.A y.n y.c) := D3.out
                have f5 : (wr.drewN nq).frozen? ⟨g, k, none⟩ = false := HQ2.out
                clear d3 d4 HQ3 HQ2 HCC D3 hq
                generalize wr.drewN nq = wz at *
                go_wp2_with fail
                go_roundw
                case rel => exact ⟨k + 1, fs'.set k ⟨none, 0, 0, []⟩, by go_num, by omega, ⟨wa, HQD.out⟩, fun j hj => by rw [List.getElem?_set_ne (by omega)]; exact HSM.out j (by omega), HCD.out.trans (Ch.of_grown (grownBy_set wz g k _)) (fun x _ e => by rw [e]; rfl)⟩
                case measure => simp [intOf]; omega
              · have hP7 := HP6.out.stay hC (fun e => by
                  obtain ⟨cur, hcur⟩ := HOA.out.typed x e
                  exact vb_ne (show Vb 27 u x cur.toList from by simpa [Vb] using hcur) HP6.out.ib.own (by decide) rfl) (fun e => by
                  obtain ⟨cur, hcur⟩ := HOA.out.typed b e
                  exact HP6.out.ib.mp.nocell _ _ _ hcur) (fun e => by
                  obtain ⟨cur, hcur⟩ := HOA.out.typed m e
                  exact vb_ne (show Vb 27 u m cur.toList from by simpa [Vb] using hcur) HP6.out.rm.vb (by decide) rfl) (fun b cs mk _ _ hb e => hnb b cs mk e hb) (fun k1 e => (HAB.out k1 e).2)
                have HP7 := Kp.mk hP7
                clear hP7 hO hOb hsame hC hnb
                go_wp2_with fail
                go_roundw
                case rel => exact ⟨i + 1, _, _, _, _, _, _, _, by go_num, by omega, by omega, HP7.out⟩
                case measure => simp [intOf]; omega
        · go_wp2_with fail
          refine (iworks_any wr).mono ?_
          rintro e w9 ⟨rfl, hb9⟩
          have HF := Kp.mk (hP.bl.trans (hb9.mono hP.sz))
          clear hb9
          go_wp2_with fail
          go_ret
          exact ⟨rfl, HF.out⟩
      · have hl1' : decide ((i : Int) < n0) = false := by simpa using hl1
        go_wp2_with fail
        refine (iworks_any wr).mono ?_
        rintro e w9 ⟨rfl, hb9⟩
        have HF := Kp.mk (hP.bl.trans (hb9.mono hP.sz))
        clear hb9
        go_wp2_with fail
        go_ret
        exact ⟨rfl, HF.out⟩
theorem inboxPlays_walk (r0 : Int) (ds1 : List DoI) (b1 : Option Addr) (len1 cap1 : Nat) (W : World) (w0 : (Lit.int .i64 r0).wf = true) (rd1 : Di W W.heap.size b1 len1 cap1 ds1) : Calls Try.prog 3 #[.int .i64 r0, .slice b1 len1 cap1] W fun e w' => e = .returned (.bool true) ∧ Below W.heap.size W w' := inboxPlays_any r0 rd1
end Go.Proofs.Ytdhidgcjpeafnaa.Oct
