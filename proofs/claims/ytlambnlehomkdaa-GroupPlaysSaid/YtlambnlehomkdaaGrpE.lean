/- Contracts of layer 10 (group): the document's New; what works asks. -/
import Derived.Test.YtlambnlehomkdaaGrpD
namespace Go.Proofs.Ytlambnlehomkdaa.Oct
open Go.RowKit
set_option linter.unusedVariables false
set_option linter.unusedSimpArgs false

/-- A row of ints is written to: a block of another type stays. -/
theorem Oi.vb {w w' : World} {base n g : Nat} {v : Value} {l : List Int} {T : TypeId} {cs : List Value} (h : Oi w base v n l) (hv : Vb T w g cs) (hT : T ≠ 3) (hg : w.grownBy w' v.ownBlock) : Vb T w' g cs := by
  refine (hg.block g hv.lt (fun e => ?_)).trans hv
  rcases h.2 with ⟨rfl, _⟩ | ⟨k, cap, cur, rfl, hbg, hk, _⟩
  · simp [Value.ownBlock] at e
  · have e : g = k := by simpa [Value.ownBlock] using e
    subst e
    rw [show w.heap[g]? = _ from hv] at hk
    have hk := Option.some.inj hk
    injection hk with _ h2 _
    exact hT h2
set_option maxRecDepth 100000 in
set_option maxHeartbeats 4000000 in
theorem mnew_any {w : World} {B n c : Nat} {A : Option Addr} {l : List Int} (h : Rd .i64 w B A n c l) (hB : B ≤ w.heap.size) (hsz : n ≤ 1000000000) : Calls Try.prog 42 #[.slice A n c] w fun e w' => Below w.heap.size w w' ∧ ((newG 0 l = none ∧ e = .returned (.tuple #[.pointer none, .int .i64 2])) ∨ ∃ (s : Int) (g : Nat), newG 0 l = some s ∧ e = .returned (.tuple #[.pointer (some ⟨g, 0, none⟩), .int .i64 0]) ∧ Gm w' w.heap.size w'.heap.size g l s) := by
  have e1 := h.len
  have m1 := h.max
  have H1 := Kp.mk h
  have HL := Kp.mk e1
  have HB := Kp.mk hB
  have HZ := Kp.mk hsz
  have hB0 := below_two w (.cells #[] 3) (.cells (mcs (.slice (some ⟨w.heap.size, 0, none⟩) 0 0) 0).toArray 119)
  have hV : Vb 119 ((w.alloc (.cells #[] 3)).alloc (.cells (mcs (.slice (some ⟨w.heap.size, 0, none⟩) 0 0) 0).toArray 119)) (w.heap.size + 1) (mcs (.slice (some ⟨w.heap.size, 0, none⟩) 0 0) 0) := by
    have := Vb.new 119 (w.alloc (.cells #[] 3)) (mcs (.slice (some ⟨w.heap.size, 0, none⟩) 0 0) 0)
    simpa using this
  have hO : Oi ((w.alloc (.cells #[] 3)).alloc (.cells (mcs (.slice (some ⟨w.heap.size, 0, none⟩) 0 0) 0).toArray 119)) w.heap.size (.slice (some ⟨w.heap.size, 0, none⟩) 0 0) 0 [] := World.ownsRow.alloc (World.ownsRow_made w #[] 0 (Nat.le_refl _) (Nat.zero_le _) rfl) _
  rw [show (mcs (.slice (some ⟨w.heap.size, 0, none⟩) 0 0) 0).toArray = #[.slice (some ⟨w.heap.size, 0, none⟩) 0 0, .bool false, .bool false, .bool false, .bool false, .bool false] from rfl] at hB0 hV hO
  clear h e1 hB hsz
  go_enter Try.func42, Try.ntmps42
  go_upto_region 2 with fail
  generalize ((w.alloc (.cells #[] 3)).alloc (.cells #[.slice (some ⟨w.heap.size, 0, none⟩) 0 0, .bool false, .bool false, .bool false, .bool false, .bool false] 119)) = w0 at *
  obtain ⟨g, hg⟩ : ∃ g, g = w.heap.size + 1 := ⟨_, rfl⟩
  have HG := Kp.mk (show w.heap.size ≤ g by omega)
  rw [← hg] at hV ⊢
  clear hg
  generalize (Value.slice (some ⟨w.heap.size, 0, none⟩) 0 0) = v0 at *
  go_wp2_with fail
  go_loopw [5] (fun s5 wr => ∃ (k : Nat) (s : Int) (v : Value), s5 = .int .i64 k ∧ k ≤ n ∧ Vb 119 wr g (mcs v s) ∧ Oi wr w.heap.size v k (l.take k) ∧ Below w.heap.size w wr ∧ Kp (Sg s ∧ newG 0 l = newG s (l.drop k))) (fun s5 _ => n - (intOf s5).toNat)
  case atStart => exact ⟨0, 0, v0, rfl, Nat.zero_le _, hV, hO, hB0, Kp.mk ⟨⟨by omega, by omega⟩, rfl⟩⟩
  case round =>
    clear hV hO hB0
    obtain ⟨k, s, v, rfl, hk, hV, hO, hB, HT⟩ := hrel
    by_cases hlt : k < n
    · obtain ⟨b1, o1, rfl, _, f1⟩ := (H1.out.below' hB HB.out).at_ (by omega)
      have d1 := f1 k hlt
      have j1 : (k : Int) < n := by omega
      clear f1
      have HD := Kp.mk (drop_step (l := l) (k := k) (by have := HL.out; omega))
      have HTK := Kp.mk (take_snoc l k (by have := HL.out; omega))
      generalize l.getD k 0 = x at *
      by_cases hp : 1 ≤ x ∧ x ≤ 4
      · have hq := hp
        obtain ⟨m, rfl⟩ := nat_port hq
        obtain ⟨p1, p2⟩ := hp
        have q1 : ¬ (m : Int) < 1 := by omega
        have q2 : ¬ 4 < (m : Int) := by omega
        have q0 : (m : Int) < 5 := by omega
        have c2 := hV.cell (1 + m) (mcs_at _ s m hq)
        have HIP := Kp.mk ((isPort_iff m).2 hq)
        have HSG := Kp.mk (with_sg HT.out.1 hq)
        have HQ := Kp.mk hq
        clear hq p1 p2
        cases hb : bitG s m with
        | true =>
          have HR := Kp.mk (show newG 0 l = none by rw [HT.out.2, HD.out, newG_bad (by rw [hb]; simp)])
          rw [hb] at c2
          clear hb hV hO
          go_wp2_with fail
          go_ret2
          exact ⟨hB, .inl ⟨HR.out, rfl⟩⟩
        | false =>
          have HT2 := Kp.mk (show Sg (withG s m) ∧ newG 0 l = newG (withG s m) (l.drop (k + 1)) from ⟨HSG.out, by rw [HT.out.2, HD.out, newG_good (by rw [hb, HIP.out]; rfl)]⟩)
          rw [hb] at c2
          have hf := hV.free
          go_upto_region 9 with fail
          have hV2 := hV.set (1 + m) (.bool true)
          rw [mcs_set v true m HT.out.1 HQ.out, show liveG s m true = withG s m from rfl] at hV2
          have hO2 := hO.other hV (by decide) (grownBy_set wr g (1 + m) (.bool true))
          have hB2 := hB.setCell (p := ⟨g, 1 + m, none⟩) HG.out (.bool true)
          clear hV hO hB c2 hf hb d1
          generalize wr.setCell ⟨g, 1 + m, none⟩ (.bool true) = w5 at *
          obtain ⟨A5, c5, rfl, hc1, hc2, hc3, _⟩ := hO2.form
          have c0 := (hV2.alloc (.cells #[.int .i64 m] 3)).cell 0 rfl
          have c0' := hV2.cell 0 rfl
          have hb6 := below_alloc w5 (.cells #[.int .i64 m] 3)
          have hr6 := rd_lit .i64 w5 3 [(m : Int)] (by simp [maxLen]) (w5.heap.size + 1) (by omega)
          have hO6 := hO2.below hb6
          have hV6 := hV2.below hb6 hV2.lt
          have hB6 := hB2.trans (hb6.mono hB2.size)
          obtain ⟨A7, c7, w7, hrun, hO7, hB7, hg7, hN7⟩ := run_appendI 71 hO6 hr6 (by have := HZ.out; simp; omega) hB6.size
          have hV7 := hO6.vb hV6 (by decide) hg7
          have hB8 := hB6.trans hB7
          have hf7 := hV7.free
          have c7' := hV7.cell 0 rfl
          have HO7 := Kp.mk (show Oi w7 w.heap.size (.slice A7 (k + 1) c7) (k + 1) (l.take (k + 1)) by rw [HTK.out]; exact hO7)
          have hV8 := hV7.set 0 (.slice A7 (k + 1) c7)
          rw [mcs_row] at hV8
          have HO8 := Kp.mk (HO7.out.other hV7 (by decide) (grownBy_set w7 g 0 (.slice A7 (k + 1) c7)))
          have hB9 := hB8.setCell (p := ⟨g, 0, none⟩) HG.out (.slice A7 (k + 1) c7)
          have HV8 := Kp.mk hV8
          have HB9 := Kp.mk hB9
          clear hV2 hO2 hB2 hb6 hr6 hO6 hV6 hB6 hO7 hB7 hg7 hN7 hV7 hB8 hV8 hB9 HO7 hc1 hc2 hc3
          go_wp2_with (at_builtin; refine Lib.wpList_append_run _ rfl _ _ _ _ rfl _ _ rfl rfl _ _ hrun ?_)
          go_roundw
          case rel => exact ⟨k + 1, withG s m, _, by go_num, by omega, HV8.out, HO8.out, HB9.out, HT2⟩
          case measure => simp [intOf]; omega
      · have HR := Kp.mk (show newG 0 l = none by rw [HT.out.2, HD.out, newG_bad (by have : isPort x = false := by unfold isPort; exact decide_eq_false hp
                                                                                     rw [this]; rfl)])
        clear hV hO
        by_cases q1 : x < 1
        · clear hp
          go_wp2_with fail
          go_ret2
          exact ⟨hB, .inl ⟨HR.out, rfl⟩⟩
        · have q2 : 4 < x := by omega
          clear hp
          go_wp2_with fail
          go_ret2
          exact ⟨hB, .inl ⟨HR.out, rfl⟩⟩
    · obtain rfl : k = n := by omega
      have HR := Kp.mk (show newG 0 l = some s by rw [HT.out.2, List.drop_eq_nil_of_le (by have := HL.out; omega)]; rfl)
      have HTK := Kp.mk (show l.take k = l from List.take_of_length_le (by have := HL.out; omega))
      have HV := Kp.mk hV
      have HO := Kp.mk hO
      clear hV hO
      go_wp2_with fail
      go_ret2
      obtain ⟨_, hm, _⟩ := newG_some l (s := 0) ⟨by omega, by omega⟩ HR.out
      have hO := HO.out
      rw [HTK.out] at hO
      refine ⟨hB, .inr ⟨s, g, HR.out, rfl, ⟨⟨HG.out, HV.out.lt, Nat.le_refl _⟩, ⟨v, HV.out, by rw [HL.out]; exact hO, fun j hj => (hO.lt j hj).2⟩, hm, HT.out.1, by rw [HL.out]; exact HZ.out⟩⟩⟩
set_option maxRecDepth 100000 in
theorem first_yes {w : World} {lo hi g : Nat} {ps : List Int} {s want : Int} (h : Gb w lo hi g ps s) (h1 : firstN s ps = want) (h2 : firstB s ps = decide (0 < want)) : Calls Try.prog 98 #[.pointer (some ⟨g, 0, none⟩), .int .i64 want] w fun e w' => e = .returned (.bool true) ∧ Below w.heap.size w w' := by
  have hc := gfirst_any h
  rw [h1, h2] at hc
  clear h h1 h2
  go_enter Try.func98, Try.ntmps98
  go_wp2_with fail
  refine hc.mono ?_
  rintro e w1 ⟨rfl, hb⟩
  by_cases hw : 0 < want
  · rw [decide_eq_true hw]
    go_wp2_with fail
    go_ret
    exact ⟨rfl, hb⟩
  · rw [decide_eq_false hw]
    have HW := Kp.mk (show (!decide (0 < want)) = true by rw [decide_eq_false hw]; rfl)
    go_wp2_with fail
    go_ret
    exact ⟨retB HW.out, hb⟩
set_option maxRecDepth 100000 in
set_option maxHeartbeats 4000000 in
theorem gworks_any (w : World) : Calls Try.prog 52 #[] w fun e w' => e = .returned (.bool true) ∧ Below w.heap.size w w' := by
  have hb0 := below_alloc w (.cells #[.int .i64 3, .int .i64 1] 3)
  have hr0 : Rd .i64 (w.alloc (.cells #[.int .i64 3, .int .i64 1] 3)) (w.heap.size + 1) (some ⟨w.heap.size, 0, none⟩) 2 2 [3, 1] := rd_lit .i64 w 3 [3, 1] (by simp [maxLen]) (w.heap.size + 1) (by omega)
  have hz0 : w.heap.size + 1 ≤ (w.alloc (.cells #[.int .i64 3, .int .i64 1] 3)).heap.size := by simp
  go_enter Try.func52, Try.ntmps52
  go_wp2_with fail
  refine (gnew_any hr0 hz0 (by simp)).mono ?_
  rintro e w1 ⟨hb1, ⟨h, _⟩ | ⟨s, g, h, rfl, hG⟩⟩
  · exact absurd h (by decide)
  obtain rfl : s = 10 := by have h2 : newG 0 [3, 1] = some 10 := by decide
                            rw [h2] at h; exact (Option.some.inj h).symm
  have HLO := Kp.mk hz0
  have hB := hb0.trans (hb1.mono hb0.size)
  clear hb0 hr0 hz0 hb1 h
  generalize (w.alloc (.cells #[.int .i64 3, .int .i64 1] 3)).heap.size = lo at *
  generalize w1.heap.size = hi at *
  go_wp2_with fail
  refine (first_yes hG (want := 3) rfl rfl).mono ?_
  rintro e w2 ⟨rfl, hb⟩
  replace hG := hG.below' hb hG.lt.2.2
  replace hB := hB.trans (hb.mono hB.size)
  clear hb
  go_wp2_with fail
  refine (glive_any hG 3 false).mono ?_
  rintro e w3 ⟨rfl, hG3, hg3⟩
  have HB := Kp.mk (hB.grown hg3 hB.size (fun k e => by have e := Option.some.inj e; have := hG.lt.1; have := HLO.out; omega))
  replace hG : Gb w3 lo hi g [3, 1] 2 := hG3
  replace hB := HB.out
  clear HB hG3 hg3
  rw [show liveE 3 [3, 1] = 0 from rfl]
  go_wp2_with fail
  refine (first_yes hG (want := 1) rfl rfl).mono ?_
  rintro e w4 ⟨rfl, hb⟩
  replace hG := hG.below' hb hG.lt.2.2
  replace hB := hB.trans (hb.mono hB.size)
  clear hb
  go_wp2_with fail
  refine (glive_any hG 1 false).mono ?_
  rintro e w5 ⟨rfl, hG3, hg3⟩
  have HB := Kp.mk (hB.grown hg3 hB.size (fun k e => by have e := Option.some.inj e; have := hG.lt.1; have := HLO.out; omega))
  replace hG : Gb w5 lo hi g [3, 1] 0 := hG3
  replace hB := HB.out
  clear HB hG3 hg3
  rw [show liveE 1 [3, 1] = 0 from rfl]
  go_wp2_with fail
  refine (first_yes hG (want := 0) rfl rfl).mono ?_
  rintro e w6 ⟨rfl, hb⟩
  replace hG := hG.below' hb hG.lt.2.2
  replace hB := hB.trans (hb.mono hB.size)
  clear hb
  go_upto_region 4 with fail
  have hb0 := below_alloc w6 (.cells #[.int .i64 1, .int .i64 1] 3)
  have hr0 : Rd .i64 (w6.alloc (.cells #[.int .i64 1, .int .i64 1] 3)) (w6.heap.size + 1) (some ⟨w6.heap.size, 0, none⟩) 2 2 [1, 1] := rd_lit .i64 w6 3 [1, 1] (by simp [maxLen]) (w6.heap.size + 1) (by omega)
  have hz0 : w6.heap.size + 1 ≤ (w6.alloc (.cells #[.int .i64 1, .int .i64 1] 3)).heap.size := by simp
  go_wp2_with fail
  refine (gnew_any hr0 hz0 (by simp)).mono ?_
  rintro e w7 ⟨hb1, ⟨h, rfl⟩ | ⟨s, g', h, rfl, _⟩⟩
  rotate_left
  · have h2 : newG 0 [1, 1] = none := by decide
    rw [h2] at h
    simp at h
  have hb := hb0.trans (hb1.mono hb0.size)
  replace hG := hG.below' hb hG.lt.2.2
  replace hB := hB.trans (hb.mono hB.size)
  clear hb0 hr0 hz0 hb1 h hb
  go_upto_region 5 with fail
  have hb0 := below_alloc w7 (.cells #[.int .i64 5] 3)
  have hr0 : Rd .i64 (w7.alloc (.cells #[.int .i64 5] 3)) (w7.heap.size + 1) (some ⟨w7.heap.size, 0, none⟩) 1 1 [5] := rd_lit .i64 w7 3 [5] (by simp [maxLen]) (w7.heap.size + 1) (by omega)
  have hz0 : w7.heap.size + 1 ≤ (w7.alloc (.cells #[.int .i64 5] 3)).heap.size := by simp
  go_wp2_with fail
  refine (gnew_any hr0 hz0 (by simp)).mono ?_
  rintro e w8 ⟨hb1, ⟨h, rfl⟩ | ⟨s, g', h, rfl, _⟩⟩
  rotate_left
  · have h2 : newG 0 [5] = none := by decide
    rw [h2] at h
    simp at h
  have hb := hb0.trans (hb1.mono hb0.size)
  replace hG := hG.below' hb hG.lt.2.2
  replace hB := hB.trans (hb.mono hB.size)
  clear hb0 hr0 hz0 hb1 h hb
  go_wp2_with fail
  refine (gnew_any (Rd.nil .i64 w8 0) (Nat.zero_le _) (by simp)).mono ?_
  rintro e w9 ⟨hb, ⟨h, rfl⟩ | ⟨s, z, h, rfl, hZ⟩⟩
  · exact absurd h (by decide)
  obtain rfl : s = 0 := (Option.some.inj h).symm
  have HLZ := Kp.mk hG.lt.2.2
  replace hG := hG.below' hb hG.lt.2.2
  have HLO2 := Kp.mk hB.size
  replace hB := hB.trans (hb.mono hB.size)
  clear hb h
  generalize w8.heap.size = zl at *
  generalize w9.heap.size = zh at *
  go_wp2_with fail
  refine (glive_any hG 2 true).mono ?_
  rintro e w10 ⟨rfl, hG3, hg3⟩
  have HB := Kp.mk (hB.grown hg3 hB.size (fun k e => by have e := Option.some.inj e; have := hG.lt.1; have := HLO.out; omega))
  have HZ := Kp.mk (show Gb w10 zl zh z [] 0 from ⟨⟨hZ.lt.1, hZ.lt.2.1, Nat.le_trans hZ.lt.2.2 hg3.size⟩, (by
    obtain ⟨v, h1, h2, h3⟩ := hZ.ex
    have h4 : z ≠ g := by have := hZ.lt.1; have := hG.lt.2.1; have := HLZ.out; omega
    refine ⟨v, h1.grown hg3 h4, h2.grown hg3 ?_, h3⟩
    cases hv : v.ownBlock with
    | none => exact .inl rfl
    | some k => exact .inr (fun e => by have e := Option.some.inj e; have := (h2.lt k hv).1; have := hG.lt.2.1; have := HLZ.out; omega)), hZ.ok⟩)
  replace hG : Gb w10 lo hi g [3, 1] 0 := hG3
  replace hB := HB.out
  replace hZ := HZ.out
  clear HB hG3 hg3 HZ
  rw [show liveE 2 [3, 1] = 9 from rfl]
  go_wp2_with fail
  refine (glive_any hG 3 true).mono ?_
  rintro e w11 ⟨rfl, hG3, hg3⟩
  have HB := Kp.mk (hB.grown hg3 hB.size (fun k e => by have e := Option.some.inj e; have := hG.lt.1; have := HLO.out; omega))
  have HZ := Kp.mk (show Gb w11 zl zh z [] 0 from ⟨⟨hZ.lt.1, hZ.lt.2.1, Nat.le_trans hZ.lt.2.2 hg3.size⟩, (by
    obtain ⟨v, h1, h2, h3⟩ := hZ.ex
    have h4 : z ≠ g := by have := hZ.lt.1; have := hG.lt.2.1; have := HLZ.out; omega
    refine ⟨v, h1.grown hg3 h4, h2.grown hg3 ?_, h3⟩
    cases hv : v.ownBlock with
    | none => exact .inl rfl
    | some k => exact .inr (fun e => by have e := Option.some.inj e; have := (h2.lt k hv).1; have := hG.lt.2.1; have := HLZ.out; omega)), hZ.ok⟩)
  replace hG : Gb w11 lo hi g [3, 1] 8 := hG3
  replace hB := HB.out
  replace hZ := HZ.out
  clear HB hG3 hg3 HZ
  rw [show liveE 3 [3, 1] = 0 from rfl]
  go_wp2_with fail
  refine (first_yes hG (want := 3) rfl rfl).mono ?_
  rintro e w12 ⟨rfl, hb⟩
  replace hG := hG.below' hb hG.lt.2.2
  replace hZ := hZ.below' hb hZ.lt.2.2
  replace hB := hB.trans (hb.mono hB.size)
  clear hb
  go_wp2_with fail
  refine (gup_any hG 1).mono ?_
  rintro e w13 ⟨rfl, rfl⟩
  rw [show upG 8 1 [3, 1] = false from rfl]
  go_wp2_with fail
  refine (first_yes hZ (want := 0) rfl rfl).mono ?_
  rintro e w14 ⟨rfl, hb⟩
  replace hB := hB.trans (hb.mono hB.size)
  clear hb
  go_wp2_with fail
  go_ret
  exact ⟨rfl, hB⟩
end Go.Proofs.Ytlambnlehomkdaa.Oct
