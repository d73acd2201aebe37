/- Contracts of layer 10 (group): New; the document's group. -/
import Derived.Test.YtlambnlehomkdaaGrpC
namespace Go.Proofs.Ytlambnlehomkdaa.Oct
open Go.RowKit
set_option linter.unusedVariables false
set_option linter.unusedSimpArgs false

set_option maxRecDepth 100000 in
set_option maxHeartbeats 4000000 in
theorem gnew_any {w : World} {B n c : Nat} {A : Option Addr} {l : List Int} (h : Rd .i64 w B A n c l) (hB : B ≤ w.heap.size) (hsz : n ≤ 1000000000) : Calls Try.prog 41 #[.slice A n c] w fun e w' => Below w.heap.size w w' ∧ ((newG 0 l = none ∧ e = .returned (.tuple #[.pointer none, .int .i64 2])) ∨ ∃ (s : Int) (g : Nat), newG 0 l = some s ∧ e = .returned (.tuple #[.pointer (some ⟨g, 0, none⟩), .int .i64 0]) ∧ Gb w' w.heap.size w'.heap.size g l s) := by
  have e1 := h.len
  have m1 := h.max
  have H1 := Kp.mk h
  have HL := Kp.mk e1
  have HB := Kp.mk hB
  have HZ := Kp.mk hsz
  clear h e1 hB hsz
  go_enter Try.func41, Try.ntmps41
  go_wp2_with fail
  go_loopw [4, 9] (fun s4 s9 wr => ∃ (k : Nat) (s : Int), s4 = .int .u8 s ∧ s9 = .int .i64 k ∧ k ≤ n ∧ wr = w ∧ Kp (Sg s ∧ newG 0 l = newG s (l.drop k))) (fun _ s9 _ => n - (intOf s9).toNat)
  case atStart => exact ⟨0, 0, rfl, rfl, Nat.zero_le _, rfl, Kp.mk ⟨⟨by omega, by omega⟩, rfl⟩⟩
  case round =>
    obtain ⟨k, s, rfl, rfl, hk, hwr, HT⟩ := hrel
    subst hwr
    by_cases hlt : k < n
    · obtain ⟨b1, o1, rfl, _, f1⟩ := H1.out.at_ (by omega)
      have d1 := f1 k hlt
      clear f1
      have HD := Kp.mk (drop_step (l := l) (k := k) (by have := HL.out; omega))
      generalize l.getD k 0 = x at *
      by_cases hp : 1 ≤ x ∧ x ≤ 4
      · obtain ⟨p1, p2⟩ := hp
        have q1 : ¬ x < 1 := by omega
        have q2 : ¬ 4 < x := by omega
        have hc := set_has HT.out.1 ⟨p1, p2⟩ wr
        have hc2 := set_with HT.out.1 ⟨p1, p2⟩ wr
        have HIP := Kp.mk ((isPort_iff x).2 ⟨p1, p2⟩)
        have HSG := Kp.mk (with_sg HT.out.1 ⟨p1, p2⟩)
        cases hb : bitG s x with
        | true =>
          have HR := Kp.mk (show newG 0 l = none by rw [HT.out.2, HD.out, newG_bad (by rw [hb]; simp)])
          rw [hb] at hc
          clear hb hc2 p1 p2
          go_wp2_with (refine hc.mono ?_; rintro e w' ⟨rfl, rfl⟩)
          go_ret2
          exact ⟨Below.refl _ _, .inl ⟨HR.out, rfl⟩⟩
        | false =>
          have HT2 := Kp.mk (show Sg (withG s x) ∧ newG 0 l = newG (withG s x) (l.drop (k + 1)) from ⟨HSG.out, by rw [HT.out.2, HD.out, newG_good (by rw [hb, HIP.out]; rfl)]⟩)
          rw [hb] at hc
          generalize withG s x = y at *
          clear hb p1 p2
          go_wp2_with (first | (refine hc.mono ?_; rintro e w' ⟨rfl, rfl⟩) | (refine hc2.mono ?_; rintro e w' ⟨rfl, rfl⟩))
          go_roundw
          case rel => exact ⟨k + 1, y, rfl, by go_num, by omega, trivial, HT2⟩
          case measure => simp [intOf]; omega
      · have HR := Kp.mk (show newG 0 l = none by rw [HT.out.2, HD.out, newG_bad (by have : isPort x = false := by unfold isPort; exact decide_eq_false hp
                                                                                     rw [this]; rfl)])
        by_cases q1 : x < 1
        · clear hp
          go_wp2_with fail
          go_ret2
          exact ⟨Below.refl _ _, .inl ⟨HR.out, rfl⟩⟩
        · have q2 : 4 < x := by omega
          clear hp
          go_wp2_with fail
          go_ret2
          exact ⟨Below.refl _ _, .inl ⟨HR.out, rfl⟩⟩
    · obtain rfl : k = n := by omega
      have HR := Kp.mk (show newG 0 l = some s by rw [HT.out.2, List.drop_eq_nil_of_le (by have := HL.out; omega)]; rfl)
      have hc := cloneI_any H1.out HB.out HZ.out
      go_wp2_with (refine hc.mono ?_; rintro e w1 ⟨A', c', rfl, ho, hb⟩)
      go_ret2
      have hnew := Vb.new 92 w1 [.bool true, .slice A' k c', .int .u8 s]
      have hba := below_alloc w1 (.cells #[.bool true, .slice A' k c', .int .u8 s] 92)
      obtain ⟨_, hm, _⟩ := newG_some l (s := 0) ⟨by omega, by omega⟩ HR.out
      refine ⟨hb.trans (hba.mono hb.size), .inr ⟨s, w1.heap.size, HR.out, rfl, ⟨⟨hb.size, hnew.lt, Nat.le_refl _⟩, ⟨_, hnew, ?_, ?_⟩, hm, HT.out.1, by rw [HL.out]; exact HZ.out⟩⟩⟩
      · have := ho.below hba
        rw [HL.out]; exact this
      · intro j hj
        have := (ho.below hba).lt j hj
        exact this.2
/-- The document's group. -/
def mcs (v : Value) (s : Int) : List Value := [v, .bool false, .bool (bitG s 1), .bool (bitG s 2), .bool (bitG s 3), .bool (bitG s 4)]
theorem mcs_at (v : Value) (s : Int) (m : Nat) (h : 1 ≤ (m : Int) ∧ (m : Int) ≤ 4) : (mcs v s)[1 + m]? = some (.bool (bitG s m)) := by
  have : m = 1 ∨ m = 2 ∨ m = 3 ∨ m = 4 := by omega
  rcases this with rfl | rfl | rfl | rfl <;> rfl
theorem mcs_set (v : Value) {s : Int} (b : Bool) (m : Nat) (hs : Sg s) (h : 1 ≤ (m : Int) ∧ (m : Int) ≤ 4) : (mcs v s).set (1 + m) (.bool b) = mcs v (liveG s m b) := by
  unfold mcs
  rw [live_bit hs h (q := 1) (by omega), live_bit hs h (q := 2) (by omega), live_bit hs h (q := 3) (by omega), live_bit hs h (q := 4) (by omega)]
  have : m = 1 ∨ m = 2 ∨ m = 3 ∨ m = 4 := by omega
  rcases this with rfl | rfl | rfl | rfl <;> simp
theorem mcs_row (v v' : Value) (s : Int) : (mcs v s).set 0 v' = mcs v' s := rfl
structure Gm (w : World) (lo hi g : Nat) (ps : List Int) (s : Int) : Prop where
  lt : lo ≤ g ∧ g < hi ∧ hi ≤ w.heap.size
  ex : ∃ v, Vb 119 w g (mcs v s) ∧ Oi w lo v ps.length ps ∧ (∀ k, v.ownBlock = some k → k < hi)
  ok : (∀ p ∈ ps, 1 ≤ p ∧ p ≤ 4) ∧ Sg s ∧ ps.length ≤ 1000000000
section
variable {w w' : World} {lo hi g : Nat} {ps : List Int} {s : Int}
theorem Gm.below (h : Gm w lo hi g ps s) (hb : Below hi w w') : Gm w' lo hi g ps s := by
  obtain ⟨v, h1, h2, h3⟩ := h.ex
  exact ⟨⟨h.lt.1, h.lt.2.1, Nat.le_trans h.lt.2.2 hb.size⟩, ⟨v, h1.below hb h.lt.2.1, h2.keep hb h3, h3⟩, h.ok⟩
theorem Gm.below' {B : Nat} (h : Gm w lo hi g ps s) (hb : Below B w w') (hB : hi ≤ B) : Gm w' lo hi g ps s := h.below (hb.mono hB)
theorem Gm.other {r : Nat} (h : Gm w lo hi g ps s) (hg : w.grownBy w' (some r)) (hr : r < lo) : Gm w' lo hi g ps s := by
  obtain ⟨v, h1, h2, h3⟩ := h.ex
  refine ⟨⟨h.lt.1, h.lt.2.1, Nat.le_trans h.lt.2.2 hg.size⟩, ⟨v, h1.grown hg (by have := h.lt.1; omega), h2.grown hg ?_, h3⟩, h.ok⟩
  cases hv : v.ownBlock with
  | none => exact .inl rfl
  | some k => exact .inr (fun e => by have e := Option.some.inj e; have := (h2.lt k hv).1; omega)
set_option maxRecDepth 100000 in
theorem mhas_any (h : Gm w lo hi g ps s) (p : Int) : Calls Try.prog 96 #[.pointer (some ⟨g, 0, none⟩), .int .i64 p] w fun e w' => e = .returned (.bool (decide (p ∈ ps))) ∧ w' = w := by
  obtain ⟨v, h1, h2, _⟩ := h.ex
  have c0 := h1.cell 0 rfl
  obtain ⟨A, c, rfl, _⟩ := h2.form
  have H1 := Kp.mk h2.rd
  have HL := Kp.mk (rfl : ps.length = ps.length)
  have hm := h2.rd.max
  obtain ⟨n, hn⟩ : ∃ n, n = ps.length := ⟨_, rfl⟩
  rw [← hn] at c0 H1 hm
  replace HL := Kp.mk hn
  clear h h1 h2 hn
  go_enter Try.func96, Try.ntmps96
  go_wp2_with fail
  go_loopw [5] (fun s5 wr => ∃ k : Nat, s5 = .int .i64 k ∧ k ≤ n ∧ wr = w ∧ Kp (decide (p ∈ ps) = decide (p ∈ ps.drop k))) (fun s5 _ => n - (intOf s5).toNat)
  case atStart => exact ⟨0, rfl, Nat.zero_le _, rfl, Kp.mk rfl⟩
  case round =>
    obtain ⟨k, rfl, hk, hwr, HT⟩ := hrel
    subst hwr
    by_cases hlt : k < n
    · obtain ⟨b1, o1, rfl, _, f1⟩ := H1.out.at_ (by omega)
      have d1 := f1 k hlt
      clear f1
      have HS := Kp.mk (drop_step (l := ps) (k := k) (by have := HL.out; omega))
      generalize ps.getD k 0 = x at *
      by_cases hxy : x = p
      · have hne : (x == p) = true := by simp [hxy]
        have HD := Kp.mk (show decide (p ∈ ps) = true by rw [HT.out, HS.out, hxy]; simp)
        clear hxy
        go_wp2_with fail
        go_ret
        exact ⟨by rw [HD.out]; rfl, by first | rfl | trivial⟩
      · have hne : (x == p) = false := by simp [hxy]
        have HT2 := Kp.mk (show decide (p ∈ ps) = decide (p ∈ ps.drop (k + 1)) by rw [HT.out, HS.out, mem_step, decide_eq_false hxy, Bool.false_or])
        clear hxy
        go_wp2_with fail
        go_roundw
        case rel => exact ⟨k + 1, by go_num, by omega, trivial, HT2⟩
        case measure => simp [intOf]; omega
    · obtain rfl : k = n := by omega
      have HD := Kp.mk (show decide (p ∈ ps) = false by rw [HT.out, List.drop_eq_nil_of_le (by have := HL.out; omega)]; simp)
      go_wp2_with fail
      go_ret
      exact ⟨by rw [HD.out]; rfl, by first | rfl | trivial⟩
theorem nat_port {p : Int} (h : 1 ≤ p ∧ p ≤ 4) : ∃ m : Nat, p = m := ⟨p.toNat, by omega⟩
set_option maxRecDepth 100000 in
theorem mup_any (h : Gm w lo hi g ps s) (p : Int) : Calls Try.prog 51 #[.pointer (some ⟨g, 0, none⟩), .int .i64 p] w fun e w' => e = .returned (.bool (upG s p ps)) ∧ w' = w := by
  obtain ⟨v, h1, h2, _⟩ := h.ex
  have ho := mhas_any h p
  by_cases hp : p ∈ ps
  · have hq := h.ok.1 p hp
    have HU := Kp.mk (show upG s p ps = bitG s p by unfold upG; rw [decide_eq_true hp]; rfl)
    rw [decide_eq_true hp] at ho
    obtain ⟨m, rfl⟩ := nat_port hq
    have c2 := h1.cell (1 + m) (mcs_at v s m hq)
    have q0 : (m : Int) < 5 := by omega
    clear hp hq h h2
    go_enter Try.func51, Try.ntmps51
    go_wp2_with (first | (refine ho.mono ?_; rintro e w1 ⟨rfl, rfl⟩))
    go_ret
    exact ⟨by rw [HU.out]; rfl, by first | rfl | trivial⟩
  · have HU := Kp.mk (show upG s p ps = false by unfold upG; rw [decide_eq_false hp]; rfl)
    rw [decide_eq_false hp] at ho
    clear hp
    go_enter Try.func51, Try.ntmps51
    go_wp2_with (first | (refine ho.mono ?_; rintro e w1 ⟨rfl, rfl⟩))
    go_ret
    exact ⟨by rw [HU.out]; rfl, by first | rfl | trivial⟩
theorem mports_any (h : Gm w lo hi g ps s) : Calls Try.prog 49 #[.pointer (some ⟨g, 0, none⟩)] w fun e w' => ∃ A c, e = .returned (.slice A ps.length c) ∧ Oi w' w.heap.size (.slice A ps.length c) ps.length ps ∧ Below w.heap.size w w' := by
  obtain ⟨v, h1, h2, _⟩ := h.ex
  have c1 := h1.cell 0 rfl
  obtain ⟨A, c, rfl, _⟩ := h2.form
  have hr := h2.rd
  have hl := h.ok.2.2
  clear h h1 h2
  generalize ps.length = n at *
  go_enter Try.func49, Try.ntmps49
  go_wp2_with (first | (refine (copyInts_any hr hl).mono ?_; rintro e w1 ⟨A', c', rfl, ho, hb⟩))
  go_ret
  exact ⟨A', c', rfl, ho, hb⟩
set_option maxRecDepth 100000 in
theorem mlive_any (h : Gm w lo hi g ps s) (p : Int) (b : Bool) : Calls Try.prog 45 #[.pointer (some ⟨g, 0, none⟩), .int .i64 p, .bool b] w fun e w' => e = .returned (.int .i64 (liveE p ps)) ∧ Gm w' lo hi g ps (liveS s p b ps) ∧ w.grownBy w' (some g) := by
  obtain ⟨v, h1, h2, h3⟩ := h.ex
  have hf := h1.free
  have ho := mhas_any h p
  by_cases hp : p ∈ ps
  · have hq := h.ok.1 p hp
    have HE := Kp.mk (show liveE p ps = 0 from if_pos hp)
    have HS := Kp.mk (show liveS s p b ps = liveG s p b from if_pos hp)
    rw [decide_eq_true hp] at ho
    obtain ⟨m, rfl⟩ := nat_port hq
    have c2 := h1.cell (1 + m) (mcs_at v s m hq)
    have q0 : (m : Int) < 5 := by omega
    have HG := Kp.mk (show Gm (w.setCell ⟨g, 1 + m, none⟩ (.bool b)) lo hi g ps (liveS s m b ps) by
      rw [HS.out]
      have hg := grownBy_set w g (1 + m) (.bool b)
      have hset := h1.set (1 + m) (.bool b)
      rw [mcs_set v b m h.ok.2.1 hq] at hset
      exact ⟨⟨h.lt.1, h.lt.2.1, Nat.le_trans h.lt.2.2 hg.size⟩, ⟨v, hset, h2.other h1 (by decide) hg, h3⟩, h.ok.1, live_sg h.ok.2.1 hq, h.ok.2.2⟩)
    clear hp h h1 h2 h3 hq
    go_enter Try.func45, Try.ntmps45
    go_wp2_with (first | (refine ho.mono ?_; rintro e w1 ⟨rfl, rfl⟩))
    go_ret
    exact ⟨by rw [HE.out]; rfl, HG.out, grownBy_set _ _ _ _⟩
  · have HE := Kp.mk (show liveE p ps = 9 from if_neg hp)
    have HS := Kp.mk (show liveS s p b ps = s from if_neg hp)
    rw [decide_eq_false hp] at ho
    clear hp
    go_enter Try.func45, Try.ntmps45
    go_wp2_with (first | (refine ho.mono ?_; rintro e w1 ⟨rfl, rfl⟩))
    go_ret
    exact ⟨by rw [HE.out]; rfl, by rw [HS.out]; exact h, ⟨rfl, rfl, rfl, Nat.le_refl _, fun _ _ _ => rfl⟩⟩
set_option maxRecDepth 100000 in
set_option maxHeartbeats 4000000 in
theorem mfirst_any (h : Gm w lo hi g ps s) : Calls Try.prog 47 #[.pointer (some ⟨g, 0, none⟩)] w fun e w' => e = .returned (.tuple #[.int .i64 (firstN s ps), .bool (firstB s ps)]) ∧ Below w.heap.size w w' := by
  obtain ⟨v, h1, h2, _⟩ := h.ex
  obtain ⟨A, c, rfl, _⟩ := h2.form
  have H1 := Kp.mk h2.rd
  have hm := h2.rd.max
  have HM := Kp.mk h.ok.1
  obtain ⟨n, hn⟩ : ∃ n, n = ps.length := ⟨_, rfl⟩
  rw [← hn] at h1 H1 hm
  have HL := Kp.mk hn
  have HV := Kp.mk h1
  have c0 := h1.cell 0 rfl
  have hb0 := Below.refl w.heap.size w
  clear h h1 h2 hn
  go_enter Try.func47, Try.ntmps47
  go_wp2_with fail
  go_loopw [4] (fun s4 wr => ∃ k : Nat, s4 = .int .i64 k ∧ k ≤ n ∧ Below w.heap.size w wr ∧ Kp (firstG s ps = firstG s (ps.drop k))) (fun s4 _ => n - (intOf s4).toNat)
  case atStart => exact ⟨0, rfl, Nat.zero_le _, hb0, Kp.mk rfl⟩
  case round =>
    clear hb0 c0
    obtain ⟨k, rfl, hk, hbw, HT⟩ := hrel
    have hv := HV.out.below hbw HV.out.lt
    have c0 := hv.cell 0 rfl
    by_cases hlt : k < n
    · obtain ⟨b1, o1, rfl, _, f1⟩ := (H1.out.below hbw).at_ (by omega)
      have d1 := f1 k hlt
      have j1 : (k : Int) < n := by omega
      clear f1
      have HS := Kp.mk (drop_step (l := ps) (k := k) (by have := HL.out; omega))
      have HX := Kp.mk (HM.out (ps.getD k 0) (by rw [List.getD_eq_getElem?_getD, List.getElem?_eq_getElem (by have := HL.out; omega)]; exact List.getElem_mem _))
      generalize ps.getD k 0 = x at *
      have hq := HX.out
      obtain ⟨m, rfl⟩ := nat_port hq
      have c2 := hv.cell (1 + m) (mcs_at _ s m hq)
      have q0 : (m : Int) < 5 := by omega
      clear hq
      cases hb : bitG s m with
      | true =>
        have HR := Kp.mk (show firstN s ps = m ∧ firstB s ps = true by unfold firstN firstB; rw [HT.out, HS.out, firstG_yes hb]; exact ⟨rfl, rfl⟩)
        rw [hb] at c2
        clear hb hv
        go_wp2_with fail
        go_quiet (fail)
        go_wp2_with fail
        go_ret2
        exact ⟨by rw [HR.out.1, HR.out.2]; rfl, below_drewN hbw _⟩
      | false =>
        have HT2 := Kp.mk (show firstG s ps = firstG s (ps.drop (k + 1)) by rw [HT.out, HS.out, firstG_no hb])
        rw [hb] at c2
        clear hb hv
        go_wp2_with fail
        go_quiet (fail)
        go_wp2_with fail
        go_roundw
        case rel => exact ⟨k + 1, by go_num, by omega, below_drewN hbw _, HT2⟩
        case measure => simp [intOf]; omega
    · obtain rfl : k = n := by omega
      have HR := Kp.mk (show firstN s ps = 0 ∧ firstB s ps = false by unfold firstN firstB; rw [HT.out, List.drop_eq_nil_of_le (by have := HL.out; omega)]; exact ⟨rfl, rfl⟩)
      clear hv
      go_wp2_with fail
      go_ret2
      exact ⟨by rw [HR.out.1, HR.out.2]; rfl, hbw⟩
end
end Go.Proofs.Ytlambnlehomkdaa.Oct
