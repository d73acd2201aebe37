/- Contracts of layer 10 (group): a group in memory, its methods. -/
import Derived.Test.YtlambnlehomkdaaGrpB
namespace Go.Proofs.Ytlambnlehomkdaa.Oct
open Go.RowKit
set_option linter.unusedVariables false
set_option linter.unusedSimpArgs false

/-- A group in block g, its row of ports beside it, all from lo on and ahead of hi. -/
structure Gb (w : World) (lo hi g : Nat) (ps : List Int) (s : Int) : Prop where
  lt : lo ≤ g ∧ g < hi ∧ hi ≤ w.heap.size
  ex : ∃ v, Vb 92 w g [.bool true, v, .int .u8 s] ∧ Oi w lo v ps.length ps ∧ (∀ k, v.ownBlock = some k → k < hi)
  ok : (∀ p ∈ ps, 1 ≤ p ∧ p ≤ 4) ∧ Sg s ∧ ps.length ≤ 1000000000
section
variable {w w' : World} {lo hi g : Nat} {ps : List Int} {s : Int}
theorem Gb.below (h : Gb w lo hi g ps s) (hb : Below hi w w') : Gb w' lo hi g ps s := by
  obtain ⟨v, h1, h2, h3⟩ := h.ex
  exact ⟨⟨h.lt.1, h.lt.2.1, Nat.le_trans h.lt.2.2 hb.size⟩, ⟨v, h1.below hb h.lt.2.1, h2.keep hb h3, h3⟩, h.ok⟩
theorem Gb.below' {B : Nat} (h : Gb w lo hi g ps s) (hb : Below B w w') (hB : hi ≤ B) : Gb w' lo hi g ps s := h.below (hb.mono hB)
theorem Gb.other {r : Nat} (h : Gb w lo hi g ps s) (hg : w.grownBy w' (some r)) (hr : r < lo) : Gb w' lo hi g ps s := by
  obtain ⟨v, h1, h2, h3⟩ := h.ex
  refine ⟨⟨h.lt.1, h.lt.2.1, Nat.le_trans h.lt.2.2 hg.size⟩, ⟨v, h1.grown hg (by have := h.lt.1; omega), h2.grown hg ?_, h3⟩, h.ok⟩
  cases hv : v.ownBlock with
  | none => exact .inl rfl
  | some k => exact .inr (fun e => by have e := Option.some.inj e; have := (h2.lt k hv).1; omega)
theorem gisNone_no (h : Gb w lo hi g ps s) : Calls Try.prog 93 #[.pointer (some ⟨g, 0, none⟩)] w fun e w' => e = .returned (.bool false) ∧ w' = w := by
  obtain ⟨v, h1, _⟩ := h.ex
  have c0 := h1.cell 0 rfl
  go_enter Try.func93, Try.ntmps93
  go_wp2_with fail
  go_ret
  exact ⟨rfl, rfl⟩
theorem gisNone_nil (w : World) : Calls Try.prog 93 #[.pointer none] w fun e w' => e = .returned (.bool true) ∧ w' = w := by
  go_enter Try.func93, Try.ntmps93
  go_wp2_with fail
  go_ret
  exact ⟨rfl, rfl⟩
theorem gisNone_zero (h : Vb 92 w g [.bool false, .slice none 0 0, .int .u8 0]) : Calls Try.prog 93 #[.pointer (some ⟨g, 0, none⟩)] w fun e w' => e = .returned (.bool true) ∧ w' = w := by
  have c0 := h.cell 0 rfl
  go_enter Try.func93, Try.ntmps93
  go_wp2_with fail
  go_ret
  exact ⟨rfl, rfl⟩
theorem gowns_any (h : Gb w lo hi g ps s) (p : Int) : Calls Try.prog 94 #[.pointer (some ⟨g, 0, none⟩), .int .i64 p] w fun e w' => e = .returned (.bool (decide (p ∈ ps))) ∧ w' = w := by
  obtain ⟨v, h1, h2, _⟩ := h.ex
  have c1 := h1.cell 1 rfl
  obtain ⟨A, c, rfl, _⟩ := h2.form
  have hr := h2.rd
  go_enter Try.func94, Try.ntmps94
  go_wp2_with (first | (refine (gisNone_no h).mono ?_; rintro e w1 ⟨rfl, rfl⟩) | (refine (containsI_any hr p).mono ?_; rintro e w1 ⟨rfl, rfl⟩))
  go_ret
  exact ⟨rfl, rfl⟩
theorem gowns_none {a : Option Addr} (hn : Calls Try.prog 93 #[.pointer a] w fun e w' => e = .returned (.bool true) ∧ w' = w) (p : Int) : Calls Try.prog 94 #[.pointer a, .int .i64 p] w fun e w' => e = .returned (.bool false) ∧ w' = w := by
  go_enter Try.func94, Try.ntmps94
  go_wp2_with (first | (refine hn.mono ?_; rintro e w1 ⟨rfl, rfl⟩))
  go_ret
  exact ⟨rfl, rfl⟩
theorem gup_none {a : Option Addr} (hn : Calls Try.prog 93 #[.pointer a] w fun e w' => e = .returned (.bool true) ∧ w' = w) (p : Int) : Calls Try.prog 50 #[.pointer a, .int .i64 p] w fun e w' => e = .returned (.bool false) ∧ w' = w := by
  go_enter Try.func50, Try.ntmps50
  go_wp2_with (first | (refine (gowns_none hn p).mono ?_; rintro e w1 ⟨rfl, rfl⟩))
  go_ret
  exact ⟨rfl, rfl⟩
theorem glive_none {a : Option Addr} (hn : Calls Try.prog 93 #[.pointer a] w fun e w' => e = .returned (.bool true) ∧ w' = w) (p : Int) (b : Bool) : Calls Try.prog 44 #[.pointer a, .int .i64 p, .bool b] w fun e w' => e = .returned (.int .i64 1) ∧ w' = w := by
  go_enter Try.func44, Try.ntmps44
  go_wp2_with (first | (refine hn.mono ?_; rintro e w1 ⟨rfl, rfl⟩))
  go_ret
  exact ⟨rfl, rfl⟩
theorem gfirst_none {a : Option Addr} (hn : Calls Try.prog 93 #[.pointer a] w fun e w' => e = .returned (.bool true) ∧ w' = w) : Calls Try.prog 46 #[.pointer a] w fun e w' => e = .returned (.tuple #[.int .i64 0, .bool false]) ∧ w' = w := by
  go_enter Try.func46, Try.ntmps46
  go_wp2_with (first | (refine hn.mono ?_; rintro e w1 ⟨rfl, rfl⟩))
  go_ret2
  exact ⟨rfl, rfl⟩
theorem gports_none {a : Option Addr} (hn : Calls Try.prog 93 #[.pointer a] w fun e w' => e = .returned (.bool true) ∧ w' = w) : Calls Try.prog 48 #[.pointer a] w fun e w' => e = .returned (.slice none 0 0) ∧ w' = w := by
  go_enter Try.func48, Try.ntmps48
  go_wp2_with (first | (refine hn.mono ?_; rintro e w1 ⟨rfl, rfl⟩))
  go_ret
  exact ⟨rfl, rfl⟩
/-- Whether a port is one of the group's, and lives. -/
def upG (s p : Int) (ps : List Int) : Bool := decide (p ∈ ps) && bitG s p
theorem gup_any (h : Gb w lo hi g ps s) (p : Int) : Calls Try.prog 50 #[.pointer (some ⟨g, 0, none⟩), .int .i64 p] w fun e w' => e = .returned (.bool (upG s p ps)) ∧ w' = w := by
  obtain ⟨v, h1, h2, _⟩ := h.ex
  have c2 := h1.cell 2 rfl
  have ho := gowns_any h p
  by_cases hp : p ∈ ps
  · have hq := h.ok.1 p hp
    have HU := Kp.mk (show upG s p ps = bitG s p by unfold upG; rw [decide_eq_true hp]; rfl)
    rw [decide_eq_true hp] at ho
    have hs := h.ok.2.1
    clear hp
    go_enter Try.func50, Try.ntmps50
    go_wp2_with (first | (refine ho.mono ?_; rintro e w1 ⟨rfl, rfl⟩) | (refine (set_has hs hq _).mono ?_; rintro e w1 ⟨rfl, rfl⟩))
    go_ret
    exact ⟨by rw [HU.out]; rfl, rfl⟩
  · have HU := Kp.mk (show upG s p ps = false by unfold upG; rw [decide_eq_false hp]; rfl)
    rw [decide_eq_false hp] at ho
    clear hp
    go_enter Try.func50, Try.ntmps50
    go_wp2_with (first | (refine ho.mono ?_; rintro e w1 ⟨rfl, rfl⟩))
    go_ret
    exact ⟨by rw [HU.out]; rfl, rfl⟩
theorem gports_any (h : Gb w lo hi g ps s) : Calls Try.prog 48 #[.pointer (some ⟨g, 0, none⟩)] w fun e w' => ∃ A c, e = .returned (.slice A ps.length c) ∧ Oi w' w.heap.size (.slice A ps.length c) ps.length ps ∧ Below w.heap.size w w' := by
  obtain ⟨v, h1, h2, _⟩ := h.ex
  have c1 := h1.cell 1 rfl
  obtain ⟨A, c, rfl, _⟩ := h2.form
  have hr := h2.rd
  have hl := h.ok.2.2
  have HN := gisNone_no h
  generalize ps.length = n at *
  go_enter Try.func48, Try.ntmps48
  go_wp2_with (first | (refine HN.mono ?_; rintro e w1 ⟨rfl, rfl⟩) | (refine (cloneI_any hr (Nat.le_refl _) hl).mono ?_; rintro e w1 ⟨A', c', rfl, ho, hb⟩))
  go_ret
  exact ⟨A', c', rfl, ho, hb⟩
/-- What Live answers, and what is then. -/
def liveE (p : Int) (ps : List Int) : Int := if p ∈ ps then 0 else 9
def liveS (s p : Int) (b : Bool) (ps : List Int) : Int := if p ∈ ps then liveG s p b else s
theorem liveS_sg {s p : Int} {b : Bool} {ps : List Int} (hs : Sg s) (h : ∀ p ∈ ps, 1 ≤ p ∧ p ≤ 4) : Sg (liveS s p b ps) := by
  unfold liveS
  split
  · exact live_sg hs (h p (by assumption))
  · exact hs
set_option maxRecDepth 100000 in
theorem glive_any (h : Gb w lo hi g ps s) (p : Int) (b : Bool) : Calls Try.prog 44 #[.pointer (some ⟨g, 0, none⟩), .int .i64 p, .bool b] w fun e w' => e = .returned (.int .i64 (liveE p ps)) ∧ Gb w' lo hi g ps (liveS s p b ps) ∧ w.grownBy w' (some g) := by
  obtain ⟨v, h1, h2, h3⟩ := h.ex
  have c2 := h1.cell 2 rfl
  have hf := h1.free
  have ho := gowns_any h p
  have HN := gisNone_no h
  by_cases hp : p ∈ ps
  · have hq := h.ok.1 p hp
    have HE := Kp.mk (show liveE p ps = 0 from if_pos hp)
    have HS := Kp.mk (show liveS s p b ps = liveG s p b from if_pos hp)
    have HG : ∀ x, x = liveG s p b → Gb (w.setCell ⟨g, 2, none⟩ (.int .u8 x)) lo hi g ps (liveS s p b ps) := by
      rintro x rfl
      rw [HS.out]
      have hg := grownBy_set w g 2 (.int .u8 (liveG s p b))
      refine ⟨⟨h.lt.1, h.lt.2.1, Nat.le_trans h.lt.2.2 hg.size⟩, ⟨v, h1.set 2 _, h2.other h1 (by decide) hg, h3⟩, h.ok.1, live_sg h.ok.2.1 hq, h.ok.2.2⟩
    replace HG := Kp.mk HG
    rw [decide_eq_true hp] at ho
    have hs := h.ok.2.1
    clear hp h1 h2 h3
    cases b with
    | true =>
      go_enter Try.func44, Try.ntmps44
      go_wp2_with (first | (refine HN.mono ?_; rintro e w1 ⟨rfl, rfl⟩) | (refine ho.mono ?_; rintro e w1 ⟨rfl, rfl⟩) | (refine (set_with hs hq _).mono ?_; rintro e w1 ⟨rfl, rfl⟩))
      go_ret
      exact ⟨by rw [HE.out]; rfl, HG.out _ rfl, grownBy_set _ _ _ _⟩
    | false =>
      go_enter Try.func44, Try.ntmps44
      go_wp2_with (first | (refine HN.mono ?_; rintro e w1 ⟨rfl, rfl⟩) | (refine ho.mono ?_; rintro e w1 ⟨rfl, rfl⟩) | (refine (set_out hs hq _).mono ?_; rintro e w1 ⟨rfl, rfl⟩))
      go_ret
      exact ⟨by rw [HE.out]; rfl, HG.out _ rfl, grownBy_set _ _ _ _⟩
  · have HE := Kp.mk (show liveE p ps = 9 from if_neg hp)
    have HS := Kp.mk (show liveS s p b ps = s from if_neg hp)
    rw [decide_eq_false hp] at ho
    clear hp
    go_enter Try.func44, Try.ntmps44
    go_wp2_with (first | (refine HN.mono ?_; rintro e w1 ⟨rfl, rfl⟩) | (refine ho.mono ?_; rintro e w1 ⟨rfl, rfl⟩))
    go_ret
    exact ⟨by rw [HE.out]; rfl, by rw [HS.out]; exact h, ⟨rfl, rfl, rfl, Nat.le_refl _, fun _ _ _ => rfl⟩⟩
set_option maxRecDepth 100000 in
set_option maxHeartbeats 4000000 in
theorem gfirst_any (h : Gb w lo hi g ps s) : Calls Try.prog 46 #[.pointer (some ⟨g, 0, none⟩)] w fun e w' => e = .returned (.tuple #[.int .i64 (firstN s ps), .bool (firstB s ps)]) ∧ Below w.heap.size w w' := by
  obtain ⟨v, h1, h2, h3⟩ := h.ex
  have hmf : ∀ (fn : Fn) (first cap : Array Value) (w : World), (Instr.makeFunc fn first cap).run Try.prog w = .ok (.func fn first cap) w := fun _ _ _ _ => rfl
  have HN := gisNone_no h
  obtain ⟨A, c, rfl, _⟩ := h2.form
  have HR := Kp.mk (fun (W : World) (hb : Below w.heap.size w W) => indexF_any (h2.rd.below hb) h.ok.2.1 h.ok.1)
  have H2 := Kp.mk (fun (W : World) (hb : Below w.heap.size w W) => (h2.below hb).rd)
  have HL := Kp.mk (rfl : ps.length = ps.length)
  obtain ⟨n, hn⟩ : ∃ n, n = ps.length := ⟨_, rfl⟩
  rw [← hn] at h1 HR H2 HL
  have H1 := Kp.mk h1
  have hbw := Below.refl w.heap.size w
  clear h h2 h3 HL hn
  go_enter Try.func46, Try.ntmps46
  go_wp2_with (first | (refine HN.mono ?_; rintro e w1 ⟨rfl, rfl⟩))
  go_upto_region 3 with fail
  have hS0 : (fun W => Vb 92 W g [.bool true, .slice A n c, .int .u8 s]) w1.drew := h1.below hbw.drew h1.lt
  have hbd := hbw.drew
  refine wp_region_held_drew (S := fun W => Vb 92 W g [.bool true, .slice A n c, .int .u8 s]) (by kernel_rfl) hS0 (fun _ => ?_)
  clear h1 hbw HN
  generalize w1.drew = u0 at *
  refine takeD (i := 0) (v := .pointer (some ⟨g, 0, none⟩)) (some 7) rfl rfl (by kernel_rfl) (by kernel_rfl) (by kernel_rfl) (fun _ _ _ h => h) (Or.inl ⟨by rfl, ?_⟩) hS0 ?_
  · rintro w' _
    go_simp
  try simp only [Act.put, List.setIfInBounds_toArray, List.set_cons_zero, List.set_cons_succ]
  refine takeD (i := 1) (v := .pointer (some ⟨g, 0, none⟩)) (some 8) rfl rfl (by kernel_rfl) (by kernel_rfl) (by kernel_rfl) (fun _ _ _ h => h) (Or.inl ⟨by rfl, ?_⟩) hS0 ?_
  · rintro w' _
    go_simp
  try simp only [Act.put, List.setIfInBounds_toArray, List.set_cons_zero, List.set_cons_succ]
  refine takeD (i := 2) (v := .pointer (some ⟨g, 1, none⟩)) (some 9) rfl rfl (by kernel_rfl) (by kernel_rfl) (by kernel_rfl) (fun _ _ _ h => h) (Or.inl ⟨by rfl, ?_⟩) hS0 ?_
  · rintro w' _
    go_simp
  try simp only [Act.put, List.setIfInBounds_toArray, List.set_cons_zero, List.set_cons_succ]
  refine takeD (i := 3) (v := .slice A n c) (some 10) rfl rfl (by kernel_rfl) (by kernel_rfl) (by kernel_rfl) (fun _ _ _ h => h) (Or.inl ⟨by rfl, ?_⟩) hS0 ?_
  · rintro w' s0
    have d1 := Vb.cell s0 1 rfl
    go_simp
  try simp only [Act.put, List.setIfInBounds_toArray, List.set_cons_zero, List.set_cons_succ]
  refine takeD (i := 4) (v := .pointer (some ⟨g, 0, none⟩)) (some 11) rfl rfl (by kernel_rfl) (by kernel_rfl) (by kernel_rfl) (fun _ _ _ h => h) (Or.inl ⟨by rfl, ?_⟩) hS0 ?_
  · rintro w' _
    go_simp
  try simp only [Act.put, List.setIfInBounds_toArray, List.set_cons_zero, List.set_cons_succ]
  refine takeD (i := 5) (v := .pointer (some ⟨g, 0, none⟩)) (some 12) rfl rfl (by kernel_rfl) (by kernel_rfl) (by kernel_rfl) (fun _ _ _ h => h) (Or.inl ⟨by rfl, ?_⟩) hS0 ?_
  · rintro w' _
    go_simp
  try simp only [Act.put, List.setIfInBounds_toArray, List.set_cons_zero, List.set_cons_succ]
  refine takeD (i := 6) (v := .pointer (some ⟨g, 2, none⟩)) (some 13) rfl rfl (by kernel_rfl) (by kernel_rfl) (by kernel_rfl) (fun _ _ _ h => h) (Or.inl ⟨by rfl, ?_⟩) hS0 ?_
  · rintro w' _
    go_simp
  try simp only [Act.put, List.setIfInBounds_toArray, List.set_cons_zero, List.set_cons_succ]
  refine takeD (i := 7) (v := .int .u8 s) (some 14) rfl rfl (by kernel_rfl) (by kernel_rfl) (by kernel_rfl) (fun _ _ _ h => h) (Or.inl ⟨by rfl, ?_⟩) hS0 ?_
  · rintro w' s0
    have d1 := Vb.cell s0 2 rfl
    go_simp
  try simp only [Act.put, List.setIfInBounds_toArray, List.set_cons_zero, List.set_cons_succ]
  refine wpAnyH_ready (rs := [8]) (by kernel_rfl) (by simp) ?_
  refine AllReadyH.cons rfl (fun K hK => ?_) AllReadyH.nil
  go_simp
  refine hK.out _ _ hS0 (fun _ => ?_)
  clear hK K
  try simp only [Act.put, List.setIfInBounds_toArray, List.set_cons_zero, List.set_cons_succ]
  refine wpAnyH_ready (rs := [9]) (by kernel_rfl) (by simp) ?_
  refine AllReadyH.cons rfl (fun K hK => ?_) AllReadyH.nil
  go_simp
  go_at_call 97
  refine (HR.out _ hbd).mono ?_
  rintro e u1 ⟨⟨i, rfl, hi⟩, rfl⟩
  refine hK.out _ _ hS0 (fun _ => ?_)
  clear hK K
  try simp only [Act.put, List.setIfInBounds_toArray, List.set_cons_zero, List.set_cons_succ]
  refine takeD (i := 10) (v := .int .i64 i) (some 4) rfl rfl (by kernel_rfl) (by kernel_rfl) (by kernel_rfl) (fun _ _ _ h => h) (Or.inl ⟨by rfl, ?_⟩) hS0 ?_
  · rintro w' _
    go_simp
  try simp only [Act.put, List.setIfInBounds_toArray, List.set_cons_zero, List.set_cons_succ]
  refine wpAnyH_done (by kernel_rfl) ?_ _
  rcases hi with ⟨rfl, hf⟩ | ⟨k, rfl, hk, hf⟩
  · have HF := Kp.mk (show firstN s ps = 0 ∧ firstB s ps = false by unfold firstN firstB; rw [hf]; exact ⟨rfl, rfl⟩)
    clear hf hS0
    go_wp2_with fail
    go_ret2
    exact ⟨by rw [HF.out.1, HF.out.2]; rfl, hbd⟩
  · have HF := Kp.mk (show firstN s ps = ps.getD k 0 ∧ firstB s ps = true by unfold firstN firstB; rw [hf]; exact ⟨rfl, rfl⟩)
    obtain ⟨b, off, rfl, _, hcc⟩ := (H2.out _ hbd).at_ (by omega)
    have hc := hcc k hk
    have hk2 : (k : Int) < n := by omega
    have hk3 : ¬ (k : Int) < 0 := by omega
    have d1 := Vb.cell hS0 1 rfl
    clear hcc hf hS0
    generalize ps.getD k 0 = x at *
    go_wp2_with fail
    go_ret2
    exact ⟨by rw [HF.out.1, HF.out.2]; rfl, hbd⟩
end
end Go.Proofs.Ytlambnlehomkdaa.Oct
