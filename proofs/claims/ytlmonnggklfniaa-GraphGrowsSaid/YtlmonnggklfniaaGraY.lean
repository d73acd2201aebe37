/- Statements of layer 12 (graph): GraphEnds, GraphReach, the walks. -/
import Derived.Test.YtlmonnggklfniaaGraV
import Derived.Test.YtlmonnggklfniaaGraW
namespace Go.Proofs.Ytlmonnggklfniaa.Oct
open Go.RowKit
set_option linter.unusedVariables false
set_option linter.unusedSimpArgs false

/-- What lies there in the last region of GraphEnds. -/
structure Eh (w : World) (S a p x y : Int) (A : Option Addr) (m c p1 p2 : Nat) (v : Value) (q : Nat) (ps : List Int) (X : World) : Prop where
  g : Vb 24 X w.heap.size [.int .i64 S, .slice A m c]
  e : Vb 26 X (w.heap.size + 1) [.int .i64 a, .int .i64 p]
  r1 : Vb 26 X p1 [.int .i64 x, .int .i64 y]
  r2 : Vb 26 X p2 [.int .i64 x, .int .i64 y]
  o : Oi X w.heap.size v q ps
  b : Below w.heap.size w X
theorem Eh.step {w : World} {S a p x y : Int} {A : Option Addr} {m c p1 p2 : Nat} {v : Value} {q : Nat} {ps : List Int} {X Y : World} (h : Eh w S a p x y A m c p1 p2 v q ps X) (hb : Below X.heap.size X Y) : Eh w S a p x y A m c p1 p2 v q ps Y :=
  ⟨h.g.below hb h.g.lt, h.e.below hb h.e.lt, h.r1.below hb h.r1.lt, h.r2.below hb h.r2.lt, h.o.below hb, h.b.trans (hb.mono h.b.size)⟩
theorem Eh.cells {w : World} {S a p x y : Int} {A : Option Addr} {m c p1 p2 : Nat} {v : Value} {q : Nat} {ps : List Int} {X : World} (h : Eh w S a p x y A m c p1 p2 v q ps X) :
    X.cell? ⟨w.heap.size, 0, none⟩ = some (.int .i64 S) ∧ X.cell? ⟨w.heap.size, 1, none⟩ = some (.slice A m c) ∧ X.cell? ⟨w.heap.size + 1, 0, none⟩ = some (.int .i64 a) ∧ X.cell? ⟨w.heap.size + 1, 1, none⟩ = some (.int .i64 p) ∧ X.cell? ⟨p1, 0, none⟩ = some (.int .i64 x) ∧ X.cell? ⟨p1, 1, none⟩ = some (.int .i64 y) ∧ X.cell? ⟨p2, 0, none⟩ = some (.int .i64 x) ∧ X.cell? ⟨p2, 1, none⟩ = some (.int .i64 y) :=
  ⟨h.g.cell 0 rfl, h.g.cell 1 rfl, h.e.cell 0 rfl, h.e.cell 1 rfl, h.r1.cell 0 rfl, h.r1.cell 1 rfl, h.r2.cell 0 rfl, h.r2.cell 1 rfl⟩
theorem PeerIs.one (r : Option ((Int × Int) × Int)) : ∃ (x y i : Int) (is : Bool), ∀ e, PeerIs r e → e = .returned (.tuple #[.agg #[.int .i64 x, .int .i64 y], .int .i64 i, .bool is]) := by
  cases r with
  | none => exact ⟨0, 0, 0, false, fun e h => h⟩
  | some v => exact ⟨v.1.1, v.1.2, v.2, true, fun e h => h⟩
set_option maxRecDepth 100000 in
set_option maxHeartbeats 4000000 in
theorem graphEnds_walk (S : Int) (ls : List Lk) (b : Option Addr) (n c : Nat) (zs : List Int) (w : World) (h : Lr w w.heap.size b n c ls) (hz : zs.length = 2) (hw : ∀ p ∈ [IntKind.i64, IntKind.i64].zip zs, (Lit.int p.1 p.2).wf = true) :
    Calls Try.prog 3 #[.agg #[.int .i64 S, .slice b n c], .agg (List.zipWith Value.int [IntKind.i64, IntKind.i64] zs).toArray] w fun e w' => e = .returned (.bool true) ∧ Below w.heap.size w w' := by
  obtain ⟨a, p, rfl⟩ : ∃ a p, zs = [a, p] := by
    match zs, hz with
    | [a, p], _ => exact ⟨a, p, rfl⟩
  show Calls Try.prog _ #[.agg #[.int .i64 S, .slice b n c], .agg #[.int .i64 a, .int .i64 p]] w _
  clear hz hw
  have hmax := h.max
  have hcap := h.2.2.1
  have hle := h.le
  have hnil := h.2.2.2.1
  have hat := h.at_
  have H := Kp.mk h
  have hE0 : Vb 26 ((w.alloc (.cells #[.int .i64 S, .slice b n c] 24)).alloc (.cells #[.int .i64 a, .int .i64 p] 26)) (w.heap.size + 1) [.int .i64 a, .int .i64 p] := by
    have := Vb.new 26 (w.alloc (.cells #[.int .i64 S, .slice b n c] 24)) [.int .i64 a, .int .i64 p]
    rwa [World.size_alloc] at this
  have hg0 : Vb 24 ((w.alloc (.cells #[.int .i64 S, .slice b n c] 24)).alloc (.cells #[.int .i64 a, .int .i64 p] 26)) w.heap.size [.int .i64 S, .slice b n c] := (Vb.new 24 w [.int .i64 S, .slice b n c]).alloc _
  have hb0 := below_two w (.cells #[.int .i64 S, .slice b n c] 24) (.cells #[.int .i64 a, .int .i64 p] 26)
  clear h
  go_enter Try.func3, Try.ntmps3
  go_upto_region 1 with fail
  generalize (w.alloc (.cells #[.int .i64 S, .slice b n c] 24)).alloc (.cells #[.int .i64 a, .int .i64 p] 26) = w0 at *
  have HV := Kp.mk (And.intro hg0 (And.intro hE0 hb0))
  have g0 := hg0.cell 0 rfl
  have g1 := hg0.cell 1 rfl
  have f1 := hg0.free 1
  clear hg0 hE0 hb0
  go_cut [] from 12 (fun wx => ∃ m : Nat, m ≤ n ∧ m ≤ 30 ∧ Kp (Vb 24 wx w.heap.size [.int .i64 S, .slice b m c] ∧ Vb 26 wx (w.heap.size + 1) [.int .i64 a, .int .i64 p] ∧ Below w.heap.size w wx))
  case first =>
    by_cases hn : n ≤ 30
    · have hn2 : (n : Int) ≤ 30 := by omega
      go_wp2_with fail
      go_meet
      case rel => exact ⟨n, Nat.le_refl _, hn, Kp.mk ⟨HV.out.1.set 1 _, HV.out.2.1.grown (grownBy_set w0 w.heap.size 1 _) (by omega), below_grown HV.out.2.2 (grownBy_set w0 w.heap.size 1 _) HV.out.2.2.size (Nat.le_refl _)⟩⟩
    · have hn2 : ¬ (n : Int) ≤ 30 := by omega
      have hn3 : (30 : Int) ≤ n := by omega
      go_wp2_with fail
      go_meet
      case rel => exact ⟨30, by omega, by omega, Kp.mk ⟨HV.out.1.set 1 _, HV.out.2.1.grown (grownBy_set w0 w.heap.size 1 _) (by omega), below_grown HV.out.2.2 (grownBy_set w0 w.heap.size 1 _) HV.out.2.2.size (Nat.le_refl _)⟩⟩
  case rest =>
    clear g0 g1 f1 HV hat hnil hle hcap
    obtain ⟨m, hm1, hm2, HK⟩ := hcut
    obtain ⟨hg, hE, hb⟩ := HK.out
    have HLR := Kp.mk (fun (X : World) (hX : Below w.heap.size w X) => (H.out.cut m hm1).below hX)
    generalize ls.take m = L at *
    clear H hm1 hm2
    have HWc := Kp.mk (And.intro hg (And.intro hE hb))
    have g0 := hg.cell 0 rfl
    have g1 := hg.cell 1 rfl
    have e0 := hE.cell 0 rfl
    have e1 := hE.cell 1 rfl
    obtain ⟨x, y, i, is, hpi⟩ := PeerIs.one (peerP S L (a, p))
    have HPI := Kp.mk hpi
    have hcP := gPeer_any (HLR.out _ hb) hb.size S a p
    clear hpi hg hE hb HK
    go_wp2_with fail
    refine hcP.mono ?_
    rintro e w1 ⟨he, hb1⟩
    obtain rfl := HPI.out e he
    clear g0 g1 e0 e1 hcP he
    go_upto_region 3 with fail
    have hr1 : Vb 26 (w1.alloc (.cells #[.int .i64 x, .int .i64 y] 26)) w1.heap.size [.int .i64 x, .int .i64 y] := Vb.new 26 w1 [.int .i64 x, .int .i64 y]
    have hb2 := hb1.trans ((below_alloc w1 (.cells #[.int .i64 x, .int .i64 y] 26)).mono hb1.size)
    have hg := HWc.out.1.below hb2 HWc.out.1.lt
    have hE := HWc.out.2.1.below hb2 HWc.out.2.1.lt
    have hb := HWc.out.2.2.trans (hb2.mono HWc.out.2.2.size)
    clear hb1 hb2 HWc
    generalize w1.alloc (.cells #[.int .i64 x, .int .i64 y] 26) = w2 at *
    generalize w1.heap.size = p1 at *
    have HW2 := Kp.mk (And.intro hg (And.intro hE (And.intro hr1 hb)))
    have g0 := hg.cell 0 rfl
    have g1 := hg.cell 1 rfl
    have e0 := hE.cell 0 rfl
    have e1 := hE.cell 1 rfl
    have hcP := refPeer_any (HLR.out _ hb) hb.size S a p
    clear hg hE hb hr1
    go_wp2_with fail
    refine hcP.mono ?_
    rintro e w3 ⟨he, hb1⟩
    obtain rfl := HPI.out e he
    clear g0 g1 e0 e1 hcP he
    go_upto_region 4 with fail
    have hr2 : Vb 26 (w3.alloc (.cells #[.int .i64 x, .int .i64 y] 26)) w3.heap.size [.int .i64 x, .int .i64 y] := Vb.new 26 w3 [.int .i64 x, .int .i64 y]
    have hb2 := hb1.trans ((below_alloc w3 (.cells #[.int .i64 x, .int .i64 y] 26)).mono hb1.size)
    have hg := HW2.out.1.below hb2 HW2.out.1.lt
    have hE := HW2.out.2.1.below hb2 HW2.out.2.1.lt
    have hr1 := HW2.out.2.2.1.below hb2 HW2.out.2.2.1.lt
    have hb := HW2.out.2.2.2.trans (hb2.mono HW2.out.2.2.2.size)
    clear hb1 hb2 HW2
    generalize w3.alloc (.cells #[.int .i64 x, .int .i64 y] 26) = w4 at *
    generalize w3.heap.size = p2 at *
    have HW4 := Kp.mk (And.intro hg (And.intro hE (And.intro hr1 (And.intro hr2 hb))))
    have g0 := hg.cell 0 rfl
    have g1 := hg.cell 1 rfl
    have e0 := hE.cell 0 rfl
    have hcP := gPorts_any (HLR.out _ hb) hb.size S a
    clear hg hE hb hr1 hr2
    go_wp2_with fail
    refine hcP.mono ?_
    rintro e w5 ⟨v, rfl, ⟨q, hO⟩, hb5⟩
    clear g0 g1 e0 hcP
    obtain ⟨A5, c5, rfl, _⟩ := hO.form
    have hS5 : Eh w S a p x y b m c p1 p2 (.slice A5 q c5) q (portsP S L a) w5 := ⟨HW4.out.1.below hb5 HW4.out.1.lt, HW4.out.2.1.below hb5 HW4.out.2.1.lt, HW4.out.2.2.1.below hb5 HW4.out.2.2.1.lt, HW4.out.2.2.2.1.below hb5 HW4.out.2.2.2.1.lt, hO.lower (HW4.out.2.2.2.2.size), HW4.out.2.2.2.2.trans (hb5.mono HW4.out.2.2.2.2.size)⟩
    clear hO hb5 HW4
    go_upto_region 5 with fail
    have hS0 := hS5.step (Below.refl w5.heap.size w5).drew
    clear hS5
    have q1 : ∀ w, (Op.equalIn 10000 26 (.agg #[.int .i64 x, .int .i64 y]) (.agg #[.int .i64 x, .int .i64 y])).run Try.prog w = .ok true w := fun w => by rw [eq_end x y x y w]; rw [decide_eq_true rfl]
    refine wp_region_held_drew (S := Eh w S a p x y b m c p1 p2 (.slice A5 q c5) q (portsP S L a)) (by kernel_rfl) hS0 (fun _ => ?_)
    refine takeD (i := 0) (v := .agg #[.int .i64 S, .slice b m c]) (some 38) rfl rfl (by kernel_rfl) (by kernel_rfl) (by kernel_rfl) (fun _ _ _ h => h) (Or.inl ⟨by rfl, ?_⟩) hS0 ?_
    · rintro w' hq
      obtain ⟨z0, z1, z2, z3, z4, z5, z6, z7⟩ := hq.cells
      go_simp
    try simp only [Act.put, List.setIfInBounds_toArray, List.set_cons_zero, List.set_cons_succ]
    refine takeD (i := 2) (v := .agg #[.int .i64 S, .slice b m c]) (some 40) rfl rfl (by kernel_rfl) (by kernel_rfl) (by kernel_rfl) (fun _ _ _ h => h) (Or.inl ⟨by rfl, ?_⟩) hS0 ?_
    · rintro w' hq
      obtain ⟨z0, z1, z2, z3, z4, z5, z6, z7⟩ := hq.cells
      go_simp
    try simp only [Act.put, List.setIfInBounds_toArray, List.set_cons_zero, List.set_cons_succ]
    refine wpAnyH_ready (rs := [1]) (by kernel_rfl) (by simp) ?_
    refine AllReadyH.cons rfl (fun K hK => ?_) AllReadyH.nil
    try rw [if_pos (by rfl)]
    go_simp
    refine (gCheck_any (HLR.out _ hS0.b) hS0.b.size S).mono ?_
    rintro e u1 ⟨rfl, hb1⟩
    have hS1 := Eh.step hS0 hb1
    refine hK.out _ _ hS1 (fun _ => ?_)
    clear hK K
    try simp only [Act.put, List.setIfInBounds_toArray, List.set_cons_zero, List.set_cons_succ]
    refine wpAnyH_ready (rs := [3]) (by kernel_rfl) (by simp) ?_
    refine AllReadyH.cons rfl (fun K hK => ?_) AllReadyH.nil
    try rw [if_pos (by rfl)]
    go_simp
    refine (refCheck_any (HLR.out _ hS1.b) hS1.b.size S).mono ?_
    rintro e u2 ⟨rfl, hb2⟩
    have hS2 := Eh.step hS1 hb2
    refine hK.out _ _ hS2 (fun _ => ?_)
    clear hK K
    try simp only [Act.put, List.setIfInBounds_toArray, List.set_cons_zero, List.set_cons_succ]
    refine takeD (i := 4) (v := .bool true) (some 42) rfl rfl (by kernel_rfl) (by kernel_rfl) (by kernel_rfl) (fun _ _ _ h => h) (Or.inl ⟨by rfl, ?_⟩) hS2 ?_
    · rintro w' hq
      go_simp
    try simp only [Act.put, List.setIfInBounds_toArray, List.set_cons_zero, List.set_cons_succ]
    refine takeD (i := 5) (v := .bool true) (some 43) rfl rfl (by kernel_rfl) (by kernel_rfl) (by kernel_rfl) (fun _ _ _ h => h) (Or.inl ⟨by rfl, ?_⟩) hS2 ?_
    · rintro w' hq
      go_simp
    try simp only [Act.put, List.setIfInBounds_toArray, List.set_cons_zero, List.set_cons_succ]
    refine takeD (i := 6) (v := .agg #[.int .i64 x, .int .i64 y]) (some 44) rfl rfl (by kernel_rfl) (by kernel_rfl) (by kernel_rfl) (fun _ _ _ h => h) (Or.inl ⟨by rfl, ?_⟩) hS2 ?_
    · rintro w' hq
      obtain ⟨z0, z1, z2, z3, z4, z5, z6, z7⟩ := hq.cells
      go_simp
    try simp only [Act.put, List.setIfInBounds_toArray, List.set_cons_zero, List.set_cons_succ]
    refine takeD (i := 7) (v := .agg #[.int .i64 x, .int .i64 y]) (some 45) rfl rfl (by kernel_rfl) (by kernel_rfl) (by kernel_rfl) (fun _ _ _ h => h) (Or.inl ⟨by rfl, ?_⟩) hS2 ?_
    · rintro w' hq
      obtain ⟨z0, z1, z2, z3, z4, z5, z6, z7⟩ := hq.cells
      go_simp
    try simp only [Act.put, List.setIfInBounds_toArray, List.set_cons_zero, List.set_cons_succ]
    refine takeD (i := 8) (v := .bool true) (some 46) rfl rfl (by kernel_rfl) (by kernel_rfl) (by kernel_rfl) (fun _ _ _ h => h) (Or.inl ⟨by rfl, ?_⟩) hS2 ?_
    · rintro w' hq
      go_simp
    try simp only [Act.put, List.setIfInBounds_toArray, List.set_cons_zero, List.set_cons_succ]
    refine takeD (i := 9) (v := .bool true) (some 47) rfl rfl (by kernel_rfl) (by kernel_rfl) (by kernel_rfl) (fun _ _ _ h => h) (Or.inl ⟨by rfl, ?_⟩) hS2 ?_
    · rintro w' hq
      go_simp
    try simp only [Act.put, List.setIfInBounds_toArray, List.set_cons_zero, List.set_cons_succ]
    refine takeD (i := 10) (v := .bool true) (some 48) rfl rfl (by kernel_rfl) (by kernel_rfl) (by kernel_rfl) (fun _ _ _ h => h) (Or.inl ⟨by rfl, ?_⟩) hS2 ?_
    · rintro w' hq
      go_simp
    try simp only [Act.put, List.setIfInBounds_toArray, List.set_cons_zero, List.set_cons_succ]
    refine takeD (i := 11) (v := .int .i64 i) (some 49) rfl rfl (by kernel_rfl) (by kernel_rfl) (by kernel_rfl) (fun _ _ _ h => h) (Or.inl ⟨by rfl, ?_⟩) hS2 ?_
    · rintro w' hq
      go_simp
    try simp only [Act.put, List.setIfInBounds_toArray, List.set_cons_zero, List.set_cons_succ]
    refine takeD (i := 12) (v := .int .i64 i) (some 50) rfl rfl (by kernel_rfl) (by kernel_rfl) (by kernel_rfl) (fun _ _ _ h => h) (Or.inl ⟨by rfl, ?_⟩) hS2 ?_
    · rintro w' hq
      go_simp
    try simp only [Act.put, List.setIfInBounds_toArray, List.set_cons_zero, List.set_cons_succ]
    refine takeD (i := 13) (v := .bool true) (some 51) rfl rfl (by kernel_rfl) (by kernel_rfl) (by kernel_rfl) (fun _ _ _ h => h) (Or.inl ⟨by rfl, ?_⟩) hS2 ?_
    · rintro w' hq
      go_simp
    try simp only [Act.put, List.setIfInBounds_toArray, List.set_cons_zero, List.set_cons_succ]
    refine takeD (i := 14) (v := .bool true) (some 52) rfl rfl (by kernel_rfl) (by kernel_rfl) (by kernel_rfl) (fun _ _ _ h => h) (Or.inl ⟨by rfl, ?_⟩) hS2 ?_
    · rintro w' hq
      go_simp
    try simp only [Act.put, List.setIfInBounds_toArray, List.set_cons_zero, List.set_cons_succ]
    refine takeD (i := 15) (v := .bool true) (some 53) rfl rfl (by kernel_rfl) (by kernel_rfl) (by kernel_rfl) (fun _ _ _ h => h) (Or.inl ⟨by rfl, ?_⟩) hS2 ?_
    · rintro w' hq
      go_simp
    try simp only [Act.put, List.setIfInBounds_toArray, List.set_cons_zero, List.set_cons_succ]
    refine takeD (i := 16) (v := .bool is) (some 54) rfl rfl (by kernel_rfl) (by kernel_rfl) (by kernel_rfl) (fun _ _ _ h => h) (Or.inl ⟨by rfl, ?_⟩) hS2 ?_
    · rintro w' hq
      go_simp
    try simp only [Act.put, List.setIfInBounds_toArray, List.set_cons_zero, List.set_cons_succ]
    refine takeD (i := 17) (v := .bool is) (some 55) rfl rfl (by kernel_rfl) (by kernel_rfl) (by kernel_rfl) (fun _ _ _ h => h) (Or.inl ⟨by rfl, ?_⟩) hS2 ?_
    · rintro w' hq
      go_simp
    try simp only [Act.put, List.setIfInBounds_toArray, List.set_cons_zero, List.set_cons_succ]
    refine takeD (i := 18) (v := .bool true) (some 56) rfl rfl (by kernel_rfl) (by kernel_rfl) (by kernel_rfl) (fun _ _ _ h => h) (Or.inl ⟨by rfl, ?_⟩) hS2 ?_
    · rintro w' hq
      go_simp
    try simp only [Act.put, List.setIfInBounds_toArray, List.set_cons_zero, List.set_cons_succ]
    refine takeD (i := 19) (v := .bool true) (some 57) rfl rfl (by kernel_rfl) (by kernel_rfl) (by kernel_rfl) (fun _ _ _ h => h) (Or.inl ⟨by rfl, ?_⟩) hS2 ?_
    · rintro w' hq
      go_simp
    try simp only [Act.put, List.setIfInBounds_toArray, List.set_cons_zero, List.set_cons_succ]
    refine takeD (i := 20) (v := .bool true) (some 58) rfl rfl (by kernel_rfl) (by kernel_rfl) (by kernel_rfl) (fun _ _ _ h => h) (Or.inl ⟨by rfl, ?_⟩) hS2 ?_
    · rintro w' hq
      go_simp
    try simp only [Act.put, List.setIfInBounds_toArray, List.set_cons_zero, List.set_cons_succ]
    refine takeD (i := 21) (v := .slice A5 q c5) (some 59) rfl rfl (by kernel_rfl) (by kernel_rfl) (by kernel_rfl) (fun _ _ _ h => h) (Or.inl ⟨by rfl, ?_⟩) hS2 ?_
    · rintro w' hq
      go_simp
    try simp only [Act.put, List.setIfInBounds_toArray, List.set_cons_zero, List.set_cons_succ]
    refine takeD (i := 22) (v := .agg #[.int .i64 S, .slice b m c]) (some 60) rfl rfl (by kernel_rfl) (by kernel_rfl) (by kernel_rfl) (fun _ _ _ h => h) (Or.inl ⟨by rfl, ?_⟩) hS2 ?_
    · rintro w' hq
      obtain ⟨z0, z1, z2, z3, z4, z5, z6, z7⟩ := hq.cells
      go_simp
    try simp only [Act.put, List.setIfInBounds_toArray, List.set_cons_zero, List.set_cons_succ]
    refine takeD (i := 23) (v := .pointer (some ⟨w.heap.size + 1, 0, none⟩)) (some 61) rfl rfl (by kernel_rfl) (by kernel_rfl) (by kernel_rfl) (fun _ _ _ h => h) (Or.inl ⟨by rfl, ?_⟩) hS2 ?_
    · rintro w' hq
      go_simp
    try simp only [Act.put, List.setIfInBounds_toArray, List.set_cons_zero, List.set_cons_succ]
    refine takeD (i := 24) (v := .int .i64 a) (some 62) rfl rfl (by kernel_rfl) (by kernel_rfl) (by kernel_rfl) (fun _ _ _ h => h) (Or.inl ⟨by rfl, ?_⟩) hS2 ?_
    · rintro w' hq
      obtain ⟨z0, z1, z2, z3, z4, z5, z6, z7⟩ := hq.cells
      go_simp
    try simp only [Act.put, List.setIfInBounds_toArray, List.set_cons_zero, List.set_cons_succ]
    refine wpAnyH_ready (rs := [25]) (by kernel_rfl) (by simp) ?_
    refine AllReadyH.cons rfl (fun K hK => ?_) AllReadyH.nil
    try rw [if_pos (by rfl)]
    go_simp
    refine (refPorts_any (HLR.out _ hS2.b) hS2.b.size S a).mono ?_
    rintro e u3 ⟨v2, rfl, ⟨q2, hO2⟩, hb3⟩
    obtain ⟨A6, c6, rfl, _⟩ := hO2.form
    have hS3 := Eh.step hS2 hb3
    refine hK.out _ _ hS3 (fun _ => ?_)
    clear hK K
    try simp only [Act.put, List.setIfInBounds_toArray, List.set_cons_zero, List.set_cons_succ]
    refine wpAnyH_ready (rs := [26]) (by kernel_rfl) (by simp) ?_
    refine AllReadyH.cons rfl (fun K hK => ?_) AllReadyH.nil
    try rw [if_pos (by rfl)]
    go_simp
    refine ((eqInts_any hS3.o.rd hO2.rd (Nat.le_refl _) (Nat.le_refl _))).mono ?_
    rintro e u4 ⟨he4, hb4⟩
    rw [decide_eq_true rfl] at he4
    subst he4
    have hS4 := Eh.step hS3 hb4
    refine hK.out _ _ hS4 (fun _ => ?_)
    clear hK K
    try simp only [Act.put, List.setIfInBounds_toArray, List.set_cons_zero, List.set_cons_succ]
    refine takeD (i := 27) (v := .bool true) (some 65) rfl rfl (by kernel_rfl) (by kernel_rfl) (by kernel_rfl) (fun _ _ _ h => h) (Or.inl ⟨by rfl, ?_⟩) hS4 ?_
    · rintro w' hq
      go_simp
    try simp only [Act.put, List.setIfInBounds_toArray, List.set_cons_zero, List.set_cons_succ]
    refine takeD (i := 28) (v := .bool true) (some 66) rfl rfl (by kernel_rfl) (by kernel_rfl) (by kernel_rfl) (fun _ _ _ h => h) (Or.inl ⟨by rfl, ?_⟩) hS4 ?_
    · rintro w' hq
      go_simp
    try simp only [Act.put, List.setIfInBounds_toArray, List.set_cons_zero, List.set_cons_succ]
    refine wpAnyH_ready (rs := [29]) (by kernel_rfl) (by simp) ?_
    refine AllReadyH.cons rfl (fun K hK => ?_) AllReadyH.nil
    try rw [if_pos (by rfl)]
    go_simp
    refine (worksG_any _).mono ?_
    rintro e u5 ⟨rfl, hb5⟩
    have hS5 := Eh.step hS4 hb5
    refine hK.out _ _ hS5 (fun _ => ?_)
    clear hK K
    try simp only [Act.put, List.setIfInBounds_toArray, List.set_cons_zero, List.set_cons_succ]
    refine takeD (i := 30) (v := .bool true) (some 68) rfl rfl (by kernel_rfl) (by kernel_rfl) (by kernel_rfl) (fun _ _ _ h => h) (Or.inl ⟨by rfl, ?_⟩) hS5 ?_
    · rintro w' hq
      go_simp
    try simp only [Act.put, List.setIfInBounds_toArray, List.set_cons_zero, List.set_cons_succ]
    refine takeD (i := 31) (v := .bool true) (some 4) rfl rfl (by kernel_rfl) (by kernel_rfl) (by kernel_rfl) (fun _ _ _ h => h) (Or.inl ⟨by rfl, ?_⟩) hS5 ?_
    · rintro w' hq
      go_simp
    try simp only [Act.put, List.setIfInBounds_toArray, List.set_cons_zero, List.set_cons_succ]
    refine wpAnyH_done (by kernel_rfl) ?_ _
    have HF := Kp.mk hS5.b
    clear hS0 hS1 hS2 hS3 hS4 hS5 hO2 q1
    go_wp2_with fail
    go_ret
    exact ⟨rfl, HF.out⟩

/-- What lies there in the last region of GraphReach. -/
structure Er (w : World) (S : Int) (A : Option Addr) (m c : Nat) (X : World) : Prop where
  g : Vb 24 X w.heap.size [.int .i64 S, .slice A m c]
  b : Below w.heap.size w X
theorem Er.step {w : World} {S : Int} {A : Option Addr} {m c : Nat} {X Y : World} (h : Er w S A m c X) (hb : Below X.heap.size X Y) : Er w S A m c Y := ⟨h.g.below hb h.g.lt, h.b.trans (hb.mono h.b.size)⟩
theorem Er.cells {w : World} {S : Int} {A : Option Addr} {m c : Nat} {X : World} (h : Er w S A m c X) : X.cell? ⟨w.heap.size, 0, none⟩ = some (.int .i64 S) ∧ X.cell? ⟨w.heap.size, 1, none⟩ = some (.slice A m c) := ⟨h.g.cell 0 rfl, h.g.cell 1 rfl⟩
set_option maxRecDepth 100000 in
set_option maxHeartbeats 4000000 in
theorem graphReach_walk (S : Int) (ls : List Lk) (b : Option Addr) (n c : Nat) (up : List Bool) (b2 : Option Addr) (n2 c2 : Nat) (s : Int) (w : World) (h : Lr w w.heap.size b n c ls) (hu : Bl w w.heap.size b2 n2 c2 up) (hs : (Lit.int .i64 s).wf = true) :
    Calls Try.prog 4 #[.agg #[.int .i64 S, .slice b n c], .slice b2 n2 c2, .int .i64 s] w fun e w' => e = .returned (.bool true) ∧ Below w.heap.size w w' := by
  have hmax := h.max
  have hcap := h.2.2.1
  have hle := h.le
  have hnil := h.2.2.2.1
  have hat := h.at_
  have H := Kp.mk h
  have HU := Kp.mk (fun (X : World) (hX : Below w.heap.size w X) => hu.below hX)
  have hg0 : Vb 24 (w.alloc (.cells #[.int .i64 S, .slice b n c] 24)) w.heap.size [.int .i64 S, .slice b n c] := Vb.new 24 w [.int .i64 S, .slice b n c]
  have hb0 := below_alloc w (.cells #[.int .i64 S, .slice b n c] 24)
  clear h hu hs
  go_enter Try.func4, Try.ntmps4
  go_upto_region 1 with fail
  generalize w.alloc (.cells #[.int .i64 S, .slice b n c] 24) = w0 at *
  have HV := Kp.mk (And.intro hg0 hb0)
  have g0 := hg0.cell 0 rfl
  have g1 := hg0.cell 1 rfl
  have f1 := hg0.free 1
  clear hg0 hb0
  go_cut [] from 7 (fun wx => ∃ m : Nat, m ≤ n ∧ m ≤ 30 ∧ Kp (Er w S b m c wx))
  case first =>
    by_cases hn : n ≤ 30
    · have hn2 : (n : Int) ≤ 30 := by omega
      go_wp2_with fail
      go_meet
      case rel => exact ⟨n, Nat.le_refl _, hn, Kp.mk ⟨HV.out.1.set 1 _, below_grown HV.out.2 (grownBy_set w0 w.heap.size 1 _) HV.out.2.size (Nat.le_refl _)⟩⟩
    · have hn2 : ¬ (n : Int) ≤ 30 := by omega
      have hn3 : (30 : Int) ≤ n := by omega
      go_wp2_with fail
      go_meet
      case rel => exact ⟨30, by omega, by omega, Kp.mk ⟨HV.out.1.set 1 _, below_grown HV.out.2 (grownBy_set w0 w.heap.size 1 _) HV.out.2.size (Nat.le_refl _)⟩⟩
  case rest =>
    clear g0 g1 f1 HV hat hnil hle hcap
    obtain ⟨m, hm1, hm2, HK⟩ := hcut
    have HLR := Kp.mk (fun (X : World) (hX : Below w.heap.size w X) => (H.out.cut m hm1).below hX)
    generalize ls.take m = L at *
    clear H hm1 hm2
    go_upto_region 2 with fail
    have hS0 := HK.out.step (Below.refl wc.heap.size wc).drew
    clear HK
    refine wp_region_held_drew (S := Er w S b m c) (by kernel_rfl) hS0 (fun _ => ?_)
    refine takeD (i := 0) (v := .agg #[.int .i64 S, .slice b m c]) (some 15) rfl rfl (by kernel_rfl) (by kernel_rfl) (by kernel_rfl) (fun _ _ _ h => h) (Or.inl ⟨by rfl, ?_⟩) hS0 ?_
    · rintro w' hq
      obtain ⟨z0, z1⟩ := hq.cells
      go_simp
    try simp only [Act.put, List.setIfInBounds_toArray, List.set_cons_zero, List.set_cons_succ]
    refine takeD (i := 1) (v := .slice b2 n2 c2) (some 16) rfl rfl (by kernel_rfl) (by kernel_rfl) (by kernel_rfl) (fun _ _ _ h => h) (Or.inl ⟨by rfl, ?_⟩) hS0 ?_
    · rintro w' hq
      go_simp
    try simp only [Act.put, List.setIfInBounds_toArray, List.set_cons_zero, List.set_cons_succ]
    refine takeD (i := 2) (v := .int .i64 s) (some 17) rfl rfl (by kernel_rfl) (by kernel_rfl) (by kernel_rfl) (fun _ _ _ h => h) (Or.inl ⟨by rfl, ?_⟩) hS0 ?_
    · rintro w' hq
      go_simp
    try simp only [Act.put, List.setIfInBounds_toArray, List.set_cons_zero, List.set_cons_succ]
    refine takeD (i := 4) (v := .agg #[.int .i64 S, .slice b m c]) (some 19) rfl rfl (by kernel_rfl) (by kernel_rfl) (by kernel_rfl) (fun _ _ _ h => h) (Or.inl ⟨by rfl, ?_⟩) hS0 ?_
    · rintro w' hq
      obtain ⟨z0, z1⟩ := hq.cells
      go_simp
    try simp only [Act.put, List.setIfInBounds_toArray, List.set_cons_zero, List.set_cons_succ]
    refine takeD (i := 5) (v := .slice b2 n2 c2) (some 20) rfl rfl (by kernel_rfl) (by kernel_rfl) (by kernel_rfl) (fun _ _ _ h => h) (Or.inl ⟨by rfl, ?_⟩) hS0 ?_
    · rintro w' hq
      go_simp
    try simp only [Act.put, List.setIfInBounds_toArray, List.set_cons_zero, List.set_cons_succ]
    refine takeD (i := 6) (v := .int .i64 s) (some 21) rfl rfl (by kernel_rfl) (by kernel_rfl) (by kernel_rfl) (fun _ _ _ h => h) (Or.inl ⟨by rfl, ?_⟩) hS0 ?_
    · rintro w' hq
      go_simp
    try simp only [Act.put, List.setIfInBounds_toArray, List.set_cons_zero, List.set_cons_succ]
    refine wpAnyH_ready (rs := [3]) (by kernel_rfl) (by simp) ?_
    refine AllReadyH.cons rfl (fun K hK => ?_) AllReadyH.nil
    try rw [if_pos (by rfl)]
    go_simp
    refine (gReach_any (HLR.out _ hS0.b) hS0.b.size (HU.out _ hS0.b) hS0.b.size S s).mono ?_
    rintro e u1 ⟨v1, rfl, ⟨q1, hO1⟩, hb1⟩
    obtain ⟨A1, c1, rfl, _⟩ := hO1.form
    have hS1 := Er.step hS0 hb1
    refine hK.out _ _ hS1 (fun _ => ?_)
    clear hK K
    try simp only [Act.put, List.setIfInBounds_toArray, List.set_cons_zero, List.set_cons_succ]
    refine wpAnyH_ready (rs := [7]) (by kernel_rfl) (by simp) ?_
    refine AllReadyH.cons rfl (fun K hK => ?_) AllReadyH.nil
    try rw [if_pos (by rfl)]
    go_simp
    refine (refReach_any (HLR.out _ hS1.b) hS1.b.size (HU.out _ hS1.b) hS1.b.size S s).mono ?_
    rintro e u2 ⟨v2, rfl, ⟨q2, hO2⟩, hb2⟩
    obtain ⟨A2, c3, rfl, _⟩ := hO2.form
    have hS2 := Er.step hS1 hb2
    refine hK.out _ _ hS2 (fun _ => ?_)
    clear hK K
    try simp only [Act.put, List.setIfInBounds_toArray, List.set_cons_zero, List.set_cons_succ]
    refine wpAnyH_ready (rs := [8]) (by kernel_rfl) (by simp) ?_
    refine AllReadyH.cons rfl (fun K hK => ?_) AllReadyH.nil
    try rw [if_pos (by rfl)]
    go_simp
    refine ((eqInts_any (hO1.below hb2).rd hO2.rd (Nat.le_refl _) (Nat.le_refl _))).mono ?_
    rintro e u3 ⟨he3, hb3⟩
    rw [decide_eq_true rfl] at he3
    subst he3
    have hS3 := Er.step hS2 hb3
    refine hK.out _ _ hS3 (fun _ => ?_)
    clear hK K
    try simp only [Act.put, List.setIfInBounds_toArray, List.set_cons_zero, List.set_cons_succ]
    refine takeD (i := 9) (v := .bool true) (some 24) rfl rfl (by kernel_rfl) (by kernel_rfl) (by kernel_rfl) (fun _ _ _ h => h) (Or.inl ⟨by rfl, ?_⟩) hS3 ?_
    · rintro w' hq
      go_simp
    try simp only [Act.put, List.setIfInBounds_toArray, List.set_cons_zero, List.set_cons_succ]
    refine takeD (i := 10) (v := .agg #[.int .i64 S, .slice b m c]) (some 25) rfl rfl (by kernel_rfl) (by kernel_rfl) (by kernel_rfl) (fun _ _ _ h => h) (Or.inl ⟨by rfl, ?_⟩) hS3 ?_
    · rintro w' hq
      obtain ⟨z0, z1⟩ := hq.cells
      go_simp
    try simp only [Act.put, List.setIfInBounds_toArray, List.set_cons_zero, List.set_cons_succ]
    refine takeD (i := 11) (v := .slice b2 n2 c2) (some 26) rfl rfl (by kernel_rfl) (by kernel_rfl) (by kernel_rfl) (fun _ _ _ h => h) (Or.inl ⟨by rfl, ?_⟩) hS3 ?_
    · rintro w' hq
      go_simp
    try simp only [Act.put, List.setIfInBounds_toArray, List.set_cons_zero, List.set_cons_succ]
    refine takeD (i := 13) (v := .agg #[.int .i64 S, .slice b m c]) (some 28) rfl rfl (by kernel_rfl) (by kernel_rfl) (by kernel_rfl) (fun _ _ _ h => h) (Or.inl ⟨by rfl, ?_⟩) hS3 ?_
    · rintro w' hq
      obtain ⟨z0, z1⟩ := hq.cells
      go_simp
    try simp only [Act.put, List.setIfInBounds_toArray, List.set_cons_zero, List.set_cons_succ]
    refine takeD (i := 14) (v := .slice b2 n2 c2) (some 29) rfl rfl (by kernel_rfl) (by kernel_rfl) (by kernel_rfl) (fun _ _ _ h => h) (Or.inl ⟨by rfl, ?_⟩) hS3 ?_
    · rintro w' hq
      go_simp
    try simp only [Act.put, List.setIfInBounds_toArray, List.set_cons_zero, List.set_cons_succ]
    refine wpAnyH_ready (rs := [12]) (by kernel_rfl) (by simp) ?_
    refine AllReadyH.cons rfl (fun K hK => ?_) AllReadyH.nil
    try rw [if_pos (by rfl)]
    go_simp
    refine (gWhole_any (HLR.out _ hS3.b) hS3.b.size (HU.out _ hS3.b) hS3.b.size S).mono ?_
    rintro e u4 ⟨rfl, hb4⟩
    have hS4 := Er.step hS3 hb4
    refine hK.out _ _ hS4 (fun _ => ?_)
    clear hK K
    try simp only [Act.put, List.setIfInBounds_toArray, List.set_cons_zero, List.set_cons_succ]
    refine wpAnyH_ready (rs := [15]) (by kernel_rfl) (by simp) ?_
    refine AllReadyH.cons rfl (fun K hK => ?_) AllReadyH.nil
    try rw [if_pos (by rfl)]
    go_simp
    refine (refWhole_any (HLR.out _ hS4.b) hS4.b.size (HU.out _ hS4.b) hS4.b.size S).mono ?_
    rintro e u5 ⟨rfl, hb5⟩
    have hS5 := Er.step hS4 hb5
    refine hK.out _ _ hS5 (fun _ => ?_)
    clear hK K
    try simp only [Act.put, List.setIfInBounds_toArray, List.set_cons_zero, List.set_cons_succ]
    refine takeD (i := 16) (v := .bool true) (some 31) rfl rfl (by kernel_rfl) (by kernel_rfl) (by kernel_rfl) (fun _ _ _ h => h) (Or.inl ⟨by rfl, ?_⟩) hS5 ?_
    · rintro w' hq
      go_simp
    try simp only [Act.put, List.setIfInBounds_toArray, List.set_cons_zero, List.set_cons_succ]
    refine takeD (i := 17) (v := .bool true) (some 32) rfl rfl (by kernel_rfl) (by kernel_rfl) (by kernel_rfl) (fun _ _ _ h => h) (Or.inl ⟨by rfl, ?_⟩) hS5 ?_
    · rintro w' hq
      go_simp
    try simp only [Act.put, List.setIfInBounds_toArray, List.set_cons_zero, List.set_cons_succ]
    refine takeD (i := 18) (v := .bool true) (some 33) rfl rfl (by kernel_rfl) (by kernel_rfl) (by kernel_rfl) (fun _ _ _ h => h) (Or.inl ⟨by rfl, ?_⟩) hS5 ?_
    · rintro w' hq
      go_simp
    try simp only [Act.put, List.setIfInBounds_toArray, List.set_cons_zero, List.set_cons_succ]
    refine wpAnyH_ready (rs := [19]) (by kernel_rfl) (by simp) ?_
    refine AllReadyH.cons rfl (fun K hK => ?_) AllReadyH.nil
    try rw [if_pos (by rfl)]
    go_simp
    refine (worksG_any _).mono ?_
    rintro e u6 ⟨rfl, hb6⟩
    have hS6 := Er.step hS5 hb6
    refine hK.out _ _ hS6 (fun _ => ?_)
    clear hK K
    try simp only [Act.put, List.setIfInBounds_toArray, List.set_cons_zero, List.set_cons_succ]
    refine takeD (i := 20) (v := .bool true) (some 35) rfl rfl (by kernel_rfl) (by kernel_rfl) (by kernel_rfl) (fun _ _ _ h => h) (Or.inl ⟨by rfl, ?_⟩) hS6 ?_
    · rintro w' hq
      go_simp
    try simp only [Act.put, List.setIfInBounds_toArray, List.set_cons_zero, List.set_cons_succ]
    refine takeD (i := 21) (v := .bool true) (some 6) rfl rfl (by kernel_rfl) (by kernel_rfl) (by kernel_rfl) (fun _ _ _ h => h) (Or.inl ⟨by rfl, ?_⟩) hS6 ?_
    · rintro w' hq
      go_simp
    try simp only [Act.put, List.setIfInBounds_toArray, List.set_cons_zero, List.set_cons_succ]
    refine wpAnyH_done (by kernel_rfl) ?_ _
    have HF := Kp.mk hS6.b
    clear hS0 hS1 hS2 hS3 hS4 hS5 hS6 hO1 hO2
    go_wp2_with fail
    go_ret
    exact ⟨rfl, HF.out⟩
end Go.Proofs.Ytlmonnggklfniaa.Oct
