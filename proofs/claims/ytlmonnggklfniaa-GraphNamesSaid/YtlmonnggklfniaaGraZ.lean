/- Contracts of layer 12 (graph): made, a graph that may be, out of any. -/
import Derived.Test.YtlmonnggklfniaaGraU
import Derived.Test.YtlmonnggklfniaaGraD
import Derived.Deep.CutRange
namespace Go.Proofs.Ytlmonnggklfniaa.Oct
open Go.RowKit
open Go.Proofs.Ytlmonnggklfniaa.Ser (bringP bring_any bringP_bd)
set_option linter.unusedVariables false
set_option linter.unusedSimpArgs false

section
variable {T ty : TypeId} {w : World} {g off : Nat} {cs vs : List Value}
variable {o : Oper} {a : Act} {K : Act → World → Prop} {Q : Exit → Act → World → Prop}
theorem wp_store_vbG (d : Option Tmp) (hd : o.dst = d) (x y : Operand) (ho : o.op = .store ty x y) (hx : a.eval x = .pointer (some ⟨g, 0, none⟩)) (hy : a.eval y = .agg vs.toArray) (hv : Vb T w g cs) (hl : cs.length = vs.length) (ht : Agg ty vs.length)
    (h1 : vs.all (·.oneCell') = true)
    (h : ∀ w', Vb T w' g vs → w.grownBy w' (some g) → w'.heap.size = w.heap.size → K (a.put d undef) w') : o.wp Try.prog a w K Q := by
  subst hd
  exact wp_store_row ty x y ho g vs.toArray hx hy T cs.toArray hv (by simpa using ht.2) (by simpa using hl) (by simpa using h1) (h _ (setRow_vb hv hl) (setRow_grown _ _ _) (setRow_size _ _ _))
/-- append in a region that draws its order, where its run is known. -/
theorem op_run_appendG {t : TypeId} {w' : World} (s x : Operand) (ho : o.op = .call { callee := .builtin .append, args := #[s, x], argTypes := #[t, t] }) {v u y : Value} (hs : a.eval s = v) (hx : a.eval x = u)
    (hrun : (Builtin.append_ #[t, t] o.type #[v, u]).run Try.prog w = .ok y w') (h : K (a.put o.dst y) w') : o.wp Try.prog a w K Q := by
  unfold Oper.wp execOp
  simp only [ho, resolve, invoke, builtin, Sem.run_bind, Sem.run_pure, Result.andThen_ok, List.map_toArray, List.map_cons, List.map_nil, hs, hx, hrun]
  exact h
end
theorem agg_link : Agg 43 4 := ⟨⟨_, Try.underlying43, rfl⟩, by kernel_rfl⟩
theorem ol_lower {w : World} {base n b : Nat} {v : Value} {ls : List Lk} (h : Ol w base v n ls) (hb : b ≤ base) : Ol w b v n ls := by
  refine ⟨h.1, ?_⟩
  rcases h.2 with h2 | ⟨g, cap, cur, e, hbg, r⟩
  · exact .inl h2
  · exact .inr ⟨g, cap, cur, e, by omega, r⟩
theorem ol_other {w w' : World} {base n g : Nat} {v : Value} {ls : List Lk} {T : TypeId} {cs : List Value} (h : Ol w base v n ls) (hv : Vb T w g cs) (hT : T ≠ 43) (hg : w.grownBy w' (some g)) : Ol w' base v n ls := by
  refine ⟨h.1, ?_⟩
  rcases h.2 with h2 | ⟨k, cap, cur, e, hbg, hk, r⟩
  · exact .inl h2
  · refine .inr ⟨k, cap, cur, e, hbg, (hg.block k (Array.getElem?_eq_some_iff.1 hk).1 (fun e2 => ?_)).trans hk, r⟩
    have e2 := Option.some.inj e2
    subst e2
    rw [show w.heap[k]? = _ from hv] at hk
    have hk := Option.some.inj hk
    injection hk with _ h3 _
    exact hT h3
/-- What made has, in a round. -/
structure Em (w : World) (S : Int) (b : Option Addr) (n c OUT : Nat) (So : Int) (A1 : Option Addr) (n1 c1 : Nat) (l1 : List Lk) (X : World) : Prop where
  g : Vb 24 X w.heap.size [.int .i64 S, .slice b n c]
  r : Vb 24 X (w.heap.size + 1) [.int .i64 0, .slice none 0 0]
  o : Vb 24 X OUT [.int .i64 So, .slice A1 n1 c1]
  l : Ol X w.heap.size (.slice A1 n1 c1) n1 l1
  d : Good So l1
  b : Below w.heap.size w X
  lo : w.heap.size + 1 < OUT
theorem Em.step {w : World} {S : Int} {b : Option Addr} {n c OUT : Nat} {So : Int} {A1 : Option Addr} {n1 c1 : Nat} {l1 : List Lk} {X Y : World} (h : Em w S b n c OUT So A1 n1 c1 l1 X) (hb : Below X.heap.size X Y) : Em w S b n c OUT So A1 n1 c1 l1 Y :=
  ⟨h.g.below hb h.g.lt, h.r.below hb h.r.lt, h.o.below hb h.o.lt, h.l.below hb, h.d, h.b.trans (hb.mono h.b.size), h.lo⟩
theorem Em.cells {w : World} {S : Int} {b : Option Addr} {n c OUT : Nat} {So : Int} {A1 : Option Addr} {n1 c1 : Nat} {l1 : List Lk} {X : World} (h : Em w S b n c OUT So A1 n1 c1 l1 X) :
    X.cell? ⟨w.heap.size, 1, none⟩ = some (.slice b n c) ∧ X.cell? ⟨OUT, 0, none⟩ = some (.int .i64 So) ∧ X.cell? ⟨OUT, 1, none⟩ = some (.slice A1 n1 c1) := ⟨h.g.cell 1 rfl, h.o.cell 0 rfl, h.o.cell 1 rfl⟩
/-- Out is made anew. -/
theorem Em.put {w : World} {S : Int} {b : Option Addr} {n c OUT : Nat} {So : Int} {A1 : Option Addr} {n1 c1 : Nat} {l1 : List Lk} {X : World} (h : Em w S b n c OUT So A1 n1 c1 l1 X) {A9 : Option Addr} {n9 c9 : Nat} {l9 : List Lk} (hl : Ol X w.heap.size (.slice A9 n9 c9) n9 l9) (hg : Good So l9) :
    Em w S b n c OUT So A9 n9 c9 l9 ((X.setCell ⟨OUT, 0, none⟩ (.int .i64 So)).setCell ⟨OUT, 1, none⟩ (.slice A9 n9 c9)) := by
  have g1 := grownBy_set X OUT 0 (.int .i64 So)
  have hO1 := h.o.set 0 (.int .i64 So)
  have g2 := grownBy_set (X.setCell ⟨OUT, 0, none⟩ (.int .i64 So)) OUT 1 (.slice A9 n9 c9)
  have hlo := h.lo
  have hz := h.b.size
  exact ⟨(h.g.grown g1 (by omega)).grown g2 (by omega), (h.r.grown g1 (by omega)).grown g2 (by omega), hO1.set 1 _, ol_other (ol_other hl h.o (by decide) g1) hO1 (by decide) g2, hg, below_grown (below_grown h.b g1 hz (by omega)) g2 (Nat.le_trans hz g1.size) (by omega), h.lo⟩
/-- The result. -/
theorem Em.fin {w : World} {S : Int} {b : Option Addr} {n c OUT : Nat} {So : Int} {A1 : Option Addr} {n1 c1 : Nat} {l1 : List Lk} {X : World} (h : Em w S b n c OUT So A1 n1 c1 l1 X) :
    Vb 24 ((X.setCell ⟨w.heap.size + 1, 0, none⟩ (.int .i64 So)).setCell ⟨w.heap.size + 1, 1, none⟩ (.slice A1 n1 c1)) (w.heap.size + 1) [.int .i64 So, .slice A1 n1 c1] ∧ Ol ((X.setCell ⟨w.heap.size + 1, 0, none⟩ (.int .i64 So)).setCell ⟨w.heap.size + 1, 1, none⟩ (.slice A1 n1 c1)) w.heap.size (.slice A1 n1 c1) n1 l1 ∧
    Below w.heap.size w ((X.setCell ⟨w.heap.size + 1, 0, none⟩ (.int .i64 So)).setCell ⟨w.heap.size + 1, 1, none⟩ (.slice A1 n1 c1)) := by
  have g1 := grownBy_set X (w.heap.size + 1) 0 (.int .i64 So)
  have hO1 := h.r.set 0 (.int .i64 So)
  have g2 := grownBy_set (X.setCell ⟨w.heap.size + 1, 0, none⟩ (.int .i64 So)) (w.heap.size + 1) 1 (.slice A1 n1 c1)
  have hz := h.b.size
  exact ⟨hO1.set 1 _, ol_other (ol_other h.l h.r (by decide) g1) hO1 (by decide) g2, below_grown (below_grown h.b g1 hz (by omega)) g2 (Nat.le_trans hz g1.size) (by omega)⟩
theorem ol_keepL {T : TypeId} {u v : World} {gl : Nat} {vO : Value} {cs : List Value} (hlit : Vb T u gl cs) (hne : ∀ k, vO.ownBlock = some k → k ≠ gl) (hg : u.grownBy v vO.ownBlock) : Vb T v gl cs := (hg.block gl hlit.lt (fun e => hne gl e.symm rfl)).trans hlit
theorem chkG {S : Int} {ls : List Lk} (h : Good S ls) : chkP S ls = 0 := by unfold chkP; rw [endsP_good h]; rfl
theorem chkB {S : Int} {ls : List Lk} (h : ¬ Good S ls) : chkP S ls = 2 := by unfold chkP; rw [endsP_bad h]; rfl
theorem good_nil {S : Int} (h : 1 ≤ S ∧ S ≤ 6) : Good S [] := ⟨h, fun l hl => by simp at hl, by simp [allE]⟩
theorem bring_at (x m y : Int) (h : bringP x m = y) (hm : 0 < m) (hm' : m ≤ 4294967296) (w : World) : Calls Try.prog 22 #[.int .i64 x, .int .i64 m] w fun e w' => e = .returned (.int .i64 y) ∧ w' = w := by
  subst h
  exact (bring_any x m w hm hm').mono (fun e w' h => ⟨h.1, h.2.symm⟩)
set_option maxRecDepth 100000 in
set_option maxHeartbeats 8000000 in
theorem made_any {w : World} {b : Option Addr} {n c : Nat} {ls : List Lk} (h : Lr w w.heap.size b n c ls) (S : Int) : Calls Try.prog 20 #[.agg #[.int .i64 S, .slice b n c]] w fun e w' => ∃ (So : Int) (A1 : Option Addr) (n1 c1 : Nat), e = .returned (.agg #[.int .i64 So, .slice A1 n1 c1]) ∧ (∃ l1 : List Lk, Ol w' w.heap.size (.slice A1 n1 c1) n1 l1 ∧ Good So l1) ∧ Below w.heap.size w w' := by
  have hmax := h.max
  have H := Kp.mk h
  obtain ⟨x0, hx0⟩ : ∃ x, bringP S 6 = x := ⟨_, rfl⟩
  have hbd := bringP_bd S 6 (by omega)
  rw [hx0] at hbd
  have hx1 : 0 ≤ x0 := hbd.1
  have hx2 : x0 ≤ 5 := by omega
  have hbr := bring_at S 6 x0 hx0 (by omega) (by omega)
  clear hbd hx0 h
  have hb0 := below_two w (.cells #[.int .i64 S, .slice b n c] 24) (.cells #[.int .i64 0, .slice none 0 0] 24)
  have hg0 : Vb 24 ((w.alloc (.cells #[.int .i64 S, .slice b n c] 24)).alloc (.cells #[.int .i64 0, .slice none 0 0] 24)) w.heap.size [.int .i64 S, .slice b n c] := (Vb.new 24 w [.int .i64 S, .slice b n c]).alloc _
  have hr0 : Vb 24 ((w.alloc (.cells #[.int .i64 S, .slice b n c] 24)).alloc (.cells #[.int .i64 0, .slice none 0 0] 24)) (w.heap.size + 1) [.int .i64 0, .slice none 0 0] := by
    have := Vb.new 24 (w.alloc (.cells #[.int .i64 S, .slice b n c] 24)) [.int .i64 0, .slice none 0 0]
    rwa [World.size_alloc] at this
  go_enter Try.func20, Try.ntmps20
  go_upto_region 1 with fail
  generalize (w.alloc (.cells #[.int .i64 S, .slice b n c] 24)).alloc (.cells #[.int .i64 0, .slice none 0 0] 24) = w0 at *
  have g0 := hg0.cell 0 rfl
  go_upto_region 2 with (refine (hbr _).mono ?_; rintro e w' ⟨rfl, hw'⟩; rw [hw']; clear hw' w')
  have hE : Em w S b n c w0.heap.size (1 + x0) none 0 0 [] (w0.alloc (.cells #[.int .i64 (1 + x0), .slice none 0 0] 24)) :=
    ⟨hg0.alloc _, hr0.alloc _, Vb.new 24 w0 [.int .i64 (1 + x0), .slice none 0 0], World.ownsRow_nil _ _ _ 4, good_nil (by omega), hb0.alloc hb0.size _, hr0.lt⟩
  have HE := Kp.mk hE
  have hSo1 : 1 ≤ 1 + x0 := by omega
  have hSo2 : 1 + x0 ≤ 6 := by omega
  clear hg0 hr0 hb0 g0 hbr hE
  generalize w0.alloc (.cells #[.int .i64 (1 + x0), .slice none 0 0] 24) = w1 at *
  generalize w0.heap.size = OUT at *
  generalize 1 + x0 = So at *
  clear hx1 hx2
  go_wp2_with fail
  go_loopw [4] (fun s4 wr => ∃ i : Nat, s4 = .int .i64 i ∧ i ≤ n ∧ i ≤ 30 ∧ Kp (∃ (A1 : Option Addr) (n1 c1 : Nat) (l1 : List Lk), Em w S b n c OUT So A1 n1 c1 l1 wr)) (fun s4 _ => n - (intOf s4).toNat)
  case atStart => exact ⟨0, rfl, Nat.zero_le _, Nat.zero_le _, Kp.mk ⟨_, _, _, _, HE.out⟩⟩
  case round =>
    clear HE
    obtain ⟨i, rfl, hi, hi3, HK⟩ := hrel
    obtain ⟨A1, n1, c1, l1, hE⟩ := HK.out
    obtain ⟨c0, c1', c2⟩ := hE.cells
    have HE := Kp.mk hE
    clear HK hE
    by_cases hlt : i < n
    · have hlti : (i : Int) < n := by omega
      by_cases hlt3 : i < 30
      · have hlt30 : (i : Int) < 30 := by omega
        obtain ⟨l, hl⟩ : ∃ l, ls[i]? = some l := ⟨_, List.getElem?_eq_getElem (by have := H.out.len; omega)⟩
        obtain ⟨b1, o1, hA1, hb1lt, fl⟩ := (H.out.below HE.out.b).at_ (by omega)
        subst hA1
        obtain ⟨d0, d1, d2, d3⟩ := fl i l hl
        obtain ⟨a, p, b3, q⟩ := l
        dsimp only at d0 d1 d2 d3
        clear fl hl
        go_upto_region 6 with fail
        have hk : Vb 43 (wr.alloc (.cells #[.int .i64 a, .int .i64 p, .int .i64 b3, .int .i64 q] 43)) wr.heap.size [.int .i64 a, .int .i64 p, .int .i64 b3, .int .i64 q] := Vb.new 43 wr [.int .i64 a, .int .i64 p, .int .i64 b3, .int .i64 q]
        have hE5 := HE.out.step (below_alloc wr (.cells #[.int .i64 a, .int .i64 p, .int .i64 b3, .int .i64 q] 43))
        clear d0 d1 d2 d3 c0 c1' c2 HE
        generalize wr.alloc (.cells #[.int .i64 a, .int .i64 p, .int .i64 b3, .int .i64 q] 43) = w5 at *
        generalize wr.heap.size = lb at *
        obtain ⟨x1, hx1⟩ : ∃ x, bringP a So = x := ⟨_, rfl⟩
        obtain ⟨x2, hx2⟩ : ∃ x, bringP p 4 = x := ⟨_, rfl⟩
        obtain ⟨x3, hx3⟩ : ∃ x, bringP b3 So = x := ⟨_, rfl⟩
        obtain ⟨x4, hx4⟩ : ∃ x, bringP q 4 = x := ⟨_, rfl⟩
        have hbr1 := bring_at a So x1 hx1 (by omega) (by omega)
        have hbr2 := bring_at p 4 x2 hx2 (by omega) (by omega)
        have hbr3 := bring_at b3 So x3 hx3 (by omega) (by omega)
        have hbr4 := bring_at q 4 x4 hx4 (by omega) (by omega)
        have hbd1 := bringP_bd a So (by omega)
        have hbd2 := bringP_bd p 4 (by omega)
        have hbd3 := bringP_bd b3 So (by omega)
        have hbd4 := bringP_bd q 4 (by omega)
        rw [hx1] at hbd1
        rw [hx2] at hbd2
        rw [hx3] at hbd3
        rw [hx4] at hbd4
        have j1 : 0 ≤ x1 := hbd1.1
        have j2 : 0 ≤ x2 := hbd2.1
        have j3 : 0 ≤ x3 := hbd3.1
        have j4 : 0 ≤ x4 := hbd4.1
        have m1 : x1 ≤ 6 := by omega
        have m2 : x2 ≤ 6 := by omega
        have m3 : x3 ≤ 6 := by omega
        have m4 : x4 ≤ 6 := by omega
        clear hbd1 hbd2 hbd3 hbd4 hx1 hx2 hx3 hx4
        have hwr1 : IntKind.i64.wrap (1 + x1) = 1 + x1 := by rw [IntKind.wrap_i64]; omega
        have hwr2 : IntKind.i64.wrap (1 + x2) = 1 + x2 := by rw [IntKind.wrap_i64]; omega
        have hwr3 : IntKind.i64.wrap (1 + x3) = 1 + x3 := by rw [IntKind.wrap_i64]; omega
        have hwr4 : IntKind.i64.wrap (1 + x4) = 1 + x4 := by rw [IntKind.wrap_i64]; omega
        have HE5 := Kp.mk hE5
        have HK5 := Kp.mk hk
        go_cut [6] from 29 to 66 (fun s6 wx => ∃ g6 : Nat, s6 = .pointer (some ⟨g6, 0, none⟩) ∧ Kp (Vb 43 wx g6 [.int .i64 (1 + x1), .int .i64 (1 + x2), .int .i64 (1 + x3), .int .i64 (1 + x4)] ∧ Below w5.heap.size w5 wx))
        case first =>
          obtain ⟨B0, hB0⟩ : ∃ x, x = w5.heap.size := ⟨_, rfl⟩
          have hS0 : Below B0 w5.drew w5.drew := Below.refl _ _
          have HZ0 := Kp.mk (show B0 ≤ w5.drew.heap.size from Nat.le_of_eq hB0)
          have HBW := Kp.mk (show w5.heap.size ≤ B0 from Nat.le_of_eq hB0.symm)
          have k0 : w5.drew.cell? ⟨lb, 0, none⟩ = some (.int .i64 a) := hk.cell 0 rfl
          have k1 : w5.drew.cell? ⟨lb, 1, none⟩ = some (.int .i64 p) := hk.cell 1 rfl
          have k2 : w5.drew.cell? ⟨lb, 2, none⟩ = some (.int .i64 b3) := hk.cell 2 rfl
          have k3 : w5.drew.cell? ⟨lb, 3, none⟩ = some (.int .i64 q) := hk.cell 3 rfl
          have o0 : w5.drew.cell? ⟨OUT, 0, none⟩ = some (.int .i64 So) := hE5.o.cell 0 rfl
          have hltK : lb < B0 := by have := hk.lt; omega
          have hltO : OUT < B0 := by have := hE5.o.lt; omega
          clear hB0
          have HD5 := Kp.mk (show Below w5.heap.size w5 w5.drew from (Below.refl _ _).drew)
          clear hk hE5 HE5 HK5
          refine wp_region_held_drew (S := fun X => Below B0 w5.drew X) (by kernel_rfl) hS0 (fun _ => ?_)
          generalize w5.drew = u0 at *
          refine takeD (i := 0) (v := .pointer (some ⟨lb, 0, none⟩)) (some 29) rfl rfl (by kernel_rfl) (by kernel_rfl) (by kernel_rfl) (fun _ _ _ h => h) (Or.inl ⟨by rfl, ?_⟩) hS0 ?_
          · rintro w' hq
            go_simp
          try simp only [Act.put, List.setIfInBounds_toArray, List.set_cons_zero, List.set_cons_succ]
          refine takeD (i := 1) (v := .pointer (some ⟨lb, 0, none⟩)) (some 30) rfl rfl (by kernel_rfl) (by kernel_rfl) (by kernel_rfl) (fun _ _ _ h => h) (Or.inl ⟨by rfl, ?_⟩) hS0 ?_
          · rintro w' hq
            go_simp
          try simp only [Act.put, List.setIfInBounds_toArray, List.set_cons_zero, List.set_cons_succ]
          refine takeD (i := 2) (v := .int .i64 a) (some 31) rfl rfl (by kernel_rfl) (by kernel_rfl) (by kernel_rfl) (fun _ _ _ h => h) (Or.inl ⟨by rfl, ?_⟩) hS0 ?_
          · rintro w' hq
            have z0 := (hq.cell (p := ⟨lb, 0, none⟩) hltK).trans k0
            have z1 := (hq.cell (p := ⟨lb, 1, none⟩) hltK).trans k1
            have z2 := (hq.cell (p := ⟨lb, 2, none⟩) hltK).trans k2
            have z3 := (hq.cell (p := ⟨lb, 3, none⟩) hltK).trans k3
            have z4 := (hq.cell (p := ⟨OUT, 0, none⟩) hltO).trans o0
            go_simp
          try simp only [Act.put, List.setIfInBounds_toArray, List.set_cons_zero, List.set_cons_succ]
          refine takeD (i := 3) (v := .pointer (some ⟨OUT, 0, none⟩)) (some 32) rfl rfl (by kernel_rfl) (by kernel_rfl) (by kernel_rfl) (fun _ _ _ h => h) (Or.inl ⟨by rfl, ?_⟩) hS0 ?_
          · rintro w' hq
            go_simp
          try simp only [Act.put, List.setIfInBounds_toArray, List.set_cons_zero, List.set_cons_succ]
          refine takeD (i := 4) (v := .int .i64 So) (some 33) rfl rfl (by kernel_rfl) (by kernel_rfl) (by kernel_rfl) (fun _ _ _ h => h) (Or.inl ⟨by rfl, ?_⟩) hS0 ?_
          · rintro w' hq
            have z0 := (hq.cell (p := ⟨lb, 0, none⟩) hltK).trans k0
            have z1 := (hq.cell (p := ⟨lb, 1, none⟩) hltK).trans k1
            have z2 := (hq.cell (p := ⟨lb, 2, none⟩) hltK).trans k2
            have z3 := (hq.cell (p := ⟨lb, 3, none⟩) hltK).trans k3
            have z4 := (hq.cell (p := ⟨OUT, 0, none⟩) hltO).trans o0
            go_simp
          try simp only [Act.put, List.setIfInBounds_toArray, List.set_cons_zero, List.set_cons_succ]
          refine takeD (i := 7) (v := .pointer (some ⟨lb, 0, none⟩)) (some 36) rfl rfl (by kernel_rfl) (by kernel_rfl) (by kernel_rfl) (fun _ _ _ h => h) (Or.inl ⟨by rfl, ?_⟩) hS0 ?_
          · rintro w' hq
            go_simp
          try simp only [Act.put, List.setIfInBounds_toArray, List.set_cons_zero, List.set_cons_succ]
          refine takeD (i := 8) (v := .pointer (some ⟨lb, 1, none⟩)) (some 37) rfl rfl (by kernel_rfl) (by kernel_rfl) (by kernel_rfl) (fun _ _ _ h => h) (Or.inl ⟨by rfl, ?_⟩) hS0 ?_
          · rintro w' hq
            go_simp
          try simp only [Act.put, List.setIfInBounds_toArray, List.set_cons_zero, List.set_cons_succ]
          refine takeD (i := 9) (v := .int .i64 p) (some 38) rfl rfl (by kernel_rfl) (by kernel_rfl) (by kernel_rfl) (fun _ _ _ h => h) (Or.inl ⟨by rfl, ?_⟩) hS0 ?_
          · rintro w' hq
            have z0 := (hq.cell (p := ⟨lb, 0, none⟩) hltK).trans k0
            have z1 := (hq.cell (p := ⟨lb, 1, none⟩) hltK).trans k1
            have z2 := (hq.cell (p := ⟨lb, 2, none⟩) hltK).trans k2
            have z3 := (hq.cell (p := ⟨lb, 3, none⟩) hltK).trans k3
            have z4 := (hq.cell (p := ⟨OUT, 0, none⟩) hltO).trans o0
            go_simp
          try simp only [Act.put, List.setIfInBounds_toArray, List.set_cons_zero, List.set_cons_succ]
          refine takeD (i := 12) (v := .pointer (some ⟨lb, 2, none⟩)) (some 41) rfl rfl (by kernel_rfl) (by kernel_rfl) (by kernel_rfl) (fun _ _ _ h => h) (Or.inl ⟨by rfl, ?_⟩) hS0 ?_
          · rintro w' hq
            go_simp
          try simp only [Act.put, List.setIfInBounds_toArray, List.set_cons_zero, List.set_cons_succ]
          refine takeD (i := 13) (v := .pointer (some ⟨lb, 2, none⟩)) (some 42) rfl rfl (by kernel_rfl) (by kernel_rfl) (by kernel_rfl) (fun _ _ _ h => h) (Or.inl ⟨by rfl, ?_⟩) hS0 ?_
          · rintro w' hq
            go_simp
          try simp only [Act.put, List.setIfInBounds_toArray, List.set_cons_zero, List.set_cons_succ]
          refine takeD (i := 14) (v := .int .i64 b3) (some 43) rfl rfl (by kernel_rfl) (by kernel_rfl) (by kernel_rfl) (fun _ _ _ h => h) (Or.inl ⟨by rfl, ?_⟩) hS0 ?_
          · rintro w' hq
            have z0 := (hq.cell (p := ⟨lb, 0, none⟩) hltK).trans k0
            have z1 := (hq.cell (p := ⟨lb, 1, none⟩) hltK).trans k1
            have z2 := (hq.cell (p := ⟨lb, 2, none⟩) hltK).trans k2
            have z3 := (hq.cell (p := ⟨lb, 3, none⟩) hltK).trans k3
            have z4 := (hq.cell (p := ⟨OUT, 0, none⟩) hltO).trans o0
            go_simp
          try simp only [Act.put, List.setIfInBounds_toArray, List.set_cons_zero, List.set_cons_succ]
          refine takeD (i := 15) (v := .pointer (some ⟨OUT, 0, none⟩)) (some 44) rfl rfl (by kernel_rfl) (by kernel_rfl) (by kernel_rfl) (fun _ _ _ h => h) (Or.inl ⟨by rfl, ?_⟩) hS0 ?_
          · rintro w' hq
            go_simp
          try simp only [Act.put, List.setIfInBounds_toArray, List.set_cons_zero, List.set_cons_succ]
          refine takeD (i := 16) (v := .int .i64 So) (some 45) rfl rfl (by kernel_rfl) (by kernel_rfl) (by kernel_rfl) (fun _ _ _ h => h) (Or.inl ⟨by rfl, ?_⟩) hS0 ?_
          · rintro w' hq
            have z0 := (hq.cell (p := ⟨lb, 0, none⟩) hltK).trans k0
            have z1 := (hq.cell (p := ⟨lb, 1, none⟩) hltK).trans k1
            have z2 := (hq.cell (p := ⟨lb, 2, none⟩) hltK).trans k2
            have z3 := (hq.cell (p := ⟨lb, 3, none⟩) hltK).trans k3
            have z4 := (hq.cell (p := ⟨OUT, 0, none⟩) hltO).trans o0
            go_simp
          try simp only [Act.put, List.setIfInBounds_toArray, List.set_cons_zero, List.set_cons_succ]
          refine takeD (i := 19) (v := .pointer (some ⟨lb, 2, none⟩)) (some 48) rfl rfl (by kernel_rfl) (by kernel_rfl) (by kernel_rfl) (fun _ _ _ h => h) (Or.inl ⟨by rfl, ?_⟩) hS0 ?_
          · rintro w' hq
            go_simp
          try simp only [Act.put, List.setIfInBounds_toArray, List.set_cons_zero, List.set_cons_succ]
          refine takeD (i := 20) (v := .pointer (some ⟨lb, 3, none⟩)) (some 49) rfl rfl (by kernel_rfl) (by kernel_rfl) (by kernel_rfl) (fun _ _ _ h => h) (Or.inl ⟨by rfl, ?_⟩) hS0 ?_
          · rintro w' hq
            go_simp
          try simp only [Act.put, List.setIfInBounds_toArray, List.set_cons_zero, List.set_cons_succ]
          refine takeD (i := 21) (v := .int .i64 q) (some 50) rfl rfl (by kernel_rfl) (by kernel_rfl) (by kernel_rfl) (fun _ _ _ h => h) (Or.inl ⟨by rfl, ?_⟩) hS0 ?_
          · rintro w' hq
            have z0 := (hq.cell (p := ⟨lb, 0, none⟩) hltK).trans k0
            have z1 := (hq.cell (p := ⟨lb, 1, none⟩) hltK).trans k1
            have z2 := (hq.cell (p := ⟨lb, 2, none⟩) hltK).trans k2
            have z3 := (hq.cell (p := ⟨lb, 3, none⟩) hltK).trans k3
            have z4 := (hq.cell (p := ⟨OUT, 0, none⟩) hltO).trans o0
            go_simp
          try simp only [Act.put, List.setIfInBounds_toArray, List.set_cons_zero, List.set_cons_succ]
          refine wpAnyH_ready (rs := [5, 25]) (by kernel_rfl) (by simp) ?_
          refine AllReadyH.cons rfl (fun K hK => ?_) (AllReadyH.cons rfl (fun K hK => ?_) AllReadyH.nil)
          · try rw [if_pos (by rfl)]
            go_simp
            refine (hbr1 _).mono ?_
            rintro e v1 ⟨rfl, he1⟩
            rw [he1]
            clear he1 v1
            refine hK.out _ _ hS0 (fun _ => ?_)
            clear hK K
            try simp only [Act.put, List.setIfInBounds_toArray, List.set_cons_zero, List.set_cons_succ]
            refine takeD (i := 6) (v := .int .i64 (1 + x1)) (some 35) rfl rfl (by kernel_rfl) (by kernel_rfl) (by kernel_rfl) (fun _ _ _ h => h) (Or.inl ⟨by rfl, ?_⟩) hS0 ?_
            · rintro w' hq
              go_simp
            try simp only [Act.put, List.setIfInBounds_toArray, List.set_cons_zero, List.set_cons_succ]
            refine wpAnyH_ready (rs := [10, 25]) (by kernel_rfl) (by simp) ?_
            refine AllReadyH.cons rfl (fun K hK => ?_) (AllReadyH.cons rfl (fun K hK => ?_) AllReadyH.nil)
            · try rw [if_pos (by rfl)]
              go_simp
              refine (hbr2 _).mono ?_
              rintro e v2 ⟨rfl, he2⟩
              rw [he2]
              clear he2 v2
              refine hK.out _ _ hS0 (fun _ => ?_)
              clear hK K
              try simp only [Act.put, List.setIfInBounds_toArray, List.set_cons_zero, List.set_cons_succ]
              refine takeD (i := 11) (v := .int .i64 (1 + x2)) (some 40) rfl rfl (by kernel_rfl) (by kernel_rfl) (by kernel_rfl) (fun _ _ _ h => h) (Or.inl ⟨by rfl, ?_⟩) hS0 ?_
              · rintro w' hq
                go_simp
              try simp only [Act.put, List.setIfInBounds_toArray, List.set_cons_zero, List.set_cons_succ]
              refine wpAnyH_ready (rs := [17, 25]) (by kernel_rfl) (by simp) ?_
              refine AllReadyH.cons rfl (fun K hK => ?_) (AllReadyH.cons rfl (fun K hK => ?_) AllReadyH.nil)
              · try rw [if_pos (by rfl)]
                go_simp
                refine (hbr3 _).mono ?_
                rintro e v3 ⟨rfl, he3⟩
                rw [he3]
                clear he3 v3
                refine hK.out _ _ hS0 (fun _ => ?_)
                clear hK K
                try simp only [Act.put, List.setIfInBounds_toArray, List.set_cons_zero, List.set_cons_succ]
                refine takeD (i := 18) (v := .int .i64 (1 + x3)) (some 47) rfl rfl (by kernel_rfl) (by kernel_rfl) (by kernel_rfl) (fun _ _ _ h => h) (Or.inl ⟨by rfl, ?_⟩) hS0 ?_
                · rintro w' hq
                  go_simp
                try simp only [Act.put, List.setIfInBounds_toArray, List.set_cons_zero, List.set_cons_succ]
                refine wpAnyH_ready (rs := [22, 25]) (by kernel_rfl) (by simp) ?_
                refine AllReadyH.cons rfl (fun K hK => ?_) (AllReadyH.cons rfl (fun K hK => ?_) AllReadyH.nil)
                · try rw [if_pos (by rfl)]
                  go_simp
                  refine (hbr4 _).mono ?_
                  rintro e v4 ⟨rfl, he4⟩
                  rw [he4]
                  clear he4 v4
                  refine hK.out _ _ hS0 (fun _ => ?_)
                  clear hK K
                  try simp only [Act.put, List.setIfInBounds_toArray, List.set_cons_zero, List.set_cons_succ]
                  refine takeD (i := 23) (v := .int .i64 (1 + x4)) (some 52) rfl rfl (by kernel_rfl) (by kernel_rfl) (by kernel_rfl) (fun _ _ _ h => h) (Or.inl ⟨by rfl, ?_⟩) hS0 ?_
                  · rintro w' hq
                    go_simp
                  try simp only [Act.put, List.setIfInBounds_toArray, List.set_cons_zero, List.set_cons_succ]
                  refine wpAnyH_ready (rs := [24, 25]) (by kernel_rfl) (by simp) ?_
                  refine AllReadyH.cons rfl (fun K hK => ?_) (AllReadyH.cons rfl (fun K hK => ?_) AllReadyH.nil)
                  · try rw [if_pos (by rfl)]
                    go_simp
                    refine (link_any (1 + x1) (1 + x2) (1 + x3) (1 + x4) _).mono ?_
                    rintro e v5 ⟨rfl, hb5⟩
                    have hS5 := hS0.trans (hb5.mono (Nat.le_trans HZ0.out hS0.size))
                    refine hK.out _ _ hS5 (fun _ => ?_)
                    clear hK K
                    try simp only [Act.put, List.setIfInBounds_toArray, List.set_cons_zero, List.set_cons_succ]
                    refine wpAnyH_ready (rs := [25]) (by kernel_rfl) (by simp) ?_
                    refine AllReadyH.cons rfl (fun K hK => ?_) AllReadyH.nil
                    · try rw [if_pos (by rfl)]
                      go_simp
                      have hz6 := Vb.new 43 v5 [.int .i64 0, .int .i64 0, .int .i64 0, .int .i64 0]
                      have hge6 : B0 ≤ v5.heap.size := Nat.le_trans HZ0.out hS5.size
                      have hS6 : Below B0 u0 (v5.alloc (.cells #[.int .i64 0, .int .i64 0, .int .i64 0, .int .i64 0] 43)) := hS5.alloc hge6 _
                      refine hK.out _ _ hS6 (fun _ => ?_)
                      clear hK K
                      try simp only [Act.put, List.setIfInBounds_toArray, List.set_cons_zero, List.set_cons_succ]
                      replace hz6 : Vb 43 (v5.alloc (.cells #[.int .i64 0, .int .i64 0, .int .i64 0, .int .i64 0] 43)) v5.heap.size [.int .i64 0, .int .i64 0, .int .i64 0, .int .i64 0] := hz6
                      generalize v5.alloc (.cells #[.int .i64 0, .int .i64 0, .int .i64 0, .int .i64 0] 43) = v6 at *
                      obtain ⟨g6, hg6⟩ : ∃ x, x = v5.heap.size := ⟨_, rfl⟩
                      rw [← hg6] at hz6 hge6 ⊢
                      clear hg6
                      refine wpAnyH_ready (rs := [26]) (by kernel_rfl) (by simp) ?_
                      refine AllReadyH.cons rfl (fun K hK => ?_) AllReadyH.nil
                      · try rw [if_pos (by rfl)]
                        refine wp_store_vbG (T := 43) (vs := [.int .i64 (1 + x1), .int .i64 (1 + x2), .int .i64 (1 + x3), .int .i64 (1 + x4)]) none rfl (.tmp 6) (.tmp 53) rfl rfl rfl hz6 rfl agg_link rfl ?_
                        intro v7 hn6 hgr hzr
                        have hS7 := below_grown hS6 hgr (Nat.le_trans HZ0.out hS6.size) hge6
                        refine hK.out _ _ hS7 (fun _ => ?_)
                        clear hK K
                        try simp only [Act.put, List.setIfInBounds_toArray, List.set_cons_zero, List.set_cons_succ]
                        refine wpAnyH_done (by kernel_rfl) ?_ _
                        go_wp2_with fail
                        go_meet
                        case rel => exact ⟨g6, rfl, Kp.mk ⟨hn6, HD5.out.trans (hS7.mono HBW.out)⟩⟩
                  · try rw [if_pos (by rfl)]
                    go_simp
                    have hz6 := Vb.new 43 u0 [.int .i64 0, .int .i64 0, .int .i64 0, .int .i64 0]
                    have hge6 : B0 ≤ u0.heap.size := Nat.le_trans HZ0.out hS0.size
                    have hS8 : Below B0 u0 (u0.alloc (.cells #[.int .i64 0, .int .i64 0, .int .i64 0, .int .i64 0] 43)) := hS0.alloc hge6 _
                    refine hK.out _ _ hS8 (fun _ => ?_)
                    clear hK K
                    try simp only [Act.put, List.setIfInBounds_toArray, List.set_cons_zero, List.set_cons_succ]
                    replace hz6 : Vb 43 (u0.alloc (.cells #[.int .i64 0, .int .i64 0, .int .i64 0, .int .i64 0] 43)) u0.heap.size [.int .i64 0, .int .i64 0, .int .i64 0, .int .i64 0] := hz6
                    generalize u0.alloc (.cells #[.int .i64 0, .int .i64 0, .int .i64 0, .int .i64 0] 43) = v8 at *
                    obtain ⟨g6, hg6⟩ : ∃ x, x = u0.heap.size := ⟨_, rfl⟩
                    rw [← hg6] at hz6 hge6 ⊢
                    clear hg6
                    refine wpAnyH_ready (rs := [24]) (by kernel_rfl) (by simp) ?_
                    refine AllReadyH.cons rfl (fun K hK => ?_) AllReadyH.nil
                    · try rw [if_pos (by rfl)]
                      go_simp
                      refine (link_any (1 + x1) (1 + x2) (1 + x3) (1 + x4) _).mono ?_
                      rintro e v9 ⟨rfl, hb9⟩
                      have hS9 := hS8.trans (hb9.mono (Nat.le_trans HZ0.out hS8.size))
                      replace hz6 := hz6.below hb9 hz6.lt
                      refine hK.out _ _ hS9 (fun _ => ?_)
                      clear hK K
                      try simp only [Act.put, List.setIfInBounds_toArray, List.set_cons_zero, List.set_cons_succ]
                      refine wpAnyH_ready (rs := [26]) (by kernel_rfl) (by simp) ?_
                      refine AllReadyH.cons rfl (fun K hK => ?_) AllReadyH.nil
                      · try rw [if_pos (by rfl)]
                        refine wp_store_vbG (T := 43) (vs := [.int .i64 (1 + x1), .int .i64 (1 + x2), .int .i64 (1 + x3), .int .i64 (1 + x4)]) none rfl (.tmp 6) (.tmp 53) rfl rfl rfl hz6 rfl agg_link rfl ?_
                        intro v10 hn6 hgr hzr
                        have hS10 := below_grown hS9 hgr (Nat.le_trans HZ0.out hS9.size) hge6
                        refine hK.out _ _ hS10 (fun _ => ?_)
                        clear hK K
                        try simp only [Act.put, List.setIfInBounds_toArray, List.set_cons_zero, List.set_cons_succ]
                        refine wpAnyH_done (by kernel_rfl) ?_ _
                        go_wp2_with fail
                        go_meet
                        case rel => exact ⟨g6, rfl, Kp.mk ⟨hn6, HD5.out.trans (hS10.mono HBW.out)⟩⟩
                · try rw [if_pos (by rfl)]
                  go_simp
                  have hz6 := Vb.new 43 u0 [.int .i64 0, .int .i64 0, .int .i64 0, .int .i64 0]
                  have hge6 : B0 ≤ u0.heap.size := Nat.le_trans HZ0.out hS0.size
                  have hS11 : Below B0 u0 (u0.alloc (.cells #[.int .i64 0, .int .i64 0, .int .i64 0, .int .i64 0] 43)) := hS0.alloc hge6 _
                  refine hK.out _ _ hS11 (fun _ => ?_)
                  clear hK K
                  try simp only [Act.put, List.setIfInBounds_toArray, List.set_cons_zero, List.set_cons_succ]
                  replace hz6 : Vb 43 (u0.alloc (.cells #[.int .i64 0, .int .i64 0, .int .i64 0, .int .i64 0] 43)) u0.heap.size [.int .i64 0, .int .i64 0, .int .i64 0, .int .i64 0] := hz6
                  generalize u0.alloc (.cells #[.int .i64 0, .int .i64 0, .int .i64 0, .int .i64 0] 43) = v11 at *
                  obtain ⟨g6, hg6⟩ : ∃ x, x = u0.heap.size := ⟨_, rfl⟩
                  rw [← hg6] at hz6 hge6 ⊢
                  clear hg6
                  refine wpAnyH_ready (rs := [22]) (by kernel_rfl) (by simp) ?_
                  refine AllReadyH.cons rfl (fun K hK => ?_) AllReadyH.nil
                  · try rw [if_pos (by rfl)]
                    go_simp
                    refine (hbr4 _).mono ?_
                    rintro e v12 ⟨rfl, he12⟩
                    rw [he12]
                    clear he12 v12
                    refine hK.out _ _ hS11 (fun _ => ?_)
                    clear hK K
                    try simp only [Act.put, List.setIfInBounds_toArray, List.set_cons_zero, List.set_cons_succ]
                    refine takeD (i := 23) (v := .int .i64 (1 + x4)) (some 52) rfl rfl (by kernel_rfl) (by kernel_rfl) (by kernel_rfl) (fun _ _ _ h => h) (Or.inl ⟨by rfl, ?_⟩) hS11 ?_
                    · rintro w' hq
                      go_simp
                    try simp only [Act.put, List.setIfInBounds_toArray, List.set_cons_zero, List.set_cons_succ]
                    refine wpAnyH_ready (rs := [24]) (by kernel_rfl) (by simp) ?_
                    refine AllReadyH.cons rfl (fun K hK => ?_) AllReadyH.nil
                    · try rw [if_pos (by rfl)]
                      go_simp
                      refine (link_any (1 + x1) (1 + x2) (1 + x3) (1 + x4) _).mono ?_
                      rintro e v13 ⟨rfl, hb13⟩
                      have hS13 := hS11.trans (hb13.mono (Nat.le_trans HZ0.out hS11.size))
                      replace hz6 := hz6.below hb13 hz6.lt
                      refine hK.out _ _ hS13 (fun _ => ?_)
                      clear hK K
                      try simp only [Act.put, List.setIfInBounds_toArray, List.set_cons_zero, List.set_cons_succ]
                      refine wpAnyH_ready (rs := [26]) (by kernel_rfl) (by simp) ?_
                      refine AllReadyH.cons rfl (fun K hK => ?_) AllReadyH.nil
                      · try rw [if_pos (by rfl)]
                        refine wp_store_vbG (T := 43) (vs := [.int .i64 (1 + x1), .int .i64 (1 + x2), .int .i64 (1 + x3), .int .i64 (1 + x4)]) none rfl (.tmp 6) (.tmp 53) rfl rfl rfl hz6 rfl agg_link rfl ?_
                        intro v14 hn6 hgr hzr
                        have hS14 := below_grown hS13 hgr (Nat.le_trans HZ0.out hS13.size) hge6
                        refine hK.out _ _ hS14 (fun _ => ?_)
                        clear hK K
                        try simp only [Act.put, List.setIfInBounds_toArray, List.set_cons_zero, List.set_cons_succ]
                        refine wpAnyH_done (by kernel_rfl) ?_ _
                        go_wp2_with fail
                        go_meet
                        case rel => exact ⟨g6, rfl, Kp.mk ⟨hn6, HD5.out.trans (hS14.mono HBW.out)⟩⟩
              · try rw [if_pos (by rfl)]
                go_simp
                have hz6 := Vb.new 43 u0 [.int .i64 0, .int .i64 0, .int .i64 0, .int .i64 0]
                have hge6 : B0 ≤ u0.heap.size := Nat.le_trans HZ0.out hS0.size
                have hS15 : Below B0 u0 (u0.alloc (.cells #[.int .i64 0, .int .i64 0, .int .i64 0, .int .i64 0] 43)) := hS0.alloc hge6 _
                refine hK.out _ _ hS15 (fun _ => ?_)
                clear hK K
                try simp only [Act.put, List.setIfInBounds_toArray, List.set_cons_zero, List.set_cons_succ]
                replace hz6 : Vb 43 (u0.alloc (.cells #[.int .i64 0, .int .i64 0, .int .i64 0, .int .i64 0] 43)) u0.heap.size [.int .i64 0, .int .i64 0, .int .i64 0, .int .i64 0] := hz6
                generalize u0.alloc (.cells #[.int .i64 0, .int .i64 0, .int .i64 0, .int .i64 0] 43) = v15 at *
                obtain ⟨g6, hg6⟩ : ∃ x, x = u0.heap.size := ⟨_, rfl⟩
                rw [← hg6] at hz6 hge6 ⊢
                clear hg6
                refine wpAnyH_ready (rs := [17]) (by kernel_rfl) (by simp) ?_
                refine AllReadyH.cons rfl (fun K hK => ?_) AllReadyH.nil
                · try rw [if_pos (by rfl)]
                  go_simp
                  refine (hbr3 _).mono ?_
                  rintro e v16 ⟨rfl, he16⟩
                  rw [he16]
                  clear he16 v16
                  refine hK.out _ _ hS15 (fun _ => ?_)
                  clear hK K
                  try simp only [Act.put, List.setIfInBounds_toArray, List.set_cons_zero, List.set_cons_succ]
                  refine takeD (i := 18) (v := .int .i64 (1 + x3)) (some 47) rfl rfl (by kernel_rfl) (by kernel_rfl) (by kernel_rfl) (fun _ _ _ h => h) (Or.inl ⟨by rfl, ?_⟩) hS15 ?_
                  · rintro w' hq
                    go_simp
                  try simp only [Act.put, List.setIfInBounds_toArray, List.set_cons_zero, List.set_cons_succ]
                  refine wpAnyH_ready (rs := [22]) (by kernel_rfl) (by simp) ?_
                  refine AllReadyH.cons rfl (fun K hK => ?_) AllReadyH.nil
                  · try rw [if_pos (by rfl)]
                    go_simp
                    refine (hbr4 _).mono ?_
                    rintro e v17 ⟨rfl, he17⟩
                    rw [he17]
                    clear he17 v17
                    refine hK.out _ _ hS15 (fun _ => ?_)
                    clear hK K
                    try simp only [Act.put, List.setIfInBounds_toArray, List.set_cons_zero, List.set_cons_succ]
                    refine takeD (i := 23) (v := .int .i64 (1 + x4)) (some 52) rfl rfl (by kernel_rfl) (by kernel_rfl) (by kernel_rfl) (fun _ _ _ h => h) (Or.inl ⟨by rfl, ?_⟩) hS15 ?_
                    · rintro w' hq
                      go_simp
                    try simp only [Act.put, List.setIfInBounds_toArray, List.set_cons_zero, List.set_cons_succ]
                    refine wpAnyH_ready (rs := [24]) (by kernel_rfl) (by simp) ?_
                    refine AllReadyH.cons rfl (fun K hK => ?_) AllReadyH.nil
                    · try rw [if_pos (by rfl)]
                      go_simp
                      refine (link_any (1 + x1) (1 + x2) (1 + x3) (1 + x4) _).mono ?_
                      rintro e v18 ⟨rfl, hb18⟩
                      have hS18 := hS15.trans (hb18.mono (Nat.le_trans HZ0.out hS15.size))
                      replace hz6 := hz6.below hb18 hz6.lt
                      refine hK.out _ _ hS18 (fun _ => ?_)
                      clear hK K
                      try simp only [Act.put, List.setIfInBounds_toArray, List.set_cons_zero, List.set_cons_succ]
                      refine wpAnyH_ready (rs := [26]) (by kernel_rfl) (by simp) ?_
                      refine AllReadyH.cons rfl (fun K hK => ?_) AllReadyH.nil
                      · try rw [if_pos (by rfl)]
                        refine wp_store_vbG (T := 43) (vs := [.int .i64 (1 + x1), .int .i64 (1 + x2), .int .i64 (1 + x3), .int .i64 (1 + x4)]) none rfl (.tmp 6) (.tmp 53) rfl rfl rfl hz6 rfl agg_link rfl ?_
                        intro v19 hn6 hgr hzr
                        have hS19 := below_grown hS18 hgr (Nat.le_trans HZ0.out hS18.size) hge6
                        refine hK.out _ _ hS19 (fun _ => ?_)
                        clear hK K
                        try simp only [Act.put, List.setIfInBounds_toArray, List.set_cons_zero, List.set_cons_succ]
                        refine wpAnyH_done (by kernel_rfl) ?_ _
                        go_wp2_with fail
                        go_meet
                        case rel => exact ⟨g6, rfl, Kp.mk ⟨hn6, HD5.out.trans (hS19.mono HBW.out)⟩⟩
            · try rw [if_pos (by rfl)]
              go_simp
              have hz6 := Vb.new 43 u0 [.int .i64 0, .int .i64 0, .int .i64 0, .int .i64 0]
              have hge6 : B0 ≤ u0.heap.size := Nat.le_trans HZ0.out hS0.size
              have hS20 : Below B0 u0 (u0.alloc (.cells #[.int .i64 0, .int .i64 0, .int .i64 0, .int .i64 0] 43)) := hS0.alloc hge6 _
              refine hK.out _ _ hS20 (fun _ => ?_)
              clear hK K
              try simp only [Act.put, List.setIfInBounds_toArray, List.set_cons_zero, List.set_cons_succ]
              replace hz6 : Vb 43 (u0.alloc (.cells #[.int .i64 0, .int .i64 0, .int .i64 0, .int .i64 0] 43)) u0.heap.size [.int .i64 0, .int .i64 0, .int .i64 0, .int .i64 0] := hz6
              generalize u0.alloc (.cells #[.int .i64 0, .int .i64 0, .int .i64 0, .int .i64 0] 43) = v20 at *
              obtain ⟨g6, hg6⟩ : ∃ x, x = u0.heap.size := ⟨_, rfl⟩
              rw [← hg6] at hz6 hge6 ⊢
              clear hg6
              refine wpAnyH_ready (rs := [10]) (by kernel_rfl) (by simp) ?_
              refine AllReadyH.cons rfl (fun K hK => ?_) AllReadyH.nil
              · try rw [if_pos (by rfl)]
                go_simp
                refine (hbr2 _).mono ?_
                rintro e v21 ⟨rfl, he21⟩
                rw [he21]
                clear he21 v21
                refine hK.out _ _ hS20 (fun _ => ?_)
                clear hK K
                try simp only [Act.put, List.setIfInBounds_toArray, List.set_cons_zero, List.set_cons_succ]
                refine takeD (i := 11) (v := .int .i64 (1 + x2)) (some 40) rfl rfl (by kernel_rfl) (by kernel_rfl) (by kernel_rfl) (fun _ _ _ h => h) (Or.inl ⟨by rfl, ?_⟩) hS20 ?_
                · rintro w' hq
                  go_simp
                try simp only [Act.put, List.setIfInBounds_toArray, List.set_cons_zero, List.set_cons_succ]
                refine wpAnyH_ready (rs := [17]) (by kernel_rfl) (by simp) ?_
                refine AllReadyH.cons rfl (fun K hK => ?_) AllReadyH.nil
                · try rw [if_pos (by rfl)]
                  go_simp
                  refine (hbr3 _).mono ?_
                  rintro e v22 ⟨rfl, he22⟩
                  rw [he22]
                  clear he22 v22
                  refine hK.out _ _ hS20 (fun _ => ?_)
                  clear hK K
                  try simp only [Act.put, List.setIfInBounds_toArray, List.set_cons_zero, List.set_cons_succ]
                  refine takeD (i := 18) (v := .int .i64 (1 + x3)) (some 47) rfl rfl (by kernel_rfl) (by kernel_rfl) (by kernel_rfl) (fun _ _ _ h => h) (Or.inl ⟨by rfl, ?_⟩) hS20 ?_
                  · rintro w' hq
                    go_simp
                  try simp only [Act.put, List.setIfInBounds_toArray, List.set_cons_zero, List.set_cons_succ]
                  refine wpAnyH_ready (rs := [22]) (by kernel_rfl) (by simp) ?_
                  refine AllReadyH.cons rfl (fun K hK => ?_) AllReadyH.nil
                  · try rw [if_pos (by rfl)]
                    go_simp
                    refine (hbr4 _).mono ?_
                    rintro e v23 ⟨rfl, he23⟩
                    rw [he23]
                    clear he23 v23
                    refine hK.out _ _ hS20 (fun _ => ?_)
                    clear hK K
                    try simp only [Act.put, List.setIfInBounds_toArray, List.set_cons_zero, List.set_cons_succ]
                    refine takeD (i := 23) (v := .int .i64 (1 + x4)) (some 52) rfl rfl (by kernel_rfl) (by kernel_rfl) (by kernel_rfl) (fun _ _ _ h => h) (Or.inl ⟨by rfl, ?_⟩) hS20 ?_
                    · rintro w' hq
                      go_simp
                    try simp only [Act.put, List.setIfInBounds_toArray, List.set_cons_zero, List.set_cons_succ]
                    refine wpAnyH_ready (rs := [24]) (by kernel_rfl) (by simp) ?_
                    refine AllReadyH.cons rfl (fun K hK => ?_) AllReadyH.nil
                    · try rw [if_pos (by rfl)]
                      go_simp
                      refine (link_any (1 + x1) (1 + x2) (1 + x3) (1 + x4) _).mono ?_
                      rintro e v24 ⟨rfl, hb24⟩
                      have hS24 := hS20.trans (hb24.mono (Nat.le_trans HZ0.out hS20.size))
                      replace hz6 := hz6.below hb24 hz6.lt
                      refine hK.out _ _ hS24 (fun _ => ?_)
                      clear hK K
                      try simp only [Act.put, List.setIfInBounds_toArray, List.set_cons_zero, List.set_cons_succ]
                      refine wpAnyH_ready (rs := [26]) (by kernel_rfl) (by simp) ?_
                      refine AllReadyH.cons rfl (fun K hK => ?_) AllReadyH.nil
                      · try rw [if_pos (by rfl)]
                        refine wp_store_vbG (T := 43) (vs := [.int .i64 (1 + x1), .int .i64 (1 + x2), .int .i64 (1 + x3), .int .i64 (1 + x4)]) none rfl (.tmp 6) (.tmp 53) rfl rfl rfl hz6 rfl agg_link rfl ?_
                        intro v25 hn6 hgr hzr
                        have hS25 := below_grown hS24 hgr (Nat.le_trans HZ0.out hS24.size) hge6
                        refine hK.out _ _ hS25 (fun _ => ?_)
                        clear hK K
                        try simp only [Act.put, List.setIfInBounds_toArray, List.set_cons_zero, List.set_cons_succ]
                        refine wpAnyH_done (by kernel_rfl) ?_ _
                        go_wp2_with fail
                        go_meet
                        case rel => exact ⟨g6, rfl, Kp.mk ⟨hn6, HD5.out.trans (hS25.mono HBW.out)⟩⟩
          · try rw [if_pos (by rfl)]
            go_simp
            have hz6 := Vb.new 43 u0 [.int .i64 0, .int .i64 0, .int .i64 0, .int .i64 0]
            have hge6 : B0 ≤ u0.heap.size := Nat.le_trans HZ0.out hS0.size
            have hS26 : Below B0 u0 (u0.alloc (.cells #[.int .i64 0, .int .i64 0, .int .i64 0, .int .i64 0] 43)) := hS0.alloc hge6 _
            refine hK.out _ _ hS26 (fun _ => ?_)
            clear hK K
            try simp only [Act.put, List.setIfInBounds_toArray, List.set_cons_zero, List.set_cons_succ]
            replace hz6 : Vb 43 (u0.alloc (.cells #[.int .i64 0, .int .i64 0, .int .i64 0, .int .i64 0] 43)) u0.heap.size [.int .i64 0, .int .i64 0, .int .i64 0, .int .i64 0] := hz6
            generalize u0.alloc (.cells #[.int .i64 0, .int .i64 0, .int .i64 0, .int .i64 0] 43) = v26 at *
            obtain ⟨g6, hg6⟩ : ∃ x, x = u0.heap.size := ⟨_, rfl⟩
            rw [← hg6] at hz6 hge6 ⊢
            clear hg6
            refine wpAnyH_ready (rs := [5]) (by kernel_rfl) (by simp) ?_
            refine AllReadyH.cons rfl (fun K hK => ?_) AllReadyH.nil
            · try rw [if_pos (by rfl)]
              go_simp
              refine (hbr1 _).mono ?_
              rintro e v27 ⟨rfl, he27⟩
              rw [he27]
              clear he27 v27
              refine hK.out _ _ hS26 (fun _ => ?_)
              clear hK K
              try simp only [Act.put, List.setIfInBounds_toArray, List.set_cons_zero, List.set_cons_succ]
              refine takeD (i := 6) (v := .int .i64 (1 + x1)) (some 35) rfl rfl (by kernel_rfl) (by kernel_rfl) (by kernel_rfl) (fun _ _ _ h => h) (Or.inl ⟨by rfl, ?_⟩) hS26 ?_
              · rintro w' hq
                go_simp
              try simp only [Act.put, List.setIfInBounds_toArray, List.set_cons_zero, List.set_cons_succ]
              refine wpAnyH_ready (rs := [10]) (by kernel_rfl) (by simp) ?_
              refine AllReadyH.cons rfl (fun K hK => ?_) AllReadyH.nil
              · try rw [if_pos (by rfl)]
                go_simp
                refine (hbr2 _).mono ?_
                rintro e v28 ⟨rfl, he28⟩
                rw [he28]
                clear he28 v28
                refine hK.out _ _ hS26 (fun _ => ?_)
                clear hK K
                try simp only [Act.put, List.setIfInBounds_toArray, List.set_cons_zero, List.set_cons_succ]
                refine takeD (i := 11) (v := .int .i64 (1 + x2)) (some 40) rfl rfl (by kernel_rfl) (by kernel_rfl) (by kernel_rfl) (fun _ _ _ h => h) (Or.inl ⟨by rfl, ?_⟩) hS26 ?_
                · rintro w' hq
                  go_simp
                try simp only [Act.put, List.setIfInBounds_toArray, List.set_cons_zero, List.set_cons_succ]
                refine wpAnyH_ready (rs := [17]) (by kernel_rfl) (by simp) ?_
                refine AllReadyH.cons rfl (fun K hK => ?_) AllReadyH.nil
                · try rw [if_pos (by rfl)]
                  go_simp
                  refine (hbr3 _).mono ?_
                  rintro e v29 ⟨rfl, he29⟩
                  rw [he29]
                  clear he29 v29
                  refine hK.out _ _ hS26 (fun _ => ?_)
                  clear hK K
                  try simp only [Act.put, List.setIfInBounds_toArray, List.set_cons_zero, List.set_cons_succ]
                  refine takeD (i := 18) (v := .int .i64 (1 + x3)) (some 47) rfl rfl (by kernel_rfl) (by kernel_rfl) (by kernel_rfl) (fun _ _ _ h => h) (Or.inl ⟨by rfl, ?_⟩) hS26 ?_
                  · rintro w' hq
                    go_simp
                  try simp only [Act.put, List.setIfInBounds_toArray, List.set_cons_zero, List.set_cons_succ]
                  refine wpAnyH_ready (rs := [22]) (by kernel_rfl) (by simp) ?_
                  refine AllReadyH.cons rfl (fun K hK => ?_) AllReadyH.nil
                  · try rw [if_pos (by rfl)]
                    go_simp
                    refine (hbr4 _).mono ?_
                    rintro e v30 ⟨rfl, he30⟩
                    rw [he30]
                    clear he30 v30
                    refine hK.out _ _ hS26 (fun _ => ?_)
                    clear hK K
                    try simp only [Act.put, List.setIfInBounds_toArray, List.set_cons_zero, List.set_cons_succ]
                    refine takeD (i := 23) (v := .int .i64 (1 + x4)) (some 52) rfl rfl (by kernel_rfl) (by kernel_rfl) (by kernel_rfl) (fun _ _ _ h => h) (Or.inl ⟨by rfl, ?_⟩) hS26 ?_
                    · rintro w' hq
                      go_simp
                    try simp only [Act.put, List.setIfInBounds_toArray, List.set_cons_zero, List.set_cons_succ]
                    refine wpAnyH_ready (rs := [24]) (by kernel_rfl) (by simp) ?_
                    refine AllReadyH.cons rfl (fun K hK => ?_) AllReadyH.nil
                    · try rw [if_pos (by rfl)]
                      go_simp
                      refine (link_any (1 + x1) (1 + x2) (1 + x3) (1 + x4) _).mono ?_
                      rintro e v31 ⟨rfl, hb31⟩
                      have hS31 := hS26.trans (hb31.mono (Nat.le_trans HZ0.out hS26.size))
                      replace hz6 := hz6.below hb31 hz6.lt
                      refine hK.out _ _ hS31 (fun _ => ?_)
                      clear hK K
                      try simp only [Act.put, List.setIfInBounds_toArray, List.set_cons_zero, List.set_cons_succ]
                      refine wpAnyH_ready (rs := [26]) (by kernel_rfl) (by simp) ?_
                      refine AllReadyH.cons rfl (fun K hK => ?_) AllReadyH.nil
                      · try rw [if_pos (by rfl)]
                        refine wp_store_vbG (T := 43) (vs := [.int .i64 (1 + x1), .int .i64 (1 + x2), .int .i64 (1 + x3), .int .i64 (1 + x4)]) none rfl (.tmp 6) (.tmp 53) rfl rfl rfl hz6 rfl agg_link rfl ?_
                        intro v32 hn6 hgr hzr
                        have hS32 := below_grown hS31 hgr (Nat.le_trans HZ0.out hS31.size) hge6
                        refine hK.out _ _ hS32 (fun _ => ?_)
                        clear hK K
                        try simp only [Act.put, List.setIfInBounds_toArray, List.set_cons_zero, List.set_cons_succ]
                        refine wpAnyH_done (by kernel_rfl) ?_ _
                        go_wp2_with fail
                        go_meet
                        case rel => exact ⟨g6, rfl, Kp.mk ⟨hn6, HD5.out.trans (hS32.mono HBW.out)⟩⟩
        case rest =>
          obtain ⟨g6, rfl, HG6⟩ := hcut
          have hE6 := HE5.out.step HG6.out.2
          have hk6 := HG6.out.1
          clear hk hE5 HE5 HK5 HG6 hbr1 hbr2 hbr3 hbr4 hwr1 hwr2 hwr3 hwr4
          generalize 1 + x1 = y1 at *
          generalize 1 + x2 = y2 at *
          generalize 1 + x3 = y3 at *
          generalize 1 + x4 = y4 at *
          clear j1 j2 j3 j4 m1 m2 m3 m4
          obtain ⟨c0, c1', c2⟩ := hE6.cells
          have HE6 := Kp.mk hE6
          go_upto_region 8 with fail
          have hm6 : Vb 24 (wc.alloc (.cells #[.int .i64 So, .slice A1 n1 c1] 24)) wc.heap.size [.int .i64 So, .slice A1 n1 c1] := Vb.new 24 wc [.int .i64 So, .slice A1 n1 c1]
          have hb6 := below_alloc wc (.cells #[.int .i64 So, .slice A1 n1 c1] 24)
          have hE7 := hE6.step hb6
          have hk6l := hk6.lt
          replace hk6 := hk6.below hb6 hk6.lt
          have hL6 : Lr (wc.alloc (.cells #[.int .i64 So, .slice A1 n1 c1] 24)) wc.heap.size A1 n1 c1 l1 := hE6.l.lr.below hb6
          have HN := Kp.mk (show n1 ≤ 12 by have := good_len hE6.d; have := hE6.l.len; omega)
          have hMl : wc.heap.size < (wc.alloc (.cells #[.int .i64 So, .slice A1 n1 c1] 24)).heap.size := by simp
          have hltO : OUT < wc.heap.size := hE6.o.lt
          have hlt6 : g6 < wc.heap.size := hk6l
          clear c0 c1' c2 hE6 hk6l
          generalize wc.alloc (.cells #[.int .i64 So, .slice A1 n1 c1] 24) = w6 at *
          obtain ⟨MORE, hM0⟩ : ∃ x, x = wc.heap.size := ⟨_, rfl⟩
          rw [← hM0] at hm6 hb6 hL6 hMl hltO hlt6 ⊢
          have HM0 := Kp.mk hM0
          clear hM0
          go_cut [] from 55 to 66 (fun wx => ∃ (A9 : Option Addr) (n9 c9 : Nat), Kp (Vb 24 wx MORE [.int .i64 So, .slice A9 n9 c9] ∧ Ol wx w.heap.size (.slice A9 n9 c9) n9 (l1 ++ [⟨y1, y2, y3, y4⟩]) ∧ Below MORE wc wx))
          case first =>
            obtain ⟨B0, hB0⟩ : ∃ x, x = w6.heap.size := ⟨_, rfl⟩
            have hS0 : Below B0 w6.drew w6.drew := Below.refl _ _
            have HZ0 := Kp.mk (show B0 ≤ w6.drew.heap.size from Nat.le_of_eq hB0)
            have o1 : w6.drew.cell? ⟨OUT, 1, none⟩ = some (.slice A1 n1 c1) := hE7.o.cell 1 rfl
            have k0 : w6.drew.cell? ⟨g6, 0, none⟩ = some (.int .i64 y1) := hk6.cell 0 rfl
            have k1 : w6.drew.cell? ⟨g6, 1, none⟩ = some (.int .i64 y2) := hk6.cell 1 rfl
            have k2 : w6.drew.cell? ⟨g6, 2, none⟩ = some (.int .i64 y3) := hk6.cell 2 rfl
            have k3 : w6.drew.cell? ⟨g6, 3, none⟩ = some (.int .i64 y4) := hk6.cell 3 rfl
            have HMB2 := Kp.mk (show MORE < B0 by omega)
            have HMB := Kp.mk (show MORE ≤ B0 by omega)
            have HWB := Kp.mk (show w.heap.size ≤ B0 by have := hE7.b.size; omega)
            have HM := Kp.mk (show Vb 24 w6.drew MORE [.int .i64 So, .slice A1 n1 c1] from hm6)
            have HL := Kp.mk (show Lr w6.drew MORE A1 n1 c1 l1 from hL6)
            have HB6 := Kp.mk (show Below MORE wc w6.drew from hb6.drew)
            clear hB0 hE7 hk6 hm6 hb6 hL6 hMl HE6
            have hT0 : Below MORE w6.drew w6.drew := Below.refl _ _
            refine wp_region_held_drew (S := fun X => Below MORE w6.drew X) (by kernel_rfl) hT0 (fun _ => ?_)
            generalize w6.drew = u0 at *
            refine takeD (i := 1) (v := .pointer (some ⟨OUT, 1, none⟩)) (some 56) rfl rfl (by kernel_rfl) (by kernel_rfl) (by kernel_rfl) (fun _ _ _ h => h) (Or.inl ⟨by rfl, ?_⟩) hT0 ?_
            · rintro w' hq
              go_simp
            try simp only [Act.put, List.setIfInBounds_toArray, List.set_cons_zero, List.set_cons_succ]
            refine takeD (i := 2) (v := .slice A1 n1 c1) (some 57) rfl rfl (by kernel_rfl) (by kernel_rfl) (by kernel_rfl) (fun _ _ _ h => h) (Or.inl ⟨by rfl, ?_⟩) hT0 ?_
            · rintro w' hq
              have z0 := (hq.cell (p := ⟨OUT, 1, none⟩) hltO).trans o1
              have z1 := (hq.cell (p := ⟨g6, 0, none⟩) hlt6).trans k0
              have z2 := (hq.cell (p := ⟨g6, 1, none⟩) hlt6).trans k1
              have z3 := (hq.cell (p := ⟨g6, 2, none⟩) hlt6).trans k2
              have z4 := (hq.cell (p := ⟨g6, 3, none⟩) hlt6).trans k3
              go_simp
            try simp only [Act.put, List.setIfInBounds_toArray, List.set_cons_zero, List.set_cons_succ]
            refine takeD (i := 4) (v := .agg #[.int .i64 y1, .int .i64 y2, .int .i64 y3, .int .i64 y4]) (some 59) rfl rfl (by kernel_rfl) (by kernel_rfl) (by kernel_rfl) (fun _ _ _ h => h) (Or.inl ⟨by rfl, ?_⟩) hT0 ?_
            · rintro w' hq
              have z0 := (hq.cell (p := ⟨OUT, 1, none⟩) hltO).trans o1
              have z1 := (hq.cell (p := ⟨g6, 0, none⟩) hlt6).trans k0
              have z2 := (hq.cell (p := ⟨g6, 1, none⟩) hlt6).trans k1
              have z3 := (hq.cell (p := ⟨g6, 2, none⟩) hlt6).trans k2
              have z4 := (hq.cell (p := ⟨g6, 3, none⟩) hlt6).trans k3
              go_simp
            try simp only [Act.put, List.setIfInBounds_toArray, List.set_cons_zero, List.set_cons_succ]
            refine wpAnyH_ready (rs := [0, 5]) (by kernel_rfl) (by simp) ?_
            refine AllReadyH.cons rfl (fun K hK => ?_) (AllReadyH.cons rfl (fun K hK => ?_) AllReadyH.nil)
            · try rw [if_pos (by rfl)]
              have hsz1 : B0 ≤ u0.heap.size := Nat.le_trans HZ0.out hS0.size
              go_simp
              have hO : Ol (u0.alloc (.cells #[] 43)) u0.heap.size (.slice (some ⟨u0.heap.size, 0, none⟩) 0 0) 0 [] := World.ownsRow_made u0 #[] 0 (Nat.le_refl _) (Nat.zero_le _) rfl
              have hbn := below_alloc u0 (.cells #[] 43)
              replace hO := ol_lower hO hsz1
              have hS1 := hS0.trans (hbn.mono hsz1)
              clear hbn
              refine hK.out _ _ (hS1.mono HMB.out) (fun _ => ?_)
              clear hK K
              try simp only [Act.put, List.setIfInBounds_toArray, List.set_cons_zero, List.set_cons_succ]
              generalize u0.alloc (.cells #[] 43) = v1 at *
              obtain ⟨go, hgo⟩ : ∃ x, x = u0.heap.size := ⟨_, rfl⟩
              rw [← hgo] at hO ⊢
              clear hgo hsz1
              refine wpAnyH_ready (rs := [3, 5]) (by kernel_rfl) (by simp) ?_
              refine AllReadyH.cons rfl (fun K hK => ?_) (AllReadyH.cons rfl (fun K hK => ?_) AllReadyH.nil)
              · try rw [if_pos (by rfl)]
                have hsz2 : B0 ≤ v1.heap.size := Nat.le_trans HZ0.out hS1.size
                obtain ⟨A5, c5, v2, hrun, hO5, hb5, hg5⟩ := run_appendL 22 hO (HL.out.below' hS1 HMB.out) (by have := HN.out; omega) hsz2
                rw [Nat.zero_add] at hrun hO5
                have hS2 := hS1.trans hb5
                refine op_run_appendG (.tmp 55) (.tmp 57) rfl rfl rfl hrun (hK.out _ _ (hS2.mono HMB.out) (fun _ => ?_))
                clear hK K hrun hb5 hg5 hO hsz2
                try simp only [Act.put, List.setIfInBounds_toArray, List.set_cons_zero, List.set_cons_succ]
                have hO := hO5
                clear hO5
                refine wpAnyH_ready (rs := [5]) (by kernel_rfl) (by simp) ?_
                refine AllReadyH.cons rfl (fun K hK => ?_) AllReadyH.nil
                · try rw [if_pos (by rfl)]
                  have hsz3 : B0 ≤ v2.heap.size := Nat.le_trans HZ0.out hS2.size
                  go_simp
                  have hlit : Vb 43 (v2.alloc (.cells #[.int .i64 y1, .int .i64 y2, .int .i64 y3, .int .i64 y4] 43)) v2.heap.size [.int .i64 y1, .int .i64 y2, .int .i64 y3, .int .i64 y4] := Vb.new 43 v2 [.int .i64 y1, .int .i64 y2, .int .i64 y3, .int .i64 y4]
                  have hbn := below_alloc v2 (.cells #[.int .i64 y1, .int .i64 y2, .int .i64 y3, .int .i64 y4] 43)
                  have hne : ∀ k, (Value.slice A5 n1 c5).ownBlock = some k → k ≠ v2.heap.size := fun k hk => by have := (World.ownsRow.lt hO k hk).2; omega
                  replace hO := hO.below hbn
                  have hS3 := hS2.trans (hbn.mono hsz3)
                  clear hbn
                  refine hK.out _ _ (hS3.mono HMB.out) (fun _ => ?_)
                  clear hK K
                  try simp only [Act.put, List.setIfInBounds_toArray, List.set_cons_zero, List.set_cons_succ]
                  generalize v2.alloc (.cells #[.int .i64 y1, .int .i64 y2, .int .i64 y3, .int .i64 y4] 43) = v3 at *
                  obtain ⟨gl, hgl⟩ : ∃ x, x = v2.heap.size := ⟨_, rfl⟩
                  rw [← hgl] at hlit hne ⊢
                  clear hgl hsz3
                  refine wpAnyH_ready (rs := [6]) (by kernel_rfl) (by simp) ?_
                  refine AllReadyH.cons rfl (fun K hK => ?_) AllReadyH.nil
                  · try rw [if_pos (by rfl)]
                    have hsz4 : B0 ≤ v3.heap.size := Nat.le_trans HZ0.out hS3.size
                    have hLl : Lr v3 (gl + 1) (some ⟨gl, 0, none⟩) 1 1 [⟨y1, y2, y3, y4⟩] := lr_vb (ls := [⟨y1, y2, y3, y4⟩]) (rest := []) hlit (Nat.lt_succ_self _) (Nat.le_refl _) (by simp [maxLen])
                    obtain ⟨A6, c6, v4, hrun, hO6, hb6, hg6⟩ := run_appendL 22 hO hLl (by have := HN.out; omega) hsz4
                    have hS4 := hS3.trans hb6
                    refine op_run_appendG (.tmp 58) (.tmp 60) rfl rfl rfl hrun (hK.out _ _ (hS4.mono HMB.out) (fun _ => ?_))
                    clear hK K hrun hLl hg6 hb6 hsz4
                    try simp only [Act.put, List.setIfInBounds_toArray, List.set_cons_zero, List.set_cons_succ]
                    refine takeD (i := 7) (v := .pointer (some ⟨MORE, 1, none⟩)) (some 62) rfl rfl (by kernel_rfl) (by kernel_rfl) (by kernel_rfl) (fun _ _ _ h => h) (Or.inl ⟨by rfl, ?_⟩) (hS4.mono HMB.out) ?_
                    · rintro w' hq
                      go_simp
                    try simp only [Act.put, List.setIfInBounds_toArray, List.set_cons_zero, List.set_cons_succ]
                    refine wpAnyH_ready (rs := [8]) (by kernel_rfl) (by simp) ?_
                    refine AllReadyH.cons rfl (fun K hK => ?_) AllReadyH.nil
                    · try rw [if_pos (by rfl)]
                      have hsz5 : B0 ≤ v4.heap.size := Nat.le_trans HZ0.out hS4.size
                      have hM : Vb 24 v4 MORE [.int .i64 So, .slice A1 n1 c1] := HM.out.below hS4 HMB2.out
                      have f1 := hM.free 1
                      have c1x := hM.cell 1 rfl
                      have hgm := grownBy_set v4 MORE 1 (.slice A6 (n1 + 1) c6)
                      have hM2 := hM.set 1 (.slice A6 (n1 + 1) c6)
                      have hO9 := ol_other hO6 hM (by decide) hgm
                      have hT9 : Below MORE u0 (v4.setCell ⟨MORE, 1, none⟩ (.slice A6 (n1 + 1) c6)) := below_grown (hS4.mono HMB.out) hgm (Nat.le_trans (Nat.le_trans HMB.out HZ0.out) hS4.size) (Nat.le_refl _)
                      go_simp
                      refine hK.out _ _ hT9 (fun _ => ?_)
                      clear hK K
                      try simp only [Act.put, List.setIfInBounds_toArray, List.set_cons_zero, List.set_cons_succ]
                      refine wpAnyH_done (by kernel_rfl) ?_ _
                      go_wp2_with fail
                      go_meet
                      case rel => exact ⟨A6, n1 + 1, c6, Kp.mk ⟨hM2, ol_lower hO9 HWB.out, HB6.out.trans hT9⟩⟩
              · try rw [if_pos (by rfl)]
                have hsz6 : B0 ≤ v1.heap.size := Nat.le_trans HZ0.out hS1.size
                go_simp
                have hlit : Vb 43 (v1.alloc (.cells #[.int .i64 y1, .int .i64 y2, .int .i64 y3, .int .i64 y4] 43)) v1.heap.size [.int .i64 y1, .int .i64 y2, .int .i64 y3, .int .i64 y4] := Vb.new 43 v1 [.int .i64 y1, .int .i64 y2, .int .i64 y3, .int .i64 y4]
                have hbn := below_alloc v1 (.cells #[.int .i64 y1, .int .i64 y2, .int .i64 y3, .int .i64 y4] 43)
                have hne : ∀ k, (Value.slice (some ⟨go, 0, none⟩) 0 0).ownBlock = some k → k ≠ v1.heap.size := fun k hk => by have := (World.ownsRow.lt hO k hk).2; omega
                replace hO := hO.below hbn
                have hS6 := hS1.trans (hbn.mono hsz6)
                clear hbn
                refine hK.out _ _ (hS6.mono HMB.out) (fun _ => ?_)
                clear hK K
                try simp only [Act.put, List.setIfInBounds_toArray, List.set_cons_zero, List.set_cons_succ]
                generalize v1.alloc (.cells #[.int .i64 y1, .int .i64 y2, .int .i64 y3, .int .i64 y4] 43) = v6 at *
                obtain ⟨gl, hgl⟩ : ∃ x, x = v1.heap.size := ⟨_, rfl⟩
                rw [← hgl] at hlit hne ⊢
                clear hgl hsz6
                refine wpAnyH_ready (rs := [3]) (by kernel_rfl) (by simp) ?_
                refine AllReadyH.cons rfl (fun K hK => ?_) AllReadyH.nil
                · try rw [if_pos (by rfl)]
                  have hsz7 : B0 ≤ v6.heap.size := Nat.le_trans HZ0.out hS6.size
                  obtain ⟨A5, c5, v7, hrun, hO5, hb5, hg5⟩ := run_appendL 22 hO (HL.out.below' hS6 HMB.out) (by have := HN.out; omega) hsz7
                  rw [Nat.zero_add] at hrun hO5
                  replace hlit := ol_keepL hlit hne hg5
                  have hS7 := hS6.trans hb5
                  refine op_run_appendG (.tmp 55) (.tmp 57) rfl rfl rfl hrun (hK.out _ _ (hS7.mono HMB.out) (fun _ => ?_))
                  clear hK K hrun hb5 hg5 hO hsz7
                  try simp only [Act.put, List.setIfInBounds_toArray, List.set_cons_zero, List.set_cons_succ]
                  have hO := hO5
                  clear hO5
                  refine wpAnyH_ready (rs := [6]) (by kernel_rfl) (by simp) ?_
                  refine AllReadyH.cons rfl (fun K hK => ?_) AllReadyH.nil
                  · try rw [if_pos (by rfl)]
                    have hsz8 : B0 ≤ v7.heap.size := Nat.le_trans HZ0.out hS7.size
                    have hLl : Lr v7 (gl + 1) (some ⟨gl, 0, none⟩) 1 1 [⟨y1, y2, y3, y4⟩] := lr_vb (ls := [⟨y1, y2, y3, y4⟩]) (rest := []) hlit (Nat.lt_succ_self _) (Nat.le_refl _) (by simp [maxLen])
                    obtain ⟨A6, c6, v8, hrun, hO6, hb6, hg6⟩ := run_appendL 22 hO hLl (by have := HN.out; omega) hsz8
                    have hS8 := hS7.trans hb6
                    refine op_run_appendG (.tmp 58) (.tmp 60) rfl rfl rfl hrun (hK.out _ _ (hS8.mono HMB.out) (fun _ => ?_))
                    clear hK K hrun hLl hg6 hb6 hsz8
                    try simp only [Act.put, List.setIfInBounds_toArray, List.set_cons_zero, List.set_cons_succ]
                    refine takeD (i := 7) (v := .pointer (some ⟨MORE, 1, none⟩)) (some 62) rfl rfl (by kernel_rfl) (by kernel_rfl) (by kernel_rfl) (fun _ _ _ h => h) (Or.inl ⟨by rfl, ?_⟩) (hS8.mono HMB.out) ?_
                    · rintro w' hq
                      go_simp
                    try simp only [Act.put, List.setIfInBounds_toArray, List.set_cons_zero, List.set_cons_succ]
                    refine wpAnyH_ready (rs := [8]) (by kernel_rfl) (by simp) ?_
                    refine AllReadyH.cons rfl (fun K hK => ?_) AllReadyH.nil
                    · try rw [if_pos (by rfl)]
                      have hsz9 : B0 ≤ v8.heap.size := Nat.le_trans HZ0.out hS8.size
                      have hM : Vb 24 v8 MORE [.int .i64 So, .slice A1 n1 c1] := HM.out.below hS8 HMB2.out
                      have f1 := hM.free 1
                      have c1x := hM.cell 1 rfl
                      have hgm := grownBy_set v8 MORE 1 (.slice A6 (n1 + 1) c6)
                      have hM2 := hM.set 1 (.slice A6 (n1 + 1) c6)
                      have hO9 := ol_other hO6 hM (by decide) hgm
                      have hT9 : Below MORE u0 (v8.setCell ⟨MORE, 1, none⟩ (.slice A6 (n1 + 1) c6)) := below_grown (hS8.mono HMB.out) hgm (Nat.le_trans (Nat.le_trans HMB.out HZ0.out) hS8.size) (Nat.le_refl _)
                      go_simp
                      refine hK.out _ _ hT9 (fun _ => ?_)
                      clear hK K
                      try simp only [Act.put, List.setIfInBounds_toArray, List.set_cons_zero, List.set_cons_succ]
                      refine wpAnyH_done (by kernel_rfl) ?_ _
                      go_wp2_with fail
                      go_meet
                      case rel => exact ⟨A6, n1 + 1, c6, Kp.mk ⟨hM2, ol_lower hO9 HWB.out, HB6.out.trans hT9⟩⟩
            · try rw [if_pos (by rfl)]
              have hsz10 : B0 ≤ u0.heap.size := Nat.le_trans HZ0.out hS0.size
              go_simp
              have hlit : Vb 43 (u0.alloc (.cells #[.int .i64 y1, .int .i64 y2, .int .i64 y3, .int .i64 y4] 43)) u0.heap.size [.int .i64 y1, .int .i64 y2, .int .i64 y3, .int .i64 y4] := Vb.new 43 u0 [.int .i64 y1, .int .i64 y2, .int .i64 y3, .int .i64 y4]
              have hbn := below_alloc u0 (.cells #[.int .i64 y1, .int .i64 y2, .int .i64 y3, .int .i64 y4] 43)
              have hS10 := hS0.trans (hbn.mono hsz10)
              clear hbn
              refine hK.out _ _ (hS10.mono HMB.out) (fun _ => ?_)
              clear hK K
              try simp only [Act.put, List.setIfInBounds_toArray, List.set_cons_zero, List.set_cons_succ]
              generalize u0.alloc (.cells #[.int .i64 y1, .int .i64 y2, .int .i64 y3, .int .i64 y4] 43) = v10 at *
              obtain ⟨gl, hgl⟩ : ∃ x, x = u0.heap.size := ⟨_, rfl⟩
              rw [← hgl] at hlit ⊢
              clear hgl hsz10
              refine wpAnyH_ready (rs := [0]) (by kernel_rfl) (by simp) ?_
              refine AllReadyH.cons rfl (fun K hK => ?_) AllReadyH.nil
              · try rw [if_pos (by rfl)]
                have hsz11 : B0 ≤ v10.heap.size := Nat.le_trans HZ0.out hS10.size
                go_simp
                have hO : Ol (v10.alloc (.cells #[] 43)) v10.heap.size (.slice (some ⟨v10.heap.size, 0, none⟩) 0 0) 0 [] := World.ownsRow_made v10 #[] 0 (Nat.le_refl _) (Nat.zero_le _) rfl
                have hbn := below_alloc v10 (.cells #[] 43)
                have hne : ∀ k, (Value.slice (some ⟨v10.heap.size, 0, none⟩) 0 0).ownBlock = some k → k ≠ gl := fun k hk => by have := (World.ownsRow.lt hO k hk).1; have := hlit.lt; omega
                replace hlit := hlit.below hbn hlit.lt
                replace hO := ol_lower hO hsz11
                have hS11 := hS10.trans (hbn.mono hsz11)
                clear hbn
                refine hK.out _ _ (hS11.mono HMB.out) (fun _ => ?_)
                clear hK K
                try simp only [Act.put, List.setIfInBounds_toArray, List.set_cons_zero, List.set_cons_succ]
                generalize v10.alloc (.cells #[] 43) = v11 at *
                obtain ⟨go, hgo⟩ : ∃ x, x = v10.heap.size := ⟨_, rfl⟩
                rw [← hgo] at hO hne ⊢
                clear hgo hsz11
                refine wpAnyH_ready (rs := [3]) (by kernel_rfl) (by simp) ?_
                refine AllReadyH.cons rfl (fun K hK => ?_) AllReadyH.nil
                · try rw [if_pos (by rfl)]
                  have hsz12 : B0 ≤ v11.heap.size := Nat.le_trans HZ0.out hS11.size
                  obtain ⟨A5, c5, v12, hrun, hO5, hb5, hg5⟩ := run_appendL 22 hO (HL.out.below' hS11 HMB.out) (by have := HN.out; omega) hsz12
                  rw [Nat.zero_add] at hrun hO5
                  replace hlit := ol_keepL hlit hne hg5
                  have hS12 := hS11.trans hb5
                  refine op_run_appendG (.tmp 55) (.tmp 57) rfl rfl rfl hrun (hK.out _ _ (hS12.mono HMB.out) (fun _ => ?_))
                  clear hK K hrun hb5 hg5 hO hsz12
                  try simp only [Act.put, List.setIfInBounds_toArray, List.set_cons_zero, List.set_cons_succ]
                  have hO := hO5
                  clear hO5
                  refine wpAnyH_ready (rs := [6]) (by kernel_rfl) (by simp) ?_
                  refine AllReadyH.cons rfl (fun K hK => ?_) AllReadyH.nil
                  · try rw [if_pos (by rfl)]
                    have hsz13 : B0 ≤ v12.heap.size := Nat.le_trans HZ0.out hS12.size
                    have hLl : Lr v12 (gl + 1) (some ⟨gl, 0, none⟩) 1 1 [⟨y1, y2, y3, y4⟩] := lr_vb (ls := [⟨y1, y2, y3, y4⟩]) (rest := []) hlit (Nat.lt_succ_self _) (Nat.le_refl _) (by simp [maxLen])
                    obtain ⟨A6, c6, v13, hrun, hO6, hb6, hg6⟩ := run_appendL 22 hO hLl (by have := HN.out; omega) hsz13
                    have hS13 := hS12.trans hb6
                    refine op_run_appendG (.tmp 58) (.tmp 60) rfl rfl rfl hrun (hK.out _ _ (hS13.mono HMB.out) (fun _ => ?_))
                    clear hK K hrun hLl hg6 hb6 hsz13
                    try simp only [Act.put, List.setIfInBounds_toArray, List.set_cons_zero, List.set_cons_succ]
                    refine takeD (i := 7) (v := .pointer (some ⟨MORE, 1, none⟩)) (some 62) rfl rfl (by kernel_rfl) (by kernel_rfl) (by kernel_rfl) (fun _ _ _ h => h) (Or.inl ⟨by rfl, ?_⟩) (hS13.mono HMB.out) ?_
                    · rintro w' hq
                      go_simp
                    try simp only [Act.put, List.setIfInBounds_toArray, List.set_cons_zero, List.set_cons_succ]
                    refine wpAnyH_ready (rs := [8]) (by kernel_rfl) (by simp) ?_
                    refine AllReadyH.cons rfl (fun K hK => ?_) AllReadyH.nil
                    · try rw [if_pos (by rfl)]
                      have hsz14 : B0 ≤ v13.heap.size := Nat.le_trans HZ0.out hS13.size
                      have hM : Vb 24 v13 MORE [.int .i64 So, .slice A1 n1 c1] := HM.out.below hS13 HMB2.out
                      have f1 := hM.free 1
                      have c1x := hM.cell 1 rfl
                      have hgm := grownBy_set v13 MORE 1 (.slice A6 (n1 + 1) c6)
                      have hM2 := hM.set 1 (.slice A6 (n1 + 1) c6)
                      have hO9 := ol_other hO6 hM (by decide) hgm
                      have hT9 : Below MORE u0 (v13.setCell ⟨MORE, 1, none⟩ (.slice A6 (n1 + 1) c6)) := below_grown (hS13.mono HMB.out) hgm (Nat.le_trans (Nat.le_trans HMB.out HZ0.out) hS13.size) (Nat.le_refl _)
                      go_simp
                      refine hK.out _ _ hT9 (fun _ => ?_)
                      clear hK K
                      try simp only [Act.put, List.setIfInBounds_toArray, List.set_cons_zero, List.set_cons_succ]
                      refine wpAnyH_done (by kernel_rfl) ?_ _
                      go_wp2_with fail
                      go_meet
                      case rel => exact ⟨A6, n1 + 1, c6, Kp.mk ⟨hM2, ol_lower hO9 HWB.out, HB6.out.trans hT9⟩⟩
          case rest =>
            clear hE7 hk6 hm6 hb6 hL6 hMl
            obtain ⟨A9, n9, c9, HR9⟩ := hcut
            have hE9 := HE6.out.step (by have := HR9.out.2.2; rw [HM0.out] at this; exact this)
            have hM9 := HR9.out.1
            have m0 := hM9.cell 0 rfl
            have m1 := hM9.cell 1 rfl
            have hcK := gCheck_any HR9.out.2.1.lr (Nat.le_refl _) So
            have HE9 := Kp.mk hE9
            clear hE9 hM9 HE6
            by_cases hgd : Good So (l1 ++ [⟨y1, y2, y3, y4⟩])
            · rw [chkG hgd] at hcK
              have HG := Kp.mk hgd
              clear hgd
              go_upto_region 10 with (refine hcK.mono ?_; rintro e wy ⟨rfl, hby⟩)
              have hE10 := HE9.out.step hby
              have m0 := (HR9.out.1.below hby HR9.out.1.lt).cell 0 rfl
              have m1 := (HR9.out.1.below hby HR9.out.1.lt).cell 1 rfl
              have o0 := hE10.o.cell 0 rfl
              have o1 := hE10.o.cell 1 rfl
              have f0 := hE10.o.free 0
              have f1 := hE10.o.free 1
              have HE10 := Kp.mk (hE10.put (HR9.out.2.1.below hby) HG.out)
              clear hE10 hby hcK HE9 HR9 HG
              go_upto_region 4 with fail
              go_wp2_with fail
              go_roundw
              case rel => exact ⟨i + 1, by go_num, by omega, by omega, Kp.mk ⟨_, _, _, _, HE10.out⟩⟩
              case measure => simp [intOf]; omega
            · rw [chkB hgd] at hcK
              clear hgd
              go_upto_region 4 with (refine hcK.mono ?_; rintro e wy ⟨rfl, hby⟩)
              have HE10 := Kp.mk (HE9.out.step hby)
              clear hby hcK HE9 HR9
              go_wp2_with fail
              go_roundw
              case rel => exact ⟨i + 1, by go_num, by omega, by omega, Kp.mk ⟨_, _, _, _, HE10.out⟩⟩
              case measure => simp [intOf]; omega
      · obtain rfl : i = 30 := by omega
        have hlt30 : ¬ ((30 : Nat) : Int) < 30 := by omega
        have hE := HE.out
        have q0 := hE.r.cell 0 rfl
        have q1 := hE.r.cell 1 rfl
        have f0 := hE.r.free 0
        have f1 := hE.r.free 1
        have hF := hE.fin
        have HF := Kp.mk hF
        have HD := Kp.mk hE.d
        clear hE hF HE
        go_wp2_with fail
        have g0 := HF.out.1.cell 0 rfl
        have g1 := HF.out.1.cell 1 rfl
        refine bodyPost_ret (v := .agg #[.int .i64 So, .slice A1 n1 c1]) (by simp [results, Try.results20, go_sem, g0, g1]) rfl ?_
        exact ⟨So, A1, n1, c1, rfl, ⟨l1, HF.out.2.1, HD.out⟩, HF.out.2.2⟩
    · obtain rfl : i = n := by omega
      have hlti : ¬ (i : Int) < i := by omega
      have hE := HE.out
      have q0 := hE.r.cell 0 rfl
      have q1 := hE.r.cell 1 rfl
      have f0 := hE.r.free 0
      have f1 := hE.r.free 1
      have hF := hE.fin
      have HF := Kp.mk hF
      have HD := Kp.mk hE.d
      clear hE hF HE
      go_wp2_with fail
      have g0 := HF.out.1.cell 0 rfl
      have g1 := HF.out.1.cell 1 rfl
      refine bodyPost_ret (v := .agg #[.int .i64 So, .slice A1 n1 c1]) (by simp [results, Try.results20, go_sem, g0, g1]) rfl ?_
      exact ⟨So, A1, n1, c1, rfl, ⟨l1, HF.out.2.1, HD.out⟩, HF.out.2.2⟩
end Go.Proofs.Ytlmonnggklfniaa.Oct
