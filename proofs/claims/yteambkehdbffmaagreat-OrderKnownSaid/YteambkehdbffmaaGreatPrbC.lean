/- Contracts of layer 4: the numbers of a probe, gone through by range over a function. Contracts of layer 4: Check, and the document's. Contracts of layer 4: the document's Check. -/
import Derived.Test.YteambkehdbffmaaGreatPrbP
import Derived.Test.YteambkehdbffmaaGreatPut
import Derived.RangeFuncNested
import Derived.RangeFuncBound
import Derived.RangeFuncCalls
import Derived.RangeFuncLeaves
import Derived.Shelf.Abstract
import Derived.Shelf.RegionOpen
import Derived.WalkKit
import Derived.OwnWalkIn
import Derived.TacticsInMore
import Derived.LoopNIn
import Derived.LoopIn
import Derived.Test.YteambkehdbffmaaGreatNb
import Derived.Deep.RegionHeld3
namespace Go.Proofs.YteambkehdbffmaaGreat.Oct
open Go.RowKit Go.Shelf
set_option linter.unusedVariables false
attribute [local go_sem] Oper.semAt_some

/-- What a number of a probe may be, and how many bytes of the body it has. -/
def plA (x : Fin 5) : Int := [1, 1, 0, 0, 0].getD x.val 0
def plB (x : Fin 5) : Int := [6, 4, 6, 4, 65535].getD x.val 0
def plC (x : Fin 5) : Int := [1, 1, 1, 1, 2].getD x.val 0
def encQ (g : Nat) (x : Fin 5) : Array Value := #[.agg #[.int .i64 (plA x), .int .i64 (plB x), .int .i64 (plC x)], .pointer (some ⟨g, x.val, none⟩)]
def allQ : List (Fin 5) := [0, 1, 2, 3, 4]
/-- What a round that goes on keeps: the box that the iterator has captured. -/
def KpQ (Bn : Nat) (W W' : World) : Prop := W'.cell? ⟨Bn, 0, none⟩ = W.cell? ⟨Bn, 0, none⟩

theorem numbers_any (a : Addr) (w : World) : Calls Tryz.prog 98 #[.pointer (some a)] w fun e w' => e = .returned (.func (.func 104) #[] #[.pointer (some ⟨w.heap.size, 0, none⟩)]) ∧ w.alloc (.cells #[.pointer (some a)] 63) = w' := by
  go_enter Tryz.func98, Tryz.ntmps98
  go_wp2
  go_ret
  exact ⟨rfl, rfl⟩

set_option maxRecDepth 100000 in
set_option maxHeartbeats 1000000 in
theorem nums_stops (n g Bn : Nat) (hn : 1 ≤ n) (w : World) (hBn : w.cell? ⟨Bn, 0, none⟩ = some (.pointer (some ⟨g, 0, none⟩))) (hlt : Bn < w.heap.size) :
    SeqStopsK Fence.wide n Tryz.prog 104 #[.pointer (some ⟨Bn, 0, none⟩)] (encQ g) (KpQ Bn) (fun xs => xs = allQ) (fun pre => pre <+: allQ) 5 w := fun l J Jx W hW hJ hJx hY h0 => by
  refine callsIn_of_wp Tryz.func104 rfl trivial ?_ rfl
  simp only [Tryz.ntmps104, List.size_toArray, List.length_cons, List.length_nil, Nat.reduceAdd, Nat.reduceSub, Array.replicate_succ, Array.replicate_zero, List.push_toArray, List.append_toArray, List.nil_append, List.cons_append]
  have hb0 := (hW.cell (p := ⟨Bn, 0, none⟩) hlt).trans hBn
  obtain ⟨f1, t1, a1, b1, hy1, hR1⟩ := hY [] 0 W h0 (by simp)
  replace hy1 : (Instr.yield l #[.agg #[.int .i64 1, .int .i64 6, .int .i64 1], .pointer (some ⟨g, 0, none⟩)]).run Tryz.prog W = _ := hy1
  gi_wp2
  refine hR1.mono ?_
  rintro e W1 (⟨rfl, hJ1, hk1⟩ | ⟨rfl, hx1⟩)
  rotate_left
  · gi_wp2
    repeat (refine ⟨(fun _ h => (by cases h)), ?_⟩; gi_wp2)
    go_end0
    exact ⟨⟨_, rfl⟩, .inr ⟨_, ⟨[1, 2, 3, 4], rfl⟩, hx1⟩⟩
  · have hb1 := hk1.trans hb0
    clear hb0 hy1 hR1
    obtain ⟨f2, t2, a2, b2, hy2, hR2⟩ := hY [0] 1 W1 hJ1 (by simp)
    replace hy2 : (Instr.yield l #[.agg #[.int .i64 1, .int .i64 4, .int .i64 1], .pointer (some ⟨g, 1, none⟩)]).run Tryz.prog W1 = _ := hy2
    gi_wp2
    refine hR2.mono ?_
    rintro e W2 (⟨rfl, hJ2, hk2⟩ | ⟨rfl, hx2⟩)
    rotate_left
    · gi_wp2
      repeat (refine ⟨(fun _ h => (by cases h)), ?_⟩; gi_wp2)
      go_end0
      exact ⟨⟨_, rfl⟩, .inr ⟨_, ⟨[2, 3, 4], rfl⟩, hx2⟩⟩
    · have hb2 := hk2.trans hb1
      clear hb1 hy2 hR2
      obtain ⟨f3, t3, a3, b3, hy3, hR3⟩ := hY [0, 1] 2 W2 hJ2 (by simp)
      replace hy3 : (Instr.yield l #[.agg #[.int .i64 0, .int .i64 6, .int .i64 1], .pointer (some ⟨g, 2, none⟩)]).run Tryz.prog W2 = _ := hy3
      gi_wp2
      refine hR3.mono ?_
      rintro e W3 (⟨rfl, hJ3, hk3⟩ | ⟨rfl, hx3⟩)
      rotate_left
      · gi_wp2
        repeat (refine ⟨(fun _ h => (by cases h)), ?_⟩; gi_wp2)
        go_end0
        exact ⟨⟨_, rfl⟩, .inr ⟨_, ⟨[3, 4], rfl⟩, hx3⟩⟩
      · have hb3 := hk3.trans hb2
        clear hb2 hy3 hR3
        obtain ⟨f4, t4, a4, b4, hy4, hR4⟩ := hY [0, 1, 2] 3 W3 hJ3 (by simp)
        replace hy4 : (Instr.yield l #[.agg #[.int .i64 0, .int .i64 4, .int .i64 1], .pointer (some ⟨g, 3, none⟩)]).run Tryz.prog W3 = _ := hy4
        gi_wp2
        refine hR4.mono ?_
        rintro e W4 (⟨rfl, hJ4, hk4⟩ | ⟨rfl, hx4⟩)
        rotate_left
        · gi_wp2
          repeat (refine ⟨(fun _ h => (by cases h)), ?_⟩; gi_wp2)
          go_end0
          exact ⟨⟨_, rfl⟩, .inr ⟨_, ⟨[4], rfl⟩, hx4⟩⟩
        · have hb4 := hk4.trans hb3
          clear hb3 hy4 hR4
          obtain ⟨f5, t5, a5, b5, hy5, hR5⟩ := hY [0, 1, 2, 3] 4 W4 hJ4 (by simp)
          replace hy5 : (Instr.yield l #[.agg #[.int .i64 0, .int .i64 65535, .int .i64 2], .pointer (some ⟨g, 4, none⟩)]).run Tryz.prog W4 = _ := hy5
          gi_wp2
          refine hR5.mono ?_
          rintro e W5 (⟨rfl, hJ5, hk5⟩ | ⟨rfl, hx5⟩)
          rotate_left
          · gi_wp2
            repeat (refine ⟨(fun _ h => (by cases h)), ?_⟩; gi_wp2)
            go_end0
            exact ⟨⟨_, rfl⟩, .inr ⟨_, ⟨[], rfl⟩, hx5⟩⟩
          · have hb5 := hk5.trans hb4
            clear hb4 hy5 hR5
            gi_wp2
            go_end0
            exact ⟨⟨_, rfl⟩, .inl ⟨_, rfl, hJ5⟩⟩

def takesP (a b v : Int) : Bool := decide (a ≤ v ∧ v ≤ b)
theorem takes_any (a b c v : Int) (w : World) : Calls Tryz.prog 99 #[.agg #[.int .i64 a, .int .i64 b, .int .i64 c], .int .i64 v] w fun e w' => e = .returned (.bool (takesP a b v)) ∧ w.alloc (.cells #[.int .i64 a, .int .i64 b, .int .i64 c] 127) = w' := by
  by_cases h1 : a ≤ v
  · by_cases h2 : v ≤ b
    · have hp := Kp.mk (show takesP a b v = true from decide_eq_true ⟨h1, h2⟩)
      go_enter Tryz.func99, Tryz.ntmps99
      go_wp2_with fail
      rw [hp.out]
      go_ret
      exact ⟨rfl, rfl⟩
    · have hp := Kp.mk (show takesP a b v = false from decide_eq_false (fun h => h2 h.2))
      go_enter Tryz.func99, Tryz.ntmps99
      go_wp2_with fail
      rw [hp.out]
      go_ret
      exact ⟨rfl, rfl⟩
  · have hp := Kp.mk (show takesP a b v = false from decide_eq_false (fun h => h1 h.1))
    go_enter Tryz.func99, Tryz.ntmps99
    go_wp2_with fail
    rw [hp.out]
    go_ret
    exact ⟨rfl, rfl⟩
theorem isFound_any (f p t q n : Int) (w : World) : Calls Tryz.prog 100 #[.agg #[.int .i64 f, .int .i64 p, .int .i64 t, .int .i64 q, .int .i64 n]] w fun e w' => e = .returned (.bool (t != 0)) ∧ w.alloc (.cells #[.int .i64 f, .int .i64 p, .int .i64 t, .int .i64 q, .int .i64 n] 34) = w' := by
  go_enter Tryz.func100, Tryz.ntmps100
  go_wp2_with fail
  go_ret
  exact ⟨rfl, rfl⟩

/-- Is a switch's port one? -/
def endP (s p : Int) : Bool := decide ((1 ≤ s ∧ s ≤ 6) ∧ (1 ≤ p ∧ p ≤ 4))
theorem end_any (s p : Int) (w : World) : Calls Tryz.prog 73 #[.int .i64 s, .int .i64 p] w fun e w' => e = .returned (.bool (endP s p)) ∧ w = w' := by
  by_cases h1 : 1 ≤ s
  · by_cases h2 : s ≤ 6
    · by_cases h3 : 1 ≤ p
      · by_cases h4 : p ≤ 4
        · have hp := Kp.mk (show endP s p = true from decide_eq_true ⟨⟨h1, h2⟩, h3, h4⟩)
          go_enter Tryz.func73, Tryz.ntmps73
          go_wp2_with fail
          rw [hp.out]
          go_ret
          exact ⟨rfl, rfl⟩
        · have hp := Kp.mk (show endP s p = false from decide_eq_false (fun h => h4 h.2.2))
          go_enter Tryz.func73, Tryz.ntmps73
          go_wp2_with fail
          rw [hp.out]
          go_ret
          exact ⟨rfl, rfl⟩
      · have hp := Kp.mk (show endP s p = false from decide_eq_false (fun h => h3 h.2.1))
        go_enter Tryz.func73, Tryz.ntmps73
        go_wp2_with fail
        rw [hp.out]
        go_ret
        exact ⟨rfl, rfl⟩
    · have hp := Kp.mk (show endP s p = false from decide_eq_false (fun h => h2 h.1.2))
      go_enter Tryz.func73, Tryz.ntmps73
      go_wp2_with fail
      rw [hp.out]
      go_ret
      exact ⟨rfl, rfl⟩
  · have hp := Kp.mk (show endP s p = false from decide_eq_false (fun h => h1 h.1.1))
    go_enter Tryz.func73, Tryz.ntmps73
    go_wp2_with fail
    rw [hp.out]
    go_ret
    exact ⟨rfl, rfl⟩
end Go.Proofs.YteambkehdbffmaaGreat.Oct

namespace Go.Proofs.YteambkehdbffmaaGreat.Oct
open Go.RowKit Go.Shelf
set_option linter.unusedVariables false
attribute [local go_sem] Oper.semAt_some

/-- A number of a probe is what it may be. -/
def takQ (vs : List Int) (x : Fin 5) : Bool := takesP (plA x) (plB x) (vs.getD x.val 0)

theorem kpQ_t {Bn : Nat} {A B C : World} (h1 : KpQ Bn A B) (h2 : KpQ Bn B C) : KpQ Bn A C := Eq.trans h2 h1
theorem kpQ_b {Bn : Nat} {w : World} (hlt : Bn < w.heap.size) (W : World) (l : Nat) (o o' : Obj) (hl : w.heap.size ≤ l) (h : W.heap[l]? = some o) (_ : o.isCells = false) (_ : o.isWalk = false) : KpQ Bn W (W.putObj l o') := by
  have := (grownBy_putObj' W l o').block Bn (by have := (Array.getElem?_eq_some_iff.1 h).1; omega) (by simp; omega)
  simp only [KpQ, World.cell?, this]

theorem cell_alloc_keep {Bn : Nat} {W : World} (hlt : Bn < W.heap.size) (o : Obj) : KpQ Bn W (W.alloc o) := by
  have := Below.heap_alloc W o Bn hlt
  simp only [KpQ, World.cell?, this]

theorem takQ_all (f p t q n : Int) : allQ.all (takQ [f, p, t, q, n]) = true ↔ ((1 ≤ f ∧ f ≤ 6) ∧ (1 ≤ p ∧ p ≤ 4) ∧ (0 ≤ t ∧ t ≤ 6) ∧ (0 ≤ q ∧ q ≤ 4) ∧ (0 ≤ n ∧ n ≤ 65535)) := by
  have e : allQ.all (takQ [f, p, t, q, n]) = (takesP 1 6 f && (takesP 1 4 p && (takesP 0 6 t && (takesP 0 4 q && (takesP 0 65535 n && true))))) := rfl
  rw [e]
  simp [takesP]
theorem checkQ_all (f p t q n : Int) (h : allQ.all (takQ [f, p, t, q, n]) = true) : ∀ b, (!((t != 0) == (q != 0))) = b → checkQ f p t q n = if b then 2 else 0 := by
  rintro b rfl
  have h := (takQ_all f p t q n).1 h
  by_cases ok : okQ f p t q n
  · rw [checkQ, if_pos ok, if_neg]
    obtain ⟨_, _, h3, _⟩ := ok
    by_cases ht : t = 0
    · have hq : q = 0 := by omega
      simp [ht, hq]
    · have hq : q ≠ 0 := by omega
      rw [bne_iff_ne.2 ht, bne_iff_ne.2 hq]
      simp
  · rw [checkQ, if_neg ok, if_pos]
    by_cases ht : t = 0
    · by_cases hq : q = 0
      · exact absurd ⟨by omega, by omega, by omega, by omega⟩ ok
      · simp [ht, hq]
    · by_cases hq : q = 0
      · simp [ht, hq]
      · exact absurd ⟨by omega, by omega, by omega, by omega⟩ ok
theorem checkQ_none (f p t q n : Int) (pre : List (Fin 5)) (hp : pre <+: allQ) (h : pre.all (takQ [f, p, t, q, n]) = false) : checkQ f p t q n = 2 := by
  rw [checkQ, if_neg]
  intro ok
  have h2 : allQ.all (takQ [f, p, t, q, n]) = true := (takQ_all f p t q n).2 (by unfold okQ at ok; omega)
  obtain ⟨s, hs⟩ := hp
  rw [← hs, List.all_append, h] at h2
  simp at h2
/-- The return of Check, behind its loop. -/
theorem check_end {w W : World} {D : Nat} {c : Int} {a : Act} (bE : Boxed W (w.heap.size + 1) 41 (.int .i64 c)) (hB : Below w.heap.size w W) (hK : W.heap[D]? = some (.deferred (some []))) (hD : w.heap.size ≤ D)
    (ha : a.tmps[2]? = some (.pointer (some ⟨w.heap.size + 1, 0, none⟩))) (hd : a.defers = [{ target := Target.collected D, args := #[] }]) :
    bodyPostM Fence.wide 8 Tryz.prog Tryz.f87 (fun e w' => e = .returned (.int .i64 c) ∧ Below w.heap.size w w') Exit.ret a W := by
  have hc5 := cell_kept bE.cell (grownBy_putObj' _ D (.deferred none)) (fun r e => by cases e; exact ⟨_, hK, rfl⟩)
  obtain ⟨tmps, defers⟩ := a
  simp only at ha hd
  subst hd
  refine ⟨by simp, .inl ⟨_, _, rfl, run_takeDeferred hK, ?_⟩⟩
  refine ⟨.int .i64 c, ?_, rfl, hB.trans (belowK_b (w := w) (Nat.le_refl _) W D _ _ hD hK rfl rfl)⟩
  simp [results, Tryz.f87, go_sem, ha, hc5]

theorem then_no {K : Act → World → Prop} {Q : Exit → Act → World → Prop} : ∀ e a w, Exit.then K (fun _ _ _ => False) e a w → Exit.then K Q e a w := by
  intro e a w h
  cases e <;> first | exact h | exact h.elim

set_option maxRecDepth 100000 in
set_option maxHeartbeats 4000000 in
theorem check_any (f p t q n : Int) (w : World) : Calls Tryz.prog 87 #[.agg #[.int .i64 f, .int .i64 p, .int .i64 t, .int .i64 q, .int .i64 n]] w fun e w' => e = .returned (.int .i64 (checkQ f p t q n)) ∧ Below w.heap.size w w' := by
  refine (callsIn_wide (n := 8)).1 ?_
  refine callsIn_of_wp_marks Tryz.func87 rfl trivial ?_ rfl
  simp only [Tryz.ntmps87, List.size_toArray, List.length_cons, List.length_nil, Nat.reduceAdd, Nat.reduceSub, Array.replicate_succ, Array.replicate_zero, List.push_toArray, List.append_toArray, List.nil_append, List.cons_append]
  gi_wp2_with (refine ⟨trivial, ?_⟩; gi_at_call 98; refine (callsIn_wide.2 (numbers_any _ _)).mono ?_; rintro e w' ⟨rfl, rfl⟩)
  have bP : Nb 34 _ w.heap.size [f, p, t, q, n] := ((Nb.new 34 w [f, p, t, q, n]).alloc (.cells #[.int .i64 0] 41)).alloc (.cells #[.pointer (some ⟨w.heap.size, 0, none⟩)] 63)
  have bE := (Boxed.new (w.alloc (.cells #[.int .i64 f, .int .i64 p, .int .i64 t, .int .i64 q, .int .i64 n] 34)) 41 (.int .i64 0)).alloc (.cells #[.pointer (some ⟨w.heap.size, 0, none⟩)] 63)
  have bN := Boxed.new ((w.alloc (.cells #[.int .i64 f, .int .i64 p, .int .i64 t, .int .i64 q, .int .i64 n] 34)).alloc (.cells #[.int .i64 0] 41)) 63 (.pointer (some ⟨w.heap.size, 0, none⟩))
  simp only [World.size_alloc] at bE bN
  have hB0 : Below w.heap.size w (((w.alloc (.cells #[.int .i64 f, .int .i64 p, .int .i64 t, .int .i64 q, .int .i64 n] 34)).alloc (.cells #[.int .i64 0] 41)).alloc (.cells #[.pointer (some ⟨w.heap.size, 0, none⟩)] 63)) := (((Below.refl _ w).alloc (Nat.le_refl _) _).alloc (by simp) _).alloc (by simp; omega) _
  have hsz : (((w.alloc (.cells #[.int .i64 f, .int .i64 p, .int .i64 t, .int .i64 q, .int .i64 n] 34)).alloc (.cells #[.int .i64 0] 41)).alloc (.cells #[.pointer (some ⟨w.heap.size, 0, none⟩)] 63)).heap.size = w.heap.size + 3 := by simp
  change Nb 34 (((w.alloc (.cells #[.int .i64 f, .int .i64 p, .int .i64 t, .int .i64 q, .int .i64 n] 34)).alloc (.cells #[.int .i64 0] 41)).alloc (.cells #[.pointer (some ⟨w.heap.size, 0, none⟩)] 63)) w.heap.size [f, p, t, q, n] at bP
  obtain ⟨W0, hW0⟩ : ∃ W0, (((w.alloc (.cells #[.int .i64 f, .int .i64 p, .int .i64 t, .int .i64 q, .int .i64 n] 34)).alloc (.cells #[.int .i64 0] 41)).alloc (.cells #[.pointer (some ⟨w.heap.size, 0, none⟩)] 63)) = W0 := ⟨_, rfl⟩
  rw [hW0] at bP bE bN hB0 hsz ⊢
  clear hW0
  refine wpIn_rangeFunc_ownH (Kp := KpQ (w.heap.size + 1 + 1)) (w0 := W0) (encs := encQ w.heap.size) (S := fun xs => xs = allQ) (Sp := fun pre => pre <+: allQ) (N := 5) rfl (by omega) (gf := 104) (lb := #[.pointer (some ⟨w.heap.size + 1 + 1, 0, none⟩)]) ?c1 trivial ?c2
    ?c3 ?c4 ?c5 (Below.refl _ _) ?c6
    (fun pre W => (((Nb 34 W w.heap.size [f, p, t, q, n] ∧ Boxed W (w.heap.size + 1) 41 (.int .i64 0)) ∧ Boxed W (w.heap.size + 1 + 1) 63 (.pointer (some ⟨w.heap.size, 0, none⟩))) ∧ Below w.heap.size w W) ∧ pre.all (takQ [f, p, t, q, n]) = true)
    (fun c pre W => (Boxed W (w.heap.size + 1) 41 (.int .i64 2) ∧ Below w.heap.size w W) ∧ c = .ret ∧ pre.all (takQ [f, p, t, q, n]) = false)
    ?c7 ?c8 ?c9
    (fun x a' W => ∃ g, w.heap.size + 1 + 1 < g ∧ Nb 127 W g [plA x, plB x, plC x] ∧ a' = { tmps := #[.agg #[.int .i64 f, .int .i64 p, .int .i64 t, .int .i64 q, .int .i64 n], .pointer (some ⟨w.heap.size, 0, none⟩), .pointer (some ⟨w.heap.size + 1, 0, none⟩), .pointer (some ⟨g, 0, none⟩), .pointer (some ⟨w.heap.size, x.val, none⟩), .func (.func 104) #[] #[.pointer (some ⟨w.heap.size + 1 + 1, 0, none⟩)], .agg #[.int .i64 (plA x), .int .i64 (plB x), .int .i64 (plC x)], .pointer (some ⟨w.heap.size, x.val, none⟩), undef, undef, undef, undef, undef, undef, undef, undef, undef, undef, undef, undef], defers := [] })
    ?c10
    ?assign ?body ?done ?stop
  case c1 => rfl
  case c2 => exact enters_of Tryz.func104 (by kernel_rfl) rfl
  case c3 => exact nums_stops _ w.heap.size (w.heap.size + 1 + 1) (by omega) W0 bN.cell (by omega)
  case c4 => exact kpQ_t
  case c5 => exact kpQ_b (by omega)
  case c6 => exact fun _ => rfl
  case c7 => exact OwnFrom.and (OwnFrom.and (OwnFrom.and (OwnFrom.and (Own.from (nb_own _ _ _) _) (Own.from (boxed_own _ _ _) _)) (Own.from (boxed_own _ _ _) _)) (ownFrom_below (Nat.le_refl _) (by omega))) (ownFrom_pure _ _)
  case c8 => exact fun c => OwnFrom.and (OwnFrom.and (Own.from (boxed_own _ _ _) _) (ownFrom_below (Nat.le_refl _) (by omega))) (ownFrom_pure _ _)
  case c9 => exact ⟨⟨⟨⟨bP, bE⟩, bN⟩, hB0⟩, rfl⟩
  case c10 =>
    rintro x a' _ X Y row ⟨g, h1, h2, h3⟩ hg hr
    exact ⟨g, h1, nb_own _ g (fun (_ : Unit) => [plA x, plB x, plC x]) () X Y row h2 hg (fun r e => (hr r e).2), h3⟩
  case assign =>
    rintro l pre x W K ⟨⟨⟨⟨bP1, bE1⟩, bN1⟩, hB1⟩, hp1⟩ hK
    dsimp only [encQ]
    gi_wp2
    have hzW := bN1.lt
    have hsW := hB1.size
    exact hK _ _ ((KeepsOthers.alloc _ _).from _) ((bN1.alloc _).cell.trans bN1.cell.symm) ⟨⟨⟨⟨bP1.alloc _, bE1.alloc _⟩, bN1.alloc _⟩, hB1.alloc hsW _⟩, hp1⟩ ⟨W.heap.size, by omega, Nb.new _ W [plA x, plB x, plC x], rfl⟩
  case body =>
    rintro l pre x a' W hl hr ⟨⟨⟨⟨bP1, bE1⟩, bN1⟩, hB1⟩, hp1⟩ ⟨g, hg, bX, rfl⟩ hlt
    have hmx : Tryz.prog.follows .mixedOrders = true := by kernel_rfl
    have c1 := bP1.cell x.val (by simp)
    have a0 := bX.cell 0 (by simp)
    have a1 := bX.cell 1 (by simp)
    have a2 := bX.cell 2 (by simp)
    have e1 := bE1.cell
    have ef := bE1.frozen
    have hsW := hB1.size
    have bP5 : Nb 34 (W.alloc (.cells #[.int .i64 (plA x), .int .i64 (plB x), .int .i64 (plC x)] 127)).drew w.heap.size [f, p, t, q, n] := bP1.alloc _
    have bE5 : Boxed (W.alloc (.cells #[.int .i64 (plA x), .int .i64 (plB x), .int .i64 (plC x)] 127)).drew (w.heap.size + 1) 41 (.int .i64 0) := bE1.alloc _
    have bN5 : Boxed (W.alloc (.cells #[.int .i64 (plA x), .int .i64 (plB x), .int .i64 (plC x)] 127)).drew (w.heap.size + 1 + 1) 63 (.pointer (some ⟨w.heap.size, 0, none⟩)) := bN1.alloc _
    have hB5 : Below w.heap.size w (W.alloc (.cells #[.int .i64 (plA x), .int .i64 (plB x), .int .i64 (plC x)] 127)).drew := (hB1.alloc hsW _).drew
    have hK5 : KeepsFrom W0.heap.size W (W.alloc (.cells #[.int .i64 (plA x), .int .i64 (plB x), .int .i64 (plC x)] 127)).drew := ((KeepsOthers.alloc W (.cells #[.int .i64 (plA x), .int .i64 (plB x), .int .i64 (plC x)] 127)).trans (KeepsOthers.drew _)).from _
    have hN5 := bN5.cell.trans bN1.cell.symm
    have hs := Kp.mk (show ∀ b, takesP (plA x) (plB x) ([f, p, t, q, n].getD x.val 0) = b → (pre ++ [x]).all (takQ [f, p, t, q, n]) = b by
      intro b hb
      rw [List.all_append, hp1, Bool.true_and, List.all_cons, List.all_nil, Bool.and_true]
      exact hb)
    generalize hv : [f, p, t, q, n].getD x.val 0 = v at *
    clear hv hp1
    gi_wp2
    gi_region_with_o (first | (refine ⟨trivial, ?_⟩; gi_at_call 99; refine (CallsIn.inRound l (callsIn_wide.2 (takes_any _ _ _ _ _))).mono ?_; rintro e w' ⟨rfl, rfl⟩))
    all_goals generalize (W.alloc (.cells #[.int .i64 (plA x), .int .i64 (plB x), .int .i64 (plC x)] 127)).drew = W5 at *
    all_goals clear e1 ef c1 a0 a1 a2 bP1 bE1 bN1
    all_goals have e1 := bE5.cell
    all_goals have ef := bE5.frozen
    all_goals rcases Bool.eq_false_or_eq_true (takesP (plA x) (plB x) v) with ht | ht
    all_goals rw [ht]
    all_goals gi_wp2
    all_goals first
      | exact ⟨hK5, hN5, ⟨⟨⟨bP5, bE5⟩, bN5⟩, hB5⟩, hs.out _ ht⟩
      | exact ⟨hK5.trans ((KeepsOthers.setCell _ _ _).from _), ⟨bE5.set _, hB5.setCell (p := ⟨w.heap.size + 1, 0, none⟩) (by simp) _⟩, rfl, hs.out _ ht⟩
  case done =>
    rintro D ys W hD rfl ⟨⟨⟨⟨bP1, bE1⟩, bN1⟩, hB1⟩, hp1⟩ hK
    have hmx : Tryz.prog.follows .mixedOrders = true := by kernel_rfl
    have hsW := hB1.size
    have c0 := bP1.cell 0 (by simp)
    have c1 := bP1.cell 1 (by simp)
    have c2 := bP1.cell 2 (by simp)
    have c3 := bP1.cell 3 (by simp)
    have c4 := bP1.cell 4 (by simp)
    simp only [List.getD_cons_zero, List.getD_cons_succ] at c0 c1 c2 c3 c4
    have d3 := (bP1.alloc (.cells #[.int .i64 f, .int .i64 p, .int .i64 t, .int .i64 q, .int .i64 n] 34)).cell 3 (by simp)
    simp only [List.getD_cons_zero, List.getD_cons_succ] at d3
    have d3' : (W.alloc (.cells #[.int .i64 f, .int .i64 p, .int .i64 t, .int .i64 q, .int .i64 n] 34)).drew.cell? ⟨w.heap.size, 3, none⟩ = some (.int .i64 q) := d3
    have bE5 : Boxed (W.alloc (.cells #[.int .i64 f, .int .i64 p, .int .i64 t, .int .i64 q, .int .i64 n] 34)).drew (w.heap.size + 1) 41 (.int .i64 0) := bE1.alloc _
    have hB5 : Below w.heap.size w (W.alloc (.cells #[.int .i64 f, .int .i64 p, .int .i64 t, .int .i64 q, .int .i64 n] 34)).drew := (hB1.alloc hsW _).drew
    have hK5 : (W.alloc (.cells #[.int .i64 f, .int .i64 p, .int .i64 t, .int .i64 q, .int .i64 n] 34)).drew.heap[D]? = some (.deferred (some [])) := (Below.heap_alloc W (.cells #[.int .i64 f, .int .i64 p, .int .i64 t, .int .i64 q, .int .i64 n] 34) D (Array.getElem?_eq_some_iff.1 hK).1).trans hK
    have hc := Kp.mk (checkQ_all f p t q n hp1)
    clear hp1
    gi_wp2
    refine wpIn_mono ?_ then_no
    gi_region_with_o (first | (refine ⟨trivial, ?_⟩; gi_at_call 100; refine (callsIn_wide.2 (isFound_any _ _ _ _ _ _)).mono ?_; rintro e w' ⟨rfl, rfl⟩))
    all_goals (try go_simp)
    all_goals generalize (W.alloc (.cells #[.int .i64 f, .int .i64 p, .int .i64 t, .int .i64 q, .int .i64 n] 34)).drew = W5 at *
    all_goals clear c0 c1 c2 c3 c4 d3 d3' hK bP1 bE1 bN1
    all_goals have e1 := bE5.cell
    all_goals have ef := bE5.frozen
    all_goals rcases Bool.eq_false_or_eq_true (!((t != 0) == (q != 0))) with ht | ht
    all_goals rw [ht]
    all_goals have hc2 := Kp.mk (hc.out _ ht)
    all_goals clear hc ht
    all_goals gi_wp2
    all_goals rw [hc2.out]
    all_goals first
      | exact check_end (bE5.set (.int .i64 2)) (hB5.setCell (p := ⟨w.heap.size + 1, 0, none⟩) (by simp) _) ((KeepsOthers.setCell W5 ⟨w.heap.size + 1, 0, none⟩ (.int .i64 2)).same D _ hK5 rfl) (by omega) rfl rfl
      | exact check_end (bE5.set (.int .i64 0)) (hB5.setCell (p := ⟨w.heap.size + 1, 0, none⟩) (by simp) _) ((KeepsOthers.setCell W5 ⟨w.heap.size + 1, 0, none⟩ (.int .i64 0)).same D _ hK5 rfl) (by omega) rfl rfl
  case stop =>
    rintro D c pre W hD hpre ⟨⟨bE1, hB1⟩, rfl, hp1⟩ hK
    have hc := Kp.mk (checkQ_none f p t q n pre hpre hp1)
    clear hp1
    gi_wp2
    rw [hc.out]
    exact check_end bE1 hB1 hK (by omega) rfl rfl
end Go.Proofs.YteambkehdbffmaaGreat.Oct

namespace Go.Proofs.YteambkehdbffmaaGreat.Oct
open Go.RowKit
set_option linter.unusedVariables false

set_option maxRecDepth 100000 in
set_option maxHeartbeats 1600000 in
theorem refCheck_any (f p t q n : Int) (w : World) : Calls Tryz.prog 39 #[.agg #[.int .i64 f, .int .i64 p, .int .i64 t, .int .i64 q, .int .i64 n]] w fun e w' => e = .returned (.int .i64 (checkQ f p t q n)) ∧ Below w.heap.size w w' := by
  by_cases t0 : t = 0
  · subst t0
    by_cases q0 : q = 0
    · subst q0
      by_cases h1 : (1 ≤ f ∧ f ≤ 6) ∧ (1 ≤ p ∧ p ≤ 4)
      · have k1 := show endP f p = true from decide_eq_true h1
        by_cases n0 : n < 0
        · have hp := Kp.mk (show checkQ f p 0 0 n = 2 by exact if_neg (by unfold okQ; omega))
          clear h1
          go_enter Tryz.func39, Tryz.ntmps39
          go_wp2_with (go_at_call 73; refine (end_any _ _ _).mono ?_; rintro e w' ⟨rfl, rfl⟩; simp only [k1])
          rw [hp.out]
          go_ret
          exact ⟨rfl, (Below.refl _ _).alloc (Nat.le_refl _) _⟩
        · by_cases n1 : 65535 < n
          · have hp := Kp.mk (show checkQ f p 0 0 n = 2 by exact if_neg (by unfold okQ; omega))
            clear h1
            go_enter Tryz.func39, Tryz.ntmps39
            go_wp2_with (go_at_call 73; refine (end_any _ _ _).mono ?_; rintro e w' ⟨rfl, rfl⟩; simp only [k1])
            rw [hp.out]
            go_ret
            exact ⟨rfl, (Below.refl _ _).alloc (Nat.le_refl _) _⟩
          · have hp := Kp.mk (show checkQ f p 0 0 n = 0 by exact if_pos (by unfold okQ; omega))
            clear h1
            go_enter Tryz.func39, Tryz.ntmps39
            go_wp2_with (go_at_call 73; refine (end_any _ _ _).mono ?_; rintro e w' ⟨rfl, rfl⟩; simp only [k1])
            rw [hp.out]
            go_ret
            exact ⟨rfl, (Below.refl _ _).alloc (Nat.le_refl _) _⟩
      · have k1 := show endP f p = false from decide_eq_false h1
        have hp := Kp.mk (show checkQ f p 0 0 n = 2 by exact if_neg (by unfold okQ; omega))
        clear h1
        go_enter Tryz.func39, Tryz.ntmps39
        go_wp2_with (go_at_call 73; refine (end_any _ _ _).mono ?_; rintro e w' ⟨rfl, rfl⟩; simp only [k1])
        rw [hp.out]
        go_ret
        exact ⟨rfl, (Below.refl _ _).alloc (Nat.le_refl _) _⟩
    · have e2 : (q == 0) = false := beq_eq_false_iff_ne.2 q0
      have k0 := show endP 0 q = false from decide_eq_false (by omega)
      have hp := Kp.mk (show checkQ f p 0 q n = 2 by exact if_neg (by unfold okQ; omega))
      clear q0
      go_enter Tryz.func39, Tryz.ntmps39
      go_wp2_with (go_at_call 73; refine (end_any _ _ _).mono ?_; rintro e w' ⟨rfl, rfl⟩; simp only [k0])
      rw [hp.out]
      go_ret
      exact ⟨rfl, (Below.refl _ _).alloc (Nat.le_refl _) _⟩
  · have e1 : (t == 0) = false := beq_eq_false_iff_ne.2 t0
    by_cases h0 : (1 ≤ t ∧ t ≤ 6) ∧ (1 ≤ q ∧ q ≤ 4)
    · have k0 := show endP t q = true from decide_eq_true h0
      by_cases h1 : (1 ≤ f ∧ f ≤ 6) ∧ (1 ≤ p ∧ p ≤ 4)
      · have k1 := show endP f p = true from decide_eq_true h1
        by_cases n0 : n < 0
        · have hp := Kp.mk (show checkQ f p t q n = 2 by exact if_neg (by unfold okQ; omega))
          clear h0 t0 h1
          go_enter Tryz.func39, Tryz.ntmps39
          go_wp2_with (go_at_call 73; refine (end_any _ _ _).mono ?_; rintro e w' ⟨rfl, rfl⟩; simp only [k0, k1])
          rw [hp.out]
          go_ret
          exact ⟨rfl, (Below.refl _ _).alloc (Nat.le_refl _) _⟩
        · by_cases n1 : 65535 < n
          · have hp := Kp.mk (show checkQ f p t q n = 2 by exact if_neg (by unfold okQ; omega))
            clear h0 t0 h1
            go_enter Tryz.func39, Tryz.ntmps39
            go_wp2_with (go_at_call 73; refine (end_any _ _ _).mono ?_; rintro e w' ⟨rfl, rfl⟩; simp only [k0, k1])
            rw [hp.out]
            go_ret
            exact ⟨rfl, (Below.refl _ _).alloc (Nat.le_refl _) _⟩
          · have hp := Kp.mk (show checkQ f p t q n = 0 by exact if_pos (by unfold okQ; omega))
            clear h0 t0 h1
            go_enter Tryz.func39, Tryz.ntmps39
            go_wp2_with (go_at_call 73; refine (end_any _ _ _).mono ?_; rintro e w' ⟨rfl, rfl⟩; simp only [k0, k1])
            rw [hp.out]
            go_ret
            exact ⟨rfl, (Below.refl _ _).alloc (Nat.le_refl _) _⟩
      · have k1 := show endP f p = false from decide_eq_false h1
        have hp := Kp.mk (show checkQ f p t q n = 2 by exact if_neg (by unfold okQ; omega))
        clear h0 t0 h1
        go_enter Tryz.func39, Tryz.ntmps39
        go_wp2_with (go_at_call 73; refine (end_any _ _ _).mono ?_; rintro e w' ⟨rfl, rfl⟩; simp only [k0, k1])
        rw [hp.out]
        go_ret
        exact ⟨rfl, (Below.refl _ _).alloc (Nat.le_refl _) _⟩
    · have k0 := show endP t q = false from decide_eq_false h0
      have hp := Kp.mk (show checkQ f p t q n = 2 by exact if_neg (by unfold okQ; omega))
      clear h0 t0
      go_enter Tryz.func39, Tryz.ntmps39
      go_wp2_with (go_at_call 73; refine (end_any _ _ _).mono ?_; rintro e w' ⟨rfl, rfl⟩; simp only [k0])
      rw [hp.out]
      go_ret
      exact ⟨rfl, (Below.refl _ _).alloc (Nat.le_refl _) _⟩

end Go.Proofs.YteambkehdbffmaaGreat.Oct
