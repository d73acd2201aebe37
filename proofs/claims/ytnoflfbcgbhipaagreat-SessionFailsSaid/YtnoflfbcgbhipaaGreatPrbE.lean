import Derived.Test.YtnoflfbcgbhipaaGreatOrdL
import Derived.RangeFuncNested
import Derived.RangeFuncBound
import Derived.RangeFuncCalls
import Derived.RangeFuncLeaves
import Derived.Shelf.Abstract
import Derived.Shelf.RegionOpen
import Derived.WalkKit
import Derived.OwnWalkIn
import Derived.TacticsInMore
import Derived.LoopNIn
import Derived.LoopIn
import Derived.Deep.RegionHeld3
set_option linter.unusedVariables false
set_option maxRecDepth 100000
set_option maxHeartbeats 4000000
namespace Go.Proofs.YtnoflfbcgbhipaaGreat.Oct
open Go.RowKit Go.Shelf
attribute [local go_sem] Oper.semAt_some
def plA (x : Fin 5) : Int := [1, 1, 0, 0, 0].getD x.val 0
def plB (x : Fin 5) : Int := [6, 4, 6, 4, 65535].getD x.val 0
def plC (x : Fin 5) : Int := [1, 1, 1, 1, 2].getD x.val 0
def encQ (g : Nat) (x : Fin 5) : Array Value := #[.agg #[.int .i64 (plA x), .int .i64 (plB x), .int .i64 (plC x)], .pointer (some ⟨g, x.val, none⟩)]
def allQ : List (Fin 5) := [0, 1, 2, 3, 4]
def KpQ (Bn : Nat) (W W' : World) : Prop := W'.cell? ⟨Bn, 0, none⟩ = W.cell? ⟨Bn, 0, none⟩
theorem numbers_any (a : Addr) (w : World) : Calls Tryz.prog 252 #[.pointer (some a)] w fun e w' => e = .returned (.func (.func 265) #[] #[.pointer (some ⟨w.heap.size, 0, none⟩)]) ∧ w.alloc (.cells #[.pointer (some a)] 209) = w' := by
 go_enter Tryz.func252, Tryz.ntmps252
 go_wp2
 go_ret
 exact ⟨rfl, rfl⟩
theorem nums_stops (n g Bn : Nat) (hn : 1 ≤ n) (w : World) (hBn : w.cell? ⟨Bn, 0, none⟩ = some (.pointer (some ⟨g, 0, none⟩))) (hlt : Bn < w.heap.size) :
  SeqStopsK Fence.wide n Tryz.prog 265 #[.pointer (some ⟨Bn, 0, none⟩)] (encQ g) (KpQ Bn) (fun xs => xs = allQ) (fun pre => pre <+: allQ) 5 w := fun l J Jx W hW hJ hJx hY h0 => by
 refine callsIn_of_wp Tryz.func265 rfl trivial ?_ rfl
 simp only [Tryz.ntmps265, List.size_toArray, List.length_cons, List.length_nil, Nat.reduceAdd, Nat.reduceSub, Array.replicate_succ, Array.replicate_zero, List.push_toArray, List.append_toArray, List.nil_append, List.cons_append]
 have hb0 := (hW.cell (p := ⟨Bn, 0, none⟩) hlt).trans hBn
 obtain ⟨f1, t1, a1, b1, hy1, hR1⟩ := hY [] 0 W h0 (by simp)
 replace hy1 : (Instr.yield l #[.agg #[.int .i64 1, .int .i64 6, .int .i64 1], .pointer (some ⟨g, 0, none⟩)]).run Tryz.prog W = _ := hy1
 gi_wp2
 refine hR1.mono ?_
 rintro e W1 (⟨rfl, hJ1, hk1⟩ | ⟨rfl, hx1⟩)
 rotate_left
 ·gi_wp2
  repeat (refine ⟨(fun _ h => (by cases h)), ?_⟩; gi_wp2)
  go_end0
  exact ⟨⟨_, rfl⟩, .inr ⟨_, ⟨[1, 2, 3, 4], rfl⟩, hx1⟩⟩
 ·have hb1 := hk1.trans hb0
  clear hb0 hy1 hR1
  obtain ⟨f2, t2, a2, b2, hy2, hR2⟩ := hY [0] 1 W1 hJ1 (by simp)
  replace hy2 : (Instr.yield l #[.agg #[.int .i64 1, .int .i64 4, .int .i64 1], .pointer (some ⟨g, 1, none⟩)]).run Tryz.prog W1 = _ := hy2
  gi_wp2
  refine hR2.mono ?_
  rintro e W2 (⟨rfl, hJ2, hk2⟩ | ⟨rfl, hx2⟩)
  rotate_left
  ·gi_wp2
   repeat (refine ⟨(fun _ h => (by cases h)), ?_⟩; gi_wp2)
   go_end0
   exact ⟨⟨_, rfl⟩, .inr ⟨_, ⟨[2, 3, 4], rfl⟩, hx2⟩⟩
  ·have hb2 := hk2.trans hb1
   clear hb1 hy2 hR2
   obtain ⟨f3, t3, a3, b3, hy3, hR3⟩ := hY [0, 1] 2 W2 hJ2 (by simp)
   replace hy3 : (Instr.yield l #[.agg #[.int .i64 0, .int .i64 6, .int .i64 1], .pointer (some ⟨g, 2, none⟩)]).run Tryz.prog W2 = _ := hy3
   gi_wp2
   refine hR3.mono ?_
   rintro e W3 (⟨rfl, hJ3, hk3⟩ | ⟨rfl, hx3⟩)
   rotate_left
   ·gi_wp2
    repeat (refine ⟨(fun _ h => (by cases h)), ?_⟩; gi_wp2)
    go_end0
    exact ⟨⟨_, rfl⟩, .inr ⟨_, ⟨[3, 4], rfl⟩, hx3⟩⟩
   ·have hb3 := hk3.trans hb2
    clear hb2 hy3 hR3
    obtain ⟨f4, t4, a4, b4, hy4, hR4⟩ := hY [0, 1, 2] 3 W3 hJ3 (by simp)
    replace hy4 : (Instr.yield l #[.agg #[.int .i64 0, .int .i64 4, .int .i64 1], .pointer (some ⟨g, 3, none⟩)]).run Tryz.prog W3 = _ := hy4
    gi_wp2
    refine hR4.mono ?_
    rintro e W4 (⟨rfl, hJ4, hk4⟩ | ⟨rfl, hx4⟩)
    rotate_left
    ·gi_wp2
     repeat (refine ⟨(fun _ h => (by cases h)), ?_⟩; gi_wp2)
     go_end0
     exact ⟨⟨_, rfl⟩, .inr ⟨_, ⟨[4], rfl⟩, hx4⟩⟩
    ·have hb4 := hk4.trans hb3
     clear hb3 hy4 hR4
     obtain ⟨f5, t5, a5, b5, hy5, hR5⟩ := hY [0, 1, 2, 3] 4 W4 hJ4 (by simp)
     replace hy5 : (Instr.yield l #[.agg #[.int .i64 0, .int .i64 65535, .int .i64 2], .pointer (some ⟨g, 4, none⟩)]).run Tryz.prog W4 = _ := hy5
     gi_wp2
     refine hR5.mono ?_
     rintro e W5 (⟨rfl, hJ5, hk5⟩ | ⟨rfl, hx5⟩)
     rotate_left
     ·gi_wp2
      repeat (refine ⟨(fun _ h => (by cases h)), ?_⟩; gi_wp2)
      go_end0
      exact ⟨⟨_, rfl⟩, .inr ⟨_, ⟨[], rfl⟩, hx5⟩⟩
     ·have hb5 := hk5.trans hb4
      clear hb4 hy5 hR5
      gi_wp2
      go_end0
      exact ⟨⟨_, rfl⟩, .inl ⟨_, rfl, hJ5⟩⟩
def takesP (a b v : Int) : Bool := decide (a ≤ v ∧ v ≤ b)
theorem takes_any (a b c v : Int) (w : World) : Calls Tryz.prog 253 #[.agg #[.int .i64 a, .int .i64 b, .int .i64 c], .int .i64 v] w fun e w' => e = .returned (.bool (takesP a b v)) ∧ w.alloc (.cells #[.int .i64 a, .int .i64 b, .int .i64 c] 293) = w' := by
 by_cases h1 : a ≤ v
 ·by_cases h2 : v ≤ b
  ·have hp := Kp.mk (show takesP a b v = true from decide_eq_true ⟨h1, h2⟩)
   go_enter Tryz.func253, Tryz.ntmps253
   go_wp2_with fail
   rw [hp.out]
   go_ret
   exact ⟨rfl, rfl⟩
  ·have hp := Kp.mk (show takesP a b v = false from decide_eq_false (fun h => h2 h.2))
   go_enter Tryz.func253, Tryz.ntmps253
   go_wp2_with fail
   rw [hp.out]
   go_ret
   exact ⟨rfl, rfl⟩
 ·have hp := Kp.mk (show takesP a b v = false from decide_eq_false (fun h => h1 h.1))
  go_enter Tryz.func253, Tryz.ntmps253
  go_wp2_with fail
  rw [hp.out]
  go_ret
  exact ⟨rfl, rfl⟩
theorem isFound_any (f p t q n : Int) (w : World) : Calls Tryz.prog 254 #[.agg #[.int .i64 f, .int .i64 p, .int .i64 t, .int .i64 q, .int .i64 n]] w fun e w' => e = .returned (.bool (t != 0)) ∧ w.alloc (.cells #[.int .i64 f, .int .i64 p, .int .i64 t, .int .i64 q, .int .i64 n] 49) = w' := by
 go_enter Tryz.func254, Tryz.ntmps254
 go_wp2_with fail
 go_ret
 exact ⟨rfl, rfl⟩
open Go.RowKit Go.Shelf
attribute [local go_sem] Oper.semAt_some
def takQ (vs : List Int) (x : Fin 5) : Bool := takesP (plA x) (plB x) (vs.getD x.val 0)
theorem kpQ_t {Bn : Nat} {A B C : World} (h1 : KpQ Bn A B) (h2 : KpQ Bn B C) : KpQ Bn A C := Eq.trans h2 h1
theorem kpQ_b {Bn : Nat} {w : World} (hlt : Bn < w.heap.size) (W : World) (l : Nat) (o o' : Obj) (hl : w.heap.size ≤ l) (h : W.heap[l]? = some o) (_ : o.isCells = false) (_ : o.isWalk = false) : KpQ Bn W (W.putObj l o') := by
 have := (grownBy_putObj' W l o').block Bn (by have := (Array.getElem?_eq_some_iff.1 h).1; omega) (by simp; omega)
 simp only [KpQ, World.cell?, this]
theorem takQ_all (f p t q n : Int) : allQ.all (takQ [f, p, t, q, n]) = true ↔ ((1 ≤ f ∧ f ≤ 6) ∧ (1 ≤ p ∧ p ≤ 4) ∧ (0 ≤ t ∧ t ≤ 6) ∧ (0 ≤ q ∧ q ≤ 4) ∧ (0 ≤ n ∧ n ≤ 65535)) := by
 have e : allQ.all (takQ [f, p, t, q, n]) = (takesP 1 6 f && (takesP 1 4 p && (takesP 0 6 t && (takesP 0 4 q && (takesP 0 65535 n && true))))) := rfl
 rw [e]
 simp [takesP]
theorem checkQ_all (f p t q n : Int) (h : allQ.all (takQ [f, p, t, q, n]) = true) : ∀ b, (!((t != 0) == (q != 0))) = b → checkQ f p t q n = if b then 2 else 0 := by
 rintro b rfl
 have h := (takQ_all f p t q n).1 h
 by_cases ok : okQ f p t q n
 ·rw [checkQ, if_pos ok, if_neg]
  obtain ⟨_, _, h3, _⟩ := ok
  by_cases ht : t = 0
  ·have hq : q = 0 := by omega
   simp [ht, hq]
  ·have hq : q ≠ 0 := by omega
   rw [bne_iff_ne.2 ht, bne_iff_ne.2 hq]
   simp
 ·rw [checkQ, if_neg ok, if_pos]
  by_cases ht : t = 0
  ·by_cases hq : q = 0
   ·exact absurd ⟨by omega, by omega, by omega, by omega⟩ ok
   ·simp [ht, hq]
  ·by_cases hq : q = 0
   ·simp [ht, hq]
   ·exact absurd ⟨by omega, by omega, by omega, by omega⟩ ok
theorem checkQ_none (f p t q n : Int) (pre : List (Fin 5)) (hp : pre <+: allQ) (h : pre.all (takQ [f, p, t, q, n]) = false) : checkQ f p t q n = 2 := by
 rw [checkQ, if_neg]
 intro ok
 have h2 : allQ.all (takQ [f, p, t, q, n]) = true := (takQ_all f p t q n).2 (by unfold okQ at ok; omega)
 obtain ⟨s, hs⟩ := hp
 rw [← hs, List.all_append, h] at h2
 simp at h2
theorem check_end {w W : World} {D : Nat} {c : Int} {a : Act} (bE : Boxed W (w.heap.size + 1) 24 (.int .i64 c)) (hB : Below w.heap.size w W) (hK : W.heap[D]? = some (.deferred (some []))) (hD : w.heap.size ≤ D)
  (ha : a.tmps[2]? = some (.pointer (some ⟨w.heap.size + 1, 0, none⟩))) (hd : a.defers = [{ target := Target.collected D, args := #[] }]) :
  bodyPostM Fence.wide 8 Tryz.prog Tryz.f232 (fun e w' => e = .returned (.int .i64 c) ∧ Below w.heap.size w w') Exit.ret a W := by
 have hc5 := cell_kept bE.cell (grownBy_putObj' _ D (.deferred none)) (fun r e => by cases e; exact ⟨_, hK, rfl⟩)
 obtain ⟨tmps, defers⟩ := a
 simp only at ha hd
 subst hd
 refine ⟨by simp, .inl ⟨_, _, rfl, run_takeDeferred hK, ?_⟩⟩
 refine ⟨.int .i64 c, ?_, rfl, hB.trans (belowK_b (w := w) (Nat.le_refl _) W D _ _ hD hK rfl rfl)⟩
 simp [results, Tryz.f232, go_sem, ha, hc5]
theorem then_no {K : Act → World → Prop} {Q : Exit → Act → World → Prop} : ∀ e a w, Exit.then K (fun _ _ _ => False) e a w → Exit.then K Q e a w := by
 intro e a w h
 cases e <;> first | exact h | exact h.elim
theorem check_any (f p t q n : Int) (w : World) : Calls Tryz.prog 232 #[.agg #[.int .i64 f, .int .i64 p, .int .i64 t, .int .i64 q, .int .i64 n]] w fun e w' => e = .returned (.int .i64 (checkQ f p t q n)) ∧ Below w.heap.size w w' := by
 refine (callsIn_wide (n := 8)).1 ?_
 refine callsIn_of_wp_marks Tryz.func232 rfl trivial ?_ rfl
 simp only [Tryz.ntmps232, List.size_toArray, List.length_cons, List.length_nil, Nat.reduceAdd, Nat.reduceSub, Array.replicate_succ, Array.replicate_zero, List.push_toArray, List.append_toArray, List.nil_append, List.cons_append]
 gi_wp2_with (refine ⟨trivial, ?_⟩; gi_at_call 252; refine (callsIn_wide.2 (numbers_any _ _)).mono ?_; rintro e w' ⟨rfl, rfl⟩)
 have bP : Nb 49 _ w.heap.size [f, p, t, q, n] := ((Nb.new 49 w [f, p, t, q, n]).alloc (.cells #[.int .i64 0] 24)).alloc (.cells #[.pointer (some ⟨w.heap.size, 0, none⟩)] 209)
 have bE := (Boxed.new (w.alloc (.cells #[.int .i64 f, .int .i64 p, .int .i64 t, .int .i64 q, .int .i64 n] 49)) 24 (.int .i64 0)).alloc (.cells #[.pointer (some ⟨w.heap.size, 0, none⟩)] 209)
 have bN := Boxed.new ((w.alloc (.cells #[.int .i64 f, .int .i64 p, .int .i64 t, .int .i64 q, .int .i64 n] 49)).alloc (.cells #[.int .i64 0] 24)) 209 (.pointer (some ⟨w.heap.size, 0, none⟩))
 simp only [World.size_alloc] at bE bN
 have hB0 : Below w.heap.size w (((w.alloc (.cells #[.int .i64 f, .int .i64 p, .int .i64 t, .int .i64 q, .int .i64 n] 49)).alloc (.cells #[.int .i64 0] 24)).alloc (.cells #[.pointer (some ⟨w.heap.size, 0, none⟩)] 209)) := (((Below.refl _ w).alloc (Nat.le_refl _) _).alloc (by simp) _).alloc (by simp; omega) _
 have hsz : (((w.alloc (.cells #[.int .i64 f, .int .i64 p, .int .i64 t, .int .i64 q, .int .i64 n] 49)).alloc (.cells #[.int .i64 0] 24)).alloc (.cells #[.pointer (some ⟨w.heap.size, 0, none⟩)] 209)).heap.size = w.heap.size + 3 := by simp
 change Nb 49 (((w.alloc (.cells #[.int .i64 f, .int .i64 p, .int .i64 t, .int .i64 q, .int .i64 n] 49)).alloc (.cells #[.int .i64 0] 24)).alloc (.cells #[.pointer (some ⟨w.heap.size, 0, none⟩)] 209)) w.heap.size [f, p, t, q, n] at bP
 obtain ⟨W0, hW0⟩ : ∃ W0, (((w.alloc (.cells #[.int .i64 f, .int .i64 p, .int .i64 t, .int .i64 q, .int .i64 n] 49)).alloc (.cells #[.int .i64 0] 24)).alloc (.cells #[.pointer (some ⟨w.heap.size, 0, none⟩)] 209)) = W0 := ⟨_, rfl⟩
 rw [hW0] at bP bE bN hB0 hsz ⊢
 clear hW0
 refine wpIn_rangeFunc_ownH (Kp := KpQ (w.heap.size + 1 + 1)) (w0 := W0) (encs := encQ w.heap.size) (S := fun xs => xs = allQ) (Sp := fun pre => pre <+: allQ) (N := 5) rfl (by omega) (gf := 265) (lb := #[.pointer (some ⟨w.heap.size + 1 + 1, 0, none⟩)]) ?c1 trivial ?c2
  ?c3 ?c4 ?c5 (Below.refl _ _) ?c6
  (fun pre W => (((Nb 49 W w.heap.size [f, p, t, q, n] ∧ Boxed W (w.heap.size + 1) 24 (.int .i64 0)) ∧ Boxed W (w.heap.size + 1 + 1) 209 (.pointer (some ⟨w.heap.size, 0, none⟩))) ∧ Below w.heap.size w W) ∧ pre.all (takQ [f, p, t, q, n]) = true)
  (fun c pre W => (Boxed W (w.heap.size + 1) 24 (.int .i64 2) ∧ Below w.heap.size w W) ∧ c = .ret ∧ pre.all (takQ [f, p, t, q, n]) = false)
  ?c7 ?c8 ?c9
  (fun x a' W => ∃ g, w.heap.size + 1 + 1 < g ∧ Nb 293 W g [plA x, plB x, plC x] ∧ a' = { tmps := #[.agg #[.int .i64 f, .int .i64 p, .int .i64 t, .int .i64 q, .int .i64 n], .pointer (some ⟨w.heap.size, 0, none⟩), .pointer (some ⟨w.heap.size + 1, 0, none⟩), .pointer (some ⟨g, 0, none⟩), .pointer (some ⟨w.heap.size, x.val, none⟩), .func (.func 265) #[] #[.pointer (some ⟨w.heap.size + 1 + 1, 0, none⟩)], .agg #[.int .i64 (plA x), .int .i64 (plB x), .int .i64 (plC x)], .pointer (some ⟨w.heap.size, x.val, none⟩), undef, undef, undef, undef, undef, undef, undef, undef, undef, undef, undef, undef], defers := [] })
  ?c10
  ?assign ?body ?done ?stop
 case c1 => rfl
 case c2 => exact enters_of Tryz.func265 (by kernel_rfl) rfl
 case c3 => exact nums_stops _ w.heap.size (w.heap.size + 1 + 1) (by omega) W0 bN.cell (by omega)
 case c4 => exact kpQ_t
 case c5 => exact kpQ_b (by omega)
 case c6 => exact fun _ => rfl
 case c7 => exact OwnFrom.and (OwnFrom.and (OwnFrom.and (OwnFrom.and (Own.from (nb_own _ _ _) _) (Own.from (boxed_own _ _ _) _)) (Own.from (boxed_own _ _ _) _)) (ownFrom_below (Nat.le_refl _) (by omega))) (ownFrom_pure _ _)
 case c8 => exact fun c => OwnFrom.and (OwnFrom.and (Own.from (boxed_own _ _ _) _) (ownFrom_below (Nat.le_refl _) (by omega))) (ownFrom_pure _ _)
 case c9 => exact ⟨⟨⟨⟨bP, bE⟩, bN⟩, hB0⟩, rfl⟩
 case c10 =>
  rintro x a' _ X Y row ⟨g, h1, h2, h3⟩ hg hr
  exact ⟨g, h1, nb_own _ g (fun (_ : Unit) => [plA x, plB x, plC x]) () X Y row h2 hg (fun r e => (hr r e).2), h3⟩
 case assign =>
  rintro l pre x W K ⟨⟨⟨⟨bP1, bE1⟩, bN1⟩, hB1⟩, hp1⟩ hK
  dsimp only [encQ]
  gi_wp2
  have hzW := bN1.lt
  have hsW := hB1.size
  exact hK _ _ ((KeepsOthers.alloc _ _).from _) ((bN1.alloc _).cell.trans bN1.cell.symm) ⟨⟨⟨⟨bP1.alloc _, bE1.alloc _⟩, bN1.alloc _⟩, hB1.alloc hsW _⟩, hp1⟩ ⟨W.heap.size, by omega, Nb.new _ W [plA x, plB x, plC x], rfl⟩
 case body =>
  rintro l pre x a' W hl hr ⟨⟨⟨⟨bP1, bE1⟩, bN1⟩, hB1⟩, hp1⟩ ⟨g, hg, bX, rfl⟩ hlt
  have hmx : Tryz.prog.follows .mixedOrders = true := by kernel_rfl
  have c1 := bP1.cell x.val (by simp)
  have a0 := bX.cell 0 (by simp)
  have a1 := bX.cell 1 (by simp)
  have a2 := bX.cell 2 (by simp)
  have e1 := bE1.cell
  have ef := bE1.frozen
  have hsW := hB1.size
  have bP5 : Nb 49 (W.alloc (.cells #[.int .i64 (plA x), .int .i64 (plB x), .int .i64 (plC x)] 293)).drew w.heap.size [f, p, t, q, n] := bP1.alloc _
  have bE5 : Boxed (W.alloc (.cells #[.int .i64 (plA x), .int .i64 (plB x), .int .i64 (plC x)] 293)).drew (w.heap.size + 1) 24 (.int .i64 0) := bE1.alloc _
  have bN5 : Boxed (W.alloc (.cells #[.int .i64 (plA x), .int .i64 (plB x), .int .i64 (plC x)] 293)).drew (w.heap.size + 1 + 1) 209 (.pointer (some ⟨w.heap.size, 0, none⟩)) := bN1.alloc _
  have hB5 : Below w.heap.size w (W.alloc (.cells #[.int .i64 (plA x), .int .i64 (plB x), .int .i64 (plC x)] 293)).drew := (hB1.alloc hsW _).drew
  have hK5 : KeepsFrom W0.heap.size W (W.alloc (.cells #[.int .i64 (plA x), .int .i64 (plB x), .int .i64 (plC x)] 293)).drew := ((KeepsOthers.alloc W (.cells #[.int .i64 (plA x), .int .i64 (plB x), .int .i64 (plC x)] 293)).trans (KeepsOthers.drew _)).from _
  have hN5 := bN5.cell.trans bN1.cell.symm
  have hs := Kp.mk (show ∀ b, takesP (plA x) (plB x) ([f, p, t, q, n].getD x.val 0) = b → (pre ++ [x]).all (takQ [f, p, t, q, n]) = b by
   intro b hb
   rw [List.all_append, hp1, Bool.true_and, List.all_cons, List.all_nil, Bool.and_true]
   exact hb)
  generalize hv : [f, p, t, q, n].getD x.val 0 = v at *
  clear hv hp1
  gi_wp2
  gi_region_with_o (first | (refine ⟨trivial, ?_⟩; gi_at_call 253; refine (CallsIn.inRound l (callsIn_wide.2 (takes_any _ _ _ _ _))).mono ?_; rintro e w' ⟨rfl, rfl⟩))
  all_goals generalize (W.alloc (.cells #[.int .i64 (plA x), .int .i64 (plB x), .int .i64 (plC x)] 293)).drew = W5 at *
  all_goals clear e1 ef c1 a0 a1 a2 bP1 bE1 bN1
  all_goals have e1 := bE5.cell
  all_goals have ef := bE5.frozen
  all_goals rcases Bool.eq_false_or_eq_true (takesP (plA x) (plB x) v) with ht | ht
  all_goals rw [ht]
  all_goals gi_wp2
  all_goals first
   | exact ⟨hK5, hN5, ⟨⟨⟨bP5, bE5⟩, bN5⟩, hB5⟩, hs.out _ ht⟩
   | exact ⟨hK5.trans ((KeepsOthers.setCell _ _ _).from _), ⟨bE5.set _, hB5.setCell (p := ⟨w.heap.size + 1, 0, none⟩) (by simp) _⟩, rfl, hs.out _ ht⟩
 case done =>
  rintro D ys W hD rfl ⟨⟨⟨⟨bP1, bE1⟩, bN1⟩, hB1⟩, hp1⟩ hK
  have hmx : Tryz.prog.follows .mixedOrders = true := by kernel_rfl
  have hsW := hB1.size
  have c0 := bP1.cell 0 (by simp)
  have c1 := bP1.cell 1 (by simp)
  have c2 := bP1.cell 2 (by simp)
  have c3 := bP1.cell 3 (by simp)
  have c4 := bP1.cell 4 (by simp)
  simp only [List.getD_cons_zero, List.getD_cons_succ] at c0 c1 c2 c3 c4
  have d3 := (bP1.alloc (.cells #[.int .i64 f, .int .i64 p, .int .i64 t, .int .i64 q, .int .i64 n] 49)).cell 3 (by simp)
  simp only [List.getD_cons_zero, List.getD_cons_succ] at d3
  have d3' : (W.alloc (.cells #[.int .i64 f, .int .i64 p, .int .i64 t, .int .i64 q, .int .i64 n] 49)).drew.cell? ⟨w.heap.size, 3, none⟩ = some (.int .i64 q) := d3
  have bE5 : Boxed (W.alloc (.cells #[.int .i64 f, .int .i64 p, .int .i64 t, .int .i64 q, .int .i64 n] 49)).drew (w.heap.size + 1) 24 (.int .i64 0) := bE1.alloc _
  have hB5 : Below w.heap.size w (W.alloc (.cells #[.int .i64 f, .int .i64 p, .int .i64 t, .int .i64 q, .int .i64 n] 49)).drew := (hB1.alloc hsW _).drew
  have hK5 : (W.alloc (.cells #[.int .i64 f, .int .i64 p, .int .i64 t, .int .i64 q, .int .i64 n] 49)).drew.heap[D]? = some (.deferred (some [])) := (Below.heap_alloc W (.cells #[.int .i64 f, .int .i64 p, .int .i64 t, .int .i64 q, .int .i64 n] 49) D (Array.getElem?_eq_some_iff.1 hK).1).trans hK
  have hc := Kp.mk (checkQ_all f p t q n hp1)
  clear hp1
  gi_wp2
  refine wpIn_mono ?_ then_no
  gi_region_with_o (first | (refine ⟨trivial, ?_⟩; gi_at_call 254; refine (callsIn_wide.2 (isFound_any _ _ _ _ _ _)).mono ?_; rintro e w' ⟨rfl, rfl⟩))
  all_goals (try go_simp)
  all_goals generalize (W.alloc (.cells #[.int .i64 f, .int .i64 p, .int .i64 t, .int .i64 q, .int .i64 n] 49)).drew = W5 at *
  all_goals clear c0 c1 c2 c3 c4 d3 d3' hK bP1 bE1 bN1
  all_goals have e1 := bE5.cell
  all_goals have ef := bE5.frozen
  all_goals rcases Bool.eq_false_or_eq_true (!((t != 0) == (q != 0))) with ht | ht
  all_goals rw [ht]
  all_goals have hc2 := Kp.mk (hc.out _ ht)
  all_goals clear hc ht
  all_goals gi_wp2
  all_goals rw [hc2.out]
  all_goals first
   | exact check_end (bE5.set (.int .i64 2)) (hB5.setCell (p := ⟨w.heap.size + 1, 0, none⟩) (by simp) _) ((KeepsOthers.setCell W5 ⟨w.heap.size + 1, 0, none⟩ (.int .i64 2)).same D _ hK5 rfl) (by omega) rfl rfl
   | exact check_end (bE5.set (.int .i64 0)) (hB5.setCell (p := ⟨w.heap.size + 1, 0, none⟩) (by simp) _) ((KeepsOthers.setCell W5 ⟨w.heap.size + 1, 0, none⟩ (.int .i64 0)).same D _ hK5 rfl) (by omega) rfl rfl
 case stop =>
  rintro D c pre W hD hpre ⟨⟨bE1, hB1⟩, rfl, hp1⟩ hK
  have hc := Kp.mk (checkQ_none f p t q n pre hpre hp1)
  clear hp1
  gi_wp2
  rw [hc.out]
  exact check_end bE1 hB1 hK (by omega) rfl rfl
open Go.RowKit Go.Shelf
attribute [local go_sem] Oper.semAt_some
def bq (vs : List Int) (pre : List (Fin 5)) : List Int := pre.flatMap fun x => dg (plC x).toNat (vs.getD x.val 0)
theorem bq_snoc (vs : List Int) (pre : List (Fin 5)) (x : Fin 5) : bq vs (pre ++ [x]) = bq vs pre ++ dg (plC x).toNat (vs.getD x.val 0) := by simp [bq]
theorem plC_cases : ∀ x : Fin 5, plC x = 1 ∨ plC x = 2 := by decide
theorem bq_len (vs : List Int) (pre : List (Fin 5)) : (bq vs pre).length ≤ 2 * pre.length := by
 induction pre with
 | nil => simp [bq]
 | cons x pre ih =>
  have h1 : bq vs (x :: pre) = dg (plC x).toNat (vs.getD x.val 0) ++ bq vs pre := by simp [bq]
  rw [h1, List.length_append, dg_len, List.length_cons]
  have := plC_cases x
  omega
theorem bq_all (f p t q n : Int) : bq [f, p, t, q, n] allQ = qB f p t q n := by
 show dg 1 f ++ (dg 1 p ++ (dg 1 t ++ (dg 1 q ++ (dg 2 n ++ [])))) = _
 rw [List.append_nil]; rfl
theorem okQ_fit (f p t q n : Int) (ok : okQ f p t q n) (x : Fin 5) : 0 ≤ [f, p, t, q, n].getD x.val 0 ∧ [f, p, t, q, n].getD x.val 0 < 2 ^ (8 * (plC x).toNat) := by
 unfold okQ at ok
 match x with
 | 0 => exact ⟨by show 0 ≤ f; omega, by show f < 256; omega⟩
 | 1 => exact ⟨by show 0 ≤ p; omega, by show p < 256; omega⟩
 | 2 => exact ⟨by show 0 ≤ t; omega, by show t < 256; omega⟩
 | 3 => exact ⟨by show 0 ≤ q; omega, by show q < 256; omega⟩
 | 4 => exact ⟨by show 0 ≤ n; omega, by show n < 65536; omega⟩
theorem put_one {W : World} {B : Nat} {A : Option Addr} {k c : Nat} {l : List Int} (s v : Int) (hs : s = 1 ∨ s = 2) (hv : 0 ≤ v ∧ v < 2 ^ (8 * s.toNat)) (h : Rd .u8 W B A k c l) (hB : B ≤ W.heap.size) (hk : k ≤ 100) :
  Calls Tryz.prog 154 #[.slice A k c, .int .i64 s, .slice (some ⟨W.heap.size, 0, none⟩) 1 1] (W.alloc (.cells #[.int .i64 v] 3)).drew (PairOf (l ++ dg s.toNat v) 0 W) := by
 have hp := putP_one l s.toNat (by omega) v hv.1 hv.2
 rw [show ((s.toNat : Nat) : Int) = s from by omega] at hp
 have := put_lit (w := W.drew) s [v] (h.below (Below.refl _ _).drew) hB (by simp) (by omega)
 rw [hp] at this
 refine this.mono ?_
 rintro e w' ⟨A', n', c', h1, h2, h3⟩
 exact ⟨A', n', c', h1, h2, ((Below.refl W.heap.size W).drew).trans h3⟩
theorem _root_.Go.Boxed.below {W W' : World} {B n : Nat} {T : TypeId} {v : Value} (h : Boxed W B T v) (hb : Below n W W') (hlt : B < n) : Boxed W' B T v := (hb.block B hlt).trans h
theorem ownsRow_lower {w : World} {base b : Nat} {e : TypeId} {size : Nat} {v : Value} {n : Nat} {xs : List Value} (h : w.ownsRow base e size v n xs) (hb : b ≤ base) : w.ownsRow b e size v n xs := by
 refine ⟨h.1, ?_⟩
 rcases h.2 with h2 | ⟨g, cap, cur, e, hbg, r⟩
 ·exact .inl h2
 ·exact .inr ⟨g, cap, cur, e, by omega, r⟩
theorem keepsFrom_of_below {W W' : World} (h : Below W.heap.size W W') (B : Nat) : KeepsFrom B W W' :=
 ⟨h.size, fun k o _ hk _ => (h.block k (Array.getElem?_eq_some_iff.1 hk).1).trans hk⟩
theorem body_any (f p t q n : Int) (w : World) (ok : okQ f p t q n) :
  Calls Tryz.prog 234 #[.agg #[.int .i64 f, .int .i64 p, .int .i64 t, .int .i64 q, .int .i64 n]] w (NewOf (qB f p t q n) w) := by
 have hfit := Kp.mk (okQ_fit f p t q n ok)
 clear ok
 refine (callsIn_wide (n := 8)).1 ?_
 refine callsIn_of_wp_marks Tryz.func234 rfl trivial ?_ rfl
 simp only [Tryz.ntmps234, List.size_toArray, List.length_cons, List.length_nil, Nat.reduceAdd, Nat.reduceSub, Array.replicate_succ, Array.replicate_zero, List.push_toArray, List.append_toArray, List.nil_append, List.cons_append]
 gi_wp2_with (refine ⟨trivial, ?_⟩; gi_at_call 252; refine (callsIn_wide.2 (numbers_any _ _)).mono ?_; rintro e w' ⟨rfl, rfl⟩)
 have bP : Nb 49 (((w.alloc (.cells #[.int .i64 f, .int .i64 p, .int .i64 t, .int .i64 q, .int .i64 n] 49)).alloc (.cells #[.slice none 0 0] 52)).alloc (.cells #[.pointer (some ⟨w.heap.size, 0, none⟩)] 209)) w.heap.size [f, p, t, q, n] := ((Nb.new 49 w [f, p, t, q, n]).alloc (.cells #[.slice none 0 0] 52)).alloc (.cells #[.pointer (some ⟨w.heap.size, 0, none⟩)] 209)
 have bE := (Boxed.new (w.alloc (.cells #[.int .i64 f, .int .i64 p, .int .i64 t, .int .i64 q, .int .i64 n] 49)) 52 (.slice none 0 0)).alloc (.cells #[.pointer (some ⟨w.heap.size, 0, none⟩)] 209)
 have bN := Boxed.new ((w.alloc (.cells #[.int .i64 f, .int .i64 p, .int .i64 t, .int .i64 q, .int .i64 n] 49)).alloc (.cells #[.slice none 0 0] 52)) 209 (.pointer (some ⟨w.heap.size, 0, none⟩))
 simp only [World.size_alloc] at bE bN
 have hB0 : Below w.heap.size w (((w.alloc (.cells #[.int .i64 f, .int .i64 p, .int .i64 t, .int .i64 q, .int .i64 n] 49)).alloc (.cells #[.slice none 0 0] 52)).alloc (.cells #[.pointer (some ⟨w.heap.size, 0, none⟩)] 209)) := (((Below.refl _ w).alloc (Nat.le_refl _) _).alloc (by simp) _).alloc (by simp; omega) _
 have hsz : (((w.alloc (.cells #[.int .i64 f, .int .i64 p, .int .i64 t, .int .i64 q, .int .i64 n] 49)).alloc (.cells #[.slice none 0 0] 52)).alloc (.cells #[.pointer (some ⟨w.heap.size, 0, none⟩)] 209)).heap.size = w.heap.size + 3 := by simp
 obtain ⟨W0, hW0⟩ : ∃ W0, (((w.alloc (.cells #[.int .i64 f, .int .i64 p, .int .i64 t, .int .i64 q, .int .i64 n] 49)).alloc (.cells #[.slice none 0 0] 52)).alloc (.cells #[.pointer (some ⟨w.heap.size, 0, none⟩)] 209)) = W0 := ⟨_, rfl⟩
 rw [hW0] at bP bE bN hB0 hsz ⊢
 clear hW0
 refine wpIn_rangeFunc_ownH (Kp := KpQ (w.heap.size + 1 + 1)) (w0 := W0) (encs := encQ w.heap.size) (S := fun xs => xs = allQ) (Sp := fun pre => pre <+: allQ) (N := 5) rfl (by omega) (gf := 265) (lb := #[.pointer (some ⟨w.heap.size + 1 + 1, 0, none⟩)]) ?c1 trivial ?c2
  ?c3 ?c4 ?c5 (Below.refl _ _) ?c6
  (fun pre W => ((Nb 49 W w.heap.size [f, p, t, q, n] ∧ Boxed W (w.heap.size + 1 + 1) 209 (.pointer (some ⟨w.heap.size, 0, none⟩))) ∧ Below w.heap.size w W) ∧ (∃ v, Boxed W (w.heap.size + 1) 52 v ∧ W.ownsRow w.heap.size 5 1 v (bq [f, p, t, q, n] pre).length ((bq [f, p, t, q, n] pre).map (Value.int .u8)) ∧ True))
  (fun c pre W => False)
  ?c7 ?c8 ?c9
  (fun x a' W => ∃ g, w.heap.size + 1 + 1 < g ∧ Nb 293 W g [plA x, plB x, plC x] ∧ a' = { tmps := #[.agg #[.int .i64 f, .int .i64 p, .int .i64 t, .int .i64 q, .int .i64 n], .pointer (some ⟨w.heap.size, 0, none⟩), .slice none 0 0, .pointer (some ⟨w.heap.size + 1, 0, none⟩), .pointer (some ⟨g, 0, none⟩), .pointer (some ⟨w.heap.size, x.val, none⟩), .func (.func 265) #[] #[.pointer (some ⟨w.heap.size + 1 + 1, 0, none⟩)], .agg #[.int .i64 (plA x), .int .i64 (plB x), .int .i64 (plC x)], .pointer (some ⟨w.heap.size, x.val, none⟩), undef, undef, undef, undef, undef, undef, undef, undef, undef, undef, undef, undef], defers := [] })
  ?c10
  ?assign ?body ?done ?stop
 case c1 => rfl
 case c2 => exact enters_of Tryz.func265 (by kernel_rfl) rfl
 case c3 => exact nums_stops _ w.heap.size (w.heap.size + 1 + 1) (by omega) W0 bN.cell (by omega)
 case c4 => exact kpQ_t
 case c5 => exact kpQ_b (by omega)
 case c6 => exact fun _ => rfl
 case c7 => exact OwnFrom.and (OwnFrom.and (OwnFrom.and (Own.from (nb_own _ _ _) _) (Own.from (boxed_own _ _ _) _)) (ownFrom_below (Nat.le_refl _) (by omega))) (Own.from (holdsRow_own _ _ _ _ _ (fun pre => (bq [f, p, t, q, n] pre).length) (fun pre => (bq [f, p, t, q, n] pre).map (Value.int .u8)) (fun _ _ => True)) _)
 case c8 => exact fun _ _ _ _ _ hs _ _ => hs
 case c9 => exact ⟨⟨⟨bP, bN⟩, hB0⟩, _, bE, World.ownsRow_nil W0 _ _ 1, trivial⟩
 case c10 =>
  rintro x a' _ X Y row ⟨g, h1, h2, h3⟩ hg hr
  exact ⟨g, h1, nb_own _ g (fun (_ : Unit) => [plA x, plB x, plC x]) () X Y row h2 hg (fun r e => (hr r e).2), h3⟩
 case assign =>
  rintro l pre x W K ⟨⟨⟨bP1, bN1⟩, hB1⟩, v1, bE1, hO1, _⟩ hK
  dsimp only [encQ]
  gi_wp2
  have hzW := bN1.lt
  have hsW := hB1.size
  exact hK _ _ ((KeepsOthers.alloc _ _).from _) ((bN1.alloc _).cell.trans bN1.cell.symm) ⟨⟨⟨bP1.alloc _, bN1.alloc _⟩, hB1.alloc hsW _⟩, v1, bE1.alloc _, hO1.alloc _, trivial⟩ ⟨W.heap.size, by omega, Nb.new _ W [plA x, plB x, plC x], rfl⟩
 case body =>
  rintro l pre x a' W hl hr ⟨⟨⟨bP1, bN1⟩, hB1⟩, v1, bE1, hO1, _⟩ ⟨g, hg, bX, rfl⟩ hlt
  have hmx : Tryz.prog.follows .mixedOrders = true := by kernel_rfl
  have hsW := hB1.size
  have hE1 := bE1.lt
  have ho1 : Own W w.heap.size v1 (bq [f, p, t, q, n] pre).length (bq [f, p, t, q, n] pre) := hO1
  have hlen := bq_len [f, p, t, q, n] pre
  obtain ⟨A, c, rfl, _, _, _, _⟩ := ho1.form
  have hx := plC_cases x
  have hv := hfit.out x
  have Hput := Kp.mk (put_one (plC x) ([f, p, t, q, n].getD x.val 0) hx hv ho1.rd (Nat.le_refl _) (by omega))
  rw [← bq_snoc] at Hput
  have hKeep : Kp (∀ (w3 : World) (A3 : Option Addr) (n3 c3 : Nat), Own w3 W.heap.size (.slice A3 n3 c3) n3 (bq [f, p, t, q, n] (pre ++ [x])) → Below W.heap.size W w3 →
    KeepsFrom W0.heap.size W (w3.setCell ⟨w.heap.size + 1, 0, none⟩ (.slice A3 n3 c3)) ∧ KpQ (w.heap.size + 1 + 1) W (w3.setCell ⟨w.heap.size + 1, 0, none⟩ (.slice A3 n3 c3)) ∧
    ((Nb 49 (w3.setCell ⟨w.heap.size + 1, 0, none⟩ (.slice A3 n3 c3)) w.heap.size [f, p, t, q, n] ∧ Boxed (w3.setCell ⟨w.heap.size + 1, 0, none⟩ (.slice A3 n3 c3)) (w.heap.size + 1 + 1) 209 (.pointer (some ⟨w.heap.size, 0, none⟩))) ∧ Below w.heap.size w (w3.setCell ⟨w.heap.size + 1, 0, none⟩ (.slice A3 n3 c3))) ∧
    (∃ v, Boxed (w3.setCell ⟨w.heap.size + 1, 0, none⟩ (.slice A3 n3 c3)) (w.heap.size + 1) 52 v ∧ (w3.setCell ⟨w.heap.size + 1, 0, none⟩ (.slice A3 n3 c3)).ownsRow w.heap.size 5 1 v (bq [f, p, t, q, n] (pre ++ [x])).length ((bq [f, p, t, q, n] (pre ++ [x])).map (Value.int .u8)) ∧ True)) := Kp.mk (by
   intro w3 A3 n3 c3 ho3 hb3
   have hn3 := ho3.len
   subst hn3
   have bE3 := bE1.below hb3 hE1
   have bN3 := (bN1.below hb3 bN1.lt).other (B' := w.heap.size + 1) (by omega) (.slice A3 (bq [f, p, t, q, n] (pre ++ [x])).length c3)
   exact ⟨(keepsFrom_of_below hb3 _).trans ((KeepsOthers.setCell _ _ _).from _), bN3.cell.trans bN1.cell.symm,
    ⟨⟨(bP1.below hb3 bP1.lt).other (by omega) 0 _, bN3⟩, (hB1.trans (hb3.mono hsW)).setCell (p := ⟨w.heap.size + 1, 0, none⟩) (by simp) _⟩,
    _, bE3.set _, ownsRow_lower (ownsRow_setCell_below ho3 hE1 _) hsW, trivial⟩)
  have hE3 : Kp (∀ w3, Below W.heap.size W w3 → w3.cell? ⟨w.heap.size + 1, 0, none⟩ = some (.slice A (bq [f, p, t, q, n] pre).length c) ∧ w3.frozen? ⟨w.heap.size + 1, 0, none⟩ = false) := Kp.mk (fun w3 hb3 => ⟨(bE1.below hb3 hE1).cell, (bE1.below hb3 hE1).frozen⟩)
  have c1 := bP1.cell x.val (by simp)
  have a2 := bX.cell 2 (by simp)
  have e1 := bE1.cell
  simp only [List.getD_cons_zero, List.getD_cons_succ] at a2
  generalize hv : [f, p, t, q, n].getD x.val 0 = v at *
  have Hv := Kp.mk hv
  clear hv ho1 hO1 hx
  generalize hq : (bq [f, p, t, q, n] pre).length = k at *
  clear hq
  gi_wp2
  refine region_round (S := fun w' => w'.cell? ⟨g, 2, none⟩ = some (.int .i64 (plC x)) ∧ w'.cell? ⟨w.heap.size, x.val, none⟩ = some (.int .i64 v)) hmx (by kernel_rfl) ⟨a2, c1⟩ (fun hS => ?_)
  refine wpAnyH_take (i := 1) (v := .pointer (some ⟨g, 2, none⟩)) rfl (by kernel_rfl) (by kernel_rfl) (by kernel_rfl) (fun _ _ _ h => h) (Or.inl ⟨by rfl, ?_⟩) hS ?_
  ·rintro w' ⟨s1, s2⟩
   go_simp
  simp only [Act.put, List.setIfInBounds_toArray]
  refine wpAnyH_take (i := 2) (v := .int .i64 (plC x)) rfl (by kernel_rfl) (by kernel_rfl) (by kernel_rfl) (fun _ _ _ h => h) (Or.inl ⟨by rfl, ?_⟩) hS ?_
  ·rintro w' ⟨s1, s2⟩
   go_simp
  simp only [Act.put]
  refine wpAnyH_take (i := 3) (v := .pointer (some ⟨w.heap.size, x.val, none⟩)) rfl (by kernel_rfl) (by kernel_rfl) (by kernel_rfl) (fun _ _ _ h => h) (Or.inl ⟨by rfl, ?_⟩) hS ?_
  ·rintro w' ⟨s1, s2⟩
   go_simp
  simp only [Act.put]
  refine wpAnyH_take (i := 4) (v := .pointer (some ⟨w.heap.size, x.val, none⟩)) rfl (by kernel_rfl) (by kernel_rfl) (by kernel_rfl) (fun _ _ _ h => h) (Or.inl ⟨by rfl, ?_⟩) hS ?_
  ·rintro w' ⟨s1, s2⟩
   go_simp
  simp only [Act.put]
  refine wpAnyH_take (i := 5) (v := .int .i64 v) rfl (by kernel_rfl) (by kernel_rfl) (by kernel_rfl) (fun _ _ _ h => h) (Or.inl ⟨by rfl, ?_⟩) hS ?_
  ·rintro w' ⟨s1, s2⟩
   go_simp
  simp only [Act.put]
  refine wpAnyH_ready (rs := [0, 6]) (by kernel_rfl) (by simp) ?_
  refine AllReadyH.cons rfl (fun K hK => ?_) (AllReadyH.cons rfl (fun K hK => ?_) AllReadyH.nil)
  ·go_simp
   refine hK.out _ _ hS (fun hS0 => ?_)
   clear hK K
   refine rD 6 rfl fun K hK => ?_
   go_simp
   refine hK.out _ _ ⟨cell_below a2 bX.lt (below_alloc W _).drew, cell_below c1 bP1.lt (below_alloc W _).drew⟩ (fun hS6 => ?_)
   clear hK K
   refine rD 7 rfl fun K hK => ?_
   go_simp
   go_at_call 154
   refine Hput.out.mono ?_
   rintro e w3 ⟨A3, n3, c3, rfl, ho3, hb3⟩
   obtain ⟨e3, f3⟩ := hE3.out w3 hb3
   refine hK.out _ _ ⟨cell_below a2 bX.lt hb3, cell_below c1 bP1.lt hb3⟩ (fun hS7 => ?_)
   clear hK K
   refine wpAnyH_take (i := 8) (v := .tuple #[.slice A3 n3 c3, .int .i64 0]) rfl (by kernel_rfl) (by kernel_rfl) (by kernel_rfl) (fun _ _ _ h => h) (Or.inl ⟨by rfl, ?_⟩) hS7 ?_
   ·rintro w' ⟨s1, s2⟩
    go_simp
   simp only [Act.put]
   refine wpAnyH_take (i := 9) (v := .slice A3 n3 c3) rfl (by kernel_rfl) (by kernel_rfl) (by kernel_rfl) (fun _ _ _ h => h) (Or.inl ⟨by rfl, ?_⟩) hS7 ?_
   ·rintro w' ⟨s1, s2⟩
    go_simp
   simp only [Act.put]
   refine wpAnyH_take (i := 10) (v := .int .i64 0) rfl (by kernel_rfl) (by kernel_rfl) (by kernel_rfl) (fun _ _ _ h => h) (Or.inl ⟨by rfl, ?_⟩) hS7 ?_
   ·rintro w' ⟨s1, s2⟩
    go_simp
   simp only [Act.put]
   refine rD 11 rfl fun K hK => ?_
   go_simp
   refine hK.out _ _ ⟨grown_cell (grownBy_set _ _ _ _) (cell_below a2 bX.lt hb3) (by omega), grown_cell (grownBy_set _ _ _ _) (cell_below c1 bP1.lt hb3) (by omega)⟩ (fun hS11 => ?_)
   clear hK K
   refine wpAnyH_done (by kernel_rfl) ?_ _
   exact hKeep.out _ _ _ _ ho3 hb3
  ·go_simp
   refine hK.out _ _ ⟨cell_below a2 bX.lt (below_alloc W _).drew, cell_below c1 bP1.lt (below_alloc W _).drew⟩ (fun hS6 => ?_)
   clear hK K
   refine rD 0 rfl fun K hK => ?_
   go_simp
   refine hK.out _ _ hS6 (fun hS0 => ?_)
   clear hK K
   refine rD 7 rfl fun K hK => ?_
   go_simp
   go_at_call 154
   refine Hput.out.mono ?_
   rintro e w3 ⟨A3, n3, c3, rfl, ho3, hb3⟩
   obtain ⟨e3, f3⟩ := hE3.out w3 hb3
   refine hK.out _ _ ⟨cell_below a2 bX.lt hb3, cell_below c1 bP1.lt hb3⟩ (fun hS7 => ?_)
   clear hK K
   refine wpAnyH_take (i := 8) (v := .tuple #[.slice A3 n3 c3, .int .i64 0]) rfl (by kernel_rfl) (by kernel_rfl) (by kernel_rfl) (fun _ _ _ h => h) (Or.inl ⟨by rfl, ?_⟩) hS7 ?_
   ·rintro w' ⟨s1, s2⟩
    go_simp
   simp only [Act.put]
   refine wpAnyH_take (i := 9) (v := .slice A3 n3 c3) rfl (by kernel_rfl) (by kernel_rfl) (by kernel_rfl) (fun _ _ _ h => h) (Or.inl ⟨by rfl, ?_⟩) hS7 ?_
   ·rintro w' ⟨s1, s2⟩
    go_simp
   simp only [Act.put]
   refine wpAnyH_take (i := 10) (v := .int .i64 0) rfl (by kernel_rfl) (by kernel_rfl) (by kernel_rfl) (fun _ _ _ h => h) (Or.inl ⟨by rfl, ?_⟩) hS7 ?_
   ·rintro w' ⟨s1, s2⟩
    go_simp
   simp only [Act.put]
   refine rD 11 rfl fun K hK => ?_
   go_simp
   refine hK.out _ _ ⟨grown_cell (grownBy_set _ _ _ _) (cell_below a2 bX.lt hb3) (by omega), grown_cell (grownBy_set _ _ _ _) (cell_below c1 bP1.lt hb3) (by omega)⟩ (fun hS11 => ?_)
   clear hK K
   refine wpAnyH_done (by kernel_rfl) ?_ _
   exact hKeep.out _ _ _ _ ho3 hb3
 case done =>
  rintro D ys W hD rfl ⟨⟨⟨bP1, bN1⟩, hB1⟩, v1, bE1, hO1, _⟩ hK
  have hlen : (bq [f, p, t, q, n] allQ).length = 6 := by rw [bq_all, qB_len]
  have ho1 : Own W w.heap.size v1 (bq [f, p, t, q, n] allQ).length (bq [f, p, t, q, n] allQ) := hO1
  rw [bq_all] at ho1
  obtain ⟨A, c, rfl, _, _, _, _⟩ := ho1.form
  have e1 := bE1.cell
  clear hO1 hlen
  gi_wp2
  refine ⟨by simp, .inl ⟨_, _, rfl, run_takeDeferred hK, ?_⟩⟩
  exact ⟨_, results_tmp rfl _ _ _, A, _, c, rfl, ownsRow_putObj ho1 _ hK rfl, hB1.trans (belowK_b (w := w) (Nat.le_refl _) W D _ _ (by omega) hK rfl rfl)⟩
 case stop =>
  rintro D c pre W _ _ h _
  exact h.elim
theorem bytes_any (f p t q n : Int) (w : World) : Calls Tryz.prog 201 #[.agg #[.int .i64 f, .int .i64 p, .int .i64 t, .int .i64 q, .int .i64 n]] w (PairOf (bytesQ f p t q n).1 (bytesQ f p t q n).2 w) := by
 by_cases ok : okQ f p t q n
 ·have hp1 := Kp.mk (show checkQ f p t q n = 0 from if_pos ok)
  have hp2 := Kp.mk (bytesQ_ok ok)
  have Hb := Kp.mk (fun w => body_any f p t q n w ok)
  clear ok
  go_enter Tryz.func201, Tryz.ntmps201
  go_wp2_with fail
  have hb0 := below_alloc w (.cells #[.int .i64 f, .int .i64 p, .int .i64 t, .int .i64 q, .int .i64 n] 49)
  have hx0 := Nb.new 49 w [f, p, t, q, n]
  change Nb _ (w.alloc (.cells #[.int .i64 f, .int .i64 p, .int .i64 t, .int .i64 q, .int .i64 n] 49)) _ _ at hx0
  generalize hW : (w.alloc (.cells #[.int .i64 f, .int .i64 p, .int .i64 t, .int .i64 q, .int .i64 n] 49)) = w0 at *
  have hz0 : w0.heap.size = w.heap.size + 1 := by rw [← hW]; simp
  clear hW
  refine (check_any f p t q n w0).mono ?_
  rw [hp1.out]
  rintro e w1 ⟨rfl, hb1⟩
  have hx1 := hx0.below hb1 (by omega)
  have hz1 := hb1.size
  have d0 := hx1.cell 0 (by simp)
  have d1 := hx1.cell 1 (by simp)
  have d2 := hx1.cell 2 (by simp)
  have d3 := hx1.cell 3 (by simp)
  have d4 := hx1.cell 4 (by simp)
  simp only [List.getD_cons_zero, List.getD_cons_succ] at d0 d1 d2 d3 d4
  go_wp2_with fail
  refine (Hb.out w1).mono ?_
  rintro e w2 ⟨A2, n2, c2, rfl, ho2, hb2⟩
  have hz2 := hb2.size
  have hl2 := ho2.len
  rw [qB_len] at hl2
  go_wp2_with fail
  refine (seal_any 2 ho2.rd (qB_by _ _ _ _ _) (Nat.le_refl _) (by omega)).mono ?_
  rintro e w3 ⟨A3, n3, c3, rfl, ho3, hb3⟩
  go_wp2_with fail
  rw [hp2.out]
  go_ret2
  exact ⟨A3, n3, c3, rfl, ho3.lower (by omega), hb0.trans ((hb1.mono (by omega)).trans ((hb2.mono (by omega)).trans (hb3.mono (by omega))))⟩
 ·have hp1 := Kp.mk (show checkQ f p t q n = 2 from if_neg ok)
  have hp2 := Kp.mk (show bytesQ f p t q n = ([], 2) from if_neg ok)
  clear ok
  go_enter Tryz.func201, Tryz.ntmps201
  go_wp2_with fail
  have hb0 := below_alloc w (.cells #[.int .i64 f, .int .i64 p, .int .i64 t, .int .i64 q, .int .i64 n] 49)
  generalize hW : (w.alloc (.cells #[.int .i64 f, .int .i64 p, .int .i64 t, .int .i64 q, .int .i64 n] 49)) = w0 at *
  have hz0 : w0.heap.size = w.heap.size + 1 := by rw [← hW]; simp
  clear hW
  refine (check_any f p t q n w0).mono ?_
  rw [hp1.out]
  rintro e w1 ⟨rfl, hb1⟩
  go_wp2_with fail
  rw [hp2.out]
  go_ret2
  exact PairOf.nil 2 w (hb0.trans (hb1.mono (by omega)))
end Go.Proofs.YtnoflfbcgbhipaaGreat.Oct
