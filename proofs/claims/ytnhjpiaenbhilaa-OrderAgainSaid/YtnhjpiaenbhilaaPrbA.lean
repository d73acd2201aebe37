/- Contracts of layer 4: the numbers of a probe, gone through by range over a function. -/
import Derived.Test.YtnhjpiaenbhilaaPrbP
import Derived.Test.YtnhjpiaenbhilaaPut
import Derived.RangeFuncNested
import Derived.RangeFuncBound
import Derived.RangeFuncCalls
import Derived.RangeFuncLeaves
import Derived.Shelf.Abstract
import Derived.Shelf.RegionOpen
import Derived.WalkKit
import Derived.OwnWalkIn
import Derived.TacticsInMore
import Derived.LoopNIn
import Derived.LoopIn
namespace Go.Proofs.Ytnhjpiaenbhilaa.Oct
open Go.RowKit Go.Shelf
set_option linter.unusedVariables false
attribute [local go_sem] Oper.semAt_some

/-- What a number of a probe may be, and how many bytes of the body it has. -/
def plA (x : Fin 5) : Int := [1, 1, 0, 0, 0].getD x.val 0
def plB (x : Fin 5) : Int := [6, 4, 6, 4, 65535].getD x.val 0
def plC (x : Fin 5) : Int := [1, 1, 1, 1, 2].getD x.val 0
def encQ (g : Nat) (x : Fin 5) : Array Value := #[.agg #[.int .i64 (plA x), .int .i64 (plB x), .int .i64 (plC x)], .pointer (some ⟨g, x.val, none⟩)]
def allQ : List (Fin 5) := [0, 1, 2, 3, 4]
/-- What a round that goes on keeps: the box that the iterator has captured. -/
def KpQ (Bn : Nat) (W W' : World) : Prop := W'.cell? ⟨Bn, 0, none⟩ = W.cell? ⟨Bn, 0, none⟩

theorem numbers_any (a : Addr) (w : World) : Calls Try.prog 99 #[.pointer (some a)] w fun e w' => e = .returned (.func (.func 105) #[] #[.pointer (some ⟨w.heap.size, 0, none⟩)]) ∧ w.alloc (.cells #[.pointer (some a)] 56) = w' := by
  go_enter Try.func99, Try.ntmps99
  go_wp2
  go_ret
  exact ⟨rfl, rfl⟩

set_option maxRecDepth 100000 in
set_option maxHeartbeats 1000000 in
theorem nums_stops (n g Bn : Nat) (hn : 1 ≤ n) (w : World) (hBn : w.cell? ⟨Bn, 0, none⟩ = some (.pointer (some ⟨g, 0, none⟩))) (hlt : Bn < w.heap.size) :
    SeqStopsK Fence.wide n Try.prog 105 #[.pointer (some ⟨Bn, 0, none⟩)] (encQ g) (KpQ Bn) (fun xs => xs = allQ) (fun pre => pre <+: allQ) 5 w := fun l J Jx W hW hJ hJx hY h0 => by
  refine callsIn_of_wp Try.func105 rfl trivial ?_ rfl
  simp only [Try.ntmps105, List.size_toArray, List.length_cons, List.length_nil, Nat.reduceAdd, Nat.reduceSub, Array.replicate_succ, Array.replicate_zero, List.push_toArray, List.append_toArray, List.nil_append, List.cons_append]
  have hb0 := (hW.cell (p := ⟨Bn, 0, none⟩) hlt).trans hBn
  obtain ⟨f1, t1, a1, b1, hy1, hR1⟩ := hY [] 0 W h0 (by simp)
  replace hy1 : (Instr.yield l #[.agg #[.int .i64 1, .int .i64 6, .int .i64 1], .pointer (some ⟨g, 0, none⟩)]).run Try.prog W = _ := hy1
  gi_wp2
  refine hR1.mono ?_
  rintro e W1 (⟨rfl, hJ1, hk1⟩ | ⟨rfl, hx1⟩)
  rotate_left
  · gi_wp2
    repeat (refine ⟨(fun _ h => (by cases h)), ?_⟩; gi_wp2)
    go_end0
    exact ⟨⟨_, rfl⟩, .inr ⟨_, ⟨[1, 2, 3, 4], rfl⟩, hx1⟩⟩
  · have hb1 := hk1.trans hb0
    clear hb0 hy1 hR1
    obtain ⟨f2, t2, a2, b2, hy2, hR2⟩ := hY [0] 1 W1 hJ1 (by simp)
    replace hy2 : (Instr.yield l #[.agg #[.int .i64 1, .int .i64 4, .int .i64 1], .pointer (some ⟨g, 1, none⟩)]).run Try.prog W1 = _ := hy2
    gi_wp2
    refine hR2.mono ?_
    rintro e W2 (⟨rfl, hJ2, hk2⟩ | ⟨rfl, hx2⟩)
    rotate_left
    · gi_wp2
      repeat (refine ⟨(fun _ h => (by cases h)), ?_⟩; gi_wp2)
      go_end0
      exact ⟨⟨_, rfl⟩, .inr ⟨_, ⟨[2, 3, 4], rfl⟩, hx2⟩⟩
    · have hb2 := hk2.trans hb1
      clear hb1 hy2 hR2
      obtain ⟨f3, t3, a3, b3, hy3, hR3⟩ := hY [0, 1] 2 W2 hJ2 (by simp)
      replace hy3 : (Instr.yield l #[.agg #[.int .i64 0, .int .i64 6, .int .i64 1], .pointer (some ⟨g, 2, none⟩)]).run Try.prog W2 = _ := hy3
      gi_wp2
      refine hR3.mono ?_
      rintro e W3 (⟨rfl, hJ3, hk3⟩ | ⟨rfl, hx3⟩)
      rotate_left
      · gi_wp2
        repeat (refine ⟨(fun _ h => (by cases h)), ?_⟩; gi_wp2)
        go_end0
        exact ⟨⟨_, rfl⟩, .inr ⟨_, ⟨[3, 4], rfl⟩, hx3⟩⟩
      · have hb3 := hk3.trans hb2
        clear hb2 hy3 hR3
        obtain ⟨f4, t4, a4, b4, hy4, hR4⟩ := hY [0, 1, 2] 3 W3 hJ3 (by simp)
        replace hy4 : (Instr.yield l #[.agg #[.int .i64 0, .int .i64 4, .int .i64 1], .pointer (some ⟨g, 3, none⟩)]).run Try.prog W3 = _ := hy4
        gi_wp2
        refine hR4.mono ?_
        rintro e W4 (⟨rfl, hJ4, hk4⟩ | ⟨rfl, hx4⟩)
        rotate_left
        · gi_wp2
          repeat (refine ⟨(fun _ h => (by cases h)), ?_⟩; gi_wp2)
          go_end0
          exact ⟨⟨_, rfl⟩, .inr ⟨_, ⟨[4], rfl⟩, hx4⟩⟩
        · have hb4 := hk4.trans hb3
          clear hb3 hy4 hR4
          obtain ⟨f5, t5, a5, b5, hy5, hR5⟩ := hY [0, 1, 2, 3] 4 W4 hJ4 (by simp)
          replace hy5 : (Instr.yield l #[.agg #[.int .i64 0, .int .i64 65535, .int .i64 2], .pointer (some ⟨g, 4, none⟩)]).run Try.prog W4 = _ := hy5
          gi_wp2
          refine hR5.mono ?_
          rintro e W5 (⟨rfl, hJ5, hk5⟩ | ⟨rfl, hx5⟩)
          rotate_left
          · gi_wp2
            repeat (refine ⟨(fun _ h => (by cases h)), ?_⟩; gi_wp2)
            go_end0
            exact ⟨⟨_, rfl⟩, .inr ⟨_, ⟨[], rfl⟩, hx5⟩⟩
          · have hb5 := hk5.trans hb4
            clear hb4 hy5 hR5
            gi_wp2
            go_end0
            exact ⟨⟨_, rfl⟩, .inl ⟨_, rfl, hJ5⟩⟩

def takesP (a b v : Int) : Bool := decide (a ≤ v ∧ v ≤ b)
theorem takes_any (a b c v : Int) (w : World) : Calls Try.prog 100 #[.agg #[.int .i64 a, .int .i64 b, .int .i64 c], .int .i64 v] w fun e w' => e = .returned (.bool (takesP a b v)) ∧ w.alloc (.cells #[.int .i64 a, .int .i64 b, .int .i64 c] 126) = w' := by
  by_cases h1 : a ≤ v
  · by_cases h2 : v ≤ b
    · have hp := Kp.mk (show takesP a b v = true from decide_eq_true ⟨h1, h2⟩)
      go_enter Try.func100, Try.ntmps100
      go_wp2_with fail
      rw [hp.out]
      go_ret
      exact ⟨rfl, rfl⟩
    · have hp := Kp.mk (show takesP a b v = false from decide_eq_false (fun h => h2 h.2))
      go_enter Try.func100, Try.ntmps100
      go_wp2_with fail
      rw [hp.out]
      go_ret
      exact ⟨rfl, rfl⟩
  · have hp := Kp.mk (show takesP a b v = false from decide_eq_false (fun h => h1 h.1))
    go_enter Try.func100, Try.ntmps100
    go_wp2_with fail
    rw [hp.out]
    go_ret
    exact ⟨rfl, rfl⟩
theorem isFound_any (f p t q n : Int) (w : World) : Calls Try.prog 101 #[.agg #[.int .i64 f, .int .i64 p, .int .i64 t, .int .i64 q, .int .i64 n]] w fun e w' => e = .returned (.bool (t != 0)) ∧ w.alloc (.cells #[.int .i64 f, .int .i64 p, .int .i64 t, .int .i64 q, .int .i64 n] 30) = w' := by
  go_enter Try.func101, Try.ntmps101
  go_wp2_with fail
  go_ret
  exact ⟨rfl, rfl⟩

/-- Is a switch's port one? -/
def endP (s p : Int) : Bool := decide ((1 ≤ s ∧ s ≤ 6) ∧ (1 ≤ p ∧ p ≤ 4))
theorem end_any (s p : Int) (w : World) : Calls Try.prog 73 #[.int .i64 s, .int .i64 p] w fun e w' => e = .returned (.bool (endP s p)) ∧ w = w' := by
  by_cases h1 : 1 ≤ s
  · by_cases h2 : s ≤ 6
    · by_cases h3 : 1 ≤ p
      · by_cases h4 : p ≤ 4
        · have hp := Kp.mk (show endP s p = true from decide_eq_true ⟨⟨h1, h2⟩, h3, h4⟩)
          go_enter Try.func73, Try.ntmps73
          go_wp2_with fail
          rw [hp.out]
          go_ret
          exact ⟨rfl, rfl⟩
        · have hp := Kp.mk (show endP s p = false from decide_eq_false (fun h => h4 h.2.2))
          go_enter Try.func73, Try.ntmps73
          go_wp2_with fail
          rw [hp.out]
          go_ret
          exact ⟨rfl, rfl⟩
      · have hp := Kp.mk (show endP s p = false from decide_eq_false (fun h => h3 h.2.1))
        go_enter Try.func73, Try.ntmps73
        go_wp2_with fail
        rw [hp.out]
        go_ret
        exact ⟨rfl, rfl⟩
    · have hp := Kp.mk (show endP s p = false from decide_eq_false (fun h => h2 h.1.2))
      go_enter Try.func73, Try.ntmps73
      go_wp2_with fail
      rw [hp.out]
      go_ret
      exact ⟨rfl, rfl⟩
  · have hp := Kp.mk (show endP s p = false from decide_eq_false (fun h => h1 h.1.1))
    go_enter Try.func73, Try.ntmps73
    go_wp2_with fail
    rw [hp.out]
    go_ret
    exact ⟨rfl, rfl⟩
end Go.Proofs.Ytnhjpiaenbhilaa.Oct
