/- Contracts of layer 8: what a rule does. -/
import Derived.Test.YteambkehdbffmaaRulC
namespace Go.Proofs.Yteambkehdbffmaa.Oct
open Go.RowKit
set_option linter.unusedVariables false
set_option linter.unusedSimpArgs false

/-- A field, of which an output says v. -/
def putB (v h : Int) : Int := if v = -1 then h else v % 256
/-- What an output makes of a header. -/
def sentP (o : OutV) (a b c : Int) : OutV := ⟨o.p, putB o.a a, putB o.b b, putB o.c c⟩
instance decOut : DecidableEq OutV := fun a b => decidable_of_iff (eqSB a b = true) (eqSB_iff a b)
theorem putB_y {v h : Int} (e : v = -1) : putB v h = h := if_pos e
theorem putB_n {v h : Int} (e : ¬ v = -1) : putB v h = v % 256 := if_neg e
theorem nem_t {v : Int} (h : ¬ v = -1) : (v != -1) = true := by simpa using h
theorem nem_f {v : Int} (h : v = -1) : (v != -1) = false := by simp [h]
theorem index3 (a b c : Int) (w : World) : (Instr.index 40 (.agg #[.int .i64 a, .int .i64 b, .int .i64 c]) (.int .i64 0)).run Try.prog w = .ok (.int .i64 a) w ∧ (Instr.index 40 (.agg #[.int .i64 a, .int .i64 b, .int .i64 c]) (.int .i64 1)).run Try.prog w = .ok (.int .i64 b) w ∧ (Instr.index 40 (.agg #[.int .i64 a, .int .i64 b, .int .i64 c]) (.int .i64 2)).run Try.prog w = .ok (.int .i64 c) w := by
  have hi0 : (Try.prog.info? 3).map (fun i => (i.zero, i.size, i.bytes)) = some (some (.int .i64 0), 1, 8) := by kernel_rfl
  obtain ⟨i0, hi, hz0, hz1, hz2⟩ := info_parts hi0
  have hp : Try.prog.plainKey 3 = true := by kernel_rfl
  have p0 : ∀ (u v t : Value), (part 3 #[u, v, t] 0).run Try.prog w = .ok u w := fun u v t => run_part_plain w hp rfl
  have p1 : ∀ (u v t : Value), (part 3 #[u, v, t] 1).run Try.prog w = .ok v w := fun u v t => run_part_plain w hp rfl
  have p2 : ∀ (u v t : Value), (part 3 #[u, v, t] 2).run Try.prog w = .ok t w := fun u v t => run_part_plain w hp rfl
  have hu := run_underlying (P := Try.prog) Try.underlying40 w
  have hs : (sizeOf 3).run Try.prog w = .ok 1 w := by simp [sizeOf, typeInfo, hi, hz1]
  refine ⟨?_, ?_, ?_⟩ <;> simp [Instr.index, asIntOf, Sem.run_bind, hu, hs, p0, p1, p2]
set_option maxRecDepth 100000 in
set_option maxHeartbeats 4000000 in
theorem sent_any (o : OutV) (a b c : Int) (w : World) : Calls Try.prog 14 #[.agg #[.int .i64 o.p, .int .i64 o.a, .int .i64 o.b, .int .i64 o.c], .agg #[.int .u8 a, .int .u8 b, .int .u8 c]] w fun e w' => e = .returned (.agg (scs (sentP o a b c)).toArray) ∧ Below w.heap.size w w' := by
  have ho : Vb 42 (((w.alloc (.cells #[.int .i64 o.p, .int .i64 o.a, .int .i64 o.b, .int .i64 o.c] 42)).alloc (.cells #[.int .u8 a, .int .u8 b, .int .u8 c] 23)).alloc (.cells #[.int .i64 0, .int .u8 0, .int .u8 0, .int .u8 0] 44)) w.heap.size [.int .i64 o.p, .int .i64 o.a, .int .i64 o.b, .int .i64 o.c] := ((Vb.new 42 w [.int .i64 o.p, .int .i64 o.a, .int .i64 o.b, .int .i64 o.c]).alloc _).alloc _
  have hh : Vb 23 (((w.alloc (.cells #[.int .i64 o.p, .int .i64 o.a, .int .i64 o.b, .int .i64 o.c] 42)).alloc (.cells #[.int .u8 a, .int .u8 b, .int .u8 c] 23)).alloc (.cells #[.int .i64 0, .int .u8 0, .int .u8 0, .int .u8 0] 44)) (w.heap.size + 1) [.int .u8 a, .int .u8 b, .int .u8 c] := by have := (Vb.new 23 (w.alloc (.cells #[.int .i64 o.p, .int .i64 o.a, .int .i64 o.b, .int .i64 o.c] 42)) [.int .u8 a, .int .u8 b, .int .u8 c]).alloc (.cells #[.int .i64 0, .int .u8 0, .int .u8 0, .int .u8 0] 44); simpa using this
  have hr : Vb 44 (((w.alloc (.cells #[.int .i64 o.p, .int .i64 o.a, .int .i64 o.b, .int .i64 o.c] 42)).alloc (.cells #[.int .u8 a, .int .u8 b, .int .u8 c] 23)).alloc (.cells #[.int .i64 0, .int .u8 0, .int .u8 0, .int .u8 0] 44)) (w.heap.size + 2) [.int .i64 0, .int .u8 0, .int .u8 0, .int .u8 0] := by have := Vb.new 44 ((w.alloc (.cells #[.int .i64 o.p, .int .i64 o.a, .int .i64 o.b, .int .i64 o.c] 42)).alloc (.cells #[.int .u8 a, .int .u8 b, .int .u8 c] 23)) [.int .i64 0, .int .u8 0, .int .u8 0, .int .u8 0]; simpa using this
  have hB := (below_two w (.cells #[.int .i64 o.p, .int .i64 o.a, .int .i64 o.b, .int .i64 o.c] 42) (.cells #[.int .u8 a, .int .u8 b, .int .u8 c] 23)).alloc (by simp; omega) (.cells #[.int .i64 0, .int .u8 0, .int .u8 0, .int .u8 0] 44)
  have hw0 : w.heap.size ≤ (((w.alloc (.cells #[.int .i64 o.p, .int .i64 o.a, .int .i64 o.b, .int .i64 o.c] 42)).alloc (.cells #[.int .u8 a, .int .u8 b, .int .u8 c] 23)).alloc (.cells #[.int .i64 0, .int .u8 0, .int .u8 0, .int .u8 0] 44)).heap.size := hB.size
  go_enter Try.func14, Try.ntmps14
  go_upto_region 1 with fail
  generalize ((w.alloc (.cells #[.int .i64 o.p, .int .i64 o.a, .int .i64 o.b, .int .i64 o.c] 42)).alloc (.cells #[.int .u8 a, .int .u8 b, .int .u8 c] 23)).alloc (.cells #[.int .i64 0, .int .u8 0, .int .u8 0, .int .u8 0] 44) = w0 at *
  obtain ⟨e0, e1, e2, e3⟩ := ho.c4
  go_wp2_with fail
  clear e0 e1 e2 e3
  have ix0 := fun w => (index3 o.a o.b o.c w).1
  have ix1 := fun w => (index3 o.a o.b o.c w).2.1
  have ix2 := fun w => (index3 o.a o.b o.c w).2.2
  refine wp_loop_rounds (3 + 1) ?_
  by_cases h0 : o.a = -1
  · have p0 := Kp.mk (putB_y (h := a) h0)
    have n0 := nem_f h0
    clear h0
    rw [rounds_succ]
    go_wp2_with fail
    clear n0
    by_cases h1 : o.b = -1
    · have p1 := Kp.mk (putB_y (h := b) h1)
      have n1 := nem_f h1
      clear h1
      rw [rounds_succ]
      go_wp2_with fail
      clear n1
      by_cases h2 : o.c = -1
      · have p2 := Kp.mk (putB_y (h := c) h2)
        have n2 := nem_f h2
        clear h2
        rw [rounds_succ]
        go_wp2_with fail
        clear n2
        rw [rounds_succ]
        obtain ⟨e0, e1, e2, e3⟩ := ho.c4
        obtain ⟨f0, f1, f2⟩ := hh.c3
        go_wp2_with (refine wpList_store_vb (T := 44) (vs := [.int .i64 o.p, .int .u8 a, .int .u8 b, .int .u8 c]) rfl (.tmp 4) (.tmp 23) rfl rfl rfl hr rfl agg_sent rfl ?_; intro y1 hy hg hz)
        have hBy := hB.grown hg hw0 (fun k e => by simp at e; omega)
        exact bodyPost_ret (results_one Try.results14 _ rfl hy agg_sent) rfl ⟨by unfold sentP; rw [p0.out, p1.out, p2.out]; rfl, hBy⟩
      · have p2 := Kp.mk (putB_n (h := c) h2)
        have n2 := nem_t h2
        clear h2
        obtain ⟨f0, f1, f2⟩ := hh.c3
        have hf := hh.free
        rw [rounds_succ]
        go_wp2_with fail
        replace ho := ho.grown (grownBy_set w0 (w.heap.size + 1) 2 (.int .u8 (o.c % 256))) (by omega)
        replace hr := hr.grown (grownBy_set w0 (w.heap.size + 1) 2 (.int .u8 (o.c % 256))) (by omega)
        replace hB := hB.setCell (p := ⟨w.heap.size + 1, 2, none⟩) (by simp) (.int .u8 (o.c % 256))
        replace hh : Vb 23 (w0.setCell ⟨w.heap.size + 1, 2, none⟩ (.int .u8 (o.c % 256))) (w.heap.size + 1) [.int .u8 a, .int .u8 b, .int .u8 (o.c % 256)] := hh.set 2 _
        replace hw0 := hB.size
        clear f0 f1 f2 hf
        generalize w0.setCell ⟨w.heap.size + 1, 2, none⟩ (.int .u8 (o.c % 256)) = x1 at *
        clear n2
        rw [rounds_succ]
        obtain ⟨e0, e1, e2, e3⟩ := ho.c4
        obtain ⟨f0, f1, f2⟩ := hh.c3
        go_wp2_with (refine wpList_store_vb (T := 44) (vs := [.int .i64 o.p, .int .u8 a, .int .u8 b, .int .u8 (o.c % 256)]) rfl (.tmp 4) (.tmp 23) rfl rfl rfl hr rfl agg_sent rfl ?_; intro y1 hy hg hz)
        have hBy := hB.grown hg hw0 (fun k e => by simp at e; omega)
        exact bodyPost_ret (results_one Try.results14 _ rfl hy agg_sent) rfl ⟨by unfold sentP; rw [p0.out, p1.out, p2.out]; rfl, hBy⟩
    · have p1 := Kp.mk (putB_n (h := b) h1)
      have n1 := nem_t h1
      clear h1
      obtain ⟨f0, f1, f2⟩ := hh.c3
      have hf := hh.free
      rw [rounds_succ]
      go_wp2_with fail
      replace ho := ho.grown (grownBy_set w0 (w.heap.size + 1) 1 (.int .u8 (o.b % 256))) (by omega)
      replace hr := hr.grown (grownBy_set w0 (w.heap.size + 1) 1 (.int .u8 (o.b % 256))) (by omega)
      replace hB := hB.setCell (p := ⟨w.heap.size + 1, 1, none⟩) (by simp) (.int .u8 (o.b % 256))
      replace hh : Vb 23 (w0.setCell ⟨w.heap.size + 1, 1, none⟩ (.int .u8 (o.b % 256))) (w.heap.size + 1) [.int .u8 a, .int .u8 (o.b % 256), .int .u8 c] := hh.set 1 _
      replace hw0 := hB.size
      clear f0 f1 f2 hf
      generalize w0.setCell ⟨w.heap.size + 1, 1, none⟩ (.int .u8 (o.b % 256)) = x2 at *
      clear n1
      by_cases h2 : o.c = -1
      · have p2 := Kp.mk (putB_y (h := c) h2)
        have n2 := nem_f h2
        clear h2
        rw [rounds_succ]
        go_wp2_with fail
        clear n2
        rw [rounds_succ]
        obtain ⟨e0, e1, e2, e3⟩ := ho.c4
        obtain ⟨f0, f1, f2⟩ := hh.c3
        go_wp2_with (refine wpList_store_vb (T := 44) (vs := [.int .i64 o.p, .int .u8 a, .int .u8 (o.b % 256), .int .u8 c]) rfl (.tmp 4) (.tmp 23) rfl rfl rfl hr rfl agg_sent rfl ?_; intro y1 hy hg hz)
        have hBy := hB.grown hg hw0 (fun k e => by simp at e; omega)
        exact bodyPost_ret (results_one Try.results14 _ rfl hy agg_sent) rfl ⟨by unfold sentP; rw [p0.out, p1.out, p2.out]; rfl, hBy⟩
      · have p2 := Kp.mk (putB_n (h := c) h2)
        have n2 := nem_t h2
        clear h2
        obtain ⟨f0, f1, f2⟩ := hh.c3
        have hf := hh.free
        rw [rounds_succ]
        go_wp2_with fail
        replace ho := ho.grown (grownBy_set x2 (w.heap.size + 1) 2 (.int .u8 (o.c % 256))) (by omega)
        replace hr := hr.grown (grownBy_set x2 (w.heap.size + 1) 2 (.int .u8 (o.c % 256))) (by omega)
        replace hB := hB.setCell (p := ⟨w.heap.size + 1, 2, none⟩) (by simp) (.int .u8 (o.c % 256))
        replace hh : Vb 23 (x2.setCell ⟨w.heap.size + 1, 2, none⟩ (.int .u8 (o.c % 256))) (w.heap.size + 1) [.int .u8 a, .int .u8 (o.b % 256), .int .u8 (o.c % 256)] := hh.set 2 _
        replace hw0 := hB.size
        clear f0 f1 f2 hf
        generalize x2.setCell ⟨w.heap.size + 1, 2, none⟩ (.int .u8 (o.c % 256)) = x3 at *
        clear n2
        rw [rounds_succ]
        obtain ⟨e0, e1, e2, e3⟩ := ho.c4
        obtain ⟨f0, f1, f2⟩ := hh.c3
        go_wp2_with (refine wpList_store_vb (T := 44) (vs := [.int .i64 o.p, .int .u8 a, .int .u8 (o.b % 256), .int .u8 (o.c % 256)]) rfl (.tmp 4) (.tmp 23) rfl rfl rfl hr rfl agg_sent rfl ?_; intro y1 hy hg hz)
        have hBy := hB.grown hg hw0 (fun k e => by simp at e; omega)
        exact bodyPost_ret (results_one Try.results14 _ rfl hy agg_sent) rfl ⟨by unfold sentP; rw [p0.out, p1.out, p2.out]; rfl, hBy⟩
  · have p0 := Kp.mk (putB_n (h := a) h0)
    have n0 := nem_t h0
    clear h0
    obtain ⟨f0, f1, f2⟩ := hh.c3
    have hf := hh.free
    rw [rounds_succ]
    go_wp2_with fail
    replace ho := ho.grown (grownBy_set w0 (w.heap.size + 1) 0 (.int .u8 (o.a % 256))) (by omega)
    replace hr := hr.grown (grownBy_set w0 (w.heap.size + 1) 0 (.int .u8 (o.a % 256))) (by omega)
    replace hB := hB.setCell (p := ⟨w.heap.size + 1, 0, none⟩) (by simp) (.int .u8 (o.a % 256))
    replace hh : Vb 23 (w0.setCell ⟨w.heap.size + 1, 0, none⟩ (.int .u8 (o.a % 256))) (w.heap.size + 1) [.int .u8 (o.a % 256), .int .u8 b, .int .u8 c] := hh.set 0 _
    replace hw0 := hB.size
    clear f0 f1 f2 hf
    generalize w0.setCell ⟨w.heap.size + 1, 0, none⟩ (.int .u8 (o.a % 256)) = x4 at *
    clear n0
    by_cases h1 : o.b = -1
    · have p1 := Kp.mk (putB_y (h := b) h1)
      have n1 := nem_f h1
      clear h1
      rw [rounds_succ]
      go_wp2_with fail
      clear n1
      by_cases h2 : o.c = -1
      · have p2 := Kp.mk (putB_y (h := c) h2)
        have n2 := nem_f h2
        clear h2
        rw [rounds_succ]
        go_wp2_with fail
        clear n2
        rw [rounds_succ]
        obtain ⟨e0, e1, e2, e3⟩ := ho.c4
        obtain ⟨f0, f1, f2⟩ := hh.c3
        go_wp2_with (refine wpList_store_vb (T := 44) (vs := [.int .i64 o.p, .int .u8 (o.a % 256), .int .u8 b, .int .u8 c]) rfl (.tmp 4) (.tmp 23) rfl rfl rfl hr rfl agg_sent rfl ?_; intro y1 hy hg hz)
        have hBy := hB.grown hg hw0 (fun k e => by simp at e; omega)
        exact bodyPost_ret (results_one Try.results14 _ rfl hy agg_sent) rfl ⟨by unfold sentP; rw [p0.out, p1.out, p2.out]; rfl, hBy⟩
      · have p2 := Kp.mk (putB_n (h := c) h2)
        have n2 := nem_t h2
        clear h2
        obtain ⟨f0, f1, f2⟩ := hh.c3
        have hf := hh.free
        rw [rounds_succ]
        go_wp2_with fail
        replace ho := ho.grown (grownBy_set x4 (w.heap.size + 1) 2 (.int .u8 (o.c % 256))) (by omega)
        replace hr := hr.grown (grownBy_set x4 (w.heap.size + 1) 2 (.int .u8 (o.c % 256))) (by omega)
        replace hB := hB.setCell (p := ⟨w.heap.size + 1, 2, none⟩) (by simp) (.int .u8 (o.c % 256))
        replace hh : Vb 23 (x4.setCell ⟨w.heap.size + 1, 2, none⟩ (.int .u8 (o.c % 256))) (w.heap.size + 1) [.int .u8 (o.a % 256), .int .u8 b, .int .u8 (o.c % 256)] := hh.set 2 _
        replace hw0 := hB.size
        clear f0 f1 f2 hf
        generalize x4.setCell ⟨w.heap.size + 1, 2, none⟩ (.int .u8 (o.c % 256)) = x5 at *
        clear n2
        rw [rounds_succ]
        obtain ⟨e0, e1, e2, e3⟩ := ho.c4
        obtain ⟨f0, f1, f2⟩ := hh.c3
        go_wp2_with (refine wpList_store_vb (T := 44) (vs := [.int .i64 o.p, .int .u8 (o.a % 256), .int .u8 b, .int .u8 (o.c % 256)]) rfl (.tmp 4) (.tmp 23) rfl rfl rfl hr rfl agg_sent rfl ?_; intro y1 hy hg hz)
        have hBy := hB.grown hg hw0 (fun k e => by simp at e; omega)
        exact bodyPost_ret (results_one Try.results14 _ rfl hy agg_sent) rfl ⟨by unfold sentP; rw [p0.out, p1.out, p2.out]; rfl, hBy⟩
    · have p1 := Kp.mk (putB_n (h := b) h1)
      have n1 := nem_t h1
      clear h1
      obtain ⟨f0, f1, f2⟩ := hh.c3
      have hf := hh.free
      rw [rounds_succ]
      go_wp2_with fail
      replace ho := ho.grown (grownBy_set x4 (w.heap.size + 1) 1 (.int .u8 (o.b % 256))) (by omega)
      replace hr := hr.grown (grownBy_set x4 (w.heap.size + 1) 1 (.int .u8 (o.b % 256))) (by omega)
      replace hB := hB.setCell (p := ⟨w.heap.size + 1, 1, none⟩) (by simp) (.int .u8 (o.b % 256))
      replace hh : Vb 23 (x4.setCell ⟨w.heap.size + 1, 1, none⟩ (.int .u8 (o.b % 256))) (w.heap.size + 1) [.int .u8 (o.a % 256), .int .u8 (o.b % 256), .int .u8 c] := hh.set 1 _
      replace hw0 := hB.size
      clear f0 f1 f2 hf
      generalize x4.setCell ⟨w.heap.size + 1, 1, none⟩ (.int .u8 (o.b % 256)) = x6 at *
      clear n1
      by_cases h2 : o.c = -1
      · have p2 := Kp.mk (putB_y (h := c) h2)
        have n2 := nem_f h2
        clear h2
        rw [rounds_succ]
        go_wp2_with fail
        clear n2
        rw [rounds_succ]
        obtain ⟨e0, e1, e2, e3⟩ := ho.c4
        obtain ⟨f0, f1, f2⟩ := hh.c3
        go_wp2_with (refine wpList_store_vb (T := 44) (vs := [.int .i64 o.p, .int .u8 (o.a % 256), .int .u8 (o.b % 256), .int .u8 c]) rfl (.tmp 4) (.tmp 23) rfl rfl rfl hr rfl agg_sent rfl ?_; intro y1 hy hg hz)
        have hBy := hB.grown hg hw0 (fun k e => by simp at e; omega)
        exact bodyPost_ret (results_one Try.results14 _ rfl hy agg_sent) rfl ⟨by unfold sentP; rw [p0.out, p1.out, p2.out]; rfl, hBy⟩
      · have p2 := Kp.mk (putB_n (h := c) h2)
        have n2 := nem_t h2
        clear h2
        obtain ⟨f0, f1, f2⟩ := hh.c3
        have hf := hh.free
        rw [rounds_succ]
        go_wp2_with fail
        replace ho := ho.grown (grownBy_set x6 (w.heap.size + 1) 2 (.int .u8 (o.c % 256))) (by omega)
        replace hr := hr.grown (grownBy_set x6 (w.heap.size + 1) 2 (.int .u8 (o.c % 256))) (by omega)
        replace hB := hB.setCell (p := ⟨w.heap.size + 1, 2, none⟩) (by simp) (.int .u8 (o.c % 256))
        replace hh : Vb 23 (x6.setCell ⟨w.heap.size + 1, 2, none⟩ (.int .u8 (o.c % 256))) (w.heap.size + 1) [.int .u8 (o.a % 256), .int .u8 (o.b % 256), .int .u8 (o.c % 256)] := hh.set 2 _
        replace hw0 := hB.size
        clear f0 f1 f2 hf
        generalize x6.setCell ⟨w.heap.size + 1, 2, none⟩ (.int .u8 (o.c % 256)) = x7 at *
        clear n2
        rw [rounds_succ]
        obtain ⟨e0, e1, e2, e3⟩ := ho.c4
        obtain ⟨f0, f1, f2⟩ := hh.c3
        go_wp2_with (refine wpList_store_vb (T := 44) (vs := [.int .i64 o.p, .int .u8 (o.a % 256), .int .u8 (o.b % 256), .int .u8 (o.c % 256)]) rfl (.tmp 4) (.tmp 23) rfl rfl rfl hr rfl agg_sent rfl ?_; intro y1 hy hg hz)
        have hBy := hB.grown hg hw0 (fun k e => by simp at e; omega)
        exact bodyPost_ret (results_one Try.results14 _ rfl hy agg_sent) rfl ⟨by unfold sentP; rw [p0.out, p1.out, p2.out]; rfl, hBy⟩
set_option maxRecDepth 100000 in
set_option maxHeartbeats 1600000 in
theorem index_any {w : World} {B : Nat} {A : Option Addr} {n c : Nat} {ss : List OutV} (h : Rs w B A n c ss) (hB : B ≤ w.heap.size) (v : OutV) : Calls Try.prog 31 #[.slice A n c, .agg #[.int .i64 v.p, .int .u8 v.a, .int .u8 v.b, .int .u8 v.c]] w fun e w' => (∃ r : Int, e = .returned (.int .i64 r) ∧ (0 ≤ r ↔ v ∈ ss)) ∧ Below w.heap.size w w' := by
  have hl := h.len
  have hmx := h.max
  have hb0 := below_alloc w (.cells #[.int .i64 v.p, .int .u8 v.a, .int .u8 v.b, .int .u8 v.c] 44)
  have hv := Vb.new 44 w [.int .i64 v.p, .int .u8 v.a, .int .u8 v.b, .int .u8 v.c]
  have HA := Kp.mk (h.below' hb0 hB)
  obtain ⟨d0, d1, d2, d3⟩ := hv.c4
  go_enter Try.func31, Try.ntmps31
  go_wp2_with fail
  generalize w.alloc (.cells #[.int .i64 v.p, .int .u8 v.a, .int .u8 v.b, .int .u8 v.c] 44) = w0 at *
  go_loopw [8] (fun i wr => ∃ (k q : Nat), k ≤ n ∧ i = .int .i64 k ∧ Kp (∀ j, j < k → ss[j]? ≠ some v) ∧ wr = w0.drewN q) (fun i _ => n - (intOf i).toNat)
  case atStart => exact ⟨0, 0, by omega, rfl, Kp.mk (fun j hj => absurd hj (by omega)), rfl⟩
  case round =>
    obtain ⟨k, q, hk, rfl, HK, rfl⟩ := hrel
    have hb1 := below_drewN hb0 q
    by_cases hltn : k < n
    rotate_left
    · obtain rfl : k = n := by omega
      have hp := Kp.mk (show ¬ v ∈ ss from fun hm => by
        obtain ⟨j, hj⟩ := List.mem_iff_getElem?.1 hm
        have hjl := (List.getElem?_eq_some_iff.1 hj).1
        exact HK.out j (by omega) hj)
      go_wp2_with fail
      go_ret
      exact ⟨⟨-1, rfl, by have := hp.out; constructor <;> intro h <;> first | omega | exact absurd h this⟩, hb1⟩
    obtain ⟨b, off, eA, hbB, hc⟩ := HA.out.at_ (by omega)
    obtain ⟨y, hy⟩ : ∃ y, ss[k]? = some y := ⟨_, List.getElem?_eq_getElem (by omega)⟩
    obtain ⟨f0, f1, f2, f3⟩ := hc k y hy
    subst eA
    have j1 : (k : Int) < n := by omega
    have eO : ∀ w, (Op.equalIn 10000 44 (.agg #[.int .i64 v.p, .int .u8 v.a, .int .u8 v.b, .int .u8 v.c]) (.agg #[.int .i64 y.p, .int .u8 y.a, .int .u8 y.b, .int .u8 y.c])).run Try.prog w = .ok (eqSB v y) w := fun w => eq_sent v y w
    have Hy := Kp.mk hy
    clear hc hy
    by_cases c6 : eqSB v y = true
    · have hp := Kp.mk (show v ∈ ss from by
        have e := (eqSB_iff v y).1 c6
        subst e
        exact List.mem_of_getElem? Hy.out)
      go_wp2_with fail
      go_quiet (fail)
      go_wp2_with fail
      go_ret
      exact ⟨⟨k, rfl, by have := hp.out; constructor <;> intro _ <;> first | exact this | omega⟩, by repeat first | exact hb1 | refine below_drewN ?_ _⟩
    · have c6' : eqSB v y = false := by simpa using c6
      have HN : Kp (∀ j, j < k + 1 → ss[j]? ≠ some v) := Kp.mk (fun j hj => by
          by_cases hjk : j < k
          · exact HK.out j hjk
          · obtain rfl : j = k := by omega
            intro e
            rw [Hy.out] at e
            have e := Option.some.inj e
            exact c6 ((eqSB_iff v y).2 (by rw [e])))
      clear c6
      go_wp2_with fail
      go_quiet (fail)
      go_wp2_with fail
      go_roundw
      case rel => exact ⟨k + 1, q + nq, by omega, by go_num, HN, by first | rfl | rw [World.drewN_drewN]⟩
      case measure => simp [intOf]; omega
set_option maxRecDepth 100000 in
set_option maxHeartbeats 1600000 in
theorem had_any {w : World} {B : Nat} {A : Option Addr} {n c : Nat} {ss : List OutV} (h : Rs w B A n c ss) (hB : B ≤ w.heap.size) (v : OutV) : Calls Try.prog 16 #[.slice A n c, .agg #[.int .i64 v.p, .int .u8 v.a, .int .u8 v.b, .int .u8 v.c]] w fun e w' => e = .returned (.bool (decide (v ∈ ss))) ∧ Below w.heap.size w w' := by
  have hl := h.len
  have hmx := h.max
  have hb0 := below_alloc w (.cells #[.int .i64 v.p, .int .u8 v.a, .int .u8 v.b, .int .u8 v.c] 44)
  have hv := Vb.new 44 w [.int .i64 v.p, .int .u8 v.a, .int .u8 v.b, .int .u8 v.c]
  have HA := Kp.mk (h.below' hb0 hB)
  obtain ⟨d0, d1, d2, d3⟩ := hv.c4
  go_enter Try.func16, Try.ntmps16
  go_wp2_with fail
  generalize w.alloc (.cells #[.int .i64 v.p, .int .u8 v.a, .int .u8 v.b, .int .u8 v.c] 44) = w0 at *
  go_loopw [5] (fun i wr => ∃ (k q : Nat), k ≤ n ∧ i = .int .i64 k ∧ Kp (∀ j, j < k → ss[j]? ≠ some v) ∧ wr = w0.drewN q) (fun i _ => n - (intOf i).toNat)
  case atStart => exact ⟨0, 0, by omega, rfl, Kp.mk (fun j hj => absurd hj (by omega)), rfl⟩
  case round =>
    obtain ⟨k, q, hk, rfl, HK, rfl⟩ := hrel
    have hb1 := below_drewN hb0 q
    by_cases hltn : k < n
    rotate_left
    · obtain rfl : k = n := by omega
      have hp := Kp.mk (show ¬ v ∈ ss from fun hm => by
        obtain ⟨j, hj⟩ := List.mem_iff_getElem?.1 hm
        have hjl := (List.getElem?_eq_some_iff.1 hj).1
        exact HK.out j (by omega) hj)
      go_wp2_with fail
      go_ret
      exact ⟨by rw [decide_eq_false hp.out]; rfl, hb1⟩
    obtain ⟨b, off, eA, hbB, hc⟩ := HA.out.at_ (by omega)
    obtain ⟨y, hy⟩ : ∃ y, ss[k]? = some y := ⟨_, List.getElem?_eq_getElem (by omega)⟩
    obtain ⟨f0, f1, f2, f3⟩ := hc k y hy
    subst eA
    have j1 : (k : Int) < n := by omega
    have eO : ∀ w, (Op.equalIn 10000 44 (.agg #[.int .i64 y.p, .int .u8 y.a, .int .u8 y.b, .int .u8 y.c]) (.agg #[.int .i64 v.p, .int .u8 v.a, .int .u8 v.b, .int .u8 v.c])).run Try.prog w = .ok (eqSB y v) w := fun w => eq_sent y v w
    have Hy := Kp.mk hy
    clear hc hy
    by_cases c6 : eqSB y v = true
    · have hp := Kp.mk (show v ∈ ss from by
        have e := (eqSB_iff y v).1 c6
        subst e
        exact List.mem_of_getElem? Hy.out)
      go_wp2_with fail
      go_quiet (fail)
      go_wp2_with fail
      go_ret
      exact ⟨by rw [decide_eq_true hp.out]; rfl, by repeat first | exact hb1 | refine below_drewN ?_ _⟩
    · have c6' : eqSB y v = false := by simpa using c6
      have HN : Kp (∀ j, j < k + 1 → ss[j]? ≠ some v) := Kp.mk (fun j hj => by
          by_cases hjk : j < k
          · exact HK.out j hjk
          · obtain rfl : j = k := by omega
            intro e
            rw [Hy.out] at e
            have e := Option.some.inj e
            exact c6 ((eqSB_iff y v).2 (by rw [e])))
      clear c6
      go_wp2_with fail
      go_quiet (fail)
      go_wp2_with fail
      go_roundw
      case rel => exact ⟨k + 1, q + nq, by omega, by go_num, HN, by first | rfl | rw [World.drewN_drewN]⟩
      case measure => simp [intOf]; omega
theorem contains_any {w : World} {B : Nat} {A : Option Addr} {n c : Nat} {ss : List OutV} (h : Rs w B A n c ss) (hB : B ≤ w.heap.size) (v : OutV) : Calls Try.prog 15 #[.slice A n c, .agg #[.int .i64 v.p, .int .u8 v.a, .int .u8 v.b, .int .u8 v.c]] w fun e w' => e = .returned (.bool (decide (v ∈ ss))) ∧ Below w.heap.size w w' := by
  have hb0 := below_alloc w (.cells #[.int .i64 v.p, .int .u8 v.a, .int .u8 v.b, .int .u8 v.c] 44)
  have hv := Vb.new 44 w [.int .i64 v.p, .int .u8 v.a, .int .u8 v.b, .int .u8 v.c]
  have HA := h.below' hb0 hB
  obtain ⟨d0, d1, d2, d3⟩ := hv.c4
  go_enter Try.func15, Try.ntmps15
  go_wp2_with fail
  refine (index_any HA (by simp; omega) v).mono ?_
  rintro e w1 ⟨⟨r, rfl, hr⟩, hb⟩
  have hp := Kp.mk (show decide (0 ≤ r) = decide (v ∈ ss) from decide_eq_decide.2 hr)
  go_wp2_with fail
  go_ret
  exact ⟨by rw [← hp.out]; rfl, hb0.trans (hb.mono (by simp))⟩
end Go.Proofs.Yteambkehdbffmaa.Oct
