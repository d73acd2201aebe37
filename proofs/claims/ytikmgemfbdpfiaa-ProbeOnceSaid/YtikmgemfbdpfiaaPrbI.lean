/- The law's own probe that may be, made of any. -/
import Derived.Test.YtikmgemfbdpfiaaPrbH
import Derived.Test.YtikmgemfbdpfiaaBring
import Derived.StillTailTactics
import Derived.Deep.RegionHeld3
namespace Go.Proofs.Ytikmgemfbdpfiaa.Oct
open Go.RowKit
set_option linter.unusedVariables false

/-- A probe alone is answered; only new memory. -/
def PrbO (f p t q n : Int) (w : World) (en : Ending) (w' : World) : Prop := en = .returned (.agg #[.int .i64 f, .int .i64 p, .int .i64 t, .int .i64 q, .int .i64 n]) ∧ Below w.heap.size w w'
theorem still_bring (n m : Int) (w : World) (hm : 0 < m) (hm' : m ≤ 4294967296) :
    Calls Try.prog 23 #[.int .i64 n, .int .i64 m] w.drew fun e w'' => e = .returned (.int .i64 (Ser.bringP n m)) ∧ w'' = w.drew :=
  (Ser.bring_any n m w.drew hm hm').mono (fun _ _ ⟨h1, h2⟩ => ⟨h1, h2.symm⟩)
def mdF (f : Int) : Int := 1 + Ser.bringP f 6
def mdP (p : Int) : Int := 1 + Ser.bringP p 4
def mdN (n : Int) : Int := Ser.bringP n 65536
def mdT (t : Int) : Int := if t.tmod 2 = 0 then 0 else 1 + Ser.bringP t 6
def mdQ (t q : Int) : Int := if t.tmod 2 = 0 then 0 else 1 + Ser.bringP q 4
theorem mdQ_ok (f p t q n : Int) : okQ (mdF f) (mdP p) (mdT t) (mdQ t q) (mdN n) := by
  have h1 := Ser.bringP_bd f 6 (by omega)
  have h2 := Ser.bringP_bd p 4 (by omega)
  have h3 := Ser.bringP_bd t 6 (by omega)
  have h4 := Ser.bringP_bd q 4 (by omega)
  have h5 := Ser.bringP_bd n 65536 (by omega)
  unfold okQ mdF mdP mdT mdQ mdN
  by_cases h : t.tmod 2 = 0
  · rw [if_pos h, if_pos h]; omega
  · rw [if_neg h, if_neg h]; omega
theorem wrap_in (x : Int) (h : 0 ≤ x ∧ x < 65536) : IntKind.i64.wrap (1 + x) = 1 + x := by rw [IntKind.wrap_i64]; omega

theorem PrbO.mk {w w' : World} {f p t q n f' p' t' q' n' : Int} (h : [f, p, t, q, n] = [f', p', t', q', n']) (hb : Below w.heap.size w w') :
    PrbO f p t q n w (.returned (.agg #[.int .i64 f', .int .i64 p', .int .i64 t', .int .i64 q', .int .i64 n'])) w' := by
  simp only [List.cons.injEq, and_true] at h
  obtain ⟨rfl, rfl, rfl, rfl, rfl⟩ := h
  exact ⟨rfl, hb⟩
theorem md_even (f p q n : Int) {t : Int} (h : t.tmod 2 = 0) : [mdF f, mdP p, mdT t, mdQ t q, mdN n] = [1 + Ser.bringP f 6, 1 + Ser.bringP p 4, 0, 0, Ser.bringP n 65536] := by
  unfold mdF mdP mdT mdQ mdN; rw [if_pos h, if_pos h]
theorem md_odd (f p q n : Int) {t : Int} (h : t.tmod 2 ≠ 0) : [mdF f, mdP p, mdT t, mdQ t q, mdN n] = [1 + Ser.bringP f 6, 1 + Ser.bringP p 4, 1 + Ser.bringP t 6, 1 + Ser.bringP q 4, Ser.bringP n 65536] := by
  unfold mdF mdP mdT mdQ mdN; rw [if_neg h, if_neg h]

set_option maxRecDepth 100000 in
set_option maxHeartbeats 1600000 in
theorem made_even (f p t q n : Int) (w : World) (ht : t.tmod 2 = 0) :
    Calls Try.prog 21 #[.agg #[.int .i64 f, .int .i64 p, .int .i64 t, .int .i64 q, .int .i64 n]] w (PrbO (mdF f) (mdP p) (mdT t) (mdQ t q) (mdN n) w) := by
  have e0 : (t.tmod 2 != 0) = false := by rw [ht]; rfl
  have Hend := Kp.mk (md_even f p q n ht)
  clear ht
  have h1 := Ser.bringP_bd f 6 (by omega)
  have h2 := Ser.bringP_bd p 4 (by omega)
  have h3 := Ser.bringP_bd t 6 (by omega)
  have h4 := Ser.bringP_bd q 4 (by omega)
  have w1 := wrap_in (Ser.bringP f 6) (by omega)
  have w2 := wrap_in (Ser.bringP p 4) (by omega)
  have w3 := wrap_in (Ser.bringP t 6) (by omega)
  have w4 := wrap_in (Ser.bringP q 4) (by omega)
  go_enter Try.func21, Try.ntmps21
  go_wp2_with fail
  have t0 := below_two w (.cells #[.int .i64 f, .int .i64 p, .int .i64 t, .int .i64 q, .int .i64 n] 23) (.cells #[.int .i64 0, .int .i64 0, .int .i64 0, .int .i64 0, .int .i64 0] 23)
  have hx0 : Nb 23 ((w.alloc (.cells #[.int .i64 f, .int .i64 p, .int .i64 t, .int .i64 q, .int .i64 n] 23)).alloc (.cells #[.int .i64 0, .int .i64 0, .int .i64 0, .int .i64 0, .int .i64 0] 23)) w.heap.size [f, p, t, q, n] := (Nb.new 23 w [f, p, t, q, n]).alloc _
  have hr0 : Nb 23 ((w.alloc (.cells #[.int .i64 f, .int .i64 p, .int .i64 t, .int .i64 q, .int .i64 n] 23)).alloc (.cells #[.int .i64 0, .int .i64 0, .int .i64 0, .int .i64 0, .int .i64 0] 23)) (w.heap.size + 1) [0, 0, 0, 0, 0] := by
    have := Nb.new 23 (w.alloc (.cells #[.int .i64 f, .int .i64 p, .int .i64 t, .int .i64 q, .int .i64 n] 23)) [0, 0, 0, 0, 0]
    rw [World.size_alloc] at this
    exact this
  have hz0 : ((w.alloc (.cells #[.int .i64 f, .int .i64 p, .int .i64 t, .int .i64 q, .int .i64 n] 23)).alloc (.cells #[.int .i64 0, .int .i64 0, .int .i64 0, .int .i64 0, .int .i64 0] 23)).heap.size = w.heap.size + 2 := by simp
  generalize ((w.alloc (.cells #[.int .i64 f, .int .i64 p, .int .i64 t, .int .i64 q, .int .i64 n] 23)).alloc (.cells #[.int .i64 0, .int .i64 0, .int .i64 0, .int .i64 0, .int .i64 0] 23)) = w1 at *
  obtain ⟨d0, d1, d2, d3, d4⟩ := hx0.five
  go_region_held3 (fun w' => w'.cell? ⟨w.heap.size, 0, none⟩ = some (.int .i64 f) ∧ w'.cell? ⟨w.heap.size, 1, none⟩ = some (.int .i64 p) ∧ w'.cell? ⟨w.heap.size, 4, none⟩ = some (.int .i64 n))
    (first
      | exact ⟨d0, d1, d4⟩
      | (go_keep; done))
    (first
      | (go_at_call 23; refine (Ser.bring_any _ _ _ (by omega) (by omega)).mono ?_; rintro e w' ⟨rfl, rfl⟩))
  all_goals
    have hx2 : Nb 23 (w1.alloc (.cells #[.int .i64 (1 + Ser.bringP f 6), .int .i64 (1 + Ser.bringP p 4), .int .i64 0, .int .i64 0, .int .i64 (Ser.bringP n 65536)] 23)).drew w.heap.size [f, p, t, q, n] := hx0.alloc _
    have hr2 : Nb 23 (w1.alloc (.cells #[.int .i64 (1 + Ser.bringP f 6), .int .i64 (1 + Ser.bringP p 4), .int .i64 0, .int .i64 0, .int .i64 (Ser.bringP n 65536)] 23)).drew (w.heap.size + 1) [0, 0, 0, 0, 0] := hr0.alloc _
    have ho2 : Nb 23 (w1.alloc (.cells #[.int .i64 (1 + Ser.bringP f 6), .int .i64 (1 + Ser.bringP p 4), .int .i64 0, .int .i64 0, .int .i64 (Ser.bringP n 65536)] 23)).drew (w.heap.size + 2) [1 + Ser.bringP f 6, 1 + Ser.bringP p 4, 0, 0, Ser.bringP n 65536] := by
      have := Nb.new 23 w1 [1 + Ser.bringP f 6, 1 + Ser.bringP p 4, 0, 0, Ser.bringP n 65536]
      rw [hz0] at this
      exact this
    have hT2 : Below w.heap.size w (w1.alloc (.cells #[.int .i64 (1 + Ser.bringP f 6), .int .i64 (1 + Ser.bringP p 4), .int .i64 0, .int .i64 0, .int .i64 (Ser.bringP n 65536)] 23)).drew := (t0.alloc (by omega) _).drew
    generalize (w1.alloc (.cells #[.int .i64 (1 + Ser.bringP f 6), .int .i64 (1 + Ser.bringP p 4), .int .i64 0, .int .i64 0, .int .i64 (Ser.bringP n 65536)] 23)).drew = w2 at *
    clear d0 d1 d2 d3 d4 hx0 hr0 t0
    have d2 := hx2.five.2.2.1
    obtain ⟨o0, o1, o2, o3, o4⟩ := ho2.five
    obtain ⟨r0, r1, r2, r3, r4⟩ := hr2.five
    have hf := hr2.free
    go_wp2_with fail
    clear d2 o0 o1 o2 o3 o4 r0 r1 r2 r3 r4 hf
    have hk9 := hr2.put5 (f' := 1 + Ser.bringP f 6) (p' := 1 + Ser.bringP p 4) (t' := 0) (q' := 0) (n' := Ser.bringP n 65536)
    have hT9 := put5_below hT2 (Nat.le_succ _) (1 + Ser.bringP f 6) (1 + Ser.bringP p 4) (0) (0) (Ser.bringP n 65536)
    obtain ⟨z0, z1, z2, z3, z4⟩ := hk9.five
    change bodyPost _ _ _ _ _ (put5 w2 (w.heap.size + 1) (1 + Ser.bringP f 6) (1 + Ser.bringP p 4) (0) (0) (Ser.bringP n 65536))
    generalize put5 w2 (w.heap.size + 1) (1 + Ser.bringP f 6) (1 + Ser.bringP p 4) (0) (0) (Ser.bringP n 65536) = wd at *
    refine bodyPost_ret (v := .agg #[.int .i64 (1 + Ser.bringP f 6), .int .i64 (1 + Ser.bringP p 4), .int .i64 (0), .int .i64 (0), .int .i64 (Ser.bringP n 65536)]) (by simp [results, Try.results21, go_sem, z0, z1, z2, z3, z4]) rfl ?_
    exact PrbO.mk Hend.out hT9

set_option maxRecDepth 100000 in
set_option maxHeartbeats 1600000 in
theorem made_odd (f p t q n : Int) (w : World) (ht : t.tmod 2 ≠ 0) :
    Calls Try.prog 21 #[.agg #[.int .i64 f, .int .i64 p, .int .i64 t, .int .i64 q, .int .i64 n]] w (PrbO (mdF f) (mdP p) (mdT t) (mdQ t q) (mdN n) w) := by
  have e0 : (t.tmod 2 != 0) = true := bne_iff_ne.2 ht
  have Hend := Kp.mk (md_odd f p q n ht)
  clear ht
  have h1 := Ser.bringP_bd f 6 (by omega)
  have h2 := Ser.bringP_bd p 4 (by omega)
  have h3 := Ser.bringP_bd t 6 (by omega)
  have h4 := Ser.bringP_bd q 4 (by omega)
  have w1 := wrap_in (Ser.bringP f 6) (by omega)
  have w2 := wrap_in (Ser.bringP p 4) (by omega)
  have w3 := wrap_in (Ser.bringP t 6) (by omega)
  have w4 := wrap_in (Ser.bringP q 4) (by omega)
  go_enter Try.func21, Try.ntmps21
  go_wp2_with fail
  have t0 := below_two w (.cells #[.int .i64 f, .int .i64 p, .int .i64 t, .int .i64 q, .int .i64 n] 23) (.cells #[.int .i64 0, .int .i64 0, .int .i64 0, .int .i64 0, .int .i64 0] 23)
  have hx0 : Nb 23 ((w.alloc (.cells #[.int .i64 f, .int .i64 p, .int .i64 t, .int .i64 q, .int .i64 n] 23)).alloc (.cells #[.int .i64 0, .int .i64 0, .int .i64 0, .int .i64 0, .int .i64 0] 23)) w.heap.size [f, p, t, q, n] := (Nb.new 23 w [f, p, t, q, n]).alloc _
  have hr0 : Nb 23 ((w.alloc (.cells #[.int .i64 f, .int .i64 p, .int .i64 t, .int .i64 q, .int .i64 n] 23)).alloc (.cells #[.int .i64 0, .int .i64 0, .int .i64 0, .int .i64 0, .int .i64 0] 23)) (w.heap.size + 1) [0, 0, 0, 0, 0] := by
    have := Nb.new 23 (w.alloc (.cells #[.int .i64 f, .int .i64 p, .int .i64 t, .int .i64 q, .int .i64 n] 23)) [0, 0, 0, 0, 0]
    rw [World.size_alloc] at this
    exact this
  have hz0 : ((w.alloc (.cells #[.int .i64 f, .int .i64 p, .int .i64 t, .int .i64 q, .int .i64 n] 23)).alloc (.cells #[.int .i64 0, .int .i64 0, .int .i64 0, .int .i64 0, .int .i64 0] 23)).heap.size = w.heap.size + 2 := by simp
  generalize ((w.alloc (.cells #[.int .i64 f, .int .i64 p, .int .i64 t, .int .i64 q, .int .i64 n] 23)).alloc (.cells #[.int .i64 0, .int .i64 0, .int .i64 0, .int .i64 0, .int .i64 0] 23)) = w1 at *
  obtain ⟨d0, d1, d2, d3, d4⟩ := hx0.five
  go_region_held3 (fun w' => w'.cell? ⟨w.heap.size, 0, none⟩ = some (.int .i64 f) ∧ w'.cell? ⟨w.heap.size, 1, none⟩ = some (.int .i64 p) ∧ w'.cell? ⟨w.heap.size, 4, none⟩ = some (.int .i64 n))
    (first
      | exact ⟨d0, d1, d4⟩
      | (go_keep; done))
    (first
      | (go_at_call 23; refine (Ser.bring_any _ _ _ (by omega) (by omega)).mono ?_; rintro e w' ⟨rfl, rfl⟩))
  all_goals
    have hx2 : Nb 23 (w1.alloc (.cells #[.int .i64 (1 + Ser.bringP f 6), .int .i64 (1 + Ser.bringP p 4), .int .i64 0, .int .i64 0, .int .i64 (Ser.bringP n 65536)] 23)).drew w.heap.size [f, p, t, q, n] := hx0.alloc _
    have hr2 : Nb 23 (w1.alloc (.cells #[.int .i64 (1 + Ser.bringP f 6), .int .i64 (1 + Ser.bringP p 4), .int .i64 0, .int .i64 0, .int .i64 (Ser.bringP n 65536)] 23)).drew (w.heap.size + 1) [0, 0, 0, 0, 0] := hr0.alloc _
    have ho2 : Nb 23 (w1.alloc (.cells #[.int .i64 (1 + Ser.bringP f 6), .int .i64 (1 + Ser.bringP p 4), .int .i64 0, .int .i64 0, .int .i64 (Ser.bringP n 65536)] 23)).drew (w.heap.size + 2) [1 + Ser.bringP f 6, 1 + Ser.bringP p 4, 0, 0, Ser.bringP n 65536] := by
      have := Nb.new 23 w1 [1 + Ser.bringP f 6, 1 + Ser.bringP p 4, 0, 0, Ser.bringP n 65536]
      rw [hz0] at this
      exact this
    have hT2 : Below w.heap.size w (w1.alloc (.cells #[.int .i64 (1 + Ser.bringP f 6), .int .i64 (1 + Ser.bringP p 4), .int .i64 0, .int .i64 0, .int .i64 (Ser.bringP n 65536)] 23)).drew := (t0.alloc (by omega) _).drew
    generalize (w1.alloc (.cells #[.int .i64 (1 + Ser.bringP f 6), .int .i64 (1 + Ser.bringP p 4), .int .i64 0, .int .i64 0, .int .i64 (Ser.bringP n 65536)] 23)).drew = w2 at *
    clear d0 d1 d2 d3 d4 hx0 hr0 t0
    have d2 := hx2.five.2.2.1
    have hx3 : Nb 23 (w2.setCell ⟨w.heap.size + 2, 2, none⟩ (.int .i64 (1 + Ser.bringP t 6))) w.heap.size [f, p, t, q, n] := hx2.other (by omega) 2 _
    have hr3 : Nb 23 (w2.setCell ⟨w.heap.size + 2, 2, none⟩ (.int .i64 (1 + Ser.bringP t 6))) (w.heap.size + 1) [0, 0, 0, 0, 0] := hr2.other (by omega) 2 _
    have ho3 : Nb 23 (w2.setCell ⟨w.heap.size + 2, 2, none⟩ (.int .i64 (1 + Ser.bringP t 6))) (w.heap.size + 2) [1 + Ser.bringP f 6, 1 + Ser.bringP p 4, 1 + Ser.bringP t 6, 0, Ser.bringP n 65536] := ho2.set 2 _
    have hT3 : Below w.heap.size w (w2.setCell ⟨w.heap.size + 2, 2, none⟩ (.int .i64 (1 + Ser.bringP t 6))) := hT2.setCell (p := ⟨w.heap.size + 2, 2, none⟩) (by simp) _
    have o2 := ho2.five.2.2.1
    have hf2 := ho2.free
    have d3 := hx3.five.2.2.2.1
    go_wp2_with fail
    refine (Ser.bring_any t 6 w2 (by omega) (by omega)).mono ?_
    rintro e w' ⟨rfl, rfl⟩
    go_wp2_with fail
    generalize (w2.setCell ⟨w.heap.size + 2, 2, none⟩ (.int .i64 (1 + Ser.bringP t 6))) = w3 at *
    clear d2 hf2 o2 d3 hx2 hr2 ho2 hT2
    have hx4 : Nb 23 (w3.setCell ⟨w.heap.size + 2, 3, none⟩ (.int .i64 (1 + Ser.bringP q 4))) w.heap.size [f, p, t, q, n] := hx3.other (by omega) 3 _
    have hr4 : Nb 23 (w3.setCell ⟨w.heap.size + 2, 3, none⟩ (.int .i64 (1 + Ser.bringP q 4))) (w.heap.size + 1) [0, 0, 0, 0, 0] := hr3.other (by omega) 3 _
    have ho4 : Nb 23 (w3.setCell ⟨w.heap.size + 2, 3, none⟩ (.int .i64 (1 + Ser.bringP q 4))) (w.heap.size + 2) [1 + Ser.bringP f 6, 1 + Ser.bringP p 4, 1 + Ser.bringP t 6, 1 + Ser.bringP q 4, Ser.bringP n 65536] := ho3.set 3 _
    have hT4 : Below w.heap.size w (w3.setCell ⟨w.heap.size + 2, 3, none⟩ (.int .i64 (1 + Ser.bringP q 4))) := hT3.setCell (p := ⟨w.heap.size + 2, 3, none⟩) (by simp) _
    have o3 := ho3.five.2.2.2.1
    have hf3 := ho3.free
    obtain ⟨o0, o1, o2, o3', o4⟩ := ho4.five
    obtain ⟨r0, r1, r2, r3, r4⟩ := hr4.five
    have hf := hr4.free
    refine (Ser.bring_any q 4 w3 (by omega) (by omega)).mono ?_
    rintro e w' ⟨rfl, rfl⟩
    go_wp2_with fail
    generalize (w3.setCell ⟨w.heap.size + 2, 3, none⟩ (.int .i64 (1 + Ser.bringP q 4))) = w4 at *
    clear o0 o1 o2 o3 o3' o4 r0 r1 r2 r3 r4 hf hf3
    have hk9 := hr4.put5 (f' := 1 + Ser.bringP f 6) (p' := 1 + Ser.bringP p 4) (t' := 1 + Ser.bringP t 6) (q' := 1 + Ser.bringP q 4) (n' := Ser.bringP n 65536)
    have hT9 := put5_below hT4 (Nat.le_succ _) (1 + Ser.bringP f 6) (1 + Ser.bringP p 4) (1 + Ser.bringP t 6) (1 + Ser.bringP q 4) (Ser.bringP n 65536)
    obtain ⟨z0, z1, z2, z3, z4⟩ := hk9.five
    change bodyPost _ _ _ _ _ (put5 w4 (w.heap.size + 1) (1 + Ser.bringP f 6) (1 + Ser.bringP p 4) (1 + Ser.bringP t 6) (1 + Ser.bringP q 4) (Ser.bringP n 65536))
    generalize put5 w4 (w.heap.size + 1) (1 + Ser.bringP f 6) (1 + Ser.bringP p 4) (1 + Ser.bringP t 6) (1 + Ser.bringP q 4) (Ser.bringP n 65536) = wd at *
    refine bodyPost_ret (v := .agg #[.int .i64 (1 + Ser.bringP f 6), .int .i64 (1 + Ser.bringP p 4), .int .i64 (1 + Ser.bringP t 6), .int .i64 (1 + Ser.bringP q 4), .int .i64 (Ser.bringP n 65536)]) (by simp [results, Try.results21, go_sem, z0, z1, z2, z3, z4]) rfl ?_
    exact PrbO.mk Hend.out hT9

theorem made_any (f p t q n : Int) (w : World) :
    Calls Try.prog 21 #[.agg #[.int .i64 f, .int .i64 p, .int .i64 t, .int .i64 q, .int .i64 n]] w (PrbO (mdF f) (mdP p) (mdT t) (mdQ t q) (mdN n) w) := by
  by_cases h : t.tmod 2 = 0
  · exact made_even f p t q n w h
  · exact made_odd f p t q n w h
end Go.Proofs.Ytikmgemfbdpfiaa.Oct
