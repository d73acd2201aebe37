/- The walk of DatumKnown. -/
import Derived.Test.YtbgbajamjcohoaaDatH
import Derived.Test.YtbgbajamjcohoaaDatI
import Derived.Test.YtbgbajamjcohoaaDatK
namespace Go.Proofs.Ytbgbajamjcohoaa.Oct
open Go.RowKit
set_option linter.unusedVariables false

def endsD : List Int := [-9223372036854775808, -1, 0, 1, 12, 13, 200, 201, 255, 256, 4294967295, 4294967296, 9223372036854775807]
/-- The ends lie in a block of their own. -/
def knD (w : World) : World := w.alloc (.cells (endsD.map (Value.int .i64)).toArray 3)
theorem knD_size (w : World) : (knD w).heap.size = w.heap.size + 1 := by simp [knD]
theorem knD_below (w : World) : Below w.heap.size w (knD w) := below_alloc w _
theorem knD_cells {w wr : World} (hb : Below (w.heap.size + 1) (knD w) wr) (k : Nat) (hk : k < 13) : wr.cell? ⟨w.heap.size, k, none⟩ = some (.int .i64 (endsD.getD k 0)) := by
  have h := (rd_lit .i64 w 3 endsD (by unfold maxLen; decide) (w.heap.size + 1) (by omega)).below hb
  obtain ⟨b, off, e, hbB, hc⟩ := h.at_ (by decide)
  simp at e
  obtain ⟨rfl, rfl⟩ := e
  have := hc k hk
  rw [Nat.zero_add] at this
  exact this
theorem sealP_len (k : Int) (l : List Int) : (sealP k l).1.length ≤ 512 := by
  unfold sealP
  split
  · split
    · simp
    · simp only [List.length_append, dg_len]; omega
  · simp
theorem Rd.wide {k : IntKind} {w : World} {B B' n c : Nat} {A : Option Addr} {l : List Int} (h : Rd k w B A n c l) (hB : B ≤ B') : Rd k w B' A n c l := by
  obtain ⟨h1, h2, h3, h4, h5⟩ := h
  refine ⟨h1, h2, h3, h4, fun hn => ?_⟩
  obtain ⟨b, off, e, hb, hc⟩ := h5 hn
  exact ⟨b, off, e, by omega, hc⟩
/-- The four data of an end lie in a block. -/
def FourD (w : World) (g : Nat) (n : Int) : Prop := w.heap[g]? = some (.cells #[.int .i64 n, .int .i64 0, .int .i64 0, .int .u8 0, .int .u8 0, .int .u8 0, .int .i64 0, .int .i64 n, .int .i64 0, .int .u8 0, .int .u8 0, .int .u8 0, .int .i64 0, .int .i64 0, .int .i64 n, .int .u8 0, .int .u8 0, .int .u8 0, .int .i64 200, .int .i64 12, .int .i64 n, .int .u8 255, .int .u8 0, .int .u8 255] 25 (0, 0))
theorem FourD.new (w : World) (n : Int) : FourD (w.alloc (.cells #[.int .i64 n, .int .i64 0, .int .i64 0, .int .u8 0, .int .u8 0, .int .u8 0, .int .i64 0, .int .i64 n, .int .i64 0, .int .u8 0, .int .u8 0, .int .u8 0, .int .i64 0, .int .i64 0, .int .i64 n, .int .u8 0, .int .u8 0, .int .u8 0, .int .i64 200, .int .i64 12, .int .i64 n, .int .u8 255, .int .u8 0, .int .u8 255] 25)) w.heap.size n := heap_alloc_new w _
theorem FourD.below {w w' : World} {g B : Nat} {n : Int} (h : FourD w g n) (hb : Below B w w') (hg : g < B) : FourD w' g n := (hb.block g hg).trans h
theorem FourD.lt {w : World} {g : Nat} {n : Int} (h : FourD w g n) : g < w.heap.size := (Array.getElem?_eq_some_iff.1 h).1
theorem FourD.at0 {w : World} {g : Nat} {n : Int} (h : FourD w g n) : w.cell? ⟨g, 0, none⟩ = some (.int .i64 n) ∧ w.cell? ⟨g, 1, none⟩ = some (.int .i64 0) ∧ w.cell? ⟨g, 2, none⟩ = some (.int .i64 0) ∧ w.cell? ⟨g, 3, none⟩ = some (.int .u8 0) ∧ w.cell? ⟨g, 4, none⟩ = some (.int .u8 0) ∧ w.cell? ⟨g, 5, none⟩ = some (.int .u8 0) := by
  refine ⟨?_, ?_, ?_, ?_, ?_, ?_⟩ <;> simp [World.cell?, show w.heap[g]? = _ from h]
theorem FourD.at1 {w : World} {g : Nat} {n : Int} (h : FourD w g n) : w.cell? ⟨g, 6, none⟩ = some (.int .i64 0) ∧ w.cell? ⟨g, 7, none⟩ = some (.int .i64 n) ∧ w.cell? ⟨g, 8, none⟩ = some (.int .i64 0) ∧ w.cell? ⟨g, 9, none⟩ = some (.int .u8 0) ∧ w.cell? ⟨g, 10, none⟩ = some (.int .u8 0) ∧ w.cell? ⟨g, 11, none⟩ = some (.int .u8 0) := by
  refine ⟨?_, ?_, ?_, ?_, ?_, ?_⟩ <;> simp [World.cell?, show w.heap[g]? = _ from h]
theorem FourD.at2 {w : World} {g : Nat} {n : Int} (h : FourD w g n) : w.cell? ⟨g, 12, none⟩ = some (.int .i64 0) ∧ w.cell? ⟨g, 13, none⟩ = some (.int .i64 0) ∧ w.cell? ⟨g, 14, none⟩ = some (.int .i64 n) ∧ w.cell? ⟨g, 15, none⟩ = some (.int .u8 0) ∧ w.cell? ⟨g, 16, none⟩ = some (.int .u8 0) ∧ w.cell? ⟨g, 17, none⟩ = some (.int .u8 0) := by
  refine ⟨?_, ?_, ?_, ?_, ?_, ?_⟩ <;> simp [World.cell?, show w.heap[g]? = _ from h]
theorem FourD.at3 {w : World} {g : Nat} {n : Int} (h : FourD w g n) : w.cell? ⟨g, 18, none⟩ = some (.int .i64 200) ∧ w.cell? ⟨g, 19, none⟩ = some (.int .i64 12) ∧ w.cell? ⟨g, 20, none⟩ = some (.int .i64 n) ∧ w.cell? ⟨g, 21, none⟩ = some (.int .u8 255) ∧ w.cell? ⟨g, 22, none⟩ = some (.int .u8 0) ∧ w.cell? ⟨g, 23, none⟩ = some (.int .u8 255) := by
  refine ⟨?_, ?_, ?_, ?_, ?_, ?_⟩ <;> simp [World.cell?, show w.heap[g]? = _ from h]

set_option maxRecDepth 100000 in
set_option maxHeartbeats 4000000 in
theorem knownD_any (w : World) :
    Calls Try.prog 8 #[] w fun e w' => e = .returned (.bool true) ∧ Below w.heap.size w w' := by
  go_enter Try.func8, Try.ntmps8
  go_wp2_with fail
  go_loopw [2] (fun i wr => ∃ k : Nat, k ≤ 13 ∧ i = .int .i64 k ∧ Below (w.heap.size + 1) (knD w) wr) (fun i _ => 13 - (intOf i).toNat)
  case atStart => exact ⟨0, by omega, rfl, Below.refl _ _⟩
  case round =>
    obtain ⟨i, hi, rfl, hb⟩ := hrel
    have hz := hb.size
    rw [knD_size] at hz
    by_cases hlt : i < 13
    · have ci := knD_cells hb i hlt
      have hI : (i : Int) < 13 := by omega
      generalize endsD.getD i 0 = n at *
      go_wp2_with fail
      have b4 := FourD.new wr n
      have t0 := below_alloc wr (.cells #[.int .i64 n, .int .i64 0, .int .i64 0, .int .u8 0, .int .u8 0, .int .u8 0, .int .i64 0, .int .i64 n, .int .i64 0, .int .u8 0, .int .u8 0, .int .u8 0, .int .i64 0, .int .i64 0, .int .i64 n, .int .u8 0, .int .u8 0, .int .u8 0, .int .i64 200, .int .i64 12, .int .i64 n, .int .u8 255, .int .u8 0, .int .u8 255] 25)
      generalize hW : (wr.alloc (.cells #[.int .i64 n, .int .i64 0, .int .i64 0, .int .u8 0, .int .u8 0, .int .u8 0, .int .i64 0, .int .i64 n, .int .i64 0, .int .u8 0, .int .u8 0, .int .u8 0, .int .i64 0, .int .i64 0, .int .i64 n, .int .u8 0, .int .u8 0, .int .u8 0, .int .i64 200, .int .i64 12, .int .i64 n, .int .u8 255, .int .u8 0, .int .u8 255] 25)) = w0 at *
      clear hW
      have hlt0 := b4.lt
      refine wp_loop_rounds 5 ?_
      rw [rounds_succ]
      obtain ⟨d0, d1, d2, d3, d4, d5⟩ := b4.at0
      go_wp2_with fail
      refine (datumBytes_any n 0 0 0 0 0 w0 (by omega) (by omega) (by omega)).mono ?_
      rintro e u0 ⟨rfl, s0⟩
      have b0' := b4.below s0 (by have := b4.lt; omega)
      have T0 := t0.trans (s0.mono (by have := t0.size; omega))
      clear d0 d1 d2 d3 d4 d5 b4 t0
      obtain ⟨d0, d1, d2, d3, d4, d5⟩ := b0'.at0
      go_wp2_with fail
      refine (datumBack_any n 0 0 0 0 0 u0 (by omega) (by omega) (by omega)).mono ?_
      rintro e v0 ⟨rfl, r0⟩
      have B0 := b0'.below r0 (by have := b0'.lt; omega)
      have TT0 := T0.trans (r0.mono (by have := T0.size; omega))
      clear d0 d1 d2 d3 d4 d5 b0' T0 s0 r0
      go_wp2_with fail
      rw [rounds_succ]
      obtain ⟨d0, d1, d2, d3, d4, d5⟩ := B0.at1
      go_wp2_with fail
      refine (datumBytes_any 0 n 0 0 0 0 v0 (by omega) (by omega) (by omega)).mono ?_
      rintro e u1 ⟨rfl, s1⟩
      have b1' := B0.below s1 (by have := B0.lt; omega)
      have T1 := TT0.trans (s1.mono (by have := TT0.size; omega))
      clear d0 d1 d2 d3 d4 d5 B0 TT0
      obtain ⟨d0, d1, d2, d3, d4, d5⟩ := b1'.at1
      go_wp2_with fail
      refine (datumBack_any 0 n 0 0 0 0 u1 (by omega) (by omega) (by omega)).mono ?_
      rintro e v1 ⟨rfl, r1⟩
      have B1 := b1'.below r1 (by have := b1'.lt; omega)
      have TT1 := T1.trans (r1.mono (by have := T1.size; omega))
      clear d0 d1 d2 d3 d4 d5 b1' T1 s1 r1
      go_wp2_with fail
      rw [rounds_succ]
      obtain ⟨d0, d1, d2, d3, d4, d5⟩ := B1.at2
      go_wp2_with fail
      refine (datumBytes_any 0 0 n 0 0 0 v1 (by omega) (by omega) (by omega)).mono ?_
      rintro e u2 ⟨rfl, s2⟩
      have b2' := B1.below s2 (by have := B1.lt; omega)
      have T2 := TT1.trans (s2.mono (by have := TT1.size; omega))
      clear d0 d1 d2 d3 d4 d5 B1 TT1
      obtain ⟨d0, d1, d2, d3, d4, d5⟩ := b2'.at2
      go_wp2_with fail
      refine (datumBack_any 0 0 n 0 0 0 u2 (by omega) (by omega) (by omega)).mono ?_
      rintro e v2 ⟨rfl, r2⟩
      have B2 := b2'.below r2 (by have := b2'.lt; omega)
      have TT2 := T2.trans (r2.mono (by have := T2.size; omega))
      clear d0 d1 d2 d3 d4 d5 b2' T2 s2 r2
      go_wp2_with fail
      rw [rounds_succ]
      obtain ⟨d0, d1, d2, d3, d4, d5⟩ := B2.at3
      go_wp2_with fail
      refine (datumBytes_any 200 12 n 255 0 255 v2 (by omega) (by omega) (by omega)).mono ?_
      rintro e u3 ⟨rfl, s3⟩
      have b3' := B2.below s3 (by have := B2.lt; omega)
      have T3 := TT2.trans (s3.mono (by have := TT2.size; omega))
      clear d0 d1 d2 d3 d4 d5 B2 TT2
      obtain ⟨d0, d1, d2, d3, d4, d5⟩ := b3'.at3
      go_wp2_with fail
      refine (datumBack_any 200 12 n 255 0 255 u3 (by omega) (by omega) (by omega)).mono ?_
      rintro e v3 ⟨rfl, r3⟩
      have B3 := b3'.below r3 (by have := b3'.lt; omega)
      have TT3 := T3.trans (r3.mono (by have := T3.size; omega))
      clear d0 d1 d2 d3 d4 d5 b3' T3 s3 r3
      go_wp2_with fail
      rw [rounds_succ]
      have hzz := TT3.size
      have hbx1 : 0 ≤ n % 256 := by omega
      have hbx2 : n % 256 < 256 := by omega
      have hbr := Ser.bringP_bd n 20 (by omega)
      go_wp2_with fail
      have hby1 : By [n % 256, 12, 1, 2, 3, 4, 5, 6, 7] := by intro z hz; simp at hz; omega
      have hby2 : By [3, n % 256, 1, 2, 3, 4, 5, 6, 7] := by intro z hz; simp at hz; omega
      refine (seal_any 1 (rd_lit .u8 v3 5 [n % 256, 12, 1, 2, 3, 4, 5, 6, 7] (by unfold maxLen; simp) (v3.heap.size + 1) (by omega)) hby1 (by simp) (by simp)).mono ?_
      rintro e w1 ⟨A1, n1, c1, rfl, ho1, s1⟩
      have hl1 := ho1.len
      have x1 : Below v3.heap.size v3 w1 := (below_alloc v3 (.cells ([n % 256, 12, 1, 2, 3, 4, 5, 6, 7].map (Value.int .u8)).toArray 5)).trans (s1.mono (by simp))
      have t1 := TT3.trans (x1.mono (by have := TT3.size; omega))
      have z1 := t1.size
      have m1 := sealP_len 1 [n % 256, 12, 1, 2, 3, 4, 5, 6, 7]
      rw [hl1] at m1
      go_wp2_with fail
      refine (seal_any 1 (rd_lit .u8 w1 5 [3, n % 256, 1, 2, 3, 4, 5, 6, 7] (by unfold maxLen; simp) (w1.heap.size + 1) (by omega)) hby2 (by simp) (by simp)).mono ?_
      rintro e w2 ⟨A2, n2, c2, rfl, ho2, s2⟩
      have hl2 := ho2.len
      have x2 : Below w1.heap.size w1 w2 := (below_alloc w1 (.cells ([3, n % 256, 1, 2, 3, 4, 5, 6, 7].map (Value.int .u8)).toArray 5)).trans (s2.mono (by simp))
      have t2 := t1.trans (x2.mono (by have := t1.size; omega))
      have z2 := t2.size
      have m2 := sealP_len 1 [3, n % 256, 1, 2, 3, 4, 5, 6, 7]
      rw [hl2] at m2
      go_wp2_with fail
      refine (Ser.bring_any n 20 _ (by omega) (by omega)).mono ?_
      rintro e w' ⟨rfl, rfl⟩
      obtain ⟨m, hm⟩ : ∃ m : Nat, Ser.bringP n 20 = m := ⟨(Ser.bringP n 20).toNat, by omega⟩
      rw [hm] at hbr
      generalize Ser.bringP n 20 = q at *
      subst hm
      have hmk := fun w => run_zeros m (by omega) (m : Int) rfl w
      go_wp2_with fail
      clear hmk
      refine (seal_any 1 (rd_zeros m (by omega) w2) (zeros_by m) (by simp) (by omega)).mono ?_
      rintro e w3 ⟨A3, n3, c3, rfl, ho3, s3⟩
      have hl3 := ho3.len
      have x3 : Below w2.heap.size w2 w3 := (below_alloc w2 (noughts m)).trans (s3.mono (by simp))
      have t3 := t2.trans (x3.mono (by have := t2.size; omega))
      have z3 := t3.size
      have m3 := sealP_len 1 (List.replicate m 0)
      rw [hl3] at m3
      have q1 := ho1.rd
      have q2 := ho2.rd
      have q3 := ho3.rd
      go_wp2_with fail
      have zz := x2.size
      have zz2 := x3.size
      have r1 := q1.below' (x2.trans (x3.mono zz)) (Nat.le_refl _)
      have r2 := q2.below x3
      have hy1 := sealP_by 1 _ hby1
      have hy2 := sealP_by 1 _ hby2
      have hy3 := sealP_by 1 _ (zeros_by m)
      generalize (sealP 1 [n % 256, 12, 1, 2, 3, 4, 5, 6, 7]).1 = e1 at *
      generalize (sealP 1 [3, n % 256, 1, 2, 3, 4, 5, 6, 7]).1 = e2 at *
      generalize (sealP 1 (List.replicate m 0)).1 = e3 at *
      refine (datumParses_any (r1.wide (by omega)) hy1 (by omega)).mono ?_
      rintro e w4 ⟨rfl, s4⟩
      have z4 := s4.size
      go_wp2_with fail
      refine (datumParses_any ((r2.wide (by omega)).below' s4 (Nat.le_refl _) |>.wide z4) hy2 (by omega)).mono ?_
      rintro e w5 ⟨rfl, s5⟩
      have z5 := s5.size
      go_wp2_with fail
      refine (datumParses_any (q3.below' (s4.trans (s5.mono z4)) (Nat.le_refl _) |>.wide (by omega)) hy3 (by omega)).mono ?_
      rintro e w6 ⟨rfl, s6⟩
      go_wp2_with fail
      go_roundw
      case rel => exact ⟨i + 1, by omega, by go_num, hb.trans (((t3.trans (s4.mono z3)).trans ((s5.mono (by omega)).trans (s6.mono (by omega)))).mono hz)⟩
      case measure => simp [intOf]; omega
    · obtain rfl : i = 13 := by omega
      go_wp2_with fail
      refine (worksD_any wr).mono ?_
      rintro e w2 ⟨rfl, hb2⟩
      go_wp2_with fail
      refine (datumParses_any (Rd.nil .u8 w2 w2.heap.size) By.nil (by omega)).mono ?_
      rintro e w3 ⟨rfl, hb3⟩
      go_wp2_with fail
      go_ret
      have t1 := ((knD_below w).trans (hb.mono (by omega)))
      have t2 := bstep t1 hb2 t1.size
      have t3 := bstep t2 hb3 t2.size
      exact ⟨rfl, t3⟩
end Go.Proofs.Ytbgbajamjcohoaa.Oct
