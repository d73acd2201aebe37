/- The walk of ProbeKnown. -/
import Derived.Test.YtikmgemfbdpfiaaPrbK
import Derived.Test.YtikmgemfbdpfiaaPrbL
import Derived.Test.YtikmgemfbdpfiaaPrbM
namespace Go.Proofs.Ytikmgemfbdpfiaa.Oct
open Go.RowKit
set_option linter.unusedVariables false

def endsQ : List Int := [-9223372036854775808, -1, 0, 1, 4, 5, 6, 7, 255, 256, 65535, 65536, 9223372036854775807]
/-- The ends lie in a block of their own. -/
def knQ (w : World) : World := w.alloc (.cells (endsQ.map (Value.int .i64)).toArray 3)
theorem knQ_size (w : World) : (knQ w).heap.size = w.heap.size + 1 := by simp [knQ]
theorem knQ_below (w : World) : Below w.heap.size w (knQ w) := below_alloc w _
theorem knQ_cells {w wr : World} (hb : Below (w.heap.size + 1) (knQ w) wr) (k : Nat) (hk : k < 13) : wr.cell? ⟨w.heap.size, k, none⟩ = some (.int .i64 (endsQ.getD k 0)) := by
  have h := (rd_lit .i64 w 3 endsQ (by unfold maxLen; decide) (w.heap.size + 1) (by omega)).below hb
  obtain ⟨b, off, e, hbB, hc⟩ := h.at_ (by decide)
  simp at e
  obtain ⟨rfl, rfl⟩ := e
  have := hc k hk
  rw [Nat.zero_add] at this
  exact this
theorem sealP_len (k : Int) (l : List Int) : (sealP k l).1.length ≤ 512 := by
  unfold sealP
  split
  · split
    · simp
    · simp only [List.length_append, dg_len]; omega
  · simp
theorem Rd.wide {k : IntKind} {w : World} {B B' n c : Nat} {A : Option Addr} {l : List Int} (h : Rd k w B A n c l) (hB : B ≤ B') : Rd k w B' A n c l := by
  obtain ⟨h1, h2, h3, h4, h5⟩ := h
  refine ⟨h1, h2, h3, h4, fun hn => ?_⟩
  obtain ⟨b, off, e, hb, hc⟩ := h5 hn
  exact ⟨b, off, e, by omega, hc⟩
/-- The five numbers of one of a row of probes. -/
theorem Nb.at5 {T : TypeId} {w : World} {g : Nat} {vs : List Int} (h : Nb T w g vs) (j : Nat) (hj : j + 4 < vs.length) (f p t q n : Int) (e : (vs.drop j).take 5 = [f, p, t, q, n]) :
    w.cell? ⟨g, j, none⟩ = some (.int .i64 f) ∧ w.cell? ⟨g, j + 1, none⟩ = some (.int .i64 p) ∧ w.cell? ⟨g, j + 2, none⟩ = some (.int .i64 t) ∧ w.cell? ⟨g, j + 3, none⟩ = some (.int .i64 q) ∧ w.cell? ⟨g, j + 4, none⟩ = some (.int .i64 n) := by
  have key : ∀ i, i < 5 → vs.getD (j + i) 0 = [f, p, t, q, n].getD i 0 := by
    intro i hi
    rw [← e, List.getD_eq_getElem?_getD, List.getD_eq_getElem?_getD, List.getElem?_take_of_lt hi, List.getElem?_drop]
  refine ⟨?_, ?_, ?_, ?_, ?_⟩
  · rw [h.cell j (by omega)]; have := key 0 (by omega); rw [Nat.add_zero] at this; rw [this]; rfl
  · rw [h.cell (j + 1) (by omega), key 1 (by omega)]; rfl
  · rw [h.cell (j + 2) (by omega), key 2 (by omega)]; rfl
  · rw [h.cell (j + 3) (by omega), key 3 (by omega)]; rfl
  · rw [h.cell (j + 4) (by omega), key 4 (by omega)]; rfl

set_option maxRecDepth 100000 in
set_option maxHeartbeats 8000000 in
theorem knownQ_any (w : World) :
    Calls Try.prog 9 #[] w fun e w' => e = .returned (.bool true) ∧ Below w.heap.size w w' := by
  go_enter Try.func9, Try.ntmps9
  go_wp2_with fail
  go_loopw [2] (fun i wr => ∃ k : Nat, k ≤ 13 ∧ i = .int .i64 k ∧ Below (w.heap.size + 1) (knQ w) wr) (fun i _ => 13 - (intOf i).toNat)
  case atStart => exact ⟨0, by omega, rfl, Below.refl _ _⟩
  case round =>
    obtain ⟨i, hi, rfl, hb⟩ := hrel
    have hz := hb.size
    rw [knQ_size] at hz
    by_cases hlt : i < 13
    · have ci := knQ_cells hb i hlt
      have hI : (i : Int) < 13 := by omega
      generalize endsQ.getD i 0 = n at *
      go_wp2_with fail
      have b0 : Nb 23 (wr.alloc (.cells #[.int .i64 n, .int .i64 1, .int .i64 0, .int .i64 0, .int .i64 0, .int .i64 1, .int .i64 n, .int .i64 0, .int .i64 0, .int .i64 0, .int .i64 1, .int .i64 1, .int .i64 n, .int .i64 1, .int .i64 0, .int .i64 1, .int .i64 1, .int .i64 1, .int .i64 n, .int .i64 0, .int .i64 6, .int .i64 4, .int .i64 0, .int .i64 0, .int .i64 n, .int .i64 1, .int .i64 1, .int .i64 n, .int .i64 n, .int .i64 0] 23)) wr.heap.size [n, 1, 0, 0, 0, 1, n, 0, 0, 0, 1, 1, n, 1, 0, 1, 1, 1, n, 0, 6, 4, 0, 0, n, 1, 1, n, n, 0] := Nb.new 23 wr [n, 1, 0, 0, 0, 1, n, 0, 0, 0, 1, 1, n, 1, 0, 1, 1, 1, n, 0, 6, 4, 0, 0, n, 1, 1, n, n, 0]
      have T0 := below_alloc wr (.cells #[.int .i64 n, .int .i64 1, .int .i64 0, .int .i64 0, .int .i64 0, .int .i64 1, .int .i64 n, .int .i64 0, .int .i64 0, .int .i64 0, .int .i64 1, .int .i64 1, .int .i64 n, .int .i64 1, .int .i64 0, .int .i64 1, .int .i64 1, .int .i64 1, .int .i64 n, .int .i64 0, .int .i64 6, .int .i64 4, .int .i64 0, .int .i64 0, .int .i64 n, .int .i64 1, .int .i64 1, .int .i64 n, .int .i64 n, .int .i64 0] 23)
      generalize (wr.alloc (.cells #[.int .i64 n, .int .i64 1, .int .i64 0, .int .i64 0, .int .i64 0, .int .i64 1, .int .i64 n, .int .i64 0, .int .i64 0, .int .i64 0, .int .i64 1, .int .i64 1, .int .i64 n, .int .i64 1, .int .i64 0, .int .i64 1, .int .i64 1, .int .i64 1, .int .i64 n, .int .i64 0, .int .i64 6, .int .i64 4, .int .i64 0, .int .i64 0, .int .i64 n, .int .i64 1, .int .i64 1, .int .i64 n, .int .i64 n, .int .i64 0] 23)) = v0 at *
      refine wp_loop_rounds 7 ?_
      rw [rounds_succ]
      obtain ⟨d0, d1, d2, d3, d4⟩ := b0.at5 0 (by simp) n 1 0 0 0 rfl
      go_wp2_with fail
      refine (probeBytes_any n 1 0 0 0 v0).mono ?_
      rintro e v0_0 ⟨rfl, s⟩
      have bv0_0 := b0.below s b0.lt
      have Tv0_0 := T0.trans (s.mono T0.size)
      clear d0 d1 d2 d3 d4 s b0 T0
      obtain ⟨d0, d1, d2, d3, d4⟩ := bv0_0.at5 0 (by simp) n 1 0 0 0 rfl
      go_wp2_with fail
      refine (probeBack_any n 1 0 0 0 v0_0).mono ?_
      rintro e v0_1 ⟨rfl, s⟩
      have bv0_1 := bv0_0.below s bv0_0.lt
      have Tv0_1 := Tv0_0.trans (s.mono Tv0_0.size)
      clear d0 d1 d2 d3 d4 s bv0_0 Tv0_0
      obtain ⟨d0, d1, d2, d3, d4⟩ := bv0_1.at5 0 (by simp) n 1 0 0 0 rfl
      go_wp2_with fail
      refine (probeFinds_any n 1 0 0 0 2 2 v0_1).mono ?_
      rintro e v0_2 ⟨rfl, s⟩
      have bv0_2 := bv0_1.below s bv0_1.lt
      have Tv0_2 := Tv0_1.trans (s.mono Tv0_1.size)
      clear d0 d1 d2 d3 d4 s bv0_1 Tv0_1
      go_wp2_with fail
      rw [rounds_succ]
      obtain ⟨d0, d1, d2, d3, d4⟩ := bv0_2.at5 5 (by simp) 1 n 0 0 0 rfl
      go_wp2_with fail
      refine (probeBytes_any 1 n 0 0 0 v0_2).mono ?_
      rintro e v1_0 ⟨rfl, s⟩
      have bv1_0 := bv0_2.below s bv0_2.lt
      have Tv1_0 := Tv0_2.trans (s.mono Tv0_2.size)
      clear d0 d1 d2 d3 d4 s bv0_2 Tv0_2
      obtain ⟨d0, d1, d2, d3, d4⟩ := bv1_0.at5 5 (by simp) 1 n 0 0 0 rfl
      go_wp2_with fail
      refine (probeBack_any 1 n 0 0 0 v1_0).mono ?_
      rintro e v1_1 ⟨rfl, s⟩
      have bv1_1 := bv1_0.below s bv1_0.lt
      have Tv1_1 := Tv1_0.trans (s.mono Tv1_0.size)
      clear d0 d1 d2 d3 d4 s bv1_0 Tv1_0
      obtain ⟨d0, d1, d2, d3, d4⟩ := bv1_1.at5 5 (by simp) 1 n 0 0 0 rfl
      go_wp2_with fail
      refine (probeFinds_any 1 n 0 0 0 2 2 v1_1).mono ?_
      rintro e v1_2 ⟨rfl, s⟩
      have bv1_2 := bv1_1.below s bv1_1.lt
      have Tv1_2 := Tv1_1.trans (s.mono Tv1_1.size)
      clear d0 d1 d2 d3 d4 s bv1_1 Tv1_1
      go_wp2_with fail
      rw [rounds_succ]
      obtain ⟨d0, d1, d2, d3, d4⟩ := bv1_2.at5 10 (by simp) 1 1 n 1 0 rfl
      go_wp2_with fail
      refine (probeBytes_any 1 1 n 1 0 v1_2).mono ?_
      rintro e v2_0 ⟨rfl, s⟩
      have bv2_0 := bv1_2.below s bv1_2.lt
      have Tv2_0 := Tv1_2.trans (s.mono Tv1_2.size)
      clear d0 d1 d2 d3 d4 s bv1_2 Tv1_2
      obtain ⟨d0, d1, d2, d3, d4⟩ := bv2_0.at5 10 (by simp) 1 1 n 1 0 rfl
      go_wp2_with fail
      refine (probeBack_any 1 1 n 1 0 v2_0).mono ?_
      rintro e v2_1 ⟨rfl, s⟩
      have bv2_1 := bv2_0.below s bv2_0.lt
      have Tv2_1 := Tv2_0.trans (s.mono Tv2_0.size)
      clear d0 d1 d2 d3 d4 s bv2_0 Tv2_0
      obtain ⟨d0, d1, d2, d3, d4⟩ := bv2_1.at5 10 (by simp) 1 1 n 1 0 rfl
      go_wp2_with fail
      refine (probeFinds_any 1 1 n 1 0 2 2 v2_1).mono ?_
      rintro e v2_2 ⟨rfl, s⟩
      have bv2_2 := bv2_1.below s bv2_1.lt
      have Tv2_2 := Tv2_1.trans (s.mono Tv2_1.size)
      clear d0 d1 d2 d3 d4 s bv2_1 Tv2_1
      go_wp2_with fail
      rw [rounds_succ]
      obtain ⟨d0, d1, d2, d3, d4⟩ := bv2_2.at5 15 (by simp) 1 1 1 n 0 rfl
      go_wp2_with fail
      refine (probeBytes_any 1 1 1 n 0 v2_2).mono ?_
      rintro e v3_0 ⟨rfl, s⟩
      have bv3_0 := bv2_2.below s bv2_2.lt
      have Tv3_0 := Tv2_2.trans (s.mono Tv2_2.size)
      clear d0 d1 d2 d3 d4 s bv2_2 Tv2_2
      obtain ⟨d0, d1, d2, d3, d4⟩ := bv3_0.at5 15 (by simp) 1 1 1 n 0 rfl
      go_wp2_with fail
      refine (probeBack_any 1 1 1 n 0 v3_0).mono ?_
      rintro e v3_1 ⟨rfl, s⟩
      have bv3_1 := bv3_0.below s bv3_0.lt
      have Tv3_1 := Tv3_0.trans (s.mono Tv3_0.size)
      clear d0 d1 d2 d3 d4 s bv3_0 Tv3_0
      obtain ⟨d0, d1, d2, d3, d4⟩ := bv3_1.at5 15 (by simp) 1 1 1 n 0 rfl
      go_wp2_with fail
      refine (probeFinds_any 1 1 1 n 0 2 2 v3_1).mono ?_
      rintro e v3_2 ⟨rfl, s⟩
      have bv3_2 := bv3_1.below s bv3_1.lt
      have Tv3_2 := Tv3_1.trans (s.mono Tv3_1.size)
      clear d0 d1 d2 d3 d4 s bv3_1 Tv3_1
      go_wp2_with fail
      rw [rounds_succ]
      obtain ⟨d0, d1, d2, d3, d4⟩ := bv3_2.at5 20 (by simp) 6 4 0 0 n rfl
      go_wp2_with fail
      refine (probeBytes_any 6 4 0 0 n v3_2).mono ?_
      rintro e v4_0 ⟨rfl, s⟩
      have bv4_0 := bv3_2.below s bv3_2.lt
      have Tv4_0 := Tv3_2.trans (s.mono Tv3_2.size)
      clear d0 d1 d2 d3 d4 s bv3_2 Tv3_2
      obtain ⟨d0, d1, d2, d3, d4⟩ := bv4_0.at5 20 (by simp) 6 4 0 0 n rfl
      go_wp2_with fail
      refine (probeBack_any 6 4 0 0 n v4_0).mono ?_
      rintro e v4_1 ⟨rfl, s⟩
      have bv4_1 := bv4_0.below s bv4_0.lt
      have Tv4_1 := Tv4_0.trans (s.mono Tv4_0.size)
      clear d0 d1 d2 d3 d4 s bv4_0 Tv4_0
      obtain ⟨d0, d1, d2, d3, d4⟩ := bv4_1.at5 20 (by simp) 6 4 0 0 n rfl
      go_wp2_with fail
      refine (probeFinds_any 6 4 0 0 n 2 2 v4_1).mono ?_
      rintro e v4_2 ⟨rfl, s⟩
      have bv4_2 := bv4_1.below s bv4_1.lt
      have Tv4_2 := Tv4_1.trans (s.mono Tv4_1.size)
      clear d0 d1 d2 d3 d4 s bv4_1 Tv4_1
      go_wp2_with fail
      rw [rounds_succ]
      obtain ⟨d0, d1, d2, d3, d4⟩ := bv4_2.at5 25 (by simp) 1 1 n n 0 rfl
      go_wp2_with fail
      refine (probeBytes_any 1 1 n n 0 v4_2).mono ?_
      rintro e v5_0 ⟨rfl, s⟩
      have bv5_0 := bv4_2.below s bv4_2.lt
      have Tv5_0 := Tv4_2.trans (s.mono Tv4_2.size)
      clear d0 d1 d2 d3 d4 s bv4_2 Tv4_2
      obtain ⟨d0, d1, d2, d3, d4⟩ := bv5_0.at5 25 (by simp) 1 1 n n 0 rfl
      go_wp2_with fail
      refine (probeBack_any 1 1 n n 0 v5_0).mono ?_
      rintro e v5_1 ⟨rfl, s⟩
      have bv5_1 := bv5_0.below s bv5_0.lt
      have Tv5_1 := Tv5_0.trans (s.mono Tv5_0.size)
      clear d0 d1 d2 d3 d4 s bv5_0 Tv5_0
      obtain ⟨d0, d1, d2, d3, d4⟩ := bv5_1.at5 25 (by simp) 1 1 n n 0 rfl
      go_wp2_with fail
      refine (probeFinds_any 1 1 n n 0 2 2 v5_1).mono ?_
      rintro e v5_2 ⟨rfl, s⟩
      have bv5_2 := bv5_1.below s bv5_1.lt
      have Tv5_2 := Tv5_1.trans (s.mono Tv5_1.size)
      clear d0 d1 d2 d3 d4 s bv5_1 Tv5_1
      go_wp2_with fail
      rw [rounds_succ]
      go_wp2_with fail
      clear bv5_2
      refine (probeFinds_any 2 2 0 0 0 n 1 v5_2).mono ?_
      rintro e x0 ⟨rfl, s⟩
      have Tx0 := Tv5_2.trans (s.mono Tv5_2.size)
      clear s Tv5_2
      go_wp2_with fail
      refine (probeFinds_any 2 2 0 0 0 1 n x0).mono ?_
      rintro e x1 ⟨rfl, s⟩
      have Tx1 := Tx0.trans (s.mono Tx0.size)
      clear s Tx0
      go_wp2_with fail
      have hbx1 : 0 ≤ n % 256 := by omega
      have hbx2 : n % 256 < 256 := by omega
      refine wp_loop_rounds 5 ?_
      rw [rounds_succ]
      go_wp2_with fail
      have hzc := Tx1.size
      have hby : By [n % 256, 1, 1, 1, 0, 0] := by intro z hz; simp at hz; omega
      have hr : Rd .u8 (x1.alloc (.cells #[.int .u8 (n % 256), .int .u8 (1), .int .u8 (1), .int .u8 (1), .int .u8 (0), .int .u8 (0)] 5)) (x1.heap.size + 1) (some ⟨x1.heap.size, 0, none⟩) 6 6 [n % 256, 1, 1, 1, 0, 0] := rd_lit .u8 x1 5 [n % 256, 1, 1, 1, 0, 0] (by unfold maxLen; simp) (x1.heap.size + 1) (by omega)
      have s0 := below_alloc x1 (.cells #[.int .u8 (n % 256), .int .u8 (1), .int .u8 (1), .int .u8 (1), .int .u8 (0), .int .u8 (0)] 5)
      have zs : (x1.alloc (.cells #[.int .u8 (n % 256), .int .u8 (1), .int .u8 (1), .int .u8 (1), .int .u8 (0), .int .u8 (0)] 5)).heap.size = x1.heap.size + 1 := by simp
      have Ty0 := Tx1.trans (s0.mono hzc)
      clear s0
      generalize (x1.alloc (.cells #[.int .u8 (n % 256), .int .u8 (1), .int .u8 (1), .int .u8 (1), .int .u8 (0), .int .u8 (0)] 5)) = y0 at *
      have zy := Ty0.size
      refine (seal_any 2 hr hby (by omega) (by omega)).mono ?_
      rintro e y0a ⟨A1, n1, c1, rfl, ho1, s1⟩
      have hl1 := ho1.len
      have m1 := sealP_len 2 [n % 256, 1, 1, 1, 0, 0]
      rw [hl1] at m1
      have Ty0a := Ty0.trans (s1.mono zy)
      have hr1 := hr.below' s1 (by omega)
      have q1 := ho1.rd
      have zs1 := s1.size
      go_wp2_with fail
      refine (seal_any 1 hr1 hby (by omega) (by omega)).mono ?_
      rintro e y0b ⟨A2, n2, c2, rfl, ho2, s2⟩
      have hl2 := ho2.len
      have m2 := sealP_len 1 [n % 256, 1, 1, 1, 0, 0]
      rw [hl2] at m2
      have Ty0b := Ty0a.trans (s2.mono (by omega))
      have q2 := ho2.rd
      have q1b := q1.below s2
      have zs2 := s2.size
      have hy1 := sealP_by 2 _ hby
      have hy2 := sealP_by 1 _ hby
      generalize (sealP 2 [n % 256, 1, 1, 1, 0, 0]).1 = e1 at *
      generalize (sealP 1 [n % 256, 1, 1, 1, 0, 0]).1 = e2 at *
      clear hr hr1 ho1 ho2 q1 s1 hl1 hl2 hby
      go_wp2_with fail
      refine (probeParses_any (q1b.wide (by omega)) hy1 (by omega)).mono ?_
      rintro e y0c ⟨rfl, s3⟩
      have zs3 := s3.size
      have q2c := q2.below' s3 (Nat.le_refl _)
      have Ty0c := Ty0b.trans (s3.mono (by omega))
      go_wp2_with fail
      refine (probeParses_any (q2c.wide (by omega)) hy2 (by omega)).mono ?_
      rintro e y0d ⟨rfl, s4⟩
      have Ty0d := Ty0c.trans (s4.mono (by omega))
      clear q1b q2 q2c s2 s3 s4 zs zs1 zs2 zs3 zy hzc Tx1 Ty0 Ty0a Ty0b Ty0c m1 m2 hy1 hy2
      go_wp2_with fail
      rw [rounds_succ]
      go_wp2_with fail
      have hzc := Ty0d.size
      have hby : By [1, n % 256, 1, 1, 0, 0] := by intro z hz; simp at hz; omega
      have hr : Rd .u8 (y0d.alloc (.cells #[.int .u8 (1), .int .u8 (n % 256), .int .u8 (1), .int .u8 (1), .int .u8 (0), .int .u8 (0)] 5)) (y0d.heap.size + 1) (some ⟨y0d.heap.size, 0, none⟩) 6 6 [1, n % 256, 1, 1, 0, 0] := rd_lit .u8 y0d 5 [1, n % 256, 1, 1, 0, 0] (by unfold maxLen; simp) (y0d.heap.size + 1) (by omega)
      have s0 := below_alloc y0d (.cells #[.int .u8 (1), .int .u8 (n % 256), .int .u8 (1), .int .u8 (1), .int .u8 (0), .int .u8 (0)] 5)
      have zs : (y0d.alloc (.cells #[.int .u8 (1), .int .u8 (n % 256), .int .u8 (1), .int .u8 (1), .int .u8 (0), .int .u8 (0)] 5)).heap.size = y0d.heap.size + 1 := by simp
      have Ty1 := Ty0d.trans (s0.mono hzc)
      clear s0
      generalize (y0d.alloc (.cells #[.int .u8 (1), .int .u8 (n % 256), .int .u8 (1), .int .u8 (1), .int .u8 (0), .int .u8 (0)] 5)) = y1 at *
      have zy := Ty1.size
      refine (seal_any 2 hr hby (by omega) (by omega)).mono ?_
      rintro e y1a ⟨A1, n1, c1, rfl, ho1, s1⟩
      have hl1 := ho1.len
      have m1 := sealP_len 2 [1, n % 256, 1, 1, 0, 0]
      rw [hl1] at m1
      have Ty1a := Ty1.trans (s1.mono zy)
      have hr1 := hr.below' s1 (by omega)
      have q1 := ho1.rd
      have zs1 := s1.size
      go_wp2_with fail
      refine (seal_any 1 hr1 hby (by omega) (by omega)).mono ?_
      rintro e y1b ⟨A2, n2, c2, rfl, ho2, s2⟩
      have hl2 := ho2.len
      have m2 := sealP_len 1 [1, n % 256, 1, 1, 0, 0]
      rw [hl2] at m2
      have Ty1b := Ty1a.trans (s2.mono (by omega))
      have q2 := ho2.rd
      have q1b := q1.below s2
      have zs2 := s2.size
      have hy1 := sealP_by 2 _ hby
      have hy2 := sealP_by 1 _ hby
      generalize (sealP 2 [1, n % 256, 1, 1, 0, 0]).1 = e1 at *
      generalize (sealP 1 [1, n % 256, 1, 1, 0, 0]).1 = e2 at *
      clear hr hr1 ho1 ho2 q1 s1 hl1 hl2 hby
      go_wp2_with fail
      refine (probeParses_any (q1b.wide (by omega)) hy1 (by omega)).mono ?_
      rintro e y1c ⟨rfl, s3⟩
      have zs3 := s3.size
      have q2c := q2.below' s3 (Nat.le_refl _)
      have Ty1c := Ty1b.trans (s3.mono (by omega))
      go_wp2_with fail
      refine (probeParses_any (q2c.wide (by omega)) hy2 (by omega)).mono ?_
      rintro e y1d ⟨rfl, s4⟩
      have Ty1d := Ty1c.trans (s4.mono (by omega))
      clear q1b q2 q2c s2 s3 s4 zs zs1 zs2 zs3 zy hzc Ty0d Ty1 Ty1a Ty1b Ty1c m1 m2 hy1 hy2
      go_wp2_with fail
      rw [rounds_succ]
      go_wp2_with fail
      have hzc := Ty1d.size
      have hby : By [1, 1, n % 256, 1, 0, 0] := by intro z hz; simp at hz; omega
      have hr : Rd .u8 (y1d.alloc (.cells #[.int .u8 (1), .int .u8 (1), .int .u8 (n % 256), .int .u8 (1), .int .u8 (0), .int .u8 (0)] 5)) (y1d.heap.size + 1) (some ⟨y1d.heap.size, 0, none⟩) 6 6 [1, 1, n % 256, 1, 0, 0] := rd_lit .u8 y1d 5 [1, 1, n % 256, 1, 0, 0] (by unfold maxLen; simp) (y1d.heap.size + 1) (by omega)
      have s0 := below_alloc y1d (.cells #[.int .u8 (1), .int .u8 (1), .int .u8 (n % 256), .int .u8 (1), .int .u8 (0), .int .u8 (0)] 5)
      have zs : (y1d.alloc (.cells #[.int .u8 (1), .int .u8 (1), .int .u8 (n % 256), .int .u8 (1), .int .u8 (0), .int .u8 (0)] 5)).heap.size = y1d.heap.size + 1 := by simp
      have Ty2 := Ty1d.trans (s0.mono hzc)
      clear s0
      generalize (y1d.alloc (.cells #[.int .u8 (1), .int .u8 (1), .int .u8 (n % 256), .int .u8 (1), .int .u8 (0), .int .u8 (0)] 5)) = y2 at *
      have zy := Ty2.size
      refine (seal_any 2 hr hby (by omega) (by omega)).mono ?_
      rintro e y2a ⟨A1, n1, c1, rfl, ho1, s1⟩
      have hl1 := ho1.len
      have m1 := sealP_len 2 [1, 1, n % 256, 1, 0, 0]
      rw [hl1] at m1
      have Ty2a := Ty2.trans (s1.mono zy)
      have hr1 := hr.below' s1 (by omega)
      have q1 := ho1.rd
      have zs1 := s1.size
      go_wp2_with fail
      refine (seal_any 1 hr1 hby (by omega) (by omega)).mono ?_
      rintro e y2b ⟨A2, n2, c2, rfl, ho2, s2⟩
      have hl2 := ho2.len
      have m2 := sealP_len 1 [1, 1, n % 256, 1, 0, 0]
      rw [hl2] at m2
      have Ty2b := Ty2a.trans (s2.mono (by omega))
      have q2 := ho2.rd
      have q1b := q1.below s2
      have zs2 := s2.size
      have hy1 := sealP_by 2 _ hby
      have hy2 := sealP_by 1 _ hby
      generalize (sealP 2 [1, 1, n % 256, 1, 0, 0]).1 = e1 at *
      generalize (sealP 1 [1, 1, n % 256, 1, 0, 0]).1 = e2 at *
      clear hr hr1 ho1 ho2 q1 s1 hl1 hl2 hby
      go_wp2_with fail
      refine (probeParses_any (q1b.wide (by omega)) hy1 (by omega)).mono ?_
      rintro e y2c ⟨rfl, s3⟩
      have zs3 := s3.size
      have q2c := q2.below' s3 (Nat.le_refl _)
      have Ty2c := Ty2b.trans (s3.mono (by omega))
      go_wp2_with fail
      refine (probeParses_any (q2c.wide (by omega)) hy2 (by omega)).mono ?_
      rintro e y2d ⟨rfl, s4⟩
      have Ty2d := Ty2c.trans (s4.mono (by omega))
      clear q1b q2 q2c s2 s3 s4 zs zs1 zs2 zs3 zy hzc Ty1d Ty2 Ty2a Ty2b Ty2c m1 m2 hy1 hy2
      go_wp2_with fail
      rw [rounds_succ]
      go_wp2_with fail
      have hzc := Ty2d.size
      have hby : By [1, 1, 1, n % 256, 0, 0] := by intro z hz; simp at hz; omega
      have hr : Rd .u8 (y2d.alloc (.cells #[.int .u8 (1), .int .u8 (1), .int .u8 (1), .int .u8 (n % 256), .int .u8 (0), .int .u8 (0)] 5)) (y2d.heap.size + 1) (some ⟨y2d.heap.size, 0, none⟩) 6 6 [1, 1, 1, n % 256, 0, 0] := rd_lit .u8 y2d 5 [1, 1, 1, n % 256, 0, 0] (by unfold maxLen; simp) (y2d.heap.size + 1) (by omega)
      have s0 := below_alloc y2d (.cells #[.int .u8 (1), .int .u8 (1), .int .u8 (1), .int .u8 (n % 256), .int .u8 (0), .int .u8 (0)] 5)
      have zs : (y2d.alloc (.cells #[.int .u8 (1), .int .u8 (1), .int .u8 (1), .int .u8 (n % 256), .int .u8 (0), .int .u8 (0)] 5)).heap.size = y2d.heap.size + 1 := by simp
      have Ty3 := Ty2d.trans (s0.mono hzc)
      clear s0
      generalize (y2d.alloc (.cells #[.int .u8 (1), .int .u8 (1), .int .u8 (1), .int .u8 (n % 256), .int .u8 (0), .int .u8 (0)] 5)) = y3 at *
      have zy := Ty3.size
      refine (seal_any 2 hr hby (by omega) (by omega)).mono ?_
      rintro e y3a ⟨A1, n1, c1, rfl, ho1, s1⟩
      have hl1 := ho1.len
      have m1 := sealP_len 2 [1, 1, 1, n % 256, 0, 0]
      rw [hl1] at m1
      have Ty3a := Ty3.trans (s1.mono zy)
      have hr1 := hr.below' s1 (by omega)
      have q1 := ho1.rd
      have zs1 := s1.size
      go_wp2_with fail
      refine (seal_any 1 hr1 hby (by omega) (by omega)).mono ?_
      rintro e y3b ⟨A2, n2, c2, rfl, ho2, s2⟩
      have hl2 := ho2.len
      have m2 := sealP_len 1 [1, 1, 1, n % 256, 0, 0]
      rw [hl2] at m2
      have Ty3b := Ty3a.trans (s2.mono (by omega))
      have q2 := ho2.rd
      have q1b := q1.below s2
      have zs2 := s2.size
      have hy1 := sealP_by 2 _ hby
      have hy2 := sealP_by 1 _ hby
      generalize (sealP 2 [1, 1, 1, n % 256, 0, 0]).1 = e1 at *
      generalize (sealP 1 [1, 1, 1, n % 256, 0, 0]).1 = e2 at *
      clear hr hr1 ho1 ho2 q1 s1 hl1 hl2 hby
      go_wp2_with fail
      refine (probeParses_any (q1b.wide (by omega)) hy1 (by omega)).mono ?_
      rintro e y3c ⟨rfl, s3⟩
      have zs3 := s3.size
      have q2c := q2.below' s3 (Nat.le_refl _)
      have Ty3c := Ty3b.trans (s3.mono (by omega))
      go_wp2_with fail
      refine (probeParses_any (q2c.wide (by omega)) hy2 (by omega)).mono ?_
      rintro e y3d ⟨rfl, s4⟩
      have Ty3d := Ty3c.trans (s4.mono (by omega))
      clear q1b q2 q2c s2 s3 s4 zs zs1 zs2 zs3 zy hzc Ty2d Ty3 Ty3a Ty3b Ty3c m1 m2 hy1 hy2
      go_wp2_with fail
      rw [rounds_succ]
      go_wp2_with fail
      go_roundw
      case rel => exact ⟨i + 1, by omega, by go_num, hb.trans (Ty3d.mono hz)⟩
      case measure => simp [intOf]; omega
    · obtain rfl : i = 13 := by omega
      go_wp2_with fail
      refine (worksQ_any wr).mono ?_
      rintro e w2 ⟨rfl, hb2⟩
      go_wp2_with fail
      refine (probeParses_any (Rd.nil .u8 w2 w2.heap.size) By.nil (by omega)).mono ?_
      rintro e w3 ⟨rfl, hb3⟩
      go_wp2_with fail
      go_ret
      have t1 := ((knQ_below w).trans (hb.mono (by omega)))
      have t2 := bstep t1 hb2 t1.size
      have t3 := bstep t2 hb3 t2.size
      exact ⟨rfl, t3⟩
end Go.Proofs.Ytikmgemfbdpfiaa.Oct
