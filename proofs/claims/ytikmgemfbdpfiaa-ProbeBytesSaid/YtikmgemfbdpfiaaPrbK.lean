/- The walk of ProbeBytes. -/
import Derived.Test.YtikmgemfbdpfiaaPrbJ
import Derived.Test.YtikmgemfbdpfiaaPrbX
import Derived.Deep.RegionHeld3
namespace Go.Proofs.Ytikmgemfbdpfiaa.Oct
open Go.RowKit
set_option linter.unusedVariables false

theorem PairOf.out {l : List Int} {e : Int} {w : World} {en : Ending} {w' : World} (h : PairOf l e w en w') : ∃ A n c, en = .returned (.tuple #[.slice A n c, .int .i64 e]) ∧ Rd .u8 w' w'.heap.size A n c l ∧ Below w.heap.size w w' := by
  obtain ⟨A, n, c, h1, h2, h3⟩ := h
  exact ⟨A, n, c, h1, h2.rd, h3⟩

set_option maxRecDepth 100000 in
set_option maxHeartbeats 4000000 in
theorem probeBytes_any (f p t q n : Int) (w : World) :
    Calls Try.prog 3 #[.agg #[.int .i64 f, .int .i64 p, .int .i64 t, .int .i64 q, .int .i64 n]] w fun e w' => e = .returned (.bool true) ∧ Below w.heap.size w w' := by
  have H1 := Kp.mk (fun w => bytes_any f p t q n w)
  have H2 := Kp.mk (fun w => refBytes_any f p t q n w)
  have hby := Kp.mk (bytesQ_by f p t q n)
  go_enter Try.func3, Try.ntmps3
  go_wp2_with fail
  have hb0 := below_alloc w (.cells #[.int .i64 f, .int .i64 p, .int .i64 t, .int .i64 q, .int .i64 n] 23)
  have hx0 : Nb 23 (w.alloc (.cells #[.int .i64 f, .int .i64 p, .int .i64 t, .int .i64 q, .int .i64 n] 23)) w.heap.size [f, p, t, q, n] := Nb.new 23 w [f, p, t, q, n]
  have hz0 : (w.alloc (.cells #[.int .i64 f, .int .i64 p, .int .i64 t, .int .i64 q, .int .i64 n] 23)).heap.size = w.heap.size + 1 := by simp
  generalize (w.alloc (.cells #[.int .i64 f, .int .i64 p, .int .i64 t, .int .i64 q, .int .i64 n] 23)) = w0 at *
  generalize bytesQ f p t q n = X at *
  obtain ⟨l, x⟩ := X
  refine (H1.out w0).mono ?_
  intro e w1 hp
  obtain ⟨A1, n1, c1, rfl, hr1, hb1⟩ := hp.out
  clear hp
  have hz1 := hb1.size
  have hx1 := hx0.below hb1 (by omega)
  obtain ⟨d0, d1, d2, d3, d4⟩ := hx1.five
  go_wp2_with fail
  refine (H2.out w1).mono ?_
  intro e w2 hp
  obtain ⟨A2, n2, c2, rfl, hr2, hb2⟩ := hp.out
  clear hp
  have hz2 := hb2.size
  have hx2 := hx1.below hb2 (by omega)
  have hr12 := hr1.below' hb2 (Nat.le_refl _)
  have hT := (hb0.trans (hb1.mono (by omega))).trans (hb2.mono (by omega))
  clear d0 d1 d2 d3 d4
  have hd : Nb 23 w2.drew w.heap.size [f, p, t, q, n] := hx2
  replace hd := hd.five
  have hB := (Below.refl w2.heap.size w2).drew
  have hR1 := Kp.mk hr12
  have hR2 := Kp.mk hr2
  clear hr12 hr2 hr1 hx0 hx1 hx2
  go_wp2_with fail
  go_region_held3 (fun w' => w'.cell? ⟨w.heap.size, 0, none⟩ = some (.int .i64 f) ∧ w'.cell? ⟨w.heap.size, 1, none⟩ = some (.int .i64 p) ∧ w'.cell? ⟨w.heap.size, 2, none⟩ = some (.int .i64 t) ∧ w'.cell? ⟨w.heap.size, 3, none⟩ = some (.int .i64 q) ∧ w'.cell? ⟨w.heap.size, 4, none⟩ = some (.int .i64 n) ∧ Below w2.heap.size w2 w')
    (first
      | exact ⟨hd.1, hd.2.1, hd.2.2.1, hd.2.2.2.1, hd.2.2.2.2, hB⟩
      | (go_keep; done)
      | (go_split_ands
         refine ⟨?_, ?_, ?_, ?_, ?_, ?_⟩
         · exact (hb9.cell (by have := Below.size (by assumption : Below w2.heap.size w2 _); simp <;> omega)).trans (by assumption)
         · exact (hb9.cell (by have := Below.size (by assumption : Below w2.heap.size w2 _); simp <;> omega)).trans (by assumption)
         · exact (hb9.cell (by have := Below.size (by assumption : Below w2.heap.size w2 _); simp <;> omega)).trans (by assumption)
         · exact (hb9.cell (by have := Below.size (by assumption : Below w2.heap.size w2 _); simp <;> omega)).trans (by assumption)
         · exact (hb9.cell (by have := Below.size (by assumption : Below w2.heap.size w2 _); simp <;> omega)).trans (by assumption)
         · exact Below.trans (by assumption) (hb9.mono (Below.size (by assumption)))))
    (first
      | (go_at_call 12; refine (check_any f p t q n _).mono ?_; rintro e w' ⟨rfl, hb9⟩)
      | (go_at_call 13; refine (refCheck_any f p t q n _).mono ?_; rintro e w' ⟨rfl, hb9⟩)
      | (go_at_call 14; go_split_ands; refine (eqBytes_any (hR1.out.below' (by assumption) hz2) (hR2.out.below' (by assumption) (Nat.le_refl _)) hby.out hby.out).mono ?_; rw [show decide (l = l) = true from by simp]; rintro e w' ⟨rfl, rfl⟩)
      | (go_at_call 15; refine (worksQ_any _).mono ?_; rintro e w' ⟨rfl, hb9⟩))
  all_goals go_wp2
  all_goals go_ret
  all_goals rename_i hH
  all_goals exact ⟨ret_bool (by simp), hT.trans (hH.2.2.2.2.2.mono (by omega))⟩

theorem ProbeBytes_walk (zs : List Int) (w : World) (lz : zs.length = 5) (hw : ∀ p ∈ [IntKind.i64, .i64, .i64, .i64, .i64].zip zs, (Lit.int p.1 p.2).wf = true) :
    Calls Try.prog 3 #[.agg (List.zipWith Value.int [IntKind.i64, .i64, .i64, .i64, .i64] zs).toArray] w fun e w' => e = .returned (.bool true) ∧ Below w.heap.size w w' := by
  obtain ⟨f, p, t, q, n, rfl, _⟩ := five_of zs lz hw
  exact probeBytes_any f p t q n w
end Go.Proofs.Ytikmgemfbdpfiaa.Oct
