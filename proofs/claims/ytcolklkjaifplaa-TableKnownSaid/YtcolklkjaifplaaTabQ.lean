/- Contracts of layer 9's statements: control rules, data rules. -/
import Derived.Test.YtcolklkjaifplaaTabL
namespace Go.Proofs.Ytcolklkjaifplaa.Oct
open Go.RowKit
set_option linter.unusedVariables false
set_option linter.unusedSimpArgs false

def ctlO (tw po : Int) : RuleV := ⟨2, 0, tw, po, ⟨0, 0, 0, 0, 0, 0, 0, 0⟩, []⟩
def datO (pr : Int) (m : MaskV) (po : Int) : RuleV := ⟨1, pr, 0, 0, m, [⟨po, -1, -1, -1⟩]⟩
theorem Ob.none_ (w : World) (r : RuleV) (h : r.os = []) : Ob w ⟨r, none, 0⟩ := ⟨by rw [h]; exact Ro.nil _ _, fun hn => by rw [h] at hn; simp at hn⟩
set_option maxRecDepth 100000 in
set_option maxHeartbeats 4000000 in
theorem control_law (tw po : Int) (w : World) : Calls Try.prog 19 #[.int .i64 tw, .int .i64 po] w fun e w' => ∃ z : It, z.r = ctlO tw po ∧ e = .returned (.agg (ics z).toArray) ∧ Ob w' z ∧ Fre w.heap.size z ∧ Below w.heap.size w w' := by
  have hb0 := below_alloc w (.cells #[.int .i64 0, .int .i64 0, .int .i64 0, .int .i64 0, .int .i64 0, .int .i64 0, .int .u8 0, .int .u8 0, .int .u8 0, .int .u8 0, .int .u8 0, .int .u8 0, .slice none 0 0] 31)
  have hv := Vb.new 31 w [.int .i64 0, .int .i64 0, .int .i64 0, .int .i64 0, .int .i64 0, .int .i64 0, .int .u8 0, .int .u8 0, .int .u8 0, .int .u8 0, .int .u8 0, .int .u8 0, .slice none 0 0]
  go_enter Try.func19, Try.ntmps19
  go_upto_region 1 with fail
  generalize w.alloc (.cells #[.int .i64 0, .int .i64 0, .int .i64 0, .int .i64 0, .int .i64 0, .int .i64 0, .int .u8 0, .int .u8 0, .int .u8 0, .int .u8 0, .int .u8 0, .int .u8 0, .slice none 0 0] 31) = w0 at *
  go_wp2_with (refine wpList_store_vb (vs := [.int .i64 2, .int .i64 0, .int .i64 tw, .int .i64 po, .int .i64 0, .int .i64 0, .int .u8 0, .int .u8 0, .int .u8 0, .int .u8 0, .int .u8 0, .int .u8 0, .slice none 0 0]) rfl (.tmp 4) (.tmp 7) rfl rfl rfl hv rfl agg_rule rfl ?_; intro w4 hv4 hg4 hz4)
  refine bodyPost_ret (results_one Try.results19 _ rfl hv4 agg_rule) rfl ?_
  exact ⟨⟨ctlO tw po, none, 0⟩, rfl, rfl, Ob.none_ _ _ rfl, fun h => by simp [ctlO] at h, hb0.grown hg4 hb0.size (fun k e => by simp at e; omega)⟩
set_option maxRecDepth 100000 in
set_option maxHeartbeats 4000000 in
theorem data_law (pr : Int) (m : MaskV) (po : Int) (w : World) : Calls Try.prog 20 #[.int .i64 pr, .agg (ms m).toArray, .int .i64 po] w fun e w' => ∃ z : It, z.r = datO pr m po ∧ e = .returned (.agg (ics z).toArray) ∧ Ob w' z ∧ Fre w.heap.size z ∧ Below w.heap.size w w' := by
  have hb0 := below_two w (.cells (ms m).toArray 28) (.cells #[.int .i64 0, .int .i64 0, .int .i64 0, .int .i64 0, .int .i64 0, .int .i64 0, .int .u8 0, .int .u8 0, .int .u8 0, .int .u8 0, .int .u8 0, .int .u8 0, .slice none 0 0] 31)
  have hm : Vb 28 ((w.alloc (.cells (ms m).toArray 28)).alloc (.cells #[.int .i64 0, .int .i64 0, .int .i64 0, .int .i64 0, .int .i64 0, .int .i64 0, .int .u8 0, .int .u8 0, .int .u8 0, .int .u8 0, .int .u8 0, .int .u8 0, .slice none 0 0] 31)) w.heap.size (ms m) := (Vb.new 28 w (ms m)).alloc _
  have hv : Vb 31 ((w.alloc (.cells (ms m).toArray 28)).alloc (.cells #[.int .i64 0, .int .i64 0, .int .i64 0, .int .i64 0, .int .i64 0, .int .i64 0, .int .u8 0, .int .u8 0, .int .u8 0, .int .u8 0, .int .u8 0, .int .u8 0, .slice none 0 0] 31)) (w.heap.size + 1) [.int .i64 0, .int .i64 0, .int .i64 0, .int .i64 0, .int .i64 0, .int .i64 0, .int .u8 0, .int .u8 0, .int .u8 0, .int .u8 0, .int .u8 0, .int .u8 0, .slice none 0 0] := by have := Vb.new 31 (w.alloc (.cells (ms m).toArray 28)) [.int .i64 0, .int .i64 0, .int .i64 0, .int .i64 0, .int .i64 0, .int .i64 0, .int .u8 0, .int .u8 0, .int .u8 0, .int .u8 0, .int .u8 0, .int .u8 0, .slice none 0 0]; simpa using this
  go_enter Try.func20, Try.ntmps20
  go_upto_region 1 with fail
  generalize (w.alloc (.cells (ms m).toArray 28)).alloc (.cells #[.int .i64 0, .int .i64 0, .int .i64 0, .int .i64 0, .int .i64 0, .int .i64 0, .int .u8 0, .int .u8 0, .int .u8 0, .int .u8 0, .int .u8 0, .int .u8 0, .slice none 0 0] 31) = w0 at *
  have hba := below_alloc w0 (.cells #[.int .i64 po, .int .i64 (-1), .int .i64 (-1), .int .i64 (-1)] 93)
  have hv1 := hv.below hba hv.lt
  have hO : Owo (w0.alloc (.cells #[.int .i64 po, .int .i64 (-1), .int .i64 (-1), .int .i64 (-1)] 93)) w0.heap.size (.slice (some ⟨w0.heap.size, 0, none⟩) 1 1) 1 [⟨po, -1, -1, -1⟩] :=
    ⟨rfl, .inr ⟨w0.heap.size, 1, #[.int .i64 po, .int .i64 (-1), .int .i64 (-1), .int .i64 (-1)], rfl, Nat.le_refl _, Vb.new 93 w0 [.int .i64 po, .int .i64 (-1), .int .i64 (-1), .int .i64 (-1)], Nat.le_refl _, by unfold maxLen; omega, rfl, rfl⟩⟩
  have hz := hb0.size
  go_wp2_with (first | refine wpList_load_vb (vs := [.int .i64 m.v, .int .i64 m.m, .int .u8 m.b0, .int .u8 m.b1, .int .u8 m.b2, .int .u8 m.i0, .int .u8 m.i1, .int .u8 m.i2]) rfl (.tmp 4) rfl rfl hm rfl agg_mask ?_ | (refine wpList_store_vb (vs := [.int .i64 1, .int .i64 pr, .int .i64 0, .int .i64 0, .int .i64 m.v, .int .i64 m.m, .int .u8 m.b0, .int .u8 m.b1, .int .u8 m.b2, .int .u8 m.i0, .int .u8 m.i1, .int .u8 m.i2, .slice (some ⟨w0.heap.size, 0, none⟩) 1 1]) rfl (.tmp 6) (.tmp 13) rfl rfl rfl hv1 rfl agg_rule rfl ?_; intro w4 hv4 hg4 hz4))
  refine bodyPost_ret (results_one Try.results20 _ rfl hv4 agg_rule) rfl ?_
  obtain ⟨o1, o2⟩ := (hO.keep hg4 (by have := hv.lt; omega)).ob (r := datO pr m po)
  refine ⟨⟨datO pr m po, some ⟨w0.heap.size, 0, none⟩, 1⟩, rfl, rfl, o1, fun hn a e => ?_, (hb0.trans (hba.mono hz)).grown hg4 (by have := hba.size; omega) (fun k e => by simp at e; omega)⟩
  have := o2 hn a e
  omega
end Go.Proofs.Ytcolklkjaifplaa.Oct
