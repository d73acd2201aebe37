/- Contracts of layer 9: a rule's copy. -/
import Derived.Test.YtcolklkjaifplaaTabC
import Derived.Lib.SliceRun
namespace Go.Proofs.Ytcolklkjaifplaa.Oct
open Go.RowKit
set_option linter.unusedVariables false
set_option linter.unusedSimpArgs false

/-- A rule's outputs lie in memory from lo on. -/
def Fre (lo : Nat) (x : It) : Prop := 0 < x.r.os.length → ∀ a, x.A = some a → lo ≤ a.block
theorem Owo.ob {w : World} {base n c : Nat} {A : Option Addr} {r : RuleV} (h : Owo w base (.slice A n c) n r.os) : Ob w ⟨r, A, c⟩ ∧ Fre base ⟨r, A, c⟩ := by
  have hl := h.len
  have hr := h.ron
  subst hl
  refine ⟨⟨hr.1, fun hn a e => ?_⟩, fun hn a e => hr.2 hn a e⟩
  rcases h.2 with ⟨e1, h0⟩ | ⟨g, cap, cur, e1, hb, hg, _⟩
  · simp at e1
    obtain ⟨rfl, _⟩ := e1
    simp at e
  · obtain ⟨e1, _, _⟩ := Value.slice.inj e1
    simp only at e
    rw [e1] at e
    have e := Option.some.inj e
    subst e
    exact ⟨cur, hg⟩
set_option maxRecDepth 100000 in
set_option maxHeartbeats 4000000 in
theorem cloneO_any {w : World} {B n c : Nat} {A : Option Addr} {os : List OutV} (h : Ro w B A n c os) (hB : B ≤ w.heap.size) (hsz : n ≤ 1000000000) : Calls Try.prog 79 #[.slice A n c] w fun e w' => ∃ A' c', e = .returned (.slice A' n c') ∧ Owo w' w.heap.size (.slice A' n c') n os ∧ Below w.heap.size w w' := by
  have hb0 := below_alloc w (.cells #[] 93)
  have hO : Owo (w.alloc (.cells #[] 93)) w.heap.size (.slice (some ⟨w.heap.size, 0, none⟩) 0 0) 0 [] := World.ownsRow_made w #[] 0 (Nat.le_refl _) (Nat.zero_le _) rfl
  have hr := h.below' hb0 hB
  have hz : w.heap.size ≤ (w.alloc (.cells #[] 93)).heap.size := hb0.size
  have hc := h.2.2.2.1
  have hle := h.le
  have hl := h.len
  have hq : (binOp .eql 29 (.slice A n c) (.slice none 0 0)).run Try.prog w = .ok (.bool A.isNone) w := Lib.run_eql_slice_nil w _ _ A n c 0 0 Try.underlying29
  rcases A with _ | ad
  · obtain rfl := hc rfl
    obtain rfl : n = 0 := by omega
    obtain rfl := List.eq_nil_of_length_eq_zero hl
    simp only [Option.isNone_none] at hq
    go_enter Try.func79, Try.ntmps79
    go_wp2_with fail
    go_ret
    exact ⟨none, 0, rfl, Owo.nil _ _, Below.refl _ _⟩
  · simp only [Option.isNone_some] at hq
    go_enter Try.func79, Try.ntmps79
    go_wp2_with (at_builtin; refine wpList_appendO rfl (.tmp 5) (.tmp 6) rfl rfl hO rfl hr (by omega) hz ?_; intro A' c' w1 hO1 hb1 hg1)
    go_ret
    refine ⟨A', c', rfl, ?_, hb0.trans hb1⟩
    rw [Nat.zero_add] at hO1
    exact hO1
set_option maxRecDepth 100000 in
set_option maxHeartbeats 8000000 in
theorem copyR_any {w : World} {B : Nat} (x : It) (h : Ro w B x.A x.r.os.length x.c x.r.os) (hB : B ≤ w.heap.size) (hsz : x.r.os.length ≤ 1000000000) : Calls Try.prog 50 #[.agg (ics x).toArray] w fun e w' => ∃ y : It, y.r = x.r ∧ e = .returned (.agg (ics y).toArray) ∧ Ob w' y ∧ Fre w.heap.size y ∧ Below w.heap.size w w' := by
  have hx : Vb 31 ((w.alloc (.cells (ics x).toArray 31)).alloc (.cells (ics zIt).toArray 31)) w.heap.size (ics x) := (Vb.new 31 w (ics x)).alloc _
  have hr : Vb 31 ((w.alloc (.cells (ics x).toArray 31)).alloc (.cells (ics zIt).toArray 31)) (w.heap.size + 1) (ics zIt) := by have := Vb.new 31 (w.alloc (.cells (ics x).toArray 31)) (ics zIt); simpa using this
  have hB0 := below_two w (.cells (ics x).toArray 31) (.cells (ics zIt).toArray 31)
  have hz : ((w.alloc (.cells (ics x).toArray 31)).alloc (.cells (ics zIt).toArray 31)).heap.size = w.heap.size + 2 := by simp
  have h1 := h.below' hB0 hB
  have d12 := hx.cell 12 rfl
  rw [show (ics zIt).toArray = #[.int .i64 0, .int .i64 0, .int .i64 0, .int .i64 0, .int .i64 0, .int .i64 0, .int .u8 0, .int .u8 0, .int .u8 0, .int .u8 0, .int .u8 0, .int .u8 0, .slice none 0 0] from rfl] at *
  go_enter Try.func50, Try.ntmps50
  go_upto_region 1 with fail
  generalize (w.alloc (.cells (ics x).toArray 31)).alloc (.cells #[.int .i64 0, .int .i64 0, .int .i64 0, .int .i64 0, .int .i64 0, .int .i64 0, .int .u8 0, .int .u8 0, .int .u8 0, .int .u8 0, .int .u8 0, .int .u8 0, .slice none 0 0] 31) = w0 at *
  go_wp2_with fail
  refine (cloneO_any h1 (by omega) hsz).mono ?_
  rintro e w1 ⟨A', c', rfl, hO, hb⟩
  replace hx := hx.below hb hx.lt
  replace hr := hr.below hb hr.lt
  have d12' := hx.cell 12 rfl
  have hf := hx.free
  clear d12
  go_upto_region 2 with fail
  have hx2 : Vb 31 (w1.setCell ⟨w.heap.size, 12, none⟩ (.slice A' x.r.os.length c')) w.heap.size (ics ⟨x.r, A', c'⟩) := hx.set 12 _
  have hr2 := hr.other (r := w.heap.size) (by omega) 12 (.slice A' x.r.os.length c')
  have hO2 := hO.keep (grownBy_set w1 w.heap.size 12 (.slice A' x.r.os.length c')) (by omega)
  have hB2 := (hB0.trans (hb.mono hB0.size)).setCell (p := ⟨w.heap.size, 12, none⟩) (Nat.le_refl _) (.slice A' x.r.os.length c')
  clear hx hr hO d12' hf hb
  generalize w1.setCell ⟨w.heap.size, 12, none⟩ (.slice A' x.r.os.length c') = w2 at *
  go_wp2_with (first | refine wpList_load_vb (vs := ics ⟨x.r, A', c'⟩) rfl (.tmp 1) rfl rfl hx2 rfl agg_rule ?_ | (refine wpList_store_vb (vs := ics ⟨x.r, A', c'⟩) rfl (.tmp 2) (.tmp 7) rfl rfl rfl hr2 rfl agg_rule rfl ?_; intro w3 hv3 hg3 hz3))
  refine bodyPost_ret (results_one Try.results50 _ rfl hv3 agg_rule) rfl ?_
  have hO3 := hO2.keep hg3 (by omega)
  obtain ⟨o1, o2⟩ := hO3.ob (r := x.r)
  refine ⟨⟨x.r, A', c'⟩, rfl, rfl, o1, fun hn a e => ?_, hB2.grown hg3 hB2.size (fun k e => by simp at e; omega)⟩
  have := o2 hn a e
  omega
end Go.Proofs.Ytcolklkjaifplaa.Oct
