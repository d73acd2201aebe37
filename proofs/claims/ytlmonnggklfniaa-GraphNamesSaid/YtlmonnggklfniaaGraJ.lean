/- Contracts of layer 12 (graph): Whole. -/
import Derived.Test.YtlmonnggklfniaaGraI
namespace Go.Proofs.Ytlmonnggklfniaa.Oct
open Go.RowKit Go.Shelf
set_option linter.unusedVariables false
set_option linter.unusedSimpArgs false
attribute [local go_sem] Oper.semAt_some

/-- What the caller's loop keeps: its box holds how many came, and its graph stays. -/
def InvW (w : World) (bx : Nat) (pre : List Int) (W : World) : Prop := Vb 3 W bx [.int .i64 (pre.length : Nat)] ∧ Below w.heap.size w W ∧ w.heap.size ≤ bx
theorem InvW.mine {w W : World} {bx b : Nat} {pre : List Int} (h : InvW w bx pre W) (hm : Mine bx W b) : b = bx := by
  rcases hm with e | ⟨off, n, c, e⟩
  · exact e
  · rw [h.1.cell 0 rfl] at e; cases e
theorem InvW.there {w W : World} {bx : Nat} {pre : List Int} (h : InvW w bx pre W) : bx < W.heap.size ∧ ∀ b, Mine bx W b → ∃ cs T fr, W.heap[b]? = some (.cells cs T fr) :=
  ⟨h.1.lt, fun b hm => by obtain rfl := h.mine hm; exact ⟨_, _, _, h.1⟩⟩
theorem InvW.step {w w0 A B : World} {bx : Nat} {pre : List Int} (hz : w.heap.size ≤ w0.heap.size) (h : InvW w bx pre A) (hit : ItK bx w0.heap.size A B) : InvW w bx pre B := by
  obtain ⟨hV, hB, hl⟩ := h
  exact ⟨(hit.same bx hV.lt (.inr (.inl rfl))).trans hV, ⟨hit.os.trans hB.os, hit.tape.trans hB.tape, hit.output.trans hB.output, Nat.le_trans hB.size hit.size, fun b hb => (hit.same b (by have := hB.size; omega) (.inl (by omega))).trans (hB.block b hb)⟩, hl⟩
theorem InvW.push {w W : World} {bx : Nat} {pre : List Int} (h : InvW w bx pre W) (x : Int) : InvW w bx (pre ++ [x]) (W.setCell ⟨bx, 0, none⟩ (.int .i64 ((pre.length + 1 : Nat) : Int))) ∧ RoundK bx W (W.setCell ⟨bx, 0, none⟩ (.int .i64 ((pre.length + 1 : Nat) : Int))) := by
  obtain ⟨hV, hB, hl⟩ := h
  have hg := grownBy_set W bx 0 (.int .i64 ((pre.length + 1 : Nat) : Int))
  have hI : InvW w bx (pre ++ [x]) (W.setCell ⟨bx, 0, none⟩ (.int .i64 ((pre.length + 1 : Nat) : Int))) := ⟨by
    have := hV.set 0 (.int .i64 ((pre.length + 1 : Nat) : Int))
    rw [List.length_append]; exact this, below_grown hB hg hB.size hl, hl⟩
  refine ⟨hI, hg.size, fun b hb hm => hg.block b hb (fun e => hm (by cases e; exact .inl rfl)), fun b hm => .inl (.inl (hI.mine hm)), fun b hm => ?_⟩
  obtain rfl := hI.mine hm
  exact hI.1.lt

set_option maxRecDepth 100000 in
set_option maxHeartbeats 2000000 in
theorem gWhole_any {w : World} {B n c B2 n2 c2 : Nat} {A A2 : Option Addr} {ls : List Lk} {up : List Bool} (h : Lr w B A n c ls) (hB : B ≤ w.heap.size) (hu : Bl w B2 A2 n2 c2 up) (hB2 : B2 ≤ w.heap.size) (S : Int) :
    Calls Try.prog 18 #[grV S A n c, .slice A2 n2 c2] w fun e w' => e = .returned (.bool (wholeP S ls up)) ∧ Below w.heap.size w w' := by
  have hb0 := below_alloc w (.cells #[.int .i64 S, .slice A n c] 24)
  have hc := ends_any (h.below' hb0 hB) (by simp; omega) S
  have hg0 : Vb 24 (w.alloc (.cells #[.int .i64 S, .slice A n c] 24)) w.heap.size [.int .i64 S, .slice A n c] := Vb.new 24 w [.int .i64 S, .slice A n c]
  have HB := Kp.mk (And.intro hb0 (And.intro hg0 (And.intro hu hB2)))
  have HEX := Kp.mk (And.intro (@ends_nonneg S ls) (@ends_nb S ls))
  have HRP := Kp.mk (show wholeP S ls up = (match endsP S ls with | none => false | some es => decide (((rowP (nbP es up) 1 6).length : Int) = S)) from rfl)
  have HS6 := Kp.mk (show ∀ es, endsP S ls = some es → 1 ≤ S ∧ S ≤ 6 from fun es he => (endsP_some he).1.1)
  clear h hB hb0 hg0 hu hB2
  generalize endsP S ls = r at *
  refine (callsIn_wide (n := 8)).1 ?_
  refine callsIn_of_wp_marks Try.func18 rfl trivial ?_ rfl
  simp only [Try.ntmps18, List.size_toArray, List.length_cons, List.length_nil, Nat.reduceAdd, Nat.reduceSub, Array.replicate_succ, Array.replicate_zero, List.push_toArray, List.append_toArray, List.nil_append, List.cons_append]
  refine wpIn_wide.2 ?_
  go_wp2_with fail
  refine hc.mono ?_
  rintro e w3 he
  obtain ⟨m, rfl, hm, hml, hb2⟩ := he.mo
  have hg2 := HB.out.2.1.below hb2 HB.out.2.1.lt
  have HB3 := Kp.mk (And.intro (HB.out.1.trans (hb2.mono (by simp))) (And.intro hm (HB.out.2.2.1.below ((HB.out.1.trans (hb2.mono (by simp))).mono HB.out.2.2.2))))
  have HG := Kp.mk hg2
  clear hb2 hc he hm hml hg2
  cases r with
  | none =>
    simp only [Option.isSome_none]
    have HZ := Kp.mk (show wholeP S ls up = false from HRP.out)
    go_wp2_with fail
    refine ⟨_, results_tmp rfl _ _ _, ?_, HB3.out.1⟩
    rw [HZ.out]; rfl
  | some es =>
    simp only [Option.isSome_some]
    have HZ := Kp.mk (show wholeP S ls up = decide (((rowP (nbP es up) 1 6).length : Int) = S) from HRP.out)
    have hbox : Vb 3 (w3.alloc (.cells #[.int .i64 0] 3)) w3.heap.size [.int .i64 0] := Vb.new 3 w3 [.int .i64 0]
    have hb4 := below_alloc w3 (.cells #[.int .i64 0] 3)
    have hz4 : (w3.alloc (.cells #[.int .i64 0] 3)).heap.size = w3.heap.size + 1 := by simp
    have hg4 := HG.out.alloc (.cells #[.int .i64 0] 3)
    have HB4 := Kp.mk (And.intro hbox (And.intro hb4 hz4))
    have HG4 := Kp.mk hg4
    clear hbox hb4 hz4 hg4
    go_upto_region 5 with fail
    generalize w3.alloc (.cells #[.int .i64 0] 3) = w4 at *
    have hcR := reach_any m A2 n2 c2 1 w4
    go_wp2_with (refine hcR.mono ?_; rintro e w5 ⟨rfl, hw5⟩)
    have hz5 : w5.heap.size = w4.heap.size + 1 + 1 + 1 := by rw [← hw5]; simp
    have hb45 : Below w4.heap.size w4 w5 := by
      rw [← hw5]
      exact ((below_two w4 _ _).alloc (by simp; omega) _)
    have hbx5 : Vb 3 w5 w3.heap.size [.int .i64 0] := HB4.out.1.below hb45 (by have := HB4.out.2.2; omega)
    have hcap : Cap w3.heap.size w4.heap.size (w4.heap.size + 1) (w4.heap.size + 1 + 1) B2 m es A2 n2 c2 up 1 w5 := by
      have hlt : w3.heap.size < w4.heap.size := by have := HB4.out.2.2; omega
      have hm4 : Mo w4 m es := HB3.out.2.1.below HB4.out.2.1
      refine ⟨?_, ?_, ?_, hm4.below hb45, (HB3.out.2.2.below (HB4.out.2.1.mono ?_)).below (hb45.mono ?_), by omega, by omega, by omega, by omega, fun b hb => ?_, ?_, fun b hm => ?_⟩
      · rw [← hw5]; exact ((Vb.new 47 w4 [.map m]).alloc _).alloc _
      · rw [← hw5]
        have := (Vb.new 36 (w4.alloc (.cells #[.map m] 47)) [.slice A2 n2 c2]).alloc (.cells #[.int .i64 1] 3)
        rwa [World.size_alloc] at this
      · rw [← hw5]
        have := Vb.new 3 ((w4.alloc (.cells #[.map m] 47)).alloc (.cells #[.slice A2 n2 c2] 36)) [.int .i64 1]
        rwa [World.size_alloc, World.size_alloc] at this
      · have := HB.out.2.2.2; have := HB3.out.1.size; omega
      · have := HB.out.2.2.2; have := HB3.out.1.size; omega
      · have := HB3.out.2.1.lt b hb; omega
      · have := HB.out.2.2.2; have := HB3.out.1.size; omega
      · rcases hm with e | ⟨off, n', c', e⟩
        · exact e
        · rw [hbx5.cell 0 rfl] at e; cases e
    have hg5 : Vb 24 w5 w.heap.size [.int .i64 S, .slice A n c] := HG4.out.below hb45 HG4.out.lt
    have hwb : w.heap.size < w3.heap.size := HG.out.lt
    have hI0 : InvW w5 w3.heap.size [] w5 → True := fun _ => trivial
    have hI1 : InvW w w3.heap.size [] w5 := ⟨hbx5, (HB3.out.1.trans (HB4.out.2.1.mono HB3.out.1.size)).trans (hb45.mono (by have := HB3.out.1.size; have := HB4.out.2.2; omega)), HB3.out.1.size⟩
    have h11 : (1 : Int) ≤ 1 ∧ (1 : Int) ≤ S := ⟨by omega, (HS6.out es rfl).1⟩
    have hseq := fun N => reach_seq (S := S) N hcap (HEX.out.1 rfl) (HEX.out.2 rfl up) h11 (HS6.out es rfl).2
    have HLN := Kp.mk (row_len (HEX.out.2 rfl up) h11 (HS6.out es rfl).2 6)
    have HZ5 := Kp.mk (show w.heap.size ≤ w5.heap.size from by have := HB3.out.1.size; have := HB4.out.2.2; omega)
    have HCAP := Kp.mk (And.intro hI1 hg5)
    have HWB := Kp.mk hwb
    clear hw5 hz5 hb45 hcap hI0 hI1 hg5 hcR hbx5 h11 hwb
    generalize w4.heap.size = b4 at *
    refine (wpIn_wide (n := 8)).1 ?_
    refine wpIn_rangeFunc_mine (F := Fence.wide) (bx := w3.heap.size) (xs := rowP (nbP es up) 1 6) (encs := fun x : Int => #[.int .i64 x]) rfl (by omega) (gf := 33) (lb := #[.pointer (some ⟨b4 + 1 + 1, 0, none⟩), .pointer (some ⟨b4, 0, none⟩), .pointer (some ⟨b4 + 1, 0, none⟩)]) ?c1 trivial ?c2 ?c3 ?c4 (fun pre W => InvW w w3.heap.size pre W ∧ Vb 24 W w.heap.size [.int .i64 S, .slice A n c]) ?c5 ?c6 ?c7
      (fun x => { tmps := #[grV S A n c, .slice A2 n2 c2, .pointer (some ⟨w.heap.size, 0, none⟩), undef, .bool false, .map m, .bool true, .pointer (some ⟨w3.heap.size, 0, none⟩), .tuple #[.map m, .bool true], .agg #[.int .i64 S, .slice A n c], .tuple #[.map m, .bool true], .map m, .bool true, .bool true, .bool false, .map m, .slice A2 n2 c2, .func (.func 33) #[] #[.pointer (some ⟨b4 + 1 + 1, 0, none⟩), .pointer (some ⟨b4, 0, none⟩), .pointer (some ⟨b4 + 1, 0, none⟩)], .int .i64 x, undef, undef, undef, undef, undef, undef], defers := [] }) ?assign ?body ?done
    case c1 => rfl
    case c2 => exact enters_of Try.func33 (by kernel_rfl) rfl
    case c3 => exact hseq _
    case c4 => intro x; rfl
    case c5 => exact fun pre W hi => hi.1.there
    case c6 => exact fun pre X Y hi hit => ⟨hi.1.step HZ5.out hit, (hit.same w.heap.size hi.2.lt (.inl (by have := HZ5.out; have := HCAP.out.2.lt; omega))).trans hi.2⟩
    case c7 => exact HCAP.out
    case assign =>
      intro l x W K hK
      gi_wp2
      simp
      exact hK
    case body =>
      rintro l pre x W ⟨hi, hgW⟩ hpre
      have hlen : (pre.length : Int) ≤ 6 := by have h1 := hpre.length_le; have h2 := HLN.out; rw [List.length_append] at h1; omega
      have f0 := hi.1.free 0
      have d0 := hi.1.cell 0 rfl
      obtain ⟨h1, h2⟩ := hi.push x
      have HF := Kp.mk (And.intro h2 (And.intro h1 (hgW.other (r := w3.heap.size) (fun e => by have := HWB.out; omega) 0 (.int .i64 ((pre.length + 1 : Nat) : Int)))))
      clear hi hpre h1 h2 hgW
      gi_wp2
      exact HF.out
    case done =>
      rintro D W hD ⟨hi, hgW⟩ hK
      have d0 := hi.1.cell 0 rfl
      have d1 := hgW.cell 0 rfl
      have HF := Kp.mk (And.intro hi (And.intro hK hD))
      have HLQ := HLN.out
      clear hi hgW hK hD HLN
      gi_wp2
      go_wp2_with fail
      refine ⟨by simp, .inl ⟨_, _, rfl, run_takeDeferred HF.out.2.1, _, results_tmp rfl _ _ _, ?_, ?_⟩⟩
      · rw [HZ.out]
        exact retB (Bool.eq_iff_iff.2 (by simp))
      · exact HF.out.1.2.1.trans (belowK_b (w := w) (Nat.le_refl _) W D _ _ (by have := HF.out.2.2; have := HZ5.out; omega) HF.out.2.1 rfl rfl)
end Go.Proofs.Ytlmonnggklfniaa.Oct
