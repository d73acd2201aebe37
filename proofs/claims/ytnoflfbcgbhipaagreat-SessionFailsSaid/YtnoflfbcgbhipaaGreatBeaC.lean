import Derived.Test.YtnoflfbcgbhipaaGreatVst
import Derived.Test.YtnoflfbcgbhipaaGreatBring
import Derived.RangeFuncNested
import Derived.RangeFuncBound
import Derived.RangeFuncCalls
import Derived.RangeFuncLeaves
import Derived.Shelf.Abstract
import Derived.Shelf.RegionOpen
import Derived.OwnWalkIn
import Derived.TacticsInMore
import Derived.LoopNIn
import Derived.LoopIn
import Derived.BigRegion
import Derived.ChangeAlike
import Derived.RegionTactic
set_option linter.unusedSimpArgs false
set_option linter.unusedVariables false
set_option maxRecDepth 100000
set_option maxHeartbeats 2000000
namespace Go.Proofs.YtnoflfbcgbhipaaGreat.Oct
open Go.RowKit Go.Shelf
def SeqTil (F : Fence) (n : Nat) (P : Program) (g : Nat) (lb : Array Value) (encs : Nat → Array Value) (K : Nat) (w : World) : Prop :=
 ∀ (l : Nat) (J : Nat → World → Prop) (Jx : World → Prop) (W : World), Below w.heap.size w W →
  (∀ i A B, J i A → Below A.heap.size A B → J i B) → (∀ A B, Jx A → Below A.heap.size A B → Jx B) →
  (∀ i W1, J i W1 → i < K → YieldAt F (n - 1) P l (encs i) W1 fun e W' => e = .returned (.bool true) ∧ J (i + 1) W' ∧ Below w.heap.size W1 W') →
  (∀ W1, J K W1 → YieldAt F (n - 1) P l (encs K) W1 fun e W' => e = .returned (.bool false) ∧ Jx W') →
  J 0 W → CallsIn F n P g (#[.func (.yield l) #[] #[]] ++ lb) W fun e W' => (∃ v, e = .returned v) ∧ Jx W'
def postOn (B : Nat) (I : Nat → World → Prop) (i : Nat) (W : World) : Exit → Act → World → Prop
 | .normal, _, W' => KeepsOthers W W' ∧ Below B W W' ∧ I (i + 1) W'
 | .ret, _, _ => False
 | .exit _, _, _ => False
 | .goto _, _, _ => False
 | .panic _, _, _ => False
 | .outgrown, _, _ => False
def postOff (Ix : Code → World → Prop) (W : World) : Exit → Act → World → Prop
 | .normal, _, _ => False
 | .ret, _, _ => False
 | .exit id, _, W' => KeepsOthers W W' ∧ Ix (.exit id) W'
 | .goto _, _, _ => False
 | .panic _, _, _ => False
 | .outgrown, _, _ => False
theorem wpIn_rangeFunc_til {F : Fence} {n : Nat} {P : Program} {g : Operand} {ps : Array Tmp} {assign body : Code} {Q : Exit → Act → World → Prop} {a : Act} {w : World}
  (hro : F.round = none) (h1 : 1 ≤ n) {gf : Nat} {lb : Array Value} (hg : a.eval g = .func (.func gf) #[] lb) (hFg : F.fn gf) (eg : ∀ args w, (callFunc gf args).run P w = .ok (.enter gf args) w)
  {encs : Nat → Array Value} {K : Nat} (hseq : SeqTil F (n - 1) P gf lb encs K w) (hps : ∀ i, (encs i).size = ps.size)
  (I : Nat → World → Prop) (Ix : Code → World → Prop)
  (hI : ∀ i A B, I i A → Below w.heap.size A B → I i B) (hIx : ∀ c A B, Ix c A → Below w.heap.size A B → Ix c B) (h0 : I 0 w) (a₁ : Nat → Act)
  (hassign : ∀ (l : Nat) (i : Nat) (W : World) (K : Act → World → Prop), K (a₁ i) W →
   assign.wpIn (F.inRound l) (n - 1 - 1) P (Exit.then K (fun _ _ _ => False)) { tmps := (ps.zip (encs i)).foldl (fun t (p, v) => t.setIfInBounds p v) a.tmps, defers := [] } W)
  (hbody : ∀ (l : Nat) (i : Nat) (W : World), I i W → i < K → body.wpIn (F.inRound l) (n - 1 - 1) P (postOn w.heap.size I i W) (a₁ i) W)
  (hlast : ∀ (l : Nat) (W : World), I K W → body.wpIn (F.inRound l) (n - 1 - 1) P (postOff Ix W) (a₁ K) W)
  (hstop : ∀ (D : Nat) (c : Code) (W : World), w.heap.size ≤ D → Ix c W → W.heap[D]? = some (.deferred (some [])) → c.wpIn F n P Q { a with defers := { target := .collected D, args := #[] } :: a.defers } W) :
  (Code.rangeFunc g ps assign body).wpIn F n P Q a w := by
 refine wpIn_rangeFunc ?_
 intro fn hfn
 rw [hro]
 obtain ⟨rec, hrec⟩ : ∃ rec : LoopState → Option Code → Loop, rec = fun st pe => { state := st, pending := pe, fn, tmps := a.tmps, params := ps, assign, body, defers := w.heap.size } := ⟨_, rfl⟩
 obtain ⟨W1, hW1⟩ : ∃ W1, (w.alloc (.deferred (some []))).alloc (.loop (rec .ready none)) = W1 := ⟨_, rfl⟩
 have hL1 : W1.heap[w.heap.size + 1]? = some (.loop (rec .ready none)) := by
  rw [← hW1]; have := World.alloc_heap_new (w.alloc (.deferred (some []))) (.loop (rec .ready none)); rwa [World.size_alloc] at this
 have hK1 : W1.heap[w.heap.size]? = some (.deferred (some [])) := by
  rw [← hW1]; exact (Below.heap_alloc _ _ _ (by simp)).trans (World.alloc_heap_new w _)
 have hb1 : Below w.heap.size w W1 := by
  rw [← hW1]; exact ((Below.refl _ w).alloc (Nat.le_refl _) _).alloc (by simp) _
 have hI1 : I 0 W1 := hI _ _ _ h0 hb1
 have hput : ∀ (A : World) (l : Nat) (o : Obj), w.heap.size ≤ l → w.heap.size ≤ A.heap.size → Below w.heap.size A (A.putObj l o) := fun A l o hl hA =>
  (Below.refl _ A).grown (grownBy_putObj' A l o) hA (fun k e => by cases e; exact hl)
 refine ⟨w.heap.size + 1, [{ target := .collected w.heap.size, args := #[] }], W1, { target := .fn (.func gf) lb, args := #[.func (.yield (w.heap.size + 1)) #[] #[]] }, W1, gf,
  #[.func (.yield (w.heap.size + 1)) #[] #[]] ++ lb, W1, ?_, ?_, ?_, ?_, fun _ => h1, ?_⟩
 ·rw [← hW1, hrec]; exact run_enterLoop_outer _ _ _ _ _
 ·simp only [resolve, hg]
  simp [go_sem]
 ·intro f' hf'; simp [Target.leads] at hf'; subst hf'; exact hFg
 ·simp [invoke, go_sem, eg]
 ·have start : ∀ (W : World), W.heap[w.heap.size + 1]? = some (.loop (rec .ready none)) → W.heap[w.heap.size]? = some (.deferred (some [])) →
    (w.heap.size ≤ W.heap.size ∧ (W.putObj (w.heap.size + 1) (.loop { rec .ready none with state := .busy })).heap[w.heap.size + 1]? = some (.loop { rec .ready none with state := .busy }) ∧
    (W.putObj (w.heap.size + 1) (.loop { rec .ready none with state := .busy })).heap[w.heap.size]? = some (.deferred (some []))) := fun W hl hk => by
   have hlt : w.heap.size + 1 < W.heap.size := (Array.getElem?_eq_some_iff.1 hl).1
   exact ⟨by omega, World.putObj_heap_same hlt, (World.putObj_heap_other (by omega)).trans hk⟩
  have fin : ∀ (jump : Option Code) (W W3 : World), (W.putObj (w.heap.size + 1) (.loop { rec .ready none with state := .busy })).heap[w.heap.size + 1]? = some (.loop { rec .ready none with state := .busy }) →
     (W.putObj (w.heap.size + 1) (.loop { rec .ready none with state := .busy })).heap[w.heap.size]? = some (.deferred (some [])) →
     KeepsOthers (W.putObj (w.heap.size + 1) (.loop { rec .ready none with state := .busy })) W3 →
     (Instr.endRound (w.heap.size + 1) jump).run P W3 = .ok (.bool jump.isNone) (W3.putObj (w.heap.size + 1) (.loop (rec (if jump.isNone then .ready else .done) jump))) ∧
     w.heap.size + 1 < W3.heap.size ∧
     (W3.putObj (w.heap.size + 1) (.loop (rec (if jump.isNone then .ready else .done) jump))).heap[w.heap.size + 1]? = some (.loop (rec (if jump.isNone then .ready else .done) jump)) ∧
     (W3.putObj (w.heap.size + 1) (.loop (rec (if jump.isNone then .ready else .done) jump))).heap[w.heap.size]? = some (.deferred (some [])) := fun jump W W3 hl2 hk2 hk3 => by
    have hl3 := hk3.same _ _ hl2 rfl
    have := run_endRound (P := P) jump hl3
    rw [hrec] at this ⊢
    exact ⟨this, (Array.getElem?_eq_some_iff.1 hl3).1, World.putObj_heap_same (Array.getElem?_eq_some_iff.1 hl3).1, (World.putObj_heap_other (by omega)).trans (hk3.same _ _ hk2 rfl)⟩
  refine (hseq (w.heap.size + 1)
   (fun i W => I i W ∧ W.heap[w.heap.size + 1]? = some (.loop (rec .ready none)) ∧ W.heap[w.heap.size]? = some (.deferred (some [])))
   (fun W => ∃ c, Ix c W ∧ W.heap[w.heap.size + 1]? = some (.loop (rec .done (some c))) ∧ W.heap[w.heap.size]? = some (.deferred (some [])))
   W1 hb1
   (fun i A B hs hit => by
    have h1 := (Array.getElem?_eq_some_iff.1 hs.2.1).1
    exact ⟨hI i A B hs.1 (hit.mono (by omega)), (hit.block _ h1).trans hs.2.1, (hit.block _ (by omega)).trans hs.2.2⟩)
   (fun A B hs hit => by
    obtain ⟨c, hc, hl, hk⟩ := hs
    have h1 := (Array.getElem?_eq_some_iff.1 hl).1
    exact ⟨c, hIx c A B hc (hit.mono (by omega)), (hit.block _ h1).trans hl, (hit.block _ (by omega)).trans hk⟩)
   ?_ ?_ ⟨hI1, hL1, hK1⟩).mono ?_
  ·rintro i W ⟨hi, hl, hk⟩ hlt
   have hy := run_yield (P := P) (args := encs i) hl (by rw [hrec]; exact hps i)
   rw [hrec] at hy
   refine ⟨fn, _, assign, body, hy, roundIn_of_wpIn hfn (hassign _ i W _ ⟨_, run_beginRound hl (by rw [hrec]), ?_⟩)⟩
   clear hy
   obtain ⟨hz, hl2, hk2⟩ := start W hl hk
   have hb2 := hput W (w.heap.size + 1) (.loop { rec .ready none with state := .busy }) (by omega) hz
   refine wpIn_mono (hbody _ i _ (hI _ _ _ hi hb2) hlt) ?_
   rintro e a3 W3 hp
   cases e with
   | normal =>
    obtain ⟨hk3, hb3, hi3⟩ := hp
    obtain ⟨hr, hlt3, hl4, hk4⟩ := fin none W W3 hl2 hk2 hk3
    have hb4 := hput W3 (w.heap.size + 1) (.loop (rec (if (none : Option Code).isNone then .ready else .done) none)) (by omega) (by omega)
    exact ⟨_, _, hr, rfl, ⟨hI _ _ _ hi3 hb4, hl4, hk4⟩, (hb2.trans hb3).trans hb4⟩
   | ret => exact hp.elim
   | exit id => exact hp.elim
   | goto t => exact hp.elim
   | panic ch => exact hp.elim
   | outgrown => exact hp.elim
  ·rintro W ⟨hi, hl, hk⟩
   have hy := run_yield (P := P) (args := encs K) hl (by rw [hrec]; exact hps K)
   rw [hrec] at hy
   refine ⟨fn, _, assign, body, hy, roundIn_of_wpIn hfn (hassign _ K W _ ⟨_, run_beginRound hl (by rw [hrec]), ?_⟩)⟩
   clear hy
   obtain ⟨hz, hl2, hk2⟩ := start W hl hk
   have hb2 := hput W (w.heap.size + 1) (.loop { rec .ready none with state := .busy }) (by omega) hz
   refine wpIn_mono (hlast _ _ (hI _ _ _ hi hb2)) ?_
   rintro e a3 W3 hp
   cases e with
   | exit id =>
    obtain ⟨hk3, hi3⟩ := hp
    obtain ⟨hr, hlt3, hl4, hk4⟩ := fin (some (.exit id)) W W3 hl2 hk2 hk3
    have hb4 := hput W3 (w.heap.size + 1) (.loop (rec (if (some (Code.exit id)).isNone then .ready else .done) (some (.exit id)))) (by omega) (by omega)
    exact ⟨_, _, hr, rfl, .exit id, hIx _ _ _ hi3 hb4, hl4, hk4⟩
   | normal => exact hp.elim
   | ret => exact hp.elim
   | goto t => exact hp.elim
   | panic ch => exact hp.elim
   | outgrown => exact hp.elim
  ·rintro e W2 ⟨⟨v, rfl⟩, c, hi, hl, hk⟩
   have hlt := (Array.getElem?_eq_some_iff.1 hl).1
   exact ⟨some c, _, by have := run_endLoop (P := P) hl (by rw [hrec]; simp); rw [hrec] at this; exact this, hstop _ c _ (Nat.le_refl _) (hIx c _ _ hi (hput _ _ _ (by omega) (by omega))) ((World.putObj_heap_other (by omega)).trans hk)⟩
def wv (f c : Int) : Nat → Int
 | 0 => f
 | i + 1 => min (2 * wv f c i) c
theorem wv_succ (f c : Int) (i : Nat) : wv f c (i + 1) = min (2 * wv f c i) c := rfl
theorem wv_pos {f c : Int} (h1 : 1 ≤ f) (h2 : f ≤ c) : ∀ i, 1 ≤ wv f c i ∧ wv f c i ≤ c ∧ f ≤ wv f c i := fun i => by
 induction i with
 | zero => exact ⟨h1, h2, Int.le_refl _⟩
 | succ i ih => rw [wv_succ]; omega
theorem wv_stay {f c : Int} (h1 : 1 ≤ f) (h2 : f ≤ c) {i : Nat} (h : wv f c i = c) : ∀ j, i ≤ j → wv f c j = c := fun j hj => by
 obtain ⟨d, rfl⟩ : ∃ d, j = i + d := ⟨j - i, by omega⟩
 induction d with
 | zero => exact h
 | succ d ih => rw [show i + (d + 1) = (i + d) + 1 from rfl, wv_succ, ih (by omega)]; omega
theorem wv_stop {f c : Int} (h1 : 1 ≤ f) (h2 : f ≤ c) (t : Nat) : ∃ K, K ≤ t ∧ (∀ i, i < K → i ≠ t ∧ wv f c i ≠ c) ∧ (K = t ∨ (K ≠ t ∧ wv f c K = c)) ∧ wv f c K = wv f c t := by
 induction t with
 | zero => exact ⟨0, Nat.le_refl _, fun i h => absurd h (by omega), .inl rfl, rfl⟩
 | succ t ih =>
  obtain ⟨K, hK, h3, h4, h5⟩ := ih
  by_cases hc : wv f c K = c
  ·exact ⟨K, by omega, fun i hi => ⟨by omega, (h3 i hi).2⟩, .inr ⟨by omega, hc⟩, by rw [hc]; exact (wv_stay h1 h2 hc _ (by omega)).symm⟩
  ·have hKt : K = t := by rcases h4 with h | h; exact h; exact absurd h.2 hc
   subst hKt
   exact ⟨K + 1, Nat.le_refl _, fun i hi => ⟨by omega, by
    by_cases e : i = K
    ·subst e; exact hc
    ·exact (h3 i (by omega)).2⟩, .inl rfl, rfl⟩
open Go.RowKit Go.Shelf
attribute [local go_sem] Oper.semAt_some
theorem waits_seq {bf bc K : Nat} {f c : Int} {w : World} (N : Nat) (hf : Vb 3 w bf [.int .i64 f]) (hc : Vb 3 w bc [.int .i64 c]) (h1 : 1 ≤ f) (h2 : f ≤ c) (h3 : c ≤ 10000) (hK : K ≤ 20000000) :
  SeqTil Fence.wide N Tryz.prog 182 #[.pointer (some ⟨bf, 0, none⟩), .pointer (some ⟨bc, 0, none⟩)] (fun i => #[.int .i64 i, .int .i64 (wv f c i)]) K w := by
 intro l J Jx W hW hJ hJx hY hYx h0
 have HJ := Kp.mk (And.intro hJ hJx)
 have HW := Kp.mk (And.intro hf (And.intro hc hW))
 have HR := Kp.mk (fun i => wv_pos h1 h2 i)
 have HC := Kp.mk h3
 have d0 : W.cell? ⟨bf, 0, none⟩ = some (.int .i64 f) := (hf.below hW hf.lt).cell 0 rfl
 clear hJ hJx h1 h2 h3 hf hc hW
 refine callsIn_of_wp Tryz.func182 rfl trivial ?_ rfl
 simp only [Tryz.ntmps182, List.size_toArray, List.length_cons, List.length_nil, Nat.reduceAdd, Nat.reduceSub, Array.replicate_succ, Array.replicate_zero, List.push_toArray, List.append_toArray, List.nil_append, List.cons_append]
 refine wpIn_wide.2 ?_
 go_wp2_with fail
 go_region
 go_wp2_with fail
 clear d0
 go_loopw [4, 5] (fun s4 s5 wr => ∃ i : Nat, s4 = .int .i64 i ∧ s5 = .int .i64 (wv f c i) ∧ i ≤ K ∧ Kp (J i wr ∧ Below w.heap.size w wr)) (fun s4 _ _ => K + 1 - (intOf s4).toNat)
 case atStart => exact ⟨0, rfl, rfl, Nat.zero_le _, Kp.mk ⟨HJ.out.1 _ _ _ h0 (Below.refl _ _).drew, HW.out.2.2.trans (Below.refl _ _).drew⟩⟩
 case round =>
  clear h0
  obtain ⟨i, rfl, rfl, hi, HK⟩ := hrel
  by_cases hik : i < K
  ·obtain ⟨fn, tmps, assign, body, hy, hR⟩ := hY i wr HK.out.1 hik
   try dsimp only at hy
   refine (wpIn_wide (n := N)).1 ?_
   gi_wp2
   refine ⟨(fun h => (by cases h)), hR.mono ?_⟩
   rintro e W5 ⟨rfl, hJ5, hb5⟩
   have d0 : W5.cell? ⟨bc, 0, none⟩ = some (.int .i64 c) := (HW.out.2.1.below (HK.out.2.trans hb5) HW.out.2.1.lt).cell 0 rfl
   have HJ5 := Kp.mk (And.intro (HJ.out.1 _ _ _ hJ5 (Below.refl _ _).drew) ((HK.out.2.trans hb5).trans (Below.refl _ _).drew))
   have hb := HR.out i
   have hv : wrap64 (2 * wv f c i) = 2 * wv f c i := by have := HC.out; unfold wrap64; omega
   have HM := Kp.mk (show (if c < 2 * wv f c i then c else 2 * wv f c i) = wv f c (i + 1) by rw [wv_succ]; split <;> omega)
   have hi1 : wrap64 (i + 1) = ((i + 1 : Nat) : Int) := by unfold wrap64; omega
   clear hJ5 hb5 hy hR HK
   gi_wp2
   refine wpIn_wide.2 ?_
   go_region
   rw [HM.out]
   clear hv hb hi1 HM
   go_roundw
   case rel => exact ⟨_, _, _, _, _, _, _, _, _, _, _, _, ⟨i + 1, by go_num, rfl, by omega, HJ5⟩, rfl⟩
   case measure => simp [intOf]; omega
  ·obtain rfl : i = K := by omega
   obtain ⟨fn, tmps, assign, body, hy, hR⟩ := hYx wr HK.out.1
   refine (wpIn_wide (n := N)).1 ?_
   gi_wp2
   refine ⟨(fun h => (by cases h)), hR.mono ?_⟩
   rintro e W5 ⟨rfl, hJ5⟩
   clear hy hR
   gi_wp2
   go_end0
   exact ⟨⟨_, rfl⟩, hJ5⟩
theorem waits_any (f c : Int) (w : World) : Calls Tryz.prog 144 #[.int .i64 f, .int .i64 c] w fun e w' => e = .returned (.func (.func 182) #[] #[.pointer (some ⟨w.heap.size, 0, none⟩), .pointer (some ⟨w.heap.size + 1, 0, none⟩)]) ∧ Vb 3 w' w.heap.size [.int .i64 f] ∧ Vb 3 w' (w.heap.size + 1) [.int .i64 c] ∧ Below w.heap.size w w' := by
 have H0 := Kp.mk ((Vb.new 3 w [.int .i64 f]).alloc (.cells #[.int .i64 c] 3))
 have hv := Vb.new 3 (w.alloc (.cells #[.int .i64 f] 3)) [.int .i64 c]
 rw [World.size_alloc] at hv
 have H1 := Kp.mk hv
 have H2 := Kp.mk (below_two w (.cells #[.int .i64 f] 3) (.cells #[.int .i64 c] 3))
 clear hv
 go_enter Tryz.func144, Tryz.ntmps144
 go_wp2_with fail
 go_ret
 exact ⟨rfl, H0.out, H1.out, H2.out⟩
structure InvW (w : World) (p1 p2 x : Nat) (cs : List Value) (v : Int) (W : World) : Prop where
 box : Vb 83 W p1 [.pointer (some ⟨x, 0, none⟩)]
 ans : Vb 3 W p2 [.int .i64 v]
 beat : Vb 157 W x cs
 old : Below w.heap.size w W
theorem InvW.step {w w0 A B : World} {p1 p2 x : Nat} {cs : List Value} {v : Int} (h : InvW w p1 p2 x cs v A) (hb : Below w0.heap.size A B) (h1 : p1 < w0.heap.size) (h2 : p2 < w0.heap.size) (h3 : x < w0.heap.size) (hw : w.heap.size ≤ w0.heap.size) : InvW w p1 p2 x cs v B :=
 ⟨h.box.below hb h1, h.ans.below hb h2, h.beat.below hb h3, h.old.trans (hb.mono hw)⟩
theorem then_noB {K : Act → World → Prop} {Q : Exit → Act → World → Prop} : ∀ e a w, Exit.then K (fun _ _ _ => False) e a w → Exit.then K Q e a w := by
 intro e a w h
 cases e <;> first | exact h | exact h.elim
theorem wait_any {w : World} {x t : Nat} {f c : Int} {a : Value} (h : Vb 157 w x [.int .i64 f, .int .i64 c, a, .int .i64 t]) (h1 : 1 ≤ f) (h2 : f ≤ c) (h3 : c ≤ 10000) (ht : t ≤ 20000000) :
  Calls Tryz.prog 99 #[.pointer (some ⟨x, 0, none⟩)] w fun e w' => e = .returned (.int .i64 (wv f c t)) ∧ Below w.heap.size w w' := by
 obtain ⟨K, hKt, hK1, hK2, hK3⟩ := wv_stop h1 h2 t
 have HR := Kp.mk (fun i => wv_pos h1 h2 i)
 have HB := Kp.mk (And.intro h1 (And.intro h2 h3))
 have HK := Kp.mk (And.intro hK1 (And.intro hK2 hK3))
 have HKT := Kp.mk (And.intro hKt ht)
 have hb1 := below_two w (.cells #[.pointer (some ⟨x, 0, none⟩)] 83) (.cells #[.int .i64 0] 3)
 have hp1 := (Vb.new 83 w [.pointer (some ⟨x, 0, none⟩)]).alloc (.cells #[.int .i64 0] 3)
 have hp2 := Vb.new 3 (w.alloc (.cells #[.pointer (some ⟨x, 0, none⟩)] 83)) [.int .i64 0]
 rw [World.size_alloc] at hp2
 have HI := Kp.mk (show InvW w w.heap.size (w.heap.size + 1) x [.int .i64 f, .int .i64 c, a, .int .i64 t] 0 ((w.alloc (.cells #[.pointer (some ⟨x, 0, none⟩)] 83)).alloc (.cells #[.int .i64 0] 3)) from ⟨hp1, hp2, h.below hb1 h.lt, hb1⟩)
 have HX := Kp.mk (And.intro h.lt (show ((w.alloc (.cells #[.pointer (some ⟨x, 0, none⟩)] 83)).alloc (.cells #[.int .i64 0] 3)).heap.size = w.heap.size + 1 + 1 by simp))
 clear h h1 h2 h3 hb1 hp1 hp2 hK1 hK2 hK3 hKt ht
 refine (callsIn_wide (n := 8)).1 ?_
 refine callsIn_of_wp_marks Tryz.func99 rfl trivial ?_ rfl
 simp only [Tryz.ntmps99, List.size_toArray, List.length_cons, List.length_nil, Nat.reduceAdd, Nat.reduceSub, Array.replicate_succ, Array.replicate_zero, List.push_toArray, List.append_toArray, List.nil_append, List.cons_append]
 refine wpIn_wide.2 ?_
 go_upto_region 1 with fail
 generalize ((w.alloc (.cells #[.pointer (some ⟨x, 0, none⟩)] 83)).alloc (.cells #[.int .i64 0] 3)) = w1 at *
 generalize hq1 : w.heap.size + 1 = q1 at *
 generalize hq0 : w.heap.size = q0 at *
 refine (wpIn_wide (n := 8)).1 ?_
 refine wpIn_mono ?_ then_noB
 refine wpIn_wide.2 ?_
 have HS : InvW w q0 q1 x [.int .i64 f, .int .i64 c, a, .int .i64 t] 0 w1.drew := ⟨HI.out.box.below (Below.refl _ _).drew HI.out.box.lt, HI.out.ans.below (Below.refl _ _).drew HI.out.ans.lt, HI.out.beat.below (Below.refl _ _).drew HI.out.beat.lt, HI.out.old.trans ((Below.refl _ _).drew)⟩
 refine wp_region_held_drew (S := fun W => InvW w q0 q1 x [.int .i64 f, .int .i64 c, a, .int .i64 t] 0 W) (by kernel_rfl) HS (fun _ => ?_)
 refine tD 0 (.pointer (some ⟨x, 0, none⟩)) 5 rfl rfl HS ?_ ?_
 ·rintro w' z
  have d0 := z.box.cell 0 rfl
  go_simp
 try simp only [Act.put, zA, zB, zC]
 refine tD 1 (.pointer (some ⟨x, 0, none⟩)) 6 rfl rfl HS ?_ ?_
 ·rintro w' z
  go_simp
 try simp only [Act.put, zA, zB, zC]
 refine tD 2 (.pointer (some ⟨x, 0, none⟩)) 7 rfl rfl HS ?_ ?_
 ·rintro w' z
  go_simp
 try simp only [Act.put, zA, zB, zC]
 refine tD 3 (.int .i64 f) 8 rfl rfl HS ?_ ?_
 ·rintro w' z
  have d0 := z.beat.cell 0 rfl
  go_simp
 try simp only [Act.put, zA, zB, zC]
 refine tD 4 (.pointer (some ⟨x, 0, none⟩)) 9 rfl rfl HS ?_ ?_
 ·rintro w' z
  have d0 := z.box.cell 0 rfl
  go_simp
 try simp only [Act.put, zA, zB, zC]
 refine tD 5 (.pointer (some ⟨x, 0, none⟩)) 10 rfl rfl HS ?_ ?_
 ·rintro w' z
  go_simp
 try simp only [Act.put, zA, zB, zC]
 refine tD 6 (.pointer (some ⟨x, 1, none⟩)) 11 rfl rfl HS ?_ ?_
 ·rintro w' z
  go_simp
 try simp only [Act.put, zA, zB, zC]
 refine tD 7 (.int .i64 c) 12 rfl rfl HS ?_ ?_
 ·rintro w' z
  have d0 := z.beat.cell 1 rfl
  go_simp
 try simp only [Act.put, zA, zB, zC]
 generalize w1.drew = w2 at *
 refine rD 8 rfl fun K hK => ?_
 go_simp
 refine (waits_any f c w2).mono ?_
 rintro e w3 ⟨rfl, hf3, hc3, hb3⟩
 have HS3 : InvW w q0 q1 x [.int .i64 f, .int .i64 c, a, .int .i64 t] 0 w3 := ⟨HS.box.below hb3 HS.box.lt, HS.ans.below hb3 HS.ans.lt, HS.beat.below hb3 HS.beat.lt, HS.old.trans (hb3.mono HS.old.size)⟩
 refine hK.out _ _ HS3 (fun _ => ?_)
 clear hK K
 try simp only [Act.put, zA, zB, zC]
 refine wpAnyH_done (by kernel_rfl) ?_ _
 have HI3 := Kp.mk HS3
 have HF3 := Kp.mk (And.intro hf3 hc3)
 have HX3 := Kp.mk (And.intro HS.beat.lt (And.intro HS.box.lt (And.intro HS.ans.lt hb3.size)))
 clear HS HS3 hf3 hc3 hb3
 generalize w2.heap.size = b2 at *
 go_wp2_with fail
 have hseq := fun N => waits_seq (K := K) N HF3.out.1 HF3.out.2 HB.out.1 HB.out.2.1 HB.out.2.2 (by have := HKT.out; omega)
 refine (wpIn_wide (n := 8)).1 ?_
 refine wpIn_rangeFunc_til (F := Fence.wide) (K := K) (encs := fun i => #[.int .i64 i, .int .i64 (wv f c i)]) rfl (by omega) (gf := 182) (lb := #[.pointer (some ⟨b2, 0, none⟩), .pointer (some ⟨b2 + 1, 0, none⟩)]) ?c1 trivial ?c2 ?c3 ?c4
  (fun _ W => InvW w q0 q1 x [.int .i64 f, .int .i64 c, a, .int .i64 t] 0 W) (fun cd W => cd = .exit 0 ∧ InvW w q0 q1 x [.int .i64 f, .int .i64 c, a, .int .i64 t] (wv f c t) W) ?c5 ?c6 ?c7
  (fun i => { tmps := #[.pointer (some ⟨x, 0, none⟩), .pointer (some ⟨q0, 0, none⟩), .pointer (some ⟨q1, 0, none⟩), .int .i64 i, .int .i64 (wv f c i), .pointer (some ⟨x, 0, none⟩), .pointer (some ⟨x, 0, none⟩), .pointer (some ⟨x, 0, none⟩), .int .i64 f, .pointer (some ⟨x, 0, none⟩), .pointer (some ⟨x, 0, none⟩), .pointer (some ⟨x, 1, none⟩), .int .i64 c, .func (.func 182) #[] #[.pointer (some ⟨b2, 0, none⟩), .pointer (some ⟨b2 + 1, 0, none⟩)], .int .i64 i, .int .i64 (wv f c i), undef, undef, undef, undef, undef, undef, undef, undef, undef, undef, undef, undef, undef, undef, undef, undef], defers := [] }) ?assign ?body ?last ?stop
 case c1 => rfl
 case c2 => exact enters_of Tryz.func182 (by kernel_rfl) rfl
 case c3 => exact hseq _
 case c4 => intro x; rfl
 case c5 => exact fun i A B hi hb => hi.step hb (by have := HX3.out; omega) (by have := HX3.out; omega) (by have := HX3.out; have := HX.out; have := HI.out.beat.lt; omega) (by have := HX3.out; omega)
 case c6 => exact fun cd A B hi hb => ⟨hi.1, hi.2.step hb (by have := HX3.out; omega) (by have := HX3.out; omega) (by have := HX3.out; have := HX.out; have := HI.out.beat.lt; omega) (by have := HX3.out; omega)⟩
 case c7 => exact HI3.out
 case assign =>
  intro l i W K hK
  gi_wp2
  exact hK
 case body =>
  intro l i W hi hik
  have HII := Kp.mk hi
  have d0 := hi.box.cell 0 rfl
  have d1 := hi.beat.cell 3 rfl
  have d2 := hi.beat.cell 1 rfl
  have e1 : ((i : Int) == t) = false := by have := (HK.out.1 i hik).1; simp; omega
  have e2 : (wv f c i == c) = false := by have := (HK.out.1 i hik).2; simpa using this
  clear hi hik
  gi_wp2
  exact ⟨KeepsOthers.refl _, Below.refl _ _, HII.out⟩
 case last =>
  intro l W hi
  have HS2 := Kp.mk (hi.ans.set 0 (.int .i64 (wv f c t)))
  have HG := Kp.mk (grownBy_set W q1 0 (.int .i64 (wv f c t)))
  have HII := Kp.mk hi
  have d0 := hi.box.cell 0 rfl
  have d1 := hi.beat.cell 3 rfl
  have d2 := hi.beat.cell 1 rfl
  have d3 := hi.ans.cell 0 rfl
  have d4 := hi.ans.free 0
  have HQ := Kp.mk (show q0 ≠ q1 ∧ x ≠ q1 ∧ w.heap.size ≤ q1 by have := HX3.out; have := HX.out; omega)
  have fin : InvW w q0 q1 x [.int .i64 f, .int .i64 c, a, .int .i64 t] (wv f c t) (W.setCell ⟨q1, 0, none⟩ (.int .i64 (wv f c t))) := ⟨HII.out.box.grown HG.out HQ.out.1, HS2.out, HII.out.beat.grown HG.out HQ.out.2.1, below_grown HII.out.old HG.out HII.out.old.size HQ.out.2.2⟩
  have FIN := Kp.mk (And.intro (KeepsOthers.setCell W ⟨q1, 0, none⟩ (.int .i64 (wv f c t))) fin)
  have hwv := HK.out.2.2
  clear hi fin
  rcases HK.out.2.1 with hk | ⟨hk1, hk2⟩
  ·have e1 : ((K : Int) == t) = true := by simp; omega
   rw [hwv]
   clear hk
   gi_wp2
   exact ⟨FIN.out.1, rfl, FIN.out.2⟩
  ·have e1 : ((K : Int) == t) = false := by simp; omega
   have e2 : (wv f c t == c) = true := by rw [← hwv]; simpa using hk2
   rw [hwv]
   clear hk1 hk2
   gi_wp2
   exact ⟨FIN.out.1, rfl, FIN.out.2⟩
 case stop =>
  rintro D cd W hD ⟨rfl, hi⟩ hK
  have d3 := hi.ans.cell 0 rfl
  have d4 := hi.ans.free 0
  have HS2 := Kp.mk (hi.ans.set 0 (.int .i64 (wv f c t)))
  have HG := Kp.mk (grownBy_set W q1 0 (.int .i64 (wv f c t)))
  have HQ := Kp.mk (show w.heap.size ≤ q1 ∧ w.heap.size ≤ D by have := HX3.out; have := HX.out; omega)
  have HB2 := Kp.mk (below_grown hi.old HG.out hi.old.size HQ.out.1)
  have HD := Kp.mk ((KeepsOthers.setCell W ⟨q1, 0, none⟩ (.int .i64 (wv f c t))).same D _ hK rfl)
  clear hi hD hK
  gi_wp2
  go_wp2_with fail
  clear d3 d4
  generalize W.setCell ⟨q1, 0, none⟩ (.int .i64 (wv f c t)) = W6 at *
  have hP : Below w.heap.size w (W6.putObj D (.deferred none)) := HB2.out.trans (belowK_b (w := w) (Nat.le_refl _) W6 D _ _ HQ.out.2 HD.out rfl rfl)
  have hc5 := cell_kept (HS2.out.cell 0 rfl) (grownBy_putObj' W6 D (.deferred none)) (fun r e => by cases e; exact ⟨_, HD.out, rfl⟩)
  refine ⟨by simp, .inl ⟨_, _, rfl, run_takeDeferred HD.out, ?_⟩⟩
  refine ⟨.int .i64 (wv f c t), ?_, rfl, hP⟩
  simp [results, Tryz.f99, go_sem, hc5]
def tickB (n : Int) : Bool := decide (0 ≤ n ∧ n ≤ 9007199254740991)
theorem tick_yes {n : Int} (h : tickB n = true) : 0 ≤ n ∧ n ≤ 9007199254740991 := of_decide_eq_true h
theorem isTick_any (n : Int) (w : World) : Calls Tryz.prog 98 #[.int .i64 n] w fun e w' => e = .returned (.bool (tickB n)) ∧ w' = w := by
 unfold tickB
 by_cases h0 : 0 ≤ n
 ·by_cases h1 : n ≤ 9007199254740991
  ·rw [decide_eq_true ⟨h0, h1⟩]
   go_enter Tryz.func98, Tryz.ntmps98
   go_wp2_with fail
   go_ret
   exact ⟨by simp [h1], rfl⟩
  ·rw [decide_eq_false (fun e => h1 e.2)]
   go_enter Tryz.func98, Tryz.ntmps98
   go_wp2_with fail
   go_ret
   exact ⟨by simp [h1], rfl⟩
 ·rw [decide_eq_false (fun e => h0 e.1)]
  go_enter Tryz.func98, Tryz.ntmps98
  go_wp2_with fail
  go_ret
  exact ⟨rfl, rfl⟩
def waitsB (f c : Int) : Bool := decide ((1 ≤ f ∧ f ≤ 1000) ∧ f ≤ c ∧ c ≤ 10000)
structure Bt (w : World) (x : Nat) (f c a : Int) (t : Nat) : Prop where
 own : Vb 157 w x [.int .i64 f, .int .i64 c, .int .i64 a, .int .i64 t]
 r1 : 1 ≤ f
 r2 : f ≤ c
 r3 : c ≤ 10000
section
variable {w w' : World} {x r B : Nat} {f c a : Int} {t : Nat}
theorem Bt.below (h : Bt w x f c a t) (hb : Below B w w') (hB : x < B) : Bt w' x f c a t := ⟨h.own.below hb hB, h.r1, h.r2, h.r3⟩
theorem Bt.wv (h : Bt w x f c a t) (i : Nat) : 1 ≤ wv f c i ∧ wv f c i ≤ 10000 := by have := wv_pos h.r1 h.r2 i; have := h.r3; omega
theorem bnew_yes (w : World) (f c : Int) (h : waitsB f c = true) : Calls Tryz.prog 96 #[.int .i64 f, .int .i64 c] w fun e w' => e = .returned (.tuple #[.pointer (some ⟨w.heap.size, 0, none⟩), .int .i64 0]) ∧ Bt w' w.heap.size f c 0 0 ∧ Below w.heap.size w w' := by
 have h := of_decide_eq_true h
 have HN := Kp.mk (And.intro (Vb.new 157 w [.int .i64 f, .int .i64 c, .int .i64 0, .int .i64 0]) (And.intro (below_alloc w (.cells #[.int .i64 f, .int .i64 c, .int .i64 0, .int .i64 0] 157)) h))
 have h1 : ¬ f < 1 := by omega
 have h2 : ¬ (1000 : Int) < f := by omega
 have h3 : ¬ c < f := by omega
 have h4 : ¬ (10000 : Int) < c := by omega
 clear h
 go_enter Tryz.func96, Tryz.ntmps96
 go_wp2_with fail
 go_ret2
 exact ⟨rfl, ⟨HN.out.1, HN.out.2.2.1.1, HN.out.2.2.2.1, HN.out.2.2.2.2⟩, HN.out.2.1⟩
theorem bNone_no (h : Bt w x f c a t) : Calls Tryz.prog 97 #[.pointer (some ⟨x, 0, none⟩)] w fun e w' => e = .returned (.bool false) ∧ w' = w := by
 have c0 := h.own.cell 0 rfl
 have hq : (f == 0) = false := by have := h.r1; simp; omega
 clear h
 go_enter Tryz.func97, Tryz.ntmps97
 go_wp2_with fail
 go_ret
 exact ⟨rfl, rfl⟩
theorem bat_any (h : Bt w x f c a t) : Calls Tryz.prog 152 #[.pointer (some ⟨x, 0, none⟩)] w fun e w' => e = .returned (.int .i64 a) ∧ w' = w := by
 have HN := bNone_no h
 have c0 := h.own.cell 2 rfl
 clear h
 go_enter Tryz.func152, Tryz.ntmps152
 go_wp2_with (first | (refine HN.mono ?_; rintro e w1 ⟨rfl, rfl⟩))
 go_ret
 exact ⟨rfl, rfl⟩
theorem btries_any (h : Bt w x f c a t) : Calls Tryz.prog 66 #[.pointer (some ⟨x, 0, none⟩)] w fun e w' => e = .returned (.int .i64 t) ∧ w' = w := by
 have HN := bNone_no h
 have c0 := h.own.cell 3 rfl
 clear h
 go_enter Tryz.func66, Tryz.ntmps66
 go_wp2_with (first | (refine HN.mono ?_; rintro e w1 ⟨rfl, rfl⟩))
 go_ret
 exact ⟨rfl, rfl⟩
theorem bruns_any (h : Bt w x f c a t) : Calls Tryz.prog 105 #[.pointer (some ⟨x, 0, none⟩)] w fun e w' => e = .returned (.bool (decide (0 < a))) ∧ w' = w := by
 have HA := bat_any h
 clear h
 go_enter Tryz.func105, Tryz.ntmps105
 go_wp2_with (first | (refine HA.mono ?_; rintro e w1 ⟨rfl, rfl⟩))
 go_ret
 exact ⟨rfl, rfl⟩
theorem bstop_any (h : Bt w x f c a t) : Calls Tryz.prog 122 #[.pointer (some ⟨x, 0, none⟩)] w fun e w' => e = .returned (.tuple #[]) ∧ Bt w' x f c 0 0 ∧ w.grownBy w' (some x) := by
 have HN := bNone_no h
 have c0 := h.own.cell 2 rfl
 have c1 := h.own.cell 3 rfl
 have f0 := h.own.free 2
 have f1 := h.own.free 3
 have h2 := h.own.set 2 (.int .i64 0)
 have H3 := Kp.mk (h2.set 3 (.int .i64 0))
 have HG := Kp.mk ((grownBy_set w x 2 (.int .i64 0)).trans (grownBy_set _ x 3 (.int .i64 0)))
 have HR := Kp.mk (And.intro h.r1 (And.intro h.r2 h.r3))
 have d1 : (w.setCell ⟨x, 2, none⟩ (.int .i64 0)).cell? ⟨x, 3, none⟩ = some (.int .i64 t) := h2.cell 3 rfl
 have g1 := h2.free 3
 clear h h2
 go_enter Tryz.func122, Tryz.ntmps122
 go_wp2_with (first | (refine HN.mono ?_; rintro e w1 ⟨rfl, rfl⟩))
 go_end0
 exact ⟨rfl, ⟨H3.out, HR.out.1, HR.out.2.1, HR.out.2.2⟩, HG.out⟩
theorem bstart_yes (h : Bt w x f c a t) (n : Int) (hn : tickB n = true) : Calls Tryz.prog 63 #[.pointer (some ⟨x, 0, none⟩), .int .i64 n] w fun e w' => e = .returned (.int .i64 0) ∧ Bt w' x f c (n + f) 0 ∧ w.grownBy w' (some x) := by
 have HN := bNone_no h
 have HT := isTick_any n w
 rw [hn] at HT
 have HR := Kp.mk (And.intro h.r1 (And.intro h.r2 h.r3))
 have c1 := h.own.cell 3 rfl
 have f1 := h.own.free 3
 have h2 := h.own.set 3 (.int .i64 0)
 have H2 := Kp.mk h2
 have HG := Kp.mk (grownBy_set w x 3 (.int .i64 0))
 have HW := wait_any (t := 0) h2 h.r1 h.r2 h.r3 (by omega)
 have hs : wrap64 (n + f) = n + f := by have := tick_yes hn; have := h.r1; have := h.r2; have := h.r3; unfold wrap64; omega
 clear h h2
 go_enter Tryz.func63, Tryz.ntmps63
 go_upto_region 6 with (first | (refine HN.mono ?_; rintro e w1 ⟨rfl, hw1⟩; replace hw1 := hw1.symm; subst hw1) | (refine HT.mono ?_; rintro e w1 ⟨rfl, hw1⟩; replace hw1 := hw1.symm; subst hw1))
 generalize w.setCell ⟨x, 3, none⟩ (.int .i64 0) = w2 at *
 clear c1 f1
 go_wp2_with (first | (refine HW.mono ?_; rintro e w3 ⟨rfl, hb⟩; have h3 := H2.out.below hb H2.out.lt; have d0 := h3.cell 2 rfl; have d1 := h3.free 2; have H3 := Kp.mk (h3.set 2 (.int .i64 (n + f))); have HG3 := Kp.mk ((HG.out.trans (grown_of_below hb _)).trans (grownBy_set w3 x 2 (.int .i64 (n + f)))); clear h3 hb; simp only [wv]))
 go_ret
 exact ⟨rfl, ⟨H3.out, HR.out.1, HR.out.2.1, HR.out.2.2⟩, HG3.out⟩
theorem bdue_no (h : Bt w x f c a t) (n : Int) (hn : 0 < a ∧ tickB n = true ∧ a ≤ n → False) : Calls Tryz.prog 106 #[.pointer (some ⟨x, 0, none⟩), .int .i64 n] w fun e w' => e = .returned (.bool false) ∧ w' = w := by
 have HU := bruns_any h
 have HT := isTick_any n w
 have c0 := h.own.cell 2 rfl
 clear h
 by_cases h0 : 0 < a
 ·rw [decide_eq_true h0] at HU
  cases ht : tickB n with
  | false =>
   rw [ht] at HT
   clear hn h0 ht
   go_enter Tryz.func106, Tryz.ntmps106
   go_wp2_with (first | (refine HU.mono ?_; rintro e w1 ⟨rfl, rfl⟩) | (refine HT.mono ?_; rintro e w1 ⟨rfl, rfl⟩))
   go_ret
   exact ⟨rfl, rfl⟩
  | true =>
   rw [ht] at HT
   have h1 : n < a := by
    by_cases h2 : n < a
    ·exact h2
    ·exact (hn ⟨h0, ht, by omega⟩).elim
   clear hn h0 ht
   go_enter Tryz.func106, Tryz.ntmps106
   go_wp2_with (first | (refine HU.mono ?_; rintro e w1 ⟨rfl, rfl⟩) | (refine HT.mono ?_; rintro e w1 ⟨rfl, rfl⟩))
   go_ret
   exact ⟨rfl, rfl⟩
 ·rw [decide_eq_false h0] at HU
  clear hn h0 HT
  go_enter Tryz.func106, Tryz.ntmps106
  go_wp2_with (first | (refine HU.mono ?_; rintro e w1 ⟨rfl, rfl⟩))
  go_ret
  exact ⟨rfl, rfl⟩
theorem bdue_yes (h : Bt w x f c a t) (n : Int) (h0 : 0 < a) (hn : tickB n = true) (h1 : a ≤ n) (ht : t ≤ 10000000) : Calls Tryz.prog 106 #[.pointer (some ⟨x, 0, none⟩), .int .i64 n] w fun e w' => e = .returned (.bool true) ∧ Bt w' x f c (n + wv f c (t + 1)) (t + 1) ∧ w.grownBy w' (some x) := by
 have HU := bruns_any h
 rw [decide_eq_true h0] at HU
 have HT := isTick_any n w
 rw [hn] at HT
 have HR := Kp.mk (And.intro h.r1 (And.intro h.r2 h.r3))
 have c0 := h.own.cell 2 rfl
 have c1 := h.own.cell 3 rfl
 have f1 := h.own.free 3
 have h2 := h.own.set 3 (.int .i64 ((t + 1 : Nat) : Int))
 have H2 := Kp.mk h2
 have HG := Kp.mk (grownBy_set w x 3 (.int .i64 ((t + 1 : Nat) : Int)))
 have HW := wait_any (t := t + 1) h2 h.r1 h.r2 h.r3 (by omega)
 have hv := h.wv (t + 1)
 have hs : wrap64 (n + wv f c (t + 1)) = n + wv f c (t + 1) := by have := tick_yes hn; unfold wrap64; omega
 have hi : wrap64 ((t : Int) + 1) = (t : Int) + 1 := by unfold wrap64; omega
 have hl : ¬ n < a := by omega
 have HE := Kp.mk (show ((t + 1 : Nat) : Int) = (t : Int) + 1 by omega)
 rw [HE.out] at HW HG H2
 clear h h2 hv h1 h0 hn
 go_enter Tryz.func106, Tryz.ntmps106
 go_upto_region 4 with (first | (refine HU.mono ?_; rintro e w1 ⟨rfl, hw1⟩; replace hw1 := hw1.symm; subst hw1) | (refine HT.mono ?_; rintro e w1 ⟨rfl, hw1⟩; replace hw1 := hw1.symm; subst hw1))
 generalize w.setCell ⟨x, 3, none⟩ (.int .i64 ((t : Int) + 1)) = w2 at *
 clear c0 c1 f1 hl HU HT
 go_wp2_with (first | (refine HW.mono ?_; rintro e w3 ⟨rfl, hb⟩; have h3 := H2.out.below hb H2.out.lt; have d0 := h3.cell 2 rfl; have d1 := h3.free 2; have H3 := Kp.mk (h3.set 2 (.int .i64 (n + wv f c (t + 1)))); have HG3 := Kp.mk ((HG.out.trans (grown_of_below hb _)).trans (grownBy_set w3 x 2 (.int .i64 (n + wv f c (t + 1))))); clear h3 hb))
 go_ret
 refine ⟨rfl, ⟨?_, HR.out.1, HR.out.2.1, HR.out.2.2⟩, HG3.out⟩
 rw [HE.out]
 exact H3.out
def NB (w : World) (a : Option Addr) : Prop := a = none ∨ ∃ t, a = some ⟨t, 0, none⟩ ∧ Vb 157 w t [.int .i64 0, .int .i64 0, .int .i64 0, .int .i64 0]
theorem NB.below {a : Option Addr} (h : NB w a) (hb : Below w.heap.size w w') : NB w' a := h.imp id (fun ⟨t, e, hv⟩ => ⟨t, e, hv.below hb hv.lt⟩)
theorem NB.no {a : Option Addr} (h : NB w a) : Calls Tryz.prog 97 #[.pointer a] w fun e w' => e = .returned (.bool true) ∧ w' = w := by
 rcases h with rfl | ⟨t, rfl, hv⟩
 ·go_enter Tryz.func97, Tryz.ntmps97
  go_wp2_with fail
  go_ret
  exact ⟨rfl, rfl⟩
 ·have c0 := hv.cell 0 rfl
  clear hv
  go_enter Tryz.func97, Tryz.ntmps97
  go_wp2_with fail
  go_ret
  exact ⟨rfl, rfl⟩
theorem NB.at_ {a : Option Addr} (h : NB w a) : Calls Tryz.prog 152 #[.pointer a] w fun e w' => e = .returned (.int .i64 0) ∧ w' = w := by
 have HN := h.no
 clear h
 go_enter Tryz.func152, Tryz.ntmps152
 go_wp2_with (first | (refine HN.mono ?_; rintro e w1 ⟨rfl, rfl⟩))
 go_ret
 exact ⟨rfl, rfl⟩
end
end Go.Proofs.YtnoflfbcgbhipaaGreat.Oct
