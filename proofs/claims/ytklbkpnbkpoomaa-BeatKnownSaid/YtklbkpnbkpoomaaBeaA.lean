/- A range over a function that goes on for good: its body goes on for K rounds, and stops it in the next one; the waits of a beat. -/
import Derived.Test.YtklbkpnbkpoomaaVbl
import Derived.Test.YtklbkpnbkpoomaaBring
import Derived.RangeFuncNested
import Derived.RangeFuncBound
import Derived.RangeFuncCalls
import Derived.RangeFuncLeaves
import Derived.Shelf.Abstract
import Derived.Shelf.RegionOpen
import Derived.OwnWalkIn
import Derived.TacticsInMore
import Derived.LoopNIn
import Derived.LoopIn
namespace Go.Proofs.Ytklbkpnbkpoomaa.Oct
open Go.RowKit Go.Shelf
set_option linter.unusedVariables false
set_option linter.unusedSimpArgs false

/-- The contract of an iterator that hands out the values encs 0, encs 1, .., where the caller goes on K times and then stops it. -/
def SeqTil (F : Fence) (n : Nat) (P : Program) (g : Nat) (lb : Array Value) (encs : Nat → Array Value) (K : Nat) (w : World) : Prop :=
  ∀ (l : Nat) (J : Nat → World → Prop) (Jx : World → Prop) (W : World), Below w.heap.size w W →
    (∀ i A B, J i A → Below A.heap.size A B → J i B) → (∀ A B, Jx A → Below A.heap.size A B → Jx B) →
    (∀ i W1, J i W1 → i < K → YieldAt F (n - 1) P l (encs i) W1 fun e W' => e = .returned (.bool true) ∧ J (i + 1) W' ∧ Below w.heap.size W1 W') →
    (∀ W1, J K W1 → YieldAt F (n - 1) P l (encs K) W1 fun e W' => e = .returned (.bool false) ∧ Jx W') →
    J 0 W → CallsIn F n P g (#[.func (.yield l) #[] #[]] ++ lb) W fun e W' => (∃ v, e = .returned v) ∧ Jx W'
/-- A round that goes on. -/
def postOn (B : Nat) (I : Nat → World → Prop) (i : Nat) (W : World) : Exit → Act → World → Prop
  | .normal, _, W' => KeepsOthers W W' ∧ Below B W W' ∧ I (i + 1) W'
  | .ret, _, _ => False
  | .exit _, _, _ => False
  | .goto _, _, _ => False
  | .panic _, _, _ => False
  | .outgrown, _, _ => False
/-- The round that stops it, by a break. -/
def postOff (Ix : Code → World → Prop) (W : World) : Exit → Act → World → Prop
  | .normal, _, _ => False
  | .ret, _, _ => False
  | .exit id, _, W' => KeepsOthers W W' ∧ Ix (.exit id) W'
  | .goto _, _, _ => False
  | .panic _, _, _ => False
  | .outgrown, _, _ => False

theorem wpIn_rangeFunc_til {F : Fence} {n : Nat} {P : Program} {g : Operand} {ps : Array Tmp} {assign body : Code} {Q : Exit → Act → World → Prop} {a : Act} {w : World}
    (hro : F.round = none) (h1 : 1 ≤ n) {gf : Nat} {lb : Array Value} (hg : a.eval g = .func (.func gf) #[] lb) (hFg : F.fn gf) (eg : ∀ args w, (callFunc gf args).run P w = .ok (.enter gf args) w)
    {encs : Nat → Array Value} {K : Nat} (hseq : SeqTil F (n - 1) P gf lb encs K w) (hps : ∀ i, (encs i).size = ps.size)
    (I : Nat → World → Prop) (Ix : Code → World → Prop)
    (hI : ∀ i A B, I i A → Below w.heap.size A B → I i B) (hIx : ∀ c A B, Ix c A → Below w.heap.size A B → Ix c B) (h0 : I 0 w) (a₁ : Nat → Act)
    (hassign : ∀ (l : Nat) (i : Nat) (W : World) (K : Act → World → Prop), K (a₁ i) W →
      assign.wpIn (F.inRound l) (n - 1 - 1) P (Exit.then K (fun _ _ _ => False)) { tmps := (ps.zip (encs i)).foldl (fun t (p, v) => t.setIfInBounds p v) a.tmps, defers := [] } W)
    (hbody : ∀ (l : Nat) (i : Nat) (W : World), I i W → i < K → body.wpIn (F.inRound l) (n - 1 - 1) P (postOn w.heap.size I i W) (a₁ i) W)
    (hlast : ∀ (l : Nat) (W : World), I K W → body.wpIn (F.inRound l) (n - 1 - 1) P (postOff Ix W) (a₁ K) W)
    (hstop : ∀ (D : Nat) (c : Code) (W : World), w.heap.size ≤ D → Ix c W → W.heap[D]? = some (.deferred (some [])) → c.wpIn F n P Q { a with defers := { target := .collected D, args := #[] } :: a.defers } W) :
    (Code.rangeFunc g ps assign body).wpIn F n P Q a w := by
  refine wpIn_rangeFunc ?_
  intro fn hfn
  rw [hro]
  obtain ⟨rec, hrec⟩ : ∃ rec : LoopState → Option Code → Loop, rec = fun st pe => { state := st, pending := pe, fn, tmps := a.tmps, params := ps, assign, body, defers := w.heap.size } := ⟨_, rfl⟩
  obtain ⟨W1, hW1⟩ : ∃ W1, (w.alloc (.deferred (some []))).alloc (.loop (rec .ready none)) = W1 := ⟨_, rfl⟩
  have hL1 : W1.heap[w.heap.size + 1]? = some (.loop (rec .ready none)) := by
    rw [← hW1]; have := World.alloc_heap_new (w.alloc (.deferred (some []))) (.loop (rec .ready none)); rwa [World.size_alloc] at this
  have hK1 : W1.heap[w.heap.size]? = some (.deferred (some [])) := by
    rw [← hW1]; exact (Below.heap_alloc _ _ _ (by simp)).trans (World.alloc_heap_new w _)
  have hb1 : Below w.heap.size w W1 := by
    rw [← hW1]; exact ((Below.refl _ w).alloc (Nat.le_refl _) _).alloc (by simp) _
  have hI1 : I 0 W1 := hI _ _ _ h0 hb1
  have hput : ∀ (A : World) (l : Nat) (o : Obj), w.heap.size ≤ l → w.heap.size ≤ A.heap.size → Below w.heap.size A (A.putObj l o) := fun A l o hl hA =>
    (Below.refl _ A).grown (grownBy_putObj' A l o) hA (fun k e => by cases e; exact hl)
  refine ⟨w.heap.size + 1, [{ target := .collected w.heap.size, args := #[] }], W1, { target := .fn (.func gf) lb, args := #[.func (.yield (w.heap.size + 1)) #[] #[]] }, W1, gf,
    #[.func (.yield (w.heap.size + 1)) #[] #[]] ++ lb, W1, ?_, ?_, ?_, ?_, fun _ => h1, ?_⟩
  · rw [← hW1, hrec]; exact run_enterLoop_outer _ _ _ _ _
  · simp only [resolve, hg]
    simp [go_sem]
  · intro f' hf'; simp [Target.leads] at hf'; subst hf'; exact hFg
  · simp [invoke, go_sem, eg]
  · have start : ∀ (W : World), W.heap[w.heap.size + 1]? = some (.loop (rec .ready none)) → W.heap[w.heap.size]? = some (.deferred (some [])) →
        (w.heap.size ≤ W.heap.size ∧ (W.putObj (w.heap.size + 1) (.loop { rec .ready none with state := .busy })).heap[w.heap.size + 1]? = some (.loop { rec .ready none with state := .busy }) ∧
        (W.putObj (w.heap.size + 1) (.loop { rec .ready none with state := .busy })).heap[w.heap.size]? = some (.deferred (some []))) := fun W hl hk => by
      have hlt : w.heap.size + 1 < W.heap.size := (Array.getElem?_eq_some_iff.1 hl).1
      exact ⟨by omega, World.putObj_heap_same hlt, (World.putObj_heap_other (by omega)).trans hk⟩
    have fin : ∀ (jump : Option Code) (W W3 : World), (W.putObj (w.heap.size + 1) (.loop { rec .ready none with state := .busy })).heap[w.heap.size + 1]? = some (.loop { rec .ready none with state := .busy }) →
          (W.putObj (w.heap.size + 1) (.loop { rec .ready none with state := .busy })).heap[w.heap.size]? = some (.deferred (some [])) →
          KeepsOthers (W.putObj (w.heap.size + 1) (.loop { rec .ready none with state := .busy })) W3 →
          (Instr.endRound (w.heap.size + 1) jump).run P W3 = .ok (.bool jump.isNone) (W3.putObj (w.heap.size + 1) (.loop (rec (if jump.isNone then .ready else .done) jump))) ∧
          w.heap.size + 1 < W3.heap.size ∧
          (W3.putObj (w.heap.size + 1) (.loop (rec (if jump.isNone then .ready else .done) jump))).heap[w.heap.size + 1]? = some (.loop (rec (if jump.isNone then .ready else .done) jump)) ∧
          (W3.putObj (w.heap.size + 1) (.loop (rec (if jump.isNone then .ready else .done) jump))).heap[w.heap.size]? = some (.deferred (some [])) := fun jump W W3 hl2 hk2 hk3 => by
        have hl3 := hk3.same _ _ hl2 rfl
        have := run_endRound (P := P) jump hl3
        rw [hrec] at this ⊢
        exact ⟨this, (Array.getElem?_eq_some_iff.1 hl3).1, World.putObj_heap_same (Array.getElem?_eq_some_iff.1 hl3).1, (World.putObj_heap_other (by omega)).trans (hk3.same _ _ hk2 rfl)⟩
    refine (hseq (w.heap.size + 1)
      (fun i W => I i W ∧ W.heap[w.heap.size + 1]? = some (.loop (rec .ready none)) ∧ W.heap[w.heap.size]? = some (.deferred (some [])))
      (fun W => ∃ c, Ix c W ∧ W.heap[w.heap.size + 1]? = some (.loop (rec .done (some c))) ∧ W.heap[w.heap.size]? = some (.deferred (some [])))
      W1 hb1
      (fun i A B hs hit => by
        have h1 := (Array.getElem?_eq_some_iff.1 hs.2.1).1
        exact ⟨hI i A B hs.1 (hit.mono (by omega)), (hit.block _ h1).trans hs.2.1, (hit.block _ (by omega)).trans hs.2.2⟩)
      (fun A B hs hit => by
        obtain ⟨c, hc, hl, hk⟩ := hs
        have h1 := (Array.getElem?_eq_some_iff.1 hl).1
        exact ⟨c, hIx c A B hc (hit.mono (by omega)), (hit.block _ h1).trans hl, (hit.block _ (by omega)).trans hk⟩)
      ?_ ?_ ⟨hI1, hL1, hK1⟩).mono ?_
    · rintro i W ⟨hi, hl, hk⟩ hlt
      have hy := run_yield (P := P) (args := encs i) hl (by rw [hrec]; exact hps i)
      rw [hrec] at hy
      refine ⟨fn, _, assign, body, hy, roundIn_of_wpIn hfn (hassign _ i W _ ⟨_, run_beginRound hl (by rw [hrec]), ?_⟩)⟩
      clear hy
      obtain ⟨hz, hl2, hk2⟩ := start W hl hk
      have hb2 := hput W (w.heap.size + 1) (.loop { rec .ready none with state := .busy }) (by omega) hz
      refine wpIn_mono (hbody _ i _ (hI _ _ _ hi hb2) hlt) ?_
      rintro e a3 W3 hp
      cases e with
      | normal =>
        obtain ⟨hk3, hb3, hi3⟩ := hp
        obtain ⟨hr, hlt3, hl4, hk4⟩ := fin none W W3 hl2 hk2 hk3
        have hb4 := hput W3 (w.heap.size + 1) (.loop (rec (if (none : Option Code).isNone then .ready else .done) none)) (by omega) (by omega)
        exact ⟨_, _, hr, rfl, ⟨hI _ _ _ hi3 hb4, hl4, hk4⟩, (hb2.trans hb3).trans hb4⟩
      | ret => exact hp.elim
      | exit id => exact hp.elim
      | goto t => exact hp.elim
      | panic ch => exact hp.elim
      | outgrown => exact hp.elim
    · rintro W ⟨hi, hl, hk⟩
      have hy := run_yield (P := P) (args := encs K) hl (by rw [hrec]; exact hps K)
      rw [hrec] at hy
      refine ⟨fn, _, assign, body, hy, roundIn_of_wpIn hfn (hassign _ K W _ ⟨_, run_beginRound hl (by rw [hrec]), ?_⟩)⟩
      clear hy
      obtain ⟨hz, hl2, hk2⟩ := start W hl hk
      have hb2 := hput W (w.heap.size + 1) (.loop { rec .ready none with state := .busy }) (by omega) hz
      refine wpIn_mono (hlast _ _ (hI _ _ _ hi hb2)) ?_
      rintro e a3 W3 hp
      cases e with
      | exit id =>
        obtain ⟨hk3, hi3⟩ := hp
        obtain ⟨hr, hlt3, hl4, hk4⟩ := fin (some (.exit id)) W W3 hl2 hk2 hk3
        have hb4 := hput W3 (w.heap.size + 1) (.loop (rec (if (some (Code.exit id)).isNone then .ready else .done) (some (.exit id)))) (by omega) (by omega)
        exact ⟨_, _, hr, rfl, .exit id, hIx _ _ _ hi3 hb4, hl4, hk4⟩
      | normal => exact hp.elim
      | ret => exact hp.elim
      | goto t => exact hp.elim
      | panic ch => exact hp.elim
      | outgrown => exact hp.elim
    · rintro e W2 ⟨⟨v, rfl⟩, c, hi, hl, hk⟩
      have hlt := (Array.getElem?_eq_some_iff.1 hl).1
      exact ⟨some c, _, by have := run_endLoop (P := P) hl (by rw [hrec]; simp); rw [hrec] at this; exact this, hstop _ c _ (Nat.le_refl _) (hIx c _ _ hi (hput _ _ _ (by omega) (by omega))) ((World.putObj_heap_other (by omega)).trans hk)⟩

/-- How long a beat waits behind i tries. -/
def wv (f c : Int) : Nat → Int
  | 0 => f
  | i + 1 => min (2 * wv f c i) c
theorem wv_succ (f c : Int) (i : Nat) : wv f c (i + 1) = min (2 * wv f c i) c := rfl
theorem wv_pos {f c : Int} (h1 : 1 ≤ f) (h2 : f ≤ c) : ∀ i, 1 ≤ wv f c i ∧ wv f c i ≤ c ∧ f ≤ wv f c i := fun i => by
  induction i with
  | zero => exact ⟨h1, h2, Int.le_refl _⟩
  | succ i ih => rw [wv_succ]; omega
theorem wv_stay {f c : Int} (h1 : 1 ≤ f) (h2 : f ≤ c) {i : Nat} (h : wv f c i = c) : ∀ j, i ≤ j → wv f c j = c := fun j hj => by
  obtain ⟨d, rfl⟩ : ∃ d, j = i + d := ⟨j - i, by omega⟩
  induction d with
  | zero => exact h
  | succ d ih => rw [show i + (d + 1) = (i + d) + 1 from rfl, wv_succ, ih (by omega)]; omega
/-- Which of the waits is taken: the first one that the tries tell, or that is the longest. -/
theorem wv_stop {f c : Int} (h1 : 1 ≤ f) (h2 : f ≤ c) (t : Nat) : ∃ K, K ≤ t ∧ (∀ i, i < K → i ≠ t ∧ wv f c i ≠ c) ∧ (K = t ∨ (K ≠ t ∧ wv f c K = c)) ∧ wv f c K = wv f c t := by
  induction t with
  | zero => exact ⟨0, Nat.le_refl _, fun i h => absurd h (by omega), .inl rfl, rfl⟩
  | succ t ih =>
    obtain ⟨K, hK, h3, h4, h5⟩ := ih
    by_cases hc : wv f c K = c
    · exact ⟨K, by omega, fun i hi => ⟨by omega, (h3 i hi).2⟩, .inr ⟨by omega, hc⟩, by rw [hc]; exact (wv_stay h1 h2 hc _ (by omega)).symm⟩
    · have hKt : K = t := by rcases h4 with h | h; exact h; exact absurd h.2 hc
      subst hKt
      exact ⟨K + 1, Nat.le_refl _, fun i hi => ⟨by omega, by
        by_cases e : i = K
        · subst e; exact hc
        · exact (h3 i (by omega)).2⟩, .inl rfl, rfl⟩
end Go.Proofs.Ytklbkpnbkpoomaa.Oct
