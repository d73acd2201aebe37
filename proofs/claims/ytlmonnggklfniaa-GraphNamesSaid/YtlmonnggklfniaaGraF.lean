/- A range over a function whose iterator keeps state of its own in cells, while the body appends to a row of its own: who owns what. -/
import Derived.Test.YtlmonnggklfniaaGraE
import Derived.RangeFuncNested
import Derived.RangeFuncBound
import Derived.RangeFuncCalls
import Derived.RangeFuncLeaves
import Derived.Shelf.Abstract
import Derived.Shelf.RegionOpen
import Derived.WalkKit
import Derived.OwnWalkIn
import Derived.TacticsInMore
import Derived.LoopNIn
import Derived.LoopIn
namespace Go.Proofs.Ytlmonnggklfniaa.Oct
open Go.RowKit Go.Shelf
set_option linter.unusedVariables false
set_option linter.unusedSimpArgs false

/-- What is the caller's: the box bx, and the block that the box's slice lies in. -/
def Mine (bx : Nat) (W : World) (b : Nat) : Prop := b = bx ∨ ∃ off n c, W.cell? ⟨bx, 0, none⟩ = some (.slice (some ⟨b, off, none⟩) n c)
theorem Mine.same {bx b : Nat} {W W' : World} (h : W'.cell? ⟨bx, 0, none⟩ = W.cell? ⟨bx, 0, none⟩) : Mine bx W' b ↔ Mine bx W b := by unfold Mine; rw [h]
/-- The iterator's word to the caller: what is the caller's, and what lay below base, stays. -/
structure ItK (bx base : Nat) (A B : World) : Prop where
  os : B.os = A.os
  tape : B.tape = A.tape
  output : B.output = A.output
  size : A.heap.size ≤ B.heap.size
  same : ∀ b, b < A.heap.size → (b < base ∨ Mine bx A b) → B.heap[b]? = A.heap[b]?
/-- A round's word to the iterator: what is not the caller's stays; what is the caller's is there. -/
structure RoundK (bx : Nat) (A B : World) : Prop where
  size : A.heap.size ≤ B.heap.size
  same : ∀ b, b < A.heap.size → ¬ Mine bx A b → B.heap[b]? = A.heap[b]?
  more : ∀ b, Mine bx B b → Mine bx A b ∨ A.heap.size ≤ b
  there : ∀ b, Mine bx B b → b < B.heap.size
section
variable {bx base base' r : Nat} {A B C W : World}
theorem mine_cell (h : B.heap[bx]? = A.heap[bx]?) : B.cell? ⟨bx, 0, none⟩ = A.cell? ⟨bx, 0, none⟩ := World.cell?_of_block h
theorem ItK.mine (h : ItK bx base A B) (hb : bx < A.heap.size) (b : Nat) : Mine bx B b ↔ Mine bx A b := Mine.same (mine_cell (h.same bx hb (.inr (.inl rfl))))
theorem ItK.refl (bx base : Nat) (A : World) : ItK bx base A A := ⟨rfl, rfl, rfl, Nat.le_refl _, fun _ _ _ => rfl⟩
theorem ItK.less (h : ItK bx base A B) (hb : base' ≤ base) : ItK bx base' A B := ⟨h.os, h.tape, h.output, h.size, fun b hl hm => h.same b hl (hm.imp (fun h => by omega) id)⟩
theorem ItK.trans (h : ItK bx base A B) (k : ItK bx base B C) (hb : bx < A.heap.size) : ItK bx base A C :=
  ⟨k.os.trans h.os, k.tape.trans h.tape, k.output.trans h.output, Nat.le_trans h.size k.size, fun b hl hm => (k.same b (by have := h.size; omega) (hm.imp id (h.mine hb b).2)).trans (h.same b hl hm)⟩
theorem ItK.grown (hg : A.grownBy B (some r)) (h1 : base ≤ r) (h2 : ¬ Mine bx A r) : ItK bx base A B :=
  ⟨hg.os, hg.tape, hg.output, hg.size, fun b hl hm => hg.block b hl (fun e => by
    have e := Option.some.inj e
    subst e
    rcases hm with h | h
    · omega
    · exact h2 h)⟩
theorem ItK.alloc (bx base : Nat) (A : World) (o : Obj) : ItK bx base A (A.alloc o) := ⟨rfl, rfl, rfl, by simp, fun b hl _ => Below.heap_alloc A o b hl⟩
theorem ItK.below (h : Below A.heap.size A B) : ItK bx base A B := ⟨h.os, h.tape, h.output, h.size, fun b hl _ => h.block b hl⟩
theorem ItK.put (l : Nat) (o : Obj) (h1 : base ≤ l) (h2 : ¬ Mine bx A l) : ItK bx base A (A.putObj l o) := ItK.grown (grownBy_putObj' A l o) h1 h2
theorem RoundK.not (h : RoundK bx A B) {b : Nat} (hb : b < A.heap.size) (hm : ¬ Mine bx A b) : ¬ Mine bx B b := fun h2 => (h.more b h2).elim hm (fun h3 => by omega)
end

/-- The contract of an iterator that hands out just xs. -/
def SeqM {α : Type} (F : Fence) (n : Nat) (P : Program) (g : Nat) (lb : Array Value) (encs : α → Array Value) (bx : Nat) (xs : List α) (w : World) : Prop :=
  ∀ (l : Nat) (J : List α → World → Prop) (W : World), Below w.heap.size w W →
    (∀ pre A B, J pre A → ItK bx W.heap.size A B → J pre B) →
    (∀ pre x W1, J pre W1 → pre ++ [x] <+: xs → YieldAt F (n - 1) P l (encs x) W1 fun e W' => e = .returned (.bool true) ∧ J (pre ++ [x]) W' ∧ RoundK bx W1 W') →
    J [] W → CallsIn F n P g (#[.func (.yield l) #[] #[]] ++ lb) W fun e W' => (∃ v, e = .returned v) ∧ J xs W'

def postM {α : Type} (bx : Nat) (I : List α → World → Prop) (xs : List α) (W : World) : Exit → Act → World → Prop
  | .normal, _, W' => RoundK bx W W' ∧ I xs W'
  | .ret, _, _ => False
  | .exit _, _, _ => False
  | .goto _, _, _ => False
  | .panic _, _, _ => False
  | .outgrown, _, _ => False

theorem wpIn_rangeFunc_mine {α : Type} {F : Fence} {n : Nat} {P : Program} {g : Operand} {ps : Array Tmp} {assign body : Code} {Q : Exit → Act → World → Prop} {a : Act} {w : World}
    (hro : F.round = none) (h1 : 1 ≤ n) {gf : Nat} {lb : Array Value} (hg : a.eval g = .func (.func gf) #[] lb) (hFg : F.fn gf) (eg : ∀ args w, (callFunc gf args).run P w = .ok (.enter gf args) w)
    {encs : α → Array Value} {bx : Nat} {xs : List α} (hseq : SeqM F (n - 1) P gf lb encs bx xs w) (hps : ∀ x, (encs x).size = ps.size)
    (I : List α → World → Prop) (hM : ∀ pre W, I pre W → bx < W.heap.size ∧ ∀ b, Mine bx W b → ∃ cs T fr, W.heap[b]? = some (.cells cs T fr))
    (hI : ∀ pre A B, I pre A → ItK bx w.heap.size A B → I pre B) (h0 : I [] w) (a₁ : α → Act)
    (hassign : ∀ (l : Nat) (x : α) (W : World) (K : Act → World → Prop), K (a₁ x) W →
      assign.wpIn (F.inRound l) (n - 1 - 1) P (Exit.then K (fun _ _ _ => False)) { tmps := (ps.zip (encs x)).foldl (fun t (p, v) => t.setIfInBounds p v) a.tmps, defers := [] } W)
    (hbody : ∀ (l : Nat) (pre : List α) (x : α) (W : World), I pre W → pre ++ [x] <+: xs → body.wpIn (F.inRound l) (n - 1 - 1) P (postM bx I (pre ++ [x]) W) (a₁ x) W)
    (hdone : ∀ (D : Nat) (W : World), w.heap.size ≤ D → I xs W → W.heap[D]? = some (.deferred (some [])) → Q .normal { a with defers := { target := .collected D, args := #[] } :: a.defers } W) :
    (Code.rangeFunc g ps assign body).wpIn F n P Q a w := by
  refine wpIn_rangeFunc ?_
  intro fn hfn
  rw [hro]
  obtain ⟨rec, hrec⟩ : ∃ rec : LoopState → Option Code → Loop, rec = fun st pe => { state := st, pending := pe, fn, tmps := a.tmps, params := ps, assign, body, defers := w.heap.size } := ⟨_, rfl⟩
  obtain ⟨W1, hW1⟩ : ∃ W1, (w.alloc (.deferred (some []))).alloc (.loop (rec .ready none)) = W1 := ⟨_, rfl⟩
  have hL1 : W1.heap[w.heap.size + 1]? = some (.loop (rec .ready none)) := by
    rw [← hW1]; have := World.alloc_heap_new (w.alloc (.deferred (some []))) (.loop (rec .ready none)); rwa [World.size_alloc] at this
  have hK1 : W1.heap[w.heap.size]? = some (.deferred (some [])) := by
    rw [← hW1]; exact (Below.heap_alloc _ _ _ (by simp)).trans (World.alloc_heap_new w _)
  have hz1 : W1.heap.size = w.heap.size + 2 := by rw [← hW1]; simp
  have hI1 : I [] W1 := by rw [← hW1]; exact hI _ _ _ (hI _ _ _ h0 (ItK.alloc _ _ _ _)) (ItK.alloc _ _ _ _)
  have hb1 : Below w.heap.size w W1 := by
    rw [← hW1]; exact ((Below.refl _ w).alloc (Nat.le_refl _) _).alloc (by simp) _
  have notM : ∀ {pre : List α} {W : World} {k : Nat} {o : Obj}, I pre W → W.heap[k]? = some o → o.isCells = false → ¬ Mine bx W k := fun {pre W k o} hi ho hc hm => by
    obtain ⟨cs, T, fr, h⟩ := (hM pre W hi).2 k hm
    rw [h] at ho
    have ho := Option.some.inj ho
    subst ho
    cases hc
  refine ⟨w.heap.size + 1, [{ target := .collected w.heap.size, args := #[] }], W1, { target := .fn (.func gf) lb, args := #[.func (.yield (w.heap.size + 1)) #[] #[]] }, W1, gf,
    #[.func (.yield (w.heap.size + 1)) #[] #[]] ++ lb, W1, ?_, ?_, ?_, ?_, fun _ => h1, ?_⟩
  · rw [← hW1, hrec]; exact run_enterLoop_outer _ _ _ _ _
  · simp only [resolve, hg]
    simp [go_sem]
  · intro f' hf'; simp [Target.leads] at hf'; subst hf'; exact hFg
  · simp [invoke, go_sem, eg]
  · refine (hseq (w.heap.size + 1)
      (fun pre W => I pre W ∧ W.heap[w.heap.size + 1]? = some (.loop (rec .ready none)) ∧ W.heap[w.heap.size]? = some (.deferred (some [])))
      W1 hb1
      (fun pre A B hs hit => ⟨hI pre A B hs.1 (hit.less (by omega)), (hit.same _ (Array.getElem?_eq_some_iff.1 hs.2.1).1 (.inl (by omega))).trans hs.2.1, (hit.same _ (Array.getElem?_eq_some_iff.1 hs.2.2).1 (.inl (by omega))).trans hs.2.2⟩)
      ?_ ⟨hI1, hL1, hK1⟩).mono ?_
    · rintro pre x W ⟨hi, hl, hk⟩ hpre
      have hlt : w.heap.size + 1 < W.heap.size := (Array.getElem?_eq_some_iff.1 hl).1
      have hy := run_yield (P := P) (args := encs x) hl (by rw [hrec]; exact hps x)
      rw [hrec] at hy
      refine ⟨fn, _, assign, body, hy, roundIn_of_wpIn hfn (hassign _ x W _ ⟨_, run_beginRound hl (by rw [hrec]), ?_⟩)⟩
      clear hy
      have hml := notM hi hl rfl
      have hbx := (hM _ _ hi).1
      have hl2 : (W.putObj (w.heap.size + 1) (.loop { rec .ready none with state := .busy })).heap[w.heap.size + 1]? = some (.loop { rec .ready none with state := .busy }) := World.putObj_heap_same hlt
      have hk2 : (W.putObj (w.heap.size + 1) (.loop { rec .ready none with state := .busy })).heap[w.heap.size]? = some (.deferred (some [])) := (World.putObj_heap_other (by omega)).trans hk
      have hit2 : ItK bx w.heap.size W (W.putObj (w.heap.size + 1) (.loop { rec .ready none with state := .busy })) := ItK.put _ _ (by omega) hml
      have hi2 := hI _ _ _ hi hit2
      refine wpIn_mono (hbody _ pre x _ hi2 hpre) ?_
      rintro e a3 W3 hp
      cases e with
      | normal =>
        obtain ⟨hrk, hi3⟩ := hp
        have hz2 : (W.putObj (w.heap.size + 1) (.loop { rec .ready none with state := .busy })).heap.size = W.heap.size := by simp
        have hl3 := (hrk.same _ (by rw [hz2]; exact hlt) (notM hi2 hl2 rfl)).trans hl2
        have hk3 := (hrk.same _ (by rw [hz2]; omega) (notM hi2 hk2 rfl)).trans hk2
        have hml3 := notM hi3 hl3 rfl
        have hr := run_endRound (P := P) none hl3
        rw [hrec] at hr
        have hlt3 : w.heap.size + 1 < W3.heap.size := (Array.getElem?_eq_some_iff.1 hl3).1
        have hit4 : ItK bx w.heap.size W3 (W3.putObj (w.heap.size + 1) (.loop (rec .ready none))) := ItK.put _ _ (by omega) hml3
        have hbx3 := (hM _ _ hi3).1
        refine ⟨_, _, hr, rfl, ⟨?_, ?_, ?_⟩, ?_⟩
        · have := hI _ _ _ hi3 hit4
          rw [hrec] at this
          exact this
        · rw [hrec]; exact World.putObj_heap_same hlt3
        · exact (World.putObj_heap_other (by omega)).trans hk3
        · have hz4 : ∀ o, (W3.putObj (w.heap.size + 1) o).heap.size = W3.heap.size := fun o => by simp
          have hmine4 : ∀ b, Mine bx (W3.putObj (w.heap.size + 1) (.loop (rec .ready none))) b ↔ Mine bx W3 b := hit4.mine hbx3
          have hmine2 : ∀ b, Mine bx (W.putObj (w.heap.size + 1) (.loop { rec .ready none with state := .busy })) b ↔ Mine bx W b := hit2.mine hbx
          have key : RoundK bx W (W3.putObj (w.heap.size + 1) (.loop (rec .ready none))) := by
            refine ⟨?_, fun b hb hm => ?_, fun b hm => ?_, fun b hm => ?_⟩
            · have := hrk.size; rw [hz2] at this; rw [hz4]; exact this
            · by_cases e : b = w.heap.size + 1
              · subst e
                rw [World.putObj_heap_same hlt3, hl]
              · rw [World.putObj_heap_other e, hrk.same b (by rw [hz2]; exact hb) (fun h => hm ((hmine2 b).1 h)), World.putObj_heap_other e]
            · rcases hrk.more b ((hmine4 b).1 hm) with h | h
              · exact .inl ((hmine2 b).1 h)
              · rw [hz2] at h; exact .inr h
            · rw [hz4]; exact hrk.there b ((hmine4 b).1 hm)
          rw [hrec] at key
          exact key
      | ret => exact hp.elim
      | exit id => exact hp.elim
      | goto t => exact hp.elim
      | panic ch => exact hp.elim
      | outgrown => exact hp.elim
    · rintro e W2 ⟨⟨v, rfl⟩, hi, hl, hk⟩
      refine ⟨none, _, by have := run_endLoop (P := P) hl (by rw [hrec]; simp); rw [hrec] at this; exact this, hdone _ _ (Nat.le_refl _) (hI _ _ _ hi (ItK.put _ _ (by omega) (notM hi hl rfl))) ((World.putObj_heap_other (by omega)).trans hk)⟩
end Go.Proofs.Ytlmonnggklfniaa.Oct
