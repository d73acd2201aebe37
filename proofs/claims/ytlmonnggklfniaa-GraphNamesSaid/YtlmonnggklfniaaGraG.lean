/- Contracts of layer 12 (graph): reach, and the iterator that it hands back. -/
import Derived.Test.YtlmonnggklfniaaGraF
namespace Go.Proofs.Ytlmonnggklfniaa.Oct
open Go.RowKit Go.Shelf
set_option linter.unusedVariables false
set_option linter.unusedSimpArgs false
attribute [local go_sem] Oper.semAt_some

theorem reach_any (m : Option Nat) (A : Option Addr) (n c : Nat) (s : Int) (w : World) : Calls Try.prog 28 #[.map m, .slice A n c, .int .i64 s] w fun e w' => e = .returned (.func (.func 33) #[] #[.pointer (some ⟨w.heap.size + 1 + 1, 0, none⟩), .pointer (some ⟨w.heap.size, 0, none⟩), .pointer (some ⟨w.heap.size + 1, 0, none⟩)]) ∧
    ((w.alloc (.cells #[.map m] 47)).alloc (.cells #[.slice A n c] 36)).alloc (.cells #[.int .i64 s] 3) = w' := by
  go_enter Try.func28, Try.ntmps28
  go_wp2_with fail
  go_ret
  exact ⟨rfl, rfl⟩

theorem oi_same {w w' : World} {base n : Nat} {v : Value} {l : List Int} (h : Oi w base v n l) (hk : ∀ k, v.ownBlock = some k → w'.heap[k]? = w.heap[k]?) : Oi w' base v n l := by
  refine ⟨h.1, ?_⟩
  rcases h.2 with h2 | ⟨g, cap, cur, e, hbg, hg, r⟩
  · exact .inl h2
  · exact .inr ⟨g, cap, cur, e, hbg, (hk g (by rw [e]; rfl)).trans hg, r⟩
def metC (row : List Int) : List Value := (List.range 7).map fun (i : Nat) => .bool (decide ((i : Int) ∈ row))
theorem metC_at (row : List Int) (i : Nat) (h : i < 7) : (metC row)[i]? = some (.bool (decide ((i : Int) ∈ row))) := by
  unfold metC
  rw [List.getElem?_map, List.getElem?_range h]; rfl
theorem metC_set (row : List Int) (i : Nat) (h : i < 7) : (metC row).set i (.bool true) = metC (row ++ [(i : Int)]) := by
  apply List.ext_getElem?
  intro j
  rw [List.getElem?_set]
  by_cases hj : j < 7
  · rw [metC_at _ _ hj, metC_at _ _ hj]
    by_cases e : i = j
    · subst e; simp [metC, h]
    · rw [if_neg e]
      have : ¬ (j : Int) = i := by omega
      simp [this]
  · have h1 : ∀ r, (metC r)[j]? = none := fun r => List.getElem?_eq_none (by simp [metC]; omega)
    rw [h1, h1, if_neg (by omega)]
/-- What the iterator holds in a world X, entered at W: its own two blocks are not the caller's. -/
structure Ita (bx : Nat) (W X : World) (M : Nat) (v : Value) (q : Nat) (row : List Int) : Prop where
  size : W.heap.size ≤ X.heap.size
  old : ∀ b, b < W.heap.size → b ≠ bx → X.heap[b]? = W.heap[b]?
  mine : ∀ b, Mine bx X b → b = bx ∨ W.heap.size ≤ b
  there : ∀ b, Mine bx X b → b < X.heap.size
  lt : bx < W.heap.size
  met : Vb 62 X M (metC row)
  mlo : W.heap.size ≤ M
  mno : ¬ Mine bx X M
  row : Oi X W.heap.size v q row
  rno : ∀ k, v.ownBlock = some k → ¬ Mine bx X k
section
variable {bx M q : Nat} {W X X' : World} {v v' : Value} {row : List Int}
theorem Ita.round (h : Ita bx W X M v q row) (hr : RoundK bx X X') : Ita bx W X' M v q row := by
  refine ⟨Nat.le_trans h.size hr.size, fun b hb hne => ?_, fun b hb => ?_, hr.there, h.lt, ?_, h.mlo, hr.not h.met.lt h.mno, ?_, fun k hk => hr.not (h.row.lt k hk).2 (h.rno k hk)⟩
  · refine (hr.same b (by have := h.size; omega) (fun hm => ?_)).trans (h.old b hb hne)
    rcases h.mine b hm with e | e
    · exact hne e
    · omega
  · rcases hr.more b hb with e | e
    · exact h.mine b e
    · have := h.size; exact .inr (by omega)
  · exact (hr.same M h.met.lt h.mno).trans h.met
  · refine ⟨h.row.1, ?_⟩
    rcases h.row.2 with h2 | ⟨g, cap, cur, e, hbg, hg, r⟩
    · exact .inl h2
    · exact .inr ⟨g, cap, cur, e, hbg, (hr.same g (Array.getElem?_eq_some_iff.1 hg).1 (h.rno g (by rw [e]; rfl))).trans hg, r⟩
/-- A step of the iterator that turns at most block r, no one else's. -/
theorem Ita.step {o : Option Nat} (h : Ita bx W X M v q row) (hg : X.grownBy X' o) (ho : ∀ r, o = some r → W.heap.size ≤ r ∧ ¬ Mine bx X r) : ItK bx W.heap.size X X' ∧ (∀ b, Mine bx X' b ↔ Mine bx X b) ∧ (∀ b, b < W.heap.size → b ≠ bx → X'.heap[b]? = W.heap[b]?) := by
  have hbx : bx < X.heap.size := Nat.lt_of_lt_of_le h.lt h.size
  have hne : o ≠ some bx := fun e => by have := (ho bx e).1; have := h.lt; omega
  have hk : ItK bx W.heap.size X X' := ⟨hg.os, hg.tape, hg.output, hg.size, fun b hl hm => hg.block b hl (fun e => by
    obtain ⟨h1, h2⟩ := ho b e.symm
    rcases hm with h3 | h3
    · omega
    · exact h2 h3)⟩
  refine ⟨hk, hk.mine hbx, fun b hb hne2 => (hg.block b (by have := h.size; omega) (fun e => by have := (ho b e.symm).1; omega)).trans (h.old b hb hne2)⟩
theorem Ita.grow (h : Ita bx W X M v q row) (hb : Below X.heap.size X X') : Ita bx W X' M v q row ∧ ItK bx W.heap.size X X' := by
  obtain ⟨h1, h2, h3⟩ := h.step (X' := X') (o := none) (grown_of_below hb _) (fun r e => by cases e)
  exact ⟨⟨Nat.le_trans h.size hb.size, h3, fun b hm => h.mine b ((h2 b).1 hm), fun b hm => by have := h.there b ((h2 b).1 hm); have := hb.size; omega, h.lt, h.met.below hb h.met.lt, h.mlo, fun hm => h.mno ((h2 M).1 hm), h.row.below hb, fun k hk hm => h.rno k hk ((h2 k).1 hm)⟩, h1⟩
/-- One is met. -/
theorem Ita.meet (h : Ita bx W X M v q row) (i : Nat) (hi : i < 7) : (Vb 62 (X.setCell ⟨M, i, none⟩ (.bool true)) M (metC (row ++ [(i : Int)]))) ∧ Oi (X.setCell ⟨M, i, none⟩ (.bool true)) W.heap.size v q row ∧ ItK bx W.heap.size X (X.setCell ⟨M, i, none⟩ (.bool true)) := by
  have hg := grownBy_set X M i (.bool true)
  obtain ⟨h1, h2, h3⟩ := h.step hg (fun r e => by cases e; exact ⟨h.mlo, h.mno⟩)
  refine ⟨?_, h.row.other h.met (by decide) hg, h1⟩
  rw [← metC_set row i hi]; exact h.met.set i _
/-- .. and put at the end. -/
theorem Ita.push (h : Ita bx W X M v q row) (i : Nat) (hi : i < 7) (hq : q ≤ 1000) (ty : TypeId) : ∃ A' c' X', (Builtin.append_ #[29, 29] ty #[v, .slice (some ⟨(X.setCell ⟨M, i, none⟩ (.bool true)).heap.size, 0, none⟩) 1 1]).run Try.prog ((X.setCell ⟨M, i, none⟩ (.bool true)).alloc (.cells #[.int .i64 i] 3)) = .ok (.slice A' (q + 1) c') X' ∧
    Ita bx W X' M (.slice A' (q + 1) c') (q + 1) (row ++ [(i : Int)]) ∧ ItK bx W.heap.size X X' ∧ (∀ b, b < X.heap.size → b ≠ M → v.ownBlock ≠ some b → X'.heap[b]? = X.heap[b]?) ∧ ((Value.slice A' (q + 1) c').ownBlock = v.ownBlock ∨ ∀ k, (Value.slice A' (q + 1) c').ownBlock = some k → X.heap.size ≤ k) := by
  obtain ⟨m1, m2, m3⟩ := h.meet i hi
  have hz : (X.setCell ⟨M, i, none⟩ (.bool true)).heap.size = X.heap.size := by simp [World.setCell]
  have hset := grownBy_set X M i (.bool true)
  obtain ⟨s1, s2, s3⟩ := h.step hset (fun r e => by cases e; exact ⟨h.mlo, h.mno⟩)
  have hbx : bx < X.heap.size := Nat.lt_of_lt_of_le h.lt h.size
  generalize X.setCell ⟨M, i, none⟩ (.bool true) = Y at *
  obtain ⟨A', c', X', hrun, hO, hB, hg, hN⟩ := app1 ty m2 (by have := h.size; omega) hq (i : Int)
  have hmid : Ita bx W Y M v q row → True := fun _ => trivial
  have hown : ∀ r, v.ownBlock = some r → W.heap.size ≤ r ∧ ¬ Mine bx Y r := fun r e => ⟨(h.row.lt r e).1, fun hm => h.rno r e ((s2 r).1 hm)⟩
  have hbxo : some bx ≠ v.ownBlock := fun e => by have := (hown bx e.symm).1; have := h.lt; omega
  have t1 : ItK bx W.heap.size Y X' := ⟨hg.os, hg.tape, hg.output, hg.size, fun b hl hm => hg.block b hl (fun e => by
    obtain ⟨h1, h2⟩ := hown b e.symm
    rcases hm with h3 | h3
    · omega
    · exact h2 h3)⟩
  have t2 : ∀ b, Mine bx X' b ↔ Mine bx Y b := t1.mine (by omega)
  have hMo : some M ≠ v.ownBlock := fun e => by
    rcases m2.2 with ⟨h5, _⟩ | ⟨g, cap, cur, h5, hbg, hg5, _⟩
    · rw [h5] at e; simp [Value.ownBlock] at e
    · rw [h5] at e
      have e : M = g := by simpa [Value.ownBlock] using e
      subst e
      rw [show Y.heap[M]? = _ from m1] at hg5
      have hg5 := Option.some.inj hg5
      injection hg5 with _ h6 _
      revert h6; decide
  refine ⟨A', c', X', hrun, ⟨?_, ?_, ?_, ?_, h.lt, (hg.block M (by have := h.met.lt; omega) hMo).trans m1, h.mlo, fun hm => h.mno ((s2 M).1 ((t2 M).1 hm)), hO, ?_⟩, m3.trans t1 hbx, ?_, ?_⟩
  · have := hg.size; have := h.size; omega
  · intro b hb hne
    exact (hg.block b (by have := h.size; omega) (fun e => by have := (hown b e.symm).1; omega)).trans (s3 b hb hne)
  · intro b hm; exact h.mine b ((s2 b).1 ((t2 b).1 hm))
  · intro b hm; have := h.there b ((s2 b).1 ((t2 b).1 hm)); have := hg.size; omega
  · intro k hk hm
    rcases hN with e | e
    · exact (hown k (by rw [← e]; exact hk)).2 ((t2 k).1 hm)
    · have h7 := h.there k ((s2 k).1 ((t2 k).1 hm))
      have := e k hk
      omega
  · intro b hb h5 h6
    exact (hg.block b (by omega) (fun e => h6 e.symm)).trans (hset.block b hb (fun e => h5 (by cases e; rfl)))
  · exact hN.imp id (fun e k hk => by have := e k hk; omega)
end
end Go.Proofs.Ytlmonnggklfniaa.Oct
