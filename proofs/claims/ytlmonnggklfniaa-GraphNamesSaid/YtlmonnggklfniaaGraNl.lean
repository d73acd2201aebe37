/- What lies there in GraphNames: links laid as literals, graphs that may not be, a full graph. -/
import Derived.Test.YtlmonnggklfniaaGraZ
import Derived.Test.YtlmonnggklfniaaGraV
namespace Go.Proofs.Ytlmonnggklfniaa.Oct
open Go.RowKit
set_option linter.unusedVariables false
set_option linter.unusedSimpArgs false

/-- Literals of links lie there. -/
def Lits (X : World) (L : List (Nat × List Lk)) : Prop := ∀ e ∈ L, Vb 43 X e.1 (flatL e.2)
theorem Lits.nil (X : World) : Lits X [] := fun e h => by simp at h
theorem Lits.step {X Y : World} {L : List (Nat × List Lk)} (h : Lits X L) (hb : Below X.heap.size X Y) : Lits Y L := fun e he => (h e he).below hb (h e he).lt
theorem Lits.push {X : World} {L : List (Nat × List Lk)} (h : Lits X L) (ls : List Lk) : Lits (X.alloc (.cells (flatL ls).toArray 43)) ((X.heap.size, ls) :: L) := by
  intro e he
  rcases List.mem_cons.1 he with rfl | he
  · exact Vb.new 43 X (flatL ls)
  · exact h.step (below_alloc X _) e he
theorem Lits.lr {X : World} {L : List (Nat × List Lk)} (h : Lits X L) {g : Nat} {ls : List Lk} (hm : (g, ls) ∈ L) (hl : ls.length ≤ 1000) : Lr X X.heap.size (some ⟨g, 0, none⟩) ls.length ls.length ls := by
  have hv := h _ hm
  exact lr_vb (ls := ls) (rest := []) (by rw [List.append_nil]; exact hv) hv.lt (Nat.le_refl _) (by unfold maxLen; omega)
/-- Ten graphs that may not be lie in block BB. -/
def Bg (BB : Nat) (X : World) : Prop := BB < X.heap.size ∧ ∀ j, j < 10 → ∃ (S : Int) (A : Option Addr) (n c : Nat) (ls : List Lk), X.cell? ⟨BB, j * 2, none⟩ = some (.int .i64 S) ∧ X.cell? ⟨BB, j * 2 + 1, none⟩ = some (.slice A n c) ∧ Lr X X.heap.size A n c ls ∧ ¬ Good S ls
theorem Bg.step {BB : Nat} {X Y : World} (h : Bg BB X) (hb : Below X.heap.size X Y) : Bg BB Y := by
  refine ⟨Nat.lt_of_lt_of_le h.1 hb.size, fun j hj => ?_⟩
  obtain ⟨S, A, n, c, ls, h1, h2, h3, h4⟩ := h.2 j hj
  exact ⟨S, A, n, c, ls, (hb.cell (p := ⟨BB, _, none⟩) h.1).trans h1, (hb.cell (p := ⟨BB, _, none⟩) h.1).trans h2, (h3.below hb).more hb.size, h4⟩
instance goodDec (S : Int) (ls : List Lk) : Decidable (Good S ls) := by unfold Good okL; infer_instance
theorem bad_dec {S : Int} {ls : List Lk} (h : decide (¬ Good S ls) = true) : ¬ Good S ls := of_decide_eq_true h
theorem good_dec {S : Int} {ls : List Lk} (h : decide (Good S ls) = true) : Good S ls := of_decide_eq_true h
section
variable {X : World} {S : Int} {A : Option Addr} {n c : Nat} {ls : List Lk}
theorem bad_peer (h : Lr X X.heap.size A n c ls) (hb : ¬ Good S ls) : Calls Try.prog 8 #[.agg #[.int .i64 S, .slice A n c], .agg #[.int .i64 1, .int .i64 1]] X fun e w' => e = .returned (.tuple #[.agg #[.int .i64 0, .int .i64 0], .int .i64 0, .bool false]) ∧ Below X.heap.size X w' := by
  refine (gPeer_any h (Nat.le_refl _) S 1 1).mono ?_
  rintro e w' ⟨h1, h2⟩
  rw [peer_bad hb] at h1
  exact ⟨h1, h2⟩
theorem bad_check (h : Lr X X.heap.size A n c ls) (hb : ¬ Good S ls) : Calls Try.prog 11 #[.agg #[.int .i64 S, .slice A n c]] X fun e w' => e = .returned (.int .i64 2) ∧ Below X.heap.size X w' := by
  have := gCheck_any h (Nat.le_refl _) S
  rwa [chkB hb] at this
theorem bad_ports (h : Lr X X.heap.size A n c ls) (hb : ¬ Good S ls) : Calls Try.prog 10 #[.agg #[.int .i64 S, .slice A n c], .int .i64 1] X fun e w' => (∃ A' c', e = .returned (.slice A' 0 c')) ∧ Below X.heap.size X w' := by
  refine (gPorts_any h (Nat.le_refl _) S 1).mono ?_
  rintro e w' ⟨v, rfl, ⟨m, hO⟩, h2⟩
  rw [show portsP S ls 1 = [] by unfold portsP; simp [peer_bad hb]] at hO
  obtain ⟨A', c', rfl, _⟩ := hO.form
  obtain rfl : 0 = m := hO.len
  exact ⟨⟨A', c', rfl⟩, h2⟩
theorem bad_reach (h : Lr X X.heap.size A n c ls) (hb : ¬ Good S ls) : Calls Try.prog 16 #[.agg #[.int .i64 S, .slice A n c], .slice none 0 0, .int .i64 1] X fun e w' => (∃ A' c', e = .returned (.slice A' 0 c')) ∧ Below X.heap.size X w' := by
  refine (gReach_any h (Nat.le_refl _) (Bl.nil X X.heap.size) (Nat.le_refl _) S 1).mono ?_
  rintro e w' ⟨v, rfl, ⟨m, hO⟩, h2⟩
  rw [reach_bad hb] at hO
  obtain ⟨A', c', rfl, _⟩ := hO.form
  obtain rfl : 0 = m := hO.len
  exact ⟨⟨A', c', rfl⟩, h2⟩
theorem bad_whole (h : Lr X X.heap.size A n c ls) (hb : ¬ Good S ls) : Calls Try.prog 18 #[.agg #[.int .i64 S, .slice A n c], .slice none 0 0] X fun e w' => e = .returned (.bool false) ∧ Below X.heap.size X w' := by
  have := gWhole_any h (Nat.le_refl _) (Bl.nil X X.heap.size) (Nat.le_refl _) S
  rwa [whole_bad [] hb] at this
end
/-- The ring of six, every port taken. -/
def sixAt (i : Nat) : Lk := ⟨1 + ((i % 6 : Nat) : Int), 1 + ((i / 6 : Nat) : Int), 1 + (((i + 1) % 6 : Nat) : Int), 3 + ((i / 6 : Nat) : Int)⟩
def sixL (i : Nat) : List Lk := (List.range i).map sixAt
theorem six_step (i : Nat) : sixL (i + 1) = sixL i ++ [sixAt i] := by simp [sixL, List.range_succ]
/-- The two graphs lie there. -/
structure Sx (w : World) (ONE SIX : Nat) (A : Option Addr) (c i : Nat) (X : World) : Prop where
  o : Vb 24 X ONE [.int .i64 1, .slice none 0 0]
  s : Vb 24 X SIX [.int .i64 6, .slice A i c]
  l : Ol X w.heap.size (.slice A i c) i (sixL i)
  b : Below w.heap.size w X
  ne : ONE ≠ SIX
  lo : w.heap.size ≤ SIX
section
variable {w : World} {ONE SIX : Nat} {A : Option Addr} {c i : Nat} {X Y : World}
theorem Sx.step (h : Sx w ONE SIX A c i X) (hb : Below X.heap.size X Y) : Sx w ONE SIX A c i Y := ⟨h.o.below hb h.o.lt, h.s.below hb h.s.lt, h.l.below hb, h.b.trans (hb.mono h.b.size), h.ne, h.lo⟩
theorem Ol.vb {base n g : Nat} {v : Value} {ls : List Lk} {T : TypeId} {cs : List Value} (h : Ol X base v n ls) (hv : Vb T X g cs) (hT : T ≠ 43) (hg : X.grownBy Y v.ownBlock) : Vb T Y g cs := by
  refine (hg.block g hv.lt (fun e => ?_)).trans hv
  rcases h.2 with ⟨rfl, _⟩ | ⟨k, cap, cur, rfl, hbg, hk, _⟩
  · simp [Value.ownBlock] at e
  · have e : g = k := by simpa [Value.ownBlock] using e
    subst e
    rw [show X.heap[g]? = _ from hv] at hk
    have hk := Option.some.inj hk
    injection hk with _ h2 _
    exact hT h2
/-- One link more, and its slice is stored. -/
theorem Sx.grow (h : Sx w ONE SIX A c i X) {A' : Option Addr} {c' : Nat} (hl : Ol Y w.heap.size (.slice A' (i + 1) c') (i + 1) (sixL i ++ [sixAt i])) (hb : Below w.heap.size X Y) (hg : X.grownBy Y (Value.slice A i c).ownBlock) :
    Sx w ONE SIX A' c' (i + 1) (Y.setCell ⟨SIX, 1, none⟩ (.slice A' (i + 1) c')) := by
  have ho := h.l.vb h.o (by decide) hg
  have hs := h.l.vb h.s (by decide) hg
  have g2 := grownBy_set Y SIX 1 (.slice A' (i + 1) c')
  have hB := h.b.trans hb
  exact ⟨ho.grown g2 h.ne, hs.set 1 _, by rw [six_step]; exact ol_other hl hs (by decide) g2, below_grown hB g2 hB.size h.lo, h.ne, h.lo⟩
theorem Sx.lr1 (h : Sx w ONE SIX A c i X) : Lr X X.heap.size none 0 0 [] := Lr.nil _ _
/-- What the last region asks. -/
theorem Sx.check1 (h : Sx w ONE SIX A c i X) : Calls Try.prog 11 #[.agg #[.int .i64 1, .slice none 0 0]] X fun e w' => e = .returned (.int .i64 0) ∧ Below X.heap.size X w' := by
  have := gCheck_any (Lr.nil X X.heap.size) (Nat.le_refl _) 1
  rwa [chkG (good_dec (S := 1) (ls := []) (by decide +kernel))] at this
theorem Sx.whole1 (h : Sx w ONE SIX A c i X) : Calls Try.prog 18 #[.agg #[.int .i64 1, .slice none 0 0], .slice none 0 0] X fun e w' => e = .returned (.bool true) ∧ Below X.heap.size X w' := by
  have := gWhole_any (Lr.nil X X.heap.size) (Nat.le_refl _) (Bl.nil X X.heap.size) (Nat.le_refl _) 1
  rwa [show wholeP 1 [] [] = true by decide +kernel] at this
theorem Sx.reach1 (h : Sx w ONE SIX A c i X) (s : Int) (hs : ¬ (1 ≤ s ∧ s ≤ 1)) : Calls Try.prog 16 #[.agg #[.int .i64 1, .slice none 0 0], .slice none 0 0, .int .i64 s] X fun e w' => (∃ A' c', e = .returned (.slice A' 0 c')) ∧ Below X.heap.size X w' := by
  refine (gReach_any (Lr.nil X X.heap.size) (Nat.le_refl _) (Bl.nil X X.heap.size) (Nat.le_refl _) 1 s).mono ?_
  rintro e w' ⟨v, rfl, ⟨m, hO⟩, h2⟩
  rw [reach_out [] hs] at hO
  obtain ⟨A', c', rfl, _⟩ := hO.form
  obtain rfl : 0 = m := hO.len
  exact ⟨⟨A', c', rfl⟩, h2⟩
end
section
variable {w : World} {ONE SIX : Nat} {A : Option Addr} {c : Nat} {X : World}
theorem Sx.check6 (h : Sx w ONE SIX A c 12 X) : Calls Try.prog 11 #[.agg #[.int .i64 6, .slice A 12 c]] X fun e w' => e = .returned (.int .i64 0) ∧ Below X.heap.size X w' := by
  have := gCheck_any h.l.lr (Nat.le_refl _) 6
  rwa [chkG (good_dec (S := 6) (ls := sixL 12) (by decide +kernel))] at this
theorem Sx.ports6 (h : Sx w ONE SIX A c 12 X) : Calls Try.prog 10 #[.agg #[.int .i64 6, .slice A 12 c], .int .i64 1] X fun e w' => (∃ A' c', e = .returned (.slice A' 4 c')) ∧ Below X.heap.size X w' := by
  refine (gPorts_any h.l.lr (Nat.le_refl _) 6 1).mono ?_
  rintro e w' ⟨v, rfl, ⟨m, hO⟩, h2⟩
  rw [show portsP 6 (sixL 12) 1 = [1, 2, 3, 4] by decide +kernel] at hO
  obtain ⟨A', c', rfl, _⟩ := hO.form
  obtain rfl : 4 = m := hO.len
  exact ⟨⟨A', c', rfl⟩, h2⟩
theorem Sx.whole6 (h : Sx w ONE SIX A c 12 X) {pb : Nat} (hp : Vb 4 X pb [.bool false, .bool false]) : Calls Try.prog 18 #[.agg #[.int .i64 6, .slice A 12 c], .slice (some ⟨pb, 0, none⟩) 2 2] X fun e w' => e = .returned (.bool true) ∧ Below X.heap.size X w' := by
  have := gWhole_any h.l.lr (Nat.le_refl _) (bl_vb (B := X.heap.size) (bs := [false, false]) hp hp.lt (by simp [maxLen])) (Nat.le_refl _) 6
  rwa [show wholeP 6 (sixL 12) [false, false] = true by decide +kernel] at this
end
end Go.Proofs.Ytlmonnggklfniaa.Oct
