/- Statements of layer 13 (sender): a row of calls that grows. -/
import Derived.Test.YtkpjnikbcgngbaaSndM
import Derived.Lib.AppendZeros
namespace Go.Proofs.Ytkpjnikbcgngbaa.Oct
open Go.RowKit
set_option linter.unusedVariables false
set_option linter.unusedSimpArgs false
/-- Calls, laid flat. -/
def flatD : List DoS → List Value
  | [] => []
  | d :: r => .int .i64 d.k :: .int .i64 d.i :: .slice d.A d.n d.c :: flatD r
theorem flatD_len : ∀ l, (flatD l).length = l.length * 3
  | [] => rfl
  | x :: r => by simp [flatD, flatD_len r]; omega
theorem flatD_append : ∀ a b, flatD (a ++ b) = flatD a ++ flatD b
  | [], b => rfl
  | x :: r, b => by simp [flatD, flatD_append r b]
theorem flatD_at : ∀ (l : List DoS) (j : Nat) (d : DoS), l[j]? = some d → (flatD l)[j * 3]? = some (.int .i64 d.k) ∧ (flatD l)[j * 3 + 1]? = some (.int .i64 d.i) ∧ (flatD l)[j * 3 + 2]? = some (.slice d.A d.n d.c)
  | [], j, x, h => by simp at h
  | y :: r, 0, x, h => by simp at h; subst h; exact ⟨rfl, rfl, rfl⟩
  | y :: r, j + 1, x, h => by
    have ih := flatD_at r j x (by simpa using h)
    have e : ∀ k, (flatD (y :: r))[(j + 1) * 3 + k]? = (flatD r)[j * 3 + k]? := fun k => by
      rw [show (j + 1) * 3 + k = j * 3 + k + 1 + 1 + 1 by omega]; rfl
    exact ⟨(e 0).trans ih.1, (e 1).trans ih.2.1, (e 2).trans ih.2.2⟩
theorem flatD_one : ∀ (l : List DoS), ∀ u ∈ flatD l, u.oneCell' = true
  | [], u, h => by simp [flatD] at h
  | x :: r, u, h => by
    simp only [flatD, List.mem_cons] at h
    rcases h with rfl | rfl | rfl | h
    · rfl
    · rfl
    · rfl
    · exact flatD_one r u h
theorem info_do : (Try.prog.info? 32).map (fun i => (i.zero, i.size, i.bytes)) = some (some (.agg #[.int .i64 0, .int .i64 0, .slice none 0 0]), 3, 40) := by kernel_rfl
/-- Bytes of a call. -/
def Dby (w : World) (d : DoS) : Prop := Fok Tq w ⟨d.A, d.n, d.c, d.bs⟩
theorem Dby.below {w w' : World} {d : DoS} (h : Dby w d) (hb : Below w.heap.size w w') : Dby w' d := Fok.below h hb
/-- A row of calls of the call's own. -/
structure Od (w : World) (base : Nat) (v : Value) (n : Nat) (ds : List DoS) : Prop where
  row : w.ownsRow base 32 3 v n (flatD ds)
  by_ : ∀ d ∈ ds, Dby w d
section
variable {w w' : World} {base n : Nat} {v : Value} {ds : List DoS}
theorem Od.len (h : Od w base v n ds) : ds.length = n := by have := h.row.1; rw [flatD_len] at this; omega
theorem Od.nil0 (w : World) (base : Nat) : Od w base (.slice none 0 0) 0 [] := ⟨World.ownsRow_nil w base _ 3, fun d hd => by simp at hd⟩
theorem Od.form (h : Od w base v n ds) : ∃ A c, v = .slice A n c ∧ n ≤ c ∧ c ≤ maxLen ∧ (A = none → c = 0) ∧ (∀ a, A = some a → ∃ g, a = ⟨g, 0, none⟩ ∧ base ≤ g ∧ g < w.heap.size) := by
  rcases h.row.2 with ⟨rfl, rfl⟩ | ⟨g, cap, cur, rfl, hbg, hg, hnc, hcm, _⟩
  · exact ⟨none, 0, rfl, Nat.le_refl _, Nat.zero_le _, fun _ => rfl, fun a h => by simp at h⟩
  · exact ⟨some ⟨g, 0, none⟩, cap, rfl, hnc, hcm, fun h => by simp at h, fun a h => ⟨g, by simpa using h.symm, hbg, (Array.getElem?_eq_some_iff.1 hg).1⟩⟩
theorem Od.below (h : Od w base v n ds) (hb : Below w.heap.size w w') : Od w' base v n ds := by
  refine ⟨⟨h.row.1, ?_⟩, fun d hd => (h.by_ d hd).below hb⟩
  rcases h.row.2 with h2 | ⟨g, cap, cur, e, hbg, hg, r⟩
  · exact .inl h2
  · exact .inr ⟨g, cap, cur, e, hbg, (hb.block g (Array.getElem?_eq_some_iff.1 hg).1).trans hg, r⟩
theorem Od.dsof {A : Option Addr} {c : Nat} (h : Od w base (.slice A n c) n ds) : Ds w w.heap.size A n c ds := by
  obtain ⟨A', c', e, h1, h2, h3, h4⟩ := h.form
  injection e with e1 e2 e3
  subst e1 e3
  refine ⟨h.len, h1, h2, h3, fun d hd => ⟨Fok.rd (h.by_ d hd), Fok.bytes (h.by_ d hd), by have h5 : d.n ≤ 512 := Fok.small (h.by_ d hd); omega⟩, fun hn => ?_⟩
  obtain ⟨g, cap, hv, _, hlt⟩ := World.ownsRow.form h.row hn
  injection hv with hA _ _
  subst hA
  refine ⟨g, 0, rfl, hlt, fun j l hj => ?_⟩
  obtain ⟨q1, q2, q3⟩ := flatD_at ds j l hj
  have key := fun i u (hu : (flatD ds)[i]? = some u) => World.ownsRow.cells h.row (g := g) rfl i u hu
  simp only [add_addr] at key
  have k1 := key _ _ q1
  have k2 := key _ _ q2
  have k3 := key _ _ q3
  exact ⟨k1, by rw [show 0 + j * 3 + 1 = 0 + (j * 3 + 1) by omega]; exact k2, by rw [show 0 + j * 3 + 2 = 0 + (j * 3 + 2) by omega]; exact k3⟩
end
/-- append of a literal of calls, as an equation. -/
theorem Od.more {w : World} (ty : TypeId) {base : Nat} {v : Value} {n m : Nat} {ds es : List DoS} (h : Od w base v n ds) (hm : es.length = m) (hes : ∀ d ∈ es, Dby w d) (hsz : n + m ≤ 1000000) (hbase : base ≤ w.heap.size) :
    ∃ A' c' w', (Builtin.append_ #[22, 22] ty #[v, .slice (some ⟨w.heap.size, 0, none⟩) m m]).run Try.prog (w.alloc (.cells (flatD es).toArray 32)) = .ok (.slice A' (n + m) c') w' ∧ Od w' base (.slice A' (n + m) c') (n + m) (ds ++ es) ∧ Below base w w' := by
  have hb := below_alloc w (.cells (flatD es).toArray 32)
  have h1 := h.below hb
  have hv := Vb.new 32 w (flatD es)
  obtain ⟨i0, hi, hz0, hz1, hz2⟩ := info_parts info_do
  have hcells : ∀ j u, (flatD es)[j]? = some u → (w.alloc (.cells (flatD es).toArray 32)).cell? ((⟨w.heap.size, 0, none⟩ : Addr).add j) = some u := by
    intro j u hu
    rw [add_addr, Nat.zero_add]
    exact hv.cell j hu
  obtain ⟨v', w', hrun, h2, h3, h4, h5⟩ := run_append_own_at (P := Try.prog) _ base 22 ty 32 i0 _ 3 40 Try.underlying22 hi hz0 hz1 hz2 rfl (by omega) v n _ h1.row ⟨w.heap.size, 0, none⟩ m m (flatD es) (by rw [flatD_len, hm]) hcells
    (flatD_one es) (by unfold maxLen; omega) (by omega) (Nat.le_trans hbase hb.size)
  have hch : Ch (fun k => v.ownBlock = some k) _ w' := .of_grownv h3
  have hty : ∀ k, v.ownBlock = some k → ∃ cur, (w.alloc (.cells (flatD es).toArray 32)).heap[k]? = some (.cells cur 32 (0, 0)) := by
    intro k hk
    rcases h1.row.2 with ⟨rfl, _⟩ | ⟨g, cap, cur, rfl, hbg, hg, _⟩
    · simp [Value.ownBlock] at hk
    · simp [Value.ownBlock] at hk
      subst hk
      exact ⟨cur, hg⟩
  have hdby : ∀ d, Dby w d → Dby w' d := by
    intro d hd
    refine Fok.stay (hd.below hb) hch (fun b cs m _ _ hb e => ?_)
    obtain ⟨cur, hcur⟩ := hty b e
    rw [hcur] at hb
    have e := Option.some.inj hb
    injection e with _ e _
    exact absurd e (by decide)
  have hrow : w'.ownsRow base 32 3 v' (n + m) (flatD (ds ++ es)) := by rw [flatD_append]; exact h2
  have hO : Od w' base v' (n + m) (ds ++ es) := ⟨hrow, fun d hd => by
    rcases List.mem_append.1 hd with hd | hd
    · exact hdby d (h.by_ d hd)
    · exact hdby d (hes d hd)⟩
  obtain ⟨A', c', e, _⟩ := hO.form
  subst e
  exact ⟨A', c', w', hrun, hO, (hb.mono hbase).trans (hch.below (B := base) (fun k hk => (World.ownsRow.lt h1.row k hk).1) (Nat.le_trans hbase hb.size))⟩
theorem dby_one (w : World) (x : Int) (h : 0 ≤ x ∧ x < 256) : Fok Tq (w.alloc (.cells #[.int .u8 x] 5)) ⟨some ⟨w.heap.size, 0, none⟩, 1, 1, [x]⟩ := by
  have := own_lit w [x] w.heap.size (Nat.le_refl _) (by simp [maxLen])
  exact (Fok.of_own (c := 1) (n := 1) this (by omega) (by_one h)).imp (fun _ _ _ => trivial)
def noughtsS (m : Nat) : Obj := .cells (madeCells (Value.int .u8 0).cells m) 5
theorem run_zerosS (m : Nat) (h : m ≤ 70000) (C : Int) (hC : C = m) (w : World) :
    (Instr.makeSlice 30 (.int .i64 C) (.int .i64 C)).run Try.prog w = .ok (.slice (some ⟨w.heap.size, 0, none⟩) m m) (w.alloc (noughtsS m)) := by
  obtain ⟨i0, hi, hz0, hz1, hz2⟩ := info_parts info_u8
  have hr := run_make (P := Try.prog) w 30 5 i0 _ Try.underlying30 hi hz0 .i64 .i64 C C (by omega) (by omega) (by rw [hz2]; omega) (by omega)
  rw [hr, hz1, hC]
  simp [noughtsS]
theorem dby_zeros (m : Nat) (h : m ≤ 512) (w : World) : Fok Tq (w.alloc (noughtsS m)) ⟨some ⟨w.heap.size, 0, none⟩, m, m, List.replicate m 0⟩ := by
  refine ⟨h, fun z hz => by simp [List.mem_replicate] at hz; omega, by simp, Nat.le_refl _, by show m ≤ maxLen; unfold maxLen; omega, fun e => by simp at e, fun hn => ⟨w.heap.size, 0, _, rfl, trivial, heap_alloc_new w _, fun j hj => ?_⟩⟩
  have hj : j < m := hj
  rw [Nat.zero_add]
  show (madeCells #[Value.int .u8 0] m)[j]? = _
  rw [List.getD_eq_getElem?_getD]
  simp [madeCells, hj, Nat.mod_one]
theorem dby_none (w : World) : Fok Tq w ⟨none, 0, 0, []⟩ := Fok.nil_ _ _
end Go.Proofs.Ytkpjnikbcgngbaa.Oct
