/- Layer 15 (beat): a row of calls that grows. -/
import Derived.Test.YtklbkpnbkpoomaaBeaP
import Derived.Lib.AppendZeros
import Derived.Maps.AppendAt
namespace Go.Proofs.Ytklbkpnbkpoomaa.Oct
open Go.RowKit
set_option linter.unusedVariables false
set_option linter.unusedSimpArgs false
/-- Calls, laid flat. -/
def flatB : List (Int × Int) → List Value
  | [] => []
  | d :: r => .int .i64 d.1 :: .int .i64 d.2 :: flatB r
theorem flatB_len : ∀ l, (flatB l).length = l.length * 2
  | [] => rfl
  | x :: r => by simp [flatB, flatB_len r]; omega
theorem flatB_append : ∀ a b, flatB (a ++ b) = flatB a ++ flatB b
  | [], b => rfl
  | x :: r, b => by simp [flatB, flatB_append r b]
theorem flatB_at : ∀ (l : List (Int × Int)) (j : Nat) (d : Int × Int), l[j]? = some d → (flatB l)[j * 2]? = some (.int .i64 d.1) ∧ (flatB l)[j * 2 + 1]? = some (.int .i64 d.2)
  | [], j, x, h => by simp at h
  | y :: r, 0, x, h => by simp at h; subst h; exact ⟨rfl, rfl⟩
  | y :: r, j + 1, x, h => by
    have ih := flatB_at r j x (by simpa using h)
    have e : ∀ k, (flatB (y :: r))[(j + 1) * 2 + k]? = (flatB r)[j * 2 + k]? := fun k => by
      rw [show (j + 1) * 2 + k = j * 2 + k + 1 + 1 by omega]; rfl
    exact ⟨(e 0).trans ih.1, (e 1).trans ih.2⟩
theorem flatB_one : ∀ (l : List (Int × Int)), ∀ u ∈ flatB l, u.oneCell' = true
  | [], u, h => by simp [flatB] at h
  | x :: r, u, h => by
    simp only [flatB, List.mem_cons] at h
    rcases h with rfl | rfl | h
    · rfl
    · rfl
    · exact flatB_one r u h
theorem info_doB : (Try.prog.info? 38).map (fun i => (i.zero, i.size, i.bytes)) = some (some (.agg #[.int .i64 0, .int .i64 0]), 2, 16) := by kernel_rfl
/-- A row of calls of the call's own. -/
def Obr (w : World) (base : Nat) (v : Value) (n : Nat) (ds : List (Int × Int)) : Prop := w.ownsRow base 38 2 v n (flatB ds)
section
variable {w w' : World} {base n : Nat} {v : Value} {ds : List (Int × Int)}
theorem Obr.len (h : Obr w base v n ds) : ds.length = n := by have := h.1; rw [flatB_len] at this; omega
theorem Obr.nil0 (w : World) (base : Nat) : Obr w base (.slice none 0 0) 0 [] := World.ownsRow_nil w base _ 2
theorem Obr.form (h : Obr w base v n ds) : ∃ A c, v = .slice A n c ∧ n ≤ c ∧ c ≤ maxLen ∧ (A = none → c = 0) ∧ (∀ a, A = some a → ∃ g, a = ⟨g, 0, none⟩ ∧ base ≤ g ∧ g < w.heap.size) := by
  rcases h.2 with ⟨rfl, rfl⟩ | ⟨g, cap, cur, rfl, hbg, hg, hnc, hcm, _⟩
  · exact ⟨none, 0, rfl, Nat.le_refl _, Nat.zero_le _, fun _ => rfl, fun a h => by simp at h⟩
  · exact ⟨some ⟨g, 0, none⟩, cap, rfl, hnc, hcm, fun h => by simp at h, fun a h => ⟨g, by simpa using h.symm, hbg, (Array.getElem?_eq_some_iff.1 hg).1⟩⟩
theorem Obr.below (h : Obr w base v n ds) (hb : Below w.heap.size w w') : Obr w' base v n ds := by
  refine ⟨h.1, ?_⟩
  rcases h.2 with h2 | ⟨g, cap, cur, e, hbg, hg, r⟩
  · exact .inl h2
  · exact .inr ⟨g, cap, cur, e, hbg, (hb.block g (Array.getElem?_eq_some_iff.1 hg).1).trans hg, r⟩
theorem Obr.dbof {A : Option Addr} {c : Nat} (h : Obr w base (.slice A n c) n ds) : Db w w.heap.size A n c ds := by
  obtain ⟨A', c', e, h1, h2, h3, h4⟩ := h.form
  injection e with e1 e2 e3
  subst e1 e3
  refine ⟨h.len, h1, h2, fun hn => ?_⟩
  obtain ⟨g, cap, hv, _, hlt⟩ := World.ownsRow.form h hn
  injection hv with hA _ _
  subst hA
  refine ⟨g, 0, rfl, hlt, fun j l hj => ?_⟩
  obtain ⟨q1, q2⟩ := flatB_at ds j l hj
  have key := fun i u (hu : (flatB ds)[i]? = some u) => World.ownsRow.cells h (g := g) rfl i u hu
  simp only [add_addr] at key
  have k1 := key _ _ q1
  have k2 := key _ _ q2
  exact ⟨k1, by rw [show 0 + j * 2 + 1 = 0 + (j * 2 + 1) by omega]; exact k2⟩
end
/-- append of a literal of calls, as an equation. -/
theorem Obr.more {w : World} (ty : TypeId) {base : Nat} {v : Value} {n m : Nat} {ds es : List (Int × Int)} (h : Obr w base v n ds) (hm : es.length = m) (hsz : n + m ≤ 1000000) (hbase : base ≤ w.heap.size) :
    ∃ A' c' w', (Builtin.append_ #[36, 36] ty #[v, .slice (some ⟨w.heap.size, 0, none⟩) m m]).run Try.prog (w.alloc (.cells (flatB es).toArray 38)) = .ok (.slice A' (n + m) c') w' ∧ Obr w' base (.slice A' (n + m) c') (n + m) (ds ++ es) ∧ Below base w w' := by
  have hb := below_alloc w (.cells (flatB es).toArray 38)
  have h1 := h.below hb
  have hv := Vb.new 38 w (flatB es)
  obtain ⟨i0, hi, hz0, hz1, hz2⟩ := info_parts info_doB
  have hcells : ∀ j u, (flatB es)[j]? = some u → (w.alloc (.cells (flatB es).toArray 38)).cell? ((⟨w.heap.size, 0, none⟩ : Addr).add j) = some u := by
    intro j u hu
    rw [add_addr, Nat.zero_add]
    exact hv.cell j hu
  obtain ⟨v', w', hrun, h2, h3, h4, h5⟩ := run_append_own_at (P := Try.prog) _ base 36 ty 38 i0 _ 2 16 Try.underlying36 hi hz0 hz1 hz2 rfl (by omega) v n _ h1 ⟨w.heap.size, 0, none⟩ m m (flatB es) (by rw [flatB_len, hm]) hcells
    (flatB_one es) (by unfold maxLen; omega) (by omega) (Nat.le_trans hbase hb.size)
  have hO : Obr w' base v' (n + m) (ds ++ es) := by unfold Obr; rw [flatB_append]; exact h2
  obtain ⟨A', c', e, _⟩ := hO.form
  subst e
  refine ⟨A', c', w', hrun, hO, (hb.mono hbase).trans ?_⟩
  refine (Below.refl base _).grown h3 (Nat.le_trans hbase hb.size) (fun k hk => ?_)
  exact (World.ownsRow.lt h1 k hk).1
end Go.Proofs.Ytklbkpnbkpoomaa.Oct
