import Derived.Test.YtnoflfbcgbhipaaGreatHaiE
import Derived.Test.YtnoflfbcgbhipaaGreatBring
import Derived.Lib.AppendZeros
import Derived.Maps.AppendAt
set_option linter.unusedSimpArgs false
set_option linter.unusedVariables false
namespace Go.Proofs.YtnoflfbcgbhipaaGreat.Oct
open Go.RowKit
def flatS : List Sv → List Value
 | [] => []
 | x :: r => x.cells ++ flatS r
theorem flatS_len : ∀ l, (flatS l).length = l.length * 9
 | [] => rfl
 | x :: r => by simp [flatS, flatS_len r, Sv.cells_len]; omega
theorem flatS_append : ∀ a b, flatS (a ++ b) = flatS a ++ flatS b
 | [], b => rfl
 | x :: r, b => by simp [flatS, flatS_append r b]
theorem flatS_at : ∀ (l : List Sv) (j : Nat) (x : Sv), l[j]? = some x → ∀ i u, x.cells[i]? = some u → (flatS l)[j * 9 + i]? = some u
 | [], j, x, h, i, u, hu => by simp at h
 | y :: r, 0, x, h, i, u, hu => by
  simp at h
  subst h
  have hi : i < y.cells.length := (List.getElem?_eq_some_iff.1 hu).1
  rw [flatS, Nat.zero_mul, Nat.zero_add, List.getElem?_append_left hi]
  exact hu
 | y :: r, j + 1, x, h, i, u, hu => by
  have ih := flatS_at r j x (by simpa using h) i u hu
  rw [flatS, List.getElem?_append_right (by rw [Sv.cells_len]; omega), Sv.cells_len, show (j + 1) * 9 + i - 9 = j * 9 + i by omega]
  exact ih
theorem cells_one (x : Sv) : ∀ u ∈ x.cells, u.oneCell' = true := by
 intro u hu
 simp only [Sv.cells, List.mem_cons, List.not_mem_nil, or_false] at hu
 rcases hu with rfl | rfl | rfl | rfl | rfl | rfl | rfl | rfl | rfl <;> rfl
theorem flatS_one : ∀ (l : List Sv), ∀ u ∈ flatS l, u.oneCell' = true
 | [], u, h => by simp [flatS] at h
 | x :: r, u, h => by
  simp only [flatS, List.mem_append] at h
  rcases h with h | h
  ·exact cells_one x u h
  ·exact flatS_one r u h
theorem info_seg : (Tryz.prog.info? 54).map (fun i => (i.zero, i.size, i.bytes)) = some (some (.agg #[.int .i64 0, .int .i64 0, .int .i64 0, .int .i64 0, .int .i64 0, .int .i64 0, .int .i64 0, .int .i64 0, .slice none 0 0]), 9, 88) := by kernel_rfl
def Osv (w : World) (base : Nat) (v : Value) (n : Nat) (l : List Sv) : Prop := w.ownsRow base 54 9 v n (flatS l)
section
variable {w w' : World} {base n : Nat} {v : Value} {l : List Sv}
theorem Osv.len (h : Osv w base v n l) : l.length = n := by have := h.1; rw [flatS_len] at this; omega
theorem Osv.nil0 (w : World) (base : Nat) : Osv w base (.slice none 0 0) 0 [] := World.ownsRow_nil w base _ 9
theorem Osv.form (h : Osv w base v n l) : ∃ A c, v = .slice A n c ∧ n ≤ c ∧ c ≤ maxLen ∧ (A = none → c = 0) ∧ (∀ a, A = some a → ∃ g, a = ⟨g, 0, none⟩ ∧ base ≤ g ∧ g < w.heap.size) := by
 rcases h.2 with ⟨rfl, rfl⟩ | ⟨g, cap, cur, rfl, hbg, hg, hnc, hcm, _⟩
 ·exact ⟨none, 0, rfl, Nat.le_refl _, Nat.zero_le _, fun _ => rfl, fun a h => by simp at h⟩
 ·exact ⟨some ⟨g, 0, none⟩, cap, rfl, hnc, hcm, fun h => by simp at h, fun a h => ⟨g, by simpa using h.symm, hbg, (Array.getElem?_eq_some_iff.1 hg).1⟩⟩
theorem Osv.below (h : Osv w base v n l) (hb : Below w.heap.size w w') : Osv w' base v n l := by
 refine ⟨h.1, ?_⟩
 rcases h.2 with h2 | ⟨g, cap, cur, e, hbg, hg, r⟩
 ·exact .inl h2
 ·exact .inr ⟨g, cap, cur, e, hbg, (hb.block g (Array.getElem?_eq_some_iff.1 hg).1).trans hg, r⟩
theorem Osv.at_ {A : Option Addr} {c : Nat} (h : Osv w base (.slice A n c) n l) (hn : 0 < n) : ∃ g, A = some ⟨g, 0, none⟩ ∧ g < w.heap.size ∧ ∀ (j : Nat) (x : Sv), l[j]? = some x → ∀ i u, x.cells[i]? = some u → w.cell? ⟨g, j * 9 + i, none⟩ = some u := by
 obtain ⟨g, cap, hv, _, hlt⟩ := World.ownsRow.form h hn
 injection hv with hA _ _
 subst hA
 refine ⟨g, rfl, hlt, fun j x hj i u hu => ?_⟩
 have key := World.ownsRow.cells h (g := g) rfl (j * 9 + i) u (flatS_at l j x hj i u hu)
 simpa [add_addr] using key
end
def Bv (w : World) (k : Nat) (f : Nat → Int) : Prop := Vb 64 w k ((List.range 256).map fun j => Value.int .i64 (f j))
def upd (f : Nat → Int) (j : Nat) (x : Int) : Nat → Int := fun i => if i = j then x else f i
theorem Bv.cell {w : World} {k : Nat} {f : Nat → Int} (h : Bv w k f) (j : Nat) (hj : j < 256) : w.cell? ⟨k, j, none⟩ = some (.int .i64 (f j)) := Vb.cell h j (by simp [hj])
theorem Bv.set {w : World} {k : Nat} {f : Nat → Int} (h : Bv w k f) (j : Nat) (x : Int) : Bv (w.setCell ⟨k, j, none⟩ (.int .i64 x)) k (upd f j x) := by
 have h1 := Vb.set h j (.int .i64 x)
 have e : ((List.range 256).map fun j => Value.int .i64 (f j)).set j (.int .i64 x) = (List.range 256).map fun i => Value.int .i64 (upd f j x i) := by
  apply List.ext_getElem
  ·simp
  ·intro i h2 h3
   rw [List.getElem_set]
   simp only [List.getElem_map, List.getElem_range, upd]
   by_cases hij : j = i
   ·subst hij; simp
   ·rw [if_neg hij, if_neg (fun e => hij e.symm)]
 unfold Bv
 rw [← e]
 exact h1
end Go.Proofs.YtnoflfbcgbhipaaGreat.Oct
