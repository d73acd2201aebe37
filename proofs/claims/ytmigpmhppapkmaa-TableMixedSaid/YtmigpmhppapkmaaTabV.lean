/- Plain facts for TableMixed: rules of unlike places, put in, in whatever order. -/
import Derived.Test.YtmigpmhppapkmaaTabU
namespace Go.Proofs.Ytmigpmhppapkmaa.Oct
open Go.RowKit
set_option linter.unusedVariables false
set_option linter.unusedSimpArgs false

/-- No two are in one place. -/
def Dst (l : List RuleV) : Prop := l.Pairwise (fun a b => cmpR a b ≠ 0)
theorem Dst.at_ {l : List RuleV} (h : Dst l) {i : Nat} {x : RuleV} (hx : l[i]? = some x) : ∀ y ∈ l.take i, cmpR y x ≠ 0 := by
  intro y hy
  obtain ⟨j, hj⟩ := List.getElem?_of_mem hy
  rw [List.getElem?_take] at hj
  split at hj
  · rename_i hlt
    obtain ⟨h1, rfl⟩ := List.getElem?_eq_some_iff.1 hx
    obtain ⟨h2, rfl⟩ := List.getElem?_eq_some_iff.1 hj
    exact List.pairwise_iff_getElem.1 h j i h2 h1 hlt
  · simp at hj
theorem Dst.perm {l k : List RuleV} (h : Dst l) (hp : l.Perm k) : Dst k :=
  (List.Perm.pairwise_iff (fun {a b} hab e => hab (by have := cmpR_neg a b; omega)) hp).1 h
theorem perm_add {x : RuleV} {l P : List RuleV} (h : Srt l) (hp : l.Perm P) (hd : ∀ y ∈ P, cmpR y x ≠ 0) : (tadd x l).Perm (P ++ [x]) := by
  have e : offP x l = l := List.filter_eq_self.2 fun y hy => by
    have := hd y (hp.mem_iff.1 hy)
    simp [this]
  refine (tadd_perm h).trans ?_
  rw [e]
  refine (List.Perm.cons x hp).trans ?_
  have := (List.perm_append_comm (l₁ := P) (l₂ := [x])).symm
  simpa using this
theorem take_snocR {l : List RuleV} {i : Nat} {x : RuleV} (hx : l[i]? = some x) : l.take (i + 1) = l.take i ++ [x] := by
  rw [List.take_add_one, hx]
  rfl
/-- One more, into a table that has room. -/
theorem mix_add {room : Int} {l O : List RuleV} {i : Nat} {x : RuleV} (hS : Srt l) (hp : l.Perm (O.take i)) (hd : Dst O) (hx : O[i]? = some x) (hok : okR x) (hr : (i : Int) < room) : addE room x l = 0 ∧ (addL room x l).Perm (O.take (i + 1)) := by
  have hl : l.length ≤ i := by have := hp.length_eq; rw [List.length_take] at this; omega
  refine ⟨add_new hok (by omega), ?_⟩
  rw [addL_new hok (by omega), take_snocR hx]
  exact perm_add hS hp (hd.at_ hx)
/-- One more, into a table that is full. -/
theorem mix_full {room : Int} {l O : List RuleV} {i m : Nat} {x : RuleV} (hS : Srt l) (hp : l.Perm (O.take m)) (hd : Dst O) (hx : O[i]? = some x) (hok : okR x) (hm : m ≤ i) (hr : (m : Int) = room) : addE room x l = 90 ∧ addL room x l = l := by
  have hi : i < O.length := (List.getElem?_eq_some_iff.1 hx).1
  have hl : l.length = m := by have := hp.length_eq; rw [List.length_take] at this; omega
  have hne : ∀ y ∈ l, cmpR y x ≠ 0 := fun y hy => by
    have h1 := hp.mem_iff.1 hy
    refine hd.at_ hx y ?_
    have e : O.take m = (O.take i).take m := by rw [List.take_take, Nat.min_eq_left hm]
    rw [e] at h1
    exact List.mem_of_mem_take h1
  have he : addE room x l = 90 := by
    unfold addE
    rw [if_pos ((checkR_zero x).2 hok), if_pos ⟨(lo_eq_hi hS).2 hne, by rw [hl]; exact hr⟩]
  refine ⟨he, ?_⟩
  unfold addL
  rw [he, if_neg (by decide)]
/-- The rules turned round by s. -/
def rotL (l : List RuleV) (s : Nat) : List RuleV := l.drop s ++ l.take s
theorem rotL_perm (l : List RuleV) (s : Nat) : (rotL l s).Perm l := by
  unfold rotL
  refine List.perm_append_comm.trans ?_
  rw [List.take_append_drop]
theorem rotL_len (l : List RuleV) (s : Nat) : (rotL l s).length = l.length := (rotL_perm l s).length_eq
theorem rotL_at {l : List RuleV} {s i : Nat} (hs : s < l.length) (hi : i < l.length) : (rotL l s)[i]? = l[(i + s) % l.length]? := by
  unfold rotL
  by_cases h : i < l.length - s
  · rw [List.getElem?_append_left (by rw [List.length_drop]; exact h), List.getElem?_drop, Nat.mod_eq_of_lt (by omega), Nat.add_comm]
  · rw [List.getElem?_append_right (by rw [List.length_drop]; omega), List.length_drop, List.getElem?_take, if_pos (by omega)]
    congr 1
    rw [show i + s = (i - (l.length - s)) + l.length by omega, Nat.add_mod_right, Nat.mod_eq_of_lt (by omega)]
/-- Whether none of the first k is in r's place. -/
def noneP (r : RuleV) (l : List RuleV) (k : Nat) : Bool := (l.take k).all (fun x => decide (cmpR x r ≠ 0))
theorem noneP_step {r x : RuleV} {l : List RuleV} {k : Nat} (h : l[k]? = some x) : noneP r l (k + 1) = (noneP r l k && (cmpR x r != 0)) := by
  unfold noneP
  rw [take_snocR h, List.all_append]
  simp [bne]
  congr 1
theorem noneP_full {r : RuleV} {l : List RuleV} (h : Dst l) (hn : noneP r l l.length = true) : Dst (l ++ [r]) := by
  unfold noneP at hn
  rw [List.take_length, List.all_eq_true] at hn
  unfold Dst
  rw [List.pairwise_append]
  refine ⟨h, by simp, fun a ha b hb => ?_⟩
  have hb := List.mem_singleton.1 hb
  subst hb
  simpa using hn a ha
end Go.Proofs.Ytmigpmhppapkmaa.Oct
