/- Plain mathematics of layer 12 (graph): which graphs may be, what an end leads to, where one comes to. No Go in sight. -/
import Derived.Test.YtlmonnggklfniaaOctP
namespace Go.Proofs.Ytlmonnggklfniaa.Oct
open Go.RowKit
set_option linter.unusedVariables false
set_option linter.unusedSimpArgs false

/-- A link, of two switches and ports. -/
structure Lk where
  a : Int
  p : Int
  b : Int
  q : Int
def Lk.A (l : Lk) : Int × Int := (l.a, l.p)
def Lk.B (l : Lk) : Int × Int := (l.b, l.q)
/-- May there be this end? -/
def endOk (S : Int) (e : Int × Int) : Bool := decide ((1 ≤ e.1 ∧ e.1 ≤ S) ∧ (1 ≤ e.2 ∧ e.2 ≤ 4))
abbrev Me := List ((Int × Int) × ((Int × Int) × Int))
def fnd : Me → Int × Int → Option ((Int × Int) × Int)
  | [], _ => none
  | x :: r, k => if k = x.1 then some x.2 else fnd r k
def leadP (es : Me) (k : Int × Int) (v : (Int × Int) × Int) : Option Me := if (fnd es k).isSome then none else some (es ++ [(k, v)])
def endsL (S : Int) : List Lk → Int → Me → Option Me
  | [], _, es => some es
  | l :: r, i, es =>
    if endOk S l.A = true ∧ endOk S l.B = true ∧ l.a ≠ l.b then
      match leadP es l.A (l.B, i) with
      | none => none
      | some es1 => match leadP es1 l.B (l.A, i) with
        | none => none
        | some es2 => endsL S r (i + 1) es2
    else none
def endsP (S : Int) (ls : List Lk) : Option Me := if 1 ≤ S ∧ S ≤ 6 then endsL S ls 0 [] else none

/-- The ends of links. -/
def allE (ls : List Lk) : List (Int × Int) := ls.flatMap fun l => [l.A, l.B]
def entries : List Lk → Int → Me
  | [], _ => []
  | l :: r, i => (l.A, l.B, i) :: (l.B, l.A, i) :: entries r (i + 1)
def okL (S : Int) (l : Lk) : Prop := endOk S l.A = true ∧ endOk S l.B = true ∧ l.a ≠ l.b
/-- A graph that may be. -/
def Good (S : Int) (ls : List Lk) : Prop := (1 ≤ S ∧ S ≤ 6) ∧ (∀ l ∈ ls, okL S l) ∧ (allE ls).Nodup

theorem endOk_iff {S : Int} {e : Int × Int} : endOk S e = true ↔ (1 ≤ e.1 ∧ e.1 ≤ S) ∧ (1 ≤ e.2 ∧ e.2 ≤ 4) := by unfold endOk; simp
theorem fnd_append (es fs : Me) (k : Int × Int) : fnd (es ++ fs) k = if (fnd es k).isSome then fnd es k else fnd fs k := by
  induction es with
  | nil => simp [fnd]
  | cons x es ih =>
    simp only [List.cons_append, fnd]
    by_cases h : k = x.1
    · simp [h]
    · simp only [h, if_false]; exact ih
theorem fnd_none {es : Me} {k : Int × Int} : fnd es k = none ↔ k ∉ es.map (·.1) := by
  induction es with
  | nil => simp [fnd]
  | cons x es ih =>
    simp only [fnd, List.map_cons, List.mem_cons, not_or]
    by_cases h : k = x.1
    · simp [h]
    · simp only [h, if_false, not_false_eq_true, true_and]; exact ih
theorem fnd_some {es : Me} {k : Int × Int} {v : (Int × Int) × Int} (hn : (es.map (·.1)).Nodup) : fnd es k = some v ↔ (k, v) ∈ es := by
  induction es with
  | nil => simp [fnd]
  | cons x es ih =>
    obtain ⟨x1, x2⟩ := x
    simp only [List.map_cons, List.nodup_cons] at hn
    simp only [fnd, List.mem_cons, Prod.mk.injEq]
    by_cases h : k = x1
    · subst h
      simp only [if_true, Option.some.injEq, true_and]
      constructor
      · intro e; exact .inl e.symm
      · rintro (e | e)
        · exact e.symm
        · exact absurd (List.mem_map_of_mem (f := (·.1)) e) hn.1
    · simp only [h, if_false, false_and, false_or]; exact ih hn.2
theorem entries_keys (ls : List Lk) (i : Int) : (entries ls i).map (·.1) = allE ls := by
  induction ls generalizing i with
  | nil => rfl
  | cons l ls ih => simp [entries, allE]; have := ih (i + 1); unfold allE at this; exact this
theorem nodup_snoc {α : Type} {l : List α} {x : α} : (l ++ [x]).Nodup ↔ l.Nodup ∧ x ∉ l := by
  rw [List.nodup_append]
  constructor
  · rintro ⟨h1, _, h2⟩; exact ⟨h1, fun h => h2 x h x (by simp) rfl⟩
  · rintro ⟨h1, h2⟩; exact ⟨h1, by simp, fun a ha b hb e => by simp at hb; subst hb; subst e; exact h2 ha⟩

theorem leadP_some {es es' : Me} {k : Int × Int} {v : (Int × Int) × Int} : leadP es k v = some es' ↔ k ∉ es.map (·.1) ∧ es' = es ++ [(k, v)] := by
  unfold leadP
  rw [← fnd_none]
  cases h : fnd es k <;> simp [eq_comm]
theorem leadP_none {es : Me} {k : Int × Int} {v : (Int × Int) × Int} : leadP es k v = none ↔ k ∈ es.map (·.1) := by
  unfold leadP
  cases h : fnd es k with
  | none => simp; have := fnd_none.1 h; simpa using this
  | some x =>
    simp
    have : ¬ fnd es k = none := by rw [h]; simp
    rw [fnd_none] at this
    simpa using this
theorem endsL_is (S : Int) : ∀ (ls : List Lk) (i : Int) (es : Me), (es.map (·.1)).Nodup →
    ((∀ l ∈ ls, okL S l) ∧ (es.map (·.1) ++ allE ls).Nodup → endsL S ls i es = some (es ++ entries ls i)) ∧
    (¬ ((∀ l ∈ ls, okL S l) ∧ (es.map (·.1) ++ allE ls).Nodup) → endsL S ls i es = none)
  | [], i, es, hn => by simp [endsL, entries, allE, hn]
  | l :: r, i, es, hn => by
    have hall : allE (l :: r) = l.A :: l.B :: allE r := by simp [allE]
    rw [hall]
    by_cases h0 : okL S l
    · have h0' := h0
      obtain ⟨h1, h2, h3⟩ := h0
      have e0 : endsL S (l :: r) i es = (match leadP es l.A (l.B, i) with
        | none => none
        | some es1 => match leadP es1 l.B (l.A, i) with
          | none => none
          | some es2 => endsL S r (i + 1) es2) := by
        show (if _ then _ else _) = _
        rw [if_pos ⟨h1, h2, h3⟩]
      rw [e0]
      by_cases hA : l.A ∈ es.map (·.1)
      · rw [leadP_none.2 hA]
        refine ⟨fun ⟨_, hd⟩ => ?_, fun _ => rfl⟩
        rw [List.nodup_append] at hd
        exact absurd rfl (hd.2.2 _ hA _ (by simp))
      · rw [leadP_some.2 ⟨hA, rfl⟩]
        dsimp only
        have hk1 : (es ++ [(l.A, l.B, i)]).map (·.1) = es.map (·.1) ++ [l.A] := by simp
        have hn1 : ((es ++ [(l.A, l.B, i)]).map (·.1)).Nodup := by rw [hk1]; exact nodup_snoc.2 ⟨hn, hA⟩
        by_cases hB : l.B ∈ (es ++ [(l.A, l.B, i)]).map (·.1)
        · rw [leadP_none.2 hB]
          refine ⟨fun ⟨_, hd⟩ => ?_, fun _ => rfl⟩
          rw [hk1] at hB
          have hd' : ((es.map (·.1) ++ [l.A]) ++ (l.B :: allE r)).Nodup := by simpa using hd
          rw [List.nodup_append] at hd'
          exact absurd rfl (hd'.2.2 _ hB _ (by simp))
        · rw [leadP_some.2 ⟨hB, rfl⟩]
          dsimp only
          have hk2 : ((es ++ [(l.A, l.B, i)]) ++ [(l.B, l.A, i)]).map (·.1) = es.map (·.1) ++ [l.A, l.B] := by simp
          have hn2 : (((es ++ [(l.A, l.B, i)]) ++ [(l.B, l.A, i)]).map (·.1)).Nodup := by
            rw [List.map_append]; exact nodup_snoc.2 ⟨hn1, hB⟩
          have ih := endsL_is S r (i + 1) ((es ++ [(l.A, l.B, i)]) ++ [(l.B, l.A, i)]) hn2
          rw [hk2] at ih
          have ek : (es.map (·.1) ++ [l.A, l.B]) ++ allE r = es.map (·.1) ++ (l.A :: l.B :: allE r) := by simp
          rw [ek] at ih
          have ec : (∀ x ∈ l :: r, okL S x) ↔ ∀ x ∈ r, okL S x := by
            constructor
            · intro h x hx; exact h x (by simp [hx])
            · intro h x hx
              rcases List.mem_cons.1 hx with rfl | hx
              · exact h0'
              · exact h x hx
          rw [ec]
          refine ⟨fun h => ?_, ih.2⟩
          rw [ih.1 h]
          simp [entries]
    · have e0 : endsL S (l :: r) i es = none := by
        show (if _ then _ else _) = _
        exact if_neg h0
      rw [e0]
      exact ⟨fun ⟨h, _⟩ => absurd (h l (by simp)) h0, fun _ => rfl⟩
theorem endsP_good {S : Int} {ls : List Lk} (h : Good S ls) : endsP S ls = some (entries ls 0) := by
  unfold endsP
  rw [if_pos h.1]
  have := (endsL_is S ls 0 [] (by simp)).1 ⟨h.2.1, by simpa using h.2.2⟩
  simpa using this
theorem endsP_bad {S : Int} {ls : List Lk} (h : ¬ Good S ls) : endsP S ls = none := by
  unfold endsP
  split
  · rename_i h1
    exact (endsL_is S ls 0 [] (by simp)).2 (fun ⟨h2, h3⟩ => h ⟨h1, h2, by simpa using h3⟩)
  · rfl
theorem endsP_some {S : Int} {ls : List Lk} {es : Me} (h : endsP S ls = some es) : Good S ls ∧ es = entries ls 0 := by
  by_cases hg : Good S ls
  · rw [endsP_good hg] at h; exact ⟨hg, (Option.some.inj h).symm⟩
  · rw [endsP_bad hg] at h; cases h

/-! ### the document's Check -/
def sharesP (x y : Lk) : Bool := decide (x.A = y.A ∨ x.A = y.B ∨ x.B = y.A ∨ x.B = y.B)
/-- The first i links may be, and share no end. -/
def OkTo (S : Int) (ls : List Lk) (i : Nat) : Prop := (∀ l ∈ ls.take i, okL S l) ∧ (allE (ls.take i)).Nodup
theorem allE_append (x y : List Lk) : allE (x ++ y) = allE x ++ allE y := by simp [allE]
theorem take_snocL {α : Type} {l : List α} {k : Nat} {x : α} (h : l[k]? = some x) : l.take (k + 1) = l.take k ++ [x] := by
  rw [List.take_add_one, h]; rfl
theorem share_iff {x : Lk} {ls : List Lk} : (∃ y ∈ ls, sharesP x y = true) ↔ (x.A ∈ allE ls ∨ x.B ∈ allE ls) := by
  unfold allE sharesP
  simp only [List.mem_flatMap, List.mem_cons, List.not_mem_nil, or_false, decide_eq_true_eq]
  constructor
  · rintro ⟨y, hy, (h | h | h | h)⟩
    · exact .inl ⟨y, hy, .inl h⟩
    · exact .inl ⟨y, hy, .inr h⟩
    · exact .inr ⟨y, hy, .inl h⟩
    · exact .inr ⟨y, hy, .inr h⟩
  · rintro (⟨y, hy, (h | h)⟩ | ⟨y, hy, (h | h)⟩)
    · exact ⟨y, hy, .inl h⟩
    · exact ⟨y, hy, .inr (.inl h)⟩
    · exact ⟨y, hy, .inr (.inr (.inl h))⟩
    · exact ⟨y, hy, .inr (.inr (.inr h))⟩
theorem okTo_zero (S : Int) (ls : List Lk) : OkTo S ls 0 := by simp [OkTo, allE]
theorem ne_AB {S : Int} {x : Lk} (h : okL S x) : x.A ≠ x.B := fun e => h.2.2 (congrArg Prod.fst e)
theorem okTo_step {S : Int} {ls : List Lk} {i : Nat} {x : Lk} (h : ls[i]? = some x) (h0 : OkTo S ls i) (h1 : okL S x) (h2 : ∀ k y, k < i → ls[k]? = some y → sharesP x y = false) : OkTo S ls (i + 1) := by
  have hsh : ¬ (∃ y ∈ ls.take i, sharesP x y = true) := by
    rintro ⟨y, hy, hs⟩
    obtain ⟨k, hk⟩ := List.mem_iff_getElem?.1 hy
    have hki : k < i := by
      have := (List.getElem?_eq_some_iff.1 hk).1
      rw [List.length_take] at this; omega
    rw [List.getElem?_take_of_lt hki] at hk
    rw [h2 k y hki hk] at hs; cases hs
  rw [share_iff, not_or] at hsh
  unfold OkTo
  rw [take_snocL h, allE_append]
  refine ⟨fun l hl => ?_, ?_⟩
  · rcases List.mem_append.1 hl with hl | hl
    · exact h0.1 l hl
    · rw [List.mem_singleton.1 hl]; exact h1
  · have e : allE [x] = [x.A, x.B] := rfl
    rw [e, show allE (ls.take i) ++ [x.A, x.B] = (allE (ls.take i) ++ [x.A]) ++ [x.B] by simp]
    refine nodup_snoc.2 ⟨nodup_snoc.2 ⟨h0.2, hsh.1⟩, ?_⟩
    simp only [List.mem_append, List.mem_singleton, not_or]
    exact ⟨hsh.2, fun e => ne_AB h1 e.symm⟩
theorem good_share {S : Int} {ls : List Lk} {i k : Nat} {x y : Lk} (h : Good S ls) (hk : k < i) (hx : ls[i]? = some x) (hy : ls[k]? = some y) : sharesP x y = false := by
  cases hs : sharesP x y with
  | false => rfl
  | true =>
    exfalso
    have hn : (allE (ls.take (i + 1))).Nodup := by
      have e : allE ls = allE (ls.take (i + 1)) ++ allE (ls.drop (i + 1)) := by rw [← allE_append, List.take_append_drop]
      have := h.2.2
      rw [e, List.nodup_append] at this
      exact this.1
    rw [take_snocL hx, allE_append, List.nodup_append] at hn
    have hmem : y ∈ ls.take i := List.mem_iff_getElem?.2 ⟨k, by rw [List.getElem?_take_of_lt hk]; exact hy⟩
    rcases share_iff.1 ⟨y, hmem, hs⟩ with h1 | h1
    · exact absurd rfl (hn.2.2 _ h1 _ (by simp [allE]))
    · exact absurd rfl (hn.2.2 _ h1 _ (by simp [allE]))
theorem good_of_okTo {S : Int} {ls : List Lk} (hS : 1 ≤ S ∧ S ≤ 6) (h : OkTo S ls ls.length) : Good S ls := by
  unfold OkTo at h
  rw [List.take_length] at h
  exact ⟨hS, h.1, h.2⟩

/-- As many unlike numbers below n as there are: n at most. -/
theorem nodup_lt : ∀ (n : Nat) (l : List Nat), l.Nodup → (∀ x ∈ l, x < n) → l.length ≤ n
  | 0, l, _, h => by
    cases l with
    | nil => simp
    | cons x l => exact absurd (h x (by simp)) (by omega)
  | n + 1, l, hn, h => by
    have h1 : (l.filter (fun x => decide (x ≠ n))).length ≤ n := by
      refine nodup_lt n _ (List.Pairwise.filter _ hn) (fun x hx => ?_)
      have hx := List.mem_filter.1 hx
      have h2 := h x hx.1
      have h3 : x ≠ n := by simpa using hx.2
      omega
    have h2 : l.length ≤ (l.filter (fun x => decide (x ≠ n))).length + 1 := by
      clear h h1
      induction l with
      | nil => simp
      | cons x l ih =>
        rw [List.nodup_cons] at hn
        by_cases hx : x = n
        · subst hx
          have : l.filter (fun y => decide (y ≠ x)) = l := List.filter_eq_self.2 (fun y hy => by
            have : y ≠ x := fun e => hn.1 (e ▸ hy)
            simpa using this)
          rw [List.filter_cons_of_neg (by simp), this]; simp
        · rw [List.filter_cons_of_pos (by simpa using hx)]
          simp only [List.length_cons]
          have := ih hn.2
          omega
    omega
theorem good_len {S : Int} {ls : List Lk} (h : Good S ls) : ls.length ≤ 12 := by
  have hl : (allE ls).length = 2 * ls.length := by
    have : ∀ l : List Lk, (allE l).length = 2 * l.length := fun l => by
      induction l with
      | nil => rfl
      | cons x l ih => unfold allE at ih ⊢; simp [ih]; omega
    exact this ls
  have hin : ∀ e ∈ allE ls, endOk 6 e = true := by
    intro e he
    unfold allE at he
    simp only [List.mem_flatMap, List.mem_cons, List.not_mem_nil, or_false] at he
    obtain ⟨l, hl, h1⟩ := he
    obtain ⟨h2, h3, _⟩ := h.2.1 l hl
    have h6 := h.1
    rcases h1 with rfl | rfl
    · rw [endOk_iff] at h2 ⊢; omega
    · rw [endOk_iff] at h3 ⊢; omega
  have hm : ((allE ls).map (fun e => ((e.1 - 1) * 4 + (e.2 - 1)).toNat)).Nodup := by
    have hn : ∀ l : List (Int × Int), l.Nodup → (∀ e ∈ l, endOk 6 e = true) → (l.map (fun e => ((e.1 - 1) * 4 + (e.2 - 1)).toNat)).Nodup := by
      intro l
      induction l with
      | nil => intros; simp
      | cons x l ih =>
        intro h1 h2
        rw [List.nodup_cons] at h1
        rw [List.map_cons, List.nodup_cons]
        refine ⟨fun hx => ?_, ih h1.2 (fun e he => h2 e (by simp [he]))⟩
        obtain ⟨y, hy, e⟩ := List.mem_map.1 hx
        have ha := endOk_iff.1 (h2 x (by simp))
        have hb := endOk_iff.1 (h2 y (by simp [hy]))
        have : y = x := Prod.ext (by omega) (by omega)
        subst this
        exact h1.1 hy
    exact hn _ h.2.2 hin
  have := nodup_lt 24 _ hm (fun x hx => by
    obtain ⟨e, he, rfl⟩ := List.mem_map.1 hx
    have := endOk_iff.1 (hin e he)
    omega)
  rw [List.length_map, hl] at this
  omega
end Go.Proofs.Ytlmonnggklfniaa.Oct
