/- Plain mathematics of layer 12 (graph): the document's way to what is reached, round by round; a row that is sorted by putting one after the other in. -/
import Derived.Test.YtlmonnggklfniaaGraQ
namespace Go.Proofs.Ytlmonnggklfniaa.Oct
open Go.RowKit
set_option linter.unusedVariables false
set_option linter.unusedSimpArgs false

/-- One link: if it is up, and one of its ends is in, both are. -/
def relaxP (up : List Bool) (n : Nat) (l : Lk) (T : Int → Bool) : Int → Bool := if upP up n = true ∧ (T l.a = true ∨ T l.b = true) then (fun x => decide (x = l.b) || (decide (x = l.a) || T x)) else T
def passTo (ls : List Lk) (up : List Bool) (T : Int → Bool) : Nat → Int → Bool
  | 0 => T
  | k + 1 => match ls[k]? with
    | some l => relaxP up k l (passTo ls up T k)
    | none => passTo ls up T k
def roundP (ls : List Lk) (up : List Bool) (s : Int) : Nat → Int → Bool
  | 0 => fun x => decide (x = s)
  | k + 1 => passTo ls up (roundP ls up s k) ls.length
section
variable {S : Int} {ls : List Lk} {up : List Bool} {s : Int} {T : Int → Bool}
theorem pass_step {k : Nat} {l : Lk} (h : ls[k]? = some l) : passTo ls up T (k + 1) = relaxP up k l (passTo ls up T k) := by
  show (match ls[k]? with | some l => _ | none => _) = _
  rw [h]
theorem relax_mono (n : Nat) (l : Lk) {x : Int} (h : T x = true) : relaxP up n l T x = true := by
  unfold relaxP; split
  · simp [h]
  · exact h
theorem pass_mono_step (k : Nat) {x : Int} (h : passTo ls up T k x = true) : passTo ls up T (k + 1) x = true := by
  cases hl : ls[k]? with
  | none => show (match ls[k]? with | some l => _ | none => _ : Int → Bool) x = true; rw [hl]; exact h
  | some l => rw [pass_step hl]; exact relax_mono k l h
theorem pass_mono {k m : Nat} (hm : k ≤ m) {x : Int} (h : passTo ls up T k x = true) : passTo ls up T m x = true := by
  induction hm with
  | refl => exact h
  | step _ ih => exact pass_mono_step _ ih
theorem pass_sound (hs : ∀ x, T x = true → Rst (Adj ls up) s x) (k : Nat) : ∀ x, passTo ls up T k x = true → Rst (Adj ls up) s x := by
  induction k with
  | zero => exact hs
  | succ k ih =>
    intro x hx
    cases hl : ls[k]? with
    | none =>
      have e : passTo ls up T (k + 1) = passTo ls up T k := by show (match ls[k]? with | some l => _ | none => _) = _; rw [hl]
      rw [e] at hx; exact ih x hx
    | some l =>
      rw [pass_step hl] at hx
      unfold relaxP at hx
      split at hx
      · rename_i hc
        obtain ⟨hu, hab⟩ := hc
        have h1 : Adj ls up l.a l.b := ⟨k, l, hl, hu, .inl ⟨rfl, rfl⟩⟩
        have ha : Rst (Adj ls up) s l.a := hab.elim (ih _) (fun h => (ih _ h).step h1.symm)
        have hb : Rst (Adj ls up) s l.b := hab.elim (fun h => (ih _ h).step h1) (ih _)
        rcases Bool.or_eq_true_iff.1 hx with h | h
        · rw [of_decide_eq_true h]; exact hb
        · rcases Bool.or_eq_true_iff.1 h with h | h
          · rw [of_decide_eq_true h]; exact ha
          · exact ih x h
      · exact ih x hx
def ClosedR (ls : List Lk) (up : List Bool) (T : Int → Bool) : Prop := ∀ x y, Adj ls up x y → T x = true → T y = true
theorem pass_closed (hc : ClosedR ls up T) (k : Nat) : passTo ls up T k = T := by
  induction k with
  | zero => rfl
  | succ k ih =>
    cases hl : ls[k]? with
    | none =>
      have e : passTo ls up T (k + 1) = passTo ls up T k := by show (match ls[k]? with | some l => _ | none => _) = _; rw [hl]
      rw [e, ih]
    | some l =>
      rw [pass_step hl, ih]
      unfold relaxP
      split
      · rename_i h
        obtain ⟨hu, hab⟩ := h
        have h1 : Adj ls up l.a l.b := ⟨k, l, hl, hu, .inl ⟨rfl, rfl⟩⟩
        have ha : T l.a = true := hab.elim id (hc _ _ h1.symm)
        have hb : T l.b = true := hab.elim (hc _ _ h1) id
        funext x
        by_cases e1 : x = l.b
        · simp [e1, hb]
        · by_cases e2 : x = l.a
          · simp [e2, ha]
          · simp [e1, e2]
      · rfl
theorem pass_same (h : ∀ x, passTo ls up T ls.length x = true → T x = true) : ClosedR ls up T := by
  rintro x y ⟨n, l, hl, hu, hxy⟩ hx
  have hn : n < ls.length := (List.getElem?_eq_some_iff.1 hl).1
  refine h y (pass_mono (k := n + 1) hn ?_)
  have hx' : passTo ls up T n x = true := pass_mono (k := 0) (Nat.zero_le n) hx
  rw [pass_step hl]
  unfold relaxP
  rcases hxy with ⟨rfl, rfl⟩ | ⟨rfl, rfl⟩
  · rw [if_pos ⟨hu, .inl hx'⟩]; simp
  · rw [if_pos ⟨hu, .inr hx'⟩]; simp
theorem count_le {p q : Int → Bool} (h : ∀ x, p x = true → q x = true) : ∀ l : List Int, (l.filter p).length ≤ (l.filter q).length
  | [] => by simp
  | x :: l => by
    have ih := count_le h l
    by_cases hp : p x = true
    · rw [List.filter_cons_of_pos hp, List.filter_cons_of_pos (h x hp)]; simpa using ih
    · rw [List.filter_cons_of_neg hp]
      by_cases hq : q x = true
      · rw [List.filter_cons_of_pos hq]; simp; omega
      · rw [List.filter_cons_of_neg hq]; exact ih
theorem count_lt {p q : Int → Bool} (h : ∀ x, p x = true → q x = true) {y : Int} (hq : q y = true) (hp : ¬ p y = true) : ∀ l : List Int, y ∈ l → (l.filter p).length < (l.filter q).length
  | [], hm => by cases hm
  | x :: l, hm => by
    have hle := count_le h l
    by_cases e : x = y
    · subst e
      rw [List.filter_cons_of_neg hp, List.filter_cons_of_pos hq]; simp; omega
    · have ih := count_lt h hq hp l ((List.mem_cons.1 hm).resolve_left (fun e2 => e e2.symm))
      by_cases hpx : p x = true
      · rw [List.filter_cons_of_pos hpx, List.filter_cons_of_pos (h x hpx)]; simp; omega
      · rw [List.filter_cons_of_neg hpx]
        by_cases hqx : q x = true
        · rw [List.filter_cons_of_pos hqx]; simp; omega
        · rw [List.filter_cons_of_neg hqx]; exact ih
theorem round_sound (k : Nat) : ∀ x, roundP ls up s k x = true → Rst (Adj ls up) s x := by
  induction k with
  | zero => intro x hx; rw [of_decide_eq_true hx]; exact .refl
  | succ k ih => exact pass_sound ih _
theorem round_mono (k : Nat) {x : Int} (h : roundP ls up s k x = true) : roundP ls up s (k + 1) x = true := pass_mono (k := 0) (Nat.zero_le _) h
theorem round_start (k : Nat) : roundP ls up s k s = true := by
  induction k with
  | zero => exact decide_eq_true rfl
  | succ k ih => exact round_mono k ih
theorem rst_in (hg : Good S ls) (hs : 1 ≤ s ∧ s ≤ S) {x : Int} (h : Rst (Adj ls up) s x) : x ∈ upto S := by
  rw [mem_upto]
  cases h with
  | refl => exact hs
  | step _ h => exact adj_end hg h
theorem round_count (hg : Good S ls) (hs : 1 ≤ s ∧ s ≤ S) (k : Nat) : ClosedR ls up (roundP ls up s k) ∨ k + 1 ≤ ((upto S).filter (roundP ls up s k)).length := by
  induction k with
  | zero =>
    right
    have : s ∈ (upto S).filter (roundP ls up s 0) := List.mem_filter.2 ⟨mem_upto.2 hs, round_start 0⟩
    have := List.length_pos_of_mem this
    omega
  | succ k ih =>
    rcases ih with ih | ih
    · left
      show ClosedR ls up (passTo ls up (roundP ls up s k) ls.length)
      rw [pass_closed ih]
      exact ih
    · by_cases hc : ∀ x, roundP ls up s (k + 1) x = true → roundP ls up s k x = true
      · left
        have h1 := pass_same (T := roundP ls up s k) hc
        show ClosedR ls up (passTo ls up (roundP ls up s k) ls.length)
        rw [pass_closed h1]
        exact h1
      · right
        have ⟨y, hy⟩ := Classical.not_forall.1 hc
        have ⟨h1, h2⟩ := Classical.not_imp.1 hy
        have := count_lt (p := roundP ls up s k) (q := roundP ls up s (k + 1)) (fun x => round_mono k) h1 h2 (upto S) (rst_in hg hs (round_sound _ _ h1))
        omega
theorem round_rst (hg : Good S ls) (hs : 1 ≤ s ∧ s ≤ S) {x : Int} : roundP ls up s S.toNat x = true ↔ Rst (Adj ls up) s x := by
  refine ⟨round_sound _ x, fun h => ?_⟩
  have hc : ClosedR ls up (roundP ls up s S.toNat) := by
    rcases round_count (up := up) hg hs S.toNat with h | h
    · exact h
    · have := List.length_filter_le (roundP ls up s S.toNat) (upto S)
      rw [upto_len] at this
      omega
  induction h with
  | refl => exact round_start _
  | step _ h ih => exact hc _ _ h ih
theorem reach_doc (hg : Good S ls) (hs : 1 ≤ s ∧ s ≤ S) : (upto S).filter (roundP ls up s S.toNat) = reachP S ls up s := by
  rw [reach_good hg up hs]
  refine List.filter_congr (fun x hx => ?_)
  rw [Bool.eq_iff_iff, decide_eq_true_iff, round_rst hg hs, row_rst hg up hs]
end
theorem upto_snoc (k : Nat) : upto ((k : Int) + 1) = upto k ++ [(k : Int) + 1] := by
  have e : ((k : Int) + 1).toNat = k + 1 := by omega
  simp [upto, e, List.range_succ]
theorem filt_yes {p : Int → Bool} (k : Nat) (h : p ((k : Int) + 1) = true) : (upto ((k : Int) + 1)).filter p = (upto k).filter p ++ [(k : Int) + 1] := by
  rw [upto_snoc, List.filter_append]; simp [h]
theorem filt_no {p : Int → Bool} (k : Nat) (h : p ((k : Int) + 1) = false) : (upto ((k : Int) + 1)).filter p = (upto k).filter p := by
  rw [upto_snoc, List.filter_append]; simp [h]

/-! ### sorting by putting in -/
def SrtTo (l : List Int) (i : Nat) : Prop := ∀ a b, a < b → b < i → l.getD a 0 ≤ l.getD b 0
def InJ (l : List Int) (i j : Nat) : Prop := (∀ a b, a < b → b ≤ i → a ≠ j → b ≠ j → l.getD a 0 ≤ l.getD b 0) ∧ ∀ b, j < b → b ≤ i → l.getD j 0 ≤ l.getD b 0
def swapP (l : List Int) (j : Nat) : List Int := (l.set (j + 1) (l.getD j 0)).set j (l.getD (j + 1) 0)
theorem swap_len (l : List Int) (j : Nat) : (swapP l j).length = l.length := by simp [swapP]
theorem getD_set (l : List Int) (i : Nat) (v : Int) (hi : i < l.length) (k : Nat) : (l.set i v).getD k 0 = if k = i then v else l.getD k 0 := by
  rw [List.getD_eq_getElem?_getD, List.getElem?_set, List.getD_eq_getElem?_getD]
  by_cases h : k = i
  · subst h; simp [hi]
  · rw [if_neg (fun e => h e.symm), if_neg h]
theorem swap_getD (l : List Int) (j : Nat) (hj : j + 1 < l.length) (k : Nat) : (swapP l j).getD k 0 = if k = j then l.getD (j + 1) 0 else if k = j + 1 then l.getD j 0 else l.getD k 0 := by
  unfold swapP
  rw [getD_set _ _ _ (by rw [List.length_set]; omega), getD_set _ _ _ hj]
theorem swap_perm (l : List Int) (j : Nat) (hj : j + 1 < l.length) : (swapP l j).Perm l := by
  have key : ∀ (j : Nat) (l : List Int), j + 1 < l.length → (swapP l j).Perm l := by
    intro j
    induction j with
    | zero =>
      intro l hl
      match l, hl with
      | x :: y :: r, _ => exact List.Perm.swap _ _ _
    | succ j ih =>
      intro l hl
      match l, hl with
      | x :: r, hl =>
        have := ih r (by simpa using hl)
        have e : swapP (x :: r) (j + 1) = x :: swapP r j := by simp [swapP]
        rw [e]
        exact this.cons x
  exact key j l hj
theorem inJ_start {l : List Int} {i : Nat} (h : SrtTo l i) : InJ l i i := ⟨fun a b hab hb ha hb2 => h a b hab (by omega), fun b h1 h2 => by omega⟩
theorem inJ_step {l : List Int} {i j : Nat} (hl : i < l.length) (hj : j + 1 ≤ i) (h : InJ l i (j + 1)) (hlt : l.getD (j + 1) 0 < l.getD j 0) : InJ (swapP l j) i j := by
  refine ⟨fun a b hab hb ha hb2 => ?_, fun b h1 h2 => ?_⟩
  · rw [swap_getD l j (by omega), swap_getD l j (by omega), if_neg ha, if_neg hb2]
    by_cases ea : a = j + 1
    · rw [if_pos ea, if_neg (by omega)]
      exact h.1 j b (by omega) hb (by omega) (by omega)
    · rw [if_neg ea]
      by_cases eb : b = j + 1
      · rw [if_pos eb]
        exact h.1 a j (by omega) (by omega) (by omega) (by omega)
      · rw [if_neg eb]
        exact h.1 a b hab hb ea eb
  · rw [swap_getD l j (by omega), swap_getD l j (by omega), if_pos rfl, if_neg (by omega)]
    by_cases eb : b = j + 1
    · rw [if_pos eb]; omega
    · rw [if_neg eb]
      exact h.2 b (by omega) h2
theorem inJ_zero {l : List Int} {i : Nat} (h : InJ l i 0) : SrtTo l (i + 1) := by
  intro a b hab hb
  by_cases ha : a = 0
  · subst ha; exact h.2 b hab (by omega)
  · exact h.1 a b hab (by omega) ha (by omega)
theorem inJ_stop {l : List Int} {i j : Nat} (h : InJ l i (j + 1)) (hle : ¬ l.getD (j + 1) 0 < l.getD j 0) : SrtTo l (i + 1) := by
  intro a b hab hb
  by_cases ha : a = j + 1
  · subst ha; exact h.2 b hab (by omega)
  · by_cases hb2 : b = j + 1
    · subst hb2
      by_cases haj : a = j
      · subst haj; omega
      · have := h.1 a j (by omega) (by omega) ha (by omega)
        omega
    · exact h.1 a b hab (by omega) ha hb2
theorem srtTo_sorted {l : List Int} (h : SrtTo l l.length) : l.Pairwise (· ≤ ·) := by
  rw [List.pairwise_iff_getElem]
  intro i j hi hj hij
  have := h i j hij hj
  rw [List.getD_eq_getElem?_getD, List.getD_eq_getElem?_getD, List.getElem?_eq_getElem hi, List.getElem?_eq_getElem hj] at this
  exact this
end Go.Proofs.Ytlmonnggklfniaa.Oct
