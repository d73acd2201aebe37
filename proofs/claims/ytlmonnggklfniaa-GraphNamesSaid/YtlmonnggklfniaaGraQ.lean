/- Plain mathematics of layer 12 (graph): other ends, ports; where one comes to, gone through port by port, link by link. -/
import Derived.Test.YtlmonnggklfniaaGraP
namespace Go.Proofs.Ytlmonnggklfniaa.Oct
open Go.RowKit
set_option linter.unusedVariables false
set_option linter.unusedSimpArgs false

/-! ### the other end -/
def peerP (S : Int) (ls : List Lk) (e : Int × Int) : Option ((Int × Int) × Int) := (endsP S ls).bind fun es => fnd es e
/-- The document's way: link by link. -/
def scanP (e : Int × Int) : List Lk → Int → Option ((Int × Int) × Int)
  | [], _ => none
  | l :: r, i => if l.A = e then some (l.B, i) else if l.B = e then some (l.A, i) else scanP e r (i + 1)
theorem scan_is (e : Int × Int) : ∀ (ls : List Lk) (i : Int), scanP e ls i = fnd (entries ls i) e
  | [], i => rfl
  | l :: r, i => by
    simp only [scanP, entries, fnd]
    by_cases h1 : e = l.A
    · simp [h1]
    · rw [if_neg h1, if_neg (fun h => h1 h.symm)]
      by_cases h2 : e = l.B
      · simp [h2]
      · rw [if_neg h2, if_neg (fun h => h2 h.symm)]
        exact scan_is e r (i + 1)
theorem peer_good {S : Int} {ls : List Lk} (h : Good S ls) (e : Int × Int) : peerP S ls e = scanP e ls 0 := by
  unfold peerP; rw [endsP_good h, scan_is]; rfl
theorem peer_bad {S : Int} {ls : List Lk} (h : ¬ Good S ls) (e : Int × Int) : peerP S ls e = none := by
  unfold peerP; rw [endsP_bad h]; rfl
theorem entries_mem {k e : Int × Int} {j : Int} : ∀ (ls : List Lk) (i : Int), (k, e, j) ∈ entries ls i ↔ ∃ (n : Nat) (l : Lk), ls[n]? = some l ∧ j = i + n ∧ ((l.A = k ∧ l.B = e) ∨ (l.B = k ∧ l.A = e))
  | [], i => by simp [entries]
  | l :: r, i => by
    have ih := entries_mem (k := k) (e := e) (j := j) r (i + 1)
    simp only [entries, List.mem_cons, Prod.mk.injEq, ih]
    constructor
    · rintro (⟨rfl, rfl, rfl⟩ | ⟨rfl, rfl, rfl⟩ | ⟨n, x, h1, h2, h3⟩)
      · exact ⟨0, l, rfl, by simp, .inl ⟨rfl, rfl⟩⟩
      · exact ⟨0, l, rfl, by simp, .inr ⟨rfl, rfl⟩⟩
      · exact ⟨n + 1, x, by simpa using h1, by omega, h3⟩
    · rintro ⟨n, x, h1, h2, h3⟩
      cases n with
      | zero =>
        simp at h1; subst h1
        rcases h3 with ⟨h3, h4⟩ | ⟨h3, h4⟩
        · exact .inl ⟨h3.symm, h4.symm, by simpa using h2⟩
        · exact .inr (.inl ⟨h3.symm, h4.symm, by simpa using h2⟩)
      | succ n => exact .inr (.inr ⟨n, x, by simpa using h1, by omega, h3⟩)
theorem good_fnd {S : Int} {ls : List Lk} (h : Good S ls) {k e : Int × Int} {j : Int} : fnd (entries ls 0) k = some (e, j) ↔ ∃ (n : Nat) (l : Lk), ls[n]? = some l ∧ j = n ∧ ((l.A = k ∧ l.B = e) ∨ (l.B = k ∧ l.A = e)) := by
  rw [fnd_some (by rw [entries_keys]; exact h.2.2), entries_mem]
  simp only [Int.zero_add]
theorem peer_iff {S : Int} {ls : List Lk} (h : Good S ls) {k e : Int × Int} {j : Int} : peerP S ls k = some (e, j) ↔ ∃ (n : Nat) (l : Lk), ls[n]? = some l ∧ j = n ∧ ((l.A = k ∧ l.B = e) ∨ (l.B = k ∧ l.A = e)) := by
  rw [peer_good h, scan_is, good_fnd h]
/-- The other end's other end is the end itself. -/
theorem peer_back {S : Int} {ls : List Lk} {k e : Int × Int} {j : Int} (h : peerP S ls k = some (e, j)) : peerP S ls e = some (k, j) ∧ ∃ (n : Nat) (l : Lk), ls[n]? = some l ∧ j = n ∧ (l.A = k ∨ l.B = k) := by
  by_cases hg : Good S ls
  · obtain ⟨n, l, h1, h2, h3⟩ := (peer_iff hg).1 h
    exact ⟨(peer_iff hg).2 ⟨n, l, h1, h2, h3.symm.imp (fun ⟨a, b⟩ => ⟨b, a⟩) (fun ⟨a, b⟩ => ⟨b, a⟩) |>.symm.symm⟩, n, l, h1, h2, h3.imp (·.1) (·.1)⟩
  · rw [peer_bad hg] at h; cases h
/-- The ports that are ends. -/
def portsP (S : Int) (ls : List Lk) (s : Int) : List Int := [1, 2, 3, 4].filter fun p => (peerP S ls (s, p)).isSome
/-- .. up to port k. -/
def portsTo (S : Int) (ls : List Lk) (s : Int) (k : Nat) : List Int := (([1, 2, 3, 4] : List Int).take k).filter fun p => (peerP S ls (s, p)).isSome
theorem portsTo_all (S : Int) (ls : List Lk) (s : Int) : portsTo S ls s 4 = portsP S ls s := rfl

/-! ### where one comes to -/
def upP (up : List Bool) (i : Int) : Bool := if (up.length : Int) ≤ i then true else up.getD i.toNat false
/-- The switches at the other ends of a switch's links that are up; .. of the first k ports. -/
def nbTo (es : Me) (up : List Bool) (s : Int) (k : Nat) : List Int := (([1, 2, 3, 4] : List Int).take k).flatMap fun p => match fnd es (s, p) with
  | some (e, i) => if upP up i then [e.1] else []
  | none => []
def nbP (es : Me) (up : List Bool) (s : Int) : List Int := nbTo es up s 4
/-- One of x and y leads to the other over a link that is up. -/
def Adj (ls : List Lk) (up : List Bool) (x y : Int) : Prop := ∃ (n : Nat) (l : Lk), ls[n]? = some l ∧ upP up n = true ∧ ((l.a = x ∧ l.b = y) ∨ (l.b = x ∧ l.a = y))
theorem Adj.symm {ls : List Lk} {up : List Bool} {x y : Int} (h : Adj ls up x y) : Adj ls up y x := by
  obtain ⟨n, l, h1, h2, h3⟩ := h
  exact ⟨n, l, h1, h2, h3.elim (fun ⟨a, b⟩ => .inr ⟨b, a⟩) (fun ⟨a, b⟩ => .inl ⟨b, a⟩)⟩
theorem adj_end {S : Int} {ls : List Lk} {up : List Bool} {x y : Int} (hg : Good S ls) (h : Adj ls up x y) : 1 ≤ y ∧ y ≤ S := by
  obtain ⟨n, l, h1, h2, h3⟩ := h
  obtain ⟨ha, hb, _⟩ := hg.2.1 l (List.mem_of_getElem? h1)
  rw [endOk_iff] at ha hb
  rcases h3 with ⟨rfl, rfl⟩ | ⟨rfl, rfl⟩
  · exact hb.1
  · exact ha.1
theorem nb_adj {S : Int} {ls : List Lk} (hg : Good S ls) {up : List Bool} {x y : Int} : y ∈ nbP (entries ls 0) up x ↔ Adj ls up x y := by
  unfold nbP nbTo
  rw [show [1, 2, 3, 4].take 4 = ([1, 2, 3, 4] : List Int) from rfl]
  rw [List.mem_flatMap]
  constructor
  · rintro ⟨p, hp, hy⟩
    cases hf : fnd (entries ls 0) (x, p) with
    | none => rw [hf] at hy; simp at hy
    | some v =>
      obtain ⟨e, i⟩ := v
      rw [hf] at hy
      dsimp only at hy
      cases hu : upP up i with
      | false => rw [hu] at hy; simp at hy
      | true =>
        rw [hu] at hy
        simp at hy
        subst hy
        obtain ⟨n, l, h1, rfl, h3⟩ := (good_fnd hg).1 hf
        exact ⟨n, l, h1, hu, h3.imp (fun ⟨a, b⟩ => ⟨congrArg Prod.fst a, congrArg Prod.fst b⟩) (fun ⟨a, b⟩ => ⟨congrArg Prod.fst a, congrArg Prod.fst b⟩)⟩
  · rintro ⟨n, l, h1, hu, h3⟩
    obtain ⟨ha, hb, _⟩ := hg.2.1 l (List.mem_of_getElem? h1)
    rw [endOk_iff] at ha hb
    have hport : ∀ p : Int, 1 ≤ p ∧ p ≤ 4 → p ∈ ([1, 2, 3, 4] : List Int) := fun p hp => by
      have : p = 1 ∨ p = 2 ∨ p = 3 ∨ p = 4 := by omega
      simpa using this
    rcases h3 with ⟨rfl, rfl⟩ | ⟨rfl, rfl⟩
    · refine ⟨l.p, hport _ ha.2, ?_⟩
      rw [(good_fnd hg (k := (l.a, l.p)) (e := l.B) (j := n)).2 ⟨n, l, h1, rfl, .inl ⟨rfl, rfl⟩⟩]
      simp [hu, Lk.B]
    · refine ⟨l.q, hport _ hb.2, ?_⟩
      rw [(good_fnd hg (k := (l.b, l.q)) (e := l.A) (j := n)).2 ⟨n, l, h1, rfl, .inr ⟨rfl, rfl⟩⟩]
      simp [hu, Lk.A]
/-- One comes from x to y. -/
inductive Rst (R : Int → Int → Prop) (x : Int) : Int → Prop
  | refl : Rst R x x
  | step {y z : Int} : Rst R x y → R y z → Rst R x z
theorem Rst.trans {R : Int → Int → Prop} {x y z : Int} (h1 : Rst R x y) (h2 : Rst R y z) : Rst R x z := by
  induction h2 with
  | refl => exact h1
  | step _ h ih => exact ih.step h
theorem Rst.symm {R : Int → Int → Prop} (hs : ∀ x y, R x y → R y x) {x y : Int} (h : Rst R x y) : Rst R y x := by
  induction h with
  | refl => exact .refl
  | step _ h ih => exact (Rst.refl.step (hs _ _ h)).trans ih
theorem Rst.mono {R R' : Int → Int → Prop} (hs : ∀ x y, R x y → R' x y) {x y : Int} (h : Rst R x y) : Rst R' x y := by
  induction h with
  | refl => exact .refl
  | step _ h ih => exact ih.step (hs _ _ h)

/-- Who is not met yet is put at the end. -/
def grow1 (row : List Int) (n : Int) : List Int := if n ∈ row then row else row ++ [n]
def growL (row ns : List Int) : List Int := ns.foldl grow1 row
/-- The row behind k rounds. -/
def rowP (nb : Int → List Int) (s : Int) : Nat → List Int
  | 0 => [s]
  | k + 1 => match (rowP nb s k)[k]? with
    | some x => growL (rowP nb s k) (nb x)
    | none => rowP nb s k
theorem growL_snoc (row ns : List Int) (n : Int) : growL row (ns ++ [n]) = grow1 (growL row ns) n := by simp [growL]
theorem grow1_pre (row : List Int) (n : Int) : row <+: grow1 row n := by
  unfold grow1; split
  · exact List.prefix_refl _
  · exact List.prefix_append _ _
theorem growL_pre : ∀ (ns row : List Int), row <+: growL row ns
  | [], row => List.prefix_refl _
  | n :: ns, row => (grow1_pre row n).trans (growL_pre ns (grow1 row n))
theorem mem_grow1 {row : List Int} {n x : Int} : x ∈ grow1 row n ↔ x ∈ row ∨ x = n := by
  unfold grow1; split
  · rename_i h
    exact ⟨.inl, fun h2 => h2.elim id (fun e => e ▸ h)⟩
  · simp
theorem mem_growL {x : Int} : ∀ (ns row : List Int), x ∈ growL row ns ↔ x ∈ row ∨ x ∈ ns
  | [], row => by simp [growL]
  | n :: ns, row => by
    rw [show growL row (n :: ns) = growL (grow1 row n) ns from rfl, mem_growL ns, mem_grow1]
    simp [or_assoc]
theorem grow1_nodup {row : List Int} {n : Int} (h : row.Nodup) : (grow1 row n).Nodup := by
  unfold grow1; split
  · exact h
  · rename_i h2; exact nodup_snoc.2 ⟨h, h2⟩
theorem growL_nodup : ∀ (ns row : List Int), row.Nodup → (growL row ns).Nodup
  | [], row, h => h
  | n :: ns, row, h => growL_nodup ns _ (grow1_nodup h)
section
variable {nb : Int → List Int} {s : Int}
theorem row_step {k : Nat} {x : Int} (h : (rowP nb s k)[k]? = some x) : rowP nb s (k + 1) = growL (rowP nb s k) (nb x) := by
  show (match (rowP nb s k)[k]? with | some x => _ | none => _) = _
  rw [h]
theorem row_stop {k : Nat} (h : (rowP nb s k).length ≤ k) : rowP nb s (k + 1) = rowP nb s k := by
  show (match (rowP nb s k)[k]? with | some x => _ | none => _) = _
  rw [List.getElem?_eq_none h]
theorem row_pre (k : Nat) : rowP nb s k <+: rowP nb s (k + 1) := by
  cases h : (rowP nb s k)[k]? with
  | none => rw [row_stop (List.getElem?_eq_none_iff.1 h)]; exact List.prefix_refl _
  | some x => rw [row_step h]; exact growL_pre _ _
theorem row_pre_le {k m : Nat} (h : k ≤ m) : rowP nb s k <+: rowP nb s m := by
  induction h with
  | refl => exact List.prefix_refl _
  | step _ ih => exact ih.trans (row_pre _)
theorem row_nodup (k : Nat) : (rowP nb s k).Nodup := by
  induction k with
  | zero => simp [rowP]
  | succ k ih =>
    cases h : (rowP nb s k)[k]? with
    | none => rw [row_stop (List.getElem?_eq_none_iff.1 h)]; exact ih
    | some x => rw [row_step h]; exact growL_nodup _ _ ih
theorem row_sound (k : Nat) : ∀ x ∈ rowP nb s k, Rst (fun a b => b ∈ nb a) s x := by
  induction k with
  | zero => intro x hx; simp [rowP] at hx; subst hx; exact .refl
  | succ k ih =>
    intro x hx
    cases h : (rowP nb s k)[k]? with
    | none => rw [row_stop (List.getElem?_eq_none_iff.1 h)] at hx; exact ih x hx
    | some y =>
      rw [row_step h, mem_growL] at hx
      rcases hx with hx | hx
      · exact ih x hx
      · exact (ih y (List.mem_of_getElem? h)).step hx
theorem row_start (k : Nat) : s ∈ rowP nb s k := (row_pre_le (Nat.zero_le k)).subset (by simp [rowP])
theorem pre_get {α : Type} {a b : List α} (h : a <+: b) {j : Nat} {x : α} (hj : a[j]? = some x) : b[j]? = some x := by
  obtain ⟨t, rfl⟩ := h
  rw [List.getElem?_append_left (List.getElem?_eq_some_iff.1 hj).1]; exact hj
/-- All that stand ahead of place k have been gone through. -/
theorem row_closed (k : Nat) : ∀ j x, j < k → (rowP nb s k)[j]? = some x → ∀ y ∈ nb x, y ∈ rowP nb s k := by
  induction k with
  | zero => intro j x hj; omega
  | succ k ih =>
    intro j x hj hx y hy
    have hpre := row_pre (nb := nb) (s := s) k
    rcases Nat.lt_or_ge j (rowP nb s k).length with hl | hl
    · have hx' : (rowP nb s k)[j]? = some x := by
        rw [List.getElem?_eq_getElem hl, ← hx]
        exact (pre_get hpre (List.getElem?_eq_getElem hl)).symm
      rcases Nat.lt_or_ge j k with hjk | hjk
      · exact hpre.subset (ih j x hjk hx' y hy)
      · obtain rfl : j = k := by omega
        rw [row_step hx', mem_growL]
        exact .inr hy
    · rw [row_stop (by omega), List.getElem?_eq_none hl] at hx
      cases hx
variable {S : Int}
theorem row_in (hn : ∀ x y, y ∈ nb x → 1 ≤ y ∧ y ≤ S) (hs : 1 ≤ s ∧ s ≤ S) (k : Nat) : ∀ x ∈ rowP nb s k, 1 ≤ x ∧ x ≤ S := by
  intro x hx
  have := row_sound k x hx
  cases this with
  | refl => exact hs
  | step _ h => exact hn _ _ h
theorem nodup_int {n : Nat} {l : List Int} (hn : l.Nodup) (h : ∀ x ∈ l, 1 ≤ x ∧ x ≤ (n : Int)) : l.length ≤ n := by
  have := nodup_lt n (l.map (fun x => (x - 1).toNat)) (by
    have key : ∀ l : List Int, l.Nodup → (∀ x ∈ l, 1 ≤ x ∧ x ≤ (n : Int)) → (l.map (fun x => (x - 1).toNat)).Nodup := by
      intro l
      induction l with
      | nil => intros; simp
      | cons x l ih =>
        intro h1 h2
        rw [List.nodup_cons] at h1
        rw [List.map_cons, List.nodup_cons]
        refine ⟨fun hx => ?_, ih h1.2 (fun e he => h2 e (by simp [he]))⟩
        obtain ⟨y, hy, e⟩ := List.mem_map.1 hx
        have ha := h2 x (by simp)
        have hb := h2 y (by simp [hy])
        have : y = x := by omega
        subst this
        exact h1.1 hy
    exact key l hn h) (fun x hx => by
      obtain ⟨y, hy, rfl⟩ := List.mem_map.1 hx
      have := h y hy
      omega)
  rwa [List.length_map] at this
theorem row_len (hn : ∀ x y, y ∈ nb x → 1 ≤ y ∧ y ≤ S) (hs : 1 ≤ s ∧ s ≤ S) (h6 : S ≤ 6) (k : Nat) : (rowP nb s k).length ≤ 6 :=
  nodup_int (n := 6) (row_nodup k) (fun x hx => by have := row_in hn hs k x hx; omega)
theorem row_len' (hn : ∀ x y, y ∈ nb x → 1 ≤ y ∧ y ≤ S) (hs : 1 ≤ s ∧ s ≤ S) (k : Nat) : (rowP nb s k).length ≤ S.toNat :=
  nodup_int (n := S.toNat) (row_nodup k) (fun x hx => by have := row_in hn hs k x hx; omega)
theorem row_all (hn : ∀ x y, y ∈ nb x → 1 ≤ y ∧ y ≤ S) (hs : 1 ≤ s ∧ s ≤ S) (h6 : S ≤ 6) {x : Int} : x ∈ rowP nb s 6 ↔ Rst (fun a b => b ∈ nb a) s x := by
  refine ⟨row_sound 6 x, fun h => ?_⟩
  induction h with
  | refl => exact row_start 6
  | step h1 h2 ih =>
    obtain ⟨j, hj⟩ := List.mem_iff_getElem?.1 ih
    have hl := row_len hn hs h6 6
    have hjl := (List.getElem?_eq_some_iff.1 hj).1
    exact row_closed 6 j _ (by omega) hj _ h2
/-- Where the row ends, it stays. -/
theorem row_same {k m : Nat} (h : (rowP nb s k).length ≤ k) (hm : k ≤ m) : rowP nb s m = rowP nb s k := by
  induction hm with
  | refl => rfl
  | step hm ih => rw [row_stop (by rw [ih]; exact Nat.le_trans h hm), ih]
theorem row_end (hn : ∀ x y, y ∈ nb x → 1 ≤ y ∧ y ≤ S) (hs : 1 ≤ s ∧ s ≤ S) (h6 : S ≤ 6) {k : Nat} (h : (rowP nb s k).length ≤ k) : rowP nb s k = rowP nb s 6 := by
  rcases Nat.le_total k 6 with hk | hk
  · exact (row_same h hk).symm
  · exact row_same (row_len hn hs h6 6) hk
end
/-- The numbers from 1 to S. -/
def upto (S : Int) : List Int := (List.range S.toNat).map fun (i : Nat) => (i : Int) + 1
theorem mem_upto {S x : Int} : x ∈ upto S ↔ 1 ≤ x ∧ x ≤ S := by
  unfold upto
  simp only [List.mem_map, List.mem_range]
  constructor
  · rintro ⟨n, h1, rfl⟩; omega
  · intro h; exact ⟨(x - 1).toNat, by omega, by omega⟩
theorem upto_len (S : Int) : (upto S).length = S.toNat := by simp [upto]
theorem upto_sorted (S : Int) : (upto S).Pairwise (· < ·) := by
  unfold upto
  rw [List.pairwise_map]
  exact List.Pairwise.imp (by intro a b h; omega) List.pairwise_lt_range
/-- Where one comes to, rising. -/
def reachP (S : Int) (ls : List Lk) (up : List Bool) (s : Int) : List Int := match endsP S ls with
  | none => []
  | some es => if 1 ≤ s ∧ s ≤ S then (upto S).filter (fun x => decide (x ∈ rowP (nbP es up) s 6)) else []
def wholeP (S : Int) (ls : List Lk) (up : List Bool) : Bool := match endsP S ls with
  | none => false
  | some es => decide (((rowP (nbP es up) 1 6).length : Int) = S)
theorem nb_in {S : Int} {ls : List Lk} (hg : Good S ls) (up : List Bool) : ∀ x y, y ∈ nbP (entries ls 0) up x → 1 ≤ y ∧ y ≤ S := fun x y h => adj_end hg ((nb_adj hg).1 h)
theorem reach_bad {S : Int} {ls : List Lk} (h : ¬ Good S ls) (up : List Bool) (s : Int) : reachP S ls up s = [] := by
  unfold reachP; rw [endsP_bad h]
theorem reach_out {S : Int} {ls : List Lk} (up : List Bool) {s : Int} (h : ¬ (1 ≤ s ∧ s ≤ S)) : reachP S ls up s = [] := by
  unfold reachP
  cases endsP S ls with
  | none => rfl
  | some es => exact if_neg h
theorem reach_good {S : Int} {ls : List Lk} (hg : Good S ls) (up : List Bool) {s : Int} (hs : 1 ≤ s ∧ s ≤ S) : reachP S ls up s = (upto S).filter (fun x => decide (x ∈ rowP (nbP (entries ls 0) up) s 6)) := by
  unfold reachP
  rw [endsP_good hg]
  exact if_pos hs
theorem row_rst {S : Int} {ls : List Lk} (hg : Good S ls) (up : List Bool) {s : Int} (hs : 1 ≤ s ∧ s ≤ S) {x : Int} : x ∈ rowP (nbP (entries ls 0) up) s 6 ↔ Rst (Adj ls up) s x := by
  rw [row_all (nb_in hg up) hs hg.1.2]
  constructor
  · exact Rst.mono (fun a b h => (nb_adj hg).1 h)
  · exact Rst.mono (fun a b h => (nb_adj hg).2 h)
theorem reach_iff {S : Int} {ls : List Lk} (hg : Good S ls) (up : List Bool) {s : Int} (hs : 1 ≤ s ∧ s ≤ S) {x : Int} : x ∈ reachP S ls up s ↔ Rst (Adj ls up) s x := by
  rw [reach_good hg up hs, List.mem_filter, mem_upto, decide_eq_true_iff, row_rst hg up hs]
  constructor
  · exact fun h => h.2
  · intro h
    refine ⟨?_, h⟩
    cases h with
    | refl => exact hs
    | step _ h => exact adj_end hg h
theorem reach_mem {S : Int} {ls : List Lk} {up : List Bool} {s x : Int} (h : x ∈ reachP S ls up s) : Good S ls ∧ (1 ≤ s ∧ s ≤ S) ∧ (1 ≤ x ∧ x ≤ S) := by
  by_cases hg : Good S ls
  · by_cases hs : 1 ≤ s ∧ s ≤ S
    · rw [reach_good hg up hs, List.mem_filter, mem_upto] at h
      exact ⟨hg, hs, h.1⟩
    · rw [reach_out up hs] at h; cases h
  · rw [reach_bad hg] at h; cases h
theorem perm_filter_sorted {l : List Int} {S : Int} (hn : l.Nodup) (h : ∀ x ∈ l, 1 ≤ x ∧ x ≤ S) : l.Perm ((upto S).filter (fun x => decide (x ∈ l))) := by
  refine (List.perm_ext_iff_of_nodup hn (List.Pairwise.filter _ ((upto_sorted S).imp (fun h => by omega)))).2 (fun x => ?_)
  rw [List.mem_filter, mem_upto, decide_eq_true_iff]
  exact ⟨fun hx => ⟨h x hx, hx⟩, fun hx => hx.2⟩
/-- What is in order, and has the same members, is the same. -/
theorem sorted_perm_eq : ∀ {a b : List Int}, a.Pairwise (· ≤ ·) → b.Pairwise (· ≤ ·) → a.Perm b → a = b
  | [], b, _, _, h => (List.nil_perm.1 h).symm ▸ rfl
  | x :: a, [], _, _, h => absurd h.length_eq (by simp)
  | x :: a, y :: b, ha, hb, h => by
    rw [List.pairwise_cons] at ha hb
    have hx : x ∈ y :: b := h.subset (by simp)
    have hy : y ∈ x :: a := h.symm.subset (by simp)
    have e : x = y := by
      rcases List.mem_cons.1 hx with e | e
      · exact e
      · rcases List.mem_cons.1 hy with e2 | e2
        · exact e2.symm
        · have h1 := hb.1 x e
          have h2 := ha.1 y e2
          omega
    subst e
    rw [sorted_perm_eq ha.2 hb.2 (List.Perm.cons_inv h)]
theorem reach_sorted (S : Int) (p : Int → Bool) : ((upto S).filter p).Pairwise (· ≤ ·) := List.Pairwise.filter _ ((upto_sorted S).imp (fun h => by omega))
theorem whole_reach {S : Int} {ls : List Lk} (up : List Bool) (hg : Good S ls) : wholeP S ls up = decide (((reachP S ls up 1).length : Int) = S) := by
  have h1 : (1 : Int) ≤ 1 ∧ (1 : Int) ≤ S := ⟨by omega, hg.1.1⟩
  unfold wholeP
  rw [endsP_good hg, reach_good hg up h1]
  have := (perm_filter_sorted (S := S) (row_nodup (nb := nbP (entries ls 0) up) (s := 1) 6) (row_in (nb_in hg up) h1 6)).length_eq
  show decide (_ = _) = _
  rw [this]
theorem whole_bad {S : Int} {ls : List Lk} (up : List Bool) (h : ¬ Good S ls) : wholeP S ls up = false := by
  unfold wholeP; rw [endsP_bad h]
theorem four_at {k : Nat} (h : k < 4) : ([1, 2, 3, 4] : List Int)[k]? = some ((k : Int) + 1) := by
  match k, h with
  | 0, _ => rfl
  | 1, _ => rfl
  | 2, _ => rfl
  | 3, _ => rfl
theorem ports_step {S : Int} {ls : List Lk} {s : Int} {k : Nat} (h : k < 4) : portsTo S ls s (k + 1) = portsTo S ls s k ++ if (peerP S ls (s, (k : Int) + 1)).isSome then [(k : Int) + 1] else [] := by
  unfold portsTo
  rw [take_snocL (four_at h), List.filter_append]
  cases hp : (peerP S ls (s, (k : Int) + 1)).isSome <;> simp [hp]
theorem nb_step {es : Me} {up : List Bool} {s : Int} {k : Nat} (h : k < 4) : nbTo es up s (k + 1) = nbTo es up s k ++ (match fnd es (s, (k : Int) + 1) with | some (e, i) => if upP up i then [e.1] else [] | none => []) := by
  unfold nbTo
  rw [take_snocL (four_at h), List.flatMap_append]
  simp
theorem ports_len (S : Int) (ls : List Lk) (s : Int) (k : Nat) : (portsTo S ls s k).length ≤ 4 := by
  unfold portsTo
  refine Nat.le_trans (List.length_filter_le _ _) ?_
  rw [List.length_take]
  show min k 4 ≤ 4
  omega
theorem nb_len {es : Me} {up : List Bool} {s : Int} {k : Nat} (h : k ≤ 4) : (nbTo es up s k).length ≤ k := by
  induction k with
  | zero => simp [nbTo]
  | succ k ih =>
    rw [nb_step (by omega), List.length_append]
    have := ih (by omega)
    have h2 : (match fnd es (s, (k : Int) + 1) with | some (e, i) => if upP up i then [e.1] else [] | none => []).length ≤ 1 := by
      cases fnd es (s, (k : Int) + 1) with
      | none => simp
      | some v => obtain ⟨e, i⟩ := v; dsimp only; split <;> simp
    omega
theorem growL_len : ∀ (ns row : List Int), (growL row ns).length ≤ row.length + ns.length
  | [], row => by simp [growL]
  | n :: ns, row => by
    have := growL_len ns (grow1 row n)
    have h2 : (grow1 row n).length ≤ row.length + 1 := by unfold grow1; split <;> simp
    show (growL (grow1 row n) ns).length ≤ _
    simp only [List.length_cons]
    omega
end Go.Proofs.Ytlmonnggklfniaa.Oct
