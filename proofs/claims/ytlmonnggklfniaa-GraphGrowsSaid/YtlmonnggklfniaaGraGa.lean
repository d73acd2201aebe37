/- Rows of bools that a call owns; what lies there in GraphGrows. -/
import Derived.Test.YtlmonnggklfniaaGraPw
import Derived.Test.YtlmonnggklfniaaGraO
namespace Go.Proofs.Ytlmonnggklfniaa.Oct
open Go.RowKit
set_option linter.unusedVariables false
set_option linter.unusedSimpArgs false

def bsC (T : Int → Bool) (m : Nat) : List Bool := (List.range m).map fun (i : Nat) => T i
theorem bsC_len (T : Int → Bool) (m : Nat) : (bsC T m).length = m := by simp [bsC]
theorem bsC_map (T : Int → Bool) (m : Nat) : (bsC T m).map Value.bool = inC T m := by simp [bsC, inC]
theorem bsC_up (T : Int → Bool) (m i : Nat) (h : i < m) : upP (bsC T m) i = T i := by
  unfold upP
  rw [bsC_len, if_neg (by omega)]
  rw [show (i : Int).toNat = i by omega, List.getD_eq_getElem?_getD]
  simp [bsC, h]
theorem inC_put (T : Int → Bool) (m i : Nat) (h : i < m) (b : Bool) : (inC T m).set i (.bool b) = inC (fun x => if x = (i : Int) then b else T x) m := by
  apply List.ext_getElem?
  intro j
  rw [List.getElem?_set]
  by_cases hj : j < m
  · rw [inC_at _ m j hj, inC_at _ m j hj, inC_len]
    by_cases e : i = j
    · subst e; simp [h]
    · rw [if_neg e]
      have : ¬ (j : Int) = i := by omega
      simp [this]
  · have h1 : ∀ r, (inC r m)[j]? = none := fun r => List.getElem?_eq_none (by rw [inC_len]; omega)
    rw [h1, h1, if_neg (by omega)]
/-- The value v is a slice of bools that the call owns. -/
def Ob (w : World) (base : Nat) (v : Value) (n : Nat) (bs : List Bool) : Prop := w.ownsRow base 4 1 v n (bs.map Value.bool)
section
variable {w w' : World} {base n : Nat} {v : Value} {bs : List Bool}
theorem Ob.len (h : Ob w base v n bs) : bs.length = n := by have := h.1; simpa using this
theorem Ob.form (h : Ob w base v n bs) : ∃ A c, v = .slice A n c ∧ n ≤ c ∧ c ≤ maxLen ∧ (A = none → c = 0) ∧ (∀ a, A = some a → ∃ g, a = ⟨g, 0, none⟩ ∧ base ≤ g ∧ g < w.heap.size) := by
  rcases h.2 with ⟨rfl, rfl⟩ | ⟨g, cap, cur, rfl, hbg, hg, hnc, hcm, _⟩
  · exact ⟨none, 0, rfl, Nat.le_refl _, Nat.zero_le _, fun _ => rfl, fun a h => by simp at h⟩
  · exact ⟨some ⟨g, 0, none⟩, cap, rfl, by omega, hcm, fun h => by simp at h, fun a h => ⟨g, by simpa using h.symm, hbg, (Array.getElem?_eq_some_iff.1 hg).1⟩⟩
theorem Ob.bl {A : Option Addr} {c : Nat} (h : Ob w base (.slice A n c) n bs) : Bl w w.heap.size A n c bs := by
  obtain ⟨A', c', e, h1, h2, h3, h4⟩ := h.form
  injection e with e1 e2 e3
  subst e1 e3
  refine ⟨h.len, h1, h2, fun hn => ?_⟩
  obtain ⟨g, cap, hv, _, hlt⟩ := World.ownsRow.form h hn
  injection hv with hA _ _
  subst hA
  refine ⟨g, 0, rfl, hlt, fun j hj => ?_⟩
  have hl := h.len
  have key := World.ownsRow.cells h (g := g) rfl j (.bool (bs.getD j false)) (by rw [List.getElem?_map, List.getElem?_eq_getElem (by omega), List.getD_eq_getElem?_getD, List.getElem?_eq_getElem (by omega)]; rfl)
  simp only [add_addr] at key
  exact key
theorem Ob.below (h : Ob w base v n bs) (hb : Below w.heap.size w w') : Ob w' base v n bs := by
  refine ⟨h.1, ?_⟩
  rcases h.2 with h2 | ⟨g, cap, cur, e, hbg, hg, r⟩
  · exact .inl h2
  · exact .inr ⟨g, cap, cur, e, hbg, (hb.block g (Array.getElem?_eq_some_iff.1 hg).1).trans hg, r⟩
theorem Ob.keep (h : Ob w base v n bs) {m : Nat} (hm : m < base) (hg : w.grownBy w' (some m)) : Ob w' base v n bs := by
  refine ⟨h.1, ?_⟩
  rcases h.2 with h2 | ⟨g, cap, cur, e, hbg, hk, r⟩
  · exact .inl h2
  · exact .inr ⟨g, cap, cur, e, hbg, (hg.block g (Array.getElem?_eq_some_iff.1 hk).1 (fun e2 => by have := Option.some.inj e2; omega)).trans hk, r⟩
end
/-- append(x, y...) of bools, x the call's own: as an equation. -/
theorem run_appendB {w : World} (ty : TypeId) {base B : Nat} {v : Value} {n m c : Nat} {A : Option Addr} {l l2 : List Bool} (hown : Ob w base v n l) (hr : Bl w B A m c l2) (hA : A ≠ none)
    (hsz : n + m ≤ 1000000) (hbase : base ≤ w.heap.size) :
    ∃ A' c' w', (Builtin.append_ #[36, 36] ty #[v, .slice A m c]).run Try.prog w = .ok (.slice A' (n + m) c') w' ∧ Ob w' base (.slice A' (n + m) c') (n + m) (l ++ l2) ∧ Below base w w' ∧ w.grownBy w' v.ownBlock := by
  obtain ⟨i0, hi, hz0, hz1, hz2⟩ := info_parts info_bool1
  rcases A with _ | ad
  · exact absurd rfl hA
  · have hcells : ∀ j u, (l2.map Value.bool)[j]? = some u → w.cell? (ad.add j) = some u := by
      intro j u hu
      rw [List.getElem?_map] at hu
      obtain ⟨x, hx, hxu⟩ := Option.map_eq_some_iff.1 hu
      have hj : j < m := by have := (List.getElem?_eq_some_iff.1 hx).1; have := hr.1; omega
      obtain ⟨b, off, e, _, hcl⟩ := hr.2.2.2 (by omega)
      have e := Option.some.inj e
      subst e
      rw [add_addr, ← hxu, hcl j hj, List.getD_eq_getElem?_getD, hx]; rfl
    obtain ⟨v', w', hrun, h2, h3, h4, h5⟩ := run_append_own_at (P := Try.prog) w base 36 ty 4 i0 _ 1 1 Try.underlying36 hi hz0 hz1 hz2 rfl (by omega) v n _ hown ad m c (l2.map Value.bool) (by rw [List.length_map, hr.1]; omega) hcells
      (fun u hu => by obtain ⟨x, _, rfl⟩ := List.mem_map.1 hu; rfl) (by unfold maxLen; omega) (by omega) hbase
    have hown' : Ob w' base v' (n + m) (l ++ l2) := by unfold Ob; rw [List.map_append]; exact h2
    obtain ⟨A', c', e, _⟩ := hown'.form
    subst e
    exact ⟨A', c', w', hrun, hown', (Below.refl base w).grown h3 hbase fun k hk => (World.ownsRow.lt hown k hk).1, h3⟩
theorem Pw.grown {w : World} {S : Int} {A : Option Addr} {n c : Nat} {ls : List Lk} {b2 : Option Addr} {n2 c2 : Nat} {up : List Bool} {X Y : World} {MB : Nat} {cs : List Value} (h : Pw w S A n c ls b2 n2 c2 up X) (hm : Vb 4 X MB cs) (hlo : w.heap.size < MB) (hg : X.grownBy Y (some MB)) : Pw w S A n c ls b2 n2 c2 up Y :=
  ⟨h.g.grown hg (by omega), ol_other h.l hm (by decide) hg, h.u.below (below_grown (Below.refl _ _) hg h.b.size (by omega)), below_grown h.b hg h.b.size (by omega)⟩
/-- What lies there in GraphGrows. -/
structure Gw (w : World) (S : Int) (A : Option Addr) (n c : Nat) (ls : List Lk) (MB : Nat) (A9 : Option Addr) (c9 : Nat) (T T' : Int → Bool) (X : World) : Prop where
  g : Vb 24 X w.heap.size [.int .i64 S, .slice A n c]
  l : Ol X w.heap.size (.slice A n c) n ls
  m : Vb 4 X MB (inC T' n)
  f : Ob X (MB + 1) (.slice A9 n c9) n (bsC T n)
  b : Below w.heap.size w X
  k : n ≤ 12
section
variable {w : World} {S : Int} {A : Option Addr} {n c : Nat} {ls : List Lk} {MB : Nat} {A9 : Option Addr} {c9 : Nat} {T T' : Int → Bool} {X Y : World}
theorem Gw.step (h : Gw w S A n c ls MB A9 c9 T T' X) (hb : Below X.heap.size X Y) : Gw w S A n c ls MB A9 c9 T T' Y := ⟨h.g.below hb h.g.lt, h.l.below hb, h.m.below hb h.m.lt, h.f.below hb, h.b.trans (hb.mono h.b.size), h.k⟩
theorem Gw.cells (h : Gw w S A n c ls MB A9 c9 T T' X) : X.cell? ⟨w.heap.size, 0, none⟩ = some (.int .i64 S) ∧ X.cell? ⟨w.heap.size, 1, none⟩ = some (.slice A n c) := ⟨h.g.cell 0 rfl, h.g.cell 1 rfl⟩
theorem Gw.few (h : Gw w S A n c ls MB A9 c9 T T' X) : Bl X X.heap.size A9 n c9 (bsC T n) := h.f.bl
theorem Gw.more (h : Gw w S A n c ls MB A9 c9 T T' X) : Bl X X.heap.size (some ⟨MB, 0, none⟩) n n (bsC T' n) := by
  have hv : Vb 4 X MB ((bsC T' n).map Value.bool) := by rw [bsC_map]; exact h.m
  have := bl_vb (B := X.heap.size) hv h.m.lt (by rw [bsC_len]; have := h.k; unfold maxLen; omega)
  rwa [bsC_len] at this
theorem Gw.at_ (h : Gw w S A n c ls MB A9 c9 T T' X) {i : Nat} (hi : i < n) : X.cell? ⟨MB, i, none⟩ = some (.bool (T' i)) := h.m.cell i (inC_at T' n i hi)
end
/-- More links up: one comes further. -/
theorem adj_more {ls : List Lk} {n : Nat} (hl : ls.length = n) {T T' : Int → Bool} (hT : ∀ x, T x = true → T' x = true) {x y : Int} (h : Adj ls (bsC T n) x y) : Adj ls (bsC T' n) x y := by
  obtain ⟨i, l, h1, h2, h3⟩ := h
  have hi : i < n := by have := (List.getElem?_eq_some_iff.1 h1).1; omega
  rw [bsC_up T n i hi] at h2
  exact ⟨i, l, h1, by rw [bsC_up T' n i hi]; exact hT _ h2, h3⟩
theorem reach_more {S : Int} {ls : List Lk} {n : Nat} (hl : ls.length = n) {T T' : Int → Bool} (hT : ∀ x, T x = true → T' x = true) {s x : Int} (h : x ∈ reachP S ls (bsC T n) s) : x ∈ reachP S ls (bsC T' n) s := by
  obtain ⟨hg, hs, _⟩ := reach_mem h
  exact (reach_iff hg _ hs).2 (((reach_iff hg _ hs).1 h).mono fun a b hab => adj_more hl hT hab)
theorem reach_link {S : Int} {ls : List Lk} {n i : Nat} (hl : ls.length = n) {T : Int → Bool} (hg : Good S ls) {l : Lk} (h : ls[i]? = some l) (hT : T i = true) : l.b ∈ reachP S ls (bsC T n) l.a := by
  have hi : i < n := by have := (List.getElem?_eq_some_iff.1 h).1; omega
  have ha := (hg.2.1 l (List.mem_of_getElem? h)).1
  rw [endOk_iff] at ha
  exact (reach_iff hg _ ha.1).2 (Rst.refl.step ⟨i, l, h, by rw [bsC_up T n i hi]; exact hT, .inl ⟨rfl, rfl⟩⟩)
end Go.Proofs.Ytlmonnggklfniaa.Oct
