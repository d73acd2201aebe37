/- Rows of frames; Contracts of layer 11 (lane): All, New; eq of two rows. -/
import Derived.Test.YtdhidgcjpeafnaaLanD
namespace Go.Proofs.Ytdhidgcjpeafnaa.Oct
open Go.RowKit
set_option linter.unusedVariables false
set_option linter.unusedSimpArgs false
/-- A row of frames that the call owns, in a block from base on. -/
def Orw (w : World) (base : Nat) (v : Value) (n : Nat) (fs : List FrV) : Prop := w.ownsRow base 27 1 v n (fs.map FrV.val)
/-- A slice that reads as frames, below block B. -/
def Rr (w : World) (B : Nat) (A : Option Addr) (n c : Nat) (fs : List FrV) : Prop :=
  fs.length = n ∧ n ≤ c ∧ c ≤ maxLen ∧ (A = none → c = 0) ∧ (0 < n → ∃ b off, A = some ⟨b, off, none⟩ ∧ b < B ∧ ∀ (j : Nat) (f : FrV), fs[j]? = some f → w.cell? ⟨b, off + j, none⟩ = some f.val)
theorem info_sl8 : (Try.prog.info? 27).map (fun i => (i.zero, i.size, i.bytes)) = some (some (.slice none 0 0), 1, 24) := by kernel_rfl
section
variable {w w' : World} {base B n : Nat} {v : Value} {fs gs : List FrV}
theorem Orw.len (h : Orw w base v n fs) : fs.length = n := by have := h.1; simpa using this
theorem Orw.nil0 (w : World) (base : Nat) : Orw w base (.slice none 0 0) 0 [] := World.ownsRow_nil w base _ 1
theorem Orw.form (h : Orw w base v n fs) : ∃ A c, v = .slice A n c ∧ n ≤ c ∧ c ≤ maxLen ∧ (A = none → c = 0) ∧ (∀ a, A = some a → ∃ g, a = ⟨g, 0, none⟩ ∧ base ≤ g ∧ g < w.heap.size) := by
  rcases h.2 with ⟨rfl, rfl⟩ | ⟨g, cap, cur, rfl, hbg, hg, hnc, hcm, _⟩
  · exact ⟨none, 0, rfl, Nat.le_refl _, Nat.zero_le _, fun _ => rfl, fun a h => by simp at h⟩
  · exact ⟨some ⟨g, 0, none⟩, cap, rfl, hnc, hcm, fun h => by simp at h, fun a h => ⟨g, by simpa using h.symm, hbg, (Array.getElem?_eq_some_iff.1 hg).1⟩⟩
theorem Orw.lt (h : Orw w base v n fs) : ∀ k, v.ownBlock = some k → base ≤ k ∧ k < w.heap.size := World.ownsRow.lt h
theorem Orw.typed (h : Orw w base v n fs) : ∀ k, v.ownBlock = some k → ∃ cur, w.heap[k]? = some (.cells cur 27 (0, 0)) := by
  intro k hk
  rcases h.2 with ⟨rfl, _⟩ | ⟨g, cap, cur, rfl, hbg, hg, _⟩
  · simp [Value.ownBlock] at hk
  · simp [Value.ownBlock] at hk
    subst hk
    exact ⟨cur, hg⟩
theorem Orw.lower (h : Orw w base v n fs) {b : Nat} (hb : b ≤ base) : Orw w b v n fs := by
  refine ⟨h.1, ?_⟩
  rcases h.2 with h2 | ⟨g, cap, cur, e, hbg, r⟩
  · exact .inl h2
  · exact .inr ⟨g, cap, cur, e, by omega, r⟩
theorem Orw.stay {S : Nat → Prop} (h : Orw w base v n fs) (hc : Ch S w w') (hs : ∀ k, v.ownBlock = some k → ¬ S k) : Orw w' base v n fs := by
  refine ⟨h.1, ?_⟩
  rcases h.2 with h2 | ⟨g, cap, cur, e, hbg, hg, r⟩
  · exact .inl h2
  · exact .inr ⟨g, cap, cur, e, hbg, (hc.block g (Array.getElem?_eq_some_iff.1 hg).1 (hs g (by rw [e]; rfl))).trans hg, r⟩
theorem Orw.below (h : Orw w base v n fs) (hb : Below w.heap.size w w') : Orw w' base v n fs := h.stay (S := fun _ => False) (.of_below hb) (fun _ _ e => e)
theorem Orw.rr {A : Option Addr} {c : Nat} (h : Orw w base (.slice A n c) n fs) : Rr w w.heap.size A n c fs := by
  obtain ⟨A', c', e, h1, h2, h3, h4⟩ := h.form
  injection e with e1 e2 e3
  subst e1 e3
  refine ⟨h.len, h1, h2, h3, fun hn => ?_⟩
  obtain ⟨g, cap, hv, _, hlt⟩ := World.ownsRow.form h hn
  injection hv with hA _ _
  subst hA
  refine ⟨g, 0, rfl, hlt, fun j f hj => ?_⟩
  have := World.ownsRow.cells h (g := g) rfl j f.val (by rw [List.getElem?_map, hj]; rfl)
  rw [← add_addr]; exact this
theorem Rr.len {A : Option Addr} {c : Nat} (h : Rr w B A n c fs) : fs.length = n := h.1
theorem Rr.le {A : Option Addr} {c : Nat} (h : Rr w B A n c fs) : n ≤ c := h.2.1
theorem Rr.max {A : Option Addr} {c : Nat} (h : Rr w B A n c fs) : (n : Int) ≤ 9223372036854775807 := by have := h.2.1; have := h.2.2.1; unfold maxLen at this; omega
theorem Rr.at_ {A : Option Addr} {c : Nat} (h : Rr w B A n c fs) (hn : 0 < n) : ∃ b off, A = some ⟨b, off, none⟩ ∧ b < B ∧ ∀ (j : Nat) (f : FrV), fs[j]? = some f → w.cell? ⟨b, off + j, none⟩ = some f.val := h.2.2.2.2 hn
theorem Rr.below {A : Option Addr} {c : Nat} (h : Rr w B A n c fs) (hb : Below B w w') : Rr w' B A n c fs :=
  ⟨h.1, h.2.1, h.2.2.1, h.2.2.2.1, fun hn => by
    obtain ⟨b, off, e, hlt, hc⟩ := h.at_ hn
    exact ⟨b, off, e, hlt, fun j f hj => (hb.cell (p := ⟨b, _, none⟩) hlt).trans (hc j f hj)⟩⟩
theorem Rr.nil0 (w : World) (B : Nat) : Rr w B none 0 0 [] := ⟨rfl, Nat.le_refl _, Nat.zero_le _, fun _ => rfl, fun h => absurd h (Nat.lt_irrefl 0)⟩
/-- A piece of one. -/
theorem Rr.fore {A : Option Addr} {c : Nat} (h : Rr w B A n c fs) (m : Nat) (hm : m ≤ n) : Rr w B A m c (fs.take m) :=
  ⟨by rw [List.length_take, h.len]; omega, Nat.le_trans hm h.2.1, h.2.2.1, h.2.2.2.1, fun hn => by
    obtain ⟨b, off, e, hlt, hc⟩ := h.at_ (by omega)
    refine ⟨b, off, e, hlt, fun j f hj => hc j f ?_⟩
    rw [List.getElem?_take] at hj
    split at hj
    · exact hj
    · simp at hj⟩
/-- A list literal of frames. -/
theorem rr_lit (w : World) (fs : List FrV) (hB : w.heap.size < B) (hl : fs.length ≤ 1000000000) : Rr (w.alloc (.cells (fs.map FrV.val).toArray 27)) B (some ⟨w.heap.size, 0, none⟩) fs.length fs.length fs :=
  ⟨rfl, Nat.le_refl _, by unfold maxLen; omega, fun e => by simp at e, fun hn => ⟨w.heap.size, 0, rfl, hB, fun j f hj => by
    rw [Nat.zero_add, World.cell?_alloc_new]
    simp [hj]⟩⟩
theorem orw_lit (w : World) (fs : List FrV) (hb : base ≤ w.heap.size) (hl : fs.length ≤ 1000000000) : Orw (w.alloc (.cells (fs.map FrV.val).toArray 27)) base (.slice (some ⟨w.heap.size, 0, none⟩) fs.length fs.length) fs.length fs := by
  have := World.ownsRow_lit (base := base) (e := 27) (size := 1) w (fs.map FrV.val).toArray fs.length hb (by unfold maxLen; omega) (by simp)
  simpa [Orw] using this
end
/-- append(x, y...) of frames, x the call's own: as an equation. -/
theorem run_appendF {w : World} (ty : TypeId) {base B : Nat} {v : Value} {n m c : Nat} {A : Option Addr} {l l2 : List FrV} (hown : Orw w base v n l) (hr : Rr w B A m c l2)
    (hsz : n + m ≤ 1000000000) (hbase : base ≤ w.heap.size) :
    ∃ A' c' w', (Builtin.append_ #[35, 35] ty #[v, .slice A m c]).run Try.prog w = .ok (.slice A' (n + m) c') w' ∧ Orw w' base (.slice A' (n + m) c') (n + m) (l ++ l2) ∧ Ch (fun k => v.ownBlock = some k) w w' ∧ ((Value.slice A' (n + m) c').ownBlock = v.ownBlock ∨ ∀ k, (Value.slice A' (n + m) c').ownBlock = some k → w.heap.size ≤ k) := by
  obtain ⟨i0, hi, hz0, hz1, hz2⟩ := info_parts info_sl8
  rcases A with _ | ad
  · have hc : c = 0 := hr.2.2.2.1 rfl
    have hm : m = 0 := by have := hr.le; omega
    subst hc hm
    have hl2 : l2 = [] := List.eq_nil_of_length_eq_zero hr.len
    subst hl2
    obtain ⟨A', c', e, _⟩ := hown.form
    subst e
    exact ⟨A', c', w, run_append_owned_none (P := Try.prog) (w := w) base 35 ty 27 i0 1 Try.underlying35 hi _ n _ hown, by simpa using hown, Ch.refl _ _, .inl rfl⟩
  · have hcells : ∀ j u, (l2.map FrV.val)[j]? = some u → w.cell? (ad.add j) = some u := by
      intro j u hu
      rw [List.getElem?_map] at hu
      obtain ⟨f, hf, rfl⟩ := Option.map_eq_some_iff.1 hu
      have hjl := (List.getElem?_eq_some_iff.1 hf).1
      obtain ⟨b, off, e, _, hc⟩ := hr.at_ (by have := hr.len; omega)
      have e := Option.some.inj e
      subst e
      rw [add_addr]
      exact hc j f hf
    obtain ⟨v', w', hrun, h2, h3, h4, h5⟩ := run_append_own_at (P := Try.prog) w base 35 ty 27 i0 _ 1 24 Try.underlying35 hi hz0 hz1 hz2 rfl (by omega) v n _ hown ad m c (l2.map FrV.val) (by simp [hr.len]) hcells
      (by intro u hu; obtain ⟨z, _, rfl⟩ := List.mem_map.1 hu; rfl) (by unfold maxLen; omega) (by omega) hbase
    have hown' : Orw w' base v' (n + m) (l ++ l2) := by unfold Orw; rw [List.map_append]; exact h2
    obtain ⟨A', c', e, _⟩ := hown'.form
    subst e
    exact ⟨A', c', w', hrun, hown', .of_grownv h3, h5.imp id fun e k hk => by rw [e] at hk; have := Option.some.inj hk; omega⟩
/-- A row's block is no block of bytes. -/
theorem row_nocell {w : World} {base n : Nat} {v : Value} {fs : List FrV} (h : Orw w base v n fs) : ∀ b cs m, v.ownBlock = some b → w.heap[b]? ≠ some (.cells cs 5 m) := by
  intro b cs m hb e
  obtain ⟨cur, h2⟩ := h.typed b hb
  rw [h2] at e
  have e := Option.some.inj e
  injection e with _ e _
  exact absurd e (by decide)
section
variable {w : World} {l c room : Nat} {fs : List FrV}
end
end Go.Proofs.Ytdhidgcjpeafnaa.Oct
