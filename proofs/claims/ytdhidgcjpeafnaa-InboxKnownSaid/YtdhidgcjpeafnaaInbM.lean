/- Layer 14 (inbox): one message comes to the program's inbox of bytes, and to the document's: what both answer. -/
import Derived.Test.YtdhidgcjpeafnaaInbL
namespace Go.Proofs.Ytdhidgcjpeafnaa.Oct
open Go.RowKit
set_option linter.unusedVariables false
set_option linter.unusedSimpArgs false
def atG {α : Type} (j d : Nat) (o : Option α) (v : α) : Option α := if d = j then some (o.getD v) else o
/-- How far ahead. -/
def dOf (base seq : Int) : Nat := ((seq - base) % 65536).toNat
def bad (base seq : Int) : Int := if seq < 0 ∨ 65535 < seq then 2 else if dOf base seq < 4 then 0 else 9
section
variable {α β : Type} (g : α → β)
theorem atG_map (j d : Nat) (o : Option α) (v : α) : (atG j d o v).map g = atG j d (o.map g) (g v) := by unfold atG; split <;> cases o <;> rfl
end
/-- What is told, and what is kept behind it. -/
def outG {α : Type} (base seq : Int) (o1 o2 o3 : Option α) (v : α) : List α := if bad base seq = 0 then fol4 (atG 0 (dOf base seq) none v) (atG 1 (dOf base seq) o1 v) (atG 2 (dOf base seq) o2 v) (atG 3 (dOf base seq) o3 v) else []
def nwG {α : Type} (base seq : Int) (o1 o2 o3 : Option α) (v : α) : Option α × Option α × Option α := if bad base seq = 0 then rst4 (atG 0 (dOf base seq) none v) (atG 1 (dOf base seq) o1 v) (atG 2 (dOf base seq) o2 v) (atG 3 (dOf base seq) o3 v) else (o1, o2, o3)
section
variable {α β : Type} (g : α → β)
theorem outG_map (base seq : Int) (o1 o2 o3 : Option α) (v : α) : outG base seq (o1.map g) (o2.map g) (o3.map g) (g v) = (outG base seq o1 o2 o3 v).map g := by
  unfold outG
  split
  · rw [show (none : Option β) = (none : Option α).map g from rfl, ← atG_map, ← atG_map, ← atG_map, ← atG_map, fol4_map]
  · rfl
theorem nwG_map (base seq : Int) (o1 o2 o3 : Option α) (v : α) : nwG base seq (o1.map g) (o2.map g) (o3.map g) (g v) = ((nwG base seq o1 o2 o3 v).1.map g, (nwG base seq o1 o2 o3 v).2.1.map g, (nwG base seq o1 o2 o3 v).2.2.map g) := by
  unfold nwG
  split
  · rw [show (none : Option β) = (none : Option α).map g from rfl, ← atG_map, ← atG_map, ← atG_map, ← atG_map, rst4_map]
  · rfl
theorem out_le (base seq : Int) (o1 o2 o3 : Option α) (v : α) : (outG base seq o1 o2 o3 v).length ≤ 4 := by
  unfold outG
  split
  · exact fol4_le _ _ _ _
  · exact Nat.zero_le _
end
theorem fol4_mem {α : Type} {P : α → Prop} {m0 m1 m2 m3 : Option α} (h0 : ∀ f, m0 = some f → P f) (h1 : ∀ f, m1 = some f → P f) (h2 : ∀ f, m2 = some f → P f) (h3 : ∀ f, m3 = some f → P f) : (∀ f ∈ fol4 m0 m1 m2 m3, P f) ∧ (∀ f, (rst4 m0 m1 m2 m3).1 = some f → P f) ∧ (∀ f, (rst4 m0 m1 m2 m3).2.1 = some f → P f) ∧ (∀ f, (rst4 m0 m1 m2 m3).2.2 = some f → P f) := by
  cases m0 <;> cases m1 <;> cases m2 <;> cases m3 <;> simp_all [fol4, folG, rst4, rstG]
theorem atG_mem {α : Type} {P : α → Prop} {o : Option α} {v : α} (j d : Nat) (h : ∀ f, o = some f → P f) (hv : P v) : ∀ f, atG j d o v = some f → P f := by
  intro f e
  unfold atG at e
  split at e
  · have e := Option.some.inj e
    cases o with
    | none => subst e; exact hv
    | some a => exact h f (by rw [← e]; rfl)
  · exact h f e
theorem nwG_mem {α : Type} {P : α → Prop} {base seq : Int} {o1 o2 o3 : Option α} {v : α} (h1 : ∀ f, o1 = some f → P f) (h2 : ∀ f, o2 = some f → P f) (h3 : ∀ f, o3 = some f → P f) (hv : P v) : (∀ f ∈ outG base seq o1 o2 o3 v, P f) ∧ (∀ f, (nwG base seq o1 o2 o3 v).1 = some f → P f) ∧ (∀ f, (nwG base seq o1 o2 o3 v).2.1 = some f → P f) ∧ (∀ f, (nwG base seq o1 o2 o3 v).2.2 = some f → P f) := by
  unfold outG nwG
  split
  · exact fol4_mem (atG_mem _ _ (fun f e => by simp at e) hv) (atG_mem _ _ h1 hv) (atG_mem _ _ h2 hv) (atG_mem _ _ h3 hv)
  · exact ⟨fun f h => by simp at h, h1, h2, h3⟩
/-- It reads as its bytes, below block B. -/
def Fr (w : World) (B : Nat) (f : FrV) : Prop := Rd .u8 w B f.A f.n f.c f.l ∧ By f.l ∧ f.n ≤ 140737488351232
theorem Fr.below {w w' : World} {B : Nat} {f : FrV} (h : Fr w B f) (hb : Below B w w') : Fr w' B f := ⟨h.1.below hb, h.2⟩
abbrev IY (w : World) (x b : Nat) (nx : Int) (p1 p2 p3 : OV) : Prop := Ib 56 w x b nx p1 p2 p3
theorem shp_y (f1 f2 f3 : Option FrV) : Shp_y (f1.map FrV.val) (f2.map FrV.val) (f3.map FrV.val) :=
  ⟨fun v h => by obtain ⟨z, _, rfl⟩ := Option.map_eq_some_iff.1 h; exact ⟨z.A, z.n, z.c, rfl⟩, fun v h => by obtain ⟨z, _, rfl⟩ := Option.map_eq_some_iff.1 h; exact ⟨z.A, z.n, z.c, rfl⟩, fun v h => by obtain ⟨z, _, rfl⟩ := Option.map_eq_some_iff.1 h; exact ⟨z.A, z.n, z.c, rfl⟩⟩
section
variable {w w' : World} {x b m : Nat} {base : Int} {f1 f2 f3 : Option FrV}

set_option maxHeartbeats 1000000 in
theorem ystep_any (h : IY w x b base (f1.map FrV.val) (f2.map FrV.val) (f3.map FrV.val)) (seq : Int) (v : FrV) : Calls Try.prog 11 #[.pointer (some ⟨x, 0, none⟩), .int .i64 seq, .slice v.A v.n v.c] w fun e w' => ∃ A n c, e = .returned (.tuple #[.slice A n c, .int .i64 (bad base seq)]) ∧ Orw w' w.heap.size (.slice A n c) n (outG base seq f1 f2 f3 v) ∧ IY w' x b (Ser.plusP base n) ((nwG base seq f1 f2 f3 v).1.map FrV.val) ((nwG base seq f1 f2 f3 v).2.1.map FrV.val) ((nwG base seq f1 f2 f3 v).2.2.map FrV.val) ∧ Ch (fun k => k = x ∨ k = b) w w' := by
  have r0 := h.r0
  have r1 := h.r1
  have hz : Ser.plusP base (0 : Nat) = base := by unfold Ser.plusP; omega
  have stay : ∀ w' : World, Below w.heap.size w w' → bad base seq ≠ 0 → Orw w' w.heap.size (.slice none 0 0) 0 (outG base seq f1 f2 f3 v) ∧ IY w' x b (Ser.plusP base (0 : Nat)) ((nwG base seq f1 f2 f3 v).1.map FrV.val) ((nwG base seq f1 f2 f3 v).2.1.map FrV.val) ((nwG base seq f1 f2 f3 v).2.2.map FrV.val) ∧ Ch (fun k => k = x ∨ k = b) w w' := fun w' hb he => by
    unfold outG nwG
    rw [if_neg he, if_neg he, hz]
    exact ⟨Orw.nil0 _ _, h.below hb, .of_below hb⟩
  by_cases hq : seq < 0 ∨ 65535 < seq
  · have he : bad base seq = 2 := if_pos hq
    refine (xtake_arg_y h seq hq v.A v.n v.c).mono ?_
    rintro e w' ⟨rfl, rfl⟩
    exact ⟨none, 0, 0, by rw [he], stay w' (Below.refl _ _) (by rw [he]; decide)⟩
  · by_cases hd : (seq - base) % 65536 < 4
    · have he : bad base seq = 0 := by unfold bad dOf; rw [if_neg hq, if_pos (by omega)]
      have hs : seq = Ser.plusP base (dOf base seq : Nat) := by unfold Ser.plusP dOf; omega
      have cases4 : dOf base seq = 0 ∨ dOf base seq = 1 ∨ dOf base seq = 2 ∨ dOf base seq = 3 := by unfold dOf; omega
      unfold outG nwG
      rw [if_pos he, if_pos he, he]
      clear stay he hd hq
      generalize dOf base seq = d at *
      subst hs
      rcases cases4 with rfl | rfl | rfl | rfl
      · rw [hz]
        refine (xtake_tell_y h (shp_y f1 f2 f3) v.A v.n v.c).mono ?_
        rintro e w' ⟨A, n, c, rfl, hn, hV, hI, hC⟩
        refine ⟨A, n, c, rfl, ?_, ?_, hC⟩
        · rw [show (Value.slice v.A v.n v.c :: folK (f1.map FrV.val) (f2.map FrV.val) (f3.map FrV.val)) = (v :: folG f1 f2 f3).map FrV.val from by rw [folK_map]; rfl] at hV
          exact hV
        · rw [rst_map] at hI
          exact hI
      · rw [show Ser.plusP base ((1 : Nat) : Int) = Ser.plusP base 1 from rfl]
        refine (xtake_ahead_y h (shp_y f1 f2 f3) 1 (.inl rfl) v.A v.n v.c).mono ?_
        rintro e w' ⟨rfl, hI, hC⟩
        refine ⟨none, 0, 0, rfl, Orw.nil0 _ _, ?_, hC.mono (fun _ _ e => Or.inr e)⟩
        rw [hz]
        have ev : ∀ f : Option FrV, some ((f.map FrV.val).getD (Value.slice v.A v.n v.c)) = (some (f.getD v)).map FrV.val := fun f => by cases f <;> rfl
        simpa [atD, atG, rst4, ev] using hI
      · rw [show Ser.plusP base ((2 : Nat) : Int) = Ser.plusP base 2 from rfl]
        refine (xtake_ahead_y h (shp_y f1 f2 f3) 2 (.inr (.inl rfl)) v.A v.n v.c).mono ?_
        rintro e w' ⟨rfl, hI, hC⟩
        refine ⟨none, 0, 0, rfl, Orw.nil0 _ _, ?_, hC.mono (fun _ _ e => Or.inr e)⟩
        rw [hz]
        have ev : ∀ f : Option FrV, some ((f.map FrV.val).getD (Value.slice v.A v.n v.c)) = (some (f.getD v)).map FrV.val := fun f => by cases f <;> rfl
        simpa [atD, atG, rst4, ev] using hI
      · rw [show Ser.plusP base ((3 : Nat) : Int) = Ser.plusP base 3 from rfl]
        refine (xtake_ahead_y h (shp_y f1 f2 f3) 3 (.inr (.inr rfl)) v.A v.n v.c).mono ?_
        rintro e w' ⟨rfl, hI, hC⟩
        refine ⟨none, 0, 0, rfl, Orw.nil0 _ _, ?_, hC.mono (fun _ _ e => Or.inr e)⟩
        rw [hz]
        have ev : ∀ f : Option FrV, some ((f.map FrV.val).getD (Value.slice v.A v.n v.c)) = (some (f.getD v)).map FrV.val := fun f => by cases f <;> rfl
        simpa [atD, atG, rst4, ev] using hI
    · have he : bad base seq = 9 := by unfold bad dOf; rw [if_neg hq, if_neg (by omega)]
      refine (xtake_range_y h seq (by omega) (by omega) hd v.A v.n v.c).mono ?_
      rintro e w' ⟨rfl, hb⟩
      exact ⟨none, 0, 0, by rw [he], stay w' hb (by rw [he]; decide)⟩
variable {P : Nat → Prop} {m1 m2 m3 : Option FrV}
theorem setO_at (m1 m2 m3 : Option FrV) (f : FrV) (d : Nat) (hd : d < 4) (hh : ([none, m1, m2, m3].getD d none).isSome = false) {g0 g1 g2 g3 : Option FrV} (hg : [none, m1, m2, m3].set d (some f) = [g0, g1, g2, g3]) : g0 = atG 0 d none f ∧ g1 = atG 1 d m1 f ∧ g2 = atG 2 d m2 f ∧ g3 = atG 3 d m3 f := by
  have cases4 : d = 0 ∨ d = 1 ∨ d = 2 ∨ d = 3 := by omega
  rcases cases4 with rfl | rfl | rfl | rfl <;> (simp at hg hh; obtain ⟨rfl, rfl, rfl, rfl⟩ := hg)
  · exact ⟨rfl, rfl, rfl, rfl⟩
  · subst hh; exact ⟨rfl, rfl, rfl, rfl⟩
  · subst hh; exact ⟨rfl, rfl, rfl, rfl⟩
  · subst hh; exact ⟨rfl, rfl, rfl, rfl⟩
theorem getO_at (m1 m2 m3 : Option FrV) (f : FrV) (d : Nat) (hd : d < 4) (hh : ([none, m1, m2, m3].getD d none).isSome = true) : atG 0 d none f = none ∧ atG 1 d m1 f = m1 ∧ atG 2 d m2 f = m2 ∧ atG 3 d m3 f = m3 := by
  have cases4 : d = 0 ∨ d = 1 ∨ d = 2 ∨ d = 3 := by omega
  rcases cases4 with rfl | rfl | rfl | rfl <;> simp at hh
  · obtain ⟨a, rfl⟩ := Option.isSome_iff_exists.1 hh; exact ⟨rfl, rfl, rfl, rfl⟩
  · obtain ⟨a, rfl⟩ := Option.isSome_iff_exists.1 hh; exact ⟨rfl, rfl, rfl, rfl⟩
  · obtain ⟨a, rfl⟩ := Option.isSome_iff_exists.1 hh; exact ⟨rfl, rfl, rfl, rfl⟩
/-- The document's: a copy of the message comes. -/
theorem mstep_any (h : Rm P w m base none m1 m2 m3) (seq : Int) {n c : Nat} {A : Option Addr} {bs : List Int} {B : Nat} (hr : Rd .u8 w B A n c bs) (hBm : B ≤ m) (hby : By bs) (hn : n ≤ 140737488351232) : Calls Try.prog 12 #[.pointer (some ⟨m, 0, none⟩), .int .i64 seq, .slice A n c] w fun e w' => ∃ (f : FrV) (A' : Option Addr) (n' c' : Nat), f.l = bs ∧ e = .returned (.tuple #[.slice A' n' c', .int .i64 (bad base seq)]) ∧ Orw w' w.heap.size (.slice A' n' c') n' (outG base seq m1 m2 m3 f) ∧ (∀ f' ∈ outG base seq m1 m2 m3 f, Fb (fun b => P b ∨ w.heap.size ≤ b) w' f') ∧ Rm (fun b => P b ∨ w.heap.size ≤ b) w' m (Ser.plusP base n') none (nwG base seq m1 m2 m3 f).1 (nwG base seq m1 m2 m3 f).2.1 (nwG base seq m1 m2 m3 f).2.2 ∧ Ch (fun k => k = m) w w' := by
  have r0 := h.r0
  have r1 := h.r1
  have hz : Ser.plusP base (0 : Nat) = base := by unfold Ser.plusP; omega
  have stay : bad base seq ≠ 0 → Orw w w.heap.size (.slice none 0 0) 0 (outG base seq m1 m2 m3 ⟨none, 0, 0, bs⟩) ∧ (∀ f' ∈ outG base seq m1 m2 m3 ⟨none, 0, 0, bs⟩, Fb (fun b => P b ∨ w.heap.size ≤ b) w f') ∧ Rm (fun b => P b ∨ w.heap.size ≤ b) w m (Ser.plusP base (0 : Nat)) none (nwG base seq m1 m2 m3 ⟨none, 0, 0, bs⟩).1 (nwG base seq m1 m2 m3 ⟨none, 0, 0, bs⟩).2.1 (nwG base seq m1 m2 m3 ⟨none, 0, 0, bs⟩).2.2 ∧ Ch (fun k => k = m) w w := fun he => by
    unfold outG nwG
    rw [if_neg he, if_neg he, hz]
    exact ⟨Orw.nil0 _ _, fun f hf => by simp at hf, h.imp (fun _ _ h => Or.inl h), Ch.refl _ _⟩
  by_cases hq : seq < 0 ∨ 65535 < seq
  · have he : bad base seq = 2 := if_pos hq
    refine (mtake_arg m w seq hq A n c).mono ?_
    rintro e w' ⟨rfl, rfl⟩
    exact ⟨⟨none, 0, 0, bs⟩, none, 0, 0, rfl, by rw [he], stay (by rw [he]; decide)⟩
  · by_cases hd : (seq - base) % 65536 < 4
    · have he : bad base seq = 0 := by unfold bad dOf; rw [if_neg hq, if_pos (by omega)]
      have hs : (seq - base) % 65536 = (dOf base seq : Nat) := by unfold dOf; omega
      have hd4 : dOf base seq < 4 := by unfold dOf; omega
      unfold outG nwG
      simp only [if_pos he]
      rw [he]
      clear stay he
      generalize dOf base seq = d at *
      cases hh : ([none, m1, m2, m3].getD d none).isSome with
      | true =>
        refine (mtake_has h seq (by omega) (by omega) d hd4 hs hh A n c).mono ?_
        rintro e w' ⟨rfl, rfl⟩
        obtain ⟨e0, e1, e2, e3⟩ := getO_at m1 m2 m3 ⟨none, 0, 0, bs⟩ d hd4 hh
        refine ⟨⟨none, 0, 0, bs⟩, none, 0, 0, rfl, rfl, ?_⟩
        rw [e0, e1, e2, e3, hz]
        exact ⟨Orw.nil0 _ _, fun f hf => by simp [fol4] at hf, h.imp (fun _ _ h => Or.inl h), Ch.refl _ _⟩
      | false =>
        refine (mtake_new h seq (by omega) (by omega) d hd4 hs hh hr hBm hby hn).mono ?_
        rintro e w' ⟨f, g0, g1, g2, g3, A', n', c', gs, hg, hfl, rfl, hO, hgs, hfb, hR, hC⟩
        obtain ⟨rfl, rfl, rfl, rfl⟩ := setO_at m1 m2 m3 f d hd4 hh hg
        subst hgs
        exact ⟨f, A', n', c', hfl, rfl, hO, hfb, hR, hC⟩
    · have he : bad base seq = 9 := by unfold bad dOf; rw [if_neg hq, if_neg (by omega)]
      refine (mtake_range h seq (by omega) (by omega) hd A n c).mono ?_
      rintro e w' ⟨rfl, rfl⟩
      exact ⟨⟨none, 0, 0, bs⟩, none, 0, 0, rfl, by rw [he], stay (by rw [he]; decide)⟩
end
end Go.Proofs.Ytdhidgcjpeafnaa.Oct
