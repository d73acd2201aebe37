/- Both senders beside each other; what a statement writes over. -/
import Derived.Test.YtkpjnikbcgngbaaSndI
namespace Go.Proofs.Ytkpjnikbcgngbaa.Oct
open Go.RowKit
set_option linter.unusedVariables false
set_option linter.unusedSimpArgs false
/-- What Put leaves. -/
def putL (ms : List (List Int)) (bs : List Int) (E : Int) : List (List Int) := if E = 0 then ms ++ [bs] else ms
def putA (all : Nat) (E : Int) : Nat := if E = 0 then all + 1 else all
section
variable {P Q S : Nat → Prop} {w w' W : World} {s c m wd said all lo : Nat} {nx : Int} {r rm : Option Nat} {ms : List (List Int)}
theorem sput_any (h : Sp P w s c wd nx said all r ms) {B n k : Nat} {A : Option Addr} {bs : List Int} (hr : Rd .u8 w B A n k bs) (hB : B ≤ w.heap.size) (hby : By bs) : Calls Try.prog 18 #[.pointer (some ⟨s, 0, none⟩), .slice A n k] w fun e w' => ∃ r', e = .returned (.int .i64 (putSE n ms.length all)) ∧ Sp (fun b => P b ∨ w.heap.size ≤ b) w' s c wd nx said (putA all (putSE n ms.length all)) r' (putL ms bs (putSE n ms.length all)) ∧ Ch (Kb s c r) w w' ∧ (r' = r ∨ ∀ k, r' = some k → w.heap.size ≤ k) := by
  by_cases hE : putSE n ms.length all = 0
  · rw [hE]
    exact sput_yes h hr hB hby hE
  · unfold putA putL
    rw [if_neg hE, if_neg hE]
    refine (sput_no h hr rfl hE).mono ?_
    rintro e w' ⟨rfl, rfl⟩
    exact ⟨r, rfl, h.imp (fun _ _ h => Or.inl h), Ch.refl _ _, .inl rfl⟩
theorem mput_anyS (h : Sm P w m wd nx said all r ms) {B n k : Nat} {A : Option Addr} {bs : List Int} (hr : Rd .u8 w B A n k bs) (hB : B ≤ w.heap.size) (hby : By bs) : Calls Try.prog 26 #[.pointer (some ⟨m, 0, none⟩), .slice A n k] w fun e w' => ∃ r', e = .returned (.int .i64 (putSE n ms.length all)) ∧ Sm (fun b => P b ∨ w.heap.size ≤ b) w' m wd nx said (putA all (putSE n ms.length all)) r' (putL ms bs (putSE n ms.length all)) ∧ Ch (Kb m m r) w w' ∧ (r' = r ∨ ∀ k, r' = some k → w.heap.size ≤ k) := by
  by_cases hE : putSE n ms.length all = 0
  · rw [hE]
    exact mputS_yes h hr hB hby hE
  · unfold putA putL
    rw [if_neg hE, if_neg hE]
    refine (mputS_no h hr rfl hE).mono ?_
    rintro e w' ⟨rfl, rfl⟩
    exact ⟨r, rfl, h.imp (fun _ _ h => Or.inl h), Ch.refl _ _, .inl rfl⟩
/-- Both senders, which are the same, in blocks from lo on, none of which is the other one's. -/
structure PS (P : Nat → Prop) (W : World) (lo : Nat) (w : World) (s c wd m : Nat) (nx : Int) (said all : Nat) (r rm : Option Nat) (ms : List (List Int)) : Prop where
  sp : Sp P w s c wd nx said all r ms
  sm : Sm P w m wd nx said all rm ms
  ap : ∀ k, Kb s c r k → ¬ Kb m m rm k
  g1 : ∀ k, Kb s c r k → lo ≤ k
  g2 : ∀ k, Kb m m rm k → lo ≤ k
  bl : Below lo W w
  sz : lo ≤ w.heap.size
theorem PS.stay (h : PS P W lo w s c wd m nx said all r rm ms) (hc : Ch S w w') (h1 : ∀ k, Kb s c r k → ¬ S k) (h2 : ∀ k, Kb m m rm k → ¬ S k) (hb : ∀ b cs m, b < w.heap.size → P b → w.heap[b]? = some (.cells cs 5 m) → ¬ S b) (hlo : ∀ k, S k → lo ≤ k) : PS P W lo w' s c wd m nx said all r rm ms :=
  ⟨h.sp.stay hc h1 hb, h.sm.stay hc h2 hb, h.ap, h.g1, h.g2, h.bl.trans (hc.below hlo h.sz), Nat.le_trans h.sz hc.size⟩
theorem PS.below (h : PS P W lo w s c wd m nx said all r rm ms) (hb : Below w.heap.size w w') : PS P W lo w' s c wd m nx said all r rm ms := ⟨h.sp.below hb, h.sm.below hb, h.ap, h.g1, h.g2, h.bl.trans (hb.mono h.sz), Nat.le_trans h.sz hb.size⟩
theorem PS.imp (h : PS P W lo w s c wd m nx said all r rm ms) (hq : ∀ b, b < w.heap.size → P b → Q b) : PS Q W lo w s c wd m nx said all r rm ms := ⟨h.sp.imp hq, h.sm.imp hq, h.ap, h.g1, h.g2, h.bl, h.sz⟩
end
theorem sOwn_stay {w w' : World} {S : Nat → Prop} {base n : Nat} {v : Value} {l : List Int} (h : Own w base v n l) (hc : Ch S w w') (hs : ∀ k, v.ownBlock = some k → ∀ cur, w.heap[k]? = some (.cells cur 5 (0, 0)) → ¬ S k) : Own w' base v n l := by
  refine ⟨h.1, ?_⟩
  rcases h.2 with h2 | ⟨g, cap, cur, e, hbg, hg, q⟩
  · exact .inl h2
  · exact .inr ⟨g, cap, cur, e, hbg, (hc.block g (Array.getElem?_eq_some_iff.1 hg).1 (hs g (by rw [e]; rfl) cur hg)).trans hg, q⟩
theorem sOwn_blk {w : World} {base k c : Nat} {A : Option Addr} {l : List Int} (h : Own w base (.slice A k c) k l) (hn : 0 < k) : ∃ gi, A = some ⟨gi, 0, none⟩ ∧ k ≤ c ∧ (∃ cur, w.heap[gi]? = some (.cells cur 5 (0, 0))) ∧ (∀ j, j < k → w.cell? ⟨gi, j, none⟩ = some (.int .u8 (l.getD j 0))) ∧ (∀ j, w.frozen? ⟨gi, j, none⟩ = false) ∧ (∀ j x, Own (w.setCell ⟨gi, j, none⟩ (.int .u8 x)) base (.slice A k c) k (l.set j x)) := by
  obtain ⟨g, cap, hv, hbg, hlt⟩ := World.ownsRow.form h hn
  injection hv with hA _ hcap
  subst hA hcap
  obtain ⟨A', c', e, h1, -⟩ := h.form
  injection e with e1 e2 e3
  subst e1 e3
  refine ⟨g, rfl, h1, ?_, fun j hj => ?_, fun j => World.ownsRow.frozenAt h j, fun j x => ?_⟩
  · rcases h.2 with ⟨hv, _⟩ | ⟨g', cap', cur, hv, _, hg, _⟩
    · simp at hv
    · injection hv with hA _ _
      obtain rfl : g = g' := by simpa using hA
      exact ⟨cur, hg⟩
  · obtain ⟨b, off, e, _, hc⟩ := h.rd.at_ hn
    obtain ⟨rfl, rfl⟩ : g = b ∧ 0 = off := by simpa using e
    have := hc j hj
    rwa [Nat.zero_add] at this
  · have := (World.ownsRow.stored h j (.int .u8 x)).1
    unfold Own
    rwa [List.map_set]
/-- Bytes, whatever they are, in a block of which P holds. -/
structure Sl8 (P : Nat → Prop) (w : World) (f : FrV) : Prop where
  le : f.n ≤ f.c
  small : f.n ≤ 512
  nil : f.A = none → f.c = 0
  at_ : 0 < f.n → ∃ b off cs, f.A = some ⟨b, off, none⟩ ∧ P b ∧ w.heap[b]? = some (.cells cs 5 (0, 0)) ∧ ∀ j, j < f.n → ∃ z, cs[off + j]? = some (.int .u8 z)
theorem Sl8.of {P : Nat → Prop} {w : World} {f : FrV} (h : Fok P w f) : Sl8 P w f := ⟨h.le, h.small, h.nil, fun hn => by
  obtain ⟨b, off, cs, e, hp, hb, hc⟩ := h.at_ hn
  exact ⟨b, off, cs, e, hp, hb, fun j hj => ⟨_, hc j hj⟩⟩⟩
theorem Sl8.other {P S : Nat → Prop} {w w' : World} {f : FrV} (h : Sl8 P w f) (hc : Ch S w w') (hs : ∀ b cs m, S b → w.heap[b]? ≠ some (.cells cs 5 m)) : Sl8 P w' f := ⟨h.le, h.small, h.nil, fun hn => by
  obtain ⟨b, off, cs, e, hp, hb, hcc⟩ := h.at_ hn
  exact ⟨b, off, cs, e, hp, (hc.block b (Array.getElem?_eq_some_iff.1 hb).1 (fun h => hs b cs _ h hb)).trans hb, hcc⟩⟩
/-- One byte is written over. -/
theorem Sl8.poke {P : Nat → Prop} {w : World} {f : FrV} (h : Sl8 P w f) (b o : Nat) (z : Int) : Sl8 P (w.setCell ⟨b, o, none⟩ (.int .u8 z)) f := ⟨h.le, h.small, h.nil, fun hn => by
  obtain ⟨b2, off, cs, e, hp, hb, hc⟩ := h.at_ hn
  by_cases hbb : b2 = b
  · subst hbb
    refine ⟨b2, off, cs.setIfInBounds o (.int .u8 z), e, hp, by simp [World.setCell, Array.getElem?_modify, hb], fun j hj => ?_⟩
    obtain ⟨y, hy⟩ := hc j hj
    by_cases ho : o = off + j
    · have hlt := (Array.getElem?_eq_some_iff.1 hy).1
      subst ho
      exact ⟨z, by rw [Array.getElem?_setIfInBounds_self_of_lt hlt]⟩
    · exact ⟨y, by rw [Array.getElem?_setIfInBounds_ne ho]; exact hy⟩
  · have hg := grownBy_set w b o (.int .u8 z)
    exact ⟨b2, off, cs, e, hp, (hg.block b2 (Array.getElem?_eq_some_iff.1 hb).1 (by simp; exact hbb)).trans hb, hc⟩⟩
theorem flatI_set : ∀ (l : List (Int × FrV)) (i : Nat) (x : Int × FrV) (z : Int), l[i]? = some x → flatI (l.set i (z, x.2)) = (flatI l).set (i * 2) (.int .i64 z)
  | [], i, x, z, h => by simp at h
  | y :: r, 0, x, z, h => by simp at h; subst h; rfl
  | y :: r, i + 1, x, z, h => by
    have ih := flatI_set r i x z (by simpa using h)
    rw [List.set_cons_succ, show (i + 1) * 2 = i * 2 + 1 + 1 by omega]
    simp only [flatI, List.set_cons_succ, ih]
/-- The number of an item is written over. -/
theorem Om.turn {w : World} {base n c i : Nat} {A : Option Addr} {its : List (Int × FrV)} {x : Int × FrV} (h : Om w base (.slice A n c) n its) (hi : its[i]? = some x) : ∃ g, A = some ⟨g, 0, none⟩ ∧ base ≤ g ∧ w.cell? ⟨g, i * 2, none⟩ = some (.int .i64 x.1) ∧ w.cell? ⟨g, i * 2 + 1, none⟩ = some x.2.val ∧ (∀ j, w.frozen? ⟨g, j, none⟩ = false) ∧ ∀ z, Om (w.setCell ⟨g, i * 2, none⟩ (.int .i64 z)) base (.slice A n c) n (its.set i (z, x.2)) := by
  have hlt := (List.getElem?_eq_some_iff.1 hi).1
  have hl := h.len
  obtain ⟨g, cap, hv, hbg, hlt⟩ := World.ownsRow.form h (by omega)
  injection hv with hA _ hcap
  subst hA hcap
  obtain ⟨b, off, e, _, hc⟩ := h.im.at_ (by omega)
  obtain ⟨rfl, rfl⟩ : g = b ∧ 0 = off := by simpa using e
  obtain ⟨q1, q2⟩ := hc i x hi
  rw [Nat.zero_add] at q1 q2
  refine ⟨g, rfl, hbg, q1, q2, fun j => World.ownsRow.frozenAt h j, fun z => ?_⟩
  have := (World.ownsRow.stored h (i * 2) (.int .i64 z)).1
  unfold Om
  rw [flatI_set its i x z hi]
  exact this
end Go.Proofs.Ytkpjnikbcgngbaa.Oct
