/- Rows of items; a sender in memory. -/
import Derived.Test.YtkpjnikbcgngbaaSndA
namespace Go.Proofs.Ytkpjnikbcgngbaa.Oct
open Go.RowKit
set_option linter.unusedVariables false
set_option linter.unusedSimpArgs false
/-- Items, laid flat. -/
def flatI : List (Int × FrV) → List Value
  | [] => []
  | x :: r => .int .i64 x.1 :: x.2.val :: flatI r
theorem flatI_len : ∀ l, (flatI l).length = l.length * 2
  | [] => rfl
  | x :: r => by simp [flatI, flatI_len r]; omega
theorem flatI_append : ∀ a b, flatI (a ++ b) = flatI a ++ flatI b
  | [], b => rfl
  | x :: r, b => by simp [flatI, flatI_append r b]
theorem flatI_at : ∀ (l : List (Int × FrV)) (j : Nat) (x : Int × FrV), l[j]? = some x → (flatI l)[j * 2]? = some (.int .i64 x.1) ∧ (flatI l)[j * 2 + 1]? = some x.2.val
  | [], j, x, h => by simp at h
  | y :: r, 0, x, h => by simp at h; subst h; exact ⟨rfl, rfl⟩
  | y :: r, j + 1, x, h => by
    have ih := flatI_at r j x (by simpa using h)
    have e : ∀ k, (flatI (y :: r))[(j + 1) * 2 + k]? = (flatI r)[j * 2 + k]? := fun k => by
      rw [show (j + 1) * 2 + k = j * 2 + k + 1 + 1 by omega]; rfl
    exact ⟨(e 0).trans ih.1, (e 1).trans ih.2⟩
theorem flatI_one : ∀ (l : List (Int × FrV)), ∀ u ∈ flatI l, u.oneCell' = true
  | [], u, h => by simp [flatI] at h
  | x :: r, u, h => by
    simp only [flatI, List.mem_cons] at h
    rcases h with rfl | rfl | h
    · rfl
    · rfl
    · exact flatI_one r u h
/-- A row of items that the call owns, in a block from base on. -/
def Om (w : World) (base : Nat) (v : Value) (n : Nat) (its : List (Int × FrV)) : Prop := w.ownsRow base 44 2 v n (flatI its)
/-- A slice that reads as items, below block B. -/
def Im (w : World) (B : Nat) (A : Option Addr) (n c : Nat) (its : List (Int × FrV)) : Prop :=
  its.length = n ∧ n ≤ c ∧ c ≤ maxLen ∧ (A = none → c = 0) ∧ (0 < n → ∃ b off, A = some ⟨b, off, none⟩ ∧ b < B ∧ ∀ (j : Nat) (x : Int × FrV), its[j]? = some x → w.cell? ⟨b, off + j * 2, none⟩ = some (.int .i64 x.1) ∧ w.cell? ⟨b, off + j * 2 + 1, none⟩ = some x.2.val)
theorem info_item : (Try.prog.info? 44).map (fun i => (i.zero, i.size, i.bytes)) = some (some (.agg #[.int .i64 0, .slice none 0 0]), 2, 32) := by kernel_rfl
section
variable {w w' : World} {base B n : Nat} {v : Value} {its : List (Int × FrV)}
theorem Om.len (h : Om w base v n its) : its.length = n := by have := h.1; rw [flatI_len] at this; omega
theorem Om.nil0 (w : World) (base : Nat) : Om w base (.slice none 0 0) 0 [] := World.ownsRow_nil w base _ 2
theorem Om.form (h : Om w base v n its) : ∃ A c, v = .slice A n c ∧ n ≤ c ∧ c ≤ maxLen ∧ (A = none → c = 0) ∧ (∀ a, A = some a → ∃ g, a = ⟨g, 0, none⟩ ∧ base ≤ g ∧ g < w.heap.size) := by
  rcases h.2 with ⟨rfl, rfl⟩ | ⟨g, cap, cur, rfl, hbg, hg, hnc, hcm, _⟩
  · exact ⟨none, 0, rfl, Nat.le_refl _, Nat.zero_le _, fun _ => rfl, fun a h => by simp at h⟩
  · exact ⟨some ⟨g, 0, none⟩, cap, rfl, hnc, hcm, fun h => by simp at h, fun a h => ⟨g, by simpa using h.symm, hbg, (Array.getElem?_eq_some_iff.1 hg).1⟩⟩
theorem Om.lt (h : Om w base v n its) : ∀ k, v.ownBlock = some k → base ≤ k ∧ k < w.heap.size := World.ownsRow.lt h
theorem Om.typed (h : Om w base v n its) : ∀ k, v.ownBlock = some k → ∃ cur, w.heap[k]? = some (.cells cur 44 (0, 0)) := by
  intro k hk
  rcases h.2 with ⟨rfl, _⟩ | ⟨g, cap, cur, rfl, hbg, hg, _⟩
  · simp [Value.ownBlock] at hk
  · simp [Value.ownBlock] at hk
    subst hk
    exact ⟨cur, hg⟩
theorem Om.lower (h : Om w base v n its) {b : Nat} (hb : b ≤ base) : Om w b v n its := by
  refine ⟨h.1, ?_⟩
  rcases h.2 with h2 | ⟨g, cap, cur, e, hbg, r⟩
  · exact .inl h2
  · exact .inr ⟨g, cap, cur, e, by omega, r⟩
theorem Om.stay {S : Nat → Prop} (h : Om w base v n its) (hc : Ch S w w') (hs : ∀ k, v.ownBlock = some k → ¬ S k) : Om w' base v n its := by
  refine ⟨h.1, ?_⟩
  rcases h.2 with h2 | ⟨g, cap, cur, e, hbg, hg, r⟩
  · exact .inl h2
  · exact .inr ⟨g, cap, cur, e, hbg, (hc.block g (Array.getElem?_eq_some_iff.1 hg).1 (hs g (by rw [e]; rfl))).trans hg, r⟩
theorem Om.below (h : Om w base v n its) (hb : Below w.heap.size w w') : Om w' base v n its := h.stay (S := fun _ => False) (.of_below hb) (fun _ _ e => e)
theorem Om.im {A : Option Addr} {c : Nat} (h : Om w base (.slice A n c) n its) : Im w w.heap.size A n c its := by
  obtain ⟨A', c', e, h1, h2, h3, h4⟩ := h.form
  injection e with e1 e2 e3
  subst e1 e3
  refine ⟨h.len, h1, h2, h3, fun hn => ?_⟩
  obtain ⟨g, cap, hv, _, hlt⟩ := World.ownsRow.form h hn
  injection hv with hA _ _
  subst hA
  refine ⟨g, 0, rfl, hlt, fun j l hj => ?_⟩
  obtain ⟨q1, q2⟩ := flatI_at its j l hj
  have key := fun i u (hu : (flatI its)[i]? = some u) => World.ownsRow.cells h (g := g) rfl i u hu
  simp only [add_addr] at key
  have k1 := key _ _ q1
  have k2 := key _ _ q2
  exact ⟨k1, by rw [show 0 + j * 2 + 1 = 0 + (j * 2 + 1) by omega]; exact k2⟩
theorem Im.len {A : Option Addr} {c : Nat} (h : Im w B A n c its) : its.length = n := h.1
theorem Im.le {A : Option Addr} {c : Nat} (h : Im w B A n c its) : n ≤ c := h.2.1
theorem Im.max {A : Option Addr} {c : Nat} (h : Im w B A n c its) : (n : Int) ≤ 9223372036854775807 := by have := h.2.1; have := h.2.2.1; unfold maxLen at this; omega
theorem Im.at_ {A : Option Addr} {c : Nat} (h : Im w B A n c its) (hn : 0 < n) : ∃ b off, A = some ⟨b, off, none⟩ ∧ b < B ∧ ∀ (j : Nat) (x : Int × FrV), its[j]? = some x → w.cell? ⟨b, off + j * 2, none⟩ = some (.int .i64 x.1) ∧ w.cell? ⟨b, off + j * 2 + 1, none⟩ = some x.2.val := h.2.2.2.2 hn
theorem Im.below {A : Option Addr} {c : Nat} (h : Im w B A n c its) (hb : Below B w w') : Im w' B A n c its :=
  ⟨h.1, h.2.1, h.2.2.1, h.2.2.2.1, fun hn => by
    obtain ⟨b, off, e, hlt, hc⟩ := h.at_ hn
    exact ⟨b, off, e, hlt, fun j x hj => ⟨(hb.cell (p := ⟨b, _, none⟩) hlt).trans (hc j x hj).1, (hb.cell (p := ⟨b, _, none⟩) hlt).trans (hc j x hj).2⟩⟩⟩
theorem Im.nil0 (w : World) (B : Nat) : Im w B none 0 0 [] := ⟨rfl, Nat.le_refl _, Nat.zero_le _, fun _ => rfl, fun h => absurd h (Nat.lt_irrefl 0)⟩
end
/-- append of one item to a row of the call's own, as an equation. -/
theorem run_appendI {w : World} (ty : TypeId) {base : Nat} {v : Value} {n g2 : Nat} {its : List (Int × FrV)} {x : Int × FrV} (hown : Om w base v n its)
    (h0 : w.cell? ⟨g2, 0, none⟩ = some (.int .i64 x.1)) (h1 : w.cell? ⟨g2, 1, none⟩ = some x.2.val) (hsz : n ≤ 1000000) (hbase : base ≤ w.heap.size) :
    ∃ A' c' w', (Builtin.append_ #[41, 41] ty #[v, .slice (some ⟨g2, 0, none⟩) 1 1]).run Try.prog w = .ok (.slice A' (n + 1) c') w' ∧ Om w' base (.slice A' (n + 1) c') (n + 1) (its ++ [x]) ∧ Ch (fun k => v.ownBlock = some k) w w' := by
  obtain ⟨i0, hi, hz0, hz1, hz2⟩ := info_parts info_item
  have hcells : ∀ j u, (flatI [x])[j]? = some u → w.cell? ((⟨g2, 0, none⟩ : Addr).add j) = some u := by
    intro j u hu
    rw [add_addr, Nat.zero_add]
    match j, hu with
    | 0, hu => simp [flatI] at hu; rw [h0, hu]
    | 1, hu => simp [flatI] at hu; rw [h1, hu]
  obtain ⟨v', w', hrun, h2, h3, h4, h5⟩ := run_append_own_at (P := Try.prog) w base 41 ty 44 i0 _ 2 32 Try.underlying41 hi hz0 hz1 hz2 rfl (by omega) v n _ hown ⟨g2, 0, none⟩ 1 1 (flatI [x]) rfl hcells
    (flatI_one [x]) (by unfold maxLen; omega) (by omega) hbase
  have hown' : Om w' base v' (n + 1) (its ++ [x]) := by unfold Om; rw [flatI_append]; exact h2
  obtain ⟨A', c', e, _⟩ := hown'.form
  subst e
  exact ⟨A', c', w', hrun, hown', .of_grownv h3⟩
/-- A row of items is no block of bytes, of frames, or of a sender. -/
theorem items_nocell {w : World} {base n : Nat} {v : Value} {its : List (Int × FrV)} (h : Om w base v n its) : ∀ b cs m t, t ≠ 44 → v.ownBlock = some b → w.heap[b]? ≠ some (.cells cs t m) := by
  intro b cs m t ht hb e
  obtain ⟨cur, h2⟩ := h.typed b hb
  rw [h2] at e
  have e := Option.some.inj e
  injection e with _ e _
  exact ht e.symm
/-- What items tell: numbers from one place on, and the messages there. -/
structure Tell (P : Nat → Prop) (w : World) (nx : Int) (i : Nat) (ms : List (List Int)) (its : List (Int × FrV)) : Prop where
  num : ∀ j x, its[j]? = some x → x.1 = Ser.plusP nx (i + j : Nat) ∧ ms[i + j]? = some x.2.l
  fr : ∀ x ∈ its, Fok P w x.2
section
variable {P Q S : Nat → Prop} {w w' : World} {nx : Int} {i : Nat} {ms : List (List Int)} {its : List (Int × FrV)} {x : Int × FrV}
theorem Tell.nil0 (P : Nat → Prop) (w : World) (nx : Int) (i : Nat) (ms : List (List Int)) : Tell P w nx i ms [] := ⟨fun j x h => by simp at h, fun x h => by simp at h⟩
theorem Tell.stay (h : Tell P w nx i ms its) (hc : Ch S w w') (hs : ∀ b cs m, b < w.heap.size → P b → w.heap[b]? = some (.cells cs 5 m) → ¬ S b) : Tell P w' nx i ms its := ⟨h.num, fun x hx => (h.fr x hx).stay hc hs⟩
theorem Tell.below (h : Tell P w nx i ms its) (hb : Below w.heap.size w w') : Tell P w' nx i ms its := ⟨h.num, fun x hx => (h.fr x hx).below hb⟩
theorem Tell.other (h : Tell P w nx i ms its) (hc : Ch S w w') (hs : ∀ b cs m, S b → w.heap[b]? ≠ some (.cells cs 5 m)) : Tell P w' nx i ms its := h.stay hc (fun b cs m _ _ hb e => hs b cs m e hb)
theorem Tell.imp (h : Tell P w nx i ms its) (hq : ∀ b, b < w.heap.size → P b → Q b) : Tell Q w nx i ms its := ⟨h.num, fun x hx => (h.fr x hx).imp hq⟩
theorem Tell.push (h : Tell P w nx i ms its) (h1 : x.1 = Ser.plusP nx (i + its.length : Nat)) (h2 : ms[i + its.length]? = some x.2.l) (h3 : Fok P w x.2) : Tell P w nx i ms (its ++ [x]) := by
  refine ⟨fun j y hj => ?_, fun y hy => ?_⟩
  · rw [List.getElem?_append] at hj
    split at hj
    · exact h.num j y hj
    · have hlt := (List.getElem?_eq_some_iff.1 hj).1
      simp at hlt
      obtain rfl : j = its.length := by omega
      simp at hj
      subst hj
      exact ⟨h1, h2⟩
  · rcases List.mem_append.1 hy with hy | hy
    · exact h.fr y hy
    · rw [List.mem_singleton.1 hy]; exact h3
end
/-- A channel's block: a window of wd places, k of which are taken. -/
def Wn (w : World) (c wd k : Nat) : Prop := ∃ sd rc, w.heap[c]? = some (.chan wd (List.replicate k (Value.agg #[])).toArray false sd rc false)
theorem Wn.lt {w : World} {c wd k : Nat} (h : Wn w c wd k) : c < w.heap.size := by
  obtain ⟨s, r, h2⟩ := h
  exact (Array.getElem?_eq_some_iff.1 h2).1
theorem Wn.nocell {w : World} {c wd k : Nat} (h : Wn w c wd k) (cs : Array Value) (t : TypeId) (m : Nat × Nat) : w.heap[c]? ≠ some (.cells cs t m) := by
  obtain ⟨s, r, h2⟩ := h
  rw [h2]
  simp
theorem Wn.stay {S : Nat → Prop} {w w' : World} {c wd k : Nat} (h : Wn w c wd k) (hc : Ch S w w') (hs : ¬ S c) : Wn w' c wd k := by
  obtain ⟨s, r, h2⟩ := h
  exact ⟨s, r, (hc.block c (Wn.lt ⟨s, r, h2⟩) hs).trans h2⟩
theorem Wn.turned {w : World} {c wd k k' s r : Nat} {buf : Array Value} (h : Wn w c wd k) (hb : buf = (List.replicate k' (Value.agg #[])).toArray) : Wn (w.setChan c wd buf false s r false) c wd k' ∧ Ch (fun x => x = c) w (w.setChan c wd buf false s r false) := by
  subst hb
  exact ⟨⟨s, r, Go.Conc.heap_setChan _ _ _ _ _ _ _ _ h.lt⟩, ⟨rfl, rfl, rfl, by simp [World.setChan], fun k _ hn => by simp only [World.setChan]; rw [Array.getElem?_setIfInBounds_ne (fun e => hn e.symm)]⟩⟩
/-- A sender in block s, its window's places in c, its row in r: the messages ms, the first of which has the number nx, said of which are said; all that it was handed. -/
structure Sp (P : Nat → Prop) (w : World) (s c wd : Nat) (nx : Int) (said all : Nat) (r : Option Nat) (ms : List (List Int)) : Prop where
  ex : ∃ A m fs, Vb 55 w s [.int .u16 nx, .int .i64 all, .slice A ms.length m, .chan (some c)] ∧ Qf w A ms.length m fs ∧ (Value.slice A ms.length m).ownBlock = r ∧ fs.map FrV.l = ms ∧ Fall P w fs
  ch : Wn w c wd said
  nxb : 0 ≤ nx ∧ nx ≤ 65535
  fit : said ≤ wd ∧ 1 ≤ wd ∧ wd ≤ 4 ∧ said ≤ ms.length ∧ ms.length ≤ 512 ∧ all ≤ 20000
/-- Its own blocks. -/
def Kb (s c : Nat) (r : Option Nat) (k : Nat) : Prop := k = s ∨ k = c ∨ r = some k
section
variable {P Q S : Nat → Prop} {w w' : World} {s c wd said all : Nat} {nx : Int} {r : Option Nat} {ms : List (List Int)}
theorem Sp.lt (h : Sp P w s c wd nx said all r ms) : ∀ k, Kb s c r k → k < w.heap.size := by
  obtain ⟨A, m, fs, h1, h2, h3, h4, h5⟩ := h.ex
  rintro k (rfl | rfl | hk)
  · exact h1.lt
  · exact h.ch.lt
  · exact (h2.at_ k (h3.trans hk)).1
/-- None of them is a block of bytes, of items, or of another struct. -/
theorem Sp.nob (h : Sp P w s c wd nx said all r ms) : ∀ k cs t m, Kb s c r k → t ≠ 55 → t ≠ 30 → w.heap[k]? ≠ some (.cells cs t m) := by
  obtain ⟨A, m, fs, h1, h2, h3, h4, h5⟩ := h.ex
  rintro k cs t mk (rfl | rfl | hk) ht1 ht2 e
  · have h1 : w.heap[k]? = _ := h1
    rw [h1] at e
    have e := Option.some.inj e
    injection e with _ e _
    exact ht1 e.symm
  · exact h.ch.nocell _ _ _ e
  · obtain ⟨_, cs2, hv⟩ := h2.at_ k (h3.trans hk)
    have hv : w.heap[k]? = _ := hv
    rw [hv] at e
    have e := Option.some.inj e
    injection e with _ e _
    exact ht2 e.symm
theorem Sp.apart (h : Sp P w s c wd nx said all r ms) : s ≠ c ∧ r ≠ some s ∧ r ≠ some c := by
  obtain ⟨A, m, fs, h1, h2, h3, h4, h5⟩ := h.ex
  refine ⟨fun e => h.ch.nocell _ _ _ (e ▸ h1), fun e => ?_, fun e => ?_⟩
  · obtain ⟨_, cs2, hv⟩ := h2.at_ s (h3.trans e)
    exact absurd rfl (vb_ne hv h1 (by decide))
  · obtain ⟨_, cs2, hv⟩ := h2.at_ c (h3.trans e)
    exact h.ch.nocell _ _ _ hv
theorem Sp.stay (h : Sp P w s c wd nx said all r ms) (hc : Ch S w w') (hk : ∀ k, Kb s c r k → ¬ S k) (hb : ∀ b cs m, b < w.heap.size → P b → w.heap[b]? = some (.cells cs 5 m) → ¬ S b) : Sp P w' s c wd nx said all r ms := by
  obtain ⟨A, m, fs, h1, h2, h3, h4, h5⟩ := h.ex
  exact ⟨⟨A, m, fs, (hc.block s h1.lt (hk s (.inl rfl))).trans h1, h2.stay hc (fun k e => hk k (.inr (.inr (h3.symm.trans e)))), h3, h4, h5.stay hc hb⟩, h.ch.stay hc (hk c (.inr (.inl rfl))), h.nxb, h.fit⟩
theorem Sp.below (h : Sp P w s c wd nx said all r ms) (hb : Below w.heap.size w w') : Sp P w' s c wd nx said all r ms := h.stay (S := fun _ => False) (.of_below hb) (fun _ _ e => e) (fun _ _ _ _ _ _ e => e)
theorem Sp.imp (h : Sp P w s c wd nx said all r ms) (hq : ∀ b, b < w.heap.size → P b → Q b) : Sp Q w s c wd nx said all r ms := by
  obtain ⟨A, m, fs, h1, h2, h3, h4, h5⟩ := h.ex
  exact ⟨⟨A, m, fs, h1, h2, h3, h4, h5.imp hq⟩, h.ch, h.nxb, h.fit⟩
/-- Where only its own blocks are turned, bytes stay. -/
theorem Sp.bytes (h : Sp P w s c wd nx said all r ms) : ∀ b cs m, Kb s c r b → w.heap[b]? ≠ some (.cells cs 5 m) := fun b cs m hk => h.nob b cs _ m hk (by decide) (by decide)
end
end Go.Proofs.Ytkpjnikbcgngbaa.Oct
