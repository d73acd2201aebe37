/- Frames of a lane: a slice that reads as bytes, in a block of bytes of which P holds; what stays where other blocks are turned. -/
import Derived.Test.YtdhidgcjpeafnaaVbl
import Derived.Laws.OwnMore
import Derived.Laws.Entries
import Derived.Lib.SliceRun
import Derived.Lib.AppendZeros
import Derived.Deep.AppendSrc
import Derived.Conc.LoneSelect
import Derived.Test.YtdhidgcjpeafnaaBring
namespace Go.Proofs.Ytdhidgcjpeafnaa.Oct
open Go.RowKit
set_option linter.unusedVariables false

/-- All blocks but those of S stay. -/
structure Ch (S : Nat → Prop) (w w' : World) : Prop where
  os : w'.os = w.os
  tape : w'.tape = w.tape
  output : w'.output = w.output
  size : w.heap.size ≤ w'.heap.size
  block : ∀ k, k < w.heap.size → ¬ S k → w'.heap[k]? = w.heap[k]?
section
variable {S S' : Nat → Prop} {w w' w2 : World}
theorem Ch.refl (S : Nat → Prop) (w : World) : Ch S w w := ⟨rfl, rfl, rfl, Nat.le_refl _, fun _ _ _ => rfl⟩
theorem Ch.trans (h : Ch S w w') (k : Ch S' w' w2) (hs : ∀ x, x < w.heap.size → S' x → S x) : Ch S w w2 :=
  ⟨k.os.trans h.os, k.tape.trans h.tape, k.output.trans h.output, Nat.le_trans h.size k.size, fun i hi hn => (k.block i (Nat.lt_of_lt_of_le hi h.size) (fun e => hn (hs i hi e))).trans (h.block i hi hn)⟩
theorem Ch.mono (h : Ch S w w') (hs : ∀ x, x < w.heap.size → S x → S' x) : Ch S' w w' := ⟨h.os, h.tape, h.output, h.size, fun k hk hn => h.block k hk (fun e => hn (hs k hk e))⟩
theorem Ch.of_grown {r : Nat} (h : w.grownBy w' (some r)) : Ch (fun k => k = r) w w' := ⟨h.os, h.tape, h.output, h.size, fun k hk hn => h.block k hk (fun e => hn (Option.some.inj e))⟩
theorem Ch.of_grownv {v : Option Nat} (h : w.grownBy w' v) : Ch (fun k => v = some k) w w' := ⟨h.os, h.tape, h.output, h.size, fun k hk hn => h.block k hk (fun e => hn e.symm)⟩
theorem Ch.of_below (h : Below w.heap.size w w') : Ch S w w' := ⟨h.os, h.tape, h.output, h.size, fun k hk _ => h.block k hk⟩
theorem Ch.of_belowB {B : Nat} (h : Below B w w') (hs : ∀ x, x < w.heap.size → B ≤ x → S x) (hz : w.heap.size ≤ w'.heap.size) : Ch S w w' := ⟨h.os, h.tape, h.output, hz, fun k hk hn => h.block k (Nat.lt_of_not_le (fun e => hn (hs k hk e)))⟩
theorem Ch.below {B : Nat} (h : Ch S w w') (hs : ∀ x, S x → B ≤ x) (hB : B ≤ w.heap.size) : Below B w w' := ⟨h.os, h.tape, h.output, Nat.le_trans hB h.size |> fun _ => h.size, fun k hk => h.block k (by omega) (fun e => by have := hs k e; omega)⟩
end
/-- A slice of bytes as it lies: where, how long, its room, what it reads as. -/
structure FrV where
  A : Option Addr
  n : Nat
  c : Nat
  l : List Int
def FrV.val (f : FrV) : Value := .slice f.A f.n f.c
/-- It reads as its bytes, in a block of bytes of which P holds. -/
structure Fok (P : Nat → Prop) (w : World) (f : FrV) : Prop where
  small : f.n ≤ 512
  bytes : By f.l
  len : f.l.length = f.n
  le : f.n ≤ f.c
  cap : f.c ≤ maxLen
  nil : f.A = none → f.c = 0
  at_ : 0 < f.n → ∃ b off cs, f.A = some ⟨b, off, none⟩ ∧ P b ∧ w.heap[b]? = some (.cells cs 5 (0, 0)) ∧ ∀ j, j < f.n → cs[off + j]? = some (.int .u8 (f.l.getD j 0))
section
variable {P Q S : Nat → Prop} {w w' : World} {f : FrV}
theorem Fok.imp (h : Fok P w f) (hq : ∀ b, b < w.heap.size → P b → Q b) : Fok Q w f :=
  ⟨h.small, h.bytes, h.len, h.le, h.cap, h.nil, fun hn => by
    obtain ⟨b, off, cs, e, hp, hb, hc⟩ := h.at_ hn
    exact ⟨b, off, cs, e, hq b (Array.getElem?_eq_some_iff.1 hb).1 hp, hb, hc⟩⟩
/-- Where no block of bytes of which P holds is turned. -/
theorem Fok.stay (h : Fok P w f) (hc : Ch S w w') (hs : ∀ b cs m, b < w.heap.size → P b → w.heap[b]? = some (.cells cs 5 m) → ¬ S b) : Fok P w' f :=
  ⟨h.small, h.bytes, h.len, h.le, h.cap, h.nil, fun hn => by
    obtain ⟨b, off, cs, e, hp, hb, hcc⟩ := h.at_ hn
    have hlt := (Array.getElem?_eq_some_iff.1 hb).1
    exact ⟨b, off, cs, e, hp, (hc.block b hlt (hs b cs (0, 0) hlt hp hb)).trans hb, hcc⟩⟩
theorem Fok.below (h : Fok P w f) (hb : Below w.heap.size w w') : Fok P w' f := h.stay (S := fun _ => False) (.of_below hb) (fun _ _ _ _ _ _ e => e)
theorem Fok.rd (h : Fok P w f) : Rd .u8 w w.heap.size f.A f.n f.c f.l :=
  ⟨h.len, h.le, h.cap, h.nil, fun hn => by
    obtain ⟨b, off, cs, e, hp, hb, hc⟩ := h.at_ hn
    refine ⟨b, off, e, (Array.getElem?_eq_some_iff.1 hb).1, fun j hj => ?_⟩
    simp [World.cell?, hb, hc j hj]⟩
theorem Fok.of_own {base n c : Nat} {A : Option Addr} {l : List Int} (h : Own w base (.slice A n c) n l) (h512 : n ≤ 512) (hby : By l) : Fok (fun b => base ≤ b) w ⟨A, n, c, l⟩ := by
  obtain ⟨A', c', e, h1, h2, h3, h4⟩ := h.form
  injection e with e1 e2 e3
  subst e1 e3
  refine ⟨h512, hby, h.len, h1, h2, h3, fun hn => ?_⟩
  rcases h.2 with ⟨_, h5⟩ | ⟨g, cap, cur, hv, hbg, hg, hnc, hcm, hcs, htake⟩
  · have hn : 0 < n := hn
    omega
  · injection hv with hA _ _
    subst hA
    refine ⟨g, 0, cur, rfl, hbg, hg, fun j hj => ?_⟩
    have hj : j < n := hj
    have hl := h.len
    have e2 : (cur.toList.take (n * 1))[j]? = (l.map (Value.int .u8))[j]? := by rw [htake]
    rw [List.getElem?_take, if_pos (by omega), List.getElem?_map, List.getElem?_eq_getElem (show j < l.length by omega)] at e2
    rw [Nat.zero_add, ← Array.getElem?_toList, e2, List.getD_eq_getElem?_getD, List.getElem?_eq_getElem (show j < l.length by omega)]
    rfl
theorem Fok.nil_ (P : Nat → Prop) (w : World) : Fok P w ⟨none, 0, 0, []⟩ := ⟨Nat.zero_le _, By.nil, rfl, Nat.le_refl _, Nat.zero_le _, fun _ => rfl, fun h => absurd h (Nat.lt_irrefl 0)⟩
theorem Fok.empty (h : Fok P w f) (hn : f.n = 0) : Fok Q w' f := ⟨h.small, h.bytes, h.len, h.le, h.cap, h.nil, fun h2 => absurd h2 (by omega)⟩
end
/-- All of a list. -/
def Fall (P : Nat → Prop) (w : World) (fs : List FrV) : Prop := ∀ f ∈ fs, Fok P w f
section
variable {P Q S : Nat → Prop} {w w' : World} {fs gs : List FrV}
theorem Fall.imp (h : Fall P w fs) (hq : ∀ b, b < w.heap.size → P b → Q b) : Fall Q w fs := fun f hf => (h f hf).imp hq
theorem Fall.stay (h : Fall P w fs) (hc : Ch S w w') (hs : ∀ b cs m, b < w.heap.size → P b → w.heap[b]? = some (.cells cs 5 m) → ¬ S b) : Fall P w' fs := fun f hf => (h f hf).stay hc hs
theorem Fall.below (h : Fall P w fs) (hb : Below w.heap.size w w') : Fall P w' fs := fun f hf => (h f hf).below hb
theorem Fall.append (h : Fall P w fs) (k : Fall P w gs) : Fall P w (fs ++ gs) := fun f hf => (List.mem_append.1 hf).elim (h f) (k f)
theorem Fall.one {f : FrV} (h : Fok P w f) : Fall P w [f] := fun g hg => by rw [List.mem_singleton.1 hg]; exact h
theorem Fall.sub (h : Fall P w fs) (hs : ∀ f ∈ gs, f ∈ fs) : Fall P w gs := fun f hf => h f (hs f hf)
theorem Fall.none (P : Nat → Prop) (w : World) : Fall P w [] := fun f hf => by simp at hf
/-- Where a block that is no block of bytes is turned. -/
theorem Fall.other (h : Fall P w fs) (hc : Ch S w w') (hs : ∀ b cs m, S b → w.heap[b]? ≠ some (.cells cs 5 m)) : Fall P w' fs := h.stay hc (fun b cs m _ _ hb e => hs b cs m e hb)
end
section
variable {S : Nat → Prop} {w w' : World} {l c room : Nat} {fs : List FrV}
end
end Go.Proofs.Ytdhidgcjpeafnaa.Oct
