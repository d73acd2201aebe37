import Derived.Test.YtnoflfbcgbhipaaGreatVst
import Derived.Laws.OwnMore
import Derived.Laws.Entries
import Derived.Lib.SliceRun
import Derived.Lib.AppendZeros
import Derived.Deep.AppendSrc
import Derived.Conc.LoneSelect
import Derived.Test.YtnoflfbcgbhipaaGreatBring
import Derived.KernelRfl
import Derived.Test.YtnoflfbcgbhipaaGreatOctZ
import Derived.Deep.CutRange
set_option linter.unusedSimpArgs false
set_option linter.unusedVariables false
namespace Go.Proofs.YtnoflfbcgbhipaaGreat.Oct
open Go.RowKit
structure Ch (S : Nat → Prop) (w w' : World) : Prop where
 os : w'.os = w.os
 tape : w'.tape = w.tape
 output : w'.output = w.output
 size : w.heap.size ≤ w'.heap.size
 block : ∀ k, k < w.heap.size → ¬ S k → w'.heap[k]? = w.heap[k]?
section
variable {S S' : Nat → Prop} {w w' w2 : World}
theorem Ch.refl (S : Nat → Prop) (w : World) : Ch S w w := ⟨rfl, rfl, rfl, Nat.le_refl _, fun _ _ _ => rfl⟩
theorem Ch.trans (h : Ch S w w') (k : Ch S' w' w2) (hs : ∀ x, x < w.heap.size → S' x → S x) : Ch S w w2 :=
 ⟨k.os.trans h.os, k.tape.trans h.tape, k.output.trans h.output, Nat.le_trans h.size k.size, fun i hi hn => (k.block i (Nat.lt_of_lt_of_le hi h.size) (fun e => hn (hs i hi e))).trans (h.block i hi hn)⟩
theorem Ch.mono (h : Ch S w w') (hs : ∀ x, x < w.heap.size → S x → S' x) : Ch S' w w' := ⟨h.os, h.tape, h.output, h.size, fun k hk hn => h.block k hk (fun e => hn (hs k hk e))⟩
theorem Ch.of_grown {r : Nat} (h : w.grownBy w' (some r)) : Ch (fun k => k = r) w w' := ⟨h.os, h.tape, h.output, h.size, fun k hk hn => h.block k hk (fun e => hn (Option.some.inj e))⟩
theorem Ch.of_grownv {v : Option Nat} (h : w.grownBy w' v) : Ch (fun k => v = some k) w w' := ⟨h.os, h.tape, h.output, h.size, fun k hk hn => h.block k hk (fun e => hn e.symm)⟩
theorem Ch.of_below (h : Below w.heap.size w w') : Ch S w w' := ⟨h.os, h.tape, h.output, h.size, fun k hk _ => h.block k hk⟩
theorem Ch.below {B : Nat} (h : Ch S w w') (hs : ∀ x, S x → B ≤ x) (hB : B ≤ w.heap.size) : Below B w w' := ⟨h.os, h.tape, h.output, Nat.le_trans hB h.size |> fun _ => h.size, fun k hk => h.block k (by omega) (fun e => by have := hs k e; omega)⟩
end
structure FrV where
 A : Option Addr
 n : Nat
 c : Nat
 l : List Int
def FrV.val (f : FrV) : Value := .slice f.A f.n f.c
structure Fok (P : Nat → Prop) (w : World) (f : FrV) : Prop where
 small : f.n ≤ 512
 bytes : By f.l
 len : f.l.length = f.n
 le : f.n ≤ f.c
 cap : f.c ≤ maxLen
 nil : f.A = none → f.c = 0
 at_ : 0 < f.n → ∃ b off cs, f.A = some ⟨b, off, none⟩ ∧ P b ∧ w.heap[b]? = some (.cells cs 5 (0, 0)) ∧ ∀ j, j < f.n → cs[off + j]? = some (.int .u8 (f.l.getD j 0))
section
variable {P Q S : Nat → Prop} {w w' : World} {f : FrV}
theorem Fok.imp (h : Fok P w f) (hq : ∀ b, b < w.heap.size → P b → Q b) : Fok Q w f :=
 ⟨h.small, h.bytes, h.len, h.le, h.cap, h.nil, fun hn => by
  obtain ⟨b, off, cs, e, hp, hb, hc⟩ := h.at_ hn
  exact ⟨b, off, cs, e, hq b (Array.getElem?_eq_some_iff.1 hb).1 hp, hb, hc⟩⟩
theorem Fok.stay (h : Fok P w f) (hc : Ch S w w') (hs : ∀ b cs m, b < w.heap.size → P b → w.heap[b]? = some (.cells cs 5 m) → ¬ S b) : Fok P w' f :=
 ⟨h.small, h.bytes, h.len, h.le, h.cap, h.nil, fun hn => by
  obtain ⟨b, off, cs, e, hp, hb, hcc⟩ := h.at_ hn
  have hlt := (Array.getElem?_eq_some_iff.1 hb).1
  exact ⟨b, off, cs, e, hp, (hc.block b hlt (hs b cs (0, 0) hlt hp hb)).trans hb, hcc⟩⟩
theorem Fok.below (h : Fok P w f) (hb : Below w.heap.size w w') : Fok P w' f := h.stay (S := fun _ => False) (.of_below hb) (fun _ _ _ _ _ _ e => e)
theorem Fok.rd (h : Fok P w f) : Rd .u8 w w.heap.size f.A f.n f.c f.l :=
 ⟨h.len, h.le, h.cap, h.nil, fun hn => by
  obtain ⟨b, off, cs, e, hp, hb, hc⟩ := h.at_ hn
  refine ⟨b, off, e, (Array.getElem?_eq_some_iff.1 hb).1, fun j hj => ?_⟩
  simp [World.cell?, hb, hc j hj]⟩
theorem Fok.of_own {base n c : Nat} {A : Option Addr} {l : List Int} (h : Own w base (.slice A n c) n l) (h512 : n ≤ 512) (hby : By l) : Fok (fun b => base ≤ b) w ⟨A, n, c, l⟩ := by
 obtain ⟨A', c', e, h1, h2, h3, h4⟩ := h.form
 injection e with e1 e2 e3
 subst e1 e3
 refine ⟨h512, hby, h.len, h1, h2, h3, fun hn => ?_⟩
 rcases h.2 with ⟨_, h5⟩ | ⟨g, cap, cur, hv, hbg, hg, hnc, hcm, hcs, htake⟩
 ·have hn : 0 < n := hn
  omega
 ·injection hv with hA _ _
  subst hA
  refine ⟨g, 0, cur, rfl, hbg, hg, fun j hj => ?_⟩
  have hj : j < n := hj
  have hl := h.len
  have e2 : (cur.toList.take (n * 1))[j]? = (l.map (Value.int .u8))[j]? := by rw [htake]
  rw [List.getElem?_take, if_pos (by omega), List.getElem?_map, List.getElem?_eq_getElem (show j < l.length by omega)] at e2
  rw [Nat.zero_add, ← Array.getElem?_toList, e2, List.getD_eq_getElem?_getD, List.getElem?_eq_getElem (show j < l.length by omega)]
  rfl
theorem Fok.nil_ (P : Nat → Prop) (w : World) : Fok P w ⟨none, 0, 0, []⟩ := ⟨Nat.zero_le _, By.nil, rfl, Nat.le_refl _, Nat.zero_le _, fun _ => rfl, fun h => absurd h (Nat.lt_irrefl 0)⟩
end
def Fall (P : Nat → Prop) (w : World) (fs : List FrV) : Prop := ∀ f ∈ fs, Fok P w f
section
variable {P Q S : Nat → Prop} {w w' : World} {fs gs : List FrV}
theorem Fall.imp (h : Fall P w fs) (hq : ∀ b, b < w.heap.size → P b → Q b) : Fall Q w fs := fun f hf => (h f hf).imp hq
theorem Fall.stay (h : Fall P w fs) (hc : Ch S w w') (hs : ∀ b cs m, b < w.heap.size → P b → w.heap[b]? = some (.cells cs 5 m) → ¬ S b) : Fall P w' fs := fun f hf => (h f hf).stay hc hs
theorem Fall.below (h : Fall P w fs) (hb : Below w.heap.size w w') : Fall P w' fs := fun f hf => (h f hf).below hb
theorem Fall.append (h : Fall P w fs) (k : Fall P w gs) : Fall P w (fs ++ gs) := fun f hf => (List.mem_append.1 hf).elim (h f) (k f)
theorem Fall.one {f : FrV} (h : Fok P w f) : Fall P w [f] := fun g hg => by rw [List.mem_singleton.1 hg]; exact h
theorem Fall.sub (h : Fall P w fs) (hs : ∀ f ∈ gs, f ∈ fs) : Fall P w gs := fun f hf => h f (hs f hf)
theorem Fall.none (P : Nat → Prop) (w : World) : Fall P w [] := fun f hf => by simp at hf
theorem Fall.other (h : Fall P w fs) (hc : Ch S w w') (hs : ∀ b cs m, S b → w.heap[b]? ≠ some (.cells cs 5 m)) : Fall P w' fs := h.stay hc (fun b cs m _ _ hb e => hs b cs m e hb)
end
section
variable {S : Nat → Prop} {w w' : World} {l c room : Nat} {fs : List FrV}
end
open Go.Conc Go.RowKit
section
variable {w : World} {l c room : Nat} {fs : List FrV}
end
section
variable {w : World} {l c room : Nat} {fs a b : List FrV} {f : FrV}
end
theorem cloneB_any {w : World} {B n c : Nat} {A : Option Addr} {l : List Int} (h : Rd .u8 w B A n c l) (hB : B ≤ w.heap.size) (hsz : n ≤ 512) (hby : By l) : Calls Tryz.prog 157 #[.slice A n c] w fun e w' => ∃ g : FrV, e = .returned g.val ∧ g.l = l ∧ g.n = n ∧ Fok (fun b => w.heap.size ≤ b) w' g ∧ Below w.heap.size w w' := by
 have hb0 := below_alloc w (.cells #[] 5)
 have hO : Own (w.alloc (.cells #[] 5)) w.heap.size (.slice (some ⟨w.heap.size, 0, none⟩) 0 0) 0 [] := World.ownsRow_made w #[] 0 (Nat.le_refl _) (Nat.zero_le _) rfl
 have hr := h.below' hb0 hB
 have hz : w.heap.size ≤ (w.alloc (.cells #[] 5)).heap.size := hb0.size
 have hc := h.2.2.2.1
 have hle := h.le
 have hl := h.len
 have hq : (binOp .eql 52 (.slice A n c) (.slice none 0 0)).run Tryz.prog w = .ok (.bool A.isNone) w := Lib.run_eql_slice_nil w _ _ A n c 0 0 Tryz.underlying52
 rcases A with _ | ad
 ·obtain rfl := hc rfl
  obtain rfl : n = 0 := by omega
  obtain rfl := List.eq_nil_of_length_eq_zero hl
  simp only [Option.isNone_none] at hq
  go_enter Tryz.func157, Tryz.ntmps157
  go_wp2_with fail
  go_ret
  exact ⟨⟨none, 0, 0, []⟩, rfl, rfl, rfl, Fok.nil_ _ _, Below.refl _ _⟩
 ·simp only [Option.isNone_some] at hq
  obtain ⟨A', c', w', hrun, h2, h3⟩ := run_append8 52 hO hr (by omega) hz
  rw [Nat.zero_add] at hrun h2
  rw [List.nil_append] at h2
  go_enter Tryz.func157, Tryz.ntmps157
  go_wp2_with (at_builtin; refine Lib.wpList_append_run _ rfl _ _ _ _ rfl _ _ rfl rfl _ _ hrun ?_)
  go_ret
  exact ⟨⟨A', n, c', l⟩, rfl, rfl, rfl, Fok.of_own h2 hsz hby, hb0.trans h3⟩
section
variable {w : World} {l c room : Nat} {fs a b : List FrV} {f : FrV}
def putE (n len room : Nat) : Int := if 512 < n then 5 else if room ≤ len then 7 else 0
end
def Orw (w : World) (base : Nat) (v : Value) (n : Nat) (fs : List FrV) : Prop := w.ownsRow base 52 1 v n (fs.map FrV.val)
def Rr (w : World) (B : Nat) (A : Option Addr) (n c : Nat) (fs : List FrV) : Prop :=
 fs.length = n ∧ n ≤ c ∧ c ≤ maxLen ∧ (A = none → c = 0) ∧ (0 < n → ∃ b off, A = some ⟨b, off, none⟩ ∧ b < B ∧ ∀ (j : Nat) (f : FrV), fs[j]? = some f → w.cell? ⟨b, off + j, none⟩ = some f.val)
theorem info_sl8 : (Tryz.prog.info? 52).map (fun i => (i.zero, i.size, i.bytes)) = some (some (.slice none 0 0), 1, 24) := by kernel_rfl
section
variable {w w' : World} {base B n : Nat} {v : Value} {fs gs : List FrV}
theorem Orw.len (h : Orw w base v n fs) : fs.length = n := by have := h.1; simpa using this
theorem Orw.form (h : Orw w base v n fs) : ∃ A c, v = .slice A n c ∧ n ≤ c ∧ c ≤ maxLen ∧ (A = none → c = 0) ∧ (∀ a, A = some a → ∃ g, a = ⟨g, 0, none⟩ ∧ base ≤ g ∧ g < w.heap.size) := by
 rcases h.2 with ⟨rfl, rfl⟩ | ⟨g, cap, cur, rfl, hbg, hg, hnc, hcm, _⟩
 ·exact ⟨none, 0, rfl, Nat.le_refl _, Nat.zero_le _, fun _ => rfl, fun a h => by simp at h⟩
 ·exact ⟨some ⟨g, 0, none⟩, cap, rfl, hnc, hcm, fun h => by simp at h, fun a h => ⟨g, by simpa using h.symm, hbg, (Array.getElem?_eq_some_iff.1 hg).1⟩⟩
theorem Orw.lt (h : Orw w base v n fs) : ∀ k, v.ownBlock = some k → base ≤ k ∧ k < w.heap.size := World.ownsRow.lt h
theorem Orw.stay {S : Nat → Prop} (h : Orw w base v n fs) (hc : Ch S w w') (hs : ∀ k, v.ownBlock = some k → ¬ S k) : Orw w' base v n fs := by
 refine ⟨h.1, ?_⟩
 rcases h.2 with h2 | ⟨g, cap, cur, e, hbg, hg, r⟩
 ·exact .inl h2
 ·exact .inr ⟨g, cap, cur, e, hbg, (hc.block g (Array.getElem?_eq_some_iff.1 hg).1 (hs g (by rw [e]; rfl))).trans hg, r⟩
theorem Orw.below (h : Orw w base v n fs) (hb : Below w.heap.size w w') : Orw w' base v n fs := h.stay (S := fun _ => False) (.of_below hb) (fun _ _ e => e)
theorem Rr.at_ {A : Option Addr} {c : Nat} (h : Rr w B A n c fs) (hn : 0 < n) : ∃ b off, A = some ⟨b, off, none⟩ ∧ b < B ∧ ∀ (j : Nat) (f : FrV), fs[j]? = some f → w.cell? ⟨b, off + j, none⟩ = some f.val := h.2.2.2.2 hn
theorem Rr.below {A : Option Addr} {c : Nat} (h : Rr w B A n c fs) (hb : Below B w w') : Rr w' B A n c fs :=
 ⟨h.1, h.2.1, h.2.2.1, h.2.2.2.1, fun hn => by
  obtain ⟨b, off, e, hlt, hc⟩ := h.at_ hn
  exact ⟨b, off, e, hlt, fun j f hj => (hb.cell (p := ⟨b, _, none⟩) hlt).trans (hc j f hj)⟩⟩
end
section
variable {w : World} {l c room : Nat} {fs : List FrV}
end
end Go.Proofs.YtnoflfbcgbhipaaGreat.Oct
