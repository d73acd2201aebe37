import Derived.Test.YtnoflfbcgbhipaaGreatLanE
import Derived.MapKept
import Derived.Test.YtnoflfbcgbhipaaGreatSerA
import Derived.Carry
set_option linter.unusedSimpArgs false
set_option linter.unusedVariables false
namespace Go.Proofs.YtnoflfbcgbhipaaGreat.Oct
open Go.RowKit
abbrev u16V (k : Int) : Value := .int .u16 k
abbrev oneV (v : Value) : Value := .agg #[v]
def ixK : List (Int × Value) → Int → Option (Nat × Value)
 | [], _ => none
 | (a, v) :: r, k => if k = a then some (0, v) else (ixK r k).map fun x => (x.1 + 1, x.2)
def fndK (es : List (Int × Value)) (k : Int) : Option Value := (ixK es k).map (·.2)
def Saying (ms : List MapEntry) (es : List (Int × Value)) : Prop := ms.map (fun m => (m.key, m.val)) = es.map (fun e => (u16V e.1, oneV e.2))
theorem findNow_eq (k : Int) : ∀ (ms : List MapEntry) (es : List (Int × Value)) (j : Nat), Saying ms es → Instr.findNow (.int .u16) (u16V k) ms j = some ((ixK es k).map fun x => (x.1 + j, oneV x.2))
 | [], [], j, _ => rfl
 | [], e :: es, j, h => by simp [Saying] at h
 | m :: ms, [], j, h => by simp [Saying] at h
 | m :: ms, (a, v) :: es, j, h => by
  have h2 : (m.key, m.val) = (u16V a, oneV v) ∧ Saying ms es := by unfold Saying at h ⊢; simpa using h
  obtain ⟨h3, h4⟩ := h2
  obtain ⟨mk, mv, mb⟩ := m
  injection h3 with h5 h6
  have h5 : mk = u16V a := h5
  have h6 : mv = oneV v := h6
  subst h5 h6
  have ih := findNow_eq k ms es (j + 1) h4
  by_cases e : k = a
  ·subst e
   simp [Instr.findNow, Instr.sameNow, ixK]
  ·have e2 : (k == a) = false := by simpa using e
   simp only [Instr.findNow, Instr.sameNow, if_true, e2, ih, ixK, if_neg e]
   cases ixK es k with
   | none => rfl
   | some x => simp [Nat.add_assoc, Nat.add_comm 1 j]
theorem map_erase {α β : Type} (g : α → β) : ∀ (l : List α) (i : Nat), (l.eraseIdx i).map g = (l.map g).eraseIdx i
 | [], i => by simp
 | x :: r, 0 => rfl
 | x :: r, i + 1 => by simp [map_erase g r i]
theorem ixK_key : ∀ (es : List (Int × Value)) (k : Int) (i : Nat) (v : Value), ixK es k = some (i, v) → es[i]? = some (k, v)
 | [], k, i, v, h => by simp [ixK] at h
 | (a, u) :: r, k, i, v, h => by
  unfold ixK at h
  split at h
  ·rename_i e; subst e; simp at h; obtain ⟨rfl, rfl⟩ := h; rfl
  ·cases hq : ixK r k with
   | none => rw [hq] at h; simp at h
   | some x =>
    rw [hq] at h
    obtain ⟨i2, v2⟩ := x
    simp at h
    obtain ⟨rfl, rfl⟩ := h
    simpa using ixK_key r k i2 v2 hq
theorem ixK_none : ∀ (es : List (Int × Value)) (k : Int), ixK es k = none ↔ k ∉ es.map Prod.fst
 | [], k => by simp [ixK]
 | (a, u) :: r, k => by
  have ih := ixK_none r k
  unfold ixK
  by_cases e : k = a
  ·simp [e]
  ·simp [e] at ih ⊢; exact ih
theorem fndK_none {es : List (Int × Value)} {k : Int} : fndK es k = none ↔ k ∉ es.map Prod.fst := by unfold fndK; rw [Option.map_eq_none_iff]; exact ixK_none es k
theorem fndK_snoc : ∀ (es : List (Int × Value)) (a : Int) (v : Value) (k : Int), fndK es a = none → fndK (es ++ [(a, v)]) k = if k = a then some v else fndK es k
 | [], a, v, k, h => by
  by_cases e : k = a
  ·simp [fndK, ixK, e]
  ·simp [fndK, ixK, e]
 | (b, u) :: r, a, v, k, h => by
  have hb : a ≠ b ∧ fndK r a = none := by
   unfold fndK ixK at h
   by_cases e : a = b
   ·simp [e] at h
   ·simp [e] at h; exact ⟨e, by unfold fndK; simp [h]⟩
  have ih := fndK_snoc r a v k hb.2
  have step : ∀ l : List (Int × Value), fndK ((b, u) :: l) k = if k = b then some u else fndK l k := by
   intro l
   unfold fndK
   by_cases e : k = b
   ·simp [ixK, e]
   ·simp only [ixK, if_neg e, Option.map_map]; rfl
  rw [List.cons_append, step, step, ih]
  by_cases e1 : k = b
  ·have : k ≠ a := fun e => hb.1 (e.symm.trans e1)
   simp [e1, Ne.symm hb.1]
  ·simp [e1]
theorem fndK_cons (b : Int) (u : Value) (l : List (Int × Value)) (k : Int) : fndK ((b, u) :: l) k = if k = b then some u else fndK l k := by
 unfold fndK
 by_cases e : k = b
 ·simp [ixK, e]
 ·simp only [ixK, if_neg e, Option.map_map]; rfl
theorem fndK_erase : ∀ (es : List (Int × Value)) (a : Int) (i : Nat) (v : Value) (k : Int), (es.map Prod.fst).Nodup → ixK es a = some (i, v) → fndK (es.eraseIdx i) k = if k = a then none else fndK es k
 | [], a, i, v, k, _, h => by simp [ixK] at h
 | (b, u) :: r, a, i, v, k, hd, h => by
  have hd2 : b ∉ r.map Prod.fst ∧ (r.map Prod.fst).Nodup := by simpa using hd
  unfold ixK at h
  by_cases e : a = b
  ·rw [if_pos e] at h
   simp at h
   obtain ⟨rfl, rfl⟩ := h
   rw [List.eraseIdx_cons_zero, fndK_cons]
   by_cases e2 : k = a
   ·subst e2; subst e
    rw [if_pos rfl]
    exact fndK_none.2 hd2.1
   ·rw [if_neg e2, if_neg (fun e3 => e2 (e3.trans e.symm))]
  ·rw [if_neg e] at h
   cases hq : ixK r a with
   | none => rw [hq] at h; simp at h
   | some x =>
    obtain ⟨i2, v2⟩ := x
    rw [hq] at h
    simp at h
    obtain ⟨rfl, rfl⟩ := h
    rw [List.eraseIdx_cons_succ, fndK_cons, fndK_cons, fndK_erase r a i2 v2 k hd2.2 hq]
    by_cases e2 : k = b
    ·have : k ≠ a := fun e3 => e (e3.symm.trans e2)
     simp [e2, Ne.symm e]
    ·simp [e2]
def Mf (w : World) (b : Nat) (f : Int → Option Value) (n : Nat) : Prop :=
 ∃ (ms : List MapEntry) (clock : Nat) (es : List (Int × Value)), w.heap[b]? = some (.map ms.toArray clock) ∧ Saying ms es ∧ (es.map Prod.fst).Nodup ∧ es.length = n ∧ ∀ k, fndK es k = f k
def setF (f : Int → Option Value) (a : Int) (o : Option Value) : Int → Option Value := fun k => if k = a then o else f k
section
variable {w w' : World} {b n : Nat} {f : Int → Option Value} {S : Nat → Prop}
theorem Mf.lt (h : Mf w b f n) : b < w.heap.size := by obtain ⟨ms, c, es, h1, _⟩ := h; exact (Array.getElem?_eq_some_iff.1 h1).1
theorem Mf.keep (h : Mf w b f n) (e : w'.heap[b]? = w.heap[b]?) : Mf w' b f n := by obtain ⟨ms, c, es, h1, h2⟩ := h; exact ⟨ms, c, es, e.trans h1, h2⟩
theorem Mf.stay (h : Mf w b f n) (hc : Ch S w w') (hs : ¬ S b) : Mf w' b f n := h.keep (hc.block b h.lt hs)
theorem Mf.below (h : Mf w b f n) (hb : Below w.heap.size w w') : Mf w' b f n := h.keep (hb.block b h.lt)
theorem Mf.nocell (h : Mf w b f n) (cs : Array Value) (t : TypeId) (m : Nat × Nat) : w.heap[b]? ≠ some (.cells cs t m) := by obtain ⟨ms, c, es, h1, _⟩ := h; rw [h1]; simp
theorem Mf.new (w : World) : Mf (w.alloc (.map #[] 0)) w.heap.size (fun _ => none) 0 := ⟨[], 0, [], (MapKept.heap_alloc w _).1, rfl, by simp, rfl, fun _ => rfl⟩
theorem Mf.cong (h : Mf w b f n) {g : Int → Option Value} {m : Nat} (hg : f = g) (hm : n = m) : Mf w b g m := by subst hg hm; exact h
variable {T E : TypeId}
theorem run_checkU (hK : Tryz.prog.underlying 187 = some (.int .u16)) (em : Bool) (k : Int) (w : World) : (Instr.checkKey em 10000 187 (u16V k)).run Tryz.prog w = .ok () w := by
 rw [show (10000 : Nat) = 9999 + 1 from rfl, Instr.checkKey]
 simp [run_underlying hK]
theorem run_findU (hK : Tryz.prog.underlying 187 = some (.int .u16)) {ms : List MapEntry} {es : List (Int × Value)} (h : Saying ms es) (k : Int) (w : World) : (Instr.findKey 187 (u16V k) ms).run Tryz.prog w = .ok ((ixK es k).map fun x => (x.1, oneV x.2)) w := by
 unfold Instr.findKey
 rw [Sem.run_bind, run_underlying hK]
 have := findNow_eq k ms es 0 h
 simp only [Nat.add_zero] at this
 simp [this]
def lkR (z : Value) (o : Option Value) : Value := .tuple #[oneV (o.getD z), .bool o.isSome]
theorem run_lookM (hT : Tryz.prog.underlying T = some (.map 187 E)) (hK : Tryz.prog.underlying 187 = some (.int .u16)) {z : Value} (hz : ∀ w, (zeroValue E).run Tryz.prog w = .ok (oneV z) w) (h : Mf w b f n) (k : Int) :
  (Instr.lookup T (.map (some b)) (u16V k) true).run Tryz.prog w = .ok (lkR z (f k)) w := by
 obtain ⟨ms, c, es, h1, h2, h3, h4, h5⟩ := h
 have hf := run_findU hK h2 k w
 rw [← h5 k]
 unfold fndK lkR
 cases hq : ixK es k with
 | none =>
  rw [hq] at hf
  simp [Instr.lookup, run_underlying hT, MapKept.run_getObj_map h1, run_checkU hK, hf, hz, Result.andThen]
 | some x =>
  rw [hq] at hf
  simp [Instr.lookup, run_underlying hT, MapKept.run_getObj_map h1, run_checkU hK, hf, Result.andThen]
theorem run_updM (hT : Tryz.prog.underlying T = some (.map 187 E)) (hK : Tryz.prog.underlying 187 = some (.int .u16)) (h : Mf w b f n) (k : Int) (v : Value) (hn : f k = none) :
  ∃ w', (Instr.mapUpdate T (.map (some b)) (u16V k) (oneV v)).run Tryz.prog w = .ok () w' ∧ Mf w' b (setF f k (some v)) (n + 1) ∧ Ch (fun x => x = b) w w' := by
 obtain ⟨ms, c, es, h1, h2, h3, h4, h5⟩ := h
 have hf := run_findU hK h2 k w
 have hx : ixK es k = none := by have := h5 k; rw [hn] at this; unfold fndK at this; simpa using this
 rw [hx] at hf
 have hst := MapKept.heap_set (o' := .map (ms.toArray.push ⟨u16V k, oneV v, c⟩) (c + 1)) h1
 refine ⟨{ w with heap := w.heap.setIfInBounds b (.map (ms.toArray.push ⟨u16V k, oneV v, c⟩) (c + 1)) }, ?_, ⟨ms ++ [⟨u16V k, oneV v, c⟩], c + 1, es ++ [(k, v)], ?_, ?_, ?_, by simp [h4], fun k' => ?_⟩, ⟨rfl, rfl, rfl, by simp, fun i _ hi => hst.2 i hi⟩⟩
 ·simp [Instr.mapUpdate, run_underlying hT, MapKept.run_getObj_map h1, run_checkU hK, hf, MapKept.run_setObj_map _ h1, Result.andThen]
 ·have := hst.1
  simpa using this
 ·unfold Saying at h2 ⊢
  rw [List.map_append, List.map_append, h2]
  rfl
 ·rw [List.map_append]
  have := (ixK_none es k).1 hx
  simp only [List.map_cons, List.map_nil]
  rw [List.nodup_append]
  refine ⟨h3, by simp, fun a ha b' hb e => ?_⟩
  simp at hb
  subst hb
  exact this (e ▸ ha)
 ·rw [fndK_snoc es k v k' (by unfold fndK; rw [hx]; rfl), h5 k']
  rfl
theorem run_delM (hT : Tryz.prog.underlying T = some (.map 187 E)) (hK : Tryz.prog.underlying 187 = some (.int .u16)) (h : Mf w b f n) (ty : TypeId) (k : Int) (v : Value) (hn : f k = some v) :
  ∃ w', (Builtin.delete_ #[T, 187] ty #[.map (some b), u16V k]).run Tryz.prog w = .ok (.tuple #[]) w' ∧ Mf w' b (setF f k none) (n - 1) ∧ Ch (fun x => x = b) w w' := by
 obtain ⟨ms, c, es, h1, h2, h3, h4, h5⟩ := h
 have hf := run_findU hK h2 k w
 obtain ⟨i, hx⟩ : ∃ i, ixK es k = some (i, v) := by
  have := h5 k
  rw [hn] at this
  unfold fndK at this
  cases hq : ixK es k with
  | none => rw [hq] at this; simp at this
  | some x => rw [hq] at this; simp at this; exact ⟨x.1, by rw [← this]⟩
 rw [hx] at hf
 have hil : i < es.length := (List.getElem?_eq_some_iff.1 (ixK_key es k i v hx)).1
 have hml : ms.length = es.length := by have := congrArg List.length h2; simpa using this
 have hst := MapKept.heap_set (o' := .map (ms.eraseIdx i).toArray c) h1
 refine ⟨{ w with heap := w.heap.setIfInBounds b (.map (ms.eraseIdx i).toArray c) }, ?_, ⟨ms.eraseIdx i, c, es.eraseIdx i, ?_, ?_, ?_, ?_, fun k' => ?_⟩, ⟨rfl, rfl, rfl, by simp, fun j _ hj => hst.2 j hj⟩⟩
 ·simp [Builtin.delete_, run_underlying hT, MapKept.run_getObj_map h1, run_checkU hK, hf, MapKept.run_setObj_map _ h1, Result.andThen]
 ·have := hst.1
  simpa using this
 ·unfold Saying at h2 ⊢
  rw [map_erase, map_erase, h2]
 ·rw [map_erase]
  exact h3.sublist (List.eraseIdx_sublist _ _)
 ·rw [List.length_eraseIdx, if_pos hil, h4]
 ·rw [fndK_erase es k i v k' h3 hx, h5 k']
  rfl
end
def Vr (E : TypeId) (w : World) (base : Nat) (v : Value) (n : Nat) (xs : List Value) : Prop := w.ownsRow base E 1 v n xs
def Vd (w : World) (B : Nat) (A : Option Addr) (n c : Nat) (xs : List Value) : Prop :=
 xs.length = n ∧ n ≤ c ∧ c ≤ maxLen ∧ (A = none → c = 0) ∧ (0 < n → ∃ b off, A = some ⟨b, off, none⟩ ∧ b < B ∧ ∀ (j : Nat) (u : Value), xs[j]? = some u → w.cell? ⟨b, off + j, none⟩ = some u)
section
variable {E : TypeId} {w w' : World} {base B n : Nat} {v : Value} {xs ys : List Value}
theorem Vr.len (h : Vr E w base v n xs) : xs.length = n := by have := h.1; simpa using this
theorem Vr.form (h : Vr E w base v n xs) : ∃ A c, v = .slice A n c ∧ n ≤ c ∧ c ≤ maxLen ∧ (A = none → c = 0) ∧ (∀ a, A = some a → ∃ g, a = ⟨g, 0, none⟩ ∧ base ≤ g ∧ g < w.heap.size) := by
 rcases h.2 with ⟨rfl, rfl⟩ | ⟨g, cap, cur, rfl, hbg, hg, hnc, hcm, _⟩
 ·exact ⟨none, 0, rfl, Nat.le_refl _, Nat.zero_le _, fun _ => rfl, fun a h => by simp at h⟩
 ·exact ⟨some ⟨g, 0, none⟩, cap, rfl, hnc, hcm, fun h => by simp at h, fun a h => ⟨g, by simpa using h.symm, hbg, (Array.getElem?_eq_some_iff.1 hg).1⟩⟩
theorem Vr.lt (h : Vr E w base v n xs) : ∀ k, v.ownBlock = some k → base ≤ k ∧ k < w.heap.size := World.ownsRow.lt h
theorem Vr.typed (h : Vr E w base v n xs) : ∀ k, v.ownBlock = some k → ∃ cur, w.heap[k]? = some (.cells cur E (0, 0)) := by
 intro k hk
 rcases h.2 with ⟨rfl, _⟩ | ⟨g, cap, cur, rfl, hbg, hg, _⟩
 ·simp [Value.ownBlock] at hk
 ·simp [Value.ownBlock] at hk
  subst hk
  exact ⟨cur, hg⟩
theorem Vr.stay {S : Nat → Prop} (h : Vr E w base v n xs) (hc : Ch S w w') (hs : ∀ k, v.ownBlock = some k → ¬ S k) : Vr E w' base v n xs := by
 refine ⟨h.1, ?_⟩
 rcases h.2 with h2 | ⟨g, cap, cur, e, hbg, hg, r⟩
 ·exact .inl h2
 ·exact .inr ⟨g, cap, cur, e, hbg, (hc.block g (Array.getElem?_eq_some_iff.1 hg).1 (hs g (by rw [e]; rfl))).trans hg, r⟩
theorem Vr.below (h : Vr E w base v n xs) (hb : Below w.heap.size w w') : Vr E w' base v n xs := h.stay (S := fun _ => False) (.of_below hb) (fun _ _ e => e)
theorem Vr.vd {A : Option Addr} {c : Nat} (h : Vr E w base (.slice A n c) n xs) : Vd w w.heap.size A n c xs := by
 obtain ⟨A', c', e, h1, h2, h3, h4⟩ := h.form
 injection e with e1 e2 e3
 subst e1 e3
 refine ⟨h.len, h1, h2, h3, fun hn => ?_⟩
 obtain ⟨g, cap, hv, _, hlt⟩ := World.ownsRow.form h hn
 injection hv with hA _ _
 subst hA
 refine ⟨g, 0, rfl, hlt, fun j u hj => ?_⟩
 have := World.ownsRow.cells h (g := g) rfl j u hj
 rw [← add_addr]; exact this
theorem Vd.len {A : Option Addr} {c : Nat} (h : Vd w B A n c xs) : xs.length = n := h.1
theorem Vd.le {A : Option Addr} {c : Nat} (h : Vd w B A n c xs) : n ≤ c := h.2.1
theorem Vd.at_ {A : Option Addr} {c : Nat} (h : Vd w B A n c xs) (hn : 0 < n) : ∃ b off, A = some ⟨b, off, none⟩ ∧ b < B ∧ ∀ (j : Nat) (u : Value), xs[j]? = some u → w.cell? ⟨b, off + j, none⟩ = some u := h.2.2.2.2 hn
theorem Vd.below {A : Option Addr} {c : Nat} (h : Vd w B A n c xs) (hb : Below B w w') : Vd w' B A n c xs :=
 ⟨h.1, h.2.1, h.2.2.1, h.2.2.2.1, fun hn => by
  obtain ⟨b, off, e, hlt, hc⟩ := h.at_ hn
  exact ⟨b, off, e, hlt, fun j u hj => (hb.cell (p := ⟨b, _, none⟩) hlt).trans (hc j u hj)⟩⟩
theorem vd_lit (E : TypeId) (w : World) (xs : List Value) (hB : w.heap.size < B) (hl : xs.length ≤ 1000000000) : Vd (w.alloc (.cells xs.toArray E)) B (some ⟨w.heap.size, 0, none⟩) xs.length xs.length xs :=
 ⟨rfl, Nat.le_refl _, by unfold maxLen; omega, fun e => by simp at e, fun hn => ⟨w.heap.size, 0, rfl, hB, fun j f hj => by
  rw [Nat.zero_add, World.cell?_alloc_new]
  simp [hj]⟩⟩
theorem run_appendV {T : TypeId} (hT : Tryz.prog.underlying T = some (.slice E)) {z : Value} {bytes : Nat} (hinfo : (Tryz.prog.info? E).map (fun i => (i.zero, i.size, i.bytes)) = some (some z, 1, bytes)) (hzc : z.cells.size = 1) (hby : bytes ≤ 24) (ty : TypeId)
  {m c : Nat} {A : Option Addr} (hown : Vr E w base v n xs) (hr : Vd w B A m c ys) (h1 : ∀ u ∈ ys, u.oneCell' = true)
  (hsz : n + m ≤ 1000000000) (hbase : base ≤ w.heap.size) :
  ∃ A' c' w', (Builtin.append_ #[T, T] ty #[v, .slice A m c]).run Tryz.prog w = .ok (.slice A' (n + m) c') w' ∧ Vr E w' base (.slice A' (n + m) c') (n + m) (xs ++ ys) ∧ Ch (fun k => v.ownBlock = some k) w w' ∧ ((Value.slice A' (n + m) c').ownBlock = v.ownBlock ∨ ∀ k, (Value.slice A' (n + m) c').ownBlock = some k → w.heap.size ≤ k) := by
 obtain ⟨i0, hi, hz0, hz1, hz2⟩ := info_parts hinfo
 rcases A with _ | ad
 ·have hc : c = 0 := hr.2.2.2.1 rfl
  have hm : m = 0 := by have := hr.le; omega
  subst hc hm
  have hl2 : ys = [] := List.eq_nil_of_length_eq_zero hr.len
  subst hl2
  obtain ⟨A', c', e, _⟩ := hown.form
  subst e
  exact ⟨A', c', w, run_append_owned_none (P := Tryz.prog) (w := w) base T ty E i0 1 hT hi _ n _ hown, by simpa using hown, Ch.refl _ _, .inl rfl⟩
 ·have hcells : ∀ j u, ys[j]? = some u → w.cell? (ad.add j) = some u := by
   intro j u hu
   have hjl := (List.getElem?_eq_some_iff.1 hu).1
   obtain ⟨b, off, e, _, hc⟩ := hr.at_ (by have := hr.len; omega)
   have e := Option.some.inj e
   subst e
   rw [add_addr]
   exact hc j u hu
  obtain ⟨v', w', hrun, h2, h3, h4, h5⟩ := run_append_own_at (P := Tryz.prog) w base T ty E i0 _ 1 bytes hT hi hz0 hz1 hz2 hzc (by omega) v n _ hown ad m c ys (by simp [hr.len]) hcells
   h1 (by unfold maxLen; omega) (by have : (n + m) * bytes ≤ 1000000000 * 24 := Nat.mul_le_mul hsz hby; omega) hbase
  obtain ⟨A', c', e, _⟩ := Vr.form (E := E) h2
  subst e
  exact ⟨A', c', w', hrun, h2, .of_grownv h3, h5.imp id fun e k hk => by rw [e] at hk; have := Option.some.inj hk; omega⟩
end
abbrev OV := Option Value
def kpt (nx : Int) (p0 p1 p2 p3 : OV) : Int → OV := fun k => if k = nx then p0 else if k = Ser.plusP nx 1 then p1 else if k = Ser.plusP nx 2 then p2 else if k = Ser.plusP nx 3 then p3 else none
def one1 (o : OV) : Nat := if o.isSome then 1 else 0
def cnt (p1 p2 p3 : OV) : Nat := one1 p1 + one1 p2 + one1 p3
theorem plusP_bd (a n : Int) : 0 ≤ Ser.plusP a n ∧ Ser.plusP a n < 65536 := by unfold Ser.plusP; omega
section
variable {nx : Int} {p0 p1 p2 p3 : OV}
theorem kpt_1 (h0 : 0 ≤ nx) (h1 : nx < 65536) : kpt nx p0 p1 p2 p3 (Ser.plusP nx 1) = p1 := by unfold kpt Ser.plusP; rw [if_neg (by omega), if_pos rfl]
theorem kpt_2 (h0 : 0 ≤ nx) (h1 : nx < 65536) : kpt nx p0 p1 p2 p3 (Ser.plusP nx 2) = p2 := by unfold kpt Ser.plusP; rw [if_neg (by omega), if_neg (by omega), if_pos rfl]
theorem kpt_3 (h0 : 0 ≤ nx) (h1 : nx < 65536) : kpt nx p0 p1 p2 p3 (Ser.plusP nx 3) = p3 := by unfold kpt Ser.plusP; rw [if_neg (by omega), if_neg (by omega), if_neg (by omega), if_pos rfl]
theorem setF_1 (h0 : 0 ≤ nx) (h1 : nx < 65536) (o : OV) : setF (kpt nx p0 p1 p2 p3) (Ser.plusP nx 1) o = kpt nx p0 o p2 p3 := by
 funext k
 unfold setF kpt
 by_cases e : k = Ser.plusP nx 1
 ·have : Ser.plusP nx 1 ≠ nx := by unfold Ser.plusP; omega
  simp [e, this]
 ·simp [e]
theorem setF_2 (h0 : 0 ≤ nx) (h1 : nx < 65536) (o : OV) : setF (kpt nx p0 p1 p2 p3) (Ser.plusP nx 2) o = kpt nx p0 p1 o p3 := by
 funext k
 unfold setF kpt
 by_cases e : k = Ser.plusP nx 2
 ·have a1 : Ser.plusP nx 2 ≠ nx := by unfold Ser.plusP; omega
  have a2 : Ser.plusP nx 2 ≠ Ser.plusP nx 1 := by unfold Ser.plusP; omega
  simp [e, a1, a2]
 ·simp [e]
theorem setF_3 (h0 : 0 ≤ nx) (h1 : nx < 65536) (o : OV) : setF (kpt nx p0 p1 p2 p3) (Ser.plusP nx 3) o = kpt nx p0 p1 p2 o := by
 funext k
 unfold setF kpt
 by_cases e : k = Ser.plusP nx 3
 ·have a1 : Ser.plusP nx 3 ≠ nx := by unfold Ser.plusP; omega
  have a2 : Ser.plusP nx 3 ≠ Ser.plusP nx 1 := by unfold Ser.plusP; omega
  have a3 : Ser.plusP nx 3 ≠ Ser.plusP nx 2 := by unfold Ser.plusP; omega
  simp [e, a1, a2, a3]
 ·simp [e]
theorem kpt_shift (h0 : 0 ≤ nx) (h1 : nx < 65536) : kpt nx none p1 p2 p3 = kpt (Ser.plusP nx 1) p1 p2 p3 none := by
 funext k
 unfold kpt
 have e1 : Ser.plusP (Ser.plusP nx 1) 1 = Ser.plusP nx 2 := by unfold Ser.plusP; omega
 have e2 : Ser.plusP (Ser.plusP nx 1) 2 = Ser.plusP nx 3 := by unfold Ser.plusP; omega
 rw [e1, e2]
 by_cases e : k = nx
 ·have a1 : nx ≠ Ser.plusP nx 1 := by unfold Ser.plusP; omega
  have a2 : nx ≠ Ser.plusP nx 2 := by unfold Ser.plusP; omega
  have a3 : nx ≠ Ser.plusP nx 3 := by unfold Ser.plusP; omega
  simp [e, a1, a2, a3]
 ·simp [e]
theorem kpt_none : kpt nx none none none none = fun _ => none := by
 funext k; unfold kpt; simp
end
theorem plusP_plusP (a n m : Int) : Ser.plusP (Ser.plusP a n) m = Ser.plusP a (n + m) := by unfold Ser.plusP; omega
structure Ib (IT : TypeId) (w : World) (x b : Nat) (nx : Int) (p1 p2 p3 : OV) : Prop where
 own : Vb IT w x [.int .u16 nx, .map (some b)]
 mp : Mf w b (kpt nx none p1 p2 p3) (cnt p1 p2 p3)
 r0 : 0 ≤ nx
 r1 : nx < 65536
section
variable {IT : TypeId} {w w' : World} {x b : Nat} {nx : Int} {p1 p2 p3 : OV} {S : Nat → Prop}
theorem Ib.ne (h : Ib IT w x b nx p1 p2 p3) : x ≠ b := fun e => h.mp.nocell _ _ _ (e ▸ h.own)
theorem Ib.stay (h : Ib IT w x b nx p1 p2 p3) (hc : Ch S w w') (hx : ¬ S x) (hb : ¬ S b) : Ib IT w' x b nx p1 p2 p3 := ⟨(hc.block x h.own.lt hx).trans h.own, h.mp.stay hc hb, h.r0, h.r1⟩
theorem Ib.below (h : Ib IT w x b nx p1 p2 p3) (hb : Below w.heap.size w w') : Ib IT w' x b nx p1 p2 p3 := h.stay (S := fun _ => False) (.of_below hb) id id
end
def isN (n : Int) : Bool := decide (0 ≤ n ∧ n ≤ 65535)
theorem isN_yes {n : Int} (h0 : 0 ≤ n) (h1 : n ≤ 65535) : isN n = true := decide_eq_true ⟨h0, h1⟩
theorem isN_no {n : Int} (h : n < 0 ∨ 65535 < n) : isN n = false := decide_eq_false (by omega)
theorem isNumber_any (n : Int) (w : World) : Calls Tryz.prog 143 #[.int .i64 n] w fun e w' => e = .returned (.bool (isN n)) ∧ w' = w := by
 by_cases h1 : 0 ≤ n
 ·by_cases h2 : n ≤ 65535
  ·have HP := Kp.mk (isN_yes h1 h2)
   go_enter Tryz.func143, Tryz.ntmps143
   go_wp2_with fail
   go_ret
   exact ⟨by rw [HP.out]; rfl, rfl⟩
  ·have HP := Kp.mk (isN_no (n := n) (Or.inr (by omega)))
   go_enter Tryz.func143, Tryz.ntmps143
   go_wp2_with fail
   go_ret
   exact ⟨by rw [HP.out]; rfl, rfl⟩
 ·have HP := Kp.mk (isN_no (n := n) (Or.inl (by omega)))
  go_enter Tryz.func143, Tryz.ntmps143
  go_wp2_with fail
  go_ret
  exact ⟨by rw [HP.out]; rfl, rfl⟩
theorem inbOp_delete {o : Oper} {a : Act} {K : Act → World → Prop} {Q : Exit → Act → World → Prop} {t k : TypeId} {w w' : World} (s x : Operand) (ho : o.op = .call { callee := .builtin .delete, args := #[s, x], argTypes := #[t, k] }) {v u y : Value} (hs : a.eval s = v) (hx : a.eval x = u)
  (hrun : (Builtin.delete_ #[t, k] o.type #[v, u]).run Tryz.prog w = .ok y w') (h : K (a.put o.dst y) w') : o.wp Tryz.prog a w K Q := by
 unfold Oper.wp execOp
 simp only [ho, resolve, invoke, builtin, Sem.run_bind, Sem.run_pure, Result.andThen_ok, List.map_toArray, List.map_cons, List.map_nil, hs, hx, hrun]
 exact h
def slN (v : Value) : Nat := match v with | .slice _ n _ => n | _ => 0
end Go.Proofs.YtnoflfbcgbhipaaGreat.Oct
