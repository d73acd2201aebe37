/- Words of layer 14 (inbox): a map whose keys are numbers of sixteen bits and whose values are structs of one cell; what its look-ups, updates and deletions do. -/
import Derived.Test.YtdhidgcjpeafnaaLanE
import Derived.MapKept
namespace Go.Proofs.Ytdhidgcjpeafnaa.Oct
open Go.RowKit
set_option linter.unusedVariables false
set_option linter.unusedSimpArgs false

abbrev u16V (k : Int) : Value := .int .u16 k
abbrev oneV (v : Value) : Value := .agg #[v]
/-- Where a key stands, and what it leads to. -/
def ixK : List (Int × Value) → Int → Option (Nat × Value)
  | [], _ => none
  | (a, v) :: r, k => if k = a then some (0, v) else (ixK r k).map fun x => (x.1 + 1, x.2)
def fndK (es : List (Int × Value)) (k : Int) : Option Value := (ixK es k).map (·.2)
/-- Entries that say so. -/
def Saying (ms : List MapEntry) (es : List (Int × Value)) : Prop := ms.map (fun m => (m.key, m.val)) = es.map (fun e => (u16V e.1, oneV e.2))
theorem findNow_eq (k : Int) : ∀ (ms : List MapEntry) (es : List (Int × Value)) (j : Nat), Saying ms es → Instr.findNow (.int .u16) (u16V k) ms j = some ((ixK es k).map fun x => (x.1 + j, oneV x.2))
  | [], [], j, _ => rfl
  | [], e :: es, j, h => by simp [Saying] at h
  | m :: ms, [], j, h => by simp [Saying] at h
  | m :: ms, (a, v) :: es, j, h => by
    have h2 : (m.key, m.val) = (u16V a, oneV v) ∧ Saying ms es := by unfold Saying at h ⊢; simpa using h
    obtain ⟨h3, h4⟩ := h2
    obtain ⟨mk, mv, mb⟩ := m
    injection h3 with h5 h6
    have h5 : mk = u16V a := h5
    have h6 : mv = oneV v := h6
    subst h5 h6
    have ih := findNow_eq k ms es (j + 1) h4
    by_cases e : k = a
    · subst e
      simp [Instr.findNow, Instr.sameNow, ixK]
    · have e2 : (k == a) = false := by simpa using e
      simp only [Instr.findNow, Instr.sameNow, if_true, e2, ih, ixK, if_neg e]
      cases ixK es k with
      | none => rfl
      | some x => simp [Nat.add_assoc, Nat.add_comm 1 j]
theorem map_erase {α β : Type} (g : α → β) : ∀ (l : List α) (i : Nat), (l.eraseIdx i).map g = (l.map g).eraseIdx i
  | [], i => by simp
  | x :: r, 0 => rfl
  | x :: r, i + 1 => by simp [map_erase g r i]
theorem ixK_key : ∀ (es : List (Int × Value)) (k : Int) (i : Nat) (v : Value), ixK es k = some (i, v) → es[i]? = some (k, v)
  | [], k, i, v, h => by simp [ixK] at h
  | (a, u) :: r, k, i, v, h => by
    unfold ixK at h
    split at h
    · rename_i e; subst e; simp at h; obtain ⟨rfl, rfl⟩ := h; rfl
    · cases hq : ixK r k with
      | none => rw [hq] at h; simp at h
      | some x =>
        rw [hq] at h
        obtain ⟨i2, v2⟩ := x
        simp at h
        obtain ⟨rfl, rfl⟩ := h
        simpa using ixK_key r k i2 v2 hq
theorem ixK_none : ∀ (es : List (Int × Value)) (k : Int), ixK es k = none ↔ k ∉ es.map Prod.fst
  | [], k => by simp [ixK]
  | (a, u) :: r, k => by
    have ih := ixK_none r k
    unfold ixK
    by_cases e : k = a
    · simp [e]
    · simp [e] at ih ⊢; exact ih
theorem fndK_none {es : List (Int × Value)} {k : Int} : fndK es k = none ↔ k ∉ es.map Prod.fst := by unfold fndK; rw [Option.map_eq_none_iff]; exact ixK_none es k
theorem fndK_snoc : ∀ (es : List (Int × Value)) (a : Int) (v : Value) (k : Int), fndK es a = none → fndK (es ++ [(a, v)]) k = if k = a then some v else fndK es k
  | [], a, v, k, h => by
    by_cases e : k = a
    · simp [fndK, ixK, e]
    · simp [fndK, ixK, e]
  | (b, u) :: r, a, v, k, h => by
    have hb : a ≠ b ∧ fndK r a = none := by
      unfold fndK ixK at h
      by_cases e : a = b
      · simp [e] at h
      · simp [e] at h; exact ⟨e, by unfold fndK; simp [h]⟩
    have ih := fndK_snoc r a v k hb.2
    have step : ∀ l : List (Int × Value), fndK ((b, u) :: l) k = if k = b then some u else fndK l k := by
      intro l
      unfold fndK
      by_cases e : k = b
      · simp [ixK, e]
      · simp only [ixK, if_neg e, Option.map_map]; rfl
    rw [List.cons_append, step, step, ih]
    by_cases e1 : k = b
    · have : k ≠ a := fun e => hb.1 (e.symm.trans e1)
      simp [e1, Ne.symm hb.1]
    · simp [e1]
theorem fndK_cons (b : Int) (u : Value) (l : List (Int × Value)) (k : Int) : fndK ((b, u) :: l) k = if k = b then some u else fndK l k := by
  unfold fndK
  by_cases e : k = b
  · simp [ixK, e]
  · simp only [ixK, if_neg e, Option.map_map]; rfl
theorem fndK_erase : ∀ (es : List (Int × Value)) (a : Int) (i : Nat) (v : Value) (k : Int), (es.map Prod.fst).Nodup → ixK es a = some (i, v) → fndK (es.eraseIdx i) k = if k = a then none else fndK es k
  | [], a, i, v, k, _, h => by simp [ixK] at h
  | (b, u) :: r, a, i, v, k, hd, h => by
    have hd2 : b ∉ r.map Prod.fst ∧ (r.map Prod.fst).Nodup := by simpa using hd
    unfold ixK at h
    by_cases e : a = b
    · rw [if_pos e] at h
      simp at h
      obtain ⟨rfl, rfl⟩ := h
      rw [List.eraseIdx_cons_zero, fndK_cons]
      by_cases e2 : k = a
      · subst e2; subst e
        rw [if_pos rfl]
        exact fndK_none.2 hd2.1
      · rw [if_neg e2, if_neg (fun e3 => e2 (e3.trans e.symm))]
    · rw [if_neg e] at h
      cases hq : ixK r a with
      | none => rw [hq] at h; simp at h
      | some x =>
        obtain ⟨i2, v2⟩ := x
        rw [hq] at h
        simp at h
        obtain ⟨rfl, rfl⟩ := h
        rw [List.eraseIdx_cons_succ, fndK_cons, fndK_cons, fndK_erase r a i2 v2 k hd2.2 hq]
        by_cases e2 : k = b
        · have : k ≠ a := fun e3 => e (e3.symm.trans e2)
          simp [e2, Ne.symm e]
        · simp [e2]
/-- Block b is a map that leads where f leads, of n keys. -/
def Mf (w : World) (b : Nat) (f : Int → Option Value) (n : Nat) : Prop :=
  ∃ (ms : List MapEntry) (clock : Nat) (es : List (Int × Value)), w.heap[b]? = some (.map ms.toArray clock) ∧ Saying ms es ∧ (es.map Prod.fst).Nodup ∧ es.length = n ∧ ∀ k, fndK es k = f k
def setF (f : Int → Option Value) (a : Int) (o : Option Value) : Int → Option Value := fun k => if k = a then o else f k
section
variable {w w' : World} {b n : Nat} {f : Int → Option Value} {S : Nat → Prop}
theorem Mf.lt (h : Mf w b f n) : b < w.heap.size := by obtain ⟨ms, c, es, h1, _⟩ := h; exact (Array.getElem?_eq_some_iff.1 h1).1
theorem Mf.keep (h : Mf w b f n) (e : w'.heap[b]? = w.heap[b]?) : Mf w' b f n := by obtain ⟨ms, c, es, h1, h2⟩ := h; exact ⟨ms, c, es, e.trans h1, h2⟩
theorem Mf.stay (h : Mf w b f n) (hc : Ch S w w') (hs : ¬ S b) : Mf w' b f n := h.keep (hc.block b h.lt hs)
theorem Mf.below (h : Mf w b f n) (hb : Below w.heap.size w w') : Mf w' b f n := h.keep (hb.block b h.lt)
theorem Mf.drew (h : Mf w b f n) : Mf w.drew b f n := h
theorem Mf.nocell (h : Mf w b f n) (cs : Array Value) (t : TypeId) (m : Nat × Nat) : w.heap[b]? ≠ some (.cells cs t m) := by obtain ⟨ms, c, es, h1, _⟩ := h; rw [h1]; simp
theorem Mf.new (w : World) : Mf (w.alloc (.map #[] 0)) w.heap.size (fun _ => none) 0 := ⟨[], 0, [], (MapKept.heap_alloc w _).1, rfl, by simp, rfl, fun _ => rfl⟩
theorem Mf.cong (h : Mf w b f n) {g : Int → Option Value} {m : Nat} (hg : f = g) (hm : n = m) : Mf w b g m := by subst hg hm; exact h
variable {T E : TypeId}
theorem run_checkU (hK : Try.prog.underlying 49 = some (.int .u16)) (em : Bool) (k : Int) (w : World) : (Instr.checkKey em 10000 49 (u16V k)).run Try.prog w = .ok () w := by
  rw [show (10000 : Nat) = 9999 + 1 from rfl, Instr.checkKey]
  simp [run_underlying hK]
theorem run_findU (hK : Try.prog.underlying 49 = some (.int .u16)) {ms : List MapEntry} {es : List (Int × Value)} (h : Saying ms es) (k : Int) (w : World) : (Instr.findKey 49 (u16V k) ms).run Try.prog w = .ok ((ixK es k).map fun x => (x.1, oneV x.2)) w := by
  unfold Instr.findKey
  rw [Sem.run_bind, run_underlying hK]
  have := findNow_eq k ms es 0 h
  simp only [Nat.add_zero] at this
  simp [this]
def lkR (z : Value) (o : Option Value) : Value := .tuple #[oneV (o.getD z), .bool o.isSome]
/-- A look-up. -/
theorem run_lookM (hT : Try.prog.underlying T = some (.map 49 E)) (hK : Try.prog.underlying 49 = some (.int .u16)) {z : Value} (hz : ∀ w, (zeroValue E).run Try.prog w = .ok (oneV z) w) (h : Mf w b f n) (k : Int) :
    (Instr.lookup T (.map (some b)) (u16V k) true).run Try.prog w = .ok (lkR z (f k)) w := by
  obtain ⟨ms, c, es, h1, h2, h3, h4, h5⟩ := h
  have hf := run_findU hK h2 k w
  rw [← h5 k]
  unfold fndK lkR
  cases hq : ixK es k with
  | none =>
    rw [hq] at hf
    simp [Instr.lookup, run_underlying hT, MapKept.run_getObj_map h1, run_checkU hK, hf, hz, Result.andThen]
  | some x =>
    rw [hq] at hf
    simp [Instr.lookup, run_underlying hT, MapKept.run_getObj_map h1, run_checkU hK, hf, Result.andThen]
/-- A key that was not there is put in. -/
theorem run_updM (hT : Try.prog.underlying T = some (.map 49 E)) (hK : Try.prog.underlying 49 = some (.int .u16)) (h : Mf w b f n) (k : Int) (v : Value) (hn : f k = none) :
    ∃ w', (Instr.mapUpdate T (.map (some b)) (u16V k) (oneV v)).run Try.prog w = .ok () w' ∧ Mf w' b (setF f k (some v)) (n + 1) ∧ Ch (fun x => x = b) w w' := by
  obtain ⟨ms, c, es, h1, h2, h3, h4, h5⟩ := h
  have hf := run_findU hK h2 k w
  have hx : ixK es k = none := by have := h5 k; rw [hn] at this; unfold fndK at this; simpa using this
  rw [hx] at hf
  have hst := MapKept.heap_set (o' := .map (ms.toArray.push ⟨u16V k, oneV v, c⟩) (c + 1)) h1
  refine ⟨{ w with heap := w.heap.setIfInBounds b (.map (ms.toArray.push ⟨u16V k, oneV v, c⟩) (c + 1)) }, ?_, ⟨ms ++ [⟨u16V k, oneV v, c⟩], c + 1, es ++ [(k, v)], ?_, ?_, ?_, by simp [h4], fun k' => ?_⟩, ⟨rfl, rfl, rfl, by simp, fun i _ hi => hst.2 i hi⟩⟩
  · simp [Instr.mapUpdate, run_underlying hT, MapKept.run_getObj_map h1, run_checkU hK, hf, MapKept.run_setObj_map _ h1, Result.andThen]
  · have := hst.1
    simpa using this
  · unfold Saying at h2 ⊢
    rw [List.map_append, List.map_append, h2]
    rfl
  · rw [List.map_append]
    have := (ixK_none es k).1 hx
    simp only [List.map_cons, List.map_nil]
    rw [List.nodup_append]
    refine ⟨h3, by simp, fun a ha b' hb e => ?_⟩
    simp at hb
    subst hb
    exact this (e ▸ ha)
  · rw [fndK_snoc es k v k' (by unfold fndK; rw [hx]; rfl), h5 k']
    rfl
/-- A key that is there is taken out. -/
theorem run_delM (hT : Try.prog.underlying T = some (.map 49 E)) (hK : Try.prog.underlying 49 = some (.int .u16)) (h : Mf w b f n) (ty : TypeId) (k : Int) (v : Value) (hn : f k = some v) :
    ∃ w', (Builtin.delete_ #[T, 49] ty #[.map (some b), u16V k]).run Try.prog w = .ok (.tuple #[]) w' ∧ Mf w' b (setF f k none) (n - 1) ∧ Ch (fun x => x = b) w w' := by
  obtain ⟨ms, c, es, h1, h2, h3, h4, h5⟩ := h
  have hf := run_findU hK h2 k w
  obtain ⟨i, hx⟩ : ∃ i, ixK es k = some (i, v) := by
    have := h5 k
    rw [hn] at this
    unfold fndK at this
    cases hq : ixK es k with
    | none => rw [hq] at this; simp at this
    | some x => rw [hq] at this; simp at this; exact ⟨x.1, by rw [← this]⟩
  rw [hx] at hf
  have hil : i < es.length := (List.getElem?_eq_some_iff.1 (ixK_key es k i v hx)).1
  have hml : ms.length = es.length := by have := congrArg List.length h2; simpa using this
  have hst := MapKept.heap_set (o' := .map (ms.eraseIdx i).toArray c) h1
  refine ⟨{ w with heap := w.heap.setIfInBounds b (.map (ms.eraseIdx i).toArray c) }, ?_, ⟨ms.eraseIdx i, c, es.eraseIdx i, ?_, ?_, ?_, ?_, fun k' => ?_⟩, ⟨rfl, rfl, rfl, by simp, fun j _ hj => hst.2 j hj⟩⟩
  · simp [Builtin.delete_, run_underlying hT, MapKept.run_getObj_map h1, run_checkU hK, hf, MapKept.run_setObj_map _ h1, Result.andThen]
  · have := hst.1
    simpa using this
  · unfold Saying at h2 ⊢
    rw [map_erase, map_erase, h2]
  · rw [map_erase]
    exact h3.sublist (List.eraseIdx_sublist _ _)
  · rw [List.length_eraseIdx, if_pos hil, h4]
  · rw [fndK_erase es k i v k' h3 hx, h5 k']
    rfl
theorem run_lenM (hT : Try.prog.underlying T = some (.map 49 E)) (h : Mf w b f n) (ty : TypeId) : (Builtin.len_ #[T] ty #[.map (some b)]).run Try.prog w = .ok (.int .i64 n) w := by
  obtain ⟨ms, c, es, h1, h2, h3, h4, h5⟩ := h
  have hml : ms.length = es.length := by have := congrArg List.length h2; simpa using this
  simp [Builtin.len_, run_underlying hT, MapKept.run_getObj_map h1, hml, h4]
  rfl
end
end Go.Proofs.Ytdhidgcjpeafnaa.Oct
