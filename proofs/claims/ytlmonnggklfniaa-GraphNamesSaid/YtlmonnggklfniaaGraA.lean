/- Words of layer 12 (graph): a map of ends in its block, rows of links; what its look-ups and updates do. -/
import Derived.Test.YtlmonnggklfniaaGrpB
import Derived.Test.YtlmonnggklfniaaGraR
import Derived.MapKept
import Derived.WideKeyRuns
import Derived.Test.YtlmonnggklfniaaFlat
namespace Go.Proofs.Ytlmonnggklfniaa.Oct
open Go.RowKit
set_option linter.unusedVariables false
set_option linter.unusedSimpArgs false

abbrev endV (e : Int × Int) : Value := .agg #[.int .i64 e.1, .int .i64 e.2]
abbrev farV (v : (Int × Int) × Int) : Value := .agg #[.int .i64 v.1.1, .int .i64 v.1.2, .int .i64 v.2]
abbrev lkV (l : Lk) : Value := .agg #[.int .i64 l.a, .int .i64 l.p, .int .i64 l.b, .int .i64 l.q]
abbrev grV (S : Int) (A : Option Addr) (n c : Nat) : Value := .agg #[.int .i64 S, .slice A n c]
def mapG : Me → Nat → List MapEntry
  | [], _ => []
  | (k, v) :: r, i => ⟨endV k, farV v, i⟩ :: mapG r (i + 1)
/-- Block b is a map of these. -/
def Mp (w : World) (b : Nat) (es : Me) : Prop := w.heap[b]? = some (.map (mapG es 0).toArray es.length)
theorem mapG_snoc (k : Int × Int) (v : (Int × Int) × Int) : ∀ (es : Me) (i : Nat), mapG (es ++ [(k, v)]) i = mapG es i ++ [⟨endV k, farV v, i + es.length⟩]
  | [], i => rfl
  | (k', v') :: r, i => by
    show _ :: mapG (r ++ [(k, v)]) (i + 1) = _
    rw [mapG_snoc k v r (i + 1)]
    simp only [List.length_cons, List.cons_append, mapG]
    rw [show i + 1 + r.length = i + (r.length + 1) from by omega]
section
variable {w w' : World} {b r B : Nat} {es : Me}
theorem Mp.lt (h : Mp w b es) : b < w.heap.size := (Array.getElem?_eq_some_iff.1 h).1
theorem Mp.keep (h : Mp w b es) (e : w'.heap[b]? = w.heap[b]?) : Mp w' b es := e.trans h
theorem Mp.grown (h : Mp w b es) (hg : w.grownBy w' (some r)) (hne : b ≠ r) : Mp w' b es := (hg.block b h.lt (by simp; exact hne)).trans h
theorem Mp.below (h : Mp w b es) (hb : Below B w w') (hB : b < B) : Mp w' b es := (hb.block b hB).trans h
theorem Mp.alloc (h : Mp w b es) (o : Obj) : Mp (w.alloc o) b es := h.below (below_alloc w o) h.lt
theorem Mp.new (w : World) : Mp (w.alloc (.map #[] 0)) w.heap.size [] := (MapKept.heap_alloc w _).1
end
/-- Are two ends the same? -/
theorem eq_end (a p b q : Int) (w : World) : (Op.equalIn 10000 26 (.agg #[.int .i64 a, .int .i64 p]) (.agg #[.int .i64 b, .int .i64 q])).run Try.prog w = .ok (decide ((a, p) = (b, q))) w := by
  have hS : Try.prog.underlying 26 = some (.struct (Try.prog.fieldsOf 26)) := by kernel_rfl
  have hp : Try.prog.stoodInHeld 26 = false := by kernel_rfl
  rw [show (10000 : Nat) = 9999 + 1 from rfl, run_equalIn_agg w 9999 26 _ _ hS hp]
  simp only [Program.fieldsOf, Try.underlying26]
  go_simp
  by_cases h0 : a = b
  · by_cases h1 : p = q
    · simp [h0, h1]
    · simp [h0, h1]
  · simp [h0]
theorem run_eqE (a p b q : Int) (w : World) : (Op.equal 26 (.agg #[.int .i64 a, .int .i64 p]) (.agg #[.int .i64 b, .int .i64 q])).run Try.prog w = .ok (decide ((a, p) = (b, q))) w := eq_end a p b q w
theorem run_checkE (em : Bool) (a p : Int) (w : World) : (Instr.checkKey em 10000 26 (.agg #[.int .i64 a, .int .i64 p])).run Try.prog w = .ok () w := by
  have h : ∀ (n : Nat) (z : Int) (w : World), (Instr.checkKey em (n + 1) 3 (.int .i64 z)).run Try.prog w = .ok () w := fun n z w => by simp [Instr.checkKey, run_underlying Try.underlying3]
  rw [show (10000 : Nat) = 9998 + 1 + 1 from rfl, Instr.checkKey]
  simp [run_underlying Try.underlying26, run_underlying Try.underlying3, part, isAgg, h]
theorem run_findE (k : Int × Int) (w : World) : ∀ (es : Me) (i j : Nat), ∃ r, (Instr.findAsking 26 (endV k) (mapG es i) j).run Try.prog w = .ok r w ∧ (match fnd es k with | none => r = none | some v => ∃ m, r = some (m, farV v))
  | [], i, j => ⟨none, rfl, rfl⟩
  | (k', v') :: r, i, j => by
    obtain ⟨r0, h1, h2⟩ := run_findE k w r (i + 1) (j + 1)
    by_cases h : k = k'
    · refine ⟨some (j, farV v'), ?_, ?_⟩
      · show (Instr.findAsking _ _ (_ :: mapG r (i + 1)) _).run _ _ = _
        rw [Instr.findAsking]
        rw [Sem.run_bind, run_eqE]
        have e : decide ((k.1, k.2) = (k'.1, k'.2)) = true := by subst h; exact decide_eq_true rfl
        rw [e]
        rfl
      · simp [fnd, h]
    · refine ⟨r0, ?_, by simp only [fnd, if_neg h]; exact h2⟩
      show (Instr.findAsking _ _ (_ :: mapG r (i + 1)) _).run _ _ = _
      rw [Instr.findAsking]
      rw [Sem.run_bind, run_eqE]
      have e : decide ((k.1, k.2) = (k'.1, k'.2)) = false := decide_eq_false (fun e => h e)
      rw [e]
      exact h1
def farO (r : Option ((Int × Int) × Int)) : Value := match r with | some v => farV v | none => farV ((0, 0), 0)
theorem wide_end : (match Try.prog.underlying 26 with | some (.array _ _) | some (.struct _) => true | _ => false) = true := by rw [Try.underlying26]
theorem zero_far (w : World) : (zeroValue 51).run Try.prog w = .ok (farV ((0, 0), 0)) w := by kernel_rfl
/-- A look-up. -/
theorem run_lookG {w : World} {b : Nat} {es : Me} (h : Mp w b es) (k : Int × Int) : (Instr.lookup 47 (.map (some b)) (endV k) true).run Try.prog w = .ok (.tuple #[farO (fnd es k), .bool (fnd es k).isSome]) w := by
  obtain ⟨r, h1, h2⟩ := run_findE k w es 0 0
  have hf : (Instr.findKey 26 (endV k) (mapG es 0)).run Try.prog w = .ok r w := (run_findKey_eq w wide_end _ _).trans h1
  cases hq : fnd es k with
  | none =>
    rw [hq] at h2
    subst h2
    simp [Instr.lookup, run_underlying Try.underlying47, MapKept.run_getObj_map h, run_checkE, hf, zero_far, Result.andThen, farO]
  | some v =>
    rw [hq] at h2
    obtain ⟨m, rfl⟩ := h2
    simp [Instr.lookup, run_underlying Try.underlying47, MapKept.run_getObj_map h, run_checkE, hf, Result.andThen, farO]
/-- .. in no map. -/
theorem run_lookN (w : World) (k : Int × Int) : (Instr.lookup 47 (.map none) (endV k) true).run Try.prog w = .ok (.tuple #[farV ((0, 0), 0), .bool false]) w := by
  have hf : (Instr.findKey 26 (endV k) []).run Try.prog w = .ok none w := (run_findKey_eq w wide_end _ _).trans rfl
  simp [Instr.lookup, run_underlying Try.underlying47, run_checkE, hf, zero_far, Result.andThen]
/-- An entry that was not there is put in. -/
theorem run_updG {w : World} {b : Nat} {es : Me} (h : Mp w b es) (k : Int × Int) (v : (Int × Int) × Int) (hn : fnd es k = none) :
    ∃ w', (Instr.mapUpdate 47 (.map (some b)) (endV k) (farV v)).run Try.prog w = .ok () w' ∧ Mp w' b (es ++ [(k, v)]) ∧ w.grownBy w' (some b) ∧ w'.heap.size = w.heap.size := by
  obtain ⟨r, h1, h2⟩ := run_findE k w es 0 0
  have hf : (Instr.findKey 26 (endV k) (mapG es 0)).run Try.prog w = .ok r w := (run_findKey_eq w wide_end _ _).trans h1
  rw [hn] at h2
  subst h2
  have hb : b < w.heap.size := Mp.lt h
  refine ⟨{ w with heap := w.heap.setIfInBounds b (.map ((mapG es 0).toArray.push ⟨endV k, farV v, es.length⟩) (es.length + 1)) }, ?_, ?_, ⟨rfl, rfl, rfl, by simp, fun i _ hi => (MapKept.heap_set h).2 i (fun e => hi (by rw [e]))⟩, by simp⟩
  · simp [Instr.mapUpdate, run_underlying Try.underlying47, MapKept.run_getObj_map h, run_checkE, hf, MapKept.run_setObj_map _ h, Result.andThen]
  · have := (MapKept.heap_set (o' := .map ((mapG es 0).toArray.push ⟨endV k, farV v, es.length⟩) (es.length + 1)) h).1
    unfold Mp
    rw [mapG_snoc]
    simpa using this

/-- The slice (A, n, c) reads as links; it lies below block B. -/
def Lr (w : World) (B : Nat) (A : Option Addr) (n c : Nat) (ls : List Lk) : Prop :=
  ls.length = n ∧ n ≤ c ∧ c ≤ maxLen ∧ (A = none → c = 0) ∧
  (0 < n → ∃ b off, A = some ⟨b, off, none⟩ ∧ b < B ∧ ∀ (j : Nat) (l : Lk), ls[j]? = some l →
    w.cell? ⟨b, off + j * 4, none⟩ = some (.int .i64 l.a) ∧ w.cell? ⟨b, off + j * 4 + 1, none⟩ = some (.int .i64 l.p) ∧ w.cell? ⟨b, off + j * 4 + 2, none⟩ = some (.int .i64 l.b) ∧ w.cell? ⟨b, off + j * 4 + 3, none⟩ = some (.int .i64 l.q))
section
variable {w w' : World} {B B' : Nat} {A : Option Addr} {n c : Nat} {ls : List Lk}
theorem Lr.len (h : Lr w B A n c ls) : ls.length = n := h.1
theorem Lr.le (h : Lr w B A n c ls) : n ≤ c := h.2.1
theorem Lr.max (h : Lr w B A n c ls) : (n : Int) ≤ 9223372036854775807 := by have := h.2.1; have := h.2.2.1; unfold maxLen at this; omega
theorem Lr.at_ (h : Lr w B A n c ls) (hn : 0 < n) : ∃ b off, A = some ⟨b, off, none⟩ ∧ b < B ∧ ∀ (j : Nat) (l : Lk), ls[j]? = some l →
    w.cell? ⟨b, off + j * 4, none⟩ = some (.int .i64 l.a) ∧ w.cell? ⟨b, off + j * 4 + 1, none⟩ = some (.int .i64 l.p) ∧ w.cell? ⟨b, off + j * 4 + 2, none⟩ = some (.int .i64 l.b) ∧ w.cell? ⟨b, off + j * 4 + 3, none⟩ = some (.int .i64 l.q) := h.2.2.2.2 hn
theorem Lr.below (h : Lr w B A n c ls) (hb : Below B w w') : Lr w' B A n c ls :=
  ⟨h.1, h.2.1, h.2.2.1, h.2.2.2.1, fun hn => by
    obtain ⟨b, off, e, hlt, hc⟩ := h.at_ hn
    refine ⟨b, off, e, hlt, fun j l hj => ?_⟩
    obtain ⟨h1, h2, h3, h4⟩ := hc j l hj
    exact ⟨(hb.cell (p := ⟨b, _, none⟩) hlt).trans h1, (hb.cell (p := ⟨b, _, none⟩) hlt).trans h2, (hb.cell (p := ⟨b, _, none⟩) hlt).trans h3, (hb.cell (p := ⟨b, _, none⟩) hlt).trans h4⟩⟩
theorem Lr.below' (h : Lr w B A n c ls) (hb : Below B' w w') (hB : B ≤ B') : Lr w' B A n c ls := h.below (hb.mono hB)
theorem Lr.more (h : Lr w B A n c ls) (hB : B ≤ B') : Lr w B' A n c ls :=
  ⟨h.1, h.2.1, h.2.2.1, h.2.2.2.1, fun hn => by
    obtain ⟨b, off, e, hlt, hc⟩ := h.at_ hn
    exact ⟨b, off, e, by omega, hc⟩⟩
theorem Lr.nil (w : World) (B : Nat) : Lr w B none 0 0 [] := ⟨rfl, Nat.le_refl _, Nat.zero_le _, fun _ => rfl, fun h => absurd h (Nat.lt_irrefl 0)⟩
/-- The first ones. -/
theorem Lr.cut (h : Lr w B A n c ls) (m : Nat) (hm : m ≤ n) : Lr w B A m c (ls.take m) :=
  ⟨by rw [List.length_take, h.len]; omega, by have := h.le; omega, h.2.2.1, h.2.2.2.1, fun hn => by
    obtain ⟨b, off, e, hlt, hc⟩ := h.at_ (by omega)
    refine ⟨b, off, e, hlt, fun j l hj => hc j l ?_⟩
    have hjm : j < m := by
      have := (List.getElem?_eq_some_iff.1 hj).1
      rw [List.length_take] at this; omega
    rwa [List.getElem?_take_of_lt hjm] at hj⟩
end
theorem flat_end : Frame.Flat Try.prog 26 [.i64, .i64] := by
  have hi : Frame.Flat Try.prog 3 [.i64] := Frame.flat_int Try.underlying3 (by kernel_rfl)
  refine Frame.flat_struct [[.i64], [.i64]] Try.underlying26 (by kernel_rfl) rfl (fun i f ks h1 h2 => ?_)
  match i, h1, h2 with
  | 0, h1, h2 => simp at h1 h2; subst h1 h2; exact ⟨hi, rfl⟩
  | 1, h1, h2 => simp at h1 h2; subst h1 h2; exact ⟨hi, rfl⟩
  | n + 2, h1, h2 => simp at h2
end Go.Proofs.Ytlmonnggklfniaa.Oct
