/- Parameters whose cells are numbers alone: structs and arrays of integers, laid flat. -/
import Derived.Test.YtkpjnikbcgngbaaFrame
namespace Go.Proofs.Ytkpjnikbcgngbaa.Frame
open Go.ChangeShapes Go.WideShapes Go.ChangeAt Go.RowKit
set_option linter.unusedVariables false

/-- These cells are numbers of these kinds. -/
def IsFlat (ks : List IntKind) (cs : List Value) : Prop :=
  ∃ zs : List Int, zs.length = ks.length ∧ cs = List.zipWith Value.int ks zs ∧ ∀ p ∈ ks.zip zs, (Lit.int p.1 p.2).wf = true
theorem IsFlat.nil : IsFlat [] [] := ⟨[], rfl, rfl, by simp⟩
theorem IsFlat.append {k1 k2 : List IntKind} {c1 c2 : List Value} (h1 : IsFlat k1 c1) (h2 : IsFlat k2 c2) : IsFlat (k1 ++ k2) (c1 ++ c2) := by
  obtain ⟨z1, l1, e1, w1⟩ := h1
  obtain ⟨z2, l2, e2, w2⟩ := h2
  refine ⟨z1 ++ z2, by simp [l1, l2], by rw [e1, e2, List.zipWith_append (by omega)], ?_⟩
  rw [List.zip_append (by omega)]
  intro p hp
  rcases List.mem_append.1 hp with h | h
  · exact w1 p h
  · exact w2 p h
theorem flat_parts (cs : List Value) : ∀ (parts : List (List IntKind)) (off : Nat), (∀ i ks, parts[i]? = some ks → IsFlat ks ((cs.drop (off + ((parts.take i).flatten).length)).take ks.length)) → IsFlat parts.flatten ((cs.drop off).take parts.flatten.length)
  | [], off, _ => by simpa using IsFlat.nil
  | ks :: rest, off, h => by
    have h0 := h 0 ks rfl
    have ih := flat_parts cs rest (off + ks.length) (fun i k hk => by
      have := h (i + 1) k (by simpa using hk)
      rw [List.take_succ_cons, List.flatten_cons, List.length_append, ← Nat.add_assoc] at this
      exact this)
    rw [List.flatten_cons, List.length_append, List.take_add, List.drop_drop]
    exact (by simpa using h0 : IsFlat ks ((cs.drop off).take ks.length)).append ih

/-- A type whose values are numbers of these kinds, laid flat. -/
def Flat (P : Program) (t : TypeId) (ks : List IntKind) : Prop :=
  P.cellsOf t = ks.length ∧ ∀ {H : Type} (enc : TypeId × Value → H) (W : World) (base : Nat) (held : Nat → Bool) (spare : Bool) (fuel : Nat) (cs : List Value) (x : DataW H × List MemPlace), DataW.trod enc P W base held spare fuel t cs = some x → IsFlat ks cs
theorem flat_int {P : Program} {t : TypeId} {k : IntKind} (ht : P.underlying t = some (.int k)) (hc : P.cellsOf t = 1) : Flat P t [k] := by
  refine ⟨hc, fun enc W base held spare fuel cs x h => ?_⟩
  obtain ⟨n, rfl, _, hw⟩ := DataW.trod_int ht h
  exact ⟨[n], rfl, rfl, by simpa using hw⟩
theorem flat_struct {P : Program} {t : TypeId} {fs : Array Field} (parts : List (List IntKind)) (ht : P.underlying t = some (.struct fs)) (hc : P.cellsOf t = parts.flatten.length) (hn : parts.length = fs.size)
    (hp : ∀ i f ks, fs[i]? = some f → parts[i]? = some ks → Flat P f.type ks ∧ f.offset = ((parts.take i).flatten).length) : Flat P t parts.flatten := by
  refine ⟨hc, fun enc W base held spare fuel cs x h => ?_⟩
  obtain ⟨xs, n, _, _, hl, hx, hf⟩ := DataW.trod_struct ht h
  have key := flat_parts cs parts 0 (fun i ks hk => by
    have hi : i < fs.size := by rw [← hn]; exact (List.getElem?_eq_some_iff.1 hk).1
    obtain ⟨⟨h1, h2⟩, ho⟩ := hp i fs[i] ks (Array.getElem?_eq_getElem hi) hk
    have hfi := hf i fs[i] (Array.getElem?_eq_getElem hi)
    rw [List.getElem?_eq_getElem (by omega)] at hfi
    have := h2 enc W base _ _ n _ _ hfi
    rw [ho, h1] at this
    simpa using this)
  rw [List.drop_zero, List.take_of_length_le (by omega)] at key
  exact key
theorem flat_array {P : Program} {t e : TypeId} {n : Nat} {ks : List IntKind} (ht : P.underlying t = some (.array n e)) (he : Flat P e ks) (hc : P.cellsOf t = (List.replicate n ks).flatten.length) : Flat P t (List.replicate n ks).flatten := by
  refine ⟨hc, fun enc W base held spare fuel cs x h => ?_⟩
  obtain ⟨xs, m, _, _, hl, hx, hf⟩ := DataW.trod_array ht h
  have key := flat_parts cs (List.replicate n ks) 0 (fun i k hk => by
    have hi : i < n := by have := (List.getElem?_eq_some_iff.1 hk).1; simpa using this
    obtain rfl : ks = k := by rw [List.getElem?_replicate, if_pos hi] at hk; simpa using hk
    have hfi := hf i hi
    rw [List.getElem?_eq_getElem (by omega)] at hfi
    have := he.2 enc W base _ _ m _ _ hfi
    have e1 : ((List.take i (List.replicate n ks)).flatten).length = i * ks.length := by
      rw [List.take_replicate, List.length_flatten, List.map_replicate, List.sum_replicate_nat]
      rw [Nat.min_eq_left (by omega)]
    rw [he.1] at this
    rw [e1]
    simpa using this)
  rw [List.drop_zero, List.take_of_length_le (by omega)] at key
  exact key

/-- A parameter of such a type. -/
theorem open_flat {H : Type} {enc : TypeId × Value → H} {P : Program} {W : World} {t : TypeId} {ks : List IntKind} {r : Reach} {b0 : Nat} {v : Value} {d : DataW H} {p : List MemPlace}
    (hf : Flat P t ks) (hs : (∃ fs, P.underlying t = some (.struct fs)) ∨ ∃ n e, P.underlying t = some (.array n e))
    (hv : Value.okWide P W r b0 t v) (h : DataW.Trod enc P W 0 (fun _ => true) true t v d p) :
    ∃ zs : List Int, v = .agg (List.zipWith Value.int ks zs).toArray ∧ zs.length = ks.length ∧ ∀ p ∈ ks.zip zs, (Lit.int p.1 p.2).wf = true := by
  have hcs : ∃ cs, v = .agg cs ∧ cs.size = P.cellsOf t := by
    unfold Value.okWide at hv
    rcases hs with ⟨fs, ht⟩ | ⟨n, e, ht⟩ <;> (rw [ht] at hv; obtain ⟨cs, h1, h2, _⟩ := hv; exact ⟨cs, h1, h2⟩)
  obtain ⟨cs, rfl, hsz⟩ := hcs
  obtain ⟨fuel, hd⟩ := h
  obtain ⟨zs, l, e, w⟩ := hf.2 enc W _ _ _ fuel _ _ hd
  refine ⟨zs, ?_, l, w⟩
  congr 1
  rw [← e]
  rfl
end Go.Proofs.Ytkpjnikbcgngbaa.Frame
