/- A segment as a parameter: eight numbers and a message. -/
import Derived.Test.YtbniefgfiafaoaaSegA
import Derived.Test.YtbniefgfiafaoaaFrame
import Derived.SizedLaws
namespace Go.Proofs.Ytbniefgfiafaoaa.Frame
open Go.ChangeShapes Go.WideShapes Go.ChangeAt Go.RowKit
set_option linter.unusedVariables false

theorem sized_field {H : Type} {P : Program} {ts : List TypeId} {ds : List (DataW H)} (h : (DataW.weightsEach P ts ds).all (· ≤ reachBytes) = true) {j i : Nat} {t e : TypeId} {fs : Array Field} {f : Field} {parts elems spare : List (DataW H)}
    (ht : ts[j]? = some t) (hd : ds[j]? = some (.agg parts)) (hu : P.underlying t = some (.struct fs)) (hf : fs[i]? = some f) (hp : parts[i]? = some (.slice elems spare)) (hs : P.underlying f.type = some (.slice e)) :
    (elems.length + spare.length) * P.bytesOf e ≤ reachBytes := by
  have hf' : (fs.toList.map (·.type))[i]? = some f.type := by rw [List.getElem?_map, Array.getElem?_toList, hf]; rfl
  have := List.all_eq_true.1 h _ (DataW.weights_mem_each ht hd ((elems.length + spare.length) * P.bytesOf e) (by
    simp only [DataW.weights, hu]
    exact DataW.weights_mem_each hf' hp _ (by simp [DataW.weights, hs])))
  simpa using this

theorem open_seg {H : Type} {enc : TypeId × Value → H} {W : World} {r : Reach} {b0 : Nat} {v : Value} {d : DataW H} {pl : List MemPlace} {ts : List TypeId} {ds : List (DataW H)} {j : Nat}
    (hv : Value.okWide Try.prog W r b0 24 v) (hh : DataW.Trod enc Try.prog W 0 (fun _ => true) true 24 v d pl)
    (hsz : (DataW.weightsEach Try.prog ts ds).all (· ≤ reachBytes) = true) (hj : ts[j]? = some 24) (hd : ds[j]? = some d) :
    ∃ (k t f h p o s a : Int) (A : Option Addr) (n c : Nat) (zs : List Int), v = .agg #[.int .i64 k, .int .i64 t, .int .i64 f, .int .i64 h, .int .i64 p, .int .i64 o, .int .i64 s, .int .i64 a, .slice A n c] ∧ IsRow .u8 W A n c zs ∧ c * 1 ≤ 140737488351232 := by
  have ht := Try.underlying24
  have hcs : ∃ cs, v = .agg cs ∧ cs.size = 9 := by
    unfold Value.okWide at hv
    rw [ht] at hv
    obtain ⟨cs, h1, h2, _⟩ := hv
    exact ⟨cs, h1, h2.trans (by kernel_rfl)⟩
  obtain ⟨cs, rfl, hsz9⟩ := hcs
  obtain ⟨fuel, hf⟩ := hh
  obtain ⟨xs, m, _, hx, hl, hxl, hx'⟩ := DataW.trod_struct ht hf
  have hx9 : xs.length = 9 := hxl
  have hcl : cs.toList.length = 9 := by simpa using hsz9
  have num : ∀ i, i < 8 → ∃ z : Int, cs.toList[i]? = some (.int .i64 z) := by
    intro i hi
    have h1 : DataW.trod enc Try.prog W 0 (fun _ => true) true m 3 (List.take 1 (List.drop i cs.toList)) = xs[i]? := by
      match i, hi with
      | 0, _ => exact hx' 0 _ rfl
      | 1, _ => exact hx' 1 _ rfl
      | 2, _ => exact hx' 2 _ rfl
      | 3, _ => exact hx' 3 _ rfl
      | 4, _ => exact hx' 4 _ rfl
      | 5, _ => exact hx' 5 _ rfl
      | 6, _ => exact hx' 6 _ rfl
      | 7, _ => exact hx' 7 _ rfl
    rw [List.getElem?_eq_getElem (by omega)] at h1
    rw [List.drop_eq_getElem_cons (by omega), List.take_succ_cons, List.take_zero] at h1
    obtain ⟨z, e0, _, wz⟩ := DataW.trod_int Try.underlying3 h1
    simp only [List.cons.injEq, and_true] at e0
    exact ⟨z, by rw [List.getElem?_eq_getElem (by omega), e0]⟩
  obtain ⟨k, e0⟩ := num 0 (by omega)
  obtain ⟨t, e1⟩ := num 1 (by omega)
  obtain ⟨f, e2⟩ := num 2 (by omega)
  obtain ⟨h, e3⟩ := num 3 (by omega)
  obtain ⟨p, e4⟩ := num 4 (by omega)
  obtain ⟨o, e5⟩ := num 5 (by omega)
  obtain ⟨s, e6⟩ := num 6 (by omega)
  obtain ⟨a, e7⟩ := num 7 (by omega)
  have h8 : DataW.trod enc Try.prog W 0 (fun _ => true) true m 22 (List.take 1 (List.drop 8 cs.toList)) = xs[8]? := hx' 8 _ rfl
  have hx8 : xs[8]? = some xs[8] := List.getElem?_eq_getElem (by omega)
  rw [hx8] at h8
  rw [List.drop_eq_getElem_cons (by omega), List.take_succ_cons, List.take_zero] at h8
  have hparts : ((List.map (fun x => x.fst) xs))[8]? = some xs[8].1 := by rw [List.getElem?_map, hx8]; rfl
  have hag : ds[j]? = some (.agg (List.map (fun x => x.fst) xs)) := by
    rw [hd]
    simp only [Prod.mk.injEq] at hx
    rw [hx.1]
  have fin : ∀ m : Value, cs.toList[8]? = some m → cs = #[.int .i64 k, .int .i64 t, .int .i64 f, .int .i64 h, .int .i64 p, .int .i64 o, .int .i64 s, .int .i64 a, m] := by
    intro m e8
    apply Array.ext'
    apply List.ext_getElem?
    intro i
    match i with
    | 0 => exact e0
    | 1 => exact e1
    | 2 => exact e2
    | 3 => exact e3
    | 4 => exact e4
    | 5 => exact e5
    | 6 => exact e6
    | 7 => exact e7
    | 8 => exact e8
    | i + 9 => rw [List.getElem?_eq_none (by omega)]; rfl
  rcases open_ints Try.underlying22 Try.underlying5 (by kernel_rfl) h8 with ⟨hc, _⟩ | ⟨x, l, c, zs, hc, _, hlc, hm, hz, hxx, hcell, hwz⟩
  · simp only [List.cons.injEq, and_true] at hc
    have := fin _ (by rw [List.getElem?_eq_getElem (by omega), hc])
    subst this
    exact ⟨k, t, f, h, p, o, s, a, none, 0, 0, [], rfl, .inl ⟨rfl, rfl, rfl, rfl⟩, by omega⟩
  · simp only [List.cons.injEq, and_true] at hc
    have := fin _ (by rw [List.getElem?_eq_getElem (by omega), hc])
    subst this
    have hlen : zs.length = c := by simpa using hz
    rw [hxx] at hparts
    have hw := sized_field hsz hj hag ht (i := 8) rfl hparts Try.underlying22
    rw [show Try.prog.bytesOf 5 = 1 from by kernel_rfl] at hw
    have q1 : ((lits .u8 (zs.take l) : List (DataW H))).length = l := by simp [lits]; omega
    have q2 : ((lits .u8 (zs.drop l) : List (DataW H))).length = c - l := by simp [lits]; omega
    rw [q1, q2, show l + (c - l) = c from by omega] at hw
    exact ⟨k, t, f, h, p, o, s, a, some x, l, c, zs, rfl, .inr ⟨_, rfl, hlc, hm, hlen, hcell, hwz⟩, by simpa [reachBytes] using hw⟩
end Go.Proofs.Ytbniefgfiafaoaa.Frame
