/- Segments that come as a parameter: a row of two numbers and a segment. -/
import Derived.Test.YtomjnpjabfnlbaaHaiA
import Derived.Test.YtomjnpjabfnlbaaFrame
import Derived.Deep.Slices
import Derived.SizedLaws
namespace Go.Proofs.Ytomjnpjabfnlbaa.Oct
open Go.RowKit
set_option linter.unusedVariables false
/-- What comes. -/
structure DoH where
  K : Int
  N : Int
  x : Sv
def DoH.cells (q : DoH) : List Value := .int .i64 q.K :: .int .i64 q.N :: q.x.cells
/-- The slice (A, n, c) reads as the calls ds, and lies below block B. -/
structure Dh (w : World) (B : Nat) (A : Option Addr) (n c : Nat) (ds : List DoH) : Prop where
  len : ds.length = n
  le : n ≤ c
  cap : c ≤ maxLen
  nil : A = none → c = 0
  ex : 0 < n → ∃ b off, A = some ⟨b, off, none⟩ ∧ b < B ∧ ∀ (j : Nat) (q : DoH), ds[j]? = some q → ∀ i u, q.cells[i]? = some u → w.cell? ⟨b, off + j * 11 + i, none⟩ = some u
theorem Dh.below {w w' : World} {B : Nat} {A : Option Addr} {n c : Nat} {ds : List DoH} (h : Dh w B A n c ds) (hb : Below B w w') : Dh w' B A n c ds :=
  ⟨h.len, h.le, h.cap, h.nil, fun hn => by
    obtain ⟨b, off, e, hlt, hc⟩ := h.ex hn
    exact ⟨b, off, e, hlt, fun j q hj i u hu => (hb.cell (p := ⟨b, _, none⟩) hlt).trans (hc j q hj i u hu)⟩⟩
theorem Dh.max {w : World} {B : Nat} {A : Option Addr} {n c : Nat} {ds : List DoH} (h : Dh w B A n c ds) : (n : Int) ≤ 9223372036854775807 := by have := h.le; have := h.cap; unfold maxLen at this; omega
theorem eleven {l : List Value} (h : l.length = 11) : ∃ a b c d e f g p q r s, l = [a, b, c, d, e, f, g, p, q, r, s] := by
  match l, h with
  | [a, b, c, d, e, f, g, p, q, r, s], _ => exact ⟨a, b, c, d, e, f, g, p, q, r, s, rfl⟩
end Go.Proofs.Ytomjnpjabfnlbaa.Oct
namespace Go.Proofs.Ytomjnpjabfnlbaa.Frame
open Go.ChangeShapes Go.WideShapes Go.ChangeAt Go.RowKit
set_option linter.unusedVariables false
theorem open_sv {H : Type} {enc : TypeId × Value → H} {W : World} {n : Nat} {cs : List Value} {d : DataW H × List MemPlace} (hlen : cs.length = 9) (hh : DataW.trod enc Try.prog W 0 (fun _ => true) true n 31 cs = some d) : ∃ x : Oct.Sv, cs = x.cells := by
  obtain ⟨xs, m, _, hx, hl, hxl, hx'⟩ := DataW.trod_struct Try.underlying31 hh
  have hx9 : xs.length = 9 := hxl
  obtain ⟨c0, c1, c2, c3, c4, c5, c6, c7, c8, rfl⟩ : ∃ c0 c1 c2 c3 c4 c5 c6 c7 c8, cs = [c0, c1, c2, c3, c4, c5, c6, c7, c8] := by
    match cs, hlen with
    | [c0, c1, c2, c3, c4, c5, c6, c7, c8], _ => exact ⟨c0, c1, c2, c3, c4, c5, c6, c7, c8, rfl⟩
  have i0 : DataW.trod enc Try.prog W 0 (fun _ => true) true m 3 [c0] = xs[0]? := hx' 0 _ rfl
  have i1 : DataW.trod enc Try.prog W 0 (fun _ => true) true m 3 [c1] = xs[1]? := hx' 1 _ rfl
  have i2 : DataW.trod enc Try.prog W 0 (fun _ => true) true m 3 [c2] = xs[2]? := hx' 2 _ rfl
  have i3 : DataW.trod enc Try.prog W 0 (fun _ => true) true m 3 [c3] = xs[3]? := hx' 3 _ rfl
  have i4 : DataW.trod enc Try.prog W 0 (fun _ => true) true m 3 [c4] = xs[4]? := hx' 4 _ rfl
  have i5 : DataW.trod enc Try.prog W 0 (fun _ => true) true m 3 [c5] = xs[5]? := hx' 5 _ rfl
  have i6 : DataW.trod enc Try.prog W 0 (fun _ => true) true m 3 [c6] = xs[6]? := hx' 6 _ rfl
  have i7 : DataW.trod enc Try.prog W 0 (fun _ => true) true m 3 [c7] = xs[7]? := hx' 7 _ rfl
  have i8 : DataW.trod enc Try.prog W 0 (fun _ => true) true m 29 [c8] = xs[8]? := hx' 8 _ rfl
  rw [List.getElem?_eq_getElem (by omega)] at i0 i1 i2 i3 i4 i5 i6 i7 i8
  obtain ⟨z0, e0, _⟩ := DataW.trod_int Try.underlying3 i0
  obtain ⟨z1, e1, _⟩ := DataW.trod_int Try.underlying3 i1
  obtain ⟨z2, e2, _⟩ := DataW.trod_int Try.underlying3 i2
  obtain ⟨z3, e3, _⟩ := DataW.trod_int Try.underlying3 i3
  obtain ⟨z4, e4, _⟩ := DataW.trod_int Try.underlying3 i4
  obtain ⟨z5, e5, _⟩ := DataW.trod_int Try.underlying3 i5
  obtain ⟨z6, e6, _⟩ := DataW.trod_int Try.underlying3 i6
  obtain ⟨z7, e7, _⟩ := DataW.trod_int Try.underlying3 i7
  simp only [List.cons.injEq, and_true] at e0 e1 e2 e3 e4 e5 e6 e7
  subst e0 e1 e2 e3 e4 e5 e6 e7
  rcases open_ints Try.underlying29 Try.underlying5 (by kernel_rfl) i8 with ⟨hc2, _⟩ | ⟨x, l, c, zs, hc2, _⟩
  · have hx : c8 = .slice none 0 0 := by simpa using hc2
    subst hx
    exact ⟨⟨z0, z1, z2, z3, z4, z5, z6, z7, none, 0, 0⟩, rfl⟩
  · have hx : c8 = .slice (some x) l c := by simpa using hc2
    subst hx
    exact ⟨⟨z0, z1, z2, z3, z4, z5, z6, z7, some x, l, c⟩, rfl⟩
set_option maxRecDepth 100000 in
theorem open_hdos {H : Type} {enc : TypeId × Value → H} {W : World} {r : Reach} {b0 : Nat} {v : Value} {d : DataW H} {pl : List MemPlace}
    (hv : Value.okWide Try.prog W r b0 23 v) (hh : DataW.Trod enc Try.prog W 0 (fun _ => true) true 23 v d pl) :
    ∃ (bs : List Oct.DoH) (A : Option Addr) (n c : Nat), v = .slice A n c ∧ Oct.Dh W W.heap.size A n c bs := by
  obtain ⟨A0, n0, c0, rfl⟩ := okWide_slice Try.underlying23 hv
  obtain ⟨fuel, hf⟩ := hh
  rcases Deep.open_slice Try.underlying23 hf with ⟨hc, _⟩ | ⟨a, len, cap, mm2, nn, D, Pl, hc, _, hlc, hmax, hmm, hdd, hel⟩
  · have hc' : [Value.slice A0 n0 c0] = [Value.slice none 0 0] := hc
    exact ⟨[], none, 0, 0, by simpa using hc', ⟨rfl, Nat.le_refl _, Nat.zero_le _, fun _ => rfl, fun h => absurd h (by omega)⟩⟩
  · have hcap : mm2 = cap := by simpa using hmm
    subst hcap
    have hce : Try.prog.cellsOf 47 = 11 := by kernel_rfl
    have key : ∀ i, i < mm2 → ∃ q : Oct.DoH, ∀ j u, q.cells[j]? = some u → W.cell? ((a.add (i * 11)).add j) = some u := by
      intro i hi
      obtain ⟨cs', h1, h2⟩ := hel i hi
      rw [hce] at h1
      obtain ⟨_, hlen, hcell⟩ := World.cells?_some h1
      obtain ⟨ys, m2, _, hy, hyl, hyn, hy'⟩ := DataW.trod_struct Try.underlying47 h2
      have hy3 : ys.length = 3 := hyn
      obtain ⟨a0, a1, a2, a3, a4, a5, a6, a7, a8, a9, a10, rfl⟩ := Oct.eleven hlen
      have q0 : DataW.trod enc Try.prog W 0 (fun _ => true) true m2 3 [a0] = ys[0]? := hy' 0 _ rfl
      have q1 : DataW.trod enc Try.prog W 0 (fun _ => true) true m2 3 [a1] = ys[1]? := hy' 1 _ rfl
      have q2 : DataW.trod enc Try.prog W 0 (fun _ => true) true m2 31 [a2, a3, a4, a5, a6, a7, a8, a9, a10] = ys[2]? := hy' 2 _ rfl
      rw [List.getElem?_eq_getElem (by omega)] at q0 q1 q2
      obtain ⟨z, e0, _⟩ := DataW.trod_int Try.underlying3 q0
      obtain ⟨z1, e1, _⟩ := DataW.trod_int Try.underlying3 q1
      simp only [List.cons.injEq, and_true] at e0 e1
      obtain ⟨x, ex⟩ := open_sv rfl q2
      subst e0 e1
      refine ⟨⟨z, z1, x⟩, fun j u hj => ?_⟩
      have hce2 : Oct.DoH.cells ⟨z, z1, x⟩ = .int .i64 z :: .int .i64 z1 :: [a2, a3, a4, a5, a6, a7, a8, a9, a10] := by rw [ex]; rfl
      rw [hce2] at hj
      have hjl : j < 11 := (List.getElem?_eq_some_iff.1 hj).1
      rw [hcell j hjl]
      exact hj
    haveI : Inhabited Oct.DoH := ⟨⟨0, 0, Oct.sv0⟩⟩
    obtain ⟨F, hF⟩ := Deep.choose_lt (α := Oct.DoH) (n := mm2) (p := fun i q => ∀ j u, q.cells[j]? = some u → W.cell? ((a.add (i * 11)).add j) = some u) key
    have hc' : [Value.slice A0 n0 c0] = [Value.slice (some a) len mm2] := hc
    refine ⟨(List.range len).map F, some a, len, mm2, by simpa using hc', ⟨by simp, hlc, hmax, fun e => by simp at e, fun hn => ?_⟩⟩
    obtain ⟨b, off, spot⟩ := a
    have h0 := hF 0 (by omega) 0 _ rfl
    have hspot : spot = none := by simpa [Addr.add] using World.cell?_spot h0
    subst hspot
    have hadd2 : ∀ i j, ((⟨b, off, none⟩ : Addr).add i).add j = ⟨b, off + i + j, none⟩ := fun i j => by rw [Oct.add_addr]; exact Oct.add_addr _ _ _
    refine ⟨b, off, rfl, ?_, fun j q hj i u hu => ?_⟩
    · rw [hadd2] at h0; exact World.block_lt_of_cell? W _ h0
    · have hjl : j < len := by have := (List.getElem?_eq_some_iff.1 hj).1; simpa using this
      have ho : F j = q := by rw [List.getElem?_map, List.getElem?_range hjl] at hj; simpa using hj
      subst ho
      have hG := hF j (by omega) i u hu
      rw [hadd2] at hG
      exact hG
end Go.Proofs.Ytomjnpjabfnlbaa.Frame
