/- Calls of a group as a parameter: a row of pairs of a number and a bool. -/
import Derived.Test.YtlambnlehomkdaaVbl
import Derived.Deep.Slices
import Derived.SizedLaws
namespace Go.Proofs.Ytlambnlehomkdaa.Oct
open Go.RowKit
set_option linter.unusedVariables false
/-- The slice (A, n, c) reads as the pairs ds, and lies below block B. -/
def Dp (w : World) (B : Nat) (A : Option Addr) (n c : Nat) (ds : List (Int × Bool)) : Prop :=
  ds.length = n ∧ n ≤ c ∧ c ≤ maxLen ∧ (A = none → c = 0) ∧ (0 < n → ∃ b off, A = some ⟨b, off, none⟩ ∧ b < B ∧ ∀ (j : Nat) (q : Int × Bool), ds[j]? = some q → w.cell? ⟨b, off + j * 2, none⟩ = some (.int .i64 q.1) ∧ w.cell? ⟨b, off + j * 2 + 1, none⟩ = some (.bool q.2))
theorem Dp.below {w w' : World} {B : Nat} {A : Option Addr} {n c : Nat} {ds : List (Int × Bool)} (h : Dp w B A n c ds) (hb : Below B w w') : Dp w' B A n c ds :=
  ⟨h.1, h.2.1, h.2.2.1, h.2.2.2.1, fun hn => by
    obtain ⟨b, off, e, hlt, hc⟩ := h.2.2.2.2 hn
    exact ⟨b, off, e, hlt, fun j q hj => ⟨(hb.cell (p := ⟨b, _, none⟩) hlt).trans (hc j q hj).1, (hb.cell (p := ⟨b, _, none⟩) hlt).trans (hc j q hj).2⟩⟩⟩
theorem Dp.below' {w w' : World} {B B' : Nat} {A : Option Addr} {n c : Nat} {ds : List (Int × Bool)} (h : Dp w B A n c ds) (hb : Below B' w w') (hB : B ≤ B') : Dp w' B A n c ds := h.below (hb.mono hB)
theorem Dp.max {w : World} {B : Nat} {A : Option Addr} {n c : Nat} {ds : List (Int × Bool)} (h : Dp w B A n c ds) : (n : Int) ≤ 9223372036854775807 := by have := h.2.1; have := h.2.2.1; unfold maxLen at this; omega
end Go.Proofs.Ytlambnlehomkdaa.Oct
namespace Go.Proofs.Ytlambnlehomkdaa.Frame
open Go.ChangeShapes Go.WideShapes Go.ChangeAt Go.RowKit
set_option linter.unusedVariables false
set_option maxRecDepth 100000 in
theorem open_dos {H : Type} {enc : TypeId × Value → H} {W : World} {r : Reach} {b0 : Nat} {v : Value} {d : DataW H} {pl : List MemPlace}
    (hv : Value.okWide Try.prog W r b0 72 v) (hh : DataW.Trod enc Try.prog W 0 (fun _ => true) true 72 v d pl) :
    ∃ (bs : List (Int × Bool)) (A : Option Addr) (n c : Nat), v = .slice A n c ∧ Oct.Dp W W.heap.size A n c bs := by
  obtain ⟨A0, n0, c0, rfl⟩ := okWide_slice Try.underlying72 hv
  obtain ⟨fuel, hf⟩ := hh
  rcases Deep.open_slice Try.underlying72 hf with ⟨hc, _⟩ | ⟨a, len, cap, mm2, nn, D, Pl, hc, _, hlc, hmax, hmm, hdd, hel⟩
  · have hc' : [Value.slice A0 n0 c0] = [Value.slice none 0 0] := hc
    exact ⟨[], none, 0, 0, by simpa using hc', ⟨rfl, Nat.le_refl _, Nat.zero_le _, fun _ => rfl, fun h => absurd h (by omega)⟩⟩
  · have hcap : mm2 = cap := by simpa using hmm
    subst hcap
    have hce : Try.prog.cellsOf 83 = 2 := by kernel_rfl
    have key : ∀ i, i < mm2 → ∃ q : Int × Bool, W.cell? ((a.add (i * 2)).add 0) = some (.int .i64 q.1) ∧ W.cell? ((a.add (i * 2)).add 1) = some (.bool q.2) := by
      intro i hi
      obtain ⟨cs', h1, h2⟩ := hel i hi
      rw [hce] at h1
      obtain ⟨_, hlen, hcell⟩ := World.cells?_some h1
      obtain ⟨ys, m2, _, hy, hyl, hyn, hy'⟩ := DataW.trod_struct Try.underlying83 h2
      have hy2 : ys.length = 2 := hyn
      have q0 : DataW.trod enc Try.prog W 0 (fun _ => true) true m2 3 (List.take 1 (List.drop 0 cs')) = ys[0]? := hy' 0 _ rfl
      have q1 : DataW.trod enc Try.prog W 0 (fun _ => true) true m2 4 (List.take 1 (List.drop 1 cs')) = ys[1]? := hy' 1 _ rfl
      rw [List.getElem?_eq_getElem (by omega)] at q0 q1
      obtain ⟨z, e0, _⟩ := DataW.trod_int Try.underlying3 q0
      obtain ⟨q, e1, _⟩ := DataW.trod_bool Try.underlying4 q1
      match cs', hlen with
      | [x0, x1], _ =>
        simp at e0 e1
        refine ⟨(z, q), ?_, ?_⟩
        · rw [hcell 0 (by omega)]; simp [e0]
        · rw [hcell 1 (by omega)]; simp [e1]
    haveI : Inhabited (Int × Bool) := ⟨(0, false)⟩
    obtain ⟨F, hF⟩ := Deep.choose_lt (α := Int × Bool) (n := mm2) (p := fun i q => W.cell? ((a.add (i * 2)).add 0) = some (.int .i64 q.1) ∧ W.cell? ((a.add (i * 2)).add 1) = some (.bool q.2)) key
    have hc' : [Value.slice A0 n0 c0] = [Value.slice (some a) len mm2] := hc
    refine ⟨(List.range len).map F, some a, len, mm2, by simpa using hc', ⟨by simp, hlc, hmax, fun e => by simp at e, fun hn => ?_⟩⟩
    obtain ⟨b, off, spot⟩ := a
    have h0 := (hF 0 (by omega)).1
    have hspot : spot = none := by simpa [Addr.add] using World.cell?_spot h0
    subst hspot
    have hadd2 : ∀ i j, ((⟨b, off, none⟩ : Addr).add i).add j = ⟨b, off + i + j, none⟩ := fun i j => by rw [Oct.add_addr]; exact Oct.add_addr _ _ _
    refine ⟨b, off, rfl, ?_, fun j q hj => ?_⟩
    · rw [hadd2] at h0; exact World.block_lt_of_cell? W _ h0
    · have hjl : j < len := by have := (List.getElem?_eq_some_iff.1 hj).1; simpa using this
      have ho : F j = q := by rw [List.getElem?_map, List.getElem?_range hjl] at hj; simpa using hj
      have hG := hF j (by omega)
      rw [hadd2, hadd2, ho] at hG
      exact hG
end Go.Proofs.Ytlambnlehomkdaa.Frame
