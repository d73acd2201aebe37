/- Rules as a parameter: a row of them. -/
import Derived.Test.YtcolklkjaifplaaRulX
import Derived.Test.YtcolklkjaifplaaTabA
namespace Go.Proofs.Ytcolklkjaifplaa.Oct
open Go.RowKit
set_option linter.unusedVariables false
/-- The slice (A, n, c) reads as the rules ys, and lies below block B. -/
def Rp (w : World) (B : Nat) (A : Option Addr) (n c : Nat) (ys : List It) : Prop :=
  ys.length = n ∧ n ≤ c ∧ c ≤ maxLen ∧ (A = none → c = 0) ∧
  (0 < n → ∃ b off, A = some ⟨b, off, none⟩ ∧ b < B ∧ ∀ (j : Nat) (y : It), ys[j]? = some y → ∀ (k : Nat) (u : Value), (ics y)[k]? = some u → w.cell? ⟨b, off + j * 13 + k, none⟩ = some u)
theorem Rp.below {w w' : World} {B : Nat} {A : Option Addr} {n c : Nat} {ys : List It} (h : Rp w B A n c ys) (hb : Below B w w') : Rp w' B A n c ys :=
  ⟨h.1, h.2.1, h.2.2.1, h.2.2.2.1, fun hn => by
    obtain ⟨b, off, e, hlt, hc⟩ := h.2.2.2.2 hn
    exact ⟨b, off, e, hlt, fun j y hj k u hk => (hb.cell (p := ⟨b, _, none⟩) hlt).trans (hc j y hj k u hk)⟩⟩
theorem wpList_load_cells {ty : TypeId} {w : World} {g off : Nat} {vs : List Value} {ops : Array Oper} {rest : List Oper} {o : Oper} {a : Act} {Q : Exit → Act → World → Prop} (hw : Region.wanted o (yielded ops a.tmps) = true) (x : Operand) (ho : o.op = .load ty x) (hx : a.eval x = .pointer (some ⟨g, off, none⟩)) (hc : ∀ (k : Nat) (u : Value), vs[k]? = some u → w.cell? ⟨g, off + k, none⟩ = some u) (ht : Agg ty vs.length)
    (h : wpList Try.prog ops Q rest (a.put o.dst (.agg vs.toArray)) w) : wpList Try.prog ops Q (o :: rest) a w := by
  refine BigFrame.wpList_want hw fun K hK => ?_
  have hrun : (loadVar ty ⟨g, off, none⟩).run Try.prog w = .ok (.agg vs.toArray) w := by
    obtain ⟨⟨d, hu, hd⟩, hi⟩ := ht
    have hl : (loadCells ⟨g, off, none⟩ vs.length).run Try.prog w = .ok vs.toArray w := run_loadCells_list (P := Try.prog) w ⟨g, off, none⟩ vs (fun j v hj => by rw [add_addr]; exact hc j v hj)
    cases hq : Try.prog.info? ty with
    | none => simp [hq] at hi
    | some i =>
      have hs : i.size = vs.length := by simpa [hq] using hi
      have hagg : (isAgg ty).run Try.prog w = .ok true w := by
        unfold isAgg
        rw [Sem.run_bind, run_underlying hu w]
        cases d <;> simp_all
      simp [loadVar, Sem.run_bind, hagg, sizeOf, typeInfo, hq, hs, hl]
  unfold Oper.wp execOp
  simp only [ho, hx, Instr.loadAt, Instr.sureAddr, Sem.run_bind, Sem.run_pure, Result.andThen_ok, hrun]
  exact hK _ _ h
end Go.Proofs.Ytcolklkjaifplaa.Oct
namespace Go.Proofs.Ytcolklkjaifplaa.Frame
open Go.ChangeShapes Go.WideShapes Go.ChangeAt Go.RowKit
set_option linter.unusedVariables false
set_option maxRecDepth 100000 in
theorem open_rules {H : Type} {enc : TypeId × Value → H} {W : World} {r : Reach} {b0 : Nat} {v : Value} {d : DataW H} {pl : List MemPlace}
    (hv : Value.okWide Try.prog W r b0 39 v) (hh : DataW.Trod enc Try.prog W 0 (fun _ => true) true 39 v d pl) :
    ∃ (ys : List Oct.It) (A : Option Addr) (n c : Nat), v = .slice A n c ∧ Oct.Rp W W.heap.size A n c ys ∧ (∀ y ∈ ys, Oct.MB y.r.x) := by
  obtain ⟨A0, n0, c0, rfl⟩ := okWide_slice Try.underlying39 hv
  obtain ⟨fuel, hf⟩ := hh
  rcases Deep.open_slice Try.underlying39 hf with ⟨hc, _⟩ | ⟨a, len, cap, mm2, nn, D, Pl, hc, _, hlc, hmax, hmm, hdd, hel⟩
  · have hc' : [Value.slice A0 n0 c0] = [Value.slice none 0 0] := hc
    refine ⟨[], none, 0, 0, by simpa using hc', ⟨rfl, Nat.le_refl _, Nat.zero_le _, fun _ => rfl, fun h => absurd h (by omega)⟩, fun y hy => by simp at hy⟩
  · have hcap : mm2 = cap := by simpa using hmm
    subst hcap
    have hce : Try.prog.cellsOf 31 = 13 := by kernel_rfl
    have key : ∀ i, i < mm2 → ∃ y : Oct.It, (∀ (k : Nat) (u : Value), (Oct.ics y)[k]? = some u → W.cell? ((a.add (i * 13)).add k) = some u) ∧ Oct.MB y.r.x := by
      intro i hi
      obtain ⟨cs', h1, h2⟩ := hel i hi
      rw [hce] at h1
      obtain ⟨_, hlen, hcell⟩ := World.cells?_some h1
      obtain ⟨r, A, n, c, e, hro, hmb, _⟩ := rule_at h2 hlen
      have hl := hro.len
      subst hl
      refine ⟨⟨r, A, c⟩, fun k u hk => ?_, hmb⟩
      have hk13 : k < 13 := (List.getElem?_eq_some_iff.1 hk).1
      rw [hcell k hk13, e]
      exact hk
    haveI : Inhabited Oct.It := ⟨Oct.zIt⟩
    obtain ⟨F, hF⟩ := Deep.choose_lt (α := Oct.It) (n := mm2) (p := fun i y => (∀ (k : Nat) (u : Value), (Oct.ics y)[k]? = some u → W.cell? ((a.add (i * 13)).add k) = some u) ∧ Oct.MB y.r.x) key
    have hc' : [Value.slice A0 n0 c0] = [Value.slice (some a) len mm2] := hc
    refine ⟨(List.range len).map F, some a, len, mm2, by simpa using hc', ⟨by simp, hlc, hmax, fun e => by simp at e, fun hn => ?_⟩, fun y hy => ?_⟩
    · obtain ⟨b, off, spot⟩ := a
      have h0 := (hF 0 (by omega)).1 0 _ rfl
      have hspot : spot = none := by simpa [Addr.add] using World.cell?_spot h0
      subst hspot
      have hadd2 : ∀ i j, ((⟨b, off, none⟩ : Addr).add i).add j = ⟨b, off + i + j, none⟩ := fun i j => by rw [Oct.add_addr]; exact Oct.add_addr _ _ _
      refine ⟨b, off, rfl, ?_, fun j y hj k u hk => ?_⟩
      · rw [hadd2] at h0; exact World.block_lt_of_cell? W _ h0
      · have hjl : j < len := by have := (List.getElem?_eq_some_iff.1 hj).1; simpa using this
        have ho : F j = y := by rw [List.getElem?_map, List.getElem?_range hjl] at hj; simpa using hj
        subst ho
        have hG := (hF j (by omega)).1 k u hk
        rw [hadd2] at hG
        exact hG
    · obtain ⟨i, hi, rfl⟩ := List.mem_map.1 hy
      exact (hF i (by have := List.mem_range.1 hi; omega)).2
end Go.Proofs.Ytcolklkjaifplaa.Frame
