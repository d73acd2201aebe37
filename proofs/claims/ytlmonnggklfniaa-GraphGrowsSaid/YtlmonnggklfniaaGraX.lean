/- Parameters of layer 12 (graph): a graph, a row of bools. -/
import Derived.Test.YtlmonnggklfniaaGraE
import Derived.Deep.Slices
import Derived.SizedLaws
namespace Go.Proofs.Ytlmonnggklfniaa.Frame
open Go.ChangeShapes Go.WideShapes Go.ChangeAt Go.RowKit
set_option linter.unusedVariables false

theorem flat_link : Flat Try.prog 43 [.i64, .i64, .i64, .i64] := by
  refine flat_struct [[.i64, .i64], [.i64, .i64]] Try.underlying43 (by kernel_rfl) rfl (fun i f ks h1 h2 => ?_)
  match i, h1, h2 with
  | 0, h1, h2 => simp at h1 h2; subst h1 h2; exact ⟨Oct.flat_end, rfl⟩
  | 1, h1, h2 => simp at h1 h2; subst h1 h2; exact ⟨Oct.flat_end, rfl⟩
  | n + 2, h1, h2 => simp at h2
theorem fourL {cs : List Value} (h : IsFlat [.i64, .i64, .i64, .i64] cs) : ∃ l : Oct.Lk, cs = [.int .i64 l.a, .int .i64 l.p, .int .i64 l.b, .int .i64 l.q] := by
  obtain ⟨zs, l, e, _⟩ := h
  match zs, l with
  | [p, a, b, c], _ => exact ⟨⟨p, a, b, c⟩, e⟩
set_option maxRecDepth 100000 in
/-- A row of links among the cells. -/
theorem links_at {H : Type} {enc : TypeId × Value → H} {W : World} {m : Nat} {R : List Value} {y : DataW H × List MemPlace}
    (q5 : DataW.trod enc Try.prog W 0 (fun _ => true) true m 22 R = some y) :
    ∃ (A : Option Addr) (n c : Nat) (ls : List Oct.Lk), R = [.slice A n c] ∧ Oct.Lr W W.heap.size A n c ls := by
  rcases Deep.open_slice Try.underlying22 q5 with ⟨hc, _⟩ | ⟨a, len, cap, mm2, nn, D, Pl, hc, _, hlc, hmax, hmm, hdd, hel⟩
  · exact ⟨none, 0, 0, [], hc, Oct.Lr.nil _ _⟩
  · have hcap : mm2 = cap := by simpa using hmm
    subst hcap
    have hce : Try.prog.cellsOf 43 = 4 := by kernel_rfl
    have key : ∀ i, i < mm2 → ∃ o : Oct.Lk, ∀ h : Nat, h < 4 → W.cell? ((a.add (i * 4)).add h) = [Value.int .i64 o.a, .int .i64 o.p, .int .i64 o.b, .int .i64 o.q][h]? := by
      intro i hi
      obtain ⟨cs', h1, h2⟩ := hel i hi
      rw [hce] at h1
      obtain ⟨_, hlen, hcell⟩ := World.cells?_some h1
      obtain ⟨o, rfl⟩ := fourL (flat_link.2 _ _ _ _ _ _ _ _ h2)
      exact ⟨o, fun h hh => hcell h hh⟩
    haveI : Inhabited Oct.Lk := ⟨⟨0, 0, 0, 0⟩⟩
    obtain ⟨F, hF⟩ := Deep.choose_lt (α := Oct.Lk) (n := mm2) (p := fun i o => ∀ h : Nat, h < 4 → W.cell? ((a.add (i * 4)).add h) = [Value.int .i64 o.a, .int .i64 o.p, .int .i64 o.b, .int .i64 o.q][h]?) key
    refine ⟨some a, len, mm2, (List.range len).map F, hc, ⟨by simp, hlc, hmax, fun e => by simp at e, fun hn => ?_⟩⟩
    obtain ⟨b, off, spot⟩ := a
    have h0 := hF 0 (by omega) 0 (by omega)
    have hspot : spot = none := by simpa [Addr.add] using World.cell?_spot h0
    subst hspot
    have hadd : ∀ j, (⟨b, off, none⟩ : Addr).add j = ⟨b, off + j, none⟩ := fun j => Oct.add_addr _ _ _
    have hadd2 : ∀ i j, ((⟨b, off, none⟩ : Addr).add i).add j = ⟨b, off + i + j, none⟩ := fun i j => by rw [hadd]; exact Oct.add_addr _ _ _
    refine ⟨b, off, rfl, ?_, fun j o hj => ?_⟩
    · rw [hadd2] at h0; exact World.block_lt_of_cell? W _ h0
    · have hjl : j < len := by have := (List.getElem?_eq_some_iff.1 hj).1; simpa using this
      have ho : F j = o := by rw [List.getElem?_map, List.getElem?_range hjl] at hj; simpa using hj
      subst ho
      have hG := hF j (by omega)
      have g0 := hG 0 (by omega)
      have g1 := hG 1 (by omega)
      have g2 := hG 2 (by omega)
      have g3 := hG 3 (by omega)
      rw [hadd2] at g0 g1 g2 g3
      exact ⟨g0, g1, g2, g3⟩
set_option maxRecDepth 100000 in
theorem open_graph {H : Type} {enc : TypeId × Value → H} {W : World} {r : Reach} {b0 : Nat} {v : Value} {d : DataW H} {pl : List MemPlace}
    (hv : Value.okWide Try.prog W r b0 24 v) (hh : DataW.Trod enc Try.prog W 0 (fun _ => true) true 24 v d pl) :
    ∃ (S : Int) (ls : List Oct.Lk) (A : Option Addr) (n c : Nat), v = .agg #[.int .i64 S, .slice A n c] ∧ Oct.Lr W W.heap.size A n c ls := by
  have ht := Try.underlying24
  have hcs : ∃ cs, v = .agg cs ∧ cs.size = 2 := by
    unfold Value.okWide at hv
    rw [ht] at hv
    obtain ⟨cs, h1, h2, _⟩ := hv
    exact ⟨cs, h1, h2.trans (by kernel_rfl)⟩
  obtain ⟨cs, rfl, hs2⟩ := hcs
  obtain ⟨fuel, hf⟩ := hh
  have hR : cs.toList.length = 2 := by simpa using hs2
  have hf' : DataW.trod enc Try.prog W 0 (fun _ => true) true fuel 24 cs.toList = some (d, pl) := hf
  generalize hcl : cs.toList = R at *
  obtain ⟨ys, m2, _, hy, hyl, hyn, hy'⟩ := DataW.trod_struct ht hf'
  have hy2 : ys.length = 2 := hyn
  have q0 : DataW.trod enc Try.prog W 0 (fun _ => true) true m2 3 (List.take 1 (List.drop 0 R)) = ys[0]? := hy' 0 _ rfl
  have q1 : DataW.trod enc Try.prog W 0 (fun _ => true) true m2 22 (List.take 1 (List.drop 1 R)) = ys[1]? := hy' 1 _ rfl
  rw [List.getElem?_eq_getElem (by omega)] at q0 q1
  obtain ⟨S, r0, _⟩ := DataW.trod_int Try.underlying3 q0
  obtain ⟨A, n, c, ls, r1, hl⟩ := links_at q1
  refine ⟨S, ls, A, n, c, ?_, hl⟩
  congr 1
  apply Array.ext'
  rw [hcl]
  match R, hR, r0, r1 with
  | [x, y], _, r0, r1 =>
    simp at r0 r1
    rw [r0, r1]
set_option maxRecDepth 100000 in
theorem open_boolsG {H : Type} {enc : TypeId × Value → H} {W : World} {r : Reach} {b0 : Nat} {v : Value} {d : DataW H} {pl : List MemPlace}
    (hv : Value.okWide Try.prog W r b0 36 v) (hh : DataW.Trod enc Try.prog W 0 (fun _ => true) true 36 v d pl) :
    ∃ (bs : List Bool) (A : Option Addr) (n c : Nat), v = .slice A n c ∧ Oct.Bl W W.heap.size A n c bs := by
  obtain ⟨A0, n0, c0, rfl⟩ := okWide_slice Try.underlying36 hv
  obtain ⟨fuel, hf⟩ := hh
  rcases Deep.open_slice Try.underlying36 hf with ⟨hc, _⟩ | ⟨a, len, cap, mm2, nn, D, Pl, hc, _, hlc, hmax, hmm, hdd, hel⟩
  · have hc' : [Value.slice A0 n0 c0] = [Value.slice none 0 0] := hc
    exact ⟨[], none, 0, 0, by simpa using hc', Oct.Bl.nil _ _⟩
  · have hcap : mm2 = cap := by simpa using hmm
    subst hcap
    have hce : Try.prog.cellsOf 4 = 1 := by kernel_rfl
    have key : ∀ i, i < mm2 → ∃ q : Bool, W.cell? (a.add i) = some (.bool q) := by
      intro i hi
      obtain ⟨cs', h1, h2⟩ := hel i hi
      rw [hce] at h1
      obtain ⟨_, hlen, hcell⟩ := World.cells?_some h1
      obtain ⟨q, e, _⟩ := DataW.trod_bool Try.underlying4 h2
      refine ⟨q, ?_⟩
      have h0 := hcell 0 (by omega)
      rw [e] at h0
      have e0 : (a.add (i * 1)).add 0 = a.add i := by
        rw [Nat.mul_one]
        cases hq : a.add i with
        | mk b o s => cases s <;> simp [Addr.add]
      rw [e0] at h0
      simpa using h0
    haveI : Inhabited Bool := ⟨false⟩
    obtain ⟨F, hF⟩ := Deep.choose_lt (α := Bool) (n := mm2) (p := fun i q => W.cell? (a.add i) = some (.bool q)) key
    have hc' : [Value.slice A0 n0 c0] = [Value.slice (some a) len mm2] := hc
    refine ⟨(List.range len).map F, some a, len, mm2, by simpa using hc', ⟨by simp, hlc, hmax, fun hn => ?_⟩⟩
    obtain ⟨b, off, spot⟩ := a
    have h0 := hF 0 (by omega)
    have hspot : spot = none := by simpa [Addr.add] using World.cell?_spot h0
    subst hspot
    refine ⟨b, off, rfl, ?_, fun j hj => ?_⟩
    · rw [Oct.add_addr] at h0; exact World.block_lt_of_cell? W _ h0
    · have hG := hF j (by omega)
      rw [Oct.add_addr] at hG
      rw [hG, List.getD_eq_getElem?_getD, List.getElem?_map, List.getElem?_range hj]; rfl
end Go.Proofs.Ytlmonnggklfniaa.Frame
