/- A rule, a row of outputs, three rules as parameters: their numbers and what they hold. -/
import Derived.Test.YtcolklkjaifplaaOrdV
import Derived.Test.YtcolklkjaifplaaMskX
import Derived.Deep.Slices
import Derived.SizedLaws
namespace Go.Proofs.Ytcolklkjaifplaa.Frame
open Go.ChangeShapes Go.WideShapes Go.ChangeAt Go.RowKit
set_option linter.unusedVariables false

theorem sized_field1 {H : Type} {P : Program} {ts : List TypeId} {ds : List (DataW H)} (h : (DataW.weightsEach P ts ds).all (· ≤ reachBytes) = true) {j i : Nat} {t e : TypeId} {fs : Array Field} {f : Field} {parts elems spare : List (DataW H)}
    (ht : ts[j]? = some t) (hd : ds[j]? = some (.agg parts)) (hu : P.underlying t = some (.struct fs)) (hf : fs[i]? = some f) (hp : parts[i]? = some (.slice elems spare)) (hs : P.underlying f.type = some (.slice e)) :
    (elems.length + spare.length) * P.bytesOf e ≤ reachBytes := by
  have hf' : (fs.toList.map (·.type))[i]? = some f.type := by rw [List.getElem?_map, Array.getElem?_toList, hf]; rfl
  have := List.all_eq_true.1 h _ (DataW.weights_mem_each ht hd ((elems.length + spare.length) * P.bytesOf e) (by
    simp only [DataW.weights, hu]
    exact DataW.weights_mem_each hf' hp _ (by simp [DataW.weights, hs])))
  simpa using this
theorem sized_top {H : Type} {P : Program} {ts : List TypeId} {ds : List (DataW H)} (h : (DataW.weightsEach P ts ds).all (· ≤ reachBytes) = true) {j : Nat} {t e : TypeId} {elems spare : List (DataW H)}
    (ht : ts[j]? = some t) (hd : ds[j]? = some (.slice elems spare)) (hs : P.underlying t = some (.slice e)) :
    (elems.length + spare.length) * P.bytesOf e ≤ reachBytes := by
  have := List.all_eq_true.1 h _ (DataW.weights_mem_each ht hd ((elems.length + spare.length) * P.bytesOf e) (by simp [DataW.weights, hs]))
  simpa using this
theorem flat_out : Flat Try.prog 93 [.i64, .i64, .i64, .i64] := by
  have h3 : Flat Try.prog 91 [.i64, .i64, .i64] := flat_array (n := 3) (ks := [.i64]) Try.underlying91 Oct.flat_int_ (by kernel_rfl)
  refine flat_struct [[.i64], [.i64, .i64, .i64]] Try.underlying93 (by kernel_rfl) rfl (fun i f ks h1 h2 => ?_)
  match i, h1, h2 with
  | 0, h1, h2 => simp at h1 h2; subst h1 h2; exact ⟨Oct.flat_int_, rfl⟩
  | 1, h1, h2 => simp at h1 h2; subst h1 h2; exact ⟨h3, rfl⟩
  | n + 2, h1, h2 => simp at h2
theorem cuts13 {α : Type} (L : List α) (h : L.length = 13) : L = List.take 1 (List.drop 0 L) ++ (List.take 1 (List.drop 1 L) ++ (List.take 1 (List.drop 2 L) ++ (List.take 1 (List.drop 3 L) ++ (List.take 8 (List.drop 4 L) ++ List.take 1 (List.drop 12 L))))) := by
  match L, h with
  | [x0, x1, x2, x3, x4, x5, x6, x7, x8, x9, x10, x11, x12], _ => rfl
theorem cuts39 {α : Type} (L : List α) (h : L.length = 39) : L = List.take 13 (List.drop 0 L) ++ (List.take 13 (List.drop 13 L) ++ List.take 13 (List.drop 26 L)) := by
  have a : List.take 13 (List.drop 26 L) = List.drop 26 L := List.take_of_length_le (by rw [List.length_drop]; omega)
  have b : List.take 13 (List.drop 13 L) ++ List.drop 26 L = List.drop 13 L := by
    rw [show List.drop 26 L = List.drop 13 (List.drop 13 L) by rw [List.drop_drop]]
    exact List.take_append_drop 13 _
  rw [a, b, List.drop_zero, List.take_append_drop]
theorem one_int {cs : List Value} (h : IsFlat [.i64] cs) : ∃ z : Int, cs = [.int .i64 z] := by
  obtain ⟨zs, l, e, _⟩ := h
  match zs, l with
  | [z], _ => exact ⟨z, e⟩
theorem eight {cs : List Value} (h : IsFlat [.i64, .i64, .u8, .u8, .u8, .u8, .u8, .u8] cs) : ∃ x : Oct.MaskV, cs = [.int .i64 x.v, .int .i64 x.m, .int .u8 x.b0, .int .u8 x.b1, .int .u8 x.b2, .int .u8 x.i0, .int .u8 x.i1, .int .u8 x.i2] ∧ Oct.MB x := by
  obtain ⟨zs, l, e, hw⟩ := h
  obtain ⟨x, rfl, hx⟩ := Oct.mask_of zs l hw
  exact ⟨x, e, hx⟩
theorem four {cs : List Value} (h : IsFlat [.i64, .i64, .i64, .i64] cs) : ∃ o : Oct.OutV, cs = [.int .i64 o.p, .int .i64 o.a, .int .i64 o.b, .int .i64 o.c] := by
  obtain ⟨zs, l, e, _⟩ := h
  match zs, l with
  | [p, a, b, c], _ => exact ⟨⟨p, a, b, c⟩, e⟩

set_option maxRecDepth 100000 in
/-- A row of outputs among the cells. -/
theorem outs_at {H : Type} {enc : TypeId × Value → H} {W : World} {m : Nat} {R : List Value} {y : DataW H × List MemPlace}
    (q5 : DataW.trod enc Try.prog W 0 (fun _ => true) true m 29 R = some y) :
    ∃ (A : Option Addr) (n c : Nat) (os : List Oct.OutV), R = [.slice A n c] ∧ Oct.Ro W W.heap.size A n c os ∧ (c = 0 ∨ ∃ E S, y.1 = .slice E S ∧ E.length + S.length = c) := by
  rcases Deep.open_slice Try.underlying29 q5 with ⟨hc, _⟩ | ⟨a, len, cap, mm2, nn, D, Pl, hc, _, hlc, hmax, hmm, hdd, hel⟩
  · exact ⟨none, 0, 0, [], hc, Oct.Ro.nil _ _, .inl rfl⟩
  · have hcap : mm2 = cap := by simpa using hmm
    subst hcap
    have hce : Try.prog.cellsOf 93 = 4 := by kernel_rfl
    have key : ∀ i, i < mm2 → ∃ o : Oct.OutV, ∀ h : Nat, h < 4 → W.cell? ((a.add (i * 4)).add h) = [Value.int .i64 o.p, .int .i64 o.a, .int .i64 o.b, .int .i64 o.c][h]? := by
      intro i hi
      obtain ⟨cs', h1, h2⟩ := hel i hi
      rw [hce] at h1
      obtain ⟨_, hlen, hcell⟩ := World.cells?_some h1
      obtain ⟨o, rfl⟩ := four (flat_out.2 _ _ _ _ _ _ _ _ h2)
      exact ⟨o, fun h hh => hcell h hh⟩
    haveI : Inhabited Oct.OutV := ⟨⟨0, 0, 0, 0⟩⟩
    obtain ⟨F, hF⟩ := Deep.choose_lt (α := Oct.OutV) (n := mm2) (p := fun i o => ∀ h : Nat, h < 4 → W.cell? ((a.add (i * 4)).add h) = [Value.int .i64 o.p, .int .i64 o.a, .int .i64 o.b, .int .i64 o.c][h]?) key
    refine ⟨some a, len, mm2, (List.range len).map F, hc, ⟨by simp, hlc, hmax, fun e => by simp at e, fun hn => ?_⟩, .inr ⟨_, _, congrArg Prod.fst hdd, by simp; omega⟩⟩
    obtain ⟨b, off, spot⟩ := a
    have h0 := hF 0 (by omega) 0 (by omega)
    have hspot : spot = none := by simpa [Addr.add] using World.cell?_spot h0
    subst hspot
    have hadd : ∀ j, (⟨b, off, none⟩ : Addr).add j = ⟨b, off + j, none⟩ := fun j => Oct.add_addr _ _ _
    have hadd2 : ∀ i j, ((⟨b, off, none⟩ : Addr).add i).add j = ⟨b, off + i + j, none⟩ := fun i j => by rw [hadd]; exact Oct.add_addr _ _ _
    refine ⟨b, off, rfl, ?_, fun j o hj => ?_⟩
    · rw [hadd2] at h0; exact World.block_lt_of_cell? W _ h0
    · have hjl : j < len := by have := (List.getElem?_eq_some_iff.1 hj).1; simpa using this
      have ho : F j = o := by rw [List.getElem?_map, List.getElem?_range hjl] at hj; simpa using hj
      subst ho
      have hG := hF j (by omega)
      have g0 := hG 0 (by omega)
      have g1 := hG 1 (by omega)
      have g2 := hG 2 (by omega)
      have g3 := hG 3 (by omega)
      rw [hadd2] at g0 g1 g2 g3
      exact ⟨g0, g1, g2, g3⟩
set_option maxRecDepth 100000 in
/-- A rule among the cells. -/
theorem rule_at {H : Type} {enc : TypeId × Value → H} {W : World} {m : Nat} {R : List Value} {y : DataW H × List MemPlace}
    (p3 : DataW.trod enc Try.prog W 0 (fun _ => true) true m 31 R = some y) (hR : R.length = 13) :
    ∃ (r : Oct.RuleV) (A : Option Addr) (n c : Nat), R = [.int .i64 r.k, .int .i64 r.pr, .int .i64 r.to, .int .i64 r.po, .int .i64 r.x.v, .int .i64 r.x.m, .int .u8 r.x.b0, .int .u8 r.x.b1, .int .u8 r.x.b2, .int .u8 r.x.i0, .int .u8 r.x.i1, .int .u8 r.x.i2, .slice A n c] ∧ Oct.Ro W W.heap.size A n c r.os ∧ Oct.MB r.x ∧ (c = 0 ∨ ∃ ys E S, y.1 = .agg ys ∧ ys[5]? = some (.slice E S) ∧ E.length + S.length = c) := by
  obtain ⟨ys, m2, _, hy, hyl, hyn, hy'⟩ := DataW.trod_struct Try.underlying31 p3
  have hy6 : ys.length = 6 := hyn
  have q0 : DataW.trod enc Try.prog W 0 (fun _ => true) true m2 3 (List.take 1 (List.drop 0 R)) = ys[0]? := hy' 0 _ rfl
  have q1 : DataW.trod enc Try.prog W 0 (fun _ => true) true m2 3 (List.take 1 (List.drop 1 R)) = ys[1]? := hy' 1 _ rfl
  have q2 : DataW.trod enc Try.prog W 0 (fun _ => true) true m2 3 (List.take 1 (List.drop 2 R)) = ys[2]? := hy' 2 _ rfl
  have q3 : DataW.trod enc Try.prog W 0 (fun _ => true) true m2 3 (List.take 1 (List.drop 3 R)) = ys[3]? := hy' 3 _ rfl
  have q4 : DataW.trod enc Try.prog W 0 (fun _ => true) true m2 28 (List.take 8 (List.drop 4 R)) = ys[4]? := hy' 4 _ rfl
  have q5 : DataW.trod enc Try.prog W 0 (fun _ => true) true m2 29 (List.take 1 (List.drop 12 R)) = ys[5]? := hy' 5 _ rfl
  rw [List.getElem?_eq_getElem (by omega)] at q0 q1 q2 q3 q4 q5
  obtain ⟨rk, r0⟩ := one_int (Oct.flat_int_.2 _ _ _ _ _ _ _ _ q0)
  obtain ⟨rp, r1⟩ := one_int (Oct.flat_int_.2 _ _ _ _ _ _ _ _ q1)
  obtain ⟨rt, r2⟩ := one_int (Oct.flat_int_.2 _ _ _ _ _ _ _ _ q2)
  obtain ⟨ro, r3⟩ := one_int (Oct.flat_int_.2 _ _ _ _ _ _ _ _ q3)
  obtain ⟨x, r4, hx8⟩ := eight (Oct.flat_mask.2 _ _ _ _ _ _ _ _ q4)
  have hcut2 := cuts13 R hR
  rw [r0, r1, r2, r3, r4] at hcut2
  obtain ⟨A, n, c, os, hc, hro, hw⟩ := outs_at q5
  rw [hc] at hcut2
  refine ⟨⟨rk, rp, rt, ro, x, os⟩, A, n, c, hcut2, hro, hx8, ?_⟩
  rcases hw with h0 | ⟨E, S, h1, h2⟩
  · exact .inl h0
  · refine .inr ⟨List.map (fun x => x.fst) ys, E, S, ?_, ?_, h2⟩
    · rw [hy]
    · rw [List.getElem?_map, List.getElem?_eq_getElem (by omega)]
      show some ys[5].1 = _
      rw [h1]
set_option maxRecDepth 100000 in
theorem open_rule {H : Type} {enc : TypeId × Value → H} {W : World} {r : Reach} {b0 : Nat} {v : Value} {d : DataW H} {pl : List MemPlace} {ts : List TypeId} {ds : List (DataW H)} {j : Nat}
    (hv : Value.okWide Try.prog W r b0 31 v) (hh : DataW.Trod enc Try.prog W 0 (fun _ => true) true 31 v d pl)
    (hsz : (DataW.weightsEach Try.prog ts ds).all (· ≤ reachBytes) = true) (hj : ts[j]? = some 31) (hd : ds[j]? = some d) :
    ∃ (r : Oct.RuleV) (A : Option Addr) (n c : Nat), v = .agg #[.int .i64 r.k, .int .i64 r.pr, .int .i64 r.to, .int .i64 r.po, .int .i64 r.x.v, .int .i64 r.x.m, .int .u8 r.x.b0, .int .u8 r.x.b1, .int .u8 r.x.b2, .int .u8 r.x.i0, .int .u8 r.x.i1, .int .u8 r.x.i2, .slice A n c] ∧ Oct.Ro W W.heap.size A n c r.os ∧ Oct.MB r.x ∧ c * 32 ≤ 140737488351232 := by
  have ht := Try.underlying31
  have hcs : ∃ cs, v = .agg cs ∧ cs.size = 13 := by
    unfold Value.okWide at hv
    rw [ht] at hv
    obtain ⟨cs, h1, h2, _⟩ := hv
    exact ⟨cs, h1, h2.trans (by kernel_rfl)⟩
  obtain ⟨cs, rfl, hs13⟩ := hcs
  obtain ⟨fuel, hf⟩ := hh
  obtain ⟨r, A, n, c, e, hro, hmb, hw⟩ := rule_at hf (show cs.toList.length = 13 by simpa using hs13)
  refine ⟨r, A, n, c, ?_, hro, hmb, ?_⟩
  · congr 1
    apply Array.ext'
    exact e
  · rcases hw with rfl | ⟨ys, E, S, h1, h2, h3⟩
    · omega
    · have hag : ds[j]? = some (.agg ys) := by rw [hd]; exact congrArg some h1
      have hw := sized_field1 hsz hj hag ht (i := 5) rfl h2 Try.underlying29
      rw [show Try.prog.bytesOf 93 = 32 from by kernel_rfl, h3] at hw
      simpa [reachBytes] using hw
set_option maxRecDepth 100000 in
theorem open_outs {H : Type} {enc : TypeId × Value → H} {W : World} {r : Reach} {b0 : Nat} {v : Value} {d : DataW H} {pl : List MemPlace} {ts : List TypeId} {ds : List (DataW H)} {j : Nat}
    (hv : Value.okWide Try.prog W r b0 29 v) (hh : DataW.Trod enc Try.prog W 0 (fun _ => true) true 29 v d pl)
    (hsz : (DataW.weightsEach Try.prog ts ds).all (· ≤ reachBytes) = true) (hj : ts[j]? = some 29) (hd : ds[j]? = some d) :
    ∃ (os : List Oct.OutV) (A : Option Addr) (n c : Nat), v = .slice A n c ∧ Oct.Ro W W.heap.size A n c os ∧ c * 32 ≤ 140737488351232 := by
  obtain ⟨A0, n0, c0, rfl⟩ := okWide_slice Try.underlying29 hv
  obtain ⟨fuel, hf⟩ := hh
  obtain ⟨A, n, c, os, e, hro, hw⟩ := outs_at hf
  have e' : [Value.slice A0 n0 c0] = [Value.slice A n c] := e
  refine ⟨os, A, n, c, by simpa using e', hro, ?_⟩
  rcases hw with rfl | ⟨E, S, h1, h3⟩
  · omega
  · have hag : ds[j]? = some (.slice E S) := by rw [hd]; exact congrArg some h1
    have hw := sized_top hsz hj hag Try.underlying29
    rw [show Try.prog.bytesOf 93 = 32 from by kernel_rfl, h3] at hw
    simpa [reachBytes] using hw
end Go.Proofs.Ytcolklkjaifplaa.Frame
