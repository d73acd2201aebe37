/- An order as a parameter: its numbers, its rule, its outputs, its probe. -/
import Derived.Test.YtaaflgaeeldkhaaOrdV
import Derived.Test.YtaaflgaeeldkhaaMskX
import Derived.Test.YtaaflgaeeldkhaaPrbX
import Derived.Deep.Slices
import Derived.SizedLaws
namespace Go.Proofs.Ytaaflgaeeldkhaa.Frame
open Go.ChangeShapes Go.WideShapes Go.ChangeAt Go.RowKit
set_option linter.unusedVariables false

theorem sized_field2 {H : Type} {P : Program} {ts : List TypeId} {ds : List (DataW H)} (h : (DataW.weightsEach P ts ds).all (· ≤ reachBytes) = true) {j i k : Nat} {t e : TypeId} {fs gs : Array Field} {f g : Field} {parts parts2 elems spare : List (DataW H)}
    (ht : ts[j]? = some t) (hd : ds[j]? = some (.agg parts)) (hu : P.underlying t = some (.struct fs)) (hf : fs[i]? = some f) (hp : parts[i]? = some (.agg parts2)) (hu2 : P.underlying f.type = some (.struct gs)) (hg : gs[k]? = some g) (hp2 : parts2[k]? = some (.slice elems spare)) (hs : P.underlying g.type = some (.slice e)) :
    (elems.length + spare.length) * P.bytesOf e ≤ reachBytes := by
  have hf' : (fs.toList.map (·.type))[i]? = some f.type := by rw [List.getElem?_map, Array.getElem?_toList, hf]; rfl
  have hg' : (gs.toList.map (·.type))[k]? = some g.type := by rw [List.getElem?_map, Array.getElem?_toList, hg]; rfl
  have := List.all_eq_true.1 h _ (DataW.weights_mem_each ht hd ((elems.length + spare.length) * P.bytesOf e) (by
    simp only [DataW.weights, hu]
    exact DataW.weights_mem_each hf' hp _ (by
      simp only [DataW.weights, hu2]
      exact DataW.weights_mem_each hg' hp2 _ (by simp [DataW.weights, hs]))))
  simpa using this
theorem flat_out : Flat Try.prog 84 [.i64, .i64, .i64, .i64] := by
  have h3 : Flat Try.prog 82 [.i64, .i64, .i64] := flat_array (n := 3) (ks := [.i64]) Try.underlying82 Oct.flat_int_ (by kernel_rfl)
  refine flat_struct [[.i64], [.i64, .i64, .i64]] Try.underlying84 (by kernel_rfl) rfl (fun i f ks h1 h2 => ?_)
  match i, h1, h2 with
  | 0, h1, h2 => simp at h1 h2; subst h1 h2; exact ⟨Oct.flat_int_, rfl⟩
  | 1, h1, h2 => simp at h1 h2; subst h1 h2; exact ⟨h3, rfl⟩
  | n + 2, h1, h2 => simp at h2
set_option maxRecDepth 100000 in
theorem cuts21 {α : Type} (L : List α) (h : L.length = 21) : L = List.take 1 (List.drop 0 L) ++ (List.take 1 (List.drop 1 L) ++ (List.take 1 (List.drop 2 L) ++ (List.take 13 (List.drop 3 L) ++ List.take 5 (List.drop 16 L)))) := by
  match L, h with
  | [x0, x1, x2, x3, x4, x5, x6, x7, x8, x9, x10, x11, x12, x13, x14, x15, x16, x17, x18, x19, x20], _ => rfl
theorem cuts13 {α : Type} (L : List α) (h : L.length = 13) : L = List.take 1 (List.drop 0 L) ++ (List.take 1 (List.drop 1 L) ++ (List.take 1 (List.drop 2 L) ++ (List.take 1 (List.drop 3 L) ++ (List.take 8 (List.drop 4 L) ++ List.take 1 (List.drop 12 L))))) := by
  match L, h with
  | [x0, x1, x2, x3, x4, x5, x6, x7, x8, x9, x10, x11, x12], _ => rfl
theorem one_int {cs : List Value} (h : IsFlat [.i64] cs) : ∃ z : Int, cs = [.int .i64 z] := by
  obtain ⟨zs, l, e, _⟩ := h
  match zs, l with
  | [z], _ => exact ⟨z, e⟩
theorem eight {cs : List Value} (h : IsFlat [.i64, .i64, .u8, .u8, .u8, .u8, .u8, .u8] cs) : ∃ x : Oct.MaskV, cs = [.int .i64 x.v, .int .i64 x.m, .int .u8 x.b0, .int .u8 x.b1, .int .u8 x.b2, .int .u8 x.i0, .int .u8 x.i1, .int .u8 x.i2] ∧ Oct.MB x := by
  obtain ⟨zs, l, e, hw⟩ := h
  obtain ⟨x, rfl, hx⟩ := Oct.mask_of zs l hw
  exact ⟨x, e, hx⟩
theorem four {cs : List Value} (h : IsFlat [.i64, .i64, .i64, .i64] cs) : ∃ o : Oct.OutV, cs = [.int .i64 o.p, .int .i64 o.a, .int .i64 o.b, .int .i64 o.c] := by
  obtain ⟨zs, l, e, _⟩ := h
  match zs, l with
  | [p, a, b, c], _ => exact ⟨⟨p, a, b, c⟩, e⟩
theorem five {cs : List Value} (h : IsFlat [.i64, .i64, .i64, .i64, .i64] cs) : ∃ f p t q n : Int, cs = [.int .i64 f, .int .i64 p, .int .i64 t, .int .i64 q, .int .i64 n] := by
  obtain ⟨zs, l, e, _⟩ := h
  match zs, l with
  | [f, p, t, q, n], _ => exact ⟨f, p, t, q, n, e⟩

set_option maxRecDepth 100000 in
theorem open_order {H : Type} {enc : TypeId × Value → H} {W : World} {r : Reach} {b0 : Nat} {v : Value} {d : DataW H} {pl : List MemPlace} {ts : List TypeId} {ds : List (DataW H)} {j : Nat}
    (hv : Value.okWide Try.prog W r b0 32 v) (hh : DataW.Trod enc Try.prog W 0 (fun _ => true) true 32 v d pl)
    (hsz : (DataW.weightsEach Try.prog ts ds).all (· ≤ reachBytes) = true) (hj : ts[j]? = some 32) (hd : ds[j]? = some d) :
    ∃ (o : Oct.OrdV) (A : Option Addr) (n c : Nat), v = .agg #[.int .i64 o.k, .int .i64 o.n, .int .i64 o.m, .int .i64 o.r.k, .int .i64 o.r.pr, .int .i64 o.r.to, .int .i64 o.r.po, .int .i64 o.r.x.v, .int .i64 o.r.x.m, .int .u8 o.r.x.b0, .int .u8 o.r.x.b1, .int .u8 o.r.x.b2, .int .u8 o.r.x.i0, .int .u8 o.r.x.i1, .int .u8 o.r.x.i2, .slice A n c, .int .i64 o.f, .int .i64 o.p, .int .i64 o.t, .int .i64 o.q, .int .i64 o.z] ∧ Oct.Ro W W.heap.size A n c o.r.os ∧ Oct.MB o.r.x ∧ c * 32 ≤ 140737488351232 := by
  have ht := Try.underlying32
  have hcs : ∃ cs, v = .agg cs ∧ cs.size = 21 := by
    unfold Value.okWide at hv
    rw [ht] at hv
    obtain ⟨cs, h1, h2, _⟩ := hv
    exact ⟨cs, h1, h2.trans (by kernel_rfl)⟩
  obtain ⟨cs, rfl, hs21⟩ := hcs
  obtain ⟨fuel, hf⟩ := hh
  obtain ⟨xs, m, _, hx, hl, hxl, hx'⟩ := DataW.trod_struct ht hf
  have hx5 : xs.length = 5 := hxl
  have hcl : cs.toList.length = 21 := by simpa using hs21
  have p0 : DataW.trod enc Try.prog W 0 (fun _ => true) true m 3 (List.take 1 (List.drop 0 cs.toList)) = xs[0]? := hx' 0 _ rfl
  have p1 : DataW.trod enc Try.prog W 0 (fun _ => true) true m 3 (List.take 1 (List.drop 1 cs.toList)) = xs[1]? := hx' 1 _ rfl
  have p2 : DataW.trod enc Try.prog W 0 (fun _ => true) true m 3 (List.take 1 (List.drop 2 cs.toList)) = xs[2]? := hx' 2 _ rfl
  have p3 : DataW.trod enc Try.prog W 0 (fun _ => true) true m 28 (List.take 13 (List.drop 3 cs.toList)) = xs[3]? := hx' 3 _ rfl
  have p4 : DataW.trod enc Try.prog W 0 (fun _ => true) true m 30 (List.take 5 (List.drop 16 cs.toList)) = xs[4]? := hx' 4 _ rfl
  rw [List.getElem?_eq_getElem (by omega)] at p0 p1 p2 p3 p4
  obtain ⟨k, e0⟩ := one_int (Oct.flat_int_.2 _ _ _ _ _ _ _ _ p0)
  obtain ⟨n, e1⟩ := one_int (Oct.flat_int_.2 _ _ _ _ _ _ _ _ p1)
  obtain ⟨mm, e2⟩ := one_int (Oct.flat_int_.2 _ _ _ _ _ _ _ _ p2)
  obtain ⟨f, p, t, q, z, e4⟩ := five (Oct.flat_probe.2 _ _ _ _ _ _ _ _ p4)
  obtain ⟨ys, m2, _, hy, hyl, hyn, hy'⟩ := DataW.trod_struct Try.underlying28 p3
  have hy6 : ys.length = 6 := hyn
  have hR : (List.take 13 (List.drop 3 cs.toList)).length = 13 := by rw [List.length_take, List.length_drop]; omega
  have hcuts := cuts21 cs.toList hcl
  rw [e0, e1, e2, e4] at hcuts
  generalize List.take 13 (List.drop 3 cs.toList) = R at *
  have q0 : DataW.trod enc Try.prog W 0 (fun _ => true) true m2 3 (List.take 1 (List.drop 0 R)) = ys[0]? := hy' 0 _ rfl
  have q1 : DataW.trod enc Try.prog W 0 (fun _ => true) true m2 3 (List.take 1 (List.drop 1 R)) = ys[1]? := hy' 1 _ rfl
  have q2 : DataW.trod enc Try.prog W 0 (fun _ => true) true m2 3 (List.take 1 (List.drop 2 R)) = ys[2]? := hy' 2 _ rfl
  have q3 : DataW.trod enc Try.prog W 0 (fun _ => true) true m2 3 (List.take 1 (List.drop 3 R)) = ys[3]? := hy' 3 _ rfl
  have q4 : DataW.trod enc Try.prog W 0 (fun _ => true) true m2 25 (List.take 8 (List.drop 4 R)) = ys[4]? := hy' 4 _ rfl
  have q5 : DataW.trod enc Try.prog W 0 (fun _ => true) true m2 26 (List.take 1 (List.drop 12 R)) = ys[5]? := hy' 5 _ rfl
  rw [List.getElem?_eq_getElem (by omega)] at q0 q1 q2 q3 q4 q5
  obtain ⟨rk, r0⟩ := one_int (Oct.flat_int_.2 _ _ _ _ _ _ _ _ q0)
  obtain ⟨rp, r1⟩ := one_int (Oct.flat_int_.2 _ _ _ _ _ _ _ _ q1)
  obtain ⟨rt, r2⟩ := one_int (Oct.flat_int_.2 _ _ _ _ _ _ _ _ q2)
  obtain ⟨ro, r3⟩ := one_int (Oct.flat_int_.2 _ _ _ _ _ _ _ _ q3)
  obtain ⟨x, r4, hx8⟩ := eight (Oct.flat_mask.2 _ _ _ _ _ _ _ _ q4)
  have hcut2 := cuts13 R hR
  rw [r0, r1, r2, r3, r4] at hcut2
  have hlist : ∀ s : Value, List.take 1 (List.drop 12 R) = [s] → cs = #[.int .i64 k, .int .i64 n, .int .i64 mm, .int .i64 rk, .int .i64 rp, .int .i64 rt, .int .i64 ro, .int .i64 x.v, .int .i64 x.m, .int .u8 x.b0, .int .u8 x.b1, .int .u8 x.b2, .int .u8 x.i0, .int .u8 x.i1, .int .u8 x.i2, s, .int .i64 f, .int .i64 p, .int .i64 t, .int .i64 q, .int .i64 z] := by
    intro s hs
    rw [hs] at hcut2
    rw [hcut2] at hcuts
    apply Array.ext'
    exact hcuts
  rcases Deep.open_slice Try.underlying26 q5 with ⟨hc, _⟩ | ⟨a, len, cap, mm2, nn, D, Pl, hc, _, hlc, hmax, hmm, hdd, hel⟩
  · have := hlist _ hc
    subst this
    exact ⟨⟨k, n, mm, ⟨rk, rp, rt, ro, x, []⟩, f, p, t, q, z⟩, none, 0, 0, rfl, Oct.Ro.nil _ _, hx8, by omega⟩
  · have := hlist _ hc
    subst this
    have hcap : mm2 = cap := by simpa using hmm
    subst hcap
    have hce : Try.prog.cellsOf 84 = 4 := by kernel_rfl
    have key : ∀ i, i < mm2 → ∃ o : Oct.OutV, ∀ h : Nat, h < 4 → W.cell? ((a.add (i * 4)).add h) = [Value.int .i64 o.p, .int .i64 o.a, .int .i64 o.b, .int .i64 o.c][h]? := by
      intro i hi
      obtain ⟨cs', h1, h2⟩ := hel i hi
      rw [hce] at h1
      obtain ⟨_, hlen, hcell⟩ := World.cells?_some h1
      obtain ⟨o, rfl⟩ := four (flat_out.2 _ _ _ _ _ _ _ _ h2)
      exact ⟨o, fun h hh => hcell h hh⟩
    haveI : Inhabited Oct.OutV := ⟨⟨0, 0, 0, 0⟩⟩
    obtain ⟨F, hF⟩ := Deep.choose_lt (α := Oct.OutV) (n := mm2) (p := fun i o => ∀ h : Nat, h < 4 → W.cell? ((a.add (i * 4)).add h) = [Value.int .i64 o.p, .int .i64 o.a, .int .i64 o.b, .int .i64 o.c][h]?) key
    refine ⟨⟨k, n, mm, ⟨rk, rp, rt, ro, x, (List.range len).map F⟩, f, p, t, q, z⟩, some a, len, mm2, rfl, ⟨by simp, hlc, hmax, fun e => by simp at e, fun hn => ?_⟩, hx8, ?_⟩
    · obtain ⟨b, off, spot⟩ := a
      have h0 := hF 0 (by omega) 0 (by omega)
      have hspot : spot = none := by simpa [Addr.add] using World.cell?_spot h0
      subst hspot
      have hadd : ∀ j, (⟨b, off, none⟩ : Addr).add j = ⟨b, off + j, none⟩ := fun j => Oct.add_addr _ _ _
      have hadd2 : ∀ i j, ((⟨b, off, none⟩ : Addr).add i).add j = ⟨b, off + i + j, none⟩ := fun i j => by rw [hadd]; exact Oct.add_addr _ _ _
      refine ⟨b, off, rfl, ?_, fun j o hj => ?_⟩
      · rw [hadd2] at h0; exact World.block_lt_of_cell? W _ h0
      · have hjl : j < len := by have := (List.getElem?_eq_some_iff.1 hj).1; simpa using this
        have ho : F j = o := by rw [List.getElem?_map, List.getElem?_range hjl] at hj; simpa using hj
        subst ho
        have hG := hF j (by omega)
        have g0 := hG 0 (by omega)
        have g1 := hG 1 (by omega)
        have g2 := hG 2 (by omega)
        have g3 := hG 3 (by omega)
        rw [hadd2] at g0 g1 g2 g3
        exact ⟨g0, g1, g2, g3⟩
    · have hparts : ((List.map (fun x => x.fst) xs))[3]? = some xs[3].1 := by rw [List.getElem?_map, List.getElem?_eq_getElem (by omega)]; rfl
      have hparts2 : ((List.map (fun x => x.fst) ys))[5]? = some ys[5].1 := by rw [List.getElem?_map, List.getElem?_eq_getElem (by omega)]; rfl
      have hag : ds[j]? = some (.agg (List.map (fun x => x.fst) xs)) := by
        rw [hd]
        simp only [Prod.mk.injEq] at hx
        rw [hx.1]
      rw [hy] at hparts
      rw [hdd] at hparts2
      have hw := sized_field2 hsz hj hag ht (i := 3) rfl hparts Try.underlying28 (k := 5) rfl hparts2 Try.underlying26
      rw [show Try.prog.bytesOf 84 = 32 from by kernel_rfl] at hw
      simp only [List.length_map, List.length_range] at hw
      rw [show len + (mm2 - len) = mm2 from by omega] at hw
      simpa [reachBytes] using hw
end Go.Proofs.Ytaaflgaeeldkhaa.Frame
