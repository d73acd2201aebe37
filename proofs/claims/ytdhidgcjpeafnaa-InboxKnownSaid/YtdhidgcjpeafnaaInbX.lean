/- Messages that come as a parameter: a row of a number, a bool, bytes. -/
import Derived.Test.YtdhidgcjpeafnaaVbl
import Derived.Test.YtdhidgcjpeafnaaFrame
import Derived.Deep.Slices
import Derived.SizedLaws
namespace Go.Proofs.Ytdhidgcjpeafnaa.Oct
open Go.RowKit
set_option linter.unusedVariables false
/-- A message that comes: how far ahead or its number, which of the two, its bytes. -/
structure DoI where
  k : Int
  i : Bool
  A : Option Addr
  n : Nat
  c : Nat
  bs : List Int
/-- The slice (A, n, c) reads as the calls ds, and lies below block B. -/
structure Di (w : World) (B : Nat) (A : Option Addr) (n c : Nat) (ds : List DoI) : Prop where
  len : ds.length = n
  le : n ≤ c
  cap : c ≤ maxLen
  nil : A = none → c = 0
  bytes : ∀ d ∈ ds, Rd .u8 w B d.A d.n d.c d.bs ∧ By d.bs ∧ d.n ≤ 140737488351232
  ex : 0 < n → ∃ b off, A = some ⟨b, off, none⟩ ∧ b < B ∧ ∀ (j : Nat) (q : DoI), ds[j]? = some q → w.cell? ⟨b, off + j * 3, none⟩ = some (.int .i64 q.k) ∧ w.cell? ⟨b, off + j * 3 + 1, none⟩ = some (.bool q.i) ∧ w.cell? ⟨b, off + j * 3 + 2, none⟩ = some (.slice q.A q.n q.c)
theorem Di.below {w w' : World} {B : Nat} {A : Option Addr} {n c : Nat} {ds : List DoI} (h : Di w B A n c ds) (hb : Below B w w') : Di w' B A n c ds :=
  ⟨h.len, h.le, h.cap, h.nil, fun d hd => ⟨(h.bytes d hd).1.below hb, (h.bytes d hd).2⟩, fun hn => by
    obtain ⟨b, off, e, hlt, hc⟩ := h.ex hn
    exact ⟨b, off, e, hlt, fun j q hj => ⟨(hb.cell (p := ⟨b, _, none⟩) hlt).trans (hc j q hj).1, (hb.cell (p := ⟨b, _, none⟩) hlt).trans (hc j q hj).2.1, (hb.cell (p := ⟨b, _, none⟩) hlt).trans (hc j q hj).2.2⟩⟩⟩
theorem Di.max {w : World} {B : Nat} {A : Option Addr} {n c : Nat} {ds : List DoI} (h : Di w B A n c ds) : (n : Int) ≤ 9223372036854775807 := by have := h.le; have := h.cap; unfold maxLen at this; omega
end Go.Proofs.Ytdhidgcjpeafnaa.Oct
namespace Go.Proofs.Ytdhidgcjpeafnaa.Frame
open Go.ChangeShapes Go.WideShapes Go.ChangeAt Go.RowKit
set_option linter.unusedVariables false
theorem weights_allI {H : Type} {P : Program} {e : TypeId} {n : Nat} : ∀ {ds : List (DataW H)} {d : DataW H}, d ∈ ds → n ∈ d.weights P e → n ∈ DataW.weightsAll P e ds
  | d0 :: ds, d, hd, hn => by
    simp only [DataW.weightsAll, List.mem_append]
    rcases List.mem_cons.1 hd with rfl | hd
    · exact Or.inl hn
    · exact Or.inr (weights_allI hd hn)
  | [], _, hd, _ => by simp at hd
set_option maxRecDepth 100000 in
theorem open_idos {H : Type} {enc : TypeId × Value → H} {W : World} {r : Reach} {b0 : Nat} {v : Value} {d : DataW H} {pl : List MemPlace} {ts : List TypeId} {ds : List (DataW H)} {j : Nat}
    (hv : Value.okWide Try.prog W r b0 22 v) (hh : DataW.Trod enc Try.prog W 0 (fun _ => true) true 22 v d pl)
    (hsz : (DataW.weightsEach Try.prog ts ds).all (· ≤ reachBytes) = true) (hj : ts[j]? = some 22) (hd : ds[j]? = some d) :
    ∃ (bs : List Oct.DoI) (A : Option Addr) (n c : Nat), v = .slice A n c ∧ Oct.Di W W.heap.size A n c bs := by
  obtain ⟨A0, n0, c0, rfl⟩ := okWide_slice Try.underlying22 hv
  obtain ⟨fuel, hf⟩ := hh
  rcases Deep.open_slice Try.underlying22 hf with ⟨hc, _⟩ | ⟨a, len, cap, mm2, nn, D, Pl, hc, _, hlc, hmax, hmm, hdd, hel⟩
  · have hc' : [Value.slice A0 n0 c0] = [Value.slice none 0 0] := hc
    exact ⟨[], none, 0, 0, by simpa using hc', ⟨rfl, Nat.le_refl _, Nat.zero_le _, fun _ => rfl, fun d hd => by simp at hd, fun h => absurd h (by omega)⟩⟩
  · have hcap : mm2 = cap := by simpa using hmm
    subst hcap
    have hce : Try.prog.cellsOf 32 = 3 := by kernel_rfl
    have hst : ∃ fs, Try.prog.underlying 32 = some (.struct fs) ∧ (fs.toList.map (·.type))[2]? = some 27 := ⟨_, Try.underlying32, by rfl⟩
    obtain ⟨fs, hu, hf2⟩ := hst
    have key : ∀ i, i < mm2 → ∃ q : Oct.DoI, W.cell? ((a.add (i * 3)).add 0) = some (.int .i64 q.k) ∧ W.cell? ((a.add (i * 3)).add 1) = some (.bool q.i) ∧ W.cell? ((a.add (i * 3)).add 2) = some (.slice q.A q.n q.c) ∧ Oct.Rd .u8 W W.heap.size q.A q.n q.c q.bs ∧ Oct.By q.bs ∧ (i < len → q.n ≤ 140737488351232) := by
      intro i hi
      obtain ⟨cs', h1, h2⟩ := hel i hi
      rw [hce] at h1
      obtain ⟨_, hlen, hcell⟩ := World.cells?_some h1
      obtain ⟨ys, m2, _, hy, hyl, hyn, hy'⟩ := DataW.trod_struct Try.underlying32 h2
      have hy3 : ys.length = 3 := hyn
      have q0 : DataW.trod enc Try.prog W 0 (fun _ => true) true m2 3 (List.take 1 (List.drop 0 cs')) = ys[0]? := hy' 0 _ rfl
      have q1 : DataW.trod enc Try.prog W 0 (fun _ => true) true m2 4 (List.take 1 (List.drop 1 cs')) = ys[1]? := hy' 1 _ rfl
      have q2 : DataW.trod enc Try.prog W 0 (fun _ => true) true m2 27 (List.take 1 (List.drop 2 cs')) = ys[2]? := hy' 2 _ rfl
      rw [List.getElem?_eq_getElem (by omega)] at q0 q1
      have hx2 : ys[2]? = some ys[2] := List.getElem?_eq_getElem (by omega)
      rw [hx2] at q2
      obtain ⟨z, e0, _⟩ := DataW.trod_int Try.underlying3 q0
      obtain ⟨q, e1, _⟩ := DataW.trod_bool Try.underlying4 q1
      have hparts : ((List.map (fun x => x.fst) ys))[2]? = some ys[2].1 := by rw [List.getElem?_map, hx2]; rfl
      have hD : D i = .agg (List.map (fun x => x.fst) ys) := by simp only [Prod.mk.injEq] at hy; exact hy.1
      have hw : i < len → ∀ n ∈ (ys[2].1).weights Try.prog 27, n ≤ reachBytes := by
        intro hil n hn
        have h3 : n ∈ (D i).weights Try.prog 32 := by
          rw [hD]
          simp only [DataW.weights, hu]
          exact DataW.weights_mem_each hf2 hparts n hn
        have h4 : n ∈ d.weights Try.prog 22 := by
          have hd1 : d = .slice ((List.range len).map D) ((List.range (mm2 - len)).map fun j => D (len + j)) := congrArg Prod.fst hdd
          rw [hd1]
          simp only [DataW.weights, Try.underlying22, List.mem_cons, List.mem_append]
          exact Or.inr (Or.inl (weights_allI (List.mem_map.2 ⟨i, List.mem_range.2 hil, rfl⟩) h3))
        have h5 := List.all_eq_true.1 hsz n (DataW.weights_mem_each hj hd n h4)
        simpa using h5
      obtain ⟨x0, x1, x2, rfl⟩ : ∃ x0 x1 x2, cs' = [x0, x1, x2] := by
        match cs', hlen with
        | [x0, x1, x2], _ => exact ⟨x0, x1, x2, rfl⟩
      simp at e0 e1
      have q2' : DataW.trod enc Try.prog W 0 (fun _ => true) true m2 27 [x2] = some ys[2] := q2
      have g0 := hcell 0 (by omega)
      have g1 := hcell 1 (by omega)
      have g2 := hcell 2 (by omega)
      rcases open_ints Try.underlying27 Try.underlying5 (by kernel_rfl) q2' with ⟨hc2, _⟩ | ⟨x, l, c, zs, hc2, _, hlc2, hm2, hz2, hxx, hcell2, hwz⟩
      · have hx : x2 = .slice none 0 0 := by simpa using hc2
        refine ⟨⟨z, q, none, 0, 0, []⟩, ?_, ?_, ?_, Oct.Rd.nil _ _ _, Oct.By.nil, fun _ => Nat.zero_le _⟩
        · rw [g0]; simp [e0]
        · rw [g1]; simp [e1]
        · rw [g2]; simp [hx]
      · have hx : x2 = .slice (some x) l c := by simpa using hc2
        have hlen2 : zs.length = c := by simpa using hz2
        have hrow : Frame.IsRow .u8 W (some x) l c zs := .inr ⟨_, rfl, hlc2, hm2, hlen2, hcell2, hwz⟩
        refine ⟨⟨z, q, some x, l, c, zs.take l⟩, ?_, ?_, ?_, Oct.Rd.of_row hrow, Oct.By.of_row hrow, fun hil => ?_⟩
        · rw [g0]; simp [e0]
        · rw [g1]; simp [e1]
        · rw [g2]; simp [hx]
        · have h6 := hw hil c (by
            rw [hxx]
            have q3 : ((lits .u8 (zs.take l) : List (DataW H))).length = l := by simp [lits]; omega
            have q4 : ((lits .u8 (zs.drop l) : List (DataW H))).length = c - l := by simp [lits]; omega
            simp only [DataW.weights, Try.underlying27, List.mem_cons]
            left
            rw [q3, q4, show Try.prog.bytesOf 5 = 1 from by kernel_rfl]
            omega)
          have h7 : c ≤ 140737488351232 := by simpa [reachBytes] using h6
          show l ≤ 140737488351232
          omega
    haveI : Inhabited Oct.DoI := ⟨⟨0, false, none, 0, 0, []⟩⟩
    obtain ⟨F, hF⟩ := Deep.choose_lt (α := Oct.DoI) (n := mm2) (p := fun i q => W.cell? ((a.add (i * 3)).add 0) = some (.int .i64 q.k) ∧ W.cell? ((a.add (i * 3)).add 1) = some (.bool q.i) ∧ W.cell? ((a.add (i * 3)).add 2) = some (.slice q.A q.n q.c) ∧ Oct.Rd .u8 W W.heap.size q.A q.n q.c q.bs ∧ Oct.By q.bs ∧ (i < len → q.n ≤ 140737488351232)) key
    have hc' : [Value.slice A0 n0 c0] = [Value.slice (some a) len mm2] := hc
    refine ⟨(List.range len).map F, some a, len, mm2, by simpa using hc', ⟨by simp, hlc, hmax, fun e => by simp at e, fun y hy => ?_, fun hn => ?_⟩⟩
    · obtain ⟨i, hi, rfl⟩ := List.mem_map.1 hy
      have hi := List.mem_range.1 hi
      have h8 := hF i (by omega)
      exact ⟨h8.2.2.2.1, h8.2.2.2.2.1, h8.2.2.2.2.2 hi⟩
    · obtain ⟨b, off, spot⟩ := a
      have h0 := (hF 0 (by omega)).1
      have hspot : spot = none := by simpa [Addr.add] using World.cell?_spot h0
      subst hspot
      have hadd2 : ∀ i j, ((⟨b, off, none⟩ : Addr).add i).add j = ⟨b, off + i + j, none⟩ := fun i j => by rw [Oct.add_addr]; exact Oct.add_addr _ _ _
      refine ⟨b, off, rfl, ?_, fun j q hj => ?_⟩
      · rw [hadd2] at h0; exact World.block_lt_of_cell? W _ h0
      · have hjl : j < len := by have := (List.getElem?_eq_some_iff.1 hj).1; simpa using this
        have ho : F j = q := by rw [List.getElem?_map, List.getElem?_range hjl] at hj; simpa using hj
        subst ho
        have hG := hF j (by omega)
        rw [hadd2, hadd2, hadd2] at hG
        exact ⟨hG.1, hG.2.1, hG.2.2.1⟩
end Go.Proofs.Ytdhidgcjpeafnaa.Frame
