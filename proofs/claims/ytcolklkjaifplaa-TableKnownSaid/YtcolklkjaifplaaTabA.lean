/- Rows of rules in memory: their cells, copies, appends, clears. -/
import Derived.Test.YtcolklkjaifplaaOrdT
import Derived.Test.YtcolklkjaifplaaOctZ
import Derived.Deep.AppendSrc
import Derived.Lib.AppendZeros
import Derived.Lib.Overlaps
namespace Go.Proofs.Ytcolklkjaifplaa.Oct
open Go.RowKit
set_option linter.unusedVariables false
set_option linter.unusedSimpArgs false

/-- A rule as it lies in a row: its outputs are elsewhere. -/
structure It where
  r : RuleV
  A : Option Addr
  c : Nat
def ics (x : It) : List Value := [.int .i64 x.r.k, .int .i64 x.r.pr, .int .i64 x.r.to, .int .i64 x.r.po, .int .i64 x.r.x.v, .int .i64 x.r.x.m, .int .u8 x.r.x.b0, .int .u8 x.r.x.b1, .int .u8 x.r.x.b2, .int .u8 x.r.x.i0, .int .u8 x.r.x.i1, .int .u8 x.r.x.i2, .slice x.A x.r.os.length x.c]
def zR : RuleV := ⟨0, 0, 0, 0, ⟨0, 0, 0, 0, 0, 0, 0, 0⟩, []⟩
def zIt : It := ⟨zR, none, 0⟩
theorem ics_len (x : It) : (ics x).length = 13 := rfl
theorem ics_one (x : It) : (ics x).all (·.oneCell') = true := rfl
theorem fl_len (ys : List It) : (ys.flatMap ics).length = ys.length * 13 := by
  induction ys with
  | nil => rfl
  | cons o os ih => rw [List.flatMap_cons, List.length_append, ih, List.length_cons, ics_len]; omega
theorem fl_drop (ys : List It) : ∀ i, (ys.flatMap ics).drop (i * 13) = (ys.drop i).flatMap ics := by
  induction ys with
  | nil => intro i; simp
  | cons y ys ih =>
    intro i
    cases i with
    | zero => simp
    | succ i =>
      rw [List.flatMap_cons, show (i + 1) * 13 = (ics y).length + i * 13 by rw [ics_len]; omega, List.drop_append]
      simp [ih]
theorem fl_take (ys : List It) : ∀ i, (ys.flatMap ics).take (i * 13) = (ys.take i).flatMap ics := by
  induction ys with
  | nil => intro i; simp
  | cons y ys ih =>
    intro i
    cases i with
    | zero => simp
    | succ i =>
      rw [List.flatMap_cons, show (i + 1) * 13 = (ics y).length + i * 13 by rw [ics_len]; omega, List.take_append, List.take_of_length_le (by omega)]
      simp [ih]
theorem fl_one (ys : List It) : ∀ u ∈ ys.flatMap ics, u.oneCell' = true := by
  intro u hu
  obtain ⟨x, _, hx⟩ := List.mem_flatMap.1 hu
  exact List.all_eq_true.1 (ics_one x) u hx
theorem fl_at (ys : List It) (i : Nat) (x : It) (h : ys[i]? = some x) : ((ys.flatMap ics).drop (i * 13)).take 13 = ics x := by
  have h1 := fl_take (ys.drop i) 1
  rw [Nat.one_mul] at h1
  rw [fl_drop, h1]
  obtain ⟨hl, e⟩ := List.getElem?_eq_some_iff.1 h
  rw [List.drop_eq_getElem_cons hl, e]
  simp
theorem fl_get (ys : List It) (i k : Nat) (x : It) (h : ys[i]? = some x) (hk : k < 13) : (ys.flatMap ics)[i * 13 + k]? = (ics x)[k]? := by
  rw [← fl_at ys i x h, List.getElem?_take, if_pos hk, List.getElem?_drop]
theorem info_rule : (Try.prog.info? 31).map (fun i => (i.zero, i.size, i.bytes)) = some (some (.agg (ics zIt).toArray), 13, 80) := by kernel_rfl
theorem zeros_fl (n : Nat) : (Builtin.zeroCells (Value.agg (ics zIt).toArray).cells n).toList = (List.replicate n zIt).flatMap ics := by
  have hs : (Value.agg (ics zIt).toArray).cells = (ics zIt).toArray := rfl
  rw [hs]
  apply List.ext_getElem?
  intro j
  by_cases hj : j < n * 13
  · have h1 : (List.replicate n zIt)[j / 13]? = some zIt := by
      rw [List.getElem?_replicate, if_pos (by omega)]
    have h2 := fl_get (List.replicate n zIt) (j / 13) (j % 13) zIt h1 (Nat.mod_lt _ (by omega))
    rw [show j / 13 * 13 + j % 13 = j by omega] at h2
    rw [h2]
    have hm : j % 13 < 13 := Nat.mod_lt _ (by omega)
    simp only [Builtin.zeroCells, Array.toList_map, Array.toList_range, List.getElem?_map, List.size_toArray, ics_len, List.getElem?_range hj, Option.map_some]
    rw [List.getElem?_eq_getElem (by rw [ics_len]; exact hm)]
    congr 1
    simp [ics_len, hm, getElem!_pos]
  · rw [List.getElem?_eq_none (by simp [Builtin.zeroCells, ics_len]; omega), List.getElem?_eq_none (by rw [fl_len]; simp; omega)]

/-- The rules ys, in a block g, and nothing else there. -/
def Rowb (w : World) (g : Nat) (ys : List It) : Prop := Vb 31 w g (ys.flatMap ics)
section
variable {w w' : World} {g h r B : Nat} {ys zs : List It}
theorem Rowb.cells (h : Rowb w g ys) (j : Nat) : ∀ k u, ((ys.drop j).flatMap ics)[k]? = some u → w.cell? ((⟨g, j * 13, none⟩ : Addr).add k) = some u := by
  intro k u hk
  rw [add_addr]
  refine Vb.cell h _ ?_
  rw [← fl_drop, List.getElem?_drop] at hk
  exact hk
theorem Rowb.cellsT (h : Rowb w g ys) (j m : Nat) : ∀ k u, (((ys.drop j).take m).flatMap ics)[k]? = some u → w.cell? ((⟨g, j * 13, none⟩ : Addr).add k) = some u := by
  intro k u hk
  refine h.cells j k u ?_
  rw [← fl_take, List.getElem?_take] at hk
  split at hk
  · exact hk
  · simp at hk
theorem Rowb.stored (h : Rowb w g ys) (i m : Nat) (zs : List It) (hz : zs.length = m) (hi : i + m ≤ ys.length) :
    Rowb (w.setRow g ((ys.flatMap ics).toArray.toList.take (i * 13) ++ zs.flatMap ics ++ (ys.flatMap ics).toArray.toList.drop (i * 13 + (zs.flatMap ics).length)).toArray) g (ys.take i ++ zs ++ ys.drop (i + m)) := by
  have e : (ys.take i ++ zs ++ ys.drop (i + m)).flatMap ics = (ys.flatMap ics).toArray.toList.take (i * 13) ++ zs.flatMap ics ++ (ys.flatMap ics).toArray.toList.drop (i * 13 + (zs.flatMap ics).length) := by
    rw [List.flatMap_append, List.flatMap_append, ← fl_take, ← fl_drop, fl_len, hz]
    congr 2
    omega
  unfold Rowb
  rw [e]
  refine setRow_vb (cs := ys.flatMap ics) h ?_
  rw [← e, fl_len, fl_len]
  simp
  omega
/-- Cells are stored over a piece of a row. -/
theorem Rowb.store (h : Rowb w g ys) (i m : Nat) (zs : List It) (hz : zs.length = m) (hi : i + m ≤ ys.length) :
    ∃ w', (storeCells ⟨g, i * 13, none⟩ (zs.flatMap ics)).run Try.prog w = .ok () w' ∧ Rowb w' g (ys.take i ++ zs ++ ys.drop (i + m)) ∧ w.grownBy w' (some g) ∧ w'.heap.size = w.heap.size := by
  refine ⟨_, ?_, h.stored i m zs hz hi, setRow_grown _ _ _, setRow_size _ _ _⟩
  have := run_storeCells_at Try.prog g (i * 13) 31 (zs.flatMap ics) 0 (ys.flatMap ics).toArray w h (by rw [List.size_toArray, fl_len, fl_len]; omega) (fl_one zs)
  simpa using this
end
/-- copy(a row's piece, another one's). -/
theorem run_copyR {w : World} (ty : TypeId) {g h i j dn dc sn sc m : Nat} {ys zs : List It} (hg : Rowb w g ys) (hh : Rowb w h zs) (hm : Nat.min sn dn = m) (hi : i + m ≤ ys.length) (hj : j + m ≤ zs.length) :
    ∃ w', (Builtin.copy_ #[39, 39] ty #[.slice (some ⟨g, i * 13, none⟩) dn dc, .slice (some ⟨h, j * 13, none⟩) sn sc]).run Try.prog w = .ok (goInt m) w' ∧ Rowb w' g (ys.take i ++ (zs.drop j).take m ++ ys.drop (i + m)) ∧ w.grownBy w' (some g) ∧ w'.heap.size = w.heap.size := by
  obtain ⟨i0, hi0, hz0, hz1, hz2⟩ := info_parts info_rule
  have hl : ((zs.drop j).take m).length = m := by simp; omega
  obtain ⟨w', hst, h1, h2, h3⟩ := hg.store i m ((zs.drop j).take m) hl hi
  have hf := run_firstCells_some (P := Try.prog) w 13 m ⟨h, j * 13, none⟩ sn sc (((zs.drop j).take m).flatMap ics) (by rw [fl_len, hl]) (hh.cellsT j m)
  refine ⟨w', ?_, h1, h2, h3⟩
  simp [Builtin.copy_, run_underlying Try.underlying39, Builtin.lenOf, sizeOf, typeInfo, hi0, hz1, hm, hf, hst]
/-- A row's piece is cleared. -/
theorem run_clearR {w : World} (ty : TypeId) {g i n c : Nat} {ys : List It} (hg : Rowb w g ys) (hi : i + n ≤ ys.length) :
    ∃ w', (Builtin.clear_ #[39] ty #[.slice (some ⟨g, i * 13, none⟩) n c]).run Try.prog w = .ok (.tuple #[]) w' ∧ Rowb w' g (ys.take i ++ List.replicate n zIt ++ ys.drop (i + n)) ∧ w.grownBy w' (some g) ∧ w'.heap.size = w.heap.size := by
  obtain ⟨i0, hi0, hz0, hz1, hz2⟩ := info_parts info_rule
  obtain ⟨w', hst, h1, h2, h3⟩ := hg.store i n (List.replicate n zIt) (by simp) hi
  cases n with
  | zero =>
    refine ⟨w, ?_, ?_, World.grownBy.refl _ _, rfl⟩
    · simp [Builtin.clear_, run_underlying Try.underlying39]
    · simpa using hg
  | succ n =>
    refine ⟨w', ?_, h1, h2, h3⟩
    simp [Builtin.clear_, run_underlying Try.underlying39, zeroValue, typeInfo, hi0, hz0, zeros_fl, hst]

/-- A slice of rules that owns a whole block, or none: its rules. -/
def RowS (w : World) (v : Value) (its : List It) : Prop := (v = .slice none 0 0 ∧ its = []) ∨ ∃ g ys, v = .slice (some ⟨g, 0, none⟩) its.length (its.length + ys.length) ∧ Rowb w g (its ++ ys) ∧ its.length + ys.length ≤ maxLen
/-- A slice of rules, to be read: a piece of a row, or none. -/
def SrcR (w : World) (A : Option Addr) (m : Nat) (zs : List It) : Prop := zs.length = m ∧ ((A = none ∧ m = 0) ∨ ∃ h j ys, A = some ⟨h, j * 13, none⟩ ∧ Rowb w h ys ∧ j + m ≤ ys.length ∧ (ys.drop j).take m = zs)
section
variable {w w' : World} {v : Value} {its zs : List It} {A : Option Addr} {m c : Nat}
theorem RowS.nil (w : World) : RowS w (.slice none 0 0) [] := .inl ⟨rfl, rfl⟩
theorem RowS.form (h : RowS w v its) : ∃ A c, v = .slice A its.length c ∧ SrcR w A its.length its ∧ its.length ≤ c ∧ c ≤ maxLen ∧ (A = none → c = 0) := by
  rcases h with ⟨rfl, rfl⟩ | ⟨g, ys, rfl, hr, hm⟩
  · exact ⟨none, 0, rfl, ⟨rfl, .inl ⟨rfl, rfl⟩⟩, Nat.le_refl _, Nat.zero_le _, fun _ => rfl⟩
  · exact ⟨some ⟨g, 0, none⟩, _, rfl, ⟨rfl, .inr ⟨g, 0, its ++ ys, rfl, hr, by simp, by simp⟩⟩, by omega, hm, fun h => by simp at h⟩
theorem RowS.lt (h : RowS w v its) : ∀ k, v.ownBlock = some k → k < w.heap.size ∧ ∃ ys, Rowb w k (its ++ ys) := by
  intro k hk
  rcases h with ⟨rfl, rfl⟩ | ⟨g, ys, rfl, hr, hm⟩
  · simp [Value.ownBlock] at hk
  · simp [Value.ownBlock] at hk
    subst hk
    exact ⟨Vb.lt hr, ys, hr⟩
theorem RowS.keep (h : RowS w v its) (hk : ∀ k, v.ownBlock = some k → w'.heap[k]? = w.heap[k]?) : RowS w' v its := by
  rcases h with h | ⟨g, ys, rfl, hr, hm⟩
  · exact .inl h
  · exact .inr ⟨g, ys, rfl, (hk g rfl).trans hr, hm⟩
theorem RowS.below (h : RowS w v its) (hb : Below w.heap.size w w') : RowS w' v its := h.keep fun k hk => hb.block k (h.lt k hk).1
theorem RowS.grown {r : Option Nat} (h : RowS w v its) (hg : w.grownBy w' r) (hne : v.ownBlock = none ∨ v.ownBlock ≠ r) : RowS w' v its :=
  h.keep fun k hk => hg.block k (h.lt k hk).1 (by rw [← hk]; rcases hne with e | e; · rw [hk] at e; simp at e
                                                  · exact e)
theorem SrcR.keep (h : SrcR w A m zs) (hk : ∀ a, A = some a → w'.heap[a.block]? = w.heap[a.block]?) : SrcR w' A m zs :=
  ⟨h.1, by
    rcases h.2 with h | ⟨g, j, ys, rfl, hr, h1, h2⟩
    · exact .inl h
    · exact .inr ⟨g, j, ys, rfl, (hk _ rfl).trans hr, h1, h2⟩⟩
theorem SrcR.lt (h : SrcR w A m zs) : ∀ a, A = some a → a.block < w.heap.size := by
  intro a e
  rcases h.2 with ⟨h, _⟩ | ⟨g, j, ys, h, hr, _⟩
  · rw [h] at e; simp at e
  · rw [h] at e; simp at e; subst e; exact Vb.lt hr
theorem SrcR.below (h : SrcR w A m zs) (hb : Below w.heap.size w w') : SrcR w' A m zs := h.keep fun a e => hb.block _ (h.lt a e)
theorem SrcR.src (h : SrcR w A m zs) (c : Nat) : Src Try.prog 13 39 (.slice A m c) m (zs.flatMap ics) w := by
  obtain ⟨hl, h⟩ := h
  subst hl
  rcases h with ⟨rfl, h0⟩ | ⟨g, j, ys, rfl, hr, h1, h2⟩
  · have := List.eq_nil_of_length_eq_zero h0
    subst this
    exact Src.ofNil w Try.underlying39 c
  · exact Src.ofSlice w Try.underlying39 _ _ c _ (by rw [fl_len]) (by have := hr.cellsT j zs.length; rw [h2] at this; exact this) (fl_one _)
end
/-- append(a row, a piece of one...). -/
theorem run_appendR {w : World} (ty : TypeId) {v : Value} {its zs : List It} {A : Option Addr} {m c : Nat} (hv : RowS w v its) (hs : SrcR w A m zs) (hsz : its.length + m ≤ 1000000000) :
    ∃ v' w', (Builtin.append_ #[39, 39] ty #[v, .slice A m c]).run Try.prog w = .ok v' w' ∧ RowS w' v' (its ++ zs) ∧ w.grownBy w' v.ownBlock ∧ (v'.ownBlock = v.ownBlock ∨ ∃ k, v'.ownBlock = some k ∧ w.heap.size ≤ k) := by
  obtain ⟨i0, hi0, hz0, hz1, hz2⟩ := info_parts info_rule
  have hzl := hs.1
  by_cases hroom : ∃ g ys, v = .slice (some ⟨g, 0, none⟩) its.length (its.length + ys.length) ∧ Rowb w g (its ++ ys) ∧ its.length + ys.length ≤ maxLen ∧ m ≤ ys.length
  · obtain ⟨g, ys, rfl, hr, hmx, hm⟩ := hroom
    obtain ⟨w', hst, h1, h2, h3⟩ := hr.store its.length m zs hzl (by simp; omega)
    have hf := (hs.src c).cells
    refine ⟨.slice (some ⟨g, 0, none⟩) (its.length + m) (its.length + ys.length), w', ?_, ?_, h2, .inl rfl⟩
    · simp [Builtin.append_, run_underlying Try.underlying39, sizeOf, typeInfo, hi0, hz1, Builtin.lenOf, hm, hf, Addr.add_lit, hst]
    · refine .inr ⟨g, ys.drop m, ?_, ?_, ?_⟩
      · simp; omega
      · have : its ++ zs ++ ys.drop m = (its ++ ys).take its.length ++ zs ++ (its ++ ys).drop (its.length + m) := by simp
        rw [this]; exact h1
      · simp; omega
  · by_cases h0 : v = .slice none 0 0 ∧ m = 0
    · obtain ⟨rfl, rfl⟩ := h0
      have hzs : zs = [] := List.eq_nil_of_length_eq_zero hzl
      subst hzs
      have hits : its = [] := by
        rcases hv with h | ⟨g, ys, h, _⟩
        · exact h.2
        · simp at h
      subst hits
      refine ⟨.slice none 0 0, w, ?_, RowS.nil w, World.grownBy.refl _ _, .inl rfl⟩
      have hf := (hs.src c).cells
      simp [Builtin.append_, run_underlying Try.underlying39, sizeOf, typeInfo, hi0, hz1, Builtin.lenOf, hf]
    · obtain ⟨A0, c0, rfl, hs0, hle, hcm, hc0⟩ := hv.form
      have hsc : c0 < its.length + m := by
        rcases hv with ⟨h, h'⟩ | ⟨g, ys, h, hr, hm⟩
        · simp at h
          obtain ⟨rfl, _, rfl⟩ := h
          have : m ≠ 0 := fun e => h0 ⟨by simp [h'], e⟩
          omega
        · have hn : ¬ m ≤ ys.length := fun h' => hroom ⟨g, ys, h, hr, hm, h'⟩
          obtain ⟨_, _, h⟩ := Value.slice.inj h
          omega
      have hold := (hs0.src c0).cellsD
      rw [← hz1] at hold
      have hsrc := hs.src c
      rw [← hz1] at hsrc
      have hrun := run_append_grow_src (P := Try.prog) w 39 39 ty 31 i0 _ Try.underlying39 hi0 hz0 A0 its.length c0 (its.flatMap ics) hold (.slice A m c) m (zs.flatMap ics) hsrc hsc (by omega) (by rw [hz2]; exact growslice_fits hsc (by omega))
      have hge := grownCap_ge w (its.length + m) c0 31
      have hlm := grownCap_le_maxLen w (its.length + m) c0 31 (by unfold maxLen; omega)
      generalize grownCap w (its.length + m) c0 31 = gc at *
      refine ⟨_, _, hrun, .inr ⟨w.heap.size, List.replicate (gc - (its.length + m)) zIt, ?_, ?_, ?_⟩, ?_, .inr ⟨w.heap.size, rfl, Nat.le_refl _⟩⟩
      · simp; omega
      · have hv := Vb.new 31 w.drew ((its ++ zs ++ List.replicate (gc - (its.length + m)) zIt).flatMap ics)
        have e : ((its ++ zs ++ List.replicate (gc - (its.length + m)) zIt).flatMap ics).toArray = (its.flatMap ics ++ zs.flatMap ics).toArray ++ Builtin.zeroCells (Value.agg (ics zIt).toArray).cells (gc - (its.length + m)) := by
          apply Array.ext'
          rw [Array.toList_append, zeros_fl]
          simp [List.flatMap_append]
        rw [e] at hv
        exact hv
      · simp; omega
      · have h1 : w.grownBy w.drew (Value.ownBlock (.slice A0 its.length c0)) := ⟨rfl, rfl, rfl, Nat.le_refl _, fun _ _ _ => rfl⟩
        exact h1.trans (World.grownBy_alloc _ _ _)
end Go.Proofs.Ytcolklkjaifplaa.Oct
