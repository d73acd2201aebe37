/- Tables that are none. Rows of calls of a table in memory (as XTabA's rows of rules). For TableKnown: Data of no table; a full table; a row of calls that grows. The walk of TableKnown. TableKnown holds of every input: the frame round the walk Oct.tableKnown_all (the conditions: none; any values of the parameter types). -/
import Derived.Test.YtcolklkjaifplaaTabL
import Derived.Test.YtcolklkjaifplaaTpE
import Derived.Deep.AppendSrc
import Derived.Lib.AppendZeros
import Derived.Lib.Overlaps
import Derived.Test.YtcolklkjaifplaaMskA
import Derived.Test.YtcolklkjaifplaaRows
import Derived.WalkKit
import Derived.ProofKit
import Derived.OpenShut
import Derived.ShutString
import Derived.ChangeOld
import Derived.Below
import Derived.Test.YtcolklkjaifplaaFrame
namespace Go.Proofs.Ytcolklkjaifplaa.Oct
open Go.RowKit
set_option linter.unusedVariables false
set_option linter.unusedSimpArgs false
/-- No table: nil, or a zero one. -/
def NT (w : World) (a : Option Addr) : Prop := a = none ∨ ∃ t, a = some ⟨t, 0, none⟩ ∧ Vb 42 w t [.bool false, .int .i64 0, .slice none 0 0]
section
variable {w w' : World} {a : Option Addr}
theorem NT.below (h : NT w a) (hb : Below w.heap.size w w') : NT w' a := h.imp id (fun ⟨t, e, hv⟩ => ⟨t, e, hv.below hb hv.lt⟩)
theorem NT.no (h : NT w a) : Calls Try.prog 44 #[.pointer a] w fun e w' => e = .returned (.bool true) ∧ w' = w := by
  rcases h with rfl | ⟨t, rfl, hv⟩
  · exact isNone_nil w
  · exact isNone_zero hv
theorem nt_wipe (h : NT w a) : Calls Try.prog 14 #[.pointer a] w fun e w' => e = .returned (.int .i64 0) ∧ w' = w := by
  go_enter Try.func14, Try.ntmps14
  go_wp2_with (first | (refine h.no.mono ?_; rintro e w1 ⟨rfl, rfl⟩))
  go_ret
  exact ⟨rfl, rfl⟩
theorem nt_len (h : NT w a) : Calls Try.prog 15 #[.pointer a] w fun e w' => e = .returned (.int .i64 0) ∧ w' = w := by
  go_enter Try.func15, Try.ntmps15
  go_wp2_with (first | (refine h.no.mono ?_; rintro e w1 ⟨rfl, rfl⟩))
  go_ret
  exact ⟨rfl, rfl⟩
theorem nt_room (h : NT w a) : Calls Try.prog 16 #[.pointer a] w fun e w' => e = .returned (.int .i64 0) ∧ w' = w := by
  go_enter Try.func16, Try.ntmps16
  go_wp2_with (first | (refine h.no.mono ?_; rintro e w1 ⟨rfl, rfl⟩))
  go_ret
  exact ⟨rfl, rfl⟩
theorem nt_rules (h : NT w a) : Calls Try.prog 17 #[.pointer a] w fun e w' => e = .returned (.slice none 0 0) ∧ w' = w := by
  go_enter Try.func17, Try.ntmps17
  go_wp2_with (first | (refine h.no.mono ?_; rintro e w1 ⟨rfl, rfl⟩))
  go_ret
  exact ⟨rfl, rfl⟩
theorem nt_control (h : NT w a) (tw : Int) : Calls Try.prog 8 #[.pointer a, .int .i64 tw] w fun e w' => e = .returned (.tuple #[.int .i64 0, .bool false]) ∧ w' = w := by
  go_enter Try.func8, Try.ntmps8
  go_wp2_with (first | (refine h.no.mono ?_; rintro e w1 ⟨rfl, rfl⟩))
  go_ret2
  exact ⟨rfl, rfl⟩
set_option maxRecDepth 100000 in
theorem nt_check (h : NT w a) (k0 k1 k2 k3 k4 k5 u0 u1 u2 u3 u4 u5 : Int) (A : Option Addr) (n c : Nat) : Calls Try.prog 51 #[.pointer a, .agg #[.int .i64 k0, .int .i64 k1, .int .i64 k2, .int .i64 k3, .int .i64 k4, .int .i64 k5, .int .u8 u0, .int .u8 u1, .int .u8 u2, .int .u8 u3, .int .u8 u4, .int .u8 u5, .slice A n c]] w fun e w' => e = .returned (.int .i64 1) ∧ Below w.heap.size w w' := by
  have hb := below_alloc w (.cells #[.int .i64 k0, .int .i64 k1, .int .i64 k2, .int .i64 k3, .int .i64 k4, .int .i64 k5, .int .u8 u0, .int .u8 u1, .int .u8 u2, .int .u8 u3, .int .u8 u4, .int .u8 u5, .slice A n c] 31)
  have h1 := h.below hb
  have HB := Kp.mk hb
  clear hb h
  go_enter Try.func51, Try.ntmps51
  go_upto_region 1 with fail
  generalize w.alloc (.cells #[.int .i64 k0, .int .i64 k1, .int .i64 k2, .int .i64 k3, .int .i64 k4, .int .i64 k5, .int .u8 u0, .int .u8 u1, .int .u8 u2, .int .u8 u3, .int .u8 u4, .int .u8 u5, .slice A n c] 31) = w1 at *
  go_wp2_with (first | (refine h1.no.mono ?_; rintro e w1 ⟨rfl, rfl⟩))
  go_ret
  exact ⟨rfl, HB.out⟩
set_option maxRecDepth 100000 in
theorem nt_add (h : NT w a) (k0 k1 k2 k3 k4 k5 u0 u1 u2 u3 u4 u5 : Int) (A : Option Addr) (n c : Nat) : Calls Try.prog 10 #[.pointer a, .agg #[.int .i64 k0, .int .i64 k1, .int .i64 k2, .int .i64 k3, .int .i64 k4, .int .i64 k5, .int .u8 u0, .int .u8 u1, .int .u8 u2, .int .u8 u3, .int .u8 u4, .int .u8 u5, .slice A n c]] w fun e w' => e = .returned (.int .i64 1) ∧ Below w.heap.size w w' := by
  have hb := below_alloc w (.cells #[.int .i64 k0, .int .i64 k1, .int .i64 k2, .int .i64 k3, .int .i64 k4, .int .i64 k5, .int .u8 u0, .int .u8 u1, .int .u8 u2, .int .u8 u3, .int .u8 u4, .int .u8 u5, .slice A n c] 31)
  have hv : Vb 31 (w.alloc (.cells #[.int .i64 k0, .int .i64 k1, .int .i64 k2, .int .i64 k3, .int .i64 k4, .int .i64 k5, .int .u8 u0, .int .u8 u1, .int .u8 u2, .int .u8 u3, .int .u8 u4, .int .u8 u5, .slice A n c] 31)) w.heap.size [.int .i64 k0, .int .i64 k1, .int .i64 k2, .int .i64 k3, .int .i64 k4, .int .i64 k5, .int .u8 u0, .int .u8 u1, .int .u8 u2, .int .u8 u3, .int .u8 u4, .int .u8 u5, .slice A n c] := Vb.new 31 w [.int .i64 k0, .int .i64 k1, .int .i64 k2, .int .i64 k3, .int .i64 k4, .int .i64 k5, .int .u8 u0, .int .u8 u1, .int .u8 u2, .int .u8 u3, .int .u8 u4, .int .u8 u5, .slice A n c]
  have h1 := h.below hb
  have HB := Kp.mk hb
  clear hb h
  go_enter Try.func10, Try.ntmps10
  go_upto_region 1 with fail
  generalize w.alloc (.cells #[.int .i64 k0, .int .i64 k1, .int .i64 k2, .int .i64 k3, .int .i64 k4, .int .i64 k5, .int .u8 u0, .int .u8 u1, .int .u8 u2, .int .u8 u3, .int .u8 u4, .int .u8 u5, .slice A n c] 31) = w1 at *
  go_upto_region 2 with (refine wpList_load_vb (vs := [.int .i64 k0, .int .i64 k1, .int .i64 k2, .int .i64 k3, .int .i64 k4, .int .i64 k5, .int .u8 u0, .int .u8 u1, .int .u8 u2, .int .u8 u3, .int .u8 u4, .int .u8 u5, .slice A n c]) rfl (.tmp 3) rfl rfl hv rfl agg_rule ?_)
  refine (nt_check h1 k0 k1 k2 k3 k4 k5 u0 u1 u2 u3 u4 u5 A n c).mono ?_
  rintro e w2 ⟨rfl, hb2⟩
  have HB2 := Kp.mk (HB.out.trans (hb2.mono HB.out.size))
  clear hb2 hv h1
  go_wp2_with fail
  go_ret
  exact ⟨rfl, HB2.out⟩
set_option maxRecDepth 100000 in
theorem nt_del (h : NT w a) (k0 k1 k2 k3 k4 k5 u0 u1 u2 u3 u4 u5 : Int) (A : Option Addr) (n c : Nat) : Calls Try.prog 11 #[.pointer a, .agg #[.int .i64 k0, .int .i64 k1, .int .i64 k2, .int .i64 k3, .int .i64 k4, .int .i64 k5, .int .u8 u0, .int .u8 u1, .int .u8 u2, .int .u8 u3, .int .u8 u4, .int .u8 u5, .slice A n c]] w fun e w' => e = .returned (.int .i64 1) ∧ Below w.heap.size w w' := by
  have hb := below_alloc w (.cells #[.int .i64 k0, .int .i64 k1, .int .i64 k2, .int .i64 k3, .int .i64 k4, .int .i64 k5, .int .u8 u0, .int .u8 u1, .int .u8 u2, .int .u8 u3, .int .u8 u4, .int .u8 u5, .slice A n c] 31)
  have hv : Vb 31 (w.alloc (.cells #[.int .i64 k0, .int .i64 k1, .int .i64 k2, .int .i64 k3, .int .i64 k4, .int .i64 k5, .int .u8 u0, .int .u8 u1, .int .u8 u2, .int .u8 u3, .int .u8 u4, .int .u8 u5, .slice A n c] 31)) w.heap.size [.int .i64 k0, .int .i64 k1, .int .i64 k2, .int .i64 k3, .int .i64 k4, .int .i64 k5, .int .u8 u0, .int .u8 u1, .int .u8 u2, .int .u8 u3, .int .u8 u4, .int .u8 u5, .slice A n c] := Vb.new 31 w [.int .i64 k0, .int .i64 k1, .int .i64 k2, .int .i64 k3, .int .i64 k4, .int .i64 k5, .int .u8 u0, .int .u8 u1, .int .u8 u2, .int .u8 u3, .int .u8 u4, .int .u8 u5, .slice A n c]
  have h1 := h.below hb
  have HB := Kp.mk hb
  clear hb h
  go_enter Try.func11, Try.ntmps11
  go_upto_region 1 with fail
  generalize w.alloc (.cells #[.int .i64 k0, .int .i64 k1, .int .i64 k2, .int .i64 k3, .int .i64 k4, .int .i64 k5, .int .u8 u0, .int .u8 u1, .int .u8 u2, .int .u8 u3, .int .u8 u4, .int .u8 u5, .slice A n c] 31) = w1 at *
  go_upto_region 2 with (refine wpList_load_vb (vs := [.int .i64 k0, .int .i64 k1, .int .i64 k2, .int .i64 k3, .int .i64 k4, .int .i64 k5, .int .u8 u0, .int .u8 u1, .int .u8 u2, .int .u8 u3, .int .u8 u4, .int .u8 u5, .slice A n c]) rfl (.tmp 3) rfl rfl hv rfl agg_rule ?_)
  refine (nt_check h1 k0 k1 k2 k3 k4 k5 u0 u1 u2 u3 u4 u5 A n c).mono ?_
  rintro e w2 ⟨rfl, hb2⟩
  have HB2 := Kp.mk (HB.out.trans (hb2.mono HB.out.size))
  clear hb2 hv h1
  go_wp2_with fail
  go_ret
  exact ⟨rfl, HB2.out⟩
set_option maxRecDepth 100000 in
theorem nt_loose (h : NT w a) (k4 k5 u0 u1 u2 u3 u4 u5 : Int) : Calls Try.prog 12 #[.pointer a, .agg #[.int .i64 k4, .int .i64 k5, .int .u8 u0, .int .u8 u1, .int .u8 u2, .int .u8 u3, .int .u8 u4, .int .u8 u5]] w fun e w' => e = .returned (.int .i64 0) ∧ Below w.heap.size w w' := by
  have hb := below_alloc w (.cells #[.int .i64 k4, .int .i64 k5, .int .u8 u0, .int .u8 u1, .int .u8 u2, .int .u8 u3, .int .u8 u4, .int .u8 u5] 28)
  have h1 := h.below hb
  have HB := Kp.mk hb
  clear hb h
  go_enter Try.func12, Try.ntmps12
  go_upto_region 1 with fail
  generalize w.alloc (.cells #[.int .i64 k4, .int .i64 k5, .int .u8 u0, .int .u8 u1, .int .u8 u2, .int .u8 u3, .int .u8 u4, .int .u8 u5] 28) = w1 at *
  go_wp2_with (first | (refine h1.no.mono ?_; rintro e w1 ⟨rfl, rfl⟩))
  go_ret
  exact ⟨rfl, HB.out⟩
end
end Go.Proofs.Ytcolklkjaifplaa.Oct

namespace Go.Proofs.Ytcolklkjaifplaa.Oct.Dos
open Go.RowKit
set_option linter.unusedVariables false
set_option linter.unusedSimpArgs false
def zD : DoV := ⟨0, 0, zIt, ⟨0, 0, 0, 0, 0, 0, 0, 0⟩, 0, 0, 0, 0, 0⟩
theorem dcs_len (x : DoV) : (dcs x).length = 28 := rfl
theorem dcs_one (x : DoV) : (dcs x).all (·.oneCell') = true := rfl
theorem fl_len (ys : List DoV) : (ys.flatMap dcs).length = ys.length * 28 := by
  induction ys with
  | nil => rfl
  | cons o os ih => rw [List.flatMap_cons, List.length_append, ih, List.length_cons, dcs_len]; omega
theorem fl_drop (ys : List DoV) : ∀ i, (ys.flatMap dcs).drop (i * 28) = (ys.drop i).flatMap dcs := by
  induction ys with
  | nil => intro i; simp
  | cons y ys ih =>
    intro i
    cases i with
    | zero => simp
    | succ i =>
      rw [List.flatMap_cons, show (i + 1) * 28 = (dcs y).length + i * 28 by rw [dcs_len]; omega, List.drop_append]
      simp [ih]
theorem fl_take (ys : List DoV) : ∀ i, (ys.flatMap dcs).take (i * 28) = (ys.take i).flatMap dcs := by
  induction ys with
  | nil => intro i; simp
  | cons y ys ih =>
    intro i
    cases i with
    | zero => simp
    | succ i =>
      rw [List.flatMap_cons, show (i + 1) * 28 = (dcs y).length + i * 28 by rw [dcs_len]; omega, List.take_append, List.take_of_length_le (by omega)]
      simp [ih]
theorem fl_one (ys : List DoV) : ∀ u ∈ ys.flatMap dcs, u.oneCell' = true := by
  intro u hu
  obtain ⟨x, _, hx⟩ := List.mem_flatMap.1 hu
  exact List.all_eq_true.1 (dcs_one x) u hx
theorem fl_at (ys : List DoV) (i : Nat) (x : DoV) (h : ys[i]? = some x) : ((ys.flatMap dcs).drop (i * 28)).take 28 = dcs x := by
  have h1 := fl_take (ys.drop i) 1
  rw [Nat.one_mul] at h1
  rw [fl_drop, h1]
  obtain ⟨hl, e⟩ := List.getElem?_eq_some_iff.1 h
  rw [List.drop_eq_getElem_cons hl, e]
  simp
theorem fl_get (ys : List DoV) (i k : Nat) (x : DoV) (h : ys[i]? = some x) (hk : k < 28) : (ys.flatMap dcs)[i * 28 + k]? = (dcs x)[k]? := by
  rw [← fl_at ys i x h, List.getElem?_take, if_pos hk, List.getElem?_drop]
theorem info_rule : (Try.prog.info? 50).map (fun i => (i.zero, i.size, i.bytes)) = some (some (.agg (dcs zD).toArray), 28, 144) := by kernel_rfl
theorem zeros_fl (n : Nat) : (Builtin.zeroCells (Value.agg (dcs zD).toArray).cells n).toList = (List.replicate n zD).flatMap dcs := by
  have hs : (Value.agg (dcs zD).toArray).cells = (dcs zD).toArray := rfl
  rw [hs]
  apply List.ext_getElem?
  intro j
  by_cases hj : j < n * 28
  · have h1 : (List.replicate n zD)[j / 28]? = some zD := by
      rw [List.getElem?_replicate, if_pos (by omega)]
    have h2 := fl_get (List.replicate n zD) (j / 28) (j % 28) zD h1 (Nat.mod_lt _ (by omega))
    rw [show j / 28 * 28 + j % 28 = j by omega] at h2
    rw [h2]
    have hm : j % 28 < 28 := Nat.mod_lt _ (by omega)
    simp only [Builtin.zeroCells, Array.toList_map, Array.toList_range, List.getElem?_map, List.size_toArray, dcs_len, List.getElem?_range hj, Option.map_some]
    rw [List.getElem?_eq_getElem (by rw [dcs_len]; exact hm)]
    congr 1
    simp [dcs_len, hm, getElem!_pos]
  · rw [List.getElem?_eq_none (by simp [Builtin.zeroCells, dcs_len]; omega), List.getElem?_eq_none (by rw [fl_len]; simp; omega)]

/-- The rules ys, in a block g, and nothing else there. -/
def Rowb (w : World) (g : Nat) (ys : List DoV) : Prop := Vb 50 w g (ys.flatMap dcs)
section
variable {w w' : World} {g h r B : Nat} {ys zs : List DoV}
theorem Rowb.cells (h : Rowb w g ys) (j : Nat) : ∀ k u, ((ys.drop j).flatMap dcs)[k]? = some u → w.cell? ((⟨g, j * 28, none⟩ : Addr).add k) = some u := by
  intro k u hk
  rw [add_addr]
  refine Vb.cell h _ ?_
  rw [← fl_drop, List.getElem?_drop] at hk
  exact hk
theorem Rowb.cellsT (h : Rowb w g ys) (j m : Nat) : ∀ k u, (((ys.drop j).take m).flatMap dcs)[k]? = some u → w.cell? ((⟨g, j * 28, none⟩ : Addr).add k) = some u := by
  intro k u hk
  refine h.cells j k u ?_
  rw [← fl_take, List.getElem?_take] at hk
  split at hk
  · exact hk
  · simp at hk
theorem Rowb.stored (h : Rowb w g ys) (i m : Nat) (zs : List DoV) (hz : zs.length = m) (hi : i + m ≤ ys.length) :
    Rowb (w.setRow g ((ys.flatMap dcs).toArray.toList.take (i * 28) ++ zs.flatMap dcs ++ (ys.flatMap dcs).toArray.toList.drop (i * 28 + (zs.flatMap dcs).length)).toArray) g (ys.take i ++ zs ++ ys.drop (i + m)) := by
  have e : (ys.take i ++ zs ++ ys.drop (i + m)).flatMap dcs = (ys.flatMap dcs).toArray.toList.take (i * 28) ++ zs.flatMap dcs ++ (ys.flatMap dcs).toArray.toList.drop (i * 28 + (zs.flatMap dcs).length) := by
    rw [List.flatMap_append, List.flatMap_append, ← fl_take, ← fl_drop, fl_len, hz]
    congr 2
    omega
  unfold Rowb
  rw [e]
  refine setRow_vb (cs := ys.flatMap dcs) h ?_
  rw [← e, fl_len, fl_len]
  simp
  omega
/-- Cells are stored over a piece of a row. -/
theorem Rowb.store (h : Rowb w g ys) (i m : Nat) (zs : List DoV) (hz : zs.length = m) (hi : i + m ≤ ys.length) :
    ∃ w', (storeCells ⟨g, i * 28, none⟩ (zs.flatMap dcs)).run Try.prog w = .ok () w' ∧ Rowb w' g (ys.take i ++ zs ++ ys.drop (i + m)) ∧ w.grownBy w' (some g) ∧ w'.heap.size = w.heap.size := by
  refine ⟨_, ?_, h.stored i m zs hz hi, setRow_grown _ _ _, setRow_size _ _ _⟩
  have := run_storeCells_at Try.prog g (i * 28) 50 (zs.flatMap dcs) 0 (ys.flatMap dcs).toArray w h (by rw [List.size_toArray, fl_len, fl_len]; omega) (fl_one zs)
  simpa using this
end
/-- A slice of rules that owns a whole block, or none: its rules. -/
def RowS (w : World) (v : Value) (its : List DoV) : Prop := (v = .slice none 0 0 ∧ its = []) ∨ ∃ g ys, v = .slice (some ⟨g, 0, none⟩) its.length (its.length + ys.length) ∧ Rowb w g (its ++ ys) ∧ its.length + ys.length ≤ maxLen
/-- A slice of rules, to be read: a piece of a row, or none. -/
def SrcR (w : World) (A : Option Addr) (m : Nat) (zs : List DoV) : Prop := zs.length = m ∧ ((A = none ∧ m = 0) ∨ ∃ h j ys, A = some ⟨h, j * 28, none⟩ ∧ Rowb w h ys ∧ j + m ≤ ys.length ∧ (ys.drop j).take m = zs)
section
variable {w w' : World} {v : Value} {its zs : List DoV} {A : Option Addr} {m c : Nat}
theorem RowS.nil (w : World) : RowS w (.slice none 0 0) [] := .inl ⟨rfl, rfl⟩
theorem RowS.form (h : RowS w v its) : ∃ A c, v = .slice A its.length c ∧ SrcR w A its.length its ∧ its.length ≤ c ∧ c ≤ maxLen ∧ (A = none → c = 0) := by
  rcases h with ⟨rfl, rfl⟩ | ⟨g, ys, rfl, hr, hm⟩
  · exact ⟨none, 0, rfl, ⟨rfl, .inl ⟨rfl, rfl⟩⟩, Nat.le_refl _, Nat.zero_le _, fun _ => rfl⟩
  · exact ⟨some ⟨g, 0, none⟩, _, rfl, ⟨rfl, .inr ⟨g, 0, its ++ ys, rfl, hr, by simp, by simp⟩⟩, by omega, hm, fun h => by simp at h⟩
theorem RowS.lt (h : RowS w v its) : ∀ k, v.ownBlock = some k → k < w.heap.size ∧ ∃ ys, Rowb w k (its ++ ys) := by
  intro k hk
  rcases h with ⟨rfl, rfl⟩ | ⟨g, ys, rfl, hr, hm⟩
  · simp [Value.ownBlock] at hk
  · simp [Value.ownBlock] at hk
    subst hk
    exact ⟨Vb.lt hr, ys, hr⟩
theorem RowS.keep (h : RowS w v its) (hk : ∀ k, v.ownBlock = some k → w'.heap[k]? = w.heap[k]?) : RowS w' v its := by
  rcases h with h | ⟨g, ys, rfl, hr, hm⟩
  · exact .inl h
  · exact .inr ⟨g, ys, rfl, (hk g rfl).trans hr, hm⟩
theorem RowS.below (h : RowS w v its) (hb : Below w.heap.size w w') : RowS w' v its := h.keep fun k hk => hb.block k (h.lt k hk).1
theorem RowS.grown {r : Option Nat} (h : RowS w v its) (hg : w.grownBy w' r) (hne : v.ownBlock = none ∨ v.ownBlock ≠ r) : RowS w' v its :=
  h.keep fun k hk => hg.block k (h.lt k hk).1 (by rw [← hk]; rcases hne with e | e; · rw [hk] at e; simp at e
                                                  · exact e)
theorem SrcR.keep (h : SrcR w A m zs) (hk : ∀ a, A = some a → w'.heap[a.block]? = w.heap[a.block]?) : SrcR w' A m zs :=
  ⟨h.1, by
    rcases h.2 with h | ⟨g, j, ys, rfl, hr, h1, h2⟩
    · exact .inl h
    · exact .inr ⟨g, j, ys, rfl, (hk _ rfl).trans hr, h1, h2⟩⟩
theorem SrcR.lt (h : SrcR w A m zs) : ∀ a, A = some a → a.block < w.heap.size := by
  intro a e
  rcases h.2 with ⟨h, _⟩ | ⟨g, j, ys, h, hr, _⟩
  · rw [h] at e; simp at e
  · rw [h] at e; simp at e; subst e; exact Vb.lt hr
theorem SrcR.below (h : SrcR w A m zs) (hb : Below w.heap.size w w') : SrcR w' A m zs := h.keep fun a e => hb.block _ (h.lt a e)
theorem SrcR.src (h : SrcR w A m zs) (c : Nat) : Src Try.prog 28 46 (.slice A m c) m (zs.flatMap dcs) w := by
  obtain ⟨hl, h⟩ := h
  subst hl
  rcases h with ⟨rfl, h0⟩ | ⟨g, j, ys, rfl, hr, h1, h2⟩
  · have := List.eq_nil_of_length_eq_zero h0
    subst this
    exact Src.ofNil w Try.underlying46 c
  · exact Src.ofSlice w Try.underlying46 _ _ c _ (by rw [fl_len]) (by have := hr.cellsT j zs.length; rw [h2] at this; exact this) (fl_one _)
end
/-- append(a row, a piece of one...). -/
theorem run_appendR {w : World} (ty : TypeId) {v : Value} {its zs : List DoV} {A : Option Addr} {m c : Nat} (hv : RowS w v its) (hs : SrcR w A m zs) (hsz : its.length + m ≤ 1000000000) :
    ∃ v' w', (Builtin.append_ #[46, 46] ty #[v, .slice A m c]).run Try.prog w = .ok v' w' ∧ RowS w' v' (its ++ zs) ∧ w.grownBy w' v.ownBlock ∧ (v'.ownBlock = v.ownBlock ∨ ∃ k, v'.ownBlock = some k ∧ w.heap.size ≤ k) := by
  obtain ⟨i0, hi0, hz0, hz1, hz2⟩ := info_parts info_rule
  have hzl := hs.1
  by_cases hroom : ∃ g ys, v = .slice (some ⟨g, 0, none⟩) its.length (its.length + ys.length) ∧ Rowb w g (its ++ ys) ∧ its.length + ys.length ≤ maxLen ∧ m ≤ ys.length
  · obtain ⟨g, ys, rfl, hr, hmx, hm⟩ := hroom
    obtain ⟨w', hst, h1, h2, h3⟩ := hr.store its.length m zs hzl (by simp; omega)
    have hf := (hs.src c).cells
    refine ⟨.slice (some ⟨g, 0, none⟩) (its.length + m) (its.length + ys.length), w', ?_, ?_, h2, .inl rfl⟩
    · simp [Builtin.append_, run_underlying Try.underlying46, sizeOf, typeInfo, hi0, hz1, Builtin.lenOf, hm, hf, Addr.add_lit, hst]
    · refine .inr ⟨g, ys.drop m, ?_, ?_, ?_⟩
      · simp; omega
      · have : its ++ zs ++ ys.drop m = (its ++ ys).take its.length ++ zs ++ (its ++ ys).drop (its.length + m) := by simp
        rw [this]; exact h1
      · simp; omega
  · by_cases h0 : v = .slice none 0 0 ∧ m = 0
    · obtain ⟨rfl, rfl⟩ := h0
      have hzs : zs = [] := List.eq_nil_of_length_eq_zero hzl
      subst hzs
      have hits : its = [] := by
        rcases hv with h | ⟨g, ys, h, _⟩
        · exact h.2
        · simp at h
      subst hits
      refine ⟨.slice none 0 0, w, ?_, RowS.nil w, World.grownBy.refl _ _, .inl rfl⟩
      have hf := (hs.src c).cells
      simp [Builtin.append_, run_underlying Try.underlying46, sizeOf, typeInfo, hi0, hz1, Builtin.lenOf, hf]
    · obtain ⟨A0, c0, rfl, hs0, hle, hcm, hc0⟩ := hv.form
      have hsc : c0 < its.length + m := by
        rcases hv with ⟨h, h'⟩ | ⟨g, ys, h, hr, hm⟩
        · simp at h
          obtain ⟨rfl, _, rfl⟩ := h
          have : m ≠ 0 := fun e => h0 ⟨by simp [h'], e⟩
          omega
        · have hn : ¬ m ≤ ys.length := fun h' => hroom ⟨g, ys, h, hr, hm, h'⟩
          obtain ⟨_, _, h⟩ := Value.slice.inj h
          omega
      have hold := (hs0.src c0).cellsD
      rw [← hz1] at hold
      have hsrc := hs.src c
      rw [← hz1] at hsrc
      have hrun := run_append_grow_src (P := Try.prog) w 46 46 ty 50 i0 _ Try.underlying46 hi0 hz0 A0 its.length c0 (its.flatMap dcs) hold (.slice A m c) m (zs.flatMap dcs) hsrc hsc (by omega) (by rw [hz2]; exact growslice_fits hsc (by omega))
      have hge := grownCap_ge w (its.length + m) c0 50
      have hlm := grownCap_le_maxLen w (its.length + m) c0 50 (by unfold maxLen; omega)
      generalize grownCap w (its.length + m) c0 50 = gc at *
      refine ⟨_, _, hrun, .inr ⟨w.heap.size, List.replicate (gc - (its.length + m)) zD, ?_, ?_, ?_⟩, ?_, .inr ⟨w.heap.size, rfl, Nat.le_refl _⟩⟩
      · simp; omega
      · have hv := Vb.new 50 w.drew ((its ++ zs ++ List.replicate (gc - (its.length + m)) zD).flatMap dcs)
        have e : ((its ++ zs ++ List.replicate (gc - (its.length + m)) zD).flatMap dcs).toArray = (its.flatMap dcs ++ zs.flatMap dcs).toArray ++ Builtin.zeroCells (Value.agg (dcs zD).toArray).cells (gc - (its.length + m)) := by
          apply Array.ext'
          rw [Array.toList_append, zeros_fl]
          simp [List.flatMap_append]
        rw [e] at hv
        exact hv
      · simp; omega
      · have h1 : w.grownBy w.drew (Value.ownBlock (.slice A0 its.length c0)) := ⟨rfl, rfl, rfl, Nat.le_refl _, fun _ _ _ => rfl⟩
        exact h1.trans (World.grownBy_alloc _ _ _)
end Go.Proofs.Ytcolklkjaifplaa.Oct.Dos

namespace Go.Proofs.Ytcolklkjaifplaa.Oct
open Go.RowKit
set_option linter.unusedVariables false
set_option linter.unusedSimpArgs false
set_option maxRecDepth 100000 in
theorem nt_data {w : World} {a : Option Addr} (h : NT w a) : Calls Try.prog 9 #[.pointer a, .int .i64 0, .int .i64 0, .agg #[.int .u8 0, .int .u8 0, .int .u8 0]] w fun e w' => e = .returned (.tuple #[.agg #[.int .i64 0, .int .i64 0, .int .i64 0, .int .i64 0, .int .i64 0, .int .i64 0, .int .u8 0, .int .u8 0, .int .u8 0, .int .u8 0, .int .u8 0, .int .u8 0, .slice none 0 0], .bool false]) ∧ Below w.heap.size w w' := by
  have hB : Below w.heap.size w ((((w.alloc (.cells #[.int .i64 0] 3)).alloc (.cells #[.int .i64 0] 3)).alloc (.cells #[.int .u8 0, .int .u8 0, .int .u8 0] 26)).alloc (.cells #[.int .i64 0, .int .i64 0, .int .i64 0, .int .i64 0, .int .i64 0, .int .i64 0, .int .u8 0, .int .u8 0, .int .u8 0, .int .u8 0, .int .u8 0, .int .u8 0, .slice none 0 0] 31)) := (((below_two w (.cells #[.int .i64 0] 3) (.cells #[.int .i64 0] 3)).trans ((below_alloc _ (.cells #[.int .u8 0, .int .u8 0, .int .u8 0] 26)).mono (by simp; omega))).trans ((below_alloc _ (.cells #[.int .i64 0, .int .i64 0, .int .i64 0, .int .i64 0, .int .i64 0, .int .i64 0, .int .u8 0, .int .u8 0, .int .u8 0, .int .u8 0, .int .u8 0, .int .u8 0, .slice none 0 0] 31)).mono (by simp; omega)))
  have z3 : (((w.alloc (.cells #[.int .i64 0] 3)).alloc (.cells #[.int .i64 0] 3)).alloc (.cells #[.int .u8 0, .int .u8 0, .int .u8 0] 26)).heap.size = w.heap.size + 3 := by simp
  have hv : Vb 31 ((((w.alloc (.cells #[.int .i64 0] 3)).alloc (.cells #[.int .i64 0] 3)).alloc (.cells #[.int .u8 0, .int .u8 0, .int .u8 0] 26)).alloc (.cells #[.int .i64 0, .int .i64 0, .int .i64 0, .int .i64 0, .int .i64 0, .int .i64 0, .int .u8 0, .int .u8 0, .int .u8 0, .int .u8 0, .int .u8 0, .int .u8 0, .slice none 0 0] 31)) (w.heap.size + 3) [.int .i64 0, .int .i64 0, .int .i64 0, .int .i64 0, .int .i64 0, .int .i64 0, .int .u8 0, .int .u8 0, .int .u8 0, .int .u8 0, .int .u8 0, .int .u8 0, .slice none 0 0] := by have := Vb.new 31 (((w.alloc (.cells #[.int .i64 0] 3)).alloc (.cells #[.int .i64 0] 3)).alloc (.cells #[.int .u8 0, .int .u8 0, .int .u8 0] 26)) [.int .i64 0, .int .i64 0, .int .i64 0, .int .i64 0, .int .i64 0, .int .i64 0, .int .u8 0, .int .u8 0, .int .u8 0, .int .u8 0, .int .u8 0, .int .u8 0, .slice none 0 0]; rw [z3] at this; exact this
  have h1 := h.below hB
  clear z3 h
  go_enter Try.func9, Try.ntmps9
  go_upto_region 1 with fail
  generalize ((((w.alloc (.cells #[.int .i64 0] 3)).alloc (.cells #[.int .i64 0] 3)).alloc (.cells #[.int .u8 0, .int .u8 0, .int .u8 0] 26)).alloc (.cells #[.int .i64 0, .int .i64 0, .int .i64 0, .int .i64 0, .int .i64 0, .int .i64 0, .int .u8 0, .int .u8 0, .int .u8 0, .int .u8 0, .int .u8 0, .int .u8 0, .slice none 0 0] 31)) = w0 at *
  go_wp2_with (first | (refine h1.no.mono ?_; rintro e w1 ⟨rfl, rfl⟩) | (refine wpList_store_vb (vs := [.int .i64 0, .int .i64 0, .int .i64 0, .int .i64 0, .int .i64 0, .int .i64 0, .int .u8 0, .int .u8 0, .int .u8 0, .int .u8 0, .int .u8 0, .int .u8 0, .slice none 0 0]) rfl (.tmp 8) (.tmp 14) rfl rfl rfl hv rfl agg_rule rfl ?_; intro w4 hv4 hg4 hz4))
  refine bodyPost_ret (results_pair Try.results9 _ rfl hv4 agg_rule) rfl ?_
  exact ⟨rfl, hB.grown hg4 hB.size (fun k e => by simp at e; omega)⟩
def FL : Nat → List RuleV
  | 0 => []
  | n + 1 => addL 64 (datO n anyM 1) (FL n)
theorem FL_step (i : Nat) (h : i < 64) : addE 64 (datO i anyM 1) (FL i) = 0 := by
  have : ∀ i, i < 64 → addE 64 (datO (i : Nat) anyM 1) (FL i) = 0 := by decide +kernel
  exact this i h
theorem FL_full : addE 64 (datO 64 anyM 1) (FL 64) = 90 := by decide +kernel
theorem FL_stands : addE 64 (datO 63 anyM 2) (FL 64) = 0 := by decide +kernel
theorem z_none : addE 0 (ctlO 0 0) [] = 90 := by decide +kernel
theorem z_arg : addE 0 zR [] = 2 := by decide +kernel
theorem tv_adde2 {w : World} {t : Nat} {v : Value} {room : Int} {l : List RuleV} {e0 : Int} {x : It} (h : TV w t v room l) (hx : Ob w x) (hxl : x.r.os.length ≤ 1000000000) (hE : addE room x.r l = e0) : Calls Try.prog 10 #[.pointer (some ⟨t, 0, none⟩), .agg (ics x).toArray] w fun e w' => e = .returned (.int .i64 e0) ∧ (∃ v', TV w' t v' room (addL room x.r l) ∧ Nw w v v') ∧ Fr2 t v.ownBlock w w' := by
  rw [← hE]
  exact tv_add h hx hxl
/-- A row of n calls that grows; their outputs may be read. -/
def DL (w : World) (v : Value) (n : Nat) : Prop := ∃ ds, Dos.RowS w v ds ∧ ds.length = n ∧ ∀ d ∈ ds, Ob w d.x ∧ MB d.x.r.x
section
variable {w w' : World} {v : Value} {n t : Nat}
theorem DL.nil (w : World) : DL w (.slice none 0 0) 0 := ⟨[], Dos.RowS.nil w, rfl, fun d hd => by simp at hd⟩
theorem DL.below (h : DL w v n) (hb : Below w.heap.size w w') : DL w' v n := by
  obtain ⟨ds, h1, h2, h3⟩ := h
  exact ⟨ds, h1.below hb, h2, fun d hd => ⟨(h3 d hd).1.below hb, (h3 d hd).2⟩⟩
theorem DL.tabled {t' : Nat} {v' : Value} {room' : Int} {l' : List RuleV} (h : DL w v n) (hT : TV w t' v' room' l') (hF : Fr2 t' v'.ownBlock w w') : DL w' v n := by
  obtain ⟨ds, h1, h2, h3⟩ := h
  refine ⟨ds, h1.keep fun k hk => ?_, h2, fun d hd => ⟨(h3 d hd).1.tabled hT hF, (h3 d hd).2⟩⟩
  obtain ⟨hlt, ys, hr⟩ := h1.lt k hk
  obtain ⟨its', hT', _⟩ := hT
  exact hF.block k hlt (vb_ne hr hT'.blk (by decide)) (fun e => by
    obtain ⟨_, us, hq⟩ := hT'.row.lt k e.symm
    exact vb_ne hr hq (by decide) rfl)
/-- One more call. -/
theorem DL.more {g c : Nat} {d : DoV} (ty : TypeId) (h : DL w v n) (hn : n ≤ 1000) (hv : Vb 50 w g (dcs d)) (hd : Ob w d.x ∧ MB d.x.r.x) :
    ∃ v' w', (Builtin.append_ #[46, 46] ty #[v, .slice (some ⟨g, 0, none⟩) 1 c]).run Try.prog w = .ok v' w' ∧ DL w' v' (n + 1) ∧ w.grownBy w' v.ownBlock ∧ (v'.ownBlock = v.ownBlock ∨ ∃ k, v'.ownBlock = some k ∧ w.heap.size ≤ k) := by
  obtain ⟨ds, h1, h2, h3⟩ := h
  have hg : Dos.Rowb w g [d] := by show Vb _ _ _ _; simpa using hv
  obtain ⟨v', w', e1, e2, e3, e4⟩ := Dos.run_appendR (c := c) ty h1 (⟨rfl, .inr ⟨g, 0, [d], by simp, hg, by simp, rfl⟩⟩ : Dos.SrcR w (some ⟨g, 0, none⟩) 1 [d]) (by omega)
  have key : ∀ x, Ob w x → Ob w' x := fun x hx => hx.keep e3.size (fun b cur hc => e3.block b (Array.getElem?_eq_some_iff.1 hc).1 (fun e => by
    obtain ⟨_, ys, hr⟩ := h1.lt b e.symm
    have hq : Vb 93 w b cur.toList := by simpa [Vb] using hc
    exact vb_ne hq hr (by decide) rfl))
  refine ⟨v', w', e1, ⟨ds ++ [d], e2, by simp [h2], fun x hx => ?_⟩, e3, e4⟩
  rcases List.mem_append.1 hx with hx | hx
  · exact ⟨key _ (h3 x hx).1, (h3 x hx).2⟩
  · simp at hx
    subst hx
    exact ⟨key _ hd.1, hd.2⟩
theorem TV.doed {room : Int} {l : List RuleV} {u : Value} {v2 : Value} (h : TV w t v room l) (hd : DL w v2 n) (hg : w.grownBy w' v2.ownBlock) : TV w' t v room l := by
  obtain ⟨its, hT, h2⟩ := h
  obtain ⟨ds, h1, _⟩ := hd
  have ne : ∀ (T : TypeId) g cs, T ≠ 50 → Vb T w g cs → w'.heap[g]? = w.heap[g]? := fun T g cs hn hv => hg.block g hv.lt (fun e => by
    obtain ⟨_, ys, hr⟩ := h1.lt g e.symm
    exact vb_ne hv hr hn rfl)
  refine ⟨its, ⟨(ne _ _ _ (by decide) hT.blk).trans hT.blk, hT.row.keep fun k hk => ?_, fun x hx => (hT.outs x hx).keep hg.size (fun b cur hc => ?_)⟩, h2⟩
  · obtain ⟨_, ys, hr⟩ := hT.row.lt k hk
    exact ne _ _ _ (by decide) hr
  · have hq : Vb 93 w b cur.toList := by simpa [Vb] using hc
    exact ne _ _ _ (by decide) hq
/-- The row as a parameter. -/
theorem DL.dq (h : DL w v n) (hn : n ≤ 1000) : ∃ A c ds, v = .slice A n c ∧ Dq w w.heap.size A n c ds := by
  obtain ⟨ds, h1, rfl, h3⟩ := h
  have hro : ∀ d ∈ ds, Ro w w.heap.size d.x.A d.x.r.os.length d.x.c d.x.r.os ∧ MB d.x.r.x := fun d hd => ⟨(h3 d hd).1.ro, (h3 d hd).2⟩
  rcases h1 with ⟨rfl, rfl⟩ | ⟨g, ys, rfl, hr, hm⟩
  · exact ⟨none, 0, [], rfl, rfl, Nat.le_refl _, Nat.zero_le _, fun _ => rfl, fun d hd => by simp at hd, fun hn => absurd hn (by simp)⟩
  · refine ⟨_, _, ds, rfl, rfl, by omega, hm, fun e => by simp at e, hro, fun hn => ⟨g, 0, rfl, Vb.lt hr, fun j d hj k u hk => ?_⟩⟩
    have hk28 : k < 28 := (List.getElem?_eq_some_iff.1 hk).1
    have hjz : (ds ++ ys)[j]? = some d := by rw [List.getElem?_append_left ((List.getElem?_eq_some_iff.1 hj).1)]; exact hj
    rw [Nat.zero_add]
    exact Vb.cell hr (j * 28 + k) ((Dos.fl_get (ds ++ ys) j k d hjz hk28).trans hk)
end
end Go.Proofs.Ytcolklkjaifplaa.Oct

namespace Go.Proofs.Ytcolklkjaifplaa.Oct
open Go.RowKit
set_option linter.unusedVariables false
set_option linter.unusedSimpArgs false
theorem z_still : addL 0 (ctlO 0 0) [] = [] := by unfold addL; rw [if_neg (by rw [z_none]; decide)]
theorem FL_still : addL 64 (datO 64 anyM 1) (FL 64) = FL 64 := by unfold addL; rw [if_neg (by rw [FL_full]; decide)]
theorem fr2_below {w w' : World} {t lo : Nat} {r : Option Nat} (h : Fr2 t r w w') (hl : lo ≤ w.heap.size) (ht : lo ≤ t) (hr : ∀ k, r = some k → lo ≤ k) : Below lo w w' := ⟨h.os, h.tape, h.output, h.size, fun k hk => h.block k (by omega) (by omega) (fun e => by have := hr k e.symm; omega)⟩
set_option maxRecDepth 100000 in
set_option maxHeartbeats 16000000 in
theorem tableKnown_walk (lo : Nat) (W : World) (hlo : W.heap.size = lo) : Calls Try.prog 3 #[] W fun e w' => e = .returned (.bool true) ∧ Below lo W w' := by
  have HLO := Kp.mk hlo
  have hB := Below.refl lo W
  clear hlo
  go_enter Try.func3, Try.ntmps3
  go_upto_region 3 with fail
  go_loopw [1, 2] (fun s1 s2 wr => ∃ (i : Nat) (a : Option Addr), s1 = .pointer a ∧ s2 = .int .i64 i ∧ i ≤ 2 ∧ NT wr a ∧ Below lo W wr) (fun s1 s2 _ => 2 - (intOf s2).toNat)
  case atStart => exact ⟨0, none, rfl, rfl, by omega, .inl rfl, hB⟩
  case round =>
  clear hB
  obtain ⟨i, a, rfl, rfl, hi, hN, hB⟩ := hrel
  by_cases hlt : (i : Int) < 2
  · go_upto_region 6 with fail
    refine (nt_control hN 0).mono ?_
    rintro e w' ⟨rfl, rfl⟩
    go_upto_region 7 with fail
    refine (nt_data hN).mono ?_
    rintro e w1 ⟨rfl, hb1⟩
    have hN1 := hN.below hb1
    have hB1 := hB.trans (hb1.mono (by have := HLO.out; have := hB.size; omega))
    clear hN hB hb1
    go_upto_region 7 with (refine wpList_store_new (vs := [.int .i64 0, .int .i64 0, .int .i64 0, .int .i64 0, .int .i64 0, .int .i64 0, .int .u8 0, .int .u8 0, .int .u8 0, .int .u8 0, .int .u8 0, .int .u8 0, .slice none 0 0]) rfl (.tmp 5) (.tmp 30) rfl rfl rfl rfl rfl rfl agg_rule rfl ?_; intro w2 hz2 hb2 hs2)
    have hN2 := hN1.below hb2
    have hB2 := hB1.trans (hb2.mono (by have := HLO.out; have := hB1.size; omega))
    clear hN1 hB1 hb2 hz2 hs2
    generalize w1.heap.size = g5 at *
    go_upto_region 8 with fail
    refine (nt_add hN2 0 0 0 0 0 0 0 0 0 0 0 0 none 0 0).mono ?_
    rintro e w3 ⟨rfl, hb⟩
    have hN3 := hN2.below hb
    have hB3 := hB2.trans (hb.mono (by have := HLO.out; have := hB2.size; omega))
    clear hN2 hB2 hb
    go_upto_region 8 with fail
    refine (nt_del hN3 0 0 0 0 0 0 0 0 0 0 0 0 none 0 0).mono ?_
    rintro e w4 ⟨rfl, hb⟩
    have hN4 := hN3.below hb
    have hB4 := hB3.trans (hb.mono (by have := HLO.out; have := hB3.size; omega))
    clear hN3 hB3 hb
    go_upto_region 8 with fail
    refine (anyM_any _).mono ?_
    rintro e w5 ⟨rfl, hb⟩
    have hN5 := hN4.below hb
    have hB5 := hB4.trans (hb.mono (by have := HLO.out; have := hB4.size; omega))
    clear hN4 hB4 hb
    go_upto_region 8 with fail
    refine (nt_loose hN5 0 (-1) 0 0 0 0 0 0).mono ?_
    rintro e w6 ⟨rfl, hb⟩
    have hN6 := hN5.below hb
    have hB6 := hB5.trans (hb.mono (by have := HLO.out; have := hB5.size; omega))
    clear hN5 hB5 hb
    go_upto_region 8 with fail
    refine (nt_wipe hN6).mono ?_
    rintro e w' ⟨rfl, rfl⟩
    go_upto_region 8 with fail
    refine (nt_len hN6).mono ?_
    rintro e w' ⟨rfl, rfl⟩
    go_upto_region 8 with fail
    refine (nt_room hN6).mono ?_
    rintro e w' ⟨rfl, rfl⟩
    go_upto_region 8 with fail
    refine (nt_rules hN6).mono ?_
    rintro e w' ⟨rfl, rfl⟩
    have HB7 := Kp.mk (fun (o : Obj) => (hB6.trans ((below_alloc _ o).mono (by have := HLO.out; have := hB6.size; omega))))
    clear hN6 hB6
    go_wp2_with fail
    go_roundw
    case rel => exact ⟨i + 1, _, rfl, by go_num, by omega, .inr ⟨_, rfl, Vb.new _ _ _⟩, HB7.out _⟩
    case measure => simp [intOf]; omega
  clear hN
  go_upto_region 11 with fail
  refine (new_no _ (-1) (by omega)).mono ?_
  rintro e w' ⟨rfl, rfl⟩
  go_upto_region 12 with fail
  refine (new_no _ 65 (by omega)).mono ?_
  rintro e w' ⟨rfl, rfl⟩
  go_wp2_with fail
  refine (tv_new _ 0 (by omega) (by omega)).mono ?_
  rintro e w1 ⟨rfl, hZ, hb1, hz1⟩
  obtain ⟨zb, hzb⟩ : ∃ zb, zb = w'.heap.size := ⟨_, rfl⟩
  rw [← hzb] at hZ ⊢
  have hB1 := hB.trans (hb1.mono (by have := HLO.out; have := hB.size; omega))
  have HZ1 := Kp.mk (show lo ≤ zb from by have := HLO.out; have := hB.size; rw [hzb]; omega)
  clear hb1 hz1 hzb hB hlt hi
  go_wp2_with fail
  refine (tv_new _ 64 (by omega) (by omega)).mono ?_
  rintro e w2 ⟨rfl, hT, hb2, hz2⟩
  obtain ⟨tb, htb⟩ : ∃ tb, tb = w1.heap.size := ⟨_, rfl⟩
  rw [← htb] at hT ⊢
  have hZ2 := hZ.below hb2
  have HL1 := Kp.mk (show lo ≤ w1.heap.size from by have := HLO.out; have := hB1.size; omega)
  have hB2 := hB1.trans (hb2.mono HL1.out)
  have HNE := Kp.mk (show zb ≠ tb ∧ lo ≤ tb by have := hZ.blk.lt; have := HL1.out; rw [htb]; omega)
  have HL2 := Kp.mk (Nat.le_trans HL1.out hb2.size)
  clear hZ hB1 hb2 hz2 htb HL1
  go_wp2_with fail
  refine (control_law 0 0 _).mono ?_
  rintro e w3 ⟨x, hxr, rfl, hxo, _, hb3⟩
  have hZ3 := hZ2.below hb3
  have hT3 := hT.below hb3
  have hB3 := hB2.trans (hb3.mono HL2.out)
  have HL3 := Kp.mk (Nat.le_trans HL2.out hb3.size)
  have HXR := Kp.mk hxr
  clear hZ2 hT hB2 hb3 HL2 hxr
  go_wp2_with fail
  refine (tv_adde2 (e0 := 90) hZ3 hxo (by rw [HXR.out]; decide) (by rw [HXR.out]; exact z_none)).mono ?_
  rintro e w4 ⟨rfl, ⟨vz, hZ4, hnz⟩, hF4⟩
  rw [HXR.out, z_still] at hZ4
  have hT4 := hT3.other hZ3 hF4 (fun e => HNE.out.1 e.symm) (fun k hk => by simp [Value.ownBlock] at hk)
  have hB4 := hB3.trans (fr2_below hF4 HL3.out HZ1.out (fun k hk => by simp [Value.ownBlock] at hk))
  have HL4 := Kp.mk (Nat.le_trans HL3.out hF4.size)
  have HV4 := Kp.mk (show ∀ k, vz.ownBlock = some k → lo ≤ k from fun k hk => by
    rcases hnz k hk with h | h
    · simp [Value.ownBlock] at h
    · exact Nat.le_trans HL3.out h)
  clear hZ3 hT3 hB3 HL3 HXR hxo hnz hF4
  go_wp2_with fail
  refine (tv_adde2 (e0 := 2) (x := zIt) hZ4 (Ob.zero _) (by decide) z_arg).mono ?_
  rintro e w5 ⟨rfl, _, hF5⟩
  have hT5 := hT4.other hZ4 hF5 (fun e => HNE.out.1 e.symm) (fun k hk => by simp [Value.ownBlock] at hk)
  have hB5 := hB4.trans (fr2_below hF5 HL4.out HZ1.out HV4.out)
  clear hZ4 hT4 hB4 HL4 HV4 hF5
  go_wp2_with fail
  go_loopw [15, 16] (fun s15 s16 wr => ∃ (i : Nat) (vf : Value), s16 = .int .i64 i ∧ i ≤ 64 ∧ TV wr tb vf 64 (FL i) ∧ Kp (∀ k, vf.ownBlock = some k → lo ≤ k) ∧ DL wr s15 i ∧ Kp (∀ k, s15.ownBlock = some k → lo ≤ k) ∧ Below lo W wr) (fun s15 s16 _ => 64 - (intOf s16).toNat)
  case atStart => exact ⟨0, _, rfl, by omega, hT5, ⟨fun k hk => by simp [Value.ownBlock] at hk⟩, DL.nil _, ⟨fun k hk => by simp [Value.ownBlock] at hk⟩, hB5⟩
  case round =>
  clear hT5 hB5
  obtain ⟨i, vf, rfl, hi, hT, hvf, hD, hvl, hB⟩ := hrel
  obtain ⟨A1, c1, ds1, rfl, -⟩ := hD.dq (by omega)
  have hlw := Kp.mk (show lo ≤ wr.heap.size from by have := HLO.out; have := hB.size; omega)
  by_cases hlt : (i : Int) < 64
  · go_wp2_with fail
    refine (anyM_any _).mono ?_
    rintro e w1 ⟨rfl, hb1⟩
    have hT1 := hT.below hb1
    have hD1 := hD.below hb1
    have hB1 := hB.trans (hb1.mono hlw.out)
    have hl1 := Kp.mk (Nat.le_trans hlw.out hb1.size)
    clear hT hD hB hlw hb1
    go_wp2_with fail
    refine (data_law i anyM 1 _).mono ?_
    rintro e w2 ⟨x, hxr, rfl, hxo, -, hb2⟩
    have HXR := Kp.mk hxr
    have hT2 := hT1.below hb2
    have hD2 := hD1.below hb2
    have hB2 := hB1.trans (hb2.mono hl1.out)
    have hl2 := Kp.mk (Nat.le_trans hl1.out hb2.size)
    clear hT1 hD1 hB1 hl1 hb2 hxr
    go_wp2_with fail
    refine (tv_adde2 (e0 := 0) hT2 hxo (by rw [HXR.out]; simp [datO]) (by rw [HXR.out]; exact FL_step i (by omega))).mono ?_
    rintro e w3 ⟨rfl, ⟨vg, hT3, hng⟩, hF3⟩
    have hT3 : TV w3 tb vg 64 (FL (i + 1)) := by rw [HXR.out] at hT3; exact hT3
    have hD3 := hD2.tabled hT2 hF3
    have hB3 := hB2.trans (fr2_below hF3 hl2.out HNE.out.2 hvf.out)
    have hl3 := Kp.mk (Nat.le_trans hl2.out hF3.size)
    have hvg := Kp.mk (show ∀ k, vg.ownBlock = some k → lo ≤ k from fun k hk => by
      rcases hng k hk with h | h
      · exact hvf.out k h
      · exact Nat.le_trans hl2.out h)
    clear hT2 hD2 hB2 hl2 hF3 hng hvf HXR hxo
    have hm8 := Kp.mk (show MB ⟨0, (i : Int) % 3 - 1, 0, 0, 0, 0, 0, 0⟩ from by simp [MB])
    go_wp2_with fail
    refine (data_law ((i : Int) % 5) ⟨0, (i : Int) % 3 - 1, 0, 0, 0, 0, 0, 0⟩ ((i : Int) % 5) _).mono ?_
    rintro e w4 ⟨y, hyr, rfl, hyo, -, hb4⟩
    have HYR := Kp.mk hyr
    have hT4 := hT3.below hb4
    have hD4 := hD3.below hb4
    have hB4 := hB3.trans (hb4.mono hl3.out)
    have hl4 := Kp.mk (Nat.le_trans hl3.out hb4.size)
    clear hT3 hD3 hB3 hl3 hb4 hyr
    rw [show (ics y).toArray = #[.int .i64 y.r.k, .int .i64 y.r.pr, .int .i64 y.r.to, .int .i64 y.r.po, .int .i64 y.r.x.v, .int .i64 y.r.x.m, .int .u8 y.r.x.b0, .int .u8 y.r.x.b1, .int .u8 y.r.x.b2, .int .u8 y.r.x.i0, .int .u8 y.r.x.i1, .int .u8 y.r.x.i2, .slice y.A y.r.os.length y.c] from rfl]
    obtain ⟨d, hd⟩ : ∃ d : DoV, d = ⟨(i : Int) % 3, (i : Int) % 8, y, ⟨(i : Int) % 2, -1, 0, 0, 0, 0, 0, 0⟩, (i : Int) % 3, (i : Int) % 4, 0, 0, 0⟩ := ⟨_, rfl⟩
    have hb5 := below_alloc w4 (.cells (dcs d).toArray 50)
    obtain ⟨v6, w6, hrun, hD6, hg6, hw6⟩ := DL.more (c := 1) 46 (hD4.below hb5) (by omega) (Vb.new 50 w4 (dcs d)) (by rw [show d.x = y by rw [hd]]; exact ⟨hyo.below hb5, by show MB y.r.x; rw [HYR.out]; exact hm8.out⟩)
    have hT6 := (hT4.below hb5).doed (u := v6) (hD4.below hb5) hg6
    have hB5 := hB4.trans (hb5.mono hl4.out)
    have hl5 := Kp.mk (Nat.le_trans hl4.out hb5.size)
    have hB6 := hB5.grown hg6 hl5.out (fun k hk => hvl.out k hk)
    have hv6 := Kp.mk (show ∀ k, v6.ownBlock = some k → lo ≤ k from fun k hk => by
      rcases hw6 with h | ⟨k2, h1, h2⟩
      · rw [h] at hk; exact hvl.out k hk
      · rw [h1] at hk; have := Option.some.inj hk; have := hl5.out; omega)
    obtain ⟨A6, c6, ds6, rfl, -⟩ := hD6.dq (by omega)
    clear hT4 hD4 hB4 hl4 hb5 hB5 hl5 hg6 hw6 hvl hm8 HYR
    rw [hd] at hrun
    clear hd d
    have hrun : (Builtin.append_ #[46, 46] 46 #[.slice A1 i c1, .slice (some ⟨w4.heap.size, 0, none⟩) 1 1]).run Try.prog (w4.alloc (.cells #[.int .i64 ((i : Int) % 3), .int .i64 ((i : Int) % 8), .int .i64 y.r.k, .int .i64 y.r.pr, .int .i64 y.r.to, .int .i64 y.r.po, .int .i64 y.r.x.v, .int .i64 y.r.x.m, .int .u8 y.r.x.b0, .int .u8 y.r.x.b1, .int .u8 y.r.x.b2, .int .u8 y.r.x.i0, .int .u8 y.r.x.i1, .int .u8 y.r.x.i2, .slice y.A y.r.os.length y.c, .int .i64 ((i : Int) % 2), .int .i64 (-1), .int .u8 0, .int .u8 0, .int .u8 0, .int .u8 0, .int .u8 0, .int .u8 0, .int .i64 ((i : Int) % 3), .int .i64 ((i : Int) % 4), .int .u8 0, .int .u8 0, .int .u8 0] 50)) = .ok (.slice A6 (i + 1) c6) w6 := hrun
    generalize y.r.os.length = yl at *
    go_wp2_with (at_builtin; refine Lib.wpList_append_run _ rfl _ _ _ _ rfl _ _ rfl rfl _ _ hrun ?_)
    go_roundw
    case rel => exact ⟨i + 1, vg, by go_num, by omega, hT6, hvg, hD6, hv6, hB6⟩
    case measure => simp [intOf]; omega
  · obtain rfl : i = 64 := by omega
    clear hlt hi hvl
    go_wp2_with fail
    refine (worksT_any _).mono ?_
    rintro e w1 ⟨rfl, hb1⟩
    have hT1 := hT.below hb1
    have hD1 := hD.below hb1
    have hB1 := hB.trans (hb1.mono hlw.out)
    have hl1 := Kp.mk (Nat.le_trans hlw.out hb1.size)
    clear hT hD hB hlw hb1
    go_wp2_with fail
    refine (anyM_any _).mono ?_
    rintro e a0 ⟨rfl, hb1⟩
    have hT2 := hT1.below hb1
    have hD2 := hD1.below hb1
    have hB2 := hB1.trans (hb1.mono hl1.out)
    have hl2 := Kp.mk (Nat.le_trans hl1.out hb1.size)
    clear hT1 hD1 hB1 hl1 hb1
    go_wp2_with fail
    refine (data_law 64 anyM 1 _).mono ?_
    rintro e b0 ⟨x0, hxr, rfl, hxo, -, hb2⟩
    have HXR := Kp.mk hxr
    have hT3 := hT2.below hb2
    have hD3 := hD2.below hb2
    have hB3 := hB2.trans (hb2.mono hl2.out)
    have hl3 := Kp.mk (Nat.le_trans hl2.out hb2.size)
    clear hT2 hD2 hB2 hl2 hb2 hxr
    go_wp2_with fail
    refine (tv_adde2 (e0 := 90) hT3 hxo (by rw [HXR.out]; simp [datO]) (by rw [HXR.out]; exact FL_full)).mono ?_
    rintro e c0 ⟨rfl, ⟨vg0, hT4, hng⟩, hF3⟩
    have hT1 : TV c0 tb vg0 64 (FL 64) := by rw [HXR.out, FL_still] at hT4; exact hT4
    have hD1 := hD3.tabled hT3 hF3
    have hB1 := hB3.trans (fr2_below hF3 hl3.out HNE.out.2 hvf.out)
    have hl1 := Kp.mk (Nat.le_trans hl3.out hF3.size)
    have hvf2 := Kp.mk (show ∀ k, vg0.ownBlock = some k → lo ≤ k from fun k hk => by
      rcases hng k hk with h | h
      · exact hvf.out k h
      · exact Nat.le_trans hl3.out h)
    clear hvf
    have hvf := hvf2
    clear hvf2
    clear hT3 hD3 hB3 hl3 hF3 hng hT4 HXR hxo
    go_wp2_with fail
    refine (anyM_any _).mono ?_
    rintro e a1 ⟨rfl, hb1⟩
    have hT2 := hT1.below hb1
    have hD2 := hD1.below hb1
    have hB2 := hB1.trans (hb1.mono hl1.out)
    have hl2 := Kp.mk (Nat.le_trans hl1.out hb1.size)
    clear hT1 hD1 hB1 hl1 hb1
    go_wp2_with fail
    refine (data_law 63 anyM 2 _).mono ?_
    rintro e b1 ⟨x1, hxr, rfl, hxo, -, hb2⟩
    have HXR := Kp.mk hxr
    have hT3 := hT2.below hb2
    have hD3 := hD2.below hb2
    have hB3 := hB2.trans (hb2.mono hl2.out)
    have hl3 := Kp.mk (Nat.le_trans hl2.out hb2.size)
    clear hT2 hD2 hB2 hl2 hb2 hxr
    go_wp2_with fail
    refine (tv_adde2 (e0 := 0) hT3 hxo (by rw [HXR.out]; simp [datO]) (by rw [HXR.out]; exact FL_stands)).mono ?_
    rintro e c1 ⟨rfl, ⟨vg1, hT4, hng⟩, hF3⟩
    have hD1 := hD3.tabled hT3 hF3
    have hB1 := hB3.trans (fr2_below hF3 hl3.out HNE.out.2 hvf.out)
    have hl1 := Kp.mk (Nat.le_trans hl3.out hF3.size)
    clear hT3 hD3 hB3 hl3 hF3 hng hT4 HXR hxo
    obtain ⟨A7, c7q, ds7q, hv7, hq7⟩ := hD1.dq (by omega)
    have htp := tablePlays_walk 64 _ _ _ _ _ _ rfl hq7
    injection hv7 with hvA hvn hvc
    subst hvA hvc
    go_wp2_with fail
    refine htp.mono ?_
    rintro e t0 ⟨rfl, hb1⟩
    have hD2 := hD1.below hb1
    have hB2 := hB1.trans (hb1.mono hl1.out)
    have hl2 := Kp.mk (Nat.le_trans hl1.out hb1.size)
    clear hD1 hB1 hl1 hb1 htp hq7 hvn
    have hD1 := hD2
    have hB1 := hB2
    have hl1 := hl2
    clear hD2 hB2 hl2
    obtain ⟨A8, c8q, ds8q, hv8, hq8⟩ := hD1.dq (by omega)
    have htp := tablePlays_walk 3 _ _ _ _ _ _ rfl hq8
    injection hv8 with hvA hvn hvc
    subst hvA hvc
    go_wp2_with fail
    refine htp.mono ?_
    rintro e t1 ⟨rfl, hb1⟩
    have hD2 := hD1.below hb1
    have hB2 := hB1.trans (hb1.mono hl1.out)
    have hl2 := Kp.mk (Nat.le_trans hl1.out hb1.size)
    clear hD1 hB1 hl1 hb1 htp hq8 hvn
    have hD1 := hD2
    have hB1 := hB2
    have hl1 := hl2
    clear hD2 hB2 hl2
    obtain ⟨A9, c9q, ds9q, hv9, hq9⟩ := hD1.dq (by omega)
    have htp := tablePlays_walk (-1) _ _ _ _ _ _ rfl hq9
    injection hv9 with hvA hvn hvc
    subst hvA hvc
    go_wp2_with fail
    refine htp.mono ?_
    rintro e t2 ⟨rfl, hb1⟩
    have hD2 := hD1.below hb1
    have hB2 := hB1.trans (hb1.mono hl1.out)
    have hl2 := Kp.mk (Nat.le_trans hl1.out hb1.size)
    clear hD1 hB1 hl1 hb1 htp hq9 hvn
    have hD1 := hD2
    have hB1 := hB2
    have hl1 := hl2
    clear hD2 hB2 hl2
    obtain ⟨A10, c10q, ds10q, hv10, hq10⟩ := hD1.dq (by omega)
    have htp := tablePlays_walk 65 _ _ _ _ _ _ rfl hq10
    injection hv10 with hvA hvn hvc
    subst hvA hvc
    go_wp2_with fail
    refine htp.mono ?_
    rintro e t3 ⟨rfl, hb1⟩
    have hD2 := hD1.below hb1
    have hB2 := hB1.trans (hb1.mono hl1.out)
    have hl2 := Kp.mk (Nat.le_trans hl1.out hb1.size)
    clear hD1 hB1 hl1 hb1 htp hq10 hvn
    have hD1 := hD2
    have hB1 := Kp.mk hB2
    have hl1 := hl2
    clear hD2 hB2 hl2
    go_wp2_with fail
    go_ret
    exact ⟨rfl, hB1.out⟩
theorem tableKnown_all (W : World) : Calls Try.prog 3 #[] W fun e w' => e = .returned (.bool true) ∧ Below W.heap.size W w' := tableKnown_walk W.heap.size W rfl
end Go.Proofs.Ytcolklkjaifplaa.Oct

namespace Go.Proofs.Ytcolklkjaifplaa.tableKnown
open Go.ChangeShapes Go.WideShapes Go.ChangeAt Go.RowKit
open Go.ChangeMaps (open_string shut_string)
set_option linter.unusedVariables false

set_option maxRecDepth 100000 in
theorem lifted (os : Os) (started : os.Started) (H : Type) (enc : TypeId × Value → H) :
    ReturnsInHanded {} Try.checked os 3 .any (Rows.tableKnownSpec.pre6 enc Try.prog Try.f3 Rows.tableKnownRow.domain false) (Rows.tableKnownSpec.post enc Try.prog Try.f3 false true false false) := by
  refine returnsInHanded_of_change (C := Try.checked) Frame.own started (by kernel_rfl) Try.func3
    (ChangeSpec.witness6 (enc := enc) (C := Try.checked) false ⟨#[], #[], []⟩ 8 (by kernel_rfl) (by kernel_rfl) (by kernel_rfl) (by kernel_rfl)) ?_
  intro W base args ds gs before hval0 hW hcnd _
  have hval : ∀ (j : Nat) t v, Try.f3.params[j]? = some t → args[j]? = some v → Value.okWide Try.prog W .any base t v := hval0
  have hW' := hW
  obtain ⟨p, q, hA0, hV, rfl, hfz, hnd⟩ := hW
  have hA : DataW.TrodAll enc Try.prog W 0 (fun _ => true) true Try.f3.params.toList args.toList ds p := hA0
  rw [Try.params3] at hA hval
  obtain ⟨hargs, rfl, rfl⟩ := trodAll_nil hA
  obtain rfl : args = #[] := by cases args; simp_all
  obtain ⟨rfl, rfl⟩ := trodVars_none hV
  clear hA0 hval0
  refine (Oct.tableKnown_all  W ).mono fun e W' ⟨he, bel⟩ => ?_
  subst he
  exact ⟨_, rfl, _, _, _, [], _, [], hW', trodAll_mk1 (shut_bool Try.underlying4 _), trodAll_mk0, rfl, bel.frame _, fun h => by cases h⟩

theorem over : Rows.tableKnownRow.holds Try.pinned (OpenSpec.ofChange Rows.tableKnownSpec) :=
  OpenClaim.holds_of_wide 3 Try.f3 rfl rfl rfl rfl rfl rfl rfl ⟨rfl, rfl, rfl, rfl, rfl⟩ rfl rfl rfl rfl rfl (by kernel_rfl) Try.func3 (by kernel_rfl)
    (of_decide_eq_true (by kernel_rfl)) (by unfold Func.isWrapper; first | (rw [if_pos (by decide +kernel)]; kernel_rfl) | (rw [if_neg (by decide +kernel)]; exact ⟨rfl, rfl⟩))
    (fun os started H enc _ => lifted os started H enc)

theorem proved : Rows.TableKnownSaid := over
#print axioms proved
end Go.Proofs.Ytcolklkjaifplaa.tableKnown
