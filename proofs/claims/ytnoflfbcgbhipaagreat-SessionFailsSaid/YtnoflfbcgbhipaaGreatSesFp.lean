import Derived.Test.YtnoflfbcgbhipaaGreatSesFx
set_option linter.unusedSimpArgs false
set_option linter.unusedVariables false
namespace Go.Proofs.YtnoflfbcgbhipaaGreat.Oct
open Go.RowKit
def gstep (t : Int) (y : Ls × Ps × List Sa) : Ls × Ps × List Sa :=
 match y.2.2 with
 | [] => (y.1.tick t, y.2.1, y.1.says t)
 | s :: _ => if s.t = 0 then ((y.1.take s.ms t).tick t, y.2.1, (y.1.take s.ms t).says t) else (y.1.tick t, y.2.1.take s.ms t, ((y.2.1.answers s.ms t).map fun z => z.ms.abs).toList ++ y.1.says t)
def gs : Nat → Ls × Ps × List Sa
 | 0 => ((⟨3, none⟩ : Ls).begin_ 1 0, ⟨3, 1, none⟩, [])
 | i + 1 => gstep ((i + 1 : Nat) : Int) (gs i)
def gok (i : Nat) : Bool := (gs i).1.e == 1 && (match (gs i).2.2 with
 | [] => true
 | [s] => if s.t = 0 then (tells ((gs i).1.gets s.ms ((i + 1 : Nat) : Int))).length == 0 else (tells ((gs i).2.1.gets s.ms ((i + 1 : Nat) : Int))).length == 0
 | _ => false)
def slF : Nat → Ls → Ls
 | 0, l => l
 | k + 1, l => (slF k l).send (barO (k : Nat))
def frs (t : Int) (i : Nat) (y : Ls × Nat × Nat) : Ls × Nat × Nat := (y.1.tick t, y.2.1 + (y.1.says t).length, if 0 < (y.1.says t).length then i else y.2.2)
def fr (l : Ls) (t0 : Nat) : Nat → Ls × Nat × Nat
 | 0 => (l, 0, 0)
 | i + 1 => frs ((t0 + (i + 1) : Nat) : Int) i (fr l t0 i)
def g0 (op : Bool) : Nat := if op then 12 else 0
def fin (op : Bool) (n : Nat) : Ls × Nat × Nat := fr (slF n (gs (g0 op)).1) (g0 op) 300
def wipeO : OrdV := ⟨1, 0, 0, noRule, 0, 0, 0, 0, 0⟩
def finOk (op : Bool) (n : Nat) : Bool :=
 (fin op n).1.failed && !(fin op n).1.opn && ((fin op n).2.1 == (if op then 9 * min n 4 else 8)) && decide ((fin op n).2.2 < 200) && ((fin op n).1.sendE wipeO == 180) && ((fin op n).1.begE 1 ((g0 op + 300 : Nat) : Int) == 130) && ((fin op n).1.begE 2 ((g0 op + 300 : Nat) : Int) == 0) && !((fin op n).1.begin_ 2 ((g0 op + 300 : Nat) : Int)).failed && (((fin op n).1.begin_ 2 ((g0 op + 300 : Nat) : Int)).left == 0)
section
set_option maxRecDepth 1000000
theorem gok_all : ((List.range 13).all gok) = true := by kernel_rfl
theorem fin_f1 : finOk false 1 = true := by kernel_rfl
theorem fin_f2 : finOk false 2 = true := by kernel_rfl
theorem fin_f3 : finOk false 3 = true := by kernel_rfl
theorem fin_f4 : finOk false 4 = true := by kernel_rfl
theorem fin_f5 : finOk false 5 = true := by kernel_rfl
theorem fin_f6 : finOk false 6 = true := by kernel_rfl
theorem fin_t1 : finOk true 1 = true := by kernel_rfl
theorem fin_t2 : finOk true 2 = true := by kernel_rfl
theorem fin_t3 : finOk true 3 = true := by kernel_rfl
theorem fin_t4 : finOk true 4 = true := by kernel_rfl
theorem fin_t5 : finOk true 5 = true := by kernel_rfl
theorem fin_t6 : finOk true 6 = true := by kernel_rfl
theorem fin_all (op : Bool) {n : Nat} (h1 : 1 ≤ n) (h2 : n ≤ 6) : finOk op n = true := by
 have h : n = 1 ∨ n = 2 ∨ n = 3 ∨ n = 4 ∨ n = 5 ∨ n = 6 := by omega
 cases op with
 | false =>
  rcases h with rfl | rfl | rfl | rfl | rfl | rfl
  ·exact fin_f1
  ·exact fin_f2
  ·exact fin_f3
  ·exact fin_f4
  ·exact fin_f5
  ·exact fin_f6
 | true =>
  rcases h with rfl | rfl | rfl | rfl | rfl | rfl
  ·exact fin_t1
  ·exact fin_t2
  ·exact fin_t3
  ·exact fin_t4
  ·exact fin_t5
  ·exact fin_t6
end
theorem gok_at {i : Nat} (h : i < 13) : gok i = true := List.all_eq_true.1 gok_all i (List.mem_range.2 h)
end Go.Proofs.YtnoflfbcgbhipaaGreat.Oct
