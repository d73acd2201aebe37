/- Words for layer 6: a block of whatever cells; a row of outputs. -/
import Derived.Test.YtcolklkjaifplaaOrdP
import Derived.Test.YtcolklkjaifplaaNb
import Derived.ChangeKeysEq
import Derived.Deep.Cut
import Derived.BigQuiet
namespace Go.Proofs.Ytcolklkjaifplaa.Oct
open Go.RowKit
set_option linter.unusedVariables false

/-- The slice (A, n, c) reads as the outputs os, and lies below block B. -/
def Ro (w : World) (B : Nat) (A : Option Addr) (n c : Nat) (os : List OutV) : Prop :=
  os.length = n ∧ n ≤ c ∧ c ≤ maxLen ∧ (A = none → c = 0) ∧
  (0 < n → ∃ b off, A = some ⟨b, off, none⟩ ∧ b < B ∧ ∀ j o, os[j]? = some o → w.cell? ⟨b, off + j * 4, none⟩ = some (.int .i64 o.p) ∧ w.cell? ⟨b, off + j * 4 + 1, none⟩ = some (.int .i64 o.a) ∧ w.cell? ⟨b, off + j * 4 + 2, none⟩ = some (.int .i64 o.b) ∧ w.cell? ⟨b, off + j * 4 + 3, none⟩ = some (.int .i64 o.c))
section
variable {w w' : World} {B B' : Nat} {A : Option Addr} {n c : Nat} {os : List OutV}
theorem Ro.len (h : Ro w B A n c os) : os.length = n := h.1
theorem Ro.le (h : Ro w B A n c os) : n ≤ c := h.2.1
theorem Ro.cap (h : Ro w B A n c os) : c ≤ maxLen := h.2.2.1
theorem Ro.max (h : Ro w B A n c os) : (n : Int) ≤ 9223372036854775807 := by have := h.2.1; have := h.2.2.1; unfold maxLen at this; omega
theorem Ro.at_ (h : Ro w B A n c os) (hn : 0 < n) : ∃ b off, A = some ⟨b, off, none⟩ ∧ b < B ∧ ∀ j o, os[j]? = some o → w.cell? ⟨b, off + j * 4, none⟩ = some (.int .i64 o.p) ∧ w.cell? ⟨b, off + j * 4 + 1, none⟩ = some (.int .i64 o.a) ∧ w.cell? ⟨b, off + j * 4 + 2, none⟩ = some (.int .i64 o.b) ∧ w.cell? ⟨b, off + j * 4 + 3, none⟩ = some (.int .i64 o.c) := h.2.2.2.2 hn
theorem Ro.keep (h : Ro w B A n c os) (hk : ∀ b o, b < B → w'.cell? ⟨b, o, none⟩ = w.cell? ⟨b, o, none⟩) : Ro w' B A n c os :=
  ⟨h.1, h.2.1, h.2.2.1, h.2.2.2.1, fun hn => by
    obtain ⟨b, off, e, hb, hc⟩ := h.at_ hn
    refine ⟨b, off, e, hb, fun j o hj => ?_⟩
    rw [hk b _ hb, hk b _ hb, hk b _ hb, hk b _ hb]
    exact hc j o hj⟩
theorem Ro.below (h : Ro w B A n c os) (hb : Below B w w') : Ro w' B A n c os := h.keep fun b o hlt => hb.cell (p := ⟨b, o, none⟩) hlt
theorem Ro.below' (h : Ro w B A n c os) (hb : Below B' w w') (hB : B ≤ B') : Ro w' B A n c os := h.below (hb.mono hB)
theorem Ro.more (h : Ro w B A n c os) (hB : B ≤ B') : Ro w B' A n c os :=
  ⟨h.1, h.2.1, h.2.2.1, h.2.2.2.1, fun hn => by
    obtain ⟨b, off, e, hb, hc⟩ := h.at_ hn
    exact ⟨b, off, e, by omega, hc⟩⟩
theorem Ro.nil (w : World) (B : Nat) : Ro w B none 0 0 [] := ⟨rfl, Nat.le_refl _, Nat.zero_le _, fun _ => rfl, fun h => absurd h (by omega)⟩
theorem Ro.pre (h : Ro w B A n c os) (k : Nat) (hk : k ≤ n) : Ro w B A k c (os.take k) :=
  ⟨by rw [List.length_take, h.len]; omega, by have := h.le; omega, h.cap, h.2.2.2.1, fun hn => by
    obtain ⟨b, off, e, hb, hc⟩ := h.at_ (by omega)
    refine ⟨b, off, e, hb, fun j o hj => hc j o ?_⟩
    rw [List.getElem?_take] at hj
    split at hj
    · exact hj
    · simp at hj⟩
theorem Ro.drew (h : Ro w B A n c os) : Ro w.drew B A n c os := h.below (Below.refl _ _).drew
end

/-- Whether two headers are alike, as Go asks it. -/
theorem eq_header (a b c x y z : Int) (w : World) :
    (Op.equalIn 9999 26 (.agg #[.int .u8 a, .int .u8 b, .int .u8 c]) (.agg #[.int .u8 x, .int .u8 y, .int .u8 z])).run Try.prog w = .ok (a == x && (b == y && c == z)) w := by
  obtain ⟨i0, hi, hz0, hz1, hz2⟩ := info_parts info_u8
  have hc : Try.prog.cellsOf 5 = 1 := by kernel_rfl
  have hp : Try.prog.plainKey 5 = true := by kernel_rfl
  have hq : ∀ (p q : Int), (Op.equalIn 9998 5 (.int .u8 p) (.int .u8 q)).run Try.prog w = .ok (p == q) w := fun p q => run_equalIn_int w 9997 _ _ _ p q Try.underlying5
  rw [show (9999 : Nat) = 9998 + 1 from rfl, run_equalIn_array w 9998 _ _ Try.underlying26 hi, hc, show List.range 3 = [0, 1, 2] from rfl]
  have p0 : ∀ (u v t : Value), (part 5 #[u, v, t] 0).run Try.prog w = .ok u w := fun u v t => run_part_plain w hp rfl
  have p1 : ∀ (u v t : Value), (part 5 #[u, v, t] 1).run Try.prog w = .ok v w := fun u v t => run_part_plain w hp rfl
  have p2 : ∀ (u v t : Value), (part 5 #[u, v, t] 2).run Try.prog w = .ok t w := fun u v t => run_part_plain w hp rfl
  by_cases e1 : a == x
  · by_cases e2 : b == y
    · by_cases e3 : c == z
      · simp [Op.eqItems, p0, p1, p2, hq, e1, e2, e3]
      · simp [Op.eqItems, p0, p1, p2, hq, e1, e2, e3]
    · simp [Op.eqItems, p0, p1, hq, e1, e2]
  · simp [Op.eqItems, p0, hq, e1]
/-- Bools that say what may be. -/
def inB (n a b : Int) : Bool := decide (within n a b)
def okOB (o : OutV) : Bool := inB o.p 0 4 && (inB o.a (-1) 255 && (inB o.b (-1) 255 && inB o.c (-1) 255))
theorem inB_iff (n a b : Int) : inB n a b = true ↔ within n a b := by unfold inB; simp
theorem okOB_iff (o : OutV) : okOB o = true ↔ okO o := by unfold okOB okO; simp [inB_iff]
def outsB (os : List OutV) : Bool := decide (os.length ≤ 8) && os.all okOB
theorem outsB_iff (os : List OutV) : outsB os = true ↔ (os.length ≤ 8 ∧ ∀ o ∈ os, okO o) := by unfold outsB; simp [okOB_iff]
def coverB (x : MaskV) : Bool := (clr x.i0 x.b0 == 0) && ((clr x.i1 x.b1 == 0) && (clr x.i2 x.b2 == 0))
def zeroMB (x : MaskV) : Bool := decide (zeroM x)
theorem checkM_zero (x : MaskV) : checkM x = 0 ↔ okM x := by
  unfold checkM; split
  · rename_i h; exact ⟨fun _ => h, fun _ => rfl⟩
  · rename_i h; exact ⟨fun e => by omega, fun e => absurd e h⟩
theorem checkR_zero (x : RuleV) : checkR x = 0 ↔ okR x := by
  unfold checkR; split
  · rename_i h; exact ⟨fun _ => h, fun _ => rfl⟩
  · rename_i h; exact ⟨fun e => by omega, fun e => absurd e h⟩
theorem checkO_zero (x : OrdV) : checkO x = 0 ↔ okOrd x := by
  unfold checkO; split
  · rename_i h; exact ⟨fun _ => h, fun _ => rfl⟩
  · rename_i h; exact ⟨fun e => by omega, fun e => absurd e h⟩
def dataBo (r : RuleV) : Bool := (r.k == 1) && (inB r.pr 0 65535 && ((r.to == 0) && ((r.po == 0) && ((checkM r.x == 0) && outsB r.os))))
def ctlBo (r : RuleV) : Bool := (r.k == 2) && (inB r.to 0 6 && (inB r.po 0 4 && ((r.pr == 0) && (zeroMB r.x && ((r.os.length : Int) == 0)))))
def noneBo (r : RuleV) : Bool := (r.k == 0) && ((r.pr == 0) && ((r.to == 0) && ((r.po == 0) && (zeroMB r.x && ((r.os.length : Int) == 0)))))
theorem dataBo_iff (r : RuleV) : dataBo r = true ↔ okData r := by unfold dataBo okData; simp [inB_iff, outsB_iff, checkM_zero]
theorem ctlBo_iff (r : RuleV) : ctlBo r = true ↔ okCtl r := by unfold ctlBo okCtl zeroMB; simp only [Bool.and_eq_true, inB_iff, beq_iff_eq, decide_eq_true_eq, Int.natCast_eq_zero]
theorem noneBo_iff (r : RuleV) : noneBo r = true ↔ zeroR r := by unfold noneBo zeroR zeroMB; simp only [Bool.and_eq_true, beq_iff_eq, decide_eq_true_eq, Int.natCast_eq_zero]
theorem checkR_Bo (r : RuleV) : checkR r = if (dataBo r || ctlBo r) = true then 0 else 2 := by
  unfold checkR
  have h : ((dataBo r || ctlBo r) = true) ↔ okR r := by rw [Bool.or_eq_true, dataBo_iff, ctlBo_iff]; rfl
  by_cases hh : okR r
  · rw [if_pos hh, if_pos (h.2 hh)]
  · rw [if_neg hh, if_neg (fun e => hh (h.1 e))]
theorem okM_Bo (x : MaskV) : okM x ↔ (inB x.v 0 200 = true ∧ inB x.m (-1) 4 = true ∧ coverB x = true) := by unfold okM coverB; simp [inB_iff]
/-- Whether two matches, outputs, probes are alike, as Go asks it. -/
def eqMB (x y : MaskV) : Bool := (x.v == y.v) && ((x.m == y.m) && ((x.b0 == y.b0 && (x.b1 == y.b1 && x.b2 == y.b2)) && (x.i0 == y.i0 && (x.i1 == y.i1 && x.i2 == y.i2))))
def eqOB (x y : OutV) : Bool := (x.p == y.p) && (x.a == y.a && (x.b == y.b && x.c == y.c))
def eqQB (f p t q n f' p' t' q' n' : Int) : Bool := (f == f') && ((p == p') && ((t == t') && ((q == q') && (n == n'))))
theorem eq_mask (x y : MaskV) (w : World) : (Op.equalIn 10000 28 (.agg #[.int .i64 x.v, .int .i64 x.m, .int .u8 x.b0, .int .u8 x.b1, .int .u8 x.b2, .int .u8 x.i0, .int .u8 x.i1, .int .u8 x.i2]) (.agg #[.int .i64 y.v, .int .i64 y.m, .int .u8 y.b0, .int .u8 y.b1, .int .u8 y.b2, .int .u8 y.i0, .int .u8 y.i1, .int .u8 y.i2])).run Try.prog w = .ok (eqMB x y) w := by
  have hS : Try.prog.underlying 28 = some (.struct (Try.prog.fieldsOf 28)) := by kernel_rfl
  have hp : Try.prog.stoodInHeld 28 = false := by kernel_rfl
  rw [show (10000 : Nat) = 9999 + 1 from rfl, run_equalIn_agg w 9999 28 _ _ hS hp]
  have e1 := fun w => eq_header x.b0 x.b1 x.b2 y.b0 y.b1 y.b2 w
  have e2 := fun w => eq_header x.i0 x.i1 x.i2 y.i0 y.i1 y.i2 w
  simp only [Program.fieldsOf, Try.underlying28]
  go_simp
  unfold eqMB
  by_cases h0 : x.v = y.v
  rotate_left
  · simp [h0]
  by_cases h1 : x.m = y.m
  rotate_left
  · simp [h0, h1]
  by_cases h2 : x.b0 = y.b0
  rotate_left
  · simp [h0, h1, h2]
  by_cases h3 : x.b1 = y.b1
  rotate_left
  · simp [h0, h1, h2, h3]
  by_cases h4 : x.b2 = y.b2
  rotate_left
  · simp [h0, h1, h2, h3, h4]
  by_cases h5 : x.i0 = y.i0
  rotate_left
  · simp [h0, h1, h2, h3, h4, h5]
  by_cases h6 : x.i1 = y.i1
  rotate_left
  · simp [h0, h1, h2, h3, h4, h5, h6]
  by_cases h7 : x.i2 = y.i2
  rotate_left
  · simp [h0, h1, h2, h3, h4, h5, h6, h7]
  simp [h0, h1, h2, h3, h4, h5, h6, h7]
theorem eq_set (a b c x y z : Int) (w : World) :
    (Op.equalIn 9999 91 (.agg #[.int .i64 a, .int .i64 b, .int .i64 c]) (.agg #[.int .i64 x, .int .i64 y, .int .i64 z])).run Try.prog w = .ok (a == x && (b == y && c == z)) w := by
  have hi0 : (Try.prog.info? 3).map (fun i => (i.zero, i.size, i.bytes)) = some (some (.int .i64 0), 1, 8) := by kernel_rfl
  obtain ⟨i0, hi, hz0, hz1, hz2⟩ := info_parts hi0
  have hc : Try.prog.cellsOf 3 = 1 := by kernel_rfl
  have hp : Try.prog.plainKey 3 = true := by kernel_rfl
  have hq : ∀ (p q : Int), (Op.equalIn 9998 3 (.int .i64 p) (.int .i64 q)).run Try.prog w = .ok (p == q) w := fun p q => run_equalIn_int w 9997 _ _ _ p q Try.underlying3
  rw [show (9999 : Nat) = 9998 + 1 from rfl, run_equalIn_array w 9998 _ _ Try.underlying91 hi, hc, show List.range 3 = [0, 1, 2] from rfl]
  have p0 : ∀ (u v t : Value), (part 3 #[u, v, t] 0).run Try.prog w = .ok u w := fun u v t => run_part_plain w hp rfl
  have p1 : ∀ (u v t : Value), (part 3 #[u, v, t] 1).run Try.prog w = .ok v w := fun u v t => run_part_plain w hp rfl
  have p2 : ∀ (u v t : Value), (part 3 #[u, v, t] 2).run Try.prog w = .ok t w := fun u v t => run_part_plain w hp rfl
  by_cases e1 : a == x
  · by_cases e2 : b == y
    · by_cases e3 : c == z
      · simp [Op.eqItems, p0, p1, p2, hq, e1, e2, e3]
      · simp [Op.eqItems, p0, p1, p2, hq, e1, e2, e3]
    · simp [Op.eqItems, p0, p1, hq, e1, e2]
  · simp [Op.eqItems, p0, hq, e1]
theorem eq_out (x y : OutV) (w : World) : (Op.equalIn 10000 93 (.agg #[.int .i64 x.p, .int .i64 x.a, .int .i64 x.b, .int .i64 x.c]) (.agg #[.int .i64 y.p, .int .i64 y.a, .int .i64 y.b, .int .i64 y.c])).run Try.prog w = .ok (eqOB x y) w := by
  have hS : Try.prog.underlying 93 = some (.struct (Try.prog.fieldsOf 93)) := by kernel_rfl
  have hp : Try.prog.stoodInHeld 93 = false := by kernel_rfl
  rw [show (10000 : Nat) = 9999 + 1 from rfl, run_equalIn_agg w 9999 93 _ _ hS hp]
  have e1 := fun w => eq_set x.a x.b x.c y.a y.b y.c w
  simp only [Program.fieldsOf, Try.underlying93]
  go_simp
  unfold eqOB
  by_cases h0 : x.p = y.p
  rotate_left
  · simp [h0]
  by_cases h1 : x.a = y.a
  rotate_left
  · simp [h0, h1]
  by_cases h2 : x.b = y.b
  rotate_left
  · simp [h0, h1, h2]
  by_cases h3 : x.c = y.c
  rotate_left
  · simp [h0, h1, h2, h3]
  simp [h0, h1, h2, h3]
theorem eqMB_no (x : MaskV) : eqMB x noMask = zeroMB x := by
  unfold eqMB zeroMB noMask
  rw [Bool.eq_iff_iff, decide_eq_true_iff]
  unfold zeroM
  simp only [Bool.and_eq_true, beq_iff_eq]
  constructor
  · rintro ⟨h1, h2, ⟨h3, h4, h5⟩, h6, h7, h8⟩; exact ⟨h1, h2, h3, h4, h5, h6, h7, h8⟩
  · rintro ⟨h1, h2, h3, h4, h5, h6, h7, h8⟩; exact ⟨h1, h2, ⟨h3, h4, h5⟩, h6, h7, h8⟩
theorem eqMB_iff (x y : MaskV) : eqMB x y = true ↔ x = y := by
  obtain ⟨v, m, b0, b1, b2, i0, i1, i2⟩ := x
  obtain ⟨v', m', b0', b1', b2', i0', i1', i2'⟩ := y
  unfold eqMB
  simp only [Bool.and_eq_true, beq_iff_eq, MaskV.mk.injEq]
  constructor
  · rintro ⟨h1, h2, ⟨h3, h4, h5⟩, h6, h7, h8⟩; exact ⟨h1, h2, h3, h4, h5, h6, h7, h8⟩
  · rintro ⟨h1, h2, h3, h4, h5, h6, h7, h8⟩; exact ⟨h1, h2, ⟨h3, h4, h5⟩, h6, h7, h8⟩
theorem eqOB_iff (x y : OutV) : eqOB x y = true ↔ x = y := by
  obtain ⟨p, a, b, c⟩ := x
  obtain ⟨p', a', b', c'⟩ := y
  unfold eqOB
  simp only [Bool.and_eq_true, beq_iff_eq, OutV.mk.injEq]
theorem eqQB_iff (f p t q n f' p' t' q' n' : Int) : eqQB f p t q n f' p' t' q' n' = true ↔ (f = f' ∧ p = p' ∧ t = t' ∧ q = q' ∧ n = n') := by
  unfold eqQB
  simp only [Bool.and_eq_true, beq_iff_eq]
theorem Vb.c3 {T : TypeId} {w : World} {g : Nat} {a0 a1 a2 : Value} (h : Vb T w g [a0, a1, a2]) : w.cell? ⟨g, 0, none⟩ = some a0 ∧ w.cell? ⟨g, 1, none⟩ = some a1 ∧ w.cell? ⟨g, 2, none⟩ = some a2 :=
  ⟨h.cell 0 rfl, h.cell 1 rfl, h.cell 2 rfl⟩
theorem Vb.c4 {T : TypeId} {w : World} {g : Nat} {a0 a1 a2 a3 : Value} (h : Vb T w g [a0, a1, a2, a3]) : w.cell? ⟨g, 0, none⟩ = some a0 ∧ w.cell? ⟨g, 1, none⟩ = some a1 ∧ w.cell? ⟨g, 2, none⟩ = some a2 ∧ w.cell? ⟨g, 3, none⟩ = some a3 :=
  ⟨h.cell 0 rfl, h.cell 1 rfl, h.cell 2 rfl, h.cell 3 rfl⟩
theorem Vb.c5 {T : TypeId} {w : World} {g : Nat} {a0 a1 a2 a3 a4 : Value} (h : Vb T w g [a0, a1, a2, a3, a4]) : w.cell? ⟨g, 0, none⟩ = some a0 ∧ w.cell? ⟨g, 1, none⟩ = some a1 ∧ w.cell? ⟨g, 2, none⟩ = some a2 ∧ w.cell? ⟨g, 3, none⟩ = some a3 ∧ w.cell? ⟨g, 4, none⟩ = some a4 :=
  ⟨h.cell 0 rfl, h.cell 1 rfl, h.cell 2 rfl, h.cell 3 rfl, h.cell 4 rfl⟩
theorem Vb.c8 {T : TypeId} {w : World} {g : Nat} {a0 a1 a2 a3 a4 a5 a6 a7 : Value} (h : Vb T w g [a0, a1, a2, a3, a4, a5, a6, a7]) : w.cell? ⟨g, 0, none⟩ = some a0 ∧ w.cell? ⟨g, 1, none⟩ = some a1 ∧ w.cell? ⟨g, 2, none⟩ = some a2 ∧ w.cell? ⟨g, 3, none⟩ = some a3 ∧ w.cell? ⟨g, 4, none⟩ = some a4 ∧ w.cell? ⟨g, 5, none⟩ = some a5 ∧ w.cell? ⟨g, 6, none⟩ = some a6 ∧ w.cell? ⟨g, 7, none⟩ = some a7 :=
  ⟨h.cell 0 rfl, h.cell 1 rfl, h.cell 2 rfl, h.cell 3 rfl, h.cell 4 rfl, h.cell 5 rfl, h.cell 6 rfl, h.cell 7 rfl⟩
theorem Vb.c13 {T : TypeId} {w : World} {g : Nat} {a0 a1 a2 a3 a4 a5 a6 a7 a8 a9 a10 a11 a12 : Value} (h : Vb T w g [a0, a1, a2, a3, a4, a5, a6, a7, a8, a9, a10, a11, a12]) : w.cell? ⟨g, 0, none⟩ = some a0 ∧ w.cell? ⟨g, 1, none⟩ = some a1 ∧ w.cell? ⟨g, 2, none⟩ = some a2 ∧ w.cell? ⟨g, 3, none⟩ = some a3 ∧ w.cell? ⟨g, 4, none⟩ = some a4 ∧ w.cell? ⟨g, 5, none⟩ = some a5 ∧ w.cell? ⟨g, 6, none⟩ = some a6 ∧ w.cell? ⟨g, 7, none⟩ = some a7 ∧ w.cell? ⟨g, 8, none⟩ = some a8 ∧ w.cell? ⟨g, 9, none⟩ = some a9 ∧ w.cell? ⟨g, 10, none⟩ = some a10 ∧ w.cell? ⟨g, 11, none⟩ = some a11 ∧ w.cell? ⟨g, 12, none⟩ = some a12 :=
  ⟨h.cell 0 rfl, h.cell 1 rfl, h.cell 2 rfl, h.cell 3 rfl, h.cell 4 rfl, h.cell 5 rfl, h.cell 6 rfl, h.cell 7 rfl, h.cell 8 rfl, h.cell 9 rfl, h.cell 10 rfl, h.cell 11 rfl, h.cell 12 rfl⟩
theorem Vb.c21 {T : TypeId} {w : World} {g : Nat} {a0 a1 a2 a3 a4 a5 a6 a7 a8 a9 a10 a11 a12 a13 a14 a15 a16 a17 a18 a19 a20 : Value} (h : Vb T w g [a0, a1, a2, a3, a4, a5, a6, a7, a8, a9, a10, a11, a12, a13, a14, a15, a16, a17, a18, a19, a20]) : w.cell? ⟨g, 0, none⟩ = some a0 ∧ w.cell? ⟨g, 1, none⟩ = some a1 ∧ w.cell? ⟨g, 2, none⟩ = some a2 ∧ w.cell? ⟨g, 3, none⟩ = some a3 ∧ w.cell? ⟨g, 4, none⟩ = some a4 ∧ w.cell? ⟨g, 5, none⟩ = some a5 ∧ w.cell? ⟨g, 6, none⟩ = some a6 ∧ w.cell? ⟨g, 7, none⟩ = some a7 ∧ w.cell? ⟨g, 8, none⟩ = some a8 ∧ w.cell? ⟨g, 9, none⟩ = some a9 ∧ w.cell? ⟨g, 10, none⟩ = some a10 ∧ w.cell? ⟨g, 11, none⟩ = some a11 ∧ w.cell? ⟨g, 12, none⟩ = some a12 ∧ w.cell? ⟨g, 13, none⟩ = some a13 ∧ w.cell? ⟨g, 14, none⟩ = some a14 ∧ w.cell? ⟨g, 15, none⟩ = some a15 ∧ w.cell? ⟨g, 16, none⟩ = some a16 ∧ w.cell? ⟨g, 17, none⟩ = some a17 ∧ w.cell? ⟨g, 18, none⟩ = some a18 ∧ w.cell? ⟨g, 19, none⟩ = some a19 ∧ w.cell? ⟨g, 20, none⟩ = some a20 :=
  ⟨h.cell 0 rfl, h.cell 1 rfl, h.cell 2 rfl, h.cell 3 rfl, h.cell 4 rfl, h.cell 5 rfl, h.cell 6 rfl, h.cell 7 rfl, h.cell 8 rfl, h.cell 9 rfl, h.cell 10 rfl, h.cell 11 rfl, h.cell 12 rfl, h.cell 13 rfl, h.cell 14 rfl, h.cell 15 rfl, h.cell 16 rfl, h.cell 17 rfl, h.cell 18 rfl, h.cell 19 rfl, h.cell 20 rfl⟩
/-- Values that are stored one behind the other into block g, from cell o on. -/
def putC (w : World) (g : Nat) : Nat → List Value → World
  | _, [] => w
  | o, v :: vs => putC (w.setCell ⟨g, o, none⟩ v) g (o + 1) vs
def setAll (cs : List Value) : Nat → List Value → List Value
  | _, [] => cs
  | o, v :: vs => setAll (cs.set o v) (o + 1) vs
theorem putC_grown (g : Nat) : ∀ (vs : List Value) (w : World) (o : Nat), w.grownBy (putC w g o vs) (some g)
  | [], w, o => World.grownBy.refl _ _
  | v :: vs, w, o => grown_trans2 (grownBy_set w g o v) (putC_grown g vs _ _)
theorem Vb.putC {T : TypeId} {g : Nat} : ∀ (vs : List Value) {w : World} {cs : List Value} (o : Nat), Vb T w g cs → Vb T (Oct.putC w g o vs) g (setAll cs o vs)
  | [], _, _, _, h => h
  | v :: vs, _, _, o, h => Vb.putC vs (o + 1) (h.set o v)
theorem putC_size (g : Nat) (vs : List Value) (w : World) (o : Nat) : (putC w g o vs).heap.size = w.heap.size := by
  induction vs generalizing w o with
  | nil => rfl
  | cons v vs ih => rw [putC, ih]; simp [World.setCell]
theorem putC_below {B g : Nat} {w0 : World} (hg : B ≤ g) : ∀ (vs : List Value) {w : World} (o : Nat), Below B w0 w → Below B w0 (putC w g o vs)
  | [], _, _, h => h
  | v :: vs, _, o, h => putC_below hg vs (o + 1) (h.setCell (by simpa using hg) v)
end Go.Proofs.Ytcolklkjaifplaa.Oct
