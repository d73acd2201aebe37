/- Plain mathematics of layer 1 (octet): digits, numbers, the sum. No Go in sight. -/
import Derived.Laws.BitsAllLaws
import Derived.Laws.BitsLemmas
import Derived.RowKit
namespace Go.Proofs.Ytomjnpjabfnlbaa.Oct
open Go.RowKit
set_option linter.unusedVariables false

/-- A fact kept from the walk, closed to unfolding. -/
structure Kp (p : Prop) : Prop where
  out : p

/-- All are bytes. -/
def By (l : List Int) : Prop := ∀ z ∈ l, 0 ≤ z ∧ z < 256
theorem By.nil : By [] := by intro z hz; cases hz
theorem By.cons {z : Int} {l : List Int} (h0 : 0 ≤ z ∧ z < 256) (h : By l) : By (z :: l) := by
  intro y hy; rcases List.mem_cons.1 hy with rfl | hy
  · exact h0
  · exact h y hy
theorem By.append {a b : List Int} (ha : By a) (hb : By b) : By (a ++ b) := by
  intro y hy; rcases List.mem_append.1 hy with h | h
  · exact ha y h
  · exact hb y h
theorem By.take {l : List Int} (h : By l) (n : Nat) : By (l.take n) := fun z hz => h z (List.mem_of_mem_take hz)
theorem By.drop {l : List Int} (h : By l) (n : Nat) : By (l.drop n) := fun z hz => h z (List.mem_of_mem_drop hz)
theorem By.getD {l : List Int} (h : By l) (k : Nat) : 0 ≤ l.getD k 0 ∧ l.getD k 0 < 256 := by
  rw [List.getD_eq_getElem?_getD]
  by_cases hk : k < l.length
  · rw [List.getElem?_eq_getElem hk]; exact h _ (List.getElem_mem _)
  · rw [List.getElem?_eq_none (by omega)]; simp

theorem take_snoc (l : List Int) (k : Nat) (h : k < l.length) : l.take (k + 1) = l.take k ++ [l.getD k 0] := by
  rw [List.take_succ_eq_append_getElem h, List.getD_eq_getElem?_getD, List.getElem?_eq_getElem h]; rfl

/-- One doubling of a sum. -/
def stepN (s : Nat) : Nat := (2 * s % 65536) ^^^ (s / 32768 * 4129)
def stepK : Nat → Nat → Nat
  | 0, s => s
  | k + 1, s => stepK k (stepN s)
theorem stepK_succ : ∀ k s, stepK (k + 1) s = stepN (stepK k s)
  | 0, s => rfl
  | k + 1, s => by show stepK (k + 1) (stepN s) = _; rw [stepK_succ k]; rfl
theorem stepN_lt (s : Nat) (h : s < 65536) : stepN s < 65536 := by
  unfold stepN
  have h1 : 2 * s % 65536 < 2 ^ 16 := by omega
  have h2 : s / 32768 * 4129 < 2 ^ 16 := by omega
  exact Nat.xor_lt_two_pow h1 h2
theorem stepK_lt : ∀ k s, s < 65536 → stepK k s < 65536
  | 0, s, h => h
  | k + 1, s, h => stepK_lt k _ (stepN_lt s h)
def crcByte (s : Nat) (b : Int) : Nat := stepK 8 (s ^^^ (b.toNat * 256))
def crcN (s : Nat) (l : List Int) : Nat := l.foldl crcByte s
def sumP (l : List Int) : Int := (crcN 65535 l : Nat)
theorem crcByte_lt (s : Nat) (b : Int) (h : s < 65536) (hb : 0 ≤ b ∧ b < 256) : crcByte s b < 65536 := by
  unfold crcByte
  refine stepK_lt _ _ ?_
  have h2 : b.toNat * 256 < 2 ^ 16 := by omega
  exact Nat.xor_lt_two_pow h h2
theorem crcN_lt : ∀ (l : List Int) (s : Nat), s < 65536 → By l → crcN s l < 65536
  | [], s, h, _ => h
  | b :: l, s, h, hl => crcN_lt l _ (crcByte_lt s b h (hl b (by simp))) (fun z hz => hl z (by simp [hz]))
theorem crcN_snoc (s : Nat) (l : List Int) (b : Int) : crcN s (l ++ [b]) = crcByte (crcN s l) b := by unfold crcN; simp
theorem crcN_append (s : Nat) (l m : List Int) : crcN s (l ++ m) = crcN (crcN s l) m := by unfold crcN; simp
theorem sumP_bd (l : List Int) (h : By l) : 0 ≤ sumP l ∧ sumP l < 65536 := by
  have := crcN_lt l 65535 (by omega) h
  unfold sumP; omega

theorem step_u16 (s : Nat) (h : s < 65536) : bits .xor .u16 (IntKind.u16.wrap ((s : Int) * 2)) ((s : Int) / 32768 * 4129) = ((stepN s : Nat) : Int) := by
  have e1 : IntKind.u16.wrap ((s : Int) * 2) = ((2 * s % 65536 : Nat) : Int) := by rw [IntKind.wrap_u16]; omega
  have e2 : (s : Int) / 32768 * 4129 = ((s / 32768 * 4129 : Nat) : Int) := by omega
  rw [e1, e2, u16_xor_nat _ _ (by omega) (by omega)]; rfl
theorem ofInt_i64' (a : Nat) (ha : a < 9223372036854775808) : (BitVec.ofInt 64 (a : Int)).toNat = a := by
  rw [BitVec.ofInt_natCast, BitVec.toNat_ofNat]; exact Nat.mod_eq_of_lt (by omega)
theorem xor_i64 (a b : Nat) (ha : a < 65536) (hb : b < 65536) : bits .xor .i64 (a : Int) (b : Int) = ((a ^^^ b : Nat) : Int) := by
  have hx : a ^^^ b < 2 ^ 16 := Nat.xor_lt_two_pow (by omega) (by omega)
  show IntKind.i64.wrap ((BitVec.ofInt 64 (a : Int) ^^^ BitVec.ofInt 64 (b : Int)).toNat : Int) = _
  rw [BitVec.toNat_xor, ofInt_i64' a (by omega), ofInt_i64' b (by omega), IntKind.wrap_i64]
  omega
theorem or_i64 (a b : Nat) (ha : a < 4503599627370496) (hb : b < 256) : bits .or .i64 ((a : Int) * 256) (b : Int) = ((a * 256 + b : Nat) : Int) := by
  have e : (a : Int) * 256 = ((a * 256 : Nat) : Int) := by omega
  have hx : (a * 256) ||| b = a * 256 + b := nat_join 8 _ _ (by omega) (by omega)
  rw [e]
  show IntKind.i64.wrap ((BitVec.ofInt 64 ((a * 256 : Nat) : Int) ||| BitVec.ofInt 64 (b : Int)).toNat : Int) = _
  rw [BitVec.toNat_or, ofInt_i64' (a * 256) (by omega), ofInt_i64' b (by omega), hx, IntKind.wrap_i64]
  omega
theorem step_i64_lo (s : Nat) (h : s < 32768) : (s : Int) * 2 = ((stepN s : Nat) : Int) := by
  have h1 : s / 32768 = 0 := by omega
  unfold stepN; rw [h1]; simp; omega
theorem step_i64_hi (s : Nat) (h : 32768 ≤ s) (h' : s < 65536) : bits .xor .i64 ((s : Int) * 2 - 65536) 4129 = ((stepN s : Nat) : Int) := by
  have e1 : (s : Int) * 2 - 65536 = ((2 * s % 65536 : Nat) : Int) := by omega
  have h1 : s / 32768 = 1 := by omega
  rw [e1, show (4129 : Int) = ((4129 : Nat) : Int) from rfl, xor_i64 _ _ (by omega) (by omega)]
  unfold stepN; rw [h1]
theorem byte_u16 (s : Nat) (b : Int) (hs : s < 65536) (hb : 0 ≤ b ∧ b < 256) : bits .xor .u16 (s : Int) (b * 256) = ((s ^^^ (b.toNat * 256) : Nat) : Int) := by
  have e : b * 256 = ((b.toNat * 256 : Nat) : Int) := by omega
  rw [e, u16_xor_nat _ _ hs (by omega)]
theorem byte_i64 (s : Nat) (b : Int) (hs : s < 65536) (hb : 0 ≤ b ∧ b < 256) : bits .xor .i64 (s : Int) (b * 256) = ((s ^^^ (b.toNat * 256) : Nat) : Int) := by
  have e : b * 256 = ((b.toNat * 256 : Nat) : Int) := by omega
  rw [e, xor_i64 _ _ hs (by omega)]
theorem byte_lt (s : Nat) (b : Int) (hs : s < 65536) (hb : 0 ≤ b ∧ b < 256) : s ^^^ (b.toNat * 256) < 65536 :=
  Nat.xor_lt_two_pow (n := 16) hs (by omega)

/-- The digits of n in base 256, the highest first. -/
def dg : Nat → Int → List Int
  | 0, _ => []
  | k + 1, n => (n / 2 ^ (8 * k)) % 256 :: dg k n
theorem dg_len : ∀ k n, (dg k n).length = k
  | 0, _ => rfl
  | k + 1, n => by simp [dg, dg_len k n]
theorem dg_by : ∀ k n, By (dg k n)
  | 0, _ => By.nil
  | k + 1, n => By.cons (by omega) (dg_by k n)
theorem dg_getD : ∀ (s : Nat) (x : Int) (k : Nat), k < s → (dg s x).getD k 0 = x / 2 ^ (8 * (s - 1 - k)) % 256
  | 0, _, _, h => by omega
  | s + 1, x, 0, _ => by simp [dg]
  | s + 1, x, k + 1, h => by
    have := dg_getD s x k (by omega)
    simp only [dg, List.getD_cons_succ, this]
    rw [show s - 1 - k = s + 1 - 1 - (k + 1) from by omega]
theorem dg_snoc (s : Nat) (x : Int) (k : Nat) (h : k < s) : (dg s x).take (k + 1) = (dg s x).take k ++ [x / 2 ^ (8 * (s - 1 - k)) % 256] := by
  rw [take_snoc _ _ (by rw [dg_len]; exact h), dg_getD s x k h]
/-- The number that digits in base 256 say. -/
def num (l : List Int) : Nat := l.foldl (fun n b => n * 256 + b.toNat) 0
theorem num_lt : ∀ (l : List Int), By l → num l < 256 ^ l.length := by
  intro l
  have key : ∀ (l : List Int) (a : Nat), By l → l.foldl (fun n b => n * 256 + b.toNat) a < (a + 1) * 256 ^ l.length := by
    intro l
    induction l with
    | nil => intro a _; simp
    | cons b l ih =>
      intro a h
      have hb := h b (by simp)
      refine Nat.lt_of_lt_of_le (ih _ (fun z hz => h z (by simp [hz]))) ?_
      rw [List.length_cons, Nat.pow_succ, Nat.mul_comm (256 ^ l.length) 256, ← Nat.mul_assoc]
      refine Nat.mul_le_mul_right _ ?_
      show a * 256 + b.toNat + 1 ≤ _
      omega
  intro h
  have := key l 0 h
  simpa [num] using this
theorem num_snoc (l : List Int) (b : Int) : num (l ++ [b]) = num l * 256 + b.toNat := by unfold num; simp
end Go.Proofs.Ytomjnpjabfnlbaa.Oct
