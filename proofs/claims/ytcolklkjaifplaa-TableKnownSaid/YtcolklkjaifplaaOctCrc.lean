/- Plain mathematics: the sum is linear, and sees bits that are turned within 16 in a row. No Go in sight. -/
import Derived.Test.YtcolklkjaifplaaOctP
namespace Go.Proofs.Ytcolklkjaifplaa.Oct
open Go.RowKit
set_option linter.unusedVariables false

theorem stepN_xor (a b : Nat) (ha : a < 65536) (hb : b < 65536) : stepN (a ^^^ b) = stepN a ^^^ stepN b := by
  unfold stepN
  have h1 : 2 * (a ^^^ b) = (2 * a) ^^^ (2 * b) := by
    have := Nat.shiftLeft_xor_distrib (a := a) (b := b) (i := 1)
    simpa [Nat.shiftLeft_eq, Nat.mul_comm] using this
  have h2 : (2 * (a ^^^ b)) % 65536 = (2 * a % 65536) ^^^ (2 * b % 65536) := by
    rw [h1]; exact Nat.xor_mod_two_pow (n := 16)
  have h3 : (a ^^^ b) / 32768 = (a / 32768) ^^^ (b / 32768) := by
    have := Nat.shiftRight_xor_distrib (a := a) (b := b) (i := 15)
    simpa [Nat.shiftRight_eq_div_pow] using this
  rw [h2, h3]
  have ca : a / 32768 = 0 ∨ a / 32768 = 1 := by omega
  have cb : b / 32768 = 0 ∨ b / 32768 = 1 := by omega
  have h4 : ((a / 32768) ^^^ (b / 32768)) * 4129 = (a / 32768 * 4129) ^^^ (b / 32768 * 4129) := by
    rcases ca with e | e <;> rcases cb with e' | e' <;> rw [e, e'] <;> rfl
  rw [h4]
  ac_rfl
theorem stepK_xor : ∀ (k a b : Nat), a < 65536 → b < 65536 → stepK k (a ^^^ b) = stepK k a ^^^ stepK k b
  | 0, _, _, _, _ => rfl
  | k + 1, a, b, ha, hb => by
    show stepK k (stepN (a ^^^ b)) = stepK k (stepN a) ^^^ stepK k (stepN b)
    rw [stepN_xor a b ha hb, stepK_xor k _ _ (stepN_lt a ha) (stepN_lt b hb)]
theorem stepN_zero : stepN 0 = 0 := by decide
theorem stepK_zero : ∀ k, stepK k 0 = 0
  | 0 => rfl
  | k + 1 => by show stepK k (stepN 0) = 0; rw [stepN_zero, stepK_zero k]
theorem xor_zero_iff (a b : Nat) : a ^^^ b = 0 ↔ a = b := by
  constructor
  · intro h
    have : (a ^^^ b) ^^^ b = 0 ^^^ b := by rw [h]
    rwa [Nat.xor_assoc, Nat.xor_self, Nat.xor_zero, Nat.zero_xor] at this
  · intro h; subst h; exact Nat.xor_self _
theorem stepN_inj (s : Nat) (h : s < 65536) (h0 : stepN s = 0) : s = 0 := by
  by_cases hs : s < 32768
  · have e : s / 32768 = 0 := by clear h0; omega
    have e2 : 2 * s % 65536 = 2 * s := Nat.mod_eq_of_lt (by clear h0; omega)
    have h1 := (xor_zero_iff _ _).1 h0
    rw [e, e2] at h1
    clear h0
    omega
  · have e : s / 32768 = 1 := by clear h0; omega
    have e2 : 2 * s % 65536 = 2 * s - 65536 := by clear h0; omega
    have h1 := (xor_zero_iff _ _).1 h0
    rw [e, e2] at h1
    clear h0
    omega
theorem stepK_inj : ∀ (k s : Nat), s < 65536 → stepK k s = 0 → s = 0
  | 0, _, _, h => h
  | k + 1, s, h, h0 => stepN_inj s h (stepK_inj k (stepN s) (stepN_lt s h) (show stepK k (stepN s) = 0 from h0))
theorem stepN_lo (s : Nat) (h : s < 32768) : stepN s = 2 * s := by
  unfold stepN
  rw [show s / 32768 = 0 from by omega, Nat.mod_eq_of_lt (by omega)]; simp
theorem stepK_shift : ∀ (k s : Nat), s * 2 ^ k < 65536 → stepK k s = s * 2 ^ k
  | 0, s, _ => by simp [stepK]
  | k + 1, s, h => by
    have hp : 0 < 2 ^ k := Nat.two_pow_pos k
    have e : s * 2 ^ (k + 1) = 2 * s * 2 ^ k := by rw [Nat.pow_succ]; ac_rfl
    rw [e] at h ⊢
    have hs : s < 32768 := by
      have := Nat.le_mul_of_pos_right (2 * s) hp
      omega
    show stepK k (stepN s) = _
    rw [stepN_lo s hs]
    exact stepK_shift k (2 * s) h

/-- One bit, and n bits, of a stream. -/
def bitN (s : Nat) (x : Bool) : Nat := stepN (s ^^^ (if x then 32768 else 0))
def runN (s : Nat) (g : Nat → Bool) : Nat → Nat
  | 0 => s
  | n + 1 => bitN (runN s g n) (g n)
theorem x_lt (x : Bool) : (if x then 32768 else 0) < 65536 := by cases x <;> decide
theorem xx_lt (s : Nat) (x : Bool) (h : s < 65536) : s ^^^ (if x then 32768 else 0) < 65536 := Nat.xor_lt_two_pow (n := 16) h (x_lt x)
theorem runN_lt (s : Nat) (g : Nat → Bool) (h : s < 65536) : ∀ n, runN s g n < 65536
  | 0 => h
  | n + 1 => stepN_lt _ (xx_lt _ _ (runN_lt s g h n))
theorem runN_congr (s : Nat) (g g' : Nat → Bool) : ∀ n, (∀ p, p < n → g p = g' p) → runN s g n = runN s g' n
  | 0, _ => rfl
  | n + 1, h => by
    show bitN (runN s g n) (g n) = bitN (runN s g' n) (g' n)
    rw [runN_congr s g g' n (fun p hp => h p (by omega)), h n (by omega)]
theorem runN_xor (s s' : Nat) (g g' : Nat → Bool) (h : s < 65536) (h' : s' < 65536) : ∀ n, runN (s ^^^ s') (fun p => Bool.xor (g p) (g' p)) n = runN s g n ^^^ runN s' g' n
  | 0 => rfl
  | n + 1 => by
    show bitN (runN (s ^^^ s') _ n) (Bool.xor (g n) (g' n)) = bitN (runN s g n) (g n) ^^^ bitN (runN s' g' n) (g' n)
    rw [runN_xor s s' g g' h h' n]
    unfold bitN
    rw [← stepN_xor _ _ (xx_lt _ _ (runN_lt s g h n)) (xx_lt _ _ (runN_lt s' g' h' n))]
    congr 1
    have e : (if Bool.xor (g n) (g' n) then 32768 else 0) = (if g n then 32768 else 0) ^^^ (if g' n then 32768 else 0) := by
      cases g n <;> cases g' n <;> rfl
    rw [e]
    ac_rfl
theorem runN_add (s : Nat) (g : Nat → Bool) (a : Nat) : ∀ b, runN s g (a + b) = runN (runN s g a) (fun j => g (a + j)) b
  | 0 => rfl
  | b + 1 => by
    show bitN (runN s g (a + b)) (g (a + b)) = bitN (runN (runN s g a) _ b) (g (a + b))
    rw [runN_add s g a b]
theorem runN_none (s : Nat) : ∀ n, runN s (fun _ => false) n = stepK n s
  | 0 => rfl
  | n + 1 => by
    show stepN (runN s (fun _ => false) n ^^^ 0) = _
    rw [runN_none s n, Nat.xor_zero, stepK_succ]
def valN (g : Nat → Bool) : Nat → Nat
  | 0 => 0
  | n + 1 => 2 * valN g n + (if g n then 1 else 0)
theorem valN_lt (g : Nat → Bool) : ∀ n, valN g n < 2 ^ n
  | 0 => by simp [valN]
  | n + 1 => by
    have := valN_lt g n
    rw [Nat.pow_succ]
    unfold valN
    split <;> omega
theorem valN_zero (g : Nat → Bool) : ∀ n, valN g n = 0 → ∀ p, p < n → g p = false
  | 0, _, p, hp => by omega
  | n + 1, h, p, hp => by
    unfold valN at h
    by_cases hg : g n
    · rw [if_pos hg] at h; omega
    · by_cases hpn : p = n
      · subst hpn; simpa using hg
      · exact valN_zero g n (by omega) p (by omega)
theorem join_xor (V d x : Nat) (hx : x < 2 ^ d) : V * 2 ^ d + x = (V * 2 ^ d) ^^^ x := by
  have h0 : (V * 2 ^ d) &&& x = 0 := by
    apply Nat.eq_of_testBit_eq
    intro i
    rw [Nat.testBit_and, Nat.zero_testBit, Nat.mul_comm, Nat.testBit_two_pow_mul]
    by_cases hi : i < d
    · simp; intro h; omega
    · have : x.testBit i = false := Nat.testBit_lt_two_pow (Nat.lt_of_lt_of_le hx (Nat.pow_le_pow_right (by omega) (by omega)))
      simp [this]
  rw [← nat_join d (V * 2 ^ d) x (by simp) hx]
  apply Nat.eq_of_testBit_eq
  intro i
  have := congrArg (fun n => n.testBit i) h0
  simp only [Nat.testBit_and, Nat.zero_testBit] at this
  rw [Nat.testBit_or, Nat.testBit_xor]
  cases h1 : (V * 2 ^ d).testBit i <;> cases h2 : x.testBit i <;> simp_all
theorem runN_val (g : Nat → Bool) : ∀ k, k ≤ 16 → runN 0 g k = stepK k (valN g k * 2 ^ (16 - k))
  | 0, _ => by simp [runN, valN, stepK]
  | k + 1, hk => by
    have ih := runN_val g k (by omega)
    have hv := valN_lt g k
    have hp : 2 ^ k * 2 ^ (16 - k) = 65536 := by rw [← Nat.pow_add, show k + (16 - k) = 16 from by omega]
    have hp2 : 2 ^ (16 - k) = 2 * 2 ^ (15 - k) := by rw [show 16 - k = (15 - k) + 1 from by omega, Nat.pow_succ]; omega
    have hA : valN g k * 2 ^ (16 - k) < 65536 := by
      rw [← hp]; exact Nat.mul_lt_mul_of_pos_right hv (Nat.two_pow_pos _)
    have hq : 2 ^ (15 - k) * 2 ^ k = 32768 := by rw [← Nat.pow_add, show (15 - k) + k = 15 from by omega]
    show bitN (runN 0 g k) (g k) = stepK (k + 1) ((2 * valN g k + (if g k then 1 else 0)) * 2 ^ (16 - (k + 1)))
    rw [ih, show 16 - (k + 1) = 15 - k from by omega]
    by_cases hg : g k
    · rw [if_pos hg]
      have e1 : (2 * valN g k + 1) * 2 ^ (15 - k) = (valN g k * 2 ^ (16 - k)) ^^^ 2 ^ (15 - k) := by
        rw [← join_xor _ _ _ (by rw [hp2]; have := Nat.two_pow_pos (15 - k); omega), hp2, Nat.add_mul]
        rw [Nat.one_mul, Nat.mul_comm 2 (valN g k), Nat.mul_assoc]
      have hB : 2 ^ (15 - k) < 65536 := Nat.lt_of_lt_of_le (Nat.pow_lt_pow_right (by omega) (show 15 - k < 16 by omega)) (Nat.le_refl _)
      rw [e1, stepK_xor _ _ _ hA hB, stepK_succ, stepK_succ, stepK_shift k (2 ^ (15 - k)) (by omega), hq]
      unfold bitN
      rw [if_pos hg, stepN_xor _ _ (stepK_lt k _ hA) (by omega)]
    · rw [if_neg hg]
      unfold bitN
      rw [if_neg hg, Nat.xor_zero, stepK_succ, Nat.add_zero, hp2, Nat.mul_comm 2 (valN g k), Nat.mul_assoc]

/-- A byte, bit by bit, the highest first. -/
def bb (b : Int) (r : Nat) : Bool := b.toNat.testBit (7 - r)
theorem val_byte : ∀ b : Fin 256, valN (fun r => b.val.testBit (7 - r)) 8 = b.val := by decide +kernel
theorem crcByte_bits (s : Nat) (b : Int) (hs : s < 65536) (hb : 0 ≤ b ∧ b < 256) : crcByte s b = runN s (bb b) 8 := by
  have h1 : runN s (bb b) 8 = stepK 8 s ^^^ runN 0 (bb b) 8 := by
    have := runN_xor s 0 (fun _ => false) (bb b) hs (by omega) 8
    rw [Nat.xor_zero] at this
    rw [← runN_none, ← this]
    exact runN_congr _ _ _ 8 (fun p _ => by simp)
  have h2 : valN (bb b) 8 = b.toNat := val_byte ⟨b.toNat, by omega⟩
  rw [h1, runN_val _ 8 (by omega), h2]
  unfold crcByte
  rw [stepK_xor _ _ _ hs (by omega)]
/-- Bit p of a list of bytes. -/
def bl (l : List Int) (p : Nat) : Bool := bb (l.getD (p / 8) 0) (p % 8)
theorem crcN_bits (s : Nat) (hs : s < 65536) : ∀ (n : Nat) (l : List Int), l.length = n → By l → crcN s l = runN s (bl l) (8 * n)
  | 0, l, h, _ => by rw [List.eq_nil_of_length_eq_zero h]; rfl
  | n + 1, l, h, hl => by
    have e : l = l.take n ++ [l.getD n 0] := by
      rw [← take_snoc l n (by omega), List.take_of_length_le (by omega)]
    have ih := crcN_bits s hs n (l.take n) (by rw [List.length_take]; omega) (hl.take n)
    rw [show 8 * (n + 1) = 8 * n + 8 from by omega, runN_add]
    have h1 : runN s (bl l) (8 * n) = runN s (bl (l.take n)) (8 * n) := runN_congr _ _ _ _ (fun p hp => by
      unfold bl
      rw [List.getD_eq_getElem?_getD, List.getD_eq_getElem?_getD, List.getElem?_take_of_lt (by omega)])
    have h2 : runN (runN s (bl l) (8 * n)) (fun j => bl l (8 * n + j)) 8 = runN (runN s (bl l) (8 * n)) (bb (l.getD n 0)) 8 := runN_congr _ _ _ _ (fun p hp => by
      unfold bl
      rw [show (8 * n + p) / 8 = n from by omega, show (8 * n + p) % 8 = p from by omega])
    rw [h2, h1, ← ih]
    conv => lhs; rw [e]
    rw [crcN_snoc, crcByte_bits _ _ (crcN_lt _ _ hs (hl.take n)) (hl.getD n)]

/-- A frame's sum is right just if the sum over all of it is 0. -/
theorem residue (t : List Int) (hi lo : Int) (ht : By t) (h1 : 0 ≤ hi ∧ hi < 256) (h2 : 0 ≤ lo ∧ lo < 256) : crcN 65535 (t ++ [hi, lo]) = 0 ↔ crcN 65535 t = hi.toNat * 256 + lo.toNat := by
  have hS := crcN_lt t 65535 (by omega) ht
  have hx := byte_lt (crcN 65535 t) hi hS h1
  have e0 : crcN 65535 (t ++ [hi, lo]) = crcByte (crcByte (crcN 65535 t) hi) lo := by
    rw [show t ++ [hi, lo] = (t ++ [hi]) ++ [lo] from by simp, crcN_snoc, crcN_snoc]
  have hX := crcByte_lt (crcN 65535 t) hi hS h1
  have e1 : crcByte (crcByte (crcN 65535 t) hi) lo = 0 ↔ crcByte (crcN 65535 t) hi = lo.toNat * 256 := by
    have hlt := byte_lt (crcByte (crcN 65535 t) hi) lo hX h2
    constructor
    · intro h
      exact (xor_zero_iff _ _).1 (stepK_inj 8 _ hlt h)
    · intro h
      show stepK 8 (crcByte (crcN 65535 t) hi ^^^ (lo.toNat * 256)) = 0
      rw [h, Nat.xor_self, stepK_zero]
  have e2 : stepK 8 lo.toNat = lo.toNat * 256 := stepK_shift 8 lo.toNat (by omega)
  have e3 : crcByte (crcN 65535 t) hi = lo.toNat * 256 ↔ (crcN 65535 t ^^^ (hi.toNat * 256)) = lo.toNat := by
    rw [← e2]
    unfold crcByte
    constructor
    · intro h
      have h3 : stepK 8 ((crcN 65535 t ^^^ (hi.toNat * 256)) ^^^ lo.toNat) = 0 := by
        rw [stepK_xor _ _ _ hx (by omega), h, Nat.xor_self]
      exact (xor_zero_iff _ _).1 (stepK_inj 8 _ (Nat.xor_lt_two_pow (n := 16) hx (by omega)) h3)
    · intro h; rw [h]
  have e4 : hi.toNat * 256 + lo.toNat = (hi.toNat * 256) ^^^ lo.toNat := join_xor hi.toNat 8 lo.toNat (by omega)
  rw [e0, e1, e3, e4]
  constructor
  · intro h
    rw [← h, ← Nat.xor_assoc, Nat.xor_comm (hi.toNat * 256), Nat.xor_assoc, Nat.xor_self, Nat.xor_zero]
  · intro h
    rw [h, Nat.xor_comm (hi.toNat * 256), Nat.xor_assoc, Nat.xor_self, Nat.xor_zero]

/-- What was turned: bit j of b at the place from + j, for j below i. -/
def errB (start : Nat) (b i p : Nat) : Bool := decide (start ≤ p ∧ p < start + i) && b.testBit (p - start)
theorem burst (f l : List Int) (n start b i : Nat) (hf : By f) (hl : By l) (hfn : f.length = n) (hln : l.length = n) (hi : i ≤ 16) (hin : start + i ≤ 8 * n)
    (hbits : ∀ p, p < 8 * n → bl l p = Bool.xor (bl f p) (errB start b i p)) (h0 : crcN 65535 f = 0) : crcN 65535 l = 0 ↔ ∀ j, j < i → b.testBit j = false := by
  have e1 := crcN_bits 65535 (by omega) n l hln hl
  have e2 := crcN_bits 65535 (by omega) n f hfn hf
  have e3 : runN 65535 (bl l) (8 * n) = runN 65535 (bl f) (8 * n) ^^^ runN 0 (errB start b i) (8 * n) := by
    rw [← runN_xor 65535 0 (bl f) (errB start b i) (by omega) (by omega), Nat.xor_zero]
    exact runN_congr _ _ _ _ hbits
  rw [e1, e3, ← e2, h0, Nat.zero_xor]
  have w1 : runN 0 (errB start b i) start = 0 := by
    rw [runN_congr 0 _ (fun _ => false) start (fun p hp => by unfold errB; simp; intro h; omega), runN_none, stepK_zero]
  have w2 : runN 0 (errB start b i) (start + i) = stepK i (valN (fun j => b.testBit j) i * 2 ^ (16 - i)) := by
    rw [runN_add, w1, ← runN_val _ i hi]
    exact runN_congr _ _ _ _ (fun p hp => by unfold errB; rw [show start + p - start = p from by omega]; simp; intro; omega)
  have hv := valN_lt (fun j => b.testBit j) i
  have hp : 2 ^ i * 2 ^ (16 - i) = 65536 := by rw [← Nat.pow_add, show i + (16 - i) = 16 from by omega]
  have hA : valN (fun j => b.testBit j) i * 2 ^ (16 - i) < 65536 := by
    rw [← hp]; exact Nat.mul_lt_mul_of_pos_right hv (Nat.two_pow_pos _)
  have w3 : runN 0 (errB start b i) (8 * n) = stepK (8 * n - (start + i)) (stepK i (valN (fun j => b.testBit j) i * 2 ^ (16 - i))) := by
    have e8 : 8 * n = (start + i) + (8 * n - (start + i)) := by omega
    have e9 := runN_add 0 (errB start b i) (start + i) (8 * n - (start + i))
    rw [← e8, w2] at e9
    rw [e9]
    refine (runN_congr _ _ (fun _ => false) _ (fun p hp => ?_)).trans (runN_none _ _)
    unfold errB; simp; intro; omega
  rw [w3]
  constructor
  · intro h
    have h1 := stepK_inj _ _ (stepK_lt i _ hA) h
    have h2 := stepK_inj _ _ hA h1
    have h3 : valN (fun j => b.testBit j) i = 0 := by
      rcases Nat.mul_eq_zero.1 h2 with h | h
      · exact h
      · have := Nat.two_pow_pos (16 - i); omega
    exact valN_zero _ i h3
  · intro h
    have h3 : ∀ k, k ≤ i → valN (fun j => b.testBit j) k = 0 := by
      intro k
      induction k with
      | zero => intro _; rfl
      | succ k ih => intro hk; unfold valN; rw [ih (by omega), h k (by omega)]; rfl
    rw [h3 i (Nat.le_refl _), Nat.zero_mul, stepK_zero, stepK_zero]

/-- One bit more is turned. -/
theorem flip_bits (l : List Int) (n p0 : Nat) (hl : By l) (hln : l.length = n) (hp0 : p0 < 8 * n) (p : Nat) (hp : p < 8 * n) :
    bl (l.set (p0 / 8) (((l.getD (p0 / 8) 0).toNat ^^^ 2 ^ (7 - p0 % 8) : Nat) : Int)) p = Bool.xor (bl l p) (decide (p = p0)) := by
  unfold bl bb
  by_cases h : p / 8 = p0 / 8
  · have hlt : p0 / 8 < l.length := by omega
    rw [h, List.getD_eq_getElem?_getD, List.getElem?_set_self hlt, Option.getD_some, Int.toNat_natCast, Nat.testBit_xor, Nat.testBit_two_pow]
    congr 1
    rw [decide_eq_decide]
    omega
  · rw [List.getD_eq_getElem?_getD, List.getElem?_set_ne (by omega), ← List.getD_eq_getElem?_getD]
    have : p ≠ p0 := fun e => h (by rw [e])
    simp [this]
theorem errB_succ (start b i p : Nat) : errB start b (i + 1) p = Bool.xor (errB start b i p) (decide (p = start + i) && b.testBit i) := by
  unfold errB
  by_cases h : p = start + i
  · subst h
    rw [show start + i - start = i from by omega]
    simp
  · have e : (start ≤ p ∧ p < start + (i + 1)) ↔ (start ≤ p ∧ p < start + i) := by omega
    have e2 : decide (start ≤ p ∧ p < start + (i + 1)) = decide (start ≤ p ∧ p < start + i) := decide_eq_decide.2 e
    rw [e2]
    simp [h]
end Go.Proofs.Ytcolklkjaifplaa.Oct
