/- Plain facts of layer 3 (datum), and of any frame of which one byte is turned. No Go in sight. Plain facts of layer 4 (probe). No Go in sight. Plain facts of layer 6 (order). No Go in sight. -/
import Derived.Test.YtcolklkjaifplaaOctZ
namespace Go.Proofs.Ytcolklkjaifplaa.Oct
open Go.RowKit
set_option linter.unusedVariables false

/-- The bits of a byte, the other way round. -/
def rev8 (x : Nat) : Nat := (List.range 8).foldl (fun s j => if x.testBit (7 - j) then s + 2 ^ j else s) 0
theorem rev8_bit : ∀ x, x < 256 → ∀ j, j < 8 → (rev8 x).testBit j = x.testBit (7 - j) := by decide +kernel
theorem rev8_none : ∀ x, x < 256 → (∀ j, j < 8 → (rev8 x).testBit j = false) → x = 0 := by decide +kernel
theorem rev8_zero : ∀ j, j < 8 → (rev8 0).testBit j = false := by decide +kernel
/-- Of what sums to nought, with one byte turned, the sum is nought just if no bit of it was turned. -/
theorem one_byte (f : List Int) (hf : By f) (h0 : crcN 65535 f = 0) (i : Nat) (hi : i < f.length) (x : Int) (hx : 0 ≤ x ∧ x < 256) :
    crcN 65535 (f.set i (bits .xor .u8 (f.getD i 0) x)) = 0 ↔ x = 0 := by
  have hb := hf.getD i
  have hv := xor_by _ x hb hx
  have hxor : (bits .xor .u8 (f.getD i 0) x).toNat = (f.getD i 0).toNat ^^^ x.toNat := by
    rw [u8_xor _ x hb.1 hb.2 hx.1 hx.2, Int.toNat_natCast]
  have key := burst f (f.set i (bits .xor .u8 (f.getD i 0) x)) f.length (8 * i) (rev8 x.toNat) 8 hf (hf.set i hv) rfl (by simp) (by omega) (by omega) (fun p hp => by
    unfold bl bb errB
    by_cases h : p / 8 = i
    · subst h
      rw [List.getD_eq_getElem?_getD (l := f.set _ _), List.getElem?_set_self hi, Option.getD_some, hxor, Nat.testBit_xor]
      congr 1
      rw [decide_eq_true (by omega), Bool.true_and, rev8_bit _ (by omega) _ (by omega)]
      congr 1
      omega
    · rw [List.getD_eq_getElem?_getD (l := f.set _ _), List.getElem?_set_ne (by omega), ← List.getD_eq_getElem?_getD, decide_eq_false (by omega)]
      simp) h0
  rw [key]
  constructor
  · intro h
    have := rev8_none x.toNat (by omega) h
    omega
  · rintro rfl
    exact rev8_zero
/-- What is opened of a frame of which one byte is turned. -/
theorem open_turned (f : List Int) (hf : By f) (h0 : crcN 65535 f = 0) (h3 : 3 ≤ f.length) (h5 : f.length ≤ 512) (i : Nat) (hi : i < f.length) (x : Int) (hx : 0 ≤ x ∧ x < 256) :
    (openP (f.set i (bits .xor .u8 (f.getD i 0) x))).2.2 = if x = 0 then 0 else 30 := by
  rw [open_err _ (hf.set i (xor_by _ x (hf.getD i) hx)) (by simpa using h3) (by simpa using h5)]
  have := one_byte f hf h0 i hi x hx
  by_cases h : x = 0
  · rw [if_pos h, if_pos (this.2 h)]
  · rw [if_neg h, if_neg (fun e => h (this.1 e))]

/-- A datum's body. -/
def dB (v h i a b c : Int) : List Int := dg 1 v ++ (dg 1 h ++ (dg 4 i ++ (dg 1 a ++ (dg 1 b ++ dg 1 c))))
theorem dB_by (v h i a b c : Int) : By (dB v h i a b c) := (dg_by _ _).append ((dg_by _ _).append ((dg_by _ _).append ((dg_by _ _).append ((dg_by _ _).append (dg_by _ _)))))
theorem dB_len (v h i a b c : Int) : (dB v h i a b c).length = 9 := by simp [dB, dg_len]
/-- The readings of a datum, one behind the other: what they tell, what is left, what was wrong first. -/
def r1 (l : List Int) := numR 1 l 0
def r2 (l : List Int) := numR 1 (r1 l).2.1 (r1 l).2.2
def r3 (l : List Int) := numR 4 (r2 l).2.1 (r2 l).2.2
def r4 (l : List Int) := numR 1 (r3 l).2.1 (r3 l).2.2
def r5 (l : List Int) := numR 1 (r4 l).2.1 (r4 l).2.2
def r6 (l : List Int) := numR 1 (r5 l).2.1 (r5 l).2.2
theorem one_piece (v : Int) (h : 0 ≤ v ∧ v < 256) (R : List Int) : numR 1 (dg 1 v ++ R) 0 = (v, R, 0) := numR_piece 1 (by omega) v h.1 (by omega) R
theorem four_piece (v : Int) (h : 0 ≤ v ∧ v < 4294967296) (R : List Int) : numR 4 (dg 4 v ++ R) 0 = (v, R, 0) := numR_piece 4 (by omega) v h.1 (by omega) R
theorem read_dB (v h i a b c : Int) (hv : 0 ≤ v ∧ v < 256) (hh : 0 ≤ h ∧ h < 256) (hi : 0 ≤ i ∧ i < 4294967296) (ha : 0 ≤ a ∧ a < 256) (hb : 0 ≤ b ∧ b < 256) (hc : 0 ≤ c ∧ c < 256) (R : List Int) :
    let l := dB v h i a b c ++ R
    (r1 l).1 = v ∧ (r2 l).1 = h ∧ (r3 l).1 = i ∧ (r4 l).1 = a ∧ (r5 l).1 = b ∧ r6 l = (c, R, 0) := by
  intro l
  have e : l = dg 1 v ++ (dg 1 h ++ (dg 4 i ++ (dg 1 a ++ (dg 1 b ++ (dg 1 c ++ R))))) := by simp [l, dB, List.append_assoc]
  have e1 : r1 l = (v, dg 1 h ++ (dg 4 i ++ (dg 1 a ++ (dg 1 b ++ (dg 1 c ++ R)))), 0) := by rw [e]; exact one_piece v hv _
  have e2 : r2 l = (h, dg 4 i ++ (dg 1 a ++ (dg 1 b ++ (dg 1 c ++ R))), 0) := by unfold r2; rw [e1]; exact one_piece h hh _
  have e3 : r3 l = (i, dg 1 a ++ (dg 1 b ++ (dg 1 c ++ R)), 0) := by unfold r3; rw [e2]; exact four_piece i hi _
  have e4 : r4 l = (a, dg 1 b ++ (dg 1 c ++ R), 0) := by unfold r4; rw [e3]; exact one_piece a ha _
  have e5 : r5 l = (b, dg 1 c ++ R, 0) := by unfold r5; rw [e4]; exact one_piece b hb _
  have e6 : r6 l = (c, R, 0) := by unfold r6; rw [e5]; exact one_piece c hc _
  rw [e1, e2, e3, e4, e5]
  exact ⟨rfl, rfl, rfl, rfl, rfl, e6⟩
/-- Nine bytes are a datum's body. -/
theorem nine (l : List Int) (hl : By l) (h9 : l.length = 9) : ∃ v h i a b c : Int, l = dB v h i a b c ∧ (0 ≤ v ∧ v < 256) ∧ (0 ≤ h ∧ h < 256) ∧ (0 ≤ i ∧ i < 4294967296) ∧ (0 ≤ a ∧ a < 256) ∧ (0 ≤ b ∧ b < 256) ∧ (0 ≤ c ∧ c < 256) := by
  obtain ⟨x0, l, rfl⟩ := List.exists_cons_of_length_eq_add_one (n := 8) h9
  obtain ⟨x1, l, rfl⟩ := List.exists_cons_of_length_eq_add_one (n := 7) (by simpa using h9)
  obtain ⟨x2, l, rfl⟩ := List.exists_cons_of_length_eq_add_one (n := 6) (by simpa using h9)
  obtain ⟨x3, l, rfl⟩ := List.exists_cons_of_length_eq_add_one (n := 5) (by simpa using h9)
  obtain ⟨x4, l, rfl⟩ := List.exists_cons_of_length_eq_add_one (n := 4) (by simpa using h9)
  obtain ⟨x5, l, rfl⟩ := List.exists_cons_of_length_eq_add_one (n := 3) (by simpa using h9)
  obtain ⟨x6, l, rfl⟩ := List.exists_cons_of_length_eq_add_one (n := 2) (by simpa using h9)
  obtain ⟨x7, l, rfl⟩ := List.exists_cons_of_length_eq_add_one (n := 1) (by simpa using h9)
  obtain ⟨x8, l, rfl⟩ := List.exists_cons_of_length_eq_add_one (n := 0) (by simpa using h9)
  obtain rfl : l = [] := List.eq_nil_of_length_eq_zero (by simpa using h9)
  have h0 := hl x0 (by simp)
  have h1 := hl x1 (by simp)
  have h2 := hl x2 (by simp)
  have h3 := hl x3 (by simp)
  have h4 := hl x4 (by simp)
  have h5 := hl x5 (by simp)
  refine ⟨x0, x1, x2 * 16777216 + x3 * 65536 + x4 * 256 + x5, x6, x7, x8, ?_, h0, h1, by omega, hl x6 (by simp), hl x7 (by simp), hl x8 (by simp)⟩
  have h6 := hl x6 (by simp)
  have h7 := hl x7 (by simp)
  have h8 := hl x8 (by simp)
  simp [dB, dg]
  omega
/-- One reading: it goes well, or it does not, and then nothing is left. -/
theorem numR_step (s : Nat) (hs : s = 1 ∨ s = 2 ∨ s = 4) (S : Int) (hS : S = s) (m : List Int) (e : Int) (he : e ≠ 0 → m.length = 0) :
    ((numR S m e).2.2 = 0 ∧ e = 0 ∧ s ≤ m.length ∧ (numR S m e).2.1.length = m.length - s) ∨ ((numR S m e).2.2 ≠ 0 ∧ (numR S m e).2.1.length = 0 ∧ (e ≠ 0 ∨ m.length < s)) := by
  subst hS
  unfold numR
  by_cases h : e = 0
  · subst h
    rw [if_neg (by simp), if_pos (by omega)]
    by_cases h2 : m.length < s
    · rw [if_pos (by omega)]; exact .inr ⟨by simp, rfl, .inr h2⟩
    · rw [if_neg (by omega)]; exact .inl ⟨rfl, rfl, by omega, by simp⟩
  · rw [if_pos h]; exact .inr ⟨h, he h, .inl h⟩
/-- Whether nothing was wrong, and nothing is left, hangs on how many bytes there are. -/
theorem r6_end (l : List Int) : ((r6 l).2.2 = 0 ∧ (r6 l).2.1.length = 0) ↔ l.length = 9 := by
  have s1 : ((r1 l).2.2 = 0 ∧ 0 = (0 : Int) ∧ 1 ≤ l.length ∧ (r1 l).2.1.length = l.length - 1) ∨ ((r1 l).2.2 ≠ 0 ∧ (r1 l).2.1.length = 0 ∧ (0 ≠ (0 : Int) ∨ l.length < 1)) := numR_step 1 (by omega) 1 rfl l 0 (by simp)
  have s2 : ((r2 l).2.2 = 0 ∧ (r1 l).2.2 = (0 : Int) ∧ 1 ≤ (r1 l).2.1.length ∧ (r2 l).2.1.length = (r1 l).2.1.length - 1) ∨ ((r2 l).2.2 ≠ 0 ∧ (r2 l).2.1.length = 0 ∧ ((r1 l).2.2 ≠ (0 : Int) ∨ (r1 l).2.1.length < 1)) := numR_step 1 (by omega) 1 rfl (r1 l).2.1 (r1 l).2.2 (by omega)
  have s3 : ((r3 l).2.2 = 0 ∧ (r2 l).2.2 = (0 : Int) ∧ 4 ≤ (r2 l).2.1.length ∧ (r3 l).2.1.length = (r2 l).2.1.length - 4) ∨ ((r3 l).2.2 ≠ 0 ∧ (r3 l).2.1.length = 0 ∧ ((r2 l).2.2 ≠ (0 : Int) ∨ (r2 l).2.1.length < 4)) := numR_step 4 (by omega) 4 rfl (r2 l).2.1 (r2 l).2.2 (by omega)
  have s4 : ((r4 l).2.2 = 0 ∧ (r3 l).2.2 = (0 : Int) ∧ 1 ≤ (r3 l).2.1.length ∧ (r4 l).2.1.length = (r3 l).2.1.length - 1) ∨ ((r4 l).2.2 ≠ 0 ∧ (r4 l).2.1.length = 0 ∧ ((r3 l).2.2 ≠ (0 : Int) ∨ (r3 l).2.1.length < 1)) := numR_step 1 (by omega) 1 rfl (r3 l).2.1 (r3 l).2.2 (by omega)
  have s5 : ((r5 l).2.2 = 0 ∧ (r4 l).2.2 = (0 : Int) ∧ 1 ≤ (r4 l).2.1.length ∧ (r5 l).2.1.length = (r4 l).2.1.length - 1) ∨ ((r5 l).2.2 ≠ 0 ∧ (r5 l).2.1.length = 0 ∧ ((r4 l).2.2 ≠ (0 : Int) ∨ (r4 l).2.1.length < 1)) := numR_step 1 (by omega) 1 rfl (r4 l).2.1 (r4 l).2.2 (by omega)
  have s6 : ((r6 l).2.2 = 0 ∧ (r5 l).2.2 = (0 : Int) ∧ 1 ≤ (r5 l).2.1.length ∧ (r6 l).2.1.length = (r5 l).2.1.length - 1) ∨ ((r6 l).2.2 ≠ 0 ∧ (r6 l).2.1.length = 0 ∧ ((r5 l).2.2 ≠ (0 : Int) ∨ (r5 l).2.1.length < 1)) := numR_step 1 (by omega) 1 rfl (r5 l).2.1 (r5 l).2.2 (by omega)
  omega
/-- What can be opened is a frame. -/
theorem open_inv (l : List Int) (hl : By l) (h : (openP l).2.2 = 0) : l = frm (openP l).1 (openP l).2.1 ∧ (0 ≤ (openP l).1 ∧ (openP l).1 < 256) ∧ (openP l).2.1.length + 3 = l.length ∧ l.length ≤ 512 := by
  unfold openP at h ⊢
  by_cases h5 : 512 < l.length
  · rw [if_pos h5] at h; simp at h
  · rw [if_neg h5] at h ⊢
    by_cases h3 : l.length < 3
    · rw [if_pos h3] at h; simp at h
    · rw [if_neg h3] at h ⊢
      by_cases hs : sumP (l.take (l.length - 2)) = (num (l.drop (l.length - 2)) : Nat)
      · rw [if_pos hs]
        have hb0 := hl.getD 0
        have h1 := num_one l hl (by omega)
        have h2 := num_two l l.length hl rfl (by omega)
        have ha := hl.getD (l.length - 2)
        have hb := hl.getD (l.length - 1)
        have e2 : l.drop (l.length - 2) = [l.getD (l.length - 2) 0, l.getD (l.length - 1) 0] := by
          rw [List.drop_eq_getElem_cons (by omega), show l.length - 2 + 1 = l.length - 1 from by omega, List.drop_eq_getElem_cons (by omega), show l.length - 1 + 1 = l.length from by omega, List.drop_eq_nil_of_le (by omega)]
          rw [List.getD_eq_getElem?_getD, List.getD_eq_getElem?_getD, List.getElem?_eq_getElem (by omega), List.getElem?_eq_getElem (by omega)]; rfl
        have e1 : l.getD 0 0 :: (l.drop 1).take (l.length - 3) = l.take (l.length - 2) := by
          cases l with
          | nil => simp at h3
          | cons x l => simp only [List.length_cons] at h3 ⊢; rw [show l.length + 1 - 2 = (l.length + 1 - 3) + 1 from by omega, List.take_succ_cons]; rfl
        refine ⟨?_, by rw [h1]; exact hb0, by simp; omega, by omega⟩
        unfold frm
        rw [h1, e1, hs, h2]
        have q1 : (256 * l.getD (l.length - 2) 0 + l.getD (l.length - 1) 0) / 256 = l.getD (l.length - 2) 0 := by omega
        have q2 : (256 * l.getD (l.length - 2) 0 + l.getD (l.length - 1) 0) % 256 = l.getD (l.length - 1) 0 := by omega
        rw [q1, q2, ← e2, List.take_append_drop]
      · rw [if_neg hs] at h; simp at h

/-- A datum may be. -/
def okD (v h i : Int) : Prop := (0 ≤ v ∧ v ≤ 200) ∧ (0 ≤ h ∧ h ≤ 12) ∧ (0 ≤ i ∧ i ≤ 4294967295)
instance (v h i : Int) : Decidable (okD v h i) := by unfold okD; infer_instance
/-- Its bytes. -/
def bytesD (v h i a b c : Int) : List Int × Int := if okD v h i then (frm 1 (dB v h i a b c), 0) else ([], 2)
/-- What bytes say: the six numbers, and what was wrong. -/
def parseD (l : List Int) : (Int × Int × Int × Int × Int × Int) × Int :=
  if (openP l).2.2 ≠ 0 then ((0, 0, 0, 0, 0, 0), (openP l).2.2)
  else if (openP l).1 = 1 ∧ ((r6 (openP l).2.1).2.2 = 0 ∧ (r6 (openP l).2.1).2.1.length = 0) ∧ okD (r1 (openP l).2.1).1 (r2 (openP l).2.1).1 (r3 (openP l).2.1).1 then
    (((r1 (openP l).2.1).1, (r2 (openP l).2.1).1, (r3 (openP l).2.1).1, (r4 (openP l).2.1).1, (r5 (openP l).2.1).1, (r6 (openP l).2.1).1), 0)
  else ((0, 0, 0, 0, 0, 0), 4)
section
variable {v h i a b c : Int}
theorem okD_open (ok : okD v h i) : openP (frm 1 (dB v h i a b c)) = (1, dB v h i a b c, 0) :=
  open_frm 1 _ (by omega) (dB_by _ _ _ _ _ _) (by rw [dB_len]; omega)
theorem parse_bytes (ok : okD v h i) (ha : 0 ≤ a ∧ a < 256) (hb : 0 ≤ b ∧ b < 256) (hc : 0 ≤ c ∧ c < 256) : parseD (frm 1 (dB v h i a b c)) = ((v, h, i, a, b, c), 0) := by
  have ok' := ok
  obtain ⟨⟨_, _⟩, ⟨_, _⟩, ⟨_, _⟩⟩ := ok'
  have e := read_dB v h i a b c (by omega) (by omega) (by omega) ha hb hc []
  simp only [List.append_nil] at e
  obtain ⟨e1, e2, e3, e4, e5, e6⟩ := e
  unfold parseD
  rw [okD_open ok, if_neg (by simp)]
  simp only [e1, e2, e3, e4, e5, e6]
  rw [if_pos ⟨trivial, ⟨trivial, rfl⟩, ok⟩]
/-- What can be read has just these bytes. -/
theorem parse_again (l : List Int) (hl : By l) (h0 : (parseD l).2 = 0) :
    ∃ v h i a b c : Int, parseD l = ((v, h, i, a, b, c), 0) ∧ okD v h i ∧ (0 ≤ a ∧ a < 256) ∧ (0 ≤ b ∧ b < 256) ∧ (0 ≤ c ∧ c < 256) ∧ l = frm 1 (dB v h i a b c) := by
  by_cases he : (openP l).2.2 = 0
  · obtain ⟨e1, e2, e3, e4⟩ := open_inv l hl he
    have hby := openP_by l hl
    have hp : parseD l = parseD l := rfl
    unfold parseD at h0 hp
    rw [if_neg (by simpa using he)] at h0 hp
    split at h0
    · rename_i hc
      rw [if_pos hc] at hp
      obtain ⟨c1, c2, c3⟩ := hc
      have h9 := (r6_end _).1 c2
      obtain ⟨v, h, i, a, b, c, e, hv, hh, hi, ha, hb, hc⟩ := nine _ hby h9
      have er := read_dB v h i a b c hv hh hi ha hb hc []
      simp only [List.append_nil] at er
      rw [← e] at er
      obtain ⟨q1, q2, q3, q4, q5, q6⟩ := er
      rw [q1, q2, q3] at c3
      refine ⟨v, h, i, a, b, c, ?_, c3, ha, hb, hc, ?_⟩
      · rw [parseD, if_neg (by simpa using he), if_pos ⟨c1, c2, by rw [q1, q2, q3]; exact c3⟩, q1, q2, q3, q4, q5, q6]
      · rw [e1, c1, e]
    · simp at h0
  · unfold parseD at h0
    rw [if_pos he] at h0
    exact absurd h0 he
/-- With a byte turned they are none's. -/
theorem parse_turned (ok : okD v h i) (ha : 0 ≤ a ∧ a < 256) (hb : 0 ≤ b ∧ b < 256) (hc : 0 ≤ c ∧ c < 256) (j : Nat) (hj : j < 12) (x : Int) (hx : 0 ≤ x ∧ x < 256) :
    (parseD ((frm 1 (dB v h i a b c)).set j (bits .xor .u8 ((frm 1 (dB v h i a b c)).getD j 0) x))).2 = 0 ↔ x = 0 := by
  have hlen : (frm 1 (dB v h i a b c)).length = 12 := by rw [frm_len, dB_len]
  have hby := frm_by 1 (dB v h i a b c) (by omega) (dB_by _ _ _ _ _ _)
  have ho := open_turned _ hby (frm_zero 1 _ (by omega) (dB_by _ _ _ _ _ _)) (by omega) (by omega) j (by omega) x hx
  by_cases h : x = 0
  · subst h
    have hg := hby.getD j
    have e : bits .xor .u8 ((frm 1 (dB v h i a b c)).getD j 0) 0 = (frm 1 (dB v h i a b c)).getD j 0 := by
      generalize (frm 1 (dB v h i a b c)).getD j 0 = y at hg
      rw [u8_xor y 0 hg.1 hg.2 (by omega) (by omega), show (0 : Int).toNat = 0 from rfl, Nat.xor_zero]
      omega
    have e2 : (frm 1 (dB v h i a b c)).set j ((frm 1 (dB v h i a b c)).getD j 0) = frm 1 (dB v h i a b c) := by
      rw [List.getD_eq_getElem?_getD, List.getElem?_eq_getElem (by omega), Option.getD_some, List.set_getElem_self]
    rw [e, e2, parse_bytes ok ha hb hc]
  · rw [if_neg h] at ho
    unfold parseD
    rw [if_pos (by rw [ho]; simp), ho]
    simp [h]
end
end Go.Proofs.Ytcolklkjaifplaa.Oct

namespace Go.Proofs.Ytcolklkjaifplaa.Oct
open Go.RowKit
set_option linter.unusedVariables false

/-- A probe may be. -/
def okQ (f p t q n : Int) : Prop := (1 ≤ f ∧ f ≤ 6) ∧ (1 ≤ p ∧ p ≤ 4) ∧ ((t = 0 ∧ q = 0) ∨ ((1 ≤ t ∧ t ≤ 6) ∧ (1 ≤ q ∧ q ≤ 4))) ∧ (0 ≤ n ∧ n ≤ 65535)
instance (f p t q n : Int) : Decidable (okQ f p t q n) := by unfold okQ; infer_instance
/-- Its body. -/
def qB (f p t q n : Int) : List Int := dg 1 f ++ (dg 1 p ++ (dg 1 t ++ (dg 1 q ++ dg 2 n)))
theorem qB_by (f p t q n : Int) : By (qB f p t q n) := (dg_by _ _).append ((dg_by _ _).append ((dg_by _ _).append ((dg_by _ _).append (dg_by _ _))))
theorem qB_len (f p t q n : Int) : (qB f p t q n).length = 6 := by simp [qB, dg_len]
/-- What Check answers; a probe's bytes. -/
def checkQ (f p t q n : Int) : Int := if okQ f p t q n then 0 else 2
def bytesQ (f p t q n : Int) : List Int × Int := if okQ f p t q n then (frm 2 (qB f p t q n), 0) else ([], 2)
theorem checkQ_zero (f p t q n : Int) : checkQ f p t q n = 0 ↔ okQ f p t q n := by
  unfold checkQ
  split
  · rename_i h; exact ⟨fun _ => h, fun _ => rfl⟩
  · rename_i h; exact ⟨fun e => by omega, fun e => absurd e h⟩
theorem bytesQ_by (f p t q n : Int) : By (bytesQ f p t q n).1 := by
  unfold bytesQ
  split
  · exact frm_by 2 _ (by omega) (qB_by _ _ _ _ _)
  · exact By.nil
theorem bytesQ_ok {f p t q n : Int} (ok : okQ f p t q n) : bytesQ f p t q n = sealP 2 (qB f p t q n) := by
  unfold bytesQ
  rw [if_pos ok, seal_frm 2 _ (by omega) (qB_by _ _ _ _ _) (by rw [qB_len]; omega)]
/-- The readings of a probe, one behind the other: what they tell, what is left, what was wrong first. -/
def s1 (l : List Int) := numR 1 l 0
def s2 (l : List Int) := numR 1 (s1 l).2.1 (s1 l).2.2
def s3 (l : List Int) := numR 1 (s2 l).2.1 (s2 l).2.2
def s4 (l : List Int) := numR 1 (s3 l).2.1 (s3 l).2.2
def s5 (l : List Int) := numR 2 (s4 l).2.1 (s4 l).2.2
theorem two_piece (v : Int) (h : 0 ≤ v ∧ v < 65536) (R : List Int) : numR 2 (dg 2 v ++ R) 0 = (v, R, 0) := numR_piece 2 (by omega) v h.1 (by omega) R
theorem read_qB (f p t q n : Int) (hf : 0 ≤ f ∧ f < 256) (hp : 0 ≤ p ∧ p < 256) (ht : 0 ≤ t ∧ t < 256) (hq : 0 ≤ q ∧ q < 256) (hn : 0 ≤ n ∧ n < 65536) (R : List Int) :
    let l := qB f p t q n ++ R
    (s1 l).1 = f ∧ (s2 l).1 = p ∧ (s3 l).1 = t ∧ (s4 l).1 = q ∧ s5 l = (n, R, 0) := by
  intro l
  have e : l = dg 1 f ++ (dg 1 p ++ (dg 1 t ++ (dg 1 q ++ (dg 2 n ++ R)))) := by simp [l, qB, List.append_assoc]
  have e1 : s1 l = (f, dg 1 p ++ (dg 1 t ++ (dg 1 q ++ (dg 2 n ++ R))), 0) := by rw [e]; exact one_piece f hf _
  have e2 : s2 l = (p, dg 1 t ++ (dg 1 q ++ (dg 2 n ++ R)), 0) := by unfold s2; rw [e1]; exact one_piece p hp _
  have e3 : s3 l = (t, dg 1 q ++ (dg 2 n ++ R), 0) := by unfold s3; rw [e2]; exact one_piece t ht _
  have e4 : s4 l = (q, dg 2 n ++ R, 0) := by unfold s4; rw [e3]; exact one_piece q hq _
  have e5 : s5 l = (n, R, 0) := by unfold s5; rw [e4]; exact two_piece n hn _
  rw [e1, e2, e3, e4]
  exact ⟨rfl, rfl, rfl, rfl, e5⟩
/-- Six bytes are a probe's body. -/
theorem sixB (l : List Int) (hl : By l) (h6 : l.length = 6) : ∃ f p t q n : Int, l = qB f p t q n ∧ (0 ≤ f ∧ f < 256) ∧ (0 ≤ p ∧ p < 256) ∧ (0 ≤ t ∧ t < 256) ∧ (0 ≤ q ∧ q < 256) ∧ (0 ≤ n ∧ n < 65536) := by
  obtain ⟨x0, l, rfl⟩ := List.exists_cons_of_length_eq_add_one (n := 5) h6
  obtain ⟨x1, l, rfl⟩ := List.exists_cons_of_length_eq_add_one (n := 4) (by simpa using h6)
  obtain ⟨x2, l, rfl⟩ := List.exists_cons_of_length_eq_add_one (n := 3) (by simpa using h6)
  obtain ⟨x3, l, rfl⟩ := List.exists_cons_of_length_eq_add_one (n := 2) (by simpa using h6)
  obtain ⟨x4, l, rfl⟩ := List.exists_cons_of_length_eq_add_one (n := 1) (by simpa using h6)
  obtain ⟨x5, l, rfl⟩ := List.exists_cons_of_length_eq_add_one (n := 0) (by simpa using h6)
  obtain rfl : l = [] := List.eq_nil_of_length_eq_zero (by simpa using h6)
  have h0 := hl x0 (by simp)
  have h1 := hl x1 (by simp)
  have h2 := hl x2 (by simp)
  have h3 := hl x3 (by simp)
  have h4 := hl x4 (by simp)
  have h5 := hl x5 (by simp)
  refine ⟨x0, x1, x2, x3, x4 * 256 + x5, ?_, h0, h1, h2, h3, by omega⟩
  simp [qB, dg]
  omega
/-- Whether nothing was wrong, and nothing is left, hangs on how many bytes there are. -/
theorem s5_end (l : List Int) : ((s5 l).2.2 = 0 ∧ (s5 l).2.1.length = 0) ↔ l.length = 6 := by
  have s1' : ((s1 l).2.2 = 0 ∧ 0 = (0 : Int) ∧ 1 ≤ l.length ∧ (s1 l).2.1.length = l.length - 1) ∨ ((s1 l).2.2 ≠ 0 ∧ (s1 l).2.1.length = 0 ∧ (0 ≠ (0 : Int) ∨ l.length < 1)) := numR_step 1 (by omega) 1 rfl l 0 (by simp)
  have s2' : ((s2 l).2.2 = 0 ∧ (s1 l).2.2 = (0 : Int) ∧ 1 ≤ (s1 l).2.1.length ∧ (s2 l).2.1.length = (s1 l).2.1.length - 1) ∨ ((s2 l).2.2 ≠ 0 ∧ (s2 l).2.1.length = 0 ∧ ((s1 l).2.2 ≠ (0 : Int) ∨ (s1 l).2.1.length < 1)) := numR_step 1 (by omega) 1 rfl (s1 l).2.1 (s1 l).2.2 (by omega)
  have s3' : ((s3 l).2.2 = 0 ∧ (s2 l).2.2 = (0 : Int) ∧ 1 ≤ (s2 l).2.1.length ∧ (s3 l).2.1.length = (s2 l).2.1.length - 1) ∨ ((s3 l).2.2 ≠ 0 ∧ (s3 l).2.1.length = 0 ∧ ((s2 l).2.2 ≠ (0 : Int) ∨ (s2 l).2.1.length < 1)) := numR_step 1 (by omega) 1 rfl (s2 l).2.1 (s2 l).2.2 (by omega)
  have s4' : ((s4 l).2.2 = 0 ∧ (s3 l).2.2 = (0 : Int) ∧ 1 ≤ (s3 l).2.1.length ∧ (s4 l).2.1.length = (s3 l).2.1.length - 1) ∨ ((s4 l).2.2 ≠ 0 ∧ (s4 l).2.1.length = 0 ∧ ((s3 l).2.2 ≠ (0 : Int) ∨ (s3 l).2.1.length < 1)) := numR_step 1 (by omega) 1 rfl (s3 l).2.1 (s3 l).2.2 (by omega)
  have s5' : ((s5 l).2.2 = 0 ∧ (s4 l).2.2 = (0 : Int) ∧ 2 ≤ (s4 l).2.1.length ∧ (s5 l).2.1.length = (s4 l).2.1.length - 2) ∨ ((s5 l).2.2 ≠ 0 ∧ (s5 l).2.1.length = 0 ∧ ((s4 l).2.2 ≠ (0 : Int) ∨ (s4 l).2.1.length < 2)) := numR_step 2 (by omega) 2 rfl (s4 l).2.1 (s4 l).2.2 (by omega)
  omega
/-- What bytes say: the five numbers, and what was wrong. -/
def parseQ (l : List Int) : (Int × Int × Int × Int × Int) × Int :=
  if (openP l).2.2 ≠ 0 then ((0, 0, 0, 0, 0), (openP l).2.2)
  else if (openP l).1 = 2 ∧ ((s5 (openP l).2.1).2.2 = 0 ∧ (s5 (openP l).2.1).2.1.length = 0) ∧ okQ (s1 (openP l).2.1).1 (s2 (openP l).2.1).1 (s3 (openP l).2.1).1 (s4 (openP l).2.1).1 (s5 (openP l).2.1).1 then
    (((s1 (openP l).2.1).1, (s2 (openP l).2.1).1, (s3 (openP l).2.1).1, (s4 (openP l).2.1).1, (s5 (openP l).2.1).1), 0)
  else ((0, 0, 0, 0, 0), 4)
/-- What Found answers. -/
def foundQ (f p t q n to po : Int) : (Int × Int × Int × Int × Int) × Int :=
  if ¬ okQ f p t q n then ((0, 0, 0, 0, 0), 2)
  else if t ≠ 0 then ((0, 0, 0, 0, 0), 180)
  else if (1 ≤ to ∧ to ≤ 6) ∧ (1 ≤ po ∧ po ≤ 4) then ((f, p, to, po, n), 0) else ((0, 0, 0, 0, 0), 2)
section
variable {f p t q n : Int}
theorem okQ_open (ok : okQ f p t q n) : openP (frm 2 (qB f p t q n)) = (2, qB f p t q n, 0) :=
  open_frm 2 _ (by omega) (qB_by _ _ _ _ _) (by rw [qB_len]; omega)
theorem parseQ_bytes (ok : okQ f p t q n) : parseQ (frm 2 (qB f p t q n)) = ((f, p, t, q, n), 0) := by
  have ok' := ok
  unfold okQ at ok'
  have e := read_qB f p t q n (by omega) (by omega) (by omega) (by omega) (by omega) []
  simp only [List.append_nil] at e
  obtain ⟨e1, e2, e3, e4, e5⟩ := e
  unfold parseQ
  rw [okQ_open ok, if_neg (by simp)]
  simp only [e1, e2, e3, e4, e5]
  rw [if_pos ⟨trivial, ⟨trivial, rfl⟩, ok⟩]
/-- What can be read has just these bytes. -/
theorem parseQ_again (l : List Int) (hl : By l) (h0 : (parseQ l).2 = 0) :
    ∃ f p t q n : Int, parseQ l = ((f, p, t, q, n), 0) ∧ okQ f p t q n ∧ l = frm 2 (qB f p t q n) := by
  by_cases he : (openP l).2.2 = 0
  · obtain ⟨e1, e2, e3, e4⟩ := open_inv l hl he
    have hby := openP_by l hl
    unfold parseQ at h0
    rw [if_neg (by simpa using he)] at h0
    split at h0
    · rename_i hc
      obtain ⟨c1, c2, c3⟩ := hc
      have h6 := (s5_end _).1 c2
      obtain ⟨f, p, t, q, n, e, hf, hp, ht, hq, hn⟩ := sixB _ hby h6
      have er := read_qB f p t q n hf hp ht hq hn []
      simp only [List.append_nil] at er
      rw [← e] at er
      obtain ⟨q1, q2, q3, q4, q5⟩ := er
      rw [q1, q2, q3, q4, q5] at c3
      refine ⟨f, p, t, q, n, ?_, c3, ?_⟩
      · rw [parseQ, if_neg (by simpa using he), if_pos ⟨c1, c2, by rw [q1, q2, q3, q4, q5]; exact c3⟩, q1, q2, q3, q4, q5]
      · rw [e1, c1, e]
    · simp at h0
  · unfold parseQ at h0
    rw [if_pos he] at h0
    exact absurd h0 he
theorem parseQ_bad {l : List Int} (h : (parseQ l).2 ≠ 0) : parseQ l = ((0, 0, 0, 0, 0), (parseQ l).2) := by
  unfold parseQ at h ⊢
  split
  · rfl
  · rename_i h1
    rw [if_neg h1] at h
    split
    · rename_i h2
      rw [if_pos h2] at h
      simp at h
    · rfl
end
theorem parseQ_no {l : List Int} (h : (openP l).2.2 ≠ 0) : parseQ l = ((0, 0, 0, 0, 0), (openP l).2.2) := if_pos h
theorem openQ_len (l : List Int) : (openP l).2.1.length ≤ 509 := by
  unfold openP
  split
  · simp
  · split
    · simp
    · split
      · simp only [List.length_take]; omega
      · simp
theorem endQ_zero (l : List Int) (e : Int) : endR l e = 0 ↔ (e = 0 ∧ l.length = 0) := by
  unfold endR
  split
  · constructor
    · intro h; omega
    · rintro ⟨_, h⟩; omega
  · constructor
    · intro h; exact ⟨h, by omega⟩
    · rintro ⟨h, _⟩; exact h
/-- Whether what was opened is a probe's. -/
def fineQ (k : Int) (m : List Int) : Prop := k = 2 ∧ endR (s5 m).2.1 (s5 m).2.2 = 0 ∧ checkQ (s1 m).1 (s2 m).1 (s3 m).1 (s4 m).1 (s5 m).1 = 0
theorem parseQ_yes {l : List Int} (h : (openP l).2.2 = 0) (hf : fineQ (openP l).1 (openP l).2.1) :
    parseQ l = (((s1 (openP l).2.1).1, (s2 (openP l).2.1).1, (s3 (openP l).2.1).1, (s4 (openP l).2.1).1, (s5 (openP l).2.1).1), 0) := by
  unfold parseQ
  obtain ⟨h1, h2, h3⟩ := hf
  rw [if_neg (by simpa using h), if_pos ⟨h1, (endQ_zero _ _).1 h2, (checkQ_zero _ _ _ _ _).1 h3⟩]
theorem parseQ_form {l : List Int} (h : (openP l).2.2 = 0) (hf : ¬ fineQ (openP l).1 (openP l).2.1) : parseQ l = ((0, 0, 0, 0, 0), 4) := by
  unfold parseQ
  rw [if_neg (by simpa using h), if_neg (fun ⟨h1, h2, h3⟩ => hf ⟨h1, (endQ_zero _ _).2 h2, (checkQ_zero _ _ _ _ _).2 h3⟩)]
end Go.Proofs.Ytcolklkjaifplaa.Oct

namespace Go.Proofs.Ytcolklkjaifplaa.Oct
open Go.RowKit
set_option linter.unusedVariables false

theorem num1_bd (l : List Int) (e : Int) (h : By l) : 0 ≤ (numR 1 l e).1 ∧ (numR 1 l e).1 < 256 := by
  unfold numR
  split
  · exact ⟨by simp, by simp⟩
  · split
    · split
      · exact ⟨by simp, by simp⟩
      · have := num_lt (l.take (1 : Int).toNat) (h.take _)
        have h2 : (l.take (1 : Int).toNat).length ≤ 1 := by rw [List.length_take]; simp; omega
        have h3 : 256 ^ (l.take (1 : Int).toNat).length ≤ 256 ^ 1 := Nat.pow_le_pow_right (by omega) h2
        exact ⟨by simp, by have e0 : (Int.toNat 1) = 1 := rfl; rw [e0] at this h3 ⊢; omega⟩
    · exact ⟨by simp, by simp⟩
/-- An output, a match, a rule, an order. -/
structure OutV where
  p : Int
  a : Int
  b : Int
  c : Int
structure MaskV where
  v : Int
  m : Int
  b0 : Int
  b1 : Int
  b2 : Int
  i0 : Int
  i1 : Int
  i2 : Int
structure RuleV where
  k : Int
  pr : Int
  to : Int
  po : Int
  x : MaskV
  os : List OutV
structure OrdV where
  k : Int
  n : Int
  m : Int
  r : RuleV
  f : Int
  p : Int
  t : Int
  q : Int
  z : Int
def noMask : MaskV := ⟨0, 0, 0, 0, 0, 0, 0, 0⟩
def noRule : RuleV := ⟨0, 0, 0, 0, noMask, []⟩
def noOrd : OrdV := ⟨0, 0, 0, noRule, 0, 0, 0, 0, 0⟩

/-- What may be. -/
def within (n a b : Int) : Prop := a ≤ n ∧ n ≤ b
instance (n a b : Int) : Decidable (within n a b) := by unfold within; infer_instance
def clr (i b : Int) : Int := bits .andNot .u8 i b
def okM (x : MaskV) : Prop := within x.v 0 200 ∧ within x.m (-1) 4 ∧ clr x.i0 x.b0 = 0 ∧ clr x.i1 x.b1 = 0 ∧ clr x.i2 x.b2 = 0
def zeroM (x : MaskV) : Prop := x.v = 0 ∧ x.m = 0 ∧ x.b0 = 0 ∧ x.b1 = 0 ∧ x.b2 = 0 ∧ x.i0 = 0 ∧ x.i1 = 0 ∧ x.i2 = 0
def okO (o : OutV) : Prop := within o.p 0 4 ∧ within o.a (-1) 255 ∧ within o.b (-1) 255 ∧ within o.c (-1) 255
instance (x : MaskV) : Decidable (okM x) := by unfold okM; infer_instance
instance (x : MaskV) : Decidable (zeroM x) := by unfold zeroM; infer_instance
instance (o : OutV) : Decidable (okO o) := by unfold okO; infer_instance
def okData (r : RuleV) : Prop := r.k = 1 ∧ within r.pr 0 65535 ∧ r.to = 0 ∧ r.po = 0 ∧ okM r.x ∧ r.os.length ≤ 8 ∧ ∀ o ∈ r.os, okO o
def okCtl (r : RuleV) : Prop := r.k = 2 ∧ within r.to 0 6 ∧ within r.po 0 4 ∧ r.pr = 0 ∧ zeroM r.x ∧ r.os.length = 0
def zeroR (r : RuleV) : Prop := r.k = 0 ∧ r.pr = 0 ∧ r.to = 0 ∧ r.po = 0 ∧ zeroM r.x ∧ r.os.length = 0
instance (r : RuleV) : Decidable (okData r) := by unfold okData; infer_instance
instance (r : RuleV) : Decidable (okCtl r) := by unfold okCtl; infer_instance
instance (r : RuleV) : Decidable (zeroR r) := by unfold zeroR; infer_instance
def okR (r : RuleV) : Prop := okData r ∨ okCtl r
instance (r : RuleV) : Decidable (okR r) := by unfold okR; infer_instance
def zeroQ (o : OrdV) : Prop := o.f = 0 ∧ o.p = 0 ∧ o.t = 0 ∧ o.q = 0 ∧ o.z = 0
instance (o : OrdV) : Decidable (zeroQ o) := by unfold zeroQ; infer_instance
/-- The numbers of an order of a kind: what is wanted of N and of M. -/
def okNM (o : OrdV) : Prop :=
  (o.k = 1 ∧ o.n = 0 ∧ o.m = 0) ∨ (o.k = 2 ∧ o.n = 0 ∧ o.m = 0) ∨ (o.k = 3 ∧ o.n = 0 ∧ o.m = 0) ∨ (o.k = 4 ∧ within o.n 0 200 ∧ o.m = 0) ∨ (o.k = 5 ∧ within o.n 1 4 ∧ within o.m 0 65535) ∨
  (o.k = 6 ∧ within o.n 0 4294967295 ∧ o.m = 0) ∨ (o.k = 7 ∧ within o.n 0 4294967295 ∧ within o.m 0 65535) ∨ (o.k = 8 ∧ o.n = 0 ∧ o.m = 0) ∨ (o.k = 9 ∧ within o.n 1 4 ∧ within o.m 0 1)
instance (o : OrdV) : Decidable (okNM o) := by unfold okNM; infer_instance
def okRu (o : OrdV) : Prop := if o.k = 2 ∨ o.k = 3 then okR o.r else zeroR o.r
def okPr (o : OrdV) : Prop := if o.k = 8 then okQ o.f o.p o.t o.q o.z ∧ o.t ≠ 0 else zeroQ o
instance (o : OrdV) : Decidable (okRu o) := by unfold okRu; infer_instance
instance (o : OrdV) : Decidable (okPr o) := by unfold okPr; infer_instance
def okOrd (o : OrdV) : Prop := okNM o ∧ okRu o ∧ okPr o
instance (o : OrdV) : Decidable (okOrd o) := by unfold okOrd; infer_instance
def checkM (x : MaskV) : Int := if okM x then 0 else 2
def checkR (r : RuleV) : Int := if okR r then 0 else 2
def checkO (o : OrdV) : Int := if okOrd o then 0 else 2

/-- Bytes. -/
def outB (o : OutV) : List Int := dg 1 o.p ++ (dg 2 (o.a + 1) ++ (dg 2 (o.b + 1) ++ dg 2 (o.c + 1)))
def maskB (x : MaskV) : List Int := dg 1 x.v ++ (dg 1 (x.m + 1) ++ ([x.b0, x.b1, x.b2] ++ [x.i0, x.i1, x.i2]))
def dataB (r : RuleV) : List Int := maskB r.x ++ (dg 1 (r.os.length : Nat) ++ r.os.flatMap outB)
def ruleB (r : RuleV) : List Int := dg 1 r.k ++ (dg 2 r.pr ++ (dg 1 r.to ++ (dg 1 r.po ++ (if r.k = 1 then dataB r else []))))
def restB (o : OrdV) : List Int :=
  if o.k = 2 ∨ o.k = 3 then ruleB o.r else if o.k = 4 then dg 1 o.n else if o.k = 5 then dg 1 o.n ++ dg 2 o.m else if o.k = 6 then dg 4 o.n else if o.k = 7 then dg 4 o.n ++ dg 2 o.m else
  if o.k = 8 then dg 2 9 ++ frm 2 (qB o.f o.p o.t o.q o.z) else if o.k = 9 then dg 1 o.n ++ dg 1 o.m else []
def ordB (o : OrdV) : List Int := dg 1 o.k ++ restB o
def bytesO (o : OrdV) : List Int × Int := if okOrd o then (ordB o, 0) else ([], 2)

/-- Readings, one behind the other. -/
abbrev St := List Int × Int
def nu (s : Int) (t : St) : Int × St := numR s t.1 t.2
def tx (t : St) : List Int × St := textR t.1 t.2
def bnd {α β : Type} (F : St → α × St) (G : α → St → β × St) (t : St) : β × St := G (F t).1 (F t).2
def rt {α : Type} (x : α) (t : St) : α × St := (x, t)
def maskRd : St → MaskV × St := bnd (nu 1) fun v => bnd (nu 1) fun m => bnd (nu 1) fun b0 => bnd (nu 1) fun b1 => bnd (nu 1) fun b2 => bnd (nu 1) fun i0 => bnd (nu 1) fun i1 => bnd (nu 1) fun i2 => rt ⟨v, m - 1, b0, b1, b2, i0, i1, i2⟩
def outRd : St → OutV × St := bnd (nu 1) fun p => bnd (nu 2) fun a => bnd (nu 2) fun b => bnd (nu 2) fun c => rt ⟨p, a - 1, b - 1, c - 1⟩
def outsRd : Nat → St → List OutV × St
  | 0 => rt []
  | n + 1 => bnd (outsRd n) fun os => bnd outRd fun o => rt (os ++ [o])
def ruleRd : St → RuleV × St := bnd (nu 1) fun k => bnd (nu 2) fun pr => bnd (nu 1) fun to => bnd (nu 1) fun po =>
  if k = 1 then bnd maskRd fun x => bnd (nu 1) fun n => bnd (outsRd n.toNat) fun os => rt ⟨k, pr, to, po, x, os⟩ else rt ⟨k, pr, to, po, noMask, []⟩
def restRd (k : Int) : St → OrdV × St :=
  if k = 2 ∨ k = 3 then bnd ruleRd fun r => rt { noOrd with k := k, r := r } else if k = 4 then bnd (nu 1) fun n => rt { noOrd with k := k, n := n } else
  if k = 5 then bnd (nu 1) fun n => bnd (nu 2) fun m => rt { noOrd with k := k, n := n, m := m } else if k = 6 then bnd (nu 4) fun n => rt { noOrd with k := k, n := n } else
  if k = 7 then bnd (nu 4) fun n => bnd (nu 2) fun m => rt { noOrd with k := k, n := n, m := m } else
  if k = 8 then bnd tx fun b => rt { noOrd with k := k, f := (parseQ b).1.1, p := (parseQ b).1.2.1, t := (parseQ b).1.2.2.1, q := (parseQ b).1.2.2.2.1, z := (parseQ b).1.2.2.2.2 } else
  if k = 9 then bnd (nu 1) fun n => bnd (nu 1) fun m => rt { noOrd with k := k, n := n, m := m } else rt { noOrd with k := k }
def ordRd : St → OrdV × St := bnd (nu 1) restRd
/-- What bytes say. -/
def parseO (l : List Int) : OrdV × Int :=
  if (ordRd (l, 0)).2.2 ≠ 0 then (noOrd, (ordRd (l, 0)).2.2) else if (ordRd (l, 0)).2.1.length = 0 ∧ okOrd (ordRd (l, 0)).1 then ((ordRd (l, 0)).1, 0) else (noOrd, 4)

/-- A reading is a good one: what is wrong stays; what it takes is a piece of the bytes, it takes it of whatever stands behind; of fewer it takes all, and they end too early. -/
def Nice {α : Type} (F : St → α × St) : Prop :=
  (∀ e, e ≠ 0 → (F ([], e)).2 = ([], e)) ∧ ∀ m x m', F (m, 0) = (x, (m', 0)) → ∃ l, m = l ++ m' ∧ (∀ R, F (l ++ R, 0) = (x, (R, 0))) ∧ ∀ i, i < l.length → (F (l.take i, 0)).2 = ([], 3)
theorem Nice.rt {α : Type} (x : α) : Nice (rt x) :=
  ⟨fun e he => rfl, fun m y m' h => by
    simp only [Oct.rt, Prod.mk.injEq, and_true] at h
    obtain ⟨rfl, rfl⟩ := h
    exact ⟨[], rfl, fun R => rfl, fun i hi => absurd hi (by simp)⟩⟩
theorem nu_bad (s : Int) (m : List Int) (e : Int) (he : e ≠ 0) : nu s (m, e) = (0, (m, e)) := if_pos he
theorem nu_ok (s : Nat) (hs : s = 1 ∨ s = 2 ∨ s = 4) (m : List Int) (h : s ≤ m.length) : nu s (m, 0) = (((num (m.take s) : Nat) : Int), (m.drop s, (0 : Int))) := by
  show numR s m 0 = _
  unfold numR
  rw [if_neg (by simp), if_pos (by omega), Int.toNat_natCast, if_neg (by omega)]
theorem nu_few (s : Nat) (hs : s = 1 ∨ s = 2 ∨ s = 4) (m : List Int) (h : m.length < s) : nu s (m, 0) = (0, ([], 3)) := by
  show numR s m 0 = _
  unfold numR
  rw [if_neg (by simp), if_pos (by omega), Int.toNat_natCast, if_pos (by omega)]
theorem Nice.nu (s : Nat) (hs : s = 1 ∨ s = 2 ∨ s = 4) : Nice (nu s) :=
  ⟨fun e he => by rw [nu_bad _ _ _ he], fun m x m' h => by
    by_cases hl : m.length < s
    · rw [nu_few s hs m hl] at h; simp at h
    · rw [nu_ok s hs m (by omega)] at h
      simp only [Prod.mk.injEq, and_true] at h
      obtain ⟨rfl, rfl⟩ := h
      have ht : (m.take s).length = s := by rw [List.length_take]; omega
      refine ⟨m.take s, (List.take_append_drop s m).symm, fun R => ?_, fun i hi => ?_⟩
      · rw [nu_ok s hs _ (by rw [List.length_append, ht]; omega), List.take_append_of_le_length (by omega), List.take_of_length_le (by omega), List.drop_append_of_le_length (by omega), List.drop_of_length_le (by omega), List.nil_append]
      · rw [nu_few s hs _ (by rw [List.length_take]; omega)]⟩
theorem Nice.bnd {α β : Type} {F : St → α × St} {G : α → St → β × St} (hF : Nice F) (hG : ∀ x, Nice (G x)) (h1 : ∀ m, (F (m, 0)).2.2 ≠ 0 → (F (m, 0)).2.1 = []) : Nice (bnd F G) :=
  ⟨fun e he => by
    show (G (F ([], e)).1 (F ([], e)).2).2 = _
    rw [hF.1 e he]
    exact (hG _).1 e he, fun m y m' h => by
    change G (F (m, 0)).1 (F (m, 0)).2 = _ at h
    by_cases he : (F (m, 0)).2.2 = 0
    · obtain ⟨x, m1, e1, hx⟩ : ∃ x m1 e1, F (m, 0) = (x, (m1, e1)) := ⟨_, _, _, rfl⟩
      rw [hx] at he h
      simp only at he
      subst he
      obtain ⟨l1, rfl, hr1, hc1⟩ := hF.2 m x m1 hx
      obtain ⟨l2, rfl, hr2, hc2⟩ := (hG x).2 m1 y m' h
      refine ⟨l1 ++ l2, by rw [List.append_assoc], fun R => ?_, fun i hi => ?_⟩
      · show G (F (l1 ++ l2 ++ R, 0)).1 (F (l1 ++ l2 ++ R, 0)).2 = _
        rw [List.append_assoc, hr1]
        exact hr2 R
      · show (G (F ((l1 ++ l2).take i, 0)).1 (F ((l1 ++ l2).take i, 0)).2).2 = _
        by_cases hi1 : i < l1.length
        · rw [List.take_append_of_le_length (by omega), hc1 i hi1]
          exact (hG _).1 3 (by omega)
        · rw [List.take_append, List.take_of_length_le (by omega), hr1]
          exact hc2 _ (by rw [List.length_append] at hi; omega)
    · have e1 := h1 m he
      have e2 : (F (m, 0)).2 = ([], (F (m, 0)).2.2) := by rw [← e1]
      rw [e2] at h
      have := congrArg Prod.snd h
      rw [(hG _).1 _ he] at this
      simp only [Prod.mk.injEq] at this
      exact absurd this.2 he⟩
/-- Where something was wrong nothing is left. -/
def Empty {α : Type} (F : St → α × St) : Prop := ∀ t : St, (t.2 ≠ 0 → t.1 = []) → (F t).2.2 ≠ 0 → (F t).2.1 = []
theorem Empty.rt {α : Type} (x : α) : Empty (rt x) := fun t h => h
theorem Empty.nu (s : Nat) (hs : s = 1 ∨ s = 2 ∨ s = 4) : Empty (nu s) := fun t h h2 => by
  obtain ⟨m, e⟩ := t
  by_cases he : e = 0
  · subst he
    by_cases hl : m.length < s
    · rw [nu_few s hs m hl]
    · rw [nu_ok s hs m (by omega)] at h2; exact absurd rfl h2
  · rw [nu_bad _ _ _ he]; exact h he
theorem Empty.bnd {α β : Type} {F : St → α × St} {G : α → St → β × St} (hF : Empty F) (hG : ∀ x, Empty (G x)) : Empty (bnd F G) := fun t h => hG _ _ (hF t h)
/-- Both. -/
def Fit {α : Type} (F : St → α × St) : Prop := Nice F ∧ Empty F
theorem Fit.rt {α : Type} (x : α) : Fit (rt x) := ⟨Nice.rt x, Empty.rt x⟩
theorem Fit.nu (s : Nat) (hs : s = 1 ∨ s = 2 ∨ s = 4) : Fit (nu s) := ⟨Nice.nu s hs, Empty.nu s hs⟩
theorem Fit.n1 : Fit (Oct.nu 1) := Fit.nu 1 (by omega)
theorem Fit.n2 : Fit (Oct.nu 2) := Fit.nu 2 (by omega)
theorem Fit.n4 : Fit (Oct.nu 4) := Fit.nu 4 (by omega)
theorem Fit.bnd {α β : Type} {F : St → α × St} {G : α → St → β × St} (hF : Fit F) (hG : ∀ x, Fit (G x)) : Fit (bnd F G) :=
  ⟨Nice.bnd hF.1 (fun x => (hG x).1) (fun m h => hF.2 (m, 0) (fun h => absurd rfl h) h), Empty.bnd hF.2 (fun x => (hG x).2)⟩
theorem tx_is (t : St) : tx t = bnd (nu 2) (fun (n : Int) (t : St) => if t.2 ≠ 0 then ([], t) else if t.1.length < n.toNat then ([], ([], 3)) else (t.1.take n.toNat, (t.1.drop n.toNat, 0))) t := by
  obtain ⟨m, e⟩ := t
  show textR m e = _
  unfold textR bnd nu
  simp only
theorem Fit.tx : Fit tx := by
  have e : Oct.tx = Oct.bnd (Oct.nu 2) (fun (n : Int) (t : St) => if t.2 ≠ 0 then ([], t) else if t.1.length < n.toNat then ([], ([], 3)) else (t.1.take n.toNat, (t.1.drop n.toNat, 0))) := funext tx_is
  rw [e]
  refine Fit.bnd Fit.n2 (fun n => ⟨⟨fun e he => by simp only [ne_eq, he, not_false_eq_true, if_true], fun m x m' h => ?_⟩, fun t h => ?_⟩)
  · simp only [ne_eq, not_true_eq_false, if_false] at h
    split at h
    · simp at h
    · rename_i hl
      simp only [Prod.mk.injEq, and_true] at h
      obtain ⟨rfl, rfl⟩ := h
      have ht : (m.take n.toNat).length = n.toNat := by rw [List.length_take]; omega
      refine ⟨m.take n.toNat, (List.take_append_drop _ m).symm, fun R => ?_, fun i hi => ?_⟩
      · simp only [ne_eq, not_true_eq_false, if_false]
        rw [if_neg (by rw [List.length_append, ht]; omega), List.take_append_of_le_length (by omega), List.take_of_length_le (by omega), List.drop_append_of_le_length (by omega), List.drop_of_length_le (by omega), List.nil_append]
      · simp only [ne_eq, not_true_eq_false, if_false]
        rw [if_pos (by rw [List.length_take]; omega)]
  · intro h2
    by_cases h3 : t.2 = 0
    · by_cases h4 : t.1.length < n.toNat
      · simp only [h3, ne_eq, not_true_eq_false, if_false, h4, if_true]
      · simp only [h3, ne_eq, not_true_eq_false, if_false, h4] at h2
    · simp only [ne_eq, h3, not_false_eq_true, if_true]
      exact h h3
theorem Fit.mask : Fit maskRd := Fit.bnd Fit.n1 fun _ => Fit.bnd Fit.n1 fun _ => Fit.bnd Fit.n1 fun _ => Fit.bnd Fit.n1 fun _ => Fit.bnd Fit.n1 fun _ => Fit.bnd Fit.n1 fun _ => Fit.bnd Fit.n1 fun _ => Fit.bnd Fit.n1 fun _ => Fit.rt _
theorem Fit.out : Fit outRd := Fit.bnd Fit.n1 fun _ => Fit.bnd Fit.n2 fun _ => Fit.bnd Fit.n2 fun _ => Fit.bnd Fit.n2 fun _ => Fit.rt _
theorem Fit.outs : ∀ n, Fit (outsRd n)
  | 0 => Fit.rt _
  | n + 1 => Fit.bnd (Fit.outs n) fun _ => Fit.bnd Fit.out fun _ => Fit.rt _
theorem Fit.rule : Fit ruleRd := Fit.bnd Fit.n1 fun k => Fit.bnd Fit.n2 fun _ => Fit.bnd Fit.n1 fun _ => Fit.bnd Fit.n1 fun _ => by
  split
  · exact Fit.bnd Fit.mask fun _ => Fit.bnd Fit.n1 fun _ => Fit.bnd (Fit.outs _) fun _ => Fit.rt _
  · exact Fit.rt _
theorem Fit.rest (k : Int) : Fit (restRd k) := by
  unfold restRd
  split
  · exact Fit.bnd Fit.rule fun _ => Fit.rt _
  split
  · exact Fit.bnd Fit.n1 fun _ => Fit.rt _
  split
  · exact Fit.bnd Fit.n1 fun _ => Fit.bnd Fit.n2 fun _ => Fit.rt _
  split
  · exact Fit.bnd Fit.n4 fun _ => Fit.rt _
  split
  · exact Fit.bnd Fit.n4 fun _ => Fit.bnd Fit.n2 fun _ => Fit.rt _
  split
  · exact Fit.bnd Fit.tx fun _ => Fit.rt _
  split
  · exact Fit.bnd Fit.n1 fun _ => Fit.bnd Fit.n1 fun _ => Fit.rt _
  · exact Fit.rt _
theorem Fit.ord : Fit ordRd := Fit.bnd Fit.n1 Fit.rest

/-- A match's bits are bytes. -/
def u8M (x : MaskV) : Prop := By [x.b0, x.b1, x.b2, x.i0, x.i1, x.i2]
theorem nu_piece (t : Nat) (ht : t = 1 ∨ t = 2 ∨ t = 4) (T : Int) (hT : T = t) (v : Int) (h : 0 ≤ v ∧ v < 2 ^ (8 * t)) (R : List Int) : nu T (dg t v ++ R, 0) = (v, (R, 0)) := by
  subst hT
  exact numR_piece t ht v h.1 h.2 R
theorem nu_byte (v : Int) (h : 0 ≤ v ∧ v < 256) (R : List Int) : nu 1 (v :: R, 0) = (v, (R, 0)) := by
  have := nu_piece 1 (by omega) 1 rfl v (by omega) R
  rw [show dg 1 v = [v] from by simp [dg]; omega] at this
  exact this
theorem okR_len {r : RuleV} (h : okR r) : r.os.length ≤ 8 := by
  rcases h with h | h
  · exact h.2.2.2.2.2.1
  · have := h.2.2.2.2.2; omega
theorem bnd_eq {α β : Type} {F : St → α × St} {G : α → St → β × St} {t t' : St} {x : α} (h : F t = (x, t')) : bnd F G t = G x t' := by unfold bnd; rw [h]
theorem rd_mask (x : MaskV) (hm : okM x) (h8 : u8M x) (R : List Int) : maskRd (maskB x ++ R, 0) = (x, (R, 0)) := by
  obtain ⟨v, m, b0, b1, b2, i0, i1, i2⟩ := x
  obtain ⟨⟨h1, h2⟩, ⟨h3, h4⟩, _⟩ := hm
  have hb := fun z hz => h8 z hz
  simp only [List.mem_cons, List.not_mem_nil, or_false, forall_eq_or_imp, forall_eq] at hb h1 h2 h3 h4
  obtain ⟨c0, c1, c2, d0, d1, d2⟩ := hb
  unfold maskB maskRd
  simp only [List.append_assoc, List.cons_append, List.nil_append]
  rw [bnd_eq (nu_piece 1 (by omega) 1 rfl v (by omega) _), bnd_eq (nu_piece 1 (by omega) 1 rfl (m + 1) (by omega) _), bnd_eq (nu_byte b0 c0 _), bnd_eq (nu_byte b1 c1 _), bnd_eq (nu_byte b2 c2 _), bnd_eq (nu_byte i0 d0 _), bnd_eq (nu_byte i1 d1 _), bnd_eq (nu_byte i2 d2 _)]
  rw [show m + 1 - 1 = m from by omega]
  rfl
theorem rd_out (o : OutV) (h : okO o) (R : List Int) : outRd (outB o ++ R, 0) = (o, (R, 0)) := by
  obtain ⟨p, a, b, c⟩ := o
  obtain ⟨⟨h1, h2⟩, ⟨h3, h4⟩, ⟨h5, h6⟩, ⟨h7, h8⟩⟩ := h
  simp only at h1 h2 h3 h4 h5 h6 h7 h8
  unfold outB outRd
  simp only [List.append_assoc]
  rw [bnd_eq (nu_piece 1 (by omega) 1 rfl p (by omega) _), bnd_eq (nu_piece 2 (by omega) 2 rfl (a + 1) (by omega) _), bnd_eq (nu_piece 2 (by omega) 2 rfl (b + 1) (by omega) _), bnd_eq (nu_piece 2 (by omega) 2 rfl (c + 1) (by omega) _)]
  rw [show a + 1 - 1 = a from by omega, show b + 1 - 1 = b from by omega, show c + 1 - 1 = c from by omega]
  rfl
theorem rd_outs : ∀ (n : Nat) (os : List OutV) (_ : os.length = n) (_ : ∀ o ∈ os, okO o) (R : List Int), outsRd n (os.flatMap outB ++ R, 0) = (os, (R, 0))
  | 0, os, h, _, R => by
    obtain rfl := List.eq_nil_of_length_eq_zero h
    rfl
  | n + 1, os, h, ho, R => by
    obtain ⟨o, pre, rfl⟩ : ∃ o pre, os = pre ++ [o] := ⟨os.getLast (by intro e; subst e; simp at h), os.dropLast, (List.dropLast_concat_getLast _).symm⟩
    rw [List.flatMap_append, List.append_assoc]
    show bnd (outsRd n) _ _ = _
    rw [bnd_eq (rd_outs n pre (by simpa using h) (fun o ho' => ho o (by simp [ho'])) _)]
    simp only [List.flatMap_cons, List.flatMap_nil, List.append_nil]
    rw [bnd_eq (rd_out o (ho o (by simp)) R)]
    rfl
theorem rd_rule (r : RuleV) (h : okR r) (h8 : u8M r.x) (R : List Int) : ruleRd (ruleB r ++ R, 0) = (r, (R, 0)) := by
  have hl := okR_len h
  obtain ⟨k, pr, to, po, x, os⟩ := r
  unfold ruleB ruleRd
  simp only [List.append_assoc]
  rcases h with ⟨h1, ⟨h2, h3⟩, h4, h5, hm, _, ho⟩ | ⟨h1, ⟨h2, h3⟩, ⟨h4, h5⟩, h6, hm, ho⟩
  · simp only at h1 h2 h3 h4 h5 hm ho hl
    subst h1 h4 h5
    rw [bnd_eq (nu_piece 1 (by omega) 1 rfl 1 (by omega) _), bnd_eq (nu_piece 2 (by omega) 2 rfl pr (by omega) _), bnd_eq (nu_piece 1 (by omega) 1 rfl 0 (by omega) _), bnd_eq (nu_piece 1 (by omega) 1 rfl 0 (by omega) _)]
    rw [if_pos rfl, if_pos rfl]
    unfold dataB
    simp only [List.append_assoc]
    rw [bnd_eq (rd_mask x hm h8 _), bnd_eq (nu_piece 1 (by omega) 1 rfl _ (by omega) _), Int.toNat_natCast, bnd_eq (rd_outs _ os rfl ho R)]
    rfl
  · simp only at h1 h2 h3 h4 h5 h6 hm ho
    subst h1 h6
    rw [bnd_eq (nu_piece 1 (by omega) 1 rfl 2 (by omega) _), bnd_eq (nu_piece 2 (by omega) 2 rfl 0 (by omega) _), bnd_eq (nu_piece 1 (by omega) 1 rfl to (by omega) _), bnd_eq (nu_piece 1 (by omega) 1 rfl po (by omega) _)]
    rw [if_neg (by omega), if_neg (by omega)]
    obtain rfl := List.eq_nil_of_length_eq_zero ho
    obtain ⟨v, m, b0, b1, b2, i0, i1, i2⟩ := x
    obtain ⟨e1, e2, e3, e4, e5, e6, e7, e8⟩ := hm
    simp only at e1 e2 e3 e4 e5 e6 e7 e8
    subst e1 e2 e3 e4 e5 e6 e7 e8
    rfl
theorem zeroR_eq {r : RuleV} (h : zeroR r) : r = noRule := by
  obtain ⟨k, pr, to, po, ⟨v, m, b0, b1, b2, i0, i1, i2⟩, os⟩ := r
  obtain ⟨h1, h2, h3, h4, ⟨e1, e2, e3, e4, e5, e6, e7, e8⟩, h5⟩ := h
  simp only at h1 h2 h3 h4 h5 e1 e2 e3 e4 e5 e6 e7 e8
  obtain rfl := List.eq_nil_of_length_eq_zero h5
  subst h1 h2 h3 h4 e1 e2 e3 e4 e5 e6 e7 e8
  rfl
theorem restRd_r {k : Int} (h : k = 2 ∨ k = 3) : restRd k = bnd ruleRd fun r => rt { noOrd with k := k, r := r } := if_pos h
theorem restRd_4 : restRd 4 = bnd (nu 1) fun n => rt { noOrd with k := 4, n := n } := by unfold restRd; rw [if_neg (by omega), if_pos rfl]
theorem restRd_5 : restRd 5 = bnd (nu 1) fun n => bnd (nu 2) fun m => rt { noOrd with k := 5, n := n, m := m } := by unfold restRd; rw [if_neg (by omega), if_neg (by omega), if_pos rfl]
theorem restRd_6 : restRd 6 = bnd (nu 4) fun n => rt { noOrd with k := 6, n := n } := by unfold restRd; rw [if_neg (by omega), if_neg (by omega), if_neg (by omega), if_pos rfl]
theorem restRd_7 : restRd 7 = bnd (nu 4) fun n => bnd (nu 2) fun m => rt { noOrd with k := 7, n := n, m := m } := by unfold restRd; rw [if_neg (by omega), if_neg (by omega), if_neg (by omega), if_neg (by omega), if_pos rfl]
theorem restRd_8 : restRd 8 = bnd tx fun b => rt { noOrd with k := 8, f := (parseQ b).1.1, p := (parseQ b).1.2.1, t := (parseQ b).1.2.2.1, q := (parseQ b).1.2.2.2.1, z := (parseQ b).1.2.2.2.2 } := by
  unfold restRd; rw [if_neg (by omega), if_neg (by omega), if_neg (by omega), if_neg (by omega), if_neg (by omega), if_pos rfl]
theorem restRd_9 : restRd 9 = bnd (nu 1) fun n => bnd (nu 1) fun m => rt { noOrd with k := 9, n := n, m := m } := by
  unfold restRd; rw [if_neg (by omega), if_neg (by omega), if_neg (by omega), if_neg (by omega), if_neg (by omega), if_neg (by omega), if_pos rfl]
theorem restRd_no {k : Int} (h : k < 2 ∨ 9 < k) : restRd k = rt { noOrd with k := k } := by
  unfold restRd; rw [if_neg (by omega), if_neg (by omega), if_neg (by omega), if_neg (by omega), if_neg (by omega), if_neg (by omega), if_neg (by omega)]
section
variable {o : OrdV}
theorem restB_r (h : o.k = 2 ∨ o.k = 3) : restB o = ruleB o.r := if_pos h
theorem restB_1 (h : o.k = 1) : restB o = [] := by simp [restB, h]
theorem restB_4 (h : o.k = 4) : restB o = dg 1 o.n := by simp [restB, h]
theorem restB_5 (h : o.k = 5) : restB o = dg 1 o.n ++ dg 2 o.m := by simp [restB, h]
theorem restB_6 (h : o.k = 6) : restB o = dg 4 o.n := by simp [restB, h]
theorem restB_7 (h : o.k = 7) : restB o = dg 4 o.n ++ dg 2 o.m := by simp [restB, h]
theorem restB_8 (h : o.k = 8) : restB o = dg 2 9 ++ frm 2 (qB o.f o.p o.t o.q o.z) := by simp [restB, h]
theorem restB_9 (h : o.k = 9) : restB o = dg 1 o.n ++ dg 1 o.m := by simp [restB, h]
end
theorem rd_rest (o : OrdV) (h : okOrd o) (h8 : u8M o.r.x) (R : List Int) : restRd o.k (restB o ++ R, 0) = (o, (R, 0)) := by
  obtain ⟨k, n, m, r, f, p, t, q, z⟩ := o
  obtain ⟨hn, hr, hp⟩ := h
  unfold okNM okRu okPr zeroQ at *
  simp only [within] at hn hr hp h8 ⊢
  rcases hn with ⟨rfl, rfl, rfl⟩ | ⟨rfl, rfl, rfl⟩ | ⟨rfl, rfl, rfl⟩ | ⟨rfl, hn, rfl⟩ | ⟨rfl, hn, hm⟩ | ⟨rfl, hn, rfl⟩ | ⟨rfl, hn, hm⟩ | ⟨rfl, rfl, rfl⟩ | ⟨rfl, hn, hm⟩
  · rw [if_neg (by omega)] at hr hp
    obtain ⟨rfl, rfl, rfl, rfl, rfl⟩ := hp
    rw [zeroR_eq hr, restRd_no (by omega), restB_1 rfl]
    rfl
  · rw [if_pos (by omega)] at hr
    rw [if_neg (by omega)] at hp
    obtain ⟨rfl, rfl, rfl, rfl, rfl⟩ := hp
    rw [restRd_r (by omega), restB_r (by simp), bnd_eq (rd_rule r hr h8 R)]
    rfl
  · rw [if_pos (by omega)] at hr
    rw [if_neg (by omega)] at hp
    obtain ⟨rfl, rfl, rfl, rfl, rfl⟩ := hp
    rw [restRd_r (by omega), restB_r (by simp), bnd_eq (rd_rule r hr h8 R)]
    rfl
  · rw [if_neg (by omega)] at hr hp
    obtain ⟨rfl, rfl, rfl, rfl, rfl⟩ := hp
    rw [zeroR_eq hr]
    rw [restRd_4, restB_4 rfl]
    rw [bnd_eq (nu_piece 1 (by omega) 1 rfl n (by omega) _)]
    rfl
  · rw [if_neg (by omega)] at hr hp
    obtain ⟨rfl, rfl, rfl, rfl, rfl⟩ := hp
    rw [zeroR_eq hr]
    rw [restRd_5, restB_5 rfl]
    rw [List.append_assoc, bnd_eq (nu_piece 1 (by omega) 1 rfl n (by omega) _), bnd_eq (nu_piece 2 (by omega) 2 rfl m (by omega) _)]
    rfl
  · rw [if_neg (by omega)] at hr hp
    obtain ⟨rfl, rfl, rfl, rfl, rfl⟩ := hp
    rw [zeroR_eq hr]
    rw [restRd_6, restB_6 rfl]
    rw [bnd_eq (nu_piece 4 (by omega) 4 rfl n (by omega) _)]
    rfl
  · rw [if_neg (by omega)] at hr hp
    obtain ⟨rfl, rfl, rfl, rfl, rfl⟩ := hp
    rw [zeroR_eq hr]
    rw [restRd_7, restB_7 rfl]
    rw [List.append_assoc, bnd_eq (nu_piece 4 (by omega) 4 rfl n (by omega) _), bnd_eq (nu_piece 2 (by omega) 2 rfl m (by omega) _)]
    rfl
  · rw [if_neg (by omega)] at hr
    rw [if_pos rfl] at hp
    rw [zeroR_eq hr]
    rw [restRd_8, restB_8 rfl]
    have e9 : (frm 2 (qB f p t q z)).length = 9 := by rw [frm_len, qB_len]
    have et : tx ((dg 2 9 ++ frm 2 (qB f p t q z)) ++ R, 0) = (frm 2 (qB f p t q z), (R, 0)) := by
      have := textR_piece (frm 2 (qB f p t q z)) R (by omega)
      rw [e9] at this
      exact this
    rw [bnd_eq et, parseQ_bytes hp.1]
    rfl
  · rw [if_neg (by omega)] at hr hp
    obtain ⟨rfl, rfl, rfl, rfl, rfl⟩ := hp
    rw [zeroR_eq hr]
    rw [restRd_9, restB_9 rfl]
    rw [List.append_assoc, bnd_eq (nu_piece 1 (by omega) 1 rfl n (by omega) _), bnd_eq (nu_piece 1 (by omega) 1 rfl m (by omega) _)]
    rfl
theorem okNM_k {o : OrdV} (h : okNM o) : 1 ≤ o.k ∧ o.k ≤ 9 := by unfold okNM at h; omega
theorem rd_ord (o : OrdV) (h : okOrd o) (h8 : u8M o.r.x) (R : List Int) : ordRd (ordB o ++ R, 0) = (o, (R, 0)) := by
  have := okNM_k h.1
  unfold ordB ordRd
  rw [List.append_assoc, bnd_eq (nu_piece 1 (by omega) 1 rfl o.k (by omega) _)]
  exact rd_rest o h h8 R
/-- What has bytes is read of them as it was. -/
theorem parseO_bytes {o : OrdV} (h : okOrd o) (h8 : u8M o.r.x) : parseO (ordB o) = (o, 0) := by
  have := rd_ord o h h8 []
  rw [List.append_nil] at this
  unfold parseO
  rw [this, if_neg (by simp), if_pos ⟨rfl, h⟩]
/-- Cut anywhere they end too early; with more behind them they are none's. -/
theorem parseO_cut {o : OrdV} (h : okOrd o) (h8 : u8M o.r.x) (i : Nat) (hi : i < (ordB o).length) : (parseO ((ordB o).take i)).2 = 3 := by
  have := rd_ord o h h8 []
  rw [List.append_nil] at this
  obtain ⟨l, e, _, hc⟩ := Fit.ord.1.2 _ _ _ this
  rw [List.append_nil] at e
  subst e
  have := hc i hi
  unfold parseO
  rw [this, if_pos (by simp)]
theorem parseO_more {o : OrdV} (h : okOrd o) (h8 : u8M o.r.x) (R : List Int) (hR : R ≠ []) : parseO (ordB o ++ R) = (noOrd, 4) := by
  unfold parseO
  rw [rd_ord o h h8 R, if_neg (by simp), if_neg (fun hh => hR (List.eq_nil_of_length_eq_zero hh.1))]
end Go.Proofs.Ytcolklkjaifplaa.Oct
