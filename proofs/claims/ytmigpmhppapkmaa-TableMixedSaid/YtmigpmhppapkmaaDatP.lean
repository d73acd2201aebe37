/- Plain facts of layer 3 (datum), and of any frame of which one byte is turned. No Go in sight. -/
import Derived.Test.YtmigpmhppapkmaaOctZ
namespace Go.Proofs.Ytmigpmhppapkmaa.Oct
open Go.RowKit
set_option linter.unusedVariables false

/-- The bits of a byte, the other way round. -/
def rev8 (x : Nat) : Nat := (List.range 8).foldl (fun s j => if x.testBit (7 - j) then s + 2 ^ j else s) 0
theorem rev8_bit : ∀ x, x < 256 → ∀ j, j < 8 → (rev8 x).testBit j = x.testBit (7 - j) := by decide +kernel
theorem rev8_none : ∀ x, x < 256 → (∀ j, j < 8 → (rev8 x).testBit j = false) → x = 0 := by decide +kernel
theorem rev8_zero : ∀ j, j < 8 → (rev8 0).testBit j = false := by decide +kernel
/-- Of what sums to nought, with one byte turned, the sum is nought just if no bit of it was turned. -/
theorem one_byte (f : List Int) (hf : By f) (h0 : crcN 65535 f = 0) (i : Nat) (hi : i < f.length) (x : Int) (hx : 0 ≤ x ∧ x < 256) :
    crcN 65535 (f.set i (bits .xor .u8 (f.getD i 0) x)) = 0 ↔ x = 0 := by
  have hb := hf.getD i
  have hv := xor_by _ x hb hx
  have hxor : (bits .xor .u8 (f.getD i 0) x).toNat = (f.getD i 0).toNat ^^^ x.toNat := by
    rw [u8_xor _ x hb.1 hb.2 hx.1 hx.2, Int.toNat_natCast]
  have key := burst f (f.set i (bits .xor .u8 (f.getD i 0) x)) f.length (8 * i) (rev8 x.toNat) 8 hf (hf.set i hv) rfl (by simp) (by omega) (by omega) (fun p hp => by
    unfold bl bb errB
    by_cases h : p / 8 = i
    · subst h
      rw [List.getD_eq_getElem?_getD (l := f.set _ _), List.getElem?_set_self hi, Option.getD_some, hxor, Nat.testBit_xor]
      congr 1
      rw [decide_eq_true (by omega), Bool.true_and, rev8_bit _ (by omega) _ (by omega)]
      congr 1
      omega
    · rw [List.getD_eq_getElem?_getD (l := f.set _ _), List.getElem?_set_ne (by omega), ← List.getD_eq_getElem?_getD, decide_eq_false (by omega)]
      simp) h0
  rw [key]
  constructor
  · intro h
    have := rev8_none x.toNat (by omega) h
    omega
  · rintro rfl
    exact rev8_zero
/-- What is opened of a frame of which one byte is turned. -/
theorem open_turned (f : List Int) (hf : By f) (h0 : crcN 65535 f = 0) (h3 : 3 ≤ f.length) (h5 : f.length ≤ 512) (i : Nat) (hi : i < f.length) (x : Int) (hx : 0 ≤ x ∧ x < 256) :
    (openP (f.set i (bits .xor .u8 (f.getD i 0) x))).2.2 = if x = 0 then 0 else 30 := by
  rw [open_err _ (hf.set i (xor_by _ x (hf.getD i) hx)) (by simpa using h3) (by simpa using h5)]
  have := one_byte f hf h0 i hi x hx
  by_cases h : x = 0
  · rw [if_pos h, if_pos (this.2 h)]
  · rw [if_neg h, if_neg (fun e => h (this.1 e))]

/-- A datum's body. -/
def dB (v h i a b c : Int) : List Int := dg 1 v ++ (dg 1 h ++ (dg 4 i ++ (dg 1 a ++ (dg 1 b ++ dg 1 c))))
theorem dB_by (v h i a b c : Int) : By (dB v h i a b c) := (dg_by _ _).append ((dg_by _ _).append ((dg_by _ _).append ((dg_by _ _).append ((dg_by _ _).append (dg_by _ _)))))
theorem dB_len (v h i a b c : Int) : (dB v h i a b c).length = 9 := by simp [dB, dg_len]
/-- The readings of a datum, one behind the other: what they tell, what is left, what was wrong first. -/
def r1 (l : List Int) := numR 1 l 0
def r2 (l : List Int) := numR 1 (r1 l).2.1 (r1 l).2.2
def r3 (l : List Int) := numR 4 (r2 l).2.1 (r2 l).2.2
def r4 (l : List Int) := numR 1 (r3 l).2.1 (r3 l).2.2
def r5 (l : List Int) := numR 1 (r4 l).2.1 (r4 l).2.2
def r6 (l : List Int) := numR 1 (r5 l).2.1 (r5 l).2.2
theorem one_piece (v : Int) (h : 0 ≤ v ∧ v < 256) (R : List Int) : numR 1 (dg 1 v ++ R) 0 = (v, R, 0) := numR_piece 1 (by omega) v h.1 (by omega) R
theorem four_piece (v : Int) (h : 0 ≤ v ∧ v < 4294967296) (R : List Int) : numR 4 (dg 4 v ++ R) 0 = (v, R, 0) := numR_piece 4 (by omega) v h.1 (by omega) R
theorem read_dB (v h i a b c : Int) (hv : 0 ≤ v ∧ v < 256) (hh : 0 ≤ h ∧ h < 256) (hi : 0 ≤ i ∧ i < 4294967296) (ha : 0 ≤ a ∧ a < 256) (hb : 0 ≤ b ∧ b < 256) (hc : 0 ≤ c ∧ c < 256) (R : List Int) :
    let l := dB v h i a b c ++ R
    (r1 l).1 = v ∧ (r2 l).1 = h ∧ (r3 l).1 = i ∧ (r4 l).1 = a ∧ (r5 l).1 = b ∧ r6 l = (c, R, 0) := by
  intro l
  have e : l = dg 1 v ++ (dg 1 h ++ (dg 4 i ++ (dg 1 a ++ (dg 1 b ++ (dg 1 c ++ R))))) := by simp [l, dB, List.append_assoc]
  have e1 : r1 l = (v, dg 1 h ++ (dg 4 i ++ (dg 1 a ++ (dg 1 b ++ (dg 1 c ++ R)))), 0) := by rw [e]; exact one_piece v hv _
  have e2 : r2 l = (h, dg 4 i ++ (dg 1 a ++ (dg 1 b ++ (dg 1 c ++ R))), 0) := by unfold r2; rw [e1]; exact one_piece h hh _
  have e3 : r3 l = (i, dg 1 a ++ (dg 1 b ++ (dg 1 c ++ R)), 0) := by unfold r3; rw [e2]; exact four_piece i hi _
  have e4 : r4 l = (a, dg 1 b ++ (dg 1 c ++ R), 0) := by unfold r4; rw [e3]; exact one_piece a ha _
  have e5 : r5 l = (b, dg 1 c ++ R, 0) := by unfold r5; rw [e4]; exact one_piece b hb _
  have e6 : r6 l = (c, R, 0) := by unfold r6; rw [e5]; exact one_piece c hc _
  rw [e1, e2, e3, e4, e5]
  exact ⟨rfl, rfl, rfl, rfl, rfl, e6⟩
/-- Nine bytes are a datum's body. -/
theorem nine (l : List Int) (hl : By l) (h9 : l.length = 9) : ∃ v h i a b c : Int, l = dB v h i a b c ∧ (0 ≤ v ∧ v < 256) ∧ (0 ≤ h ∧ h < 256) ∧ (0 ≤ i ∧ i < 4294967296) ∧ (0 ≤ a ∧ a < 256) ∧ (0 ≤ b ∧ b < 256) ∧ (0 ≤ c ∧ c < 256) := by
  obtain ⟨x0, l, rfl⟩ := List.exists_cons_of_length_eq_add_one (n := 8) h9
  obtain ⟨x1, l, rfl⟩ := List.exists_cons_of_length_eq_add_one (n := 7) (by simpa using h9)
  obtain ⟨x2, l, rfl⟩ := List.exists_cons_of_length_eq_add_one (n := 6) (by simpa using h9)
  obtain ⟨x3, l, rfl⟩ := List.exists_cons_of_length_eq_add_one (n := 5) (by simpa using h9)
  obtain ⟨x4, l, rfl⟩ := List.exists_cons_of_length_eq_add_one (n := 4) (by simpa using h9)
  obtain ⟨x5, l, rfl⟩ := List.exists_cons_of_length_eq_add_one (n := 3) (by simpa using h9)
  obtain ⟨x6, l, rfl⟩ := List.exists_cons_of_length_eq_add_one (n := 2) (by simpa using h9)
  obtain ⟨x7, l, rfl⟩ := List.exists_cons_of_length_eq_add_one (n := 1) (by simpa using h9)
  obtain ⟨x8, l, rfl⟩ := List.exists_cons_of_length_eq_add_one (n := 0) (by simpa using h9)
  obtain rfl : l = [] := List.eq_nil_of_length_eq_zero (by simpa using h9)
  have h0 := hl x0 (by simp)
  have h1 := hl x1 (by simp)
  have h2 := hl x2 (by simp)
  have h3 := hl x3 (by simp)
  have h4 := hl x4 (by simp)
  have h5 := hl x5 (by simp)
  refine ⟨x0, x1, x2 * 16777216 + x3 * 65536 + x4 * 256 + x5, x6, x7, x8, ?_, h0, h1, by omega, hl x6 (by simp), hl x7 (by simp), hl x8 (by simp)⟩
  have h6 := hl x6 (by simp)
  have h7 := hl x7 (by simp)
  have h8 := hl x8 (by simp)
  simp [dB, dg]
  omega
/-- One reading: it goes well, or it does not, and then nothing is left. -/
theorem numR_step (s : Nat) (hs : s = 1 ∨ s = 2 ∨ s = 4) (S : Int) (hS : S = s) (m : List Int) (e : Int) (he : e ≠ 0 → m.length = 0) :
    ((numR S m e).2.2 = 0 ∧ e = 0 ∧ s ≤ m.length ∧ (numR S m e).2.1.length = m.length - s) ∨ ((numR S m e).2.2 ≠ 0 ∧ (numR S m e).2.1.length = 0 ∧ (e ≠ 0 ∨ m.length < s)) := by
  subst hS
  unfold numR
  by_cases h : e = 0
  · subst h
    rw [if_neg (by simp), if_pos (by omega)]
    by_cases h2 : m.length < s
    · rw [if_pos (by omega)]; exact .inr ⟨by simp, rfl, .inr h2⟩
    · rw [if_neg (by omega)]; exact .inl ⟨rfl, rfl, by omega, by simp⟩
  · rw [if_pos h]; exact .inr ⟨h, he h, .inl h⟩
/-- Whether nothing was wrong, and nothing is left, hangs on how many bytes there are. -/
theorem r6_end (l : List Int) : ((r6 l).2.2 = 0 ∧ (r6 l).2.1.length = 0) ↔ l.length = 9 := by
  have s1 : ((r1 l).2.2 = 0 ∧ 0 = (0 : Int) ∧ 1 ≤ l.length ∧ (r1 l).2.1.length = l.length - 1) ∨ ((r1 l).2.2 ≠ 0 ∧ (r1 l).2.1.length = 0 ∧ (0 ≠ (0 : Int) ∨ l.length < 1)) := numR_step 1 (by omega) 1 rfl l 0 (by simp)
  have s2 : ((r2 l).2.2 = 0 ∧ (r1 l).2.2 = (0 : Int) ∧ 1 ≤ (r1 l).2.1.length ∧ (r2 l).2.1.length = (r1 l).2.1.length - 1) ∨ ((r2 l).2.2 ≠ 0 ∧ (r2 l).2.1.length = 0 ∧ ((r1 l).2.2 ≠ (0 : Int) ∨ (r1 l).2.1.length < 1)) := numR_step 1 (by omega) 1 rfl (r1 l).2.1 (r1 l).2.2 (by omega)
  have s3 : ((r3 l).2.2 = 0 ∧ (r2 l).2.2 = (0 : Int) ∧ 4 ≤ (r2 l).2.1.length ∧ (r3 l).2.1.length = (r2 l).2.1.length - 4) ∨ ((r3 l).2.2 ≠ 0 ∧ (r3 l).2.1.length = 0 ∧ ((r2 l).2.2 ≠ (0 : Int) ∨ (r2 l).2.1.length < 4)) := numR_step 4 (by omega) 4 rfl (r2 l).2.1 (r2 l).2.2 (by omega)
  have s4 : ((r4 l).2.2 = 0 ∧ (r3 l).2.2 = (0 : Int) ∧ 1 ≤ (r3 l).2.1.length ∧ (r4 l).2.1.length = (r3 l).2.1.length - 1) ∨ ((r4 l).2.2 ≠ 0 ∧ (r4 l).2.1.length = 0 ∧ ((r3 l).2.2 ≠ (0 : Int) ∨ (r3 l).2.1.length < 1)) := numR_step 1 (by omega) 1 rfl (r3 l).2.1 (r3 l).2.2 (by omega)
  have s5 : ((r5 l).2.2 = 0 ∧ (r4 l).2.2 = (0 : Int) ∧ 1 ≤ (r4 l).2.1.length ∧ (r5 l).2.1.length = (r4 l).2.1.length - 1) ∨ ((r5 l).2.2 ≠ 0 ∧ (r5 l).2.1.length = 0 ∧ ((r4 l).2.2 ≠ (0 : Int) ∨ (r4 l).2.1.length < 1)) := numR_step 1 (by omega) 1 rfl (r4 l).2.1 (r4 l).2.2 (by omega)
  have s6 : ((r6 l).2.2 = 0 ∧ (r5 l).2.2 = (0 : Int) ∧ 1 ≤ (r5 l).2.1.length ∧ (r6 l).2.1.length = (r5 l).2.1.length - 1) ∨ ((r6 l).2.2 ≠ 0 ∧ (r6 l).2.1.length = 0 ∧ ((r5 l).2.2 ≠ (0 : Int) ∨ (r5 l).2.1.length < 1)) := numR_step 1 (by omega) 1 rfl (r5 l).2.1 (r5 l).2.2 (by omega)
  omega
/-- What can be opened is a frame. -/
theorem open_inv (l : List Int) (hl : By l) (h : (openP l).2.2 = 0) : l = frm (openP l).1 (openP l).2.1 ∧ (0 ≤ (openP l).1 ∧ (openP l).1 < 256) ∧ (openP l).2.1.length + 3 = l.length ∧ l.length ≤ 512 := by
  unfold openP at h ⊢
  by_cases h5 : 512 < l.length
  · rw [if_pos h5] at h; simp at h
  · rw [if_neg h5] at h ⊢
    by_cases h3 : l.length < 3
    · rw [if_pos h3] at h; simp at h
    · rw [if_neg h3] at h ⊢
      by_cases hs : sumP (l.take (l.length - 2)) = (num (l.drop (l.length - 2)) : Nat)
      · rw [if_pos hs]
        have hb0 := hl.getD 0
        have h1 := num_one l hl (by omega)
        have h2 := num_two l l.length hl rfl (by omega)
        have ha := hl.getD (l.length - 2)
        have hb := hl.getD (l.length - 1)
        have e2 : l.drop (l.length - 2) = [l.getD (l.length - 2) 0, l.getD (l.length - 1) 0] := by
          rw [List.drop_eq_getElem_cons (by omega), show l.length - 2 + 1 = l.length - 1 from by omega, List.drop_eq_getElem_cons (by omega), show l.length - 1 + 1 = l.length from by omega, List.drop_eq_nil_of_le (by omega)]
          rw [List.getD_eq_getElem?_getD, List.getD_eq_getElem?_getD, List.getElem?_eq_getElem (by omega), List.getElem?_eq_getElem (by omega)]; rfl
        have e1 : l.getD 0 0 :: (l.drop 1).take (l.length - 3) = l.take (l.length - 2) := by
          cases l with
          | nil => simp at h3
          | cons x l => simp only [List.length_cons] at h3 ⊢; rw [show l.length + 1 - 2 = (l.length + 1 - 3) + 1 from by omega, List.take_succ_cons]; rfl
        refine ⟨?_, by rw [h1]; exact hb0, by simp; omega, by omega⟩
        unfold frm
        rw [h1, e1, hs, h2]
        have q1 : (256 * l.getD (l.length - 2) 0 + l.getD (l.length - 1) 0) / 256 = l.getD (l.length - 2) 0 := by omega
        have q2 : (256 * l.getD (l.length - 2) 0 + l.getD (l.length - 1) 0) % 256 = l.getD (l.length - 1) 0 := by omega
        rw [q1, q2, ← e2, List.take_append_drop]
      · rw [if_neg hs] at h; simp at h

/-- A datum may be. -/
def okD (v h i : Int) : Prop := (0 ≤ v ∧ v ≤ 200) ∧ (0 ≤ h ∧ h ≤ 12) ∧ (0 ≤ i ∧ i ≤ 4294967295)
instance (v h i : Int) : Decidable (okD v h i) := by unfold okD; infer_instance
/-- Its bytes. -/
def bytesD (v h i a b c : Int) : List Int × Int := if okD v h i then (frm 1 (dB v h i a b c), 0) else ([], 2)
/-- What bytes say: the six numbers, and what was wrong. -/
def parseD (l : List Int) : (Int × Int × Int × Int × Int × Int) × Int :=
  if (openP l).2.2 ≠ 0 then ((0, 0, 0, 0, 0, 0), (openP l).2.2)
  else if (openP l).1 = 1 ∧ ((r6 (openP l).2.1).2.2 = 0 ∧ (r6 (openP l).2.1).2.1.length = 0) ∧ okD (r1 (openP l).2.1).1 (r2 (openP l).2.1).1 (r3 (openP l).2.1).1 then
    (((r1 (openP l).2.1).1, (r2 (openP l).2.1).1, (r3 (openP l).2.1).1, (r4 (openP l).2.1).1, (r5 (openP l).2.1).1, (r6 (openP l).2.1).1), 0)
  else ((0, 0, 0, 0, 0, 0), 4)
section
variable {v h i a b c : Int}
theorem okD_open (ok : okD v h i) : openP (frm 1 (dB v h i a b c)) = (1, dB v h i a b c, 0) :=
  open_frm 1 _ (by omega) (dB_by _ _ _ _ _ _) (by rw [dB_len]; omega)
theorem parse_bytes (ok : okD v h i) (ha : 0 ≤ a ∧ a < 256) (hb : 0 ≤ b ∧ b < 256) (hc : 0 ≤ c ∧ c < 256) : parseD (frm 1 (dB v h i a b c)) = ((v, h, i, a, b, c), 0) := by
  have ok' := ok
  obtain ⟨⟨_, _⟩, ⟨_, _⟩, ⟨_, _⟩⟩ := ok'
  have e := read_dB v h i a b c (by omega) (by omega) (by omega) ha hb hc []
  simp only [List.append_nil] at e
  obtain ⟨e1, e2, e3, e4, e5, e6⟩ := e
  unfold parseD
  rw [okD_open ok, if_neg (by simp)]
  simp only [e1, e2, e3, e4, e5, e6]
  rw [if_pos ⟨trivial, ⟨trivial, rfl⟩, ok⟩]
/-- What can be read has just these bytes. -/
theorem parse_again (l : List Int) (hl : By l) (h0 : (parseD l).2 = 0) :
    ∃ v h i a b c : Int, parseD l = ((v, h, i, a, b, c), 0) ∧ okD v h i ∧ (0 ≤ a ∧ a < 256) ∧ (0 ≤ b ∧ b < 256) ∧ (0 ≤ c ∧ c < 256) ∧ l = frm 1 (dB v h i a b c) := by
  by_cases he : (openP l).2.2 = 0
  · obtain ⟨e1, e2, e3, e4⟩ := open_inv l hl he
    have hby := openP_by l hl
    have hp : parseD l = parseD l := rfl
    unfold parseD at h0 hp
    rw [if_neg (by simpa using he)] at h0 hp
    split at h0
    · rename_i hc
      rw [if_pos hc] at hp
      obtain ⟨c1, c2, c3⟩ := hc
      have h9 := (r6_end _).1 c2
      obtain ⟨v, h, i, a, b, c, e, hv, hh, hi, ha, hb, hc⟩ := nine _ hby h9
      have er := read_dB v h i a b c hv hh hi ha hb hc []
      simp only [List.append_nil] at er
      rw [← e] at er
      obtain ⟨q1, q2, q3, q4, q5, q6⟩ := er
      rw [q1, q2, q3] at c3
      refine ⟨v, h, i, a, b, c, ?_, c3, ha, hb, hc, ?_⟩
      · rw [parseD, if_neg (by simpa using he), if_pos ⟨c1, c2, by rw [q1, q2, q3]; exact c3⟩, q1, q2, q3, q4, q5, q6]
      · rw [e1, c1, e]
    · simp at h0
  · unfold parseD at h0
    rw [if_pos he] at h0
    exact absurd h0 he
/-- With a byte turned they are none's. -/
theorem parse_turned (ok : okD v h i) (ha : 0 ≤ a ∧ a < 256) (hb : 0 ≤ b ∧ b < 256) (hc : 0 ≤ c ∧ c < 256) (j : Nat) (hj : j < 12) (x : Int) (hx : 0 ≤ x ∧ x < 256) :
    (parseD ((frm 1 (dB v h i a b c)).set j (bits .xor .u8 ((frm 1 (dB v h i a b c)).getD j 0) x))).2 = 0 ↔ x = 0 := by
  have hlen : (frm 1 (dB v h i a b c)).length = 12 := by rw [frm_len, dB_len]
  have hby := frm_by 1 (dB v h i a b c) (by omega) (dB_by _ _ _ _ _ _)
  have ho := open_turned _ hby (frm_zero 1 _ (by omega) (dB_by _ _ _ _ _ _)) (by omega) (by omega) j (by omega) x hx
  by_cases h : x = 0
  · subst h
    have hg := hby.getD j
    have e : bits .xor .u8 ((frm 1 (dB v h i a b c)).getD j 0) 0 = (frm 1 (dB v h i a b c)).getD j 0 := by
      generalize (frm 1 (dB v h i a b c)).getD j 0 = y at hg
      rw [u8_xor y 0 hg.1 hg.2 (by omega) (by omega), show (0 : Int).toNat = 0 from rfl, Nat.xor_zero]
      omega
    have e2 : (frm 1 (dB v h i a b c)).set j ((frm 1 (dB v h i a b c)).getD j 0) = frm 1 (dB v h i a b c) := by
      rw [List.getD_eq_getElem?_getD, List.getElem?_eq_getElem (by omega), Option.getD_some, List.set_getElem_self]
    rw [e, e2, parse_bytes ok ha hb hc]
  · rw [if_neg h] at ho
    unfold parseD
    rw [if_pos (by rw [ho]; simp), ho]
    simp [h]
end
end Go.Proofs.Ytmigpmhppapkmaa.Oct
