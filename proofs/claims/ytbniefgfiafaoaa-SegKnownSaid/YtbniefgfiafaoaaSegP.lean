/- Plain facts of layer 5 (seg). No Go in sight. -/
import Derived.Test.YtbniefgfiafaoaaOctZ
namespace Go.Proofs.Ytbniefgfiafaoaa.Oct
open Go.RowKit
set_option linter.unusedVariables false

/-- A segment: its eight numbers, its message. -/
structure SegV where
  k : Int
  t : Int
  f : Int
  h : Int
  p : Int
  o : Int
  s : Int
  a : Int
  b : List Int
/-- No segment. -/
def noSeg : SegV := ⟨0, 0, 0, 0, 0, 0, 0, 0, []⟩
/-- Who it is for, or whom it is from. -/
def wayS (t f : Int) : Prop := (f = 0 ∧ (1 ≤ t ∧ t ≤ 6)) ∨ (t = 0 ∧ (1 ≤ f ∧ f ≤ 6))
/-- A segment may be, with a message of m bytes. -/
def okS (k t f h p o s a : Int) (m : Nat) : Prop :=
  (0 ≤ h ∧ h ≤ 12) ∧
  ((k = 1 ∧ (f = 0 ∧ (1 ≤ t ∧ t ≤ 6)) ∧ p = 0 ∧ o = 0 ∧ s = 0 ∧ a = 0 ∧ m = 0) ∨
   (k = 2 ∧ (t = 0 ∧ (1 ≤ f ∧ f ≤ 6)) ∧ p = 0 ∧ (0 ≤ o ∧ o ≤ 4294967295) ∧ s = 0 ∧ a = 0 ∧ m = 0) ∨
   (k = 3 ∧ (f = 0 ∧ (1 ≤ t ∧ t ≤ 6)) ∧ (1 ≤ p ∧ p ≤ 4294967295) ∧ (0 ≤ o ∧ o ≤ 4294967295) ∧ s = 0 ∧ a = 0 ∧ m = 0) ∨
   (k = 4 ∧ wayS t f ∧ (1 ≤ p ∧ p ≤ 4294967295) ∧ o = 0 ∧ s = 0 ∧ (0 ≤ a ∧ a ≤ 65535) ∧ m = 0) ∨
   (k = 5 ∧ wayS t f ∧ (1 ≤ p ∧ p ≤ 4294967295) ∧ o = 0 ∧ (0 ≤ s ∧ s ≤ 65535) ∧ a = 0 ∧ (1 ≤ m ∧ m ≤ 256)))
instance (t f : Int) : Decidable (wayS t f) := by unfold wayS; infer_instance
instance (k t f h p o s a : Int) (m : Nat) : Decidable (okS k t f h p o s a m) := by unfold okS; infer_instance
theorem okS_bd {k t f h p o s a : Int} {m : Nat} (ok : okS k t f h p o s a m) :
    (1 ≤ k ∧ k ≤ 5) ∧ (0 ≤ t ∧ t ≤ 6) ∧ (0 ≤ f ∧ f ≤ 6) ∧ (0 ≤ h ∧ h ≤ 12) ∧ (0 ≤ p ∧ p ≤ 4294967295) ∧ (0 ≤ o ∧ o ≤ 4294967295) ∧ (0 ≤ s ∧ s ≤ 65535) ∧ (0 ≤ a ∧ a ≤ 65535) ∧ m ≤ 256 := by
  unfold okS wayS at ok
  omega
/-- What Check answers. -/
def checkS (k t f h p o s a : Int) (m : Nat) : Int := if okS k t f h p o s a m then 0 else 2
theorem checkS_zero (k t f h p o s a : Int) (m : Nat) : checkS k t f h p o s a m = 0 ↔ okS k t f h p o s a m := by
  unfold checkS
  split
  · rename_i h; exact ⟨fun _ => h, fun _ => rfl⟩
  · rename_i h; exact ⟨fun e => by omega, fun e => absurd e h⟩

/-- A segment's body. -/
def sB (k t f h p o s a : Int) (l : List Int) : List Int := dg 1 k ++ (dg 1 t ++ (dg 1 f ++ (dg 1 h ++ (dg 4 p ++ (dg 4 o ++ (dg 2 s ++ (dg 2 a ++ (dg 2 l.length ++ l))))))))
theorem sB_by (k t f h p o s a : Int) {l : List Int} (hl : By l) : By (sB k t f h p o s a l) :=
  (dg_by _ _).append ((dg_by _ _).append ((dg_by _ _).append ((dg_by _ _).append ((dg_by _ _).append ((dg_by _ _).append ((dg_by _ _).append ((dg_by _ _).append ((dg_by _ _).append hl))))))))
theorem sB_len (k t f h p o s a : Int) (l : List Int) : (sB k t f h p o s a l).length = l.length + 18 := by simp [sB, dg_len]; omega
/-- Its bytes. -/
def bytesS (k t f h p o s a : Int) (l : List Int) : List Int × Int := if okS k t f h p o s a l.length then (frm 3 (sB k t f h p o s a l), 0) else ([], 2)
theorem bytesS_by (k t f h p o s a : Int) {l : List Int} (hl : By l) : By (bytesS k t f h p o s a l).1 := by
  unfold bytesS
  split
  · exact frm_by 3 _ (by omega) (sB_by _ _ _ _ _ _ _ _ hl)
  · exact By.nil
theorem bytesS_ok {k t f h p o s a : Int} {l : List Int} (hl : By l) (ok : okS k t f h p o s a l.length) : bytesS k t f h p o s a l = sealP 3 (sB k t f h p o s a l) := by
  have := okS_bd ok
  unfold bytesS
  rw [if_pos ok, seal_frm 3 _ (by omega) (sB_by _ _ _ _ _ _ _ _ hl) (by rw [sB_len]; omega)]

/-- The readings of a segment, one behind the other. -/
def u1 (l : List Int) := numR 1 l 0
def u2 (l : List Int) := numR 1 (u1 l).2.1 (u1 l).2.2
def u3 (l : List Int) := numR 1 (u2 l).2.1 (u2 l).2.2
def u4 (l : List Int) := numR 1 (u3 l).2.1 (u3 l).2.2
def u5 (l : List Int) := numR 4 (u4 l).2.1 (u4 l).2.2
def u6 (l : List Int) := numR 4 (u5 l).2.1 (u5 l).2.2
def u7 (l : List Int) := numR 2 (u6 l).2.1 (u6 l).2.2
def u8 (l : List Int) := numR 2 (u7 l).2.1 (u7 l).2.2
def u9 (l : List Int) := textR (u8 l).2.1 (u8 l).2.2
/-- What they tell. -/
def segOf (l : List Int) : SegV := ⟨(u1 l).1, (u2 l).1, (u3 l).1, (u4 l).1, (u5 l).1, (u6 l).1, (u7 l).1, (u8 l).1, (u9 l).1⟩
theorem one_piece (v : Int) (h : 0 ≤ v ∧ v < 256) (R : List Int) : numR 1 (dg 1 v ++ R) 0 = (v, R, 0) := numR_piece 1 (by omega) v h.1 (by omega) R
theorem two_piece (v : Int) (h : 0 ≤ v ∧ v < 65536) (R : List Int) : numR 2 (dg 2 v ++ R) 0 = (v, R, 0) := numR_piece 2 (by omega) v h.1 (by omega) R
theorem four_piece (v : Int) (h : 0 ≤ v ∧ v < 4294967296) (R : List Int) : numR 4 (dg 4 v ++ R) 0 = (v, R, 0) := numR_piece 4 (by omega) v h.1 (by omega) R
theorem read_sB (k t f h p o s a : Int) (l : List Int) (hk : 0 ≤ k ∧ k < 256) (ht : 0 ≤ t ∧ t < 256) (hf : 0 ≤ f ∧ f < 256) (hh : 0 ≤ h ∧ h < 256) (hp : 0 ≤ p ∧ p < 4294967296) (ho : 0 ≤ o ∧ o < 4294967296)
    (hs : 0 ≤ s ∧ s < 65536) (ha : 0 ≤ a ∧ a < 65536) (hl : l.length ≤ 65535) :
    segOf (sB k t f h p o s a l) = ⟨k, t, f, h, p, o, s, a, l⟩ ∧ u9 (sB k t f h p o s a l) = (l, [], 0) := by
  have e1 : u1 (sB k t f h p o s a l) = (k, dg 1 t ++ (dg 1 f ++ (dg 1 h ++ (dg 4 p ++ (dg 4 o ++ (dg 2 s ++ (dg 2 a ++ (dg 2 l.length ++ l))))))), 0) := one_piece k hk _
  have e2 : u2 (sB k t f h p o s a l) = (t, dg 1 f ++ (dg 1 h ++ (dg 4 p ++ (dg 4 o ++ (dg 2 s ++ (dg 2 a ++ (dg 2 l.length ++ l)))))), 0) := by unfold u2; rw [e1]; exact one_piece t ht _
  have e3 : u3 (sB k t f h p o s a l) = (f, dg 1 h ++ (dg 4 p ++ (dg 4 o ++ (dg 2 s ++ (dg 2 a ++ (dg 2 l.length ++ l))))), 0) := by unfold u3; rw [e2]; exact one_piece f hf _
  have e4 : u4 (sB k t f h p o s a l) = (h, dg 4 p ++ (dg 4 o ++ (dg 2 s ++ (dg 2 a ++ (dg 2 l.length ++ l)))), 0) := by unfold u4; rw [e3]; exact one_piece h hh _
  have e5 : u5 (sB k t f h p o s a l) = (p, dg 4 o ++ (dg 2 s ++ (dg 2 a ++ (dg 2 l.length ++ l))), 0) := by unfold u5; rw [e4]; exact four_piece p hp _
  have e6 : u6 (sB k t f h p o s a l) = (o, dg 2 s ++ (dg 2 a ++ (dg 2 l.length ++ l)), 0) := by unfold u6; rw [e5]; exact four_piece o ho _
  have e7 : u7 (sB k t f h p o s a l) = (s, dg 2 a ++ (dg 2 l.length ++ l), 0) := by unfold u7; rw [e6]; exact two_piece s hs _
  have e8 : u8 (sB k t f h p o s a l) = (a, dg 2 l.length ++ l, 0) := by unfold u8; rw [e7]; exact two_piece a ha _
  have e9 : u9 (sB k t f h p o s a l) = (l, [], 0) := by
    unfold u9
    rw [e8]
    have := textR_piece l [] hl
    rw [List.append_nil] at this
    exact this
  refine ⟨?_, e9⟩
  unfold segOf
  rw [e1, e2, e3, e4, e5, e6, e7, e8, e9]
/-- A reading that went well: the bytes ahead were the number's. -/
theorem dg_num (s : Nat) (hs : s = 1 ∨ s = 2 ∨ s = 4) (l : List Int) (hl : By l) (h : s ≤ l.length) : dg s ((num (l.take s) : Nat) : Int) = l.take s ∧ ((num (l.take s) : Nat) : Int) < 2 ^ (8 * s) := by
  rcases hs with rfl | rfl | rfl
  · obtain ⟨x0, l, rfl⟩ := List.exists_cons_of_length_pos (l := l) (by omega)
    have h0 := hl x0 (by simp)
    simp [dg, num]; omega
  · obtain ⟨x0, l, rfl⟩ := List.exists_cons_of_length_pos (l := l) (by omega)
    obtain ⟨x1, l, rfl⟩ := List.exists_cons_of_length_pos (l := l) (by simp at h; omega)
    have h0 := hl x0 (by simp)
    have h1 := hl x1 (by simp)
    simp [dg, num]; omega
  · obtain ⟨x0, l, rfl⟩ := List.exists_cons_of_length_pos (l := l) (by omega)
    obtain ⟨x1, l, rfl⟩ := List.exists_cons_of_length_pos (l := l) (by simp at h; omega)
    obtain ⟨x2, l, rfl⟩ := List.exists_cons_of_length_pos (l := l) (by simp at h; omega)
    obtain ⟨x3, l, rfl⟩ := List.exists_cons_of_length_pos (l := l) (by simp at h; omega)
    have h0 := hl x0 (by simp)
    have h1 := hl x1 (by simp)
    have h2 := hl x2 (by simp)
    have h3 := hl x3 (by simp)
    simp [dg, num]; omega
theorem numR_inv (s : Nat) (hs : s = 1 ∨ s = 2 ∨ s = 4) (S : Int) (hS : S = s) (m : List Int) (hm : By m) (e : Int) (h : (numR S m e).2.2 = 0) :
    e = 0 ∧ m = dg s (numR S m e).1 ++ (numR S m e).2.1 ∧ (0 ≤ (numR S m e).1 ∧ (numR S m e).1 < 2 ^ (8 * s)) ∧ By (numR S m e).2.1 := by
  subst hS
  unfold numR at h ⊢
  by_cases he : e = 0
  · subst he
    rw [if_neg (by simp), if_pos (by omega)] at h ⊢
    by_cases h2 : m.length < s
    · rw [if_pos (by omega)] at h; simp at h
    · rw [if_neg (by omega)]
      have := dg_num s hs m hm (by omega)
      have es : ((s : Int)).toNat = s := by omega
      rw [es]
      refine ⟨rfl, ?_, ⟨by omega, this.2⟩, hm.drop _⟩
      rw [this.1, List.take_append_drop]
  · rw [if_pos he] at h; exact absurd h he
theorem textR_inv (m : List Int) (hm : By m) (e : Int) (h : (textR m e).2.2 = 0) :
    e = 0 ∧ m = dg 2 ((textR m e).1.length : Nat) ++ ((textR m e).1 ++ (textR m e).2.1) ∧ (textR m e).1.length ≤ 65535 ∧ By (textR m e).1 := by
  unfold textR at h ⊢
  by_cases h1 : (numR 2 m e).2.2 = 0
  · obtain ⟨e0, em, ⟨hb1, hb2⟩, hby⟩ := numR_inv 2 (by omega) 2 rfl m hm e h1
    rw [if_neg (by simpa using h1)] at h ⊢
    by_cases h2 : (numR 2 m e).2.1.length < (numR 2 m e).1.toNat
    · rw [if_pos h2] at h; simp at h
    · rw [if_neg h2]
      have hlen : ((numR 2 m e).2.1.take (numR 2 m e).1.toNat).length = (numR 2 m e).1.toNat := by rw [List.length_take]; omega
      refine ⟨e0, ?_, by rw [hlen]; omega, hby.take _⟩
      simp only
      rw [hlen, List.take_append_drop, show (((numR 2 m e).1.toNat : Nat) : Int) = (numR 2 m e).1 from by omega]
      exact em
  · rw [if_pos h1] at h; exact absurd h h1
/-- A body of which all could be read, with nothing left, is a segment's body. -/
theorem sB_inv (m : List Int) (hm : By m) (h : (u9 m).2.2 = 0 ∧ (u9 m).2.1.length = 0) :
    m = sB (u1 m).1 (u2 m).1 (u3 m).1 (u4 m).1 (u5 m).1 (u6 m).1 (u7 m).1 (u8 m).1 (u9 m).1 ∧ By (u9 m).1 ∧ (u9 m).1.length ≤ 65535 := by
  have b1 : By (u1 m).2.1 := numR_by _ _ _ hm
  have b2 : By (u2 m).2.1 := numR_by _ _ _ b1
  have b3 : By (u3 m).2.1 := numR_by _ _ _ b2
  have b4 : By (u4 m).2.1 := numR_by _ _ _ b3
  have b5 : By (u5 m).2.1 := numR_by _ _ _ b4
  have b6 : By (u6 m).2.1 := numR_by _ _ _ b5
  have b7 : By (u7 m).2.1 := numR_by _ _ _ b6
  have b8 : By (u8 m).2.1 := numR_by _ _ _ b7
  obtain ⟨z8, m9, l9, b9⟩ := textR_inv (u8 m).2.1 b8 (u8 m).2.2 h.1
  obtain ⟨z7, m8, _, _⟩ := numR_inv 2 (by omega) 2 rfl (u7 m).2.1 b7 (u7 m).2.2 z8
  obtain ⟨z6, m7, _, _⟩ := numR_inv 2 (by omega) 2 rfl (u6 m).2.1 b6 (u6 m).2.2 z7
  obtain ⟨z5, m6, _, _⟩ := numR_inv 4 (by omega) 4 rfl (u5 m).2.1 b5 (u5 m).2.2 z6
  obtain ⟨z4, m5, _, _⟩ := numR_inv 4 (by omega) 4 rfl (u4 m).2.1 b4 (u4 m).2.2 z5
  obtain ⟨z3, m4, _, _⟩ := numR_inv 1 (by omega) 1 rfl (u3 m).2.1 b3 (u3 m).2.2 z4
  obtain ⟨z2, m3, _, _⟩ := numR_inv 1 (by omega) 1 rfl (u2 m).2.1 b2 (u2 m).2.2 z3
  obtain ⟨z1, m2, _, _⟩ := numR_inv 1 (by omega) 1 rfl (u1 m).2.1 b1 (u1 m).2.2 z2
  obtain ⟨z0, m1, _, _⟩ := numR_inv 1 (by omega) 1 rfl m hm 0 z1
  refine ⟨?_, b9, l9⟩
  have h9 : (u9 m).2.1 = [] := List.eq_nil_of_length_eq_zero h.2
  change (u8 m).2.1 = dg 2 ((u9 m).1.length : Nat) ++ ((u9 m).1 ++ (u9 m).2.1) at m9
  rw [h9, List.append_nil] at m9
  change (u7 m).2.1 = dg 2 (u8 m).1 ++ (u8 m).2.1 at m8
  change (u6 m).2.1 = dg 2 (u7 m).1 ++ (u7 m).2.1 at m7
  change (u5 m).2.1 = dg 4 (u6 m).1 ++ (u6 m).2.1 at m6
  change (u4 m).2.1 = dg 4 (u5 m).1 ++ (u5 m).2.1 at m5
  change (u3 m).2.1 = dg 1 (u4 m).1 ++ (u4 m).2.1 at m4
  change (u2 m).2.1 = dg 1 (u3 m).1 ++ (u3 m).2.1 at m3
  change (u1 m).2.1 = dg 1 (u2 m).1 ++ (u2 m).2.1 at m2
  change m = dg 1 (u1 m).1 ++ (u1 m).2.1 at m1
  unfold sB
  rw [← m9, ← m8, ← m7, ← m6, ← m5, ← m4, ← m3, ← m2, ← m1]
theorem u9_by (m : List Int) (hm : By m) : By (u9 m).1 := textR_by _ _ (numR_by _ _ _ (numR_by _ _ _ (numR_by _ _ _ (numR_by _ _ _ (numR_by _ _ _ (numR_by _ _ _ (numR_by _ _ _ (numR_by _ _ _ hm))))))))

/-- The bits of a byte, the other way round. -/
def rev8 (x : Nat) : Nat := (List.range 8).foldl (fun s j => if x.testBit (7 - j) then s + 2 ^ j else s) 0
theorem rev8_bit : ∀ x, x < 256 → ∀ j, j < 8 → (rev8 x).testBit j = x.testBit (7 - j) := by decide +kernel
theorem rev8_none : ∀ x, x < 256 → (∀ j, j < 8 → (rev8 x).testBit j = false) → x = 0 := by decide +kernel
theorem rev8_zero : ∀ j, j < 8 → (rev8 0).testBit j = false := by decide +kernel
/-- Of what sums to nought, with one byte turned, the sum is nought just if no bit of it was turned. -/
theorem one_byte (f : List Int) (hf : By f) (h0 : crcN 65535 f = 0) (i : Nat) (hi : i < f.length) (x : Int) (hx : 0 ≤ x ∧ x < 256) :
    crcN 65535 (f.set i (bits .xor .u8 (f.getD i 0) x)) = 0 ↔ x = 0 := by
  have hb := hf.getD i
  have hv := xor_by _ x hb hx
  have hxor : (bits .xor .u8 (f.getD i 0) x).toNat = (f.getD i 0).toNat ^^^ x.toNat := by
    rw [u8_xor _ x hb.1 hb.2 hx.1 hx.2, Int.toNat_natCast]
  have key := burst f (f.set i (bits .xor .u8 (f.getD i 0) x)) f.length (8 * i) (rev8 x.toNat) 8 hf (hf.set i hv) rfl (by simp) (by omega) (by omega) (fun p hp => by
    unfold bl bb errB
    by_cases h : p / 8 = i
    · subst h
      rw [List.getD_eq_getElem?_getD (l := f.set _ _), List.getElem?_set_self hi, Option.getD_some, hxor, Nat.testBit_xor]
      congr 1
      rw [decide_eq_true (by omega), Bool.true_and, rev8_bit _ (by omega) _ (by omega)]
      congr 1
      omega
    · rw [List.getD_eq_getElem?_getD (l := f.set _ _), List.getElem?_set_ne (by omega), ← List.getD_eq_getElem?_getD, decide_eq_false (by omega)]
      simp) h0
  rw [key]
  constructor
  · intro h
    have := rev8_none x.toNat (by omega) h
    omega
  · rintro rfl
    exact rev8_zero
/-- What is opened of a frame of which one byte is turned. -/
theorem open_turned (f : List Int) (hf : By f) (h0 : crcN 65535 f = 0) (h3 : 3 ≤ f.length) (h5 : f.length ≤ 512) (i : Nat) (hi : i < f.length) (x : Int) (hx : 0 ≤ x ∧ x < 256) :
    (openP (f.set i (bits .xor .u8 (f.getD i 0) x))).2.2 = if x = 0 then 0 else 30 := by
  rw [open_err _ (hf.set i (xor_by _ x (hf.getD i) hx)) (by simpa using h3) (by simpa using h5)]
  have := one_byte f hf h0 i hi x hx
  by_cases h : x = 0
  · rw [if_pos h, if_pos (this.2 h)]
  · rw [if_neg h, if_neg (fun e => h (this.1 e))]

/-- What can be opened is a frame. -/
theorem open_inv (l : List Int) (hl : By l) (h : (openP l).2.2 = 0) : l = frm (openP l).1 (openP l).2.1 ∧ (0 ≤ (openP l).1 ∧ (openP l).1 < 256) ∧ (openP l).2.1.length + 3 = l.length ∧ l.length ≤ 512 := by
  unfold openP at h ⊢
  by_cases h5 : 512 < l.length
  · rw [if_pos h5] at h; simp at h
  · rw [if_neg h5] at h ⊢
    by_cases h3 : l.length < 3
    · rw [if_pos h3] at h; simp at h
    · rw [if_neg h3] at h ⊢
      by_cases hs : sumP (l.take (l.length - 2)) = (num (l.drop (l.length - 2)) : Nat)
      · rw [if_pos hs]
        have hb0 := hl.getD 0
        have h1 := num_one l hl (by omega)
        have h2 := num_two l l.length hl rfl (by omega)
        have ha := hl.getD (l.length - 2)
        have hb := hl.getD (l.length - 1)
        have e2 : l.drop (l.length - 2) = [l.getD (l.length - 2) 0, l.getD (l.length - 1) 0] := by
          rw [List.drop_eq_getElem_cons (by omega), show l.length - 2 + 1 = l.length - 1 from by omega, List.drop_eq_getElem_cons (by omega), show l.length - 1 + 1 = l.length from by omega, List.drop_eq_nil_of_le (by omega)]
          rw [List.getD_eq_getElem?_getD, List.getD_eq_getElem?_getD, List.getElem?_eq_getElem (by omega), List.getElem?_eq_getElem (by omega)]; rfl
        have e1 : l.getD 0 0 :: (l.drop 1).take (l.length - 3) = l.take (l.length - 2) := by
          cases l with
          | nil => simp at h3
          | cons x l => simp only [List.length_cons] at h3 ⊢; rw [show l.length + 1 - 2 = (l.length + 1 - 3) + 1 from by omega, List.take_succ_cons]; rfl
        refine ⟨?_, by rw [h1]; exact hb0, by simp; omega, by omega⟩
        unfold frm
        rw [h1, e1, hs, h2]
        have q1 : (256 * l.getD (l.length - 2) 0 + l.getD (l.length - 1) 0) / 256 = l.getD (l.length - 2) 0 := by omega
        have q2 : (256 * l.getD (l.length - 2) 0 + l.getD (l.length - 1) 0) % 256 = l.getD (l.length - 1) 0 := by omega
        rw [q1, q2, ← e2, List.take_append_drop]
      · rw [if_neg hs] at h; simp at h

theorem openP_len (l : List Int) : (openP l).2.1.length ≤ 509 := by
  unfold openP
  split
  · simp
  · split
    · simp
    · split
      · simp only [List.length_take]; omega
      · simp
theorem endR_zero (l : List Int) (e : Int) : endR l e = 0 ↔ (e = 0 ∧ l.length = 0) := by
  unfold endR
  split
  · constructor
    · intro h; omega
    · rintro ⟨_, h⟩; omega
  · constructor
    · intro h; exact ⟨h, by omega⟩
    · rintro ⟨h, _⟩; exact h
theorem sealP_len (k : Int) (l : List Int) : (sealP k l).1.length ≤ 512 := by
  unfold sealP
  split
  · split
    · simp
    · simp only [List.length_append, dg_len]; omega
  · simp
theorem Rd.wide {k : IntKind} {w : World} {B B' n c : Nat} {A : Option Addr} {l : List Int} (h : Rd k w B A n c l) (hB : B ≤ B') : Rd k w B' A n c l := by
  obtain ⟨h1, h2, h3, h4, h5⟩ := h
  refine ⟨h1, h2, h3, h4, fun hn => ?_⟩
  obtain ⟨b, off, e, hb, hc⟩ := h5 hn
  exact ⟨b, off, e, by omega, hc⟩
theorem PairOf.out {l : List Int} {e : Int} {w : World} {en : Ending} {w' : World} (h : PairOf l e w en w') : ∃ A n c, en = .returned (.tuple #[.slice A n c, .int .i64 e]) ∧ Rd .u8 w' w'.heap.size A n c l ∧ Below w.heap.size w w' := by
  obtain ⟨A, n, c, h1, h2, h3⟩ := h
  exact ⟨A, n, c, h1, h2.rd, h3⟩

/-- What bytes say: the segment, and what was wrong. -/
def parseS (l : List Int) : SegV × Int :=
  if (openP l).2.2 ≠ 0 then (noSeg, (openP l).2.2)
  else if (openP l).1 = 3 ∧ endR (u9 (openP l).2.1).2.1 (u9 (openP l).2.1).2.2 = 0 ∧ checkS (u1 (openP l).2.1).1 (u2 (openP l).2.1).1 (u3 (openP l).2.1).1 (u4 (openP l).2.1).1 (u5 (openP l).2.1).1 (u6 (openP l).2.1).1 (u7 (openP l).2.1).1 (u8 (openP l).2.1).1 (u9 (openP l).2.1).1.length = 0 then
    (segOf (openP l).2.1, 0)
  else (noSeg, 4)
section
variable {k t f h p o s a : Int} {b : List Int}
theorem okS_open (ok : okS k t f h p o s a b.length) (hb : By b) : openP (frm 3 (sB k t f h p o s a b)) = (3, sB k t f h p o s a b, 0) :=
  open_frm 3 _ (by omega) (sB_by _ _ _ _ _ _ _ _ hb) (by have := okS_bd ok; rw [sB_len]; omega)
theorem parseS_bytes (ok : okS k t f h p o s a b.length) (hb : By b) : parseS (frm 3 (sB k t f h p o s a b)) = (⟨k, t, f, h, p, o, s, a, b⟩, 0) := by
  have ok' := okS_bd ok
  obtain ⟨e, e9⟩ := read_sB k t f h p o s a b (by omega) (by omega) (by omega) (by omega) (by omega) (by omega) (by omega) (by omega) (by omega)
  unfold parseS
  rw [okS_open ok hb, if_neg (by simp)]
  have e' := e
  unfold segOf at e'
  simp only [SegV.mk.injEq] at e'
  obtain ⟨q1, q2, q3, q4, q5, q6, q7, q8, q9⟩ := e'
  simp only [q1, q2, q3, q4, q5, q6, q7, q8, e9, e]
  rw [if_pos ⟨trivial, rfl, (checkS_zero _ _ _ _ _ _ _ _ _).2 ok⟩]
/-- What can be read has just these bytes. -/
theorem parseS_again (l : List Int) (hl : By l) (h0 : (parseS l).2 = 0) :
    ∃ (k t f h p o s a : Int) (b : List Int), parseS l = (⟨k, t, f, h, p, o, s, a, b⟩, 0) ∧ okS k t f h p o s a b.length ∧ By b ∧ l = frm 3 (sB k t f h p o s a b) := by
  by_cases he : (openP l).2.2 = 0
  · obtain ⟨e1, e2, e3, e4⟩ := open_inv l hl he
    have hby := openP_by l hl
    have hp : parseS l = parseS l := rfl
    unfold parseS at h0
    rw [if_neg (by simpa using he)] at h0
    split at h0
    · rename_i hc
      obtain ⟨c1, c2, c3⟩ := hc
      obtain ⟨e, hb9, _⟩ := sB_inv _ hby ((endR_zero _ _).1 c2)
      refine ⟨(u1 (openP l).2.1).1, (u2 (openP l).2.1).1, (u3 (openP l).2.1).1, (u4 (openP l).2.1).1, (u5 (openP l).2.1).1, (u6 (openP l).2.1).1, (u7 (openP l).2.1).1, (u8 (openP l).2.1).1, (u9 (openP l).2.1).1, ?_, (checkS_zero _ _ _ _ _ _ _ _ _).1 c3, hb9, ?_⟩
      · rw [parseS, if_neg (by simpa using he), if_pos ⟨c1, c2, c3⟩]; rfl
      · rw [← e, ← c1]; exact e1
    · simp at h0
  · unfold parseS at h0
    rw [if_pos he] at h0
    exact absurd h0 he
theorem parseS_bad {l : List Int} (h : (parseS l).2 ≠ 0) : parseS l = (noSeg, (parseS l).2) := by
  unfold parseS at h ⊢
  split
  · rfl
  · rename_i h1
    rw [if_neg h1] at h
    split
    · rename_i h2
      rw [if_pos h2] at h
      simp at h
    · rfl
theorem parseS_by (l : List Int) (hl : By l) : By (parseS l).1.b := by
  unfold parseS
  split
  · exact By.nil
  · split
    · exact u9_by _ (openP_by l hl)
    · exact By.nil
/-- With a byte turned they are none's. -/
theorem parseS_turned (ok : okS k t f h p o s a b.length) (hb : By b) (j : Nat) (hj : j < b.length + 21) (x : Int) (hx : 0 ≤ x ∧ x < 256) :
    parseS ((frm 3 (sB k t f h p o s a b)).set j (bits .xor .u8 ((frm 3 (sB k t f h p o s a b)).getD j 0) x)) = if x = 0 then (⟨k, t, f, h, p, o, s, a, b⟩, 0) else (noSeg, 30) := by
  have hlen : (frm 3 (sB k t f h p o s a b)).length = b.length + 21 := by rw [frm_len, sB_len]
  have hbd := okS_bd ok
  have hby := frm_by 3 (sB k t f h p o s a b) (by omega) (sB_by _ _ _ _ _ _ _ _ hb)
  have ho := open_turned _ hby (frm_zero 3 _ (by omega) (sB_by _ _ _ _ _ _ _ _ hb)) (by omega) (by omega) j (by omega) x hx
  by_cases h : x = 0
  · subst h
    have hg := hby.getD j
    have e : bits .xor .u8 ((frm 3 (sB k t f h p o s a b)).getD j 0) 0 = (frm 3 (sB k t f h p o s a b)).getD j 0 := by
      generalize (frm 3 (sB k t f h p o s a b)).getD j 0 = y at hg
      rw [u8_xor y 0 hg.1 hg.2 (by omega) (by omega), show (0 : Int).toNat = 0 from rfl, Nat.xor_zero]
      omega
    have e2 : (frm 3 (sB k t f h p o s a b)).set j ((frm 3 (sB k t f h p o s a b)).getD j 0) = frm 3 (sB k t f h p o s a b) := by
      rw [List.getD_eq_getElem?_getD, List.getElem?_eq_getElem (by omega), Option.getD_some, List.set_getElem_self]
    rw [e, e2, parseS_bytes ok hb, if_pos rfl]
  · rw [if_neg h] at ho
    unfold parseS
    rw [if_pos (by rw [ho]; simp), ho, if_neg h]
end
end Go.Proofs.Ytbniefgfiafaoaa.Oct
