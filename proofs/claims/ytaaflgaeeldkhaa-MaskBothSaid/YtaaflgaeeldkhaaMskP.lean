/- Plain facts of layer 7: what masks fit, bit by bit. -/
import Derived.Test.YtaaflgaeeldkhaaMskD
import Derived.Laws.BitsAllLaws
namespace Go.Proofs.Ytaaflgaeeldkhaa.Oct
open Go.RowKit
set_option linter.unusedVariables false
set_option linter.unusedSimpArgs false

/-- A byte. -/
def U (n : Int) : Prop := 0 ≤ n ∧ n < 256
/-- Its bits. -/
def V (n : Int) : BitVec 8 := BitVec.ofInt 8 n
theorem V_nat (v : BitVec 8) : V ((v.toNat : Nat) : Int) = v := by
  unfold V
  apply BitVec.eq_of_toNat_eq
  rw [ofInt_u8 v.toNat (by have := v.isLt; omega)]
theorem U_nat (v : BitVec 8) : U ((v.toNat : Nat) : Int) := ⟨by omega, by have := v.isLt; omega⟩
theorem wrap_nat (v : BitVec 8) : IntKind.u8.wrap ((v.toNat : Nat) : Int) = ((v.toNat : Nat) : Int) := by
  rw [IntKind.wrap_u8']
  have := v.isLt
  omega
theorem an_is (x y : Int) : bits .and .u8 x y = (((V x &&& V y).toNat : Nat) : Int) := wrap_nat (V x &&& V y)
theorem or_is (x y : Int) : bits .or .u8 x y = (((V x ||| V y).toNat : Nat) : Int) := wrap_nat (V x ||| V y)
theorem xo_is (x y : Int) : bits .xor .u8 x y = (((V x ^^^ V y).toNat : Nat) : Int) := wrap_nat (V x ^^^ V y)
theorem nt_is (x y : Int) : bits .andNot .u8 x y = (((V x &&& ~~~V y).toNat : Nat) : Int) := wrap_nat (V x &&& ~~~V y)
theorem V_an (x y : Int) : V (bits .and .u8 x y) = V x &&& V y := by rw [an_is, V_nat]
theorem V_or (x y : Int) : V (bits .or .u8 x y) = V x ||| V y := by rw [or_is, V_nat]
theorem V_xo (x y : Int) : V (bits .xor .u8 x y) = V x ^^^ V y := by rw [xo_is, V_nat]
theorem V_nt (x y : Int) : V (bits .andNot .u8 x y) = V x &&& ~~~V y := by rw [nt_is, V_nat]
theorem U_an (x y : Int) : U (bits .and .u8 x y) := by rw [an_is]; exact U_nat _
theorem U_or (x y : Int) : U (bits .or .u8 x y) := by rw [or_is]; exact U_nat _
theorem U_xo (x y : Int) : U (bits .xor .u8 x y) := by rw [xo_is]; exact U_nat _
theorem U_nt (x y : Int) : U (bits .andNot .u8 x y) := by rw [nt_is]; exact U_nat _
theorem U_zero : U 0 := ⟨by omega, by omega⟩
theorem V_zero : V 0 = 0#8 := rfl
theorem V_inj {x y : Int} (hx : U x) (hy : U y) : x = y ↔ V x = V y := by
  constructor
  · intro h; rw [h]
  · intro h
    have e : (V x).toNat = (V y).toNat := by rw [h]
    obtain ⟨h1, h2⟩ := hx
    obtain ⟨h3, h4⟩ := hy
    unfold V at e
    have ex := ofInt_u8 x.toNat (by omega)
    have ey := ofInt_u8 y.toNat (by omega)
    rw [show ((x.toNat : Nat) : Int) = x by omega] at ex
    rw [show ((y.toNat : Nat) : Int) = y by omega] at ey
    omega
theorem V_0 {x : Int} (hx : U x) : x = 0 ↔ V x = 0#8 := V_inj hx U_zero
theorem bv_iff (a b : BitVec 8) : a = b ↔ ∀ i, i < 8 → a.getLsbD i = b.getLsbD i :=
  ⟨fun h i _ => by rw [h], fun h => BitVec.eq_of_getLsbD_eq (fun i hi => h i hi)⟩
theorem not_bit (a : BitVec 8) (i : Nat) (h : i < 8) : (~~~a).getLsbD i = !a.getLsbD i := by simp [h]

/-- What is laid over a header, a mask's byte and another's: four bytes at once. -/
theorem byte_covers (b b' i i' : Int) (hb' : U b') :
    (dif i i' b b' = 0 ∧ bits .or .u8 b b' = b' ∧ bits .or .u8 (bits .and .u8 i b) (bits .and .u8 i' b') = bits .and .u8 i' b') ↔ (bits .andNot .u8 b b' = 0 ∧ offB i i' b = 0) := by
  unfold dif offB
  rw [V_0 (U_an _ _), V_inj (U_or _ _) hb', V_inj (U_or _ _) (U_an _ _), V_0 (U_nt _ _), V_0 (U_an _ _)]
  simp only [V_an, V_or, V_xo, V_nt]
  generalize V b = p
  generalize V b' = q
  generalize V i = r
  generalize V i' = s
  simp only [bv_iff]
  constructor
  · rintro ⟨h1, h2, h3⟩
    refine ⟨fun k hk => ?_, fun k hk => ?_⟩
    · have h1 := h1 k hk; have h2 := h2 k hk; have h3 := h3 k hk
      simp only [BitVec.getLsbD_and, BitVec.getLsbD_or, BitVec.getLsbD_xor, not_bit _ _ hk, BitVec.getLsbD_zero] at *
      revert h1 h2 h3
      cases p.getLsbD k <;> cases q.getLsbD k <;> cases r.getLsbD k <;> cases s.getLsbD k <;> simp
    · have h1 := h1 k hk; have h2 := h2 k hk; have h3 := h3 k hk
      simp only [BitVec.getLsbD_and, BitVec.getLsbD_or, BitVec.getLsbD_xor, not_bit _ _ hk, BitVec.getLsbD_zero] at *
      revert h1 h2 h3
      cases p.getLsbD k <;> cases q.getLsbD k <;> cases r.getLsbD k <;> cases s.getLsbD k <;> simp
  · rintro ⟨h1, h2⟩
    refine ⟨fun k hk => ?_, fun k hk => ?_, fun k hk => ?_⟩ <;>
    · have h1 := h1 k hk; have h2 := h2 k hk
      simp only [BitVec.getLsbD_and, BitVec.getLsbD_or, BitVec.getLsbD_xor, not_bit _ _ hk, BitVec.getLsbD_zero] at *
      revert h1 h2
      cases p.getLsbD k <;> cases q.getLsbD k <;> cases r.getLsbD k <;> cases s.getLsbD k <;> simp
/-- .. where all bits count. -/
theorem byte_all (b i h : Int) : (bits .andNot .u8 b 255 = 0 ∧ offB i h b = 0) ↔ offB h i b = 0 := by
  unfold offB
  rw [V_0 (U_nt _ _), V_0 (U_an _ _), V_0 (U_an _ _)]
  simp only [V_an, V_xo, V_nt]
  have e : V 255 = 255#8 := rfl
  rw [e, BitVec.xor_comm (V i) (V h)]
  have z : V b &&& ~~~255#8 = 0#8 := by
    rw [show ~~~255#8 = 0#8 from rfl, BitVec.and_zero]
  simp [z]
/-- What fits both fits what both say. -/
theorem byte_both (b b' i i' h : Int) :
    (dif i i' b b' = 0 → (offB h (bits .or .u8 (bits .and .u8 i b) (bits .and .u8 i' b')) (bits .or .u8 b b') = 0 ↔ (offB h i b = 0 ∧ offB h i' b' = 0))) ∧
    (offB h i b = 0 → offB h i' b' = 0 → dif i i' b b' = 0) := by
  unfold dif offB
  simp only [V_0 (U_an _ _)]
  simp only [V_an, V_or, V_xo, V_nt]
  generalize V b = p
  generalize V b' = q
  generalize V i = r
  generalize V i' = s
  generalize V h = t
  simp only [bv_iff]
  refine ⟨fun h1 => ⟨fun h2 => ⟨fun k hk => ?_, fun k hk => ?_⟩, fun ⟨h2, h3⟩ k hk => ?_⟩, fun h1 h2 k hk => ?_⟩
  · have h1 := h1 k hk; have h2 := h2 k hk
    simp only [BitVec.getLsbD_and, BitVec.getLsbD_or, BitVec.getLsbD_xor, BitVec.getLsbD_zero] at *
    revert h1 h2
    cases p.getLsbD k <;> cases q.getLsbD k <;> cases r.getLsbD k <;> cases s.getLsbD k <;> cases t.getLsbD k <;> simp
  · have h1 := h1 k hk; have h2 := h2 k hk
    simp only [BitVec.getLsbD_and, BitVec.getLsbD_or, BitVec.getLsbD_xor, BitVec.getLsbD_zero] at *
    revert h1 h2
    cases p.getLsbD k <;> cases q.getLsbD k <;> cases r.getLsbD k <;> cases s.getLsbD k <;> cases t.getLsbD k <;> simp
  · have h1 := h1 k hk; have h2 := h2 k hk; have h3 := h3 k hk
    simp only [BitVec.getLsbD_and, BitVec.getLsbD_or, BitVec.getLsbD_xor, BitVec.getLsbD_zero] at *
    revert h1 h2 h3
    cases p.getLsbD k <;> cases q.getLsbD k <;> cases r.getLsbD k <;> cases s.getLsbD k <;> cases t.getLsbD k <;> simp
  · have h1 := h1 k hk; have h2 := h2 k hk
    simp only [BitVec.getLsbD_and, BitVec.getLsbD_or, BitVec.getLsbD_xor, BitVec.getLsbD_zero] at *
    revert h1 h2
    cases p.getLsbD k <;> cases q.getLsbD k <;> cases r.getLsbD k <;> cases s.getLsbD k <;> cases t.getLsbD k <;> simp

theorem eith_covers (a b n : Int) : (eithB a b n = true ∧ eithN a b n = b) ↔ ¬ (a ≠ n ∧ a ≠ b) := by
  unfold eithB eithN
  rw [decide_eq_true_iff]
  split <;> omega
theorem eith_both (a b n v : Int) : (eithB a b n = true → ((eithN a b n = n ∨ eithN a b n = v) ↔ ((a = n ∨ a = v) ∧ (b = n ∨ b = v)))) ∧ ((a = n ∨ a = v) → (b = n ∨ b = v) → eithB a b n = true) := by
  unfold eithB eithN
  rw [decide_eq_true_iff]
  split <;> omega
theorem badF_iff (x : MaskV) (v p : Int) : badF x v p = false ↔ ((x.v = 0 ∨ x.v = v) ∧ (x.m = -1 ∨ x.m = p)) := by
  unfold badF
  by_cases h1 : x.v = 0 <;> by_cases h2 : x.v = v <;> by_cases h3 : x.m = -1 <;> by_cases h4 : x.m = p <;> simp [h1, h2, h3, h4] <;> omega
def FitsR (x : MaskV) (v p a b c : Int) : Prop := ((x.v = 0 ∨ x.v = v) ∧ (x.m = -1 ∨ x.m = p)) ∧ offB a x.i0 x.b0 = 0 ∧ offB b x.i1 x.b1 = 0 ∧ offB c x.i2 x.b2 = 0
theorem fitsR_iff (x : MaskV) (v p a b c : Int) : fitsR x v p a b c = true ↔ FitsR x v p a b c := by
  unfold fitsR FitsR
  rw [← badF_iff]
  simp
def Cov1 (b b' i i' : Int) : Prop := bits .andNot .u8 b b' = 0 ∧ offB i i' b = 0
def CoversR (x y : MaskV) : Prop := ((x.v = 0 ∨ x.v = y.v) ∧ (x.m = -1 ∨ x.m = y.m)) ∧ Cov1 x.b0 y.b0 x.i0 y.i0 ∧ Cov1 x.b1 y.b1 x.i1 y.i1 ∧ Cov1 x.b2 y.b2 x.i2 y.i2
theorem coversR_iff (x y : MaskV) : coversR x y = true ↔ CoversR x y := by
  unfold coversR CoversR cov1 Cov1
  rw [← badF_iff]
  simp
def LikeR (x y : MaskV) : Prop := dif x.i0 y.i0 x.b0 y.b0 = 0 ∧ dif x.i1 y.i1 x.b1 y.b1 = 0 ∧ dif x.i2 y.i2 x.b2 y.b2 = 0
theorem meetB_iff (x y : MaskV) : meetB x y = true ↔ (eithB x.v y.v 0 = true ∧ eithB x.m y.m (-1) = true ∧ LikeR x y) := by
  unfold meetB likeB LikeR
  simp
theorem eqMB_all (x y : MaskV) : eqMB x y = true ↔ (x.v = y.v ∧ x.m = y.m ∧ x.b0 = y.b0 ∧ x.b1 = y.b1 ∧ x.b2 = y.b2 ∧ x.i0 = y.i0 ∧ x.i1 = y.i1 ∧ x.i2 = y.i2) := by
  unfold eqMB
  simp [and_assoc]
theorem U_255 : U 255 := ⟨by decide, by decide⟩
theorem coversP_is (x y : MaskV) (hy0 : U y.b0) (hy1 : U y.b1) (hy2 : U y.b2) : coversP x y = coversR x y := by
  rw [Bool.eq_iff_iff, coversR_iff]
  unfold coversP
  rw [Bool.and_eq_true]
  have c0 := byte_covers x.b0 y.b0 x.i0 y.i0 hy0
  have c1 := byte_covers x.b1 y.b1 x.i1 y.i1 hy1
  have c2 := byte_covers x.b2 y.b2 x.i2 y.i2 hy2
  have cv := eith_covers x.v y.v 0
  have cm := eith_covers x.m y.m (-1)
  unfold CoversR Cov1
  constructor
  · rintro ⟨h1, h2⟩
    unfold meetV at h2
    rw [if_pos h1, eqMB_all] at h2
    obtain ⟨h3, h4, h5, h6, h7⟩ := (meetB_iff x y).1 h1
    obtain ⟨g1, g2, g3, g4, g5, g6, g7, g8⟩ := h2
    refine ⟨⟨by have := cv.1 ⟨h3, g1⟩; omega, by have := cm.1 ⟨h4, g2⟩; omega⟩, c0.1 ⟨h5, g3, g6⟩, c1.1 ⟨h6, g4, g7⟩, c2.1 ⟨h7, g5, g8⟩⟩
  · rintro ⟨⟨h1, h2⟩, h3, h4, h5⟩
    obtain ⟨k1, k2⟩ := cv.2 (by omega)
    obtain ⟨k3, k4⟩ := cm.2 (by omega)
    obtain ⟨p1, p2, p3⟩ := c0.2 h3
    obtain ⟨q1, q2, q3⟩ := c1.2 h4
    obtain ⟨r1, r2, r3⟩ := c2.2 h5
    have hm := (meetB_iff x y).2 ⟨k1, k3, p1, q1, r1⟩
    refine ⟨hm, ?_⟩
    unfold meetV
    rw [if_pos hm, eqMB_all]
    exact ⟨k2, k4, p2, q2, r2, p3, q3, r3⟩
theorem fitsM_is (x : MaskV) (v p a b c : Int) : fitsM x v p a b c = fitsR x v p a b c := by
  unfold fitsM
  rw [coversP_is x _ (show U 255 from U_255) (show U 255 from U_255) (show U 255 from U_255), Bool.eq_iff_iff, coversR_iff, fitsR_iff]
  unfold CoversR Cov1 FitsR fitM
  simp only
  rw [byte_all, byte_all, byte_all]
/-- Meet fits just what both fit. -/
theorem fits_both (x y : MaskV) (v p a b c : Int) : (meetB x y = true → (FitsR (bothV x y) v p a b c ↔ (FitsR x v p a b c ∧ FitsR y v p a b c))) ∧ (FitsR x v p a b c → FitsR y v p a b c → meetB x y = true) := by
  have b0 := byte_both x.b0 y.b0 x.i0 y.i0 a
  have b1 := byte_both x.b1 y.b1 x.i1 y.i1 b
  have b2 := byte_both x.b2 y.b2 x.i2 y.i2 c
  have ev := eith_both x.v y.v 0 v
  have em := eith_both x.m y.m (-1) p
  rw [meetB_iff]
  unfold FitsR bothV LikeR
  simp only
  refine ⟨fun ⟨h1, h2, h3, h4, h5⟩ => ?_, fun ⟨⟨h1, h2⟩, h3, h4, h5⟩ ⟨⟨g1, g2⟩, g3, g4, g5⟩ => ⟨ev.2 h1 g1, em.2 h2 g2, b0.2 h3 g3, b1.2 h4 g4, b2.2 h5 g5⟩⟩
  rw [ev.1 h1, em.1 h2, b0.1 h3, b1.1 h4, b2.1 h5]
  constructor
  · rintro ⟨⟨⟨a1, a2⟩, a3, a4⟩, ⟨a5, a6⟩, ⟨a7, a8⟩, a9, a10⟩
    exact ⟨⟨⟨a1, a3⟩, a5, a7, a9⟩, ⟨a2, a4⟩, a6, a8, a10⟩
  · rintro ⟨⟨⟨a1, a3⟩, a5, a7, a9⟩, ⟨a2, a4⟩, a6, a8, a10⟩
    exact ⟨⟨⟨a1, a2⟩, a3, a4⟩, ⟨a5, a6⟩, ⟨a7, a8⟩, a9, a10⟩
theorem fits_meet (x y : MaskV) (v p a b c : Int) : (fitsR x v p a b c && fitsR y v p a b c) = (meetB x y && fitsR (meetV x y) v p a b c) := by
  obtain ⟨h1, h2⟩ := fits_both x y v p a b c
  rw [Bool.eq_iff_iff, Bool.and_eq_true, Bool.and_eq_true, fitsR_iff, fitsR_iff]
  constructor
  · rintro ⟨g1, g2⟩
    have hm := h2 g1 g2
    refine ⟨hm, ?_⟩
    unfold meetV
    rw [if_pos hm, fitsR_iff]
    exact (h1 hm).2 ⟨g1, g2⟩
  · rintro ⟨hm, g⟩
    unfold meetV at g
    rw [if_pos hm, fitsR_iff] at g
    exact (h1 hm).1 g
end Go.Proofs.Ytaaflgaeeldkhaa.Oct
