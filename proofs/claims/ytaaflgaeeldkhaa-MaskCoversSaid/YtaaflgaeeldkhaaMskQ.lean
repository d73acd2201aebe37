/- Plain facts of layer 7: what covers, and what does not. -/
import Derived.Test.YtaaflgaeeldkhaaMskP
import Derived.IntWalk
namespace Go.Proofs.Ytaaflgaeeldkhaa.Oct
open Go.RowKit
set_option linter.unusedVariables false
set_option linter.unusedSimpArgs false

/-- A header's byte, brought to fit a mask's. -/
def near (h i b : Int) : Int := bits .or .u8 (bits .andNot .u8 h b) (bits .and .u8 i b)
/-- .. and turned against another's where that lies open. -/
def turn (h i o : Int) : Int := bits .or .u8 (bits .andNot .u8 h o) (bits .and .u8 (bits .xor .u8 255 i) o)
theorem V_255 : V 255 = ~~~0#8 := rfl
theorem one_bit (k : Nat) (hk : k < 8) : (~~~0#8 : BitVec 8).getLsbD k = true := by rw [not_bit _ _ hk]; simp
theorem near_fits (h i b : Int) : offB (near h i b) i b = 0 := by
  unfold offB near
  simp only [V_0 (U_an _ _)]
  simp only [V_an, V_or, V_xo, V_nt, bv_iff]
  intro k hk
  simp only [BitVec.getLsbD_and, BitVec.getLsbD_or, BitVec.getLsbD_xor, BitVec.getLsbD_zero, not_bit _ _ hk]
  cases (V h).getLsbD k <;> cases (V i).getLsbD k <;> cases (V b).getLsbD k <;> rfl
theorem cov1_same (b i : Int) : Cov1 b b i i := by
  unfold Cov1 offB
  simp only [V_0 (U_an _ _), V_0 (U_nt _ _)]
  simp only [V_an, V_xo, V_nt, bv_iff]
  refine ⟨fun k hk => ?_, fun k hk => ?_⟩ <;>
  · simp only [BitVec.getLsbD_and, BitVec.getLsbD_xor, BitVec.getLsbD_zero, not_bit _ _ hk]
    cases (V i).getLsbD k <;> cases (V b).getLsbD k <;> rfl
theorem cov1_none (b i j : Int) : Cov1 0 b j i := by
  unfold Cov1 offB
  simp only [V_0 (U_an _ _), V_0 (U_nt _ _)]
  simp only [V_an, V_xo, V_nt, bv_iff, V_zero]
  refine ⟨fun k hk => ?_, fun k hk => ?_⟩ <;> simp
/-- What covers fits what is fitted. -/
theorem cov1_fits (h b b' i i' : Int) (hc : Cov1 b b' i i') : offB (near h i' b') i b = 0 := by
  unfold Cov1 offB at hc
  unfold offB near
  simp only [V_0 (U_an _ _), V_0 (U_nt _ _)] at hc ⊢
  simp only [V_an, V_or, V_xo, V_nt, bv_iff] at hc ⊢
  obtain ⟨h1, h2⟩ := hc
  intro k hk
  have h1 := h1 k hk; have h2 := h2 k hk
  simp only [BitVec.getLsbD_and, BitVec.getLsbD_or, BitVec.getLsbD_xor, BitVec.getLsbD_zero, not_bit _ _ hk] at *
  revert h1 h2
  cases (V h).getLsbD k <;> cases (V i).getLsbD k <;> cases (V b).getLsbD k <;> cases (V i').getLsbD k <;> cases (V b').getLsbD k <;> simp
/-- The turned header still fits the one .. -/
theorem turn_fits (h b b' i i' : Int) : offB (turn (near h i' b') i (bits .andNot .u8 b b')) i' b' = 0 := by
  unfold offB near turn
  simp only [V_0 (U_an _ _)]
  simp only [V_an, V_or, V_xo, V_nt, bv_iff, V_255]
  intro k hk
  simp only [BitVec.getLsbD_and, BitVec.getLsbD_or, BitVec.getLsbD_xor, BitVec.getLsbD_zero, not_bit _ _ hk]
  cases (V h).getLsbD k <;> cases (V i).getLsbD k <;> cases (V b).getLsbD k <;> cases (V i').getLsbD k <;> cases (V b').getLsbD k <;> rfl
/-- .. and the other only if that covers. -/
theorem turn_cov1 (h b b' i i' : Int) (ht : offB (turn (near h i' b') i (bits .andNot .u8 b b')) i b = 0) : Cov1 b b' i i' := by
  unfold offB near turn at ht
  unfold Cov1 offB
  simp only [V_0 (U_an _ _), V_0 (U_nt _ _)] at ht ⊢
  simp only [V_an, V_or, V_xo, V_nt, bv_iff, V_255] at ht ⊢
  refine ⟨fun k hk => ?_, fun k hk => ?_⟩ <;>
  · have h1 := ht k hk
    simp only [BitVec.getLsbD_and, BitVec.getLsbD_or, BitVec.getLsbD_xor, BitVec.getLsbD_zero, not_bit _ _ hk] at *
    revert h1
    cases (V h).getLsbD k <;> cases (V i).getLsbD k <;> cases (V b).getLsbD k <;> cases (V i').getLsbD k <;> cases (V b').getLsbD k <;> simp

/-- A number that a mask's makes. -/
def toN (n none p : Int) : Int := if n = none then p else n
/-- .. turned against another's. -/
def upN (n none a p : Int) : Int := if n = none ∧ a ≠ none then wrap64 (a + 1) else p
theorem toN_fits (n none p : Int) : n = none ∨ n = toN n none p := by unfold toN; split <;> omega
theorem wrap_up (a : Int) : wrap64 (a + 1) ≠ a := by
  unfold wrap64
  omega
theorem upN_fits (n none a p : Int) : n = none ∨ n = upN n none a (toN n none p) := by
  unfold upN toN
  by_cases h : n = none
  · exact .inl h
  · rw [if_neg (fun e => h e.1), if_neg h]; exact .inr rfl
theorem upN_not (n none a p : Int) (h : ¬ (a = none ∨ a = n)) : ¬ (a = none ∨ a = upN n none a (toN n none p)) := by
  unfold upN toN
  by_cases hn : n = none
  · rw [if_pos ⟨hn, fun e => h (.inl e)⟩]
    rintro (e | e)
    · exact h (.inl e)
    · exact wrap_up a e.symm
  · rw [if_neg (fun e => hn e.1), if_neg hn]; exact h
theorem covers_same (x : MaskV) : CoversR x x := ⟨⟨.inr rfl, .inr rfl⟩, cov1_same _ _, cov1_same _ _, cov1_same _ _⟩
theorem covers_any_ (x : MaskV) : CoversR anyM x := ⟨⟨.inl rfl, .inl rfl⟩, cov1_none _ _ _, cov1_none _ _ _, cov1_none _ _ _⟩
/-- The header and the place that fit y. -/
theorem near_y (y : MaskV) (p q a b c : Int) : fitsR y (toN y.v 0 p) (toN y.m (-1) q) (near a y.i0 y.b0) (near b y.i1 y.b1) (near c y.i2 y.b2) = true :=
  (fitsR_iff _ _ _ _ _ _).2 ⟨⟨toN_fits _ _ _, toN_fits _ _ _⟩, near_fits _ _ _, near_fits _ _ _, near_fits _ _ _⟩
theorem near_x (x y : MaskV) (p q a b c : Int) (h : coversR x y = true) : fitsR x (toN y.v 0 p) (toN y.m (-1) q) (near a y.i0 y.b0) (near b y.i1 y.b1) (near c y.i2 y.b2) = true := by
  obtain ⟨⟨h1, h2⟩, h3, h4, h5⟩ := (coversR_iff x y).1 h
  refine (fitsR_iff _ _ _ _ _ _).2 ⟨⟨?_, ?_⟩, cov1_fits _ _ _ _ _ h3, cov1_fits _ _ _ _ _ h4, cov1_fits _ _ _ _ _ h5⟩
  · unfold toN; split <;> omega
  · unfold toN; split <;> omega
theorem turn_y (x y : MaskV) (p q a b c : Int) : fitsR y (upN y.v 0 x.v (toN y.v 0 p)) (upN y.m (-1) x.m (toN y.m (-1) q)) (turn (near a y.i0 y.b0) x.i0 (bits .andNot .u8 x.b0 y.b0)) (turn (near b y.i1 y.b1) x.i1 (bits .andNot .u8 x.b1 y.b1)) (turn (near c y.i2 y.b2) x.i2 (bits .andNot .u8 x.b2 y.b2)) = true :=
  (fitsR_iff _ _ _ _ _ _).2 ⟨⟨upN_fits _ _ _ _, upN_fits _ _ _ _⟩, turn_fits _ _ _ _ _, turn_fits _ _ _ _ _, turn_fits _ _ _ _ _⟩
theorem turn_x (x y : MaskV) (p q a b c : Int) (h : coversR x y = false) : fitsR x (upN y.v 0 x.v (toN y.v 0 p)) (upN y.m (-1) x.m (toN y.m (-1) q)) (turn (near a y.i0 y.b0) x.i0 (bits .andNot .u8 x.b0 y.b0)) (turn (near b y.i1 y.b1) x.i1 (bits .andNot .u8 x.b1 y.b1)) (turn (near c y.i2 y.b2) x.i2 (bits .andNot .u8 x.b2 y.b2)) = false := by
  cases hf : fitsR x (upN y.v 0 x.v (toN y.v 0 p)) (upN y.m (-1) x.m (toN y.m (-1) q)) (turn (near a y.i0 y.b0) x.i0 (bits .andNot .u8 x.b0 y.b0)) (turn (near b y.i1 y.b1) x.i1 (bits .andNot .u8 x.b1 y.b1)) (turn (near c y.i2 y.b2) x.i2 (bits .andNot .u8 x.b2 y.b2)) with
  | false => rfl
  | true =>
    obtain ⟨⟨h1, h2⟩, h3, h4, h5⟩ := (fitsR_iff _ _ _ _ _ _).1 hf
    have : coversR x y = true := (coversR_iff x y).2 ⟨⟨by
      by_cases e : x.v = 0 ∨ x.v = y.v
      · exact e
      · exact absurd h1 (upN_not _ _ _ _ e), by
      by_cases e : x.m = -1 ∨ x.m = y.m
      · exact e
      · exact absurd h2 (upN_not _ _ _ _ e)⟩, turn_cov1 _ _ _ _ _ h3, turn_cov1 _ _ _ _ _ h4, turn_cov1 _ _ _ _ _ h5⟩
    rw [h] at this
    exact absurd this (by decide)
end Go.Proofs.Ytaaflgaeeldkhaa.Oct
