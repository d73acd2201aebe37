/- Bytes as rows of bits. -/
import Derived.Test.YtcolklkjaifplaaOctP
import Derived.Laws.BitsAllLaws
namespace Go.Proofs.Ytcolklkjaifplaa.Oct
open Go.RowKit
set_option linter.unusedVariables false

/-- A byte. -/
def U (n : Int) : Prop := 0 ≤ n ∧ n < 256
/-- Its bits. -/
def V (n : Int) : BitVec 8 := BitVec.ofInt 8 n
theorem V_nat (v : BitVec 8) : V ((v.toNat : Nat) : Int) = v := by
  unfold V
  apply BitVec.eq_of_toNat_eq
  rw [ofInt_u8 v.toNat (by have := v.isLt; omega)]
theorem U_nat (v : BitVec 8) : U ((v.toNat : Nat) : Int) := ⟨by omega, by have := v.isLt; omega⟩
theorem wrap_nat (v : BitVec 8) : IntKind.u8.wrap ((v.toNat : Nat) : Int) = ((v.toNat : Nat) : Int) := by
  rw [IntKind.wrap_u8']
  have := v.isLt
  omega
theorem an_is (x y : Int) : bits .and .u8 x y = (((V x &&& V y).toNat : Nat) : Int) := wrap_nat (V x &&& V y)
theorem or_is (x y : Int) : bits .or .u8 x y = (((V x ||| V y).toNat : Nat) : Int) := wrap_nat (V x ||| V y)
theorem xo_is (x y : Int) : bits .xor .u8 x y = (((V x ^^^ V y).toNat : Nat) : Int) := wrap_nat (V x ^^^ V y)
theorem nt_is (x y : Int) : bits .andNot .u8 x y = (((V x &&& ~~~V y).toNat : Nat) : Int) := wrap_nat (V x &&& ~~~V y)
theorem V_an (x y : Int) : V (bits .and .u8 x y) = V x &&& V y := by rw [an_is, V_nat]
theorem V_or (x y : Int) : V (bits .or .u8 x y) = V x ||| V y := by rw [or_is, V_nat]
theorem V_xo (x y : Int) : V (bits .xor .u8 x y) = V x ^^^ V y := by rw [xo_is, V_nat]
theorem V_nt (x y : Int) : V (bits .andNot .u8 x y) = V x &&& ~~~V y := by rw [nt_is, V_nat]
theorem U_an (x y : Int) : U (bits .and .u8 x y) := by rw [an_is]; exact U_nat _
theorem U_or (x y : Int) : U (bits .or .u8 x y) := by rw [or_is]; exact U_nat _
theorem U_xo (x y : Int) : U (bits .xor .u8 x y) := by rw [xo_is]; exact U_nat _
theorem U_nt (x y : Int) : U (bits .andNot .u8 x y) := by rw [nt_is]; exact U_nat _
theorem U_zero : U 0 := ⟨by omega, by omega⟩
theorem V_zero : V 0 = 0#8 := rfl
theorem V_inj {x y : Int} (hx : U x) (hy : U y) : x = y ↔ V x = V y := by
  constructor
  · intro h; rw [h]
  · intro h
    have e : (V x).toNat = (V y).toNat := by rw [h]
    obtain ⟨h1, h2⟩ := hx
    obtain ⟨h3, h4⟩ := hy
    unfold V at e
    have ex := ofInt_u8 x.toNat (by omega)
    have ey := ofInt_u8 y.toNat (by omega)
    rw [show ((x.toNat : Nat) : Int) = x by omega] at ex
    rw [show ((y.toNat : Nat) : Int) = y by omega] at ey
    omega
theorem V_0 {x : Int} (hx : U x) : x = 0 ↔ V x = 0#8 := V_inj hx U_zero
theorem bv_iff (a b : BitVec 8) : a = b ↔ ∀ i, i < 8 → a.getLsbD i = b.getLsbD i :=
  ⟨fun h i _ => by rw [h], fun h => BitVec.eq_of_getLsbD_eq (fun i hi => h i hi)⟩
theorem not_bit (a : BitVec 8) (i : Nat) (h : i < 8) : (~~~a).getLsbD i = !a.getLsbD i := by simp [h]
end Go.Proofs.Ytcolklkjaifplaa.Oct
