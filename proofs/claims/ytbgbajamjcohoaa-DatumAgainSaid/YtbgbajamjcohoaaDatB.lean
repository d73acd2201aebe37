/- Contracts of layer 3: a datum's body and its bytes. -/
import Derived.Test.YtbgbajamjcohoaaDatA
import Derived.Test.YtbgbajamjcohoaaPut
namespace Go.Proofs.Ytbgbajamjcohoaa.Oct
open Go.RowKit
set_option linter.unusedVariables false

/-- A block that holds a datum. -/
def Bx (w : World) (g : Nat) (v h i a b c : Int) : Prop :=
  w.cell? ⟨g, 0, none⟩ = some (.int .i64 v) ∧ w.cell? ⟨g, 1, none⟩ = some (.int .i64 h) ∧ w.cell? ⟨g, 2, none⟩ = some (.int .i64 i) ∧
  w.cell? ⟨g, 3, none⟩ = some (.int .u8 a) ∧ w.cell? ⟨g, 4, none⟩ = some (.int .u8 b) ∧ w.cell? ⟨g, 5, none⟩ = some (.int .u8 c)
section
variable {w w' : World} {g B : Nat} {v h i a b c : Int}
theorem Bx.below (hx : Bx w g v h i a b c) (hb : Below B w w') (hg : g < B) : Bx w' g v h i a b c := by
  obtain ⟨h0, h1, h2, h3, h4, h5⟩ := hx
  exact ⟨(hb.cell (p := ⟨g, 0, none⟩) hg).trans h0, (hb.cell (p := ⟨g, 1, none⟩) hg).trans h1, (hb.cell (p := ⟨g, 2, none⟩) hg).trans h2,
    (hb.cell (p := ⟨g, 3, none⟩) hg).trans h3, (hb.cell (p := ⟨g, 4, none⟩) hg).trans h4, (hb.cell (p := ⟨g, 5, none⟩) hg).trans h5⟩
theorem Bx.new (w : World) (v h i a b c : Int) : Bx (w.alloc (.cells #[.int .i64 v, .int .i64 h, .int .i64 i, .int .u8 a, .int .u8 b, .int .u8 c] 25)) w.heap.size v h i a b c := by
  refine ⟨?_, ?_, ?_, ?_, ?_, ?_⟩ <;> rw [World.cell?_alloc_new] <;> rfl
/-- Its header, as a slice. -/
theorem Bx.arr (hx : Bx w g v h i a b c) (hg : g < B) : Rd .u8 w B (some ⟨g, 3, none⟩) 3 3 [a, b, c] := by
  obtain ⟨h0, h1, h2, h3, h4, h5⟩ := hx
  refine ⟨rfl, Nat.le_refl _, by unfold maxLen; omega, fun e => by simp at e, fun hn => ⟨g, 3, rfl, hg, fun j hj => ?_⟩⟩
  match j, hj with
  | 0, _ => exact h3
  | 1, _ => exact h4
  | 2, _ => exact h5
end
theorem dg_byte (x : Int) (h : 0 ≤ x ∧ x < 256) : dg 1 x = [x] := by simp [dg]; omega
theorem put_ver (v h : Int) (hv : 0 ≤ v ∧ v ≤ 200) (hh : 0 ≤ h ∧ h ≤ 12) : putP [] 1 [v, h] = (dg 1 v ++ dg 1 h, 0) := by
  unfold putP
  rw [if_pos (by omega), if_pos (by simp [fitsP]; omega)]
  simp
theorem put_id (l : List Int) (i : Int) (hi : 0 ≤ i ∧ i ≤ 4294967295) : putP l 4 [i] = (l ++ dg 4 i, 0) := putP_one l 4 (by omega) i hi.1 (by omega)
theorem dB_parts (v h i a b c : Int) (ha : 0 ≤ a ∧ a < 256) (hb : 0 ≤ b ∧ b < 256) (hc : 0 ≤ c ∧ c < 256) : (dg 1 v ++ dg 1 h) ++ dg 4 i ++ [a, b, c] = dB v h i a b c := by
  unfold dB
  rw [dg_byte a ha, dg_byte b hb, dg_byte c hc]
  simp [List.append_assoc]

set_option maxRecDepth 100000 in
set_option maxHeartbeats 1600000 in
theorem body_any (v h i a b c : Int) (w : World) (ok : okD v h i) (ha : 0 ≤ a ∧ a < 256) (hb : 0 ≤ b ∧ b < 256) (hc : 0 ≤ c ∧ c < 256) :
    Calls Try.prog 21 #[.agg #[.int .i64 v, .int .i64 h, .int .i64 i, .int .u8 a, .int .u8 b, .int .u8 c]] w (NewOf (dB v h i a b c) w) := by
  have hp1 := Kp.mk (put_ver v h ok.1 ok.2.1)
  have hp2 := Kp.mk (fun l => put_id l i ok.2.2)
  have hp3 := Kp.mk (dB_parts v h i a b c ha hb hc)
  clear ok ha hb hc
  go_enter Try.func21, Try.ntmps21
  go_wp2_with fail
  have hb0 := below_alloc w (.cells #[.int .i64 v, .int .i64 h, .int .i64 i, .int .u8 a, .int .u8 b, .int .u8 c] 25)
  have hx0 := Bx.new w v h i a b c
  generalize hW : (w.alloc (.cells #[.int .i64 v, .int .i64 h, .int .i64 i, .int .u8 a, .int .u8 b, .int .u8 c] 25)) = w0 at *
  have hz0 : w0.heap.size = w.heap.size + 1 := by rw [← hW]; simp
  clear hW
  rw [← hz0]
  refine (put_lit 1 [v, h] (Rd.nil .u8 w0 0) (by omega) (by simp) (by simp)).mono ?_
  rw [hp1.out]
  rintro e w1 ⟨A1, n1, c1, rfl, ho1, hb1⟩
  have hx1 := hx0.below hb1 (by omega)
  have hz1 := hb1.size
  have hl1 := ho1.len
  obtain ⟨d0, d1, d2, d3, d4, d5⟩ := id hx1
  go_wp2_with fail
  refine (put_lit 4 [i] ho1.rd (Nat.le_refl _) (by simp) (by simp [dg_len] at hl1; omega)).mono ?_
  rw [hp2.out]
  rintro e w2 ⟨A2, n2, c2, rfl, ho2, hb2⟩
  have hx2 := hx1.below hb2 (by omega)
  have hz2 := hb2.size
  have hl2 := ho2.len
  have hr2 := hx2.arr (B := w.heap.size + 1) (by omega)
  clear d0 d1 d2 d3 d4 d5
  obtain ⟨d0, d1, d2, d3, d4, d5⟩ := id hx2
  go_wp2_with (at_builtin; refine wpList_append8 rfl (.tmp 22) (.tmp 24) rfl rfl ho2 rfl hr2 (by simp [dg_len] at hl2; omega) hz2 ?_; intro A5 c5 w5 ho5 hb5)
  rw [hp3.out] at ho5
  go_ret
  exact ⟨A5, _, c5, rfl, ho5.lower (by omega), hb0.trans ((hb1.mono (by omega)).trans ((hb2.mono (by omega)).trans (hb5.mono (by omega))))⟩

theorem bytesD_ok {v h i : Int} (a b c : Int) (ok : okD v h i) : bytesD v h i a b c = sealP 1 (dB v h i a b c) := by
  unfold bytesD
  rw [if_pos ok, seal_frm 1 _ (by omega) (dB_by _ _ _ _ _ _) (by rw [dB_len]; omega)]

set_option maxRecDepth 100000 in
set_option maxHeartbeats 1600000 in
theorem bytes_any (v h i a b c : Int) (w : World) (ha : 0 ≤ a ∧ a < 256) (hb : 0 ≤ b ∧ b < 256) (hc : 0 ≤ c ∧ c < 256) :
    Calls Try.prog 9 #[.agg #[.int .i64 v, .int .i64 h, .int .i64 i, .int .u8 a, .int .u8 b, .int .u8 c]] w (PairOf (bytesD v h i a b c).1 (bytesD v h i a b c).2 w) := by
  by_cases ok : okD v h i
  · have hp1 := Kp.mk (show checkD v h i = 0 from if_pos ok)
    have hp2 := Kp.mk (bytesD_ok a b c ok)
    have Hb := Kp.mk (fun w => body_any v h i a b c w ok ha hb hc)
    clear ok ha hb hc
    go_enter Try.func9, Try.ntmps9
    go_wp2_with fail
    have hb0 := below_alloc w (.cells #[.int .i64 v, .int .i64 h, .int .i64 i, .int .u8 a, .int .u8 b, .int .u8 c] 25)
    have hx0 := Bx.new w v h i a b c
    generalize hW : (w.alloc (.cells #[.int .i64 v, .int .i64 h, .int .i64 i, .int .u8 a, .int .u8 b, .int .u8 c] 25)) = w0 at *
    have hz0 : w0.heap.size = w.heap.size + 1 := by rw [← hW]; simp
    clear hW
    refine (check_any v h i a b c w0).mono ?_
    rw [hp1.out]
    rintro e w1 ⟨rfl, hb1⟩
    have hx1 := hx0.below hb1 (by omega)
    have hz1 := hb1.size
    obtain ⟨d0, d1, d2, d3, d4, d5⟩ := id hx1
    go_wp2_with fail
    refine (Hb.out w1).mono ?_
    rintro e w2 ⟨A2, n2, c2, rfl, ho2, hb2⟩
    have hz2 := hb2.size
    have hl2 := ho2.len
    rw [dB_len] at hl2
    go_wp2_with fail
    refine (seal_any 1 ho2.rd (dB_by _ _ _ _ _ _) (Nat.le_refl _) (by omega)).mono ?_
    rintro e w3 ⟨A3, n3, c3, rfl, ho3, hb3⟩
    go_wp2_with fail
    rw [hp2.out]
    go_ret2
    exact ⟨A3, n3, c3, rfl, ho3.lower (by omega), hb0.trans ((hb1.mono (by omega)).trans ((hb2.mono (by omega)).trans (hb3.mono (by omega))))⟩
  · have hp1 := Kp.mk (show checkD v h i = 2 from if_neg ok)
    have hp2 := Kp.mk (show bytesD v h i a b c = ([], 2) from if_neg ok)
    clear ok ha hb hc
    go_enter Try.func9, Try.ntmps9
    go_wp2_with fail
    have hb0 := below_alloc w (.cells #[.int .i64 v, .int .i64 h, .int .i64 i, .int .u8 a, .int .u8 b, .int .u8 c] 25)
    generalize hW : (w.alloc (.cells #[.int .i64 v, .int .i64 h, .int .i64 i, .int .u8 a, .int .u8 b, .int .u8 c] 25)) = w0 at *
    have hz0 : w0.heap.size = w.heap.size + 1 := by rw [← hW]; simp
    clear hW
    refine (check_any v h i a b c w0).mono ?_
    rw [hp1.out]
    rintro e w1 ⟨rfl, hb1⟩
    go_wp2_with fail
    rw [hp2.out]
    go_ret2
    exact PairOf.nil 2 w (hb0.trans (hb1.mono (by omega)))
end Go.Proofs.Ytbgbajamjcohoaa.Oct
