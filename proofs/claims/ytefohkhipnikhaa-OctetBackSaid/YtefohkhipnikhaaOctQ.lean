/- The walk of OctetReads. -/
import Derived.Test.YtefohkhipnikhaaOctO
namespace Go.Proofs.Ytefohkhipnikhaa.Oct
open Go.RowKit
set_option linter.unusedVariables false

theorem own_keep {w w' : World} {base n g : Nat} {v : Value} {l : List Int} (h : Own w base v n l) (hg : w.grownBy w' (some g)) (hlt : g < base) : Own w' base v n l :=
  World.ownsRow.kept h hg (by
    cases hv : v.ownBlock with
    | none => exact .inl rfl
    | some k => exact .inr (fun e => by simp at e; have := (World.ownsRow.lt h k hv).1; omega))
theorem grown_cell {w w' : World} {g b o : Nat} {v : Value} (hg : w.grownBy w' (some g)) (h : w.cell? ⟨b, o, none⟩ = some v) (hne : b ≠ g) : w'.cell? ⟨b, o, none⟩ = some v :=
  World.grownBy.cell hg h (by simp; exact hne)
theorem below_grown {B g : Nat} {a w w' : World} (h : Below B a w) (hg : w.grownBy w' (some g)) (hB : B ≤ w.heap.size) (hg' : B ≤ g) : Below B a w' := h.grown hg hB (fun k e => by simp at e; omega)

set_option maxRecDepth 100000 in
set_option maxHeartbeats 4000000 in
theorem reads_any {w : World} {A A2 : Option Addr} {n c n2 c2 : Nat} {lb ls : List Int} (h : Rd .u8 w w.heap.size A n c lb) (hl : By lb) (h2 : Rd .i64 w w.heap.size A2 n2 c2 ls) (hc : c ≤ 140737488351232) :
    Calls Try.prog 5 #[.slice A n c, .slice A2 n2 c2] w fun e w' => e = .returned (.bool true) ∧ Below w.heap.size w w' := by
  have hle := h.le
  have hm2 := h2.max
  have hlen2 := h2.len
  go_enter Try.func5, Try.ntmps5
  go_wp2_with fail
  refine (copyBytes_any h (by omega)).mono ?_
  rintro e w1 ⟨A1, n1, c1, rfl, ho1, t1⟩
  have hn1 : n1 = n := by have := ho1.len; have := h.len; omega
  subst hn1
  have z1 := t1.size
  have r1 := ho1.rd
  have rb1 := h.below t1
  clear ho1
  go_wp2_with fail
  refine (read_any r1 hl (Nat.le_refl _) (by omega)).mono ?_
  rintro e w2 ⟨g1, rfl, hR2, t2⟩
  have z2 := t2.size
  have rb2 := rb1.below' t2 z1
  have hg1 := hR2.lt
  go_wp2_with fail
  refine (refRead_any rb2 hl (by omega) (by omega)).mono ?_
  rintro e w3 ⟨g2, rfl, hM3, t3⟩
  have z3 := t3.size
  have hR3 := hR2.below t3
  have T3 := (t1.trans (t2.mono z1)).trans (t3.mono (by omega))
  have hb1 : w1.heap.size ≤ g1 := by obtain ⟨_, _, _, _, hlo, _⟩ := hR2; exact hlo
  have hb2 : w2.heap.size ≤ g2 := by obtain ⟨_, _, _, _, hlo, _⟩ := hM3; exact hlo
  have hq1 := Kp.mk hR3
  have hq2 := Kp.mk hM3
  clear hR2 hR3 hM3 rb1 rb2 r1 t1 t2 t3 hle hc h
  have H2 := Kp.mk h2
  have Hl2 := Kp.mk hlen2
  clear h2 hlen2
  go_wp2_with fail
  go_loopw [7] (fun i wr => ∃ (k : Nat) (lx : List Int) (e : Int), k ≤ n2 ∧ k ≤ 40 ∧ i = .int .i64 k ∧ Kp (Rdr 52 wr w1.heap.size g1 lx e) ∧ Kp (Rdr 73 wr w2.heap.size g2 lx e) ∧ Below w.heap.size w wr) (fun i _ => 40 - (intOf i).toNat)
  case atStart => exact ⟨0, lb, 0, by omega, by omega, rfl, hq1, hq2, T3⟩
  case round =>
    obtain ⟨k, lx, e, hk, hk40, rfl, hR, hM, hb⟩ := hrel
    have hzr := hb.size
    clear hq1 hq2 T3
    by_cases hlt : k < n2 ∧ k < 40
    · obtain ⟨hl1, hl2⟩ := hlt
      have j1 : (k : Int) < n2 := by omega
      have j2 : (k : Int) < 40 := by omega
      obtain ⟨b, off, rfl, hbw, hcell⟩ := (H2.out.below hb).at_ (by omega)
      have hck := hcell k hl1
      have hgr := hR.out.lt
      clear hcell hl1 hl2
      generalize ls.getD k 0 = x at *
      have hby := hR.out.by_
      by_cases hx : 0 ≤ x
      · go_wp2_with fail
        go_region_held3 (fun w' => w'.cell? ⟨b, off + k, none⟩ = some (.int .i64 x))
          (first
            | exact hck
            | exact grown_cell hgA (by assumption) (by omega)
            | exact grown_cell hgB (by assumption) (by omega))
          (first | (go_at_call 30; refine (num_any x (w := wr.drew) hR.out).mono ?_; rintro en wA ⟨rfl, hA, hgA⟩) | (go_at_call 31; refine (refNum_any x ((show Rdr 73 wr.drew w2.heap.size g2 lx e from hM.out).keep hgA (fun k e => by simp at e; omega))).mono ?_; rintro en wB ⟨rfl, hB, hgB⟩))
        have hA2 := hA.keep hgB (fun k e => by simp at e; omega)
        have hbB : Below w.heap.size w wB := below_grown (below_grown hb.drew hgA hzr (by omega)) hgB (Nat.le_trans hzr hgA.size) (by omega)
        have HA := Kp.mk hA2
        have HB := Kp.mk hB
        have HbB := Kp.mk hbB
        clear hA hA2 hB hgA hgB hbB hb hck
        generalize (numR x lx e).2.1 = l2 at *
        generalize (numR x lx e).2.2 = e2 at *
        go_wp2_with fail
        refine (leftM_any HA.out).mono ?_
        rintro en w' ⟨rfl, rfl⟩
        go_wp2_with fail
        refine (refLeft_any HB.out).mono ?_
        rintro en w' ⟨rfl, rfl⟩
        go_wp2_with fail
        refine (errM_any HA.out).mono ?_
        rintro en w' ⟨rfl, rfl⟩
        go_wp2_with fail
        refine (refErr_any HB.out).mono ?_
        rintro en w' ⟨rfl, rfl⟩
        go_wp2_with fail
        refine (endM_any HA.out).mono ?_
        rintro en w' ⟨rfl, rfl⟩
        go_wp2_with fail
        refine (refEnd_any HB.out).mono ?_
        rintro en w' ⟨rfl, rfl⟩
        go_wp2_with fail
        go_roundw
        case rel => exact ⟨k + 1, l2, e2, by omega, by omega, by go_num, HA, HB, HbB.out⟩
        case measure => simp [intOf]; omega
      · have hx' : x < 0 := by omega
        clear hx
        have htb := textR_by lx e hby
        go_wp2_with fail
        refine (textM_any hR.out).mono ?_
        rintro en wA ⟨A5, n5, c5, rfl, hoA, hA, hgA⟩
        have hM2 := hM.out.keep hgA (fun k e => by simp at e; omega)
        have hzA := hgA.size
        go_wp2_with fail
        refine (refText_anyM hM2).mono ?_
        rintro en wB ⟨A6, n6, c6, rfl, hoB, hB, hgB⟩
        have hzB := hgB.size
        have hgw := hM.out.lt
        have hoA2 := own_keep hoA hgB (by omega)
        have hA2 := hA.keep hgB (fun k e => by simp at e; omega)
        have hbB : Below w.heap.size w wB := below_grown (below_grown hb hgA hzr (by omega)) hgB (Nat.le_trans hzr hgA.size) (by omega)
        go_wp2_with fail
        refine (eqBytes_any hoA2.rd hoB.rd htb htb).mono ?_
        rw [show decide ((textR lx e).1 = (textR lx e).1) = true from by simp]
        rintro en w' ⟨rfl, rfl⟩
        have HA := Kp.mk hA2
        have HB := Kp.mk hB
        have HbB := Kp.mk hbB
        clear hA hA2 hB hgA hgB hbB hb hck hoA hoA2 hoB hM2 htb
        generalize (textR lx e).2.1 = l2 at *
        generalize (textR lx e).2.2 = e2 at *
        go_wp2_with fail
        refine (leftM_any HA.out).mono ?_
        rintro en w' ⟨rfl, rfl⟩
        go_wp2_with fail
        refine (refLeft_any HB.out).mono ?_
        rintro en w' ⟨rfl, rfl⟩
        go_wp2_with fail
        refine (errM_any HA.out).mono ?_
        rintro en w' ⟨rfl, rfl⟩
        go_wp2_with fail
        refine (refErr_any HB.out).mono ?_
        rintro en w' ⟨rfl, rfl⟩
        go_wp2_with fail
        refine (endM_any HA.out).mono ?_
        rintro en w' ⟨rfl, rfl⟩
        go_wp2_with fail
        refine (refEnd_any HB.out).mono ?_
        rintro en w' ⟨rfl, rfl⟩
        go_wp2_with fail
        go_roundw
        case rel => exact ⟨k + 1, l2, e2, by omega, by omega, by go_num, HA, HB, HbB.out⟩
        case measure => simp [intOf]; omega
    · have hor : k = n2 ∨ (k < n2 ∧ k = 40) := by omega
      clear hlt
      rcases hor with rfl | ⟨j1, rfl⟩
      · go_wp2_with fail
        refine (works_any _).mono ?_
        rintro e w9 ⟨rfl, hb9⟩
        go_wp2_with fail
        go_ret
        exact ⟨rfl, hb.trans (hb9.mono hzr)⟩
      · have j2 : (40 : Int) < n2 := by omega
        go_wp2_with fail
        refine (works_any _).mono ?_
        rintro e w9 ⟨rfl, hb9⟩
        go_wp2_with fail
        go_ret
        exact ⟨rfl, hb.trans (hb9.mono hzr)⟩

theorem OctetReads_walk (A0 : Option Addr) (n0 c0 : Nat) (z0 : List Int) (A1 : Option Addr) (n1 c1 : Nat) (z1 : List Int) (w : World) (w0 : Frame.IsRow .u8 w A0 n0 c0 z0) (re0 : c0 * 1 ≤ 140737488351232) (w1 : Frame.IsRow .i64 w A1 n1 c1 z1) (re1 : c1 * 8 ≤ 140737488351232) :
    Calls Try.prog 5 #[.slice A0 n0 c0, .slice A1 n1 c1] w fun e w' => e = .returned (.bool true) ∧ Below w.heap.size w w' :=
  reads_any (Rd.of_row w0) (By.of_row w0) (Rd.of_row w1) (by omega)
end Go.Proofs.Ytefohkhipnikhaa.Oct
