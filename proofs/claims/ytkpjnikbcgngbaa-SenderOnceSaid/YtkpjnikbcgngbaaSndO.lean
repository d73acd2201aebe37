/- Statements of layer 13 (sender): SenderOnce, the walk. -/
import Derived.Test.YtkpjnikbcgngbaaSndL
import Derived.Test.YtkpjnikbcgngbaaFlat
namespace Go.Proofs.Ytkpjnikbcgngbaa.Oct
open Go.RowKit
set_option linter.unusedVariables false
set_option linter.unusedSimpArgs false
/-- The message of a number. -/
def by2 (j : Nat) : List Int := [(j : Int) % 256, (j : Int) / 256 % 256]
/-- Those that were put and not heard. -/
def msO (h p : Nat) : List (List Int) := (List.range (p - h)).map (fun j => by2 (h + j))
theorem msO_len (h p : Nat) : (msO h p).length = p - h := by simp [msO]
theorem msO_at (h p j : Nat) (hj : j < p - h) : (msO h p)[j]? = some (by2 (h + j)) := by simp [msO, hj]
theorem msO_push (h p : Nat) (hp : h ≤ p) : msO h p ++ [by2 p] = msO h (p + 1) := by
  unfold msO
  rw [show p + 1 - h = (p - h) + 1 by omega, List.range_succ, List.map_append]
  simp
  rw [show h + (p - h) = p by omega]
theorem msO_drop (h p k : Nat) : (msO h p).drop k = msO (h + k) p := by
  refine List.ext_getElem? (fun j => ?_)
  rw [List.getElem?_drop]
  by_cases hj : k + j < p - h
  · rw [msO_at _ _ _ hj, msO_at _ _ _ (by omega), show h + (k + j) = h + k + j by omega]
  · rw [List.getElem?_eq_none (by rw [msO_len]; omega), List.getElem?_eq_none (by rw [msO_len]; omega)]
theorem by2_by (j : Nat) : By (by2 j) := by
  intro z hz
  simp only [by2, List.mem_cons, List.not_mem_nil, or_false] at hz
  rcases hz with rfl | rfl <;> omega
theorem two_lit (w : World) (a b : Int) {l : List Int} (h : l = [a, b]) : Rd .u8 (w.alloc (.cells #[.int .u8 a, .int .u8 b] 5)) (w.alloc (.cells #[.int .u8 a, .int .u8 b] 5)).heap.size (some ⟨w.heap.size, 0, none⟩) 2 2 l := by
  subst h
  have := rd_lit .u8 w 5 [a, b] (by simp [maxLen]) (w.alloc (.cells #[.int .u8 a, .int .u8 b] 5)).heap.size (by simp)
  simpa using this
/-- A sender in the statement: p were put, q said, h heard. -/
structure SO (W : World) (lo : Nat) (w : World) (s c wd : Nat) (base : Int) (p q h : Nat) : Prop where
  ss : SS W lo w s c wd ((base + h) % 65536) (q - h) p (msO h p)
  le : h ≤ q ∧ q ≤ p ∧ q ≤ h + wd
set_option maxRecDepth 100000 in
set_option maxHeartbeats 16000000 in
theorem senderOnce_any {W : World} {A0 : Option Addr} {n0 c0 : Nat} {zs : List Int} (a b : Int) (h : Rd .i64 W W.heap.size A0 n0 c0 zs) : Calls Try.prog 4 #[.int .i64 a, .int .i64 b, .slice A0 n0 c0] W fun e w' => e = .returned (.bool true) ∧ Below W.heap.size W w' := by
  have hm := h.max
  have HR := Kp.mk h
  obtain ⟨lo, hlo⟩ : ∃ lo, lo = W.heap.size := ⟨_, rfl⟩
  rw [← hlo]
  have HLO := Kp.mk hlo
  clear hlo h
  have b1 := Ser.bringP_bd a 4 (by omega)
  have b2 := Ser.bringP_bd b 65536 (by omega)
  have hA := fun w => Ser.bring_any a 4 w (by omega) (by omega)
  have hB := fun w => Ser.bring_any b 65536 w (by omega) (by omega)
  generalize Ser.bringP a 4 = x at *
  generalize Ser.bringP b 65536 = base at *
  obtain ⟨wd, hwd⟩ : ∃ wd : Nat, (wd : Int) = 1 + x := ⟨(1 + x).toNat, by omega⟩
  have hw1 : IntKind.i64.wrap (1 + x) = (wd : Int) := by rw [IntKind.wrap_i64]; omega
  have hwb : 1 ≤ wd ∧ wd ≤ 4 := by omega
  have HX := Kp.mk (And.intro hwb b2)
  clear b1 hwd hwb b2
  go_enter Try.func4, Try.ntmps4
  go_wp2_with fail
  refine (sworks_any _).mono ?_
  rintro e w1 ⟨rfl, hb1⟩
  have HB1 := Kp.mk (show Below lo W w1 from by rw [HLO.out]; exact hb1)
  clear hb1
  go_wp2_with fail
  refine (hA _).mono ?_
  rintro e w2 ⟨rfl, hw2⟩
  subst hw2
  go_wp2_with fail
  refine (hB _).mono ?_
  rintro e w2 ⟨rfl, hw2⟩
  subst hw2
  clear hA hB
  go_wp2_with fail
  refine (ss_new w1 wd base (by have := HX.out; omega) (by have := HX.out; omega) W HB1.out (by have := HB1.out.size; rw [HLO.out]; exact this)).mono ?_
  rintro e w3 ⟨s, c, rfl, hS⟩
  rw [Int.toNat_natCast] at hS
  have hS0 : SO W lo w3 s c wd base 0 0 0 := by
    have e : (base + ((0 : Nat) : Int)) % 65536 = base := by have := HX.out; omega
    exact ⟨by rw [e]; exact hS, by omega⟩
  clear hS hw1
  go_wp2_with fail
  go_loopw [11, 12, 13, 14] (fun s11 s12 s13 s14 wr => ∃ (p q h i : Nat), s11 = .int .i64 p ∧ s12 = .int .i64 q ∧ s13 = .int .i64 h ∧ s14 = .int .i64 i ∧ i ≤ 300 ∧ p ≤ i ∧ SO W lo wr s c wd base p q h) (fun _ _ _ s14 _ => 300 - (intOf s14).toNat)
  case atStart => exact ⟨0, 0, 0, 0, rfl, rfl, rfl, rfl, by omega, by omega, hS0⟩
  case round =>
    clear hS0
    obtain ⟨p, q, h, i, rfl, rfl, rfl, rfl, hi, hpi, hS⟩ := hrel
    by_cases hgo : (i : Int) < n0 ∧ (i : Int) < 300
    · obtain ⟨j1, j2⟩ := hgo
      have HD := HR.out.below (by have := hS.ss.bl; rw [HLO.out] at this; exact this)
      obtain ⟨bb, off, rfl, hbl, hcc⟩ := HD.at_ (by omega)
      have d0 := hcc i (by omega)
      generalize zs.getD i 0 = hw at *
      have bx := Ser.bringP_bd hw 40 (by omega)
      have hBX := Ser.bring_any hw 40 wr (by omega) (by omega)
      generalize Ser.bringP hw 40 = x at *
      have HBX := Kp.mk bx
      have HJ := Kp.mk (And.intro j1 (And.intro j2 hpi))
      clear hcc HD bx
      have hr4 : x % 4 = 0 ∨ x % 4 = 1 ∨ x % 4 = 2 ∨ x % 4 = 3 := by omega
      have ht4 : Int.tmod x 4 = x % 4 := Int.tmod_eq_emod_of_nonneg HBX.out.1
      generalize hz : x % 4 = z at *
      have HZ := Kp.mk hz
      clear hz
      rcases hr4 with rfl | rfl | rfl | rfl
      · as_aux_lemma =>
        go_wp2_with (go_at_call 17; refine hBX.mono ?_; rintro e q1 ⟨rfl, hq⟩; subst hq)
        have hlit := two_lit wr ((p : Int) % 256) ((p : Int) / 256) (l := by2 p) (by unfold by2; congr 2; omega)
        have hle := hS.le
        have hput := ss_put (hS.ss.below (below_alloc wr (.cells #[.int .u8 ((p : Int) % 256), .int .u8 ((p : Int) / 256)] 5))) hlit (Nat.le_refl _) (by2_by p) (by rw [msO_len]; unfold putSE; rw [if_neg (by show ¬ (2 < 1 ∨ 256 < 2); omega), if_neg (by omega), if_neg (by omega)])
        refine hput.mono ?_
        rintro e w4 ⟨rfl, hS4⟩
        rw [msO_push _ _ (by omega)] at hS4
        have HSO : Kp (SO W lo w4 s c wd base (p + 1) q h) := ⟨⟨hS4, by omega⟩⟩
        have HPB : Kp (p + 1 ≤ i + 1 ∧ i < 300 ∧ (i : Int) < n0) := ⟨by have := HJ.out; omega⟩
        clear hlit hle hput hS hS4 hBX d0 ht4
        go_upto_region 33 with fail
        obtain ⟨p2, hp2⟩ : ∃ p2, p2 = p + 1 := ⟨_, rfl⟩
        have ep : (p : Int) + 1 = (p2 : Int) := by omega
        rw [ep]
        rw [← hp2] at HSO HPB
        clear ep hp2 hi hpi j1 j2
        obtain ⟨q2, hq2⟩ : ∃ q2, q2 = q := ⟨_, rfl⟩
        obtain ⟨h2, hh2⟩ : ∃ h2, h2 = h := ⟨_, rfl⟩
        rw [← hq2, ← hh2] at HSO
        rw [← hq2, ← hh2]
        clear hq2 hh2
        go_wp2_with fail
        refine (ss_again HSO.out.ss).mono ?_
        rintro e w5 ⟨A5, m5, its, rfl, hI, hT, hS5⟩
        have hqh : IntKind.i64.wrap ((q2 : Int) - h2) = ((q2 - h2 : Nat) : Int) := by have := HPB.out; have := HSO.out.le; rw [IntKind.wrap_i64]; omega
        have hph : IntKind.i64.wrap ((p2 : Int) - h2) = ((p2 - h2 : Nat) : Int) := by have := HPB.out; have := HSO.out.le; rw [IntKind.wrap_i64]; omega
        have hl := ss_left hS5
        rw [msO_len] at hl
        have hq := ss_said hS5
        obtain ⟨L, hL⟩ : ∃ L, L = q2 - h2 := ⟨_, rfl⟩
        obtain ⟨N, hN⟩ : ∃ N, N = p2 - h2 := ⟨_, rfl⟩
        rw [← hL] at hqh hq hI
        rw [← hN] at hph hl
        rw [← hL]
        have HL := Kp.mk (And.intro hL hN)
        have HI := Kp.mk hI
        have HT := Kp.mk hT
        have HS5 := Kp.mk (show SO W lo w5 s c wd base p2 q2 h2 from ⟨hS5, HSO.out.le⟩)
        clear hL hN hI hT hS5
        go_wp2_with (first | (go_at_call 10; refine hl.mono ?_; rintro e u1 ⟨rfl, hu⟩; replace hu := hu.symm; subst hu) | (go_at_call 12; refine hq.mono ?_; rintro e u1 ⟨rfl, hu⟩; replace hu := hu.symm; subst hu))
        clear hl hq hqh hph
        go_loopw [22] (fun s22 wq => ∃ k : Nat, s22 = .int .i64 k ∧ k ≤ L ∧ Below w5.heap.size w5 wq) (fun s22 _ => L - (intOf s22).toNat)
        case atStart => exact ⟨0, rfl, Nat.zero_le _, Below.refl _ _⟩
        case round =>
          obtain ⟨k, rfl, hk, hB⟩ := hrel
          by_cases hlt : (k : Int) < L
          · obtain ⟨x, hx⟩ : ∃ x, its[k]? = some x := ⟨_, List.getElem?_eq_getElem (show k < its.length by have := HI.out.len; omega)⟩
            obtain ⟨x1, x2⟩ := HT.out.num k x hx
            obtain ⟨g1, o1, rfl, _, f1⟩ := (HI.out.below hB).at_ (by omega)
            obtain ⟨p0, p1⟩ := f1 k x hx
            have hfx := (HT.out.fr x (List.mem_of_getElem? hx)).below hB
            have hbd := HX.out
            have hpb := HPB.out
            have hle := HSO.out.le
            have hll := HL.out
            rw [Nat.zero_add] at x2 x1
            rw [msO_at _ _ _ (by omega)] at x2
            obtain ⟨j, hj⟩ : ∃ j, j = h2 + k := ⟨_, rfl⟩
            obtain ⟨z, hz⟩ : ∃ z, z = x.1 := ⟨_, rfl⟩
            have hb1 : IntKind.i64.wrap (base + h2) = base + h2 := by rw [IntKind.wrap_i64]; omega
            have hb2 : IntKind.i64.wrap (base + h2 + k) = base + h2 + k := by rw [IntKind.wrap_i64]; omega
            have hb3 : IntKind.i64.wrap ((h2 : Int) + k) = (j : Int) := by rw [IntKind.wrap_i64]; omega
            have htm : Int.tmod (base + h2 + k) 65536 = z := by
              rw [Int.tmod_eq_emod_of_nonneg (by omega), hz, x1]
              unfold Ser.plusP
              omega
            have hlx : x.2.l = by2 j := by rw [hj]; exact (Option.some.inj x2).symm
            rw [← hz] at p0
            rw [show x.2.val = .slice x.2.A x.2.n x.2.c from rfl] at p1
            have HJ2 := Kp.mk (show j ≤ 600 by omega)
            have HK := Kp.mk (And.intro hlt hk)
            have HB := Kp.mk hB
            have HLX := Kp.mk hlx
            have HFX := Kp.mk hfx
            have HKB := Kp.mk (show k ≤ 600 by omega)
            clear f1 hx x1 x2 hfx hbd hpb hle hll hz hj hlx hB hk
            go_wp2_with fail
            have hba := below_alloc wr (.cells #[.int .u8 ((j : Int) % 256), .int .u8 ((j : Int) / 256 % 256)] 5)
            refine (eqBytes_any (HFX.out.below hba).rd (two_lit wr ((j : Int) % 256) ((j : Int) / 256 % 256) (l := by2 j) rfl) HFX.out.bytes (by2_by j)).mono ?_
            rintro e u7 ⟨rfl, hu⟩
            rw [decide_eq_true HLX.out]
            subst hu
            have HB2 := Kp.mk (HB.out.trans (hba.mono HB.out.size))
            clear hba p0 p1 hb1 hb2 hb3 htm hlt
            go_wp2_with fail
            go_roundw
            case rel => exact ⟨k + 1, congrArg (Value.int .i64) (wrap_succ (by have := HKB.out; omega)), by have := HK.out; omega, HB2.out⟩
            case measure => exact meas_lt (by have := HK.out; omega) (by have := HKB.out; omega)
          · have HS6 := Kp.mk (show SO W lo wr s c wd base p2 q2 h2 from ⟨HS5.out.ss.below hB, HS5.out.le⟩)
            clear hB hk
            go_wp2_with fail
            go_roundw
            case rel => exact ⟨p2, q2, h2, i + 1, rfl, rfl, rfl, congrArg (Value.int .i64) (wrap_succ (by have := HPB.out; omega)), by have := HPB.out; omega, by have := HPB.out; omega, HS6.out⟩
            case measure => exact meas_lt (by have := HPB.out; omega) (by have := HPB.out; omega)
      · as_aux_lemma =>
        go_wp2_with (go_at_call 17; refine hBX.mono ?_; rintro e q1 ⟨rfl, hq⟩; subst hq)
        have hlit := two_lit wr ((p : Int) % 256) ((p : Int) / 256) (l := by2 p) (by unfold by2; congr 2; omega)
        have hle := hS.le
        have hput := ss_put (hS.ss.below (below_alloc wr (.cells #[.int .u8 ((p : Int) % 256), .int .u8 ((p : Int) / 256)] 5))) hlit (Nat.le_refl _) (by2_by p) (by rw [msO_len]; unfold putSE; rw [if_neg (by show ¬ (2 < 1 ∨ 256 < 2); omega), if_neg (by omega), if_neg (by omega)])
        refine hput.mono ?_
        rintro e w4 ⟨rfl, hS4⟩
        rw [msO_push _ _ (by omega)] at hS4
        have HSO : Kp (SO W lo w4 s c wd base (p + 1) q h) := ⟨⟨hS4, by omega⟩⟩
        have HPB : Kp (p + 1 ≤ i + 1 ∧ i < 300 ∧ (i : Int) < n0) := ⟨by have := HJ.out; omega⟩
        clear hlit hle hput hS hS4 hBX d0 ht4
        go_upto_region 33 with fail
        obtain ⟨p2, hp2⟩ : ∃ p2, p2 = p + 1 := ⟨_, rfl⟩
        have ep : (p : Int) + 1 = (p2 : Int) := by omega
        rw [ep]
        rw [← hp2] at HSO HPB
        clear ep hp2 hi hpi j1 j2
        obtain ⟨q2, hq2⟩ : ∃ q2, q2 = q := ⟨_, rfl⟩
        obtain ⟨h2, hh2⟩ : ∃ h2, h2 = h := ⟨_, rfl⟩
        rw [← hq2, ← hh2] at HSO
        rw [← hq2, ← hh2]
        clear hq2 hh2
        go_wp2_with fail
        refine (ss_again HSO.out.ss).mono ?_
        rintro e w5 ⟨A5, m5, its, rfl, hI, hT, hS5⟩
        have hqh : IntKind.i64.wrap ((q2 : Int) - h2) = ((q2 - h2 : Nat) : Int) := by have := HPB.out; have := HSO.out.le; rw [IntKind.wrap_i64]; omega
        have hph : IntKind.i64.wrap ((p2 : Int) - h2) = ((p2 - h2 : Nat) : Int) := by have := HPB.out; have := HSO.out.le; rw [IntKind.wrap_i64]; omega
        have hl := ss_left hS5
        rw [msO_len] at hl
        have hq := ss_said hS5
        obtain ⟨L, hL⟩ : ∃ L, L = q2 - h2 := ⟨_, rfl⟩
        obtain ⟨N, hN⟩ : ∃ N, N = p2 - h2 := ⟨_, rfl⟩
        rw [← hL] at hqh hq hI
        rw [← hN] at hph hl
        rw [← hL]
        have HL := Kp.mk (And.intro hL hN)
        have HI := Kp.mk hI
        have HT := Kp.mk hT
        have HS5 := Kp.mk (show SO W lo w5 s c wd base p2 q2 h2 from ⟨hS5, HSO.out.le⟩)
        clear hL hN hI hT hS5
        go_wp2_with (first | (go_at_call 10; refine hl.mono ?_; rintro e u1 ⟨rfl, hu⟩; replace hu := hu.symm; subst hu) | (go_at_call 12; refine hq.mono ?_; rintro e u1 ⟨rfl, hu⟩; replace hu := hu.symm; subst hu))
        clear hl hq hqh hph
        go_loopw [22] (fun s22 wq => ∃ k : Nat, s22 = .int .i64 k ∧ k ≤ L ∧ Below w5.heap.size w5 wq) (fun s22 _ => L - (intOf s22).toNat)
        case atStart => exact ⟨0, rfl, Nat.zero_le _, Below.refl _ _⟩
        case round =>
          obtain ⟨k, rfl, hk, hB⟩ := hrel
          by_cases hlt : (k : Int) < L
          · obtain ⟨x, hx⟩ : ∃ x, its[k]? = some x := ⟨_, List.getElem?_eq_getElem (show k < its.length by have := HI.out.len; omega)⟩
            obtain ⟨x1, x2⟩ := HT.out.num k x hx
            obtain ⟨g1, o1, rfl, _, f1⟩ := (HI.out.below hB).at_ (by omega)
            obtain ⟨p0, p1⟩ := f1 k x hx
            have hfx := (HT.out.fr x (List.mem_of_getElem? hx)).below hB
            have hbd := HX.out
            have hpb := HPB.out
            have hle := HSO.out.le
            have hll := HL.out
            rw [Nat.zero_add] at x2 x1
            rw [msO_at _ _ _ (by omega)] at x2
            obtain ⟨j, hj⟩ : ∃ j, j = h2 + k := ⟨_, rfl⟩
            obtain ⟨z, hz⟩ : ∃ z, z = x.1 := ⟨_, rfl⟩
            have hb1 : IntKind.i64.wrap (base + h2) = base + h2 := by rw [IntKind.wrap_i64]; omega
            have hb2 : IntKind.i64.wrap (base + h2 + k) = base + h2 + k := by rw [IntKind.wrap_i64]; omega
            have hb3 : IntKind.i64.wrap ((h2 : Int) + k) = (j : Int) := by rw [IntKind.wrap_i64]; omega
            have htm : Int.tmod (base + h2 + k) 65536 = z := by
              rw [Int.tmod_eq_emod_of_nonneg (by omega), hz, x1]
              unfold Ser.plusP
              omega
            have hlx : x.2.l = by2 j := by rw [hj]; exact (Option.some.inj x2).symm
            rw [← hz] at p0
            rw [show x.2.val = .slice x.2.A x.2.n x.2.c from rfl] at p1
            have HJ2 := Kp.mk (show j ≤ 600 by omega)
            have HK := Kp.mk (And.intro hlt hk)
            have HB := Kp.mk hB
            have HLX := Kp.mk hlx
            have HFX := Kp.mk hfx
            have HKB := Kp.mk (show k ≤ 600 by omega)
            clear f1 hx x1 x2 hfx hbd hpb hle hll hz hj hlx hB hk
            go_wp2_with fail
            have hba := below_alloc wr (.cells #[.int .u8 ((j : Int) % 256), .int .u8 ((j : Int) / 256 % 256)] 5)
            refine (eqBytes_any (HFX.out.below hba).rd (two_lit wr ((j : Int) % 256) ((j : Int) / 256 % 256) (l := by2 j) rfl) HFX.out.bytes (by2_by j)).mono ?_
            rintro e u7 ⟨rfl, hu⟩
            rw [decide_eq_true HLX.out]
            subst hu
            have HB2 := Kp.mk (HB.out.trans (hba.mono HB.out.size))
            clear hba p0 p1 hb1 hb2 hb3 htm hlt
            go_wp2_with fail
            go_roundw
            case rel => exact ⟨k + 1, congrArg (Value.int .i64) (wrap_succ (by have := HKB.out; omega)), by have := HK.out; omega, HB2.out⟩
            case measure => exact meas_lt (by have := HK.out; omega) (by have := HKB.out; omega)
          · have HS6 := Kp.mk (show SO W lo wr s c wd base p2 q2 h2 from ⟨HS5.out.ss.below hB, HS5.out.le⟩)
            clear hB hk
            go_wp2_with fail
            go_roundw
            case rel => exact ⟨p2, q2, h2, i + 1, rfl, rfl, rfl, congrArg (Value.int .i64) (wrap_succ (by have := HPB.out; omega)), by have := HPB.out; omega, by have := HPB.out; omega, HS6.out⟩
            case measure => exact meas_lt (by have := HPB.out; omega) (by have := HPB.out; omega)
      · as_aux_lemma =>
        have hle := hS.le
        have hss := hS.ss
        obtain ⟨t, ht⟩ : ∃ t, t = min p (h + wd) - q := ⟨_, rfl⟩
        have hfr := ss_fresh hss (k := t) (by rw [msO_len]; omega)
        have HLE := Kp.mk (And.intro hle ht)
        have HJ2 := Kp.mk (show p ≤ i ∧ i < 300 by have := HJ.out; omega)
        clear hle ht hS hi hpi
        go_wp2_with (go_at_call 17; refine hBX.mono ?_; rintro e q1 ⟨rfl, hq⟩; subst hq)
        refine hfr.mono ?_
        rintro e w4 ⟨A4, m4, its, rfl, hI, hT, hS4⟩
        clear hfr hss
        have HSO : Kp (SO W lo w4 s c wd base p (q + t) h) := ⟨by
          have hle := HLE.out
          refine ⟨?_, by omega⟩
          rw [show q + t - h = q - h + t by omega]
          exact hS4⟩
        have HI := Kp.mk hI
        have HT := Kp.mk hT
        clear hI hT hS4 hBX d0 ht4
        go_wp2_with fail
        go_loopw [12, 17] (fun s12 s17 wr => ∃ k : Nat, s12 = .int .i64 ((q + k : Nat) : Int) ∧ s17 = .int .i64 k ∧ k ≤ t ∧ Below w4.heap.size w4 wr) (fun _ s17 _ => t - (intOf s17).toNat)
        case atStart => exact ⟨0, rfl, rfl, Nat.zero_le _, Below.refl _ _⟩
        case round =>
          obtain ⟨k, rfl, rfl, hk, hB⟩ := hrel
          obtain ⟨j, hj⟩ : ∃ j, j = q + k := ⟨_, rfl⟩
          rw [← hj]
          by_cases hlt : (k : Int) < t
          · obtain ⟨y, hy⟩ : ∃ y, its[k]? = some y := ⟨_, List.getElem?_eq_getElem (show k < its.length by have := HI.out.len; omega)⟩
            obtain ⟨x1, x2⟩ := HT.out.num k y hy
            obtain ⟨g1, o1, rfl, _, f1⟩ := (HI.out.below hB).at_ (by omega)
            obtain ⟨p0, p1⟩ := f1 k y hy
            have hfx := (HT.out.fr y (List.mem_of_getElem? hy)).below hB
            have hbd := HX.out
            have hle := HLE.out
            have hjj := HJ2.out
            rw [msO_at _ _ _ (by omega)] at x2
            obtain ⟨z, hz⟩ : ∃ z, z = y.1 := ⟨_, rfl⟩
            have hb1 : IntKind.i64.wrap (base + j) = base + j := by rw [IntKind.wrap_i64]; omega
            have htm : Int.tmod (base + j) 65536 = z := by
              rw [Int.tmod_eq_emod_of_nonneg (by omega), hz, x1]
              unfold Ser.plusP
              omega
            have hlx : y.2.l = by2 j := by rw [hj, show q + k = h + (q - h + k) by omega]; exact (Option.some.inj x2).symm
            rw [← hz] at p0
            rw [show y.2.val = .slice y.2.A y.2.n y.2.c from rfl] at p1
            have HJJ := Kp.mk (And.intro hj (show j ≤ 600 ∧ k ≤ 600 by omega))
            have HK := Kp.mk (And.intro hlt hk)
            have HB := Kp.mk hB
            have HLX := Kp.mk hlx
            have HFX := Kp.mk hfx
            clear f1 hy x1 x2 hfx hbd hle hjj hz hj hlx hB hk
            go_wp2_with fail
            have hba := below_alloc wr (.cells #[.int .u8 ((j : Int) % 256), .int .u8 ((j : Int) / 256 % 256)] 5)
            refine (eqBytes_any (HFX.out.below hba).rd (two_lit wr ((j : Int) % 256) ((j : Int) / 256 % 256) (l := by2 j) rfl) HFX.out.bytes (by2_by j)).mono ?_
            rintro e u7 ⟨rfl, hu⟩
            rw [decide_eq_true HLX.out]
            subst hu
            have HB2 := Kp.mk (HB.out.trans (hba.mono HB.out.size))
            clear hba p0 p1 hb1 htm hlt
            go_wp2_with fail
            go_roundw
            case rel => exact ⟨k + 1, by rw [show q + (k + 1) = j + 1 by have := HJJ.out; omega]; exact congrArg (Value.int .i64) (wrap_succ (by have := HJJ.out; omega)), congrArg (Value.int .i64) (wrap_succ (by have := HJJ.out; omega)), by have := HK.out; omega, HB2.out⟩
            case measure => exact meas_lt (by have := HK.out; omega) (by have := HJJ.out; omega)
          · have HSO : Kp (SO W lo wr s c wd base p j h) := ⟨by rw [hj, show k = t by omega]; exact ⟨HSO.out.ss.below hB, HSO.out.le⟩⟩
            have HPB : Kp (p ≤ i + 1 ∧ i < 300 ∧ (i : Int) < n0) := ⟨by have := HJ.out; omega⟩
            have HJQ := Kp.mk (show j = min p (h + wd) ∧ h ≤ j by have := HLE.out; omega)
            clear hB hk hj
            go_upto_region 31 with fail
            clear hlt
            go_cut [155] from 38 to 216 (fun s155 wx => s155 = .bool false ∧ wx = wr)
            case first =>
              have hjq := HJQ.out
              have hpb := HPB.out
              have hbw := HX.out.1
              obtain ⟨hw, hhw⟩ : ∃ hw, hw = h + wd := ⟨_, rfl⟩
              obtain ⟨d, hd⟩ : ∃ d, d = j - h := ⟨_, rfl⟩
              have a1 : IntKind.i64.wrap ((j : Int) - h) = (d : Int) := by rw [IntKind.wrap_i64]; omega
              have a2 : ¬ (wd : Int) < d := by omega
              have a3 : IntKind.i64.wrap ((h : Int) + wd) = (hw : Int) := by rw [IntKind.wrap_i64]; omega
              by_cases hc : (hw : Int) < p
              · obtain rfl : j = hw := by omega
                clear hjq hpb hbw hhw hd HSO HJQ
                go_wp2_with fail
                go_meet
                case rel => exact ⟨rfl, rfl⟩
              · obtain rfl : j = p := by omega
                clear hjq hpb hbw hhw hd HSO HJQ
                go_wp2_with fail
                go_meet
                case rel => exact ⟨rfl, rfl⟩
            obtain ⟨rfl, hwc⟩ := hcut
            subst hwc
            clear j1 j2
            obtain ⟨p2, hp2⟩ : ∃ p2, p2 = p := ⟨_, rfl⟩
            rw [← hp2] at HSO HPB
            rw [← hp2]
            clear hp2
            obtain ⟨q2, hq2⟩ : ∃ q2, q2 = j := ⟨_, rfl⟩
            rw [← hq2] at HSO
            rw [← hq2]
            clear hq2
            obtain ⟨h2, hh2⟩ : ∃ h2, h2 = h := ⟨_, rfl⟩
            rw [← hh2] at HSO
            rw [← hh2]
            clear hh2
            go_wp2_with fail
            refine (ss_again HSO.out.ss).mono ?_
            rintro e w5 ⟨A5, m5, its, rfl, hI, hT, hS5⟩
            have hqh : IntKind.i64.wrap ((q2 : Int) - h2) = ((q2 - h2 : Nat) : Int) := by have := HPB.out; have := HSO.out.le; rw [IntKind.wrap_i64]; omega
            have hph : IntKind.i64.wrap ((p2 : Int) - h2) = ((p2 - h2 : Nat) : Int) := by have := HPB.out; have := HSO.out.le; rw [IntKind.wrap_i64]; omega
            have hl := ss_left hS5
            rw [msO_len] at hl
            have hq := ss_said hS5
            obtain ⟨L, hL⟩ : ∃ L, L = q2 - h2 := ⟨_, rfl⟩
            obtain ⟨N, hN⟩ : ∃ N, N = p2 - h2 := ⟨_, rfl⟩
            rw [← hL] at hqh hq hI
            rw [← hN] at hph hl
            rw [← hL]
            have HL := Kp.mk (And.intro hL hN)
            have HI := Kp.mk hI
            have HT := Kp.mk hT
            have HS5 := Kp.mk (show SO W lo w5 s c wd base p2 q2 h2 from ⟨hS5, HSO.out.le⟩)
            clear hL hN hI hT hS5
            go_wp2_with (first | (go_at_call 10; refine hl.mono ?_; rintro e u1 ⟨rfl, hu⟩; replace hu := hu.symm; subst hu) | (go_at_call 12; refine hq.mono ?_; rintro e u1 ⟨rfl, hu⟩; replace hu := hu.symm; subst hu))
            clear hl hq hqh hph
            go_loopw [22] (fun s22 wq => ∃ k : Nat, s22 = .int .i64 k ∧ k ≤ L ∧ Below w5.heap.size w5 wq) (fun s22 _ => L - (intOf s22).toNat)
            case atStart => exact ⟨0, rfl, Nat.zero_le _, Below.refl _ _⟩
            case round =>
              obtain ⟨k, rfl, hk, hB⟩ := hrel
              by_cases hlt : (k : Int) < L
              · obtain ⟨x, hx⟩ : ∃ x, its[k]? = some x := ⟨_, List.getElem?_eq_getElem (show k < its.length by have := HI.out.len; omega)⟩
                obtain ⟨x1, x2⟩ := HT.out.num k x hx
                obtain ⟨g1, o1, rfl, _, f1⟩ := (HI.out.below hB).at_ (by omega)
                obtain ⟨p0, p1⟩ := f1 k x hx
                have hfx := (HT.out.fr x (List.mem_of_getElem? hx)).below hB
                have hbd := HX.out
                have hpb := HPB.out
                have hle := HSO.out.le
                have hll := HL.out
                rw [Nat.zero_add] at x2 x1
                rw [msO_at _ _ _ (by omega)] at x2
                obtain ⟨j, hj⟩ : ∃ j, j = h2 + k := ⟨_, rfl⟩
                obtain ⟨z, hz⟩ : ∃ z, z = x.1 := ⟨_, rfl⟩
                have hb1 : IntKind.i64.wrap (base + h2) = base + h2 := by rw [IntKind.wrap_i64]; omega
                have hb2 : IntKind.i64.wrap (base + h2 + k) = base + h2 + k := by rw [IntKind.wrap_i64]; omega
                have hb3 : IntKind.i64.wrap ((h2 : Int) + k) = (j : Int) := by rw [IntKind.wrap_i64]; omega
                have htm : Int.tmod (base + h2 + k) 65536 = z := by
                  rw [Int.tmod_eq_emod_of_nonneg (by omega), hz, x1]
                  unfold Ser.plusP
                  omega
                have hlx : x.2.l = by2 j := by rw [hj]; exact (Option.some.inj x2).symm
                rw [← hz] at p0
                rw [show x.2.val = .slice x.2.A x.2.n x.2.c from rfl] at p1
                have HJ2 := Kp.mk (show j ≤ 600 by omega)
                have HK := Kp.mk (And.intro hlt hk)
                have HB := Kp.mk hB
                have HLX := Kp.mk hlx
                have HFX := Kp.mk hfx
                have HKB := Kp.mk (show k ≤ 600 by omega)
                clear f1 hx x1 x2 hfx hbd hpb hle hll hz hj hlx hB hk
                go_wp2_with fail
                have hba := below_alloc wr (.cells #[.int .u8 ((j : Int) % 256), .int .u8 ((j : Int) / 256 % 256)] 5)
                refine (eqBytes_any (HFX.out.below hba).rd (two_lit wr ((j : Int) % 256) ((j : Int) / 256 % 256) (l := by2 j) rfl) HFX.out.bytes (by2_by j)).mono ?_
                rintro e u7 ⟨rfl, hu⟩
                rw [decide_eq_true HLX.out]
                subst hu
                have HB2 := Kp.mk (HB.out.trans (hba.mono HB.out.size))
                clear hba p0 p1 hb1 hb2 hb3 htm hlt
                go_wp2_with fail
                go_roundw
                case rel => exact ⟨k + 1, congrArg (Value.int .i64) (wrap_succ (by have := HKB.out; omega)), by have := HK.out; omega, HB2.out⟩
                case measure => exact meas_lt (by have := HK.out; omega) (by have := HKB.out; omega)
              · have HS6 := Kp.mk (show SO W lo wr s c wd base p2 q2 h2 from ⟨HS5.out.ss.below hB, HS5.out.le⟩)
                clear hB hk
                go_wp2_with fail
                go_roundw
                case rel => exact ⟨p2, q2, h2, i + 1, rfl, rfl, rfl, congrArg (Value.int .i64) (wrap_succ (by have := HPB.out; omega)), by have := HPB.out; omega, by have := HPB.out; omega, HS6.out⟩
                case measure => exact meas_lt (by have := HPB.out; omega) (by have := HPB.out; omega)
      · as_aux_lemma =>
        have hle := hS.le
        have hbx := HBX.out
        have hbb := HX.out
        obtain ⟨k, hk⟩ : ∃ k : Nat, (k : Int) = x / 4 % 6 := ⟨(x / 4 % 6).toNat, by omega⟩
        have hd4 : IntKind.i64.wrap (Int.tdiv x 4) = x / 4 := by rw [Int.tdiv_eq_ediv_of_nonneg hbx.1, IntKind.wrap_i64]; omega
        have hd6 : Int.tmod (x / 4) 6 = (k : Int) := by rw [Int.tmod_eq_emod_of_nonneg (by omega), hk]
        have hb1 : IntKind.i64.wrap (base + h) = base + h := by rw [IntKind.wrap_i64]; omega
        have hb2 : IntKind.i64.wrap (base + h + k) = base + h + k := by rw [IntKind.wrap_i64]; omega
        obtain ⟨ack, hak⟩ : ∃ ack, ack = (base + h + k) % 65536 := ⟨_, rfl⟩
        have htm : Int.tmod (base + h + k) 65536 = ack := by rw [hak]; exact Int.tmod_eq_emod_of_nonneg (by omega)
        obtain ⟨h2, hh2⟩ : ∃ h2, h2 = h + k := ⟨_, rfl⟩
        have hb3 : IntKind.i64.wrap ((h : Int) + k) = (h2 : Int) := by rw [IntKind.wrap_i64]; omega
        have hd0 : ((base + h + k) % 65536 - (base + h) % 65536) % 65536 = k := by omega
        generalize x / 4 = y at *
        by_cases hkq : k ≤ q - h
        · have hack : ackP ((base + h) % 65536) (q - h) ack = k := by
            unfold ackP Ser.atP
            rw [if_pos (by omega), hak, hd0, if_pos (by omega)]
          have hqq : (h2 : Int) ≤ q := by omega
          have hss := hS.ss
          have HLE := Kp.mk (And.intro hle hh2)
          have HAK := Kp.mk hak
          have HJ2 := Kp.mk (show p ≤ i ∧ i < 300 by have := HJ.out; omega)
          clear hle hbx hbb hk hd0 hkq hS hh2 hak hi hpi
          go_wp2_with (go_at_call 17; refine hBX.mono ?_; rintro e q1 ⟨rfl, hq⟩; subst hq)
          refine (ss_heard hss hack).mono ?_
          rintro e w4 ⟨rfl, hS4⟩
          rw [msO_drop] at hS4
          have HSO : Kp (SO W lo w4 s c wd base p q h2) := ⟨by
            have hle := HLE.out
            have e1 : (base + (h2 : Int)) % 65536 = ack := by rw [HAK.out, hle.2]; congr 1; omega
            have e2 : q - h2 = q - h - k := by omega
            refine ⟨?_, by omega⟩
            rw [e1, e2, hle.2]
            exact hS4⟩
          have HPB : Kp (p ≤ i + 1 ∧ i < 300 ∧ (i : Int) < n0) := ⟨by have := HJ.out; omega⟩
          clear hS4 hss hack hBX d0 ht4 hd4 hd6 hb1 hb2 htm
          go_upto_region 33 with fail
          clear hb3 hqq j1 j2
          obtain ⟨p2, hp2⟩ : ∃ p2, p2 = p := ⟨_, rfl⟩
          rw [← hp2] at HSO HPB
          rw [← hp2]
          clear hp2
          obtain ⟨q2, hq2⟩ : ∃ q2, q2 = q := ⟨_, rfl⟩
          rw [← hq2] at HSO
          rw [← hq2]
          clear hq2
          go_wp2_with fail
          refine (ss_again HSO.out.ss).mono ?_
          rintro e w5 ⟨A5, m5, its, rfl, hI, hT, hS5⟩
          have hqh : IntKind.i64.wrap ((q2 : Int) - h2) = ((q2 - h2 : Nat) : Int) := by have := HPB.out; have := HSO.out.le; rw [IntKind.wrap_i64]; omega
          have hph : IntKind.i64.wrap ((p2 : Int) - h2) = ((p2 - h2 : Nat) : Int) := by have := HPB.out; have := HSO.out.le; rw [IntKind.wrap_i64]; omega
          have hl := ss_left hS5
          rw [msO_len] at hl
          have hq := ss_said hS5
          obtain ⟨L, hL⟩ : ∃ L, L = q2 - h2 := ⟨_, rfl⟩
          obtain ⟨N, hN⟩ : ∃ N, N = p2 - h2 := ⟨_, rfl⟩
          rw [← hL] at hqh hq hI
          rw [← hN] at hph hl
          rw [← hL]
          have HL := Kp.mk (And.intro hL hN)
          have HI := Kp.mk hI
          have HT := Kp.mk hT
          have HS5 := Kp.mk (show SO W lo w5 s c wd base p2 q2 h2 from ⟨hS5, HSO.out.le⟩)
          clear hL hN hI hT hS5
          go_wp2_with (first | (go_at_call 10; refine hl.mono ?_; rintro e u1 ⟨rfl, hu⟩; replace hu := hu.symm; subst hu) | (go_at_call 12; refine hq.mono ?_; rintro e u1 ⟨rfl, hu⟩; replace hu := hu.symm; subst hu))
          clear hl hq hqh hph
          go_loopw [22] (fun s22 wq => ∃ k : Nat, s22 = .int .i64 k ∧ k ≤ L ∧ Below w5.heap.size w5 wq) (fun s22 _ => L - (intOf s22).toNat)
          case atStart => exact ⟨0, rfl, Nat.zero_le _, Below.refl _ _⟩
          case round =>
            obtain ⟨k, rfl, hk, hB⟩ := hrel
            by_cases hlt : (k : Int) < L
            · obtain ⟨x, hx⟩ : ∃ x, its[k]? = some x := ⟨_, List.getElem?_eq_getElem (show k < its.length by have := HI.out.len; omega)⟩
              obtain ⟨x1, x2⟩ := HT.out.num k x hx
              obtain ⟨g1, o1, rfl, _, f1⟩ := (HI.out.below hB).at_ (by omega)
              obtain ⟨p0, p1⟩ := f1 k x hx
              have hfx := (HT.out.fr x (List.mem_of_getElem? hx)).below hB
              have hbd := HX.out
              have hpb := HPB.out
              have hle := HSO.out.le
              have hll := HL.out
              rw [Nat.zero_add] at x2 x1
              rw [msO_at _ _ _ (by omega)] at x2
              obtain ⟨j, hj⟩ : ∃ j, j = h2 + k := ⟨_, rfl⟩
              obtain ⟨z, hz⟩ : ∃ z, z = x.1 := ⟨_, rfl⟩
              have hb1 : IntKind.i64.wrap (base + h2) = base + h2 := by rw [IntKind.wrap_i64]; omega
              have hb2 : IntKind.i64.wrap (base + h2 + k) = base + h2 + k := by rw [IntKind.wrap_i64]; omega
              have hb3 : IntKind.i64.wrap ((h2 : Int) + k) = (j : Int) := by rw [IntKind.wrap_i64]; omega
              have htm : Int.tmod (base + h2 + k) 65536 = z := by
                rw [Int.tmod_eq_emod_of_nonneg (by omega), hz, x1]
                unfold Ser.plusP
                omega
              have hlx : x.2.l = by2 j := by rw [hj]; exact (Option.some.inj x2).symm
              rw [← hz] at p0
              rw [show x.2.val = .slice x.2.A x.2.n x.2.c from rfl] at p1
              have HJ2 := Kp.mk (show j ≤ 600 by omega)
              have HK := Kp.mk (And.intro hlt hk)
              have HB := Kp.mk hB
              have HLX := Kp.mk hlx
              have HFX := Kp.mk hfx
              have HKB := Kp.mk (show k ≤ 600 by omega)
              clear f1 hx x1 x2 hfx hbd hpb hle hll hz hj hlx hB hk
              go_wp2_with fail
              have hba := below_alloc wr (.cells #[.int .u8 ((j : Int) % 256), .int .u8 ((j : Int) / 256 % 256)] 5)
              refine (eqBytes_any (HFX.out.below hba).rd (two_lit wr ((j : Int) % 256) ((j : Int) / 256 % 256) (l := by2 j) rfl) HFX.out.bytes (by2_by j)).mono ?_
              rintro e u7 ⟨rfl, hu⟩
              rw [decide_eq_true HLX.out]
              subst hu
              have HB2 := Kp.mk (HB.out.trans (hba.mono HB.out.size))
              clear hba p0 p1 hb1 hb2 hb3 htm hlt
              go_wp2_with fail
              go_roundw
              case rel => exact ⟨k + 1, congrArg (Value.int .i64) (wrap_succ (by have := HKB.out; omega)), by have := HK.out; omega, HB2.out⟩
              case measure => exact meas_lt (by have := HK.out; omega) (by have := HKB.out; omega)
            · have HS6 := Kp.mk (show SO W lo wr s c wd base p2 q2 h2 from ⟨HS5.out.ss.below hB, HS5.out.le⟩)
              clear hB hk
              go_wp2_with fail
              go_roundw
              case rel => exact ⟨p2, q2, h2, i + 1, rfl, rfl, rfl, congrArg (Value.int .i64) (wrap_succ (by have := HPB.out; omega)), by have := HPB.out; omega, by have := HPB.out; omega, HS6.out⟩
              case measure => exact meas_lt (by have := HPB.out; omega) (by have := HPB.out; omega)
        · have hack : ackP ((base + h) % 65536) (q - h) ack = -1 := by
            unfold ackP Ser.atP
            rw [if_pos (by omega), hak, hd0, if_neg (by omega)]
          have hqq : ¬ (h2 : Int) ≤ q := by omega
          have hss := hS.ss
          have HLE := Kp.mk hle
          clear hbx hbb hk hd0 hkq hS hh2 hak hle hi hpi
          go_wp2_with (go_at_call 17; refine hBX.mono ?_; rintro e q1 ⟨rfl, hq⟩; subst hq)
          refine (ss_heard_no hss hack).mono ?_
          rintro e w4 ⟨rfl, hS4⟩
          have HSO : Kp (SO W lo w4 s c wd base p q h) := ⟨⟨hS4, HLE.out⟩⟩
          have HPB : Kp (p ≤ i + 1 ∧ i < 300 ∧ (i : Int) < n0) := ⟨by have := HJ.out; omega⟩
          clear hS4 hss hack hBX d0 ht4 hd4 hd6 hb1 hb2 htm
          go_upto_region 33 with fail
          clear hb3 hqq j1 j2
          obtain ⟨p2, hp2⟩ : ∃ p2, p2 = p := ⟨_, rfl⟩
          rw [← hp2] at HSO HPB
          rw [← hp2]
          clear hp2
          obtain ⟨q2, hq2⟩ : ∃ q2, q2 = q := ⟨_, rfl⟩
          rw [← hq2] at HSO
          rw [← hq2]
          clear hq2
          obtain ⟨h2, hh2⟩ : ∃ h2, h2 = h := ⟨_, rfl⟩
          rw [← hh2] at HSO
          rw [← hh2]
          clear hh2
          go_wp2_with fail
          refine (ss_again HSO.out.ss).mono ?_
          rintro e w5 ⟨A5, m5, its, rfl, hI, hT, hS5⟩
          have hqh : IntKind.i64.wrap ((q2 : Int) - h2) = ((q2 - h2 : Nat) : Int) := by have := HPB.out; have := HSO.out.le; rw [IntKind.wrap_i64]; omega
          have hph : IntKind.i64.wrap ((p2 : Int) - h2) = ((p2 - h2 : Nat) : Int) := by have := HPB.out; have := HSO.out.le; rw [IntKind.wrap_i64]; omega
          have hl := ss_left hS5
          rw [msO_len] at hl
          have hq := ss_said hS5
          obtain ⟨L, hL⟩ : ∃ L, L = q2 - h2 := ⟨_, rfl⟩
          obtain ⟨N, hN⟩ : ∃ N, N = p2 - h2 := ⟨_, rfl⟩
          rw [← hL] at hqh hq hI
          rw [← hN] at hph hl
          rw [← hL]
          have HL := Kp.mk (And.intro hL hN)
          have HI := Kp.mk hI
          have HT := Kp.mk hT
          have HS5 := Kp.mk (show SO W lo w5 s c wd base p2 q2 h2 from ⟨hS5, HSO.out.le⟩)
          clear hL hN hI hT hS5
          go_wp2_with (first | (go_at_call 10; refine hl.mono ?_; rintro e u1 ⟨rfl, hu⟩; replace hu := hu.symm; subst hu) | (go_at_call 12; refine hq.mono ?_; rintro e u1 ⟨rfl, hu⟩; replace hu := hu.symm; subst hu))
          clear hl hq hqh hph
          go_loopw [22] (fun s22 wq => ∃ k : Nat, s22 = .int .i64 k ∧ k ≤ L ∧ Below w5.heap.size w5 wq) (fun s22 _ => L - (intOf s22).toNat)
          case atStart => exact ⟨0, rfl, Nat.zero_le _, Below.refl _ _⟩
          case round =>
            obtain ⟨k, rfl, hk, hB⟩ := hrel
            by_cases hlt : (k : Int) < L
            · obtain ⟨x, hx⟩ : ∃ x, its[k]? = some x := ⟨_, List.getElem?_eq_getElem (show k < its.length by have := HI.out.len; omega)⟩
              obtain ⟨x1, x2⟩ := HT.out.num k x hx
              obtain ⟨g1, o1, rfl, _, f1⟩ := (HI.out.below hB).at_ (by omega)
              obtain ⟨p0, p1⟩ := f1 k x hx
              have hfx := (HT.out.fr x (List.mem_of_getElem? hx)).below hB
              have hbd := HX.out
              have hpb := HPB.out
              have hle := HSO.out.le
              have hll := HL.out
              rw [Nat.zero_add] at x2 x1
              rw [msO_at _ _ _ (by omega)] at x2
              obtain ⟨j, hj⟩ : ∃ j, j = h2 + k := ⟨_, rfl⟩
              obtain ⟨z, hz⟩ : ∃ z, z = x.1 := ⟨_, rfl⟩
              have hb1 : IntKind.i64.wrap (base + h2) = base + h2 := by rw [IntKind.wrap_i64]; omega
              have hb2 : IntKind.i64.wrap (base + h2 + k) = base + h2 + k := by rw [IntKind.wrap_i64]; omega
              have hb3 : IntKind.i64.wrap ((h2 : Int) + k) = (j : Int) := by rw [IntKind.wrap_i64]; omega
              have htm : Int.tmod (base + h2 + k) 65536 = z := by
                rw [Int.tmod_eq_emod_of_nonneg (by omega), hz, x1]
                unfold Ser.plusP
                omega
              have hlx : x.2.l = by2 j := by rw [hj]; exact (Option.some.inj x2).symm
              rw [← hz] at p0
              rw [show x.2.val = .slice x.2.A x.2.n x.2.c from rfl] at p1
              have HJ2 := Kp.mk (show j ≤ 600 by omega)
              have HK := Kp.mk (And.intro hlt hk)
              have HB := Kp.mk hB
              have HLX := Kp.mk hlx
              have HFX := Kp.mk hfx
              have HKB := Kp.mk (show k ≤ 600 by omega)
              clear f1 hx x1 x2 hfx hbd hpb hle hll hz hj hlx hB hk
              go_wp2_with fail
              have hba := below_alloc wr (.cells #[.int .u8 ((j : Int) % 256), .int .u8 ((j : Int) / 256 % 256)] 5)
              refine (eqBytes_any (HFX.out.below hba).rd (two_lit wr ((j : Int) % 256) ((j : Int) / 256 % 256) (l := by2 j) rfl) HFX.out.bytes (by2_by j)).mono ?_
              rintro e u7 ⟨rfl, hu⟩
              rw [decide_eq_true HLX.out]
              subst hu
              have HB2 := Kp.mk (HB.out.trans (hba.mono HB.out.size))
              clear hba p0 p1 hb1 hb2 hb3 htm hlt
              go_wp2_with fail
              go_roundw
              case rel => exact ⟨k + 1, congrArg (Value.int .i64) (wrap_succ (by have := HKB.out; omega)), by have := HK.out; omega, HB2.out⟩
              case measure => exact meas_lt (by have := HK.out; omega) (by have := HKB.out; omega)
            · have HS6 := Kp.mk (show SO W lo wr s c wd base p2 q2 h2 from ⟨HS5.out.ss.below hB, HS5.out.le⟩)
              clear hB hk
              go_wp2_with fail
              go_roundw
              case rel => exact ⟨p2, q2, h2, i + 1, rfl, rfl, rfl, congrArg (Value.int .i64) (wrap_succ (by have := HPB.out; omega)), by have := HPB.out; omega, by have := HPB.out; omega, HS6.out⟩
              case measure => exact meas_lt (by have := HPB.out; omega) (by have := HPB.out; omega)
    · have HB := Kp.mk hS.ss.bl
      clear hS
      by_cases hn : (i : Int) < n0
      · have hg : ¬ (i : Int) < 300 := fun e => hgo ⟨hn, e⟩
        clear hgo
        go_wp2_with fail
        go_ret
        exact ⟨rfl, HB.out⟩
      · clear hgo
        go_wp2_with fail
        go_ret
        exact ⟨rfl, HB.out⟩
theorem senderOnce_walk (a b : Int) (A0 : Option Addr) (n0 c0 : Nat) (zs : List Int) (W : World) (wf : (Lit.int .i64 a).wf = true) (wf2 : (Lit.int .i64 b).wf = true) (hr : Frame.IsRow .i64 W A0 n0 c0 zs) (re : c0 * 8 ≤ 140737488351232) : Calls Try.prog 4 #[.int .i64 a, .int .i64 b, .slice A0 n0 c0] W fun e w' => e = .returned (.bool true) ∧ Below W.heap.size W w' := senderOnce_any a b (Rd.of_row hr)
end Go.Proofs.Ytkpjnikbcgngbaa.Oct
