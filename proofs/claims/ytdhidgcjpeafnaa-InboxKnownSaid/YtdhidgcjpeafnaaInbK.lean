/- Layer 14 (inbox): InboxKnown walked. -/
import Derived.Test.YtdhidgcjpeafnaaInbU
namespace Go.Proofs.Ytdhidgcjpeafnaa.Oct
open Go.RowKit
set_option linter.unusedVariables false
set_option linter.unusedSimpArgs false
theorem Di.wider {w : World} {B B' : Nat} {A : Option Addr} {n c : Nat} {ds : List DoI} (h : Di w B A n c ds) (hB : B ≤ B') : Di w B' A n c ds :=
  ⟨h.len, h.le, h.cap, h.nil, fun d hd => ⟨(h.bytes d hd).1.more hB, (h.bytes d hd).2⟩, fun hn => by
    obtain ⟨b, off, e, hlt, hc⟩ := h.ex hn
    exact ⟨b, off, e, Nat.lt_of_lt_of_le hlt hB, hc⟩⟩
/-- The numbers at the ends. -/
def endsI : List Int := [-9223372036854775808, -1, 0, 1, 3, 4, 32767, 32768, 65532, 65535, 65536, 9223372036854775807]
theorem endsI_bd (j : Nat) : -9223372036854775808 ≤ endsI.getD j 0 ∧ endsI.getD j 0 ≤ 9223372036854775807 := by
  by_cases h : j < 12
  · have : ∀ j : Fin 12, -9223372036854775808 ≤ endsI.getD j.val 0 ∧ endsI.getD j.val 0 ≤ 9223372036854775807 := by decide
    exact this ⟨j, h⟩
  · rw [List.getD_eq_getElem?_getD, List.getElem?_eq_none (by show 12 ≤ j; omega)]
    decide
/-- What a round puts behind the row. -/
def threeD (g1 g2 : Nat) (k ev : Int) : List DoI := [⟨ev, true, some ⟨g1, 0, none⟩, 1, 1, [k]⟩, ⟨k, false, some ⟨g2, 0, none⟩, 1, 1, [9 + k]⟩, ⟨2, false, none, 0, 0, []⟩]
set_option maxRecDepth 100000 in
set_option maxHeartbeats 16000000 in
theorem inboxKnown_any (W : World) : Calls Try.prog 6 #[] W fun e w' => e = .returned (.bool true) ∧ Below W.heap.size W w' := by
  obtain ⟨lo, hlo⟩ : ∃ lo, lo = W.heap.size := ⟨_, rfl⟩
  rw [← hlo]
  have HLO := Kp.mk hlo
  clear hlo
  have HB0 : Kp (Below lo W W) := ⟨Below.refl _ _⟩
  go_enter Try.func6, Try.ntmps6
  go_wp2_with fail
  go_loopw [1, 2] (fun s1 s2 wr => ∃ (i : Nat) (a : Option Addr), s1 = .pointer a ∧ s2 = .int .i64 i ∧ i ≤ 2 ∧ NX wr a ∧ Below lo W wr) (fun _ s2 _ => 2 - (intOf s2).toNat)
  case atStart => exact ⟨0, none, rfl, rfl, by omega, .inl rfl, HB0.out⟩
  case round =>
    obtain ⟨i, a, rfl, rfl, hi, hN, hB⟩ := hrel
    by_cases hlt : (i : Int) < 2
    · have k1 := hN.take (-1) 5
      have k2 := hN.ack
      have k3 := hN.waits
      have HB := Kp.mk hB
      have HI := Kp.mk hlt
      clear hN hB hi
      go_wp2_with (first | (go_at_call 19; refine k1.mono ?_; rintro e u1 ⟨rfl, hu⟩; replace hu := hu.symm; subst hu) | (go_at_call 20; refine k2.mono ?_; rintro e u1 ⟨rfl, hu⟩; replace hu := hu.symm; subst hu) | (go_at_call 21; refine k3.mono ?_; rintro e u1 ⟨rfl, hu⟩; replace hu := hu.symm; subst hu))
      have hV := Vb.new 52 wr [.int .u16 0, .map none]
      have hBn := HB.out.trans ((below_alloc wr (.cells #[.int .u16 0, .map none] 52)).mono (by have := HB.out.size; rw [HLO.out]; exact this))
      go_roundw
      case rel => exact ⟨i + 1, _, rfl, by go_num, by have := HI.out; omega, .inr ⟨_, rfl, hV⟩, hBn⟩
      case measure => have := HI.out; simp [intOf]; omega
    · have HB := Kp.mk hB
      clear hB hN
      go_wp2_with fail
      have hR3 : Rd .i64 (wr.alloc (.cells (endsI.map (Value.int .i64)).toArray 3)) (wr.heap.size + 1) (some ⟨wr.heap.size, 0, none⟩) 12 12 endsI := rd_lit .i64 wr 3 endsI (by simp [endsI, maxLen]) _ (by omega)
      have hB3 := HB.out.trans ((below_alloc wr (.cells (endsI.map (Value.int .i64)).toArray 3)).mono (by have := HB.out.size; rw [HLO.out]; exact this))
      have hsz := Kp.mk (show lo ≤ wr.heap.size + 1 by have := HB.out.size; have := HLO.out; omega)
      have hz3 : (wr.alloc (.cells (endsI.map (Value.int .i64)).toArray 3)).heap.size = wr.heap.size + 1 := by simp
      obtain ⟨w3, hw3⟩ : ∃ w3, w3 = wr.alloc (.cells (endsI.map (Value.int .i64)).toArray 3) := ⟨_, rfl⟩
      rw [← hw3] at hR3 hB3 hz3
      change w3 = wr.alloc (.cells #[.int .i64 (-9223372036854775808), .int .i64 (-1), .int .i64 0, .int .i64 1, .int .i64 3, .int .i64 4, .int .i64 32767, .int .i64 32768, .int .i64 65532, .int .i64 65535, .int .i64 65536, .int .i64 9223372036854775807] 3) at hw3
      rw [← hw3]
      clear hw3
      rw [← hz3] at hR3
      have hlo3 := Kp.mk (show lo ≤ w3.heap.size by rw [hz3]; exact hsz.out)
      clear hz3 hsz
      generalize wr.heap.size = ge at *
      have HR3 := Kp.mk hR3
      have HB3 := Kp.mk hB3
      clear hR3 hB3 HB hlt
      obtain ⟨b3, hb3⟩ : ∃ b3, b3 = w3.heap.size := ⟨_, rfl⟩
      have HB3E := Kp.mk hb3
      clear hb3
      go_loopw [6] (fun s6 wq => ∃ x : Nat, s6 = .int .i64 x ∧ x ≤ 12 ∧ Below b3 w3 wq) (fun s6 _ => 12 - (intOf s6).toNat)
      case atStart => exact ⟨0, rfl, by omega, Below.refl _ _⟩
      case round =>
        obtain ⟨x, rfl, hx, hBx⟩ := hrel
        by_cases hlx : (x : Int) < 12
        · have HBx := Kp.mk hBx
          have HX := Kp.mk hlx
          clear hBx hx
          go_wp2_with fail
          go_loopw [7, 8] (fun s7 s8 wq => ∃ (j : Nat) (ds : List DoI), s8 = .int .i64 j ∧ j ≤ 12 ∧ Oe wq b3 s7 (j * 3) ds ∧ Below b3 w3 wq) (fun _ s8 _ => 12 - (intOf s8).toNat)
          case atStart => exact ⟨0, [], rfl, by omega, Oe.nil0 _ _, HBx.out⟩
          case round =>
            clear HBx
            obtain ⟨j, ds, rfl, hj, hO, hB⟩ := hrel
            obtain ⟨A6, c6, rfl, -⟩ := hO.form
            have hbz : b3 ≤ wr.heap.size := by have := hB.size; rw [HB3E.out]; exact this
            by_cases hlt : (j : Int) < 12
            · have hbj := below_alloc wr (.cells #[.int .u8 (j : Int)] 5)
              have hbk := below_alloc (wr.alloc (.cells #[.int .u8 (j : Int)] 5)) (.cells #[.int .u8 (9 + (j : Int))] 5)
              have hbjk := hbj.trans (hbk.mono hbj.size)
              have hr := HR3.out.below (by rw [← HB3E.out]; exact hB)
              obtain ⟨bb, off, hA, hbl, hcc⟩ := hr.at_ (by omega)
              have hA := Option.some.inj hA
              injection hA with hA1 hA2 _
              subst hA1 hA2
              have d0 := hcc j (by omega)
              rw [Nat.zero_add] at d0
              generalize endsI.getD j 0 = ev at *
              have hO2 := (hO.below hbj).below hbk
              have hf1 := (eby_one wr (j : Int) (by omega)).below hbk
              have hf2 := eby_one (wr.alloc (.cells #[.int .u8 (j : Int)] 5)) (9 + (j : Int)) (by omega)
              have hbase : b3 ≤ ((wr.alloc (.cells #[.int .u8 (j : Int)] 5)).alloc (.cells #[.int .u8 (9 + (j : Int))] 5)).heap.size := Nat.le_trans hbz hbjk.size
              have hB1 := Kp.mk (hB.trans (hbjk.mono hbz))
              have HJ := Kp.mk hlt
              obtain ⟨A7, c7, w7, hrun, hO7, hb7⟩ := hO2.more (m := 3) (es := threeD wr.heap.size (wr.alloc (.cells #[.int .u8 (j : Int)] 5)).heap.size j ev) 22 rfl (by
                intro d hd
                simp only [threeD, List.mem_cons, List.not_mem_nil, or_false] at hd
                rcases hd with rfl | rfl | rfl
                · exact hf1
                · exact hf2
                · exact eby_none _) (by omega) hbase
              have HO7 := Kp.mk hO7
              have HB7 := Kp.mk (hB1.out.trans hb7)
              have hrun : (Builtin.append_ #[22, 22] 22 #[.slice A6 (j * 3) c6, .slice (some ⟨wr.heap.size + 1 + 1, 0, none⟩) 3 3]).run Try.prog (((wr.alloc (.cells #[.int .u8 (j : Int)] 5)).alloc (.cells #[.int .u8 (9 + (j : Int))] 5)).alloc (.cells #[.int .i64 ev, .bool true, .slice (some ⟨wr.heap.size, 0, none⟩) 1 1, .int .i64 j, .bool false, .slice (some ⟨wr.heap.size + 1, 0, none⟩) 1 1, .int .i64 2, .bool false, .slice none 0 0] 32)) = .ok (.slice A7 (j * 3 + 3) c7) w7 := by
                rw [show wr.heap.size + 1 + 1 = ((wr.alloc (.cells #[.int .u8 (j : Int)] 5)).alloc (.cells #[.int .u8 (9 + (j : Int))] 5)).heap.size by simp, show wr.heap.size + 1 = (wr.alloc (.cells #[.int .u8 (j : Int)] 5)).heap.size by simp]
                exact hrun
              clear hr hcc hO hB hO2 hf1 hf2 hbase hB1 hO7 hb7 hbj hbk hbjk hbz
              go_wp2_with (at_builtin; refine Lib.wpList_append_run _ rfl _ _ _ _ rfl _ _ rfl rfl _ _ hrun ?_)
              go_roundw
              case rel => exact ⟨j + 1, _, by go_num, by have := HJ.out; omega, by rw [show (j + 1) * 3 = j * 3 + 3 by omega]; exact HO7.out, HB7.out⟩
              case measure => have := HJ.out; simp [intOf]; omega
            · obtain rfl : j = 12 := by omega
              have hD := hO.diof
              have hr := HR3.out.below (by rw [← HB3E.out]; exact hB)
              obtain ⟨bb, off, hA, hbl, hcc⟩ := hr.at_ (by omega)
              have hA := Option.some.inj hA
              injection hA with hA1 hA2 _
              subst hA1 hA2
              have hxx := HX.out
              have d0 := hcc x (by omega)
              rw [Nat.zero_add] at d0
              generalize endsI.getD x 0 = ev at *
              have HB := Kp.mk hB
              have HD := Kp.mk hD
              have HZ := Kp.mk hbz
              clear hr hcc hO hB hD hbz hlt hj
              go_wp2_with fail
              refine (inboxPlays_any ev HD.out).mono ?_
              rintro e w8 ⟨rfl, hb8⟩
              have HB8 := Kp.mk hb8
              have HD8 := Kp.mk ((HD.out.below hb8).wider hb8.size)
              have HBB := Kp.mk (HB.out.trans (hb8.mono HZ.out))
              clear hb8 d0
              go_wp2_with fail
              refine (inboxPlays_any _ HD8.out).mono ?_
              rintro e w9 ⟨rfl, hb9⟩
              have HB9 := Kp.mk (HBB.out.trans (hb9.mono (Nat.le_trans HZ.out HB8.out.size)))
              clear hb9
              go_wp2_with fail
              go_roundw
              case rel => exact ⟨x + 1, by go_num, by have := HX.out; omega, HB9.out⟩
              case measure => have := HX.out; simp [intOf]; omega
        · have HBx := Kp.mk hBx
          clear hBx hx
          go_wp2_with fail
          refine (iworks_any _).mono ?_
          rintro e w9 ⟨rfl, hb9⟩
          have HF := Kp.mk (show Below lo W w9 from by
            have h1 := HB3.out.trans (HBx.out.mono (by rw [HB3E.out]; exact hlo3.out))
            exact h1.trans (hb9.mono (Nat.le_trans hlo3.out HBx.out.size)))
          clear hb9
          go_wp2_with fail
          go_ret
          exact ⟨rfl, HF.out⟩
theorem inboxKnown_walk (W : World) : Calls Try.prog 6 #[] W fun e w' => e = .returned (.bool true) ∧ Below W.heap.size W w' := inboxKnown_any W
end Go.Proofs.Ytdhidgcjpeafnaa.Oct
