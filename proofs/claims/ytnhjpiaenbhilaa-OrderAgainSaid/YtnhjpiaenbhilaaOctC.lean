/- Contracts of layer 1: the document's Sum; Put, and the document's Put. -/
import Derived.Test.YtnhjpiaenbhilaaOctB
import Derived.BigQuiet
import Derived.Deep.QuietTactic
namespace Go.Proofs.Ytnhjpiaenbhilaa.Oct
open Go.RowKit
set_option linter.unusedVariables false

set_option maxRecDepth 100000 in
set_option maxHeartbeats 400000 in
theorem refSum_any {w : World} {B : Nat} {A : Option Addr} {n c : Nat} {l : List Int} (h : Rd .u8 w B A n c l) (hl : By l) :
    Calls Try.prog 90 #[.slice A n c] w fun e w' => e = .returned (.int .i64 (sumP l)) ∧ w = w' := by
  have hlen := h.len
  have hmax := h.max
  have hat : ∀ k, k < n → ∃ b off, A = some ⟨b, off, none⟩ ∧ w.cell? ⟨b, off + k, none⟩ = some (.int .u8 (l.getD k 0)) := fun k hk => by
    obtain ⟨b, off, e, _, hc⟩ := h.at_ (by omega)
    exact ⟨b, off, e, hc k hk⟩
  have Hat := Lib.hid hat
  clear hat
  go_enter Try.func90, Try.ntmps90
  go_wp2_with fail
  go_loop [3, 4, 5] (fun v i _ => ∃ k : Nat, k ≤ n ∧ i = .int .i64 k ∧ v = .int .i64 (crcN 65535 (l.take k) : Nat)) (fun _ i _ => n - (intOf i).toNat)
  case atStart => exact ⟨0, by omega, rfl, rfl⟩
  case round =>
    obtain ⟨k, hk, rfl, rfl⟩ := hrel
    have h1 := crcN_lt (l.take k) 65535 (by omega) (hl.take k)
    by_cases hlt : k < n
    · obtain ⟨b, off, rfl, hck⟩ := Hat.out k hlt
      have hb := By.getD hl k
      have hs := crc_take_snoc l k (by omega)
      have h2 := byte_i64 (crcN 65535 (l.take k)) (l.getD k 0) h1 hb
      have h3 := byte_lt (crcN 65535 (l.take k)) (l.getD k 0) h1 hb
      have Hs := Lib.hid hs
      clear hs
      generalize l.getD k 0 = x at *
      obtain ⟨hb1, hb2⟩ := hb
      generalize crcN 65535 (l.take k) = q at *
      have hd : decide ((k : Int) < n) = true := by simp; omega
      go_wp2_with fail
      clear hd h2
      have Hs2 : Hid (crcN 65535 (l.take (k + 1)) = stepK 8 (q ^^^ (x.toNat * 256))) := Lib.hid Hs.out
      clear Hs
      generalize q ^^^ (x.toNat * 256) = z at *
      go_loop [3, 5] (fun v i => ∃ j : Nat, j ≤ 8 ∧ i = .int .i64 j ∧ v = .int .i64 (stepK j z : Nat)) (fun _ i => 8 - (intOf i).toNat)
      case atStart => exact ⟨0, by omega, rfl, rfl⟩
      case round =>
        obtain ⟨j, hj, rfl, rfl⟩ := hrel
        by_cases hlt2 : j < 8
        · have g1 := stepK_lt j z h3
          have g2 := stepK_succ j z
          by_cases hlo : stepK j z < 32768
          · have g3 := step_i64_lo (stepK j z) hlo
            rw [← g2] at g3
            have G3 := Lib.hid g3
            clear g2 g3
            generalize stepK j z = y at *
            have t1 : ¬ (65536 ≤ (y : Int) * 2) := by omega
            have t4 : (y : Int) * 2 ≤ 65535 := by omega
            have t2 : (0 : Int) ≤ (y : Int) * 2 := by omega
            have t3 : (j : Int) < 8 := by omega
            clear hlo g1
            go_wp2_with fail
            go_round
            case rel => exact ⟨j + 1, by omega, by go_num, by rw [G3.out]⟩
            case measure => simp [intOf]; omega
          · have g3 := step_i64_hi (stepK j z) (by omega) g1
            rw [← g2] at g3
            have G3 := Lib.hid g3
            clear g2 g3
            generalize stepK j z = y at *
            have t1 : 65536 ≤ (y : Int) * 2 := by omega
            have t2 : (y : Int) * 2 < 131072 := by omega
            have t3 : (j : Int) < 8 := by omega
            clear hlo g1
            go_wp2_with fail
            go_round
            case rel => exact ⟨j + 1, by omega, by go_num, by rw [G3.out]⟩
            case measure => simp [intOf]; omega
        · obtain rfl : j = 8 := by omega
          generalize stepK 8 z = y2 at *
          go_wp2_with fail
          go_round
          case rel => exact ⟨k + 1, by omega, by go_num, by rw [Hs2.out]⟩
          case measure => simp [intOf]; omega
    · obtain rfl : k = n := by omega
      rw [List.take_of_length_le (by omega)] at h1 ⊢
      go_wp2_with fail
      go_ret
      exact ⟨rfl, rfl⟩
end Go.Proofs.Ytnhjpiaenbhilaa.Oct
