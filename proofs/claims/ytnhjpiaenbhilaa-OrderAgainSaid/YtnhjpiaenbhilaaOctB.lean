/- Contracts of layer 1's loops: digits, number, doubled, Sum, and the document's Sum. -/
import Derived.Test.YtnhjpiaenbhilaaOctA
namespace Go.Proofs.Ytnhjpiaenbhilaa.Oct
open Go.RowKit
set_option linter.unusedVariables false

/-- What is appended to an own slice: own still, in the same blocks or newer ones. -/
def MoreOf (base : Nat) (l : List Int) (w : World) (e : Ending) (w' : World) : Prop :=
  ∃ A n c, e = .returned (.slice A n c) ∧ Own w' base (.slice A n c) n l ∧ Below base w w'

set_option maxHeartbeats 400000 in
theorem digits_any {w : World} {base : Nat} {A : Option Addr} {n c : Nat} {l : List Int} (s : Nat) (x : Int) (ho : Own w base (.slice A n c) n l) (hb : base ≤ w.heap.size) (hs1 : 1 ≤ s) (hs : s ≤ 4) (hx : 0 ≤ x) (hn : n ≤ 140737488355320) :
    Calls Try.prog 58 #[.slice A n c, .int .i64 s, .int .i64 x] w (MoreOf base (l ++ dg s x) w) := by
  go_enter Try.func58, Try.ntmps58
  go_wp2_with fail
  go_loopw [0, 7] (fun v sh wr => ∃ (k : Nat) (A' : Option Addr) (c' : Nat), k ≤ s ∧ v = .slice A' (n + k) c' ∧ sh = .int .i64 (8 * ((s : Int) - 1 - k)) ∧ Own wr base (.slice A' (n + k) c') (n + k) (l ++ (dg s x).take k) ∧ Below base w wr) (fun _ sh _ => (intOf sh + 8).toNat)
  case atStart => exact ⟨0, A, c, by omega, rfl, by simp, by simpa using ho, Below.refl _ _⟩
  case round =>
    obtain ⟨k, A', c', hk, rfl, rfl, ho', hb'⟩ := hrel
    by_cases hlt : k < s
    · have hz := hb'.size
      have hg : (0 : Int) ≤ 8 * ((s : Int) - 1 - k) := by omega
      have hsn := dg_snoc s x k hlt
      have Hsn := Lib.hid hsn
      clear hsn
      have hr1 := rd_lit .u8 wr 5 [x / 2 ^ (8 * (s - 1 - k)) % 256] (by simp [maxLen]) (wr.heap.size + 1) (by omega)
      go_wp2_with (at_builtin; refine wpList_append8 rfl (.tmp 15) (.tmp 20) rfl rfl (ho'.alloc _) rfl hr1 (by simp; omega) (by simp; omega) ?_; intro A2 c2 w2 ho2 hb2)
      go_roundw
      case rel => exact ⟨k + 1, A2, c2, by omega, rfl, by go_num, by rw [Hsn.out, ← List.append_assoc]; exact ho2, (hb'.alloc (by omega) _).trans hb2⟩
      case measure => simp [intOf]; omega
    · obtain rfl : k = s := by omega
      go_wp2_with fail
      go_ret
      exact ⟨A', _, c', rfl, by rw [List.take_of_length_le (by rw [dg_len]; omega)] at ho'; exact ho', hb'⟩

theorem num_take_lt (l : List Int) (h : By l) (k : Nat) (hk : k ≤ 3) : num (l.take k) < 16777216 := by
  have h1 := num_lt (l.take k) (h.take k)
  have h2 : (l.take k).length ≤ 3 := by rw [List.length_take]; omega
  have h3 : 256 ^ (l.take k).length ≤ 256 ^ 3 := Nat.pow_le_pow_right (by omega) h2
  omega

theorem number_any {w : World} {B : Nat} {A : Option Addr} {n c : Nat} {l : List Int} (h : Rd .u8 w B A n c l) (hl : By l) (hn4 : n ≤ 4) :
    Calls Try.prog 76 #[.slice A n c] w fun e w' => e = .returned (.int .i64 (num l : Nat)) ∧ w = w' := by
  have hlen := h.len
  by_cases hn : 0 < n
  · obtain ⟨b, off, rfl, _, hc⟩ := h.at_ hn
    have Hc := Lib.hid hc
    clear hc
    go_enter Try.func76, Try.ntmps76
    go_wp2_with fail
    go_loop [3, 8] (fun v i => ∃ k : Nat, k ≤ n ∧ i = .int .i64 k ∧ v = .int .i64 (num (l.take k) : Nat)) (fun _ i => n - (intOf i).toNat)
    case atStart => exact ⟨0, by omega, rfl, by simp [num]⟩
    case round =>
      obtain ⟨k, hk, rfl, rfl⟩ := hrel
      by_cases hlt : k < n
      · have hck := Hc.out k hlt
        have hb := By.getD hl k
        have hq := num_take_lt l hl k (by omega)
        have hsn := num_snoc (l.take k) (l.getD k 0)
        rw [← take_snoc l k (by omega)] at hsn
        have hor := or_i64 (num (l.take k)) (l.getD k 0).toNat (by omega) (by omega)
        rw [show (((l.getD k 0).toNat : Nat) : Int) = l.getD k 0 from by omega] at hor
        rw [← hsn] at hor
        have Hor := Lib.hid hor
        clear hor hsn
        generalize l.getD k 0 = x at *
        obtain ⟨hb1, hb2⟩ := hb
        generalize num (l.take k) = q at *
        go_wp2_with fail
        go_round
        case rel => exact ⟨k + 1, by omega, by go_num, by rw [Hor.out]⟩
        case measure => simp [intOf]; omega
      · obtain rfl : k = n := by omega
        go_wp2_with fail
        go_ret
        exact ⟨ret_int (by rw [List.take_of_length_le (by omega)]), rfl⟩
  · have : n = 0 := by omega
    subst this
    have hl0 : l = [] := List.eq_nil_of_length_eq_zero hlen
    subst hl0
    go_enter Try.func76, Try.ntmps76
    go_wp2_with fail
    go_loop [3, 8] (fun v i => i = .int .i64 0 ∧ v = .int .i64 0) (fun _ i => 1)
    case atStart => exact ⟨rfl, rfl⟩
    case round =>
      obtain ⟨rfl, rfl⟩ := hrel
      go_wp2_with fail
      go_ret
      exact ⟨rfl, rfl⟩

theorem doubled_any (s n : Nat) (hs : s < 65536) (hn : n ≤ 8) (w : World) :
    Calls Try.prog 106 #[.int .u16 s, .int .i64 n] w fun e w' => e = .returned (.int .u16 (stepK n s : Nat)) ∧ w = w' := by
  go_enter Try.func106, Try.ntmps106
  go_wp2_with fail
  go_loop [0, 7] (fun t i => ∃ k : Nat, k ≤ n ∧ i = .int .i64 k ∧ t = .int .u16 (stepK k s : Nat)) (fun _ i => n - (intOf i).toNat)
  case atStart => exact ⟨0, by omega, rfl, rfl⟩
  case round =>
    obtain ⟨k, hk, rfl, rfl⟩ := hrel
    by_cases hlt : k < n
    · have h1 := stepK_lt k s hs
      have h2 := step_u16 (stepK k s) h1
      rw [← stepK_succ] at h2
      have H2 := Lib.hid h2
      clear h2
      generalize stepK k s = q at *
      go_wp2_with fail
      go_round
      case rel => exact ⟨k + 1, by omega, by go_num, by rw [H2.out]⟩
      case measure => simp [intOf]; omega
    · obtain rfl : k = n := by omega
      go_wp2_with fail
      go_ret
      exact ⟨rfl, rfl⟩

theorem crc_take_snoc (l : List Int) (k : Nat) (h : k < l.length) : crcN 65535 (l.take (k + 1)) = crcByte (crcN 65535 (l.take k)) (l.getD k 0) := by
  rw [take_snoc l k h, crcN_snoc]

theorem sum_any {w : World} {B : Nat} {A : Option Addr} {n c : Nat} {l : List Int} (h : Rd .u8 w B A n c l) (hl : By l) :
    Calls Try.prog 102 #[.slice A n c] w fun e w' => e = .returned (.int .i64 (sumP l)) ∧ w = w' := by
  have hlen := h.len
  have hmax := h.max
  by_cases hn : 0 < n
  · obtain ⟨b, off, rfl, _, hc⟩ := h.at_ hn
    have Hc := Lib.hid hc
    clear hc
    go_enter Try.func102, Try.ntmps102
    go_wp2_with fail
    go_loop [3, 8] (fun v i => ∃ k : Nat, k ≤ n ∧ i = .int .i64 k ∧ v = .int .u16 (crcN 65535 (l.take k) : Nat)) (fun _ i => n - (intOf i).toNat)
    case atStart => exact ⟨0, by omega, rfl, rfl⟩
    case round =>
      obtain ⟨k, hk, rfl, rfl⟩ := hrel
      have h1 := crcN_lt (l.take k) 65535 (by omega) (hl.take k)
      by_cases hlt : k < n
      · have hck := Hc.out k hlt
        have hb := By.getD hl k
        have hs := crc_take_snoc l k (by omega)
        have h2 := byte_u16 (crcN 65535 (l.take k)) (l.getD k 0) h1 hb
        have h3 := byte_lt (crcN 65535 (l.take k)) (l.getD k 0) h1 hb
        have Hs := Lib.hid hs
        clear hs
        generalize l.getD k 0 = x at *
        obtain ⟨hb1, hb2⟩ := hb
        generalize crcN 65535 (l.take k) = q at *
        go_wp2_with fail
        refine (doubled_any _ 8 h3 (by omega) _).mono ?_
        rintro e w' ⟨rfl, rfl⟩
        go_wp2_with fail
        go_round
        case rel => exact ⟨k + 1, by omega, by go_num, by rw [Hs.out]; rfl⟩
        case measure => simp [intOf]; omega
      · obtain rfl : k = n := by omega
        rw [List.take_of_length_le (by omega)] at h1 ⊢
        have hsum : Hid (sumP l = ((crcN 65535 l : Nat) : Int)) := Lib.hid rfl
        generalize crcN 65535 l = q at *
        go_wp2_with fail
        go_ret
        exact ⟨ret_int (by rw [hsum.out]), rfl⟩
  · have : n = 0 := by omega
    subst this
    have hl0 : l = [] := List.eq_nil_of_length_eq_zero hlen
    subst hl0
    go_enter Try.func102, Try.ntmps102
    go_wp2_with fail
    go_loop [3, 8] (fun v i => i = .int .i64 0 ∧ v = .int .u16 65535) (fun _ i => 1)
    case atStart => exact ⟨rfl, rfl⟩
    case round =>
      obtain ⟨rfl, rfl⟩ := hrel
      go_wp2_with fail
      go_ret
      exact ⟨rfl, rfl⟩
end Go.Proofs.Ytnhjpiaenbhilaa.Oct
