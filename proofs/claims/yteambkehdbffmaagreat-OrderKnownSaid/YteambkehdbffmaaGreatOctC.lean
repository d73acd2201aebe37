/- Contracts of the leaf functions of layer 1: CopyBytes, EqBytes, isSize, fits, copyOf, digits, number, doubled, Sum, and the document's Sum. Contracts of layer 1's loops: digits, number, doubled, Sum, and the document's Sum. Contracts of layer 1: the document's Sum; Put, and the document's Put. -/
import Derived.Test.YteambkehdbffmaaGreatOctW
import Derived.BigQuiet
import Derived.Deep.QuietTactic
namespace Go.Proofs.YteambkehdbffmaaGreat.Oct
open Go.RowKit
set_option linter.unusedVariables false

theorem ret_int {k : IntKind} {a b : Int} (h : a = b) : Ending.returned (.int k a) = .returned (.int k b) := by rw [h]
theorem ret_bool {a b : Bool} (h : a = b) : Ending.returned (.bool a) = .returned (.bool b) := by rw [h]

theorem eqBytes_any {w : World} {B1 B2 : Nat} {A1 A2 : Option Addr} {n1 c1 n2 c2 : Nat} {l1 l2 : List Int} (h1 : Rd .u8 w B1 A1 n1 c1 l1) (h2 : Rd .u8 w B2 A2 n2 c2 l2) (b1 : By l1) (b2 : By l2) :
    Calls Tryz.prog 13 #[.slice A1 n1 c1, .slice A2 n2 c2] w fun e w' => e = .returned (.bool (decide (l1 = l2))) ∧ w = w' := by
  have k1 := run_string h1
  have k2 := run_string h2
  go_enter Tryz.func13, Tryz.ntmps13
  go_wp2_with fail
  go_ret
  exact ⟨ret_bool (str_beq b1 b2), rfl⟩

/-- What CopyBytes and their like answer: a slice of the call's own. -/
def NewOf (l : List Int) (w : World) (e : Ending) (w' : World) : Prop :=
  ∃ A n c, e = .returned (.slice A n c) ∧ Own w' w.heap.size (.slice A n c) n l ∧ Below w.heap.size w w'

theorem copyBytes_any {w : World} {B : Nat} {A : Option Addr} {n c : Nat} {l : List Int} (h : Rd .u8 w B A n c l) (hs : n ≤ 140737488355328) :
    Calls Tryz.prog 24 #[.slice A n c] w (NewOf l w) := by
  go_enter Tryz.func24, Tryz.ntmps24
  go_wp2_with (at_builtin; refine wpList_append8 rfl (.tmp 4) (.tmp 5) rfl rfl (Own.nil w w.heap.size) rfl h (by omega) (Nat.le_refl _) ?_; intro A' c' w' ho hb)
  go_ret
  exact ⟨A', _, c', rfl, by simpa using ho, hb⟩

theorem isSize_any (s : Int) (w : World) : Calls Tryz.prog 55 #[.int .i64 s] w fun e w' => e = .returned (.bool (decide (s = 1 ∨ s = 2 ∨ s = 4))) ∧ w = w' := by
  by_cases h1 : s = 1
  · subst h1
    go_enter Tryz.func55, Tryz.ntmps55
    go_wp2
    go_ret
    exact ⟨ret_bool (by simp), rfl⟩
  · have e1 : (s == 1) = false := by simpa using h1
    by_cases h2 : s = 2
    · subst h2
      go_enter Tryz.func55, Tryz.ntmps55
      go_wp2
      go_ret
      exact ⟨ret_bool (by simp), rfl⟩
    · have e2 : (s == 2) = false := by simpa using h2
      by_cases h4 : s = 4
      · subst h4
        go_enter Tryz.func55, Tryz.ntmps55
        go_wp2
        go_ret
        exact ⟨ret_bool (by simp), rfl⟩
      · have e4 : (s == 4) = false := by simpa using h4
        have E : Hid (decide (s = 1 ∨ s = 2 ∨ s = 4) = false) := Lib.hid (by simp [h1, h2, h4])
        clear h1 h2 h4
        go_enter Tryz.func55, Tryz.ntmps55
        go_wp2
        go_ret
        exact ⟨ret_bool E.out.symm, rfl⟩

/-- n has at most s digits. -/
def fitsP (n : Int) (s : Nat) : Bool := decide (0 ≤ n ∧ n < 2 ^ (8 * s))
theorem fits_any (n : Int) (s : Nat) (hs : s ≤ 4) (w : World) : Calls Tryz.prog 56 #[.int .i64 n, .int .i64 s] w fun e w' => e = .returned (.bool (fitsP n s)) ∧ w = w' := by
  have e : ((8 : Int) * s).toNat = 8 * s := by omega
  have key : (n / 2 ^ (8 * s) == 0) = fitsP n s := by
    unfold fitsP
    have hp : (0 : Int) < 2 ^ (8 * s) := Int.pow_pos (by omega)
    rw [Bool.eq_iff_iff]
    simp only [beq_iff_eq, decide_eq_true_eq]
    generalize (2 : Int) ^ (8 * s) = m at *
    constructor
    · intro h
      have h1 := Int.mul_ediv_add_emod n m
      have h2 := Int.emod_nonneg n (b := m) (by omega)
      have h3 := Int.emod_lt_of_pos n hp
      rw [h] at h1
      omega
    · intro h
      exact Int.ediv_eq_zero_of_lt h.1 h.2
  have K := Lib.hid key
  clear key
  go_enter Tryz.func56, Tryz.ntmps56
  go_wp2
  go_ret
  exact ⟨ret_bool (by rw [← K.out, ← e]), rfl⟩

theorem copyOf_any {w : World} {B : Nat} {A : Option Addr} {n c : Nat} {l : List Int} (more : Nat) (C : Int) (hC : C = (more : Int)) (h : Rd .u8 w B A n c l) (hB : B ≤ w.heap.size) (hs : n + more ≤ 140737488355328) :
    Calls Tryz.prog 57 #[.slice A n c, .int .i64 C] w (NewOf l w) := by
  subst hC
  have hmk := run_make8 (n + more) (by omega) ((n : Int) + (more : Int)) (by omega)
  have ho1 := own_made w w.heap.size (n + more) (Nat.le_refl _) (by omega)
  have hr1 := h.below' ((Below.refl w.heap.size w).alloc (Nat.le_refl _) (.cells (madeCells (Value.int .u8 0).cells (n + more)) 5)) hB
  go_enter Tryz.func57, Tryz.ntmps57
  go_wp2_with (at_builtin; refine wpList_append8 rfl (.tmp 9) (.tmp 10) rfl rfl (l := []) ho1 rfl hr1 (by omega) (by simp) ?_; intro A' c' w' ho hb)
  go_ret
  exact ⟨A', _, c', rfl, by simpa using ho, ((Below.refl w.heap.size w).alloc (Nat.le_refl _) _).trans hb⟩
end Go.Proofs.YteambkehdbffmaaGreat.Oct

namespace Go.Proofs.YteambkehdbffmaaGreat.Oct
open Go.RowKit
set_option linter.unusedVariables false

/-- What is appended to an own slice: own still, in the same blocks or newer ones. -/
def MoreOf (base : Nat) (l : List Int) (w : World) (e : Ending) (w' : World) : Prop :=
  ∃ A n c, e = .returned (.slice A n c) ∧ Own w' base (.slice A n c) n l ∧ Below base w w'

set_option maxHeartbeats 400000 in
theorem digits_any {w : World} {base : Nat} {A : Option Addr} {n c : Nat} {l : List Int} (s : Nat) (x : Int) (ho : Own w base (.slice A n c) n l) (hb : base ≤ w.heap.size) (hs1 : 1 ≤ s) (hs : s ≤ 4) (hx : 0 ≤ x) (hn : n ≤ 140737488355320) :
    Calls Tryz.prog 58 #[.slice A n c, .int .i64 s, .int .i64 x] w (MoreOf base (l ++ dg s x) w) := by
  go_enter Tryz.func58, Tryz.ntmps58
  go_wp2_with fail
  go_loopw [0, 7] (fun v sh wr => ∃ (k : Nat) (A' : Option Addr) (c' : Nat), k ≤ s ∧ v = .slice A' (n + k) c' ∧ sh = .int .i64 (8 * ((s : Int) - 1 - k)) ∧ Own wr base (.slice A' (n + k) c') (n + k) (l ++ (dg s x).take k) ∧ Below base w wr) (fun _ sh _ => (intOf sh + 8).toNat)
  case atStart => exact ⟨0, A, c, by omega, rfl, by simp, by simpa using ho, Below.refl _ _⟩
  case round =>
    obtain ⟨k, A', c', hk, rfl, rfl, ho', hb'⟩ := hrel
    by_cases hlt : k < s
    · have hz := hb'.size
      have hg : (0 : Int) ≤ 8 * ((s : Int) - 1 - k) := by omega
      have hsn := dg_snoc s x k hlt
      have Hsn := Lib.hid hsn
      clear hsn
      have hr1 := rd_lit .u8 wr 5 [x / 2 ^ (8 * (s - 1 - k)) % 256] (by simp [maxLen]) (wr.heap.size + 1) (by omega)
      go_wp2_with (at_builtin; refine wpList_append8 rfl (.tmp 15) (.tmp 20) rfl rfl (ho'.alloc _) rfl hr1 (by simp; omega) (by simp; omega) ?_; intro A2 c2 w2 ho2 hb2)
      go_roundw
      case rel => exact ⟨k + 1, A2, c2, by omega, rfl, by go_num, by rw [Hsn.out, ← List.append_assoc]; exact ho2, (hb'.alloc (by omega) _).trans hb2⟩
      case measure => simp [intOf]; omega
    · obtain rfl : k = s := by omega
      go_wp2_with fail
      go_ret
      exact ⟨A', _, c', rfl, by rw [List.take_of_length_le (by rw [dg_len]; omega)] at ho'; exact ho', hb'⟩

theorem num_take_lt (l : List Int) (h : By l) (k : Nat) (hk : k ≤ 3) : num (l.take k) < 16777216 := by
  have h1 := num_lt (l.take k) (h.take k)
  have h2 : (l.take k).length ≤ 3 := by rw [List.length_take]; omega
  have h3 : 256 ^ (l.take k).length ≤ 256 ^ 3 := Nat.pow_le_pow_right (by omega) h2
  omega

theorem number_any {w : World} {B : Nat} {A : Option Addr} {n c : Nat} {l : List Int} (h : Rd .u8 w B A n c l) (hl : By l) (hn4 : n ≤ 4) :
    Calls Tryz.prog 76 #[.slice A n c] w fun e w' => e = .returned (.int .i64 (num l : Nat)) ∧ w = w' := by
  have hlen := h.len
  by_cases hn : 0 < n
  · obtain ⟨b, off, rfl, _, hc⟩ := h.at_ hn
    have Hc := Lib.hid hc
    clear hc
    go_enter Tryz.func76, Tryz.ntmps76
    go_wp2_with fail
    go_loop [3, 8] (fun v i => ∃ k : Nat, k ≤ n ∧ i = .int .i64 k ∧ v = .int .i64 (num (l.take k) : Nat)) (fun _ i => n - (intOf i).toNat)
    case atStart => exact ⟨0, by omega, rfl, by simp [num]⟩
    case round =>
      obtain ⟨k, hk, rfl, rfl⟩ := hrel
      by_cases hlt : k < n
      · have hck := Hc.out k hlt
        have hb := By.getD hl k
        have hq := num_take_lt l hl k (by omega)
        have hsn := num_snoc (l.take k) (l.getD k 0)
        rw [← take_snoc l k (by omega)] at hsn
        have hor := or_i64 (num (l.take k)) (l.getD k 0).toNat (by omega) (by omega)
        rw [show (((l.getD k 0).toNat : Nat) : Int) = l.getD k 0 from by omega] at hor
        rw [← hsn] at hor
        have Hor := Lib.hid hor
        clear hor hsn
        generalize l.getD k 0 = x at *
        obtain ⟨hb1, hb2⟩ := hb
        generalize num (l.take k) = q at *
        go_wp2_with fail
        go_round
        case rel => exact ⟨k + 1, by omega, by go_num, by rw [Hor.out]⟩
        case measure => simp [intOf]; omega
      · obtain rfl : k = n := by omega
        go_wp2_with fail
        go_ret
        exact ⟨ret_int (by rw [List.take_of_length_le (by omega)]), rfl⟩
  · have : n = 0 := by omega
    subst this
    have hl0 : l = [] := List.eq_nil_of_length_eq_zero hlen
    subst hl0
    go_enter Tryz.func76, Tryz.ntmps76
    go_wp2_with fail
    go_loop [3, 8] (fun v i => i = .int .i64 0 ∧ v = .int .i64 0) (fun _ i => 1)
    case atStart => exact ⟨rfl, rfl⟩
    case round =>
      obtain ⟨rfl, rfl⟩ := hrel
      go_wp2_with fail
      go_ret
      exact ⟨rfl, rfl⟩

theorem doubled_any (s n : Nat) (hs : s < 65536) (hn : n ≤ 8) (w : World) :
    Calls Tryz.prog 105 #[.int .u16 s, .int .i64 n] w fun e w' => e = .returned (.int .u16 (stepK n s : Nat)) ∧ w = w' := by
  go_enter Tryz.func105, Tryz.ntmps105
  go_wp2_with fail
  go_loop [0, 7] (fun t i => ∃ k : Nat, k ≤ n ∧ i = .int .i64 k ∧ t = .int .u16 (stepK k s : Nat)) (fun _ i => n - (intOf i).toNat)
  case atStart => exact ⟨0, by omega, rfl, rfl⟩
  case round =>
    obtain ⟨k, hk, rfl, rfl⟩ := hrel
    by_cases hlt : k < n
    · have h1 := stepK_lt k s hs
      have h2 := step_u16 (stepK k s) h1
      rw [← stepK_succ] at h2
      have H2 := Lib.hid h2
      clear h2
      generalize stepK k s = q at *
      go_wp2_with fail
      go_round
      case rel => exact ⟨k + 1, by omega, by go_num, by rw [H2.out]⟩
      case measure => simp [intOf]; omega
    · obtain rfl : k = n := by omega
      go_wp2_with fail
      go_ret
      exact ⟨rfl, rfl⟩

theorem crc_take_snoc (l : List Int) (k : Nat) (h : k < l.length) : crcN 65535 (l.take (k + 1)) = crcByte (crcN 65535 (l.take k)) (l.getD k 0) := by
  rw [take_snoc l k h, crcN_snoc]

theorem sum_any {w : World} {B : Nat} {A : Option Addr} {n c : Nat} {l : List Int} (h : Rd .u8 w B A n c l) (hl : By l) :
    Calls Tryz.prog 101 #[.slice A n c] w fun e w' => e = .returned (.int .i64 (sumP l)) ∧ w = w' := by
  have hlen := h.len
  have hmax := h.max
  by_cases hn : 0 < n
  · obtain ⟨b, off, rfl, _, hc⟩ := h.at_ hn
    have Hc := Lib.hid hc
    clear hc
    go_enter Tryz.func101, Tryz.ntmps101
    go_wp2_with fail
    go_loop [3, 8] (fun v i => ∃ k : Nat, k ≤ n ∧ i = .int .i64 k ∧ v = .int .u16 (crcN 65535 (l.take k) : Nat)) (fun _ i => n - (intOf i).toNat)
    case atStart => exact ⟨0, by omega, rfl, rfl⟩
    case round =>
      obtain ⟨k, hk, rfl, rfl⟩ := hrel
      have h1 := crcN_lt (l.take k) 65535 (by omega) (hl.take k)
      by_cases hlt : k < n
      · have hck := Hc.out k hlt
        have hb := By.getD hl k
        have hs := crc_take_snoc l k (by omega)
        have h2 := byte_u16 (crcN 65535 (l.take k)) (l.getD k 0) h1 hb
        have h3 := byte_lt (crcN 65535 (l.take k)) (l.getD k 0) h1 hb
        have Hs := Lib.hid hs
        clear hs
        generalize l.getD k 0 = x at *
        obtain ⟨hb1, hb2⟩ := hb
        generalize crcN 65535 (l.take k) = q at *
        go_wp2_with fail
        refine (doubled_any _ 8 h3 (by omega) _).mono ?_
        rintro e w' ⟨rfl, rfl⟩
        go_wp2_with fail
        go_round
        case rel => exact ⟨k + 1, by omega, by go_num, by rw [Hs.out]; rfl⟩
        case measure => simp [intOf]; omega
      · obtain rfl : k = n := by omega
        rw [List.take_of_length_le (by omega)] at h1 ⊢
        have hsum : Hid (sumP l = ((crcN 65535 l : Nat) : Int)) := Lib.hid rfl
        generalize crcN 65535 l = q at *
        go_wp2_with fail
        go_ret
        exact ⟨ret_int (by rw [hsum.out]), rfl⟩
  · have : n = 0 := by omega
    subst this
    have hl0 : l = [] := List.eq_nil_of_length_eq_zero hlen
    subst hl0
    go_enter Tryz.func101, Tryz.ntmps101
    go_wp2_with fail
    go_loop [3, 8] (fun v i => i = .int .i64 0 ∧ v = .int .u16 65535) (fun _ i => 1)
    case atStart => exact ⟨rfl, rfl⟩
    case round =>
      obtain ⟨rfl, rfl⟩ := hrel
      go_wp2_with fail
      go_ret
      exact ⟨rfl, rfl⟩
end Go.Proofs.YteambkehdbffmaaGreat.Oct

namespace Go.Proofs.YteambkehdbffmaaGreat.Oct
open Go.RowKit
set_option linter.unusedVariables false

set_option maxRecDepth 100000 in
set_option maxHeartbeats 400000 in
theorem refSum_any {w : World} {B : Nat} {A : Option Addr} {n c : Nat} {l : List Int} (h : Rd .u8 w B A n c l) (hl : By l) :
    Calls Tryz.prog 90 #[.slice A n c] w fun e w' => e = .returned (.int .i64 (sumP l)) ∧ w = w' := by
  have hlen := h.len
  have hmax := h.max
  have hat : ∀ k, k < n → ∃ b off, A = some ⟨b, off, none⟩ ∧ w.cell? ⟨b, off + k, none⟩ = some (.int .u8 (l.getD k 0)) := fun k hk => by
    obtain ⟨b, off, e, _, hc⟩ := h.at_ (by omega)
    exact ⟨b, off, e, hc k hk⟩
  have Hat := Lib.hid hat
  clear hat
  go_enter Tryz.func90, Tryz.ntmps90
  go_wp2_with fail
  go_loop [3, 4, 5] (fun v i _ => ∃ k : Nat, k ≤ n ∧ i = .int .i64 k ∧ v = .int .i64 (crcN 65535 (l.take k) : Nat)) (fun _ i _ => n - (intOf i).toNat)
  case atStart => exact ⟨0, by omega, rfl, rfl⟩
  case round =>
    obtain ⟨k, hk, rfl, rfl⟩ := hrel
    have h1 := crcN_lt (l.take k) 65535 (by omega) (hl.take k)
    by_cases hlt : k < n
    · obtain ⟨b, off, rfl, hck⟩ := Hat.out k hlt
      have hb := By.getD hl k
      have hs := crc_take_snoc l k (by omega)
      have h2 := byte_i64 (crcN 65535 (l.take k)) (l.getD k 0) h1 hb
      have h3 := byte_lt (crcN 65535 (l.take k)) (l.getD k 0) h1 hb
      have Hs := Lib.hid hs
      clear hs
      generalize l.getD k 0 = x at *
      obtain ⟨hb1, hb2⟩ := hb
      generalize crcN 65535 (l.take k) = q at *
      have hd : decide ((k : Int) < n) = true := by simp; omega
      go_wp2_with fail
      clear hd h2
      have Hs2 : Hid (crcN 65535 (l.take (k + 1)) = stepK 8 (q ^^^ (x.toNat * 256))) := Lib.hid Hs.out
      clear Hs
      generalize q ^^^ (x.toNat * 256) = z at *
      go_loop [3, 5] (fun v i => ∃ j : Nat, j ≤ 8 ∧ i = .int .i64 j ∧ v = .int .i64 (stepK j z : Nat)) (fun _ i => 8 - (intOf i).toNat)
      case atStart => exact ⟨0, by omega, rfl, rfl⟩
      case round =>
        obtain ⟨j, hj, rfl, rfl⟩ := hrel
        by_cases hlt2 : j < 8
        · have g1 := stepK_lt j z h3
          have g2 := stepK_succ j z
          by_cases hlo : stepK j z < 32768
          · have g3 := step_i64_lo (stepK j z) hlo
            rw [← g2] at g3
            have G3 := Lib.hid g3
            clear g2 g3
            generalize stepK j z = y at *
            have t1 : ¬ (65536 ≤ (y : Int) * 2) := by omega
            have t4 : (y : Int) * 2 ≤ 65535 := by omega
            have t2 : (0 : Int) ≤ (y : Int) * 2 := by omega
            have t3 : (j : Int) < 8 := by omega
            clear hlo g1
            go_wp2_with fail
            go_round
            case rel => exact ⟨j + 1, by omega, by go_num, by rw [G3.out]⟩
            case measure => simp [intOf]; omega
          · have g3 := step_i64_hi (stepK j z) (by omega) g1
            rw [← g2] at g3
            have G3 := Lib.hid g3
            clear g2 g3
            generalize stepK j z = y at *
            have t1 : 65536 ≤ (y : Int) * 2 := by omega
            have t2 : (y : Int) * 2 < 131072 := by omega
            have t3 : (j : Int) < 8 := by omega
            clear hlo g1
            go_wp2_with fail
            go_round
            case rel => exact ⟨j + 1, by omega, by go_num, by rw [G3.out]⟩
            case measure => simp [intOf]; omega
        · obtain rfl : j = 8 := by omega
          generalize stepK 8 z = y2 at *
          go_wp2_with fail
          go_round
          case rel => exact ⟨k + 1, by omega, by go_num, by rw [Hs2.out]⟩
          case measure => simp [intOf]; omega
    · obtain rfl : k = n := by omega
      rw [List.take_of_length_le (by omega)] at h1 ⊢
      go_wp2_with fail
      go_ret
      exact ⟨rfl, rfl⟩
end Go.Proofs.YteambkehdbffmaaGreat.Oct
