import Derived.Test.YtnoflfbcgbhipaaGreatVst
import Derived.BigQuiet
import Derived.Deep.QuietTactic
import Derived.Deep.RegionWith
import Derived.Deep.RegionHeld3
import Derived.Test.YtnoflfbcgbhipaaGreatBring
import Derived.Laws.Pointers
set_option linter.unusedVariables false
set_option maxRecDepth 100000
set_option maxHeartbeats 800000
namespace Go.Proofs.YtnoflfbcgbhipaaGreat.Oct
open Go.RowKit
theorem ret_int {k : IntKind} {a b : Int} (h : a = b) : Ending.returned (.int k a) = .returned (.int k b) := by rw [h]
theorem ret_bool {a b : Bool} (h : a = b) : Ending.returned (.bool a) = .returned (.bool b) := by rw [h]
def NewOf (l : List Int) (w : World) (e : Ending) (w' : World) : Prop :=
 ∃ A n c, e = .returned (.slice A n c) ∧ Own w' w.heap.size (.slice A n c) n l ∧ Below w.heap.size w w'
theorem isSize_any (s : Int) (w : World) : Calls Tryz.prog 188 #[.int .i64 s] w fun e w' => e = .returned (.bool (decide (s = 1 ∨ s = 2 ∨ s = 4))) ∧ w = w' := by
 by_cases h1 : s = 1
 ·subst h1
  go_enter Tryz.func188, Tryz.ntmps188
  go_wp2
  go_ret
  exact ⟨ret_bool (by simp), rfl⟩
 ·have e1 : (s == 1) = false := by simpa using h1
  by_cases h2 : s = 2
  ·subst h2
   go_enter Tryz.func188, Tryz.ntmps188
   go_wp2
   go_ret
   exact ⟨ret_bool (by simp), rfl⟩
  ·have e2 : (s == 2) = false := by simpa using h2
   by_cases h4 : s = 4
   ·subst h4
    go_enter Tryz.func188, Tryz.ntmps188
    go_wp2
    go_ret
    exact ⟨ret_bool (by simp), rfl⟩
   ·have e4 : (s == 4) = false := by simpa using h4
    have E : Hid (decide (s = 1 ∨ s = 2 ∨ s = 4) = false) := Lib.hid (by simp [h1, h2, h4])
    clear h1 h2 h4
    go_enter Tryz.func188, Tryz.ntmps188
    go_wp2
    go_ret
    exact ⟨ret_bool E.out.symm, rfl⟩
def fitsP (n : Int) (s : Nat) : Bool := decide (0 ≤ n ∧ n < 2 ^ (8 * s))
theorem fits_any (n : Int) (s : Nat) (hs : s ≤ 4) (w : World) : Calls Tryz.prog 189 #[.int .i64 n, .int .i64 s] w fun e w' => e = .returned (.bool (fitsP n s)) ∧ w = w' := by
 have e : ((8 : Int) * s).toNat = 8 * s := by omega
 have key : (n / 2 ^ (8 * s) == 0) = fitsP n s := by
  unfold fitsP
  have hp : (0 : Int) < 2 ^ (8 * s) := Int.pow_pos (by omega)
  rw [Bool.eq_iff_iff]
  simp only [beq_iff_eq, decide_eq_true_eq]
  generalize (2 : Int) ^ (8 * s) = m at *
  constructor
  ·intro h
   have h1 := Int.mul_ediv_add_emod n m
   have h2 := Int.emod_nonneg n (b := m) (by omega)
   have h3 := Int.emod_lt_of_pos n hp
   rw [h] at h1
   omega
  ·intro h
   exact Int.ediv_eq_zero_of_lt h.1 h.2
 have K := Lib.hid key
 clear key
 go_enter Tryz.func189, Tryz.ntmps189
 go_wp2
 go_ret
 exact ⟨ret_bool (by rw [← K.out, ← e]), rfl⟩
theorem copyOf_any {w : World} {B : Nat} {A : Option Addr} {n c : Nat} {l : List Int} (more : Nat) (C : Int) (hC : C = (more : Int)) (h : Rd .u8 w B A n c l) (hB : B ≤ w.heap.size) (hs : n + more ≤ 140737488355328) :
  Calls Tryz.prog 190 #[.slice A n c, .int .i64 C] w (NewOf l w) := by
 subst hC
 have hmk := run_make8 (n + more) (by omega) ((n : Int) + (more : Int)) (by omega)
 have ho1 := own_made w w.heap.size (n + more) (Nat.le_refl _) (by omega)
 have hr1 := h.below' ((Below.refl w.heap.size w).alloc (Nat.le_refl _) (.cells (madeCells (Value.int .u8 0).cells (n + more)) 5)) hB
 go_enter Tryz.func190, Tryz.ntmps190
 go_wp2_with (at_builtin; refine wpList_append8 rfl (.tmp 9) (.tmp 10) rfl rfl (l := []) ho1 rfl hr1 (by omega) (by simp) ?_; intro A' c' w' ho hb)
 go_ret
 exact ⟨A', _, c', rfl, by simpa using ho, ((Below.refl w.heap.size w).alloc (Nat.le_refl _) _).trans hb⟩
def MoreOf (base : Nat) (l : List Int) (w : World) (e : Ending) (w' : World) : Prop :=
 ∃ A n c, e = .returned (.slice A n c) ∧ Own w' base (.slice A n c) n l ∧ Below base w w'
theorem digits_any {w : World} {base : Nat} {A : Option Addr} {n c : Nat} {l : List Int} (s : Nat) (x : Int) (ho : Own w base (.slice A n c) n l) (hb : base ≤ w.heap.size) (hs1 : 1 ≤ s) (hs : s ≤ 4) (hx : 0 ≤ x) (hn : n ≤ 140737488355320) :
  Calls Tryz.prog 191 #[.slice A n c, .int .i64 s, .int .i64 x] w (MoreOf base (l ++ dg s x) w) := by
 go_enter Tryz.func191, Tryz.ntmps191
 go_wp2_with fail
 go_loopw [0, 7] (fun v sh wr => ∃ (k : Nat) (A' : Option Addr) (c' : Nat), k ≤ s ∧ v = .slice A' (n + k) c' ∧ sh = .int .i64 (8 * ((s : Int) - 1 - k)) ∧ Own wr base (.slice A' (n + k) c') (n + k) (l ++ (dg s x).take k) ∧ Below base w wr) (fun _ sh _ => (intOf sh + 8).toNat)
 case atStart => exact ⟨0, A, c, by omega, rfl, by simp, by simpa using ho, Below.refl _ _⟩
 case round =>
  obtain ⟨k, A', c', hk, rfl, rfl, ho', hb'⟩ := hrel
  by_cases hlt : k < s
  ·have hz := hb'.size
   have hg : (0 : Int) ≤ 8 * ((s : Int) - 1 - k) := by omega
   have hsn := dg_snoc s x k hlt
   have Hsn := Lib.hid hsn
   clear hsn
   have hr1 := rd_lit .u8 wr 5 [x / 2 ^ (8 * (s - 1 - k)) % 256] (by simp [maxLen]) (wr.heap.size + 1) (by omega)
   go_wp2_with (at_builtin; refine wpList_append8 rfl (.tmp 15) (.tmp 20) rfl rfl (ho'.alloc _) rfl hr1 (by simp; omega) (by simp; omega) ?_; intro A2 c2 w2 ho2 hb2)
   go_roundw
   case rel => exact ⟨k + 1, A2, c2, by omega, rfl, by go_num, by rw [Hsn.out, ← List.append_assoc]; exact ho2, (hb'.alloc (by omega) _).trans hb2⟩
   case measure => simp [intOf]; omega
  ·obtain rfl : k = s := by omega
   go_wp2_with fail
   go_ret
   exact ⟨A', _, c', rfl, by rw [List.take_of_length_le (by rw [dg_len]; omega)] at ho'; exact ho', hb'⟩
theorem num_take_lt (l : List Int) (h : By l) (k : Nat) (hk : k ≤ 3) : num (l.take k) < 16777216 := by
 have h1 := num_lt (l.take k) (h.take k)
 have h2 : (l.take k).length ≤ 3 := by rw [List.length_take]; omega
 have h3 : 256 ^ (l.take k).length ≤ 256 ^ 3 := Nat.pow_le_pow_right (by omega) h2
 omega
theorem number_any {w : World} {B : Nat} {A : Option Addr} {n c : Nat} {l : List Int} (h : Rd .u8 w B A n c l) (hl : By l) (hn4 : n ≤ 4) :
  Calls Tryz.prog 237 #[.slice A n c] w fun e w' => e = .returned (.int .i64 (num l : Nat)) ∧ w = w' := by
 have hlen := h.len
 by_cases hn : 0 < n
 ·obtain ⟨b, off, rfl, _, hc⟩ := h.at_ hn
  have Hc := Lib.hid hc
  clear hc
  go_enter Tryz.func237, Tryz.ntmps237
  go_wp2_with fail
  go_loop [3, 8] (fun v i => ∃ k : Nat, k ≤ n ∧ i = .int .i64 k ∧ v = .int .i64 (num (l.take k) : Nat)) (fun _ i => n - (intOf i).toNat)
  case atStart => exact ⟨0, by omega, rfl, by simp [num]⟩
  case round =>
   obtain ⟨k, hk, rfl, rfl⟩ := hrel
   by_cases hlt : k < n
   ·have hck := Hc.out k hlt
    have hb := By.getD hl k
    have hq := num_take_lt l hl k (by omega)
    have hsn := num_snoc (l.take k) (l.getD k 0)
    rw [← take_snoc l k (by omega)] at hsn
    have hor := or_i64 (num (l.take k)) (l.getD k 0).toNat (by omega) (by omega)
    rw [show (((l.getD k 0).toNat : Nat) : Int) = l.getD k 0 from by omega] at hor
    rw [← hsn] at hor
    have Hor := Lib.hid hor
    clear hor hsn
    generalize l.getD k 0 = x at *
    obtain ⟨hb1, hb2⟩ := hb
    generalize num (l.take k) = q at *
    go_wp2_with fail
    go_round
    case rel => exact ⟨k + 1, by omega, by go_num, by rw [Hor.out]⟩
    case measure => simp [intOf]; omega
   ·obtain rfl : k = n := by omega
    go_wp2_with fail
    go_ret
    exact ⟨ret_int (by rw [List.take_of_length_le (by omega)]), rfl⟩
 ·have : n = 0 := by omega
  subst this
  have hl0 : l = [] := List.eq_nil_of_length_eq_zero hlen
  subst hl0
  go_enter Tryz.func237, Tryz.ntmps237
  go_wp2_with fail
  go_loop [3, 8] (fun v i => i = .int .i64 0 ∧ v = .int .i64 0) (fun _ i => 1)
  case atStart => exact ⟨rfl, rfl⟩
  case round =>
   obtain ⟨rfl, rfl⟩ := hrel
   go_wp2_with fail
   go_ret
   exact ⟨rfl, rfl⟩
theorem doubled_any (s n : Nat) (hs : s < 65536) (hn : n ≤ 8) (w : World) :
  Calls Tryz.prog 266 #[.int .u16 s, .int .i64 n] w fun e w' => e = .returned (.int .u16 (stepK n s : Nat)) ∧ w = w' := by
 go_enter Tryz.func266, Tryz.ntmps266
 go_wp2_with fail
 go_loop [0, 7] (fun t i => ∃ k : Nat, k ≤ n ∧ i = .int .i64 k ∧ t = .int .u16 (stepK k s : Nat)) (fun _ i => n - (intOf i).toNat)
 case atStart => exact ⟨0, by omega, rfl, rfl⟩
 case round =>
  obtain ⟨k, hk, rfl, rfl⟩ := hrel
  by_cases hlt : k < n
  ·have h1 := stepK_lt k s hs
   have h2 := step_u16 (stepK k s) h1
   rw [← stepK_succ] at h2
   have H2 := Lib.hid h2
   clear h2
   generalize stepK k s = q at *
   go_wp2_with fail
   go_round
   case rel => exact ⟨k + 1, by omega, by go_num, by rw [H2.out]⟩
   case measure => simp [intOf]; omega
  ·obtain rfl : k = n := by omega
   go_wp2_with fail
   go_ret
   exact ⟨rfl, rfl⟩
theorem crc_take_snoc (l : List Int) (k : Nat) (h : k < l.length) : crcN 65535 (l.take (k + 1)) = crcByte (crcN 65535 (l.take k)) (l.getD k 0) := by
 rw [take_snoc l k h, crcN_snoc]
theorem sum_any {w : World} {B : Nat} {A : Option Addr} {n c : Nat} {l : List Int} (h : Rd .u8 w B A n c l) (hl : By l) :
  Calls Tryz.prog 255 #[.slice A n c] w fun e w' => e = .returned (.int .i64 (sumP l)) ∧ w = w' := by
 have hlen := h.len
 have hmax := h.max
 by_cases hn : 0 < n
 ·obtain ⟨b, off, rfl, _, hc⟩ := h.at_ hn
  have Hc := Lib.hid hc
  clear hc
  go_enter Tryz.func255, Tryz.ntmps255
  go_wp2_with fail
  go_loop [3, 8] (fun v i => ∃ k : Nat, k ≤ n ∧ i = .int .i64 k ∧ v = .int .u16 (crcN 65535 (l.take k) : Nat)) (fun _ i => n - (intOf i).toNat)
  case atStart => exact ⟨0, by omega, rfl, rfl⟩
  case round =>
   obtain ⟨k, hk, rfl, rfl⟩ := hrel
   have h1 := crcN_lt (l.take k) 65535 (by omega) (hl.take k)
   by_cases hlt : k < n
   ·have hck := Hc.out k hlt
    have hb := By.getD hl k
    have hs := crc_take_snoc l k (by omega)
    have h2 := byte_u16 (crcN 65535 (l.take k)) (l.getD k 0) h1 hb
    have h3 := byte_lt (crcN 65535 (l.take k)) (l.getD k 0) h1 hb
    have Hs := Lib.hid hs
    clear hs
    generalize l.getD k 0 = x at *
    obtain ⟨hb1, hb2⟩ := hb
    generalize crcN 65535 (l.take k) = q at *
    go_wp2_with fail
    refine (doubled_any _ 8 h3 (by omega) _).mono ?_
    rintro e w' ⟨rfl, rfl⟩
    go_wp2_with fail
    go_round
    case rel => exact ⟨k + 1, by omega, by go_num, by rw [Hs.out]; rfl⟩
    case measure => simp [intOf]; omega
   ·obtain rfl : k = n := by omega
    rw [List.take_of_length_le (by omega)] at h1 ⊢
    have hsum : Hid (sumP l = ((crcN 65535 l : Nat) : Int)) := Lib.hid rfl
    generalize crcN 65535 l = q at *
    go_wp2_with fail
    go_ret
    exact ⟨ret_int (by rw [hsum.out]), rfl⟩
 ·have : n = 0 := by omega
  subst this
  have hl0 : l = [] := List.eq_nil_of_length_eq_zero hlen
  subst hl0
  go_enter Tryz.func255, Tryz.ntmps255
  go_wp2_with fail
  go_loop [3, 8] (fun v i => i = .int .i64 0 ∧ v = .int .u16 65535) (fun _ i => 1)
  case atStart => exact ⟨rfl, rfl⟩
  case round =>
   obtain ⟨rfl, rfl⟩ := hrel
   go_wp2_with fail
   go_ret
   exact ⟨rfl, rfl⟩
theorem refSum_any {w : World} {B : Nat} {A : Option Addr} {n c : Nat} {l : List Int} (h : Rd .u8 w B A n c l) (hl : By l) :
  Calls Tryz.prog 249 #[.slice A n c] w fun e w' => e = .returned (.int .i64 (sumP l)) ∧ w = w' := by
 have hlen := h.len
 have hmax := h.max
 have hat : ∀ k, k < n → ∃ b off, A = some ⟨b, off, none⟩ ∧ w.cell? ⟨b, off + k, none⟩ = some (.int .u8 (l.getD k 0)) := fun k hk => by
  obtain ⟨b, off, e, _, hc⟩ := h.at_ (by omega)
  exact ⟨b, off, e, hc k hk⟩
 have Hat := Lib.hid hat
 clear hat
 go_enter Tryz.func249, Tryz.ntmps249
 go_wp2_with fail
 go_loop [3, 4, 5] (fun v i _ => ∃ k : Nat, k ≤ n ∧ i = .int .i64 k ∧ v = .int .i64 (crcN 65535 (l.take k) : Nat)) (fun _ i _ => n - (intOf i).toNat)
 case atStart => exact ⟨0, by omega, rfl, rfl⟩
 case round =>
  obtain ⟨k, hk, rfl, rfl⟩ := hrel
  have h1 := crcN_lt (l.take k) 65535 (by omega) (hl.take k)
  by_cases hlt : k < n
  ·obtain ⟨b, off, rfl, hck⟩ := Hat.out k hlt
   have hb := By.getD hl k
   have hs := crc_take_snoc l k (by omega)
   have h2 := byte_i64 (crcN 65535 (l.take k)) (l.getD k 0) h1 hb
   have h3 := byte_lt (crcN 65535 (l.take k)) (l.getD k 0) h1 hb
   have Hs := Lib.hid hs
   clear hs
   generalize l.getD k 0 = x at *
   obtain ⟨hb1, hb2⟩ := hb
   generalize crcN 65535 (l.take k) = q at *
   have hd : decide ((k : Int) < n) = true := by simp; omega
   go_wp2_with fail
   clear hd h2
   have Hs2 : Hid (crcN 65535 (l.take (k + 1)) = stepK 8 (q ^^^ (x.toNat * 256))) := Lib.hid Hs.out
   clear Hs
   generalize q ^^^ (x.toNat * 256) = z at *
   go_loop [3, 5] (fun v i => ∃ j : Nat, j ≤ 8 ∧ i = .int .i64 j ∧ v = .int .i64 (stepK j z : Nat)) (fun _ i => 8 - (intOf i).toNat)
   case atStart => exact ⟨0, by omega, rfl, rfl⟩
   case round =>
    obtain ⟨j, hj, rfl, rfl⟩ := hrel
    by_cases hlt2 : j < 8
    ·have g1 := stepK_lt j z h3
     have g2 := stepK_succ j z
     by_cases hlo : stepK j z < 32768
     ·have g3 := step_i64_lo (stepK j z) hlo
      rw [← g2] at g3
      have G3 := Lib.hid g3
      clear g2 g3
      generalize stepK j z = y at *
      have t1 : ¬ (65536 ≤ (y : Int) * 2) := by omega
      have t4 : (y : Int) * 2 ≤ 65535 := by omega
      have t2 : (0 : Int) ≤ (y : Int) * 2 := by omega
      have t3 : (j : Int) < 8 := by omega
      clear hlo g1
      go_wp2_with fail
      go_round
      case rel => exact ⟨j + 1, by omega, by go_num, by rw [G3.out]⟩
      case measure => simp [intOf]; omega
     ·have g3 := step_i64_hi (stepK j z) (by omega) g1
      rw [← g2] at g3
      have G3 := Lib.hid g3
      clear g2 g3
      generalize stepK j z = y at *
      have t1 : 65536 ≤ (y : Int) * 2 := by omega
      have t2 : (y : Int) * 2 < 131072 := by omega
      have t3 : (j : Int) < 8 := by omega
      clear hlo g1
      go_wp2_with fail
      go_round
      case rel => exact ⟨j + 1, by omega, by go_num, by rw [G3.out]⟩
      case measure => simp [intOf]; omega
    ·obtain rfl : j = 8 := by omega
     generalize stepK 8 z = y2 at *
     go_wp2_with fail
     go_round
     case rel => exact ⟨k + 1, by omega, by go_num, by rw [Hs2.out]⟩
     case measure => simp [intOf]; omega
  ·obtain rfl : k = n := by omega
   rw [List.take_of_length_le (by omega)] at h1 ⊢
   go_wp2_with fail
   go_ret
   exact ⟨rfl, rfl⟩
def putP (l : List Int) (s : Int) (ls : List Int) : List Int × Int :=
 if s = 1 ∨ s = 2 ∨ s = 4 then (if ls.all (fitsP · s.toNat) then (l ++ ls.flatMap (dg s.toNat), 0) else ([], 9)) else ([], 2)
def PairOf (l : List Int) (e : Int) (w : World) (en : Ending) (w' : World) : Prop :=
 ∃ A n c, en = .returned (.tuple #[.slice A n c, .int .i64 e]) ∧ Own w' w.heap.size (.slice A n c) n l ∧ Below w.heap.size w w'
theorem PairOf.nil (e : Int) (w : World) {w' : World} (hb : Below w.heap.size w w') : PairOf [] e w (.returned (.tuple #[.slice none 0 0, .int .i64 e])) w' :=
 ⟨none, 0, 0, rfl, Own.nil _ _, hb⟩
theorem all_snoc (p : Int → Bool) (l : List Int) (k : Nat) (h : k < l.length) (h1 : (l.take k).all p = true) (h2 : p (l.getD k 0) = true) : (l.take (k + 1)).all p = true := by
 rw [take_snoc l k h, List.all_append, h1, List.all_cons, List.all_nil, h2]; rfl
theorem all_none (p : Int → Bool) (l : List Int) (k : Nat) (h : k < l.length) (h2 : p (l.getD k 0) = false) : l.all p = false := by
 rw [List.all_eq_false]
 refine ⟨l.getD k 0, ?_, by rw [h2]; decide⟩
 rw [List.getD_eq_getElem?_getD, List.getElem?_eq_getElem h]; exact List.getElem_mem _
theorem all_at (p : Int → Bool) (l : List Int) (k : Nat) (h : k < l.length) (h1 : l.all p = true) : p (l.getD k 0) = true := by
 rw [List.getD_eq_getElem?_getD, List.getElem?_eq_getElem h]
 exact List.all_eq_true.1 h1 _ (List.getElem_mem _)
theorem flat_take (s : Nat) (l : List Int) (k : Nat) (h : k < l.length) : (l.take (k + 1)).flatMap (dg s) = (l.take k).flatMap (dg s) ++ dg s (l.getD k 0) := by
 rw [take_snoc l k h, List.flatMap_append]; simp
theorem fitsP_nn {n : Int} {s : Nat} (h : fitsP n s = true) : 0 ≤ n := by unfold fitsP at h; exact (of_decide_eq_true h).1
theorem put_any {w : World} {B B2 : Nat} {A A2 : Option Addr} {n c m c2 : Nat} {l ls : List Int} (s : Int) (h : Rd .u8 w B A n c l) (h2 : Rd .i64 w B2 A2 m c2 ls) (hB : B ≤ w.heap.size) (hB2 : B2 ≤ w.heap.size) (hs : n + 4 * m ≤ 140737488355320) :
  Calls Tryz.prog 154 #[.slice A n c, .int .i64 s, .slice A2 m c2] w (PairOf (putP l s ls).1 (putP l s ls).2 w) := by
 by_cases hsz : s = 1 ∨ s = 2 ∨ s = 4
 ·obtain ⟨t, rfl⟩ : ∃ t : Nat, s = t := ⟨s.toNat, by omega⟩
  have ht4 : t ≤ 4 := by omega
  have ht1 : 1 ≤ t := by omega
  have hput : Hid (putP l t ls = if ls.all (fitsP · t) then (l ++ ls.flatMap (dg t), 0) else ([], 9)) := Lib.hid (by unfold putP; rw [if_pos hsz]; simp)
  have hd : decide ((t : Int) = 1 ∨ (t : Int) = 2 ∨ (t : Int) = 4) = true := by simpa using hsz
  have Hd := Lib.hid hd
  clear hd hsz
  have hlen := h2.len
  have hat : ∀ k, k < m → ∃ b off, A2 = some ⟨b, off, none⟩ ∧ w.cell? ⟨b, off + k, none⟩ = some (.int .i64 (ls.getD k 0)) := fun k hk => by
   obtain ⟨b, off, e, _, hc⟩ := h2.at_ (by omega)
   exact ⟨b, off, e, hc k hk⟩
  have Hat := Lib.hid hat
  clear hat
  go_enter Tryz.func154, Tryz.ntmps154
  go_wp2_with fail
  refine (isSize_any _ _).mono ?_
  rw [Hd.out]
  rintro e w' ⟨rfl, rfl⟩
  go_wp2_with fail
  go_loop [18] (fun i => ∃ k : Nat, k ≤ m ∧ i = .int .i64 k ∧ Hid ((ls.take k).all (fitsP · t) = true)) (fun i => m - (intOf i).toNat)
  case atStart => exact ⟨0, by omega, rfl, Lib.hid rfl⟩
  case round =>
   obtain ⟨k, hk, rfl, hall⟩ := hrel
   by_cases hlt : k < m
   ·obtain ⟨b, off, rfl, hck⟩ := Hat.out k hlt
    by_cases hf : fitsP (ls.getD k 0) t = true
    ·have hall2 := Lib.hid (all_snoc (fitsP · t) ls k (by omega) hall.out hf)
     generalize ls.getD k 0 = x at *
     go_wp2_with fail
     refine (fits_any x t ht4 _).mono ?_
     rw [hf]
     rintro e w' ⟨rfl, rfl⟩
     go_wp2_with fail
     go_round
     case rel => exact ⟨k + 1, by omega, by go_num, hall2⟩
     case measure => simp [intOf]; omega
    ·have hf' : fitsP (ls.getD k 0) t = false := by simpa using hf
     have hno := all_none (fitsP · t) ls k (by omega) hf'
     have hp2 : putP l t ls = ([], 9) := by rw [hput.out, hno]; simp
     have Hp2 := Lib.hid hp2
     clear hno hp2 hf
     generalize ls.getD k 0 = x at *
     go_wp2_with fail
     refine (fits_any x t ht4 _).mono ?_
     rw [hf']
     rintro e w' ⟨rfl, rfl⟩
     go_wp2_with fail
     rw [Hp2.out]
     go_ret2
     exact PairOf.nil 9 w (Below.refl _ _)
   ·obtain rfl : k = m := by omega
    have hp2 : putP l t ls = (l ++ ls.flatMap (dg t), 0) := by
     have := hall.out
     rw [List.take_of_length_le (by omega)] at this
     rw [hput.out, this]; simp
    have hallM : Hid (ls.all (fitsP · t) = true) := Lib.hid (by have := hall.out; rw [List.take_of_length_le (by omega)] at this; exact this)
    have Hp2 := Lib.hid hp2
    clear hp2 hall hput
    have q1 : t * k ≤ 4 * k := Nat.mul_le_mul_right _ ht4
    have q2 : (t : Int) * (k : Int) = ((t * k : Nat) : Int) := by simp
    have q3 : 0 ≤ (t : Int) * (k : Int) := by omega
    have q4 : (t : Int) * (k : Int) ≤ 140737488355320 := by omega
    have Q2 := Lib.hid q2
    clear q2
    go_wp2_with fail
    refine (copyOf_any (t * k) _ Q2.out h hB (by omega)).mono ?_
    rintro e w1 ⟨A1, n1, c1, rfl, ho1, hb1⟩
    have hn1 : n1 = n := by have := ho1.len; have := h.len; omega
    have hz1 := hb1.size
    have hat1 : ∀ j, j < k → ∃ b off, A2 = some ⟨b, off, none⟩ ∧ b < B2 ∧ w1.cell? ⟨b, off + j, none⟩ = some (.int .i64 (ls.getD j 0)) := fun j hj => by
     obtain ⟨b, off, e, hb, hc⟩ := (h2.below' hb1 hB2).at_ (by omega)
     exact ⟨b, off, e, hb, hc j hj⟩
    have Hat1 := Lib.hid hat1
    clear hat1
    subst hn1
    go_wp2_with fail
    go_loopw [10, 35] (fun v i wr => ∃ (j : Nat) (A' : Option Addr) (c' : Nat), j ≤ k ∧ i = .int .i64 j ∧ v = .slice A' (n1 + t * j) c' ∧ Own wr w.heap.size (.slice A' (n1 + t * j) c') (n1 + t * j) (l ++ (ls.take j).flatMap (dg t)) ∧ Below w.heap.size w wr) (fun _ i _ => k - (intOf i).toNat)
    case atStart => exact ⟨0, A1, c1, by omega, rfl, by simp, by simpa using ho1, hb1⟩
    case round =>
     obtain ⟨j, A', c', hj, rfl, rfl, ho', hb'⟩ := hrel
     have hz' := hb'.size
     by_cases hlt : j < k
     ·obtain ⟨b, off, rfl, _, _⟩ := Hat1.out j hlt
      have hck : wr.cell? ⟨b, off + j, none⟩ = some (.int .i64 (ls.getD j 0)) := by
       obtain ⟨b', off', e, _, hc⟩ := (h2.below' hb' hB2).at_ (by omega)
       have := hc j hlt
       simp at e
       obtain ⟨rfl, rfl⟩ := e
       exact this
      have hfit := all_at (fitsP · t) ls j (by omega) hallM.out
      have hx0 : 0 ≤ ls.getD j 0 := fitsP_nn hfit
      have hfl := Lib.hid (flat_take t ls j (by omega))
      have r1 : t * j ≤ 4 * j := Nat.mul_le_mul_right _ ht4
      clear hfit
      generalize ls.getD j 0 = x at *
      go_wp2_with fail
      refine (digits_any t x ho' hz' ht1 ht4 hx0 (by omega)).mono ?_
      rintro e w2 ⟨A3, n3, c3, rfl, ho3, hb3⟩
      have hn3 : n3 = n1 + t * (j + 1) := by have g1 := ho3.len; have g2 := ho'.len; rw [List.length_append, dg_len] at g1; rw [Nat.mul_succ]; omega
      subst hn3
      go_wp2_with fail
      go_roundw
      case rel => exact ⟨j + 1, A3, c3, by omega, by go_num, rfl, by rw [hfl.out, ← List.append_assoc]; exact ho3, hb'.trans hb3⟩
      case measure => simp [intOf]; omega
     ·obtain rfl : j = k := by omega
      go_wp2_with fail
      rw [Hp2.out]
      go_ret2
      exact ⟨A', _, c', rfl, by rw [List.take_of_length_le (by omega)] at ho'; exact ho', hb'⟩
 ·have hd : decide (s = 1 ∨ s = 2 ∨ s = 4) = false := by simpa using hsz
  have hp2 : putP l s ls = ([], 2) := by unfold putP; rw [if_neg hsz]
  rw [hp2]
  have Hd := Lib.hid hd
  clear hd hsz hp2
  go_enter Tryz.func154, Tryz.ntmps154
  go_wp2_with fail
  refine (isSize_any _ _).mono ?_
  rw [Hd.out]
  rintro e w' ⟨rfl, rfl⟩
  go_wp2_with fail
  go_ret2
  exact PairOf.nil 2 w (Below.refl _ _)
def textP (l s : List Int) : List Int × Int := if 65535 < s.length then ([], 5) else (l ++ dg 2 s.length ++ s, 0)
theorem text_any {w : World} {B B2 : Nat} {A A2 : Option Addr} {n c m c2 : Nat} {l s : List Int} (h : Rd .u8 w B A n c l) (h2 : Rd .u8 w B2 A2 m c2 s) (hB : B ≤ w.heap.size) (hB2 : B2 ≤ w.heap.size) (hs : n + m ≤ 140737488355000) :
  Calls Tryz.prog 202 #[.slice A n c, .slice A2 m c2] w (PairOf (textP l s).1 (textP l s).2 w) := by
 have hlen2 := h2.len
 by_cases hm : 65535 < m
 ·have hp := Kp.mk (show textP l s = ([], 5) by unfold textP; rw [hlen2, if_pos hm])
  go_enter Tryz.func202, Tryz.ntmps202
  go_wp2_with fail
  rw [hp.out]
  go_ret2
  exact PairOf.nil 5 w (Below.refl _ _)
 ·have hp := Kp.mk (show textP l s = (l ++ dg 2 m ++ s, 0) by unfold textP; rw [hlen2, if_neg hm])
  go_enter Tryz.func202, Tryz.ntmps202
  go_wp2_with fail
  refine (copyOf_any (2 + m) _ (by simp) h hB (by omega)).mono ?_
  rintro e w1 ⟨A1, n1, c1, rfl, ho1, hb1⟩
  have hn1 : n1 = n := by have := ho1.len; have := h.len; omega
  subst hn1
  have hz1 := hb1.size
  go_wp2_with fail
  refine (digits_any 2 m ho1 hz1 (by omega) (by omega) (by omega) (by omega)).mono ?_
  rintro e w2 ⟨A3, n3, c3, rfl, ho3, hb3⟩
  have hn3 : n3 = n1 + 2 := by have g1 := ho3.len; have g2 := ho1.len; rw [List.length_append, dg_len] at g1; omega
  subst hn3
  have hb4 := hb1.trans hb3
  have hz4 := hb4.size
  have hr4 := h2.below' hb4 hB2
  go_wp2_with (at_builtin; refine wpList_append8 rfl (.tmp 18) (.tmp 19) rfl rfl ho3 rfl hr4 (by omega) hz4 ?_; intro A5 c5 w5 ho5 hb5)
  rw [hp.out]
  go_ret2
  exact ⟨A5, _, c5, rfl, ho5, hb4.trans hb5⟩
def sealP (kind : Int) (l : List Int) : List Int × Int :=
 if 0 ≤ kind ∧ kind < 256 then (if 512 < l.length + 3 then ([], 5) else (dg 1 kind ++ l ++ dg 2 (sumP (dg 1 kind ++ l)), 0)) else ([], 2)
theorem seal_any {w : World} {B : Nat} {A : Option Addr} {n c : Nat} {l : List Int} (kind : Int) (h : Rd .u8 w B A n c l) (hl : By l) (hB : B ≤ w.heap.size) (hn : n ≤ 140737488355000) :
  Calls Tryz.prog 233 #[.int .i64 kind, .slice A n c] w (PairOf (sealP kind l).1 (sealP kind l).2 w) := by
 have hlen := h.len
 have hf1 : fitsP kind 1 = decide (0 ≤ kind ∧ kind < 256) := by unfold fitsP; rfl
 by_cases hk : 0 ≤ kind ∧ kind < 256
 ·have hf : fitsP kind 1 = true := by rw [hf1]; exact decide_eq_true hk
  have Hf := Kp.mk hf
  by_cases hm : 512 < n + 3
  ·have hp := Kp.mk (show sealP kind l = ([], 5) by unfold sealP; rw [if_pos hk, hlen, if_pos hm])
   have hm' : (509 : Int) < n := by omega
   clear hf hf1 hk hlen hm
   go_enter Tryz.func233, Tryz.ntmps233
   go_wp2_with fail
   refine (fits_any kind 1 (by omega) _).mono ?_
   rw [Hf.out]
   rintro e w' ⟨rfl, rfl⟩
   go_wp2_with fail
   rw [hp.out]
   go_ret2
   exact PairOf.nil 5 w (Below.refl _ _)
  ·have hp := Kp.mk (show sealP kind l = (dg 1 kind ++ l ++ dg 2 (sumP (dg 1 kind ++ l)), 0) by unfold sealP; rw [if_pos hk, hlen, if_neg hm])
   have hm' : (n : Int) ≤ 509 := by omega
   obtain ⟨hk0, hk1⟩ := hk
   have hmk := run_make8 (n + 3) (by omega) (1 + (n : Int) + 2) (by omega)
   have ho0 := own_made w w.heap.size (n + 3) (Nat.le_refl _) (by omega)
   clear hf hf1 hlen hm
   go_enter Tryz.func233, Tryz.ntmps233
   go_wp2_with fail
   refine (fits_any kind 1 (by omega) _).mono ?_
   rw [Hf.out]
   rintro e w' ⟨rfl, rfl⟩
   go_wp2_with fail
   have hba := (Below.refl w.heap.size w).alloc (Nat.le_refl _) (.cells (madeCells (Value.int .u8 0).cells (n + 3)) 5)
   refine (digits_any 1 kind ho0 (by simp) (by omega) (by omega) hk0 (by omega)).mono ?_
   rintro e w1 ⟨A1, n1, c1, rfl, ho1, hb1⟩
   have hn1 : n1 = 1 := by have g1 := ho1.len; rw [List.length_append, dg_len] at g1; simpa using g1.symm
   subst hn1
   clear hmk ho0
   have hb1' := hba.trans hb1
   have hz1 := hb1'.size
   have hr1 := h.below' hb1' hB
   go_wp2_with (at_builtin; refine wpList_append8 rfl (.tmp 21) (.tmp 22) rfl rfl ho1 rfl hr1 (by omega) hz1 ?_; intro A5 c5 w5 ho5 hb5)
   have hby : By (dg 1 kind ++ l) := (dg_by _ _).append hl
   refine (sum_any ho5.rd hby).mono ?_
   rintro e w' ⟨rfl, rfl⟩
   have hb6 := hb1'.trans hb5
   have hz6 := hb6.size
   have hs := sumP_bd _ hby
   go_wp2_with fail
   refine (digits_any 2 _ ho5 hz6 (by omega) (by omega) hs.1 (by omega)).mono ?_
   rintro e w6 ⟨A6, n6, c6, rfl, ho6, hb7⟩
   go_wp2_with fail
   rw [hp.out]
   go_ret2
   exact ⟨A6, n6, c6, rfl, ho6, hb6.trans hb7⟩
 ·have hf : fitsP kind 1 = false := by rw [hf1]; exact decide_eq_false hk
  have Hf := Kp.mk hf
  have hp := Kp.mk (show sealP kind l = ([], 2) by unfold sealP; rw [if_neg hk])
  clear hf hf1 hlen hk
  go_enter Tryz.func233, Tryz.ntmps233
  go_wp2_with fail
  refine (fits_any kind 1 (by omega) _).mono ?_
  rw [Hf.out]
  rintro e w' ⟨rfl, rfl⟩
  go_wp2_with fail
  rw [hp.out]
  go_ret2
  exact PairOf.nil 2 w (Below.refl _ _)
theorem quiet_l {P : Program} {f : FuncId} {args : Array Value} {w : World} {n : Nat} {v : Value}
  (h : Calls P f args (w.drewN n) fun e w' => e = .returned v ∧ w.drewN n = w') : Calls P f args (w.drewN n) fun e w'' => e = .returned v ∧ ∃ m, w'' = w.drewN m :=
 h.mono fun _ _ ⟨he, hm⟩ => ⟨he, n, hm.symm⟩
theorem Rd.drewN {k : IntKind} {w : World} {B : Nat} {A : Option Addr} {n c : Nat} {l : List Int} (h : Rd k w B A n c l) (q : Nat) : Rd k (w.drewN q) B A n c l := h
theorem Rd.cut {k : IntKind} {w : World} {B b off n c : Nat} {l : List Int} (h : Rd k w B (some ⟨b, off, none⟩) n c l) (i j : Nat) (hij : i ≤ j) (hj : j ≤ n) :
  Rd k w B (some ⟨b, off + i, none⟩) (j - i) (c - i) ((l.drop i).take (j - i)) := by
 have hl := h.len
 have hc := h.le
 have hm := h.cap
 refine ⟨by rw [List.length_take, List.length_drop]; omega, by omega, by omega, fun e => by simp at e, fun hn => ?_⟩
 obtain ⟨b', off', e, hb, hcell⟩ := h.at_ (by omega)
 simp at e
 obtain ⟨rfl, rfl⟩ := e
 refine ⟨b, off + i, rfl, hb, fun q hq => ?_⟩
 rw [Nat.add_assoc, hcell (i + q) (by omega), List.getD_eq_getElem?_getD, List.getD_eq_getElem?_getD, List.getElem?_take_of_lt hq, List.getElem?_drop]
def openP (l : List Int) : Int × List Int × Int :=
 if 512 < l.length then (0, [], 5) else if l.length < 3 then (0, [], 3)
 else if sumP (l.take (l.length - 2)) = (num (l.drop (l.length - 2)) : Nat) then ((num (l.take 1) : Nat), (l.drop 1).take (l.length - 3), 0) else (0, [], 30)
def TripOf (k : Int) (l : List Int) (e : Int) (w : World) (en : Ending) (w' : World) : Prop :=
 ∃ A n c, en = .returned (.tuple #[.int .i64 k, .slice A n c, .int .i64 e]) ∧ Own w' w.heap.size (.slice A n c) n l ∧ Below w.heap.size w w'
theorem TripOf.nil (k e : Int) (w : World) {w' : World} (hb : Below w.heap.size w w') : TripOf k [] e w (.returned (.tuple #[.int .i64 k, .slice none 0 0, .int .i64 e])) w' :=
 ⟨none, 0, 0, rfl, Own.nil _ _, hb⟩
theorem open_any {w : World} {B : Nat} {A : Option Addr} {n c : Nat} {l : List Int} (h : Rd .u8 w B A n c l) (hl : By l) (hB : B ≤ w.heap.size) :
  Calls Tryz.prog 258 #[.slice A n c] w (TripOf (openP l).1 (openP l).2.1 (openP l).2.2 w) := by
 have hlen := h.len
 have hmax := h.max
 by_cases h5 : 512 < n
 ·have hp := Kp.mk (show openP l = (0, [], 5) by unfold openP; rw [hlen, if_pos h5])
  clear hlen
  go_enter Tryz.func258, Tryz.ntmps258
  go_wp2_with fail
  rw [hp.out]
  go_ret3
  exact TripOf.nil 0 5 w (Below.refl _ _)
 by_cases h3 : n < 3
 ·have hp := Kp.mk (show openP l = (0, [], 3) by unfold openP; rw [hlen, if_neg h5, if_pos h3])
  clear hlen
  go_enter Tryz.func258, Tryz.ntmps258
  go_wp2_with fail
  rw [hp.out]
  go_ret3
  exact TripOf.nil 0 3 w (Below.refl _ _)
 obtain ⟨b, off, rfl, hbB, _⟩ := h.at_ (by omega)
 have hc := h.le
 have hcm := h.cap
 have hr1 := Kp.mk (h.cut (n - 2) n (by omega) (Nat.le_refl _))
 have hr2 := Kp.mk (h.cut 0 (n - 2) (by omega) (by omega))
 have hr3 : Kp (Rd .u8 w B (some ⟨b, off, none⟩) 1 c (l.take 1)) := Kp.mk (h.cut 0 1 (by omega) (by omega))
 have en : ((n : Int) - 2).toNat - 1 = n - 3 := by omega
 have hr4 : Kp (Rd .u8 w B (some ⟨b, off + 1, none⟩) (((n : Int) - 2).toNat - 1) (c - 1) ((l.drop 1).take (n - 3))) := Kp.mk (by rw [en]; exact h.cut 1 (n - 2) (by omega) (by omega))
 clear en
 have i1 : (2 : Int) < n := by omega
 have i2 : (n : Int) ≤ 512 := by omega
 have i3 : (n : Int) ≤ c := by omega
 have i4 : (c : Int) ≤ 9223372036854775807 := by unfold maxLen at hcm; omega
 have hd2 : l.drop (n - 2) = (l.drop (n - 2)).take (n - (n - 2)) := (List.take_of_length_le (by rw [List.length_drop]; omega)).symm
 by_cases hs : ((num ((l.drop (n - 2)).take (n - (n - 2))) : Nat) : Int) = sumP (l.take (n - 2))
 ·have hp := Kp.mk (show openP l = (((num (l.take 1) : Nat) : Int), (l.drop 1).take (n - 3), 0) by unfold openP; rw [hlen, if_neg h5, if_neg h3, hd2, hs, if_pos rfl])
  have ht : (((num ((l.drop (n - 2)).take (n - (n - 2))) : Nat) : Int) != sumP (l.take (n - 2))) = false := by rw [bne_eq_false_iff_eq]; exact hs
  clear hlen hc hcm h5 h3 hmax hd2 hs
  go_enter Tryz.func258, Tryz.ntmps258
  go_wp2_with fail
  go_quiet ((first | (go_at_call 237; exact quiet_l (number_any (hr1.out.drewN _) ((hl.drop _).take _) (by omega))) | (go_at_call 255; exact quiet_l (sum_any (hr2.out.drewN _) ((hl.drop _).take _)))))
  rename_i nq
  have hb0 : Below w.heap.size w (w.drewN nq) := below_drewN (Below.refl _ _) nq
  have hz0 : (w.drewN nq).heap.size = w.heap.size := rfl
  have H0 := Kp.mk hz0
  clear hz0
  have j1 : (1 : Int) ≤ c := by omega
  have j2 : (1 : Int) ≤ (n : Int) - 2 := by omega
  have j3 : (n : Int) - 2 ≤ c := by omega
  have j4 : (1 : Int) < c := by omega
  go_wp2_with fail
  go_region_held3 (fun w' => Below w.heap.size w w')
   (first
    | exact hb0.drew
    | exact Below.trans (by assumption) (hb1.mono (Below.size (by assumption)))
    | assumption)
   (first | (go_at_call 237; refine (number_any (hr3.out.below' (by assumption) hB) (hl.take _) (by omega)).mono ?_; rintro e w' ⟨rfl, rfl⟩) | (go_at_call 190; refine (copyOf_any 0 0 rfl (hr4.out.below' (by assumption) hB) (Nat.le_trans hB (Below.size (by assumption))) (by omega)).mono ?_; rintro e w1 ⟨A1, n1, c1, rfl, ho1, hb1⟩))
  rename_i hH
  have hoz : w.heap.size ≤ (w.drewN (nq + 1)).heap.size := Nat.le_refl _
  have ho2 := ho1.lower hoz
  clear hoz ho1 hb1
  go_wp2_with fail
  rw [hp.out]
  go_ret3
  exact ⟨A1, n1, c1, rfl, ho2, hH⟩
 ·have hp := Kp.mk (show openP l = (0, [], 30) by unfold openP; rw [hlen, if_neg h5, if_neg h3, hd2, if_neg (fun e => hs e.symm)])
  have ht : (((num ((l.drop (n - 2)).take (n - (n - 2))) : Nat) : Int) != sumP (l.take (n - 2))) = true := by rw [bne_iff_ne]; exact hs
  clear hlen hc hcm h5 h3 hmax hd2 hs
  go_enter Tryz.func258, Tryz.ntmps258
  go_wp2_with fail
  go_quiet ((first | (go_at_call 237; exact quiet_l (number_any (hr1.out.drewN _) ((hl.drop _).take _) (by omega))) | (go_at_call 255; exact quiet_l (sum_any (hr2.out.drewN _) ((hl.drop _).take _)))))
  rename_i nq
  go_wp2_with fail
  rw [hp.out]
  go_ret3
  exact TripOf.nil 0 30 w (below_drewN (Below.refl _ _) nq)
theorem num_two (l : List Int) (n : Nat) (hl : By l) (h : l.length = n) (h2 : 2 ≤ n) : ((num (l.drop (n - 2)) : Nat) : Int) = 256 * l.getD (n - 2) 0 + l.getD (n - 1) 0 := by
 have e : l.drop (n - 2) = [l.getD (n - 2) 0, l.getD (n - 1) 0] := by
  rw [List.drop_eq_getElem_cons (by omega), show n - 2 + 1 = n - 1 from by omega, List.drop_eq_getElem_cons (by omega), show n - 1 + 1 = n from by omega, List.drop_eq_nil_of_le (by omega)]
  rw [List.getD_eq_getElem?_getD, List.getD_eq_getElem?_getD, List.getElem?_eq_getElem (by omega), List.getElem?_eq_getElem (by omega)]; rfl
 have b1 := hl.getD (n - 2)
 have b2 := hl.getD (n - 1)
 rw [e]
 have e2 : num [l.getD (n - 2) 0, l.getD (n - 1) 0] = (0 * 256 + (l.getD (n - 2) 0).toNat) * 256 + (l.getD (n - 1) 0).toNat := rfl
 rw [e2]
 omega
theorem num_one (l : List Int) (hl : By l) (h : 1 ≤ l.length) : ((num (l.take 1) : Nat) : Int) = l.getD 0 0 := by
 have e : l.take 1 = [l.getD 0 0] := by
  rw [take_snoc l 0 (by omega)]; rfl
 have b1 := hl.getD 0
 rw [e]
 have e2 : num [l.getD 0 0] = 0 * 256 + (l.getD 0 0).toNat := rfl
 rw [e2]
 omega
theorem stepN_xor (a b : Nat) (ha : a < 65536) (hb : b < 65536) : stepN (a ^^^ b) = stepN a ^^^ stepN b := by
 unfold stepN
 have h1 : 2 * (a ^^^ b) = (2 * a) ^^^ (2 * b) := by
  have := Nat.shiftLeft_xor_distrib (a := a) (b := b) (i := 1)
  simpa [Nat.shiftLeft_eq, Nat.mul_comm] using this
 have h2 : (2 * (a ^^^ b)) % 65536 = (2 * a % 65536) ^^^ (2 * b % 65536) := by
  rw [h1]; exact Nat.xor_mod_two_pow (n := 16)
 have h3 : (a ^^^ b) / 32768 = (a / 32768) ^^^ (b / 32768) := by
  have := Nat.shiftRight_xor_distrib (a := a) (b := b) (i := 15)
  simpa [Nat.shiftRight_eq_div_pow] using this
 rw [h2, h3]
 have ca : a / 32768 = 0 ∨ a / 32768 = 1 := by omega
 have cb : b / 32768 = 0 ∨ b / 32768 = 1 := by omega
 have h4 : ((a / 32768) ^^^ (b / 32768)) * 4129 = (a / 32768 * 4129) ^^^ (b / 32768 * 4129) := by
  rcases ca with e | e <;> rcases cb with e' | e' <;> rw [e, e'] <;> rfl
 rw [h4]
 ac_rfl
theorem stepK_xor : ∀ (k a b : Nat), a < 65536 → b < 65536 → stepK k (a ^^^ b) = stepK k a ^^^ stepK k b
 | 0, _, _, _, _ => rfl
 | k + 1, a, b, ha, hb => by
  show stepK k (stepN (a ^^^ b)) = stepK k (stepN a) ^^^ stepK k (stepN b)
  rw [stepN_xor a b ha hb, stepK_xor k _ _ (stepN_lt a ha) (stepN_lt b hb)]
theorem stepN_zero : stepN 0 = 0 := by decide
theorem stepK_zero : ∀ k, stepK k 0 = 0
 | 0 => rfl
 | k + 1 => by show stepK k (stepN 0) = 0; rw [stepN_zero, stepK_zero k]
theorem xor_zero_iff (a b : Nat) : a ^^^ b = 0 ↔ a = b := by
 constructor
 ·intro h
  have : (a ^^^ b) ^^^ b = 0 ^^^ b := by rw [h]
  rwa [Nat.xor_assoc, Nat.xor_self, Nat.xor_zero, Nat.zero_xor] at this
 ·intro h; subst h; exact Nat.xor_self _
theorem stepN_inj (s : Nat) (h : s < 65536) (h0 : stepN s = 0) : s = 0 := by
 by_cases hs : s < 32768
 ·have e : s / 32768 = 0 := by clear h0; omega
  have e2 : 2 * s % 65536 = 2 * s := Nat.mod_eq_of_lt (by clear h0; omega)
  have h1 := (xor_zero_iff _ _).1 h0
  rw [e, e2] at h1
  clear h0
  omega
 ·have e : s / 32768 = 1 := by clear h0; omega
  have e2 : 2 * s % 65536 = 2 * s - 65536 := by clear h0; omega
  have h1 := (xor_zero_iff _ _).1 h0
  rw [e, e2] at h1
  clear h0
  omega
theorem stepK_inj : ∀ (k s : Nat), s < 65536 → stepK k s = 0 → s = 0
 | 0, _, _, h => h
 | k + 1, s, h, h0 => stepN_inj s h (stepK_inj k (stepN s) (stepN_lt s h) (show stepK k (stepN s) = 0 from h0))
theorem stepN_lo (s : Nat) (h : s < 32768) : stepN s = 2 * s := by
 unfold stepN
 rw [show s / 32768 = 0 from by omega, Nat.mod_eq_of_lt (by omega)]; simp
theorem stepK_shift : ∀ (k s : Nat), s * 2 ^ k < 65536 → stepK k s = s * 2 ^ k
 | 0, s, _ => by simp [stepK]
 | k + 1, s, h => by
  have hp : 0 < 2 ^ k := Nat.two_pow_pos k
  have e : s * 2 ^ (k + 1) = 2 * s * 2 ^ k := by rw [Nat.pow_succ]; ac_rfl
  rw [e] at h ⊢
  have hs : s < 32768 := by
   have := Nat.le_mul_of_pos_right (2 * s) hp
   omega
  show stepK k (stepN s) = _
  rw [stepN_lo s hs]
  exact stepK_shift k (2 * s) h
theorem join_xor (V d x : Nat) (hx : x < 2 ^ d) : V * 2 ^ d + x = (V * 2 ^ d) ^^^ x := by
 have h0 : (V * 2 ^ d) &&& x = 0 := by
  apply Nat.eq_of_testBit_eq
  intro i
  rw [Nat.testBit_and, Nat.zero_testBit, Nat.mul_comm, Nat.testBit_two_pow_mul]
  by_cases hi : i < d
  ·simp; intro h; omega
  ·have : x.testBit i = false := Nat.testBit_lt_two_pow (Nat.lt_of_lt_of_le hx (Nat.pow_le_pow_right (by omega) (by omega)))
   simp [this]
 rw [← nat_join d (V * 2 ^ d) x (by simp) hx]
 apply Nat.eq_of_testBit_eq
 intro i
 have := congrArg (fun n => n.testBit i) h0
 simp only [Nat.testBit_and, Nat.zero_testBit] at this
 rw [Nat.testBit_or, Nat.testBit_xor]
 cases h1 : (V * 2 ^ d).testBit i <;> cases h2 : x.testBit i <;> simp_all
theorem residue (t : List Int) (hi lo : Int) (ht : By t) (h1 : 0 ≤ hi ∧ hi < 256) (h2 : 0 ≤ lo ∧ lo < 256) : crcN 65535 (t ++ [hi, lo]) = 0 ↔ crcN 65535 t = hi.toNat * 256 + lo.toNat := by
 have hS := crcN_lt t 65535 (by omega) ht
 have hx := byte_lt (crcN 65535 t) hi hS h1
 have e0 : crcN 65535 (t ++ [hi, lo]) = crcByte (crcByte (crcN 65535 t) hi) lo := by
  rw [show t ++ [hi, lo] = (t ++ [hi]) ++ [lo] from by simp, crcN_snoc, crcN_snoc]
 have hX := crcByte_lt (crcN 65535 t) hi hS h1
 have e1 : crcByte (crcByte (crcN 65535 t) hi) lo = 0 ↔ crcByte (crcN 65535 t) hi = lo.toNat * 256 := by
  have hlt := byte_lt (crcByte (crcN 65535 t) hi) lo hX h2
  constructor
  ·intro h
   exact (xor_zero_iff _ _).1 (stepK_inj 8 _ hlt h)
  ·intro h
   show stepK 8 (crcByte (crcN 65535 t) hi ^^^ (lo.toNat * 256)) = 0
   rw [h, Nat.xor_self, stepK_zero]
 have e2 : stepK 8 lo.toNat = lo.toNat * 256 := stepK_shift 8 lo.toNat (by omega)
 have e3 : crcByte (crcN 65535 t) hi = lo.toNat * 256 ↔ (crcN 65535 t ^^^ (hi.toNat * 256)) = lo.toNat := by
  rw [← e2]
  unfold crcByte
  constructor
  ·intro h
   have h3 : stepK 8 ((crcN 65535 t ^^^ (hi.toNat * 256)) ^^^ lo.toNat) = 0 := by
    rw [stepK_xor _ _ _ hx (by omega), h, Nat.xor_self]
   exact (xor_zero_iff _ _).1 (stepK_inj 8 _ (Nat.xor_lt_two_pow (n := 16) hx (by omega)) h3)
  ·intro h; rw [h]
 have e4 : hi.toNat * 256 + lo.toNat = (hi.toNat * 256) ^^^ lo.toNat := join_xor hi.toNat 8 lo.toNat (by omega)
 rw [e0, e1, e3, e4]
 constructor
 ·intro h
  rw [← h, ← Nat.xor_assoc, Nat.xor_comm (hi.toNat * 256), Nat.xor_assoc, Nat.xor_self, Nat.xor_zero]
 ·intro h
  rw [h, Nat.xor_comm (hi.toNat * 256), Nat.xor_assoc, Nat.xor_self, Nat.xor_zero]
theorem alloc_size (w : World) (o : Obj) : (w.alloc o).heap.size = w.heap.size + 1 := by simp
theorem Rd.pre {k : IntKind} {w : World} {B n c : Nat} {A : Option Addr} {l : List Int} (h : Rd k w B A n c l) (m : Nat) (hm : m ≤ n) : Rd k w B A m c (l.take m) := by
 refine ⟨by rw [List.length_take]; have := h.len; omega, by have := h.le; omega, h.cap, h.2.2.2.1, fun h0 => ?_⟩
 obtain ⟨b, off, e, hb, hc⟩ := h.at_ (by omega)
 refine ⟨b, off, e, hb, fun j hj => ?_⟩
 rw [hc j (by omega), List.getD_eq_getElem?_getD, List.getD_eq_getElem?_getD, List.getElem?_take_of_lt hj]
theorem By.set {l : List Int} (h : By l) (j : Nat) {x : Int} (hx : 0 ≤ x ∧ x < 256) : By (l.set j x) := fun z hz => by
 rcases List.mem_or_eq_of_mem_set hz with h1 | rfl
 ·exact h z h1
 ·exact hx
theorem openP_by (l : List Int) (h : By l) : By (openP l).2.1 := by
 unfold openP
 split
 ·exact By.nil
 ·split
  ·exact By.nil
  ·split
   ·exact (h.drop _).take _
   ·exact By.nil
theorem seal_ok (kind : Int) (l : List Int) (hk : 0 ≤ kind ∧ kind < 256) (hn : l.length ≤ 509) : sealP kind l = (dg 1 kind ++ l ++ dg 2 (sumP (dg 1 kind ++ l)), 0) := by
 unfold sealP; rw [if_pos hk, if_neg (by omega)]
theorem dg_one (k : Int) (hk : 0 ≤ k ∧ k < 256) : dg 1 k = [k] := by simp [dg]; omega
theorem dg_two (s : Int) (hs : 0 ≤ s ∧ s < 65536) : dg 2 s = [s / 256, s % 256] := by simp [dg]; omega
def frm (kind : Int) (l : List Int) : List Int := (kind :: l) ++ [sumP (kind :: l) / 256, sumP (kind :: l) % 256]
theorem seal_frm (kind : Int) (l : List Int) (hk : 0 ≤ kind ∧ kind < 256) (hl : By l) (hn : l.length ≤ 509) : sealP kind l = (frm kind l, 0) := by
 have hby : By (kind :: l) := By.cons hk hl
 rw [seal_ok kind l hk hn, dg_one kind hk]
 show ([kind] ++ l ++ dg 2 (sumP ([kind] ++ l)), 0) = _
 rw [show [kind] ++ l = kind :: l from rfl, dg_two _ (sumP_bd _ hby)]
 rfl
theorem frm_by (kind : Int) (l : List Int) (hk : 0 ≤ kind ∧ kind < 256) (hl : By l) : By (frm kind l) := by
 have hby : By (kind :: l) := By.cons hk hl
 have hs := sumP_bd _ hby
 exact hby.append (By.cons (by omega) (By.cons (by omega) By.nil))
theorem frm_len (kind : Int) (l : List Int) : (frm kind l).length = l.length + 3 := by simp [frm]
theorem frm_zero (kind : Int) (l : List Int) (hk : 0 ≤ kind ∧ kind < 256) (hl : By l) : crcN 65535 (frm kind l) = 0 := by
 have hby : By (kind :: l) := By.cons hk hl
 have hs := sumP_bd _ hby
 refine (residue (kind :: l) _ _ hby (by omega) (by omega)).2 ?_
 have : sumP (kind :: l) = (crcN 65535 (kind :: l) : Nat) := rfl
 omega
theorem open_err (l : List Int) (hl : By l) (h3 : 3 ≤ l.length) (h5 : l.length ≤ 512) : (openP l).2.2 = if crcN 65535 l = 0 then 0 else 30 := by
 have hn := num_two l l.length hl rfl (by omega)
 have e : l = l.take (l.length - 2) ++ [l.getD (l.length - 2) 0, l.getD (l.length - 1) 0] := by
  have e1 : l.drop (l.length - 2) = [l.getD (l.length - 2) 0, l.getD (l.length - 1) 0] := by
   rw [List.drop_eq_getElem_cons (by omega), show l.length - 2 + 1 = l.length - 1 from by omega, List.drop_eq_getElem_cons (by omega), show l.length - 1 + 1 = l.length from by omega, List.drop_eq_nil_of_le (by omega)]
   rw [List.getD_eq_getElem?_getD, List.getD_eq_getElem?_getD, List.getElem?_eq_getElem (by omega), List.getElem?_eq_getElem (by omega)]; rfl
  rw [← e1, List.take_append_drop]
 have b1 := hl.getD (l.length - 2)
 have b2 := hl.getD (l.length - 1)
 have hr := residue (l.take (l.length - 2)) _ _ (hl.take _) b1 b2
 rw [← e] at hr
 unfold openP
 rw [if_neg (by omega), if_neg (by omega), hn]
 have hs : sumP (l.take (l.length - 2)) = (crcN 65535 (l.take (l.length - 2)) : Nat) := rfl
 by_cases h : crcN 65535 l = 0
 ·have := hr.1 h
  rw [if_pos h, if_pos (by omega)]
 ·rw [if_neg h, if_neg (fun e2 => h (hr.2 (by omega)))]
theorem open_frm (kind : Int) (l : List Int) (hk : 0 ≤ kind ∧ kind < 256) (hl : By l) (hn : l.length ≤ 509) : openP (frm kind l) = (kind, l, 0) := by
 have hby := frm_by kind l hk hl
 have hlen := frm_len kind l
 have herr := open_err (frm kind l) hby (by omega) (by omega)
 rw [if_pos (frm_zero kind l hk hl)] at herr
 have hn1 := num_one (frm kind l) hby (by omega)
 unfold openP at herr ⊢
 rw [if_neg (by omega), if_neg (by omega)] at herr ⊢
 split at herr
 ·rename_i h
  rw [if_pos h, hn1, hlen]
  have e1 : (frm kind l).getD 0 0 = kind := rfl
  have e2 : ((frm kind l).drop 1).take (l.length + 3 - 3) = l := by
   show (l ++ [sumP (kind :: l) / 256, sumP (kind :: l) % 256]).take (l.length + 3 - 3) = l
   rw [show l.length + 3 - 3 = l.length from by omega, List.take_left']
   rfl
  rw [e1, e2]
 ·simp at herr
def Rdr (T : TypeId) (w : World) (lo g : Nat) (l : List Int) (e : Int) : Prop :=
 ∃ A n c, w.heap[g]? = some (.cells #[.slice A n c, .int .i64 e] T (0, 0)) ∧ lo ≤ g ∧ Rd .u8 w g A n c l ∧ (0 < n → ∀ a, A = some a → lo ≤ a.block) ∧ By l ∧ (e ≠ 0 → l = [])
section
variable {T : TypeId} {w w' : World} {lo g : Nat} {l : List Int} {e : Int}
theorem Rdr.by_ (h : Rdr T w lo g l e) : By l := by obtain ⟨_, _, _, _, _, _, _, h1, _⟩ := h; exact h1
theorem Rdr.lt (h : Rdr T w lo g l e) : g < w.heap.size := by
 obtain ⟨A, n, c, hg, _⟩ := h
 exact (Array.getElem?_eq_some_iff.1 hg).1
theorem Rdr.keep (h : Rdr T w lo g l e) {row : Option Nat} (hg : w.grownBy w' row) (hr : ∀ k, row = some k → k < lo ∨ g < k) : Rdr T w' lo g l e := by
 have hlt := h.lt
 obtain ⟨A, n, c, hc, hlo, hrd, hb, hl, he⟩ := h
 have key : ∀ k, lo ≤ k → k ≤ g → w'.heap[k]? = w.heap[k]? := fun k h1 h2 => hg.block k (by omega) (fun e => by have := hr k e.symm; omega)
 refine ⟨A, n, c, (key g hlo (Nat.le_refl _)).trans hc, hlo, ?_, hb, hl, he⟩
 refine ⟨hrd.1, hrd.2.1, hrd.2.2.1, hrd.2.2.2.1, fun hn => ?_⟩
 obtain ⟨b, off, ea, hbg, hcell⟩ := hrd.at_ hn
 refine ⟨b, off, ea, hbg, fun j hj => ?_⟩
 rw [World.cell?_of_block (w := w) (a := ⟨b, off + j, none⟩) (key b (hb hn _ ea) (by omega))]
 exact hcell j hj
theorem Rdr.below (h : Rdr T w lo g l e) (hb : Below w.heap.size w w') : Rdr T w' lo g l e := h.keep (grown_of_below hb none) (fun k e => by simp at e)
theorem Rdr.cells (h : Rdr T w lo g l e) : ∃ A n c, l.length = n ∧ Rd .u8 w g A n c l ∧ w.cell? ⟨g, 0, none⟩ = some (.slice A n c) ∧ w.cell? ⟨g, 1, none⟩ = some (.int .i64 e) ∧ w.frozen? ⟨g, 0, none⟩ = false ∧ w.frozen? ⟨g, 1, none⟩ = false := by
 obtain ⟨A, n, c, hc, hlo, hrd, hb, hl, he⟩ := h
 refine ⟨A, n, c, hrd.len, hrd, ?_, ?_, ?_, ?_⟩ <;> simp [World.cell?, World.frozen?, hc]
theorem Rdr.failed (h : Rdr T w lo g l e) (e' : Int) (hw : w'.heap[g]? = some (.cells #[.slice none 0 0, .int .i64 e'] T (0, 0))) : Rdr T w' lo g [] e' := by
 obtain ⟨A, n, c, hc, hlo, hrd, hb, hl, he⟩ := h
 exact ⟨none, 0, 0, hw, hlo, Rd.nil _ _ _, fun h => absurd h (by omega), By.nil, fun _ => rfl⟩
theorem heap_set {A : Option Addr} {n c : Nat} (h : w.heap[g]? = some (.cells #[.slice A n c, .int .i64 e] T (0, 0))) (u : Value) : (w.setCell ⟨g, 0, none⟩ u).heap[g]? = some (.cells #[u, .int .i64 e] T (0, 0)) := by
 simp [World.setCell, Array.getElem?_modify, h]
theorem heap_set2 {x y : Value} (h : w.heap[g]? = some (.cells #[x, y] T (0, 0))) (u v : Value) : ((w.setCell ⟨g, 0, none⟩ u).setCell ⟨g, 1, none⟩ v).heap[g]? = some (.cells #[u, v] T (0, 0)) := by
 simp [World.setCell, Array.getElem?_modify, h]
end
theorem grown_trans2 {a b c : World} {g : Nat} (h : a.grownBy b (some g)) (k : b.grownBy c (some g)) : a.grownBy c (some g) :=
 ⟨k.os.trans h.os, k.tape.trans h.tape, k.output.trans h.output, Nat.le_trans h.size k.size, fun i hi hne => (k.block i (Nat.lt_of_lt_of_le hi h.size) hne).trans (h.block i hi hne)⟩
def numR (s : Int) (l : List Int) (e : Int) : Int × List Int × Int :=
 if e ≠ 0 then (0, l, e) else if s = 1 ∨ s = 2 ∨ s = 4 then (if l.length < s.toNat then (0, [], 3) else ((num (l.take s.toNat) : Nat), l.drop s.toNat, 0)) else (0, [], 2)
def textR (l : List Int) (e : Int) : List Int × List Int × Int :=
 if (numR 2 l e).2.2 ≠ 0 then ([], (numR 2 l e).2) else
 if (numR 2 l e).2.1.length < (numR 2 l e).1.toNat then ([], [], 3) else ((numR 2 l e).2.1.take (numR 2 l e).1.toNat, (numR 2 l e).2.1.drop (numR 2 l e).1.toNat, 0)
def IntRdr (T : TypeId) (w : World) (lo g : Nat) (v : Int) (l : List Int) (e : Int) (en : Ending) (w' : World) : Prop :=
 en = .returned (.int .i64 v) ∧ Rdr T w' lo g l e ∧ w.grownBy w' (some g)
def SliceRdr (T : TypeId) (w : World) (lo g : Nat) (t : List Int) (l : List Int) (e : Int) (en : Ending) (w' : World) : Prop :=
 ∃ A n c, en = .returned (.slice A n c) ∧ Own w' w.heap.size (.slice A n c) n t ∧ Rdr T w' lo g l e ∧ w.grownBy w' (some g)
theorem Rdr.drop_ {T : TypeId} {w : World} {lo g : Nat} {l : List Int} {e : Int} {A : Option Addr} {n c k : Nat} {A' : Option Addr}
  (hlo : lo ≤ g) (hrd : Rd .u8 w g A n c l) (hb : 0 < n → ∀ a, A = some a → lo ≤ a.block) (hl : By l) (he : e ≠ 0 → l = []) (hk : k ≤ n) (hc : w.heap[g]? = some (.cells #[.slice A n c, .int .i64 e] T (0, 0)))
  (hA : A' = if c = k then A else A.map (fun x => x.add k)) : Rdr T (w.setCell ⟨g, 0, none⟩ (.slice A' (n - k) (c - k))) lo g (l.drop k) e := by
 have hne : ∀ b, b < g → ∀ o, (w.setCell ⟨g, 0, none⟩ (.slice A' (n - k) (c - k))).cell? ⟨b, o, none⟩ = w.cell? ⟨b, o, none⟩ := fun b hb' o =>
  World.cell?_of_block (Below.heap_setCell _ _ _ _ (by simp; omega))
 have hle := hrd.le
 refine ⟨A', n - k, c - k, heap_set hc _, hlo, ⟨by rw [List.length_drop, hrd.len], by omega, by have := hrd.cap; omega, fun h => ?_, fun hn => ?_⟩, fun hn a ha => ?_, hl.drop _, fun h => by rw [he h]; simp⟩
 ·subst hA
  split at h
  ·have := hrd.2.2.2.1 h; omega
  ·cases A with
   | none => have := hrd.2.2.2.1 rfl; omega
   | some a => simp at h
 ·obtain ⟨b, off, e, hbg, hcell⟩ := hrd.at_ (by omega)
  subst e
  rw [if_neg (by omega)] at hA
  refine ⟨b, off + k, by rw [hA, Option.map_some, add_addr], hbg, fun j hj => ?_⟩
  rw [hne b hbg, Nat.add_assoc, hcell (k + j) (by omega), List.getD_eq_getElem?_getD, List.getD_eq_getElem?_getD, List.getElem?_drop]
 ·obtain ⟨b, off, e, hbg, hcell⟩ := hrd.at_ (by omega)
  subst e
  rw [if_neg (by omega), Option.map_some, add_addr] at hA
  have := hb (by omega) _ rfl
  rw [hA] at ha
  simp at ha
  rw [← ha]; exact this
def err1 (e x : Int) : Int := if e = 0 then x else e
theorem err1_0 (x : Int) : err1 0 x = x := rfl
theorem err1_ne {e : Int} (x : Int) (h : e ≠ 0) : err1 e x = e := if_neg h
def TakeOk (T : TypeId) (w : World) (lo g : Nat) (t : List Int) (l : List Int) (e : Int) (en : Ending) (w' : World) : Prop :=
 ∃ A n c, en = .returned (.slice A n c) ∧ Rd .u8 w' g A n c t ∧ Rdr T w' lo g l e ∧ w.grownBy w' (some g)
section
variable {w : World} {lo g : Nat} {l : List Int} {e : Int}
theorem fail_any (x : Int) (h : Rdr 274 w lo g l e) :
  Calls Tryz.prog 236 #[.pointer (some ⟨g, 0, none⟩), .int .i64 x] w fun en w' => en = .returned (.tuple #[]) ∧ Rdr 274 w' lo g [] (err1 e x) ∧ w.grownBy w' (some g) := by
 have h0 := h
 obtain ⟨A, n, c, hc, hlo, hrd, hb, hl, he⟩ := h
 obtain ⟨A', n', c', _, _, k0, k1, f0, f1⟩ := h0.cells
 by_cases hz : e = 0
 ·subst hz
  rw [err1_0]
  have H0 := Kp.mk h0
  have HC := Kp.mk hc
  clear h0 hc he hb
  go_enter Tryz.func236, Tryz.ntmps236
  go_wp2_with fail
  go_end0
  exact ⟨rfl, H0.out.failed x (heap_set2 HC.out _ _), grown_trans2 (grownBy_set _ _ _ _) (grownBy_set _ _ _ _)⟩
 ·rw [err1_ne _ hz]
  have hz' : (e == 0) = false := by simpa using hz
  have hl0 := he hz
  rw [hl0] at h0
  have H0 := Kp.mk h0
  clear h0 hc he hb hl0 hz
  go_enter Tryz.func236, Tryz.ntmps236
  go_wp2_with fail
  go_end0
  exact ⟨rfl, H0.out, World.grownBy.refl _ _⟩
theorem take_ok (k : Nat) (hk : k ≤ l.length) (h : Rdr 274 w lo g l e) :
  Calls Tryz.prog 238 #[.pointer (some ⟨g, 0, none⟩), .int .i64 k] w (TakeOk 274 w lo g (l.take k) (l.drop k) e) := by
 have h0 := h
 obtain ⟨A, n, c, hc, hlo, hrd, hb, hl, he⟩ := h
 have hn := hrd.len
 have c0 : w.cell? ⟨g, 0, none⟩ = some (.slice A n c) := by simp [World.cell?, hc]
 have f0 : w.frozen? ⟨g, 0, none⟩ = false := by simp [World.frozen?, hc]
 have i1 : (k : Int) ≤ n := by omega
 have i2 : (n : Int) ≤ c := by have := hrd.le; omega
 have i3 : (c : Int) ≤ 9223372036854775807 := by have := hrd.cap; unfold maxLen at this; omega
 have hnk : ¬ n < k := by omega
 have hr1 := Kp.mk (hrd.pre k (by omega))
 have key : Kp (∀ A' : Option Addr, (A' = if c = k then A else A.map (fun x => x.add k)) → Rdr 274 (w.setCell ⟨g, 0, none⟩ (.slice A' (n - k) (c - k))) lo g (l.drop k) e) :=
  Kp.mk (fun A' hA => Rdr.drop_ hlo hrd hb hl he (by omega) hc hA)
 have hkeep : Kp (∀ u, Rd .u8 (w.setCell ⟨g, 0, none⟩ u) g A k c (l.take k)) := Kp.mk (fun u => hr1.out.keep fun b o hb' => World.cell?_of_block (Below.heap_setCell _ _ _ _ (by simp; omega)))
 have hg := Kp.mk (fun u => grownBy_set w g 0 u)
 clear h0 hc hlo hrd hb hl he hn hk
 by_cases hck : c = k
 ·subst hck
  have key2 := Kp.mk (key.out A (by rw [if_pos rfl]))
  clear key
  go_enter Tryz.func238, Tryz.ntmps238
  go_wp2_with fail
  go_ret
  refine ⟨A, c, c, rfl, hkeep.out _, ?_, hg.out _⟩
  have := key2.out
  rw [Nat.sub_self] at this
  exact this
 ·have key2 := Kp.mk (key.out _ (if_neg hck).symm)
  clear key
  go_enter Tryz.func238, Tryz.ntmps238
  go_wp2_with fail
  go_ret
  exact ⟨A, k, c, rfl, hkeep.out _, key2.out, hg.out _⟩
theorem take_few (k : Nat) (hk : l.length < k) (hR : Rdr 274 w lo g l e) :
  Calls Tryz.prog 238 #[.pointer (some ⟨g, 0, none⟩), .int .i64 k] w (TakeOk 274 w lo g [] [] (err1 e 3)) := by
 obtain ⟨A, n, c, hn, hrd, c0, _, f0, _⟩ := hR.cells
 have i1 : (n : Int) < k := by omega
 have hnk : n < k := by omega
 clear hn hk hrd
 go_enter Tryz.func238, Tryz.ntmps238
 go_wp2_with fail
 refine (fail_any 3 hR).mono ?_
 rintro en w1 ⟨rfl, h1, hg1⟩
 go_wp2_with fail
 go_ret
 exact ⟨none, 0, 0, rfl, Rd.nil _ _ _, h1, hg1⟩
theorem num_any (s : Int) (h : Rdr 274 w lo g l e) :
  Calls Tryz.prog 207 #[.pointer (some ⟨g, 0, none⟩), .int .i64 s] w (IntRdr 274 w lo g (numR s l e).1 (numR s l e).2.1 (numR s l e).2.2) := by
 have hby := h.by_
 have he0 : e ≠ 0 → l = [] := by obtain ⟨_, _, _, _, _, _, _, _, he⟩ := h; exact he
 by_cases hs : s = 1 ∨ s = 2 ∨ s = 4
 ·obtain ⟨t, rfl⟩ : ∃ t : Nat, s = t := ⟨s.toNat, by omega⟩
  have hd := Kp.mk (show decide ((t : Int) = 1 ∨ (t : Int) = 2 ∨ (t : Int) = 4) = true by simpa using hs)
  by_cases hl : l.length < t
  ·have hp := Kp.mk (show numR t l e = (0, [], err1 e 3) by
    unfold numR
    by_cases hz : e = 0
    ·subst hz; rw [if_neg (by simp), if_pos hs, Int.toNat_natCast, if_pos hl]; rfl
    ·rw [if_pos hz, he0 hz, err1_ne _ hz])
   clear hs he0
   go_enter Tryz.func207, Tryz.ntmps207
   go_wp2_with fail
   refine (isSize_any _ _).mono ?_
   rw [hd.out]
   rintro en w' ⟨rfl, rfl⟩
   go_wp2_with fail
   refine (take_few t hl h).mono ?_
   rintro en w1 ⟨A1, n1, c1, rfl, r1, h1, hg1⟩
   have hn1 := r1.len
   simp at hn1
   go_wp2_with fail
   refine (number_any r1 By.nil (by omega)).mono ?_
   rintro en w' ⟨rfl, rfl⟩
   go_wp2_with fail
   rw [hp.out]
   go_ret
   exact ⟨rfl, h1, hg1⟩
  ·have hz : e = 0 := by
    by_cases hz : e = 0
    ·exact hz
    ·have := he0 hz; subst this; simp at hl; omega
   subst hz
   have hp := Kp.mk (show numR t l 0 = (((num (l.take t) : Nat) : Int), l.drop t, 0) by
    unfold numR
    rw [if_neg (by simp), if_pos hs, Int.toNat_natCast, if_neg hl])
   have ht4 : t ≤ 4 := by omega
   clear hs he0
   go_enter Tryz.func207, Tryz.ntmps207
   go_wp2_with fail
   refine (isSize_any _ _).mono ?_
   rw [hd.out]
   rintro en w' ⟨rfl, rfl⟩
   go_wp2_with fail
   refine (take_ok t (by omega) h).mono ?_
   rintro en w1 ⟨A1, n1, c1, rfl, r1, h1, hg1⟩
   have hn1 := r1.len
   rw [List.length_take] at hn1
   have hn4 : n1 ≤ 4 := by omega
   clear hn1
   go_wp2_with fail
   refine (number_any r1 (hby.take _) hn4).mono ?_
   rintro en w' ⟨rfl, rfl⟩
   go_wp2_with fail
   rw [hp.out]
   go_ret
   exact ⟨rfl, h1, hg1⟩
 ·have hd := Kp.mk (show decide (s = 1 ∨ s = 2 ∨ s = 4) = false by simpa using hs)
  have hp := Kp.mk (show numR s l e = (0, [], err1 e 2) by
   unfold numR
   by_cases hz : e = 0
   ·subst hz; rw [if_neg (by simp), if_neg hs]; rfl
   ·rw [if_pos hz, he0 hz, err1_ne _ hz])
  clear hs he0
  go_enter Tryz.func207, Tryz.ntmps207
  go_wp2_with fail
  refine (isSize_any _ _).mono ?_
  rw [hd.out]
  rintro en w' ⟨rfl, rfl⟩
  go_wp2_with fail
  refine (fail_any 2 h).mono ?_
  rintro en w1 ⟨rfl, h1, hg1⟩
  go_wp2_with fail
  rw [hp.out]
  go_ret
  exact ⟨rfl, h1, hg1⟩
end
theorem numR_by (s : Int) (l : List Int) (e : Int) (h : By l) : By (numR s l e).2.1 := by
 unfold numR
 split
 ·exact h
 ·split
  ·split
   ·exact By.nil
   ·exact h.drop _
  ·exact By.nil
theorem numR_2 (l : List Int) (e : Int) (h : By l) (he : e ≠ 0 → l = []) : ∃ v : Nat, (numR 2 l e).1 = v ∧ v < 65536 ∧ ((numR 2 l e).2.2 ≠ 0 → v = 0 ∧ (numR 2 l e).2.1 = []) := by
 unfold numR
 by_cases hz : e = 0
 ·subst hz
  rw [if_neg (by simp), if_pos (by omega)]
  by_cases hl : l.length < (2 : Int).toNat
  ·rw [if_pos hl]; exact ⟨0, rfl, by omega, fun _ => ⟨rfl, rfl⟩⟩
  ·rw [if_neg hl]
   refine ⟨_, rfl, ?_, fun h => absurd rfl h⟩
   have := num_lt (l.take (2 : Int).toNat) (h.take _)
   have h2 : (l.take (2 : Int).toNat).length = 2 := by rw [List.length_take]; simp at hl ⊢; omega
   rw [h2] at this
   omega
 ·rw [if_pos hz]; exact ⟨0, rfl, by omega, fun _ => ⟨rfl, he hz⟩⟩
theorem textR_yes (l : List Int) (e : Int) (v : Nat) (l1 : List Int) (e1 : Int) (hn : numR 2 l e = ((v : Int), l1, e1)) (hz : e1 ≠ 0 → v = 0 ∧ l1 = []) (hv : v ≤ l1.length) : textR l e = (l1.take v, l1.drop v, e1) := by
 unfold textR
 rw [hn]
 by_cases h : e1 = 0
 ·subst h; simp; omega
 ·obtain ⟨rfl, rfl⟩ := hz h; simp [h]
theorem textR_no (l : List Int) (e : Int) (v : Nat) (l1 : List Int) (e1 : Int) (hn : numR 2 l e = ((v : Int), l1, e1)) (hz : e1 ≠ 0 → v = 0 ∧ l1 = []) (hv : l1.length < v) : e1 = 0 ∧ textR l e = ([], [], 3) := by
 have h : e1 = 0 := by
  by_cases h : e1 = 0
  ·exact h
  ·obtain ⟨rfl, rfl⟩ := hz h; simp at hv
 subst h
 unfold textR
 rw [hn]
 simp; omega
theorem textR_by (l : List Int) (e : Int) (h : By l) : By (textR l e).1 := by
 unfold textR
 split
 ·exact By.nil
 ·split
  ·exact By.nil
  ·exact (numR_by _ _ _ h).take _
section
variable {w : World} {lo g : Nat} {l : List Int} {e : Int}
theorem Rdr.ez {T : TypeId} (h : Rdr T w lo g l e) : e ≠ 0 → l = [] := by obtain ⟨_, _, _, _, _, _, _, _, he⟩ := h; exact he
theorem textM_any (h : Rdr 274 w lo g l e) :
  Calls Tryz.prog 241 #[.pointer (some ⟨g, 0, none⟩)] w (SliceRdr 274 w lo g (textR l e).1 (textR l e).2.1 (textR l e).2.2) := by
 obtain ⟨v, hv, hv2, hz⟩ := numR_2 l e h.by_ h.ez
 obtain ⟨l1, hl1⟩ : ∃ l1, (numR 2 l e).2.1 = l1 := ⟨_, rfl⟩
 obtain ⟨e1, he1⟩ : ∃ e1, (numR 2 l e).2.2 = e1 := ⟨_, rfl⟩
 have hnum := Kp.mk (show numR 2 l e = ((v : Int), l1, e1) by rw [← hv, ← hl1, ← he1])
 rw [hl1, he1] at hz
 by_cases hle : v ≤ l1.length
 ·have ht := Kp.mk (textR_yes l e v l1 e1 hnum.out hz hle)
  clear hv hl1 he1 hz
  go_enter Tryz.func241, Tryz.ntmps241
  go_wp2_with fail
  refine (num_any 2 h).mono ?_
  rw [hnum.out]
  rintro en w1 ⟨rfl, h1, hg1⟩
  go_wp2_with fail
  refine (take_ok v hle h1).mono ?_
  rintro en w2 ⟨A2, n2, c2, rfl, r2, h2, hg2⟩
  have hz2 := Nat.le_trans hg1.size hg2.size
  have hlt := h2.lt
  have hn2 := r2.len
  rw [List.length_take] at hn2
  go_wp2_with fail
  refine (copyOf_any 0 0 rfl r2 (by omega) (by omega)).mono ?_
  rintro en w3 ⟨A3, n3, c3, rfl, ho3, hb3⟩
  go_wp2_with fail
  rw [ht.out]
  go_ret
  exact ⟨A3, n3, c3, rfl, ho3.lower hz2, h2.below hb3, grown_trans2 (grown_trans2 hg1 hg2) (grown_of_below hb3 _)⟩
 ·obtain ⟨he0, ht'⟩ := textR_no l e v l1 e1 hnum.out hz (by omega)
  have ht := Kp.mk ht'
  subst he0
  clear hv hl1 he1 hz ht'
  go_enter Tryz.func241, Tryz.ntmps241
  go_wp2_with fail
  refine (num_any 2 h).mono ?_
  rw [hnum.out]
  rintro en w1 ⟨rfl, h1, hg1⟩
  go_wp2_with fail
  refine (take_few v (by omega) h1).mono ?_
  rintro en w2 ⟨A2, n2, c2, rfl, r2, h2, hg2⟩
  have hz2 := Nat.le_trans hg1.size hg2.size
  have hlt := h2.lt
  have hn2 := r2.len
  simp at hn2
  go_wp2_with fail
  refine (copyOf_any 0 0 rfl r2 (by omega) (by omega)).mono ?_
  rintro en w3 ⟨A3, n3, c3, rfl, ho3, hb3⟩
  go_wp2_with fail
  rw [ht.out]
  go_ret
  exact ⟨A3, n3, c3, rfl, ho3.lower hz2, h2.below hb3, grown_trans2 (grown_trans2 hg1 hg2) (grown_of_below hb3 _)⟩
theorem leftM_any (h : Rdr 274 w lo g l e) :
  Calls Tryz.prog 242 #[.pointer (some ⟨g, 0, none⟩)] w fun en w' => en = .returned (.int .i64 (l.length : Nat)) ∧ w = w' := by
 obtain ⟨A, n, c, hn, hrd, c0, _, f0, _⟩ := h.cells
 have Hn := Kp.mk hn
 clear hn
 go_enter Tryz.func242, Tryz.ntmps242
 go_wp2_with fail
 go_ret
 exact ⟨ret_int (by rw [Hn.out]), rfl⟩
theorem errM_any (h : Rdr 274 w lo g l e) :
  Calls Tryz.prog 209 #[.pointer (some ⟨g, 0, none⟩)] w fun en w' => en = .returned (.int .i64 e) ∧ w = w' := by
 obtain ⟨A, n, c, hn, hrd, _, c1, _, _⟩ := h.cells
 go_enter Tryz.func209, Tryz.ntmps209
 go_wp2_with fail
 go_ret
 exact ⟨rfl, rfl⟩
def endR (l : List Int) (e : Int) : Int := if 0 < l.length then 4 else e
theorem endM_any (hR : Rdr 274 w lo g l e) :
  Calls Tryz.prog 210 #[.pointer (some ⟨g, 0, none⟩)] w fun en w' => en = .returned (.int .i64 (endR l e)) ∧ w = w' := by
 by_cases hl : 0 < l.length
 ·have hp := Kp.mk (show endR l e = 4 from if_pos hl)
  have hi : (0 : Int) < (l.length : Nat) := by omega
  go_enter Tryz.func210, Tryz.ntmps210
  go_wp2_with fail
  refine (leftM_any hR).mono ?_
  rintro en w' ⟨rfl, rfl⟩
  generalize l.length = m at *
  go_wp2_with fail
  rw [hp.out]
  go_ret
  exact ⟨rfl, rfl⟩
 ·have hp := Kp.mk (show endR l e = e from if_neg hl)
  have hl0 : l.length = 0 := by omega
  have Hl := Kp.mk hl0
  clear hl hl0
  go_enter Tryz.func210, Tryz.ntmps210
  go_wp2_with fail
  refine (leftM_any hR).mono ?_
  rw [Hl.out]
  rintro en w' ⟨rfl, rfl⟩
  go_wp2_with fail
  refine (errM_any hR).mono ?_
  rintro en w' ⟨rfl, rfl⟩
  go_wp2_with fail
  rw [hp.out]
  go_ret
  exact ⟨rfl, rfl⟩
end
def NewRdr (T : TypeId) (l : List Int) (w : World) (en : Ending) (w' : World) : Prop :=
 ∃ g, en = .returned (.pointer (some ⟨g, 0, none⟩)) ∧ Rdr T w' w.heap.size g l 0 ∧ Below w.heap.size w w'
theorem newRdr_of {T : TypeId} {l : List Int} {w w1 : World} {A : Option Addr} {n c : Nat} (ho : Own w1 w.heap.size (.slice A n c) n l) (hl : By l) (hb : Below w.heap.size w w1) :
  NewRdr T l w (.returned (.pointer (some ⟨w1.heap.size, 0, none⟩))) (w1.alloc (.cells #[.slice A n c, .int .i64 0] T)) := by
 refine ⟨w1.heap.size, rfl, ⟨A, n, c, heap_alloc_new w1 _, hb.size, ?_, ?_, hl, fun h => absurd rfl h⟩, hb.alloc hb.size _⟩
 ·exact ho.rd.below (below_alloc w1 _)
 ·intro hn a ha
  obtain ⟨A', c', e, _, _, _, h4⟩ := ho.form
  simp only [Value.slice.injEq] at e
  rw [← e.1] at h4
  obtain ⟨g, e', h5, _⟩ := h4 a ha
  rw [e']; exact h5
theorem read_any {w : World} {B : Nat} {A : Option Addr} {n c : Nat} {l : List Int} (h : Rd .u8 w B A n c l) (hl : By l) (hB : B ≤ w.heap.size) (hn : n ≤ 140737488355328) :
  Calls Tryz.prog 206 #[.slice A n c] w (NewRdr 274 l w) := by
 go_enter Tryz.func206, Tryz.ntmps206
 go_wp2_with fail
 refine (copyOf_any 0 0 rfl h hB (by omega)).mono ?_
 rintro en w1 ⟨A1, n1, c1, rfl, ho1, hb1⟩
 go_wp2_with fail
 go_ret
 exact newRdr_of ho1 hl hb1
section
variable {w : World} {lo g : Nat} {l : List Int} {e : Int}
end
theorem num_dg (t : Nat) (ht : t = 1 ∨ t = 2 ∨ t = 4) (v : Int) (h0 : 0 ≤ v) (h1 : v < 2 ^ (8 * t)) : ((num (dg t v) : Nat) : Int) = v := by
 rcases ht with rfl | rfl | rfl <;> simp [num, dg] at * <;> omega
theorem numR_piece (t : Nat) (ht : t = 1 ∨ t = 2 ∨ t = 4) (v : Int) (h0 : 0 ≤ v) (h1 : v < 2 ^ (8 * t)) (R : List Int) : numR t (dg t v ++ R) 0 = (v, R, 0) := by
 unfold numR
 rw [if_neg (by simp), if_pos (by omega), if_neg (by rw [List.length_append, dg_len]; omega)]
 have e : ((t : Int)).toNat = (dg t v).length := by rw [dg_len]; omega
 rw [e, List.take_left, List.drop_left, num_dg t ht v h0 h1]
theorem textR_piece (s R : List Int) (hs : s.length ≤ 65535) : textR (dg 2 s.length ++ s ++ R) 0 = (s, R, 0) := by
 have e := numR_piece 2 (by omega) (s.length : Nat) (by omega) (by omega) (s ++ R)
 rw [← List.append_assoc] at e
 unfold textR
 rw [show ((2 : Nat) : Int) = 2 from rfl] at e
 rw [e]
 simp
theorem putP_one (l : List Int) (t : Nat) (ht : t = 1 ∨ t = 2 ∨ t = 4) (v : Int) (h0 : 0 ≤ v) (h1 : v < 2 ^ (8 * t)) : putP l t [v] = (l ++ dg t v, 0) := by
 unfold putP
 rw [if_pos (by omega)]
 have e : ((t : Int)).toNat = t := by omega
 rw [e, if_pos (by simp [fitsP, h0, h1])]
 simp
theorem cell_below {wr w' : World} {b o : Nat} {v : Value} (h : wr.cell? ⟨b, o, none⟩ = some v) (hlt : b < wr.heap.size) (hb : Below wr.heap.size wr w') : w'.cell? ⟨b, o, none⟩ = some v :=
 (hb.cell (p := ⟨b, o, none⟩) hlt).trans h
theorem textP_ok (l s : List Int) (hs : s.length ≤ 400) : textP l s = (l ++ dg 2 s.length ++ s, 0) := by unfold textP; rw [if_neg (by omega)]
end Go.Proofs.YtnoflfbcgbhipaaGreat.Oct
