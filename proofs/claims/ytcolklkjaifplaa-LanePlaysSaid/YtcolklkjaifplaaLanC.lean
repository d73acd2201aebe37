/- Contracts of layer 11 (lane): the methods of a lane. -/
import Derived.Test.YtcolklkjaifplaaLanB
import Derived.Test.YtcolklkjaifplaaOctC
import Derived.Deep.CutRange
namespace Go.Proofs.Ytcolklkjaifplaa.Oct
open Go.RowKit
set_option linter.unusedVariables false
set_option linter.unusedSimpArgs false
section
variable {w : World} {l c room : Nat} {fs a b : List FrV} {f : FrV}
theorem run_len_ch (h : Lp w l c room fs) (ty : TypeId) : (Builtin.len_ #[77] ty #[.chan (some c)]).run Try.prog w = .ok (.int .i64 fs.length) w := by
  obtain ⟨s, r, h2⟩ := h.ch
  simp [Builtin.len_, run_underlying Try.underlying77, run_getObj_chan _ _ h2, goInt]
theorem run_eql_ch (a : Option Nat) (w : World) : (binOp .eql 77 (.chan a) (.chan none)).run Try.prog w = .ok (.bool a.isNone) w := by
  have h : ∀ d : Nat, (Op.equalIn (d + 1) 77 (.chan a) (.chan none)).run Try.prog w = .ok a.isNone w := fun d => by
    cases a <;> simp [Op.equalIn, run_underlying Try.underlying77]
  simp only [binOp]
  simp [Op.equal, Op.maxDepth, h 9999]
set_option maxRecDepth 100000 in
theorem lisNone_no (h : Lp w l c room fs) : Calls Try.prog 68 #[.pointer (some ⟨l, 0, none⟩)] w fun e w' => e = .returned (.bool false) ∧ w' = w := by
  have c0 := h.own.cell 0 rfl
  have hq : (binOp .eql 77 (.chan (some c)) (.chan none)).run Try.prog w = .ok (.bool false) w := run_eql_ch (some c) w
  clear h
  go_enter Try.func68, Try.ntmps68
  go_wp2_with fail
  go_ret
  exact ⟨rfl, rfl⟩
set_option maxRecDepth 100000 in
theorem llen_any (h : Lp w l c room fs) : Calls Try.prog 42 #[.pointer (some ⟨l, 0, none⟩)] w fun e w' => e = .returned (.int .i64 fs.length) ∧ w' = w := by
  have c0 := h.own.cell 0 rfl
  have hl := run_len_ch h
  have HN := lisNone_no h
  generalize fs.length = n at *
  go_enter Try.func42, Try.ntmps42
  go_wp2_with (first | (refine HN.mono ?_; rintro e w1 ⟨rfl, rfl⟩))
  go_ret
  exact ⟨rfl, rfl⟩
theorem i64w {n : Int} (h : -9223372036854775808 ≤ n ∧ n ≤ 9223372036854775807) : IntKind.i64.wrap n = n := by rw [IntKind.wrap_i64]; omega
theorem fr_drop {k : Nat} {a : List FrV} (h : k < a.length) : ∃ x, a.drop k = x :: a.drop (k + 1) ∧ a.take (k + 1) = a.take k ++ [x] := ⟨a[k], List.drop_eq_getElem_cons h, by rw [List.take_succ_eq_append_getElem h]⟩
set_option maxRecDepth 100000 in
theorem turn_any (h : Lp w l c room (a ++ b)) : Calls Try.prog 77 #[.pointer (some ⟨l, 0, none⟩), .int .i64 a.length] w fun e w' => e = .returned (.tuple #[]) ∧ Lp w' l c room (b ++ a) ∧ Ch (fun k => k = c) w w' := by
  obtain ⟨n, hn⟩ : ∃ n, n = a.length := ⟨_, rfl⟩
  have hn64 : n ≤ 64 := by have := h.fit; simp at this; omega
  rw [← hn]
  have HN := Kp.mk hn
  clear hn
  go_enter Try.func77, Try.ntmps77
  go_wp2_with fail
  go_loopw [7] (fun s7 wr => ∃ k : Nat, s7 = .int .i64 k ∧ k ≤ n ∧ Lp wr l c room (a.drop k ++ b ++ a.take k) ∧ Ch (fun k => k = c) w wr) (fun s7 _ => n - (intOf s7).toNat)
  case atStart => exact ⟨0, rfl, Nat.zero_le _, by simpa using h, Ch.refl _ _⟩
  case round =>
    clear h
    obtain ⟨k, rfl, hk, hL, hC⟩ := hrel
    by_cases hlt : (k : Int) < n
    · obtain ⟨x, h1, h2⟩ := fr_drop (k := k) (a := a) (by have := HN.out; omega)
      rw [h1] at hL
      have h2 := Kp.mk h2
      have hL : Lp wr l c room (x :: (a.drop (k + 1) ++ b ++ a.take k)) := hL
      have hfit := Kp.mk hL.fit
      clear h1
      go_wp2_with fail
      refine (recv_some hL).mono ?_
      rintro e w1 ⟨rfl, hL1, hC1⟩
      have hC2 := hC.trans hC1 (fun _ _ e => e)
      clear hL hC hC1
      go_wp2_with fail
      refine (send_yes hL1 x (by have := hfit.out.1; simp at this ⊢; omega)).mono ?_
      rintro e w2 ⟨rfl, hL2, hC1⟩
      have hC3 := hC2.trans hC1 (fun _ _ e => e)
      have hL3 : Lp w2 l c room (a.drop (k + 1) ++ b ++ a.take (k + 1)) := by rw [h2.out]; simpa using hL2
      clear hL1 hC2 hC1 hL2
      go_wp2_with fail
      go_roundw
      case rel => exact ⟨k + 1, by go_num, by omega, hL3, hC3⟩
      case measure => simp [intOf]; omega
    · obtain rfl : k = n := by omega
      have hL3 : Lp wr l c room (b ++ a) := by rw [List.drop_of_length_le (by have := HN.out; omega), List.take_of_length_le (by have := HN.out; omega)] at hL; simpa using hL
      go_wp2_with fail
      go_end0
      exact ⟨rfl, hL3, hC⟩
set_option maxRecDepth 100000 in
theorem pull_any (h : Lp w l c room (a ++ f :: b)) {i : Int} (hi : i = a.length) : Calls Try.prog 74 #[.pointer (some ⟨l, 0, none⟩), .int .i64 i] w fun e w' => e = .returned f.val ∧ Lp w' l c room (a ++ b) ∧ Ch (fun k => k = c) w w' := by
  have hl := llen_any h
  have ht := turn_any h
  rw [← hi] at ht
  obtain ⟨n, hn⟩ : ∃ n : Int, n = ((a ++ f :: b).length : Nat) := ⟨_, rfl⟩
  rw [← hn] at hl
  have hb : n - 1 - i = (b.length : Nat) ∧ 0 ≤ i ∧ i < n ∧ n ≤ 64 := by have := h.fit; simp at hn this; omega
  have hw1 : IntKind.i64.wrap (n - 1) = n - 1 := i64w (by omega)
  have hw2 : IntKind.i64.wrap (n - 1 - i) = (b.length : Nat) := by rw [← hb.1]; exact i64w (by omega)
  clear hi hn hb h
  go_enter Try.func74, Try.ntmps74
  go_wp2_with fail
  refine hl.mono ?_
  rintro e w' ⟨rfl, rfl⟩
  go_wp2_with fail
  refine ht.mono ?_
  rintro e w1 ⟨rfl, hL1, hC1⟩
  clear hl ht hw1 hw2
  go_wp2_with fail
  refine (recv_some hL1).mono ?_
  rintro e w2 ⟨rfl, hL2, hC2⟩
  have hC3 := hC1.trans hC2 (fun _ _ e => e)
  clear hL1 hC1 hC2
  go_wp2_with fail
  refine (turn_any hL2).mono ?_
  rintro e w3 ⟨rfl, hL3, hC4⟩
  have hC5 := hC3.trans hC4 (fun _ _ e => e)
  clear hL2 hC3 hC4
  go_wp2_with fail
  go_ret
  exact ⟨rfl, hL3, hC5⟩
set_option maxRecDepth 100000 in
theorem look_any (h : Lp w l c room (a ++ f :: b)) {i : Int} (hi : i = a.length) : Calls Try.prog 76 #[.pointer (some ⟨l, 0, none⟩), .int .i64 i] w fun e w' => e = .returned f.val ∧ Lp w' l c room (a ++ f :: b) ∧ Ch (fun k => k = c) w w' := by
  have hl := llen_any h
  have ht := turn_any h
  have hfit := Kp.mk h.fit
  rw [← hi] at ht
  obtain ⟨n, hn⟩ : ∃ n : Int, n = ((a ++ f :: b).length : Nat) := ⟨_, rfl⟩
  rw [← hn] at hl
  have hb : n - 1 - i = (b.length : Nat) ∧ 0 ≤ i ∧ i < n ∧ n ≤ 64 := by have := h.fit; simp at hn this; omega
  have hw1 : IntKind.i64.wrap (n - 1) = n - 1 := i64w (by omega)
  have hw2 : IntKind.i64.wrap (n - 1 - i) = (b.length : Nat) := by rw [← hb.1]; exact i64w (by omega)
  clear hi hn hb h
  go_enter Try.func76, Try.ntmps76
  go_wp2_with fail
  refine hl.mono ?_
  rintro e w' ⟨rfl, rfl⟩
  go_wp2_with fail
  refine ht.mono ?_
  rintro e w1 ⟨rfl, hL1, hC1⟩
  clear hl ht hw1 hw2
  go_wp2_with fail
  refine (recv_some hL1).mono ?_
  rintro e w2 ⟨rfl, hL2, hC2⟩
  have hC3 := hC1.trans hC2 (fun _ _ e => e)
  clear hL1 hC1 hC2
  go_wp2_with fail
  refine (send_yes hL2 f (by have := hfit.out.1; simp at this ⊢; omega)).mono ?_
  rintro e w3 ⟨rfl, hL3, hC4⟩
  have hC5 := hC3.trans hC4 (fun _ _ e => e)
  have hL3 : Lp w3 l c room (b ++ (a ++ [f])) := by rw [← List.append_assoc]; exact hL3
  clear hL2 hC3 hC4
  go_wp2_with fail
  refine (turn_any hL3).mono ?_
  rintro e w4 ⟨rfl, hL4, hC6⟩
  have hC7 := hC5.trans hC6 (fun _ _ e => e)
  have hL5 : Lp w4 l c room (a ++ f :: b) := by simpa using hL4
  clear hL3 hC5 hC6 hL4
  go_wp2_with fail
  go_ret
  exact ⟨rfl, hL5, hC7⟩
/-- A place where a frame is, or none. -/
def placeE (n : Nat) (i : Int) : Int := if 0 ≤ i ∧ i < n then 0 else 9
set_option maxRecDepth 100000 in
theorem place_lan (h : Lp w l c room fs) (i : Int) : Calls Try.prog 73 #[.pointer (some ⟨l, 0, none⟩), .int .i64 i] w fun e w' => e = .returned (.int .i64 (placeE fs.length i)) ∧ w' = w := by
  have hl := llen_any h
  have HN := lisNone_no h
  obtain ⟨n, hn⟩ : ∃ n : Int, n = (fs.length : Nat) := ⟨_, rfl⟩
  have hn0 : 0 ≤ n := by omega
  rw [← hn] at hl
  by_cases h0 : i < 0
  · have HE := Kp.mk (show placeE fs.length i = 9 from if_neg (by omega))
    clear h hn
    go_enter Try.func73, Try.ntmps73
    go_wp2_with (first | (refine HN.mono ?_; rintro e w1 ⟨rfl, rfl⟩) | (refine hl.mono ?_; rintro e w1 ⟨rfl, rfl⟩))
    go_ret
    exact ⟨by rw [HE.out]; rfl, rfl⟩
  · by_cases h1 : n ≤ i
    · have HE := Kp.mk (show placeE fs.length i = 9 from if_neg (by omega))
      clear h hn
      go_enter Try.func73, Try.ntmps73
      go_wp2_with (first | (refine HN.mono ?_; rintro e w1 ⟨rfl, rfl⟩) | (refine hl.mono ?_; rintro e w1 ⟨rfl, rfl⟩))
      go_ret
      exact ⟨by rw [HE.out]; rfl, rfl⟩
    · have HE := Kp.mk (show placeE fs.length i = 0 from if_pos (by omega))
      clear h hn
      go_enter Try.func73, Try.ntmps73
      go_wp2_with (first | (refine HN.mono ?_; rintro e w1 ⟨rfl, rfl⟩) | (refine hl.mono ?_; rintro e w1 ⟨rfl, rfl⟩))
      go_ret
      exact ⟨by rw [HE.out]; rfl, rfl⟩
/-- A list parted at one of its places. -/
theorem part_at {α : Type} {fs : List α} {i : Int} (h : 0 ≤ i ∧ i < fs.length) : ∃ a f b, fs = a ++ f :: b ∧ i = (a.length : Nat) ∧ a = fs.take i.toNat ∧ b = fs.drop (i.toNat + 1) ∧ fs[i.toNat]? = some f := by
  have hlt : i.toNat < fs.length := by omega
  refine ⟨fs.take i.toNat, fs[i.toNat], fs.drop (i.toNat + 1), ?_, by rw [List.length_take]; omega, rfl, rfl, List.getElem?_eq_getElem hlt⟩
  rw [← List.drop_eq_getElem_cons hlt, List.take_append_drop]
/-- What Drop leaves. -/
def dropL {α : Type} (fs : List α) (i : Int) : List α := if 0 ≤ i ∧ i < fs.length then fs.take i.toNat ++ fs.drop (i.toNat + 1) else fs
/-- What Front leaves. -/
def frontL {α : Type} (fs : List α) (i : Int) : List α := if 0 ≤ i ∧ i < fs.length then fs[i.toNat]?.toList ++ dropL fs i else fs
theorem dropL_at {α : Type} (a b : List α) (f : α) : dropL (a ++ f :: b) (a.length : Nat) = a ++ b := by
  unfold dropL
  rw [if_pos (by simp; omega)]
  simp
theorem frontL_at {α : Type} (a b : List α) (f : α) : frontL (a ++ f :: b) (a.length : Nat) = f :: (a ++ b) := by
  unfold frontL
  rw [if_pos (by simp; omega), dropL_at]
  simp
set_option maxRecDepth 100000 in
theorem ldrop_any (h : Lp w l c room fs) (i : Int) : Calls Try.prog 32 #[.pointer (some ⟨l, 0, none⟩), .int .i64 i] w fun e w' => e = .returned (.int .i64 (placeE fs.length i)) ∧ Lp w' l c room (dropL fs i) ∧ Ch (fun k => k = c) w w' := by
  have hp := place_lan h i
  by_cases hi : 0 ≤ i ∧ i < fs.length
  · have HE : placeE fs.length i = 0 := if_pos hi
    rw [HE] at hp ⊢
    obtain ⟨a, f, b, rfl, hi2, -⟩ := part_at hi
    have HD := Kp.mk (show dropL (a ++ f :: b) i = a ++ b by rw [hi2, dropL_at])
    have hpull := pull_any h hi2
    clear h hi HE hi2
    go_enter Try.func32, Try.ntmps32
    go_wp2_with (first | (refine hp.mono ?_; rintro e w1 ⟨rfl, rfl⟩) | (refine hpull.mono ?_; rintro e w1 ⟨rfl, hL1, hC1⟩))
    go_ret
    exact ⟨rfl, by rw [HD.out]; exact hL1, hC1⟩
  · have HE : placeE fs.length i = 9 := if_neg hi
    have HD := Kp.mk (show dropL fs i = fs from if_neg hi)
    rw [HE] at hp ⊢
    have H0 := Kp.mk h
    clear h hi HE
    go_enter Try.func32, Try.ntmps32
    go_wp2_with (first | (refine hp.mono ?_; rintro e w1 ⟨rfl, rfl⟩))
    go_ret
    exact ⟨rfl, by rw [HD.out]; exact H0.out, Ch.refl _ _⟩
set_option maxRecDepth 100000 in
theorem lfront_any (h : Lp w l c room fs) (i : Int) : Calls Try.prog 36 #[.pointer (some ⟨l, 0, none⟩), .int .i64 i] w fun e w' => e = .returned (.int .i64 (placeE fs.length i)) ∧ Lp w' l c room (frontL fs i) ∧ Ch (fun k => k = c) w w' := by
  have hp := place_lan h i
  by_cases hi : 0 ≤ i ∧ i < fs.length
  · have HE : placeE fs.length i = 0 := if_pos hi
    rw [HE] at hp ⊢
    obtain ⟨a, f, b, rfl, hi2, -⟩ := part_at hi
    have HD := Kp.mk (show frontL (a ++ f :: b) i = f :: (a ++ b) by rw [hi2, frontL_at])
    have hpull := pull_any h hi2
    have hl := llen_any h
    have hfit := Kp.mk h.fit
    obtain ⟨n, hn⟩ : ∃ n : Int, n = ((a ++ f :: b).length : Nat) := ⟨_, rfl⟩
    rw [← hn] at hl
    obtain ⟨m, hm⟩ : ∃ m, m = (a ++ b).length := ⟨_, rfl⟩
    have hw1 : IntKind.i64.wrap (n - 1) = (m : Nat) := by
      have := h.fit
      rw [show n - 1 = (m : Nat) by simp at hn hm ⊢; omega]
      exact i64w (by simp at this hm ⊢; omega)
    replace hm := Kp.mk hm
    clear h hi HE hi2 hn
    go_enter Try.func36, Try.ntmps36
    go_wp2_with fail
    refine hp.mono ?_
    rintro e w' ⟨rfl, rfl⟩
    clear hp
    go_wp2_with fail
    refine hl.mono ?_
    rintro e w'' ⟨rfl, rfl⟩
    clear hl
    go_wp2_with fail
    refine hpull.mono ?_
    rintro e w1 ⟨rfl, hL1, hC1⟩
    clear hpull
    go_wp2_with fail
    refine (send_yes hL1 f (by have := hfit.out.1; simp at this ⊢; omega)).mono ?_
    rintro e w2 ⟨rfl, hL2, hC2⟩
    have hC3 := hC1.trans hC2 (fun _ _ e => e)
    clear hL1 hC1 hC2 hw1
    go_wp2_with fail
    obtain ⟨hm⟩ := hm
    subst hm
    refine (turn_any hL2).mono ?_
    rintro e w3 ⟨rfl, hL3, hC4⟩
    have hC5 := hC3.trans hC4 (fun _ _ e => e)
    clear hL2 hC3 hC4
    go_wp2_with fail
    go_ret
    exact ⟨rfl, by rw [HD.out]; exact hL3, hC5⟩
  · have HE : placeE fs.length i = 9 := if_neg hi
    have HD := Kp.mk (show frontL fs i = fs from if_neg hi)
    rw [HE] at hp ⊢
    have H0 := Kp.mk h
    clear h hi HE
    go_enter Try.func36, Try.ntmps36
    go_wp2_with (first | (refine hp.mono ?_; rintro e w1 ⟨rfl, rfl⟩))
    go_ret
    exact ⟨rfl, by rw [HD.out]; exact H0.out, Ch.refl _ _⟩
set_option maxRecDepth 100000 in
theorem ltake_some (h : Lp w l c room (f :: fs)) : Calls Try.prog 29 #[.pointer (some ⟨l, 0, none⟩)] w fun e w' => e = .returned (.tuple #[f.val, .bool true]) ∧ Lp w' l c room fs ∧ Ch (fun k => k = c) w w' := by
  have HN := lisNone_no h
  have hr := recv_some h
  clear h
  go_enter Try.func29, Try.ntmps29
  go_wp2_with (first | (refine HN.mono ?_; rintro e w1 ⟨rfl, rfl⟩) | (refine hr.mono ?_; rintro e w1 ⟨rfl, hL1, hC1⟩))
  go_ret2
  exact ⟨rfl, hL1, hC1⟩
set_option maxRecDepth 100000 in
theorem ltake_none (h : Lp w l c room []) : Calls Try.prog 29 #[.pointer (some ⟨l, 0, none⟩)] w fun e w' => e = .returned (.tuple #[.slice none 0 0, .bool false]) ∧ w' = w := by
  have HN := lisNone_no h
  have hr := recv_none h
  clear h
  go_enter Try.func29, Try.ntmps29
  go_wp2_with (first | (refine HN.mono ?_; rintro e w1 ⟨rfl, rfl⟩) | (refine hr.mono ?_; rintro e w1 ⟨rfl, rfl⟩))
  go_ret2
  exact ⟨rfl, rfl⟩
set_option maxRecDepth 100000 in
theorem lclear_any (h : Lp w l c room fs) : Calls Try.prog 38 #[.pointer (some ⟨l, 0, none⟩)] w fun e w' => e = .returned (.int .i64 fs.length) ∧ Lp w' l c room [] ∧ Ch (fun k => k = c) w w' := by
  have hl := llen_any h
  have hn64 : fs.length ≤ 64 := by have := h.fit; omega
  obtain ⟨n, hn⟩ : ∃ n, n = fs.length := ⟨_, rfl⟩
  rw [← hn] at hl hn64 ⊢
  have HN := Kp.mk hn
  clear hn
  go_enter Try.func38, Try.ntmps38
  go_wp2_with (first | (refine hl.mono ?_; rintro e w1 ⟨rfl, rfl⟩))
  clear hl
  go_loopw [7] (fun s7 wr => ∃ k : Nat, s7 = .int .i64 k ∧ k ≤ n ∧ Lp wr l c room (fs.drop k) ∧ Ch (fun k => k = c) w1 wr) (fun s7 _ => n - (intOf s7).toNat)
  case atStart => exact ⟨0, rfl, Nat.zero_le _, h, Ch.refl _ _⟩
  case round =>
    clear h
    obtain ⟨k, rfl, hk, hL, hC⟩ := hrel
    by_cases hlt : (k : Int) < n
    · obtain ⟨x, h1, _⟩ := fr_drop (k := k) (a := fs) (by have := HN.out; omega)
      rw [h1] at hL
      clear h1
      go_wp2_with fail
      refine (recv_some hL).mono ?_
      rintro e w2 ⟨rfl, hL1, hC1⟩
      have hC2 := hC.trans hC1 (fun _ _ e => e)
      clear hL hC hC1
      go_wp2_with fail
      go_roundw
      case rel => exact ⟨k + 1, by go_num, by omega, hL1, hC2⟩
      case measure => simp [intOf]; omega
    · obtain rfl : k = n := by omega
      rw [List.drop_of_length_le (by have := HN.out; omega)] at hL
      go_wp2_with fail
      go_ret
      exact ⟨rfl, hL, hC⟩
end
end Go.Proofs.Ytcolklkjaifplaa.Oct
