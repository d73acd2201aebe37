/- Contracts of layer 1: octet.Put. Contracts of layer 1: the document's Put. -/
import Derived.Test.YteambkehdbffmaaGreatOctC
namespace Go.Proofs.YteambkehdbffmaaGreat.Oct
open Go.RowKit
set_option linter.unusedVariables false

/-- What Put answers: bytes, and an error. -/
def putP (l : List Int) (s : Int) (ls : List Int) : List Int × Int :=
  if s = 1 ∨ s = 2 ∨ s = 4 then (if ls.all (fitsP · s.toNat) then (l ++ ls.flatMap (dg s.toNat), 0) else ([], 9)) else ([], 2)
theorem flat_len (s : Nat) : ∀ ls : List Int, (ls.flatMap (dg s)).length = s * ls.length
  | [] => by simp
  | x :: ls => by rw [List.flatMap_cons, List.length_append, dg_len, flat_len s ls, List.length_cons, Nat.mul_succ]; omega
theorem flat_by (s : Nat) : ∀ ls : List Int, By (ls.flatMap (dg s))
  | [] => By.nil
  | x :: ls => by rw [List.flatMap_cons]; exact (dg_by s x).append (flat_by s ls)
theorem putP_by (l : List Int) (s : Int) (ls : List Int) (h : By l) : By (putP l s ls).1 := by
  unfold putP
  split
  · split
    · exact h.append (flat_by _ _)
    · exact By.nil
  · exact By.nil

/-- Two results: a slice of the call's own, and an error. -/
def PairOf (l : List Int) (e : Int) (w : World) (en : Ending) (w' : World) : Prop :=
  ∃ A n c, en = .returned (.tuple #[.slice A n c, .int .i64 e]) ∧ Own w' w.heap.size (.slice A n c) n l ∧ Below w.heap.size w w'
theorem PairOf.nil (e : Int) (w : World) {w' : World} (hb : Below w.heap.size w w') : PairOf [] e w (.returned (.tuple #[.slice none 0 0, .int .i64 e])) w' :=
  ⟨none, 0, 0, rfl, Own.nil _ _, hb⟩

theorem all_snoc (p : Int → Bool) (l : List Int) (k : Nat) (h : k < l.length) (h1 : (l.take k).all p = true) (h2 : p (l.getD k 0) = true) : (l.take (k + 1)).all p = true := by
  rw [take_snoc l k h, List.all_append, h1, List.all_cons, List.all_nil, h2]; rfl
theorem all_none (p : Int → Bool) (l : List Int) (k : Nat) (h : k < l.length) (h2 : p (l.getD k 0) = false) : l.all p = false := by
  rw [List.all_eq_false]
  refine ⟨l.getD k 0, ?_, by rw [h2]; decide⟩
  rw [List.getD_eq_getElem?_getD, List.getElem?_eq_getElem h]; exact List.getElem_mem _
theorem all_at (p : Int → Bool) (l : List Int) (k : Nat) (h : k < l.length) (h1 : l.all p = true) : p (l.getD k 0) = true := by
  rw [List.getD_eq_getElem?_getD, List.getElem?_eq_getElem h]
  exact List.all_eq_true.1 h1 _ (List.getElem_mem _)
theorem flat_take (s : Nat) (l : List Int) (k : Nat) (h : k < l.length) : (l.take (k + 1)).flatMap (dg s) = (l.take k).flatMap (dg s) ++ dg s (l.getD k 0) := by
  rw [take_snoc l k h, List.flatMap_append]; simp

theorem fitsP_nn {n : Int} {s : Nat} (h : fitsP n s = true) : 0 ≤ n := by unfold fitsP at h; exact (of_decide_eq_true h).1

set_option maxRecDepth 100000 in
set_option maxHeartbeats 800000 in
theorem put_any {w : World} {B B2 : Nat} {A A2 : Option Addr} {n c m c2 : Nat} {l ls : List Int} (s : Int) (h : Rd .u8 w B A n c l) (h2 : Rd .i64 w B2 A2 m c2 ls) (hB : B ≤ w.heap.size) (hB2 : B2 ≤ w.heap.size) (hs : n + 4 * m ≤ 140737488355320) :
    Calls Tryz.prog 26 #[.slice A n c, .int .i64 s, .slice A2 m c2] w (PairOf (putP l s ls).1 (putP l s ls).2 w) := by
  by_cases hsz : s = 1 ∨ s = 2 ∨ s = 4
  · obtain ⟨t, rfl⟩ : ∃ t : Nat, s = t := ⟨s.toNat, by omega⟩
    have ht4 : t ≤ 4 := by omega
    have ht1 : 1 ≤ t := by omega
    have hput : Hid (putP l t ls = if ls.all (fitsP · t) then (l ++ ls.flatMap (dg t), 0) else ([], 9)) := Lib.hid (by unfold putP; rw [if_pos hsz]; simp)
    have hd : decide ((t : Int) = 1 ∨ (t : Int) = 2 ∨ (t : Int) = 4) = true := by simpa using hsz
    have Hd := Lib.hid hd
    clear hd hsz
    have hlen := h2.len
    have hat : ∀ k, k < m → ∃ b off, A2 = some ⟨b, off, none⟩ ∧ w.cell? ⟨b, off + k, none⟩ = some (.int .i64 (ls.getD k 0)) := fun k hk => by
      obtain ⟨b, off, e, _, hc⟩ := h2.at_ (by omega)
      exact ⟨b, off, e, hc k hk⟩
    have Hat := Lib.hid hat
    clear hat
    go_enter Tryz.func26, Tryz.ntmps26
    go_wp2_with fail
    refine (isSize_any _ _).mono ?_
    rw [Hd.out]
    rintro e w' ⟨rfl, rfl⟩
    go_wp2_with fail
    go_loop [18] (fun i => ∃ k : Nat, k ≤ m ∧ i = .int .i64 k ∧ Hid ((ls.take k).all (fitsP · t) = true)) (fun i => m - (intOf i).toNat)
    case atStart => exact ⟨0, by omega, rfl, Lib.hid rfl⟩
    case round =>
      obtain ⟨k, hk, rfl, hall⟩ := hrel
      by_cases hlt : k < m
      · obtain ⟨b, off, rfl, hck⟩ := Hat.out k hlt
        by_cases hf : fitsP (ls.getD k 0) t = true
        · have hall2 := Lib.hid (all_snoc (fitsP · t) ls k (by omega) hall.out hf)
          generalize ls.getD k 0 = x at *
          go_wp2_with fail
          refine (fits_any x t ht4 _).mono ?_
          rw [hf]
          rintro e w' ⟨rfl, rfl⟩
          go_wp2_with fail
          go_round
          case rel => exact ⟨k + 1, by omega, by go_num, hall2⟩
          case measure => simp [intOf]; omega
        · have hf' : fitsP (ls.getD k 0) t = false := by simpa using hf
          have hno := all_none (fitsP · t) ls k (by omega) hf'
          have hp2 : putP l t ls = ([], 9) := by rw [hput.out, hno]; simp
          have Hp2 := Lib.hid hp2
          clear hno hp2 hf
          generalize ls.getD k 0 = x at *
          go_wp2_with fail
          refine (fits_any x t ht4 _).mono ?_
          rw [hf']
          rintro e w' ⟨rfl, rfl⟩
          go_wp2_with fail
          rw [Hp2.out]
          go_ret2
          exact PairOf.nil 9 w (Below.refl _ _)
      · obtain rfl : k = m := by omega
        have hp2 : putP l t ls = (l ++ ls.flatMap (dg t), 0) := by
          have := hall.out
          rw [List.take_of_length_le (by omega)] at this
          rw [hput.out, this]; simp
        have hallM : Hid (ls.all (fitsP · t) = true) := Lib.hid (by have := hall.out; rw [List.take_of_length_le (by omega)] at this; exact this)
        have Hp2 := Lib.hid hp2
        clear hp2 hall hput
        have q1 : t * k ≤ 4 * k := Nat.mul_le_mul_right _ ht4
        have q2 : (t : Int) * (k : Int) = ((t * k : Nat) : Int) := by simp
        have q3 : 0 ≤ (t : Int) * (k : Int) := by omega
        have q4 : (t : Int) * (k : Int) ≤ 140737488355320 := by omega
        have Q2 := Lib.hid q2
        clear q2
        go_wp2_with fail
        refine (copyOf_any (t * k) _ Q2.out h hB (by omega)).mono ?_
        rintro e w1 ⟨A1, n1, c1, rfl, ho1, hb1⟩
        have hn1 : n1 = n := by have := ho1.len; have := h.len; omega
        have hz1 := hb1.size
        have hat1 : ∀ j, j < k → ∃ b off, A2 = some ⟨b, off, none⟩ ∧ b < B2 ∧ w1.cell? ⟨b, off + j, none⟩ = some (.int .i64 (ls.getD j 0)) := fun j hj => by
          obtain ⟨b, off, e, hb, hc⟩ := (h2.below' hb1 hB2).at_ (by omega)
          exact ⟨b, off, e, hb, hc j hj⟩
        have Hat1 := Lib.hid hat1
        clear hat1
        subst hn1
        go_wp2_with fail
        go_loopw [10, 35] (fun v i wr => ∃ (j : Nat) (A' : Option Addr) (c' : Nat), j ≤ k ∧ i = .int .i64 j ∧ v = .slice A' (n1 + t * j) c' ∧ Own wr w.heap.size (.slice A' (n1 + t * j) c') (n1 + t * j) (l ++ (ls.take j).flatMap (dg t)) ∧ Below w.heap.size w wr) (fun _ i _ => k - (intOf i).toNat)
        case atStart => exact ⟨0, A1, c1, by omega, rfl, by simp, by simpa using ho1, hb1⟩
        case round =>
          obtain ⟨j, A', c', hj, rfl, rfl, ho', hb'⟩ := hrel
          have hz' := hb'.size
          by_cases hlt : j < k
          · obtain ⟨b, off, rfl, _, _⟩ := Hat1.out j hlt
            have hck : wr.cell? ⟨b, off + j, none⟩ = some (.int .i64 (ls.getD j 0)) := by
              obtain ⟨b', off', e, _, hc⟩ := (h2.below' hb' hB2).at_ (by omega)
              have := hc j hlt
              simp at e
              obtain ⟨rfl, rfl⟩ := e
              exact this
            have hfit := all_at (fitsP · t) ls j (by omega) hallM.out
            have hx0 : 0 ≤ ls.getD j 0 := fitsP_nn hfit
            have hfl := Lib.hid (flat_take t ls j (by omega))
            have r1 : t * j ≤ 4 * j := Nat.mul_le_mul_right _ ht4
            clear hfit
            generalize ls.getD j 0 = x at *
            go_wp2_with fail
            refine (digits_any t x ho' hz' ht1 ht4 hx0 (by omega)).mono ?_
            rintro e w2 ⟨A3, n3, c3, rfl, ho3, hb3⟩
            have hn3 : n3 = n1 + t * (j + 1) := by have g1 := ho3.len; have g2 := ho'.len; rw [List.length_append, dg_len] at g1; rw [Nat.mul_succ]; omega
            subst hn3
            go_wp2_with fail
            go_roundw
            case rel => exact ⟨j + 1, A3, c3, by omega, by go_num, rfl, by rw [hfl.out, ← List.append_assoc]; exact ho3, hb'.trans hb3⟩
            case measure => simp [intOf]; omega
          · obtain rfl : j = k := by omega
            go_wp2_with fail
            rw [Hp2.out]
            go_ret2
            exact ⟨A', _, c', rfl, by rw [List.take_of_length_le (by omega)] at ho'; exact ho', hb'⟩
  · have hd : decide (s = 1 ∨ s = 2 ∨ s = 4) = false := by simpa using hsz
    have hp2 : putP l s ls = ([], 2) := by unfold putP; rw [if_neg hsz]
    rw [hp2]
    have Hd := Lib.hid hd
    clear hd hsz hp2
    go_enter Tryz.func26, Tryz.ntmps26
    go_wp2_with fail
    refine (isSize_any _ _).mono ?_
    rw [Hd.out]
    rintro e w' ⟨rfl, rfl⟩
    go_wp2_with fail
    go_ret2
    exact PairOf.nil 2 w (Below.refl _ _)
end Go.Proofs.YteambkehdbffmaaGreat.Oct

namespace Go.Proofs.YteambkehdbffmaaGreat.Oct
open Go.RowKit
set_option linter.unusedVariables false

theorem pow_wrap (t : Nat) (h : t ≤ 4) : wrap64 (2 ^ (8 * t)) = 2 ^ (8 * t) := by
  have : t = 0 ∨ t = 1 ∨ t = 2 ∨ t = 3 ∨ t = 4 := by omega
  rcases this with rfl | rfl | rfl | rfl | rfl <;> simp [wrap64]
theorem fits_lo {x : Int} {t : Nat} (h : x < 0) : fitsP x t = false := by unfold fitsP; simp; omega
theorem fits_hi {x : Int} {t : Nat} (ht : t ≤ 4) (h : wrap64 (2 ^ (8 * t)) ≤ x) : fitsP x t = false := by
  rw [pow_wrap t ht] at h
  unfold fitsP; simp; intro _; exact h
theorem fits_in {x : Int} {t : Nat} (ht : t ≤ 4) (h0 : ¬ x < 0) (h : ¬ wrap64 (2 ^ (8 * t)) ≤ x) : fitsP x t = true := by
  rw [pow_wrap t ht] at h
  unfold fitsP
  exact decide_eq_true ⟨by omega, by omega⟩
theorem ps_none (l ls : List Int) (t : Nat) (k : Nat) (hk : k < ls.length) (hput : putP l t ls = if ls.all (fitsP · t) then (l ++ ls.flatMap (dg t), 0) else ([], 9)) (hf : fitsP (ls.getD k 0) t = false) : putP l t ls = ([], 9) := by
  rw [hput, all_none (fitsP · t) ls k hk hf]; simp

set_option maxRecDepth 100000 in
set_option maxHeartbeats 1600000 in
theorem refPut_at1 {w : World} {B B2 : Nat} {A A2 : Option Addr} {n c m c2 : Nat} {l ls : List Int} (t : Nat) (hsz : t = 1) (h : Rd .u8 w B A n c l) (h2 : Rd .i64 w B2 A2 m c2 ls) (hB : B ≤ w.heap.size) (hB2 : B2 ≤ w.heap.size) (hs : n + 4 * m ≤ 140737488355320) :
    Calls Tryz.prog 30 #[.slice A n c, .int .i64 t, .slice A2 m c2] w (PairOf (putP l t ls).1 (putP l t ls).2 w) := by
  have ht4 : t ≤ 4 := by omega
  have ht1 : 1 ≤ t := by omega
  have hput : Hid (putP l t ls = if ls.all (fitsP · t) then (l ++ ls.flatMap (dg t), 0) else ([], 9)) := Lib.hid (by unfold putP; rw [if_pos (by omega)]; simp)
  have hlen := h2.len
  have e1 : ((t : Int) != 1) = false := by rw [bne_eq_false_iff_eq]; omega
  clear hsz
  go_enter Tryz.func30, Tryz.ntmps30
  go_wp2_with fail
  refine (copyBytes_any h (by omega)).mono ?_
  rintro e w1 ⟨A1, n1, c1, rfl, ho1, hb1⟩
  have hn1 : n1 = n := by have := ho1.len; have := h.len; omega
  subst hn1
  have hz1 := hb1.size
  go_wp2_with fail
  go_loopw [8, 9, 10] (fun v i _ wr => ∃ (k : Nat) (A' : Option Addr) (c' : Nat), k ≤ m ∧ i = .int .i64 k ∧ v = .slice A' (n1 + t * k) c' ∧ Own wr w.heap.size (.slice A' (n1 + t * k) c') (n1 + t * k) (l ++ (ls.take k).flatMap (dg t)) ∧ Below w.heap.size w wr ∧ Hid ((ls.take k).all (fitsP · t) = true)) (fun _ i _ _ => m - (intOf i).toNat)
  case atStart => exact ⟨0, A1, c1, by omega, rfl, by simp, by simpa using ho1, hb1, Lib.hid rfl⟩
  case round =>
    obtain ⟨k, A', c', hk, rfl, rfl, ho', hb', hall⟩ := hrel
    have hz' := hb'.size
    by_cases hlt : k < m
    · have hat : ∃ b off, A2 = some ⟨b, off, none⟩ ∧ b < B2 ∧ wr.cell? ⟨b, off + k, none⟩ = some (.int .i64 (ls.getD k 0)) := by
        obtain ⟨b, off, e, hbb, hc⟩ := (h2.below' hb' hB2).at_ (by omega)
        exact ⟨b, off, e, hbb, hc k hlt⟩
      obtain ⟨b, off, rfl, hbb, hck⟩ := hat
      have hI : (k : Int) < m := by omega
      by_cases hneg : ls.getD k 0 < 0
      · have hp2 := Lib.hid (ps_none l ls t k (by omega) hput.out (fits_lo hneg))
        generalize ls.getD k 0 = x at *
        have hd : decide (x < 0) = true := by simpa using hneg
        go_wp2_with fail
        go_quiet (fail)
        go_wp2_with fail
        rw [hp2.out]
        go_ret2
        exact PairOf.nil 9 w (below_drewN hb' _)
      · by_cases hge : wrap64 (2 ^ (8 * t)) ≤ ls.getD k 0
        · have hp2 := Lib.hid (ps_none l ls t k (by omega) hput.out (fits_hi ht4 hge))
          generalize ls.getD k 0 = x at *
          have hd : decide (x < 0) = false := by simp; omega
          have hd2 : decide (wrap64 (2 ^ (8 * t)) ≤ x) = true := by simpa using hge
          go_wp2_with fail
          go_quiet (fail)
          go_wp2_with fail
          rw [hp2.out]
          go_ret2
          exact PairOf.nil 9 w (below_drewN hb' _)
        · have hall2 := Lib.hid (all_snoc (fitsP · t) ls k (by omega) hall.out (fits_in ht4 hneg hge))
          have hfl := Lib.hid (flat_take t ls k (by omega))
          generalize ls.getD k 0 = x at *
          have hd : decide (x < 0) = false := by simp; omega
          have hd2 : decide (wrap64 (2 ^ (8 * t)) ≤ x) = false := by simpa using hge
          have hd3 : decide ((k : Int) < m) = true := by simp; omega
          have r1 : t * k ≤ 4 * k := Nat.mul_le_mul_right _ ht4
          go_wp2_with fail
          go_quiet (fail)
          rename_i nq
          have ho2 := ho'.drewN nq
          have hb2 : Below w.heap.size w (wr.drewN nq) := below_drewN hb' nq
          have hck2 : (wr.drewN nq).cell? ⟨b, off + k, none⟩ = some (.int .i64 x) := hck
          generalize wr.drewN nq = wq at *
          have hzq := hb2.size
          have hB3 : b < wq.heap.size := by omega
          go_wp2_with fail
          clear hd hd2 hd3
          go_loopw [8, 10] (fun v i wr => ∃ (j : Nat) (A' : Option Addr) (c' : Nat), j ≤ t ∧ i = .int .i64 ((t : Int) - 1 - j) ∧ v = .slice A' (n1 + t * k + j) c' ∧ Own wr w.heap.size (.slice A' (n1 + t * k + j) c') (n1 + t * k + j) (l ++ (ls.take k).flatMap (dg t) ++ (dg t x).take j) ∧ Below w.heap.size w wr ∧ wr.cell? ⟨b, off + k, none⟩ = some (.int .i64 x)) (fun _ i _ => (intOf i + 1).toNat)
          case atStart => exact ⟨0, A', c', by omega, by simp, rfl, by simpa using ho2, hb2, hck2⟩
          case round =>
            obtain ⟨j, A3, c3, hj, rfl, rfl, ho3, hb3, hck3⟩ := hrel
            have hz3 := hb3.size
            by_cases hlt2 : j < t
            · have hsn := Lib.hid (dg_snoc t x j hlt2)
              have hq : 0 ≤ x / 2 ^ (8 * (t - 1 - j)) := Int.ediv_nonneg (by omega) (Int.le_of_lt (Int.pow_pos (by omega)))
              have hr1 := rd_lit .u8 wr 5 [x / 2 ^ (8 * (t - 1 - j)) % 256] (by simp [maxLen]) (wr.heap.size + 1) (by omega)
              have hg : (0 : Int) ≤ (t : Int) - 1 - j := by omega
              go_wp2_with (at_builtin; refine wpList_append8 rfl (.tmp 50) (.tmp 59) rfl rfl (ho3.alloc _) rfl hr1 (by simp; omega) (by simp; omega) ?_; intro A4 c4 w4 ho4 hb4)
              go_roundw
              case rel => exact ⟨j + 1, A4, c4, by omega, by go_num, rfl, by rw [hsn.out, ← List.append_assoc]; exact ho4, (hb3.alloc (by omega) _).trans hb4, by rw [hb4.cell (p := ⟨b, off + k, none⟩) (by simp; omega), World.cell?_alloc_past _ _ _ (by omega)]; exact hck3⟩
              case measure => simp [intOf]; omega
            · obtain rfl : j = t := by omega
              go_wp2_with fail
              go_roundw
              case rel => exact ⟨k + 1, A3, c3, by omega, by go_num, by rw [Nat.mul_succ, Nat.add_assoc], by rw [hfl.out, ← List.append_assoc, Nat.mul_succ, ← Nat.add_assoc]; rw [show (dg j x).take j = dg j x from List.take_of_length_le (by rw [dg_len]; omega)] at ho3; exact ho3, hb3, hall2⟩
              case measure => simp [intOf]; omega
    · obtain rfl : k = m := by omega
      have hp2 : putP l t ls = (l ++ ls.flatMap (dg t), 0) := by
        have := hall.out
        rw [List.take_of_length_le (by omega)] at this
        rw [hput.out, this]; simp
      have Hp2 := Lib.hid hp2
      clear hp2
      go_wp2_with fail
      rw [Hp2.out]
      go_ret2
      exact ⟨A', _, c', rfl, by rw [List.take_of_length_le (by omega)] at ho'; exact ho', hb'⟩

set_option maxRecDepth 100000 in
set_option maxHeartbeats 1600000 in
theorem refPut_at2 {w : World} {B B2 : Nat} {A A2 : Option Addr} {n c m c2 : Nat} {l ls : List Int} (t : Nat) (hsz : t = 2) (h : Rd .u8 w B A n c l) (h2 : Rd .i64 w B2 A2 m c2 ls) (hB : B ≤ w.heap.size) (hB2 : B2 ≤ w.heap.size) (hs : n + 4 * m ≤ 140737488355320) :
    Calls Tryz.prog 30 #[.slice A n c, .int .i64 t, .slice A2 m c2] w (PairOf (putP l t ls).1 (putP l t ls).2 w) := by
  have ht4 : t ≤ 4 := by omega
  have ht1 : 1 ≤ t := by omega
  have hput : Hid (putP l t ls = if ls.all (fitsP · t) then (l ++ ls.flatMap (dg t), 0) else ([], 9)) := Lib.hid (by unfold putP; rw [if_pos (by omega)]; simp)
  have hlen := h2.len
  have e1 : ((t : Int) != 1) = true := by rw [bne_iff_ne]; omega
  have e2 : ((t : Int) != 2) = false := by rw [bne_eq_false_iff_eq]; omega
  clear hsz
  go_enter Tryz.func30, Tryz.ntmps30
  go_wp2_with fail
  refine (copyBytes_any h (by omega)).mono ?_
  rintro e w1 ⟨A1, n1, c1, rfl, ho1, hb1⟩
  have hn1 : n1 = n := by have := ho1.len; have := h.len; omega
  subst hn1
  have hz1 := hb1.size
  go_wp2_with fail
  go_loopw [8, 9, 10] (fun v i _ wr => ∃ (k : Nat) (A' : Option Addr) (c' : Nat), k ≤ m ∧ i = .int .i64 k ∧ v = .slice A' (n1 + t * k) c' ∧ Own wr w.heap.size (.slice A' (n1 + t * k) c') (n1 + t * k) (l ++ (ls.take k).flatMap (dg t)) ∧ Below w.heap.size w wr ∧ Hid ((ls.take k).all (fitsP · t) = true)) (fun _ i _ _ => m - (intOf i).toNat)
  case atStart => exact ⟨0, A1, c1, by omega, rfl, by simp, by simpa using ho1, hb1, Lib.hid rfl⟩
  case round =>
    obtain ⟨k, A', c', hk, rfl, rfl, ho', hb', hall⟩ := hrel
    have hz' := hb'.size
    by_cases hlt : k < m
    · have hat : ∃ b off, A2 = some ⟨b, off, none⟩ ∧ b < B2 ∧ wr.cell? ⟨b, off + k, none⟩ = some (.int .i64 (ls.getD k 0)) := by
        obtain ⟨b, off, e, hbb, hc⟩ := (h2.below' hb' hB2).at_ (by omega)
        exact ⟨b, off, e, hbb, hc k hlt⟩
      obtain ⟨b, off, rfl, hbb, hck⟩ := hat
      have hI : (k : Int) < m := by omega
      by_cases hneg : ls.getD k 0 < 0
      · have hp2 := Lib.hid (ps_none l ls t k (by omega) hput.out (fits_lo hneg))
        generalize ls.getD k 0 = x at *
        have hd : decide (x < 0) = true := by simpa using hneg
        go_wp2_with fail
        go_quiet (fail)
        go_wp2_with fail
        rw [hp2.out]
        go_ret2
        exact PairOf.nil 9 w (below_drewN hb' _)
      · by_cases hge : wrap64 (2 ^ (8 * t)) ≤ ls.getD k 0
        · have hp2 := Lib.hid (ps_none l ls t k (by omega) hput.out (fits_hi ht4 hge))
          generalize ls.getD k 0 = x at *
          have hd : decide (x < 0) = false := by simp; omega
          have hd2 : decide (wrap64 (2 ^ (8 * t)) ≤ x) = true := by simpa using hge
          go_wp2_with fail
          go_quiet (fail)
          go_wp2_with fail
          rw [hp2.out]
          go_ret2
          exact PairOf.nil 9 w (below_drewN hb' _)
        · have hall2 := Lib.hid (all_snoc (fitsP · t) ls k (by omega) hall.out (fits_in ht4 hneg hge))
          have hfl := Lib.hid (flat_take t ls k (by omega))
          generalize ls.getD k 0 = x at *
          have hd : decide (x < 0) = false := by simp; omega
          have hd2 : decide (wrap64 (2 ^ (8 * t)) ≤ x) = false := by simpa using hge
          have hd3 : decide ((k : Int) < m) = true := by simp; omega
          have r1 : t * k ≤ 4 * k := Nat.mul_le_mul_right _ ht4
          go_wp2_with fail
          go_quiet (fail)
          rename_i nq
          have ho2 := ho'.drewN nq
          have hb2 : Below w.heap.size w (wr.drewN nq) := below_drewN hb' nq
          have hck2 : (wr.drewN nq).cell? ⟨b, off + k, none⟩ = some (.int .i64 x) := hck
          generalize wr.drewN nq = wq at *
          have hzq := hb2.size
          have hB3 : b < wq.heap.size := by omega
          go_wp2_with fail
          clear hd hd2 hd3
          go_loopw [8, 10] (fun v i wr => ∃ (j : Nat) (A' : Option Addr) (c' : Nat), j ≤ t ∧ i = .int .i64 ((t : Int) - 1 - j) ∧ v = .slice A' (n1 + t * k + j) c' ∧ Own wr w.heap.size (.slice A' (n1 + t * k + j) c') (n1 + t * k + j) (l ++ (ls.take k).flatMap (dg t) ++ (dg t x).take j) ∧ Below w.heap.size w wr ∧ wr.cell? ⟨b, off + k, none⟩ = some (.int .i64 x)) (fun _ i _ => (intOf i + 1).toNat)
          case atStart => exact ⟨0, A', c', by omega, by simp, rfl, by simpa using ho2, hb2, hck2⟩
          case round =>
            obtain ⟨j, A3, c3, hj, rfl, rfl, ho3, hb3, hck3⟩ := hrel
            have hz3 := hb3.size
            by_cases hlt2 : j < t
            · have hsn := Lib.hid (dg_snoc t x j hlt2)
              have hq : 0 ≤ x / 2 ^ (8 * (t - 1 - j)) := Int.ediv_nonneg (by omega) (Int.le_of_lt (Int.pow_pos (by omega)))
              have hr1 := rd_lit .u8 wr 5 [x / 2 ^ (8 * (t - 1 - j)) % 256] (by simp [maxLen]) (wr.heap.size + 1) (by omega)
              have hg : (0 : Int) ≤ (t : Int) - 1 - j := by omega
              go_wp2_with (at_builtin; refine wpList_append8 rfl (.tmp 50) (.tmp 59) rfl rfl (ho3.alloc _) rfl hr1 (by simp; omega) (by simp; omega) ?_; intro A4 c4 w4 ho4 hb4)
              go_roundw
              case rel => exact ⟨j + 1, A4, c4, by omega, by go_num, rfl, by rw [hsn.out, ← List.append_assoc]; exact ho4, (hb3.alloc (by omega) _).trans hb4, by rw [hb4.cell (p := ⟨b, off + k, none⟩) (by simp; omega), World.cell?_alloc_past _ _ _ (by omega)]; exact hck3⟩
              case measure => simp [intOf]; omega
            · obtain rfl : j = t := by omega
              go_wp2_with fail
              go_roundw
              case rel => exact ⟨k + 1, A3, c3, by omega, by go_num, by rw [Nat.mul_succ, Nat.add_assoc], by rw [hfl.out, ← List.append_assoc, Nat.mul_succ, ← Nat.add_assoc]; rw [show (dg j x).take j = dg j x from List.take_of_length_le (by rw [dg_len]; omega)] at ho3; exact ho3, hb3, hall2⟩
              case measure => simp [intOf]; omega
    · obtain rfl : k = m := by omega
      have hp2 : putP l t ls = (l ++ ls.flatMap (dg t), 0) := by
        have := hall.out
        rw [List.take_of_length_le (by omega)] at this
        rw [hput.out, this]; simp
      have Hp2 := Lib.hid hp2
      clear hp2
      go_wp2_with fail
      rw [Hp2.out]
      go_ret2
      exact ⟨A', _, c', rfl, by rw [List.take_of_length_le (by omega)] at ho'; exact ho', hb'⟩

set_option maxRecDepth 100000 in
set_option maxHeartbeats 1600000 in
theorem refPut_at4 {w : World} {B B2 : Nat} {A A2 : Option Addr} {n c m c2 : Nat} {l ls : List Int} (t : Nat) (hsz : t = 4) (h : Rd .u8 w B A n c l) (h2 : Rd .i64 w B2 A2 m c2 ls) (hB : B ≤ w.heap.size) (hB2 : B2 ≤ w.heap.size) (hs : n + 4 * m ≤ 140737488355320) :
    Calls Tryz.prog 30 #[.slice A n c, .int .i64 t, .slice A2 m c2] w (PairOf (putP l t ls).1 (putP l t ls).2 w) := by
  have ht4 : t ≤ 4 := by omega
  have ht1 : 1 ≤ t := by omega
  have hput : Hid (putP l t ls = if ls.all (fitsP · t) then (l ++ ls.flatMap (dg t), 0) else ([], 9)) := Lib.hid (by unfold putP; rw [if_pos (by omega)]; simp)
  have hlen := h2.len
  have e1 : ((t : Int) != 1) = true := by rw [bne_iff_ne]; omega
  have e2 : ((t : Int) != 2) = true := by rw [bne_iff_ne]; omega
  have e4 : ((t : Int) != 4) = false := by rw [bne_eq_false_iff_eq]; omega
  clear hsz
  go_enter Tryz.func30, Tryz.ntmps30
  go_wp2_with fail
  refine (copyBytes_any h (by omega)).mono ?_
  rintro e w1 ⟨A1, n1, c1, rfl, ho1, hb1⟩
  have hn1 : n1 = n := by have := ho1.len; have := h.len; omega
  subst hn1
  have hz1 := hb1.size
  go_wp2_with fail
  go_loopw [8, 9, 10] (fun v i _ wr => ∃ (k : Nat) (A' : Option Addr) (c' : Nat), k ≤ m ∧ i = .int .i64 k ∧ v = .slice A' (n1 + t * k) c' ∧ Own wr w.heap.size (.slice A' (n1 + t * k) c') (n1 + t * k) (l ++ (ls.take k).flatMap (dg t)) ∧ Below w.heap.size w wr ∧ Hid ((ls.take k).all (fitsP · t) = true)) (fun _ i _ _ => m - (intOf i).toNat)
  case atStart => exact ⟨0, A1, c1, by omega, rfl, by simp, by simpa using ho1, hb1, Lib.hid rfl⟩
  case round =>
    obtain ⟨k, A', c', hk, rfl, rfl, ho', hb', hall⟩ := hrel
    have hz' := hb'.size
    by_cases hlt : k < m
    · have hat : ∃ b off, A2 = some ⟨b, off, none⟩ ∧ b < B2 ∧ wr.cell? ⟨b, off + k, none⟩ = some (.int .i64 (ls.getD k 0)) := by
        obtain ⟨b, off, e, hbb, hc⟩ := (h2.below' hb' hB2).at_ (by omega)
        exact ⟨b, off, e, hbb, hc k hlt⟩
      obtain ⟨b, off, rfl, hbb, hck⟩ := hat
      have hI : (k : Int) < m := by omega
      by_cases hneg : ls.getD k 0 < 0
      · have hp2 := Lib.hid (ps_none l ls t k (by omega) hput.out (fits_lo hneg))
        generalize ls.getD k 0 = x at *
        have hd : decide (x < 0) = true := by simpa using hneg
        go_wp2_with fail
        go_quiet (fail)
        go_wp2_with fail
        rw [hp2.out]
        go_ret2
        exact PairOf.nil 9 w (below_drewN hb' _)
      · by_cases hge : wrap64 (2 ^ (8 * t)) ≤ ls.getD k 0
        · have hp2 := Lib.hid (ps_none l ls t k (by omega) hput.out (fits_hi ht4 hge))
          generalize ls.getD k 0 = x at *
          have hd : decide (x < 0) = false := by simp; omega
          have hd2 : decide (wrap64 (2 ^ (8 * t)) ≤ x) = true := by simpa using hge
          go_wp2_with fail
          go_quiet (fail)
          go_wp2_with fail
          rw [hp2.out]
          go_ret2
          exact PairOf.nil 9 w (below_drewN hb' _)
        · have hall2 := Lib.hid (all_snoc (fitsP · t) ls k (by omega) hall.out (fits_in ht4 hneg hge))
          have hfl := Lib.hid (flat_take t ls k (by omega))
          generalize ls.getD k 0 = x at *
          have hd : decide (x < 0) = false := by simp; omega
          have hd2 : decide (wrap64 (2 ^ (8 * t)) ≤ x) = false := by simpa using hge
          have hd3 : decide ((k : Int) < m) = true := by simp; omega
          have r1 : t * k ≤ 4 * k := Nat.mul_le_mul_right _ ht4
          go_wp2_with fail
          go_quiet (fail)
          rename_i nq
          have ho2 := ho'.drewN nq
          have hb2 : Below w.heap.size w (wr.drewN nq) := below_drewN hb' nq
          have hck2 : (wr.drewN nq).cell? ⟨b, off + k, none⟩ = some (.int .i64 x) := hck
          generalize wr.drewN nq = wq at *
          have hzq := hb2.size
          have hB3 : b < wq.heap.size := by omega
          go_wp2_with fail
          clear hd hd2 hd3
          go_loopw [8, 10] (fun v i wr => ∃ (j : Nat) (A' : Option Addr) (c' : Nat), j ≤ t ∧ i = .int .i64 ((t : Int) - 1 - j) ∧ v = .slice A' (n1 + t * k + j) c' ∧ Own wr w.heap.size (.slice A' (n1 + t * k + j) c') (n1 + t * k + j) (l ++ (ls.take k).flatMap (dg t) ++ (dg t x).take j) ∧ Below w.heap.size w wr ∧ wr.cell? ⟨b, off + k, none⟩ = some (.int .i64 x)) (fun _ i _ => (intOf i + 1).toNat)
          case atStart => exact ⟨0, A', c', by omega, by simp, rfl, by simpa using ho2, hb2, hck2⟩
          case round =>
            obtain ⟨j, A3, c3, hj, rfl, rfl, ho3, hb3, hck3⟩ := hrel
            have hz3 := hb3.size
            by_cases hlt2 : j < t
            · have hsn := Lib.hid (dg_snoc t x j hlt2)
              have hq : 0 ≤ x / 2 ^ (8 * (t - 1 - j)) := Int.ediv_nonneg (by omega) (Int.le_of_lt (Int.pow_pos (by omega)))
              have hr1 := rd_lit .u8 wr 5 [x / 2 ^ (8 * (t - 1 - j)) % 256] (by simp [maxLen]) (wr.heap.size + 1) (by omega)
              have hg : (0 : Int) ≤ (t : Int) - 1 - j := by omega
              go_wp2_with (at_builtin; refine wpList_append8 rfl (.tmp 50) (.tmp 59) rfl rfl (ho3.alloc _) rfl hr1 (by simp; omega) (by simp; omega) ?_; intro A4 c4 w4 ho4 hb4)
              go_roundw
              case rel => exact ⟨j + 1, A4, c4, by omega, by go_num, rfl, by rw [hsn.out, ← List.append_assoc]; exact ho4, (hb3.alloc (by omega) _).trans hb4, by rw [hb4.cell (p := ⟨b, off + k, none⟩) (by simp; omega), World.cell?_alloc_past _ _ _ (by omega)]; exact hck3⟩
              case measure => simp [intOf]; omega
            · obtain rfl : j = t := by omega
              go_wp2_with fail
              go_roundw
              case rel => exact ⟨k + 1, A3, c3, by omega, by go_num, by rw [Nat.mul_succ, Nat.add_assoc], by rw [hfl.out, ← List.append_assoc, Nat.mul_succ, ← Nat.add_assoc]; rw [show (dg j x).take j = dg j x from List.take_of_length_le (by rw [dg_len]; omega)] at ho3; exact ho3, hb3, hall2⟩
              case measure => simp [intOf]; omega
    · obtain rfl : k = m := by omega
      have hp2 : putP l t ls = (l ++ ls.flatMap (dg t), 0) := by
        have := hall.out
        rw [List.take_of_length_le (by omega)] at this
        rw [hput.out, this]; simp
      have Hp2 := Lib.hid hp2
      clear hp2
      go_wp2_with fail
      rw [Hp2.out]
      go_ret2
      exact ⟨A', _, c', rfl, by rw [List.take_of_length_le (by omega)] at ho'; exact ho', hb'⟩

theorem refPut_any {w : World} {B B2 : Nat} {A A2 : Option Addr} {n c m c2 : Nat} {l ls : List Int} (s : Int) (h : Rd .u8 w B A n c l) (h2 : Rd .i64 w B2 A2 m c2 ls) (hB : B ≤ w.heap.size) (hB2 : B2 ≤ w.heap.size) (hs : n + 4 * m ≤ 140737488355320) :
    Calls Tryz.prog 30 #[.slice A n c, .int .i64 s, .slice A2 m c2] w (PairOf (putP l s ls).1 (putP l s ls).2 w) := by
  by_cases h1 : s = 1
  · subst h1; exact refPut_at1 1 rfl h h2 hB hB2 hs
  · by_cases h2' : s = 2
    · subst h2'; exact refPut_at2 2 rfl h h2 hB hB2 hs
    · by_cases h4 : s = 4
      · subst h4; exact refPut_at4 4 rfl h h2 hB hB2 hs
      · have hp2 : putP l s ls = ([], 2) := by unfold putP; rw [if_neg (by omega)]
        rw [hp2]
        clear hp2
        have e1 : (s != 1) = true := by rw [bne_iff_ne]; exact h1
        have e2 : (s != 2) = true := by rw [bne_iff_ne]; exact h2'
        have e4 : (s != 4) = true := by rw [bne_iff_ne]; exact h4
        clear h1 h2' h4
        go_enter Tryz.func30, Tryz.ntmps30
        go_wp2_with fail
        go_ret2
        exact PairOf.nil 2 w (Below.refl _ _)
end Go.Proofs.YteambkehdbffmaaGreat.Oct
