/- Contracts of layer 1: octet.Put. -/
import Derived.Test.YtnhjpiaenbhilaaOctC
namespace Go.Proofs.Ytnhjpiaenbhilaa.Oct
open Go.RowKit
set_option linter.unusedVariables false

/-- What Put answers: bytes, and an error. -/
def putP (l : List Int) (s : Int) (ls : List Int) : List Int × Int :=
  if s = 1 ∨ s = 2 ∨ s = 4 then (if ls.all (fitsP · s.toNat) then (l ++ ls.flatMap (dg s.toNat), 0) else ([], 9)) else ([], 2)
theorem flat_len (s : Nat) : ∀ ls : List Int, (ls.flatMap (dg s)).length = s * ls.length
  | [] => by simp
  | x :: ls => by rw [List.flatMap_cons, List.length_append, dg_len, flat_len s ls, List.length_cons, Nat.mul_succ]; omega
theorem flat_by (s : Nat) : ∀ ls : List Int, By (ls.flatMap (dg s))
  | [] => By.nil
  | x :: ls => by rw [List.flatMap_cons]; exact (dg_by s x).append (flat_by s ls)
theorem putP_by (l : List Int) (s : Int) (ls : List Int) (h : By l) : By (putP l s ls).1 := by
  unfold putP
  split
  · split
    · exact h.append (flat_by _ _)
    · exact By.nil
  · exact By.nil

/-- Two results: a slice of the call's own, and an error. -/
def PairOf (l : List Int) (e : Int) (w : World) (en : Ending) (w' : World) : Prop :=
  ∃ A n c, en = .returned (.tuple #[.slice A n c, .int .i64 e]) ∧ Own w' w.heap.size (.slice A n c) n l ∧ Below w.heap.size w w'
theorem PairOf.nil (e : Int) (w : World) {w' : World} (hb : Below w.heap.size w w') : PairOf [] e w (.returned (.tuple #[.slice none 0 0, .int .i64 e])) w' :=
  ⟨none, 0, 0, rfl, Own.nil _ _, hb⟩

theorem all_snoc (p : Int → Bool) (l : List Int) (k : Nat) (h : k < l.length) (h1 : (l.take k).all p = true) (h2 : p (l.getD k 0) = true) : (l.take (k + 1)).all p = true := by
  rw [take_snoc l k h, List.all_append, h1, List.all_cons, List.all_nil, h2]; rfl
theorem all_none (p : Int → Bool) (l : List Int) (k : Nat) (h : k < l.length) (h2 : p (l.getD k 0) = false) : l.all p = false := by
  rw [List.all_eq_false]
  refine ⟨l.getD k 0, ?_, by rw [h2]; decide⟩
  rw [List.getD_eq_getElem?_getD, List.getElem?_eq_getElem h]; exact List.getElem_mem _
theorem all_at (p : Int → Bool) (l : List Int) (k : Nat) (h : k < l.length) (h1 : l.all p = true) : p (l.getD k 0) = true := by
  rw [List.getD_eq_getElem?_getD, List.getElem?_eq_getElem h]
  exact List.all_eq_true.1 h1 _ (List.getElem_mem _)
theorem flat_take (s : Nat) (l : List Int) (k : Nat) (h : k < l.length) : (l.take (k + 1)).flatMap (dg s) = (l.take k).flatMap (dg s) ++ dg s (l.getD k 0) := by
  rw [take_snoc l k h, List.flatMap_append]; simp

theorem fitsP_nn {n : Int} {s : Nat} (h : fitsP n s = true) : 0 ≤ n := by unfold fitsP at h; exact (of_decide_eq_true h).1

set_option maxRecDepth 100000 in
set_option maxHeartbeats 800000 in
theorem put_any {w : World} {B B2 : Nat} {A A2 : Option Addr} {n c m c2 : Nat} {l ls : List Int} (s : Int) (h : Rd .u8 w B A n c l) (h2 : Rd .i64 w B2 A2 m c2 ls) (hB : B ≤ w.heap.size) (hB2 : B2 ≤ w.heap.size) (hs : n + 4 * m ≤ 140737488355320) :
    Calls Try.prog 25 #[.slice A n c, .int .i64 s, .slice A2 m c2] w (PairOf (putP l s ls).1 (putP l s ls).2 w) := by
  by_cases hsz : s = 1 ∨ s = 2 ∨ s = 4
  · obtain ⟨t, rfl⟩ : ∃ t : Nat, s = t := ⟨s.toNat, by omega⟩
    have ht4 : t ≤ 4 := by omega
    have ht1 : 1 ≤ t := by omega
    have hput : Hid (putP l t ls = if ls.all (fitsP · t) then (l ++ ls.flatMap (dg t), 0) else ([], 9)) := Lib.hid (by unfold putP; rw [if_pos hsz]; simp)
    have hd : decide ((t : Int) = 1 ∨ (t : Int) = 2 ∨ (t : Int) = 4) = true := by simpa using hsz
    have Hd := Lib.hid hd
    clear hd hsz
    have hlen := h2.len
    have hat : ∀ k, k < m → ∃ b off, A2 = some ⟨b, off, none⟩ ∧ w.cell? ⟨b, off + k, none⟩ = some (.int .i64 (ls.getD k 0)) := fun k hk => by
      obtain ⟨b, off, e, _, hc⟩ := h2.at_ (by omega)
      exact ⟨b, off, e, hc k hk⟩
    have Hat := Lib.hid hat
    clear hat
    go_enter Try.func25, Try.ntmps25
    go_wp2_with fail
    refine (isSize_any _ _).mono ?_
    rw [Hd.out]
    rintro e w' ⟨rfl, rfl⟩
    go_wp2_with fail
    go_loop [18] (fun i => ∃ k : Nat, k ≤ m ∧ i = .int .i64 k ∧ Hid ((ls.take k).all (fitsP · t) = true)) (fun i => m - (intOf i).toNat)
    case atStart => exact ⟨0, by omega, rfl, Lib.hid rfl⟩
    case round =>
      obtain ⟨k, hk, rfl, hall⟩ := hrel
      by_cases hlt : k < m
      · obtain ⟨b, off, rfl, hck⟩ := Hat.out k hlt
        by_cases hf : fitsP (ls.getD k 0) t = true
        · have hall2 := Lib.hid (all_snoc (fitsP · t) ls k (by omega) hall.out hf)
          generalize ls.getD k 0 = x at *
          go_wp2_with fail
          refine (fits_any x t ht4 _).mono ?_
          rw [hf]
          rintro e w' ⟨rfl, rfl⟩
          go_wp2_with fail
          go_round
          case rel => exact ⟨k + 1, by omega, by go_num, hall2⟩
          case measure => simp [intOf]; omega
        · have hf' : fitsP (ls.getD k 0) t = false := by simpa using hf
          have hno := all_none (fitsP · t) ls k (by omega) hf'
          have hp2 : putP l t ls = ([], 9) := by rw [hput.out, hno]; simp
          have Hp2 := Lib.hid hp2
          clear hno hp2 hf
          generalize ls.getD k 0 = x at *
          go_wp2_with fail
          refine (fits_any x t ht4 _).mono ?_
          rw [hf']
          rintro e w' ⟨rfl, rfl⟩
          go_wp2_with fail
          rw [Hp2.out]
          go_ret2
          exact PairOf.nil 9 w (Below.refl _ _)
      · obtain rfl : k = m := by omega
        have hp2 : putP l t ls = (l ++ ls.flatMap (dg t), 0) := by
          have := hall.out
          rw [List.take_of_length_le (by omega)] at this
          rw [hput.out, this]; simp
        have hallM : Hid (ls.all (fitsP · t) = true) := Lib.hid (by have := hall.out; rw [List.take_of_length_le (by omega)] at this; exact this)
        have Hp2 := Lib.hid hp2
        clear hp2 hall hput
        have q1 : t * k ≤ 4 * k := Nat.mul_le_mul_right _ ht4
        have q2 : (t : Int) * (k : Int) = ((t * k : Nat) : Int) := by simp
        have q3 : 0 ≤ (t : Int) * (k : Int) := by omega
        have q4 : (t : Int) * (k : Int) ≤ 140737488355320 := by omega
        have Q2 := Lib.hid q2
        clear q2
        go_wp2_with fail
        refine (copyOf_any (t * k) _ Q2.out h hB (by omega)).mono ?_
        rintro e w1 ⟨A1, n1, c1, rfl, ho1, hb1⟩
        have hn1 : n1 = n := by have := ho1.len; have := h.len; omega
        have hz1 := hb1.size
        have hat1 : ∀ j, j < k → ∃ b off, A2 = some ⟨b, off, none⟩ ∧ b < B2 ∧ w1.cell? ⟨b, off + j, none⟩ = some (.int .i64 (ls.getD j 0)) := fun j hj => by
          obtain ⟨b, off, e, hb, hc⟩ := (h2.below' hb1 hB2).at_ (by omega)
          exact ⟨b, off, e, hb, hc j hj⟩
        have Hat1 := Lib.hid hat1
        clear hat1
        subst hn1
        go_wp2_with fail
        go_loopw [10, 35] (fun v i wr => ∃ (j : Nat) (A' : Option Addr) (c' : Nat), j ≤ k ∧ i = .int .i64 j ∧ v = .slice A' (n1 + t * j) c' ∧ Own wr w.heap.size (.slice A' (n1 + t * j) c') (n1 + t * j) (l ++ (ls.take j).flatMap (dg t)) ∧ Below w.heap.size w wr) (fun _ i _ => k - (intOf i).toNat)
        case atStart => exact ⟨0, A1, c1, by omega, rfl, by simp, by simpa using ho1, hb1⟩
        case round =>
          obtain ⟨j, A', c', hj, rfl, rfl, ho', hb'⟩ := hrel
          have hz' := hb'.size
          by_cases hlt : j < k
          · obtain ⟨b, off, rfl, _, _⟩ := Hat1.out j hlt
            have hck : wr.cell? ⟨b, off + j, none⟩ = some (.int .i64 (ls.getD j 0)) := by
              obtain ⟨b', off', e, _, hc⟩ := (h2.below' hb' hB2).at_ (by omega)
              have := hc j hlt
              simp at e
              obtain ⟨rfl, rfl⟩ := e
              exact this
            have hfit := all_at (fitsP · t) ls j (by omega) hallM.out
            have hx0 : 0 ≤ ls.getD j 0 := fitsP_nn hfit
            have hfl := Lib.hid (flat_take t ls j (by omega))
            have r1 : t * j ≤ 4 * j := Nat.mul_le_mul_right _ ht4
            clear hfit
            generalize ls.getD j 0 = x at *
            go_wp2_with fail
            refine (digits_any t x ho' hz' ht1 ht4 hx0 (by omega)).mono ?_
            rintro e w2 ⟨A3, n3, c3, rfl, ho3, hb3⟩
            have hn3 : n3 = n1 + t * (j + 1) := by have g1 := ho3.len; have g2 := ho'.len; rw [List.length_append, dg_len] at g1; rw [Nat.mul_succ]; omega
            subst hn3
            go_wp2_with fail
            go_roundw
            case rel => exact ⟨j + 1, A3, c3, by omega, by go_num, rfl, by rw [hfl.out, ← List.append_assoc]; exact ho3, hb'.trans hb3⟩
            case measure => simp [intOf]; omega
          · obtain rfl : j = k := by omega
            go_wp2_with fail
            rw [Hp2.out]
            go_ret2
            exact ⟨A', _, c', rfl, by rw [List.take_of_length_le (by omega)] at ho'; exact ho', hb'⟩
  · have hd : decide (s = 1 ∨ s = 2 ∨ s = 4) = false := by simpa using hsz
    have hp2 : putP l s ls = ([], 2) := by unfold putP; rw [if_neg hsz]
    rw [hp2]
    have Hd := Lib.hid hd
    clear hd hsz hp2
    go_enter Try.func25, Try.ntmps25
    go_wp2_with fail
    refine (isSize_any _ _).mono ?_
    rw [Hd.out]
    rintro e w' ⟨rfl, rfl⟩
    go_wp2_with fail
    go_ret2
    exact PairOf.nil 2 w (Below.refl _ _)
end Go.Proofs.Ytnhjpiaenbhilaa.Oct
