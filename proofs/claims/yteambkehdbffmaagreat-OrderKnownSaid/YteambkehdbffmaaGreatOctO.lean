/- Readers: their state in memory, and the contracts of both readers' methods. Contracts of octet's reader: Read, Text, Left, Err, End. Contracts of the document's reader. -/
import Derived.Test.YteambkehdbffmaaGreatOctY
import Derived.Laws.Pointers
namespace Go.Proofs.YteambkehdbffmaaGreat.Oct
open Go.RowKit
set_option linter.unusedVariables false

/-- A reader of type T lies in block g: l is left, e was wrong; its bytes lie in a block from lo on and ahead of g. -/
def Rdr (T : TypeId) (w : World) (lo g : Nat) (l : List Int) (e : Int) : Prop :=
  ∃ A n c, w.heap[g]? = some (.cells #[.slice A n c, .int .i64 e] T (0, 0)) ∧ lo ≤ g ∧ Rd .u8 w g A n c l ∧ (0 < n → ∀ a, A = some a → lo ≤ a.block) ∧ By l ∧ (e ≠ 0 → l = [])

section
variable {T : TypeId} {w w' : World} {lo g : Nat} {l : List Int} {e : Int}
theorem Rdr.by_ (h : Rdr T w lo g l e) : By l := by obtain ⟨_, _, _, _, _, _, _, h1, _⟩ := h; exact h1
theorem Rdr.lt (h : Rdr T w lo g l e) : g < w.heap.size := by
  obtain ⟨A, n, c, hg, _⟩ := h
  exact (Array.getElem?_eq_some_iff.1 hg).1
theorem Rdr.keep (h : Rdr T w lo g l e) {row : Option Nat} (hg : w.grownBy w' row) (hr : ∀ k, row = some k → k < lo ∨ g < k) : Rdr T w' lo g l e := by
  have hlt := h.lt
  obtain ⟨A, n, c, hc, hlo, hrd, hb, hl, he⟩ := h
  have key : ∀ k, lo ≤ k → k ≤ g → w'.heap[k]? = w.heap[k]? := fun k h1 h2 => hg.block k (by omega) (fun e => by have := hr k e.symm; omega)
  refine ⟨A, n, c, (key g hlo (Nat.le_refl _)).trans hc, hlo, ?_, hb, hl, he⟩
  refine ⟨hrd.1, hrd.2.1, hrd.2.2.1, hrd.2.2.2.1, fun hn => ?_⟩
  obtain ⟨b, off, ea, hbg, hcell⟩ := hrd.at_ hn
  refine ⟨b, off, ea, hbg, fun j hj => ?_⟩
  rw [World.cell?_of_block (w := w) (a := ⟨b, off + j, none⟩) (key b (hb hn _ ea) (by omega))]
  exact hcell j hj
theorem grown_of_below {a w : World} (h : Below a.heap.size a w) (row : Option Nat) : a.grownBy w row := ⟨h.os, h.tape, h.output, h.size, fun i hi _ => h.block i hi⟩
theorem Rdr.below (h : Rdr T w lo g l e) (hb : Below w.heap.size w w') : Rdr T w' lo g l e := h.keep (grown_of_below hb none) (fun k e => by simp at e)
theorem Rdr.cells (h : Rdr T w lo g l e) : ∃ A n c, l.length = n ∧ Rd .u8 w g A n c l ∧ w.cell? ⟨g, 0, none⟩ = some (.slice A n c) ∧ w.cell? ⟨g, 1, none⟩ = some (.int .i64 e) ∧ w.frozen? ⟨g, 0, none⟩ = false ∧ w.frozen? ⟨g, 1, none⟩ = false := by
  obtain ⟨A, n, c, hc, hlo, hrd, hb, hl, he⟩ := h
  refine ⟨A, n, c, hrd.len, hrd, ?_, ?_, ?_, ?_⟩ <;> simp [World.cell?, World.frozen?, hc]
theorem grownBy_set (w : World) (g i : Nat) (u : Value) : w.grownBy (w.setCell ⟨g, i, none⟩ u) (some g) :=
  ⟨rfl, rfl, rfl, by simp [World.setCell], fun k _ hk => Below.heap_setCell _ _ _ _ (fun e => hk (by rw [e]))⟩
/-- The two cells of a reader are stored anew: nothing is left, e' is wrong. -/
theorem Rdr.failed (h : Rdr T w lo g l e) (e' : Int) (hw : w'.heap[g]? = some (.cells #[.slice none 0 0, .int .i64 e'] T (0, 0))) : Rdr T w' lo g [] e' := by
  obtain ⟨A, n, c, hc, hlo, hrd, hb, hl, he⟩ := h
  exact ⟨none, 0, 0, hw, hlo, Rd.nil _ _ _, fun h => absurd h (by omega), By.nil, fun _ => rfl⟩
theorem heap_set {A : Option Addr} {n c : Nat} (h : w.heap[g]? = some (.cells #[.slice A n c, .int .i64 e] T (0, 0))) (u : Value) : (w.setCell ⟨g, 0, none⟩ u).heap[g]? = some (.cells #[u, .int .i64 e] T (0, 0)) := by
  simp [World.setCell, Array.getElem?_modify, h]
theorem heap_set2 {x y : Value} (h : w.heap[g]? = some (.cells #[x, y] T (0, 0))) (u v : Value) : ((w.setCell ⟨g, 0, none⟩ u).setCell ⟨g, 1, none⟩ v).heap[g]? = some (.cells #[u, v] T (0, 0)) := by
  simp [World.setCell, Array.getElem?_modify, h]
theorem heap_set3 {x y : Value} (h : w.heap[g]? = some (.cells #[x, y] T (0, 0))) (u v : Value) : ((w.setCell ⟨g, 1, none⟩ v).setCell ⟨g, 0, none⟩ u).heap[g]? = some (.cells #[u, v] T (0, 0)) := by
  simp [World.setCell, Array.getElem?_modify, h]
end

theorem grown_trans2 {a b c : World} {g : Nat} (h : a.grownBy b (some g)) (k : b.grownBy c (some g)) : a.grownBy c (some g) :=
  ⟨k.os.trans h.os, k.tape.trans h.tape, k.output.trans h.output, Nat.le_trans h.size k.size, fun i hi hne => (k.block i (Nat.lt_of_lt_of_le hi h.size) hne).trans (h.block i hi hne)⟩

/-- Both readers, plain: what a reading answers, what is left, what is wrong. -/
def numR (s : Int) (l : List Int) (e : Int) : Int × List Int × Int :=
  if e ≠ 0 then (0, l, e) else if s = 1 ∨ s = 2 ∨ s = 4 then (if l.length < s.toNat then (0, [], 3) else ((num (l.take s.toNat) : Nat), l.drop s.toNat, 0)) else (0, [], 2)
def textR (l : List Int) (e : Int) : List Int × List Int × Int :=
  if (numR 2 l e).2.2 ≠ 0 then ([], (numR 2 l e).2) else
  if (numR 2 l e).2.1.length < (numR 2 l e).1.toNat then ([], [], 3) else ((numR 2 l e).2.1.take (numR 2 l e).1.toNat, (numR 2 l e).2.1.drop (numR 2 l e).1.toNat, 0)

/-- A reading's end: an int, and the reader has become another one; nothing but its block, and new ones, has turned. -/
def IntRdr (T : TypeId) (w : World) (lo g : Nat) (v : Int) (l : List Int) (e : Int) (en : Ending) (w' : World) : Prop :=
  en = .returned (.int .i64 v) ∧ Rdr T w' lo g l e ∧ w.grownBy w' (some g)
def SliceRdr (T : TypeId) (w : World) (lo g : Nat) (t : List Int) (l : List Int) (e : Int) (en : Ending) (w' : World) : Prop :=
  ∃ A n c, en = .returned (.slice A n c) ∧ Own w' w.heap.size (.slice A n c) n t ∧ Rdr T w' lo g l e ∧ w.grownBy w' (some g)

theorem Rdr.drop_ {T : TypeId} {w : World} {lo g : Nat} {l : List Int} {e : Int} {A : Option Addr} {n c k : Nat} {A' : Option Addr}
    (hlo : lo ≤ g) (hrd : Rd .u8 w g A n c l) (hb : 0 < n → ∀ a, A = some a → lo ≤ a.block) (hl : By l) (he : e ≠ 0 → l = []) (hk : k ≤ n) (hc : w.heap[g]? = some (.cells #[.slice A n c, .int .i64 e] T (0, 0)))
    (hA : A' = if c = k then A else A.map (fun x => x.add k)) : Rdr T (w.setCell ⟨g, 0, none⟩ (.slice A' (n - k) (c - k))) lo g (l.drop k) e := by
  have hne : ∀ b, b < g → ∀ o, (w.setCell ⟨g, 0, none⟩ (.slice A' (n - k) (c - k))).cell? ⟨b, o, none⟩ = w.cell? ⟨b, o, none⟩ := fun b hb' o =>
    World.cell?_of_block (Below.heap_setCell _ _ _ _ (by simp; omega))
  have hle := hrd.le
  refine ⟨A', n - k, c - k, heap_set hc _, hlo, ⟨by rw [List.length_drop, hrd.len], by omega, by have := hrd.cap; omega, fun h => ?_, fun hn => ?_⟩, fun hn a ha => ?_, hl.drop _, fun h => by rw [he h]; simp⟩
  · subst hA
    split at h
    · have := hrd.2.2.2.1 h; omega
    · cases A with
      | none => have := hrd.2.2.2.1 rfl; omega
      | some a => simp at h
  · obtain ⟨b, off, e, hbg, hcell⟩ := hrd.at_ (by omega)
    subst e
    rw [if_neg (by omega)] at hA
    refine ⟨b, off + k, by rw [hA, Option.map_some, add_addr], hbg, fun j hj => ?_⟩
    rw [hne b hbg, Nat.add_assoc, hcell (k + j) (by omega), List.getD_eq_getElem?_getD, List.getD_eq_getElem?_getD, List.getElem?_drop]
  · obtain ⟨b, off, e, hbg, hcell⟩ := hrd.at_ (by omega)
    subst e
    rw [if_neg (by omega), Option.map_some, add_addr] at hA
    have := hb (by omega) _ rfl
    rw [hA] at ha
    simp at ha
    rw [← ha]; exact this

/-- The first error stays. -/
def err1 (e x : Int) : Int := if e = 0 then x else e
theorem err1_0 (x : Int) : err1 0 x = x := rfl
theorem err1_ne {e : Int} (x : Int) (h : e ≠ 0) : err1 e x = e := if_neg h

def TakeOk (T : TypeId) (w : World) (lo g : Nat) (t : List Int) (l : List Int) (e : Int) (en : Ending) (w' : World) : Prop :=
  ∃ A n c, en = .returned (.slice A n c) ∧ Rd .u8 w' g A n c t ∧ Rdr T w' lo g l e ∧ w.grownBy w' (some g)

section
variable {w : World} {lo g : Nat} {l : List Int} {e : Int}

theorem fail_any (x : Int) (h : Rdr 102 w lo g l e) :
    Calls Tryz.prog 75 #[.pointer (some ⟨g, 0, none⟩), .int .i64 x] w fun en w' => en = .returned (.tuple #[]) ∧ Rdr 102 w' lo g [] (err1 e x) ∧ w.grownBy w' (some g) := by
  have h0 := h
  obtain ⟨A, n, c, hc, hlo, hrd, hb, hl, he⟩ := h
  obtain ⟨A', n', c', _, _, k0, k1, f0, f1⟩ := h0.cells
  by_cases hz : e = 0
  · subst hz
    rw [err1_0]
    have H0 := Kp.mk h0
    have HC := Kp.mk hc
    clear h0 hc he hb
    go_enter Tryz.func75, Tryz.ntmps75
    go_wp2_with fail
    go_end0
    exact ⟨rfl, H0.out.failed x (heap_set2 HC.out _ _), grown_trans2 (grownBy_set _ _ _ _) (grownBy_set _ _ _ _)⟩
  · rw [err1_ne _ hz]
    have hz' : (e == 0) = false := by simpa using hz
    have hl0 := he hz
    rw [hl0] at h0
    have H0 := Kp.mk h0
    clear h0 hc he hb hl0 hz
    go_enter Tryz.func75, Tryz.ntmps75
    go_wp2_with fail
    go_end0
    exact ⟨rfl, H0.out, World.grownBy.refl _ _⟩

set_option maxHeartbeats 400000 in
theorem take_ok (k : Nat) (hk : k ≤ l.length) (h : Rdr 102 w lo g l e) :
    Calls Tryz.prog 77 #[.pointer (some ⟨g, 0, none⟩), .int .i64 k] w (TakeOk 102 w lo g (l.take k) (l.drop k) e) := by
  have h0 := h
  obtain ⟨A, n, c, hc, hlo, hrd, hb, hl, he⟩ := h
  have hn := hrd.len
  have c0 : w.cell? ⟨g, 0, none⟩ = some (.slice A n c) := by simp [World.cell?, hc]
  have f0 : w.frozen? ⟨g, 0, none⟩ = false := by simp [World.frozen?, hc]
  have i1 : (k : Int) ≤ n := by omega
  have i2 : (n : Int) ≤ c := by have := hrd.le; omega
  have i3 : (c : Int) ≤ 9223372036854775807 := by have := hrd.cap; unfold maxLen at this; omega
  have hnk : ¬ n < k := by omega
  have hr1 := Kp.mk (hrd.pre k (by omega))
  have key : Kp (∀ A' : Option Addr, (A' = if c = k then A else A.map (fun x => x.add k)) → Rdr 102 (w.setCell ⟨g, 0, none⟩ (.slice A' (n - k) (c - k))) lo g (l.drop k) e) :=
    Kp.mk (fun A' hA => Rdr.drop_ hlo hrd hb hl he (by omega) hc hA)
  have hkeep : Kp (∀ u, Rd .u8 (w.setCell ⟨g, 0, none⟩ u) g A k c (l.take k)) := Kp.mk (fun u => hr1.out.keep fun b o hb' => World.cell?_of_block (Below.heap_setCell _ _ _ _ (by simp; omega)))
  have hg := Kp.mk (fun u => grownBy_set w g 0 u)
  clear h0 hc hlo hrd hb hl he hn hk
  by_cases hck : c = k
  · subst hck
    have key2 := Kp.mk (key.out A (by rw [if_pos rfl]))
    clear key
    go_enter Tryz.func77, Tryz.ntmps77
    go_wp2_with fail
    go_ret
    refine ⟨A, c, c, rfl, hkeep.out _, ?_, hg.out _⟩
    have := key2.out
    rw [Nat.sub_self] at this
    exact this
  · have key2 := Kp.mk (key.out _ (if_neg hck).symm)
    clear key
    go_enter Tryz.func77, Tryz.ntmps77
    go_wp2_with fail
    go_ret
    exact ⟨A, k, c, rfl, hkeep.out _, key2.out, hg.out _⟩

theorem take_few (k : Nat) (hk : l.length < k) (hR : Rdr 102 w lo g l e) :
    Calls Tryz.prog 77 #[.pointer (some ⟨g, 0, none⟩), .int .i64 k] w (TakeOk 102 w lo g [] [] (err1 e 3)) := by
  obtain ⟨A, n, c, hn, hrd, c0, _, f0, _⟩ := hR.cells
  have i1 : (n : Int) < k := by omega
  have hnk : n < k := by omega
  clear hn hk hrd
  go_enter Tryz.func77, Tryz.ntmps77
  go_wp2_with fail
  refine (fail_any 3 hR).mono ?_
  rintro en w1 ⟨rfl, h1, hg1⟩
  go_wp2_with fail
  go_ret
  exact ⟨none, 0, 0, rfl, Rd.nil _ _ _, h1, hg1⟩

theorem num_any (s : Int) (h : Rdr 102 w lo g l e) :
    Calls Tryz.prog 45 #[.pointer (some ⟨g, 0, none⟩), .int .i64 s] w (IntRdr 102 w lo g (numR s l e).1 (numR s l e).2.1 (numR s l e).2.2) := by
  have hby := h.by_
  have he0 : e ≠ 0 → l = [] := by obtain ⟨_, _, _, _, _, _, _, _, he⟩ := h; exact he
  by_cases hs : s = 1 ∨ s = 2 ∨ s = 4
  · obtain ⟨t, rfl⟩ : ∃ t : Nat, s = t := ⟨s.toNat, by omega⟩
    have hd := Kp.mk (show decide ((t : Int) = 1 ∨ (t : Int) = 2 ∨ (t : Int) = 4) = true by simpa using hs)
    by_cases hl : l.length < t
    · have hp := Kp.mk (show numR t l e = (0, [], err1 e 3) by
        unfold numR
        by_cases hz : e = 0
        · subst hz; rw [if_neg (by simp), if_pos hs, Int.toNat_natCast, if_pos hl]; rfl
        · rw [if_pos hz, he0 hz, err1_ne _ hz])
      clear hs he0
      go_enter Tryz.func45, Tryz.ntmps45
      go_wp2_with fail
      refine (isSize_any _ _).mono ?_
      rw [hd.out]
      rintro en w' ⟨rfl, rfl⟩
      go_wp2_with fail
      refine (take_few t hl h).mono ?_
      rintro en w1 ⟨A1, n1, c1, rfl, r1, h1, hg1⟩
      have hn1 := r1.len
      simp at hn1
      go_wp2_with fail
      refine (number_any r1 By.nil (by omega)).mono ?_
      rintro en w' ⟨rfl, rfl⟩
      go_wp2_with fail
      rw [hp.out]
      go_ret
      exact ⟨rfl, h1, hg1⟩
    · have hz : e = 0 := by
        by_cases hz : e = 0
        · exact hz
        · have := he0 hz; subst this; simp at hl; omega
      subst hz
      have hp := Kp.mk (show numR t l 0 = (((num (l.take t) : Nat) : Int), l.drop t, 0) by
        unfold numR
        rw [if_neg (by simp), if_pos hs, Int.toNat_natCast, if_neg hl])
      have ht4 : t ≤ 4 := by omega
      clear hs he0
      go_enter Tryz.func45, Tryz.ntmps45
      go_wp2_with fail
      refine (isSize_any _ _).mono ?_
      rw [hd.out]
      rintro en w' ⟨rfl, rfl⟩
      go_wp2_with fail
      refine (take_ok t (by omega) h).mono ?_
      rintro en w1 ⟨A1, n1, c1, rfl, r1, h1, hg1⟩
      have hn1 := r1.len
      rw [List.length_take] at hn1
      have hn4 : n1 ≤ 4 := by omega
      clear hn1
      go_wp2_with fail
      refine (number_any r1 (hby.take _) hn4).mono ?_
      rintro en w' ⟨rfl, rfl⟩
      go_wp2_with fail
      rw [hp.out]
      go_ret
      exact ⟨rfl, h1, hg1⟩
  · have hd := Kp.mk (show decide (s = 1 ∨ s = 2 ∨ s = 4) = false by simpa using hs)
    have hp := Kp.mk (show numR s l e = (0, [], err1 e 2) by
      unfold numR
      by_cases hz : e = 0
      · subst hz; rw [if_neg (by simp), if_neg hs]; rfl
      · rw [if_pos hz, he0 hz, err1_ne _ hz])
    clear hs he0
    go_enter Tryz.func45, Tryz.ntmps45
    go_wp2_with fail
    refine (isSize_any _ _).mono ?_
    rw [hd.out]
    rintro en w' ⟨rfl, rfl⟩
    go_wp2_with fail
    refine (fail_any 2 h).mono ?_
    rintro en w1 ⟨rfl, h1, hg1⟩
    go_wp2_with fail
    rw [hp.out]
    go_ret
    exact ⟨rfl, h1, hg1⟩
end
end Go.Proofs.YteambkehdbffmaaGreat.Oct

namespace Go.Proofs.YteambkehdbffmaaGreat.Oct
open Go.RowKit
set_option linter.unusedVariables false

theorem numR_by (s : Int) (l : List Int) (e : Int) (h : By l) : By (numR s l e).2.1 := by
  unfold numR
  split
  · exact h
  · split
    · split
      · exact By.nil
      · exact h.drop _
    · exact By.nil
theorem numR_2 (l : List Int) (e : Int) (h : By l) (he : e ≠ 0 → l = []) : ∃ v : Nat, (numR 2 l e).1 = v ∧ v < 65536 ∧ ((numR 2 l e).2.2 ≠ 0 → v = 0 ∧ (numR 2 l e).2.1 = []) := by
  unfold numR
  by_cases hz : e = 0
  · subst hz
    rw [if_neg (by simp), if_pos (by omega)]
    by_cases hl : l.length < (2 : Int).toNat
    · rw [if_pos hl]; exact ⟨0, rfl, by omega, fun _ => ⟨rfl, rfl⟩⟩
    · rw [if_neg hl]
      refine ⟨_, rfl, ?_, fun h => absurd rfl h⟩
      have := num_lt (l.take (2 : Int).toNat) (h.take _)
      have h2 : (l.take (2 : Int).toNat).length = 2 := by rw [List.length_take]; simp at hl ⊢; omega
      rw [h2] at this
      omega
  · rw [if_pos hz]; exact ⟨0, rfl, by omega, fun _ => ⟨rfl, he hz⟩⟩
theorem textR_yes (l : List Int) (e : Int) (v : Nat) (l1 : List Int) (e1 : Int) (hn : numR 2 l e = ((v : Int), l1, e1)) (hz : e1 ≠ 0 → v = 0 ∧ l1 = []) (hv : v ≤ l1.length) : textR l e = (l1.take v, l1.drop v, e1) := by
  unfold textR
  rw [hn]
  by_cases h : e1 = 0
  · subst h; simp; omega
  · obtain ⟨rfl, rfl⟩ := hz h; simp [h]
theorem textR_no (l : List Int) (e : Int) (v : Nat) (l1 : List Int) (e1 : Int) (hn : numR 2 l e = ((v : Int), l1, e1)) (hz : e1 ≠ 0 → v = 0 ∧ l1 = []) (hv : l1.length < v) : e1 = 0 ∧ textR l e = ([], [], 3) := by
  have h : e1 = 0 := by
    by_cases h : e1 = 0
    · exact h
    · obtain ⟨rfl, rfl⟩ := hz h; simp at hv
  subst h
  unfold textR
  rw [hn]
  simp; omega
theorem textR_by (l : List Int) (e : Int) (h : By l) : By (textR l e).1 := by
  unfold textR
  split
  · exact By.nil
  · split
    · exact By.nil
    · exact (numR_by _ _ _ h).take _

section
variable {w : World} {lo g : Nat} {l : List Int} {e : Int}
theorem Rdr.ez {T : TypeId} (h : Rdr T w lo g l e) : e ≠ 0 → l = [] := by obtain ⟨_, _, _, _, _, _, _, _, he⟩ := h; exact he

set_option maxHeartbeats 400000 in
theorem textM_any (h : Rdr 102 w lo g l e) :
    Calls Tryz.prog 80 #[.pointer (some ⟨g, 0, none⟩)] w (SliceRdr 102 w lo g (textR l e).1 (textR l e).2.1 (textR l e).2.2) := by
  obtain ⟨v, hv, hv2, hz⟩ := numR_2 l e h.by_ h.ez
  obtain ⟨l1, hl1⟩ : ∃ l1, (numR 2 l e).2.1 = l1 := ⟨_, rfl⟩
  obtain ⟨e1, he1⟩ : ∃ e1, (numR 2 l e).2.2 = e1 := ⟨_, rfl⟩
  have hnum := Kp.mk (show numR 2 l e = ((v : Int), l1, e1) by rw [← hv, ← hl1, ← he1])
  rw [hl1, he1] at hz
  by_cases hle : v ≤ l1.length
  · have ht := Kp.mk (textR_yes l e v l1 e1 hnum.out hz hle)
    clear hv hl1 he1 hz
    go_enter Tryz.func80, Tryz.ntmps80
    go_wp2_with fail
    refine (num_any 2 h).mono ?_
    rw [hnum.out]
    rintro en w1 ⟨rfl, h1, hg1⟩
    go_wp2_with fail
    refine (take_ok v hle h1).mono ?_
    rintro en w2 ⟨A2, n2, c2, rfl, r2, h2, hg2⟩
    have hz2 := Nat.le_trans hg1.size hg2.size
    have hlt := h2.lt
    have hn2 := r2.len
    rw [List.length_take] at hn2
    go_wp2_with fail
    refine (copyOf_any 0 0 rfl r2 (by omega) (by omega)).mono ?_
    rintro en w3 ⟨A3, n3, c3, rfl, ho3, hb3⟩
    go_wp2_with fail
    rw [ht.out]
    go_ret
    exact ⟨A3, n3, c3, rfl, ho3.lower hz2, h2.below hb3, grown_trans2 (grown_trans2 hg1 hg2) (grown_of_below hb3 _)⟩
  · obtain ⟨he0, ht'⟩ := textR_no l e v l1 e1 hnum.out hz (by omega)
    have ht := Kp.mk ht'
    subst he0
    clear hv hl1 he1 hz ht'
    go_enter Tryz.func80, Tryz.ntmps80
    go_wp2_with fail
    refine (num_any 2 h).mono ?_
    rw [hnum.out]
    rintro en w1 ⟨rfl, h1, hg1⟩
    go_wp2_with fail
    refine (take_few v (by omega) h1).mono ?_
    rintro en w2 ⟨A2, n2, c2, rfl, r2, h2, hg2⟩
    have hz2 := Nat.le_trans hg1.size hg2.size
    have hlt := h2.lt
    have hn2 := r2.len
    simp at hn2
    go_wp2_with fail
    refine (copyOf_any 0 0 rfl r2 (by omega) (by omega)).mono ?_
    rintro en w3 ⟨A3, n3, c3, rfl, ho3, hb3⟩
    go_wp2_with fail
    rw [ht.out]
    go_ret
    exact ⟨A3, n3, c3, rfl, ho3.lower hz2, h2.below hb3, grown_trans2 (grown_trans2 hg1 hg2) (grown_of_below hb3 _)⟩

theorem leftM_any (h : Rdr 102 w lo g l e) :
    Calls Tryz.prog 81 #[.pointer (some ⟨g, 0, none⟩)] w fun en w' => en = .returned (.int .i64 (l.length : Nat)) ∧ w = w' := by
  obtain ⟨A, n, c, hn, hrd, c0, _, f0, _⟩ := h.cells
  have Hn := Kp.mk hn
  clear hn
  go_enter Tryz.func81, Tryz.ntmps81
  go_wp2_with fail
  go_ret
  exact ⟨ret_int (by rw [Hn.out]), rfl⟩
theorem errM_any (h : Rdr 102 w lo g l e) :
    Calls Tryz.prog 47 #[.pointer (some ⟨g, 0, none⟩)] w fun en w' => en = .returned (.int .i64 e) ∧ w = w' := by
  obtain ⟨A, n, c, hn, hrd, _, c1, _, _⟩ := h.cells
  go_enter Tryz.func47, Tryz.ntmps47
  go_wp2_with fail
  go_ret
  exact ⟨rfl, rfl⟩
/-- What End tells. -/
def endR (l : List Int) (e : Int) : Int := if 0 < l.length then 4 else e
theorem endM_any (hR : Rdr 102 w lo g l e) :
    Calls Tryz.prog 48 #[.pointer (some ⟨g, 0, none⟩)] w fun en w' => en = .returned (.int .i64 (endR l e)) ∧ w = w' := by
  by_cases hl : 0 < l.length
  · have hp := Kp.mk (show endR l e = 4 from if_pos hl)
    have hi : (0 : Int) < (l.length : Nat) := by omega
    go_enter Tryz.func48, Tryz.ntmps48
    go_wp2_with fail
    refine (leftM_any hR).mono ?_
    rintro en w' ⟨rfl, rfl⟩
    generalize l.length = m at *
    go_wp2_with fail
    rw [hp.out]
    go_ret
    exact ⟨rfl, rfl⟩
  · have hp := Kp.mk (show endR l e = e from if_neg hl)
    have hl0 : l.length = 0 := by omega
    have Hl := Kp.mk hl0
    clear hl hl0
    go_enter Tryz.func48, Tryz.ntmps48
    go_wp2_with fail
    refine (leftM_any hR).mono ?_
    rw [Hl.out]
    rintro en w' ⟨rfl, rfl⟩
    go_wp2_with fail
    refine (errM_any hR).mono ?_
    rintro en w' ⟨rfl, rfl⟩
    go_wp2_with fail
    rw [hp.out]
    go_ret
    exact ⟨rfl, rfl⟩
end

/-- A new reader: its bytes, and it itself, lie in new blocks. -/
def NewRdr (T : TypeId) (l : List Int) (w : World) (en : Ending) (w' : World) : Prop :=
  ∃ g, en = .returned (.pointer (some ⟨g, 0, none⟩)) ∧ Rdr T w' w.heap.size g l 0 ∧ Below w.heap.size w w'
theorem newRdr_of {T : TypeId} {l : List Int} {w w1 : World} {A : Option Addr} {n c : Nat} (ho : Own w1 w.heap.size (.slice A n c) n l) (hl : By l) (hb : Below w.heap.size w w1) :
    NewRdr T l w (.returned (.pointer (some ⟨w1.heap.size, 0, none⟩))) (w1.alloc (.cells #[.slice A n c, .int .i64 0] T)) := by
  refine ⟨w1.heap.size, rfl, ⟨A, n, c, heap_alloc_new w1 _, hb.size, ?_, ?_, hl, fun h => absurd rfl h⟩, hb.alloc hb.size _⟩
  · exact ho.rd.below (below_alloc w1 _)
  · intro hn a ha
    obtain ⟨A', c', e, _, _, _, h4⟩ := ho.form
    simp only [Value.slice.injEq] at e
    rw [← e.1] at h4
    obtain ⟨g, e', h5, _⟩ := h4 a ha
    rw [e']; exact h5

theorem read_any {w : World} {B : Nat} {A : Option Addr} {n c : Nat} {l : List Int} (h : Rd .u8 w B A n c l) (hl : By l) (hB : B ≤ w.heap.size) (hn : n ≤ 140737488355328) :
    Calls Tryz.prog 44 #[.slice A n c] w (NewRdr 102 l w) := by
  go_enter Tryz.func44, Tryz.ntmps44
  go_wp2_with fail
  refine (copyOf_any 0 0 rfl h hB (by omega)).mono ?_
  rintro en w1 ⟨A1, n1, c1, rfl, ho1, hb1⟩
  go_wp2_with fail
  go_ret
  exact newRdr_of ho1 hl hb1
theorem refRead_any {w : World} {B : Nat} {A : Option Addr} {n c : Nat} {l : List Int} (h : Rd .u8 w B A n c l) (hl : By l) (hB : B ≤ w.heap.size) (hn : n ≤ 140737488355328) :
    Calls Tryz.prog 51 #[.slice A n c] w (NewRdr 112 l w) := by
  go_enter Tryz.func51, Tryz.ntmps51
  go_wp2_with fail
  refine (copyBytes_any h (by omega)).mono ?_
  rintro en w1 ⟨A1, n1, c1, rfl, ho1, hb1⟩
  go_wp2_with fail
  go_ret
  exact newRdr_of ho1 hl hb1
end Go.Proofs.YteambkehdbffmaaGreat.Oct

namespace Go.Proofs.YteambkehdbffmaaGreat.Oct
open Go.RowKit
set_option linter.unusedVariables false

section
variable {w : World} {lo g : Nat} {l : List Int} {e : Int}
theorem refFail_any (x : Int) (h : Rdr 112 w lo g l e) :
    Calls Tryz.prog 95 #[.pointer (some ⟨g, 0, none⟩), .int .i64 x] w (IntRdr 112 w lo g 0 [] x) := by
  have h0 := h
  obtain ⟨A, n, c, hc, hlo, hrd, hb, hl, he⟩ := h
  obtain ⟨A', n', c', _, _, k0, k1, f0, f1⟩ := h0.cells
  have H0 := Kp.mk h0
  have HC := Kp.mk hc
  clear h0 hc he hb
  go_enter Tryz.func95, Tryz.ntmps95
  go_wp2_with fail
  go_ret
  exact ⟨rfl, H0.out.failed x (heap_set3 HC.out _ _), grown_trans2 (grownBy_set _ _ _ _) (grownBy_set _ _ _ _)⟩

theorem refErr_any (h : Rdr 112 w lo g l e) :
    Calls Tryz.prog 53 #[.pointer (some ⟨g, 0, none⟩)] w fun en w' => en = .returned (.int .i64 e) ∧ w = w' := by
  obtain ⟨A, n, c, hn, hrd, _, c1, _, _⟩ := h.cells
  go_enter Tryz.func53, Tryz.ntmps53
  go_wp2_with fail
  go_ret
  exact ⟨rfl, rfl⟩
theorem refEnd_any (hR : Rdr 112 w lo g l e) :
    Calls Tryz.prog 54 #[.pointer (some ⟨g, 0, none⟩)] w fun en w' => en = .returned (.int .i64 (endR l e)) ∧ w = w' := by
  obtain ⟨A, n, c, hn, hrd, c0, c1, _, _⟩ := hR.cells
  have hez := hR.ez
  by_cases hz : e = 0
  · subst hz
    by_cases hl : 0 < l.length
    · have hp := Kp.mk (show endR l 0 = 4 from if_pos hl)
      have hi : (0 : Int) < n := by omega
      have hi2 : 0 < n := by omega
      clear hn hl hez
      go_enter Tryz.func54, Tryz.ntmps54
      go_wp2_with fail
      rw [hp.out]
      go_ret
      exact ⟨rfl, rfl⟩
    · have hp := Kp.mk (show endR l 0 = 0 from if_neg hl)
      obtain rfl : n = 0 := by omega
      clear hn hl hez
      go_enter Tryz.func54, Tryz.ntmps54
      go_wp2_with fail
      rw [hp.out]
      go_ret
      exact ⟨rfl, rfl⟩
  · have hl := hez hz
    have hp := Kp.mk (show endR l e = e by rw [hl]; rfl)
    have hz' : (e == 0) = false := by simpa using hz
    clear hn hez hl hz
    go_enter Tryz.func54, Tryz.ntmps54
    go_wp2_with fail
    rw [hp.out]
    go_ret
    exact ⟨rfl, rfl⟩

theorem num_mul (l : List Int) (h : By l) (k : Nat) (hk : k < l.length) : 256 * ((num (l.take k) : Nat) : Int) + l.getD k 0 = ((num (l.take (k + 1)) : Nat) : Int) := by
  have hb := h.getD k
  rw [take_snoc l k hk, num_snoc]
  omega

set_option maxRecDepth 100000 in
set_option maxHeartbeats 1600000 in
theorem refNum_few1 (t : Nat) (ht : t = 1) (htl : l.length < t) (hR : Rdr 112 w lo g l 0) :
    Calls Tryz.prog 82 #[.pointer (some ⟨g, 0, none⟩), .int .i64 t] w (IntRdr 112 w lo g 0 [] 3) := by
  obtain ⟨A, n, c, hn, hrd, c0, c1, _, _⟩ := hR.cells
  have e1 : ((t : Int) != 1) = false := by rw [bne_eq_false_iff_eq]; omega
  have i1 : (n : Int) < t := by omega
  clear ht htl hn
  go_enter Tryz.func82, Tryz.ntmps82
  go_wp2_with fail
  refine (refFail_any 3 hR).mono ?_
  rintro en w1 ⟨rfl, h1, hg1⟩
  go_wp2_with fail
  go_ret
  exact ⟨rfl, h1, hg1⟩

set_option maxRecDepth 100000 in
set_option maxHeartbeats 1600000 in
theorem refNum_ok1 (t : Nat) (ht : t = 1) (htl : t ≤ l.length) (hR : Rdr 112 w lo g l 0) :
    Calls Tryz.prog 82 #[.pointer (some ⟨g, 0, none⟩), .int .i64 t] w (IntRdr 112 w lo g (num (l.take t) : Nat) (l.drop t) 0) := by
  have hR0 := hR
  obtain ⟨A, n, c, hc, hlo, hrd, hb, hl, he⟩ := hR
  have hn := hrd.len
  obtain ⟨b, off, rfl, hbg, hcell⟩ := hrd.at_ (by omega)
  have c0 : w.cell? ⟨g, 0, none⟩ = some (.slice (some ⟨b, off, none⟩) n c) := by simp [World.cell?, hc]
  have c1 : w.cell? ⟨g, 1, none⟩ = some (.int .i64 0) := by simp [World.cell?, hc]
  have f0 : w.frozen? ⟨g, 0, none⟩ = false := by simp [World.frozen?, hc]
  have i1 : (t : Int) ≤ n := by omega
  have i2 : (n : Int) ≤ c := by have := hrd.le; omega
  have i3 : (c : Int) ≤ 9223372036854775807 := by have := hrd.cap; unfold maxLen at this; omega
  have ht4 : t ≤ 4 := by omega
  have e1 : ((t : Int) != 1) = false := by rw [bne_eq_false_iff_eq]; omega
  have key : Kp (∀ A' : Option Addr, (A' = if c = t then some ⟨b, off, none⟩ else (some ⟨b, off, none⟩ : Option Addr).map (fun x => x.add t)) → Rdr 112 (w.setCell ⟨g, 0, none⟩ (.slice A' (n - t) (c - t))) lo g (l.drop t) 0) :=
    Kp.mk (fun A' hA => Rdr.drop_ hlo hrd hb hl he (by omega) hc hA)
  have hg := Kp.mk (fun u => grownBy_set w g 0 u)
  have Hcell := Kp.mk hcell
  have Hl := Kp.mk hl
  have Htl := Kp.mk htl
  have Hn := Kp.mk hn
  clear hc hlo hrd hb he hcell hR0 hl htl hn ht
  go_enter Tryz.func82, Tryz.ntmps82
  go_wp2_with fail
  go_loop [5, 6] (fun v i => ∃ k : Nat, k ≤ t ∧ i = .int .i64 k ∧ v = .int .i64 (num (l.take k) : Nat)) (fun _ i => t - (intOf i).toNat)
  case atStart => exact ⟨0, by omega, rfl, by simp [num]⟩
  case round =>
    obtain ⟨k, hk, rfl, rfl⟩ := hrel
    by_cases hlt : k < t
    · have hck := Hcell.out k (by omega)
      have hb := By.getD Hl.out k
      have hq := num_take_lt l Hl.out k (by omega)
      have hm := Kp.mk (num_mul l Hl.out k (by have := Htl.out; omega))
      have j1 : (k : Int) < n := by omega
      have j2 : (k : Int) < t := by omega
      generalize l.getD k 0 = x at *
      obtain ⟨hb1, hb2⟩ := hb
      generalize num (l.take k) = q at *
      go_wp2_with fail
      go_round
      case rel => exact ⟨k + 1, by omega, by go_num, by rw [hm.out]⟩
      case measure => simp [intOf]; omega
    · obtain rfl : k = t := by omega
      by_cases hck : c = k
      · have key2 := Kp.mk (key.out (some ⟨b, off, none⟩) (by rw [if_pos hck]))
        clear key
        subst hck
        go_wp2_with fail
        go_ret
        refine ⟨rfl, ?_, hg.out _⟩
        have := key2.out
        rw [Nat.sub_self] at this
        exact this
      · have key2 := Kp.mk (key.out (some ⟨b, off + k, none⟩) (by rw [if_neg hck, Option.map_some, add_addr]))
        clear key
        go_wp2_with fail
        go_ret
        exact ⟨rfl, key2.out, hg.out _⟩

set_option maxRecDepth 100000 in
set_option maxHeartbeats 1600000 in
theorem refNum_few2 (t : Nat) (ht : t = 2) (htl : l.length < t) (hR : Rdr 112 w lo g l 0) :
    Calls Tryz.prog 82 #[.pointer (some ⟨g, 0, none⟩), .int .i64 t] w (IntRdr 112 w lo g 0 [] 3) := by
  obtain ⟨A, n, c, hn, hrd, c0, c1, _, _⟩ := hR.cells
  have e1 : ((t : Int) != 1) = true := by rw [bne_iff_ne]; omega
  have e2 : ((t : Int) != 2) = false := by rw [bne_eq_false_iff_eq]; omega
  have i1 : (n : Int) < t := by omega
  clear ht htl hn
  go_enter Tryz.func82, Tryz.ntmps82
  go_wp2_with fail
  refine (refFail_any 3 hR).mono ?_
  rintro en w1 ⟨rfl, h1, hg1⟩
  go_wp2_with fail
  go_ret
  exact ⟨rfl, h1, hg1⟩

set_option maxRecDepth 100000 in
set_option maxHeartbeats 1600000 in
theorem refNum_ok2 (t : Nat) (ht : t = 2) (htl : t ≤ l.length) (hR : Rdr 112 w lo g l 0) :
    Calls Tryz.prog 82 #[.pointer (some ⟨g, 0, none⟩), .int .i64 t] w (IntRdr 112 w lo g (num (l.take t) : Nat) (l.drop t) 0) := by
  have hR0 := hR
  obtain ⟨A, n, c, hc, hlo, hrd, hb, hl, he⟩ := hR
  have hn := hrd.len
  obtain ⟨b, off, rfl, hbg, hcell⟩ := hrd.at_ (by omega)
  have c0 : w.cell? ⟨g, 0, none⟩ = some (.slice (some ⟨b, off, none⟩) n c) := by simp [World.cell?, hc]
  have c1 : w.cell? ⟨g, 1, none⟩ = some (.int .i64 0) := by simp [World.cell?, hc]
  have f0 : w.frozen? ⟨g, 0, none⟩ = false := by simp [World.frozen?, hc]
  have i1 : (t : Int) ≤ n := by omega
  have i2 : (n : Int) ≤ c := by have := hrd.le; omega
  have i3 : (c : Int) ≤ 9223372036854775807 := by have := hrd.cap; unfold maxLen at this; omega
  have ht4 : t ≤ 4 := by omega
  have e1 : ((t : Int) != 1) = true := by rw [bne_iff_ne]; omega
  have e2 : ((t : Int) != 2) = false := by rw [bne_eq_false_iff_eq]; omega
  have key : Kp (∀ A' : Option Addr, (A' = if c = t then some ⟨b, off, none⟩ else (some ⟨b, off, none⟩ : Option Addr).map (fun x => x.add t)) → Rdr 112 (w.setCell ⟨g, 0, none⟩ (.slice A' (n - t) (c - t))) lo g (l.drop t) 0) :=
    Kp.mk (fun A' hA => Rdr.drop_ hlo hrd hb hl he (by omega) hc hA)
  have hg := Kp.mk (fun u => grownBy_set w g 0 u)
  have Hcell := Kp.mk hcell
  have Hl := Kp.mk hl
  have Htl := Kp.mk htl
  have Hn := Kp.mk hn
  clear hc hlo hrd hb he hcell hR0 hl htl hn ht
  go_enter Tryz.func82, Tryz.ntmps82
  go_wp2_with fail
  go_loop [5, 6] (fun v i => ∃ k : Nat, k ≤ t ∧ i = .int .i64 k ∧ v = .int .i64 (num (l.take k) : Nat)) (fun _ i => t - (intOf i).toNat)
  case atStart => exact ⟨0, by omega, rfl, by simp [num]⟩
  case round =>
    obtain ⟨k, hk, rfl, rfl⟩ := hrel
    by_cases hlt : k < t
    · have hck := Hcell.out k (by omega)
      have hb := By.getD Hl.out k
      have hq := num_take_lt l Hl.out k (by omega)
      have hm := Kp.mk (num_mul l Hl.out k (by have := Htl.out; omega))
      have j1 : (k : Int) < n := by omega
      have j2 : (k : Int) < t := by omega
      generalize l.getD k 0 = x at *
      obtain ⟨hb1, hb2⟩ := hb
      generalize num (l.take k) = q at *
      go_wp2_with fail
      go_round
      case rel => exact ⟨k + 1, by omega, by go_num, by rw [hm.out]⟩
      case measure => simp [intOf]; omega
    · obtain rfl : k = t := by omega
      by_cases hck : c = k
      · have key2 := Kp.mk (key.out (some ⟨b, off, none⟩) (by rw [if_pos hck]))
        clear key
        subst hck
        go_wp2_with fail
        go_ret
        refine ⟨rfl, ?_, hg.out _⟩
        have := key2.out
        rw [Nat.sub_self] at this
        exact this
      · have key2 := Kp.mk (key.out (some ⟨b, off + k, none⟩) (by rw [if_neg hck, Option.map_some, add_addr]))
        clear key
        go_wp2_with fail
        go_ret
        exact ⟨rfl, key2.out, hg.out _⟩

set_option maxRecDepth 100000 in
set_option maxHeartbeats 1600000 in
theorem refNum_few4 (t : Nat) (ht : t = 4) (htl : l.length < t) (hR : Rdr 112 w lo g l 0) :
    Calls Tryz.prog 82 #[.pointer (some ⟨g, 0, none⟩), .int .i64 t] w (IntRdr 112 w lo g 0 [] 3) := by
  obtain ⟨A, n, c, hn, hrd, c0, c1, _, _⟩ := hR.cells
  have e1 : ((t : Int) != 1) = true := by rw [bne_iff_ne]; omega
  have e2 : ((t : Int) != 2) = true := by rw [bne_iff_ne]; omega
  have e4 : ((t : Int) != 4) = false := by rw [bne_eq_false_iff_eq]; omega
  have i1 : (n : Int) < t := by omega
  clear ht htl hn
  go_enter Tryz.func82, Tryz.ntmps82
  go_wp2_with fail
  refine (refFail_any 3 hR).mono ?_
  rintro en w1 ⟨rfl, h1, hg1⟩
  go_wp2_with fail
  go_ret
  exact ⟨rfl, h1, hg1⟩

set_option maxRecDepth 100000 in
set_option maxHeartbeats 1600000 in
theorem refNum_ok4 (t : Nat) (ht : t = 4) (htl : t ≤ l.length) (hR : Rdr 112 w lo g l 0) :
    Calls Tryz.prog 82 #[.pointer (some ⟨g, 0, none⟩), .int .i64 t] w (IntRdr 112 w lo g (num (l.take t) : Nat) (l.drop t) 0) := by
  have hR0 := hR
  obtain ⟨A, n, c, hc, hlo, hrd, hb, hl, he⟩ := hR
  have hn := hrd.len
  obtain ⟨b, off, rfl, hbg, hcell⟩ := hrd.at_ (by omega)
  have c0 : w.cell? ⟨g, 0, none⟩ = some (.slice (some ⟨b, off, none⟩) n c) := by simp [World.cell?, hc]
  have c1 : w.cell? ⟨g, 1, none⟩ = some (.int .i64 0) := by simp [World.cell?, hc]
  have f0 : w.frozen? ⟨g, 0, none⟩ = false := by simp [World.frozen?, hc]
  have i1 : (t : Int) ≤ n := by omega
  have i2 : (n : Int) ≤ c := by have := hrd.le; omega
  have i3 : (c : Int) ≤ 9223372036854775807 := by have := hrd.cap; unfold maxLen at this; omega
  have ht4 : t ≤ 4 := by omega
  have e1 : ((t : Int) != 1) = true := by rw [bne_iff_ne]; omega
  have e2 : ((t : Int) != 2) = true := by rw [bne_iff_ne]; omega
  have e4 : ((t : Int) != 4) = false := by rw [bne_eq_false_iff_eq]; omega
  have key : Kp (∀ A' : Option Addr, (A' = if c = t then some ⟨b, off, none⟩ else (some ⟨b, off, none⟩ : Option Addr).map (fun x => x.add t)) → Rdr 112 (w.setCell ⟨g, 0, none⟩ (.slice A' (n - t) (c - t))) lo g (l.drop t) 0) :=
    Kp.mk (fun A' hA => Rdr.drop_ hlo hrd hb hl he (by omega) hc hA)
  have hg := Kp.mk (fun u => grownBy_set w g 0 u)
  have Hcell := Kp.mk hcell
  have Hl := Kp.mk hl
  have Htl := Kp.mk htl
  have Hn := Kp.mk hn
  clear hc hlo hrd hb he hcell hR0 hl htl hn ht
  go_enter Tryz.func82, Tryz.ntmps82
  go_wp2_with fail
  go_loop [5, 6] (fun v i => ∃ k : Nat, k ≤ t ∧ i = .int .i64 k ∧ v = .int .i64 (num (l.take k) : Nat)) (fun _ i => t - (intOf i).toNat)
  case atStart => exact ⟨0, by omega, rfl, by simp [num]⟩
  case round =>
    obtain ⟨k, hk, rfl, rfl⟩ := hrel
    by_cases hlt : k < t
    · have hck := Hcell.out k (by omega)
      have hb := By.getD Hl.out k
      have hq := num_take_lt l Hl.out k (by omega)
      have hm := Kp.mk (num_mul l Hl.out k (by have := Htl.out; omega))
      have j1 : (k : Int) < n := by omega
      have j2 : (k : Int) < t := by omega
      generalize l.getD k 0 = x at *
      obtain ⟨hb1, hb2⟩ := hb
      generalize num (l.take k) = q at *
      go_wp2_with fail
      go_round
      case rel => exact ⟨k + 1, by omega, by go_num, by rw [hm.out]⟩
      case measure => simp [intOf]; omega
    · obtain rfl : k = t := by omega
      by_cases hck : c = k
      · have key2 := Kp.mk (key.out (some ⟨b, off, none⟩) (by rw [if_pos hck]))
        clear key
        subst hck
        go_wp2_with fail
        go_ret
        refine ⟨rfl, ?_, hg.out _⟩
        have := key2.out
        rw [Nat.sub_self] at this
        exact this
      · have key2 := Kp.mk (key.out (some ⟨b, off + k, none⟩) (by rw [if_neg hck, Option.map_some, add_addr]))
        clear key
        go_wp2_with fail
        go_ret
        exact ⟨rfl, key2.out, hg.out _⟩

theorem refNum_any (s : Int) (hR : Rdr 112 w lo g l e) :
    Calls Tryz.prog 82 #[.pointer (some ⟨g, 0, none⟩), .int .i64 s] w (IntRdr 112 w lo g (numR s l e).1 (numR s l e).2.1 (numR s l e).2.2) := by
  by_cases hz : e = 0
  · subst hz
    by_cases hs : s = 1 ∨ s = 2 ∨ s = 4
    · have hp : numR s l 0 = if l.length < s.toNat then (0, [], 3) else (((num (l.take s.toNat) : Nat) : Int), l.drop s.toNat, 0) := by
        unfold numR; rw [if_neg (by simp), if_pos hs]
      by_cases hl : l.length < s.toNat
      · rw [hp, if_pos hl]
        rcases hs with rfl | rfl | rfl
        · exact refNum_few1 1 rfl hl hR
        · exact refNum_few2 2 rfl hl hR
        · exact refNum_few4 4 rfl hl hR
      · rw [hp, if_neg hl]
        rcases hs with rfl | rfl | rfl
        · exact refNum_ok1 1 rfl (by omega) hR
        · exact refNum_ok2 2 rfl (by omega) hR
        · exact refNum_ok4 4 rfl (by omega) hR
    · have hp : numR s l 0 = (0, [], 2) := by unfold numR; rw [if_neg (by simp), if_neg hs]
      rw [hp]
      obtain ⟨A, n, c, hn, hrd, c0, c1, _, _⟩ := hR.cells
      have e1 : (s != 1) = true := by rw [bne_iff_ne]; omega
      have e2 : (s != 2) = true := by rw [bne_iff_ne]; omega
      have e4 : (s != 4) = true := by rw [bne_iff_ne]; omega
      clear hp hs hn
      go_enter Tryz.func82, Tryz.ntmps82
      go_wp2_with fail
      refine (refFail_any 2 hR).mono ?_
      rintro en w1 ⟨rfl, h1, hg1⟩
      go_wp2_with fail
      go_ret
      exact ⟨rfl, h1, hg1⟩
  · have hp : numR s l e = (0, l, e) := by unfold numR; rw [if_pos hz]
    rw [hp]
    obtain ⟨A, n, c, hn, hrd, c0, c1, _, _⟩ := hR.cells
    have e1 : (e != 0) = true := by rw [bne_iff_ne]; exact hz
    have e2 : (e == 0) = false := by simpa using hz
    clear hp hn hz
    go_enter Tryz.func82, Tryz.ntmps82
    go_wp2_with fail
    go_ret
    exact ⟨rfl, hR, World.grownBy.refl _ _⟩

set_option maxRecDepth 100000 in
set_option maxHeartbeats 1600000 in
theorem refText_anyM (h : Rdr 112 w lo g l e) :
    Calls Tryz.prog 84 #[.pointer (some ⟨g, 0, none⟩)] w (SliceRdr 112 w lo g (textR l e).1 (textR l e).2.1 (textR l e).2.2) := by
  obtain ⟨v, hv, hv2, hz⟩ := numR_2 l e h.by_ h.ez
  obtain ⟨l1, hl1⟩ : ∃ l1, (numR 2 l e).2.1 = l1 := ⟨_, rfl⟩
  obtain ⟨e1, he1⟩ : ∃ e1, (numR 2 l e).2.2 = e1 := ⟨_, rfl⟩
  have hnum := Kp.mk (show numR 2 l e = ((v : Int), l1, e1) by rw [← hv, ← hl1, ← he1])
  rw [hl1, he1] at hz
  by_cases h1z : e1 = 0
  · subst h1z
    by_cases hle : v ≤ l1.length
    · have ht := Kp.mk (textR_yes l e v l1 0 hnum.out hz hle)
      have hle' := Kp.mk hle
      clear hv hl1 he1 hz hle
      go_enter Tryz.func84, Tryz.ntmps84
      go_wp2_with fail
      refine (refNum_any 2 h).mono ?_
      rw [hnum.out]
      rintro en w1 ⟨rfl, h1, hg1⟩
      have h10 := h1
      obtain ⟨A, n, c, hc, hlo, hrd, hb, hl, he⟩ := h1
      have hn : l1.length = n := hrd.len
      have c0 : w1.cell? ⟨g, 0, none⟩ = some (.slice A n c) := by simp [World.cell?, hc]
      have c1 : w1.cell? ⟨g, 1, none⟩ = some (.int .i64 0) := by simp [World.cell?, hc]
      have i1 : (v : Int) ≤ n := by have := hle'.out; omega
      have i2 : (n : Int) ≤ c := by have := hrd.le; omega
      have i3 : (c : Int) ≤ 9223372036854775807 := by have := hrd.cap; unfold maxLen at this; omega
      have hr1 := Kp.mk (hrd.pre v (by have := hle'.out; omega))
      have hlt := h10.lt
      have hz1 := hg1.size
      clear hc hlo hrd hb hl he hn
      go_wp2_with fail
      refine (copyBytes_any hr1.out (by omega)).mono ?_
      rintro en w2 ⟨A2, n2, c2, rfl, ho2, hb2⟩
      have h2 := h10.below hb2
      have h20 := h2
      have hz2 := hb2.size
      obtain ⟨A', n', c', hc, hlo, hrd, hb, hl, he⟩ := h2
      have hn : l1.length = n' := hrd.len
      have d0 : w2.cell? ⟨g, 0, none⟩ = some (.slice A' n' c') := by simp [World.cell?, hc]
      have f0 : w2.frozen? ⟨g, 0, none⟩ = false := by simp [World.frozen?, hc]
      have i1' : (v : Int) ≤ n' := by have := hle'.out; omega
      have i2' : (n' : Int) ≤ c' := by have := hrd.le; omega
      have i3' : (c' : Int) ≤ 9223372036854775807 := by have := hrd.cap; unfold maxLen at this; omega
      have key : Kp (∀ A3 : Option Addr, (A3 = if c' = v then A' else A'.map (fun x => x.add v)) → Rdr 112 (w2.setCell ⟨g, 0, none⟩ (.slice A3 (n' - v) (c' - v))) lo g (l1.drop v) 0) :=
        Kp.mk (fun A3 hA => Rdr.drop_ hlo hrd hb hl he (by omega) hc hA)
      have ho3 : Kp (∀ u, Own (w2.setCell ⟨g, 0, none⟩ u) w1.heap.size (.slice A2 n2 c2) n2 (l1.take v)) := Kp.mk (fun u => ownsRow_setCell_below ho2 hlt u)
      have hg3 : Kp (∀ u, w.grownBy (w2.setCell ⟨g, 0, none⟩ u) (some g)) := Kp.mk (fun u => grown_trans2 (grown_trans2 hg1 (grown_of_below hb2 _)) (grownBy_set _ _ _ _))
      clear hc hlo hrd hb hl he hn c0 c1 h10 h20 ho2 hb2
      by_cases hck : c' = v
      · have key2 := Kp.mk (key.out A' (by rw [if_pos hck]))
        clear key
        subst hck
        go_wp2_with fail
        rw [ht.out]
        go_ret
        refine ⟨A2, n2, c2, rfl, (ho3.out _).lower (by omega), ?_, hg3.out _⟩
        have := key2.out
        rw [Nat.sub_self] at this
        exact this
      · have key2 := Kp.mk (key.out _ (if_neg hck).symm)
        clear key
        go_wp2_with fail
        rw [ht.out]
        go_ret
        exact ⟨A2, n2, c2, rfl, (ho3.out _).lower (by omega), key2.out, hg3.out _⟩
    · obtain ⟨_, ht'⟩ := textR_no l e v l1 0 hnum.out hz (by omega)
      have ht := Kp.mk ht'
      have hle' := Kp.mk hle
      clear hv hl1 he1 hz hle ht'
      go_enter Tryz.func84, Tryz.ntmps84
      go_wp2_with fail
      refine (refNum_any 2 h).mono ?_
      rw [hnum.out]
      rintro en w1 ⟨rfl, h1, hg1⟩
      obtain ⟨A, n, c, hn, hrd, c0, c1, _, _⟩ := h1.cells
      have hn' : l1.length = n := hn
      have i1 : (n : Int) < v := by have := hle'.out; omega
      clear hn'
      clear hn hrd
      go_wp2_with fail
      refine (refFail_any 3 h1).mono ?_
      rintro en w2 ⟨rfl, h2, hg2⟩
      go_wp2_with fail
      rw [ht.out]
      go_ret
      exact ⟨none, 0, 0, rfl, Own.nil _ _, h2, grown_trans2 hg1 hg2⟩
  · obtain ⟨rfl, rfl⟩ := hz h1z
    have ht := Kp.mk (textR_yes l e 0 [] e1 hnum.out hz (by simp))
    have e2 : (e1 != 0) = true := by rw [bne_iff_ne]; exact h1z
    have e3 : (e1 == 0) = false := by simpa using h1z
    clear hv hl1 he1 hz h1z
    go_enter Tryz.func84, Tryz.ntmps84
    go_wp2_with fail
    refine (refNum_any 2 h).mono ?_
    rw [hnum.out]
    rintro en w1 ⟨rfl, h1, hg1⟩
    obtain ⟨A, n, c, hn, hrd, c0, c1, _, _⟩ := h1.cells
    clear hn hrd
    go_wp2_with fail
    rw [ht.out]
    go_ret
    exact ⟨none, 0, 0, rfl, Own.nil _ _, h1, hg1⟩
end
end Go.Proofs.YteambkehdbffmaaGreat.Oct
