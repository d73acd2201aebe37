/- Readers: their state in memory, and the contracts of both readers' methods. -/
import Derived.Test.YtnhjpiaenbhilaaOctY
import Derived.Laws.Pointers
namespace Go.Proofs.Ytnhjpiaenbhilaa.Oct
open Go.RowKit
set_option linter.unusedVariables false

/-- A reader of type T lies in block g: l is left, e was wrong; its bytes lie in a block from lo on and ahead of g. -/
def Rdr (T : TypeId) (w : World) (lo g : Nat) (l : List Int) (e : Int) : Prop :=
  ∃ A n c, w.heap[g]? = some (.cells #[.slice A n c, .int .i64 e] T (0, 0)) ∧ lo ≤ g ∧ Rd .u8 w g A n c l ∧ (0 < n → ∀ a, A = some a → lo ≤ a.block) ∧ By l ∧ (e ≠ 0 → l = [])

section
variable {T : TypeId} {w w' : World} {lo g : Nat} {l : List Int} {e : Int}
theorem Rdr.by_ (h : Rdr T w lo g l e) : By l := by obtain ⟨_, _, _, _, _, _, _, h1, _⟩ := h; exact h1
theorem Rdr.lt (h : Rdr T w lo g l e) : g < w.heap.size := by
  obtain ⟨A, n, c, hg, _⟩ := h
  exact (Array.getElem?_eq_some_iff.1 hg).1
theorem Rdr.keep (h : Rdr T w lo g l e) {row : Option Nat} (hg : w.grownBy w' row) (hr : ∀ k, row = some k → k < lo ∨ g < k) : Rdr T w' lo g l e := by
  have hlt := h.lt
  obtain ⟨A, n, c, hc, hlo, hrd, hb, hl, he⟩ := h
  have key : ∀ k, lo ≤ k → k ≤ g → w'.heap[k]? = w.heap[k]? := fun k h1 h2 => hg.block k (by omega) (fun e => by have := hr k e.symm; omega)
  refine ⟨A, n, c, (key g hlo (Nat.le_refl _)).trans hc, hlo, ?_, hb, hl, he⟩
  refine ⟨hrd.1, hrd.2.1, hrd.2.2.1, hrd.2.2.2.1, fun hn => ?_⟩
  obtain ⟨b, off, ea, hbg, hcell⟩ := hrd.at_ hn
  refine ⟨b, off, ea, hbg, fun j hj => ?_⟩
  rw [World.cell?_of_block (w := w) (a := ⟨b, off + j, none⟩) (key b (hb hn _ ea) (by omega))]
  exact hcell j hj
theorem grown_of_below {a w : World} (h : Below a.heap.size a w) (row : Option Nat) : a.grownBy w row := ⟨h.os, h.tape, h.output, h.size, fun i hi _ => h.block i hi⟩
theorem Rdr.below (h : Rdr T w lo g l e) (hb : Below w.heap.size w w') : Rdr T w' lo g l e := h.keep (grown_of_below hb none) (fun k e => by simp at e)
theorem Rdr.cells (h : Rdr T w lo g l e) : ∃ A n c, l.length = n ∧ Rd .u8 w g A n c l ∧ w.cell? ⟨g, 0, none⟩ = some (.slice A n c) ∧ w.cell? ⟨g, 1, none⟩ = some (.int .i64 e) ∧ w.frozen? ⟨g, 0, none⟩ = false ∧ w.frozen? ⟨g, 1, none⟩ = false := by
  obtain ⟨A, n, c, hc, hlo, hrd, hb, hl, he⟩ := h
  refine ⟨A, n, c, hrd.len, hrd, ?_, ?_, ?_, ?_⟩ <;> simp [World.cell?, World.frozen?, hc]
theorem grownBy_set (w : World) (g i : Nat) (u : Value) : w.grownBy (w.setCell ⟨g, i, none⟩ u) (some g) :=
  ⟨rfl, rfl, rfl, by simp [World.setCell], fun k _ hk => Below.heap_setCell _ _ _ _ (fun e => hk (by rw [e]))⟩
/-- The two cells of a reader are stored anew: nothing is left, e' is wrong. -/
theorem Rdr.failed (h : Rdr T w lo g l e) (e' : Int) (hw : w'.heap[g]? = some (.cells #[.slice none 0 0, .int .i64 e'] T (0, 0))) : Rdr T w' lo g [] e' := by
  obtain ⟨A, n, c, hc, hlo, hrd, hb, hl, he⟩ := h
  exact ⟨none, 0, 0, hw, hlo, Rd.nil _ _ _, fun h => absurd h (by omega), By.nil, fun _ => rfl⟩
theorem heap_set {A : Option Addr} {n c : Nat} (h : w.heap[g]? = some (.cells #[.slice A n c, .int .i64 e] T (0, 0))) (u : Value) : (w.setCell ⟨g, 0, none⟩ u).heap[g]? = some (.cells #[u, .int .i64 e] T (0, 0)) := by
  simp [World.setCell, Array.getElem?_modify, h]
theorem heap_set2 {x y : Value} (h : w.heap[g]? = some (.cells #[x, y] T (0, 0))) (u v : Value) : ((w.setCell ⟨g, 0, none⟩ u).setCell ⟨g, 1, none⟩ v).heap[g]? = some (.cells #[u, v] T (0, 0)) := by
  simp [World.setCell, Array.getElem?_modify, h]
theorem heap_set3 {x y : Value} (h : w.heap[g]? = some (.cells #[x, y] T (0, 0))) (u v : Value) : ((w.setCell ⟨g, 1, none⟩ v).setCell ⟨g, 0, none⟩ u).heap[g]? = some (.cells #[u, v] T (0, 0)) := by
  simp [World.setCell, Array.getElem?_modify, h]
end

theorem grown_trans2 {a b c : World} {g : Nat} (h : a.grownBy b (some g)) (k : b.grownBy c (some g)) : a.grownBy c (some g) :=
  ⟨k.os.trans h.os, k.tape.trans h.tape, k.output.trans h.output, Nat.le_trans h.size k.size, fun i hi hne => (k.block i (Nat.lt_of_lt_of_le hi h.size) hne).trans (h.block i hi hne)⟩

/-- Both readers, plain: what a reading answers, what is left, what is wrong. -/
def numR (s : Int) (l : List Int) (e : Int) : Int × List Int × Int :=
  if e ≠ 0 then (0, l, e) else if s = 1 ∨ s = 2 ∨ s = 4 then (if l.length < s.toNat then (0, [], 3) else ((num (l.take s.toNat) : Nat), l.drop s.toNat, 0)) else (0, [], 2)
def textR (l : List Int) (e : Int) : List Int × List Int × Int :=
  if (numR 2 l e).2.2 ≠ 0 then ([], (numR 2 l e).2) else
  if (numR 2 l e).2.1.length < (numR 2 l e).1.toNat then ([], [], 3) else ((numR 2 l e).2.1.take (numR 2 l e).1.toNat, (numR 2 l e).2.1.drop (numR 2 l e).1.toNat, 0)

/-- A reading's end: an int, and the reader has become another one; nothing but its block, and new ones, has turned. -/
def IntRdr (T : TypeId) (w : World) (lo g : Nat) (v : Int) (l : List Int) (e : Int) (en : Ending) (w' : World) : Prop :=
  en = .returned (.int .i64 v) ∧ Rdr T w' lo g l e ∧ w.grownBy w' (some g)
def SliceRdr (T : TypeId) (w : World) (lo g : Nat) (t : List Int) (l : List Int) (e : Int) (en : Ending) (w' : World) : Prop :=
  ∃ A n c, en = .returned (.slice A n c) ∧ Own w' w.heap.size (.slice A n c) n t ∧ Rdr T w' lo g l e ∧ w.grownBy w' (some g)

theorem Rdr.drop_ {T : TypeId} {w : World} {lo g : Nat} {l : List Int} {e : Int} {A : Option Addr} {n c k : Nat} {A' : Option Addr}
    (hlo : lo ≤ g) (hrd : Rd .u8 w g A n c l) (hb : 0 < n → ∀ a, A = some a → lo ≤ a.block) (hl : By l) (he : e ≠ 0 → l = []) (hk : k ≤ n) (hc : w.heap[g]? = some (.cells #[.slice A n c, .int .i64 e] T (0, 0)))
    (hA : A' = if c = k then A else A.map (fun x => x.add k)) : Rdr T (w.setCell ⟨g, 0, none⟩ (.slice A' (n - k) (c - k))) lo g (l.drop k) e := by
  have hne : ∀ b, b < g → ∀ o, (w.setCell ⟨g, 0, none⟩ (.slice A' (n - k) (c - k))).cell? ⟨b, o, none⟩ = w.cell? ⟨b, o, none⟩ := fun b hb' o =>
    World.cell?_of_block (Below.heap_setCell _ _ _ _ (by simp; omega))
  have hle := hrd.le
  refine ⟨A', n - k, c - k, heap_set hc _, hlo, ⟨by rw [List.length_drop, hrd.len], by omega, by have := hrd.cap; omega, fun h => ?_, fun hn => ?_⟩, fun hn a ha => ?_, hl.drop _, fun h => by rw [he h]; simp⟩
  · subst hA
    split at h
    · have := hrd.2.2.2.1 h; omega
    · cases A with
      | none => have := hrd.2.2.2.1 rfl; omega
      | some a => simp at h
  · obtain ⟨b, off, e, hbg, hcell⟩ := hrd.at_ (by omega)
    subst e
    rw [if_neg (by omega)] at hA
    refine ⟨b, off + k, by rw [hA, Option.map_some, add_addr], hbg, fun j hj => ?_⟩
    rw [hne b hbg, Nat.add_assoc, hcell (k + j) (by omega), List.getD_eq_getElem?_getD, List.getD_eq_getElem?_getD, List.getElem?_drop]
  · obtain ⟨b, off, e, hbg, hcell⟩ := hrd.at_ (by omega)
    subst e
    rw [if_neg (by omega), Option.map_some, add_addr] at hA
    have := hb (by omega) _ rfl
    rw [hA] at ha
    simp at ha
    rw [← ha]; exact this

/-- The first error stays. -/
def err1 (e x : Int) : Int := if e = 0 then x else e
theorem err1_0 (x : Int) : err1 0 x = x := rfl
theorem err1_ne {e : Int} (x : Int) (h : e ≠ 0) : err1 e x = e := if_neg h

def TakeOk (T : TypeId) (w : World) (lo g : Nat) (t : List Int) (l : List Int) (e : Int) (en : Ending) (w' : World) : Prop :=
  ∃ A n c, en = .returned (.slice A n c) ∧ Rd .u8 w' g A n c t ∧ Rdr T w' lo g l e ∧ w.grownBy w' (some g)

section
variable {w : World} {lo g : Nat} {l : List Int} {e : Int}

theorem fail_any (x : Int) (h : Rdr 100 w lo g l e) :
    Calls Try.prog 75 #[.pointer (some ⟨g, 0, none⟩), .int .i64 x] w fun en w' => en = .returned (.tuple #[]) ∧ Rdr 100 w' lo g [] (err1 e x) ∧ w.grownBy w' (some g) := by
  have h0 := h
  obtain ⟨A, n, c, hc, hlo, hrd, hb, hl, he⟩ := h
  obtain ⟨A', n', c', _, _, k0, k1, f0, f1⟩ := h0.cells
  by_cases hz : e = 0
  · subst hz
    rw [err1_0]
    have H0 := Kp.mk h0
    have HC := Kp.mk hc
    clear h0 hc he hb
    go_enter Try.func75, Try.ntmps75
    go_wp2_with fail
    go_end0
    exact ⟨rfl, H0.out.failed x (heap_set2 HC.out _ _), grown_trans2 (grownBy_set _ _ _ _) (grownBy_set _ _ _ _)⟩
  · rw [err1_ne _ hz]
    have hz' : (e == 0) = false := by simpa using hz
    have hl0 := he hz
    rw [hl0] at h0
    have H0 := Kp.mk h0
    clear h0 hc he hb hl0 hz
    go_enter Try.func75, Try.ntmps75
    go_wp2_with fail
    go_end0
    exact ⟨rfl, H0.out, World.grownBy.refl _ _⟩

set_option maxHeartbeats 400000 in
theorem take_ok (k : Nat) (hk : k ≤ l.length) (h : Rdr 100 w lo g l e) :
    Calls Try.prog 77 #[.pointer (some ⟨g, 0, none⟩), .int .i64 k] w (TakeOk 100 w lo g (l.take k) (l.drop k) e) := by
  have h0 := h
  obtain ⟨A, n, c, hc, hlo, hrd, hb, hl, he⟩ := h
  have hn := hrd.len
  have c0 : w.cell? ⟨g, 0, none⟩ = some (.slice A n c) := by simp [World.cell?, hc]
  have f0 : w.frozen? ⟨g, 0, none⟩ = false := by simp [World.frozen?, hc]
  have i1 : (k : Int) ≤ n := by omega
  have i2 : (n : Int) ≤ c := by have := hrd.le; omega
  have i3 : (c : Int) ≤ 9223372036854775807 := by have := hrd.cap; unfold maxLen at this; omega
  have hnk : ¬ n < k := by omega
  have hr1 := Kp.mk (hrd.pre k (by omega))
  have key : Kp (∀ A' : Option Addr, (A' = if c = k then A else A.map (fun x => x.add k)) → Rdr 100 (w.setCell ⟨g, 0, none⟩ (.slice A' (n - k) (c - k))) lo g (l.drop k) e) :=
    Kp.mk (fun A' hA => Rdr.drop_ hlo hrd hb hl he (by omega) hc hA)
  have hkeep : Kp (∀ u, Rd .u8 (w.setCell ⟨g, 0, none⟩ u) g A k c (l.take k)) := Kp.mk (fun u => hr1.out.keep fun b o hb' => World.cell?_of_block (Below.heap_setCell _ _ _ _ (by simp; omega)))
  have hg := Kp.mk (fun u => grownBy_set w g 0 u)
  clear h0 hc hlo hrd hb hl he hn hk
  by_cases hck : c = k
  · subst hck
    have key2 := Kp.mk (key.out A (by rw [if_pos rfl]))
    clear key
    go_enter Try.func77, Try.ntmps77
    go_wp2_with fail
    go_ret
    refine ⟨A, c, c, rfl, hkeep.out _, ?_, hg.out _⟩
    have := key2.out
    rw [Nat.sub_self] at this
    exact this
  · have key2 := Kp.mk (key.out _ (if_neg hck).symm)
    clear key
    go_enter Try.func77, Try.ntmps77
    go_wp2_with fail
    go_ret
    exact ⟨A, k, c, rfl, hkeep.out _, key2.out, hg.out _⟩

theorem take_few (k : Nat) (hk : l.length < k) (hR : Rdr 100 w lo g l e) :
    Calls Try.prog 77 #[.pointer (some ⟨g, 0, none⟩), .int .i64 k] w (TakeOk 100 w lo g [] [] (err1 e 3)) := by
  obtain ⟨A, n, c, hn, hrd, c0, _, f0, _⟩ := hR.cells
  have i1 : (n : Int) < k := by omega
  have hnk : n < k := by omega
  clear hn hk hrd
  go_enter Try.func77, Try.ntmps77
  go_wp2_with fail
  refine (fail_any 3 hR).mono ?_
  rintro en w1 ⟨rfl, h1, hg1⟩
  go_wp2_with fail
  go_ret
  exact ⟨none, 0, 0, rfl, Rd.nil _ _ _, h1, hg1⟩

theorem num_any (s : Int) (h : Rdr 100 w lo g l e) :
    Calls Try.prog 46 #[.pointer (some ⟨g, 0, none⟩), .int .i64 s] w (IntRdr 100 w lo g (numR s l e).1 (numR s l e).2.1 (numR s l e).2.2) := by
  have hby := h.by_
  have he0 : e ≠ 0 → l = [] := by obtain ⟨_, _, _, _, _, _, _, _, he⟩ := h; exact he
  by_cases hs : s = 1 ∨ s = 2 ∨ s = 4
  · obtain ⟨t, rfl⟩ : ∃ t : Nat, s = t := ⟨s.toNat, by omega⟩
    have hd := Kp.mk (show decide ((t : Int) = 1 ∨ (t : Int) = 2 ∨ (t : Int) = 4) = true by simpa using hs)
    by_cases hl : l.length < t
    · have hp := Kp.mk (show numR t l e = (0, [], err1 e 3) by
        unfold numR
        by_cases hz : e = 0
        · subst hz; rw [if_neg (by simp), if_pos hs, Int.toNat_natCast, if_pos hl]; rfl
        · rw [if_pos hz, he0 hz, err1_ne _ hz])
      clear hs he0
      go_enter Try.func46, Try.ntmps46
      go_wp2_with fail
      refine (isSize_any _ _).mono ?_
      rw [hd.out]
      rintro en w' ⟨rfl, rfl⟩
      go_wp2_with fail
      refine (take_few t hl h).mono ?_
      rintro en w1 ⟨A1, n1, c1, rfl, r1, h1, hg1⟩
      have hn1 := r1.len
      simp at hn1
      go_wp2_with fail
      refine (number_any r1 By.nil (by omega)).mono ?_
      rintro en w' ⟨rfl, rfl⟩
      go_wp2_with fail
      rw [hp.out]
      go_ret
      exact ⟨rfl, h1, hg1⟩
    · have hz : e = 0 := by
        by_cases hz : e = 0
        · exact hz
        · have := he0 hz; subst this; simp at hl; omega
      subst hz
      have hp := Kp.mk (show numR t l 0 = (((num (l.take t) : Nat) : Int), l.drop t, 0) by
        unfold numR
        rw [if_neg (by simp), if_pos hs, Int.toNat_natCast, if_neg hl])
      have ht4 : t ≤ 4 := by omega
      clear hs he0
      go_enter Try.func46, Try.ntmps46
      go_wp2_with fail
      refine (isSize_any _ _).mono ?_
      rw [hd.out]
      rintro en w' ⟨rfl, rfl⟩
      go_wp2_with fail
      refine (take_ok t (by omega) h).mono ?_
      rintro en w1 ⟨A1, n1, c1, rfl, r1, h1, hg1⟩
      have hn1 := r1.len
      rw [List.length_take] at hn1
      have hn4 : n1 ≤ 4 := by omega
      clear hn1
      go_wp2_with fail
      refine (number_any r1 (hby.take _) hn4).mono ?_
      rintro en w' ⟨rfl, rfl⟩
      go_wp2_with fail
      rw [hp.out]
      go_ret
      exact ⟨rfl, h1, hg1⟩
  · have hd := Kp.mk (show decide (s = 1 ∨ s = 2 ∨ s = 4) = false by simpa using hs)
    have hp := Kp.mk (show numR s l e = (0, [], err1 e 2) by
      unfold numR
      by_cases hz : e = 0
      · subst hz; rw [if_neg (by simp), if_neg hs]; rfl
      · rw [if_pos hz, he0 hz, err1_ne _ hz])
    clear hs he0
    go_enter Try.func46, Try.ntmps46
    go_wp2_with fail
    refine (isSize_any _ _).mono ?_
    rw [hd.out]
    rintro en w' ⟨rfl, rfl⟩
    go_wp2_with fail
    refine (fail_any 2 h).mono ?_
    rintro en w1 ⟨rfl, h1, hg1⟩
    go_wp2_with fail
    rw [hp.out]
    go_ret
    exact ⟨rfl, h1, hg1⟩
end
end Go.Proofs.Ytnhjpiaenbhilaa.Oct
