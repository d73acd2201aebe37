/- Contracts of octet's reader: Read, Text, Left, Err, End. -/
import Derived.Test.YtnhjpiaenbhilaaOctM
namespace Go.Proofs.Ytnhjpiaenbhilaa.Oct
open Go.RowKit
set_option linter.unusedVariables false

theorem numR_by (s : Int) (l : List Int) (e : Int) (h : By l) : By (numR s l e).2.1 := by
  unfold numR
  split
  · exact h
  · split
    · split
      · exact By.nil
      · exact h.drop _
    · exact By.nil
theorem numR_2 (l : List Int) (e : Int) (h : By l) (he : e ≠ 0 → l = []) : ∃ v : Nat, (numR 2 l e).1 = v ∧ v < 65536 ∧ ((numR 2 l e).2.2 ≠ 0 → v = 0 ∧ (numR 2 l e).2.1 = []) := by
  unfold numR
  by_cases hz : e = 0
  · subst hz
    rw [if_neg (by simp), if_pos (by omega)]
    by_cases hl : l.length < (2 : Int).toNat
    · rw [if_pos hl]; exact ⟨0, rfl, by omega, fun _ => ⟨rfl, rfl⟩⟩
    · rw [if_neg hl]
      refine ⟨_, rfl, ?_, fun h => absurd rfl h⟩
      have := num_lt (l.take (2 : Int).toNat) (h.take _)
      have h2 : (l.take (2 : Int).toNat).length = 2 := by rw [List.length_take]; simp at hl ⊢; omega
      rw [h2] at this
      omega
  · rw [if_pos hz]; exact ⟨0, rfl, by omega, fun _ => ⟨rfl, he hz⟩⟩
theorem textR_yes (l : List Int) (e : Int) (v : Nat) (l1 : List Int) (e1 : Int) (hn : numR 2 l e = ((v : Int), l1, e1)) (hz : e1 ≠ 0 → v = 0 ∧ l1 = []) (hv : v ≤ l1.length) : textR l e = (l1.take v, l1.drop v, e1) := by
  unfold textR
  rw [hn]
  by_cases h : e1 = 0
  · subst h; simp; omega
  · obtain ⟨rfl, rfl⟩ := hz h; simp [h]
theorem textR_no (l : List Int) (e : Int) (v : Nat) (l1 : List Int) (e1 : Int) (hn : numR 2 l e = ((v : Int), l1, e1)) (hz : e1 ≠ 0 → v = 0 ∧ l1 = []) (hv : l1.length < v) : e1 = 0 ∧ textR l e = ([], [], 3) := by
  have h : e1 = 0 := by
    by_cases h : e1 = 0
    · exact h
    · obtain ⟨rfl, rfl⟩ := hz h; simp at hv
  subst h
  unfold textR
  rw [hn]
  simp; omega
theorem textR_by (l : List Int) (e : Int) (h : By l) : By (textR l e).1 := by
  unfold textR
  split
  · exact By.nil
  · split
    · exact By.nil
    · exact (numR_by _ _ _ h).take _

section
variable {w : World} {lo g : Nat} {l : List Int} {e : Int}
theorem Rdr.ez {T : TypeId} (h : Rdr T w lo g l e) : e ≠ 0 → l = [] := by obtain ⟨_, _, _, _, _, _, _, _, he⟩ := h; exact he

set_option maxHeartbeats 400000 in
theorem textM_any (h : Rdr 100 w lo g l e) :
    Calls Try.prog 80 #[.pointer (some ⟨g, 0, none⟩)] w (SliceRdr 100 w lo g (textR l e).1 (textR l e).2.1 (textR l e).2.2) := by
  obtain ⟨v, hv, hv2, hz⟩ := numR_2 l e h.by_ h.ez
  obtain ⟨l1, hl1⟩ : ∃ l1, (numR 2 l e).2.1 = l1 := ⟨_, rfl⟩
  obtain ⟨e1, he1⟩ : ∃ e1, (numR 2 l e).2.2 = e1 := ⟨_, rfl⟩
  have hnum := Kp.mk (show numR 2 l e = ((v : Int), l1, e1) by rw [← hv, ← hl1, ← he1])
  rw [hl1, he1] at hz
  by_cases hle : v ≤ l1.length
  · have ht := Kp.mk (textR_yes l e v l1 e1 hnum.out hz hle)
    clear hv hl1 he1 hz
    go_enter Try.func80, Try.ntmps80
    go_wp2_with fail
    refine (num_any 2 h).mono ?_
    rw [hnum.out]
    rintro en w1 ⟨rfl, h1, hg1⟩
    go_wp2_with fail
    refine (take_ok v hle h1).mono ?_
    rintro en w2 ⟨A2, n2, c2, rfl, r2, h2, hg2⟩
    have hz2 := Nat.le_trans hg1.size hg2.size
    have hlt := h2.lt
    have hn2 := r2.len
    rw [List.length_take] at hn2
    go_wp2_with fail
    refine (copyOf_any 0 0 rfl r2 (by omega) (by omega)).mono ?_
    rintro en w3 ⟨A3, n3, c3, rfl, ho3, hb3⟩
    go_wp2_with fail
    rw [ht.out]
    go_ret
    exact ⟨A3, n3, c3, rfl, ho3.lower hz2, h2.below hb3, grown_trans2 (grown_trans2 hg1 hg2) (grown_of_below hb3 _)⟩
  · obtain ⟨he0, ht'⟩ := textR_no l e v l1 e1 hnum.out hz (by omega)
    have ht := Kp.mk ht'
    subst he0
    clear hv hl1 he1 hz ht'
    go_enter Try.func80, Try.ntmps80
    go_wp2_with fail
    refine (num_any 2 h).mono ?_
    rw [hnum.out]
    rintro en w1 ⟨rfl, h1, hg1⟩
    go_wp2_with fail
    refine (take_few v (by omega) h1).mono ?_
    rintro en w2 ⟨A2, n2, c2, rfl, r2, h2, hg2⟩
    have hz2 := Nat.le_trans hg1.size hg2.size
    have hlt := h2.lt
    have hn2 := r2.len
    simp at hn2
    go_wp2_with fail
    refine (copyOf_any 0 0 rfl r2 (by omega) (by omega)).mono ?_
    rintro en w3 ⟨A3, n3, c3, rfl, ho3, hb3⟩
    go_wp2_with fail
    rw [ht.out]
    go_ret
    exact ⟨A3, n3, c3, rfl, ho3.lower hz2, h2.below hb3, grown_trans2 (grown_trans2 hg1 hg2) (grown_of_below hb3 _)⟩

theorem leftM_any (h : Rdr 100 w lo g l e) :
    Calls Try.prog 81 #[.pointer (some ⟨g, 0, none⟩)] w fun en w' => en = .returned (.int .i64 (l.length : Nat)) ∧ w = w' := by
  obtain ⟨A, n, c, hn, hrd, c0, _, f0, _⟩ := h.cells
  have Hn := Kp.mk hn
  clear hn
  go_enter Try.func81, Try.ntmps81
  go_wp2_with fail
  go_ret
  exact ⟨ret_int (by rw [Hn.out]), rfl⟩
theorem errM_any (h : Rdr 100 w lo g l e) :
    Calls Try.prog 48 #[.pointer (some ⟨g, 0, none⟩)] w fun en w' => en = .returned (.int .i64 e) ∧ w = w' := by
  obtain ⟨A, n, c, hn, hrd, _, c1, _, _⟩ := h.cells
  go_enter Try.func48, Try.ntmps48
  go_wp2_with fail
  go_ret
  exact ⟨rfl, rfl⟩
/-- What End tells. -/
def endR (l : List Int) (e : Int) : Int := if 0 < l.length then 4 else e
theorem endM_any (hR : Rdr 100 w lo g l e) :
    Calls Try.prog 49 #[.pointer (some ⟨g, 0, none⟩)] w fun en w' => en = .returned (.int .i64 (endR l e)) ∧ w = w' := by
  by_cases hl : 0 < l.length
  · have hp := Kp.mk (show endR l e = 4 from if_pos hl)
    have hi : (0 : Int) < (l.length : Nat) := by omega
    go_enter Try.func49, Try.ntmps49
    go_wp2_with fail
    refine (leftM_any hR).mono ?_
    rintro en w' ⟨rfl, rfl⟩
    generalize l.length = m at *
    go_wp2_with fail
    rw [hp.out]
    go_ret
    exact ⟨rfl, rfl⟩
  · have hp := Kp.mk (show endR l e = e from if_neg hl)
    have hl0 : l.length = 0 := by omega
    have Hl := Kp.mk hl0
    clear hl hl0
    go_enter Try.func49, Try.ntmps49
    go_wp2_with fail
    refine (leftM_any hR).mono ?_
    rw [Hl.out]
    rintro en w' ⟨rfl, rfl⟩
    go_wp2_with fail
    refine (errM_any hR).mono ?_
    rintro en w' ⟨rfl, rfl⟩
    go_wp2_with fail
    rw [hp.out]
    go_ret
    exact ⟨rfl, rfl⟩
end

/-- A new reader: its bytes, and it itself, lie in new blocks. -/
def NewRdr (T : TypeId) (l : List Int) (w : World) (en : Ending) (w' : World) : Prop :=
  ∃ g, en = .returned (.pointer (some ⟨g, 0, none⟩)) ∧ Rdr T w' w.heap.size g l 0 ∧ Below w.heap.size w w'
theorem newRdr_of {T : TypeId} {l : List Int} {w w1 : World} {A : Option Addr} {n c : Nat} (ho : Own w1 w.heap.size (.slice A n c) n l) (hl : By l) (hb : Below w.heap.size w w1) :
    NewRdr T l w (.returned (.pointer (some ⟨w1.heap.size, 0, none⟩))) (w1.alloc (.cells #[.slice A n c, .int .i64 0] T)) := by
  refine ⟨w1.heap.size, rfl, ⟨A, n, c, heap_alloc_new w1 _, hb.size, ?_, ?_, hl, fun h => absurd rfl h⟩, hb.alloc hb.size _⟩
  · exact ho.rd.below (below_alloc w1 _)
  · intro hn a ha
    obtain ⟨A', c', e, _, _, _, h4⟩ := ho.form
    simp only [Value.slice.injEq] at e
    rw [← e.1] at h4
    obtain ⟨g, e', h5, _⟩ := h4 a ha
    rw [e']; exact h5

theorem read_any {w : World} {B : Nat} {A : Option Addr} {n c : Nat} {l : List Int} (h : Rd .u8 w B A n c l) (hl : By l) (hB : B ≤ w.heap.size) (hn : n ≤ 140737488355328) :
    Calls Try.prog 45 #[.slice A n c] w (NewRdr 100 l w) := by
  go_enter Try.func45, Try.ntmps45
  go_wp2_with fail
  refine (copyOf_any 0 0 rfl h hB (by omega)).mono ?_
  rintro en w1 ⟨A1, n1, c1, rfl, ho1, hb1⟩
  go_wp2_with fail
  go_ret
  exact newRdr_of ho1 hl hb1
theorem refRead_any {w : World} {B : Nat} {A : Option Addr} {n c : Nat} {l : List Int} (h : Rd .u8 w B A n c l) (hl : By l) (hB : B ≤ w.heap.size) (hn : n ≤ 140737488355328) :
    Calls Try.prog 50 #[.slice A n c] w (NewRdr 110 l w) := by
  go_enter Try.func50, Try.ntmps50
  go_wp2_with fail
  refine (copyBytes_any h (by omega)).mono ?_
  rintro en w1 ⟨A1, n1, c1, rfl, ho1, hb1⟩
  go_wp2_with fail
  go_ret
  exact newRdr_of ho1 hl hb1
end Go.Proofs.Ytnhjpiaenbhilaa.Oct
