/- Contracts of layer 5: numbers that are read into their places; a body is read. -/
import Derived.Test.YtbniefgfiafaoaaSegA
import Derived.StillTailTactics
namespace Go.Proofs.Ytbniefgfiafaoaa.Oct
open Go.RowKit
set_option linter.unusedVariables false

theorem Rdr.off {T : TypeId} {w : World} {lo g : Nat} {l : List Int} {e : Int} (h : Rdr T w lo g l e) (b o : Nat) (u : Value) (hb : b < lo ∨ g < b) : Rdr T (w.setCell ⟨b, o, none⟩ u) lo g l e :=
  h.keep (grownBy_set w b o u) (fun k e => by simp at e; omega)
/-- k readings of size s, laid from place o on: the numbers, what is left, what was wrong. -/
def stS (s : Int) (o : Nat) (vs : List Int) (l : List Int) (e : Int) : Nat → List Int × List Int × Int
  | 0 => (vs, l, e)
  | k + 1 => ((stS s o vs l e k).1.set (o + k) (numR s (stS s o vs l e k).2.1 (stS s o vs l e k).2.2).1, (numR s (stS s o vs l e k).2.1 (stS s o vs l e k).2.2).2.1, (numR s (stS s o vs l e k).2.1 (stS s o vs l e k).2.2).2.2)
theorem stS_succ (s : Int) (o : Nat) (vs : List Int) (l : List Int) (e : Int) (k : Nat) : stS s o vs l e (k + 1) = ((stS s o vs l e k).1.set (o + k) (numR s (stS s o vs l e k).2.1 (stS s o vs l e k).2.2).1, (numR s (stS s o vs l e k).2.1 (stS s o vs l e k).2.2).2.1, (numR s (stS s o vs l e k).2.1 (stS s o vs l e k).2.2).2.2) := rfl
theorem stS_len (s : Int) (o : Nat) (vs l : List Int) (e : Int) : ∀ k, (stS s o vs l e k).1.length = vs.length
  | 0 => rfl
  | k + 1 => by rw [stS, List.length_set, stS_len s o vs l e k]

section
variable {w : World} {B lo g gs gp o cnt : Nat} {l vs : List Int} {e : Int} {m : Value}
set_option maxRecDepth 100000 in
set_option maxHeartbeats 1600000 in
theorem readInto_any (s : Int) (hR : Rdr 75 w lo g l e) (hx : Sg w gs vs m) (hp : ∀ j, j < cnt → w.cell? ⟨gp, j, none⟩ = some (.pointer (some ⟨gs, o + j, none⟩))) (ho : o + cnt ≤ vs.length) (hcnt : cnt ≤ 100)
    (hgp : gp < w.heap.size) (h1 : gp ≠ gs) (h2 : gp ≠ g) (h3 : gs < lo) (hB : B ≤ g) (hB2 : B ≤ gs) (hB3 : B ≤ w.heap.size) :
    Calls Try.prog 50 #[.pointer (some ⟨g, 0, none⟩), .int .i64 s, .slice (some ⟨gp, 0, none⟩) cnt cnt] w fun en w' => en = .returned (.tuple #[]) ∧
      Rdr 75 w' lo g (stS s o vs l e cnt).2.1 (stS s o vs l e cnt).2.2 ∧ Sg w' gs (stS s o vs l e cnt).1 m ∧ Below B w w' := by
  have hlo : lo ≤ g := by obtain ⟨_, _, _, _, hlo, _⟩ := hR; exact hlo
  have hne : gs ≠ g := by omega
  have Hp := Kp.mk hp
  have Hne := Kp.mk (And.intro h1 h2)
  clear hp h1 h2
  go_enter Try.func50, Try.ntmps50
  go_wp2_with fail
  go_loopw [7, 10] (fun v i wr => ∃ k : Nat, k ≤ cnt ∧ i = .int .i64 k ∧ Rdr 75 wr lo g (stS s o vs l e k).2.1 (stS s o vs l e k).2.2 ∧ Sg wr gs (stS s o vs l e k).1 m ∧ Kp (∀ j, j < cnt → wr.cell? ⟨gp, j, none⟩ = some (.pointer (some ⟨gs, o + j, none⟩))) ∧ Below B w wr) (fun _ i _ => cnt - (intOf i).toNat)
  case atStart => exact ⟨0, by omega, rfl, hR, hx, Hp, Below.refl _ _⟩
  case round =>
    clear hR hx Hp
    obtain ⟨k, hk, rfl, hR, hx, Hp, hb⟩ := hrel
    have hz := hb.size
    have hlen := stS_len s o vs l e k
    by_cases hlt : k < cnt
    · have ck := Hp.out k hlt
      have j1 : (k : Int) < cnt := by omega
      have Hs := Kp.mk (stS_succ s o vs l e k)
      generalize stS s o vs l e k = st at *
      go_wp2_with fail
      refine (num_any s hR).mono ?_
      generalize numR s st.2.1 st.2.2 = q at *
      rintro en w1 ⟨rfl, hR1, hg1⟩
      have hx1 := hx.grown hg1 hne
      have hf := hx1.free (o + k)
      have hc := hx1.cell (o + k) (by omega)
      have hx2 := hx1.set (o + k) (by omega) q.1
      have hR2 := hR1.off gs (o + k) (.int .i64 q.1) (.inl h3)
      have hg2 := grownBy_set w1 gs (o + k) (.int .i64 q.1)
      have Hp2 : Kp (∀ j, j < cnt → (w1.setCell ⟨gs, o + k, none⟩ (.int .i64 q.1)).cell? ⟨gp, j, none⟩ = some (.pointer (some ⟨gs, o + j, none⟩))) := Kp.mk (fun j hj => grown_cell hg2 (grown_cell hg1 (Hp.out j hj) Hne.out.2) Hne.out.1)
      have hb2 := (hb.grown hg1 (by omega) (fun k e => by simp at e; omega)).setCell (p := ⟨gs, o + k, none⟩) (by simp; omega) (.int .i64 q.1)
      have HX := Kp.mk (And.intro hR2 (And.intro hx2 hb2))
      clear hR hx hR1 hx1 hx2 hR2 hg2 hb2 hb hg1 ck Hp
      go_wp2_with fail
      go_roundw
      case rel => exact ⟨k + 1, by omega, by go_num, by rw [Hs.out]; exact HX.out.1, by rw [Hs.out]; exact HX.out.2.1, Hp2, HX.out.2.2⟩
      case measure => simp [intOf]; omega
    · obtain rfl : k = cnt := by omega
      go_wp2_with fail
      go_end0
      exact ⟨rfl, hR, hx, hb⟩
end

/-- A segment and an error are answered; only new memory, and the message in new memory alone. -/
def SegRet (x : SegV) (er : Int) (w : World) (en : Ending) (w' : World) : Prop :=
  ∃ A n c, en = .returned (.tuple #[.agg #[.int .i64 x.k, .int .i64 x.t, .int .i64 x.f, .int .i64 x.h, .int .i64 x.p, .int .i64 x.o, .int .i64 x.s, .int .i64 x.a, .slice A n c], .int .i64 er]) ∧
    Own w' w.heap.size (.slice A n c) n x.b ∧ Below w.heap.size w w'
theorem st_four (l : List Int) : stS 1 0 [0, 0, 0, 0, 0, 0, 0, 0] l 0 4 = ([(u1 l).1, (u2 l).1, (u3 l).1, (u4 l).1, 0, 0, 0, 0], (u4 l).2.1, (u4 l).2.2) := by
  have h1 : stS 1 0 [0, 0, 0, 0, 0, 0, 0, 0] l 0 (0 + 1) = ([(u1 l).1, 0, 0, 0, 0, 0, 0, 0], (u1 l).2.1, (u1 l).2.2) := rfl
  have h2 : stS 1 0 [0, 0, 0, 0, 0, 0, 0, 0] l 0 (0 + 1 + 1) = ([(u1 l).1, (u2 l).1, 0, 0, 0, 0, 0, 0], (u2 l).2.1, (u2 l).2.2) := by rw [stS_succ, h1]; rfl
  have h3 : stS 1 0 [0, 0, 0, 0, 0, 0, 0, 0] l 0 (0 + 1 + 1 + 1) = ([(u1 l).1, (u2 l).1, (u3 l).1, 0, 0, 0, 0, 0], (u3 l).2.1, (u3 l).2.2) := by rw [stS_succ, h2]; rfl
  show stS 1 0 [0, 0, 0, 0, 0, 0, 0, 0] l 0 (0 + 1 + 1 + 1 + 1) = _
  rw [stS_succ, h3]; rfl
theorem st_longs (l : List Int) (a b c d : Int) : stS 4 4 [a, b, c, d, 0, 0, 0, 0] (u4 l).2.1 (u4 l).2.2 2 = ([a, b, c, d, (u5 l).1, (u6 l).1, 0, 0], (u6 l).2.1, (u6 l).2.2) := by
  have h1 : stS 4 4 [a, b, c, d, 0, 0, 0, 0] (u4 l).2.1 (u4 l).2.2 (0 + 1) = ([a, b, c, d, (u5 l).1, 0, 0, 0], (u5 l).2.1, (u5 l).2.2) := by rw [stS_succ, stS]; rfl
  show stS 4 4 [a, b, c, d, 0, 0, 0, 0] (u4 l).2.1 (u4 l).2.2 (0 + 1 + 1) = _
  rw [stS_succ, h1]; rfl
theorem st_shorts (l : List Int) (a b c d e f : Int) : stS 2 6 [a, b, c, d, e, f, 0, 0] (u6 l).2.1 (u6 l).2.2 2 = ([a, b, c, d, e, f, (u7 l).1, (u8 l).1], (u8 l).2.1, (u8 l).2.2) := by
  have h1 : stS 2 6 [a, b, c, d, e, f, 0, 0] (u6 l).2.1 (u6 l).2.2 (0 + 1) = ([a, b, c, d, e, f, (u7 l).1, 0], (u7 l).2.1, (u7 l).2.2) := by rw [stS_succ, stS]; rfl
  show stS 2 6 [a, b, c, d, e, f, 0, 0] (u6 l).2.1 (u6 l).2.2 (0 + 1 + 1) = _
  rw [stS_succ, h1]; rfl
theorem ptrs4 (w : World) (gs : Nat) : ∀ j, j < 4 → (w.alloc (.cells #[.pointer (some ⟨gs, 0, none⟩), .pointer (some ⟨gs, 1, none⟩), .pointer (some ⟨gs, 2, none⟩), .pointer (some ⟨gs, 3, none⟩)] 67)).cell? ⟨w.heap.size, j, none⟩ = some (.pointer (some ⟨gs, 0 + j, none⟩)) := by
  intro j hj
  rw [World.cell?_alloc_new]
  match j, hj with
  | 0, _ => rfl
  | 1, _ => rfl
  | 2, _ => rfl
  | 3, _ => rfl
theorem ptrs2 (w : World) (gs x : Nat) : ∀ j, j < 2 → (w.alloc (.cells #[.pointer (some ⟨gs, x, none⟩), .pointer (some ⟨gs, x + 1, none⟩)] 67)).cell? ⟨w.heap.size, j, none⟩ = some (.pointer (some ⟨gs, x + j, none⟩)) := by
  intro j hj
  rw [World.cell?_alloc_new]
  match j, hj with
  | 0, _ => rfl
  | 1, _ => rfl

set_option maxRecDepth 100000 in
set_option maxHeartbeats 3200000 in
theorem readS_any {w : World} {B : Nat} {A : Option Addr} {n c : Nat} {l : List Int} (hr : Rd .u8 w B A n c l) (hl : By l) (hB : B ≤ w.heap.size) (hn : n ≤ 140737488355000) :
    Calls Try.prog 33 #[.slice A n c] w (SegRet (segOf l) (endR (u9 l).2.1 (u9 l).2.2) w) := by
  go_enter Try.func33, Try.ntmps33
  go_wp2_with fail
  have hb0 := below_two w (.cells #[.int .i64 0, .int .i64 0, .int .i64 0, .int .i64 0, .int .i64 0, .int .i64 0, .int .i64 0, .int .i64 0, .slice none 0 0] 24) (.cells #[.int .i64 0, .int .i64 0, .int .i64 0, .int .i64 0, .int .i64 0, .int .i64 0, .int .i64 0, .int .i64 0, .slice none 0 0] 24)
  have hx0 : Sg ((w.alloc (.cells #[.int .i64 0, .int .i64 0, .int .i64 0, .int .i64 0, .int .i64 0, .int .i64 0, .int .i64 0, .int .i64 0, .slice none 0 0] 24)).alloc (.cells #[.int .i64 0, .int .i64 0, .int .i64 0, .int .i64 0, .int .i64 0, .int .i64 0, .int .i64 0, .int .i64 0, .slice none 0 0] 24)) w.heap.size [0, 0, 0, 0, 0, 0, 0, 0] (.slice none 0 0) := (Sg.new w [0, 0, 0, 0, 0, 0, 0, 0] (.slice none 0 0)).alloc _
  have hs0 : Sg ((w.alloc (.cells #[.int .i64 0, .int .i64 0, .int .i64 0, .int .i64 0, .int .i64 0, .int .i64 0, .int .i64 0, .int .i64 0, .slice none 0 0] 24)).alloc (.cells #[.int .i64 0, .int .i64 0, .int .i64 0, .int .i64 0, .int .i64 0, .int .i64 0, .int .i64 0, .int .i64 0, .slice none 0 0] 24)) (w.alloc (.cells #[.int .i64 0, .int .i64 0, .int .i64 0, .int .i64 0, .int .i64 0, .int .i64 0, .int .i64 0, .int .i64 0, .slice none 0 0] 24)).heap.size [0, 0, 0, 0, 0, 0, 0, 0] (.slice none 0 0) := Sg.new (w.alloc (.cells #[.int .i64 0, .int .i64 0, .int .i64 0, .int .i64 0, .int .i64 0, .int .i64 0, .int .i64 0, .int .i64 0, .slice none 0 0] 24)) [0, 0, 0, 0, 0, 0, 0, 0] (.slice none 0 0)
  rw [alloc_size] at hs0
  have hz0 : ((w.alloc (.cells #[.int .i64 0, .int .i64 0, .int .i64 0, .int .i64 0, .int .i64 0, .int .i64 0, .int .i64 0, .int .i64 0, .slice none 0 0] 24)).alloc (.cells #[.int .i64 0, .int .i64 0, .int .i64 0, .int .i64 0, .int .i64 0, .int .i64 0, .int .i64 0, .int .i64 0, .slice none 0 0] 24)).heap.size = w.heap.size + 2 := by simp
  generalize ((w.alloc (.cells #[.int .i64 0, .int .i64 0, .int .i64 0, .int .i64 0, .int .i64 0, .int .i64 0, .int .i64 0, .int .i64 0, .slice none 0 0] 24)).alloc (.cells #[.int .i64 0, .int .i64 0, .int .i64 0, .int .i64 0, .int .i64 0, .int .i64 0, .int .i64 0, .int .i64 0, .slice none 0 0] 24)) = w0 at *
  refine (read_any (hr.below' hb0 hB) hl (by omega) (by omega)).mono ?_
  rintro e w1 ⟨g, rfl, hR1, hb1⟩
  have hlo : w0.heap.size ≤ g := by obtain ⟨_, _, _, _, hlo, _⟩ := hR1; exact hlo
  have hz1 := hb1.size
  have hg1 := hR1.lt
  have hs1 := hs0.below hb1 (by omega)
  have hT1 : Below w.heap.size w w1 := hb0.trans (hb1.mono (by omega))
  have hx1 := hx0.below hb1 (by omega)
  clear hs0 hx0 hb0 hb1 hr
  go_wp2_with fail
  refine (readInto_any (B := w.heap.size + 1) (o := 0) (cnt := 4) 1 (hR1.below (below_alloc w1 _)) (hs1.alloc _) (ptrs4 w1 (w.heap.size + 1)) (by simp) (by omega) (by simp) (by omega) (by omega) (by omega) (by omega) (by omega) (by simp; omega)).mono ?_
  rw [st_four]
  rintro e w2 ⟨rfl, hR2, hs2, hb2⟩
  have hb2' := ((below_alloc w1 (.cells #[.pointer (some ⟨w.heap.size + 1, 0, none⟩), .pointer (some ⟨w.heap.size + 1, 1, none⟩), .pointer (some ⟨w.heap.size + 1, 2, none⟩), .pointer (some ⟨w.heap.size + 1, 3, none⟩)] 67)).mono (by omega)).trans hb2
  have hz2 := hb2'.size
  have hT2 := hT1.trans (hb2'.mono (by omega))
  have hx2 := hx1.below hb2' (by omega)
  clear hR1 hs1 hb2 hb2' hT1 hx1
  go_wp2_with fail
  refine (readInto_any (B := w.heap.size + 1) (o := 4) (cnt := 2) 4 (hR2.below (below_alloc w2 _)) (hs2.alloc _) (ptrs2 w2 (w.heap.size + 1) 4) (by simp) (by omega) (by simp) (by omega) (by omega) (by omega) (by omega) (by omega) (by simp; omega)).mono ?_
  rw [st_longs]
  rintro e w3 ⟨rfl, hR3, hs3, hb3⟩
  have hb3' := ((below_alloc w2 (.cells #[.pointer (some ⟨w.heap.size + 1, 4, none⟩), .pointer (some ⟨w.heap.size + 1, 5, none⟩)] 67)).mono (by omega)).trans hb3
  have hz3 := hb3'.size
  have hT3 := hT2.trans (hb3'.mono (by omega))
  have hx3 := hx2.below hb3' (by omega)
  clear hR2 hs2 hb3 hb3' hT2 hx2
  go_wp2_with fail
  refine (readInto_any (B := w.heap.size + 1) (o := 6) (cnt := 2) 2 (hR3.below (below_alloc w3 _)) (hs3.alloc _) (ptrs2 w3 (w.heap.size + 1) 6) (by simp) (by omega) (by simp) (by omega) (by omega) (by omega) (by omega) (by omega) (by simp; omega)).mono ?_
  rw [st_shorts]
  rintro e w4 ⟨rfl, hR4, hs4, hb4⟩
  have hb4' := ((below_alloc w3 (.cells #[.pointer (some ⟨w.heap.size + 1, 6, none⟩), .pointer (some ⟨w.heap.size + 1, 7, none⟩)] 67)).mono (by omega)).trans hb4
  have hz4 := hb4'.size
  have hT4 := hT3.trans (hb4'.mono (by omega))
  have hx4 := hx3.below hb4' (by omega)
  have hg4 := hR4.lt
  clear hR3 hs3 hb4 hb4' hT3 hx3
  have HQ := Kp.mk (show segOf l = ⟨(u1 l).1, (u2 l).1, (u3 l).1, (u4 l).1, (u5 l).1, (u6 l).1, (u7 l).1, (u8 l).1, (u9 l).1⟩ from rfl)
  have HT := Kp.mk (show textR (u8 l).2.1 (u8 l).2.2 = u9 l from rfl)
  generalize (u1 l).1 = q1 at *
  generalize (u2 l).1 = q2 at *
  generalize (u3 l).1 = q3 at *
  generalize (u4 l).1 = q4 at *
  generalize (u5 l).1 = q5 at *
  generalize (u6 l).1 = q6 at *
  generalize (u7 l).1 = q7 at *
  generalize (u8 l).1 = q8 at *
  go_wp2_with fail
  refine (textM_any hR4).mono ?_
  rw [HT.out]
  generalize u9 l = Q at *
  generalize (u8 l).2.1 = l8 at *
  generalize (u8 l).2.2 = e8 at *
  obtain ⟨q9, l9, e9⟩ := Q
  rintro en w5 ⟨A5, n5, c5, rfl, ho5, hR5, hg5⟩
  simp only at ho5 hR5
  have hz5 := hg5.size
  have hs5 := hs4.grown hg5 (by omega)
  have hx5 := hx4.grown hg5 (by omega)
  have hT5 := hT4.grown hg5 (by omega) (by simp; omega)
  have hf := hs5.free
  obtain ⟨d0, d1, d2, d3, d4, d5, d6, d7, d8⟩ := hs5.nine
  have hg6 := grownBy_set w5 (w.heap.size + 1) 8 (.slice A5 n5 c5)
  have hs6 := hs5.setMsg (.slice A5 n5 c5)
  have hx6 := hx5.grown hg6 (by omega)
  have hT6 := hT5.grown hg6 (by omega) (by simp)
  have hR6 := hR5.off (w.heap.size + 1) 8 (.slice A5 n5 c5) (.inl (by omega))
  have ho6 := own_keep ho5 hg6 (by omega)
  change Sg (w5.setCell ⟨w.heap.size + 1, 8, none⟩ (.slice A5 n5 c5)) _ _ _ at hs6
  have hz6 := hg6.size
  clear hR4 hs4 hg5 hs5 hx5 hT5 hg6 hR5 ho5 hx4 hT4
  go_wp2_with fail
  generalize (w5.setCell ⟨w.heap.size + 1, 8, none⟩ (.slice A5 n5 c5)) = w6 at *
  clear d0 d1 d2 d3 d4 d5 d6 d7 d8 hf
  have hRd : Rdr 75 w6.drew w0.heap.size g l9 e9 := hR6
  have hsd : Sg w6.drew (w.heap.size + 1) [q1, q2, q3, q4, q5, q6, q7, q8] (.slice A5 n5 c5) := hs6
  obtain ⟨d0, d1, d2, d3, d4, d5, d6, d7, d8⟩ := hsd.nine
  clear hs6 hR6 hsd
  go_still_tail 3, (by kernel_rfl)
  refine wpStill_step (fun K hK => ?_)
  go_simp
  refine ⟨_, (endM_any hRd).mono (fun _ _ ⟨h1, h2⟩ => ⟨h1, h2.symm⟩), hK _ ?_⟩
  clear hK K
  refine wpStill_nil ?_
  have hkc : Sg w6.drew w.heap.size [0, 0, 0, 0, 0, 0, 0, 0] (.slice none 0 0) := hx6
  have hTc : Below w.heap.size w w6.drew := hT6.drew
  have hoc : Own w6.drew w4.heap.size (.slice A5 n5 c5) n5 q9 := ho6
  clear hx6 hT6 ho6 d0 d1 d2 d3 d4 d5 d6 d7 d8 hRd
  change wpList _ _ _ _ _ w6.drew
  generalize w6.drew = wc at *
  obtain ⟨d0, d1, d2, d3, d4, d5, d6, d7, d8⟩ := hkc.nine
  have hf := hkc.free
  go_wp2_with fail
  have hk9 := (hkc.put (k' := q1) (t' := q2) (f' := q3) (h' := q4) (p' := q5) (o' := q6) (s' := q7) (a' := q8) (m' := .slice A5 n5 c5)).nine
  have hT9 := putS_below hTc (Nat.le_refl _) q1 q2 q3 q4 q5 q6 q7 q8 (.slice A5 n5 c5)
  have ho9 := own_keep hoc (putS_grown wc w.heap.size q1 q2 q3 q4 q5 q6 q7 q8 (.slice A5 n5 c5)) (by omega)
  clear d0 d1 d2 d3 d4 d5 d6 d7 d8 hf
  obtain ⟨d0, d1, d2, d3, d4, d5, d6, d7, d8⟩ := hk9
  change bodyPost _ _ _ _ _ (putS wc w.heap.size q1 q2 q3 q4 q5 q6 q7 q8 (.slice A5 n5 c5))
  generalize putS wc w.heap.size q1 q2 q3 q4 q5 q6 q7 q8 (.slice A5 n5 c5) = wd at *
  refine bodyPost_ret (v := .tuple #[.agg #[.int .i64 q1, .int .i64 q2, .int .i64 q3, .int .i64 q4, .int .i64 q5, .int .i64 q6, .int .i64 q7, .int .i64 q8, .slice A5 n5 c5], .int .i64 (endR l9 e9)]) (by simp [results, Try.results33, go_sem, d0, d1, d2, d3, d4, d5, d6, d7, d8]) rfl ?_
  rw [HQ.out]
  exact ⟨A5, n5, c5, rfl, ho9.lower (by omega), hT9⟩
end Go.Proofs.Ytbniefgfiafaoaa.Oct
