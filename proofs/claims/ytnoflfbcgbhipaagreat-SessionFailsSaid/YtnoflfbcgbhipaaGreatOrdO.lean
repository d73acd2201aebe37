import Derived.Test.YtnoflfbcgbhipaaGreatVst
import Derived.Test.YtnoflfbcgbhipaaGreatOrdH
set_option linter.unusedSimpArgs false
set_option linter.unusedVariables false
set_option maxRecDepth 100000
set_option maxHeartbeats 3200000
namespace Go.Proofs.YtnoflfbcgbhipaaGreat.Oct
open Go.RowKit
def Ron (w : World) (lo : Nat) (A : Option Addr) (n c : Nat) (os : List OutV) : Prop := Ro w w.heap.size A n c os ∧ (0 < n → ∀ a, A = some a → lo ≤ a.block ∧ ∃ cur, w.heap[a.block]? = some (.cells cur 259 (0, 0)))
section
variable {w w' : World} {lo n c r : Nat} {A : Option Addr} {os : List OutV}
theorem Ron.nil (w : World) (lo : Nat) : Ron w lo none 0 0 [] := ⟨Ro.nil _ _, fun h => absurd h (by omega)⟩
theorem Ron.keep (h : Ron w lo A n c os) (hz : w.heap.size ≤ w'.heap.size) (hk : ∀ b, lo ≤ b → b < w.heap.size → w'.heap[b]? = w.heap[b]?) : Ron w' lo A n c os := by
 refine ⟨⟨h.1.1, h.1.2.1, h.1.2.2.1, h.1.2.2.2.1, fun hn => ?_⟩, fun hn a ea => ?_⟩
 rotate_left
 ·obtain ⟨hl, cur, hcur⟩ := h.2 hn a ea
  exact ⟨hl, cur, (hk a.block hl (Array.getElem?_eq_some_iff.1 hcur).1).trans hcur⟩
 obtain ⟨b, off, e, hb, hc⟩ := h.1.at_ hn
 refine ⟨b, off, e, by omega, fun j o hj => ?_⟩
 have hl := (h.2 hn _ e).1
 have := hc j o hj
 simp only [World.cell?_of_block (w := w) (w' := w') (a := ⟨b, _, none⟩) (hk b hl hb)]
 exact this
theorem Ron.grown (h : Ron w lo A n c os) (hg : w.grownBy w' (some r)) (hr : r < lo) : Ron w' lo A n c os := h.keep hg.size (fun b h1 h2 => hg.block b h2 (by simp; omega))
theorem Ron.below (h : Ron w lo A n c os) (hb : Below w.heap.size w w') : Ron w' lo A n c os := h.keep hb.size (fun b _ h2 => hb.block b h2)
theorem Ron.lower {lo' : Nat} (h : Ron w lo A n c os) (hl : lo' ≤ lo) : Ron w lo' A n c os := ⟨h.1, fun hn a e => ⟨Nat.le_trans hl (h.2 hn a e).1, (h.2 hn a e).2⟩⟩
theorem Ron.ro (h : Ron w lo A n c os) : Ro w w.heap.size A n c os := h.1
theorem Ron.stay {S : Nat → Prop} (h : Ron w lo A n c os) (hz : w.heap.size ≤ w'.heap.size) (hb : ∀ k, k < w.heap.size → ¬ S k → w'.heap[k]? = w.heap[k]?) (hs : ∀ k cs m, S k → w.heap[k]? ≠ some (.cells cs 259 m)) : Ron w' lo A n c os := by
 refine ⟨⟨h.1.1, h.1.2.1, h.1.2.2.1, h.1.2.2.2.1, fun hn => ?_⟩, fun hn a ea => ?_⟩
 rotate_left
 ·obtain ⟨hl, cur, hcur⟩ := h.2 hn a ea
  exact ⟨hl, cur, (hb a.block (Array.getElem?_eq_some_iff.1 hcur).1 (fun e => hs _ _ _ e hcur)).trans hcur⟩
 obtain ⟨b, off, e, hlt, hc⟩ := h.1.at_ hn
 obtain ⟨_, cur, hcur⟩ := h.2 hn _ e
 refine ⟨b, off, e, by omega, fun j o hj => ?_⟩
 have := hc j o hj
 simp only [World.cell?_of_block (w := w) (w' := w') (a := ⟨b, _, none⟩) (hb b hlt (fun e => hs _ _ _ e hcur))]
 exact this
end
def ocs (o : OutV) : List Value := [.int .i64 o.p, .int .i64 o.a, .int .i64 o.b, .int .i64 o.c]
theorem flat_ocs_len (os : List OutV) : (os.flatMap ocs).length = os.length * 4 := by
 induction os with
 | nil => rfl
 | cons o os ih => rw [List.flatMap_cons, List.length_append, ih, List.length_cons]; simp [ocs]; omega
theorem flat_ocs_get (os : List OutV) : ∀ (j : Nat) (o : OutV), os[j]? = some o → (os.flatMap ocs)[j * 4]? = some (.int .i64 o.p) ∧ (os.flatMap ocs)[j * 4 + 1]? = some (.int .i64 o.a) ∧ (os.flatMap ocs)[j * 4 + 2]? = some (.int .i64 o.b) ∧ (os.flatMap ocs)[j * 4 + 3]? = some (.int .i64 o.c) := by
 induction os with
 | nil => intro j o h; simp at h
 | cons x os ih =>
  intro j o h
  cases j with
  | zero =>
   simp only [List.getElem?_cons_zero, Option.some.injEq] at h
   subst h
   exact ⟨rfl, rfl, rfl, rfl⟩
  | succ j =>
   rw [List.getElem?_cons_succ] at h
   have e : ∀ i, (List.flatMap ocs (x :: os))[(j + 1) * 4 + i]? = (os.flatMap ocs)[j * 4 + i]? := by
    intro i
    rw [List.flatMap_cons, List.getElem?_append_right (by simp [ocs]; omega)]
    congr 1
    simp [ocs]; omega
   have := e 0
   simp only [Nat.add_zero] at this
   rw [this, e 1, e 2, e 3]
   exact ih j o h
theorem flat_ocs_set (os : List OutV) : ∀ (k : Nat) (o : OutV), k < os.length → ((((os.flatMap ocs).set (k * 4) (.int .i64 o.p)).set (k * 4 + 1) (.int .i64 o.a)).set (k * 4 + 2) (.int .i64 o.b)).set (k * 4 + 3) (.int .i64 o.c) = (os.set k o).flatMap ocs := by
 induction os with
 | nil => intro k o h; simp at h
 | cons x os ih =>
  intro k o h
  cases k with
  | zero => rfl
  | succ k =>
   rw [List.set_cons_succ, List.flatMap_cons, List.flatMap_cons, ← ih k o (by simpa using h)]
   have e : ∀ (i : Nat) (l : List Value) (v : Value), (ocs x ++ l).set ((k + 1) * 4 + i) v = ocs x ++ l.set (k * 4 + i) v := by
    intro i l v
    rw [List.set_append_right _ _ (by simp [ocs]; omega)]
    congr 2
    simp [ocs]; omega
   have e0 := e 0
   simp only [Nat.add_zero] at e0
   rw [e0, e 1, e 2, e 3]
theorem Ron.of_vb {w : World} {b lo : Nat} {os : List OutV} (h : Vb 259 w b (os.flatMap ocs)) (hl : lo ≤ b) (hm : os.length ≤ 1000) : Ron w lo (some ⟨b, 0, none⟩) os.length os.length os := by
 refine ⟨⟨rfl, Nat.le_refl _, by unfold maxLen; omega, fun e => by simp at e, fun hn => ⟨b, 0, rfl, h.lt, fun j o hj => ?_⟩⟩, fun _ a e => by simp at e; subst e; exact ⟨hl, _, h⟩⟩
 obtain ⟨h0, h1, h2, h3⟩ := flat_ocs_get os j o hj
 simp only [Nat.zero_add]
 exact ⟨h.cell _ h0, h.cell _ h1, h.cell _ h2, h.cell _ h3⟩
def AggRdr (T : TypeId) (w : World) (lo g : Nat) (vs : List Value) (l : List Int) (e : Int) (en : Ending) (w' : World) : Prop :=
 en = .returned (.agg vs.toArray) ∧ Rdr T w' lo g l e ∧ w.grownBy w' (some g)
theorem nu1_bd {l l' : List Int} {e e' v : Int} (h : By l) (hq : nu 1 (l, e) = (v, (l', e'))) : (0 ≤ v ∧ v ≤ 255) ∧ By l' := by
 have h1 := num1_bd l e h
 have h2 := numR_by 1 l e h
 change numR 1 l e = (v, (l', e')) at hq
 rw [hq] at h1 h2
 exact ⟨⟨h1.1, by have := h1.2; simp only at this; omega⟩, h2⟩
theorem num2_bd (l : List Int) (e : Int) (h : By l) : 0 ≤ (numR 2 l e).1 ∧ (numR 2 l e).1 < 65536 := by
 unfold numR
 split
 ·exact ⟨by simp, by simp⟩
 ·split
  ·split
   ·exact ⟨by simp, by simp⟩
   ·have := num_lt (l.take (2 : Int).toNat) (h.take _)
    have h2 : (l.take (2 : Int).toNat).length ≤ 2 := by rw [List.length_take]; simp; omega
    have h3 : 256 ^ (l.take (2 : Int).toNat).length ≤ 256 ^ 2 := Nat.pow_le_pow_right (by omega) h2
    exact ⟨by simp, by have e0 : (Int.toNat 2) = 2 := rfl; rw [e0] at this h3 ⊢; omega⟩
  ·exact ⟨by simp, by simp⟩
theorem nu2_bd {l l' : List Int} {e e' v : Int} (h : By l) (hq : nu 2 (l, e) = (v, (l', e'))) : (0 ≤ v ∧ v ≤ 65535) ∧ By l' := by
 have h1 := num2_bd l e h
 have h2 := numR_by 2 l e h
 change numR 2 l e = (v, (l', e')) at hq
 rw [hq] at h1 h2
 exact ⟨⟨h1.1, by have := h1.2; simp only at this; omega⟩, h2⟩
theorem num_eq {w : World} {lo g : Nat} {l l' : List Int} {e e' v : Int} (s : Int) (h : Rdr 274 w lo g l e) (hq : nu s (l, e) = (v, (l', e'))) :
  Calls Tryz.prog 207 #[.pointer (some ⟨g, 0, none⟩), .int .i64 s] w (IntRdr 274 w lo g v l' e') := by
 have := num_any s h
 change numR s l e = (v, (l', e')) at hq
 rw [hq] at this
 exact this
theorem Rdr.off' {T : TypeId} {w : World} {lo g : Nat} {l : List Int} {e : Int} (h : Rdr T w lo g l e) (b o : Nat) (u : Value) (hb : g < b) : Rdr T (w.setCell ⟨b, o, none⟩ u) lo g l e :=
 h.keep (grownBy_set w b o u) (fun k e => by simp at e; omega)
theorem grown_set2 {w w1 : World} {g b o : Nat} {u : Value} (h : w.grownBy w1 (some g)) (hb : w.heap.size ≤ b) : w.grownBy (w1.setCell ⟨b, o, none⟩ u) (some g) :=
 ⟨h.os, h.tape, h.output, Nat.le_trans h.size (by simp [World.setCell]), fun k hk hne => (Below.heap_setCell _ _ _ _ (by simp; omega)).trans (h.block k hk hne)⟩
theorem grown_new {w w1 w2 : World} {g b : Nat} (h : w.grownBy w1 (some g)) (h2 : w1.grownBy w2 (some b)) (hb : w.heap.size ≤ b) : w.grownBy w2 (some g) :=
 ⟨h2.os.trans h.os, h2.tape.trans h.tape, h2.output.trans h.output, Nat.le_trans h.size h2.size, fun k hk hne => (h2.block k (Nat.lt_of_lt_of_le hk h.size) (by simp; omega)).trans (h.block k hk hne)⟩
theorem grown_alloc (w : World) (o : Obj) (g : Nat) : w.grownBy (w.alloc o) (some g) := grown_of_below (below_alloc w o) _
theorem grown_below {w w1 w2 : World} {g : Nat} (h : w.grownBy w1 (some g)) (hb : Below w1.heap.size w1 w2) : w.grownBy w2 (some g) := grown_trans2 h (grown_of_below hb _)
def Owo (w : World) (base : Nat) (v : Value) (n : Nat) (os : List OutV) : Prop := w.ownsRow base 259 4 v n (os.flatMap ocs)
section
variable {w w' : World} {base n c r : Nat} {v : Value} {os : List OutV}
theorem Owo.keep (h : Owo w base v n os) (hg : w.grownBy w' (some r)) (hlt : r < base) : Owo w' base v n os :=
 World.ownsRow.kept h hg (by
  cases hv : v.ownBlock with
  | none => exact .inl rfl
  | some k => exact .inr (fun e => by simp at e; have := (World.ownsRow.lt h k hv).1; omega))
theorem Owo.below (h : Owo w base v n os) (hb : Below w.heap.size w w') : Owo w' base v n os := by
 refine ⟨h.1, ?_⟩
 rcases h.2 with h2 | ⟨g, cap, cur, e, hbg, hg, r⟩
 ·exact .inl h2
 ·exact .inr ⟨g, cap, cur, e, hbg, (hb.block g (Array.getElem?_eq_some_iff.1 hg).1).trans hg, r⟩
end
theorem readHeader_any {w : World} {lo g : Nat} {l l1 l2 l3 : List Int} {e e1 e2 e3 a b c : Int} (hR : Rdr 274 w lo g l e) (h1 : nu 1 (l, e) = (a, (l1, e1))) (h2 : nu 1 (l1, e1) = (b, (l2, e2))) (h3 : nu 1 (l2, e2) = (c, (l3, e3))) :
  Calls Tryz.prog 267 #[.pointer (some ⟨g, 0, none⟩)] w (AggRdr 274 w lo g [.int .u8 a, .int .u8 b, .int .u8 c] l3 e3) := by
 have hlt := hR.lt
 obtain ⟨⟨a1, a2⟩, hy1⟩ := nu1_bd hR.by_ h1
 obtain ⟨⟨b1, b2⟩, hy2⟩ := nu1_bd hy1 h2
 obtain ⟨⟨c1, c2⟩, hy3⟩ := nu1_bd hy2 h3
 have H1 := Kp.mk h1
 have H2 := Kp.mk h2
 have H3 := Kp.mk h3
 clear h1 h2 h3 hy1 hy2 hy3
 have au : a % 256 = a := by omega
 have bu : b % 256 = b := by omega
 have cu : c % 256 = c := by omega
 have hG0 : w.grownBy ((w.alloc (.cells #[.int .u8 0, .int .u8 0, .int .u8 0] 42)).alloc (.cells #[.int .u8 0, .int .u8 0, .int .u8 0] 42)) (some g) := grown_of_below (below_two w _ _) _
 have hR0 := hR.below (below_two w (.cells #[.int .u8 0, .int .u8 0, .int .u8 0] 42) (.cells #[.int .u8 0, .int .u8 0, .int .u8 0] 42))
 have hvR := (Vb.new 42 w [.int .u8 0, .int .u8 0, .int .u8 0]).alloc (.cells #[.int .u8 0, .int .u8 0, .int .u8 0] 42)
 have hvH := Vb.new 42 (w.alloc (.cells #[.int .u8 0, .int .u8 0, .int .u8 0] 42)) [.int .u8 0, .int .u8 0, .int .u8 0]
 rw [alloc_size] at hvH
 have hz0 : w.heap.size < ((w.alloc (.cells #[.int .u8 0, .int .u8 0, .int .u8 0] 42)).alloc (.cells #[.int .u8 0, .int .u8 0, .int .u8 0] 42)).heap.size := by simp; omega
 go_enter Tryz.func267, Tryz.ntmps267
 go_upto_region 2 with fail
 generalize ((w.alloc (.cells #[.int .u8 0, .int .u8 0, .int .u8 0] 42)).alloc (.cells #[.int .u8 0, .int .u8 0, .int .u8 0] 42)) = w0 at *
 go_wp2_with fail
 refine wp_loop_rounds (3 + 1) ?_
 rw [rounds_succ]
 go_wp2_with fail
 refine (num_eq 1 hR0 H1.out).mono ?_
 rintro en v1 ⟨rfl, hS1, hg1⟩
 have hvh1 := hvH.grown hg1 (by omega)
 have hvr1 := hvR.grown hg1 (by omega)
 have hGa1 := grown_trans2 hG0 hg1
 obtain ⟨d0, d1, d2⟩ := hvh1.c3
 have hf := hvh1.free
 go_upto_region 6 with fail
 clear d0 d1 d2 hf hvH hvR
 have hvH := hvh1.set 0 (.int .u8 a)
 have hvR := hvr1.other (r := w.heap.size + 1) (by omega) 0 (.int .u8 a)
 have hR1 := hS1.off' (w.heap.size + 1) 0 (.int .u8 a) (by omega)
 have hG1 := grown_set2 (o := 0) (u := .int .u8 a) hGa1 (Nat.le_succ w.heap.size)
 change Vb _ _ _ [.int .u8 a, .int .u8 0, .int .u8 0] at hvH
 generalize (v1.setCell ⟨w.heap.size + 1, 0, none⟩ (.int .u8 a)) = w1 at *
 clear hvh1 hvr1 hS1 hg1 hGa1
 go_wp2_with fail
 rw [rounds_succ]
 go_wp2_with fail
 refine (num_eq 1 hR1 H2.out).mono ?_
 rintro en v2 ⟨rfl, hS2, hg2⟩
 have hvh2 := hvH.grown hg2 (by omega)
 have hvr2 := hvR.grown hg2 (by omega)
 have hGa2 := grown_trans2 hG1 hg2
 obtain ⟨d0, d1, d2⟩ := hvh2.c3
 have hf := hvh2.free
 go_upto_region 6 with fail
 clear d0 d1 d2 hf hvH hvR
 have hvH := hvh2.set 1 (.int .u8 b)
 have hvR := hvr2.other (r := w.heap.size + 1) (by omega) 1 (.int .u8 b)
 have hR2 := hS2.off' (w.heap.size + 1) 1 (.int .u8 b) (by omega)
 have hG2 := grown_set2 (o := 1) (u := .int .u8 b) hGa2 (Nat.le_succ w.heap.size)
 change Vb _ _ _ [.int .u8 a, .int .u8 b, .int .u8 0] at hvH
 generalize (v2.setCell ⟨w.heap.size + 1, 1, none⟩ (.int .u8 b)) = w2 at *
 clear hvh2 hvr2 hS2 hg2 hGa2
 go_wp2_with fail
 rw [rounds_succ]
 go_wp2_with fail
 refine (num_eq 1 hR2 H3.out).mono ?_
 rintro en v3 ⟨rfl, hS3, hg3⟩
 have hvh3 := hvH.grown hg3 (by omega)
 have hvr3 := hvR.grown hg3 (by omega)
 have hGa3 := grown_trans2 hG2 hg3
 obtain ⟨d0, d1, d2⟩ := hvh3.c3
 have hf := hvh3.free
 go_upto_region 6 with fail
 clear d0 d1 d2 hf hvH hvR
 have hvH := hvh3.set 2 (.int .u8 c)
 have hvR := hvr3.other (r := w.heap.size + 1) (by omega) 2 (.int .u8 c)
 have hR3 := hS3.off' (w.heap.size + 1) 2 (.int .u8 c) (by omega)
 have hG3 := grown_set2 (o := 2) (u := .int .u8 c) hGa3 (Nat.le_succ w.heap.size)
 change Vb _ _ _ [.int .u8 a, .int .u8 b, .int .u8 c] at hvH
 generalize (v3.setCell ⟨w.heap.size + 1, 2, none⟩ (.int .u8 c)) = w3 at *
 clear hvh3 hvr3 hS3 hg3 hGa3
 go_wp2_with fail
 rw [rounds_succ]
 skip
 go_wp2_with (first | (refine wpList_load_vb (vs := [.int .u8 a, .int .u8 b, .int .u8 c]) rfl (.tmp 3) rfl rfl hvH rfl agg_header ?_) | (refine wpList_store_vb (vs := [.int .u8 a, .int .u8 b, .int .u8 c]) rfl (.tmp 2) (.tmp 14) rfl rfl rfl hvR rfl agg_header rfl ?_; intro w9 hv9 hg9 hz9))
 refine bodyPost_ret (results_one Tryz.results267 _ rfl hv9 agg_header) rfl ?_
 exact ⟨rfl, hR3.keep hg9 (fun k e => by simp at e; omega), grown_new hG3 hg9 (Nat.le_refl _)⟩
theorem readSet_any {w : World} {lo g : Nat} {l l1 l2 l3 : List Int} {e e1 e2 e3 a b c : Int} (hR : Rdr 274 w lo g l e) (h1 : nu 2 (l, e) = (a, (l1, e1))) (h2 : nu 2 (l1, e1) = (b, (l2, e2))) (h3 : nu 2 (l2, e2) = (c, (l3, e3))) :
  Calls Tryz.prog 268 #[.pointer (some ⟨g, 0, none⟩)] w (AggRdr 274 w lo g [.int .i64 a, .int .i64 b, .int .i64 c] l3 e3) := by
 have hlt := hR.lt
 obtain ⟨⟨a1, a2⟩, hy1⟩ := nu2_bd hR.by_ h1
 obtain ⟨⟨b1, b2⟩, hy2⟩ := nu2_bd hy1 h2
 obtain ⟨⟨c1, c2⟩, hy3⟩ := nu2_bd hy2 h3
 have H1 := Kp.mk h1
 have H2 := Kp.mk h2
 have H3 := Kp.mk h3
 clear h1 h2 h3 hy1 hy2 hy3
 have hG0 : w.grownBy ((w.alloc (.cells #[.int .i64 0, .int .i64 0, .int .i64 0] 257)).alloc (.cells #[.int .i64 0, .int .i64 0, .int .i64 0] 257)) (some g) := grown_of_below (below_two w _ _) _
 have hR0 := hR.below (below_two w (.cells #[.int .i64 0, .int .i64 0, .int .i64 0] 257) (.cells #[.int .i64 0, .int .i64 0, .int .i64 0] 257))
 have hvR := (Vb.new 257 w [.int .i64 0, .int .i64 0, .int .i64 0]).alloc (.cells #[.int .i64 0, .int .i64 0, .int .i64 0] 257)
 have hvH := Vb.new 257 (w.alloc (.cells #[.int .i64 0, .int .i64 0, .int .i64 0] 257)) [.int .i64 0, .int .i64 0, .int .i64 0]
 rw [alloc_size] at hvH
 have hz0 : w.heap.size < ((w.alloc (.cells #[.int .i64 0, .int .i64 0, .int .i64 0] 257)).alloc (.cells #[.int .i64 0, .int .i64 0, .int .i64 0] 257)).heap.size := by simp; omega
 go_enter Tryz.func268, Tryz.ntmps268
 go_upto_region 2 with fail
 generalize ((w.alloc (.cells #[.int .i64 0, .int .i64 0, .int .i64 0] 257)).alloc (.cells #[.int .i64 0, .int .i64 0, .int .i64 0] 257)) = w0 at *
 go_wp2_with fail
 refine wp_loop_rounds (3 + 1) ?_
 rw [rounds_succ]
 go_wp2_with fail
 refine (num_eq 2 hR0 H1.out).mono ?_
 rintro en v1 ⟨rfl, hS1, hg1⟩
 have hvh1 := hvH.grown hg1 (by omega)
 have hvr1 := hvR.grown hg1 (by omega)
 have hGa1 := grown_trans2 hG0 hg1
 obtain ⟨d0, d1, d2⟩ := hvh1.c3
 have hf := hvh1.free
 go_upto_region 6 with fail
 clear d0 d1 d2 hf hvH hvR
 have hvH := hvh1.set 0 (.int .i64 a)
 have hvR := hvr1.other (r := w.heap.size + 1) (by omega) 0 (.int .i64 a)
 have hR1 := hS1.off' (w.heap.size + 1) 0 (.int .i64 a) (by omega)
 have hG1 := grown_set2 (o := 0) (u := .int .i64 a) hGa1 (Nat.le_succ w.heap.size)
 change Vb _ _ _ [.int .i64 a, .int .i64 0, .int .i64 0] at hvH
 generalize (v1.setCell ⟨w.heap.size + 1, 0, none⟩ (.int .i64 a)) = w1 at *
 clear hvh1 hvr1 hS1 hg1 hGa1
 go_wp2_with fail
 rw [rounds_succ]
 go_wp2_with fail
 refine (num_eq 2 hR1 H2.out).mono ?_
 rintro en v2 ⟨rfl, hS2, hg2⟩
 have hvh2 := hvH.grown hg2 (by omega)
 have hvr2 := hvR.grown hg2 (by omega)
 have hGa2 := grown_trans2 hG1 hg2
 obtain ⟨d0, d1, d2⟩ := hvh2.c3
 have hf := hvh2.free
 go_upto_region 6 with fail
 clear d0 d1 d2 hf hvH hvR
 have hvH := hvh2.set 1 (.int .i64 b)
 have hvR := hvr2.other (r := w.heap.size + 1) (by omega) 1 (.int .i64 b)
 have hR2 := hS2.off' (w.heap.size + 1) 1 (.int .i64 b) (by omega)
 have hG2 := grown_set2 (o := 1) (u := .int .i64 b) hGa2 (Nat.le_succ w.heap.size)
 change Vb _ _ _ [.int .i64 a, .int .i64 b, .int .i64 0] at hvH
 generalize (v2.setCell ⟨w.heap.size + 1, 1, none⟩ (.int .i64 b)) = w2 at *
 clear hvh2 hvr2 hS2 hg2 hGa2
 go_wp2_with fail
 rw [rounds_succ]
 go_wp2_with fail
 refine (num_eq 2 hR2 H3.out).mono ?_
 rintro en v3 ⟨rfl, hS3, hg3⟩
 have hvh3 := hvH.grown hg3 (by omega)
 have hvr3 := hvR.grown hg3 (by omega)
 have hGa3 := grown_trans2 hG2 hg3
 obtain ⟨d0, d1, d2⟩ := hvh3.c3
 have hf := hvh3.free
 go_upto_region 6 with fail
 clear d0 d1 d2 hf hvH hvR
 have hvH := hvh3.set 2 (.int .i64 c)
 have hvR := hvr3.other (r := w.heap.size + 1) (by omega) 2 (.int .i64 c)
 have hR3 := hS3.off' (w.heap.size + 1) 2 (.int .i64 c) (by omega)
 have hG3 := grown_set2 (o := 2) (u := .int .i64 c) hGa3 (Nat.le_succ w.heap.size)
 change Vb _ _ _ [.int .i64 a, .int .i64 b, .int .i64 c] at hvH
 generalize (v3.setCell ⟨w.heap.size + 1, 2, none⟩ (.int .i64 c)) = w3 at *
 clear hvh3 hvr3 hS3 hg3 hGa3
 go_wp2_with fail
 rw [rounds_succ]
 skip
 go_wp2_with (first | (refine wpList_load_vb (vs := [.int .i64 a, .int .i64 b, .int .i64 c]) rfl (.tmp 3) rfl rfl hvH rfl agg_set ?_) | (refine wpList_store_vb (vs := [.int .i64 a, .int .i64 b, .int .i64 c]) rfl (.tmp 2) (.tmp 13) rfl rfl rfl hvR rfl agg_set rfl ?_; intro w9 hv9 hg9 hz9))
 refine bodyPost_ret (results_one Tryz.results268 _ rfl hv9 agg_set) rfl ?_
 exact ⟨rfl, hR3.keep hg9 (fun k e => by simp at e; omega), grown_new hG3 hg9 (Nat.le_refl _)⟩
theorem mask_parts {l l' : List Int} {e e' : Int} {x : MaskV} (hq : maskRd (l, e) = (x, (l', e'))) : ∃ m l1 e1 l2 e2 l3 e3 l4 e4 l5 e5 l6 e6 l7 e7, nu 1 (l, e) = (x.v, (l1, e1)) ∧ nu 1 (l1, e1) = (m, (l2, e2)) ∧ x.m = m - 1 ∧
  nu 1 (l2, e2) = (x.b0, (l3, e3)) ∧ nu 1 (l3, e3) = (x.b1, (l4, e4)) ∧ nu 1 (l4, e4) = (x.b2, (l5, e5)) ∧ nu 1 (l5, e5) = (x.i0, (l6, e6)) ∧ nu 1 (l6, e6) = (x.i1, (l7, e7)) ∧ nu 1 (l7, e7) = (x.i2, (l', e')) := by
 rcases h1 : nu 1 (l, e) with ⟨v, l1, e1⟩
 rcases h2 : nu 1 (l1, e1) with ⟨m, l2, e2⟩
 rcases h3 : nu 1 (l2, e2) with ⟨b0, l3, e3⟩
 rcases h4 : nu 1 (l3, e3) with ⟨b1, l4, e4⟩
 rcases h5 : nu 1 (l4, e4) with ⟨b2, l5, e5⟩
 rcases h6 : nu 1 (l5, e5) with ⟨i0, l6, e6⟩
 rcases h7 : nu 1 (l6, e6) with ⟨i1, l7, e7⟩
 rcases h8 : nu 1 (l7, e7) with ⟨i2, l8, e8⟩
 unfold maskRd at hq
 rw [bnd_eq h1, bnd_eq h2, bnd_eq h3, bnd_eq h4, bnd_eq h5, bnd_eq h6, bnd_eq h7, bnd_eq h8] at hq
 simp only [rt, Prod.mk.injEq] at hq
 obtain ⟨rfl, rfl, rfl⟩ := hq
 exact ⟨m, l1, e1, l2, e2, l3, e3, l4, e4, l5, e5, l6, e6, l7, e7, rfl, h2, rfl, h3, h4, h5, h6, h7, h8⟩
theorem readMatch_any {w : World} {lo g : Nat} {l l' : List Int} {e e' : Int} {x : MaskV} (hR : Rdr 274 w lo g l e) (hq : maskRd (l, e) = (x, (l', e'))) : Calls Tryz.prog 256 #[.pointer (some ⟨g, 0, none⟩)] w (AggRdr 274 w lo g [.int .i64 x.v, .int .i64 x.m, .int .u8 x.b0, .int .u8 x.b1, .int .u8 x.b2, .int .u8 x.i0, .int .u8 x.i1, .int .u8 x.i2] l' e') := by
 have hlt := hR.lt
 obtain ⟨m, l1, e1, l2, e2, l3, e3, l4, e4, l5, e5, l6, e6, l7, e7, h1, h2, hm, h3, h4, h5, h6, h7, h8⟩ := mask_parts hq
 obtain ⟨⟨a1, a2⟩, hy1⟩ := nu1_bd hR.by_ h1
 obtain ⟨⟨b1, b2⟩, hy2⟩ := nu1_bd hy1 h2
 have H1 := Kp.mk h1
 have H2 := Kp.mk h2
 have H3 := Kp.mk h3
 have H4 := Kp.mk h4
 have H5 := Kp.mk h5
 have H6 := Kp.mk h6
 have H7 := Kp.mk h7
 have H8 := Kp.mk h8
 have HM := Kp.mk (show m + -1 = x.m by omega)
 clear h1 h2 h3 h4 h5 h6 h7 h8 hm hq hy1 hy2
 have hG0 : w.grownBy (w.alloc (.cells #[.int .i64 0, .int .i64 0, .int .u8 0, .int .u8 0, .int .u8 0, .int .u8 0, .int .u8 0, .int .u8 0] 44)) (some g) := grown_alloc w _ g
 have hR0 := hR.below (below_alloc w (.cells #[.int .i64 0, .int .i64 0, .int .u8 0, .int .u8 0, .int .u8 0, .int .u8 0, .int .u8 0, .int .u8 0] 44))
 have hv0 := Vb.new 44 w [.int .i64 0, .int .i64 0, .int .u8 0, .int .u8 0, .int .u8 0, .int .u8 0, .int .u8 0, .int .u8 0]
 go_enter Tryz.func256, Tryz.ntmps256
 go_upto_region 1 with fail
 generalize (w.alloc (.cells #[.int .i64 0, .int .i64 0, .int .u8 0, .int .u8 0, .int .u8 0, .int .u8 0, .int .u8 0, .int .u8 0] 44)) = w0 at *
 go_wp2_with fail
 refine (num_eq 1 hR0 H1.out).mono ?_
 rintro en w1 ⟨rfl, hR1, hg1⟩
 have hv1 := hv0.grown hg1 (by omega)
 have hG1 := grown_trans2 hG0 hg1
 go_wp2_with fail
 refine (num_eq 1 hR1 H2.out).mono ?_
 rintro en w2 ⟨rfl, hR2, hg2⟩
 have hv2 := hv1.grown hg2 (by omega)
 have hG2 := grown_trans2 hG1 hg2
 go_wp2_with fail
 refine (readHeader_any hR2 H3.out H4.out H5.out).mono ?_
 rintro en w3 ⟨rfl, hR3, hg3⟩
 have hv3 := hv2.grown hg3 (by omega)
 have hG3 := grown_trans2 hG2 hg3
 go_wp2_with fail
 refine (readHeader_any hR3 H6.out H7.out H8.out).mono ?_
 rintro en w4 ⟨rfl, hR4, hg4⟩
 have hv4 := hv3.grown hg4 (by omega)
 have hG4 := grown_trans2 hG3 hg4
 try simp only [HM.out]
 go_wp2_with (refine wpList_store_vb (vs := [.int .i64 x.v, .int .i64 x.m, .int .u8 x.b0, .int .u8 x.b1, .int .u8 x.b2, .int .u8 x.i0, .int .u8 x.i1, .int .u8 x.i2]) rfl (.tmp 2) (.tmp 12) rfl rfl (by first | rfl | (simp only [HM.out]; rfl)) hv4 rfl agg_mask rfl ?_; intro w9 hv9 hg9 hz9)
 refine bodyPost_ret (results_one Tryz.results256 _ rfl hv9 agg_mask) rfl ?_
 exact ⟨rfl, hR4.keep hg9 (fun k e => by simp at e; omega), grown_new hG4 hg9 (Nat.le_refl _)⟩
def noOut : OutV := ⟨0, 0, 0, 0⟩
theorem outs_step {k : Nat} {t : St} {os : List OutV} {l0 l1 l2 l3 l4 : List Int} {e0 e1 e2 e3 e4 p a b c : Int} (h : outsRd k t = (os, (l0, e0))) (h1 : nu 1 (l0, e0) = (p, (l1, e1))) (h2 : nu 2 (l1, e1) = (a, (l2, e2))) (h3 : nu 2 (l2, e2) = (b, (l3, e3))) (h4 : nu 2 (l3, e3) = (c, (l4, e4))) :
  outsRd (k + 1) t = (os ++ [⟨p, a - 1, b - 1, c - 1⟩], (l4, e4)) := by
 show bnd (outsRd k) _ t = _
 rw [bnd_eq h]
 unfold outRd
 show bnd (bnd (nu 1) _) _ _ = _
 rw [bnd_eq (show bnd (nu 1) _ (l0, e0) = (⟨p, a - 1, b - 1, c - 1⟩, (l4, e4)) by rw [bnd_eq h1, bnd_eq h2, bnd_eq h3, bnd_eq h4]; rfl)]
 rfl
theorem cur_set (os : List OutV) (k n : Nat) (x : OutV) (hk : os.length = k) (hn : k < n) : (os ++ List.replicate (n - k) noOut).set k x = (os ++ [x]) ++ List.replicate (n - (k + 1)) noOut := by
 rw [List.set_append_right _ _ (by omega), show n - k = (n - (k + 1)) + 1 from by omega, List.replicate_succ, hk, Nat.sub_self, List.set_cons_zero, List.append_assoc]
 rfl
theorem zero_outs (n : Nat) : madeCells #[Value.int .i64 0, .int .i64 0, .int .i64 0, .int .i64 0] (n * 4) = ((List.replicate n noOut).flatMap ocs).toArray := by
 have hz : ∀ m : Nat, (List.replicate m noOut).flatMap ocs = List.replicate (m * 4) (Value.int .i64 0) := by
  intro m
  induction m with
  | zero => rfl
  | succ m ih => rw [List.replicate_succ, List.flatMap_cons, ih, Nat.succ_mul, Nat.add_comm, ← List.replicate_append_replicate]; rfl
 rw [hz]
 apply Array.ext
 ·simp [size_madeCells]
 ·intro i h1 h2
  have h4 : i % 4 < 4 := Nat.mod_lt _ (by omega)
  have hi : i < n * 4 := by simpa using h2
  simp only [List.getElem_toArray, List.getElem_replicate]
  simp only [madeCells, Array.getElem_ofFn]
  rcases (show i % 4 = 0 ∨ i % 4 = 1 ∨ i % 4 = 2 ∨ i % 4 = 3 by omega) with e | e | e | e <;> simp [e]
theorem info_out : (Tryz.prog.info? 259).map (fun i => (i.zero, i.size, i.bytes)) = some (some (.agg #[.int .i64 0, .int .i64 0, .int .i64 0, .int .i64 0]), 4, 32) := by kernel_rfl
def noOuts (n : Nat) : Obj := .cells ((List.replicate n noOut).flatMap ocs).toArray 259
theorem run_outs (n : Nat) (h : n ≤ 1000) (C : Int) (hC : C = n) (w : World) :
  (Instr.makeSlice 45 (.int .i64 C) (.int .i64 C)).run Tryz.prog w = .ok (.slice (some ⟨w.heap.size, 0, none⟩) n n) (w.alloc (noOuts n)) := by
 obtain ⟨i0, hi, hz0, hz1, hz2⟩ := info_parts info_out
 have hr := run_make (P := Tryz.prog) w 45 259 i0 _ Tryz.underlying45 hi hz0 .i64 .i64 C C (by omega) (by omega) (by rw [hz2]; omega) (by omega)
 rw [hr, hC, hz1, Int.toNat_natCast]
 unfold noOuts
 rw [← zero_outs]
 rfl
def OutsRdr (w : World) (lo g : Nat) (os : List OutV) (l : List Int) (e : Int) (en : Ending) (w' : World) : Prop :=
 ∃ A n c, en = .returned (.slice A n c) ∧ Ron w' w.heap.size A n c os ∧ Rdr 274 w' lo g l e ∧ w.grownBy w' (some g)
theorem readOuts_any {w : World} {lo g : Nat} {l l1 l' : List Int} {e e1 e' v : Int} {os : List OutV} (hR : Rdr 274 w lo g l e) (h1 : nu 1 (l, e) = (v, (l1, e1))) (h2 : outsRd v.toNat (l1, e1) = (os, (l', e'))) : Calls Tryz.prog 257 #[.pointer (some ⟨g, 0, none⟩)] w (OutsRdr w lo g os l' e') := by
 have hlt := hR.lt
 obtain ⟨⟨a1, a2⟩, hy1⟩ := nu1_bd hR.by_ h1
 obtain ⟨n, rfl⟩ : ∃ n : Nat, v = n := ⟨v.toNat, by omega⟩
 rw [Int.toNat_natCast] at h2
 have hn : n ≤ 255 := by omega
 have H1 := Kp.mk h1
 have H2 := Kp.mk h2
 have hmk := fun w => run_outs n (by omega) n rfl w
 clear h1 h2 hy1 a1 a2
 go_enter Tryz.func257, Tryz.ntmps257
 go_wp2_with fail
 refine (num_eq 1 hR H1.out).mono ?_
 rintro en w1 ⟨rfl, hR1, hg1⟩
 have hz1 := hg1.size
 go_upto_region 2 with fail
 have hv0 : Vb 259 (w1.alloc (noOuts n)) w1.heap.size (([] ++ List.replicate (n - 0) noOut).flatMap ocs) := Vb.new 259 w1 ((List.replicate n noOut).flatMap ocs)
 have hR2 := hR1.below (below_alloc w1 (noOuts n))
 have hG2 := grown_below hg1 (below_alloc w1 (noOuts n))
 clear hmk hR1 hg1
 generalize w1.alloc (noOuts n) = w2 at *
 generalize hB : w1.heap.size = Bk at *
 clear hB
 go_wp2_with fail
 go_loopw [10] (fun i wr => ∃ (k : Nat) (ok : List OutV) (lk : List Int) (ek : Int), k ≤ n ∧ i = .int .i64 k ∧ Kp (outsRd k (l1, e1) = (ok, (lk, ek)) ∧ ok.length = k) ∧ Rdr 274 wr lo g lk ek ∧ Vb 259 wr Bk ((ok ++ List.replicate (n - k) noOut).flatMap ocs) ∧ w.grownBy wr (some g)) (fun i _ => n - (intOf i).toNat)
 case atStart => exact ⟨0, [], l1, e1, by omega, rfl, Kp.mk (And.intro rfl rfl), hR2, hv0, hG2⟩
 case round =>
  clear hR2 hv0 hG2
  obtain ⟨k, ok, lk, ek, hk, rfl, HK, hRk, hv, hG⟩ := hrel
  have hz := hG.size
  by_cases hltn : k < n
  rotate_left
  ·obtain rfl : k = n := by omega
   have he := HK.out.1.symm.trans H2.out
   simp only [Prod.mk.injEq] at he
   obtain ⟨rfl, rfl, rfl⟩ := he
   rw [Nat.sub_self, List.replicate_zero, List.append_nil] at hv
   have hr := Ron.of_vb (lo := w.heap.size) hv (by omega) (by have := HK.out.2; omega)
   rw [HK.out.2] at hr
   go_wp2_with fail
   go_ret
   exact ⟨_, _, _, rfl, hr, hRk, hG⟩
  rcases hp : nu 1 (lk, ek) with ⟨p, m1, x1⟩
  rcases ha : nu 2 (m1, x1) with ⟨a, m2, x2⟩
  rcases hb : nu 2 (m2, x2) with ⟨b, m3, x3⟩
  rcases hc : nu 2 (m3, x3) with ⟨c, m4, x4⟩
  have HS := Kp.mk (outs_step HK.out.1 hp ha hb hc)
  obtain ⟨⟨p1, p2⟩, hy1⟩ := nu1_bd hRk.by_ hp
  obtain ⟨⟨q1, q2⟩, hy2⟩ := nu2_bd hy1 ha
  obtain ⟨⟨q3, q4⟩, hy3⟩ := nu2_bd hy2 hb
  obtain ⟨⟨q5, q6⟩, hy4⟩ := nu2_bd hy3 hc
  have Hp := Kp.mk hp
  have Ha := Kp.mk ha
  have Hb := Kp.mk hb
  have Hc := Kp.mk hc
  clear hp ha hb hc hy1 hy2 hy3 hy4 p1 p2
  have hcl : ((ok ++ List.replicate (n - k) noOut).flatMap ocs).length = n * 4 := by rw [flat_ocs_len, List.length_append, HK.out.2, List.length_replicate]; congr 1; omega
  have hset := Kp.mk (flat_ocs_set (ok ++ List.replicate (n - k) noOut) k ⟨p, a - 1, b - 1, c - 1⟩ (by rw [List.length_append, HK.out.2, List.length_replicate]; omega))
  have hcur := Kp.mk (cur_set ok k n ⟨p, a - 1, b - 1, c - 1⟩ HK.out.2 hltn)
  have j1 : (k : Int) < n := by omega
  generalize (ok ++ List.replicate (n - k) noOut).flatMap ocs = cs at *
  have HL := Kp.mk hcl
  clear hcl
  go_wp2_with fail
  refine (num_eq 1 hRk Hp.out).mono ?_
  rintro en v1 ⟨rfl, hR1, hg1⟩
  have hv1 := hv.grown hg1 (by omega)
  have hGa := grown_trans2 hG hg1
  obtain ⟨y0, hy0⟩ : ∃ y, cs[k * 4]? = some y := ⟨_, List.getElem?_eq_getElem (by have := HL.out; omega)⟩
  have d0 := hv1.cell (k * 4) hy0
  have hf := hv1.free
  clear hy0
  go_upto_region 6 with fail
  have hv2 := hv1.set (k * 4) (.int .i64 p)
  have hR2 := hR1.off' Bk (k * 4) (.int .i64 p) (by omega)
  have hG2 := grown_set2 (o := k * 4) (u := .int .i64 p) hGa (by omega : w.heap.size ≤ Bk)
  clear d0 hf
  first | generalize (v1.setCell ⟨Bk, 0 + k * 4, none⟩ (.int .i64 p)) = v2 at * | generalize (v1.setCell ⟨Bk, k * 4, none⟩ (.int .i64 p)) = v2 at *
  clear hv1 hR1 hg1 hGa y0
  go_wp2_with fail
  refine (readSet_any hR2 Ha.out Hb.out Hc.out).mono ?_
  rintro en v3 ⟨rfl, hR3, hg3⟩
  have hv3 := hv2.grown hg3 (by omega)
  have hG3 := grown_trans2 hG2 hg3
  go_wp2_with fail
  refine (plus_any a b c (-1) v3 (by omega) (by omega) (by omega) (by omega)).mono ?_
  rintro en v4 ⟨rfl, hb4⟩
  have hv4 := hv3.below hb4 hv3.lt
  have hR4 := hR3.below hb4
  have hG4 := grown_below hG3 hb4
  have HC : Kp ((cs.set (k * 4) (.int .i64 p)).length = n * 4) := Kp.mk (by rw [List.length_set]; exact HL.out)
  go_upto_region 7 with (refine wpList_store_at (vs := [.int .i64 (a + -1), .int .i64 (b + -1), .int .i64 (c + -1)]) rfl (.tmp 25) (.tmp 23) rfl (by first | rfl | (simp; done)) rfl hv4 (by have := HC.out; simp only [List.length_cons, List.length_nil]; omega) agg_set rfl ?_; intro v5 hv5 hg5 hz5)
  have hG5 := grown_new hG4 hg5 (by omega)
  have hR5 := hR4.keep hg5 (fun k e => by simp at e; omega)
  have hv6 : Vb 259 v5 Bk (((ok ++ [(⟨p, a - 1, b - 1, c - 1⟩ : OutV)]) ++ List.replicate (n - (k + 1)) noOut).flatMap ocs) := by rw [← hcur.out, ← hset.out]; exact hv5
  clear hv hv2 hv3 hv4 hv5 hR2 hR3 hR4 hG2 hG3 hG4 hg3 hb4 hg5 hz5 hG hRk
  go_wp2_with fail
  go_roundw
  case rel => exact ⟨k + 1, _, m4, x4, by omega, by go_num, Kp.mk (And.intro HS.out (by rw [List.length_append, HK.out.2]; rfl)), hR5, hv6, hG5⟩
  case measure => simp [intOf]; omega
def RuleRdr (T : TypeId) (w : World) (lo g : Nat) (r : RuleV) (l : List Int) (e : Int) (en : Ending) (w' : World) : Prop :=
 ∃ A n c, en = .returned (.agg #[.int .i64 r.k, .int .i64 r.pr, .int .i64 r.to, .int .i64 r.po, .int .i64 r.x.v, .int .i64 r.x.m, .int .u8 r.x.b0, .int .u8 r.x.b1, .int .u8 r.x.b2, .int .u8 r.x.i0, .int .u8 r.x.i1, .int .u8 r.x.i2, .slice A n c]) ∧ Ron w' w.heap.size A n c r.os ∧ Rdr T w' lo g l e ∧ w.grownBy w' (some g)
theorem rule_parts {l l' : List Int} {e e' : Int} {r : RuleV} (hq : ruleRd (l, e) = (r, (l', e'))) : ∃ l1 e1 l2 e2 l3 e3 l4 e4, nu 1 (l, e) = (r.k, (l1, e1)) ∧ nu 2 (l1, e1) = (r.pr, (l2, e2)) ∧ nu 1 (l2, e2) = (r.to, (l3, e3)) ∧ nu 1 (l3, e3) = (r.po, (l4, e4)) ∧
  ((r.k = 1 ∧ ∃ l5 e5 v l6 e6, maskRd (l4, e4) = (r.x, (l5, e5)) ∧ nu 1 (l5, e5) = (v, (l6, e6)) ∧ outsRd v.toNat (l6, e6) = (r.os, (l', e'))) ∨ (r.k ≠ 1 ∧ r.x = noMask ∧ r.os = [] ∧ l4 = l' ∧ e4 = e')) := by
 rcases h1 : nu 1 (l, e) with ⟨k, l1, e1⟩
 rcases h2 : nu 2 (l1, e1) with ⟨pr, l2, e2⟩
 rcases h3 : nu 1 (l2, e2) with ⟨to, l3, e3⟩
 rcases h4 : nu 1 (l3, e3) with ⟨po, l4, e4⟩
 unfold ruleRd at hq
 rw [bnd_eq h1, bnd_eq h2, bnd_eq h3, bnd_eq h4] at hq
 by_cases hk : k = 1
 ·rw [if_pos hk] at hq
  rcases h5 : maskRd (l4, e4) with ⟨x, l5, e5⟩
  rcases h6 : nu 1 (l5, e5) with ⟨v, l6, e6⟩
  rcases h7 : outsRd v.toNat (l6, e6) with ⟨os, l7, e7⟩
  rw [bnd_eq h5, bnd_eq h6, bnd_eq h7] at hq
  simp only [rt, Prod.mk.injEq] at hq
  obtain ⟨rfl, rfl, rfl⟩ := hq
  exact ⟨l1, e1, l2, e2, l3, e3, l4, e4, rfl, h2, h3, h4, .inl ⟨hk, l5, e5, v, l6, e6, h5, h6, h7⟩⟩
 ·rw [if_neg hk] at hq
  simp only [rt, Prod.mk.injEq] at hq
  obtain ⟨rfl, rfl, rfl⟩ := hq
  exact ⟨l1, e1, l2, e2, l3, e3, l4, e4, rfl, h2, h3, h4, .inr ⟨hk, rfl, rfl, rfl, rfl⟩⟩
theorem readRule_any {w : World} {lo g : Nat} {l l' : List Int} {e e' : Int} {r : RuleV} (hR : Rdr 274 w lo g l e) (hq : ruleRd (l, e) = (r, (l', e'))) : Calls Tryz.prog 239 #[.pointer (some ⟨g, 0, none⟩)] w (RuleRdr 274 w lo g r l' e') := by
 have hlt := hR.lt
 obtain ⟨l1, e1, l2, e2, l3, e3, l4, e4, h1, h2, h3, h4, hd⟩ := rule_parts hq
 have H1 := Kp.mk h1
 have H2 := Kp.mk h2
 have H3 := Kp.mk h3
 have H4 := Kp.mk h4
 clear h1 h2 h3 h4 hq
 rcases hd with ⟨hk, l5, e5, v, l6, e6, h5, h6, h7⟩ | ⟨hk, hx, ho, rfl, rfl⟩
 ·have k1 : (r.k == 1) = true := by rw [hk]; rfl
  have H5 := Kp.mk h5
  have H6 := Kp.mk h6
  have H7 := Kp.mk h7
  clear hk h5 h6 h7
  have hz0 : w.heap.size < (w.alloc (.cells #[.int .i64 0, .int .i64 0, .int .i64 0, .int .i64 0, .int .i64 0, .int .i64 0, .int .u8 0, .int .u8 0, .int .u8 0, .int .u8 0, .int .u8 0, .int .u8 0, .slice none 0 0] 47)).heap.size := by simp
  have hG0 : w.grownBy (w.alloc (.cells #[.int .i64 0, .int .i64 0, .int .i64 0, .int .i64 0, .int .i64 0, .int .i64 0, .int .u8 0, .int .u8 0, .int .u8 0, .int .u8 0, .int .u8 0, .int .u8 0, .slice none 0 0] 47)) (some g) := grown_alloc w _ g
  have hR0 := hR.below (below_alloc w (.cells #[.int .i64 0, .int .i64 0, .int .i64 0, .int .i64 0, .int .i64 0, .int .i64 0, .int .u8 0, .int .u8 0, .int .u8 0, .int .u8 0, .int .u8 0, .int .u8 0, .slice none 0 0] 47))
  have hv0 := Vb.new 47 w [.int .i64 0, .int .i64 0, .int .i64 0, .int .i64 0, .int .i64 0, .int .i64 0, .int .u8 0, .int .u8 0, .int .u8 0, .int .u8 0, .int .u8 0, .int .u8 0, .slice none 0 0]
  go_enter Tryz.func239, Tryz.ntmps239
  go_upto_region 1 with fail
  generalize (w.alloc (.cells #[.int .i64 0, .int .i64 0, .int .i64 0, .int .i64 0, .int .i64 0, .int .i64 0, .int .u8 0, .int .u8 0, .int .u8 0, .int .u8 0, .int .u8 0, .int .u8 0, .slice none 0 0] 47)) = w0 at *
  go_wp2_with fail
  refine (num_eq 1 hR0 H1.out).mono ?_
  rintro en w1 ⟨rfl, hR1, hg1⟩
  have hv1 := hv0.grown hg1 (by omega)
  have hG1 := grown_trans2 hG0 hg1
  have hz1 := hg1.size
  clear hv0 hR0 hG0 hg1
  go_wp2_with fail
  refine (num_eq 2 hR1 H2.out).mono ?_
  rintro en w2 ⟨rfl, hR2, hg2⟩
  have hv2 := hv1.grown hg2 (by omega)
  have hG2 := grown_trans2 hG1 hg2
  have hz2 := hg2.size
  clear hv1 hR1 hG1 hg2
  go_wp2_with fail
  refine (num_eq 1 hR2 H3.out).mono ?_
  rintro en w3 ⟨rfl, hR3, hg3⟩
  have hv3 := hv2.grown hg3 (by omega)
  have hG3 := grown_trans2 hG2 hg3
  have hz3 := hg3.size
  clear hv2 hR2 hG2 hg3
  go_wp2_with fail
  refine (num_eq 1 hR3 H4.out).mono ?_
  rintro en w4 ⟨rfl, hR4, hg4⟩
  have hv4 := hv3.grown hg4 (by omega)
  have hG4 := grown_trans2 hG3 hg4
  have hz4 := hg4.size
  clear hv3 hR3 hG3 hg4
  have hzw : w.heap.size < w4.heap.size := by omega
  go_upto_region 2 with (refine wpList_store_new (vs := [.int .i64 r.k, .int .i64 r.pr, .int .i64 r.to, .int .i64 r.po, .int .i64 0, .int .i64 0, .int .u8 0, .int .u8 0, .int .u8 0, .int .u8 0, .int .u8 0, .int .u8 0, .slice none 0 0]) rfl (.tmp 3) (.tmp 12) rfl rfl rfl rfl rfl rfl agg_rule rfl ?_; intro w5 hD5 hb5 hz5)
  have hv5 := hv4.below hb5 hv4.lt
  have hR5 := hR4.below hb5
  have hG5 := grown_below hG4 hb5
  have hz5' : w4.heap.size < w5.heap.size := by omega
  generalize w4.heap.size = Dk at *
  clear hv4 hR4 hG4 hb5 hz5
  obtain ⟨d0, d1, d2, d3, d4, d5, d6, d7, d8, d9, d10, d11, d12⟩ := hD5.c13
  go_wp2_with fail
  refine (readMatch_any hR5 H5.out).mono ?_
  rintro en w6 ⟨rfl, hR6, hg6⟩
  have hz6 := hg6.size
  have hD6 := hD5.grown hg6 (by omega)
  have hv6 := hv5.grown hg6 (by omega)
  have hG6 := grown_trans2 hG5 hg6
  clear d0 d1 d2 d3 d4 d5 d6 d7 d8 d9 d10 d11 d12 hD5 hv5 hG5 hg6
  go_upto_region 4 with (refine wpList_store_at (vs := [.int .i64 r.x.v, .int .i64 r.x.m, .int .u8 r.x.b0, .int .u8 r.x.b1, .int .u8 r.x.b2, .int .u8 r.x.i0, .int .u8 r.x.i1, .int .u8 r.x.i2]) rfl (.tmp 18) (.tmp 17) rfl rfl rfl hD6 (by simp) agg_mask rfl ?_; intro w7 hD7 hg7 hz7)
  change Vb _ _ _ [.int .i64 r.k, .int .i64 r.pr, .int .i64 r.to, .int .i64 r.po, .int .i64 r.x.v, .int .i64 r.x.m, .int .u8 r.x.b0, .int .u8 r.x.b1, .int .u8 r.x.b2, .int .u8 r.x.i0, .int .u8 r.x.i1, .int .u8 r.x.i2, .slice none 0 0] at hD7
  have hv7 := hv6.grown hg7 (by omega)
  have hR7 := hR6.keep hg7 (fun k e => by simp at e; omega)
  have hG7 := grown_new hG6 hg7 (by omega)
  have hz7' : w5.heap.size ≤ w7.heap.size := by omega
  clear hD6 hv6 hR6 hG6 hg7 hz7
  go_wp2_with fail
  refine (readOuts_any hR7 H6.out H7.out).mono ?_
  rintro en w8 ⟨A, n, c, rfl, hr8, hR8, hg8⟩
  have hz8 := hg8.size
  have hD8 := hD7.grown hg8 (by omega)
  have hv8 := hv7.grown hg8 (by omega)
  have hG8 := grown_trans2 hG7 hg8
  have d12 := hD8.cell 12 rfl
  have hf := hD8.free
  go_upto_region 5 with fail
  have hDx := hD8.set 12 (.slice A n c)
  have hvx := hv8.other (r := Dk) (by omega) 12 (.slice A n c)
  have hRx := hR8.off' Dk 12 (.slice A n c) (by omega)
  have hGx := grown_set2 (o := 12) (u := .slice A n c) hG8 (by omega : w.heap.size ≤ Dk)
  have hrx := hr8.grown (grownBy_set w8 Dk 12 (.slice A n c)) (by omega)
  clear d12 hf
  change Vb _ _ _ [.int .i64 r.k, .int .i64 r.pr, .int .i64 r.to, .int .i64 r.po, .int .i64 r.x.v, .int .i64 r.x.m, .int .u8 r.x.b0, .int .u8 r.x.b1, .int .u8 r.x.b2, .int .u8 r.x.i0, .int .u8 r.x.i1, .int .u8 r.x.i2, .slice A n c] at hDx
  generalize (w8.setCell ⟨Dk, 12, none⟩ (.slice A n c)) = wx at *
  clear hD8 hv8 hR8 hG8 hr8 hg8 hD7 hv7 hR7 hG7
  skip
  go_wp2_with (first | (refine wpList_load_vb (vs := [.int .i64 r.k, .int .i64 r.pr, .int .i64 r.to, .int .i64 r.po, .int .i64 r.x.v, .int .i64 r.x.m, .int .u8 r.x.b0, .int .u8 r.x.b1, .int .u8 r.x.b2, .int .u8 r.x.i0, .int .u8 r.x.i1, .int .u8 r.x.i2, .slice A n c]) rfl (.tmp 3) rfl rfl hDx rfl agg_rule ?_) | (refine wpList_store_vb (vs := [.int .i64 r.k, .int .i64 r.pr, .int .i64 r.to, .int .i64 r.po, .int .i64 r.x.v, .int .i64 r.x.m, .int .u8 r.x.b0, .int .u8 r.x.b1, .int .u8 r.x.b2, .int .u8 r.x.i0, .int .u8 r.x.i1, .int .u8 r.x.i2, .slice A n c]) rfl (.tmp 2) (.tmp 22) rfl rfl rfl hvx rfl agg_rule rfl ?_; intro w9 hv9 hg9 hz9))
  refine bodyPost_ret (results_one Tryz.results239 _ rfl hv9 agg_rule) rfl ?_
  exact ⟨A, n, c, rfl, (hrx.grown hg9 (by omega)).lower (by omega), hRx.keep hg9 (fun k e => by simp at e; omega), grown_new hGx hg9 (Nat.le_refl _)⟩
 ·have k1 : (r.k == 1) = false := beq_eq_false_iff_ne.2 hk
  have HX := Kp.mk hx
  have HO := Kp.mk ho
  clear hk hx ho
  have hz0 : w.heap.size < (w.alloc (.cells #[.int .i64 0, .int .i64 0, .int .i64 0, .int .i64 0, .int .i64 0, .int .i64 0, .int .u8 0, .int .u8 0, .int .u8 0, .int .u8 0, .int .u8 0, .int .u8 0, .slice none 0 0] 47)).heap.size := by simp
  have hG0 : w.grownBy (w.alloc (.cells #[.int .i64 0, .int .i64 0, .int .i64 0, .int .i64 0, .int .i64 0, .int .i64 0, .int .u8 0, .int .u8 0, .int .u8 0, .int .u8 0, .int .u8 0, .int .u8 0, .slice none 0 0] 47)) (some g) := grown_alloc w _ g
  have hR0 := hR.below (below_alloc w (.cells #[.int .i64 0, .int .i64 0, .int .i64 0, .int .i64 0, .int .i64 0, .int .i64 0, .int .u8 0, .int .u8 0, .int .u8 0, .int .u8 0, .int .u8 0, .int .u8 0, .slice none 0 0] 47))
  have hv0 := Vb.new 47 w [.int .i64 0, .int .i64 0, .int .i64 0, .int .i64 0, .int .i64 0, .int .i64 0, .int .u8 0, .int .u8 0, .int .u8 0, .int .u8 0, .int .u8 0, .int .u8 0, .slice none 0 0]
  go_enter Tryz.func239, Tryz.ntmps239
  go_upto_region 1 with fail
  generalize (w.alloc (.cells #[.int .i64 0, .int .i64 0, .int .i64 0, .int .i64 0, .int .i64 0, .int .i64 0, .int .u8 0, .int .u8 0, .int .u8 0, .int .u8 0, .int .u8 0, .int .u8 0, .slice none 0 0] 47)) = w0 at *
  go_wp2_with fail
  refine (num_eq 1 hR0 H1.out).mono ?_
  rintro en w1 ⟨rfl, hR1, hg1⟩
  have hv1 := hv0.grown hg1 (by omega)
  have hG1 := grown_trans2 hG0 hg1
  have hz1 := hg1.size
  clear hv0 hR0 hG0 hg1
  go_wp2_with fail
  refine (num_eq 2 hR1 H2.out).mono ?_
  rintro en w2 ⟨rfl, hR2, hg2⟩
  have hv2 := hv1.grown hg2 (by omega)
  have hG2 := grown_trans2 hG1 hg2
  have hz2 := hg2.size
  clear hv1 hR1 hG1 hg2
  go_wp2_with fail
  refine (num_eq 1 hR2 H3.out).mono ?_
  rintro en w3 ⟨rfl, hR3, hg3⟩
  have hv3 := hv2.grown hg3 (by omega)
  have hG3 := grown_trans2 hG2 hg3
  have hz3 := hg3.size
  clear hv2 hR2 hG2 hg3
  go_wp2_with fail
  refine (num_eq 1 hR3 H4.out).mono ?_
  rintro en w4 ⟨rfl, hR4, hg4⟩
  have hv4 := hv3.grown hg4 (by omega)
  have hG4 := grown_trans2 hG3 hg4
  have hz4 := hg4.size
  clear hv3 hR3 hG3 hg4
  have hzw : w.heap.size < w4.heap.size := by omega
  go_upto_region 2 with (refine wpList_store_new (vs := [.int .i64 r.k, .int .i64 r.pr, .int .i64 r.to, .int .i64 r.po, .int .i64 0, .int .i64 0, .int .u8 0, .int .u8 0, .int .u8 0, .int .u8 0, .int .u8 0, .int .u8 0, .slice none 0 0]) rfl (.tmp 3) (.tmp 12) rfl rfl rfl rfl rfl rfl agg_rule rfl ?_; intro w5 hD5 hb5 hz5)
  have hv5 := hv4.below hb5 hv4.lt
  have hR5 := hR4.below hb5
  have hG5 := grown_below hG4 hb5
  have hz5' : w4.heap.size < w5.heap.size := by omega
  generalize w4.heap.size = Dk at *
  clear hv4 hR4 hG4 hb5 hz5
  obtain ⟨d0, d1, d2, d3, d4, d5, d6, d7, d8, d9, d10, d11, d12⟩ := hD5.c13
  skip
  go_wp2_with (first | (refine wpList_load_vb (vs := [.int .i64 r.k, .int .i64 r.pr, .int .i64 r.to, .int .i64 r.po, .int .i64 0, .int .i64 0, .int .u8 0, .int .u8 0, .int .u8 0, .int .u8 0, .int .u8 0, .int .u8 0, .slice none 0 0]) rfl (.tmp 3) rfl rfl hD5 rfl agg_rule ?_) | (refine wpList_store_vb (vs := [.int .i64 r.k, .int .i64 r.pr, .int .i64 r.to, .int .i64 r.po, .int .i64 0, .int .i64 0, .int .u8 0, .int .u8 0, .int .u8 0, .int .u8 0, .int .u8 0, .int .u8 0, .slice none 0 0]) rfl (.tmp 2) (.tmp 22) rfl rfl rfl hv5 rfl agg_rule rfl ?_; intro w9 hv9 hg9 hz9))
  refine bodyPost_ret (results_one Tryz.results239 _ rfl hv9 agg_rule) rfl ?_
  refine ⟨none, 0, 0, by rw [HX.out]; rfl, by rw [HO.out]; exact Ron.nil _ _, hR5.keep hg9 (fun k e => by simp at e; omega), grown_new hG5 hg9 (Nat.le_refl _)⟩
end Go.Proofs.YtnoflfbcgbhipaaGreat.Oct
