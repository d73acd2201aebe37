import Derived.Test.YtnoflfbcgbhipaaGreatSesU
set_option linter.unusedSimpArgs false
set_option linter.unusedVariables false
set_option maxRecDepth 100000
set_option maxHeartbeats 2000000
namespace Go.Proofs.YtnoflfbcgbhipaaGreat.Oct
open Go.RowKit
structure Wd where
 l : Ls
 p : Ps
 now : Int
 boot : Int
 ep : Int
 wire : List Ms
 sent : Int
 rl : Nat → List Int
 gt : Nat → Nat
 fine : Bool
structure Wk where
 lb : Nat
 lq : Bk
 lc : Nat
 pb : Nat
 pq : Bk
 gq : Nat
 wv : Value
 rv : Nat → Value
def wcl (x : Wd) (K : Wk) : List Value :=
 [.pointer (some ⟨K.lb, 0, none⟩), .pointer (some ⟨K.pb, 0, none⟩), .int .i64 x.now, .int .i64 x.boot, .int .i64 x.ep, K.wv, .int .i64 x.sent] ++ ((List.range 512).map K.rv ++ ((List.range 512).map (fun j => Value.int .i64 (x.gt j : Nat)) ++ [.bool x.fine]))
theorem wcl_len (x : Wd) (K : Wk) : (wcl x K).length = 1032 := by simp [wcl]
theorem wcl_row (x : Wd) (K : Wk) {j : Nat} (hj : j < 512) : (wcl x K)[7 + j]? = some (K.rv j) := by
 unfold wcl
 rw [List.getElem?_append_right (by simp), List.getElem?_append_left (by simp; omega)]
 simp [hj]
theorem wcl_got (x : Wd) (K : Wk) {j : Nat} (hj : j < 512) : (wcl x K)[519 + j]? = some (.int .i64 (x.gt j : Nat)) := by
 unfold wcl
 rw [List.getElem?_append_right (by simp; omega), List.getElem?_append_right (by simp; omega), List.getElem?_append_left (by simp; omega)]
 simp only [List.length_cons, List.length_nil, List.length_map, List.length_range, List.getElem?_map]
 rw [show 519 + j - 7 - 512 = j by omega, List.getElem?_range hj]
 rfl
theorem wcl_fine (x : Wd) (K : Wk) : (wcl x K)[1031]? = some (.bool x.fine) := by
 unfold wcl
 rw [List.getElem?_append_right (by simp), List.getElem?_append_right (by simp), List.getElem?_append_right (by simp)]
 simp
def updF {α : Type} (g : Nat → α) (j : Nat) (x : α) : Nat → α := fun i => if i = j then x else g i
theorem updF_same {α : Type} (g : Nat → α) (j : Nat) (x : α) : updF g j x j = x := if_pos rfl
theorem updF_ne {α : Type} (g : Nat → α) {j i : Nat} (x : α) (h : i ≠ j) : updF g j x i = g i := if_neg h
theorem map_updF {α : Type} (g : Nat → α) (F : α → Value) (j : Nat) (x : α) (n : Nat) : ((List.range n).map fun i => F (g i)).set j (F x) = (List.range n).map fun i => F (updF g j x i) := by
 apply List.ext_getElem
 ·simp
 ·intro i h2 h3
  rw [List.getElem_set]
  simp only [List.getElem_map, List.getElem_range, updF]
  by_cases hij : j = i
  ·subst hij; simp
  ·rw [if_neg hij, if_neg (fun e => hij e.symm)]
theorem wcl_setRow (x : Wd) (K : Wk) {j : Nat} (hj : j < 512) (v : Value) : (wcl x K).set (7 + j) v = wcl x { K with rv := updF K.rv j v } := by
 unfold wcl
 rw [List.set_append_right _ _ (by simp), List.set_append_left _ _ (by simp; omega)]
 simp only [List.length_cons, List.length_nil]
 rw [show 7 + j - 7 = j by omega]
 have := map_updF K.rv id j v 512
 simp only [id_eq] at this
 rw [this]
theorem wcl_setGot (x : Wd) (K : Wk) {j : Nat} (hj : j < 512) (n : Nat) : (wcl x K).set (519 + j) (.int .i64 (n : Int)) = wcl { x with gt := updF x.gt j n } K := by
 unfold wcl
 rw [List.set_append_right _ _ (by simp; omega), List.set_append_right _ _ (by simp; omega), List.set_append_left _ _ (by simp; omega)]
 simp only [List.length_cons, List.length_nil, List.length_map, List.length_range]
 rw [show 519 + j - 7 - 512 = j by omega]
 have := map_updF x.gt (fun n : Nat => Value.int .i64 (n : Int)) j n 512
 rw [this]
structure Ww (W w : World) (wb : Nat) (K : Wk) (x : Wd) : Prop where
 own : Vb 66 w wb (wcl x K)
 ln : LnS w K.lb K.lq K.lc x.l
 pn : PnS w K.pb K.pq K.gq x.p
 wi : Said w W.heap.size K.wv x.wire.length x.wire
 rows : ∀ j, j < 512 → Vr 3 w W.heap.size (K.rv j) (x.rl j).length ((x.rl j).map (Value.int .i64))
 ap : ∀ i j, i < 512 → j < 512 → i ≠ j → ∀ k, (K.rv i).ownBlock = some k → (K.rv j).ownBlock ≠ some k
 dj : ∀ k, lown K.lb K.lc K.lq k → ¬ lown K.pb K.gq K.pq k
 nl : ∀ k, lown K.lb K.lc K.lq k → W.heap.size ≤ k
 np : ∀ k, lown K.pb K.gq K.pq k → W.heap.size ≤ k
 nw : W.heap.size ≤ wb
 old : Below W.heap.size W w
theorem LnS.nots {w : World} {l c g : Nat} {q : Bk} {x : Ls} (h : LnS w l q c x) {T : TypeId} {cs : List Value} (hv : Vb T w g cs) (hT : T = 54 ∨ T = 3 ∨ T = 66 ∨ T = 51) : ¬ lown l c q g := by
 have hv2 : w.heap[g]? = _ := hv
 cases hs : x.s with
 | none =>
  obtain ⟨hl, e1, e2⟩ := h.no hs
  subst e1 e2
  intro e
  have e2 : g = c := e.elim id (fun e => e.elim id bk0_own.1)
  subst e2
  exact vb_ne hv hl (by rcases hT with e | e | e | e <;> rw [e] <;> decide) rfl
 | some y =>
  have hb := (h.yes y hs).1
  rintro (e | e | e)
  ·exact vb_ne hv hb.bd.own (by rcases hT with e | e | e | e <;> rw [e] <;> decide) e
  ·exact vb_ne hv hb.cb (by rcases hT with e | e | e | e <;> rw [e] <;> decide) e
  ·exact hb.bd.bi.not (by rcases hT with e | e | e | e <;> rw [e] <;> decide) hv e
theorem PnS.nots {w : World} {pb gq g : Nat} {q : Bk} {x : Ps} (h : PnS w pb q gq x) {T : TypeId} {cs : List Value} (hv : Vb T w g cs) (hT : T = 54 ∨ T = 3 ∨ T = 66 ∨ T = 51) : ¬ lown pb gq q g := by
 obtain ⟨cs2, hv2, _⟩ := h.full
 have h1 : g ≠ pb := vb_ne hv hv2 (by rcases hT with e | e | e | e <;> rw [e] <;> decide)
 have h2 : g ≠ gq := vb_ne hv h.gb (by rcases hT with e | e | e | e <;> rw [e] <;> decide)
 cases hs : x.s with
 | none =>
  rw [(h.no hs).2]
  rintro (e | e | e)
  ·exact h1 e
  ·exact h2 e
  ·exact h1 (bk0_own.1 e)
 | some y =>
  rintro (e | e | e)
  ·exact h1 e
  ·exact h2 e
  ·exact (h.yes y hs).1.bi.not (by rcases hT with e | e | e | e <;> rw [e] <;> decide) hv e
section
variable {W w w' : World} {wb : Nat} {K : Wk} {x : Wd} {S : Nat → Prop}
theorem Said.vb {base n : Nat} {v : Value} {L : List Ms} (h : Said w base v n L) {k : Nat} (e : v.ownBlock = some k) : ∃ cs, Vb 54 w k cs := by
 obtain ⟨cur, hcur⟩ := h.os.typed k e
 exact ⟨cur.toList, by simpa [Vb] using hcur⟩
theorem Vr.vb {E : TypeId} {base n : Nat} {v : Value} {xs : List Value} (h : Vr E w base v n xs) {k : Nat} (e : v.ownBlock = some k) : ∃ cs, Vb E w k cs := by
 obtain ⟨cur, hcur⟩ := h.typed k e
 exact ⟨cur.toList, by simpa [Vb] using hcur⟩
theorem Ww.below (h : Ww W w wb K x) (hb : Below w.heap.size w w') : Ww W w' wb K x :=
 ⟨h.own.below hb h.own.lt, h.ln.below hb, h.pn.below hb, h.wi.below hb, fun j hj => (h.rows j hj).below hb, h.ap, h.dj, h.nl, h.np, h.nw, h.old.trans (hb.mono h.old.size)⟩
theorem Ww.line (h : Ww W w wb K x) {q' : Bk} {c' : Nat} {l' : Ls} (hl : LnS w' K.lb q' c' l') (ht : LnTurn w w' K.lb K.lc K.lq c' q') : Ww W w' wb { K with lq := q', lc := c' } { x with l := l' } := by
 have hn := h.ln.nob
 have hp : ∀ k, lown K.pb K.gq K.pq k → ¬ lown K.lb K.lc K.lq k := fun k e e2 => h.dj k e2 e
 refine ⟨(ht.1.block wb h.own.lt (h.ln.nots h.own (.inr (.inr (.inl rfl))))).trans h.own, hl, h.pn.stay ht.1 hp hn, h.wi.stay ht.1 (fun k e => by obtain ⟨cs, hv⟩ := h.wi.vb e; exact h.ln.nots hv (.inl rfl)) hn, fun j hj => (h.rows j hj).stay ht.1 (fun k e => by obtain ⟨cs, hv⟩ := (h.rows j hj).vb e; exact h.ln.nots hv (.inr (.inl rfl))), h.ap, fun k e e2 => ?_, fun k e => ?_, h.np, h.nw, h.old.trans (ht.1.below h.nl h.old.size)⟩
 ·rcases ht.2 k e with e3 | e3
  ·exact h.dj k e3 e2
  ·have := h.pn.lt k e2; omega
 ·rcases ht.2 k e with e3 | e3
  ·exact h.nl k e3
  ·have := h.old.size; omega
theorem Ww.port (h : Ww W w wb K x) {q' : Bk} {p' : Ps} (hl : PnS w' K.pb q' K.gq p') (ht : LnTurn w w' K.pb K.gq K.pq K.gq q') : Ww W w' wb { K with pq := q' } { x with p := p' } := by
 have hn := h.pn.nob
 refine ⟨(ht.1.block wb h.own.lt (h.pn.nots h.own (.inr (.inr (.inl rfl))))).trans h.own, h.ln.stay ht.1 h.dj hn, hl, h.wi.stay ht.1 (fun k e => by obtain ⟨cs, hv⟩ := h.wi.vb e; exact h.pn.nots hv (.inl rfl)) hn, fun j hj => (h.rows j hj).stay ht.1 (fun k e => by obtain ⟨cs, hv⟩ := (h.rows j hj).vb e; exact h.pn.nots hv (.inr (.inl rfl))), h.ap, fun k e e2 => ?_, h.nl, fun k e => ?_, h.nw, h.old.trans (ht.1.below h.np h.old.size)⟩
 ·rcases ht.2 k e2 with e3 | e3
  ·exact h.dj k e e3
  ·have := h.ln.lt k e; omega
 ·rcases ht.2 k e with e3 | e3
  ·exact h.np k e3
  ·have := h.old.size; omega
theorem Ww.cell (h : Ww W w wb K x) (j : Nat) (u : Value) {K' : Wk} {x' : Wd} (hc : (wcl x K).set j u = wcl x' K') (hl : x'.l = x.l ∧ x'.p = x.p ∧ x'.wire = x.wire ∧ x'.rl = x.rl) (hk : K'.lb = K.lb ∧ K'.lq = K.lq ∧ K'.lc = K.lc ∧ K'.pb = K.pb ∧ K'.pq = K.pq ∧ K'.gq = K.gq ∧ K'.wv = K.wv ∧ K'.rv = K.rv) : Ww W (w.setCell ⟨wb, j, none⟩ u) wb K' x' := by
 have hg := Ch.of_grown (grownBy_set w wb j u)
 have hn := nob_vb h.own (by decide) (by decide)
 obtain ⟨lb, lq, lc, pb, pq, gq, wv, rv⟩ := K'
 obtain ⟨l, p, now, boot, ep, wire, sent, rl, gt, fine⟩ := x'
 obtain ⟨e1, e2, e3, e4, e5, e6, e7, e8⟩ := hk
 obtain ⟨f1, f2, f3, f4⟩ := hl
 simp only at e1 e2 e3 e4 e5 e6 e7 e8 f1 f2 f3 f4
 subst e1 e2 e3 e4 e5 e6 e7 e8 f1 f2 f3 f4
 exact ⟨by rw [← hc]; exact h.own.set j u, h.ln.stay hg (fun k e e2 => h.ln.nots h.own (.inr (.inr (.inl rfl))) (e2 ▸ e)) hn, h.pn.stay hg (fun k e e2 => h.pn.nots h.own (.inr (.inr (.inl rfl))) (e2 ▸ e)) hn, h.wi.stay hg (fun k e e2 => by obtain ⟨cs, hv⟩ := h.wi.vb e; exact vb_ne hv h.own (by decide) e2) hn, fun j hj => (h.rows j hj).stay hg (fun k e e2 => by obtain ⟨cs, hv⟩ := (h.rows j hj).vb e; exact vb_ne hv h.own (by decide) e2), h.ap, h.dj, h.nl, h.np, h.nw, h.old.trans (hg.below (fun k e => e ▸ h.nw) h.old.size)⟩
end
def Sa.ms (s : Sa) : Ms := ⟨⟨s.k, s.t, s.f, s.h, s.p, s.o, s.s, s.a, none, s.l.length, 0⟩, s.l⟩
theorem Mok.len {w : World} {m : Ms} (h : Mok w m) : m.l.length = m.x.n := Fok.len (P := fun _ => True) h
theorem ok_abs {m : Ms} (h : m.l.length = m.x.n) : m.x.ok = m.abs.ms.x.ok := by
 unfold Sv.ok Ms.abs Sa.ms
 simp only
 rw [h]
theorem is_abs {m : Ms} (h : m.l.length = m.x.n) (k : Int) : m.x.is k = m.abs.ms.x.is k := by unfold Sv.is; rw [ok_abs h]; rfl
theorem Ls.take_abs (x : Ls) {m : Ms} (h : m.l.length = m.x.n) (now : Int) : x.take m now = x.take m.abs.ms now := by
 unfold Ls.take
 cases x.on with
 | none => rfl
 | some y =>
  have e1 : y.mine m = y.mine m.abs.ms := by unfold Lb.mine; rw [ok_abs h]; rfl
  have e2 : y.goes m = y.goes m.abs.ms := by unfold Lb.goes goC; rw [is_abs h, is_abs h]; rfl
  have e3 : goC m.x y.b.t y.b.e y.q = goC m.abs.ms.x y.b.t y.b.e y.q := e2
  have e4 : y.call m now = y.call m.abs.ms now := by unfold Lb.call Lb.callB qC bC; rw [e2, e3]; rfl
  have e5 : y.take m now = y.take m.abs.ms now := by unfold Lb.take; rw [e1, e4]; rfl
  simp only [e5]
theorem Ls.gets_abs (x : Ls) {m : Ms} (h : m.l.length = m.x.n) (now : Int) : x.gets m now = x.gets m.abs.ms now := by
 unfold Ls.gets
 cases x.on with
 | none => rfl
 | some y =>
  have e1 : y.mine m = y.mine m.abs.ms := by unfold Lb.mine; rw [ok_abs h]; rfl
  have e5 : y.gets m = y.gets m.abs.ms := by unfold Lb.gets; rw [e1]; rfl
  simp only [e5]
section
variable {x : Ps} {m : Ms}
theorem hello_abs (h : m.l.length = m.x.n) (sf : Int) : helloG m.x sf = helloG m.abs.ms.x sf := by unfold helloG; rw [is_abs h]; rfl
theorem ackG_abs (h : m.l.length = m.x.n) (sf bo E : Int) : ackG m.x sf bo E = ackG m.abs.ms.x sf bo E := by unfold ackG offG; rw [is_abs h]; rfl
theorem Ps.isA_abs (h : m.l.length = m.x.n) : x.isA m = x.isA m.abs.ms := by unfold Ps.isA isG; rw [hello_abs h, ackG_abs h]
theorem Ps.beg_abs (h : m.l.length = m.x.n) : x.beg m = x.beg m.abs.ms := by unfold Ps.beg begG; rw [ackG_abs h]; rfl
theorem Ps.bodyA_abs (h : m.l.length = m.x.n) : x.bodyA m = x.bodyA m.abs.ms := by unfold Ps.bodyA; rw [Ps.beg_abs h]; rfl
theorem Ps.mine_abs (h : m.l.length = m.x.n) (y : Bo) : x.mine m y = x.mine m.abs.ms y := by unfold Ps.mine; rw [ok_abs h]; rfl
theorem Ps.ans_abs (h : m.l.length = m.x.n) : x.ans m = x.ans m.abs.ms := by unfold Ps.ans ansG; rw [Ps.bodyA_abs h, hello_abs h, ackG_abs h]; rfl
end
theorem Ps.take_abs (x : Ps) {m : Ms} (h : m.l.length = m.x.n) (now : Int) : x.take m now = x.take m.abs.ms now := by
 unfold Ps.take
 rw [Ps.isA_abs h, Ps.bodyA_abs h]
 cases x.s with
 | none => rfl
 | some y => simp only [Ps.mine_abs h]; rfl
theorem Ps.gets_abs (x : Ps) {m : Ms} (h : m.l.length = m.x.n) (now : Int) : x.gets m now = x.gets m.abs.ms now := by
 unfold Ps.gets
 rw [Ps.isA_abs h]
 cases x.s with
 | none => rfl
 | some y => simp only [Ps.mine_abs h]; rfl
theorem Ps.answers_abs (x : Ps) {m : Ms} (h : m.l.length = m.x.n) (now : Int) : x.answers m now = x.answers m.abs.ms now := by unfold Ps.answers; rw [Ps.isA_abs h, Ps.ans_abs h]
theorem Ps.begins_abs (x : Ps) {m : Ms} (h : m.l.length = m.x.n) (now : Int) : x.begins m now = x.begins m.abs.ms now := by unfold Ps.begins; rw [Ps.beg_abs h]
def oneB (l : List Sa) (kd ep : Int) : Bool := match l with | [s] => (s.k == kd) && ((s.p == ep) && (s.h == 12)) | _ => false
section
variable {w : World} {base n c : Nat} {A : Option Addr} {L : List Ms}
theorem Said.nine (h : Said w base (.slice A n c) n L) {j : Nat} {k t f hp p o s a : Int} {A2 : Option Addr} {n2 c2 : Nat} {ml : List Int} (hj : L[j]? = some ⟨⟨k, t, f, hp, p, o, s, a, A2, n2, c2⟩, ml⟩) : ∃ g, A = some ⟨g, 0, none⟩ ∧ w.cell? ⟨g, j * 9, none⟩ = some (.int .i64 k) ∧ w.cell? ⟨g, j * 9 + 1, none⟩ = some (.int .i64 t) ∧ w.cell? ⟨g, j * 9 + 2, none⟩ = some (.int .i64 f) ∧ w.cell? ⟨g, j * 9 + 3, none⟩ = some (.int .i64 hp) ∧ w.cell? ⟨g, j * 9 + 4, none⟩ = some (.int .i64 p) ∧ w.cell? ⟨g, j * 9 + 5, none⟩ = some (.int .i64 o) ∧ w.cell? ⟨g, j * 9 + 6, none⟩ = some (.int .i64 s) ∧ w.cell? ⟨g, j * 9 + 7, none⟩ = some (.int .i64 a) ∧ w.cell? ⟨g, j * 9 + 8, none⟩ = some (.slice A2 n2 c2) := by
 have hlt := (List.getElem?_eq_some_iff.1 hj).1
 have hl := h.len
 obtain ⟨g, e, _, hat⟩ := h.os.at_ (by omega)
 have hc := hat j ⟨k, t, f, hp, p, o, s, a, A2, n2, c2⟩ (by rw [List.getElem?_map, hj]; rfl)
 exact ⟨g, e, hc 0 _ rfl, hc 1 _ rfl, hc 2 _ rfl, hc 3 _ rfl, hc 4 _ rfl, hc 5 _ rfl, hc 6 _ rfl, hc 7 _ rfl, hc 8 _ rfl⟩
theorem Said.one (h : Said w base (.slice A n c) n L) (kd ep : Int) : Calls Tryz.prog 59 #[.slice A n c, .int .i64 kd, .int .i64 ep] w fun en w' => en = .returned (.bool (oneB (L.map Ms.abs) kd ep)) ∧ w' = w := by
 have hl := h.len
 by_cases hn : n = 1
 ·subst hn
  match L, hl with
  | [⟨⟨k, t, f, hp, p, o, s, a, A2, n2, c2⟩, ml⟩], _ =>
  obtain ⟨g, e, c0, _, _, c3, c4, _⟩ := h.nine (j := 0) rfl
  subst e
  simp only [Nat.zero_mul, Nat.zero_add] at c0 c3 c4
  show Calls _ _ _ _ (fun en w' => en = .returned (.bool ((k == kd) && ((p == ep) && (hp == 12)))) ∧ w' = w)
  clear h hl
  cases h1 : (k == kd) with
  | false =>
   go_enter Tryz.func59, Tryz.ntmps59
   go_wp2_with fail
   go_ret
   exact ⟨rfl, rfl⟩
  | true =>
  cases h2 : (p == ep) with
  | false =>
   go_enter Tryz.func59, Tryz.ntmps59
   go_wp2_with fail
   go_ret
   exact ⟨rfl, rfl⟩
  | true =>
  cases h3 : (hp == 12) with
  | false =>
   go_enter Tryz.func59, Tryz.ntmps59
   go_wp2_with fail
   go_ret
   exact ⟨rfl, rfl⟩
  | true =>
   go_enter Tryz.func59, Tryz.ntmps59
   go_wp2_with fail
   go_ret
   exact ⟨rfl, rfl⟩
 ·have e0 : ((n : Int) == 1) = false := by simp; omega
  have hO : oneB (L.map Ms.abs) kd ep = false := by
   match L, hl with
   | [], _ => rfl
   | [_], e => exact absurd e.symm hn
   | _ :: _ :: _, _ => rfl
  rw [hO]
  clear h hl hO
  go_enter Tryz.func59, Tryz.ntmps59
  go_wp2_with fail
  go_ret
  exact ⟨rfl, rfl⟩
end
theorem abs_one {L : List Ms} {s : Sa} (h : L.map Ms.abs = [s]) : ∃ A n c, L = [⟨⟨s.k, s.t, s.f, s.h, s.p, s.o, s.s, s.a, A, n, c⟩, s.l⟩] := by
 match L, h with
 | [m], h =>
  have e : m.abs = s := by simpa using h
  subst e
  exact ⟨m.x.A, m.x.n, m.x.c, rfl⟩
structure LP (W w : World) (lb : Nat) (lq : Bk) (lc pb : Nat) (pq : Bk) (gq : Nat) (l : Ls) (p : Ps) : Prop where
 ln : LnS w lb lq lc l
 pn : PnS w pb pq gq p
 dj : ∀ k, lown lb lc lq k → ¬ lown pb gq pq k
 nl : ∀ k, lown lb lc lq k → W.heap.size ≤ k
 np : ∀ k, lown pb gq pq k → W.heap.size ≤ k
 old : Below W.heap.size W w
structure Kps (w w' : World) : Prop where
 sa : ∀ {base n : Nat} {v : Value} {L : List Ms}, Said w base v n L → Said w' base v n L
 vo : ∀ {base n : Nat} {v : Value} {L : List Ov}, Vo w base v n L → Vo w' base v n L
theorem Vo.vb {w : World} {base n : Nat} {v : Value} {L : List Ov} (h : Vo w base v n L) {k : Nat} (e : v.ownBlock = some k) : ∃ cs, Vb 51 w k cs := by
 obtain ⟨cur, hcur⟩ := h.typed k e
 exact ⟨cur.toList, by simpa [Vb] using hcur⟩
section
variable {W w w' : World} {lb lc pb gq : Nat} {lq pq : Bk} {l : Ls} {p : Ps}
theorem LP.below (h : LP W w lb lq lc pb pq gq l p) (hb : Below w.heap.size w w') : LP W w' lb lq lc pb pq gq l p := ⟨h.ln.below hb, h.pn.below hb, h.dj, h.nl, h.np, h.old.trans (hb.mono h.old.size)⟩
theorem LP.line (h : LP W w lb lq lc pb pq gq l p) {q' : Bk} {c' : Nat} {l' : Ls} (hl : LnS w' lb q' c' l') (ht : LnTurn w w' lb lc lq c' q') : LP W w' lb q' c' pb pq gq l' p ∧ Kps w w' := by
 have hn := h.ln.nob
 refine ⟨⟨hl, h.pn.stay ht.1 (fun k e e2 => h.dj k e2 e) hn, fun k e e2 => ?_, fun k e => ?_, h.np, h.old.trans (ht.1.below h.nl h.old.size)⟩, ⟨fun hs => hs.stay ht.1 (fun k e => by obtain ⟨cs, hv⟩ := hs.vb e; exact h.ln.nots hv (.inl rfl)) hn, fun hs => hs.stay ht.1 (fun k e => by obtain ⟨cs, hv⟩ := hs.vb e; exact h.ln.nots hv (.inr (.inr (.inr rfl))))⟩⟩
 ·rcases ht.2 k e with e3 | e3
  ·exact h.dj k e3 e2
  ·have := h.pn.lt k e2; omega
 ·rcases ht.2 k e with e3 | e3
  ·exact h.nl k e3
  ·have := h.old.size; omega
theorem LP.port (h : LP W w lb lq lc pb pq gq l p) {q' : Bk} {p' : Ps} (hl : PnS w' pb q' gq p') (ht : LnTurn w w' pb gq pq gq q') : LP W w' lb lq lc pb q' gq l p' ∧ Kps w w' := by
 have hn := h.pn.nob
 refine ⟨⟨h.ln.stay ht.1 h.dj hn, hl, fun k e e2 => ?_, h.nl, fun k e => ?_, h.old.trans (ht.1.below h.np h.old.size)⟩, ⟨fun hs => hs.stay ht.1 (fun k e => by obtain ⟨cs, hv⟩ := hs.vb e; exact h.pn.nots hv (.inl rfl)) hn, fun hs => hs.stay ht.1 (fun k e => by obtain ⟨cs, hv⟩ := hs.vb e; exact h.pn.nots hv (.inr (.inr (.inr rfl))))⟩⟩
 ·rcases ht.2 k e2 with e3 | e3
  ·exact h.dj k e e3
  ·have := h.ln.lt k e; omega
 ·rcases ht.2 k e with e3 | e3
  ·exact h.np k e3
  ·have := h.old.size; omega
theorem LnTurn.same {c : Nat} {q : Bk} (h : Ch (lown lb c q) w w') : LnTurn w w' lb c q c q := ⟨h, fun k e => .inl e⟩
theorem LP.tick (h : LP W w lb lq lc pb pq gq l p) (now : Int) : Calls Tryz.prog 34 #[.pointer (some ⟨lb, 0, none⟩), .int .i64 now] w fun en w' => ∃ A' n' c' L, en = .returned (.slice A' n' c') ∧ Said w' w.heap.size (.slice A' n' c') n' L ∧ L.map Ms.abs = l.says now ∧ n' ≤ 9 ∧ LP W w' lb lq lc pb pq gq (l.tick now) p ∧ Kps w w' :=
 (h.ln.tickC now).mono fun en w' ⟨A', n', c', L, h1, h2, h3, h4, h5, h6⟩ => by
  obtain ⟨k1, k2⟩ := h.line h5 (.same h6)
  exact ⟨A', n', c', L, h1, h2.out, h3, h4, k1, k2⟩
theorem LP.ptick (h : LP W w lb lq lc pb pq gq l p) (now : Int) (ht : ∀ y, p.s = some y → y.tr < 10000000) : Calls Tryz.prog 35 #[.pointer (some ⟨pb, 0, none⟩), .int .i64 now] w fun en w' => ∃ A' n' c' L, en = .returned (.slice A' n' c') ∧ Said w' w.heap.size (.slice A' n' c') n' L ∧ L.map Ms.abs = p.says now ∧ n' ≤ 9 ∧ LP W w' lb lq lc pb pq gq l (p.tick now) ∧ Kps w w' :=
 (h.pn.tickC now ht).mono fun en w' ⟨A', n', c', L, h1, h2, h3, h4, h5, h6⟩ => by
  obtain ⟨k1, k2⟩ := h.port h5 (.same h6)
  exact ⟨A', n', c', L, h1, h2.out, h3, h4, k1, k2⟩
theorem LP.take (h : LP W w lb lq lc pb pq gq l p) (m : Ms) (hm : Mok w m) (now : Int) : Calls Tryz.prog 38 #[.pointer (some ⟨lb, 0, none⟩), m.x.v, .int .i64 now] w fun en w' => ∃ A' n' c' Lt, en = .returned (.slice A' n' c') ∧ Vo w' w.heap.size (.slice A' n' c') n' Lt ∧ Lt.map Ov.o = tells (l.gets m.abs.ms now) ∧ (∀ y ∈ Lt, y.ok w') ∧ LP W w' lb lq lc pb pq gq (l.take m.abs.ms now) p ∧ Kps w w' :=
 (h.ln.takeC m hm now).mono fun en w' ⟨A', n', c', L, h1, h2, h3, h4, h5, h6⟩ => by
  rw [Ls.gets_abs l hm.len now] at h3
  rw [Ls.take_abs l hm.len now] at h5
  obtain ⟨k1, k2⟩ := h.line h5 (.same h6)
  exact ⟨A', n', c', L, h1, h2.out, h3, h4, k1, k2⟩
theorem LP.ptake (h : LP W w lb lq lc pb pq gq l p) (m : Ms) (hm : Mok w m) (now : Int) : Calls Tryz.prog 37 #[.pointer (some ⟨pb, 0, none⟩), m.x.v, .int .i64 now] w fun en w' => ∃ A1 n1 c1 Lt A2 n2 c2 q', en = .returned (.tuple #[.slice A1 n1 c1, .slice A2 n2 c2, .bool (p.begins m.abs.ms now)]) ∧ Vo w' w.heap.size (.slice A1 n1 c1) n1 Lt ∧ Lt.map Ov.o = tells (p.gets m.abs.ms now) ∧ (∀ y ∈ Lt, y.ok w') ∧ Said w' w.heap.size (.slice A2 n2 c2) n2 ((p.answers m.abs.ms now).map Sv.ms).toList ∧ LP W w' lb lq lc pb q' gq l (p.take m.abs.ms now) ∧ Kps w w' :=
 (h.pn.takeC m hm now).mono fun en w' ⟨A', n', c', L, A2, n2, c2, h1, h2, h3, h4, h5, q', h6, h7⟩ => by
  rw [Ps.gets_abs p hm.len now] at h3
  rw [Ps.take_abs p hm.len now] at h6
  rw [Ps.answers_abs p hm.len now] at h5
  rw [Ps.begins_abs p hm.len now] at h1
  obtain ⟨k1, k2⟩ := h.port h6 h7
  exact ⟨A', n', c', L, A2, n2, c2, q', h1, h2.out, h3, h4, h5.out, k1, k2⟩
theorem LP.begin (h : LP W w lb lq lc pb pq gq l p) (e now : Int) : Calls Tryz.prog 31 #[.pointer (some ⟨lb, 0, none⟩), .int .i64 e, .int .i64 now] w fun en w' => en = .returned (.int .i64 (l.begE e now)) ∧ ∃ q' c', LP W w' lb q' c' pb pq gq (l.begin_ e now) p ∧ Kps w w' :=
 (h.ln.beginC e now).mono fun en w' ⟨h1, q', c', h5, h6⟩ => ⟨h1, q', c', h.line h5 h6⟩
theorem LP.send (h : LP W w lb lq lc pb pq gq l p) {o : OrdV} {A : Option Addr} {n c0 : Nat} (ho : OrdIn w o A n c0) : Calls Tryz.prog 36 #[.pointer (some ⟨lb, 0, none⟩), (.agg #[.int .i64 o.k, .int .i64 o.n, .int .i64 o.m, .int .i64 o.r.k, .int .i64 o.r.pr, .int .i64 o.r.to, .int .i64 o.r.po, .int .i64 o.r.x.v, .int .i64 o.r.x.m, .int .u8 o.r.x.b0, .int .u8 o.r.x.b1, .int .u8 o.r.x.b2, .int .u8 o.r.x.i0, .int .u8 o.r.x.i1, .int .u8 o.r.x.i2, .slice A n c0, .int .i64 o.f, .int .i64 o.p, .int .i64 o.t, .int .i64 o.q, .int .i64 o.z])] w fun en w' => en = .returned (.int .i64 (l.sendE o)) ∧ ∃ q', LP W w' lb q' lc pb pq gq (l.send o) p ∧ Kps w w' :=
 (h.ln.sendC ho).mono fun en w' ⟨h1, q', h5, h6⟩ => ⟨h1, q', h.line h5 h6⟩
end
end Go.Proofs.YtnoflfbcgbhipaaGreat.Oct
