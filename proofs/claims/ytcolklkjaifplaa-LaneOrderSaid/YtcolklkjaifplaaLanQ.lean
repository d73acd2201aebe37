/- A queue of bytes, in a block from lo on, wherever in it; the walk of LaneOrder. -/
import Derived.Test.YtcolklkjaifplaaLanH
import Derived.ArgAppend
namespace Go.Proofs.Ytcolklkjaifplaa.Oct
open Go.RowKit
set_option linter.unusedVariables false
set_option linter.unusedSimpArgs false
/-- The slice (A, n, c) holds the bytes q, in a block of the call's own. -/
structure Qw (w : World) (lo : Nat) (A : Option Addr) (n c : Nat) (q : List Int) : Prop where
  len : q.length = n
  le : n ≤ c
  cap : c ≤ maxLen
  nil : A = none → c = 0
  ex : ∀ a, A = some a → ∃ g off cs, a = ⟨g, off, none⟩ ∧ lo ≤ g ∧ w.heap[g]? = some (.cells cs 5 (0, 0)) ∧ off + c ≤ cs.size ∧ ∀ j, j < n → cs[off + j]? = some (.int .u8 (q.getD j 0))
section
variable {w w' : World} {lo n c : Nat} {A : Option Addr} {q : List Int} {S : Nat → Prop}
theorem Qw.none (w : World) (lo : Nat) : Qw w lo Option.none 0 0 [] := ⟨rfl, Nat.le_refl _, Nat.zero_le _, fun _ => rfl, fun a h => by simp at h⟩
theorem Qw.stay (h : Qw w lo A n c q) (hc : Ch S w w') (hs : ∀ k, (Value.slice A n c).ownBlock = some k → ¬ S k) : Qw w' lo A n c q :=
  ⟨h.len, h.le, h.cap, h.nil, fun a ha => by
    obtain ⟨g, off, cs, e, hl, hg, hz, hj⟩ := h.ex a ha
    exact ⟨g, off, cs, e, hl, (hc.block g (Array.getElem?_eq_some_iff.1 hg).1 (hs g (by rw [ha, e]; rfl))).trans hg, hz, hj⟩⟩
theorem Qw.below (h : Qw w lo A n c q) (hb : Below w.heap.size w w') : Qw w' lo A n c q := h.stay (S := fun _ => False) (.of_below hb) (fun _ _ e => e)
theorem Qw.at_ (h : Qw w lo A n c q) : ∀ k, (Value.slice A n c).ownBlock = some k → lo ≤ k ∧ k < w.heap.size ∧ ∃ cs, w.heap[k]? = some (.cells cs 5 (0, 0)) := by
  intro k hk
  rcases A with _ | a
  · simp [Value.ownBlock] at hk
  · obtain ⟨g, off, cs, e, hl, hg, hz, hj⟩ := h.ex a rfl
    subst e
    simp [Value.ownBlock] at hk
    subst hk
    exact ⟨hl, (Array.getElem?_eq_some_iff.1 hg).1, cs, hg⟩
theorem Qw.rd (h : Qw w lo A n c q) : Rd .u8 w w.heap.size A n c q :=
  ⟨h.len, h.le, h.cap, h.nil, fun hn => by
    rcases A with _ | a
    · have := h.nil rfl; have := h.le; omega
    · obtain ⟨g, off, cs, e, hl, hg, hz, hj⟩ := h.ex a rfl
      subst e
      exact ⟨g, off, rfl, (Array.getElem?_eq_some_iff.1 hg).1, fun j hjn => by simp [World.cell?, hg, hj j hjn]⟩⟩
theorem Qw.of_own (h : Own w lo (.slice A n c) n q) : Qw w lo A n c q := by
  obtain ⟨A', c', e, h1, h2, h3, h4⟩ := h.form
  injection e with e1 e2 e3
  subst e1 e3
  refine ⟨h.len, h1, h2, h3, fun a ha => ?_⟩
  rcases h.2 with ⟨hv, _⟩ | ⟨g, cap, cur, hv, hbg, hg, hnc, hcm, hcs, htake⟩
  · injection hv with hA _ _
    rw [hA] at ha
    simp at ha
  · injection hv with hA _ hcap
    subst hA hcap
    refine ⟨g, 0, cur, by simpa using ha.symm, hbg, hg, by omega, fun j hj => ?_⟩
    have hl := h.len
    have e2 : (cur.toList.take (n * 1))[j]? = (q.map (Value.int .u8))[j]? := by rw [htake]
    rw [List.getElem?_take, if_pos (by omega), List.getElem?_map, List.getElem?_eq_getElem (show j < q.length by omega)] at e2
    rw [Nat.zero_add, ← Array.getElem?_toList, e2, List.getD_eq_getElem?_getD, List.getElem?_eq_getElem (show j < q.length by omega)]
    rfl
/-- The first one, and what is behind it. -/
theorem Qw.parts {x : Int} (h : Qw w lo A n c (x :: q)) : ∃ g off, A = some ⟨g, off, Option.none⟩ ∧ 1 ≤ n ∧ n ≤ c ∧ Rd .u8 w w.heap.size A 1 c [x] ∧ (c = 1 → Qw w lo (some ⟨g, off, Option.none⟩) 0 0 [] ∧ q = []) ∧ Qw w lo (some ⟨g, off + 1, Option.none⟩) (n - 1) (c - 1) q := by
  have hl := h.len
  have hle := h.le
  simp at hl
  rcases A with _ | a
  · have := h.nil rfl; omega
  · obtain ⟨g, off, cs, e, hlo, hg, hz, hj⟩ := h.ex a rfl
    subst e
    refine ⟨g, off, rfl, by omega, hle, ⟨rfl, by omega, h.cap, fun e => by simp at e, fun _ => ⟨g, off, rfl, (Array.getElem?_eq_some_iff.1 hg).1, fun j hj2 => ?_⟩⟩, fun hc => ⟨⟨rfl, Nat.le_refl _, Nat.zero_le _, fun _ => rfl, fun a ha => ?_⟩, List.eq_nil_of_length_eq_zero (by omega)⟩, ⟨by omega, by omega, by have := h.cap; omega, fun e => by simp at e, fun a ha => ?_⟩⟩
    · have h0 := hj j (by omega)
      obtain rfl : j = 0 := by omega
      simp [World.cell?, hg]
      simpa using h0
    · exact ⟨g, off, cs, by simpa using ha.symm, hlo, hg, by omega, fun j hj => by omega⟩
    · refine ⟨g, off + 1, cs, by simpa using ha.symm, hlo, hg, by omega, fun j hj2 => ?_⟩
      have h0 := hj (j + 1) (by omega)
      rw [show off + 1 + j = off + (j + 1) by omega, h0]
      rfl
/-- append of one byte, as an equation. -/
theorem Qw.push (h : Qw w lo A n c q) (ty : TypeId) {B : Nat} {g2 : Nat} {x : Int} (hr : Rd .u8 w B (some ⟨g2, 0, Option.none⟩) 1 1 [x]) (hn : n ≤ 1000) (hlo : lo ≤ w.heap.size) :
    ∃ A' c' w', (Builtin.append_ #[60, 60] ty #[.slice A n c, .slice (some ⟨g2, 0, Option.none⟩) 1 1]).run Try.prog w = .ok (.slice A' (n + 1) c') w' ∧ Qw w' lo A' (n + 1) c' (q ++ [x]) ∧ Ch (fun k => (Value.slice A n c).ownBlock = some k) w w' ∧ ((Value.slice A' (n + 1) c').ownBlock = (Value.slice A n c).ownBlock ∨ ∀ k, (Value.slice A' (n + 1) c').ownBlock = some k → w.heap.size ≤ k) := by
  obtain ⟨i0, hi, hz0, hz1, hz2⟩ := info_parts info_u8
  have hcell : ∀ j u, ([x].map (Value.int .u8))[j]? = some u → w.cell? ((⟨g2, 0, Option.none⟩ : Addr).add j) = some u := by
    intro j u hu
    obtain ⟨b, off, e, _, hc⟩ := hr.at_ (by omega)
    have e := Option.some.inj e
    obtain ⟨e1, e2⟩ : g2 = b ∧ 0 = off := by simpa using e
    subst e1 e2
    have hj : j < 1 := by have := (List.getElem?_eq_some_iff.1 hu).1; simpa using this
    obtain rfl : j = 0 := by omega
    rw [add_addr, hc 0 (by omega)]
    simpa using hu
  have grown : ∀ {v' : Value} {w' : World}, w'.ownsRow w.heap.size 5 1 v' (n + 1) (q.map (Value.int .u8) ++ [x].map (Value.int .u8)) → ∃ A' c', v' = .slice A' (n + 1) c' ∧ Qw w' lo A' (n + 1) c' (q ++ [x]) ∧ ∀ k, (Value.slice A' (n + 1) c').ownBlock = some k → w.heap.size ≤ k := by
    intro v' w' ho
    have ho2 : Own w' w.heap.size v' (n + 1) (q ++ [x]) := by unfold Own; rw [List.map_append]; exact ho
    obtain ⟨A', c', e, _⟩ := ho2.form
    subst e
    exact ⟨A', c', rfl, Qw.of_own (ho2.lower hlo), fun k hk => (World.ownsRow.lt ho2 k hk).1⟩
  rcases A with _ | a
  · obtain rfl := h.nil rfl
    obtain rfl : n = 0 := by have := h.le; omega
    obtain rfl := List.eq_nil_of_length_eq_zero h.len
    obtain ⟨v', w', hrun, h2, h3, _, h5⟩ := run_append_own_at (P := Try.prog) w w.heap.size 60 ty 5 i0 _ 1 1 Try.underlying60 hi hz0 hz1 hz2 rfl (by omega) (.slice Option.none 0 0) 0 [] (World.ownsRow_nil w _ _ 1) ⟨g2, 0, Option.none⟩ 1 1 ([x].map (Value.int .u8)) rfl hcell (by intro u hu; obtain ⟨z, _, rfl⟩ := List.mem_map.1 hu; rfl) (by unfold maxLen; omega) (by omega) (Nat.le_refl _)
    rw [Nat.zero_add] at h2
    obtain ⟨A', c', rfl, h6, h7⟩ := grown h2
    exact ⟨A', c', w', hrun, h6, .of_grownv h3, .inr h7⟩
  · obtain ⟨g, off, cs, e, hl, hg, hz, hj⟩ := h.ex a rfl
    subst e
    by_cases hroom : n + 1 ≤ c
    · have hrun := run_append_room_cells (P := Try.prog) w 60 ty 5 i0 Try.underlying60 hi g off n c ⟨g2, 0, Option.none⟩ 1 1 ([x].map (Value.int .u8)) (by rw [hz1]; rfl) hcell (by intro u hu; obtain ⟨z, _, rfl⟩ := List.mem_map.1 hu; rfl) hroom
        (fun j hj2 => by
          have hj2 : j < 1 := hj2
          rw [hz1]
          simp only [World.cell?, hg]
          rw [Array.getElem?_eq_getElem (by omega)]
          rfl)
        (fun j hj2 => by simp [World.frozen?, hg])
      rw [hz1, Nat.mul_one] at hrun
      have hset : w.setCells g (off + n) ([x].map (Value.int .u8)) = w.setCell ⟨g, off + n, Option.none⟩ (.int .u8 x) := rfl
      rw [hset] at hrun
      have hgr := grownBy_set w g (off + n) (.int .u8 x)
      refine ⟨some ⟨g, off, Option.none⟩, c, _, hrun, ⟨by simp [h.len], hroom, h.cap, fun e => by simp at e, fun a ha => ?_⟩, ⟨hgr.os, hgr.tape, hgr.output, hgr.size, fun k hk hne => hgr.block k hk (fun e => hne (by have := Option.some.inj e; subst this; rfl))⟩, .inl rfl⟩
      refine ⟨g, off, cs.setIfInBounds (off + n) (.int .u8 x), by simpa using ha.symm, hl, by simp [World.setCell, Array.getElem?_modify, hg], by simp; omega, fun j hj2 => ?_⟩
      by_cases hjn : j = n
      · subst hjn
        rw [Array.getElem?_setIfInBounds_self_of_lt (by omega), List.getD_eq_getElem?_getD, List.getElem?_append_right (by have := h.len; omega)]
        have := h.len
        simp [this]
      · rw [Array.getElem?_setIfInBounds_ne (by omega), hj j (by omega), List.getD_eq_getElem?_getD, List.getD_eq_getElem?_getD, List.getElem?_append_left (by have := h.len; omega)]
    · obtain ⟨v', w', hrun, h2, h3⟩ := run_append_arg_grows (P := Try.prog) w 60 ty 5 i0 _ 1 1 Try.underlying60 hi hz0 hz1 hz2 rfl (by omega) ⟨g, off, Option.none⟩ n c (q.map (Value.int .u8)) (by simp [h.len]) (fun j u hu => by
          rw [List.getElem?_map] at hu
          obtain ⟨y, hy, rfl⟩ := Option.map_eq_some_iff.1 hu
          have hjl := (List.getElem?_eq_some_iff.1 hy).1
          rw [add_addr]
          have h0 := hj j (by have := h.len; omega)
          rw [List.getD_eq_getElem?_getD, hy] at h0
          simpa [World.cell?, hg] using h0)
        ⟨g2, 0, Option.none⟩ 1 1 ([x].map (Value.int .u8)) rfl hcell (by omega) (by unfold maxLen; omega) (by omega)
      obtain ⟨A', c', rfl, h6, h7⟩ := grown h2
      exact ⟨A', c', w', hrun, h6, ⟨h3.os, h3.tape, h3.output, h3.size, fun k hk _ => h3.block k hk (by simp)⟩, .inr h7⟩
end
/-- A lane and the queue of what is in it. -/
structure LO (W : World) (lo : Nat) (w : World) (l c R : Nat) (A : Option Addr) (n m : Nat) (fs : List FrV) (q : List Int) : Prop where
  lp : Lp w l c R fs
  fr : Fall (fun b => (Value.slice A n m).ownBlock ≠ some b) w fs
  qw : Qw w lo A n m q
  map : fs.map FrV.l = q.map (fun b => [b])
  bl : Below lo W w
  ge : lo ≤ c ∧ lo ≤ w.heap.size
section
variable {W w w' : World} {lo l c R n m : Nat} {A : Option Addr} {fs : List FrV} {q : List Int} {f : FrV}
theorem LO.len (h : LO W lo w l c R A n m fs q) : fs.length = n := by
  have := congrArg List.length h.map
  rw [List.length_map, List.length_map, h.qw.len] at this
  exact this
theorem LO.below (h : LO W lo w l c R A n m fs q) (hb : Below w.heap.size w w') : LO W lo w' l c R A n m fs q :=
  ⟨h.lp.below hb, h.fr.below hb, h.qw.below hb, h.map, h.bl.trans (hb.mono h.ge.2), h.ge.1, Nat.le_trans h.ge.2 hb.size⟩
theorem LO.qc (h : LO W lo w l c R A n m fs q) : ∀ k, (Value.slice A n m).ownBlock = some k → ¬ k = c := by
  intro k hk e
  obtain ⟨_, _, cs, h2⟩ := h.qw.at_ k hk
  subst e
  exact h.lp.nocell _ _ _ h2
theorem LO.fc (h : LO W lo w l c R A n m fs q) {P : Nat → Prop} {gs : List FrV} (hg : Fall P w gs) (hc : Ch (fun k => k = c) w w') : Fall P w' gs := hg.other hc (fun b cs m e => by rw [e]; exact h.lp.nocell cs _ m)
theorem LO.bc (h : LO W lo w l c R A n m fs q) (hc : Ch (fun k => k = c) w w') : Below lo W w' ∧ lo ≤ c ∧ lo ≤ w'.heap.size := ⟨h.bl.trans (hc.below (fun x e => by rw [e]; exact h.ge.1) h.ge.2), h.ge.1, Nat.le_trans h.ge.2 hc.size⟩
theorem lo_none (h : LO W lo w l c R A n m [] q) : q = [] ∧ n = 0 ∧ Calls Try.prog 29 #[.pointer (some ⟨l, 0, none⟩)] w fun e w' => e = .returned (.tuple #[.slice none 0 0, .bool false]) ∧ w' = w := by
  have hm := h.map
  have : q = [] := by cases q with
    | nil => rfl
    | cons x q => simp at hm
  exact ⟨this, h.len.symm, ltake_none h.lp⟩
theorem lo_take (h : LO W lo w l c R A n m (f :: fs) q) : ∃ (x : Int) (q' : List Int) (g off : Nat), q = x :: q' ∧ f.l = [x] ∧ A = some ⟨g, off, none⟩ ∧ 1 ≤ n ∧ n ≤ m ∧ Calls Try.prog 29 #[.pointer (some ⟨l, 0, none⟩)] w fun e w' => e = .returned (.tuple #[.slice f.A f.n f.c, .bool true]) ∧ Fok Tt w' f ∧ Rd .u8 w' w'.heap.size A 1 m [x] ∧ (m = 1 → LO W lo w' l c R A 0 0 fs q') ∧ LO W lo w' l c R (some ⟨g, off + 1, none⟩) (n - 1) (m - 1) fs q' := by
  have hm := h.map
  cases q with
  | nil => simp at hm
  | cons x q' =>
    simp only [List.map_cons, List.cons.injEq] at hm
    have hx := hm.1
    obtain ⟨g, off, hA, h1, h2, -⟩ := h.qw.parts
    subst hA
    refine ⟨x, q', g, off, rfl, hx, rfl, h1, h2, ?_⟩
    refine (ltake_some h.lp).mono ?_
    rintro e w' ⟨rfl, hL, hC⟩
    have hq := h.qw.stay hC h.qc
    obtain ⟨g', off', e1, _, _, hr, hz, hb⟩ := hq.parts
    obtain ⟨e2, e3⟩ : g = g' ∧ off = off' := by simpa using e1
    subst e2 e3
    have hF := h.fc h.fr hC
    obtain ⟨b1, b2, b3⟩ := h.bc hC
    have hFs : Fall (fun b => (Value.slice (some ⟨g, off, none⟩) n m).ownBlock ≠ some b) w' fs := hF.sub (fun y hy => List.mem_cons_of_mem _ hy)
    exact ⟨rfl, (hF f List.mem_cons_self).imp (fun _ _ _ => trivial), hr, fun hm1 => by
      obtain ⟨z1, z2⟩ := hz hm1
      have hm2 := hm.2
      subst z2
      exact ⟨hL, hFs.imp (fun _ _ e => e), z1, hm2, b1, b2, b3⟩, ⟨hL, hFs.imp (fun _ _ e => e), hb, hm.2, b1, b2, b3⟩⟩
theorem lo_put (h : LO W lo w l c R A n m fs q) {g2 : Nat} {x : Int} (hr : Rd .u8 w w.heap.size (some ⟨g2, 0, none⟩) 1 1 [x]) (hx : 0 ≤ x ∧ x < 256) (h7 : n < R) : Calls Try.prog 27 #[.pointer (some ⟨l, 0, none⟩), .slice (some ⟨g2, 0, none⟩) 1 1] w fun e w' => e = .returned (.int .i64 0) ∧ ∃ g : FrV, g.l = [x] ∧ Lp w' l c R (fs ++ [g]) ∧ Fall (fun b => (Value.slice A n m).ownBlock ≠ some b) w' (fs ++ [g]) ∧ Qw w' lo A n m q ∧ Below lo W w' ∧ lo ≤ w'.heap.size := by
  have HE : putE 1 fs.length R = 0 := by unfold putE; rw [if_neg (by omega), if_neg (by have := h.len; omega)]
  refine (lput_any h.lp hr (Nat.le_refl _) (fun z hz => by rw [List.mem_singleton.1 hz]; exact hx)).mono ?_
  rintro e w' ⟨rfl, hC, h1, -⟩
  obtain ⟨g, hg, hgo, hL⟩ := h1 HE
  obtain ⟨b1, b2, b3⟩ := h.bc hC
  refine ⟨by rw [HE], g, hg, hL, (h.fc h.fr hC).append (Fall.one (hgo.imp (fun b _ hb e => ?_))), h.qw.stay hC h.qc, b1, b3⟩
  have := (h.qw.at_ b e).2.1
  omega
theorem lo_full (h : LO W lo w l c R A n m fs q) {g2 : Nat} {x : Int} (hr : Rd .u8 w w.heap.size (some ⟨g2, 0, none⟩) 1 1 [x]) (hx : 0 ≤ x ∧ x < 256) (h7 : R ≤ n) : Calls Try.prog 27 #[.pointer (some ⟨l, 0, none⟩), .slice (some ⟨g2, 0, none⟩) 1 1] w fun e w' => e = .returned (.int .i64 7) ∧ LO W lo w' l c R A n m fs q := by
  have HE : putE 1 fs.length R = 7 := by unfold putE; rw [if_neg (by omega), if_pos (by have := h.len; omega)]
  refine (lput_any h.lp hr (Nat.le_refl _) (fun z hz => by rw [List.mem_singleton.1 hz]; exact hx)).mono ?_
  rintro e w' ⟨rfl, hC, -, h1⟩
  obtain ⟨b1, b2, b3⟩ := h.bc hC
  exact ⟨by rw [HE], h1 (by rw [HE]; decide), h.fc h.fr hC, h.qw.stay hC h.qc, h.map, b1, b2, b3⟩
/-- The queue grows behind a frame that was put. -/
theorem lo_grow {g : FrV} {x : Int} {g2 B : Nat} (hlp : Lp w l c R (fs ++ [g])) (hf : Fall (fun b => (Value.slice A n m).ownBlock ≠ some b) w (fs ++ [g])) (hq : Qw w lo A n m q) (hm : fs.map FrV.l = q.map (fun b => [b])) (hg : g.l = [x]) (hb : Below lo W w) (hc : lo ≤ c) (hlo : lo ≤ w.heap.size) (hr : Rd .u8 w B (some ⟨g2, 0, none⟩) 1 1 [x]) :
    ∃ A' m' w', (Builtin.append_ #[60, 60] 60 #[.slice A n m, .slice (some ⟨g2, 0, none⟩) 1 1]).run Try.prog w = .ok (.slice A' (n + 1) m') w' ∧ LO W lo w' l c R A' (n + 1) m' (fs ++ [g]) (q ++ [x]) := by
  have hn : n ≤ 1000 := by
    have h1 := congrArg List.length hm
    rw [List.length_map, List.length_map, hq.len] at h1
    have := hlp.fit
    simp at this
    omega
  obtain ⟨A', m', w', hrun, h1, h2, h3⟩ := hq.push 60 hr hn hlo
  refine ⟨A', m', w', hrun, hlp.stay h2 (fun e => ?_) (fun e => ?_), fun f hf2 => ?_, h1, by rw [List.map_append, List.map_append, hm]; simp [hg], hb.trans (h2.below (fun x e => (hq.at_ x e).1) hlo), hc, Nat.le_trans hlo h2.size⟩
  · obtain ⟨_, _, cs, h4⟩ := hq.at_ l e
    rw [show w.heap[l]? = _ from hlp.own] at h4
    have h4 := Option.some.inj h4
    injection h4 with _ h4 _
    exact absurd h4 (by decide)
  · obtain ⟨_, _, cs, h4⟩ := hq.at_ c e
    exact hlp.nocell _ _ _ h4
  · have h5 := (hf f hf2).imp (Q := fun b => (Value.slice A n m).ownBlock ≠ some b ∧ b < w.heap.size) (fun b hb h => ⟨h, hb⟩)
    have h6 := h5.stay h2 (fun b cs m _ h _ e => h.1 e)
    refine h6.imp (fun b _ h e => ?_)
    rcases h3 with h3 | h3
    · rw [h3] at e; exact h.1 e
    · have := h3 b e; omega
end
set_option maxRecDepth 100000 in
set_option maxHeartbeats 16000000 in
theorem laneOrder_any {W : World} {A0 : Option Addr} {n0 c0 : Nat} {zs : List Int} (r0 : Int) (h : Rd .i64 W W.heap.size A0 n0 c0 zs) : Calls Try.prog 5 #[.int .i64 r0, .slice A0 n0 c0] W fun e w' => e = .returned (.bool true) ∧ Below W.heap.size W w' := by
  have hm := h.max
  have HR := Kp.mk h
  obtain ⟨lo, hlo⟩ : ∃ lo, lo = W.heap.size := ⟨_, rfl⟩
  rw [← hlo]
  have HLO := Kp.mk hlo
  clear hlo h
  obtain ⟨R, hR1, hR2⟩ : ∃ R : Nat, IntKind.i64.wrap (1 + Ser.bringP r0 64) = R ∧ 1 ≤ R ∧ R ≤ 64 := by
    have := Ser.bringP_bd r0 64 (by omega)
    exact ⟨(1 + Ser.bringP r0 64).toNat, by rw [i64w (by omega)]; omega, by omega, by omega⟩
  go_enter Try.func5, Try.ntmps5
  go_wp2_with fail
  refine (lworks_any W).mono ?_
  rintro e w1 ⟨rfl, hb1⟩
  go_wp2_with fail
  refine (Ser.bring_any r0 64 w1 (by omega) (by omega)).mono ?_
  rintro e w2 ⟨rfl, hw2⟩
  subst hw2
  go_wp2_with fail
  refine (lnew_yes w1 R (by omega)).mono ?_
  rintro e w3 ⟨l, c, rfl, hL, -, hc, hb3⟩
  have hLO : LO W lo w3 l c R none 0 0 [] [] := ⟨by simpa using hL, Fall.none _ _, Qw.none _ _, rfl, by rw [HLO.out]; exact hb1.trans (hb3.mono hb1.size), by have := HLO.out; have := hb1.size; omega, by have := HLO.out; have := hb1.size; have := hb3.size; omega⟩
  clear hL hc hb1 hb3 hR1
  go_wp2_with fail
  go_loopw [7, 8] (fun s7 s8 wr => ∃ (i : Nat) (A : Option Addr) (n m : Nat) (fs : List FrV) (q : List Int), s7 = .slice A n m ∧ s8 = .int .i64 i ∧ i ≤ n0 ∧ i ≤ 200 ∧ LO W lo wr l c R A n m fs q) (fun _ s8 _ => 200 - (intOf s8).toNat)
  case atStart => exact ⟨0, none, 0, 0, [], [], rfl, rfl, by omega, by omega, hLO⟩
  case round =>
    clear hLO
    obtain ⟨i, A, n, m, fs, q, rfl, rfl, hi1, hi2, hS⟩ := hrel
    have hnl := Kp.mk hS.len
    by_cases hgo : (i : Int) < n0 ∧ (i : Int) < 200
    · obtain ⟨j1, j2⟩ := hgo
      obtain ⟨b, off, rfl, hbl, hcc⟩ := (HR.out.below (by have := hS.bl; rw [HLO.out] at this; exact this)).at_ (by omega)
      have d1 := hcc i (by omega)
      generalize zs.getD i 0 = z at *
      clear hcc
      by_cases hz : z < 0
      · skip
        cases fs with
        | nil =>
          obtain ⟨rfl, rfl, ht⟩ := lo_none hS
          have hS := Kp.mk hS
          clear hnl
          go_wp2_with fail
          refine ht.mono ?_
          rintro e w' ⟨rfl, hw'⟩
          subst hw'
          clear ht d1
          go_wp2_with fail
          go_roundw
          case rel => exact ⟨i + 1, A, 0, m, [], [], rfl, by go_num, by omega, by omega, hS.out⟩
          case measure => simp [intOf]; omega
        | cons f fs =>
          obtain ⟨x, q', g, off2, rfl, hfl, rfl, hn1, hnm, ht⟩ := lo_take hS
          have hfl := Kp.mk hfl
          clear hS hnl
          have hn2 : (0 : Int) < n := by omega
          have hn3 : 0 < n := by omega
          have hm1 : (1 : Int) ≤ m := by omega
          go_wp2_with fail
          refine ht.mono ?_
          rintro e w4 ⟨rfl, hf, hrd, hone, hS⟩
          have heq := eqBytes_any hf.rd hrd hf.bytes (by rw [← hfl.out]; exact hf.bytes)
          rw [decide_eq_true hfl.out] at heq
          have hone := Kp.mk hone
          have hS := Kp.mk hS
          clear ht d1 hf hrd
          go_wp2_with fail
          refine heq.mono ?_
          rintro e w5 ⟨rfl, hw5⟩
          subst hw5
          clear heq
          by_cases hm2 : m = 1
          · obtain rfl := hm2
            obtain rfl : n = 1 := by omega
            go_wp2_with fail
            go_roundw
            case rel => exact ⟨i + 1, _, 0, 0, fs, q', rfl, by go_num, by omega, by omega, hone.out (by first | rfl | trivial)⟩
            case measure => simp [intOf]; omega
          · have hm3 : (1 : Int) < m := by omega
            go_wp2_with fail
            go_roundw
            case rel => exact ⟨i + 1, _, n - 1, m - 1, fs, q', rfl, by go_num, by omega, by omega, hS.out⟩
            case measure => simp [intOf]; omega
      · skip
        have hz0 : ¬ z < 0 := hz
        have hx := Kp.mk (show 0 ≤ z % 256 ∧ z % 256 < 256 by omega)
        have hb4 := below_alloc wr (.cells #[.int .u8 (z % 256)] 5)
        have hlit := (own_lit wr [z % 256] wr.heap.size (Nat.le_refl _) (by simp [maxLen])).rd
        have hS1 := hS.below hb4
        clear hS hb4
        by_cases h7 : n < R
        · have hput := lo_put hS1 hlit hx.out h7
          have hm9 := Kp.mk hS1.map
          have hge := Kp.mk hS1.ge.1
          clear hS1 hlit hnl
          go_wp2_with fail
          refine hput.mono ?_
          rintro e w4 ⟨rfl, gg, hgl, hlp, hfr, hqw, hbl4, hlo4⟩
          clear hput d1
          have hb5 := below_alloc w4 (.cells #[.int .u8 (z % 256)] 5)
          have hlit := (own_lit w4 [z % 256] w4.heap.size (Nat.le_refl _) (by simp [maxLen])).rd
          obtain ⟨A', m', w5, hrun, hS5⟩ := lo_grow (hlp.below hb5) (hfr.below hb5) (hqw.below hb5) hm9.out hgl (hbl4.trans (hb5.mono hlo4)) hge.out (Nat.le_trans hlo4 hb5.size) hlit
          have hS5 := Kp.mk hS5
          have h71 : (n : Int) < R := by omega
          clear hgl hlp hfr hqw hbl4 hlo4 hb5 hlit
          go_wp2_with (at_builtin; refine Lib.wpList_append_run _ rfl _ _ _ _ rfl _ _ rfl rfl _ _ hrun ?_)
          go_roundw
          case rel => exact ⟨i + 1, A', n + 1, m', fs ++ [gg], q ++ [z % 256], rfl, by go_num, by omega, by omega, hS5.out⟩
          case measure => simp [intOf]; omega
        · have hput := lo_full hS1 hlit hx.out (by omega)
          have h71 : ¬ (n : Int) < R := by omega
          clear hS1 hlit hnl
          go_wp2_with fail
          refine hput.mono ?_
          rintro e w4 ⟨rfl, hS4⟩
          have hS4 := Kp.mk hS4
          clear hput d1
          go_wp2_with fail
          go_roundw
          case rel => exact ⟨i + 1, A, n, m, fs, q, rfl, by go_num, by omega, by omega, hS4.out⟩
          case measure => simp [intOf]; omega
    · have hend : ¬ (i : Int) < n0 ∨ ¬ (i : Int) < 200 := by omega
      have hl := llen_any hS.lp
      have hl2 : fs.length = n := hS.len
      have HB := Kp.mk hS.bl
      rw [hl2] at hl
      clear hS hnl hl2
      rcases hend with hend | hend
      · go_wp2_with fail
        refine hl.mono ?_
        rintro e w' ⟨rfl, hw'⟩
        subst hw'
        go_wp2_with fail
        go_ret
        exact ⟨rfl, HB.out⟩
      · by_cases hi3 : (i : Int) < n0
        · go_wp2_with fail
          refine hl.mono ?_
          rintro e w' ⟨rfl, hw'⟩
          subst hw'
          go_wp2_with fail
          go_ret
          exact ⟨rfl, HB.out⟩
        · go_wp2_with fail
          refine hl.mono ?_
          rintro e w' ⟨rfl, hw'⟩
          subst hw'
          go_wp2_with fail
          go_ret
          exact ⟨rfl, HB.out⟩
theorem laneOrder_walk (r0 : Int) (A0 : Option Addr) (n0 c0 : Nat) (zs : List Int) (W : World) (wf : (Lit.int .i64 r0).wf = true) (hr : Frame.IsRow .i64 W A0 n0 c0 zs) (re : c0 * 8 ≤ 140737488351232) : Calls Try.prog 5 #[.int .i64 r0, .slice A0 n0 c0] W fun e w' => e = .returned (.bool true) ∧ Below W.heap.size W w' := laneOrder_any r0 (Rd.of_row hr)
end Go.Proofs.Ytcolklkjaifplaa.Oct
