/- Tables and other rows beside each other; what Add and Del make of a table as a set of rules. Plain facts for TableMixed: rules of unlike places, put in, in whatever order. -/
import Derived.Test.YtcolklkjaifplaaTabT
import Derived.Test.YtcolklkjaifplaaTabS
import Derived.Test.YtcolklkjaifplaaBits
namespace Go.Proofs.Ytcolklkjaifplaa.Oct
open Go.RowKit
set_option linter.unusedVariables false
set_option linter.unusedSimpArgs false

theorem clr_and9 (i b : Int) : clr (bits .and .u8 i b) b = 0 := by
  unfold clr
  rw [V_0 (U_nt _ _)]
  simp only [V_an, V_nt, bv_iff]
  intro k hk
  simp only [BitVec.getLsbD_and, BitVec.getLsbD_zero, not_bit _ _ hk]
  cases (V i).getLsbD k <;> cases (V b).getLsbD k <;> rfl
theorem okR_made (r : RuleV) : okR (madeR r) := by
  unfold madeR
  split
  · have h1 := Ser.bringP_bd r.to 7 (by omega)
    have h2 := Ser.bringP_bd r.po 5 (by omega)
    refine .inr ⟨rfl, ⟨h1.1, by show Ser.bringP r.to 7 ≤ 6; omega⟩, ⟨h2.1, by show Ser.bringP r.po 5 ≤ 4; omega⟩, rfl, ?_, rfl⟩
    exact ⟨rfl, rfl, rfl, rfl, rfl, rfl, rfl, rfl⟩
  · have h1 := Ser.bringP_bd r.pr 4 (by omega)
    have h2 := Ser.bringP_bd r.po 5 (by omega)
    have h3 := Ser.bringP_bd r.x.v 3 (by omega)
    have h4 := Ser.bringP_bd r.x.m 6 (by omega)
    refine .inl ⟨rfl, ⟨h1.1, by show Ser.bringP r.pr 4 ≤ 65535; omega⟩, rfl, rfl, ⟨⟨h3.1, by show Ser.bringP r.x.v 3 ≤ 200; omega⟩, ⟨by show -1 ≤ Ser.bringP r.x.m 6 - 1; omega, by show Ser.bringP r.x.m 6 - 1 ≤ 4; omega⟩, clr_and9 _ _, clr_and9 _ _, clr_and9 _ _⟩, by simp [datO], fun o ho => ?_⟩
    have ho' : o = ⟨Ser.bringP r.po 5, -1, -1, -1⟩ := by simpa [datO] using ho
    subst ho'
    exact ⟨⟨h2.1, by show Ser.bringP r.po 5 ≤ 4; omega⟩, ⟨by show (-1 : Int) ≤ -1; omega, by show (-1 : Int) ≤ 255; omega⟩, ⟨by show (-1 : Int) ≤ -1; omega, by show (-1 : Int) ≤ 255; omega⟩, ⟨by show (-1 : Int) ≤ -1; omega, by show (-1 : Int) ≤ 255; omega⟩⟩
/-- What is left of a table without r's place. -/
def offP (r : RuleV) (l : List RuleV) : List RuleV := l.filter (fun x => !decide (cmpR x r = 0))
theorem tdel_off {r : RuleV} {l : List RuleV} (h : Srt l) : tdel r l = offP r l := by
  have e : l = l.take (loP r l) ++ ((l.drop (loP r l)).take (hiP r l - loP r l) ++ l.drop (hiP r l)) := by
    have := lo_hi (r := r) h
    rw [show l.drop (hiP r l) = (l.drop (loP r l)).drop (hiP r l - loP r l) by rw [List.drop_drop]; congr 1; omega, List.take_append_drop, List.take_append_drop]
  have h1 : (l.take (loP r l)).filter (fun x => !decide (cmpR x r = 0)) = l.take (loP r l) := List.filter_eq_self.2 fun x hx => by
    have := mem_take_lo h hx
    simp; omega
  have h2 : (l.drop (hiP r l)).filter (fun x => !decide (cmpR x r = 0)) = l.drop (hiP r l) := List.filter_eq_self.2 fun x hx => by
    have := mem_drop_hi h hx
    have := cmpR_neg r x
    simp; omega
  have h3 : ((l.drop (loP r l)).take (hiP r l - loP r l)).filter (fun x => !decide (cmpR x r = 0)) = [] := List.filter_eq_nil_iff.2 fun x hx => by
    obtain ⟨i, hi⟩ := List.getElem?_of_mem hx
    rw [List.getElem?_take] at hi
    split at hi
    · rename_i hlt
      rw [List.getElem?_drop] at hi
      have a := (hi_iff (r := r) h _ _ hi).2 (by omega)
      have b : ¬ cmpR x r < 0 := fun hh => by have := (lo_iff (r := r) h _ _ hi).1 hh; omega
      have : cmpR x r = 0 := by omega
      simp [this]
    · simp at hi
  unfold tdel offP
  conv => rhs; rw [e]
  rw [List.filter_append, List.filter_append, h1, h2, h3, List.nil_append]
theorem tadd_perm {r : RuleV} {l : List RuleV} (h : Srt l) : (tadd r l).Perm (r :: offP r l) := by
  rw [← tdel_off h]
  unfold tadd tdel
  rw [List.append_assoc]
  exact List.perm_middle
theorem lo_eq_hi {r : RuleV} {l : List RuleV} (h : Srt l) : loP r l = hiP r l ↔ ∀ x ∈ l, cmpR x r ≠ 0 := by
  constructor
  · intro e x hx h0
    obtain ⟨i, hi⟩ := List.getElem?_of_mem hx
    have := (at_lo h hi h0).2
    omega
  · intro hx
    have h1 := lo_hi (r := r) h
    rcases Nat.lt_or_ge (loP r l) (hiP r l) with hlt | hge
    · have hl := hi_le (r := r) (l := l)
      have hi := List.getElem?_eq_getElem (l := l) (i := loP r l) (by omega)
      exact absurd (lo_at h hlt hi) (hx _ (List.mem_of_getElem? hi))
    · omega
theorem add_new {room : Int} {r : RuleV} {l : List RuleV} (hr : okR r) (hlen : (l.length : Int) < room) : addE room r l = 0 := by
  unfold addE
  rw [if_pos ((checkR_zero r).2 hr), if_neg (by omega)]
theorem addL_new {room : Int} {r : RuleV} {l : List RuleV} (hr : okR r) (hlen : (l.length : Int) < room) : addL room r l = tadd r l := if_pos (add_new hr hlen)
theorem del_is {r : RuleV} {l : List RuleV} (h : Srt l) (hr : okR r) : (delE r l = 0 ↔ ∃ x ∈ l, cmpR x r = 0) ∧ delL r l = offP r l := by
  have hk : checkR r = 0 := (checkR_zero r).2 hr
  have hd : delE r l = if loP r l = hiP r l then 91 else 0 := by unfold delE; rw [if_pos hk]
  by_cases he : loP r l = hiP r l
  · have hn := (lo_eq_hi h).1 he
    constructor
    · rw [hd, if_pos he]
      constructor
      · intro e; simp at e
      · rintro ⟨x, hx, h0⟩; exact absurd h0 (hn x hx)
    · unfold delL
      rw [hd, if_pos he, if_neg (by decide)]
      exact (List.filter_eq_self.2 fun x hx => by simp [hn x hx]).symm
  · constructor
    · rw [hd, if_neg he]
      constructor
      · intro _
        by_cases hx : ∃ x ∈ l, cmpR x r = 0
        · exact hx
        · exact absurd ((lo_eq_hi h).2 fun x h1 h2 => hx ⟨x, h1, h2⟩) he
      · intro _; rfl
    · unfold delL
      rw [hd, if_neg he, if_pos rfl, tdel_off h]
/-- Two rows in order that hold the same rules are one. -/
theorem srt_same {l k : List RuleV} (hl : Srt l) (hk : Srt k) (h : l.Perm k) : l = k :=
  List.Perm.eq_of_pairwise (le := fun a b => cmpR a b < 0) (fun a b _ _ h1 h2 => by have := cmpR_neg a b; omega) hl hk h

/-- A table at t whose row is v: the rules l. -/
def TV (w : World) (t : Nat) (v : Value) (room : Int) (l : List RuleV) : Prop :=
  ∃ its, Tb w t v room its ∧ rls its = l ∧ Srt l ∧ (∀ x ∈ l, okR x) ∧ (l.length : Int) ≤ room ∧ room ≤ 64
/-- Two rows lie in unlike blocks, or one of them in none. -/
def Apt (u v : Value) : Prop := ∀ k, u.ownBlock = some k → v.ownBlock ≠ some k
theorem Apt.symm {u v : Value} (h : Apt u v) : Apt v u := fun k hk e => h k e hk
theorem Apt.nil (v : Value) : Apt (.slice none 0 0) v := fun k hk => by simp [Value.ownBlock] at hk
/-- A row's slice v' comes of v: the old block, or a new one. -/
def Nw (w : World) (v v' : Value) : Prop := ∀ k, v'.ownBlock = some k → v.ownBlock = some k ∨ w.heap.size ≤ k
theorem Apt.step {w : World} {u v v' : Value} {us : List It} (h : Apt u v) (hu : RowS w u us) (hn : Nw w v v') : Apt u v' := fun k hk e => by
  rcases hn k e with e2 | h2
  · exact h k hk e2
  · have := (hu.lt k hk).1; omega
section
variable {w w' : World} {t t' : Nat} {u v v' : Value} {room room' : Int} {l l' : List RuleV} {us : List It}
theorem TV.row (h : TV w t v room l) : ∃ its, RowS w v its := by
  obtain ⟨its, hT, _⟩ := h
  exact ⟨its, hT.row⟩
theorem TV.blk (h : TV w t v room l) : Vb 42 w t [.bool true, .int .i64 room, v] := by
  obtain ⟨its, hT, _⟩ := h
  exact hT.blk
theorem TV.facts (h : TV w t v room l) : Srt l ∧ (∀ x ∈ l, okR x) ∧ (l.length : Int) ≤ room ∧ room ≤ 64 := by
  obtain ⟨its, hT, h1, h2, h3, h4, h5⟩ := h
  exact ⟨h2, h3, h4, h5⟩
theorem TV.aptS (h : TV w t v room l) (ha : Apt v u) (hn : Nw w u v') : Apt v v' := by
  obtain ⟨its, hr⟩ := h.row
  exact ha.step hr hn
theorem TV.below (h : TV w t v room l) (hb : Below w.heap.size w w') : TV w' t v room l := by
  obtain ⟨its, hT, h1⟩ := h
  exact ⟨its, hT.below hb, h1⟩
/-- Another table is turned. -/
theorem TV.other (h : TV w t v room l) (h' : TV w t' v' room' l') (hF : Fr2 t' v'.ownBlock w w') (hne : t ≠ t') (ha : Apt v v') : TV w' t v room l := by
  obtain ⟨its, hT, h1⟩ := h
  obtain ⟨its', hT', _⟩ := h'
  have hty : ∀ (b : Nat) (cur : Array Value), w.heap[b]? = some (Obj.cells cur 93 (0, 0)) → w'.heap[b]? = w.heap[b]? := fun b cur hc => by
    have hv : Vb 93 w b cur.toList := by simpa [Vb] using hc
    exact hF.block b hv.lt (vb_ne hv hT'.blk (by decide)) (fun e => by
      obtain ⟨_, ys, hrr⟩ := hT'.row.lt b e.symm
      exact vb_ne hv hrr (by decide) rfl)
  refine ⟨its, ⟨?_, ?_, fun x hx => (hT.outs x hx).keep hF.size hty⟩, h1⟩
  · exact (hF.block t hT.blk.lt hne (fun e => by
      obtain ⟨_, ys, hrr⟩ := hT'.row.lt t e.symm
      exact vb_ne hT.blk hrr (by decide) rfl)).trans hT.blk
  · exact hT.row.keep fun k hk => hF.block k (hT.row.lt k hk).1 (fun e => by
      obtain ⟨_, ys, hrr⟩ := hT.row.lt k hk
      subst e
      exact vb_ne hT'.blk hrr (by decide) rfl) (fun e => ha k hk e.symm)
/-- A row is turned. -/
theorem TV.rowed (h : TV w t v room l) (hr : RowS w u us) (hg : w.grownBy w' u.ownBlock) (ha : Apt v u) : TV w' t v room l := by
  obtain ⟨its, hT, h1⟩ := h
  refine ⟨its, ⟨?_, ?_, fun x hx => ?_⟩, h1⟩
  · exact (hg.block t hT.blk.lt (fun e => by
      obtain ⟨_, ys, hrr⟩ := hr.lt t e.symm
      exact vb_ne hT.blk hrr (by decide) rfl)).trans hT.blk
  · exact hT.row.keep fun k hk => hg.block k (hT.row.lt k hk).1 (fun e => ha k hk e.symm)
  · exact (hT.outs x hx).keep hg.size fun b cur hc => hg.block b (Array.getElem?_eq_some_iff.1 hc).1 (fun e => by
      have hv : Vb 93 w b cur.toList := by simpa [Vb] using hc
      obtain ⟨_, ys, hrr⟩ := hr.lt b e.symm
      exact vb_ne hv hrr (by decide) rfl)
/-- A row abides where a table is turned. -/
theorem RowS.tabled (hr : RowS w u us) (h' : TV w t' v' room' l') (hF : Fr2 t' v'.ownBlock w w') (ha : Apt u v') : RowS w' u us := by
  obtain ⟨its', hT', _⟩ := h'
  exact hr.keep fun k hk => hF.block k (hr.lt k hk).1 (fun e => by
    obtain ⟨_, ys, hrr⟩ := hr.lt k hk
    subst e
    exact vb_ne hT'.blk hrr (by decide) rfl) (fun e => ha k hk e.symm)
theorem Ob.tabled {x : It} (h : Ob w x) (h' : TV w t' v' room' l') (hF : Fr2 t' v'.ownBlock w w') : Ob w' x := by
  obtain ⟨its', hT', _⟩ := h'
  exact h.keep hF.size fun b cur hc => by
    have hv : Vb 93 w b cur.toList := by simpa [Vb] using hc
    exact hF.block b hv.lt (vb_ne hv hT'.blk (by decide)) (fun e => by
      obtain ⟨_, ys, hrr⟩ := hT'.row.lt b e.symm
      exact vb_ne hv hrr (by decide) rfl)
theorem Ob.rowed {x : It} (h : Ob w x) (hr : RowS w u us) (hg : w.grownBy w' u.ownBlock) : Ob w' x :=
  h.keep hg.size fun b cur hc => hg.block b (Array.getElem?_eq_some_iff.1 hc).1 (fun e => by
    have hv : Vb 93 w b cur.toList := by simpa [Vb] using hc
    obtain ⟨_, ys, hrr⟩ := hr.lt b e.symm
    exact vb_ne hv hrr (by decide) rfl)
theorem Fr2.low {n : Nat} (hF : Fr2 t v.ownBlock w w') (ht : n ≤ t) (hv : ∀ k, v.ownBlock = some k → n ≤ k) (hn : n ≤ w.heap.size) : Below n w w' :=
  ⟨hF.os, hF.tape, hF.output, hF.size, fun k hk => hF.block k (by omega) (by omega) (fun e => by have := hv k e.symm; omega)⟩
theorem tv_new (w : World) (room : Int) (h1 : 0 ≤ room) (h2 : room ≤ 64) : Calls Try.prog 18 #[.int .i64 room] w fun e w' => e = .returned (.tuple #[.pointer (some ⟨w.heap.size, 0, none⟩), .int .i64 0]) ∧ TV w' w.heap.size (.slice none 0 0) room [] ∧ Below w.heap.size w w' ∧ w'.heap.size = w.heap.size + 1 := by
  refine (new_yes w room h1 h2).mono ?_
  rintro e w' ⟨rfl, hT, hb, hz⟩
  exact ⟨rfl, ⟨[], hT, rfl, List.Pairwise.nil, fun x hx => by simp at hx, by simpa using h1, h2⟩, hb, hz⟩
theorem add_facts {r : RuleV} (h2 : Srt l) (h3 : ∀ x ∈ l, okR x) (h6 : (l.length : Int) ≤ room) : Srt (addL room r l) ∧ (∀ y ∈ addL room r l, okR y) ∧ ((addL room r l).length : Int) ≤ room := by
  refine ⟨?_, ?_, ?_⟩
  · unfold addL
    split
    · exact put_srt h2
    · exact h2
  · intro y hy
    unfold addL at hy
    split at hy
    · rename_i he
      rcases mem_put hy with rfl | hy
      · unfold addE at he
        split at he
        · rename_i hc; exact (checkR_zero _).1 hc
        · rename_i hc; exact absurd he hc
      · exact h3 y hy
    · exact h3 y hy
  · unfold addL
    split
    · rename_i he
      have hp := put_len (r := r) h2
      have l1 := lo_hi (r := r) h2
      unfold addE at he
      split at he
      · split at he
        · simp at he
        · rename_i hc
          by_cases hlh : loP r l = hiP r l
          · have : ¬ ((l.length : Int) = room) := fun e => hc ⟨hlh, e⟩
            omega
          · omega
      · rename_i hc; exact absurd he hc
    · exact h6
theorem tv_add (h : TV w t v room l) {x : It} (hx : Ob w x) (hxl : x.r.os.length ≤ 1000000000) : Calls Try.prog 10 #[.pointer (some ⟨t, 0, none⟩), .agg (ics x).toArray] w fun e w' => e = .returned (.int .i64 (addE room x.r l)) ∧ (∃ v', TV w' t v' room (addL room x.r l) ∧ Nw w v v') ∧ Fr2 t v.ownBlock w w' := by
  obtain ⟨its, hT, rfl, h2, h3, h4, h5⟩ := h
  obtain ⟨e1, e2, e3⟩ := add_facts (r := x.r) h2 h3 h4
  rw [rls_len] at h4
  refine (add_tab hT h2 (by omega) x hx.ro (Nat.le_refl _) hxl).mono ?_
  rintro e w' ⟨v', its', rfl, hr, hT', hF, hN, _⟩
  exact ⟨rfl, ⟨v', ⟨its', hT', hr, e1, e2, e3, h5⟩, hN.all⟩, hF⟩
theorem tv_len (h : TV w t v room l) : Calls Try.prog 15 #[.pointer (some ⟨t, 0, none⟩)] w fun e w' => e = .returned (.int .i64 l.length) ∧ w' = w := by
  obtain ⟨its, hT, rfl, _⟩ := h
  rw [rls_len]
  exact len_tab hT
theorem tv_room (h : TV w t v room l) : Calls Try.prog 16 #[.pointer (some ⟨t, 0, none⟩)] w fun e w' => e = .returned (.int .i64 room) ∧ w' = w := by
  obtain ⟨its, hT, rfl, _⟩ := h
  exact room_tab hT
theorem tv_rules (h : TV w t v room l) : Calls Try.prog 17 #[.pointer (some ⟨t, 0, none⟩)] w fun e w' => ∃ v' its', e = .returned v' ∧ RowS w' v' its' ∧ rls its' = l ∧ (∀ y ∈ its', Ob w' y) ∧ Below w.heap.size w w' := by
  obtain ⟨its, hT, rfl, h2, h3, h4, h5⟩ := h
  rw [rls_len] at h4
  refine (rules_tab hT h3 (by omega)).mono ?_
  rintro e w' ⟨v', its', rfl, h1, h2, h3, _, h4⟩
  exact ⟨v', its', rfl, h1, h2, fun y hy => (h3 y hy).1, h4⟩
end
end Go.Proofs.Ytcolklkjaifplaa.Oct

namespace Go.Proofs.Ytcolklkjaifplaa.Oct
open Go.RowKit
set_option linter.unusedVariables false
set_option linter.unusedSimpArgs false

/-- No two are in one place. -/
def Dst (l : List RuleV) : Prop := l.Pairwise (fun a b => cmpR a b ≠ 0)
theorem Dst.at_ {l : List RuleV} (h : Dst l) {i : Nat} {x : RuleV} (hx : l[i]? = some x) : ∀ y ∈ l.take i, cmpR y x ≠ 0 := by
  intro y hy
  obtain ⟨j, hj⟩ := List.getElem?_of_mem hy
  rw [List.getElem?_take] at hj
  split at hj
  · rename_i hlt
    obtain ⟨h1, rfl⟩ := List.getElem?_eq_some_iff.1 hx
    obtain ⟨h2, rfl⟩ := List.getElem?_eq_some_iff.1 hj
    exact List.pairwise_iff_getElem.1 h j i h2 h1 hlt
  · simp at hj
theorem Dst.perm {l k : List RuleV} (h : Dst l) (hp : l.Perm k) : Dst k :=
  (List.Perm.pairwise_iff (fun {a b} hab e => hab (by have := cmpR_neg a b; omega)) hp).1 h
theorem perm_add {x : RuleV} {l P : List RuleV} (h : Srt l) (hp : l.Perm P) (hd : ∀ y ∈ P, cmpR y x ≠ 0) : (tadd x l).Perm (P ++ [x]) := by
  have e : offP x l = l := List.filter_eq_self.2 fun y hy => by
    have := hd y (hp.mem_iff.1 hy)
    simp [this]
  refine (tadd_perm h).trans ?_
  rw [e]
  refine (List.Perm.cons x hp).trans ?_
  have := (List.perm_append_comm (l₁ := P) (l₂ := [x])).symm
  simpa using this
theorem take_snocR {l : List RuleV} {i : Nat} {x : RuleV} (hx : l[i]? = some x) : l.take (i + 1) = l.take i ++ [x] := by
  rw [List.take_add_one, hx]
  rfl
/-- One more, into a table that has room. -/
theorem mix_add {room : Int} {l O : List RuleV} {i : Nat} {x : RuleV} (hS : Srt l) (hp : l.Perm (O.take i)) (hd : Dst O) (hx : O[i]? = some x) (hok : okR x) (hr : (i : Int) < room) : addE room x l = 0 ∧ (addL room x l).Perm (O.take (i + 1)) := by
  have hl : l.length ≤ i := by have := hp.length_eq; rw [List.length_take] at this; omega
  refine ⟨add_new hok (by omega), ?_⟩
  rw [addL_new hok (by omega), take_snocR hx]
  exact perm_add hS hp (hd.at_ hx)
/-- One more, into a table that is full. -/
theorem mix_full {room : Int} {l O : List RuleV} {i m : Nat} {x : RuleV} (hS : Srt l) (hp : l.Perm (O.take m)) (hd : Dst O) (hx : O[i]? = some x) (hok : okR x) (hm : m ≤ i) (hr : (m : Int) = room) : addE room x l = 90 ∧ addL room x l = l := by
  have hi : i < O.length := (List.getElem?_eq_some_iff.1 hx).1
  have hl : l.length = m := by have := hp.length_eq; rw [List.length_take] at this; omega
  have hne : ∀ y ∈ l, cmpR y x ≠ 0 := fun y hy => by
    have h1 := hp.mem_iff.1 hy
    refine hd.at_ hx y ?_
    have e : O.take m = (O.take i).take m := by rw [List.take_take, Nat.min_eq_left hm]
    rw [e] at h1
    exact List.mem_of_mem_take h1
  have he : addE room x l = 90 := by
    unfold addE
    rw [if_pos ((checkR_zero x).2 hok), if_pos ⟨(lo_eq_hi hS).2 hne, by rw [hl]; exact hr⟩]
  refine ⟨he, ?_⟩
  unfold addL
  rw [he, if_neg (by decide)]
/-- The rules turned round by s. -/
def rotL (l : List RuleV) (s : Nat) : List RuleV := l.drop s ++ l.take s
theorem rotL_perm (l : List RuleV) (s : Nat) : (rotL l s).Perm l := by
  unfold rotL
  refine List.perm_append_comm.trans ?_
  rw [List.take_append_drop]
theorem rotL_len (l : List RuleV) (s : Nat) : (rotL l s).length = l.length := (rotL_perm l s).length_eq
theorem rotL_at {l : List RuleV} {s i : Nat} (hs : s < l.length) (hi : i < l.length) : (rotL l s)[i]? = l[(i + s) % l.length]? := by
  unfold rotL
  by_cases h : i < l.length - s
  · rw [List.getElem?_append_left (by rw [List.length_drop]; exact h), List.getElem?_drop, Nat.mod_eq_of_lt (by omega), Nat.add_comm]
  · rw [List.getElem?_append_right (by rw [List.length_drop]; omega), List.length_drop, List.getElem?_take, if_pos (by omega)]
    congr 1
    rw [show i + s = (i - (l.length - s)) + l.length by omega, Nat.add_mod_right, Nat.mod_eq_of_lt (by omega)]
/-- Whether none of the first k is in r's place. -/
def noneP (r : RuleV) (l : List RuleV) (k : Nat) : Bool := (l.take k).all (fun x => decide (cmpR x r ≠ 0))
theorem noneP_step {r x : RuleV} {l : List RuleV} {k : Nat} (h : l[k]? = some x) : noneP r l (k + 1) = (noneP r l k && (cmpR x r != 0)) := by
  unfold noneP
  rw [take_snocR h, List.all_append]
  simp [bne]
  congr 1
theorem noneP_full {r : RuleV} {l : List RuleV} (h : Dst l) (hn : noneP r l l.length = true) : Dst (l ++ [r]) := by
  unfold noneP at hn
  rw [List.take_length, List.all_eq_true] at hn
  unfold Dst
  rw [List.pairwise_append]
  refine ⟨h, by simp, fun a ha b hb => ?_⟩
  have hb := List.mem_singleton.1 hb
  subst hb
  simpa using hn a ha
end Go.Proofs.Ytcolklkjaifplaa.Oct
