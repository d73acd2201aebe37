/- Contracts of layer 9: a table's methods that only read, and those that take out. Contracts of layer 9: Control, Data. Contracts of layer 9: Data. -/
import Derived.Test.YtcolklkjaifplaaTabD
import Derived.Test.YtcolklkjaifplaaTabG
import Derived.Test.YtcolklkjaifplaaTabI
namespace Go.Proofs.Ytcolklkjaifplaa.Oct
open Go.RowKit
set_option linter.unusedVariables false
set_option linter.unusedSimpArgs false

/-- All blocks but t and r stay. -/
structure Fr2 (t : Nat) (r : Option Nat) (w w' : World) : Prop where
  os : w'.os = w.os
  tape : w'.tape = w.tape
  output : w'.output = w.output
  size : w.heap.size ≤ w'.heap.size
  block : ∀ k, k < w.heap.size → k ≠ t → some k ≠ r → w'.heap[k]? = w.heap[k]?
theorem Fr2.of_grown {t : Nat} {r : Option Nat} {w w' : World} (h : w.grownBy w' r) : Fr2 t r w w' := ⟨h.os, h.tape, h.output, h.size, fun k h1 _ h2 => h.block k h1 h2⟩
theorem Fr2.of_grown' {t : Nat} {r : Option Nat} {w w' : World} (h : w.grownBy w' (some t)) : Fr2 t r w w' := ⟨h.os, h.tape, h.output, h.size, fun k h1 h2 _ => h.block k h1 (by simpa using h2)⟩
theorem Fr2.of_below {t : Nat} {r : Option Nat} {w w' : World} (h : Below w.heap.size w w') : Fr2 t r w w' := ⟨h.os, h.tape, h.output, h.size, fun k h1 _ _ => h.block k h1⟩
theorem Fr2.trans {t : Nat} {r r' : Option Nat} {w w1 w2 : World} (h : Fr2 t r w w1) (h2 : Fr2 t r' w1 w2) (hr : r' = r ∨ ∀ k, r' = some k → w.heap.size ≤ k) : Fr2 t r w w2 :=
  ⟨h2.os.trans h.os, h2.tape.trans h.tape, h2.output.trans h.output, Nat.le_trans h.size h2.size, fun k h1 h3 h4 => (h2.block k (Nat.lt_of_lt_of_le h1 h.size) h3 (fun e => by
    rcases hr with rfl | hr
    · exact h4 e
    · have := hr k e.symm; omega)).trans (h.block k h1 h3 h4)⟩
section
variable {w : World} {t : Nat} {v : Value} {room : Int} {its : List It}
theorem Tb.ne (h : Tb w t v room its) : v.ownBlock ≠ some t := by
  intro e
  obtain ⟨_, ys, hr⟩ := h.row.lt t e
  exact vb_ne h.blk hr (by decide) rfl
/-- The row is written to: the table's block and the outputs stay. -/
theorem Tb.outs_row {w' : World} (h : Tb w t v room its) (hg : w.grownBy w' v.ownBlock) : ∀ x ∈ its, Ob w' x := by
  intro x hx
  cases hv : v.ownBlock with
  | none => rw [hv] at hg; exact (h.outs x hx).keep hg.size fun b cur hc => hg.block b (Array.getElem?_eq_some_iff.1 hc).1 (by simp)
  | some g =>
    rw [hv] at hg
    obtain ⟨_, ys, hr⟩ := h.row.lt g hv
    exact (h.outs x hx).row hr hg
theorem Tb.blk_row {w' : World} (h : Tb w t v room its) (hg : w.grownBy w' v.ownBlock) : Vb 42 w' t [.bool true, .int .i64 room, v] :=
  (hg.block t h.blk.lt (fun e => h.ne e.symm)).trans h.blk
/-- The table's block is written to: outputs stay. -/
theorem Ob.tab {w' : World} {x : It} {cs : List Value} (h : Ob w x) (hv : Vb 42 w t cs) (hg : w.grownBy w' (some t)) : Ob w' x :=
  h.keep hg.size fun b cur hc => hg.block b (Array.getElem?_eq_some_iff.1 hc).1 (fun e => by
    have e := Option.some.inj e
    subst e
    rw [show w.heap[b]? = _ from hv] at hc
    have hc := Option.some.inj hc
    injection hc with _ h2 _
    exact absurd h2 (by decide))
theorem len_tab (h : Tb w t v room its) : Calls Try.prog 15 #[.pointer (some ⟨t, 0, none⟩)] w fun e w' => e = .returned (.int .i64 its.length) ∧ w' = w := by
  have c2 := h.blk.cell 2 rfl
  obtain ⟨A, c, rfl, _⟩ := h.row.form
  go_enter Try.func15, Try.ntmps15
  go_wp2_with (first | (refine (isNone_no h).mono ?_; rintro e w1 ⟨rfl, rfl⟩))
  go_ret
  exact ⟨rfl, rfl⟩
theorem room_tab (h : Tb w t v room its) : Calls Try.prog 16 #[.pointer (some ⟨t, 0, none⟩)] w fun e w' => e = .returned (.int .i64 room) ∧ w' = w := by
  have c1 := h.blk.cell 1 rfl
  go_enter Try.func16, Try.ntmps16
  go_wp2_with (first | (refine (isNone_no h).mono ?_; rintro e w1 ⟨rfl, rfl⟩))
  go_ret
  exact ⟨rfl, rfl⟩
theorem wipe_tab (h : Tb w t v room its) : Calls Try.prog 14 #[.pointer (some ⟨t, 0, none⟩)] w fun e w' => e = .returned (.int .i64 its.length) ∧ Tb w' t (.slice none 0 0) room [] ∧ w.grownBy w' (some t) := by
  have c2 := h.blk.cell 2 rfl
  have hf := h.blk.free
  obtain ⟨A, c, rfl, _⟩ := h.row.form
  go_enter Try.func14, Try.ntmps14
  go_wp2_with (first | (refine (isNone_no h).mono ?_; rintro e w1 ⟨rfl, rfl⟩))
  go_ret
  exact ⟨rfl, ⟨h.blk.set 2 _, RowS.nil _, fun x hx => by simp at hx⟩, grownBy_set _ _ _ _⟩
theorem new_no (w : World) (room : Int) (h : room < 0 ∨ 64 < room) : Calls Try.prog 18 #[.int .i64 room] w fun e w' => e = .returned (.tuple #[.pointer none, .int .i64 2]) ∧ w' = w := by
  by_cases h1 : room < 0
  · go_enter Try.func18, Try.ntmps18
    go_wp2_with fail
    go_ret2
    exact ⟨rfl, rfl⟩
  · have h2 : 64 < room := by omega
    go_enter Try.func18, Try.ntmps18
    go_wp2_with fail
    go_ret2
    exact ⟨rfl, rfl⟩
theorem new_yes (w : World) (room : Int) (h1 : 0 ≤ room) (h2 : room ≤ 64) : Calls Try.prog 18 #[.int .i64 room] w fun e w' => e = .returned (.tuple #[.pointer (some ⟨w.heap.size, 0, none⟩), .int .i64 0]) ∧ Tb w' w.heap.size (.slice none 0 0) room [] ∧ Below w.heap.size w w' ∧ w'.heap.size = w.heap.size + 1 := by
  have h3 : ¬ room < 0 := by omega
  have h4 : ¬ 64 < room := by omega
  go_enter Try.func18, Try.ntmps18
  go_wp2_with fail
  go_ret2
  exact ⟨rfl, ⟨Vb.new 42 w [.bool true, .int .i64 room, .slice none 0 0], RowS.nil _, fun x hx => by simp at hx⟩, below_alloc _ _, by simp⟩
set_option maxRecDepth 100000 in
set_option maxHeartbeats 4000000 in
theorem deleteF_nil {gm : Nat} {mk : MaskV} (hmk : Vb 28 w gm (ms mk)) : Calls Try.prog 55 #[.slice none 0 0, .func (.func 56) #[] #[.pointer (some ⟨gm, 0, none⟩)]] w fun e w' => ∃ v', e = .returned v' ∧ RowS w' v' [] ∧ w.grownBy w' none ∧ v'.ownBlock = none := by
  have HI := Kp.mk (idxLoose_any (w := w) (A := none) (m := 0) (c := 0) (its := []) ⟨rfl, .inl ⟨rfl, rfl⟩⟩ (by omega) hmk)
  go_enter Try.func55, Try.ntmps55
  go_upto_region 1 with fail
  go_upto_region 2 with (refine HI.out.mono ?_; rintro e w1 ⟨i, rfl, hf, hb⟩)
  rcases hf with ⟨rfl, hno⟩ | ⟨k, x, rfl, hxk, hpx, hpre⟩
  · go_wp2_with fail
    go_ret
    exact ⟨_, rfl, RowS.nil _, grown_of_below hb _, rfl⟩
  · simp at hxk
set_option maxRecDepth 100000 in
set_option maxHeartbeats 4000000 in
theorem deleteS_any {v : Value} {gm : Nat} {mk : MaskV} (hv : RowS w v its) (hl : its.length ≤ 1000) (hmk : Vb 28 w gm (ms mk)) : Calls Try.prog 55 #[v, .func (.func 56) #[] #[.pointer (some ⟨gm, 0, none⟩)]] w fun e w' => ∃ v', e = .returned v' ∧ RowS w' v' (its.filter (fun x => !loosP mk x.r)) ∧ w.grownBy w' v.ownBlock ∧ v'.ownBlock = v.ownBlock := by
  rcases hv with ⟨rfl, rfl⟩ | ⟨g, ys, rfl, hr, hmx⟩
  · exact deleteF_nil hmk
  · exact deleteF_any hr hmx hl hmk
set_option maxRecDepth 100000 in
set_option maxHeartbeats 4000000 in
theorem loose_tab (h : Tb w t v room its) (hl : its.length ≤ 1000) (mk : MaskV) : Calls Try.prog 12 #[.pointer (some ⟨t, 0, none⟩), .agg (ms mk).toArray] w fun e w' => ∃ v', e = .returned (.int .i64 ((its.length - (its.filter (fun x => !loosP mk x.r)).length : Nat))) ∧ Tb w' t v' room (its.filter (fun x => !loosP mk x.r)) ∧ Fr2 t v.ownBlock w w' ∧ Nx w v v' := by
  have hmf : ∀ (fn : Fn) (first cap : Array Value) (w : World), (Instr.makeFunc fn first cap).run Try.prog w = .ok (.func fn first cap) w := fun _ _ _ _ => rfl
  have hb0 := below_alloc w (.cells (ms mk).toArray 28)
  have hm0 := Vb.new 28 w (ms mk)
  have h1 := h.below hb0
  have hlf := List.length_filter_le (fun x : It => !loosP mk x.r) its
  have hw64 : IntKind.i64.wrap ((its.length : Int) - ((its.filter (fun x : It => !loosP mk x.r)).length : Int)) = ((its.length - (its.filter (fun x : It => !loosP mk x.r)).length : Nat) : Int) := by rw [IntKind.wrap_i64]; omega
  have c2 := h1.blk.cell 2 rfl
  have hc := deleteS_any h1.row hl hm0
  have HO := Kp.mk (show ∀ x ∈ its.filter (fun x : It => !loosP mk x.r), x ∈ its from fun x hx => (List.mem_filter.1 hx).1)
  obtain ⟨A, c, hv, _⟩ := h1.row.form
  generalize hq : its.filter (fun x : It => !loosP mk x.r) = fs at *
  generalize hn : its.length = n at *
  subst hv
  go_enter Try.func12, Try.ntmps12
  go_upto_region 1 with fail
  generalize w.alloc (.cells (ms mk).toArray 28) = w0 at *
  go_wp2_with (first | (refine (isNone_no h1).mono ?_; rintro e w1 ⟨rfl, rfl⟩))
  refine hc.mono ?_
  rintro e w2 ⟨v', rfl, hr2, hg2, hob⟩
  have hT2 := h1.blk_row hg2
  have hO2 := h1.outs_row hg2
  have hf := hT2.free
  have d2 := hT2.cell 2 rfl
  obtain ⟨A2, c3, rfl, _⟩ := hr2.form
  clear c2
  go_wp2_with fail
  go_ret
  refine ⟨_, rfl, ⟨hT2.set 2 _, hr2.grown (grownBy_set _ _ _ _) (by rw [hob]; exact .inr h1.ne), fun x hx => (hO2 x (HO.out x hx)).tab hT2 (grownBy_set _ _ _ _)⟩, ?_, .inl hob⟩
  exact (Fr2.of_below hb0).trans ((Fr2.of_grown hg2).trans (Fr2.of_grown' (grownBy_set _ _ _ _)) (.inl rfl)) (.inl rfl)
set_option maxRecDepth 100000 in
set_option maxHeartbeats 4000000 in
/-- The piece of a table from lo to hi, its room cut there. -/
theorem inPlace_tab (h : Tb w t v room its) (hS : Srt (rls its)) (hl : its.length ≤ 1000) (p : It) : Calls Try.prog 45 #[.pointer (some ⟨t, 0, none⟩), .agg (ics p).toArray] w fun e w' => ∃ A, e = .returned (.slice A (hiP p.r (rls its) - loP p.r (rls its)) (hiP p.r (rls its) - loP p.r (rls its))) ∧ SrcR w' A (hiP p.r (rls its) - loP p.r (rls its)) ((its.drop (loP p.r (rls its))).take (hiP p.r (rls its) - loP p.r (rls its))) ∧ Below w.heap.size w w' := by
  have hb0 := below_alloc w (.cells (ics p).toArray 31)
  have hv := Vb.new 31 w (ics p)
  have h1 := h.below hb0
  have l1 := lo_hi (r := p.r) hS
  have l2 := hi_le (r := p.r) (l := rls its)
  rw [rls_len] at l2
  have HC := Kp.mk (fun (W : World) (hb : Below w.heap.size w W) => stretch_any (h.below hb) hS hl p)
  clear h hS
  generalize loP p.r (rls its) = lo at *
  generalize hiP p.r (rls its) = hi at *
  go_enter Try.func45, Try.ntmps45
  go_upto_region 1 with fail
  generalize w.alloc (.cells (ics p).toArray 31) = w0 at *
  go_wp2_with (first | refine wpList_load_vb (vs := ics p) rfl (.tmp 3) rfl rfl hv rfl agg_rule ?_)
  refine (HC.out _ hb0).mono ?_
  rintro e w1 ⟨rfl, hb⟩
  have h2 := h1.below hb
  have c2 := h2.blk.cell 2 rfl
  have hB := hb0.trans (hb.mono hb0.size)
  have hrow := h2.row
  rcases hrow with ⟨rfl, rfl⟩ | ⟨g, ys, rfl, hr, hmx⟩
  · obtain rfl : hi = 0 := by simpa using l2
    obtain rfl : lo = 0 := by omega
    go_wp2_with fail
    go_ret
    exact ⟨none, rfl, ⟨rfl, .inl ⟨rfl, rfl⟩⟩, hB⟩
  · have HF := Kp.mk (show ∀ o, (o = lo ∨ (hi - lo = 0 ∧ o = 0)) → SrcR w1 (some ⟨g, o * 13, none⟩) (hi - lo) ((its.drop lo).take (hi - lo)) by
      intro o ho
      refine ⟨by simp; omega, .inr ⟨g, o, its ++ ys, rfl, hr, ?_, ?_⟩⟩
      · rcases ho with rfl | ⟨h1, rfl⟩
        · simp; omega
        · simp; omega
      · rcases ho with rfl | ⟨h1, rfl⟩
        · rw [List.drop_append_of_le_length (by omega), List.take_append_of_le_length (by simp; omega)]
        · rw [h1]; simp)
    have HZ := Kp.mk (show hi ≤ its.length from l2)
    have hcap : hi ≤ its.length + ys.length := by omega
    generalize its.length + ys.length = c at *
    clear l2 hr hmx
    by_cases hlh : hi = lo
    · subst hlh
      go_wp2_with fail
      go_ret
      exact ⟨_, by rw [Nat.sub_self]; rfl, by have := HF.out 0 (.inr ⟨by omega, rfl⟩); rw [Nat.zero_mul] at this; exact this, hB⟩
    · go_wp2_with fail
      all_goals (go_ret; exact ⟨_, rfl, HF.out lo (.inl rfl), hB⟩)
end
end Go.Proofs.Ytcolklkjaifplaa.Oct

namespace Go.Proofs.Ytcolklkjaifplaa.Oct
open Go.RowKit
set_option linter.unusedVariables false
set_option linter.unusedSimpArgs false

/-- The place of control rules of a switch. -/
def ctlR (tw : Int) : RuleV := ⟨2, 0, tw, 0, ⟨0, 0, 0, 0, 0, 0, 0, 0⟩, []⟩
def ctlIt (tw : Int) : It := ⟨ctlR tw, none, 0⟩
theorem cmp_ctl (x : RuleV) (tw : Int) : cmpR x (ctlR tw) = 0 ↔ x.k = 2 ∧ x.to = tw := by
  rw [cmpR_zero]
  unfold keyR ctlR
  by_cases h : x.k = 1
  · rw [if_pos h, if_neg (by simp)]
    simp; omega
  · rw [if_neg h, if_neg (by simp)]
    simp
theorem cmp_ctl0 (x : RuleV) (h : x.k = 1 ∨ (x.k = 2 ∧ 0 ≤ x.to)) : cmpR x (ctlR 0) < 0 ↔ x.k = 1 := by
  rw [cmpR_key]
  unfold keyR ctlR
  rcases h with h | ⟨h, h2⟩
  · rw [if_pos h, if_neg (by simp), h]
    simp [cmpL, cmpI]
  · rw [if_neg (by omega), if_neg (by simp), h]
    simp only [cmpL, cmpI]
    repeat' split
    all_goals omega
/-- What Control answers. -/
def Ctl (l : List RuleV) (tw q : Int) (b : Bool) : Prop := (b = false ∧ q = 0 ∧ ∀ x ∈ l, ¬ (x.k = 2 ∧ x.to = tw)) ∨ (b = true ∧ ∃ x ∈ l, (x.k = 2 ∧ x.to = tw) ∧ q = x.po)
section
variable {w : World} {t : Nat} {v : Value} {room : Int} {its : List It}
set_option maxRecDepth 100000 in
set_option maxHeartbeats 4000000 in
theorem control_tab (h : Tb w t v room its) (hS : Srt (rls its)) (hl : its.length ≤ 1000) (tw : Int) : Calls Try.prog 8 #[.pointer (some ⟨t, 0, none⟩), .int .i64 tw] w fun e w' => ∃ q b, e = .returned (.tuple #[.int .i64 q, .bool b]) ∧ Ctl (rls its) tw q b ∧ Below w.heap.size w w' := by
  have HI := Kp.mk (inPlace_tab h hS hl (ctlIt tw))
  have l1 := lo_hi (r := ctlR tw) hS
  have l2 := hi_lo (r := ctlR tw) hS
  have l3 := hi_le (r := ctlR tw) (l := rls its)
  by_cases he : hiP (ctlR tw) (rls its) = loP (ctlR tw) (rls its)
  · have HF := Kp.mk (show Ctl (rls its) tw 0 false from .inl ⟨rfl, rfl, fun x hx hk => by
      obtain ⟨i, hi⟩ := List.getElem?_of_mem hx
      have := (at_lo hS hi ((cmp_ctl x tw).2 hk)).2
      omega⟩)
    have HI2 := HI.out
    rw [show (ctlIt tw).r = ctlR tw from rfl, he, Nat.sub_self] at HI2
    replace HI2 := Kp.mk HI2
    clear HI
    go_enter Try.func8, Try.ntmps8
    go_wp2_with (first | (refine (isNone_no h).mono ?_; rintro e w1 ⟨rfl, rfl⟩))
    refine HI2.out.mono ?_
    rintro e w1 ⟨A, rfl, hs, hb⟩
    go_wp2_with fail
    go_ret2
    exact ⟨_, _, rfl, HF.out, hb⟩
  · obtain ⟨x, hx⟩ : ∃ x, its[loP (ctlR tw) (rls its)]? = some x := ⟨_, List.getElem?_eq_getElem (by rw [rls_len] at l3; omega)⟩
    have h0 := lo_at hS (by omega) (rls_at hx)
    have HF := Kp.mk (show Ctl (rls its) tw x.r.po true from .inr ⟨rfl, x.r, List.mem_of_getElem? (rls_at hx), (cmp_ctl x.r tw).1 h0, rfl⟩)
    have e1 : hiP (ctlR tw) (rls its) - loP (ctlR tw) (rls its) = 1 := by omega
    have e2 : (its.drop (loP (ctlR tw) (rls its))).take 1 = [x] := by
      obtain ⟨hlt, e⟩ := List.getElem?_eq_some_iff.1 hx
      rw [List.drop_eq_getElem_cons hlt, e]
      rfl
    have HI2 := HI.out
    rw [show (ctlIt tw).r = ctlR tw from rfl, e1, e2] at HI2
    replace HI2 := Kp.mk HI2
    clear HI
    go_enter Try.func8, Try.ntmps8
    go_wp2_with (first | (refine (isNone_no h).mono ?_; rintro e w1 ⟨rfl, rfl⟩))
    refine HI2.out.mono ?_
    rintro e w1 ⟨A, rfl, hs, hb⟩
    obtain ⟨_, hs⟩ := hs
    rcases hs with ⟨_, h0⟩ | ⟨g, j, ys, rfl, hr, hj, he2⟩
    · omega
    have hy : ys[j]? = some x := by
      have := congrArg (fun l => l[0]?) he2
      simpa [List.getElem?_take, List.getElem?_drop] using this
    have d3 := Vb.cell hr (j * 13 + 3) ((fl_get ys j 3 x hy (by omega)).trans rfl)
    clear hj he2 hy hr
    go_wp2_with fail
    go_ret2
    exact ⟨_, _, rfl, HF.out, hb⟩
set_option maxRecDepth 100000 in
set_option maxHeartbeats 4000000 in
theorem dataP_tab (h : Tb w t v room its) (hS : Srt (rls its)) (hl : its.length ≤ 1000) : Calls Try.prog 46 #[.pointer (some ⟨t, 0, none⟩)] w fun e w' => ∃ A, e = .returned (.slice A (loP (ctlR 0) (rls its)) (loP (ctlR 0) (rls its))) ∧ SrcR w' A (loP (ctlR 0) (rls its)) (its.take (loP (ctlR 0) (rls its))) ∧ Below w.heap.size w w' := by
  have l2 := lo_le (r := ctlR 0) (l := rls its)
  rw [rls_len] at l2
  have HC := Kp.mk (stretch_any h hS hl (ctlIt 0))
  have HC2 := HC.out
  rw [show (ctlIt 0).r = ctlR 0 from rfl] at HC2
  replace HC2 := Kp.mk HC2
  clear HC hS
  generalize loP (ctlR 0) (rls its) = lo at *
  generalize hiP (ctlR 0) (rls its) = hi at *
  go_enter Try.func46, Try.ntmps46
  go_wp2_with fail
  refine HC2.out.mono ?_
  rintro e w1 ⟨rfl, hb⟩
  have h2 := h.below hb
  have c2 := h2.blk.cell 2 rfl
  have hrow := h2.row
  rcases hrow with ⟨rfl, rfl⟩ | ⟨g, ys, rfl, hr, hmx⟩
  · obtain rfl : lo = 0 := by simpa using l2
    go_wp2_with fail
    go_ret
    exact ⟨none, rfl, ⟨rfl, .inl ⟨rfl, rfl⟩⟩, hb⟩
  · have HF := Kp.mk (show SrcR w1 (some ⟨g, 0, none⟩) lo (its.take lo) from ⟨by simp; omega, .inr ⟨g, 0, its ++ ys, by simp, hr, by simp; omega, by rw [List.drop_zero, List.take_append_of_le_length (by omega)]⟩⟩)
    have hcap : lo ≤ its.length + ys.length := by omega
    generalize its.length + ys.length = c at *
    clear l2 hr hmx
    go_wp2_with fail
    all_goals (go_ret; exact ⟨_, rfl, HF.out, hb⟩)
end
/-- What Data answers: the rule, whether there is one. -/
def DataP (l : List RuleV) (ver port p q r : Int) (y : RuleV) (b : Bool) : Prop := (b = false ∧ y = zR ∧ ∀ x ∈ l, ¬ (x.k = 1 ∧ fitsM x.x ver port p q r = true)) ∨ (b = true ∧ ∃ j : Nat, l[j]? = some y ∧ (y.k = 1 ∧ fitsM y.x ver port p q r = true) ∧ ∀ (i : Nat) x, i < j → l[i]? = some x → ¬ (x.k = 1 ∧ fitsM x.x ver port p q r = true))
theorem okR_kind {x : RuleV} (h : okR x) : x.k = 1 ∨ (x.k = 2 ∧ 0 ≤ x.to) := by
  rcases h with h | h
  · exact .inl h.1
  · exact .inr ⟨h.1, h.2.1.1⟩
theorem dataP_of {its : List It} {ver port p q r : Int} {i : Int} (hS : Srt (rls its)) (hok : ∀ x ∈ rls its, okR x) (h : Fst (fun r' : RuleV => fitsM r'.x ver port p q r) (its.take (loP (ctlR 0) (rls its))) i) :
    (i = -1 ∧ DataP (rls its) ver port p q r zR false) ∨ ∃ (k : Nat) (x : It), i = k ∧ k < loP (ctlR 0) (rls its) ∧ its[k]? = some x ∧ DataP (rls its) ver port p q r x.r true := by
  have hk : ∀ (j : Nat) (x : It), its[j]? = some x → (x.r.k = 1 ↔ j < loP (ctlR 0) (rls its)) := fun j x hx => by
    rw [← lo_iff (r := ctlR 0) hS j x.r (rls_at hx)]
    exact (cmp_ctl0 x.r (okR_kind (hok x.r (List.mem_of_getElem? (rls_at hx))))).symm
  have hback : ∀ (j : Nat) (x : RuleV), (rls its)[j]? = some x → ∃ y, its[j]? = some y ∧ y.r = x := fun j x hx => by
    simp only [rls, List.getElem?_map, Option.map_eq_some_iff] at hx
    exact hx
  rcases h with ⟨rfl, hno⟩ | ⟨k, x, rfl, hx, hp, hpre⟩
  · refine .inl ⟨rfl, .inl ⟨rfl, rfl, fun x hx hc => ?_⟩⟩
    obtain ⟨j, hj⟩ := List.getElem?_of_mem hx
    obtain ⟨y, hy, rfl⟩ := hback j x hj
    have := hno j y (by rw [List.getElem?_take, if_pos ((hk j y hy).1 hc.1)]; exact hy)
    simp only at this
    rw [this] at hc
    exact absurd hc.2 (by simp)
  · rw [List.getElem?_take] at hx
    split at hx
    · rename_i hlt
      refine .inr ⟨k, x, rfl, hlt, hx, .inr ⟨rfl, k, rls_at hx, ⟨(hk k x hx).2 hlt, hp⟩, fun i y hi hy hc => ?_⟩⟩
      obtain ⟨z, hz, rfl⟩ := hback i y hy
      have := hpre i z hi (by rw [List.getElem?_take, if_pos (by omega)]; exact hz)
      simp only at this
      rw [this] at hc
      exact absurd hc.2 (by simp)
    · simp at hx
end Go.Proofs.Ytcolklkjaifplaa.Oct

namespace Go.Proofs.Ytcolklkjaifplaa.Oct
open Go.RowKit
set_option linter.unusedVariables false
set_option linter.unusedSimpArgs false

theorem Ob.vb {T : TypeId} {w w' : World} {x : It} {g : Nat} {cs : List Value} (h : Ob w x) (hv : Vb T w g cs) (hT : T ≠ 93) (hg : w.grownBy w' (some g)) : Ob w' x :=
  h.keep hg.size fun b cur hc => hg.block b (Array.getElem?_eq_some_iff.1 hc).1 (fun e => by
    have e := Option.some.inj e
    subst e
    rw [show w.heap[b]? = _ from hv] at hc
    have hc := Option.some.inj hc
    injection hc with _ h2 _
    exact hT h2)
theorem Ob.zero (w : World) : Ob w zIt := ⟨Ro.nil _ _, fun h => absurd h (by simp [zIt, zR])⟩
theorem Fre.zero (n : Nat) : Fre n zIt := fun h => absurd h (by simp [zIt, zR])
section
variable {w : World} {t : Nat} {v : Value} {room : Int} {its : List It}
set_option maxRecDepth 100000 in
set_option maxHeartbeats 8000000 in
theorem data_tab (h : Tb w t v room its) (hS : Srt (rls its)) (hok : ∀ x ∈ rls its, okR x) (hl : its.length ≤ 1000) (ver port p q r : Int) : Calls Try.prog 9 #[.pointer (some ⟨t, 0, none⟩), .int .i64 ver, .int .i64 port, .agg #[.int .u8 p, .int .u8 q, .int .u8 r]] w fun e w' => ∃ y b, e = .returned (.tuple #[.agg (ics y).toArray, .bool b]) ∧ DataP (rls its) ver port p q r y.r b ∧ Ob w' y ∧ Fre w.heap.size y ∧ Below w.heap.size w w' := by
  have hmf : ∀ (fn : Fn) (first cap : Array Value) (w : World), (Instr.makeFunc fn first cap).run Try.prog w = .ok (.func fn first cap) w := fun _ _ _ _ => rfl
  have z1 : (w.alloc (.cells #[.int .i64 ver] 3)).heap.size = w.heap.size + 1 := by simp
  have z2 : ((w.alloc (.cells #[.int .i64 ver] 3)).alloc (.cells #[.int .i64 port] 3)).heap.size = w.heap.size + 2 := by simp
  have z3 : (((w.alloc (.cells #[.int .i64 ver] 3)).alloc (.cells #[.int .i64 port] 3)).alloc (.cells #[.int .u8 p, .int .u8 q, .int .u8 r] 26)).heap.size = w.heap.size + 3 := by simp
  have ha : Vb 3 ((((w.alloc (.cells #[.int .i64 ver] 3)).alloc (.cells #[.int .i64 port] 3)).alloc (.cells #[.int .u8 p, .int .u8 q, .int .u8 r] 26)).alloc (.cells #[.int .i64 0, .int .i64 0, .int .i64 0, .int .i64 0, .int .i64 0, .int .i64 0, .int .u8 0, .int .u8 0, .int .u8 0, .int .u8 0, .int .u8 0, .int .u8 0, .slice none 0 0] 31)) w.heap.size [.int .i64 ver] := (((Vb.new 3 w [.int .i64 ver]).alloc _).alloc _).alloc _
  have hb : Vb 3 ((((w.alloc (.cells #[.int .i64 ver] 3)).alloc (.cells #[.int .i64 port] 3)).alloc (.cells #[.int .u8 p, .int .u8 q, .int .u8 r] 26)).alloc (.cells #[.int .i64 0, .int .i64 0, .int .i64 0, .int .i64 0, .int .i64 0, .int .i64 0, .int .u8 0, .int .u8 0, .int .u8 0, .int .u8 0, .int .u8 0, .int .u8 0, .slice none 0 0] 31)) (w.heap.size + 1) [.int .i64 port] := by have := ((Vb.new 3 (w.alloc (.cells #[.int .i64 ver] 3)) [.int .i64 port]).alloc (.cells #[.int .u8 p, .int .u8 q, .int .u8 r] 26)).alloc (.cells #[.int .i64 0, .int .i64 0, .int .i64 0, .int .i64 0, .int .i64 0, .int .i64 0, .int .u8 0, .int .u8 0, .int .u8 0, .int .u8 0, .int .u8 0, .int .u8 0, .slice none 0 0] 31); rw [z1] at this; exact this
  have hh : Vb 26 ((((w.alloc (.cells #[.int .i64 ver] 3)).alloc (.cells #[.int .i64 port] 3)).alloc (.cells #[.int .u8 p, .int .u8 q, .int .u8 r] 26)).alloc (.cells #[.int .i64 0, .int .i64 0, .int .i64 0, .int .i64 0, .int .i64 0, .int .i64 0, .int .u8 0, .int .u8 0, .int .u8 0, .int .u8 0, .int .u8 0, .int .u8 0, .slice none 0 0] 31)) (w.heap.size + 2) [.int .u8 p, .int .u8 q, .int .u8 r] := by have := (Vb.new 26 ((w.alloc (.cells #[.int .i64 ver] 3)).alloc (.cells #[.int .i64 port] 3)) [.int .u8 p, .int .u8 q, .int .u8 r]).alloc (.cells #[.int .i64 0, .int .i64 0, .int .i64 0, .int .i64 0, .int .i64 0, .int .i64 0, .int .u8 0, .int .u8 0, .int .u8 0, .int .u8 0, .int .u8 0, .int .u8 0, .slice none 0 0] 31); rw [z2] at this; exact this
  have hres : Vb 31 ((((w.alloc (.cells #[.int .i64 ver] 3)).alloc (.cells #[.int .i64 port] 3)).alloc (.cells #[.int .u8 p, .int .u8 q, .int .u8 r] 26)).alloc (.cells #[.int .i64 0, .int .i64 0, .int .i64 0, .int .i64 0, .int .i64 0, .int .i64 0, .int .u8 0, .int .u8 0, .int .u8 0, .int .u8 0, .int .u8 0, .int .u8 0, .slice none 0 0] 31)) (w.heap.size + 3) [.int .i64 0, .int .i64 0, .int .i64 0, .int .i64 0, .int .i64 0, .int .i64 0, .int .u8 0, .int .u8 0, .int .u8 0, .int .u8 0, .int .u8 0, .int .u8 0, .slice none 0 0] := by have := Vb.new 31 (((w.alloc (.cells #[.int .i64 ver] 3)).alloc (.cells #[.int .i64 port] 3)).alloc (.cells #[.int .u8 p, .int .u8 q, .int .u8 r] 26)) [.int .i64 0, .int .i64 0, .int .i64 0, .int .i64 0, .int .i64 0, .int .i64 0, .int .u8 0, .int .u8 0, .int .u8 0, .int .u8 0, .int .u8 0, .int .u8 0, .slice none 0 0]; rw [z3] at this; exact this
  have hB : Below w.heap.size w ((((w.alloc (.cells #[.int .i64 ver] 3)).alloc (.cells #[.int .i64 port] 3)).alloc (.cells #[.int .u8 p, .int .u8 q, .int .u8 r] 26)).alloc (.cells #[.int .i64 0, .int .i64 0, .int .i64 0, .int .i64 0, .int .i64 0, .int .i64 0, .int .u8 0, .int .u8 0, .int .u8 0, .int .u8 0, .int .u8 0, .int .u8 0, .slice none 0 0] 31)) := (((((Below.refl _ w).alloc (Nat.le_refl _) _).alloc (by omega) _).alloc (by omega) _).alloc (by omega) _)
  have z4 : ((((w.alloc (.cells #[.int .i64 ver] 3)).alloc (.cells #[.int .i64 port] 3)).alloc (.cells #[.int .u8 p, .int .u8 q, .int .u8 r] 26)).alloc (.cells #[.int .i64 0, .int .i64 0, .int .i64 0, .int .i64 0, .int .i64 0, .int .i64 0, .int .u8 0, .int .u8 0, .int .u8 0, .int .u8 0, .int .u8 0, .int .u8 0, .slice none 0 0] 31)).heap.size = w.heap.size + 4 := by simp
  clear z1 z2 z3
  have h1 := h.below hB
  go_enter Try.func9, Try.ntmps9
  go_upto_region 1 with fail
  generalize (((w.alloc (.cells #[.int .i64 ver] 3)).alloc (.cells #[.int .i64 port] 3)).alloc (.cells #[.int .u8 p, .int .u8 q, .int .u8 r] 26)).alloc (.cells #[.int .i64 0, .int .i64 0, .int .i64 0, .int .i64 0, .int .i64 0, .int .i64 0, .int .u8 0, .int .u8 0, .int .u8 0, .int .u8 0, .int .u8 0, .int .u8 0, .slice none 0 0] 31) = w0 at *
  have HD := Kp.mk (dataP_tab h1 hS hl)
  have HK := Kp.mk (fun (i : Int) (hf : Fst (fun r' : RuleV => fitsM r'.x ver port p q r) (its.take (loP (ctlR 0) (rls its))) i) => dataP_of hS hok hf)
  have l2 := lo_le (r := ctlR 0) (l := rls its)
  rw [rls_len] at l2
  have HOK := Kp.mk hok
  clear hS hok h
  generalize loP (ctlR 0) (rls its) = lo at *
  go_upto_region 3 with (first | (refine (isNone_no h1).mono ?_; rintro e w1 ⟨rfl, rfl⟩))
  go_upto_region 4 with (refine HD.out.mono ?_; rintro e w1' ⟨A, rfl, hs, hb1⟩)
  replace ha := ha.below hb1 ha.lt
  replace hb := hb.below hb1 hb.lt
  replace hh := hh.below hb1 hh.lt
  replace hres := hres.below hb1 hres.lt
  replace h1 := h1.below hb1
  replace hB := hB.trans (hb1.mono hB.size)
  clear HD
  have hz1 := hb1.size
  clear hb1
  have HI := Kp.mk (idxData_any (c := lo) hs (by omega) ha hb hh)
  go_upto_region 5 with (refine HI.out.mono ?_; rintro e w2 ⟨i, rfl, hf, hb2⟩)
  have hs2 := hs.below hb2
  have hr3 := hres.below hb2 hres.lt
  have h2 := h1.below hb2
  have hB2 := hB.trans (hb2.mono hB.size)
  have hk := HK.out i hf
  clear HI ha hb hh hres h1 hs hb2 hB HK hf
  rcases hk with ⟨rfl, hP⟩ | ⟨k, x, rfl, hkl, hxk, hP⟩
  · have HP := Kp.mk hP
    clear hP
    go_wp2_with (first | (refine wpList_store_vb (vs := [.int .i64 0, .int .i64 0, .int .i64 0, .int .i64 0, .int .i64 0, .int .i64 0, .int .u8 0, .int .u8 0, .int .u8 0, .int .u8 0, .int .u8 0, .int .u8 0, .slice none 0 0]) rfl (.tmp 8) (.tmp 22) rfl rfl rfl hr3 rfl agg_rule rfl ?_; intro w4 hv4 hg4 hz4))
    refine bodyPost_ret (results_pair Try.results9 _ rfl hv4 agg_rule) rfl ?_
    exact ⟨zIt, false, rfl, HP.out, Ob.zero _, Fre.zero _, hB2.grown hg4 hB2.size (fun k e => by simp at e; omega)⟩
  · have HP := Kp.mk hP
    have hox := h2.outs x (List.mem_of_getElem? hxk)
    have hn0 : ¬ ((k : Int) < 0) := by omega
    obtain ⟨hl3, hs3⟩ := hs2
    rcases hs3 with ⟨_, h0⟩ | ⟨g, j, ys, rfl, hr, hj, he⟩
    · omega
    have hy : ys[j + k]? = some x := by
      have := congrArg (fun l => l[k]?) he
      simp only [List.getElem?_take, List.getElem?_drop, if_pos hkl] at this
      rw [this]; exact hxk
    have hxl : x.r.os.length ≤ 1000000000 := by have := okR_len (HOK.out x.r (List.mem_of_getElem? (rls_at hxk))); omega
    have HCY := Kp.mk (copyR_any x hox.ro (Nat.le_refl _) hxl)
    clear hP he hl3 hj hxk h2 hox
    go_wp2_with (first | refine wpList_load_vb (vs := ics x) rfl (.tmp 25) rfl rfl hr (fl_off hy (by omega)) agg_rule ?_ | (refine HCY.out.mono ?_; rintro e w3 ⟨y, hyr, rfl, hyo, hyf, hb3⟩; have hr4 := hr3.below hb3 hr3.lt) | (refine wpList_store_vb (vs := ics y) rfl (.tmp 8) (.tmp 27) rfl rfl rfl hr4 rfl agg_rule rfl ?_; intro w4 hv4 hg4 hz4))
    refine bodyPost_ret (results_pair Try.results9 _ rfl hv4 agg_rule) rfl ?_
    refine ⟨y, true, rfl, by rw [hyr]; exact HP.out, hyo.vb hr4 (by decide) hg4, fun hn a e => ?_, (hB2.trans (hb3.mono hB2.size)).grown hg4 (by have := hB2.size; have := hb3.size; omega) (fun k e => by simp at e; omega)⟩
    have := hyf hn a e
    have := hB2.size
    omega
end
end Go.Proofs.Ytcolklkjaifplaa.Oct
