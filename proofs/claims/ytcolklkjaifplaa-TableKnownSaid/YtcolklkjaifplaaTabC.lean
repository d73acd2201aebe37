/- Contracts of layer 9: a table in memory; where a rule stands in it; what there is of it. -/
import Derived.Test.YtcolklkjaifplaaTabB
import Derived.Test.YtcolklkjaifplaaOrdB
namespace Go.Proofs.Ytcolklkjaifplaa.Oct
open Go.RowKit
set_option linter.unusedVariables false
set_option linter.unusedSimpArgs false

/-- A rule's outputs, in a block of outputs. -/
structure Ob (w : World) (x : It) : Prop where
  ro : Ro w w.heap.size x.A x.r.os.length x.c x.r.os
  ty : 0 < x.r.os.length → ∀ a, x.A = some a → ∃ cur, w.heap[a.block]? = some (Obj.cells cur 93 (0, 0))
theorem Ob.keep {w w' : World} {x : It} (h : Ob w x) (hz : w.heap.size ≤ w'.heap.size) (hk : ∀ (b : Nat) (cur : Array Value), w.heap[b]? = some (Obj.cells cur 93 (0, 0)) → w'.heap[b]? = w.heap[b]?) : Ob w' x := by
  refine ⟨⟨h.ro.1, h.ro.2.1, h.ro.2.2.1, h.ro.2.2.2.1, fun hn => ?_⟩, fun hn a e => ?_⟩
  · obtain ⟨b, off, e, hb, hc⟩ := h.ro.at_ hn
    obtain ⟨cur, hcur⟩ := h.ty hn _ e
    have hkb := hk _ _ hcur
    refine ⟨b, off, e, by omega, fun j o hj => ?_⟩
    have := hc j o hj
    have k : ∀ o, w'.cell? ⟨b, o, none⟩ = w.cell? ⟨b, o, none⟩ := fun o => World.cell?_of_block (a := ⟨b, o, none⟩) hkb
    rw [k, k, k, k]
    exact this
  · obtain ⟨cur, hcur⟩ := h.ty hn a e
    exact ⟨cur, (hk _ _ hcur).trans hcur⟩
theorem Ob.below {w w' : World} {x : It} (h : Ob w x) (hb : Below w.heap.size w w') : Ob w' x :=
  h.keep hb.size fun b cur hc => hb.block b (Array.getElem?_eq_some_iff.1 hc).1
/-- A row of rules is written to: outputs stay. -/
theorem Ob.row {w w' : World} {x : It} {g : Nat} {ys : List It} (h : Ob w x) (hr : Rowb w g ys) (hg : w.grownBy w' (some g)) : Ob w' x :=
  h.keep hg.size fun b cur hc => hg.block b (Array.getElem?_eq_some_iff.1 hc).1 (fun e => by
    have e := Option.some.inj e
    subst e
    rw [show w.heap[b]? = _ from hr] at hc
    have hc := Option.some.inj hc
    injection hc with _ h2 _
    exact absurd h2 (by decide))
def rls (its : List It) : List RuleV := its.map (·.r)
/-- A table in memory: its block, its row of rules, their outputs. -/
structure Tb (w : World) (t : Nat) (v : Value) (room : Int) (its : List It) : Prop where
  blk : Vb 42 w t [.bool true, .int .i64 room, v]
  row : RowS w v its
  outs : ∀ x ∈ its, Ob w x
theorem Tb.below {w w' : World} {t : Nat} {v : Value} {room : Int} {its : List It} (h : Tb w t v room its) (hb : Below w.heap.size w w') : Tb w' t v room its :=
  ⟨h.blk.below hb h.blk.lt, h.row.below hb, fun x hx => (h.outs x hx).below hb⟩
theorem rls_len (its : List It) : (rls its).length = its.length := by simp [rls]
theorem rls_at {its : List It} {i : Nat} {x : It} (h : its[i]? = some x) : (rls its)[i]? = some x.r := by simp [rls, h]

section
variable {w : World} {t : Nat} {v : Value} {room : Int} {its : List It}
theorem isNone_no (h : Tb w t v room its) : Calls Try.prog 44 #[.pointer (some ⟨t, 0, none⟩)] w fun e w' => e = .returned (.bool false) ∧ w' = w := by
  have c0 := h.blk.cell 0 rfl
  go_enter Try.func44, Try.ntmps44
  go_wp2_with fail
  go_ret
  exact ⟨rfl, rfl⟩
theorem isNone_nil (w : World) : Calls Try.prog 44 #[.pointer none] w fun e w' => e = .returned (.bool true) ∧ w' = w := by
  go_enter Try.func44, Try.ntmps44
  go_wp2_with fail
  go_ret
  exact ⟨rfl, rfl⟩
theorem isNone_zero (h : Vb 42 w t [.bool false, .int .i64 0, .slice none 0 0]) : Calls Try.prog 44 #[.pointer (some ⟨t, 0, none⟩)] w fun e w' => e = .returned (.bool true) ∧ w' = w := by
  have c0 := h.cell 0 rfl
  go_enter Try.func44, Try.ntmps44
  go_wp2_with fail
  go_ret
  exact ⟨rfl, rfl⟩
set_option maxRecDepth 100000 in
set_option maxHeartbeats 4000000 in
theorem ruleCheck_any {B : Nat} (x : It) (hx : Ro w B x.A x.r.os.length x.c x.r.os) (hB : B ≤ w.heap.size) : Calls Try.prog 80 #[.agg (ics x).toArray] w fun e w' => e = .returned (.int .i64 (checkR x.r)) ∧ Below w.heap.size w w' := by
  have hb0 := below_alloc w (.cells (ics x).toArray 31)
  have hv := Vb.new 31 w (ics x)
  have hx1 := hx.below' hb0 hB
  go_enter Try.func80, Try.ntmps80
  go_upto_region 1 with fail
  generalize w.alloc (.cells (ics x).toArray 31) = w0 at *
  go_wp2_with (first | refine wpList_load_vb (vs := ics x) rfl (.tmp 1) rfl rfl hv rfl agg_rule ?_)
  refine (ruleO_any x.r hx1 (by have := hb0.size; omega)).mono ?_
  rintro e w1 ⟨rfl, hb⟩
  go_wp2_with fail
  go_ret
  exact ⟨rfl, hb0.trans (hb.mono hb0.size)⟩
set_option maxRecDepth 100000 in
set_option maxHeartbeats 4000000 in
theorem check_tab {B : Nat} (h : Tb w t v room its) (x : It) (hx : Ro w B x.A x.r.os.length x.c x.r.os) (hB : B ≤ w.heap.size) : Calls Try.prog 51 #[.pointer (some ⟨t, 0, none⟩), .agg (ics x).toArray] w fun e w' => e = .returned (.int .i64 (checkR x.r)) ∧ Below w.heap.size w w' := by
  have hb0 := below_alloc w (.cells (ics x).toArray 31)
  have hv := Vb.new 31 w (ics x)
  have hx1 := hx.below' hb0 hB
  have h1 := h.below hb0
  go_enter Try.func51, Try.ntmps51
  go_upto_region 1 with fail
  generalize w.alloc (.cells (ics x).toArray 31) = w0 at *
  go_wp2_with (first | (refine (isNone_no h1).mono ?_; rintro e w1 ⟨rfl, rfl⟩) | refine wpList_load_vb (vs := ics x) rfl (.tmp 3) rfl rfl hv rfl agg_rule ?_)
  refine (ruleCheck_any x hx1 (by have := hb0.size; omega)).mono ?_
  rintro e w1 ⟨rfl, hb⟩
  go_wp2_with fail
  go_ret
  exact ⟨rfl, hb0.trans (hb.mono hb0.size)⟩
set_option maxRecDepth 100000 in
set_option maxHeartbeats 4000000 in
theorem stretch_any (h : Tb w t v room its) (hS : Srt (rls its)) (hl : its.length ≤ 1000) (p : It) : Calls Try.prog 52 #[.pointer (some ⟨t, 0, none⟩), .agg (ics p).toArray] w fun e w' => e = .returned (.tuple #[.int .i64 (loP p.r (rls its)), .int .i64 (hiP p.r (rls its))]) ∧ Below w.heap.size w w' := by
  have hmf : ∀ (fn : Fn) (first cap : Array Value) (w : World), (Instr.makeFunc fn first cap).run Try.prog w = .ok (.func fn first cap) w := fun _ _ _ _ => rfl
  have hb0 := below_alloc w (.cells (ics p).toArray 31)
  have hv := Vb.new 31 w (ics p)
  have h1 := h.below hb0
  obtain ⟨A, c, rfl, hs, hc1, hc2, hc3⟩ := h1.row.form
  have HL := Kp.mk (show ∀ i x, its[i]? = some x → (cmpI (cmpR x.r p.r) 0 < 0 ↔ i < loP p.r (rls its)) by
    intro i x hx
    rw [← lo_iff (r := p.r) hS i x.r (rls_at hx)]
    unfold cmpI
    repeat' split
    all_goals omega)
  have HH := Kp.mk (show ∀ i x, its[i]? = some x → (cmpI (cmpR x.r p.r) 1 < 0 ↔ i < hiP p.r (rls its)) by
    intro i x hx
    rw [← hi_iff (r := p.r) hS i x.r (rls_at hx)]
    unfold cmpI
    repeat' split
    all_goals omega)
  have l1 := lo_le (r := p.r) (l := rls its)
  have l2 := hi_le (r := p.r) (l := rls its)
  rw [rls_len] at l1 l2
  have hblk := h1.blk
  have c2 := hblk.cell 2 rfl
  clear h hc1 hc2 hc3
  generalize loP p.r (rls its) = lo at *
  generalize hiP p.r (rls its) = hi at *
  generalize its.length = n at *
  go_enter Try.func52, Try.ntmps52
  go_upto_region 1 with fail
  generalize w.alloc (.cells (ics p).toArray 31) = w0 at *
  go_wp2_with (first | refine wpList_load_vb (vs := [.int .i64 p.r.k, .int .i64 p.r.pr, .int .i64 p.r.to, .int .i64 p.r.po, .int .i64 p.r.x.v, .int .i64 p.r.x.m, .int .u8 p.r.x.b0, .int .u8 p.r.x.b1, .int .u8 p.r.x.b2, .int .u8 p.r.x.i0, .int .u8 p.r.x.i1, .int .u8 p.r.x.i2, .slice p.A p.r.os.length p.c]) rfl (.tmp 3) rfl rfl hv rfl agg_rule ?_)
  refine (bs_any hs (by omega) p 0 lo l1 HL.out).mono ?_
  rintro e w1 ⟨b, rfl, hb⟩
  have hs1 := hs.below hb
  have c2' := (hblk.below hb hblk.lt).cell 2 rfl
  clear c2
  go_wp2_with fail
  refine (bs_any hs1 (by omega) p 1 hi l2 HH.out).mono ?_
  rintro e w2 ⟨b2, rfl, hb2⟩
  go_wp2_with fail
  go_ret2
  exact ⟨rfl, hb0.trans ((hb.trans (hb2.mono hb.size)).mono hb0.size)⟩
end
end Go.Proofs.Ytcolklkjaifplaa.Oct
