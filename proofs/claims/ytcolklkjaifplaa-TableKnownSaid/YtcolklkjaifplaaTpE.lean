/- Two tables beside each other, the program's and the document's; a rule that is cut. What each call makes of both tables. A call of both tables. Calls of a table as a parameter: a row of them. What both tables answer. The walk of TablePlays. -/
import Derived.Test.YtcolklkjaifplaaRfE
import Derived.Test.YtcolklkjaifplaaTabR
import Derived.Deep.CutRange
import Derived.Test.YtcolklkjaifplaaTabX
import Derived.Test.YtcolklkjaifplaaTabN
import Derived.Test.YtcolklkjaifplaaTabV
namespace Go.Proofs.Ytcolklkjaifplaa.Oct
open Go.RowKit
set_option linter.unusedVariables false
set_option linter.unusedSimpArgs false

section
variable {w w' : World} {t m b : Nat} {vt vm : Value} {room : Int} {its itm : List It}
theorem Ob.outw {x : It} (h : Ob w x) (hl : Liv (fun k => k ≠ b) x) (hg : w.grownBy w' (some b)) : Ob w' x := by
  refine ⟨⟨h.ro.1, h.ro.2.1, h.ro.2.2.1, h.ro.2.2.2.1, fun hn => ?_⟩, fun hn a e => ?_⟩
  · obtain ⟨g, off, e, hb, hc⟩ := h.ro.at_ hn
    have hne := hl hn _ e
    have hkb : w'.heap[g]? = w.heap[g]? := hg.block g hb (fun e => hne (Option.some.inj e))
    refine ⟨g, off, e, Nat.lt_of_lt_of_le hb hg.size, fun j o hj => ?_⟩
    have k : ∀ o, w'.cell? ⟨g, o, none⟩ = w.cell? ⟨g, o, none⟩ := fun o => World.cell?_of_block (a := ⟨g, o, none⟩) hkb
    rw [k, k, k, k]
    exact hc j o hj
  · obtain ⟨cur, hcur⟩ := h.ty hn a e
    have hlt : a.block < w.heap.size := (Array.getElem?_eq_some_iff.1 hcur).1
    exact ⟨cur, (hg.block _ hlt (fun e2 => hl hn a e (Option.some.inj e2))).trans hcur⟩
/-- A block of outputs, that has room for n from off on. -/
def Wr (w : World) (b off n : Nat) : Prop := ∃ cur, w.heap[b]? = some (.cells cur 93 (0, 0)) ∧ off + n * 4 ≤ cur.size
theorem Wr.facts {off n i : Nat} (h : Wr w b off n) (hi : i < n) : (∃ u, w.cell? ⟨b, off + i * 4, none⟩ = some u) ∧ w.frozen? ⟨b, off + i * 4, none⟩ = false := by
  obtain ⟨cur, hc, hs⟩ := h
  obtain ⟨u, hu⟩ : ∃ u, cur[off + i * 4]? = some u := ⟨_, Array.getElem?_eq_getElem (by omega)⟩
  exact ⟨⟨u, by simp [World.cell?, hc, hu]⟩, by simp [World.frozen?, hc]⟩
theorem Wr.set {off n : Nat} (h : Wr w b off n) (j : Nat) (u : Value) : Wr (w.setCell ⟨b, j, none⟩ u) b off n := by
  obtain ⟨cur, hc, hs⟩ := h
  exact ⟨cur.setIfInBounds j u, heap_setCell_same w b j cur _ u hc, by simpa using hs⟩
theorem Wr.below {off n : Nat} (h : Wr w b off n) (hb : Below w.heap.size w w') : Wr w' b off n := by
  obtain ⟨cur, hc, hs⟩ := h
  exact ⟨cur, (hb.block b (Array.getElem?_eq_some_iff.1 hc).1).trans hc, hs⟩
theorem Wr.ne {off n g : Nat} {T : TypeId} {cs : List Value} (h : Wr w b off n) (hv : Vb T w g cs) (hT : T ≠ 93) : g ≠ b := by
  intro e
  subst e
  obtain ⟨cur, hc, _⟩ := h
  rw [show w.heap[g]? = _ from hv] at hc
  have hc := Option.some.inj hc
  injection hc with _ h2 _
  exact hT h2
/-- A rule's outputs may be written to. -/
theorem Ob.wr {x : It} (h : Ob w x) (hn : 0 < x.r.os.length) : ∃ b off, x.A = some ⟨b, off, none⟩ ∧ Wr w b off x.r.os.length ∧ b < w.heap.size := by
  obtain ⟨b, off, e, hb, hc⟩ := h.ro.at_ hn
  obtain ⟨cur, hcur⟩ := h.ty hn _ e
  refine ⟨b, off, e, ⟨cur, hcur, ?_⟩, hb⟩
  obtain ⟨o, ho⟩ : ∃ o, x.r.os[x.r.os.length - 1]? = some o := ⟨_, List.getElem?_eq_getElem (by omega)⟩
  have h3 := (hc _ o ho).2.2.2
  simp only [World.cell?] at h3
  rw [show w.heap[b]? = _ from hcur] at h3
  have := (Array.getElem?_eq_some_iff.1 h3).1
  omega
theorem Mt.other (hM : Mt w m vm room itm) (hT : Tb w t vt room its) (hF : Fr2 t vt.ownBlock w w') (ha : Apt vt vm) : Mt w' m vm room itm := by
  have hmt : m ≠ t := vb_ne hM.blk hT.blk (by decide)
  have hmr : some m ≠ vt.ownBlock := fun e => by
    obtain ⟨_, ys, hr⟩ := hT.row.lt m e.symm
    exact vb_ne hM.blk hr (by decide) rfl
  refine ⟨(hF.block m hM.blk.lt hmt hmr).trans hM.blk, hM.row.keep fun k hk => ?_, fun x hx => (hM.outs x hx).keep hF.size fun b cur hc => ?_⟩
  · obtain ⟨hlt, ys, hr⟩ := hM.row.lt k hk
    exact hF.block k hlt (vb_ne hr hT.blk (by decide)) (fun e => ha k e.symm hk)
  · have hv : Vb 93 w b cur.toList := by simpa [Vb] using hc
    refine hF.block b hv.lt (vb_ne hv hT.blk (by decide)) (fun e => ?_)
    obtain ⟨_, ys, hr⟩ := hT.row.lt b e.symm
    exact vb_ne hv hr (by decide) rfl
theorem Tb.otherM (hT : Tb w t vt room its) (hM : Mt w m vm room itm) (hF : Fr2 m vm.ownBlock w w') (ha : Apt vt vm) : Tb w' t vt room its := by
  have hmt : t ≠ m := vb_ne hT.blk hM.blk (by decide)
  have hmr : some t ≠ vm.ownBlock := fun e => by
    obtain ⟨_, ys, hr⟩ := hM.row.lt t e.symm
    exact vb_ne hT.blk hr (by decide) rfl
  refine ⟨(hF.block t hT.blk.lt hmt hmr).trans hT.blk, hT.row.keep fun k hk => ?_, fun x hx => (hT.outs x hx).keep hF.size fun b cur hc => ?_⟩
  · obtain ⟨hlt, ys, hr⟩ := hT.row.lt k hk
    exact hF.block k hlt (vb_ne hr hM.blk (by decide)) (fun e => ha k hk e.symm)
  · have hv : Vb 93 w b cur.toList := by simpa [Vb] using hc
    refine hF.block b hv.lt (vb_ne hv hM.blk (by decide)) (fun e => ?_)
    obtain ⟨_, ys, hr⟩ := hM.row.lt b e.symm
    exact vb_ne hv hr (by decide) rfl
/-- What is so of a table's rules. -/
def Lf (room : Int) (l : List RuleV) : Prop := Srt l ∧ (∀ x ∈ l, okR x ∧ MB x.x) ∧ (l.length : Int) ≤ room ∧ room ≤ 64
/-- Both tables, at l and k, their blocks from lo on; where their outputs lie. -/
def PX (X : Nat → Prop) (w : World) (lo t m : Nat) (room : Int) (l k : List RuleV) : Prop :=
  ∃ vt its vm itm, Tb w t vt room its ∧ rls its = l ∧ Mt w m vm room itm ∧ rls itm = k ∧ Apt vt vm ∧ (lo ≤ t ∧ lo ≤ m ∧ (∀ k, vt.ownBlock = some k → lo ≤ k) ∧ (∀ k, vm.ownBlock = some k → lo ≤ k)) ∧ (Lf room l ∧ Lf room k) ∧ (∀ y ∈ its, Liv X y) ∧ (∀ y ∈ itm, Liv X y) ∧ ((∀ j, vt.ownBlock = some j → X j) ∧ (∀ j, vm.ownBlock = some j → X j))
variable {lo : Nat} {l k : List RuleV} {X Y : Nat → Prop}
theorem PX.mono (h : PX X w lo t m room l k) (hXY : ∀ k, X k → Y k) : PX Y w lo t m room l k := by
  obtain ⟨vt, its, vm, itm, h1, h2, h3, h4, h5, h6, h7, h8, h9, h10⟩ := h
  exact ⟨vt, its, vm, itm, h1, h2, h3, h4, h5, h6, h7, fun y hy hn a e => hXY _ (h8 y hy hn a e), fun y hy hn a e => hXY _ (h9 y hy hn a e), fun j hj => hXY _ (h10.1 j hj), fun j hj => hXY _ (h10.2 j hj)⟩
theorem PX.low (h : PX X w lo t m room l k) : PX (fun k => k < w.heap.size) w lo t m room l k := by
  obtain ⟨vt, its, vm, itm, h1, h2, h3, h4, h5, h6, h7, h8, h9, h10⟩ := h
  have key : ∀ x, Ob w x → Liv (fun k => k < w.heap.size) x := fun x hx hn a e => by
    obtain ⟨b, off, e2, hb, _⟩ := hx.ro.at_ hn
    rw [e] at e2
    have := Option.some.inj e2
    subst this
    exact hb
  exact ⟨vt, its, vm, itm, h1, h2, h3, h4, h5, h6, h7, fun y hy => key y (h1.outs y hy), fun y hy => key y (h3.outs y hy), fun j hj => (h1.row.lt j hj).1, fun j hj => (h3.row.lt j hj).1⟩
theorem PX.below (h : PX X w lo t m room l k) (hb : Below w.heap.size w w') : PX X w' lo t m room l k := by
  obtain ⟨vt, its, vm, itm, h1, h2, h3, h4, h5, h6, h7, h8, h9, h10⟩ := h
  exact ⟨vt, its, vm, itm, h1.below hb, h2, h3.below hb, h4, h5, h6, h7, h8, h9, h10⟩
theorem PX.facts (h : PX X w lo t m room l k) : Lf room l ∧ Lf room k := by
  obtain ⟨vt, its, vm, itm, h1, h2, h3, h4, h5, h6, h7, h8, h9, h10⟩ := h
  exact h7
/-- An output is written to, of neither table. -/
theorem PX.outw {off n j : Nat} {u : Value} (h : PX (fun k => k ≠ b) w lo t m room l k) (hw : Wr w b off n) : PX (fun k => k ≠ b) (w.setCell ⟨b, j, none⟩ u) lo t m room l k := by
  obtain ⟨vt, its, vm, itm, h1, h2, h3, h4, h5, h6, h7, h8, h9, h10⟩ := h
  have hg := grownBy_set w b j u
  refine ⟨vt, its, vm, itm, ⟨h1.blk.grown hg (hw.ne h1.blk (by decide)), h1.row.keep fun k hk => ?_, fun x hx => (h1.outs x hx).outw (h8 x hx) hg⟩, h2, ⟨h3.blk.grown hg (hw.ne h3.blk (by decide)), h3.row.keep fun k hk => ?_, fun x hx => (h3.outs x hx).outw (h9 x hx) hg⟩, h4, h5, h6, h7, h8, h9, h10⟩
  · obtain ⟨hlt, ys, hr⟩ := h1.row.lt k hk
    exact hg.block k hlt (fun e => hw.ne hr (by decide) (Option.some.inj e))
  · obtain ⟨hlt, ys, hr⟩ := h3.row.lt k hk
    exact hg.block k hlt (fun e => hw.ne hr (by decide) (Option.some.inj e))
/-- Rules in blocks of no table stay. -/
def Rk (X : Nat → Prop) (w w' : World) : Prop := (∀ g cs, ¬ X g → Vb 31 w g cs → Vb 31 w' g cs) ∧ ∀ (b : Nat) (cur : Array Value), w.heap[b]? = some (Obj.cells cur 93 (0, 0)) → w'.heap[b]? = w.heap[b]?
theorem Rk.wr {X : Nat → Prop} {off n : Nat} (h : Rk X w w') (hw : Wr w b off n) : Wr w' b off n := by
  obtain ⟨cur, hc, hs⟩ := hw
  exact ⟨cur, (h.2 b cur hc).trans hc, hs⟩
theorem Ob.px {X : Nat → Prop} {x : It} (h : Ob w x) (hR : Rk X w w') (hz : w.heap.size ≤ w'.heap.size) : Ob w' x := h.keep hz hR.2
/-- What else there is stays. -/
def Stay (lo : Nat) (w w' : World) : Prop := Below lo w w' ∧ ∀ (T : TypeId) g cs, T ≠ 42 → T ≠ 121 → T ≠ 31 → T ≠ 93 → Vb T w g cs → Vb T w' g cs
theorem Stay.refl (hl : lo ≤ w.heap.size) : Stay lo w w := ⟨Below.refl _ _, fun _ _ _ _ _ _ _ h => h⟩
theorem Stay.trans {w2 : World} (h : Stay lo w w') (h2 : Stay lo w' w2) : Stay lo w w2 := ⟨h.1.trans h2.1, fun T g cs a b c d hv => h2.2 T g cs a b c d (h.2 T g cs a b c d hv)⟩
theorem Stay.of_below (hb : Below w.heap.size w w') (hl : lo ≤ w.heap.size) : Stay lo w w' := ⟨hb.mono hl, fun T g cs _ _ _ _ hv => hv.below hb hv.lt⟩
theorem Stay.of_prog (hT : Tb w t vt room its) (hF : Fr2 t vt.ownBlock w w') (h1 : lo ≤ t) (h2 : ∀ k, vt.ownBlock = some k → lo ≤ k) (hl : lo ≤ w.heap.size) : Stay lo w w' := by
  refine ⟨⟨hF.os, hF.tape, hF.output, hF.size, fun k hk => hF.block k (by omega) (by omega) (fun e => by have := h2 k e.symm; omega)⟩, fun T g cs a b c d hv => (hF.block g hv.lt (vb_ne hv hT.blk a) (fun e => ?_)).trans hv⟩
  obtain ⟨_, ys, hr⟩ := hT.row.lt g e.symm
  exact vb_ne hv hr c rfl
theorem Stay.of_ref (hM : Mt w m vm room itm) (hF : Fr2 m vm.ownBlock w w') (h1 : lo ≤ m) (h2 : ∀ k, vm.ownBlock = some k → lo ≤ k) (hl : lo ≤ w.heap.size) : Stay lo w w' := by
  refine ⟨⟨hF.os, hF.tape, hF.output, hF.size, fun k hk => hF.block k (by omega) (by omega) (fun e => by have := h2 k e.symm; omega)⟩, fun T g cs a b c d hv => (hF.block g hv.lt (vb_ne hv hM.blk b) (fun e => ?_)).trans hv⟩
  obtain ⟨_, ys, hr⟩ := hM.row.lt g e.symm
  exact vb_ne hv hr c rfl
theorem Stay.of_outw {off n j : Nat} {u : Value} (hw : Wr w b off n) (hlo : lo ≤ b) : Stay lo w (w.setCell ⟨b, j, none⟩ u) :=
  ⟨(Below.refl _ _).setCell hlo u, fun T g cs _ _ _ d hv => hv.other (hw.ne hv d) j u⟩
end
/-- A rule with twenty outputs at most. -/
def cut20 (r : RuleV) : RuleV := { r with os := r.os.take 20 }
set_option maxRecDepth 100000 in
set_option maxHeartbeats 8000000 in
theorem cutRule_any {w : World} {B : Nat} (x : It) (h : Ro w B x.A x.r.os.length x.c x.r.os) (hB : B ≤ w.heap.size) : Calls Try.prog 89 #[.agg (ics x).toArray] w fun e w' => ∃ y : It, y.r = cut20 x.r ∧ e = .returned (.agg (ics y).toArray) ∧ Ob w' y ∧ Fre w.heap.size y ∧ Below w.heap.size w w' := by
  have hx : Vb 31 ((w.alloc (.cells (ics x).toArray 31)).alloc (.cells (ics zIt).toArray 31)) w.heap.size (ics x) := (Vb.new 31 w (ics x)).alloc _
  have hr : Vb 31 ((w.alloc (.cells (ics x).toArray 31)).alloc (.cells (ics zIt).toArray 31)) (w.heap.size + 1) (ics zIt) := by have := Vb.new 31 (w.alloc (.cells (ics x).toArray 31)) (ics zIt); simpa using this
  have hB0 := below_two w (.cells (ics x).toArray 31) (.cells (ics zIt).toArray 31)
  have hz : ((w.alloc (.cells (ics x).toArray 31)).alloc (.cells (ics zIt).toArray 31)).heap.size = w.heap.size + 2 := by simp
  have h1 := h.below' hB0 hB
  have hmx := h.max
  have hcl := h.le
  have d12 := hx.cell 12 rfl
  rw [show (ics zIt).toArray = #[.int .i64 0, .int .i64 0, .int .i64 0, .int .i64 0, .int .i64 0, .int .i64 0, .int .u8 0, .int .u8 0, .int .u8 0, .int .u8 0, .int .u8 0, .int .u8 0, .slice none 0 0] from rfl] at *
  obtain ⟨N, hN⟩ : ∃ N, N = min x.r.os.length 20 := ⟨_, rfl⟩
  have hr2 := h1.pre N (by omega)
  have HOS := Kp.mk (show x.r.os.take N = (cut20 x.r).os ∧ (cut20 x.r).os.length = N by
    have e : x.r.os.take N = x.r.os.take 20 := by
      rw [hN]
      by_cases hl : x.r.os.length ≤ 20
      · rw [List.take_of_length_le (by omega), List.take_of_length_le hl]
      · rw [Nat.min_eq_right (by omega)]
    exact ⟨e, by show (x.r.os.take 20).length = N; rw [List.length_take]; omega⟩)
  have HN := Kp.mk hN
  clear h h1 hN
  go_enter Try.func89, Try.ntmps89
  go_upto_region 2 with fail
  generalize (w.alloc (.cells (ics x).toArray 31)).alloc (.cells #[.int .i64 0, .int .i64 0, .int .i64 0, .int .i64 0, .int .i64 0, .int .i64 0, .int .u8 0, .int .u8 0, .int .u8 0, .int .u8 0, .int .u8 0, .int .u8 0, .slice none 0 0] 31) = w0 at *
  have hown := Owo.nil w0 w0.heap.size
  have hf0 := hx.free 12
  by_cases hn : (x.r.os.length : Int) < 20
  · have hnn := HN.out
    obtain ⟨n, hnl⟩ : ∃ n, n = x.r.os.length := ⟨_, rfl⟩
    rw [← hnl] at hnn d12 hcl hmx hn
    obtain rfl : N = n := by omega
    clear hnn hnl HN
    obtain ⟨A, hA⟩ : ∃ A, A = x.A := ⟨_, rfl⟩
    rw [← hA] at d12 hr2
    clear hA
    rcases A with _ | ⟨b, off, _ | spot⟩
    · obtain rfl : N = 0 := by have h0 := hr2.2.2.2.1 rfl; have := hr2.le; omega
      go_upto_region 3 with (at_builtin; refine wpList_appendO rfl (.tmp 4) (.tmp 11) rfl rfl hown rfl hr2 (by omega) (Nat.le_refl _) ?_; intro A' c' w1 hO hb hg1; have hx1 := hx.below hb hx.lt; have hr1 := hr.below hb hr.lt; have d12' := hx1.cell 12 rfl; have hf1 := hx1.free; clear d12 hf0)
      rw [Nat.zero_add] at *
      have hx2 : Vb 31 (w1.setCell ⟨w.heap.size, 12, none⟩ (.slice A' 0 c')) w.heap.size [.int .i64 x.r.k, .int .i64 x.r.pr, .int .i64 x.r.to, .int .i64 x.r.po, .int .i64 x.r.x.v, .int .i64 x.r.x.m, .int .u8 x.r.x.b0, .int .u8 x.r.x.b1, .int .u8 x.r.x.b2, .int .u8 x.r.x.i0, .int .u8 x.r.x.i1, .int .u8 x.r.x.i2, .slice A' 0 c'] := hx1.set 12 _
      have hr3 := hr1.other (r := w.heap.size) (by omega) 12 (.slice A' 0 c')
      have hO2 := hO.keep (grownBy_set w1 w.heap.size 12 (.slice A' 0 c')) (by omega)
      have hB2 := (hB0.trans (hb.mono hB0.size)).setCell (p := ⟨w.heap.size, 12, none⟩) (Nat.le_refl _) (.slice A' 0 c')
      clear hx hr hO d12' hf1 hb hx1 hr1 hown hg1
      generalize w1.setCell ⟨w.heap.size, 12, none⟩ (.slice A' 0 c') = w2 at *
      go_wp2_with (first | refine wpList_load_vb (vs := [.int .i64 x.r.k, .int .i64 x.r.pr, .int .i64 x.r.to, .int .i64 x.r.po, .int .i64 x.r.x.v, .int .i64 x.r.x.m, .int .u8 x.r.x.b0, .int .u8 x.r.x.b1, .int .u8 x.r.x.b2, .int .u8 x.r.x.i0, .int .u8 x.r.x.i1, .int .u8 x.r.x.i2, .slice A' 0 c']) rfl (.tmp 1) rfl rfl hx2 rfl agg_rule ?_ | (refine wpList_store_vb (vs := [.int .i64 x.r.k, .int .i64 x.r.pr, .int .i64 x.r.to, .int .i64 x.r.po, .int .i64 x.r.x.v, .int .i64 x.r.x.m, .int .u8 x.r.x.b0, .int .u8 x.r.x.b1, .int .u8 x.r.x.b2, .int .u8 x.r.x.i0, .int .u8 x.r.x.i1, .int .u8 x.r.x.i2, .slice A' 0 c']) rfl (.tmp 2) (.tmp 14) rfl rfl rfl hr3 rfl agg_rule rfl ?_; intro w3 hv3 hg3 hz3))
      refine bodyPost_ret (results_one Try.results89 _ rfl hv3 agg_rule) rfl ?_
      have hO3 := hO2.keep hg3 (by omega)
      rw [List.nil_append, HOS.out.1] at hO3
      obtain ⟨o1, o2⟩ := hO3.ob (r := cut20 x.r)
      refine ⟨⟨cut20 x.r, A', c'⟩, rfl, ?_, o1, fun hn a e => ?_, hB2.grown hg3 hB2.size (fun k e => by simp at e; omega)⟩
      · show Ending.returned (.agg #[.int .i64 x.r.k, .int .i64 x.r.pr, .int .i64 x.r.to, .int .i64 x.r.po, .int .i64 x.r.x.v, .int .i64 x.r.x.m, .int .u8 x.r.x.b0, .int .u8 x.r.x.b1, .int .u8 x.r.x.b2, .int .u8 x.r.x.i0, .int .u8 x.r.x.i1, .int .u8 x.r.x.i2, .slice A' 0 c']) = .returned (.agg #[.int .i64 x.r.k, .int .i64 x.r.pr, .int .i64 x.r.to, .int .i64 x.r.po, .int .i64 x.r.x.v, .int .i64 x.r.x.m, .int .u8 x.r.x.b0, .int .u8 x.r.x.b1, .int .u8 x.r.x.b2, .int .u8 x.r.x.i0, .int .u8 x.r.x.i1, .int .u8 x.r.x.i2, .slice A' (cut20 x.r).os.length c'])
        rw [HOS.out.2]
      · have := o2 hn a e
        omega
    · skip
      go_upto_region 3 with (at_builtin; refine wpList_appendO rfl (.tmp 4) (.tmp 11) rfl rfl hown rfl hr2 (by omega) (Nat.le_refl _) ?_; intro A' c' w1 hO hb hg1; have hx1 := hx.below hb hx.lt; have hr1 := hr.below hb hr.lt; have d12' := hx1.cell 12 rfl; have hf1 := hx1.free; clear d12 hf0)
      rw [Nat.zero_add] at *
      have hx2 : Vb 31 (w1.setCell ⟨w.heap.size, 12, none⟩ (.slice A' N c')) w.heap.size [.int .i64 x.r.k, .int .i64 x.r.pr, .int .i64 x.r.to, .int .i64 x.r.po, .int .i64 x.r.x.v, .int .i64 x.r.x.m, .int .u8 x.r.x.b0, .int .u8 x.r.x.b1, .int .u8 x.r.x.b2, .int .u8 x.r.x.i0, .int .u8 x.r.x.i1, .int .u8 x.r.x.i2, .slice A' N c'] := hx1.set 12 _
      have hr3 := hr1.other (r := w.heap.size) (by omega) 12 (.slice A' N c')
      have hO2 := hO.keep (grownBy_set w1 w.heap.size 12 (.slice A' N c')) (by omega)
      have hB2 := (hB0.trans (hb.mono hB0.size)).setCell (p := ⟨w.heap.size, 12, none⟩) (Nat.le_refl _) (.slice A' N c')
      clear hx hr hO d12' hf1 hb hx1 hr1 hown hg1
      generalize w1.setCell ⟨w.heap.size, 12, none⟩ (.slice A' N c') = w2 at *
      go_wp2_with (first | refine wpList_load_vb (vs := [.int .i64 x.r.k, .int .i64 x.r.pr, .int .i64 x.r.to, .int .i64 x.r.po, .int .i64 x.r.x.v, .int .i64 x.r.x.m, .int .u8 x.r.x.b0, .int .u8 x.r.x.b1, .int .u8 x.r.x.b2, .int .u8 x.r.x.i0, .int .u8 x.r.x.i1, .int .u8 x.r.x.i2, .slice A' N c']) rfl (.tmp 1) rfl rfl hx2 rfl agg_rule ?_ | (refine wpList_store_vb (vs := [.int .i64 x.r.k, .int .i64 x.r.pr, .int .i64 x.r.to, .int .i64 x.r.po, .int .i64 x.r.x.v, .int .i64 x.r.x.m, .int .u8 x.r.x.b0, .int .u8 x.r.x.b1, .int .u8 x.r.x.b2, .int .u8 x.r.x.i0, .int .u8 x.r.x.i1, .int .u8 x.r.x.i2, .slice A' N c']) rfl (.tmp 2) (.tmp 14) rfl rfl rfl hr3 rfl agg_rule rfl ?_; intro w3 hv3 hg3 hz3))
      refine bodyPost_ret (results_one Try.results89 _ rfl hv3 agg_rule) rfl ?_
      have hO3 := hO2.keep hg3 (by omega)
      rw [List.nil_append, HOS.out.1] at hO3
      obtain ⟨o1, o2⟩ := hO3.ob (r := cut20 x.r)
      refine ⟨⟨cut20 x.r, A', c'⟩, rfl, ?_, o1, fun hn a e => ?_, hB2.grown hg3 hB2.size (fun k e => by simp at e; omega)⟩
      · show Ending.returned (.agg #[.int .i64 x.r.k, .int .i64 x.r.pr, .int .i64 x.r.to, .int .i64 x.r.po, .int .i64 x.r.x.v, .int .i64 x.r.x.m, .int .u8 x.r.x.b0, .int .u8 x.r.x.b1, .int .u8 x.r.x.b2, .int .u8 x.r.x.i0, .int .u8 x.r.x.i1, .int .u8 x.r.x.i2, .slice A' N c']) = .returned (.agg #[.int .i64 x.r.k, .int .i64 x.r.pr, .int .i64 x.r.to, .int .i64 x.r.po, .int .i64 x.r.x.v, .int .i64 x.r.x.m, .int .u8 x.r.x.b0, .int .u8 x.r.x.b1, .int .u8 x.r.x.b2, .int .u8 x.r.x.i0, .int .u8 x.r.x.i1, .int .u8 x.r.x.i2, .slice A' (cut20 x.r).os.length c'])
        rw [HOS.out.2]
      · have := o2 hn a e
        omega
    · skip
      go_upto_region 3 with (at_builtin; refine wpList_appendO rfl (.tmp 4) (.tmp 11) rfl rfl hown rfl hr2 (by omega) (Nat.le_refl _) ?_; intro A' c' w1 hO hb hg1; have hx1 := hx.below hb hx.lt; have hr1 := hr.below hb hr.lt; have d12' := hx1.cell 12 rfl; have hf1 := hx1.free; clear d12 hf0)
      rw [Nat.zero_add] at *
      have hx2 : Vb 31 (w1.setCell ⟨w.heap.size, 12, none⟩ (.slice A' N c')) w.heap.size [.int .i64 x.r.k, .int .i64 x.r.pr, .int .i64 x.r.to, .int .i64 x.r.po, .int .i64 x.r.x.v, .int .i64 x.r.x.m, .int .u8 x.r.x.b0, .int .u8 x.r.x.b1, .int .u8 x.r.x.b2, .int .u8 x.r.x.i0, .int .u8 x.r.x.i1, .int .u8 x.r.x.i2, .slice A' N c'] := hx1.set 12 _
      have hr3 := hr1.other (r := w.heap.size) (by omega) 12 (.slice A' N c')
      have hO2 := hO.keep (grownBy_set w1 w.heap.size 12 (.slice A' N c')) (by omega)
      have hB2 := (hB0.trans (hb.mono hB0.size)).setCell (p := ⟨w.heap.size, 12, none⟩) (Nat.le_refl _) (.slice A' N c')
      clear hx hr hO d12' hf1 hb hx1 hr1 hown hg1
      generalize w1.setCell ⟨w.heap.size, 12, none⟩ (.slice A' N c') = w2 at *
      go_wp2_with (first | refine wpList_load_vb (vs := [.int .i64 x.r.k, .int .i64 x.r.pr, .int .i64 x.r.to, .int .i64 x.r.po, .int .i64 x.r.x.v, .int .i64 x.r.x.m, .int .u8 x.r.x.b0, .int .u8 x.r.x.b1, .int .u8 x.r.x.b2, .int .u8 x.r.x.i0, .int .u8 x.r.x.i1, .int .u8 x.r.x.i2, .slice A' N c']) rfl (.tmp 1) rfl rfl hx2 rfl agg_rule ?_ | (refine wpList_store_vb (vs := [.int .i64 x.r.k, .int .i64 x.r.pr, .int .i64 x.r.to, .int .i64 x.r.po, .int .i64 x.r.x.v, .int .i64 x.r.x.m, .int .u8 x.r.x.b0, .int .u8 x.r.x.b1, .int .u8 x.r.x.b2, .int .u8 x.r.x.i0, .int .u8 x.r.x.i1, .int .u8 x.r.x.i2, .slice A' N c']) rfl (.tmp 2) (.tmp 14) rfl rfl rfl hr3 rfl agg_rule rfl ?_; intro w3 hv3 hg3 hz3))
      refine bodyPost_ret (results_one Try.results89 _ rfl hv3 agg_rule) rfl ?_
      have hO3 := hO2.keep hg3 (by omega)
      rw [List.nil_append, HOS.out.1] at hO3
      obtain ⟨o1, o2⟩ := hO3.ob (r := cut20 x.r)
      refine ⟨⟨cut20 x.r, A', c'⟩, rfl, ?_, o1, fun hn a e => ?_, hB2.grown hg3 hB2.size (fun k e => by simp at e; omega)⟩
      · show Ending.returned (.agg #[.int .i64 x.r.k, .int .i64 x.r.pr, .int .i64 x.r.to, .int .i64 x.r.po, .int .i64 x.r.x.v, .int .i64 x.r.x.m, .int .u8 x.r.x.b0, .int .u8 x.r.x.b1, .int .u8 x.r.x.b2, .int .u8 x.r.x.i0, .int .u8 x.r.x.i1, .int .u8 x.r.x.i2, .slice A' N c']) = .returned (.agg #[.int .i64 x.r.k, .int .i64 x.r.pr, .int .i64 x.r.to, .int .i64 x.r.po, .int .i64 x.r.x.v, .int .i64 x.r.x.m, .int .u8 x.r.x.b0, .int .u8 x.r.x.b1, .int .u8 x.r.x.b2, .int .u8 x.r.x.i0, .int .u8 x.r.x.i1, .int .u8 x.r.x.i2, .slice A' (cut20 x.r).os.length c'])
        rw [HOS.out.2]
      · have := o2 hn a e
        omega
  obtain rfl : N = 20 := by have := HN.out; omega
  obtain ⟨b, off, eA, _⟩ := hr2.at_ (by omega)
  rw [eA] at d12 hr2
  by_cases hn2 : x.r.os.length = 20
  · rw [hn2] at d12 hcl hmx hn
    clear HN hn2 hn
    go_upto_region 3 with (at_builtin; refine wpList_appendO rfl (.tmp 4) (.tmp 11) rfl rfl hown rfl hr2 (by omega) (Nat.le_refl _) ?_; intro A' c' w1 hO hb hg1; have hx1 := hx.below hb hx.lt; have hr1 := hr.below hb hr.lt; have d12' := hx1.cell 12 rfl; have hf1 := hx1.free; clear d12 hf0)
    rw [Nat.zero_add] at *
    have hx2 : Vb 31 (w1.setCell ⟨w.heap.size, 12, none⟩ (.slice A' 20 c')) w.heap.size [.int .i64 x.r.k, .int .i64 x.r.pr, .int .i64 x.r.to, .int .i64 x.r.po, .int .i64 x.r.x.v, .int .i64 x.r.x.m, .int .u8 x.r.x.b0, .int .u8 x.r.x.b1, .int .u8 x.r.x.b2, .int .u8 x.r.x.i0, .int .u8 x.r.x.i1, .int .u8 x.r.x.i2, .slice A' 20 c'] := hx1.set 12 _
    have hr3 := hr1.other (r := w.heap.size) (by omega) 12 (.slice A' 20 c')
    have hO2 := hO.keep (grownBy_set w1 w.heap.size 12 (.slice A' 20 c')) (by omega)
    have hB2 := (hB0.trans (hb.mono hB0.size)).setCell (p := ⟨w.heap.size, 12, none⟩) (Nat.le_refl _) (.slice A' 20 c')
    clear hx hr hO d12' hf1 hb hx1 hr1 hown hg1
    generalize w1.setCell ⟨w.heap.size, 12, none⟩ (.slice A' 20 c') = w2 at *
    go_wp2_with (first | refine wpList_load_vb (vs := [.int .i64 x.r.k, .int .i64 x.r.pr, .int .i64 x.r.to, .int .i64 x.r.po, .int .i64 x.r.x.v, .int .i64 x.r.x.m, .int .u8 x.r.x.b0, .int .u8 x.r.x.b1, .int .u8 x.r.x.b2, .int .u8 x.r.x.i0, .int .u8 x.r.x.i1, .int .u8 x.r.x.i2, .slice A' 20 c']) rfl (.tmp 1) rfl rfl hx2 rfl agg_rule ?_ | (refine wpList_store_vb (vs := [.int .i64 x.r.k, .int .i64 x.r.pr, .int .i64 x.r.to, .int .i64 x.r.po, .int .i64 x.r.x.v, .int .i64 x.r.x.m, .int .u8 x.r.x.b0, .int .u8 x.r.x.b1, .int .u8 x.r.x.b2, .int .u8 x.r.x.i0, .int .u8 x.r.x.i1, .int .u8 x.r.x.i2, .slice A' 20 c']) rfl (.tmp 2) (.tmp 14) rfl rfl rfl hr3 rfl agg_rule rfl ?_; intro w3 hv3 hg3 hz3))
    refine bodyPost_ret (results_one Try.results89 _ rfl hv3 agg_rule) rfl ?_
    have hO3 := hO2.keep hg3 (by omega)
    rw [List.nil_append, HOS.out.1] at hO3
    obtain ⟨o1, o2⟩ := hO3.ob (r := cut20 x.r)
    refine ⟨⟨cut20 x.r, A', c'⟩, rfl, ?_, o1, fun hn a e => ?_, hB2.grown hg3 hB2.size (fun k e => by simp at e; omega)⟩
    · show Ending.returned (.agg #[.int .i64 x.r.k, .int .i64 x.r.pr, .int .i64 x.r.to, .int .i64 x.r.po, .int .i64 x.r.x.v, .int .i64 x.r.x.m, .int .u8 x.r.x.b0, .int .u8 x.r.x.b1, .int .u8 x.r.x.b2, .int .u8 x.r.x.i0, .int .u8 x.r.x.i1, .int .u8 x.r.x.i2, .slice A' 20 c']) = .returned (.agg #[.int .i64 x.r.k, .int .i64 x.r.pr, .int .i64 x.r.to, .int .i64 x.r.po, .int .i64 x.r.x.v, .int .i64 x.r.x.m, .int .u8 x.r.x.b0, .int .u8 x.r.x.b1, .int .u8 x.r.x.b2, .int .u8 x.r.x.i0, .int .u8 x.r.x.i1, .int .u8 x.r.x.i2, .slice A' (cut20 x.r).os.length c'])
      rw [HOS.out.2]
    · have := o2 hn a e
      omega
  have hn3 : (20 : Int) < x.r.os.length := by omega
  clear HN hn hn2
  go_upto_region 3 with (at_builtin; refine wpList_appendO rfl (.tmp 4) (.tmp 11) rfl rfl hown rfl hr2 (by omega) (Nat.le_refl _) ?_; intro A' c' w1 hO hb hg1; have hx1 := hx.below hb hx.lt; have hr1 := hr.below hb hr.lt; have d12' := hx1.cell 12 rfl; have hf1 := hx1.free; clear d12 hf0)
  rw [Nat.zero_add] at *
  have hx2 : Vb 31 (w1.setCell ⟨w.heap.size, 12, none⟩ (.slice A' 20 c')) w.heap.size [.int .i64 x.r.k, .int .i64 x.r.pr, .int .i64 x.r.to, .int .i64 x.r.po, .int .i64 x.r.x.v, .int .i64 x.r.x.m, .int .u8 x.r.x.b0, .int .u8 x.r.x.b1, .int .u8 x.r.x.b2, .int .u8 x.r.x.i0, .int .u8 x.r.x.i1, .int .u8 x.r.x.i2, .slice A' 20 c'] := hx1.set 12 _
  have hr3 := hr1.other (r := w.heap.size) (by omega) 12 (.slice A' 20 c')
  have hO2 := hO.keep (grownBy_set w1 w.heap.size 12 (.slice A' 20 c')) (by omega)
  have hB2 := (hB0.trans (hb.mono hB0.size)).setCell (p := ⟨w.heap.size, 12, none⟩) (Nat.le_refl _) (.slice A' 20 c')
  clear hx hr hO d12' hf1 hb hx1 hr1 hown hg1
  generalize w1.setCell ⟨w.heap.size, 12, none⟩ (.slice A' 20 c') = w2 at *
  go_wp2_with (first | refine wpList_load_vb (vs := [.int .i64 x.r.k, .int .i64 x.r.pr, .int .i64 x.r.to, .int .i64 x.r.po, .int .i64 x.r.x.v, .int .i64 x.r.x.m, .int .u8 x.r.x.b0, .int .u8 x.r.x.b1, .int .u8 x.r.x.b2, .int .u8 x.r.x.i0, .int .u8 x.r.x.i1, .int .u8 x.r.x.i2, .slice A' 20 c']) rfl (.tmp 1) rfl rfl hx2 rfl agg_rule ?_ | (refine wpList_store_vb (vs := [.int .i64 x.r.k, .int .i64 x.r.pr, .int .i64 x.r.to, .int .i64 x.r.po, .int .i64 x.r.x.v, .int .i64 x.r.x.m, .int .u8 x.r.x.b0, .int .u8 x.r.x.b1, .int .u8 x.r.x.b2, .int .u8 x.r.x.i0, .int .u8 x.r.x.i1, .int .u8 x.r.x.i2, .slice A' 20 c']) rfl (.tmp 2) (.tmp 14) rfl rfl rfl hr3 rfl agg_rule rfl ?_; intro w3 hv3 hg3 hz3))
  refine bodyPost_ret (results_one Try.results89 _ rfl hv3 agg_rule) rfl ?_
  have hO3 := hO2.keep hg3 (by omega)
  rw [List.nil_append, HOS.out.1] at hO3
  obtain ⟨o1, o2⟩ := hO3.ob (r := cut20 x.r)
  refine ⟨⟨cut20 x.r, A', c'⟩, rfl, ?_, o1, fun hn a e => ?_, hB2.grown hg3 hB2.size (fun k e => by simp at e; omega)⟩
  · show Ending.returned (.agg #[.int .i64 x.r.k, .int .i64 x.r.pr, .int .i64 x.r.to, .int .i64 x.r.po, .int .i64 x.r.x.v, .int .i64 x.r.x.m, .int .u8 x.r.x.b0, .int .u8 x.r.x.b1, .int .u8 x.r.x.b2, .int .u8 x.r.x.i0, .int .u8 x.r.x.i1, .int .u8 x.r.x.i2, .slice A' 20 c']) = .returned (.agg #[.int .i64 x.r.k, .int .i64 x.r.pr, .int .i64 x.r.to, .int .i64 x.r.po, .int .i64 x.r.x.v, .int .i64 x.r.x.m, .int .u8 x.r.x.b0, .int .u8 x.r.x.b1, .int .u8 x.r.x.b2, .int .u8 x.r.x.i0, .int .u8 x.r.x.i1, .int .u8 x.r.x.i2, .slice A' (cut20 x.r).os.length c'])
    rw [HOS.out.2]
  · have := o2 hn a e
    omega
end Go.Proofs.Ytcolklkjaifplaa.Oct

namespace Go.Proofs.Ytcolklkjaifplaa.Oct
open Go.RowKit
set_option linter.unusedVariables false
set_option linter.unusedSimpArgs false

theorem Lf.add {room : Int} {l : List RuleV} {r : RuleV} (h : Lf room l) (hm : MB r.x) : Lf room (addL room r l) := by
  obtain ⟨h1, h2, h3⟩ := add_facts (r := r) h.1 (fun x hx => (h.2.1 x hx).1) h.2.2.1
  refine ⟨h1, fun x hx => ⟨h2 x hx, ?_⟩, h3, h.2.2.2⟩
  unfold addL at hx
  split at hx
  · rcases mem_put hx with rfl | hx
    · exact hm
    · exact (h.2.1 x hx).2
  · exact (h.2.1 x hx).2
theorem Lf.sub {room : Int} {l k : List RuleV} (h : Lf room l) (hs : k.Sublist l) : Lf room k :=
  ⟨List.Pairwise.sublist hs h.1, fun x hx => h.2.1 x (hs.subset hx), by have := hs.length_le; have := h.2.2.1; omega, h.2.2.2⟩
theorem Lf.del {room : Int} {l : List RuleV} {r : RuleV} (h : Lf room l) : Lf room (delL r l) := by
  refine h.sub ?_
  unfold delL
  split
  · exact out_sub h.1
  · exact List.Sublist.refl _
theorem Lf.loose {room : Int} {l : List RuleV} {mk : MaskV} (h : Lf room l) : Lf room (loosL mk l) := h.sub List.filter_sublist
theorem Lf.nil {room : Int} {l : List RuleV} (h : Lf room l) : Lf room [] := h.sub (List.nil_sublist _)
theorem Lf.len {room : Int} {l : List RuleV} (h : Lf room l) : l.length ≤ 1000 := by have := h.2.2.1; have := h.2.2.2; omega
theorem Nw.apt {w : World} {vt vm v' : Value} {us : List It} (ha : Apt vt vm) (hm : RowS w vm us) (hn : Nw w vt v') : Apt v' vm := fun k hk e => by
  rcases hn k hk with h | h
  · exact ha k h e
  · have := (hm.lt k e).1; omega
theorem Nw.aptM {w : World} {vt vm v' : Value} {us : List It} (ha : Apt vt vm) (ht : RowS w vt us) (hn : Nw w vm v') : Apt vt v' := (Nw.apt ha.symm ht hn).symm
theorem Nw.lo {w : World} {v v' : Value} {lo : Nat} (hn : Nw w v v') (h : ∀ k, v.ownBlock = some k → lo ≤ k) (hl : lo ≤ w.heap.size) : ∀ k, v'.ownBlock = some k → lo ≤ k := fun k hk => by
  rcases hn k hk with e | e
  · exact h k e
  · omega
section
variable {w w' : World} {t m B lo : Nat} {room : Int} {l k : List RuleV} {X : Nat → Prop}
/-- The program's table has turned. -/
theorem px_prog {vt v' vm : Value} {its its' itm : List It} {l' : List RuleV} (hT : Tb w t vt room its) (hM : Mt w m vm room itm) (h4 : rls itm = k) (ha : Apt vt vm) (h6 : lo ≤ t ∧ lo ≤ m ∧ (∀ k, vt.ownBlock = some k → lo ≤ k) ∧ (∀ k, vm.ownBlock = some k → lo ≤ k)) (hl : lo ≤ w.heap.size) (hk : Lf room k) (h9 : ∀ y ∈ itm, Liv X y) (hx1 : ∀ j, vt.ownBlock = some j → X j) (hx2 : ∀ j, vm.ownBlock = some j → X j)
    (hT' : Tb w' t v' room its') (hr : rls its' = l') (hl' : Lf room l') (hF : Fr2 t vt.ownBlock w w') (hn : Nw w vt v') (hv : ∀ y ∈ its', Liv (fun b => X b ∨ w.heap.size ≤ b) y) : PX (fun b => X b ∨ w.heap.size ≤ b) w' lo t m room l' k ∧ Stay lo w w' ∧ Rk X w w' :=
  ⟨⟨v', its', vm, itm, hT', hr, hM.other hT hF ha, h4, hn.apt ha hM.row, ⟨h6.1, h6.2.1, hn.lo h6.2.2.1 hl, h6.2.2.2⟩, ⟨hl', hk⟩, hv, fun y hy hn a e => .inl (h9 y hy hn a e), fun j hj => (hn j hj).imp (hx1 j) id, fun j hj => .inl (hx2 j hj)⟩, Stay.of_prog hT hF h6.1 h6.2.2.1 hl, fun g cs hno hv => (hF.block g hv.lt (vb_ne hv hT.blk (by decide)) (fun e => hno (hx1 g e.symm))).trans hv, fun b cur hc => by
    have hv : Vb 93 w b cur.toList := by simpa [Vb] using hc
    exact hF.block b hv.lt (vb_ne hv hT.blk (by decide)) (fun e => by
      obtain ⟨_, ys, hr⟩ := hT.row.lt b e.symm
      exact vb_ne hv hr (by decide) rfl)⟩
theorem px_ref {vt v' vm : Value} {its itm' itm : List It} {k' : List RuleV} (hT : Tb w t vt room its) (hM : Mt w m vm room itm) (h2 : rls its = l) (ha : Apt vt vm) (h6 : lo ≤ t ∧ lo ≤ m ∧ (∀ k, vt.ownBlock = some k → lo ≤ k) ∧ (∀ k, vm.ownBlock = some k → lo ≤ k)) (hl : lo ≤ w.heap.size) (hk : Lf room l) (h8 : ∀ y ∈ its, Liv X y) (hx1 : ∀ j, vt.ownBlock = some j → X j) (hx2 : ∀ j, vm.ownBlock = some j → X j)
    (hM' : Mt w' m v' room itm') (hr : rls itm' = k') (hk' : Lf room k') (hF : Fr2 m vm.ownBlock w w') (hn : Nw w vm v') (hv : ∀ y ∈ itm', Liv (fun b => X b ∨ w.heap.size ≤ b) y) : PX (fun b => X b ∨ w.heap.size ≤ b) w' lo t m room l k' ∧ Stay lo w w' ∧ Rk X w w' :=
  ⟨⟨vt, its, v', itm', hT.otherM hM hF ha, h2, hM', hr, hn.aptM ha hT.row, ⟨h6.1, h6.2.1, h6.2.2.1, hn.lo h6.2.2.2 hl⟩, ⟨hk, hk'⟩, fun y hy hn a e => .inl (h8 y hy hn a e), hv, fun j hj => .inl (hx1 j hj), fun j hj => (hn j hj).imp (hx2 j) id⟩, Stay.of_ref hM hF h6.2.1 h6.2.2.2 hl, fun g cs hno hv => (hF.block g hv.lt (vb_ne hv hM.blk (by decide)) (fun e => hno (hx2 g e.symm))).trans hv, fun b cur hc => by
    have hv : Vb 93 w b cur.toList := by simpa [Vb] using hc
    exact hF.block b hv.lt (vb_ne hv hM.blk (by decide)) (fun e => by
      obtain ⟨_, ys, hr⟩ := hM.row.lt b e.symm
      exact vb_ne hv hr (by decide) rfl)⟩
theorem Lf.gd {its : List It} (h : Lf room (rls its)) : ∀ x ∈ its, Gd x.r := fun x hx => by
  have hm : x.r ∈ rls its := List.mem_map.2 ⟨x, hx, rfl⟩
  exact okR_gd (h.2.1 _ hm).1 (h.2.1 _ hm).2
theorem Lf.len' {its : List It} (h : Lf room (rls its)) : its.length ≤ 1000 ∧ (its.length : Int) ≤ room := by
  have h1 := h.len
  have h2 := h.2.2.1
  rw [rls_len] at h1 h2
  exact ⟨h1, h2⟩
theorem px_add (h : PX X w lo t m room l k) (hl : lo ≤ w.heap.size) (x : It) (hx : Ro w B x.A x.r.os.length x.c x.r.os) (hB : B ≤ w.heap.size) (hxl : x.r.os.length ≤ 1000000000) (hm : MB x.r.x) : Calls Try.prog 10 #[.pointer (some ⟨t, 0, none⟩), .agg (ics x).toArray] w fun e w' => e = .returned (.int .i64 (addE room x.r l)) ∧ PX (fun b => X b ∨ w.heap.size ≤ b) w' lo t m room (addL room x.r l) k ∧ Stay lo w w' ∧ Rk X w w' := by
  obtain ⟨vt, its, vm, itm, h1, rfl, h3, h4, h5, h6, h7, h8, h9, h10⟩ := h
  refine (add_tab h1 h7.1.1 h7.1.len'.1 x hx hB hxl).mono ?_
  rintro e w' ⟨v', its', rfl, hr, hT', hF, hN, hLv⟩
  exact ⟨rfl, px_prog h1 h3 h4 h5 h6 hl h7.2 h9 h10.1 h10.2 hT' hr (h7.1.add hm) hF hN.all (hLv _ (fun y hy hn a e => .inl (h8 y hy hn a e)) (fun b hb => .inr hb))⟩
theorem px_mAdd (h : PX X w lo t m room l k) (hl : lo ≤ w.heap.size) (x : It) (hx : Ro w B x.A x.r.os.length x.c x.r.os) (hB : B ≤ w.heap.size) (hxl : x.r.os.length ≤ 1000000000) (hm : MB x.r.x) : Calls Try.prog 90 #[.pointer (some ⟨m, 0, none⟩), .agg (ics x).toArray] w fun e w' => e = .returned (.int .i64 (addE room x.r k)) ∧ PX (fun b => X b ∨ w.heap.size ≤ b) w' lo t m room l (addL room x.r k) ∧ Stay lo w w' ∧ Rk X w w' := by
  obtain ⟨vt, its, vm, itm, h1, h2, h3, rfl, h5, h6, h7, h8, h9, h10⟩ := h
  refine (mAdd h3 h7.2.1 h7.2.len'.1 h7.2.len'.2 h7.2.gd x hx hB hxl hm).mono ?_
  rintro e w' ⟨v', its', rfl, hr, hM', hF, hN, hLv⟩
  exact ⟨rfl, px_ref h1 h3 h2 h5 h6 hl h7.1 h8 h10.1 h10.2 hM' hr (h7.2.add hm) hF hN (hLv _ (fun y hy hn a e => .inl (h9 y hy hn a e)) (fun b hb => .inr hb))⟩
theorem px_del (h : PX X w lo t m room l k) (hl : lo ≤ w.heap.size) (x : It) (hx : Ro w B x.A x.r.os.length x.c x.r.os) (hB : B ≤ w.heap.size) : Calls Try.prog 11 #[.pointer (some ⟨t, 0, none⟩), .agg (ics x).toArray] w fun e w' => e = .returned (.int .i64 (delE x.r l)) ∧ PX (fun b => X b ∨ w.heap.size ≤ b) w' lo t m room (delL x.r l) k ∧ Stay lo w w' ∧ Rk X w w' := by
  obtain ⟨vt, its, vm, itm, h1, rfl, h3, h4, h5, h6, h7, h8, h9, h10⟩ := h
  refine (del_tab h1 h7.1.1 h7.1.len'.1 x hx hB).mono ?_
  rintro e w' ⟨v', its', rfl, hr, hT', hF, hN, hLv⟩
  exact ⟨rfl, px_prog h1 h3 h4 h5 h6 hl h7.2 h9 h10.1 h10.2 hT' hr h7.1.del hF hN.all (fun y hy hn a e => .inl (h8 y (hLv y hy) hn a e))⟩
theorem px_mDel (h : PX X w lo t m room l k) (hl : lo ≤ w.heap.size) (x : It) (hx : Ro w B x.A x.r.os.length x.c x.r.os) (hB : B ≤ w.heap.size) (hxl : x.r.os.length ≤ 1000000000) (hm : MB x.r.x) : Calls Try.prog 91 #[.pointer (some ⟨m, 0, none⟩), .agg (ics x).toArray] w fun e w' => e = .returned (.int .i64 (delE x.r k)) ∧ PX (fun b => X b ∨ w.heap.size ≤ b) w' lo t m room l (delL x.r k) ∧ Stay lo w w' ∧ Rk X w w' := by
  obtain ⟨vt, its, vm, itm, h1, h2, h3, rfl, h5, h6, h7, h8, h9, h10⟩ := h
  refine (mDel h3 h7.2.1 h7.2.len'.1 h7.2.len'.2 h7.2.gd x hx hB hxl hm).mono ?_
  rintro e w' ⟨v', its', rfl, hr, hM', hF, hN, hLv⟩
  exact ⟨rfl, px_ref h1 h3 h2 h5 h6 hl h7.1 h8 h10.1 h10.2 hM' hr h7.2.del hF hN (hLv _ (fun y hy hn a e => .inl (h9 y hy hn a e)) (fun b hb => .inr hb))⟩
theorem px_loose (h : PX X w lo t m room l k) (hl : lo ≤ w.heap.size) (mk : MaskV) : Calls Try.prog 12 #[.pointer (some ⟨t, 0, none⟩), .agg (ms mk).toArray] w fun e w' => e = .returned (.int .i64 ((l.length - (loosL mk l).length : Nat))) ∧ PX (fun b => X b ∨ w.heap.size ≤ b) w' lo t m room (loosL mk l) k ∧ Stay lo w w' ∧ Rk X w w' := by
  obtain ⟨vt, its, vm, itm, h1, rfl, h3, h4, h5, h6, h7, h8, h9, h10⟩ := h
  refine (loose_tab h1 h7.1.len'.1 mk).mono ?_
  rintro e w' ⟨v', rfl, hT', hF, hN⟩
  have hr := rls_filter (fun r => !loosP mk r) its
  have hlen2 : (its.filter (fun x => !loosP mk x.r)).length = (loosL mk (rls its)).length := by rw [← rls_len, hr]; rfl
  rw [hlen2, rls_len]
  exact ⟨rfl, px_prog h1 h3 h4 h5 h6 hl h7.2 h9 h10.1 h10.2 hT' hr h7.1.loose hF hN.all (fun y hy hn a e => .inl (h8 y (List.mem_filter.1 hy).1 hn a e))⟩
theorem px_mLoose (h : PX X w lo t m room l k) (hl : lo ≤ w.heap.size) (mk : MaskV) : Calls Try.prog 92 #[.pointer (some ⟨m, 0, none⟩), .agg (ms mk).toArray] w fun e w' => e = .returned (.int .i64 ((k.length - (loosL mk k).length : Nat))) ∧ PX (fun b => X b ∨ w.heap.size ≤ b) w' lo t m room l (loosL mk k) ∧ Stay lo w w' ∧ Rk X w w' := by
  obtain ⟨vt, its, vm, itm, h1, h2, h3, rfl, h5, h6, h7, h8, h9, h10⟩ := h
  refine (mLoose h3 h7.2.len'.1 (fun x hx => (h7.2.gd x hx).2) mk).mono ?_
  rintro e w' ⟨v', rfl, hM', hF, hN⟩
  have hr := rls_filter (fun r => !loosP mk r) itm
  have hlen2 : (itm.filter (fun x => !loosP mk x.r)).length = (loosL mk (rls itm)).length := by rw [← rls_len, hr]; rfl
  rw [hlen2, rls_len]
  exact ⟨rfl, px_ref h1 h3 h2 h5 h6 hl h7.1 h8 h10.1 h10.2 hM' hr h7.2.loose hF hN (fun y hy hn a e => .inl (h9 y (List.mem_filter.1 hy).1 hn a e))⟩
theorem px_wipe (h : PX X w lo t m room l k) (hl : lo ≤ w.heap.size) : Calls Try.prog 14 #[.pointer (some ⟨t, 0, none⟩)] w fun e w' => e = .returned (.int .i64 l.length) ∧ PX (fun b => X b ∨ w.heap.size ≤ b) w' lo t m room [] k ∧ Stay lo w w' ∧ Rk X w w' := by
  obtain ⟨vt, its, vm, itm, h1, rfl, h3, h4, h5, h6, h7, h8, h9, h10⟩ := h
  refine (wipe_tab h1).mono ?_
  rintro e w' ⟨rfl, hT', hF⟩
  rw [rls_len]
  exact ⟨rfl, px_prog h1 h3 h4 h5 h6 hl h7.2 h9 h10.1 h10.2 hT' rfl h7.1.nil (Fr2.of_grown' hF) (fun k hk => by simp [Value.ownBlock] at hk) (fun y hy => by simp at hy)⟩
theorem px_mWipe (h : PX X w lo t m room l k) (hl : lo ≤ w.heap.size) : Calls Try.prog 93 #[.pointer (some ⟨m, 0, none⟩)] w fun e w' => e = .returned (.int .i64 k.length) ∧ PX (fun b => X b ∨ w.heap.size ≤ b) w' lo t m room l [] ∧ Stay lo w w' ∧ Rk X w w' := by
  obtain ⟨vt, its, vm, itm, h1, h2, h3, rfl, h5, h6, h7, h8, h9, h10⟩ := h
  refine (mWipe h3).mono ?_
  rintro e w' ⟨rfl, hM', hF⟩
  rw [rls_len]
  exact ⟨rfl, px_ref h1 h3 h2 h5 h6 hl h7.1 h8 h10.1 h10.2 hM' rfl h7.2.nil (Fr2.of_grown' hF) (fun k hk => by simp [Value.ownBlock] at hk) (fun y hy => by simp at hy)⟩
end
end Go.Proofs.Ytcolklkjaifplaa.Oct

namespace Go.Proofs.Ytcolklkjaifplaa.Oct
open Go.RowKit
open Go.Proofs.Ytcolklkjaifplaa.Ser (bringP bring_any bringP_bd)
set_option linter.unusedVariables false
set_option linter.unusedSimpArgs false

theorem agg_do : Agg 50 28 := ⟨⟨_, Try.underlying50, rfl⟩, by kernel_rfl⟩
theorem Rk.of_below {X : Nat → Prop} {w w' : World} (hb : Below w.heap.size w w') : Rk X w w' := ⟨fun g cs _ hv => hv.below hb hv.lt, fun b cur hc => hb.block b (Array.getElem?_eq_some_iff.1 hc).1⟩
set_option maxRecDepth 100000 in
set_option maxHeartbeats 16000000 in
theorem step_any {w : World} {t m lo B : Nat} {room : Int} {l : List RuleV} {X : Nat → Prop} (h : PX X w lo t m room l l) (hlo : lo ≤ w.heap.size) (kd nd a0 a1 p q r : Int) (x : It) (mk : MaskV) (hx : Ro w B x.A x.r.os.length x.c x.r.os) (hB : B ≤ lo) (hm : MB x.r.x) : Calls Try.prog 60 #[.pointer (some ⟨t, 0, none⟩), .pointer (some ⟨m, 0, none⟩), .agg #[.int .i64 kd, .int .i64 nd, .int .i64 x.r.k, .int .i64 x.r.pr, .int .i64 x.r.to, .int .i64 x.r.po, .int .i64 x.r.x.v, .int .i64 x.r.x.m, .int .u8 x.r.x.b0, .int .u8 x.r.x.b1, .int .u8 x.r.x.b2, .int .u8 x.r.x.i0, .int .u8 x.r.x.i1, .int .u8 x.r.x.i2, .slice x.A x.r.os.length x.c, .int .i64 mk.v, .int .i64 mk.m, .int .u8 mk.b0, .int .u8 mk.b1, .int .u8 mk.b2, .int .u8 mk.i0, .int .u8 mk.i1, .int .u8 mk.i2, .int .i64 a0, .int .i64 a1, .int .u8 p, .int .u8 q, .int .u8 r]] w fun e w' => e = .returned (.bool true) ∧ (∃ l', PX (fun _ => True) w' lo t m room l' l') ∧ Stay lo w w' := by
  have hb0 := below_alloc w (.cells #[.int .i64 kd, .int .i64 nd, .int .i64 x.r.k, .int .i64 x.r.pr, .int .i64 x.r.to, .int .i64 x.r.po, .int .i64 x.r.x.v, .int .i64 x.r.x.m, .int .u8 x.r.x.b0, .int .u8 x.r.x.b1, .int .u8 x.r.x.b2, .int .u8 x.r.x.i0, .int .u8 x.r.x.i1, .int .u8 x.r.x.i2, .slice x.A x.r.os.length x.c, .int .i64 mk.v, .int .i64 mk.m, .int .u8 mk.b0, .int .u8 mk.b1, .int .u8 mk.b2, .int .u8 mk.i0, .int .u8 mk.i1, .int .u8 mk.i2, .int .i64 a0, .int .i64 a1, .int .u8 p, .int .u8 q, .int .u8 r] 50)
  have hd : Vb 50 (w.alloc (.cells #[.int .i64 kd, .int .i64 nd, .int .i64 x.r.k, .int .i64 x.r.pr, .int .i64 x.r.to, .int .i64 x.r.po, .int .i64 x.r.x.v, .int .i64 x.r.x.m, .int .u8 x.r.x.b0, .int .u8 x.r.x.b1, .int .u8 x.r.x.b2, .int .u8 x.r.x.i0, .int .u8 x.r.x.i1, .int .u8 x.r.x.i2, .slice x.A x.r.os.length x.c, .int .i64 mk.v, .int .i64 mk.m, .int .u8 mk.b0, .int .u8 mk.b1, .int .u8 mk.b2, .int .u8 mk.i0, .int .u8 mk.i1, .int .u8 mk.i2, .int .i64 a0, .int .i64 a1, .int .u8 p, .int .u8 q, .int .u8 r] 50)) w.heap.size [.int .i64 kd, .int .i64 nd, .int .i64 x.r.k, .int .i64 x.r.pr, .int .i64 x.r.to, .int .i64 x.r.po, .int .i64 x.r.x.v, .int .i64 x.r.x.m, .int .u8 x.r.x.b0, .int .u8 x.r.x.b1, .int .u8 x.r.x.b2, .int .u8 x.r.x.i0, .int .u8 x.r.x.i1, .int .u8 x.r.x.i2, .slice x.A x.r.os.length x.c, .int .i64 mk.v, .int .i64 mk.m, .int .u8 mk.b0, .int .u8 mk.b1, .int .u8 mk.b2, .int .u8 mk.i0, .int .u8 mk.i1, .int .u8 mk.i2, .int .i64 a0, .int .i64 a1, .int .u8 p, .int .u8 q, .int .u8 r] := Vb.new 50 w [.int .i64 kd, .int .i64 nd, .int .i64 x.r.k, .int .i64 x.r.pr, .int .i64 x.r.to, .int .i64 x.r.po, .int .i64 x.r.x.v, .int .i64 x.r.x.m, .int .u8 x.r.x.b0, .int .u8 x.r.x.b1, .int .u8 x.r.x.b2, .int .u8 x.r.x.i0, .int .u8 x.r.x.i1, .int .u8 x.r.x.i2, .slice x.A x.r.os.length x.c, .int .i64 mk.v, .int .i64 mk.m, .int .u8 mk.b0, .int .u8 mk.b1, .int .u8 mk.b2, .int .u8 mk.i0, .int .u8 mk.i1, .int .u8 mk.i2, .int .i64 a0, .int .i64 a1, .int .u8 p, .int .u8 q, .int .u8 r]
  have hP := (PX.low h).below hb0
  have HX := Kp.mk (fun (W : World) (hb : Below lo w W) => hx.below' hb hB)
  have HBl := Kp.mk hB
  have HLO := Kp.mk hlo
  have HM := Kp.mk hm
  have hS := Stay.of_below hb0 hlo
  clear h hx hB hm hlo
  go_enter Try.func60, Try.ntmps60
  go_upto_region 1 with fail
  have HZ0 := Kp.mk (show (w.alloc (.cells #[.int .i64 kd, .int .i64 nd, .int .i64 x.r.k, .int .i64 x.r.pr, .int .i64 x.r.to, .int .i64 x.r.po, .int .i64 x.r.x.v, .int .i64 x.r.x.m, .int .u8 x.r.x.b0, .int .u8 x.r.x.b1, .int .u8 x.r.x.b2, .int .u8 x.r.x.i0, .int .u8 x.r.x.i1, .int .u8 x.r.x.i2, .slice x.A x.r.os.length x.c, .int .i64 mk.v, .int .i64 mk.m, .int .u8 mk.b0, .int .u8 mk.b1, .int .u8 mk.b2, .int .u8 mk.i0, .int .u8 mk.i1, .int .u8 mk.i2, .int .i64 a0, .int .i64 a1, .int .u8 p, .int .u8 q, .int .u8 r] 50)).heap.size = w.heap.size + 1 by simp)
  generalize w.alloc (.cells #[.int .i64 kd, .int .i64 nd, .int .i64 x.r.k, .int .i64 x.r.pr, .int .i64 x.r.to, .int .i64 x.r.po, .int .i64 x.r.x.v, .int .i64 x.r.x.m, .int .u8 x.r.x.b0, .int .u8 x.r.x.b1, .int .u8 x.r.x.b2, .int .u8 x.r.x.i0, .int .u8 x.r.x.i1, .int .u8 x.r.x.i2, .slice x.A x.r.os.length x.c, .int .i64 mk.v, .int .i64 mk.m, .int .u8 mk.b0, .int .u8 mk.b1, .int .u8 mk.b2, .int .u8 mk.i0, .int .u8 mk.i1, .int .u8 mk.i2, .int .i64 a0, .int .i64 a1, .int .u8 p, .int .u8 q, .int .u8 r] 50) = w0 at *
  obtain ⟨gd, hgd⟩ : ∃ g, g = w.heap.size := ⟨_, rfl⟩
  rw [← hgd] at hd ⊢
  have HGD := Kp.mk hgd
  clear hgd hb0
  go_upto_region 2 with (refine wpList_load_vb (vs := [.int .i64 x.r.k, .int .i64 x.r.pr, .int .i64 x.r.to, .int .i64 x.r.po, .int .i64 x.r.x.v, .int .i64 x.r.x.m, .int .u8 x.r.x.b0, .int .u8 x.r.x.b1, .int .u8 x.r.x.b2, .int .u8 x.r.x.i0, .int .u8 x.r.x.i1, .int .u8 x.r.x.i2, .slice x.A x.r.os.length x.c]) rfl (.tmp 10) rfl rfl hd rfl agg_rule ?_)
  refine (cutRule_any x (HX.out w0 hS.1) (Nat.le_trans HBl.out (Nat.le_trans HLO.out hS.1.size))).mono ?_
  rintro e w1 ⟨y, hyr, rfl, hyo, hyf, hb1⟩
  have HYR := Kp.mk hyr
  clear hyr
  rw [show (ics y).toArray = #[.int .i64 y.r.k, .int .i64 y.r.pr, .int .i64 y.r.to, .int .i64 y.r.po, .int .i64 y.r.x.v, .int .i64 y.r.x.m, .int .u8 y.r.x.b0, .int .u8 y.r.x.b1, .int .u8 y.r.x.b2, .int .u8 y.r.x.i0, .int .u8 y.r.x.i1, .int .u8 y.r.x.i2, .slice y.A y.r.os.length y.c] from rfl]
  go_upto_region 2 with fail
  have hb2 := below_alloc w1 (.cells #[.int .i64 y.r.k, .int .i64 y.r.pr, .int .i64 y.r.to, .int .i64 y.r.po, .int .i64 y.r.x.v, .int .i64 y.r.x.m, .int .u8 y.r.x.b0, .int .u8 y.r.x.b1, .int .u8 y.r.x.b2, .int .u8 y.r.x.i0, .int .u8 y.r.x.i1, .int .u8 y.r.x.i2, .slice y.A y.r.os.length y.c] 31)
  have hgr : Vb 31 (w1.alloc (.cells #[.int .i64 y.r.k, .int .i64 y.r.pr, .int .i64 y.r.to, .int .i64 y.r.po, .int .i64 y.r.x.v, .int .i64 y.r.x.m, .int .u8 y.r.x.b0, .int .u8 y.r.x.b1, .int .u8 y.r.x.b2, .int .u8 y.r.x.i0, .int .u8 y.r.x.i1, .int .u8 y.r.x.i2, .slice y.A y.r.os.length y.c] 31)) w1.heap.size [.int .i64 y.r.k, .int .i64 y.r.pr, .int .i64 y.r.to, .int .i64 y.r.po, .int .i64 y.r.x.v, .int .i64 y.r.x.m, .int .u8 y.r.x.b0, .int .u8 y.r.x.b1, .int .u8 y.r.x.b2, .int .u8 y.r.x.i0, .int .u8 y.r.x.i1, .int .u8 y.r.x.i2, .slice y.A y.r.os.length y.c] := Vb.new 31 w1 [.int .i64 y.r.k, .int .i64 y.r.pr, .int .i64 y.r.to, .int .i64 y.r.po, .int .i64 y.r.x.v, .int .i64 y.r.x.m, .int .u8 y.r.x.b0, .int .u8 y.r.x.b1, .int .u8 y.r.x.b2, .int .u8 y.r.x.i0, .int .u8 y.r.x.i1, .int .u8 y.r.x.i2, .slice y.A y.r.os.length y.c]
  have hz2 : (w1.alloc (.cells #[.int .i64 y.r.k, .int .i64 y.r.pr, .int .i64 y.r.to, .int .i64 y.r.po, .int .i64 y.r.x.v, .int .i64 y.r.x.m, .int .u8 y.r.x.b0, .int .u8 y.r.x.b1, .int .u8 y.r.x.b2, .int .u8 y.r.x.i0, .int .u8 y.r.x.i1, .int .u8 y.r.x.i2, .slice y.A y.r.os.length y.c] 31)).heap.size = w1.heap.size + 1 := by simp
  generalize w1.alloc (.cells #[.int .i64 y.r.k, .int .i64 y.r.pr, .int .i64 y.r.to, .int .i64 y.r.po, .int .i64 y.r.x.v, .int .i64 y.r.x.m, .int .u8 y.r.x.b0, .int .u8 y.r.x.b1, .int .u8 y.r.x.b2, .int .u8 y.r.x.i0, .int .u8 y.r.x.i1, .int .u8 y.r.x.i2, .slice y.A y.r.os.length y.c] 31) = w2 at *
  have hb12 := hb1.trans (hb2.mono hb1.size)
  have hS2 := hS.trans (Stay.of_below hb12 (Nat.le_trans HLO.out hS.1.size))
  have hP2 := hP.below hb12
  have hd2 := hd.below hb12 hd.lt
  have hyo2 := hyo.below hb2
  have HYF := Kp.mk (show ∀ b off, 0 < y.r.os.length → y.A = some ⟨b, off, none⟩ → w.heap.size < b + 1 ∧ w0.heap.size ≤ b ∧ b < w1.heap.size from fun b off hn e => by
    have h1 : w0.heap.size ≤ b := hyf hn _ e
    obtain ⟨b2, off2, e2, h2, _⟩ := hyo.ro.at_ hn
    rw [e] at e2
    have e2 := Option.some.inj e2
    injection e2 with e3 _ _
    subst e3
    have := HZ0.out
    exact ⟨by omega, h1, h2⟩)
  have HZ2 := Kp.mk (show w1.heap.size < w2.heap.size ∧ w.heap.size < w1.heap.size from ⟨by omega, by have := hb1.size; have := HZ0.out; omega⟩)
  have HYM := Kp.mk (show MB y.r.x ∧ y.r.os.length ≤ 1000000000 by rw [HYR.out]; exact ⟨HM.out, by show (x.r.os.take 20).length ≤ _; rw [List.length_take]; omega⟩)
  obtain ⟨gr, hgr2⟩ : ∃ g, g = w1.heap.size := ⟨_, rfl⟩
  rw [← hgr2] at hgr ⊢
  have HGR := Kp.mk hgr2
  have hlo2 : lo ≤ w2.heap.size := by have := HLO.out; have := HZ2.out; omega
  clear hS hP hd hyo hyf hb1 hb2 hb12 hz2 hgr2
  have hbk := bringP_bd kd 4 (by omega)
  have hbr := bring_any kd 4 w2 (by omega) (by omega)
  have hcs : bringP kd 4 = 0 ∨ bringP kd 4 = 1 ∨ bringP kd 4 = 2 ∨ bringP kd 4 = 3 := by omega
  have c0 := hd2.cell 0 rfl
  clear hbk
  rcases hcs with hk | hk | hk | hk
  · rw [hk] at hbr
    clear hk
    go_upto_region 4 with (refine hbr.mono ?_; rintro e w' ⟨rfl, rfl⟩)
    clear c0 hbr
    go_upto_region 5 with (refine wpList_load_vb (vs := [.int .i64 y.r.k, .int .i64 y.r.pr, .int .i64 y.r.to, .int .i64 y.r.po, .int .i64 y.r.x.v, .int .i64 y.r.x.m, .int .u8 y.r.x.b0, .int .u8 y.r.x.b1, .int .u8 y.r.x.b2, .int .u8 y.r.x.i0, .int .u8 y.r.x.i1, .int .u8 y.r.x.i2, .slice y.A y.r.os.length y.c]) rfl (.tmp 7) rfl rfl hgr rfl agg_rule ?_)
    refine (px_add hP2 hlo2 y hyo2.ro (Nat.le_refl _) HYM.out.2 HYM.out.1).mono ?_
    rintro e w3 ⟨rfl, hP3, hS3, hR3⟩
    have hgr3 := hR3.1 gr _ (by have := HZ2.out; have := HGR.out; omega) hgr
    have hS23 := hS2.trans hS3
    have hd3 := hS3.2 _ _ _ (by decide) (by decide) (by decide) (by decide) hd2
    have HWR := Kp.mk (fun hn => hyo2.wr hn)
    have HR3 := Kp.mk hR3
    clear hP2 hS2 hd2 hyo2 hR3 hgr hlo2
    generalize hee : addE room y.r l = ee at *
    have HEE := Kp.mk hee
    clear hee
    go_upto_region 6 with fail
    by_cases hn : 0 < y.r.os.length
    · obtain ⟨b, off, eA, hw, hbl⟩ := HWR.out hn
      have hbn := HYF.out b off hn eA
      have hw3 := HR3.out.wr hw
      have hPn : PX (fun k => k ≠ b) w3 lo t m room (addL room y.r l) l := hP3.mono (fun k hk e => by rcases hk with hk | hk <;> omega)
      have HBN := Kp.mk (show lo ≤ b by have := HLO.out; omega)
      obtain ⟨N, hN⟩ : ∃ N, N = y.r.os.length := ⟨_, rfl⟩
      rw [eA, ← hN] at hgr3
      rw [← hN] at hw3
      have hNm : (N : Int) ≤ 1000000000 := by have := HYM.out.2; omega
      clear hP3 hn eA hw hbl hbn hN HWR
      go_loopw [9] (fun s9 wr => ∃ i : Nat, s9 = .int .i64 i ∧ i ≤ N ∧ PX (fun k => k ≠ b) wr lo t m room (addL room y.r l) l ∧ Vb 31 wr gr [.int .i64 y.r.k, .int .i64 y.r.pr, .int .i64 y.r.to, .int .i64 y.r.po, .int .i64 y.r.x.v, .int .i64 y.r.x.m, .int .u8 y.r.x.b0, .int .u8 y.r.x.b1, .int .u8 y.r.x.b2, .int .u8 y.r.x.i0, .int .u8 y.r.x.i1, .int .u8 y.r.x.i2, .slice (some ⟨b, off, none⟩) N y.c] ∧ Wr wr b off N ∧ Vb 50 wr gd [.int .i64 kd, .int .i64 nd, .int .i64 x.r.k, .int .i64 x.r.pr, .int .i64 x.r.to, .int .i64 x.r.po, .int .i64 x.r.x.v, .int .i64 x.r.x.m, .int .u8 x.r.x.b0, .int .u8 x.r.x.b1, .int .u8 x.r.x.b2, .int .u8 x.r.x.i0, .int .u8 x.r.x.i1, .int .u8 x.r.x.i2, .slice x.A x.r.os.length x.c, .int .i64 mk.v, .int .i64 mk.m, .int .u8 mk.b0, .int .u8 mk.b1, .int .u8 mk.b2, .int .u8 mk.i0, .int .u8 mk.i1, .int .u8 mk.i2, .int .i64 a0, .int .i64 a1, .int .u8 p, .int .u8 q, .int .u8 r] ∧ Stay lo w wr) (fun s9 _ => N - (intOf s9).toNat)
      case atStart => exact ⟨0, rfl, Nat.zero_le _, hPn, hgr3, hw3, hd3, hS23⟩
      case round =>
        clear hPn hgr3 hw3 hd3 hS23
        obtain ⟨i, rfl, hi, hPq, hgr3, hw3, hdq, hSq⟩ := hrel
        have c12 := hgr3.cell 12 rfl
        by_cases hlt : (i : Int) < N
        · obtain ⟨⟨u, hu⟩, hf⟩ := hw3.facts (i := i) (by omega)
          have hP7 := Kp.mk (hPq.outw (j := off + i * 4) (u := .int .i64 (-9)) hw3)
          have hg7 := Kp.mk (hgr3.other (hw3.ne hgr3 (by decide)) (off + i * 4) (.int .i64 (-9)))
          have hd7 := Kp.mk (hdq.other (hw3.ne hdq (by decide)) (off + i * 4) (.int .i64 (-9)))
          have hw7 := Kp.mk (hw3.set (off + i * 4) (.int .i64 (-9)))
          have hS7 := Kp.mk (hSq.trans (Stay.of_outw (j := off + i * 4) (u := .int .i64 (-9)) hw3 HBN.out))
          clear hPq hgr3 hw3 hdq hSq
          go_wp2_with fail
          go_roundw
          case rel => exact ⟨i + 1, by go_num, by omega, hP7.out, hg7.out, hw7.out, hd7.out, hS7.out⟩
          case measure => simp [intOf]; omega
        obtain rfl : i = N := by omega
        clear hgr3 hw3
        go_upto_region 9 with fail
        generalize wr = wq at *
        clear c12
        have hlo4 : lo ≤ wq.heap.size := Nat.le_trans HLO.out hSq.1.size
        go_upto_region 10 with (refine wpList_load_vb (vs := [.int .i64 x.r.k, .int .i64 x.r.pr, .int .i64 x.r.to, .int .i64 x.r.po, .int .i64 x.r.x.v, .int .i64 x.r.x.m, .int .u8 x.r.x.b0, .int .u8 x.r.x.b1, .int .u8 x.r.x.b2, .int .u8 x.r.x.i0, .int .u8 x.r.x.i1, .int .u8 x.r.x.i2, .slice x.A x.r.os.length x.c]) rfl (.tmp 35) rfl rfl hdq rfl agg_rule ?_)
        refine (cutRule_any x (HX.out wq hSq.1) (Nat.le_trans HBl.out hlo4)).mono ?_
        rintro e w5 ⟨y2, hy2, rfl, hyo5, _, hb5⟩
        have hP5 := hPq.below hb5
        have hS5 := hSq.trans (Stay.of_below hb5 hlo4)
        have HY2 := Kp.mk (show y2.r = y.r by rw [hy2, HYR.out])
        have HYM2 := Kp.mk (show MB y2.r.x ∧ y2.r.os.length ≤ 1000000000 by rw [HY2.out]; exact HYM.out)
        clear hPq hSq hdq hy2
        go_wp2_with fail
        refine (px_mAdd hP5 (Nat.le_trans hlo4 hb5.size) y2 hyo5.ro (Nat.le_refl _) HYM2.out.2 HYM2.out.1).mono ?_
        rintro e w6 ⟨rfl, hP6, hS6, _⟩
        rw [HY2.out, HEE.out]
        rw [HY2.out] at hP6
        have HP6 := Kp.mk (hP6.mono (Y := fun _ => True) (fun _ _ => trivial))
        have HS6 := Kp.mk (hS5.trans hS6)
        have n0 : (ee == ee) = true := by simp
        clear hP5 hS5 hb5 hP6 hS6 hyo5
        go_wp2_with fail
        go_ret
        exact ⟨rfl, ⟨_, HP6.out⟩, HS6.out⟩
    have hn0 : y.r.os.length = 0 := by omega
    rw [hn0] at hgr3
    have c12 := hgr3.cell 12 rfl
    clear hn0 hn hgr3
    refine wp_loop_rounds (0 + 1) ?_
    rw [rounds_succ]
    go_upto_region 9 with fail
    have hPq := hP3
    have hSq := hS23
    have hdq := hd3
    clear hP3 hS23 hd3 c12
    generalize w3 = wq at *
    have hlo4 : lo ≤ wq.heap.size := Nat.le_trans HLO.out hSq.1.size
    go_upto_region 10 with (refine wpList_load_vb (vs := [.int .i64 x.r.k, .int .i64 x.r.pr, .int .i64 x.r.to, .int .i64 x.r.po, .int .i64 x.r.x.v, .int .i64 x.r.x.m, .int .u8 x.r.x.b0, .int .u8 x.r.x.b1, .int .u8 x.r.x.b2, .int .u8 x.r.x.i0, .int .u8 x.r.x.i1, .int .u8 x.r.x.i2, .slice x.A x.r.os.length x.c]) rfl (.tmp 35) rfl rfl hdq rfl agg_rule ?_)
    refine (cutRule_any x (HX.out wq hSq.1) (Nat.le_trans HBl.out hlo4)).mono ?_
    rintro e w5 ⟨y2, hy2, rfl, hyo5, _, hb5⟩
    have hP5 := hPq.below hb5
    have hS5 := hSq.trans (Stay.of_below hb5 hlo4)
    have HY2 := Kp.mk (show y2.r = y.r by rw [hy2, HYR.out])
    have HYM2 := Kp.mk (show MB y2.r.x ∧ y2.r.os.length ≤ 1000000000 by rw [HY2.out]; exact HYM.out)
    clear hPq hSq hdq hy2
    go_wp2_with fail
    refine (px_mAdd hP5 (Nat.le_trans hlo4 hb5.size) y2 hyo5.ro (Nat.le_refl _) HYM2.out.2 HYM2.out.1).mono ?_
    rintro e w6 ⟨rfl, hP6, hS6, _⟩
    rw [HY2.out, HEE.out]
    rw [HY2.out] at hP6
    have HP6 := Kp.mk (hP6.mono (Y := fun _ => True) (fun _ _ => trivial))
    have HS6 := Kp.mk (hS5.trans hS6)
    have n0 : (ee == ee) = true := by simp
    clear hP5 hS5 hb5 hP6 hS6 hyo5
    go_wp2_with fail
    go_ret
    exact ⟨rfl, ⟨_, HP6.out⟩, HS6.out⟩
  · rw [hk] at hbr
    clear hk
    go_upto_region 11 with (refine hbr.mono ?_; rintro e w' ⟨rfl, rfl⟩)
    clear c0 hbr
    have hbd := (Below.refl w2.heap.size w2).drew
    have hS0 : (fun W => Vb 31 W gr [.int .i64 y.r.k, .int .i64 y.r.pr, .int .i64 y.r.to, .int .i64 y.r.po, .int .i64 y.r.x.v, .int .i64 y.r.x.m, .int .u8 y.r.x.b0, .int .u8 y.r.x.b1, .int .u8 y.r.x.b2, .int .u8 y.r.x.i0, .int .u8 y.r.x.i1, .int .u8 y.r.x.i2, .slice y.A y.r.os.length y.c]) w2.drew := hgr
    have hP3 := hP2.below hbd
    have hyo3 := hyo2.below hbd
    have hS3 := hS2.trans (Stay.of_below hbd hlo2)
    have hlo3 : lo ≤ w2.drew.heap.size := hlo2
    have HZ3 := Kp.mk (show w2.drew.heap.size = w2.heap.size from rfl)
    refine wp_region_held_drew (S := fun W => Vb 31 W gr [.int .i64 y.r.k, .int .i64 y.r.pr, .int .i64 y.r.to, .int .i64 y.r.po, .int .i64 y.r.x.v, .int .i64 y.r.x.m, .int .u8 y.r.x.b0, .int .u8 y.r.x.b1, .int .u8 y.r.x.b2, .int .u8 y.r.x.i0, .int .u8 y.r.x.i1, .int .u8 y.r.x.i2, .slice y.A y.r.os.length y.c]) (by kernel_rfl) hS0 (fun _ => ?_)
    clear hgr hP2 hyo2 hS2 hlo2 hbd hd2
    generalize w2.drew = u0 at *
    refine takeD (i := 0) (v := .pointer (some ⟨t, 0, none⟩)) (some 42) rfl rfl (by kernel_rfl) (by kernel_rfl) (by kernel_rfl) (fun _ _ _ h => h) (Or.inl ⟨by rfl, ?_⟩) hS0 ?_
    · rintro w' _
      go_simp
    try simp only [Act.put, List.setIfInBounds_toArray, List.set_cons_zero, List.set_cons_succ]
    refine takeD (i := 1) (v := .agg #[.int .i64 y.r.k, .int .i64 y.r.pr, .int .i64 y.r.to, .int .i64 y.r.po, .int .i64 y.r.x.v, .int .i64 y.r.x.m, .int .u8 y.r.x.b0, .int .u8 y.r.x.b1, .int .u8 y.r.x.b2, .int .u8 y.r.x.i0, .int .u8 y.r.x.i1, .int .u8 y.r.x.i2, .slice y.A y.r.os.length y.c]) (some 43) rfl rfl (by kernel_rfl) (by kernel_rfl) (by kernel_rfl) (fun _ _ _ h => h) (Or.inl ⟨by rfl, ?_⟩) hS0 ?_
    · rintro w' s0
      obtain ⟨d0, d1, d2, d3, d4, d5, d6, d7, d8, d9, d10, d11, d12⟩ := s0.c13
      go_simp
    try simp only [Act.put, List.setIfInBounds_toArray, List.set_cons_zero, List.set_cons_succ]
    refine takeD (i := 3) (v := .pointer (some ⟨m, 0, none⟩)) (some 45) rfl rfl (by kernel_rfl) (by kernel_rfl) (by kernel_rfl) (fun _ _ _ h => h) (Or.inl ⟨by rfl, ?_⟩) hS0 ?_
    · rintro w' _
      go_simp
    try simp only [Act.put, List.setIfInBounds_toArray, List.set_cons_zero, List.set_cons_succ]
    refine takeD (i := 4) (v := .agg #[.int .i64 y.r.k, .int .i64 y.r.pr, .int .i64 y.r.to, .int .i64 y.r.po, .int .i64 y.r.x.v, .int .i64 y.r.x.m, .int .u8 y.r.x.b0, .int .u8 y.r.x.b1, .int .u8 y.r.x.b2, .int .u8 y.r.x.i0, .int .u8 y.r.x.i1, .int .u8 y.r.x.i2, .slice y.A y.r.os.length y.c]) (some 46) rfl rfl (by kernel_rfl) (by kernel_rfl) (by kernel_rfl) (fun _ _ _ h => h) (Or.inl ⟨by rfl, ?_⟩) hS0 ?_
    · rintro w' s0
      obtain ⟨d0, d1, d2, d3, d4, d5, d6, d7, d8, d9, d10, d11, d12⟩ := s0.c13
      go_simp
    try simp only [Act.put, List.setIfInBounds_toArray, List.set_cons_zero, List.set_cons_succ]
    refine wpAnyH_ready (rs := [2]) (by kernel_rfl) (by simp) ?_
    refine AllReadyH.cons rfl (fun K hK => ?_) AllReadyH.nil
    try rw [if_pos (by rfl)]
    go_simp
    go_at_call 11
    refine (px_del hP3 hlo3 y hyo3.ro (Nat.le_refl _)).mono ?_
    rintro e u1 ⟨rfl, hP4, hS4, hR4⟩
    have hS1 : (fun W => Vb 31 W gr [.int .i64 y.r.k, .int .i64 y.r.pr, .int .i64 y.r.to, .int .i64 y.r.po, .int .i64 y.r.x.v, .int .i64 y.r.x.m, .int .u8 y.r.x.b0, .int .u8 y.r.x.b1, .int .u8 y.r.x.b2, .int .u8 y.r.x.i0, .int .u8 y.r.x.i1, .int .u8 y.r.x.i2, .slice y.A y.r.os.length y.c]) u1 := hR4.1 gr _ (by have := HZ2.out; have := HGR.out; omega) hS0
    have hro4 := Kp.mk (hyo3.ro)
    refine hK.out _ _ hS1 (fun _ => ?_)
    clear hK K hS0
    try simp only [Act.put, List.setIfInBounds_toArray, List.set_cons_zero, List.set_cons_succ]
    have HB4 := Kp.mk (show Ob u1 y from hyo3.px hR4 hS4.1.size)
    refine wpAnyH_ready (rs := [5]) (by kernel_rfl) (by simp) ?_
    refine AllReadyH.cons rfl (fun K hK => ?_) AllReadyH.nil
    try rw [if_pos (by rfl)]
    go_simp
    go_at_call 91
    refine (px_mDel hP4 (Nat.le_trans hlo3 hS4.1.size) y HB4.out.ro (Nat.le_refl _) HYM.out.2 HYM.out.1).mono ?_
    rintro e u2 ⟨rfl, hP5, hS5, hR5⟩
    have hS2x : (fun W => Vb 31 W gr [.int .i64 y.r.k, .int .i64 y.r.pr, .int .i64 y.r.to, .int .i64 y.r.po, .int .i64 y.r.x.v, .int .i64 y.r.x.m, .int .u8 y.r.x.b0, .int .u8 y.r.x.b1, .int .u8 y.r.x.b2, .int .u8 y.r.x.i0, .int .u8 y.r.x.i1, .int .u8 y.r.x.i2, .slice y.A y.r.os.length y.c]) u2 := hR5.1 gr _ (by have := HZ2.out; have := HGR.out; have := HZ3.out; omega) hS1
    have HP5 := Kp.mk (hP5.mono (Y := fun _ => True) (fun _ _ => trivial))
    have HS5 := Kp.mk (hS3.trans (hS4.trans hS5))
    refine hK.out _ _ hS2x (fun _ => ?_)
    clear hK K hS1 hP3 hP4 hP5 hS3 hS4 hS5 hyo3 hro4 hR4 hR5
    try simp only [Act.put, List.setIfInBounds_toArray, List.set_cons_zero, List.set_cons_succ]
    refine takeD (i := 6) (v := .bool true) (some 48) rfl rfl (by kernel_rfl) (by kernel_rfl) (by kernel_rfl) (fun _ _ _ h => h) (Or.inl ⟨by rfl, ?_⟩) hS2x ?_
    · rintro w' _
      have he : (delE y.r l == delE y.r l) = true := by simp
      go_simp
    try simp only [Act.put, List.setIfInBounds_toArray, List.set_cons_zero, List.set_cons_succ]
    refine takeD (i := 7) (v := .bool true) (some 6) rfl rfl (by kernel_rfl) (by kernel_rfl) (by kernel_rfl) (fun _ _ _ h => h) (Or.inl ⟨by rfl, ?_⟩) hS2x ?_
    · rintro w' _
      go_simp
    try simp only [Act.put, List.setIfInBounds_toArray, List.set_cons_zero, List.set_cons_succ]
    refine wpAnyH_done (by kernel_rfl) ?_ _
    clear hS2x
    go_wp2_with fail
    go_ret
    exact ⟨rfl, ⟨_, HP5.out⟩, HS5.out⟩
  · rw [hk] at hbr
    clear hk
    go_upto_region 13 with (refine hbr.mono ?_; rintro e w' ⟨rfl, rfl⟩)
    clear c0 hbr
    have hbd := (Below.refl w2.heap.size w2).drew
    have hS0 : (fun W => Vb 50 W gd [.int .i64 kd, .int .i64 nd, .int .i64 x.r.k, .int .i64 x.r.pr, .int .i64 x.r.to, .int .i64 x.r.po, .int .i64 x.r.x.v, .int .i64 x.r.x.m, .int .u8 x.r.x.b0, .int .u8 x.r.x.b1, .int .u8 x.r.x.b2, .int .u8 x.r.x.i0, .int .u8 x.r.x.i1, .int .u8 x.r.x.i2, .slice x.A x.r.os.length x.c, .int .i64 mk.v, .int .i64 mk.m, .int .u8 mk.b0, .int .u8 mk.b1, .int .u8 mk.b2, .int .u8 mk.i0, .int .u8 mk.i1, .int .u8 mk.i2, .int .i64 a0, .int .i64 a1, .int .u8 p, .int .u8 q, .int .u8 r]) w2.drew := hd2
    have hP3 := hP2.below hbd
    have hS3 := hS2.trans (Stay.of_below hbd hlo2)
    have hlo3 : lo ≤ w2.drew.heap.size := hlo2
    refine wp_region_held_drew (S := fun W => Vb 50 W gd [.int .i64 kd, .int .i64 nd, .int .i64 x.r.k, .int .i64 x.r.pr, .int .i64 x.r.to, .int .i64 x.r.po, .int .i64 x.r.x.v, .int .i64 x.r.x.m, .int .u8 x.r.x.b0, .int .u8 x.r.x.b1, .int .u8 x.r.x.b2, .int .u8 x.r.x.i0, .int .u8 x.r.x.i1, .int .u8 x.r.x.i2, .slice x.A x.r.os.length x.c, .int .i64 mk.v, .int .i64 mk.m, .int .u8 mk.b0, .int .u8 mk.b1, .int .u8 mk.b2, .int .u8 mk.i0, .int .u8 mk.i1, .int .u8 mk.i2, .int .i64 a0, .int .i64 a1, .int .u8 p, .int .u8 q, .int .u8 r]) (by kernel_rfl) hS0 (fun _ => ?_)
    clear hgr hP2 hyo2 hS2 hlo2 hbd hd2
    generalize w2.drew = u0 at *
    refine takeD (i := 0) (v := .pointer (some ⟨t, 0, none⟩)) (some 51) rfl rfl (by kernel_rfl) (by kernel_rfl) (by kernel_rfl) (fun _ _ _ h => h) (Or.inl ⟨by rfl, ?_⟩) hS0 ?_
    · rintro w' _
      go_simp
    try simp only [Act.put, List.setIfInBounds_toArray, List.set_cons_zero, List.set_cons_succ]
    refine takeD (i := 1) (v := .pointer (some ⟨gd, 15, none⟩)) (some 52) rfl rfl (by kernel_rfl) (by kernel_rfl) (by kernel_rfl) (fun _ _ _ h => h) (Or.inl ⟨by rfl, ?_⟩) hS0 ?_
    · rintro w' _
      go_simp
    try simp only [Act.put, List.setIfInBounds_toArray, List.set_cons_zero, List.set_cons_succ]
    refine takeD (i := 2) (v := .agg #[.int .i64 mk.v, .int .i64 mk.m, .int .u8 mk.b0, .int .u8 mk.b1, .int .u8 mk.b2, .int .u8 mk.i0, .int .u8 mk.i1, .int .u8 mk.i2]) (some 53) rfl rfl (by kernel_rfl) (by kernel_rfl) (by kernel_rfl) (fun _ _ _ h => h) (Or.inl ⟨by rfl, ?_⟩) hS0 ?_
    · rintro w' s0
      have d0 := Vb.cell s0 15 rfl
      have d1 := Vb.cell s0 16 rfl
      have d2 := Vb.cell s0 17 rfl
      have d3 := Vb.cell s0 18 rfl
      have d4 := Vb.cell s0 19 rfl
      have d5 := Vb.cell s0 20 rfl
      have d6 := Vb.cell s0 21 rfl
      have d7 := Vb.cell s0 22 rfl
      go_simp
    try simp only [Act.put, List.setIfInBounds_toArray, List.set_cons_zero, List.set_cons_succ]
    refine takeD (i := 4) (v := .pointer (some ⟨m, 0, none⟩)) (some 55) rfl rfl (by kernel_rfl) (by kernel_rfl) (by kernel_rfl) (fun _ _ _ h => h) (Or.inl ⟨by rfl, ?_⟩) hS0 ?_
    · rintro w' _
      go_simp
    try simp only [Act.put, List.setIfInBounds_toArray, List.set_cons_zero, List.set_cons_succ]
    refine takeD (i := 5) (v := .pointer (some ⟨gd, 15, none⟩)) (some 56) rfl rfl (by kernel_rfl) (by kernel_rfl) (by kernel_rfl) (fun _ _ _ h => h) (Or.inl ⟨by rfl, ?_⟩) hS0 ?_
    · rintro w' _
      go_simp
    try simp only [Act.put, List.setIfInBounds_toArray, List.set_cons_zero, List.set_cons_succ]
    refine takeD (i := 6) (v := .agg #[.int .i64 mk.v, .int .i64 mk.m, .int .u8 mk.b0, .int .u8 mk.b1, .int .u8 mk.b2, .int .u8 mk.i0, .int .u8 mk.i1, .int .u8 mk.i2]) (some 57) rfl rfl (by kernel_rfl) (by kernel_rfl) (by kernel_rfl) (fun _ _ _ h => h) (Or.inl ⟨by rfl, ?_⟩) hS0 ?_
    · rintro w' s0
      have d0 := Vb.cell s0 15 rfl
      have d1 := Vb.cell s0 16 rfl
      have d2 := Vb.cell s0 17 rfl
      have d3 := Vb.cell s0 18 rfl
      have d4 := Vb.cell s0 19 rfl
      have d5 := Vb.cell s0 20 rfl
      have d6 := Vb.cell s0 21 rfl
      have d7 := Vb.cell s0 22 rfl
      go_simp
    try simp only [Act.put, List.setIfInBounds_toArray, List.set_cons_zero, List.set_cons_succ]
    refine wpAnyH_ready (rs := [3]) (by kernel_rfl) (by simp) ?_
    refine AllReadyH.cons rfl (fun K hK => ?_) AllReadyH.nil
    try rw [if_pos (by rfl)]
    go_simp
    go_at_call 12
    refine (px_loose hP3 hlo3 mk).mono ?_
    rintro e u1 ⟨rfl, hP4, hS4, hR4⟩
    have hS1 : (fun W => Vb 50 W gd [.int .i64 kd, .int .i64 nd, .int .i64 x.r.k, .int .i64 x.r.pr, .int .i64 x.r.to, .int .i64 x.r.po, .int .i64 x.r.x.v, .int .i64 x.r.x.m, .int .u8 x.r.x.b0, .int .u8 x.r.x.b1, .int .u8 x.r.x.b2, .int .u8 x.r.x.i0, .int .u8 x.r.x.i1, .int .u8 x.r.x.i2, .slice x.A x.r.os.length x.c, .int .i64 mk.v, .int .i64 mk.m, .int .u8 mk.b0, .int .u8 mk.b1, .int .u8 mk.b2, .int .u8 mk.i0, .int .u8 mk.i1, .int .u8 mk.i2, .int .i64 a0, .int .i64 a1, .int .u8 p, .int .u8 q, .int .u8 r]) u1 := hS4.2 _ _ _ (by decide) (by decide) (by decide) (by decide) hS0
    refine hK.out _ _ hS1 (fun _ => ?_)
    clear hK K hS0
    try simp only [Act.put, List.setIfInBounds_toArray, List.set_cons_zero, List.set_cons_succ]
    refine wpAnyH_ready (rs := [7]) (by kernel_rfl) (by simp) ?_
    refine AllReadyH.cons rfl (fun K hK => ?_) AllReadyH.nil
    try rw [if_pos (by rfl)]
    go_simp
    go_at_call 92
    refine (px_mLoose hP4 (Nat.le_trans hlo3 hS4.1.size) mk).mono ?_
    rintro e u2 ⟨rfl, hP5, hS5, hR5⟩
    have hS2x : (fun W => Vb 50 W gd [.int .i64 kd, .int .i64 nd, .int .i64 x.r.k, .int .i64 x.r.pr, .int .i64 x.r.to, .int .i64 x.r.po, .int .i64 x.r.x.v, .int .i64 x.r.x.m, .int .u8 x.r.x.b0, .int .u8 x.r.x.b1, .int .u8 x.r.x.b2, .int .u8 x.r.x.i0, .int .u8 x.r.x.i1, .int .u8 x.r.x.i2, .slice x.A x.r.os.length x.c, .int .i64 mk.v, .int .i64 mk.m, .int .u8 mk.b0, .int .u8 mk.b1, .int .u8 mk.b2, .int .u8 mk.i0, .int .u8 mk.i1, .int .u8 mk.i2, .int .i64 a0, .int .i64 a1, .int .u8 p, .int .u8 q, .int .u8 r]) u2 := hS5.2 _ _ _ (by decide) (by decide) (by decide) (by decide) hS1
    have HP5 := Kp.mk (hP5.mono (Y := fun _ => True) (fun _ _ => trivial))
    have HS5 := Kp.mk (hS3.trans (hS4.trans hS5))
    refine hK.out _ _ hS2x (fun _ => ?_)
    clear hK K hS1 hP3 hP4 hP5 hS3 hS4 hS5 hR4 hR5
    generalize ((l.length - (loosL mk l).length : Nat) : Int) = nl at *
    try simp only [Act.put, List.setIfInBounds_toArray, List.set_cons_zero, List.set_cons_succ]
    refine takeD (i := 8) (v := .bool true) (some 59) rfl rfl (by kernel_rfl) (by kernel_rfl) (by kernel_rfl) (fun _ _ _ h => h) (Or.inl ⟨by rfl, ?_⟩) hS2x ?_
    · rintro w' _
      have he : (nl == nl) = true := by simp
      go_simp
    try simp only [Act.put, List.setIfInBounds_toArray, List.set_cons_zero, List.set_cons_succ]
    refine takeD (i := 9) (v := .bool true) (some 6) rfl rfl (by kernel_rfl) (by kernel_rfl) (by kernel_rfl) (fun _ _ _ h => h) (Or.inl ⟨by rfl, ?_⟩) hS2x ?_
    · rintro w' _
      go_simp
    try simp only [Act.put, List.setIfInBounds_toArray, List.set_cons_zero, List.set_cons_succ]
    refine wpAnyH_done (by kernel_rfl) ?_ _
    clear hS2x
    go_wp2_with fail
    go_ret
    exact ⟨rfl, ⟨_, HP5.out⟩, HS5.out⟩
  · rw [hk] at hbr
    clear hk
    go_upto_region 14 with (refine hbr.mono ?_; rintro e w' ⟨rfl, rfl⟩)
    clear c0 hbr
    have c1 := hd2.cell 1 rfl
    have hbk := bringP_bd nd 5 (by omega)
    have hbr := bring_any nd 5 w2 (by omega) (by omega)
    generalize bringP nd 5 = kn at *
    by_cases hkn : 0 < kn
    · have HP2 := Kp.mk (hP2.mono (Y := fun _ => True) (fun _ _ => trivial))
      clear hP2
      go_wp2_with (refine hbr.mono ?_; rintro e w' ⟨rfl, rfl⟩)
      go_ret
      exact ⟨rfl, ⟨_, HP2.out⟩, hS2⟩
    go_wp2_with (refine hbr.mono ?_; rintro e w' ⟨rfl, rfl⟩)
    refine (px_wipe hP2 hlo2).mono ?_
    rintro e u1 ⟨rfl, hP4, hS4, _⟩
    clear c1
    go_wp2_with fail
    refine (px_mWipe hP4 (Nat.le_trans hlo2 hS4.1.size)).mono ?_
    rintro e u2 ⟨rfl, hP5, hS5, _⟩
    have HP5 := Kp.mk (hP5.mono (Y := fun _ => True) (fun _ _ => trivial))
    have HS5 := Kp.mk (hS2.trans (hS4.trans hS5))
    have n0 : ((l.length : Int) == l.length) = true := by simp
    clear hP2 hP4 hP5 hS2 hS4 hS5
    go_wp2_with fail
    go_ret
    exact ⟨rfl, ⟨_, HP5.out⟩, HS5.out⟩
end Go.Proofs.Ytcolklkjaifplaa.Oct

namespace Go.Proofs.Ytcolklkjaifplaa.Oct
open Go.RowKit
set_option linter.unusedVariables false
structure DoV where
  kd : Int
  nd : Int
  x : It
  mm : MaskV
  a0 : Int
  a1 : Int
  p : Int
  q : Int
  r : Int
def dcs (d : DoV) : List Value := [.int .i64 d.kd, .int .i64 d.nd, .int .i64 d.x.r.k, .int .i64 d.x.r.pr, .int .i64 d.x.r.to, .int .i64 d.x.r.po, .int .i64 d.x.r.x.v, .int .i64 d.x.r.x.m, .int .u8 d.x.r.x.b0, .int .u8 d.x.r.x.b1, .int .u8 d.x.r.x.b2, .int .u8 d.x.r.x.i0, .int .u8 d.x.r.x.i1, .int .u8 d.x.r.x.i2, .slice d.x.A d.x.r.os.length d.x.c, .int .i64 d.mm.v, .int .i64 d.mm.m, .int .u8 d.mm.b0, .int .u8 d.mm.b1, .int .u8 d.mm.b2, .int .u8 d.mm.i0, .int .u8 d.mm.i1, .int .u8 d.mm.i2, .int .i64 d.a0, .int .i64 d.a1, .int .u8 d.p, .int .u8 d.q, .int .u8 d.r]
/-- The slice (A, n, c) reads as the calls ds, and lies below block B. -/
def Dq (w : World) (B : Nat) (A : Option Addr) (n c : Nat) (ds : List DoV) : Prop :=
  ds.length = n ∧ n ≤ c ∧ c ≤ maxLen ∧ (A = none → c = 0) ∧ (∀ d ∈ ds, Ro w B d.x.A d.x.r.os.length d.x.c d.x.r.os ∧ MB d.x.r.x) ∧
  (0 < n → ∃ b off, A = some ⟨b, off, none⟩ ∧ b < B ∧ ∀ (j : Nat) (d : DoV), ds[j]? = some d → ∀ (k : Nat) (u : Value), (dcs d)[k]? = some u → w.cell? ⟨b, off + j * 28 + k, none⟩ = some u)
theorem Dq.below {w w' : World} {B : Nat} {A : Option Addr} {n c : Nat} {ds : List DoV} (h : Dq w B A n c ds) (hb : Below B w w') : Dq w' B A n c ds :=
  ⟨h.1, h.2.1, h.2.2.1, h.2.2.2.1, fun d hd => ⟨(h.2.2.2.2.1 d hd).1.below' hb (Nat.le_refl _), (h.2.2.2.2.1 d hd).2⟩, fun hn => by
    obtain ⟨b, off, e, hlt, hc⟩ := h.2.2.2.2.2 hn
    exact ⟨b, off, e, hlt, fun j y hj k u hk => (hb.cell (p := ⟨b, _, none⟩) hlt).trans (hc j y hj k u hk)⟩⟩
theorem Dq.max {w : World} {B : Nat} {A : Option Addr} {n c : Nat} {ds : List DoV} (h : Dq w B A n c ds) : (n : Int) ≤ 9223372036854775807 := by have := h.2.1; have := h.2.2.1; unfold maxLen at this; omega
end Go.Proofs.Ytcolklkjaifplaa.Oct
namespace Go.Proofs.Ytcolklkjaifplaa.Frame
open Go.ChangeShapes Go.WideShapes Go.ChangeAt Go.RowKit
set_option linter.unusedVariables false
theorem cuts28 {α : Type} (L : List α) (h : L.length = 28) : L = List.take 1 (List.drop 0 L) ++ (List.take 1 (List.drop 1 L) ++ (List.take 13 (List.drop 2 L) ++ (List.take 8 (List.drop 15 L) ++ (List.take 2 (List.drop 23 L) ++ List.take 3 (List.drop 25 L))))) := by
  match L, h with
  | [x0, x1, x2, x3, x4, x5, x6, x7, x8, x9, x10, x11, x12, x13, x14, x15, x16, x17, x18, x19, x20, x21, x22, x23, x24, x25, x26, x27], _ => rfl
theorem two_ints {cs : List Value} (h : IsFlat [.i64, .i64] cs) : ∃ a b : Int, cs = [.int .i64 a, .int .i64 b] := by
  obtain ⟨zs, l, e, _⟩ := h
  match zs, l with
  | [a, b], _ => exact ⟨a, b, e⟩
theorem three_bytes {cs : List Value} (h : IsFlat [.u8, .u8, .u8] cs) : ∃ a b c : Int, cs = [.int .u8 a, .int .u8 b, .int .u8 c] := by
  obtain ⟨zs, l, e, _⟩ := h
  match zs, l with
  | [a, b, c], _ => exact ⟨a, b, c, e⟩
theorem flat_two2 : Flat Try.prog 48 [.i64, .i64] := flat_array (n := 2) (ks := [.i64]) Try.underlying48 Oct.flat_int_ (by kernel_rfl)
set_option maxRecDepth 100000 in
theorem do_at {H : Type} {enc : TypeId × Value → H} {W : World} {m : Nat} {R : List Value} {y : DataW H × List MemPlace}
    (p3 : DataW.trod enc Try.prog W 0 (fun _ => true) true m 50 R = some y) (hR : R.length = 28) :
    ∃ d : Oct.DoV, R = Oct.dcs d ∧ Oct.Ro W W.heap.size d.x.A d.x.r.os.length d.x.c d.x.r.os ∧ Oct.MB d.x.r.x := by
  obtain ⟨ys, m2, _, hy, hyl, hyn, hy'⟩ := DataW.trod_struct Try.underlying50 p3
  have hy6 : ys.length = 6 := hyn
  have q0 : DataW.trod enc Try.prog W 0 (fun _ => true) true m2 3 (List.take 1 (List.drop 0 R)) = ys[0]? := hy' 0 _ rfl
  have q1 : DataW.trod enc Try.prog W 0 (fun _ => true) true m2 3 (List.take 1 (List.drop 1 R)) = ys[1]? := hy' 1 _ rfl
  have q2 : DataW.trod enc Try.prog W 0 (fun _ => true) true m2 31 (List.take 13 (List.drop 2 R)) = ys[2]? := hy' 2 _ rfl
  have q3 : DataW.trod enc Try.prog W 0 (fun _ => true) true m2 28 (List.take 8 (List.drop 15 R)) = ys[3]? := hy' 3 _ rfl
  have q4 : DataW.trod enc Try.prog W 0 (fun _ => true) true m2 48 (List.take 2 (List.drop 23 R)) = ys[4]? := hy' 4 _ rfl
  have q5 : DataW.trod enc Try.prog W 0 (fun _ => true) true m2 26 (List.take 3 (List.drop 25 R)) = ys[5]? := hy' 5 _ rfl
  rw [List.getElem?_eq_getElem (by omega)] at q0 q1 q2 q3 q4 q5
  obtain ⟨kd, r0⟩ := one_int (Oct.flat_int_.2 _ _ _ _ _ _ _ _ q0)
  obtain ⟨nd, r1⟩ := one_int (Oct.flat_int_.2 _ _ _ _ _ _ _ _ q1)
  obtain ⟨r, A, n, c, r2, hro, hmb, _⟩ := rule_at q2 (by rw [List.length_take, List.length_drop]; omega)
  obtain ⟨mk, r3, _⟩ := eight (Oct.flat_mask.2 _ _ _ _ _ _ _ _ q3)
  obtain ⟨a0, a1, r4⟩ := two_ints (flat_two2.2 _ _ _ _ _ _ _ _ q4)
  obtain ⟨p, q, s, r5⟩ := three_bytes (Oct.flat_header.2 _ _ _ _ _ _ _ _ q5)
  have hcut := cuts28 R hR
  rw [r0, r1, r2, r3, r4, r5] at hcut
  have hl := hro.len
  subst hl
  exact ⟨⟨kd, nd, ⟨r, A, c⟩, mk, a0, a1, p, q, s⟩, hcut, hro, hmb⟩
set_option maxRecDepth 100000 in
theorem open_calls {H : Type} {enc : TypeId × Value → H} {W : World} {r : Reach} {b0 : Nat} {v : Value} {d : DataW H} {pl : List MemPlace}
    (hv : Value.okWide Try.prog W r b0 46 v) (hh : DataW.Trod enc Try.prog W 0 (fun _ => true) true 46 v d pl) :
    ∃ (ys : List Oct.DoV) (A : Option Addr) (n c : Nat), v = .slice A n c ∧ Oct.Dq W W.heap.size A n c ys := by
  obtain ⟨A0, n0, c0, rfl⟩ := okWide_slice Try.underlying46 hv
  obtain ⟨fuel, hf⟩ := hh
  rcases Deep.open_slice Try.underlying46 hf with ⟨hc, _⟩ | ⟨a, len, cap, mm2, nn, D, Pl, hc, _, hlc, hmax, hmm, hdd, hel⟩
  · have hc' : [Value.slice A0 n0 c0] = [Value.slice none 0 0] := hc
    exact ⟨[], none, 0, 0, by simpa using hc', ⟨rfl, Nat.le_refl _, Nat.zero_le _, fun _ => rfl, fun d hd => by simp at hd, fun h => absurd h (by omega)⟩⟩
  · have hcap : mm2 = cap := by simpa using hmm
    subst hcap
    have hce : Try.prog.cellsOf 50 = 28 := by kernel_rfl
    have key : ∀ i, i < mm2 → ∃ y : Oct.DoV, (∀ (k : Nat) (u : Value), (Oct.dcs y)[k]? = some u → W.cell? ((a.add (i * 28)).add k) = some u) ∧ Oct.Ro W W.heap.size y.x.A y.x.r.os.length y.x.c y.x.r.os ∧ Oct.MB y.x.r.x := by
      intro i hi
      obtain ⟨cs', h1, h2⟩ := hel i hi
      rw [hce] at h1
      obtain ⟨_, hlen, hcell⟩ := World.cells?_some h1
      obtain ⟨d, e, hro, hmb⟩ := do_at h2 hlen
      refine ⟨d, fun k u hk => ?_, hro, hmb⟩
      have hk28 : k < 28 := (List.getElem?_eq_some_iff.1 hk).1
      rw [hcell k hk28, e]
      exact hk
    haveI : Inhabited Oct.DoV := ⟨⟨0, 0, Oct.zIt, Oct.zIt.r.x, 0, 0, 0, 0, 0⟩⟩
    obtain ⟨F, hF⟩ := Deep.choose_lt (α := Oct.DoV) (n := mm2) (p := fun i y => (∀ (k : Nat) (u : Value), (Oct.dcs y)[k]? = some u → W.cell? ((a.add (i * 28)).add k) = some u) ∧ Oct.Ro W W.heap.size y.x.A y.x.r.os.length y.x.c y.x.r.os ∧ Oct.MB y.x.r.x) key
    have hc' : [Value.slice A0 n0 c0] = [Value.slice (some a) len mm2] := hc
    refine ⟨(List.range len).map F, some a, len, mm2, by simpa using hc', ⟨by simp, hlc, hmax, fun e => by simp at e, fun y hy => ?_, fun hn => ?_⟩⟩
    · obtain ⟨i, hi, rfl⟩ := List.mem_map.1 hy
      exact (hF i (by have := List.mem_range.1 hi; omega)).2
    · obtain ⟨b, off, spot⟩ := a
      have h0 := (hF 0 (by omega)).1 0 _ rfl
      have hspot : spot = none := by simpa [Addr.add] using World.cell?_spot h0
      subst hspot
      have hadd2 : ∀ i j, ((⟨b, off, none⟩ : Addr).add i).add j = ⟨b, off + i + j, none⟩ := fun i j => by rw [Oct.add_addr]; exact Oct.add_addr _ _ _
      refine ⟨b, off, rfl, ?_, fun j y hj k u hk => ?_⟩
      · rw [hadd2] at h0; exact World.block_lt_of_cell? W _ h0
      · have hjl : j < len := by have := (List.getElem?_eq_some_iff.1 hj).1; simpa using this
        have ho : F j = y := by rw [List.getElem?_map, List.getElem?_range hjl] at hj; simpa using hj
        subst ho
        have hG := (hF j (by omega)).1 k u hk
        rw [hadd2] at hG
        exact hG
end Go.Proofs.Ytcolklkjaifplaa.Frame

namespace Go.Proofs.Ytcolklkjaifplaa.Oct
open Go.RowKit
set_option linter.unusedVariables false
theorem ctlOne {l k : List RuleV} {tw q q' : Int} {b b' : Bool} (hS : Srt l) (hp : l.Perm k) (h : Ctl l tw q b) (h' : Ctl k tw q' b') : q = q' ∧ b = b' := by
  rcases h with ⟨rfl, rfl, h3⟩ | ⟨rfl, z, h2, h3, rfl⟩ <;> rcases h' with ⟨rfl, rfl, g3⟩ | ⟨rfl, y, g2, g3, rfl⟩
  · exact ⟨rfl, rfl⟩
  · exact absurd g3 (h3 y (hp.mem_iff.2 g2))
  · exact absurd h3 (g3 z (hp.mem_iff.1 h2))
  · refine ⟨?_, rfl⟩
    have g2 := hp.mem_iff.2 g2
    obtain ⟨i, hi⟩ := List.getElem?_of_mem h2
    obtain ⟨j, hj⟩ := List.getElem?_of_mem g2
    have h0 : cmpR z y = 0 := by
      rw [cmpR_like z (ctlR tw) y ((cmp_ctl z tw).2 h3)]
      have := cmpR_neg y (ctlR tw)
      have := (cmp_ctl y tw).2 g3
      omega
    have h0' := cmpR_neg z y
    rcases Nat.lt_trichotomy i j with hlt | rfl | hlt
    · have := srt_lt hS hi hj hlt; omega
    · rw [hi] at hj; rw [Option.some.inj hj]
    · have := srt_lt hS hj hi hlt; omega
theorem DataP.one {l : List RuleV} {ver port p q r : Int} {y y' : RuleV} {b b' : Bool} (h : DataP l ver port p q r y b) (h' : DataP l ver port p q r y' b') : y' = y ∧ b' = b := by
  rcases h with ⟨rfl, rfl, h3⟩ | ⟨rfl, j, h1, h2, h3⟩ <;> rcases h' with ⟨rfl, rfl, g3⟩ | ⟨rfl, i, g1, g2, g3⟩
  · exact ⟨rfl, rfl⟩
  · exact absurd g2 (h3 y' (List.mem_of_getElem? g1))
  · exact absurd h2 (g3 y (List.mem_of_getElem? h1))
  · rcases Nat.lt_trichotomy i j with hl | rfl | hl
    · exact absurd g2 (h3 i y' hl g1)
    · rw [h1] at g1
      exact ⟨(Option.some.inj g1).symm, rfl⟩
    · exact absurd h2 (g3 j y hl h1)
theorem Lf.os {room : Int} {its : List It} (h : Lf room (rls its)) : ∀ x ∈ its, x.r.os.length ≤ 1000000000 := fun x hx => by
  have := okR_len (h.2.1 x.r (List.mem_map.2 ⟨x, hx, rfl⟩)).1
  omega
theorem DataP.os {l : List RuleV} {ver port p q r room : Int} {y : RuleV} {b : Bool} (h : DataP l ver port p q r y b) (hf : Lf room l) : y.os.length ≤ 1000000000 := by
  rcases h with ⟨rfl, rfl, h3⟩ | ⟨rfl, j, h1, h2, h3⟩
  · simp [zR]
  · have := okR_len (hf.2.1 y (List.mem_of_getElem? h1)).1
    omega
section
variable {w w' : World} {t m lo b : Nat} {room : Int} {l k : List RuleV} {X : Nat → Prop}
theorem px_new {w1 w2 : World} {t m : Nat} (hT : Tb w1 t (.slice none 0 0) room []) (hM : Mt w2 m (.slice none 0 0) room []) (hb : Below w1.heap.size w1 w2) (h1 : 0 ≤ room) (h2 : room ≤ 64) (ht : lo ≤ t) (hm : lo ≤ m) : PX (fun _ => True) w2 lo t m room [] [] := by
  have hlf : Lf room [] := ⟨List.Pairwise.nil, fun x hx => by simp at hx, by simpa using h1, h2⟩
  exact ⟨_, [], _, [], hT.below hb, rfl, hM, rfl, fun k hk => by simp [Value.ownBlock] at hk, ⟨ht, hm, fun k hk => by simp [Value.ownBlock] at hk, fun k hk => by simp [Value.ownBlock] at hk⟩, ⟨hlf, hlf⟩, fun y hy => by simp at hy, fun y hy => by simp at hy, fun k hk => by simp [Value.ownBlock] at hk, fun k hk => by simp [Value.ownBlock] at hk⟩
theorem px_len (h : PX X w lo t m room l k) : Calls Try.prog 15 #[.pointer (some ⟨t, 0, none⟩)] w fun e w' => e = .returned (.int .i64 l.length) ∧ w' = w := by
  obtain ⟨vt, its, vm, itm, h1, rfl, h3, rfl, h5⟩ := h
  rw [rls_len]
  exact len_tab h1
theorem px_mLen (h : PX X w lo t m room l k) : Calls Try.prog 61 #[.pointer (some ⟨m, 0, none⟩)] w fun e w' => e = .returned (.int .i64 k.length) ∧ w' = w := by
  obtain ⟨vt, its, vm, itm, h1, rfl, h3, rfl, h5⟩ := h
  rw [rls_len]
  exact mLen h3
theorem px_room (h : PX X w lo t m room l k) : Calls Try.prog 16 #[.pointer (some ⟨t, 0, none⟩)] w fun e w' => e = .returned (.int .i64 room) ∧ w' = w := by
  obtain ⟨vt, its, vm, itm, h1, h2⟩ := h
  exact room_tab h1
theorem px_mRoom (h : PX X w lo t m room l k) : Calls Try.prog 62 #[.pointer (some ⟨m, 0, none⟩)] w fun e w' => e = .returned (.int .i64 room) ∧ w' = w := by
  obtain ⟨vt, its, vm, itm, h1, h2, h3, h4⟩ := h
  exact mRoom h3
theorem px_ctl (h : PX X w lo t m room l k) (tw : Int) : Calls Try.prog 8 #[.pointer (some ⟨t, 0, none⟩), .int .i64 tw] w fun e w' => ∃ q b, e = .returned (.tuple #[.int .i64 q, .bool b]) ∧ Ctl l tw q b ∧ Below w.heap.size w w' := by
  obtain ⟨vt, its, vm, itm, h1, rfl, h3, rfl, h5, h6, h7, h8⟩ := h
  exact control_tab h1 h7.1.1 h7.1.len'.1 tw
theorem px_mCtl (h : PX X w lo t m room l l) (tw : Int) {q : Int} {b : Bool} (hc : Ctl l tw q b) : Calls Try.prog 63 #[.pointer (some ⟨m, 0, none⟩), .int .i64 tw] w fun e w' => e = .returned (.tuple #[.int .i64 q, .bool b]) ∧ w' = w := by
  obtain ⟨vt, its, vm, itm, h1, h2, h3, h4, h5, h6, h7, h8⟩ := h
  refine (mControl h3 tw).mono ?_
  rintro e w' ⟨q', b', rfl, hc', rfl⟩
  rw [h4] at hc'
  obtain ⟨rfl, rfl⟩ := ctlOne h7.1.1 (List.Perm.refl _) hc hc'
  exact ⟨rfl, rfl⟩
theorem px_data (h : PX X w lo t m room l k) (ver port p q r : Int) : Calls Try.prog 9 #[.pointer (some ⟨t, 0, none⟩), .int .i64 ver, .int .i64 port, .agg #[.int .u8 p, .int .u8 q, .int .u8 r]] w fun e w' => ∃ y b, e = .returned (.tuple #[.agg (ics y).toArray, .bool b]) ∧ DataP l ver port p q r y.r b ∧ Ob w' y ∧ Fre w.heap.size y ∧ Below w.heap.size w w' := by
  obtain ⟨vt, its, vm, itm, h1, rfl, h3, rfl, h5, h6, h7, h8⟩ := h
  exact data_tab h1 h7.1.1 (fun x hx => (h7.1.2.1 x hx).1) h7.1.len'.1 ver port p q r
theorem px_mData (h : PX X w lo t m room l l) (ver port p q r : Int) {y : RuleV} {b : Bool} (hc : DataP l ver port p q r y b) : Calls Try.prog 64 #[.pointer (some ⟨m, 0, none⟩), .int .i64 ver, .int .i64 port, .agg #[.int .u8 p, .int .u8 q, .int .u8 r]] w fun e w' => ∃ z, e = .returned (.tuple #[.agg (ics z).toArray, .bool b]) ∧ z.r = y ∧ Ob w' z ∧ Below w.heap.size w w' := by
  obtain ⟨vt, its, vm, itm, h1, h2, h3, rfl, h5, h6, h7, h8⟩ := h
  refine (mData h3 h7.2.os ver port p q r).mono ?_
  rintro e w' ⟨z, b', rfl, hc', ho, hf, hb⟩
  obtain ⟨hz, rfl⟩ := hc.one hc'
  exact ⟨z, rfl, hz, ho, hb⟩
theorem px_rules (h : PX X w lo t m room l k) : Calls Try.prog 17 #[.pointer (some ⟨t, 0, none⟩)] w fun e w' => ∃ v' its', e = .returned v' ∧ RowS w' v' its' ∧ rls its' = l ∧ (∀ y ∈ its', Ob w' y ∧ Fre w.heap.size y) ∧ Below w.heap.size w w' := by
  obtain ⟨vt, its, vm, itm, h1, rfl, h3, rfl, h5, h6, h7, h8⟩ := h
  refine (rules_tab h1 (fun x hx => (h7.1.2.1 x hx).1) h7.1.len'.1).mono ?_
  rintro e w' ⟨v', its', h1, h2, h3, h4, h5, h6⟩
  exact ⟨v', its', h1, h2, h3, h4, h6⟩
theorem px_mRules (h : PX X w lo t m room l k) : Calls Try.prog 67 #[.pointer (some ⟨m, 0, none⟩)] w fun e w' => ∃ v' its', e = .returned v' ∧ RowS w' v' its' ∧ rls its' = k ∧ (∀ y ∈ its', Ob w' y) ∧ Below w.heap.size w w' := by
  obtain ⟨vt, its, vm, itm, h1, rfl, h3, rfl, h5, h6, h7, h8⟩ := h
  exact mRules h3 h7.2.len'.1 h7.2.os
/-- An output is written to, that lies where no table's do. -/
theorem PX.outx {off n j : Nat} {u : Value} (h : PX X w lo t m room l k) (hX : ∀ j, X j → j ≠ b) (hw : Wr w b off n) : PX X (w.setCell ⟨b, j, none⟩ u) lo t m room l k := by
  obtain ⟨vt, its, vm, itm, h1, h2, h3, h4, h5, h6, h7, h8, h9, h10⟩ := h
  have hg := grownBy_set w b j u
  refine ⟨vt, its, vm, itm, ⟨h1.blk.grown hg (hw.ne h1.blk (by decide)), h1.row.keep fun k hk => ?_, fun x hx => (h1.outs x hx).outw (fun hn a e => hX _ (h8 x hx hn a e)) hg⟩, h2, ⟨h3.blk.grown hg (hw.ne h3.blk (by decide)), h3.row.keep fun k hk => ?_, fun x hx => (h3.outs x hx).outw (fun hn a e => hX _ (h9 x hx hn a e)) hg⟩, h4, h5, h6, h7, h8, h9, h10⟩
  · obtain ⟨hlt, ys, hr⟩ := h1.row.lt k hk
    exact hg.block k hlt (fun e => hw.ne hr (by decide) (Option.some.inj e))
  · obtain ⟨hlt, ys, hr⟩ := h3.row.lt k hk
    exact hg.block k hlt (fun e => hw.ne hr (by decide) (Option.some.inj e))
theorem Wr.outw {off n g off' n' j : Nat} {u : Value} (h : Wr w b off n) (h2 : Wr w g off' n') : Wr (w.setCell ⟨g, j, none⟩ u) b off n := by
  by_cases e : b = g
  · subst e
    exact h.set j u
  · obtain ⟨cur, hc, hs⟩ := h
    exact ⟨cur, ((grownBy_set w g j u).block b (Array.getElem?_eq_some_iff.1 hc).1 (by simpa using e)).trans hc, hs⟩
/-- Rules whose outputs may be written to, from block Z on. -/
def Ow (Z : Nat) (w : World) (its : List It) : Prop := ∀ (i : Nat) (y : It), its[i]? = some y → 0 < y.r.os.length → ∃ b off, y.A = some ⟨b, off, none⟩ ∧ Wr w b off y.r.os.length ∧ Z ≤ b
theorem Ow.outw {Z off' n' g j : Nat} {u : Value} {its : List It} (h : Ow Z w its) (h2 : Wr w g off' n') : Ow Z (w.setCell ⟨g, j, none⟩ u) its := fun i y hy hn => by
  obtain ⟨b, off, e, hw, hz⟩ := h i y hy hn
  exact ⟨b, off, e, hw.outw h2, hz⟩
theorem ow_of {Z : Nat} {its : List It} (h : ∀ y ∈ its, Ob w y ∧ Fre Z y) : Ow Z w its := fun i y hy hn => by
  obtain ⟨ho, hf⟩ := h y (List.mem_of_getElem? hy)
  obtain ⟨b, off, e, hw, _⟩ := ho.wr hn
  exact ⟨b, off, e, hw, hf hn _ e⟩
end
end Go.Proofs.Ytcolklkjaifplaa.Oct

namespace Go.Proofs.Ytcolklkjaifplaa.Oct
open Go.RowKit
set_option linter.unusedVariables false
set_option linter.unusedSimpArgs false

set_option maxRecDepth 100000 in
set_option maxHeartbeats 16000000 in
theorem tablePlays_walk (room : Int) (ds : List DoV) (A : Option Addr) (n c lo : Nat) (W : World) (hlo : W.heap.size = lo) (rd : Dq W lo A n c ds) : Calls Try.prog 22 #[.int .i64 room, .slice A n c] W fun e w' => e = .returned (.bool true) ∧ Below lo W w' := by
  have hmax := rd.max
  have HD := Kp.mk (fun (w : World) (hb : Below lo W w) => rd.below hb)
  have HL := Kp.mk rd.1
  have HLO := Kp.mk hlo
  have hB0 := Below.refl lo W
  clear rd
  by_cases hno : room < 0 ∨ 64 < room
  · go_enter Try.func22, Try.ntmps22
    clear hlo
    go_upto_region 2 with fail
    refine (new_no W room hno).mono ?_
    rintro e w' ⟨rfl, rfl⟩
    go_upto_region 3 with fail
    refine (mNew_no _ room hno).mono ?_
    rintro e w' ⟨rfl, rfl⟩
    go_upto_region 6 with fail
    refine wp_loop_rounds (0 + 1) ?_
    rw [rounds_succ]
    by_cases hn : (0 : Int) < n
    · go_upto_region 23 with fail
      refine (worksT_any _).mono ?_
      rintro e w' ⟨rfl, hb⟩
      go_wp2_with fail
      go_ret
      exact ⟨rfl, hb.mono (by have := HLO.out; omega)⟩
    · go_upto_region 23 with fail
      refine (worksT_any _).mono ?_
      rintro e w' ⟨rfl, hb⟩
      go_wp2_with fail
      go_ret
      exact ⟨rfl, hb.mono (by have := HLO.out; omega)⟩
  have h1 : 0 ≤ room := by omega
  have h2 : room ≤ 64 := by omega
  go_enter Try.func22, Try.ntmps22
  go_upto_region 2 with fail
  refine (new_yes W room h1 h2).mono ?_
  rintro e w1 ⟨rfl, hT, hb1, hz1⟩
  rw [hlo] at hT hb1 hz1 ⊢
  clear hlo
  go_upto_region 3 with fail
  refine (mNew_yes w1 room h1 h2).mono ?_
  rintro e w2 ⟨rfl, hM, hb2, hz2⟩
  obtain ⟨m, hm⟩ : ∃ m, m = w1.heap.size := ⟨_, rfl⟩
  rw [← hm] at hM hz2 ⊢
  have hP : PX (fun _ => True) w2 lo lo m room [] [] := px_new hT hM hb2 h1 h2 (Nat.le_refl _) (by omega)
  have hB := hb1.trans (hb2.mono (by omega))
  clear hT hM hb1 hb2 hz1 hz2 hm h1 h2 hno hB0
  go_upto_region 6 with fail
  go_loopw [9] (fun s9 wr => ∃ (i : Nat) (l : List RuleV), s9 = .int .i64 i ∧ i ≤ n ∧ PX (fun _ => True) wr lo lo m room l l ∧ Below lo W wr) (fun s9 _ => n - (intOf s9).toNat)
  case atStart => exact ⟨0, [], rfl, Nat.zero_le _, hP, hB⟩
  case round =>
  clear hP hB
  obtain ⟨i, l, rfl, hi, hP, hB⟩ := hrel
  by_cases hlt : (i : Int) < n
  · by_cases h15 : (i : Int) < 150
    · obtain ⟨d, hd⟩ : ∃ d, ds[i]? = some d := ⟨_, List.getElem?_eq_getElem (by have := HL.out; omega)⟩
      obtain ⟨bD, oD, rfl, hbD, hcD⟩ := (HD.out wr hB).2.2.2.2.2 (by omega)
      obtain ⟨hxr, hxm⟩ := (HD.out wr hB).2.2.2.2.1 d (List.mem_of_getElem? hd)
      have hcs := hcD i d hd
      obtain ⟨kd, nd, x, mk, a0, a1, p, q, r⟩ := d
      have hlw : lo ≤ wr.heap.size := by have := HLO.out; have := hB.size; omega
      clear hd hcD hbD
      go_upto_region 9 with (first | refine wpList_load_cells (vs := [.int .i64 kd, .int .i64 nd, .int .i64 x.r.k, .int .i64 x.r.pr, .int .i64 x.r.to, .int .i64 x.r.po, .int .i64 x.r.x.v, .int .i64 x.r.x.m, .int .u8 x.r.x.b0, .int .u8 x.r.x.b1, .int .u8 x.r.x.b2, .int .u8 x.r.x.i0, .int .u8 x.r.x.i1, .int .u8 x.r.x.i2, .slice x.A x.r.os.length x.c, .int .i64 mk.v, .int .i64 mk.m, .int .u8 mk.b0, .int .u8 mk.b1, .int .u8 mk.b2, .int .u8 mk.i0, .int .u8 mk.i1, .int .u8 mk.i2, .int .i64 a0, .int .i64 a1, .int .u8 p, .int .u8 q, .int .u8 r]) rfl (.tmp 60) rfl rfl hcs agg_do ?_ | (refine wpList_store_new (vs := [.int .i64 kd, .int .i64 nd, .int .i64 x.r.k, .int .i64 x.r.pr, .int .i64 x.r.to, .int .i64 x.r.po, .int .i64 x.r.x.v, .int .i64 x.r.x.m, .int .u8 x.r.x.b0, .int .u8 x.r.x.b1, .int .u8 x.r.x.b2, .int .u8 x.r.x.i0, .int .u8 x.r.x.i1, .int .u8 x.r.x.i2, .slice x.A x.r.os.length x.c, .int .i64 mk.v, .int .i64 mk.m, .int .u8 mk.b0, .int .u8 mk.b1, .int .u8 mk.b2, .int .u8 mk.i0, .int .u8 mk.i1, .int .u8 mk.i2, .int .i64 a0, .int .i64 a1, .int .u8 p, .int .u8 q, .int .u8 r]) rfl (.tmp 10) (.tmp 61) rfl rfl rfl rfl rfl rfl agg_do rfl ?_; intro w1 hg hb1 hz1))
      clear hz1
      have hP1 := hP.below hb1
      have hB1 := hB.trans (hb1.mono hlw)
      have hx1 := hxr.below' hb1 hlw
      have hl1 := Nat.le_trans hlw hb1.size
      obtain ⟨gd, hgd⟩ : ∃ gd, gd = wr.heap.size := ⟨_, rfl⟩
      rw [← hgd] at hg ⊢
      clear hP hB hb1 hcs hxr hlw hgd
      go_upto_region 10 with (refine wpList_load_vb (vs := [.int .i64 kd, .int .i64 nd, .int .i64 x.r.k, .int .i64 x.r.pr, .int .i64 x.r.to, .int .i64 x.r.po, .int .i64 x.r.x.v, .int .i64 x.r.x.m, .int .u8 x.r.x.b0, .int .u8 x.r.x.b1, .int .u8 x.r.x.b2, .int .u8 x.r.x.i0, .int .u8 x.r.x.i1, .int .u8 x.r.x.i2, .slice x.A x.r.os.length x.c, .int .i64 mk.v, .int .i64 mk.m, .int .u8 mk.b0, .int .u8 mk.b1, .int .u8 mk.b2, .int .u8 mk.i0, .int .u8 mk.i1, .int .u8 mk.i2, .int .i64 a0, .int .i64 a1, .int .u8 p, .int .u8 q, .int .u8 r]) rfl (.tmp 10) rfl rfl hg rfl agg_do ?_)
      refine (step_any hP1 hl1 kd nd a0 a1 p q r x mk hx1 (Nat.le_refl _) hxm).mono ?_
      rintro e w2 ⟨rfl, ⟨l2, hP2⟩, hS2⟩
      have hB2 := hB1.trans hS2.1
      have hg2 := hS2.2 _ _ _ (by decide) (by decide) (by decide) (by decide) hg
      have hl2 := Nat.le_trans hl1 hS2.1.size
      clear hP1 hB1 hx1 hl1 hg hS2 hxm l
      as_aux_lemma =>
        go_upto_region 10 with fail
        refine (px_len hP2).mono ?_
        rintro e w' ⟨rfl, rfl⟩
        go_upto_region 10 with fail
        refine (px_mLen hP2).mono ?_
        rintro e w' ⟨rfl, rfl⟩
        have n0 : ((l2.length : Int) != l2.length) = false := by simp
        have n1 : ((l2.length : Int) == l2.length) = true := by simp
        go_upto_region 10 with fail
        refine (px_room hP2).mono ?_
        rintro e w' ⟨rfl, rfl⟩
        go_upto_region 10 with fail
        refine (px_mRoom hP2).mono ?_
        rintro e w' ⟨rfl, rfl⟩
        have n2 : (room != room) = false := by simp
        have n3 : (room == room) = true := by simp
        have c1 := hg2.cell 1 rfl
        go_upto_region 12 with fail
        clear n0 n1 n2 n3
        refine (px_ctl hP2 nd).mono ?_
        rintro e w3 ⟨tq, tb, rfl, hc, hb3⟩
        have HC := Kp.mk hc
        have hP3 := hP2.below hb3
        have hg3 := hg2.below hb3 hg2.lt
        have hB3 := hB2.trans (hb3.mono hl2)
        have hl3 := Nat.le_trans hl2 hb3.size
        clear hP2 hB2 hg2 hl2 hc hb3 c1
        have c1 := hg3.cell 1 rfl
        go_upto_region 13 with fail
        refine (px_mCtl hP3 nd HC.out).mono ?_
        rintro e w3x ⟨rfl, rfl⟩
        clear c1
        have c23 := hg3.cell 23 rfl
        have c24 := hg3.cell 24 rfl
        have c25 := hg3.cell 25 rfl
        have c26 := hg3.cell 26 rfl
        have c27 := hg3.cell 27 rfl
        go_upto_region 14 with fail
        refine (px_data hP3 a0 a1 p q r).mono ?_
        rintro e w4 ⟨y, dt, rfl, hDP, hoy, hfy, hb4⟩
        have HDP := Kp.mk hDP
        obtain ⟨Z, hZ⟩ : ∃ Z, Z = w3x.heap.size := ⟨_, rfl⟩
        have hP4 := hP3.low.below hb4
        have hg4 := hg3.below hb4 hg3.lt
        have hB4 := hB3.trans (hb4.mono hl3)
        have hl4 := Nat.le_trans hl3 hb4.size
        have hZ4 := hb4.size
        rw [← hZ] at hP4 hfy hl3 hZ4
        have HFY := Kp.mk hfy
        have HLZ := Kp.mk hl3
        clear hP3 hB3 hg3 hDP hfy hb4 hl3 hZ c23 c24 c25 c26 c27
        as_aux_lemma =>
          rw [show (ics y).toArray = #[.int .i64 y.r.k, .int .i64 y.r.pr, .int .i64 y.r.to, .int .i64 y.r.po, .int .i64 y.r.x.v, .int .i64 y.r.x.m, .int .u8 y.r.x.b0, .int .u8 y.r.x.b1, .int .u8 y.r.x.b2, .int .u8 y.r.x.i0, .int .u8 y.r.x.i1, .int .u8 y.r.x.i2, .slice y.A y.r.os.length y.c] from rfl]
          go_upto_region 14 with fail
          have hb5 := below_alloc w4 (.cells #[.int .i64 y.r.k, .int .i64 y.r.pr, .int .i64 y.r.to, .int .i64 y.r.po, .int .i64 y.r.x.v, .int .i64 y.r.x.m, .int .u8 y.r.x.b0, .int .u8 y.r.x.b1, .int .u8 y.r.x.b2, .int .u8 y.r.x.i0, .int .u8 y.r.x.i1, .int .u8 y.r.x.i2, .slice y.A y.r.os.length y.c] 31)
          have hy5 : Vb 31 (w4.alloc (.cells #[.int .i64 y.r.k, .int .i64 y.r.pr, .int .i64 y.r.to, .int .i64 y.r.po, .int .i64 y.r.x.v, .int .i64 y.r.x.m, .int .u8 y.r.x.b0, .int .u8 y.r.x.b1, .int .u8 y.r.x.b2, .int .u8 y.r.x.i0, .int .u8 y.r.x.i1, .int .u8 y.r.x.i2, .slice y.A y.r.os.length y.c] 31)) w4.heap.size [.int .i64 y.r.k, .int .i64 y.r.pr, .int .i64 y.r.to, .int .i64 y.r.po, .int .i64 y.r.x.v, .int .i64 y.r.x.m, .int .u8 y.r.x.b0, .int .u8 y.r.x.b1, .int .u8 y.r.x.b2, .int .u8 y.r.x.i0, .int .u8 y.r.x.i1, .int .u8 y.r.x.i2, .slice y.A y.r.os.length y.c] := Vb.new 31 w4 [.int .i64 y.r.k, .int .i64 y.r.pr, .int .i64 y.r.to, .int .i64 y.r.po, .int .i64 y.r.x.v, .int .i64 y.r.x.m, .int .u8 y.r.x.b0, .int .u8 y.r.x.b1, .int .u8 y.r.x.b2, .int .u8 y.r.x.i0, .int .u8 y.r.x.i1, .int .u8 y.r.x.i2, .slice y.A y.r.os.length y.c]
          have hP5 := hP4.below hb5
          have hg5 := hg4.below hb5 hg4.lt
          have hB5 := hB4.trans (hb5.mono hl4)
          have hl5 := Nat.le_trans hl4 hb5.size
          have hoy5 := hoy.below hb5
          generalize w4.alloc (.cells #[.int .i64 y.r.k, .int .i64 y.r.pr, .int .i64 y.r.to, .int .i64 y.r.po, .int .i64 y.r.x.v, .int .i64 y.r.x.m, .int .u8 y.r.x.b0, .int .u8 y.r.x.b1, .int .u8 y.r.x.b2, .int .u8 y.r.x.i0, .int .u8 y.r.x.i1, .int .u8 y.r.x.i2, .slice y.A y.r.os.length y.c] 31) = w5 at *
          obtain ⟨gx, hgx⟩ : ∃ g, g = w4.heap.size := ⟨_, rfl⟩
          rw [← hgx] at hy5 ⊢
          clear hP4 hg4 hB4 hl4 hb5 hoy hgx hZ4
          have c23 := hg5.cell 23 rfl
          have c24 := hg5.cell 24 rfl
          have c25 := hg5.cell 25 rfl
          have c26 := hg5.cell 26 rfl
          have c27 := hg5.cell 27 rfl
          go_upto_region 15 with fail
          refine (px_mData hP5 a0 a1 p q r HDP.out).mono ?_
          rintro e w6 ⟨z, rfl, hzr, hoz, hb6⟩
          have HZR := Kp.mk hzr
          have hP6 := hP5.below hb6
          have hy6 := hy5.below hb6 hy5.lt
          have hB6 := hB5.trans (hb6.mono hl5)
          have hl6 := Nat.le_trans hl5 hb6.size
          have hoy6 := hoy5.below hb6
          clear hP5 hg5 hB5 hl5 hb6 hoy5 hy5 hzr c23 c24 c25 c26 c27
          rw [show (ics z).toArray = #[.int .i64 z.r.k, .int .i64 z.r.pr, .int .i64 z.r.to, .int .i64 z.r.po, .int .i64 z.r.x.v, .int .i64 z.r.x.m, .int .u8 z.r.x.b0, .int .u8 z.r.x.b1, .int .u8 z.r.x.b2, .int .u8 z.r.x.i0, .int .u8 z.r.x.i1, .int .u8 z.r.x.i2, .slice z.A z.r.os.length z.c] from rfl]
          go_upto_region 15 with fail
          have hb7 := below_alloc w6 (.cells #[.int .i64 z.r.k, .int .i64 z.r.pr, .int .i64 z.r.to, .int .i64 z.r.po, .int .i64 z.r.x.v, .int .i64 z.r.x.m, .int .u8 z.r.x.b0, .int .u8 z.r.x.b1, .int .u8 z.r.x.b2, .int .u8 z.r.x.i0, .int .u8 z.r.x.i1, .int .u8 z.r.x.i2, .slice z.A z.r.os.length z.c] 31)
          have hz7 : Vb 31 (w6.alloc (.cells #[.int .i64 z.r.k, .int .i64 z.r.pr, .int .i64 z.r.to, .int .i64 z.r.po, .int .i64 z.r.x.v, .int .i64 z.r.x.m, .int .u8 z.r.x.b0, .int .u8 z.r.x.b1, .int .u8 z.r.x.b2, .int .u8 z.r.x.i0, .int .u8 z.r.x.i1, .int .u8 z.r.x.i2, .slice z.A z.r.os.length z.c] 31)) w6.heap.size [.int .i64 z.r.k, .int .i64 z.r.pr, .int .i64 z.r.to, .int .i64 z.r.po, .int .i64 z.r.x.v, .int .i64 z.r.x.m, .int .u8 z.r.x.b0, .int .u8 z.r.x.b1, .int .u8 z.r.x.b2, .int .u8 z.r.x.i0, .int .u8 z.r.x.i1, .int .u8 z.r.x.i2, .slice z.A z.r.os.length z.c] := Vb.new 31 w6 [.int .i64 z.r.k, .int .i64 z.r.pr, .int .i64 z.r.to, .int .i64 z.r.po, .int .i64 z.r.x.v, .int .i64 z.r.x.m, .int .u8 z.r.x.b0, .int .u8 z.r.x.b1, .int .u8 z.r.x.b2, .int .u8 z.r.x.i0, .int .u8 z.r.x.i1, .int .u8 z.r.x.i2, .slice z.A z.r.os.length z.c]
          have hP7 := hP6.below hb7
          have hB7 := hB6.trans (hb7.mono hl6)
          have hl7 := Nat.le_trans hl6 hb7.size
          have hoy7 := hoy6.below hb7
          have hy7 := hy6.below hb7 hy6.lt
          have hoz7 := hoz.below hb7
          generalize w6.alloc (.cells #[.int .i64 z.r.k, .int .i64 z.r.pr, .int .i64 z.r.to, .int .i64 z.r.po, .int .i64 z.r.x.v, .int .i64 z.r.x.m, .int .u8 z.r.x.b0, .int .u8 z.r.x.b1, .int .u8 z.r.x.b2, .int .u8 z.r.x.i0, .int .u8 z.r.x.i1, .int .u8 z.r.x.i2, .slice z.A z.r.os.length z.c] 31) = w7 at *
          obtain ⟨gz, hgz⟩ : ∃ g, g = w6.heap.size := ⟨_, rfl⟩
          rw [← hgz] at hz7 ⊢
          clear hP6 hB6 hl6 hb7 hoy6 hoz hy6 hgz
          as_aux_lemma =>
            have n0 : (tq != tq) = false := by simp
            have n1 : (tq == tq) = true := by simp
            have n2 : (tb != tb) = false := by simp
            have n3 : (tb == tb) = true := by simp
            have n4 : (dt != dt) = false := by simp
            have n5 : (dt == dt) = true := by simp
            have hyc : ∀ (k : Nat) (u : Value), [.int .i64 y.r.k, .int .i64 y.r.pr, .int .i64 y.r.to, .int .i64 y.r.po, .int .i64 y.r.x.v, .int .i64 y.r.x.m, .int .u8 y.r.x.b0, .int .u8 y.r.x.b1, .int .u8 y.r.x.b2, .int .u8 y.r.x.i0, .int .u8 y.r.x.i1, .int .u8 y.r.x.i2, .slice y.A y.r.os.length y.c][k]? = some u → w7.cell? ⟨gx, 0 + k, none⟩ = some u := fun k u h => by rw [Nat.zero_add]; exact hy7.cell k h
            have hzc : ∀ (k : Nat) (u : Value), [.int .i64 z.r.k, .int .i64 z.r.pr, .int .i64 z.r.to, .int .i64 z.r.po, .int .i64 z.r.x.v, .int .i64 z.r.x.m, .int .u8 z.r.x.b0, .int .u8 z.r.x.b1, .int .u8 z.r.x.b2, .int .u8 z.r.x.i0, .int .u8 z.r.x.i1, .int .u8 z.r.x.i2, .slice z.A z.r.os.length z.c][k]? = some u → w7.cell? ⟨gz, 0 + k, none⟩ = some u := fun k u h => by rw [Nat.zero_add]; exact hz7.cell k h
            go_upto_region 16 with (first | refine wpList_load_cells (vs := [.int .i64 y.r.k, .int .i64 y.r.pr, .int .i64 y.r.to, .int .i64 y.r.po, .int .i64 y.r.x.v, .int .i64 y.r.x.m, .int .u8 y.r.x.b0, .int .u8 y.r.x.b1, .int .u8 y.r.x.b2, .int .u8 y.r.x.i0, .int .u8 y.r.x.i1, .int .u8 y.r.x.i2, .slice y.A y.r.os.length y.c]) (by rfl) (.tmp 15) rfl rfl hyc agg_rule ?_ | refine wpList_load_cells (vs := [.int .i64 z.r.k, .int .i64 z.r.pr, .int .i64 z.r.to, .int .i64 z.r.po, .int .i64 z.r.x.v, .int .i64 z.r.x.m, .int .u8 z.r.x.b0, .int .u8 z.r.x.b1, .int .u8 z.r.x.b2, .int .u8 z.r.x.i0, .int .u8 z.r.x.i1, .int .u8 z.r.x.i2, .slice z.A z.r.os.length z.c]) (by rfl) (.tmp 17) rfl rfl hzc agg_rule ?_)
            clear hyc hzc
            refine (refSame8_any y z hoy7 hoz7).mono ?_
            rintro e w8 ⟨rfl, hb8⟩
            rw [HZR.out, sameR_self]
            have hP8 := hP7.below hb8
            have hy8 := hy7.below hb8 hy7.lt
            have hoy8 := hoy7.below hb8
            have hB8 := hB7.trans (hb8.mono hl7)
            clear hP7 hy7 hoy7 hoz7 hB7 hl7 hb8 hz7
            obtain ⟨N, hN⟩ : ∃ N, N = y.r.os.length := ⟨_, rfl⟩
            have HWY := Kp.mk (fun hn => hoy8.wr hn)
            have HN := Kp.mk hN
            rw [← hN] at hy8
            clear hN hoy8
            as_aux_lemma =>
              by_cases hn : (0 : Int) < N
              · obtain ⟨b, off, eA, hw, hbl⟩ := HWY.out (by have := HN.out; omega)
                have HZB := Kp.mk (show Z ≤ b from HFY.out (by have := HN.out; omega) _ eA)
                rw [← HN.out] at hw
                rw [eA] at hy8
                have hNm : (N : Int) ≤ 9223372036854775807 := by have := HDP.out.os hP8.facts.1; have := HN.out; omega
                clear hn eA hbl HWY HN
                go_upto_region 18 with fail
                clear n0 n1 n2 n3 n4 n5
                go_loopw [19] (fun s19 wx => ∃ k2 : Nat, s19 = .int .i64 k2 ∧ k2 ≤ N ∧ PX (fun b => b < Z) wx lo lo m room l2 l2 ∧ Vb 31 wx gx [.int .i64 y.r.k, .int .i64 y.r.pr, .int .i64 y.r.to, .int .i64 y.r.po, .int .i64 y.r.x.v, .int .i64 y.r.x.m, .int .u8 y.r.x.b0, .int .u8 y.r.x.b1, .int .u8 y.r.x.b2, .int .u8 y.r.x.i0, .int .u8 y.r.x.i1, .int .u8 y.r.x.i2, .slice (some ⟨b, off, none⟩) N y.c] ∧ Wr wx b off N ∧ Below lo W wx) (fun s19 _ => N - (intOf s19).toNat)
                case atStart => exact ⟨0, rfl, Nat.zero_le _, hP8, hy8, hw, hB8⟩
                case round =>
                clear hP8 hy8 hw hB8
                obtain ⟨k2, rfl, hk2, hP8, hy8, hw, hB8⟩ := hrel
                have c12 := hy8.cell 12 rfl
                by_cases hlt3 : (k2 : Int) < N
                · obtain ⟨⟨u, hu⟩, hf⟩ := hw.facts (i := k2) (by omega)
                  have hP9 := Kp.mk (hP8.outx (j := off + k2 * 4) (u := .int .i64 (-9)) (fun j hj => by have := HZB.out; omega) hw)
                  have hy9 := Kp.mk (hy8.other (hw.ne hy8 (by decide)) (off + k2 * 4) (.int .i64 (-9)))
                  have hw9 := Kp.mk (hw.set (off + k2 * 4) (.int .i64 (-9)))
                  have hB9 := Kp.mk (hB8.trans (Stay.of_outw (lo := lo) (j := off + k2 * 4) (u := .int .i64 (-9)) hw (by have := HZB.out; have := HLZ.out; omega)).1)
                  clear hP8 hy8 hw hB8
                  go_wp2_with fail
                  go_roundw
                  case rel => exact ⟨k2 + 1, by go_num, by omega, hP9.out, hy9.out, hw9.out, hB9.out⟩
                  case measure => simp [intOf]; omega
                clear hw
                go_wp2_with fail
                go_roundw
                case rel => exact ⟨i + 1, l2, by go_num, by omega, hP8.mono (fun _ _ => trivial), hB8⟩
                case measure => simp [intOf]; omega
              obtain rfl : N = 0 := by omega
              have c12 := hy8.cell 12 rfl
              clear hn hy8 HWY HN
              go_upto_region 18 with fail
              clear n0 n1 n2 n3 n4 n5
              refine wp_loop_rounds (0 + 1) ?_
              rw [rounds_succ]
              go_wp2_with fail
              go_roundw
              case rel => exact ⟨i + 1, l2, by go_num, by omega, hP8.mono (fun _ _ => trivial), hB8⟩
              case measure => simp [intOf]; omega
    clear HD HL
    go_upto_region 24 with fail
    refine (px_rules hP).mono ?_
    rintro e u1 ⟨v1, its1, rfl, hr1, hl1, ho1, hb1⟩
    have HOA := Kp.mk (show ∀ y ∈ its1, y.r.os.length ≤ 1000000000 from Lf.os (room := room) (by rw [hl1]; exact hP.facts.1))
    have hP1 := hP.low.below hb1
    obtain ⟨Z, hZ⟩ : ∃ Z, Z = wr.heap.size := ⟨_, rfl⟩
    rw [← hZ] at hP1 ho1
    have hloZ : lo ≤ Z := by have := HLO.out; have := hB.size; omega
    have hB1 := hB.trans (hb1.mono (by omega))
    clear hP hB
    go_upto_region 25 with fail
    refine (px_mRules hP1).mono ?_
    rintro e u2 ⟨v2, its2, rfl, hr2, hl2, ho2, hb2⟩
    go_upto_region 25 with fail
    refine (mSame (hr1.below hb2) hr2 (fun y hy => (ho1 y hy).1.below hb2) ho2 (hl1.trans hl2.symm)).mono ?_
    rintro e u3 ⟨rfl, hb3⟩
    have hb13 := hb2.trans (hb3.mono hb2.size)
    have hr3 := hr1.below hb13
    have hO := ow_of (Z := Z) (fun y hy => ⟨(ho1 y hy).1.below hb13, (ho1 y hy).2⟩)
    have hP3 := hP1.below hb13
    have hB3 := hB1.trans (hb13.mono (by have := HLO.out; have := hB1.size; omega))
    clear hr1 hl1 ho1 hb1 hr2 hl2 ho2 hb2 hb3 hb13 hP1 hB1 hZ
    rcases hr3 with ⟨rfl, rfl⟩ | ⟨g, ys, rfl, hrow, hmx⟩
    · go_upto_region 26 with fail
      refine wp_loop_rounds (0 + 1) ?_
      rw [rounds_succ]
      go_upto_region 32 with fail
      go_wp2_with fail
      refine (px_rules hP3).mono ?_
      rintro e f1 ⟨v3, its3, rfl, hr3, hl3, ho3, hb3⟩
      go_wp2_with fail
      refine (px_mRules (hP3.below hb3)).mono ?_
      rintro e f2 ⟨v4, its4, rfl, hr4, hl4, ho4, hb4⟩
      go_wp2_with fail
      refine (mSame (hr3.below hb4) hr4 (fun y hy => (ho3 y hy).1.below hb4) ho4 (hl3.trans hl4.symm)).mono ?_
      rintro e f3 ⟨rfl, hb5⟩
      have HBF := Kp.mk (hB3.trans ((hb3.trans ((hb4.trans (hb5.mono hb4.size)).mono hb3.size)).mono (by have := HLO.out; have := hB3.size; omega)))
      have HZF := Kp.mk (show lo ≤ f3.heap.size by have := HLO.out; have := HBF.out.size; omega)
      clear hr3 hl3 ho3 hb3 hr4 hl4 ho4 hb4 hb5 hP3 hB3
      go_wp2_with fail
      refine (worksT_any _).mono ?_
      rintro e f4 ⟨rfl, hb6⟩
      have HBG := Kp.mk (HBF.out.trans (hb6.mono HZF.out))
      clear hb6
      go_wp2_with fail
      go_ret
      exact ⟨rfl, HBG.out⟩
    obtain ⟨N, hN⟩ : ∃ N, N = its1.length := ⟨_, rfl⟩
    rw [← hN] at hmx ⊢
    have HN := Kp.mk hN
    clear hN
    have hNm : (N : Int) ≤ 9223372036854775807 := by unfold maxLen at hmx; omega
    clear hmx
    go_upto_region 26 with fail
    go_loopw [22] (fun s22 wt => ∃ i2 : Nat, s22 = .int .i64 i2 ∧ i2 ≤ N ∧ PX (fun b => b < Z) wt lo lo m room l l ∧ Rowb wt g (its1 ++ ys) ∧ Ow Z wt its1 ∧ Below lo W wt) (fun s22 _ => N - (intOf s22).toNat)
    case atStart => exact ⟨0, rfl, Nat.zero_le _, hP3, hrow, hO, hB3⟩
    case round =>
    clear hP3 hrow hO hB3
    obtain ⟨i2, rfl, hi2, hP3, hrow, hO, hB3⟩ := hrel
    by_cases hlt2 : (i2 : Int) < N
    · obtain ⟨y, hy⟩ : ∃ y, its1[i2]? = some y := ⟨_, List.getElem?_eq_getElem (by have := HN.out; omega)⟩
      have hyz : (its1 ++ ys)[i2]? = some y := by rw [List.getElem?_append_left (by have := HN.out; omega)]; exact hy
      have HQ := Kp.mk (fl_get (its1 ++ ys) i2 12 y hyz (by omega))
      have HO := Kp.mk (hO i2 y hy)
      have HOS := Kp.mk (HOA.out y (List.mem_of_getElem? hy))
      clear hy hyz
      have d12 := Vb.cell hrow (i2 * 13 + 12) (HQ.out.trans rfl)
      obtain ⟨M, hM⟩ : ∃ M, M = y.r.os.length := ⟨_, rfl⟩
      have HM := Kp.mk hM
      rw [← hM] at d12
      clear hM
      by_cases hn : (0 : Int) < M
      · obtain ⟨b, off, eA, hw, hZb⟩ := HO.out (by have := HM.out; omega)
        rw [← HM.out] at hw
        rw [eA] at d12
        have HQ2 := Kp.mk (show ((its1 ++ ys).flatMap ics)[i2 * 13 + 12]? = some (.slice (some ⟨b, off, none⟩) M y.c) by rw [HQ.out, HM.out, ← eA]; rfl)
        have HZ := Kp.mk hZb
        have hMm : (M : Int) ≤ 9223372036854775807 := by have := HOS.out; have := HM.out; omega
        clear eA hZb HO HQ HM hn
        go_upto_region 29 with fail
        clear d12
        go_loopw [23] (fun s23 wx => ∃ k2 : Nat, s23 = .int .i64 k2 ∧ k2 ≤ M ∧ PX (fun b => b < Z) wx lo lo m room l l ∧ Rowb wx g (its1 ++ ys) ∧ Ow Z wx its1 ∧ Wr wx b off M ∧ Below lo W wx) (fun s23 _ => M - (intOf s23).toNat)
        case atStart => exact ⟨0, rfl, Nat.zero_le _, hP3, hrow, hO, hw, hB3⟩
        case round =>
        clear hP3 hrow hO hB3 hw
        obtain ⟨k2, rfl, hk2, hP3, hrow, hO, hw, hB3⟩ := hrel
        have d12 := Vb.cell hrow (i2 * 13 + 12) HQ2.out
        by_cases hlt3 : (k2 : Int) < M
        · obtain ⟨⟨u, hu⟩, hf⟩ := hw.facts (i := k2) (by omega)
          have hP7 := Kp.mk (hP3.outx (j := off + k2 * 4) (u := .int .i64 (-9)) (fun j hj => by have := HZ.out; omega) hw)
          have hr7 := Kp.mk (Vb.other hrow (hw.ne hrow (by decide)) (off + k2 * 4) (.int .i64 (-9)))
          have hO7 := Kp.mk (hO.outw (j := off + k2 * 4) (u := .int .i64 (-9)) hw)
          have hw7 := Kp.mk (hw.set (off + k2 * 4) (.int .i64 (-9)))
          have hB7 := Kp.mk (hB3.trans (Stay.of_outw (lo := lo) (j := off + k2 * 4) (u := .int .i64 (-9)) hw (by have := HZ.out; omega)).1)
          clear hP3 hrow hO hw hB3
          go_wp2_with fail
          go_roundw
          case rel => exact ⟨k2 + 1, by go_num, by omega, hP7.out, hr7.out, hO7.out, hw7.out, hB7.out⟩
          case measure => simp [intOf]; omega
        clear hw
        go_wp2_with fail
        go_roundw
        case rel => exact ⟨i2 + 1, by go_num, by omega, hP3, hrow, hO, hB3⟩
        case measure => simp [intOf]; omega
      obtain rfl : M = 0 := by omega
      clear hn HO HQ HM
      go_upto_region 29 with fail
      refine wp_loop_rounds (0 + 1) ?_
      rw [rounds_succ]
      go_wp2_with fail
      go_roundw
      case rel => exact ⟨i2 + 1, by go_num, by omega, hP3, hrow, hO, hB3⟩
      case measure => simp [intOf]; omega
    clear hrow hO
    go_upto_region 32 with fail
    go_wp2_with fail
    refine (px_rules hP3).mono ?_
    rintro e f1 ⟨v3, its3, rfl, hr3, hl3, ho3, hb3⟩
    go_wp2_with fail
    refine (px_mRules (hP3.below hb3)).mono ?_
    rintro e f2 ⟨v4, its4, rfl, hr4, hl4, ho4, hb4⟩
    go_wp2_with fail
    refine (mSame (hr3.below hb4) hr4 (fun y hy => (ho3 y hy).1.below hb4) ho4 (hl3.trans hl4.symm)).mono ?_
    rintro e f3 ⟨rfl, hb5⟩
    have HBF := Kp.mk (hB3.trans ((hb3.trans ((hb4.trans (hb5.mono hb4.size)).mono hb3.size)).mono (by have := HLO.out; have := hB3.size; omega)))
    have HZF := Kp.mk (show lo ≤ f3.heap.size by have := HLO.out; have := HBF.out.size; omega)
    clear hr3 hl3 ho3 hb3 hr4 hl4 ho4 hb4 hb5 hP3 hB3
    go_wp2_with fail
    refine (worksT_any _).mono ?_
    rintro e f4 ⟨rfl, hb6⟩
    have HBG := Kp.mk (HBF.out.trans (hb6.mono HZF.out))
    clear hb6
    go_wp2_with fail
    go_ret
    exact ⟨rfl, HBG.out⟩
  clear HD HL
  go_upto_region 24 with fail
  refine (px_rules hP).mono ?_
  rintro e u1 ⟨v1, its1, rfl, hr1, hl1, ho1, hb1⟩
  have HOA := Kp.mk (show ∀ y ∈ its1, y.r.os.length ≤ 1000000000 from Lf.os (room := room) (by rw [hl1]; exact hP.facts.1))
  have hP1 := hP.low.below hb1
  obtain ⟨Z, hZ⟩ : ∃ Z, Z = wr.heap.size := ⟨_, rfl⟩
  rw [← hZ] at hP1 ho1
  have hloZ : lo ≤ Z := by have := HLO.out; have := hB.size; omega
  have hB1 := hB.trans (hb1.mono (by omega))
  clear hP hB
  go_upto_region 25 with fail
  refine (px_mRules hP1).mono ?_
  rintro e u2 ⟨v2, its2, rfl, hr2, hl2, ho2, hb2⟩
  go_upto_region 25 with fail
  refine (mSame (hr1.below hb2) hr2 (fun y hy => (ho1 y hy).1.below hb2) ho2 (hl1.trans hl2.symm)).mono ?_
  rintro e u3 ⟨rfl, hb3⟩
  have hb13 := hb2.trans (hb3.mono hb2.size)
  have hr3 := hr1.below hb13
  have hO := ow_of (Z := Z) (fun y hy => ⟨(ho1 y hy).1.below hb13, (ho1 y hy).2⟩)
  have hP3 := hP1.below hb13
  have hB3 := hB1.trans (hb13.mono (by have := HLO.out; have := hB1.size; omega))
  clear hr1 hl1 ho1 hb1 hr2 hl2 ho2 hb2 hb3 hb13 hP1 hB1 hZ
  rcases hr3 with ⟨rfl, rfl⟩ | ⟨g, ys, rfl, hrow, hmx⟩
  · go_upto_region 26 with fail
    refine wp_loop_rounds (0 + 1) ?_
    rw [rounds_succ]
    go_upto_region 32 with fail
    go_wp2_with fail
    refine (px_rules hP3).mono ?_
    rintro e f1 ⟨v3, its3, rfl, hr3, hl3, ho3, hb3⟩
    go_wp2_with fail
    refine (px_mRules (hP3.below hb3)).mono ?_
    rintro e f2 ⟨v4, its4, rfl, hr4, hl4, ho4, hb4⟩
    go_wp2_with fail
    refine (mSame (hr3.below hb4) hr4 (fun y hy => (ho3 y hy).1.below hb4) ho4 (hl3.trans hl4.symm)).mono ?_
    rintro e f3 ⟨rfl, hb5⟩
    have HBF := Kp.mk (hB3.trans ((hb3.trans ((hb4.trans (hb5.mono hb4.size)).mono hb3.size)).mono (by have := HLO.out; have := hB3.size; omega)))
    have HZF := Kp.mk (show lo ≤ f3.heap.size by have := HLO.out; have := HBF.out.size; omega)
    clear hr3 hl3 ho3 hb3 hr4 hl4 ho4 hb4 hb5 hP3 hB3
    go_wp2_with fail
    refine (worksT_any _).mono ?_
    rintro e f4 ⟨rfl, hb6⟩
    have HBG := Kp.mk (HBF.out.trans (hb6.mono HZF.out))
    clear hb6
    go_wp2_with fail
    go_ret
    exact ⟨rfl, HBG.out⟩
  obtain ⟨N, hN⟩ : ∃ N, N = its1.length := ⟨_, rfl⟩
  rw [← hN] at hmx ⊢
  have HN := Kp.mk hN
  clear hN
  have hNm : (N : Int) ≤ 9223372036854775807 := by unfold maxLen at hmx; omega
  clear hmx
  go_upto_region 26 with fail
  go_loopw [22] (fun s22 wt => ∃ i2 : Nat, s22 = .int .i64 i2 ∧ i2 ≤ N ∧ PX (fun b => b < Z) wt lo lo m room l l ∧ Rowb wt g (its1 ++ ys) ∧ Ow Z wt its1 ∧ Below lo W wt) (fun s22 _ => N - (intOf s22).toNat)
  case atStart => exact ⟨0, rfl, Nat.zero_le _, hP3, hrow, hO, hB3⟩
  case round =>
  clear hP3 hrow hO hB3
  obtain ⟨i2, rfl, hi2, hP3, hrow, hO, hB3⟩ := hrel
  by_cases hlt2 : (i2 : Int) < N
  · obtain ⟨y, hy⟩ : ∃ y, its1[i2]? = some y := ⟨_, List.getElem?_eq_getElem (by have := HN.out; omega)⟩
    have hyz : (its1 ++ ys)[i2]? = some y := by rw [List.getElem?_append_left (by have := HN.out; omega)]; exact hy
    have HQ := Kp.mk (fl_get (its1 ++ ys) i2 12 y hyz (by omega))
    have HO := Kp.mk (hO i2 y hy)
    have HOS := Kp.mk (HOA.out y (List.mem_of_getElem? hy))
    clear hy hyz
    have d12 := Vb.cell hrow (i2 * 13 + 12) (HQ.out.trans rfl)
    obtain ⟨M, hM⟩ : ∃ M, M = y.r.os.length := ⟨_, rfl⟩
    have HM := Kp.mk hM
    rw [← hM] at d12
    clear hM
    by_cases hn : (0 : Int) < M
    · obtain ⟨b, off, eA, hw, hZb⟩ := HO.out (by have := HM.out; omega)
      rw [← HM.out] at hw
      rw [eA] at d12
      have HQ2 := Kp.mk (show ((its1 ++ ys).flatMap ics)[i2 * 13 + 12]? = some (.slice (some ⟨b, off, none⟩) M y.c) by rw [HQ.out, HM.out, ← eA]; rfl)
      have HZ := Kp.mk hZb
      have hMm : (M : Int) ≤ 9223372036854775807 := by have := HOS.out; have := HM.out; omega
      clear eA hZb HO HQ HM hn
      go_upto_region 29 with fail
      clear d12
      go_loopw [23] (fun s23 wx => ∃ k2 : Nat, s23 = .int .i64 k2 ∧ k2 ≤ M ∧ PX (fun b => b < Z) wx lo lo m room l l ∧ Rowb wx g (its1 ++ ys) ∧ Ow Z wx its1 ∧ Wr wx b off M ∧ Below lo W wx) (fun s23 _ => M - (intOf s23).toNat)
      case atStart => exact ⟨0, rfl, Nat.zero_le _, hP3, hrow, hO, hw, hB3⟩
      case round =>
      clear hP3 hrow hO hB3 hw
      obtain ⟨k2, rfl, hk2, hP3, hrow, hO, hw, hB3⟩ := hrel
      have d12 := Vb.cell hrow (i2 * 13 + 12) HQ2.out
      by_cases hlt3 : (k2 : Int) < M
      · obtain ⟨⟨u, hu⟩, hf⟩ := hw.facts (i := k2) (by omega)
        have hP7 := Kp.mk (hP3.outx (j := off + k2 * 4) (u := .int .i64 (-9)) (fun j hj => by have := HZ.out; omega) hw)
        have hr7 := Kp.mk (Vb.other hrow (hw.ne hrow (by decide)) (off + k2 * 4) (.int .i64 (-9)))
        have hO7 := Kp.mk (hO.outw (j := off + k2 * 4) (u := .int .i64 (-9)) hw)
        have hw7 := Kp.mk (hw.set (off + k2 * 4) (.int .i64 (-9)))
        have hB7 := Kp.mk (hB3.trans (Stay.of_outw (lo := lo) (j := off + k2 * 4) (u := .int .i64 (-9)) hw (by have := HZ.out; omega)).1)
        clear hP3 hrow hO hw hB3
        go_wp2_with fail
        go_roundw
        case rel => exact ⟨k2 + 1, by go_num, by omega, hP7.out, hr7.out, hO7.out, hw7.out, hB7.out⟩
        case measure => simp [intOf]; omega
      clear hw
      go_wp2_with fail
      go_roundw
      case rel => exact ⟨i2 + 1, by go_num, by omega, hP3, hrow, hO, hB3⟩
      case measure => simp [intOf]; omega
    obtain rfl : M = 0 := by omega
    clear hn HO HQ HM
    go_upto_region 29 with fail
    refine wp_loop_rounds (0 + 1) ?_
    rw [rounds_succ]
    go_wp2_with fail
    go_roundw
    case rel => exact ⟨i2 + 1, by go_num, by omega, hP3, hrow, hO, hB3⟩
    case measure => simp [intOf]; omega
  clear hrow hO
  go_upto_region 32 with fail
  go_wp2_with fail
  refine (px_rules hP3).mono ?_
  rintro e f1 ⟨v3, its3, rfl, hr3, hl3, ho3, hb3⟩
  go_wp2_with fail
  refine (px_mRules (hP3.below hb3)).mono ?_
  rintro e f2 ⟨v4, its4, rfl, hr4, hl4, ho4, hb4⟩
  go_wp2_with fail
  refine (mSame (hr3.below hb4) hr4 (fun y hy => (ho3 y hy).1.below hb4) ho4 (hl3.trans hl4.symm)).mono ?_
  rintro e f3 ⟨rfl, hb5⟩
  have HBF := Kp.mk (hB3.trans ((hb3.trans ((hb4.trans (hb5.mono hb4.size)).mono hb3.size)).mono (by have := HLO.out; have := hB3.size; omega)))
  have HZF := Kp.mk (show lo ≤ f3.heap.size by have := HLO.out; have := HBF.out.size; omega)
  clear hr3 hl3 ho3 hb3 hr4 hl4 ho4 hb4 hb5 hP3 hB3
  go_wp2_with fail
  refine (worksT_any _).mono ?_
  rintro e f4 ⟨rfl, hb6⟩
  have HBG := Kp.mk (HBF.out.trans (hb6.mono HZF.out))
  clear hb6
  go_wp2_with fail
  go_ret
  exact ⟨rfl, HBG.out⟩
end Go.Proofs.Ytcolklkjaifplaa.Oct
