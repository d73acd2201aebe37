import Derived.Test.YtnoflfbcgbhipaaGreatSesY
import Derived.BigQuiet
import Derived.LoopTactic
set_option linter.unusedSimpArgs false
set_option linter.unusedVariables false
set_option maxRecDepth 100000
set_option maxHeartbeats 8000000
namespace Go.Proofs.YtnoflfbcgbhipaaGreat.Oct
open Go.RowKit
def wd0 : Wd := ⟨⟨3, none⟩, ⟨3, 1, none⟩, 0, 1, 0, [], 0, fun _ => [], fun _ => 0, true⟩
theorem zero_wd (lb pb : Nat) : ((((Tryz.zeroCells66.setIfInBounds 0 (.pointer (some ⟨lb, 0, none⟩))).setIfInBounds 1 (.pointer (some ⟨pb, 0, none⟩))).setIfInBounds 3 (.int .i64 1)).setIfInBounds 1031 (.bool true)) = (wcl wd0 ⟨lb, bk0 lb, lb, pb, bk0 pb, 0, .slice none 0 0, fun _ => .slice none 0 0⟩).toArray := by kernel_rfl
theorem Vr_nil0 (w : World) (T : TypeId) (base : Nat) : Vr T w base (.slice none 0 0) 0 [] := World.ownsRow_nil w base _ 1
theorem begun_yes (w : World) : Calls Tryz.prog 28 #[] w fun en w' => ∃ wb K, en = .returned (.pointer (some ⟨wb, 0, none⟩)) ∧ Ww w w' wb K wd0 := by
 go_enter Tryz.func28, Tryz.ntmps28
 go_wp2_with fail
 refine (newLine_yes w 3 (by decide)).mono ?_
 rintro en w1 ⟨rfl, hl1, hb1⟩
 go_wp2_with fail
 refine (newPort_yes w1 3 1 (by decide) (by decide)).mono ?_
 rintro en w2 ⟨pb, gq, rfl, hp2, hn1, hn2, hb2⟩
 have h : LP w w2 _ _ _ _ _ _ ⟨3, none⟩ ⟨3, 1, none⟩ := LP.new hl1 hb1 hp2 hn1 hn2 hb2
 have HH := Kp.mk h
 clear h hl1 hb1 hp2 hn1 hn2 hb2
 go_wp2_with fail
 rw [zero_wd]
 go_ret
 have hb := below_alloc w2 (.cells (wcl wd0 ⟨w.heap.size, bk0 w.heap.size, w.heap.size, pb, bk0 pb, 0, .slice none 0 0, fun _ => .slice none 0 0⟩).toArray 66)
 have h := HH.out.below hb
 refine ⟨w2.heap.size, ⟨w.heap.size, bk0 w.heap.size, w.heap.size, pb, bk0 pb, gq, .slice none 0 0, fun _ => .slice none 0 0⟩, rfl, ?_⟩
 exact ⟨Vb.new _ w2 _, h.ln, h.pn, Said.nil0 _ _, fun j hj => Vr_nil0 _ _ _, fun i j _ _ _ k e => by simp [Value.ownBlock] at e, h.dj, h.nl, h.np, HH.out.old.size, h.old⟩
def Wd.got (x : Wd) (r g : Nat) : Wd := { x with gt := updF x.gt r g }
theorem Wd.got_got (x : Wd) (r a b : Nat) : (x.got r a).got r b = x.got r b := by
 unfold Wd.got
 simp only
 congr 1
 funext i
 unfold updF
 split <;> rfl
theorem Wd.got_self (x : Wd) (r : Nat) : x.got r (x.gt r) = x := by
 unfold Wd.got updF
 have : (fun i => if i = r then x.gt r else x.gt i) = x.gt := by
  funext i
  split
  ·rename_i e; rw [e]
  ·rfl
 rw [this]
section
variable {W w w' : World} {wb : Nat} {K : Wk} {x : Wd}
theorem Ww.got (h : Ww W w wb K x) {r : Nat} (hr : r < 512) (g : Nat) : Ww W (w.setCell ⟨wb, 519 + r, none⟩ (.int .i64 (g : Nat))) wb K (x.got r g) :=
 h.cell (519 + r) _ (wcl_setGot x K hr g) ⟨rfl, rfl, rfl, rfl⟩ ⟨rfl, rfl, rfl, rfl, rfl, rfl, rfl, rfl⟩
theorem Ww.drew (h : Ww W w wb K x) (n : Nat) : Ww W (w.drewN n) wb K x := h.below (below_drewN (Below.refl _ _) n)
def Follow (row : List Int) (g : Nat) (L : List OrdV) : Prop := ∀ i o, L[i]? = some o → o.k = 6 ∧ row[g + i]? = some o.n
structure Tr (W w0 : World) (wb : Nat) (K : Wk) (x : Wd) (base : Nat) (A : Option Addr) (n c : Nat) (Lt : List Ov) (r j : Nat) (wr : World) : Prop where
 ww : Ww W wr wb K (x.got r (x.gt r + j))
 vo : Vo wr base (.slice A n c) n Lt
 ch : Ch (fun k => k = wb) w0 wr
theorem told_yes (h : Ww W w wb K x) {base n c : Nat} {A : Option Addr} {Lt : List Ov} (hv : Vo w base (.slice A n c) n Lt) {r : Nat} (hr : r < 512) (hF : Follow (x.rl r) (x.gt r) (Lt.map Ov.o)) : Calls Tryz.prog 64 #[.pointer (some ⟨wb, 0, none⟩), .slice A n c, K.rv r, .pointer (some ⟨wb, 519 + r, none⟩)] w fun en w' => en = .returned (.tuple #[]) ∧ Ww W w' wb K (x.got r (x.gt r + n)) ∧ Ch (fun k => k = wb) w w' := by
 obtain ⟨RA, RC, eR, hRC, hRM, _, _⟩ := (h.rows r hr).form
 have HN := Kp.mk (show n ≤ 9223372036854775807 from by have := hv.vod.max; omega)
 have HLn := Kp.mk hv.len
 have HT := Kp.mk (show Tr W w wb K x base A n c Lt r 0 w from ⟨by rw [Nat.add_zero, Wd.got_self]; exact h, hv, Ch.refl _ _⟩)
 have HM := Kp.mk (show (x.rl r).length ≤ 9223372036854775807 from by unfold maxLen at hRM; omega)
 have HRow := Kp.mk (fun (wr : World) (hw : Ww W wr wb K (x.got r (x.gt r))) => hw)
 have HER := Kp.mk eR
 have HF := Kp.mk hF
 clear h hv hF hRC hRM HRow
 rw [eR]
 clear eR
 generalize hng : (x.rl r).length = ng at *
 have HNG := Kp.mk hng
 clear hng
 go_enter Tryz.func64, Tryz.ntmps64
 go_upto_region 1 with fail
 go_loopw [8] (fun s8 wr => ∃ j : Nat, s8 = .int .i64 j ∧ Kp (j ≤ n) ∧ Kp (Tr W w wb K x base A n c Lt r j wr)) (fun s8 _ => (n - (intOf s8).toNat))
 case atStart => exact ⟨0, rfl, Kp.mk (Nat.zero_le _), HT⟩
 case round =>
  clear HT
  obtain ⟨j, rfl, HJ, HT⟩ := hrel
  by_cases hlt : (j : Int) < n
  rotate_left
  ·have e : j = n := by have := HJ.out; omega
   have hE := Kp.mk HT.out.ww
   rw [e] at hE
   have hC := Kp.mk HT.out.ch
   clear HT
   go_wp2_with fail
   go_end0
   exact ⟨rfl, hE.out, hC.out⟩
  obtain ⟨xo, hxo⟩ : ∃ xo, Lt[j]? = some xo := ⟨_, List.getElem?_eq_getElem (by have := HLn.out; omega)⟩
  have hf := HF.out j xo.o (by rw [List.getElem?_map, hxo]; rfl)
  obtain ⟨b, off, eA, _, hc⟩ := HT.out.vo.vod.at_ (by omega)
  subst eA
  have o0 := hc j xo hxo 0 (.int .i64 xo.o.k) rfl
  have o1 := hc j xo hxo 1 (.int .i64 xo.o.n) rfl
  rw [hf.1] at o0
  rw [Nat.add_zero] at o0
  have hrw := HT.out.ww.rows r hr
  rw [HER.out] at hrw
  have hgl : x.gt r + j < (x.rl r).length := (List.getElem?_eq_some_iff.1 hf.2).1
  have hrw2 : Vr 3 wr W.heap.size (.slice RA ng RC) ng ((x.rl r).map (Value.int .i64)) := by
   rw [show ((x.got r (x.gt r + j)).rl r).length = ng from HNG.out] at hrw
   exact hrw
  have hnl := HNG.out
  obtain ⟨rb, roff, eRA, _, hrc⟩ := hrw2.vd.at_ (by omega)
  subst eRA
  have r0 := hrc (x.gt r + j) (.int .i64 xo.o.n) (by rw [List.getElem?_map, hf.2]; rfl)
  have g0 := HT.out.ww.own.cell (519 + r) (wcl_got _ K hr)
  rw [show (x.got r (x.gt r + j)).gt r = x.gt r + j from updF_same _ _ _] at g0
  have HJ1 := Kp.mk (show wrap64 ((j : Int) + 1) = ((j + 1 : Nat) : Int) by have := HN.out; have := HJ.out; unfold wrap64; omega)
  have hgn : x.gt r + j < ng := by rw [← HNG.out]; exact hgl
  have HGN := Kp.mk hgn
  have hd0 : decide (ng ≤ x.gt r + j) = false := decide_eq_false (by omega)
  have hd1 : (xo.o.n != xo.o.n) = false := by simp
  have HW0 := Kp.mk (show wrap64 (((x.gt r + j : Nat) : Int) + 1) = ((x.gt r + (j + 1) : Nat) : Int) by have := HM.out; unfold wrap64; omega)
  clear hc hrc hrw hrw2 hnl hf hgl
  generalize xo.o.n = z at *
  obtain ⟨g, eg⟩ : ∃ g, g = x.gt r + j := ⟨_, rfl⟩
  rw [← eg] at r0 g0 hgn hd0 HW0
  have HEG := Kp.mk eg
  have hgi : (g : Int) < (ng : Int) := by omega
  clear eg hgn
  have hw0 := HW0.out
  have f0 := HT.out.ww.own.free (519 + r)
  have f1 := fun k => (HT.out.ww.drew k).own.free (519 + r)
  go_upto_region 3 with fail
  go_quiet (fail)
  go_wp2_with fail
  have hw := (HT.out.ww.drew nq).got hr (g + 1)
  rw [Wd.got_got] at hw
  have hv := HT.out.vo.stay (Ch.of_below (S := fun k => k = wb) (below_drewN (Below.refl _ wr) nq)) (fun k e e2 => by obtain ⟨cs, h2⟩ := HT.out.vo.vb e; exact vb_ne h2 HT.out.ww.own (by decide) e2)
  clear f0 f1 o0 o1 r0 g0 hd0 hd1 hgi hw0
  rw [HJ1.out]
  have e1 : ((x.gt r : Nat) : Int) + ((j : Int) + 1) = ((x.gt r + (j + 1) : Nat) : Int) := by omega
  rw [e1]
  have hg1 := HEG.out
  rw [hg1, Nat.add_assoc] at hw
  refine ⟨⟨j + 1, rfl, Kp.mk (by omega), Kp.mk ⟨hw, ?_, ?_⟩⟩, ?_⟩
  ·exact hv.stay (Ch.of_grown (grownBy_set _ wb (519 + r) _)) (fun k e e2 => by obtain ⟨cs, h2⟩ := hv.vb e; exact vb_ne h2 (HT.out.ww.drew nq).own (by decide) e2)
  ·exact (HT.out.ch.trans (Ch.of_below (S := fun k => k = wb) (below_drewN (Below.refl _ wr) nq)) (fun _ _ e => e)).trans (Ch.of_grown (grownBy_set _ wb (519 + r) _)) (fun _ _ e => e)
  ·simp only [intOf]
   omega
end
theorem info_int17 : (Tryz.prog.info? 3).map (fun i => (i.zero, i.size, i.bytes)) = some (some (.int .i64 0), 1, 8) := by kernel_rfl
theorem wcl_setWire (x : Wd) (K : Wk) (v : Value) (L : List Ms) : (wcl x K).set 5 v = wcl { x with wire := L } { K with wv := v } := by
 unfold wcl
 rfl
section
variable {W w w' : World} {wb : Nat} {K : Wk} {x : Wd}
theorem Ww.wire2 (h : Ww W w wb K x) (ty : TypeId) {A : Option Addr} {m c base2 : Nat} {L2 : List Ms} (h2 : Said w base2 (.slice A m c) m L2) (hsz : x.wire.length + m ≤ 100000) :
  ∃ A' c' w', (Builtin.append_ #[37, 37] ty #[K.wv, .slice A m c]).run Tryz.prog w = .ok (.slice A' (x.wire.length + m) c') w' ∧ Vb 66 w' wb (wcl x K) ∧ w.heap.size ≤ w'.heap.size ∧ Ww W (w'.setCell ⟨wb, 5, none⟩ (.slice A' (x.wire.length + m) c')) wb { K with wv := .slice A' (x.wire.length + m) c' } { x with wire := x.wire ++ L2 } ∧ Ch (fun k => K.wv.ownBlock = some k ∨ k = wb) w (w'.setCell ⟨wb, 5, none⟩ (.slice A' (x.wire.length + m) c')) ∧ (∀ k, (Value.slice A' (x.wire.length + m) c').ownBlock = some k → K.wv.ownBlock = some k ∨ w.heap.size ≤ k) := by
 obtain ⟨A', c', w', hrun, hs, hc, hno⟩ := h.wi.app ty h2 hsz h.old.size
 have hseg : ∀ k, K.wv.ownBlock = some k → ∃ cs, Vb 54 w k cs := fun k e => h.wi.vb e
 have ho : Vb 66 w' wb (wcl x K) := (hc.block wb h.own.lt (fun e => by obtain ⟨cs, hv⟩ := hseg wb e; exact vb_ne hv h.own (by decide) rfl)).trans h.own
 have hn1 := h.wi.nob
 have hn2 := nob_vb h.own (by decide) (by decide)
 have hn := hn1.or hn2
 have hg := Ch.of_grown (grownBy_set w' wb 5 (.slice A' (x.wire.length + m) c'))
 have hall : Ch (fun k => K.wv.ownBlock = some k ∨ k = wb) w (w'.setCell ⟨wb, 5, none⟩ (.slice A' (x.wire.length + m) c')) := (hc.mono (fun _ _ e => .inl e)).trans hg (fun _ _ e => .inr e)
 refine ⟨A', c', w', hrun, ho, hc.size, ?_, hall, fun k e => ?_⟩
 rotate_left
 ·rcases hno with e3 | e3
  ·exact .inl (e3 ▸ e)
  ·exact .inr (e3 k e)
 refine ⟨?_, h.ln.stay hall (fun k e e2 => ?_) hn, h.pn.stay hall (fun k e e2 => ?_) hn, ?_, fun j hj => (h.rows j hj).stay hall (fun k e e2 => ?_), h.ap, h.dj, h.nl, h.np, h.nw, h.old.trans (hall.below (fun k e => ?_) h.old.size)⟩
 ·have := ho.set 5 (.slice A' (x.wire.length + m) c')
  rw [wcl_setWire x K _ (x.wire ++ L2)] at this
  exact this
 ·rcases e2 with e3 | e3
  ·obtain ⟨cs, hv⟩ := hseg k e3
   exact h.ln.nots hv (.inl rfl) e
  ·exact h.ln.nots h.own (.inr (.inr (.inl rfl))) (e3 ▸ e)
 ·rcases e2 with e3 | e3
  ·obtain ⟨cs, hv⟩ := hseg k e3
   exact h.pn.nots hv (.inl rfl) e
  ·exact h.pn.nots h.own (.inr (.inr (.inl rfl))) (e3 ▸ e)
 ·have hl : (x.wire ++ L2).length = x.wire.length + m := by have := h2.len; simp; omega
  show Said _ _ _ (x.wire ++ L2).length _
  rw [hl]
  exact hs.stay hg (fun k e e2 => by obtain ⟨cs, hv⟩ := hs.vb e; exact vb_ne hv ho (by decide) e2) (nob_vb ho (by decide) (by decide))
 ·obtain ⟨cs, hv⟩ := (h.rows j hj).vb e
  rcases e2 with e3 | e3
  ·obtain ⟨cs2, hv2⟩ := hseg k e3
   exact vb_ne hv hv2 (by decide) rfl
  ·exact vb_ne hv h.own (by decide) e3
 ·rcases e with e3 | e3
  ·exact (h.wi.os.lt k e3).1
  ·rw [e3]; exact h.nw
theorem Ww.wire (h : Ww W w wb K x) (ty : TypeId) {A : Option Addr} {m c base2 : Nat} {L2 : List Ms} (h2 : Said w base2 (.slice A m c) m L2) (hsz : x.wire.length + m ≤ 100000) :
  ∃ A' c' w', (Builtin.append_ #[37, 37] ty #[K.wv, .slice A m c]).run Tryz.prog w = .ok (.slice A' (x.wire.length + m) c') w' ∧ Vb 66 w' wb (wcl x K) ∧ w.heap.size ≤ w'.heap.size ∧ Ww W (w'.setCell ⟨wb, 5, none⟩ (.slice A' (x.wire.length + m) c')) wb { K with wv := .slice A' (x.wire.length + m) c' } { x with wire := x.wire ++ L2 } :=
 let ⟨A', c', w', h1, h2, h3, h4, _⟩ := h.wire2 ty h2 hsz
 ⟨A', c', w', h1, h2, h3, h4⟩
def wown (wb : Nat) (Z : Wk) (k : Nat) : Prop := lown Z.lb Z.lc Z.lq k ∨ lown Z.pb Z.gq Z.pq k ∨ k = wb ∨ Z.wv.ownBlock = some k
structure WT (w w' : World) (wb : Nat) (Z Z' : Wk) : Prop where
 ch : Ch (wown wb Z) w w'
 own : ∀ k, wown wb Z' k → wown wb Z k ∨ w.heap.size ≤ k
theorem Said.lt {base n : Nat} {v : Value} {L : List Ms} (h : Said w base v n L) {k : Nat} (e : v.ownBlock = some k) : k < w.heap.size := by
 obtain ⟨cs, hv⟩ := h.vb e
 exact hv.lt
theorem Ww.row (h : Ww W w wb K x) (ty : TypeId) {r : Nat} (hr : r < 512) {A : Option Addr} {B m c : Nat} {ys : List Int} (h2 : Vd w B A m c (ys.map (Value.int .i64))) (hsz : (x.rl r).length + m ≤ 1000000000) :
  ∃ A' c' w', (Builtin.append_ #[60, 60] ty #[K.rv r, .slice A m c]).run Tryz.prog w = .ok (.slice A' ((x.rl r).length + m) c') w' ∧ Vb 66 w' wb (wcl x K) ∧ w.heap.size ≤ w'.heap.size ∧ Ch (fun k => (K.rv r).ownBlock = some k) w w' ∧ LnS w' K.lb K.lq K.lc x.l ∧ PnS w' K.pb K.pq K.gq x.p ∧ Ww W (w'.setCell ⟨wb, 7 + r, none⟩ (.slice A' ((x.rl r).length + m) c')) wb { K with rv := updF K.rv r (.slice A' ((x.rl r).length + m) c') } { x with rl := updF x.rl r (x.rl r ++ ys) } := by
 obtain ⟨A', c', w', hrun, hs, hc, hno⟩ := run_appendV Tryz.underlying60 info_int17 rfl (by omega) ty (h.rows r hr) h2 (fun u hu => by obtain ⟨z, _, rfl⟩ := List.mem_map.1 hu; rfl) hsz h.old.size
 have hint : ∀ k, (K.rv r).ownBlock = some k → ∃ cs, Vb 3 w k cs := fun k e => (h.rows r hr).vb e
 have ho : Vb 66 w' wb (wcl x K) := (hc.block wb h.own.lt (fun e => by obtain ⟨cs, hv⟩ := hint wb e; exact vb_ne hv h.own (by decide) rfl)).trans h.own
 have hn1 : Nob w (fun k => (K.rv r).ownBlock = some k) := fun k cs m e => by
  obtain ⟨cs2, hv⟩ := hint k e
  exact nob_vb hv (by decide) (by decide) k cs m rfl
 have hn2 := nob_vb h.own (by decide) (by decide)
 have hn := hn1.or hn2
 have hg := Ch.of_grown (grownBy_set w' wb (7 + r) (.slice A' ((x.rl r).length + m) c'))
 have hall : Ch (fun k => (K.rv r).ownBlock = some k ∨ k = wb) w (w'.setCell ⟨wb, 7 + r, none⟩ (.slice A' ((x.rl r).length + m) c')) := (hc.mono (fun _ _ e => .inl e)).trans hg (fun _ _ e => .inr e)
 have hl1 : ∀ k, lown K.lb K.lc K.lq k → ¬ (K.rv r).ownBlock = some k := fun k e e3 => by obtain ⟨cs, hv⟩ := hint k e3; exact h.ln.nots hv (.inr (.inl rfl)) e
 have hp1 : ∀ k, lown K.pb K.gq K.pq k → ¬ (K.rv r).ownBlock = some k := fun k e e3 => by obtain ⟨cs, hv⟩ := hint k e3; exact h.pn.nots hv (.inr (.inl rfl)) e
 refine ⟨A', c', w', hrun, ho, hc.size, hc, h.ln.stay hc hl1 hn1, h.pn.stay hc hp1 hn1, ?_⟩
 have hrl : ∀ j, j < 512 → (updF K.rv r (Value.slice A' ((x.rl r).length + m) c') j = K.rv j ∧ j ≠ r) ∨ (updF K.rv r (Value.slice A' ((x.rl r).length + m) c') j = Value.slice A' ((x.rl r).length + m) c' ∧ j = r) := fun j hj => by
  by_cases e : j = r
  ·exact .inr ⟨by rw [e]; exact updF_same _ _ _, e⟩
  ·exact .inl ⟨updF_ne _ _ e, e⟩
 refine ⟨?_, h.ln.stay hall (fun k e e2 => ?_) hn, h.pn.stay hall (fun k e e2 => ?_) hn, h.wi.stay hall (fun k e e2 => ?_) hn, fun j hj => ?_, fun i j hi hj hij k e => ?_, h.dj, h.nl, h.np, h.nw, h.old.trans (hall.below (fun k e => ?_) h.old.size)⟩
 ·have := ho.set (7 + r) (.slice A' ((x.rl r).length + m) c')
  rw [wcl_setRow x K hr] at this
  exact this
 ·rcases e2 with e3 | e3
  ·exact hl1 k e e3
  ·exact h.ln.nots h.own (.inr (.inr (.inl rfl))) (e3 ▸ e)
 ·rcases e2 with e3 | e3
  ·exact hp1 k e e3
  ·exact h.pn.nots h.own (.inr (.inr (.inl rfl))) (e3 ▸ e)
 ·obtain ⟨cs, hv⟩ := h.wi.vb e
  rcases e2 with e3 | e3
  ·obtain ⟨cs2, hv2⟩ := hint k e3
   exact vb_ne hv hv2 (by decide) rfl
  ·exact vb_ne hv h.own (by decide) e3
 ·show Vr _ _ _ (updF K.rv r _ j) (updF x.rl r (x.rl r ++ ys) j).length ((updF x.rl r (x.rl r ++ ys) j).map _)
  rcases hrl j hj with ⟨e, hne⟩ | ⟨e, heq⟩
  ·rw [e, updF_ne _ _ hne]
   refine (h.rows j hj).stay hall (fun k e1 e2 => ?_)
   rcases e2 with e3 | e3
   ·exact h.ap j r hj hr hne k e1 e3
   ·obtain ⟨cs, hv⟩ := (h.rows j hj).vb e1
    exact vb_ne hv h.own (by decide) e3
  ·rw [e, heq, updF_same, List.map_append, List.length_append, show ys.length = m by have := h2.1; simpa using this]
   exact hs.stay hg (fun k e e2 => by obtain ⟨cs, hv⟩ := hs.vb e; exact vb_ne hv ho (by decide) e2)
 ·have hk : ∀ j, j < 512 → j ≠ r → ∀ k, (K.rv j).ownBlock = some k → (Value.slice A' ((x.rl r).length + m) c').ownBlock ≠ some k := fun j hj hjr k e e2 => by
   rcases hno with e3 | e3
   ·exact h.ap j r hj hr hjr k e (e3 ▸ e2)
   ·have := e3 k e2
    have := ((h.rows j hj).lt k e).2
    omega
  rcases hrl i hi with ⟨e1, hi1⟩ | ⟨e1, hi1⟩
  ·rcases hrl j hj with ⟨e2, hj1⟩ | ⟨e2, hj1⟩
   ·show (updF K.rv r _ j).ownBlock ≠ _
    rw [e2]
    exact h.ap i j hi hj hij k (by have e : (updF K.rv r _ i).ownBlock = some k := e; rw [e1] at e; exact e)
   ·show (updF K.rv r _ j).ownBlock ≠ _
    rw [e2]
    exact hk i hi hi1 k (by have e : (updF K.rv r _ i).ownBlock = some k := e; rw [e1] at e; exact e)
  ·rcases hrl j hj with ⟨e2, hj1⟩ | ⟨e2, hj1⟩
   ·show (updF K.rv r _ j).ownBlock ≠ _
    rw [e2]
    intro e3
    exact hk j hj hj1 k e3 (by have e : (updF K.rv r _ i).ownBlock = some k := e; rw [e1] at e; exact e)
   ·exact absurd (hi1.trans hj1.symm) hij
 ·rcases e with e3 | e3
  ·exact ((h.rows r hr).lt k e3).1
  ·rw [e3]; exact h.nw
end
end Go.Proofs.YtnoflfbcgbhipaaGreat.Oct
