import Derived.Test.YtnoflfbcgbhipaaGreatSesFx
set_option linter.unusedSimpArgs false
set_option linter.unusedVariables false
namespace Go.Proofs.YtnoflfbcgbhipaaGreat.Oct
open Go.RowKit
def Wd.come (x : Wd) (s : Sa) : Wd := if s.t = 0 then x.comesL s else x.comesP s
def Cok (x : Wd) (s : Sa) : Prop :=
 if s.t = 0 then (0 ≤ x.l.e ∧ x.l.e < 256) ∧ Follow (x.rl (256 + x.l.e.toNat)) (x.gt (256 + x.l.e.toNat)) (tells (x.l.gets s.ms x.now))
 else x.wire.length ≤ 99990 ∧ Follow (x.rl ((x.p.take s.ms x.now).e % 256).toNat) (x.gt ((x.p.take s.ms x.now).e % 256).toNat) (tells (x.p.gets s.ms x.now))
theorem Follow.nil (r : List Int) (g : Nat) : Follow r g [] := fun i o h => by simp at h
section
variable {W w w' : World} {wb : Nat} {Z : Wk} {x : Wd}
theorem come_any (h : Ww W w wb Z x) {m : Ms} (hm : Mok w m) (hc : Cok x m.abs) : Calls Tryz.prog 33 #[.pointer (some ⟨wb, 0, none⟩), m.x.v] w fun en w' => en = .returned (.tuple #[]) ∧ ∃ K', Ww W w' wb K' (x.come m.abs) ∧ WT w w' wb Z K' := by
 unfold Cok at hc
 by_cases ht : m.abs.t = 0
 ·rw [if_pos ht] at hc
  unfold Wd.come
  rw [if_pos ht]
  exact comesL_wt h hm ht hc.1 hc.2
 ·rw [if_neg ht] at hc
  unfold Wd.come
  rw [if_neg ht]
  exact comesP_wt h hm ht hc.1 hc.2
structure CL (W wr : World) (wb : Nat) (A : Option Addr) (n c : Nat) (L : List Ms) (x0 : Wd) (k : Nat) (Z : Wk) : Prop where
 ww : Ww W wr wb Z (((L.map Ms.abs).take k).foldl Wd.come x0)
 sd : Said wr W.heap.size (.slice A n c) n L
 no : ∀ b, (Value.slice A n c).ownBlock = some b → Z.wv.ownBlock ≠ some b
theorem CL.come {wr : World} {A : Option Addr} {n c k : Nat} {L : List Ms} {x0 : Wd} (h : CL W wr wb A n c L x0 k Z) {m : Ms} (hm : L[k]? = some m) (hc : Cok (((L.map Ms.abs).take k).foldl Wd.come x0) m.abs) : Calls Tryz.prog 33 #[.pointer (some ⟨wb, 0, none⟩), m.x.v] wr fun en w' => en = .returned (.tuple #[]) ∧ ∃ K', CL W w' wb A n c L x0 (k + 1) K' :=
 (come_any h.ww (h.sd.ok m (List.mem_of_getElem? hm)) hc).mono fun en w' ⟨h1, K', h2, h3⟩ => ⟨h1, K', by
  have e : (L.map Ms.abs).take (k + 1) = (L.map Ms.abs).take k ++ [m.abs] := by
   rw [List.take_add_one, List.getElem?_map, hm]
   rfl
  obtain ⟨k1, k2⟩ := h3.said h.ww h.sd h.no
  exact ⟨by rw [e, List.foldl_append]; exact h2, k1, k2⟩⟩
theorem Ww.dry (h : Ww W w wb Z x) : Ww W (w.setCell ⟨wb, 5, none⟩ (.slice none 0 0)) wb { Z with wv := .slice none 0 0 } { x with wire := [] } := by
 have hg := Ch.of_grown (grownBy_set w wb 5 (.slice none 0 0))
 have hno := nob_vb h.own (by decide) (by decide)
 refine ⟨by rw [← wcl_setWire x Z _ []]; exact h.own.set 5 _, h.ln.stay hg (fun k e e2 => h.ln.nots h.own (.inr (.inr (.inl rfl))) (e2 ▸ e)) hno, h.pn.stay hg (fun k e e2 => h.pn.nots h.own (.inr (.inr (.inl rfl))) (e2 ▸ e)) hno, Said.nil0 _ _, fun j hj => (h.rows j hj).stay hg (fun k e e2 => by obtain ⟨cs, hv⟩ := (h.rows j hj).vb e; exact vb_ne hv h.own (by decide) e2), h.ap, h.dj, h.nl, h.np, h.nw, h.old.trans (hg.below (fun k e => e ▸ h.nw) h.old.size)⟩
theorem Ww.dryS (h : Ww W w wb Z x) {A : Option Addr} {n c : Nat} (e : Z.wv = .slice A n c) (hn : x.wire.length = n) : CL W (w.setCell ⟨wb, 5, none⟩ (.slice none 0 0)) wb A n c x.wire { x with wire := [] } 0 { Z with wv := .slice none 0 0 } := by
 have hs := h.wi
 rw [e, hn] at hs
 refine ⟨h.dry, hs.stay (Ch.of_grown (grownBy_set w wb 5 (.slice none 0 0))) (fun k e e2 => by obtain ⟨cs, hv⟩ := hs.vb e; exact vb_ne hv h.own (by decide) e2) (nob_vb h.own (by decide) (by decide)), fun b _ => by simp [Value.ownBlock]⟩
end
end Go.Proofs.YtnoflfbcgbhipaaGreat.Oct
