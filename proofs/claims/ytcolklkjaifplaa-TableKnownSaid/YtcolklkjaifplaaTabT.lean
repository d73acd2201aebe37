/- A table as the statements use it: where it lies, what it holds, what stays. -/
import Derived.Test.YtcolklkjaifplaaTabN
import Derived.Test.YtcolklkjaifplaaTabO
namespace Go.Proofs.Ytcolklkjaifplaa.Oct
open Go.RowKit
set_option linter.unusedVariables false
set_option linter.unusedSimpArgs false

/-- A table at t, whose blocks lie from n up to m: the rules l, in order, all that may be. -/
def TS (n m : Nat) (room : Int) (w : World) (t : Nat) (l : List RuleV) : Prop :=
  ∃ v its, Tb w t v room its ∧ rls its = l ∧ Srt l ∧ (∀ x ∈ l, okR x) ∧ (n ≤ t ∧ t < m) ∧ (∀ k, v.ownBlock = some k → n ≤ k ∧ k < m) ∧ ((l.length : Int) ≤ room ∧ room ≤ 64) ∧ m ≤ w.heap.size ∧ (∀ y ∈ its, Liv (fun b => b < m) y)
/-- Nothing outside of n to m is turned, nor what is no table and no row of rules. -/
def Kpt (n m : Nat) (w w' : World) : Prop := (∀ k, k < w.heap.size → (k < n ∨ m ≤ k) → w'.heap[k]? = w.heap[k]?) ∧ (∀ (T : TypeId) g cs, T ≠ 42 → T ≠ 31 → Vb T w g cs → Vb T w' g cs) ∧ w'.os = w.os ∧ w'.tape = w.tape ∧ w'.output = w.output ∧ w.heap.size ≤ w'.heap.size
theorem Kpt.below {n m : Nat} {w w' : World} (h : Kpt n m w w') (hn : n ≤ w.heap.size) : Below n w w' := ⟨h.2.2.1, h.2.2.2.1, h.2.2.2.2.1, h.2.2.2.2.2, fun k hk => h.1 k (by omega) (.inl hk)⟩
theorem Kpt.of_below {n m : Nat} {w w' : World} (h : Below w.heap.size w w') : Kpt n m w w' := ⟨fun k hk _ => h.block k hk, fun T g cs _ _ hv => hv.below h hv.lt, h.os, h.tape, h.output, h.size⟩
theorem Kpt.of_fr {n m t : Nat} {v : Value} {w w' : World} {cs : List Value} {its : List It} (h : Fr2 t v.ownBlock w w') (ht : n ≤ t ∧ t < m) (hv : ∀ k, v.ownBlock = some k → n ≤ k ∧ k < m) (hb : Vb 42 w t cs) (hr : RowS w v its) : Kpt n m w w' :=
  ⟨fun k hk ho => h.block k hk (by omega) (fun e => by have := hv k e.symm; omega), fun T g cs' h1 h2 hg => (h.block g hg.lt (vb_ne hg hb h1) (fun e => by
    obtain ⟨_, ys, hrr⟩ := hr.lt g e.symm
    exact vb_ne hg hrr h2 rfl)).trans hg, h.os, h.tape, h.output, h.size⟩
theorem TS.keep {n m : Nat} {room : Int} {w w' : World} {t : Nat} {l : List RuleV} (h : TS n m room w t l) (hb : Below m w w') : TS n m room w' t l := by
  obtain ⟨v, its, hT, h1, h2, h3, h4, h5, h6, h7, h8⟩ := h
  refine ⟨v, its, ⟨hT.blk.below hb h4.2, hT.row.keep fun k hk => hb.block k (h5 k hk).2, fun x hx => ?_⟩, h1, h2, h3, h4, h5, h6, Nat.le_trans h7 hb.size, h8⟩
  have hO := hT.outs x hx
  have hL := h8 x hx
  refine ⟨⟨hO.ro.1, hO.ro.2.1, hO.ro.2.2.1, hO.ro.2.2.2.1, fun hn => ?_⟩, fun hn a e => ?_⟩
  · obtain ⟨b, off, e, hbl, hc⟩ := hO.ro.at_ hn
    have hbm := hL hn _ e
    refine ⟨b, off, e, by have := hb.size; omega, fun j o hj => ?_⟩
    have k : ∀ o, w'.cell? ⟨b, o, none⟩ = w.cell? ⟨b, o, none⟩ := fun o => hb.cell (p := ⟨b, o, none⟩) hbm
    rw [k, k, k, k]
    exact hc j o hj
  · obtain ⟨cur, hcur⟩ := hO.ty hn a e
    exact ⟨cur, (hb.block _ (hL hn a e)).trans hcur⟩
theorem TS.below {n m : Nat} {room : Int} {w w' : World} {t : Nat} {l : List RuleV} (h : TS n m room w t l) (hb : Below w.heap.size w w') : TS n m room w' t l := by
  have hm : m ≤ w.heap.size := by obtain ⟨v, its, hT, h1, h2, h3, h4, h5, h6, h7, h8⟩ := h; exact h7
  exact h.keep (hb.mono hm)
theorem TS.size {n m : Nat} {room : Int} {w : World} {t : Nat} {l : List RuleV} (h : TS n m room w t l) : n < m ∧ m ≤ w.heap.size := by
  obtain ⟨v, its, hT, h1, h2, h3, h4, h5, h6, h7, h8⟩ := h
  exact ⟨by omega, h7⟩
theorem TS.srt {n m : Nat} {room : Int} {w : World} {t : Nat} {l : List RuleV} (h : TS n m room w t l) : Srt l ∧ (∀ x ∈ l, okR x) ∧ (l.length : Int) ≤ room ∧ room ≤ 64 := by
  obtain ⟨v, its, hT, h1, h2, h3, h4, h5, h6, h7, h8⟩ := h
  exact ⟨h2, h3, h6⟩
theorem rls_filter (p : RuleV → Bool) (its : List It) : rls (its.filter (fun x => p x.r)) = (rls its).filter p := by
  unfold rls
  rw [List.filter_map]
  rfl
theorem ts_new (w : World) (room : Int) (h1 : 0 ≤ room) (h2 : room ≤ 64) : Calls Try.prog 18 #[.int .i64 room] w fun e w' => e = .returned (.tuple #[.pointer (some ⟨w.heap.size, 0, none⟩), .int .i64 0]) ∧ TS w.heap.size (w.heap.size + 1) room w' w.heap.size [] ∧ Below w.heap.size w w' ∧ w'.heap.size = w.heap.size + 1 := by
  refine (new_yes w room h1 h2).mono ?_
  rintro e w' ⟨rfl, hT, hb, hz⟩
  exact ⟨rfl, ⟨_, [], hT, rfl, List.Pairwise.nil, fun x hx => by simp at hx, by omega, fun k hk => by simp [Value.ownBlock] at hk, ⟨by simpa using h1, h2⟩, by omega, fun y hy => by simp at hy⟩, hb, hz⟩
section
variable {n m : Nat} {room : Int} {w : World} {t : Nat} {l : List RuleV}
theorem Nx.all {w : World} {v v' : Value} (h : Nx w v v') : ∀ k, v'.ownBlock = some k → v.ownBlock = some k ∨ w.heap.size ≤ k := fun k hk => h.elim (fun e => .inl (e ▸ hk)) (fun ⟨k2, e, h2⟩ => .inr (by rw [e] at hk; have := Option.some.inj hk; omega))
theorem TS.step {w' : World} {v v' : Value} {its its' : List It} (hT : Tb w t v room its) (ht : n ≤ t ∧ t < m) (hv : ∀ k, v.ownBlock = some k → n ≤ k ∧ k < m) (hm : m ≤ w.heap.size)
    (hT' : Tb w' t v' room its') (hF : Fr2 t v.ownBlock w w') (hN : ∀ k, v'.ownBlock = some k → v.ownBlock = some k ∨ w.heap.size ≤ k) (hS : Srt (rls its')) (hok : ∀ x ∈ rls its', okR x) (hlen : ((rls its').length : Int) ≤ room ∧ room ≤ 64) : TS n w'.heap.size room w' t (rls its') ∧ Kpt n m w w' := by
  refine ⟨⟨v', its', hT', rfl, hS, hok, ⟨ht.1, by have := hF.size; omega⟩, fun k hk => ?_, hlen, Nat.le_refl _, fun y hy hn a e => ?_⟩, Kpt.of_fr hF ht hv hT.blk hT.row⟩
  · have := (hT'.row.lt k hk).1
    rcases hN k hk with e | h2
    · have := hv k e; omega
    · omega
  · obtain ⟨b, off, e2, hb, _⟩ := (hT'.outs y hy).ro.at_ hn
    rw [e] at e2
    have := Option.some.inj e2
    rw [this]
    exact hb
theorem ts_add (h : TS n m room w t l) {x : It} (hx : Ob w x) (hxl : x.r.os.length ≤ 1000000000) : Calls Try.prog 10 #[.pointer (some ⟨t, 0, none⟩), .agg (ics x).toArray] w fun e w' => e = .returned (.int .i64 (addE room x.r l)) ∧ TS n w'.heap.size room w' t (addL room x.r l) ∧ Kpt n m w w' := by
  obtain ⟨v, its, hT, rfl, h2, h3, h4, h5, h6, h7, h8⟩ := h
  rw [rls_len] at h6
  refine (add_tab hT h2 (by omega) x hx.ro (Nat.le_refl _) hxl).mono ?_
  rintro e w' ⟨v', its', rfl, hr, hT', hF, hN, _⟩
  have hS : Srt (addL room x.r (rls its)) := by unfold addL; split; · exact put_srt h2
                                                · exact h2
  have hok : ∀ y ∈ addL room x.r (rls its), okR y := by
    intro y hy
    unfold addL at hy
    split at hy
    · rename_i he
      rcases mem_put hy with rfl | hy
      · unfold addE at he
        split at he
        · rename_i hc; exact (checkR_zero _).1 hc
        · rename_i hc; exact absurd he hc
      · exact h3 y hy
    · exact h3 y hy
  have hlen : ((addL room x.r (rls its)).length : Int) ≤ room := by
    unfold addL
    split
    · rename_i he
      have hp := put_len (r := x.r) h2
      have l1 := lo_hi (r := x.r) h2
      rw [rls_len] at hp
      unfold addE at he
      split at he
      · split at he
        · simp at he
        · rename_i hc
          rw [rls_len] at hc
          by_cases hlh : loP x.r (rls its) = hiP x.r (rls its)
          · have : ¬ ((its.length : Int) = room) := fun e => hc ⟨hlh, e⟩
            omega
          · omega
      · rename_i hc; exact absurd he hc
    · rw [rls_len]; exact h6.1
  rw [← hr] at hS hok hlen ⊢
  exact ⟨rfl, TS.step hT h4 h5 h7 hT' hF hN.all hS hok ⟨hlen, h6.2⟩⟩
theorem ts_del (h : TS n m room w t l) {x : It} (hx : Ob w x) : Calls Try.prog 11 #[.pointer (some ⟨t, 0, none⟩), .agg (ics x).toArray] w fun e w' => e = .returned (.int .i64 (delE x.r l)) ∧ TS n w'.heap.size room w' t (delL x.r l) ∧ Kpt n m w w' := by
  obtain ⟨v, its, hT, rfl, h2, h3, h4, h5, h6, h7, h8⟩ := h
  rw [rls_len] at h6
  refine (del_tab hT h2 (by omega) x hx.ro (Nat.le_refl _)).mono ?_
  rintro e w' ⟨v', its', rfl, hr, hT', hF, hN, _⟩
  have hsub : (delL x.r (rls its)).Sublist (rls its) := by unfold delL; split; · exact out_sub h2
                                                           · exact List.Sublist.refl _
  have hS : Srt (delL x.r (rls its)) := List.Pairwise.sublist hsub h2
  have hlen : ((delL x.r (rls its)).length : Int) ≤ room := by have := hsub.length_le; rw [rls_len] at this; omega
  have hok : ∀ y ∈ delL x.r (rls its), okR y := fun y hy => h3 y (hsub.subset hy)
  rw [← hr] at hS hok hlen ⊢
  exact ⟨rfl, TS.step hT h4 h5 h7 hT' hF hN.all hS hok ⟨hlen, h6.2⟩⟩
/-- What a mask takes away. -/
def loosL (mk : MaskV) (l : List RuleV) : List RuleV := l.filter (fun r => !loosP mk r)
theorem ts_loose (h : TS n m room w t l) (mk : MaskV) : Calls Try.prog 12 #[.pointer (some ⟨t, 0, none⟩), .agg (ms mk).toArray] w fun e w' => e = .returned (.int .i64 ((l.length - (loosL mk l).length : Nat))) ∧ TS n w'.heap.size room w' t (loosL mk l) ∧ Kpt n m w w' := by
  obtain ⟨v, its, hT, rfl, h2, h3, h4, h5, h6, h7, h8⟩ := h
  rw [rls_len] at h6
  refine (loose_tab hT (by omega) mk).mono ?_
  rintro e w' ⟨v', rfl, hT', hF, hN⟩
  have hr := rls_filter (fun r => !loosP mk r) its
  have hlen2 : (its.filter (fun x => !loosP mk x.r)).length = (loosL mk (rls its)).length := by rw [← rls_len, hr]; rfl
  have hsub : (loosL mk (rls its)).Sublist (rls its) := List.filter_sublist
  have hS : Srt (loosL mk (rls its)) := List.Pairwise.sublist hsub h2
  have hlen : ((loosL mk (rls its)).length : Int) ≤ room := by have := hsub.length_le; rw [rls_len] at this; omega
  have hok : ∀ y ∈ loosL mk (rls its), okR y := fun y hy => h3 y (hsub.subset hy)
  rw [hlen2, rls_len]
  rw [show loosL mk (rls its) = _ from hr.symm] at hS hok hlen ⊢
  exact ⟨rfl, TS.step hT h4 h5 h7 hT' hF hN.all hS hok ⟨hlen, h6.2⟩⟩
theorem ts_wipe (h : TS n m room w t l) : Calls Try.prog 14 #[.pointer (some ⟨t, 0, none⟩)] w fun e w' => e = .returned (.int .i64 l.length) ∧ TS n w'.heap.size room w' t [] ∧ Kpt n m w w' := by
  obtain ⟨v, its, hT, rfl, h2, h3, h4, h5, h6, h7, h8⟩ := h
  refine (wipe_tab hT).mono ?_
  rintro e w' ⟨rfl, hT', hF⟩
  rw [rls_len]
  rw [rls_len] at h6
  exact ⟨rfl, TS.step hT h4 h5 h7 hT' (Fr2.of_grown' hF) (v' := .slice none 0 0) (its' := []) (fun k hk => by simp [Value.ownBlock] at hk) List.Pairwise.nil (fun x hx => by simp [rls] at hx) ⟨by simp [rls]; omega, h6.2⟩⟩
theorem ts_len (h : TS n m room w t l) : Calls Try.prog 15 #[.pointer (some ⟨t, 0, none⟩)] w fun e w' => e = .returned (.int .i64 l.length) ∧ w' = w := by
  obtain ⟨v, its, hT, rfl, _⟩ := h
  rw [rls_len]
  exact len_tab hT
theorem ts_room (h : TS n m room w t l) : Calls Try.prog 16 #[.pointer (some ⟨t, 0, none⟩)] w fun e w' => e = .returned (.int .i64 room) ∧ w' = w := by
  obtain ⟨v, its, hT, rfl, _⟩ := h
  exact room_tab hT
theorem ts_control (h : TS n m room w t l) (tw : Int) : Calls Try.prog 8 #[.pointer (some ⟨t, 0, none⟩), .int .i64 tw] w fun e w' => ∃ q b, e = .returned (.tuple #[.int .i64 q, .bool b]) ∧ Ctl l tw q b ∧ Below w.heap.size w w' := by
  obtain ⟨v, its, hT, rfl, h2, h3, h4, h5, h6, h7, h8⟩ := h
  rw [rls_len] at h6
  exact control_tab hT h2 (by omega) tw
theorem ts_data (h : TS n m room w t l) (ver port p q r : Int) : Calls Try.prog 9 #[.pointer (some ⟨t, 0, none⟩), .int .i64 ver, .int .i64 port, .agg #[.int .u8 p, .int .u8 q, .int .u8 r]] w fun e w' => ∃ y b, e = .returned (.tuple #[.agg (ics y).toArray, .bool b]) ∧ DataP l ver port p q r y.r b ∧ Ob w' y ∧ Fre w.heap.size y ∧ Below w.heap.size w w' := by
  obtain ⟨v, its, hT, rfl, h2, h3, h4, h5, h6, h7, h8⟩ := h
  rw [rls_len] at h6
  exact data_tab hT h2 h3 (by omega) ver port p q r
theorem ts_rules (h : TS n m room w t l) : Calls Try.prog 17 #[.pointer (some ⟨t, 0, none⟩)] w fun e w' => ∃ v' its', e = .returned v' ∧ RowS w' v' its' ∧ rls its' = l ∧ (∀ y ∈ its', Ob w' y ∧ Fre w.heap.size y) ∧ (∀ k, v'.ownBlock = some k → w.heap.size ≤ k) ∧ Below w.heap.size w w' := by
  obtain ⟨v, its, hT, rfl, h2, h3, h4, h5, h6, h7, h8⟩ := h
  rw [rls_len] at h6
  exact rules_tab hT h3 (by omega)
end
end Go.Proofs.Ytcolklkjaifplaa.Oct
