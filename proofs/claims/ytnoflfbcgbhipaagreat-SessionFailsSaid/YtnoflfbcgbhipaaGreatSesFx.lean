import Derived.Test.YtnoflfbcgbhipaaGreatSesCp
import Derived.Test.YtnoflfbcgbhipaaGreatBring
namespace Go.Proofs.YtnoflfbcgbhipaaGreat.Oct
open Go.RowKit
set_option linter.unusedVariables false
set_option linter.unusedSimpArgs false
def Ls.left (x : Ls) : Int := match x.s with | some y => y.b.ms.length | none => 0
section
variable {P : Nat → Prop} {w w' : World} {s c wd said all : Nat} {nx : Int} {r : Option Nat} {ms : List (List Int)}
set_option maxRecDepth 100000 in
theorem NS.left {a : Option Addr} (h : NS w a) : Calls Tryz.prog 93 #[.pointer a] w fun e w' => e = .returned (.int .i64 0) ∧ w' = w := by
  have hn := h.no
  go_enter Tryz.func93, Tryz.ntmps93
  go_wp2_with (first | (refine hn.mono ?_; rintro e w1 ⟨rfl, rfl⟩))
  go_ret
  exact ⟨rfl, rfl⟩
end
section
variable {w w' : World} {q : Bk} {b : Bo} {S : Nat → Prop} {T : TypeId} {g : Nat} {rest : List Value}
set_option maxRecDepth 100000 in
theorem bleft_any (h : Bd T rest w g q b) : Calls Tryz.prog 54 #[.pointer (some ⟨g, 0, none⟩)] w fun en w' => en = .returned (.int .i64 b.ms.length) ∧ w' = w := by
  have hs := sleft_any h.bi.sp
  have c3 := h.own.cell 3 rfl
  clear h
  go_enter Tryz.func54, Tryz.ntmps54
  go_wp2_with fail
  refine hs.mono ?_
  rintro en w1 ⟨rfl, hw⟩
  subst hw
  go_wp2_with fail
  go_ret
  exact ⟨rfl, rfl⟩
end
section
variable {w w' : World} {l c : Nat} {q : Bk} {x : Ls} {S : Nat → Prop}
set_option maxRecDepth 100000 in
theorem LnS.failedC (h : LnS w l q c x) : Calls Tryz.prog 15 #[.pointer (some ⟨l, 0, none⟩)] w fun en w' => en = .returned (.bool x.failed) ∧ w' = w := by
  obtain ⟨cs, cp, fl, hv, h0, h2, h7, h9, he, hf⟩ := h.cells
  have c9 := hv.cell 9 h9
  rw [← hf]
  clear hv he hf h
  go_enter Tryz.func15, Tryz.ntmps15
  go_wp2_with fail
  go_ret
  exact ⟨rfl, rfl⟩
end
section
variable {w w' : World} {l c : Nat} {q : Bk} {x : Ls} {S : Nat → Prop}
set_option maxRecDepth 100000 in
theorem bleft0 {T : TypeId} {cs : List Value} {g : Nat} (hv : Vb T w g cs) (h3 : cs[3]? = some (.pointer none)) : Calls Tryz.prog 54 #[.pointer (some ⟨g, 0, none⟩)] w fun en w' => en = .returned (.int .i64 0) ∧ w' = w := by
  have c3 := hv.cell 3 h3
  have hl := NS.left (w := w) (a := none) (.inl rfl)
  clear hv
  go_enter Tryz.func54, Tryz.ntmps54
  go_wp2_with fail
  refine hl.mono ?_
  rintro en w1 ⟨rfl, hw⟩
  replace hw := hw.symm
  subst hw
  go_wp2_with fail
  go_ret
  exact ⟨rfl, rfl⟩
end
section
variable {w w' : World} {l c : Nat} {q : Bk} {x : Ls} {S : Nat → Prop}
set_option maxRecDepth 100000 in
theorem LnS.leftC (h : LnS w l q c x) : Calls Tryz.prog 17 #[.pointer (some ⟨l, 0, none⟩)] w fun en w' => en = .returned (.int .i64 x.left) ∧ w' = w := by
  have hn := h.isNone
  have hb : Calls Tryz.prog 54 #[.pointer (some ⟨l, 0, none⟩)] w fun en w' => en = .returned (.int .i64 x.left) ∧ w' = w := by
    cases hs : x.s with
    | none => rw [show x.left = 0 by unfold Ls.left; rw [hs]]; exact bleft0 (h.no hs).1 rfl
    | some y => rw [show x.left = y.b.ms.length by unfold Ls.left; rw [hs]]; exact bleft_any (h.yes y hs).1.bd
  clear h
  go_enter Tryz.func17, Tryz.ntmps17
  go_wp2_with (first | (go_at_call 53; refine hn.mono ?_; rintro en w1 ⟨rfl, hw1⟩; replace hw1 := hw1.symm; subst hw1) | (refine hb.mono ?_; rintro en w1 ⟨rfl, hw1⟩; replace hw1 := hw1.symm; subst hw1))
  go_ret
  exact ⟨rfl, rfl⟩
end
section
variable {W w w' : World} {wb : Nat} {K : Wk} {x : Wd}
theorem Ww.noS (h : Ww W w wb K x) {base n : Nat} {v : Value} {L : List Ms} (hs : Said w base v n L) (hd : ∀ k, v.ownBlock = some k → K.wv.ownBlock ≠ some k) : ∀ k, v.ownBlock = some k → ¬ wown wb K k := fun k e hk => by
  obtain ⟨cs, hv⟩ := hs.vb e
  rcases hk with e2 | e2 | e2 | e2
  · exact h.ln.nots hv (.inl rfl) e2
  · exact h.pn.nots hv (.inl rfl) e2
  · exact vb_ne hv h.own (by decide) e2
  · exact hd k e e2
end
section
variable {W w w' : World} {wb : Nat} {K : Wk} {x : Wd}
theorem Ww.nobW (h : Ww W w wb K x) : Nob w (wown wb K) := by
  have h1 := h.ln.nob
  have h2 := h.pn.nob
  have h3 := nob_vb h.own (by decide) (by decide)
  have h4 := h.wi.nob
  exact h1.or (h2.or (h3.or h4))
end
section
variable {W w w' : World} {wb : Nat} {K : Wk} {x : Wd}
/-- Another row of segments stays. -/
theorem WT.said {K' : Wk} (t : WT w w' wb K K') (h : Ww W w wb K x) {base n : Nat} {v : Value} {L : List Ms} (hs : Said w base v n L) (hd : ∀ k, v.ownBlock = some k → K.wv.ownBlock ≠ some k) : Said w' base v n L ∧ ∀ k, v.ownBlock = some k → K'.wv.ownBlock ≠ some k := by
  have hn := h.noS hs hd
  refine ⟨hs.stay t.ch hn h.nobW, fun k e e2 => ?_⟩
  rcases t.own k (.inr (.inr (.inr e2))) with e3 | e3
  · exact hn k e e3
  · have := hs.lt e
    omega
end
section
variable {W w w' : World} {wb : Nat} {Z : Wk} {x : Wd}
theorem wcl_setNow (x : Wd) (Z : Wk) (n : Int) : (wcl x Z).set 2 (.int .i64 n) = wcl { x with now := n } Z := rfl
end
section
variable {W w w' : World} {wb : Nat} {Z : Wk} {x : Wd}
theorem wcl_setEp (x : Wd) (Z : Wk) (n : Int) : (wcl x Z).set 4 (.int .i64 n) = wcl { x with ep := n } Z := rfl
end
end Go.Proofs.YtnoflfbcgbhipaaGreat.Oct
