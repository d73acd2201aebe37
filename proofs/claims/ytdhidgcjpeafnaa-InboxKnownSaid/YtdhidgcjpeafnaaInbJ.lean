/- Layer 14 (inbox): the document's inbox in memory; New, Ack, Waits, on. -/
import Derived.Test.YtdhidgcjpeafnaaInbY
import Derived.LoopN
namespace Go.Proofs.Ytdhidgcjpeafnaa.Oct
open Go.RowKit
set_option linter.unusedVariables false
set_option linter.unusedSimpArgs false
/-- It reads as its bytes, however many they are, in a block of bytes of which P holds. -/
structure Fb (P : Nat → Prop) (w : World) (f : FrV) : Prop where
  lim : f.n ≤ 140737488351232
  bytes : By f.l
  len : f.l.length = f.n
  le : f.n ≤ f.c
  cap : f.c ≤ maxLen
  nil : f.A = none → f.c = 0
  at_ : 0 < f.n → ∃ b off cs, f.A = some ⟨b, off, none⟩ ∧ P b ∧ w.heap[b]? = some (.cells cs 5 (0, 0)) ∧ ∀ j, j < f.n → cs[off + j]? = some (.int .u8 (f.l.getD j 0))
section
variable {P Q S : Nat → Prop} {w w' : World} {f : FrV}
theorem Fb.imp (h : Fb P w f) (hq : ∀ b, b < w.heap.size → P b → Q b) : Fb Q w f :=
  ⟨h.lim, h.bytes, h.len, h.le, h.cap, h.nil, fun hn => by
    obtain ⟨b, off, cs, e, hp, hb, hc⟩ := h.at_ hn
    exact ⟨b, off, cs, e, hq b (Array.getElem?_eq_some_iff.1 hb).1 hp, hb, hc⟩⟩
theorem Fb.stay (h : Fb P w f) (hc : Ch S w w') (hs : ∀ b cs m, b < w.heap.size → P b → w.heap[b]? = some (.cells cs 5 m) → ¬ S b) : Fb P w' f :=
  ⟨h.lim, h.bytes, h.len, h.le, h.cap, h.nil, fun hn => by
    obtain ⟨b, off, cs, e, hp, hb, hcc⟩ := h.at_ hn
    have hlt := (Array.getElem?_eq_some_iff.1 hb).1
    exact ⟨b, off, cs, e, hp, (hc.block b hlt (hs b cs (0, 0) hlt hp hb)).trans hb, hcc⟩⟩
theorem Fb.below (h : Fb P w f) (hb : Below w.heap.size w w') : Fb P w' f := h.stay (S := fun _ => False) (.of_below hb) (fun _ _ _ _ _ _ e => e)
theorem Fb.other (h : Fb P w f) (hc : Ch S w w') (hs : ∀ b cs m, S b → w.heap[b]? ≠ some (.cells cs 5 m)) : Fb P w' f := h.stay hc (fun b cs m _ _ hb e => hs b cs m e hb)
theorem Fb.rd (h : Fb P w f) : Rd .u8 w w.heap.size f.A f.n f.c f.l :=
  ⟨h.len, h.le, h.cap, h.nil, fun hn => by
    obtain ⟨b, off, cs, e, hp, hb, hc⟩ := h.at_ hn
    refine ⟨b, off, e, (Array.getElem?_eq_some_iff.1 hb).1, fun j hj => ?_⟩
    simp [World.cell?, hb, hc j hj]⟩
theorem Fb.of_own {base n c : Nat} {A : Option Addr} {l : List Int} (h : Own w base (.slice A n c) n l) (hl : n ≤ 140737488351232) (hby : By l) : Fb (fun b => base ≤ b) w ⟨A, n, c, l⟩ := by
  obtain ⟨A', c', e, h1, h2, h3, h4⟩ := h.form
  injection e with e1 e2 e3
  subst e1 e3
  refine ⟨hl, hby, h.len, h1, h2, h3, fun hn => ?_⟩
  rcases h.2 with ⟨_, h5⟩ | ⟨g, cap, cur, hv, hbg, hg, hnc, hcm, hcs, htake⟩
  · have hn : 0 < n := hn
    omega
  · injection hv with hA _ _
    subst hA
    refine ⟨g, 0, cur, rfl, hbg, hg, fun j hj => ?_⟩
    have hj : j < n := hj
    have hl := h.len
    have e2 : (cur.toList.take (n * 1))[j]? = (l.map (Value.int .u8))[j]? := by rw [htake]
    rw [List.getElem?_take, if_pos (by omega), List.getElem?_map, List.getElem?_eq_getElem (show j < l.length by omega)] at e2
    rw [Nat.zero_add, ← Array.getElem?_toList, e2, List.getD_eq_getElem?_getD, List.getElem?_eq_getElem (show j < l.length by omega)]
    rfl
end
/-! What is kept, of whatever kind. -/
def folG {α : Type} : Option α → Option α → Option α → List α
  | none, _, _ => []
  | some a, none, _ => [a]
  | some a, some b, none => [a, b]
  | some a, some b, some c => [a, b, c]
def rstG {α : Type} : Option α → Option α → Option α → Option α × Option α × Option α
  | none, q2, q3 => (q2, q3, none)
  | some _, none, q3 => (q3, none, none)
  | some _, some _, _ => (none, none, none)
def fol4 {α : Type} (m0 m1 m2 m3 : Option α) : List α := match m0 with | none => [] | some a => a :: folG m1 m2 m3
def rst4 {α : Type} (m0 m1 m2 m3 : Option α) : Option α × Option α × Option α := match m0 with | none => (m1, m2, m3) | some _ => rstG m1 m2 m3
section
variable {α β : Type} (g : α → β)
theorem folK_map (v : α → Value) (f1 f2 f3 : Option α) : folK (f1.map v) (f2.map v) (f3.map v) = (folG f1 f2 f3).map v := by cases f1 <;> cases f2 <;> cases f3 <;> rfl
theorem rst_map (v : α → Value) (f1 f2 f3 : Option α) : rst (f1.map v) (f2.map v) (f3.map v) = ((rstG f1 f2 f3).1.map v, (rstG f1 f2 f3).2.1.map v, (rstG f1 f2 f3).2.2.map v) := by cases f1 <;> cases f2 <;> cases f3 <;> rfl
theorem fol4_map (f0 f1 f2 f3 : Option α) : fol4 (f0.map g) (f1.map g) (f2.map g) (f3.map g) = (fol4 f0 f1 f2 f3).map g := by cases f0 <;> cases f1 <;> cases f2 <;> cases f3 <;> rfl
theorem rst4_map (f0 f1 f2 f3 : Option α) : rst4 (f0.map g) (f1.map g) (f2.map g) (f3.map g) = ((rst4 f0 f1 f2 f3).1.map g, (rst4 f0 f1 f2 f3).2.1.map g, (rst4 f0 f1 f2 f3).2.2.map g) := by cases f0 <;> cases f1 <;> cases f2 <;> cases f3 <;> rfl
theorem fol4_step (a : α) (m1 m2 m3 : Option α) : fol4 (some a) m1 m2 m3 = a :: fol4 m1 m2 m3 none := by cases m1 <;> cases m2 <;> cases m3 <;> rfl
theorem rst4_step (a : α) (m1 m2 m3 : Option α) : rst4 (some a) m1 m2 m3 = rst4 m1 m2 m3 none := by cases m1 <;> cases m2 <;> cases m3 <;> rfl
theorem fol4_le (m0 m1 m2 m3 : Option α) : (fol4 m0 m1 m2 m3).length ≤ 4 := by cases m0 <;> cases m1 <;> cases m2 <;> cases m3 <;> simp [fol4, folG]
def is1 (o : Option α) : Nat := if o.isSome then 1 else 0
def cnt4 (m0 m1 m2 m3 : Option α) : Nat := is1 m0 + is1 m1 + is1 m2 + is1 m3
theorem fol4_cnt (m0 m1 m2 m3 : Option α) : (fol4 m0 m1 m2 m3).length ≤ cnt4 m0 m1 m2 m3 := by cases m0 <;> cases m1 <;> cases m2 <;> cases m3 <;> simp [fol4, folG, cnt4, is1]
theorem cnt4_le (m0 m1 m2 m3 : Option α) : cnt4 m0 m1 m2 m3 ≤ 4 := by cases m0 <;> cases m1 <;> cases m2 <;> cases m3 <;> simp [cnt4, is1]
end
def fvO : Option FrV → Value
  | none => .slice none 0 0
  | some f => .slice f.A f.n f.c
theorem fvO_map (o : Option FrV) : o.map FrV.val = match o with | none => none | some f => some (.slice f.A f.n f.c) := by cases o <;> rfl
theorem fvO_one (o : Option FrV) : (fvO o).oneCell' = true := by cases o <;> rfl
/-- The document's inbox in its block. -/
structure Rm (P : Nat → Prop) (w : World) (m : Nat) (base : Int) (m0 m1 m2 m3 : Option FrV) : Prop where
  vb : Vb 59 w m [.int .i64 base, .bool m0.isSome, .bool m1.isSome, .bool m2.isSome, .bool m3.isSome, fvO m0, fvO m1, fvO m2, fvO m3]
  f0 : ∀ f, m0 = some f → Fb P w f
  f1 : ∀ f, m1 = some f → Fb P w f
  f2 : ∀ f, m2 = some f → Fb P w f
  f3 : ∀ f, m3 = some f → Fb P w f
  r0 : 0 ≤ base
  r1 : base < 65536
section
variable {P Q S : Nat → Prop} {w w' : World} {m : Nat} {base : Int} {m0 m1 m2 m3 : Option FrV}
theorem Rm.imp (h : Rm P w m base m0 m1 m2 m3) (hq : ∀ b, b < w.heap.size → P b → Q b) : Rm Q w m base m0 m1 m2 m3 := ⟨h.vb, fun f e => (h.f0 f e).imp hq, fun f e => (h.f1 f e).imp hq, fun f e => (h.f2 f e).imp hq, fun f e => (h.f3 f e).imp hq, h.r0, h.r1⟩
theorem Rm.stay (h : Rm P w m base m0 m1 m2 m3) (hc : Ch S w w') (hm : ¬ S m) (hs : ∀ b cs m, b < w.heap.size → P b → w.heap[b]? = some (.cells cs 5 m) → ¬ S b) : Rm P w' m base m0 m1 m2 m3 :=
  ⟨(hc.block m h.vb.lt hm).trans h.vb, fun f e => (h.f0 f e).stay hc hs, fun f e => (h.f1 f e).stay hc hs, fun f e => (h.f2 f e).stay hc hs, fun f e => (h.f3 f e).stay hc hs, h.r0, h.r1⟩
theorem Rm.below (h : Rm P w m base m0 m1 m2 m3) (hb : Below w.heap.size w w') : Rm P w' m base m0 m1 m2 m3 := h.stay (S := fun _ => False) (.of_below hb) id (fun _ _ _ _ _ _ e => e)
/-- Its own block is no block of bytes. -/
theorem Rm.nob (h : Rm P w m base m0 m1 m2 m3) : ∀ b cs k, b = m → w.heap[b]? ≠ some (.cells cs 5 k) := by
  intro b cs k e hb
  subst e
  rw [show w.heap[b]? = _ from h.vb] at hb
  have e := Option.some.inj hb
  injection e with _ e _
  exact absurd e (by decide)
set_option maxRecDepth 100000 in
theorem mnew_no (w : World) (n : Int) (h : n < 0 ∨ 65535 < n) : Calls Try.prog 8 #[.int .i64 n] w fun e w' => e = .returned (.tuple #[.pointer none, .int .i64 2]) ∧ w' = w := by
  by_cases h0 : n < 0
  · go_enter Try.func8, Try.ntmps8
    go_wp2_with fail
    go_ret2
    exact ⟨rfl, rfl⟩
  · have h1 : 65535 < n := by omega
    clear h
    go_enter Try.func8, Try.ntmps8
    go_wp2_with fail
    go_ret2
    exact ⟨rfl, rfl⟩
set_option maxRecDepth 100000 in
theorem mnew_yes (w : World) (n : Int) (h0 : 0 ≤ n) (h1 : n ≤ 65535) : Calls Try.prog 8 #[.int .i64 n] w fun e w' => e = .returned (.tuple #[.pointer (some ⟨w.heap.size, 0, none⟩), .int .i64 0]) ∧ Rm P w' w.heap.size n none none none none ∧ Below w.heap.size w w' := by
  have HV := Kp.mk (Vb.new 59 w [.int .i64 n, .bool false, .bool false, .bool false, .bool false, .slice none 0 0, .slice none 0 0, .slice none 0 0, .slice none 0 0])
  have HB := Kp.mk (below_alloc w (.cells #[.int .i64 n, .bool false, .bool false, .bool false, .bool false, .slice none 0 0, .slice none 0 0, .slice none 0 0, .slice none 0 0] 59))
  have HN := Kp.mk (And.intro h0 h1)
  go_enter Try.func8, Try.ntmps8
  go_wp2_with fail
  go_ret2
  exact ⟨rfl, ⟨HV.out, fun f e => by simp at e, fun f e => by simp at e, fun f e => by simp at e, fun f e => by simp at e, HN.out.1, by have := HN.out; omega⟩, HB.out⟩
set_option maxRecDepth 100000 in
theorem mack_any (h : Rm P w m base m0 m1 m2 m3) : Calls Try.prog 9 #[.pointer (some ⟨m, 0, none⟩)] w fun e w' => e = .returned (.int .i64 base) ∧ w' = w := by
  have c0 := h.vb.cell 0 rfl
  clear h
  go_enter Try.func9, Try.ntmps9
  go_wp2_with fail
  go_ret
  exact ⟨rfl, rfl⟩
set_option maxRecDepth 100000 in
set_option maxHeartbeats 4000000 in
theorem mwaits_any (h : Rm P w m base m0 m1 m2 m3) : Calls Try.prog 15 #[.pointer (some ⟨m, 0, none⟩)] w fun e w' => e = .returned (.int .i64 (cnt4 m0 m1 m2 m3)) ∧ w' = w := by
  have c1 := h.vb.cell 1 rfl
  have c2 := h.vb.cell 2 rfl
  have c3 := h.vb.cell 3 rfl
  have c4 := h.vb.cell 4 rfl
  have hf : ∀ a b c d : Bool, a = m0.isSome → b = m1.isSome → c = m2.isSome → d = m3.isSome → cnt4 m0 m1 m2 m3 = (if a then 1 else 0) + (if b then 1 else 0) + (if c then 1 else 0) + (if d then 1 else 0) := by
    rintro a b c d rfl rfl rfl rfl; rfl
  have HF := Kp.mk hf
  clear h hf
  obtain ⟨a0, h0⟩ : ∃ a, a = m0.isSome := ⟨_, rfl⟩
  obtain ⟨a1, h1⟩ : ∃ a, a = m1.isSome := ⟨_, rfl⟩
  obtain ⟨a2, h2⟩ : ∃ a, a = m2.isSome := ⟨_, rfl⟩
  obtain ⟨a3, h3⟩ : ∃ a, a = m3.isSome := ⟨_, rfl⟩
  rw [← h0] at c1
  rw [← h1] at c2
  rw [← h2] at c3
  rw [← h3] at c4
  rw [HF.out _ _ _ _ h0 h1 h2 h3]
  clear HF h0 h1 h2 h3
  cases a0 <;> cases a1 <;> cases a2 <;> cases a3
  all_goals
    as_aux_lemma =>
    go_enter Try.func15, Try.ntmps15
    go_wp2_with fail
    refine wp_loop_rounds 5 ?_
    rw [rounds_succ]
    go_wp2_with fail
    rw [rounds_succ]
    go_wp2_with fail
    rw [rounds_succ]
    go_wp2_with fail
    rw [rounds_succ]
    go_wp2_with fail
    rw [rounds_succ]
    go_wp2_with fail
    go_ret
    exact ⟨rfl, rfl⟩
end
end Go.Proofs.Ytdhidgcjpeafnaa.Oct
