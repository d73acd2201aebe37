/- Layer 16 (hail): both calls and both guests beside each other, and what a statement keeps of them. -/
import Derived.Test.YtomjnpjabfnlbaaHaiG
namespace Go.Proofs.Ytomjnpjabfnlbaa.Oct
open Go.RowKit
set_option linter.unusedVariables false
set_option linter.unusedSimpArgs false

set_option maxRecDepth 100000 in
theorem rcnew_yes (w : World) (tz e : Int) (h1 : swB tz = true) (h2 : lgB e 1 = true) : Calls Try.prog 8 #[.int .i64 tz, .int .i64 e] w fun en w' => en = .returned (.tuple #[.pointer (some ⟨w.heap.size, 0, none⟩), .int .i64 0]) ∧ Rc w' w.heap.size tz e 0 1 ∧ Below w.heap.size w w' := by
  have HN := Kp.mk (And.intro (Vb.new 71 w [.int .i64 tz, .int .i64 e, .int .i64 0, .int .i64 0]) (below_alloc w (.cells #[.int .i64 tz, .int .i64 e, .int .i64 0, .int .i64 0] 71)))
  have q1 : ¬ tz < 1 := by have := sw_yes h1; omega
  have q2 : ¬ (6 : Int) < tz := by have := sw_yes h1; omega
  have q3 : ¬ e < 1 := by have := lg_yes h2; omega
  have q4 : ¬ (4294967295 : Int) < e := by have := lg_yes h2; omega
  clear h1 h2
  go_enter Try.func8, Try.ntmps8
  go_wp2_with fail
  go_ret2
  exact ⟨rfl, HN.out.1, HN.out.2⟩
set_option maxRecDepth 100000 in
theorem rcnew_no (w : World) (tz e : Int) (h : (swB tz && lgB e 1) = false) : Calls Try.prog 8 #[.int .i64 tz, .int .i64 e] w fun en w' => en = .returned (.tuple #[.pointer none, .int .i64 2]) ∧ w' = w := by
  by_cases q1 : tz < 1
  · clear h
    go_enter Try.func8, Try.ntmps8
    go_wp2_with fail
    go_ret2
    exact ⟨rfl, rfl⟩
  by_cases q2 : (6 : Int) < tz
  · clear h
    go_enter Try.func8, Try.ntmps8
    go_wp2_with fail
    go_ret2
    exact ⟨rfl, rfl⟩
  by_cases q3 : e < 1
  · clear h
    go_enter Try.func8, Try.ntmps8
    go_wp2_with fail
    go_ret2
    exact ⟨rfl, rfl⟩
  have q4 : (4294967295 : Int) < e := by
    have e1 : swB tz = true := decide_eq_true (by omega)
    rw [e1, Bool.true_and] at h
    have := of_decide_eq_false h
    omega
  clear h
  go_enter Try.func8, Try.ntmps8
  go_wp2_with fail
  go_ret2
  exact ⟨rfl, rfl⟩
set_option maxRecDepth 100000 in
theorem rgnew_yes (w : World) (sf bo : Int) (h1 : swB sf = true) (h2 : lgB bo 0 = true) : Calls Try.prog 10 #[.int .i64 sf, .int .i64 bo] w fun en w' => en = .returned (.tuple #[.pointer (some ⟨w.heap.size, 0, none⟩), .int .i64 0]) ∧ Rg w' w.heap.size sf bo 0 ∧ Below w.heap.size w w' := by
  have HN := Kp.mk (And.intro (Vb.new 73 w [.int .i64 sf, .int .i64 bo, .int .i64 0]) (below_alloc w (.cells #[.int .i64 sf, .int .i64 bo, .int .i64 0] 73)))
  have q1 : ¬ sf < 1 := by have := sw_yes h1; omega
  have q2 : ¬ (6 : Int) < sf := by have := sw_yes h1; omega
  have q3 : ¬ bo < 0 := by have := lg_yes h2; omega
  have q4 : ¬ (4294967295 : Int) < bo := by have := lg_yes h2; omega
  clear h1 h2
  go_enter Try.func10, Try.ntmps10
  go_wp2_with fail
  go_ret2
  exact ⟨rfl, HN.out.1, HN.out.2⟩
set_option maxRecDepth 100000 in
theorem rgnew_no (w : World) (sf bo : Int) (h : (swB sf && lgB bo 0) = false) : Calls Try.prog 10 #[.int .i64 sf, .int .i64 bo] w fun en w' => en = .returned (.tuple #[.pointer none, .int .i64 2]) ∧ w' = w := by
  by_cases q1 : sf < 1
  · clear h
    go_enter Try.func10, Try.ntmps10
    go_wp2_with fail
    go_ret2
    exact ⟨rfl, rfl⟩
  by_cases q2 : (6 : Int) < sf
  · clear h
    go_enter Try.func10, Try.ntmps10
    go_wp2_with fail
    go_ret2
    exact ⟨rfl, rfl⟩
  by_cases q3 : bo < 0
  · clear h
    go_enter Try.func10, Try.ntmps10
    go_wp2_with fail
    go_ret2
    exact ⟨rfl, rfl⟩
  have q4 : (4294967295 : Int) < bo := by
    have e1 : swB sf = true := decide_eq_true (by omega)
    rw [e1, Bool.true_and] at h
    have := of_decide_eq_false h
    omega
  clear h
  go_enter Try.func10, Try.ntmps10
  go_wp2_with fail
  go_ret2
  exact ⟨rfl, rfl⟩
/-- The statement's ends: where the four are, what the guest answered last. -/
def Ev (w : World) (X c g d h : Nat) (y : Sv) : Prop := Vb 33 w X [.pointer (some ⟨c, 0, none⟩), .pointer (some ⟨g, 0, none⟩), .pointer (some ⟨d, 0, none⟩), .pointer (some ⟨h, 0, none⟩), .int .i64 y.k, .int .i64 y.t, .int .i64 y.f, .int .i64 y.h, .int .i64 y.p, .int .i64 y.o, .int .i64 y.s, .int .i64 y.a, .slice y.A y.n y.c]
/-- A call and a guest, of the program and of the document (b2, q2, E2). -/
structure EN (W w : World) (X c g d h : Nat) (tz e b q b2 q2 sf bo E E2 : Int) (y : Sv) : Prop where
  cg : CG W w c g tz e b q sf bo E
  rc : Rc w d tz e b2 q2
  rg : Rg w h sf bo E2
  en : Ev w X c g d h y
  dn : W.heap.size ≤ d
  hn : W.heap.size ≤ h
  xn : W.heap.size ≤ X
  hq2 : q2 = 1 ∨ q2 = 2 ∨ q2 = 3
section
variable {W w w' : World} {X c g d h : Nat} {tz e b q b2 q2 sf bo E E2 : Int} {y : Sv}
theorem EN.below (k : EN W w X c g d h tz e b q b2 q2 sf bo E E2 y) (hb : Below w.heap.size w w') : EN W w' X c g d h tz e b q b2 q2 sf bo E E2 y :=
  ⟨k.cg.below hb, k.rc.below hb, k.rg.below hb, Vb.below k.en hb (Vb.lt k.en), k.dn, k.hn, k.xn, k.hq2⟩
/-- A segment in a block of its own is stored to. -/
theorem EN.seg (k : EN W w X c g d h tz e b q b2 q2 sf bo E E2 y) {r : Nat} {cs : List Value} (hv : Vb 31 w r cs) (hg : w.grownBy w' (some r)) (hr : W.heap.size ≤ r) : EN W w' X c g d h tz e b q b2 q2 sf bo E E2 y :=
  ⟨k.cg.seg hv hg hr, Vb.grown k.rc hg (vb_ne k.rc hv (by decide)), Vb.grown k.rg hg (vb_ne k.rg hv (by decide)), Vb.grown k.en hg (vb_ne k.en hv (by decide)), k.dn, k.hn, k.xn, k.hq2⟩
theorem EN.says (k : EN W w X c g d h tz e b q b2 q2 sf bo E E2 y) : Calls Try.prog 11 #[.pointer (some ⟨c, 0, none⟩)] w fun en w' => en = .returned (.tuple #[(saysC tz e b q).v, .bool (q != 3)]) ∧ EN W w' X c g d h tz e b q b2 q2 sf bo E E2 y ∧ Below w.heap.size w w' :=
  (cSays k.cg.cb k.cg.hq).mono fun _ _ ⟨h1, h2⟩ => ⟨h1, k.below h2, h2⟩
theorem EN.rsays (k : EN W w X c g d h tz e b q b2 q2 sf bo E E2 y) : Calls Try.prog 12 #[.pointer (some ⟨d, 0, none⟩)] w fun en w' => en = .returned (.tuple #[(saysC tz e b2 q2).v, .bool (q2 != 3)]) ∧ EN W w' X c g d h tz e b q b2 q2 sf bo E E2 y ∧ Below w.heap.size w w' :=
  (rcSays k.rc k.hq2).mono fun _ _ ⟨h1, h2⟩ => ⟨h1, k.below h2, h2⟩
theorem EN.take (k : EN W w X c g d h tz e b q b2 q2 sf bo E E2 y) (x : Sv) : Calls Try.prog 26 #[.pointer (some ⟨c, 0, none⟩), x.v] w fun en w' => en = .returned (.bool (goC x tz e q)) ∧ EN W w' X c g d h tz e (bC x tz e b q) (qC x tz e q) b2 q2 sf bo E E2 y ∧ w.grownBy w' (some c) :=
  (k.cg.take x).mono fun _ _ ⟨h1, h2, h3⟩ => ⟨h1, ⟨h2, Vb.grown k.rc h3 (vb_ne k.rc k.cg.cb (by decide)), Vb.grown k.rg h3 (vb_ne k.rg k.cg.cb (by decide)), Vb.grown k.en h3 (vb_ne k.en k.cg.cb (by decide)), k.dn, k.hn, k.xn, k.hq2⟩, h3⟩
theorem EN.rtake (k : EN W w X c g d h tz e b q b2 q2 sf bo E E2 y) (x : Sv) : Calls Try.prog 35 #[.pointer (some ⟨d, 0, none⟩), x.v] w fun en w' => en = .returned (.bool (goC x tz e q2)) ∧ EN W w' X c g d h tz e b q (bC x tz e b2 q2) (qC x tz e q2) sf bo E E2 y ∧ w.grownBy w' (some d) :=
  (rcTake k.rc k.hq2 x).mono fun _ _ ⟨h1, h2, h3⟩ => ⟨h1, ⟨k.cg.grown h3 (vb_ne k.cg.cb k.rc (by decide)) (vb_ne k.cg.gb k.rc (by decide)) k.dn, h2, Vb.grown k.rg h3 (vb_ne k.rg k.rc (by decide)), Vb.grown k.en h3 (vb_ne k.en k.rc (by decide)), k.dn, k.hn, k.xn, qC_ok k.hq2⟩, h3⟩
theorem EN.gtake (k : EN W w X c g d h tz e b q b2 q2 sf bo E E2 y) (x : Sv) : Calls Try.prog 27 #[.pointer (some ⟨g, 0, none⟩), x.v] w fun en w' => en = .returned (.tuple #[(ansG x sf bo E).v, .bool (isG x sf bo E), .bool (begG x sf bo E)]) ∧ EN W w' X c g d h tz e b q b2 q2 sf bo (epG x sf bo E) E2 y ∧ w.grownBy w' (some g) :=
  (k.cg.gtake x).mono fun _ _ ⟨h1, h2, h3⟩ => ⟨h1, ⟨h2, Vb.grown k.rc h3 (vb_ne k.rc k.cg.gb (by decide)), Vb.grown k.rg h3 (vb_ne k.rg k.cg.gb (by decide)), Vb.grown k.en h3 (vb_ne k.en k.cg.gb (by decide)), k.dn, k.hn, k.xn, k.hq2⟩, h3⟩
theorem EN.rgtake (k : EN W w X c g d h tz e b q b2 q2 sf bo E E2 y) (x : Sv) : Calls Try.prog 36 #[.pointer (some ⟨h, 0, none⟩), x.v] w fun en w' => en = .returned (.tuple #[(ansG x sf bo E2).v, .bool (isG x sf bo E2), .bool (begG x sf bo E2)]) ∧ EN W w' X c g d h tz e b q b2 q2 sf bo E (epG x sf bo E2) y ∧ w.grownBy w' (some h) :=
  (rgTake k.rg x).mono fun _ _ ⟨h1, h2, h3⟩ => ⟨h1, ⟨k.cg.grown h3 (vb_ne k.cg.cb k.rg (by decide)) (vb_ne k.cg.gb k.rg (by decide)) k.hn, Vb.grown k.rc h3 (vb_ne k.rc k.rg (by decide)), h2, Vb.grown k.en h3 (vb_ne k.en k.rg (by decide)), k.dn, k.hn, k.xn, k.hq2⟩, h3⟩
/-- The last answer is kept. -/
theorem EN.keep (k : EN W w X c g d h tz e b q b2 q2 sf bo E E2 y) {x : Sv} (hv : Ev w' X c g d h x) (hg : w.grownBy w' (some X)) : EN W w' X c g d h tz e b q b2 q2 sf bo E E2 x :=
  ⟨k.cg.grown hg (vb_ne k.cg.cb k.en (by decide)) (vb_ne k.cg.gb k.en (by decide)) k.xn, Vb.grown k.rc hg (vb_ne k.rc k.en (by decide)), Vb.grown k.rg hg (vb_ne k.rg k.en (by decide)), hv, k.dn, k.hn, k.xn, k.hq2⟩
end
end Go.Proofs.Ytomjnpjabfnlbaa.Oct
