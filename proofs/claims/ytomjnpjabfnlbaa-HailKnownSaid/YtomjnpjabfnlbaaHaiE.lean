/- Layer 16 (hail): a call and a guest beside each other; works. -/
import Derived.Test.YtomjnpjabfnlbaaHaiD
import Derived.LoopN
namespace Go.Proofs.Ytomjnpjabfnlbaa.Oct
open Go.RowKit
set_option linter.unusedVariables false
set_option linter.unusedSimpArgs false

/-- A call and a guest as a statement uses them: made since W. -/
structure CG (W w : World) (c g : Nat) (tz e b q sf bo E : Int) : Prop where
  cb : Cb w c tz e b q
  gb : Gb w g sf bo E
  cn : W.heap.size ≤ c
  gn : W.heap.size ≤ g
  hq : q = 1 ∨ q = 2 ∨ q = 3
  hs : sf ≠ 0
  old : Below W.heap.size W w
section
variable {W w w' : World} {c g : Nat} {tz e b q sf bo E : Int}
theorem CG.ne (h : CG W w c g tz e b q sf bo E) : c ≠ g := vb_ne h.cb h.gb (by decide)
theorem CG.below (h : CG W w c g tz e b q sf bo E) (hb : Below w.heap.size w w') : CG W w' c g tz e b q sf bo E := ⟨h.cb.below hb, h.gb.below hb, h.cn, h.gn, h.hq, h.hs, h.old.trans (hb.mono h.old.size)⟩
theorem CG.grown (h : CG W w c g tz e b q sf bo E) {r : Nat} (hg : w.grownBy w' (some r)) (h1 : c ≠ r) (h2 : g ≠ r) (hr : W.heap.size ≤ r) : CG W w' c g tz e b q sf bo E := ⟨Vb.grown h.cb hg h1, Vb.grown h.gb hg h2, h.cn, h.gn, h.hq, h.hs, below_grown h.old hg h.old.size hr⟩
/-- .. where a struct of another type is stored to. -/
theorem CG.seg (h : CG W w c g tz e b q sf bo E) {r : Nat} {cs : List Value} (hv : Vb 31 w r cs) (hg : w.grownBy w' (some r)) (hr : W.heap.size ≤ r) : CG W w' c g tz e b q sf bo E := h.grown hg (vb_ne h.cb hv (by decide)) (vb_ne h.gb hv (by decide)) hr
theorem CG.stepC (h : CG W w c g tz e b q sf bo E) {b' q' : Int} (hc : Cb w' c tz e b' q') (hg : w.grownBy w' (some c)) (hq : q' = 1 ∨ q' = 2 ∨ q' = 3) : CG W w' c g tz e b' q' sf bo E := ⟨hc, Vb.grown h.gb hg h.ne.symm, h.cn, h.gn, hq, h.hs, below_grown h.old hg h.old.size h.cn⟩
theorem CG.stepG (h : CG W w c g tz e b q sf bo E) {E' : Int} (hc : Gb w' g sf bo E') (hg : w.grownBy w' (some g)) : CG W w' c g tz e b q sf bo E' := ⟨Vb.grown h.cb hg h.ne, hc, h.cn, h.gn, h.hq, h.hs, below_grown h.old hg h.old.size h.gn⟩
theorem qC_ok {x : Sv} (hq : q = 1 ∨ q = 2 ∨ q = 3) : qC x tz e q = 1 ∨ qC x tz e q = 2 ∨ qC x tz e q = 3 := by
  unfold qC
  rcases hq with rfl | rfl | rfl
  · split <;> omega
  · split <;> omega
  · have : goC x tz e 3 = false := by simp [goC]
    rw [this]
    simp
theorem CG.says (h : CG W w c g tz e b q sf bo E) : Calls Try.prog 11 #[.pointer (some ⟨c, 0, none⟩)] w fun en w' => en = .returned (.tuple #[(saysC tz e b q).v, .bool (q != 3)]) ∧ CG W w' c g tz e b q sf bo E ∧ Below w.heap.size w w' :=
  (cSays h.cb h.hq).mono fun _ _ ⟨h1, h2⟩ => ⟨h1, h.below h2, h2⟩
theorem CG.take (h : CG W w c g tz e b q sf bo E) (x : Sv) : Calls Try.prog 26 #[.pointer (some ⟨c, 0, none⟩), x.v] w fun en w' => en = .returned (.bool (goC x tz e q)) ∧ CG W w' c g tz e (bC x tz e b q) (qC x tz e q) sf bo E ∧ w.grownBy w' (some c) :=
  (cTake_any h.cb h.hq x).mono fun _ _ ⟨h1, h2, h3⟩ => ⟨h1, h.stepC h2 h3 (qC_ok h.hq), h3⟩
theorem CG.gtake (h : CG W w c g tz e b q sf bo E) (x : Sv) : Calls Try.prog 27 #[.pointer (some ⟨g, 0, none⟩), x.v] w fun en w' => en = .returned (.tuple #[(ansG x sf bo E).v, .bool (isG x sf bo E), .bool (begG x sf bo E)]) ∧ CG W w' c g tz e b q sf bo (epG x sf bo E) ∧ w.grownBy w' (some g) :=
  (gTake_any h.gb h.hs x).mono fun _ _ ⟨h1, h2, h3⟩ => ⟨h1, h.stepG h2 h3, h3⟩
end
theorem sw_yes {n : Int} (h : swB n = true) : 1 ≤ n ∧ n ≤ 6 := of_decide_eq_true h
theorem lg_yes {n f : Int} (h : lgB n f = true) : f ≤ n ∧ n ≤ 4294967295 := of_decide_eq_true h
set_option maxRecDepth 100000 in
set_option maxHeartbeats 1000000 in
theorem meets_yes {W w : World} (hW : Below W.heap.size W w) (tz e bo : Int) (h1 : swB tz = true) (h2 : lgB e 1 = true) (h3 : lgB bo 0 = true) : Calls Try.prog 24 #[.int .i64 tz, .int .i64 e, .int .i64 bo] w fun en w' => ∃ c g, en = .returned (.tuple #[.pointer (some ⟨c, 0, none⟩), .pointer (some ⟨g, 0, none⟩), .bool true]) ∧ CG W w' c g tz e 0 1 tz bo 0 := by
  have HC := cnew_yes w tz e h1 h2
  have HS := Kp.mk (show tz ≠ 0 by have := sw_yes h1; omega)
  have HW := Kp.mk hW
  clear hW
  go_enter Try.func24, Try.ntmps24
  go_wp2_with fail
  refine HC.mono ?_
  rintro e1 w1 ⟨rfl, hc1, hb1⟩
  have HG := gnew_yes w1 tz bo h1 h3
  have HC1 := Kp.mk (And.intro hc1 (HW.out.trans (hb1.mono HW.out.size)))
  have HZ := Kp.mk hb1.size
  clear HC h1 h2 h3 hc1 hb1
  go_wp2_with fail
  refine HG.mono ?_
  rintro e1 w2 ⟨rfl, hg2, hb2⟩
  have HC2 := Kp.mk (HC1.out.1.below hb2)
  have HB2 := Kp.mk (HC1.out.2.trans (hb2.mono HC1.out.2.size))
  have HG2 := Kp.mk hg2
  clear HG hg2 hb2
  go_wp2_with fail
  refine bodyPost_ret (v := .tuple #[.pointer (some ⟨w.heap.size, 0, none⟩), .pointer (some ⟨w1.heap.size, 0, none⟩), .bool true]) (by simp [results, Try.results24, go_sem]) rfl ?_
  exact ⟨_, _, rfl, HC2.out, HG2.out, HW.out.size, HC1.out.2.size, .inl rfl, HS.out, HB2.out⟩
/-- What goes to and fro when all comes. -/
theorem ok_hello {tz : Int} (h : 1 ≤ tz ∧ tz ≤ 6) : (svHello tz).ok = true := (Sv.ok_iff _).2 (by unfold okS svHello; simp; omega)
theorem ok_hi {tz b : Int} (h : 1 ≤ tz ∧ tz ≤ 6) (hb : 0 ≤ b ∧ b ≤ 4294967295) : (svHi tz b).ok = true := (Sv.ok_iff _).2 (by unfold okS svHi; simp; omega)
theorem ok_syn {tz e b : Int} (h : 1 ≤ tz ∧ tz ≤ 6) (he : 1 ≤ e ∧ e ≤ 4294967295) (hb : 0 ≤ b ∧ b ≤ 4294967295) : (svSyn tz e b).ok = true := (Sv.ok_iff _).2 (by unfold okS svSyn; simp; omega)
theorem ok_ack {tz e : Int} (h : 1 ≤ tz ∧ tz ≤ 6) (he : 1 ≤ e ∧ e ≤ 4294967295) : (svAck tz e).ok = true := (Sv.ok_iff _).2 (by unfold okS svAck wayS; simp; omega)
theorem no_zero (m : Int) : sv0.is m = false := by
  unfold Sv.is
  have : sv0.ok = false := decide_eq_false (by unfold okS sv0; simp)
  rw [this]
  simp
section
variable {tz e b q sf bo E : Int}
theorem hello_ans (h : 1 ≤ tz ∧ tz ≤ 6) : helloG (svHello tz) tz = true := by
  unfold helloG Sv.is
  rw [ok_hello h]
  simp [svHello]
theorem ans_hello (h : 1 ≤ tz ∧ tz ≤ 6) : ansG (svHello tz) tz bo E = svHi tz bo ∧ isG (svHello tz) tz bo E = true ∧ begG (svHello tz) tz bo E = false ∧ epG (svHello tz) tz bo E = E := by
  have h1 := hello_ans h
  have h2 := hello_not (bo := bo) h1
  unfold ansG isG begG epG ackG
  rw [h1, h2]
  simp
theorem off_syn (h : 1 ≤ tz ∧ tz ≤ 6) (he : 1 ≤ e ∧ e ≤ 4294967295) (hb : 0 ≤ bo ∧ bo ≤ 4294967295) : offG (svSyn tz e bo) tz bo = true := by
  unfold offG Sv.is
  rw [ok_syn h he hb]
  simp [svSyn]
theorem ans_syn (h : 1 ≤ tz ∧ tz ≤ 6) (he : 1 ≤ e ∧ e ≤ 4294967295) (hb : 0 ≤ bo ∧ bo ≤ 4294967295) (hE : E ≤ e) : ansG (svSyn tz e bo) tz bo E = svAck tz e ∧ isG (svSyn tz e bo) tz bo E = true ∧ begG (svSyn tz e bo) tz bo E = decide (E < e) ∧ epG (svSyn tz e bo) tz bo E = e := by
  have h1 := off_syn h he hb
  have h2 := off_not h1
  have h3 : ackG (svSyn tz e bo) tz bo E = true := by
    unfold ackG
    rw [h1, decide_eq_true (show E ≤ (svSyn tz e bo).p from hE)]
    rfl
  unfold ansG isG begG epG
  rw [h2, h3]
  exact ⟨rfl, rfl, rfl, rfl⟩
theorem ans_late (h : 1 ≤ tz ∧ tz ≤ 6) (he : 1 ≤ e ∧ e ≤ 4294967295) (hb : 0 ≤ bo ∧ bo ≤ 4294967295) (hE : e < E) : ansG (svSyn tz e bo) tz bo E = sv0 ∧ isG (svSyn tz e bo) tz bo E = false ∧ begG (svSyn tz e bo) tz bo E = false ∧ epG (svSyn tz e bo) tz bo E = E := by
  have h1 := off_syn h he hb
  have h2 := off_not h1
  have h3 : ackG (svSyn tz e bo) tz bo E = false := by
    unfold ackG
    rw [h1, decide_eq_false (show ¬ E ≤ (svSyn tz e bo).p from by show ¬ E ≤ e; omega)]
    rfl
  unfold ansG isG begG epG
  rw [h2, h3]
  simp
theorem goes_hi (h : 1 ≤ tz ∧ tz ≤ 6) (hb : 0 ≤ bo ∧ bo ≤ 4294967295) : goC (svHi tz bo) tz e 1 = true ∧ bC (svHi tz bo) tz e b 1 = bo ∧ qC (svHi tz bo) tz e 1 = 2 := by
  have h1 : goC (svHi tz bo) tz e 1 = true := by
    unfold goC Sv.is
    rw [ok_hi h hb]
    simp [svHi]
  unfold bC qC
  rw [h1]
  simp [svHi]
theorem goes_ack (h : 1 ≤ tz ∧ tz ≤ 6) (he : 1 ≤ e ∧ e ≤ 4294967295) : goC (svAck tz e) tz e 2 = true ∧ bC (svAck tz e) tz e b 2 = b ∧ qC (svAck tz e) tz e 2 = 3 := by
  have h1 : goC (svAck tz e) tz e 2 = true := by
    unfold goC Sv.is
    rw [ok_ack h he]
    simp [svAck]
  unfold bC qC
  rw [h1]
  simp
end
section
variable {W w w' : World} {c g : Nat} {tz e b q sf bo E : Int}
theorem CG.says1 (h : CG W w c g tz e b 1 sf bo E) : Calls Try.prog 11 #[.pointer (some ⟨c, 0, none⟩)] w fun en w' =>  en = .returned (.tuple #[.agg #[.int .i64 1, .int .i64 tz, .int .i64 0, .int .i64 12, .int .i64 0, .int .i64 0, .int .i64 0, .int .i64 0, .slice none 0 0], .bool true]) ∧ CG W w' c g tz e b 1 sf bo E ∧ Below w.heap.size w w' := h.says
theorem CG.says2 (h : CG W w c g tz e b 2 sf bo E) : Calls Try.prog 11 #[.pointer (some ⟨c, 0, none⟩)] w fun en w' =>  en = .returned (.tuple #[.agg #[.int .i64 3, .int .i64 tz, .int .i64 0, .int .i64 12, .int .i64 e, .int .i64 b, .int .i64 0, .int .i64 0, .slice none 0 0], .bool true]) ∧ CG W w' c g tz e b 2 sf bo E ∧ Below w.heap.size w w' := h.says
theorem CG.says3 (h : CG W w c g tz e b 3 sf bo E) : Calls Try.prog 11 #[.pointer (some ⟨c, 0, none⟩)] w fun en w' =>  en = .returned (.tuple #[.agg #[.int .i64 0, .int .i64 0, .int .i64 0, .int .i64 0, .int .i64 0, .int .i64 0, .int .i64 0, .int .i64 0, .slice none 0 0], .bool false]) ∧ CG W w' c g tz e b 3 sf bo E ∧ Below w.heap.size w w' := h.says
theorem CG.gHello (h : CG W w c g tz e b q tz bo E) (ht : 1 ≤ tz ∧ tz ≤ 6) : Calls Try.prog 27 #[.pointer (some ⟨g, 0, none⟩), .agg #[.int .i64 1, .int .i64 tz, .int .i64 0, .int .i64 12, .int .i64 0, .int .i64 0, .int .i64 0, .int .i64 0, .slice none 0 0]] w fun en w' =>  en = .returned (.tuple #[.agg #[.int .i64 2, .int .i64 0, .int .i64 tz, .int .i64 12, .int .i64 0, .int .i64 bo, .int .i64 0, .int .i64 0, .slice none 0 0], .bool true, .bool false]) ∧ CG W w' c g tz e b q tz bo E ∧ w.grownBy w' (some g) := by
  obtain ⟨e1, e2, e3, e4⟩ := ans_hello (bo := bo) (E := E) ht
  have := h.gtake (svHello tz)
  rw [e1, e2, e3, e4] at this
  exact this
theorem CG.gSyn (h : CG W w c g tz e b q tz bo E) (x : Int) (ht : 1 ≤ tz ∧ tz ≤ 6) (he : 1 ≤ x ∧ x ≤ 4294967295) (hb : 0 ≤ bo ∧ bo ≤ 4294967295) (hE : E ≤ x) {B : Bool} (hB : decide (E < x) = B) : Calls Try.prog 27 #[.pointer (some ⟨g, 0, none⟩), .agg #[.int .i64 3, .int .i64 tz, .int .i64 0, .int .i64 12, .int .i64 x, .int .i64 bo, .int .i64 0, .int .i64 0, .slice none 0 0]] w fun en w' =>  en = .returned (.tuple #[.agg #[.int .i64 4, .int .i64 0, .int .i64 tz, .int .i64 12, .int .i64 x, .int .i64 0, .int .i64 0, .int .i64 0, .slice none 0 0], .bool true, .bool B]) ∧ CG W w' c g tz e b q tz bo x ∧ w.grownBy w' (some g) := by
  obtain ⟨e1, e2, e3, e4⟩ := ans_syn (bo := bo) (E := E) ht he hb hE
  have := h.gtake (svSyn tz x bo)
  rw [e1, e2, e3, e4, hB] at this
  exact this
theorem CG.gLate (h : CG W w c g tz e b q tz bo E) (x : Int) (ht : 1 ≤ tz ∧ tz ≤ 6) (he : 1 ≤ x ∧ x ≤ 4294967295) (hb : 0 ≤ bo ∧ bo ≤ 4294967295) (hE : x < E) : Calls Try.prog 27 #[.pointer (some ⟨g, 0, none⟩), .agg #[.int .i64 3, .int .i64 tz, .int .i64 0, .int .i64 12, .int .i64 x, .int .i64 bo, .int .i64 0, .int .i64 0, .slice none 0 0]] w fun en w' =>  en = .returned (.tuple #[.agg #[.int .i64 0, .int .i64 0, .int .i64 0, .int .i64 0, .int .i64 0, .int .i64 0, .int .i64 0, .int .i64 0, .slice none 0 0], .bool false, .bool false]) ∧ CG W w' c g tz e b q tz bo E ∧ w.grownBy w' (some g) := by
  obtain ⟨e1, e2, e3, e4⟩ := ans_late (bo := bo) (E := E) ht he hb hE
  have := h.gtake (svSyn tz x bo)
  rw [e1, e2, e3, e4] at this
  exact this
theorem CG.tHi (h : CG W w c g tz e b 1 sf bo E) (ht : 1 ≤ tz ∧ tz ≤ 6) (hb : 0 ≤ bo ∧ bo ≤ 4294967295) : Calls Try.prog 26 #[.pointer (some ⟨c, 0, none⟩), .agg #[.int .i64 2, .int .i64 0, .int .i64 tz, .int .i64 12, .int .i64 0, .int .i64 bo, .int .i64 0, .int .i64 0, .slice none 0 0]] w fun en w' =>  en = .returned (.bool true) ∧ CG W w' c g tz e bo 2 sf bo E ∧ w.grownBy w' (some c) := by
  obtain ⟨e1, e2, e3⟩ := goes_hi (b := b) (e := e) ht hb
  have := h.take (svHi tz bo)
  rw [e1, e2, e3] at this
  exact this
theorem CG.tAck (h : CG W w c g tz e b 2 sf bo E) (ht : 1 ≤ tz ∧ tz ≤ 6) (he : 1 ≤ e ∧ e ≤ 4294967295) : Calls Try.prog 26 #[.pointer (some ⟨c, 0, none⟩), .agg #[.int .i64 4, .int .i64 0, .int .i64 tz, .int .i64 12, .int .i64 e, .int .i64 0, .int .i64 0, .int .i64 0, .slice none 0 0]] w fun en w' =>  en = .returned (.bool true) ∧ CG W w' c g tz e b 3 sf bo E ∧ w.grownBy w' (some c) := by
  obtain ⟨e1, e2, e3⟩ := goes_ack (b := b) ht he
  have := h.take (svAck tz e)
  rw [e1, e2, e3] at this
  exact this
theorem CG.open_ (h : CG W w c g tz e b q sf bo E) : Calls Try.prog 14 #[.pointer (some ⟨c, 0, none⟩)] w fun en w' => en = .returned (.bool (q == 3)) ∧ w' = w := cOpen h.cb
theorem CG.epoch (h : CG W w c g tz e b q sf bo E) : Calls Try.prog 18 #[.pointer (some ⟨g, 0, none⟩)] w fun en w' => en = .returned (.int .i64 E) ∧ w' = w := gEpoch h.gb
end
/-- An epoch that is offered, and not too late. -/
theorem ans_off {x : Sv} {sf bo E : Int} (h1 : offG x sf bo = true) (hE : E ≤ x.p) : ansG x sf bo E = svAck sf x.p ∧ isG x sf bo E = true ∧ begG x sf bo E = decide (E < x.p) ∧ epG x sf bo E = x.p := by
  have h2 := off_not h1
  have h3 : ackG x sf bo E = true := by
    unfold ackG
    rw [h1, decide_eq_true hE]
    rfl
  unfold ansG isG begG epG
  rw [h2, h3]
  exact ⟨rfl, rfl, rfl, rfl⟩
theorem CG.gSyn0 {W w : World} {c g : Nat} {tz e b q bo E : Int} (h : CG W w c g tz e b q tz bo E) (x : Int) (ht : 1 ≤ tz ∧ tz ≤ 6) (he : 1 ≤ x ∧ x ≤ 4294967295) (hb : 0 ≤ bo ∧ bo ≤ 4294967295) (hE : E ≤ x) {B : Bool} (hB : decide (E < x) = B) : Calls Try.prog 27 #[.pointer (some ⟨g, 0, none⟩), .agg #[.int .i64 3, .int .i64 tz, .int .i64 0, .int .i64 0, .int .i64 x, .int .i64 bo, .int .i64 0, .int .i64 0, .slice none 0 0]] w fun en w' => en = .returned (.tuple #[.agg #[.int .i64 4, .int .i64 0, .int .i64 tz, .int .i64 12, .int .i64 x, .int .i64 0, .int .i64 0, .int .i64 0, .slice none 0 0], .bool true, .bool B]) ∧ CG W w' c g tz e b q tz bo x ∧ w.grownBy w' (some g) := by
  have ho : offG ⟨3, tz, 0, 0, x, bo, 0, 0, none, 0, 0⟩ tz bo = true := by
    have hk : (⟨3, tz, 0, 0, x, bo, 0, 0, none, 0, 0⟩ : Sv).ok = true := (Sv.ok_iff _).2 (by unfold okS; simp; omega)
    unfold offG Sv.is
    rw [hk]
    simp
  obtain ⟨e1, e2, e3, e4⟩ := ans_off (E := E) ho hE
  have := h.gtake ⟨3, tz, 0, 0, x, bo, 0, 0, none, 0, 0⟩
  rw [e1, e2, e3, e4] at this
  rw [← hB]
  exact this
theorem new_seg9 (w : World) (k t f h p o s a : Int) (A : Option Addr) (n c : Nat) : Vb 31 (w.alloc (.cells #[.int .i64 k, .int .i64 t, .int .i64 f, .int .i64 h, .int .i64 p, .int .i64 o, .int .i64 s, .int .i64 a, .slice A n c] 31)) w.heap.size [.int .i64 k, .int .i64 t, .int .i64 f, .int .i64 h, .int .i64 p, .int .i64 o, .int .i64 s, .int .i64 a, .slice A n c] ∧ Below w.heap.size w (w.alloc (.cells #[.int .i64 k, .int .i64 t, .int .i64 f, .int .i64 h, .int .i64 p, .int .i64 o, .int .i64 s, .int .i64 a, .slice A n c] 31)) := new_seg w ⟨k, t, f, h, p, o, s, a, A, n, c⟩
theorem seg_nine {X : World} {g n c : Nat} {k t f h p o s a : Int} {A : Option Addr} (hv : Vb 31 X g [.int .i64 k, .int .i64 t, .int .i64 f, .int .i64 h, .int .i64 p, .int .i64 o, .int .i64 s, .int .i64 a, .slice A n c]) : X.cell? ⟨g, 0, none⟩ = some (.int .i64 k) ∧ X.cell? ⟨g, 1, none⟩ = some (.int .i64 t) ∧ X.cell? ⟨g, 2, none⟩ = some (.int .i64 f) ∧ X.cell? ⟨g, 3, none⟩ = some (.int .i64 h) ∧
    X.cell? ⟨g, 4, none⟩ = some (.int .i64 p) ∧ X.cell? ⟨g, 5, none⟩ = some (.int .i64 o) ∧ X.cell? ⟨g, 6, none⟩ = some (.int .i64 s) ∧ X.cell? ⟨g, 7, none⟩ = some (.int .i64 a) ∧ X.cell? ⟨g, 8, none⟩ = some (.slice A n c) :=
  ⟨hv.cell 0 rfl, hv.cell 1 rfl, hv.cell 2 rfl, hv.cell 3 rfl, hv.cell 4 rfl, hv.cell 5 rfl, hv.cell 6 rfl, hv.cell 7 rfl, hv.cell 8 rfl⟩
end Go.Proofs.Ytomjnpjabfnlbaa.Oct
