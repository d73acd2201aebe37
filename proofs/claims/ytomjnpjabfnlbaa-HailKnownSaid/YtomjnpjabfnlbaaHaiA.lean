/- Layer 16 (hail): segments as values; isSwitch, isLong, isOne; the call: state, Open, Boot, Says, NewCall. -/
import Derived.Test.YtomjnpjabfnlbaaSegA
import Derived.Deep.CutRange
namespace Go.Proofs.Ytomjnpjabfnlbaa.Oct
open Go.RowKit
set_option linter.unusedVariables false
set_option linter.unusedSimpArgs false

/-- A segment as a value: its numbers, its message's slice. -/
structure Sv where
  k : Int
  t : Int
  f : Int
  h : Int
  p : Int
  o : Int
  s : Int
  a : Int
  A : Option Addr
  n : Nat
  c : Nat
def Sv.cells (x : Sv) : List Value := [.int .i64 x.k, .int .i64 x.t, .int .i64 x.f, .int .i64 x.h, .int .i64 x.p, .int .i64 x.o, .int .i64 x.s, .int .i64 x.a, .slice x.A x.n x.c]
def Sv.v (x : Sv) : Value := .agg #[.int .i64 x.k, .int .i64 x.t, .int .i64 x.f, .int .i64 x.h, .int .i64 x.p, .int .i64 x.o, .int .i64 x.s, .int .i64 x.a, .slice x.A x.n x.c]
/-- It may be. -/
def Sv.ok (x : Sv) : Bool := decide (okS x.k x.t x.f x.h x.p x.o x.s x.a x.n)
/-- One of a kind that may be. -/
def Sv.is (x : Sv) (kd : Int) : Bool := (x.k == kd) && x.ok
def sv0 : Sv := ⟨0, 0, 0, 0, 0, 0, 0, 0, none, 0, 0⟩
def svHello (tz : Int) : Sv := ⟨1, tz, 0, 12, 0, 0, 0, 0, none, 0, 0⟩
def svHi (f b : Int) : Sv := ⟨2, 0, f, 12, 0, b, 0, 0, none, 0, 0⟩
def svSyn (tz e b : Int) : Sv := ⟨3, tz, 0, 12, e, b, 0, 0, none, 0, 0⟩
def svAck (f e : Int) : Sv := ⟨4, 0, f, 12, e, 0, 0, 0, none, 0, 0⟩
theorem Sv.cells_len (x : Sv) : x.cells.length = 9 := rfl
theorem agg_seg : Agg 31 9 := ⟨⟨_, Try.underlying31, rfl⟩, by kernel_rfl⟩
theorem Sv.ok_iff (x : Sv) : x.ok = true ↔ okS x.k x.t x.f x.h x.p x.o x.s x.a x.n := decide_eq_true_iff
theorem check_yes (x : Sv) (h : x.ok = true) (w : World) : Calls Try.prog 51 #[x.v] w fun e w' => e = .returned (.int .i64 0) ∧ Below w.heap.size w w' := by
  have h2 := (checkS_zero x.k x.t x.f x.h x.p x.o x.s x.a x.n).2 (x.ok_iff.1 h)
  have h3 := checkS_any x.k x.t x.f x.h x.p x.o x.s x.a x.A x.n x.c w
  rw [h2] at h3
  exact h3
theorem check_no (x : Sv) (h : x.ok = false) (w : World) : Calls Try.prog 51 #[x.v] w fun e w' => e = .returned (.int .i64 2) ∧ Below w.heap.size w w' := by
  have h2 : checkS x.k x.t x.f x.h x.p x.o x.s x.a x.n = 2 := if_neg (of_decide_eq_false h)
  have h3 := checkS_any x.k x.t x.f x.h x.p x.o x.s x.a x.A x.n x.c w
  rw [h2] at h3
  exact h3
set_option maxRecDepth 100000 in
theorem isOne_any (x : Sv) (kd : Int) (w : World) : Calls Try.prog 46 #[x.v, .int .i64 kd] w fun e w' => e = .returned (.bool (x.is kd)) ∧ Below w.heap.size w w' := by
  have hy := check_yes x
  have hn := check_no x
  have hx : x.is = fun kd => (x.k == kd) && x.ok := rfl
  rw [hx]
  obtain ⟨k, t, f, h, p, o, s, a, A, n, c⟩ := x
  have HB := Kp.mk (below_alloc w (.cells #[.int .i64 k, .int .i64 t, .int .i64 f, .int .i64 h, .int .i64 p, .int .i64 o, .int .i64 s, .int .i64 a, .slice A n c] 31))
  simp only [Sv.v] at hy hn ⊢
  cases hk : (k == kd) with
  | false =>
    clear hy hn hx
    go_enter Try.func46, Try.ntmps46
    go_wp2_with fail
    go_ret
    exact ⟨rfl, HB.out⟩
  | true =>
    clear hx
    cases hok : Sv.ok ⟨k, t, f, h, p, o, s, a, A, n, c⟩ with
    | true =>
      have hc := hy hok (w.alloc (.cells #[.int .i64 k, .int .i64 t, .int .i64 f, .int .i64 h, .int .i64 p, .int .i64 o, .int .i64 s, .int .i64 a, .slice A n c] 31))
      clear hy hn hok
      go_enter Try.func46, Try.ntmps46
      go_wp2_with fail
      refine hc.mono ?_
      rintro e w1 ⟨rfl, hb⟩
      go_wp2_with fail
      go_ret
      exact ⟨rfl, HB.out.trans (hb.mono (by simp))⟩
    | false =>
      have hc := hn hok (w.alloc (.cells #[.int .i64 k, .int .i64 t, .int .i64 f, .int .i64 h, .int .i64 p, .int .i64 o, .int .i64 s, .int .i64 a, .slice A n c] 31))
      clear hy hn hok
      go_enter Try.func46, Try.ntmps46
      go_wp2_with fail
      refine hc.mono ?_
      rintro e w1 ⟨rfl, hb⟩
      go_wp2_with fail
      go_ret
      exact ⟨rfl, HB.out.trans (hb.mono (by simp))⟩
/-- A switch's number; a number of four bytes from f on. -/
def swB (n : Int) : Bool := decide (1 ≤ n ∧ n ≤ 6)
def lgB (n f : Int) : Bool := decide (f ≤ n ∧ n ≤ 4294967295)
theorem isSwitch_any (n : Int) (w : World) : Calls Try.prog 28 #[.int .i64 n] w fun e w' => e = .returned (.bool (swB n)) ∧ w' = w := by
  unfold swB
  by_cases h0 : 1 ≤ n
  · by_cases h1 : n ≤ 6
    · rw [decide_eq_true ⟨h0, h1⟩]
      go_enter Try.func28, Try.ntmps28
      go_wp2_with fail
      go_ret
      exact ⟨by simp [h1], rfl⟩
    · rw [decide_eq_false (fun e => h1 e.2)]
      go_enter Try.func28, Try.ntmps28
      go_wp2_with fail
      go_ret
      exact ⟨by simp [h1], rfl⟩
  · rw [decide_eq_false (fun e => h0 e.1)]
    go_enter Try.func28, Try.ntmps28
    go_wp2_with fail
    go_ret
    exact ⟨rfl, rfl⟩
theorem isLong_any (n f : Int) (w : World) : Calls Try.prog 29 #[.int .i64 n, .int .i64 f] w fun e w' => e = .returned (.bool (lgB n f)) ∧ w' = w := by
  unfold lgB
  by_cases h0 : f ≤ n
  · by_cases h1 : n ≤ 4294967295
    · rw [decide_eq_true ⟨h0, h1⟩]
      go_enter Try.func29, Try.ntmps29
      go_wp2_with fail
      go_ret
      exact ⟨by simp [h1], rfl⟩
    · rw [decide_eq_false (fun e => h1 e.2)]
      go_enter Try.func29, Try.ntmps29
      go_wp2_with fail
      go_ret
      exact ⟨by simp [h1], rfl⟩
  · rw [decide_eq_false (fun e => h0 e.1)]
    go_enter Try.func29, Try.ntmps29
    go_wp2_with fail
    go_ret
    exact ⟨rfl, rfl⟩
/-- A call in memory: its switch, its epoch, the boot, how far it has come (1 asks, 2 offers, 3 open). -/
def Cb (w : World) (c : Nat) (tz e b q : Int) : Prop := Vb 65 w c [.int .i64 tz, .int .i64 e, .int .i64 b, .int .i64 q]
section
variable {w w' : World} {c : Nat} {tz e b q : Int}
set_option maxRecDepth 100000 in
theorem cState (h : Cb w c tz e b q) : Calls Try.prog 33 #[.pointer (some ⟨c, 0, none⟩)] w fun en w' => en = .returned (.int .i64 q) ∧ w' = w := by
  have c3 := Vb.cell h 3 rfl
  clear h
  go_enter Try.func33, Try.ntmps33
  go_wp2_with fail
  go_ret
  exact ⟨rfl, rfl⟩
set_option maxRecDepth 100000 in
theorem cOpen (h : Cb w c tz e b q) : Calls Try.prog 14 #[.pointer (some ⟨c, 0, none⟩)] w fun en w' => en = .returned (.bool (q == 3)) ∧ w' = w := by
  have HS := cState h
  clear h
  go_enter Try.func14, Try.ntmps14
  go_wp2_with fail
  refine HS.mono ?_
  rintro e w1 ⟨rfl, rfl⟩
  go_wp2_with fail
  go_ret
  exact ⟨rfl, rfl⟩
set_option maxRecDepth 100000 in
theorem cBoot (h : Cb w c tz e b q) : Calls Try.prog 16 #[.pointer (some ⟨c, 0, none⟩)] w fun en w' => en = .returned (.int .i64 b) ∧ w' = w := by
  have c3 := Vb.cell h 2 rfl
  clear h
  go_enter Try.func16, Try.ntmps16
  go_wp2_with fail
  go_ret
  exact ⟨rfl, rfl⟩
end
set_option maxRecDepth 100000 in
theorem cnew_yes (w : World) (tz e : Int) (h1 : swB tz = true) (h2 : lgB e 1 = true) : Calls Try.prog 7 #[.int .i64 tz, .int .i64 e] w fun en w' => en = .returned (.tuple #[.pointer (some ⟨w.heap.size, 0, none⟩), .int .i64 0]) ∧ Cb w' w.heap.size tz e 0 1 ∧ Below w.heap.size w w' := by
  have HN := Kp.mk (And.intro (Vb.new 65 w [.int .i64 tz, .int .i64 e, .int .i64 0, .int .i64 1]) (below_alloc w (.cells #[.int .i64 tz, .int .i64 e, .int .i64 0, .int .i64 1] 65)))
  have hs := isSwitch_any tz w
  have hl := isLong_any e 1 w
  rw [h1] at hs
  rw [h2] at hl
  clear h1 h2
  go_enter Try.func7, Try.ntmps7
  go_wp2_with fail
  refine hs.mono ?_
  rintro e1 w1 ⟨rfl, hw1⟩
  replace hw1 := hw1.symm
  subst hw1
  go_wp2_with fail
  refine hl.mono ?_
  rintro e1 w1 ⟨rfl, hw1⟩
  replace hw1 := hw1.symm
  subst hw1
  go_wp2_with fail
  go_ret2
  exact ⟨rfl, HN.out.1, HN.out.2⟩
set_option maxRecDepth 100000 in
theorem cnew_no (w : World) (tz e : Int) (h : (swB tz && lgB e 1) = false) : Calls Try.prog 7 #[.int .i64 tz, .int .i64 e] w fun en w' => en = .returned (.tuple #[.pointer none, .int .i64 2]) ∧ w' = w := by
  have hs := isSwitch_any tz w
  have hl := isLong_any e 1 w
  cases h1 : swB tz with
  | false =>
    rw [h1] at hs
    clear h h1 hl
    go_enter Try.func7, Try.ntmps7
    go_wp2_with fail
    refine hs.mono ?_
    rintro e1 w1 ⟨rfl, hw1⟩
    replace hw1 := hw1.symm
    subst hw1
    go_wp2_with fail
    go_ret2
    exact ⟨rfl, rfl⟩
  | true =>
    have h2 : lgB e 1 = false := by rw [h1] at h; simpa using h
    rw [h1] at hs
    rw [h2] at hl
    clear h h1 h2
    go_enter Try.func7, Try.ntmps7
    go_wp2_with fail
    refine hs.mono ?_
    rintro e1 w1 ⟨rfl, hw1⟩
    replace hw1 := hw1.symm
    subst hw1
    go_wp2_with fail
    refine hl.mono ?_
    rintro e1 w1 ⟨rfl, hw1⟩
    replace hw1 := hw1.symm
    subst hw1
    go_wp2_with fail
    go_ret2
    exact ⟨rfl, rfl⟩
section
variable {w w' : World} {c : Nat} {tz e b q : Int}
/-- What a call says, and whether it says something. -/
def saysC (tz e b q : Int) : Sv := if q = 1 then svHello tz else if q = 2 then svSyn tz e b else sv0
theorem new_seg (w : World) (y : Sv) : Vb 31 (w.alloc (.cells y.cells.toArray 31)) w.heap.size y.cells ∧ Below w.heap.size w (w.alloc (.cells y.cells.toArray 31)) := ⟨Vb.new _ w _, below_alloc w _⟩
set_option maxRecDepth 100000 in
theorem cSaysHello (h : Cb w c tz e b q) : Calls Try.prog 31 #[.pointer (some ⟨c, 0, none⟩)] w fun en w' => en = .returned (.tuple #[(svHello tz).v, .bool true]) ∧ Below w.heap.size w w' := by
  have HN := Kp.mk (new_seg w (svHello tz))
  have c0 := (Vb.cell (Vb.alloc h (.cells #[.int .i64 0, .int .i64 0, .int .i64 0, .int .i64 0, .int .i64 0, .int .i64 0, .int .i64 0, .int .i64 0, .slice none 0 0] 31)) 0 rfl)
  clear h
  go_enter Try.func31, Try.ntmps31
  go_wp2_with fail
  refine bodyPost_ret (v := .tuple #[(svHello tz).v, .bool true]) (results_pair Try.results31 _ rfl HN.out.1 agg_seg) rfl ?_
  exact ⟨rfl, HN.out.2⟩
set_option maxRecDepth 100000 in
theorem cSaysNothing (w : World) (P : Option Addr) : Calls Try.prog 30 #[.pointer P] w fun en w' => en = .returned (.tuple #[sv0.v, .bool false]) ∧ Below w.heap.size w w' := by
  have HN := Kp.mk (new_seg w sv0)
  go_enter Try.func30, Try.ntmps30
  go_wp2_with fail
  refine bodyPost_ret (v := .tuple #[sv0.v, .bool false]) (results_pair Try.results30 _ rfl HN.out.1 agg_seg) rfl ?_
  exact ⟨rfl, HN.out.2⟩
set_option maxRecDepth 100000 in
theorem cSaysSyn (h : Cb w c tz e b q) : Calls Try.prog 32 #[.pointer (some ⟨c, 0, none⟩)] w fun en w' => en = .returned (.tuple #[(svSyn tz e b).v, .bool true]) ∧ Below w.heap.size w w' := by
  have HN := Kp.mk (new_seg w (svSyn tz e b))
  have c0 := (Vb.cell (Vb.alloc h (.cells #[.int .i64 0, .int .i64 0, .int .i64 0, .int .i64 0, .int .i64 0, .int .i64 0, .int .i64 0, .int .i64 0, .slice none 0 0] 31)) 0 rfl)
  have c1 := (Vb.cell (Vb.alloc h (.cells #[.int .i64 0, .int .i64 0, .int .i64 0, .int .i64 0, .int .i64 0, .int .i64 0, .int .i64 0, .int .i64 0, .slice none 0 0] 31)) 1 rfl)
  have c2 := (Vb.cell (Vb.alloc h (.cells #[.int .i64 0, .int .i64 0, .int .i64 0, .int .i64 0, .int .i64 0, .int .i64 0, .int .i64 0, .int .i64 0, .slice none 0 0] 31)) 2 rfl)
  clear h
  go_enter Try.func32, Try.ntmps32
  go_upto_region 1 with fail
  go_region
  clear c0 c1 c2
  go_wp2_with fail
  have hv := HN.out.1.below (Below.refl _ _).drew HN.out.1.lt
  refine bodyPost_ret (v := .tuple #[(svSyn tz e b).v, .bool true]) (results_pair Try.results32 _ rfl hv agg_seg) rfl ?_
  exact ⟨rfl, HN.out.2.drew⟩
theorem agg_says : Agg 75 4 := ⟨⟨_, Try.underlying75, rfl⟩, by kernel_rfl⟩
set_option maxRecDepth 100000 in
theorem cSays (h : Cb w c tz e b q) (hq : q = 1 ∨ q = 2 ∨ q = 3) : Calls Try.prog 11 #[.pointer (some ⟨c, 0, none⟩)] w fun en w' => en = .returned (.tuple #[(saysC tz e b q).v, .bool (q != 3)]) ∧ Below w.heap.size w w' := by
  have HN := Kp.mk (new_seg w sv0)
  have H1 := Kp.mk (Vb.alloc h (.cells #[.int .i64 0, .int .i64 0, .int .i64 0, .int .i64 0, .int .i64 0, .int .i64 0, .int .i64 0, .int .i64 0, .slice none 0 0] 31))
  clear h
  rcases hq with rfl | rfl | rfl
  · go_enter Try.func11, Try.ntmps11
    go_upto_region 2 with (refine wpList_store_new (vs := [.func (.func 30) #[] #[], .func (.func 31) #[] #[], .func (.func 32) #[] #[], .func (.func 30) #[] #[]]) rfl (.tmp 4) (.tmp 5) rfl rfl rfl rfl (by simp) rfl agg_says rfl ?_; intro w2 hv hb hz)
    have hC2 : Cb w2 c tz e b 1 := Vb.below H1.out hb (Vb.lt H1.out)
    have HR2 := Kp.mk (And.intro (Vb.below HN.out.1 hb (Vb.lt HN.out.1)) (HN.out.2.trans (hb.mono HN.out.2.size)))
    have hS := cState hC2
    have hX := cSaysHello hC2
    have k1 := hv.cell 1 rfl
    clear hv hb hz hC2
    go_wp2_with fail
    refine hS.mono ?_
    rintro e1 w3 ⟨rfl, hw3⟩
    replace hw3 := hw3.symm
    subst hw3
    clear hS
    go_wp2_with fail
    refine hX.mono ?_
    rintro e1 w3 ⟨rfl, hb3⟩
    have hV := HR2.out.1.below hb3 HR2.out.1.lt
    have HB3 := Kp.mk (HR2.out.2.trans (hb3.mono HR2.out.2.size))
    have HZ := Kp.mk (show w.heap.size ≤ w3.heap.size from HB3.out.size)
    clear k1 hX hb3 HR2 HN H1
    go_wp2_with (refine wpList_store_vb (vs := (svHello tz).cells) rfl (.tmp 2) (.tmp 12) rfl rfl rfl hV rfl agg_seg rfl ?_; intro w4 hv4 hg4 hz4; clear hV)
    refine bodyPost_ret (v := .tuple #[(svHello tz).v, .bool true]) (results_pair Try.results11 _ rfl hv4 agg_seg) rfl ?_
    exact ⟨rfl, below_grown HB3.out hg4 HZ.out (Nat.le_refl _)⟩
  · go_enter Try.func11, Try.ntmps11
    go_upto_region 2 with (refine wpList_store_new (vs := [.func (.func 30) #[] #[], .func (.func 31) #[] #[], .func (.func 32) #[] #[], .func (.func 30) #[] #[]]) rfl (.tmp 4) (.tmp 5) rfl rfl rfl rfl (by simp) rfl agg_says rfl ?_; intro w2 hv hb hz)
    have hC2 : Cb w2 c tz e b 2 := Vb.below H1.out hb (Vb.lt H1.out)
    have HR2 := Kp.mk (And.intro (Vb.below HN.out.1 hb (Vb.lt HN.out.1)) (HN.out.2.trans (hb.mono HN.out.2.size)))
    have hS := cState hC2
    have hX := cSaysSyn hC2
    have k1 := hv.cell 2 rfl
    clear hv hb hz hC2
    go_wp2_with fail
    refine hS.mono ?_
    rintro e1 w3 ⟨rfl, hw3⟩
    replace hw3 := hw3.symm
    subst hw3
    clear hS
    go_wp2_with fail
    refine hX.mono ?_
    rintro e1 w3 ⟨rfl, hb3⟩
    have hV := HR2.out.1.below hb3 HR2.out.1.lt
    have HB3 := Kp.mk (HR2.out.2.trans (hb3.mono HR2.out.2.size))
    have HZ := Kp.mk (show w.heap.size ≤ w3.heap.size from HB3.out.size)
    clear k1 hX hb3 HR2 HN H1
    go_wp2_with (refine wpList_store_vb (vs := (svSyn tz e b).cells) rfl (.tmp 2) (.tmp 12) rfl rfl rfl hV rfl agg_seg rfl ?_; intro w4 hv4 hg4 hz4; clear hV)
    refine bodyPost_ret (v := .tuple #[(svSyn tz e b).v, .bool true]) (results_pair Try.results11 _ rfl hv4 agg_seg) rfl ?_
    exact ⟨rfl, below_grown HB3.out hg4 HZ.out (Nat.le_refl _)⟩
  · go_enter Try.func11, Try.ntmps11
    go_upto_region 2 with (refine wpList_store_new (vs := [.func (.func 30) #[] #[], .func (.func 31) #[] #[], .func (.func 32) #[] #[], .func (.func 30) #[] #[]]) rfl (.tmp 4) (.tmp 5) rfl rfl rfl rfl (by simp) rfl agg_says rfl ?_; intro w2 hv hb hz)
    have hC2 : Cb w2 c tz e b 3 := Vb.below H1.out hb (Vb.lt H1.out)
    have HR2 := Kp.mk (And.intro (Vb.below HN.out.1 hb (Vb.lt HN.out.1)) (HN.out.2.trans (hb.mono HN.out.2.size)))
    have hS := cState hC2
    have hX := cSaysNothing w2 (some ⟨c, 0, none⟩)
    have k1 := hv.cell 3 rfl
    clear hv hb hz hC2
    go_wp2_with fail
    refine hS.mono ?_
    rintro e1 w3 ⟨rfl, hw3⟩
    replace hw3 := hw3.symm
    subst hw3
    clear hS
    go_wp2_with fail
    refine hX.mono ?_
    rintro e1 w3 ⟨rfl, hb3⟩
    have hV := HR2.out.1.below hb3 HR2.out.1.lt
    have HB3 := Kp.mk (HR2.out.2.trans (hb3.mono HR2.out.2.size))
    have HZ := Kp.mk (show w.heap.size ≤ w3.heap.size from HB3.out.size)
    clear k1 hX hb3 HR2 HN H1
    go_wp2_with (refine wpList_store_vb (vs := (sv0).cells) rfl (.tmp 2) (.tmp 12) rfl rfl rfl hV rfl agg_seg rfl ?_; intro w4 hv4 hg4 hz4; clear hV)
    refine bodyPost_ret (v := .tuple #[(sv0).v, .bool false]) (results_pair Try.results11 _ rfl hv4 agg_seg) rfl ?_
    exact ⟨rfl, below_grown HB3.out hg4 HZ.out (Nat.le_refl _)⟩
end
end Go.Proofs.Ytomjnpjabfnlbaa.Oct
