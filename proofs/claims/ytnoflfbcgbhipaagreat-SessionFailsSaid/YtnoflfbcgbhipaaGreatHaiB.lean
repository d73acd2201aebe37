import Derived.Test.YtnoflfbcgbhipaaGreatSegA
import Derived.Deep.CutRange
set_option linter.unusedSimpArgs false
set_option linter.unusedVariables false
set_option maxRecDepth 100000
set_option maxHeartbeats 2000000
namespace Go.Proofs.YtnoflfbcgbhipaaGreat.Oct
open Go.RowKit
structure Sv where
 k : Int
 t : Int
 f : Int
 h : Int
 p : Int
 o : Int
 s : Int
 a : Int
 A : Option Addr
 n : Nat
 c : Nat
def Sv.cells (x : Sv) : List Value := [.int .i64 x.k, .int .i64 x.t, .int .i64 x.f, .int .i64 x.h, .int .i64 x.p, .int .i64 x.o, .int .i64 x.s, .int .i64 x.a, .slice x.A x.n x.c]
def Sv.v (x : Sv) : Value := .agg #[.int .i64 x.k, .int .i64 x.t, .int .i64 x.f, .int .i64 x.h, .int .i64 x.p, .int .i64 x.o, .int .i64 x.s, .int .i64 x.a, .slice x.A x.n x.c]
def Sv.ok (x : Sv) : Bool := decide (okS x.k x.t x.f x.h x.p x.o x.s x.a x.n)
def Sv.is (x : Sv) (kd : Int) : Bool := (x.k == kd) && x.ok
def sv0 : Sv := ⟨0, 0, 0, 0, 0, 0, 0, 0, none, 0, 0⟩
def svHello (tz : Int) : Sv := ⟨1, tz, 0, 12, 0, 0, 0, 0, none, 0, 0⟩
def svHi (f b : Int) : Sv := ⟨2, 0, f, 12, 0, b, 0, 0, none, 0, 0⟩
def svSyn (tz e b : Int) : Sv := ⟨3, tz, 0, 12, e, b, 0, 0, none, 0, 0⟩
def svAck (f e : Int) : Sv := ⟨4, 0, f, 12, e, 0, 0, 0, none, 0, 0⟩
theorem Sv.cells_len (x : Sv) : x.cells.length = 9 := rfl
theorem agg_seg : Agg 54 9 := ⟨⟨_, Tryz.underlying54, rfl⟩, by kernel_rfl⟩
theorem Sv.ok_iff (x : Sv) : x.ok = true ↔ okS x.k x.t x.f x.h x.p x.o x.s x.a x.n := decide_eq_true_iff
theorem check_yes (x : Sv) (h : x.ok = true) (w : World) : Calls Tryz.prog 75 #[x.v] w fun e w' => e = .returned (.int .i64 0) ∧ Below w.heap.size w w' := by
 have h2 := (checkS_zero x.k x.t x.f x.h x.p x.o x.s x.a x.n).2 (x.ok_iff.1 h)
 have h3 := checkS_any x.k x.t x.f x.h x.p x.o x.s x.a x.A x.n x.c w
 rw [h2] at h3
 exact h3
theorem check_no (x : Sv) (h : x.ok = false) (w : World) : Calls Tryz.prog 75 #[x.v] w fun e w' => e = .returned (.int .i64 2) ∧ Below w.heap.size w w' := by
 have h2 : checkS x.k x.t x.f x.h x.p x.o x.s x.a x.n = 2 := if_neg (of_decide_eq_false h)
 have h3 := checkS_any x.k x.t x.f x.h x.p x.o x.s x.a x.A x.n x.c w
 rw [h2] at h3
 exact h3
theorem isOne_any (x : Sv) (kd : Int) (w : World) : Calls Tryz.prog 158 #[x.v, .int .i64 kd] w fun e w' => e = .returned (.bool (x.is kd)) ∧ Below w.heap.size w w' := by
 have hy := check_yes x
 have hn := check_no x
 have hx : x.is = fun kd => (x.k == kd) && x.ok := rfl
 rw [hx]
 obtain ⟨k, t, f, h, p, o, s, a, A, n, c⟩ := x
 have HB := Kp.mk (below_alloc w (.cells #[.int .i64 k, .int .i64 t, .int .i64 f, .int .i64 h, .int .i64 p, .int .i64 o, .int .i64 s, .int .i64 a, .slice A n c] 54))
 simp only [Sv.v] at hy hn ⊢
 cases hk : (k == kd) with
 | false =>
  clear hy hn hx
  go_enter Tryz.func158, Tryz.ntmps158
  go_wp2_with fail
  go_ret
  exact ⟨rfl, HB.out⟩
 | true =>
  clear hx
  cases hok : Sv.ok ⟨k, t, f, h, p, o, s, a, A, n, c⟩ with
  | true =>
   have hc := hy hok (w.alloc (.cells #[.int .i64 k, .int .i64 t, .int .i64 f, .int .i64 h, .int .i64 p, .int .i64 o, .int .i64 s, .int .i64 a, .slice A n c] 54))
   clear hy hn hok
   go_enter Tryz.func158, Tryz.ntmps158
   go_wp2_with fail
   refine hc.mono ?_
   rintro e w1 ⟨rfl, hb⟩
   go_wp2_with fail
   go_ret
   exact ⟨rfl, HB.out.trans (hb.mono (by simp))⟩
  | false =>
   have hc := hn hok (w.alloc (.cells #[.int .i64 k, .int .i64 t, .int .i64 f, .int .i64 h, .int .i64 p, .int .i64 o, .int .i64 s, .int .i64 a, .slice A n c] 54))
   clear hy hn hok
   go_enter Tryz.func158, Tryz.ntmps158
   go_wp2_with fail
   refine hc.mono ?_
   rintro e w1 ⟨rfl, hb⟩
   go_wp2_with fail
   go_ret
   exact ⟨rfl, HB.out.trans (hb.mono (by simp))⟩
def swB (n : Int) : Bool := decide (1 ≤ n ∧ n ≤ 6)
def lgB (n f : Int) : Bool := decide (f ≤ n ∧ n ≤ 4294967295)
theorem isSwitch_any (n : Int) (w : World) : Calls Tryz.prog 77 #[.int .i64 n] w fun e w' => e = .returned (.bool (swB n)) ∧ w' = w := by
 unfold swB
 by_cases h0 : 1 ≤ n
 ·by_cases h1 : n ≤ 6
  ·rw [decide_eq_true ⟨h0, h1⟩]
   go_enter Tryz.func77, Tryz.ntmps77
   go_wp2_with fail
   go_ret
   exact ⟨by simp [h1], rfl⟩
  ·rw [decide_eq_false (fun e => h1 e.2)]
   go_enter Tryz.func77, Tryz.ntmps77
   go_wp2_with fail
   go_ret
   exact ⟨by simp [h1], rfl⟩
 ·rw [decide_eq_false (fun e => h0 e.1)]
  go_enter Tryz.func77, Tryz.ntmps77
  go_wp2_with fail
  go_ret
  exact ⟨rfl, rfl⟩
theorem isLong_any (n f : Int) (w : World) : Calls Tryz.prog 78 #[.int .i64 n, .int .i64 f] w fun e w' => e = .returned (.bool (lgB n f)) ∧ w' = w := by
 unfold lgB
 by_cases h0 : f ≤ n
 ·by_cases h1 : n ≤ 4294967295
  ·rw [decide_eq_true ⟨h0, h1⟩]
   go_enter Tryz.func78, Tryz.ntmps78
   go_wp2_with fail
   go_ret
   exact ⟨by simp [h1], rfl⟩
  ·rw [decide_eq_false (fun e => h1 e.2)]
   go_enter Tryz.func78, Tryz.ntmps78
   go_wp2_with fail
   go_ret
   exact ⟨by simp [h1], rfl⟩
 ·rw [decide_eq_false (fun e => h0 e.1)]
  go_enter Tryz.func78, Tryz.ntmps78
  go_wp2_with fail
  go_ret
  exact ⟨rfl, rfl⟩
def Cb (w : World) (c : Nat) (tz e b q : Int) : Prop := Vb 149 w c [.int .i64 tz, .int .i64 e, .int .i64 b, .int .i64 q]
section
variable {w w' : World} {c : Nat} {tz e b q : Int}
theorem cState (h : Cb w c tz e b q) : Calls Tryz.prog 92 #[.pointer (some ⟨c, 0, none⟩)] w fun en w' => en = .returned (.int .i64 q) ∧ w' = w := by
 have c3 := Vb.cell h 3 rfl
 clear h
 go_enter Tryz.func92, Tryz.ntmps92
 go_wp2_with fail
 go_ret
 exact ⟨rfl, rfl⟩
theorem cOpen (h : Cb w c tz e b q) : Calls Tryz.prog 51 #[.pointer (some ⟨c, 0, none⟩)] w fun en w' => en = .returned (.bool (q == 3)) ∧ w' = w := by
 have HS := cState h
 clear h
 go_enter Tryz.func51, Tryz.ntmps51
 go_wp2_with fail
 refine HS.mono ?_
 rintro e w1 ⟨rfl, rfl⟩
 go_wp2_with fail
 go_ret
 exact ⟨rfl, rfl⟩
end
theorem cnew_yes (w : World) (tz e : Int) (h1 : swB tz = true) (h2 : lgB e 1 = true) : Calls Tryz.prog 61 #[.int .i64 tz, .int .i64 e] w fun en w' => en = .returned (.tuple #[.pointer (some ⟨w.heap.size, 0, none⟩), .int .i64 0]) ∧ Cb w' w.heap.size tz e 0 1 ∧ Below w.heap.size w w' := by
 have HN := Kp.mk (And.intro (Vb.new 149 w [.int .i64 tz, .int .i64 e, .int .i64 0, .int .i64 1]) (below_alloc w (.cells #[.int .i64 tz, .int .i64 e, .int .i64 0, .int .i64 1] 149)))
 have hs := isSwitch_any tz w
 have hl := isLong_any e 1 w
 rw [h1] at hs
 rw [h2] at hl
 clear h1 h2
 go_enter Tryz.func61, Tryz.ntmps61
 go_wp2_with fail
 refine hs.mono ?_
 rintro e1 w1 ⟨rfl, hw1⟩
 replace hw1 := hw1.symm
 subst hw1
 go_wp2_with fail
 refine hl.mono ?_
 rintro e1 w1 ⟨rfl, hw1⟩
 replace hw1 := hw1.symm
 subst hw1
 go_wp2_with fail
 go_ret2
 exact ⟨rfl, HN.out.1, HN.out.2⟩
section
variable {w w' : World} {c : Nat} {tz e b q : Int}
def saysC (tz e b q : Int) : Sv := if q = 1 then svHello tz else if q = 2 then svSyn tz e b else sv0
theorem new_seg (w : World) (y : Sv) : Vb 54 (w.alloc (.cells y.cells.toArray 54)) w.heap.size y.cells ∧ Below w.heap.size w (w.alloc (.cells y.cells.toArray 54)) := ⟨Vb.new _ w _, below_alloc w _⟩
theorem cSaysHello (h : Cb w c tz e b q) : Calls Tryz.prog 146 #[.pointer (some ⟨c, 0, none⟩)] w fun en w' => en = .returned (.tuple #[(svHello tz).v, .bool true]) ∧ Below w.heap.size w w' := by
 have HN := Kp.mk (new_seg w (svHello tz))
 have c0 := (Vb.cell (Vb.alloc h (.cells #[.int .i64 0, .int .i64 0, .int .i64 0, .int .i64 0, .int .i64 0, .int .i64 0, .int .i64 0, .int .i64 0, .slice none 0 0] 54)) 0 rfl)
 clear h
 go_enter Tryz.func146, Tryz.ntmps146
 go_wp2_with fail
 refine bodyPost_ret (v := .tuple #[(svHello tz).v, .bool true]) (results_pair Tryz.results146 _ rfl HN.out.1 agg_seg) rfl ?_
 exact ⟨rfl, HN.out.2⟩
theorem cSaysNothing (w : World) (P : Option Addr) : Calls Tryz.prog 145 #[.pointer P] w fun en w' => en = .returned (.tuple #[sv0.v, .bool false]) ∧ Below w.heap.size w w' := by
 have HN := Kp.mk (new_seg w sv0)
 go_enter Tryz.func145, Tryz.ntmps145
 go_wp2_with fail
 refine bodyPost_ret (v := .tuple #[sv0.v, .bool false]) (results_pair Tryz.results145 _ rfl HN.out.1 agg_seg) rfl ?_
 exact ⟨rfl, HN.out.2⟩
theorem cSaysSyn (h : Cb w c tz e b q) : Calls Tryz.prog 147 #[.pointer (some ⟨c, 0, none⟩)] w fun en w' => en = .returned (.tuple #[(svSyn tz e b).v, .bool true]) ∧ Below w.heap.size w w' := by
 have HN := Kp.mk (new_seg w (svSyn tz e b))
 have c0 := (Vb.cell (Vb.alloc h (.cells #[.int .i64 0, .int .i64 0, .int .i64 0, .int .i64 0, .int .i64 0, .int .i64 0, .int .i64 0, .int .i64 0, .slice none 0 0] 54)) 0 rfl)
 have c1 := (Vb.cell (Vb.alloc h (.cells #[.int .i64 0, .int .i64 0, .int .i64 0, .int .i64 0, .int .i64 0, .int .i64 0, .int .i64 0, .int .i64 0, .slice none 0 0] 54)) 1 rfl)
 have c2 := (Vb.cell (Vb.alloc h (.cells #[.int .i64 0, .int .i64 0, .int .i64 0, .int .i64 0, .int .i64 0, .int .i64 0, .int .i64 0, .int .i64 0, .slice none 0 0] 54)) 2 rfl)
 clear h
 go_enter Tryz.func147, Tryz.ntmps147
 go_upto_region 1 with fail
 go_region
 clear c0 c1 c2
 go_wp2_with fail
 have hv := HN.out.1.below (Below.refl _ _).drew HN.out.1.lt
 refine bodyPost_ret (v := .tuple #[(svSyn tz e b).v, .bool true]) (results_pair Tryz.results147 _ rfl hv agg_seg) rfl ?_
 exact ⟨rfl, HN.out.2.drew⟩
theorem agg_says : Agg 200 4 := ⟨⟨_, Tryz.underlying200, rfl⟩, by kernel_rfl⟩
theorem cSays (h : Cb w c tz e b q) (hq : q = 1 ∨ q = 2 ∨ q = 3) : Calls Tryz.prog 101 #[.pointer (some ⟨c, 0, none⟩)] w fun en w' => en = .returned (.tuple #[(saysC tz e b q).v, .bool (q != 3)]) ∧ Below w.heap.size w w' := by
 have HN := Kp.mk (new_seg w sv0)
 have H1 := Kp.mk (Vb.alloc h (.cells #[.int .i64 0, .int .i64 0, .int .i64 0, .int .i64 0, .int .i64 0, .int .i64 0, .int .i64 0, .int .i64 0, .slice none 0 0] 54))
 clear h
 rcases hq with rfl | rfl | rfl
 ·go_enter Tryz.func101, Tryz.ntmps101
  go_upto_region 2 with (refine wpList_store_new (vs := [.func (.func 145) #[] #[], .func (.func 146) #[] #[], .func (.func 147) #[] #[], .func (.func 145) #[] #[]]) rfl (.tmp 4) (.tmp 5) rfl rfl rfl rfl (by simp) rfl agg_says rfl ?_; intro w2 hv hb hz)
  have hC2 : Cb w2 c tz e b 1 := Vb.below H1.out hb (Vb.lt H1.out)
  have HR2 := Kp.mk (And.intro (Vb.below HN.out.1 hb (Vb.lt HN.out.1)) (HN.out.2.trans (hb.mono HN.out.2.size)))
  have hS := cState hC2
  have hX := cSaysHello hC2
  have k1 := hv.cell 1 rfl
  clear hv hb hz hC2
  go_wp2_with fail
  refine hS.mono ?_
  rintro e1 w3 ⟨rfl, hw3⟩
  replace hw3 := hw3.symm
  subst hw3
  clear hS
  go_wp2_with fail
  refine hX.mono ?_
  rintro e1 w3 ⟨rfl, hb3⟩
  have hV := HR2.out.1.below hb3 HR2.out.1.lt
  have HB3 := Kp.mk (HR2.out.2.trans (hb3.mono HR2.out.2.size))
  have HZ := Kp.mk (show w.heap.size ≤ w3.heap.size from HB3.out.size)
  clear k1 hX hb3 HR2 HN H1
  go_wp2_with (refine wpList_store_vb (vs := (svHello tz).cells) rfl (.tmp 2) (.tmp 12) rfl rfl rfl hV rfl agg_seg rfl ?_; intro w4 hv4 hg4 hz4; clear hV)
  refine bodyPost_ret (v := .tuple #[(svHello tz).v, .bool true]) (results_pair Tryz.results101 _ rfl hv4 agg_seg) rfl ?_
  exact ⟨rfl, below_grown HB3.out hg4 HZ.out (Nat.le_refl _)⟩
 ·go_enter Tryz.func101, Tryz.ntmps101
  go_upto_region 2 with (refine wpList_store_new (vs := [.func (.func 145) #[] #[], .func (.func 146) #[] #[], .func (.func 147) #[] #[], .func (.func 145) #[] #[]]) rfl (.tmp 4) (.tmp 5) rfl rfl rfl rfl (by simp) rfl agg_says rfl ?_; intro w2 hv hb hz)
  have hC2 : Cb w2 c tz e b 2 := Vb.below H1.out hb (Vb.lt H1.out)
  have HR2 := Kp.mk (And.intro (Vb.below HN.out.1 hb (Vb.lt HN.out.1)) (HN.out.2.trans (hb.mono HN.out.2.size)))
  have hS := cState hC2
  have hX := cSaysSyn hC2
  have k1 := hv.cell 2 rfl
  clear hv hb hz hC2
  go_wp2_with fail
  refine hS.mono ?_
  rintro e1 w3 ⟨rfl, hw3⟩
  replace hw3 := hw3.symm
  subst hw3
  clear hS
  go_wp2_with fail
  refine hX.mono ?_
  rintro e1 w3 ⟨rfl, hb3⟩
  have hV := HR2.out.1.below hb3 HR2.out.1.lt
  have HB3 := Kp.mk (HR2.out.2.trans (hb3.mono HR2.out.2.size))
  have HZ := Kp.mk (show w.heap.size ≤ w3.heap.size from HB3.out.size)
  clear k1 hX hb3 HR2 HN H1
  go_wp2_with (refine wpList_store_vb (vs := (svSyn tz e b).cells) rfl (.tmp 2) (.tmp 12) rfl rfl rfl hV rfl agg_seg rfl ?_; intro w4 hv4 hg4 hz4; clear hV)
  refine bodyPost_ret (v := .tuple #[(svSyn tz e b).v, .bool true]) (results_pair Tryz.results101 _ rfl hv4 agg_seg) rfl ?_
  exact ⟨rfl, below_grown HB3.out hg4 HZ.out (Nat.le_refl _)⟩
 ·go_enter Tryz.func101, Tryz.ntmps101
  go_upto_region 2 with (refine wpList_store_new (vs := [.func (.func 145) #[] #[], .func (.func 146) #[] #[], .func (.func 147) #[] #[], .func (.func 145) #[] #[]]) rfl (.tmp 4) (.tmp 5) rfl rfl rfl rfl (by simp) rfl agg_says rfl ?_; intro w2 hv hb hz)
  have hC2 : Cb w2 c tz e b 3 := Vb.below H1.out hb (Vb.lt H1.out)
  have HR2 := Kp.mk (And.intro (Vb.below HN.out.1 hb (Vb.lt HN.out.1)) (HN.out.2.trans (hb.mono HN.out.2.size)))
  have hS := cState hC2
  have hX := cSaysNothing w2 (some ⟨c, 0, none⟩)
  have k1 := hv.cell 3 rfl
  clear hv hb hz hC2
  go_wp2_with fail
  refine hS.mono ?_
  rintro e1 w3 ⟨rfl, hw3⟩
  replace hw3 := hw3.symm
  subst hw3
  clear hS
  go_wp2_with fail
  refine hX.mono ?_
  rintro e1 w3 ⟨rfl, hb3⟩
  have hV := HR2.out.1.below hb3 HR2.out.1.lt
  have HB3 := Kp.mk (HR2.out.2.trans (hb3.mono HR2.out.2.size))
  have HZ := Kp.mk (show w.heap.size ≤ w3.heap.size from HB3.out.size)
  clear k1 hX hb3 HR2 HN H1
  go_wp2_with (refine wpList_store_vb (vs := (sv0).cells) rfl (.tmp 2) (.tmp 12) rfl rfl rfl hV rfl agg_seg rfl ?_; intro w4 hv4 hg4 hz4; clear hV)
  refine bodyPost_ret (v := .tuple #[(sv0).v, .bool false]) (results_pair Tryz.results101 _ rfl hv4 agg_seg) rfl ?_
  exact ⟨rfl, below_grown HB3.out hg4 HZ.out (Nat.le_refl _)⟩
end
structure H2 (W : World) (g : Nat) (k t f h p o s a : Int) (A : Option Addr) (n c : Nat) (T : TypeId) (r : Nat) (cs : List Value) (X : World) : Prop where
 b : Vb 54 X g [.int .i64 k, .int .i64 t, .int .i64 f, .int .i64 h, .int .i64 p, .int .i64 o, .int .i64 s, .int .i64 a, .slice A n c]
 r : Vb T X r cs
 old : Below W.heap.size W X
section
variable {W X Y : World} {g r n c : Nat} {k t f h p o s a : Int} {A : Option Addr} {T : TypeId} {cs : List Value}
theorem H2.step (hq : H2 W g k t f h p o s a A n c T r cs X) (hb : Below X.heap.size X Y) : H2 W g k t f h p o s a A n c T r cs Y := ⟨hq.b.below hb hq.b.lt, hq.r.below hb hq.r.lt, hq.old.trans (hb.mono hq.old.size)⟩
theorem H2.nine (hq : H2 W g k t f h p o s a A n c T r cs X) : X.cell? ⟨g, 0, none⟩ = some (.int .i64 k) ∧ X.cell? ⟨g, 1, none⟩ = some (.int .i64 t) ∧ X.cell? ⟨g, 2, none⟩ = some (.int .i64 f) ∧ X.cell? ⟨g, 3, none⟩ = some (.int .i64 h) ∧
  X.cell? ⟨g, 4, none⟩ = some (.int .i64 p) ∧ X.cell? ⟨g, 5, none⟩ = some (.int .i64 o) ∧ X.cell? ⟨g, 6, none⟩ = some (.int .i64 s) ∧ X.cell? ⟨g, 7, none⟩ = some (.int .i64 a) ∧ X.cell? ⟨g, 8, none⟩ = some (.slice A n c) :=
 ⟨hq.b.cell 0 rfl, hq.b.cell 1 rfl, hq.b.cell 2 rfl, hq.b.cell 3 rfl, hq.b.cell 4 rfl, hq.b.cell 5 rfl, hq.b.cell 6 rfl, hq.b.cell 7 rfl, hq.b.cell 8 rfl⟩
theorem H2.new {w : World} (hr : Vb T w r cs) (o' : Obj) (ho : o' = .cells #[.int .i64 k, .int .i64 t, .int .i64 f, .int .i64 h, .int .i64 p, .int .i64 o, .int .i64 s, .int .i64 a, .slice A n c] 54) : H2 w w.heap.size k t f h p o s a A n c T r cs (w.alloc o') := by
 subst ho
 exact ⟨Vb.new _ w _, hr.alloc _, below_alloc w _⟩
end
section
variable {w w' : World} {c : Nat} {tz e b q : Int}
theorem cHi_no (h0 : Cb w c tz e b q) (x : Sv) (hn : (x.is 2 && (x.f == tz)) = false) : Calls Tryz.prog 167 #[.pointer (some ⟨c, 0, none⟩), x.v] w fun en w' => en = .returned (.bool false) ∧ Below w.heap.size w w' := by
 obtain ⟨k, t, f, h, p, o, s, a, A, n, c'⟩ := x
 have hS := H2.new (k := k) (t := t) (f := f) (h := h) (p := p) (o := o) (s := s) (a := a) (A := A) (n := n) (c := c') h0 _ rfl
 clear h0
 simp only [Sv.v] at hn ⊢
 go_enter Tryz.func167, Tryz.ntmps167
 go_upto_region 1 with fail
 have hS0 := hS.step (Below.refl _ _).drew
 clear hS
 cases hg : Sv.is ⟨k, t, f, h, p, o, s, a, A, n, c'⟩ 2 with
 | false =>
  refine wp_region_held_drew (S := H2 w w.heap.size k t f h p o s a A n c' 149 c [.int .i64 tz, .int .i64 e, .int .i64 b, .int .i64 q]) (by kernel_rfl) hS0 (fun _ => ?_)
  refine tD 0 (.agg #[.int .i64 k, .int .i64 t, .int .i64 f, .int .i64 h, .int .i64 p, .int .i64 o, .int .i64 s, .int .i64 a, .slice A n c']) 5 rfl rfl hS0 ?_ ?_
  ·rintro w' hq
   obtain ⟨d0, d1, d2, d3, d4, d5, d6, d7, d8⟩ := hq.nine
   go_simp
  try simp only [Act.put, zA, zB, zC]
  refine rD 1 rfl fun K hK => ?_
  try rw [if_pos (by rfl)]
  go_simp
  refine (isOne_any ⟨k, t, f, h, p, o, s, a, A, n, c'⟩ 2 _).mono ?_
  rintro e u1 ⟨rfl, hb1⟩
  rw [hg]
  have hS1 := H2.step hS0 hb1
  refine hK.out _ _ hS1 (fun _ => ?_)
  clear hK K
  try simp only [Act.put, zA, zB, zC]
  refine tD 2 (.bool true) 7 rfl rfl hS1 ?_ ?_
  ·rintro w' hq
   go_simp
  try simp only [Act.put, zA, zB, zC]
  refine tD 3 (.bool true) 8 rfl rfl hS1 ?_ ?_
  ·rintro w' hq
   go_simp
  try simp only [Act.put, zA, zB, zC]
  refine tU 4 9 rfl rfl hS1 ?_
  try simp only [Act.put, zA, zB, zC]
  refine tU 5 10 rfl rfl hS1 ?_
  try simp only [Act.put, zA, zB, zC]
  refine tU 6 11 rfl rfl hS1 ?_
  try simp only [Act.put, zA, zB, zC]
  refine tU 7 12 rfl rfl hS1 ?_
  try simp only [Act.put, zA, zB, zC]
  refine tU 8 13 rfl rfl hS1 ?_
  try simp only [Act.put, zA, zB, zC]
  refine tU 9 14 rfl rfl hS1 ?_
  try simp only [Act.put, zA, zB, zC]
  refine tU 10 15 rfl rfl hS1 ?_
  try simp only [Act.put, zA, zB, zC]
  refine tD 11 (.bool true) 16 rfl rfl hS1 ?_ ?_
  ·rintro w' hq
   go_simp
  try simp only [Act.put, zA, zB, zC]
  refine wpAnyH_done (by kernel_rfl) ?_ _
  go_wp2_with fail
  go_ret
  exact ⟨rfl, hS1.old⟩
 | true =>
  have hf : (f == tz) = false := by rw [hg] at hn; simpa using hn
  refine wp_region_held_drew (S := H2 w w.heap.size k t f h p o s a A n c' 149 c [.int .i64 tz, .int .i64 e, .int .i64 b, .int .i64 q]) (by kernel_rfl) hS0 (fun _ => ?_)
  refine tD 0 (.agg #[.int .i64 k, .int .i64 t, .int .i64 f, .int .i64 h, .int .i64 p, .int .i64 o, .int .i64 s, .int .i64 a, .slice A n c']) 5 rfl rfl hS0 ?_ ?_
  ·rintro w' hq
   obtain ⟨d0, d1, d2, d3, d4, d5, d6, d7, d8⟩ := hq.nine
   go_simp
  try simp only [Act.put, zA, zB, zC]
  refine rD 1 rfl fun K hK => ?_
  try rw [if_pos (by rfl)]
  go_simp
  refine (isOne_any ⟨k, t, f, h, p, o, s, a, A, n, c'⟩ 2 _).mono ?_
  rintro e u1 ⟨rfl, hb1⟩
  rw [hg]
  have hS1 := H2.step hS0 hb1
  refine hK.out _ _ hS1 (fun _ => ?_)
  clear hK K
  try simp only [Act.put, zA, zB, zC]
  refine tD 2 (.bool false) 7 rfl rfl hS1 ?_ ?_
  ·rintro w' hq
   go_simp
  try simp only [Act.put, zA, zB, zC]
  refine tD 3 (.bool false) 8 rfl rfl hS1 ?_ ?_
  ·rintro w' hq
   go_simp
  try simp only [Act.put, zA, zB, zC]
  refine tD 4 (.pointer (some ⟨w.heap.size, 2, none⟩)) 9 rfl rfl hS1 ?_ ?_
  ·rintro w' hq
   go_simp
  try simp only [Act.put, zA, zB, zC]
  refine tD 5 (.int .i64 f) 10 rfl rfl hS1 ?_ ?_
  ·rintro w' hq
   obtain ⟨d0, d1, d2, d3, d4, d5, d6, d7, d8⟩ := hq.nine
   go_simp
  try simp only [Act.put, zA, zB, zC]
  refine tD 6 (.pointer (some ⟨c, 0, none⟩)) 11 rfl rfl hS1 ?_ ?_
  ·rintro w' hq
   go_simp
  try simp only [Act.put, zA, zB, zC]
  refine tD 7 (.pointer (some ⟨c, 0, none⟩)) 12 rfl rfl hS1 ?_ ?_
  ·rintro w' hq
   go_simp
  try simp only [Act.put, zA, zB, zC]
  refine tD 8 (.pointer (some ⟨c, 0, none⟩)) 13 rfl rfl hS1 ?_ ?_
  ·rintro w' hq
   go_simp
  try simp only [Act.put, zA, zB, zC]
  refine tD 9 (.int .i64 tz) 14 rfl rfl hS1 ?_ ?_
  ·rintro w' hq
   have c0 := hq.r.cell 0 rfl
   go_simp
  try simp only [Act.put, zA, zB, zC]
  refine tD 10 (.bool true) 15 rfl rfl hS1 ?_ ?_
  ·rintro w' hq
   go_simp
   simpa using hf
  try simp only [Act.put, zA, zB, zC]
  refine tD 11 (.bool true) 16 rfl rfl hS1 ?_ ?_
  ·rintro w' hq
   go_simp
  try simp only [Act.put, zA, zB, zC]
  refine wpAnyH_done (by kernel_rfl) ?_ _
  go_wp2_with fail
  go_ret
  exact ⟨rfl, hS1.old⟩
theorem cHi_yes (h0 : Cb w c tz e b q) (x : Sv) (hg : x.is 2 = true) (hf : (x.f == tz) = true) : Calls Tryz.prog 167 #[.pointer (some ⟨c, 0, none⟩), x.v] w fun en w' => en = .returned (.bool true) ∧ Cb w' c tz e x.o 2 ∧ w.grownBy w' (some c) := by
 obtain ⟨k, t, f, h, p, o, s, a, A, n, c'⟩ := x
 have hS := H2.new (k := k) (t := t) (f := f) (h := h) (p := p) (o := o) (s := s) (a := a) (A := A) (n := n) (c := c') h0 _ rfl
 clear h0
 simp only [Sv.v] at hg hf ⊢
 go_enter Tryz.func167, Tryz.ntmps167
 go_upto_region 1 with fail
 have hS0 := hS.step (Below.refl _ _).drew
 clear hS
 refine wp_region_held_drew (S := H2 w w.heap.size k t f h p o s a A n c' 149 c [.int .i64 tz, .int .i64 e, .int .i64 b, .int .i64 q]) (by kernel_rfl) hS0 (fun _ => ?_)
 refine tD 0 (.agg #[.int .i64 k, .int .i64 t, .int .i64 f, .int .i64 h, .int .i64 p, .int .i64 o, .int .i64 s, .int .i64 a, .slice A n c']) 5 rfl rfl hS0 ?_ ?_
 ·rintro w' hq
  obtain ⟨d0, d1, d2, d3, d4, d5, d6, d7, d8⟩ := hq.nine
  go_simp
 try simp only [Act.put, zA, zB, zC]
 refine rD 1 rfl fun K hK => ?_
 try rw [if_pos (by rfl)]
 go_simp
 refine (isOne_any ⟨k, t, f, h, p, o, s, a, A, n, c'⟩ 2 _).mono ?_
 rintro e u1 ⟨rfl, hb1⟩
 rw [hg]
 have hS1 := H2.step hS0 hb1
 refine hK.out _ _ hS1 (fun _ => ?_)
 clear hK K
 try simp only [Act.put, zA, zB, zC]
 refine tD 2 (.bool false) 7 rfl rfl hS1 ?_ ?_
 ·rintro w' hq
  go_simp
 try simp only [Act.put, zA, zB, zC]
 refine tD 3 (.bool false) 8 rfl rfl hS1 ?_ ?_
 ·rintro w' hq
  go_simp
 try simp only [Act.put, zA, zB, zC]
 refine tD 4 (.pointer (some ⟨w.heap.size, 2, none⟩)) 9 rfl rfl hS1 ?_ ?_
 ·rintro w' hq
  go_simp
 try simp only [Act.put, zA, zB, zC]
 refine tD 5 (.int .i64 f) 10 rfl rfl hS1 ?_ ?_
 ·rintro w' hq
  obtain ⟨d0, d1, d2, d3, d4, d5, d6, d7, d8⟩ := hq.nine
  go_simp
 try simp only [Act.put, zA, zB, zC]
 refine tD 6 (.pointer (some ⟨c, 0, none⟩)) 11 rfl rfl hS1 ?_ ?_
 ·rintro w' hq
  go_simp
 try simp only [Act.put, zA, zB, zC]
 refine tD 7 (.pointer (some ⟨c, 0, none⟩)) 12 rfl rfl hS1 ?_ ?_
 ·rintro w' hq
  go_simp
 try simp only [Act.put, zA, zB, zC]
 refine tD 8 (.pointer (some ⟨c, 0, none⟩)) 13 rfl rfl hS1 ?_ ?_
 ·rintro w' hq
  go_simp
 try simp only [Act.put, zA, zB, zC]
 refine tD 9 (.int .i64 tz) 14 rfl rfl hS1 ?_ ?_
 ·rintro w' hq
  have c0 := hq.r.cell 0 rfl
  go_simp
 try simp only [Act.put, zA, zB, zC]
 refine tD 10 (.bool false) 15 rfl rfl hS1 ?_ ?_
 ·rintro w' hq
  go_simp
  simpa using hf
 try simp only [Act.put, zA, zB, zC]
 refine tD 11 (.bool false) 16 rfl rfl hS1 ?_ ?_
 ·rintro w' hq
  go_simp
 try simp only [Act.put, zA, zB, zC]
 refine wpAnyH_done (by kernel_rfl) ?_ _
 obtain ⟨d0, d1, d2, d3, d4, d5, d6, d7, d8⟩ := hS1.nine
 have hg0 := grown_of_below hS1.old (some c)
 have k1 := Vb.set hS1.r 2 (.int .i64 o)
 have k2 := Kp.mk (Vb.set k1 3 (.int .i64 2))
 have HG := Kp.mk ((hg0.trans (grownBy_set u1 c 2 (.int .i64 o))).trans (grownBy_set _ c 3 (.int .i64 2)))
 have e0 := hS1.r.cell 2 rfl
 have e1 := hS1.r.free 2
 have e2 := k1.cell 3 rfl
 have e3 := k1.free 3
 clear hS1 hS0 hb1 k1 hg0
 go_wp2_with fail
 go_ret
 exact ⟨rfl, k2.out, HG.out⟩
theorem cAck_no (h0 : Cb w c tz e b q) (x : Sv) (hn : (x.is 4 && ((x.f == tz) && (x.p == e))) = false) : Calls Tryz.prog 168 #[.pointer (some ⟨c, 0, none⟩), x.v] w fun en w' => en = .returned (.bool false) ∧ Below w.heap.size w w' := by
 obtain ⟨k, t, f, h, p, o, s, a, A, n, c'⟩ := x
 have hS := H2.new (k := k) (t := t) (f := f) (h := h) (p := p) (o := o) (s := s) (a := a) (A := A) (n := n) (c := c') h0 _ rfl
 clear h0
 simp only [Sv.v] at hn ⊢
 go_enter Tryz.func168, Tryz.ntmps168
 go_upto_region 1 with fail
 have hS0 := hS.step (Below.refl _ _).drew
 clear hS
 cases hg : Sv.is ⟨k, t, f, h, p, o, s, a, A, n, c'⟩ 4 with
 | false =>
  refine wp_region_held_drew (S := H2 w w.heap.size k t f h p o s a A n c' 149 c [.int .i64 tz, .int .i64 e, .int .i64 b, .int .i64 q]) (by kernel_rfl) hS0 (fun _ => ?_)
  refine tD 0 (.agg #[.int .i64 k, .int .i64 t, .int .i64 f, .int .i64 h, .int .i64 p, .int .i64 o, .int .i64 s, .int .i64 a, .slice A n c']) 5 rfl rfl hS0 ?_ ?_
  ·rintro w' hq
   obtain ⟨d0, d1, d2, d3, d4, d5, d6, d7, d8⟩ := hq.nine
   go_simp
  try simp only [Act.put, zA, zB, zC]
  refine rD 1 rfl fun K hK => ?_
  try rw [if_pos (by rfl)]
  go_simp
  refine (isOne_any ⟨k, t, f, h, p, o, s, a, A, n, c'⟩ 4 _).mono ?_
  rintro e u1 ⟨rfl, hb1⟩
  rw [hg]
  have hS1 := H2.step hS0 hb1
  refine hK.out _ _ hS1 (fun _ => ?_)
  clear hK K
  try simp only [Act.put, zA, zB, zC]
  refine tD 2 (.bool true) 7 rfl rfl hS1 ?_ ?_
  ·rintro w' hq
   go_simp
  try simp only [Act.put, zA, zB, zC]
  refine tD 3 (.bool true) 8 rfl rfl hS1 ?_ ?_
  ·rintro w' hq
   go_simp
  try simp only [Act.put, zA, zB, zC]
  refine tU 4 9 rfl rfl hS1 ?_
  try simp only [Act.put, zA, zB, zC]
  refine tU 5 10 rfl rfl hS1 ?_
  try simp only [Act.put, zA, zB, zC]
  refine tU 6 11 rfl rfl hS1 ?_
  try simp only [Act.put, zA, zB, zC]
  refine tU 7 12 rfl rfl hS1 ?_
  try simp only [Act.put, zA, zB, zC]
  refine tU 8 13 rfl rfl hS1 ?_
  try simp only [Act.put, zA, zB, zC]
  refine tU 9 14 rfl rfl hS1 ?_
  try simp only [Act.put, zA, zB, zC]
  refine tU 10 15 rfl rfl hS1 ?_
  try simp only [Act.put, zA, zB, zC]
  refine tD 11 (.bool true) 16 rfl rfl hS1 ?_ ?_
  ·rintro w' hq
   go_simp
  try simp only [Act.put, zA, zB, zC]
  refine tD 12 (.bool true) 17 rfl rfl hS1 ?_ ?_
  ·rintro w' hq
   go_simp
  try simp only [Act.put, zA, zB, zC]
  refine tU 13 18 rfl rfl hS1 ?_
  try simp only [Act.put, zA, zB, zC]
  refine tU 14 19 rfl rfl hS1 ?_
  try simp only [Act.put, zA, zB, zC]
  refine tU 15 20 rfl rfl hS1 ?_
  try simp only [Act.put, zA, zB, zC]
  refine tU 16 21 rfl rfl hS1 ?_
  try simp only [Act.put, zA, zB, zC]
  refine tU 17 22 rfl rfl hS1 ?_
  try simp only [Act.put, zA, zB, zC]
  refine tU 18 23 rfl rfl hS1 ?_
  try simp only [Act.put, zA, zB, zC]
  refine tU 19 24 rfl rfl hS1 ?_
  try simp only [Act.put, zA, zB, zC]
  refine tD 20 (.bool true) 25 rfl rfl hS1 ?_ ?_
  ·rintro w' hq
   go_simp
  try simp only [Act.put, zA, zB, zC]
  refine wpAnyH_done (by kernel_rfl) ?_ _
  go_wp2_with fail
  go_ret
  exact ⟨rfl, hS1.old⟩
 | true =>
  cases hf : (f == tz) with
  | false =>
   refine wp_region_held_drew (S := H2 w w.heap.size k t f h p o s a A n c' 149 c [.int .i64 tz, .int .i64 e, .int .i64 b, .int .i64 q]) (by kernel_rfl) hS0 (fun _ => ?_)
   refine tD 0 (.agg #[.int .i64 k, .int .i64 t, .int .i64 f, .int .i64 h, .int .i64 p, .int .i64 o, .int .i64 s, .int .i64 a, .slice A n c']) 5 rfl rfl hS0 ?_ ?_
   ·rintro w' hq
    obtain ⟨d0, d1, d2, d3, d4, d5, d6, d7, d8⟩ := hq.nine
    go_simp
   try simp only [Act.put, zA, zB, zC]
   refine rD 1 rfl fun K hK => ?_
   try rw [if_pos (by rfl)]
   go_simp
   refine (isOne_any ⟨k, t, f, h, p, o, s, a, A, n, c'⟩ 4 _).mono ?_
   rintro e u1 ⟨rfl, hb1⟩
   rw [hg]
   have hS1 := H2.step hS0 hb1
   refine hK.out _ _ hS1 (fun _ => ?_)
   clear hK K
   try simp only [Act.put, zA, zB, zC]
   refine tD 2 (.bool false) 7 rfl rfl hS1 ?_ ?_
   ·rintro w' hq
    go_simp
   try simp only [Act.put, zA, zB, zC]
   refine tD 3 (.bool false) 8 rfl rfl hS1 ?_ ?_
   ·rintro w' hq
    go_simp
   try simp only [Act.put, zA, zB, zC]
   refine tD 4 (.pointer (some ⟨w.heap.size, 2, none⟩)) 9 rfl rfl hS1 ?_ ?_
   ·rintro w' hq
    go_simp
   try simp only [Act.put, zA, zB, zC]
   refine tD 5 (.int .i64 f) 10 rfl rfl hS1 ?_ ?_
   ·rintro w' hq
    obtain ⟨d0, d1, d2, d3, d4, d5, d6, d7, d8⟩ := hq.nine
    go_simp
   try simp only [Act.put, zA, zB, zC]
   refine tD 6 (.pointer (some ⟨c, 0, none⟩)) 11 rfl rfl hS1 ?_ ?_
   ·rintro w' hq
    go_simp
   try simp only [Act.put, zA, zB, zC]
   refine tD 7 (.pointer (some ⟨c, 0, none⟩)) 12 rfl rfl hS1 ?_ ?_
   ·rintro w' hq
    go_simp
   try simp only [Act.put, zA, zB, zC]
   refine tD 8 (.pointer (some ⟨c, 0, none⟩)) 13 rfl rfl hS1 ?_ ?_
   ·rintro w' hq
    go_simp
   try simp only [Act.put, zA, zB, zC]
   refine tD 9 (.int .i64 tz) 14 rfl rfl hS1 ?_ ?_
   ·rintro w' hq
    have c0 := hq.r.cell 0 rfl
    go_simp
   try simp only [Act.put, zA, zB, zC]
   refine tD 10 (.bool true) 15 rfl rfl hS1 ?_ ?_
   ·rintro w' hq
    go_simp
    simpa using hf
   try simp only [Act.put, zA, zB, zC]
   refine tD 11 (.bool true) 16 rfl rfl hS1 ?_ ?_
   ·rintro w' hq
    go_simp
   try simp only [Act.put, zA, zB, zC]
   refine tD 12 (.bool true) 17 rfl rfl hS1 ?_ ?_
   ·rintro w' hq
    go_simp
   try simp only [Act.put, zA, zB, zC]
   refine tU 13 18 rfl rfl hS1 ?_
   try simp only [Act.put, zA, zB, zC]
   refine tU 14 19 rfl rfl hS1 ?_
   try simp only [Act.put, zA, zB, zC]
   refine tU 15 20 rfl rfl hS1 ?_
   try simp only [Act.put, zA, zB, zC]
   refine tU 16 21 rfl rfl hS1 ?_
   try simp only [Act.put, zA, zB, zC]
   refine tU 17 22 rfl rfl hS1 ?_
   try simp only [Act.put, zA, zB, zC]
   refine tU 18 23 rfl rfl hS1 ?_
   try simp only [Act.put, zA, zB, zC]
   refine tU 19 24 rfl rfl hS1 ?_
   try simp only [Act.put, zA, zB, zC]
   refine tD 20 (.bool true) 25 rfl rfl hS1 ?_ ?_
   ·rintro w' hq
    go_simp
   try simp only [Act.put, zA, zB, zC]
   refine wpAnyH_done (by kernel_rfl) ?_ _
   go_wp2_with fail
   go_ret
   exact ⟨rfl, hS1.old⟩
  | true =>
   have hp : (p == e) = false := by rw [hg, hf] at hn; simpa using hn
   refine wp_region_held_drew (S := H2 w w.heap.size k t f h p o s a A n c' 149 c [.int .i64 tz, .int .i64 e, .int .i64 b, .int .i64 q]) (by kernel_rfl) hS0 (fun _ => ?_)
   refine tD 0 (.agg #[.int .i64 k, .int .i64 t, .int .i64 f, .int .i64 h, .int .i64 p, .int .i64 o, .int .i64 s, .int .i64 a, .slice A n c']) 5 rfl rfl hS0 ?_ ?_
   ·rintro w' hq
    obtain ⟨d0, d1, d2, d3, d4, d5, d6, d7, d8⟩ := hq.nine
    go_simp
   try simp only [Act.put, zA, zB, zC]
   refine rD 1 rfl fun K hK => ?_
   try rw [if_pos (by rfl)]
   go_simp
   refine (isOne_any ⟨k, t, f, h, p, o, s, a, A, n, c'⟩ 4 _).mono ?_
   rintro e u1 ⟨rfl, hb1⟩
   rw [hg]
   have hS1 := H2.step hS0 hb1
   refine hK.out _ _ hS1 (fun _ => ?_)
   clear hK K
   try simp only [Act.put, zA, zB, zC]
   refine tD 2 (.bool false) 7 rfl rfl hS1 ?_ ?_
   ·rintro w' hq
    go_simp
   try simp only [Act.put, zA, zB, zC]
   refine tD 3 (.bool false) 8 rfl rfl hS1 ?_ ?_
   ·rintro w' hq
    go_simp
   try simp only [Act.put, zA, zB, zC]
   refine tD 4 (.pointer (some ⟨w.heap.size, 2, none⟩)) 9 rfl rfl hS1 ?_ ?_
   ·rintro w' hq
    go_simp
   try simp only [Act.put, zA, zB, zC]
   refine tD 5 (.int .i64 f) 10 rfl rfl hS1 ?_ ?_
   ·rintro w' hq
    obtain ⟨d0, d1, d2, d3, d4, d5, d6, d7, d8⟩ := hq.nine
    go_simp
   try simp only [Act.put, zA, zB, zC]
   refine tD 6 (.pointer (some ⟨c, 0, none⟩)) 11 rfl rfl hS1 ?_ ?_
   ·rintro w' hq
    go_simp
   try simp only [Act.put, zA, zB, zC]
   refine tD 7 (.pointer (some ⟨c, 0, none⟩)) 12 rfl rfl hS1 ?_ ?_
   ·rintro w' hq
    go_simp
   try simp only [Act.put, zA, zB, zC]
   refine tD 8 (.pointer (some ⟨c, 0, none⟩)) 13 rfl rfl hS1 ?_ ?_
   ·rintro w' hq
    go_simp
   try simp only [Act.put, zA, zB, zC]
   refine tD 9 (.int .i64 tz) 14 rfl rfl hS1 ?_ ?_
   ·rintro w' hq
    have c0 := hq.r.cell 0 rfl
    go_simp
   try simp only [Act.put, zA, zB, zC]
   refine tD 10 (.bool false) 15 rfl rfl hS1 ?_ ?_
   ·rintro w' hq
    go_simp
    simpa using hf
   try simp only [Act.put, zA, zB, zC]
   refine tD 11 (.bool false) 16 rfl rfl hS1 ?_ ?_
   ·rintro w' hq
    go_simp
   try simp only [Act.put, zA, zB, zC]
   refine tD 12 (.bool false) 17 rfl rfl hS1 ?_ ?_
   ·rintro w' hq
    go_simp
   try simp only [Act.put, zA, zB, zC]
   refine tD 13 (.pointer (some ⟨w.heap.size, 4, none⟩)) 18 rfl rfl hS1 ?_ ?_
   ·rintro w' hq
    go_simp
   try simp only [Act.put, zA, zB, zC]
   refine tD 14 (.int .i64 p) 19 rfl rfl hS1 ?_ ?_
   ·rintro w' hq
    obtain ⟨d0, d1, d2, d3, d4, d5, d6, d7, d8⟩ := hq.nine
    go_simp
   try simp only [Act.put, zA, zB, zC]
   refine tD 15 (.pointer (some ⟨c, 0, none⟩)) 20 rfl rfl hS1 ?_ ?_
   ·rintro w' hq
    go_simp
   try simp only [Act.put, zA, zB, zC]
   refine tD 16 (.pointer (some ⟨c, 0, none⟩)) 21 rfl rfl hS1 ?_ ?_
   ·rintro w' hq
    go_simp
   try simp only [Act.put, zA, zB, zC]
   refine tD 17 (.pointer (some ⟨c, 1, none⟩)) 22 rfl rfl hS1 ?_ ?_
   ·rintro w' hq
    go_simp
   try simp only [Act.put, zA, zB, zC]
   refine tD 18 (.int .i64 e) 23 rfl rfl hS1 ?_ ?_
   ·rintro w' hq
    have c0 := hq.r.cell 1 rfl
    go_simp
   try simp only [Act.put, zA, zB, zC]
   refine tD 19 (.bool true) 24 rfl rfl hS1 ?_ ?_
   ·rintro w' hq
    go_simp
    simpa using hp
   try simp only [Act.put, zA, zB, zC]
   refine tD 20 (.bool true) 25 rfl rfl hS1 ?_ ?_
   ·rintro w' hq
    go_simp
   try simp only [Act.put, zA, zB, zC]
   refine wpAnyH_done (by kernel_rfl) ?_ _
   go_wp2_with fail
   go_ret
   exact ⟨rfl, hS1.old⟩
theorem cAck_yes (h0 : Cb w c tz e b q) (x : Sv) (hg : x.is 4 = true) (hf : (x.f == tz) = true) (hp : (x.p == e) = true) : Calls Tryz.prog 168 #[.pointer (some ⟨c, 0, none⟩), x.v] w fun en w' => en = .returned (.bool true) ∧ Cb w' c tz e b 3 ∧ w.grownBy w' (some c) := by
 obtain ⟨k, t, f, h, p, o, s, a, A, n, c'⟩ := x
 have hS := H2.new (k := k) (t := t) (f := f) (h := h) (p := p) (o := o) (s := s) (a := a) (A := A) (n := n) (c := c') h0 _ rfl
 clear h0
 simp only [Sv.v] at hg hf hp ⊢
 go_enter Tryz.func168, Tryz.ntmps168
 go_upto_region 1 with fail
 have hS0 := hS.step (Below.refl _ _).drew
 clear hS
 refine wp_region_held_drew (S := H2 w w.heap.size k t f h p o s a A n c' 149 c [.int .i64 tz, .int .i64 e, .int .i64 b, .int .i64 q]) (by kernel_rfl) hS0 (fun _ => ?_)
 refine tD 0 (.agg #[.int .i64 k, .int .i64 t, .int .i64 f, .int .i64 h, .int .i64 p, .int .i64 o, .int .i64 s, .int .i64 a, .slice A n c']) 5 rfl rfl hS0 ?_ ?_
 ·rintro w' hq
  obtain ⟨d0, d1, d2, d3, d4, d5, d6, d7, d8⟩ := hq.nine
  go_simp
 try simp only [Act.put, zA, zB, zC]
 refine rD 1 rfl fun K hK => ?_
 try rw [if_pos (by rfl)]
 go_simp
 refine (isOne_any ⟨k, t, f, h, p, o, s, a, A, n, c'⟩ 4 _).mono ?_
 rintro e u1 ⟨rfl, hb1⟩
 rw [hg]
 have hS1 := H2.step hS0 hb1
 refine hK.out _ _ hS1 (fun _ => ?_)
 clear hK K
 try simp only [Act.put, zA, zB, zC]
 refine tD 2 (.bool false) 7 rfl rfl hS1 ?_ ?_
 ·rintro w' hq
  go_simp
 try simp only [Act.put, zA, zB, zC]
 refine tD 3 (.bool false) 8 rfl rfl hS1 ?_ ?_
 ·rintro w' hq
  go_simp
 try simp only [Act.put, zA, zB, zC]
 refine tD 4 (.pointer (some ⟨w.heap.size, 2, none⟩)) 9 rfl rfl hS1 ?_ ?_
 ·rintro w' hq
  go_simp
 try simp only [Act.put, zA, zB, zC]
 refine tD 5 (.int .i64 f) 10 rfl rfl hS1 ?_ ?_
 ·rintro w' hq
  obtain ⟨d0, d1, d2, d3, d4, d5, d6, d7, d8⟩ := hq.nine
  go_simp
 try simp only [Act.put, zA, zB, zC]
 refine tD 6 (.pointer (some ⟨c, 0, none⟩)) 11 rfl rfl hS1 ?_ ?_
 ·rintro w' hq
  go_simp
 try simp only [Act.put, zA, zB, zC]
 refine tD 7 (.pointer (some ⟨c, 0, none⟩)) 12 rfl rfl hS1 ?_ ?_
 ·rintro w' hq
  go_simp
 try simp only [Act.put, zA, zB, zC]
 refine tD 8 (.pointer (some ⟨c, 0, none⟩)) 13 rfl rfl hS1 ?_ ?_
 ·rintro w' hq
  go_simp
 try simp only [Act.put, zA, zB, zC]
 refine tD 9 (.int .i64 tz) 14 rfl rfl hS1 ?_ ?_
 ·rintro w' hq
  have c0 := hq.r.cell 0 rfl
  go_simp
 try simp only [Act.put, zA, zB, zC]
 refine tD 10 (.bool false) 15 rfl rfl hS1 ?_ ?_
 ·rintro w' hq
  go_simp
  simpa using hf
 try simp only [Act.put, zA, zB, zC]
 refine tD 11 (.bool false) 16 rfl rfl hS1 ?_ ?_
 ·rintro w' hq
  go_simp
 try simp only [Act.put, zA, zB, zC]
 refine tD 12 (.bool false) 17 rfl rfl hS1 ?_ ?_
 ·rintro w' hq
  go_simp
 try simp only [Act.put, zA, zB, zC]
 refine tD 13 (.pointer (some ⟨w.heap.size, 4, none⟩)) 18 rfl rfl hS1 ?_ ?_
 ·rintro w' hq
  go_simp
 try simp only [Act.put, zA, zB, zC]
 refine tD 14 (.int .i64 p) 19 rfl rfl hS1 ?_ ?_
 ·rintro w' hq
  obtain ⟨d0, d1, d2, d3, d4, d5, d6, d7, d8⟩ := hq.nine
  go_simp
 try simp only [Act.put, zA, zB, zC]
 refine tD 15 (.pointer (some ⟨c, 0, none⟩)) 20 rfl rfl hS1 ?_ ?_
 ·rintro w' hq
  go_simp
 try simp only [Act.put, zA, zB, zC]
 refine tD 16 (.pointer (some ⟨c, 0, none⟩)) 21 rfl rfl hS1 ?_ ?_
 ·rintro w' hq
  go_simp
 try simp only [Act.put, zA, zB, zC]
 refine tD 17 (.pointer (some ⟨c, 1, none⟩)) 22 rfl rfl hS1 ?_ ?_
 ·rintro w' hq
  go_simp
 try simp only [Act.put, zA, zB, zC]
 refine tD 18 (.int .i64 e) 23 rfl rfl hS1 ?_ ?_
 ·rintro w' hq
  have c0 := hq.r.cell 1 rfl
  go_simp
 try simp only [Act.put, zA, zB, zC]
 refine tD 19 (.bool false) 24 rfl rfl hS1 ?_ ?_
 ·rintro w' hq
  go_simp
  simpa using hp
 try simp only [Act.put, zA, zB, zC]
 refine tD 20 (.bool false) 25 rfl rfl hS1 ?_ ?_
 ·rintro w' hq
  go_simp
 try simp only [Act.put, zA, zB, zC]
 refine wpAnyH_done (by kernel_rfl) ?_ _
 obtain ⟨d0, d1, d2, d3, d4, d5, d6, d7, d8⟩ := hS1.nine
 have hg0 := grown_of_below hS1.old (some c)
 have k2 := Kp.mk (Vb.set hS1.r 3 (.int .i64 3))
 have HG := Kp.mk (hg0.trans (grownBy_set u1 c 3 (.int .i64 3)))
 have e0 := hS1.r.cell 3 rfl
 have e1 := hS1.r.free 3
 clear hS1 hS0 hb1 hg0
 go_wp2_with fail
 go_ret
 exact ⟨rfl, k2.out, HG.out⟩
def goC (x : Sv) (tz e q : Int) : Bool := (q == 1 && (x.is 2 && (x.f == tz))) || (q == 2 && (x.is 4 && ((x.f == tz) && (x.p == e))))
def bC (x : Sv) (tz e b q : Int) : Int := if (goC x tz e q && q == 1) = true then x.o else b
def qC (x : Sv) (tz e q : Int) : Int := if goC x tz e q = true then q + 1 else q
theorem cNothing (w : World) (P : Option Addr) (x : Sv) : Calls Tryz.prog 166 #[.pointer P, x.v] w fun en w' => en = .returned (.bool false) ∧ Below w.heap.size w w' := by
 obtain ⟨k, t, f, h, p, o, s, a, A, n, c'⟩ := x
 have HB := Kp.mk (below_alloc w (.cells #[.int .i64 k, .int .i64 t, .int .i64 f, .int .i64 h, .int .i64 p, .int .i64 o, .int .i64 s, .int .i64 a, .slice A n c'] 54))
 simp only [Sv.v]
 go_enter Tryz.func166, Tryz.ntmps166
 go_wp2_with fail
 go_ret
 exact ⟨rfl, HB.out⟩
theorem Cb.below (h : Cb w c tz e b q) (hb : Below w.heap.size w w') : Cb w' c tz e b q := Vb.below h hb (Vb.lt h)
theorem cHi_any (h : Cb w c tz e b 1) (x : Sv) : Calls Tryz.prog 167 #[.pointer (some ⟨c, 0, none⟩), x.v] w fun en w' => en = .returned (.bool (goC x tz e 1)) ∧ Cb w' c tz e (bC x tz e b 1) (qC x tz e 1) ∧ w.grownBy w' (some c) := by
 have hG : goC x tz e 1 = (x.is 2 && (x.f == tz)) := by simp [goC]
 unfold bC qC
 rw [hG]
 cases hg : (x.is 2 && (x.f == tz)) with
 | true =>
  obtain ⟨h1, h2⟩ := Bool.and_eq_true_iff.mp hg
  exact (cHi_yes h x h1 h2).mono fun _ _ ⟨h3, h4, h5⟩ => ⟨h3, by simpa using h4, h5⟩
 | false => exact (cHi_no h x hg).mono fun _ _ ⟨h3, h4⟩ => ⟨h3, by simpa using h.below h4, grown_of_below h4 _⟩
theorem cAck_any (h : Cb w c tz e b 2) (x : Sv) : Calls Tryz.prog 168 #[.pointer (some ⟨c, 0, none⟩), x.v] w fun en w' => en = .returned (.bool (goC x tz e 2)) ∧ Cb w' c tz e (bC x tz e b 2) (qC x tz e 2) ∧ w.grownBy w' (some c) := by
 have hG : goC x tz e 2 = (x.is 4 && ((x.f == tz) && (x.p == e))) := by simp [goC]
 unfold bC qC
 rw [hG]
 cases hg : (x.is 4 && ((x.f == tz) && (x.p == e))) with
 | true =>
  obtain ⟨h1, h2⟩ := Bool.and_eq_true_iff.mp hg
  obtain ⟨h2, h6⟩ := Bool.and_eq_true_iff.mp h2
  exact (cAck_yes h x h1 h2 h6).mono fun _ _ ⟨h3, h4, h5⟩ => ⟨h3, by simpa using h4, h5⟩
 | false => exact (cAck_no h x hg).mono fun _ _ ⟨h3, h4⟩ => ⟨h3, by simpa using h.below h4, grown_of_below h4 _⟩
theorem cNo_any (h : Cb w c tz e b 3) (x : Sv) : Calls Tryz.prog 166 #[.pointer (some ⟨c, 0, none⟩), x.v] w fun en w' => en = .returned (.bool (goC x tz e 3)) ∧ Cb w' c tz e (bC x tz e b 3) (qC x tz e 3) ∧ w.grownBy w' (some c) := by
 have hG : goC x tz e 3 = false := by simp [goC]
 unfold bC qC
 rw [hG]
 exact (cNothing w _ x).mono fun _ w2 ⟨h3, h4⟩ => ⟨h3, by simpa using h.below h4, grown_of_below h4 _⟩
theorem agg_takes : Agg 224 4 := ⟨⟨_, Tryz.underlying224, rfl⟩, by kernel_rfl⟩
structure P2 (g : Nat) (k t f h p o s a : Int) (A : Option Addr) (n c : Nat) (T : TypeId) (r : Nat) (cs : List Value) (X : World) : Prop where
 b : Vb 54 X g [.int .i64 k, .int .i64 t, .int .i64 f, .int .i64 h, .int .i64 p, .int .i64 o, .int .i64 s, .int .i64 a, .slice A n c]
 r : Vb T X r cs
theorem P2.step {X Y : World} {g r n c : Nat} {k t f h p o s a : Int} {A : Option Addr} {T : TypeId} {cs : List Value} (hq : P2 g k t f h p o s a A n c T r cs X) (hb : Below X.heap.size X Y) : P2 g k t f h p o s a A n c T r cs Y := ⟨hq.b.below hb hq.b.lt, hq.r.below hb hq.r.lt⟩
theorem P2.grow {X Y : World} {g r n c z : Nat} {k t f h p o s a : Int} {A : Option Addr} {T : TypeId} {cs : List Value} (hq : P2 g k t f h p o s a A n c T r cs X) (hg : X.grownBy Y (some z)) (h1 : g ≠ z) (h2 : r ≠ z) : P2 g k t f h p o s a A n c T r cs Y := ⟨hq.b.grown hg h1, hq.r.grown hg h2⟩
theorem P2.nine {X : World} {g r n c : Nat} {k t f h p o s a : Int} {A : Option Addr} {T : TypeId} {cs : List Value} (hq : P2 g k t f h p o s a A n c T r cs X) : X.cell? ⟨g, 0, none⟩ = some (.int .i64 k) ∧ X.cell? ⟨g, 1, none⟩ = some (.int .i64 t) ∧ X.cell? ⟨g, 2, none⟩ = some (.int .i64 f) ∧ X.cell? ⟨g, 3, none⟩ = some (.int .i64 h) ∧
  X.cell? ⟨g, 4, none⟩ = some (.int .i64 p) ∧ X.cell? ⟨g, 5, none⟩ = some (.int .i64 o) ∧ X.cell? ⟨g, 6, none⟩ = some (.int .i64 s) ∧ X.cell? ⟨g, 7, none⟩ = some (.int .i64 a) ∧ X.cell? ⟨g, 8, none⟩ = some (.slice A n c) :=
 ⟨hq.b.cell 0 rfl, hq.b.cell 1 rfl, hq.b.cell 2 rfl, hq.b.cell 3 rfl, hq.b.cell 4 rfl, hq.b.cell 5 rfl, hq.b.cell 6 rfl, hq.b.cell 7 rfl, hq.b.cell 8 rfl⟩
theorem cTake_any (h0 : Cb w c tz e b q) (hq : q = 1 ∨ q = 2 ∨ q = 3) (x : Sv) : Calls Tryz.prog 121 #[.pointer (some ⟨c, 0, none⟩), x.v] w fun en w' => en = .returned (.bool (goC x tz e q)) ∧ Cb w' c tz e (bC x tz e b q) (qC x tz e q) ∧ w.grownBy w' (some c) := by
 have HN := Kp.mk (new_seg w x)
 obtain ⟨k, t, f, h, p, o, s, a, A, n, c'⟩ := x
 have H1 := Kp.mk (Vb.alloc h0 (.cells #[.int .i64 k, .int .i64 t, .int .i64 f, .int .i64 h, .int .i64 p, .int .i64 o, .int .i64 s, .int .i64 a, .slice A n c'] 54))
 clear h0
 simp only [Sv.v]
 rcases hq with rfl | rfl | rfl
 ·go_enter Tryz.func121, Tryz.ntmps121
  go_upto_region 2 with (refine wpList_store_new (vs := [.func (.func 166) #[] #[], .func (.func 167) #[] #[], .func (.func 168) #[] #[], .func (.func 166) #[] #[]]) rfl (.tmp 5) (.tmp 6) rfl rfl rfl rfl (by simp) rfl agg_takes rfl ?_; intro w2 hv hb hz)
  have hC2 : Cb w2 c tz e b 1 := Vb.below H1.out hb (Vb.lt H1.out)
  have hP2 : P2 w.heap.size k t f h p o s a A n c' 224 (w.heap.size + 1) [.func (.func 166) #[] #[], .func (.func 167) #[] #[], .func (.func 168) #[] #[], .func (.func 166) #[] #[]] w2 := ⟨Vb.below HN.out.1 hb (Vb.lt HN.out.1), by simpa using hv⟩
  have HB2 := Kp.mk ((HN.out.2.trans (hb.mono HN.out.2.size)).drew)
  have hd := (Below.refl w2.heap.size w2).drew
  have hC0 := hC2.below hd
  have hS0 := hP2.step hd
  clear hv hb hz hC2 hP2 hd H1 HN
  refine wp_region_held_drew (S := P2 w.heap.size k t f h p o s a A n c' 224 (w.heap.size + 1) [.func (.func 166) #[] #[], .func (.func 167) #[] #[], .func (.func 168) #[] #[], .func (.func 166) #[] #[]]) (by kernel_rfl) hS0 (fun _ => ?_)
  refine tD 0 (.pointer (some ⟨c, 0, none⟩)) 7 rfl rfl hS0 ?_ ?_
  ·rintro w' hq
   go_simp
  try simp only [Act.put, zA, zB, zC]
  refine tD 4 (.pointer (some ⟨c, 0, none⟩)) 11 rfl rfl hS0 ?_ ?_
  ·rintro w' hq
   go_simp
  try simp only [Act.put, zA, zB, zC]
  refine tD 5 (.agg #[.int .i64 k, .int .i64 t, .int .i64 f, .int .i64 h, .int .i64 p, .int .i64 o, .int .i64 s, .int .i64 a, .slice A n c']) 12 rfl rfl hS0 ?_ ?_
  ·rintro w' hq
   obtain ⟨d0, d1, d2, d3, d4, d5, d6, d7, d8⟩ := hq.nine
   go_simp
  try simp only [Act.put, zA, zB, zC]
  refine rD 1 rfl fun K hK => ?_
  try rw [if_pos (by rfl)]
  go_simp
  refine (cState hC0).mono ?_
  rintro e u1 ⟨rfl, hw1⟩
  replace hw1 := hw1.symm
  subst hw1
  have hb1 := Below.refl w2.drew.heap.size w2.drew
  have hS1 := P2.step hS0 hb1
  refine hK.out _ _ hS1 (fun _ => ?_)
  clear hK K
  try simp only [Act.put, zA, zB, zC]
  refine tD 2 (.pointer (some ⟨w.heap.size + 1, 1, none⟩)) 9 rfl rfl hS1 ?_ ?_
  ·rintro w' hq
   go_simp
  try simp only [Act.put, zA, zB, zC]
  refine tD 3 (.func (.func 167) #[] #[]) 10 rfl rfl hS1 ?_ ?_
  ·rintro w' hq
   have c0 := hq.r.cell 1 rfl
   go_simp
  try simp only [Act.put, zA, zB, zC]
  refine rD 6 rfl fun K hK => ?_
  try rw [if_pos (by rfl)]
  go_simp
  refine (cHi_any hC0 ⟨k, t, f, h, p, o, s, a, A, n, c'⟩).mono ?_
  rintro e1 u1 ⟨rfl, hC1, hg1⟩
  have hS2 := hS1.grow hg1 (vb_ne hS1.b hC0 (by decide)) (vb_ne hS1.r hC0 (by decide))
  refine hK.out _ _ hS2 (fun _ => ?_)
  clear hK K
  try simp only [Act.put, zA, zB, zC]
  refine tD 7 ((.bool (goC ⟨k, t, f, h, p, o, s, a, A, n, c'⟩ tz e 1))) 4 rfl rfl hS2 ?_ ?_
  ·rintro w' hq
   go_simp
  try simp only [Act.put, zA, zB, zC]
  refine wpAnyH_done (by kernel_rfl) ?_ _
  go_wp2_with fail
  go_ret
  exact ⟨rfl, hC1, (grown_of_below HB2.out (some c)).trans hg1⟩
 ·go_enter Tryz.func121, Tryz.ntmps121
  go_upto_region 2 with (refine wpList_store_new (vs := [.func (.func 166) #[] #[], .func (.func 167) #[] #[], .func (.func 168) #[] #[], .func (.func 166) #[] #[]]) rfl (.tmp 5) (.tmp 6) rfl rfl rfl rfl (by simp) rfl agg_takes rfl ?_; intro w2 hv hb hz)
  have hC2 : Cb w2 c tz e b 2 := Vb.below H1.out hb (Vb.lt H1.out)
  have hP2 : P2 w.heap.size k t f h p o s a A n c' 224 (w.heap.size + 1) [.func (.func 166) #[] #[], .func (.func 167) #[] #[], .func (.func 168) #[] #[], .func (.func 166) #[] #[]] w2 := ⟨Vb.below HN.out.1 hb (Vb.lt HN.out.1), by simpa using hv⟩
  have HB2 := Kp.mk ((HN.out.2.trans (hb.mono HN.out.2.size)).drew)
  have hd := (Below.refl w2.heap.size w2).drew
  have hC0 := hC2.below hd
  have hS0 := hP2.step hd
  clear hv hb hz hC2 hP2 hd H1 HN
  refine wp_region_held_drew (S := P2 w.heap.size k t f h p o s a A n c' 224 (w.heap.size + 1) [.func (.func 166) #[] #[], .func (.func 167) #[] #[], .func (.func 168) #[] #[], .func (.func 166) #[] #[]]) (by kernel_rfl) hS0 (fun _ => ?_)
  refine tD 0 (.pointer (some ⟨c, 0, none⟩)) 7 rfl rfl hS0 ?_ ?_
  ·rintro w' hq
   go_simp
  try simp only [Act.put, zA, zB, zC]
  refine tD 4 (.pointer (some ⟨c, 0, none⟩)) 11 rfl rfl hS0 ?_ ?_
  ·rintro w' hq
   go_simp
  try simp only [Act.put, zA, zB, zC]
  refine tD 5 (.agg #[.int .i64 k, .int .i64 t, .int .i64 f, .int .i64 h, .int .i64 p, .int .i64 o, .int .i64 s, .int .i64 a, .slice A n c']) 12 rfl rfl hS0 ?_ ?_
  ·rintro w' hq
   obtain ⟨d0, d1, d2, d3, d4, d5, d6, d7, d8⟩ := hq.nine
   go_simp
  try simp only [Act.put, zA, zB, zC]
  refine rD 1 rfl fun K hK => ?_
  try rw [if_pos (by rfl)]
  go_simp
  refine (cState hC0).mono ?_
  rintro e u1 ⟨rfl, hw1⟩
  replace hw1 := hw1.symm
  subst hw1
  have hb1 := Below.refl w2.drew.heap.size w2.drew
  have hS1 := P2.step hS0 hb1
  refine hK.out _ _ hS1 (fun _ => ?_)
  clear hK K
  try simp only [Act.put, zA, zB, zC]
  refine tD 2 (.pointer (some ⟨w.heap.size + 1, 2, none⟩)) 9 rfl rfl hS1 ?_ ?_
  ·rintro w' hq
   go_simp
  try simp only [Act.put, zA, zB, zC]
  refine tD 3 (.func (.func 168) #[] #[]) 10 rfl rfl hS1 ?_ ?_
  ·rintro w' hq
   have c0 := hq.r.cell 2 rfl
   go_simp
  try simp only [Act.put, zA, zB, zC]
  refine rD 6 rfl fun K hK => ?_
  try rw [if_pos (by rfl)]
  go_simp
  refine (cAck_any hC0 ⟨k, t, f, h, p, o, s, a, A, n, c'⟩).mono ?_
  rintro e1 u1 ⟨rfl, hC1, hg1⟩
  have hS2 := hS1.grow hg1 (vb_ne hS1.b hC0 (by decide)) (vb_ne hS1.r hC0 (by decide))
  refine hK.out _ _ hS2 (fun _ => ?_)
  clear hK K
  try simp only [Act.put, zA, zB, zC]
  refine tD 7 ((.bool (goC ⟨k, t, f, h, p, o, s, a, A, n, c'⟩ tz e 2))) 4 rfl rfl hS2 ?_ ?_
  ·rintro w' hq
   go_simp
  try simp only [Act.put, zA, zB, zC]
  refine wpAnyH_done (by kernel_rfl) ?_ _
  go_wp2_with fail
  go_ret
  exact ⟨rfl, hC1, (grown_of_below HB2.out (some c)).trans hg1⟩
 ·go_enter Tryz.func121, Tryz.ntmps121
  go_upto_region 2 with (refine wpList_store_new (vs := [.func (.func 166) #[] #[], .func (.func 167) #[] #[], .func (.func 168) #[] #[], .func (.func 166) #[] #[]]) rfl (.tmp 5) (.tmp 6) rfl rfl rfl rfl (by simp) rfl agg_takes rfl ?_; intro w2 hv hb hz)
  have hC2 : Cb w2 c tz e b 3 := Vb.below H1.out hb (Vb.lt H1.out)
  have hP2 : P2 w.heap.size k t f h p o s a A n c' 224 (w.heap.size + 1) [.func (.func 166) #[] #[], .func (.func 167) #[] #[], .func (.func 168) #[] #[], .func (.func 166) #[] #[]] w2 := ⟨Vb.below HN.out.1 hb (Vb.lt HN.out.1), by simpa using hv⟩
  have HB2 := Kp.mk ((HN.out.2.trans (hb.mono HN.out.2.size)).drew)
  have hd := (Below.refl w2.heap.size w2).drew
  have hC0 := hC2.below hd
  have hS0 := hP2.step hd
  clear hv hb hz hC2 hP2 hd H1 HN
  refine wp_region_held_drew (S := P2 w.heap.size k t f h p o s a A n c' 224 (w.heap.size + 1) [.func (.func 166) #[] #[], .func (.func 167) #[] #[], .func (.func 168) #[] #[], .func (.func 166) #[] #[]]) (by kernel_rfl) hS0 (fun _ => ?_)
  refine tD 0 (.pointer (some ⟨c, 0, none⟩)) 7 rfl rfl hS0 ?_ ?_
  ·rintro w' hq
   go_simp
  try simp only [Act.put, zA, zB, zC]
  refine tD 4 (.pointer (some ⟨c, 0, none⟩)) 11 rfl rfl hS0 ?_ ?_
  ·rintro w' hq
   go_simp
  try simp only [Act.put, zA, zB, zC]
  refine tD 5 (.agg #[.int .i64 k, .int .i64 t, .int .i64 f, .int .i64 h, .int .i64 p, .int .i64 o, .int .i64 s, .int .i64 a, .slice A n c']) 12 rfl rfl hS0 ?_ ?_
  ·rintro w' hq
   obtain ⟨d0, d1, d2, d3, d4, d5, d6, d7, d8⟩ := hq.nine
   go_simp
  try simp only [Act.put, zA, zB, zC]
  refine rD 1 rfl fun K hK => ?_
  try rw [if_pos (by rfl)]
  go_simp
  refine (cState hC0).mono ?_
  rintro e u1 ⟨rfl, hw1⟩
  replace hw1 := hw1.symm
  subst hw1
  have hb1 := Below.refl w2.drew.heap.size w2.drew
  have hS1 := P2.step hS0 hb1
  refine hK.out _ _ hS1 (fun _ => ?_)
  clear hK K
  try simp only [Act.put, zA, zB, zC]
  refine tD 2 (.pointer (some ⟨w.heap.size + 1, 3, none⟩)) 9 rfl rfl hS1 ?_ ?_
  ·rintro w' hq
   go_simp
  try simp only [Act.put, zA, zB, zC]
  refine tD 3 (.func (.func 166) #[] #[]) 10 rfl rfl hS1 ?_ ?_
  ·rintro w' hq
   have c0 := hq.r.cell 3 rfl
   go_simp
  try simp only [Act.put, zA, zB, zC]
  refine rD 6 rfl fun K hK => ?_
  try rw [if_pos (by rfl)]
  go_simp
  refine (cNo_any hC0 ⟨k, t, f, h, p, o, s, a, A, n, c'⟩).mono ?_
  rintro e1 u1 ⟨rfl, hC1, hg1⟩
  have hS2 := hS1.grow hg1 (vb_ne hS1.b hC0 (by decide)) (vb_ne hS1.r hC0 (by decide))
  refine hK.out _ _ hS2 (fun _ => ?_)
  clear hK K
  try simp only [Act.put, zA, zB, zC]
  refine tD 7 ((.bool (goC ⟨k, t, f, h, p, o, s, a, A, n, c'⟩ tz e 3))) 4 rfl rfl hS2 ?_ ?_
  ·rintro w' hq
   go_simp
  try simp only [Act.put, zA, zB, zC]
  refine wpAnyH_done (by kernel_rfl) ?_ _
  go_wp2_with fail
  go_ret
  exact ⟨rfl, hC1, (grown_of_below HB2.out (some c)).trans hg1⟩
end
end Go.Proofs.YtnoflfbcgbhipaaGreat.Oct
