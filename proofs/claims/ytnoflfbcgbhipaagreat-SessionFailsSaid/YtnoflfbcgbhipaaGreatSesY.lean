import Derived.Test.YtnoflfbcgbhipaaGreatSesX
set_option linter.unusedSimpArgs false
set_option linter.unusedVariables false
set_option maxRecDepth 100000
set_option maxHeartbeats 8000000
namespace Go.Proofs.YtnoflfbcgbhipaaGreat.Oct
open Go.RowKit
def kHello : Sa := ⟨1, 2, 0, 12, 0, 0, 0, 0, []⟩
def kHi : Sa := ⟨2, 0, 2, 12, 0, 1, 0, 0, []⟩
def kSyn : Sa := ⟨3, 2, 0, 12, 7, 1, 0, 0, []⟩
def kAck0 : Sa := ⟨4, 0, 2, 12, 7, 0, 0, 0, []⟩
def tag3 : OrdV := ⟨4, 3, 0, noRule, 0, 0, 0, 0, 0⟩
def kDat : Sa := ⟨5, 2, 0, 12, 7, 0, 0, 0, (bytesO tag3).1⟩
theorem kDat_abs {A : Option Addr} {n c : Nat} : Ms.abs ⟨⟨5, 2, 0, 12, 7, 0, 0, 0, A, n, c⟩, kDat.l⟩ = kDat := by kernel_rfl
def kAck1 : Sa := ⟨4, 0, 2, 12, 7, 0, 0, 1, []⟩
def wl0 : Ls := ⟨2, none⟩
def wl1 : Ls := wl0.begin_ 7 0
def wl2 : Ls := wl1.tick 0
def wl3 : Ls := wl2.tick 4
def wl4 : Ls := wl3.take kHi.ms 5
def wl5 : Ls := wl4.tick 5
def wl6 : Ls := wl5.send tag3
def wl7 : Ls := wl6.take kAck0.ms 6
def wl8 : Ls := wl7.tick 6
def wp0 : Ps := ⟨2, 1, none⟩
def wp1 : Ps := wp0.take kHello.ms 4
def wp2 : Ps := wp1.take kSyn.ms 5
def wp3 : Ps := wp2.take kDat.ms 6
def wp4 : Ps := wp3.tick 7
section
set_option maxRecDepth 100000
theorem wf1 : wl0.begE 7 0 = 0 := by kernel_rfl
theorem wf2 : wl1.says 0 = [] := by kernel_rfl
theorem wf3 : wl2.says 4 = [kHello] := by kernel_rfl
theorem wf4 : tells (wp0.gets kHello.ms 4) = [] ∧ wp0.answers kHello.ms 4 = some ⟨2, 0, 2, 12, 0, 1, 0, 0, none, 0, 0⟩ ∧ wp0.begins kHello.ms 4 = false := ⟨by kernel_rfl, by kernel_rfl, by kernel_rfl⟩
theorem wf5 : tells (wl3.gets kHi.ms 5) = [] := by kernel_rfl
theorem wf6 : wl4.says 5 = [kSyn] := by kernel_rfl
theorem wf7 : tells (wp1.gets kSyn.ms 5) = [] ∧ wp1.answers kSyn.ms 5 = some ⟨4, 0, 2, 12, 7, 0, 0, 0, none, 0, 0⟩ ∧ wp1.begins kSyn.ms 5 = true := ⟨by kernel_rfl, by kernel_rfl, by kernel_rfl⟩
theorem wf8 : wl5.sendE tag3 = 0 := by kernel_rfl
theorem wf9 : tells (wl6.gets kAck0.ms 6) = [] := by kernel_rfl
theorem wf10 : wl7.opn = true := by kernel_rfl
theorem wf11 : wl7.says 6 = [kDat] := by kernel_rfl
theorem wf12 : tells (wp2.gets kDat.ms 6) = [tag3] ∧ wp2.answers kDat.ms 6 = none := ⟨by kernel_rfl, by kernel_rfl⟩
theorem wf13 : wp3.says 7 = [kAck1] := by kernel_rfl
theorem wf14 : ∀ y, wp3.s = some y → y.tr < 10000000 := fun y h => by
 have h2 : wp3.s.map Bo.tr = some 0 := by kernel_rfl
 rw [h] at h2
 have : y.tr = 0 := by simpa using h2
 omega
end
section
variable {W w w' w0 w1 w2 : World} {lb lc pb gq : Nat} {lq pq : Bk} {l : Ls} {p : Ps}
theorem LP.new {l : Ls} {p : Ps} (h1 : LnS w1 w.heap.size (bk0 w.heap.size) w.heap.size l) (b1 : Below w.heap.size w w1) (h2 : PnS w2 pb (bk0 pb) gq p) (e1 : w1.heap.size ≤ pb) (e2 : w1.heap.size ≤ gq) (b2 : Below w1.heap.size w1 w2) : LP w w2 w.heap.size (bk0 w.heap.size) w.heap.size pb (bk0 pb) gq l p := by
 have e : ∀ k, lown w.heap.size w.heap.size (bk0 w.heap.size) k → k = w.heap.size := fun k e => e.elim id (fun e => e.elim id bk0_own.1)
 have f : ∀ k, lown pb gq (bk0 pb) k → w1.heap.size ≤ k := fun k e => e.elim (fun e => e ▸ e1) (fun e => e.elim (fun e => e ▸ e2) (fun e => (bk0_own.1 e) ▸ e1))
 refine ⟨h1.below b2, h2, fun k ek fk => ?_, fun k ek => ?_, fun k fk => ?_, b1.trans (b2.mono b1.size)⟩
 ·have := h1.lt k ek
  have := f k fk
  omega
 ·rw [e k ek]; exact Nat.le_refl _
 ·exact Nat.le_trans b1.size (f k fk)
theorem LP.tickS (h : LP W w lb lq lc pb pq gq l p) (now : Int) {S : List Sa} {l' : Ls} (e1 : l.says now = S) (e2 : l.tick now = l') : Calls Tryz.prog 34 #[.pointer (some ⟨lb, 0, none⟩), .int .i64 now] w fun en w' => ∃ A' n' c' L, en = .returned (.slice A' n' c') ∧ Said w' w.heap.size (.slice A' n' c') n' L ∧ L.map Ms.abs = S ∧ LP W w' lb lq lc pb pq gq l' p ∧ Kps w w' := by
 subst e1 e2
 exact (h.tick now).mono fun en w' ⟨A', n', c', L, h1, h2, h3, h4, h5, h6⟩ => ⟨A', n', c', L, h1, h2, h3, h5, h6⟩
theorem LP.ptickS (h : LP W w lb lq lc pb pq gq l p) (now : Int) {S : List Sa} {p' : Ps} (ht : ∀ y, p.s = some y → y.tr < 10000000) (e1 : p.says now = S) (e2 : p.tick now = p') : Calls Tryz.prog 35 #[.pointer (some ⟨pb, 0, none⟩), .int .i64 now] w fun en w' => ∃ A' n' c' L, en = .returned (.slice A' n' c') ∧ Said w' w.heap.size (.slice A' n' c') n' L ∧ L.map Ms.abs = S ∧ LP W w' lb lq lc pb pq gq l p' ∧ Kps w w' := by
 subst e1 e2
 exact (h.ptick now ht).mono fun en w' ⟨A', n', c', L, h1, h2, h3, h4, h5, h6⟩ => ⟨A', n', c', L, h1, h2, h3, h5, h6⟩
theorem LP.takeS (h : LP W w lb lq lc pb pq gq l p) {m : Ms} (s : Sa) (hm : Mok w m) (hs : m.abs = s) (now : Int) {R : List OrdV} {l' : Ls} (e1 : tells (l.gets s.ms now) = R) (e2 : l.take s.ms now = l') : Calls Tryz.prog 38 #[.pointer (some ⟨lb, 0, none⟩), m.x.v, .int .i64 now] w fun en w' => ∃ A' n' c' Lt, en = .returned (.slice A' n' c') ∧ Vo w' w.heap.size (.slice A' n' c') n' Lt ∧ Lt.map Ov.o = R ∧ LP W w' lb lq lc pb pq gq l' p ∧ Kps w w' := by
 subst hs e1 e2
 exact (h.take m hm now).mono fun en w' ⟨A', n', c', L, h1, h2, h3, h4, h5, h6⟩ => ⟨A', n', c', L, h1, h2, h3, h5, h6⟩
theorem LP.ptakeS (h : LP W w lb lq lc pb pq gq l p) {m : Ms} (s : Sa) (hm : Mok w m) (hs : m.abs = s) (now : Int) {R : List OrdV} {z : Option Sv} {B : Bool} {p' : Ps} (e1 : tells (p.gets s.ms now) = R) (e2 : p.answers s.ms now = z) (e3 : p.begins s.ms now = B) (e4 : p.take s.ms now = p') : Calls Tryz.prog 37 #[.pointer (some ⟨pb, 0, none⟩), m.x.v, .int .i64 now] w fun en w' => ∃ A1 n1 c1 Lt A2 n2 c2 q', en = .returned (.tuple #[.slice A1 n1 c1, .slice A2 n2 c2, .bool B]) ∧ Vo w' w.heap.size (.slice A1 n1 c1) n1 Lt ∧ Lt.map Ov.o = R ∧ Said w' w.heap.size (.slice A2 n2 c2) n2 (z.map Sv.ms).toList ∧ LP W w' lb lq lc pb q' gq l p' ∧ Kps w w' := by
 subst hs e1 e2 e3 e4
 exact (h.ptake m hm now).mono fun en w' ⟨A1, n1, c1, L, A2, n2, c2, q', h1, h2, h3, h4, h5, h6, h7⟩ => ⟨A1, n1, c1, L, A2, n2, c2, q', h1, h2, h3, h5, h6, h7⟩
theorem Said.none_ {base n : Nat} {v : Value} {L : List Ms} (h : Said w base v n L) (e : L.map Ms.abs = []) : n = 0 := by
 have := h.len
 rw [List.map_eq_nil_iff.1 e] at this
 exact this.symm
theorem Vo.none_ {base n : Nat} {v : Value} {L : List Ov} (h : Vo w base v n L) (e : L.map Ov.o = []) : n = 0 := by
 have := h.len
 rw [List.map_eq_nil_iff.1 e] at this
 exact this.symm
theorem Vo.one_ {base n c : Nat} {A : Option Addr} {L : List Ov} {o : OrdV} (h : Vo w base (.slice A n c) n L) (e : L.map Ov.o = [o]) : n = 1 ∧ ∃ b off, A = some ⟨b, off, none⟩ ∧ w.cell? ⟨b, off, none⟩ = some (.int .i64 o.k) ∧ w.cell? ⟨b, off + 1, none⟩ = some (.int .i64 o.n) := by
 have hl := h.len
 rcases L with _ | ⟨x, _ | ⟨y, r⟩⟩
 ·cases e
 ·have hl : n = 1 := hl.symm
  subst hl
  obtain ⟨b, off, eA, _, hc⟩ := h.vod.at_ Nat.one_pos
  have c0 := hc 0 x rfl 0 (.int .i64 x.o.k) rfl
  have c1 := hc 0 x rfl 1 (.int .i64 x.o.n) rfl
  have ex : x.o = o := (List.cons.inj e).1
  rw [ex, Nat.zero_mul, Nat.add_zero] at c0 c1
  exact ⟨rfl, b, off, eA, c0, c1⟩
 ·have := congrArg List.length e
  simp only [List.length_map, List.length_cons, List.length_nil] at this
  omega
end
theorem u8_tag3 : u8M tag3.r.x := by unfold tag3 noRule noMask u8M; simp [By]
theorem works17 (w : World) : Calls Tryz.prog 27 #[] w fun en w' => en = .returned (.bool true) ∧ Below w.heap.size w w' := by
 go_enter Tryz.func27, Tryz.ntmps27
 go_wp2_with fail
 refine (newLine_yes w 2 (by decide)).mono ?_
 rintro en w1 ⟨rfl, hl1, hb1⟩
 go_wp2_with fail
 refine (newPort_yes w1 2 1 (by decide) (by decide)).mono ?_
 rintro en w2 ⟨pb, gq, rfl, hp2, hn1, hn2, hb2⟩
 have h : LP w w2 _ _ _ _ _ _ wl0 wp0 := LP.new hl1 hb1 hp2 hn1 hn2 hb2
 clear hl1 hp2 hn1 hn2 hb1 hb2
 generalize bk0 w.heap.size = lq at *
 generalize bk0 pb = pq at *
 obtain ⟨lb, elb⟩ : ∃ x, x = w.heap.size := ⟨_, rfl⟩
 rw [← elb] at h ⊢
 have ELB := Kp.mk elb
 clear elb
 go_wp2_with fail
 refine (h.begin 7 0).mono ?_
 rintro en w3 ⟨rfl, lq3, lc3, h2, _⟩
 rw [wf1]
 replace h : LP w w3 _ _ _ _ _ _ wl1 wp0 := h2
 clear h2
 go_wp2_with fail
 refine (h.tickS 0 wf2 (l' := wl2) rfl).mono ?_
 rintro en wN ⟨AT, nT, cT, LT, rfl, sT, eT, h2, kN⟩
 have e0 := sT.none_ eT
 subst e0
 clear sT eT
 clear h kN
 have h := h2
 clear h2
 go_wp2_with fail
 refine (h.tickS 4 wf3 (l' := wl3) rfl).mono ?_
 rintro en wN ⟨AT, nT, cT, LT, rfl, sT, eT, h2, kN⟩
 clear h kN
 have h := h2
 clear h2
 obtain ⟨mA, mn, mc, rfl⟩ := abs_one eT
 have san := sT.len
 subst san
 have sa := sT
 clear sT
 go_wp2_with fail
 refine (sa.one 1 0).mono ?_
 rintro en wx ⟨rfl, hw⟩
 replace hw := hw.symm
 subst hw
 rw [eT, show oneB [kHello] 1 0 = true from rfl]
 clear eT
 obtain ⟨gsa, esa, m0, m1, m2, m3, m4, m5, m6, m7, m8⟩ := sa.nine (j := 0) rfl
 subst esa
 simp only [Nat.zero_mul, Nat.zero_add] at m0 m1 m2 m3 m4 m5 m6 m7 m8
 go_wp2_with fail
 refine (h.ptakeS (m := ⟨⟨1, 2, 0, 12, 0, 0, 0, 0, mA, mn, mc⟩, []⟩) kHello (sa.ok _ (by simp [kHello])) rfl 4 wf4.1 wf4.2.1 wf4.2.2 (p' := wp1) rfl).mono ?_
 rintro en wN ⟨A1, n1, c1, Lt, A2, n2, c2, pq2, rfl, v1, f1, sb, h2, kN⟩
 clear m0 m1 m2 m3 m4 m5 m6 m7 m8
 clear sa v1 f1
 clear h kN
 have h := h2
 clear h2
 replace sb : Said _ _ _ _ [⟨⟨2, 0, 2, 12, 0, 1, 0, 0, none, 0, 0⟩, []⟩] := sb
 have sbn := sb.len
 subst sbn
 go_wp2_with fail
 refine (sb.one 2 0).mono ?_
 rintro en wx ⟨rfl, hw⟩
 replace hw := hw.symm
 subst hw
 rw [show oneB (List.map Ms.abs [⟨⟨2, 0, 2, 12, 0, 1, 0, 0, none, 0, 0⟩, []⟩]) 2 0 = true from rfl]
 obtain ⟨gsb, esb, m0, m1, m2, m3, m4, m5, m6, m7, m8⟩ := sb.nine (j := 0) rfl
 subst esb
 simp only [Nat.zero_mul, Nat.zero_add] at m0 m1 m2 m3 m4 m5 m6 m7 m8
 go_wp2_with fail
 refine (h.takeS (m := ⟨⟨2, 0, 2, 12, 0, 1, 0, 0, none, 0, 0⟩, []⟩) kHi (sb.ok _ (by simp)) rfl 5 wf5 (l' := wl4) rfl).mono ?_
 rintro en wN ⟨A1, n1, c1, Lt, rfl, v1, f1, h2, kN⟩
 clear m0 m1 m2 m3 m4 m5 m6 m7 m8
 have e0 := v1.none_ f1
 subst e0
 clear sb v1 f1
 clear h kN
 have h := h2
 clear h2
 go_wp2_with fail
 refine (h.tickS 5 wf6 (l' := wl5) rfl).mono ?_
 rintro en wN ⟨AT, nT, cT, LT, rfl, sT, eT, h2, kN⟩
 clear h kN
 have h := h2
 clear h2
 obtain ⟨mA, mn, mc, rfl⟩ := abs_one eT
 have scn := sT.len
 subst scn
 have sc := sT
 clear sT
 go_wp2_with fail
 refine (sc.one 3 7).mono ?_
 rintro en wx ⟨rfl, hw⟩
 replace hw := hw.symm
 subst hw
 rw [eT, show oneB [kSyn] 3 7 = true from rfl]
 clear eT
 obtain ⟨gsc, esc, m0, m1, m2, m3, m4, m5, m6, m7, m8⟩ := sc.nine (j := 0) rfl
 subst esc
 simp only [Nat.zero_mul, Nat.zero_add] at m0 m1 m2 m3 m4 m5 m6 m7 m8
 go_wp2_with fail
 refine (h.ptakeS (m := ⟨⟨3, 2, 0, 12, 7, 1, 0, 0, mA, mn, mc⟩, []⟩) kSyn (sc.ok _ (by simp [kSyn])) rfl 5 wf7.1 wf7.2.1 wf7.2.2 (p' := wp2) rfl).mono ?_
 rintro en wN ⟨A1, n1, c1, Lt, A2, n2, c2, pq2, rfl, v1, f1, sd, h2, kN⟩
 clear m0 m1 m2 m3 m4 m5 m6 m7 m8
 clear sc v1 f1
 clear h kN
 have h := h2
 clear h2
 replace sd : Said _ _ _ _ [⟨⟨4, 0, 2, 12, 7, 0, 0, 0, none, 0, 0⟩, []⟩] := sd
 have sdn := sd.len
 subst sdn
 go_wp2_with fail
 refine (sd.one 4 7).mono ?_
 rintro en wx ⟨rfl, hw⟩
 replace hw := hw.symm
 subst hw
 rw [show oneB (List.map Ms.abs [⟨⟨4, 0, 2, 12, 7, 0, 0, 0, none, 0, 0⟩, []⟩]) 4 7 = true from rfl]
 go_wp2_with fail
 refine (h.send (o := tag3) (A := none) (n := 0) (c0 := 0) ⟨Ro.nil _ _, u8_tag3⟩).mono ?_
 rintro en wN ⟨rfl, lq4, h2, kN⟩
 rw [wf8]
 replace sd := kN.sa sd
 clear h kN
 have h := h2
 clear h2
 replace h : LP w _ _ _ _ _ _ _ wl6 wp2 := h
 obtain ⟨gsd, esd, m0, m1, m2, m3, m4, m5, m6, m7, m8⟩ := sd.nine (j := 0) rfl
 subst esd
 simp only [Nat.zero_mul, Nat.zero_add] at m0 m1 m2 m3 m4 m5 m6 m7 m8
 go_wp2_with fail
 refine (h.takeS (m := ⟨⟨4, 0, 2, 12, 7, 0, 0, 0, none, 0, 0⟩, []⟩) kAck0 (sd.ok _ (by simp)) rfl 6 wf9 (l' := wl7) rfl).mono ?_
 rintro en wN ⟨A1, n1, c1, Lt, rfl, v1, f1, h2, kN⟩
 clear m0 m1 m2 m3 m4 m5 m6 m7 m8
 have e0 := v1.none_ f1
 subst e0
 clear sd v1 f1
 clear h kN
 have h := h2
 clear h2
 go_wp2_with fail
 refine (h.ln.openC).mono ?_
 rintro en wx ⟨rfl, hw⟩
 replace hw := hw.symm
 subst hw
 rw [wf10]
 go_wp2_with fail
 refine (h.tickS 6 wf11 (l' := wl8) rfl).mono ?_
 rintro en wN ⟨AT, nT, cT, LT, rfl, sT, eT, h2, kN⟩
 clear h kN
 have h := h2
 clear h2
 obtain ⟨mA, mn, mc, rfl⟩ := abs_one eT
 have sgn := sT.len
 subst sgn
 have sg := sT
 clear sT
 go_wp2_with fail
 refine (sg.one 5 7).mono ?_
 rintro en wx ⟨rfl, hw⟩
 replace hw := hw.symm
 subst hw
 rw [eT, show oneB [kDat] 5 7 = true from rfl]
 clear eT
 obtain ⟨gsg, esg, m0, m1, m2, m3, m4, m5, m6, m7, m8⟩ := sg.nine (j := 0) rfl
 subst esg
 simp only [Nat.zero_mul, Nat.zero_add] at m0 m1 m2 m3 m4 m5 m6 m7 m8
 obtain ⟨B, hB⟩ : ∃ B, wp2.begins kDat.ms 6 = B := ⟨_, rfl⟩
 have hmk := sg.ok _ (List.mem_singleton.2 rfl)
 go_wp2_with fail
 refine (h.ptakeS (m := ⟨⟨5, 2, 0, 12, 7, 0, 0, 0, mA, mn, mc⟩, kDat.l⟩) kDat hmk kDat_abs 6 wf12.1 wf12.2 hB (p' := wp3) rfl).mono ?_
 rintro en wN ⟨A1, n1, c1, Lt, A2, n2, c2, pq2, rfl, v1, f1, sn, h2, kN⟩
 clear m0 m1 m2 m3 m4 m5 m6 m7 m8
 have e0 : n2 = 0 := sn.len.symm
 subst e0
 clear hB hmk sg sn
 clear h kN
 have h := h2
 clear h2
 go_wp2_with fail
 refine (h.ptickS 7 wf14 wf13 (p' := wp4) rfl).mono ?_
 rintro en wN ⟨AT, nT, cT, LT, rfl, sT, eT, h2, kN⟩
 replace v1 := kN.vo v1
 clear h kN
 have h := h2
 clear h2
 obtain ⟨e1, gv, ov, eA, o0, o1⟩ := v1.one_ f1
 subst e1
 subst eA
 clear v1 f1
 obtain ⟨mA, mn, mc, rfl⟩ := abs_one eT
 have shn := sT.len
 subst shn
 have sh := sT
 clear sT
 obtain ⟨gsh, esh, m0, m1, m2, m3, m4, m5, m6, m7, m8⟩ := sh.nine (j := 0) rfl
 subst esh
 simp only [Nat.zero_mul, Nat.zero_add] at m0 m1 m2 m3 m4 m5 m6 m7 m8
 simp only [tag3] at o0 o1
 go_wp2_with fail
 refine (sh.one 4 7).mono ?_
 rintro en wx ⟨rfl, hw⟩
 replace hw := hw.symm
 subst hw
 rw [eT, show oneB [kAck1] 4 7 = true from rfl]
 have HO := Kp.mk h.old
 clear eT h
 go_wp2_with fail
 go_ret
 exact ⟨rfl, HO.out⟩
end Go.Proofs.YtnoflfbcgbhipaaGreat.Oct
