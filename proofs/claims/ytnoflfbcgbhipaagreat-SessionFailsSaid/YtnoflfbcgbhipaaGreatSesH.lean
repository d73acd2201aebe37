import Derived.Test.YtnoflfbcgbhipaaGreatSesE
set_option linter.unusedSimpArgs false
set_option linter.unusedVariables false
set_option maxRecDepth 100000
set_option maxHeartbeats 8000000
namespace Go.Proofs.YtnoflfbcgbhipaaGreat.Oct
open Go.RowKit
structure Said (w : World) (base : Nat) (v : Value) (n : Nat) (L : List Ms) : Prop where
 os : Osv w base v n (L.map Ms.x)
 ok : ∀ m ∈ L, Mok w m
section
variable {w w' : World} {base n : Nat} {v : Value} {L : List Ms} {S : Nat → Prop}
theorem Said.nil0 (w : World) (base : Nat) : Said w base (.slice none 0 0) 0 [] := ⟨Osv.nil0 w base, fun m h => by simp at h⟩
theorem Said.stay (h : Said w base v n L) (hc : Ch S w w') (hs : ∀ k, v.ownBlock = some k → ¬ S k) (hn : Nob w S) : Said w' base v n L := ⟨h.os.stay hc hs, fun m hm => (h.ok m hm).stay hc (fun b cs m _ _ hb e => (hn b cs m e).1 hb)⟩
theorem Said.below (h : Said w base v n L) (hb : Below w.heap.size w w') : Said w' base v n L := h.stay (S := fun _ => False) (.of_below hb) (fun _ _ e => e) (Nob.none w)
theorem Said.nob (h : Said w base v n L) : Nob w (fun k => v.ownBlock = some k) := fun k cs m e => by
 obtain ⟨cur, hcur⟩ := h.os.typed k e
 have hvb : Vb 54 w k cur.toList := by simpa [Vb] using hcur
 exact nob_vb hvb (by decide) (by decide) k cs m rfl
theorem Said.len (h : Said w base v n L) : L.length = n := by have := h.os.len; simpa using this
theorem Said.no (h : Said w base v n L) {T : TypeId} {rest : List Value} {g : Nat} {q : Bk} {b : Bo} (hb : Bd T rest w g q b) : ∀ k, v.ownBlock = some k → k ≠ g ∧ ¬ q.own k := fun k e => by
 obtain ⟨cur, hcur⟩ := h.os.typed k e
 have hvb : Vb 54 w k cur.toList := by simpa [Vb] using hcur
 exact ⟨vb_ne hvb hb.own (fun e2 => (ty_ne hb.ty).2.2.2.1 e2.symm), hb.bi.not (by decide) hvb⟩
theorem Said.turn (h : Said w base v n L) {T : TypeId} {rest : List Value} {g : Nat} {q : Bk} {b : Bo} (hb : Bd T rest w g q b) (hc : Ch S w w') (hs : ∀ k, S k → k = g ∨ q.own k) : Said w' base v n L :=
 h.stay hc (fun k e e2 => by rcases hs k e2 with e3 | e3; exact (h.no hb k e).1 e3; exact (h.no hb k e).2 e3) (hb.nob.mono hs)
theorem Said.app (ty : TypeId) {m c : Nat} {A : Option Addr} {base2 : Nat} {L2 : List Ms} (h : Said w base v n L) (h2 : Said w base2 (.slice A m c) m L2) (hsz : n + m ≤ 100000) (hbase : base ≤ w.heap.size) :
  ∃ A' c' w', (Builtin.append_ #[37, 37] ty #[v, .slice A m c]).run Tryz.prog w = .ok (.slice A' (n + m) c') w' ∧ Said w' base (.slice A' (n + m) c') (n + m) (L ++ L2) ∧ Ch (fun k => v.ownBlock = some k) w w' ∧ ((Value.slice A' (n + m) c').ownBlock = v.ownBlock ∨ ∀ k, (Value.slice A' (n + m) c').ownBlock = some k → w.heap.size ≤ k) := by
 obtain ⟨A', c', w', h1, h3, h4, h5⟩ := h.os.app ty h2.os.svd (by omega) hbase
 refine ⟨A', c', w', h1, ⟨by rw [List.map_append]; exact h3, fun x hx => ?_⟩, h4, h5⟩
 rcases List.mem_append.1 hx with hx | hx
 ·exact (h.ok x hx).stay h4 (fun b cs m _ _ hb e => (h.nob b cs m e).1 hb)
 ·exact (h2.ok x hx).stay h4 (fun b cs m _ _ hb e => (h.nob b cs m e).1 hb)
end
section
variable {w w' : World} {q : Bk} {b : Bo} {S : Nat → Prop} {T : TypeId} {g : Nat} {rest : List Value}
theorem Bd.appd {A : Option Addr} {base m c : Nat} {L : List Ms} (h : Bd T rest w g q b) (h2 : Said w base (.slice A m c) m L) (hc : Ch (fun k => (Value.slice A m c).ownBlock = some k) w w') : Bd T rest w' g q b :=
 h.stay hc (fun e => (h2.no h g e).1 rfl) (fun k e e2 => (h2.no h k e2).2 e) h2.nob
theorem bdata_said (h : Bd T rest w g q b) {base : Nat} {A : Option Addr} {n c : Nat} {its : List (Int × FrV)} (hI : Om w base (.slice A n c) n its) (hf : ∀ it ∈ its, Fok (fun _ => True) w it.2) (hn : n ≤ 4) : Calls Tryz.prog 104 #[.pointer (some ⟨g, 0, none⟩), .slice A n c] w fun en w' => ∃ A' c', en = .returned (.slice A' n c') ∧ Said w' w.heap.size (.slice A' n c') n (its.map b.ofI) ∧ Below w.heap.size w w' :=
 (bdata_any h hI.im hn).mono fun en w' ⟨A', c', h1, h2, h3⟩ => ⟨A', c', h1, ⟨by rw [List.map_map]; exact h2, fun m hm => by
  obtain ⟨it, hi, rfl⟩ := List.mem_map.1 hm
  exact (hf it hi).below h3⟩, h3⟩
theorem seg_list (b : Bo) (k s a : Int) (A : Option Addr) (n c : Nat) : (b.sv k s a A n c).cells = [.int .i64 k, .int .i64 b.t, .int .i64 b.f, .int .i64 12, .int .i64 b.e, .int .i64 0, .int .i64 s, .int .i64 a, .slice A n c] := rfl
def SaysPost (T : TypeId) (rest : List Value) (w : World) (g : Nat) (q : Bk) (b : Bo) (now : Int) (en : Ending) (w' : World) : Prop :=
 ∃ A' n' c' L, en = .returned (.slice A' n' c') ∧ Kp (Said w' w.heap.size (.slice A' n' c') n' L) ∧ L.map Ms.abs = b.says now ∧ n' ≤ 9 ∧ Bd T rest w' g q (b.saysB now) ∧ Ch (fun k => k = g ∨ q.own k) w w'
theorem bsays_true (h : Bd T rest w g q b) {now : Int} (hw' : tickB now = true) (ht : b.tr < 10000000) (how : b.ow = true) : Calls Tryz.prog 68 #[.pointer (some ⟨g, 0, none⟩), .int .i64 now] w (SaysPost T rest w g q b now) := by
 unfold SaysPost
 have hfit := h.bi.sp.fit
 have hfk : b.fk ≤ 4 ∧ b.said + b.fk ≤ 4 := by unfold Bo.fk; omega
 have HFK := Kp.mk hfk
 clear hfit hfk
 have c6 := h.own.cell 6 rfl
 rw [how] at c6
 have f6 := h.own.free 6
 have hset : Vb T (w.setCell ⟨g, 6, none⟩ (.bool false)) g (bcl { b with ow := false } q rest) := h.own.set 6 (.bool false)
 have hc1 : Ch (fun k => k = g ∨ q.own k) w (w.setCell ⟨g, 6, none⟩ (.bool false)) := (Ch.of_grown (grownBy_set w g 6 (.bool false))).mono (fun k _ e => .inl e)
 have H1 := Kp.mk (show Bd T rest (w.setCell ⟨g, 6, none⟩ (.bool false)) g q { b with ow := false } from
  have hbi := h.bi.stay (S := fun k => k = g) (Ch.of_grown (grownBy_set w g 6 (.bool false))) (fun k e e2 => h.gno (e2 ▸ e)) (nob_vb h.own (ty_ne h.ty).2.1 (ty_ne h.ty).2.2.1)
  ⟨hset, ⟨hbi.sp, hbi.ib, hbi.bt, hbi.by_, hbi.tr⟩, h.ty⟩)
 have HC1 := Kp.mk hc1
 have HZ := Kp.mk (show w.heap.size = (w.setCell ⟨g, 6, none⟩ (.bool false)).heap.size by simp [World.setCell])
 clear h hset hc1
 go_enter Tryz.func68, Tryz.ntmps68
 go_upto_region 4 with fail
 clear c6 f6
 generalize w.setCell ⟨g, 6, none⟩ (.bool false) = w1 at *
 go_wp2_with fail
 refine (back_any H1.out).mono ?_
 rintro en w2 ⟨rfl, hb2⟩
 have H2 := Kp.mk (H1.out.below hb2)
 have HC2 := Kp.mk (HC1.out.trans (Ch.of_below (S := fun k => k = g ∨ q.own k) hb2) (fun _ _ e => e))
 clear H1 HC1 hb2
 have hN3 := new_seg w2 (b.sv 4 0 b.ix none 0 0)
 rw [seg_list] at hN3
 obtain ⟨A3, c3_, w3, hrun, hO3, hC3, hat⟩ := (Osv.nil0 (w2.alloc (.cells ([.int .i64 4, .int .i64 b.t, .int .i64 b.f, .int .i64 12, .int .i64 b.e, .int .i64 0, .int .i64 0, .int .i64 b.ix, .slice none 0 0] : List Value).toArray 54)) w.heap.size).push 37 (g2 := w2.heap.size) (x := b.sv 4 0 b.ix none 0 0) (fun i u hu => hN3.1.cell i hu) (by simp) (by omega) (by have := HC2.out.size; have := hN3.2.size; omega)
 have hrun : (Builtin.append_ #[37, 37] 37 #[.slice none 0 0, .slice (some ⟨w2.heap.size, 0, none⟩) 1 1]).run Tryz.prog (w2.alloc (.cells #[.int .i64 4, .int .i64 b.t, .int .i64 b.f, .int .i64 12, .int .i64 b.e, .int .i64 0, .int .i64 0, .int .i64 b.ix, .slice none 0 0] 54)) = .ok (.slice A3 1 c3_) w3 := hrun
 have hC3 : Ch (fun _ => False) (w2.alloc (.cells ([.int .i64 4, .int .i64 b.t, .int .i64 b.f, .int .i64 12, .int .i64 b.e, .int .i64 0, .int .i64 0, .int .i64 b.ix, .slice none 0 0] : List Value).toArray 54)) w3 := hC3.mono (fun k _ e => by simp [Value.ownBlock] at e)
 have H3 := Kp.mk (show Bd T rest w3 g q { b with ow := false } from (H2.out.below hN3.2).stay hC3 id (fun _ _ e => e) (Nob.none _))
 have HS3 := Kp.mk (show Said w3 w.heap.size (.slice A3 1 c3_) 1 [(b.sv 4 0 b.ix none 0 0).ms] from ⟨hO3, fun m hm => by rw [List.mem_singleton.1 hm]; exact Fok.nil_ _ _⟩)
 have HC3 := Kp.mk ((HC2.out.trans (Ch.of_below (S := fun k => k = g ∨ q.own k) hN3.2) (fun _ _ e => e)).trans hC3 (fun _ _ e => e.elim))
 have HAB := Kp.mk (show [(b.sv 4 0 b.ix none 0 0).ms].map Ms.abs = b.acks from by unfold Bo.acks; rw [if_pos how]; rfl)
 clear hN3 hO3 hC3 hat H2 HC2
 go_upto_region 5 with (at_builtin; refine Lib.wpList_append_run _ rfl _ _ _ _ rfl _ _ rfl rfl _ _ hrun ?_)
 clear hrun
 generalize [(b.sv 4 0 b.ix none 0 0).ms] = L3 at *
 have c3 := H3.out.own.cell 3 rfl
 go_wp2_with fail
 refine (show Bi w3 q b from ⟨H3.out.bi.sp, H3.out.bi.ib, H3.out.bi.bt, H3.out.bi.by_, H3.out.bi.tr⟩).fresh.mono ?_
 rintro en w4 ⟨A4, m4, its, rfl, hO4, hI4, hF4, hB4, hC4⟩
 have hown4 : ∀ k, k = q.c → q.own k := fun k e => .inl (.inr (.inl e))
 have H4 := Kp.mk (show Bd T rest w4 g q b.fresh from H3.out.of (b' := b.fresh) ⟨hB4.sp, hB4.ib, hB4.bt, hB4.by_, hB4.tr⟩ hC4 hown4 ⟨rfl, rfl, rfl, rfl⟩)
 have HS4 := Kp.mk (HS3.out.turn H3.out hC4 (fun k e => .inr (hown4 k e)))
 have HC4 := Kp.mk (HC3.out.trans hC4 (fun k _ e => .inr (hown4 k e)))
 have HO4 := Kp.mk hO4
 have HI4 := Kp.mk (show (its.map b.ofI).map Ms.abs = b.dat b.said b.fk from hI4)
 have HF4 := Kp.mk hF4
 have HZ4 := Kp.mk (show w3.heap.size ≤ w4.heap.size from hC4.size)
 replace hO4 : Om w4 w3.heap.size (.slice A4 b.fk m4) b.fk its := hO4
 clear c3 H3 HS3 HC3 hC4 hB4 hown4 hI4 hF4 hO4
 go_wp2_with fail
 refine (bdata_said H4.out HO4.out HF4.out HFK.out.1).mono ?_
 rintro en w5 ⟨A5, c5, rfl, hS5, hb5⟩
 have HO5 := Kp.mk (HO4.out.below hb5)
 have H5 := H4.out.below hb5
 have hS5b := HS4.out.below hb5
 have HC5 := Kp.mk (HC4.out.trans (Ch.of_below (S := fun k => k = g ∨ q.own k) hb5) (fun _ _ e => e))
 clear H4 HS4 HC4 HO4 HF4 hb5
 replace hS5 : Said w5 w4.heap.size (.slice A5 b.fk c5) b.fk (its.map b.ofI) := hS5
 obtain ⟨A6, c6, w6, hrun, hS6, hC6, hat⟩ := hS5b.app 37 hS5 (by have := HFK.out; omega) HC5.out.size
 have H6 := Kp.mk (H5.appd hS5b hC6)
 have hlt6 : ∀ k, (Value.slice A3 1 c3_).ownBlock = some k → w.heap.size ≤ k := fun k e => (hS5b.os.lt k e).1
 have HC6 := Kp.mk (HC5.out.trans hC6 (fun k hk e => absurd (hlt6 k e) (by omega)))
 have HS6 := Kp.mk hS6
 have HAB6 := Kp.mk (show (L3 ++ its.map b.ofI).map Ms.abs = b.acks ++ b.dat b.said b.fk by rw [List.map_append, HAB.out, HI4.out])
 clear hS5 hS5b hS6 hC6 hat H5 HC5 HAB HI4
 generalize L3 ++ its.map b.ofI = L6 at *
 go_upto_region 7 with (at_builtin; refine Lib.wpList_append_run _ rfl _ _ _ _ rfl _ _ rfl rfl _ _ hrun ?_)
 clear hrun
 have HMX := Kp.mk HO5.out.im.max
 have c5' := H6.out.own.cell 5 rfl
 go_cut [29] from 30 to 40 (fun s29 wx => s29 = .bool b.starts ∧ wx = w6)
 case first =>
  have hmx := HMX.out
  have hru := bruns_any H6.out.bi.bt
  by_cases hz : 0 < b.fk
  ·have hz' : (0 : Int) < b.fk := by omega
   by_cases ha : 0 < b.a
   ·have hs : b.starts = false := decide_eq_false (fun e => e.2 ha)
    rw [show b.fresh.a = b.a from rfl, decide_eq_true ha] at hru
    have hg : decide ((b.fk : Int) > 0) = true := decide_eq_true hz'
    clear hz ha
    go_wp2_with fail
    refine hru.mono ?_
    rintro en w7 ⟨rfl, hw7⟩
    replace hw7 := hw7.symm
    subst hw7
    go_wp2_with fail
    go_meet
    case rel => exact ⟨by rw [hs], rfl⟩
   ·have hs : b.starts = true := decide_eq_true ⟨hz, ha⟩
    rw [show b.fresh.a = b.a from rfl, decide_eq_false ha] at hru
    have hg : decide ((b.fk : Int) > 0) = true := decide_eq_true hz'
    clear hz ha
    go_wp2_with fail
    refine hru.mono ?_
    rintro en w7 ⟨rfl, hw7⟩
    replace hw7 := hw7.symm
    subst hw7
    go_wp2_with fail
    go_meet
    case rel => exact ⟨by rw [hs], rfl⟩
  ·have hz0 : b.fk = 0 := by omega
   have hs : b.starts = false := decide_eq_false (fun e => hz e.1)
   have hg : decide ((b.fk : Int) > 0) = false := decide_eq_false (by omega)
   have hg2 : ¬ (0 : Int) < b.fk := by omega
   clear hz hz0 hru
   go_wp2_with fail
   go_meet
   case rel => exact ⟨by rw [hs], rfl⟩
 case rest =>
  obtain ⟨rfl, hw⟩ := hcut
  replace hw := hw.symm
  subst hw
  cases hst : b.starts with
  | true =>
   have hP := H6.out.bi.start hw'
   go_wp2_with fail
   refine hP.mono ?_
   rintro en w7 ⟨rfl, hB7, hC7⟩
   have hown7 : ∀ k, k = q.z → q.own k := fun k e => .inr (.inr (.inr e))
   have hsB : b.saysB now = { b.fresh with a := now + 4, tr := 0 } := by unfold Bo.saysB; rw [if_pos hst]
   have hsy : b.says now = b.acks ++ b.dat b.said b.fk := by unfold Bo.says; rw [if_pos hst, List.append_nil]
   have H7 := Kp.mk (show Bd T rest w7 g q (b.saysB now) by rw [hsB]; exact H6.out.of hB7 hC7 hown7 ⟨rfl, rfl, rfl, rfl⟩)
   have HS7 := Kp.mk (HS6.out.turn H6.out hC7 (fun k e => .inr (hown7 k e)))
   have HC7 := Kp.mk (HC6.out.trans hC7 (fun k _ e => .inr (hown7 k e)))
   have HY := Kp.mk (HAB6.out.trans hsy.symm)
   clear c5' hP hB7 hC7 hown7 hsB hsy H6 HS6 HC6 HAB6
   go_wp2_with fail
   go_ret
   exact ⟨A6, (1 + b.fk), c6, L6, rfl, HS7, HY.out, by have := HFK.out; omega, H7.out, HC7.out⟩
  | false =>
   cases hdu : b.due now with
   | false =>
    have hP := H6.out.bi.dueN (n := now) (show b.fresh.due now = false from hdu)
    go_wp2_with fail
    refine hP.mono ?_
    rintro en w7 ⟨rfl, hw7⟩
    replace hw7 := hw7.symm
    subst hw7
    have hsB : b.saysB now = b.fresh := by unfold Bo.saysB; rw [hst, hdu]; rfl
    have hsy : b.says now = b.acks ++ b.dat b.said b.fk := by unfold Bo.says; rw [hst, hdu]; simp
    have HY := Kp.mk (HAB6.out.trans hsy.symm)
    have H7 := Kp.mk (show Bd T rest w6 g q (b.saysB now) by rw [hsB]; exact H6.out)
    clear c5' hP hsB hsy H6 HAB6
    go_wp2_with fail
    go_ret
    exact ⟨A6, (1 + b.fk), c6, L6, rfl, HS6, HY.out, by have := HFK.out; omega, H7.out, HC6.out⟩
   | true =>
    have hP := H6.out.bi.dueY hw' (show b.fresh.due now = true from hdu) ht
    go_wp2_with fail
    refine hP.mono ?_
    rintro en w7 ⟨rfl, hB7, hC7⟩
    have hown7 : ∀ k, k = q.z → q.own k := fun k e => .inr (.inr (.inr e))
    have hsB : b.saysB now = { b.fresh with a := now + wv 4 32 (b.tr + 1), tr := b.tr + 1 } := by unfold Bo.saysB; rw [hst, hdu]; rfl
    have hsy : b.says now = b.acks ++ b.dat b.said b.fk ++ b.dat 0 (b.said + b.fk) := by unfold Bo.says; rw [hst, hdu]; simp
    have h7 : Bd T rest w7 g q (b.saysB now) := by rw [hsB]; exact H6.out.of hB7 hC7 hown7 ⟨rfl, rfl, rfl, rfl⟩
    have HSD := Kp.mk (show (b.saysB now).said = b.said + b.fk ∧ (∀ n, (b.saysB now).dat 0 n = b.dat 0 n) by rw [hsB]; exact ⟨rfl, fun n => rfl⟩)
    have HS7 := Kp.mk (HS6.out.turn H6.out hC7 (fun k e => .inr (hown7 k e)))
    have HC7 := Kp.mk (HC6.out.trans hC7 (fun k _ e => .inr (hown7 k e)))
    have HYY := Kp.mk hsy
    clear c5' hP hB7 hC7 hown7 hsB hsy H6 HS6 HC6
    generalize hb7 : b.saysB now = b7 at *
    have c3 := h7.own.cell 3 rfl
    have hag := h7.bi.again
    have H7 := Kp.mk h7
    clear h7
    go_wp2_with fail
    refine hag.mono ?_
    rintro en w8 ⟨A8, m8, its8, rfl, hO8, hI8, hF8, hb8⟩
    have H8 := H7.out.below hb8
    have HS8 := Kp.mk (HS7.out.below hb8)
    have HC8 := Kp.mk (HC7.out.trans (Ch.of_below (S := fun k => k = g ∨ q.own k) hb8) (fun _ _ e => e))
    have HI8 := Kp.mk hI8
    have hdt := bdata_said H8 hO8 hF8 (by rw [HSD.out.1]; exact HFK.out.2)
    have H8 := Kp.mk H8
    clear c3 hag H7 HS7 HC7 hI8 hO8 hF8 hb8
    go_wp2_with fail
    refine hdt.mono ?_
    rintro en w9 ⟨A9, c9, rfl, hS9, hb9⟩
    have H9 := H8.out.below hb9
    have hS9b := HS8.out.below hb9
    have HC9 := Kp.mk (HC8.out.trans (Ch.of_below (S := fun k => k = g ∨ q.own k) hb9) (fun _ _ e => e))
    clear H8 HS8 HC8 hdt hb9
    obtain ⟨AA, cA, wA, hrun, hSA, hCA, hat⟩ := hS9b.app 37 hS9 (by have := HFK.out; have := HSD.out.1; omega) HC9.out.size
    have HA := Kp.mk (H9.appd hS9b hCA)
    have hltA : ∀ k, (Value.slice A6 ((1 + b.fk)) c6).ownBlock = some k → w.heap.size ≤ k := fun k e => (hS9b.os.lt k e).1
    have HCA := Kp.mk (HC9.out.trans hCA (fun k hk e => absurd (hltA k e) (by omega)))
    have HSA := Kp.mk hSA
    have HYA := Kp.mk (show (L6 ++ its8.map b7.ofI).map Ms.abs = b.says now by rw [List.map_append, HAB6.out, HI8.out, HSD.out.2, HSD.out.1, HYY.out])
    clear hS9 hS9b hSA hCA hat H9 HC9 hltA
    go_wp2_with (at_builtin; refine Lib.wpList_append_run _ rfl _ _ _ _ rfl _ _ rfl rfl _ _ hrun ?_)
    go_ret
    exact ⟨AA, _, cA, _, rfl, HSA, HYA.out, by have := HFK.out; have := HSD.out.1; omega, by rw [hb7]; exact HA.out, HCA.out⟩
theorem bsays_false (h : Bd T rest w g q b) {now : Int} (hw' : tickB now = true) (ht : b.tr < 10000000) (how : b.ow = false) : Calls Tryz.prog 68 #[.pointer (some ⟨g, 0, none⟩), .int .i64 now] w (SaysPost T rest w g q b now) := by
 unfold SaysPost
 have hfit := h.bi.sp.fit
 have hfk : b.fk ≤ 4 ∧ b.said + b.fk ≤ 4 := by unfold Bo.fk; omega
 have HFK := Kp.mk hfk
 clear hfit hfk
 have c6 := h.own.cell 6 rfl
 rw [how] at c6
 have HAB := Kp.mk (show ([] : List Ms).map Ms.abs = b.acks from by unfold Bo.acks; rw [how]; rfl)
 have H3 := Kp.mk (show Bd T rest w g q { b with ow := false } from by
  have e : b = { b with ow := false } := by rw [← how]
  rw [← e]; exact h)
 have HS3 := Kp.mk (Said.nil0 w w.heap.size)
 have HC3 := Kp.mk (Ch.refl (fun k => k = g ∨ q.own k) w)
 clear h
 go_enter Tryz.func68, Tryz.ntmps68
 go_upto_region 5 with fail
 clear c6
 obtain ⟨w3, hw3⟩ : ∃ w3, w3 = w := ⟨w, rfl⟩
 rw [← hw3]
 rw [show Said w = Said w3 by rw [hw3]] at HS3
 rw [show Bd T rest w = Bd T rest w3 by rw [hw3]] at H3
 rw [show Ch (fun k => k = g ∨ q.own k) w w = Ch (fun k => k = g ∨ q.own k) w w3 by rw [hw3]] at HC3
 clear hw3
 obtain ⟨L3, hL3⟩ : ∃ L3 : List Ms, L3 = [] := ⟨_, rfl⟩
 rw [← hL3] at HS3 HAB
 clear hL3
 have c3 := H3.out.own.cell 3 rfl
 go_wp2_with fail
 refine (show Bi w3 q b from ⟨H3.out.bi.sp, H3.out.bi.ib, H3.out.bi.bt, H3.out.bi.by_, H3.out.bi.tr⟩).fresh.mono ?_
 rintro en w4 ⟨A4, m4, its, rfl, hO4, hI4, hF4, hB4, hC4⟩
 have hown4 : ∀ k, k = q.c → q.own k := fun k e => .inl (.inr (.inl e))
 have H4 := Kp.mk (show Bd T rest w4 g q b.fresh from H3.out.of (b' := b.fresh) ⟨hB4.sp, hB4.ib, hB4.bt, hB4.by_, hB4.tr⟩ hC4 hown4 ⟨rfl, rfl, rfl, rfl⟩)
 have HS4 := Kp.mk (HS3.out.turn H3.out hC4 (fun k e => .inr (hown4 k e)))
 have HC4 := Kp.mk (HC3.out.trans hC4 (fun k _ e => .inr (hown4 k e)))
 have HO4 := Kp.mk hO4
 have HI4 := Kp.mk (show (its.map b.ofI).map Ms.abs = b.dat b.said b.fk from hI4)
 have HF4 := Kp.mk hF4
 have HZ4 := Kp.mk (show w3.heap.size ≤ w4.heap.size from hC4.size)
 replace hO4 : Om w4 w3.heap.size (.slice A4 b.fk m4) b.fk its := hO4
 clear c3 H3 HS3 HC3 hC4 hB4 hown4 hI4 hF4 hO4
 go_wp2_with fail
 refine (bdata_said H4.out HO4.out HF4.out HFK.out.1).mono ?_
 rintro en w5 ⟨A5, c5, rfl, hS5, hb5⟩
 have HO5 := Kp.mk (HO4.out.below hb5)
 have H5 := H4.out.below hb5
 have hS5b := HS4.out.below hb5
 have HC5 := Kp.mk (HC4.out.trans (Ch.of_below (S := fun k => k = g ∨ q.own k) hb5) (fun _ _ e => e))
 clear H4 HS4 HC4 HO4 HF4 hb5
 replace hS5 : Said w5 w4.heap.size (.slice A5 b.fk c5) b.fk (its.map b.ofI) := hS5
 obtain ⟨A6, c6, w6, hrun, hS6, hC6, hat⟩ := hS5b.app 37 hS5 (by have := HFK.out; omega) HC5.out.size
 rw [Nat.zero_add] at hrun hS6
 have H6 := Kp.mk (H5.appd hS5b hC6)
 have hlt6 : ∀ k, (Value.slice none 0 0).ownBlock = some k → w.heap.size ≤ k := fun k e => (hS5b.os.lt k e).1
 have HC6 := Kp.mk (HC5.out.trans hC6 (fun k hk e => absurd (hlt6 k e) (by omega)))
 have HS6 := Kp.mk hS6
 have HAB6 := Kp.mk (show (L3 ++ its.map b.ofI).map Ms.abs = b.acks ++ b.dat b.said b.fk by rw [List.map_append, HAB.out, HI4.out])
 clear hS5 hS5b hS6 hC6 hat H5 HC5 HAB HI4
 generalize L3 ++ its.map b.ofI = L6 at *
 go_upto_region 7 with (at_builtin; refine Lib.wpList_append_run _ rfl _ _ _ _ rfl _ _ rfl rfl _ _ hrun ?_)
 clear hrun
 have HMX := Kp.mk HO5.out.im.max
 have c5' := H6.out.own.cell 5 rfl
 go_cut [29] from 30 to 40 (fun s29 wx => s29 = .bool b.starts ∧ wx = w6)
 case first =>
  have hmx := HMX.out
  have hru := bruns_any H6.out.bi.bt
  by_cases hz : 0 < b.fk
  ·have hz' : (0 : Int) < b.fk := by omega
   by_cases ha : 0 < b.a
   ·have hs : b.starts = false := decide_eq_false (fun e => e.2 ha)
    rw [show b.fresh.a = b.a from rfl, decide_eq_true ha] at hru
    have hg : decide ((b.fk : Int) > 0) = true := decide_eq_true hz'
    clear hz ha
    go_wp2_with fail
    refine hru.mono ?_
    rintro en w7 ⟨rfl, hw7⟩
    replace hw7 := hw7.symm
    subst hw7
    go_wp2_with fail
    go_meet
    case rel => exact ⟨by rw [hs], rfl⟩
   ·have hs : b.starts = true := decide_eq_true ⟨hz, ha⟩
    rw [show b.fresh.a = b.a from rfl, decide_eq_false ha] at hru
    have hg : decide ((b.fk : Int) > 0) = true := decide_eq_true hz'
    clear hz ha
    go_wp2_with fail
    refine hru.mono ?_
    rintro en w7 ⟨rfl, hw7⟩
    replace hw7 := hw7.symm
    subst hw7
    go_wp2_with fail
    go_meet
    case rel => exact ⟨by rw [hs], rfl⟩
  ·have hz0 : b.fk = 0 := by omega
   have hs : b.starts = false := decide_eq_false (fun e => hz e.1)
   have hg : decide ((b.fk : Int) > 0) = false := decide_eq_false (by omega)
   have hg2 : ¬ (0 : Int) < b.fk := by omega
   clear hz hz0 hru
   go_wp2_with fail
   go_meet
   case rel => exact ⟨by rw [hs], rfl⟩
 case rest =>
  obtain ⟨rfl, hw⟩ := hcut
  replace hw := hw.symm
  subst hw
  cases hst : b.starts with
  | true =>
   have hP := H6.out.bi.start hw'
   go_wp2_with fail
   refine hP.mono ?_
   rintro en w7 ⟨rfl, hB7, hC7⟩
   have hown7 : ∀ k, k = q.z → q.own k := fun k e => .inr (.inr (.inr e))
   have hsB : b.saysB now = { b.fresh with a := now + 4, tr := 0 } := by unfold Bo.saysB; rw [if_pos hst]
   have hsy : b.says now = b.acks ++ b.dat b.said b.fk := by unfold Bo.says; rw [if_pos hst, List.append_nil]
   have H7 := Kp.mk (show Bd T rest w7 g q (b.saysB now) by rw [hsB]; exact H6.out.of hB7 hC7 hown7 ⟨rfl, rfl, rfl, rfl⟩)
   have HS7 := Kp.mk (HS6.out.turn H6.out hC7 (fun k e => .inr (hown7 k e)))
   have HC7 := Kp.mk (HC6.out.trans hC7 (fun k _ e => .inr (hown7 k e)))
   have HY := Kp.mk (HAB6.out.trans hsy.symm)
   clear c5' hP hB7 hC7 hown7 hsB hsy H6 HS6 HC6 HAB6
   go_wp2_with fail
   go_ret
   exact ⟨A6, b.fk, c6, L6, rfl, HS7, HY.out, by have := HFK.out; omega, H7.out, HC7.out⟩
  | false =>
   cases hdu : b.due now with
   | false =>
    have hP := H6.out.bi.dueN (n := now) (show b.fresh.due now = false from hdu)
    go_wp2_with fail
    refine hP.mono ?_
    rintro en w7 ⟨rfl, hw7⟩
    replace hw7 := hw7.symm
    subst hw7
    have hsB : b.saysB now = b.fresh := by unfold Bo.saysB; rw [hst, hdu]; rfl
    have hsy : b.says now = b.acks ++ b.dat b.said b.fk := by unfold Bo.says; rw [hst, hdu]; simp
    have HY := Kp.mk (HAB6.out.trans hsy.symm)
    have H7 := Kp.mk (show Bd T rest w6 g q (b.saysB now) by rw [hsB]; exact H6.out)
    clear c5' hP hsB hsy H6 HAB6
    go_wp2_with fail
    go_ret
    exact ⟨A6, b.fk, c6, L6, rfl, HS6, HY.out, by have := HFK.out; omega, H7.out, HC6.out⟩
   | true =>
    have hP := H6.out.bi.dueY hw' (show b.fresh.due now = true from hdu) ht
    go_wp2_with fail
    refine hP.mono ?_
    rintro en w7 ⟨rfl, hB7, hC7⟩
    have hown7 : ∀ k, k = q.z → q.own k := fun k e => .inr (.inr (.inr e))
    have hsB : b.saysB now = { b.fresh with a := now + wv 4 32 (b.tr + 1), tr := b.tr + 1 } := by unfold Bo.saysB; rw [hst, hdu]; rfl
    have hsy : b.says now = b.acks ++ b.dat b.said b.fk ++ b.dat 0 (b.said + b.fk) := by unfold Bo.says; rw [hst, hdu]; simp
    have h7 : Bd T rest w7 g q (b.saysB now) := by rw [hsB]; exact H6.out.of hB7 hC7 hown7 ⟨rfl, rfl, rfl, rfl⟩
    have HSD := Kp.mk (show (b.saysB now).said = b.said + b.fk ∧ (∀ n, (b.saysB now).dat 0 n = b.dat 0 n) by rw [hsB]; exact ⟨rfl, fun n => rfl⟩)
    have HS7 := Kp.mk (HS6.out.turn H6.out hC7 (fun k e => .inr (hown7 k e)))
    have HC7 := Kp.mk (HC6.out.trans hC7 (fun k _ e => .inr (hown7 k e)))
    have HYY := Kp.mk hsy
    clear c5' hP hB7 hC7 hown7 hsB hsy H6 HS6 HC6
    generalize hb7 : b.saysB now = b7 at *
    have c3 := h7.own.cell 3 rfl
    have hag := h7.bi.again
    have H7 := Kp.mk h7
    clear h7
    go_wp2_with fail
    refine hag.mono ?_
    rintro en w8 ⟨A8, m8, its8, rfl, hO8, hI8, hF8, hb8⟩
    have H8 := H7.out.below hb8
    have HS8 := Kp.mk (HS7.out.below hb8)
    have HC8 := Kp.mk (HC7.out.trans (Ch.of_below (S := fun k => k = g ∨ q.own k) hb8) (fun _ _ e => e))
    have HI8 := Kp.mk hI8
    have hdt := bdata_said H8 hO8 hF8 (by rw [HSD.out.1]; exact HFK.out.2)
    have H8 := Kp.mk H8
    clear c3 hag H7 HS7 HC7 hI8 hO8 hF8 hb8
    go_wp2_with fail
    refine hdt.mono ?_
    rintro en w9 ⟨A9, c9, rfl, hS9, hb9⟩
    have H9 := H8.out.below hb9
    have hS9b := HS8.out.below hb9
    have HC9 := Kp.mk (HC8.out.trans (Ch.of_below (S := fun k => k = g ∨ q.own k) hb9) (fun _ _ e => e))
    clear H8 HS8 HC8 hdt hb9
    obtain ⟨AA, cA, wA, hrun, hSA, hCA, hat⟩ := hS9b.app 37 hS9 (by have := HFK.out; have := HSD.out.1; omega) HC9.out.size
    have HA := Kp.mk (H9.appd hS9b hCA)
    have hltA : ∀ k, (Value.slice A6 (b.fk) c6).ownBlock = some k → w.heap.size ≤ k := fun k e => (hS9b.os.lt k e).1
    have HCA := Kp.mk (HC9.out.trans hCA (fun k hk e => absurd (hltA k e) (by omega)))
    have HSA := Kp.mk hSA
    have HYA := Kp.mk (show (L6 ++ its8.map b7.ofI).map Ms.abs = b.says now by rw [List.map_append, HAB6.out, HI8.out, HSD.out.2, HSD.out.1, HYY.out])
    clear hS9 hS9b hSA hCA hat H9 HC9 hltA
    go_wp2_with (at_builtin; refine Lib.wpList_append_run _ rfl _ _ _ _ rfl _ _ rfl rfl _ _ hrun ?_)
    go_ret
    exact ⟨AA, _, cA, _, rfl, HSA, HYA.out, by have := HFK.out; have := HSD.out.1; omega, by rw [hb7]; exact HA.out, HCA.out⟩
theorem bsays_any (h : Bd T rest w g q b) {now : Int} (hw' : tickB now = true) (ht : b.tr < 10000000) : Calls Tryz.prog 68 #[.pointer (some ⟨g, 0, none⟩), .int .i64 now] w (SaysPost T rest w g q b now) := by
 cases how : b.ow with
 | true => exact bsays_true h hw' ht how
 | false => exact bsays_false h hw' ht how
end
def Tl (w : World) (base gt : Nat) (r : Option Nat) (L : List Ov) : Prop := ∃ A n c, Vb 124 w gt [.slice A n c] ∧ Vo w base (.slice A n c) n L ∧ (Value.slice A n c).ownBlock = r ∧ base ≤ gt
section
variable {w w' : World} {base gt : Nat} {r : Option Nat} {L : List Ov} {S : Nat → Prop}
theorem Tl.stay (h : Tl w base gt r L) (hc : Ch S w w') (h1 : ¬ S gt) (h2 : ∀ k, r = some k → ¬ S k) : Tl w' base gt r L := by
 obtain ⟨A, n, c, hv, ho, hr, hb⟩ := h
 exact ⟨A, n, c, (hc.block gt hv.lt h1).trans hv, ho.stay hc (fun k e => h2 k (hr.symm.trans e)), hr, hb⟩
theorem Tl.below (h : Tl w base gt r L) (hb : Below w.heap.size w w') : Tl w' base gt r L := h.stay (S := fun _ => False) (.of_below hb) id (fun _ _ e => e)
theorem Tl.nob (h : Tl w base gt r L) : Nob w (fun k => k = gt ∨ r = some k) := by
 obtain ⟨A, n, c, hv, ho, hr, hb⟩ := h
 refine (nob_vb hv (by decide) (by decide)).or (fun k cs m e => ?_)
 obtain ⟨cur, hcur⟩ := ho.typed k (hr.trans e)
 have hvb : Vb 51 w k cur.toList := by simpa [Vb] using hcur
 exact nob_vb hvb (by decide) (by decide) k cs m rfl
theorem Tl.no (h : Tl w base gt r L) {T : TypeId} {rest : List Value} {g : Nat} {q : Bk} {b : Bo} (hb : Bd T rest w g q b) : (gt ≠ g ∧ ¬ q.own gt) ∧ ∀ k, r = some k → k ≠ g ∧ ¬ q.own k := by
 obtain ⟨A, n, c, hv, ho, hr, _⟩ := h
 refine ⟨⟨fun e => ?_, hb.bi.not (by decide) hv⟩, fun k e => ?_⟩
 ·have := vb_ne hv hb.own (by rcases hb.ty with e | e <;> rw [e] <;> decide)
  exact this e
 ·obtain ⟨cur, hcur⟩ := ho.typed k (hr.trans e)
  have hvb : Vb 51 w k cur.toList := by simpa [Vb] using hcur
  exact ⟨vb_ne hvb hb.own (fun e2 => (ty_ne hb.ty).2.2.2.2.1 e2.symm), hb.bi.not (by decide) hvb⟩
theorem Tl.ltr (h : Tl w base gt r L) : gt < w.heap.size ∧ (∀ k, r = some k → base ≤ k ∧ k < w.heap.size) ∧ base ≤ gt := by
 obtain ⟨A, n, c, hv, ho, hr, hb⟩ := h
 exact ⟨hv.lt, fun k e => ho.lt k (hr.trans e), hb⟩
end
theorem wp_load_vbS {T ty : TypeId} {w : World} {g off : Nat} {cs vs : List Value} {o : Oper} {a : Act} {K : Act → World → Prop} {Q : Exit → Act → World → Prop} (d : Option Tmp) (hd : o.dst = d) (x : Operand) (ho : o.op = .load ty x) (hx : a.eval x = .pointer (some ⟨g, off, none⟩)) (hv : Vb T w g cs) (hvs : (cs.drop off).take vs.length = vs) (ht : Agg ty vs.length)
  (h : K (a.put d (.agg vs.toArray)) w) : o.wp Tryz.prog a w K Q := by
 subst hd
 unfold Oper.wp
 rw [exec_load_vb x ho hx hv hvs ht]
 exact h
theorem tell_yes {w : World} {base gt : Nat} {r : Option Nat} {L : List Ov} (h : Tl w base gt r L) (hl : L.length ≤ 1000) (hbz : base ≤ w.heap.size) (o : OrdV) (A : Option Addr) (n c : Nat) (hk : (o.k != 0) = true) : Calls Tryz.prog 74 #[.pointer (some ⟨gt, 0, none⟩), (.agg #[.int .i64 o.k, .int .i64 o.n, .int .i64 o.m, .int .i64 o.r.k, .int .i64 o.r.pr, .int .i64 o.r.to, .int .i64 o.r.po, .int .i64 o.r.x.v, .int .i64 o.r.x.m, .int .u8 o.r.x.b0, .int .u8 o.r.x.b1, .int .u8 o.r.x.b2, .int .u8 o.r.x.i0, .int .u8 o.r.x.i1, .int .u8 o.r.x.i2, .slice A n c, .int .i64 o.f, .int .i64 o.p, .int .i64 o.t, .int .i64 o.q, .int .i64 o.z])] w fun en w' => en = .returned (.tuple #[]) ∧ ∃ r', Tl w' base gt r' (L ++ [⟨o, A, n, c⟩]) ∧ Ch (fun k => k = gt ∨ r = some k) w w' ∧ (r' = r ∨ ∀ k, r' = some k → w.heap.size ≤ k) := by
 obtain ⟨A0, n0, c0, hv, ho, hr, hbg⟩ := h
 have hb0 := below_alloc w (.cells #[.int .i64 o.k, .int .i64 o.n, .int .i64 o.m, .int .i64 o.r.k, .int .i64 o.r.pr, .int .i64 o.r.to, .int .i64 o.r.po, .int .i64 o.r.x.v, .int .i64 o.r.x.m, .int .u8 o.r.x.b0, .int .u8 o.r.x.b1, .int .u8 o.r.x.b2, .int .u8 o.r.x.i0, .int .u8 o.r.x.i1, .int .u8 o.r.x.i2, .slice A n c, .int .i64 o.f, .int .i64 o.p, .int .i64 o.t, .int .i64 o.q, .int .i64 o.z] 51)
 have hx0 : Vb 51 (w.alloc (.cells #[.int .i64 o.k, .int .i64 o.n, .int .i64 o.m, .int .i64 o.r.k, .int .i64 o.r.pr, .int .i64 o.r.to, .int .i64 o.r.po, .int .i64 o.r.x.v, .int .i64 o.r.x.m, .int .u8 o.r.x.b0, .int .u8 o.r.x.b1, .int .u8 o.r.x.b2, .int .u8 o.r.x.i0, .int .u8 o.r.x.i1, .int .u8 o.r.x.i2, .slice A n c, .int .i64 o.f, .int .i64 o.p, .int .i64 o.t, .int .i64 o.q, .int .i64 o.z] 51)) w.heap.size (ocl o (.slice A n c)) := Vb.new _ w (ocl o (.slice A n c))
 have hv0 := hv.below hb0 hv.lt
 have ho0 := ho.below hb0
 have HLT := Kp.mk (show gt < w.heap.size ∧ ∀ k, r = some k → k < w.heap.size from ⟨hv.lt, fun k e => (ho.lt k (hr.trans e)).2⟩)
 have HB0 := Kp.mk (And.intro hb0 (Nat.le_trans hbz hb0.size))
 have HL := Kp.mk (show n0 ≤ 1000 by have := ho.len; omega)
 have HR := Kp.mk hr
 have HBG := Kp.mk hbg
 clear hv ho hl hb0 hbz hr hbg
 go_enter Tryz.func74, Tryz.ntmps74
 go_upto_region 1 with fail
 obtain ⟨gx, hgx⟩ : ∃ gx, gx = w.heap.size := ⟨_, rfl⟩
 rw [← hgx] at hx0 HLT ⊢
 have HGX := Kp.mk hgx
 clear hgx
 generalize w.alloc (.cells #[.int .i64 o.k, .int .i64 o.n, .int .i64 o.m, .int .i64 o.r.k, .int .i64 o.r.pr, .int .i64 o.r.to, .int .i64 o.r.po, .int .i64 o.r.x.v, .int .i64 o.r.x.m, .int .u8 o.r.x.b0, .int .u8 o.r.x.b1, .int .u8 o.r.x.b2, .int .u8 o.r.x.i0, .int .u8 o.r.x.i1, .int .u8 o.r.x.i2, .slice A n c, .int .i64 o.f, .int .i64 o.p, .int .i64 o.t, .int .i64 o.q, .int .i64 o.z] 51) = w0 at *
 have k0 := hx0.cell 0 rfl
 go_upto_region 2 with fail
 refine wp_region_held_drew (S := fun _ => True) (by kernel_rfl) trivial (fun _ => ?_)
 have hx1 : Vb 51 w0.drew gx (ocl o (.slice A n c)) := hx0
 have hv1 : Vb 124 w0.drew gt [.slice A0 n0 c0] := hv0
 have ho1 : Vo w0.drew base (.slice A0 n0 c0) n0 L := ho0.below (Below.refl _ _).drew
 have HB1 := Kp.mk (show Below w.heap.size w w0.drew ∧ base ≤ w0.drew.heap.size from ⟨HB0.out.1.drew, HB0.out.2⟩)
 clear hx0 hv0 ho0 HB0 k0
 generalize w0.drew = u at *
 have hb2 := below_alloc u (.cells #[.int .i64 o.k, .int .i64 o.n, .int .i64 o.m, .int .i64 o.r.k, .int .i64 o.r.pr, .int .i64 o.r.to, .int .i64 o.r.po, .int .i64 o.r.x.v, .int .i64 o.r.x.m, .int .u8 o.r.x.b0, .int .u8 o.r.x.b1, .int .u8 o.r.x.b2, .int .u8 o.r.x.i0, .int .u8 o.r.x.i1, .int .u8 o.r.x.i2, .slice A n c, .int .i64 o.f, .int .i64 o.p, .int .i64 o.t, .int .i64 o.q, .int .i64 o.z] 51)
 have hV2 : Vb 51 (u.alloc (.cells #[.int .i64 o.k, .int .i64 o.n, .int .i64 o.m, .int .i64 o.r.k, .int .i64 o.r.pr, .int .i64 o.r.to, .int .i64 o.r.po, .int .i64 o.r.x.v, .int .i64 o.r.x.m, .int .u8 o.r.x.b0, .int .u8 o.r.x.b1, .int .u8 o.r.x.b2, .int .u8 o.r.x.i0, .int .u8 o.r.x.i1, .int .u8 o.r.x.i2, .slice A n c, .int .i64 o.f, .int .i64 o.p, .int .i64 o.t, .int .i64 o.q, .int .i64 o.z] 51)) u.heap.size (ocl o (.slice A n c)) := Vb.new _ u (ocl o (.slice A n c))
 have hv2 := hv1.below hb2 hv1.lt
 obtain ⟨A9, c9, u9, hrun, hO9, hC9, hat⟩ := Vo.push Tryz.underlying124 124 ⟨o, A, n, c⟩ (ho1.below hb2) (g2 := u.heap.size) (fun j z hz => hV2.cell j hz) (by have := HL.out; omega) (Nat.le_trans HB1.out.2 hb2.size)
 have hown : ∀ k, (Value.slice A0 n0 c0).ownBlock = some k → k < gx ∧ k ≠ gt := fun k e => ⟨HLT.out.2 k (HR.out ▸ e), by
  obtain ⟨cur, hcur⟩ := ho1.typed k e
  have hvb : Vb 51 u k cur.toList := by simpa [Vb] using hcur
  exact vb_ne hvb hv1 (by decide)⟩
 have hv9 : Vb 124 u9 gt [.slice A0 n0 c0] := (hC9.block gt hv2.lt (fun e => (hown gt e).2 rfl)).trans hv2
 have f9 := hv9.free 0
 have d9 := hv9.cell 0 rfl
 have hc3 : Ch (fun k => k = gt) u9 (u9.setCell ⟨gt, 0, none⟩ (.slice A9 (n0 + 1) c9)) := .of_grown (grownBy_set u9 gt 0 _)
 have hv3 : Vb 124 (u9.setCell ⟨gt, 0, none⟩ (.slice A9 (n0 + 1) c9)) gt [.slice A9 (n0 + 1) c9] := hv9.set 0 _
 have ho3 := hO9.stay hc3 (fun k e e2 => by
  obtain ⟨cur, hcur⟩ := hO9.typed k e
  have hvb : Vb 51 u9 k cur.toList := by simpa [Vb] using hcur
  exact vb_ne hvb hv9 (by decide) e2)
 have HCC := Kp.mk ((((Ch.of_below (S := fun k => k = gt ∨ r = some k) HB1.out.1).trans (Ch.of_below (S := fun k => k = gt ∨ r = some k) hb2) (fun _ _ e => e)).trans hC9 (fun k _ e => Or.inr (HR.out ▸ e))).trans hc3 (fun k _ e => Or.inl e))
 have HAT := Kp.mk (show (Value.slice A9 (n0 + 1) c9).ownBlock = r ∨ ∀ k, (Value.slice A9 (n0 + 1) c9).ownBlock = some k → w.heap.size ≤ k from hat.imp (fun e => e.trans HR.out) (fun e k hk => by have := e k hk; have := HB1.out.1.size; have := hb2.size; omega))
 have e0 := hv1.cell 0 rfl
 have e2 := hv2.cell 0 rfl
 have HE := Kp.mk (show ∀ w9, w9 = (u9.setCell ⟨gt, 0, none⟩ (.slice A9 (n0 + 1) c9)) → ∃ r', Tl w9 base gt r' (L ++ [⟨o, A, n, c⟩]) ∧ Ch (fun k => k = gt ∨ r = some k) w w9 ∧ (r' = r ∨ ∀ k, r' = some k → w.heap.size ≤ k) from fun w9 e => by
  subst e
  exact ⟨_, ⟨A9, n0 + 1, c9, hv3, ho3, rfl, HBG.out⟩, HCC.out, HAT.out⟩)
 clear hb2 hV2 hO9 hC9 hat hown hc3 hv3 ho3 HCC HAT ho1 HB1 HLT
 refine tD 0 (.pointer (some ⟨gt, 0, none⟩)) 7 rfl rfl trivial (fun _ _ => by go_simp) ?_
 try simp only [Act.put, zA, zB, zC]
 refine tD 1 (.pointer (some ⟨gt, 0, none⟩)) 8 rfl rfl trivial (fun _ _ => by go_simp) ?_
 try simp only [Act.put, zA, zB, zC]
 refine tD 2 (.pointer (some ⟨gt, 0, none⟩)) 9 rfl rfl trivial (fun _ _ => by go_simp) ?_
 try simp only [Act.put, zA, zB, zC]
 refine wpAnyH_ready (rs := [3, 4]) (by kernel_rfl) (by simp) ?_
 refine AllReadyH.cons rfl (fun K hK => ?_) (AllReadyH.cons rfl (fun K hK => ?_) AllReadyH.nil)
 ·skip
  try rw [if_pos (by rfl)]
  go_simp
  refine hK.out _ _ trivial (fun _ => ?_)
  clear hK K
  try simp only [Act.put, zA, zB, zC]
  refine rD 4 rfl fun K hK => ?_
  try rw [if_pos (by rfl)]
  refine wp_load_vbS (vs := ([.int .i64 o.k, .int .i64 o.n, .int .i64 o.m, .int .i64 o.r.k, .int .i64 o.r.pr, .int .i64 o.r.to, .int .i64 o.r.po, .int .i64 o.r.x.v, .int .i64 o.r.x.m, .int .u8 o.r.x.b0, .int .u8 o.r.x.b1, .int .u8 o.r.x.b2, .int .u8 o.r.x.i0, .int .u8 o.r.x.i1, .int .u8 o.r.x.i2, .slice A n c, .int .i64 o.f, .int .i64 o.p, .int .i64 o.t, .int .i64 o.q, .int .i64 o.z] : List Value)) (some 11) rfl (.tmp 3) rfl rfl hx1 rfl agg_order ?_
  refine hK.out _ _ trivial (fun _ => ?_)
  clear hK K
  try simp only [Act.put, zA, zB, zC]
  refine rD 5 rfl fun K hK => ?_
  try rw [if_pos (by rfl)]
  go_simp
  refine hK.out _ _ trivial (fun _ => ?_)
  clear hK K
  try simp only [Act.put, zA, zB, zC]
  refine rD 6 rfl fun K hK => ?_
  try rw [if_pos (by rfl)]
  refine sndOp_append (.tmp 10) (.tmp 12) rfl rfl rfl hrun (hK.out _ _ trivial (fun _ => ?_))
  clear hK K hrun
  try simp only [Act.put, zA, zB, zC]
  refine tD 7 (.pointer (some ⟨gt, 0, none⟩)) 14 rfl rfl trivial (fun _ _ => by go_simp) ?_
  try simp only [Act.put, zA, zB, zC]
  refine rD 8 rfl fun K hK => ?_
  try rw [if_pos (by rfl)]
  go_simp
  refine hK.out _ _ trivial (fun _ => ?_)
  clear hK K
  try simp only [Act.put, zA, zB, zC]
  refine wpAnyH_done (by kernel_rfl) ?_ _
  go_wp2_with fail
  go_end0
  exact ⟨rfl, HE.out _ rfl⟩
 ·skip
  try rw [if_pos (by rfl)]
  refine wp_load_vbS (vs := ([.int .i64 o.k, .int .i64 o.n, .int .i64 o.m, .int .i64 o.r.k, .int .i64 o.r.pr, .int .i64 o.r.to, .int .i64 o.r.po, .int .i64 o.r.x.v, .int .i64 o.r.x.m, .int .u8 o.r.x.b0, .int .u8 o.r.x.b1, .int .u8 o.r.x.b2, .int .u8 o.r.x.i0, .int .u8 o.r.x.i1, .int .u8 o.r.x.i2, .slice A n c, .int .i64 o.f, .int .i64 o.p, .int .i64 o.t, .int .i64 o.q, .int .i64 o.z] : List Value)) (some 11) rfl (.tmp 3) rfl rfl hx1 rfl agg_order ?_
  refine hK.out _ _ trivial (fun _ => ?_)
  clear hK K
  try simp only [Act.put, zA, zB, zC]
  refine wpAnyH_ready (rs := [3, 5]) (by kernel_rfl) (by simp) ?_
  refine AllReadyH.cons rfl (fun K hK => ?_) (AllReadyH.cons rfl (fun K hK => ?_) AllReadyH.nil)
  ·skip
   try rw [if_pos (by rfl)]
   go_simp
   refine hK.out _ _ trivial (fun _ => ?_)
   clear hK K
   try simp only [Act.put, zA, zB, zC]
   refine rD 5 rfl fun K hK => ?_
   try rw [if_pos (by rfl)]
   go_simp
   refine hK.out _ _ trivial (fun _ => ?_)
   clear hK K
   try simp only [Act.put, zA, zB, zC]
   refine rD 6 rfl fun K hK => ?_
   try rw [if_pos (by rfl)]
   refine sndOp_append (.tmp 10) (.tmp 12) rfl rfl rfl hrun (hK.out _ _ trivial (fun _ => ?_))
   clear hK K hrun
   try simp only [Act.put, zA, zB, zC]
   refine tD 7 (.pointer (some ⟨gt, 0, none⟩)) 14 rfl rfl trivial (fun _ _ => by go_simp) ?_
   try simp only [Act.put, zA, zB, zC]
   refine rD 8 rfl fun K hK => ?_
   try rw [if_pos (by rfl)]
   go_simp
   refine hK.out _ _ trivial (fun _ => ?_)
   clear hK K
   try simp only [Act.put, zA, zB, zC]
   refine wpAnyH_done (by kernel_rfl) ?_ _
   go_wp2_with fail
   go_end0
   exact ⟨rfl, HE.out _ rfl⟩
  ·skip
   try rw [if_pos (by rfl)]
   go_simp
   refine hK.out _ _ trivial (fun _ => ?_)
   clear hK K
   try simp only [Act.put, zA, zB, zC]
   refine rD 3 rfl fun K hK => ?_
   try rw [if_pos (by rfl)]
   go_simp
   refine hK.out _ _ trivial (fun _ => ?_)
   clear hK K
   try simp only [Act.put, zA, zB, zC]
   refine rD 6 rfl fun K hK => ?_
   try rw [if_pos (by rfl)]
   refine sndOp_append (.tmp 10) (.tmp 12) rfl rfl rfl hrun (hK.out _ _ trivial (fun _ => ?_))
   clear hK K hrun
   try simp only [Act.put, zA, zB, zC]
   refine tD 7 (.pointer (some ⟨gt, 0, none⟩)) 14 rfl rfl trivial (fun _ _ => by go_simp) ?_
   try simp only [Act.put, zA, zB, zC]
   refine rD 8 rfl fun K hK => ?_
   try rw [if_pos (by rfl)]
   go_simp
   refine hK.out _ _ trivial (fun _ => ?_)
   clear hK K
   try simp only [Act.put, zA, zB, zC]
   refine wpAnyH_done (by kernel_rfl) ?_ _
   go_wp2_with fail
   go_end0
   exact ⟨rfl, HE.out _ rfl⟩
theorem tell_no {w : World} {a : Option Addr} (o : OrdV) (A : Option Addr) (n c : Nat) (hk : (o.k != 0) = false) : Calls Tryz.prog 74 #[.pointer a, (.agg #[.int .i64 o.k, .int .i64 o.n, .int .i64 o.m, .int .i64 o.r.k, .int .i64 o.r.pr, .int .i64 o.r.to, .int .i64 o.r.po, .int .i64 o.r.x.v, .int .i64 o.r.x.m, .int .u8 o.r.x.b0, .int .u8 o.r.x.b1, .int .u8 o.r.x.b2, .int .u8 o.r.x.i0, .int .u8 o.r.x.i1, .int .u8 o.r.x.i2, .slice A n c, .int .i64 o.f, .int .i64 o.p, .int .i64 o.t, .int .i64 o.q, .int .i64 o.z])] w fun en w' => en = .returned (.tuple #[]) ∧ Below w.heap.size w w' := by
 have hb0 := below_alloc w (.cells #[.int .i64 o.k, .int .i64 o.n, .int .i64 o.m, .int .i64 o.r.k, .int .i64 o.r.pr, .int .i64 o.r.to, .int .i64 o.r.po, .int .i64 o.r.x.v, .int .i64 o.r.x.m, .int .u8 o.r.x.b0, .int .u8 o.r.x.b1, .int .u8 o.r.x.b2, .int .u8 o.r.x.i0, .int .u8 o.r.x.i1, .int .u8 o.r.x.i2, .slice A n c, .int .i64 o.f, .int .i64 o.p, .int .i64 o.t, .int .i64 o.q, .int .i64 o.z] 51)
 have hx0 : Vb 51 (w.alloc (.cells #[.int .i64 o.k, .int .i64 o.n, .int .i64 o.m, .int .i64 o.r.k, .int .i64 o.r.pr, .int .i64 o.r.to, .int .i64 o.r.po, .int .i64 o.r.x.v, .int .i64 o.r.x.m, .int .u8 o.r.x.b0, .int .u8 o.r.x.b1, .int .u8 o.r.x.b2, .int .u8 o.r.x.i0, .int .u8 o.r.x.i1, .int .u8 o.r.x.i2, .slice A n c, .int .i64 o.f, .int .i64 o.p, .int .i64 o.t, .int .i64 o.q, .int .i64 o.z] 51)) w.heap.size (ocl o (.slice A n c)) := Vb.new _ w (ocl o (.slice A n c))
 have HB0 := Kp.mk hb0
 have k0 := hx0.cell 0 rfl
 clear hb0 hx0
 go_enter Tryz.func74, Tryz.ntmps74
 go_upto_region 1 with fail
 generalize w.alloc (.cells #[.int .i64 o.k, .int .i64 o.n, .int .i64 o.m, .int .i64 o.r.k, .int .i64 o.r.pr, .int .i64 o.r.to, .int .i64 o.r.po, .int .i64 o.r.x.v, .int .i64 o.r.x.m, .int .u8 o.r.x.b0, .int .u8 o.r.x.b1, .int .u8 o.r.x.b2, .int .u8 o.r.x.i0, .int .u8 o.r.x.i1, .int .u8 o.r.x.i2, .slice A n c, .int .i64 o.f, .int .i64 o.p, .int .i64 o.t, .int .i64 o.q, .int .i64 o.z] 51) = w0 at *
 go_wp2_with fail
 go_end0
 exact ⟨rfl, HB0.out⟩
theorem ack_zero {nx : Int} {said : Nat} {ack : Int} (h0 : 0 ≤ nx ∧ nx ≤ 65535) (h : ackP nx said ack = 0) : ack = nx := by
 unfold ackP Ser.atP at h
 split at h
 ·split at h
  ·omega
  ·omega
 ·omega
section
variable {w w' : World} {q : Bk} {b : Bo} {S : Nat → Prop} {T : TypeId} {g : Nat} {rest : List Value}
theorem Bi.sender (h : Bi w q b) {b' : Bo} (hc : Ch (Kb q.s q.c q.r) w w') (hs : Sp (fun _ => True) w' q.s q.c 4 b'.nx b'.said b'.all q.r b'.ms) (e : b'.ix = b.ix ∧ b'.q1 = b.q1 ∧ b'.q2 = b.q2 ∧ b'.q3 = b.q3 ∧ b'.a = b.a ∧ b'.tr = b.tr) (hm : ∀ m ∈ b'.ms, m ∈ b.ms) : Bi w' q b' := by
 obtain ⟨p1, p2, p3, hi, k1, k2, k3⟩ := h.ib
 have hn := h.nob.mono (S' := Kb q.s q.c q.r) (fun k e => .inl e)
 have hap := h.apart
 have hz := h.bt.own
 have hbt : Bt w' q.z 4 32 b.a b.tr := ⟨(hc.block _ hz.lt (fun e => (hap.1 _ e).2.2 rfl)).trans hz, h.bt.r1, h.bt.r2, h.bt.r3⟩
 refine ⟨hs, ⟨p1, p2, p3, ?_, ?_, ?_, ?_⟩, ?_, fun m hm2 => h.by_ m (hm m hm2), by rw [e.2.2.2.2.2]; exact h.tr⟩
 ·rw [e.1]; exact Mo.Ib.stay hi hc (fun e => (hap.1 _ e).1 rfl) (fun e => (hap.1 _ e).2.1 rfl)
 ·rw [e.2.1]; exact k1.stay hc hn
 ·rw [e.2.2.1]; exact k2.stay hc hn
 ·rw [e.2.2.2.1]; exact k3.stay hc hn
 ·rw [e.2.2.2.2.1, e.2.2.2.2.2]; exact hbt
theorem Bi.heardN (h : Bi w q b) {ack : Int} (hk : ¬ 0 < ackP b.nx b.said ack) : Calls Tryz.prog 163 #[.pointer (some ⟨q.s, 0, none⟩), .int .i64 ack] w fun en w' => ∃ er, en = .returned (.tuple #[.int .i64 0, .int .i64 er]) ∧ Bi w' q b ∧ Ch q.own w w' := by
 have hb := ackP_bd b.nx b.said ack
 rcases (show ackP b.nx b.said ack = -1 ∨ ackP b.nx b.said ack = 0 by omega) with h1 | h1
 ·exact (sheard_no h.sp h1).mono fun en w' ⟨e, hb⟩ => ⟨9, e, h.below hb, .of_below hb⟩
 ·have e0 := ack_zero h.sp.nxb h1
  exact (sheard_yes h.sp (k := 0) (by rw [h1]; rfl)).mono fun en w' ⟨e, hs, hc⟩ => ⟨0, e, h.sender hc (by rw [e0] at hs; simpa using hs) ⟨rfl, rfl, rfl, rfl, rfl, rfl⟩ (fun _ e => e), hc.mono (fun k _ e => .inl e)⟩
def Bo.hear (b : Bo) (ack : Int) : Bo := { b with nx := ack, said := b.said - (ackP b.nx b.said ack).toNat, ms := b.ms.drop (ackP b.nx b.said ack).toNat }
theorem Bi.heardY (h : Bi w q b) {ack : Int} (hk : 0 < ackP b.nx b.said ack) : Calls Tryz.prog 163 #[.pointer (some ⟨q.s, 0, none⟩), .int .i64 ack] w fun en w' => en = .returned (.tuple #[.int .i64 (ackP b.nx b.said ack), .int .i64 0]) ∧ Bi w' q (b.hear ack) ∧ Ch q.own w w' := by
 obtain ⟨k, hkk⟩ : ∃ k : Nat, ackP b.nx b.said ack = k := ⟨(ackP b.nx b.said ack).toNat, by omega⟩
 refine (sheard_yes h.sp hkk).mono fun en w' ⟨e, hs, hc⟩ => ⟨by rw [hkk]; exact e, h.sender hc ?_ ⟨rfl, rfl, rfl, rfl, rfl, rfl⟩ ?_, hc.mono (fun k _ e => .inl e)⟩
 ·unfold Bo.hear
  rw [hkk]
  exact hs
 ·intro m hm
  exact List.mem_of_mem_drop hm
theorem bhack_any (h : Bd T rest w g q b) (ack : Int) {now : Int} (hn : tickB now = true) : Calls Tryz.prog 116 #[.pointer (some ⟨g, 0, none⟩), .int .i64 ack, .int .i64 now] w fun en w' => en = .returned (.tuple #[]) ∧ Bd T rest w' g q (b.heard ack now) ∧ Ch q.own w w' := by
 have c3 := h.own.cell 3 rfl
 by_cases hk : 0 < ackP b.nx b.said ack
 ·have hh := h.bi.heardY hk
  have HK := Kp.mk hk
  have hne : (ackP b.nx b.said ack == 0) = false := by simp; omega
  generalize hA : ackP b.nx b.said ack = ak at *
  have HA := Kp.mk hA
  have H := Kp.mk h
  clear hA hk h
  go_enter Tryz.func116, Tryz.ntmps116
  go_wp2_with fail
  refine hh.mono ?_
  rintro en w1 ⟨rfl, hB1, hC1⟩
  have h1 := H.out.of hB1 hC1 (fun _ e => e) ⟨rfl, rfl, rfl, rfl⟩
  have hs1 := hB1.stop
  have c5 := h1.own.cell 5 rfl
  have H1 := Kp.mk h1
  have HC1 := Kp.mk hC1
  clear h1 hB1 hC1 H hh c3
  go_wp2_with fail
  refine hs1.mono ?_
  rintro en w2 ⟨rfl, hB2, hC2⟩
  have hz2 : ∀ k, k = q.z → q.own k := fun k e => .inr (.inr (.inr e))
  have h2 := H1.out.of hB2 hC2 hz2 ⟨rfl, rfl, rfl, rfl⟩
  have HC2 := Kp.mk (HC1.out.trans hC2 (fun k _ e => hz2 k e))
  have hsd := ssaid_any hB2.sp
  have c3 := h2.own.cell 3 rfl
  have c5 := h2.own.cell 5 rfl
  have HB2 := Kp.mk hB2
  have H2 := Kp.mk h2
  clear hs1 hB2 hC2 h2 H1 HC1
  have HSD := Kp.mk (show (b.hear ack).said = b.said - ak.toNat by unfold Bo.hear; rw [HA.out])
  by_cases hl : ak.toNat < b.said
  ·have hg : ((({ b.hear ack with a := 0, tr := 0 } : Bo).said : Nat) : Int) = ((b.said - ak.toNat : Nat) : Int) := by rw [← HSD.out]
   rw [hg] at hsd
   have hg2 : decide (((b.said - ak.toNat : Nat) : Int) > 0) = true := decide_eq_true (by omega)
   have HE := Kp.mk (show b.heard ack now = { b.hear ack with a := now + 4, tr := 0 } by unfold Bo.heard Bo.hear; rw [HA.out, if_pos HK.out, if_pos hl])
   clear hg hl
   generalize b.said - ak.toNat = sd at *
   have hst := HB2.out.start hn
   have hg3 : (0 : Int) < sd := by simpa using hg2
   go_wp2_with fail
   refine hsd.mono ?_
   rintro en w3 ⟨rfl, hw3⟩
   replace hw3 := hw3.symm
   subst hw3
   go_wp2_with fail
   refine hst.mono ?_
   rintro en w4 ⟨rfl, hB4, hC4⟩
   have h4 := H2.out.of hB4 hC4 hz2 ⟨rfl, rfl, rfl, rfl⟩
   have HC4 := Kp.mk (HC2.out.trans hC4 (fun k _ e => hz2 k e))
   have H4 := Kp.mk h4
   clear h4 hB4 hC4 c3 c5 hsd hst
   go_wp2_with fail
   go_end0
   exact ⟨rfl, by rw [HE.out]; exact H4.out, HC4.out⟩
  ·have hg : ((({ b.hear ack with a := 0, tr := 0 } : Bo).said : Nat) : Int) = 0 := by
    show (((b.hear ack).said : Nat) : Int) = 0
    rw [HSD.out]; omega
   rw [hg] at hsd
   have HE := Kp.mk (show b.heard ack now = { b.hear ack with a := 0, tr := 0 } by unfold Bo.heard Bo.hear; rw [HA.out, if_pos HK.out, if_neg hl])
   clear hg hl
   go_wp2_with fail
   refine hsd.mono ?_
   rintro en w3 ⟨rfl, hw3⟩
   replace hw3 := hw3.symm
   subst hw3
   clear c3 c5 hsd
   go_wp2_with fail
   go_end0
   exact ⟨rfl, by rw [HE.out]; exact H2.out, HC2.out⟩
 ·have hh := h.bi.heardN hk
  have HE := Kp.mk (show b.heard ack now = b from if_neg hk)
  have H := Kp.mk h
  clear hk h
  go_enter Tryz.func116, Tryz.ntmps116
  go_wp2_with fail
  refine hh.mono ?_
  rintro en w1 ⟨er, rfl, hB1, hC1⟩
  have H1 := Kp.mk (H.out.of hB1 hC1 (fun _ e => e) ⟨rfl, rfl, rfl, rfl⟩)
  have HC1 := Kp.mk hC1
  clear hB1 hC1 H hh c3
  go_wp2_with fail
  refine bodyPost_ret (results_none rfl _ _ _) rfl ?_
  exact ⟨rfl, by rw [HE.out]; exact H1.out, HC1.out⟩
end
theorem run_loadAt {ty : TypeId} {w : World} {ad : Addr} {vs : List Value} (hc : ∀ j v, vs[j]? = some v → w.cell? (ad.add j) = some v) (ht : Agg ty vs.length) : (loadVar ty ad).run Tryz.prog w = .ok (.agg vs.toArray) w := by
 obtain ⟨⟨d, hu, hd⟩, hi⟩ := ht
 have hl : (loadCells ad vs.length).run Tryz.prog w = .ok vs.toArray w := run_loadCells_list (P := Tryz.prog) w ad vs hc
 cases hq : Tryz.prog.info? ty with
 | none => simp [hq] at hi
 | some i =>
  have hs : i.size = vs.length := by simpa [hq] using hi
  have hagg : (isAgg ty).run Tryz.prog w = .ok true w := by
   unfold isAgg
   rw [Sem.run_bind, run_underlying hu w]
   cases d <;> simp_all
  simp [loadVar, Sem.run_bind, hagg, sizeOf, typeInfo, hq, hs, hl]
theorem wpList_load_at {ty : TypeId} {w : World} {g off : Nat} {vs : List Value} {ops : Array Oper} {rest : List Oper} {o : Oper} {a : Act} {Q : Exit → Act → World → Prop} (hgd : o.guard = none) (x : Operand) (ho : o.op = .load ty x) (hx : a.eval x = .pointer (some ⟨g, off, none⟩)) (hc : ∀ i u, vs[i]? = some u → w.cell? ⟨g, off + i, none⟩ = some u) (ht : Agg ty vs.length)
  (h : wpList Tryz.prog ops Q rest (a.put o.dst (.agg vs.toArray)) w) : wpList Tryz.prog ops Q (o :: rest) a w := by
 refine wpList_plain hgd fun K hK => ?_
 unfold Oper.wp execOp
 simp only [ho, hx, Instr.loadAt, Instr.sureAddr, Sem.run_bind, Sem.run_pure, Result.andThen_ok, run_loadAt (fun j v hj => by rw [add_addr]; exact hc j v hj) ht]
 exact hK _ _ h
def RunsO (w : World) : List Ov → List (List Int) → Prop
 | [], [] => True
 | y :: ys, l :: ls => (y.o = (parseO l).1 ∧ y.ok w) ∧ RunsO w ys ls
 | [], _ :: _ => False
 | _ :: _, [] => False
theorem RunsO.stay {w w' : World} {S : Nat → Prop} (hc : Ch S w w') (hn : Nob w S) : ∀ {xs : List Ov} {L : List (List Int)}, RunsO w xs L → RunsO w' xs L
 | [], [], h => trivial
 | y :: ys, l :: ls, h => ⟨⟨h.1.1, h.1.2.stay hc hn⟩, RunsO.stay hc hn h.2⟩
 | [], _ :: _, h => h.elim
 | _ :: _, [], h => h.elim
theorem RunsO.len {w : World} : ∀ {xs : List Ov} {L : List (List Int)}, RunsO w xs L → xs.length = L.length
 | [], [], h => rfl
 | y :: ys, l :: ls, h => by simp [RunsO.len h.2]
 | [], _ :: _, h => h.elim
 | _ :: _, [], h => h.elim
theorem RunsO.tells {w : World} : ∀ {xs : List Ov} {L : List (List Int)}, RunsO w xs L → (xs.filter fun y => y.o.k != 0).map Ov.o = tells L
 | [], [], h => rfl
 | y :: ys, l :: ls, h => by
  have ih := RunsO.tells h.2
  unfold Oct.tells at ih ⊢
  rw [List.filter_cons, List.map_cons, List.filter_cons, ← h.1.1]
  split
  ·rw [List.map_cons, ih]
  ·exact ih
 | [], _ :: _, h => h.elim
 | _ :: _, [], h => h.elim
theorem RunsO.ok {w : World} : ∀ {xs : List Ov} {L : List (List Int)}, RunsO w xs L → ∀ y ∈ xs, y.ok w
 | [], [], h => fun y hy => by simp at hy
 | y :: ys, l :: ls, h => fun z hz => by
  rcases List.mem_cons.1 hz with e | e
  ·rw [e]; exact h.1.2
  ·exact RunsO.ok h.2 z e
 | [], _ :: _, h => h.elim
 | _ :: _, [], h => h.elim
theorem kv_fol {w : World} {p1 p2 p3 : Option Ov} {q1 q2 q3 : Option (List Int)} (h1 : Kv w p1 q1) (h2 : Kv w p2 q2) (h3 : Kv w p3 q3) :
  RunsO w (folG p1 p2 p3) (folG q1 q2 q3) ∧ Kv w (rstG p1 p2 p3).1 (rstG q1 q2 q3).1 ∧ Kv w (rstG p1 p2 p3).2.1 (rstG q1 q2 q3).2.1 ∧ Kv w (rstG p1 p2 p3).2.2 (rstG q1 q2 q3).2.2 := by
 cases q1 with
 | none =>
  have e1 : p1 = none := h1
  subst e1
  exact ⟨trivial, h2, h3, rfl⟩
 | some l1 =>
  obtain ⟨y1, e1, k1⟩ := h1
  subst e1
  cases q2 with
  | none =>
   have e2 : p2 = none := h2
   subst e2
   exact ⟨⟨k1, trivial⟩, h3, rfl, rfl⟩
  | some l2 =>
   obtain ⟨y2, e2, k2⟩ := h2
   subst e2
   cases q3 with
   | none =>
    have e3 : p3 = none := h3
    subst e3
    exact ⟨⟨k1, k2, trivial⟩, rfl, rfl, rfl⟩
   | some l3 =>
    obtain ⟨y3, e3, k3⟩ := h3
    subst e3
    exact ⟨⟨k1, k2, k3, trivial⟩, rfl, rfl, rfl⟩
theorem kv_or {w : World} {p : Option Ov} {q : Option (List Int)} {y : Ov} {l : List Int} (h : Kv w p q) (hy : y.o = (parseO l).1 ∧ y.ok w) : Kv w (some (p.getD y)) (Bo.orE q l) := by
 cases q with
 | none =>
  have e : p = none := h
  subst e
  exact ⟨y, rfl, hy⟩
 | some l1 =>
  obtain ⟨y1, e1, k1⟩ := h
  subst e1
  exact ⟨y1, rfl, k1⟩
section
variable {w w' : World} {q : Bk} {b : Bo} {S : Nat → Prop} {T : TypeId} {g : Nat} {rest : List Value}
theorem Bi.inbox (h : Bi w q b) {b' : Bo} (hc : Ch (fun k => k = q.x ∨ k = q.m) w w') (hi : ∃ p1 p2 p3, Io w' q.x q.m b'.ix p1 p2 p3 ∧ Kv w' p1 b'.q1 ∧ Kv w' p2 b'.q2 ∧ Kv w' p3 b'.q3) (e : b'.nx = b.nx ∧ b'.said = b.said ∧ b'.all = b.all ∧ b'.ms = b.ms ∧ b'.a = b.a ∧ b'.tr = b.tr) : Bi w' q b' := by
 have hs : ∀ k, (k = q.x ∨ k = q.m) → q.own k := fun k e => .inr (e.elim .inl (fun e => .inr (.inl e)))
 have hn := h.nob.mono hs
 have hap := h.apart
 have hz := h.bt.own
 have hsp := h.sp.stay hc (fun k e e2 => e2.elim (hap.1 k e).1 (hap.1 k e).2.1) (fun k cs m _ _ hb e => (hn k cs m e).1 hb)
 have hbt : Bt w' q.z 4 32 b.a b.tr := ⟨(hc.block _ hz.lt (fun e => e.elim (fun e => hap.2.2.1 e.symm) (fun e => hap.2.2.2 e.symm))).trans hz, h.bt.r1, h.bt.r2, h.bt.r3⟩
 refine ⟨?_, hi, ?_, ?_, ?_⟩
 ·rw [e.1, e.2.1, e.2.2.1, e.2.2.2.1]; exact hsp
 ·rw [e.2.2.2.2.1, e.2.2.2.2.2]; exact hbt
 ·rw [e.2.2.2.1]; exact h.by_
 ·rw [e.2.2.2.2.2]; exact h.tr
theorem Bi.take (h : Bi w q b) {o : OrdV} {A : Option Addr} {n c : Nat} {l : List Int} (hy : o = (parseO l).1 ∧ (⟨o, A, n, c⟩ : Ov).ok w) {s : Int} (h0 : 0 ≤ s) (h1 : s ≤ 65535) : Calls Tryz.prog 165 #[.pointer (some ⟨q.x, 0, none⟩), .int .i64 s, (.agg #[.int .i64 o.k, .int .i64 o.n, .int .i64 o.m, .int .i64 o.r.k, .int .i64 o.r.pr, .int .i64 o.r.to, .int .i64 o.r.po, .int .i64 o.r.x.v, .int .i64 o.r.x.m, .int .u8 o.r.x.b0, .int .u8 o.r.x.b1, .int .u8 o.r.x.b2, .int .u8 o.r.x.i0, .int .u8 o.r.x.i1, .int .u8 o.r.x.i2, .slice A n c, .int .i64 o.f, .int .i64 o.p, .int .i64 o.t, .int .i64 o.q, .int .i64 o.z])] w fun en w' => ∃ A' m c' er xs, en = .returned (.tuple #[.slice A' m c', .int .i64 er]) ∧ Vo w' w.heap.size (.slice A' m c') m xs ∧ m ≤ 4 ∧ RunsO w' xs (b.runs s l) ∧ Bi w' q (b.took s l) ∧ Ch (fun k => k = q.x ∨ k = q.m) w w' := by
 obtain ⟨p1, p2, p3, hi, k1, k2, k3⟩ := h.ib
 have hs : ∀ k, (k = q.x ∨ k = q.m) → q.own k := fun k e => .inr (e.elim .inl (fun e => .inr (.inl e)))
 have hn := h.nob.mono hs
 have r0 := hi.r0
 have r1 := hi.r1
 by_cases f0 : b.far s = 0
 ·have es : s = b.ix := by unfold Bo.far at f0; omega
  have hfol := kv_fol k1 k2 k3
  subst es
  refine (otake_tell hi o A n c).mono fun en w' ⟨A', m, c', e, hm, hV, hI, hC⟩ => ⟨A', m, c', 0, _, e, hV, by have := folG_le p1 p2 p3; omega, ?_, ?_, hC⟩
  ·unfold Bo.runs
   rw [if_pos f0]
   exact ⟨⟨hy.1, hy.2.stay hC hn⟩, hfol.1.stay hC hn⟩
  ·have hl := hfol.1.len
   refine h.inbox hC ?_ ?_
   ·unfold Bo.took
    rw [if_pos f0]
    refine ⟨_, _, _, ?_, hfol.2.1.stay hC hn, hfol.2.2.1.stay hC hn, hfol.2.2.2.stay hC hn⟩
    rw [← hl, ← hm]
    exact hI
   ·unfold Bo.took
    rw [if_pos f0]
    exact ⟨rfl, rfl, rfl, rfl, rfl, rfl⟩
 ·have hr : b.runs s l = [] := if_neg f0
  rw [hr]
  by_cases f3 : b.far s = 1 ∨ b.far s = 2 ∨ b.far s = 3
  ·have es : s = Ser.plusP b.ix (b.far s) := by unfold Bo.far Ser.plusP; omega
   have HT := otake_ahead hi (b.far s) f3 o A n c
   rw [← es] at HT
   refine HT.mono fun en w' ⟨e, hI, hC⟩ => ⟨none, 0, 0, 0, [], e, Vo.nil0 _ _, by omega, trivial, ?_, hC.mono (fun k _ e => .inr e)⟩
   have hC2 : Ch (fun k => k = q.x ∨ k = q.m) w w' := hC.mono (fun k _ e => .inr e)
   have hy2 : o = (parseO l).1 ∧ (⟨o, A, n, c⟩ : Ov).ok w' := ⟨hy.1, hy.2.stay hC2 hn⟩
   have k1 := k1.stay hC2 hn
   have k2 := k2.stay hC2 hn
   have k3 := k3.stay hC2 hn
   refine h.inbox hC2 ?_ ?_
   ·unfold Bo.took
    rcases f3 with f | f | f
    ·rw [f] at hI
     rw [if_neg f0, if_pos f]
     exact ⟨_, _, _, hI, by unfold orO; rw [if_pos rfl]; exact kv_or k1 hy2, k2, k3⟩
    ·rw [f] at hI
     rw [if_neg f0, if_neg (by omega), if_pos f]
     exact ⟨_, _, _, hI, k1, by unfold orO; rw [if_pos rfl]; exact kv_or k2 hy2, k3⟩
    ·rw [f] at hI
     rw [if_neg f0, if_neg (by omega), if_neg (by omega), if_pos f]
     exact ⟨_, _, _, hI, k1, k2, by unfold orO; rw [if_pos rfl]; exact kv_or k3 hy2⟩
   ·unfold Bo.took
    rcases f3 with f | f | f
    ·rw [if_neg f0, if_pos f]; exact ⟨rfl, rfl, rfl, rfl, rfl, rfl⟩
    ·rw [if_neg f0, if_neg (by omega), if_pos f]; exact ⟨rfl, rfl, rfl, rfl, rfl, rfl⟩
    ·rw [if_neg f0, if_neg (by omega), if_neg (by omega), if_pos f]; exact ⟨rfl, rfl, rfl, rfl, rfl, rfl⟩
  ·have hd : ¬ (s - b.ix) % 65536 < 4 := by unfold Bo.far at f0 f3; omega
   refine (otake_range hi s h0 h1 hd o A n c).mono fun en w' ⟨e, hb⟩ => ⟨none, 0, 0, 9, [], e, Vo.nil0 _ _, by omega, trivial, ?_, .of_below hb⟩
   have e2 : b.took s l = { b with ow := true } := by
    unfold Bo.took
    rw [if_neg f0, if_neg (by omega), if_neg (by omega), if_neg (by omega)]
   rw [e2]
   have h2 := h.below hb
   exact ⟨h2.sp, h2.ib, h2.bt, h2.by_, h2.tr⟩
theorem took_keeps (s : Int) (l : List Int) : (b.took s l).t = b.t ∧ (b.took s l).f = b.f ∧ (b.took s l).e = b.e ∧ (b.took s l).ow = true ∧ (b.took s l).tr = b.tr := by
 unfold Bo.took
 split
 ·exact ⟨rfl, rfl, rfl, rfl, rfl⟩
 ·split
  ·exact ⟨rfl, rfl, rfl, rfl, rfl⟩
  ·split
   ·exact ⟨rfl, rfl, rfl, rfl, rfl⟩
   ·split <;> exact ⟨rfl, rfl, rfl, rfl, rfl⟩
end
structure HdR (T : TypeId) (rest : List Value) (w : World) (base : Nat) (g : Nat) (q : Bk) (b : Bo) (gt : Nat) (A : Option Addr) (m c : Nat) (xs : List Ov) (L : List (List Int)) (j : Nat) (r : Option Nat) (wr : World) : Prop where
 bd : Bd T rest wr g q b
 tl : Tl wr base gt r ((xs.take j).filter fun y => y.o.k != 0)
 row : Vo wr w.heap.size (.slice A m c) m xs
 runs : RunsO wr xs L
 new : ∀ k, r = some k → w.heap.size ≤ k ∧ (Value.slice A m c).ownBlock ≠ some k
 old : Ch (fun k => k = g ∨ q.own k ∨ k = gt) w wr
section
variable {w w' w2 : World} {q : Bk} {b : Bo} {S : Nat → Prop} {T : TypeId} {g base gt m c j : Nat} {rest : List Value} {A : Option Addr} {xs : List Ov} {L : List (List Int)} {r r' : Option Nat} {wr : World}
theorem HdR.below (h : HdR T rest w base g q b gt A m c xs L j r wr) (hb : Below wr.heap.size wr w') : HdR T rest w base g q b gt A m c xs L j r w' :=
 ⟨h.bd.below hb, h.tl.below hb, h.row.below hb, h.runs.stay (.of_below hb) (Nob.none _), h.new, h.old.trans (Ch.of_below (S := fun _ => False) hb) (fun _ _ e => e.elim)⟩
theorem HdR.told (h : HdR T rest w base g q b gt A m c xs L j r wr) {M : List Ov} (ht : Tl w' base gt r' M) (hc : Ch (fun k => k = gt ∨ r = some k) wr w') (hr : r' = r ∨ ∀ k, r' = some k → wr.heap.size ≤ k) (hM : M = (xs.take (j + 1)).filter fun y => y.o.k != 0) : HdR T rest w base g q b gt A m c xs L (j + 1) r' w' := by
 have hno := h.tl.no h.bd
 have hnb := h.tl.nob
 have hgt := h.tl
 refine ⟨h.bd.stay hc (fun e => e.elim (fun e => hno.1.1 e.symm) (fun e => (hno.2 g e).1 rfl)) (fun k e e2 => e2.elim (fun e3 => hno.1.2 (e3 ▸ e)) (fun e3 => (hno.2 k e3).2 e)) hnb, hM ▸ ht, h.row.stay hc (fun k e e2 => ?_), h.runs.stay hc hnb, fun k e => ?_, h.old.trans hc (fun k hk e => e.elim (fun e => .inr (.inr e)) (fun e => absurd (h.new k e).1 (by omega)))⟩
 ·rcases e2 with e2 | e2
  ·obtain ⟨A0, n0, c0, hv, _⟩ := hgt
   obtain ⟨cur, hcur⟩ := h.row.typed k e
   have hvb : Vb 51 wr k cur.toList := by simpa [Vb] using hcur
   exact vb_ne hvb hv (by decide) e2
  ·exact (h.new k e2).2 e
 ·rcases hr with hr | hr
  ·exact h.new k (hr ▸ e)
  ·have h1 := hr k e
   have h2 := h.old.size
   exact ⟨by omega, fun e2 => by have := (h.row.lt k e2).2; omega⟩
end
section
variable {w w' : World} {q : Bk} {b : Bo} {S : Nat → Prop} {T : TypeId} {g : Nat} {rest : List Value}
theorem bhdata_any (h : Bd T rest w g q b) {base gt : Nat} (ht : Tl w base gt none []) (hbz : base ≤ w.heap.size) (x : Ms) (hm : Mok w x) (h0 : 0 ≤ x.x.s) (h1 : x.x.s ≤ 65535) : Calls Tryz.prog 117 #[.pointer (some ⟨g, 0, none⟩), x.x.v, .func (.func 74) #[.pointer (some ⟨gt, 0, none⟩)] #[]] w fun en w' => en = .returned (.tuple #[]) ∧ ∃ r Lt, Tl w' base gt r Lt ∧ Lt.map Ov.o = tells (b.runs x.x.s x.l) ∧ (∀ y ∈ Lt, y.ok w') ∧ Bd T rest w' g q (b.took x.x.s x.l) ∧ Ch (fun k => k = g ∨ q.own k ∨ k = gt) w w' ∧ (∀ k, r = some k → w.heap.size ≤ k) := by
 obtain ⟨⟨k, t, f, hp, p, o, s, a, A, n, c⟩, l⟩ := x
 simp only [Sv.v]
 have hb0 := (new_seg w ⟨k, t, f, hp, p, o, s, a, A, n, c⟩).2
 have hs0 := (new_seg w ⟨k, t, f, hp, p, o, s, a, A, n, c⟩).1
 change Below _ w (w.alloc (.cells #[.int .i64 k, .int .i64 t, .int .i64 f, .int .i64 hp, .int .i64 p, .int .i64 o, .int .i64 s, .int .i64 a, .slice A n c] 54)) at hb0
 change Vb _ (w.alloc (.cells #[.int .i64 k, .int .i64 t, .int .i64 f, .int .i64 hp, .int .i64 p, .int .i64 o, .int .i64 s, .int .i64 a, .slice A n c] 54)) _ [.int .i64 k, .int .i64 t, .int .i64 f, .int .i64 hp, .int .i64 p, .int .i64 o, .int .i64 s, .int .i64 a, .slice A n c] at hs0
 have H1 := Kp.mk (h.below hb0)
 have HT1 := Kp.mk (ht.below hb0)
 have HM1 := Kp.mk (hm.below hb0)
 have HC1 := Kp.mk (Ch.of_below (S := fun k => k = g ∨ q.own k ∨ k = gt) hb0)
 have HLT := Kp.mk (show g < w.heap.size ∧ (∀ k, q.own k → k < w.heap.size) ∧ gt < w.heap.size from ⟨h.own.lt, h.bi.lt, ht.ltr.1⟩)
 have HS := Kp.mk (And.intro h0 h1)
 have HBZ := Kp.mk (Nat.le_trans hbz hb0.size)
 clear hb0 h ht hm h0 h1 hbz
 go_enter Tryz.func117, Tryz.ntmps117
 go_upto_region 1 with fail
 obtain ⟨gs, hgs⟩ : ∃ gs, gs = w.heap.size := ⟨_, rfl⟩
 rw [← hgs] at hs0 HLT ⊢
 have HGS := Kp.mk hgs
 clear hgs
 generalize w.alloc (.cells #[.int .i64 k, .int .i64 t, .int .i64 f, .int .i64 hp, .int .i64 p, .int .i64 o, .int .i64 s, .int .i64 a, .slice A n c] 54) = w1 at *
 have c6 := H1.out.own.cell 6 rfl
 have f6 := H1.out.own.free 6
 have hc2 : Ch (fun k => k = g) w1 (w1.setCell ⟨g, 6, none⟩ (.bool true)) := .of_grown (grownBy_set w1 g 6 (.bool true))
 have hn2 := nob_vb H1.out.own (ty_ne H1.out.ty).2.1 (ty_ne H1.out.ty).2.2.1
 have H2 := Kp.mk (show Bd T rest (w1.setCell ⟨g, 6, none⟩ (.bool true)) g q { b with ow := true } from
  have hbi := H1.out.bi.stay hc2 (fun k e e2 => H1.out.gno (e2 ▸ e)) hn2
  ⟨H1.out.own.set 6 (.bool true), ⟨hbi.sp, hbi.ib, hbi.bt, hbi.by_, hbi.tr⟩, H1.out.ty⟩)
 have HS2 := Kp.mk ((hc2.block gs hs0.lt (fun e => by have := HLT.out.1; omega)).trans hs0)
 have HS2 := Kp.mk (show Vb 54 (w1.setCell ⟨g, 6, none⟩ (.bool true)) gs [.int .i64 k, .int .i64 t, .int .i64 f, .int .i64 hp, .int .i64 p, .int .i64 o, .int .i64 s, .int .i64 a, .slice A n c] from HS2.out)
 have HT2 := Kp.mk (HT1.out.stay hc2 (fun e => (HT1.out.no H1.out).1.1 e) (fun k e => by simp at e))
 have HM2 := Kp.mk (show Fok (fun _ => True) (w1.setCell ⟨g, 6, none⟩ (.bool true)) ⟨A, n, c, l⟩ from HM1.out.stay hc2 (fun k cs m _ _ hb e => (hn2 k cs m e).1 hb))
 have HC2 := Kp.mk (HC1.out.trans hc2 (fun k _ e => .inl e))
 have HBZ2 := Kp.mk (Nat.le_trans HBZ.out hc2.size)
 clear hc2 hn2 H1 HT1 HM1 HC1 hs0 HBZ
 go_upto_region 2 with fail
 clear c6 f6
 generalize w1.setCell ⟨g, 6, none⟩ (.bool true) = w2 at *
 have s8 := HS2.out.cell 8 rfl
 go_wp2_with fail
 refine (orderParse_any HM2.out.rd HM2.out.bytes (Nat.le_refl _) (Nat.le_trans HM2.out.small (by decide))).mono ?_
 rintro en w3 ⟨A3, n3, c3, rfl, hR3, hb3⟩
 have H3 := Kp.mk (H2.out.below hb3)
 have HS3 := Kp.mk (HS2.out.below hb3 HS2.out.lt)
 have HT3 := Kp.mk (HT2.out.below hb3)
 have HC3 := Kp.mk (HC2.out.trans (Ch.of_below (S := fun k => k = g ∨ q.own k ∨ k = gt) hb3) (fun _ _ e => e))
 have HR3 := Kp.mk (hR3.lower (Nat.zero_le _))
 have HBZ3 := Kp.mk (Nat.le_trans HBZ2.out hb3.size)
 have HPO := Kp.mk (show (parseO l).1 = (parseO l).1 from rfl)
 clear s8 hR3 hb3 H2 HS2 HT2 HM2 HC2 HBZ2
 generalize hpo : (parseO l).1 = po at HR3 HPO ⊢
 replace HPO := Kp.mk hpo
 clear hpo
 generalize (parseO l).2 = pe at *
 go_upto_region 3 with (refine wpList_store_new (vs := ([.int .i64 po.k, .int .i64 po.n, .int .i64 po.m, .int .i64 po.r.k, .int .i64 po.r.pr, .int .i64 po.r.to, .int .i64 po.r.po, .int .i64 po.r.x.v, .int .i64 po.r.x.m, .int .u8 po.r.x.b0, .int .u8 po.r.x.b1, .int .u8 po.r.x.b2, .int .u8 po.r.x.i0, .int .u8 po.r.x.i1, .int .u8 po.r.x.i2, .slice A3 n3 c3, .int .i64 po.f, .int .i64 po.p, .int .i64 po.t, .int .i64 po.q, .int .i64 po.z] : List Value)) rfl (.tmp 6) (.tmp 19) rfl rfl rfl rfl rfl rfl agg_order rfl ?_; intro w4 hv4 hb4 hz4)
 have H4 := Kp.mk (H3.out.below hb4)
 have HS4 := Kp.mk (HS3.out.below hb4 HS3.out.lt)
 have HT4 := Kp.mk (HT3.out.below hb4)
 have HC4 := Kp.mk (HC3.out.trans (Ch.of_below (S := fun k => k = g ∨ q.own k ∨ k = gt) hb4) (fun _ _ e => e))
 have HR4 := Kp.mk (HR3.out.below hb4)
 have HBZ4 := Kp.mk (Nat.le_trans HBZ3.out hb4.size)
 have HGO := Kp.mk (show gs < w3.heap.size ∧ g < w3.heap.size from ⟨HS3.out.lt, H3.out.own.lt⟩)
 have HV4 := Kp.mk (show Vb 51 w4 w3.heap.size (ocl po (.slice A3 n3 c3)) from hv4)
 clear hb4 hz4 hv4 H3 HS3 HT3 HC3 HR3 HBZ3
 generalize w3.heap.size = go at *
 refine wp_region_held_drew (S := fun X => X.cell? ⟨g, 4, none⟩ = some (.pointer (some ⟨q.x, 0, none⟩)) ∧ X.cell? ⟨gs, 6, none⟩ = some (.int .i64 s) ∧ Vb 51 X go (ocl po (.slice A3 n3 c3))) (by kernel_rfl) ⟨H4.out.own.cell 4 rfl, HS4.out.cell 6 rfl, HV4.out⟩ (fun hS0 => ?_)
 have H5 := Kp.mk H4.out.drew
 have HS5 := Kp.mk (show Vb 54 w4.drew gs [.int .i64 k, .int .i64 t, .int .i64 f, .int .i64 hp, .int .i64 p, .int .i64 o, .int .i64 s, .int .i64 a, .slice A n c] from HS4.out)
 have HV5 := Kp.mk (show Vb 51 w4.drew go (ocl po (.slice A3 n3 c3)) from HV4.out)
 have hbd := (Below.refl w4.heap.size w4).drew
 have HT5 := Kp.mk (HT4.out.below hbd)
 have HR5 := Kp.mk (HR4.out.below hbd)
 have HC5 := Kp.mk (HC4.out.trans (Ch.of_below (S := fun k => k = g ∨ q.own k ∨ k = gt) hbd) (fun _ _ e => e))
 have HBZ5 := Kp.mk (show base ≤ w4.drew.heap.size from HBZ4.out)
 clear hbd H4 HS4 HV4 HT4 HR4 HC4 HBZ4
 generalize w4.drew = u at *
 refine tD 0 (.pointer (some ⟨g, 0, none⟩)) 22 rfl rfl hS0 ?_ ?_
 ·rintro w' hq
  go_simp
 try simp only [Act.put, zA, zB, zC]
 refine tD 1 (.pointer (some ⟨g, 0, none⟩)) 23 rfl rfl hS0 ?_ ?_
 ·rintro w' hq
  go_simp
 try simp only [Act.put, zA, zB, zC]
 refine tD 2 (.pointer (some ⟨g, 4, none⟩)) 24 rfl rfl hS0 ?_ ?_
 ·rintro w' hq
  go_simp
 try simp only [Act.put, zA, zB, zC]
 refine tD 3 (.pointer (some ⟨q.x, 0, none⟩)) 25 rfl rfl hS0 ?_ ?_
 ·rintro w' hq
  have c4 := hq.1
  go_simp
 try simp only [Act.put, zA, zB, zC]
 refine tD 4 (.pointer (some ⟨gs, 6, none⟩)) 26 rfl rfl hS0 ?_ ?_
 ·rintro w' hq
  go_simp
 try simp only [Act.put, zA, zB, zC]
 refine tD 5 (.int .i64 s) 27 rfl rfl hS0 ?_ ?_
 ·rintro w' hq
  have s6 := hq.2.1
  go_simp
 try simp only [Act.put, zA, zB, zC]
 refine tD 6 (.agg #[.int .i64 po.k, .int .i64 po.n, .int .i64 po.m, .int .i64 po.r.k, .int .i64 po.r.pr, .int .i64 po.r.to, .int .i64 po.r.po, .int .i64 po.r.x.v, .int .i64 po.r.x.m, .int .u8 po.r.x.b0, .int .u8 po.r.x.b1, .int .u8 po.r.x.b2, .int .u8 po.r.x.i0, .int .u8 po.r.x.i1, .int .u8 po.r.x.i2, .slice A3 n3 c3, .int .i64 po.f, .int .i64 po.p, .int .i64 po.t, .int .i64 po.q, .int .i64 po.z]) 28 rfl rfl hS0 ?_ ?_
 ·rintro w' hq
  exact exec_load_vb (vs := ocl po (.slice A3 n3 c3)) (.tmp 6) rfl rfl (hq.2.2) rfl agg_order
 try simp only [Act.put, zA, zB, zC]
 refine rD 7 rfl fun K hK => ?_
 try rw [if_pos (by rfl)]
 go_simp
 go_at_call 165
 refine ((show Bi u q b from ⟨H5.out.bi.sp, H5.out.bi.ib, H5.out.bi.bt, H5.out.bi.by_, H5.out.bi.tr⟩).take (l := l) ⟨HPO.out.symm, HR5.out⟩ HS.out.1 HS.out.2).mono ?_
 rintro en u2 ⟨A6, m6, c6, er, xs, rfl, hV6, hm6, hR6, hB6, hC6⟩
 have hown6 : ∀ k, (k = q.x ∨ k = q.m) → q.own k := fun k e => .inr (e.elim .inl (fun e => .inr (.inl e)))
 have htk := took_keeps (b := b) s l
 have h6 := H5.out.of (b' := b.took s l) hB6 hC6 hown6 ⟨htk.1, htk.2.1, htk.2.2.1, htk.2.2.2.1⟩
 have hgs6 : ¬ q.own gs := H5.out.bi.not (by decide) HS5.out
 have hgo6 : ¬ q.own go := H5.out.bi.not (by decide) HV5.out
 have hS1 : u2.cell? ⟨g, 4, none⟩ = some (.pointer (some ⟨q.x, 0, none⟩)) ∧ u2.cell? ⟨gs, 6, none⟩ = some (.int .i64 s) ∧ Vb 51 u2 go (ocl po (.slice A3 n3 c3)) :=
  ⟨h6.own.cell 4 rfl, Vb.cell ((hC6.block gs HS5.out.lt (fun e => hgs6 (hown6 gs e))).trans HS5.out) 6 rfl, (hC6.block go HV5.out.lt (fun e => hgo6 (hown6 go e))).trans HV5.out⟩
 have HT6 := Kp.mk (HT5.out.stay hC6 (fun e => (HT5.out.no H5.out).1.2 (hown6 gt e)) (fun k e => by simp at e))
 have HD := Kp.mk (show HdR T rest w base g q (b.took s l) gt A6 m6 c6 xs (b.runs s l) 0 none u2 from
  ⟨h6, by simpa using HT6.out, hV6.lower HC5.out.size, hR6, fun k e => by simp at e, HC5.out.trans hC6 (fun k _ e => .inr (.inl (hown6 k e)))⟩)
 have HBZ6 := Kp.mk (Nat.le_trans HBZ5.out hC6.size)
 have HM6 := Kp.mk hm6
 have hmx := hV6.vod.max
 clear hV6 hm6 hR6 hB6 hC6 hown6 htk h6 hgs6 hgo6 HT6 H5 HS5 HV5 HT5 HR5 HC5 HBZ5
 refine hK.out _ _ hS1 (fun _ => ?_)
 clear hK K
 try simp only [Act.put, zA, zB, zC]
 refine tD 8 (.tuple #[.slice A6 m6 c6, .int .i64 er]) 21 rfl rfl hS1 (fun _ _ => by go_simp) ?_
 try simp only [Act.put, zA, zB, zC]
 refine tD 9 (.slice A6 m6 c6) 30 rfl rfl hS1 (fun _ _ => by go_simp) ?_
 try simp only [Act.put, zA, zB, zC]
 refine tD 10 (.int .i64 er) 31 rfl rfl hS1 (fun _ _ => by go_simp) ?_
 try simp only [Act.put, zA, zB, zC]
 refine tD 11 (.slice A6 m6 c6) 8 rfl rfl hS1 (fun _ _ => by go_simp) ?_
 try simp only [Act.put, zA, zB, zC]
 refine tD 12 (.int .i64 er) 9 rfl rfl hS1 (fun _ _ => by go_simp) ?_
 try simp only [Act.put, zA, zB, zC]
 refine wpAnyH_done (by kernel_rfl) ?_ _
 clear hS0 hS1
 go_wp2_with fail
 go_loopw [34] (fun s34 wr => ∃ (j : Nat) (r : Option Nat), s34 = .int .i64 j ∧ Kp (j ≤ m6) ∧ Kp (HdR T rest w base g q (b.took s l) gt A6 m6 c6 xs (b.runs s l) j r wr)) (fun s34 _ => (m6 - (intOf s34).toNat))
 case atStart => exact ⟨0, none, rfl, Kp.mk (Nat.zero_le _), HD⟩
 case round =>
  clear HD
  obtain ⟨j, r, rfl, HJ, HD⟩ := hrel
  by_cases hj : (j : Int) < m6
  rotate_left
  ·have HE := Kp.mk (show j = m6 by have := HJ.out; omega)
   go_wp2_with fail
   go_end0
   have e := HE.out
   subst e
   have hl := HD.out.row.len
   have ht := HD.out.tl
   rw [List.take_of_length_le (by omega)] at ht
   exact ⟨rfl, r, _, ht, HD.out.runs.tells, fun y hy => HD.out.runs.ok y (List.mem_filter.1 hy).1, HD.out.bd, HD.out.old, fun k e => (HD.out.new k e).1⟩
  have hjl : j < xs.length := by have := HD.out.row.len; omega
  obtain ⟨y, hy⟩ : ∃ y, xs[j]? = some y := ⟨xs[j], List.getElem?_eq_getElem hjl⟩
  obtain ⟨gI, off, hA6, hlt, hcell⟩ := HD.out.row.vod.at_ (by omega)
  have hcl := hcell j y hy
  subst hA6
  have HY := Kp.mk (show xs.take (j + 1) = xs.take j ++ [y] by rw [List.take_add_one, hy]; rfl)
  have HYL := Kp.mk (show ((xs.take j).filter fun y => y.o.k != 0).length ≤ 1000 from Nat.le_trans (List.length_filter_le _ _) (by have := HJ.out; have := HM6.out; simp; omega))
  clear hcell hy hlt hjl
  obtain ⟨yo, yA, yn, yc⟩ := y
  have HCL := Kp.mk hcl
  clear hcl
  go_upto_region 7 with (first | (refine wpList_load_at (vs := ([.int .i64 yo.k, .int .i64 yo.n, .int .i64 yo.m, .int .i64 yo.r.k, .int .i64 yo.r.pr, .int .i64 yo.r.to, .int .i64 yo.r.po, .int .i64 yo.r.x.v, .int .i64 yo.r.x.m, .int .u8 yo.r.x.b0, .int .u8 yo.r.x.b1, .int .u8 yo.r.x.b2, .int .u8 yo.r.x.i0, .int .u8 yo.r.x.i1, .int .u8 yo.r.x.i2, .slice yA yn yc, .int .i64 yo.f, .int .i64 yo.p, .int .i64 yo.t, .int .i64 yo.q, .int .i64 yo.z] : List Value)) rfl (.tmp 36) rfl rfl HCL.out agg_order ?_) | (refine wpList_store_new (vs := ([.int .i64 yo.k, .int .i64 yo.n, .int .i64 yo.m, .int .i64 yo.r.k, .int .i64 yo.r.pr, .int .i64 yo.r.to, .int .i64 yo.r.po, .int .i64 yo.r.x.v, .int .i64 yo.r.x.m, .int .u8 yo.r.x.b0, .int .u8 yo.r.x.b1, .int .u8 yo.r.x.b2, .int .u8 yo.r.x.i0, .int .u8 yo.r.x.i1, .int .u8 yo.r.x.i2, .slice yA yn yc, .int .i64 yo.f, .int .i64 yo.p, .int .i64 yo.t, .int .i64 yo.q, .int .i64 yo.z] : List Value)) rfl (.tmp 11) (.tmp 37) rfl rfl rfl rfl rfl rfl agg_order rfl ?_; intro w7 hv7 hb7 hz7))
  have HD7 := Kp.mk (HD.out.below hb7)
  have HBZ7 := Kp.mk (show base ≤ w7.heap.size from Nat.le_trans (Nat.le_trans HD.out.tl.ltr.2.2 (Nat.le_of_lt HD.out.tl.ltr.1)) hb7.size)
  have hj1 := HJ.out
  have hm4 := HM6.out
  clear HD hb7 hz7 HCL
  generalize wr.heap.size = g11 at *
  go_wp2_with (refine wpList_load_vb (vs := ([.int .i64 yo.k, .int .i64 yo.n, .int .i64 yo.m, .int .i64 yo.r.k, .int .i64 yo.r.pr, .int .i64 yo.r.to, .int .i64 yo.r.po, .int .i64 yo.r.x.v, .int .i64 yo.r.x.m, .int .u8 yo.r.x.b0, .int .u8 yo.r.x.b1, .int .u8 yo.r.x.b2, .int .u8 yo.r.x.i0, .int .u8 yo.r.x.i1, .int .u8 yo.r.x.i2, .slice yA yn yc, .int .i64 yo.f, .int .i64 yo.p, .int .i64 yo.t, .int .i64 yo.q, .int .i64 yo.z] : List Value)) rfl (.tmp 11) rfl rfl hv7 rfl agg_order ?_)
  clear hv7
  cases hk : (yo.k != 0) with
  | true =>
   refine (tell_yes HD7.out.tl HYL.out HBZ7.out yo yA yn yc hk).mono ?_
   rintro en w8 ⟨rfl, r', hT8, hC8, hr8⟩
   have HD8 := Kp.mk (HD7.out.told hT8 hC8 hr8 (by rw [HY.out, List.filter_append, List.filter_cons, if_pos (by exact hk)]; rfl))
   clear hT8 hC8 hr8 HD7
   go_wp2_with fail
   go_roundw
   case rel => exact ⟨j + 1, r', by rw [show ((j : Int) + 1) = ((j + 1 : Nat) : Int) from by omega], Kp.mk (by omega), HD8⟩
   case measure => exact meas_lt2 (by omega)
  | false =>
   refine (tell_no (w := w7) yo yA yn yc hk).mono ?_
   rintro en w8 ⟨rfl, hb8⟩
   have HD8 := Kp.mk (show HdR T rest w base g q (b.took s l) gt (some ⟨gI, off, none⟩) m6 c6 xs (b.runs s l) (j + 1) r w8 from by
    have h8 := HD7.out.below hb8
    refine ⟨h8.bd, ?_, h8.row, h8.runs, h8.new, h8.old⟩
    rw [HY.out, List.filter_append, List.filter_cons, if_neg (by simpa using hk), List.filter_nil, List.append_nil]
    exact h8.tl)
   clear hb8 HD7
   go_wp2_with fail
   go_roundw
   case rel => exact ⟨j + 1, r, by rw [show ((j : Int) + 1) = ((j + 1 : Nat) : Int) from by omega], Kp.mk (by omega), HD8⟩
   case measure => exact meas_lt2 (by omega)
theorem heard_keeps (ack now : Int) : (b.heard ack now).t = b.t ∧ (b.heard ack now).f = b.f ∧ (b.heard ack now).e = b.e ∧ (b.heard ack now).ow = b.ow ∧ (b.heard ack now).tr ≤ b.tr := by
 unfold Bo.heard
 split
 ·exact ⟨rfl, rfl, rfl, rfl, Nat.zero_le _⟩
 ·exact ⟨rfl, rfl, rfl, rfl, Nat.le_refl _⟩
theorem hears_keeps (k s a : Int) (l : List Int) (now : Int) : (b.hears k s a l now).t = b.t ∧ (b.hears k s a l now).f = b.f ∧ (b.hears k s a l now).e = b.e ∧ (b.hears k s a l now).tr ≤ b.tr := by
 unfold Bo.hears
 split
 ·have := heard_keeps (b := b) a now; exact ⟨this.1, this.2.1, this.2.2.1, this.2.2.2.2⟩
 ·split
  ·have := took_keeps (b := b) s l; exact ⟨this.1, this.2.1, this.2.2.1, by rw [this.2.2.2.2]; exact Nat.le_refl _⟩
  ·exact ⟨rfl, rfl, rfl, Nat.le_refl _⟩
structure TellPost (T : TypeId) (rest : List Value) (w : World) (base g gt : Nat) (q : Bk) (b b' : Bo) (L : List (List Int)) (r : Option Nat) (Lt : List Ov) (w' : World) : Prop where
 tl : Tl w' base gt r Lt
 map : Lt.map Ov.o = tells L
 ok : ∀ y ∈ Lt, y.ok w'
 bd : Bd T rest w' g q b'
 old : Ch (fun k => k = g ∨ q.own k ∨ k = gt) w w'
 new : ∀ k, r = some k → w.heap.size ≤ k
theorem bhears_any (h : Bd T rest w g q b) {base gt : Nat} (ht : Tl w base gt none []) (hbz : base ≤ w.heap.size) (x : Ms) (hm : Mok w x) (hx : x.x.ok = true) {now : Int} (hn : tickB now = true) : Calls Tryz.prog 73 #[.pointer (some ⟨g, 0, none⟩), x.x.v, .int .i64 now, .func (.func 74) #[.pointer (some ⟨gt, 0, none⟩)] #[]] w fun en w' => en = .returned (.tuple #[]) ∧ ∃ r Lt, TellPost T rest w base g gt q b (b.hears x.x.k x.x.s x.x.a x.l now) (b.gets x.x.k x.x.s x.l) r Lt w' := by
 have hbd := okS_bd ((Sv.ok_iff _).1 hx)
 have HHK := Kp.mk (hears_keeps (b := b) x.x.k x.x.s x.x.a x.l now)
 have HXV := Kp.mk (show ∀ w1, Bd T rest w1 g q b → Tl w1 base gt none [] → base ≤ w1.heap.size → Mok w1 x → _ from fun w1 a1 a2 a3 a4 => bhdata_any a1 a2 a3 x a4 hbd.2.2.2.2.2.2.1.1 hbd.2.2.2.2.2.2.1.2)
 have HMX := Kp.mk hm
 clear hm hx hbd
 obtain ⟨⟨k, t, f, hp, p, o, s, a, A, n, c⟩, l⟩ := x
 simp only [Sv.v] at *
 have hb0 := (new_seg w ⟨k, t, f, hp, p, o, s, a, A, n, c⟩).2
 have hs0 := (new_seg w ⟨k, t, f, hp, p, o, s, a, A, n, c⟩).1
 change Below _ w (w.alloc (.cells #[.int .i64 k, .int .i64 t, .int .i64 f, .int .i64 hp, .int .i64 p, .int .i64 o, .int .i64 s, .int .i64 a, .slice A n c] 54)) at hb0
 change Vb _ (w.alloc (.cells #[.int .i64 k, .int .i64 t, .int .i64 f, .int .i64 hp, .int .i64 p, .int .i64 o, .int .i64 s, .int .i64 a, .slice A n c] 54)) _ [.int .i64 k, .int .i64 t, .int .i64 f, .int .i64 hp, .int .i64 p, .int .i64 o, .int .i64 s, .int .i64 a, .slice A n c] at hs0
 have H1 := Kp.mk (h.below hb0)
 have HT1 := Kp.mk (ht.below hb0)
 have HM1 := Kp.mk (show Mok (w.alloc (.cells #[.int .i64 k, .int .i64 t, .int .i64 f, .int .i64 hp, .int .i64 p, .int .i64 o, .int .i64 s, .int .i64 a, .slice A n c] 54)) ⟨⟨k, t, f, hp, p, o, s, a, A, n, c⟩, l⟩ from HMX.out.below hb0)
 have HC1 := Kp.mk (Ch.of_below (S := fun k => k = g ∨ q.own k ∨ k = gt) hb0)
 have HBZ := Kp.mk (Nat.le_trans hbz hb0.size)
 have HZ1 := Kp.mk hb0.size
 clear hb0 h ht hbz HMX
 go_enter Tryz.func73, Tryz.ntmps73
 go_upto_region 1 with fail
 generalize w.alloc (.cells #[.int .i64 k, .int .i64 t, .int .i64 f, .int .i64 hp, .int .i64 p, .int .i64 o, .int .i64 s, .int .i64 a, .slice A n c] 54) = w1 at *
 generalize w.heap.size = gs at hs0 ⊢
 have k0 := hs0.cell 0 rfl
 by_cases h4 : k = 4
 ·have HE := Kp.mk (show b.hears k s a l now = b.heard a now ∧ b.gets k s l = [] from ⟨if_pos h4, if_neg (by omega)⟩)
  have k7 := hs0.cell 7 rfl
  have e4 : (k == 4) = true := by simpa using h4
  have hh := bhack_any H1.out a hn
  clear h4 hs0
  go_wp2_with fail
  refine hh.mono ?_
  rintro en w2 ⟨rfl, h2, hC2⟩
  have HP := Kp.mk (show TellPost T rest w base g gt q b (b.hears k s a l now) (b.gets k s l) none [] w2 from
   ⟨HT1.out.stay hC2 (HT1.out.no H1.out).1.2 (fun k e => by simp at e), by rw [HE.out.2]; rfl, fun y hy => by simp at hy, by rw [HE.out.1]; exact h2, HC1.out.trans hC2 (fun k _ e => .inr (.inl e)), fun k e => by simp at e⟩)
  clear hh h2 hC2 k0 k7
  go_wp2_with fail
  go_end0
  exact ⟨rfl, none, [], HP.out⟩
 ·have n4 : (k == 4) = false := by simpa using h4
  by_cases h5 : k = 5
  ·have HE := Kp.mk (show b.hears k s a l now = b.took s l ∧ b.gets k s l = b.runs s l from ⟨by unfold Bo.hears; rw [if_neg h4, if_pos h5], if_pos h5⟩)
   have e5 : (k == 5) = true := by simpa using h5
   have hh := HXV.out w1 H1.out HT1.out HBZ.out HM1.out
   clear h4 h5 HXV
   go_wp2_with (refine wpList_load_vb (vs := [.int .i64 k, .int .i64 t, .int .i64 f, .int .i64 hp, .int .i64 p, .int .i64 o, .int .i64 s, .int .i64 a, .slice A n c]) rfl (.tmp 5) rfl rfl hs0 rfl agg_seg ?_)
   refine hh.mono ?_
   rintro en w2 ⟨rfl, r, Lt, h2⟩
   have HP := Kp.mk (show TellPost T rest w base g gt q b (b.hears k s a l now) (b.gets k s l) r Lt w2 from
    ⟨h2.1, by rw [HE.out.2]; exact h2.2.1, h2.2.2.1, by rw [HE.out.1]; exact h2.2.2.2.1, HC1.out.trans h2.2.2.2.2.1 (fun _ _ e => e), fun k e => Nat.le_trans HZ1.out (h2.2.2.2.2.2 k e)⟩)
   clear hh h2 k0 hs0
   go_wp2_with fail
   go_end0
   exact ⟨rfl, r, Lt, HP.out⟩
  ·have HE := Kp.mk (show b.hears k s a l now = b ∧ b.gets k s l = [] from ⟨by unfold Bo.hears; rw [if_neg h4, if_neg h5], if_neg h5⟩)
   have n5 : (k == 5) = false := by simpa using h5
   have HP := Kp.mk (show TellPost T rest w base g gt q b (b.hears k s a l now) (b.gets k s l) none [] w1 from
    ⟨HT1.out, by rw [HE.out.2]; rfl, fun y hy => by simp at hy, by rw [HE.out.1]; exact H1.out, HC1.out, fun k e => by simp at e⟩)
   clear h4 h5 HXV hs0
   go_wp2_with fail
   go_end0
   exact ⟨rfl, none, [], HP.out⟩
end
end Go.Proofs.YtnoflfbcgbhipaaGreat.Oct
