import Derived.Test.YtnoflfbcgbhipaaGreatSesCm
import Derived.Test.YtnoflfbcgbhipaaGreatSesFp
set_option linter.unusedSimpArgs false
set_option linter.unusedVariables false
set_option maxRecDepth 100000
set_option maxHeartbeats 40000000
namespace Go.Proofs.YtnoflfbcgbhipaaGreat.Oct
open Go.RowKit
structure Fw (W wr : World) (wb : Nat) (Z : Wk) (x : Wd) (i : Nat) : Prop where
 ww : Ww W wr wb Z x
 l : x.l = (gs i).1
 p : x.p = (gs i).2.1
 wi : x.wire.map Ms.abs = (gs i).2.2
 now : x.now = (i : Int)
 sent : x.sent = 0
 rl : ∀ r, x.rl r = []
structure F3 (W wr : World) (wb : Nat) (Z : Wk) (x : Wd) (op : Bool) (k : Nat) : Prop where
 ww : Ww W wr wb Z x
 l : x.l = slF k (gs (g0 op)).1
 now : x.now = (g0 op : Nat)
 sent : x.sent = (k : Int)
 rl : ∀ r, (x.rl r).length ≤ k
structure F4 (W wr : World) (wb : Nat) (Z : Wk) (x : Wd) (op : Bool) (n i : Nat) : Prop where
 ww : Ww W wr wb Z x
 l : x.l = (fr (slF n (gs (g0 op)).1) (g0 op) i).1
 now : x.now = ((g0 op + i : Nat) : Int)
 said : (fr (slF n (gs (g0 op)).1) (g0 op) i).2.1 ≤ 9 * i
theorem slF_e (l : Ls) : ∀ k, (slF k l).e = l.e
 | 0 => rfl
 | k + 1 => by unfold slF; rw [send_e]; exact slF_e l k
theorem gs_e {i : Nat} (h : i < 13) : (gs i).1.e = 1 := by
 have := gok_at h
 unfold gok at this
 have := (Bool.and_eq_true_iff.mp this).1
 simpa using this
theorem gs_cok {x : Wd} {i : Nat} (hi : i < 12) (hl : x.l = (gs i).1) (hp : x.p = (gs i).2.1) (hn : x.now = ((i + 1 : Nat) : Int)) (hw : x.wire = []) {s : Sa} (hs : (gs i).2.2 = [s]) : Cok x s := by
 have h := gok_at (show i < 13 by omega)
 unfold gok at h
 have h2 := (Bool.and_eq_true_iff.mp h).2
 rw [hs] at h2
 simp only at h2
 unfold Cok
 split
 ·rename_i ht
  rw [if_pos ht] at h2
  have e0 : tells (x.l.gets s.ms x.now) = [] := by rw [hl, hn]; exact List.eq_nil_of_length_eq_zero (by simpa using h2)
  rw [e0, hl, gs_e (by omega)]
  exact ⟨by decide, Follow.nil _ _⟩
 ·rename_i ht
  rw [if_neg ht] at h2
  have e0 : tells (x.p.gets s.ms x.now) = [] := by rw [hp, hn]; exact List.eq_nil_of_length_eq_zero (by simpa using h2)
  rw [e0, hw]
  exact ⟨Nat.zero_le _, Follow.nil _ _⟩
theorem gs_len {i : Nat} (hi : i < 12) : (gs i).2.2 = [] ∨ ∃ s, (gs i).2.2 = [s] := by
 have h := gok_at (show i < 13 by omega)
 unfold gok at h
 have h2 := (Bool.and_eq_true_iff.mp h).2
 generalize (gs i).2.2 = L at *
 match L, h2 with
 | [], _ => exact .inl rfl
 | [s], _ => exact .inr ⟨s, rfl⟩
 | _ :: _ :: _, h2 => cases h2
theorem gstep_nil {t : Int} {y : Ls × Ps × List Sa} (h : y.2.2 = []) : gstep t y = (y.1.tick t, y.2.1, y.1.says t) := by
 obtain ⟨a, b, c⟩ := y
 cases h
 rfl
theorem gstep_l {t : Int} {y : Ls × Ps × List Sa} {s : Sa} (h : y.2.2 = [s]) (ht : s.t = 0) : gstep t y = ((y.1.take s.ms t).tick t, y.2.1, (y.1.take s.ms t).says t) := by
 obtain ⟨a, b, c⟩ := y
 cases h
 exact if_pos ht
theorem gstep_p {t : Int} {y : Ls × Ps × List Sa} {s : Sa} (h : y.2.2 = [s]) (ht : ¬ s.t = 0) : gstep t y = (y.1.tick t, y.2.1.take s.ms t, ((y.2.1.answers s.ms t).map fun z => z.ms.abs).toList ++ y.1.says t) := by
 obtain ⟨a, b, c⟩ := y
 cases h
 exact if_neg ht
theorem gnext {x : Wd} {g : Ls × Ps × List Sa} {t : Int} (hgl : g.2.2 = [] ∨ ∃ s, g.2.2 = [s]) (hl : x.l = g.1) (hp : x.p = g.2.1) (hn : x.now = t) (hw : x.wire = []) (hr : ∀ r, x.rl r = []) (hs : x.sent = 0) :
  (g.2.2.foldl Wd.come x).now = t ∧ (g.2.2.foldl Wd.come x).wire.length ≤ 90000 ∧ (∀ r, (g.2.2.foldl Wd.come x).rl r = []) ∧ (g.2.2.foldl Wd.come x).sent = 0 ∧ ∀ L : List Ms, L.map Ms.abs = (g.2.2.foldl Wd.come x).l.says t → (g.2.2.foldl Wd.come x).l.tick t = (gstep t g).1 ∧ (g.2.2.foldl Wd.come x).p = (gstep t g).2.1 ∧ ((g.2.2.foldl Wd.come x).wire ++ L).map Ms.abs = (gstep t g).2.2 := by
 rcases hgl with e | ⟨s, e⟩
 ·rw [gstep_nil e, e, List.foldl_nil]
  refine ⟨hn, ?_, hr, hs, ?_⟩
  ·rw [hw]
   exact Nat.zero_le _
  ·intro L hL
   refine ⟨?_, ?_, ?_⟩
   ·show x.l.tick _ = g.1.tick _
    rw [hl]
   ·show x.p = g.2.1
    exact hp
   ·show (x.wire ++ L).map Ms.abs = g.1.says _
    rw [hw, List.nil_append, hL, hl]
 ·rw [e, List.foldl_cons, List.foldl_nil]
  unfold Wd.come
  by_cases ht : s.t = 0
  ·rw [if_pos ht, gstep_l e ht]
   refine ⟨hn, ?_, hr, hs, fun L hL => ⟨?_, hp, ?_⟩⟩
   ·show x.wire.length ≤ _
    rw [hw]
    exact Nat.zero_le _
   ·show (x.l.take s.ms x.now).tick _ = _
    rw [hl, hn]
   ·show (x.wire ++ L).map Ms.abs = _
    rw [hw, List.nil_append, hL]
    show (x.l.take s.ms x.now).says _ = _
    rw [hl, hn]
  ·rw [if_neg ht, gstep_p e ht]
   refine ⟨hn, ?_, hr, hs, fun L hL => ⟨?_, ?_, ?_⟩⟩
   ·have h1 : ((x.p.answers s.ms x.now).map Sv.ms).toList.length ≤ 1 := by cases x.p.answers s.ms x.now <;> simp
    show (x.wire ++ _).length ≤ _
    rw [hw, List.nil_append]
    exact Nat.le_trans h1 (by omega)
   ·show x.l.tick _ = _
    rw [hl]
   ·show x.p.take s.ms x.now = _
    rw [hp, hn]
   ·show ((x.wire ++ ((x.p.answers s.ms x.now).map Sv.ms).toList) ++ L).map Ms.abs = _
    have hL2 : L.map Ms.abs = x.l.says t := hL
    rw [hw, List.nil_append, List.map_append, hL2, hl, hp, hn]
    generalize g.2.1.answers s.ms t = S
    have e9 : List.map Ms.abs (Option.map Sv.ms S).toList = (Option.map (fun z => z.ms.abs) S).toList := by cases S <;> rfl
    rw [e9]
theorem gs_succ (i : Nat) : gs (i + 1) = gstep ((i + 1 : Nat) : Int) (gs i) := rfl
theorem gs_cokL {x x0 : Wd} {i : Nat} (hi : i < 12) (hl : x.l = (gs i).1) (hp : x.p = (gs i).2.1) (hwi : x.wire.map Ms.abs = (gs i).2.2) (hl0 : x0.l = x.l) (hp0 : x0.p = x.p) (hn : x0.now = ((i + 1 : Nat) : Int)) (hw : x0.wire = []) (k : Nat) (m : Ms) (hm : x.wire[k]? = some m) : Cok (((x.wire.map Ms.abs).take k).foldl Wd.come x0) m.abs := by
 have h2 : (x.wire.map Ms.abs)[k]? = some m.abs := by rw [List.getElem?_map, hm]; rfl
 rw [hwi] at h2 ⊢
 rcases gs_len hi with e | ⟨s, e⟩
 ·rw [e] at h2
  simp at h2
 ·rw [e] at h2
  cases k with
  | zero =>
   have e3 : s = m.abs := by simpa using h2
   rw [List.take_zero, ← e3]
   exact gs_cok hi (hl0.trans hl) (hp0.trans hp) hn hw e
  | succ k => simp at h2
theorem gs_nextL {x x0 : Wd} {i : Nat} (hi : i < 12) (hl : x.l = (gs i).1) (hp : x.p = (gs i).2.1) (hwi : x.wire.map Ms.abs = (gs i).2.2) (hl0 : x0.l = x.l) (hp0 : x0.p = x.p) (hn : x0.now = ((i + 1 : Nat) : Int)) (hw : x0.wire = []) (hr : ∀ r, x0.rl r = []) (hs : x0.sent = 0) :
  ((x.wire.map Ms.abs).foldl Wd.come x0).now = ((i + 1 : Nat) : Int) ∧ ((x.wire.map Ms.abs).foldl Wd.come x0).wire.length ≤ 90000 ∧ (∀ r, ((x.wire.map Ms.abs).foldl Wd.come x0).rl r = []) ∧ ((x.wire.map Ms.abs).foldl Wd.come x0).sent = 0 ∧ ∀ L : List Ms, L.map Ms.abs = ((x.wire.map Ms.abs).foldl Wd.come x0).l.says ((i + 1 : Nat) : Int) → ((x.wire.map Ms.abs).foldl Wd.come x0).l.tick ((i + 1 : Nat) : Int) = (gs (i + 1)).1 ∧ ((x.wire.map Ms.abs).foldl Wd.come x0).p = (gs (i + 1)).2.1 ∧ (((x.wire.map Ms.abs).foldl Wd.come x0).wire ++ L).map Ms.abs = (gs (i + 1)).2.2 := by
 rw [hwi, gs_succ]
 exact gnext (gs_len hi) (hl0.trans hl) (hp0.trans hp) hn hw hr hs
theorem Ls.send_failed {l : Ls} (h : l.failed = true) (o : OrdV) : l.send o = l := by
 obtain ⟨tz, s⟩ := l
 cases s with
 | none => rfl
 | some y =>
  unfold Ls.send Ls.on
  have h : y.fail = true := h
  simp only [h, if_true]
theorem Ls.begin_no {l : Ls} {e now : Int} (h : ¬ l.begE e now = 0) : l.begin_ e now = l := if_neg h
theorem F3.next {W wr w' : World} {wb : Nat} {Z Z' : Wk} {x : Wd} {op : Bool} {k : Nat} (h : F3 W wr wb Z x op k) (h2 : Ww W w' wb Z' x.sendL) : F3 W w' wb Z' x.sendL op (k + 1) := by
 refine ⟨h2, ?_, h.now, ?_, fun r => ?_⟩
 ·show x.l.send (barO x.sent) = (slF k (gs (g0 op)).1).send (barO (k : Nat))
  rw [h.l, h.sent]
 ·show x.sent + 1 = _
  rw [h.sent]
  omega
 ·show ((if x.l.sendE (barO x.sent) = 0 then updF x.rl x.l.e.toNat (x.rl x.l.e.toNat ++ [x.sent]) else x.rl) r).length ≤ k + 1
  have h3 := h.rl r
  split
  ·unfold updF
   split
   ·rename_i e
    subst e
    simp
    omega
   ·omega
  ·omega
theorem fr_said {l : Ls} {t0 n i : Nat} (h : (fr l t0 i).2.1 ≤ 9 * i) (hn : ((fr l t0 i).1.says ((t0 + (i + 1) : Nat) : Int)).length = n) (h9 : n ≤ 9) : (fr l t0 (i + 1)).2.1 ≤ 9 * (i + 1) ∧ (fr l t0 (i + 1)).2.1 = (fr l t0 i).2.1 + n ∧ (fr l t0 (i + 1)).2.2 = if 0 < n then i else (fr l t0 i).2.2 := by
 have e : fr l t0 (i + 1) = frs ((t0 + (i + 1) : Nat) : Int) i (fr l t0 i) := rfl
 rw [e]
 unfold frs
 simp only
 rw [hn]
 exact ⟨by omega, rfl, rfl⟩
theorem fr_l (l : Ls) (t0 i : Nat) : (fr l t0 (i + 1)).1 = (fr l t0 i).1.tick ((t0 + (i + 1) : Nat) : Int) := by
 have e : fr l t0 (i + 1) = frs ((t0 + (i + 1) : Nat) : Int) i (fr l t0 i) := rfl
 rw [e]
 generalize ((t0 + (i + 1) : Nat) : Int) = t
 rfl
theorem ok_wipe : wipeO = ⟨1, 0, 0, noRule, 0, 0, 0, 0, 0⟩ := rfl
theorem u8_wipe : u8M wipeO.r.x := by unfold wipeO noRule noMask u8M; simp [By]
theorem meas_i {i N : Nat} (h : i + 1 ≤ N) : (((N : Nat) : Int) - intOf (.int .i64 ((i + 1 : Nat) : Int))).toNat < (((N : Nat) : Int) - intOf (.int .i64 (i : Int))).toNat := by
 simp [intOf]
 omega
theorem sessionFails_any {W : World} (op : Bool) (zn : Int) : Calls Tryz.prog 6 #[.bool op, .int .i64 zn] W fun e w' => e = .returned (.bool true) ∧ Below W.heap.size W w' := by
 go_enter Tryz.func6, Tryz.ntmps6
 go_upto_region 2 with (refine (begun_yes W).mono ?_; rintro e w1 ⟨wb, Z, rfl, h⟩)
 have H1 := Kp.mk h
 have a4 := h.own.cell 4 (wcl_at wd0 Z (by omega) (u := .int .i64 0) rfl)
 have f4 := h.own.free 4
 clear h
 go_upto_region 3 with fail
 have H2 := Kp.mk (show Ww W (w1.setCell ⟨wb, 4, none⟩ (.int .i64 1)) wb Z { wd0 with ep := 1 } from H1.out.cell 4 _ (wcl_setEp wd0 Z 1) ⟨rfl, rfl, rfl, rfl⟩ ⟨rfl, rfl, rfl, rfl, rfl, rfl, rfl, rfl⟩)
 clear a4 f4 H1
 generalize w1.setCell ⟨wb, 4, none⟩ (.int .i64 1) = w2 at *
 have a0 := H2.out.own.cell 0 (wcl_at _ Z (by omega) (u := .pointer (some ⟨Z.lb, 0, none⟩)) rfl)
 go_upto_region 5 with (go_at_call 31; refine (H2.out.ln.beginC 1 0).mono ?_; rintro en u ⟨e5, q5, c5, hl5, ht5⟩; replace e5 : en = Ending.returned (.int .i64 0) := e5; subst e5)
 have HF := Kp.mk (show Fw W u wb _ _ 0 from ⟨H2.out.line hl5 ht5, rfl, rfl, rfl, rfl, rfl, fun _ => rfl⟩)
 clear a0 H2 hl5 ht5
 obtain ⟨m, HM⟩ : ∃ m : Nat, Kp (Ser.bringP zn 6 = m ∧ m < 6) := by
  have := Ser.bringP_bd zn 6 (by omega)
  exact ⟨(Ser.bringP zn 6).toNat, Kp.mk ⟨by omega, by omega⟩⟩
 have HBR := Kp.mk (fun wx => by
  have h := Ser.bring_any zn 6 wx (by omega) (by omega)
  rw [HM.out.1] at h
  exact h)
 cases op with
 | false => as_aux_lemma =>
  go_wp2_with fail
  go_loopw [6, 7, 8] (fun s6 _ _ wr => ∃ (i : Nat) (Z : Wk) (x : Wd), s6 = .int .i64 i ∧ Kp (i ≤ g0 false) ∧ Kp (Fw W wr wb Z x i)) (fun s6 _ _ _ => (((12 : Nat) : Int) - intOf s6).toNat)
  case atStart => exact ⟨0, _, _, rfl, Kp.mk (Nat.zero_le _), HF⟩
  case round =>
   clear HF
   obtain ⟨i, Z, x, rfl, HI, HF⟩ := hrel
   have ei : i = 0 := by have h1 : i ≤ 0 := HI.out; omega
   subst ei
   have H3 := Kp.mk (show F3 W wr wb Z x false 0 from ⟨HF.out.ww, HF.out.l, HF.out.now, HF.out.sent, fun r => by rw [HF.out.rl r]; exact Nat.le_refl _⟩)
   clear HF
   obtain ⟨n, HN⟩ : ∃ n : Nat, Kp (n = m + 1 ∧ 1 ≤ n ∧ n ≤ 6 ∧ wrap64 (1 + (m : Int)) = (n : Int)) := ⟨m + 1, Kp.mk (by have := HM.out.2; unfold wrap64; omega)⟩
   have hwn := HN.out.2.2.2
   go_wp2_with fail
   refine (HBR.out _).mono ?_
   rintro e wx ⟨rfl, hwx⟩
   subst hwx
   go_wp2_with fail
   rw [hwn]
   clear hwn
   go_loopw [10] (fun s10 wr => ∃ (k : Nat) (Z : Wk) (x : Wd), s10 = .int .i64 k ∧ Kp (k ≤ n) ∧ Kp (F3 W wr wb Z x false k)) (fun s10 _ => (((n : Nat) : Int) - intOf s10).toNat)
   case atStart => exact ⟨0, _, _, rfl, Kp.mk (Nat.zero_le _), H3⟩
   case round =>
    clear H3
    obtain ⟨k, Z, x, rfl, HKN, H3⟩ := hrel
    by_cases hkn : (k : Int) < n
    ·have HK2 := Kp.mk (show k + 1 ≤ n by omega)
     have hsl := sendsL_any H3.out.ww (by rw [H3.out.l, slF_e, gs_e (by decide)]; decide) (by rw [H3.out.sent]; have := HK2.out; have := HN.out; omega) (fun r _ => by have := H3.out.rl r; have := HK2.out; have := HN.out; omega)
     go_wp2_with fail
     refine hsl.mono ?_
     rintro en u9 ⟨rfl, Z', h'⟩
     have HS3 := Kp.mk (H3.out.next h')
     have ei : wrap64 ((k : Int) + 1) = (k : Int) + 1 := by have := HK2.out; have := HN.out; unfold wrap64; omega
     clear hsl h' H3 hkn
     go_wp2_with fail
     go_roundw
     case rel => exact ⟨k + 1, _, _, by rw [ei]; rfl, HK2, HS3⟩
     case measure => rw [ei]; exact meas_i HK2.out
    have ek : k = n := by have := HKN.out; omega
    subst ek
    have H4 := Kp.mk (show F4 W wr wb Z x false k 0 from ⟨H3.out.ww, H3.out.l, H3.out.now, Nat.zero_le _⟩)
    clear H3
    go_wp2_with fail
    clear hkn
    go_loopw [11, 12, 13, 14] (fun s11 s12 s13 _ wr => ∃ (i : Nat) (Z : Wk) (x : Wd), s11 = .int .i64 ((fr (slF k (gs (g0 false)).1) (g0 false) i).2.1 : Nat) ∧ s12 = .int .i64 ((fr (slF k (gs (g0 false)).1) (g0 false) i).2.2 : Nat) ∧ s13 = .int .i64 i ∧ Kp (i ≤ 300) ∧ Kp (F4 W wr wb Z x false k i)) (fun _ _ s13 _ _ => (((300 : Nat) : Int) - intOf s13).toNat)
    case atStart => exact ⟨0, _, _, rfl, rfl, rfl, Kp.mk (Nat.zero_le _), H4⟩
    case round =>
     clear H4
     obtain ⟨j, Z, x, rfl, rfl, rfl, HJ, H4⟩ := hrel
     by_cases hj : (j : Int) < 300
     rotate_left
     ·have ej : j = 300 := by have := HJ.out; omega
      subst ej
      have HFI := Kp.mk (fin_all false HN.out.2.1 HN.out.2.2.1)
      have HXL := Kp.mk (show x.l = (fin false k).1 from H4.out.l)
      have HXN := Kp.mk (show x.now = ((g0 false + 300 : Nat) : Int) from H4.out.now)
      have HOW := Kp.mk H4.out.ww
      have HSAY := Kp.mk H4.out.said
      generalize hS : (fr (slF k (gs (g0 false)).1) (g0 false) 300).2.1 = sd at *
      generalize hT : (fr (slF k (gs (g0 false)).1) (g0 false) 300).2.2 = la at *
      obtain ⟨hF1, hF2, hF3, hF4, hF5, hF6, hF7, hF8, hF9⟩ : x.l.failed = true ∧ x.l.opn = false ∧ sd = 8 ∧ la < 200 ∧ x.l.sendE wipeO = 180 ∧ x.l.begE 1 x.now = 130 ∧ x.l.begE 2 x.now = 0 ∧ (x.l.begin_ 2 x.now).failed = false ∧ (x.l.begin_ 2 x.now).left = 0 := by
       have h := HFI.out
       have h1 : (fin false k).2.1 = sd := hS
       have h2 : (fin false k).2.2 = la := hT
       unfold finOk at h
       rw [h1, h2, ← HXL.out, ← HXN.out] at h
       simp only [Bool.and_eq_true, Bool.not_eq_true', beq_iff_eq, decide_eq_true_eq, if_true, Bool.false_eq_true, if_false] at h
       obtain ⟨⟨⟨⟨⟨⟨⟨⟨g1, g2⟩, g3⟩, g4⟩, g5⟩, g6⟩, g7⟩, g8⟩, g9⟩ := h
       exact ⟨g1, g2, g3, g4, g5, g6, g7, g8, g9⟩
      have HB := Kp.mk (And.intro hF1 (And.intro hF2 (And.intro hF5 (And.intro hF6 (And.intro hF7 (And.intro hF8 hF9))))))
      have HK6 := Kp.mk (And.intro HN.out.2.1 HN.out.2.2.1)
      have HC := Kp.mk (And.intro hF3 hF4)
      clear hS hT hF1 hF2 hF3 hF4 hF5 hF6 hF7 hF8 hF9 H4 HFI HSAY hj HJ HKN HI HN HBR
      have e8 : (8 : Int) = ((sd : Nat) : Int) := by have := HC.out.1; omega
      have hla : ((la : Nat) : Int) < 200 := by have := HC.out.2; omega
      have hla2 : la < 200 := HC.out.2
      have hsd8 : (((sd : Nat) : Int) == 8) = true := by rw [← e8]; simp
      clear e8
      go_upto_region 33 with fail
      have hd := HOW.out.below (Below.refl _ wr).drew
      refine wp_region_held_drew (S := fun X => X.cell? ⟨wb, 0, none⟩ = some (.pointer (some ⟨Z.lb, 0, none⟩)) ∧ X.cell? ⟨wb, 2, none⟩ = some (.int .i64 x.now)) (by kernel_rfl) ⟨hd.own.cell 0 (wcl_at _ _ (by omega) rfl), hd.own.cell 2 (wcl_at _ _ (by omega) rfl)⟩ (fun hS0 => ?_)
      have HU := Kp.mk hd
      clear hd HOW
      generalize wr.drew = u at *
      refine tD 0 (.pointer (some ⟨wb, 0, none⟩)) 120 rfl rfl hS0 (fun _ _ => by go_simp) ?_
      try simp only [Act.put, zA, zB, zC]
      refine tD 1 (.pointer (some ⟨wb, 0, none⟩)) 121 rfl rfl hS0 (fun _ _ => by go_simp) ?_
      try simp only [Act.put, zA, zB, zC]
      refine tD 2 (.pointer (some ⟨wb, 0, none⟩)) 122 rfl rfl hS0 (fun _ _ => by go_simp) ?_
      try simp only [Act.put, zA, zB, zC]
      refine tD 3 (.pointer (some ⟨Z.lb, 0, none⟩)) 123 rfl rfl hS0 ?_ ?_
      ·rintro w' hq
       obtain ⟨hq1, hq2⟩ := hq
       go_simp
      try simp only [Act.put, zA, zB, zC]
      refine rD 4 rfl fun K hK => ?_
      try rw [if_pos (by rfl)]
      go_simp
      go_at_call 15
      refine (HU.out.ln.failedC).mono ?_
      rintro en wx ⟨rfl, hwx⟩
      replace hwx := hwx.symm
      subst hwx
      rw [HB.out.1]
      refine hK.out _ _ hS0 (fun _ => ?_)
      clear hK K
      try simp only [Act.put, zA, zB, zC]
      refine tD 5 (.bool true) 125 rfl rfl hS0 (fun _ _ => by go_simp) ?_
      try simp only [Act.put, zA, zB, zC]
      refine tD 6 (.pointer (some ⟨wb, 0, none⟩)) 126 rfl rfl hS0 (fun _ _ => by go_simp) ?_
      try simp only [Act.put, zA, zB, zC]
      refine tD 7 (.pointer (some ⟨wb, 0, none⟩)) 127 rfl rfl hS0 (fun _ _ => by go_simp) ?_
      try simp only [Act.put, zA, zB, zC]
      refine tD 8 (.pointer (some ⟨wb, 0, none⟩)) 128 rfl rfl hS0 (fun _ _ => by go_simp) ?_
      try simp only [Act.put, zA, zB, zC]
      refine tD 9 (.pointer (some ⟨Z.lb, 0, none⟩)) 129 rfl rfl hS0 ?_ ?_
      ·rintro w' hq
       obtain ⟨hq1, hq2⟩ := hq
       go_simp
      try simp only [Act.put, zA, zB, zC]
      refine rD 10 rfl fun K hK => ?_
      try rw [if_pos (by rfl)]
      go_simp
      go_at_call 13
      refine (HU.out.ln.openC).mono ?_
      rintro en wx ⟨rfl, hwx⟩
      replace hwx := hwx.symm
      subst hwx
      rw [HB.out.2.1]
      refine hK.out _ _ hS0 (fun _ => ?_)
      clear hK K
      try simp only [Act.put, zA, zB, zC]
      refine tD 11 (.bool true) 131 rfl rfl hS0 (fun _ _ => by go_simp) ?_
      try simp only [Act.put, zA, zB, zC]
      refine tD 12 (.bool true) 132 rfl rfl hS0 (fun _ _ => by go_simp) ?_
      try simp only [Act.put, zA, zB, zC]
      refine tD 13 (.bool true) 133 rfl rfl hS0 (fun _ _ => by go_simp) ?_
      try simp only [Act.put, zA, zB, zC]
      refine tD 14 (.int .i64 (sd : Nat)) 134 rfl rfl hS0 (fun _ _ => by go_simp) ?_
      try simp only [Act.put, zA, zB, zC]
      refine tD 15 (.int .i64 8) 135 rfl rfl hS0 (fun _ _ => by go_simp) ?_
      try simp only [Act.put, zA, zB, zC]
      refine tD 16 (.bool true) 136 rfl rfl hS0 (fun _ _ => by go_simp) ?_
      try simp only [Act.put, zA, zB, zC]
      refine tD 17 (.bool true) 137 rfl rfl hS0 (fun _ _ => by go_simp) ?_
      try simp only [Act.put, zA, zB, zC]
      refine tD 18 (.bool true) 138 rfl rfl hS0 (fun _ _ => by go_simp) ?_
      try simp only [Act.put, zA, zB, zC]
      refine tD 19 (.int .i64 (la : Nat)) 139 rfl rfl hS0 (fun _ _ => by go_simp) ?_
      try simp only [Act.put, zA, zB, zC]
      refine tD 20 (.bool true) 140 rfl rfl hS0 (fun _ _ => by go_simp) ?_
      try simp only [Act.put, zA, zB, zC]
      refine tD 21 (.bool true) 141 rfl rfl hS0 (fun _ _ => by go_simp) ?_
      try simp only [Act.put, zA, zB, zC]
      refine tD 22 (.bool true) 142 rfl rfl hS0 (fun _ _ => by go_simp) ?_
      try simp only [Act.put, zA, zB, zC]
      refine tD 23 (.pointer (some ⟨wb, 0, none⟩)) 143 rfl rfl hS0 (fun _ _ => by go_simp) ?_
      try simp only [Act.put, zA, zB, zC]
      refine tD 24 (.pointer (some ⟨wb, 0, none⟩)) 144 rfl rfl hS0 (fun _ _ => by go_simp) ?_
      try simp only [Act.put, zA, zB, zC]
      refine tD 25 (.pointer (some ⟨wb, 0, none⟩)) 145 rfl rfl hS0 (fun _ _ => by go_simp) ?_
      try simp only [Act.put, zA, zB, zC]
      refine tD 26 (.pointer (some ⟨Z.lb, 0, none⟩)) 146 rfl rfl hS0 ?_ ?_
      ·rintro w' hq
       obtain ⟨hq1, hq2⟩ := hq
       go_simp
      try simp only [Act.put, zA, zB, zC]
      refine tD 27 (.agg #[.int .i64 1, .int .i64 0, .int .i64 0, .int .i64 0, .int .i64 0, .int .i64 0, .int .i64 0, .int .i64 0, .int .i64 0, .int .u8 0, .int .u8 0, .int .u8 0, .int .u8 0, .int .u8 0, .int .u8 0, .slice none 0 0, .int .i64 0, .int .i64 0, .int .i64 0, .int .i64 0, .int .i64 0]) 147 rfl rfl hS0 ?_ ?_
      ·rintro w' _
       first | kernel_rfl | go_simp
      try simp only [Act.put, zA, zB, zC]
      refine rD 28 rfl fun K hK => ?_
      try rw [if_pos (by rfl)]
      go_simp
      go_at_call 36
      refine (HU.out.ln.sendC (o := wipeO) (A := none) (n := 0) (c0 := 0) ⟨Ro.nil _ _, u8_wipe⟩).mono ?_
      rintro en u1 ⟨rfl, q1, hl1, ht1⟩
      rw [HB.out.2.2.1]
      rw [Ls.send_failed HB.out.1] at hl1
      have h1 := HU.out.line hl1 ht1
      have hS1 : u1.cell? ⟨wb, 0, none⟩ = some (.pointer (some ⟨Z.lb, 0, none⟩)) ∧ u1.cell? ⟨wb, 2, none⟩ = some (.int .i64 x.now) := ⟨h1.own.cell 0 (wcl_at _ _ (by omega) rfl), h1.own.cell 2 (wcl_at _ _ (by omega) rfl)⟩
      have HO1 := Kp.mk h1
      clear h1
      refine hK.out _ _ hS1 (fun _ => ?_)
      clear hK K
      try simp only [Act.put, zA, zB, zC]
      refine tD 29 (.bool true) 149 rfl rfl hS1 (fun _ _ => by go_simp) ?_
      try simp only [Act.put, zA, zB, zC]
      refine tD 30 (.bool true) 150 rfl rfl hS1 (fun _ _ => by go_simp) ?_
      try simp only [Act.put, zA, zB, zC]
      refine tD 31 (.bool true) 151 rfl rfl hS1 (fun _ _ => by go_simp) ?_
      try simp only [Act.put, zA, zB, zC]
      refine tD 32 (.pointer (some ⟨wb, 0, none⟩)) 152 rfl rfl hS1 (fun _ _ => by go_simp) ?_
      try simp only [Act.put, zA, zB, zC]
      refine tD 33 (.pointer (some ⟨wb, 0, none⟩)) 153 rfl rfl hS1 (fun _ _ => by go_simp) ?_
      try simp only [Act.put, zA, zB, zC]
      refine tD 34 (.pointer (some ⟨wb, 0, none⟩)) 154 rfl rfl hS1 (fun _ _ => by go_simp) ?_
      try simp only [Act.put, zA, zB, zC]
      refine tD 35 (.pointer (some ⟨Z.lb, 0, none⟩)) 155 rfl rfl hS1 ?_ ?_
      ·rintro w' hq
       obtain ⟨hq1, hq2⟩ := hq
       go_simp
      try simp only [Act.put, zA, zB, zC]
      refine tD 36 (.pointer (some ⟨wb, 0, none⟩)) 156 rfl rfl hS1 (fun _ _ => by go_simp) ?_
      try simp only [Act.put, zA, zB, zC]
      refine tD 37 (.pointer (some ⟨wb, 0, none⟩)) 157 rfl rfl hS1 (fun _ _ => by go_simp) ?_
      try simp only [Act.put, zA, zB, zC]
      refine tD 38 (.pointer (some ⟨wb, 2, none⟩)) 158 rfl rfl hS1 (fun _ _ => by go_simp) ?_
      try simp only [Act.put, zA, zB, zC]
      refine tD 39 (.int .i64 x.now) 159 rfl rfl hS1 ?_ ?_
      ·rintro w' hq
       obtain ⟨hq1, hq2⟩ := hq
       go_simp
      try simp only [Act.put, zA, zB, zC]
      refine rD 40 rfl fun K hK => ?_
      try rw [if_pos (by rfl)]
      go_simp
      go_at_call 31
      refine (HO1.out.ln.beginC 1 x.now).mono ?_
      rintro en u2 ⟨e2, q2, c2, hl2, ht2⟩
      replace e2 : en = Ending.returned (.int .i64 130) := e2.trans (congrArg (fun z => Ending.returned (.int .i64 z)) HB.out.2.2.2.1)
      subst e2
      rw [Ls.begin_no (l := x.l) (by rw [HB.out.2.2.2.1]; decide)] at hl2
      have h2 := HO1.out.line hl2 ht2
      have hS2 : u2.cell? ⟨wb, 0, none⟩ = some (.pointer (some ⟨Z.lb, 0, none⟩)) ∧ u2.cell? ⟨wb, 2, none⟩ = some (.int .i64 x.now) := ⟨h2.own.cell 0 (wcl_at _ _ (by omega) rfl), h2.own.cell 2 (wcl_at _ _ (by omega) rfl)⟩
      have HO2 := Kp.mk h2
      clear h2
      refine hK.out _ _ hS2 (fun _ => ?_)
      clear hK K
      try simp only [Act.put, zA, zB, zC]
      refine tD 41 (.bool true) 161 rfl rfl hS2 (fun _ _ => by go_simp) ?_
      try simp only [Act.put, zA, zB, zC]
      refine tD 42 (.bool true) 162 rfl rfl hS2 (fun _ _ => by go_simp) ?_
      try simp only [Act.put, zA, zB, zC]
      refine tD 43 (.bool true) 163 rfl rfl hS2 (fun _ _ => by go_simp) ?_
      try simp only [Act.put, zA, zB, zC]
      refine tD 44 (.pointer (some ⟨wb, 0, none⟩)) 164 rfl rfl hS2 (fun _ _ => by go_simp) ?_
      try simp only [Act.put, zA, zB, zC]
      refine tD 45 (.pointer (some ⟨wb, 0, none⟩)) 165 rfl rfl hS2 (fun _ _ => by go_simp) ?_
      try simp only [Act.put, zA, zB, zC]
      refine tD 46 (.pointer (some ⟨wb, 0, none⟩)) 166 rfl rfl hS2 (fun _ _ => by go_simp) ?_
      try simp only [Act.put, zA, zB, zC]
      refine tD 47 (.pointer (some ⟨Z.lb, 0, none⟩)) 167 rfl rfl hS2 ?_ ?_
      ·rintro w' hq
       obtain ⟨hq1, hq2⟩ := hq
       go_simp
      try simp only [Act.put, zA, zB, zC]
      refine tD 48 (.pointer (some ⟨wb, 0, none⟩)) 168 rfl rfl hS2 (fun _ _ => by go_simp) ?_
      try simp only [Act.put, zA, zB, zC]
      refine tD 49 (.pointer (some ⟨wb, 0, none⟩)) 169 rfl rfl hS2 (fun _ _ => by go_simp) ?_
      try simp only [Act.put, zA, zB, zC]
      refine tD 50 (.pointer (some ⟨wb, 2, none⟩)) 170 rfl rfl hS2 (fun _ _ => by go_simp) ?_
      try simp only [Act.put, zA, zB, zC]
      refine tD 51 (.int .i64 x.now) 171 rfl rfl hS2 ?_ ?_
      ·rintro w' hq
       obtain ⟨hq1, hq2⟩ := hq
       go_simp
      try simp only [Act.put, zA, zB, zC]
      refine rD 52 rfl fun K hK => ?_
      try rw [if_pos (by rfl)]
      go_simp
      go_at_call 31
      refine (HO2.out.ln.beginC 2 x.now).mono ?_
      rintro en u3 ⟨e3, q3, c3, hl3, ht3⟩
      replace e3 : en = Ending.returned (.int .i64 0) := e3.trans (congrArg (fun z => Ending.returned (.int .i64 z)) HB.out.2.2.2.2.1)
      subst e3
      have h3 := HO2.out.line hl3 ht3
      have hS3 : u3.cell? ⟨wb, 0, none⟩ = some (.pointer (some ⟨Z.lb, 0, none⟩)) ∧ u3.cell? ⟨wb, 2, none⟩ = some (.int .i64 x.now) := ⟨h3.own.cell 0 (wcl_at _ _ (by omega) rfl), h3.own.cell 2 (wcl_at _ _ (by omega) rfl)⟩
      have HO3 := Kp.mk h3
      clear h3
      refine hK.out _ _ hS3 (fun _ => ?_)
      clear hK K
      try simp only [Act.put, zA, zB, zC]
      refine tD 53 (.bool true) 173 rfl rfl hS3 (fun _ _ => by go_simp) ?_
      try simp only [Act.put, zA, zB, zC]
      refine tD 54 (.bool true) 174 rfl rfl hS3 (fun _ _ => by go_simp) ?_
      try simp only [Act.put, zA, zB, zC]
      refine tD 55 (.bool true) 175 rfl rfl hS3 (fun _ _ => by go_simp) ?_
      try simp only [Act.put, zA, zB, zC]
      refine tD 56 (.pointer (some ⟨wb, 0, none⟩)) 176 rfl rfl hS3 (fun _ _ => by go_simp) ?_
      try simp only [Act.put, zA, zB, zC]
      refine tD 57 (.pointer (some ⟨wb, 0, none⟩)) 177 rfl rfl hS3 (fun _ _ => by go_simp) ?_
      try simp only [Act.put, zA, zB, zC]
      refine tD 58 (.pointer (some ⟨wb, 0, none⟩)) 178 rfl rfl hS3 (fun _ _ => by go_simp) ?_
      try simp only [Act.put, zA, zB, zC]
      refine tD 59 (.pointer (some ⟨Z.lb, 0, none⟩)) 179 rfl rfl hS3 ?_ ?_
      ·rintro w' hq
       obtain ⟨hq1, hq2⟩ := hq
       go_simp
      try simp only [Act.put, zA, zB, zC]
      refine rD 60 rfl fun K hK => ?_
      try rw [if_pos (by rfl)]
      go_simp
      go_at_call 15
      refine (HO3.out.ln.failedC).mono ?_
      rintro en wx ⟨rfl, hwx⟩
      replace hwx := hwx.symm
      subst hwx
      rw [show Ls.failed _ = false from HB.out.2.2.2.2.2.1]
      refine hK.out _ _ hS3 (fun _ => ?_)
      clear hK K
      try simp only [Act.put, zA, zB, zC]
      refine tD 61 (.bool true) 181 rfl rfl hS3 (fun _ _ => by go_simp) ?_
      try simp only [Act.put, zA, zB, zC]
      refine tD 62 (.bool true) 182 rfl rfl hS3 (fun _ _ => by go_simp) ?_
      try simp only [Act.put, zA, zB, zC]
      refine tD 63 (.bool true) 183 rfl rfl hS3 (fun _ _ => by go_simp) ?_
      try simp only [Act.put, zA, zB, zC]
      refine tD 64 (.pointer (some ⟨wb, 0, none⟩)) 184 rfl rfl hS3 (fun _ _ => by go_simp) ?_
      try simp only [Act.put, zA, zB, zC]
      refine tD 65 (.pointer (some ⟨wb, 0, none⟩)) 185 rfl rfl hS3 (fun _ _ => by go_simp) ?_
      try simp only [Act.put, zA, zB, zC]
      refine tD 66 (.pointer (some ⟨wb, 0, none⟩)) 186 rfl rfl hS3 (fun _ _ => by go_simp) ?_
      try simp only [Act.put, zA, zB, zC]
      refine tD 67 (.pointer (some ⟨Z.lb, 0, none⟩)) 187 rfl rfl hS3 ?_ ?_
      ·rintro w' hq
       obtain ⟨hq1, hq2⟩ := hq
       go_simp
      try simp only [Act.put, zA, zB, zC]
      refine rD 68 rfl fun K hK => ?_
      try rw [if_pos (by rfl)]
      go_simp
      go_at_call 17
      refine (HO3.out.ln.leftC).mono ?_
      rintro en wx ⟨rfl, hwx⟩
      replace hwx := hwx.symm
      subst hwx
      rw [show Ls.left _ = 0 from HB.out.2.2.2.2.2.2]
      refine hK.out _ _ hS3 (fun _ => ?_)
      clear hK K
      try simp only [Act.put, zA, zB, zC]
      refine tD 69 (.bool true) 189 rfl rfl hS3 (fun _ _ => by go_simp) ?_
      try simp only [Act.put, zA, zB, zC]
      refine tD 70 (.bool true) 190 rfl rfl hS3 (fun _ _ => by go_simp) ?_
      try simp only [Act.put, zA, zB, zC]
      refine tD 71 (.bool true) 191 rfl rfl hS3 (fun _ _ => by go_simp) ?_
      try simp only [Act.put, zA, zB, zC]
      refine rD 72 rfl fun K hK => ?_
      try rw [if_pos (by rfl)]
      go_simp
      go_at_call 27
      refine (works17 _).mono ?_
      rintro en u4 ⟨rfl, hb4⟩
      have h4 := HO3.out.below hb4
      have hS4 : u4.cell? ⟨wb, 0, none⟩ = some (.pointer (some ⟨Z.lb, 0, none⟩)) ∧ u4.cell? ⟨wb, 2, none⟩ = some (.int .i64 x.now) := ⟨h4.own.cell 0 (wcl_at _ _ (by omega) rfl), h4.own.cell 2 (wcl_at _ _ (by omega) rfl)⟩
      have HO4 := Kp.mk h4.old
      clear h4 hb4
      refine hK.out _ _ hS4 (fun _ => ?_)
      clear hK K
      try simp only [Act.put, zA, zB, zC]
      refine tD 73 (.bool true) 193 rfl rfl hS4 (fun _ _ => by go_simp) ?_
      try simp only [Act.put, zA, zB, zC]
      refine tD 74 (.bool true) 4 rfl rfl hS4 (fun _ _ => by go_simp) ?_
      try simp only [Act.put, zA, zB, zC]
      refine wpAnyH_done (by kernel_rfl) ?_ _
      clear hS0 hS1 hS2 hS3 hS4
      go_wp2_with fail
      go_ret
      exact ⟨rfl, HO4.out⟩
     have HJ2 := Kp.mk (show j + 1 ≤ 300 by omega)
     have hsd := H4.out.said
     generalize hS : (fr (slF k (gs (g0 false)).1) (g0 false) j).2.1 = sd at *
     generalize hT : (fr (slF k (gs (g0 false)).1) (g0 false) j).2.2 = la at *
     have HST := Kp.mk (And.intro hS hT)
     have HSD := Kp.mk hsd
     clear hS hT hsd
     obtain ⟨t, HT⟩ : ∃ t : Int, Kp (t = ((g0 false + (j + 1) : Nat) : Int) ∧ wrap64 (x.now + 1) = t) := ⟨_, Kp.mk ⟨rfl, by rw [H4.out.now]; have := HJ2.out; unfold g0 wrap64; split <;> omega⟩⟩
     have hw1 := HT.out.2
     have a2 := H4.out.ww.own.cell 2 (wcl_at _ Z (by omega) (u := .int .i64 x.now) rfl)
     have f2 := H4.out.ww.own.free 2
     go_upto_region 26 with fail
     have H5 := Kp.mk (show Ww W (wr.setCell ⟨wb, 2, none⟩ (.int .i64 t)) wb Z { x with now := t } from H4.out.ww.cell 2 _ (wcl_setNow x Z _) ⟨rfl, rfl, rfl, rfl⟩ ⟨rfl, rfl, rfl, rfl, rfl, rfl, rfl, rfl⟩)
     clear hw1 a2 f2 hj
     generalize wr.setCell ⟨wb, 2, none⟩ (.int .i64 t) = w3 at *
     have hd := H5.out.below (Below.refl _ w3).drew
     refine wp_region_held_drew (S := fun X => X.cell? ⟨wb, 0, none⟩ = some (.pointer (some ⟨Z.lb, 0, none⟩)) ∧ X.cell? ⟨wb, 2, none⟩ = some (.int .i64 t)) (by kernel_rfl) ⟨hd.own.cell 0 (wcl_at _ Z (by omega) rfl), hd.own.cell 2 (wcl_at _ Z (by omega) rfl)⟩ (fun hSu => ?_)
     have HU := Kp.mk hd
     clear hd H5
     generalize w3.drew = u at *
     refine tD 0 (.pointer (some ⟨wb, 0, none⟩)) 99 rfl rfl hSu (fun _ _ => by go_simp) ?_
     try simp only [Act.put, zA, zB, zC]
     refine tD 1 (.pointer (some ⟨wb, 0, none⟩)) 100 rfl rfl hSu (fun _ _ => by go_simp) ?_
     try simp only [Act.put, zA, zB, zC]
     refine tD 2 (.pointer (some ⟨wb, 0, none⟩)) 101 rfl rfl hSu (fun _ _ => by go_simp) ?_
     try simp only [Act.put, zA, zB, zC]
     refine tD 3 (.pointer (some ⟨Z.lb, 0, none⟩)) 102 rfl rfl hSu ?_ ?_
     ·rintro w' hq
      obtain ⟨hq1, hq2⟩ := hq
      go_simp
     try simp only [Act.put, zA, zB, zC]
     refine tD 4 (.pointer (some ⟨wb, 0, none⟩)) 103 rfl rfl hSu (fun _ _ => by go_simp) ?_
     try simp only [Act.put, zA, zB, zC]
     refine tD 5 (.pointer (some ⟨wb, 0, none⟩)) 104 rfl rfl hSu (fun _ _ => by go_simp) ?_
     try simp only [Act.put, zA, zB, zC]
     refine tD 6 (.pointer (some ⟨wb, 2, none⟩)) 105 rfl rfl hSu (fun _ _ => by go_simp) ?_
     try simp only [Act.put, zA, zB, zC]
     refine tD 7 (.int .i64 t) 106 rfl rfl hSu ?_ ?_
     ·rintro w' hq
      obtain ⟨hq1, hq2⟩ := hq
      go_simp
     try simp only [Act.put, zA, zB, zC]
     refine rD 8 rfl fun K hK => ?_
     try rw [if_pos (by rfl)]
     go_simp
     go_at_call 34
     refine (HU.out.ln.tickC t).mono ?_
     rintro en u5 ⟨A5, n5, c5b, L5, rfl, hv5, hL5, hn5, hl5, hc5⟩
     have h5 := HU.out.line hl5 (.same hc5)
     have hS5 : u5.cell? ⟨wb, 0, none⟩ = some (.pointer (some ⟨Z.lb, 0, none⟩)) ∧ u5.cell? ⟨wb, 2, none⟩ = some (.int .i64 t) := ⟨h5.own.cell 0 (wcl_at _ _ (by omega) rfl), h5.own.cell 2 (wcl_at _ _ (by omega) rfl)⟩
     have H5 := Kp.mk h5
     have HL5 := Kp.mk (show n5 = (x.l.says t).length ∧ n5 ≤ 9 by have h9 := hv5.out.len; rw [← hL5, List.length_map]; exact ⟨h9.symm, hn5⟩)
     clear hl5 hc5 h5 hv5 hL5 hn5
     refine hK.out _ _ hS5 (fun _ => ?_)
     clear hK K
     try simp only [Act.put, zA, zB, zC]
     refine tD 9 (.slice A5 n5 c5b) 14 rfl rfl hS5 (fun _ _ => by go_simp) ?_
     try simp only [Act.put, zA, zB, zC]
     refine wpAnyH_done (by kernel_rfl) ?_ _
     clear hSu hS5 HU
     have HFR := Kp.mk (fr_said (l := slF k (gs (g0 false)).1) (t0 := g0 false) (n := n5) (i := j) (by rw [HST.out.1]; exact HSD.out) (by rw [← H4.out.l, ← HT.out.1]; exact HL5.out.1.symm) HL5.out.2)
     have H6 := Kp.mk (show F4 W u5 wb _ _ false k (j + 1) from ⟨H5.out, by rw [fr_l, ← HT.out.1, ← H4.out.l], HT.out.1, HFR.out.1⟩)
     have e4 : wrap64 ((sd : Int) + (n5 : Int)) = ((sd + n5 : Nat) : Int) := by have := HSD.out; have := HL5.out.2; have := HJ2.out; unfold wrap64; omega
     have ei : wrap64 ((j : Int) + 1) = (j : Int) + 1 := by have := HJ2.out; unfold wrap64; omega
     have HEI := Kp.mk ei
     have HE4 := Kp.mk e4
     clear H5 H4 ei
     by_cases hz : n5 = 0
     ·have e5 : decide ((0 : Int) < (n5 : Int)) = false := by simp [hz]
      have e7 : decide (0 < n5) = false := by simp [hz]
      have e6 : (fr (slF k (gs (g0 false)).1) (g0 false) (j + 1)).2.1 = sd + n5 ∧ (fr (slF k (gs (g0 false)).1) (g0 false) (j + 1)).2.2 = la := ⟨by rw [HFR.out.2.1, HST.out.1], by rw [HFR.out.2.2, if_neg (by omega), HST.out.2]⟩
      have HE6 := Kp.mk e6
      clear e6 hz
      go_wp2_with fail
      clear e4 e5 e7
      go_roundw
      case rel => exact ⟨j + 1, _, _, by rw [HE6.out.1, HE4.out], by rw [HE6.out.2], by rw [HEI.out]; rfl, HJ2, H6⟩
      case measure => rw [HEI.out]; exact meas_i HJ2.out
     ·have e5 : (0 : Int) < (n5 : Int) := by omega
      have e7 : 0 < n5 := by omega
      have e6 : (fr (slF k (gs (g0 false)).1) (g0 false) (j + 1)).2.1 = sd + n5 ∧ (fr (slF k (gs (g0 false)).1) (g0 false) (j + 1)).2.2 = j := ⟨by rw [HFR.out.2.1, HST.out.1], by rw [HFR.out.2.2, if_pos (by omega)]⟩
      have HE6 := Kp.mk e6
      clear e6 hz
      go_wp2_with fail
      clear e4 e5 e7
      go_roundw
      case rel => exact ⟨j + 1, _, _, by rw [HE6.out.1, HE4.out], by rw [HE6.out.2], by rw [HEI.out]; rfl, HJ2, H6⟩
      case measure => rw [HEI.out]; exact meas_i HJ2.out
 | true => as_aux_lemma =>
  go_wp2_with fail
  go_loopw [6, 7, 8] (fun s6 _ _ wr => ∃ (i : Nat) (Z : Wk) (x : Wd), s6 = .int .i64 i ∧ Kp (i ≤ g0 true) ∧ Kp (Fw W wr wb Z x i)) (fun s6 _ _ _ => (((12 : Nat) : Int) - intOf s6).toNat)
  case atStart => exact ⟨0, _, _, rfl, Kp.mk (Nat.zero_le _), HF⟩
  case round =>
   clear HF
   obtain ⟨i, Z, x, rfl, HI, HF⟩ := hrel
   by_cases hlt : (i : Int) < 12
   rotate_left
   ·have ei : i = 12 := by have h1 : i ≤ 12 := HI.out; omega
    subst ei
    have H3 := Kp.mk (show F3 W wr wb Z x true 0 from ⟨HF.out.ww, HF.out.l, HF.out.now, HF.out.sent, fun r => by rw [HF.out.rl r]; exact Nat.le_refl _⟩)
    clear HF
    obtain ⟨n, HN⟩ : ∃ n : Nat, Kp (n = m + 1 ∧ 1 ≤ n ∧ n ≤ 6 ∧ wrap64 (1 + (m : Int)) = (n : Int)) := ⟨m + 1, Kp.mk (by have := HM.out.2; unfold wrap64; omega)⟩
    have hwn := HN.out.2.2.2
    go_wp2_with fail
    refine (HBR.out _).mono ?_
    rintro e wx ⟨rfl, hwx⟩
    subst hwx
    go_wp2_with fail
    rw [hwn]
    clear hwn
    go_loopw [10] (fun s10 wr => ∃ (k : Nat) (Z : Wk) (x : Wd), s10 = .int .i64 k ∧ Kp (k ≤ n) ∧ Kp (F3 W wr wb Z x true k)) (fun s10 _ => (((n : Nat) : Int) - intOf s10).toNat)
    case atStart => exact ⟨0, _, _, rfl, Kp.mk (Nat.zero_le _), H3⟩
    case round =>
     clear H3
     obtain ⟨k, Z, x, rfl, HKN, H3⟩ := hrel
     by_cases hkn : (k : Int) < n
     ·have HK2 := Kp.mk (show k + 1 ≤ n by omega)
      have hsl := sendsL_any H3.out.ww (by rw [H3.out.l, slF_e, gs_e (by decide)]; decide) (by rw [H3.out.sent]; have := HK2.out; have := HN.out; omega) (fun r _ => by have := H3.out.rl r; have := HK2.out; have := HN.out; omega)
      go_wp2_with fail
      refine hsl.mono ?_
      rintro en u9 ⟨rfl, Z', h'⟩
      have HS3 := Kp.mk (H3.out.next h')
      have ei : wrap64 ((k : Int) + 1) = (k : Int) + 1 := by have := HK2.out; have := HN.out; unfold wrap64; omega
      clear hsl h' H3 hkn
      go_wp2_with fail
      go_roundw
      case rel => exact ⟨k + 1, _, _, by rw [ei]; rfl, HK2, HS3⟩
      case measure => rw [ei]; exact meas_i HK2.out
     have ek : k = n := by have := HKN.out; omega
     subst ek
     have H4 := Kp.mk (show F4 W wr wb Z x true k 0 from ⟨H3.out.ww, H3.out.l, H3.out.now, Nat.zero_le _⟩)
     clear H3
     go_wp2_with fail
     clear hkn
     go_loopw [11, 12, 13, 14] (fun s11 s12 s13 _ wr => ∃ (i : Nat) (Z : Wk) (x : Wd), s11 = .int .i64 ((fr (slF k (gs (g0 true)).1) (g0 true) i).2.1 : Nat) ∧ s12 = .int .i64 ((fr (slF k (gs (g0 true)).1) (g0 true) i).2.2 : Nat) ∧ s13 = .int .i64 i ∧ Kp (i ≤ 300) ∧ Kp (F4 W wr wb Z x true k i)) (fun _ _ s13 _ _ => (((300 : Nat) : Int) - intOf s13).toNat)
     case atStart => exact ⟨0, _, _, rfl, rfl, rfl, Kp.mk (Nat.zero_le _), H4⟩
     case round =>
      clear H4
      obtain ⟨j, Z, x, rfl, rfl, rfl, HJ, H4⟩ := hrel
      by_cases hj : (j : Int) < 300
      rotate_left
      ·have ej : j = 300 := by have := HJ.out; omega
       subst ej
       have HFI := Kp.mk (fin_all true HN.out.2.1 HN.out.2.2.1)
       have HXL := Kp.mk (show x.l = (fin true k).1 from H4.out.l)
       have HXN := Kp.mk (show x.now = ((g0 true + 300 : Nat) : Int) from H4.out.now)
       have HOW := Kp.mk H4.out.ww
       have HSAY := Kp.mk H4.out.said
       generalize hS : (fr (slF k (gs (g0 true)).1) (g0 true) 300).2.1 = sd at *
       generalize hT : (fr (slF k (gs (g0 true)).1) (g0 true) 300).2.2 = la at *
       obtain ⟨hF1, hF2, hF3, hF4, hF5, hF6, hF7, hF8, hF9⟩ : x.l.failed = true ∧ x.l.opn = false ∧ sd = 9 * min k 4 ∧ la < 200 ∧ x.l.sendE wipeO = 180 ∧ x.l.begE 1 x.now = 130 ∧ x.l.begE 2 x.now = 0 ∧ (x.l.begin_ 2 x.now).failed = false ∧ (x.l.begin_ 2 x.now).left = 0 := by
        have h := HFI.out
        have h1 : (fin true k).2.1 = sd := hS
        have h2 : (fin true k).2.2 = la := hT
        unfold finOk at h
        rw [h1, h2, ← HXL.out, ← HXN.out] at h
        simp only [Bool.and_eq_true, Bool.not_eq_true', beq_iff_eq, decide_eq_true_eq, if_true, Bool.false_eq_true, if_false] at h
        obtain ⟨⟨⟨⟨⟨⟨⟨⟨g1, g2⟩, g3⟩, g4⟩, g5⟩, g6⟩, g7⟩, g8⟩, g9⟩ := h
        exact ⟨g1, g2, g3, g4, g5, g6, g7, g8, g9⟩
       have HB := Kp.mk (And.intro hF1 (And.intro hF2 (And.intro hF5 (And.intro hF6 (And.intro hF7 (And.intro hF8 hF9))))))
       have HK6 := Kp.mk (And.intro HN.out.2.1 HN.out.2.2.1)
       have HC := Kp.mk (And.intro hF3 hF4)
       clear hS hT hF1 hF2 hF3 hF4 hF5 hF6 hF7 hF8 hF9 H4 HFI HSAY hj HJ HKN HI HN HBR
       go_upto_region 32 with fail
       rename_i K32 h32
       go_cut [15] from 117 to 119 (fun s15 wx => s15 = .int .i64 (sd : Nat) ∧ wx = wr)
       case first =>
        have hk6 := HK6.out
        go_wp2_with fail
        all_goals (go_meet; case rel => exact ⟨congrArg (Value.int .i64) (by have := HC.out.1; first | omega | (unfold wrap64; omega)), rfl⟩)
       obtain ⟨rfl, hwx⟩ := hcut
       subst hwx
       refine h32 _ _ ?_
       have hla : ((la : Nat) : Int) < 200 := by have := HC.out.2; omega
       have hla2 : la < 200 := HC.out.2
       go_upto_region 33 with fail
       have hd := HOW.out.below (Below.refl _ wc).drew
       refine wp_region_held_drew (S := fun X => X.cell? ⟨wb, 0, none⟩ = some (.pointer (some ⟨Z.lb, 0, none⟩)) ∧ X.cell? ⟨wb, 2, none⟩ = some (.int .i64 x.now)) (by kernel_rfl) ⟨hd.own.cell 0 (wcl_at _ _ (by omega) rfl), hd.own.cell 2 (wcl_at _ _ (by omega) rfl)⟩ (fun hS0 => ?_)
       have HU := Kp.mk hd
       clear hd HOW
       generalize wc.drew = u at *
       refine tD 0 (.pointer (some ⟨wb, 0, none⟩)) 120 rfl rfl hS0 (fun _ _ => by go_simp) ?_
       try simp only [Act.put, zA, zB, zC]
       refine tD 1 (.pointer (some ⟨wb, 0, none⟩)) 121 rfl rfl hS0 (fun _ _ => by go_simp) ?_
       try simp only [Act.put, zA, zB, zC]
       refine tD 2 (.pointer (some ⟨wb, 0, none⟩)) 122 rfl rfl hS0 (fun _ _ => by go_simp) ?_
       try simp only [Act.put, zA, zB, zC]
       refine tD 3 (.pointer (some ⟨Z.lb, 0, none⟩)) 123 rfl rfl hS0 ?_ ?_
       ·rintro w' hq
        obtain ⟨hq1, hq2⟩ := hq
        go_simp
       try simp only [Act.put, zA, zB, zC]
       refine rD 4 rfl fun K hK => ?_
       try rw [if_pos (by rfl)]
       go_simp
       go_at_call 15
       refine (HU.out.ln.failedC).mono ?_
       rintro en wx ⟨rfl, hwx⟩
       replace hwx := hwx.symm
       subst hwx
       rw [HB.out.1]
       refine hK.out _ _ hS0 (fun _ => ?_)
       clear hK K
       try simp only [Act.put, zA, zB, zC]
       refine tD 5 (.bool true) 125 rfl rfl hS0 (fun _ _ => by go_simp) ?_
       try simp only [Act.put, zA, zB, zC]
       refine tD 6 (.pointer (some ⟨wb, 0, none⟩)) 126 rfl rfl hS0 (fun _ _ => by go_simp) ?_
       try simp only [Act.put, zA, zB, zC]
       refine tD 7 (.pointer (some ⟨wb, 0, none⟩)) 127 rfl rfl hS0 (fun _ _ => by go_simp) ?_
       try simp only [Act.put, zA, zB, zC]
       refine tD 8 (.pointer (some ⟨wb, 0, none⟩)) 128 rfl rfl hS0 (fun _ _ => by go_simp) ?_
       try simp only [Act.put, zA, zB, zC]
       refine tD 9 (.pointer (some ⟨Z.lb, 0, none⟩)) 129 rfl rfl hS0 ?_ ?_
       ·rintro w' hq
        obtain ⟨hq1, hq2⟩ := hq
        go_simp
       try simp only [Act.put, zA, zB, zC]
       refine rD 10 rfl fun K hK => ?_
       try rw [if_pos (by rfl)]
       go_simp
       go_at_call 13
       refine (HU.out.ln.openC).mono ?_
       rintro en wx ⟨rfl, hwx⟩
       replace hwx := hwx.symm
       subst hwx
       rw [HB.out.2.1]
       refine hK.out _ _ hS0 (fun _ => ?_)
       clear hK K
       try simp only [Act.put, zA, zB, zC]
       refine tD 11 (.bool true) 131 rfl rfl hS0 (fun _ _ => by go_simp) ?_
       try simp only [Act.put, zA, zB, zC]
       refine tD 12 (.bool true) 132 rfl rfl hS0 (fun _ _ => by go_simp) ?_
       try simp only [Act.put, zA, zB, zC]
       refine tD 13 (.bool true) 133 rfl rfl hS0 (fun _ _ => by go_simp) ?_
       try simp only [Act.put, zA, zB, zC]
       refine tD 14 (.int .i64 (sd : Nat)) 134 rfl rfl hS0 (fun _ _ => by go_simp) ?_
       try simp only [Act.put, zA, zB, zC]
       refine tD 15 (.int .i64 (sd : Nat)) 135 rfl rfl hS0 (fun _ _ => by go_simp) ?_
       try simp only [Act.put, zA, zB, zC]
       refine tD 16 (.bool true) 136 rfl rfl hS0 (fun _ _ => by go_simp) ?_
       try simp only [Act.put, zA, zB, zC]
       refine tD 17 (.bool true) 137 rfl rfl hS0 (fun _ _ => by go_simp) ?_
       try simp only [Act.put, zA, zB, zC]
       refine tD 18 (.bool true) 138 rfl rfl hS0 (fun _ _ => by go_simp) ?_
       try simp only [Act.put, zA, zB, zC]
       refine tD 19 (.int .i64 (la : Nat)) 139 rfl rfl hS0 (fun _ _ => by go_simp) ?_
       try simp only [Act.put, zA, zB, zC]
       refine tD 20 (.bool true) 140 rfl rfl hS0 (fun _ _ => by go_simp) ?_
       try simp only [Act.put, zA, zB, zC]
       refine tD 21 (.bool true) 141 rfl rfl hS0 (fun _ _ => by go_simp) ?_
       try simp only [Act.put, zA, zB, zC]
       refine tD 22 (.bool true) 142 rfl rfl hS0 (fun _ _ => by go_simp) ?_
       try simp only [Act.put, zA, zB, zC]
       refine tD 23 (.pointer (some ⟨wb, 0, none⟩)) 143 rfl rfl hS0 (fun _ _ => by go_simp) ?_
       try simp only [Act.put, zA, zB, zC]
       refine tD 24 (.pointer (some ⟨wb, 0, none⟩)) 144 rfl rfl hS0 (fun _ _ => by go_simp) ?_
       try simp only [Act.put, zA, zB, zC]
       refine tD 25 (.pointer (some ⟨wb, 0, none⟩)) 145 rfl rfl hS0 (fun _ _ => by go_simp) ?_
       try simp only [Act.put, zA, zB, zC]
       refine tD 26 (.pointer (some ⟨Z.lb, 0, none⟩)) 146 rfl rfl hS0 ?_ ?_
       ·rintro w' hq
        obtain ⟨hq1, hq2⟩ := hq
        go_simp
       try simp only [Act.put, zA, zB, zC]
       refine tD 27 (.agg #[.int .i64 1, .int .i64 0, .int .i64 0, .int .i64 0, .int .i64 0, .int .i64 0, .int .i64 0, .int .i64 0, .int .i64 0, .int .u8 0, .int .u8 0, .int .u8 0, .int .u8 0, .int .u8 0, .int .u8 0, .slice none 0 0, .int .i64 0, .int .i64 0, .int .i64 0, .int .i64 0, .int .i64 0]) 147 rfl rfl hS0 ?_ ?_
       ·rintro w' _
        first | kernel_rfl | go_simp
       try simp only [Act.put, zA, zB, zC]
       refine rD 28 rfl fun K hK => ?_
       try rw [if_pos (by rfl)]
       go_simp
       go_at_call 36
       refine (HU.out.ln.sendC (o := wipeO) (A := none) (n := 0) (c0 := 0) ⟨Ro.nil _ _, u8_wipe⟩).mono ?_
       rintro en u1 ⟨rfl, q1, hl1, ht1⟩
       rw [HB.out.2.2.1]
       rw [Ls.send_failed HB.out.1] at hl1
       have h1 := HU.out.line hl1 ht1
       have hS1 : u1.cell? ⟨wb, 0, none⟩ = some (.pointer (some ⟨Z.lb, 0, none⟩)) ∧ u1.cell? ⟨wb, 2, none⟩ = some (.int .i64 x.now) := ⟨h1.own.cell 0 (wcl_at _ _ (by omega) rfl), h1.own.cell 2 (wcl_at _ _ (by omega) rfl)⟩
       have HO1 := Kp.mk h1
       clear h1
       refine hK.out _ _ hS1 (fun _ => ?_)
       clear hK K
       try simp only [Act.put, zA, zB, zC]
       refine tD 29 (.bool true) 149 rfl rfl hS1 (fun _ _ => by go_simp) ?_
       try simp only [Act.put, zA, zB, zC]
       refine tD 30 (.bool true) 150 rfl rfl hS1 (fun _ _ => by go_simp) ?_
       try simp only [Act.put, zA, zB, zC]
       refine tD 31 (.bool true) 151 rfl rfl hS1 (fun _ _ => by go_simp) ?_
       try simp only [Act.put, zA, zB, zC]
       refine tD 32 (.pointer (some ⟨wb, 0, none⟩)) 152 rfl rfl hS1 (fun _ _ => by go_simp) ?_
       try simp only [Act.put, zA, zB, zC]
       refine tD 33 (.pointer (some ⟨wb, 0, none⟩)) 153 rfl rfl hS1 (fun _ _ => by go_simp) ?_
       try simp only [Act.put, zA, zB, zC]
       refine tD 34 (.pointer (some ⟨wb, 0, none⟩)) 154 rfl rfl hS1 (fun _ _ => by go_simp) ?_
       try simp only [Act.put, zA, zB, zC]
       refine tD 35 (.pointer (some ⟨Z.lb, 0, none⟩)) 155 rfl rfl hS1 ?_ ?_
       ·rintro w' hq
        obtain ⟨hq1, hq2⟩ := hq
        go_simp
       try simp only [Act.put, zA, zB, zC]
       refine tD 36 (.pointer (some ⟨wb, 0, none⟩)) 156 rfl rfl hS1 (fun _ _ => by go_simp) ?_
       try simp only [Act.put, zA, zB, zC]
       refine tD 37 (.pointer (some ⟨wb, 0, none⟩)) 157 rfl rfl hS1 (fun _ _ => by go_simp) ?_
       try simp only [Act.put, zA, zB, zC]
       refine tD 38 (.pointer (some ⟨wb, 2, none⟩)) 158 rfl rfl hS1 (fun _ _ => by go_simp) ?_
       try simp only [Act.put, zA, zB, zC]
       refine tD 39 (.int .i64 x.now) 159 rfl rfl hS1 ?_ ?_
       ·rintro w' hq
        obtain ⟨hq1, hq2⟩ := hq
        go_simp
       try simp only [Act.put, zA, zB, zC]
       refine rD 40 rfl fun K hK => ?_
       try rw [if_pos (by rfl)]
       go_simp
       go_at_call 31
       refine (HO1.out.ln.beginC 1 x.now).mono ?_
       rintro en u2 ⟨e2, q2, c2, hl2, ht2⟩
       replace e2 : en = Ending.returned (.int .i64 130) := e2.trans (congrArg (fun z => Ending.returned (.int .i64 z)) HB.out.2.2.2.1)
       subst e2
       rw [Ls.begin_no (l := x.l) (by rw [HB.out.2.2.2.1]; decide)] at hl2
       have h2 := HO1.out.line hl2 ht2
       have hS2 : u2.cell? ⟨wb, 0, none⟩ = some (.pointer (some ⟨Z.lb, 0, none⟩)) ∧ u2.cell? ⟨wb, 2, none⟩ = some (.int .i64 x.now) := ⟨h2.own.cell 0 (wcl_at _ _ (by omega) rfl), h2.own.cell 2 (wcl_at _ _ (by omega) rfl)⟩
       have HO2 := Kp.mk h2
       clear h2
       refine hK.out _ _ hS2 (fun _ => ?_)
       clear hK K
       try simp only [Act.put, zA, zB, zC]
       refine tD 41 (.bool true) 161 rfl rfl hS2 (fun _ _ => by go_simp) ?_
       try simp only [Act.put, zA, zB, zC]
       refine tD 42 (.bool true) 162 rfl rfl hS2 (fun _ _ => by go_simp) ?_
       try simp only [Act.put, zA, zB, zC]
       refine tD 43 (.bool true) 163 rfl rfl hS2 (fun _ _ => by go_simp) ?_
       try simp only [Act.put, zA, zB, zC]
       refine tD 44 (.pointer (some ⟨wb, 0, none⟩)) 164 rfl rfl hS2 (fun _ _ => by go_simp) ?_
       try simp only [Act.put, zA, zB, zC]
       refine tD 45 (.pointer (some ⟨wb, 0, none⟩)) 165 rfl rfl hS2 (fun _ _ => by go_simp) ?_
       try simp only [Act.put, zA, zB, zC]
       refine tD 46 (.pointer (some ⟨wb, 0, none⟩)) 166 rfl rfl hS2 (fun _ _ => by go_simp) ?_
       try simp only [Act.put, zA, zB, zC]
       refine tD 47 (.pointer (some ⟨Z.lb, 0, none⟩)) 167 rfl rfl hS2 ?_ ?_
       ·rintro w' hq
        obtain ⟨hq1, hq2⟩ := hq
        go_simp
       try simp only [Act.put, zA, zB, zC]
       refine tD 48 (.pointer (some ⟨wb, 0, none⟩)) 168 rfl rfl hS2 (fun _ _ => by go_simp) ?_
       try simp only [Act.put, zA, zB, zC]
       refine tD 49 (.pointer (some ⟨wb, 0, none⟩)) 169 rfl rfl hS2 (fun _ _ => by go_simp) ?_
       try simp only [Act.put, zA, zB, zC]
       refine tD 50 (.pointer (some ⟨wb, 2, none⟩)) 170 rfl rfl hS2 (fun _ _ => by go_simp) ?_
       try simp only [Act.put, zA, zB, zC]
       refine tD 51 (.int .i64 x.now) 171 rfl rfl hS2 ?_ ?_
       ·rintro w' hq
        obtain ⟨hq1, hq2⟩ := hq
        go_simp
       try simp only [Act.put, zA, zB, zC]
       refine rD 52 rfl fun K hK => ?_
       try rw [if_pos (by rfl)]
       go_simp
       go_at_call 31
       refine (HO2.out.ln.beginC 2 x.now).mono ?_
       rintro en u3 ⟨e3, q3, c3, hl3, ht3⟩
       replace e3 : en = Ending.returned (.int .i64 0) := e3.trans (congrArg (fun z => Ending.returned (.int .i64 z)) HB.out.2.2.2.2.1)
       subst e3
       have h3 := HO2.out.line hl3 ht3
       have hS3 : u3.cell? ⟨wb, 0, none⟩ = some (.pointer (some ⟨Z.lb, 0, none⟩)) ∧ u3.cell? ⟨wb, 2, none⟩ = some (.int .i64 x.now) := ⟨h3.own.cell 0 (wcl_at _ _ (by omega) rfl), h3.own.cell 2 (wcl_at _ _ (by omega) rfl)⟩
       have HO3 := Kp.mk h3
       clear h3
       refine hK.out _ _ hS3 (fun _ => ?_)
       clear hK K
       try simp only [Act.put, zA, zB, zC]
       refine tD 53 (.bool true) 173 rfl rfl hS3 (fun _ _ => by go_simp) ?_
       try simp only [Act.put, zA, zB, zC]
       refine tD 54 (.bool true) 174 rfl rfl hS3 (fun _ _ => by go_simp) ?_
       try simp only [Act.put, zA, zB, zC]
       refine tD 55 (.bool true) 175 rfl rfl hS3 (fun _ _ => by go_simp) ?_
       try simp only [Act.put, zA, zB, zC]
       refine tD 56 (.pointer (some ⟨wb, 0, none⟩)) 176 rfl rfl hS3 (fun _ _ => by go_simp) ?_
       try simp only [Act.put, zA, zB, zC]
       refine tD 57 (.pointer (some ⟨wb, 0, none⟩)) 177 rfl rfl hS3 (fun _ _ => by go_simp) ?_
       try simp only [Act.put, zA, zB, zC]
       refine tD 58 (.pointer (some ⟨wb, 0, none⟩)) 178 rfl rfl hS3 (fun _ _ => by go_simp) ?_
       try simp only [Act.put, zA, zB, zC]
       refine tD 59 (.pointer (some ⟨Z.lb, 0, none⟩)) 179 rfl rfl hS3 ?_ ?_
       ·rintro w' hq
        obtain ⟨hq1, hq2⟩ := hq
        go_simp
       try simp only [Act.put, zA, zB, zC]
       refine rD 60 rfl fun K hK => ?_
       try rw [if_pos (by rfl)]
       go_simp
       go_at_call 15
       refine (HO3.out.ln.failedC).mono ?_
       rintro en wx ⟨rfl, hwx⟩
       replace hwx := hwx.symm
       subst hwx
       rw [show Ls.failed _ = false from HB.out.2.2.2.2.2.1]
       refine hK.out _ _ hS3 (fun _ => ?_)
       clear hK K
       try simp only [Act.put, zA, zB, zC]
       refine tD 61 (.bool true) 181 rfl rfl hS3 (fun _ _ => by go_simp) ?_
       try simp only [Act.put, zA, zB, zC]
       refine tD 62 (.bool true) 182 rfl rfl hS3 (fun _ _ => by go_simp) ?_
       try simp only [Act.put, zA, zB, zC]
       refine tD 63 (.bool true) 183 rfl rfl hS3 (fun _ _ => by go_simp) ?_
       try simp only [Act.put, zA, zB, zC]
       refine tD 64 (.pointer (some ⟨wb, 0, none⟩)) 184 rfl rfl hS3 (fun _ _ => by go_simp) ?_
       try simp only [Act.put, zA, zB, zC]
       refine tD 65 (.pointer (some ⟨wb, 0, none⟩)) 185 rfl rfl hS3 (fun _ _ => by go_simp) ?_
       try simp only [Act.put, zA, zB, zC]
       refine tD 66 (.pointer (some ⟨wb, 0, none⟩)) 186 rfl rfl hS3 (fun _ _ => by go_simp) ?_
       try simp only [Act.put, zA, zB, zC]
       refine tD 67 (.pointer (some ⟨Z.lb, 0, none⟩)) 187 rfl rfl hS3 ?_ ?_
       ·rintro w' hq
        obtain ⟨hq1, hq2⟩ := hq
        go_simp
       try simp only [Act.put, zA, zB, zC]
       refine rD 68 rfl fun K hK => ?_
       try rw [if_pos (by rfl)]
       go_simp
       go_at_call 17
       refine (HO3.out.ln.leftC).mono ?_
       rintro en wx ⟨rfl, hwx⟩
       replace hwx := hwx.symm
       subst hwx
       rw [show Ls.left _ = 0 from HB.out.2.2.2.2.2.2]
       refine hK.out _ _ hS3 (fun _ => ?_)
       clear hK K
       try simp only [Act.put, zA, zB, zC]
       refine tD 69 (.bool true) 189 rfl rfl hS3 (fun _ _ => by go_simp) ?_
       try simp only [Act.put, zA, zB, zC]
       refine tD 70 (.bool true) 190 rfl rfl hS3 (fun _ _ => by go_simp) ?_
       try simp only [Act.put, zA, zB, zC]
       refine tD 71 (.bool true) 191 rfl rfl hS3 (fun _ _ => by go_simp) ?_
       try simp only [Act.put, zA, zB, zC]
       refine rD 72 rfl fun K hK => ?_
       try rw [if_pos (by rfl)]
       go_simp
       go_at_call 27
       refine (works17 _).mono ?_
       rintro en u4 ⟨rfl, hb4⟩
       have h4 := HO3.out.below hb4
       have hS4 : u4.cell? ⟨wb, 0, none⟩ = some (.pointer (some ⟨Z.lb, 0, none⟩)) ∧ u4.cell? ⟨wb, 2, none⟩ = some (.int .i64 x.now) := ⟨h4.own.cell 0 (wcl_at _ _ (by omega) rfl), h4.own.cell 2 (wcl_at _ _ (by omega) rfl)⟩
       have HO4 := Kp.mk h4.old
       clear h4 hb4
       refine hK.out _ _ hS4 (fun _ => ?_)
       clear hK K
       try simp only [Act.put, zA, zB, zC]
       refine tD 73 (.bool true) 193 rfl rfl hS4 (fun _ _ => by go_simp) ?_
       try simp only [Act.put, zA, zB, zC]
       refine tD 74 (.bool true) 4 rfl rfl hS4 (fun _ _ => by go_simp) ?_
       try simp only [Act.put, zA, zB, zC]
       refine wpAnyH_done (by kernel_rfl) ?_ _
       clear hS0 hS1 hS2 hS3 hS4
       go_wp2_with fail
       go_ret
       exact ⟨rfl, HO4.out⟩
      have HJ2 := Kp.mk (show j + 1 ≤ 300 by omega)
      have hsd := H4.out.said
      generalize hS : (fr (slF k (gs (g0 true)).1) (g0 true) j).2.1 = sd at *
      generalize hT : (fr (slF k (gs (g0 true)).1) (g0 true) j).2.2 = la at *
      have HST := Kp.mk (And.intro hS hT)
      have HSD := Kp.mk hsd
      clear hS hT hsd
      obtain ⟨t, HT⟩ : ∃ t : Int, Kp (t = ((g0 true + (j + 1) : Nat) : Int) ∧ wrap64 (x.now + 1) = t) := ⟨_, Kp.mk ⟨rfl, by rw [H4.out.now]; have := HJ2.out; unfold g0 wrap64; split <;> omega⟩⟩
      have hw1 := HT.out.2
      have a2 := H4.out.ww.own.cell 2 (wcl_at _ Z (by omega) (u := .int .i64 x.now) rfl)
      have f2 := H4.out.ww.own.free 2
      go_upto_region 26 with fail
      have H5 := Kp.mk (show Ww W (wr.setCell ⟨wb, 2, none⟩ (.int .i64 t)) wb Z { x with now := t } from H4.out.ww.cell 2 _ (wcl_setNow x Z _) ⟨rfl, rfl, rfl, rfl⟩ ⟨rfl, rfl, rfl, rfl, rfl, rfl, rfl, rfl⟩)
      clear hw1 a2 f2 hj
      generalize wr.setCell ⟨wb, 2, none⟩ (.int .i64 t) = w3 at *
      have hd := H5.out.below (Below.refl _ w3).drew
      refine wp_region_held_drew (S := fun X => X.cell? ⟨wb, 0, none⟩ = some (.pointer (some ⟨Z.lb, 0, none⟩)) ∧ X.cell? ⟨wb, 2, none⟩ = some (.int .i64 t)) (by kernel_rfl) ⟨hd.own.cell 0 (wcl_at _ Z (by omega) rfl), hd.own.cell 2 (wcl_at _ Z (by omega) rfl)⟩ (fun hSu => ?_)
      have HU := Kp.mk hd
      clear hd H5
      generalize w3.drew = u at *
      refine tD 0 (.pointer (some ⟨wb, 0, none⟩)) 99 rfl rfl hSu (fun _ _ => by go_simp) ?_
      try simp only [Act.put, zA, zB, zC]
      refine tD 1 (.pointer (some ⟨wb, 0, none⟩)) 100 rfl rfl hSu (fun _ _ => by go_simp) ?_
      try simp only [Act.put, zA, zB, zC]
      refine tD 2 (.pointer (some ⟨wb, 0, none⟩)) 101 rfl rfl hSu (fun _ _ => by go_simp) ?_
      try simp only [Act.put, zA, zB, zC]
      refine tD 3 (.pointer (some ⟨Z.lb, 0, none⟩)) 102 rfl rfl hSu ?_ ?_
      ·rintro w' hq
       obtain ⟨hq1, hq2⟩ := hq
       go_simp
      try simp only [Act.put, zA, zB, zC]
      refine tD 4 (.pointer (some ⟨wb, 0, none⟩)) 103 rfl rfl hSu (fun _ _ => by go_simp) ?_
      try simp only [Act.put, zA, zB, zC]
      refine tD 5 (.pointer (some ⟨wb, 0, none⟩)) 104 rfl rfl hSu (fun _ _ => by go_simp) ?_
      try simp only [Act.put, zA, zB, zC]
      refine tD 6 (.pointer (some ⟨wb, 2, none⟩)) 105 rfl rfl hSu (fun _ _ => by go_simp) ?_
      try simp only [Act.put, zA, zB, zC]
      refine tD 7 (.int .i64 t) 106 rfl rfl hSu ?_ ?_
      ·rintro w' hq
       obtain ⟨hq1, hq2⟩ := hq
       go_simp
      try simp only [Act.put, zA, zB, zC]
      refine rD 8 rfl fun K hK => ?_
      try rw [if_pos (by rfl)]
      go_simp
      go_at_call 34
      refine (HU.out.ln.tickC t).mono ?_
      rintro en u5 ⟨A5, n5, c5b, L5, rfl, hv5, hL5, hn5, hl5, hc5⟩
      have h5 := HU.out.line hl5 (.same hc5)
      have hS5 : u5.cell? ⟨wb, 0, none⟩ = some (.pointer (some ⟨Z.lb, 0, none⟩)) ∧ u5.cell? ⟨wb, 2, none⟩ = some (.int .i64 t) := ⟨h5.own.cell 0 (wcl_at _ _ (by omega) rfl), h5.own.cell 2 (wcl_at _ _ (by omega) rfl)⟩
      have H5 := Kp.mk h5
      have HL5 := Kp.mk (show n5 = (x.l.says t).length ∧ n5 ≤ 9 by have h9 := hv5.out.len; rw [← hL5, List.length_map]; exact ⟨h9.symm, hn5⟩)
      clear hl5 hc5 h5 hv5 hL5 hn5
      refine hK.out _ _ hS5 (fun _ => ?_)
      clear hK K
      try simp only [Act.put, zA, zB, zC]
      refine tD 9 (.slice A5 n5 c5b) 14 rfl rfl hS5 (fun _ _ => by go_simp) ?_
      try simp only [Act.put, zA, zB, zC]
      refine wpAnyH_done (by kernel_rfl) ?_ _
      clear hSu hS5 HU
      have HFR := Kp.mk (fr_said (l := slF k (gs (g0 true)).1) (t0 := g0 true) (n := n5) (i := j) (by rw [HST.out.1]; exact HSD.out) (by rw [← H4.out.l, ← HT.out.1]; exact HL5.out.1.symm) HL5.out.2)
      have H6 := Kp.mk (show F4 W u5 wb _ _ true k (j + 1) from ⟨H5.out, by rw [fr_l, ← HT.out.1, ← H4.out.l], HT.out.1, HFR.out.1⟩)
      have e4 : wrap64 ((sd : Int) + (n5 : Int)) = ((sd + n5 : Nat) : Int) := by have := HSD.out; have := HL5.out.2; have := HJ2.out; unfold wrap64; omega
      have ei : wrap64 ((j : Int) + 1) = (j : Int) + 1 := by have := HJ2.out; unfold wrap64; omega
      have HEI := Kp.mk ei
      have HE4 := Kp.mk e4
      clear H5 H4 ei
      by_cases hz : n5 = 0
      ·have e5 : decide ((0 : Int) < (n5 : Int)) = false := by simp [hz]
       have e7 : decide (0 < n5) = false := by simp [hz]
       have e6 : (fr (slF k (gs (g0 true)).1) (g0 true) (j + 1)).2.1 = sd + n5 ∧ (fr (slF k (gs (g0 true)).1) (g0 true) (j + 1)).2.2 = la := ⟨by rw [HFR.out.2.1, HST.out.1], by rw [HFR.out.2.2, if_neg (by omega), HST.out.2]⟩
       have HE6 := Kp.mk e6
       clear e6 hz
       go_wp2_with fail
       clear e4 e5 e7
       go_roundw
       case rel => exact ⟨j + 1, _, _, by rw [HE6.out.1, HE4.out], by rw [HE6.out.2], by rw [HEI.out]; rfl, HJ2, H6⟩
       case measure => rw [HEI.out]; exact meas_i HJ2.out
      ·have e5 : (0 : Int) < (n5 : Int) := by omega
       have e7 : 0 < n5 := by omega
       have e6 : (fr (slF k (gs (g0 true)).1) (g0 true) (j + 1)).2.1 = sd + n5 ∧ (fr (slF k (gs (g0 true)).1) (g0 true) (j + 1)).2.2 = j := ⟨by rw [HFR.out.2.1, HST.out.1], by rw [HFR.out.2.2, if_pos (by omega)]⟩
       have HE6 := Kp.mk e6
       clear e6 hz
       go_wp2_with fail
       clear e4 e5 e7
       go_roundw
       case rel => exact ⟨j + 1, _, _, by rw [HE6.out.1, HE4.out], by rw [HE6.out.2], by rw [HEI.out]; rfl, HJ2, H6⟩
       case measure => rw [HEI.out]; exact meas_i HJ2.out
   have HI2 := Kp.mk (show i < 12 by omega)
   have hw1 : wrap64 (x.now + 1) = ((i : Int) + 1) := by rw [HF.out.now]; unfold wrap64; omega
   have a2 := HF.out.ww.own.cell 2 (wcl_at _ Z (by omega) (u := .int .i64 x.now) rfl)
   have f2 := HF.out.ww.own.free 2
   go_upto_region 9 with fail
   have H1 := Kp.mk (show Ww W (wr.setCell ⟨wb, 2, none⟩ (.int .i64 ((i : Int) + 1))) wb Z { x with now := ((i : Int) + 1) } from HF.out.ww.cell 2 _ (wcl_setNow x Z _) ⟨rfl, rfl, rfl, rfl⟩ ⟨rfl, rfl, rfl, rfl, rfl, rfl, rfl, rfl⟩)
   clear hw1 a2 f2 hlt
   generalize wr.setCell ⟨wb, 2, none⟩ (.int .i64 ((i : Int) + 1)) = w3 at *
   obtain ⟨WA, Wc, eW, _⟩ := H1.out.wi.os.form
   replace eW : Z.wv = .slice WA x.wire.length Wc := eW
   have a5 := H1.out.own.cell 5 (wcl_at _ Z (by omega) (u := Z.wv) rfl)
   rw [eW] at a5
   have f5 := H1.out.own.free 5
   have HCL := Kp.mk (H1.out.dryS eW rfl)
   have HLN := Kp.mk (show x.wire.length ≤ 1 by
    have := congrArg List.length HF.out.wi
    rw [List.length_map] at this
    rcases gs_len HI2.out with e | ⟨s, e⟩ <;> rw [e] at this <;> simp only [List.length_nil, List.length_cons] at this <;> omega)
   generalize hln : x.wire.length = ln at *
   have HLE := Kp.mk hln
   have HBD := Kp.mk (show ln ≤ 90000 by have := HLN.out; omega)
   have HCOK := Kp.mk (gs_cokL HI2.out HF.out.l HF.out.p HF.out.wi (x0 := { x with now := (i : Int) + 1, wire := [] }) rfl rfl (by show (i : Int) + 1 = _; omega) rfl)
   have HGN := Kp.mk (gs_nextL HI2.out HF.out.l HF.out.p HF.out.wi (x0 := { x with now := (i : Int) + 1, wire := [] }) rfl rfl (by show (i : Int) + 1 = _; omega) rfl HF.out.rl HF.out.sent)
   clear hln eW
   obtain ⟨x0, hx0⟩ : ∃ x0 : Wd, x0 = { x with now := (i : Int) + 1, wire := [] } := ⟨_, rfl⟩
   rw [← hx0] at HCL HCOK HGN
   obtain ⟨LW, hLW⟩ : ∃ LW : List Ms, LW = x.wire := ⟨_, rfl⟩
   rw [← hLW] at HCL HCOK HGN HLE
   clear hx0 hLW HF H1
   go_wp2_with fail
   clear a5 f5
   go_loopw [8] (fun s8 wl => ∃ (k : Nat) (Z2 : Wk), s8 = .int .i64 k ∧ Kp (k ≤ ln) ∧ Kp (CL W wl wb WA ln Wc LW x0 k Z2)) (fun s8 _ => (((ln : Nat) : Int) - intOf s8).toNat)
   case atStart => exact ⟨0, _, rfl, Kp.mk (Nat.zero_le _), HCL⟩
   case round =>
    clear HCL
    obtain ⟨k, Z2, rfl, HKN, HCL⟩ := hrel
    by_cases hkn : (k : Int) < ln
    rotate_left
    ·have ek : k = ln := by have := HKN.out; omega
     subst ek
     have hall : (LW.map Ms.abs).take k = LW.map Ms.abs := List.take_of_length_le (by rw [List.length_map]; have := HLE.out; omega)
     have hy := HCL.out.ww
     rw [hall] at hy
     have HY := Kp.mk hy
     have HG := HGN.out
     clear hy hall HCL HCOK HGN
     generalize (LW.map Ms.abs).foldl Wd.come x0 = y at *
     have HWL := Kp.mk HG.2.1
     replace HG := Kp.mk HG
     clear hkn
     go_upto_region 15 with fail
     have hd := HY.out.below (Below.refl _ wr).drew
     refine wp_region_held_drew (S := fun X => X.cell? ⟨wb, 0, none⟩ = some (.pointer (some ⟨Z2.lb, 0, none⟩)) ∧ X.cell? ⟨wb, 2, none⟩ = some (.int .i64 y.now)) (by kernel_rfl) ⟨hd.own.cell 0 (wcl_at _ Z2 (by omega) rfl), hd.own.cell 2 (wcl_at _ Z2 (by omega) rfl)⟩ (fun hSu => ?_)
     have HU := Kp.mk hd
     clear hd
     generalize wr.drew = u at *
     refine tD 0 (.pointer (some ⟨wb, 0, none⟩)) 60 rfl rfl hSu (fun _ _ => by go_simp) ?_
     try simp only [Act.put, zA, zB, zC]
     refine tD 1 (.pointer (some ⟨wb, 0, none⟩)) 61 rfl rfl hSu (fun _ _ => by go_simp) ?_
     try simp only [Act.put, zA, zB, zC]
     refine tD 2 (.pointer (some ⟨wb, 0, none⟩)) 62 rfl rfl hSu (fun _ _ => by go_simp) ?_
     try simp only [Act.put, zA, zB, zC]
     refine tD 3 (.pointer (some ⟨wb, 5, none⟩)) 63 rfl rfl hSu (fun _ _ => by go_simp) ?_
     try simp only [Act.put, zA, zB, zC]
     refine tD 5 (.pointer (some ⟨wb, 0, none⟩)) 65 rfl rfl hSu (fun _ _ => by go_simp) ?_
     try simp only [Act.put, zA, zB, zC]
     refine tD 6 (.pointer (some ⟨wb, 0, none⟩)) 66 rfl rfl hSu (fun _ _ => by go_simp) ?_
     try simp only [Act.put, zA, zB, zC]
     refine tD 7 (.pointer (some ⟨wb, 0, none⟩)) 67 rfl rfl hSu (fun _ _ => by go_simp) ?_
     try simp only [Act.put, zA, zB, zC]
     refine tD 8 (.pointer (some ⟨Z2.lb, 0, none⟩)) 68 rfl rfl hSu ?_ ?_
     ·rintro w' hq
      obtain ⟨hq1, hq2⟩ := hq
      go_simp
     try simp only [Act.put, zA, zB, zC]
     refine tD 9 (.pointer (some ⟨wb, 0, none⟩)) 69 rfl rfl hSu (fun _ _ => by go_simp) ?_
     try simp only [Act.put, zA, zB, zC]
     refine tD 10 (.pointer (some ⟨wb, 0, none⟩)) 70 rfl rfl hSu (fun _ _ => by go_simp) ?_
     try simp only [Act.put, zA, zB, zC]
     refine tD 11 (.pointer (some ⟨wb, 2, none⟩)) 71 rfl rfl hSu (fun _ _ => by go_simp) ?_
     try simp only [Act.put, zA, zB, zC]
     refine tD 12 (.int .i64 y.now) 72 rfl rfl hSu ?_ ?_
     ·rintro w' hq
      obtain ⟨hq1, hq2⟩ := hq
      go_simp
     try simp only [Act.put, zA, zB, zC]
     have c5 := HU.out.own.cell 5 (wcl_at _ Z2 (by omega) (u := Z2.wv) rfl)
     refine wpAnyH_ready (rs := [4, 13]) (by kernel_rfl) (by simp) ?_
     refine AllReadyH.cons rfl (fun K hK => ?_) (AllReadyH.cons rfl (fun K hK => ?_) AllReadyH.nil)
     ·skip
      try rw [if_pos (by rfl)]
      go_simp
      refine hK.out _ _ hSu (fun _ => ?_)
      clear hK K
      try simp only [Act.put, zA, zB, zC]
      refine rD 13 rfl fun K hK => ?_
      try rw [if_pos (by rfl)]
      go_simp
      go_at_call 34
      refine (HU.out.ln.tickC y.now).mono ?_
      rintro en u5 ⟨A5, n5, c5b, L5, rfl, hv5, hL5, hn5, hl5, hc5⟩
      have h5 := HU.out.line hl5 (.same hc5)
      have hS5 : u5.cell? ⟨wb, 0, none⟩ = some (.pointer (some ⟨Z2.lb, 0, none⟩)) ∧ u5.cell? ⟨wb, 2, none⟩ = some (.int .i64 y.now) := ⟨h5.own.cell 0 (wcl_at _ _ (by omega) rfl), h5.own.cell 2 (wcl_at _ _ (by omega) rfl)⟩
      have d5 := h5.own.cell 5 (wcl_at _ _ (by omega) (u := Z2.wv) rfl)
      have H5 := Kp.mk h5
      have HV5 := Kp.mk hv5.out
      have HL5 := Kp.mk (And.intro hL5 hn5)
      clear hl5 hc5 h5 hv5 hL5 hn5
      refine hK.out _ _ hS5 (fun _ => ?_)
      clear hK K
      try simp only [Act.put, zA, zB, zC]
      obtain ⟨A9, c9, w9, hrun, ho9, _, h9⟩ := H5.out.wire 37 HV5.out (show y.wire.length + n5 ≤ 100000 by have := HWL.out; have := HL5.out.2; omega)
      have hS9 : w9.cell? ⟨wb, 0, none⟩ = some (.pointer (some ⟨Z2.lb, 0, none⟩)) ∧ w9.cell? ⟨wb, 2, none⟩ = some (.int .i64 y.now) := ⟨ho9.cell 0 (wcl_at _ _ (by omega) rfl), ho9.cell 2 (wcl_at _ _ (by omega) rfl)⟩
      have f9 := ho9.free 5
      have d9 := ho9.cell 5 (wcl_at _ _ (by omega) (u := Z2.wv) rfl)
      have hSe : (w9.setCell ⟨wb, 5, none⟩ (.slice A9 (y.wire.length + n5) c9)).cell? ⟨wb, 0, none⟩ = some (.pointer (some ⟨Z2.lb, 0, none⟩)) ∧ (w9.setCell ⟨wb, 5, none⟩ (.slice A9 (y.wire.length + n5) c9)).cell? ⟨wb, 2, none⟩ = some (.int .i64 y.now) := ⟨h9.own.cell 0 (wcl_at _ _ (by omega) rfl), h9.own.cell 2 (wcl_at _ _ (by omega) rfl)⟩
      have HEND := Kp.mk h9
      clear h9 ho9
      refine rD 14 rfl fun K hK => ?_
      try rw [if_pos (by rfl)]
      refine sndOp_append (.tmp 64) (.tmp 73) rfl rfl rfl hrun (hK.out _ _ hS9 (fun _ => ?_))
      clear hK K hrun
      try simp only [Act.put, zA, zB, zC]
      refine tD 15 (.pointer (some ⟨wb, 0, none⟩)) 75 rfl rfl hS9 (fun _ _ => by go_simp) ?_
      try simp only [Act.put, zA, zB, zC]
      refine tD 16 (.pointer (some ⟨wb, 5, none⟩)) 76 rfl rfl hS9 (fun _ _ => by go_simp) ?_
      try simp only [Act.put, zA, zB, zC]
      refine rD 17 rfl fun K hK => ?_
      try rw [if_pos (by rfl)]
      go_simp
      refine hK.out _ _ hSe (fun _ => ?_)
      clear hK K
      try simp only [Act.put, zA, zB, zC]
      refine wpAnyH_done (by kernel_rfl) ?_ _
      clear hSu hS5 hS9 hSe f9 c5 d5 d9
      have ei : wrap64 ((i : Int) + 1) = (i : Int) + 1 := by have := HI2.out; unfold wrap64; omega
      have e9 : y.now = ((i + 1 : Nat) : Int) := HG.out.1
      have hg2 := HG.out.2.2.2.2 L5 (by rw [← e9]; exact HL5.out.1)
      have HF2 := Kp.mk (show Fw W _ wb _ _ (i + 1) from ⟨HEND.out, by rw [← hg2.1, ← e9], hg2.2.1, hg2.2.2, e9, HG.out.2.2.2.1, HG.out.2.2.1⟩)
      have HEI := Kp.mk ei
      clear ei e9 hg2
      go_wp2_with fail
      go_roundw
      case rel => exact ⟨i + 1, _, _, by rw [HEI.out]; rfl, Kp.mk HI2.out, HF2⟩
      case measure => rw [HEI.out]; exact meas_i HI2.out
     ·skip
      try rw [if_pos (by rfl)]
      go_simp
      go_at_call 34
      refine (HU.out.ln.tickC y.now).mono ?_
      rintro en u5 ⟨A5, n5, c5b, L5, rfl, hv5, hL5, hn5, hl5, hc5⟩
      have h5 := HU.out.line hl5 (.same hc5)
      have hS5 : u5.cell? ⟨wb, 0, none⟩ = some (.pointer (some ⟨Z2.lb, 0, none⟩)) ∧ u5.cell? ⟨wb, 2, none⟩ = some (.int .i64 y.now) := ⟨h5.own.cell 0 (wcl_at _ _ (by omega) rfl), h5.own.cell 2 (wcl_at _ _ (by omega) rfl)⟩
      have d5 := h5.own.cell 5 (wcl_at _ _ (by omega) (u := Z2.wv) rfl)
      have H5 := Kp.mk h5
      have HV5 := Kp.mk hv5.out
      have HL5 := Kp.mk (And.intro hL5 hn5)
      clear hl5 hc5 h5 hv5 hL5 hn5
      refine hK.out _ _ hS5 (fun _ => ?_)
      clear hK K
      try simp only [Act.put, zA, zB, zC]
      refine rD 4 rfl fun K hK => ?_
      try rw [if_pos (by rfl)]
      go_simp
      refine hK.out _ _ hS5 (fun _ => ?_)
      clear hK K
      try simp only [Act.put, zA, zB, zC]
      obtain ⟨A9, c9, w9, hrun, ho9, _, h9⟩ := H5.out.wire 37 HV5.out (show y.wire.length + n5 ≤ 100000 by have := HWL.out; have := HL5.out.2; omega)
      have hS9 : w9.cell? ⟨wb, 0, none⟩ = some (.pointer (some ⟨Z2.lb, 0, none⟩)) ∧ w9.cell? ⟨wb, 2, none⟩ = some (.int .i64 y.now) := ⟨ho9.cell 0 (wcl_at _ _ (by omega) rfl), ho9.cell 2 (wcl_at _ _ (by omega) rfl)⟩
      have f9 := ho9.free 5
      have d9 := ho9.cell 5 (wcl_at _ _ (by omega) (u := Z2.wv) rfl)
      have hSe : (w9.setCell ⟨wb, 5, none⟩ (.slice A9 (y.wire.length + n5) c9)).cell? ⟨wb, 0, none⟩ = some (.pointer (some ⟨Z2.lb, 0, none⟩)) ∧ (w9.setCell ⟨wb, 5, none⟩ (.slice A9 (y.wire.length + n5) c9)).cell? ⟨wb, 2, none⟩ = some (.int .i64 y.now) := ⟨h9.own.cell 0 (wcl_at _ _ (by omega) rfl), h9.own.cell 2 (wcl_at _ _ (by omega) rfl)⟩
      have HEND := Kp.mk h9
      clear h9 ho9
      refine rD 14 rfl fun K hK => ?_
      try rw [if_pos (by rfl)]
      refine sndOp_append (.tmp 64) (.tmp 73) rfl rfl rfl hrun (hK.out _ _ hS9 (fun _ => ?_))
      clear hK K hrun
      try simp only [Act.put, zA, zB, zC]
      refine tD 15 (.pointer (some ⟨wb, 0, none⟩)) 75 rfl rfl hS9 (fun _ _ => by go_simp) ?_
      try simp only [Act.put, zA, zB, zC]
      refine tD 16 (.pointer (some ⟨wb, 5, none⟩)) 76 rfl rfl hS9 (fun _ _ => by go_simp) ?_
      try simp only [Act.put, zA, zB, zC]
      refine rD 17 rfl fun K hK => ?_
      try rw [if_pos (by rfl)]
      go_simp
      refine hK.out _ _ hSe (fun _ => ?_)
      clear hK K
      try simp only [Act.put, zA, zB, zC]
      refine wpAnyH_done (by kernel_rfl) ?_ _
      clear hSu hS5 hS9 hSe f9 c5 d5 d9
      have ei : wrap64 ((i : Int) + 1) = (i : Int) + 1 := by have := HI2.out; unfold wrap64; omega
      have e9 : y.now = ((i + 1 : Nat) : Int) := HG.out.1
      have hg2 := HG.out.2.2.2.2 L5 (by rw [← e9]; exact HL5.out.1)
      have HF2 := Kp.mk (show Fw W _ wb _ _ (i + 1) from ⟨HEND.out, by rw [← hg2.1, ← e9], hg2.2.1, hg2.2.2, e9, HG.out.2.2.2.1, HG.out.2.2.1⟩)
      have HEI := Kp.mk ei
      clear ei e9 hg2
      go_wp2_with fail
      go_roundw
      case rel => exact ⟨i + 1, _, _, by rw [HEI.out]; rfl, Kp.mk HI2.out, HF2⟩
      case measure => rw [HEI.out]; exact meas_i HI2.out
    obtain ⟨⟨⟨sk, st, sf, sh, sp, so, ss, sa, sA, sn, sc⟩, sl⟩, hsx⟩ : ∃ sx, LW[k]? = some sx := ⟨_, List.getElem?_eq_getElem (by have := HCL.out.sd.len; omega)⟩
    obtain ⟨gW, egW, q0, q1, q2, q3, q4, q5, q6, q7, q8⟩ := HCL.out.sd.nine hsx
    subst egW
    have hcm := HCL.out.come hsx (HCOK.out k _ hsx)
    simp only [Sv.v] at hcm
    have HK2 := Kp.mk (show k + 1 ≤ ln by omega)
    clear hsx
    go_upto_region 14 with fail
    go_wp2_with fail
    refine hcm.mono ?_
    rintro en u ⟨rfl, Z3, h3⟩
    have HC3 := Kp.mk h3
    have ei : wrap64 ((k : Int) + 1) = (k : Int) + 1 := by have := HK2.out; have := HBD.out; unfold wrap64; omega
    clear hcm h3 q0 q1 q2 q3 q4 q5 q6 q7 q8 hkn
    go_wp2_with fail
    go_roundw
    case rel => exact ⟨k + 1, Z3, by rw [ei]; rfl, HK2, HC3⟩
    case measure => rw [ei]; exact meas_i HK2.out
theorem sessionFails_walk (op : Bool) (z : Int) (W : World) (w1 : (Lit.int .i64 z).wf = true) : Calls Tryz.prog 6 #[.bool op, .int .i64 z] W fun e w' => e = .returned (.bool true) ∧ Below W.heap.size W w' := sessionFails_any op z
end Go.Proofs.YtnoflfbcgbhipaaGreat.Oct
