/- The walk of OctetPuts. -/
import Derived.Test.YtefohkhipnikhaaOctI
namespace Go.Proofs.Ytefohkhipnikhaa.Oct
open Go.RowKit
set_option linter.unusedVariables false

theorem Rd.pre {k : IntKind} {w : World} {B n c : Nat} {A : Option Addr} {l : List Int} (h : Rd k w B A n c l) (m : Nat) (hm : m ≤ n) : Rd k w B A m c (l.take m) := by
  refine ⟨by rw [List.length_take]; have := h.len; omega, by have := h.le; omega, h.cap, h.2.2.2.1, fun h0 => ?_⟩
  obtain ⟨b, off, e, hb, hc⟩ := h.at_ (by omega)
  refine ⟨b, off, e, hb, fun j hj => ?_⟩
  rw [hc j (by omega), List.getD_eq_getElem?_getD, List.getD_eq_getElem?_getD, List.getElem?_take_of_lt hj]

theorem own_cell {w : World} {base : Nat} {A : Option Addr} {n c : Nat} {l : List Int} (h : Own w base (.slice A n c) n l) (j : Nat) (hj : j < n) :
    ∃ g, A = some ⟨g, 0, none⟩ ∧ base ≤ g ∧ g < w.heap.size ∧ w.cell? ⟨g, j, none⟩ = some (.int .u8 (l.getD j 0)) ∧ w.frozen? ⟨g, j, none⟩ = false := by
  obtain ⟨b, off, e, hb, hc⟩ := h.rd.at_ (by omega)
  have hcell := hc j hj
  rcases h.2 with ⟨h2, h3⟩ | ⟨g, cap, cur, hv, hbg, hg, _⟩
  · omega
  · simp only [Value.slice.injEq] at hv
    have hA := hv.1
    rw [e] at hA
    simp at hA
    obtain ⟨rfl, rfl⟩ := hA
    refine ⟨b, e, hbg, hb, by rw [Nat.zero_add] at hcell; exact hcell, ?_⟩
    simp [World.frozen?, hg]

theorem own_set {w : World} {base : Nat} {g n c : Nat} {l : List Int} (h : Own w base (.slice (some ⟨g, 0, none⟩) n c) n l) (j : Nat) (hj : j < n) (x : Int) :
    Own (w.setCell ⟨g, j, none⟩ (.int .u8 x)) base (.slice (some ⟨g, 0, none⟩) n c) n (l.set j x) := by
  have hl := h.len
  rcases h.2 with ⟨h2, h3⟩ | ⟨g', cap, cur, hv, hbg, hg, hnc, hcm, hcs, htake⟩
  · omega
  · simp only [Value.slice.injEq, Option.some.injEq, Addr.mk.injEq, and_true, true_and] at hv
    obtain ⟨rfl, rfl⟩ := hv
    refine ⟨by simp [hl], .inr ⟨g, c, cur.setIfInBounds j (.int .u8 x), rfl, hbg, ?_, hnc, hcm, by simpa using hcs, ?_⟩⟩
    · simp [World.setCell, Array.getElem?_modify, hg]
    · rw [List.map_set, ← htake, Array.toList_setIfInBounds, List.take_set]

theorem By.set {l : List Int} (h : By l) (j : Nat) {x : Int} (hx : 0 ≤ x ∧ x < 256) : By (l.set j x) := fun z hz => by
  rcases List.mem_or_eq_of_mem_set hz with h1 | rfl
  · exact h z h1
  · exact hx
theorem xor_by (x y : Int) (hx : 0 ≤ x ∧ x < 256) (hy : 0 ≤ y ∧ y < 256) : 0 ≤ bits .xor .u8 x y ∧ bits .xor .u8 x y < 256 := by
  rw [u8_xor x y hx.1 hx.2 hy.1 hy.2]
  have : x.toNat ^^^ y.toNat < 2 ^ 8 := Nat.xor_lt_two_pow (by omega) (by omega)
  omega

set_option maxRecDepth 100000 in
set_option maxHeartbeats 4000000 in
theorem puts_lo {w : World} {A A2 : Option Addr} {n c n2 c2 : Nat} {lb ls : List Int} (s : Int) (h : Rd .u8 w w.heap.size A n c lb) (hl : By lb) (h2 : Rd .i64 w w.heap.size A2 n2 c2 ls) (hc : (c : Int) ≤ 140737488351232) (hn : (n : Int) ≤ c) (hm : (n : Int) ≤ 70000) (hs2 : n2 ≤ 17592186043904) :
    Calls Try.prog 3 #[.slice A n c, .int .i64 s, .slice A2 n2 c2] w fun e w' => e = .returned (.bool true) ∧ Below w.heap.size w w' := by
  go_enter Try.func3, Try.ntmps3
  go_wp2_with fail
  refine (copyBytes_any h (by omega)).mono ?_
  rintro e w1 ⟨A1, n1, c1, rfl, ho1, t1⟩
  have hn1 : n1 = n := by have := ho1.len; have := h.len; omega
  subst hn1
  have z1 := t1.size
  have r1 := ho1.rd
  have rb1 := h.below t1
  have ri1 := h2.below t1
  have Ho1 := Kp.mk ho1
  have hN : n1 ≤ 70000 := by omega
  clear ho1 hm hn hc
  go_wp2_with fail
  refine (put_any s r1 ri1 (Nat.le_refl _) z1 (by omega)).mono ?_
  rintro e w2 ⟨A3, n3, c3, rfl, ho3, t2⟩
  have tx2 : Below w2.heap.size w2 w2 := Below.refl _ _
  have z2 := t2.size
  have Ho3 := Kp.mk ho3
  clear ho3
  have rb2 := rb1.below' t2 z1
  have ri2 := ri1.below' t2 z1
  go_wp2_with fail
  refine (refPut_any s rb2 ri2 (by omega) (by omega) (by omega)).mono ?_
  rintro e w3 ⟨A4, n4, c4, rfl, ho4, st3⟩
  have t3 := bstep t2 st3 z2
  have tx3 := bstep tx2 st3 (Nat.le_refl _)
  have z3 := st3.size
  have ty3 : Below w3.heap.size w3 w3 := Below.refl _ _
  have Ho4 := Kp.mk ho4
  clear ho4
  have hbl3 := below_alloc w3 (.cells ([7].map (Value.int .u8)).toArray 5)
  have rin3 := (r1.below t3).below' hbl3 (by omega)
  have rl3 := rd_lit .u8 w3 5 [7] (by simp [maxLen]) (w3.heap.size + 1) (by omega)
  go_wp2_with fail
  refine (text_any rl3 rin3 (by simp) (by simp <;> omega) (by simp <;> omega)).mono ?_
  rintro e w4 ⟨A5, n5, c5, rfl, ho5, hb4⟩
  have st4 : Below w3.heap.size w3 w4 := hbl3.trans (hb4.mono (by simp))
  have t4 := bstep t3 st4 (by omega)
  have tx4 := bstep tx3 st4 (by omega)
  have ty4 := bstep ty3 st4 (by omega)
  have z4 := st4.size
  have tz4 : Below w4.heap.size w4 w4 := Below.refl _ _
  have Ho5 := Kp.mk ho5
  clear ho5 hbl3 rin3 rl3 hb4
  have hbl4 := below_alloc w4 (.cells ([7].map (Value.int .u8)).toArray 5)
  have rin4 := (rb1.below' t4 (by omega)).below' hbl4 (by omega)
  have rl4 := rd_lit .u8 w4 5 [7] (by simp [maxLen]) (w4.heap.size + 1) (by omega)
  go_wp2_with fail
  refine (refText_any rl4 rin4 (by simp) (by simp <;> omega) (by simp <;> omega)).mono ?_
  rintro e w5 ⟨A6, n6, c6, rfl, ho6, hb5⟩
  have st5 : Below w4.heap.size w4 w5 := hbl4.trans (hb5.mono (by simp))
  have t5 := bstep t4 st5 (by omega)
  have tx5 := bstep tx4 st5 (by omega)
  have ty5 := bstep ty4 st5 (by omega)
  have tz5 := bstep tz4 st5 (by omega)
  have z5 := st5.size
  have tu5 : Below w5.heap.size w5 w5 := Below.refl _ _
  have Ho6 := Kp.mk ho6
  clear ho6 hbl4 rin4 rl4 hb5
  have rin5 := r1.below t5
  go_wp2_with fail
  refine (seal_any s rin5 hl (by omega) (by omega)).mono ?_
  rintro e w6 ⟨A7, n7, c7, rfl, ho7, st6⟩
  have t6 := bstep t5 st6 (by omega)
  have tx6 := bstep tx5 st6 (by omega)
  have ty6 := bstep ty5 st6 (by omega)
  have tz6 := bstep tz5 st6 (by omega)
  have tu6 := bstep tu5 st6 (by omega)
  have z6 := st6.size
  have tv6 : Below w6.heap.size w6 w6 := Below.refl _ _
  have Ho7 := Kp.mk ho7
  clear ho7 rin5
  have rb6 := rb1.below' t6 (by omega)
  go_wp2_with fail
  refine (refSeal_any s rb6 hl (by omega) (by omega)).mono ?_
  rintro e w7 ⟨A8, n8, c8, rfl, ho8, st7⟩
  have t7 := bstep t6 st7 (by omega)
  have tx7 := bstep tx6 st7 (by omega)
  have ty7 := bstep ty6 st7 (by omega)
  have tz7 := bstep tz6 st7 (by omega)
  have tu7 := bstep tu6 st7 (by omega)
  have tv7 := bstep tv6 st7 (by omega)
  have z7 := st7.size
  clear rb6
  have rin7 := r1.below t7
  have rb7 := rb1.below' t7 (by omega)
  have g3 := Ho3.out.rdIn tx7
  have g4 := Ho4.out.rdIn ty7
  have g5 := Ho5.out.rdIn tz7
  have g6 := Ho6.out.rdIn tu7
  have g7 := Ho7.out.rdIn tv7
  have g8 := ho8.rd
  clear ho8 tx2 tx3 tx4 tx5 tx6 ty3 ty4 ty5 ty6 tz4 tz5 tz6 tu5 tu6 tv6 st3 st4 st5 st6 st7
  go_wp2_with fail
  refine (eqBytes_any g3 g4 (putP_by _ _ _ hl) (putP_by _ _ _ hl)).mono ?_
  rw [show decide ((putP lb s ls).1 = (putP lb s ls).1) = true from by simp]
  rintro e w' ⟨rfl, rfl⟩
  go_wp2_with fail
  refine (eqBytes_any g5 g6 (textP_by _ _ (byOf rfl) hl) (textP_by _ _ (byOf rfl) hl)).mono ?_
  rw [show decide ((textP [7] lb).1 = (textP [7] lb).1) = true from by simp]
  rintro e w' ⟨rfl, rfl⟩
  go_wp2_with fail
  refine (eqBytes_any g7 g8 (sealP_by _ _ hl) (sealP_by _ _ hl)).mono ?_
  rw [show decide ((sealP s lb).1 = (sealP s lb).1) = true from by simp]
  rintro e w' ⟨rfl, rfl⟩
  go_wp2_with fail
  refine (sum_any rin7 hl).mono ?_
  rintro e w' ⟨rfl, rfl⟩
  go_wp2_with fail
  refine (refSum_any rb7 hl).mono ?_
  rintro e w' ⟨rfl, rfl⟩
  clear g3 g4 g5 g6 g7 g8
  have hx7 : Own w7 w1.heap.size (.slice A3 n3 c3) n3 (putP lb s ls).1 := (Ho3.out.below tx7 (Nat.le_refl _))
  have hby := putP_by lb s ls hl
  generalize (putP lb s ls).1 = lx at *
  have hmx := hx7.rd.max
  have hle := hx7.rd.le
  have hTW : Kp (Below w.heap.size w w1) := Kp.mk t1
  go_wp2_with fail
  go_loopw [20] (fun i wr => ∃ (k : Nat) (l : List Int), k ≤ n3 ∧ i = .int .i64 k ∧ Own wr w1.heap.size (.slice A3 n3 c3) n3 l ∧ By l ∧ Below w1.heap.size w1 wr) (fun i _ => n3 - (intOf i).toNat)
  case atStart => exact ⟨0, lx, by omega, rfl, hx7, hby, t7⟩
  case round =>
    obtain ⟨k, l, hk, rfl, ho, hbl, hb⟩ := hrel
    have hzr := hb.size
    by_cases hlt : k < n3
    · obtain ⟨g, rfl, hbg, hgw, hcell, hfr⟩ := own_cell ho k hlt
      have hxb := hbl.getD k
      have hset := own_set ho k hlt (bits .xor .u8 (l.getD k 0) 90)
      have hby2 := hbl.set k (xor_by _ 90 hxb (by omega))
      have hI : (k : Int) < n3 := by omega
      have hb2 := hb.setCell (p := ⟨g, k, none⟩) (by simpa using hbg) (.int .u8 (bits .xor .u8 (l.getD k 0) 90))
      generalize l.getD k 0 = x at *
      obtain ⟨hx1, hx2⟩ := hxb
      have Hset := Kp.mk hset
      have Hb2 := Kp.mk hb2
      clear hset hb2 ho hx7
      go_wp2_with fail
      go_roundw
      case rel => exact ⟨k + 1, l.set k (bits .xor .u8 x 90), by omega, by go_num, Hset.out, hby2, Hb2.out⟩
      case measure => simp [intOf]; omega
    · obtain rfl : k = n3 := by omega
      have q1 := r1.below hb
      have q2 := rb1.below' hb (by omega)
      go_wp2_with fail
      refine (eqBytes_any q1 q2 hl hl).mono ?_
      rw [show decide (lb = lb) = true from by simp]
      rintro e w' ⟨rfl, rfl⟩
      go_wp2_with fail
      refine (works_any _).mono ?_
      rintro e w9 ⟨rfl, hb9⟩
      go_wp2_with fail
      go_ret
      exact ⟨rfl, (hTW.out.trans (hb.mono (by omega))).trans (hb9.mono (by omega))⟩

set_option maxRecDepth 100000 in
set_option maxHeartbeats 4000000 in
theorem puts_hi {w : World} {A A2 : Option Addr} {n c n2 c2 : Nat} {lb ls : List Int} (s : Int) (h : Rd .u8 w w.heap.size A 70000 c lb) (hl : By lb) (h2 : Rd .i64 w w.heap.size A2 n2 c2 ls) (hc : (c : Int) ≤ 140737488351232) (hn : (n : Int) ≤ c) (hm : (70000 : Int) < n) (hs2 : n2 ≤ 17592186043904) :
    Calls Try.prog 3 #[.slice A n c, .int .i64 s, .slice A2 n2 c2] w fun e w' => e = .returned (.bool true) ∧ Below w.heap.size w w' := by
  go_enter Try.func3, Try.ntmps3
  go_wp2_with fail
  refine (copyBytes_any h (by omega)).mono ?_
  rintro e w1 ⟨A1, n1, c1, rfl, ho1, t1⟩
  have hn1 : n1 = 70000 := by have := ho1.len; have := h.len; omega
  subst hn1
  have z1 := t1.size
  have r1 := ho1.rd
  have rb1 := h.below t1
  have ri1 := h2.below t1
  have Ho1 := Kp.mk ho1
  clear ho1 hm hn hc
  go_wp2_with fail
  refine (put_any s r1 ri1 (Nat.le_refl _) z1 (by omega)).mono ?_
  rintro e w2 ⟨A3, n3, c3, rfl, ho3, t2⟩
  have tx2 : Below w2.heap.size w2 w2 := Below.refl _ _
  have z2 := t2.size
  have Ho3 := Kp.mk ho3
  clear ho3
  have rb2 := rb1.below' t2 z1
  have ri2 := ri1.below' t2 z1
  go_wp2_with fail
  refine (refPut_any s rb2 ri2 (by omega) (by omega) (by omega)).mono ?_
  rintro e w3 ⟨A4, n4, c4, rfl, ho4, st3⟩
  have t3 := bstep t2 st3 z2
  have tx3 := bstep tx2 st3 (Nat.le_refl _)
  have z3 := st3.size
  have ty3 : Below w3.heap.size w3 w3 := Below.refl _ _
  have Ho4 := Kp.mk ho4
  clear ho4
  have hbl3 := below_alloc w3 (.cells ([7].map (Value.int .u8)).toArray 5)
  have rin3 := (r1.below t3).below' hbl3 (by omega)
  have rl3 := rd_lit .u8 w3 5 [7] (by simp [maxLen]) (w3.heap.size + 1) (by omega)
  go_wp2_with fail
  refine (text_any rl3 rin3 (by simp) (by simp <;> omega) (by simp <;> omega)).mono ?_
  rintro e w4 ⟨A5, n5, c5, rfl, ho5, hb4⟩
  have st4 : Below w3.heap.size w3 w4 := hbl3.trans (hb4.mono (by simp))
  have t4 := bstep t3 st4 (by omega)
  have tx4 := bstep tx3 st4 (by omega)
  have ty4 := bstep ty3 st4 (by omega)
  have z4 := st4.size
  have tz4 : Below w4.heap.size w4 w4 := Below.refl _ _
  have Ho5 := Kp.mk ho5
  clear ho5 hbl3 rin3 rl3 hb4
  have hbl4 := below_alloc w4 (.cells ([7].map (Value.int .u8)).toArray 5)
  have rin4 := (rb1.below' t4 (by omega)).below' hbl4 (by omega)
  have rl4 := rd_lit .u8 w4 5 [7] (by simp [maxLen]) (w4.heap.size + 1) (by omega)
  go_wp2_with fail
  refine (refText_any rl4 rin4 (by simp) (by simp <;> omega) (by simp <;> omega)).mono ?_
  rintro e w5 ⟨A6, n6, c6, rfl, ho6, hb5⟩
  have st5 : Below w4.heap.size w4 w5 := hbl4.trans (hb5.mono (by simp))
  have t5 := bstep t4 st5 (by omega)
  have tx5 := bstep tx4 st5 (by omega)
  have ty5 := bstep ty4 st5 (by omega)
  have tz5 := bstep tz4 st5 (by omega)
  have z5 := st5.size
  have tu5 : Below w5.heap.size w5 w5 := Below.refl _ _
  have Ho6 := Kp.mk ho6
  clear ho6 hbl4 rin4 rl4 hb5
  have rin5 := r1.below t5
  go_wp2_with fail
  refine (seal_any s rin5 hl (by omega) (by omega)).mono ?_
  rintro e w6 ⟨A7, n7, c7, rfl, ho7, st6⟩
  have t6 := bstep t5 st6 (by omega)
  have tx6 := bstep tx5 st6 (by omega)
  have ty6 := bstep ty5 st6 (by omega)
  have tz6 := bstep tz5 st6 (by omega)
  have tu6 := bstep tu5 st6 (by omega)
  have z6 := st6.size
  have tv6 : Below w6.heap.size w6 w6 := Below.refl _ _
  have Ho7 := Kp.mk ho7
  clear ho7 rin5
  have rb6 := rb1.below' t6 (by omega)
  go_wp2_with fail
  refine (refSeal_any s rb6 hl (by omega) (by omega)).mono ?_
  rintro e w7 ⟨A8, n8, c8, rfl, ho8, st7⟩
  have t7 := bstep t6 st7 (by omega)
  have tx7 := bstep tx6 st7 (by omega)
  have ty7 := bstep ty6 st7 (by omega)
  have tz7 := bstep tz6 st7 (by omega)
  have tu7 := bstep tu6 st7 (by omega)
  have tv7 := bstep tv6 st7 (by omega)
  have z7 := st7.size
  clear rb6
  have rin7 := r1.below t7
  have rb7 := rb1.below' t7 (by omega)
  have g3 := Ho3.out.rdIn tx7
  have g4 := Ho4.out.rdIn ty7
  have g5 := Ho5.out.rdIn tz7
  have g6 := Ho6.out.rdIn tu7
  have g7 := Ho7.out.rdIn tv7
  have g8 := ho8.rd
  clear ho8 tx2 tx3 tx4 tx5 tx6 ty3 ty4 ty5 ty6 tz4 tz5 tz6 tu5 tu6 tv6 st3 st4 st5 st6 st7
  go_wp2_with fail
  refine (eqBytes_any g3 g4 (putP_by _ _ _ hl) (putP_by _ _ _ hl)).mono ?_
  rw [show decide ((putP lb s ls).1 = (putP lb s ls).1) = true from by simp]
  rintro e w' ⟨rfl, rfl⟩
  go_wp2_with fail
  refine (eqBytes_any g5 g6 (textP_by _ _ (byOf rfl) hl) (textP_by _ _ (byOf rfl) hl)).mono ?_
  rw [show decide ((textP [7] lb).1 = (textP [7] lb).1) = true from by simp]
  rintro e w' ⟨rfl, rfl⟩
  go_wp2_with fail
  refine (eqBytes_any g7 g8 (sealP_by _ _ hl) (sealP_by _ _ hl)).mono ?_
  rw [show decide ((sealP s lb).1 = (sealP s lb).1) = true from by simp]
  rintro e w' ⟨rfl, rfl⟩
  go_wp2_with fail
  refine (sum_any rin7 hl).mono ?_
  rintro e w' ⟨rfl, rfl⟩
  go_wp2_with fail
  refine (refSum_any rb7 hl).mono ?_
  rintro e w' ⟨rfl, rfl⟩
  clear g3 g4 g5 g6 g7 g8
  have hx7 : Own w7 w1.heap.size (.slice A3 n3 c3) n3 (putP lb s ls).1 := (Ho3.out.below tx7 (Nat.le_refl _))
  have hby := putP_by lb s ls hl
  generalize (putP lb s ls).1 = lx at *
  have hmx := hx7.rd.max
  have hle := hx7.rd.le
  have hTW : Kp (Below w.heap.size w w1) := Kp.mk t1
  go_wp2_with fail
  go_loopw [20] (fun i wr => ∃ (k : Nat) (l : List Int), k ≤ n3 ∧ i = .int .i64 k ∧ Own wr w1.heap.size (.slice A3 n3 c3) n3 l ∧ By l ∧ Below w1.heap.size w1 wr) (fun i _ => n3 - (intOf i).toNat)
  case atStart => exact ⟨0, lx, by omega, rfl, hx7, hby, t7⟩
  case round =>
    obtain ⟨k, l, hk, rfl, ho, hbl, hb⟩ := hrel
    have hzr := hb.size
    by_cases hlt : k < n3
    · obtain ⟨g, rfl, hbg, hgw, hcell, hfr⟩ := own_cell ho k hlt
      have hxb := hbl.getD k
      have hset := own_set ho k hlt (bits .xor .u8 (l.getD k 0) 90)
      have hby2 := hbl.set k (xor_by _ 90 hxb (by omega))
      have hI : (k : Int) < n3 := by omega
      have hb2 := hb.setCell (p := ⟨g, k, none⟩) (by simpa using hbg) (.int .u8 (bits .xor .u8 (l.getD k 0) 90))
      generalize l.getD k 0 = x at *
      obtain ⟨hx1, hx2⟩ := hxb
      have Hset := Kp.mk hset
      have Hb2 := Kp.mk hb2
      clear hset hb2 ho hx7
      go_wp2_with fail
      go_roundw
      case rel => exact ⟨k + 1, l.set k (bits .xor .u8 x 90), by omega, by go_num, Hset.out, hby2, Hb2.out⟩
      case measure => simp [intOf]; omega
    · obtain rfl : k = n3 := by omega
      have q1 := r1.below hb
      have q2 := rb1.below' hb (by omega)
      go_wp2_with fail
      refine (eqBytes_any q1 q2 hl hl).mono ?_
      rw [show decide (lb = lb) = true from by simp]
      rintro e w' ⟨rfl, rfl⟩
      go_wp2_with fail
      refine (works_any _).mono ?_
      rintro e w9 ⟨rfl, hb9⟩
      go_wp2_with fail
      go_ret
      exact ⟨rfl, (hTW.out.trans (hb.mono (by omega))).trans (hb9.mono (by omega))⟩

theorem OctetPuts_walk (A0 : Option Addr) (n0 c0 : Nat) (z0 : List Int) (s : Int) (A2 : Option Addr) (n2 c2 : Nat) (z2 : List Int) (w : World) (w0 : Frame.IsRow .u8 w A0 n0 c0 z0) (re0 : c0 * 1 ≤ 140737488351232) (w1 : (Lit.int .i64 s).wf = true) (w2 : Frame.IsRow .i64 w A2 n2 c2 z2) (re2 : c2 * 8 ≤ 140737488351232) :
    Calls Try.prog 3 #[.slice A0 n0 c0, .int .i64 s, .slice A2 n2 c2] w fun e w' => e = .returned (.bool true) ∧ Below w.heap.size w w' := by
  have h0 := Rd.of_row w0
  have h2 := Rd.of_row w2
  have hb := By.of_row w0
  have le0 := h0.le
  have le2 := h2.le
  by_cases hm : n0 ≤ 70000
  · exact puts_lo s h0 hb h2 (by omega) (by omega) (by omega) (by omega)
  · exact puts_hi (n := n0) s (h0.pre 70000 (by omega)) (hb.take _) h2 (by omega) (by omega) (by omega) (by omega)
end Go.Proofs.Ytefohkhipnikhaa.Oct
