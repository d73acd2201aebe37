/- Contracts of the document's reader. -/
import Derived.Test.YtnhjpiaenbhilaaOctN
namespace Go.Proofs.Ytnhjpiaenbhilaa.Oct
open Go.RowKit
set_option linter.unusedVariables false

section
variable {w : World} {lo g : Nat} {l : List Int} {e : Int}
theorem refFail_any (x : Int) (h : Rdr 110 w lo g l e) :
    Calls Try.prog 96 #[.pointer (some ⟨g, 0, none⟩), .int .i64 x] w (IntRdr 110 w lo g 0 [] x) := by
  have h0 := h
  obtain ⟨A, n, c, hc, hlo, hrd, hb, hl, he⟩ := h
  obtain ⟨A', n', c', _, _, k0, k1, f0, f1⟩ := h0.cells
  have H0 := Kp.mk h0
  have HC := Kp.mk hc
  clear h0 hc he hb
  go_enter Try.func96, Try.ntmps96
  go_wp2_with fail
  go_ret
  exact ⟨rfl, H0.out.failed x (heap_set3 HC.out _ _), grown_trans2 (grownBy_set _ _ _ _) (grownBy_set _ _ _ _)⟩

theorem refErr_any (h : Rdr 110 w lo g l e) :
    Calls Try.prog 52 #[.pointer (some ⟨g, 0, none⟩)] w fun en w' => en = .returned (.int .i64 e) ∧ w = w' := by
  obtain ⟨A, n, c, hn, hrd, _, c1, _, _⟩ := h.cells
  go_enter Try.func52, Try.ntmps52
  go_wp2_with fail
  go_ret
  exact ⟨rfl, rfl⟩
theorem refEnd_any (hR : Rdr 110 w lo g l e) :
    Calls Try.prog 53 #[.pointer (some ⟨g, 0, none⟩)] w fun en w' => en = .returned (.int .i64 (endR l e)) ∧ w = w' := by
  obtain ⟨A, n, c, hn, hrd, c0, c1, _, _⟩ := hR.cells
  have hez := hR.ez
  by_cases hz : e = 0
  · subst hz
    by_cases hl : 0 < l.length
    · have hp := Kp.mk (show endR l 0 = 4 from if_pos hl)
      have hi : (0 : Int) < n := by omega
      have hi2 : 0 < n := by omega
      clear hn hl hez
      go_enter Try.func53, Try.ntmps53
      go_wp2_with fail
      rw [hp.out]
      go_ret
      exact ⟨rfl, rfl⟩
    · have hp := Kp.mk (show endR l 0 = 0 from if_neg hl)
      obtain rfl : n = 0 := by omega
      clear hn hl hez
      go_enter Try.func53, Try.ntmps53
      go_wp2_with fail
      rw [hp.out]
      go_ret
      exact ⟨rfl, rfl⟩
  · have hl := hez hz
    have hp := Kp.mk (show endR l e = e by rw [hl]; rfl)
    have hz' : (e == 0) = false := by simpa using hz
    clear hn hez hl hz
    go_enter Try.func53, Try.ntmps53
    go_wp2_with fail
    rw [hp.out]
    go_ret
    exact ⟨rfl, rfl⟩

theorem num_mul (l : List Int) (h : By l) (k : Nat) (hk : k < l.length) : 256 * ((num (l.take k) : Nat) : Int) + l.getD k 0 = ((num (l.take (k + 1)) : Nat) : Int) := by
  have hb := h.getD k
  rw [take_snoc l k hk, num_snoc]
  omega

set_option maxRecDepth 100000 in
set_option maxHeartbeats 1600000 in
theorem refNum_few1 (t : Nat) (ht : t = 1) (htl : l.length < t) (hR : Rdr 110 w lo g l 0) :
    Calls Try.prog 82 #[.pointer (some ⟨g, 0, none⟩), .int .i64 t] w (IntRdr 110 w lo g 0 [] 3) := by
  obtain ⟨A, n, c, hn, hrd, c0, c1, _, _⟩ := hR.cells
  have e1 : ((t : Int) != 1) = false := by rw [bne_eq_false_iff_eq]; omega
  have i1 : (n : Int) < t := by omega
  clear ht htl hn
  go_enter Try.func82, Try.ntmps82
  go_wp2_with fail
  refine (refFail_any 3 hR).mono ?_
  rintro en w1 ⟨rfl, h1, hg1⟩
  go_wp2_with fail
  go_ret
  exact ⟨rfl, h1, hg1⟩

set_option maxRecDepth 100000 in
set_option maxHeartbeats 1600000 in
theorem refNum_ok1 (t : Nat) (ht : t = 1) (htl : t ≤ l.length) (hR : Rdr 110 w lo g l 0) :
    Calls Try.prog 82 #[.pointer (some ⟨g, 0, none⟩), .int .i64 t] w (IntRdr 110 w lo g (num (l.take t) : Nat) (l.drop t) 0) := by
  have hR0 := hR
  obtain ⟨A, n, c, hc, hlo, hrd, hb, hl, he⟩ := hR
  have hn := hrd.len
  obtain ⟨b, off, rfl, hbg, hcell⟩ := hrd.at_ (by omega)
  have c0 : w.cell? ⟨g, 0, none⟩ = some (.slice (some ⟨b, off, none⟩) n c) := by simp [World.cell?, hc]
  have c1 : w.cell? ⟨g, 1, none⟩ = some (.int .i64 0) := by simp [World.cell?, hc]
  have f0 : w.frozen? ⟨g, 0, none⟩ = false := by simp [World.frozen?, hc]
  have i1 : (t : Int) ≤ n := by omega
  have i2 : (n : Int) ≤ c := by have := hrd.le; omega
  have i3 : (c : Int) ≤ 9223372036854775807 := by have := hrd.cap; unfold maxLen at this; omega
  have ht4 : t ≤ 4 := by omega
  have e1 : ((t : Int) != 1) = false := by rw [bne_eq_false_iff_eq]; omega
  have key : Kp (∀ A' : Option Addr, (A' = if c = t then some ⟨b, off, none⟩ else (some ⟨b, off, none⟩ : Option Addr).map (fun x => x.add t)) → Rdr 110 (w.setCell ⟨g, 0, none⟩ (.slice A' (n - t) (c - t))) lo g (l.drop t) 0) :=
    Kp.mk (fun A' hA => Rdr.drop_ hlo hrd hb hl he (by omega) hc hA)
  have hg := Kp.mk (fun u => grownBy_set w g 0 u)
  have Hcell := Kp.mk hcell
  have Hl := Kp.mk hl
  have Htl := Kp.mk htl
  have Hn := Kp.mk hn
  clear hc hlo hrd hb he hcell hR0 hl htl hn ht
  go_enter Try.func82, Try.ntmps82
  go_wp2_with fail
  go_loop [5, 6] (fun v i => ∃ k : Nat, k ≤ t ∧ i = .int .i64 k ∧ v = .int .i64 (num (l.take k) : Nat)) (fun _ i => t - (intOf i).toNat)
  case atStart => exact ⟨0, by omega, rfl, by simp [num]⟩
  case round =>
    obtain ⟨k, hk, rfl, rfl⟩ := hrel
    by_cases hlt : k < t
    · have hck := Hcell.out k (by omega)
      have hb := By.getD Hl.out k
      have hq := num_take_lt l Hl.out k (by omega)
      have hm := Kp.mk (num_mul l Hl.out k (by have := Htl.out; omega))
      have j1 : (k : Int) < n := by omega
      have j2 : (k : Int) < t := by omega
      generalize l.getD k 0 = x at *
      obtain ⟨hb1, hb2⟩ := hb
      generalize num (l.take k) = q at *
      go_wp2_with fail
      go_round
      case rel => exact ⟨k + 1, by omega, by go_num, by rw [hm.out]⟩
      case measure => simp [intOf]; omega
    · obtain rfl : k = t := by omega
      by_cases hck : c = k
      · have key2 := Kp.mk (key.out (some ⟨b, off, none⟩) (by rw [if_pos hck]))
        clear key
        subst hck
        go_wp2_with fail
        go_ret
        refine ⟨rfl, ?_, hg.out _⟩
        have := key2.out
        rw [Nat.sub_self] at this
        exact this
      · have key2 := Kp.mk (key.out (some ⟨b, off + k, none⟩) (by rw [if_neg hck, Option.map_some, add_addr]))
        clear key
        go_wp2_with fail
        go_ret
        exact ⟨rfl, key2.out, hg.out _⟩

set_option maxRecDepth 100000 in
set_option maxHeartbeats 1600000 in
theorem refNum_few2 (t : Nat) (ht : t = 2) (htl : l.length < t) (hR : Rdr 110 w lo g l 0) :
    Calls Try.prog 82 #[.pointer (some ⟨g, 0, none⟩), .int .i64 t] w (IntRdr 110 w lo g 0 [] 3) := by
  obtain ⟨A, n, c, hn, hrd, c0, c1, _, _⟩ := hR.cells
  have e1 : ((t : Int) != 1) = true := by rw [bne_iff_ne]; omega
  have e2 : ((t : Int) != 2) = false := by rw [bne_eq_false_iff_eq]; omega
  have i1 : (n : Int) < t := by omega
  clear ht htl hn
  go_enter Try.func82, Try.ntmps82
  go_wp2_with fail
  refine (refFail_any 3 hR).mono ?_
  rintro en w1 ⟨rfl, h1, hg1⟩
  go_wp2_with fail
  go_ret
  exact ⟨rfl, h1, hg1⟩

set_option maxRecDepth 100000 in
set_option maxHeartbeats 1600000 in
theorem refNum_ok2 (t : Nat) (ht : t = 2) (htl : t ≤ l.length) (hR : Rdr 110 w lo g l 0) :
    Calls Try.prog 82 #[.pointer (some ⟨g, 0, none⟩), .int .i64 t] w (IntRdr 110 w lo g (num (l.take t) : Nat) (l.drop t) 0) := by
  have hR0 := hR
  obtain ⟨A, n, c, hc, hlo, hrd, hb, hl, he⟩ := hR
  have hn := hrd.len
  obtain ⟨b, off, rfl, hbg, hcell⟩ := hrd.at_ (by omega)
  have c0 : w.cell? ⟨g, 0, none⟩ = some (.slice (some ⟨b, off, none⟩) n c) := by simp [World.cell?, hc]
  have c1 : w.cell? ⟨g, 1, none⟩ = some (.int .i64 0) := by simp [World.cell?, hc]
  have f0 : w.frozen? ⟨g, 0, none⟩ = false := by simp [World.frozen?, hc]
  have i1 : (t : Int) ≤ n := by omega
  have i2 : (n : Int) ≤ c := by have := hrd.le; omega
  have i3 : (c : Int) ≤ 9223372036854775807 := by have := hrd.cap; unfold maxLen at this; omega
  have ht4 : t ≤ 4 := by omega
  have e1 : ((t : Int) != 1) = true := by rw [bne_iff_ne]; omega
  have e2 : ((t : Int) != 2) = false := by rw [bne_eq_false_iff_eq]; omega
  have key : Kp (∀ A' : Option Addr, (A' = if c = t then some ⟨b, off, none⟩ else (some ⟨b, off, none⟩ : Option Addr).map (fun x => x.add t)) → Rdr 110 (w.setCell ⟨g, 0, none⟩ (.slice A' (n - t) (c - t))) lo g (l.drop t) 0) :=
    Kp.mk (fun A' hA => Rdr.drop_ hlo hrd hb hl he (by omega) hc hA)
  have hg := Kp.mk (fun u => grownBy_set w g 0 u)
  have Hcell := Kp.mk hcell
  have Hl := Kp.mk hl
  have Htl := Kp.mk htl
  have Hn := Kp.mk hn
  clear hc hlo hrd hb he hcell hR0 hl htl hn ht
  go_enter Try.func82, Try.ntmps82
  go_wp2_with fail
  go_loop [5, 6] (fun v i => ∃ k : Nat, k ≤ t ∧ i = .int .i64 k ∧ v = .int .i64 (num (l.take k) : Nat)) (fun _ i => t - (intOf i).toNat)
  case atStart => exact ⟨0, by omega, rfl, by simp [num]⟩
  case round =>
    obtain ⟨k, hk, rfl, rfl⟩ := hrel
    by_cases hlt : k < t
    · have hck := Hcell.out k (by omega)
      have hb := By.getD Hl.out k
      have hq := num_take_lt l Hl.out k (by omega)
      have hm := Kp.mk (num_mul l Hl.out k (by have := Htl.out; omega))
      have j1 : (k : Int) < n := by omega
      have j2 : (k : Int) < t := by omega
      generalize l.getD k 0 = x at *
      obtain ⟨hb1, hb2⟩ := hb
      generalize num (l.take k) = q at *
      go_wp2_with fail
      go_round
      case rel => exact ⟨k + 1, by omega, by go_num, by rw [hm.out]⟩
      case measure => simp [intOf]; omega
    · obtain rfl : k = t := by omega
      by_cases hck : c = k
      · have key2 := Kp.mk (key.out (some ⟨b, off, none⟩) (by rw [if_pos hck]))
        clear key
        subst hck
        go_wp2_with fail
        go_ret
        refine ⟨rfl, ?_, hg.out _⟩
        have := key2.out
        rw [Nat.sub_self] at this
        exact this
      · have key2 := Kp.mk (key.out (some ⟨b, off + k, none⟩) (by rw [if_neg hck, Option.map_some, add_addr]))
        clear key
        go_wp2_with fail
        go_ret
        exact ⟨rfl, key2.out, hg.out _⟩

set_option maxRecDepth 100000 in
set_option maxHeartbeats 1600000 in
theorem refNum_few4 (t : Nat) (ht : t = 4) (htl : l.length < t) (hR : Rdr 110 w lo g l 0) :
    Calls Try.prog 82 #[.pointer (some ⟨g, 0, none⟩), .int .i64 t] w (IntRdr 110 w lo g 0 [] 3) := by
  obtain ⟨A, n, c, hn, hrd, c0, c1, _, _⟩ := hR.cells
  have e1 : ((t : Int) != 1) = true := by rw [bne_iff_ne]; omega
  have e2 : ((t : Int) != 2) = true := by rw [bne_iff_ne]; omega
  have e4 : ((t : Int) != 4) = false := by rw [bne_eq_false_iff_eq]; omega
  have i1 : (n : Int) < t := by omega
  clear ht htl hn
  go_enter Try.func82, Try.ntmps82
  go_wp2_with fail
  refine (refFail_any 3 hR).mono ?_
  rintro en w1 ⟨rfl, h1, hg1⟩
  go_wp2_with fail
  go_ret
  exact ⟨rfl, h1, hg1⟩

set_option maxRecDepth 100000 in
set_option maxHeartbeats 1600000 in
theorem refNum_ok4 (t : Nat) (ht : t = 4) (htl : t ≤ l.length) (hR : Rdr 110 w lo g l 0) :
    Calls Try.prog 82 #[.pointer (some ⟨g, 0, none⟩), .int .i64 t] w (IntRdr 110 w lo g (num (l.take t) : Nat) (l.drop t) 0) := by
  have hR0 := hR
  obtain ⟨A, n, c, hc, hlo, hrd, hb, hl, he⟩ := hR
  have hn := hrd.len
  obtain ⟨b, off, rfl, hbg, hcell⟩ := hrd.at_ (by omega)
  have c0 : w.cell? ⟨g, 0, none⟩ = some (.slice (some ⟨b, off, none⟩) n c) := by simp [World.cell?, hc]
  have c1 : w.cell? ⟨g, 1, none⟩ = some (.int .i64 0) := by simp [World.cell?, hc]
  have f0 : w.frozen? ⟨g, 0, none⟩ = false := by simp [World.frozen?, hc]
  have i1 : (t : Int) ≤ n := by omega
  have i2 : (n : Int) ≤ c := by have := hrd.le; omega
  have i3 : (c : Int) ≤ 9223372036854775807 := by have := hrd.cap; unfold maxLen at this; omega
  have ht4 : t ≤ 4 := by omega
  have e1 : ((t : Int) != 1) = true := by rw [bne_iff_ne]; omega
  have e2 : ((t : Int) != 2) = true := by rw [bne_iff_ne]; omega
  have e4 : ((t : Int) != 4) = false := by rw [bne_eq_false_iff_eq]; omega
  have key : Kp (∀ A' : Option Addr, (A' = if c = t then some ⟨b, off, none⟩ else (some ⟨b, off, none⟩ : Option Addr).map (fun x => x.add t)) → Rdr 110 (w.setCell ⟨g, 0, none⟩ (.slice A' (n - t) (c - t))) lo g (l.drop t) 0) :=
    Kp.mk (fun A' hA => Rdr.drop_ hlo hrd hb hl he (by omega) hc hA)
  have hg := Kp.mk (fun u => grownBy_set w g 0 u)
  have Hcell := Kp.mk hcell
  have Hl := Kp.mk hl
  have Htl := Kp.mk htl
  have Hn := Kp.mk hn
  clear hc hlo hrd hb he hcell hR0 hl htl hn ht
  go_enter Try.func82, Try.ntmps82
  go_wp2_with fail
  go_loop [5, 6] (fun v i => ∃ k : Nat, k ≤ t ∧ i = .int .i64 k ∧ v = .int .i64 (num (l.take k) : Nat)) (fun _ i => t - (intOf i).toNat)
  case atStart => exact ⟨0, by omega, rfl, by simp [num]⟩
  case round =>
    obtain ⟨k, hk, rfl, rfl⟩ := hrel
    by_cases hlt : k < t
    · have hck := Hcell.out k (by omega)
      have hb := By.getD Hl.out k
      have hq := num_take_lt l Hl.out k (by omega)
      have hm := Kp.mk (num_mul l Hl.out k (by have := Htl.out; omega))
      have j1 : (k : Int) < n := by omega
      have j2 : (k : Int) < t := by omega
      generalize l.getD k 0 = x at *
      obtain ⟨hb1, hb2⟩ := hb
      generalize num (l.take k) = q at *
      go_wp2_with fail
      go_round
      case rel => exact ⟨k + 1, by omega, by go_num, by rw [hm.out]⟩
      case measure => simp [intOf]; omega
    · obtain rfl : k = t := by omega
      by_cases hck : c = k
      · have key2 := Kp.mk (key.out (some ⟨b, off, none⟩) (by rw [if_pos hck]))
        clear key
        subst hck
        go_wp2_with fail
        go_ret
        refine ⟨rfl, ?_, hg.out _⟩
        have := key2.out
        rw [Nat.sub_self] at this
        exact this
      · have key2 := Kp.mk (key.out (some ⟨b, off + k, none⟩) (by rw [if_neg hck, Option.map_some, add_addr]))
        clear key
        go_wp2_with fail
        go_ret
        exact ⟨rfl, key2.out, hg.out _⟩

theorem refNum_any (s : Int) (hR : Rdr 110 w lo g l e) :
    Calls Try.prog 82 #[.pointer (some ⟨g, 0, none⟩), .int .i64 s] w (IntRdr 110 w lo g (numR s l e).1 (numR s l e).2.1 (numR s l e).2.2) := by
  by_cases hz : e = 0
  · subst hz
    by_cases hs : s = 1 ∨ s = 2 ∨ s = 4
    · have hp : numR s l 0 = if l.length < s.toNat then (0, [], 3) else (((num (l.take s.toNat) : Nat) : Int), l.drop s.toNat, 0) := by
        unfold numR; rw [if_neg (by simp), if_pos hs]
      by_cases hl : l.length < s.toNat
      · rw [hp, if_pos hl]
        rcases hs with rfl | rfl | rfl
        · exact refNum_few1 1 rfl hl hR
        · exact refNum_few2 2 rfl hl hR
        · exact refNum_few4 4 rfl hl hR
      · rw [hp, if_neg hl]
        rcases hs with rfl | rfl | rfl
        · exact refNum_ok1 1 rfl (by omega) hR
        · exact refNum_ok2 2 rfl (by omega) hR
        · exact refNum_ok4 4 rfl (by omega) hR
    · have hp : numR s l 0 = (0, [], 2) := by unfold numR; rw [if_neg (by simp), if_neg hs]
      rw [hp]
      obtain ⟨A, n, c, hn, hrd, c0, c1, _, _⟩ := hR.cells
      have e1 : (s != 1) = true := by rw [bne_iff_ne]; omega
      have e2 : (s != 2) = true := by rw [bne_iff_ne]; omega
      have e4 : (s != 4) = true := by rw [bne_iff_ne]; omega
      clear hp hs hn
      go_enter Try.func82, Try.ntmps82
      go_wp2_with fail
      refine (refFail_any 2 hR).mono ?_
      rintro en w1 ⟨rfl, h1, hg1⟩
      go_wp2_with fail
      go_ret
      exact ⟨rfl, h1, hg1⟩
  · have hp : numR s l e = (0, l, e) := by unfold numR; rw [if_pos hz]
    rw [hp]
    obtain ⟨A, n, c, hn, hrd, c0, c1, _, _⟩ := hR.cells
    have e1 : (e != 0) = true := by rw [bne_iff_ne]; exact hz
    have e2 : (e == 0) = false := by simpa using hz
    clear hp hn hz
    go_enter Try.func82, Try.ntmps82
    go_wp2_with fail
    go_ret
    exact ⟨rfl, hR, World.grownBy.refl _ _⟩

set_option maxRecDepth 100000 in
set_option maxHeartbeats 1600000 in
theorem refText_anyM (h : Rdr 110 w lo g l e) :
    Calls Try.prog 84 #[.pointer (some ⟨g, 0, none⟩)] w (SliceRdr 110 w lo g (textR l e).1 (textR l e).2.1 (textR l e).2.2) := by
  obtain ⟨v, hv, hv2, hz⟩ := numR_2 l e h.by_ h.ez
  obtain ⟨l1, hl1⟩ : ∃ l1, (numR 2 l e).2.1 = l1 := ⟨_, rfl⟩
  obtain ⟨e1, he1⟩ : ∃ e1, (numR 2 l e).2.2 = e1 := ⟨_, rfl⟩
  have hnum := Kp.mk (show numR 2 l e = ((v : Int), l1, e1) by rw [← hv, ← hl1, ← he1])
  rw [hl1, he1] at hz
  by_cases h1z : e1 = 0
  · subst h1z
    by_cases hle : v ≤ l1.length
    · have ht := Kp.mk (textR_yes l e v l1 0 hnum.out hz hle)
      have hle' := Kp.mk hle
      clear hv hl1 he1 hz hle
      go_enter Try.func84, Try.ntmps84
      go_wp2_with fail
      refine (refNum_any 2 h).mono ?_
      rw [hnum.out]
      rintro en w1 ⟨rfl, h1, hg1⟩
      have h10 := h1
      obtain ⟨A, n, c, hc, hlo, hrd, hb, hl, he⟩ := h1
      have hn : l1.length = n := hrd.len
      have c0 : w1.cell? ⟨g, 0, none⟩ = some (.slice A n c) := by simp [World.cell?, hc]
      have c1 : w1.cell? ⟨g, 1, none⟩ = some (.int .i64 0) := by simp [World.cell?, hc]
      have i1 : (v : Int) ≤ n := by have := hle'.out; omega
      have i2 : (n : Int) ≤ c := by have := hrd.le; omega
      have i3 : (c : Int) ≤ 9223372036854775807 := by have := hrd.cap; unfold maxLen at this; omega
      have hr1 := Kp.mk (hrd.pre v (by have := hle'.out; omega))
      have hlt := h10.lt
      have hz1 := hg1.size
      clear hc hlo hrd hb hl he hn
      go_wp2_with fail
      refine (copyBytes_any hr1.out (by omega)).mono ?_
      rintro en w2 ⟨A2, n2, c2, rfl, ho2, hb2⟩
      have h2 := h10.below hb2
      have h20 := h2
      have hz2 := hb2.size
      obtain ⟨A', n', c', hc, hlo, hrd, hb, hl, he⟩ := h2
      have hn : l1.length = n' := hrd.len
      have d0 : w2.cell? ⟨g, 0, none⟩ = some (.slice A' n' c') := by simp [World.cell?, hc]
      have f0 : w2.frozen? ⟨g, 0, none⟩ = false := by simp [World.frozen?, hc]
      have i1' : (v : Int) ≤ n' := by have := hle'.out; omega
      have i2' : (n' : Int) ≤ c' := by have := hrd.le; omega
      have i3' : (c' : Int) ≤ 9223372036854775807 := by have := hrd.cap; unfold maxLen at this; omega
      have key : Kp (∀ A3 : Option Addr, (A3 = if c' = v then A' else A'.map (fun x => x.add v)) → Rdr 110 (w2.setCell ⟨g, 0, none⟩ (.slice A3 (n' - v) (c' - v))) lo g (l1.drop v) 0) :=
        Kp.mk (fun A3 hA => Rdr.drop_ hlo hrd hb hl he (by omega) hc hA)
      have ho3 : Kp (∀ u, Own (w2.setCell ⟨g, 0, none⟩ u) w1.heap.size (.slice A2 n2 c2) n2 (l1.take v)) := Kp.mk (fun u => ownsRow_setCell_below ho2 hlt u)
      have hg3 : Kp (∀ u, w.grownBy (w2.setCell ⟨g, 0, none⟩ u) (some g)) := Kp.mk (fun u => grown_trans2 (grown_trans2 hg1 (grown_of_below hb2 _)) (grownBy_set _ _ _ _))
      clear hc hlo hrd hb hl he hn c0 c1 h10 h20 ho2 hb2
      by_cases hck : c' = v
      · have key2 := Kp.mk (key.out A' (by rw [if_pos hck]))
        clear key
        subst hck
        go_wp2_with fail
        rw [ht.out]
        go_ret
        refine ⟨A2, n2, c2, rfl, (ho3.out _).lower (by omega), ?_, hg3.out _⟩
        have := key2.out
        rw [Nat.sub_self] at this
        exact this
      · have key2 := Kp.mk (key.out _ (if_neg hck).symm)
        clear key
        go_wp2_with fail
        rw [ht.out]
        go_ret
        exact ⟨A2, n2, c2, rfl, (ho3.out _).lower (by omega), key2.out, hg3.out _⟩
    · obtain ⟨_, ht'⟩ := textR_no l e v l1 0 hnum.out hz (by omega)
      have ht := Kp.mk ht'
      have hle' := Kp.mk hle
      clear hv hl1 he1 hz hle ht'
      go_enter Try.func84, Try.ntmps84
      go_wp2_with fail
      refine (refNum_any 2 h).mono ?_
      rw [hnum.out]
      rintro en w1 ⟨rfl, h1, hg1⟩
      obtain ⟨A, n, c, hn, hrd, c0, c1, _, _⟩ := h1.cells
      have hn' : l1.length = n := hn
      have i1 : (n : Int) < v := by have := hle'.out; omega
      clear hn'
      clear hn hrd
      go_wp2_with fail
      refine (refFail_any 3 h1).mono ?_
      rintro en w2 ⟨rfl, h2, hg2⟩
      go_wp2_with fail
      rw [ht.out]
      go_ret
      exact ⟨none, 0, 0, rfl, Own.nil _ _, h2, grown_trans2 hg1 hg2⟩
  · obtain ⟨rfl, rfl⟩ := hz h1z
    have ht := Kp.mk (textR_yes l e 0 [] e1 hnum.out hz (by simp))
    have e2 : (e1 != 0) = true := by rw [bne_iff_ne]; exact h1z
    have e3 : (e1 == 0) = false := by simpa using h1z
    clear hv hl1 he1 hz h1z
    go_enter Try.func84, Try.ntmps84
    go_wp2_with fail
    refine (refNum_any 2 h).mono ?_
    rw [hnum.out]
    rintro en w1 ⟨rfl, h1, hg1⟩
    obtain ⟨A, n, c, hn, hrd, c0, c1, _, _⟩ := h1.cells
    clear hn hrd
    go_wp2_with fail
    rw [ht.out]
    go_ret
    exact ⟨none, 0, 0, rfl, Own.nil _ _, h1, hg1⟩
end
end Go.Proofs.Ytnhjpiaenbhilaa.Oct
