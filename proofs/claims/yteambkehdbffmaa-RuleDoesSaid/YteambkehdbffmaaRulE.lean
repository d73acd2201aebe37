/- Contracts of layer 8: what a rule does. -/
import Derived.Test.YteambkehdbffmaaRulD
import Derived.Test.YteambkehdbffmaaRulB
namespace Go.Proofs.Yteambkehdbffmaa.Oct
open Go.RowKit
set_option linter.unusedVariables false
set_option linter.unusedSimpArgs false

/-- What outputs make of a header, each once, behind what is there. -/
def doesF (a b c : Int) : List OutV → List OutV → List OutV
  | [], acc => acc
  | o :: os, acc => doesF a b c os (if sentP o a b c ∈ acc then acc else acc ++ [sentP o a b c])
def doesR (r : RuleV) (a b c : Int) : List OutV := if r.k = 1 then doesF a b c r.os [] else []
theorem doesF_step {a b c : Int} {os acc : List OutV} {k : Nat} {x : OutV} (h : os[k]? = some x) : doesF a b c (os.drop k) acc = doesF a b c (os.drop (k + 1)) (if sentP x a b c ∈ acc then acc else acc ++ [sentP x a b c]) := by
  have hk := (List.getElem?_eq_some_iff.1 h).1
  rw [List.drop_eq_getElem_cons hk, (List.getElem?_eq_some_iff.1 h).2]
  rfl
/-- A slice of Sents is answered. -/
def SentsOf (ss : List OutV) (w : World) (e : Ending) (w' : World) : Prop := ∃ A n c, e = .returned (.slice A n c) ∧ Rs w' w'.heap.size A n c ss ∧ Below w.heap.size w w'
theorem one_sent (w : World) (x : OutV) : Rs (w.alloc (.cells #[.int .i64 x.p, .int .u8 x.a, .int .u8 x.b, .int .u8 x.c] 44)) (w.heap.size + 1) (some ⟨w.heap.size, 0, none⟩) 1 1 [x] := by
  refine ⟨rfl, Nat.le_refl _, by unfold maxLen; omega, fun e => by simp at e, fun hn => ⟨w.heap.size, 0, rfl, by omega, fun j o hj => ?_⟩⟩
  have hv := Vb.new 44 w (scs x)
  match j, hj with
  | 0, hj =>
    simp at hj
    subst hj
    exact ⟨hv.cell 0 rfl, hv.cell 1 rfl, hv.cell 2 rfl, hv.cell 3 rfl⟩
  | j + 1, hj => simp at hj
set_option maxRecDepth 100000 in
set_option maxHeartbeats 4000000 in
theorem does_any {w : World} {B : Nat} {A : Option Addr} {n c : Nat} {r : RuleV} (h : Ro w B A n c r.os) (hB : B ≤ w.heap.size) (hn : n ≤ 1000) (a b e : Int) : Calls Try.prog 8 #[.agg #[.int .i64 r.k, .int .i64 r.pr, .int .i64 r.to, .int .i64 r.po, .int .i64 r.x.v, .int .i64 r.x.m, .int .u8 r.x.b0, .int .u8 r.x.b1, .int .u8 r.x.b2, .int .u8 r.x.i0, .int .u8 r.x.i1, .int .u8 r.x.i2, .slice A n c], .agg #[.int .u8 a, .int .u8 b, .int .u8 e]] w (SentsOf (doesR r a b e) w) := by
  have hx : Vb 28 ((w.alloc (.cells #[.int .i64 r.k, .int .i64 r.pr, .int .i64 r.to, .int .i64 r.po, .int .i64 r.x.v, .int .i64 r.x.m, .int .u8 r.x.b0, .int .u8 r.x.b1, .int .u8 r.x.b2, .int .u8 r.x.i0, .int .u8 r.x.i1, .int .u8 r.x.i2, .slice A n c] 28)).alloc (.cells #[.int .u8 a, .int .u8 b, .int .u8 e] 23)) w.heap.size [.int .i64 r.k, .int .i64 r.pr, .int .i64 r.to, .int .i64 r.po, .int .i64 r.x.v, .int .i64 r.x.m, .int .u8 r.x.b0, .int .u8 r.x.b1, .int .u8 r.x.b2, .int .u8 r.x.i0, .int .u8 r.x.i1, .int .u8 r.x.i2, .slice A n c] := (Vb.new 28 w [.int .i64 r.k, .int .i64 r.pr, .int .i64 r.to, .int .i64 r.po, .int .i64 r.x.v, .int .i64 r.x.m, .int .u8 r.x.b0, .int .u8 r.x.b1, .int .u8 r.x.b2, .int .u8 r.x.i0, .int .u8 r.x.i1, .int .u8 r.x.i2, .slice A n c]).alloc _
  have hy : Vb 23 ((w.alloc (.cells #[.int .i64 r.k, .int .i64 r.pr, .int .i64 r.to, .int .i64 r.po, .int .i64 r.x.v, .int .i64 r.x.m, .int .u8 r.x.b0, .int .u8 r.x.b1, .int .u8 r.x.b2, .int .u8 r.x.i0, .int .u8 r.x.i1, .int .u8 r.x.i2, .slice A n c] 28)).alloc (.cells #[.int .u8 a, .int .u8 b, .int .u8 e] 23)) (w.heap.size + 1) [.int .u8 a, .int .u8 b, .int .u8 e] := by have := Vb.new 23 (w.alloc (.cells #[.int .i64 r.k, .int .i64 r.pr, .int .i64 r.to, .int .i64 r.po, .int .i64 r.x.v, .int .i64 r.x.m, .int .u8 r.x.b0, .int .u8 r.x.b1, .int .u8 r.x.b2, .int .u8 r.x.i0, .int .u8 r.x.i1, .int .u8 r.x.i2, .slice A n c] 28)) [.int .u8 a, .int .u8 b, .int .u8 e]; simpa using this
  have hB0 := below_two w (.cells #[.int .i64 r.k, .int .i64 r.pr, .int .i64 r.to, .int .i64 r.po, .int .i64 r.x.v, .int .i64 r.x.m, .int .u8 r.x.b0, .int .u8 r.x.b1, .int .u8 r.x.b2, .int .u8 r.x.i0, .int .u8 r.x.i1, .int .u8 r.x.i2, .slice A n c] 28) (.cells #[.int .u8 a, .int .u8 b, .int .u8 e] 23)
  have hl := h.len
  by_cases h1 : r.k = 1
  rotate_left
  · have hp := Kp.mk (show doesR r a b e = [] from if_neg h1)
    have h1' : (r.k != 1) = true := by simpa using h1
    have d0 := hx.cell 0 rfl
    clear h1
    go_enter Try.func8, Try.ntmps8
    go_wp2_with fail
    go_ret
    exact ⟨none, 0, 0, rfl, by rw [hp.out]; exact ⟨rfl, Nat.le_refl _, Nat.zero_le _, fun _ => rfl, fun h => absurd h (by omega)⟩, hB0⟩
  have hp := Kp.mk (show doesR r a b e = doesF a b e r.os [] from if_pos h1)
  have h1' : (r.k != 1) = false := by simpa using h1
  clear h1
  have hw2 : ((w.alloc (.cells #[.int .i64 r.k, .int .i64 r.pr, .int .i64 r.to, .int .i64 r.po, .int .i64 r.x.v, .int .i64 r.x.m, .int .u8 r.x.b0, .int .u8 r.x.b1, .int .u8 r.x.b2, .int .u8 r.x.i0, .int .u8 r.x.i1, .int .u8 r.x.i2, .slice A n c] 28)).alloc (.cells #[.int .u8 a, .int .u8 b, .int .u8 e] 23)).heap.size = w.heap.size + 2 := by simp
  have HA := Kp.mk (h.below' hB0 hB)
  have d0 := hx.cell 0 rfl
  have d12 := hx.cell 12 rfl
  go_enter Try.func8, Try.ntmps8
  go_wp2_with fail
  generalize (w.alloc (.cells #[.int .i64 r.k, .int .i64 r.pr, .int .i64 r.to, .int .i64 r.po, .int .i64 r.x.v, .int .i64 r.x.m, .int .u8 r.x.b0, .int .u8 r.x.b1, .int .u8 r.x.b2, .int .u8 r.x.i0, .int .u8 r.x.i1, .int .u8 r.x.i2, .slice A n c] 28)).alloc (.cells #[.int .u8 a, .int .u8 b, .int .u8 e] 23) = w0 at *
  clear d0 d12 hx
  go_loopw [5, 15] (fun v i wr => ∃ (k : Nat) (Ak : Option Addr) (nk ck : Nat) (ss : List OutV), k ≤ n ∧ nk ≤ k ∧ i = .int .i64 k ∧ v = .slice Ak nk ck ∧ Ows wr (w.heap.size + 2) (.slice Ak nk ck) nk ss ∧ Kp (doesF a b e (r.os.drop k) ss = doesF a b e r.os []) ∧ Below (w.heap.size + 2) w0 wr) (fun _ i _ => n - (intOf i).toNat)
  case atStart => exact ⟨0, none, 0, 0, [], by omega, by omega, rfl, rfl, Ows.nil _ _, Kp.mk rfl, Below.refl _ _⟩
  case round =>
    obtain ⟨k, Ak, nk, ck, ss, hk, hnk, rfl, rfl, hO, HK, hb⟩ := hrel
    have hz := hb.size
    have hB1 := hB0.trans (hb.mono (by omega))
    by_cases hltn : k < n
    rotate_left
    · obtain rfl : k = n := by omega
      have hq := Kp.mk (show doesR r a b e = ss by rw [hp.out, ← HK.out, List.drop_eq_nil_of_le (by omega)]; rfl)
      go_wp2_with fail
      go_ret
      exact ⟨Ak, nk, ck, rfl, by rw [hq.out]; exact hO.ron.1, hB1⟩
    obtain ⟨q, off, eA, hbB, hc⟩ := HA.out.at_ (by omega)
    obtain ⟨x, hxk⟩ : ∃ x, r.os[k]? = some x := ⟨_, List.getElem?_eq_getElem (by omega)⟩
    obtain ⟨f0, f1, f2, f3⟩ := ((HA.out.below' hb (by omega)).at_ (by omega)).elim (fun q' hh => by
      obtain ⟨off', e1, _, hc'⟩ := hh
      have e2 := Option.some.inj (eA.symm.trans e1)
      have e3 := congrArg Addr.block e2
      have e4 := congrArg Addr.off e2
      simp only at e3 e4
      subst e3 e4
      exact hc' k x hxk)
    have HS := Kp.mk (doesF_step (a := a) (b := b) (c := e) (acc := ss) hxk)
    subst eA
    have j1 : (k : Int) < n := by omega
    clear hc hxk
    have hy1 := hy.below hb (by omega)
    have hy2 := hy1.alloc (.cells #[.int .i64 x.p, .int .i64 x.a, .int .i64 x.b, .int .i64 x.c] 42)
    obtain ⟨g0, g1, g2⟩ := hy2.c3
    have hba := below_alloc wr (.cells #[.int .i64 x.p, .int .i64 x.a, .int .i64 x.b, .int .i64 x.c] 42)
    have hO2 := hO.below hba
    have hb2 := hb.trans (hba.mono (by omega))
    clear hO
    go_wp2_with fail
    refine (sent_any x a b e _).mono ?_
    rintro e9 w1 ⟨rfl, hb3⟩
    have hm : (scs (sentP x a b e)).toArray = #[.int .i64 (sentP x a b e).p, .int .u8 (sentP x a b e).a, .int .u8 (sentP x a b e).b, .int .u8 (sentP x a b e).c] := rfl
    rw [hm]
    clear hm g0 g1 g2 f0 f1 f2 f3 hy1 hy2 hba
    generalize sentP x a b e = s at *
    have hO3 := hO2.below hb3
    have hb4 := hb2.trans (hb3.mono (by have := hb2.size; omega))
    clear hO2 hb3 hb2 hb
    have hv := Vb.new 44 w1 [.int .i64 s.p, .int .u8 s.a, .int .u8 s.b, .int .u8 s.c]
    have hba := below_alloc w1 (.cells #[.int .i64 s.p, .int .u8 s.a, .int .u8 s.b, .int .u8 s.c] 44)
    have hO4 := hO3.below hba
    have hb5 := hb4.trans (hba.mono (by have := hb4.size; omega))
    have hlw := hv.lt
    clear hO3 hba hb4
    obtain ⟨g0, g1, g2, g3⟩ := hv.c4
    go_wp2_with fail
    generalize w1.alloc (.cells #[.int .i64 s.p, .int .u8 s.a, .int .u8 s.b, .int .u8 s.c] 44) = w2 at *
    generalize w1.heap.size = gs at *
    clear g0 g1 g2 g3
    refine (contains_any hO4.ron.1 (Nat.le_refl _) s).mono ?_
    rintro e9 w3 ⟨rfl, hb6⟩
    have hO5 := hO4.below hb6
    have hb7 := hb5.trans (hb6.mono (by have := hb5.size; omega))
    have hv3 := hv.below hb6 hlw
    have hz7 := hb7.size
    clear hO4 hb6 hb5 hv
    by_cases hs : s ∈ ss
    · have hd : decide (s ∈ ss) = true := decide_eq_true hs
      have HN := Kp.mk (show doesF a b e (r.os.drop (k + 1)) ss = doesF a b e r.os [] by rw [← HK.out, HS.out, if_pos hs])
      rw [hd]
      go_wp2_with fail
      go_roundw
      case rel => exact ⟨k + 1, Ak, nk, ck, ss, by omega, by omega, by go_num, rfl, hO5, HN, hb7⟩
      case measure => simp [intOf]; omega
    · have hd : decide (s ∈ ss) = false := decide_eq_false hs
      have HN := Kp.mk (show doesF a b e (r.os.drop (k + 1)) (ss ++ [s]) = doesF a b e r.os [] by rw [← HK.out, HS.out, if_neg hs])
      rw [hd]
      clear hs hd
      obtain ⟨g0, g1, g2, g3⟩ := hv3.c4
      have hr1 := one_sent w3 s
      have hba := below_alloc w3 (.cells #[.int .i64 s.p, .int .u8 s.a, .int .u8 s.b, .int .u8 s.c] 44)
      have hO6 := hO5.below hba
      have hb8 := hb7.trans (hba.mono (by omega))
      have hz8 := hb8.size
      clear hO5
      go_wp2_with (at_builtin; refine wpList_appendS rfl (.tmp 26) (.tmp 28) rfl rfl hO6 rfl hr1 (by omega) (by omega) ?_; intro A' c' w5 hO7 hb9 hg9)
      have hb10 := hb8.trans hb9
      go_roundw
      case rel => exact ⟨k + 1, A', nk + 1, c', ss ++ [s], by omega, by omega, by go_num, rfl, hO7, HN, hb10⟩
      case measure => simp [intOf]; omega
theorem Ro.got {w : World} {B q off n c : Nat} {os : List OutV} (h : Ro w B (some ⟨q, off, none⟩) n c os) {k : Nat} {x : OutV} (hk : os[k]? = some x) : w.cell? ⟨q, off + k * 4, none⟩ = some (.int .i64 x.p) ∧ w.cell? ⟨q, off + k * 4 + 1, none⟩ = some (.int .i64 x.a) ∧ w.cell? ⟨q, off + k * 4 + 2, none⟩ = some (.int .i64 x.b) ∧ w.cell? ⟨q, off + k * 4 + 3, none⟩ = some (.int .i64 x.c) := by
  have hkl := (List.getElem?_eq_some_iff.1 hk).1
  obtain ⟨q', off', e1, _, hc'⟩ := h.at_ (by have := h.len; omega)
  have e2 := Option.some.inj e1
  have e3 := congrArg Addr.block e2
  have e4 := congrArg Addr.off e2
  simp only at e3 e4
  subst e3 e4
  exact hc' k x hk
/-- A header of which the first j fields are said. -/
def hcP (x : OutV) (a b e : Int) (j : Nat) : OutV := ⟨x.p, if j = 0 then a else putB x.a a, if j ≤ 1 then b else putB x.b b, if j ≤ 2 then e else putB x.c e⟩
set_option maxRecDepth 100000 in
set_option maxHeartbeats 8000000 in
theorem refDoes_any {w : World} {B : Nat} {A : Option Addr} {n c : Nat} {r : RuleV} (h : Ro w B A n c r.os) (hB : B ≤ w.heap.size) (hn : n ≤ 1000) (a b e : Int) : Calls Try.prog 9 #[.agg #[.int .i64 r.k, .int .i64 r.pr, .int .i64 r.to, .int .i64 r.po, .int .i64 r.x.v, .int .i64 r.x.m, .int .u8 r.x.b0, .int .u8 r.x.b1, .int .u8 r.x.b2, .int .u8 r.x.i0, .int .u8 r.x.i1, .int .u8 r.x.i2, .slice A n c], .agg #[.int .u8 a, .int .u8 b, .int .u8 e]] w (SentsOf (doesR r a b e) w) := by
  have hx : Vb 28 ((w.alloc (.cells #[.int .i64 r.k, .int .i64 r.pr, .int .i64 r.to, .int .i64 r.po, .int .i64 r.x.v, .int .i64 r.x.m, .int .u8 r.x.b0, .int .u8 r.x.b1, .int .u8 r.x.b2, .int .u8 r.x.i0, .int .u8 r.x.i1, .int .u8 r.x.i2, .slice A n c] 28)).alloc (.cells #[.int .u8 a, .int .u8 b, .int .u8 e] 23)) w.heap.size [.int .i64 r.k, .int .i64 r.pr, .int .i64 r.to, .int .i64 r.po, .int .i64 r.x.v, .int .i64 r.x.m, .int .u8 r.x.b0, .int .u8 r.x.b1, .int .u8 r.x.b2, .int .u8 r.x.i0, .int .u8 r.x.i1, .int .u8 r.x.i2, .slice A n c] := (Vb.new 28 w [.int .i64 r.k, .int .i64 r.pr, .int .i64 r.to, .int .i64 r.po, .int .i64 r.x.v, .int .i64 r.x.m, .int .u8 r.x.b0, .int .u8 r.x.b1, .int .u8 r.x.b2, .int .u8 r.x.i0, .int .u8 r.x.i1, .int .u8 r.x.i2, .slice A n c]).alloc _
  have hy : Vb 23 ((w.alloc (.cells #[.int .i64 r.k, .int .i64 r.pr, .int .i64 r.to, .int .i64 r.po, .int .i64 r.x.v, .int .i64 r.x.m, .int .u8 r.x.b0, .int .u8 r.x.b1, .int .u8 r.x.b2, .int .u8 r.x.i0, .int .u8 r.x.i1, .int .u8 r.x.i2, .slice A n c] 28)).alloc (.cells #[.int .u8 a, .int .u8 b, .int .u8 e] 23)) (w.heap.size + 1) [.int .u8 a, .int .u8 b, .int .u8 e] := by have := Vb.new 23 (w.alloc (.cells #[.int .i64 r.k, .int .i64 r.pr, .int .i64 r.to, .int .i64 r.po, .int .i64 r.x.v, .int .i64 r.x.m, .int .u8 r.x.b0, .int .u8 r.x.b1, .int .u8 r.x.b2, .int .u8 r.x.i0, .int .u8 r.x.i1, .int .u8 r.x.i2, .slice A n c] 28)) [.int .u8 a, .int .u8 b, .int .u8 e]; simpa using this
  have hB0 := below_two w (.cells #[.int .i64 r.k, .int .i64 r.pr, .int .i64 r.to, .int .i64 r.po, .int .i64 r.x.v, .int .i64 r.x.m, .int .u8 r.x.b0, .int .u8 r.x.b1, .int .u8 r.x.b2, .int .u8 r.x.i0, .int .u8 r.x.i1, .int .u8 r.x.i2, .slice A n c] 28) (.cells #[.int .u8 a, .int .u8 b, .int .u8 e] 23)
  have hl := h.len
  by_cases h1 : r.k = 1
  rotate_left
  · have hp := Kp.mk (show doesR r a b e = [] from if_neg h1)
    have h1' : (r.k != 1) = true := by simpa using h1
    have d0 := hx.cell 0 rfl
    clear h1
    go_enter Try.func9, Try.ntmps9
    go_wp2_with fail
    go_ret
    exact ⟨none, 0, 0, rfl, by rw [hp.out]; exact ⟨rfl, Nat.le_refl _, Nat.zero_le _, fun _ => rfl, fun h => absurd h (by omega)⟩, hB0⟩
  have hp := Kp.mk (show doesR r a b e = doesF a b e r.os [] from if_pos h1)
  have h1' : (r.k != 1) = false := by simpa using h1
  clear h1
  have hw2 : ((w.alloc (.cells #[.int .i64 r.k, .int .i64 r.pr, .int .i64 r.to, .int .i64 r.po, .int .i64 r.x.v, .int .i64 r.x.m, .int .u8 r.x.b0, .int .u8 r.x.b1, .int .u8 r.x.b2, .int .u8 r.x.i0, .int .u8 r.x.i1, .int .u8 r.x.i2, .slice A n c] 28)).alloc (.cells #[.int .u8 a, .int .u8 b, .int .u8 e] 23)).heap.size = w.heap.size + 2 := by simp
  have HA := Kp.mk ((h.below' hB0 hB).more hB)
  have d0 := hx.cell 0 rfl
  go_enter Try.func9, Try.ntmps9
  go_wp2_with fail
  generalize (w.alloc (.cells #[.int .i64 r.k, .int .i64 r.pr, .int .i64 r.to, .int .i64 r.po, .int .i64 r.x.v, .int .i64 r.x.m, .int .u8 r.x.b0, .int .u8 r.x.b1, .int .u8 r.x.b2, .int .u8 r.x.i0, .int .u8 r.x.i1, .int .u8 r.x.i2, .slice A n c] 28)).alloc (.cells #[.int .u8 a, .int .u8 b, .int .u8 e] 23) = w0 at *
  clear d0
  go_loopw [5, 6] (fun v i wr => ∃ (k : Nat) (Ak : Option Addr) (nk ck : Nat) (ss : List OutV), k ≤ n ∧ nk ≤ k ∧ i = .int .i64 k ∧ v = .slice Ak nk ck ∧ Ows wr (w.heap.size + 2) (.slice Ak nk ck) nk ss ∧ Kp (doesF a b e (r.os.drop k) ss = doesF a b e r.os []) ∧ Below (w.heap.size + 2) w0 wr) (fun _ i _ => n - (intOf i).toNat)
  case atStart => exact ⟨0, none, 0, 0, [], by omega, by omega, rfl, rfl, Ows.nil _ _, Kp.mk rfl, Below.refl _ _⟩
  case round =>
    obtain ⟨k, Ak, nk, ck, ss, hk, hnk, rfl, rfl, hO, HK, hb⟩ := hrel
    have hz := hb.size
    have hB1 := hB0.trans (hb.mono (by omega))
    have hx1 := hx.below hb (by omega)
    have hy1 := hy.below hb (by omega)
    have d12 := hx1.cell 12 rfl
    by_cases hltn : k < n
    rotate_left
    · obtain rfl : k = n := by omega
      have hq := Kp.mk (show doesR r a b e = ss by rw [hp.out, ← HK.out, List.drop_eq_nil_of_le (by omega)]; rfl)
      go_wp2_with fail
      go_ret
      exact ⟨Ak, nk, ck, rfl, by rw [hq.out]; exact hO.ron.1, hB1⟩
    obtain ⟨q, off, eA, hbB, _⟩ := HA.out.at_ (by omega)
    obtain ⟨x, hxk⟩ : ∃ x, r.os[k]? = some x := ⟨_, List.getElem?_eq_getElem (by omega)⟩
    have HS := Kp.mk (doesF_step (a := a) (b := b) (c := e) (acc := ss) hxk)
    have hA1 := HA.out.below' hb (by omega)
    subst eA
    have j1 : (k : Int) < n := by omega
    go_upto_region 7 with fail
    have hd0 : Below wr.heap.size wr wr.drew := (Below.refl _ _).drew
    have hO1 := hO.below hd0
    replace hb : Below (w.heap.size + 2) w0 wr.drew := hb.trans (hd0.mono (by omega))
    replace hB1 : Below w.heap.size w wr.drew := hB1.trans (hd0.mono (by omega))
    have hS0 : (fun W => Vb 28 W w.heap.size [.int .i64 r.k, .int .i64 r.pr, .int .i64 r.to, .int .i64 r.po, .int .i64 r.x.v, .int .i64 r.x.m, .int .u8 r.x.b0, .int .u8 r.x.b1, .int .u8 r.x.b2, .int .u8 r.x.i0, .int .u8 r.x.i1, .int .u8 r.x.i2, .slice (some ⟨q, off, none⟩) n c] ∧ Vb 23 W (w.heap.size + 1) [.int .u8 a, .int .u8 b, .int .u8 e] ∧ Ro W w.heap.size (some ⟨q, off, none⟩) n c r.os) wr.drew := ⟨hx1.below hd0 (by omega), hy1.below hd0 (by omega), hA1.below' hd0 (by omega)⟩
    refine wp_region_held_drew (S := fun W => Vb 28 W w.heap.size [.int .i64 r.k, .int .i64 r.pr, .int .i64 r.to, .int .i64 r.po, .int .i64 r.x.v, .int .i64 r.x.m, .int .u8 r.x.b0, .int .u8 r.x.b1, .int .u8 r.x.b2, .int .u8 r.x.i0, .int .u8 r.x.i1, .int .u8 r.x.i2, .slice (some ⟨q, off, none⟩) n c] ∧ Vb 23 W (w.heap.size + 1) [.int .u8 a, .int .u8 b, .int .u8 e] ∧ Ro W w.heap.size (some ⟨q, off, none⟩) n c r.os) (by kernel_rfl) hS0 (fun _ => ?_)
    clear d12 hx1 hy1 hA1 hO hd0
    replace hz : w.heap.size + 2 ≤ wr.drew.heap.size := by have := hb.size; omega
    generalize wr.drew = u0 at *
    refine takeD (i := 0) (v := .pointer (some ⟨w.heap.size, 12, none⟩)) (some 19) rfl rfl (by kernel_rfl) (by kernel_rfl) (by kernel_rfl) (fun _ _ _ h => h) (Or.inl ⟨by rfl, ?_⟩) hS0 ?_
    · rintro w' ⟨s0, s1, s2⟩
      go_simp
    try simp only [Act.put, List.setIfInBounds_toArray, List.set_cons_zero, List.set_cons_succ]
    refine takeD (i := 1) (v := .slice (some ⟨q, off, none⟩) n c) (some 20) rfl rfl (by kernel_rfl) (by kernel_rfl) (by kernel_rfl) (fun _ _ _ h => h) (Or.inl ⟨by rfl, ?_⟩) hS0 ?_
    · rintro w' ⟨s0, s1, s2⟩
      have d12 := s0.cell 12 rfl
      go_simp
    try simp only [Act.put, List.setIfInBounds_toArray, List.set_cons_zero, List.set_cons_succ]
    refine takeD (i := 2) (v := .int .i64 k) (some 21) rfl rfl (by kernel_rfl) (by kernel_rfl) (by kernel_rfl) (fun _ _ _ h => h) (Or.inl ⟨by rfl, ?_⟩) hS0 ?_
    · rintro w' ⟨s0, s1, s2⟩
      go_simp
    try simp only [Act.put, List.setIfInBounds_toArray, List.set_cons_zero, List.set_cons_succ]
    refine takeD (i := 3) (v := .pointer (some ⟨q, off + k * 4, none⟩)) (some 22) rfl rfl (by kernel_rfl) (by kernel_rfl) (by kernel_rfl) (fun _ _ _ h => h) (Or.inl ⟨by rfl, ?_⟩) hS0 ?_
    · rintro w' ⟨s0, s1, s2⟩
      go_simp
    try simp only [Act.put, List.setIfInBounds_toArray, List.set_cons_zero, List.set_cons_succ]
    refine takeD (i := 4) (v := .pointer (some ⟨q, off + k * 4, none⟩)) (some 23) rfl rfl (by kernel_rfl) (by kernel_rfl) (by kernel_rfl) (fun _ _ _ h => h) (Or.inl ⟨by rfl, ?_⟩) hS0 ?_
    · rintro w' ⟨s0, s1, s2⟩
      go_simp
    try simp only [Act.put, List.setIfInBounds_toArray, List.set_cons_zero, List.set_cons_succ]
    refine takeD (i := 5) (v := .int .i64 x.p) (some 24) rfl rfl (by kernel_rfl) (by kernel_rfl) (by kernel_rfl) (fun _ _ _ h => h) (Or.inl ⟨by rfl, ?_⟩) hS0 ?_
    · rintro w' ⟨s0, s1, s2⟩
      have f0 := (s2.got hxk).1
      go_simp
    try simp only [Act.put, List.setIfInBounds_toArray, List.set_cons_zero, List.set_cons_succ]
    refine takeD (i := 6) (v := .agg #[.int .u8 a, .int .u8 b, .int .u8 e]) (some 25) rfl rfl (by kernel_rfl) (by kernel_rfl) (by kernel_rfl) (fun _ _ _ h => h) (Or.inl ⟨by rfl, ?_⟩) hS0 ?_
    · rintro w' ⟨s0, s1, s2⟩
      obtain ⟨g0, g1, g2⟩ := s1.c3
      go_simp
    try simp only [Act.put, List.setIfInBounds_toArray, List.set_cons_zero, List.set_cons_succ]
    refine takeD (i := 7) (v := .agg #[.int .i64 x.p, .int .u8 a, .int .u8 b, .int .u8 e]) (some 26) rfl rfl (by kernel_rfl) (by kernel_rfl) (by kernel_rfl) (fun _ _ _ h => h) (Or.inl ⟨by rfl, ?_⟩) hS0 ?_
    · rintro w' ⟨s0, s1, s2⟩
      go_simp
    try simp only [Act.put, List.setIfInBounds_toArray, List.set_cons_zero, List.set_cons_succ]
    refine wpAnyH_ready (rs := [8]) (by kernel_rfl) (by simp) ?_
    refine AllReadyH.cons rfl (fun K hK => ?_) AllReadyH.nil
    try rw [if_pos (by rfl)]
    go_simp
    have hba := below_alloc u0 (.cells #[.int .i64 0, .int .u8 0, .int .u8 0, .int .u8 0] 44)
    have hv := Vb.new 44 u0 [.int .i64 0, .int .u8 0, .int .u8 0, .int .u8 0]
    have hS1 : (fun W => Vb 28 W w.heap.size [.int .i64 r.k, .int .i64 r.pr, .int .i64 r.to, .int .i64 r.po, .int .i64 r.x.v, .int .i64 r.x.m, .int .u8 r.x.b0, .int .u8 r.x.b1, .int .u8 r.x.b2, .int .u8 r.x.i0, .int .u8 r.x.i1, .int .u8 r.x.i2, .slice (some ⟨q, off, none⟩) n c] ∧ Vb 23 W (w.heap.size + 1) [.int .u8 a, .int .u8 b, .int .u8 e] ∧ Ro W w.heap.size (some ⟨q, off, none⟩) n c r.os) (u0.alloc (.cells #[.int .i64 0, .int .u8 0, .int .u8 0, .int .u8 0] 44)) := ⟨hS0.1.below hba (by omega), hS0.2.1.below hba (by omega), hS0.2.2.below' hba (by omega)⟩
    refine hK.out _ _ hS1 (fun _ => ?_)
    clear hK K
    try simp only [Act.put, List.setIfInBounds_toArray, List.set_cons_zero, List.set_cons_succ]
    refine wpAnyH_ready (rs := [9]) (by kernel_rfl) (by simp) ?_
    refine AllReadyH.cons rfl (fun K hK => ?_) AllReadyH.nil
    try rw [if_pos (by rfl)]
    refine wp_store_vb' (T := 44) (vs := scs (hcP x a b e 0)) none rfl (.tmp 7) (.tmp 26) rfl rfl rfl hv rfl agg_sent rfl ?_
    intro u2 hv2 hg hz2
    have hbu : Below u0.heap.size u0 u2 := hba.grown hg (by simp) (fun k e => by simp at e; omega)
    have hS2 : (fun W => Vb 28 W w.heap.size [.int .i64 r.k, .int .i64 r.pr, .int .i64 r.to, .int .i64 r.po, .int .i64 r.x.v, .int .i64 r.x.m, .int .u8 r.x.b0, .int .u8 r.x.b1, .int .u8 r.x.b2, .int .u8 r.x.i0, .int .u8 r.x.i1, .int .u8 r.x.i2, .slice (some ⟨q, off, none⟩) n c] ∧ Vb 23 W (w.heap.size + 1) [.int .u8 a, .int .u8 b, .int .u8 e] ∧ Ro W w.heap.size (some ⟨q, off, none⟩) n c r.os) u2 := ⟨hS0.1.below hbu (by omega), hS0.2.1.below hbu (by omega), hS0.2.2.below' hbu (by omega)⟩
    refine hK.out _ _ hS2 (fun _ => ?_)
    clear hK K hba hv hS1 hg hz2 hS2
    try simp only [Act.put, List.setIfInBounds_toArray, List.set_cons_zero, List.set_cons_succ]
    refine wpAnyH_done (by kernel_rfl) ?_ _
    generalize hgs : u0.heap.size = gs at *
    go_wp2_with fail
    go_loopw [8] (fun i wr => ∃ j : Nat, j ≤ 3 ∧ i = .int .i64 j ∧ Vb 44 wr gs (scs (hcP x a b e j)) ∧ Below gs u0 wr) (fun i _ => 3 - (intOf i).toNat)
    case atStart => exact ⟨0, by omega, rfl, hv2, hbu⟩
    case round =>
      clear hv2 hbu
      obtain ⟨j, hj, rfl, hv, hbi⟩ := hrel
      have hvl := hv.lt
      by_cases hj3 : j = 3
      · subst hj3
        have hO2 := hO1.below (w' := wr) (by rw [hgs]; exact hbi)
        have hb1 := hb.trans (hbi.mono hz)
        have hBi := hB1.trans (hbi.mono (by omega))
        replace hv : Vb 44 wr gs (scs (sentP x a b e)) := hv
        generalize sentP x a b e = s at *
        obtain ⟨g0, g1, g2, g3⟩ := Vb.c4 (show Vb 44 wr gs [.int .i64 s.p, .int .u8 s.a, .int .u8 s.b, .int .u8 s.c] from hv)
        have hz3 := hb1.size
        go_wp2_with fail
        clear g0 g1 g2 g3
        refine (had_any hO2.ron.1 (Nat.le_refl _) s).mono ?_
        rintro e9 w3 ⟨rfl, hb6⟩
        have hO5 := hO2.below hb6
        have hb7 := hb1.trans (hb6.mono (by omega))
        have hv3 := hv.below hb6 hvl
        have hz7 := hb7.size
        clear hO2 hb6 hb1 hv
        by_cases hs : s ∈ ss
        · have hd : decide (s ∈ ss) = true := decide_eq_true hs
          have HN := Kp.mk (show doesF a b e (r.os.drop (k + 1)) ss = doesF a b e r.os [] by rw [← HK.out, HS.out, if_pos hs])
          rw [hd]
          go_wp2_with fail
          go_roundw
          case rel => exact ⟨k + 1, Ak, nk, ck, ss, by omega, by omega, by go_num, rfl, hO5, HN, hb7⟩
          case measure => simp [intOf]; omega
        · have hd : decide (s ∈ ss) = false := decide_eq_false hs
          have HN := Kp.mk (show doesF a b e (r.os.drop (k + 1)) (ss ++ [s]) = doesF a b e r.os [] by rw [← HK.out, HS.out, if_neg hs])
          rw [hd]
          clear hs hd
          obtain ⟨g0, g1, g2, g3⟩ := Vb.c4 (show Vb 44 w3 gs [.int .i64 s.p, .int .u8 s.a, .int .u8 s.b, .int .u8 s.c] from hv3)
          have hr1 := one_sent w3 s
          have hba := below_alloc w3 (.cells #[.int .i64 s.p, .int .u8 s.a, .int .u8 s.b, .int .u8 s.c] 44)
          have hO6 := hO5.below hba
          have hb8 := hb7.trans (hba.mono (by omega))
          have hz8 := hb8.size
          clear hO5
          go_wp2_with (at_builtin; refine wpList_appendS rfl (.tmp 56) (.tmp 58) rfl rfl hO6 rfl hr1 (by omega) (by omega) ?_; intro A' c' w5 hO7 hb9 hg9)
          have hb10 := hb8.trans hb9
          go_roundw
          case rel => exact ⟨k + 1, A', nk + 1, c', ss ++ [s], by omega, by omega, by go_num, rfl, hO7, HN, hb10⟩
          case measure => simp [intOf]; omega
      · have d12 := (hS0.1.below hbi (by omega)).cell 12 rfl
        obtain ⟨f0, f1, f2, f3⟩ := (hS0.2.2.below' hbi (by omega)).got hxk
        have hf := hv.free
        have hjj : j = 0 ∨ j = 1 ∨ j = 2 := by omega
        rcases hjj with rfl | rfl | rfl
        · obtain ⟨g0, g1, g2, g3⟩ := Vb.c4 (show Vb 44 wr gs [.int .i64 x.p, .int .u8 a, .int .u8 b, .int .u8 e] from hv)
          by_cases h0 : x.a = -1
          · have n0 := nem_f h0
            have e1 : hcP x a b e 1 = hcP x a b e 0 := by unfold hcP; simp [putB_y (h := a) h0]
            rw [← e1] at hv
            clear h0 e1
            go_wp2_with fail
            go_roundw
            case rel => exact ⟨1, by omega, by go_num, hv, hbi⟩
            case measure => simp [intOf]
          · have n0 := nem_t h0
            have e1 := putB_n (h := a) h0
            clear h0
            go_wp2_with fail
            go_roundw
            case rel => exact ⟨1, by omega, by go_num, by have := hv.set 1 (.int .u8 (x.a % 256)); rw [← e1] at this ⊢; exact this, hbi.setCell (by simp) _⟩
            case measure => simp [intOf]
        · obtain ⟨g0, g1, g2, g3⟩ := Vb.c4 (show Vb 44 wr gs [.int .i64 x.p, .int .u8 (putB x.a a), .int .u8 b, .int .u8 e] from hv)
          by_cases h0 : x.b = -1
          · have n0 := nem_f h0
            have e1 : hcP x a b e 2 = hcP x a b e 1 := by unfold hcP; simp [putB_y (h := b) h0]
            rw [← e1] at hv
            clear h0 e1
            go_wp2_with fail
            go_roundw
            case rel => exact ⟨2, by omega, by go_num, hv, hbi⟩
            case measure => simp [intOf]
          · have n0 := nem_t h0
            have e1 := putB_n (h := b) h0
            clear h0
            go_wp2_with fail
            go_roundw
            case rel => exact ⟨2, by omega, by go_num, by have := hv.set 2 (.int .u8 (x.b % 256)); rw [← e1] at this ⊢; exact this, hbi.setCell (by simp) _⟩
            case measure => simp [intOf]
        · obtain ⟨g0, g1, g2, g3⟩ := Vb.c4 (show Vb 44 wr gs [.int .i64 x.p, .int .u8 (putB x.a a), .int .u8 (putB x.b b), .int .u8 e] from hv)
          by_cases h0 : x.c = -1
          · have n0 := nem_f h0
            have e1 : hcP x a b e 3 = hcP x a b e 2 := by unfold hcP; simp [putB_y (h := e) h0]
            rw [← e1] at hv
            clear h0 e1
            go_wp2_with fail
            go_roundw
            case rel => exact ⟨3, by omega, by go_num, hv, hbi⟩
            case measure => simp [intOf]
          · have n0 := nem_t h0
            have e1 := putB_n (h := e) h0
            clear h0
            go_wp2_with fail
            go_roundw
            case rel => exact ⟨3, by omega, by go_num, by have := hv.set 3 (.int .u8 (x.c % 256)); rw [← e1] at this ⊢; exact this, hbi.setCell (by simp) _⟩
            case measure => simp [intOf]
end Go.Proofs.Yteambkehdbffmaa.Oct
