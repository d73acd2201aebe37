/- Contracts of layer 12 (graph): ends. -/
import Derived.Test.YtlmonnggklfniaaGraB
namespace Go.Proofs.Ytlmonnggklfniaa.Oct
open Go.RowKit
set_option linter.unusedVariables false
set_option linter.unusedSimpArgs false

/-- What lies there in a round of ends. -/
structure Eg (S : Int) (A : Option Addr) (n c : Nat) (G MB LB : Nat) (es : Me) (l : Lk) (w0 w : World) : Prop where
  g : Vb 24 w G [.int .i64 S, .slice A n c]
  k : Vb 43 w LB [.int .i64 l.a, .int .i64 l.p, .int .i64 l.b, .int .i64 l.q]
  m : Mp w MB es
  b : Below w0.heap.size w0 w
section
variable {S : Int} {A : Option Addr} {n c G MB LB : Nat} {es es' : Me} {l : Lk} {w0 w w' : World}
theorem Eg.below (h : Eg S A n c G MB LB es l w0 w) (hb : Below w.heap.size w w') : Eg S A n c G MB LB es l w0 w' := ⟨h.g.below hb h.g.lt, h.k.below hb h.k.lt, h.m.below hb h.m.lt, h.b.trans (hb.mono h.b.size)⟩
theorem Eg.led (h : Eg S A n c G MB LB es l w0 w) (hg : w.grownBy w' (some MB)) (hm : Mp w' MB es') (h1 : G ≠ MB) (h2 : LB ≠ MB) (h3 : w0.heap.size ≤ MB) : Eg S A n c G MB LB es' l w0 w' := ⟨h.g.grown hg h1, h.k.grown hg h2, hm, below_grown h.b hg h.b.size h3⟩
theorem Eg.cells (h : Eg S A n c G MB LB es l w0 w) : w.cell? ⟨G, 0, none⟩ = some (.int .i64 S) ∧ w.cell? ⟨G, 1, none⟩ = some (.slice A n c) ∧ w.cell? ⟨LB, 0, none⟩ = some (.int .i64 l.a) ∧ w.cell? ⟨LB, 1, none⟩ = some (.int .i64 l.p) ∧ w.cell? ⟨LB, 2, none⟩ = some (.int .i64 l.b) ∧ w.cell? ⟨LB, 3, none⟩ = some (.int .i64 l.q) :=
  ⟨h.g.cell 0 rfl, h.g.cell 1 rfl, h.k.cell 0 rfl, h.k.cell 1 rfl, h.k.cell 2 rfl, h.k.cell 3 rfl⟩
end
/-- What ends answers. -/
def EndsIs (r : Option Me) (w : World) (e : Ending) (w' : World) : Prop :=
  (match r with
    | none => e = .returned (.tuple #[.map none, .bool false])
    | some es => ∃ b, e = .returned (.tuple #[.map (some b), .bool true]) ∧ w.heap.size ≤ b ∧ Mp w' b es) ∧ Below w.heap.size w w'
theorem EndsIs.no {w w' : World} (hb : Below w.heap.size w w') : EndsIs none w (.returned (.tuple #[.map none, .bool false])) w' := ⟨rfl, hb⟩

set_option maxRecDepth 100000 in
set_option maxHeartbeats 1000000 in
theorem ends_any {w : World} {B n c : Nat} {A : Option Addr} {ls : List Lk} (h : Lr w B A n c ls) (hB : B ≤ w.heap.size) (S : Int) : Calls Try.prog 24 #[grV S A n c] w (EndsIs (endsP S ls) w) := by
  have hlen := h.len
  have hmax := h.max
  have H := Kp.mk h
  have HL := Kp.mk hlen
  have HB := Kp.mk hB
  clear h hlen hB
  by_cases h1 : S < 1
  · have HP := Kp.mk (show endsP S ls = none by unfold endsP; rw [if_neg (by omega)])
    go_enter Try.func24, Try.ntmps24
    go_wp2_with fail
    refine bodyPost_ret (v := .tuple #[.map none, .bool false]) (by simp [results, Try.results24, go_sem]) rfl ?_
    rw [HP.out]
    exact EndsIs.no (below_alloc _ _)
  · by_cases h2 : 6 < S
    · have HP := Kp.mk (show endsP S ls = none by unfold endsP; rw [if_neg (by omega)])
      go_enter Try.func24, Try.ntmps24
      go_wp2_with fail
      refine bodyPost_ret (v := .tuple #[.map none, .bool false]) (by simp [results, Try.results24, go_sem]) rfl ?_
      rw [HP.out]
      exact EndsIs.no (below_alloc _ _)
    · have HP := Kp.mk (show endsP S ls = endsL S ls 0 [] by unfold endsP; rw [if_pos (by omega)])
      have hmm := @run_makeMap Try.prog
      have hg0 : Vb 24 ((w.alloc (.cells #[.int .i64 S, .slice A n c] 24)).alloc (.map #[] 0)) w.heap.size [.int .i64 S, .slice A n c] := (Vb.new 24 w [.int .i64 S, .slice A n c]).alloc _
      have hm0 : Mp ((w.alloc (.cells #[.int .i64 S, .slice A n c] 24)).alloc (.map #[] 0)) (w.heap.size + 1) [] := by
        have := Mp.new (w.alloc (.cells #[.int .i64 S, .slice A n c] 24))
        rwa [World.size_alloc] at this
      have hb0 := below_two w (.cells #[.int .i64 S, .slice A n c] 24) (.map #[] 0)
      have HZ := Kp.mk (And.intro hg0 (And.intro hm0 hb0))
      clear hg0 hm0 hb0
      go_enter Try.func24, Try.ntmps24
      go_wp2_with fail
      clear hmm
      go_loopw [19] (fun s19 wr => ∃ k : Nat, s19 = .int .i64 k ∧ k ≤ n ∧ Kp (∃ es, endsL S ls 0 [] = endsL S (ls.drop k) k es ∧ Vb 24 wr w.heap.size [.int .i64 S, .slice A n c] ∧ Mp wr (w.heap.size + 1) es ∧ Below w.heap.size w wr)) (fun s19 _ => n - (intOf s19).toNat)
      case atStart => exact ⟨0, rfl, Nat.zero_le _, Kp.mk ⟨[], by rw [List.drop_zero]; rfl, HZ.out.1, HZ.out.2.1, HZ.out.2.2⟩⟩
      case round =>
        clear HZ
        obtain ⟨k, rfl, hk, HK⟩ := hrel
        by_cases hlt : k < n
        · obtain ⟨es, hes, hg, hm, hb⟩ := HK.out
          obtain ⟨l, hl⟩ : ∃ l, ls[k]? = some l := ⟨_, List.getElem?_eq_getElem (by have := HL.out; omega)⟩
          have HD := Kp.mk (show ls.drop k = l :: ls.drop (k + 1) by rw [← List.getElem_cons_drop (by have := HL.out; omega)]; congr 1; rw [List.getElem?_eq_getElem (by have := HL.out; omega)] at hl; exact Option.some.inj hl)
          obtain ⟨b1, o1, rfl, _, f1⟩ := (H.out.below' hb HB.out).at_ (by omega)
          obtain ⟨d0, d1, d2, d3⟩ := f1 k l hl
          obtain ⟨a, p, b, q⟩ := l
          have hzr := hm.lt
          have hE : Eg S (some ⟨b1, o1, none⟩) n c w.heap.size (w.heap.size + 1) wr.heap.size es ⟨a, p, b, q⟩ w (wr.alloc (.cells #[.int .i64 a, .int .i64 p, .int .i64 b, .int .i64 q] 43)) := ⟨hg.alloc _, Vb.new _ wr [_, _, _, _], hm.alloc _, hb.alloc hb.size _⟩
          have HE := Kp.mk hE
          have HS := Kp.mk (And.intro hes hzr)
          obtain ⟨c0, c1, c2, c3, c4, c5⟩ := hE.cells
          clear hE hg hm hb f1 HK hes hzr
          have hcA := isEnd_any S a p (some ⟨b1, o1, none⟩) n c
          have hcB := isEnd_any S b q (some ⟨b1, o1, none⟩) n c
          go_wp2_with fail
          cases hA : endOk S (a, p) with
          | false =>
            have HN := Kp.mk (show endsP S ls = none by rw [HP.out, HS.out.1, HD.out]; show (if _ then _ else _) = _; rw [if_neg]; rintro ⟨x1, x2, x3⟩; simp only [Lk.A, Lk.B] at x1 x2 x3; rw [hA] at x1; cases x1)
            simp only [hA] at hcA
            clear hA hcB
            refine (hcA _).mono ?_
            rintro e w2 ⟨rfl, hb2⟩
            have hE2 := Kp.mk (HE.out.below hb2)
            clear c0 c1 c2 c3 c4 c5 d0 d1 d2 d3 hcA hb2
            go_wp2_with fail
            refine bodyPost_ret (v := .tuple #[.map none, .bool false]) (by simp [results, Try.results24, go_sem]) rfl ?_
            rw [HN.out]
            exact EndsIs.no hE2.out.b
          | true =>
            have HA := Kp.mk hA
            simp only [hA] at hcA
            clear hA
            refine (hcA _).mono ?_
            rintro e w2 ⟨rfl, hb2⟩
            have hE2 := HE.out.below hb2
            have HE2 := Kp.mk hE2
            clear c0 c1 c2 c3 c4 c5 d0 d1 d2 d3 hcA hb2
            obtain ⟨c0, c1, c2, c3, c4, c5⟩ := hE2.cells
            clear hE2
            go_wp2_with fail
            cases hA : endOk S (b, q) with
            | false =>
              have HN := Kp.mk (show endsP S ls = none by rw [HP.out, HS.out.1, HD.out]; show (if _ then _ else _) = _; rw [if_neg]; rintro ⟨x1, x2, x3⟩; simp only [Lk.A, Lk.B] at x1 x2 x3; rw [hA] at x2; cases x2)
              simp only [hA] at hcB
              clear hA
              refine (hcB _).mono ?_
              rintro e w3 ⟨rfl, hb2⟩
              have hE3 := Kp.mk (HE2.out.below hb2)
              clear c0 c1 c2 c3 c4 c5 hcB hb2
              go_wp2_with fail
              refine bodyPost_ret (v := .tuple #[.map none, .bool false]) (by simp [results, Try.results24, go_sem]) rfl ?_
              rw [HN.out]
              exact EndsIs.no hE3.out.b
            | true =>
              have HB2 := Kp.mk hA
              simp only [hA] at hcB
              clear hA
              refine (hcB _).mono ?_
              rintro e w3 ⟨rfl, hb2⟩
              have hE3 := HE2.out.below hb2
              have HE3 := Kp.mk hE3
              clear c0 c1 c2 c3 c4 c5 hcB hb2
              obtain ⟨c0, c1, c2, c3, c4, c5⟩ := hE3.cells
              clear hE3
              by_cases hab : a = b
              · have HN := Kp.mk (show endsP S ls = none by rw [HP.out, HS.out.1, HD.out]; show (if _ then _ else _) = _; rw [if_neg]; rintro ⟨x1, x2, x3⟩; simp only [Lk.A, Lk.B] at x1 x2 x3; exact x3 hab)
                have hab2 : (a == b) = true := by simpa using hab
                clear hab
                go_wp2_with fail
                refine bodyPost_ret (v := .tuple #[.map none, .bool false]) (by simp [results, Try.results24, go_sem]) rfl ?_
                rw [HN.out]
                exact EndsIs.no HE3.out.b
              · have HY := Kp.mk (show endsL S (⟨a, p, b, q⟩ :: ls.drop (k + 1)) k es = (match leadP es (a, p) ((b, q), (k : Int)) with
                    | none => none
                    | some es1 => match leadP es1 (b, q) ((a, p), (k : Int)) with
                      | none => none
                      | some es2 => endsL S (ls.drop (k + 1)) ((k : Int) + 1) es2) by
                  show (if _ then _ else _) = _
                  rw [if_pos ⟨HA.out, HB2.out, hab⟩]; rfl)
                have hab2 : (a == b) = false := by simpa using hab
                clear hab
                go_wp2_with fail
                have hcL := lead_any HE3.out.m a p b q k
                cases hL : leadP es (a, p) ((b, q), (k : Int)) with
                | none =>
                  have HN := Kp.mk (show endsP S ls = none by rw [HP.out, HS.out.1, HD.out, HY.out, hL])
                  simp only [hL] at hcL
                  clear hL
                  refine hcL.mono ?_
                  rintro e w4 ⟨rfl, _, hg4⟩
                  have HB4 := Kp.mk (below_grown HE3.out.b hg4 HE3.out.b.size (by omega))
                  clear c0 c1 c2 c3 c4 c5 hcL hg4
                  go_wp2_with fail
                  refine bodyPost_ret (v := .tuple #[.map none, .bool false]) (by simp [results, Try.results24, go_sem]) rfl ?_
                  rw [HN.out]
                  exact EndsIs.no HB4.out
                | some es1 =>
                  have HL1 := Kp.mk hL
                  simp only [hL] at hcL
                  clear hL
                  refine hcL.mono ?_
                  rintro e w4 ⟨rfl, hm4, hg4⟩
                  have hE4 := HE3.out.led hg4 (hm4 _ rfl) (by omega) (by have := HS.out.2; omega) (by omega)
                  have HE4 := Kp.mk hE4
                  clear c0 c1 c2 c3 c4 c5 hcL hg4 hm4
                  obtain ⟨c0, c1, c2, c3, c4, c5⟩ := hE4.cells
                  clear hE4
                  go_wp2_with fail
                  have hcL := lead_any HE4.out.m b q a p k
                  cases hL : leadP es1 (b, q) ((a, p), (k : Int)) with
                  | none =>
                    have HN := Kp.mk (show endsP S ls = none by rw [HP.out, HS.out.1, HD.out, HY.out, HL1.out]; dsimp only; rw [hL])
                    simp only [hL] at hcL
                    clear hL
                    refine hcL.mono ?_
                    rintro e w5 ⟨rfl, _, hg4⟩
                    have HB4 := Kp.mk (below_grown HE4.out.b hg4 HE4.out.b.size (by omega))
                    clear c0 c1 c2 c3 c4 c5 hcL hg4
                    go_wp2_with fail
                    refine bodyPost_ret (v := .tuple #[.map none, .bool false]) (by simp [results, Try.results24, go_sem]) rfl ?_
                    rw [HN.out]
                    exact EndsIs.no HB4.out
                  | some es2 =>
                    have HX := Kp.mk (show endsL S ls 0 [] = endsL S (ls.drop (k + 1)) ((k + 1 : Nat) : Int) es2 by rw [HS.out.1, HD.out, HY.out, HL1.out]; dsimp only; rw [hL]; rfl)
                    simp only [hL] at hcL
                    clear hL
                    refine hcL.mono ?_
                    rintro e w5 ⟨rfl, hm5, hg5⟩
                    have HE5 := Kp.mk (HE4.out.led hg5 (hm5 _ rfl) (by omega) (by have := HS.out.2; omega) (by omega))
                    clear c0 c1 c2 c3 c4 c5 hcL hg5 hm5
                    go_wp2_with fail
                    go_roundw
                    case rel => exact ⟨k + 1, by go_num, by omega, Kp.mk ⟨es2, HX.out, HE5.out.g, HE5.out.m, HE5.out.b⟩⟩
                    case measure => simp [intOf]; omega
        · obtain rfl : k = n := by omega
          obtain ⟨es, hes, hg, hm, hb⟩ := HK.out
          have HX := Kp.mk (And.intro (show endsP S ls = some es by rw [HP.out, hes, List.drop_eq_nil_of_le (by have := HL.out; omega)]; rfl) (And.intro hm hb))
          clear HK hes hg hm hb
          go_wp2_with fail
          refine bodyPost_ret (v := .tuple #[.map (some (w.heap.size + 1)), .bool true]) (by simp [results, Try.results24, go_sem]) rfl ?_
          rw [HX.out.1]
          exact ⟨⟨_, rfl, by omega, HX.out.2.1⟩, HX.out.2.2⟩
end Go.Proofs.Ytlmonnggklfniaa.Oct
