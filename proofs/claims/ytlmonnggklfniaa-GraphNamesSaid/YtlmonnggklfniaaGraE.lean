/- Contracts of layer 12 (graph): Ports, beside. -/
import Derived.Test.YtlmonnggklfniaaGraD
import Derived.Maps.AppendAt
namespace Go.Proofs.Ytlmonnggklfniaa.Oct
open Go.RowKit
set_option linter.unusedVariables false
set_option linter.unusedSimpArgs false

/-- One more int is put behind an owned row. -/
theorem app1 {w : World} {base m : Nat} {v : Value} {l : List Int} (ty : TypeId) (hO : Oi w base v m l) (hb : base ≤ w.heap.size) (hm : m ≤ 1000) (x : Int) :
    ∃ A' c' w', (Builtin.append_ #[29, 29] ty #[v, .slice (some ⟨w.heap.size, 0, none⟩) 1 1]).run Try.prog (w.alloc (.cells #[.int .i64 x] 3)) = .ok (.slice A' (m + 1) c') w' ∧
      Oi w' base (.slice A' (m + 1) c') (m + 1) (l ++ [x]) ∧ Below base w w' ∧ w.grownBy w' v.ownBlock ∧ ((Value.slice A' (m + 1) c').ownBlock = v.ownBlock ∨ ∀ k, (Value.slice A' (m + 1) c').ownBlock = some k → w.heap.size ≤ k) := by
  have hb6 := below_alloc w (.cells #[.int .i64 x] 3)
  have hr6 : Rd .i64 (w.alloc (.cells #[.int .i64 x] 3)) (w.heap.size + 1) (some ⟨w.heap.size, 0, none⟩) 1 1 [x] := rd_lit .i64 w 3 [x] (by simp [maxLen]) (w.heap.size + 1) (by omega)
  have hO6 := hO.below hb6
  have hB6 : Below base w (w.alloc (.cells #[.int .i64 x] 3)) := hb6.mono hb
  obtain ⟨A7, c7, w7, hrun, hO7, hb7, hg7, hN7⟩ := run_appendI ty hO6 hr6 (by omega) (Nat.le_trans hb (by simp))
  refine ⟨A7, c7, w7, hrun, hO7, hB6.trans hb7, World.grownBy.trans (World.grownBy_alloc w _ _) hg7, hN7.imp id (fun h k hk => by have := h k hk; simp at this; omega)⟩
/-- What a map, or none, holds. -/
def Mo (w : World) (m : Option Nat) (es : Me) : Prop := match m with
  | none => es = []
  | some b => Mp w b es
theorem Mo.keep {w w' : World} {m : Option Nat} {es : Me} (h : Mo w m es) (hk : ∀ b, m = some b → w'.heap[b]? = w.heap[b]?) : Mo w' m es := by
  cases m with
  | none => exact h
  | some b => exact Mp.keep h (hk b rfl)
theorem Mo.lt {w : World} {m : Option Nat} {es : Me} (h : Mo w m es) : ∀ b, m = some b → b < w.heap.size := by
  rintro b rfl; exact Mp.lt h
theorem Mo.below {w w' : World} {m : Option Nat} {es : Me} (h : Mo w m es) (hb : Below w.heap.size w w') : Mo w' m es := h.keep fun b e => hb.block b (h.lt b e)
theorem run_lookM {w : World} {m : Option Nat} {es : Me} (h : Mo w m es) (a p : Int) : (Instr.lookup 47 (.map m) (.agg #[.int .i64 a, .int .i64 p]) true).run Try.prog w = .ok (.tuple #[farO (fnd es (a, p)), .bool (fnd es (a, p)).isSome]) w := by
  cases m with
  | none => obtain rfl : es = [] := h; exact run_lookN w (a, p)
  | some b => exact run_lookG h (a, p)
theorem EndsIs.mo {r : Option Me} {w w' : World} {e : Ending} (h : EndsIs r w e w') : ∃ m, e = .returned (.tuple #[.map m, .bool r.isSome]) ∧ Mo w' m (r.getD []) ∧ (∀ b, m = some b → w.heap.size ≤ b) ∧ Below w.heap.size w w' := by
  obtain ⟨h1, h2⟩ := h
  cases r with
  | none => exact ⟨none, h1, rfl, (fun b e => by cases e), h2⟩
  | some es => obtain ⟨b, h3, h4, h5⟩ := h1; exact ⟨some b, h3, h5, (fun b' e => by cases e; exact h4), h2⟩
theorem peer_mo (S : Int) (ls : List Lk) (e : Int × Int) : peerP S ls e = fnd ((endsP S ls).getD []) e := by
  unfold peerP; cases endsP S ls <;> rfl

/-- An owned row is no map. -/
theorem oi_mp {w : World} {base n b : Nat} {v : Value} {l : List Int} {es : Me} (hO : Oi w base v n l) (hM : Mp w b es) : v.ownBlock ≠ some b := by
  intro e
  rcases hO.2 with ⟨rfl, _⟩ | ⟨g, cap, cur, rfl, hbg, hg, _⟩
  · simp [Value.ownBlock] at e
  · have e : g = b := by simpa [Value.ownBlock] using e
    subst e
    rw [show w.heap[g]? = _ from hM] at hg
    cases hg
set_option maxRecDepth 100000 in
theorem gPorts_any {w : World} {B n c : Nat} {A : Option Addr} {ls : List Lk} (h : Lr w B A n c ls) (hB : B ≤ w.heap.size) (S s : Int) : Calls Try.prog 10 #[grV S A n c, .int .i64 s] w fun e w' => ∃ v, e = .returned v ∧ (∃ m, Oi w' w.heap.size v m (portsP S ls s)) ∧ Below w.heap.size w w' := by
  have hb0 := below_alloc w (.cells #[.int .i64 S, .slice A n c] 24)
  have hc := ends_any (h.below' hb0 hB) (by simp; omega) S
  have HB := Kp.mk hb0
  clear h hB hb0
  have HC := Kp.mk (fun p => peer_mo S ls (s, p))
  generalize endsP S ls = r at *
  go_enter Try.func10, Try.ntmps10
  go_wp2_with fail
  refine hc.mono ?_
  rintro e w2 he
  obtain ⟨m, rfl, hm, _, hb2⟩ := he.mo
  have HB2 := Kp.mk (HB.out.trans (hb2.mono (by simp)))
  have HM := Kp.mk hm
  clear hb2 hc he hm HB
  generalize r.getD [] = es at *
  go_wp2_with fail
  go_loopw [7, 8] (fun s7 s8 wr => ∃ (k q : Nat), s8 = .int .i64 ((k : Int) + 1) ∧ k ≤ 4 ∧ Kp (Oi wr w.heap.size s7 q (portsTo S ls s k) ∧ Mo wr m es ∧ Below w.heap.size w wr)) (fun _ s8 _ => 5 - (intOf s8).toNat)
  case atStart => exact ⟨0, 0, rfl, Nat.zero_le _, Kp.mk ⟨Oi.nil _ _, HM.out, HB2.out⟩⟩
  case round =>
    clear HM HB2
    obtain ⟨k, q, rfl, hk, HK⟩ := hrel
    by_cases hlt : k < 4
    · obtain ⟨hO, hM, hB⟩ := HK.out
      have hlk := run_lookM hM s ((k : Int) + 1)
      have HS := Kp.mk (show portsTo S ls s (k + 1) = portsTo S ls s k ++ if (fnd es (s, (k : Int) + 1)).isSome then [(k : Int) + 1] else [] by rw [ports_step hlt, HC.out])
      have HQ := Kp.mk (show q ≤ 4 by have := ports_len S ls s k; have := hO.len; omega)
      have hlt1 : (k : Int) + 1 ≤ 4 := by omega
      clear HK
      cases hf : (fnd es (s, (k : Int) + 1)).isSome with
      | false =>
        rw [hf] at hlk
        have HS2 := Kp.mk (show portsTo S ls s (k + 1) = portsTo S ls s k by rw [HS.out, hf]; simp)
        clear hf HS
        obtain ⟨V, hV⟩ : ∃ V, V = farO (fnd es (s, (k : Int) + 1)) := ⟨_, rfl⟩
        obtain ⟨x, y, i, hV2⟩ : ∃ x y i : Int, farO (fnd es (s, (k : Int) + 1)) = .agg #[.int .i64 x, .int .i64 y, .int .i64 i] := by cases fnd es (s, (k : Int) + 1) <;> exact ⟨_, _, _, rfl⟩
        rw [hV2] at hlk
        clear hV hV2
        have HZ := Kp.mk (And.intro (hO.alloc (.cells #[.int .i64 x, .int .i64 y, .int .i64 i] 51)) (And.intro (hM.below (below_alloc wr (.cells #[.int .i64 x, .int .i64 y, .int .i64 i] 51))) (hB.alloc hB.size (.cells #[.int .i64 x, .int .i64 y, .int .i64 i] 51))))
        clear hO hM hB
        go_wp2_with fail
        go_roundw
        case rel => exact ⟨k + 1, q, by go_num, by omega, Kp.mk ⟨by rw [HS2.out]; exact HZ.out.1, HZ.out.2.1, HZ.out.2.2⟩⟩
        case measure => simp [intOf]; omega
      | true =>
        rw [hf] at hlk
        have HS2 := Kp.mk (show portsTo S ls s (k + 1) = portsTo S ls s k ++ [(k : Int) + 1] by rw [HS.out, hf]; simp)
        clear hf HS
        obtain ⟨x, y, i, hV2⟩ : ∃ x y i : Int, farO (fnd es (s, (k : Int) + 1)) = .agg #[.int .i64 x, .int .i64 y, .int .i64 i] := by cases fnd es (s, (k : Int) + 1) <;> exact ⟨_, _, _, rfl⟩
        rw [hV2] at hlk
        clear hV2
        have hO5 := hO.alloc (.cells #[.int .i64 x, .int .i64 y, .int .i64 i] 51)
        have hM5 := hM.below (below_alloc wr (.cells #[.int .i64 x, .int .i64 y, .int .i64 i] 51))
        have hB5 := hB.alloc hB.size (.cells #[.int .i64 x, .int .i64 y, .int .i64 i] 51)
        go_upto_region 8 with fail
        clear hO hM hB hlk
        generalize wr.alloc (.cells #[.int .i64 x, .int .i64 y, .int .i64 i] 51) = w5 at *
        obtain ⟨A7, c7, w7, hrun, hO7, hb7, hg7, hN7⟩ := app1 29 hO5 hB5.size (by have := HQ.out; omega) ((k : Int) + 1)
        have hM7 : Mo w7 m es := hM5.keep (fun b e => hg7.block b (hM5.lt b e) (fun e2 => by
          subst e
          exact (oi_mp hO5 hM5) e2.symm))
        have HZ := Kp.mk (And.intro hO7 (And.intro hM7 (hB5.trans hb7)))
        clear hO5 hM5 hB5 hO7 hb7 hg7 hN7 hM7
        go_wp2_with (at_builtin; refine Lib.wpList_append_run _ rfl _ _ _ _ rfl _ _ rfl rfl _ _ hrun ?_)
        go_roundw
        case rel => exact ⟨k + 1, q + 1, by go_num, by omega, Kp.mk ⟨by rw [HS2.out]; exact HZ.out.1, HZ.out.2.1, HZ.out.2.2⟩⟩
        case measure => simp [intOf]; omega
    · obtain rfl : k = 4 := by omega
      have HZ := Kp.mk HK.out
      clear HK
      have hlt1 : ¬ ((4 : Nat) : Int) + 1 ≤ 4 := by omega
      go_wp2_with fail
      go_ret
      exact ⟨_, rfl, ⟨q, by have := HZ.out.1; rwa [portsTo_all] at this⟩, HZ.out.2.2⟩
set_option maxRecDepth 100000 in
theorem beside_any {w : World} {B n c : Nat} {A : Option Addr} {up : List Bool} {m : Option Nat} {es : Me} (hm : Mo w m es) (h : Bl w B A n c up) (hB : B ≤ w.heap.size) (hi : ∀ k e i, fnd es k = some (e, i) → 0 ≤ i) (s : Int) : Calls Try.prog 34 #[.map m, .slice A n c, .int .i64 s] w fun e w' => ∃ v, e = .returned v ∧ (∃ q, Oi w' w.heap.size v q (nbP es up s)) ∧ Below w.heap.size w w' := by
  have HM := Kp.mk hm
  have HU := Kp.mk h
  have HB := Kp.mk hB
  have HI := Kp.mk hi
  clear hm h hB hi
  go_enter Try.func34, Try.ntmps34
  go_wp2_with fail
  go_loopw [7, 8] (fun s7 s8 wr => ∃ (k q : Nat), s8 = .int .i64 ((k : Int) + 1) ∧ k ≤ 4 ∧ Kp (Oi wr w.heap.size s7 q (nbTo es up s k) ∧ Mo wr m es ∧ Below w.heap.size w wr)) (fun _ s8 _ => 5 - (intOf s8).toNat)
  case atStart => exact ⟨0, 0, rfl, Nat.zero_le _, Kp.mk ⟨Oi.nil _ _, HM.out, Below.refl _ _⟩⟩
  case round =>
    clear HM
    obtain ⟨k, q, rfl, hk, HK⟩ := hrel
    by_cases hlt : k < 4
    · obtain ⟨hO, hM, hB⟩ := HK.out
      have hlk := run_lookM hM s ((k : Int) + 1)
      have HS := Kp.mk (nb_step (es := es) (up := up) (s := s) hlt)
      have HQ := Kp.mk (show q ≤ 4 by have := nb_len (es := es) (up := up) (s := s) (k := k) (by omega); have := hO.len; omega)
      have hlt1 : (k : Int) + 1 ≤ 4 := by omega
      clear HK
      cases hf : fnd es (s, (k : Int) + 1) with
      | none =>
        rw [hf] at hlk
        replace hlk : (Instr.lookup 47 (.map m) (.agg #[.int .i64 s, .int .i64 ((k : Int) + 1)]) true).run Try.prog wr = .ok (.tuple #[.agg #[.int .i64 0, .int .i64 0, .int .i64 0], .bool false]) wr := hlk
        have HS2 := Kp.mk (show nbTo es up s (k + 1) = nbTo es up s k by rw [HS.out, hf]; simp)
        clear hf HS
        have HZ := Kp.mk (And.intro (hO.alloc (.cells #[.int .i64 0, .int .i64 0, .int .i64 0] 51)) (And.intro (hM.below (below_alloc wr (.cells #[.int .i64 0, .int .i64 0, .int .i64 0] 51))) (hB.alloc hB.size (.cells #[.int .i64 0, .int .i64 0, .int .i64 0] 51))))
        clear hO hM hB
        go_wp2_with fail
        go_roundw
        case rel => exact ⟨k + 1, q, by go_num, by omega, Kp.mk ⟨by rw [HS2.out]; exact HZ.out.1, HZ.out.2.1, HZ.out.2.2⟩⟩
        case measure => simp [intOf]; omega
      | some v =>
        obtain ⟨⟨x, y⟩, i⟩ := v
        obtain ⟨j, rfl⟩ : ∃ j : Nat, i = j := ⟨i.toNat, by have := HI.out _ _ _ hf; omega⟩
        rw [hf] at hlk
        replace hlk : (Instr.lookup 47 (.map m) (.agg #[.int .i64 s, .int .i64 ((k : Int) + 1)]) true).run Try.prog wr = .ok (.tuple #[.agg #[.int .i64 x, .int .i64 y, .int .i64 j], .bool true]) wr := hlk
        have hO5 := hO.alloc (.cells #[.int .i64 x, .int .i64 y, .int .i64 j] 51)
        have hM5 := hM.below (below_alloc wr (.cells #[.int .i64 x, .int .i64 y, .int .i64 j] 51))
        have hB5 := hB.alloc hB.size (.cells #[.int .i64 x, .int .i64 y, .int .i64 j] 51)
        have hv5 : Vb 51 (wr.alloc (.cells #[.int .i64 x, .int .i64 y, .int .i64 j] 51)) wr.heap.size [.int .i64 x, .int .i64 y, .int .i64 j] := Vb.new 51 wr [.int .i64 x, .int .i64 y, .int .i64 j]
        have hcU := isUp_any (HU.out.below (hB5.mono HB.out)) j
        have HHF := Kp.mk hf
        clear hf
        cases hu : upP up j with
        | false =>
          rw [hu] at hcU
          have HS2 := Kp.mk (show nbTo es up s (k + 1) = nbTo es up s k by rw [HS.out, HHF.out]; dsimp only; rw [hu]; simp)
          clear hu HS HHF
          go_upto_region 6 with fail
          clear hO hM hB hlk
          generalize wr.alloc (.cells #[.int .i64 x, .int .i64 y, .int .i64 j] 51) = w5 at *
          have e0 := hv5.cell 0 rfl
          have e2 := hv5.cell 2 rfl
          have HZ := Kp.mk (And.intro hO5 (And.intro hM5 hB5))
          clear hO5 hM5 hB5 hv5
          go_wp2_with (refine hcU.mono ?_; rintro e w' ⟨rfl, rfl⟩)
          go_roundw
          case rel => exact ⟨k + 1, q, by go_num, by omega, Kp.mk ⟨by rw [HS2.out]; exact HZ.out.1, HZ.out.2.1, HZ.out.2.2⟩⟩
          case measure => simp [intOf]; omega
        | true =>
          rw [hu] at hcU
          have HS2 := Kp.mk (show nbTo es up s (k + 1) = nbTo es up s k ++ [x] by rw [HS.out, HHF.out]; dsimp only; rw [hu]; simp)
          clear hu HS HHF
          go_upto_region 6 with fail
          clear hO hM hB hlk
          generalize wr.alloc (.cells #[.int .i64 x, .int .i64 y, .int .i64 j] 51) = w5 at *
          have e0 := hv5.cell 0 rfl
          have e2 := hv5.cell 2 rfl
          obtain ⟨A7, c7, w7, hrun, hO7, hb7, hg7, hN7⟩ := app1 29 hO5 hB5.size (by have := HQ.out; omega) x
          have hM7 : Mo w7 m es := hM5.keep (fun b e => hg7.block b (hM5.lt b e) (fun e2 => by
            subst e
            exact (oi_mp hO5 hM5) e2.symm))
          have HZ := Kp.mk (And.intro hO7 (And.intro hM7 (hB5.trans hb7)))
          clear hO5 hM5 hB5 hO7 hb7 hg7 hN7 hM7 hv5
          go_upto_region 7 with (refine hcU.mono ?_; rintro e w' ⟨rfl, rfl⟩)
          go_wp2_with (at_builtin; refine Lib.wpList_append_run _ rfl _ _ _ _ rfl _ _ rfl rfl _ _ hrun ?_)
          go_roundw
          case rel => exact ⟨k + 1, q + 1, by go_num, by omega, Kp.mk ⟨by rw [HS2.out]; exact HZ.out.1, HZ.out.2.1, HZ.out.2.2⟩⟩
          case measure => simp [intOf]; omega
    · obtain rfl : k = 4 := by omega
      have HZ := Kp.mk HK.out
      clear HK
      have hlt1 : ¬ ((4 : Nat) : Int) + 1 ≤ 4 := by omega
      go_wp2_with fail
      go_ret
      exact ⟨_, rfl, ⟨q, HZ.out.1⟩, HZ.out.2.2⟩
end Go.Proofs.Ytlmonnggklfniaa.Oct
