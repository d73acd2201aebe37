/- Contracts of layer 9: what the closures tell of a rule; the first rule of which one does. Contracts of layer 9: slices.DeleteFunc of rules. -/
import Derived.Test.YtcolklkjaifplaaTabB
import Derived.Test.YtcolklkjaifplaaMskC
import Derived.Test.YtcolklkjaifplaaTabG
namespace Go.Proofs.Ytcolklkjaifplaa.Oct
open Go.RowKit
set_option linter.unusedVariables false
set_option linter.unusedSimpArgs false

def loosP (m : MaskV) (r : RuleV) : Bool := (r.k == 1) && coversP m r.x
def ms (x : MaskV) : List Value := [.int .i64 x.v, .int .i64 x.m, .int .u8 x.b0, .int .u8 x.b1, .int .u8 x.b2, .int .u8 x.i0, .int .u8 x.i1, .int .u8 x.i2]
theorem fitsMs (x : MaskV) (v p a b c : Int) (w : World) : Calls Try.prog 49 #[.agg (ms x).toArray, .int .i64 v, .int .i64 p, .agg #[.int .u8 a, .int .u8 b, .int .u8 c]] w fun e w' => e = .returned (.bool (fitsM x v p a b c)) ∧ Below w.heap.size w w' := fitsM_any x v p a b c w
theorem coversMs (x y : MaskV) (w : World) : Calls Try.prog 57 #[.agg (ms x).toArray, .agg (ms y).toArray] w fun e w' => e = .returned (.bool (coversP x y)) ∧ Below w.heap.size w w' := coversM_any x y w
set_option maxRecDepth 100000 in
set_option maxHeartbeats 4000000 in
theorem dataCl_any {w : World} {a b h : Nat} {ver port p q r : Int} (ha : Vb 3 w a [.int .i64 ver]) (hb : Vb 3 w b [.int .i64 port]) (hh : Vb 26 w h [.int .u8 p, .int .u8 q, .int .u8 r]) (x : It) :
    Calls Try.prog 48 #[.agg (ics x).toArray, .pointer (some ⟨a, 0, none⟩), .pointer (some ⟨b, 0, none⟩), .pointer (some ⟨h, 0, none⟩)] w fun e w' => e = .returned (.bool (fitsM x.r.x ver port p q r)) ∧ Below w.heap.size w w' := by
  have hb0 := below_alloc w (.cells (ics x).toArray 31)
  have hv := Vb.new 31 w (ics x)
  have c1 := (ha.below hb0 ha.lt).cell 0 rfl
  have c2 := (hb.below hb0 hb.lt).cell 0 rfl
  have hh1 := hh.below hb0 hh.lt
  go_enter Try.func48, Try.ntmps48
  go_upto_region 1 with fail
  generalize w.alloc (.cells (ics x).toArray 31) = w0 at *
  go_wp2_with (first | refine wpList_load_vb (vs := ms x.r.x) rfl (.tmp 6) rfl rfl hv rfl agg_mask ?_ | refine wpList_load_vb (vs := [.int .u8 p, .int .u8 q, .int .u8 r]) rfl (.tmp 3) rfl rfl hh1 rfl agg_header ?_)
  refine (fitsMs _ _ _ _ _ _ _).mono ?_
  rintro e w1 ⟨rfl, hb1⟩
  go_wp2_with fail
  go_ret
  exact ⟨rfl, hb0.trans (hb1.mono hb0.size)⟩
set_option maxRecDepth 100000 in
set_option maxHeartbeats 4000000 in
theorem looseCl_any {w : World} {g : Nat} {m : MaskV} (hm : Vb 28 w g (ms m)) (x : It) :
    Calls Try.prog 56 #[.agg (ics x).toArray, .pointer (some ⟨g, 0, none⟩)] w fun e w' => e = .returned (.bool (loosP m x.r)) ∧ Below w.heap.size w w' := by
  have hb0 := below_alloc w (.cells (ics x).toArray 31)
  have hv := Vb.new 31 w (ics x)
  have hm1 := hm.below hb0 hm.lt
  have c0 := hv.cell 0 rfl
  by_cases hk : x.r.k = 1
  · have hk' : (x.r.k == 1) = true := by simpa using hk
    have hp := Kp.mk (show loosP m x.r = coversP m x.r.x by unfold loosP; rw [hk']; rfl)
    go_enter Try.func56, Try.ntmps56
    go_upto_region 1 with fail
    generalize w.alloc (.cells (ics x).toArray 31) = w0 at *
    go_wp2_with (first | refine wpList_load_wantR (vs := ms x.r.x) (by rfl) (.tmp 9) rfl rfl hv rfl agg_mask ?_ | refine wpList_load_wantR (vs := ms m) (by rfl) (.tmp 1) rfl rfl hm1 rfl agg_mask ?_)
    refine (coversMs _ _ _).mono ?_
    rintro e w1 ⟨rfl, hb1⟩
    go_wp2_with fail
    go_ret
    exact ⟨by rw [hp.out]; rfl, hb0.trans (hb1.mono hb0.size)⟩
  · have hk' : (x.r.k == 1) = false := by simpa using hk
    have hp := Kp.mk (show loosP m x.r = false by unfold loosP; rw [hk']; rfl)
    go_enter Try.func56, Try.ntmps56
    go_upto_region 1 with fail
    generalize w.alloc (.cells (ics x).toArray 31) = w0 at *
    go_wp2_with fail
    go_ret
    exact ⟨by rw [hp.out]; rfl, hb0⟩
/-- i is the first rule of which p holds; -1: there is none. -/
def Fst (p : RuleV → Bool) (its : List It) (i : Int) : Prop := (i = -1 ∧ ∀ (j : Nat) (y : It), its[j]? = some y → p y.r = false) ∨ ∃ (k : Nat) (x : It), i = k ∧ its[k]? = some x ∧ p x.r = true ∧ ∀ (j : Nat) (y : It), j < k → its[j]? = some y → p y.r = false
set_option maxRecDepth 100000 in
set_option maxHeartbeats 4000000 in
theorem idxData_any {w : World} {its : List It} {A : Option Addr} {m c : Nat} (hs : SrcR w A m its) (hm : m ≤ 1000000000) {a b h : Nat} {ver port p q r : Int} (ha : Vb 3 w a [.int .i64 ver]) (hb : Vb 3 w b [.int .i64 port]) (hh : Vb 26 w h [.int .u8 p, .int .u8 q, .int .u8 r]) :
    Calls Try.prog 47 #[.slice A m c, .func (.func 48) #[] #[.pointer (some ⟨a, 0, none⟩), .pointer (some ⟨b, 0, none⟩), .pointer (some ⟨h, 0, none⟩)]] w fun e w' => ∃ i, e = .returned (.int .i64 i) ∧ Fst (fun r' : RuleV => fitsM r'.x ver port p q r) its i ∧ Below w.heap.size w w' := by
  have HS := Kp.mk hs
  clear hs
  have HC := Kp.mk (fun (W : World) (hb_ : Below w.heap.size w W) (x : It) => dataCl_any (ha.below hb_ ha.lt) (hb.below hb_ hb.lt) (hh.below hb_ hh.lt) x)
  clear ha hb hh
  generalize hP : (fun r' : RuleV => fitsM r'.x ver port p q r) = P at *
  have HP : ∀ r' : RuleV, fitsM r'.x ver port p q r = P r' := fun r' => by rw [← hP]
  have HC2 := Kp.mk (fun (W : World) (hb : Below w.heap.size w W) (x : It) => (HC.out W hb x).mono (fun e w' (h : e = .returned (.bool (fitsM x.r.x ver port p q r)) ∧ Below W.heap.size W w') => (⟨by rw [h.1, HP], h.2⟩ : e = .returned (.bool (P x.r)) ∧ Below W.heap.size W w')))
  clear HC HP hP
  have hB := Below.refl w.heap.size w
  go_enter Try.func47, Try.ntmps47
  go_wp2_with fail
  go_loopw [8] (fun s8 wr => ∃ k : Nat, s8 = .int .i64 k ∧ k ≤ m ∧ Kp (∀ (j : Nat) (y : It), j < k → its[j]? = some y → P y.r = false) ∧ Below w.heap.size w wr) (fun s8 _ => m - (intOf s8).toNat)
  case atStart => exact ⟨0, rfl, Nat.zero_le _, Kp.mk (fun j y h => by omega), hB⟩
  case round =>
    clear hB
    obtain ⟨k, rfl, h1, HN, hB⟩ := hrel
    by_cases hlt : k < m
    · obtain ⟨x, hx⟩ : ∃ x, its[k]? = some x := ⟨_, List.getElem?_eq_getElem (by have := HS.out.1; omega)⟩
      have HX := Kp.mk hx
      have hw := HS.out.below hB
      obtain ⟨hl, h⟩ := hw
      rcases h with ⟨_, h0⟩ | ⟨g, j, ys, rfl, hr, hj, he⟩
      · omega
      have hy : ys[j + k]? = some x := by
        rw [← he, List.getElem?_take, if_pos hlt, List.getElem?_drop] at hx
        exact hx
      have hc := HC2.out wr hB x
      clear he hl hx
      by_cases hpx : P x.r = true
      · rw [hpx] at hc
        go_wp2_with (first | refine wpList_load_vb (vs := ics x) rfl (.tmp 14) rfl rfl hr (fl_off hy (by omega)) agg_rule ?_ | (refine hc.mono ?_; rintro e w' ⟨rfl, hb⟩))
        go_ret
        exact ⟨_, rfl, .inr ⟨k, x, rfl, HX.out, hpx, HN.out⟩, hB.trans (hb.mono hB.size)⟩
      · have hpx' : P x.r = false := by simpa using hpx
        rw [hpx'] at hc
        clear hpx
        have HN2 := Kp.mk (show ∀ (j : Nat) (y : It), j < k + 1 → its[j]? = some y → P y.r = false by
          intro j2 y hj2 hy2
          by_cases hjk : j2 < k
          · exact HN.out j2 y hjk hy2
          · have e2 : j2 = k := by omega
            rw [e2, HX.out] at hy2
            have := Option.some.inj hy2
            rw [← this]
            exact hpx')
        clear hpx' HN
        go_wp2_with (first | refine wpList_load_vb (vs := ics x) rfl (.tmp 14) rfl rfl hr (fl_off hy (by omega)) agg_rule ?_ | (refine hc.mono ?_; rintro e w' ⟨rfl, hb⟩))
        go_roundw
        case rel => exact ⟨k + 1, by go_num, by omega, HN2, hB.trans (hb.mono hB.size)⟩
        case measure => simp [intOf]; omega
    · obtain rfl : k = m := by omega
      go_wp2_with fail
      go_ret
      exact ⟨_, rfl, .inl ⟨rfl, fun j y hy => HN.out j y (by have := (List.getElem?_eq_some_iff.1 hy).1; have := HS.out.1; omega) hy⟩, hB⟩
set_option maxRecDepth 100000 in
set_option maxHeartbeats 4000000 in
theorem idxLoose_any {w : World} {its : List It} {A : Option Addr} {m c : Nat} (hs : SrcR w A m its) (hm : m ≤ 1000000000) {gm : Nat} {mk : MaskV} (hmk : Vb 28 w gm (ms mk)) :
    Calls Try.prog 47 #[.slice A m c, .func (.func 56) #[] #[.pointer (some ⟨gm, 0, none⟩)]] w fun e w' => ∃ i, e = .returned (.int .i64 i) ∧ Fst (loosP mk) its i ∧ Below w.heap.size w w' := by
  have HS := Kp.mk hs
  clear hs
  have HC := Kp.mk (fun (W : World) (hb : Below w.heap.size w W) (x : It) => looseCl_any (hmk.below hb hmk.lt) x)
  clear hmk
  generalize hP : (loosP mk) = P at *
  have HC2 := HC
  clear HC hP
  have hB := Below.refl w.heap.size w
  go_enter Try.func47, Try.ntmps47
  go_wp2_with fail
  go_loopw [8] (fun s8 wr => ∃ k : Nat, s8 = .int .i64 k ∧ k ≤ m ∧ Kp (∀ (j : Nat) (y : It), j < k → its[j]? = some y → P y.r = false) ∧ Below w.heap.size w wr) (fun s8 _ => m - (intOf s8).toNat)
  case atStart => exact ⟨0, rfl, Nat.zero_le _, Kp.mk (fun j y h => by omega), hB⟩
  case round =>
    clear hB
    obtain ⟨k, rfl, h1, HN, hB⟩ := hrel
    by_cases hlt : k < m
    · obtain ⟨x, hx⟩ : ∃ x, its[k]? = some x := ⟨_, List.getElem?_eq_getElem (by have := HS.out.1; omega)⟩
      have HX := Kp.mk hx
      have hw := HS.out.below hB
      obtain ⟨hl, h⟩ := hw
      rcases h with ⟨_, h0⟩ | ⟨g, j, ys, rfl, hr, hj, he⟩
      · omega
      have hy : ys[j + k]? = some x := by
        rw [← he, List.getElem?_take, if_pos hlt, List.getElem?_drop] at hx
        exact hx
      have hc := HC2.out wr hB x
      clear he hl hx
      by_cases hpx : P x.r = true
      · rw [hpx] at hc
        go_wp2_with (first | refine wpList_load_vb (vs := ics x) rfl (.tmp 14) rfl rfl hr (fl_off hy (by omega)) agg_rule ?_ | (refine hc.mono ?_; rintro e w' ⟨rfl, hb⟩))
        go_ret
        exact ⟨_, rfl, .inr ⟨k, x, rfl, HX.out, hpx, HN.out⟩, hB.trans (hb.mono hB.size)⟩
      · have hpx' : P x.r = false := by simpa using hpx
        rw [hpx'] at hc
        clear hpx
        have HN2 := Kp.mk (show ∀ (j : Nat) (y : It), j < k + 1 → its[j]? = some y → P y.r = false by
          intro j2 y hj2 hy2
          by_cases hjk : j2 < k
          · exact HN.out j2 y hjk hy2
          · have e2 : j2 = k := by omega
            rw [e2, HX.out] at hy2
            have := Option.some.inj hy2
            rw [← this]
            exact hpx')
        clear hpx' HN
        go_wp2_with (first | refine wpList_load_vb (vs := ics x) rfl (.tmp 14) rfl rfl hr (fl_off hy (by omega)) agg_rule ?_ | (refine hc.mono ?_; rintro e w' ⟨rfl, hb⟩))
        go_roundw
        case rel => exact ⟨k + 1, by go_num, by omega, HN2, hB.trans (hb.mono hB.size)⟩
        case measure => simp [intOf]; omega
    · obtain rfl : k = m := by omega
      go_wp2_with fail
      go_ret
      exact ⟨_, rfl, .inl ⟨rfl, fun j y hy => HN.out j y (by have := (List.getElem?_eq_some_iff.1 hy).1; have := HS.out.1; omega) hy⟩, hB⟩
end Go.Proofs.Ytcolklkjaifplaa.Oct

namespace Go.Proofs.Ytcolklkjaifplaa.Oct
open Go.RowKit
set_option linter.unusedVariables false
set_option linter.unusedSimpArgs false

theorem wpList_store_rowR {w : World} {g i : Nat} {zs : List It} {x : It} {ops : Array Oper} {rest : List Oper} {o : Oper} {a : Act} {Q : Exit → Act → World → Prop} (hgd : o.guard = none) (p y : Operand) (ho : o.op = .store 31 p y) (hx : a.eval p = .pointer (some ⟨g, i * 13, none⟩)) (hy : a.eval y = .agg (ics x).toArray) (hr : Rowb w g zs) (hi : i < zs.length)
    (h : ∀ w', Rowb w' g (zs.set i x) → w.grownBy w' (some g) → w'.heap.size = w.heap.size → wpList Try.prog ops Q rest (a.put o.dst undef) w') : wpList Try.prog ops Q (o :: rest) a w := by
  refine wpList_plain hgd fun K hK => ?_
  obtain ⟨w', hst, h1, h2, h3⟩ := hr.store i 1 [x] rfl (by omega)
  have e1 : ([x] : List It).flatMap ics = ics x := by simp
  rw [e1] at hst
  have hi2 : (Try.prog.info? 31).map (·.size) = some 13 := agg_rule.2
  have hrun : (storeVar 31 ⟨g, i * 13, none⟩ (.agg (ics x).toArray)).run Try.prog w = .ok () w' := by
    cases hq : Try.prog.info? 31 with
    | none => simp [hq] at hi2
    | some i0 =>
      have hs : i0.size = 13 := by simpa [hq] using hi2
      simp [storeVar, sizeOf, typeInfo, hq, Value.cells, hs, ics_len, hst]
  unfold Oper.wp execOp
  simp only [ho, hx, hy, Instr.storeAt, Instr.sureAddr, Sem.run_bind, Sem.run_pure, Result.andThen_ok, hrun]
  refine hK _ _ (h w' ?_ h2 h3)
  have e2 : zs.set i x = zs.take i ++ [x] ++ zs.drop (i + 1) := by rw [List.set_eq_take_append_cons_drop, if_pos hi]; simp
  rw [e2]
  exact h1
theorem df_round {p : It → Bool} {its zs ys : List It} {a b : Nat} {x : It} (h1 : zs.take a = (its.take b).filter p) (hx : its[b]? = some x) (ha : a < zs.length) : (p x = false → zs.take a = (its.take (b + 1)).filter p) ∧ (p x = true → (zs.set a x).take (a + 1) = (its.take (b + 1)).filter p) := by
  have e : its.take (b + 1) = its.take b ++ [x] := by rw [List.take_add_one, hx]; rfl
  constructor
  · intro hp
    rw [e, List.filter_append, ← h1]
    simp [hp]
  · intro hp
    rw [e, List.filter_append, ← h1, List.set_eq_take_append_cons_drop, if_pos ha]
    have hl : (zs.take a).length = a := by simp; omega
    rw [List.take_append, hl, List.take_of_length_le (by omega)]
    simp [hp]
set_option maxRecDepth 100000 in
set_option maxHeartbeats 8000000 in
theorem deleteF_any {w : World} {g gm : Nat} {its ys : List It} {mk : MaskV} (hr : Rowb w g (its ++ ys)) (hm : its.length + ys.length ≤ maxLen) (hl : its.length ≤ 1000) (hmk : Vb 28 w gm (ms mk)) :
    Calls Try.prog 55 #[.slice (some ⟨g, 0, none⟩) its.length (its.length + ys.length), .func (.func 56) #[] #[.pointer (some ⟨gm, 0, none⟩)]] w fun e w' => ∃ v', e = .returned v' ∧ RowS w' v' (its.filter (fun x => !loosP mk x.r)) ∧ w.grownBy w' (some g) ∧ v'.ownBlock = some g := by
  have hne : gm ≠ g := vb_ne hmk hr (by decide)
  have hs : SrcR w (some ⟨g, 0, none⟩) its.length its := ⟨rfl, .inr ⟨g, 0, its ++ ys, rfl, hr, by simp, by simp⟩⟩
  unfold maxLen at hm
  have HI := Kp.mk (idxLoose_any (c := its.length + ys.length) hs (by omega) hmk)
  have HR := Kp.mk hr
  clear hs hr
  obtain ⟨n, hn⟩ : ∃ n, its.length = n := ⟨_, rfl⟩
  obtain ⟨c, hc⟩ : ∃ c, n + ys.length = c := ⟨_, rfl⟩
  rw [hn, hc] at HI
  rw [hn] at hl hm ⊢
  rw [hc] at hm ⊢
  go_enter Try.func55, Try.ntmps55
  go_upto_region 1 with fail
  go_upto_region 2 with (refine HI.out.mono ?_; rintro e w1 ⟨i, rfl, hf, hb⟩)
  have HR1 := Kp.mk (show Rowb w1 g (its ++ ys) from Vb.below HR.out hb (Vb.lt HR.out))
  have hg1 := grown_of_below hb (some g)
  have hmk1 := hmk.below hb hmk.lt
  clear hb HI HR hmk
  rcases hf with ⟨rfl, hno⟩ | ⟨k, x, rfl, hxk, hpx, hpre⟩
  · go_wp2_with fail
    go_ret
    refine ⟨_, rfl, .inr ⟨g, ys, ?_, ?_, ?_⟩, hg1, rfl⟩
    · rw [List.filter_eq_self.2 (by intro x hx; obtain ⟨j, hj⟩ := List.getElem?_of_mem hx; simp [hno j x hj]), hn, hc]
      rfl
    · rw [List.filter_eq_self.2 (by intro x hx; obtain ⟨j, hj⟩ := List.getElem?_of_mem hx; simp [hno j x hj])]
      exact HR1.out
    · rw [List.filter_eq_self.2 (by intro x hx; obtain ⟨j, hj⟩ := List.getElem?_of_mem hx; simp [hno j x hj]), hn, hc]; unfold maxLen; omega
  have hkn : k < n := by rw [← hn]; exact (List.getElem?_eq_some_iff.1 hxk).1
  have hyc : (its ++ ys).length = c := by simp [hn, hc]
  have hnc : n ≤ c := by omega
  have h0 : ((k : Int) == -1) = false := by simp
  have T0 := Kp.mk (show (its ++ ys).take k = (its.take (k + 1)).filter (fun x => !loosP mk x.r) by
    rw [List.take_append_of_le_length (by omega), List.take_add_one, hxk, List.filter_append]
    have e1 : (its.take k).filter (fun x => !loosP mk x.r) = its.take k := List.filter_eq_self.2 (by
      intro x hx
      obtain ⟨j, hj⟩ := List.getElem?_of_mem hx
      rw [List.getElem?_take] at hj
      split at hj
      · rename_i hjk; simp [hpre j x hjk hj]
      · simp at hj)
    rw [e1]
    simp [hpx])
  clear hxk hpx hpre
  generalize hq : (fun x : It => !loosP mk x.r) = q at *
  have HQ := Kp.mk (show ∀ x, q x = !loosP mk x.r from fun x => by rw [← hq])
  clear hq
  go_wp2_with fail
  go_loopw [5, 6, 7] (fun s5 s6 _ wr => ∃ (a b : Nat) (zs : List It), s5 = .int .i64 a ∧ s6 = .int .i64 b ∧ a < b ∧ b ≤ n ∧ Rowb wr g zs ∧ zs.length = c ∧ Kp (zs.take a = (its.take b).filter q) ∧ Kp (zs.drop b = (its ++ ys).drop b) ∧ w.grownBy wr (some g) ∧ Vb 28 wr gm (ms mk)) (fun _ s6 _ _ => n - (intOf s6).toNat)
  case atStart => exact ⟨k, k + 1, its ++ ys, rfl, by go_num, by omega, by omega, HR1.out, hyc, T0, Kp.mk rfl, hg1, hmk1⟩
  case round =>
    clear HR1 hg1 hmk1 T0 hkn h0
    obtain ⟨a, b, zs, rfl, rfl, hab, hbn, hR, hzc, T1, T2, hG, hmk⟩ := hrel
    by_cases hlt : b < n
    · obtain ⟨x, hx⟩ : ∃ x, its[b]? = some x := ⟨_, List.getElem?_eq_getElem (by omega)⟩
      have hzx : zs[b]? = some x := by
        have h1 : zs[b]? = (zs.drop b)[0]? := by rw [List.getElem?_drop]; rfl
        rw [h1, T2.out, List.getElem?_drop, Nat.add_zero, List.getElem?_append_left (by omega), hx]
      have DR := Kp.mk (df_round (ys := ys) T1.out hx (by omega))
      have HX := HQ.out x
      clear hx T1
      have hc0 := fun (W : World) (h : Vb 28 W gm (ms mk)) => looseCl_any h x
      have hnew : ∀ (w5 : World), Below wr.heap.size wr w5 → Vb 28 w5 gm (ms mk) := fun w5 hb => hmk.below hb hmk.lt
      by_cases hpx : loosP mk x.r = true
      · rw [hpx] at hc0 HX
        have T3 := Kp.mk (DR.out.1 (by rw [HX]; rfl))
        clear DR HX
        have T4 := Kp.mk (show zs.drop (b + 1) = (its ++ ys).drop (b + 1) by rw [← List.drop_drop, T2.out, List.drop_drop])
        go_upto_region 8 with (first | refine wpList_load_vb (vs := ics x) rfl (.tmp 24) rfl rfl hR (fl_off hzx (by omega)) agg_rule ?_ | (refine wpList_store_new (vs := ics x) rfl (.tmp 7) (.tmp 25) rfl rfl rfl rfl rfl rfl agg_rule rfl ?_; intro w5 ho hb5 hz5))
        have hm5 := hnew _ hb5
        go_wp2_with (first | refine wpList_load_vb (vs := ics x) rfl (.tmp 7) rfl rfl ho rfl agg_rule ?_ | (refine (hc0 _ hm5).mono ?_; rintro e w6 ⟨rfl, hb6⟩))
        have hb56 := hb5.trans (hb6.mono hb5.size)
        go_roundw
        case rel => exact ⟨a, b + 1, zs, rfl, by go_num, by omega, by omega, Vb.below hR hb56 (Vb.lt hR), hzc, T3, T4, hG.trans (grown_of_below hb56 _), hmk.below hb56 hmk.lt⟩
        case measure => simp [intOf]; omega
      · have hpx' : loosP mk x.r = false := by simpa using hpx
        rw [hpx'] at hc0 HX
        clear hpx
        have T3 := Kp.mk (DR.out.2 (by rw [HX]; rfl))
        clear DR HX
        have T4 := Kp.mk (show (zs.set a x).drop (b + 1) = (its ++ ys).drop (b + 1) by rw [List.drop_set_of_lt (by omega), ← List.drop_drop, T2.out, List.drop_drop])
        go_upto_region 8 with (first | refine wpList_load_vb (vs := ics x) rfl (.tmp 24) rfl rfl hR (fl_off hzx (by omega)) agg_rule ?_ | (refine wpList_store_new (vs := ics x) rfl (.tmp 7) (.tmp 25) rfl rfl rfl rfl rfl rfl agg_rule rfl ?_; intro w5 ho hb5 hz5))
        have hm5 := hnew _ hb5
        go_upto_region 9 with (first | refine wpList_load_vb (vs := ics x) rfl (.tmp 7) rfl rfl ho rfl agg_rule ?_ | (refine (hc0 _ hm5).mono ?_; rintro e w6 ⟨rfl, hb6⟩))
        have hb56 := hb5.trans (hb6.mono hb5.size)
        have hR6 : Rowb w6 g zs := Vb.below hR hb56 (Vb.lt hR)
        have ho6 := ho.below hb6 ho.lt
        have hm6 := hmk.below hb56 hmk.lt
        have hG6 := hG.trans (grown_of_below hb56 _)
        clear hb5 hb6 hb56 hR ho hmk hG hm5 hnew hz5
        go_wp2_with (first | refine wpList_load_vb (vs := ics x) rfl (.tmp 7) rfl rfl ho6 rfl agg_rule ?_ | (refine wpList_store_rowR (x := x) rfl (.tmp 33) (.tmp 32) rfl rfl rfl hR6 (by omega) ?_; intro w7 hR7 hg7 hz7))
        go_roundw
        case rel => exact ⟨a + 1, b + 1, zs.set a x, by go_num, by go_num, by omega, by omega, hR7, by rw [List.length_set]; exact hzc, T3, T4, hG6.trans hg7, hm6.grown hg7 hne⟩
        case measure => simp [intOf]; omega
    · obtain rfl : b = n := by omega
      obtain ⟨w2, hrun2, hR2, hg2, hz2⟩ := run_clearR (w := wr) (i := a) (n := b - a) (c := c - a) 0 hR (by omega)
      have e1 : its.take b = its := List.take_of_length_le (by omega)
      have T5 := Kp.mk (show zs.take a = its.filter q by rw [T1.out, e1])
      have hal : (zs.take a).length = a := by rw [List.length_take]; omega
      have HF := Kp.mk (show RowS w2 (.slice (some ⟨g, 0, none⟩) a c) (its.filter q) by
        rw [← T5.out]
        refine .inr ⟨g, List.replicate (b - a) zIt ++ zs.drop (a + (b - a)), ?_, ?_, ?_⟩
        · rw [hal, List.length_append, List.length_replicate, List.length_drop]; congr 1; omega
        · rw [← List.append_assoc]; exact hR2
        · rw [hal, List.length_append, List.length_replicate, List.length_drop]; unfold maxLen; omega)
      have HG := Kp.mk (hG.trans hg2)
      have b1 : a ≤ b := by omega
      have b2 : ¬ (c = a) := by omega
      have b3 : a ≤ c := by omega
      clear hR2 hg2 hR hG T1 T2 T5 hz2
      go_wp2_with (at_builtin; refine wpList_clear_runR _ rfl _ _ rfl _ rfl hrun2 ?_)
      go_ret
      have hqe : (fun x : It => !loosP mk x.r) = q := funext fun x => (HQ.out x).symm
      exact ⟨_, rfl, by rw [hqe]; exact HF.out, HG.out, rfl⟩
end Go.Proofs.Ytcolklkjaifplaa.Oct
