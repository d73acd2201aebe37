/- Contracts of layer 4: a probe's body and its bytes. -/
import Derived.Test.YteambkehdbffmaaGreatPrbC
import Derived.Test.YteambkehdbffmaaGreatRnd
namespace Go.Proofs.YteambkehdbffmaaGreat.Oct
open Go.RowKit Go.Shelf
set_option linter.unusedVariables false
attribute [local go_sem] Oper.semAt_some

/-- What the numbers of a row say, as bytes. -/
def bq (vs : List Int) (pre : List (Fin 5)) : List Int := pre.flatMap fun x => dg (plC x).toNat (vs.getD x.val 0)
theorem bq_snoc (vs : List Int) (pre : List (Fin 5)) (x : Fin 5) : bq vs (pre ++ [x]) = bq vs pre ++ dg (plC x).toNat (vs.getD x.val 0) := by simp [bq]
theorem plC_cases : ∀ x : Fin 5, plC x = 1 ∨ plC x = 2 := by decide
theorem bq_len (vs : List Int) (pre : List (Fin 5)) : (bq vs pre).length ≤ 2 * pre.length := by
  induction pre with
  | nil => simp [bq]
  | cons x pre ih =>
    have h1 : bq vs (x :: pre) = dg (plC x).toNat (vs.getD x.val 0) ++ bq vs pre := by simp [bq]
    rw [h1, List.length_append, dg_len, List.length_cons]
    have := plC_cases x
    omega
theorem bq_all (f p t q n : Int) : bq [f, p, t, q, n] allQ = qB f p t q n := by
  show dg 1 f ++ (dg 1 p ++ (dg 1 t ++ (dg 1 q ++ (dg 2 n ++ [])))) = _
  rw [List.append_nil]; rfl
theorem okQ_fit (f p t q n : Int) (ok : okQ f p t q n) (x : Fin 5) : 0 ≤ [f, p, t, q, n].getD x.val 0 ∧ [f, p, t, q, n].getD x.val 0 < 2 ^ (8 * (plC x).toNat) := by
  unfold okQ at ok
  match x with
  | 0 => exact ⟨by show 0 ≤ f; omega, by show f < 256; omega⟩
  | 1 => exact ⟨by show 0 ≤ p; omega, by show p < 256; omega⟩
  | 2 => exact ⟨by show 0 ≤ t; omega, by show t < 256; omega⟩
  | 3 => exact ⟨by show 0 ≤ q; omega, by show q < 256; omega⟩
  | 4 => exact ⟨by show 0 ≤ n; omega, by show n < 65536; omega⟩
/-- One number more is put behind. -/
theorem put_one {W : World} {B : Nat} {A : Option Addr} {k c : Nat} {l : List Int} (s v : Int) (hs : s = 1 ∨ s = 2) (hv : 0 ≤ v ∧ v < 2 ^ (8 * s.toNat)) (h : Rd .u8 W B A k c l) (hB : B ≤ W.heap.size) (hk : k ≤ 100) :
    Calls Tryz.prog 26 #[.slice A k c, .int .i64 s, .slice (some ⟨W.heap.size, 0, none⟩) 1 1] (W.alloc (.cells #[.int .i64 v] 3)).drew (PairOf (l ++ dg s.toNat v) 0 W) := by
  have hp := putP_one l s.toNat (by omega) v hv.1 hv.2
  rw [show ((s.toNat : Nat) : Int) = s from by omega] at hp
  have := put_lit (w := W.drew) s [v] (h.below (Below.refl _ _).drew) hB (by simp) (by omega)
  rw [hp] at this
  refine this.mono ?_
  rintro e w' ⟨A', n', c', h1, h2, h3⟩
  exact ⟨A', n', c', h1, h2, ((Below.refl W.heap.size W).drew).trans h3⟩
theorem _root_.Go.Boxed.below {W W' : World} {B n : Nat} {T : TypeId} {v : Value} (h : Boxed W B T v) (hb : Below n W W') (hlt : B < n) : Boxed W' B T v := (hb.block B hlt).trans h
theorem ownsRow_lower {w : World} {base b : Nat} {e : TypeId} {size : Nat} {v : Value} {n : Nat} {xs : List Value} (h : w.ownsRow base e size v n xs) (hb : b ≤ base) : w.ownsRow b e size v n xs := by
  refine ⟨h.1, ?_⟩
  rcases h.2 with h2 | ⟨g, cap, cur, e, hbg, r⟩
  · exact .inl h2
  · exact .inr ⟨g, cap, cur, e, by omega, r⟩
theorem keepsFrom_of_below {W W' : World} (h : Below W.heap.size W W') (B : Nat) : KeepsFrom B W W' :=
  ⟨h.size, fun k o _ hk _ => (h.block k (Array.getElem?_eq_some_iff.1 hk).1).trans hk⟩

set_option maxRecDepth 100000 in
set_option maxHeartbeats 4000000 in
theorem body_any (f p t q n : Int) (w : World) (ok : okQ f p t q n) :
    Calls Tryz.prog 89 #[.agg #[.int .i64 f, .int .i64 p, .int .i64 t, .int .i64 q, .int .i64 n]] w (NewOf (qB f p t q n) w) := by
  have hfit := Kp.mk (okQ_fit f p t q n ok)
  clear ok
  refine (callsIn_wide (n := 8)).1 ?_
  refine callsIn_of_wp_marks Tryz.func89 rfl trivial ?_ rfl
  simp only [Tryz.ntmps89, List.size_toArray, List.length_cons, List.length_nil, Nat.reduceAdd, Nat.reduceSub, Array.replicate_succ, Array.replicate_zero, List.push_toArray, List.append_toArray, List.nil_append, List.cons_append]
  gi_wp2_with (refine ⟨trivial, ?_⟩; gi_at_call 98; refine (callsIn_wide.2 (numbers_any _ _)).mono ?_; rintro e w' ⟨rfl, rfl⟩)
  have bP : Nb 34 (((w.alloc (.cells #[.int .i64 f, .int .i64 p, .int .i64 t, .int .i64 q, .int .i64 n] 34)).alloc (.cells #[.slice none 0 0] 45)).alloc (.cells #[.pointer (some ⟨w.heap.size, 0, none⟩)] 63)) w.heap.size [f, p, t, q, n] := ((Nb.new 34 w [f, p, t, q, n]).alloc (.cells #[.slice none 0 0] 45)).alloc (.cells #[.pointer (some ⟨w.heap.size, 0, none⟩)] 63)
  have bE := (Boxed.new (w.alloc (.cells #[.int .i64 f, .int .i64 p, .int .i64 t, .int .i64 q, .int .i64 n] 34)) 45 (.slice none 0 0)).alloc (.cells #[.pointer (some ⟨w.heap.size, 0, none⟩)] 63)
  have bN := Boxed.new ((w.alloc (.cells #[.int .i64 f, .int .i64 p, .int .i64 t, .int .i64 q, .int .i64 n] 34)).alloc (.cells #[.slice none 0 0] 45)) 63 (.pointer (some ⟨w.heap.size, 0, none⟩))
  simp only [World.size_alloc] at bE bN
  have hB0 : Below w.heap.size w (((w.alloc (.cells #[.int .i64 f, .int .i64 p, .int .i64 t, .int .i64 q, .int .i64 n] 34)).alloc (.cells #[.slice none 0 0] 45)).alloc (.cells #[.pointer (some ⟨w.heap.size, 0, none⟩)] 63)) := (((Below.refl _ w).alloc (Nat.le_refl _) _).alloc (by simp) _).alloc (by simp; omega) _
  have hsz : (((w.alloc (.cells #[.int .i64 f, .int .i64 p, .int .i64 t, .int .i64 q, .int .i64 n] 34)).alloc (.cells #[.slice none 0 0] 45)).alloc (.cells #[.pointer (some ⟨w.heap.size, 0, none⟩)] 63)).heap.size = w.heap.size + 3 := by simp
  obtain ⟨W0, hW0⟩ : ∃ W0, (((w.alloc (.cells #[.int .i64 f, .int .i64 p, .int .i64 t, .int .i64 q, .int .i64 n] 34)).alloc (.cells #[.slice none 0 0] 45)).alloc (.cells #[.pointer (some ⟨w.heap.size, 0, none⟩)] 63)) = W0 := ⟨_, rfl⟩
  rw [hW0] at bP bE bN hB0 hsz ⊢
  clear hW0
  refine wpIn_rangeFunc_ownH (Kp := KpQ (w.heap.size + 1 + 1)) (w0 := W0) (encs := encQ w.heap.size) (S := fun xs => xs = allQ) (Sp := fun pre => pre <+: allQ) (N := 5) rfl (by omega) (gf := 104) (lb := #[.pointer (some ⟨w.heap.size + 1 + 1, 0, none⟩)]) ?c1 trivial ?c2
    ?c3 ?c4 ?c5 (Below.refl _ _) ?c6
    (fun pre W => ((Nb 34 W w.heap.size [f, p, t, q, n] ∧ Boxed W (w.heap.size + 1 + 1) 63 (.pointer (some ⟨w.heap.size, 0, none⟩))) ∧ Below w.heap.size w W) ∧ (∃ v, Boxed W (w.heap.size + 1) 45 v ∧ W.ownsRow w.heap.size 5 1 v (bq [f, p, t, q, n] pre).length ((bq [f, p, t, q, n] pre).map (Value.int .u8)) ∧ True))
    (fun c pre W => False)
    ?c7 ?c8 ?c9
    (fun x a' W => ∃ g, w.heap.size + 1 + 1 < g ∧ Nb 127 W g [plA x, plB x, plC x] ∧ a' = { tmps := #[.agg #[.int .i64 f, .int .i64 p, .int .i64 t, .int .i64 q, .int .i64 n], .pointer (some ⟨w.heap.size, 0, none⟩), .slice none 0 0, .pointer (some ⟨w.heap.size + 1, 0, none⟩), .pointer (some ⟨g, 0, none⟩), .pointer (some ⟨w.heap.size, x.val, none⟩), .func (.func 104) #[] #[.pointer (some ⟨w.heap.size + 1 + 1, 0, none⟩)], .agg #[.int .i64 (plA x), .int .i64 (plB x), .int .i64 (plC x)], .pointer (some ⟨w.heap.size, x.val, none⟩), undef, undef, undef, undef, undef, undef, undef, undef, undef, undef, undef, undef], defers := [] })
    ?c10
    ?assign ?body ?done ?stop
  case c1 => rfl
  case c2 => exact enters_of Tryz.func104 (by kernel_rfl) rfl
  case c3 => exact nums_stops _ w.heap.size (w.heap.size + 1 + 1) (by omega) W0 bN.cell (by omega)
  case c4 => exact kpQ_t
  case c5 => exact kpQ_b (by omega)
  case c6 => exact fun _ => rfl
  case c7 => exact OwnFrom.and (OwnFrom.and (OwnFrom.and (Own.from (nb_own _ _ _) _) (Own.from (boxed_own _ _ _) _)) (ownFrom_below (Nat.le_refl _) (by omega))) (Own.from (holdsRow_own _ _ _ _ _ (fun pre => (bq [f, p, t, q, n] pre).length) (fun pre => (bq [f, p, t, q, n] pre).map (Value.int .u8)) (fun _ _ => True)) _)
  case c8 => exact fun _ _ _ _ _ hs _ _ => hs
  case c9 => exact ⟨⟨⟨bP, bN⟩, hB0⟩, _, bE, World.ownsRow_nil W0 _ _ 1, trivial⟩
  case c10 =>
    rintro x a' _ X Y row ⟨g, h1, h2, h3⟩ hg hr
    exact ⟨g, h1, nb_own _ g (fun (_ : Unit) => [plA x, plB x, plC x]) () X Y row h2 hg (fun r e => (hr r e).2), h3⟩
  case assign =>
    rintro l pre x W K ⟨⟨⟨bP1, bN1⟩, hB1⟩, v1, bE1, hO1, _⟩ hK
    dsimp only [encQ]
    gi_wp2
    have hzW := bN1.lt
    have hsW := hB1.size
    exact hK _ _ ((KeepsOthers.alloc _ _).from _) ((bN1.alloc _).cell.trans bN1.cell.symm) ⟨⟨⟨bP1.alloc _, bN1.alloc _⟩, hB1.alloc hsW _⟩, v1, bE1.alloc _, hO1.alloc _, trivial⟩ ⟨W.heap.size, by omega, Nb.new _ W [plA x, plB x, plC x], rfl⟩
  case body =>
    rintro l pre x a' W hl hr ⟨⟨⟨bP1, bN1⟩, hB1⟩, v1, bE1, hO1, _⟩ ⟨g, hg, bX, rfl⟩ hlt
    have hmx : Tryz.prog.follows .mixedOrders = true := by kernel_rfl
    have hsW := hB1.size
    have hE1 := bE1.lt
    have ho1 : Own W w.heap.size v1 (bq [f, p, t, q, n] pre).length (bq [f, p, t, q, n] pre) := hO1
    have hlen := bq_len [f, p, t, q, n] pre
    obtain ⟨A, c, rfl, _, _, _, _⟩ := ho1.form
    have hx := plC_cases x
    have hv := hfit.out x
    have Hput := Kp.mk (put_one (plC x) ([f, p, t, q, n].getD x.val 0) hx hv ho1.rd (Nat.le_refl _) (by omega))
    rw [← bq_snoc] at Hput
    have hKeep : Kp (∀ (w3 : World) (A3 : Option Addr) (n3 c3 : Nat), Own w3 W.heap.size (.slice A3 n3 c3) n3 (bq [f, p, t, q, n] (pre ++ [x])) → Below W.heap.size W w3 →
        KeepsFrom W0.heap.size W (w3.setCell ⟨w.heap.size + 1, 0, none⟩ (.slice A3 n3 c3)) ∧ KpQ (w.heap.size + 1 + 1) W (w3.setCell ⟨w.heap.size + 1, 0, none⟩ (.slice A3 n3 c3)) ∧
        ((Nb 34 (w3.setCell ⟨w.heap.size + 1, 0, none⟩ (.slice A3 n3 c3)) w.heap.size [f, p, t, q, n] ∧ Boxed (w3.setCell ⟨w.heap.size + 1, 0, none⟩ (.slice A3 n3 c3)) (w.heap.size + 1 + 1) 63 (.pointer (some ⟨w.heap.size, 0, none⟩))) ∧ Below w.heap.size w (w3.setCell ⟨w.heap.size + 1, 0, none⟩ (.slice A3 n3 c3))) ∧
        (∃ v, Boxed (w3.setCell ⟨w.heap.size + 1, 0, none⟩ (.slice A3 n3 c3)) (w.heap.size + 1) 45 v ∧ (w3.setCell ⟨w.heap.size + 1, 0, none⟩ (.slice A3 n3 c3)).ownsRow w.heap.size 5 1 v (bq [f, p, t, q, n] (pre ++ [x])).length ((bq [f, p, t, q, n] (pre ++ [x])).map (Value.int .u8)) ∧ True)) := Kp.mk (by
      intro w3 A3 n3 c3 ho3 hb3
      have hn3 := ho3.len
      subst hn3
      have bE3 := bE1.below hb3 hE1
      have bN3 := (bN1.below hb3 bN1.lt).other (B' := w.heap.size + 1) (by omega) (.slice A3 (bq [f, p, t, q, n] (pre ++ [x])).length c3)
      exact ⟨(keepsFrom_of_below hb3 _).trans ((KeepsOthers.setCell _ _ _).from _), bN3.cell.trans bN1.cell.symm,
        ⟨⟨(bP1.below hb3 bP1.lt).other (by omega) 0 _, bN3⟩, (hB1.trans (hb3.mono hsW)).setCell (p := ⟨w.heap.size + 1, 0, none⟩) (by simp) _⟩,
        _, bE3.set _, ownsRow_lower (ownsRow_setCell_below ho3 hE1 _) hsW, trivial⟩)
    have hE3 : Kp (∀ w3, Below W.heap.size W w3 → w3.cell? ⟨w.heap.size + 1, 0, none⟩ = some (.slice A (bq [f, p, t, q, n] pre).length c) ∧ w3.frozen? ⟨w.heap.size + 1, 0, none⟩ = false) := Kp.mk (fun w3 hb3 => ⟨(bE1.below hb3 hE1).cell, (bE1.below hb3 hE1).frozen⟩)
    have c1 := bP1.cell x.val (by simp)
    have a2 := bX.cell 2 (by simp)
    have e1 := bE1.cell
    simp only [List.getD_cons_zero, List.getD_cons_succ] at a2
    generalize hv : [f, p, t, q, n].getD x.val 0 = v at *
    have Hv := Kp.mk hv
    clear hv ho1 hO1 hx
    generalize hq : (bq [f, p, t, q, n] pre).length = k at *
    clear hq
    gi_wp2
    refine region_round (S := fun w' => w'.cell? ⟨g, 2, none⟩ = some (.int .i64 (plC x)) ∧ w'.cell? ⟨w.heap.size, x.val, none⟩ = some (.int .i64 v)) hmx (by kernel_rfl) ⟨a2, c1⟩ (fun hS => ?_)
    refine wpAnyH_take (i := 1) (v := .pointer (some ⟨g, 2, none⟩)) rfl (by kernel_rfl) (by kernel_rfl) (by kernel_rfl) (fun _ _ _ h => h) (Or.inl ⟨by rfl, ?_⟩) hS ?_
    · rintro w' ⟨s1, s2⟩
      go_simp
    simp only [Act.put, List.setIfInBounds_toArray]
    refine wpAnyH_take (i := 2) (v := .int .i64 (plC x)) rfl (by kernel_rfl) (by kernel_rfl) (by kernel_rfl) (fun _ _ _ h => h) (Or.inl ⟨by rfl, ?_⟩) hS ?_
    · rintro w' ⟨s1, s2⟩
      go_simp
    simp only [Act.put]
    refine wpAnyH_take (i := 3) (v := .pointer (some ⟨w.heap.size, x.val, none⟩)) rfl (by kernel_rfl) (by kernel_rfl) (by kernel_rfl) (fun _ _ _ h => h) (Or.inl ⟨by rfl, ?_⟩) hS ?_
    · rintro w' ⟨s1, s2⟩
      go_simp
    simp only [Act.put]
    refine wpAnyH_take (i := 4) (v := .pointer (some ⟨w.heap.size, x.val, none⟩)) rfl (by kernel_rfl) (by kernel_rfl) (by kernel_rfl) (fun _ _ _ h => h) (Or.inl ⟨by rfl, ?_⟩) hS ?_
    · rintro w' ⟨s1, s2⟩
      go_simp
    simp only [Act.put]
    refine wpAnyH_take (i := 5) (v := .int .i64 v) rfl (by kernel_rfl) (by kernel_rfl) (by kernel_rfl) (fun _ _ _ h => h) (Or.inl ⟨by rfl, ?_⟩) hS ?_
    · rintro w' ⟨s1, s2⟩
      go_simp
    simp only [Act.put]
    refine wpAnyH_ready (rs := [0, 6]) (by kernel_rfl) (by simp) ?_
    refine AllReadyH.cons rfl (fun K hK => ?_) (AllReadyH.cons rfl (fun K hK => ?_) AllReadyH.nil)
    · go_simp
      refine hK.out _ _ hS (fun hS0 => ?_)
      clear hK K
      refine wpAnyH_ready (rs := [6]) (by kernel_rfl) (by simp) ?_
      refine AllReadyH.cons rfl (fun K hK => ?_) AllReadyH.nil
      go_simp
      refine hK.out _ _ ⟨cell_below a2 bX.lt (below_alloc W _).drew, cell_below c1 bP1.lt (below_alloc W _).drew⟩ (fun hS6 => ?_)
      clear hK K
      refine wpAnyH_ready (rs := [7]) (by kernel_rfl) (by simp) ?_
      refine AllReadyH.cons rfl (fun K hK => ?_) AllReadyH.nil
      go_simp
      go_at_call 26
      refine Hput.out.mono ?_
      rintro e w3 ⟨A3, n3, c3, rfl, ho3, hb3⟩
      obtain ⟨e3, f3⟩ := hE3.out w3 hb3
      refine hK.out _ _ ⟨cell_below a2 bX.lt hb3, cell_below c1 bP1.lt hb3⟩ (fun hS7 => ?_)
      clear hK K
      refine wpAnyH_take (i := 8) (v := .tuple #[.slice A3 n3 c3, .int .i64 0]) rfl (by kernel_rfl) (by kernel_rfl) (by kernel_rfl) (fun _ _ _ h => h) (Or.inl ⟨by rfl, ?_⟩) hS7 ?_
      · rintro w' ⟨s1, s2⟩
        go_simp
      simp only [Act.put]
      refine wpAnyH_take (i := 9) (v := .slice A3 n3 c3) rfl (by kernel_rfl) (by kernel_rfl) (by kernel_rfl) (fun _ _ _ h => h) (Or.inl ⟨by rfl, ?_⟩) hS7 ?_
      · rintro w' ⟨s1, s2⟩
        go_simp
      simp only [Act.put]
      refine wpAnyH_take (i := 10) (v := .int .i64 0) rfl (by kernel_rfl) (by kernel_rfl) (by kernel_rfl) (fun _ _ _ h => h) (Or.inl ⟨by rfl, ?_⟩) hS7 ?_
      · rintro w' ⟨s1, s2⟩
        go_simp
      simp only [Act.put]
      refine wpAnyH_ready (rs := [11]) (by kernel_rfl) (by simp) ?_
      refine AllReadyH.cons rfl (fun K hK => ?_) AllReadyH.nil
      go_simp
      refine hK.out _ _ ⟨grown_cell (grownBy_set _ _ _ _) (cell_below a2 bX.lt hb3) (by omega), grown_cell (grownBy_set _ _ _ _) (cell_below c1 bP1.lt hb3) (by omega)⟩ (fun hS11 => ?_)
      clear hK K
      refine wpAnyH_done (by kernel_rfl) ?_ _
      exact hKeep.out _ _ _ _ ho3 hb3
    · go_simp
      refine hK.out _ _ ⟨cell_below a2 bX.lt (below_alloc W _).drew, cell_below c1 bP1.lt (below_alloc W _).drew⟩ (fun hS6 => ?_)
      clear hK K
      refine wpAnyH_ready (rs := [0]) (by kernel_rfl) (by simp) ?_
      refine AllReadyH.cons rfl (fun K hK => ?_) AllReadyH.nil
      go_simp
      refine hK.out _ _ hS6 (fun hS0 => ?_)
      clear hK K
      refine wpAnyH_ready (rs := [7]) (by kernel_rfl) (by simp) ?_
      refine AllReadyH.cons rfl (fun K hK => ?_) AllReadyH.nil
      go_simp
      go_at_call 26
      refine Hput.out.mono ?_
      rintro e w3 ⟨A3, n3, c3, rfl, ho3, hb3⟩
      obtain ⟨e3, f3⟩ := hE3.out w3 hb3
      refine hK.out _ _ ⟨cell_below a2 bX.lt hb3, cell_below c1 bP1.lt hb3⟩ (fun hS7 => ?_)
      clear hK K
      refine wpAnyH_take (i := 8) (v := .tuple #[.slice A3 n3 c3, .int .i64 0]) rfl (by kernel_rfl) (by kernel_rfl) (by kernel_rfl) (fun _ _ _ h => h) (Or.inl ⟨by rfl, ?_⟩) hS7 ?_
      · rintro w' ⟨s1, s2⟩
        go_simp
      simp only [Act.put]
      refine wpAnyH_take (i := 9) (v := .slice A3 n3 c3) rfl (by kernel_rfl) (by kernel_rfl) (by kernel_rfl) (fun _ _ _ h => h) (Or.inl ⟨by rfl, ?_⟩) hS7 ?_
      · rintro w' ⟨s1, s2⟩
        go_simp
      simp only [Act.put]
      refine wpAnyH_take (i := 10) (v := .int .i64 0) rfl (by kernel_rfl) (by kernel_rfl) (by kernel_rfl) (fun _ _ _ h => h) (Or.inl ⟨by rfl, ?_⟩) hS7 ?_
      · rintro w' ⟨s1, s2⟩
        go_simp
      simp only [Act.put]
      refine wpAnyH_ready (rs := [11]) (by kernel_rfl) (by simp) ?_
      refine AllReadyH.cons rfl (fun K hK => ?_) AllReadyH.nil
      go_simp
      refine hK.out _ _ ⟨grown_cell (grownBy_set _ _ _ _) (cell_below a2 bX.lt hb3) (by omega), grown_cell (grownBy_set _ _ _ _) (cell_below c1 bP1.lt hb3) (by omega)⟩ (fun hS11 => ?_)
      clear hK K
      refine wpAnyH_done (by kernel_rfl) ?_ _
      exact hKeep.out _ _ _ _ ho3 hb3
  case done =>
    rintro D ys W hD rfl ⟨⟨⟨bP1, bN1⟩, hB1⟩, v1, bE1, hO1, _⟩ hK
    have hlen : (bq [f, p, t, q, n] allQ).length = 6 := by rw [bq_all, qB_len]
    have ho1 : Own W w.heap.size v1 (bq [f, p, t, q, n] allQ).length (bq [f, p, t, q, n] allQ) := hO1
    rw [bq_all] at ho1
    obtain ⟨A, c, rfl, _, _, _, _⟩ := ho1.form
    have e1 := bE1.cell
    clear hO1 hlen
    gi_wp2
    refine ⟨by simp, .inl ⟨_, _, rfl, run_takeDeferred hK, ?_⟩⟩
    exact ⟨_, results_tmp rfl _ _ _, A, _, c, rfl, ownsRow_putObj ho1 _ hK rfl, hB1.trans (belowK_b (w := w) (Nat.le_refl _) W D _ _ (by omega) hK rfl rfl)⟩
  case stop =>
    rintro D c pre W _ _ h _
    exact h.elim

set_option maxRecDepth 100000 in
set_option maxHeartbeats 1600000 in
theorem bytes_any (f p t q n : Int) (w : World) : Calls Tryz.prog 68 #[.agg #[.int .i64 f, .int .i64 p, .int .i64 t, .int .i64 q, .int .i64 n]] w (PairOf (bytesQ f p t q n).1 (bytesQ f p t q n).2 w) := by
  by_cases ok : okQ f p t q n
  · have hp1 := Kp.mk (show checkQ f p t q n = 0 from if_pos ok)
    have hp2 := Kp.mk (bytesQ_ok ok)
    have Hb := Kp.mk (fun w => body_any f p t q n w ok)
    clear ok
    go_enter Tryz.func68, Tryz.ntmps68
    go_wp2_with fail
    have hb0 := below_alloc w (.cells #[.int .i64 f, .int .i64 p, .int .i64 t, .int .i64 q, .int .i64 n] 34)
    have hx0 := Nb.new 34 w [f, p, t, q, n]
    change Nb _ (w.alloc (.cells #[.int .i64 f, .int .i64 p, .int .i64 t, .int .i64 q, .int .i64 n] 34)) _ _ at hx0
    generalize hW : (w.alloc (.cells #[.int .i64 f, .int .i64 p, .int .i64 t, .int .i64 q, .int .i64 n] 34)) = w0 at *
    have hz0 : w0.heap.size = w.heap.size + 1 := by rw [← hW]; simp
    clear hW
    refine (check_any f p t q n w0).mono ?_
    rw [hp1.out]
    rintro e w1 ⟨rfl, hb1⟩
    have hx1 := hx0.below hb1 (by omega)
    have hz1 := hb1.size
    have d0 := hx1.cell 0 (by simp)
    have d1 := hx1.cell 1 (by simp)
    have d2 := hx1.cell 2 (by simp)
    have d3 := hx1.cell 3 (by simp)
    have d4 := hx1.cell 4 (by simp)
    simp only [List.getD_cons_zero, List.getD_cons_succ] at d0 d1 d2 d3 d4
    go_wp2_with fail
    refine (Hb.out w1).mono ?_
    rintro e w2 ⟨A2, n2, c2, rfl, ho2, hb2⟩
    have hz2 := hb2.size
    have hl2 := ho2.len
    rw [qB_len] at hl2
    go_wp2_with fail
    refine (seal_any 2 ho2.rd (qB_by _ _ _ _ _) (Nat.le_refl _) (by omega)).mono ?_
    rintro e w3 ⟨A3, n3, c3, rfl, ho3, hb3⟩
    go_wp2_with fail
    rw [hp2.out]
    go_ret2
    exact ⟨A3, n3, c3, rfl, ho3.lower (by omega), hb0.trans ((hb1.mono (by omega)).trans ((hb2.mono (by omega)).trans (hb3.mono (by omega))))⟩
  · have hp1 := Kp.mk (show checkQ f p t q n = 2 from if_neg ok)
    have hp2 := Kp.mk (show bytesQ f p t q n = ([], 2) from if_neg ok)
    clear ok
    go_enter Tryz.func68, Tryz.ntmps68
    go_wp2_with fail
    have hb0 := below_alloc w (.cells #[.int .i64 f, .int .i64 p, .int .i64 t, .int .i64 q, .int .i64 n] 34)
    generalize hW : (w.alloc (.cells #[.int .i64 f, .int .i64 p, .int .i64 t, .int .i64 q, .int .i64 n] 34)) = w0 at *
    have hz0 : w0.heap.size = w.heap.size + 1 := by rw [← hW]; simp
    clear hW
    refine (check_any f p t q n w0).mono ?_
    rw [hp1.out]
    rintro e w1 ⟨rfl, hb1⟩
    go_wp2_with fail
    rw [hp2.out]
    go_ret2
    exact PairOf.nil 2 w (hb0.trans (hb1.mono (by omega)))
end Go.Proofs.YteambkehdbffmaaGreat.Oct
