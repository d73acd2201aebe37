import Derived.Test.YtnoflfbcgbhipaaGreatPrbE
import Derived.StillTailTactics
set_option linter.unusedVariables false
set_option maxRecDepth 100000
set_option maxHeartbeats 4000000
namespace Go.Proofs.YtnoflfbcgbhipaaGreat.Oct
open Go.RowKit Go.Shelf
attribute [local go_sem] Oper.semAt_some
def stQ (l : List Int) (pre : List (Fin 5)) : List Int × List Int × Int :=
 pre.foldl (fun st x => let r := numR (plC x) st.2.1 st.2.2; (st.1.set x.val r.1, r.2.1, r.2.2)) ([0, 0, 0, 0, 0], l, 0)
theorem stQ_snoc (l : List Int) (pre : List (Fin 5)) (x : Fin 5) : stQ l (pre ++ [x]) = ((stQ l pre).1.set x.val (numR (plC x) (stQ l pre).2.1 (stQ l pre).2.2).1, (numR (plC x) (stQ l pre).2.1 (stQ l pre).2.2).2.1, (numR (plC x) (stQ l pre).2.1 (stQ l pre).2.2).2.2) := by
 simp [stQ]
theorem stQ_len (l : List Int) (pre : List (Fin 5)) : (stQ l pre).1.length = 5 := by
 unfold stQ
 have key : ∀ (pre : List (Fin 5)) (st : List Int × List Int × Int), (pre.foldl (fun st x => let r := numR (plC x) st.2.1 st.2.2; (st.1.set x.val r.1, r.2.1, r.2.2)) st).1.length = st.1.length := by
  intro pre
  induction pre with
  | nil => intro st; rfl
  | cons x pre ih => intro st; rw [List.foldl_cons, ih]; simp
 rw [key]; rfl
theorem stQ_all (l : List Int) : stQ l allQ = ([(s1 l).1, (s2 l).1, (s3 l).1, (s4 l).1, (s5 l).1], (s5 l).2.1, (s5 l).2.2) := rfl
theorem rdr_own {β : Type} (T : TypeId) (lo g : Nat) (l : β → List Int) (e : β → Int) : Go.Own (fun s W => Rdr T W lo g (l s) (e s)) := by
 rintro s X Y row ⟨A, n, c, hc, hlo, hrd, hb, hl, he⟩ hg hrow
 refine ⟨A, n, c, ?_, hlo, ⟨hrd.1, hrd.2.1, hrd.2.2.1, hrd.2.2.2.1, fun hn => ?_⟩, hb, hl, he⟩
 ·exact cells_own g T (0, 0) (fun _ => #[.slice A n c, .int .i64 (e s)]) s X Y row hc hg hrow
 ·obtain ⟨b, off, ea, hbg, hcell⟩ := hrd.at_ hn
  exact ⟨b, off, ea, hbg, fun j hj => cell_kept (hcell j hj) hg hrow⟩
def PrbOf (x : (Int × Int × Int × Int × Int) × Int) (w : World) (en : Ending) (w' : World) : Prop :=
 en = .returned (.tuple #[.agg #[.int .i64 x.1.1, .int .i64 x.1.2.1, .int .i64 x.1.2.2.1, .int .i64 x.1.2.2.2.1, .int .i64 x.1.2.2.2.2], .int .i64 x.2]) ∧ Below w.heap.size w w'
def readQ (l : List Int) : (Int × Int × Int × Int × Int) × Int := (((s1 l).1, (s2 l).1, (s3 l).1, (s4 l).1, (s5 l).1), endR (s5 l).2.1 (s5 l).2.2)
theorem readQ_any {w : World} {B : Nat} {A : Option Addr} {n c : Nat} {l : List Int} (hr : Rd .u8 w B A n c l) (hl : By l) (hB : B ≤ w.heap.size) (hn : n ≤ 140737488355000) :
  Calls Tryz.prog 259 #[.slice A n c] w (PrbOf (readQ l) w) := by
 have hrr := Kp.mk (fun (w1 : World) (hb : Below w.heap.size w w1) => read_any (w := w1) (hr.below' hb hB) hl (by have := hb.size; omega) (by omega))
 clear hr
 refine (callsIn_wide (n := 8)).1 ?_
 refine callsIn_of_wp_marks Tryz.func259 rfl trivial ?_ rfl
 simp only [Tryz.ntmps259, List.size_toArray, List.length_cons, List.length_nil, Nat.reduceAdd, Nat.reduceSub, Array.replicate_succ, Array.replicate_zero, List.push_toArray, List.append_toArray, List.nil_append, List.cons_append]
 gi_wp2_with fail
 have bR := (Nb.new 49 w [0, 0, 0, 0, 0]).alloc (.cells #[.int .i64 0, .int .i64 0, .int .i64 0, .int .i64 0, .int .i64 0] 49)
 have bP := Nb.new 49 (w.alloc (.cells #[.int .i64 0, .int .i64 0, .int .i64 0, .int .i64 0, .int .i64 0] 49)) [0, 0, 0, 0, 0]
 rw [World.size_alloc] at bP
 change Nb 49 ((w.alloc (.cells #[.int .i64 0, .int .i64 0, .int .i64 0, .int .i64 0, .int .i64 0] 49)).alloc (.cells #[.int .i64 0, .int .i64 0, .int .i64 0, .int .i64 0, .int .i64 0] 49)) w.heap.size [0, 0, 0, 0, 0] at bR
 change Nb 49 ((w.alloc (.cells #[.int .i64 0, .int .i64 0, .int .i64 0, .int .i64 0, .int .i64 0] 49)).alloc (.cells #[.int .i64 0, .int .i64 0, .int .i64 0, .int .i64 0, .int .i64 0] 49)) (w.heap.size + 1) [0, 0, 0, 0, 0] at bP
 have hb0 := below_two w (.cells #[.int .i64 0, .int .i64 0, .int .i64 0, .int .i64 0, .int .i64 0] 49) (.cells #[.int .i64 0, .int .i64 0, .int .i64 0, .int .i64 0, .int .i64 0] 49)
 have hz0 : ((w.alloc (.cells #[.int .i64 0, .int .i64 0, .int .i64 0, .int .i64 0, .int .i64 0] 49)).alloc (.cells #[.int .i64 0, .int .i64 0, .int .i64 0, .int .i64 0, .int .i64 0] 49)).heap.size = w.heap.size + 2 := by simp
 generalize ((w.alloc (.cells #[.int .i64 0, .int .i64 0, .int .i64 0, .int .i64 0, .int .i64 0] 49)).alloc (.cells #[.int .i64 0, .int .i64 0, .int .i64 0, .int .i64 0, .int .i64 0] 49)) = w0 at *
 refine ⟨trivial, (callsIn_wide.2 (hrr.out _ hb0)).mono ?_⟩
 rintro e w1 ⟨g, rfl, hR1, hb1⟩
 have hz1 := hb1.size
 have hlo : w0.heap.size ≤ g := by obtain ⟨_, _, _, _, hlo, _⟩ := hR1; exact hlo
 have hg1 := hR1.lt
 gi_wp2_with (refine ⟨trivial, ?_⟩; gi_at_call 252; refine (callsIn_wide.2 (numbers_any _ _)).mono ?_; rintro e w' ⟨rfl, rfl⟩)
 have bR2 : Nb 49 ((w1.alloc (.cells #[.pointer (some ⟨g, 0, none⟩)] 248)).alloc (.cells #[.pointer (some ⟨w.heap.size + 1, 0, none⟩)] 209)) w.heap.size [0, 0, 0, 0, 0] := ((bR.below hb1 (by omega)).alloc _).alloc _
 have bP2 : Nb 49 ((w1.alloc (.cells #[.pointer (some ⟨g, 0, none⟩)] 248)).alloc (.cells #[.pointer (some ⟨w.heap.size + 1, 0, none⟩)] 209)) (w.heap.size + 1) [0, 0, 0, 0, 0] := ((bP.below hb1 (by omega)).alloc _).alloc _
 have hR2 : Rdr 274 ((w1.alloc (.cells #[.pointer (some ⟨g, 0, none⟩)] 248)).alloc (.cells #[.pointer (some ⟨w.heap.size + 1, 0, none⟩)] 209)) w0.heap.size g l 0 := (hR1.below (below_alloc w1 _)).below (below_alloc _ _)
 have bG2 := (Boxed.new w1 248 (.pointer (some ⟨g, 0, none⟩))).alloc (.cells #[.pointer (some ⟨w.heap.size + 1, 0, none⟩)] 209)
 have bN2 := Boxed.new (w1.alloc (.cells #[.pointer (some ⟨g, 0, none⟩)] 248)) 209 (.pointer (some ⟨w.heap.size + 1, 0, none⟩))
 rw [World.size_alloc] at bN2
 have hB2 : Below w.heap.size w ((w1.alloc (.cells #[.pointer (some ⟨g, 0, none⟩)] 248)).alloc (.cells #[.pointer (some ⟨w.heap.size + 1, 0, none⟩)] 209)) := hb0.trans ((hb1.mono (by omega)).trans ((below_two w1 _ _).mono (by omega)))
 have hsz : ((w1.alloc (.cells #[.pointer (some ⟨g, 0, none⟩)] 248)).alloc (.cells #[.pointer (some ⟨w.heap.size + 1, 0, none⟩)] 209)).heap.size = w1.heap.size + 2 := by simp
 obtain ⟨W0, hW0⟩ : ∃ W0, ((w1.alloc (.cells #[.pointer (some ⟨g, 0, none⟩)] 248)).alloc (.cells #[.pointer (some ⟨w.heap.size + 1, 0, none⟩)] 209)) = W0 := ⟨_, rfl⟩
 rw [hW0] at bR2 bP2 hR2 bG2 bN2 hB2 hsz ⊢
 clear hW0 bR bP hb0 hb1 hR1 hrr
 generalize hv : w1.heap.size = v at *
 generalize hu : w0.heap.size = u at *
 clear hv hu
 refine wpIn_rangeFunc_ownH (Kp := KpQ (v + 1)) (w0 := W0) (encs := encQ (w.heap.size + 1)) (S := fun xs => xs = allQ) (Sp := fun pre => pre <+: allQ) (N := 5) rfl (by omega) (gf := 265) (lb := #[.pointer (some ⟨v + 1, 0, none⟩)]) ?c1 trivial ?c2
  ?c3 ?c4 ?c5 (Below.refl _ _) ?c6
  (fun pre W => (((Nb 49 W w.heap.size [0, 0, 0, 0, 0] ∧ Nb 49 W (w.heap.size + 1) (stQ l pre).1) ∧ (Boxed W v 248 (.pointer (some ⟨g, 0, none⟩)) ∧ Boxed W (v + 1) 209 (.pointer (some ⟨w.heap.size + 1, 0, none⟩)))) ∧ Rdr 274 W u g (stQ l pre).2.1 (stQ l pre).2.2) ∧ Below w.heap.size w W)
  (fun c pre W => False)
  ?c7 ?c8 ?c9
  (fun x a' W => ∃ b, v + 1 < b ∧ Nb 293 W b [plA x, plB x, plC x] ∧ a' = { tmps := #[.slice A n c, undef, .pointer (some ⟨w.heap.size, 0, none⟩), .int .i64 0, .pointer (some ⟨w.heap.size + 1, 0, none⟩), .pointer (some ⟨v, 0, none⟩), .pointer (some ⟨b, 0, none⟩), .pointer (some ⟨w.heap.size + 1, x.val, none⟩), .slice A n c, .pointer (some ⟨g, 0, none⟩), .func (.func 265) #[] #[.pointer (some ⟨v + 1, 0, none⟩)], .agg #[.int .i64 (plA x), .int .i64 (plB x), .int .i64 (plC x)], .pointer (some ⟨w.heap.size + 1, x.val, none⟩), undef, undef, undef, undef, undef, undef, undef, undef, undef], defers := [] })
  ?c10
  ?assign ?body ?done ?stop
 case c1 => rfl
 case c2 => exact enters_of Tryz.func265 (by kernel_rfl) rfl
 case c3 => exact nums_stops _ (w.heap.size + 1) (v + 1) (by omega) W0 bN2.cell (by omega)
 case c4 => exact kpQ_t
 case c5 => exact kpQ_b (by omega)
 case c6 => exact fun _ => rfl
 case c7 => exact OwnFrom.and (Own.from (fun s X Y row hs hg hr => ⟨⟨⟨nb_own _ _ (fun _ => [0, 0, 0, 0, 0]) s X Y row hs.1.1.1 hg hr, nb_own _ _ (fun pre => (stQ l pre).1) s X Y row hs.1.1.2 hg hr⟩, boxed_own _ _ (fun _ => _) s X Y row hs.1.2.1 hg hr, boxed_own _ _ (fun _ => _) s X Y row hs.1.2.2 hg hr⟩, rdr_own _ _ _ (fun pre => (stQ l pre).2.1) (fun pre => (stQ l pre).2.2) s X Y row hs.2 hg hr⟩) _) (ownFrom_below (Nat.le_refl _) (by omega))
 case c8 => exact fun _ _ _ _ _ hs _ _ => hs
 case c9 => exact ⟨⟨⟨⟨bR2, bP2⟩, bG2, bN2⟩, hR2⟩, hB2⟩
 case c10 =>
  rintro x a' _ X Y row ⟨b, h1, h2, h3⟩ hg hr
  exact ⟨b, h1, nb_own _ b (fun (_ : Unit) => [plA x, plB x, plC x]) () X Y row h2 hg (fun r e => (hr r e).2), h3⟩
 case assign =>
  rintro l' pre x W K ⟨⟨⟨⟨bR1, bP1⟩, bG1, bN1⟩, hR1⟩, hB1⟩ hK
  dsimp only [encQ]
  gi_wp2
  have hzW := bN1.lt
  have hsW := hB1.size
  exact hK _ _ ((KeepsOthers.alloc _ _).from _) ((bN1.alloc _).cell.trans bN1.cell.symm) ⟨⟨⟨⟨bR1.alloc _, bP1.alloc _⟩, bG1.alloc _, bN1.alloc _⟩, hR1.below (below_alloc W _)⟩, hB1.alloc hsW _⟩ ⟨W.heap.size, by omega, Nb.new _ W [plA x, plB x, plC x], rfl⟩
 case body =>
  rintro l' pre x a' W hl' hr' ⟨⟨⟨⟨bR1, bP1⟩, bG1, bN1⟩, hR1⟩, hB1⟩ ⟨b, hb, bX, rfl⟩ hlt
  have hsW := hB1.size
  have c2 : W.cell? ⟨b, 2, none⟩ = some (.int .i64 (plC x)) := bX.cell 2 (by simp)
  have cg := bG1.cell
  have hlen := stQ_len l pre
  have hNum := Kp.mk (num_any (plC x) hR1)
  have hKeep : Kp (∀ (w2 : World), Rdr 274 w2 u g (numR (plC x) (stQ l pre).2.1 (stQ l pre).2.2).2.1 (numR (plC x) (stQ l pre).2.1 (stQ l pre).2.2).2.2 → W.grownBy w2 (some g) →
    (w2.frozen? ⟨w.heap.size + 1, x.val, none⟩ = false ∧ w2.cell? ⟨w.heap.size + 1, x.val, none⟩ = some (.int .i64 ((stQ l pre).1.getD x.val 0))) ∧
    KeepsFrom W0.heap.size W (w2.setCell ⟨w.heap.size + 1, x.val, none⟩ (.int .i64 (numR (plC x) (stQ l pre).2.1 (stQ l pre).2.2).1)) ∧ KpQ (v + 1) W (w2.setCell ⟨w.heap.size + 1, x.val, none⟩ (.int .i64 (numR (plC x) (stQ l pre).2.1 (stQ l pre).2.2).1)) ∧
    (((Nb 49 (w2.setCell ⟨w.heap.size + 1, x.val, none⟩ (.int .i64 (numR (plC x) (stQ l pre).2.1 (stQ l pre).2.2).1)) w.heap.size [0, 0, 0, 0, 0] ∧ Nb 49 (w2.setCell ⟨w.heap.size + 1, x.val, none⟩ (.int .i64 (numR (plC x) (stQ l pre).2.1 (stQ l pre).2.2).1)) (w.heap.size + 1) (stQ l (pre ++ [x])).1) ∧
     (Boxed (w2.setCell ⟨w.heap.size + 1, x.val, none⟩ (.int .i64 (numR (plC x) (stQ l pre).2.1 (stQ l pre).2.2).1)) v 248 (.pointer (some ⟨g, 0, none⟩)) ∧ Boxed (w2.setCell ⟨w.heap.size + 1, x.val, none⟩ (.int .i64 (numR (plC x) (stQ l pre).2.1 (stQ l pre).2.2).1)) (v + 1) 209 (.pointer (some ⟨w.heap.size + 1, 0, none⟩)))) ∧
     Rdr 274 (w2.setCell ⟨w.heap.size + 1, x.val, none⟩ (.int .i64 (numR (plC x) (stQ l pre).2.1 (stQ l pre).2.2).1)) u g (stQ l (pre ++ [x])).2.1 (stQ l (pre ++ [x])).2.2) ∧ Below w.heap.size w (w2.setCell ⟨w.heap.size + 1, x.val, none⟩ (.int .i64 (numR (plC x) (stQ l pre).2.1 (stQ l pre).2.2).1))) := Kp.mk (by
   intro w2 hR2 hg2
   rw [stQ_snoc]
   have hne : w.heap.size + 1 ≠ g := by omega
   have bP2 := bP1.grown hg2 hne
   have hset := grownBy_set w2 (w.heap.size + 1) x.val (.int .i64 (numR (plC x) (stQ l pre).2.1 (stQ l pre).2.2).1)
   have bN2 : Boxed (w2.setCell ⟨w.heap.size + 1, x.val, none⟩ (.int .i64 (numR (plC x) (stQ l pre).2.1 (stQ l pre).2.2).1)) (v + 1) 209 (.pointer (some ⟨w.heap.size + 1, 0, none⟩)) := (bN1.kept hg2 (by simp; omega)).kept hset (by simp; omega)
   have bG2 : Boxed (w2.setCell ⟨w.heap.size + 1, x.val, none⟩ (.int .i64 (numR (plC x) (stQ l pre).2.1 (stQ l pre).2.2).1)) v 248 (.pointer (some ⟨g, 0, none⟩)) := (bG1.kept hg2 (by simp; omega)).kept hset (by simp; omega)
   refine ⟨⟨bP2.free _, bP2.cell _ (by omega)⟩, ((KeepsOthers.of_grownBy hg2 (fun j o e hj => ?_)).trans (KeepsOthers.setCell _ _ _)).from _, bN2.cell.trans bN1.cell.symm, ⟨⟨⟨(bR1.grown hg2 (by omega)).grown hset (by omega), bP2.set _ _⟩, bG2, bN2⟩, hR2.keep hset (fun k e => by simp at e; omega)⟩,
    ((hB1.grown hg2 (by omega) (fun k e => by simp at e; omega)).setCell (by simp) _)⟩
   obtain ⟨A', n', c', hc', _⟩ := hR1
   simp at e
   subst e
   rw [hc'] at hj
   cases hj
   rfl)
  clear hlen hR1 bR1 bP1 bG1 bN1 bX hB1
  generalize stQ l pre = st0 at *
  gi_wp2_with (refine ⟨trivial, ?_⟩; gi_at_call 207; refine (CallsIn.inRound l' (callsIn_wide.2 hNum.out)).mono ?_; rintro e w2 ⟨rfl, hR2, hg2⟩; obtain ⟨⟨hf2, hc2⟩, hend⟩ := hKeep.out w2 hR2 hg2; replace hend := Kp.mk hend)
  exact hend.out
 case done =>
  rintro D ys W hD rfl ⟨⟨⟨⟨bR1, bP1⟩, bG1, bN1⟩, hR1⟩, hB1⟩ hK
  rw [stQ_all] at bP1 hR1
  change Nb _ W (w.heap.size + 1) [(s1 l).1, (s2 l).1, (s3 l).1, (s4 l).1, (s5 l).1] at bP1
  change Rdr _ W u g (s5 l).2.1 (s5 l).2.2 at hR1
  have hQ := Kp.mk (show readQ l = (((s1 l).1, (s2 l).1, (s3 l).1, (s4 l).1, (s5 l).1), endR (s5 l).2.1 (s5 l).2.2) from rfl)
  generalize (s1 l).1 = q1 at *
  generalize (s2 l).1 = q2 at *
  generalize (s3 l).1 = q3 at *
  generalize (s4 l).1 = q4 at *
  generalize s5 l = q5 at *
  obtain ⟨q5, l5, e5⟩ := q5
  simp only at bP1 hR1 hQ
  obtain ⟨d0, d1, d2, d3, d4⟩ := bP1.five
  have cg := bG1.cell
  have hRd : Rdr 274 W.drew u g l5 e5 := hR1
  gi_wp2
  refine wpIn_mono ?_ then_no
  refine wpIn_wide.2 ?_
  go_still_tail 3, (by kernel_rfl)
  refine wpStill_step (fun K hK => ?_)
  go_simp
  refine ⟨_, (endM_any hRd).mono (fun _ _ ⟨h1, h2⟩ => ⟨h1, h2.symm⟩), hK _ ?_⟩
  clear hK K
  refine wpStill_nil ?_
  have bR3 : Nb 49 W.drew w.heap.size [0, 0, 0, 0, 0] := bR1
  have hB3 : Below w.heap.size w W.drew := hB1.drew
  have hK3 : W.drew.heap[D]? = some (.deferred (some [])) := hK
  clear d0 d1 d2 d3 d4 cg hRd bR1 bP1 bG1 bN1 hR1 hB1 hK
  change wpList _ _ _ _ _ W.drew
  generalize W.drew = wc at *
  obtain ⟨d0, d1, d2, d3, d4⟩ := bR3.five
  have hf := bR3.free
  go_wp2_with fail
  clear d0 d1 d2 d3 d4 hf
  have bR4 := (Nb.put5 (f' := q1) (p' := q2) (t' := q3) (q' := q4) (n' := q5) bR3)
  have hB4 := put5_below hB3 (Nat.le_refl _) q1 q2 q3 q4 q5
  have hK4 := (put5_others wc w.heap.size q1 q2 q3 q4 q5).same D _ hK3 rfl
  refine wpIn_ret ?_
  change bodyPostM _ _ _ _ _ _ _ (put5 wc w.heap.size q1 q2 q3 q4 q5)
  generalize put5 wc w.heap.size q1 q2 q3 q4 q5 = we at *
  refine ⟨by simp, .inl ⟨_, _, rfl, run_takeDeferred hK4, ?_⟩⟩
  have bR5 := nb_own 49 w.heap.size (fun (_ : Unit) => [q1, q2, q3, q4, q5]) () _ _ _ bR4 (grownBy_putObj' we D (.deferred none)) (fun r e => by cases e; exact ⟨_, hK4, rfl⟩)
  obtain ⟨d0, d1, d2, d3, d4⟩ := bR5.five
  refine ⟨.tuple #[.agg #[.int .i64 q1, .int .i64 q2, .int .i64 q3, .int .i64 q4, .int .i64 q5], .int .i64 (endR l5 e5)], ?_, ?_, hB4.trans (belowK_b (w := w) (Nat.le_refl _) we D _ _ (by have := hB2.size; omega) hK4 rfl rfl)⟩
  ·simp [results, Tryz.f259, go_sem, d0, d1, d2, d3, d4]
  ·rw [hQ.out]
 case stop =>
  rintro D c pre W _ _ h _
  exact h.elim
theorem PrbOf.mk {w w' : World} {x : (Int × Int × Int × Int × Int) × Int} {f p t q n e : Int} (hp : x = ((f, p, t, q, n), e)) (hb : Below w.heap.size w w') :
  PrbOf x w (.returned (.tuple #[.agg #[.int .i64 f, .int .i64 p, .int .i64 t, .int .i64 q, .int .i64 n], .int .i64 e])) w' := by
 subst hp; exact ⟨rfl, hb⟩
theorem parseQ_any {w : World} {B : Nat} {A : Option Addr} {n c : Nat} {l : List Int} (hr : Rd .u8 w B A n c l) (hl : By l) (hB : B ≤ w.heap.size) :
  Calls Tryz.prog 240 #[.slice A n c] w (PrbOf (parseQ l) w) := by
 have hoby := openP_by l hl
 have hol := openQ_len l
 have hno := Kp.mk (@parseQ_no l)
 have hyes := Kp.mk (@parseQ_yes l)
 have hform := Kp.mk (@parseQ_form l)
 obtain ⟨k, hk⟩ : ∃ k, (openP l).1 = k := ⟨_, rfl⟩
 obtain ⟨m, hm⟩ : ∃ m, (openP l).2.1 = m := ⟨_, rfl⟩
 obtain ⟨e0, he⟩ : ∃ e, (openP l).2.2 = e := ⟨_, rfl⟩
 have Hopen := Kp.mk (show openP l = (k, m, e0) by rw [← hk, ← hm, ← he])
 rw [hk, hm, he] at hyes hform
 rw [he] at hno
 rw [hm] at hoby hol
 clear hk hm he
 go_enter Tryz.func240, Tryz.ntmps240
 go_wp2_with fail
 have hb0 := below_alloc w (.cells #[.int .i64 0, .int .i64 0, .int .i64 0, .int .i64 0, .int .i64 0] 49)
 have hx0 : Nb 49 (w.alloc (.cells #[.int .i64 0, .int .i64 0, .int .i64 0, .int .i64 0, .int .i64 0] 49)) w.heap.size [0, 0, 0, 0, 0] := Nb.new 49 w [0, 0, 0, 0, 0]
 have hz0 : (w.alloc (.cells #[.int .i64 0, .int .i64 0, .int .i64 0, .int .i64 0, .int .i64 0] 49)).heap.size = w.heap.size + 1 := by simp
 generalize (w.alloc (.cells #[.int .i64 0, .int .i64 0, .int .i64 0, .int .i64 0, .int .i64 0] 49)) = w0 at *
 refine (open_any (hr.below' hb0 hB) hl (by omega)).mono ?_
 rw [Hopen.out]
 rintro e w1 ⟨A1, n1, c1, rfl, ho1, hb1⟩
 have hz1 := hb1.size
 have hk1 := hx0.below hb1 (by omega)
 have hT1 : Below w.heap.size w w1 := hb0.trans (hb1.mono (by omega))
 by_cases hz : e0 = 0
 ·subst hz
  have hn1 := ho1.len
  have hr1 := ho1.rd
  clear hno
  go_wp2_with fail
  refine (readQ_any hr1 hoby (Nat.le_refl _) (by omega)).mono ?_
  rintro e w2 ⟨rfl, hb2⟩
  have hk2 := hk1.below hb2 (by omega)
  have hz2 := hb2.size
  have hT2 := hT1.trans (hb2.mono (by omega))
  have HQ := Kp.mk (show readQ m = (((s1 m).1, (s2 m).1, (s3 m).1, (s4 m).1, (s5 m).1), endR (s5 m).2.1 (s5 m).2.2) from rfl)
  have hfine := Kp.mk (show fineQ k m ↔ k = 2 ∧ (readQ m).2 = 0 ∧ checkQ (readQ m).1.1 (readQ m).1.2.1 (readQ m).1.2.2.1 (readQ m).1.2.2.2.1 (readQ m).1.2.2.2.2 = 0 from Iff.rfl)
  have hyes2 := Kp.mk (show fineQ k m → parseQ l = ((readQ m).1, 0) from fun h => hyes.out (by first | rfl | trivial) h)
  have hform2 := Kp.mk (show ¬ fineQ k m → parseQ l = ((0, 0, 0, 0, 0), 4) from fun h => hform.out (by first | rfl | trivial) h)
  clear hyes hform HQ
  generalize readQ m = R at *
  obtain ⟨⟨q1, q2, q3, q4, q5⟩, ee⟩ := R
  simp only at hfine
  have hf := hk2.free
  obtain ⟨d0, d1, d2, d3, d4⟩ := hk2.five
  by_cases c1 : k = 2
  ·by_cases c2 : ee = 0
   ·subst c1 c2
    go_wp2_with fail
    have b3 : Nb 49 (w2.alloc (.cells #[.int .i64 q1, .int .i64 q2, .int .i64 q3, .int .i64 q4, .int .i64 q5] 49)) w2.heap.size [q1, q2, q3, q4, q5] := Nb.new 49 w2 [q1, q2, q3, q4, q5]
    have h23 := below_alloc w2 (.cells #[.int .i64 q1, .int .i64 q2, .int .i64 q3, .int .i64 q4, .int .i64 q5] 49)
    have hz3 : (w2.alloc (.cells #[.int .i64 q1, .int .i64 q2, .int .i64 q3, .int .i64 q4, .int .i64 q5] 49)).heap.size = w2.heap.size + 1 := by simp
    generalize (w2.alloc (.cells #[.int .i64 q1, .int .i64 q2, .int .i64 q3, .int .i64 q4, .int .i64 q5] 49)) = w3 at *
    refine (check_any q1 q2 q3 q4 q5 w3).mono ?_
    rintro e w4 ⟨rfl, h34⟩
    have b4 := b3.below h34 (by omega)
    have hk4 := (hk2.below h23 (by omega)).below h34 (by omega)
    have hT4 := (hT2.trans (h23.mono (by omega))).trans (h34.mono (by omega))
    clear d0 d1 d2 d3 d4 hf
    have hf := hk4.free
    obtain ⟨d0, d1, d2, d3, d4⟩ := hk4.five
    obtain ⟨a0, a1, a2, a3, a4⟩ := b4.five
    generalize hC : checkQ q1 q2 q3 q4 q5 = ck at *
    have HC := Kp.mk hC
    clear hC
    by_cases c3 : ck = 0
    ·subst c3
     have Hend := Kp.mk (hyes2.out (hfine.out.2 (by simp)))
     go_wp2_with fail
     have hk9 := hk4.put5 (f' := q1) (p' := q2) (t' := q3) (q' := q4) (n' := q5)
     have hT9 := put5_below hT4 (Nat.le_refl _) q1 q2 q3 q4 q5
     clear d0 d1 d2 d3 d4 hf
     obtain ⟨d0, d1, d2, d3, d4⟩ := hk9.five
     change bodyPost _ _ _ _ _ (put5 w4 w.heap.size q1 q2 q3 q4 q5)
     generalize put5 w4 w.heap.size q1 q2 q3 q4 q5 = wd at *
     refine bodyPost_ret (v := .tuple #[.agg #[.int .i64 q1, .int .i64 q2, .int .i64 q3, .int .i64 q4, .int .i64 q5], .int .i64 0]) (by simp [results, Tryz.results240, go_sem, d0, d1, d2, d3, d4]) rfl ?_
     exact PrbOf.mk Hend.out hT9
    ·have Hend := Kp.mk (hform2.out (fun h => c3 (hfine.out.1 h).2.2))
     go_wp2_with fail
     have hk9 := hk4.put5 (f' := 0) (p' := 0) (t' := 0) (q' := 0) (n' := 0)
     have hT9 := put5_below hT4 (Nat.le_refl _) 0 0 0 0 0
     clear d0 d1 d2 d3 d4 hf
     obtain ⟨d0, d1, d2, d3, d4⟩ := hk9.five
     change bodyPost _ _ _ _ _ (put5 w4 w.heap.size 0 0 0 0 0)
     generalize put5 w4 w.heap.size 0 0 0 0 0 = wd at *
     refine bodyPost_ret (v := .tuple #[.agg #[.int .i64 0, .int .i64 0, .int .i64 0, .int .i64 0, .int .i64 0], .int .i64 4]) (by simp [results, Tryz.results240, go_sem, d0, d1, d2, d3, d4]) rfl ?_
     exact PrbOf.mk Hend.out hT9
   ·have Hend := Kp.mk (hform2.out (fun h => c2 (hfine.out.1 h).2.1))
    subst c1
    have h23 := below_alloc w2 (.cells #[.int .i64 q1, .int .i64 q2, .int .i64 q3, .int .i64 q4, .int .i64 q5] 49)
    have hk3 := hk2.below h23 (by omega)
    have hT3 := hT2.trans (h23.mono (by omega))
    clear d0 d1 d2 d3 d4 hf
    have hf := hk3.free
    obtain ⟨d0, d1, d2, d3, d4⟩ := hk3.five
    go_wp2_with fail
    generalize (w2.alloc (.cells #[.int .i64 q1, .int .i64 q2, .int .i64 q3, .int .i64 q4, .int .i64 q5] 49)) = w3 at *
    have hk9 := hk3.put5 (f' := 0) (p' := 0) (t' := 0) (q' := 0) (n' := 0)
    have hT9 := put5_below hT3 (Nat.le_refl _) 0 0 0 0 0
    clear d0 d1 d2 d3 d4 hf
    obtain ⟨d0, d1, d2, d3, d4⟩ := hk9.five
    change bodyPost _ _ _ _ _ (put5 w3 w.heap.size 0 0 0 0 0)
    generalize put5 w3 w.heap.size 0 0 0 0 0 = wd at *
    refine bodyPost_ret (v := .tuple #[.agg #[.int .i64 0, .int .i64 0, .int .i64 0, .int .i64 0, .int .i64 0], .int .i64 4]) (by simp [results, Tryz.results240, go_sem, d0, d1, d2, d3, d4]) rfl ?_
    exact PrbOf.mk Hend.out hT9
  ·have Hend := Kp.mk (hform2.out (fun h => c1 (hfine.out.1 h).1))
   have h23 := below_alloc w2 (.cells #[.int .i64 q1, .int .i64 q2, .int .i64 q3, .int .i64 q4, .int .i64 q5] 49)
   have hk3 := hk2.below h23 (by omega)
   have hT3 := hT2.trans (h23.mono (by omega))
   clear d0 d1 d2 d3 d4 hf
   have hf := hk3.free
   obtain ⟨d0, d1, d2, d3, d4⟩ := hk3.five
   go_wp2_with fail
   generalize (w2.alloc (.cells #[.int .i64 q1, .int .i64 q2, .int .i64 q3, .int .i64 q4, .int .i64 q5] 49)) = w3 at *
   have hk9 := hk3.put5 (f' := 0) (p' := 0) (t' := 0) (q' := 0) (n' := 0)
   have hT9 := put5_below hT3 (Nat.le_refl _) 0 0 0 0 0
   clear d0 d1 d2 d3 d4 hf
   obtain ⟨d0, d1, d2, d3, d4⟩ := hk9.five
   change bodyPost _ _ _ _ _ (put5 w3 w.heap.size 0 0 0 0 0)
   generalize put5 w3 w.heap.size 0 0 0 0 0 = wd at *
   refine bodyPost_ret (v := .tuple #[.agg #[.int .i64 0, .int .i64 0, .int .i64 0, .int .i64 0, .int .i64 0], .int .i64 4]) (by simp [results, Tryz.results240, go_sem, d0, d1, d2, d3, d4]) rfl ?_
   exact PrbOf.mk Hend.out hT9
 ·have Hend := Kp.mk (hno.out hz)
  have hf := hk1.free
  obtain ⟨d0, d1, d2, d3, d4⟩ := hk1.five
  go_wp2_with fail
  have hk9 := hk1.put5 (f' := 0) (p' := 0) (t' := 0) (q' := 0) (n' := 0)
  have hT9 := put5_below hT1 (Nat.le_refl _) 0 0 0 0 0
  clear d0 d1 d2 d3 d4 hf
  obtain ⟨d0, d1, d2, d3, d4⟩ := hk9.five
  change bodyPost _ _ _ _ _ (put5 w1 w.heap.size 0 0 0 0 0)
  generalize put5 w1 w.heap.size 0 0 0 0 0 = wd at *
  refine bodyPost_ret (v := .tuple #[.agg #[.int .i64 0, .int .i64 0, .int .i64 0, .int .i64 0, .int .i64 0], .int .i64 e0]) (by simp [results, Tryz.results240, go_sem, d0, d1, d2, d3, d4]) rfl ?_
  exact PrbOf.mk Hend.out hT9
end Go.Proofs.YtnoflfbcgbhipaaGreat.Oct
