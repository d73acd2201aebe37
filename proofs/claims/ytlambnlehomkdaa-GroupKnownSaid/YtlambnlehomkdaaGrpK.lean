/- The walk of GroupKnown. -/
import Derived.Test.YtlambnlehomkdaaGrpF
import Derived.LoopN
namespace Go.Proofs.Ytlambnlehomkdaa.Oct
open Go.RowKit
set_option linter.unusedVariables false
set_option linter.unusedSimpArgs false

def dcs (d : Int × Bool) : List Value := [.int .i64 d.1, .bool d.2]
/-- The value v is a slice of calls that the call owns. -/
def Od (w : World) (base : Nat) (v : Value) (n : Nat) (ds : List (Int × Bool)) : Prop := w.ownsRow base 83 2 v n (ds.flatMap dcs)
theorem info_do : (Try.prog.info? 83).map (fun i => (i.zero, i.size, i.bytes)) = some (some (.agg #[.int .i64 0, .bool false]), 2, 16) := by kernel_rfl
theorem dcs_len (ds : List (Int × Bool)) : (ds.flatMap dcs).length = ds.length * 2 := by
  induction ds with
  | nil => rfl
  | cons d l ih => rw [List.flatMap_cons, List.length_append, ih, List.length_cons]; show 2 + _ = _; omega
theorem dcs_get : ∀ (ds : List (Int × Bool)) (j : Nat) (d : Int × Bool), ds[j]? = some d → (ds.flatMap dcs)[j * 2]? = some (.int .i64 d.1) ∧ (ds.flatMap dcs)[j * 2 + 1]? = some (.bool d.2)
  | [], j, d, h => by simp at h
  | x :: l, 0, d, h => by
    have h : x = d := by simpa using h
    subst h
    exact ⟨rfl, rfl⟩
  | x :: l, j + 1, d, h => by
    obtain ⟨h1, h2⟩ := dcs_get l j d (by simpa using h)
    rw [List.flatMap_cons]
    have e : (dcs x).length = 2 := rfl
    rw [List.getElem?_append_right (by rw [e]; omega), List.getElem?_append_right (by rw [e]; omega), e]
    exact ⟨by rw [← h1]; congr 1; omega, by rw [← h2]; congr 1; omega⟩
theorem Od.len {w : World} {base : Nat} {v : Value} {n : Nat} {ds : List (Int × Bool)} (h : Od w base v n ds) : ds.length = n := by have := h.1; rw [dcs_len] at this; omega
theorem Od.dp {w : World} {base n c : Nat} {A : Option Addr} {ds : List (Int × Bool)} (h : Od w base (.slice A n c) n ds) : Dp w w.heap.size A n c ds := by
  refine ⟨h.len, ?_, ?_, ?_, ?_⟩
  · rcases h.2 with ⟨e, h0⟩ | ⟨g, cap, cur, e, hbg, hg, hnc, hcm, _⟩
    · obtain ⟨rfl, rfl, rfl⟩ := Value.slice.inj e; exact Nat.le_refl _
    · obtain ⟨rfl, _, rfl⟩ := Value.slice.inj e; exact hnc
  · rcases h.2 with ⟨e, h0⟩ | ⟨g, cap, cur, e, hbg, hg, hnc, hcm, _⟩
    · obtain ⟨rfl, rfl, rfl⟩ := Value.slice.inj e; exact Nat.zero_le _
    · obtain ⟨rfl, _, rfl⟩ := Value.slice.inj e; exact hcm
  · rcases h.2 with ⟨e, h0⟩ | ⟨g, cap, cur, e, hbg, hg, hnc, hcm, _⟩
    · obtain ⟨rfl, rfl, rfl⟩ := Value.slice.inj e; exact fun _ => rfl
    · obtain ⟨rfl, _, rfl⟩ := Value.slice.inj e; exact fun h => by simp at h
  · intro hn
    obtain ⟨g, cap, hv, _, hlt⟩ := World.ownsRow.form h hn
    obtain ⟨rfl, _, rfl⟩ := Value.slice.inj hv
    refine ⟨g, 0, rfl, hlt, fun j q hj => ?_⟩
    obtain ⟨h1, h2⟩ := dcs_get ds j q hj
    have c1 := World.ownsRow.cells h (g := g) rfl _ _ h1
    have c2 := World.ownsRow.cells h (g := g) rfl _ _ h2
    rw [add_addr] at c1 c2
    exact ⟨c1, c2⟩
theorem Dp.more {w : World} {B B' : Nat} {A : Option Addr} {n c : Nat} {ds : List (Int × Bool)} (h : Dp w B A n c ds) (hB : B ≤ B') : Dp w B' A n c ds :=
  ⟨h.1, h.2.1, h.2.2.1, h.2.2.2.1, fun hn => by
    obtain ⟨b, off, e, hb, hc⟩ := h.2.2.2.2 hn
    exact ⟨b, off, e, by omega, hc⟩⟩
/-- append of three calls that stand in a literal. -/
theorem run_append3 {w : World} (ty : TypeId) {base : Nat} {v : Value} {n : Nat} {ds : List (Int × Bool)} (p q r : Int × Bool) (hown : Od w base v n ds) (hn : n ≤ 1000) (hbase : base ≤ w.heap.size) :
    ∃ v' w', (Builtin.append_ #[72, 72] ty #[v, .slice (some ⟨w.heap.size, 0, none⟩) 3 3]).run Try.prog (w.alloc (.cells #[.int .i64 p.1, .bool p.2, .int .i64 q.1, .bool q.2, .int .i64 r.1, .bool r.2] 83)) = .ok v' w' ∧ Od w' base v' (n + 3) (ds ++ [p, q, r]) ∧ Below base w w' := by
  obtain ⟨i0, hi, hz0, hz1, hz2⟩ := info_parts info_do
  have hb0 := below_alloc w (.cells #[.int .i64 p.1, .bool p.2, .int .i64 q.1, .bool q.2, .int .i64 r.1, .bool r.2] 83)
  have hown1 := World.ownsRow.alloc hown (.cells #[.int .i64 p.1, .bool p.2, .int .i64 q.1, .bool q.2, .int .i64 r.1, .bool r.2] 83)
  have hv := Vb.new 83 w [.int .i64 p.1, .bool p.2, .int .i64 q.1, .bool q.2, .int .i64 r.1, .bool r.2]
  obtain ⟨v', w', hrun, h2, h3, _, h5⟩ := run_append_own_at (P := Try.prog) _ base 72 ty 83 i0 _ 2 16 Try.underlying72 hi hz0 hz1 hz2 rfl (by omega) v n _ hown1 ⟨w.heap.size, 0, none⟩ 3 3 [.int .i64 p.1, .bool p.2, .int .i64 q.1, .bool q.2, .int .i64 r.1, .bool r.2] rfl (fun j u hu => by
      rw [add_addr, Nat.zero_add]
      exact hv.cell j hu) (by intro u hu; simp at hu; rcases hu with rfl | rfl | rfl | rfl | rfl | rfl <;> rfl) (by unfold maxLen; omega) (by omega) (by have := hb0.size; omega)
  refine ⟨v', w', hrun, ?_, (hb0.mono hbase).grown h3 (by have := hb0.size; omega) fun k hk => (World.ownsRow.lt hown1 k hk).1⟩
  unfold Od
  rw [List.flatMap_append]
  exact h2
/-- Literals, one block behind the other. -/
def litW (w : World) : List (List Int) → World
  | [] => w
  | l :: L => litW (w.alloc (.cells (l.map (Value.int .i64)).toArray 3)) L
theorem litW_below : ∀ (L : List (List Int)) (w : World), Below w.heap.size w (litW w L) ∧ (litW w L).heap.size = w.heap.size + L.length
  | [], w => ⟨Below.refl _ _, rfl⟩
  | l :: L, w => by
    obtain ⟨h1, h2⟩ := litW_below L (w.alloc (.cells (l.map (Value.int .i64)).toArray 3))
    have hb := below_alloc w (.cells (l.map (Value.int .i64)).toArray 3)
    refine ⟨hb.trans (h1.mono hb.size), ?_⟩
    show (litW _ L).heap.size = _
    rw [h2, List.length_cons]
    simp
    omega
theorem litW_rd : ∀ (L : List (List Int)) (w : World) (j : Nat) (l : List Int), L[j]? = some l → l.length ≤ 100 → Rd .i64 (litW w L) (litW w L).heap.size (some ⟨w.heap.size + j, 0, none⟩) l.length l.length l
  | [], w, j, l, h, _ => by simp at h
  | x :: L, w, 0, l, h, hl => by
    have h : x = l := by simpa using h
    subst h
    obtain ⟨h1, h2⟩ := litW_below L (w.alloc (.cells (x.map (Value.int .i64)).toArray 3))
    have hr := rd_lit .i64 w 3 x (by unfold maxLen; omega) (w.heap.size + 1) (by omega)
    exact (hr.below' h1 (by simp)).more (by show _ ≤ (litW _ L).heap.size; rw [h2]; simp)
  | x :: L, w, j + 1, l, h, hl => by
    have := litW_rd L (w.alloc (.cells (x.map (Value.int .i64)).toArray 3)) j l (by simpa using h) hl
    rw [show (w.alloc (.cells (x.map (Value.int .i64)).toArray 3)).heap.size + j = w.heap.size + (j + 1) by simp; omega] at this
    exact this
set_option maxRecDepth 100000 in
set_option maxHeartbeats 16000000 in
theorem groupKnown_any (w : World) : Calls Try.prog 10 #[] w fun e w' => e = .returned (.bool true) ∧ Below w.heap.size w w' := by
  go_enter Try.func10, Try.ntmps10
  go_wp2_with fail
  refine wp_loop_rounds (2 + 1) ?_
  rw [rounds_succ]
  go_wp2_with fail
  refine (gfirst_none (gisNone_nil _)).mono ?_
  rintro e w1 ⟨rfl, rfl⟩
  go_wp2_with fail
  refine (glive_none (gisNone_nil _) 1 true).mono ?_
  rintro e w1 ⟨rfl, rfl⟩
  go_wp2_with fail
  refine (gup_none (gisNone_nil _) 1).mono ?_
  rintro e w1 ⟨rfl, rfl⟩
  go_wp2_with fail
  refine (gports_none (gisNone_nil _)).mono ?_
  rintro e w1 ⟨rfl, rfl⟩
  have hb1 := below_alloc w1 (.cells #[.bool false, .slice none 0 0, .int .u8 0] 92)
  have hv1 := Vb.new 92 w1 [.bool false, .slice none 0 0, .int .u8 0]
  go_wp2_with fail
  rw [rounds_succ]
  generalize w1.alloc (.cells #[.bool false, .slice none 0 0, .int .u8 0] 92) = w2 at *
  have HN := Kp.mk (gisNone_zero hv1)
  clear hv1
  go_wp2_with fail
  refine (gfirst_none (HN.out)).mono ?_
  rintro e wa ⟨rfl, rfl⟩
  go_wp2_with fail
  refine (glive_none (HN.out) 1 true).mono ?_
  rintro e wa ⟨rfl, rfl⟩
  go_wp2_with fail
  refine (gup_none (HN.out) 1).mono ?_
  rintro e wa ⟨rfl, rfl⟩
  go_wp2_with fail
  refine (gports_none (HN.out)).mono ?_
  rintro e wa ⟨rfl, rfl⟩
  have hb2 := hb1.trans ((below_alloc wa (.cells #[.bool false, .slice none 0 0, .int .u8 0] 92)).mono hb1.size)
  clear HN hb1
  go_wp2_with fail
  rw [rounds_succ]
  generalize wa.alloc (.cells #[.bool false, .slice none 0 0, .int .u8 0] 92) = w3 at *
  go_wp2_with fail
  refine wp_loop_rounds (7 + 1) ?_
  have hO : Od w3 w1.heap.size (.slice none 0 0) 0 [] := World.ownsRow_nil w3 w1.heap.size _ 2
  rw [rounds_succ]
  obtain ⟨v1, x1, hrun, hO2, hb3⟩ := run_append3 72 (-1, false) (6, true) (-1, false) hO (by omega) hb2.size
  have hb4 := hb2.trans hb3
  clear hO hb2 hb3
  go_wp2_with (at_builtin; refine Lib.wpList_append_run _ rfl _ _ _ _ rfl _ _ rfl rfl _ _ hrun ?_)
  have hO := hO2
  have hb2 := hb4
  clear hO2 hb4 hrun
  rw [rounds_succ]
  obtain ⟨v2, x2, hrun, hO2, hb3⟩ := run_append3 72 (0, false) (5, true) (0, true) hO (by omega) hb2.size
  have hb4 := hb2.trans hb3
  clear hO hb2 hb3
  go_wp2_with (at_builtin; refine Lib.wpList_append_run _ rfl _ _ _ _ rfl _ _ rfl rfl _ _ hrun ?_)
  have hO := hO2
  have hb2 := hb4
  clear hO2 hb4 hrun
  rw [rounds_succ]
  obtain ⟨v3, x3, hrun, hO2, hb3⟩ := run_append3 72 (1, false) (4, true) (1, false) hO (by omega) hb2.size
  have hb4 := hb2.trans hb3
  clear hO hb2 hb3
  go_wp2_with (at_builtin; refine Lib.wpList_append_run _ rfl _ _ _ _ rfl _ _ rfl rfl _ _ hrun ?_)
  have hO := hO2
  have hb2 := hb4
  clear hO2 hb4 hrun
  rw [rounds_succ]
  obtain ⟨v4, x4, hrun, hO2, hb3⟩ := run_append3 72 (2, false) (3, true) (2, true) hO (by omega) hb2.size
  have hb4 := hb2.trans hb3
  clear hO hb2 hb3
  go_wp2_with (at_builtin; refine Lib.wpList_append_run _ rfl _ _ _ _ rfl _ _ rfl rfl _ _ hrun ?_)
  have hO := hO2
  have hb2 := hb4
  clear hO2 hb4 hrun
  rw [rounds_succ]
  obtain ⟨v5, x5, hrun, hO2, hb3⟩ := run_append3 72 (3, false) (2, true) (3, false) hO (by omega) hb2.size
  have hb4 := hb2.trans hb3
  clear hO hb2 hb3
  go_wp2_with (at_builtin; refine Lib.wpList_append_run _ rfl _ _ _ _ rfl _ _ rfl rfl _ _ hrun ?_)
  have hO := hO2
  have hb2 := hb4
  clear hO2 hb4 hrun
  rw [rounds_succ]
  obtain ⟨v6, x6, hrun, hO2, hb3⟩ := run_append3 72 (4, false) (1, true) (4, true) hO (by omega) hb2.size
  have hb4 := hb2.trans hb3
  clear hO hb2 hb3
  go_wp2_with (at_builtin; refine Lib.wpList_append_run _ rfl _ _ _ _ rfl _ _ rfl rfl _ _ hrun ?_)
  have hO := hO2
  have hb2 := hb4
  clear hO2 hb4 hrun
  rw [rounds_succ]
  obtain ⟨v7, x7, hrun, hO2, hb3⟩ := run_append3 72 (5, false) (0, true) (5, false) hO (by omega) hb2.size
  have hb4 := hb2.trans hb3
  clear hO hb2 hb3
  go_wp2_with (at_builtin; refine Lib.wpList_append_run _ rfl _ _ _ _ rfl _ _ rfl rfl _ _ hrun ?_)
  have hO := hO2
  have hb2 := hb4
  clear hO2 hb4 hrun
  rw [rounds_succ]
  have hn : ∃ ds, Od x7 w1.heap.size v7 21 ds := ⟨_, hO⟩
  clear hO
  obtain ⟨ds, hO⟩ := hn
  obtain ⟨A, c, hv7⟩ : ∃ A c, v7 = .slice A 21 c := by
    rcases hO.2 with ⟨e, h0⟩ | ⟨g, cap, cur, e, _⟩
    · omega
    · exact ⟨_, _, e⟩
  subst hv7
  have hD := hO.dp
  clear hO
  have hz12 := (litW_below [[0], [1], [4], [5], [-1], [1, 2, 3, 4], [4, 3, 2, 1], [2, 4, 2], [1, 2, 3, 4, 1], [65], [4611686018427387904, 1]] x7).2
  have hb12 := (litW_below [[0], [1], [4], [5], [-1], [1, 2, 3, 4], [4, 3, 2, 1], [2, 4, 2], [1, 2, 3, 4, 1], [65], [4611686018427387904, 1]] x7).1
  have hr1 := litW_rd [[0], [1], [4], [5], [-1], [1, 2, 3, 4], [4, 3, 2, 1], [2, 4, 2], [1, 2, 3, 4, 1], [65], [4611686018427387904, 1]] x7 0 [0] rfl (by simp)
  have hr2 := litW_rd [[0], [1], [4], [5], [-1], [1, 2, 3, 4], [4, 3, 2, 1], [2, 4, 2], [1, 2, 3, 4, 1], [65], [4611686018427387904, 1]] x7 1 [1] rfl (by simp)
  have hr3 := litW_rd [[0], [1], [4], [5], [-1], [1, 2, 3, 4], [4, 3, 2, 1], [2, 4, 2], [1, 2, 3, 4, 1], [65], [4611686018427387904, 1]] x7 2 [4] rfl (by simp)
  have hr4 := litW_rd [[0], [1], [4], [5], [-1], [1, 2, 3, 4], [4, 3, 2, 1], [2, 4, 2], [1, 2, 3, 4, 1], [65], [4611686018427387904, 1]] x7 3 [5] rfl (by simp)
  have hr5 := litW_rd [[0], [1], [4], [5], [-1], [1, 2, 3, 4], [4, 3, 2, 1], [2, 4, 2], [1, 2, 3, 4, 1], [65], [4611686018427387904, 1]] x7 4 [-1] rfl (by simp)
  have hr6 := litW_rd [[0], [1], [4], [5], [-1], [1, 2, 3, 4], [4, 3, 2, 1], [2, 4, 2], [1, 2, 3, 4, 1], [65], [4611686018427387904, 1]] x7 5 [1, 2, 3, 4] rfl (by simp)
  have hr7 := litW_rd [[0], [1], [4], [5], [-1], [1, 2, 3, 4], [4, 3, 2, 1], [2, 4, 2], [1, 2, 3, 4, 1], [65], [4611686018427387904, 1]] x7 6 [4, 3, 2, 1] rfl (by simp)
  have hr8 := litW_rd [[0], [1], [4], [5], [-1], [1, 2, 3, 4], [4, 3, 2, 1], [2, 4, 2], [1, 2, 3, 4, 1], [65], [4611686018427387904, 1]] x7 7 [2, 4, 2] rfl (by simp)
  have hr9 := litW_rd [[0], [1], [4], [5], [-1], [1, 2, 3, 4], [4, 3, 2, 1], [2, 4, 2], [1, 2, 3, 4, 1], [65], [4611686018427387904, 1]] x7 8 [1, 2, 3, 4, 1] rfl (by simp)
  have hr10 := litW_rd [[0], [1], [4], [5], [-1], [1, 2, 3, 4], [4, 3, 2, 1], [2, 4, 2], [1, 2, 3, 4, 1], [65], [4611686018427387904, 1]] x7 9 [65] rfl (by simp)
  have hr11 := litW_rd [[0], [1], [4], [5], [-1], [1, 2, 3, 4], [4, 3, 2, 1], [2, 4, 2], [1, 2, 3, 4, 1], [65], [4611686018427387904, 1]] x7 10 [4611686018427387904, 1] rfl (by simp)
  have hD12 := (hD.below hb12).more hb12.size
  have hb13 := hb2.trans (hb12.mono hb2.size)
  clear hb12 hD hb2
  rw [show litW x7 [[0], [1], [4], [5], [-1], [1, 2, 3, 4], [4, 3, 2, 1], [2, 4, 2], [1, 2, 3, 4, 1], [65], [4611686018427387904, 1]] = (((((((((((x7.alloc (.cells #[.int .i64 0] 3)).alloc (.cells #[.int .i64 1] 3)).alloc (.cells #[.int .i64 4] 3)).alloc (.cells #[.int .i64 5] 3)).alloc (.cells #[.int .i64 (-1)] 3)).alloc (.cells #[.int .i64 1, .int .i64 2, .int .i64 3, .int .i64 4] 3)).alloc (.cells #[.int .i64 4, .int .i64 3, .int .i64 2, .int .i64 1] 3)).alloc (.cells #[.int .i64 2, .int .i64 4, .int .i64 2] 3)).alloc (.cells #[.int .i64 1, .int .i64 2, .int .i64 3, .int .i64 4, .int .i64 1] 3)).alloc (.cells #[.int .i64 65] 3)).alloc (.cells #[.int .i64 4611686018427387904, .int .i64 1] 3)) from rfl] at *
  have hbr := below_alloc (((((((((((x7.alloc (.cells #[.int .i64 0] 3)).alloc (.cells #[.int .i64 1] 3)).alloc (.cells #[.int .i64 4] 3)).alloc (.cells #[.int .i64 5] 3)).alloc (.cells #[.int .i64 (-1)] 3)).alloc (.cells #[.int .i64 1, .int .i64 2, .int .i64 3, .int .i64 4] 3)).alloc (.cells #[.int .i64 4, .int .i64 3, .int .i64 2, .int .i64 1] 3)).alloc (.cells #[.int .i64 2, .int .i64 4, .int .i64 2] 3)).alloc (.cells #[.int .i64 1, .int .i64 2, .int .i64 3, .int .i64 4, .int .i64 1] 3)).alloc (.cells #[.int .i64 65] 3)).alloc (.cells #[.int .i64 4611686018427387904, .int .i64 1] 3)) (.cells #[.slice none 0 0, .slice (some ⟨x7.heap.size, 0, none⟩) 1 1, .slice (some ⟨x7.heap.size + 1, 0, none⟩) 1 1, .slice (some ⟨x7.heap.size + 2, 0, none⟩) 1 1, .slice (some ⟨x7.heap.size + 3, 0, none⟩) 1 1, .slice (some ⟨x7.heap.size + 4, 0, none⟩) 1 1, .slice (some ⟨x7.heap.size + 5, 0, none⟩) 4 4, .slice (some ⟨x7.heap.size + 6, 0, none⟩) 4 4, .slice (some ⟨x7.heap.size + 7, 0, none⟩) 3 3, .slice (some ⟨x7.heap.size + 8, 0, none⟩) 5 5, .slice (some ⟨x7.heap.size + 9, 0, none⟩) 1 1, .slice (some ⟨x7.heap.size + 10, 0, none⟩) 2 2] 71)
  have hv := Vb.new 71 (((((((((((x7.alloc (.cells #[.int .i64 0] 3)).alloc (.cells #[.int .i64 1] 3)).alloc (.cells #[.int .i64 4] 3)).alloc (.cells #[.int .i64 5] 3)).alloc (.cells #[.int .i64 (-1)] 3)).alloc (.cells #[.int .i64 1, .int .i64 2, .int .i64 3, .int .i64 4] 3)).alloc (.cells #[.int .i64 4, .int .i64 3, .int .i64 2, .int .i64 1] 3)).alloc (.cells #[.int .i64 2, .int .i64 4, .int .i64 2] 3)).alloc (.cells #[.int .i64 1, .int .i64 2, .int .i64 3, .int .i64 4, .int .i64 1] 3)).alloc (.cells #[.int .i64 65] 3)).alloc (.cells #[.int .i64 4611686018427387904, .int .i64 1] 3)) [.slice none 0 0, .slice (some ⟨x7.heap.size, 0, none⟩) 1 1, .slice (some ⟨x7.heap.size + 1, 0, none⟩) 1 1, .slice (some ⟨x7.heap.size + 2, 0, none⟩) 1 1, .slice (some ⟨x7.heap.size + 3, 0, none⟩) 1 1, .slice (some ⟨x7.heap.size + 4, 0, none⟩) 1 1, .slice (some ⟨x7.heap.size + 5, 0, none⟩) 4 4, .slice (some ⟨x7.heap.size + 6, 0, none⟩) 4 4, .slice (some ⟨x7.heap.size + 7, 0, none⟩) 3 3, .slice (some ⟨x7.heap.size + 8, 0, none⟩) 5 5, .slice (some ⟨x7.heap.size + 9, 0, none⟩) 1 1, .slice (some ⟨x7.heap.size + 10, 0, none⟩) 2 2]
  rw [show (((((((((((x7.alloc (.cells #[.int .i64 0] 3)).alloc (.cells #[.int .i64 1] 3)).alloc (.cells #[.int .i64 4] 3)).alloc (.cells #[.int .i64 5] 3)).alloc (.cells #[.int .i64 (-1)] 3)).alloc (.cells #[.int .i64 1, .int .i64 2, .int .i64 3, .int .i64 4] 3)).alloc (.cells #[.int .i64 4, .int .i64 3, .int .i64 2, .int .i64 1] 3)).alloc (.cells #[.int .i64 2, .int .i64 4, .int .i64 2] 3)).alloc (.cells #[.int .i64 1, .int .i64 2, .int .i64 3, .int .i64 4, .int .i64 1] 3)).alloc (.cells #[.int .i64 65] 3)).alloc (.cells #[.int .i64 4611686018427387904, .int .i64 1] 3)).heap.size = x7.heap.size + 11 by simp] at *
  replace hr1 := hr1.below hbr
  replace hr2 := hr2.below hbr
  replace hr3 := hr3.below hbr
  replace hr4 := hr4.below hbr
  replace hr5 := hr5.below hbr
  replace hr6 := hr6.below hbr
  replace hr7 := hr7.below hbr
  replace hr8 := hr8.below hbr
  replace hr9 := hr9.below hbr
  replace hr10 := hr10.below hbr
  replace hr11 := hr11.below hbr
  replace hD12 := hD12.below hbr
  have hb14 := hb13.trans (hbr.mono (by have := hb13.size; simp at this; omega))
  clear hbr hb13
  go_upto_region 15 with fail
  generalize ((((((((((((x7.alloc (.cells #[.int .i64 0] 3)).alloc (.cells #[.int .i64 1] 3)).alloc (.cells #[.int .i64 4] 3)).alloc (.cells #[.int .i64 5] 3)).alloc (.cells #[.int .i64 (-1)] 3)).alloc (.cells #[.int .i64 1, .int .i64 2, .int .i64 3, .int .i64 4] 3)).alloc (.cells #[.int .i64 4, .int .i64 3, .int .i64 2, .int .i64 1] 3)).alloc (.cells #[.int .i64 2, .int .i64 4, .int .i64 2] 3)).alloc (.cells #[.int .i64 1, .int .i64 2, .int .i64 3, .int .i64 4, .int .i64 1] 3)).alloc (.cells #[.int .i64 65] 3)).alloc (.cells #[.int .i64 4611686018427387904, .int .i64 1] 3)).alloc (.cells #[.slice none 0 0, .slice (some ⟨x7.heap.size, 0, none⟩) 1 1, .slice (some ⟨x7.heap.size + 1, 0, none⟩) 1 1, .slice (some ⟨x7.heap.size + 2, 0, none⟩) 1 1, .slice (some ⟨x7.heap.size + 3, 0, none⟩) 1 1, .slice (some ⟨x7.heap.size + 4, 0, none⟩) 1 1, .slice (some ⟨x7.heap.size + 5, 0, none⟩) 4 4, .slice (some ⟨x7.heap.size + 6, 0, none⟩) 4 4, .slice (some ⟨x7.heap.size + 7, 0, none⟩) 3 3, .slice (some ⟨x7.heap.size + 8, 0, none⟩) 5 5, .slice (some ⟨x7.heap.size + 9, 0, none⟩) 1 1, .slice (some ⟨x7.heap.size + 10, 0, none⟩) 2 2] 71)) = y0 at *
  have HBY := Kp.mk hb14.size
  clear hz12
  generalize x7.heap.size = xs at *
  go_wp2_with fail
  refine wp_loop_rounds (12 + 1) ?_
  have hbz := Below.refl y0.heap.size y0
  have HLT := Kp.mk hv.lt
  rw [rounds_succ]
  have c := (hv.below hbz hv.lt).cell 0 rfl
  have hp := groupPlays_any (Rd.nil .i64 y0 y0.heap.size) ((hD12.below' hbz (by have := HLT.out; omega)).more (by have := hbz.size; have := HLT.out; omega))
  go_wp2_with (refine hp.mono ?_; rintro e y1 ⟨rfl, hb⟩)
  replace hbz := hbz.trans (hb.mono hbz.size)
  clear hb c hp
  rw [rounds_succ]
  have c := (hv.below hbz hv.lt).cell 1 rfl
  have hp := groupPlays_any ((hr1.below' hbz (by have := HLT.out; omega)).more (by have := hbz.size; have := HLT.out; omega)) ((hD12.below' hbz (by have := HLT.out; omega)).more (by have := hbz.size; have := HLT.out; omega))
  go_wp2_with (refine hp.mono ?_; rintro e y2 ⟨rfl, hb⟩)
  replace hbz := hbz.trans (hb.mono hbz.size)
  clear hb c hp
  rw [rounds_succ]
  have c := (hv.below hbz hv.lt).cell 2 rfl
  have hp := groupPlays_any ((hr2.below' hbz (by have := HLT.out; omega)).more (by have := hbz.size; have := HLT.out; omega)) ((hD12.below' hbz (by have := HLT.out; omega)).more (by have := hbz.size; have := HLT.out; omega))
  go_wp2_with (refine hp.mono ?_; rintro e y3 ⟨rfl, hb⟩)
  replace hbz := hbz.trans (hb.mono hbz.size)
  clear hb c hp
  rw [rounds_succ]
  have c := (hv.below hbz hv.lt).cell 3 rfl
  have hp := groupPlays_any ((hr3.below' hbz (by have := HLT.out; omega)).more (by have := hbz.size; have := HLT.out; omega)) ((hD12.below' hbz (by have := HLT.out; omega)).more (by have := hbz.size; have := HLT.out; omega))
  go_wp2_with (refine hp.mono ?_; rintro e y4 ⟨rfl, hb⟩)
  replace hbz := hbz.trans (hb.mono hbz.size)
  clear hb c hp
  rw [rounds_succ]
  have c := (hv.below hbz hv.lt).cell 4 rfl
  have hp := groupPlays_any ((hr4.below' hbz (by have := HLT.out; omega)).more (by have := hbz.size; have := HLT.out; omega)) ((hD12.below' hbz (by have := HLT.out; omega)).more (by have := hbz.size; have := HLT.out; omega))
  go_wp2_with (refine hp.mono ?_; rintro e y5 ⟨rfl, hb⟩)
  replace hbz := hbz.trans (hb.mono hbz.size)
  clear hb c hp
  rw [rounds_succ]
  have c := (hv.below hbz hv.lt).cell 5 rfl
  have hp := groupPlays_any ((hr5.below' hbz (by have := HLT.out; omega)).more (by have := hbz.size; have := HLT.out; omega)) ((hD12.below' hbz (by have := HLT.out; omega)).more (by have := hbz.size; have := HLT.out; omega))
  go_wp2_with (refine hp.mono ?_; rintro e y6 ⟨rfl, hb⟩)
  replace hbz := hbz.trans (hb.mono hbz.size)
  clear hb c hp
  rw [rounds_succ]
  have c := (hv.below hbz hv.lt).cell 6 rfl
  have hp := groupPlays_any ((hr6.below' hbz (by have := HLT.out; omega)).more (by have := hbz.size; have := HLT.out; omega)) ((hD12.below' hbz (by have := HLT.out; omega)).more (by have := hbz.size; have := HLT.out; omega))
  go_wp2_with (refine hp.mono ?_; rintro e y7 ⟨rfl, hb⟩)
  replace hbz := hbz.trans (hb.mono hbz.size)
  clear hb c hp
  rw [rounds_succ]
  have c := (hv.below hbz hv.lt).cell 7 rfl
  have hp := groupPlays_any ((hr7.below' hbz (by have := HLT.out; omega)).more (by have := hbz.size; have := HLT.out; omega)) ((hD12.below' hbz (by have := HLT.out; omega)).more (by have := hbz.size; have := HLT.out; omega))
  go_wp2_with (refine hp.mono ?_; rintro e y8 ⟨rfl, hb⟩)
  replace hbz := hbz.trans (hb.mono hbz.size)
  clear hb c hp
  rw [rounds_succ]
  have c := (hv.below hbz hv.lt).cell 8 rfl
  have hp := groupPlays_any ((hr8.below' hbz (by have := HLT.out; omega)).more (by have := hbz.size; have := HLT.out; omega)) ((hD12.below' hbz (by have := HLT.out; omega)).more (by have := hbz.size; have := HLT.out; omega))
  go_wp2_with (refine hp.mono ?_; rintro e y9 ⟨rfl, hb⟩)
  replace hbz := hbz.trans (hb.mono hbz.size)
  clear hb c hp
  rw [rounds_succ]
  have c := (hv.below hbz hv.lt).cell 9 rfl
  have hp := groupPlays_any ((hr9.below' hbz (by have := HLT.out; omega)).more (by have := hbz.size; have := HLT.out; omega)) ((hD12.below' hbz (by have := HLT.out; omega)).more (by have := hbz.size; have := HLT.out; omega))
  go_wp2_with (refine hp.mono ?_; rintro e y10 ⟨rfl, hb⟩)
  replace hbz := hbz.trans (hb.mono hbz.size)
  clear hb c hp
  rw [rounds_succ]
  have c := (hv.below hbz hv.lt).cell 10 rfl
  have hp := groupPlays_any ((hr10.below' hbz (by have := HLT.out; omega)).more (by have := hbz.size; have := HLT.out; omega)) ((hD12.below' hbz (by have := HLT.out; omega)).more (by have := hbz.size; have := HLT.out; omega))
  go_wp2_with (refine hp.mono ?_; rintro e y11 ⟨rfl, hb⟩)
  replace hbz := hbz.trans (hb.mono hbz.size)
  clear hb c hp
  rw [rounds_succ]
  have c := (hv.below hbz hv.lt).cell 11 rfl
  have hp := groupPlays_any ((hr11.below' hbz (by have := HLT.out; omega)).more (by have := hbz.size; have := HLT.out; omega)) ((hD12.below' hbz (by have := HLT.out; omega)).more (by have := hbz.size; have := HLT.out; omega))
  go_wp2_with (refine hp.mono ?_; rintro e y12 ⟨rfl, hb⟩)
  replace hbz := hbz.trans (hb.mono hbz.size)
  clear hb c hp
  rw [rounds_succ]
  have hw := gworks_any y12
  go_wp2_with (refine hw.mono ?_; rintro e z ⟨rfl, hb⟩)
  go_ret
  exact ⟨rfl, hb14.trans ((hbz.trans (hb.mono hbz.size)).mono HBY.out)⟩
end Go.Proofs.Ytlambnlehomkdaa.Oct
