/- The law's own segment that may be, made of any. -/
import Derived.Test.YtbniefgfiafaoaaSegS
import Derived.Test.YtbniefgfiafaoaaBring
import Derived.Test.YtbniefgfiafaoaaRgn
import Derived.StillTailTactics
import Derived.Deep.Cut
namespace Go.Proofs.Ytbniefgfiafaoaa.Oct
open Go.RowKit
set_option linter.unusedVariables false
set_option linter.unusedSimpArgs false

theorem still_bring (n m : Int) (w : World) (hm : 0 < m) (hm' : m ≤ 4294967296) :
    Calls Try.prog 23 #[.int .i64 n, .int .i64 m] w.drew fun e w'' => e = .returned (.int .i64 (Ser.bringP n m)) ∧ w'' = w.drew :=
  (Ser.bring_any n m w.drew hm hm').mono (fun _ _ ⟨h1, h2⟩ => ⟨h1, h2.symm⟩)
/-- append of bytes to the call's own, as an operation alone. -/
theorem op_append8 {w : World} {o : Oper} {a : Act} {K : Act → World → Prop} {Q : Exit → Act → World → Prop} (s x : Operand)
    (ho : o.op = .call { callee := .builtin .append, args := #[s, x], argTypes := #[22, 22] })
    {base B : Nat} {v : Value} {n m c : Nat} {A : Option Addr} {l l2 : List Int} (hs : a.eval s = v) (hown : Own w base v n l) (hx : a.eval x = .slice A m c) (hr : Rd .u8 w B A m c l2)
    (hsz : n + m ≤ 140737488355328) (hbase : base ≤ w.heap.size)
    (h : ∀ A' c' w', Own w' base (.slice A' (n + m) c') (n + m) (l ++ l2) → Below base w w' → K (a.put o.dst (.slice A' (n + m) c')) w') : o.wp Try.prog a w K Q := by
  obtain ⟨A', c', w', hrun, h2, h3⟩ := run_append8 (w := w) o.type hown hr hsz hbase
  unfold Oper.wp execOp
  simp only [ho, resolve, invoke, builtin, Sem.run_bind, Sem.run_pure, Result.andThen_ok, List.map_toArray, List.map_cons, List.map_nil, hs, hx, hrun]
  exact h A' c' w' h2 h3

/-- A segment alone is answered: one that may be; only new memory, and the message in new memory alone. -/
def MadeOf (w : World) (en : Ending) (w' : World) : Prop :=
  ∃ (k t f h p o s a : Int) (b : List Int) (A : Option Addr) (n c : Nat), en = .returned (.agg #[.int .i64 k, .int .i64 t, .int .i64 f, .int .i64 h, .int .i64 p, .int .i64 o, .int .i64 s, .int .i64 a, .slice A n c]) ∧ Own w' w.heap.size (.slice A n c) n b ∧ okS k t f h p o s a b.length ∧ By b ∧ Below w.heap.size w w'
/-- Three segments lie in blocks: the parameter, the answer, the one that is made. -/
def Three (w : World) (g : Nat) (vs : List Int) (m : Value) (us : List Int) (mo : Value) (B : Nat) (w0 : World) : Prop :=
  (Sg w w0.heap.size vs m ∧ Sg w (w0.heap.size + 1) [0, 0, 0, 0, 0, 0, 0, 0] (.slice none 0 0)) ∧ Sg w g us mo ∧ w0.heap.size + 1 < g ∧ Below w0.heap.size w0 w
theorem Three.set {w w0 : World} {g B : Nat} {vs us : List Int} {m mo : Value} (h : Three w g vs m us mo B w0) (j : Nat) (hj : j < us.length) (x : Int) : Three (w.setCell ⟨g, j, none⟩ (.int .i64 x)) g vs m (us.set j x) mo B w0 := by
  obtain ⟨⟨h1, h2⟩, h3, h4, h5⟩ := h
  have hg := grownBy_set w g j (.int .i64 x)
  exact ⟨⟨h1.grown hg (by omega), h2.grown hg (by omega)⟩, h3.set j hj x, h4, h5.setCell (by simp; omega) _⟩
theorem Three.step {w w1 w0 : World} {g B : Nat} {vs us : List Int} {m mo : Value} (h : Three w g vs m us mo B w0) (hb : Below w.heap.size w w1) : Three w1 g vs m us mo B w0 :=
  ⟨⟨h.1.1.below hb h.1.1.lt, h.1.2.below hb h.1.2.lt⟩, h.2.1.below hb h.2.1.lt, h.2.2.1, h.2.2.2.trans (hb.mono h.2.2.2.size)⟩
theorem Three.low {w w1 w0 : World} {g B D : Nat} {vs us : List Int} {m mo : Value} (h : Three w g vs m us mo B w0) (hb : Below D w w1) (hD : g < D) : Three w1 g vs m us mo B w0 := by
  obtain ⟨⟨h1, h2⟩, h3, h4, h5⟩ := h
  exact ⟨⟨h1.below hb (by omega), h2.below hb (by omega)⟩, h3.below hb hD, h4, h5.trans (hb.mono (by omega))⟩
theorem Three.setMsg {w w0 : World} {g B : Nat} {vs us : List Int} {m mo : Value} (h : Three w g vs m us mo B w0) (m' : Value) : Three (w.setCell ⟨g, us.length, none⟩ m') g vs m us m' B w0 := by
  obtain ⟨⟨h1, h2⟩, h3, h4, h5⟩ := h
  have hg := grownBy_set w g us.length m'
  exact ⟨⟨h1.grown hg (by omega), h2.grown hg (by omega)⟩, h3.setMsg m', h4, h5.setCell (by simp; omega) _⟩

set_option maxRecDepth 100000 in
set_option maxHeartbeats 16000000 in
theorem made_any (k t f h p o s a : Int) (A : Option Addr) (n c B : Nat) (l : List Int) (w : World) (hr : Rd .u8 w B A n c l) (hB : B ≤ w.heap.size) (hl : By l) :
    Calls Try.prog 21 #[.agg #[.int .i64 k, .int .i64 t, .int .i64 f, .int .i64 h, .int .i64 p, .int .i64 o, .int .i64 s, .int .i64 a, .slice A n c]] w (MadeOf w) := by
  obtain ⟨hk1, hk2⟩ := Ser.bringP_bd k 5 (by omega)
  obtain ⟨hh1, hh2⟩ := Ser.bringP_bd h 13 (by omega)
  obtain ⟨ht1, ht2⟩ := Ser.bringP_bd t 6 (by omega)
  obtain ⟨hp1, hp2⟩ := Ser.bringP_bd p 4294967295 (by omega)
  obtain ⟨ho1, ho2⟩ := Ser.bringP_bd o 4294967296 (by omega)
  obtain ⟨hs1, hs2⟩ := Ser.bringP_bd s 65536 (by omega)
  obtain ⟨ha1, ha2⟩ := Ser.bringP_bd a 65536 (by omega)
  go_enter Try.func21, Try.ntmps21
  go_upto_region 1 with fail
  have t0 := below_two w (.cells #[.int .i64 k, .int .i64 t, .int .i64 f, .int .i64 h, .int .i64 p, .int .i64 o, .int .i64 s, .int .i64 a, .slice A n c] 24) (.cells #[.int .i64 0, .int .i64 0, .int .i64 0, .int .i64 0, .int .i64 0, .int .i64 0, .int .i64 0, .int .i64 0, .slice none 0 0] 24)
  have hx0 : Sg ((w.alloc (.cells #[.int .i64 k, .int .i64 t, .int .i64 f, .int .i64 h, .int .i64 p, .int .i64 o, .int .i64 s, .int .i64 a, .slice A n c] 24)).alloc (.cells #[.int .i64 0, .int .i64 0, .int .i64 0, .int .i64 0, .int .i64 0, .int .i64 0, .int .i64 0, .int .i64 0, .slice none 0 0] 24)) w.heap.size [k, t, f, h, p, o, s, a] (.slice A n c) := (Sg.new w [k, t, f, h, p, o, s, a] (.slice A n c)).alloc _
  have hr0 : Sg ((w.alloc (.cells #[.int .i64 k, .int .i64 t, .int .i64 f, .int .i64 h, .int .i64 p, .int .i64 o, .int .i64 s, .int .i64 a, .slice A n c] 24)).alloc (.cells #[.int .i64 0, .int .i64 0, .int .i64 0, .int .i64 0, .int .i64 0, .int .i64 0, .int .i64 0, .int .i64 0, .slice none 0 0] 24)) (w.alloc (.cells #[.int .i64 k, .int .i64 t, .int .i64 f, .int .i64 h, .int .i64 p, .int .i64 o, .int .i64 s, .int .i64 a, .slice A n c] 24)).heap.size [0, 0, 0, 0, 0, 0, 0, 0] (.slice none 0 0) := Sg.new (w.alloc (.cells #[.int .i64 k, .int .i64 t, .int .i64 f, .int .i64 h, .int .i64 p, .int .i64 o, .int .i64 s, .int .i64 a, .slice A n c] 24)) [0, 0, 0, 0, 0, 0, 0, 0] (.slice none 0 0)
  rw [alloc_size] at hr0
  have hz0 : ((w.alloc (.cells #[.int .i64 k, .int .i64 t, .int .i64 f, .int .i64 h, .int .i64 p, .int .i64 o, .int .i64 s, .int .i64 a, .slice A n c] 24)).alloc (.cells #[.int .i64 0, .int .i64 0, .int .i64 0, .int .i64 0, .int .i64 0, .int .i64 0, .int .i64 0, .int .i64 0, .slice none 0 0] 24)).heap.size = w.heap.size + 2 := by simp
  generalize ((w.alloc (.cells #[.int .i64 k, .int .i64 t, .int .i64 f, .int .i64 h, .int .i64 p, .int .i64 o, .int .i64 s, .int .i64 a, .slice A n c] 24)).alloc (.cells #[.int .i64 0, .int .i64 0, .int .i64 0, .int .i64 0, .int .i64 0, .int .i64 0, .int .i64 0, .int .i64 0, .slice none 0 0] 24)) = w1 at *
  have hS : Two w1 w.heap.size (w.heap.size + 1) [k, t, f, h, p, o, s, a] (.slice A n c) [0, 0, 0, 0, 0, 0, 0, 0] (.slice none 0 0) w1.drew := ⟨⟨hx0, hr0⟩, (Below.refl w1.heap.size w1).drew⟩
  have hzd : w1.drew.heap.size = w.heap.size + 2 := hz0
  have hTd : Below w.heap.size w w1.drew := t0.drew
  clear hx0 hr0 t0
  go_cut [3] from 6 (fun v wx => v = .pointer (some ⟨w.heap.size + 2, 0, none⟩) ∧ Three wx (w.heap.size + 2) [k, t, f, h, p, o, s, a] (.slice A n c) [1 + Ser.bringP k 5, 0, 0, Ser.bringP h 13, 0, 0, 0, 0] (.slice none 0 0) B w)
  case first =>
    refine wp_region_held_drew (S := Two w1 w.heap.size (w.heap.size + 1) [k, t, f, h, p, o, s, a] (.slice A n c) [0, 0, 0, 0, 0, 0, 0, 0] (.slice none 0 0)) (by kernel_rfl) hS (fun _ => ?_)
    refine takeD (i := 0) (v := .pointer (some ⟨w.heap.size, 0, none⟩)) (some 6) rfl rfl (by kernel_rfl) (by kernel_rfl) (by kernel_rfl) (fun _ _ _ h => h) (Or.inl ⟨by rfl, ?_⟩) hS ?_
    · rintro w' _
      go_simp
    try simp only [Act.put, List.setIfInBounds_toArray, List.set_cons_zero, List.set_cons_succ]
    refine takeD (i := 1) (v := .int .i64 k) (some 7) rfl rfl (by kernel_rfl) (by kernel_rfl) (by kernel_rfl) (fun _ _ _ h => h) (Or.inl ⟨by rfl, ?_⟩) hS ?_
    · rintro w' ⟨⟨s1, s2⟩, s3⟩
      obtain ⟨d0, d1, d2, d3, d4, d5, d6, d7, d8⟩ := s1.nine
      go_simp
    try simp only [Act.put, List.setIfInBounds_toArray, List.set_cons_zero, List.set_cons_succ]
    refine takeD (i := 4) (v := .pointer (some ⟨w.heap.size, 3, none⟩)) (some 10) rfl rfl (by kernel_rfl) (by kernel_rfl) (by kernel_rfl) (fun _ _ _ h => h) (Or.inl ⟨by rfl, ?_⟩) hS ?_
    · rintro w' _
      go_simp
    try simp only [Act.put, List.setIfInBounds_toArray, List.set_cons_zero, List.set_cons_succ]
    refine takeD (i := 5) (v := .int .i64 h) (some 11) rfl rfl (by kernel_rfl) (by kernel_rfl) (by kernel_rfl) (fun _ _ _ h => h) (Or.inl ⟨by rfl, ?_⟩) hS ?_
    · rintro w' ⟨⟨s1, s2⟩, s3⟩
      obtain ⟨d0, d1, d2, d3, d4, d5, d6, d7, d8⟩ := s1.nine
      go_simp
    try simp only [Act.put, List.setIfInBounds_toArray, List.set_cons_zero, List.set_cons_succ]
    refine wpAnyH_ready (rs := [2, 8]) (by kernel_rfl) (by simp) ?_
    refine AllReadyH.cons rfl (fun K hK => ?_) (AllReadyH.cons rfl (fun K hK => ?_) (AllReadyH.nil))
    · go_simp
      go_at_call 23
      refine (Ser.bring_any _ _ _ (by omega) (by omega)).mono ?_
      rintro e w' ⟨rfl, rfl⟩
      refine hK.out _ _ hS (fun _ => ?_)
      clear hK K
      try simp only [Act.put, List.setIfInBounds_toArray, List.set_cons_zero, List.set_cons_succ]
      refine takeD (i := 3) (v := .int .i64 (1 + Ser.bringP k 5)) (some 9) rfl rfl (by kernel_rfl) (by kernel_rfl) (by kernel_rfl) (fun _ _ _ h => h) (Or.inl ⟨by rfl, ?_⟩) hS ?_
      · rintro w' _
        go_simp
        first | done | (rw [IntKind.wrap_i64]; omega)
      try simp only [Act.put, List.setIfInBounds_toArray, List.set_cons_zero, List.set_cons_succ]
      refine wpAnyH_ready (rs := [6, 8]) (by kernel_rfl) (by simp) ?_
      refine AllReadyH.cons rfl (fun K hK => ?_) (AllReadyH.cons rfl (fun K hK => ?_) (AllReadyH.nil))
      · go_simp
        go_at_call 23
        refine (Ser.bring_any _ _ _ (by omega) (by omega)).mono ?_
        rintro e w' ⟨rfl, rfl⟩
        refine hK.out _ _ hS (fun _ => ?_)
        clear hK K
        try simp only [Act.put, List.setIfInBounds_toArray, List.set_cons_zero, List.set_cons_succ]
        refine takeD (i := 7) (v := .agg #[.int .i64 (1 + Ser.bringP k 5), .int .i64 0, .int .i64 0, .int .i64 (Ser.bringP h 13), .int .i64 0, .int .i64 0, .int .i64 0, .int .i64 0, .slice none 0 0]) (some 13) rfl rfl (by kernel_rfl) (by kernel_rfl) (by kernel_rfl) (fun _ _ _ h => h) (Or.inl ⟨by rfl, ?_⟩) hS ?_
        · rintro w' _
          go_simp
        try simp only [Act.put, List.setIfInBounds_toArray, List.set_cons_zero, List.set_cons_succ]
        refine wpAnyH_ready (rs := [8]) (by kernel_rfl) (by simp) ?_
        refine AllReadyH.cons rfl (fun K hK => ?_) (AllReadyH.nil)
        go_simp
        refine hK.out _ _ (hS.step (below_alloc w1.drew (.cells #[.int .i64 0, .int .i64 0, .int .i64 0, .int .i64 0, .int .i64 0, .int .i64 0, .int .i64 0, .int .i64 0, .slice none 0 0] 24))) (fun hS8 => ?_)
        clear hK K
        try simp only [Act.put, List.setIfInBounds_toArray, List.set_cons_zero, List.set_cons_succ]
        have h3 : Sg (w1.alloc (.cells #[.int .i64 0, .int .i64 0, .int .i64 0, .int .i64 0, .int .i64 0, .int .i64 0, .int .i64 0, .int .i64 0, .slice none 0 0] 24)) w1.heap.size [0, 0, 0, 0, 0, 0, 0, 0] (.slice none 0 0) := Sg.new w1 [0, 0, 0, 0, 0, 0, 0, 0] (.slice none 0 0)
        rw [hz0] at h3
        replace h3 : Sg ((w1.alloc (.cells #[.int .i64 0, .int .i64 0, .int .i64 0, .int .i64 0, .int .i64 0, .int .i64 0, .int .i64 0, .int .i64 0, .slice none 0 0] 24)).drew) (w.heap.size + 2) [0, 0, 0, 0, 0, 0, 0, 0] (.slice none 0 0) := h3
        have hT3 : Below w.heap.size w ((w1.alloc (.cells #[.int .i64 0, .int .i64 0, .int .i64 0, .int .i64 0, .int .i64 0, .int .i64 0, .int .i64 0, .int .i64 0, .slice none 0 0] 24)).drew) := hTd.trans ((below_alloc w1.drew (.cells #[.int .i64 0, .int .i64 0, .int .i64 0, .int .i64 0, .int .i64 0, .int .i64 0, .int .i64 0, .int .i64 0, .slice none 0 0] 24)).mono (by omega))
        generalize ((w1.alloc (.cells #[.int .i64 0, .int .i64 0, .int .i64 0, .int .i64 0, .int .i64 0, .int .i64 0, .int .i64 0, .int .i64 0, .slice none 0 0] 24)).drew) = w2 at *
        obtain ⟨a0, a1, a2, a3, a4, a5, a6, a7, a8⟩ := h3.nine
        have hf := h3.free
        refine wpAnyH_ready (rs := [9]) (by kernel_rfl) (by simp) ?_
        refine AllReadyH.cons rfl (fun K hK => ?_) AllReadyH.nil
        go_simp
        have hg := putS_grown w2 (w.heap.size + 2) (1 + Ser.bringP k 5) 0 0 (Ser.bringP h 13) 0 0 0 0 (.slice none 0 0)
        have hput := h3.put (k' := 1 + Ser.bringP k 5) (t' := 0) (f' := 0) (h' := Ser.bringP h 13) (p' := 0) (o' := 0) (s' := 0) (a' := 0) (m' := .slice none 0 0)
        have hTp := putS_below (g := w.heap.size + 2) hT3 (by omega) (1 + Ser.bringP k 5) 0 0 (Ser.bringP h 13) 0 0 0 0 (.slice none 0 0)
        obtain ⟨⟨s1, s2⟩, s3⟩ := hS8
        replace s1 := s1.grown hg (by omega)
        replace s2 := s2.grown hg (by omega)
        have s4 := putS_below (g := w.heap.size + 2) s3 (by omega) (1 + Ser.bringP k 5) 0 0 (Ser.bringP h 13) 0 0 0 0 (.slice none 0 0)
        clear a0 a1 a2 a3 a4 a5 a6 a7 a8 hf h3 hg s3
        change K _ (putS w2 (w.heap.size + 2) (1 + Ser.bringP k 5) 0 0 (Ser.bringP h 13) 0 0 0 0 (.slice none 0 0))
        generalize (putS w2 (w.heap.size + 2) (1 + Ser.bringP k 5) 0 0 (Ser.bringP h 13) 0 0 0 0 (.slice none 0 0)) = w3 at *
        refine hK.out _ _ ⟨⟨s1, s2⟩, s4⟩ (fun _ => ?_)
        clear hK K
        try simp only [Act.put, List.setIfInBounds_toArray, List.set_cons_zero, List.set_cons_succ]
        refine wpAnyH_done (by kernel_rfl) ?_ _
        go_wp2_with fail
        go_meet
        case rel => exact ⟨rfl, ⟨s1, s2⟩, hput, by omega, hTp⟩
      · go_simp
        refine hK.out _ _ (hS.step (below_alloc w1.drew (.cells #[.int .i64 0, .int .i64 0, .int .i64 0, .int .i64 0, .int .i64 0, .int .i64 0, .int .i64 0, .int .i64 0, .slice none 0 0] 24))) (fun hS8 => ?_)
        clear hK K
        try simp only [Act.put, List.setIfInBounds_toArray, List.set_cons_zero, List.set_cons_succ]
        refine wpAnyH_ready (rs := [6]) (by kernel_rfl) (by simp) ?_
        refine AllReadyH.cons rfl (fun K hK => ?_) (AllReadyH.nil)
        go_simp
        go_at_call 23
        refine (Ser.bring_any _ _ _ (by omega) (by omega)).mono ?_
        rintro e w' ⟨rfl, rfl⟩
        refine hK.out _ _ hS8 (fun _ => ?_)
        clear hK K
        try simp only [Act.put, List.setIfInBounds_toArray, List.set_cons_zero, List.set_cons_succ]
        refine takeD (i := 7) (v := .agg #[.int .i64 (1 + Ser.bringP k 5), .int .i64 0, .int .i64 0, .int .i64 (Ser.bringP h 13), .int .i64 0, .int .i64 0, .int .i64 0, .int .i64 0, .slice none 0 0]) (some 13) rfl rfl (by kernel_rfl) (by kernel_rfl) (by kernel_rfl) (fun _ _ _ h => h) (Or.inl ⟨by rfl, ?_⟩) hS8 ?_
        · rintro w' _
          go_simp
        try simp only [Act.put, List.setIfInBounds_toArray, List.set_cons_zero, List.set_cons_succ]
        have h3 : Sg (w1.alloc (.cells #[.int .i64 0, .int .i64 0, .int .i64 0, .int .i64 0, .int .i64 0, .int .i64 0, .int .i64 0, .int .i64 0, .slice none 0 0] 24)) w1.heap.size [0, 0, 0, 0, 0, 0, 0, 0] (.slice none 0 0) := Sg.new w1 [0, 0, 0, 0, 0, 0, 0, 0] (.slice none 0 0)
        rw [hz0] at h3
        replace h3 : Sg ((w1.alloc (.cells #[.int .i64 0, .int .i64 0, .int .i64 0, .int .i64 0, .int .i64 0, .int .i64 0, .int .i64 0, .int .i64 0, .slice none 0 0] 24)).drew) (w.heap.size + 2) [0, 0, 0, 0, 0, 0, 0, 0] (.slice none 0 0) := h3
        have hT3 : Below w.heap.size w ((w1.alloc (.cells #[.int .i64 0, .int .i64 0, .int .i64 0, .int .i64 0, .int .i64 0, .int .i64 0, .int .i64 0, .int .i64 0, .slice none 0 0] 24)).drew) := hTd.trans ((below_alloc w1.drew (.cells #[.int .i64 0, .int .i64 0, .int .i64 0, .int .i64 0, .int .i64 0, .int .i64 0, .int .i64 0, .int .i64 0, .slice none 0 0] 24)).mono (by omega))
        generalize ((w1.alloc (.cells #[.int .i64 0, .int .i64 0, .int .i64 0, .int .i64 0, .int .i64 0, .int .i64 0, .int .i64 0, .int .i64 0, .slice none 0 0] 24)).drew) = w2 at *
        obtain ⟨a0, a1, a2, a3, a4, a5, a6, a7, a8⟩ := h3.nine
        have hf := h3.free
        refine wpAnyH_ready (rs := [9]) (by kernel_rfl) (by simp) ?_
        refine AllReadyH.cons rfl (fun K hK => ?_) AllReadyH.nil
        go_simp
        have hg := putS_grown w2 (w.heap.size + 2) (1 + Ser.bringP k 5) 0 0 (Ser.bringP h 13) 0 0 0 0 (.slice none 0 0)
        have hput := h3.put (k' := 1 + Ser.bringP k 5) (t' := 0) (f' := 0) (h' := Ser.bringP h 13) (p' := 0) (o' := 0) (s' := 0) (a' := 0) (m' := .slice none 0 0)
        have hTp := putS_below (g := w.heap.size + 2) hT3 (by omega) (1 + Ser.bringP k 5) 0 0 (Ser.bringP h 13) 0 0 0 0 (.slice none 0 0)
        obtain ⟨⟨s1, s2⟩, s3⟩ := hS8
        replace s1 := s1.grown hg (by omega)
        replace s2 := s2.grown hg (by omega)
        have s4 := putS_below (g := w.heap.size + 2) s3 (by omega) (1 + Ser.bringP k 5) 0 0 (Ser.bringP h 13) 0 0 0 0 (.slice none 0 0)
        clear a0 a1 a2 a3 a4 a5 a6 a7 a8 hf h3 hg s3
        change K _ (putS w2 (w.heap.size + 2) (1 + Ser.bringP k 5) 0 0 (Ser.bringP h 13) 0 0 0 0 (.slice none 0 0))
        generalize (putS w2 (w.heap.size + 2) (1 + Ser.bringP k 5) 0 0 (Ser.bringP h 13) 0 0 0 0 (.slice none 0 0)) = w3 at *
        refine hK.out _ _ ⟨⟨s1, s2⟩, s4⟩ (fun _ => ?_)
        clear hK K
        try simp only [Act.put, List.setIfInBounds_toArray, List.set_cons_zero, List.set_cons_succ]
        refine wpAnyH_done (by kernel_rfl) ?_ _
        go_wp2_with fail
        go_meet
        case rel => exact ⟨rfl, ⟨s1, s2⟩, hput, by omega, hTp⟩
    · go_simp
      refine hK.out _ _ (hS.step (below_alloc w1.drew (.cells #[.int .i64 0, .int .i64 0, .int .i64 0, .int .i64 0, .int .i64 0, .int .i64 0, .int .i64 0, .int .i64 0, .slice none 0 0] 24))) (fun hS8 => ?_)
      clear hK K
      try simp only [Act.put, List.setIfInBounds_toArray, List.set_cons_zero, List.set_cons_succ]
      refine wpAnyH_ready (rs := [2]) (by kernel_rfl) (by simp) ?_
      refine AllReadyH.cons rfl (fun K hK => ?_) (AllReadyH.nil)
      go_simp
      go_at_call 23
      refine (Ser.bring_any _ _ _ (by omega) (by omega)).mono ?_
      rintro e w' ⟨rfl, rfl⟩
      refine hK.out _ _ hS8 (fun _ => ?_)
      clear hK K
      try simp only [Act.put, List.setIfInBounds_toArray, List.set_cons_zero, List.set_cons_succ]
      refine takeD (i := 3) (v := .int .i64 (1 + Ser.bringP k 5)) (some 9) rfl rfl (by kernel_rfl) (by kernel_rfl) (by kernel_rfl) (fun _ _ _ h => h) (Or.inl ⟨by rfl, ?_⟩) hS8 ?_
      · rintro w' _
        go_simp
        first | done | (rw [IntKind.wrap_i64]; omega)
      try simp only [Act.put, List.setIfInBounds_toArray, List.set_cons_zero, List.set_cons_succ]
      refine wpAnyH_ready (rs := [6]) (by kernel_rfl) (by simp) ?_
      refine AllReadyH.cons rfl (fun K hK => ?_) (AllReadyH.nil)
      go_simp
      go_at_call 23
      refine (Ser.bring_any _ _ _ (by omega) (by omega)).mono ?_
      rintro e w' ⟨rfl, rfl⟩
      refine hK.out _ _ hS8 (fun _ => ?_)
      clear hK K
      try simp only [Act.put, List.setIfInBounds_toArray, List.set_cons_zero, List.set_cons_succ]
      refine takeD (i := 7) (v := .agg #[.int .i64 (1 + Ser.bringP k 5), .int .i64 0, .int .i64 0, .int .i64 (Ser.bringP h 13), .int .i64 0, .int .i64 0, .int .i64 0, .int .i64 0, .slice none 0 0]) (some 13) rfl rfl (by kernel_rfl) (by kernel_rfl) (by kernel_rfl) (fun _ _ _ h => h) (Or.inl ⟨by rfl, ?_⟩) hS8 ?_
      · rintro w' _
        go_simp
      try simp only [Act.put, List.setIfInBounds_toArray, List.set_cons_zero, List.set_cons_succ]
      have h3 : Sg (w1.alloc (.cells #[.int .i64 0, .int .i64 0, .int .i64 0, .int .i64 0, .int .i64 0, .int .i64 0, .int .i64 0, .int .i64 0, .slice none 0 0] 24)) w1.heap.size [0, 0, 0, 0, 0, 0, 0, 0] (.slice none 0 0) := Sg.new w1 [0, 0, 0, 0, 0, 0, 0, 0] (.slice none 0 0)
      rw [hz0] at h3
      replace h3 : Sg ((w1.alloc (.cells #[.int .i64 0, .int .i64 0, .int .i64 0, .int .i64 0, .int .i64 0, .int .i64 0, .int .i64 0, .int .i64 0, .slice none 0 0] 24)).drew) (w.heap.size + 2) [0, 0, 0, 0, 0, 0, 0, 0] (.slice none 0 0) := h3
      have hT3 : Below w.heap.size w ((w1.alloc (.cells #[.int .i64 0, .int .i64 0, .int .i64 0, .int .i64 0, .int .i64 0, .int .i64 0, .int .i64 0, .int .i64 0, .slice none 0 0] 24)).drew) := hTd.trans ((below_alloc w1.drew (.cells #[.int .i64 0, .int .i64 0, .int .i64 0, .int .i64 0, .int .i64 0, .int .i64 0, .int .i64 0, .int .i64 0, .slice none 0 0] 24)).mono (by omega))
      generalize ((w1.alloc (.cells #[.int .i64 0, .int .i64 0, .int .i64 0, .int .i64 0, .int .i64 0, .int .i64 0, .int .i64 0, .int .i64 0, .slice none 0 0] 24)).drew) = w2 at *
      obtain ⟨a0, a1, a2, a3, a4, a5, a6, a7, a8⟩ := h3.nine
      have hf := h3.free
      refine wpAnyH_ready (rs := [9]) (by kernel_rfl) (by simp) ?_
      refine AllReadyH.cons rfl (fun K hK => ?_) AllReadyH.nil
      go_simp
      have hg := putS_grown w2 (w.heap.size + 2) (1 + Ser.bringP k 5) 0 0 (Ser.bringP h 13) 0 0 0 0 (.slice none 0 0)
      have hput := h3.put (k' := 1 + Ser.bringP k 5) (t' := 0) (f' := 0) (h' := Ser.bringP h 13) (p' := 0) (o' := 0) (s' := 0) (a' := 0) (m' := .slice none 0 0)
      have hTp := putS_below (g := w.heap.size + 2) hT3 (by omega) (1 + Ser.bringP k 5) 0 0 (Ser.bringP h 13) 0 0 0 0 (.slice none 0 0)
      obtain ⟨⟨s1, s2⟩, s3⟩ := hS8
      replace s1 := s1.grown hg (by omega)
      replace s2 := s2.grown hg (by omega)
      have s4 := putS_below (g := w.heap.size + 2) s3 (by omega) (1 + Ser.bringP k 5) 0 0 (Ser.bringP h 13) 0 0 0 0 (.slice none 0 0)
      clear a0 a1 a2 a3 a4 a5 a6 a7 a8 hf h3 hg s3
      change K _ (putS w2 (w.heap.size + 2) (1 + Ser.bringP k 5) 0 0 (Ser.bringP h 13) 0 0 0 0 (.slice none 0 0))
      generalize (putS w2 (w.heap.size + 2) (1 + Ser.bringP k 5) 0 0 (Ser.bringP h 13) 0 0 0 0 (.slice none 0 0)) = w3 at *
      refine hK.out _ _ ⟨⟨s1, s2⟩, s4⟩ (fun _ => ?_)
      clear hK K
      try simp only [Act.put, List.setIfInBounds_toArray, List.set_cons_zero, List.set_cons_succ]
      refine wpAnyH_done (by kernel_rfl) ?_ _
      go_wp2_with fail
      go_meet
      case rel => exact ⟨rfl, ⟨s1, s2⟩, hput, by omega, hTp⟩
  case rest =>
  obtain ⟨rfl, hx⟩ := hcut
  generalize Ser.bringP h 13 = H at *
  generalize Ser.bringP k 5 = kk at *
  have hkk : kk = 0 ∨ kk = 1 ∨ kk = 2 ∨ kk = 3 ∨ kk = 4 := by omega
  clear hk1 hk2 hS hzd hTd hz0 w1
  rcases hkk with rfl | hkk
  · change Three wc (w.heap.size + 2) _ _ [1, 0, 0, H, 0, 0, 0, 0] _ B w at hx
    obtain ⟨d0, d1, d2, d3, d4, d5, d6, d7, d8⟩ := hx.1.1.nine
    obtain ⟨a0, a1, a2, a3, a4, a5, a6, a7, a8⟩ := hx.2.1.nine
    have hf := hx.2.1.free
    go_upto_region 7 with (go_at_call 23; refine (Ser.bring_any _ _ _ (by omega) (by omega)).mono ?_; rintro e w' ⟨rfl, rfl⟩)
    clear d0 d1 d2 d3 d4 d5 d6 d7 d8 a0 a1 a2 a3 a4 a5 a6 a7 a8 hf
    replace hx := hx.set 1 (by simp) (1 + Ser.bringP t 6)
    generalize (wc.setCell ⟨w.heap.size + 2, 1, none⟩ (.int .i64 (1 + Ser.bringP t 6))) = w3 at *
    change Three w3 (w.heap.size + 2) _ _ [1, (1 + Ser.bringP t 6), 0, H, 0, 0, 0, 0] _ B w at hx
    obtain ⟨d0, d1, d2, d3, d4, d5, d6, d7, d8⟩ := hx.1.1.nine
    obtain ⟨a0, a1, a2, a3, a4, a5, a6, a7, a8⟩ := hx.2.1.nine
    have hf := hx.2.1.free
    go_upto_region 9 with (go_at_call 23; refine (Ser.bring_any _ _ _ (by omega) (by omega)).mono ?_; rintro e w' ⟨rfl, rfl⟩)
    clear d0 d1 d2 d3 d4 d5 d6 d7 d8 a0 a1 a2 a3 a4 a5 a6 a7 a8 hf
    obtain ⟨d0, d1, d2, d3, d4, d5, d6, d7, d8⟩ := hx.1.1.nine
    obtain ⟨a0, a1, a2, a3, a4, a5, a6, a7, a8⟩ := hx.2.1.nine
    have hf := hx.2.1.free
    go_upto_region 18 with (go_at_call 23; refine (Ser.bring_any _ _ _ (by omega) (by omega)).mono ?_; rintro e w' ⟨rfl, rfl⟩)
    clear d0 d1 d2 d3 d4 d5 d6 d7 d8 a0 a1 a2 a3 a4 a5 a6 a7 a8 hf
    obtain ⟨⟨hx1, hx2⟩, hx3, hx4, hx5⟩ := hx
    obtain ⟨d0, d1, d2, d3, d4, d5, d6, d7, d8⟩ := hx2.nine
    obtain ⟨a0, a1, a2, a3, a4, a5, a6, a7, a8⟩ := hx3.nine
    have hf := hx2.free
    go_wp2_with fail
    have hk9 := (hx2.put (k' := 1) (t' := (1 + Ser.bringP t 6)) (f' := 0) (h' := H) (p' := 0) (o' := 0) (s' := 0) (a' := 0) (m' := .slice none 0 0)).nine
    have hT9 := putS_below hx5 (Nat.le_succ _) 1 (1 + Ser.bringP t 6) 0 H 0 0 0 0 (.slice none 0 0)
    clear d0 d1 d2 d3 d4 d5 d6 d7 d8 a0 a1 a2 a3 a4 a5 a6 a7 a8 hf
    obtain ⟨d0, d1, d2, d3, d4, d5, d6, d7, d8⟩ := hk9
    change bodyPost _ _ _ _ _ (putS w3 (w.heap.size + 1) 1 (1 + Ser.bringP t 6) 0 H 0 0 0 0 (.slice none 0 0))
    generalize putS w3 (w.heap.size + 1) 1 (1 + Ser.bringP t 6) 0 H 0 0 0 0 (.slice none 0 0) = wd at *
    refine bodyPost_ret (v := .agg #[.int .i64 1, .int .i64 (1 + Ser.bringP t 6), .int .i64 0, .int .i64 H, .int .i64 0, .int .i64 0, .int .i64 0, .int .i64 0, .slice none 0 0]) (by simp [results, Try.results21, go_sem, d0, d1, d2, d3, d4, d5, d6, d7, d8]) rfl ?_
    exact ⟨_, _, _, _, _, _, _, _, [], _, _, _, rfl, Own.nil _ _, by unfold okS wayS; simp; omega, By.nil, hT9⟩
  rcases hkk with rfl | hkk
  · change Three wc (w.heap.size + 2) _ _ [2, 0, 0, H, 0, 0, 0, 0] _ B w at hx
    obtain ⟨d0, d1, d2, d3, d4, d5, d6, d7, d8⟩ := hx.1.1.nine
    obtain ⟨a0, a1, a2, a3, a4, a5, a6, a7, a8⟩ := hx.2.1.nine
    have hf := hx.2.1.free
    go_upto_region 7 with (go_at_call 23; refine (Ser.bring_any _ _ _ (by omega) (by omega)).mono ?_; rintro e w' ⟨rfl, rfl⟩)
    clear d0 d1 d2 d3 d4 d5 d6 d7 d8 a0 a1 a2 a3 a4 a5 a6 a7 a8 hf
    replace hx := hx.set 2 (by simp) (1 + Ser.bringP t 6)
    generalize (wc.setCell ⟨w.heap.size + 2, 2, none⟩ (.int .i64 (1 + Ser.bringP t 6))) = w3 at *
    change Three w3 (w.heap.size + 2) _ _ [2, 0, (1 + Ser.bringP t 6), H, 0, 0, 0, 0] _ B w at hx
    obtain ⟨d0, d1, d2, d3, d4, d5, d6, d7, d8⟩ := hx.1.1.nine
    obtain ⟨a0, a1, a2, a3, a4, a5, a6, a7, a8⟩ := hx.2.1.nine
    have hf := hx.2.1.free
    go_upto_region 9 with (go_at_call 23; refine (Ser.bring_any _ _ _ (by omega) (by omega)).mono ?_; rintro e w' ⟨rfl, rfl⟩)
    clear d0 d1 d2 d3 d4 d5 d6 d7 d8 a0 a1 a2 a3 a4 a5 a6 a7 a8 hf
    obtain ⟨d0, d1, d2, d3, d4, d5, d6, d7, d8⟩ := hx.1.1.nine
    obtain ⟨a0, a1, a2, a3, a4, a5, a6, a7, a8⟩ := hx.2.1.nine
    have hf := hx.2.1.free
    go_upto_region 18 with (go_at_call 23; refine (Ser.bring_any _ _ _ (by omega) (by omega)).mono ?_; rintro e w' ⟨rfl, rfl⟩)
    clear d0 d1 d2 d3 d4 d5 d6 d7 d8 a0 a1 a2 a3 a4 a5 a6 a7 a8 hf
    replace hx := hx.set 5 (by simp) (Ser.bringP o 4294967296)
    generalize (w3.setCell ⟨w.heap.size + 2, 5, none⟩ (.int .i64 (Ser.bringP o 4294967296))) = w5 at *
    change Three w5 (w.heap.size + 2) _ _ [2, 0, (1 + Ser.bringP t 6), H, 0, (Ser.bringP o 4294967296), 0, 0] _ B w at hx
    obtain ⟨⟨hx1, hx2⟩, hx3, hx4, hx5⟩ := hx
    obtain ⟨d0, d1, d2, d3, d4, d5, d6, d7, d8⟩ := hx2.nine
    obtain ⟨a0, a1, a2, a3, a4, a5, a6, a7, a8⟩ := hx3.nine
    have hf := hx2.free
    go_wp2_with fail
    have hk9 := (hx2.put (k' := 2) (t' := 0) (f' := (1 + Ser.bringP t 6)) (h' := H) (p' := 0) (o' := (Ser.bringP o 4294967296)) (s' := 0) (a' := 0) (m' := .slice none 0 0)).nine
    have hT9 := putS_below hx5 (Nat.le_succ _) 2 0 (1 + Ser.bringP t 6) H 0 (Ser.bringP o 4294967296) 0 0 (.slice none 0 0)
    clear d0 d1 d2 d3 d4 d5 d6 d7 d8 a0 a1 a2 a3 a4 a5 a6 a7 a8 hf
    obtain ⟨d0, d1, d2, d3, d4, d5, d6, d7, d8⟩ := hk9
    change bodyPost _ _ _ _ _ (putS w5 (w.heap.size + 1) 2 0 (1 + Ser.bringP t 6) H 0 (Ser.bringP o 4294967296) 0 0 (.slice none 0 0))
    generalize putS w5 (w.heap.size + 1) 2 0 (1 + Ser.bringP t 6) H 0 (Ser.bringP o 4294967296) 0 0 (.slice none 0 0) = wd at *
    refine bodyPost_ret (v := .agg #[.int .i64 2, .int .i64 0, .int .i64 (1 + Ser.bringP t 6), .int .i64 H, .int .i64 0, .int .i64 (Ser.bringP o 4294967296), .int .i64 0, .int .i64 0, .slice none 0 0]) (by simp [results, Try.results21, go_sem, d0, d1, d2, d3, d4, d5, d6, d7, d8]) rfl ?_
    exact ⟨_, _, _, _, _, _, _, _, [], _, _, _, rfl, Own.nil _ _, by unfold okS wayS; simp; omega, By.nil, hT9⟩
  rcases hkk with rfl | hkk
  · change Three wc (w.heap.size + 2) _ _ [3, 0, 0, H, 0, 0, 0, 0] _ B w at hx
    obtain ⟨d0, d1, d2, d3, d4, d5, d6, d7, d8⟩ := hx.1.1.nine
    obtain ⟨a0, a1, a2, a3, a4, a5, a6, a7, a8⟩ := hx.2.1.nine
    have hf := hx.2.1.free
    go_upto_region 7 with (go_at_call 23; refine (Ser.bring_any _ _ _ (by omega) (by omega)).mono ?_; rintro e w' ⟨rfl, rfl⟩)
    clear d0 d1 d2 d3 d4 d5 d6 d7 d8 a0 a1 a2 a3 a4 a5 a6 a7 a8 hf
    replace hx := hx.set 1 (by simp) (1 + Ser.bringP t 6)
    generalize (wc.setCell ⟨w.heap.size + 2, 1, none⟩ (.int .i64 (1 + Ser.bringP t 6))) = w3 at *
    change Three w3 (w.heap.size + 2) _ _ [3, (1 + Ser.bringP t 6), 0, H, 0, 0, 0, 0] _ B w at hx
    obtain ⟨d0, d1, d2, d3, d4, d5, d6, d7, d8⟩ := hx.1.1.nine
    obtain ⟨a0, a1, a2, a3, a4, a5, a6, a7, a8⟩ := hx.2.1.nine
    have hf := hx.2.1.free
    go_upto_region 9 with (go_at_call 23; refine (Ser.bring_any _ _ _ (by omega) (by omega)).mono ?_; rintro e w' ⟨rfl, rfl⟩)
    clear d0 d1 d2 d3 d4 d5 d6 d7 d8 a0 a1 a2 a3 a4 a5 a6 a7 a8 hf
    replace hx := hx.set 4 (by simp) (1 + Ser.bringP p 4294967295)
    generalize (w3.setCell ⟨w.heap.size + 2, 4, none⟩ (.int .i64 (1 + Ser.bringP p 4294967295))) = w4 at *
    change Three w4 (w.heap.size + 2) _ _ [3, (1 + Ser.bringP t 6), 0, H, (1 + Ser.bringP p 4294967295), 0, 0, 0] _ B w at hx
    obtain ⟨d0, d1, d2, d3, d4, d5, d6, d7, d8⟩ := hx.1.1.nine
    obtain ⟨a0, a1, a2, a3, a4, a5, a6, a7, a8⟩ := hx.2.1.nine
    have hf := hx.2.1.free
    go_upto_region 18 with (go_at_call 23; refine (Ser.bring_any _ _ _ (by omega) (by omega)).mono ?_; rintro e w' ⟨rfl, rfl⟩)
    clear d0 d1 d2 d3 d4 d5 d6 d7 d8 a0 a1 a2 a3 a4 a5 a6 a7 a8 hf
    replace hx := hx.set 5 (by simp) (Ser.bringP o 4294967296)
    generalize (w4.setCell ⟨w.heap.size + 2, 5, none⟩ (.int .i64 (Ser.bringP o 4294967296))) = w5 at *
    change Three w5 (w.heap.size + 2) _ _ [3, (1 + Ser.bringP t 6), 0, H, (1 + Ser.bringP p 4294967295), (Ser.bringP o 4294967296), 0, 0] _ B w at hx
    obtain ⟨⟨hx1, hx2⟩, hx3, hx4, hx5⟩ := hx
    obtain ⟨d0, d1, d2, d3, d4, d5, d6, d7, d8⟩ := hx2.nine
    obtain ⟨a0, a1, a2, a3, a4, a5, a6, a7, a8⟩ := hx3.nine
    have hf := hx2.free
    go_wp2_with fail
    have hk9 := (hx2.put (k' := 3) (t' := (1 + Ser.bringP t 6)) (f' := 0) (h' := H) (p' := (1 + Ser.bringP p 4294967295)) (o' := (Ser.bringP o 4294967296)) (s' := 0) (a' := 0) (m' := .slice none 0 0)).nine
    have hT9 := putS_below hx5 (Nat.le_succ _) 3 (1 + Ser.bringP t 6) 0 H (1 + Ser.bringP p 4294967295) (Ser.bringP o 4294967296) 0 0 (.slice none 0 0)
    clear d0 d1 d2 d3 d4 d5 d6 d7 d8 a0 a1 a2 a3 a4 a5 a6 a7 a8 hf
    obtain ⟨d0, d1, d2, d3, d4, d5, d6, d7, d8⟩ := hk9
    change bodyPost _ _ _ _ _ (putS w5 (w.heap.size + 1) 3 (1 + Ser.bringP t 6) 0 H (1 + Ser.bringP p 4294967295) (Ser.bringP o 4294967296) 0 0 (.slice none 0 0))
    generalize putS w5 (w.heap.size + 1) 3 (1 + Ser.bringP t 6) 0 H (1 + Ser.bringP p 4294967295) (Ser.bringP o 4294967296) 0 0 (.slice none 0 0) = wd at *
    refine bodyPost_ret (v := .agg #[.int .i64 3, .int .i64 (1 + Ser.bringP t 6), .int .i64 0, .int .i64 H, .int .i64 (1 + Ser.bringP p 4294967295), .int .i64 (Ser.bringP o 4294967296), .int .i64 0, .int .i64 0, .slice none 0 0]) (by simp [results, Try.results21, go_sem, d0, d1, d2, d3, d4, d5, d6, d7, d8]) rfl ?_
    exact ⟨_, _, _, _, _, _, _, _, [], _, _, _, rfl, Own.nil _ _, by unfold okS wayS; simp; omega, By.nil, hT9⟩
  rcases hkk with rfl | hkk
  · by_cases hf2 : (f.tmod 2 == 0) = true
    · change Three wc (w.heap.size + 2) _ _ [4, 0, 0, H, 0, 0, 0, 0] _ B w at hx
      obtain ⟨d0, d1, d2, d3, d4, d5, d6, d7, d8⟩ := hx.1.1.nine
      obtain ⟨a0, a1, a2, a3, a4, a5, a6, a7, a8⟩ := hx.2.1.nine
      have hf := hx.2.1.free
      go_upto_region 7 with (go_at_call 23; refine (Ser.bring_any _ _ _ (by omega) (by omega)).mono ?_; rintro e w' ⟨rfl, rfl⟩)
      clear d0 d1 d2 d3 d4 d5 d6 d7 d8 a0 a1 a2 a3 a4 a5 a6 a7 a8 hf
      replace hx := hx.set 1 (by simp) (1 + Ser.bringP t 6)
      generalize (wc.setCell ⟨w.heap.size + 2, 1, none⟩ (.int .i64 (1 + Ser.bringP t 6))) = w3 at *
      change Three w3 (w.heap.size + 2) _ _ [4, (1 + Ser.bringP t 6), 0, H, 0, 0, 0, 0] _ B w at hx
      obtain ⟨d0, d1, d2, d3, d4, d5, d6, d7, d8⟩ := hx.1.1.nine
      obtain ⟨a0, a1, a2, a3, a4, a5, a6, a7, a8⟩ := hx.2.1.nine
      have hf := hx.2.1.free
      go_upto_region 9 with (go_at_call 23; refine (Ser.bring_any _ _ _ (by omega) (by omega)).mono ?_; rintro e w' ⟨rfl, rfl⟩)
      clear d0 d1 d2 d3 d4 d5 d6 d7 d8 a0 a1 a2 a3 a4 a5 a6 a7 a8 hf
      replace hx := hx.set 4 (by simp) (1 + Ser.bringP p 4294967295)
      generalize (w3.setCell ⟨w.heap.size + 2, 4, none⟩ (.int .i64 (1 + Ser.bringP p 4294967295))) = w4 at *
      change Three w4 (w.heap.size + 2) _ _ [4, (1 + Ser.bringP t 6), 0, H, (1 + Ser.bringP p 4294967295), 0, 0, 0] _ B w at hx
      obtain ⟨d0, d1, d2, d3, d4, d5, d6, d7, d8⟩ := hx.1.1.nine
      obtain ⟨a0, a1, a2, a3, a4, a5, a6, a7, a8⟩ := hx.2.1.nine
      have hf := hx.2.1.free
      go_upto_region 18 with (go_at_call 23; refine (Ser.bring_any _ _ _ (by omega) (by omega)).mono ?_; rintro e w' ⟨rfl, rfl⟩)
      clear d0 d1 d2 d3 d4 d5 d6 d7 d8 a0 a1 a2 a3 a4 a5 a6 a7 a8 hf
      replace hx := hx.set 7 (by simp) (Ser.bringP a 65536)
      generalize (w4.setCell ⟨w.heap.size + 2, 7, none⟩ (.int .i64 (Ser.bringP a 65536))) = w5 at *
      change Three w5 (w.heap.size + 2) _ _ [4, (1 + Ser.bringP t 6), 0, H, (1 + Ser.bringP p 4294967295), 0, 0, (Ser.bringP a 65536)] _ B w at hx
      obtain ⟨⟨hx1, hx2⟩, hx3, hx4, hx5⟩ := hx
      obtain ⟨d0, d1, d2, d3, d4, d5, d6, d7, d8⟩ := hx2.nine
      obtain ⟨a0, a1, a2, a3, a4, a5, a6, a7, a8⟩ := hx3.nine
      have hf := hx2.free
      go_wp2_with fail
      have hk9 := (hx2.put (k' := 4) (t' := (1 + Ser.bringP t 6)) (f' := 0) (h' := H) (p' := (1 + Ser.bringP p 4294967295)) (o' := 0) (s' := 0) (a' := (Ser.bringP a 65536)) (m' := .slice none 0 0)).nine
      have hT9 := putS_below hx5 (Nat.le_succ _) 4 (1 + Ser.bringP t 6) 0 H (1 + Ser.bringP p 4294967295) 0 0 (Ser.bringP a 65536) (.slice none 0 0)
      clear d0 d1 d2 d3 d4 d5 d6 d7 d8 a0 a1 a2 a3 a4 a5 a6 a7 a8 hf
      obtain ⟨d0, d1, d2, d3, d4, d5, d6, d7, d8⟩ := hk9
      change bodyPost _ _ _ _ _ (putS w5 (w.heap.size + 1) 4 (1 + Ser.bringP t 6) 0 H (1 + Ser.bringP p 4294967295) 0 0 (Ser.bringP a 65536) (.slice none 0 0))
      generalize putS w5 (w.heap.size + 1) 4 (1 + Ser.bringP t 6) 0 H (1 + Ser.bringP p 4294967295) 0 0 (Ser.bringP a 65536) (.slice none 0 0) = wd at *
      refine bodyPost_ret (v := .agg #[.int .i64 4, .int .i64 (1 + Ser.bringP t 6), .int .i64 0, .int .i64 H, .int .i64 (1 + Ser.bringP p 4294967295), .int .i64 0, .int .i64 0, .int .i64 (Ser.bringP a 65536), .slice none 0 0]) (by simp [results, Try.results21, go_sem, d0, d1, d2, d3, d4, d5, d6, d7, d8]) rfl ?_
      exact ⟨_, _, _, _, _, _, _, _, [], _, _, _, rfl, Own.nil _ _, by unfold okS wayS; simp; omega, By.nil, hT9⟩
    · have hf3 : (f.tmod 2 == 0) = false := by simpa using hf2
      clear hf2
      change Three wc (w.heap.size + 2) _ _ [4, 0, 0, H, 0, 0, 0, 0] _ B w at hx
      obtain ⟨d0, d1, d2, d3, d4, d5, d6, d7, d8⟩ := hx.1.1.nine
      obtain ⟨a0, a1, a2, a3, a4, a5, a6, a7, a8⟩ := hx.2.1.nine
      have hf := hx.2.1.free
      go_upto_region 7 with (go_at_call 23; refine (Ser.bring_any _ _ _ (by omega) (by omega)).mono ?_; rintro e w' ⟨rfl, rfl⟩)
      clear d0 d1 d2 d3 d4 d5 d6 d7 d8 a0 a1 a2 a3 a4 a5 a6 a7 a8 hf
      replace hx := hx.set 2 (by simp) (1 + Ser.bringP t 6)
      generalize (wc.setCell ⟨w.heap.size + 2, 2, none⟩ (.int .i64 (1 + Ser.bringP t 6))) = w3 at *
      change Three w3 (w.heap.size + 2) _ _ [4, 0, (1 + Ser.bringP t 6), H, 0, 0, 0, 0] _ B w at hx
      obtain ⟨d0, d1, d2, d3, d4, d5, d6, d7, d8⟩ := hx.1.1.nine
      obtain ⟨a0, a1, a2, a3, a4, a5, a6, a7, a8⟩ := hx.2.1.nine
      have hf := hx.2.1.free
      go_upto_region 9 with (go_at_call 23; refine (Ser.bring_any _ _ _ (by omega) (by omega)).mono ?_; rintro e w' ⟨rfl, rfl⟩)
      clear d0 d1 d2 d3 d4 d5 d6 d7 d8 a0 a1 a2 a3 a4 a5 a6 a7 a8 hf
      replace hx := hx.set 4 (by simp) (1 + Ser.bringP p 4294967295)
      generalize (w3.setCell ⟨w.heap.size + 2, 4, none⟩ (.int .i64 (1 + Ser.bringP p 4294967295))) = w4 at *
      change Three w4 (w.heap.size + 2) _ _ [4, 0, (1 + Ser.bringP t 6), H, (1 + Ser.bringP p 4294967295), 0, 0, 0] _ B w at hx
      obtain ⟨d0, d1, d2, d3, d4, d5, d6, d7, d8⟩ := hx.1.1.nine
      obtain ⟨a0, a1, a2, a3, a4, a5, a6, a7, a8⟩ := hx.2.1.nine
      have hf := hx.2.1.free
      go_upto_region 18 with (go_at_call 23; refine (Ser.bring_any _ _ _ (by omega) (by omega)).mono ?_; rintro e w' ⟨rfl, rfl⟩)
      clear d0 d1 d2 d3 d4 d5 d6 d7 d8 a0 a1 a2 a3 a4 a5 a6 a7 a8 hf
      replace hx := hx.set 7 (by simp) (Ser.bringP a 65536)
      generalize (w4.setCell ⟨w.heap.size + 2, 7, none⟩ (.int .i64 (Ser.bringP a 65536))) = w5 at *
      change Three w5 (w.heap.size + 2) _ _ [4, 0, (1 + Ser.bringP t 6), H, (1 + Ser.bringP p 4294967295), 0, 0, (Ser.bringP a 65536)] _ B w at hx
      obtain ⟨⟨hx1, hx2⟩, hx3, hx4, hx5⟩ := hx
      obtain ⟨d0, d1, d2, d3, d4, d5, d6, d7, d8⟩ := hx2.nine
      obtain ⟨a0, a1, a2, a3, a4, a5, a6, a7, a8⟩ := hx3.nine
      have hf := hx2.free
      go_wp2_with fail
      have hk9 := (hx2.put (k' := 4) (t' := 0) (f' := (1 + Ser.bringP t 6)) (h' := H) (p' := (1 + Ser.bringP p 4294967295)) (o' := 0) (s' := 0) (a' := (Ser.bringP a 65536)) (m' := .slice none 0 0)).nine
      have hT9 := putS_below hx5 (Nat.le_succ _) 4 0 (1 + Ser.bringP t 6) H (1 + Ser.bringP p 4294967295) 0 0 (Ser.bringP a 65536) (.slice none 0 0)
      clear d0 d1 d2 d3 d4 d5 d6 d7 d8 a0 a1 a2 a3 a4 a5 a6 a7 a8 hf
      obtain ⟨d0, d1, d2, d3, d4, d5, d6, d7, d8⟩ := hk9
      change bodyPost _ _ _ _ _ (putS w5 (w.heap.size + 1) 4 0 (1 + Ser.bringP t 6) H (1 + Ser.bringP p 4294967295) 0 0 (Ser.bringP a 65536) (.slice none 0 0))
      generalize putS w5 (w.heap.size + 1) 4 0 (1 + Ser.bringP t 6) H (1 + Ser.bringP p 4294967295) 0 0 (Ser.bringP a 65536) (.slice none 0 0) = wd at *
      refine bodyPost_ret (v := .agg #[.int .i64 4, .int .i64 0, .int .i64 (1 + Ser.bringP t 6), .int .i64 H, .int .i64 (1 + Ser.bringP p 4294967295), .int .i64 0, .int .i64 0, .int .i64 (Ser.bringP a 65536), .slice none 0 0]) (by simp [results, Try.results21, go_sem, d0, d1, d2, d3, d4, d5, d6, d7, d8]) rfl ?_
      exact ⟨_, _, _, _, _, _, _, _, [], _, _, _, rfl, Own.nil _ _, by unfold okS wayS; simp; omega, By.nil, hT9⟩
  subst hkk
  by_cases hf2 : (f.tmod 2 == 0) = true
  · change Three wc (w.heap.size + 2) _ _ [5, 0, 0, H, 0, 0, 0, 0] _ B w at hx
    obtain ⟨d0, d1, d2, d3, d4, d5, d6, d7, d8⟩ := hx.1.1.nine
    obtain ⟨a0, a1, a2, a3, a4, a5, a6, a7, a8⟩ := hx.2.1.nine
    have hf := hx.2.1.free
    go_upto_region 7 with (go_at_call 23; refine (Ser.bring_any _ _ _ (by omega) (by omega)).mono ?_; rintro e w' ⟨rfl, rfl⟩)
    clear d0 d1 d2 d3 d4 d5 d6 d7 d8 a0 a1 a2 a3 a4 a5 a6 a7 a8 hf
    replace hx := hx.set 1 (by simp) (1 + Ser.bringP t 6)
    generalize (wc.setCell ⟨w.heap.size + 2, 1, none⟩ (.int .i64 (1 + Ser.bringP t 6))) = w3 at *
    change Three w3 (w.heap.size + 2) _ _ [5, (1 + Ser.bringP t 6), 0, H, 0, 0, 0, 0] _ B w at hx
    obtain ⟨d0, d1, d2, d3, d4, d5, d6, d7, d8⟩ := hx.1.1.nine
    obtain ⟨a0, a1, a2, a3, a4, a5, a6, a7, a8⟩ := hx.2.1.nine
    have hf := hx.2.1.free
    go_upto_region 9 with (go_at_call 23; refine (Ser.bring_any _ _ _ (by omega) (by omega)).mono ?_; rintro e w' ⟨rfl, rfl⟩)
    clear d0 d1 d2 d3 d4 d5 d6 d7 d8 a0 a1 a2 a3 a4 a5 a6 a7 a8 hf
    replace hx := hx.set 4 (by simp) (1 + Ser.bringP p 4294967295)
    generalize (w3.setCell ⟨w.heap.size + 2, 4, none⟩ (.int .i64 (1 + Ser.bringP p 4294967295))) = w4 at *
    change Three w4 (w.heap.size + 2) _ _ [5, (1 + Ser.bringP t 6), 0, H, (1 + Ser.bringP p 4294967295), 0, 0, 0] _ B w at hx
    obtain ⟨d0, d1, d2, d3, d4, d5, d6, d7, d8⟩ := hx.1.1.nine
    obtain ⟨a0, a1, a2, a3, a4, a5, a6, a7, a8⟩ := hx.2.1.nine
    have hf := hx.2.1.free
    go_upto_region 17 with (go_at_call 23; refine (Ser.bring_any _ _ _ (by omega) (by omega)).mono ?_; rintro e w' ⟨rfl, rfl⟩)
    clear d0 d1 d2 d3 d4 d5 d6 d7 d8 a0 a1 a2 a3 a4 a5 a6 a7 a8 hf
    replace hx := hx.set 6 (by simp) (Ser.bringP s 65536)
    generalize (w4.setCell ⟨w.heap.size + 2, 6, none⟩ (.int .i64 (Ser.bringP s 65536))) = w5 at *
    change Three w5 (w.heap.size + 2) _ _ [5, (1 + Ser.bringP t 6), 0, H, (1 + Ser.bringP p 4294967295), 0, (Ser.bringP s 65536), 0] _ B w at hx
    have R5 := hr.below' hx.2.2.2 hB
    have hln := hr.len
    have i4 := hr.le
    have i2 : (n : Int) ≤ c := by omega
    have i3 : (c : Int) ≤ 9223372036854775807 := by have := hr.cap; unfold maxLen at this; omega
    have hN5 := hx.2.1.lt
    have hmin : ∃ m : Nat, m ≤ n ∧ m ≤ 255 ∧ min (n : Int) 255 = m := ⟨min n 255, by omega, by omega, by omega⟩
    obtain ⟨m, hm1, hm2, hm3⟩ := hmin
    have i1 : (m : Int) ≤ n := by omega
    have hS : ∃ mo, Three w5.drew (w.heap.size + 2) [k, t, f, h, p, o, s, a] (.slice A n c) [5, (1 + Ser.bringP t 6), 0, H, (1 + Ser.bringP p 4294967295), 0, (Ser.bringP s 65536), 0] mo B w := ⟨_, hx.step (Below.refl _ w5).drew⟩
    refine wp_region_held_drew (S := fun w1 => ∃ mo, Three w1 (w.heap.size + 2) [k, t, f, h, p, o, s, a] (.slice A n c) [5, (1 + Ser.bringP t 6), 0, H, (1 + Ser.bringP p 4294967295), 0, (Ser.bringP s 65536), 0] mo B w) (by kernel_rfl) hS (fun _ => ?_)
    refine takeD (i := 0) (v := .pointer (some ⟨w.heap.size, 6, none⟩)) (some 71) rfl rfl (by kernel_rfl) (by kernel_rfl) (by kernel_rfl) (fun _ _ _ h => h) (Or.inl ⟨by rfl, ?_⟩) hS ?_
    · rintro w' _
      go_simp
    try simp only [Act.put, List.setIfInBounds_toArray, List.set_cons_zero, List.set_cons_succ]
    refine takeD (i := 1) (v := .int .i64 s) (some 72) rfl rfl (by kernel_rfl) (by kernel_rfl) (by kernel_rfl) (fun _ _ _ h => h) (Or.inl ⟨by rfl, ?_⟩) hS ?_
    · rintro w' ⟨mo, hx'⟩
      obtain ⟨d0, d1, d2, d3, d4, d5, d6, d7, d8⟩ := hx'.1.1.nine
      go_simp
    try simp only [Act.put, List.setIfInBounds_toArray, List.set_cons_zero, List.set_cons_succ]
    refine takeD (i := 2) (v := .int .u8 (s % 256)) (some 73) rfl rfl (by kernel_rfl) (by kernel_rfl) (by kernel_rfl) (fun _ _ _ h => h) (Or.inl ⟨by rfl, ?_⟩) hS ?_
    · rintro w' _
      go_simp
      first | done | rfl | (rw [IntKind.wrap_u8])
    try simp only [Act.put, List.setIfInBounds_toArray, List.set_cons_zero, List.set_cons_succ]
    refine takeD (i := 4) (v := .pointer (some ⟨w.heap.size, 8, none⟩)) (some 75) rfl rfl (by kernel_rfl) (by kernel_rfl) (by kernel_rfl) (fun _ _ _ h => h) (Or.inl ⟨by rfl, ?_⟩) hS ?_
    · rintro w' _
      go_simp
    try simp only [Act.put, List.setIfInBounds_toArray, List.set_cons_zero, List.set_cons_succ]
    refine takeD (i := 5) (v := .slice A n c) (some 76) rfl rfl (by kernel_rfl) (by kernel_rfl) (by kernel_rfl) (fun _ _ _ h => h) (Or.inl ⟨by rfl, ?_⟩) hS ?_
    · rintro w' ⟨mo, hx'⟩
      obtain ⟨d0, d1, d2, d3, d4, d5, d6, d7, d8⟩ := hx'.1.1.nine
      go_simp
    try simp only [Act.put, List.setIfInBounds_toArray, List.set_cons_zero, List.set_cons_succ]
    refine takeD (i := 6) (v := .pointer (some ⟨w.heap.size, 8, none⟩)) (some 77) rfl rfl (by kernel_rfl) (by kernel_rfl) (by kernel_rfl) (fun _ _ _ h => h) (Or.inl ⟨by rfl, ?_⟩) hS ?_
    · rintro w' _
      go_simp
    try simp only [Act.put, List.setIfInBounds_toArray, List.set_cons_zero, List.set_cons_succ]
    refine takeD (i := 7) (v := .slice A n c) (some 78) rfl rfl (by kernel_rfl) (by kernel_rfl) (by kernel_rfl) (fun _ _ _ h => h) (Or.inl ⟨by rfl, ?_⟩) hS ?_
    · rintro w' ⟨mo, hx'⟩
      obtain ⟨d0, d1, d2, d3, d4, d5, d6, d7, d8⟩ := hx'.1.1.nine
      go_simp
    try simp only [Act.put, List.setIfInBounds_toArray, List.set_cons_zero, List.set_cons_succ]
    refine takeD (i := 8) (v := .int .i64 n) (some 79) rfl rfl (by kernel_rfl) (by kernel_rfl) (by kernel_rfl) (fun _ _ _ h => h) (Or.inl ⟨by rfl, ?_⟩) hS ?_
    · rintro w' _
      go_simp
    try simp only [Act.put, List.setIfInBounds_toArray, List.set_cons_zero, List.set_cons_succ]
    refine takeD (i := 9) (v := .int .i64 m) (some 80) rfl rfl (by kernel_rfl) (by kernel_rfl) (by kernel_rfl) (fun _ _ _ h => h) (Or.inl ⟨by rfl, ?_⟩) hS ?_
    · rintro w' _
      go_simp
      first | done | (split <;> omega)
    try simp only [Act.put, List.setIfInBounds_toArray, List.set_cons_zero, List.set_cons_succ]
    refine takeD (i := 10) (v := .slice A m c) (some 81) rfl rfl (by kernel_rfl) (by kernel_rfl) (by kernel_rfl) (fun _ _ _ h => h) (Or.inl ⟨by rfl, ?_⟩) hS ?_
    · rintro w' _
      go_simp
      first | done | exact fun hh => absurd hh (by omega)
    try simp only [Act.put, List.setIfInBounds_toArray, List.set_cons_zero, List.set_cons_succ]
    refine wpAnyH_ready (rs := [3]) (by kernel_rfl) (by simp) ?_
    refine AllReadyH.cons rfl (fun K hK => ?_) AllReadyH.nil
    go_simp
    have hx6 := hx.step ((below_alloc w5 (.cells #[.int .u8 (s % 256)] 5)).drew)
    have ho6 : Own ((w5.alloc (.cells #[.int .u8 (s % 256)] 5)).drew) w5.heap.size (.slice (some ⟨w5.heap.size, 0, none⟩) 1 1) 1 [s % 256] := own_lit w5 [s % 256] w5.heap.size (Nat.le_refl _) (by unfold maxLen; simp)
    have R6 := R5.below' ((below_alloc w5 (.cells #[.int .u8 (s % 256)] 5)).drew) (by omega)
    have hz6 : ((w5.alloc (.cells #[.int .u8 (s % 256)] 5)).drew).heap.size = w5.heap.size + 1 := alloc_size w5 _
    refine hK.out _ _ ⟨_, hx6⟩ (fun hS3 => ?_)
    clear hK K
    try simp only [Act.put, List.setIfInBounds_toArray, List.set_cons_zero, List.set_cons_succ]
    generalize (w5.alloc (.cells #[.int .u8 (s % 256)] 5)).drew = w6 at *
    refine wpAnyH_ready (rs := [11]) (by kernel_rfl) (by simp) ?_
    refine AllReadyH.cons rfl (fun K hK => ?_) AllReadyH.nil
    rw [if_pos (by rfl)]
    refine op_append8 (.tmp 74) (.tmp 81) rfl rfl ho6 rfl (R6.pre m hm1) (by omega) (by omega) ?_
    intro A7 c7 w7 ho7 hb7
    have hx7 := hx6.low hb7 hN5
    refine hK.out _ _ ⟨_, hx7⟩ (fun hS7 => ?_)
    clear hK K
    try simp only [Act.put, List.setIfInBounds_toArray, List.set_cons_zero, List.set_cons_succ]
    refine takeD (i := 12) (v := .pointer (some ⟨w.heap.size + 2, 8, none⟩)) (some 83) rfl rfl (by kernel_rfl) (by kernel_rfl) (by kernel_rfl) (fun _ _ _ h => h) (Or.inl ⟨by rfl, ?_⟩) hS7 ?_
    · rintro w' _
      go_simp
    try simp only [Act.put, List.setIfInBounds_toArray, List.set_cons_zero, List.set_cons_succ]
    obtain ⟨a0, a1, a2, a3, a4, a5, a6, a7, a8⟩ := hx7.2.1.nine
    have hf := hx7.2.1.free
    refine wpAnyH_ready (rs := [13]) (by kernel_rfl) (by simp) ?_
    refine AllReadyH.cons rfl (fun K hK => ?_) AllReadyH.nil
    go_simp
    have hx := hx7.setMsg (.slice A7 (1 + m) c7)
    change Three (w7.setCell ⟨w.heap.size + 2, 8, none⟩ (.slice A7 (1 + m) c7)) _ _ _ _ _ _ _ at hx
    have ho := own_keep ho7 (grownBy_set w7 (w.heap.size + 2) 8 (.slice A7 (1 + m) c7)) (by omega)
    refine hK.out _ _ ⟨_, hx⟩ (fun _ => ?_)
    clear hK K
    try simp only [Act.put, List.setIfInBounds_toArray, List.set_cons_zero, List.set_cons_succ]
    refine wpAnyH_done (by kernel_rfl) ?_ _
    clear hx7 ho7 hb7 hx6 ho6 R6 a0 a1 a2 a3 a4 a5 a6 a7 a8 hf
    generalize (w7.setCell ⟨w.heap.size + 2, 8, none⟩ (.slice A7 (1 + m) c7)) = w8 at *
    obtain ⟨⟨hx1, hx2⟩, hx3, hx4, hx5⟩ := hx
    obtain ⟨d0, d1, d2, d3, d4, d5, d6, d7, d8⟩ := hx2.nine
    obtain ⟨a0, a1, a2, a3, a4, a5, a6, a7, a8⟩ := hx3.nine
    have hf := hx2.free
    go_wp2_with fail
    have hk9 := (hx2.put (k' := 5) (t' := (1 + Ser.bringP t 6)) (f' := 0) (h' := H) (p' := (1 + Ser.bringP p 4294967295)) (o' := 0) (s' := (Ser.bringP s 65536)) (a' := 0) (m' := .slice A7 (1 + m) c7)).nine
    have hT9 := putS_below hx5 (Nat.le_succ _) 5 (1 + Ser.bringP t 6) 0 H (1 + Ser.bringP p 4294967295) 0 (Ser.bringP s 65536) 0 (.slice A7 (1 + m) c7)
    have ho9 := own_keep ho (putS_grown w8 (w.heap.size + 1) 5 (1 + Ser.bringP t 6) 0 H (1 + Ser.bringP p 4294967295) 0 (Ser.bringP s 65536) 0 (.slice A7 (1 + m) c7)) (by omega)
    clear d0 d1 d2 d3 d4 d5 d6 d7 d8 a0 a1 a2 a3 a4 a5 a6 a7 a8 hf
    obtain ⟨d0, d1, d2, d3, d4, d5, d6, d7, d8⟩ := hk9
    change bodyPost _ _ _ _ _ (putS w8 (w.heap.size + 1) 5 (1 + Ser.bringP t 6) 0 H (1 + Ser.bringP p 4294967295) 0 (Ser.bringP s 65536) 0 (.slice A7 (1 + m) c7))
    generalize putS w8 (w.heap.size + 1) 5 (1 + Ser.bringP t 6) 0 H (1 + Ser.bringP p 4294967295) 0 (Ser.bringP s 65536) 0 (.slice A7 (1 + m) c7) = wd at *
    refine bodyPost_ret (v := .agg #[.int .i64 5, .int .i64 (1 + Ser.bringP t 6), .int .i64 0, .int .i64 H, .int .i64 (1 + Ser.bringP p 4294967295), .int .i64 0, .int .i64 (Ser.bringP s 65536), .int .i64 0, .slice A7 (1 + m) c7]) (by simp [results, Try.results21, go_sem, d0, d1, d2, d3, d4, d5, d6, d7, d8]) rfl ?_
    exact ⟨_, _, _, _, _, _, _, _, ([s % 256] ++ l.take m), _, _, _, rfl, ho9.lower (by omega), by unfold okS wayS; simp; omega, ((By.cons (by omega) By.nil).append (hl.take m)), hT9⟩
  · have hf3 : (f.tmod 2 == 0) = false := by simpa using hf2
    clear hf2
    change Three wc (w.heap.size + 2) _ _ [5, 0, 0, H, 0, 0, 0, 0] _ B w at hx
    obtain ⟨d0, d1, d2, d3, d4, d5, d6, d7, d8⟩ := hx.1.1.nine
    obtain ⟨a0, a1, a2, a3, a4, a5, a6, a7, a8⟩ := hx.2.1.nine
    have hf := hx.2.1.free
    go_upto_region 7 with (go_at_call 23; refine (Ser.bring_any _ _ _ (by omega) (by omega)).mono ?_; rintro e w' ⟨rfl, rfl⟩)
    clear d0 d1 d2 d3 d4 d5 d6 d7 d8 a0 a1 a2 a3 a4 a5 a6 a7 a8 hf
    replace hx := hx.set 2 (by simp) (1 + Ser.bringP t 6)
    generalize (wc.setCell ⟨w.heap.size + 2, 2, none⟩ (.int .i64 (1 + Ser.bringP t 6))) = w3 at *
    change Three w3 (w.heap.size + 2) _ _ [5, 0, (1 + Ser.bringP t 6), H, 0, 0, 0, 0] _ B w at hx
    obtain ⟨d0, d1, d2, d3, d4, d5, d6, d7, d8⟩ := hx.1.1.nine
    obtain ⟨a0, a1, a2, a3, a4, a5, a6, a7, a8⟩ := hx.2.1.nine
    have hf := hx.2.1.free
    go_upto_region 9 with (go_at_call 23; refine (Ser.bring_any _ _ _ (by omega) (by omega)).mono ?_; rintro e w' ⟨rfl, rfl⟩)
    clear d0 d1 d2 d3 d4 d5 d6 d7 d8 a0 a1 a2 a3 a4 a5 a6 a7 a8 hf
    replace hx := hx.set 4 (by simp) (1 + Ser.bringP p 4294967295)
    generalize (w3.setCell ⟨w.heap.size + 2, 4, none⟩ (.int .i64 (1 + Ser.bringP p 4294967295))) = w4 at *
    change Three w4 (w.heap.size + 2) _ _ [5, 0, (1 + Ser.bringP t 6), H, (1 + Ser.bringP p 4294967295), 0, 0, 0] _ B w at hx
    obtain ⟨d0, d1, d2, d3, d4, d5, d6, d7, d8⟩ := hx.1.1.nine
    obtain ⟨a0, a1, a2, a3, a4, a5, a6, a7, a8⟩ := hx.2.1.nine
    have hf := hx.2.1.free
    go_upto_region 17 with (go_at_call 23; refine (Ser.bring_any _ _ _ (by omega) (by omega)).mono ?_; rintro e w' ⟨rfl, rfl⟩)
    clear d0 d1 d2 d3 d4 d5 d6 d7 d8 a0 a1 a2 a3 a4 a5 a6 a7 a8 hf
    replace hx := hx.set 6 (by simp) (Ser.bringP s 65536)
    generalize (w4.setCell ⟨w.heap.size + 2, 6, none⟩ (.int .i64 (Ser.bringP s 65536))) = w5 at *
    change Three w5 (w.heap.size + 2) _ _ [5, 0, (1 + Ser.bringP t 6), H, (1 + Ser.bringP p 4294967295), 0, (Ser.bringP s 65536), 0] _ B w at hx
    have R5 := hr.below' hx.2.2.2 hB
    have hln := hr.len
    have i4 := hr.le
    have i2 : (n : Int) ≤ c := by omega
    have i3 : (c : Int) ≤ 9223372036854775807 := by have := hr.cap; unfold maxLen at this; omega
    have hN5 := hx.2.1.lt
    have hmin : ∃ m : Nat, m ≤ n ∧ m ≤ 255 ∧ min (n : Int) 255 = m := ⟨min n 255, by omega, by omega, by omega⟩
    obtain ⟨m, hm1, hm2, hm3⟩ := hmin
    have i1 : (m : Int) ≤ n := by omega
    have hS : ∃ mo, Three w5.drew (w.heap.size + 2) [k, t, f, h, p, o, s, a] (.slice A n c) [5, 0, (1 + Ser.bringP t 6), H, (1 + Ser.bringP p 4294967295), 0, (Ser.bringP s 65536), 0] mo B w := ⟨_, hx.step (Below.refl _ w5).drew⟩
    refine wp_region_held_drew (S := fun w1 => ∃ mo, Three w1 (w.heap.size + 2) [k, t, f, h, p, o, s, a] (.slice A n c) [5, 0, (1 + Ser.bringP t 6), H, (1 + Ser.bringP p 4294967295), 0, (Ser.bringP s 65536), 0] mo B w) (by kernel_rfl) hS (fun _ => ?_)
    refine takeD (i := 0) (v := .pointer (some ⟨w.heap.size, 6, none⟩)) (some 71) rfl rfl (by kernel_rfl) (by kernel_rfl) (by kernel_rfl) (fun _ _ _ h => h) (Or.inl ⟨by rfl, ?_⟩) hS ?_
    · rintro w' _
      go_simp
    try simp only [Act.put, List.setIfInBounds_toArray, List.set_cons_zero, List.set_cons_succ]
    refine takeD (i := 1) (v := .int .i64 s) (some 72) rfl rfl (by kernel_rfl) (by kernel_rfl) (by kernel_rfl) (fun _ _ _ h => h) (Or.inl ⟨by rfl, ?_⟩) hS ?_
    · rintro w' ⟨mo, hx'⟩
      obtain ⟨d0, d1, d2, d3, d4, d5, d6, d7, d8⟩ := hx'.1.1.nine
      go_simp
    try simp only [Act.put, List.setIfInBounds_toArray, List.set_cons_zero, List.set_cons_succ]
    refine takeD (i := 2) (v := .int .u8 (s % 256)) (some 73) rfl rfl (by kernel_rfl) (by kernel_rfl) (by kernel_rfl) (fun _ _ _ h => h) (Or.inl ⟨by rfl, ?_⟩) hS ?_
    · rintro w' _
      go_simp
      first | done | rfl | (rw [IntKind.wrap_u8])
    try simp only [Act.put, List.setIfInBounds_toArray, List.set_cons_zero, List.set_cons_succ]
    refine takeD (i := 4) (v := .pointer (some ⟨w.heap.size, 8, none⟩)) (some 75) rfl rfl (by kernel_rfl) (by kernel_rfl) (by kernel_rfl) (fun _ _ _ h => h) (Or.inl ⟨by rfl, ?_⟩) hS ?_
    · rintro w' _
      go_simp
    try simp only [Act.put, List.setIfInBounds_toArray, List.set_cons_zero, List.set_cons_succ]
    refine takeD (i := 5) (v := .slice A n c) (some 76) rfl rfl (by kernel_rfl) (by kernel_rfl) (by kernel_rfl) (fun _ _ _ h => h) (Or.inl ⟨by rfl, ?_⟩) hS ?_
    · rintro w' ⟨mo, hx'⟩
      obtain ⟨d0, d1, d2, d3, d4, d5, d6, d7, d8⟩ := hx'.1.1.nine
      go_simp
    try simp only [Act.put, List.setIfInBounds_toArray, List.set_cons_zero, List.set_cons_succ]
    refine takeD (i := 6) (v := .pointer (some ⟨w.heap.size, 8, none⟩)) (some 77) rfl rfl (by kernel_rfl) (by kernel_rfl) (by kernel_rfl) (fun _ _ _ h => h) (Or.inl ⟨by rfl, ?_⟩) hS ?_
    · rintro w' _
      go_simp
    try simp only [Act.put, List.setIfInBounds_toArray, List.set_cons_zero, List.set_cons_succ]
    refine takeD (i := 7) (v := .slice A n c) (some 78) rfl rfl (by kernel_rfl) (by kernel_rfl) (by kernel_rfl) (fun _ _ _ h => h) (Or.inl ⟨by rfl, ?_⟩) hS ?_
    · rintro w' ⟨mo, hx'⟩
      obtain ⟨d0, d1, d2, d3, d4, d5, d6, d7, d8⟩ := hx'.1.1.nine
      go_simp
    try simp only [Act.put, List.setIfInBounds_toArray, List.set_cons_zero, List.set_cons_succ]
    refine takeD (i := 8) (v := .int .i64 n) (some 79) rfl rfl (by kernel_rfl) (by kernel_rfl) (by kernel_rfl) (fun _ _ _ h => h) (Or.inl ⟨by rfl, ?_⟩) hS ?_
    · rintro w' _
      go_simp
    try simp only [Act.put, List.setIfInBounds_toArray, List.set_cons_zero, List.set_cons_succ]
    refine takeD (i := 9) (v := .int .i64 m) (some 80) rfl rfl (by kernel_rfl) (by kernel_rfl) (by kernel_rfl) (fun _ _ _ h => h) (Or.inl ⟨by rfl, ?_⟩) hS ?_
    · rintro w' _
      go_simp
      first | done | (split <;> omega)
    try simp only [Act.put, List.setIfInBounds_toArray, List.set_cons_zero, List.set_cons_succ]
    refine takeD (i := 10) (v := .slice A m c) (some 81) rfl rfl (by kernel_rfl) (by kernel_rfl) (by kernel_rfl) (fun _ _ _ h => h) (Or.inl ⟨by rfl, ?_⟩) hS ?_
    · rintro w' _
      go_simp
      first | done | exact fun hh => absurd hh (by omega)
    try simp only [Act.put, List.setIfInBounds_toArray, List.set_cons_zero, List.set_cons_succ]
    refine wpAnyH_ready (rs := [3]) (by kernel_rfl) (by simp) ?_
    refine AllReadyH.cons rfl (fun K hK => ?_) AllReadyH.nil
    go_simp
    have hx6 := hx.step ((below_alloc w5 (.cells #[.int .u8 (s % 256)] 5)).drew)
    have ho6 : Own ((w5.alloc (.cells #[.int .u8 (s % 256)] 5)).drew) w5.heap.size (.slice (some ⟨w5.heap.size, 0, none⟩) 1 1) 1 [s % 256] := own_lit w5 [s % 256] w5.heap.size (Nat.le_refl _) (by unfold maxLen; simp)
    have R6 := R5.below' ((below_alloc w5 (.cells #[.int .u8 (s % 256)] 5)).drew) (by omega)
    have hz6 : ((w5.alloc (.cells #[.int .u8 (s % 256)] 5)).drew).heap.size = w5.heap.size + 1 := alloc_size w5 _
    refine hK.out _ _ ⟨_, hx6⟩ (fun hS3 => ?_)
    clear hK K
    try simp only [Act.put, List.setIfInBounds_toArray, List.set_cons_zero, List.set_cons_succ]
    generalize (w5.alloc (.cells #[.int .u8 (s % 256)] 5)).drew = w6 at *
    refine wpAnyH_ready (rs := [11]) (by kernel_rfl) (by simp) ?_
    refine AllReadyH.cons rfl (fun K hK => ?_) AllReadyH.nil
    rw [if_pos (by rfl)]
    refine op_append8 (.tmp 74) (.tmp 81) rfl rfl ho6 rfl (R6.pre m hm1) (by omega) (by omega) ?_
    intro A7 c7 w7 ho7 hb7
    have hx7 := hx6.low hb7 hN5
    refine hK.out _ _ ⟨_, hx7⟩ (fun hS7 => ?_)
    clear hK K
    try simp only [Act.put, List.setIfInBounds_toArray, List.set_cons_zero, List.set_cons_succ]
    refine takeD (i := 12) (v := .pointer (some ⟨w.heap.size + 2, 8, none⟩)) (some 83) rfl rfl (by kernel_rfl) (by kernel_rfl) (by kernel_rfl) (fun _ _ _ h => h) (Or.inl ⟨by rfl, ?_⟩) hS7 ?_
    · rintro w' _
      go_simp
    try simp only [Act.put, List.setIfInBounds_toArray, List.set_cons_zero, List.set_cons_succ]
    obtain ⟨a0, a1, a2, a3, a4, a5, a6, a7, a8⟩ := hx7.2.1.nine
    have hf := hx7.2.1.free
    refine wpAnyH_ready (rs := [13]) (by kernel_rfl) (by simp) ?_
    refine AllReadyH.cons rfl (fun K hK => ?_) AllReadyH.nil
    go_simp
    have hx := hx7.setMsg (.slice A7 (1 + m) c7)
    change Three (w7.setCell ⟨w.heap.size + 2, 8, none⟩ (.slice A7 (1 + m) c7)) _ _ _ _ _ _ _ at hx
    have ho := own_keep ho7 (grownBy_set w7 (w.heap.size + 2) 8 (.slice A7 (1 + m) c7)) (by omega)
    refine hK.out _ _ ⟨_, hx⟩ (fun _ => ?_)
    clear hK K
    try simp only [Act.put, List.setIfInBounds_toArray, List.set_cons_zero, List.set_cons_succ]
    refine wpAnyH_done (by kernel_rfl) ?_ _
    clear hx7 ho7 hb7 hx6 ho6 R6 a0 a1 a2 a3 a4 a5 a6 a7 a8 hf
    generalize (w7.setCell ⟨w.heap.size + 2, 8, none⟩ (.slice A7 (1 + m) c7)) = w8 at *
    obtain ⟨⟨hx1, hx2⟩, hx3, hx4, hx5⟩ := hx
    obtain ⟨d0, d1, d2, d3, d4, d5, d6, d7, d8⟩ := hx2.nine
    obtain ⟨a0, a1, a2, a3, a4, a5, a6, a7, a8⟩ := hx3.nine
    have hf := hx2.free
    go_wp2_with fail
    have hk9 := (hx2.put (k' := 5) (t' := 0) (f' := (1 + Ser.bringP t 6)) (h' := H) (p' := (1 + Ser.bringP p 4294967295)) (o' := 0) (s' := (Ser.bringP s 65536)) (a' := 0) (m' := .slice A7 (1 + m) c7)).nine
    have hT9 := putS_below hx5 (Nat.le_succ _) 5 0 (1 + Ser.bringP t 6) H (1 + Ser.bringP p 4294967295) 0 (Ser.bringP s 65536) 0 (.slice A7 (1 + m) c7)
    have ho9 := own_keep ho (putS_grown w8 (w.heap.size + 1) 5 0 (1 + Ser.bringP t 6) H (1 + Ser.bringP p 4294967295) 0 (Ser.bringP s 65536) 0 (.slice A7 (1 + m) c7)) (by omega)
    clear d0 d1 d2 d3 d4 d5 d6 d7 d8 a0 a1 a2 a3 a4 a5 a6 a7 a8 hf
    obtain ⟨d0, d1, d2, d3, d4, d5, d6, d7, d8⟩ := hk9
    change bodyPost _ _ _ _ _ (putS w8 (w.heap.size + 1) 5 0 (1 + Ser.bringP t 6) H (1 + Ser.bringP p 4294967295) 0 (Ser.bringP s 65536) 0 (.slice A7 (1 + m) c7))
    generalize putS w8 (w.heap.size + 1) 5 0 (1 + Ser.bringP t 6) H (1 + Ser.bringP p 4294967295) 0 (Ser.bringP s 65536) 0 (.slice A7 (1 + m) c7) = wd at *
    refine bodyPost_ret (v := .agg #[.int .i64 5, .int .i64 0, .int .i64 (1 + Ser.bringP t 6), .int .i64 H, .int .i64 (1 + Ser.bringP p 4294967295), .int .i64 0, .int .i64 (Ser.bringP s 65536), .int .i64 0, .slice A7 (1 + m) c7]) (by simp [results, Try.results21, go_sem, d0, d1, d2, d3, d4, d5, d6, d7, d8]) rfl ?_
    exact ⟨_, _, _, _, _, _, _, _, ([s % 256] ++ l.take m), _, _, _, rfl, ho9.lower (by omega), by unfold okS wayS; simp; omega, ((By.cons (by omega) By.nil).append (hl.take m)), hT9⟩
end Go.Proofs.Ytbniefgfiafaoaa.Oct
