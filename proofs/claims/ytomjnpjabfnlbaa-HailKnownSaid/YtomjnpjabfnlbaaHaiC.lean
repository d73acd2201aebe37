/- Layer 16 (hail): the guest. -/
import Derived.Test.YtomjnpjabfnlbaaHaiB
namespace Go.Proofs.Ytomjnpjabfnlbaa.Oct
open Go.RowKit
set_option linter.unusedVariables false
set_option linter.unusedSimpArgs false

/-- A guest in memory: its switch, its boot, its epoch. -/
def Gb (w : World) (g : Nat) (sf bo E : Int) : Prop := Vb 67 w g [.int .i64 sf, .int .i64 bo, .int .i64 E]
/-- A segment asks the guest for its boot; offers it an epoch. -/
def helloG (x : Sv) (sf : Int) : Bool := x.is 1 && (x.t == sf)
def offG (x : Sv) (sf bo : Int) : Bool := x.is 3 && ((x.t == sf) && (x.o == bo))
/-- What a guest answers by a segment, whether that is something, whether a session begins; its epoch then. -/
def ackG (x : Sv) (sf bo E : Int) : Bool := offG x sf bo && decide (E ≤ x.p)
def ansG (x : Sv) (sf bo E : Int) : Sv := if helloG x sf = true then svHi sf bo else if ackG x sf bo E = true then svAck sf x.p else sv0
def isG (x : Sv) (sf bo E : Int) : Bool := helloG x sf || ackG x sf bo E
def begG (x : Sv) (sf bo E : Int) : Bool := ackG x sf bo E && decide (E < x.p)
def epG (x : Sv) (sf bo E : Int) : Int := if ackG x sf bo E = true then x.p else E
theorem is_ne {x : Sv} {k m : Int} (h : x.is k = true) (hne : k ≠ m) : x.is m = false := by
  unfold Sv.is at h ⊢
  have := (Bool.and_eq_true_iff.mp h).1
  have e : x.k = k := by simpa using this
  rw [e, show (k == m) = false by simpa using hne]
  rfl
theorem hello_not {x : Sv} {sf bo : Int} (h : helloG x sf = true) : offG x sf bo = false := by
  have := (Bool.and_eq_true_iff.mp h).1
  unfold offG
  rw [is_ne this (by decide)]
  rfl
theorem off_not {x : Sv} {sf bo : Int} (h : offG x sf bo = true) : helloG x sf = false := by
  have := (Bool.and_eq_true_iff.mp h).1
  unfold helloG
  rw [is_ne this (by decide)]
  rfl
theorem Sv.is_ok {x : Sv} {k : Int} (h : x.is k = true) : okS x.k x.t x.f x.h x.p x.o x.s x.a x.n := x.ok_iff.1 (Bool.and_eq_true_iff.mp h).2
theorem Sv.is_k {x : Sv} {k : Int} (h : x.is k = true) : x.k = k := by simpa using (Bool.and_eq_true_iff.mp h).1
theorem off_pos {x : Sv} {sf bo : Int} (h : offG x sf bo = true) : 1 ≤ x.p ∧ x.p ≤ 4294967295 := by
  have h1 := (Bool.and_eq_true_iff.mp h).1
  have h2 := Sv.is_ok h1
  have h3 := Sv.is_k h1
  unfold okS at h2
  omega
section
variable {w w' : World} {g : Nat} {sf bo E : Int}
theorem Gb.below (h : Gb w g sf bo E) (hb : Below w.heap.size w w') : Gb w' g sf bo E := Vb.below h hb (Vb.lt h)
set_option maxRecDepth 100000 in
set_option maxHeartbeats 2000000 in
theorem gOffered (h0 : Gb w g sf bo E) (x : Sv) : Calls Try.prog 48 #[.pointer (some ⟨g, 0, none⟩), x.v] w fun en w' => en = .returned (.bool (offG x sf bo)) ∧ Below w.heap.size w w' := by
  have hx : offG x sf bo = (x.is 3 && ((x.t == sf) && (x.o == bo))) := rfl
  rw [hx]
  clear hx
  obtain ⟨k, t, f, h, p, o, s, a, A, n, c'⟩ := x
  have hS := H2.new (k := k) (t := t) (f := f) (h := h) (p := p) (o := o) (s := s) (a := a) (A := A) (n := n) (c := c') h0 _ rfl
  clear h0
  simp only [Sv.v]
  go_enter Try.func48, Try.ntmps48
  go_upto_region 1 with fail
  have hS0 := hS.step (Below.refl _ _).drew
  clear hS
  cases hg : Sv.is ⟨k, t, f, h, p, o, s, a, A, n, c'⟩ 3 with
  | false =>
    refine wp_region_held_drew (S := H2 w w.heap.size k t f h p o s a A n c' 67 g [.int .i64 sf, .int .i64 bo, .int .i64 E]) (by kernel_rfl) hS0 (fun _ => ?_)
    refine takeD (i := 0) (v := .agg #[.int .i64 k, .int .i64 t, .int .i64 f, .int .i64 h, .int .i64 p, .int .i64 o, .int .i64 s, .int .i64 a, .slice A n c']) (some 5) rfl rfl (by kernel_rfl) (by kernel_rfl) (by kernel_rfl) (fun _ _ _ h => h) (Or.inl ⟨by rfl, ?_⟩) hS0 ?_
    · rintro w' hq
      obtain ⟨d0, d1, d2, d3, d4, d5, d6, d7, d8⟩ := hq.nine
      go_simp
    try simp only [Act.put, List.setIfInBounds_toArray, List.set_cons_zero, List.set_cons_succ]
    refine wpAnyH_ready (rs := [1]) (by kernel_rfl) (by simp) ?_
    refine AllReadyH.cons rfl (fun K hK => ?_) AllReadyH.nil
    try rw [if_pos (by rfl)]
    go_simp
    refine (isOne_any ⟨k, t, f, h, p, o, s, a, A, n, c'⟩ 3 _).mono ?_
    rintro e u1 ⟨rfl, hb1⟩
    rw [hg]
    have hS1 := H2.step hS0 hb1
    refine hK.out _ _ hS1 (fun _ => ?_)
    clear hK K
    try simp only [Act.put, List.setIfInBounds_toArray, List.set_cons_zero, List.set_cons_succ]
    refine takeD (i := 2) (v := .bool false) (some 7) rfl rfl (by kernel_rfl) (by kernel_rfl) (by kernel_rfl) (fun _ _ _ h => h) (Or.inl ⟨by rfl, ?_⟩) hS1 ?_
    · rintro w' hq
      go_simp
    try simp only [Act.put, List.setIfInBounds_toArray, List.set_cons_zero, List.set_cons_succ]
    refine takeD (i := 3) (v := undef) (some 8) rfl rfl (by kernel_rfl) (by kernel_rfl) (by kernel_rfl) (fun _ _ _ h => h) (Or.inr ⟨by rfl, rfl⟩) hS1 ?_
    try simp only [Act.put, List.setIfInBounds_toArray, List.set_cons_zero, List.set_cons_succ]
    refine takeD (i := 4) (v := undef) (some 9) rfl rfl (by kernel_rfl) (by kernel_rfl) (by kernel_rfl) (fun _ _ _ h => h) (Or.inr ⟨by rfl, rfl⟩) hS1 ?_
    try simp only [Act.put, List.setIfInBounds_toArray, List.set_cons_zero, List.set_cons_succ]
    refine takeD (i := 5) (v := undef) (some 10) rfl rfl (by kernel_rfl) (by kernel_rfl) (by kernel_rfl) (fun _ _ _ h => h) (Or.inr ⟨by rfl, rfl⟩) hS1 ?_
    try simp only [Act.put, List.setIfInBounds_toArray, List.set_cons_zero, List.set_cons_succ]
    refine takeD (i := 6) (v := undef) (some 11) rfl rfl (by kernel_rfl) (by kernel_rfl) (by kernel_rfl) (fun _ _ _ h => h) (Or.inr ⟨by rfl, rfl⟩) hS1 ?_
    try simp only [Act.put, List.setIfInBounds_toArray, List.set_cons_zero, List.set_cons_succ]
    refine takeD (i := 7) (v := undef) (some 12) rfl rfl (by kernel_rfl) (by kernel_rfl) (by kernel_rfl) (fun _ _ _ h => h) (Or.inr ⟨by rfl, rfl⟩) hS1 ?_
    try simp only [Act.put, List.setIfInBounds_toArray, List.set_cons_zero, List.set_cons_succ]
    refine takeD (i := 8) (v := undef) (some 13) rfl rfl (by kernel_rfl) (by kernel_rfl) (by kernel_rfl) (fun _ _ _ h => h) (Or.inr ⟨by rfl, rfl⟩) hS1 ?_
    try simp only [Act.put, List.setIfInBounds_toArray, List.set_cons_zero, List.set_cons_succ]
    refine takeD (i := 9) (v := undef) (some 14) rfl rfl (by kernel_rfl) (by kernel_rfl) (by kernel_rfl) (fun _ _ _ h => h) (Or.inr ⟨by rfl, rfl⟩) hS1 ?_
    try simp only [Act.put, List.setIfInBounds_toArray, List.set_cons_zero, List.set_cons_succ]
    refine takeD (i := 10) (v := .bool false) (some 15) rfl rfl (by kernel_rfl) (by kernel_rfl) (by kernel_rfl) (fun _ _ _ h => h) (Or.inl ⟨by rfl, ?_⟩) hS1 ?_
    · rintro w' hq
      go_simp
    try simp only [Act.put, List.setIfInBounds_toArray, List.set_cons_zero, List.set_cons_succ]
    refine takeD (i := 11) (v := .bool false) (some 16) rfl rfl (by kernel_rfl) (by kernel_rfl) (by kernel_rfl) (fun _ _ _ h => h) (Or.inl ⟨by rfl, ?_⟩) hS1 ?_
    · rintro w' hq
      go_simp
    try simp only [Act.put, List.setIfInBounds_toArray, List.set_cons_zero, List.set_cons_succ]
    refine takeD (i := 12) (v := undef) (some 17) rfl rfl (by kernel_rfl) (by kernel_rfl) (by kernel_rfl) (fun _ _ _ h => h) (Or.inr ⟨by rfl, rfl⟩) hS1 ?_
    try simp only [Act.put, List.setIfInBounds_toArray, List.set_cons_zero, List.set_cons_succ]
    refine takeD (i := 13) (v := undef) (some 18) rfl rfl (by kernel_rfl) (by kernel_rfl) (by kernel_rfl) (fun _ _ _ h => h) (Or.inr ⟨by rfl, rfl⟩) hS1 ?_
    try simp only [Act.put, List.setIfInBounds_toArray, List.set_cons_zero, List.set_cons_succ]
    refine takeD (i := 14) (v := undef) (some 19) rfl rfl (by kernel_rfl) (by kernel_rfl) (by kernel_rfl) (fun _ _ _ h => h) (Or.inr ⟨by rfl, rfl⟩) hS1 ?_
    try simp only [Act.put, List.setIfInBounds_toArray, List.set_cons_zero, List.set_cons_succ]
    refine takeD (i := 15) (v := undef) (some 20) rfl rfl (by kernel_rfl) (by kernel_rfl) (by kernel_rfl) (fun _ _ _ h => h) (Or.inr ⟨by rfl, rfl⟩) hS1 ?_
    try simp only [Act.put, List.setIfInBounds_toArray, List.set_cons_zero, List.set_cons_succ]
    refine takeD (i := 16) (v := undef) (some 21) rfl rfl (by kernel_rfl) (by kernel_rfl) (by kernel_rfl) (fun _ _ _ h => h) (Or.inr ⟨by rfl, rfl⟩) hS1 ?_
    try simp only [Act.put, List.setIfInBounds_toArray, List.set_cons_zero, List.set_cons_succ]
    refine takeD (i := 17) (v := undef) (some 22) rfl rfl (by kernel_rfl) (by kernel_rfl) (by kernel_rfl) (fun _ _ _ h => h) (Or.inr ⟨by rfl, rfl⟩) hS1 ?_
    try simp only [Act.put, List.setIfInBounds_toArray, List.set_cons_zero, List.set_cons_succ]
    refine takeD (i := 18) (v := undef) (some 23) rfl rfl (by kernel_rfl) (by kernel_rfl) (by kernel_rfl) (fun _ _ _ h => h) (Or.inr ⟨by rfl, rfl⟩) hS1 ?_
    try simp only [Act.put, List.setIfInBounds_toArray, List.set_cons_zero, List.set_cons_succ]
    refine takeD (i := 19) (v := .bool false) (some 24) rfl rfl (by kernel_rfl) (by kernel_rfl) (by kernel_rfl) (fun _ _ _ h => h) (Or.inl ⟨by rfl, ?_⟩) hS1 ?_
    · rintro w' hq
      go_simp
    try simp only [Act.put, List.setIfInBounds_toArray, List.set_cons_zero, List.set_cons_succ]
    refine takeD (i := 20) (v := .bool false) (some 4) rfl rfl (by kernel_rfl) (by kernel_rfl) (by kernel_rfl) (fun _ _ _ h => h) (Or.inl ⟨by rfl, ?_⟩) hS1 ?_
    · rintro w' hq
      go_simp
    try simp only [Act.put, List.setIfInBounds_toArray, List.set_cons_zero, List.set_cons_succ]
    refine wpAnyH_done (by kernel_rfl) ?_ _
    go_wp2_with fail
    go_ret
    exact ⟨by rw [hg] <;> rfl, hS1.old⟩
  | true =>
    cases ht : (t == sf) with
    | false =>
      refine wp_region_held_drew (S := H2 w w.heap.size k t f h p o s a A n c' 67 g [.int .i64 sf, .int .i64 bo, .int .i64 E]) (by kernel_rfl) hS0 (fun _ => ?_)
      refine takeD (i := 0) (v := .agg #[.int .i64 k, .int .i64 t, .int .i64 f, .int .i64 h, .int .i64 p, .int .i64 o, .int .i64 s, .int .i64 a, .slice A n c']) (some 5) rfl rfl (by kernel_rfl) (by kernel_rfl) (by kernel_rfl) (fun _ _ _ h => h) (Or.inl ⟨by rfl, ?_⟩) hS0 ?_
      · rintro w' hq
        obtain ⟨d0, d1, d2, d3, d4, d5, d6, d7, d8⟩ := hq.nine
        go_simp
      try simp only [Act.put, List.setIfInBounds_toArray, List.set_cons_zero, List.set_cons_succ]
      refine wpAnyH_ready (rs := [1]) (by kernel_rfl) (by simp) ?_
      refine AllReadyH.cons rfl (fun K hK => ?_) AllReadyH.nil
      try rw [if_pos (by rfl)]
      go_simp
      refine (isOne_any ⟨k, t, f, h, p, o, s, a, A, n, c'⟩ 3 _).mono ?_
      rintro e u1 ⟨rfl, hb1⟩
      rw [hg]
      have hS1 := H2.step hS0 hb1
      refine hK.out _ _ hS1 (fun _ => ?_)
      clear hK K
      try simp only [Act.put, List.setIfInBounds_toArray, List.set_cons_zero, List.set_cons_succ]
      refine takeD (i := 2) (v := .bool true) (some 7) rfl rfl (by kernel_rfl) (by kernel_rfl) (by kernel_rfl) (fun _ _ _ h => h) (Or.inl ⟨by rfl, ?_⟩) hS1 ?_
      · rintro w' hq
        go_simp
      try simp only [Act.put, List.setIfInBounds_toArray, List.set_cons_zero, List.set_cons_succ]
      refine takeD (i := 3) (v := .pointer (some ⟨w.heap.size, 1, none⟩)) (some 8) rfl rfl (by kernel_rfl) (by kernel_rfl) (by kernel_rfl) (fun _ _ _ h => h) (Or.inl ⟨by rfl, ?_⟩) hS1 ?_
      · rintro w' hq
        go_simp
      try simp only [Act.put, List.setIfInBounds_toArray, List.set_cons_zero, List.set_cons_succ]
      refine takeD (i := 4) (v := .int .i64 t) (some 9) rfl rfl (by kernel_rfl) (by kernel_rfl) (by kernel_rfl) (fun _ _ _ h => h) (Or.inl ⟨by rfl, ?_⟩) hS1 ?_
      · rintro w' hq
        obtain ⟨d0, d1, d2, d3, d4, d5, d6, d7, d8⟩ := hq.nine
        go_simp
      try simp only [Act.put, List.setIfInBounds_toArray, List.set_cons_zero, List.set_cons_succ]
      refine takeD (i := 5) (v := .pointer (some ⟨g, 0, none⟩)) (some 10) rfl rfl (by kernel_rfl) (by kernel_rfl) (by kernel_rfl) (fun _ _ _ h => h) (Or.inl ⟨by rfl, ?_⟩) hS1 ?_
      · rintro w' hq
        go_simp
      try simp only [Act.put, List.setIfInBounds_toArray, List.set_cons_zero, List.set_cons_succ]
      refine takeD (i := 6) (v := .pointer (some ⟨g, 0, none⟩)) (some 11) rfl rfl (by kernel_rfl) (by kernel_rfl) (by kernel_rfl) (fun _ _ _ h => h) (Or.inl ⟨by rfl, ?_⟩) hS1 ?_
      · rintro w' hq
        go_simp
      try simp only [Act.put, List.setIfInBounds_toArray, List.set_cons_zero, List.set_cons_succ]
      refine takeD (i := 7) (v := .pointer (some ⟨g, 0, none⟩)) (some 12) rfl rfl (by kernel_rfl) (by kernel_rfl) (by kernel_rfl) (fun _ _ _ h => h) (Or.inl ⟨by rfl, ?_⟩) hS1 ?_
      · rintro w' hq
        go_simp
      try simp only [Act.put, List.setIfInBounds_toArray, List.set_cons_zero, List.set_cons_succ]
      refine takeD (i := 8) (v := .int .i64 sf) (some 13) rfl rfl (by kernel_rfl) (by kernel_rfl) (by kernel_rfl) (fun _ _ _ h => h) (Or.inl ⟨by rfl, ?_⟩) hS1 ?_
      · rintro w' hq
        have c0 := hq.r.cell 0 rfl
        go_simp
      try simp only [Act.put, List.setIfInBounds_toArray, List.set_cons_zero, List.set_cons_succ]
      refine takeD (i := 9) (v := .bool false) (some 14) rfl rfl (by kernel_rfl) (by kernel_rfl) (by kernel_rfl) (fun _ _ _ h => h) (Or.inl ⟨by rfl, ?_⟩) hS1 ?_
      · rintro w' hq
        go_simp
        first | done | omega | simpa using ht
      try simp only [Act.put, List.setIfInBounds_toArray, List.set_cons_zero, List.set_cons_succ]
      refine takeD (i := 10) (v := .bool false) (some 15) rfl rfl (by kernel_rfl) (by kernel_rfl) (by kernel_rfl) (fun _ _ _ h => h) (Or.inl ⟨by rfl, ?_⟩) hS1 ?_
      · rintro w' hq
        go_simp
      try simp only [Act.put, List.setIfInBounds_toArray, List.set_cons_zero, List.set_cons_succ]
      refine takeD (i := 11) (v := .bool false) (some 16) rfl rfl (by kernel_rfl) (by kernel_rfl) (by kernel_rfl) (fun _ _ _ h => h) (Or.inl ⟨by rfl, ?_⟩) hS1 ?_
      · rintro w' hq
        go_simp
      try simp only [Act.put, List.setIfInBounds_toArray, List.set_cons_zero, List.set_cons_succ]
      refine takeD (i := 12) (v := undef) (some 17) rfl rfl (by kernel_rfl) (by kernel_rfl) (by kernel_rfl) (fun _ _ _ h => h) (Or.inr ⟨by rfl, rfl⟩) hS1 ?_
      try simp only [Act.put, List.setIfInBounds_toArray, List.set_cons_zero, List.set_cons_succ]
      refine takeD (i := 13) (v := undef) (some 18) rfl rfl (by kernel_rfl) (by kernel_rfl) (by kernel_rfl) (fun _ _ _ h => h) (Or.inr ⟨by rfl, rfl⟩) hS1 ?_
      try simp only [Act.put, List.setIfInBounds_toArray, List.set_cons_zero, List.set_cons_succ]
      refine takeD (i := 14) (v := undef) (some 19) rfl rfl (by kernel_rfl) (by kernel_rfl) (by kernel_rfl) (fun _ _ _ h => h) (Or.inr ⟨by rfl, rfl⟩) hS1 ?_
      try simp only [Act.put, List.setIfInBounds_toArray, List.set_cons_zero, List.set_cons_succ]
      refine takeD (i := 15) (v := undef) (some 20) rfl rfl (by kernel_rfl) (by kernel_rfl) (by kernel_rfl) (fun _ _ _ h => h) (Or.inr ⟨by rfl, rfl⟩) hS1 ?_
      try simp only [Act.put, List.setIfInBounds_toArray, List.set_cons_zero, List.set_cons_succ]
      refine takeD (i := 16) (v := undef) (some 21) rfl rfl (by kernel_rfl) (by kernel_rfl) (by kernel_rfl) (fun _ _ _ h => h) (Or.inr ⟨by rfl, rfl⟩) hS1 ?_
      try simp only [Act.put, List.setIfInBounds_toArray, List.set_cons_zero, List.set_cons_succ]
      refine takeD (i := 17) (v := undef) (some 22) rfl rfl (by kernel_rfl) (by kernel_rfl) (by kernel_rfl) (fun _ _ _ h => h) (Or.inr ⟨by rfl, rfl⟩) hS1 ?_
      try simp only [Act.put, List.setIfInBounds_toArray, List.set_cons_zero, List.set_cons_succ]
      refine takeD (i := 18) (v := undef) (some 23) rfl rfl (by kernel_rfl) (by kernel_rfl) (by kernel_rfl) (fun _ _ _ h => h) (Or.inr ⟨by rfl, rfl⟩) hS1 ?_
      try simp only [Act.put, List.setIfInBounds_toArray, List.set_cons_zero, List.set_cons_succ]
      refine takeD (i := 19) (v := .bool false) (some 24) rfl rfl (by kernel_rfl) (by kernel_rfl) (by kernel_rfl) (fun _ _ _ h => h) (Or.inl ⟨by rfl, ?_⟩) hS1 ?_
      · rintro w' hq
        go_simp
      try simp only [Act.put, List.setIfInBounds_toArray, List.set_cons_zero, List.set_cons_succ]
      refine takeD (i := 20) (v := .bool false) (some 4) rfl rfl (by kernel_rfl) (by kernel_rfl) (by kernel_rfl) (fun _ _ _ h => h) (Or.inl ⟨by rfl, ?_⟩) hS1 ?_
      · rintro w' hq
        go_simp
      try simp only [Act.put, List.setIfInBounds_toArray, List.set_cons_zero, List.set_cons_succ]
      refine wpAnyH_done (by kernel_rfl) ?_ _
      go_wp2_with fail
      go_ret
      exact ⟨by rw [hg, ht] <;> rfl, hS1.old⟩
    | true =>
      cases ho : (o == bo) with
      | false =>
        refine wp_region_held_drew (S := H2 w w.heap.size k t f h p o s a A n c' 67 g [.int .i64 sf, .int .i64 bo, .int .i64 E]) (by kernel_rfl) hS0 (fun _ => ?_)
        refine takeD (i := 0) (v := .agg #[.int .i64 k, .int .i64 t, .int .i64 f, .int .i64 h, .int .i64 p, .int .i64 o, .int .i64 s, .int .i64 a, .slice A n c']) (some 5) rfl rfl (by kernel_rfl) (by kernel_rfl) (by kernel_rfl) (fun _ _ _ h => h) (Or.inl ⟨by rfl, ?_⟩) hS0 ?_
        · rintro w' hq
          obtain ⟨d0, d1, d2, d3, d4, d5, d6, d7, d8⟩ := hq.nine
          go_simp
        try simp only [Act.put, List.setIfInBounds_toArray, List.set_cons_zero, List.set_cons_succ]
        refine wpAnyH_ready (rs := [1]) (by kernel_rfl) (by simp) ?_
        refine AllReadyH.cons rfl (fun K hK => ?_) AllReadyH.nil
        try rw [if_pos (by rfl)]
        go_simp
        refine (isOne_any ⟨k, t, f, h, p, o, s, a, A, n, c'⟩ 3 _).mono ?_
        rintro e u1 ⟨rfl, hb1⟩
        rw [hg]
        have hS1 := H2.step hS0 hb1
        refine hK.out _ _ hS1 (fun _ => ?_)
        clear hK K
        try simp only [Act.put, List.setIfInBounds_toArray, List.set_cons_zero, List.set_cons_succ]
        refine takeD (i := 2) (v := .bool true) (some 7) rfl rfl (by kernel_rfl) (by kernel_rfl) (by kernel_rfl) (fun _ _ _ h => h) (Or.inl ⟨by rfl, ?_⟩) hS1 ?_
        · rintro w' hq
          go_simp
        try simp only [Act.put, List.setIfInBounds_toArray, List.set_cons_zero, List.set_cons_succ]
        refine takeD (i := 3) (v := .pointer (some ⟨w.heap.size, 1, none⟩)) (some 8) rfl rfl (by kernel_rfl) (by kernel_rfl) (by kernel_rfl) (fun _ _ _ h => h) (Or.inl ⟨by rfl, ?_⟩) hS1 ?_
        · rintro w' hq
          go_simp
        try simp only [Act.put, List.setIfInBounds_toArray, List.set_cons_zero, List.set_cons_succ]
        refine takeD (i := 4) (v := .int .i64 t) (some 9) rfl rfl (by kernel_rfl) (by kernel_rfl) (by kernel_rfl) (fun _ _ _ h => h) (Or.inl ⟨by rfl, ?_⟩) hS1 ?_
        · rintro w' hq
          obtain ⟨d0, d1, d2, d3, d4, d5, d6, d7, d8⟩ := hq.nine
          go_simp
        try simp only [Act.put, List.setIfInBounds_toArray, List.set_cons_zero, List.set_cons_succ]
        refine takeD (i := 5) (v := .pointer (some ⟨g, 0, none⟩)) (some 10) rfl rfl (by kernel_rfl) (by kernel_rfl) (by kernel_rfl) (fun _ _ _ h => h) (Or.inl ⟨by rfl, ?_⟩) hS1 ?_
        · rintro w' hq
          go_simp
        try simp only [Act.put, List.setIfInBounds_toArray, List.set_cons_zero, List.set_cons_succ]
        refine takeD (i := 6) (v := .pointer (some ⟨g, 0, none⟩)) (some 11) rfl rfl (by kernel_rfl) (by kernel_rfl) (by kernel_rfl) (fun _ _ _ h => h) (Or.inl ⟨by rfl, ?_⟩) hS1 ?_
        · rintro w' hq
          go_simp
        try simp only [Act.put, List.setIfInBounds_toArray, List.set_cons_zero, List.set_cons_succ]
        refine takeD (i := 7) (v := .pointer (some ⟨g, 0, none⟩)) (some 12) rfl rfl (by kernel_rfl) (by kernel_rfl) (by kernel_rfl) (fun _ _ _ h => h) (Or.inl ⟨by rfl, ?_⟩) hS1 ?_
        · rintro w' hq
          go_simp
        try simp only [Act.put, List.setIfInBounds_toArray, List.set_cons_zero, List.set_cons_succ]
        refine takeD (i := 8) (v := .int .i64 sf) (some 13) rfl rfl (by kernel_rfl) (by kernel_rfl) (by kernel_rfl) (fun _ _ _ h => h) (Or.inl ⟨by rfl, ?_⟩) hS1 ?_
        · rintro w' hq
          have c0 := hq.r.cell 0 rfl
          go_simp
        try simp only [Act.put, List.setIfInBounds_toArray, List.set_cons_zero, List.set_cons_succ]
        refine takeD (i := 9) (v := .bool true) (some 14) rfl rfl (by kernel_rfl) (by kernel_rfl) (by kernel_rfl) (fun _ _ _ h => h) (Or.inl ⟨by rfl, ?_⟩) hS1 ?_
        · rintro w' hq
          go_simp
          first | done | omega | simpa using ht
        try simp only [Act.put, List.setIfInBounds_toArray, List.set_cons_zero, List.set_cons_succ]
        refine takeD (i := 10) (v := .bool true) (some 15) rfl rfl (by kernel_rfl) (by kernel_rfl) (by kernel_rfl) (fun _ _ _ h => h) (Or.inl ⟨by rfl, ?_⟩) hS1 ?_
        · rintro w' hq
          go_simp
        try simp only [Act.put, List.setIfInBounds_toArray, List.set_cons_zero, List.set_cons_succ]
        refine takeD (i := 11) (v := .bool true) (some 16) rfl rfl (by kernel_rfl) (by kernel_rfl) (by kernel_rfl) (fun _ _ _ h => h) (Or.inl ⟨by rfl, ?_⟩) hS1 ?_
        · rintro w' hq
          go_simp
        try simp only [Act.put, List.setIfInBounds_toArray, List.set_cons_zero, List.set_cons_succ]
        refine takeD (i := 12) (v := .pointer (some ⟨w.heap.size, 5, none⟩)) (some 17) rfl rfl (by kernel_rfl) (by kernel_rfl) (by kernel_rfl) (fun _ _ _ h => h) (Or.inl ⟨by rfl, ?_⟩) hS1 ?_
        · rintro w' hq
          go_simp
        try simp only [Act.put, List.setIfInBounds_toArray, List.set_cons_zero, List.set_cons_succ]
        refine takeD (i := 13) (v := .int .i64 o) (some 18) rfl rfl (by kernel_rfl) (by kernel_rfl) (by kernel_rfl) (fun _ _ _ h => h) (Or.inl ⟨by rfl, ?_⟩) hS1 ?_
        · rintro w' hq
          obtain ⟨d0, d1, d2, d3, d4, d5, d6, d7, d8⟩ := hq.nine
          go_simp
        try simp only [Act.put, List.setIfInBounds_toArray, List.set_cons_zero, List.set_cons_succ]
        refine takeD (i := 14) (v := .pointer (some ⟨g, 0, none⟩)) (some 19) rfl rfl (by kernel_rfl) (by kernel_rfl) (by kernel_rfl) (fun _ _ _ h => h) (Or.inl ⟨by rfl, ?_⟩) hS1 ?_
        · rintro w' hq
          go_simp
        try simp only [Act.put, List.setIfInBounds_toArray, List.set_cons_zero, List.set_cons_succ]
        refine takeD (i := 15) (v := .pointer (some ⟨g, 0, none⟩)) (some 20) rfl rfl (by kernel_rfl) (by kernel_rfl) (by kernel_rfl) (fun _ _ _ h => h) (Or.inl ⟨by rfl, ?_⟩) hS1 ?_
        · rintro w' hq
          go_simp
        try simp only [Act.put, List.setIfInBounds_toArray, List.set_cons_zero, List.set_cons_succ]
        refine takeD (i := 16) (v := .pointer (some ⟨g, 1, none⟩)) (some 21) rfl rfl (by kernel_rfl) (by kernel_rfl) (by kernel_rfl) (fun _ _ _ h => h) (Or.inl ⟨by rfl, ?_⟩) hS1 ?_
        · rintro w' hq
          go_simp
        try simp only [Act.put, List.setIfInBounds_toArray, List.set_cons_zero, List.set_cons_succ]
        refine takeD (i := 17) (v := .int .i64 bo) (some 22) rfl rfl (by kernel_rfl) (by kernel_rfl) (by kernel_rfl) (fun _ _ _ h => h) (Or.inl ⟨by rfl, ?_⟩) hS1 ?_
        · rintro w' hq
          have c0 := hq.r.cell 1 rfl
          go_simp
        try simp only [Act.put, List.setIfInBounds_toArray, List.set_cons_zero, List.set_cons_succ]
        refine takeD (i := 18) (v := .bool false) (some 23) rfl rfl (by kernel_rfl) (by kernel_rfl) (by kernel_rfl) (fun _ _ _ h => h) (Or.inl ⟨by rfl, ?_⟩) hS1 ?_
        · rintro w' hq
          go_simp
          first | done | omega | simpa using ho
        try simp only [Act.put, List.setIfInBounds_toArray, List.set_cons_zero, List.set_cons_succ]
        refine takeD (i := 19) (v := .bool false) (some 24) rfl rfl (by kernel_rfl) (by kernel_rfl) (by kernel_rfl) (fun _ _ _ h => h) (Or.inl ⟨by rfl, ?_⟩) hS1 ?_
        · rintro w' hq
          go_simp
        try simp only [Act.put, List.setIfInBounds_toArray, List.set_cons_zero, List.set_cons_succ]
        refine takeD (i := 20) (v := .bool false) (some 4) rfl rfl (by kernel_rfl) (by kernel_rfl) (by kernel_rfl) (fun _ _ _ h => h) (Or.inl ⟨by rfl, ?_⟩) hS1 ?_
        · rintro w' hq
          go_simp
        try simp only [Act.put, List.setIfInBounds_toArray, List.set_cons_zero, List.set_cons_succ]
        refine wpAnyH_done (by kernel_rfl) ?_ _
        go_wp2_with fail
        go_ret
        exact ⟨by rw [hg, ht, ho] <;> rfl, hS1.old⟩
      | true =>
        refine wp_region_held_drew (S := H2 w w.heap.size k t f h p o s a A n c' 67 g [.int .i64 sf, .int .i64 bo, .int .i64 E]) (by kernel_rfl) hS0 (fun _ => ?_)
        refine takeD (i := 0) (v := .agg #[.int .i64 k, .int .i64 t, .int .i64 f, .int .i64 h, .int .i64 p, .int .i64 o, .int .i64 s, .int .i64 a, .slice A n c']) (some 5) rfl rfl (by kernel_rfl) (by kernel_rfl) (by kernel_rfl) (fun _ _ _ h => h) (Or.inl ⟨by rfl, ?_⟩) hS0 ?_
        · rintro w' hq
          obtain ⟨d0, d1, d2, d3, d4, d5, d6, d7, d8⟩ := hq.nine
          go_simp
        try simp only [Act.put, List.setIfInBounds_toArray, List.set_cons_zero, List.set_cons_succ]
        refine wpAnyH_ready (rs := [1]) (by kernel_rfl) (by simp) ?_
        refine AllReadyH.cons rfl (fun K hK => ?_) AllReadyH.nil
        try rw [if_pos (by rfl)]
        go_simp
        refine (isOne_any ⟨k, t, f, h, p, o, s, a, A, n, c'⟩ 3 _).mono ?_
        rintro e u1 ⟨rfl, hb1⟩
        rw [hg]
        have hS1 := H2.step hS0 hb1
        refine hK.out _ _ hS1 (fun _ => ?_)
        clear hK K
        try simp only [Act.put, List.setIfInBounds_toArray, List.set_cons_zero, List.set_cons_succ]
        refine takeD (i := 2) (v := .bool true) (some 7) rfl rfl (by kernel_rfl) (by kernel_rfl) (by kernel_rfl) (fun _ _ _ h => h) (Or.inl ⟨by rfl, ?_⟩) hS1 ?_
        · rintro w' hq
          go_simp
        try simp only [Act.put, List.setIfInBounds_toArray, List.set_cons_zero, List.set_cons_succ]
        refine takeD (i := 3) (v := .pointer (some ⟨w.heap.size, 1, none⟩)) (some 8) rfl rfl (by kernel_rfl) (by kernel_rfl) (by kernel_rfl) (fun _ _ _ h => h) (Or.inl ⟨by rfl, ?_⟩) hS1 ?_
        · rintro w' hq
          go_simp
        try simp only [Act.put, List.setIfInBounds_toArray, List.set_cons_zero, List.set_cons_succ]
        refine takeD (i := 4) (v := .int .i64 t) (some 9) rfl rfl (by kernel_rfl) (by kernel_rfl) (by kernel_rfl) (fun _ _ _ h => h) (Or.inl ⟨by rfl, ?_⟩) hS1 ?_
        · rintro w' hq
          obtain ⟨d0, d1, d2, d3, d4, d5, d6, d7, d8⟩ := hq.nine
          go_simp
        try simp only [Act.put, List.setIfInBounds_toArray, List.set_cons_zero, List.set_cons_succ]
        refine takeD (i := 5) (v := .pointer (some ⟨g, 0, none⟩)) (some 10) rfl rfl (by kernel_rfl) (by kernel_rfl) (by kernel_rfl) (fun _ _ _ h => h) (Or.inl ⟨by rfl, ?_⟩) hS1 ?_
        · rintro w' hq
          go_simp
        try simp only [Act.put, List.setIfInBounds_toArray, List.set_cons_zero, List.set_cons_succ]
        refine takeD (i := 6) (v := .pointer (some ⟨g, 0, none⟩)) (some 11) rfl rfl (by kernel_rfl) (by kernel_rfl) (by kernel_rfl) (fun _ _ _ h => h) (Or.inl ⟨by rfl, ?_⟩) hS1 ?_
        · rintro w' hq
          go_simp
        try simp only [Act.put, List.setIfInBounds_toArray, List.set_cons_zero, List.set_cons_succ]
        refine takeD (i := 7) (v := .pointer (some ⟨g, 0, none⟩)) (some 12) rfl rfl (by kernel_rfl) (by kernel_rfl) (by kernel_rfl) (fun _ _ _ h => h) (Or.inl ⟨by rfl, ?_⟩) hS1 ?_
        · rintro w' hq
          go_simp
        try simp only [Act.put, List.setIfInBounds_toArray, List.set_cons_zero, List.set_cons_succ]
        refine takeD (i := 8) (v := .int .i64 sf) (some 13) rfl rfl (by kernel_rfl) (by kernel_rfl) (by kernel_rfl) (fun _ _ _ h => h) (Or.inl ⟨by rfl, ?_⟩) hS1 ?_
        · rintro w' hq
          have c0 := hq.r.cell 0 rfl
          go_simp
        try simp only [Act.put, List.setIfInBounds_toArray, List.set_cons_zero, List.set_cons_succ]
        refine takeD (i := 9) (v := .bool true) (some 14) rfl rfl (by kernel_rfl) (by kernel_rfl) (by kernel_rfl) (fun _ _ _ h => h) (Or.inl ⟨by rfl, ?_⟩) hS1 ?_
        · rintro w' hq
          go_simp
          first | done | omega | simpa using ht
        try simp only [Act.put, List.setIfInBounds_toArray, List.set_cons_zero, List.set_cons_succ]
        refine takeD (i := 10) (v := .bool true) (some 15) rfl rfl (by kernel_rfl) (by kernel_rfl) (by kernel_rfl) (fun _ _ _ h => h) (Or.inl ⟨by rfl, ?_⟩) hS1 ?_
        · rintro w' hq
          go_simp
        try simp only [Act.put, List.setIfInBounds_toArray, List.set_cons_zero, List.set_cons_succ]
        refine takeD (i := 11) (v := .bool true) (some 16) rfl rfl (by kernel_rfl) (by kernel_rfl) (by kernel_rfl) (fun _ _ _ h => h) (Or.inl ⟨by rfl, ?_⟩) hS1 ?_
        · rintro w' hq
          go_simp
        try simp only [Act.put, List.setIfInBounds_toArray, List.set_cons_zero, List.set_cons_succ]
        refine takeD (i := 12) (v := .pointer (some ⟨w.heap.size, 5, none⟩)) (some 17) rfl rfl (by kernel_rfl) (by kernel_rfl) (by kernel_rfl) (fun _ _ _ h => h) (Or.inl ⟨by rfl, ?_⟩) hS1 ?_
        · rintro w' hq
          go_simp
        try simp only [Act.put, List.setIfInBounds_toArray, List.set_cons_zero, List.set_cons_succ]
        refine takeD (i := 13) (v := .int .i64 o) (some 18) rfl rfl (by kernel_rfl) (by kernel_rfl) (by kernel_rfl) (fun _ _ _ h => h) (Or.inl ⟨by rfl, ?_⟩) hS1 ?_
        · rintro w' hq
          obtain ⟨d0, d1, d2, d3, d4, d5, d6, d7, d8⟩ := hq.nine
          go_simp
        try simp only [Act.put, List.setIfInBounds_toArray, List.set_cons_zero, List.set_cons_succ]
        refine takeD (i := 14) (v := .pointer (some ⟨g, 0, none⟩)) (some 19) rfl rfl (by kernel_rfl) (by kernel_rfl) (by kernel_rfl) (fun _ _ _ h => h) (Or.inl ⟨by rfl, ?_⟩) hS1 ?_
        · rintro w' hq
          go_simp
        try simp only [Act.put, List.setIfInBounds_toArray, List.set_cons_zero, List.set_cons_succ]
        refine takeD (i := 15) (v := .pointer (some ⟨g, 0, none⟩)) (some 20) rfl rfl (by kernel_rfl) (by kernel_rfl) (by kernel_rfl) (fun _ _ _ h => h) (Or.inl ⟨by rfl, ?_⟩) hS1 ?_
        · rintro w' hq
          go_simp
        try simp only [Act.put, List.setIfInBounds_toArray, List.set_cons_zero, List.set_cons_succ]
        refine takeD (i := 16) (v := .pointer (some ⟨g, 1, none⟩)) (some 21) rfl rfl (by kernel_rfl) (by kernel_rfl) (by kernel_rfl) (fun _ _ _ h => h) (Or.inl ⟨by rfl, ?_⟩) hS1 ?_
        · rintro w' hq
          go_simp
        try simp only [Act.put, List.setIfInBounds_toArray, List.set_cons_zero, List.set_cons_succ]
        refine takeD (i := 17) (v := .int .i64 bo) (some 22) rfl rfl (by kernel_rfl) (by kernel_rfl) (by kernel_rfl) (fun _ _ _ h => h) (Or.inl ⟨by rfl, ?_⟩) hS1 ?_
        · rintro w' hq
          have c0 := hq.r.cell 1 rfl
          go_simp
        try simp only [Act.put, List.setIfInBounds_toArray, List.set_cons_zero, List.set_cons_succ]
        refine takeD (i := 18) (v := .bool true) (some 23) rfl rfl (by kernel_rfl) (by kernel_rfl) (by kernel_rfl) (fun _ _ _ h => h) (Or.inl ⟨by rfl, ?_⟩) hS1 ?_
        · rintro w' hq
          go_simp
          first | done | omega | simpa using ho
        try simp only [Act.put, List.setIfInBounds_toArray, List.set_cons_zero, List.set_cons_succ]
        refine takeD (i := 19) (v := .bool true) (some 24) rfl rfl (by kernel_rfl) (by kernel_rfl) (by kernel_rfl) (fun _ _ _ h => h) (Or.inl ⟨by rfl, ?_⟩) hS1 ?_
        · rintro w' hq
          go_simp
        try simp only [Act.put, List.setIfInBounds_toArray, List.set_cons_zero, List.set_cons_succ]
        refine takeD (i := 20) (v := .bool true) (some 4) rfl rfl (by kernel_rfl) (by kernel_rfl) (by kernel_rfl) (fun _ _ _ h => h) (Or.inl ⟨by rfl, ?_⟩) hS1 ?_
        · rintro w' hq
          go_simp
        try simp only [Act.put, List.setIfInBounds_toArray, List.set_cons_zero, List.set_cons_succ]
        refine wpAnyH_done (by kernel_rfl) ?_ _
        go_wp2_with fail
        go_ret
        exact ⟨by rw [hg, ht, ho] <;> rfl, hS1.old⟩
set_option maxRecDepth 100000 in
theorem g_hi (h : Gb w g sf bo E) : Calls Try.prog 47 #[.pointer (some ⟨g, 0, none⟩)] w fun en w' => en = .returned (svHi sf bo).v ∧ Below w.heap.size w w' := by
  have HN := Kp.mk (new_seg w (svHi sf bo))
  have c0 := (Vb.cell (Vb.alloc h (.cells #[.int .i64 0, .int .i64 0, .int .i64 0, .int .i64 0, .int .i64 0, .int .i64 0, .int .i64 0, .int .i64 0, .slice none 0 0] 31)) 0 rfl)
  have c1 := (Vb.cell (Vb.alloc h (.cells #[.int .i64 0, .int .i64 0, .int .i64 0, .int .i64 0, .int .i64 0, .int .i64 0, .int .i64 0, .int .i64 0, .slice none 0 0] 31)) 1 rfl)
  clear h
  go_enter Try.func47, Try.ntmps47
  go_upto_region 1 with fail
  go_region
  clear c0 c1
  go_wp2_with fail
  have hv := HN.out.1.below (Below.refl _ _).drew HN.out.1.lt
  refine bodyPost_ret (v := (svHi sf bo).v) (results_one Try.results47 _ rfl hv agg_seg) rfl ?_
  exact ⟨rfl, HN.out.2.drew⟩
set_option maxRecDepth 100000 in
theorem g_ack (h : Gb w g sf bo E) : Calls Try.prog 49 #[.pointer (some ⟨g, 0, none⟩)] w fun en w' => en = .returned (svAck sf E).v ∧ Below w.heap.size w w' := by
  have HN := Kp.mk (new_seg w (svAck sf E))
  have c0 := (Vb.cell (Vb.alloc h (.cells #[.int .i64 0, .int .i64 0, .int .i64 0, .int .i64 0, .int .i64 0, .int .i64 0, .int .i64 0, .int .i64 0, .slice none 0 0] 31)) 0 rfl)
  have c1 := (Vb.cell (Vb.alloc h (.cells #[.int .i64 0, .int .i64 0, .int .i64 0, .int .i64 0, .int .i64 0, .int .i64 0, .int .i64 0, .int .i64 0, .slice none 0 0] 31)) 2 rfl)
  clear h
  go_enter Try.func49, Try.ntmps49
  go_upto_region 1 with fail
  go_region
  clear c0 c1
  go_wp2_with fail
  have hv := HN.out.1.below (Below.refl _ _).drew HN.out.1.lt
  refine bodyPost_ret (v := (svAck sf E).v) (results_one Try.results49 _ rfl hv agg_seg) rfl ?_
  exact ⟨rfl, HN.out.2.drew⟩
/-- What the guest that has no session answers; and what it does with an epoch that is offered. -/
def ansA (x : Sv) (sf bo : Int) : Sv := if helloG x sf = true then svHi sf bo else if offG x sf bo = true then svAck sf x.p else sv0
def epA (x : Sv) (sf bo E : Int) : Int := if offG x sf bo = true then x.p else E
theorem allocZ (w : World) (o : Obj) : (w.alloc o).heap.size = w.heap.size + 1 := by simp
theorem results_three {fn : Func} {p r1 r2 : Tmp} {T ty : TypeId} {w : World} {g : Nat} {vs : List Value} (h : fn.results = #[.cell p ty, .tmp r1, .tmp r2]) (tmps : Array Value) (hp : tmps.getD p undef = .pointer (some ⟨g, 0, none⟩)) (hv : Vb T w g vs) (ht : Agg ty vs.length) :
    (results fn tmps).run Try.prog w = .ok (.tuple #[.agg vs.toArray, tmps.getD r1 undef, tmps.getD r2 undef]) w := by
  have hp' : tmps[p]?.getD undef = .pointer (some ⟨g, 0, none⟩) := by simpa using hp
  have hl : (loadVar ty ⟨g, 0, none⟩).run Try.prog w = .ok (.agg vs.toArray) w := run_loadVb hv (by simp) ht
  simp [results, h, hp', asAddr, hl]
theorem wp_store_vbH {T ty : TypeId} {w : World} {g : Nat} {cs vs : List Value} {o : Oper} {a : Act} {K : Act → World → Prop} {Q : Exit → Act → World → Prop} (d : Option Tmp) (hd : o.dst = d) (x y : Operand) (ho : o.op = .store ty x y) (hx : a.eval x = .pointer (some ⟨g, 0, none⟩)) (hy : a.eval y = .agg vs.toArray) (hv : Vb T w g cs) (hl : cs.length = vs.length) (ht : Agg ty vs.length)
    (h1 : vs.all (·.oneCell') = true)
    (h : ∀ w', Vb T w' g vs → w.grownBy w' (some g) → w'.heap.size = w.heap.size → K (a.put d undef) w') : o.wp Try.prog a w K Q := by
  subst hd
  exact wp_store_row ty x y ho g vs.toArray hx hy T cs.toArray hv (by simpa using ht.2) (by simpa using hl) (by simpa using h1) (h _ (setRow_vb hv hl) (setRow_grown _ _ _) (setRow_size _ _ _))
set_option maxRecDepth 100000 in
set_option maxHeartbeats 2000000 in
theorem gAll_hello (h0 : Gb w g sf bo E) (x : Sv) (hx : helloG x sf = true) : Calls Try.prog 42 #[.pointer (some ⟨g, 0, none⟩), x.v] w fun en w' => en = .returned (.tuple #[(svHi sf bo).v, .bool true, .bool false]) ∧ Below w.heap.size w w' := by
  have hg := (Bool.and_eq_true_iff.mp hx).1
  have ht := (Bool.and_eq_true_iff.mp hx).2
  clear hx
  obtain ⟨k, t, f, h, p, o, s, a, A, n, c'⟩ := x
  have hS := H2.new (k := k) (t := t) (f := f) (h := h) (p := p) (o := o) (s := s) (a := a) (A := A) (n := n) (c := c') h0 _ rfl
  have hN := new_seg (w.alloc (.cells #[.int .i64 k, .int .i64 t, .int .i64 f, .int .i64 h, .int .i64 p, .int .i64 o, .int .i64 s, .int .i64 a, .slice A n c'] 31)) sv0
  rw [allocZ] at hN
  have hS := hS.step (by simpa using hN.2)
  have HW := Kp.mk hN.1
  clear h0 hN
  simp only [Sv.v] at hg ht ⊢
  go_enter Try.func42, Try.ntmps42
  go_upto_region 1 with fail
  have hS0 := hS.step (Below.refl _ _).drew
  have HW0 := Kp.mk (HW.out.below (Below.refl _ _).drew HW.out.lt)
  clear hS HW
  refine wp_region_held_drew (S := H2 w w.heap.size k t f h p o s a A n c' 67 g [.int .i64 sf, .int .i64 bo, .int .i64 E]) (by kernel_rfl) hS0 (fun _ => ?_)
  refine takeD (i := 0) (v := .agg #[.int .i64 k, .int .i64 t, .int .i64 f, .int .i64 h, .int .i64 p, .int .i64 o, .int .i64 s, .int .i64 a, .slice A n c']) (some 8) rfl rfl (by kernel_rfl) (by kernel_rfl) (by kernel_rfl) (fun _ _ _ h => h) (Or.inl ⟨by rfl, ?_⟩) hS0 ?_
  · rintro w' hq
    obtain ⟨d0, d1, d2, d3, d4, d5, d6, d7, d8⟩ := hq.nine
    go_simp
  try simp only [Act.put, List.setIfInBounds_toArray, List.set_cons_zero, List.set_cons_succ]
  refine wpAnyH_ready (rs := [1]) (by kernel_rfl) (by simp) ?_
  refine AllReadyH.cons rfl (fun K hK => ?_) AllReadyH.nil
  try rw [if_pos (by rfl)]
  go_simp
  refine (isOne_any ⟨k, t, f, h, p, o, s, a, A, n, c'⟩ 1 _).mono ?_
  rintro e u1 ⟨rfl, hb1⟩
  rw [hg]
  have hS1 := H2.step hS0 hb1
  refine hK.out _ _ hS1 (fun _ => ?_)
  clear hK K
  try simp only [Act.put, List.setIfInBounds_toArray, List.set_cons_zero, List.set_cons_succ]
  refine takeD (i := 2) (v := .bool true) (some 10) rfl rfl (by kernel_rfl) (by kernel_rfl) (by kernel_rfl) (fun _ _ _ h => h) (Or.inl ⟨by rfl, ?_⟩) hS1 ?_
  · rintro w' hq
    go_simp
  try simp only [Act.put, List.setIfInBounds_toArray, List.set_cons_zero, List.set_cons_succ]
  refine takeD (i := 3) (v := .pointer (some ⟨w.heap.size, 1, none⟩)) (some 11) rfl rfl (by kernel_rfl) (by kernel_rfl) (by kernel_rfl) (fun _ _ _ h => h) (Or.inl ⟨by rfl, ?_⟩) hS1 ?_
  · rintro w' hq
    go_simp
  try simp only [Act.put, List.setIfInBounds_toArray, List.set_cons_zero, List.set_cons_succ]
  refine takeD (i := 4) (v := .int .i64 t) (some 12) rfl rfl (by kernel_rfl) (by kernel_rfl) (by kernel_rfl) (fun _ _ _ h => h) (Or.inl ⟨by rfl, ?_⟩) hS1 ?_
  · rintro w' hq
    obtain ⟨d0, d1, d2, d3, d4, d5, d6, d7, d8⟩ := hq.nine
    go_simp
  try simp only [Act.put, List.setIfInBounds_toArray, List.set_cons_zero, List.set_cons_succ]
  refine takeD (i := 5) (v := .pointer (some ⟨g, 0, none⟩)) (some 13) rfl rfl (by kernel_rfl) (by kernel_rfl) (by kernel_rfl) (fun _ _ _ h => h) (Or.inl ⟨by rfl, ?_⟩) hS1 ?_
  · rintro w' hq
    go_simp
  try simp only [Act.put, List.setIfInBounds_toArray, List.set_cons_zero, List.set_cons_succ]
  refine takeD (i := 6) (v := .pointer (some ⟨g, 0, none⟩)) (some 14) rfl rfl (by kernel_rfl) (by kernel_rfl) (by kernel_rfl) (fun _ _ _ h => h) (Or.inl ⟨by rfl, ?_⟩) hS1 ?_
  · rintro w' hq
    go_simp
  try simp only [Act.put, List.setIfInBounds_toArray, List.set_cons_zero, List.set_cons_succ]
  refine takeD (i := 7) (v := .pointer (some ⟨g, 0, none⟩)) (some 15) rfl rfl (by kernel_rfl) (by kernel_rfl) (by kernel_rfl) (fun _ _ _ h => h) (Or.inl ⟨by rfl, ?_⟩) hS1 ?_
  · rintro w' hq
    go_simp
  try simp only [Act.put, List.setIfInBounds_toArray, List.set_cons_zero, List.set_cons_succ]
  refine takeD (i := 8) (v := .int .i64 sf) (some 16) rfl rfl (by kernel_rfl) (by kernel_rfl) (by kernel_rfl) (fun _ _ _ h => h) (Or.inl ⟨by rfl, ?_⟩) hS1 ?_
  · rintro w' hq
    have c0 := hq.r.cell 0 rfl
    go_simp
  try simp only [Act.put, List.setIfInBounds_toArray, List.set_cons_zero, List.set_cons_succ]
  refine takeD (i := 9) (v := .bool true) (some 17) rfl rfl (by kernel_rfl) (by kernel_rfl) (by kernel_rfl) (fun _ _ _ h => h) (Or.inl ⟨by rfl, ?_⟩) hS1 ?_
  · rintro w' hq
    go_simp
    first | done | omega | simpa using ht
  try simp only [Act.put, List.setIfInBounds_toArray, List.set_cons_zero, List.set_cons_succ]
  refine takeD (i := 10) (v := .bool true) (some 18) rfl rfl (by kernel_rfl) (by kernel_rfl) (by kernel_rfl) (fun _ _ _ h => h) (Or.inl ⟨by rfl, ?_⟩) hS1 ?_
  · rintro w' hq
    go_simp
  try simp only [Act.put, List.setIfInBounds_toArray, List.set_cons_zero, List.set_cons_succ]
  refine takeD (i := 11) (v := .bool true) (some 7) rfl rfl (by kernel_rfl) (by kernel_rfl) (by kernel_rfl) (fun _ _ _ h => h) (Or.inl ⟨by rfl, ?_⟩) hS1 ?_
  · rintro w' hq
    go_simp
  try simp only [Act.put, List.setIfInBounds_toArray, List.set_cons_zero, List.set_cons_succ]
  refine wpAnyH_done (by kernel_rfl) ?_ _
  have hA1 := HW0.out.below hb1 HW0.out.lt
  clear hb1 hS0 HW0
  have hGb : Gb u1 g sf bo E := hS1.r
  have HB1 := Kp.mk hS1.old
  clear hS1 hg ht
  go_wp2_with fail
  refine (g_hi hGb).mono ?_
  rintro e2 u2 ⟨rfl, hb2⟩
  replace hA1 := hA1.below hb2 hA1.lt
  have HB2 := Kp.mk (HB1.out.trans (hb2.mono HB1.out.size))
  clear hGb hb2 HB1
  go_wp2_with (refine wpList_store_vb (vs := (svHi sf bo).cells) rfl (.tmp 4) (.tmp 20) rfl rfl rfl hA1 rfl agg_seg rfl ?_; intro w4 hv4 hg4 hz4; clear hA1)
  refine bodyPost_ret (v := .tuple #[(svHi sf bo).v, .bool true, .bool false]) (results_three Try.results42 _ rfl hv4 agg_seg) rfl ?_
  exact ⟨rfl, below_grown HB2.out hg4 HB2.out.size (by omega)⟩
/-- What has changed in new memory counts for nothing. -/
theorem grown_new {a w w' : World} {g r : Nat} (h : a.grownBy w (some g)) (hg : w.grownBy w' (some r)) (hr : a.heap.size ≤ r) : a.grownBy w' (some g) :=
  ⟨hg.os.trans h.os, hg.tape.trans h.tape, hg.output.trans h.output, Nat.le_trans h.size hg.size, fun i hi hne => (hg.block i (Nat.lt_of_lt_of_le hi h.size) (by simp; omega)).trans (h.block i hi hne)⟩
set_option maxRecDepth 100000 in
set_option maxHeartbeats 2000000 in
theorem gAll_off (h0 : Gb w g sf bo E) (x : Sv) (hx : offG x sf bo = true) : Calls Try.prog 42 #[.pointer (some ⟨g, 0, none⟩), x.v] w fun en w' => en = .returned (.tuple #[(svAck sf x.p).v, .bool true, .bool true]) ∧ Gb w' g sf bo x.p ∧ w.grownBy w' (some g) := by
  have hg := is_ne (m := 1) (Bool.and_eq_true_iff.mp hx).1 (by decide)
  have HO := Kp.mk hx
  clear hx
  obtain ⟨k, t, f, h, p, o, s, a, A, n, c'⟩ := x
  have hS := H2.new (k := k) (t := t) (f := f) (h := h) (p := p) (o := o) (s := s) (a := a) (A := A) (n := n) (c := c') h0 _ rfl
  have hN := new_seg (w.alloc (.cells #[.int .i64 k, .int .i64 t, .int .i64 f, .int .i64 h, .int .i64 p, .int .i64 o, .int .i64 s, .int .i64 a, .slice A n c'] 31)) sv0
  rw [allocZ] at hN
  have hS := hS.step (by simpa using hN.2)
  have HW := Kp.mk hN.1
  clear h0 hN
  simp only [Sv.v] at hg ⊢
  go_enter Try.func42, Try.ntmps42
  go_upto_region 1 with fail
  have hS0 := hS.step (Below.refl _ _).drew
  have HW0 := Kp.mk (HW.out.below (Below.refl _ _).drew HW.out.lt)
  clear hS HW
  refine wp_region_held_drew (S := H2 w w.heap.size k t f h p o s a A n c' 67 g [.int .i64 sf, .int .i64 bo, .int .i64 E]) (by kernel_rfl) hS0 (fun _ => ?_)
  refine takeD (i := 0) (v := .agg #[.int .i64 k, .int .i64 t, .int .i64 f, .int .i64 h, .int .i64 p, .int .i64 o, .int .i64 s, .int .i64 a, .slice A n c']) (some 8) rfl rfl (by kernel_rfl) (by kernel_rfl) (by kernel_rfl) (fun _ _ _ h => h) (Or.inl ⟨by rfl, ?_⟩) hS0 ?_
  · rintro w' hq
    obtain ⟨d0, d1, d2, d3, d4, d5, d6, d7, d8⟩ := hq.nine
    go_simp
  try simp only [Act.put, List.setIfInBounds_toArray, List.set_cons_zero, List.set_cons_succ]
  refine wpAnyH_ready (rs := [1]) (by kernel_rfl) (by simp) ?_
  refine AllReadyH.cons rfl (fun K hK => ?_) AllReadyH.nil
  try rw [if_pos (by rfl)]
  go_simp
  refine (isOne_any ⟨k, t, f, h, p, o, s, a, A, n, c'⟩ 1 _).mono ?_
  rintro e u1 ⟨rfl, hb1⟩
  rw [hg]
  have hS1 := H2.step hS0 hb1
  refine hK.out _ _ hS1 (fun _ => ?_)
  clear hK K
  try simp only [Act.put, List.setIfInBounds_toArray, List.set_cons_zero, List.set_cons_succ]
  refine takeD (i := 2) (v := .bool false) (some 10) rfl rfl (by kernel_rfl) (by kernel_rfl) (by kernel_rfl) (fun _ _ _ h => h) (Or.inl ⟨by rfl, ?_⟩) hS1 ?_
  · rintro w' hq
    go_simp
  try simp only [Act.put, List.setIfInBounds_toArray, List.set_cons_zero, List.set_cons_succ]
  refine takeD (i := 3) (v := undef) (some 11) rfl rfl (by kernel_rfl) (by kernel_rfl) (by kernel_rfl) (fun _ _ _ h => h) (Or.inr ⟨by rfl, rfl⟩) hS1 ?_
  try simp only [Act.put, List.setIfInBounds_toArray, List.set_cons_zero, List.set_cons_succ]
  refine takeD (i := 4) (v := undef) (some 12) rfl rfl (by kernel_rfl) (by kernel_rfl) (by kernel_rfl) (fun _ _ _ h => h) (Or.inr ⟨by rfl, rfl⟩) hS1 ?_
  try simp only [Act.put, List.setIfInBounds_toArray, List.set_cons_zero, List.set_cons_succ]
  refine takeD (i := 5) (v := undef) (some 13) rfl rfl (by kernel_rfl) (by kernel_rfl) (by kernel_rfl) (fun _ _ _ h => h) (Or.inr ⟨by rfl, rfl⟩) hS1 ?_
  try simp only [Act.put, List.setIfInBounds_toArray, List.set_cons_zero, List.set_cons_succ]
  refine takeD (i := 6) (v := undef) (some 14) rfl rfl (by kernel_rfl) (by kernel_rfl) (by kernel_rfl) (fun _ _ _ h => h) (Or.inr ⟨by rfl, rfl⟩) hS1 ?_
  try simp only [Act.put, List.setIfInBounds_toArray, List.set_cons_zero, List.set_cons_succ]
  refine takeD (i := 7) (v := undef) (some 15) rfl rfl (by kernel_rfl) (by kernel_rfl) (by kernel_rfl) (fun _ _ _ h => h) (Or.inr ⟨by rfl, rfl⟩) hS1 ?_
  try simp only [Act.put, List.setIfInBounds_toArray, List.set_cons_zero, List.set_cons_succ]
  refine takeD (i := 8) (v := undef) (some 16) rfl rfl (by kernel_rfl) (by kernel_rfl) (by kernel_rfl) (fun _ _ _ h => h) (Or.inr ⟨by rfl, rfl⟩) hS1 ?_
  try simp only [Act.put, List.setIfInBounds_toArray, List.set_cons_zero, List.set_cons_succ]
  refine takeD (i := 9) (v := undef) (some 17) rfl rfl (by kernel_rfl) (by kernel_rfl) (by kernel_rfl) (fun _ _ _ h => h) (Or.inr ⟨by rfl, rfl⟩) hS1 ?_
  try simp only [Act.put, List.setIfInBounds_toArray, List.set_cons_zero, List.set_cons_succ]
  refine takeD (i := 10) (v := .bool false) (some 18) rfl rfl (by kernel_rfl) (by kernel_rfl) (by kernel_rfl) (fun _ _ _ h => h) (Or.inl ⟨by rfl, ?_⟩) hS1 ?_
  · rintro w' hq
    go_simp
  try simp only [Act.put, List.setIfInBounds_toArray, List.set_cons_zero, List.set_cons_succ]
  refine takeD (i := 11) (v := .bool false) (some 7) rfl rfl (by kernel_rfl) (by kernel_rfl) (by kernel_rfl) (fun _ _ _ h => h) (Or.inl ⟨by rfl, ?_⟩) hS1 ?_
  · rintro w' hq
    go_simp
  try simp only [Act.put, List.setIfInBounds_toArray, List.set_cons_zero, List.set_cons_succ]
  refine wpAnyH_done (by kernel_rfl) ?_ _
  have hA1 := HW0.out.below hb1 HW0.out.lt
  clear hb1 hS0 HW0
  have hGb : Gb u1 g sf bo E := hS1.r
  have HB1 := Kp.mk hS1
  obtain ⟨d0, d1, d2, d3, d4, d5, d6, d7, d8⟩ := hS1.nine
  clear hS1 hg
  go_wp2_with fail
  refine (gOffered hGb ⟨k, t, f, h, p, o, s, a, A, n, c'⟩).mono ?_
  rintro e2 u2 ⟨rfl, hb2⟩
  rw [HO.out]
  have hS2 := HB1.out.step hb2
  replace hA1 := hA1.below hb2 hA1.lt
  clear hGb hb2 HB1 d0 d1 d2 d3 d4 d5 d6 d7 d8
  have d4 := hS2.nine.2.2.2.2.1
  have e0 := hS2.r.cell 2 rfl
  have e1 := hS2.r.free 2
  have hGb3 : Gb (u2.setCell ⟨g, 2, none⟩ (.int .i64 p)) g sf bo p := hS2.r.set 2 (.int .i64 p)
  have HG3 := Kp.mk ((grown_of_below hS2.old (some g)).trans (grownBy_set u2 g 2 (.int .i64 p)))
  have hne : w.heap.size + 1 ≠ g := vb_ne hA1 hS2.r (by decide)
  replace hA1 := hA1.other hne 2 (.int .i64 p)
  have HS2 := Kp.mk (And.intro hS2.old.size hne)
  clear hS2
  go_upto_region 5 with fail
  generalize u2.setCell ⟨g, 2, none⟩ (.int .i64 p) = u3 at *
  clear d4 e0 e1
  go_wp2_with fail
  refine (g_ack hGb3).mono ?_
  rintro e3 u4 ⟨rfl, hb4⟩
  replace hA1 := hA1.below hb4 hA1.lt
  have hGb4 := hGb3.below hb4
  have HG4 := Kp.mk (HG3.out.trans (grown_of_below hb4 (some g)))
  have hZ := Kp.mk hGb4
  clear hGb3 hb4 HG3 hGb4
  go_wp2_with (refine wpList_store_vb (vs := (svAck sf p).cells) rfl (.tmp 4) (.tmp 31) rfl rfl rfl hA1 rfl agg_seg rfl ?_; intro w4 hv4 hg4 hz4; clear hA1)
  refine bodyPost_ret (v := .tuple #[(svAck sf p).v, .bool true, .bool true]) (results_three Try.results42 _ rfl hv4 agg_seg) rfl ?_
  refine ⟨rfl, Vb.grown hZ.out hg4 HS2.out.2.symm, ?_⟩
  exact grown_new HG4.out hg4 (by omega)
set_option maxRecDepth 100000 in
set_option maxHeartbeats 2000000 in
theorem gAll_none (h0 : Gb w g sf bo E) (x : Sv) (hx : helloG x sf = false) (hy : offG x sf bo = false) : Calls Try.prog 42 #[.pointer (some ⟨g, 0, none⟩), x.v] w fun en w' => en = .returned (.tuple #[sv0.v, .bool false, .bool false]) ∧ Below w.heap.size w w' := by
  have HO := Kp.mk hy
  unfold helloG at hx
  clear hy
  obtain ⟨k, t, f, h, p, o, s, a, A, n, c'⟩ := x
  have hS := H2.new (k := k) (t := t) (f := f) (h := h) (p := p) (o := o) (s := s) (a := a) (A := A) (n := n) (c := c') h0 _ rfl
  have hN := new_seg (w.alloc (.cells #[.int .i64 k, .int .i64 t, .int .i64 f, .int .i64 h, .int .i64 p, .int .i64 o, .int .i64 s, .int .i64 a, .slice A n c'] 31)) sv0
  rw [allocZ] at hN
  have hS := hS.step (by simpa using hN.2)
  have HW := Kp.mk hN.1
  clear h0 hN
  simp only [Sv.v] at hx ⊢
  go_enter Try.func42, Try.ntmps42
  go_upto_region 1 with fail
  have hS0 := hS.step (Below.refl _ _).drew
  have HW0 := Kp.mk (HW.out.below (Below.refl _ _).drew HW.out.lt)
  clear hS HW
  cases hg : Sv.is ⟨k, t, f, h, p, o, s, a, A, n, c'⟩ 1 with
  | false =>
    clear hx
    refine wp_region_held_drew (S := H2 w w.heap.size k t f h p o s a A n c' 67 g [.int .i64 sf, .int .i64 bo, .int .i64 E]) (by kernel_rfl) hS0 (fun _ => ?_)
    refine takeD (i := 0) (v := .agg #[.int .i64 k, .int .i64 t, .int .i64 f, .int .i64 h, .int .i64 p, .int .i64 o, .int .i64 s, .int .i64 a, .slice A n c']) (some 8) rfl rfl (by kernel_rfl) (by kernel_rfl) (by kernel_rfl) (fun _ _ _ h => h) (Or.inl ⟨by rfl, ?_⟩) hS0 ?_
    · rintro w' hq
      obtain ⟨d0, d1, d2, d3, d4, d5, d6, d7, d8⟩ := hq.nine
      go_simp
    try simp only [Act.put, List.setIfInBounds_toArray, List.set_cons_zero, List.set_cons_succ]
    refine wpAnyH_ready (rs := [1]) (by kernel_rfl) (by simp) ?_
    refine AllReadyH.cons rfl (fun K hK => ?_) AllReadyH.nil
    try rw [if_pos (by rfl)]
    go_simp
    refine (isOne_any ⟨k, t, f, h, p, o, s, a, A, n, c'⟩ 1 _).mono ?_
    rintro e u1 ⟨rfl, hb1⟩
    rw [hg]
    have hS1 := H2.step hS0 hb1
    refine hK.out _ _ hS1 (fun _ => ?_)
    clear hK K
    try simp only [Act.put, List.setIfInBounds_toArray, List.set_cons_zero, List.set_cons_succ]
    refine takeD (i := 2) (v := .bool false) (some 10) rfl rfl (by kernel_rfl) (by kernel_rfl) (by kernel_rfl) (fun _ _ _ h => h) (Or.inl ⟨by rfl, ?_⟩) hS1 ?_
    · rintro w' hq
      go_simp
    try simp only [Act.put, List.setIfInBounds_toArray, List.set_cons_zero, List.set_cons_succ]
    refine takeD (i := 3) (v := undef) (some 11) rfl rfl (by kernel_rfl) (by kernel_rfl) (by kernel_rfl) (fun _ _ _ h => h) (Or.inr ⟨by rfl, rfl⟩) hS1 ?_
    try simp only [Act.put, List.setIfInBounds_toArray, List.set_cons_zero, List.set_cons_succ]
    refine takeD (i := 4) (v := undef) (some 12) rfl rfl (by kernel_rfl) (by kernel_rfl) (by kernel_rfl) (fun _ _ _ h => h) (Or.inr ⟨by rfl, rfl⟩) hS1 ?_
    try simp only [Act.put, List.setIfInBounds_toArray, List.set_cons_zero, List.set_cons_succ]
    refine takeD (i := 5) (v := undef) (some 13) rfl rfl (by kernel_rfl) (by kernel_rfl) (by kernel_rfl) (fun _ _ _ h => h) (Or.inr ⟨by rfl, rfl⟩) hS1 ?_
    try simp only [Act.put, List.setIfInBounds_toArray, List.set_cons_zero, List.set_cons_succ]
    refine takeD (i := 6) (v := undef) (some 14) rfl rfl (by kernel_rfl) (by kernel_rfl) (by kernel_rfl) (fun _ _ _ h => h) (Or.inr ⟨by rfl, rfl⟩) hS1 ?_
    try simp only [Act.put, List.setIfInBounds_toArray, List.set_cons_zero, List.set_cons_succ]
    refine takeD (i := 7) (v := undef) (some 15) rfl rfl (by kernel_rfl) (by kernel_rfl) (by kernel_rfl) (fun _ _ _ h => h) (Or.inr ⟨by rfl, rfl⟩) hS1 ?_
    try simp only [Act.put, List.setIfInBounds_toArray, List.set_cons_zero, List.set_cons_succ]
    refine takeD (i := 8) (v := undef) (some 16) rfl rfl (by kernel_rfl) (by kernel_rfl) (by kernel_rfl) (fun _ _ _ h => h) (Or.inr ⟨by rfl, rfl⟩) hS1 ?_
    try simp only [Act.put, List.setIfInBounds_toArray, List.set_cons_zero, List.set_cons_succ]
    refine takeD (i := 9) (v := undef) (some 17) rfl rfl (by kernel_rfl) (by kernel_rfl) (by kernel_rfl) (fun _ _ _ h => h) (Or.inr ⟨by rfl, rfl⟩) hS1 ?_
    try simp only [Act.put, List.setIfInBounds_toArray, List.set_cons_zero, List.set_cons_succ]
    refine takeD (i := 10) (v := .bool false) (some 18) rfl rfl (by kernel_rfl) (by kernel_rfl) (by kernel_rfl) (fun _ _ _ h => h) (Or.inl ⟨by rfl, ?_⟩) hS1 ?_
    · rintro w' hq
      go_simp
    try simp only [Act.put, List.setIfInBounds_toArray, List.set_cons_zero, List.set_cons_succ]
    refine takeD (i := 11) (v := .bool false) (some 7) rfl rfl (by kernel_rfl) (by kernel_rfl) (by kernel_rfl) (fun _ _ _ h => h) (Or.inl ⟨by rfl, ?_⟩) hS1 ?_
    · rintro w' hq
      go_simp
    try simp only [Act.put, List.setIfInBounds_toArray, List.set_cons_zero, List.set_cons_succ]
    refine wpAnyH_done (by kernel_rfl) ?_ _
    have hA1 := HW0.out.below hb1 HW0.out.lt
    clear hb1 hS0 HW0
    have hGb : Gb u1 g sf bo E := hS1.r
    have HB1 := Kp.mk hS1
    obtain ⟨d0, d1, d2, d3, d4, d5, d6, d7, d8⟩ := hS1.nine
    clear hS1 hg
    go_wp2_with fail
    refine (gOffered hGb ⟨k, t, f, h, p, o, s, a, A, n, c'⟩).mono ?_
    rintro e2 u2 ⟨rfl, hb2⟩
    rw [HO.out]
    have HB2 := Kp.mk (HB1.out.step hb2).old
    replace hA1 := hA1.below hb2 hA1.lt
    clear hGb hb2 HB1 d0 d1 d2 d3 d4 d5 d6 d7 d8
    go_wp2_with (refine wpList_store_vb (vs := (sv0).cells) rfl (.tmp 4) (.tmp 32) rfl rfl rfl hA1 rfl agg_seg rfl ?_; intro w4 hv4 hg4 hz4; clear hA1)
    refine bodyPost_ret (v := .tuple #[(sv0).v, .bool false, .bool false]) (results_three Try.results42 _ rfl hv4 agg_seg) rfl ?_
    exact ⟨rfl, below_grown HB2.out hg4 HB2.out.size (by omega)⟩
  | true =>
    have ht : (t == sf) = false := by rw [hg] at hx; simpa using hx
    clear hx
    refine wp_region_held_drew (S := H2 w w.heap.size k t f h p o s a A n c' 67 g [.int .i64 sf, .int .i64 bo, .int .i64 E]) (by kernel_rfl) hS0 (fun _ => ?_)
    refine takeD (i := 0) (v := .agg #[.int .i64 k, .int .i64 t, .int .i64 f, .int .i64 h, .int .i64 p, .int .i64 o, .int .i64 s, .int .i64 a, .slice A n c']) (some 8) rfl rfl (by kernel_rfl) (by kernel_rfl) (by kernel_rfl) (fun _ _ _ h => h) (Or.inl ⟨by rfl, ?_⟩) hS0 ?_
    · rintro w' hq
      obtain ⟨d0, d1, d2, d3, d4, d5, d6, d7, d8⟩ := hq.nine
      go_simp
    try simp only [Act.put, List.setIfInBounds_toArray, List.set_cons_zero, List.set_cons_succ]
    refine wpAnyH_ready (rs := [1]) (by kernel_rfl) (by simp) ?_
    refine AllReadyH.cons rfl (fun K hK => ?_) AllReadyH.nil
    try rw [if_pos (by rfl)]
    go_simp
    refine (isOne_any ⟨k, t, f, h, p, o, s, a, A, n, c'⟩ 1 _).mono ?_
    rintro e u1 ⟨rfl, hb1⟩
    rw [hg]
    have hS1 := H2.step hS0 hb1
    refine hK.out _ _ hS1 (fun _ => ?_)
    clear hK K
    try simp only [Act.put, List.setIfInBounds_toArray, List.set_cons_zero, List.set_cons_succ]
    refine takeD (i := 2) (v := .bool true) (some 10) rfl rfl (by kernel_rfl) (by kernel_rfl) (by kernel_rfl) (fun _ _ _ h => h) (Or.inl ⟨by rfl, ?_⟩) hS1 ?_
    · rintro w' hq
      go_simp
    try simp only [Act.put, List.setIfInBounds_toArray, List.set_cons_zero, List.set_cons_succ]
    refine takeD (i := 3) (v := .pointer (some ⟨w.heap.size, 1, none⟩)) (some 11) rfl rfl (by kernel_rfl) (by kernel_rfl) (by kernel_rfl) (fun _ _ _ h => h) (Or.inl ⟨by rfl, ?_⟩) hS1 ?_
    · rintro w' hq
      go_simp
    try simp only [Act.put, List.setIfInBounds_toArray, List.set_cons_zero, List.set_cons_succ]
    refine takeD (i := 4) (v := .int .i64 t) (some 12) rfl rfl (by kernel_rfl) (by kernel_rfl) (by kernel_rfl) (fun _ _ _ h => h) (Or.inl ⟨by rfl, ?_⟩) hS1 ?_
    · rintro w' hq
      obtain ⟨d0, d1, d2, d3, d4, d5, d6, d7, d8⟩ := hq.nine
      go_simp
    try simp only [Act.put, List.setIfInBounds_toArray, List.set_cons_zero, List.set_cons_succ]
    refine takeD (i := 5) (v := .pointer (some ⟨g, 0, none⟩)) (some 13) rfl rfl (by kernel_rfl) (by kernel_rfl) (by kernel_rfl) (fun _ _ _ h => h) (Or.inl ⟨by rfl, ?_⟩) hS1 ?_
    · rintro w' hq
      go_simp
    try simp only [Act.put, List.setIfInBounds_toArray, List.set_cons_zero, List.set_cons_succ]
    refine takeD (i := 6) (v := .pointer (some ⟨g, 0, none⟩)) (some 14) rfl rfl (by kernel_rfl) (by kernel_rfl) (by kernel_rfl) (fun _ _ _ h => h) (Or.inl ⟨by rfl, ?_⟩) hS1 ?_
    · rintro w' hq
      go_simp
    try simp only [Act.put, List.setIfInBounds_toArray, List.set_cons_zero, List.set_cons_succ]
    refine takeD (i := 7) (v := .pointer (some ⟨g, 0, none⟩)) (some 15) rfl rfl (by kernel_rfl) (by kernel_rfl) (by kernel_rfl) (fun _ _ _ h => h) (Or.inl ⟨by rfl, ?_⟩) hS1 ?_
    · rintro w' hq
      go_simp
    try simp only [Act.put, List.setIfInBounds_toArray, List.set_cons_zero, List.set_cons_succ]
    refine takeD (i := 8) (v := .int .i64 sf) (some 16) rfl rfl (by kernel_rfl) (by kernel_rfl) (by kernel_rfl) (fun _ _ _ h => h) (Or.inl ⟨by rfl, ?_⟩) hS1 ?_
    · rintro w' hq
      have c0 := hq.r.cell 0 rfl
      go_simp
    try simp only [Act.put, List.setIfInBounds_toArray, List.set_cons_zero, List.set_cons_succ]
    refine takeD (i := 9) (v := .bool false) (some 17) rfl rfl (by kernel_rfl) (by kernel_rfl) (by kernel_rfl) (fun _ _ _ h => h) (Or.inl ⟨by rfl, ?_⟩) hS1 ?_
    · rintro w' hq
      go_simp
      first | done | omega | simpa using ht
    try simp only [Act.put, List.setIfInBounds_toArray, List.set_cons_zero, List.set_cons_succ]
    refine takeD (i := 10) (v := .bool false) (some 18) rfl rfl (by kernel_rfl) (by kernel_rfl) (by kernel_rfl) (fun _ _ _ h => h) (Or.inl ⟨by rfl, ?_⟩) hS1 ?_
    · rintro w' hq
      go_simp
    try simp only [Act.put, List.setIfInBounds_toArray, List.set_cons_zero, List.set_cons_succ]
    refine takeD (i := 11) (v := .bool false) (some 7) rfl rfl (by kernel_rfl) (by kernel_rfl) (by kernel_rfl) (fun _ _ _ h => h) (Or.inl ⟨by rfl, ?_⟩) hS1 ?_
    · rintro w' hq
      go_simp
    try simp only [Act.put, List.setIfInBounds_toArray, List.set_cons_zero, List.set_cons_succ]
    refine wpAnyH_done (by kernel_rfl) ?_ _
    have hA1 := HW0.out.below hb1 HW0.out.lt
    clear hb1 hS0 HW0
    have hGb : Gb u1 g sf bo E := hS1.r
    have HB1 := Kp.mk hS1
    obtain ⟨d0, d1, d2, d3, d4, d5, d6, d7, d8⟩ := hS1.nine
    clear hS1 hg
    go_wp2_with fail
    refine (gOffered hGb ⟨k, t, f, h, p, o, s, a, A, n, c'⟩).mono ?_
    rintro e2 u2 ⟨rfl, hb2⟩
    rw [HO.out]
    have HB2 := Kp.mk (HB1.out.step hb2).old
    replace hA1 := hA1.below hb2 hA1.lt
    clear hGb hb2 HB1 d0 d1 d2 d3 d4 d5 d6 d7 d8
    go_wp2_with (refine wpList_store_vb (vs := (sv0).cells) rfl (.tmp 4) (.tmp 32) rfl rfl rfl hA1 rfl agg_seg rfl ?_; intro w4 hv4 hg4 hz4; clear hA1)
    refine bodyPost_ret (v := .tuple #[(sv0).v, .bool false, .bool false]) (results_three Try.results42 _ rfl hv4 agg_seg) rfl ?_
    exact ⟨rfl, below_grown HB2.out hg4 HB2.out.size (by omega)⟩
end
end Go.Proofs.Ytomjnpjabfnlbaa.Oct
