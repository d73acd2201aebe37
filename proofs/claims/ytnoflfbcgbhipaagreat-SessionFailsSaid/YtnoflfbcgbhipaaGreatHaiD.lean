import Derived.Test.YtnoflfbcgbhipaaGreatHaiB
set_option linter.unusedSimpArgs false
set_option linter.unusedVariables false
set_option maxRecDepth 100000
set_option maxHeartbeats 2000000
namespace Go.Proofs.YtnoflfbcgbhipaaGreat.Oct
open Go.RowKit
def Gb (w : World) (g : Nat) (sf bo E : Int) : Prop := Vb 132 w g [.int .i64 sf, .int .i64 bo, .int .i64 E]
def helloG (x : Sv) (sf : Int) : Bool := x.is 1 && (x.t == sf)
def offG (x : Sv) (sf bo : Int) : Bool := x.is 3 && ((x.t == sf) && (x.o == bo))
def ackG (x : Sv) (sf bo E : Int) : Bool := offG x sf bo && decide (E ≤ x.p)
def ansG (x : Sv) (sf bo E : Int) : Sv := if helloG x sf = true then svHi sf bo else if ackG x sf bo E = true then svAck sf x.p else sv0
def isG (x : Sv) (sf bo E : Int) : Bool := helloG x sf || ackG x sf bo E
def begG (x : Sv) (sf bo E : Int) : Bool := ackG x sf bo E && decide (E < x.p)
def epG (x : Sv) (sf bo E : Int) : Int := if ackG x sf bo E = true then x.p else E
theorem is_ne {x : Sv} {k m : Int} (h : x.is k = true) (hne : k ≠ m) : x.is m = false := by
 unfold Sv.is at h ⊢
 have := (Bool.and_eq_true_iff.mp h).1
 have e : x.k = k := by simpa using this
 rw [e, show (k == m) = false by simpa using hne]
 rfl
theorem hello_not {x : Sv} {sf bo : Int} (h : helloG x sf = true) : offG x sf bo = false := by
 have := (Bool.and_eq_true_iff.mp h).1
 unfold offG
 rw [is_ne this (by decide)]
 rfl
theorem off_not {x : Sv} {sf bo : Int} (h : offG x sf bo = true) : helloG x sf = false := by
 have := (Bool.and_eq_true_iff.mp h).1
 unfold helloG
 rw [is_ne this (by decide)]
 rfl
theorem Sv.is_ok {x : Sv} {k : Int} (h : x.is k = true) : okS x.k x.t x.f x.h x.p x.o x.s x.a x.n := x.ok_iff.1 (Bool.and_eq_true_iff.mp h).2
theorem Sv.is_k {x : Sv} {k : Int} (h : x.is k = true) : x.k = k := by simpa using (Bool.and_eq_true_iff.mp h).1
theorem off_pos {x : Sv} {sf bo : Int} (h : offG x sf bo = true) : 1 ≤ x.p ∧ x.p ≤ 4294967295 := by
 have h1 := (Bool.and_eq_true_iff.mp h).1
 have h2 := Sv.is_ok h1
 have h3 := Sv.is_k h1
 unfold okS at h2
 omega
section
variable {w w' : World} {g : Nat} {sf bo E : Int}
theorem Gb.below (h : Gb w g sf bo E) (hb : Below w.heap.size w w') : Gb w' g sf bo E := Vb.below h hb (Vb.lt h)
theorem gOffered (h0 : Gb w g sf bo E) (x : Sv) : Calls Tryz.prog 160 #[.pointer (some ⟨g, 0, none⟩), x.v] w fun en w' => en = .returned (.bool (offG x sf bo)) ∧ Below w.heap.size w w' := by
 have hx : offG x sf bo = (x.is 3 && ((x.t == sf) && (x.o == bo))) := rfl
 rw [hx]
 clear hx
 obtain ⟨k, t, f, h, p, o, s, a, A, n, c'⟩ := x
 have hS := H2.new (k := k) (t := t) (f := f) (h := h) (p := p) (o := o) (s := s) (a := a) (A := A) (n := n) (c := c') h0 _ rfl
 clear h0
 simp only [Sv.v]
 go_enter Tryz.func160, Tryz.ntmps160
 go_upto_region 1 with fail
 have hS0 := hS.step (Below.refl _ _).drew
 clear hS
 cases hg : Sv.is ⟨k, t, f, h, p, o, s, a, A, n, c'⟩ 3 with
 | false =>
  refine wp_region_held_drew (S := H2 w w.heap.size k t f h p o s a A n c' 132 g [.int .i64 sf, .int .i64 bo, .int .i64 E]) (by kernel_rfl) hS0 (fun _ => ?_)
  refine tD 0 (.agg #[.int .i64 k, .int .i64 t, .int .i64 f, .int .i64 h, .int .i64 p, .int .i64 o, .int .i64 s, .int .i64 a, .slice A n c']) 5 rfl rfl hS0 ?_ ?_
  ·rintro w' hq
   obtain ⟨d0, d1, d2, d3, d4, d5, d6, d7, d8⟩ := hq.nine
   go_simp
  try simp only [Act.put, zA, zB, zC]
  refine rD 1 rfl fun K hK => ?_
  try rw [if_pos (by rfl)]
  go_simp
  refine (isOne_any ⟨k, t, f, h, p, o, s, a, A, n, c'⟩ 3 _).mono ?_
  rintro e u1 ⟨rfl, hb1⟩
  rw [hg]
  have hS1 := H2.step hS0 hb1
  refine hK.out _ _ hS1 (fun _ => ?_)
  clear hK K
  try simp only [Act.put, zA, zB, zC]
  refine tD 2 (.bool false) 7 rfl rfl hS1 ?_ ?_
  ·rintro w' hq
   go_simp
  try simp only [Act.put, zA, zB, zC]
  refine tU 3 8 rfl rfl hS1 ?_
  try simp only [Act.put, zA, zB, zC]
  refine tU 4 9 rfl rfl hS1 ?_
  try simp only [Act.put, zA, zB, zC]
  refine tU 5 10 rfl rfl hS1 ?_
  try simp only [Act.put, zA, zB, zC]
  refine tU 6 11 rfl rfl hS1 ?_
  try simp only [Act.put, zA, zB, zC]
  refine tU 7 12 rfl rfl hS1 ?_
  try simp only [Act.put, zA, zB, zC]
  refine tU 8 13 rfl rfl hS1 ?_
  try simp only [Act.put, zA, zB, zC]
  refine tU 9 14 rfl rfl hS1 ?_
  try simp only [Act.put, zA, zB, zC]
  refine tD 10 (.bool false) 15 rfl rfl hS1 ?_ ?_
  ·rintro w' hq
   go_simp
  try simp only [Act.put, zA, zB, zC]
  refine tD 11 (.bool false) 16 rfl rfl hS1 ?_ ?_
  ·rintro w' hq
   go_simp
  try simp only [Act.put, zA, zB, zC]
  refine tU 12 17 rfl rfl hS1 ?_
  try simp only [Act.put, zA, zB, zC]
  refine tU 13 18 rfl rfl hS1 ?_
  try simp only [Act.put, zA, zB, zC]
  refine tU 14 19 rfl rfl hS1 ?_
  try simp only [Act.put, zA, zB, zC]
  refine tU 15 20 rfl rfl hS1 ?_
  try simp only [Act.put, zA, zB, zC]
  refine tU 16 21 rfl rfl hS1 ?_
  try simp only [Act.put, zA, zB, zC]
  refine tU 17 22 rfl rfl hS1 ?_
  try simp only [Act.put, zA, zB, zC]
  refine tU 18 23 rfl rfl hS1 ?_
  try simp only [Act.put, zA, zB, zC]
  refine tD 19 (.bool false) 24 rfl rfl hS1 ?_ ?_
  ·rintro w' hq
   go_simp
  try simp only [Act.put, zA, zB, zC]
  refine tD 20 (.bool false) 4 rfl rfl hS1 ?_ ?_
  ·rintro w' hq
   go_simp
  try simp only [Act.put, zA, zB, zC]
  refine wpAnyH_done (by kernel_rfl) ?_ _
  go_wp2_with fail
  go_ret
  exact ⟨by rw [hg] <;> rfl, hS1.old⟩
 | true =>
  cases ht : (t == sf) with
  | false =>
   refine wp_region_held_drew (S := H2 w w.heap.size k t f h p o s a A n c' 132 g [.int .i64 sf, .int .i64 bo, .int .i64 E]) (by kernel_rfl) hS0 (fun _ => ?_)
   refine tD 0 (.agg #[.int .i64 k, .int .i64 t, .int .i64 f, .int .i64 h, .int .i64 p, .int .i64 o, .int .i64 s, .int .i64 a, .slice A n c']) 5 rfl rfl hS0 ?_ ?_
   ·rintro w' hq
    obtain ⟨d0, d1, d2, d3, d4, d5, d6, d7, d8⟩ := hq.nine
    go_simp
   try simp only [Act.put, zA, zB, zC]
   refine rD 1 rfl fun K hK => ?_
   try rw [if_pos (by rfl)]
   go_simp
   refine (isOne_any ⟨k, t, f, h, p, o, s, a, A, n, c'⟩ 3 _).mono ?_
   rintro e u1 ⟨rfl, hb1⟩
   rw [hg]
   have hS1 := H2.step hS0 hb1
   refine hK.out _ _ hS1 (fun _ => ?_)
   clear hK K
   try simp only [Act.put, zA, zB, zC]
   refine tD 2 (.bool true) 7 rfl rfl hS1 ?_ ?_
   ·rintro w' hq
    go_simp
   try simp only [Act.put, zA, zB, zC]
   refine tD 3 (.pointer (some ⟨w.heap.size, 1, none⟩)) 8 rfl rfl hS1 ?_ ?_
   ·rintro w' hq
    go_simp
   try simp only [Act.put, zA, zB, zC]
   refine tD 4 (.int .i64 t) 9 rfl rfl hS1 ?_ ?_
   ·rintro w' hq
    obtain ⟨d0, d1, d2, d3, d4, d5, d6, d7, d8⟩ := hq.nine
    go_simp
   try simp only [Act.put, zA, zB, zC]
   refine tD 5 (.pointer (some ⟨g, 0, none⟩)) 10 rfl rfl hS1 ?_ ?_
   ·rintro w' hq
    go_simp
   try simp only [Act.put, zA, zB, zC]
   refine tD 6 (.pointer (some ⟨g, 0, none⟩)) 11 rfl rfl hS1 ?_ ?_
   ·rintro w' hq
    go_simp
   try simp only [Act.put, zA, zB, zC]
   refine tD 7 (.pointer (some ⟨g, 0, none⟩)) 12 rfl rfl hS1 ?_ ?_
   ·rintro w' hq
    go_simp
   try simp only [Act.put, zA, zB, zC]
   refine tD 8 (.int .i64 sf) 13 rfl rfl hS1 ?_ ?_
   ·rintro w' hq
    have c0 := hq.r.cell 0 rfl
    go_simp
   try simp only [Act.put, zA, zB, zC]
   refine tD 9 (.bool false) 14 rfl rfl hS1 ?_ ?_
   ·rintro w' hq
    go_simp
    first | done | omega | simpa using ht
   try simp only [Act.put, zA, zB, zC]
   refine tD 10 (.bool false) 15 rfl rfl hS1 ?_ ?_
   ·rintro w' hq
    go_simp
   try simp only [Act.put, zA, zB, zC]
   refine tD 11 (.bool false) 16 rfl rfl hS1 ?_ ?_
   ·rintro w' hq
    go_simp
   try simp only [Act.put, zA, zB, zC]
   refine tU 12 17 rfl rfl hS1 ?_
   try simp only [Act.put, zA, zB, zC]
   refine tU 13 18 rfl rfl hS1 ?_
   try simp only [Act.put, zA, zB, zC]
   refine tU 14 19 rfl rfl hS1 ?_
   try simp only [Act.put, zA, zB, zC]
   refine tU 15 20 rfl rfl hS1 ?_
   try simp only [Act.put, zA, zB, zC]
   refine tU 16 21 rfl rfl hS1 ?_
   try simp only [Act.put, zA, zB, zC]
   refine tU 17 22 rfl rfl hS1 ?_
   try simp only [Act.put, zA, zB, zC]
   refine tU 18 23 rfl rfl hS1 ?_
   try simp only [Act.put, zA, zB, zC]
   refine tD 19 (.bool false) 24 rfl rfl hS1 ?_ ?_
   ·rintro w' hq
    go_simp
   try simp only [Act.put, zA, zB, zC]
   refine tD 20 (.bool false) 4 rfl rfl hS1 ?_ ?_
   ·rintro w' hq
    go_simp
   try simp only [Act.put, zA, zB, zC]
   refine wpAnyH_done (by kernel_rfl) ?_ _
   go_wp2_with fail
   go_ret
   exact ⟨by rw [hg, ht] <;> rfl, hS1.old⟩
  | true =>
   cases ho : (o == bo) with
   | false =>
    refine wp_region_held_drew (S := H2 w w.heap.size k t f h p o s a A n c' 132 g [.int .i64 sf, .int .i64 bo, .int .i64 E]) (by kernel_rfl) hS0 (fun _ => ?_)
    refine tD 0 (.agg #[.int .i64 k, .int .i64 t, .int .i64 f, .int .i64 h, .int .i64 p, .int .i64 o, .int .i64 s, .int .i64 a, .slice A n c']) 5 rfl rfl hS0 ?_ ?_
    ·rintro w' hq
     obtain ⟨d0, d1, d2, d3, d4, d5, d6, d7, d8⟩ := hq.nine
     go_simp
    try simp only [Act.put, zA, zB, zC]
    refine rD 1 rfl fun K hK => ?_
    try rw [if_pos (by rfl)]
    go_simp
    refine (isOne_any ⟨k, t, f, h, p, o, s, a, A, n, c'⟩ 3 _).mono ?_
    rintro e u1 ⟨rfl, hb1⟩
    rw [hg]
    have hS1 := H2.step hS0 hb1
    refine hK.out _ _ hS1 (fun _ => ?_)
    clear hK K
    try simp only [Act.put, zA, zB, zC]
    refine tD 2 (.bool true) 7 rfl rfl hS1 ?_ ?_
    ·rintro w' hq
     go_simp
    try simp only [Act.put, zA, zB, zC]
    refine tD 3 (.pointer (some ⟨w.heap.size, 1, none⟩)) 8 rfl rfl hS1 ?_ ?_
    ·rintro w' hq
     go_simp
    try simp only [Act.put, zA, zB, zC]
    refine tD 4 (.int .i64 t) 9 rfl rfl hS1 ?_ ?_
    ·rintro w' hq
     obtain ⟨d0, d1, d2, d3, d4, d5, d6, d7, d8⟩ := hq.nine
     go_simp
    try simp only [Act.put, zA, zB, zC]
    refine tD 5 (.pointer (some ⟨g, 0, none⟩)) 10 rfl rfl hS1 ?_ ?_
    ·rintro w' hq
     go_simp
    try simp only [Act.put, zA, zB, zC]
    refine tD 6 (.pointer (some ⟨g, 0, none⟩)) 11 rfl rfl hS1 ?_ ?_
    ·rintro w' hq
     go_simp
    try simp only [Act.put, zA, zB, zC]
    refine tD 7 (.pointer (some ⟨g, 0, none⟩)) 12 rfl rfl hS1 ?_ ?_
    ·rintro w' hq
     go_simp
    try simp only [Act.put, zA, zB, zC]
    refine tD 8 (.int .i64 sf) 13 rfl rfl hS1 ?_ ?_
    ·rintro w' hq
     have c0 := hq.r.cell 0 rfl
     go_simp
    try simp only [Act.put, zA, zB, zC]
    refine tD 9 (.bool true) 14 rfl rfl hS1 ?_ ?_
    ·rintro w' hq
     go_simp
     first | done | omega | simpa using ht
    try simp only [Act.put, zA, zB, zC]
    refine tD 10 (.bool true) 15 rfl rfl hS1 ?_ ?_
    ·rintro w' hq
     go_simp
    try simp only [Act.put, zA, zB, zC]
    refine tD 11 (.bool true) 16 rfl rfl hS1 ?_ ?_
    ·rintro w' hq
     go_simp
    try simp only [Act.put, zA, zB, zC]
    refine tD 12 (.pointer (some ⟨w.heap.size, 5, none⟩)) 17 rfl rfl hS1 ?_ ?_
    ·rintro w' hq
     go_simp
    try simp only [Act.put, zA, zB, zC]
    refine tD 13 (.int .i64 o) 18 rfl rfl hS1 ?_ ?_
    ·rintro w' hq
     obtain ⟨d0, d1, d2, d3, d4, d5, d6, d7, d8⟩ := hq.nine
     go_simp
    try simp only [Act.put, zA, zB, zC]
    refine tD 14 (.pointer (some ⟨g, 0, none⟩)) 19 rfl rfl hS1 ?_ ?_
    ·rintro w' hq
     go_simp
    try simp only [Act.put, zA, zB, zC]
    refine tD 15 (.pointer (some ⟨g, 0, none⟩)) 20 rfl rfl hS1 ?_ ?_
    ·rintro w' hq
     go_simp
    try simp only [Act.put, zA, zB, zC]
    refine tD 16 (.pointer (some ⟨g, 1, none⟩)) 21 rfl rfl hS1 ?_ ?_
    ·rintro w' hq
     go_simp
    try simp only [Act.put, zA, zB, zC]
    refine tD 17 (.int .i64 bo) 22 rfl rfl hS1 ?_ ?_
    ·rintro w' hq
     have c0 := hq.r.cell 1 rfl
     go_simp
    try simp only [Act.put, zA, zB, zC]
    refine tD 18 (.bool false) 23 rfl rfl hS1 ?_ ?_
    ·rintro w' hq
     go_simp
     first | done | omega | simpa using ho
    try simp only [Act.put, zA, zB, zC]
    refine tD 19 (.bool false) 24 rfl rfl hS1 ?_ ?_
    ·rintro w' hq
     go_simp
    try simp only [Act.put, zA, zB, zC]
    refine tD 20 (.bool false) 4 rfl rfl hS1 ?_ ?_
    ·rintro w' hq
     go_simp
    try simp only [Act.put, zA, zB, zC]
    refine wpAnyH_done (by kernel_rfl) ?_ _
    go_wp2_with fail
    go_ret
    exact ⟨by rw [hg, ht, ho] <;> rfl, hS1.old⟩
   | true =>
    refine wp_region_held_drew (S := H2 w w.heap.size k t f h p o s a A n c' 132 g [.int .i64 sf, .int .i64 bo, .int .i64 E]) (by kernel_rfl) hS0 (fun _ => ?_)
    refine tD 0 (.agg #[.int .i64 k, .int .i64 t, .int .i64 f, .int .i64 h, .int .i64 p, .int .i64 o, .int .i64 s, .int .i64 a, .slice A n c']) 5 rfl rfl hS0 ?_ ?_
    ·rintro w' hq
     obtain ⟨d0, d1, d2, d3, d4, d5, d6, d7, d8⟩ := hq.nine
     go_simp
    try simp only [Act.put, zA, zB, zC]
    refine rD 1 rfl fun K hK => ?_
    try rw [if_pos (by rfl)]
    go_simp
    refine (isOne_any ⟨k, t, f, h, p, o, s, a, A, n, c'⟩ 3 _).mono ?_
    rintro e u1 ⟨rfl, hb1⟩
    rw [hg]
    have hS1 := H2.step hS0 hb1
    refine hK.out _ _ hS1 (fun _ => ?_)
    clear hK K
    try simp only [Act.put, zA, zB, zC]
    refine tD 2 (.bool true) 7 rfl rfl hS1 ?_ ?_
    ·rintro w' hq
     go_simp
    try simp only [Act.put, zA, zB, zC]
    refine tD 3 (.pointer (some ⟨w.heap.size, 1, none⟩)) 8 rfl rfl hS1 ?_ ?_
    ·rintro w' hq
     go_simp
    try simp only [Act.put, zA, zB, zC]
    refine tD 4 (.int .i64 t) 9 rfl rfl hS1 ?_ ?_
    ·rintro w' hq
     obtain ⟨d0, d1, d2, d3, d4, d5, d6, d7, d8⟩ := hq.nine
     go_simp
    try simp only [Act.put, zA, zB, zC]
    refine tD 5 (.pointer (some ⟨g, 0, none⟩)) 10 rfl rfl hS1 ?_ ?_
    ·rintro w' hq
     go_simp
    try simp only [Act.put, zA, zB, zC]
    refine tD 6 (.pointer (some ⟨g, 0, none⟩)) 11 rfl rfl hS1 ?_ ?_
    ·rintro w' hq
     go_simp
    try simp only [Act.put, zA, zB, zC]
    refine tD 7 (.pointer (some ⟨g, 0, none⟩)) 12 rfl rfl hS1 ?_ ?_
    ·rintro w' hq
     go_simp
    try simp only [Act.put, zA, zB, zC]
    refine tD 8 (.int .i64 sf) 13 rfl rfl hS1 ?_ ?_
    ·rintro w' hq
     have c0 := hq.r.cell 0 rfl
     go_simp
    try simp only [Act.put, zA, zB, zC]
    refine tD 9 (.bool true) 14 rfl rfl hS1 ?_ ?_
    ·rintro w' hq
     go_simp
     first | done | omega | simpa using ht
    try simp only [Act.put, zA, zB, zC]
    refine tD 10 (.bool true) 15 rfl rfl hS1 ?_ ?_
    ·rintro w' hq
     go_simp
    try simp only [Act.put, zA, zB, zC]
    refine tD 11 (.bool true) 16 rfl rfl hS1 ?_ ?_
    ·rintro w' hq
     go_simp
    try simp only [Act.put, zA, zB, zC]
    refine tD 12 (.pointer (some ⟨w.heap.size, 5, none⟩)) 17 rfl rfl hS1 ?_ ?_
    ·rintro w' hq
     go_simp
    try simp only [Act.put, zA, zB, zC]
    refine tD 13 (.int .i64 o) 18 rfl rfl hS1 ?_ ?_
    ·rintro w' hq
     obtain ⟨d0, d1, d2, d3, d4, d5, d6, d7, d8⟩ := hq.nine
     go_simp
    try simp only [Act.put, zA, zB, zC]
    refine tD 14 (.pointer (some ⟨g, 0, none⟩)) 19 rfl rfl hS1 ?_ ?_
    ·rintro w' hq
     go_simp
    try simp only [Act.put, zA, zB, zC]
    refine tD 15 (.pointer (some ⟨g, 0, none⟩)) 20 rfl rfl hS1 ?_ ?_
    ·rintro w' hq
     go_simp
    try simp only [Act.put, zA, zB, zC]
    refine tD 16 (.pointer (some ⟨g, 1, none⟩)) 21 rfl rfl hS1 ?_ ?_
    ·rintro w' hq
     go_simp
    try simp only [Act.put, zA, zB, zC]
    refine tD 17 (.int .i64 bo) 22 rfl rfl hS1 ?_ ?_
    ·rintro w' hq
     have c0 := hq.r.cell 1 rfl
     go_simp
    try simp only [Act.put, zA, zB, zC]
    refine tD 18 (.bool true) 23 rfl rfl hS1 ?_ ?_
    ·rintro w' hq
     go_simp
     first | done | omega | simpa using ho
    try simp only [Act.put, zA, zB, zC]
    refine tD 19 (.bool true) 24 rfl rfl hS1 ?_ ?_
    ·rintro w' hq
     go_simp
    try simp only [Act.put, zA, zB, zC]
    refine tD 20 (.bool true) 4 rfl rfl hS1 ?_ ?_
    ·rintro w' hq
     go_simp
    try simp only [Act.put, zA, zB, zC]
    refine wpAnyH_done (by kernel_rfl) ?_ _
    go_wp2_with fail
    go_ret
    exact ⟨by rw [hg, ht, ho] <;> rfl, hS1.old⟩
theorem g_hi (h : Gb w g sf bo E) : Calls Tryz.prog 159 #[.pointer (some ⟨g, 0, none⟩)] w fun en w' => en = .returned (svHi sf bo).v ∧ Below w.heap.size w w' := by
 have HN := Kp.mk (new_seg w (svHi sf bo))
 have c0 := (Vb.cell (Vb.alloc h (.cells #[.int .i64 0, .int .i64 0, .int .i64 0, .int .i64 0, .int .i64 0, .int .i64 0, .int .i64 0, .int .i64 0, .slice none 0 0] 54)) 0 rfl)
 have c1 := (Vb.cell (Vb.alloc h (.cells #[.int .i64 0, .int .i64 0, .int .i64 0, .int .i64 0, .int .i64 0, .int .i64 0, .int .i64 0, .int .i64 0, .slice none 0 0] 54)) 1 rfl)
 clear h
 go_enter Tryz.func159, Tryz.ntmps159
 go_upto_region 1 with fail
 go_region
 clear c0 c1
 go_wp2_with fail
 have hv := HN.out.1.below (Below.refl _ _).drew HN.out.1.lt
 refine bodyPost_ret (v := (svHi sf bo).v) (results_one Tryz.results159 _ rfl hv agg_seg) rfl ?_
 exact ⟨rfl, HN.out.2.drew⟩
theorem g_ack (h : Gb w g sf bo E) : Calls Tryz.prog 161 #[.pointer (some ⟨g, 0, none⟩)] w fun en w' => en = .returned (svAck sf E).v ∧ Below w.heap.size w w' := by
 have HN := Kp.mk (new_seg w (svAck sf E))
 have c0 := (Vb.cell (Vb.alloc h (.cells #[.int .i64 0, .int .i64 0, .int .i64 0, .int .i64 0, .int .i64 0, .int .i64 0, .int .i64 0, .int .i64 0, .slice none 0 0] 54)) 0 rfl)
 have c1 := (Vb.cell (Vb.alloc h (.cells #[.int .i64 0, .int .i64 0, .int .i64 0, .int .i64 0, .int .i64 0, .int .i64 0, .int .i64 0, .int .i64 0, .slice none 0 0] 54)) 2 rfl)
 clear h
 go_enter Tryz.func161, Tryz.ntmps161
 go_upto_region 1 with fail
 go_region
 clear c0 c1
 go_wp2_with fail
 have hv := HN.out.1.below (Below.refl _ _).drew HN.out.1.lt
 refine bodyPost_ret (v := (svAck sf E).v) (results_one Tryz.results161 _ rfl hv agg_seg) rfl ?_
 exact ⟨rfl, HN.out.2.drew⟩
def ansA (x : Sv) (sf bo : Int) : Sv := if helloG x sf = true then svHi sf bo else if offG x sf bo = true then svAck sf x.p else sv0
def epA (x : Sv) (sf bo E : Int) : Int := if offG x sf bo = true then x.p else E
theorem allocZ (w : World) (o : Obj) : (w.alloc o).heap.size = w.heap.size + 1 := by simp
theorem results_three {fn : Func} {p r1 r2 : Tmp} {T ty : TypeId} {w : World} {g : Nat} {vs : List Value} (h : fn.results = #[.cell p ty, .tmp r1, .tmp r2]) (tmps : Array Value) (hp : tmps.getD p undef = .pointer (some ⟨g, 0, none⟩)) (hv : Vb T w g vs) (ht : Agg ty vs.length) :
  (results fn tmps).run Tryz.prog w = .ok (.tuple #[.agg vs.toArray, tmps.getD r1 undef, tmps.getD r2 undef]) w := by
 have hp' : tmps[p]?.getD undef = .pointer (some ⟨g, 0, none⟩) := by simpa using hp
 have hl : (loadVar ty ⟨g, 0, none⟩).run Tryz.prog w = .ok (.agg vs.toArray) w := run_loadVb hv (by simp) ht
 simp [results, h, hp', asAddr, hl]
theorem wp_store_vbH {T ty : TypeId} {w : World} {g : Nat} {cs vs : List Value} {o : Oper} {a : Act} {K : Act → World → Prop} {Q : Exit → Act → World → Prop} (d : Option Tmp) (hd : o.dst = d) (x y : Operand) (ho : o.op = .store ty x y) (hx : a.eval x = .pointer (some ⟨g, 0, none⟩)) (hy : a.eval y = .agg vs.toArray) (hv : Vb T w g cs) (hl : cs.length = vs.length) (ht : Agg ty vs.length)
  (h1 : vs.all (·.oneCell') = true)
  (h : ∀ w', Vb T w' g vs → w.grownBy w' (some g) → w'.heap.size = w.heap.size → K (a.put d undef) w') : o.wp Tryz.prog a w K Q := by
 subst hd
 exact wp_store_row ty x y ho g vs.toArray hx hy T cs.toArray hv (by simpa using ht.2) (by simpa using hl) (by simpa using h1) (h _ (setRow_vb hv hl) (setRow_grown _ _ _) (setRow_size _ _ _))
theorem gAll_hello (h0 : Gb w g sf bo E) (x : Sv) (hx : helloG x sf = true) : Calls Tryz.prog 111 #[.pointer (some ⟨g, 0, none⟩), x.v] w fun en w' => en = .returned (.tuple #[(svHi sf bo).v, .bool true, .bool false]) ∧ Below w.heap.size w w' := by
 have hg := (Bool.and_eq_true_iff.mp hx).1
 have ht := (Bool.and_eq_true_iff.mp hx).2
 clear hx
 obtain ⟨k, t, f, h, p, o, s, a, A, n, c'⟩ := x
 have hS := H2.new (k := k) (t := t) (f := f) (h := h) (p := p) (o := o) (s := s) (a := a) (A := A) (n := n) (c := c') h0 _ rfl
 have hN := new_seg (w.alloc (.cells #[.int .i64 k, .int .i64 t, .int .i64 f, .int .i64 h, .int .i64 p, .int .i64 o, .int .i64 s, .int .i64 a, .slice A n c'] 54)) sv0
 rw [allocZ] at hN
 have hS := hS.step (by simpa using hN.2)
 have HW := Kp.mk hN.1
 clear h0 hN
 simp only [Sv.v] at hg ht ⊢
 go_enter Tryz.func111, Tryz.ntmps111
 go_upto_region 1 with fail
 have hS0 := hS.step (Below.refl _ _).drew
 have HW0 := Kp.mk (HW.out.below (Below.refl _ _).drew HW.out.lt)
 clear hS HW
 refine wp_region_held_drew (S := H2 w w.heap.size k t f h p o s a A n c' 132 g [.int .i64 sf, .int .i64 bo, .int .i64 E]) (by kernel_rfl) hS0 (fun _ => ?_)
 refine tD 0 (.agg #[.int .i64 k, .int .i64 t, .int .i64 f, .int .i64 h, .int .i64 p, .int .i64 o, .int .i64 s, .int .i64 a, .slice A n c']) 8 rfl rfl hS0 ?_ ?_
 ·rintro w' hq
  obtain ⟨d0, d1, d2, d3, d4, d5, d6, d7, d8⟩ := hq.nine
  go_simp
 try simp only [Act.put, zA, zB, zC]
 refine rD 1 rfl fun K hK => ?_
 try rw [if_pos (by rfl)]
 go_simp
 refine (isOne_any ⟨k, t, f, h, p, o, s, a, A, n, c'⟩ 1 _).mono ?_
 rintro e u1 ⟨rfl, hb1⟩
 rw [hg]
 have hS1 := H2.step hS0 hb1
 refine hK.out _ _ hS1 (fun _ => ?_)
 clear hK K
 try simp only [Act.put, zA, zB, zC]
 refine tD 2 (.bool true) 10 rfl rfl hS1 ?_ ?_
 ·rintro w' hq
  go_simp
 try simp only [Act.put, zA, zB, zC]
 refine tD 3 (.pointer (some ⟨w.heap.size, 1, none⟩)) 11 rfl rfl hS1 ?_ ?_
 ·rintro w' hq
  go_simp
 try simp only [Act.put, zA, zB, zC]
 refine tD 4 (.int .i64 t) 12 rfl rfl hS1 ?_ ?_
 ·rintro w' hq
  obtain ⟨d0, d1, d2, d3, d4, d5, d6, d7, d8⟩ := hq.nine
  go_simp
 try simp only [Act.put, zA, zB, zC]
 refine tD 5 (.pointer (some ⟨g, 0, none⟩)) 13 rfl rfl hS1 ?_ ?_
 ·rintro w' hq
  go_simp
 try simp only [Act.put, zA, zB, zC]
 refine tD 6 (.pointer (some ⟨g, 0, none⟩)) 14 rfl rfl hS1 ?_ ?_
 ·rintro w' hq
  go_simp
 try simp only [Act.put, zA, zB, zC]
 refine tD 7 (.pointer (some ⟨g, 0, none⟩)) 15 rfl rfl hS1 ?_ ?_
 ·rintro w' hq
  go_simp
 try simp only [Act.put, zA, zB, zC]
 refine tD 8 (.int .i64 sf) 16 rfl rfl hS1 ?_ ?_
 ·rintro w' hq
  have c0 := hq.r.cell 0 rfl
  go_simp
 try simp only [Act.put, zA, zB, zC]
 refine tD 9 (.bool true) 17 rfl rfl hS1 ?_ ?_
 ·rintro w' hq
  go_simp
  first | done | omega | simpa using ht
 try simp only [Act.put, zA, zB, zC]
 refine tD 10 (.bool true) 18 rfl rfl hS1 ?_ ?_
 ·rintro w' hq
  go_simp
 try simp only [Act.put, zA, zB, zC]
 refine tD 11 (.bool true) 7 rfl rfl hS1 ?_ ?_
 ·rintro w' hq
  go_simp
 try simp only [Act.put, zA, zB, zC]
 refine wpAnyH_done (by kernel_rfl) ?_ _
 have hA1 := HW0.out.below hb1 HW0.out.lt
 clear hb1 hS0 HW0
 have hGb : Gb u1 g sf bo E := hS1.r
 have HB1 := Kp.mk hS1.old
 clear hS1 hg ht
 go_wp2_with fail
 refine (g_hi hGb).mono ?_
 rintro e2 u2 ⟨rfl, hb2⟩
 replace hA1 := hA1.below hb2 hA1.lt
 have HB2 := Kp.mk (HB1.out.trans (hb2.mono HB1.out.size))
 clear hGb hb2 HB1
 go_wp2_with (refine wpList_store_vb (vs := (svHi sf bo).cells) rfl (.tmp 4) (.tmp 20) rfl rfl rfl hA1 rfl agg_seg rfl ?_; intro w4 hv4 hg4 hz4; clear hA1)
 refine bodyPost_ret (v := .tuple #[(svHi sf bo).v, .bool true, .bool false]) (results_three Tryz.results111 _ rfl hv4 agg_seg) rfl ?_
 exact ⟨rfl, below_grown HB2.out hg4 HB2.out.size (by omega)⟩
theorem grown_newH {a w w' : World} {g r : Nat} (h : a.grownBy w (some g)) (hg : w.grownBy w' (some r)) (hr : a.heap.size ≤ r) : a.grownBy w' (some g) :=
 ⟨hg.os.trans h.os, hg.tape.trans h.tape, hg.output.trans h.output, Nat.le_trans h.size hg.size, fun i hi hne => (hg.block i (Nat.lt_of_lt_of_le hi h.size) (by simp; omega)).trans (h.block i hi hne)⟩
theorem gAll_off (h0 : Gb w g sf bo E) (x : Sv) (hx : offG x sf bo = true) : Calls Tryz.prog 111 #[.pointer (some ⟨g, 0, none⟩), x.v] w fun en w' => en = .returned (.tuple #[(svAck sf x.p).v, .bool true, .bool true]) ∧ Gb w' g sf bo x.p ∧ w.grownBy w' (some g) := by
 have hg := is_ne (m := 1) (Bool.and_eq_true_iff.mp hx).1 (by decide)
 have HO := Kp.mk hx
 clear hx
 obtain ⟨k, t, f, h, p, o, s, a, A, n, c'⟩ := x
 have hS := H2.new (k := k) (t := t) (f := f) (h := h) (p := p) (o := o) (s := s) (a := a) (A := A) (n := n) (c := c') h0 _ rfl
 have hN := new_seg (w.alloc (.cells #[.int .i64 k, .int .i64 t, .int .i64 f, .int .i64 h, .int .i64 p, .int .i64 o, .int .i64 s, .int .i64 a, .slice A n c'] 54)) sv0
 rw [allocZ] at hN
 have hS := hS.step (by simpa using hN.2)
 have HW := Kp.mk hN.1
 clear h0 hN
 simp only [Sv.v] at hg ⊢
 go_enter Tryz.func111, Tryz.ntmps111
 go_upto_region 1 with fail
 have hS0 := hS.step (Below.refl _ _).drew
 have HW0 := Kp.mk (HW.out.below (Below.refl _ _).drew HW.out.lt)
 clear hS HW
 refine wp_region_held_drew (S := H2 w w.heap.size k t f h p o s a A n c' 132 g [.int .i64 sf, .int .i64 bo, .int .i64 E]) (by kernel_rfl) hS0 (fun _ => ?_)
 refine tD 0 (.agg #[.int .i64 k, .int .i64 t, .int .i64 f, .int .i64 h, .int .i64 p, .int .i64 o, .int .i64 s, .int .i64 a, .slice A n c']) 8 rfl rfl hS0 ?_ ?_
 ·rintro w' hq
  obtain ⟨d0, d1, d2, d3, d4, d5, d6, d7, d8⟩ := hq.nine
  go_simp
 try simp only [Act.put, zA, zB, zC]
 refine rD 1 rfl fun K hK => ?_
 try rw [if_pos (by rfl)]
 go_simp
 refine (isOne_any ⟨k, t, f, h, p, o, s, a, A, n, c'⟩ 1 _).mono ?_
 rintro e u1 ⟨rfl, hb1⟩
 rw [hg]
 have hS1 := H2.step hS0 hb1
 refine hK.out _ _ hS1 (fun _ => ?_)
 clear hK K
 try simp only [Act.put, zA, zB, zC]
 refine tD 2 (.bool false) 10 rfl rfl hS1 ?_ ?_
 ·rintro w' hq
  go_simp
 try simp only [Act.put, zA, zB, zC]
 refine tU 3 11 rfl rfl hS1 ?_
 try simp only [Act.put, zA, zB, zC]
 refine tU 4 12 rfl rfl hS1 ?_
 try simp only [Act.put, zA, zB, zC]
 refine tU 5 13 rfl rfl hS1 ?_
 try simp only [Act.put, zA, zB, zC]
 refine tU 6 14 rfl rfl hS1 ?_
 try simp only [Act.put, zA, zB, zC]
 refine tU 7 15 rfl rfl hS1 ?_
 try simp only [Act.put, zA, zB, zC]
 refine tU 8 16 rfl rfl hS1 ?_
 try simp only [Act.put, zA, zB, zC]
 refine tU 9 17 rfl rfl hS1 ?_
 try simp only [Act.put, zA, zB, zC]
 refine tD 10 (.bool false) 18 rfl rfl hS1 ?_ ?_
 ·rintro w' hq
  go_simp
 try simp only [Act.put, zA, zB, zC]
 refine tD 11 (.bool false) 7 rfl rfl hS1 ?_ ?_
 ·rintro w' hq
  go_simp
 try simp only [Act.put, zA, zB, zC]
 refine wpAnyH_done (by kernel_rfl) ?_ _
 have hA1 := HW0.out.below hb1 HW0.out.lt
 clear hb1 hS0 HW0
 have hGb : Gb u1 g sf bo E := hS1.r
 have HB1 := Kp.mk hS1
 obtain ⟨d0, d1, d2, d3, d4, d5, d6, d7, d8⟩ := hS1.nine
 clear hS1 hg
 go_wp2_with fail
 refine (gOffered hGb ⟨k, t, f, h, p, o, s, a, A, n, c'⟩).mono ?_
 rintro e2 u2 ⟨rfl, hb2⟩
 rw [HO.out]
 have hS2 := HB1.out.step hb2
 replace hA1 := hA1.below hb2 hA1.lt
 clear hGb hb2 HB1 d0 d1 d2 d3 d4 d5 d6 d7 d8
 have d4 := hS2.nine.2.2.2.2.1
 have e0 := hS2.r.cell 2 rfl
 have e1 := hS2.r.free 2
 have hGb3 : Gb (u2.setCell ⟨g, 2, none⟩ (.int .i64 p)) g sf bo p := hS2.r.set 2 (.int .i64 p)
 have HG3 := Kp.mk ((grown_of_below hS2.old (some g)).trans (grownBy_set u2 g 2 (.int .i64 p)))
 have hne : w.heap.size + 1 ≠ g := vb_ne hA1 hS2.r (by decide)
 replace hA1 := hA1.other hne 2 (.int .i64 p)
 have HS2 := Kp.mk (And.intro hS2.old.size hne)
 clear hS2
 go_upto_region 5 with fail
 generalize u2.setCell ⟨g, 2, none⟩ (.int .i64 p) = u3 at *
 clear d4 e0 e1
 go_wp2_with fail
 refine (g_ack hGb3).mono ?_
 rintro e3 u4 ⟨rfl, hb4⟩
 replace hA1 := hA1.below hb4 hA1.lt
 have hGb4 := hGb3.below hb4
 have HG4 := Kp.mk (HG3.out.trans (grown_of_below hb4 (some g)))
 have hZ := Kp.mk hGb4
 clear hGb3 hb4 HG3 hGb4
 go_wp2_with (refine wpList_store_vb (vs := (svAck sf p).cells) rfl (.tmp 4) (.tmp 31) rfl rfl rfl hA1 rfl agg_seg rfl ?_; intro w4 hv4 hg4 hz4; clear hA1)
 refine bodyPost_ret (v := .tuple #[(svAck sf p).v, .bool true, .bool true]) (results_three Tryz.results111 _ rfl hv4 agg_seg) rfl ?_
 refine ⟨rfl, Vb.grown hZ.out hg4 HS2.out.2.symm, ?_⟩
 exact grown_newH HG4.out hg4 (by omega)
theorem gAll_none (h0 : Gb w g sf bo E) (x : Sv) (hx : helloG x sf = false) (hy : offG x sf bo = false) : Calls Tryz.prog 111 #[.pointer (some ⟨g, 0, none⟩), x.v] w fun en w' => en = .returned (.tuple #[sv0.v, .bool false, .bool false]) ∧ Below w.heap.size w w' := by
 have HO := Kp.mk hy
 unfold helloG at hx
 clear hy
 obtain ⟨k, t, f, h, p, o, s, a, A, n, c'⟩ := x
 have hS := H2.new (k := k) (t := t) (f := f) (h := h) (p := p) (o := o) (s := s) (a := a) (A := A) (n := n) (c := c') h0 _ rfl
 have hN := new_seg (w.alloc (.cells #[.int .i64 k, .int .i64 t, .int .i64 f, .int .i64 h, .int .i64 p, .int .i64 o, .int .i64 s, .int .i64 a, .slice A n c'] 54)) sv0
 rw [allocZ] at hN
 have hS := hS.step (by simpa using hN.2)
 have HW := Kp.mk hN.1
 clear h0 hN
 simp only [Sv.v] at hx ⊢
 go_enter Tryz.func111, Tryz.ntmps111
 go_upto_region 1 with fail
 have hS0 := hS.step (Below.refl _ _).drew
 have HW0 := Kp.mk (HW.out.below (Below.refl _ _).drew HW.out.lt)
 clear hS HW
 cases hg : Sv.is ⟨k, t, f, h, p, o, s, a, A, n, c'⟩ 1 with
 | false =>
  clear hx
  refine wp_region_held_drew (S := H2 w w.heap.size k t f h p o s a A n c' 132 g [.int .i64 sf, .int .i64 bo, .int .i64 E]) (by kernel_rfl) hS0 (fun _ => ?_)
  refine tD 0 (.agg #[.int .i64 k, .int .i64 t, .int .i64 f, .int .i64 h, .int .i64 p, .int .i64 o, .int .i64 s, .int .i64 a, .slice A n c']) 8 rfl rfl hS0 ?_ ?_
  ·rintro w' hq
   obtain ⟨d0, d1, d2, d3, d4, d5, d6, d7, d8⟩ := hq.nine
   go_simp
  try simp only [Act.put, zA, zB, zC]
  refine rD 1 rfl fun K hK => ?_
  try rw [if_pos (by rfl)]
  go_simp
  refine (isOne_any ⟨k, t, f, h, p, o, s, a, A, n, c'⟩ 1 _).mono ?_
  rintro e u1 ⟨rfl, hb1⟩
  rw [hg]
  have hS1 := H2.step hS0 hb1
  refine hK.out _ _ hS1 (fun _ => ?_)
  clear hK K
  try simp only [Act.put, zA, zB, zC]
  refine tD 2 (.bool false) 10 rfl rfl hS1 ?_ ?_
  ·rintro w' hq
   go_simp
  try simp only [Act.put, zA, zB, zC]
  refine tU 3 11 rfl rfl hS1 ?_
  try simp only [Act.put, zA, zB, zC]
  refine tU 4 12 rfl rfl hS1 ?_
  try simp only [Act.put, zA, zB, zC]
  refine tU 5 13 rfl rfl hS1 ?_
  try simp only [Act.put, zA, zB, zC]
  refine tU 6 14 rfl rfl hS1 ?_
  try simp only [Act.put, zA, zB, zC]
  refine tU 7 15 rfl rfl hS1 ?_
  try simp only [Act.put, zA, zB, zC]
  refine tU 8 16 rfl rfl hS1 ?_
  try simp only [Act.put, zA, zB, zC]
  refine tU 9 17 rfl rfl hS1 ?_
  try simp only [Act.put, zA, zB, zC]
  refine tD 10 (.bool false) 18 rfl rfl hS1 ?_ ?_
  ·rintro w' hq
   go_simp
  try simp only [Act.put, zA, zB, zC]
  refine tD 11 (.bool false) 7 rfl rfl hS1 ?_ ?_
  ·rintro w' hq
   go_simp
  try simp only [Act.put, zA, zB, zC]
  refine wpAnyH_done (by kernel_rfl) ?_ _
  have hA1 := HW0.out.below hb1 HW0.out.lt
  clear hb1 hS0 HW0
  have hGb : Gb u1 g sf bo E := hS1.r
  have HB1 := Kp.mk hS1
  obtain ⟨d0, d1, d2, d3, d4, d5, d6, d7, d8⟩ := hS1.nine
  clear hS1 hg
  go_wp2_with fail
  refine (gOffered hGb ⟨k, t, f, h, p, o, s, a, A, n, c'⟩).mono ?_
  rintro e2 u2 ⟨rfl, hb2⟩
  rw [HO.out]
  have HB2 := Kp.mk (HB1.out.step hb2).old
  replace hA1 := hA1.below hb2 hA1.lt
  clear hGb hb2 HB1 d0 d1 d2 d3 d4 d5 d6 d7 d8
  go_wp2_with (refine wpList_store_vb (vs := (sv0).cells) rfl (.tmp 4) (.tmp 32) rfl rfl rfl hA1 rfl agg_seg rfl ?_; intro w4 hv4 hg4 hz4; clear hA1)
  refine bodyPost_ret (v := .tuple #[(sv0).v, .bool false, .bool false]) (results_three Tryz.results111 _ rfl hv4 agg_seg) rfl ?_
  exact ⟨rfl, below_grown HB2.out hg4 HB2.out.size (by omega)⟩
 | true =>
  have ht : (t == sf) = false := by rw [hg] at hx; simpa using hx
  clear hx
  refine wp_region_held_drew (S := H2 w w.heap.size k t f h p o s a A n c' 132 g [.int .i64 sf, .int .i64 bo, .int .i64 E]) (by kernel_rfl) hS0 (fun _ => ?_)
  refine tD 0 (.agg #[.int .i64 k, .int .i64 t, .int .i64 f, .int .i64 h, .int .i64 p, .int .i64 o, .int .i64 s, .int .i64 a, .slice A n c']) 8 rfl rfl hS0 ?_ ?_
  ·rintro w' hq
   obtain ⟨d0, d1, d2, d3, d4, d5, d6, d7, d8⟩ := hq.nine
   go_simp
  try simp only [Act.put, zA, zB, zC]
  refine rD 1 rfl fun K hK => ?_
  try rw [if_pos (by rfl)]
  go_simp
  refine (isOne_any ⟨k, t, f, h, p, o, s, a, A, n, c'⟩ 1 _).mono ?_
  rintro e u1 ⟨rfl, hb1⟩
  rw [hg]
  have hS1 := H2.step hS0 hb1
  refine hK.out _ _ hS1 (fun _ => ?_)
  clear hK K
  try simp only [Act.put, zA, zB, zC]
  refine tD 2 (.bool true) 10 rfl rfl hS1 ?_ ?_
  ·rintro w' hq
   go_simp
  try simp only [Act.put, zA, zB, zC]
  refine tD 3 (.pointer (some ⟨w.heap.size, 1, none⟩)) 11 rfl rfl hS1 ?_ ?_
  ·rintro w' hq
   go_simp
  try simp only [Act.put, zA, zB, zC]
  refine tD 4 (.int .i64 t) 12 rfl rfl hS1 ?_ ?_
  ·rintro w' hq
   obtain ⟨d0, d1, d2, d3, d4, d5, d6, d7, d8⟩ := hq.nine
   go_simp
  try simp only [Act.put, zA, zB, zC]
  refine tD 5 (.pointer (some ⟨g, 0, none⟩)) 13 rfl rfl hS1 ?_ ?_
  ·rintro w' hq
   go_simp
  try simp only [Act.put, zA, zB, zC]
  refine tD 6 (.pointer (some ⟨g, 0, none⟩)) 14 rfl rfl hS1 ?_ ?_
  ·rintro w' hq
   go_simp
  try simp only [Act.put, zA, zB, zC]
  refine tD 7 (.pointer (some ⟨g, 0, none⟩)) 15 rfl rfl hS1 ?_ ?_
  ·rintro w' hq
   go_simp
  try simp only [Act.put, zA, zB, zC]
  refine tD 8 (.int .i64 sf) 16 rfl rfl hS1 ?_ ?_
  ·rintro w' hq
   have c0 := hq.r.cell 0 rfl
   go_simp
  try simp only [Act.put, zA, zB, zC]
  refine tD 9 (.bool false) 17 rfl rfl hS1 ?_ ?_
  ·rintro w' hq
   go_simp
   first | done | omega | simpa using ht
  try simp only [Act.put, zA, zB, zC]
  refine tD 10 (.bool false) 18 rfl rfl hS1 ?_ ?_
  ·rintro w' hq
   go_simp
  try simp only [Act.put, zA, zB, zC]
  refine tD 11 (.bool false) 7 rfl rfl hS1 ?_ ?_
  ·rintro w' hq
   go_simp
  try simp only [Act.put, zA, zB, zC]
  refine wpAnyH_done (by kernel_rfl) ?_ _
  have hA1 := HW0.out.below hb1 HW0.out.lt
  clear hb1 hS0 HW0
  have hGb : Gb u1 g sf bo E := hS1.r
  have HB1 := Kp.mk hS1
  obtain ⟨d0, d1, d2, d3, d4, d5, d6, d7, d8⟩ := hS1.nine
  clear hS1 hg
  go_wp2_with fail
  refine (gOffered hGb ⟨k, t, f, h, p, o, s, a, A, n, c'⟩).mono ?_
  rintro e2 u2 ⟨rfl, hb2⟩
  rw [HO.out]
  have HB2 := Kp.mk (HB1.out.step hb2).old
  replace hA1 := hA1.below hb2 hA1.lt
  clear hGb hb2 HB1 d0 d1 d2 d3 d4 d5 d6 d7 d8
  go_wp2_with (refine wpList_store_vb (vs := (sv0).cells) rfl (.tmp 4) (.tmp 32) rfl rfl rfl hA1 rfl agg_seg rfl ?_; intro w4 hv4 hg4 hz4; clear hA1)
  refine bodyPost_ret (v := .tuple #[(sv0).v, .bool false, .bool false]) (results_three Tryz.results111 _ rfl hv4 agg_seg) rfl ?_
  exact ⟨rfl, below_grown HB2.out hg4 HB2.out.size (by omega)⟩
end
section
variable {w w' : World} {g : Nat} {sf bo E : Int}
theorem gAll_any (h : Gb w g sf bo E) (x : Sv) : Calls Tryz.prog 111 #[.pointer (some ⟨g, 0, none⟩), x.v] w fun en w' => en = .returned (.tuple #[(ansA x sf bo).v, .bool (helloG x sf || offG x sf bo), .bool (offG x sf bo)]) ∧ Gb w' g sf bo (epA x sf bo E) ∧ w.grownBy w' (some g) := by
 unfold ansA epA
 cases hx : helloG x sf with
 | true =>
  rw [hello_not (bo := bo) hx]
  exact (gAll_hello h x hx).mono fun _ _ ⟨h1, h2⟩ => ⟨h1, h.below h2, grown_of_below h2 _⟩
 | false =>
  cases hy : offG x sf bo with
  | true => exact (gAll_off h x hy).mono fun _ _ ⟨h1, h2, h3⟩ => ⟨h1, h2, h3⟩
  | false => exact (gAll_none h x hx hy).mono fun _ _ ⟨h1, h2⟩ => ⟨h1, h.below h2, grown_of_below h2 _⟩
theorem ansA_eq {x : Sv} (h : offG x sf bo = true → E < x.p) : ansA x sf bo = ansG x sf bo E ∧ (helloG x sf || offG x sf bo) = isG x sf bo E ∧ offG x sf bo = begG x sf bo E ∧ epA x sf bo E = epG x sf bo E := by
 have e : ackG x sf bo E = offG x sf bo := by
  unfold ackG
  cases hy : offG x sf bo with
  | true => have := h hy; simp; omega
  | false => rfl
 unfold ansA ansG isG begG epA epG
 rw [e]
 refine ⟨rfl, rfl, ?_, rfl⟩
 cases hy : offG x sf bo with
 | true => have := h hy; simp; omega
 | false => rfl
theorem gOld_same (h0 : Gb w g sf bo E) (x : Sv) (hy : offG x sf bo = true) (hp : x.p = E) : Calls Tryz.prog 112 #[.pointer (some ⟨g, 0, none⟩), x.v] w fun en w' => en = .returned (.tuple #[(svAck sf E).v, .bool true, .bool false]) ∧ Below w.heap.size w w' := by
 have HO := Kp.mk hy
 have HP := Kp.mk hp
 clear hy hp
 obtain ⟨k, t, f, h, p, o, s, a, A, n, c'⟩ := x
 have hS := H2.new (k := k) (t := t) (f := f) (h := h) (p := p) (o := o) (s := s) (a := a) (A := A) (n := n) (c := c') h0 _ rfl
 have hN := new_seg (w.alloc (.cells #[.int .i64 k, .int .i64 t, .int .i64 f, .int .i64 h, .int .i64 p, .int .i64 o, .int .i64 s, .int .i64 a, .slice A n c'] 54)) sv0
 rw [allocZ] at hN
 have hS := hS.step (by simpa using hN.2)
 have HW := Kp.mk hN.1
 clear h0 hN
 simp only [Sv.v] at ⊢
 go_enter Tryz.func112, Tryz.ntmps112
 go_upto_region 1 with fail
 have hS0 := hS.step (Below.refl _ _).drew
 have HW0 := Kp.mk (HW.out.below (Below.refl _ _).drew HW.out.lt)
 clear hS HW
 refine wp_region_held_drew (S := H2 w w.heap.size k t f h p o s a A n c' 132 g [.int .i64 sf, .int .i64 bo, .int .i64 E]) (by kernel_rfl) hS0 (fun _ => ?_)
 refine tD 0 (.pointer (some ⟨g, 0, none⟩)) 8 rfl rfl hS0 ?_ ?_
 ·rintro w' hq
  go_simp
 try simp only [Act.put, zA, zB, zC]
 refine tD 1 (.agg #[.int .i64 k, .int .i64 t, .int .i64 f, .int .i64 h, .int .i64 p, .int .i64 o, .int .i64 s, .int .i64 a, .slice A n c']) 9 rfl rfl hS0 ?_ ?_
 ·rintro w' hq
  obtain ⟨d0, d1, d2, d3, d4, d5, d6, d7, d8⟩ := hq.nine
  go_simp
 try simp only [Act.put, zA, zB, zC]
 refine rD 2 rfl fun K hK => ?_
 try rw [if_pos (by rfl)]
 go_simp
 refine (gOffered hS0.r ⟨k, t, f, h, p, o, s, a, A, n, c'⟩).mono ?_
 rintro e u1 ⟨rfl, hb1⟩
 rw [HO.out]
 have hS1 := H2.step hS0 hb1
 refine hK.out _ _ hS1 (fun _ => ?_)
 clear hK K
 try simp only [Act.put, zA, zB, zC]
 refine tD 3 (.bool true) 11 rfl rfl hS1 ?_ ?_
 ·rintro w' hq
  go_simp
 try simp only [Act.put, zA, zB, zC]
 refine tD 4 (.pointer (some ⟨w.heap.size, 4, none⟩)) 12 rfl rfl hS1 ?_ ?_
 ·rintro w' hq
  go_simp
 try simp only [Act.put, zA, zB, zC]
 refine tD 5 (.int .i64 p) 13 rfl rfl hS1 ?_ ?_
 ·rintro w' hq
  obtain ⟨d0, d1, d2, d3, d4, d5, d6, d7, d8⟩ := hq.nine
  go_simp
 try simp only [Act.put, zA, zB, zC]
 refine tD 6 (.pointer (some ⟨g, 0, none⟩)) 14 rfl rfl hS1 ?_ ?_
 ·rintro w' hq
  go_simp
 try simp only [Act.put, zA, zB, zC]
 refine tD 7 (.pointer (some ⟨g, 0, none⟩)) 15 rfl rfl hS1 ?_ ?_
 ·rintro w' hq
  go_simp
 try simp only [Act.put, zA, zB, zC]
 refine tD 8 (.pointer (some ⟨g, 2, none⟩)) 16 rfl rfl hS1 ?_ ?_
 ·rintro w' hq
  go_simp
 try simp only [Act.put, zA, zB, zC]
 refine tD 9 (.int .i64 E) 17 rfl rfl hS1 ?_ ?_
 ·rintro w' hq
  have c0 := hq.r.cell 2 rfl
  go_simp
 try simp only [Act.put, zA, zB, zC]
 refine tD 10 (.bool true) 18 rfl rfl hS1 ?_ ?_
 ·rintro w' hq
  go_simp
  first | done | (have hp : p = E := HP.out; omega)
 try simp only [Act.put, zA, zB, zC]
 refine tD 11 (.bool true) 19 rfl rfl hS1 ?_ ?_
 ·rintro w' hq
  go_simp
 try simp only [Act.put, zA, zB, zC]
 refine tD 12 (.bool true) 7 rfl rfl hS1 ?_ ?_
 ·rintro w' hq
  go_simp
 try simp only [Act.put, zA, zB, zC]
 refine wpAnyH_done (by kernel_rfl) ?_ _
 have hA := HW0.out.below hb1 HW0.out.lt
 have hGb : Gb u1 g sf bo E := hS1.r
 have HB1 := Kp.mk hS1.old
 clear hb1 hS0 HW0 hS1
 go_wp2_with fail
 refine (g_ack hGb).mono ?_
 rintro e2 u2 ⟨rfl, hb2⟩
 replace hA := hA.below hb2 hA.lt
 have HB2 := Kp.mk (HB1.out.trans (hb2.mono HB1.out.size))
 clear hGb hb2 HB1
 go_wp2_with (refine wpList_store_vb (vs := (svAck sf E).cells) rfl (.tmp 4) (.tmp 21) rfl rfl rfl hA rfl agg_seg rfl ?_; intro w4 hv4 hg4 hz4; clear hA)
 refine bodyPost_ret (v := .tuple #[(svAck sf E).v, .bool true, .bool false]) (results_three Tryz.results112 _ rfl hv4 agg_seg) rfl ?_
 exact ⟨rfl, below_grown HB2.out hg4 HB2.out.size (by omega)⟩
theorem gOld_late (h0 : Gb w g sf bo E) (x : Sv) (hy : offG x sf bo = true) (hp : x.p < E) : Calls Tryz.prog 112 #[.pointer (some ⟨g, 0, none⟩), x.v] w fun en w' => en = .returned (.tuple #[sv0.v, .bool false, .bool false]) ∧ Below w.heap.size w w' := by
 have HO := Kp.mk hy
 have HP := Kp.mk hp
 clear hy hp
 obtain ⟨k, t, f, h, p, o, s, a, A, n, c'⟩ := x
 have hS := H2.new (k := k) (t := t) (f := f) (h := h) (p := p) (o := o) (s := s) (a := a) (A := A) (n := n) (c := c') h0 _ rfl
 have hN := new_seg (w.alloc (.cells #[.int .i64 k, .int .i64 t, .int .i64 f, .int .i64 h, .int .i64 p, .int .i64 o, .int .i64 s, .int .i64 a, .slice A n c'] 54)) sv0
 rw [allocZ] at hN
 have hS := hS.step (by simpa using hN.2)
 have HW := Kp.mk hN.1
 clear h0 hN
 simp only [Sv.v] at ⊢
 go_enter Tryz.func112, Tryz.ntmps112
 go_upto_region 1 with fail
 have hS0 := hS.step (Below.refl _ _).drew
 have HW0 := Kp.mk (HW.out.below (Below.refl _ _).drew HW.out.lt)
 clear hS HW
 refine wp_region_held_drew (S := H2 w w.heap.size k t f h p o s a A n c' 132 g [.int .i64 sf, .int .i64 bo, .int .i64 E]) (by kernel_rfl) hS0 (fun _ => ?_)
 refine tD 0 (.pointer (some ⟨g, 0, none⟩)) 8 rfl rfl hS0 ?_ ?_
 ·rintro w' hq
  go_simp
 try simp only [Act.put, zA, zB, zC]
 refine tD 1 (.agg #[.int .i64 k, .int .i64 t, .int .i64 f, .int .i64 h, .int .i64 p, .int .i64 o, .int .i64 s, .int .i64 a, .slice A n c']) 9 rfl rfl hS0 ?_ ?_
 ·rintro w' hq
  obtain ⟨d0, d1, d2, d3, d4, d5, d6, d7, d8⟩ := hq.nine
  go_simp
 try simp only [Act.put, zA, zB, zC]
 refine rD 2 rfl fun K hK => ?_
 try rw [if_pos (by rfl)]
 go_simp
 refine (gOffered hS0.r ⟨k, t, f, h, p, o, s, a, A, n, c'⟩).mono ?_
 rintro e u1 ⟨rfl, hb1⟩
 rw [HO.out]
 have hS1 := H2.step hS0 hb1
 refine hK.out _ _ hS1 (fun _ => ?_)
 clear hK K
 try simp only [Act.put, zA, zB, zC]
 refine tD 3 (.bool true) 11 rfl rfl hS1 ?_ ?_
 ·rintro w' hq
  go_simp
 try simp only [Act.put, zA, zB, zC]
 refine tD 4 (.pointer (some ⟨w.heap.size, 4, none⟩)) 12 rfl rfl hS1 ?_ ?_
 ·rintro w' hq
  go_simp
 try simp only [Act.put, zA, zB, zC]
 refine tD 5 (.int .i64 p) 13 rfl rfl hS1 ?_ ?_
 ·rintro w' hq
  obtain ⟨d0, d1, d2, d3, d4, d5, d6, d7, d8⟩ := hq.nine
  go_simp
 try simp only [Act.put, zA, zB, zC]
 refine tD 6 (.pointer (some ⟨g, 0, none⟩)) 14 rfl rfl hS1 ?_ ?_
 ·rintro w' hq
  go_simp
 try simp only [Act.put, zA, zB, zC]
 refine tD 7 (.pointer (some ⟨g, 0, none⟩)) 15 rfl rfl hS1 ?_ ?_
 ·rintro w' hq
  go_simp
 try simp only [Act.put, zA, zB, zC]
 refine tD 8 (.pointer (some ⟨g, 2, none⟩)) 16 rfl rfl hS1 ?_ ?_
 ·rintro w' hq
  go_simp
 try simp only [Act.put, zA, zB, zC]
 refine tD 9 (.int .i64 E) 17 rfl rfl hS1 ?_ ?_
 ·rintro w' hq
  have c0 := hq.r.cell 2 rfl
  go_simp
 try simp only [Act.put, zA, zB, zC]
 refine tD 10 (.bool false) 18 rfl rfl hS1 ?_ ?_
 ·rintro w' hq
  go_simp
  first | done | (have hp : p < E := HP.out; omega)
 try simp only [Act.put, zA, zB, zC]
 refine tD 11 (.bool false) 19 rfl rfl hS1 ?_ ?_
 ·rintro w' hq
  go_simp
 try simp only [Act.put, zA, zB, zC]
 refine tD 12 (.bool false) 7 rfl rfl hS1 ?_ ?_
 ·rintro w' hq
  go_simp
 try simp only [Act.put, zA, zB, zC]
 refine wpAnyH_done (by kernel_rfl) ?_ _
 have hA := HW0.out.below hb1 HW0.out.lt
 have hT := hS1
 clear hb1 hS0 HW0 hS1
 go_upto_region 3 with fail
 have hS0 := hT.step (Below.refl _ _).drew
 have HA0 := Kp.mk (hA.below (Below.refl _ _).drew hA.lt)
 clear hT hA
 refine wp_region_held_drew (S := H2 w w.heap.size k t f h p o s a A n c' 132 g [.int .i64 sf, .int .i64 bo, .int .i64 E]) (by kernel_rfl) hS0 (fun _ => ?_)
 refine tD 0 (.pointer (some ⟨g, 0, none⟩)) 23 rfl rfl hS0 ?_ ?_
 ·rintro w' hq
  go_simp
 try simp only [Act.put, zA, zB, zC]
 refine tD 1 (.agg #[.int .i64 k, .int .i64 t, .int .i64 f, .int .i64 h, .int .i64 p, .int .i64 o, .int .i64 s, .int .i64 a, .slice A n c']) 24 rfl rfl hS0 ?_ ?_
 ·rintro w' hq
  obtain ⟨d0, d1, d2, d3, d4, d5, d6, d7, d8⟩ := hq.nine
  go_simp
 try simp only [Act.put, zA, zB, zC]
 refine rD 2 rfl fun K hK => ?_
 try rw [if_pos (by rfl)]
 go_simp
 refine (gOffered hS0.r ⟨k, t, f, h, p, o, s, a, A, n, c'⟩).mono ?_
 rintro e v1 ⟨rfl, hb1⟩
 rw [HO.out]
 have hS1 := H2.step hS0 hb1
 refine hK.out _ _ hS1 (fun _ => ?_)
 clear hK K
 try simp only [Act.put, zA, zB, zC]
 refine tD 3 (.bool true) 26 rfl rfl hS1 ?_ ?_
 ·rintro w' hq
  go_simp
 try simp only [Act.put, zA, zB, zC]
 refine tD 4 (.pointer (some ⟨w.heap.size, 4, none⟩)) 27 rfl rfl hS1 ?_ ?_
 ·rintro w' hq
  go_simp
 try simp only [Act.put, zA, zB, zC]
 refine tD 5 (.int .i64 p) 28 rfl rfl hS1 ?_ ?_
 ·rintro w' hq
  obtain ⟨d0, d1, d2, d3, d4, d5, d6, d7, d8⟩ := hq.nine
  go_simp
 try simp only [Act.put, zA, zB, zC]
 refine tD 6 (.pointer (some ⟨g, 0, none⟩)) 29 rfl rfl hS1 ?_ ?_
 ·rintro w' hq
  go_simp
 try simp only [Act.put, zA, zB, zC]
 refine tD 7 (.pointer (some ⟨g, 0, none⟩)) 30 rfl rfl hS1 ?_ ?_
 ·rintro w' hq
  go_simp
 try simp only [Act.put, zA, zB, zC]
 refine tD 8 (.pointer (some ⟨g, 2, none⟩)) 31 rfl rfl hS1 ?_ ?_
 ·rintro w' hq
  go_simp
 try simp only [Act.put, zA, zB, zC]
 refine tD 9 (.int .i64 E) 32 rfl rfl hS1 ?_ ?_
 ·rintro w' hq
  have c0 := hq.r.cell 2 rfl
  go_simp
 try simp only [Act.put, zA, zB, zC]
 refine tD 10 (.bool true) 33 rfl rfl hS1 ?_ ?_
 ·rintro w' hq
  go_simp
  first | done | (have hp : p < E := HP.out; omega)
 try simp only [Act.put, zA, zB, zC]
 refine tD 11 (.bool true) 34 rfl rfl hS1 ?_ ?_
 ·rintro w' hq
  go_simp
 try simp only [Act.put, zA, zB, zC]
 refine tD 12 (.bool true) 22 rfl rfl hS1 ?_ ?_
 ·rintro w' hq
  go_simp
 try simp only [Act.put, zA, zB, zC]
 refine wpAnyH_done (by kernel_rfl) ?_ _
 have hA := HA0.out.below hb1 HA0.out.lt
 clear hb1 hS0 HA0
 have HB2 := Kp.mk hS1.old
 clear hS1
 go_wp2_with (refine wpList_store_vb (vs := (sv0).cells) rfl (.tmp 4) (.tmp 35) rfl rfl rfl hA rfl agg_seg rfl ?_; intro w4 hv4 hg4 hz4; clear hA)
 refine bodyPost_ret (v := .tuple #[(sv0).v, .bool false, .bool false]) (results_three Tryz.results112 _ rfl hv4 agg_seg) rfl ?_
 exact ⟨rfl, below_grown HB2.out hg4 HB2.out.size (by omega)⟩
theorem gOld_new (h0 : Gb w g sf bo E) (x : Sv) (hy : offG x sf bo = true) (hp : E < x.p) : Calls Tryz.prog 112 #[.pointer (some ⟨g, 0, none⟩), x.v] w fun en w' => en = .returned (.tuple #[(ansA x sf bo).v, .bool (helloG x sf || offG x sf bo), .bool (offG x sf bo)]) ∧ Gb w' g sf bo (epA x sf bo E) ∧ w.grownBy w' (some g) := by
 have HO := Kp.mk hy
 have HP := Kp.mk hp
 clear hy hp
 obtain ⟨k, t, f, h, p, o, s, a, A, n, c'⟩ := x
 have hS := H2.new (k := k) (t := t) (f := f) (h := h) (p := p) (o := o) (s := s) (a := a) (A := A) (n := n) (c := c') h0 _ rfl
 have hN := new_seg (w.alloc (.cells #[.int .i64 k, .int .i64 t, .int .i64 f, .int .i64 h, .int .i64 p, .int .i64 o, .int .i64 s, .int .i64 a, .slice A n c'] 54)) sv0
 rw [allocZ] at hN
 have hS := hS.step (by simpa using hN.2)
 have HW := Kp.mk hN.1
 clear h0 hN
 simp only [Sv.v] at ⊢
 go_enter Tryz.func112, Tryz.ntmps112
 go_upto_region 1 with fail
 have hS0 := hS.step (Below.refl _ _).drew
 have HW0 := Kp.mk (HW.out.below (Below.refl _ _).drew HW.out.lt)
 clear hS HW
 refine wp_region_held_drew (S := H2 w w.heap.size k t f h p o s a A n c' 132 g [.int .i64 sf, .int .i64 bo, .int .i64 E]) (by kernel_rfl) hS0 (fun _ => ?_)
 refine tD 0 (.pointer (some ⟨g, 0, none⟩)) 8 rfl rfl hS0 ?_ ?_
 ·rintro w' hq
  go_simp
 try simp only [Act.put, zA, zB, zC]
 refine tD 1 (.agg #[.int .i64 k, .int .i64 t, .int .i64 f, .int .i64 h, .int .i64 p, .int .i64 o, .int .i64 s, .int .i64 a, .slice A n c']) 9 rfl rfl hS0 ?_ ?_
 ·rintro w' hq
  obtain ⟨d0, d1, d2, d3, d4, d5, d6, d7, d8⟩ := hq.nine
  go_simp
 try simp only [Act.put, zA, zB, zC]
 refine rD 2 rfl fun K hK => ?_
 try rw [if_pos (by rfl)]
 go_simp
 refine (gOffered hS0.r ⟨k, t, f, h, p, o, s, a, A, n, c'⟩).mono ?_
 rintro e u1 ⟨rfl, hb1⟩
 rw [HO.out]
 have hS1 := H2.step hS0 hb1
 refine hK.out _ _ hS1 (fun _ => ?_)
 clear hK K
 try simp only [Act.put, zA, zB, zC]
 refine tD 3 (.bool true) 11 rfl rfl hS1 ?_ ?_
 ·rintro w' hq
  go_simp
 try simp only [Act.put, zA, zB, zC]
 refine tD 4 (.pointer (some ⟨w.heap.size, 4, none⟩)) 12 rfl rfl hS1 ?_ ?_
 ·rintro w' hq
  go_simp
 try simp only [Act.put, zA, zB, zC]
 refine tD 5 (.int .i64 p) 13 rfl rfl hS1 ?_ ?_
 ·rintro w' hq
  obtain ⟨d0, d1, d2, d3, d4, d5, d6, d7, d8⟩ := hq.nine
  go_simp
 try simp only [Act.put, zA, zB, zC]
 refine tD 6 (.pointer (some ⟨g, 0, none⟩)) 14 rfl rfl hS1 ?_ ?_
 ·rintro w' hq
  go_simp
 try simp only [Act.put, zA, zB, zC]
 refine tD 7 (.pointer (some ⟨g, 0, none⟩)) 15 rfl rfl hS1 ?_ ?_
 ·rintro w' hq
  go_simp
 try simp only [Act.put, zA, zB, zC]
 refine tD 8 (.pointer (some ⟨g, 2, none⟩)) 16 rfl rfl hS1 ?_ ?_
 ·rintro w' hq
  go_simp
 try simp only [Act.put, zA, zB, zC]
 refine tD 9 (.int .i64 E) 17 rfl rfl hS1 ?_ ?_
 ·rintro w' hq
  have c0 := hq.r.cell 2 rfl
  go_simp
 try simp only [Act.put, zA, zB, zC]
 refine tD 10 (.bool false) 18 rfl rfl hS1 ?_ ?_
 ·rintro w' hq
  go_simp
  first | done | (have hp : E < p := HP.out; omega)
 try simp only [Act.put, zA, zB, zC]
 refine tD 11 (.bool false) 19 rfl rfl hS1 ?_ ?_
 ·rintro w' hq
  go_simp
 try simp only [Act.put, zA, zB, zC]
 refine tD 12 (.bool false) 7 rfl rfl hS1 ?_ ?_
 ·rintro w' hq
  go_simp
 try simp only [Act.put, zA, zB, zC]
 refine wpAnyH_done (by kernel_rfl) ?_ _
 have hA := HW0.out.below hb1 HW0.out.lt
 have hT := hS1
 clear hb1 hS0 HW0 hS1
 go_upto_region 3 with fail
 have hS0 := hT.step (Below.refl _ _).drew
 have HA0 := Kp.mk (hA.below (Below.refl _ _).drew hA.lt)
 clear hT hA
 refine wp_region_held_drew (S := H2 w w.heap.size k t f h p o s a A n c' 132 g [.int .i64 sf, .int .i64 bo, .int .i64 E]) (by kernel_rfl) hS0 (fun _ => ?_)
 refine tD 0 (.pointer (some ⟨g, 0, none⟩)) 23 rfl rfl hS0 ?_ ?_
 ·rintro w' hq
  go_simp
 try simp only [Act.put, zA, zB, zC]
 refine tD 1 (.agg #[.int .i64 k, .int .i64 t, .int .i64 f, .int .i64 h, .int .i64 p, .int .i64 o, .int .i64 s, .int .i64 a, .slice A n c']) 24 rfl rfl hS0 ?_ ?_
 ·rintro w' hq
  obtain ⟨d0, d1, d2, d3, d4, d5, d6, d7, d8⟩ := hq.nine
  go_simp
 try simp only [Act.put, zA, zB, zC]
 refine rD 2 rfl fun K hK => ?_
 try rw [if_pos (by rfl)]
 go_simp
 refine (gOffered hS0.r ⟨k, t, f, h, p, o, s, a, A, n, c'⟩).mono ?_
 rintro e v1 ⟨rfl, hb1⟩
 rw [HO.out]
 have hS1 := H2.step hS0 hb1
 refine hK.out _ _ hS1 (fun _ => ?_)
 clear hK K
 try simp only [Act.put, zA, zB, zC]
 refine tD 3 (.bool true) 26 rfl rfl hS1 ?_ ?_
 ·rintro w' hq
  go_simp
 try simp only [Act.put, zA, zB, zC]
 refine tD 4 (.pointer (some ⟨w.heap.size, 4, none⟩)) 27 rfl rfl hS1 ?_ ?_
 ·rintro w' hq
  go_simp
 try simp only [Act.put, zA, zB, zC]
 refine tD 5 (.int .i64 p) 28 rfl rfl hS1 ?_ ?_
 ·rintro w' hq
  obtain ⟨d0, d1, d2, d3, d4, d5, d6, d7, d8⟩ := hq.nine
  go_simp
 try simp only [Act.put, zA, zB, zC]
 refine tD 6 (.pointer (some ⟨g, 0, none⟩)) 29 rfl rfl hS1 ?_ ?_
 ·rintro w' hq
  go_simp
 try simp only [Act.put, zA, zB, zC]
 refine tD 7 (.pointer (some ⟨g, 0, none⟩)) 30 rfl rfl hS1 ?_ ?_
 ·rintro w' hq
  go_simp
 try simp only [Act.put, zA, zB, zC]
 refine tD 8 (.pointer (some ⟨g, 2, none⟩)) 31 rfl rfl hS1 ?_ ?_
 ·rintro w' hq
  go_simp
 try simp only [Act.put, zA, zB, zC]
 refine tD 9 (.int .i64 E) 32 rfl rfl hS1 ?_ ?_
 ·rintro w' hq
  have c0 := hq.r.cell 2 rfl
  go_simp
 try simp only [Act.put, zA, zB, zC]
 refine tD 10 (.bool false) 33 rfl rfl hS1 ?_ ?_
 ·rintro w' hq
  go_simp
  first | done | (have hp : E < p := HP.out; omega)
 try simp only [Act.put, zA, zB, zC]
 refine tD 11 (.bool false) 34 rfl rfl hS1 ?_ ?_
 ·rintro w' hq
  go_simp
 try simp only [Act.put, zA, zB, zC]
 refine tD 12 (.bool false) 22 rfl rfl hS1 ?_ ?_
 ·rintro w' hq
  go_simp
 try simp only [Act.put, zA, zB, zC]
 refine wpAnyH_done (by kernel_rfl) ?_ _
 have hA := HA0.out.below hb1 HA0.out.lt
 clear hb1 hS0 HA0
 have hGb : Gb v1 g sf bo E := hS1.r
 have HB1 := Kp.mk hS1.old
 obtain ⟨d0, d1, d2, d3, d4, d5, d6, d7, d8⟩ := hS1.nine
 clear hS1
 go_wp2_with fail
 refine (gAll_any hGb ⟨k, t, f, h, p, o, s, a, A, n, c'⟩).mono ?_
 rintro e2 u2 ⟨rfl, hG2, hg2⟩
 have hne : w.heap.size + 1 ≠ g := vb_ne hA hGb (by decide)
 replace hA := hA.grown hg2 hne
 have HG2 := Kp.mk (And.intro hG2 (And.intro ((grown_of_below HB1.out (some g)).trans hg2) hne))
 clear hGb HB1 d0 d1 d2 d3 d4 d5 d6 d7 d8 hG2 hg2 hne
 go_wp2_with (refine wpList_store_vb (vs := (ansA ⟨k, t, f, h, p, o, s, a, A, n, c'⟩ sf bo).cells) rfl (.tmp 4) (.tmp 39) rfl rfl rfl hA rfl agg_seg rfl ?_; intro w4 hv4 hg4 hz4; clear hA)
 refine bodyPost_ret (v := .tuple #[(ansA ⟨k, t, f, h, p, o, s, a, A, n, c'⟩ sf bo).v, .bool (helloG ⟨k, t, f, h, p, o, s, a, A, n, c'⟩ sf || offG ⟨k, t, f, h, p, o, s, a, A, n, c'⟩ sf bo), .bool (offG ⟨k, t, f, h, p, o, s, a, A, n, c'⟩ sf bo)]) (results_three Tryz.results112 _ rfl hv4 agg_seg) rfl ?_
 exact ⟨rfl, Vb.grown HG2.out.1 hg4 HG2.out.2.2.symm, grown_newH HG2.out.2.1 hg4 (by omega)⟩
theorem gOld_not (h0 : Gb w g sf bo E) (x : Sv) (hy : offG x sf bo = false) : Calls Tryz.prog 112 #[.pointer (some ⟨g, 0, none⟩), x.v] w fun en w' => en = .returned (.tuple #[(ansA x sf bo).v, .bool (helloG x sf || offG x sf bo), .bool (offG x sf bo)]) ∧ Gb w' g sf bo (epA x sf bo E) ∧ w.grownBy w' (some g) := by
 have HO := Kp.mk hy
 clear hy
 obtain ⟨k, t, f, h, p, o, s, a, A, n, c'⟩ := x
 have hS := H2.new (k := k) (t := t) (f := f) (h := h) (p := p) (o := o) (s := s) (a := a) (A := A) (n := n) (c := c') h0 _ rfl
 have hN := new_seg (w.alloc (.cells #[.int .i64 k, .int .i64 t, .int .i64 f, .int .i64 h, .int .i64 p, .int .i64 o, .int .i64 s, .int .i64 a, .slice A n c'] 54)) sv0
 rw [allocZ] at hN
 have hS := hS.step (by simpa using hN.2)
 have HW := Kp.mk hN.1
 clear h0 hN
 simp only [Sv.v] at ⊢
 go_enter Tryz.func112, Tryz.ntmps112
 go_upto_region 1 with fail
 have hS0 := hS.step (Below.refl _ _).drew
 have HW0 := Kp.mk (HW.out.below (Below.refl _ _).drew HW.out.lt)
 clear hS HW
 refine wp_region_held_drew (S := H2 w w.heap.size k t f h p o s a A n c' 132 g [.int .i64 sf, .int .i64 bo, .int .i64 E]) (by kernel_rfl) hS0 (fun _ => ?_)
 refine tD 0 (.pointer (some ⟨g, 0, none⟩)) 8 rfl rfl hS0 ?_ ?_
 ·rintro w' hq
  go_simp
 try simp only [Act.put, zA, zB, zC]
 refine tD 1 (.agg #[.int .i64 k, .int .i64 t, .int .i64 f, .int .i64 h, .int .i64 p, .int .i64 o, .int .i64 s, .int .i64 a, .slice A n c']) 9 rfl rfl hS0 ?_ ?_
 ·rintro w' hq
  obtain ⟨d0, d1, d2, d3, d4, d5, d6, d7, d8⟩ := hq.nine
  go_simp
 try simp only [Act.put, zA, zB, zC]
 refine rD 2 rfl fun K hK => ?_
 try rw [if_pos (by rfl)]
 go_simp
 refine (gOffered hS0.r ⟨k, t, f, h, p, o, s, a, A, n, c'⟩).mono ?_
 rintro e u1 ⟨rfl, hb1⟩
 rw [HO.out]
 have hS1 := H2.step hS0 hb1
 refine hK.out _ _ hS1 (fun _ => ?_)
 clear hK K
 try simp only [Act.put, zA, zB, zC]
 refine tD 3 (.bool false) 11 rfl rfl hS1 ?_ ?_
 ·rintro w' hq
  go_simp
 try simp only [Act.put, zA, zB, zC]
 refine tU 4 12 rfl rfl hS1 ?_
 try simp only [Act.put, zA, zB, zC]
 refine tU 5 13 rfl rfl hS1 ?_
 try simp only [Act.put, zA, zB, zC]
 refine tU 6 14 rfl rfl hS1 ?_
 try simp only [Act.put, zA, zB, zC]
 refine tU 7 15 rfl rfl hS1 ?_
 try simp only [Act.put, zA, zB, zC]
 refine tU 8 16 rfl rfl hS1 ?_
 try simp only [Act.put, zA, zB, zC]
 refine tU 9 17 rfl rfl hS1 ?_
 try simp only [Act.put, zA, zB, zC]
 refine tU 10 18 rfl rfl hS1 ?_
 try simp only [Act.put, zA, zB, zC]
 refine tD 11 (.bool false) 19 rfl rfl hS1 ?_ ?_
 ·rintro w' hq
  go_simp
 try simp only [Act.put, zA, zB, zC]
 refine tD 12 (.bool false) 7 rfl rfl hS1 ?_ ?_
 ·rintro w' hq
  go_simp
 try simp only [Act.put, zA, zB, zC]
 refine wpAnyH_done (by kernel_rfl) ?_ _
 have hA := HW0.out.below hb1 HW0.out.lt
 have hT := hS1
 clear hb1 hS0 HW0 hS1
 go_upto_region 3 with fail
 have hS0 := hT.step (Below.refl _ _).drew
 have HA0 := Kp.mk (hA.below (Below.refl _ _).drew hA.lt)
 clear hT hA
 refine wp_region_held_drew (S := H2 w w.heap.size k t f h p o s a A n c' 132 g [.int .i64 sf, .int .i64 bo, .int .i64 E]) (by kernel_rfl) hS0 (fun _ => ?_)
 refine tD 0 (.pointer (some ⟨g, 0, none⟩)) 23 rfl rfl hS0 ?_ ?_
 ·rintro w' hq
  go_simp
 try simp only [Act.put, zA, zB, zC]
 refine tD 1 (.agg #[.int .i64 k, .int .i64 t, .int .i64 f, .int .i64 h, .int .i64 p, .int .i64 o, .int .i64 s, .int .i64 a, .slice A n c']) 24 rfl rfl hS0 ?_ ?_
 ·rintro w' hq
  obtain ⟨d0, d1, d2, d3, d4, d5, d6, d7, d8⟩ := hq.nine
  go_simp
 try simp only [Act.put, zA, zB, zC]
 refine rD 2 rfl fun K hK => ?_
 try rw [if_pos (by rfl)]
 go_simp
 refine (gOffered hS0.r ⟨k, t, f, h, p, o, s, a, A, n, c'⟩).mono ?_
 rintro e v1 ⟨rfl, hb1⟩
 rw [HO.out]
 have hS1 := H2.step hS0 hb1
 refine hK.out _ _ hS1 (fun _ => ?_)
 clear hK K
 try simp only [Act.put, zA, zB, zC]
 refine tD 3 (.bool false) 26 rfl rfl hS1 ?_ ?_
 ·rintro w' hq
  go_simp
 try simp only [Act.put, zA, zB, zC]
 refine tU 4 27 rfl rfl hS1 ?_
 try simp only [Act.put, zA, zB, zC]
 refine tU 5 28 rfl rfl hS1 ?_
 try simp only [Act.put, zA, zB, zC]
 refine tU 6 29 rfl rfl hS1 ?_
 try simp only [Act.put, zA, zB, zC]
 refine tU 7 30 rfl rfl hS1 ?_
 try simp only [Act.put, zA, zB, zC]
 refine tU 8 31 rfl rfl hS1 ?_
 try simp only [Act.put, zA, zB, zC]
 refine tU 9 32 rfl rfl hS1 ?_
 try simp only [Act.put, zA, zB, zC]
 refine tU 10 33 rfl rfl hS1 ?_
 try simp only [Act.put, zA, zB, zC]
 refine tD 11 (.bool false) 34 rfl rfl hS1 ?_ ?_
 ·rintro w' hq
  go_simp
 try simp only [Act.put, zA, zB, zC]
 refine tD 12 (.bool false) 22 rfl rfl hS1 ?_ ?_
 ·rintro w' hq
  go_simp
 try simp only [Act.put, zA, zB, zC]
 refine wpAnyH_done (by kernel_rfl) ?_ _
 have hA := HA0.out.below hb1 HA0.out.lt
 clear hb1 hS0 HA0
 have hGb : Gb v1 g sf bo E := hS1.r
 have HB1 := Kp.mk hS1.old
 obtain ⟨d0, d1, d2, d3, d4, d5, d6, d7, d8⟩ := hS1.nine
 clear hS1
 go_wp2_with fail
 refine (gAll_any hGb ⟨k, t, f, h, p, o, s, a, A, n, c'⟩).mono ?_
 rintro e2 u2 ⟨rfl, hG2, hg2⟩
 have hne : w.heap.size + 1 ≠ g := vb_ne hA hGb (by decide)
 replace hA := hA.grown hg2 hne
 have HG2 := Kp.mk (And.intro hG2 (And.intro ((grown_of_below HB1.out (some g)).trans hg2) hne))
 clear hGb HB1 d0 d1 d2 d3 d4 d5 d6 d7 d8 hG2 hg2 hne
 go_wp2_with (refine wpList_store_vb (vs := (ansA ⟨k, t, f, h, p, o, s, a, A, n, c'⟩ sf bo).cells) rfl (.tmp 4) (.tmp 39) rfl rfl rfl hA rfl agg_seg rfl ?_; intro w4 hv4 hg4 hz4; clear hA)
 refine bodyPost_ret (v := .tuple #[(ansA ⟨k, t, f, h, p, o, s, a, A, n, c'⟩ sf bo).v, .bool (helloG ⟨k, t, f, h, p, o, s, a, A, n, c'⟩ sf || offG ⟨k, t, f, h, p, o, s, a, A, n, c'⟩ sf bo), .bool (offG ⟨k, t, f, h, p, o, s, a, A, n, c'⟩ sf bo)]) (results_three Tryz.results112 _ rfl hv4 agg_seg) rfl ?_
 exact ⟨rfl, Vb.grown HG2.out.1 hg4 HG2.out.2.2.symm, grown_newH HG2.out.2.1 hg4 (by omega)⟩
theorem gOlder (h : Gb w g sf bo E) (x : Sv) : Calls Tryz.prog 112 #[.pointer (some ⟨g, 0, none⟩), x.v] w fun en w' => en = .returned (.tuple #[(ansG x sf bo E).v, .bool (isG x sf bo E), .bool (begG x sf bo E)]) ∧ Gb w' g sf bo (epG x sf bo E) ∧ w.grownBy w' (some g) := by
 cases hy : offG x sf bo with
 | false =>
  obtain ⟨e1, e2, e3, e4⟩ := ansA_eq (x := x) (sf := sf) (bo := bo) (E := E) (fun h => by rw [hy] at h; cases h)
  rw [← e1, ← e2, ← e3, ← e4]
  exact gOld_not h x hy
 | true =>
  by_cases h1 : x.p = E
  ·have hh := off_not hy
   have ea : ackG x sf bo E = true := by unfold ackG; rw [hy]; simp; omega
   unfold ansG isG begG epG
   rw [hh, ea, h1]
   exact (gOld_same h x hy h1).mono fun _ _ ⟨h2, h3⟩ => ⟨by simpa using h2, by simpa using h.below h3, grown_of_below h3 _⟩
  ·by_cases h2 : x.p < E
   ·have hh := off_not hy
    have ea : ackG x sf bo E = false := by unfold ackG; rw [hy]; simp; omega
    unfold ansG isG begG epG
    rw [hh, ea]
    exact (gOld_late h x hy h2).mono fun _ _ ⟨h2, h3⟩ => ⟨by simpa using h2, by simpa using h.below h3, grown_of_below h3 _⟩
   ·obtain ⟨e1, e2, e3, e4⟩ := ansA_eq (x := x) (sf := sf) (bo := bo) (E := E) (fun _ => by omega)
    rw [← e1, ← e2, ← e3, ← e4]
    exact gOld_new h x hy (by omega)
theorem gFree (h : Gb w g sf bo 0) (x : Sv) : Calls Tryz.prog 111 #[.pointer (some ⟨g, 0, none⟩), x.v] w fun en w' => en = .returned (.tuple #[(ansG x sf bo 0).v, .bool (isG x sf bo 0), .bool (begG x sf bo 0)]) ∧ Gb w' g sf bo (epG x sf bo 0) ∧ w.grownBy w' (some g) := by
 obtain ⟨e1, e2, e3, e4⟩ := ansA_eq (x := x) (sf := sf) (bo := bo) (E := 0) (fun h => by have := off_pos h; omega)
 rw [← e1, ← e2, ← e3, ← e4]
 exact gAll_any h x
theorem gState (h : Gb w g sf bo E) (hs : sf ≠ 0) : Calls Tryz.prog 113 #[.pointer (some ⟨g, 0, none⟩)] w fun en w' => en = .returned (.int .i64 (if E = 0 then 1 else 2)) ∧ w' = w := by
 have c0 := Vb.cell h 0 rfl
 have c2 := Vb.cell h 2 rfl
 have h1 : (sf == 0) = false := by simpa using hs
 clear h hs
 by_cases hE : E = 0
 ·rw [if_pos hE]
  have h2 : (E == 0) = true := by simpa using hE
  clear hE
  go_enter Tryz.func113, Tryz.ntmps113
  go_wp2_with fail
  go_ret
  exact ⟨rfl, rfl⟩
 ·rw [if_neg hE]
  have h2 : (E == 0) = false := by simpa using hE
  clear hE
  go_enter Tryz.func113, Tryz.ntmps113
  go_wp2_with fail
  go_ret
  exact ⟨rfl, rfl⟩
theorem gEpoch (h : Gb w g sf bo E) : Calls Tryz.prog 114 #[.pointer (some ⟨g, 0, none⟩)] w fun en w' => en = .returned (.int .i64 E) ∧ w' = w := by
 have c2 := Vb.cell h 2 rfl
 clear h
 go_enter Tryz.func114, Tryz.ntmps114
 go_wp2_with fail
 go_ret
 exact ⟨rfl, rfl⟩
end
theorem gnew_yes (w : World) (sf bo : Int) (h1 : swB sf = true) (h2 : lgB bo 0 = true) : Calls Tryz.prog 40 #[.int .i64 sf, .int .i64 bo] w fun en w' => en = .returned (.tuple #[.pointer (some ⟨w.heap.size, 0, none⟩), .int .i64 0]) ∧ Gb w' w.heap.size sf bo 0 ∧ Below w.heap.size w w' := by
 have HN := Kp.mk (And.intro (Vb.new 132 w [.int .i64 sf, .int .i64 bo, .int .i64 0]) (below_alloc w (.cells #[.int .i64 sf, .int .i64 bo, .int .i64 0] 132)))
 have hs := isSwitch_any sf w
 have hl := isLong_any bo 0 w
 rw [h1] at hs
 rw [h2] at hl
 clear h1 h2
 go_enter Tryz.func40, Tryz.ntmps40
 go_wp2_with fail
 refine hs.mono ?_
 rintro e1 w1 ⟨rfl, hw1⟩
 replace hw1 := hw1.symm
 subst hw1
 go_wp2_with fail
 refine hl.mono ?_
 rintro e1 w1 ⟨rfl, hw1⟩
 replace hw1 := hw1.symm
 subst hw1
 go_wp2_with fail
 go_ret2
 exact ⟨rfl, HN.out.1, HN.out.2⟩
section
variable {w w' : World} {g : Nat} {sf bo E : Int}
theorem agg_gtakes : Agg 166 3 := ⟨⟨_, Tryz.underlying166, rfl⟩, by kernel_rfl⟩
theorem gTake_any (h0 : Gb w g sf bo E) (hs : sf ≠ 0) (x : Sv) : Calls Tryz.prog 70 #[.pointer (some ⟨g, 0, none⟩), x.v] w fun en w' => en = .returned (.tuple #[(ansG x sf bo E).v, .bool (isG x sf bo E), .bool (begG x sf bo E)]) ∧ Gb w' g sf bo (epG x sf bo E) ∧ w.grownBy w' (some g) := by
 obtain ⟨k, t, f, h, p, o, s, a, A, n, c'⟩ := x
 have hN := new_seg (w.alloc (.cells #[.int .i64 k, .int .i64 t, .int .i64 f, .int .i64 h, .int .i64 p, .int .i64 o, .int .i64 s, .int .i64 a, .slice A n c'] 54)) sv0
 rw [allocZ] at hN
 have hB := new_seg w ⟨k, t, f, h, p, o, s, a, A, n, c'⟩
 have H1 : Kp (Gb ((w.alloc (.cells #[.int .i64 k, .int .i64 t, .int .i64 f, .int .i64 h, .int .i64 p, .int .i64 o, .int .i64 s, .int .i64 a, .slice A n c'] 54)).alloc (.cells #[.int .i64 0, .int .i64 0, .int .i64 0, .int .i64 0, .int .i64 0, .int .i64 0, .int .i64 0, .int .i64 0, .slice none 0 0] 54)) g sf bo E ∧ Vb 54 ((w.alloc (.cells #[.int .i64 k, .int .i64 t, .int .i64 f, .int .i64 h, .int .i64 p, .int .i64 o, .int .i64 s, .int .i64 a, .slice A n c'] 54)).alloc (.cells #[.int .i64 0, .int .i64 0, .int .i64 0, .int .i64 0, .int .i64 0, .int .i64 0, .int .i64 0, .int .i64 0, .slice none 0 0] 54)) w.heap.size [.int .i64 k, .int .i64 t, .int .i64 f, .int .i64 h, .int .i64 p, .int .i64 o, .int .i64 s, .int .i64 a, .slice A n c'] ∧ Vb 54 ((w.alloc (.cells #[.int .i64 k, .int .i64 t, .int .i64 f, .int .i64 h, .int .i64 p, .int .i64 o, .int .i64 s, .int .i64 a, .slice A n c'] 54)).alloc (.cells #[.int .i64 0, .int .i64 0, .int .i64 0, .int .i64 0, .int .i64 0, .int .i64 0, .int .i64 0, .int .i64 0, .slice none 0 0] 54)) (w.heap.size + 1) sv0.cells ∧ Below w.heap.size w ((w.alloc (.cells #[.int .i64 k, .int .i64 t, .int .i64 f, .int .i64 h, .int .i64 p, .int .i64 o, .int .i64 s, .int .i64 a, .slice A n c'] 54)).alloc (.cells #[.int .i64 0, .int .i64 0, .int .i64 0, .int .i64 0, .int .i64 0, .int .i64 0, .int .i64 0, .int .i64 0, .slice none 0 0] 54))) :=
  Kp.mk ⟨Vb.alloc (Vb.alloc h0 _) _, Vb.alloc hB.1 _, hN.1, hB.2.trans (hN.2.mono (by omega))⟩
 clear h0 hN hB
 simp only [Sv.v]
 by_cases hE : E = 0
 ·subst hE
  have HE := Kp.mk (show (if (0 : Int) = 0 then (1 : Int) else 2) = 1 from rfl)
  go_enter Tryz.func70, Tryz.ntmps70
  go_upto_region 2 with (refine wpList_store_new (vs := [.func (.func 110) #[] #[], .func (.func 111) #[] #[], .func (.func 112) #[] #[]]) rfl (.tmp 7) (.tmp 8) rfl rfl rfl rfl (by simp) rfl agg_gtakes rfl ?_; intro w2 hv hb hz)
  have hG2 : Gb w2 g sf bo 0 := Vb.below H1.out.1 hb (Vb.lt H1.out.1)
  have hP2 : P2 w.heap.size k t f h p o s a A n c' 166 (w.heap.size + 2) [.func (.func 110) #[] #[], .func (.func 111) #[] #[], .func (.func 112) #[] #[]] w2 := ⟨Vb.below H1.out.2.1 hb (Vb.lt H1.out.2.1), by simpa using hv⟩
  have hA2 := Vb.below H1.out.2.2.1 hb (Vb.lt H1.out.2.2.1)
  have HB2 := Kp.mk ((H1.out.2.2.2.trans (hb.mono H1.out.2.2.2.size)).drew)
  have hd := (Below.refl w2.heap.size w2).drew
  have hG0 := hG2.below hd
  have hS0 := hP2.step hd
  have hA0 := hA2.below hd hA2.lt
  clear hv hb hz hG2 hP2 hA2 hd H1
  refine wp_region_held_drew (S := P2 w.heap.size k t f h p o s a A n c' 166 (w.heap.size + 2) [.func (.func 110) #[] #[], .func (.func 111) #[] #[], .func (.func 112) #[] #[]]) (by kernel_rfl) hS0 (fun _ => ?_)
  refine tD 0 (.pointer (some ⟨g, 0, none⟩)) 9 rfl rfl hS0 ?_ ?_
  ·rintro w' hq
   go_simp
  try simp only [Act.put, zA, zB, zC]
  refine tD 4 (.pointer (some ⟨g, 0, none⟩)) 13 rfl rfl hS0 ?_ ?_
  ·rintro w' hq
   go_simp
  try simp only [Act.put, zA, zB, zC]
  refine tD 5 (.agg #[.int .i64 k, .int .i64 t, .int .i64 f, .int .i64 h, .int .i64 p, .int .i64 o, .int .i64 s, .int .i64 a, .slice A n c']) 14 rfl rfl hS0 ?_ ?_
  ·rintro w' hq
   obtain ⟨d0, d1, d2, d3, d4, d5, d6, d7, d8⟩ := hq.nine
   go_simp
  try simp only [Act.put, zA, zB, zC]
  refine rD 1 rfl fun K hK => ?_
  try rw [if_pos (by rfl)]
  go_simp
  refine (gState hG0 hs).mono ?_
  rintro e u1 ⟨rfl, hw1⟩
  replace hw1 := hw1.symm
  subst hw1
  have hb1 := Below.refl w2.drew.heap.size w2.drew
  rw [HE.out]
  have hS1 := P2.step hS0 hb1
  refine hK.out _ _ hS1 (fun _ => ?_)
  clear hK K
  try simp only [Act.put, zA, zB, zC]
  refine tD 2 (.pointer (some ⟨w.heap.size + 2, 1, none⟩)) 11 rfl rfl hS1 ?_ ?_
  ·rintro w' hq
   go_simp
  try simp only [Act.put, zA, zB, zC]
  refine tD 3 (.func (.func 111) #[] #[]) 12 rfl rfl hS1 ?_ ?_
  ·rintro w' hq
   have c0 := hq.r.cell 1 rfl
   go_simp
  try simp only [Act.put, zA, zB, zC]
  refine rD 6 rfl fun K hK => ?_
  try rw [if_pos (by rfl)]
  go_simp
  refine (gFree hG0 ⟨k, t, f, h, p, o, s, a, A, n, c'⟩).mono ?_
  rintro e1 u1 ⟨rfl, hG1, hg1⟩
  have hS2 := hS1.grow hg1 (vb_ne hS1.b hG0 (by decide)) (vb_ne hS1.r hG0 (by decide))
  have hne : w.heap.size + 1 ≠ g := vb_ne hA0 hG0 (by decide)
  have hA1 := hA0.grown hg1 hne
  refine hK.out _ _ hS2 (fun _ => ?_)
  clear hK K
  try simp only [Act.put, zA, zB, zC]
  refine tD 7 (((ansG ⟨k, t, f, h, p, o, s, a, A, n, c'⟩ sf bo 0).v)) 16 rfl rfl hS2 ?_ ?_
  ·rintro w' hq
   go_simp
  try simp only [Act.put, zA, zB, zC]
  refine tD 8 ((.bool (isG ⟨k, t, f, h, p, o, s, a, A, n, c'⟩ sf bo 0))) 17 rfl rfl hS2 ?_ ?_
  ·rintro w' hq
   go_simp
  try simp only [Act.put, zA, zB, zC]
  refine tD 9 ((.bool (begG ⟨k, t, f, h, p, o, s, a, A, n, c'⟩ sf bo 0))) 18 rfl rfl hS2 ?_ ?_
  ·rintro w' hq
   go_simp
  try simp only [Act.put, zA, zB, zC]
  refine rD 10 rfl fun K hK => ?_
  try rw [if_pos (by rfl)]
  refine wp_store_vbH (vs := (ansG ⟨k, t, f, h, p, o, s, a, A, n, c'⟩ sf bo 0).cells) none rfl (.tmp 4) (.tmp 16) rfl rfl rfl hA1 rfl agg_seg rfl ?_
  intro u4 hv4 hg4 hz4
  have hS3 := hS2.grow hg4 (by omega) (by omega)
  refine hK.out _ _ hS3 (fun _ => ?_)
  clear hK K
  try simp only [Act.put, zA, zB, zC]
  refine tD 11 ((.bool (isG ⟨k, t, f, h, p, o, s, a, A, n, c'⟩ sf bo 0))) 5 rfl rfl hS3 ?_ ?_
  ·rintro w' hq
   go_simp
  try simp only [Act.put, zA, zB, zC]
  refine tD 12 ((.bool (begG ⟨k, t, f, h, p, o, s, a, A, n, c'⟩ sf bo 0))) 6 rfl rfl hS3 ?_ ?_
  ·rintro w' hq
   go_simp
  try simp only [Act.put, zA, zB, zC]
  refine wpAnyH_done (by kernel_rfl) ?_ _
  go_wp2_with fail
  refine bodyPost_ret (v := .tuple #[(ansG ⟨k, t, f, h, p, o, s, a, A, n, c'⟩ sf bo 0).v, .bool (isG ⟨k, t, f, h, p, o, s, a, A, n, c'⟩ sf bo 0), .bool (begG ⟨k, t, f, h, p, o, s, a, A, n, c'⟩ sf bo 0)]) (results_three Tryz.results70 _ rfl hv4 agg_seg) rfl ?_
  exact ⟨rfl, Vb.grown hG1 hg4 hne.symm, grown_newH ((grown_of_below HB2.out (some g)).trans hg1) hg4 (by omega)⟩
 ·have HE := Kp.mk (show (if E = 0 then (1 : Int) else 2) = 2 from if_neg hE)
  clear hE
  go_enter Tryz.func70, Tryz.ntmps70
  go_upto_region 2 with (refine wpList_store_new (vs := [.func (.func 110) #[] #[], .func (.func 111) #[] #[], .func (.func 112) #[] #[]]) rfl (.tmp 7) (.tmp 8) rfl rfl rfl rfl (by simp) rfl agg_gtakes rfl ?_; intro w2 hv hb hz)
  have hG2 : Gb w2 g sf bo E := Vb.below H1.out.1 hb (Vb.lt H1.out.1)
  have hP2 : P2 w.heap.size k t f h p o s a A n c' 166 (w.heap.size + 2) [.func (.func 110) #[] #[], .func (.func 111) #[] #[], .func (.func 112) #[] #[]] w2 := ⟨Vb.below H1.out.2.1 hb (Vb.lt H1.out.2.1), by simpa using hv⟩
  have hA2 := Vb.below H1.out.2.2.1 hb (Vb.lt H1.out.2.2.1)
  have HB2 := Kp.mk ((H1.out.2.2.2.trans (hb.mono H1.out.2.2.2.size)).drew)
  have hd := (Below.refl w2.heap.size w2).drew
  have hG0 := hG2.below hd
  have hS0 := hP2.step hd
  have hA0 := hA2.below hd hA2.lt
  clear hv hb hz hG2 hP2 hA2 hd H1
  refine wp_region_held_drew (S := P2 w.heap.size k t f h p o s a A n c' 166 (w.heap.size + 2) [.func (.func 110) #[] #[], .func (.func 111) #[] #[], .func (.func 112) #[] #[]]) (by kernel_rfl) hS0 (fun _ => ?_)
  refine tD 0 (.pointer (some ⟨g, 0, none⟩)) 9 rfl rfl hS0 ?_ ?_
  ·rintro w' hq
   go_simp
  try simp only [Act.put, zA, zB, zC]
  refine tD 4 (.pointer (some ⟨g, 0, none⟩)) 13 rfl rfl hS0 ?_ ?_
  ·rintro w' hq
   go_simp
  try simp only [Act.put, zA, zB, zC]
  refine tD 5 (.agg #[.int .i64 k, .int .i64 t, .int .i64 f, .int .i64 h, .int .i64 p, .int .i64 o, .int .i64 s, .int .i64 a, .slice A n c']) 14 rfl rfl hS0 ?_ ?_
  ·rintro w' hq
   obtain ⟨d0, d1, d2, d3, d4, d5, d6, d7, d8⟩ := hq.nine
   go_simp
  try simp only [Act.put, zA, zB, zC]
  refine rD 1 rfl fun K hK => ?_
  try rw [if_pos (by rfl)]
  go_simp
  refine (gState hG0 hs).mono ?_
  rintro e u1 ⟨rfl, hw1⟩
  replace hw1 := hw1.symm
  subst hw1
  have hb1 := Below.refl w2.drew.heap.size w2.drew
  rw [HE.out]
  have hS1 := P2.step hS0 hb1
  refine hK.out _ _ hS1 (fun _ => ?_)
  clear hK K
  try simp only [Act.put, zA, zB, zC]
  refine tD 2 (.pointer (some ⟨w.heap.size + 2, 2, none⟩)) 11 rfl rfl hS1 ?_ ?_
  ·rintro w' hq
   go_simp
  try simp only [Act.put, zA, zB, zC]
  refine tD 3 (.func (.func 112) #[] #[]) 12 rfl rfl hS1 ?_ ?_
  ·rintro w' hq
   have c0 := hq.r.cell 2 rfl
   go_simp
  try simp only [Act.put, zA, zB, zC]
  refine rD 6 rfl fun K hK => ?_
  try rw [if_pos (by rfl)]
  go_simp
  refine (gOlder hG0 ⟨k, t, f, h, p, o, s, a, A, n, c'⟩).mono ?_
  rintro e1 u1 ⟨rfl, hG1, hg1⟩
  have hS2 := hS1.grow hg1 (vb_ne hS1.b hG0 (by decide)) (vb_ne hS1.r hG0 (by decide))
  have hne : w.heap.size + 1 ≠ g := vb_ne hA0 hG0 (by decide)
  have hA1 := hA0.grown hg1 hne
  refine hK.out _ _ hS2 (fun _ => ?_)
  clear hK K
  try simp only [Act.put, zA, zB, zC]
  refine tD 7 (((ansG ⟨k, t, f, h, p, o, s, a, A, n, c'⟩ sf bo E).v)) 16 rfl rfl hS2 ?_ ?_
  ·rintro w' hq
   go_simp
  try simp only [Act.put, zA, zB, zC]
  refine tD 8 ((.bool (isG ⟨k, t, f, h, p, o, s, a, A, n, c'⟩ sf bo E))) 17 rfl rfl hS2 ?_ ?_
  ·rintro w' hq
   go_simp
  try simp only [Act.put, zA, zB, zC]
  refine tD 9 ((.bool (begG ⟨k, t, f, h, p, o, s, a, A, n, c'⟩ sf bo E))) 18 rfl rfl hS2 ?_ ?_
  ·rintro w' hq
   go_simp
  try simp only [Act.put, zA, zB, zC]
  refine rD 10 rfl fun K hK => ?_
  try rw [if_pos (by rfl)]
  refine wp_store_vbH (vs := (ansG ⟨k, t, f, h, p, o, s, a, A, n, c'⟩ sf bo E).cells) none rfl (.tmp 4) (.tmp 16) rfl rfl rfl hA1 rfl agg_seg rfl ?_
  intro u4 hv4 hg4 hz4
  have hS3 := hS2.grow hg4 (by omega) (by omega)
  refine hK.out _ _ hS3 (fun _ => ?_)
  clear hK K
  try simp only [Act.put, zA, zB, zC]
  refine tD 11 ((.bool (isG ⟨k, t, f, h, p, o, s, a, A, n, c'⟩ sf bo E))) 5 rfl rfl hS3 ?_ ?_
  ·rintro w' hq
   go_simp
  try simp only [Act.put, zA, zB, zC]
  refine tD 12 ((.bool (begG ⟨k, t, f, h, p, o, s, a, A, n, c'⟩ sf bo E))) 6 rfl rfl hS3 ?_ ?_
  ·rintro w' hq
   go_simp
  try simp only [Act.put, zA, zB, zC]
  refine wpAnyH_done (by kernel_rfl) ?_ _
  go_wp2_with fail
  refine bodyPost_ret (v := .tuple #[(ansG ⟨k, t, f, h, p, o, s, a, A, n, c'⟩ sf bo E).v, .bool (isG ⟨k, t, f, h, p, o, s, a, A, n, c'⟩ sf bo E), .bool (begG ⟨k, t, f, h, p, o, s, a, A, n, c'⟩ sf bo E)]) (results_three Tryz.results70 _ rfl hv4 agg_seg) rfl ?_
  exact ⟨rfl, Vb.grown hG1 hg4 hne.symm, grown_newH ((grown_of_below HB2.out (some g)).trans hg1) hg4 (by omega)⟩
end
end Go.Proofs.YtnoflfbcgbhipaaGreat.Oct
