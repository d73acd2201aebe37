import Derived.Test.YtnoflfbcgbhipaaGreatSndC
import Derived.Deep.CutRange
import Derived.LoopN
import Derived.Shelf.RegionOpenPlain
import Derived.BigQuiet
import Derived.Deep.QuietTactic
set_option linter.unusedSimpArgs false
set_option linter.unusedVariables false
set_option maxRecDepth 100000
set_option maxHeartbeats 4000000
namespace Go.Proofs.YtnoflfbcgbhipaaGreat.Oct
open Go.RowKit
theorem run_eql_win (a : Option Nat) (w : World) : (binOp .eql 189 (.chan a) (.chan none)).run Tryz.prog w = .ok (.bool a.isNone) w := by
 have h : ∀ d : Nat, (Op.equalIn (d + 1) 189 (.chan a) (.chan none)).run Tryz.prog w = .ok a.isNone w := fun d => by
  cases a <;> simp [Op.equalIn, run_underlying Tryz.underlying189]
 simp only [binOp]
 simp [Op.equal, Op.maxDepth, h 9999]
theorem run_len_win {w : World} {c wd k : Nat} (h : Wn w c wd k) (ty : TypeId) : (Builtin.len_ #[189] ty #[.chan (some c)]).run Tryz.prog w = .ok (.int .i64 k) w := by
 obtain ⟨s, r, h2⟩ := h
 simp [Builtin.len_, run_underlying Tryz.underlying189, run_getObj_chan _ _ h2, goInt]
theorem info_st0 : (Tryz.prog.info? 236).map (fun i => (i.zero, i.size, i.bytes)) = some (some (.agg #[]), 0, 0) := by kernel_rfl
theorem run_mkwin (n : Nat) (h : n ≤ 64) (w : World) : (Instr.makeChan 189 (.int .i64 n)).run Tryz.prog w = .ok (.chan (some w.heap.size)) (w.alloc (.chan n #[] false 0 0 false)) := by
 obtain ⟨i0, hi, hz0, hz1, hz2⟩ := info_parts info_st0
 exact Go.Conc.run_makeChan (P := Tryz.prog) (w := w) Tryz.underlying189 hi .i64 n (by omega) (by rw [hz2]; omega)
theorem sNumber_any (n : Int) (w : World) : Calls Tryz.prog 141 #[.int .i64 n] w fun e w' => e = .returned (.bool (decide (0 ≤ n ∧ n ≤ 65535))) ∧ w' = w := by
 by_cases h0 : 0 ≤ n
 ·by_cases h1 : n ≤ 65535
  ·rw [decide_eq_true ⟨h0, h1⟩]
   go_enter Tryz.func141, Tryz.ntmps141
   go_wp2_with fail
   go_ret
   exact ⟨by simp [h1], rfl⟩
  ·rw [decide_eq_false (fun e => h1 e.2)]
   go_enter Tryz.func141, Tryz.ntmps141
   go_wp2_with fail
   go_ret
   exact ⟨by simp [h1], rfl⟩
 ·rw [decide_eq_false (fun e => h0 e.1)]
  go_enter Tryz.func141, Tryz.ntmps141
  go_wp2_with fail
  go_ret
  exact ⟨rfl, rfl⟩
section
variable {P : Nat → Prop} {w w' : World} {s c wd said all : Nat} {nx : Int} {r : Option Nat} {ms : List (List Int)}
theorem sp_new (P : Nat → Prop) (w : World) (wd : Nat) (nx : Int) (h : 1 ≤ wd ∧ wd ≤ 4) (hx : 0 ≤ nx ∧ nx ≤ 65535) : Sp P ((w.alloc (.chan wd #[] false 0 0 false)).alloc (.cells #[.int .u16 nx, .int .i64 0, .slice none 0 0, .chan (some w.heap.size)] 191)) (w.heap.size + 1) w.heap.size wd nx 0 0 none [] := by
 have hb := below_alloc (w.alloc (.chan wd #[] false 0 0 false)) (.cells #[.int .u16 nx, .int .i64 0, .slice none 0 0, .chan (some w.heap.size)] 191)
 refine ⟨⟨none, 0, [], ?_, Qf.nil0 _, rfl, rfl, Fall.none _ _⟩, ⟨0, 0, (hb.block w.heap.size (by simp)).trans (heap_alloc_new w _)⟩, hx, by simp; omega⟩
 have := Vb.new 191 (w.alloc (.chan wd #[] false 0 0 false)) [.int .u16 nx, .int .i64 0, .slice none 0 0, .chan (some w.heap.size)]
 simpa using this
theorem snew_yes (P : Nat → Prop) (w : World) (wd nx : Int) (h : 1 ≤ wd ∧ wd ≤ 4) (hx : 0 ≤ nx ∧ nx ≤ 65535) : Calls Tryz.prog 94 #[.int .i64 wd, .int .i64 nx] w fun e w' => ∃ s c, e = .returned (.tuple #[.pointer (some ⟨s, 0, none⟩), .int .i64 0]) ∧ Sp P w' s c wd.toNat nx 0 0 none [] ∧ w.heap.size ≤ s ∧ w.heap.size ≤ c ∧ Below w.heap.size w w' := by
 obtain ⟨m, rfl⟩ : ∃ m : Nat, wd = m := ⟨wd.toNat, by omega⟩
 have hm := run_mkwin m (by omega) w
 have hL := Kp.mk (sp_new P w m nx (by omega) hx)
 have hB := Kp.mk (below_two w (.chan m #[] false 0 0 false) (.cells #[.int .u16 nx, .int .i64 0, .slice none 0 0, .chan (some w.heap.size)] 191))
 have h1 : ¬ (m : Int) < 1 := by omega
 have h2 : ¬ (4 : Int) < m := by omega
 have hn := sNumber_any nx w
 rw [decide_eq_true hx] at hn
 have hw : IntKind.u16.wrap nx = nx := by rw [IntKind.wrap_u16]; omega
 have hpl : Calls Tryz.prog 142 #[.int .i64 m] w fun e w' => e = .returned (.chan (some w.heap.size)) ∧ w' = w.alloc (.chan m #[] false 0 0 false) := by
  go_enter Tryz.func142, Tryz.ntmps142
  go_wp2_with fail
  go_ret
  exact ⟨rfl, rfl⟩
 clear h hx hm
 go_enter Tryz.func94, Tryz.ntmps94
 go_wp2_with (first | (refine hn.mono ?_; rintro e w1 ⟨rfl, rfl⟩) | (refine hpl.mono ?_; rintro e w1 ⟨rfl, rfl⟩))
 go_ret2
 exact ⟨_, _, rfl, by simpa using hL.out, by omega, Nat.le_refl _, hB.out⟩
def NS (w : World) (a : Option Addr) : Prop := a = none ∨ ∃ t, a = some ⟨t, 0, none⟩ ∧ Vb 191 w t [.int .u16 0, .int .i64 0, .slice none 0 0, .chan none]
theorem NS.below {a : Option Addr} (h : NS w a) (hb : Below w.heap.size w w') : NS w' a := h.imp id (fun ⟨t, e, hv⟩ => ⟨t, e, hv.below hb hv.lt⟩)
theorem NS.no {a : Option Addr} (h : NS w a) : Calls Tryz.prog 140 #[.pointer a] w fun e w' => e = .returned (.bool true) ∧ w' = w := by
 rcases h with rfl | ⟨t, rfl, hv⟩
 ·go_enter Tryz.func140, Tryz.ntmps140
  go_wp2_with fail
  go_ret
  exact ⟨rfl, rfl⟩
 ·have c0 := hv.cell 3 rfl
  have hq : (binOp .eql 189 (.chan none) (.chan none)).run Tryz.prog w = .ok (.bool true) w := run_eql_win none w
  go_enter Tryz.func140, Tryz.ntmps140
  go_wp2_with fail
  go_ret
  exact ⟨rfl, rfl⟩
theorem NS.put {a : Option Addr} (h : NS w a) (b : Value) : Calls Tryz.prog 109 #[.pointer a, b] w fun e w' => e = .returned (.int .i64 1) ∧ w' = w := by
 have hn := h.no
 go_enter Tryz.func109, Tryz.ntmps109
 go_wp2_with (first | (refine hn.mono ?_; rintro e w1 ⟨rfl, rfl⟩))
 go_ret
 exact ⟨rfl, rfl⟩
theorem sNone_no (h : Sp P w s c wd nx said all r ms) : Calls Tryz.prog 140 #[.pointer (some ⟨s, 0, none⟩)] w fun e w' => e = .returned (.bool false) ∧ w' = w := by
 obtain ⟨A, m, fs, h1, h2, h3, h4, h5⟩ := h.ex
 have c0 := h1.cell 3 rfl
 have hq : (binOp .eql 189 (.chan (some c)) (.chan none)).run Tryz.prog w = .ok (.bool false) w := run_eql_win (some c) w
 clear h h1 h2 h3 h4 h5
 go_enter Tryz.func140, Tryz.ntmps140
 go_wp2_with fail
 go_ret
 exact ⟨rfl, rfl⟩
theorem staken_any {k : Nat} (h : Wn w c wd k) : Calls Tryz.prog 183 #[.chan (some c)] w fun e w' => e = .returned (.int .i64 k) ∧ w' = w := by
 have hl := run_len_win h
 clear h
 go_enter Tryz.func183, Tryz.ntmps183
 go_wp2_with fail
 go_ret
 exact ⟨rfl, rfl⟩
theorem sleft_any (h : Sp P w s c wd nx said all r ms) : Calls Tryz.prog 93 #[.pointer (some ⟨s, 0, none⟩)] w fun e w' => e = .returned (.int .i64 ms.length) ∧ w' = w := by
 have HN := sNone_no h
 obtain ⟨A, m, fs, h1, h2, h3, h4, h5⟩ := h.ex
 have c0 := h1.cell 2 rfl
 clear h h1 h2 h3 h4 h5
 generalize ms.length = n at *
 go_enter Tryz.func93, Tryz.ntmps93
 go_wp2_with (first | (refine HN.mono ?_; rintro e w1 ⟨rfl, rfl⟩))
 go_ret
 exact ⟨rfl, rfl⟩
theorem ssaid_any (h : Sp P w s c wd nx said all r ms) : Calls Tryz.prog 149 #[.pointer (some ⟨s, 0, none⟩)] w fun e w' => e = .returned (.int .i64 said) ∧ w' = w := by
 have HN := sNone_no h
 have HT := staken_any h.ch
 obtain ⟨A, m, fs, h1, h2, h3, h4, h5⟩ := h.ex
 have c0 := h1.cell 3 rfl
 clear h h1 h2 h3 h4 h5
 go_enter Tryz.func149, Tryz.ntmps149
 go_wp2_with (first | (refine HN.mono ?_; rintro e w1 ⟨rfl, rfl⟩) | (refine HT.mono ?_; rintro e w1 ⟨rfl, rfl⟩))
 go_ret
 exact ⟨rfl, rfl⟩
end
section
variable {w w' : World} {n c : Nat} {A : Option Addr} {fs : List FrV}
theorem sdelete_any (h : Qf w A n c fs) (k : Nat) (hk : k ≤ n) : Calls Tryz.prog 204 #[.slice A n c, .int .i64 0, .int .i64 k] w fun e w' => e = .returned (.slice A (n - k) c) ∧ Qf w' A (n - k) c (fs.drop k) ∧ Ch (fun x => (Value.slice A n c).ownBlock = some x) w w' := by
 have hle := h.le
 have hmx := h.max
 have mixed : Tryz.prog.follows .mixedOrders = true := by kernel_rfl
 by_cases h0 : k = 0
 ·subst h0
  have H0 := Kp.mk h
  have b1 : (0 : Int) ≤ (n : Int) := by omega
  have b2 : (n : Int) ≤ (c : Int) := by omega
  have b3 : (0 : Int) ≤ (c : Int) := by omega
  clear h hk
  go_enter Tryz.func204, Tryz.ntmps204
  go_wp2_with fail
  go_ret
  exact ⟨rfl, by simpa using H0.out, Ch.refl _ _⟩
 ·rcases A with _ | ⟨g, off, sp⟩
  ·have := h.nil rfl; omega
  obtain ⟨g', off', cs, e, -⟩ := h.ex _ rfl
  injection e with e1 e2 e3
  subst e1 e2 e3
  have hd : Qf w.drew (some ⟨g, off, none⟩) n c fs := h.below (below_drewN (Below.refl _ _) 1)
  have b1 : (0 : Int) ≤ (n : Int) := by omega
  have b2 : (n : Int) ≤ (c : Int) := by omega
  have b3 : (k : Int) ≤ (n : Int) := by omega
  have b4 : (k : Int) ≤ (c : Int) := by omega
  have b5 : (0 : Int) ≤ (k : Int) := by omega
  have b6 : ¬ ((0 : Int) = (k : Int)) := by omega
  have b7 : (n : Int) - k = ((n - k : Nat) : Int) := by omega
  have b8 : (n - k : Nat) ≤ (c : Nat) := by omega
  have b9 : n - (n - k) = k := by omega
  have b10 : ¬ (c = n - k) := by omega
  have b11 : ((n - k : Nat) : Int) ≤ (n : Int) := by omega
  by_cases hck : c = k
  ·obtain rfl : n = k := by omega
   subst hck
   obtain ⟨w1, w2, hrun1, hrun2, hQ, hC⟩ := hd.dels _ (by omega) (Nat.le_refl _) 0 off (fun h => absurd h (by omega)) 145 0
   have HQ := Kp.mk hQ
   have HC := Kp.mk ((Ch.of_below (S := fun x => (Value.slice (some ⟨g, off, none⟩) 0 0).ownBlock = some x) (below_drewN (Below.refl w.heap.size w) 1)).trans hC (fun x _ e => by rw [e]; rfl))
   simp only [Nat.sub_self, Nat.add_zero, Nat.sub_zero] at *
   clear h hd hQ hC hk
   go_enter Tryz.func204, Tryz.ntmps204
   go_wp2_with fail
   go_region_law_o (refine step_append_F rfl _ _ 145 145 rfl _ _ (by simp [Act.eval, Act.put]) (by simp [Act.eval, Act.put]) hrun1 ?_)
   go_wp2_with (at_builtin; refine wpList_clear_F _ rfl _ _ rfl _ rfl hrun2 ?_)
   go_ret
   exact ⟨rfl, HQ.out, HC.out⟩
  ·obtain ⟨w1, w2, hrun1, hrun2, hQ, hC⟩ := hd.dels k (by omega) hk (c - k) (off + k) (fun h => ⟨rfl, rfl⟩) 145 0
   have HQ := Kp.mk hQ
   have HC := Kp.mk ((Ch.of_below (S := fun x => (Value.slice (some ⟨g, off, none⟩) n c).ownBlock = some x) (below_drewN (Below.refl w.heap.size w) 1)).trans hC (fun x _ e => by rw [e]; rfl))
   clear h hd hQ hC hk
   go_enter Tryz.func204, Tryz.ntmps204
   go_wp2_with fail
   go_region_law_o (refine step_append_F rfl _ _ 145 145 rfl _ _ (by simp [Act.eval, Act.put]) (by simp [Act.eval, Act.put]) hrun1 ?_)
   go_wp2_with (at_builtin; refine wpList_clear_F _ rfl _ _ rfl _ rfl hrun2 ?_)
   go_ret
   exact ⟨rfl, HQ.out, HC.out⟩
end
section
variable {P : Nat → Prop} {w w' : World} {s c wd said all : Nat} {nx : Int} {r : Option Nat} {ms : List (List Int)}
def ackP (nx : Int) (said : Nat) (ack : Int) : Int := if 0 ≤ ack ∧ ack ≤ 65535 then Ser.atP nx (said + 1) ack else -1
theorem ackP_bd (nx : Int) (said : Nat) (ack : Int) : -1 ≤ ackP nx said ack ∧ ackP nx said ack ≤ said := by
 unfold ackP Ser.atP
 split
 ·split <;> omega
 ·omega
theorem sahead_any (h : Sp P w s c wd nx said all r ms) (ack : Int) : Calls Tryz.prog 203 #[.pointer (some ⟨s, 0, none⟩), .int .i64 ack] w fun e w' => e = .returned (.int .i64 (ackP nx said ack)) ∧ Below w.heap.size w w' := by
 have hn := sNumber_any ack w
 by_cases hx : 0 ≤ ack ∧ ack ≤ 65535
 ·rw [decide_eq_true hx] at hn
  rw [show ackP nx said ack = Ser.atP nx (said + 1) ack from if_pos hx]
  have hw1 : IntKind.u16.wrap ack = ack := by rw [IntKind.wrap_u16]; omega
  have hw2 : IntKind.i64.wrap ((said : Int) + 1) = (said : Int) + 1 := by have := h.fit; rw [IntKind.wrap_i64]; omega
  have H := Kp.mk h
  have HX := Kp.mk hx
  clear h hx
  go_enter Tryz.func203, Tryz.ntmps203
  go_upto_region 3 with (first | (refine hn.mono ?_; rintro e w1 ⟨rfl, rfl⟩))
  refine wp_region_held_drew (S := fun X => Below w1.heap.size w1 X) (by kernel_rfl) ((Below.refl _ _).drew) (fun hS0 => ?_)
  generalize w1.drew = u at *
  refine tD 0 (.pointer (some ⟨s, 0, none⟩)) 9 rfl rfl hS0 ?_ ?_
  ·rintro w' hq
   go_simp
  try simp only [Act.put, zA, zB, zC]
  refine tD 1 (.pointer (some ⟨s, 0, none⟩)) 10 rfl rfl hS0 ?_ ?_
  ·rintro w' hq
   go_simp
  try simp only [Act.put, zA, zB, zC]
  refine tD 2 (.pointer (some ⟨s, 0, none⟩)) 11 rfl rfl hS0 ?_ ?_
  ·rintro w' hq
   go_simp
  try simp only [Act.put, zA, zB, zC]
  refine tD 3 (.int .u16 nx) 12 rfl rfl hS0 ?_ ?_
  ·rintro w' hq
   obtain ⟨A, m, fs, h1, -, -, -, -⟩ := (H.out.below hq).ex
   have c0 := h1.cell 0 rfl
   clear h1
   go_simp
  try simp only [Act.put, zA, zB, zC]
  refine tD 4 (.pointer (some ⟨s, 0, none⟩)) 13 rfl rfl hS0 ?_ ?_
  ·rintro w' hq
   go_simp
  try simp only [Act.put, zA, zB, zC]
  refine wpAnyH_ready (rs := [5, 8]) (by kernel_rfl) (by simp) ?_
  refine AllReadyH.cons rfl (fun K hK => ?_) (AllReadyH.cons rfl (fun K hK => ?_) AllReadyH.nil)
  ·skip
   try rw [if_pos (by rfl)]
   go_simp
   refine (ssaid_any (H.out.below hS0)).mono ?_
   rintro e u1 ⟨rfl, hu⟩
   subst hu
   refine hK.out _ _ hS0 (fun _ => ?_)
   clear hK K
   try simp only [Act.put, zA, zB, zC]
   refine tD 6 (.int .i64 ((said : Int) + 1)) 15 rfl rfl hS0 ?_ ?_
   ·rintro w' hq
    go_simp
   try simp only [Act.put, zA, zB, zC]
   refine tD 7 (.agg #[.int .u16 nx, .int .i64 ((said : Int) + 1)]) 16 rfl rfl hS0 ?_ ?_
   ·rintro w' hq
    go_simp
   try simp only [Act.put, zA, zB, zC]
   refine rD 8 rfl fun K hK => ?_
   try rw [if_pos (by rfl)]
   have hS1 : Below w1.heap.size w1 (u1.alloc (.cells #[.int .u16 0, .int .i64 0] 253)) := hS0.trans ((below_alloc u1 _).mono hS0.size)
   have hV := Vb.new 253 u1 [.int .u16 0, .int .i64 0]
   have hg := Kp.mk (show w1.heap.size ≤ u1.heap.size from hS0.size)
   go_simp
   refine hK.out _ _ hS1 (fun _ => ?_)
   clear hK K
   try simp only [Act.put, zA, zB, zC]
   generalize u1.alloc (.cells #[.int .u16 0, .int .i64 0] 253) = u8 at *
   change Vb _ u8 _ _ at hV
   generalize u1.heap.size = g at *
   refine rD 9 rfl fun K hK => ?_
   try rw [if_pos (by rfl)]
   have hf := hV.free 0
   have hf1 := hV.free 1
   have d0 := hV.cell 0 rfl
   have d1 := hV.cell 1 rfl
   have hV2 := Kp.mk ((hV.set 0 (.int .u16 nx)).set 1 (.int .i64 ((said : Int) + 1)))
   have hB2 := Kp.mk (below_grown (below_grown hS1 (grownBy_set u8 g 0 (.int .u16 nx)) hS1.size hg.out) (grownBy_set _ g 1 (.int .i64 ((said : Int) + 1))) (by simpa [World.setCell] using hS1.size) hg.out)
   clear hV
   go_simp
   refine hK.out _ _ hB2.out (fun _ => ?_)
   clear hK K
   try simp only [Act.put, zA, zB, zC]
   refine wpAnyH_done (by kernel_rfl) ?_ _
   have hV3 := hV2.out
   have hb3 := hB2.out
   clear hV2 hB2 hf hf1 d0 d1
   generalize (u8.setCell _ _).setCell _ _ = u9 at *
   have e0 := hV3.cell 0 rfl
   have e1 := hV3.cell 1 rfl
   have HB := Kp.mk hb3
   clear hb3 hS0
   go_wp2_with fail
   go_at_call 235
   refine (Ser.at_any _ _ _ _ H.out.nxb.1 (by have := H.out.nxb; omega) HX.out.1 (by have := HX.out; omega)).mono ?_
   rintro e w9 ⟨rfl, hb⟩
   have HB2 := Kp.mk (HB.out.trans (hb.mono HB.out.size))
   clear hb
   go_wp2_with fail
   go_ret
   exact ⟨rfl, HB2.out⟩
  ·skip
   try rw [if_pos (by rfl)]
   have hS1 : Below w1.heap.size w1 (u.alloc (.cells #[.int .u16 0, .int .i64 0] 253)) := hS0.trans ((below_alloc u _).mono hS0.size)
   have hV := Vb.new 253 u [.int .u16 0, .int .i64 0]
   have hg := Kp.mk (show w1.heap.size ≤ u.heap.size from hS0.size)
   go_simp
   refine hK.out _ _ hS1 (fun _ => ?_)
   clear hK K
   try simp only [Act.put, zA, zB, zC]
   generalize u.alloc (.cells #[.int .u16 0, .int .i64 0] 253) = u8 at *
   change Vb _ u8 _ _ at hV
   generalize u.heap.size = g at *
   refine rD 5 rfl fun K hK => ?_
   try rw [if_pos (by rfl)]
   go_simp
   refine (ssaid_any (H.out.below hS1)).mono ?_
   rintro e u2 ⟨rfl, hu⟩
   subst hu
   refine hK.out _ _ hS1 (fun _ => ?_)
   clear hK K
   try simp only [Act.put, zA, zB, zC]
   refine tD 6 (.int .i64 ((said : Int) + 1)) 15 rfl rfl hS1 ?_ ?_
   ·rintro w' hq
    go_simp
   try simp only [Act.put, zA, zB, zC]
   refine tD 7 (.agg #[.int .u16 nx, .int .i64 ((said : Int) + 1)]) 16 rfl rfl hS1 ?_ ?_
   ·rintro w' hq
    go_simp
   try simp only [Act.put, zA, zB, zC]
   refine rD 9 rfl fun K hK => ?_
   try rw [if_pos (by rfl)]
   have hf := hV.free 0
   have hf1 := hV.free 1
   have d0 := hV.cell 0 rfl
   have d1 := hV.cell 1 rfl
   have hV2 := Kp.mk ((hV.set 0 (.int .u16 nx)).set 1 (.int .i64 ((said : Int) + 1)))
   have hB2 := Kp.mk (below_grown (below_grown hS1 (grownBy_set u2 g 0 (.int .u16 nx)) hS1.size hg.out) (grownBy_set _ g 1 (.int .i64 ((said : Int) + 1))) (by simpa [World.setCell] using hS1.size) hg.out)
   clear hV
   go_simp
   refine hK.out _ _ hB2.out (fun _ => ?_)
   clear hK K
   try simp only [Act.put, zA, zB, zC]
   refine wpAnyH_done (by kernel_rfl) ?_ _
   have hV3 := hV2.out
   have hb3 := hB2.out
   clear hV2 hB2 hf hf1 d0 d1
   generalize (u2.setCell _ _).setCell _ _ = u9 at *
   have e0 := hV3.cell 0 rfl
   have e1 := hV3.cell 1 rfl
   have HB := Kp.mk hb3
   clear hb3 hS0
   go_wp2_with fail
   go_at_call 235
   refine (Ser.at_any _ _ _ _ H.out.nxb.1 (by have := H.out.nxb; omega) HX.out.1 (by have := HX.out; omega)).mono ?_
   rintro e w9 ⟨rfl, hb⟩
   have HB2 := Kp.mk (HB.out.trans (hb.mono HB.out.size))
   clear hb
   go_wp2_with fail
   go_ret
   exact ⟨rfl, HB2.out⟩
 ·rw [decide_eq_false hx] at hn
  rw [show ackP nx said ack = -1 from if_neg hx]
  clear h hx
  go_enter Tryz.func203, Tryz.ntmps203
  go_wp2_with (first | (refine hn.mono ?_; rintro e w1 ⟨rfl, rfl⟩))
  go_ret
  exact ⟨rfl, Below.refl _ _⟩
theorem free_any {j k : Nat} (h : Wn w c wd (j + k)) (hj : j ≤ 4) : Calls Tryz.prog 205 #[.chan (some c), .int .i64 j] w fun e w' => e = .returned (.tuple #[]) ∧ Wn w' c wd k ∧ Ch (fun x => x = c) w w' := by
 match j, hj, h with
 | 0, _, h => exact free_0 (by rw [Nat.zero_add] at h; exact h)
 | 1, _, h => exact free_1 h
 | 2, _, h => exact free_2 h
 | 3, _, h => exact free_3 h
 | 4, _, h => exact free_4 h
theorem own_eq (A : Option Addr) (n m n' m' : Nat) : (Value.slice A n m).ownBlock = (Value.slice A n' m').ownBlock := by cases A <;> rfl
theorem sheard_no (h : Sp P w s c wd nx said all r ms) {ack : Int} (hk : ackP nx said ack = -1) : Calls Tryz.prog 163 #[.pointer (some ⟨s, 0, none⟩), .int .i64 ack] w fun e w' => e = .returned (.tuple #[.int .i64 0, .int .i64 9]) ∧ Below w.heap.size w w' := by
 have HN := sNone_no h
 have HA := sahead_any h ack
 rw [hk] at HA
 clear h hk
 go_enter Tryz.func163, Tryz.ntmps163
 go_wp2_with (first | (refine HN.mono ?_; rintro e w1 ⟨rfl, rfl⟩))
 refine HA.mono ?_
 rintro e w2 ⟨rfl, hb⟩
 have HB := Kp.mk hb
 clear hb
 go_wp2_with fail
 go_ret2
 exact ⟨rfl, HB.out⟩
theorem sheard_yes (h : Sp P w s c wd nx said all r ms) {ack : Int} {k : Nat} (hk : ackP nx said ack = k) : Calls Tryz.prog 163 #[.pointer (some ⟨s, 0, none⟩), .int .i64 ack] w fun e w' => e = .returned (.tuple #[.int .i64 k, .int .i64 0]) ∧ Sp P w' s c wd ack (said - k) all r (ms.drop k) ∧ Ch (Kb s c r) w w' := by
 have HN := sNone_no h
 have HA := sahead_any h ack
 have hbd := ackP_bd nx said ack
 have hack : 0 ≤ ack ∧ ack ≤ 65535 := by
  unfold ackP at hk
  split at hk
  ·assumption
  ·omega
 rw [hk] at HA hbd
 have hw : IntKind.u16.wrap ack = ack := by rw [IntKind.wrap_u16]; omega
 have hfit := h.fit
 have hks : k ≤ said := by omega
 have H := Kp.mk h
 have HK := Kp.mk (show k ≤ said ∧ said ≤ wd ∧ wd ≤ 4 ∧ said ≤ ms.length ∧ (0 ≤ ack ∧ ack ≤ 65535) from ⟨hks, hfit.1, hfit.2.2.1, hfit.2.2.2.1, hack⟩)
 have hk0 : ¬ ((k : Int) < 0) := by omega
 clear h hk hbd hack hfit hks
 go_enter Tryz.func163, Tryz.ntmps163
 go_wp2_with (first | (refine HN.mono ?_; rintro e w1 ⟨rfl, rfl⟩))
 refine HA.mono ?_
 rintro e w2 ⟨rfl, hb⟩
 have h2 := H.out.below hb
 obtain ⟨A, m, fs, g1, g2, g3, g4, g5⟩ := h2.ex
 have hap := h2.apart
 have hlt := h2.lt
 have hWn := h2.ch
 have hNX := h2.fit
 have hBy := h2.bytes
 have hC0 := Ch.of_below (S := Kb s c r) hb
 clear hb HN HA
 have c2 := g1.cell 2 rfl
 have hD := sdelete_any g2 k (by have := HK.out; omega)
 have HR := Kp.mk g3
 have hL := ms.length
 have hC1 := Kp.mk (hC0)
 have HF := Kp.mk (And.intro g4 g5)
 have HX := Kp.mk (And.intro hap hNX)
 have HBY := Kp.mk hBy
 have HWN := Kp.mk hWn
 have G1 := Kp.mk g1
 have HLT := Kp.mk (hlt c (.inr (.inl rfl)))
 clear g3 g4 g5 hap hNX hBy hWn hC0 hlt hL g1 g2 h2
 obtain ⟨n, hn⟩ : ∃ n, n = ms.length := ⟨_, rfl⟩
 rw [← hn] at c2 hD G1 HR
 have HLN := Kp.mk hn
 clear hn
 have HR2 := Kp.mk (show (Value.slice A (n - k) m).ownBlock = r from (own_eq A _ _ _ _).trans HR.out)
 go_upto_region 6 with fail
 go_wp2_with fail
 refine hD.mono ?_
 rintro e w3 ⟨rfl, hQ3, hC3⟩
 have v3 : Vb 191 w3 s [.int .u16 nx, .int .i64 all, .slice A n m, .chan (some c)] := (hC3.block s G1.out.lt (fun e => HX.out.1.2.1 (HR.out.symm.trans e))).trans G1.out
 have hW3 : Wn w3 c wd said := HWN.out.stay hC3 (fun e => HX.out.1.2.2 (HR.out.symm.trans e))
 have g5 := HF.out.2.other hC3 (fun b cs m e => HBY.out b cs m (.inr (.inr (HR.out.symm.trans e))))
 have hC3 := Kp.mk (hC1.out.trans hC3 (fun x _ e => Or.inr (.inr (HR.out.symm.trans e))))
 have hB3 := Kp.mk (show ∀ cs m, w3.heap[s]? ≠ some (.cells cs 5 m) from fun cs m e => by
  rw [show w3.heap[s]? = _ from v3] at e
  have e := Option.some.inj e
  injection e with _ e _
  exact absurd e (by decide))
 clear hC1 c2 hD
 have hf := v3.free 2
 have d3 := v3.cell 3 rfl
 have d2 := v3.cell 2 rfl
 have hc4 : Ch (fun x => x = s) w3 (w3.setCell ⟨s, 2, none⟩ (.slice A (n - k) m)) := .of_grown (grownBy_set w3 s 2 _)
 have v4 := Kp.mk (v3.set 2 (.slice A (n - k) m))
 have hQ4 := Kp.mk (hQ3.stay hc4 (fun x e h => HX.out.1.2.1 (HR2.out.symm.trans (by rw [← h]; exact e))))
 have hW4 := Kp.mk (hW3.stay hc4 (fun h => HX.out.1.1 h.symm))
 have g5 := Kp.mk (g5.other hc4 (fun b cs m e => by rw [e]; exact hB3.out cs m))
 have hC4 := Kp.mk (hC3.out.trans hc4 (fun x _ e => Or.inl e))
 clear hC3 hc4 hQ3 hW3 hB3 v3
 go_wp2_with fail
 generalize w3.setCell _ _ = w4 at *
 have hFr := free_any (j := k) (k := said - k) (by have := HK.out; rw [show k + (said - k) = said by omega]; exact hW4.out) (by have := HK.out; omega)
 clear d2 d3 hf
 refine hFr.mono ?_
 rintro e w5 ⟨rfl, hW5, hC5⟩
 have v5 : Vb 191 w5 s [.int .u16 nx, .int .i64 all, .slice A (n - k) m, .chan (some c)] := (hC5.block s v4.out.lt HX.out.1.1).trans v4.out
 have hQ5 := hQ4.out.stay hC5 (fun x e h => HX.out.1.2.2 (HR2.out.symm.trans (by rw [← h]; exact e)))
 have g5 := g5.out.other hC5 (fun b cs m e => by rw [e]; exact hW4.out.nocell cs _ m)
 have hC5 := Kp.mk (hC4.out.trans hC5 (fun x _ e => Or.inr (.inl e)))
 have hB5 := Kp.mk (show ∀ cs m, w5.heap[s]? ≠ some (.cells cs 5 m) from fun cs m e => by
  rw [show w5.heap[s]? = _ from v5] at e
  have e := Option.some.inj e
  injection e with _ e _
  exact absurd e (by decide))
 clear hC4 hFr hW4 hQ4 v4
 have hf := v5.free 0
 have d0 := v5.cell 0 rfl
 have hc6 : Ch (fun x => x = s) w5 (w5.setCell ⟨s, 0, none⟩ (.int .u16 ack)) := .of_grown (grownBy_set w5 s 0 _)
 have v6 := Kp.mk (v5.set 0 (.int .u16 ack))
 have hQ6 := Kp.mk (hQ5.stay hc6 (fun x e h => HX.out.1.2.1 (HR2.out.symm.trans (by rw [← h]; exact e))))
 have hW6 := Kp.mk (hW5.stay hc6 (fun h => HX.out.1.1 h.symm))
 have g6 := Kp.mk (g5.other hc6 (fun b cs m e => by rw [e]; exact hB5.out cs m))
 have hC6 := Kp.mk (hC5.out.trans hc6 (fun x _ e => Or.inl e))
 clear hC5 hc6 hQ5 hW5 hB5 v5 g5
 go_wp2_with fail
 go_ret2
 have hlen : (ms.drop k).length = n - k := by rw [List.length_drop, HLN.out]
 refine ⟨rfl, ⟨⟨A, m, fs.drop k, ?_, ?_, ?_, ?_, ?_⟩, hW6.out, HK.out.2.2.2.2, ?_⟩, hC6.out⟩
 ·rw [hlen]; exact v6.out
 ·rw [hlen]; exact hQ6.out
 ·rw [hlen]; exact HR2.out
 ·rw [List.map_drop, HF.out.1]
 ·exact g6.out.sub (fun f hf => List.mem_of_mem_drop hf)
 ·have h1 := HX.out.2
  have h2 := HK.out
  rw [hlen, HLN.out]
  omega
end
end Go.Proofs.YtnoflfbcgbhipaaGreat.Oct
