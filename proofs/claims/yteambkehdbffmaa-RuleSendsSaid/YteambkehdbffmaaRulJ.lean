/- The walk of RuleSends. -/
import Derived.Test.YteambkehdbffmaaRulG
import Derived.Test.YteambkehdbffmaaBring
import Derived.Test.YteambkehdbffmaaMskX
import Derived.Deep.Cut
import Derived.Deep.CutRange
namespace Go.Proofs.Yteambkehdbffmaa.Oct
open Go.RowKit
set_option linter.unusedVariables false
set_option linter.unusedSimpArgs false

theorem own_storeR {w w' : World} {base n X : Nat} {v : Value} {os : List OutV} (h : Owo w base v n os) (hb : ∀ z, v.ownBlock = some z → z < X) (hg : w.grownBy w' (some X)) : Owo w' base v n os :=
  World.ownsRow.kept h hg (by
    cases hv : v.ownBlock with
    | none => exact .inl rfl
    | some k => exact .inr (fun e => by simp at e; have := hb k hv; omega))
def brO (o : OutV) : OutV := ⟨Ser.bringP o.p 3, Ser.bringP o.a 4 - 1, Ser.bringP o.b 4 - 1, Ser.bringP o.c 4 - 1⟩
/-- An output whose fields stay, or are set to a byte. -/
def okS (o : OutV) : Prop := (0 ≤ o.p ∧ o.p ≤ 2) ∧ (-1 ≤ o.a ∧ o.a ≤ 2) ∧ (-1 ≤ o.b ∧ o.b ≤ 2) ∧ (-1 ≤ o.c ∧ o.c ≤ 2)
theorem brO_ok (o : OutV) : okS (brO o) := by
  have h0 := Ser.bringP_bd o.p 3 (by omega)
  have h1 := Ser.bringP_bd o.a 4 (by omega)
  have h2 := Ser.bringP_bd o.b 4 (by omega)
  have h3 := Ser.bringP_bd o.c 4 (by omega)
  refine ⟨⟨?_, ?_⟩, ⟨?_, ?_⟩, ⟨?_, ?_⟩, ⟨?_, ?_⟩⟩ <;> simp only [brO] <;> omega
theorem brs_step {os : List OutV} {k : Nat} {x : OutV} (h : os[k]? = some x) : (os.take (k + 1)).map brO = (os.take k).map brO ++ [brO x] := by
  rw [List.take_add_one, h]
  simp
theorem doesF_pre (a b c : Int) : ∀ (os acc : List OutV), ∃ r, doesF a b c os acc = acc ++ r
  | [], acc => ⟨[], by simp [doesF]⟩
  | o :: os, acc => by
    show ∃ r, doesF a b c os _ = _
    split
    · exact doesF_pre a b c os acc
    · obtain ⟨r, h⟩ := doesF_pre a b c os (acc ++ [sentP o a b c])
      exact ⟨[sentP o a b c] ++ r, by rw [h]; simp⟩

set_option maxRecDepth 100000 in
set_option maxHeartbeats 16000000 in
theorem ruleSends_any {w : World} {n c : Nat} {A : Option Addr} {os : List OutV} (a b e : Int) (h : Ro w w.heap.size A n c os) : Calls Try.prog 5 #[.slice A n c, .agg #[.int .u8 a, .int .u8 b, .int .u8 e]] w fun en w' => en = .returned (.bool true) ∧ Below w.heap.size w w' := by
  have hh : Vb 23 ((w.alloc (.cells #[.int .u8 a, .int .u8 b, .int .u8 e] 23)).alloc (.cells #[.int .i64 1, .int .i64 0, .int .i64 0, .int .i64 0, .int .i64 0, .int .i64 0, .int .u8 0, .int .u8 0, .int .u8 0, .int .u8 0, .int .u8 0, .int .u8 0, .slice none 0 0] 28)) w.heap.size [.int .u8 a, .int .u8 b, .int .u8 e] := (Vb.new 23 w [.int .u8 a, .int .u8 b, .int .u8 e]).alloc _
  have hm : Vb 28 ((w.alloc (.cells #[.int .u8 a, .int .u8 b, .int .u8 e] 23)).alloc (.cells #[.int .i64 1, .int .i64 0, .int .i64 0, .int .i64 0, .int .i64 0, .int .i64 0, .int .u8 0, .int .u8 0, .int .u8 0, .int .u8 0, .int .u8 0, .int .u8 0, .slice none 0 0] 28)) (w.heap.size + 1) [.int .i64 1, .int .i64 0, .int .i64 0, .int .i64 0, .int .i64 0, .int .i64 0, .int .u8 0, .int .u8 0, .int .u8 0, .int .u8 0, .int .u8 0, .int .u8 0, .slice none 0 0] := by have := Vb.new 28 (w.alloc (.cells #[.int .u8 a, .int .u8 b, .int .u8 e] 23)) [.int .i64 1, .int .i64 0, .int .i64 0, .int .i64 0, .int .i64 0, .int .i64 0, .int .u8 0, .int .u8 0, .int .u8 0, .int .u8 0, .int .u8 0, .int .u8 0, .slice none 0 0]; simpa using this
  have hB := below_two w (.cells #[.int .u8 a, .int .u8 b, .int .u8 e] 23) (.cells #[.int .i64 1, .int .i64 0, .int .i64 0, .int .i64 0, .int .i64 0, .int .i64 0, .int .u8 0, .int .u8 0, .int .u8 0, .int .u8 0, .int .u8 0, .int .u8 0, .slice none 0 0] 28)
  have hr := h.below hB
  have hlen := h.len
  have hmx := h.max
  have hsz : ((w.alloc (.cells #[.int .u8 a, .int .u8 b, .int .u8 e] 23)).alloc (.cells #[.int .i64 1, .int .i64 0, .int .i64 0, .int .i64 0, .int .i64 0, .int .i64 0, .int .u8 0, .int .u8 0, .int .u8 0, .int .u8 0, .int .u8 0, .int .u8 0, .slice none 0 0] 28)).heap.size = w.heap.size + 2 := by simp
  clear h
  go_enter Try.func5, Try.ntmps5
  go_upto_region 2 with fail
  generalize (w.alloc (.cells #[.int .u8 a, .int .u8 b, .int .u8 e] 23)).alloc (.cells #[.int .i64 1, .int .i64 0, .int .i64 0, .int .i64 0, .int .i64 0, .int .i64 0, .int .u8 0, .int .u8 0, .int .u8 0, .int .u8 0, .int .u8 0, .int .u8 0, .slice none 0 0] 28) = w2 at *
  have hO : Owo w2 (w.heap.size + 2) (.slice none 0 0) 0 [] := Owo.nil _ _
  have hws : w.heap.size + 2 ≤ w2.heap.size := by omega
  clear hsz
  go_wp2_with fail
  go_loopw [6, 7, 8] (fun i _ _ wr => ∃ (k : Nat) (Ak : Option Addr) (ck : Nat), k ≤ n ∧ k ≤ 8 ∧ i = .int .i64 k ∧ Vb 23 wr w.heap.size [.int .u8 a, .int .u8 b, .int .u8 e] ∧ Vb 28 wr (w.heap.size + 1) [.int .i64 1, .int .i64 0, .int .i64 0, .int .i64 0, .int .i64 0, .int .i64 0, .int .u8 0, .int .u8 0, .int .u8 0, .int .u8 0, .int .u8 0, .int .u8 0, .slice Ak k ck] ∧ Owo wr (w.heap.size + 2) (.slice Ak k ck) k ((os.take k).map brO) ∧ Ro wr w.heap.size A n c os ∧ w.heap.size + 2 ≤ wr.heap.size ∧ Below w.heap.size w wr) (fun i _ _ _ => 8 - (intOf i).toNat)
  case atStart => exact ⟨0, none, 0, by omega, by omega, rfl, hh, hm, by simpa using hO, hr, hws, hB⟩
  case round =>
    clear hh hm hO hr hws hB
    obtain ⟨k, Ak, ck, hk1, hk2, rfl, hh, hm, hO, hr, hws, hB⟩ := hrel
    by_cases hgo : (k : Int) < n ∧ (k : Int) < 8
    · obtain ⟨j1, j2⟩ := hgo
      obtain ⟨bb, off, eA, hbB, hcell⟩ := hr.at_ (by omega)
      subst eA
      obtain ⟨oi, hoi⟩ : ∃ oi, os[k]? = some oi := ⟨_, List.getElem?_eq_getElem (by omega)⟩
      obtain ⟨p0, p1, p2, p3⟩ := hcell k oi hoi
      have HB := Kp.mk (brs_step hoi)
      have s0 := Ser.bringP_bd oi.p 3 (by omega)
      have s1 := Ser.bringP_bd oi.a 4 (by omega)
      have s2 := Ser.bringP_bd oi.b 4 (by omega)
      have s3 := Ser.bringP_bd oi.c 4 (by omega)
      have F1 := Kp.mk (show IntKind.i64.wrap (Ser.bringP oi.a 4 - 1) = Ser.bringP oi.a 4 - 1 from IntWalk.i64_in _ (by omega))
      have F2 := Kp.mk (show IntKind.i64.wrap (Ser.bringP oi.b 4 - 1) = Ser.bringP oi.b 4 - 1 from IntWalk.i64_in _ (by omega))
      have F3 := Kp.mk (show IntKind.i64.wrap (Ser.bringP oi.c 4 - 1) = Ser.bringP oi.c 4 - 1 from IntWalk.i64_in _ (by omega))
      clear s0 s1 s2 s3 hcell hoi
      go_wp2_with fail
      refine (Ser.bring_any _ _ _ (by omega) (by omega)).mono ?_
      rintro en v ⟨rfl, rfl⟩
      have hob : ∀ z, (Value.slice Ak k ck).ownBlock = some z → z < wr.heap.size := fun z hz => (World.ownsRow.lt hO z hz).2
      go_upto_region 6 with (refine wpList_store_new (vs := [.int .i64 (Ser.bringP oi.p 3), .int .i64 0, .int .i64 0, .int .i64 0]) rfl (.tmp 7) (.tmp 33) rfl rfl rfl rfl rfl rfl agg_out rfl ?_; intro w5 ho hb5 hz5)
      replace p1 := (hb5.cell (p := ⟨bb, off + k * 4 + 1, none⟩) (by simp only; omega)).trans p1
      replace p2 := (hb5.cell (p := ⟨bb, off + k * 4 + 2, none⟩) (by simp only; omega)).trans p2
      replace p3 := (hb5.cell (p := ⟨bb, off + k * 4 + 3, none⟩) (by simp only; omega)).trans p3
      replace hh := hh.below hb5 hh.lt
      replace hm := hm.below hb5 hm.lt
      replace hO := hO.below hb5
      replace hr := hr.below' hb5 (by omega)
      replace hB := hB.trans (hb5.mono (by omega))
      clear hb5 hz5 p0
      generalize wr.heap.size = g6 at *
      go_wp2_with fail
      refine wp_loop_rounds (3 + 1) ?_
      rw [rounds_succ]
      have hf := ho.free
      have e1 := ho.cell 1 rfl
      have fw := F1.out
      go_wp2_with fail
      refine (Ser.bring_any _ _ _ (by omega) (by omega)).mono ?_
      rintro en v ⟨rfl, rfl⟩
      have hn : Vb 42 (w5.setCell ⟨g6, 1, none⟩ (.int .i64 (Ser.bringP oi.a 4 - 1))) g6 [.int .i64 (Ser.bringP oi.p 3), .int .i64 (Ser.bringP oi.a 4 - 1), .int .i64 0, .int .i64 0] := ho.set 1 _
      have gb := (Below.refl g6 w5).setCell (p := ⟨g6, 1, none⟩) (by simp) (.int .i64 (Ser.bringP oi.a 4 - 1))
      have sh := hh.below gb (by omega)
      have sm := hm.below gb (by omega)
      have sO := own_storeR hO hob (grownBy_set w5 g6 1 (.int .i64 (Ser.bringP oi.a 4 - 1)))
      have sr := hr.below' gb (by omega)
      have sb := hB.trans (gb.mono (by omega))
      have q1_ := (gb.cell (p := ⟨bb, off + k * 4 + 1, none⟩) (by simp only; omega)).trans p1
      have q2_ := (gb.cell (p := ⟨bb, off + k * 4 + 2, none⟩) (by simp only; omega)).trans p2
      have q3_ := (gb.cell (p := ⟨bb, off + k * 4 + 3, none⟩) (by simp only; omega)).trans p3
      clear hh hm hO hr hB p1 p2 p3 gb
      go_wp2_with fail
      clear hf e1 fw ho
      generalize w5.setCell ⟨g6, 1, none⟩ (.int .i64 (Ser.bringP oi.a 4 - 1)) = wf1 at *
      have ho := hn
      have hh := sh
      have hm := sm
      have hO := sO
      have hr := sr
      have hB := sb
      have p1 := q1_
      have p2 := q2_
      have p3 := q3_
      clear hn sh sm sO sr sb q1_ q2_ q3_
      rw [rounds_succ]
      have hf := ho.free
      have e1 := ho.cell 2 rfl
      have fw := F2.out
      go_wp2_with fail
      refine (Ser.bring_any _ _ _ (by omega) (by omega)).mono ?_
      rintro en v ⟨rfl, rfl⟩
      have hn : Vb 42 (wf1.setCell ⟨g6, 2, none⟩ (.int .i64 (Ser.bringP oi.b 4 - 1))) g6 [.int .i64 (Ser.bringP oi.p 3), .int .i64 (Ser.bringP oi.a 4 - 1), .int .i64 (Ser.bringP oi.b 4 - 1), .int .i64 0] := ho.set 2 _
      have gb := (Below.refl g6 wf1).setCell (p := ⟨g6, 2, none⟩) (by simp) (.int .i64 (Ser.bringP oi.b 4 - 1))
      have sh := hh.below gb (by omega)
      have sm := hm.below gb (by omega)
      have sO := own_storeR hO hob (grownBy_set wf1 g6 2 (.int .i64 (Ser.bringP oi.b 4 - 1)))
      have sr := hr.below' gb (by omega)
      have sb := hB.trans (gb.mono (by omega))
      have q1_ := (gb.cell (p := ⟨bb, off + k * 4 + 1, none⟩) (by simp only; omega)).trans p1
      have q2_ := (gb.cell (p := ⟨bb, off + k * 4 + 2, none⟩) (by simp only; omega)).trans p2
      have q3_ := (gb.cell (p := ⟨bb, off + k * 4 + 3, none⟩) (by simp only; omega)).trans p3
      clear hh hm hO hr hB p1 p2 p3 gb
      go_wp2_with fail
      clear hf e1 fw ho
      generalize wf1.setCell ⟨g6, 2, none⟩ (.int .i64 (Ser.bringP oi.b 4 - 1)) = wf2 at *
      have ho := hn
      have hh := sh
      have hm := sm
      have hO := sO
      have hr := sr
      have hB := sb
      have p1 := q1_
      have p2 := q2_
      have p3 := q3_
      clear hn sh sm sO sr sb q1_ q2_ q3_
      rw [rounds_succ]
      have hf := ho.free
      have e1 := ho.cell 3 rfl
      have fw := F3.out
      go_wp2_with fail
      refine (Ser.bring_any _ _ _ (by omega) (by omega)).mono ?_
      rintro en v ⟨rfl, rfl⟩
      have hn : Vb 42 (wf2.setCell ⟨g6, 3, none⟩ (.int .i64 (Ser.bringP oi.c 4 - 1))) g6 [.int .i64 (Ser.bringP oi.p 3), .int .i64 (Ser.bringP oi.a 4 - 1), .int .i64 (Ser.bringP oi.b 4 - 1), .int .i64 (Ser.bringP oi.c 4 - 1)] := ho.set 3 _
      have gb := (Below.refl g6 wf2).setCell (p := ⟨g6, 3, none⟩) (by simp) (.int .i64 (Ser.bringP oi.c 4 - 1))
      have sh := hh.below gb (by omega)
      have sm := hm.below gb (by omega)
      have sO := own_storeR hO hob (grownBy_set wf2 g6 3 (.int .i64 (Ser.bringP oi.c 4 - 1)))
      have sr := hr.below' gb (by omega)
      have sb := hB.trans (gb.mono (by omega))
      have q1_ := (gb.cell (p := ⟨bb, off + k * 4 + 1, none⟩) (by simp only; omega)).trans p1
      have q2_ := (gb.cell (p := ⟨bb, off + k * 4 + 2, none⟩) (by simp only; omega)).trans p2
      have q3_ := (gb.cell (p := ⟨bb, off + k * 4 + 3, none⟩) (by simp only; omega)).trans p3
      clear hh hm hO hr hB p1 p2 p3 gb
      go_wp2_with fail
      clear hf e1 fw ho
      generalize wf2.setCell ⟨g6, 3, none⟩ (.int .i64 (Ser.bringP oi.c 4 - 1)) = wf3 at *
      have ho := hn
      have hh := sh
      have hm := sm
      have hO := sO
      have hr := sr
      have hB := sb
      have p1 := q1_
      have p2 := q2_
      have p3 := q3_
      clear hn sh sm sO sr sb q1_ q2_ q3_
      rw [rounds_succ]
      have hg6 : g6 < wf3.heap.size := ho.lt
      obtain ⟨d0, d1, d2, d3⟩ := ho.c4
      clear p1 p2 p3
      have hrl : Ro (wf3.alloc (.cells #[.int .i64 (Ser.bringP oi.p 3), .int .i64 (Ser.bringP oi.a 4 - 1), .int .i64 (Ser.bringP oi.b 4 - 1), .int .i64 (Ser.bringP oi.c 4 - 1)] 42)) (wf3.heap.size + 1) (some ⟨wf3.heap.size, 0, none⟩) 1 1 [⟨Ser.bringP oi.p 3, Ser.bringP oi.a 4 - 1, Ser.bringP oi.b 4 - 1, Ser.bringP oi.c 4 - 1⟩] := by
        have h9 := (Ron.of_vb (lo := 0) (os := [(⟨Ser.bringP oi.p 3, Ser.bringP oi.a 4 - 1, Ser.bringP oi.b 4 - 1, Ser.bringP oi.c 4 - 1⟩ : OutV)]) (Vb.new 42 wf3 (([(⟨Ser.bringP oi.p 3, Ser.bringP oi.a 4 - 1, Ser.bringP oi.b 4 - 1, Ser.bringP oi.c 4 - 1⟩ : OutV)]).flatMap ocs)) (Nat.zero_le _) (by simp)).ro
        rw [alloc_size] at h9
        exact h9
      have hba := below_alloc wf3 (.cells #[.int .i64 (Ser.bringP oi.p 3), .int .i64 (Ser.bringP oi.a 4 - 1), .int .i64 (Ser.bringP oi.b 4 - 1), .int .i64 (Ser.bringP oi.c 4 - 1)] 42)
      have hOa := hO.below hba
      have hha := hh.below hba hh.lt
      have hma := hm.below hba hm.lt
      have hra := hr.below' hba (by omega)
      have hBa := hB.trans (hba.mono hB.size)
      have hza : w.heap.size + 2 ≤ (wf3.alloc (.cells #[.int .i64 (Ser.bringP oi.p 3), .int .i64 (Ser.bringP oi.a 4 - 1), .int .i64 (Ser.bringP oi.b 4 - 1), .int .i64 (Ser.bringP oi.c 4 - 1)] 42)).heap.size := by simp; omega
      have hda := hm.cell 12 rfl
      have hfa := hma.free
      go_upto_region 4 with (at_builtin; refine wpList_appendO rfl (.tmp 51) (.tmp 53) rfl rfl hOa rfl hrl (by omega) (by omega) ?_; intro Ab cb t6 hO6 hb6 hg6_; have hD6 := hOa.other hg6_ hma (by omega); have hf6 := hD6.free; have hd6 := hD6.cell 12 rfl)
      have hh6 := hOa.other hg6_ hha (by omega)
      have hr6 := hra.below' hb6 (by omega)
      have hB6 := hBa.trans (hb6.mono (by omega))
      have hgs := grownBy_set t6 (w.heap.size + 1) 12 (.slice Ab (k + 1) cb)
      have gb := (Below.refl (w.heap.size + 1) t6).setCell (p := ⟨w.heap.size + 1, 12, none⟩) (by simp) (.slice Ab (k + 1) cb)
      have hm7 : Vb 28 (t6.setCell ⟨w.heap.size + 1, 12, none⟩ (.slice Ab (k + 1) cb)) (w.heap.size + 1) [.int .i64 1, .int .i64 0, .int .i64 0, .int .i64 0, .int .i64 0, .int .i64 0, .int .u8 0, .int .u8 0, .int .u8 0, .int .u8 0, .int .u8 0, .int .u8 0, .slice Ab (k + 1) cb] := hD6.set 12 _
      have hh7 := hh6.below gb (by omega)
      have hr7 := hr6.below' gb (by omega)
      have hB7 := hB6.trans (gb.mono (by omega))
      have hO7 := hO6.keep hgs (by omega)
      have hz7 := gb.size
      have hz6 := hb6.size
      clear hh hm hO hr hB hOa hha hma hra hBa hda hfa hO6 hb6 hg6_ hD6 hf6 hd6 hh6 hr6 hB6 hgs gb hrl hba d0 d1 d2 d3
      generalize t6.setCell ⟨w.heap.size + 1, 12, none⟩ (.slice Ab (k + 1) cb) = t7 at *
      go_wp2_with fail
      go_roundw
      case rel => exact ⟨k + 1, Ab, cb, by omega, by omega, by go_num, hh7, hm7, by rw [HB.out]; exact hO7, hr7, by omega, hB7⟩
      case measure => simp [intOf]; omega
    go_upto_region 3 with fail
    go_cut [24] from 17 to 55 (fun v wx => v = .bool false ∧ wx = wr)
    case first =>
      by_cases j1 : (k : Int) < n
      · have j2 : ¬ (k : Int) < 8 := fun h => hgo ⟨j1, h⟩
        clear hgo
        go_wp2_with fail
        go_meet
        case rel => exact ⟨rfl, rfl⟩
      · clear hgo
        go_wp2_with fail
        go_meet
        case rel => exact ⟨rfl, rfl⟩
    obtain ⟨rfl, rfl⟩ := hcut
    obtain ⟨O, hOe⟩ : ∃ O, O = (os.take k).map brO := ⟨_, rfl⟩
    have HOK := Kp.mk (show ∀ x ∈ O, okS x by
      intro x hx
      rw [hOe] at hx
      obtain ⟨y, _, rfl⟩ := List.mem_map.1 hx
      exact brO_ok y)
    rw [← hOe] at hO
    have hOl := hO.len
    clear hOe hr hgo hlen hmx hk1
    have hro := hO.ron.1
    go_wp2_with (first | refine wpList_load_vb (vs := [.int .i64 1, .int .i64 0, .int .i64 0, .int .i64 0, .int .i64 0, .int .i64 0, .int .u8 0, .int .u8 0, .int .u8 0, .int .u8 0, .int .u8 0, .int .u8 0, .slice Ak k ck]) rfl (.tmp 5) rfl rfl hm rfl agg_rule ?_ | refine wpList_load_vb (vs := [.int .u8 a, .int .u8 b, .int .u8 e]) rfl (.tmp 3) rfl rfl hh rfl agg_header ?_)
    refine (does_any (r := ⟨1, 0, 0, 0, ⟨0, 0, 0, 0, 0, 0, 0, 0⟩, O⟩) hro (Nat.le_refl _) (by omega) a b e).mono ?_
    rintro en w4 ⟨A2, n2, c2, rfl, hs, hb⟩
    obtain ⟨ss, hss⟩ : ∃ ss, ss = doesF a b e O [] := ⟨_, rfl⟩
    replace hs : Rs w4 w4.heap.size A2 n2 c2 ss := by rw [hss]; exact hs
    replace hss := Kp.mk hss
    have hb0 := hb
    replace hh := hh.below hb hh.lt
    replace hm := hm.below hb hm.lt
    replace hO := hO.below hb
    replace hB := hB.trans (hb.mono hB.size)
    replace hws : w.heap.size + 2 ≤ w4.heap.size := by have := hb.size; omega
    clear hb hb0 hro
    have hro := hO.ron.1
    have hsl := hs.len
    have hsm := hs.max
    go_wp2_with fail
    go_loopw [10, 11, 12, 13, 14, 15] (fun at_ i _ _ _ _ wx => ∃ (j : Nat) (acc : List OutV), j ≤ k ∧ i = .int .i64 j ∧ at_ = .int .i64 acc.length ∧ acc.length ≤ j ∧ Kp (doesF a b e (O.drop j) acc = ss) ∧ Below w4.heap.size w4 wx) (fun _ i _ _ _ _ _ => k - (intOf i).toNat)
    case atStart => exact ⟨0, [], by omega, rfl, rfl, by simp, Kp.mk hss.out.symm, Below.refl _ _⟩
    case round =>
      obtain ⟨j, acc, hj, rfl, rfl, hal, HK, hb⟩ := hrel
      have hz := hb.size
      have hh1 := hh.below hb (by omega)
      have hm1 := hm.below hb (by omega)
      have d12 := hm1.cell 12 rfl
      by_cases hlt : j < k
      rotate_left
      · obtain rfl : j = k := by omega
        have hq := Kp.mk (show ss = acc by rw [← HK.out, List.drop_eq_nil_of_le (by omega)]; rfl)
        have hacc : acc.length = n2 := by rw [← hq.out]; exact hsl
        have c0 := hm1.cell 0 rfl
        have hf := hm1.free
        go_upto_region 32 with fail
        have hm2 : Vb 28 (wr.setCell ⟨w.heap.size + 1, 0, none⟩ (.int .i64 2)) (w.heap.size + 1) [.int .i64 2, .int .i64 0, .int .i64 0, .int .i64 0, .int .i64 0, .int .i64 0, .int .u8 0, .int .u8 0, .int .u8 0, .int .u8 0, .int .u8 0, .int .u8 0, .slice Ak j ck] := hm1.set 0 _
        have hh2 := hh1.other (r := w.heap.size + 1) (by omega) 0 (.int .i64 2)
        have hO2 := (hO.below hb).keep (grownBy_set wr (w.heap.size + 1) 0 (.int .i64 2)) (by omega)
        have hB2 := (hB.trans (hb.mono hB.size)).setCell (p := ⟨w.heap.size + 1, 0, none⟩) (by simp) (.int .i64 2)
        clear c0 hf d12 hh1 hm1 hh hm hO hro hs hb hz
        generalize wr.setCell ⟨w.heap.size + 1, 0, none⟩ (.int .i64 2) = w7 at *
        rw [hacc]
        go_wp2_with (first | refine wpList_load_wantR (vs := [.int .i64 2, .int .i64 0, .int .i64 0, .int .i64 0, .int .i64 0, .int .i64 0, .int .u8 0, .int .u8 0, .int .u8 0, .int .u8 0, .int .u8 0, .int .u8 0, .slice Ak j ck]) (by rfl) (.tmp 5) rfl rfl hm2 rfl agg_rule ?_ | refine wpList_load_wantR (vs := [.int .u8 a, .int .u8 b, .int .u8 e]) (by rfl) (.tmp 3) rfl rfl hh2 rfl agg_header ?_)
        refine (does_any (r := ⟨2, 0, 0, 0, ⟨0, 0, 0, 0, 0, 0, 0, 0⟩, O⟩) hO2.ron.1 (Nat.le_refl _) (by omega) a b e).mono ?_
        rintro en w8 ⟨A3, n3, c3, rfl, hs3, hb6⟩
        obtain rfl : n3 = 0 := by have := hs3.len; rw [← this]; rfl
        have hB3 := hB2.trans (hb6.mono hB2.size)
        clear hs3 hb6
        go_wp2_with fail
        refine (worksR_any _).mono ?_
        rintro en w9 ⟨rfl, hb7⟩
        go_wp2_with fail
        go_ret
        exact ⟨rfl, hB3.trans (hb7.mono hB3.size)⟩
      obtain ⟨q, off, eA, hbB, _⟩ := hro.at_ (by omega)
      obtain ⟨x, hxk⟩ : ∃ x, O[j]? = some x := ⟨_, List.getElem?_eq_getElem (by omega)⟩
      have HX := Kp.mk (HOK.out x (List.mem_of_getElem? hxk))
      have HS := Kp.mk (doesF_step (a := a) (b := b) (c := e) (acc := acc) hxk)
      subst eA
      have j1 : (j : Int) < k := by omega
      go_upto_region 16 with fail
      have hS0 : (fun W => Below w4.heap.size w4 W) wr.drew := hb.drew
      refine wp_region_held_drew (S := fun W => Below w4.heap.size w4 W) (by kernel_rfl) hS0 (fun _ => ?_)
      clear d12 hh1 hm1 hb
      replace hz : w4.heap.size ≤ wr.drew.heap.size := hz
      generalize wr.drew = u0 at *
      refine takeD (i := 0) (v := .pointer (some ⟨w.heap.size + 1, 12, none⟩)) (some 66) rfl rfl (by kernel_rfl) (by kernel_rfl) (by kernel_rfl) (fun _ _ _ h => h) (Or.inl ⟨by rfl, ?_⟩) hS0 ?_
      · rintro w' s0
        go_simp
      try simp only [Act.put, List.setIfInBounds_toArray, List.set_cons_zero, List.set_cons_succ]
      refine takeD (i := 1) (v := .slice (some ⟨q, off, none⟩) k ck) (some 67) rfl rfl (by kernel_rfl) (by kernel_rfl) (by kernel_rfl) (fun _ _ _ h => h) (Or.inl ⟨by rfl, ?_⟩) hS0 ?_
      · rintro w' s0
        have d12 := (hm.below s0 (by omega)).cell 12 rfl
        go_simp
      try simp only [Act.put, List.setIfInBounds_toArray, List.set_cons_zero, List.set_cons_succ]
      refine takeD (i := 2) (v := .int .i64 j) (some 68) rfl rfl (by kernel_rfl) (by kernel_rfl) (by kernel_rfl) (fun _ _ _ h => h) (Or.inl ⟨by rfl, ?_⟩) hS0 ?_
      · rintro w' s0
        go_simp
      try simp only [Act.put, List.setIfInBounds_toArray, List.set_cons_zero, List.set_cons_succ]
      refine takeD (i := 3) (v := .pointer (some ⟨q, off + j * 4, none⟩)) (some 69) rfl rfl (by kernel_rfl) (by kernel_rfl) (by kernel_rfl) (fun _ _ _ h => h) (Or.inl ⟨by rfl, ?_⟩) hS0 ?_
      · rintro w' s0
        go_simp
      try simp only [Act.put, List.setIfInBounds_toArray, List.set_cons_zero, List.set_cons_succ]
      refine takeD (i := 4) (v := .pointer (some ⟨q, off + j * 4, none⟩)) (some 70) rfl rfl (by kernel_rfl) (by kernel_rfl) (by kernel_rfl) (fun _ _ _ h => h) (Or.inl ⟨by rfl, ?_⟩) hS0 ?_
      · rintro w' s0
        go_simp
      try simp only [Act.put, List.setIfInBounds_toArray, List.set_cons_zero, List.set_cons_succ]
      refine takeD (i := 5) (v := .int .i64 x.p) (some 71) rfl rfl (by kernel_rfl) (by kernel_rfl) (by kernel_rfl) (fun _ _ _ h => h) (Or.inl ⟨by rfl, ?_⟩) hS0 ?_
      · rintro w' s0
        have f0 := ((hro.below s0).got hxk).1
        go_simp
      try simp only [Act.put, List.setIfInBounds_toArray, List.set_cons_zero, List.set_cons_succ]
      refine takeD (i := 6) (v := .agg #[.int .u8 a, .int .u8 b, .int .u8 e]) (some 72) rfl rfl (by kernel_rfl) (by kernel_rfl) (by kernel_rfl) (fun _ _ _ h => h) (Or.inl ⟨by rfl, ?_⟩) hS0 ?_
      · rintro w' s0
        obtain ⟨g0, g1, g2⟩ := (hh.below s0 (by omega)).c3
        go_simp
      try simp only [Act.put, List.setIfInBounds_toArray, List.set_cons_zero, List.set_cons_succ]
      refine takeD (i := 7) (v := .agg #[.int .i64 x.p, .int .u8 a, .int .u8 b, .int .u8 e]) (some 73) rfl rfl (by kernel_rfl) (by kernel_rfl) (by kernel_rfl) (fun _ _ _ h => h) (Or.inl ⟨by rfl, ?_⟩) hS0 ?_
      · rintro w' s0
        go_simp
      try simp only [Act.put, List.setIfInBounds_toArray, List.set_cons_zero, List.set_cons_succ]
      refine wpAnyH_ready (rs := [8]) (by kernel_rfl) (by simp) ?_
      refine AllReadyH.cons rfl (fun K hK => ?_) AllReadyH.nil
      try rw [if_pos (by rfl)]
      go_simp
      have hba := below_alloc u0 (.cells #[.int .i64 0, .int .u8 0, .int .u8 0, .int .u8 0] 44)
      have hv := Vb.new 44 u0 [.int .i64 0, .int .u8 0, .int .u8 0, .int .u8 0]
      refine hK.out _ _ (hS0.trans (hba.mono hz)) (fun _ => ?_)
      clear hK K
      try simp only [Act.put, List.setIfInBounds_toArray, List.set_cons_zero, List.set_cons_succ]
      refine wpAnyH_ready (rs := [9]) (by kernel_rfl) (by simp) ?_
      refine AllReadyH.cons rfl (fun K hK => ?_) AllReadyH.nil
      try rw [if_pos (by rfl)]
      refine wp_store_vb' (T := 44) (vs := scs (hcP x a b e 0)) none rfl (.tmp 12) (.tmp 73) rfl rfl rfl hv rfl agg_sent rfl ?_
      intro u2 hv2 hg hz2
      have hbu : Below u0.heap.size u0 u2 := hba.grown hg (by simp) (fun k e => by simp at e; omega)
      refine hK.out _ _ (hS0.trans (hbu.mono hz)) (fun _ => ?_)
      clear hK K hba hv hg hz2
      try simp only [Act.put, List.setIfInBounds_toArray, List.set_cons_zero, List.set_cons_succ]
      refine wpAnyH_done (by kernel_rfl) ?_ _
      generalize hgs : u0.heap.size = gs at *
      go_wp2_with fail
      go_loopw [13] (fun i wx => ∃ m : Nat, m ≤ 3 ∧ i = .int .i64 m ∧ Vb 44 wx gs (scs (hcP x a b e m)) ∧ Below gs u0 wx) (fun i _ => 3 - (intOf i).toNat)
      case atStart => exact ⟨0, by omega, rfl, hv2, hbu⟩
      case round =>
        clear hv2 hbu
        obtain ⟨m, hm3, rfl, hv, hbi⟩ := hrel
        have hvl := hv.lt
        have hbt : Below w4.heap.size w4 wr := hS0.trans (hbi.mono hz)
        by_cases hm3' : m = 3
        · subst hm3'
          replace hv : Vb 44 wr gs (scs (sentP x a b e)) := hv
          obtain ⟨s, hse⟩ : ∃ s, s = sentP x a b e := ⟨_, rfl⟩
          rw [← hse] at hv
          replace HS := HS.out
          rw [← hse] at HS
          replace HS := Kp.mk HS
          clear hse hS0 hbi hgs hvl HX
          replace hv : Vb 44 wr gs [.int .i64 s.p, .int .u8 s.a, .int .u8 s.b, .int .u8 s.c] := hv
          obtain ⟨rr, hrr⟩ := doesF_pre a b e (O.drop j) acc
          have HP := Kp.mk (show ss = acc ++ rr by rw [← HK.out, hrr])
          clear hrr
          have hal2 : acc.length ≤ n2 := by rw [← hsl, HP.out]; simp
          generalize wr = w6 at *
          go_wp2_with fail
          go_loopw [14, 15] (fun v i wx => ∃ (m p : Nat), m ≤ acc.length ∧ i = .int .i64 m ∧ v = .bool (decide (s ∈ acc.take m)) ∧ wx = w6.drewN p) (fun _ i _ => acc.length - (intOf i).toNat)
          case atStart => exact ⟨0, 0, by omega, rfl, by simp, rfl⟩
          case round =>
            obtain ⟨m, p, hm, rfl, rfl, rfl⟩ := hrel
            have hb6 := below_drewN hbt p
            have hs6 := hs.below hbt
            obtain ⟨g0, g1, g2, g3⟩ := hv.c4
            by_cases hlm : m < acc.length
            · obtain ⟨b2, off2, eA2, hbB2, hc⟩ := hs6.at_ (by omega)
              subst eA2
              obtain ⟨y, hy⟩ : ∃ y, acc[m]? = some y := ⟨_, List.getElem?_eq_getElem hlm⟩
              obtain ⟨f0, f1, f2, f3⟩ := hc m y (by rw [HP.out, List.getElem?_append_left hlm]; exact hy)
              have j2 : (m : Int) < acc.length := by omega
              have j3 : (m : Int) < n2 := by omega
              have eO : ∀ w, (Op.equalIn 10000 44 (.agg #[.int .i64 y.p, .int .u8 y.a, .int .u8 y.b, .int .u8 y.c]) (.agg #[.int .i64 s.p, .int .u8 s.a, .int .u8 s.b, .int .u8 s.c])).run Try.prog w = .ok (eqSB y s) w := fun w => eq_sent y s w
              have Hy := Kp.mk hy
              clear hc hy
              by_cases hin : s ∈ acc.take m
              · have hp0 : decide (s ∈ acc.take m) = true := decide_eq_true hin
                have hp := Kp.mk (show decide (s ∈ acc.take (m + 1)) = true from decide_eq_true (by rw [List.take_add_one]; exact List.mem_append_left _ hin))
                rw [hp0]
                clear hin hp0
                go_wp2_with fail
                go_quiet (fail)
                go_wp2_with fail
                go_roundw
                case rel => exact ⟨m + 1, p + nq, by omega, by go_num, by rw [hp.out], by first | rfl | rw [World.drewN_drewN]⟩
                case measure => simp [intOf]; omega
              · have hp0 : decide (s ∈ acc.take m) = false := decide_eq_false hin
                by_cases c6 : eqSB y s = true
                · have hp := Kp.mk (show decide (s ∈ acc.take (m + 1)) = true from decide_eq_true (by rw [List.take_add_one, Hy.out, (eqSB_iff y s).1 c6]; simp))
                  rw [hp0]
                  clear hin hp0
                  go_wp2_with fail
                  go_quiet (fail)
                  go_wp2_with fail
                  go_roundw
                  case rel => exact ⟨m + 1, p + nq, by omega, by go_num, by rw [hp.out], by first | rfl | rw [World.drewN_drewN]⟩
                  case measure => simp [intOf]; omega
                · have hne : ¬ s = y := fun h => c6 ((eqSB_iff y s).2 h.symm)
                  have hp := Kp.mk (show decide (s ∈ acc.take (m + 1)) = false from decide_eq_false (by rw [List.take_add_one, Hy.out]; simp only [List.mem_append, Option.toList, List.mem_singleton]; exact fun h => h.elim hin hne))
                  have c6' : eqSB y s = false := by simpa using c6
                  rw [hp0]
                  clear hin hp0 c6 hne
                  go_wp2_with fail
                  go_quiet (fail)
                  go_wp2_with fail
                  go_roundw
                  case rel => exact ⟨m + 1, p + nq, by omega, by go_num, by rw [hp.out], by first | rfl | rw [World.drewN_drewN]⟩
                  case measure => simp [intOf]; omega
            · obtain rfl : m = acc.length := by omega
              rw [List.take_length]
              by_cases hmem : s ∈ acc
              · have hd : decide (s ∈ acc) = true := decide_eq_true hmem
                have HN := Kp.mk (show doesF a b e (O.drop (j + 1)) acc = ss by rw [← HK.out, HS.out, if_pos hmem])
                rw [hd]
                clear hmem hd
                go_wp2_with fail
                go_roundw
                case rel => exact ⟨j + 1, acc, by omega, by go_num, rfl, by omega, HN, hb6⟩
                case measure => simp [intOf]; omega
              · have hd : decide (s ∈ acc) = false := decide_eq_false hmem
                have HN := Kp.mk (show doesF a b e (O.drop (j + 1)) (acc ++ [s]) = ss by rw [← HK.out, HS.out, if_neg hmem])
                obtain ⟨r2, hr2⟩ := doesF_pre a b e (O.drop (j + 1)) (acc ++ [s])
                have HP2 := Kp.mk (show ss = (acc ++ [s]) ++ r2 by rw [← HN.out, hr2])
                have hlt2 : acc.length < n2 := by rw [← hsl, HP2.out, List.length_append, List.length_append, List.length_singleton]; omega
                obtain ⟨b2, off2, eA2, hbB2, hc⟩ := hs6.at_ (by omega)
                subst eA2
                obtain ⟨f0, f1, f2, f3⟩ := hc acc.length s (by rw [HP2.out, List.append_assoc, List.getElem?_append_right (Nat.le_refl _)]; simp)
                have j2 : ¬ (acc.length : Int) ≥ n2 := by omega
                have j3 : (acc.length : Int) < n2 := by omega
                have hl1 : (acc ++ [s]).length = acc.length + 1 := by simp
                have eO : ∀ w, (Op.equalIn 10000 44 (.agg #[.int .i64 s.p, .int .u8 s.a, .int .u8 s.b, .int .u8 s.c]) (.agg #[.int .i64 s.p, .int .u8 s.a, .int .u8 s.b, .int .u8 s.c])).run Try.prog w = .ok true w := fun w => (eq_sent s s w).trans (by rw [(eqSB_iff s s).2 rfl])
                rw [hd]
                clear hmem hd hc hr2
                go_wp2_with fail
                go_quiet (fail)
                go_wp2_with fail
                go_roundw
                case rel => exact ⟨j + 1, acc ++ [s], by omega, by go_num, by rw [hl1]; go_num, by omega, HN, by repeat first | exact hbt | exact hb6 | refine below_drewN ?_ _⟩
                case measure => simp [intOf]; omega
        · have d12 := (hm.below hbt (by omega)).cell 12 rfl
          obtain ⟨f0, f1, f2, f3⟩ := (hro.below hbt).got hxk
          have hf := hv.free
          have hx0 := HX.out
          have hjj : m = 0 ∨ m = 1 ∨ m = 2 := by omega
          rcases hjj with rfl | rfl | rfl
          · obtain ⟨g0, g1, g2, g3⟩ := Vb.c4 (show Vb 44 wr gs [.int .i64 x.p, .int .u8 a, .int .u8 b, .int .u8 e] from hv)
            by_cases h0 : x.a = -1
            · have n0 : ¬ x.a ≥ 0 := by have := hx0.2.1; omega
              have e1 : hcP x a b e 1 = hcP x a b e 0 := by unfold hcP; simp [putB_y (h := a) h0]
              rw [← e1] at hv
              clear h0 e1 hx0
              go_wp2_with fail
              go_roundw
              case rel => exact ⟨1, by omega, by go_num, hv, hbi⟩
              case measure => simp [intOf]
            · have n0 :  x.a ≥ 0 := by have := hx0.2.1; omega
              have e1 := putB_n (h := a) h0
              clear h0 hx0
              go_wp2_with fail
              go_roundw
              case rel => exact ⟨1, by omega, by go_num, by have := hv.set 1 (.int .u8 (x.a % 256)); rw [← e1] at this ⊢; exact this, hbi.setCell (by simp) _⟩
              case measure => simp [intOf]
          · obtain ⟨g0, g1, g2, g3⟩ := Vb.c4 (show Vb 44 wr gs [.int .i64 x.p, .int .u8 (putB x.a a), .int .u8 b, .int .u8 e] from hv)
            by_cases h0 : x.b = -1
            · have n0 : ¬ x.b ≥ 0 := by have := hx0.2.2.1; omega
              have e1 : hcP x a b e 2 = hcP x a b e 1 := by unfold hcP; simp [putB_y (h := b) h0]
              rw [← e1] at hv
              clear h0 e1 hx0
              go_wp2_with fail
              go_roundw
              case rel => exact ⟨2, by omega, by go_num, hv, hbi⟩
              case measure => simp [intOf]
            · have n0 :  x.b ≥ 0 := by have := hx0.2.2.1; omega
              have e1 := putB_n (h := b) h0
              clear h0 hx0
              go_wp2_with fail
              go_roundw
              case rel => exact ⟨2, by omega, by go_num, by have := hv.set 2 (.int .u8 (x.b % 256)); rw [← e1] at this ⊢; exact this, hbi.setCell (by simp) _⟩
              case measure => simp [intOf]
          · obtain ⟨g0, g1, g2, g3⟩ := Vb.c4 (show Vb 44 wr gs [.int .i64 x.p, .int .u8 (putB x.a a), .int .u8 (putB x.b b), .int .u8 e] from hv)
            by_cases h0 : x.c = -1
            · have n0 : ¬ x.c ≥ 0 := by have := hx0.2.2.2; omega
              have e1 : hcP x a b e 3 = hcP x a b e 2 := by unfold hcP; simp [putB_y (h := e) h0]
              rw [← e1] at hv
              clear h0 e1 hx0
              go_wp2_with fail
              go_roundw
              case rel => exact ⟨3, by omega, by go_num, hv, hbi⟩
              case measure => simp [intOf]
            · have n0 :  x.c ≥ 0 := by have := hx0.2.2.2; omega
              have e1 := putB_n (h := e) h0
              clear h0 hx0
              go_wp2_with fail
              go_roundw
              case rel => exact ⟨3, by omega, by go_num, by have := hv.set 3 (.int .u8 (x.c % 256)); rw [← e1] at this ⊢; exact this, hbi.setCell (by simp) _⟩
              case measure => simp [intOf]
theorem RuleSends_walk (os : List OutV) (A : Option Addr) (n c : Nat) (z1 : List Int) (w : World) (h : Ro w w.heap.size A n c os) (_ : c * 32 ≤ 140737488351232) (l1 : z1.length = 3) (h1 : ∀ p ∈ [IntKind.u8, .u8, .u8].zip z1, (Lit.int p.1 p.2).wf = true) :
    Calls Try.prog 5 #[.slice A n c, .agg (List.zipWith Value.int [.u8, .u8, .u8] z1).toArray] w fun e w' => e = .returned (.bool true) ∧ Below w.heap.size w w' := by
  obtain ⟨a, b, e, rfl, _⟩ := header_of z1 l1 h1
  exact ruleSends_any a b e h
end Go.Proofs.Yteambkehdbffmaa.Oct
