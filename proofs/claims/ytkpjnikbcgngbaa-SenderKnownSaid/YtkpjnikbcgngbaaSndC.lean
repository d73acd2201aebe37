/- Contracts of layer 13 (sender): a window's places are taken, if there is one, and freed; what is no sender. -/
import Derived.Test.YtkpjnikbcgngbaaSndB
import Derived.KernelRfl
namespace Go.Proofs.Ytkpjnikbcgngbaa.Oct
open Go.Conc Go.RowKit
set_option linter.unusedVariables false
set_option linter.unusedSimpArgs false
section
variable {w : World} {c wd k : Nat}
set_option maxRecDepth 100000 in
theorem take_yes (h : Wn w c wd k) (hlt : k < wd) : Calls Try.prog 35 #[.chan (some c)] w fun e w' => e = .returned (.bool true) ∧ Wn w' c wd (k + 1) ∧ Ch (fun x => x = c) w w' := by
  obtain ⟨s, r, hch⟩ := h
  have hr : (List.replicate k (Value.agg #[])).toArray.size < wd := by simpa using hlt
  have ht := Wn.turned (k' := k + 1) (s := s + 1) (r := r) (buf := (List.replicate k (Value.agg #[])).toArray.push (.agg #[])) ⟨s, r, hch⟩ (by apply Array.ext'; simp [List.replicate_succ'])
  clear hlt
  generalize (List.replicate k (Value.agg #[])).toArray = buf at *
  refine calls_of_loneTo fun cs => ?_
  have e : Frame.enter Try.prog 35 #[.chan (some c)] .normal = (base 35).at ⟨#[.chan (some c), undef, undef, undef, undef, undef, undef, undef], []⟩ [.code (Try.f35.body.getD .skip)] := by
    simp [Frame.enter, Frame.at, Try.func35, base, Try.f35]
    try rfl
  rw [e]
  refine LoneTo.goes (n := 40) ?_
  simp only [Try.f35, Option.getD_some]
  repeat (first | s_c stepG_seq | s_c stepG_region_end | s_reg | s_op)
  s_stop
  refine LoneTo.step (step_lone_select_send_room (c := c) (v := .agg #[]) (z' := .agg #[]) (cap := wd) (buf := buf) (s := s) (r := r) (tm := false) (stepG_comm (cases := #[scase c (.agg #[]) (.agg #[])]) (blocking := false) (shape := .select) (w' := w) rfl rfl (by decide) (by simp [go_sem, execOp, scase, Act.eval])) hch hr) ?_
  rw [Frame.finish_at]
  walk_nrm
  refine LoneTo.goes (n := 40) ?_
  repeat (first | s_op | s_c stepG_region_end | s_c stepG_block)
  s_cond true
  repeat (first | s_c stepG_seq | s_c stepG_region_end | s_reg | s_op)
  s_c stepG_ret'
  s_stop
  refine LoneTo.done ⟨.returned (.bool true), _, rfl, ⟨rfl, ht.1, ht.2⟩, rfl, rfl, rfl, rfl, _, Try.func35, by simp [results, Try.f35, Frame.at]⟩
set_option maxRecDepth 100000 in
theorem take_no (h : Wn w c wd k) (hlt : wd ≤ k) : Calls Try.prog 35 #[.chan (some c)] w fun e w' => e = .returned (.bool false) ∧ w' = w := by
  obtain ⟨s, r, hch⟩ := h
  have hr : wd ≤ (List.replicate k (Value.agg #[])).toArray.size := by simpa using hlt
  clear hlt
  generalize (List.replicate k (Value.agg #[])).toArray = buf at *
  refine calls_of_loneTo fun cs => ?_
  have e : Frame.enter Try.prog 35 #[.chan (some c)] .normal = (base 35).at ⟨#[.chan (some c), undef, undef, undef, undef, undef, undef, undef], []⟩ [.code (Try.f35.body.getD .skip)] := by
    simp [Frame.enter, Frame.at, Try.func35, base, Try.f35]
    try rfl
  rw [e]
  refine LoneTo.goes (n := 40) ?_
  simp only [Try.f35, Option.getD_some]
  repeat (first | s_c stepG_seq | s_c stepG_region_end | s_reg | s_op)
  s_stop
  refine LoneTo.step (step_lone_select_send_full (c := c) (v := .agg #[]) (z' := .agg #[]) (cap := wd) (buf := buf) (s := s) (r := r) (tm := false) (stepG_comm (cases := #[scase c (.agg #[]) (.agg #[])]) (blocking := false) (shape := .select) (w' := w) rfl rfl (by decide) (by simp [go_sem, execOp, scase, Act.eval])) hch hr) ?_
  rw [Frame.finish_at]
  walk_nrm
  refine LoneTo.goes (n := 40) ?_
  repeat (first | s_op | s_c stepG_region_end | s_c stepG_block)
  s_cond false
  repeat (first | s_c stepG_seq | s_c stepG_region_end | s_reg | s_op)
  s_c stepG_ret'
  s_stop
  refine LoneTo.done ⟨.returned (.bool false), _, rfl, ⟨rfl, rfl⟩, rfl, rfl, rfl, rfl, _, Try.func35, by simp [results, Try.f35, Frame.at]⟩
set_option maxRecDepth 100000 in
theorem free_0 (h : Wn w c wd (k)) : Calls Try.prog 39 #[.chan (some c), .int .i64 0] w fun e w' => e = .returned (.tuple #[]) ∧ Wn w' c wd k ∧ Ch (fun x => x = c) w w' := by
  refine calls_of_loneTo fun cs => ?_
  have e : Frame.enter Try.prog 39 #[.chan (some c), .int .i64 0] .normal = (base 39).at ⟨#[.chan (some c), .int .i64 0, undef, undef, undef, undef, undef, undef, undef, undef], []⟩ [.code (Try.f39.body.getD .skip)] := by
    simp [Frame.enter, Frame.at, Try.func39, base, Try.f39]
    try rfl
  rw [e]
  have hC := Ch.refl (fun x => x = c) w
  clear e
  refine LoneTo.goes (n := 60) ?_
  simp only [Try.f39, Option.getD_some]
  s_c stepG_seq
  s_reg
  s_op
  s_op
  s_c stepG_region_end
  s_c stepG_block
  s_c stepG_loop
  s_c stepG_seq
  s_reg
  s_op
  s_c stepG_region_end
  s_c stepG_seq
  s_cond false
  s_exit
  s_c stepG_end
  s_stop
  refine LoneTo.done ⟨.returned (.tuple #[]), _, rfl, ⟨rfl, h, hC⟩, rfl, rfl, rfl, rfl, _, Try.func39, by simp [results, Try.f39, Frame.at]⟩
set_option maxRecDepth 100000 in
theorem free_1 (h : Wn w c wd (1 + k)) : Calls Try.prog 39 #[.chan (some c), .int .i64 1] w fun e w' => e = .returned (.tuple #[]) ∧ Wn w' c wd k ∧ Ch (fun x => x = c) w w' := by
  refine calls_of_loneTo fun cs => ?_
  have e : Frame.enter Try.prog 39 #[.chan (some c), .int .i64 1] .normal = (base 39).at ⟨#[.chan (some c), .int .i64 1, undef, undef, undef, undef, undef, undef, undef, undef], []⟩ [.code (Try.f39.body.getD .skip)] := by
    simp [Frame.enter, Frame.at, Try.func39, base, Try.f39]
    try rfl
  rw [e]
  have hC := Ch.refl (fun x => x = c) w
  clear e
  refine LoneTo.goes (n := 60) ?_
  simp only [Try.f39, Option.getD_some]
  s_c stepG_seq
  s_reg
  s_op
  s_op
  s_c stepG_region_end
  s_c stepG_block
  s_c stepG_loop
  s_c stepG_seq
  s_reg
  s_op
  s_c stepG_region_end
  s_c stepG_seq
  s_cond true
  s_c stepG_skip
  s_c stepG_seq
  s_c stepG_block
  s_reg
  s_op
  s_stop
  obtain ⟨s, r, hch⟩ := h
  have ht := Wn.turned (k' := k) (s := s) (r := r + 1) (buf := (List.replicate (1 + k) (Value.agg #[])).toArray.extract 1 (List.replicate (1 + k) (Value.agg #[])).toArray.size) ⟨s, r, hch⟩ (by simp <;> omega)
  have hr : 0 < (List.replicate (1 + k) (Value.agg #[])).toArray.size := by simp <;> omega
  refine LoneTo.step (step_lone_recv_buf false (c := c) (z := .agg #[]) (cap := wd) (closed := false) (s := s) (r := r) (tm := false) (stepG_comm (cases := #[rcase c (.agg #[])]) (blocking := true) (shape := .recv false) (w' := w) rfl rfl (by decide) (by simp [go_sem, execOp, rcase, Act.eval])) hch hr) ?_
  have h := ht.1
  have hC := hC.trans ht.2 (fun _ _ e => e)
  clear hch hr ht
  rw [Frame.finish_at]
  walk_nrm
  generalize World.setChan _ _ _ _ _ _ _ _ = w1 at *
  refine LoneTo.goes (n := 60) ?_
  s_c stepG_region_end
  s_c stepG_inBlock
  s_reg
  s_op
  s_op
  s_c stepG_region_end
  s_c stepG_inLoop
  s_c stepG_seq
  s_reg
  s_op
  s_c stepG_region_end
  s_c stepG_seq
  s_cond false
  s_exit
  s_c stepG_end
  s_stop
  refine LoneTo.done ⟨.returned (.tuple #[]), _, rfl, ⟨rfl, h, hC⟩, rfl, rfl, rfl, rfl, _, Try.func39, by simp [results, Try.f39, Frame.at]⟩
set_option maxRecDepth 100000 in
theorem free_2 (h : Wn w c wd (2 + k)) : Calls Try.prog 39 #[.chan (some c), .int .i64 2] w fun e w' => e = .returned (.tuple #[]) ∧ Wn w' c wd k ∧ Ch (fun x => x = c) w w' := by
  refine calls_of_loneTo fun cs => ?_
  have e : Frame.enter Try.prog 39 #[.chan (some c), .int .i64 2] .normal = (base 39).at ⟨#[.chan (some c), .int .i64 2, undef, undef, undef, undef, undef, undef, undef, undef], []⟩ [.code (Try.f39.body.getD .skip)] := by
    simp [Frame.enter, Frame.at, Try.func39, base, Try.f39]
    try rfl
  rw [e]
  have hC := Ch.refl (fun x => x = c) w
  clear e
  refine LoneTo.goes (n := 60) ?_
  simp only [Try.f39, Option.getD_some]
  s_c stepG_seq
  s_reg
  s_op
  s_op
  s_c stepG_region_end
  s_c stepG_block
  s_c stepG_loop
  s_c stepG_seq
  s_reg
  s_op
  s_c stepG_region_end
  s_c stepG_seq
  s_cond true
  s_c stepG_skip
  s_c stepG_seq
  s_c stepG_block
  s_reg
  s_op
  s_stop
  obtain ⟨s, r, hch⟩ := h
  have ht := Wn.turned (k' := 1 + k) (s := s) (r := r + 1) (buf := (List.replicate (2 + k) (Value.agg #[])).toArray.extract 1 (List.replicate (2 + k) (Value.agg #[])).toArray.size) ⟨s, r, hch⟩ (by simp <;> omega)
  have hr : 0 < (List.replicate (2 + k) (Value.agg #[])).toArray.size := by simp <;> omega
  refine LoneTo.step (step_lone_recv_buf false (c := c) (z := .agg #[]) (cap := wd) (closed := false) (s := s) (r := r) (tm := false) (stepG_comm (cases := #[rcase c (.agg #[])]) (blocking := true) (shape := .recv false) (w' := w) rfl rfl (by decide) (by simp [go_sem, execOp, rcase, Act.eval])) hch hr) ?_
  have h := ht.1
  have hC := hC.trans ht.2 (fun _ _ e => e)
  clear hch hr ht
  rw [Frame.finish_at]
  walk_nrm
  generalize World.setChan _ _ _ _ _ _ _ _ = w1 at *
  refine LoneTo.goes (n := 60) ?_
  s_c stepG_region_end
  s_c stepG_inBlock
  s_reg
  s_op
  s_op
  s_c stepG_region_end
  s_c stepG_inLoop
  s_c stepG_seq
  s_reg
  s_op
  s_c stepG_region_end
  s_c stepG_seq
  s_cond true
  s_c stepG_skip
  s_c stepG_seq
  s_c stepG_block
  s_reg
  s_op
  s_stop
  obtain ⟨s, r, hch⟩ := h
  have ht := Wn.turned (k' := k) (s := s) (r := r + 1) (buf := (List.replicate (1 + k) (Value.agg #[])).toArray.extract 1 (List.replicate (1 + k) (Value.agg #[])).toArray.size) ⟨s, r, hch⟩ (by simp <;> omega)
  have hr : 0 < (List.replicate (1 + k) (Value.agg #[])).toArray.size := by simp <;> omega
  refine LoneTo.step (step_lone_recv_buf false (c := c) (z := .agg #[]) (cap := wd) (closed := false) (s := s) (r := r) (tm := false) (stepG_comm (cases := #[rcase c (.agg #[])]) (blocking := true) (shape := .recv false) (w' := w1) rfl rfl (by decide) (by simp [go_sem, execOp, rcase, Act.eval])) hch hr) ?_
  have h := ht.1
  have hC := hC.trans ht.2 (fun _ _ e => e)
  clear hch hr ht
  rw [Frame.finish_at]
  walk_nrm
  generalize World.setChan _ _ _ _ _ _ _ _ = w2 at *
  refine LoneTo.goes (n := 60) ?_
  s_c stepG_region_end
  s_c stepG_inBlock
  s_reg
  s_op
  s_op
  s_c stepG_region_end
  s_c stepG_inLoop
  s_c stepG_seq
  s_reg
  s_op
  s_c stepG_region_end
  s_c stepG_seq
  s_cond false
  s_exit
  s_c stepG_end
  s_stop
  refine LoneTo.done ⟨.returned (.tuple #[]), _, rfl, ⟨rfl, h, hC⟩, rfl, rfl, rfl, rfl, _, Try.func39, by simp [results, Try.f39, Frame.at]⟩
set_option maxRecDepth 100000 in
theorem free_3 (h : Wn w c wd (3 + k)) : Calls Try.prog 39 #[.chan (some c), .int .i64 3] w fun e w' => e = .returned (.tuple #[]) ∧ Wn w' c wd k ∧ Ch (fun x => x = c) w w' := by
  refine calls_of_loneTo fun cs => ?_
  have e : Frame.enter Try.prog 39 #[.chan (some c), .int .i64 3] .normal = (base 39).at ⟨#[.chan (some c), .int .i64 3, undef, undef, undef, undef, undef, undef, undef, undef], []⟩ [.code (Try.f39.body.getD .skip)] := by
    simp [Frame.enter, Frame.at, Try.func39, base, Try.f39]
    try rfl
  rw [e]
  have hC := Ch.refl (fun x => x = c) w
  clear e
  refine LoneTo.goes (n := 60) ?_
  simp only [Try.f39, Option.getD_some]
  s_c stepG_seq
  s_reg
  s_op
  s_op
  s_c stepG_region_end
  s_c stepG_block
  s_c stepG_loop
  s_c stepG_seq
  s_reg
  s_op
  s_c stepG_region_end
  s_c stepG_seq
  s_cond true
  s_c stepG_skip
  s_c stepG_seq
  s_c stepG_block
  s_reg
  s_op
  s_stop
  obtain ⟨s, r, hch⟩ := h
  have ht := Wn.turned (k' := 2 + k) (s := s) (r := r + 1) (buf := (List.replicate (3 + k) (Value.agg #[])).toArray.extract 1 (List.replicate (3 + k) (Value.agg #[])).toArray.size) ⟨s, r, hch⟩ (by simp <;> omega)
  have hr : 0 < (List.replicate (3 + k) (Value.agg #[])).toArray.size := by simp <;> omega
  refine LoneTo.step (step_lone_recv_buf false (c := c) (z := .agg #[]) (cap := wd) (closed := false) (s := s) (r := r) (tm := false) (stepG_comm (cases := #[rcase c (.agg #[])]) (blocking := true) (shape := .recv false) (w' := w) rfl rfl (by decide) (by simp [go_sem, execOp, rcase, Act.eval])) hch hr) ?_
  have h := ht.1
  have hC := hC.trans ht.2 (fun _ _ e => e)
  clear hch hr ht
  rw [Frame.finish_at]
  walk_nrm
  generalize World.setChan _ _ _ _ _ _ _ _ = w1 at *
  refine LoneTo.goes (n := 60) ?_
  s_c stepG_region_end
  s_c stepG_inBlock
  s_reg
  s_op
  s_op
  s_c stepG_region_end
  s_c stepG_inLoop
  s_c stepG_seq
  s_reg
  s_op
  s_c stepG_region_end
  s_c stepG_seq
  s_cond true
  s_c stepG_skip
  s_c stepG_seq
  s_c stepG_block
  s_reg
  s_op
  s_stop
  obtain ⟨s, r, hch⟩ := h
  have ht := Wn.turned (k' := 1 + k) (s := s) (r := r + 1) (buf := (List.replicate (2 + k) (Value.agg #[])).toArray.extract 1 (List.replicate (2 + k) (Value.agg #[])).toArray.size) ⟨s, r, hch⟩ (by simp <;> omega)
  have hr : 0 < (List.replicate (2 + k) (Value.agg #[])).toArray.size := by simp <;> omega
  refine LoneTo.step (step_lone_recv_buf false (c := c) (z := .agg #[]) (cap := wd) (closed := false) (s := s) (r := r) (tm := false) (stepG_comm (cases := #[rcase c (.agg #[])]) (blocking := true) (shape := .recv false) (w' := w1) rfl rfl (by decide) (by simp [go_sem, execOp, rcase, Act.eval])) hch hr) ?_
  have h := ht.1
  have hC := hC.trans ht.2 (fun _ _ e => e)
  clear hch hr ht
  rw [Frame.finish_at]
  walk_nrm
  generalize World.setChan _ _ _ _ _ _ _ _ = w2 at *
  refine LoneTo.goes (n := 60) ?_
  s_c stepG_region_end
  s_c stepG_inBlock
  s_reg
  s_op
  s_op
  s_c stepG_region_end
  s_c stepG_inLoop
  s_c stepG_seq
  s_reg
  s_op
  s_c stepG_region_end
  s_c stepG_seq
  s_cond true
  s_c stepG_skip
  s_c stepG_seq
  s_c stepG_block
  s_reg
  s_op
  s_stop
  obtain ⟨s, r, hch⟩ := h
  have ht := Wn.turned (k' := k) (s := s) (r := r + 1) (buf := (List.replicate (1 + k) (Value.agg #[])).toArray.extract 1 (List.replicate (1 + k) (Value.agg #[])).toArray.size) ⟨s, r, hch⟩ (by simp <;> omega)
  have hr : 0 < (List.replicate (1 + k) (Value.agg #[])).toArray.size := by simp <;> omega
  refine LoneTo.step (step_lone_recv_buf false (c := c) (z := .agg #[]) (cap := wd) (closed := false) (s := s) (r := r) (tm := false) (stepG_comm (cases := #[rcase c (.agg #[])]) (blocking := true) (shape := .recv false) (w' := w2) rfl rfl (by decide) (by simp [go_sem, execOp, rcase, Act.eval])) hch hr) ?_
  have h := ht.1
  have hC := hC.trans ht.2 (fun _ _ e => e)
  clear hch hr ht
  rw [Frame.finish_at]
  walk_nrm
  generalize World.setChan _ _ _ _ _ _ _ _ = w3 at *
  refine LoneTo.goes (n := 60) ?_
  s_c stepG_region_end
  s_c stepG_inBlock
  s_reg
  s_op
  s_op
  s_c stepG_region_end
  s_c stepG_inLoop
  s_c stepG_seq
  s_reg
  s_op
  s_c stepG_region_end
  s_c stepG_seq
  s_cond false
  s_exit
  s_c stepG_end
  s_stop
  refine LoneTo.done ⟨.returned (.tuple #[]), _, rfl, ⟨rfl, h, hC⟩, rfl, rfl, rfl, rfl, _, Try.func39, by simp [results, Try.f39, Frame.at]⟩
set_option maxRecDepth 100000 in
theorem free_4 (h : Wn w c wd (4 + k)) : Calls Try.prog 39 #[.chan (some c), .int .i64 4] w fun e w' => e = .returned (.tuple #[]) ∧ Wn w' c wd k ∧ Ch (fun x => x = c) w w' := by
  refine calls_of_loneTo fun cs => ?_
  have e : Frame.enter Try.prog 39 #[.chan (some c), .int .i64 4] .normal = (base 39).at ⟨#[.chan (some c), .int .i64 4, undef, undef, undef, undef, undef, undef, undef, undef], []⟩ [.code (Try.f39.body.getD .skip)] := by
    simp [Frame.enter, Frame.at, Try.func39, base, Try.f39]
    try rfl
  rw [e]
  have hC := Ch.refl (fun x => x = c) w
  clear e
  refine LoneTo.goes (n := 60) ?_
  simp only [Try.f39, Option.getD_some]
  s_c stepG_seq
  s_reg
  s_op
  s_op
  s_c stepG_region_end
  s_c stepG_block
  s_c stepG_loop
  s_c stepG_seq
  s_reg
  s_op
  s_c stepG_region_end
  s_c stepG_seq
  s_cond true
  s_c stepG_skip
  s_c stepG_seq
  s_c stepG_block
  s_reg
  s_op
  s_stop
  obtain ⟨s, r, hch⟩ := h
  have ht := Wn.turned (k' := 3 + k) (s := s) (r := r + 1) (buf := (List.replicate (4 + k) (Value.agg #[])).toArray.extract 1 (List.replicate (4 + k) (Value.agg #[])).toArray.size) ⟨s, r, hch⟩ (by simp <;> omega)
  have hr : 0 < (List.replicate (4 + k) (Value.agg #[])).toArray.size := by simp <;> omega
  refine LoneTo.step (step_lone_recv_buf false (c := c) (z := .agg #[]) (cap := wd) (closed := false) (s := s) (r := r) (tm := false) (stepG_comm (cases := #[rcase c (.agg #[])]) (blocking := true) (shape := .recv false) (w' := w) rfl rfl (by decide) (by simp [go_sem, execOp, rcase, Act.eval])) hch hr) ?_
  have h := ht.1
  have hC := hC.trans ht.2 (fun _ _ e => e)
  clear hch hr ht
  rw [Frame.finish_at]
  walk_nrm
  generalize World.setChan _ _ _ _ _ _ _ _ = w1 at *
  refine LoneTo.goes (n := 60) ?_
  s_c stepG_region_end
  s_c stepG_inBlock
  s_reg
  s_op
  s_op
  s_c stepG_region_end
  s_c stepG_inLoop
  s_c stepG_seq
  s_reg
  s_op
  s_c stepG_region_end
  s_c stepG_seq
  s_cond true
  s_c stepG_skip
  s_c stepG_seq
  s_c stepG_block
  s_reg
  s_op
  s_stop
  obtain ⟨s, r, hch⟩ := h
  have ht := Wn.turned (k' := 2 + k) (s := s) (r := r + 1) (buf := (List.replicate (3 + k) (Value.agg #[])).toArray.extract 1 (List.replicate (3 + k) (Value.agg #[])).toArray.size) ⟨s, r, hch⟩ (by simp <;> omega)
  have hr : 0 < (List.replicate (3 + k) (Value.agg #[])).toArray.size := by simp <;> omega
  refine LoneTo.step (step_lone_recv_buf false (c := c) (z := .agg #[]) (cap := wd) (closed := false) (s := s) (r := r) (tm := false) (stepG_comm (cases := #[rcase c (.agg #[])]) (blocking := true) (shape := .recv false) (w' := w1) rfl rfl (by decide) (by simp [go_sem, execOp, rcase, Act.eval])) hch hr) ?_
  have h := ht.1
  have hC := hC.trans ht.2 (fun _ _ e => e)
  clear hch hr ht
  rw [Frame.finish_at]
  walk_nrm
  generalize World.setChan _ _ _ _ _ _ _ _ = w2 at *
  refine LoneTo.goes (n := 60) ?_
  s_c stepG_region_end
  s_c stepG_inBlock
  s_reg
  s_op
  s_op
  s_c stepG_region_end
  s_c stepG_inLoop
  s_c stepG_seq
  s_reg
  s_op
  s_c stepG_region_end
  s_c stepG_seq
  s_cond true
  s_c stepG_skip
  s_c stepG_seq
  s_c stepG_block
  s_reg
  s_op
  s_stop
  obtain ⟨s, r, hch⟩ := h
  have ht := Wn.turned (k' := 1 + k) (s := s) (r := r + 1) (buf := (List.replicate (2 + k) (Value.agg #[])).toArray.extract 1 (List.replicate (2 + k) (Value.agg #[])).toArray.size) ⟨s, r, hch⟩ (by simp <;> omega)
  have hr : 0 < (List.replicate (2 + k) (Value.agg #[])).toArray.size := by simp <;> omega
  refine LoneTo.step (step_lone_recv_buf false (c := c) (z := .agg #[]) (cap := wd) (closed := false) (s := s) (r := r) (tm := false) (stepG_comm (cases := #[rcase c (.agg #[])]) (blocking := true) (shape := .recv false) (w' := w2) rfl rfl (by decide) (by simp [go_sem, execOp, rcase, Act.eval])) hch hr) ?_
  have h := ht.1
  have hC := hC.trans ht.2 (fun _ _ e => e)
  clear hch hr ht
  rw [Frame.finish_at]
  walk_nrm
  generalize World.setChan _ _ _ _ _ _ _ _ = w3 at *
  refine LoneTo.goes (n := 60) ?_
  s_c stepG_region_end
  s_c stepG_inBlock
  s_reg
  s_op
  s_op
  s_c stepG_region_end
  s_c stepG_inLoop
  s_c stepG_seq
  s_reg
  s_op
  s_c stepG_region_end
  s_c stepG_seq
  s_cond true
  s_c stepG_skip
  s_c stepG_seq
  s_c stepG_block
  s_reg
  s_op
  s_stop
  obtain ⟨s, r, hch⟩ := h
  have ht := Wn.turned (k' := k) (s := s) (r := r + 1) (buf := (List.replicate (1 + k) (Value.agg #[])).toArray.extract 1 (List.replicate (1 + k) (Value.agg #[])).toArray.size) ⟨s, r, hch⟩ (by simp <;> omega)
  have hr : 0 < (List.replicate (1 + k) (Value.agg #[])).toArray.size := by simp <;> omega
  refine LoneTo.step (step_lone_recv_buf false (c := c) (z := .agg #[]) (cap := wd) (closed := false) (s := s) (r := r) (tm := false) (stepG_comm (cases := #[rcase c (.agg #[])]) (blocking := true) (shape := .recv false) (w' := w3) rfl rfl (by decide) (by simp [go_sem, execOp, rcase, Act.eval])) hch hr) ?_
  have h := ht.1
  have hC := hC.trans ht.2 (fun _ _ e => e)
  clear hch hr ht
  rw [Frame.finish_at]
  walk_nrm
  generalize World.setChan _ _ _ _ _ _ _ _ = w4 at *
  refine LoneTo.goes (n := 60) ?_
  s_c stepG_region_end
  s_c stepG_inBlock
  s_reg
  s_op
  s_op
  s_c stepG_region_end
  s_c stepG_inLoop
  s_c stepG_seq
  s_reg
  s_op
  s_c stepG_region_end
  s_c stepG_seq
  s_cond false
  s_exit
  s_c stepG_end
  s_stop
  refine LoneTo.done ⟨.returned (.tuple #[]), _, rfl, ⟨rfl, h, hC⟩, rfl, rfl, rfl, rfl, _, Try.func39, by simp [results, Try.f39, Frame.at]⟩
end
end Go.Proofs.Ytkpjnikbcgngbaa.Oct
