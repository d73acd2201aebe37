/- Contracts of layer 11 (lane): a frame is sent, if there is room, and received, if there is one. -/
import Derived.Test.YtcolklkjaifplaaLanA
import Derived.KernelRfl
namespace Go.Proofs.Ytcolklkjaifplaa.Oct
open Go.Conc Go.RowKit
set_option linter.unusedVariables false
section
variable {w : World} {l c room : Nat} {fs : List FrV}
set_option maxRecDepth 100000 in
theorem send_yes (h : Lp w l c room fs) (f : FrV) (hlt : fs.length < room) : Calls Try.prog 69 #[.pointer (some ⟨l, 0, none⟩), f.val] w fun e w' => e = .returned (.bool true) ∧ Lp w' l c room (fs ++ [f]) ∧ Ch (fun k => k = c) w w' := by
  have c0 := h.own.cell 0 rfl
  obtain ⟨s, r, hch⟩ := h.ch
  have ht := h.turned (gs := fs ++ [f]) (s := s + 1) (r := r) (buf := (fs.map FrV.val).toArray.push f.val) (by simp) (by simp; omega)
  have hr : (fs.map FrV.val).toArray.size < room := by simpa using hlt
  clear h hlt
  generalize f.val = v at *
  generalize (fs.map FrV.val).toArray = buf at *
  refine calls_of_loneTo fun cs => ?_
  have e : Frame.enter Try.prog 69 #[.pointer (some ⟨l, 0, none⟩), v] .normal = (base 69).at ⟨#[.pointer (some ⟨l, 0, none⟩), v, undef, undef, undef, undef, undef, undef, undef, undef, undef, undef, undef], []⟩ [.code (Try.f69.body.getD .skip)] := by
    simp [Frame.enter, Frame.at, Try.func69, base, Try.f69]
    try rfl
  rw [e]
  refine LoneTo.goes (n := 40) ?_
  simp only [Try.f69, Option.getD_some]
  repeat (first | s_c stepG_seq | s_c stepG_region_end | s_reg | s_op)
  s_stop
  refine LoneTo.step (step_lone_select_send_room (c := c) (v := v) (z' := .slice none 0 0) (cap := room) (buf := buf) (s := s) (r := r) (tm := false) (stepG_comm (cases := #[scase c v (.slice none 0 0)]) (blocking := false) (shape := .select) (w' := w) rfl rfl (by decide) (by simp [go_sem, execOp, scase, Act.eval])) hch hr) ?_
  rw [Frame.finish_at]
  walk_nrm
  refine LoneTo.goes (n := 40) ?_
  repeat (first | s_op | s_c stepG_region_end | s_c stepG_block)
  s_cond true
  repeat (first | s_c stepG_seq | s_c stepG_region_end | s_reg | s_op)
  s_c stepG_ret'
  s_stop
  refine LoneTo.done ⟨.returned (.bool true), _, rfl, ⟨rfl, ht.1, ht.2⟩, rfl, rfl, rfl, rfl, _, Try.func69, by simp [results, Try.f69, Frame.at]⟩
set_option maxRecDepth 100000 in
theorem send_no (h : Lp w l c room fs) (v : Value) (hlt : room ≤ fs.length) : Calls Try.prog 69 #[.pointer (some ⟨l, 0, none⟩), v] w fun e w' => e = .returned (.bool false) ∧ w' = w := by
  have c0 := h.own.cell 0 rfl
  obtain ⟨s, r, hch⟩ := h.ch
  have hr : room ≤ (fs.map FrV.val).toArray.size := by simpa using hlt
  clear h hlt
  generalize (fs.map FrV.val).toArray = buf at *
  refine calls_of_loneTo fun cs => ?_
  have e : Frame.enter Try.prog 69 #[.pointer (some ⟨l, 0, none⟩), v] .normal = (base 69).at ⟨#[.pointer (some ⟨l, 0, none⟩), v, undef, undef, undef, undef, undef, undef, undef, undef, undef, undef, undef], []⟩ [.code (Try.f69.body.getD .skip)] := by
    simp [Frame.enter, Frame.at, Try.func69, base, Try.f69]
    try rfl
  rw [e]
  refine LoneTo.goes (n := 40) ?_
  simp only [Try.f69, Option.getD_some]
  repeat (first | s_c stepG_seq | s_c stepG_region_end | s_reg | s_op)
  s_stop
  refine LoneTo.step (step_lone_select_send_full (c := c) (v := v) (z' := .slice none 0 0) (cap := room) (buf := buf) (s := s) (r := r) (tm := false) (stepG_comm (cases := #[scase c v (.slice none 0 0)]) (blocking := false) (shape := .select) (w' := w) rfl rfl (by decide) (by simp [go_sem, execOp, scase, Act.eval])) hch hr) ?_
  rw [Frame.finish_at]
  walk_nrm
  refine LoneTo.goes (n := 40) ?_
  repeat (first | s_op | s_c stepG_region_end | s_c stepG_block)
  s_cond false
  repeat (first | s_c stepG_seq | s_c stepG_region_end | s_reg | s_op)
  s_c stepG_ret'
  s_stop
  refine LoneTo.done ⟨.returned (.bool false), _, rfl, ⟨rfl, rfl⟩, rfl, rfl, rfl, rfl, _, Try.func69, by simp [results, Try.f69, Frame.at]⟩
set_option maxRecDepth 100000 in
theorem recv_some {f : FrV} (h : Lp w l c room (f :: fs)) : Calls Try.prog 71 #[.pointer (some ⟨l, 0, none⟩)] w fun e w' => e = .returned (.tuple #[f.val, .bool true]) ∧ Lp w' l c room fs ∧ Ch (fun k => k = c) w w' := by
  have c0 := h.own.cell 0 rfl
  obtain ⟨s, r, hch⟩ := h.ch
  have ht := h.turned (gs := fs) (s := s) (r := r + 1) (buf := ((f :: fs).map FrV.val).toArray.extract 1 ((f :: fs).map FrV.val).toArray.size) (by simp; exact List.take_of_length_le (by simp)) (by have := h.fit.1; simp at this; omega)
  have hz : ((f :: fs).map FrV.val).toArray.getD 0 undef = f.val := by simp
  have hr : 0 < ((f :: fs).map FrV.val).toArray.size := by simp
  clear h
  generalize f.val = v at *
  generalize ((f :: fs).map FrV.val).toArray = buf at *
  refine calls_of_loneTo fun cs => ?_
  have e : Frame.enter Try.prog 71 #[.pointer (some ⟨l, 0, none⟩)] .normal = (base 71).at ⟨#[.pointer (some ⟨l, 0, none⟩), undef, undef, undef, undef, undef, undef, undef, undef, undef, undef, undef, undef, undef], []⟩ [.code (Try.f71.body.getD .skip)] := by
    simp [Frame.enter, Frame.at, Try.func71, base, Try.f71]
    try rfl
  rw [e]
  refine LoneTo.goes (n := 40) ?_
  simp only [Try.f71, Option.getD_some]
  repeat (first | s_c stepG_seq | s_c stepG_region_end | s_reg | s_op)
  s_stop
  refine LoneTo.step (step_lone_select_recv_buf (c := c) (z := .slice none 0 0) (cap := room) (buf := buf) (closed := false) (s := s) (r := r) (tm := false) (stepG_comm (cases := #[rcase c (.slice none 0 0)]) (blocking := false) (shape := .select) (w' := w) rfl rfl (by decide) (by simp [go_sem, execOp, rcase, Act.eval])) hch hr) ?_
  rw [hz]
  rw [Frame.finish_at]
  walk_nrm
  refine LoneTo.goes (n := 40) ?_
  repeat (first | s_op | s_c stepG_region_end | s_c stepG_block)
  s_cond true
  repeat (first | s_c stepG_seq | s_c stepG_region_end | s_reg | s_op)
  s_c stepG_ret'
  s_stop
  refine LoneTo.done ⟨.returned (.tuple #[v, .bool true]), _, rfl, ⟨rfl, ht.1, ht.2⟩, rfl, rfl, rfl, rfl, _, Try.func71, by simp [results, Try.f71, Frame.at]⟩
set_option maxRecDepth 100000 in
theorem recv_none (h : Lp w l c room []) : Calls Try.prog 71 #[.pointer (some ⟨l, 0, none⟩)] w fun e w' => e = .returned (.tuple #[.slice none 0 0, .bool false]) ∧ w' = w := by
  have c0 := h.own.cell 0 rfl
  obtain ⟨s, r, hch⟩ := h.ch
  have hch : w.heap[c]? = some (.chan room #[] false s r false) := hch
  clear h
  refine calls_of_loneTo fun cs => ?_
  have e : Frame.enter Try.prog 71 #[.pointer (some ⟨l, 0, none⟩)] .normal = (base 71).at ⟨#[.pointer (some ⟨l, 0, none⟩), undef, undef, undef, undef, undef, undef, undef, undef, undef, undef, undef, undef, undef], []⟩ [.code (Try.f71.body.getD .skip)] := by
    simp [Frame.enter, Frame.at, Try.func71, base, Try.f71]
    try rfl
  rw [e]
  refine LoneTo.goes (n := 40) ?_
  simp only [Try.f71, Option.getD_some]
  repeat (first | s_c stepG_seq | s_c stepG_region_end | s_reg | s_op)
  s_stop
  refine LoneTo.step (step_lone_select_default (c := c) (z := .slice none 0 0) (cap := room) (s := s) (r := r) (tm := false) (stepG_comm (cases := #[rcase c (.slice none 0 0)]) (blocking := false) (shape := .select) (w' := w) rfl rfl (by decide) (by simp [go_sem, execOp, rcase, Act.eval])) hch) ?_
  rw [Frame.finish_at]
  walk_nrm
  refine LoneTo.goes (n := 40) ?_
  repeat (first | s_op | s_c stepG_region_end | s_c stepG_block)
  s_cond false
  repeat (first | s_c stepG_seq | s_c stepG_region_end | s_reg | s_op)
  s_c stepG_ret'
  s_stop
  refine LoneTo.done ⟨.returned (.tuple #[.slice none 0 0, .bool false]), _, rfl, ⟨rfl, rfl⟩, rfl, rfl, rfl, rfl, _, Try.func71, by simp [results, Try.f71, Frame.at]⟩
end
end Go.Proofs.Ytcolklkjaifplaa.Oct
