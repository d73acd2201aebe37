/- Messages that wait in a row, wherever in its block; rows of items; a sender's own blocks. -/
import Derived.Test.YtkpjnikbcgngbaaLanE
import Derived.Test.YtkpjnikbcgngbaaSerA
import Derived.ArgAppend
namespace Go.Proofs.Ytkpjnikbcgngbaa.Oct
open Go.RowKit
set_option linter.unusedVariables false
set_option linter.unusedSimpArgs false
theorem vals_one (fs : List FrV) : ∀ u ∈ fs.map FrV.val, u.oneCell' = true := by
  intro u hu
  obtain ⟨z, _, rfl⟩ := List.mem_map.1 hu
  rfl
theorem piece_set {α : Type} {cs : List α} {off n : Nat} (h : off + n ≤ cs.length) (news : List α) {rest : List α} : ((cs.take (off + n) ++ news ++ rest).drop off).take (n + news.length) = (cs.drop off).take n ++ news := by
  have e : (cs.take (off + n)).drop off = (cs.drop off).take n := by rw [List.drop_take]; congr 1; omega
  rw [List.append_assoc, List.drop_append_of_le_length (by simp; omega), e, ← List.append_assoc]
  exact List.take_left' (by simp; omega)
/-- The slice (A, n, c) holds the frames fs, in a block of frames. -/
structure Qf (w : World) (A : Option Addr) (n c : Nat) (fs : List FrV) : Prop where
  len : fs.length = n
  le : n ≤ c
  cap : c ≤ maxLen
  nil : A = none → c = 0
  ex : ∀ a, A = some a → ∃ g off cs, a = ⟨g, off, none⟩ ∧ Vb 30 w g cs ∧ off + c ≤ cs.length ∧ (cs.drop off).take n = fs.map FrV.val
section
variable {w w' : World} {n c : Nat} {A : Option Addr} {fs : List FrV} {S : Nat → Prop}
theorem Qf.nil0 (w : World) : Qf w none 0 0 [] := ⟨rfl, Nat.le_refl _, Nat.zero_le _, fun _ => rfl, fun a h => by simp at h⟩
theorem Qf.stay (h : Qf w A n c fs) (hc : Ch S w w') (hs : ∀ k, (Value.slice A n c).ownBlock = some k → ¬ S k) : Qf w' A n c fs :=
  ⟨h.len, h.le, h.cap, h.nil, fun a ha => by
    obtain ⟨g, off, cs, e, hg, hz, hj⟩ := h.ex a ha
    exact ⟨g, off, cs, e, (hc.block g hg.lt (hs g (by rw [ha, e]; rfl))).trans hg, hz, hj⟩⟩
theorem Qf.below (h : Qf w A n c fs) (hb : Below w.heap.size w w') : Qf w' A n c fs := h.stay (S := fun _ => False) (.of_below hb) (fun _ _ e => e)
theorem Qf.at_ (h : Qf w A n c fs) : ∀ k, (Value.slice A n c).ownBlock = some k → k < w.heap.size ∧ ∃ cs, Vb 30 w k cs := by
  intro k hk
  rcases A with _ | a
  · simp [Value.ownBlock] at hk
  · obtain ⟨g, off, cs, e, hg, hz, hj⟩ := h.ex a rfl
    subst e
    simp [Value.ownBlock] at hk
    subst hk
    exact ⟨hg.lt, cs, hg⟩
theorem Qf.max (h : Qf w A n c fs) : (n : Int) ≤ 9223372036854775807 ∧ (c : Int) ≤ 9223372036854775807 := by have := h.le; have := h.cap; unfold maxLen at this; omega
/-- One of them. -/
theorem Qf.cell (h : Qf w A n c fs) {j : Nat} {f : FrV} (hj : fs[j]? = some f) : ∃ g off, A = some ⟨g, off, none⟩ ∧ w.cell? ⟨g, off + j, none⟩ = some f.val := by
  have hlt := (List.getElem?_eq_some_iff.1 hj).1
  rcases A with _ | a
  · have := h.nil rfl; have := h.le; have := h.len; omega
  · obtain ⟨g, off, cs, e, hg, hz, hq⟩ := h.ex a rfl
    subst e
    refine ⟨g, off, rfl, hg.cell _ ?_⟩
    have h2 : ((cs.drop off).take n)[j]? = (fs.map FrV.val)[j]? := by rw [hq]
    rw [List.getElem?_take, if_pos (by have := h.len; omega), List.getElem?_drop, List.getElem?_map, hj] at h2
    exact h2
theorem Qf.of_orw {base : Nat} (h : Orw w base (.slice A n c) n fs) : Qf w A n c fs := by
  obtain ⟨A', c', e, h1, h2, h3, h4⟩ := h.form
  injection e with e1 e2 e3
  subst e1 e3
  refine ⟨h.len, h1, h2, h3, fun a ha => ?_⟩
  rcases h.2 with ⟨hv, _⟩ | ⟨g, cap, cur, hv, hbg, hg, hnc, hcm, hcs, htake⟩
  · injection hv with hA _ _
    rw [hA] at ha
    simp at ha
  · injection hv with hA _ hcap
    subst hA hcap
    refine ⟨g, 0, cur.toList, by simpa using ha.symm, by simpa [Vb] using hg, by simp; omega, ?_⟩
    rw [List.drop_zero]
    simpa using htake
/-- Frames are stored over a piece of a block. -/
theorem store_vb {T : TypeId} {g o : Nat} {cs news : List Value} (hv : Vb T w g cs) (hl : o + news.length ≤ cs.length) (h1 : ∀ u ∈ news, u.oneCell' = true) :
    ∃ w', (storeCells ⟨g, o, none⟩ news).run Try.prog w = .ok () w' ∧ Vb T w' g (cs.take o ++ news ++ cs.drop (o + news.length)) ∧ Ch (fun k => k = g) w w' := by
  have hrun := run_storeCells_at Try.prog g o T news 0 cs.toArray w hv (by simpa using hl) h1
  simp only [Nat.add_zero] at hrun
  refine ⟨_, hrun, ?_, .of_grown (setRow_grown _ _ _)⟩
  refine setRow_vb (cs := cs) hv ?_
  simp
  omega
/-- append of one frame, as an equation. -/
theorem Qf.push (h : Qf w A n c fs) (ty : TypeId) {g2 : Nat} {f : FrV} (hr : w.cell? ⟨g2, 0, none⟩ = some f.val) (hn : n ≤ 1000) :
    ∃ A' c' w', (Builtin.append_ #[51, 51] ty #[.slice A n c, .slice (some ⟨g2, 0, none⟩) 1 1]).run Try.prog w = .ok (.slice A' (n + 1) c') w' ∧ Qf w' A' (n + 1) c' (fs ++ [f]) ∧ Ch (fun k => (Value.slice A n c).ownBlock = some k) w w' ∧ ((Value.slice A' (n + 1) c').ownBlock = (Value.slice A n c).ownBlock ∨ ∀ k, (Value.slice A' (n + 1) c').ownBlock = some k → w.heap.size ≤ k) := by
  obtain ⟨i0, hi, hz0, hz1, hz2⟩ := info_parts info_sl8
  have hcell : ∀ j u, ([f].map FrV.val)[j]? = some u → w.cell? ((⟨g2, 0, none⟩ : Addr).add j) = some u := by
    intro j u hu
    have hj : j < 1 := by have := (List.getElem?_eq_some_iff.1 hu).1; simpa using this
    obtain rfl : j = 0 := by omega
    rw [add_addr, hr]
    simpa using hu
  have grown : ∀ {v' : Value} {w' : World}, w'.ownsRow w.heap.size 30 1 v' (n + 1) (fs.map FrV.val ++ [f].map FrV.val) → ∃ A' c', v' = .slice A' (n + 1) c' ∧ Qf w' A' (n + 1) c' (fs ++ [f]) ∧ ∀ k, (Value.slice A' (n + 1) c').ownBlock = some k → w.heap.size ≤ k := by
    intro v' w' ho
    have ho2 : Orw w' w.heap.size v' (n + 1) (fs ++ [f]) := by unfold Orw; rw [List.map_append]; exact ho
    obtain ⟨A', c', e, _⟩ := ho2.form
    subst e
    exact ⟨A', c', rfl, Qf.of_orw ho2, fun k hk => (ho2.lt k hk).1⟩
  rcases A with _ | a
  · obtain rfl := h.nil rfl
    obtain rfl : n = 0 := by have := h.le; omega
    obtain rfl := List.eq_nil_of_length_eq_zero h.len
    obtain ⟨v', w', hrun, h2, h3, _, h5⟩ := run_append_own_at (P := Try.prog) w w.heap.size 51 ty 30 i0 _ 1 24 Try.underlying51 hi hz0 hz1 hz2 rfl (by omega) (.slice none 0 0) 0 [] (World.ownsRow_nil w _ _ 1) ⟨g2, 0, none⟩ 1 1 ([f].map FrV.val) rfl hcell (vals_one _) (by unfold maxLen; omega) (by omega) (Nat.le_refl _)
    rw [Nat.zero_add] at h2
    obtain ⟨A', c', rfl, h6, h7⟩ := grown h2
    exact ⟨A', c', w', hrun, h6, .of_grownv h3, .inr h7⟩
  · obtain ⟨g, off, cs, e, hg, hz, hj⟩ := h.ex a rfl
    subst e
    by_cases hroom : n + 1 ≤ c
    · obtain ⟨w', hst, hv, hc⟩ := store_vb (o := off + n) (news := [f].map FrV.val) hg (by simp; omega) (vals_one _)
      have hf := run_firstCells_some (P := Try.prog) w 1 1 ⟨g2, 0, none⟩ 1 1 ([f].map FrV.val) (by simp) hcell
      refine ⟨some ⟨g, off, none⟩, c, w', ?_, ⟨by simp [h.len], hroom, h.cap, fun e => by simp at e, fun a ha => ⟨g, off, _, by simpa using ha.symm, hv, by simp; omega, ?_⟩⟩, hc.mono (fun x _ e => by simpa [Value.ownBlock] using e.symm), .inl rfl⟩
      · have hf' : (Builtin.firstCells 1 1 (.slice (some ⟨g2, 0, none⟩) 1 1)).run Try.prog w = .ok #[f.val] w := hf
        have hst' : (storeCells ⟨g, off + n, none⟩ [f.val]).run Try.prog w = .ok () w' := hst
        simp [Builtin.append_, run_underlying Try.underlying51, sizeOf, typeInfo, hi, hz1, Builtin.lenOf, hroom, hf', Addr.add_lit, hst']
      · rw [List.map_append, ← hj]
        exact piece_set (by omega) ([f].map FrV.val)
    · obtain ⟨v', w', hrun, h2, h3⟩ := run_append_arg_grows (P := Try.prog) w 51 ty 30 i0 _ 1 24 Try.underlying51 hi hz0 hz1 hz2 rfl (by omega) ⟨g, off, none⟩ n c (fs.map FrV.val) (by simp [h.len]) (fun j u hu => by
          rw [List.getElem?_map] at hu
          obtain ⟨y, hy, rfl⟩ := Option.map_eq_some_iff.1 hu
          obtain ⟨g3, o3, e3, h0⟩ := h.cell hy
          have e3 := Option.some.inj e3
          rw [add_addr]
          injection e3 with e4 e5
          rw [e4, e5]
          exact h0)
        ⟨g2, 0, none⟩ 1 1 ([f].map FrV.val) rfl hcell (by omega) (by unfold maxLen; omega) (by omega)
      obtain ⟨A', c', rfl, h6, h7⟩ := grown h2
      exact ⟨A', c', w', hrun, h6, ⟨h3.os, h3.tape, h3.output, h3.size, fun k hk _ => h3.block k hk (by simp)⟩, .inr h7⟩
/-- What is behind the first k. -/
theorem Qf.cut (h : Qf w A n c fs) (k : Nat) (hk : k ≤ n) : ∀ g off, A = some ⟨g, off, none⟩ → (k < c → Qf w (some ⟨g, off + k, none⟩) (n - k) (c - k) (fs.drop k)) ∧ (k = c → Qf w (some ⟨g, off, none⟩) 0 0 (fs.drop k)) := by
  intro g off hA
  have hl := h.len
  have hle := h.le
  obtain ⟨g', off', cs, e, hg, hz, hj⟩ := h.ex _ hA
  injection e with e1 e2
  subst e1 e2
  refine ⟨fun hkc => ⟨by simp; omega, by omega, by have := h.cap; omega, fun e => by simp at e, fun a ha => ⟨g, off + k, cs, by simpa using ha.symm, hg, by omega, ?_⟩⟩, fun hkc => ?_⟩
  · rw [List.map_drop, ← hj, ← List.drop_drop, List.drop_take]
  · have e : fs.drop k = [] := List.drop_eq_nil_of_le (by omega)
    rw [e]
    exact ⟨rfl, Nat.le_refl _, Nat.zero_le _, fun e => by simp at e, fun a ha => ⟨g, off, cs, by simpa using ha.symm, hg, by omega, by simp⟩⟩
end
theorem piece_pre {α : Type} {cs : List α} {off m : Nat} (h : off + m ≤ cs.length) {x : List α} : ((cs.take (off + m) ++ x).drop off).take m = (cs.drop off).take m := by
  have e : (cs.take (off + m)).drop off = (cs.drop off).take m := by rw [List.drop_take]; congr 1; omega
  rw [List.drop_append_of_le_length (by simp; omega), e, List.take_append_of_le_length (by simp; omega), List.take_take, Nat.min_self]
theorem zeros_sl (k : Nat) : (Builtin.zeroCells (Value.slice none 0 0).cells k).toList = List.replicate k (Value.slice none 0 0) := by
  apply List.ext_getElem?
  intro j
  have hs : (Value.slice none 0 0).cells = #[Value.slice none 0 0] := rfl
  rw [hs]
  by_cases hj : j < k
  · simp [Builtin.zeroCells, hj, Nat.mod_one]
  · simp [Builtin.zeroCells, hj]
theorem wpList_clear_F (w : World) {ops : Array Oper} {rest : List Oper} {o : Oper} {a : Act} {Q : Exit → Act → World → Prop} (hgd : o.guard = none) (d : Operand) (t : TypeId)
    (ho : o.op = .call { callee := .builtin .clear, args := #[d], argTypes := #[t] }) (v : Value) (hd : a.eval d = v) {v' : Value} {w' : World}
    (hr : (Builtin.clear_ #[t] o.type #[v]).run Try.prog w = .ok v' w') (h : wpList Try.prog ops Q rest (a.put o.dst v') w') : wpList Try.prog ops Q (o :: rest) a w :=
  wpList_plain hgd fun K hK => by
    unfold Oper.wp execOp
    simp only [ho, resolve, invoke, builtin, Sem.run_bind, Sem.run_pure, Result.andThen_ok, List.map_toArray, List.map_cons, List.map_nil, hd, hr]
    exact hK _ _ h
theorem step_append_F {ops : Array Oper} {o : Oper} {a : Act} {w : World} {K : Act → World → Prop} {Q : Exit → Act → World → Prop} {E : Prop}
    (hg : o.guard = none) (d x : Operand) (dT sT : TypeId) (hop : o.op = Op.call { callee := Callee.builtin Builtin.append, args := #[d, x], argTypes := #[dT, sT] })
    (v u : Value) (hd : a.eval d = v) (hx : a.eval x = u) {v' : Value} {w' : World} (hr : (Builtin.append_ #[dT, sT] o.type #[v, u]).run Try.prog w = .ok v' w') (hK : K (a.put o.dst v') w') :
    if Region.wanted o (yielded ops a.tmps) = true then Oper.wp Try.prog o a w K Q else E := by
  have hw : Region.wanted o (yielded ops a.tmps) = true := by simp [Region.wanted, hg]
  rw [if_pos hw]
  unfold Oper.wp
  simp [execOp, hop, resolve, invoke, builtin, hd, hx, hr, Result.andThen]
  exact hK
section
variable {w w' : World} {n c : Nat} {A : Option Addr} {fs : List FrV}
/-- The first k go: what append and clear make of the block. -/
theorem Qf.dels {g off : Nat} (h : Qf w (some ⟨g, off, none⟩) n c fs) (k : Nat) (hk : 0 < k) (hkn : k ≤ n) (sc o : Nat) (hs : k < c → o = off + k ∧ sc = c - k) (ty ty2 : TypeId) :
    ∃ w1 w2, (Builtin.append_ #[51, 51] ty #[.slice (some ⟨g, off, none⟩) 0 c, .slice (some ⟨g, o, none⟩) (n - k) sc]).run Try.prog w = .ok (.slice (some ⟨g, off, none⟩) (n - k) c) w1 ∧
      (Builtin.clear_ #[51] ty2 #[.slice (some ⟨g, off + (n - k), none⟩) k (c - (n - k))]).run Try.prog w1 = .ok (.tuple #[]) w2 ∧ Qf w2 (some ⟨g, off, none⟩) (n - k) c (fs.drop k) ∧ Ch (fun x => x = g) w w2 := by
  obtain ⟨i0, hi, hz0, hz1, hz2⟩ := info_parts info_sl8
  have hlen := h.len
  have hle := h.le
  obtain ⟨g', off', cs, e, hg, hz, hj⟩ := h.ex _ rfl
  injection e with e1 e2
  subst e1 e2
  have hlv : ((fs.drop k).map FrV.val).length = n - k := by simp; omega
  obtain ⟨w1, hst, hv1, hc1⟩ := store_vb (o := off) (news := (fs.drop k).map FrV.val) hg (by rw [hlv]; omega) (vals_one _)
  rw [hlv] at hv1
  have hl1 : (cs.take off ++ (fs.drop k).map FrV.val ++ cs.drop (off + (n - k))).length = cs.length := by rw [List.length_append, List.length_append, hlv]; simp; omega
  obtain ⟨w2, hst2, hv2, hc2⟩ := store_vb (o := off + (n - k)) (news := List.replicate k (Value.slice none 0 0)) hv1 (by rw [hl1]; simp; omega) (fun u hu => by rw [(List.mem_replicate.1 hu).2]; rfl)
  have hf : (Builtin.firstCells 1 (n - k) (.slice (some ⟨g, o, none⟩) (n - k) sc)).run Try.prog w = .ok ((fs.drop k).map FrV.val).toArray w := by
    refine run_firstCells_some (P := Try.prog) w 1 (n - k) ⟨g, o, none⟩ (n - k) sc _ (by rw [hlv]; omega) (fun j v hjv => ?_)
    rw [List.getElem?_map] at hjv
    obtain ⟨f, hf, rfl⟩ := Option.map_eq_some_iff.1 hjv
    have hjl := (List.getElem?_eq_some_iff.1 hf).1
    simp at hjl
    rw [List.getElem?_drop] at hf
    obtain ⟨g3, o3, e3, h0⟩ := h.cell hf
    have e3 := Option.some.inj e3
    injection e3 with e4 e5
    rw [add_addr, (hs (by omega)).1, e4, e5, Nat.add_assoc]
    exact h0
  refine ⟨w1, w2, ?_, ?_, ⟨by simp; omega, by omega, h.cap, fun e => by simp at e, fun a ha => ⟨g, off, _, by simpa using ha.symm, hv2, ?_, ?_⟩⟩, hc1.trans hc2 (fun _ _ e => e)⟩
  · have hroom : n - k ≤ c := by omega
    clear hl1 hlv hv1 hst2 hv2
    generalize (fs.drop k).map FrV.val = news at *
    simp [Builtin.append_, run_underlying Try.underlying51, sizeOf, typeInfo, hi, hz1, Builtin.lenOf, hroom, hf, Addr.add_lit, hst]
  · obtain ⟨k, rfl⟩ : ∃ k', k = k' + 1 := ⟨k - 1, by omega⟩
    simp [Builtin.clear_, run_underlying Try.underlying51, zeroValue, typeInfo, hi, hz0, zeros_sl, hst2]
  · rw [List.length_append, List.length_append, List.length_take, List.length_drop, hl1]; simp; omega
  · rw [List.append_assoc, piece_pre (by rw [hl1]; omega)]
    have := piece_set (cs := cs) (off := off) (n := 0) (by omega) ((fs.drop k).map FrV.val) (rest := cs.drop (off + (n - k)))
    rw [hlv] at this
    simpa using this
end
end Go.Proofs.Ytkpjnikbcgngbaa.Oct
