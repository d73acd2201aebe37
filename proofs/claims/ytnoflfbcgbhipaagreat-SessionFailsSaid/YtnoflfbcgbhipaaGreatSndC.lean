import Derived.Test.YtnoflfbcgbhipaaGreatLanE
import Derived.Test.YtnoflfbcgbhipaaGreatSerA
import Derived.ArgAppend
import Derived.KernelRfl
set_option linter.unusedSimpArgs false
set_option linter.unusedVariables false
set_option maxRecDepth 100000
namespace Go.Proofs.YtnoflfbcgbhipaaGreat.Oct
open Go.RowKit
set_option maxRecDepth 100000
theorem vals_one (fs : List FrV) : ∀ u ∈ fs.map FrV.val, u.oneCell' = true := by
 intro u hu
 obtain ⟨z, _, rfl⟩ := List.mem_map.1 hu
 rfl
theorem piece_set {α : Type} {cs : List α} {off n : Nat} (h : off + n ≤ cs.length) (news : List α) {rest : List α} : ((cs.take (off + n) ++ news ++ rest).drop off).take (n + news.length) = (cs.drop off).take n ++ news := by
 have e : (cs.take (off + n)).drop off = (cs.drop off).take n := by rw [List.drop_take]; congr 1; omega
 rw [List.append_assoc, List.drop_append_of_le_length (by simp; omega), e, ← List.append_assoc]
 exact List.take_left' (by simp; omega)
structure Qf (w : World) (A : Option Addr) (n c : Nat) (fs : List FrV) : Prop where
 len : fs.length = n
 le : n ≤ c
 cap : c ≤ maxLen
 nil : A = none → c = 0
 ex : ∀ a, A = some a → ∃ g off cs, a = ⟨g, off, none⟩ ∧ Vb 52 w g cs ∧ off + c ≤ cs.length ∧ (cs.drop off).take n = fs.map FrV.val
section
variable {w w' : World} {n c : Nat} {A : Option Addr} {fs : List FrV} {S : Nat → Prop}
theorem Qf.nil0 (w : World) : Qf w none 0 0 [] := ⟨rfl, Nat.le_refl _, Nat.zero_le _, fun _ => rfl, fun a h => by simp at h⟩
theorem Qf.stay (h : Qf w A n c fs) (hc : Ch S w w') (hs : ∀ k, (Value.slice A n c).ownBlock = some k → ¬ S k) : Qf w' A n c fs :=
 ⟨h.len, h.le, h.cap, h.nil, fun a ha => by
  obtain ⟨g, off, cs, e, hg, hz, hj⟩ := h.ex a ha
  exact ⟨g, off, cs, e, (hc.block g hg.lt (hs g (by rw [ha, e]; rfl))).trans hg, hz, hj⟩⟩
theorem Qf.below (h : Qf w A n c fs) (hb : Below w.heap.size w w') : Qf w' A n c fs := h.stay (S := fun _ => False) (.of_below hb) (fun _ _ e => e)
theorem Qf.at_ (h : Qf w A n c fs) : ∀ k, (Value.slice A n c).ownBlock = some k → k < w.heap.size ∧ ∃ cs, Vb 52 w k cs := by
 intro k hk
 rcases A with _ | a
 ·simp [Value.ownBlock] at hk
 ·obtain ⟨g, off, cs, e, hg, hz, hj⟩ := h.ex a rfl
  subst e
  simp [Value.ownBlock] at hk
  subst hk
  exact ⟨hg.lt, cs, hg⟩
theorem Qf.max (h : Qf w A n c fs) : (n : Int) ≤ 9223372036854775807 ∧ (c : Int) ≤ 9223372036854775807 := by have := h.le; have := h.cap; unfold maxLen at this; omega
theorem Qf.cell (h : Qf w A n c fs) {j : Nat} {f : FrV} (hj : fs[j]? = some f) : ∃ g off, A = some ⟨g, off, none⟩ ∧ w.cell? ⟨g, off + j, none⟩ = some f.val := by
 have hlt := (List.getElem?_eq_some_iff.1 hj).1
 rcases A with _ | a
 ·have := h.nil rfl; have := h.le; have := h.len; omega
 ·obtain ⟨g, off, cs, e, hg, hz, hq⟩ := h.ex a rfl
  subst e
  refine ⟨g, off, rfl, hg.cell _ ?_⟩
  have h2 : ((cs.drop off).take n)[j]? = (fs.map FrV.val)[j]? := by rw [hq]
  rw [List.getElem?_take, if_pos (by have := h.len; omega), List.getElem?_drop, List.getElem?_map, hj] at h2
  exact h2
theorem Qf.of_orw {base : Nat} (h : Orw w base (.slice A n c) n fs) : Qf w A n c fs := by
 obtain ⟨A', c', e, h1, h2, h3, h4⟩ := h.form
 injection e with e1 e2 e3
 subst e1 e3
 refine ⟨h.len, h1, h2, h3, fun a ha => ?_⟩
 rcases h.2 with ⟨hv, _⟩ | ⟨g, cap, cur, hv, hbg, hg, hnc, hcm, hcs, htake⟩
 ·injection hv with hA _ _
  rw [hA] at ha
  simp at ha
 ·injection hv with hA _ hcap
  subst hA hcap
  refine ⟨g, 0, cur.toList, by simpa using ha.symm, by simpa [Vb] using hg, by simp; omega, ?_⟩
  rw [List.drop_zero]
  simpa using htake
theorem store_vb {T : TypeId} {g o : Nat} {cs news : List Value} (hv : Vb T w g cs) (hl : o + news.length ≤ cs.length) (h1 : ∀ u ∈ news, u.oneCell' = true) :
  ∃ w', (storeCells ⟨g, o, none⟩ news).run Tryz.prog w = .ok () w' ∧ Vb T w' g (cs.take o ++ news ++ cs.drop (o + news.length)) ∧ Ch (fun k => k = g) w w' := by
 have hrun := run_storeCells_at Tryz.prog g o T news 0 cs.toArray w hv (by simpa using hl) h1
 simp only [Nat.add_zero] at hrun
 refine ⟨_, hrun, ?_, .of_grown (setRow_grown _ _ _)⟩
 refine setRow_vb (cs := cs) hv ?_
 simp
 omega
theorem Qf.push (h : Qf w A n c fs) (ty : TypeId) {g2 : Nat} {f : FrV} (hr : w.cell? ⟨g2, 0, none⟩ = some f.val) (hn : n ≤ 1000) :
  ∃ A' c' w', (Builtin.append_ #[145, 145] ty #[.slice A n c, .slice (some ⟨g2, 0, none⟩) 1 1]).run Tryz.prog w = .ok (.slice A' (n + 1) c') w' ∧ Qf w' A' (n + 1) c' (fs ++ [f]) ∧ Ch (fun k => (Value.slice A n c).ownBlock = some k) w w' ∧ ((Value.slice A' (n + 1) c').ownBlock = (Value.slice A n c).ownBlock ∨ ∀ k, (Value.slice A' (n + 1) c').ownBlock = some k → w.heap.size ≤ k) := by
 obtain ⟨i0, hi, hz0, hz1, hz2⟩ := info_parts info_sl8
 have hcell : ∀ j u, ([f].map FrV.val)[j]? = some u → w.cell? ((⟨g2, 0, none⟩ : Addr).add j) = some u := by
  intro j u hu
  have hj : j < 1 := by have := (List.getElem?_eq_some_iff.1 hu).1; simpa using this
  obtain rfl : j = 0 := by omega
  rw [add_addr, hr]
  simpa using hu
 have grown : ∀ {v' : Value} {w' : World}, w'.ownsRow w.heap.size 52 1 v' (n + 1) (fs.map FrV.val ++ [f].map FrV.val) → ∃ A' c', v' = .slice A' (n + 1) c' ∧ Qf w' A' (n + 1) c' (fs ++ [f]) ∧ ∀ k, (Value.slice A' (n + 1) c').ownBlock = some k → w.heap.size ≤ k := by
  intro v' w' ho
  have ho2 : Orw w' w.heap.size v' (n + 1) (fs ++ [f]) := by unfold Orw; rw [List.map_append]; exact ho
  obtain ⟨A', c', e, _⟩ := ho2.form
  subst e
  exact ⟨A', c', rfl, Qf.of_orw ho2, fun k hk => (ho2.lt k hk).1⟩
 rcases A with _ | a
 ·obtain rfl := h.nil rfl
  obtain rfl : n = 0 := by have := h.le; omega
  obtain rfl := List.eq_nil_of_length_eq_zero h.len
  obtain ⟨v', w', hrun, h2, h3, _, h5⟩ := run_append_own_at (P := Tryz.prog) w w.heap.size 145 ty 52 i0 _ 1 24 Tryz.underlying145 hi hz0 hz1 hz2 rfl (by omega) (.slice none 0 0) 0 [] (World.ownsRow_nil w _ _ 1) ⟨g2, 0, none⟩ 1 1 ([f].map FrV.val) rfl hcell (vals_one _) (by unfold maxLen; omega) (by omega) (Nat.le_refl _)
  rw [Nat.zero_add] at h2
  obtain ⟨A', c', rfl, h6, h7⟩ := grown h2
  exact ⟨A', c', w', hrun, h6, .of_grownv h3, .inr h7⟩
 ·obtain ⟨g, off, cs, e, hg, hz, hj⟩ := h.ex a rfl
  subst e
  by_cases hroom : n + 1 ≤ c
  ·obtain ⟨w', hst, hv, hc⟩ := store_vb (o := off + n) (news := [f].map FrV.val) hg (by simp; omega) (vals_one _)
   have hf := run_firstCells_some (P := Tryz.prog) w 1 1 ⟨g2, 0, none⟩ 1 1 ([f].map FrV.val) (by simp) hcell
   refine ⟨some ⟨g, off, none⟩, c, w', ?_, ⟨by simp [h.len], hroom, h.cap, fun e => by simp at e, fun a ha => ⟨g, off, _, by simpa using ha.symm, hv, by simp; omega, ?_⟩⟩, hc.mono (fun x _ e => by simpa [Value.ownBlock] using e.symm), .inl rfl⟩
   ·have hf' : (Builtin.firstCells 1 1 (.slice (some ⟨g2, 0, none⟩) 1 1)).run Tryz.prog w = .ok #[f.val] w := hf
    have hst' : (storeCells ⟨g, off + n, none⟩ [f.val]).run Tryz.prog w = .ok () w' := hst
    simp [Builtin.append_, run_underlying Tryz.underlying145, sizeOf, typeInfo, hi, hz1, Builtin.lenOf, hroom, hf', Addr.add_lit, hst']
   ·rw [List.map_append, ← hj]
    exact piece_set (by omega) ([f].map FrV.val)
  ·obtain ⟨v', w', hrun, h2, h3⟩ := run_append_arg_grows (P := Tryz.prog) w 145 ty 52 i0 _ 1 24 Tryz.underlying145 hi hz0 hz1 hz2 rfl (by omega) ⟨g, off, none⟩ n c (fs.map FrV.val) (by simp [h.len]) (fun j u hu => by
     rw [List.getElem?_map] at hu
     obtain ⟨y, hy, rfl⟩ := Option.map_eq_some_iff.1 hu
     obtain ⟨g3, o3, e3, h0⟩ := h.cell hy
     have e3 := Option.some.inj e3
     rw [add_addr]
     injection e3 with e4 e5
     rw [e4, e5]
     exact h0)
    ⟨g2, 0, none⟩ 1 1 ([f].map FrV.val) rfl hcell (by omega) (by unfold maxLen; omega) (by omega)
   obtain ⟨A', c', rfl, h6, h7⟩ := grown h2
   exact ⟨A', c', w', hrun, h6, ⟨h3.os, h3.tape, h3.output, h3.size, fun k hk _ => h3.block k hk (by simp)⟩, .inr h7⟩
end
theorem piece_pre {α : Type} {cs : List α} {off m : Nat} (h : off + m ≤ cs.length) {x : List α} : ((cs.take (off + m) ++ x).drop off).take m = (cs.drop off).take m := by
 have e : (cs.take (off + m)).drop off = (cs.drop off).take m := by rw [List.drop_take]; congr 1; omega
 rw [List.drop_append_of_le_length (by simp; omega), e, List.take_append_of_le_length (by simp; omega), List.take_take, Nat.min_self]
theorem zeros_sl (k : Nat) : (Builtin.zeroCells (Value.slice none 0 0).cells k).toList = List.replicate k (Value.slice none 0 0) := by
 apply List.ext_getElem?
 intro j
 have hs : (Value.slice none 0 0).cells = #[Value.slice none 0 0] := rfl
 rw [hs]
 by_cases hj : j < k
 ·simp [Builtin.zeroCells, hj, Nat.mod_one]
 ·simp [Builtin.zeroCells, hj]
theorem wpList_clear_F (w : World) {ops : Array Oper} {rest : List Oper} {o : Oper} {a : Act} {Q : Exit → Act → World → Prop} (hgd : o.guard = none) (d : Operand) (t : TypeId)
  (ho : o.op = .call { callee := .builtin .clear, args := #[d], argTypes := #[t] }) (v : Value) (hd : a.eval d = v) {v' : Value} {w' : World}
  (hr : (Builtin.clear_ #[t] o.type #[v]).run Tryz.prog w = .ok v' w') (h : wpList Tryz.prog ops Q rest (a.put o.dst v') w') : wpList Tryz.prog ops Q (o :: rest) a w :=
 wpList_plain hgd fun K hK => by
  unfold Oper.wp execOp
  simp only [ho, resolve, invoke, builtin, Sem.run_bind, Sem.run_pure, Result.andThen_ok, List.map_toArray, List.map_cons, List.map_nil, hd, hr]
  exact hK _ _ h
theorem step_append_F {ops : Array Oper} {o : Oper} {a : Act} {w : World} {K : Act → World → Prop} {Q : Exit → Act → World → Prop} {E : Prop}
  (hg : o.guard = none) (d x : Operand) (dT sT : TypeId) (hop : o.op = Op.call { callee := Callee.builtin Builtin.append, args := #[d, x], argTypes := #[dT, sT] })
  (v u : Value) (hd : a.eval d = v) (hx : a.eval x = u) {v' : Value} {w' : World} (hr : (Builtin.append_ #[dT, sT] o.type #[v, u]).run Tryz.prog w = .ok v' w') (hK : K (a.put o.dst v') w') :
  if Region.wanted o (yielded ops a.tmps) = true then Oper.wp Tryz.prog o a w K Q else E := by
 have hw : Region.wanted o (yielded ops a.tmps) = true := by simp [Region.wanted, hg]
 rw [if_pos hw]
 unfold Oper.wp
 simp [execOp, hop, resolve, invoke, builtin, hd, hx, hr, Result.andThen]
 exact hK
section
variable {w w' : World} {n c : Nat} {A : Option Addr} {fs : List FrV}
theorem Qf.dels {g off : Nat} (h : Qf w (some ⟨g, off, none⟩) n c fs) (k : Nat) (hk : 0 < k) (hkn : k ≤ n) (sc o : Nat) (hs : k < c → o = off + k ∧ sc = c - k) (ty ty2 : TypeId) :
  ∃ w1 w2, (Builtin.append_ #[145, 145] ty #[.slice (some ⟨g, off, none⟩) 0 c, .slice (some ⟨g, o, none⟩) (n - k) sc]).run Tryz.prog w = .ok (.slice (some ⟨g, off, none⟩) (n - k) c) w1 ∧
   (Builtin.clear_ #[145] ty2 #[.slice (some ⟨g, off + (n - k), none⟩) k (c - (n - k))]).run Tryz.prog w1 = .ok (.tuple #[]) w2 ∧ Qf w2 (some ⟨g, off, none⟩) (n - k) c (fs.drop k) ∧ Ch (fun x => x = g) w w2 := by
 obtain ⟨i0, hi, hz0, hz1, hz2⟩ := info_parts info_sl8
 have hlen := h.len
 have hle := h.le
 obtain ⟨g', off', cs, e, hg, hz, hj⟩ := h.ex _ rfl
 injection e with e1 e2
 subst e1 e2
 have hlv : ((fs.drop k).map FrV.val).length = n - k := by simp; omega
 obtain ⟨w1, hst, hv1, hc1⟩ := store_vb (o := off) (news := (fs.drop k).map FrV.val) hg (by rw [hlv]; omega) (vals_one _)
 rw [hlv] at hv1
 have hl1 : (cs.take off ++ (fs.drop k).map FrV.val ++ cs.drop (off + (n - k))).length = cs.length := by rw [List.length_append, List.length_append, hlv]; simp; omega
 obtain ⟨w2, hst2, hv2, hc2⟩ := store_vb (o := off + (n - k)) (news := List.replicate k (Value.slice none 0 0)) hv1 (by rw [hl1]; simp; omega) (fun u hu => by rw [(List.mem_replicate.1 hu).2]; rfl)
 have hf : (Builtin.firstCells 1 (n - k) (.slice (some ⟨g, o, none⟩) (n - k) sc)).run Tryz.prog w = .ok ((fs.drop k).map FrV.val).toArray w := by
  refine run_firstCells_some (P := Tryz.prog) w 1 (n - k) ⟨g, o, none⟩ (n - k) sc _ (by rw [hlv]; omega) (fun j v hjv => ?_)
  rw [List.getElem?_map] at hjv
  obtain ⟨f, hf, rfl⟩ := Option.map_eq_some_iff.1 hjv
  have hjl := (List.getElem?_eq_some_iff.1 hf).1
  simp at hjl
  rw [List.getElem?_drop] at hf
  obtain ⟨g3, o3, e3, h0⟩ := h.cell hf
  have e3 := Option.some.inj e3
  injection e3 with e4 e5
  rw [add_addr, (hs (by omega)).1, e4, e5, Nat.add_assoc]
  exact h0
 refine ⟨w1, w2, ?_, ?_, ⟨by simp; omega, by omega, h.cap, fun e => by simp at e, fun a ha => ⟨g, off, _, by simpa using ha.symm, hv2, ?_, ?_⟩⟩, hc1.trans hc2 (fun _ _ e => e)⟩
 ·have hroom : n - k ≤ c := by omega
  clear hl1 hlv hv1 hst2 hv2
  generalize (fs.drop k).map FrV.val = news at *
  simp [Builtin.append_, run_underlying Tryz.underlying145, sizeOf, typeInfo, hi, hz1, Builtin.lenOf, hroom, hf, Addr.add_lit, hst]
 ·obtain ⟨k, rfl⟩ : ∃ k', k = k' + 1 := ⟨k - 1, by omega⟩
  simp [Builtin.clear_, run_underlying Tryz.underlying145, zeroValue, typeInfo, hi, hz0, zeros_sl, hst2]
 ·rw [List.length_append, List.length_append, List.length_take, List.length_drop, hl1]; simp; omega
 ·rw [List.append_assoc, piece_pre (by rw [hl1]; omega)]
  have := piece_set (cs := cs) (off := off) (n := 0) (by omega) ((fs.drop k).map FrV.val) (rest := cs.drop (off + (n - k)))
  rw [hlv] at this
  simpa using this
end
set_option maxRecDepth 100000
def flatI : List (Int × FrV) → List Value
 | [] => []
 | x :: r => .int .i64 x.1 :: x.2.val :: flatI r
theorem flatI_len : ∀ l, (flatI l).length = l.length * 2
 | [] => rfl
 | x :: r => by simp [flatI, flatI_len r]; omega
theorem flatI_append : ∀ a b, flatI (a ++ b) = flatI a ++ flatI b
 | [], b => rfl
 | x :: r, b => by simp [flatI, flatI_append r b]
theorem flatI_at : ∀ (l : List (Int × FrV)) (j : Nat) (x : Int × FrV), l[j]? = some x → (flatI l)[j * 2]? = some (.int .i64 x.1) ∧ (flatI l)[j * 2 + 1]? = some x.2.val
 | [], j, x, h => by simp at h
 | y :: r, 0, x, h => by simp at h; subst h; exact ⟨rfl, rfl⟩
 | y :: r, j + 1, x, h => by
  have ih := flatI_at r j x (by simpa using h)
  have e : ∀ k, (flatI (y :: r))[(j + 1) * 2 + k]? = (flatI r)[j * 2 + k]? := fun k => by
   rw [show (j + 1) * 2 + k = j * 2 + k + 1 + 1 by omega]; rfl
  exact ⟨(e 0).trans ih.1, (e 1).trans ih.2⟩
theorem flatI_one : ∀ (l : List (Int × FrV)), ∀ u ∈ flatI l, u.oneCell' = true
 | [], u, h => by simp [flatI] at h
 | x :: r, u, h => by
  simp only [flatI, List.mem_cons] at h
  rcases h with rfl | rfl | h
  ·rfl
  ·rfl
  ·exact flatI_one r u h
def Om (w : World) (base : Nat) (v : Value) (n : Nat) (its : List (Int × FrV)) : Prop := w.ownsRow base 203 2 v n (flatI its)
def Im (w : World) (B : Nat) (A : Option Addr) (n c : Nat) (its : List (Int × FrV)) : Prop :=
 its.length = n ∧ n ≤ c ∧ c ≤ maxLen ∧ (A = none → c = 0) ∧ (0 < n → ∃ b off, A = some ⟨b, off, none⟩ ∧ b < B ∧ ∀ (j : Nat) (x : Int × FrV), its[j]? = some x → w.cell? ⟨b, off + j * 2, none⟩ = some (.int .i64 x.1) ∧ w.cell? ⟨b, off + j * 2 + 1, none⟩ = some x.2.val)
theorem info_item : (Tryz.prog.info? 203).map (fun i => (i.zero, i.size, i.bytes)) = some (some (.agg #[.int .i64 0, .slice none 0 0]), 2, 32) := by kernel_rfl
section
variable {w w' : World} {base B n : Nat} {v : Value} {its : List (Int × FrV)}
theorem Om.len (h : Om w base v n its) : its.length = n := by have := h.1; rw [flatI_len] at this; omega
theorem Om.nil0 (w : World) (base : Nat) : Om w base (.slice none 0 0) 0 [] := World.ownsRow_nil w base _ 2
theorem Om.form (h : Om w base v n its) : ∃ A c, v = .slice A n c ∧ n ≤ c ∧ c ≤ maxLen ∧ (A = none → c = 0) ∧ (∀ a, A = some a → ∃ g, a = ⟨g, 0, none⟩ ∧ base ≤ g ∧ g < w.heap.size) := by
 rcases h.2 with ⟨rfl, rfl⟩ | ⟨g, cap, cur, rfl, hbg, hg, hnc, hcm, _⟩
 ·exact ⟨none, 0, rfl, Nat.le_refl _, Nat.zero_le _, fun _ => rfl, fun a h => by simp at h⟩
 ·exact ⟨some ⟨g, 0, none⟩, cap, rfl, hnc, hcm, fun h => by simp at h, fun a h => ⟨g, by simpa using h.symm, hbg, (Array.getElem?_eq_some_iff.1 hg).1⟩⟩
theorem Om.lt (h : Om w base v n its) : ∀ k, v.ownBlock = some k → base ≤ k ∧ k < w.heap.size := World.ownsRow.lt h
theorem Om.typed (h : Om w base v n its) : ∀ k, v.ownBlock = some k → ∃ cur, w.heap[k]? = some (.cells cur 203 (0, 0)) := by
 intro k hk
 rcases h.2 with ⟨rfl, _⟩ | ⟨g, cap, cur, rfl, hbg, hg, _⟩
 ·simp [Value.ownBlock] at hk
 ·simp [Value.ownBlock] at hk
  subst hk
  exact ⟨cur, hg⟩
theorem Om.stay {S : Nat → Prop} (h : Om w base v n its) (hc : Ch S w w') (hs : ∀ k, v.ownBlock = some k → ¬ S k) : Om w' base v n its := by
 refine ⟨h.1, ?_⟩
 rcases h.2 with h2 | ⟨g, cap, cur, e, hbg, hg, r⟩
 ·exact .inl h2
 ·exact .inr ⟨g, cap, cur, e, hbg, (hc.block g (Array.getElem?_eq_some_iff.1 hg).1 (hs g (by rw [e]; rfl))).trans hg, r⟩
theorem Om.below (h : Om w base v n its) (hb : Below w.heap.size w w') : Om w' base v n its := h.stay (S := fun _ => False) (.of_below hb) (fun _ _ e => e)
theorem Om.im {A : Option Addr} {c : Nat} (h : Om w base (.slice A n c) n its) : Im w w.heap.size A n c its := by
 obtain ⟨A', c', e, h1, h2, h3, h4⟩ := h.form
 injection e with e1 e2 e3
 subst e1 e3
 refine ⟨h.len, h1, h2, h3, fun hn => ?_⟩
 obtain ⟨g, cap, hv, _, hlt⟩ := World.ownsRow.form h hn
 injection hv with hA _ _
 subst hA
 refine ⟨g, 0, rfl, hlt, fun j l hj => ?_⟩
 obtain ⟨q1, q2⟩ := flatI_at its j l hj
 have key := fun i u (hu : (flatI its)[i]? = some u) => World.ownsRow.cells h (g := g) rfl i u hu
 simp only [add_addr] at key
 have k1 := key _ _ q1
 have k2 := key _ _ q2
 exact ⟨k1, by rw [show 0 + j * 2 + 1 = 0 + (j * 2 + 1) by omega]; exact k2⟩
theorem Im.len {A : Option Addr} {c : Nat} (h : Im w B A n c its) : its.length = n := h.1
theorem Im.max {A : Option Addr} {c : Nat} (h : Im w B A n c its) : (n : Int) ≤ 9223372036854775807 := by have := h.2.1; have := h.2.2.1; unfold maxLen at this; omega
theorem Im.at_ {A : Option Addr} {c : Nat} (h : Im w B A n c its) (hn : 0 < n) : ∃ b off, A = some ⟨b, off, none⟩ ∧ b < B ∧ ∀ (j : Nat) (x : Int × FrV), its[j]? = some x → w.cell? ⟨b, off + j * 2, none⟩ = some (.int .i64 x.1) ∧ w.cell? ⟨b, off + j * 2 + 1, none⟩ = some x.2.val := h.2.2.2.2 hn
theorem Im.below {A : Option Addr} {c : Nat} (h : Im w B A n c its) (hb : Below B w w') : Im w' B A n c its :=
 ⟨h.1, h.2.1, h.2.2.1, h.2.2.2.1, fun hn => by
  obtain ⟨b, off, e, hlt, hc⟩ := h.at_ hn
  exact ⟨b, off, e, hlt, fun j x hj => ⟨(hb.cell (p := ⟨b, _, none⟩) hlt).trans (hc j x hj).1, (hb.cell (p := ⟨b, _, none⟩) hlt).trans (hc j x hj).2⟩⟩⟩
end
theorem run_appendI {w : World} (ty : TypeId) {base : Nat} {v : Value} {n g2 : Nat} {its : List (Int × FrV)} {x : Int × FrV} (hown : Om w base v n its)
  (h0 : w.cell? ⟨g2, 0, none⟩ = some (.int .i64 x.1)) (h1 : w.cell? ⟨g2, 1, none⟩ = some x.2.val) (hsz : n ≤ 1000000) (hbase : base ≤ w.heap.size) :
  ∃ A' c' w', (Builtin.append_ #[159, 159] ty #[v, .slice (some ⟨g2, 0, none⟩) 1 1]).run Tryz.prog w = .ok (.slice A' (n + 1) c') w' ∧ Om w' base (.slice A' (n + 1) c') (n + 1) (its ++ [x]) ∧ Ch (fun k => v.ownBlock = some k) w w' := by
 obtain ⟨i0, hi, hz0, hz1, hz2⟩ := info_parts info_item
 have hcells : ∀ j u, (flatI [x])[j]? = some u → w.cell? ((⟨g2, 0, none⟩ : Addr).add j) = some u := by
  intro j u hu
  rw [add_addr, Nat.zero_add]
  match j, hu with
  | 0, hu => simp [flatI] at hu; rw [h0, hu]
  | 1, hu => simp [flatI] at hu; rw [h1, hu]
 obtain ⟨v', w', hrun, h2, h3, h4, h5⟩ := run_append_own_at (P := Tryz.prog) w base 159 ty 203 i0 _ 2 32 Tryz.underlying159 hi hz0 hz1 hz2 rfl (by omega) v n _ hown ⟨g2, 0, none⟩ 1 1 (flatI [x]) rfl hcells
  (flatI_one [x]) (by unfold maxLen; omega) (by omega) hbase
 have hown' : Om w' base v' (n + 1) (its ++ [x]) := by unfold Om; rw [flatI_append]; exact h2
 obtain ⟨A', c', e, _⟩ := hown'.form
 subst e
 exact ⟨A', c', w', hrun, hown', .of_grownv h3⟩
theorem items_nocell {w : World} {base n : Nat} {v : Value} {its : List (Int × FrV)} (h : Om w base v n its) : ∀ b cs m t, t ≠ 203 → v.ownBlock = some b → w.heap[b]? ≠ some (.cells cs t m) := by
 intro b cs m t ht hb e
 obtain ⟨cur, h2⟩ := h.typed b hb
 rw [h2] at e
 have e := Option.some.inj e
 injection e with _ e _
 exact ht e.symm
structure Tell (P : Nat → Prop) (w : World) (nx : Int) (i : Nat) (ms : List (List Int)) (its : List (Int × FrV)) : Prop where
 num : ∀ j x, its[j]? = some x → x.1 = Ser.plusP nx (i + j : Nat) ∧ ms[i + j]? = some x.2.l
 fr : ∀ x ∈ its, Fok P w x.2
section
variable {P Q S : Nat → Prop} {w w' : World} {nx : Int} {i : Nat} {ms : List (List Int)} {its : List (Int × FrV)} {x : Int × FrV}
theorem Tell.nil0 (P : Nat → Prop) (w : World) (nx : Int) (i : Nat) (ms : List (List Int)) : Tell P w nx i ms [] := ⟨fun j x h => by simp at h, fun x h => by simp at h⟩
theorem Tell.stay (h : Tell P w nx i ms its) (hc : Ch S w w') (hs : ∀ b cs m, b < w.heap.size → P b → w.heap[b]? = some (.cells cs 5 m) → ¬ S b) : Tell P w' nx i ms its := ⟨h.num, fun x hx => (h.fr x hx).stay hc hs⟩
theorem Tell.below (h : Tell P w nx i ms its) (hb : Below w.heap.size w w') : Tell P w' nx i ms its := ⟨h.num, fun x hx => (h.fr x hx).below hb⟩
theorem Tell.other (h : Tell P w nx i ms its) (hc : Ch S w w') (hs : ∀ b cs m, S b → w.heap[b]? ≠ some (.cells cs 5 m)) : Tell P w' nx i ms its := h.stay hc (fun b cs m _ _ hb e => hs b cs m e hb)
theorem Tell.imp (h : Tell P w nx i ms its) (hq : ∀ b, b < w.heap.size → P b → Q b) : Tell Q w nx i ms its := ⟨h.num, fun x hx => (h.fr x hx).imp hq⟩
theorem Tell.push (h : Tell P w nx i ms its) (h1 : x.1 = Ser.plusP nx (i + its.length : Nat)) (h2 : ms[i + its.length]? = some x.2.l) (h3 : Fok P w x.2) : Tell P w nx i ms (its ++ [x]) := by
 refine ⟨fun j y hj => ?_, fun y hy => ?_⟩
 ·rw [List.getElem?_append] at hj
  split at hj
  ·exact h.num j y hj
  ·have hlt := (List.getElem?_eq_some_iff.1 hj).1
   simp at hlt
   obtain rfl : j = its.length := by omega
   simp at hj
   subst hj
   exact ⟨h1, h2⟩
 ·rcases List.mem_append.1 hy with hy | hy
  ·exact h.fr y hy
  ·rw [List.mem_singleton.1 hy]; exact h3
end
def Wn (w : World) (c wd k : Nat) : Prop := ∃ sd rc, w.heap[c]? = some (.chan wd (List.replicate k (Value.agg #[])).toArray false sd rc false)
theorem Wn.lt {w : World} {c wd k : Nat} (h : Wn w c wd k) : c < w.heap.size := by
 obtain ⟨s, r, h2⟩ := h
 exact (Array.getElem?_eq_some_iff.1 h2).1
theorem Wn.nocell {w : World} {c wd k : Nat} (h : Wn w c wd k) (cs : Array Value) (t : TypeId) (m : Nat × Nat) : w.heap[c]? ≠ some (.cells cs t m) := by
 obtain ⟨s, r, h2⟩ := h
 rw [h2]
 simp
theorem Wn.stay {S : Nat → Prop} {w w' : World} {c wd k : Nat} (h : Wn w c wd k) (hc : Ch S w w') (hs : ¬ S c) : Wn w' c wd k := by
 obtain ⟨s, r, h2⟩ := h
 exact ⟨s, r, (hc.block c (Wn.lt ⟨s, r, h2⟩) hs).trans h2⟩
theorem Wn.turned {w : World} {c wd k k' s r : Nat} {buf : Array Value} (h : Wn w c wd k) (hb : buf = (List.replicate k' (Value.agg #[])).toArray) : Wn (w.setChan c wd buf false s r false) c wd k' ∧ Ch (fun x => x = c) w (w.setChan c wd buf false s r false) := by
 subst hb
 exact ⟨⟨s, r, Go.Conc.heap_setChan _ _ _ _ _ _ _ _ h.lt⟩, ⟨rfl, rfl, rfl, by simp [World.setChan], fun k _ hn => by simp only [World.setChan]; rw [Array.getElem?_setIfInBounds_ne (fun e => hn e.symm)]⟩⟩
structure Sp (P : Nat → Prop) (w : World) (s c wd : Nat) (nx : Int) (said all : Nat) (r : Option Nat) (ms : List (List Int)) : Prop where
 ex : ∃ A m fs, Vb 191 w s [.int .u16 nx, .int .i64 all, .slice A ms.length m, .chan (some c)] ∧ Qf w A ms.length m fs ∧ (Value.slice A ms.length m).ownBlock = r ∧ fs.map FrV.l = ms ∧ Fall P w fs
 ch : Wn w c wd said
 nxb : 0 ≤ nx ∧ nx ≤ 65535
 fit : said ≤ wd ∧ 1 ≤ wd ∧ wd ≤ 4 ∧ said ≤ ms.length ∧ ms.length ≤ 512 ∧ all ≤ 20000
def Kb (s c : Nat) (r : Option Nat) (k : Nat) : Prop := k = s ∨ k = c ∨ r = some k
section
variable {P Q S : Nat → Prop} {w w' : World} {s c wd said all : Nat} {nx : Int} {r : Option Nat} {ms : List (List Int)}
theorem Sp.lt (h : Sp P w s c wd nx said all r ms) : ∀ k, Kb s c r k → k < w.heap.size := by
 obtain ⟨A, m, fs, h1, h2, h3, h4, h5⟩ := h.ex
 rintro k (rfl | rfl | hk)
 ·exact h1.lt
 ·exact h.ch.lt
 ·exact (h2.at_ k (h3.trans hk)).1
theorem Sp.nob (h : Sp P w s c wd nx said all r ms) : ∀ k cs t m, Kb s c r k → t ≠ 191 → t ≠ 52 → w.heap[k]? ≠ some (.cells cs t m) := by
 obtain ⟨A, m, fs, h1, h2, h3, h4, h5⟩ := h.ex
 rintro k cs t mk (rfl | rfl | hk) ht1 ht2 e
 ·have h1 : w.heap[k]? = _ := h1
  rw [h1] at e
  have e := Option.some.inj e
  injection e with _ e _
  exact ht1 e.symm
 ·exact h.ch.nocell _ _ _ e
 ·obtain ⟨_, cs2, hv⟩ := h2.at_ k (h3.trans hk)
  have hv : w.heap[k]? = _ := hv
  rw [hv] at e
  have e := Option.some.inj e
  injection e with _ e _
  exact ht2 e.symm
theorem Sp.apart (h : Sp P w s c wd nx said all r ms) : s ≠ c ∧ r ≠ some s ∧ r ≠ some c := by
 obtain ⟨A, m, fs, h1, h2, h3, h4, h5⟩ := h.ex
 refine ⟨fun e => h.ch.nocell _ _ _ (e ▸ h1), fun e => ?_, fun e => ?_⟩
 ·obtain ⟨_, cs2, hv⟩ := h2.at_ s (h3.trans e)
  exact absurd rfl (vb_ne hv h1 (by decide))
 ·obtain ⟨_, cs2, hv⟩ := h2.at_ c (h3.trans e)
  exact h.ch.nocell _ _ _ hv
theorem Sp.stay (h : Sp P w s c wd nx said all r ms) (hc : Ch S w w') (hk : ∀ k, Kb s c r k → ¬ S k) (hb : ∀ b cs m, b < w.heap.size → P b → w.heap[b]? = some (.cells cs 5 m) → ¬ S b) : Sp P w' s c wd nx said all r ms := by
 obtain ⟨A, m, fs, h1, h2, h3, h4, h5⟩ := h.ex
 exact ⟨⟨A, m, fs, (hc.block s h1.lt (hk s (.inl rfl))).trans h1, h2.stay hc (fun k e => hk k (.inr (.inr (h3.symm.trans e)))), h3, h4, h5.stay hc hb⟩, h.ch.stay hc (hk c (.inr (.inl rfl))), h.nxb, h.fit⟩
theorem Sp.below (h : Sp P w s c wd nx said all r ms) (hb : Below w.heap.size w w') : Sp P w' s c wd nx said all r ms := h.stay (S := fun _ => False) (.of_below hb) (fun _ _ e => e) (fun _ _ _ _ _ _ e => e)
theorem Sp.imp (h : Sp P w s c wd nx said all r ms) (hq : ∀ b, b < w.heap.size → P b → Q b) : Sp Q w s c wd nx said all r ms := by
 obtain ⟨A, m, fs, h1, h2, h3, h4, h5⟩ := h.ex
 exact ⟨⟨A, m, fs, h1, h2, h3, h4, h5.imp hq⟩, h.ch, h.nxb, h.fit⟩
theorem Sp.bytes (h : Sp P w s c wd nx said all r ms) : ∀ b cs m, Kb s c r b → w.heap[b]? ≠ some (.cells cs 5 m) := fun b cs m hk => h.nob b cs _ m hk (by decide) (by decide)
end
open Go.Conc Go.RowKit
set_option maxRecDepth 100000
section
variable {w : World} {c wd k : Nat}
theorem take_yes (h : Wn w c wd k) (hlt : k < wd) : Calls Tryz.prog 150 #[.chan (some c)] w fun e w' => e = .returned (.bool true) ∧ Wn w' c wd (k + 1) ∧ Ch (fun x => x = c) w w' := by
 obtain ⟨s, r, hch⟩ := h
 have hr : (List.replicate k (Value.agg #[])).toArray.size < wd := by simpa using hlt
 have ht := Wn.turned (k' := k + 1) (s := s + 1) (r := r) (buf := (List.replicate k (Value.agg #[])).toArray.push (.agg #[])) ⟨s, r, hch⟩ (by apply Array.ext'; simp [List.replicate_succ'])
 clear hlt
 generalize (List.replicate k (Value.agg #[])).toArray = buf at *
 refine calls_of_loneTo fun cs => ?_
 have e : Frame.enter Tryz.prog 150 #[.chan (some c)] .normal = (base 150).at ⟨#[.chan (some c), undef, undef, undef, undef, undef, undef, undef], []⟩ [.code (Tryz.f150.body.getD .skip)] := by
  simp [Frame.enter, Frame.at, Tryz.func150, base, Tryz.f150]
  try rfl
 rw [e]
 refine LoneTo.goes (n := 40) ?_
 simp only [Tryz.f150, Option.getD_some]
 repeat (first | s_c stepG_seq | s_c stepG_region_end | s_reg | s_op)
 s_stop
 refine LoneTo.step (step_lone_select_send_room (c := c) (v := .agg #[]) (z' := .agg #[]) (cap := wd) (buf := buf) (s := s) (r := r) (tm := false) (stepG_comm (cases := #[scase c (.agg #[]) (.agg #[])]) (blocking := false) (shape := .select) (w' := w) rfl rfl (by decide) (by simp [go_sem, execOp, scase, Act.eval])) hch hr) ?_
 rw [Frame.finish_at]
 walk_nrm
 refine LoneTo.goes (n := 40) ?_
 repeat (first | s_op | s_c stepG_region_end | s_c stepG_block)
 s_cond true
 repeat (first | s_c stepG_seq | s_c stepG_region_end | s_reg | s_op)
 s_c stepG_ret'
 s_stop
 refine LoneTo.done ⟨.returned (.bool true), _, rfl, ⟨rfl, ht.1, ht.2⟩, rfl, rfl, rfl, rfl, _, Tryz.func150, by simp [results, Tryz.f150, Frame.at]⟩
theorem take_no (h : Wn w c wd k) (hlt : wd ≤ k) : Calls Tryz.prog 150 #[.chan (some c)] w fun e w' => e = .returned (.bool false) ∧ w' = w := by
 obtain ⟨s, r, hch⟩ := h
 have hr : wd ≤ (List.replicate k (Value.agg #[])).toArray.size := by simpa using hlt
 clear hlt
 generalize (List.replicate k (Value.agg #[])).toArray = buf at *
 refine calls_of_loneTo fun cs => ?_
 have e : Frame.enter Tryz.prog 150 #[.chan (some c)] .normal = (base 150).at ⟨#[.chan (some c), undef, undef, undef, undef, undef, undef, undef], []⟩ [.code (Tryz.f150.body.getD .skip)] := by
  simp [Frame.enter, Frame.at, Tryz.func150, base, Tryz.f150]
  try rfl
 rw [e]
 refine LoneTo.goes (n := 40) ?_
 simp only [Tryz.f150, Option.getD_some]
 repeat (first | s_c stepG_seq | s_c stepG_region_end | s_reg | s_op)
 s_stop
 refine LoneTo.step (step_lone_select_send_full (c := c) (v := .agg #[]) (z' := .agg #[]) (cap := wd) (buf := buf) (s := s) (r := r) (tm := false) (stepG_comm (cases := #[scase c (.agg #[]) (.agg #[])]) (blocking := false) (shape := .select) (w' := w) rfl rfl (by decide) (by simp [go_sem, execOp, scase, Act.eval])) hch hr) ?_
 rw [Frame.finish_at]
 walk_nrm
 refine LoneTo.goes (n := 40) ?_
 repeat (first | s_op | s_c stepG_region_end | s_c stepG_block)
 s_cond false
 repeat (first | s_c stepG_seq | s_c stepG_region_end | s_reg | s_op)
 s_c stepG_ret'
 s_stop
 refine LoneTo.done ⟨.returned (.bool false), _, rfl, ⟨rfl, rfl⟩, rfl, rfl, rfl, rfl, _, Tryz.func150, by simp [results, Tryz.f150, Frame.at]⟩
theorem free_0 (h : Wn w c wd (k)) : Calls Tryz.prog 205 #[.chan (some c), .int .i64 0] w fun e w' => e = .returned (.tuple #[]) ∧ Wn w' c wd k ∧ Ch (fun x => x = c) w w' := by
 refine calls_of_loneTo fun cs => ?_
 have e : Frame.enter Tryz.prog 205 #[.chan (some c), .int .i64 0] .normal = (base 205).at ⟨#[.chan (some c), .int .i64 0, undef, undef, undef, undef, undef, undef, undef, undef], []⟩ [.code (Tryz.f205.body.getD .skip)] := by
  simp [Frame.enter, Frame.at, Tryz.func205, base, Tryz.f205]
  try rfl
 rw [e]
 have hC := Ch.refl (fun x => x = c) w
 clear e
 refine LoneTo.goes (n := 60) ?_
 simp only [Tryz.f205, Option.getD_some]
 s_c stepG_seq
 s_reg
 s_op
 s_op
 s_c stepG_region_end
 s_c stepG_block
 s_c stepG_loop
 s_c stepG_seq
 s_reg
 s_op
 s_c stepG_region_end
 s_c stepG_seq
 s_cond false
 s_exit
 s_c stepG_end
 s_stop
 refine LoneTo.done ⟨.returned (.tuple #[]), _, rfl, ⟨rfl, h, hC⟩, rfl, rfl, rfl, rfl, _, Tryz.func205, by simp [results, Tryz.f205, Frame.at]⟩
theorem free_1 (h : Wn w c wd (1 + k)) : Calls Tryz.prog 205 #[.chan (some c), .int .i64 1] w fun e w' => e = .returned (.tuple #[]) ∧ Wn w' c wd k ∧ Ch (fun x => x = c) w w' := by
 refine calls_of_loneTo fun cs => ?_
 have e : Frame.enter Tryz.prog 205 #[.chan (some c), .int .i64 1] .normal = (base 205).at ⟨#[.chan (some c), .int .i64 1, undef, undef, undef, undef, undef, undef, undef, undef], []⟩ [.code (Tryz.f205.body.getD .skip)] := by
  simp [Frame.enter, Frame.at, Tryz.func205, base, Tryz.f205]
  try rfl
 rw [e]
 have hC := Ch.refl (fun x => x = c) w
 clear e
 refine LoneTo.goes (n := 60) ?_
 simp only [Tryz.f205, Option.getD_some]
 s_c stepG_seq
 s_reg
 s_op
 s_op
 s_c stepG_region_end
 s_c stepG_block
 s_c stepG_loop
 s_c stepG_seq
 s_reg
 s_op
 s_c stepG_region_end
 s_c stepG_seq
 s_cond true
 s_c stepG_skip
 s_c stepG_seq
 s_c stepG_block
 s_reg
 s_op
 s_stop
 obtain ⟨s, r, hch⟩ := h
 have ht := Wn.turned (k' := k) (s := s) (r := r + 1) (buf := (List.replicate (1 + k) (Value.agg #[])).toArray.extract 1 (List.replicate (1 + k) (Value.agg #[])).toArray.size) ⟨s, r, hch⟩ (by simp <;> omega)
 have hr : 0 < (List.replicate (1 + k) (Value.agg #[])).toArray.size := by simp <;> omega
 refine LoneTo.step (step_lone_recv_buf false (c := c) (z := .agg #[]) (cap := wd) (closed := false) (s := s) (r := r) (tm := false) (stepG_comm (cases := #[rcase c (.agg #[])]) (blocking := true) (shape := .recv false) (w' := w) rfl rfl (by decide) (by simp [go_sem, execOp, rcase, Act.eval])) hch hr) ?_
 have h := ht.1
 have hC := hC.trans ht.2 (fun _ _ e => e)
 clear hch hr ht
 rw [Frame.finish_at]
 walk_nrm
 generalize World.setChan _ _ _ _ _ _ _ _ = w1 at *
 refine LoneTo.goes (n := 60) ?_
 s_c stepG_region_end
 s_c stepG_inBlock
 s_reg
 s_op
 s_op
 s_c stepG_region_end
 s_c stepG_inLoop
 s_c stepG_seq
 s_reg
 s_op
 s_c stepG_region_end
 s_c stepG_seq
 s_cond false
 s_exit
 s_c stepG_end
 s_stop
 refine LoneTo.done ⟨.returned (.tuple #[]), _, rfl, ⟨rfl, h, hC⟩, rfl, rfl, rfl, rfl, _, Tryz.func205, by simp [results, Tryz.f205, Frame.at]⟩
theorem free_2 (h : Wn w c wd (2 + k)) : Calls Tryz.prog 205 #[.chan (some c), .int .i64 2] w fun e w' => e = .returned (.tuple #[]) ∧ Wn w' c wd k ∧ Ch (fun x => x = c) w w' := by
 refine calls_of_loneTo fun cs => ?_
 have e : Frame.enter Tryz.prog 205 #[.chan (some c), .int .i64 2] .normal = (base 205).at ⟨#[.chan (some c), .int .i64 2, undef, undef, undef, undef, undef, undef, undef, undef], []⟩ [.code (Tryz.f205.body.getD .skip)] := by
  simp [Frame.enter, Frame.at, Tryz.func205, base, Tryz.f205]
  try rfl
 rw [e]
 have hC := Ch.refl (fun x => x = c) w
 clear e
 refine LoneTo.goes (n := 60) ?_
 simp only [Tryz.f205, Option.getD_some]
 s_c stepG_seq
 s_reg
 s_op
 s_op
 s_c stepG_region_end
 s_c stepG_block
 s_c stepG_loop
 s_c stepG_seq
 s_reg
 s_op
 s_c stepG_region_end
 s_c stepG_seq
 s_cond true
 s_c stepG_skip
 s_c stepG_seq
 s_c stepG_block
 s_reg
 s_op
 s_stop
 obtain ⟨s, r, hch⟩ := h
 have ht := Wn.turned (k' := 1 + k) (s := s) (r := r + 1) (buf := (List.replicate (2 + k) (Value.agg #[])).toArray.extract 1 (List.replicate (2 + k) (Value.agg #[])).toArray.size) ⟨s, r, hch⟩ (by simp <;> omega)
 have hr : 0 < (List.replicate (2 + k) (Value.agg #[])).toArray.size := by simp <;> omega
 refine LoneTo.step (step_lone_recv_buf false (c := c) (z := .agg #[]) (cap := wd) (closed := false) (s := s) (r := r) (tm := false) (stepG_comm (cases := #[rcase c (.agg #[])]) (blocking := true) (shape := .recv false) (w' := w) rfl rfl (by decide) (by simp [go_sem, execOp, rcase, Act.eval])) hch hr) ?_
 have h := ht.1
 have hC := hC.trans ht.2 (fun _ _ e => e)
 clear hch hr ht
 rw [Frame.finish_at]
 walk_nrm
 generalize World.setChan _ _ _ _ _ _ _ _ = w1 at *
 refine LoneTo.goes (n := 60) ?_
 s_c stepG_region_end
 s_c stepG_inBlock
 s_reg
 s_op
 s_op
 s_c stepG_region_end
 s_c stepG_inLoop
 s_c stepG_seq
 s_reg
 s_op
 s_c stepG_region_end
 s_c stepG_seq
 s_cond true
 s_c stepG_skip
 s_c stepG_seq
 s_c stepG_block
 s_reg
 s_op
 s_stop
 obtain ⟨s, r, hch⟩ := h
 have ht := Wn.turned (k' := k) (s := s) (r := r + 1) (buf := (List.replicate (1 + k) (Value.agg #[])).toArray.extract 1 (List.replicate (1 + k) (Value.agg #[])).toArray.size) ⟨s, r, hch⟩ (by simp <;> omega)
 have hr : 0 < (List.replicate (1 + k) (Value.agg #[])).toArray.size := by simp <;> omega
 refine LoneTo.step (step_lone_recv_buf false (c := c) (z := .agg #[]) (cap := wd) (closed := false) (s := s) (r := r) (tm := false) (stepG_comm (cases := #[rcase c (.agg #[])]) (blocking := true) (shape := .recv false) (w' := w1) rfl rfl (by decide) (by simp [go_sem, execOp, rcase, Act.eval])) hch hr) ?_
 have h := ht.1
 have hC := hC.trans ht.2 (fun _ _ e => e)
 clear hch hr ht
 rw [Frame.finish_at]
 walk_nrm
 generalize World.setChan _ _ _ _ _ _ _ _ = w2 at *
 refine LoneTo.goes (n := 60) ?_
 s_c stepG_region_end
 s_c stepG_inBlock
 s_reg
 s_op
 s_op
 s_c stepG_region_end
 s_c stepG_inLoop
 s_c stepG_seq
 s_reg
 s_op
 s_c stepG_region_end
 s_c stepG_seq
 s_cond false
 s_exit
 s_c stepG_end
 s_stop
 refine LoneTo.done ⟨.returned (.tuple #[]), _, rfl, ⟨rfl, h, hC⟩, rfl, rfl, rfl, rfl, _, Tryz.func205, by simp [results, Tryz.f205, Frame.at]⟩
theorem free_3 (h : Wn w c wd (3 + k)) : Calls Tryz.prog 205 #[.chan (some c), .int .i64 3] w fun e w' => e = .returned (.tuple #[]) ∧ Wn w' c wd k ∧ Ch (fun x => x = c) w w' := by
 refine calls_of_loneTo fun cs => ?_
 have e : Frame.enter Tryz.prog 205 #[.chan (some c), .int .i64 3] .normal = (base 205).at ⟨#[.chan (some c), .int .i64 3, undef, undef, undef, undef, undef, undef, undef, undef], []⟩ [.code (Tryz.f205.body.getD .skip)] := by
  simp [Frame.enter, Frame.at, Tryz.func205, base, Tryz.f205]
  try rfl
 rw [e]
 have hC := Ch.refl (fun x => x = c) w
 clear e
 refine LoneTo.goes (n := 60) ?_
 simp only [Tryz.f205, Option.getD_some]
 s_c stepG_seq
 s_reg
 s_op
 s_op
 s_c stepG_region_end
 s_c stepG_block
 s_c stepG_loop
 s_c stepG_seq
 s_reg
 s_op
 s_c stepG_region_end
 s_c stepG_seq
 s_cond true
 s_c stepG_skip
 s_c stepG_seq
 s_c stepG_block
 s_reg
 s_op
 s_stop
 obtain ⟨s, r, hch⟩ := h
 have ht := Wn.turned (k' := 2 + k) (s := s) (r := r + 1) (buf := (List.replicate (3 + k) (Value.agg #[])).toArray.extract 1 (List.replicate (3 + k) (Value.agg #[])).toArray.size) ⟨s, r, hch⟩ (by simp <;> omega)
 have hr : 0 < (List.replicate (3 + k) (Value.agg #[])).toArray.size := by simp <;> omega
 refine LoneTo.step (step_lone_recv_buf false (c := c) (z := .agg #[]) (cap := wd) (closed := false) (s := s) (r := r) (tm := false) (stepG_comm (cases := #[rcase c (.agg #[])]) (blocking := true) (shape := .recv false) (w' := w) rfl rfl (by decide) (by simp [go_sem, execOp, rcase, Act.eval])) hch hr) ?_
 have h := ht.1
 have hC := hC.trans ht.2 (fun _ _ e => e)
 clear hch hr ht
 rw [Frame.finish_at]
 walk_nrm
 generalize World.setChan _ _ _ _ _ _ _ _ = w1 at *
 refine LoneTo.goes (n := 60) ?_
 s_c stepG_region_end
 s_c stepG_inBlock
 s_reg
 s_op
 s_op
 s_c stepG_region_end
 s_c stepG_inLoop
 s_c stepG_seq
 s_reg
 s_op
 s_c stepG_region_end
 s_c stepG_seq
 s_cond true
 s_c stepG_skip
 s_c stepG_seq
 s_c stepG_block
 s_reg
 s_op
 s_stop
 obtain ⟨s, r, hch⟩ := h
 have ht := Wn.turned (k' := 1 + k) (s := s) (r := r + 1) (buf := (List.replicate (2 + k) (Value.agg #[])).toArray.extract 1 (List.replicate (2 + k) (Value.agg #[])).toArray.size) ⟨s, r, hch⟩ (by simp <;> omega)
 have hr : 0 < (List.replicate (2 + k) (Value.agg #[])).toArray.size := by simp <;> omega
 refine LoneTo.step (step_lone_recv_buf false (c := c) (z := .agg #[]) (cap := wd) (closed := false) (s := s) (r := r) (tm := false) (stepG_comm (cases := #[rcase c (.agg #[])]) (blocking := true) (shape := .recv false) (w' := w1) rfl rfl (by decide) (by simp [go_sem, execOp, rcase, Act.eval])) hch hr) ?_
 have h := ht.1
 have hC := hC.trans ht.2 (fun _ _ e => e)
 clear hch hr ht
 rw [Frame.finish_at]
 walk_nrm
 generalize World.setChan _ _ _ _ _ _ _ _ = w2 at *
 refine LoneTo.goes (n := 60) ?_
 s_c stepG_region_end
 s_c stepG_inBlock
 s_reg
 s_op
 s_op
 s_c stepG_region_end
 s_c stepG_inLoop
 s_c stepG_seq
 s_reg
 s_op
 s_c stepG_region_end
 s_c stepG_seq
 s_cond true
 s_c stepG_skip
 s_c stepG_seq
 s_c stepG_block
 s_reg
 s_op
 s_stop
 obtain ⟨s, r, hch⟩ := h
 have ht := Wn.turned (k' := k) (s := s) (r := r + 1) (buf := (List.replicate (1 + k) (Value.agg #[])).toArray.extract 1 (List.replicate (1 + k) (Value.agg #[])).toArray.size) ⟨s, r, hch⟩ (by simp <;> omega)
 have hr : 0 < (List.replicate (1 + k) (Value.agg #[])).toArray.size := by simp <;> omega
 refine LoneTo.step (step_lone_recv_buf false (c := c) (z := .agg #[]) (cap := wd) (closed := false) (s := s) (r := r) (tm := false) (stepG_comm (cases := #[rcase c (.agg #[])]) (blocking := true) (shape := .recv false) (w' := w2) rfl rfl (by decide) (by simp [go_sem, execOp, rcase, Act.eval])) hch hr) ?_
 have h := ht.1
 have hC := hC.trans ht.2 (fun _ _ e => e)
 clear hch hr ht
 rw [Frame.finish_at]
 walk_nrm
 generalize World.setChan _ _ _ _ _ _ _ _ = w3 at *
 refine LoneTo.goes (n := 60) ?_
 s_c stepG_region_end
 s_c stepG_inBlock
 s_reg
 s_op
 s_op
 s_c stepG_region_end
 s_c stepG_inLoop
 s_c stepG_seq
 s_reg
 s_op
 s_c stepG_region_end
 s_c stepG_seq
 s_cond false
 s_exit
 s_c stepG_end
 s_stop
 refine LoneTo.done ⟨.returned (.tuple #[]), _, rfl, ⟨rfl, h, hC⟩, rfl, rfl, rfl, rfl, _, Tryz.func205, by simp [results, Tryz.f205, Frame.at]⟩
theorem free_4 (h : Wn w c wd (4 + k)) : Calls Tryz.prog 205 #[.chan (some c), .int .i64 4] w fun e w' => e = .returned (.tuple #[]) ∧ Wn w' c wd k ∧ Ch (fun x => x = c) w w' := by
 refine calls_of_loneTo fun cs => ?_
 have e : Frame.enter Tryz.prog 205 #[.chan (some c), .int .i64 4] .normal = (base 205).at ⟨#[.chan (some c), .int .i64 4, undef, undef, undef, undef, undef, undef, undef, undef], []⟩ [.code (Tryz.f205.body.getD .skip)] := by
  simp [Frame.enter, Frame.at, Tryz.func205, base, Tryz.f205]
  try rfl
 rw [e]
 have hC := Ch.refl (fun x => x = c) w
 clear e
 refine LoneTo.goes (n := 60) ?_
 simp only [Tryz.f205, Option.getD_some]
 s_c stepG_seq
 s_reg
 s_op
 s_op
 s_c stepG_region_end
 s_c stepG_block
 s_c stepG_loop
 s_c stepG_seq
 s_reg
 s_op
 s_c stepG_region_end
 s_c stepG_seq
 s_cond true
 s_c stepG_skip
 s_c stepG_seq
 s_c stepG_block
 s_reg
 s_op
 s_stop
 obtain ⟨s, r, hch⟩ := h
 have ht := Wn.turned (k' := 3 + k) (s := s) (r := r + 1) (buf := (List.replicate (4 + k) (Value.agg #[])).toArray.extract 1 (List.replicate (4 + k) (Value.agg #[])).toArray.size) ⟨s, r, hch⟩ (by simp <;> omega)
 have hr : 0 < (List.replicate (4 + k) (Value.agg #[])).toArray.size := by simp <;> omega
 refine LoneTo.step (step_lone_recv_buf false (c := c) (z := .agg #[]) (cap := wd) (closed := false) (s := s) (r := r) (tm := false) (stepG_comm (cases := #[rcase c (.agg #[])]) (blocking := true) (shape := .recv false) (w' := w) rfl rfl (by decide) (by simp [go_sem, execOp, rcase, Act.eval])) hch hr) ?_
 have h := ht.1
 have hC := hC.trans ht.2 (fun _ _ e => e)
 clear hch hr ht
 rw [Frame.finish_at]
 walk_nrm
 generalize World.setChan _ _ _ _ _ _ _ _ = w1 at *
 refine LoneTo.goes (n := 60) ?_
 s_c stepG_region_end
 s_c stepG_inBlock
 s_reg
 s_op
 s_op
 s_c stepG_region_end
 s_c stepG_inLoop
 s_c stepG_seq
 s_reg
 s_op
 s_c stepG_region_end
 s_c stepG_seq
 s_cond true
 s_c stepG_skip
 s_c stepG_seq
 s_c stepG_block
 s_reg
 s_op
 s_stop
 obtain ⟨s, r, hch⟩ := h
 have ht := Wn.turned (k' := 2 + k) (s := s) (r := r + 1) (buf := (List.replicate (3 + k) (Value.agg #[])).toArray.extract 1 (List.replicate (3 + k) (Value.agg #[])).toArray.size) ⟨s, r, hch⟩ (by simp <;> omega)
 have hr : 0 < (List.replicate (3 + k) (Value.agg #[])).toArray.size := by simp <;> omega
 refine LoneTo.step (step_lone_recv_buf false (c := c) (z := .agg #[]) (cap := wd) (closed := false) (s := s) (r := r) (tm := false) (stepG_comm (cases := #[rcase c (.agg #[])]) (blocking := true) (shape := .recv false) (w' := w1) rfl rfl (by decide) (by simp [go_sem, execOp, rcase, Act.eval])) hch hr) ?_
 have h := ht.1
 have hC := hC.trans ht.2 (fun _ _ e => e)
 clear hch hr ht
 rw [Frame.finish_at]
 walk_nrm
 generalize World.setChan _ _ _ _ _ _ _ _ = w2 at *
 refine LoneTo.goes (n := 60) ?_
 s_c stepG_region_end
 s_c stepG_inBlock
 s_reg
 s_op
 s_op
 s_c stepG_region_end
 s_c stepG_inLoop
 s_c stepG_seq
 s_reg
 s_op
 s_c stepG_region_end
 s_c stepG_seq
 s_cond true
 s_c stepG_skip
 s_c stepG_seq
 s_c stepG_block
 s_reg
 s_op
 s_stop
 obtain ⟨s, r, hch⟩ := h
 have ht := Wn.turned (k' := 1 + k) (s := s) (r := r + 1) (buf := (List.replicate (2 + k) (Value.agg #[])).toArray.extract 1 (List.replicate (2 + k) (Value.agg #[])).toArray.size) ⟨s, r, hch⟩ (by simp <;> omega)
 have hr : 0 < (List.replicate (2 + k) (Value.agg #[])).toArray.size := by simp <;> omega
 refine LoneTo.step (step_lone_recv_buf false (c := c) (z := .agg #[]) (cap := wd) (closed := false) (s := s) (r := r) (tm := false) (stepG_comm (cases := #[rcase c (.agg #[])]) (blocking := true) (shape := .recv false) (w' := w2) rfl rfl (by decide) (by simp [go_sem, execOp, rcase, Act.eval])) hch hr) ?_
 have h := ht.1
 have hC := hC.trans ht.2 (fun _ _ e => e)
 clear hch hr ht
 rw [Frame.finish_at]
 walk_nrm
 generalize World.setChan _ _ _ _ _ _ _ _ = w3 at *
 refine LoneTo.goes (n := 60) ?_
 s_c stepG_region_end
 s_c stepG_inBlock
 s_reg
 s_op
 s_op
 s_c stepG_region_end
 s_c stepG_inLoop
 s_c stepG_seq
 s_reg
 s_op
 s_c stepG_region_end
 s_c stepG_seq
 s_cond true
 s_c stepG_skip
 s_c stepG_seq
 s_c stepG_block
 s_reg
 s_op
 s_stop
 obtain ⟨s, r, hch⟩ := h
 have ht := Wn.turned (k' := k) (s := s) (r := r + 1) (buf := (List.replicate (1 + k) (Value.agg #[])).toArray.extract 1 (List.replicate (1 + k) (Value.agg #[])).toArray.size) ⟨s, r, hch⟩ (by simp <;> omega)
 have hr : 0 < (List.replicate (1 + k) (Value.agg #[])).toArray.size := by simp <;> omega
 refine LoneTo.step (step_lone_recv_buf false (c := c) (z := .agg #[]) (cap := wd) (closed := false) (s := s) (r := r) (tm := false) (stepG_comm (cases := #[rcase c (.agg #[])]) (blocking := true) (shape := .recv false) (w' := w3) rfl rfl (by decide) (by simp [go_sem, execOp, rcase, Act.eval])) hch hr) ?_
 have h := ht.1
 have hC := hC.trans ht.2 (fun _ _ e => e)
 clear hch hr ht
 rw [Frame.finish_at]
 walk_nrm
 generalize World.setChan _ _ _ _ _ _ _ _ = w4 at *
 refine LoneTo.goes (n := 60) ?_
 s_c stepG_region_end
 s_c stepG_inBlock
 s_reg
 s_op
 s_op
 s_c stepG_region_end
 s_c stepG_inLoop
 s_c stepG_seq
 s_reg
 s_op
 s_c stepG_region_end
 s_c stepG_seq
 s_cond false
 s_exit
 s_c stepG_end
 s_stop
 refine LoneTo.done ⟨.returned (.tuple #[]), _, rfl, ⟨rfl, h, hC⟩, rfl, rfl, rfl, rfl, _, Tryz.func205, by simp [results, Tryz.f205, Frame.at]⟩
end
end Go.Proofs.YtnoflfbcgbhipaaGreat.Oct
