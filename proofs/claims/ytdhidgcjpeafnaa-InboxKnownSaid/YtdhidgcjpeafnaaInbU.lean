/- Layer 14 (inbox): a row of messages that grows; inboxes that are none. -/
import Derived.Test.YtdhidgcjpeafnaaInbN
import Derived.Lib.AppendZeros
namespace Go.Proofs.Ytdhidgcjpeafnaa.Oct
open Go.RowKit
set_option linter.unusedVariables false
set_option linter.unusedSimpArgs false
/-- Calls, laid flat. -/
def flatE : List DoI → List Value
  | [] => []
  | d :: r => .int .i64 d.k :: .bool d.i :: .slice d.A d.n d.c :: flatE r
theorem flatE_len : ∀ l, (flatE l).length = l.length * 3
  | [] => rfl
  | x :: r => by simp [flatE, flatE_len r]; omega
theorem flatE_append : ∀ a b, flatE (a ++ b) = flatE a ++ flatE b
  | [], b => rfl
  | x :: r, b => by simp [flatE, flatE_append r b]
theorem flatE_at : ∀ (l : List DoI) (j : Nat) (d : DoI), l[j]? = some d → (flatE l)[j * 3]? = some (.int .i64 d.k) ∧ (flatE l)[j * 3 + 1]? = some (.bool d.i) ∧ (flatE l)[j * 3 + 2]? = some (.slice d.A d.n d.c)
  | [], j, x, h => by simp at h
  | y :: r, 0, x, h => by simp at h; subst h; exact ⟨rfl, rfl, rfl⟩
  | y :: r, j + 1, x, h => by
    have ih := flatE_at r j x (by simpa using h)
    have e : ∀ k, (flatE (y :: r))[(j + 1) * 3 + k]? = (flatE r)[j * 3 + k]? := fun k => by
      rw [show (j + 1) * 3 + k = j * 3 + k + 1 + 1 + 1 by omega]; rfl
    exact ⟨(e 0).trans ih.1, (e 1).trans ih.2.1, (e 2).trans ih.2.2⟩
theorem flatE_one : ∀ (l : List DoI), ∀ u ∈ flatE l, u.oneCell' = true
  | [], u, h => by simp [flatE] at h
  | x :: r, u, h => by
    simp only [flatE, List.mem_cons] at h
    rcases h with rfl | rfl | rfl | h
    · rfl
    · rfl
    · rfl
    · exact flatE_one r u h
theorem info_doI : (Try.prog.info? 32).map (fun i => (i.zero, i.size, i.bytes)) = some (some (.agg #[.int .i64 0, .bool false, .slice none 0 0]), 3, 40) := by kernel_rfl
/-- Any block. -/
def Tq (_ : Nat) : Prop := True
theorem by_one {x : Int} (h : 0 ≤ x ∧ x < 256) : By [x] := By.cons h By.nil
/-- Bytes of a call. -/
def Eby (w : World) (d : DoI) : Prop := Fok Tq w ⟨d.A, d.n, d.c, d.bs⟩
theorem Eby.below {w w' : World} {d : DoI} (h : Eby w d) (hb : Below w.heap.size w w') : Eby w' d := Fok.below h hb
/-- A row of calls of the call's own. -/
structure Oe (w : World) (base : Nat) (v : Value) (n : Nat) (ds : List DoI) : Prop where
  row : w.ownsRow base 32 3 v n (flatE ds)
  by_ : ∀ d ∈ ds, Eby w d
section
variable {w w' : World} {base n : Nat} {v : Value} {ds : List DoI}
theorem Oe.len (h : Oe w base v n ds) : ds.length = n := by have := h.row.1; rw [flatE_len] at this; omega
theorem Oe.nil0 (w : World) (base : Nat) : Oe w base (.slice none 0 0) 0 [] := ⟨World.ownsRow_nil w base _ 3, fun d hd => by simp at hd⟩
theorem Oe.form (h : Oe w base v n ds) : ∃ A c, v = .slice A n c ∧ n ≤ c ∧ c ≤ maxLen ∧ (A = none → c = 0) ∧ (∀ a, A = some a → ∃ g, a = ⟨g, 0, none⟩ ∧ base ≤ g ∧ g < w.heap.size) := by
  rcases h.row.2 with ⟨rfl, rfl⟩ | ⟨g, cap, cur, rfl, hbg, hg, hnc, hcm, _⟩
  · exact ⟨none, 0, rfl, Nat.le_refl _, Nat.zero_le _, fun _ => rfl, fun a h => by simp at h⟩
  · exact ⟨some ⟨g, 0, none⟩, cap, rfl, hnc, hcm, fun h => by simp at h, fun a h => ⟨g, by simpa using h.symm, hbg, (Array.getElem?_eq_some_iff.1 hg).1⟩⟩
theorem Oe.below (h : Oe w base v n ds) (hb : Below w.heap.size w w') : Oe w' base v n ds := by
  refine ⟨⟨h.row.1, ?_⟩, fun d hd => (h.by_ d hd).below hb⟩
  rcases h.row.2 with h2 | ⟨g, cap, cur, e, hbg, hg, r⟩
  · exact .inl h2
  · exact .inr ⟨g, cap, cur, e, hbg, (hb.block g (Array.getElem?_eq_some_iff.1 hg).1).trans hg, r⟩
theorem Oe.diof {A : Option Addr} {c : Nat} (h : Oe w base (.slice A n c) n ds) : Di w w.heap.size A n c ds := by
  obtain ⟨A', c', e, h1, h2, h3, h4⟩ := h.form
  injection e with e1 e2 e3
  subst e1 e3
  refine ⟨h.len, h1, h2, h3, fun d hd => ⟨Fok.rd (h.by_ d hd), Fok.bytes (h.by_ d hd), by have h5 : d.n ≤ 512 := Fok.small (h.by_ d hd); omega⟩, fun hn => ?_⟩
  obtain ⟨g, cap, hv, _, hlt⟩ := World.ownsRow.form h.row hn
  injection hv with hA _ _
  subst hA
  refine ⟨g, 0, rfl, hlt, fun j l hj => ?_⟩
  obtain ⟨q1, q2, q3⟩ := flatE_at ds j l hj
  have key := fun i u (hu : (flatE ds)[i]? = some u) => World.ownsRow.cells h.row (g := g) rfl i u hu
  simp only [add_addr] at key
  have k1 := key _ _ q1
  have k2 := key _ _ q2
  have k3 := key _ _ q3
  exact ⟨k1, by rw [show 0 + j * 3 + 1 = 0 + (j * 3 + 1) by omega]; exact k2, by rw [show 0 + j * 3 + 2 = 0 + (j * 3 + 2) by omega]; exact k3⟩
end
/-- append of a literal of calls, as an equation. -/
theorem Oe.more {w : World} (ty : TypeId) {base : Nat} {v : Value} {n m : Nat} {ds es : List DoI} (h : Oe w base v n ds) (hm : es.length = m) (hes : ∀ d ∈ es, Eby w d) (hsz : n + m ≤ 1000000) (hbase : base ≤ w.heap.size) :
    ∃ A' c' w', (Builtin.append_ #[22, 22] ty #[v, .slice (some ⟨w.heap.size, 0, none⟩) m m]).run Try.prog (w.alloc (.cells (flatE es).toArray 32)) = .ok (.slice A' (n + m) c') w' ∧ Oe w' base (.slice A' (n + m) c') (n + m) (ds ++ es) ∧ Below base w w' := by
  have hb := below_alloc w (.cells (flatE es).toArray 32)
  have h1 := h.below hb
  have hv := Vb.new 32 w (flatE es)
  obtain ⟨i0, hi, hz0, hz1, hz2⟩ := info_parts info_doI
  have hcells : ∀ j u, (flatE es)[j]? = some u → (w.alloc (.cells (flatE es).toArray 32)).cell? ((⟨w.heap.size, 0, none⟩ : Addr).add j) = some u := by
    intro j u hu
    rw [add_addr, Nat.zero_add]
    exact hv.cell j hu
  obtain ⟨v', w', hrun, h2, h3, h4, h5⟩ := run_append_own_at (P := Try.prog) _ base 22 ty 32 i0 _ 3 40 Try.underlying22 hi hz0 hz1 hz2 rfl (by omega) v n _ h1.row ⟨w.heap.size, 0, none⟩ m m (flatE es) (by rw [flatE_len, hm]) hcells
    (flatE_one es) (by unfold maxLen; omega) (by omega) (Nat.le_trans hbase hb.size)
  have hch : Ch (fun k => v.ownBlock = some k) _ w' := .of_grownv h3
  have hty : ∀ k, v.ownBlock = some k → ∃ cur, (w.alloc (.cells (flatE es).toArray 32)).heap[k]? = some (.cells cur 32 (0, 0)) := by
    intro k hk
    rcases h1.row.2 with ⟨rfl, _⟩ | ⟨g, cap, cur, rfl, hbg, hg, _⟩
    · simp [Value.ownBlock] at hk
    · simp [Value.ownBlock] at hk
      subst hk
      exact ⟨cur, hg⟩
  have hdby : ∀ d, Eby w d → Eby w' d := by
    intro d hd
    refine Fok.stay (hd.below hb) hch (fun b cs m _ _ hb e => ?_)
    obtain ⟨cur, hcur⟩ := hty b e
    rw [hcur] at hb
    have e := Option.some.inj hb
    injection e with _ e _
    exact absurd e (by decide)
  have hrow : w'.ownsRow base 32 3 v' (n + m) (flatE (ds ++ es)) := by rw [flatE_append]; exact h2
  have hO : Oe w' base v' (n + m) (ds ++ es) := ⟨hrow, fun d hd => by
    rcases List.mem_append.1 hd with hd | hd
    · exact hdby d (h.by_ d hd)
    · exact hdby d (hes d hd)⟩
  obtain ⟨A', c', e, _⟩ := hO.form
  subst e
  exact ⟨A', c', w', hrun, hO, (hb.mono hbase).trans (hch.below (B := base) (fun k hk => (World.ownsRow.lt h1.row k hk).1) (Nat.le_trans hbase hb.size))⟩
theorem eby_one (w : World) (x : Int) (h : 0 ≤ x ∧ x < 256) : Fok Tq (w.alloc (.cells #[.int .u8 x] 5)) ⟨some ⟨w.heap.size, 0, none⟩, 1, 1, [x]⟩ := by
  have := own_lit w [x] w.heap.size (Nat.le_refl _) (by simp [maxLen])
  exact (Fok.of_own (c := 1) (n := 1) this (by omega) (by_one h)).imp (fun _ _ _ => trivial)
theorem eby_none (w : World) : Fok Tq w ⟨none, 0, 0, []⟩ := Fok.nil_ _ _
/-- An inbox of numbers that is none. -/
def NX (w : World) (a : Option Addr) : Prop := a = none ∨ ∃ x, a = some ⟨x, 0, none⟩ ∧ Vb 52 w x [.int .u16 0, .map none]
section
variable {w : World} {a : Option Addr}
set_option maxRecDepth 100000 in
theorem NX.isNone (h : NX w a) : Calls Try.prog 34 #[.pointer a] w fun e w' => e = .returned (.bool true) ∧ w' = w := by
  rcases h with rfl | ⟨x, rfl, hV⟩
  · go_enter Try.func34, Try.ntmps34
    go_wp2_with fail
    go_ret
    exact ⟨rfl, rfl⟩
  · have c1 := hV.cell 1 rfl
    have hq : (binOp .eql 50 (.map none) (.map none)).run Try.prog w = .ok (.bool true) w := run_eql_map_nil w _ _ _ none Try.underlying50
    clear hV
    go_enter Try.func34, Try.ntmps34
    go_wp2_with fail
    go_ret
    exact ⟨rfl, rfl⟩
set_option maxRecDepth 100000 in
theorem NX.take (h : NX w a) (seq m : Int) : Calls Try.prog 19 #[.pointer a, .int .i64 seq, .int .i64 m] w fun e w' => e = .returned (.tuple #[.slice none 0 0, .int .i64 1]) ∧ w' = w := by
  have hn := h.isNone
  clear h
  go_enter Try.func19, Try.ntmps19
  go_wp2_with (refine hn.mono ?_; rintro e w1 ⟨rfl, rfl⟩)
  go_ret2
  exact ⟨rfl, rfl⟩
set_option maxRecDepth 100000 in
theorem NX.ack (h : NX w a) : Calls Try.prog 20 #[.pointer a] w fun e w' => e = .returned (.int .i64 0) ∧ w' = w := by
  have hn := h.isNone
  clear h
  go_enter Try.func20, Try.ntmps20
  go_wp2_with (refine hn.mono ?_; rintro e w1 ⟨rfl, rfl⟩)
  go_ret
  exact ⟨rfl, rfl⟩
set_option maxRecDepth 100000 in
theorem NX.waits (h : NX w a) : Calls Try.prog 21 #[.pointer a] w fun e w' => e = .returned (.int .i64 0) ∧ w' = w := by
  have hn := h.isNone
  clear h
  go_enter Try.func21, Try.ntmps21
  go_wp2_with (refine hn.mono ?_; rintro e w1 ⟨rfl, rfl⟩)
  go_ret
  exact ⟨rfl, rfl⟩
end
end Go.Proofs.Ytdhidgcjpeafnaa.Oct
