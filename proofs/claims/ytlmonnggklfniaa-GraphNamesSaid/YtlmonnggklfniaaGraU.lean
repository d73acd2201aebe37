/- Rows of links in memory; contracts of the statements' link and in. -/
import Derived.Test.YtlmonnggklfniaaGraE
namespace Go.Proofs.Ytlmonnggklfniaa.Oct
open Go.RowKit
set_option linter.unusedVariables false
set_option linter.unusedSimpArgs false

/-- Links, laid flat. -/
def flatL : List Lk → List Value
  | [] => []
  | l :: r => .int .i64 l.a :: .int .i64 l.p :: .int .i64 l.b :: .int .i64 l.q :: flatL r
theorem flatL_len : ∀ ls : List Lk, (flatL ls).length = ls.length * 4
  | [] => rfl
  | l :: r => by simp [flatL, flatL_len r]; omega
theorem flatL_append : ∀ a b : List Lk, flatL (a ++ b) = flatL a ++ flatL b
  | [], b => rfl
  | l :: r, b => by simp [flatL, flatL_append r b]
theorem flatL_at : ∀ (ls : List Lk) (rest : List Value) (j : Nat) (l : Lk), ls[j]? = some l →
    (flatL ls ++ rest)[j * 4]? = some (.int .i64 l.a) ∧ (flatL ls ++ rest)[j * 4 + 1]? = some (.int .i64 l.p) ∧ (flatL ls ++ rest)[j * 4 + 2]? = some (.int .i64 l.b) ∧ (flatL ls ++ rest)[j * 4 + 3]? = some (.int .i64 l.q)
  | [], rest, j, l, h => by simp at h
  | x :: r, rest, 0, l, h => by simp at h; subst h; exact ⟨rfl, rfl, rfl, rfl⟩
  | x :: r, rest, j + 1, l, h => by
    have ih := flatL_at r rest j l (by simpa using h)
    have e : ∀ k, (flatL (x :: r) ++ rest)[(j + 1) * 4 + k]? = (flatL r ++ rest)[j * 4 + k]? := fun k => by
      rw [show (j + 1) * 4 + k = j * 4 + k + 1 + 1 + 1 + 1 by omega]; rfl
    exact ⟨(e 0).trans ih.1, (e 1).trans ih.2.1, (e 2).trans ih.2.2.1, (e 3).trans ih.2.2.2⟩
/-- A cell of a flat row is one of a link. -/
theorem flatL_get : ∀ (ls : List Lk) (j : Nat) (u : Value), (flatL ls)[j]? = some u → ∃ l, ls[j / 4]? = some l ∧ ((j = j / 4 * 4 ∧ u = .int .i64 l.a) ∨ (j = j / 4 * 4 + 1 ∧ u = .int .i64 l.p) ∨ (j = j / 4 * 4 + 2 ∧ u = .int .i64 l.b) ∨ (j = j / 4 * 4 + 3 ∧ u = .int .i64 l.q))
  | [], j, u, h => by simp [flatL] at h
  | x :: r, j, u, h => by
    match j, h with
    | 0, h => simp [flatL] at h; exact ⟨x, rfl, .inl ⟨rfl, h.symm⟩⟩
    | 1, h => simp [flatL] at h; exact ⟨x, rfl, .inr (.inl ⟨rfl, h.symm⟩)⟩
    | 2, h => simp [flatL] at h; exact ⟨x, rfl, .inr (.inr (.inl ⟨rfl, h.symm⟩))⟩
    | 3, h => simp [flatL] at h; exact ⟨x, rfl, .inr (.inr (.inr ⟨rfl, h.symm⟩))⟩
    | j + 4, h =>
      obtain ⟨l, h1, h2⟩ := flatL_get r j u (by simpa [flatL] using h)
      have e : (j + 4) / 4 = j / 4 + 1 := by omega
      refine ⟨l, by rw [e]; simpa using h1, ?_⟩
      rw [e]
      rcases h2 with ⟨h3, h4⟩ | ⟨h3, h4⟩ | ⟨h3, h4⟩ | ⟨h3, h4⟩
      · exact .inl ⟨by omega, h4⟩
      · exact .inr (.inl ⟨by omega, h4⟩)
      · exact .inr (.inr (.inl ⟨by omega, h4⟩))
      · exact .inr (.inr (.inr ⟨by omega, h4⟩))
theorem flatL_one (ls : List Lk) : ∀ u ∈ flatL ls, u.oneCell' = true := by
  intro u hu
  obtain ⟨j, hj⟩ := List.mem_iff_getElem?.1 hu
  obtain ⟨l, _, h⟩ := flatL_get ls j u hj
  rcases h with ⟨_, rfl⟩ | ⟨_, rfl⟩ | ⟨_, rfl⟩ | ⟨_, rfl⟩ <;> rfl
/-- A block that begins with these links. -/
theorem lr_vb {T : TypeId} {w : World} {g B c : Nat} {ls : List Lk} {rest : List Value} (h : Vb T w g (flatL ls ++ rest)) (hB : g < B) (hc : ls.length ≤ c) (hm : c ≤ maxLen) : Lr w B (some ⟨g, 0, none⟩) ls.length c ls := by
  refine ⟨rfl, hc, hm, fun e => by simp at e, fun hn => ⟨g, 0, rfl, hB, fun j l hj => ?_⟩⟩
  obtain ⟨h1, h2, h3, h4⟩ := flatL_at ls rest j l hj
  rw [Nat.zero_add]
  exact ⟨h.cell _ h1, h.cell _ h2, h.cell _ h3, h.cell _ h4⟩
/-- The value v is a slice of links that the call owns, in a block from base on; it holds ls. -/
def Ol (w : World) (base : Nat) (v : Value) (n : Nat) (ls : List Lk) : Prop := w.ownsRow base 43 4 v n (flatL ls)
theorem info_lk : (Try.prog.info? 43).map (fun i => (i.zero, i.size, i.bytes)) = some (some (.agg #[.int .i64 0, .int .i64 0, .int .i64 0, .int .i64 0]), 4, 32) := by kernel_rfl
section
variable {w w' : World} {base n : Nat} {v : Value} {ls : List Lk}
theorem Ol.len (h : Ol w base v n ls) : ls.length = n := by have := h.1; rw [flatL_len] at this; omega
theorem Ol.form (h : Ol w base v n ls) : ∃ A c, v = .slice A n c ∧ n ≤ c ∧ c ≤ maxLen ∧ (A = none → c = 0) ∧ (∀ a, A = some a → ∃ g, a = ⟨g, 0, none⟩ ∧ base ≤ g ∧ g < w.heap.size) := by
  rcases h.2 with ⟨rfl, rfl⟩ | ⟨g, cap, cur, rfl, hbg, hg, hnc, hcm, _⟩
  · exact ⟨none, 0, rfl, Nat.le_refl _, Nat.zero_le _, fun _ => rfl, fun a h => by simp at h⟩
  · exact ⟨some ⟨g, 0, none⟩, cap, rfl, hnc, hcm, fun h => by simp at h, fun a h => ⟨g, by simpa using h.symm, hbg, (Array.getElem?_eq_some_iff.1 hg).1⟩⟩
theorem Ol.lr {A : Option Addr} {c : Nat} (h : Ol w base (.slice A n c) n ls) : Lr w w.heap.size A n c ls := by
  obtain ⟨A', c', e, h1, h2, h3, h4⟩ := h.form
  injection e with e1 e2 e3
  subst e1 e3
  refine ⟨h.len, h1, h2, h3, fun hn => ?_⟩
  obtain ⟨g, cap, hv, _, hlt⟩ := World.ownsRow.form h hn
  injection hv with hA _ _
  subst hA
  refine ⟨g, 0, rfl, hlt, fun j l hj => ?_⟩
  obtain ⟨q1, q2, q3, q4⟩ := flatL_at ls [] j l hj
  rw [List.append_nil] at q1 q2 q3 q4
  have key := fun i u (hu : (flatL ls)[i]? = some u) => World.ownsRow.cells h (g := g) rfl i u hu
  simp only [add_addr] at key
  have k1 := key _ _ q1
  have k2 := key _ _ q2
  have k3 := key _ _ q3
  have k4 := key _ _ q4
  exact ⟨k1, by rw [show 0 + j * 4 + 1 = 0 + (j * 4 + 1) by omega]; exact k2, by rw [show 0 + j * 4 + 2 = 0 + (j * 4 + 2) by omega]; exact k3, by rw [show 0 + j * 4 + 3 = 0 + (j * 4 + 3) by omega]; exact k4⟩
theorem Ol.below (h : Ol w base v n ls) (hb : Below w.heap.size w w') : Ol w' base v n ls := by
  refine ⟨h.1, ?_⟩
  rcases h.2 with h2 | ⟨g, cap, cur, e, hbg, hg, r⟩
  · exact .inl h2
  · exact .inr ⟨g, cap, cur, e, hbg, (hb.block g (Array.getElem?_eq_some_iff.1 hg).1).trans hg, r⟩
end
/-- append(x, y...) of links, x the call's own: as an equation. -/
theorem run_appendL {w : World} (ty : TypeId) {base B : Nat} {v : Value} {n m c : Nat} {A : Option Addr} {l l2 : List Lk} (hown : Ol w base v n l) (hr : Lr w B A m c l2)
    (hsz : n + m ≤ 1000000) (hbase : base ≤ w.heap.size) :
    ∃ A' c' w', (Builtin.append_ #[22, 22] ty #[v, .slice A m c]).run Try.prog w = .ok (.slice A' (n + m) c') w' ∧ Ol w' base (.slice A' (n + m) c') (n + m) (l ++ l2) ∧ Below base w w' ∧ w.grownBy w' v.ownBlock := by
  obtain ⟨i0, hi, hz0, hz1, hz2⟩ := info_parts info_lk
  rcases A with _ | ad
  · have hc : c = 0 := hr.2.2.2.1 rfl
    have hm : m = 0 := by have := hr.le; omega
    subst hc hm
    have hl2 : l2 = [] := List.eq_nil_of_length_eq_zero hr.len
    subst hl2
    obtain ⟨A', c', e, _⟩ := hown.form
    subst e
    exact ⟨A', c', w, run_append_owned_none (P := Try.prog) (w := w) base 22 ty 43 i0 4 Try.underlying22 hi _ n _ hown, by simpa using hown, Below.refl _ _, ⟨rfl, rfl, rfl, Nat.le_refl _, fun _ _ _ => rfl⟩⟩
  · have hcells : ∀ j u, (flatL l2)[j]? = some u → w.cell? (ad.add j) = some u := by
      intro j u hu
      obtain ⟨x, hx, hc⟩ := flatL_get l2 j u hu
      obtain ⟨b, off, e, _, hcl⟩ := hr.at_ (by have := (List.getElem?_eq_some_iff.1 hx).1; have := hr.len; omega)
      have e := Option.some.inj e
      subst e
      obtain ⟨h1, h2, h3, h4⟩ := hcl _ x hx
      rw [add_addr]
      rcases hc with ⟨ej, rfl⟩ | ⟨ej, rfl⟩ | ⟨ej, rfl⟩ | ⟨ej, rfl⟩
      · rw [show off + j = off + j / 4 * 4 by omega]; exact h1
      · rw [show off + j = off + j / 4 * 4 + 1 by omega]; exact h2
      · rw [show off + j = off + j / 4 * 4 + 2 by omega]; exact h3
      · rw [show off + j = off + j / 4 * 4 + 3 by omega]; exact h4
    obtain ⟨v', w', hrun, h2, h3, h4, h5⟩ := run_append_own_at (P := Try.prog) w base 22 ty 43 i0 _ 4 32 Try.underlying22 hi hz0 hz1 hz2 rfl (by omega) v n _ hown ad m c (flatL l2) (by rw [flatL_len, hr.len]) hcells
      (flatL_one l2) (by unfold maxLen; omega) (by omega) hbase
    have hown' : Ol w' base v' (n + m) (l ++ l2) := by unfold Ol; rw [flatL_append]; exact h2
    obtain ⟨A', c', e, _⟩ := hown'.form
    subst e
    exact ⟨A', c', w', hrun, hown', (Below.refl base w).grown h3 hbase fun k hk => (World.ownsRow.lt hown k hk).1, h3⟩

set_option maxRecDepth 100000 in
theorem link_any (a p b q : Int) (w : World) : Calls Try.prog 23 #[.int .i64 a, .int .i64 p, .int .i64 b, .int .i64 q] w fun e w' => e = .returned (.agg #[.int .i64 a, .int .i64 p, .int .i64 b, .int .i64 q]) ∧ Below w.heap.size w w' := by
  have hb := below_alloc w (.cells #[.int .i64 a, .int .i64 p, .int .i64 b, .int .i64 q] 43)
  go_enter Try.func23, Try.ntmps23
  go_wp2_with fail
  refine bodyPost_ret (v := .agg #[.int .i64 a, .int .i64 p, .int .i64 b, .int .i64 q]) (by simp [results, Try.results23, go_sem]) rfl ?_
  exact ⟨rfl, hb⟩
theorem in_any {w : World} {B n c : Nat} {A : Option Addr} {l : List Int} (h : Rd .i64 w B A n c l) (p : Int) : Calls Try.prog 21 #[.slice A n c, .int .i64 p] w fun e w' => e = .returned (.bool (decide (p ∈ l))) ∧ w' = w := by
  have e1 := h.len
  have m1 := h.max
  have H1 := Kp.mk h
  have HL := Kp.mk e1
  clear h e1
  go_enter Try.func21, Try.ntmps21
  go_wp2_with fail
  go_loopw [5] (fun s5 wr => ∃ k : Nat, s5 = .int .i64 k ∧ k ≤ n ∧ wr = w ∧ Kp (decide (p ∈ l) = decide (p ∈ l.drop k))) (fun s5 _ => n - (intOf s5).toNat)
  case atStart => exact ⟨0, rfl, Nat.zero_le _, rfl, Kp.mk rfl⟩
  case round =>
    obtain ⟨k, rfl, hk, hwr, HT⟩ := hrel
    subst hwr
    by_cases hlt : k < n
    · obtain ⟨b1, o1, rfl, _, f1⟩ := H1.out.at_ (by omega)
      have d1 := f1 k hlt
      have hkn : (k : Int) < n := by omega
      clear f1
      have HS := Kp.mk (drop_step (l := l) (k := k) (by have := HL.out; omega))
      generalize l.getD k 0 = x at *
      by_cases hxy : x = p
      · have hne : (x == p) = true := by simp [hxy]
        have HD := Kp.mk (show decide (p ∈ l) = true by rw [HT.out, HS.out, hxy]; simp)
        clear hxy
        go_wp2_with fail
        go_ret
        exact ⟨by rw [HD.out]; rfl, rfl⟩
      · have hne : (x == p) = false := by simp [hxy]
        have HT2 := Kp.mk (show decide (p ∈ l) = decide (p ∈ l.drop (k + 1)) by rw [HT.out, HS.out]; have hpx : ¬ p = x := fun e => hxy e.symm; simp [hpx])
        clear hxy
        go_wp2_with fail
        go_roundw
        case rel => exact ⟨k + 1, by go_num, by omega, trivial, HT2⟩
        case measure => simp [intOf]; omega
    · obtain rfl : k = n := by omega
      have HD := Kp.mk (show decide (p ∈ l) = false by rw [HT.out, List.drop_eq_nil_of_le (by have := HL.out; omega)]; simp)
      go_wp2_with fail
      go_ret
      exact ⟨by rw [HD.out]; rfl, by first | rfl | trivial⟩
end Go.Proofs.Ytlmonnggklfniaa.Oct
