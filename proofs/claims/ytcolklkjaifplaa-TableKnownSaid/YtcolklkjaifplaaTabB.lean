/- Tables as lists of rules: where a rule stands, what comes of it. Plain facts. Contracts of layer 9: how a rule stands to a place; binary search of rules. -/
import Derived.Test.YtcolklkjaifplaaRulP
import Derived.Test.YtcolklkjaifplaaTabA
import Derived.Test.YtcolklkjaifplaaRulG
import Derived.Deep.Cut
namespace Go.Proofs.Ytcolklkjaifplaa.Oct
open Go.RowKit
set_option linter.unusedVariables false
set_option linter.unusedSimpArgs false

theorem cmpR_lt_le (a b c : RuleV) (h1 : cmpR a b < 0) (h2 : cmpR b c ≤ 0) : cmpR a c < 0 := by
  have h := cmpR_le a b c (by omega) h2
  by_cases h0 : cmpR a c = 0
  · have e := cmpR_like a c b h0
    have n := cmpR_neg b c
    omega
  · omega
theorem cmpR_le_lt (a b c : RuleV) (h1 : cmpR a b ≤ 0) (h2 : cmpR b c < 0) : cmpR a c < 0 := by
  have h := cmpR_le a b c h1 (by omega)
  by_cases h0 : cmpR a c = 0
  · have e := cmpR_like a c b h0
    have n := cmpR_neg b c
    omega
  · omega
theorem tw_iff {α : Type} {p : α → Bool} : ∀ (l : List α), l.Pairwise (fun a b => p b = true → p a = true) → ∀ i x, l[i]? = some x → (p x = true ↔ i < (l.takeWhile p).length)
  | [], _, i, x, h => by simp at h
  | a :: l, hp, i, x, h => by
    rw [List.pairwise_cons] at hp
    by_cases ha : p a = true
    · rw [List.takeWhile_cons_of_pos ha, List.length_cons]
      cases i with
      | zero => simp at h; subst h; simp [ha]
      | succ i =>
        have := tw_iff l hp.2 i x (by simpa using h)
        rw [this]
        omega
    · rw [List.takeWhile_cons_of_neg ha]
      simp only [List.length_nil, Nat.not_lt_zero, iff_false]
      cases i with
      | zero => simp at h; subst h; exact ha
      | succ i =>
        intro hx
        exact ha (hp.1 x (List.mem_of_getElem? (by simpa using h)) hx)
theorem tw_le {α : Type} (p : α → Bool) : ∀ (l : List α), (l.takeWhile p).length ≤ l.length
  | [] => by simp
  | a :: l => by
    by_cases ha : p a = true
    · rw [List.takeWhile_cons_of_pos ha]; have := tw_le p l; simp; omega
    · rw [List.takeWhile_cons_of_neg ha]; simp
/-- Rules in their order, no two in one place. -/
def Srt (l : List RuleV) : Prop := l.Pairwise (fun a b => cmpR a b < 0)
def loP (r : RuleV) (l : List RuleV) : Nat := (l.takeWhile (fun x => decide (cmpR x r < 0))).length
def hiP (r : RuleV) (l : List RuleV) : Nat := (l.takeWhile (fun x => decide (cmpR x r ≤ 0))).length
section
variable {r : RuleV} {l : List RuleV}
theorem lo_iff (h : Srt l) : ∀ i x, l[i]? = some x → (cmpR x r < 0 ↔ i < loP r l) := by
  intro i x hx
  have := tw_iff (p := fun x => decide (cmpR x r < 0)) l (List.Pairwise.imp (fun {a b} hab hb => by
    simp only [decide_eq_true_eq] at hb ⊢
    exact cmpR_lt_le a b r hab (by omega)) h) i x hx
  unfold loP
  simpa using this
theorem hi_iff (h : Srt l) : ∀ i x, l[i]? = some x → (cmpR x r ≤ 0 ↔ i < hiP r l) := by
  intro i x hx
  have := tw_iff (p := fun x => decide (cmpR x r ≤ 0)) l (List.Pairwise.imp (fun {a b} hab hb => by
    simp only [decide_eq_true_eq] at hb ⊢
    have := cmpR_lt_le a b r hab hb
    omega) h) i x hx
  unfold hiP
  simpa using this
theorem lo_le : loP r l ≤ l.length := tw_le _ _
theorem hi_le : hiP r l ≤ l.length := tw_le _ _
theorem srt_lt (h : Srt l) {i j : Nat} {x y : RuleV} (hx : l[i]? = some x) (hy : l[j]? = some y) (hij : i < j) : cmpR x y < 0 := by
  obtain ⟨h1, rfl⟩ := List.getElem?_eq_some_iff.1 hx
  obtain ⟨h2, rfl⟩ := List.getElem?_eq_some_iff.1 hy
  exact List.pairwise_iff_getElem.1 h i j h1 h2 hij
theorem lo_hi (h : Srt l) : loP r l ≤ hiP r l := by
  rcases Nat.lt_or_ge (hiP r l) (loP r l) with hlt | hge
  · have hl := lo_le (r := r) (l := l)
    have hx := List.getElem?_eq_getElem (l := l) (i := hiP r l) (by omega)
    have h1 := (lo_iff (r := r) h _ _ hx).2 hlt
    have h2 := (hi_iff (r := r) h _ _ hx).1 (by omega)
    omega
  · exact hge
theorem hi_lo (h : Srt l) : hiP r l ≤ loP r l + 1 := by
  rcases Nat.lt_or_ge (loP r l + 1) (hiP r l) with hlt | hge
  · have hl := hi_le (r := r) (l := l)
    have hx := List.getElem?_eq_getElem (l := l) (i := loP r l) (by omega)
    have hy := List.getElem?_eq_getElem (l := l) (i := loP r l + 1) (by omega)
    have h1 := srt_lt h hx hy (by omega)
    have h2 := (hi_iff (r := r) h _ _ hy).2 (by omega)
    have h3 := (lo_iff (r := r) h _ _ hx).1 (cmpR_lt_le _ _ _ h1 h2)
    omega
  · exact hge
theorem lo_at (h : Srt l) (hlt : loP r l < hiP r l) {x : RuleV} (hx : l[loP r l]? = some x) : cmpR x r = 0 := by
  have h1 := (hi_iff (r := r) h _ _ hx).2 hlt
  have h2 : ¬ cmpR x r < 0 := fun hh => by have := (lo_iff (r := r) h _ _ hx).1 hh; omega
  omega
theorem at_lo (h : Srt l) {i : Nat} {x : RuleV} (hx : l[i]? = some x) (h0 : cmpR x r = 0) : i = loP r l ∧ hiP r l = loP r l + 1 := by
  have h1 := (hi_iff (r := r) h _ _ hx).1 (by omega)
  have h2 : ¬ i < loP r l := fun hh => by have := (lo_iff (r := r) h _ _ hx).2 hh; omega
  have h3 := hi_lo (r := r) h
  omega
/-- r is put in. -/
def tadd (r : RuleV) (l : List RuleV) : List RuleV := l.take (loP r l) ++ [r] ++ l.drop (hiP r l)
/-- What is in r's place goes. -/
def tdel (r : RuleV) (l : List RuleV) : List RuleV := l.take (loP r l) ++ l.drop (hiP r l)
theorem mem_take_lo (h : Srt l) {x : RuleV} (hx : x ∈ l.take (loP r l)) : cmpR x r < 0 := by
  obtain ⟨i, hi⟩ := List.getElem?_of_mem hx
  rw [List.getElem?_take] at hi
  split at hi
  · rename_i hlt; exact (lo_iff h _ _ hi).2 hlt
  · simp at hi
theorem mem_drop_hi (h : Srt l) {x : RuleV} (hx : x ∈ l.drop (hiP r l)) : cmpR r x < 0 := by
  obtain ⟨i, hi⟩ := List.getElem?_of_mem hx
  rw [List.getElem?_drop] at hi
  have : ¬ cmpR x r ≤ 0 := fun hh => by have := (hi_iff (r := r) h _ _ hi).1 hh; omega
  have := cmpR_neg x r
  omega
theorem out_sub (h : Srt l) : (tdel r l).Sublist l := by
  unfold tdel
  have h1 := List.take_append_drop (hiP r l) l
  have h2 : (l.take (loP r l)).Sublist (l.take (hiP r l)) := List.take_sublist_take_left (lo_hi h)
  calc (l.take (loP r l) ++ l.drop (hiP r l)).Sublist (l.take (hiP r l) ++ l.drop (hiP r l)) := List.Sublist.append h2 (List.Sublist.refl _)
    _ = l := h1
theorem out_srt (h : Srt l) : Srt (tdel r l) := List.Pairwise.sublist (out_sub h) h
theorem put_srt (h : Srt l) : Srt (tadd r l) := by
  have ho := out_srt (r := r) h
  unfold Srt tdel tadd at *
  rw [List.pairwise_append] at ho
  rw [List.append_assoc, List.pairwise_append]
  refine ⟨ho.1, ?_, ?_⟩
  · rw [List.singleton_append, List.pairwise_cons]
    exact ⟨fun x hx => mem_drop_hi h hx, ho.2.1⟩
  · intro a ha b hb
    rw [List.singleton_append, List.mem_cons] at hb
    rcases hb with rfl | hb
    · exact mem_take_lo h ha
    · exact ho.2.2 a ha b hb
theorem mem_put {x : RuleV} (h : x ∈ tadd r l) : x = r ∨ x ∈ l := by
  unfold tadd at h
  simp only [List.mem_append, List.mem_singleton] at h
  rcases h with (h | h) | h
  · exact .inr (List.mem_of_mem_take h)
  · exact .inl h
  · exact .inr (List.mem_of_mem_drop h)
theorem put_len (h : Srt l) : (tadd r l).length + hiP r l = l.length + loP r l + 1 := by
  have h1 := lo_le (r := r) (l := l)
  have h2 := hi_le (r := r) (l := l)
  simp [tadd]; omega
theorem out_len (h : Srt l) : (tdel r l).length + hiP r l = l.length + loP r l := by
  have h1 := lo_le (r := r) (l := l)
  have h2 := hi_le (r := r) (l := l)
  simp [tdel]; omega
end
end Go.Proofs.Ytcolklkjaifplaa.Oct

namespace Go.Proofs.Ytcolklkjaifplaa.Oct
open Go.RowKit
set_option linter.unusedVariables false
set_option linter.unusedSimpArgs false

theorem cmpIt_any (x y : It) (w : World) : Calls Try.prog 99 #[.agg (ics x).toArray, .agg (ics y).toArray] w fun e w' => e = .returned (.int .i64 (cmpR x.r y.r)) ∧ Below w.heap.size w w' :=
  compare_any x.r y.r (.slice x.A x.r.os.length x.c) (.slice y.A y.r.os.length y.c) w
theorem fl_off {ys : List It} {i off : Nat} {x : It} (h : ys[i]? = some x) (ho : off = i * 13) : ((ys.flatMap ics).drop off).take (ics x).length = ics x := by
  subst ho
  exact fl_at ys i x h
set_option maxRecDepth 100000 in
set_option maxHeartbeats 4000000 in
theorem placeCmp_any (p x : It) (side : Int) (w : World) : Calls Try.prog 81 #[.agg (ics p).toArray, .agg (ics x).toArray, .int .i64 side] w fun e w' => e = .returned (.int .i64 (cmpI (cmpR x.r p.r) side)) ∧ Below w.heap.size w w' := by
  have hy : Vb 113 ((w.alloc (.cells (ics p).toArray 113)).alloc (.cells (ics x).toArray 31)) w.heap.size (ics p) := (Vb.new 113 w (ics p)).alloc _
  have hx : Vb 31 ((w.alloc (.cells (ics p).toArray 113)).alloc (.cells (ics x).toArray 31)) (w.heap.size + 1) (ics x) := by have := Vb.new 31 (w.alloc (.cells (ics p).toArray 113)) (ics x); simpa using this
  have hB := below_two w (.cells (ics p).toArray 113) (.cells (ics x).toArray 31)
  go_enter Try.func81, Try.ntmps81
  go_upto_region 1 with fail
  generalize (w.alloc (.cells (ics p).toArray 113)).alloc (.cells (ics x).toArray 31) = w0 at *
  go_wp2_with (first | refine wpList_load_vb (vs := ics x) rfl (.tmp 4) rfl rfl hx rfl agg_rule ?_ | refine wpList_load_vb (vs := ics p) rfl (.tmp 8) rfl rfl hy rfl agg_rule ?_)
  refine (cmpIt_any _ _ _).mono ?_
  rintro e w1 ⟨rfl, hb⟩
  go_wp2_with fail
  refine (cmp_int _ _ _).mono ?_
  rintro e w2 ⟨rfl, rfl⟩
  go_wp2_with fail
  go_ret
  exact ⟨rfl, hB.trans (hb.mono hB.size)⟩
set_option maxRecDepth 100000 in
set_option maxHeartbeats 4000000 in
theorem bs_any {w : World} {its : List It} {A : Option Addr} {m c : Nat} (hs : SrcR w A m its) (hm : m ≤ 1000000000) (p : It) (side : Int) (k : Nat) (hk : k ≤ m) (hmono : ∀ i x, its[i]? = some x → (cmpI (cmpR x.r p.r) side < 0 ↔ i < k)) :
    Calls Try.prog 82 #[.slice A m c, .int .i64 side, .func (.func 81) #[.agg (ics p).toArray] #[]] w fun e w' => ∃ b, e = .returned (.tuple #[.int .i64 k, .bool b]) ∧ Below w.heap.size w w' := by
  have HS := Kp.mk hs
  have HM := Kp.mk hmono
  clear hs hmono
  have hB := Below.refl w.heap.size w
  go_enter Try.func82, Try.ntmps82
  go_wp2_with fail
  go_loopw [9, 10] (fun s9 s10 wr => ∃ lo hi : Nat, s9 = .int .i64 lo ∧ s10 = .int .i64 hi ∧ lo ≤ k ∧ k ≤ hi ∧ hi ≤ m ∧ Below w.heap.size w wr) (fun s9 s10 _ => (intOf s10).toNat - (intOf s9).toNat)
  case atStart => exact ⟨0, m, rfl, rfl, Nat.zero_le _, hk, Nat.le_refl _, hB⟩
  case round =>
    clear hB
    obtain ⟨lo, hi, rfl, rfl, h1, h2, h3, hB⟩ := hrel
    by_cases hlt : lo < hi
    · obtain ⟨q, hq⟩ : ∃ q, q = (lo + hi) / 2 := ⟨_, rfl⟩
      have hqm : (lo + hi) / 2 < m := by omega
      obtain ⟨x, hx⟩ : ∃ x, its[(lo + hi) / 2]? = some x := ⟨_, List.getElem?_eq_getElem (by have := HS.out.1; omega)⟩
      have hw := HS.out.below hB
      obtain ⟨hl, h⟩ := hw
      rcases h with ⟨_, h0⟩ | ⟨g, j, ys, rfl, hr, hj, he⟩
      · omega
      have hy : ys[j + (lo + hi) / 2]? = some x := by
        rw [← he, List.getElem?_take, if_pos hqm, List.getElem?_drop] at hx
        exact hx
      have hc := placeCmp_any p x side wr
      have hd := HM.out _ _ hx
      clear he hl hx
      by_cases hcx : cmpI (cmpR x.r p.r) side < 0
      · have hd' := hd.1 hcx
        clear hd
        go_wp2_with (first | refine wpList_load_vb (vs := ics x) rfl (.tmp 27) rfl rfl hr (fl_off hy (by omega)) agg_rule ?_ | (refine hc.mono ?_; rintro e w' ⟨rfl, hb⟩))
        go_roundw
        case rel => exact ⟨(lo + hi) / 2 + 1, hi, by go_num, rfl, by omega, h2, h3, hB.trans (hb.mono hB.size)⟩
        case measure => simp [intOf]; omega
      · have hd' : ¬ (lo + hi) / 2 < k := fun h => hcx (hd.2 h)
        clear hd
        go_wp2_with (first | refine wpList_load_vb (vs := ics x) rfl (.tmp 27) rfl rfl hr (fl_off hy (by omega)) agg_rule ?_ | (refine hc.mono ?_; rintro e w' ⟨rfl, hb⟩))
        go_roundw
        case rel => exact ⟨lo, (lo + hi) / 2, rfl, by go_num, h1, by omega, by omega, hB.trans (hb.mono hB.size)⟩
        case measure => simp [intOf]; omega
    · obtain rfl : lo = k := by omega
      obtain rfl : hi = lo := by omega
      by_cases hn : hi < m
      · obtain ⟨x, hx⟩ : ∃ x, its[hi]? = some x := ⟨_, List.getElem?_eq_getElem (by have := HS.out.1; omega)⟩
        have hw := HS.out.below hB
        obtain ⟨hl, h⟩ := hw
        rcases h with ⟨_, h0⟩ | ⟨g, j, ys, rfl, hr, hj, he⟩
        · omega
        have hy : ys[j + hi]? = some x := by
          rw [← he, List.getElem?_take, if_pos hn, List.getElem?_drop] at hx
          exact hx
        have hc := placeCmp_any p x side wr
        clear he hl hx
        go_wp2_with (first | refine wpList_load_wantR (vs := ics x) (by rfl) (.tmp 43) rfl rfl hr (fl_off hy (by omega)) agg_rule ?_ | (refine hc.mono ?_; rintro e w' ⟨rfl, hb⟩))
        go_ret2
        exact ⟨_, rfl, hB.trans (hb.mono hB.size)⟩
      · go_wp2_with fail
        go_ret2
        exact ⟨_, rfl, hB⟩
end Go.Proofs.Ytcolklkjaifplaa.Oct
