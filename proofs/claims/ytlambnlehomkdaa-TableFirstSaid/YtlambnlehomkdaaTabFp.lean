/- Plain facts for TableFirst: what is there is what was added and did not go. -/
import Derived.Test.YtlambnlehomkdaaTabV
import Derived.Test.YtlambnlehomkdaaTabX
import Derived.Test.YtlambnlehomkdaaOrdV
namespace Go.Proofs.Ytlambnlehomkdaa.Oct
open Go.RowKit
set_option linter.unusedVariables false
set_option linter.unusedSimpArgs false

/-- Whether one of the first k is in r's place. -/
def wasP (r : RuleV) (l : List RuleV) (k : Nat) : Bool := (l.take k).any (fun x => decide (cmpR x r = 0))
theorem wasP_step {r x : RuleV} {l : List RuleV} {k : Nat} (h : l[k]? = some x) : wasP r l (k + 1) = (wasP r l k || decide (cmpR x r = 0)) := by
  unfold wasP
  rw [take_snocR h, List.any_append]
  simp
theorem offP_step {r x : RuleV} {l : List RuleV} {k : Nat} (h : l[k]? = some x) : offP r (l.take (k + 1)) = offP r (l.take k) ++ (if cmpR x r = 0 then [] else [x]) := by
  unfold offP
  rw [take_snocR h, List.filter_append]
  by_cases h0 : cmpR x r = 0 <;> simp [h0]
theorem offP_perm {r : RuleV} {l k : List RuleV} (h : l.Perm k) : (offP r l).Perm (offP r k) := h.filter _
theorem offP_dst {r : RuleV} {l : List RuleV} (h : Dst l) : Dst (offP r l) := List.Pairwise.filter _ h
theorem offP_new {r : RuleV} {l : List RuleV} (h : Dst l) : Dst (offP r l ++ [r]) := by
  unfold Dst
  rw [List.pairwise_append]
  refine ⟨offP_dst h, by simp, fun a ha b hb => ?_⟩
  have hb := List.mem_singleton.1 hb
  subst hb
  have := (List.mem_filter.1 ha).2
  simpa using this
theorem first_add {r : RuleV} {l k : List RuleV} (hS : Srt l) (h : l.Perm k) (hr : okR r) (hl : (l.length : Int) < 64) : addE 64 r l = 0 ∧ (addL 64 r l).Perm (offP r k ++ [r]) := by
  refine ⟨add_new hr hl, ?_⟩
  rw [addL_new hr hl]
  refine (tadd_perm hS).trans ?_
  refine (List.Perm.cons r (offP_perm h)).trans ?_
  have := (List.perm_append_comm (l₁ := offP r k) (l₂ := [r])).symm
  simpa using this
theorem first_del {r : RuleV} {l k : List RuleV} (hS : Srt l) (h : l.Perm k) (hr : okR r) : (decide (delE r l = 0) = wasP r k k.length) ∧ (delL r l).Perm (offP r k) := by
  obtain ⟨h1, h2⟩ := del_is hS hr
  refine ⟨?_, by rw [h2]; exact offP_perm h⟩
  rw [Bool.eq_iff_iff, decide_eq_true_iff, h1]
  unfold wasP
  rw [List.take_length, List.any_eq_true]
  constructor
  · rintro ⟨x, hx, h0⟩; exact ⟨x, h.mem_iff.1 hx, by simpa using h0⟩
  · rintro ⟨x, hx, h0⟩; exact ⟨x, h.mem_iff.2 hx, by simpa using h0⟩
/-- The rule that Data tells stands ahead of all that fit. -/
theorem data_first {l : List RuleV} {ver port p q r : Int} {y : RuleV} {b : Bool} (hS : Srt l) (h : DataP l ver port p q r y b) {x : RuleV} (hx : x ∈ l) (hk : x.k = 1) (hf : fitsM x.x ver port p q r = true) : b = true ∧ ¬ cmpR x y < 0 ∧ ¬ x.pr > y.pr ∧ y ∈ l ∧ y.k = 1 := by
  rcases h with ⟨_, _, h⟩ | ⟨rfl, j, hj, hy, hpre⟩
  · exact absurd ⟨hk, hf⟩ (h x hx)
  · obtain ⟨i, hi⟩ := List.getElem?_of_mem hx
    have hij : ¬ i < j := fun hlt => hpre i x hlt hi ⟨hk, hf⟩
    have hc : cmpR y x ≤ 0 := by
      rcases Nat.lt_or_ge j i with h | h
      · have := srt_lt hS hj hi h; omega
      · have e : i = j := by omega
        rw [e, hj] at hi
        have := Option.some.inj hi
        rw [this, cmpR_self]; omega
    refine ⟨rfl, fun h => by have := cmpR_neg x y; omega, fun hp => ?_, List.mem_of_getElem? hj, hy.1⟩
    have := cmpR_prio x y hk hy.1 hp
    have := cmpR_neg x y
    omega
theorem madeR_len2 (r : RuleV) : (madeR r).os.length ≤ 1000000000 := by
  unfold madeR
  split
  · simp [ctlO]
  · simp [datO]
section
variable {w : World} {t : Nat} {v : Value} {room : Int} {l : List RuleV}
theorem tv_adde {e0 : Int} {x : It} (h : TV w t v room l) (hx : Ob w x) (hxl : x.r.os.length ≤ 1000000000) (hE : addE room x.r l = e0) : Calls Try.prog 30 #[.pointer (some ⟨t, 0, none⟩), .agg (ics x).toArray] w fun e w' => e = .returned (.int .i64 e0) ∧ (∃ v', TV w' t v' room (addL room x.r l) ∧ Nw w v v') ∧ Fr2 t v.ownBlock w w' := by
  rw [← hE]
  exact tv_add h hx hxl
theorem tv_del (h : TV w t v room l) {x : It} (hx : Ob w x) : Calls Try.prog 29 #[.pointer (some ⟨t, 0, none⟩), .agg (ics x).toArray] w fun e w' => e = .returned (.int .i64 (delE x.r l)) ∧ (∃ v', TV w' t v' room (delL x.r l) ∧ Nw w v v') ∧ Fr2 t v.ownBlock w w' := by
  obtain ⟨its, hT, rfl, h2, h3, h4, h5⟩ := h
  rw [rls_len] at h4
  refine (del_tab hT h2 (by omega) x hx.ro (Nat.le_refl _)).mono ?_
  rintro e w' ⟨v', its', rfl, hr, hT', hF, hN, _⟩
  have hsub : (delL x.r (rls its)).Sublist (rls its) := by unfold delL; split; · exact out_sub h2
                                                           · exact List.Sublist.refl _
  have hS : Srt (delL x.r (rls its)) := List.Pairwise.sublist hsub h2
  have hlen : ((delL x.r (rls its)).length : Int) ≤ room := by have := hsub.length_le; rw [rls_len] at this; omega
  exact ⟨rfl, ⟨v', ⟨its', hT', hr, hS, fun y hy => h3 y (hsub.subset hy), hlen, h5⟩, hN.all⟩, hF⟩
theorem tv_control (h : TV w t v room l) (tw : Int) : Calls Try.prog 18 #[.pointer (some ⟨t, 0, none⟩), .int .i64 tw] w fun e w' => ∃ q b, e = .returned (.tuple #[.int .i64 q, .bool b]) ∧ Ctl l tw q b ∧ Below w.heap.size w w' := by
  obtain ⟨its, hT, rfl, h2, h3, h4, h5⟩ := h
  rw [rls_len] at h4
  exact control_tab hT h2 (by omega) tw
theorem tv_data (h : TV w t v room l) (ver port p q r : Int) : Calls Try.prog 20 #[.pointer (some ⟨t, 0, none⟩), .int .i64 ver, .int .i64 port, .agg #[.int .u8 p, .int .u8 q, .int .u8 r]] w fun e w' => ∃ y b, e = .returned (.tuple #[.agg (ics y).toArray, .bool b]) ∧ DataP l ver port p q r y.r b ∧ Ob w' y ∧ Fre w.heap.size y ∧ Below w.heap.size w w' := by
  obtain ⟨its, hT, rfl, h2, h3, h4, h5⟩ := h
  rw [rls_len] at h4
  exact data_tab hT h2 h3 (by omega) ver port p q r
end
/-- Where the rule that Data tells stands in another order of the rules. -/
theorem data_at {l k : List RuleV} {ver port p q r : Int} {y : RuleV} {b : Bool} (h : DataP l ver port p q r y b) (hp : l.Perm k) : ∃ j : Nat, b = true → k[j]? = some y ∧ y.k = 1 ∧ fitsM y.x ver port p q r = true := by
  rcases h with ⟨rfl, _, _⟩ | ⟨_, j, hj, hy, _⟩
  · exact ⟨0, fun e => by simp at e⟩
  · obtain ⟨i, hi⟩ := List.getElem?_of_mem (hp.mem_iff.1 (List.mem_of_getElem? hj))
    exact ⟨i, fun _ => ⟨hi, hy⟩⟩
theorem ctl_nil (tw : Int) : Ctl [] tw 0 false := .inl ⟨rfl, rfl, fun x hx => by simp at hx⟩
theorem ctl_no {l : List RuleV} {i : Nat} {x : RuleV} {tw q : Int} {b : Bool} (h : Ctl (l.take i) tw q b) (hx : l[i]? = some x) (hn : ¬ (x.k = 2 ∧ x.to = tw)) : Ctl (l.take (i + 1)) tw q b := by
  rw [take_snocR hx]
  rcases h with ⟨h1, h2, h3⟩ | ⟨h1, z, h2, h3⟩
  · refine .inl ⟨h1, h2, fun z hz => ?_⟩
    rcases List.mem_append.1 hz with hz | hz
    · exact h3 z hz
    · rw [List.mem_singleton.1 hz]; exact hn
  · exact .inr ⟨h1, z, List.mem_append_left _ h2, h3⟩
theorem ctl_yes {l : List RuleV} {i : Nat} {x : RuleV} {tw : Int} (hx : l[i]? = some x) (hy : x.k = 2 ∧ x.to = tw) : Ctl (l.take (i + 1)) tw x.po true := by
  rw [take_snocR hx]
  exact .inr ⟨rfl, x, List.mem_append_right _ (by simp), hy, rfl⟩
/-- There is one control rule for a switch at most. -/
theorem ctl_one {l k : List RuleV} {tw q q' : Int} {b b' : Bool} (hS : Srt l) (hp : l.Perm k) (h : Ctl l tw q b) (h' : Ctl k tw q' b') : q = q' ∧ b = b' := by
  rcases h with ⟨rfl, rfl, h3⟩ | ⟨rfl, z, h2, h3, rfl⟩ <;> rcases h' with ⟨rfl, rfl, g3⟩ | ⟨rfl, y, g2, g3, rfl⟩
  · exact ⟨rfl, rfl⟩
  · exact absurd g3 (h3 y (hp.mem_iff.2 g2))
  · exact absurd h3 (g3 z (hp.mem_iff.1 h2))
  · refine ⟨?_, rfl⟩
    have g2 := hp.mem_iff.2 g2
    obtain ⟨i, hi⟩ := List.getElem?_of_mem h2
    obtain ⟨j, hj⟩ := List.getElem?_of_mem g2
    have h0 : cmpR z y = 0 := by
      rw [cmpR_like z (ctlR tw) y ((cmp_ctl z tw).2 h3)]
      have := cmpR_neg y (ctlR tw)
      have := (cmp_ctl y tw).2 g3
      omega
    have h0' := cmpR_neg z y
    rcases Nat.lt_trichotomy i j with hlt | rfl | hlt
    · have := srt_lt hS hi hj hlt; omega
    · rw [hi] at hj; rw [Option.some.inj hj]
    · have := srt_lt hS hj hi hlt; omega
end Go.Proofs.Ytlambnlehomkdaa.Oct
namespace Go.Proofs.Ytlambnlehomkdaa.Oct
open Go.RowKit
set_option linter.unusedVariables false
/-- The slice (A, n, c) reads as the bools bs, and lies below block B. -/
def Bl (w : World) (B : Nat) (A : Option Addr) (n c : Nat) (bs : List Bool) : Prop :=
  bs.length = n ∧ n ≤ c ∧ c ≤ maxLen ∧ (A = none → c = 0) ∧ (0 < n → ∃ b off, A = some ⟨b, off, none⟩ ∧ b < B ∧ ∀ (j : Nat) (q : Bool), bs[j]? = some q → w.cell? ⟨b, off + j, none⟩ = some (.bool q))
theorem Bl.below {w w' : World} {B : Nat} {A : Option Addr} {n c : Nat} {bs : List Bool} (h : Bl w B A n c bs) (hb : Below B w w') : Bl w' B A n c bs :=
  ⟨h.1, h.2.1, h.2.2.1, h.2.2.2.1, fun hn => by
    obtain ⟨b, off, e, hlt, hc⟩ := h.2.2.2.2 hn
    exact ⟨b, off, e, hlt, fun j q hj => (hb.cell (p := ⟨b, _, none⟩) hlt).trans (hc j q hj)⟩⟩
end Go.Proofs.Ytlambnlehomkdaa.Oct
namespace Go.Proofs.Ytlambnlehomkdaa.Frame
open Go.ChangeShapes Go.WideShapes Go.ChangeAt Go.RowKit
set_option linter.unusedVariables false
set_option maxRecDepth 100000 in
theorem open_bools {H : Type} {enc : TypeId × Value → H} {W : World} {r : Reach} {b0 : Nat} {v : Value} {d : DataW H} {pl : List MemPlace}
    (hv : Value.okWide Try.prog W r b0 55 v) (hh : DataW.Trod enc Try.prog W 0 (fun _ => true) true 55 v d pl) :
    ∃ (bs : List Bool) (A : Option Addr) (n c : Nat), v = .slice A n c ∧ Oct.Bl W W.heap.size A n c bs := by
  obtain ⟨A0, n0, c0, rfl⟩ := okWide_slice Try.underlying55 hv
  obtain ⟨fuel, hf⟩ := hh
  rcases Deep.open_slice Try.underlying55 hf with ⟨hc, _⟩ | ⟨a, len, cap, mm2, nn, D, Pl, hc, _, hlc, hmax, hmm, hdd, hel⟩
  · have hc' : [Value.slice A0 n0 c0] = [Value.slice none 0 0] := hc
    exact ⟨[], none, 0, 0, by simpa using hc', ⟨rfl, Nat.le_refl _, Nat.zero_le _, fun _ => rfl, fun h => absurd h (by omega)⟩⟩
  · have hcap : mm2 = cap := by simpa using hmm
    subst hcap
    have hce : Try.prog.cellsOf 4 = 1 := by kernel_rfl
    have key : ∀ i, i < mm2 → ∃ q : Bool, W.cell? (a.add i) = some (.bool q) := by
      intro i hi
      obtain ⟨cs', h1, h2⟩ := hel i hi
      rw [hce] at h1
      obtain ⟨_, hlen, hcell⟩ := World.cells?_some h1
      obtain ⟨q, e, _⟩ := DataW.trod_bool Try.underlying4 h2
      refine ⟨q, ?_⟩
      have h0 := hcell 0 (by omega)
      rw [e] at h0
      have e0 : (a.add (i * 1)).add 0 = a.add i := by
        rw [Nat.mul_one]
        cases hq : a.add i with
        | mk b o s => cases s <;> simp [Addr.add]
      rw [e0] at h0
      simpa using h0
    haveI : Inhabited Bool := ⟨false⟩
    obtain ⟨F, hF⟩ := Deep.choose_lt (α := Bool) (n := mm2) (p := fun i q => W.cell? (a.add i) = some (.bool q)) key
    have hc' : [Value.slice A0 n0 c0] = [Value.slice (some a) len mm2] := hc
    refine ⟨(List.range len).map F, some a, len, mm2, by simpa using hc', ⟨by simp, hlc, hmax, fun e => by simp at e, fun hn => ?_⟩⟩
    obtain ⟨b, off, spot⟩ := a
    have h0 := hF 0 (by omega)
    have hspot : spot = none := by simpa [Addr.add] using World.cell?_spot h0
    subst hspot
    refine ⟨b, off, rfl, ?_, fun j q hj => ?_⟩
    · rw [Oct.add_addr] at h0; exact World.block_lt_of_cell? W _ h0
    · have hjl : j < len := by have := (List.getElem?_eq_some_iff.1 hj).1; simpa using this
      have ho : F j = q := by rw [List.getElem?_map, List.getElem?_range hjl] at hj; simpa using hj
      have hG := hF j (by omega)
      rw [Oct.add_addr, ho] at hG
      exact hG
end Go.Proofs.Ytlambnlehomkdaa.Frame
