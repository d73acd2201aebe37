/- Slices of ints that the call owns: what they hold, append onto them, a store into them. Plain facts of layer 10 (group): which ports live, as bits. Contracts of layer 10 (group): sets of ports; slices of ports. Contracts on slices of ints: the document's CopyInts and EqInts, slices.Clone, Index, Contains. -/
import Derived.Test.YtlmonnggklfniaaVbl
import Derived.Laws.OwnMore
import Derived.Lib.SliceRun
import Derived.Lib.AppendZeros
import Derived.Test.YtlmonnggklfniaaBring
namespace Go.Proofs.Ytlmonnggklfniaa.Oct
open Go.RowKit
set_option linter.unusedVariables false

/-- The value v is a slice of ints that the call owns, in a block from base on; it holds l. -/
def Oi (w : World) (base : Nat) (v : Value) (n : Nat) (l : List Int) : Prop := w.ownsRow base 3 1 v n (l.map (Value.int .i64))
theorem info_int8 : (Try.prog.info? 3).map (fun i => (i.zero, i.size, i.bytes)) = some (some (.int .i64 0), 1, 8) := by kernel_rfl
section
variable {w w' : World} {base : Nat} {v : Value} {n : Nat} {l : List Int}
theorem Oi.len (h : Oi w base v n l) : l.length = n := by have := h.1; simpa using this
theorem Oi.nil (w : World) (base : Nat) : Oi w base (.slice none 0 0) 0 [] := World.ownsRow_nil w base _ 1
theorem Oi.form (h : Oi w base v n l) : ∃ A c, v = .slice A n c ∧ n ≤ c ∧ c ≤ maxLen ∧ (A = none → c = 0) ∧ (∀ a, A = some a → ∃ g, a = ⟨g, 0, none⟩ ∧ base ≤ g ∧ g < w.heap.size) := by
  rcases h.2 with ⟨rfl, rfl⟩ | ⟨g, cap, cur, rfl, hbg, hg, hnc, hcm, _⟩
  · exact ⟨none, 0, rfl, Nat.le_refl _, Nat.zero_le _, fun _ => rfl, fun a h => by simp at h⟩
  · exact ⟨some ⟨g, 0, none⟩, cap, rfl, hnc, hcm, fun h => by simp at h, fun a h => ⟨g, by simpa using h.symm, hbg, (Array.getElem?_eq_some_iff.1 hg).1⟩⟩
theorem Oi.lt (h : Oi w base v n l) : ∀ k, v.ownBlock = some k → base ≤ k ∧ k < w.heap.size := World.ownsRow.lt h
theorem Oi.lower (h : Oi w base v n l) {b : Nat} (hb : b ≤ base) : Oi w b v n l := by
  refine ⟨h.1, ?_⟩
  rcases h.2 with h2 | ⟨g, cap, cur, e, hbg, r⟩
  · exact .inl h2
  · exact .inr ⟨g, cap, cur, e, by omega, r⟩
theorem Oi.keep (h : Oi w base v n l) {B : Nat} (hb : Below B w w') (hB : ∀ k, v.ownBlock = some k → k < B) : Oi w' base v n l := by
  refine ⟨h.1, ?_⟩
  rcases h.2 with h2 | ⟨g, cap, cur, e, hbg, hg, r⟩
  · exact .inl h2
  · exact .inr ⟨g, cap, cur, e, hbg, (hb.block g (hB g (by rw [e]; rfl))).trans hg, r⟩
theorem Oi.below (h : Oi w base v n l) (hb : Below w.heap.size w w') : Oi w' base v n l := h.keep hb fun k hk => (h.lt k hk).2
theorem Oi.grown (h : Oi w base v n l) {row : Option Nat} (hg : w.grownBy w' row) (hne : v.ownBlock = none ∨ v.ownBlock ≠ row) : Oi w' base v n l := World.ownsRow.kept h hg hne
theorem Oi.other (h : Oi w base v n l) {T : TypeId} {g : Nat} {cs : List Value} (hv : Vb T w g cs) (hT : T ≠ 3) (hg : w.grownBy w' (some g)) : Oi w' base v n l := by
  refine h.grown hg ?_
  rcases h.2 with ⟨rfl, _⟩ | ⟨k, cap, cur, rfl, hbg, hk, _⟩
  · exact .inl rfl
  · refine .inr (fun e => ?_)
    have e : k = g := by simpa [Value.ownBlock] using e
    subst e
    rw [show w.heap[k]? = _ from hv] at hk
    have hk := Option.some.inj hk
    injection hk with _ h2 _
    exact hT h2
theorem Oi.rd {A : Option Addr} {c : Nat} (h : Oi w base (.slice A n c) n l) : Rd .i64 w w.heap.size A n c l := by
  obtain ⟨A', c', e, h1, h2, h3, h4⟩ := h.form
  injection e with e1 e2 e3
  subst e1 e3
  refine ⟨h.len, h1, h2, h3, fun hn => ?_⟩
  obtain ⟨g, cap, hv, _, hlt⟩ := World.ownsRow.form h hn
  injection hv with hA _ _
  subst hA
  refine ⟨g, 0, rfl, hlt, fun j hj => ?_⟩
  have hl := h.len
  have := World.ownsRow.cells h (g := g) rfl j (.int .i64 (l.getD j 0)) (by
    rw [List.getElem?_map, List.getElem?_eq_getElem (by omega), List.getD_eq_getElem?_getD, List.getElem?_eq_getElem (by omega)]; rfl)
  have hadd : (⟨g, 0, none⟩ : Addr).add j = ⟨g, 0 + j, none⟩ := by unfold Addr.add; split <;> simp_all
  rw [← hadd]; exact this
/-- The block and the cells of one that is not empty. -/
theorem Oi.at_ (h : Oi w base v n l) (hn : 0 < n) : ∃ g c, v = .slice (some ⟨g, 0, none⟩) n c ∧ base ≤ g ∧ g < w.heap.size ∧ n ≤ c ∧ c ≤ maxLen ∧ ∀ j, j < n → w.cell? ⟨g, j, none⟩ = some (.int .i64 (l.getD j 0)) ∧ w.frozen? ⟨g, j, none⟩ = false := by
  obtain ⟨A, c, rfl, h1, h2, h3, h4⟩ := h.form
  obtain ⟨b, off, rfl, hb, hc⟩ := h.rd.at_ hn
  obtain ⟨g, e, h5, h6⟩ := h4 _ rfl
  injection e with e1 e2 e3
  subst e1 e2
  refine ⟨b, c, rfl, h5, h6, h1, h2, fun j hj => ⟨?_, World.ownsRow.frozenAt h j⟩⟩
  have := hc j hj
  rwa [Nat.zero_add] at this
theorem Oi.set {g c : Nat} (h : Oi w base (.slice (some ⟨g, 0, none⟩) n c) n l) (j : Nat) (x : Int) : Oi (w.setCell ⟨g, j, none⟩ (.int .i64 x)) base (.slice (some ⟨g, 0, none⟩) n c) n (l.set j x) := by
  have := (World.ownsRow.stored h j (.int .i64 x)).1
  unfold Oi
  rwa [List.map_set]
theorem Oi.lit (w : World) (l : List Int) (base : Nat) (hb : base ≤ w.heap.size) (h : l.length ≤ maxLen) :
    Oi (w.alloc (.cells (l.map (Value.int .i64)).toArray 3)) base (.slice (some ⟨w.heap.size, 0, none⟩) l.length l.length) l.length l := by
  have := World.ownsRow_lit (base := base) (e := 3) (size := 1) w (l.map (Value.int .i64)).toArray l.length hb h (by simp)
  simpa [Oi] using this
end
/-- append(x, y...) of ints, x the call's own: as an equation. -/
theorem run_appendI {w : World} (ty : TypeId) {base B : Nat} {v : Value} {n m c : Nat} {A : Option Addr} {l l2 : List Int} (hown : Oi w base v n l) (hr : Rd .i64 w B A m c l2)
    (hsz : n + m ≤ 17592186044416) (hbase : base ≤ w.heap.size) :
    ∃ A' c' w', (Builtin.append_ #[29, 29] ty #[v, .slice A m c]).run Try.prog w = .ok (.slice A' (n + m) c') w' ∧ Oi w' base (.slice A' (n + m) c') (n + m) (l ++ l2) ∧ Below base w w' ∧ w.grownBy w' v.ownBlock ∧ ((Value.slice A' (n + m) c').ownBlock = v.ownBlock ∨ ∀ k, (Value.slice A' (n + m) c').ownBlock = some k → w.heap.size ≤ k) := by
  obtain ⟨i0, hi, hz0, hz1, hz2⟩ := info_parts info_int8
  rcases A with _ | ad
  · have hc : c = 0 := hr.2.2.2.1 rfl
    have hm : m = 0 := by have := hr.le; omega
    subst hc hm
    have hl2 : l2 = [] := List.eq_nil_of_length_eq_zero hr.len
    subst hl2
    obtain ⟨A', c', e, _⟩ := hown.form
    subst e
    exact ⟨A', c', w, run_append_owned_none (P := Try.prog) (w := w) base 29 ty 3 i0 1 Try.underlying29 hi _ n _ hown, by simpa using hown, Below.refl _ _, ⟨rfl, rfl, rfl, Nat.le_refl _, fun _ _ _ => rfl⟩, .inl rfl⟩
  · have hcells : ∀ j u, (l2.map (Value.int .i64))[j]? = some u → w.cell? (ad.add j) = some u := by
      intro j u hu
      have hjl : j < l2.length := by
        rcases Nat.lt_or_ge j l2.length with h | h
        · exact h
        · simp [List.getElem?_eq_none (show (l2.map (Value.int .i64)).length ≤ j by simpa using h)] at hu
      obtain ⟨b, off, e, _, hc⟩ := hr.at_ (by have := hr.len; omega)
      have e := Option.some.inj e
      subst e
      rw [add_addr, hc j (by have := hr.len; omega)]
      rw [List.getElem?_map, List.getElem?_eq_getElem hjl] at hu
      simp at hu
      rw [List.getD_eq_getElem?_getD, List.getElem?_eq_getElem hjl, ← hu]; rfl
    obtain ⟨v', w', hrun, h2, h3, h4, h5⟩ := run_append_own_at (P := Try.prog) w base 29 ty 3 i0 _ 1 8 Try.underlying29 hi hz0 hz1 hz2 rfl (by omega) v n _ hown ad m c (l2.map (Value.int .i64)) (by simp [hr.len]) hcells
      (by intro u hu; obtain ⟨z, _, rfl⟩ := List.mem_map.1 hu; rfl) (by unfold maxLen; omega) (by omega) hbase
    have hown' : Oi w' base v' (n + m) (l ++ l2) := by unfold Oi; rw [List.map_append]; exact h2
    obtain ⟨A', c', e, _⟩ := hown'.form
    subst e
    exact ⟨A', c', w', hrun, hown', (Below.refl base w).grown h3 hbase fun k hk => (World.ownsRow.lt hown k hk).1, h3, h5.imp id fun e k hk => by rw [e] at hk; have := Option.some.inj hk; omega⟩
end Go.Proofs.Ytlmonnggklfniaa.Oct

namespace Go.Proofs.Ytlmonnggklfniaa.Oct
open Go.RowKit
set_option linter.unusedVariables false

/-- A port of a group. -/
def isPort (p : Int) : Bool := decide (1 ≤ p ∧ p ≤ 4)
theorem isPort_iff (p : Int) : isPort p = true ↔ 1 ≤ p ∧ p ≤ 4 := by unfold isPort; simp
/-- The ports that live, as bits 1 to 4. -/
def Sg (s : Int) : Prop := 0 ≤ s ∧ s < 32
def bitG (s p : Int) : Bool := s / 2 ^ p.toNat % 2 == 1
def withG (s p : Int) : Int := if bitG s p then s else s + 2 ^ p.toNat
def outG (s p : Int) : Int := if bitG s p then s - 2 ^ p.toNat else s
theorem portCases {p : Int} (h : 1 ≤ p ∧ p ≤ 4) : p = 1 ∨ p = 2 ∨ p = 3 ∨ p = 4 := by omega
theorem sg_fin {s : Int} (h : Sg s) : ∃ k : Fin 32, s = (k.val : Int) := ⟨⟨s.toNat, by have := h.1; have := h.2; omega⟩, by have := h.1; simp; omega⟩
theorem port_fin {p : Int} (h : 1 ≤ p ∧ p ≤ 4) : ∃ k : Fin 4, p = (k.val : Int) + 1 := ⟨⟨p.toNat - 1, by omega⟩, by simp; omega⟩
theorem with_tab : ∀ (s : Fin 32) (p q : Fin 4), bitG (withG (s.val : Int) ((p.val : Int) + 1)) ((q.val : Int) + 1) = (bitG (s.val : Int) ((q.val : Int) + 1) || decide (p = q)) ∧ 0 ≤ withG (s.val : Int) ((p.val : Int) + 1) ∧ withG (s.val : Int) ((p.val : Int) + 1) < 32 := by decide +kernel
theorem out_tab : ∀ (s : Fin 32) (p q : Fin 4), bitG (outG (s.val : Int) ((p.val : Int) + 1)) ((q.val : Int) + 1) = (bitG (s.val : Int) ((q.val : Int) + 1) && !decide (p = q)) ∧ 0 ≤ outG (s.val : Int) ((p.val : Int) + 1) ∧ outG (s.val : Int) ((p.val : Int) + 1) < 32 := by decide +kernel
theorem fin_eq4 (p q : Fin 4) : decide (p = q) = decide ((p.val : Int) + 1 = (q.val : Int) + 1) := by
  by_cases h : p = q
  · subst h; simp
  · have h2 : ¬ (p.val : Int) + 1 = (q.val : Int) + 1 := fun e => h (Fin.ext (by omega))
    rw [decide_eq_false h, decide_eq_false h2]
theorem with_bit {s p q : Int} (hs : Sg s) (hp : 1 ≤ p ∧ p ≤ 4) (hq : 1 ≤ q ∧ q ≤ 4) : bitG (withG s p) q = (bitG s q || decide (p = q)) := by
  obtain ⟨a, rfl⟩ := sg_fin hs
  obtain ⟨b, rfl⟩ := port_fin hp
  obtain ⟨c, rfl⟩ := port_fin hq
  rw [(with_tab a b c).1, fin_eq4]
theorem out_bit {s p q : Int} (hs : Sg s) (hp : 1 ≤ p ∧ p ≤ 4) (hq : 1 ≤ q ∧ q ≤ 4) : bitG (outG s p) q = (bitG s q && !decide (p = q)) := by
  obtain ⟨a, rfl⟩ := sg_fin hs
  obtain ⟨b, rfl⟩ := port_fin hp
  obtain ⟨c, rfl⟩ := port_fin hq
  rw [(out_tab a b c).1, fin_eq4]
theorem with_sg {s p : Int} (hs : Sg s) (hp : 1 ≤ p ∧ p ≤ 4) : Sg (withG s p) := by
  obtain ⟨a, rfl⟩ := sg_fin hs
  obtain ⟨b, rfl⟩ := port_fin hp
  exact (with_tab a b 0).2
theorem out_sg {s p : Int} (hs : Sg s) (hp : 1 ≤ p ∧ p ≤ 4) : Sg (outG s p) := by
  obtain ⟨a, rfl⟩ := sg_fin hs
  obtain ⟨b, rfl⟩ := port_fin hp
  exact (out_tab a b 0).2
theorem bit_zero {p : Int} (hp : 1 ≤ p ∧ p ≤ 4) : bitG 0 p = false := by
  rcases portCases hp with rfl | rfl | rfl | rfl <;> decide
/-- What a port is told. -/
def liveG (s p : Int) (b : Bool) : Int := if b then withG s p else outG s p
theorem live_sg {s p : Int} {b : Bool} (hs : Sg s) (hp : 1 ≤ p ∧ p ≤ 4) : Sg (liveG s p b) := by
  cases b
  · exact out_sg hs hp
  · exact with_sg hs hp
theorem live_bit {s p q : Int} {b : Bool} (hs : Sg s) (hp : 1 ≤ p ∧ p ≤ 4) (hq : 1 ≤ q ∧ q ≤ 4) : bitG (liveG s p b) q = if p = q then b else bitG s q := by
  cases b
  · show bitG (outG s p) q = _
    rw [out_bit hs hp hq]
    by_cases h : p = q <;> simp [h]
  · show bitG (withG s p) q = _
    rw [with_bit hs hp hq]
    by_cases h : p = q <;> simp [h]
/-- A group of ports, behind those that s has; none, if one is wrong. -/
def newG : Int → List Int → Option Int
  | s, [] => some s
  | s, p :: l => if isPort p && !bitG s p then newG (withG s p) l else none
theorem newG_bad {s p : Int} {l : List Int} (h : (isPort p && !bitG s p) = false) : newG s (p :: l) = none := by
  show (if _ then _ else _) = _
  rw [h]; rfl
theorem newG_good {s p : Int} {l : List Int} (h : (isPort p && !bitG s p) = true) : newG s (p :: l) = newG (withG s p) l := by
  show (if _ then _ else _) = _
  rw [h]; rfl
theorem newG_some : ∀ (l : List Int) {s t : Int}, Sg s → newG s l = some t → Sg t ∧ (∀ p ∈ l, 1 ≤ p ∧ p ≤ 4) ∧ (∀ q, 1 ≤ q ∧ q ≤ 4 → bitG t q = (bitG s q || decide (q ∈ l)))
  | [], s, t, hs, h => by
    have h := Option.some.inj h
    subst h
    exact ⟨hs, fun p hp => by simp at hp, fun q _ => by simp⟩
  | p :: l, s, t, hs, h => by
    cases hb : (isPort p && !bitG s p) with
    | false => rw [newG_bad hb] at h; simp at h
    | true =>
      rw [newG_good hb] at h
      have hp : 1 ≤ p ∧ p ≤ 4 := by rw [← isPort_iff]; cases h2 : isPort p <;> simp_all
      obtain ⟨h1, h2, h3⟩ := newG_some l (with_sg hs hp) h
      refine ⟨h1, fun q hq => ?_, fun q hq => ?_⟩
      · rcases List.mem_cons.1 hq with rfl | hq
        · exact hp
        · exact h2 q hq
      · rw [h3 q hq, with_bit hs hp hq, Bool.or_assoc]
        congr 1
        by_cases e : p = q
        · subst e; simp
        · have e2 : ¬ q = p := fun h => e h.symm
          simp [e, e2]
theorem newG_ok : ∀ (l : List Int) {s : Int}, Sg s → (∀ p ∈ l, 1 ≤ p ∧ p ≤ 4) → l.Nodup → (∀ p ∈ l, bitG s p = false) → ∃ t, newG s l = some t
  | [], s, hs, _, _, _ => ⟨s, rfl⟩
  | p :: l, s, hs, h1, h2, h3 => by
    have hp := h1 p (by simp)
    have hb : (isPort p && !bitG s p) = true := by rw [(isPort_iff p).2 hp, h3 p (by simp)]; rfl
    rw [newG_good hb]
    rw [List.nodup_cons] at h2
    refine newG_ok l (with_sg hs hp) (fun q hq => h1 q (by simp [hq])) h2.2 (fun q hq => ?_)
    rw [with_bit hs hp (h1 q (by simp [hq])), h3 q (by simp [hq])]
    have : ¬ p = q := fun e => h2.1 (e ▸ hq)
    simp [this]
theorem drop_step {l : List Int} {k : Nat} (h : k < l.length) : l.drop k = l.getD k 0 :: l.drop (k + 1) := by
  rw [List.drop_eq_getElem_cons h, List.getD_eq_getElem?_getD, List.getElem?_eq_getElem h]
  rfl
/-- The first port that lives. -/
def firstG (s : Int) : List Int → Option Int
  | [] => none
  | p :: l => if bitG s p then some p else firstG s l
theorem firstG_yes {s p : Int} {l : List Int} (h : bitG s p = true) : firstG s (p :: l) = some p := by
  show (if _ then _ else _) = _
  rw [h]; rfl
theorem firstG_no {s p : Int} {l : List Int} (h : bitG s p = false) : firstG s (p :: l) = firstG s l := by
  show (if _ then _ else _) = _
  rw [h]; rfl
/-- What First answers. -/
def firstN (s : Int) (l : List Int) : Int := (firstG s l).getD 0
def firstB (s : Int) (l : List Int) : Bool := (firstG s l).isSome
theorem mem_step (p x : Int) (l : List Int) : decide (p ∈ x :: l) = (decide (x = p) || decide (p ∈ l)) := by
  by_cases h : x = p
  · subst h; simp
  · have h2 : ¬ p = x := fun e => h e.symm
    by_cases h3 : p ∈ l <;> simp [h, h2, h3]
end Go.Proofs.Ytlmonnggklfniaa.Oct

namespace Go.Proofs.Ytlmonnggklfniaa.Oct
open Go.RowKit
set_option linter.unusedVariables false
set_option linter.unusedSimpArgs false

theorem bits_has1 : ∀ s : Fin 32, (bits BinOp.and IntKind.u8 ((s.val : Int) / 2) 1 == 1) = bitG (s.val : Int) 1 := by decide +kernel
theorem bits_with1 : ∀ s : Fin 32, bits BinOp.or IntKind.u8 (s.val : Int) 2 = withG (s.val : Int) 1 := by decide +kernel
theorem bits_out1 : ∀ s : Fin 32, bits BinOp.andNot IntKind.u8 (s.val : Int) 2 = outG (s.val : Int) 1 := by decide +kernel
theorem bits_has2 : ∀ s : Fin 32, (bits BinOp.and IntKind.u8 ((s.val : Int) / 4) 1 == 1) = bitG (s.val : Int) 2 := by decide +kernel
theorem bits_with2 : ∀ s : Fin 32, bits BinOp.or IntKind.u8 (s.val : Int) 4 = withG (s.val : Int) 2 := by decide +kernel
theorem bits_out2 : ∀ s : Fin 32, bits BinOp.andNot IntKind.u8 (s.val : Int) 4 = outG (s.val : Int) 2 := by decide +kernel
theorem bits_has3 : ∀ s : Fin 32, (bits BinOp.and IntKind.u8 ((s.val : Int) / 8) 1 == 1) = bitG (s.val : Int) 3 := by decide +kernel
theorem bits_with3 : ∀ s : Fin 32, bits BinOp.or IntKind.u8 (s.val : Int) 8 = withG (s.val : Int) 3 := by decide +kernel
theorem bits_out3 : ∀ s : Fin 32, bits BinOp.andNot IntKind.u8 (s.val : Int) 8 = outG (s.val : Int) 3 := by decide +kernel
theorem bits_has4 : ∀ s : Fin 32, (bits BinOp.and IntKind.u8 ((s.val : Int) / 16) 1 == 1) = bitG (s.val : Int) 4 := by decide +kernel
theorem bits_with4 : ∀ s : Fin 32, bits BinOp.or IntKind.u8 (s.val : Int) 16 = withG (s.val : Int) 4 := by decide +kernel
theorem bits_out4 : ∀ s : Fin 32, bits BinOp.andNot IntKind.u8 (s.val : Int) 16 = outG (s.val : Int) 4 := by decide +kernel
end Go.Proofs.Ytlmonnggklfniaa.Oct

namespace Go.Proofs.Ytlmonnggklfniaa.Oct
open Go.RowKit
set_option linter.unusedVariables false
set_option linter.unusedSimpArgs false

theorem retB {a b : Bool} (h : a = b) : Ending.returned (.bool a) = .returned (.bool b) := by rw [h]
set_option maxRecDepth 100000 in
theorem eqInts_any {w : World} {B1 B2 : Nat} {A1 A2 : Option Addr} {n1 c1 n2 c2 : Nat} {l1 l2 : List Int} (h1 : Rd .i64 w B1 A1 n1 c1 l1) (h2 : Rd .i64 w B2 A2 n2 c2 l2) (hB1 : B1 ≤ w.heap.size) (hB2 : B2 ≤ w.heap.size) :
    Calls Try.prog 13 #[.slice A1 n1 c1, .slice A2 n2 c2] w fun e w' => e = .returned (.bool (decide (l1 = l2))) ∧ Below w.heap.size w w' := by
  have e1 := h1.len
  have e2 := h2.len
  have m1 := h1.max
  by_cases hn : n1 = n2
  · subst hn
    have hb0 := Below.refl w.heap.size w
    have hB1 := Kp.mk hB1
    have hB2 := Kp.mk hB2
    have HL1 := Kp.mk e1
    have HL2 := Kp.mk e2
    have H1 := Kp.mk h1
    have H2 := Kp.mk h2
    clear e1 e2 h1 h2
    go_enter Try.func13, Try.ntmps13
    go_wp2_with fail
    go_loopw [5] (fun s5 wr => ∃ k : Nat, s5 = .int .i64 k ∧ k ≤ n1 ∧ Below w.heap.size w wr ∧ Kp (l1.take k = l2.take k)) (fun s5 _ => n1 - (intOf s5).toNat)
    case atStart => exact ⟨0, rfl, Nat.zero_le _, hb0, Kp.mk rfl⟩
    case round =>
      clear hb0
      obtain ⟨k, rfl, hk, hbw, HT⟩ := hrel
      by_cases hlt : k < n1
      · obtain ⟨b1, o1, rfl, _, f1⟩ := (H1.out.below' hbw hB1.out).at_ (by omega)
        have j1 : (k : Int) < n1 := by omega
        obtain ⟨b2, o2, rfl, _, f2⟩ := (H2.out.below' hbw hB2.out).at_ (by omega)
        have d1 := f1 k hlt
        have d2 := f2 k hlt
        clear f1 f2
        have HS1 := Kp.mk (take_snoc l1 k (by have := HL1.out; omega))
        have HS2 := Kp.mk (take_snoc l2 k (by have := HL2.out; omega))
        have HG1 := Kp.mk (show l1[k]? = some (l1.getD k 0) by rw [List.getD_eq_getElem?_getD, List.getElem?_eq_getElem (by have := HL1.out; omega)]; rfl)
        have HG2 := Kp.mk (show l2[k]? = some (l2.getD k 0) by rw [List.getD_eq_getElem?_getD, List.getElem?_eq_getElem (by have := HL2.out; omega)]; rfl)
        generalize l1.getD k 0 = x at *
        generalize l2.getD k 0 = y at *
        by_cases hxy : x = y
        · have hne : (x != y) = false := by simp [hxy]
          have HT2 := Kp.mk (show l1.take (k + 1) = l2.take (k + 1) by rw [HS1.out, HS2.out, HT.out, hxy])
          clear hxy
          go_wp2_with fail
          go_quiet (fail)
          go_wp2_with fail
          go_roundw
          case rel => exact ⟨k + 1, by go_num, by omega, below_drewN hbw _, HT2⟩
          case measure => simp [intOf]; omega
        · have hne : (x != y) = true := by simp [hxy]
          have HD := Kp.mk (show decide (l1 = l2) = false by
            refine decide_eq_false (fun e => hxy ?_)
            have g1 := HG1.out
            rw [e, HG2.out] at g1
            exact (Option.some.inj g1).symm)
          clear hxy
          go_wp2_with fail
          go_quiet (fail)
          go_wp2_with fail
          go_ret
          exact ⟨by rw [HD.out]; rfl, below_drewN hbw _⟩
      · obtain rfl : k = n1 := by omega
        have HD := Kp.mk (show decide (l1 = l2) = true by
          refine decide_eq_true ?_
          have := HT.out
          rwa [List.take_of_length_le (by have := HL1.out; omega), List.take_of_length_le (by have := HL2.out; omega)] at this)
        go_wp2_with fail
        go_ret
        exact ⟨by rw [HD.out]; rfl, hbw⟩
  · have HD := Kp.mk (show decide (l1 = l2) = false from decide_eq_false (fun e => hn (by rw [← e1, ← e2, e])))
    have hn2 : ¬ (n1 : Int) = n2 := by omega
    have hne : ((n1 : Int) != n2) = true := by simpa using hn2
    clear hn e1 e2 h1 h2
    go_enter Try.func13, Try.ntmps13
    go_wp2_with fail
    go_ret
    exact ⟨by rw [HD.out]; rfl, Below.refl _ _⟩
end Go.Proofs.Ytlmonnggklfniaa.Oct
