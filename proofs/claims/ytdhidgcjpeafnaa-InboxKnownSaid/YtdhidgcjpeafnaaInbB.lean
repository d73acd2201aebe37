/- Layer 14 (inbox): rows of values of one cell that the call owns; what is kept, by how far it is ahead; an inbox in memory. -/
import Derived.Test.YtdhidgcjpeafnaaInbA
import Derived.Test.YtdhidgcjpeafnaaSerA
namespace Go.Proofs.Ytdhidgcjpeafnaa.Oct
open Go.RowKit
set_option linter.unusedVariables false
set_option linter.unusedSimpArgs false

/-! Rows of values. -/
def Vr (E : TypeId) (w : World) (base : Nat) (v : Value) (n : Nat) (xs : List Value) : Prop := w.ownsRow base E 1 v n xs
/-- A slice that reads as values, below block B. -/
def Vd (w : World) (B : Nat) (A : Option Addr) (n c : Nat) (xs : List Value) : Prop :=
  xs.length = n ∧ n ≤ c ∧ c ≤ maxLen ∧ (A = none → c = 0) ∧ (0 < n → ∃ b off, A = some ⟨b, off, none⟩ ∧ b < B ∧ ∀ (j : Nat) (u : Value), xs[j]? = some u → w.cell? ⟨b, off + j, none⟩ = some u)
section
variable {E : TypeId} {w w' : World} {base B n : Nat} {v : Value} {xs ys : List Value}
theorem Vr.len (h : Vr E w base v n xs) : xs.length = n := by have := h.1; simpa using this
theorem Vr.nil0 (E : TypeId) (w : World) (base : Nat) : Vr E w base (.slice none 0 0) 0 [] := World.ownsRow_nil w base _ 1
theorem Vr.form (h : Vr E w base v n xs) : ∃ A c, v = .slice A n c ∧ n ≤ c ∧ c ≤ maxLen ∧ (A = none → c = 0) ∧ (∀ a, A = some a → ∃ g, a = ⟨g, 0, none⟩ ∧ base ≤ g ∧ g < w.heap.size) := by
  rcases h.2 with ⟨rfl, rfl⟩ | ⟨g, cap, cur, rfl, hbg, hg, hnc, hcm, _⟩
  · exact ⟨none, 0, rfl, Nat.le_refl _, Nat.zero_le _, fun _ => rfl, fun a h => by simp at h⟩
  · exact ⟨some ⟨g, 0, none⟩, cap, rfl, hnc, hcm, fun h => by simp at h, fun a h => ⟨g, by simpa using h.symm, hbg, (Array.getElem?_eq_some_iff.1 hg).1⟩⟩
theorem Vr.lt (h : Vr E w base v n xs) : ∀ k, v.ownBlock = some k → base ≤ k ∧ k < w.heap.size := World.ownsRow.lt h
theorem Vr.typed (h : Vr E w base v n xs) : ∀ k, v.ownBlock = some k → ∃ cur, w.heap[k]? = some (.cells cur E (0, 0)) := by
  intro k hk
  rcases h.2 with ⟨rfl, _⟩ | ⟨g, cap, cur, rfl, hbg, hg, _⟩
  · simp [Value.ownBlock] at hk
  · simp [Value.ownBlock] at hk
    subst hk
    exact ⟨cur, hg⟩
theorem Vr.lower (h : Vr E w base v n xs) {b : Nat} (hb : b ≤ base) : Vr E w b v n xs := by
  refine ⟨h.1, ?_⟩
  rcases h.2 with h2 | ⟨g, cap, cur, e, hbg, r⟩
  · exact .inl h2
  · exact .inr ⟨g, cap, cur, e, by omega, r⟩
theorem Vr.stay {S : Nat → Prop} (h : Vr E w base v n xs) (hc : Ch S w w') (hs : ∀ k, v.ownBlock = some k → ¬ S k) : Vr E w' base v n xs := by
  refine ⟨h.1, ?_⟩
  rcases h.2 with h2 | ⟨g, cap, cur, e, hbg, hg, r⟩
  · exact .inl h2
  · exact .inr ⟨g, cap, cur, e, hbg, (hc.block g (Array.getElem?_eq_some_iff.1 hg).1 (hs g (by rw [e]; rfl))).trans hg, r⟩
theorem Vr.below (h : Vr E w base v n xs) (hb : Below w.heap.size w w') : Vr E w' base v n xs := h.stay (S := fun _ => False) (.of_below hb) (fun _ _ e => e)
theorem Vr.vd {A : Option Addr} {c : Nat} (h : Vr E w base (.slice A n c) n xs) : Vd w w.heap.size A n c xs := by
  obtain ⟨A', c', e, h1, h2, h3, h4⟩ := h.form
  injection e with e1 e2 e3
  subst e1 e3
  refine ⟨h.len, h1, h2, h3, fun hn => ?_⟩
  obtain ⟨g, cap, hv, _, hlt⟩ := World.ownsRow.form h hn
  injection hv with hA _ _
  subst hA
  refine ⟨g, 0, rfl, hlt, fun j u hj => ?_⟩
  have := World.ownsRow.cells h (g := g) rfl j u hj
  rw [← add_addr]; exact this
theorem Vd.len {A : Option Addr} {c : Nat} (h : Vd w B A n c xs) : xs.length = n := h.1
theorem Vd.le {A : Option Addr} {c : Nat} (h : Vd w B A n c xs) : n ≤ c := h.2.1
theorem Vd.max {A : Option Addr} {c : Nat} (h : Vd w B A n c xs) : (n : Int) ≤ 9223372036854775807 := by have := h.2.1; have := h.2.2.1; unfold maxLen at this; omega
theorem Vd.at_ {A : Option Addr} {c : Nat} (h : Vd w B A n c xs) (hn : 0 < n) : ∃ b off, A = some ⟨b, off, none⟩ ∧ b < B ∧ ∀ (j : Nat) (u : Value), xs[j]? = some u → w.cell? ⟨b, off + j, none⟩ = some u := h.2.2.2.2 hn
theorem Vd.below {A : Option Addr} {c : Nat} (h : Vd w B A n c xs) (hb : Below B w w') : Vd w' B A n c xs :=
  ⟨h.1, h.2.1, h.2.2.1, h.2.2.2.1, fun hn => by
    obtain ⟨b, off, e, hlt, hc⟩ := h.at_ hn
    exact ⟨b, off, e, hlt, fun j u hj => (hb.cell (p := ⟨b, _, none⟩) hlt).trans (hc j u hj)⟩⟩
theorem Vd.more {A : Option Addr} {c : Nat} (h : Vd w B A n c xs) {B' : Nat} (hB : B ≤ B') : Vd w B' A n c xs :=
  ⟨h.1, h.2.1, h.2.2.1, h.2.2.2.1, fun hn => by
    obtain ⟨b, off, e, hlt, hc⟩ := h.at_ hn
    exact ⟨b, off, e, by omega, hc⟩⟩
theorem Vd.nil0 (w : World) (B : Nat) : Vd w B none 0 0 [] := ⟨rfl, Nat.le_refl _, Nat.zero_le _, fun _ => rfl, fun h => absurd h (Nat.lt_irrefl 0)⟩
/-- A list literal. -/
theorem vd_lit (E : TypeId) (w : World) (xs : List Value) (hB : w.heap.size < B) (hl : xs.length ≤ 1000000000) : Vd (w.alloc (.cells xs.toArray E)) B (some ⟨w.heap.size, 0, none⟩) xs.length xs.length xs :=
  ⟨rfl, Nat.le_refl _, by unfold maxLen; omega, fun e => by simp at e, fun hn => ⟨w.heap.size, 0, rfl, hB, fun j f hj => by
    rw [Nat.zero_add, World.cell?_alloc_new]
    simp [hj]⟩⟩
theorem vr_lit (E : TypeId) (w : World) (xs : List Value) (hb : base ≤ w.heap.size) (hl : xs.length ≤ 1000000000) : Vr E (w.alloc (.cells xs.toArray E)) base (.slice (some ⟨w.heap.size, 0, none⟩) xs.length xs.length) xs.length xs := by
  have := World.ownsRow_lit (base := base) (e := E) (size := 1) w xs.toArray xs.length hb (by unfold maxLen; omega) (by simp)
  simpa [Vr] using this
/-- append(x, y...), x the call's own: as an equation. -/
theorem run_appendV {T : TypeId} (hT : Try.prog.underlying T = some (.slice E)) {z : Value} {bytes : Nat} (hinfo : (Try.prog.info? E).map (fun i => (i.zero, i.size, i.bytes)) = some (some z, 1, bytes)) (hzc : z.cells.size = 1) (hby : bytes ≤ 24) (ty : TypeId)
    {m c : Nat} {A : Option Addr} (hown : Vr E w base v n xs) (hr : Vd w B A m c ys) (h1 : ∀ u ∈ ys, u.oneCell' = true)
    (hsz : n + m ≤ 1000000000) (hbase : base ≤ w.heap.size) :
    ∃ A' c' w', (Builtin.append_ #[T, T] ty #[v, .slice A m c]).run Try.prog w = .ok (.slice A' (n + m) c') w' ∧ Vr E w' base (.slice A' (n + m) c') (n + m) (xs ++ ys) ∧ Ch (fun k => v.ownBlock = some k) w w' ∧ ((Value.slice A' (n + m) c').ownBlock = v.ownBlock ∨ ∀ k, (Value.slice A' (n + m) c').ownBlock = some k → w.heap.size ≤ k) := by
  obtain ⟨i0, hi, hz0, hz1, hz2⟩ := info_parts hinfo
  rcases A with _ | ad
  · have hc : c = 0 := hr.2.2.2.1 rfl
    have hm : m = 0 := by have := hr.le; omega
    subst hc hm
    have hl2 : ys = [] := List.eq_nil_of_length_eq_zero hr.len
    subst hl2
    obtain ⟨A', c', e, _⟩ := hown.form
    subst e
    exact ⟨A', c', w, run_append_owned_none (P := Try.prog) (w := w) base T ty E i0 1 hT hi _ n _ hown, by simpa using hown, Ch.refl _ _, .inl rfl⟩
  · have hcells : ∀ j u, ys[j]? = some u → w.cell? (ad.add j) = some u := by
      intro j u hu
      have hjl := (List.getElem?_eq_some_iff.1 hu).1
      obtain ⟨b, off, e, _, hc⟩ := hr.at_ (by have := hr.len; omega)
      have e := Option.some.inj e
      subst e
      rw [add_addr]
      exact hc j u hu
    obtain ⟨v', w', hrun, h2, h3, h4, h5⟩ := run_append_own_at (P := Try.prog) w base T ty E i0 _ 1 bytes hT hi hz0 hz1 hz2 hzc (by omega) v n _ hown ad m c ys (by simp [hr.len]) hcells
      h1 (by unfold maxLen; omega) (by have : (n + m) * bytes ≤ 1000000000 * 24 := Nat.mul_le_mul hsz hby; omega) hbase
    obtain ⟨A', c', e, _⟩ := Vr.form (E := E) h2
    subst e
    exact ⟨A', c', w', hrun, h2, .of_grownv h3, h5.imp id fun e k hk => by rw [e] at hk; have := Option.some.inj hk; omega⟩
end

/-! What is kept. -/
abbrev OV := Option Value
def kpt (nx : Int) (p0 p1 p2 p3 : OV) : Int → OV := fun k => if k = nx then p0 else if k = Ser.plusP nx 1 then p1 else if k = Ser.plusP nx 2 then p2 else if k = Ser.plusP nx 3 then p3 else none
def one1 (o : OV) : Nat := if o.isSome then 1 else 0
def cnt (p1 p2 p3 : OV) : Nat := one1 p1 + one1 p2 + one1 p3
theorem plusP_bd (a n : Int) : 0 ≤ Ser.plusP a n ∧ Ser.plusP a n < 65536 := by unfold Ser.plusP; omega
section
variable {nx : Int} {p0 p1 p2 p3 : OV}
theorem plus_cases (h0 : 0 ≤ nx) (h1 : nx < 65536) (d : Int) (hd : 0 ≤ d) (hd3 : d ≤ 3) : Ser.plusP nx d = if 65536 ≤ nx + d then nx + d - 65536 else nx + d := by unfold Ser.plusP; split <;> omega
theorem kpt_0 : kpt nx p0 p1 p2 p3 nx = p0 := by unfold kpt; rw [if_pos rfl]
theorem kpt_1 (h0 : 0 ≤ nx) (h1 : nx < 65536) : kpt nx p0 p1 p2 p3 (Ser.plusP nx 1) = p1 := by unfold kpt Ser.plusP; rw [if_neg (by omega), if_pos rfl]
theorem kpt_2 (h0 : 0 ≤ nx) (h1 : nx < 65536) : kpt nx p0 p1 p2 p3 (Ser.plusP nx 2) = p2 := by unfold kpt Ser.plusP; rw [if_neg (by omega), if_neg (by omega), if_pos rfl]
theorem kpt_3 (h0 : 0 ≤ nx) (h1 : nx < 65536) : kpt nx p0 p1 p2 p3 (Ser.plusP nx 3) = p3 := by unfold kpt Ser.plusP; rw [if_neg (by omega), if_neg (by omega), if_neg (by omega), if_pos rfl]
theorem setF_0 (h0 : 0 ≤ nx) (h1 : nx < 65536) (o : OV) : setF (kpt nx p0 p1 p2 p3) nx o = kpt nx o p1 p2 p3 := by
  funext k
  unfold setF kpt
  by_cases e : k = nx
  · simp [e]
  · simp [e]
theorem setF_1 (h0 : 0 ≤ nx) (h1 : nx < 65536) (o : OV) : setF (kpt nx p0 p1 p2 p3) (Ser.plusP nx 1) o = kpt nx p0 o p2 p3 := by
  funext k
  unfold setF kpt
  by_cases e : k = Ser.plusP nx 1
  · have : Ser.plusP nx 1 ≠ nx := by unfold Ser.plusP; omega
    simp [e, this]
  · simp [e]
theorem setF_2 (h0 : 0 ≤ nx) (h1 : nx < 65536) (o : OV) : setF (kpt nx p0 p1 p2 p3) (Ser.plusP nx 2) o = kpt nx p0 p1 o p3 := by
  funext k
  unfold setF kpt
  by_cases e : k = Ser.plusP nx 2
  · have a1 : Ser.plusP nx 2 ≠ nx := by unfold Ser.plusP; omega
    have a2 : Ser.plusP nx 2 ≠ Ser.plusP nx 1 := by unfold Ser.plusP; omega
    simp [e, a1, a2]
  · simp [e]
theorem setF_3 (h0 : 0 ≤ nx) (h1 : nx < 65536) (o : OV) : setF (kpt nx p0 p1 p2 p3) (Ser.plusP nx 3) o = kpt nx p0 p1 p2 o := by
  funext k
  unfold setF kpt
  by_cases e : k = Ser.plusP nx 3
  · have a1 : Ser.plusP nx 3 ≠ nx := by unfold Ser.plusP; omega
    have a2 : Ser.plusP nx 3 ≠ Ser.plusP nx 1 := by unfold Ser.plusP; omega
    have a3 : Ser.plusP nx 3 ≠ Ser.plusP nx 2 := by unfold Ser.plusP; omega
    simp [e, a1, a2, a3]
  · simp [e]
theorem kpt_shift (h0 : 0 ≤ nx) (h1 : nx < 65536) : kpt nx none p1 p2 p3 = kpt (Ser.plusP nx 1) p1 p2 p3 none := by
  funext k
  unfold kpt
  have e1 : Ser.plusP (Ser.plusP nx 1) 1 = Ser.plusP nx 2 := by unfold Ser.plusP; omega
  have e2 : Ser.plusP (Ser.plusP nx 1) 2 = Ser.plusP nx 3 := by unfold Ser.plusP; omega
  rw [e1, e2]
  by_cases e : k = nx
  · have a1 : nx ≠ Ser.plusP nx 1 := by unfold Ser.plusP; omega
    have a2 : nx ≠ Ser.plusP nx 2 := by unfold Ser.plusP; omega
    have a3 : nx ≠ Ser.plusP nx 3 := by unfold Ser.plusP; omega
    simp [e, a1, a2, a3]
  · simp [e]
theorem kpt_none : kpt nx none none none none = fun _ => none := by
  funext k; unfold kpt; simp
end
/-- What follows, and what stays behind it. -/
def folK : OV → OV → OV → List Value
  | none, _, _ => []
  | some a, none, _ => [a]
  | some a, some b, none => [a, b]
  | some a, some b, some c => [a, b, c]
def rst : OV → OV → OV → OV × OV × OV
  | none, q2, q3 => (q2, q3, none)
  | some _, none, q3 => (q3, none, none)
  | some _, some _, _ => (none, none, none)
theorem folK_step (a : Value) (q2 q3 : OV) : folK (some a) q2 q3 = a :: folK q2 q3 none := by cases q2 <;> cases q3 <;> rfl
theorem rst_step (a : Value) (q2 q3 : OV) : rst (some a) q2 q3 = rst q2 q3 none := by cases q2 <;> cases q3 <;> rfl
theorem folK_none (q2 q3 : OV) : folK none q2 q3 = [] := rfl
theorem rst_none (q2 q3 : OV) : rst none q2 q3 = (q2, q3, none) := rfl
theorem folK_le (p1 p2 p3 : OV) : (folK p1 p2 p3).length ≤ cnt p1 p2 p3 := by cases p1 <;> cases p2 <;> cases p3 <;> simp [folK, cnt, one1]
theorem cnt_le (p1 p2 p3 : OV) : cnt p1 p2 p3 ≤ 3 := by cases p1 <;> cases p2 <;> cases p3 <;> simp [cnt, one1]
theorem plusP_plusP (a n m : Int) : Ser.plusP (Ser.plusP a n) m = Ser.plusP a (n + m) := by unfold Ser.plusP; omega
/-- An inbox in memory: its own block, its map's. -/
structure Ib (IT : TypeId) (w : World) (x b : Nat) (nx : Int) (p1 p2 p3 : OV) : Prop where
  own : Vb IT w x [.int .u16 nx, .map (some b)]
  mp : Mf w b (kpt nx none p1 p2 p3) (cnt p1 p2 p3)
  r0 : 0 ≤ nx
  r1 : nx < 65536
section
variable {IT : TypeId} {w w' : World} {x b : Nat} {nx : Int} {p1 p2 p3 : OV} {S : Nat → Prop}
theorem Ib.ne (h : Ib IT w x b nx p1 p2 p3) : x ≠ b := fun e => h.mp.nocell _ _ _ (e ▸ h.own)
theorem Ib.stay (h : Ib IT w x b nx p1 p2 p3) (hc : Ch S w w') (hx : ¬ S x) (hb : ¬ S b) : Ib IT w' x b nx p1 p2 p3 := ⟨(hc.block x h.own.lt hx).trans h.own, h.mp.stay hc hb, h.r0, h.r1⟩
theorem Ib.below (h : Ib IT w x b nx p1 p2 p3) (hb : Below w.heap.size w w') : Ib IT w' x b nx p1 p2 p3 := h.stay (S := fun _ => False) (.of_below hb) id id
end
end Go.Proofs.Ytdhidgcjpeafnaa.Oct
