import Derived.Test.YtnoflfbcgbhipaaGreatSesCp
import Derived.Test.YtnoflfbcgbhipaaGreatHaiI
import Derived.Test.YtnoflfbcgbhipaaGreatSesSt
set_option linter.unusedSimpArgs false
set_option linter.unusedVariables false
namespace Go.Proofs.YtnoflfbcgbhipaaGreat.Oct
open Go.RowKit
def mB (v : Int) : List Int := (bytesO (barO v)).1
theorem ok_bar {v : Int} (h : 0 ≤ v ∧ v ≤ 4294967295) : okOrd (barO v) := by
 refine ⟨.inr (.inr (.inr (.inr (.inr (.inl ⟨rfl, h, rfl⟩))))), ?_, ?_⟩
 ·unfold okRu
  rw [if_neg (show ¬ ((barO v).k = 2 ∨ (barO v).k = 3) from (by decide : ¬ ((6 : Int) = 2 ∨ (6 : Int) = 3)))]
  exact (by decide : zeroR noRule)
 ·unfold okPr
  rw [if_neg (show ¬ (barO v).k = 8 from (by decide : ¬ (6 : Int) = 8))]
  exact ⟨rfl, rfl, rfl, rfl, rfl⟩
theorem parse_mB {v : Int} (h : 0 ≤ v ∧ v ≤ 4294967295) : parseO (mB v) = (barO v, 0) := by
 unfold mB bytesO
 rw [if_pos (ok_bar h)]
 exact parseO_bytes (ok_bar h) (u8_barO v)
theorem tells_cons {v : Int} (h : 0 ≤ v ∧ v ≤ 4294967295) (L : List (List Int)) : tells (mB v :: L) = barO v :: tells L := by
 unfold tells
 rw [List.map_cons, parse_mB h, List.filter_cons_of_pos rfl]
def At (r : List Int) (j : Nat) (p : Option (List Int)) : Prop := ∀ l, p = some l → ∃ v, r[j]? = some v ∧ l = mB v
def Run (r : List Int) : Nat → List (List Int) → Prop
 | g, [] => True
 | g, l :: L => (∃ v, r[g]? = some v ∧ l = mB v) ∧ Run r (g + 1) L
theorem At.none (r : List Int) (j : Nat) : At r j none := fun l h => by cases h
theorem At.grow {r : List Int} {j : Nat} {p : Option (List Int)} (h : At r j p) (x : Int) : At (r ++ [x]) j p := fun l hl => by
 obtain ⟨v, h1, h2⟩ := h l hl
 exact ⟨v, by rw [List.getElem?_append_left (List.getElem?_eq_some_iff.1 h1).1]; exact h1, h2⟩
theorem At.or {r : List Int} {j : Nat} {p : Option (List Int)} {l : List Int} {v : Int} (h : At r j p) (h1 : r[j]? = some v) (h2 : l = mB v) : At r j (Bo.orE p l) := by
 cases p with
 | none => exact fun y hy => ⟨v, h1, by rw [← h2]; exact (Option.some.inj hy).symm⟩
 | some z => exact h
theorem Run.le {r : List Int} : ∀ {L : List (List Int)} {g : Nat}, Run r g L → g ≤ r.length → g + L.length ≤ r.length
 | [], g, _, h => h
 | l :: L, g, h, hg => by
  obtain ⟨⟨v, h1, _⟩, h2⟩ := h
  have h3 := (List.getElem?_eq_some_iff.1 h1).1
  have := Run.le h2 h3
  simp only [List.length_cons]
  omega
theorem Run.tells {r : List Int} (hr : ∀ v ∈ r, 0 ≤ v ∧ v ≤ 4294967295) : ∀ {L : List (List Int)} {g : Nat}, Run r g L → (tells L).length = L.length ∧ Follow r g (tells L)
 | [], g, _ => ⟨rfl, fun i o h => by simp [Oct.tells] at h⟩
 | l :: L, g, h => by
  obtain ⟨⟨v, h1, e⟩, h2⟩ := h
  subst e
  have h3 := Run.tells hr h2
  rw [tells_cons (hr v (List.mem_of_getElem? h1))]
  refine ⟨by simp [h3.1], fun i o ho => ?_⟩
  cases i with
  | zero =>
   have e : barO v = o := by simpa using ho
   subst e
   exact ⟨rfl, h1⟩
  | succ i =>
   have h4 := h3.2 i o (by simpa using ho)
   exact ⟨h4.1, by rw [show g + (i + 1) = g + 1 + i by omega]; exact h4.2⟩
theorem run_fol {r : List Int} {n : Nat} {p1 p2 p3 : Option (List Int)} (h1 : At r n p1) (h2 : At r (n + 1) p2) (h3 : At r (n + 2) p3) :
  Run r n (folG p1 p2 p3) ∧ At r (n + (folG p1 p2 p3).length + 1) (rstG p1 p2 p3).1 ∧ At r (n + (folG p1 p2 p3).length + 2) (rstG p1 p2 p3).2.1 ∧ At r (n + (folG p1 p2 p3).length + 3) (rstG p1 p2 p3).2.2 := by
 cases p1 with
 | none => exact ⟨trivial, h2, h3, At.none _ _⟩
 | some a =>
  cases p2 with
  | none => exact ⟨⟨h1 a rfl, trivial⟩, h3, At.none _ _, At.none _ _⟩
  | some a2 =>
   cases p3 with
   | none => exact ⟨⟨h1 a rfl, h2 a2 rfl, trivial⟩, At.none _ _, At.none _ _, At.none _ _⟩
   | some a3 => exact ⟨⟨h1 a rfl, h2 a2 rfl, h3 a3 rfl, trivial⟩, At.none _ _, At.none _ _, At.none _ _⟩
structure Sd (b : Bo) (own oth : List Int) (g : Nat) : Prop where
 all : own.length = b.all
 msl : b.ms.length ≤ b.all
 ms : ∀ (i : Nat) (l : List Int), b.ms[i]? = some l → ∃ v, own[b.all - b.ms.length + i]? = some v ∧ l = mB v
 nx : b.nx = ((b.all - b.ms.length : Nat) : Int)
 said : b.said ≤ b.ms.length
 ix : b.ix = (g : Int)
 gl : g ≤ oth.length
 q1 : At oth (g + 1) b.q1
 q2 : At oth (g + 2) b.q2
 q3 : At oth (g + 3) b.q3
section
variable {b : Bo} {own oth : List Int} {g : Nat}
theorem Sd.fresh (t f e : Int) (r : List Int) : Sd (bo0 t f e) [] r 0 := ⟨rfl, Nat.le_refl _, fun i l h => by simp [bo0] at h, rfl, Nat.le_refl _, rfl, Nat.zero_le _, At.none _ _, At.none _ _, At.none _ _⟩
theorem Sd.beat (h : Sd b own oth g) (a : Int) (tr : Nat) (ow : Bool) : Sd { b with a := a, tr := tr, ow := ow } own oth g := ⟨h.all, h.msl, h.ms, h.nx, h.said, h.ix, h.gl, h.q1, h.q2, h.q3⟩
theorem Sd.grow (h : Sd b own oth g) (x : Int) : Sd b own (oth ++ [x]) g := ⟨h.all, h.msl, h.ms, h.nx, h.said, h.ix, by have := h.gl; simp; omega, h.q1.grow x, h.q2.grow x, h.q3.grow x⟩
theorem Sd.put (h : Sd b own oth g) (n : Int) (he : b.putE (barO n) = 0) : Sd (b.put (barO n)) (own ++ [n]) oth g := by
 unfold Bo.put
 rw [if_pos he]
 have h1 := h.msl
 refine ⟨by simp [h.all], by simp; omega, fun i l hl => ?_, ?_, by have := h.said; simp; omega, h.ix, h.gl, h.q1, h.q2, h.q3⟩
 ·simp only [List.length_append, List.length_cons, List.length_nil] at hl ⊢
  rw [show b.all + 1 - (b.ms.length + (0 + 1)) = b.all - b.ms.length by omega]
  by_cases hi : i < b.ms.length
  ·rw [List.getElem?_append_left hi] at hl
   obtain ⟨v, h2, h3⟩ := h.ms i l hl
   exact ⟨v, by rw [List.getElem?_append_left (List.getElem?_eq_some_iff.1 h2).1]; exact h2, h3⟩
  ·have hi2 := (List.getElem?_eq_some_iff.1 hl).1
   simp at hi2
   have e : i = b.ms.length := by omega
   subst e
   refine ⟨n, ?_, ?_⟩
   ·rw [show b.all - b.ms.length + b.ms.length = own.length by have := h.all; omega]
    simp
   ·have : (bytesO (barO n)).1 = l := by simpa using hl
    exact this.symm
 ·show b.nx = _
  rw [h.nx]
  simp only [List.length_append, List.length_cons, List.length_nil]
  congr 1
  omega
theorem Sd.put_no (n : Int) (he : ¬ b.putE (barO n) = 0) : b.put (barO n) = b := by
 unfold Bo.put
 rw [if_neg he]
theorem Sd.heard (h : Sd b own oth g) (ack now : Int) (hl : own.length ≤ 20000) : Sd (b.heard ack now) own oth g := by
 unfold Bo.heard
 by_cases hp : 0 < ackP b.nx b.said ack
 ·rw [if_pos hp]
  have h1 := h.msl
  have h2 := h.said
  have h3 := h.all
  have hq : ∃ d : Nat, ackP b.nx b.said ack = d ∧ d ≤ b.said ∧ ack = b.nx + d := by
   have hn := h.nx
   unfold ackP Ser.atP at hp ⊢
   split at hp
   ·rename_i c1
    rw [if_pos c1]
    split at hp
    ·rename_i c2
     rw [if_pos c2]
     refine ⟨((ack - b.nx) % 65536).toNat, by omega, by omega, by omega⟩
    ·omega
   ·omega
  obtain ⟨d, e1, e2, e3⟩ := hq
  rw [e1, Int.toNat_natCast]
  refine ⟨h3, by simp; omega, fun i l hi => ?_, ?_, by simp; omega, h.ix, h.gl, h.q1, h.q2, h.q3⟩
  ·simp only [List.getElem?_drop, List.length_drop] at hi ⊢
   obtain ⟨v, h4, h5⟩ := h.ms _ _ hi
   exact ⟨v, by rw [show b.all - (b.ms.length - d) + i = b.all - b.ms.length + (d + i) by omega]; exact h4, h5⟩
  ·show ack = _
   rw [e3, h.nx]
   simp only [List.length_drop]
   omega
 ·rw [if_neg hp]
  exact h
theorem Sd.freshS (h : Sd b own oth g) : Sd b.fresh own oth g := by
 refine ⟨h.all, h.msl, h.ms, h.nx, ?_, h.ix, h.gl, h.q1, h.q2, h.q3⟩
 have := h.said
 unfold Bo.fresh Bo.fk
 simp only
 omega
theorem Sd.saysB (h : Sd b own oth g) (now : Int) : Sd (b.saysB now) own oth g := by
 unfold Bo.saysB
 split
 ·exact (h.freshS).beat _ _ _
 ·split
  ·exact (h.freshS).beat _ _ _
  ·exact h.freshS
structure IsS (b : Bo) (own : List Int) (s : Sa) : Prop where
 t : s.t = b.t
 f : s.f = b.f
 p : s.p = b.e
 k : s.k = 4 ∨ (s.k = 5 ∧ ∃ (j : Nat) (v : Int), s.s = j ∧ own[j]? = some v ∧ s.l = mB v)
theorem Sd.dat (h : Sd b own oth g) (hl : own.length ≤ 20000) {i n : Nat} (hn : i + n ≤ b.ms.length) {s : Sa} (hs : s ∈ b.dat i n) : IsS b own s := by
 unfold Bo.dat at hs
 obtain ⟨j, hj, rfl⟩ := List.mem_map.1 hs
 have hj := List.mem_range.1 hj
 have h1 := h.msl
 have h2 := h.all
 obtain ⟨l, hl2⟩ : ∃ l, b.ms[i + j]? = some l := ⟨_, List.getElem?_eq_getElem (by omega)⟩
 obtain ⟨v, h3, h4⟩ := h.ms _ _ hl2
 refine ⟨rfl, rfl, rfl, .inr ⟨rfl, b.all - b.ms.length + (i + j), v, ?_, h3, ?_⟩⟩
 ·show Ser.plusP b.nx ((i + j : Nat) : Int) = _
  unfold Ser.plusP
  have := h.nx
  omega
 ·show b.ms.getD (i + j) [] = _
  rw [List.getD_eq_getElem?_getD, hl2]
  exact h4
theorem Sd.says (h : Sd b own oth g) (hl : own.length ≤ 20000) (now : Int) {s : Sa} (hs : s ∈ b.says now) : IsS b own s := by
 have h1 := h.said
 have h2 : b.said + b.fk ≤ b.ms.length := by unfold Bo.fk; omega
 unfold Bo.says at hs
 rcases List.mem_append.1 hs with hs | hs
 ·rcases List.mem_append.1 hs with hs | hs
  ·unfold Bo.acks at hs
   split at hs
   ·have e : s = b.seg 4 0 b.ix [] := by simpa using hs
    subst e
    exact ⟨rfl, rfl, rfl, .inl rfl⟩
   ·simp at hs
  ·exact h.dat hl h2 hs
 ·split at hs
  ·simp at hs
  ·split at hs
   ·exact h.dat hl (by omega) hs
   ·simp at hs
theorem Sd.took (h : Sd b own oth g) (ho : oth.length ≤ 20000) {j : Nat} {v : Int} (hj : oth[j]? = some v) (l : List Int) (hm : l = mB v) :
  Sd (b.took j l) own oth (g + (b.runs j l).length) ∧ Run oth g (b.runs j l) := by
 have hx := h.ix
 have hgl := h.gl
 have hjl := (List.getElem?_eq_some_iff.1 hj).1
 have hfar : b.far j = if g ≤ j then ((j - g : Nat) : Int) else 65536 + j - g := by
  unfold Bo.far
  rw [hx]
  split <;> omega
 unfold Bo.took Bo.runs
 by_cases h0 : b.far j = 0
 ·have hg : j = g := by rw [hfar] at h0; split at h0 <;> omega
  subst hg
  obtain ⟨r1, r2, r3, r4⟩ := run_fol h.q1 h.q2 h.q3
  have hrun : Run oth j (l :: folG b.q1 b.q2 b.q3) := ⟨⟨v, hj, hm⟩, r1⟩
  have hle := hrun.le hgl
  simp only [List.length_cons] at hle
  rw [if_pos h0, if_pos h0]
  refine ⟨⟨h.all, h.msl, h.ms, h.nx, h.said, ?_, by simp only [List.length_cons]; omega, ?_, ?_, ?_⟩, hrun⟩
  ·show Ser.plusP b.ix _ = _
   unfold Ser.plusP
   simp only [List.length_cons]
   omega
  ·simp only [List.length_cons]
   rw [show j + ((folG b.q1 b.q2 b.q3).length + 1) + 1 = j + 1 + (folG b.q1 b.q2 b.q3).length + 1 by omega]
   exact r2
  ·simp only [List.length_cons]
   rw [show j + ((folG b.q1 b.q2 b.q3).length + 1) + 2 = j + 1 + (folG b.q1 b.q2 b.q3).length + 2 by omega]
   exact r3
  ·simp only [List.length_cons]
   rw [show j + ((folG b.q1 b.q2 b.q3).length + 1) + 3 = j + 1 + (folG b.q1 b.q2 b.q3).length + 3 by omega]
   exact r4
 ·rw [if_neg h0, if_neg h0]
  refine ⟨?_, trivial⟩
  simp only [List.length_nil, Nat.add_zero]
  by_cases h1 : b.far j = 1
  ·have hg : j = g + 1 := by rw [hfar] at h1; split at h1 <;> omega
   subst hg
   rw [if_pos h1]
   exact ⟨h.all, h.msl, h.ms, h.nx, h.said, h.ix, h.gl, h.q1.or hj hm, h.q2, h.q3⟩
  rw [if_neg h1]
  by_cases h2 : b.far j = 2
  ·have hg : j = g + 2 := by rw [hfar] at h2; split at h2 <;> omega
   subst hg
   rw [if_pos h2]
   exact ⟨h.all, h.msl, h.ms, h.nx, h.said, h.ix, h.gl, h.q1, h.q2.or hj hm, h.q3⟩
  rw [if_neg h2]
  by_cases h3 : b.far j = 3
  ·have hg : j = g + 3 := by rw [hfar] at h3; split at h3 <;> omega
   subst hg
   rw [if_pos h3]
   exact ⟨h.all, h.msl, h.ms, h.nx, h.said, h.ix, h.gl, h.q1, h.q2, h.q3.or hj hm⟩
  rw [if_neg h3]
  exact h.beat _ _ _
theorem Sd.hears (h : Sd b own oth g) (ho : oth.length ≤ 20000) (hw : own.length ≤ 20000) (k s a : Int) (l : List Int) (now : Int) (hd : k = 5 → ∃ (j : Nat) (v : Int), s = j ∧ oth[j]? = some v ∧ l = mB v) :
  Sd (b.hears k s a l now) own oth (g + (b.gets k s l).length) ∧ Run oth g (b.gets k s l) := by
 unfold Bo.hears Bo.gets
 by_cases h4 : k = 4
 ·subst h4
  exact ⟨h.heard a now hw, trivial⟩
 ·rw [if_neg h4]
  by_cases h5 : k = 5
  ·rw [if_pos h5, if_pos h5]
   obtain ⟨j, v, rfl, h1, h2⟩ := hd h5
   exact h.took ho h1 l h2
  ·rw [if_neg h5, if_neg h5]
   exact ⟨h, trivial⟩
end
section
variable {ep b q be E : Int} {f : Nat → Int} {l l' : List Sv}
theorem Hinv.alike (h : Hinv ep b q be E f l) (h1 : ∀ x ∈ l', ∃ y ∈ l, y.k = x.k ∧ y.p = x.p ∧ y.o = x.o) (h2 : ∀ y ∈ l, ∃ x ∈ l', x.k = y.k ∧ x.p = y.p ∧ x.o = y.o) : Hinv ep b q be E f l' := by
 refine ⟨fun x hx hk => ?_, fun x hx y hy hk hk2 hp => ?_, fun x hx hk => ?_, fun j hj => ?_, h.own, h.ep0, h.e0, h.e1, h.be1, h.opn⟩
 ·obtain ⟨y, hy, e1, e2, e3⟩ := h1 x hx
  have := h.syn y hy (e1.trans hk)
  rw [e2, e3] at this
  exact this
 ·obtain ⟨x2, hx2, e1, e2, e3⟩ := h1 x hx
  obtain ⟨y2, hy2, g1, g2, g3⟩ := h1 y hy
  have := h.one x2 hx2 y2 hy2 (e1.trans hk) (g1.trans hk2) (by rw [e2, g2]; exact hp)
  rw [e3, g3] at this
  exact this
 ·obtain ⟨y, hy, e1, e2, e3⟩ := h1 x hx
  have := h.ack y hy (e1.trans hk)
  rw [e2] at this
  exact this
 ·obtain ⟨⟨y, hy, h3, h4, h5⟩, h6⟩ := h.by_ j hj
  obtain ⟨x, hx, e1, e2, e3⟩ := h2 y hy
  exact ⟨⟨x, hx, e1.trans h3, e2.trans h4, e3.trans h5⟩, h6⟩
theorem Hinv.last {x y : Sv} (h : Hinv ep b q be E f (l ++ [x])) (e1 : y.k = x.k) (e2 : y.p = x.p) (e3 : y.o = x.o) : Hinv ep b q be E f (l ++ [y]) := by
 refine h.alike (fun z hz => ?_) (fun z hz => ?_)
 ·rcases List.mem_append.1 hz with hz | hz
  ·exact ⟨z, List.mem_append_left _ hz, rfl, rfl, rfl⟩
  ·rw [List.mem_singleton.1 hz]
   exact ⟨x, List.mem_append_right _ (List.mem_singleton.2 rfl), e1.symm, e2.symm, e3.symm⟩
 ·rcases List.mem_append.1 hz with hz | hz
  ·exact ⟨z, List.mem_append_left _ hz, rfl, rfl, rfl⟩
  ·rw [List.mem_singleton.1 hz]
   exact ⟨y, List.mem_append_right _ (List.mem_singleton.2 rfl), e1, e2, e3⟩
theorem Hinv.more : ∀ {L : List Sv} {l : List Sv}, Hinv ep b q be E f l → (∀ x ∈ L, x.k ≠ 3 ∧ (x.k = 4 → f x.p.toNat ≠ 0)) → Hinv ep b q be E f (l ++ L)
 | [], l, h, _ => by rw [List.append_nil]; exact h
 | x :: r, l, h, hk => by
  have h1 := h.push x (fun e => absurd e (hk x List.mem_cons_self).1) (hk x List.mem_cons_self).2
  have h2 := Hinv.more h1 (fun y hy => hk y (List.mem_cons_of_mem _ hy))
  rw [List.append_assoc] at h2
  exact h2
end
def keys (L : List Ms) : List Sv := L.map fun m => m.abs.ms.x
theorem keys_app (A B : List Ms) : keys (A ++ B) = keys A ++ keys B := List.map_append
theorem keys_of {L : List Ms} {S : List Sa} (h : L.map Ms.abs = S) : keys L = S.map fun s => s.ms.x := by
 subst h
 unfold keys
 rw [List.map_map]
 rfl
theorem mem_keys {L : List Ms} {m : Ms} (h : m ∈ L) : m.abs.ms.x ∈ keys L := List.mem_map.2 ⟨m, h, rfl⟩
def Ls.q (x : Ls) : Int := match x.s with | some y => y.q | none => 1
theorem Ls.on_some {x : Ls} {y : Lb} (h : x.on = some y) : x.s = some y ∧ y.fail = false := by
 unfold Ls.on at h
 cases hs : x.s with
 | none => rw [hs] at h; cases h
 | some z =>
  rw [hs] at h
  simp only at h
  split at h
  ·cases h
  ·rename_i hf
   cases h
   exact ⟨rfl, by simpa using hf⟩
theorem updF_grow {g : Nat → List Int} {e i j : Nat} {x v : Int} (h : (g i)[j]? = some v) : (updF g e (g e ++ [x]) i)[j]? = some v := by
 by_cases hi : i = e
 ·subst hi
  rw [updF_same, List.getElem?_append_left (List.getElem?_eq_some_iff.1 h).1]
  exact h
 ·rw [updF_ne _ _ hi]
  exact h
structure Oinv (N : Nat) (x : Wd) : Prop where
 now : 0 ≤ x.now ∧ x.now ≤ 6 * N
 boot : 1 ≤ x.boot ∧ x.boot ≤ N + 1
 ep : 0 ≤ x.ep ∧ x.ep ≤ 250
 sent : 0 ≤ x.sent ∧ x.sent ≤ N
 rows : ∀ r, (x.rl r).length ≤ N
 rb : ∀ r, ∀ v ∈ x.rl r, 0 ≤ v ∧ v ≤ 4294967295
 wire : x.wire.length ≤ 9 * N
 fine : x.fine = true
 tz : x.l.tz = 3
 sf : x.p.sf = 3 ∧ x.p.bo = x.boot
 l0 : x.l.s = none → x.ep = 0
 ln : ∀ y, x.l.s = some y → y.b.t = 3 ∧ y.b.f = 0 ∧ y.b.e = x.ep ∧ (y.q = 1 ∨ y.q = 2 ∨ y.q = 3) ∧ Sd y.b (x.rl x.ep.toNat) (x.rl (256 + x.ep.toNat)) (x.gt (256 + x.ep.toNat))
 pn : ∀ y, x.p.s = some y → y.t = 0 ∧ y.f = 3 ∧ 1 ≤ y.e ∧ y.tr ≤ N ∧ Sd y (x.rl (256 + y.e.toNat)) (x.rl y.e.toNat) (x.gt y.e.toNat)
 hv : ∃ f, Hinv x.ep x.l.boot x.l.q x.boot x.p.e f (keys x.wire) ∧ ∀ e : Nat, e < 256 → f e = 0 → x.rl (256 + e) = [] ∧ x.gt e = 0
 nd : ∀ e : Nat, e < 256 → x.ep < e → x.rl e = [] ∧ x.gt (256 + e) = 0
 dD : ∀ m ∈ x.wire, m.x.k = 5 → m.x.t ≠ 0 → ∃ (j : Nat) (v : Int), m.x.s = j ∧ (x.rl m.x.p.toNat)[j]? = some v ∧ m.l = mB v
 dU : ∀ m ∈ x.wire, m.x.k = 5 → m.x.t = 0 → ∃ (j : Nat) (v : Int), m.x.s = j ∧ (x.rl (256 + m.x.p.toNat))[j]? = some v ∧ m.l = mB v
section
variable {N : Nat} {x : Wd}
theorem Oinv.start : Oinv 0 wd0 := by
 refine ⟨by decide, by decide, by decide, by decide, fun r => Nat.le_refl _, fun r v hv => absurd hv (by simp [wd0]), Nat.le_refl _, rfl, rfl, ⟨rfl, rfl⟩, fun _ => rfl, fun y hy => absurd hy (by simp [wd0]), fun y hy => absurd hy (by simp [wd0]), ⟨fun _ => 0, ?_, fun _ _ _ => ⟨rfl, rfl⟩⟩, fun _ _ _ => ⟨rfl, rfl⟩, fun m hm => absurd hm (by simp [wd0]), fun m hm => absurd hm (by simp [wd0])⟩
 exact ⟨fun x hx => absurd hx (by simp [wd0, keys]), fun x hx => absurd hx (by simp [wd0, keys]), fun x hx => absurd hx (by simp [wd0, keys]), fun j hj => absurd rfl hj, fun j hj => absurd hj (by decide), .inl rfl, by decide, by decide, by decide, fun h => absurd h (by decide)⟩
theorem Oinv.le (h : Oinv N x) : x.l.e = x.ep := by
 unfold Ls.e
 cases hs : x.l.s with
 | none => exact (h.l0 hs).symm
 | some y => exact (h.ln y hs).2.2.1
theorem Oinv.tb (h : Oinv N x) (hN : N ≤ 9000) : tickB x.now = true := by
 have := h.now
 unfold tickB
 exact decide_eq_true (by omega)
theorem Oinv.pe (h : Oinv N x) : 0 ≤ x.p.e ∧ x.p.e ≤ 250 := by
 obtain ⟨f, h1, _⟩ := h.hv
 have := h1.e0
 have := h1.e1
 have := h.ep
 omega
structure Lnx (x : Wd) (l' : Ls) (L : List (List Int)) : Prop where
 run : Run (x.rl (256 + x.ep.toNat)) (x.gt (256 + x.ep.toNat)) L
 tz : l'.tz = 3
 l0 : l'.s = none → x.ep = 0
 ln : ∀ y, l'.s = some y → y.b.t = 3 ∧ y.b.f = 0 ∧ y.b.e = x.ep ∧ (y.q = 1 ∨ y.q = 2 ∨ y.q = 3) ∧ Sd y.b (x.rl x.ep.toNat) (x.rl (256 + x.ep.toNat)) (x.gt (256 + x.ep.toNat) + L.length)
 hv : ∀ f, Hinv x.ep x.l.boot x.l.q x.boot x.p.e f (keys x.wire) → Hinv x.ep l'.boot l'.q x.boot x.p.e f (keys x.wire)
theorem Oinv.same (h : Oinv N x) : Lnx x x.l [] := ⟨trivial, h.tz, h.l0, h.ln, fun f hf => hf⟩
theorem Oinv.lineTake (h : Oinv N x) (hN : N ≤ 9000) {m : Ms} (hm : m ∈ x.wire) (ht : m.x.t = 0) : Lnx x (x.l.take m.abs.ms x.now) (x.l.gets m.abs.ms x.now) := by
 unfold Ls.take Ls.gets
 rw [if_pos (h.tb hN), if_pos (h.tb hN)]
 cases hon : x.l.on with
 | none => exact h.same
 | some y =>
  obtain ⟨hs, hf⟩ := Ls.on_some hon
  obtain ⟨e1, e2, e3, e4, hd⟩ := h.ln y hs
  have hb : x.l.boot = y.bt := by unfold Ls.boot; rw [hs]
  have hq : x.l.q = y.q := by unfold Ls.q; rw [hs]
  have hsame : Lnx x ⟨x.l.tz, some y⟩ [] := ⟨trivial, h.tz, fun e => (by cases e), fun z hz => (by cases hz; exact ⟨e1, e2, e3, e4, hd⟩), fun f hf => by rw [hb, hq] at hf; exact hf⟩
  simp only
  unfold Lb.take Lb.gets
  cases hmi : y.mine m.abs.ms with
  | false => exact hsame
  | true =>
  cases ho : y.opn with
  | false =>
   have hcb : (y.callB m.abs.ms x.now).t = y.b.t ∧ (y.callB m.abs.ms x.now).f = y.b.f ∧ (y.callB m.abs.ms x.now).e = y.b.e ∧ Sd (y.callB m.abs.ms x.now) (x.rl x.ep.toNat) (x.rl (256 + x.ep.toNat)) (x.gt (256 + x.ep.toNat)) := by
    unfold Lb.callB
    split
    ·exact ⟨rfl, rfl, rfl, hd.beat _ _ _⟩
    ·split
     ·exact ⟨rfl, rfl, rfl, hd.beat _ _ _⟩
     ·exact ⟨rfl, rfl, rfl, hd⟩
   refine ⟨trivial, h.tz, fun e => (by cases e), fun z hz => ?_, fun f hf => ?_⟩
   ·cases hz
    exact ⟨hcb.1.trans e1, hcb.2.1.trans e2, hcb.2.2.1.trans e3, qC_ok e4, hcb.2.2.2⟩
   ·rw [hb, hq] at hf
    have := hf.take (sw := 3) (mem_keys hm)
    show Hinv x.ep (bC m.abs.ms.x y.b.t y.b.e y.bt y.q) (qC m.abs.ms.x y.b.t y.b.e y.q) _ _ _ _
    rw [e1, e3]
    exact this
  | true =>
  cases hoe : y.ofE m.abs.ms with
  | false => exact hsame
  | true =>
   have hp : m.x.p = y.b.e := by
    have h9 : (m.x.p == y.b.e) = true := hoe
    simpa using h9
   have hk := hears_keeps (b := y.b) m.x.k m.x.s m.x.a m.l x.now
   have hr1 := h.rows x.ep.toNat
   have hr2 := h.rows (256 + x.ep.toNat)
   obtain ⟨k1, k2⟩ := hd.hears (by omega) (by omega) m.x.k m.x.s m.x.a m.l x.now (fun e5 => by
    obtain ⟨j, v, h1, h2, h3⟩ := h.dU m hm e5 ht
    rw [hp, e3] at h2
    exact ⟨j, v, h1, h2, h3⟩)
   refine ⟨k2, h.tz, fun e => (by cases e), fun z hz => ?_, fun f hf => by rw [hb, hq] at hf; exact hf⟩
   cases hz
   exact ⟨hk.1.trans e1, hk.2.1.trans e2, hk.2.2.1.trans e3, e4, k1⟩
structure Ptx (N : Nat) (x : Wd) (p' : Ps) (L : List (List Int)) (S : Option Sv) : Prop where
 run : Run (x.rl (p'.e % 256).toNat) (x.gt (p'.e % 256).toNat) L
 sf : p'.sf = 3 ∧ p'.bo = x.boot
 pe : 0 ≤ p'.e ∧ p'.e ≤ 250
 pn : ∀ y, p'.s = some y → y.t = 0 ∧ y.f = 3 ∧ 1 ≤ y.e ∧ y.tr ≤ N ∧ Sd y (x.rl (256 + y.e.toNat)) (x.rl y.e.toNat) (x.gt y.e.toNat + L.length)
 hv : ∀ f, Hinv x.ep x.l.boot x.l.q x.boot x.p.e f (keys x.wire) → ∃ f', Hinv x.ep x.l.boot x.l.q x.boot p'.e f' (keys x.wire ++ (S.map fun s => s.ms.abs.ms.x).toList) ∧ (∀ e, f' e = 0 → f e = 0) ∧ (L = [] ∨ f' p'.e.toNat ≠ 0)
 ans : ∀ s, S = some s → s.k ≠ 5
theorem withA_keys (y : Sv) (b : Option Bo) : (Ps.withA y b).k = y.k ∧ (Ps.withA y b).p = y.p ∧ (Ps.withA y b).o = y.o := by
 unfold Ps.withA
 split
 ·cases b <;> exact ⟨rfl, rfl, rfl⟩
 ·exact ⟨rfl, rfl, rfl⟩
theorem ansG_k (x : Sv) (sf bo E : Int) : (ansG x sf bo E).k ≠ 5 := by
 unfold ansG
 split
 ·simp [svHi]
 ·split
  ·simp [svAck]
  ·simp [sv0]
theorem Oinv.psame (h : Oinv N x) : Ptx N x x.p [] none :=
 ⟨trivial, h.sf, h.pe, h.pn, fun f hf => ⟨f, by simpa using hf, fun _ e => e, .inl rfl⟩, fun s e => by cases e⟩
theorem Oinv.portTake (h : Oinv N x) (hN : N ≤ 9000) {m : Ms} (hm : m ∈ x.wire) (ht : m.x.t ≠ 0) : Ptx N x (x.p.take m.abs.ms x.now) (x.p.gets m.abs.ms x.now) (x.p.answers m.abs.ms x.now) := by
 obtain ⟨f0, hf0, hn0⟩ := h.hv
 have hpe := h.pe
 unfold Ps.take Ps.gets Ps.answers
 rw [if_pos (h.tb hN), if_pos (h.tb hN), h.tb hN, Bool.true_and]
 cases hia : x.p.isA m.abs.ms with
 | true =>
  simp only [if_true]
  cases hbg : x.p.beg m.abs.ms with
  | true =>
   have hb : begG m.abs.ms.x 3 x.boot x.p.e = true := by
    have := hbg
    unfold Ps.beg at this
    rw [h.sf.1, h.sf.2] at this
    exact this
   obtain ⟨i1, i2, i3, i4, i5, i6, i7⟩ := hf0.begins (mem_keys hm) hb
   have hbody : x.p.bodyA m.abs.ms = some (bo0 0 x.p.sf m.x.p) := by unfold Ps.bodyA; rw [hbg]; rfl
   rw [hbody]
   have hpp : x.p.e < m.x.p ∧ m.x.p ≤ x.ep := ⟨i3, i4⟩
   have hep := h.ep
   obtain ⟨n1, n2⟩ := hn0 m.x.p.toNat (by omega) i6
   refine ⟨trivial, h.sf, ⟨show 0 ≤ m.x.p by omega, show m.x.p ≤ 250 by omega⟩, fun y hy => ?_, fun f hf => ?_, fun s hs => ?_⟩
   ·cases hy
    refine ⟨rfl, h.sf.1, show 1 ≤ m.x.p by omega, Nat.zero_le _, ?_⟩
    show Sd (bo0 0 x.p.sf m.x.p) (x.rl (256 + m.x.p.toNat)) (x.rl m.x.p.toNat) (x.gt m.x.p.toNat + 0)
    rw [n1, n2]
    exact Sd.fresh _ _ _ _
   ·obtain ⟨_, _, _, _, _, j6, j7⟩ := hf.begins (mem_keys hm) hb
    refine ⟨upd f m.x.p.toNat x.boot, ?_, fun e he => ?_, .inl rfl⟩
    ·have e1 : x.p.ans m.abs.ms = Ps.withA (ansG m.abs.ms.x 3 x.boot x.p.e) (x.p.bodyA m.abs.ms) := by unfold Ps.ans; rw [h.sf.1, h.sf.2]
     exact j7.last (y := (x.p.ans m.abs.ms).ms.abs.ms.x) ((congrArg Sv.k e1).trans (withA_keys _ _).1) ((congrArg Sv.p e1).trans (withA_keys _ _).2.1) ((congrArg Sv.o e1).trans (withA_keys _ _).2.2)
    ·unfold upd at he
     split at he
     ·have := hf0.be1
      omega
     ·exact he
   ·cases hs
    unfold Ps.ans
    rw [(withA_keys _ _).1]
    exact ansG_k _ _ _ _
  | false =>
   have hb : begG m.abs.ms.x 3 x.boot x.p.e = false := by
    have := hbg
    unfold Ps.beg at this
    rw [h.sf.1, h.sf.2] at this
    exact this
   have hi : isG m.abs.ms.x 3 x.boot x.p.e = true := by
    have := hia
    unfold Ps.isA at this
    rw [h.sf.1, h.sf.2] at this
    exact this
   have hbody : x.p.bodyA m.abs.ms = x.p.s := by unfold Ps.bodyA; rw [hbg]; rfl
   rw [hbody]
   refine ⟨trivial, h.sf, hpe, h.pn, fun f hf => ⟨f, ?_, fun _ e => e, .inl rfl⟩, fun s hs => ?_⟩
   ·have e1 : x.p.ans m.abs.ms = Ps.withA (ansG m.abs.ms.x 3 x.boot x.p.e) (x.p.bodyA m.abs.ms) := by unfold Ps.ans; rw [h.sf.1, h.sf.2]
    exact (hf.gHi m.abs.ms.x hb hi).last (y := (x.p.ans m.abs.ms).ms.abs.ms.x) ((congrArg Sv.k e1).trans (withA_keys _ _).1) ((congrArg Sv.p e1).trans (withA_keys _ _).2.1) ((congrArg Sv.o e1).trans (withA_keys _ _).2.2)
   ·cases hs
    unfold Ps.ans
    rw [(withA_keys _ _).1]
    exact ansG_k _ _ _ _
 | false =>
  simp only [Bool.false_eq_true, if_false]
  cases hs : x.p.s with
  | none => exact h.psame
  | some y =>
   obtain ⟨e1, e2, e3, e4, hd⟩ := h.pn y hs
   simp only
   have hxe : x.p.e = y.e := by unfold Ps.e; rw [hs]
   cases hmi : x.p.mine m.abs.ms y with
   | false => exact h.psame
   | true =>
    have hp : m.x.p = y.e := by
     have h9 : (m.abs.ms.x.ok && (m.x.t == x.p.sf) && (m.x.p == y.e)) = true := hmi
     simpa using (Bool.and_eq_true_iff.mp h9).2
    have hk := hears_keeps (b := y) m.x.k m.x.s m.x.a m.l x.now
    have hr1 := h.rows y.e.toNat
    have hr2 := h.rows (256 + y.e.toNat)
    obtain ⟨k1, k2⟩ := hd.hears (by omega) (by omega) m.x.k m.x.s m.x.a m.l x.now (fun e5 => by
     obtain ⟨j, v, h1, h2, h3⟩ := h.dD m hm e5 ht
     rw [hp] at h2
     exact ⟨j, v, h1, h2, h3⟩)
    have he : (y.hears m.x.k m.x.s m.x.a m.l x.now).e = y.e := hk.2.2.1
    have hmod : (y.e % 256).toNat = y.e.toNat := by rw [Int.emod_eq_of_lt (by omega) (by omega)]
    refine ⟨?_, h.sf, ?_, fun z hz => ?_, fun f hf => ⟨f, ?_, fun _ e => e, .inr ?_⟩, fun s e => by cases e⟩
    ·show Run (x.rl ((y.hears m.x.k m.x.s m.x.a m.l x.now).e % 256).toNat) (x.gt ((y.hears m.x.k m.x.s m.x.a m.l x.now).e % 256).toNat) _
     rw [he, hmod]
     exact k2
    ·show 0 ≤ (y.hears m.x.k m.x.s m.x.a m.l x.now).e ∧ (y.hears m.x.k m.x.s m.x.a m.l x.now).e ≤ 250
     rw [he]
     omega
    ·cases hz
     refine ⟨hk.1.trans e1, hk.2.1.trans e2, by have := hk.2.2.1; show 1 ≤ (y.hears m.x.k m.x.s m.x.a m.l x.now).e; omega, Nat.le_trans hk.2.2.2 e4, ?_⟩
     show Sd (y.hears m.x.k m.x.s m.x.a m.l x.now) (x.rl (256 + (y.hears m.x.k m.x.s m.x.a m.l x.now).e.toNat)) (x.rl (y.hears m.x.k m.x.s m.x.a m.l x.now).e.toNat) (x.gt (y.hears m.x.k m.x.s m.x.a m.l x.now).e.toNat + _)
     rw [he]
     exact k1
    ·show Hinv x.ep x.l.boot x.l.q x.boot (y.hears m.x.k m.x.s m.x.a m.l x.now).e f (keys x.wire ++ [])
     rw [he, List.append_nil, ← hxe]
     exact hf
    ·show f (y.hears m.x.k m.x.s m.x.a m.l x.now).e.toNat ≠ 0
     rw [he, ← hxe]
     exact hf.ep0.resolve_left (by omega)
theorem Oinv.wok (h : Oinv N x) (hN : N ≤ 9000) : Wok x := by
 have hle := h.le
 refine ⟨⟨h.now.1, by have := h.now.2; omega⟩, ⟨h.boot.1, by have := h.boot.2; omega⟩, h.ep, by have := h.ep; omega, ⟨h.sent.1, by have := h.sent.2; omega⟩, fun r _ => by have := h.rows r; omega, by have := h.wire; omega, fun y hy => by have := (h.pn y hy).2.2.2.1; omega, h.fine, fun m hm ht => ?_, fun m hm ht => ?_⟩
 ·rw [hle]
  exact ((h.lineTake hN hm ht).run.tells (h.rb _)).2
 ·exact ((h.portTake hN hm ht).run.tells (h.rb _)).2
end
section
variable {N : Nat} {x x' : Wd}
def OfRow (r : List Int) (s : Sa) : Prop := ∃ (j : Nat) (v : Int), s.s = j ∧ r[j]? = some v ∧ s.l = mB v
structure Lnt (x : Wd) (l' : Ls) (S : List Sa) : Prop where
 tz : l'.tz = 3
 l0 : l'.s = none → x.ep = 0
 ln : ∀ y, l'.s = some y → y.b.t = 3 ∧ y.b.f = 0 ∧ y.b.e = x.ep ∧ (y.q = 1 ∨ y.q = 2 ∨ y.q = 3) ∧ Sd y.b (x.rl x.ep.toNat) (x.rl (256 + x.ep.toNat)) (x.gt (256 + x.ep.toNat))
 hv : ∀ f, Hinv x.ep x.l.boot x.l.q x.boot x.p.e f (keys x.wire) → Hinv x.ep l'.boot l'.q x.boot x.p.e f (keys x.wire ++ S.map fun s => s.ms.x)
 say : ∀ s ∈ S, s.t ≠ 0 ∧ (s.k = 5 → OfRow (x.rl s.p.toNat) s)
theorem Oinv.tsame (h : Oinv N x) : Lnt x x.l [] := ⟨h.tz, h.l0, h.ln, fun f hf => by rw [List.map_nil, List.append_nil]; exact hf, fun s hs => absurd hs (by simp)⟩
theorem says_key (x : Wd) (sw e b q : Int) : (saysC sw e b q).ms.abs.ms.x = saysC sw e b q := by
 unfold saysC
 split
 ·rfl
 ·split <;> rfl
theorem Oinv.lineTick (h : Oinv N x) (hN : N ≤ 9000) (now : Int) : Lnt x (x.l.tick now) (x.l.says now) := by
 unfold Ls.tick Ls.says
 cases htb : tickB now with
 | false => exact h.tsame
 | true =>
 simp only [if_true]
 cases hon : x.l.on with
 | none => exact h.tsame
 | some y =>
  obtain ⟨hs, hf⟩ := Ls.on_some hon
  obtain ⟨e1, e2, e3, e4, hd⟩ := h.ln y hs
  have hb : x.l.boot = y.bt := by unfold Ls.boot; rw [hs]
  have hq : x.l.q = y.q := by unfold Ls.q; rw [hs]
  have hr1 := h.rows x.ep.toNat
  have hk := bodyT_keeps y now
  have hsd : Sd (y.bodyT now) (x.rl x.ep.toNat) (x.rl (256 + x.ep.toNat)) (x.gt (256 + x.ep.toNat)) := by
   unfold Lb.bodyT Lb.dueB
   split
   ·exact hd.saysB now
   ·split
    ·exact hd
    ·split
     ·exact hd.beat _ _ _
     ·exact hd
  refine ⟨h.tz, fun e => (by cases e), fun z hz => ?_, fun f hf => ?_, fun s hs => ?_⟩
  ·cases hz
   exact ⟨hk.1.trans e1, hk.2.1.trans e2, hk.2.2.1.trans e3, e4, hsd⟩
  ·rw [hb, hq] at hf
   show Hinv x.ep y.bt y.q x.boot x.p.e f _
   simp only
   unfold Lb.says
   cases ho : y.opn with
   | true =>
    have hq3 : y.q = 3 := by unfold Lb.opn at ho; simpa using ho
    refine hf.more fun z hz => ?_
    obtain ⟨s, hs, rfl⟩ := List.mem_map.1 hz
    have hi := hd.says (by omega) now hs
    refine ⟨fun e => ?_, fun e => ?_⟩
    ·have e9 : s.k = 3 := e
     rcases hi.k with e5 | e5
     ·omega
     ·have := e5.1; omega
    ·have e9 : s.p = x.ep := hi.p.trans e3
     show f s.p.toNat ≠ 0
     rw [e9]
     exact hf.opn hq3
   | false =>
    have hq3 : y.q = 1 ∨ y.q = 2 := by
     have : (y.q == 3) = false := ho
     have : ¬ y.q = 3 := by simpa using this
     omega
    simp only [Bool.false_eq_true, if_false]
    split
    ·rw [List.map_cons, List.map_nil, says_key x, e1, e3]
     exact hf.says hq3
    ·rw [List.map_nil, List.append_nil]
     exact hf
  ·have hs : s ∈ y.says now := hs
   unfold Lb.says at hs
   cases ho : y.opn with
   | true =>
    rw [ho] at hs
    have hi := hd.says (by omega) now hs
    refine ⟨by rw [hi.t, e1]; decide, fun e5 => ?_⟩
    rcases hi.k with e6 | ⟨_, j, v, h1, h2, h3⟩
    ·omega
    ·rw [hi.p, e3]
     exact ⟨j, v, h1, h2, h3⟩
   | false =>
    rw [ho] at hs
    have hq3 : y.q = 1 ∨ y.q = 2 := by
     have : (y.q == 3) = false := ho
     have : ¬ y.q = 3 := by simpa using this
     omega
    simp only [Bool.false_eq_true, if_false] at hs
    split at hs
    ·have e9 : s = (saysC y.b.t y.b.e y.bt y.q).ms.abs := by simpa using hs
     subst e9
     rw [e1]
     rcases hq3 with e8 | e8
     ·rw [e8]
      exact ⟨(by decide : (3 : Int) ≠ 0), fun e5 => absurd e5 (by decide : ¬ (1 : Int) = 5)⟩
     ·rw [e8]
      exact ⟨(by decide : (3 : Int) ≠ 0), fun e5 => absurd e5 (by decide : ¬ (3 : Int) = 5)⟩
    ·simp at hs
structure Ptt (N : Nat) (x : Wd) (p' : Ps) (S : List Sa) : Prop where
 sf : p'.sf = 3 ∧ p'.bo = x.boot
 pe : p'.e = x.p.e
 pn : ∀ y, p'.s = some y → y.t = 0 ∧ y.f = 3 ∧ 1 ≤ y.e ∧ y.tr ≤ N + 1 ∧ Sd y (x.rl (256 + y.e.toNat)) (x.rl y.e.toNat) (x.gt y.e.toNat)
 hv : ∀ f, Hinv x.ep x.l.boot x.l.q x.boot x.p.e f (keys x.wire) → Hinv x.ep x.l.boot x.l.q x.boot x.p.e f (keys x.wire ++ S.map fun s => s.ms.x)
 say : ∀ s ∈ S, s.t = 0 ∧ (s.k = 5 → OfRow (x.rl (256 + s.p.toNat)) s)
theorem Oinv.ptsame (h : Oinv N x) : Ptt N x x.p [] := ⟨h.sf, rfl, fun y hy => by obtain ⟨e1, e2, e3, e4, e5⟩ := h.pn y hy; exact ⟨e1, e2, e3, by omega, e5⟩, fun f hf => by rw [List.map_nil, List.append_nil]; exact hf, fun s hs => absurd hs (by simp)⟩
theorem Oinv.portTick (h : Oinv N x) (hN : N ≤ 9000) (now : Int) : Ptt N x (x.p.tick now) (x.p.says now) := by
 unfold Ps.tick Ps.says
 cases htb : tickB now with
 | false => exact h.ptsame
 | true =>
 simp only [if_true]
 cases hs : x.p.s with
 | none => exact h.ptsame
 | some y =>
  obtain ⟨e1, e2, e3, e4, hd⟩ := h.pn y hs
  have hxe : x.p.e = y.e := by unfold Ps.e; rw [hs]
  have hk := says_keeps y now
  have hr1 := h.rows (256 + y.e.toNat)
  refine ⟨h.sf, ?_, fun z hz => ?_, fun f hf => ?_, fun s hs => ?_⟩
  ·show (y.saysB now).e = _
   rw [hk.2.2.1, hxe]
  ·cases hz
   refine ⟨hk.1.trans e1, hk.2.1.trans e2, by rw [hk.2.2.1]; exact e3, by have := hk.2.2.2; omega, ?_⟩
   rw [hk.2.2.1]
   exact hd.saysB now
  ·refine hf.more fun z hz => ?_
   obtain ⟨s, hs, rfl⟩ := List.mem_map.1 hz
   have hi := hd.says (by omega) now hs
   refine ⟨fun e => ?_, fun e => ?_⟩
   ·have e9 : s.k = 3 := e
    rcases hi.k with e5 | e5
    ·omega
    ·have := e5.1; omega
   ·have e9 : s.p = x.p.e := hi.p.trans hxe.symm
    show f s.p.toNat ≠ 0
    rw [e9]
    exact hf.ep0.resolve_left (by omega)
  ·have hi := hd.says (by omega) now hs
   refine ⟨by rw [hi.t, e1], fun e5 => ?_⟩
   rcases hi.k with e6 | ⟨_, j, v, h1, h2, h3⟩
   ·omega
   ·rw [hi.p]
    exact ⟨j, v, h1, h2, h3⟩
theorem updF_len {g : Nat → List Int} {e : Nat} {v : Int} {M : Nat} (h : ∀ r, (g r).length ≤ M) (r : Nat) : (updF g e (g e ++ [v]) r).length ≤ M + 1 := by
 have := h r
 unfold updF
 split
 ·rename_i e1
  subst e1
  simp
  omega
 ·omega
theorem updF_rb {g : Nat → List Int} {e : Nat} {v : Int} {P : Int → Prop} (h : ∀ r, ∀ z ∈ g r, P z) (hv : P v) (r : Nat) : ∀ z ∈ updF g e (g e ++ [v]) r, P z := by
 intro z hz
 unfold updF at hz
 split at hz
 ·rcases List.mem_append.1 hz with hz | hz
  ·exact h _ z hz
  ·rw [List.mem_singleton.1 hz]; exact hv
 ·exact h _ z hz
theorem Oinv.step (h : Oinv N x) (hN : N ≤ 9000) (hs : StepTo x x') : Oinv (N + 1) x' := by
 have hnow : 0 ≤ x.now ∧ x.now ≤ 6 * (N + 1 : Nat) := by have := h.now; omega
 have hboot : 1 ≤ x.boot ∧ x.boot ≤ (N + 1 : Nat) + 1 := by have := h.boot; omega
 have hsent : 0 ≤ x.sent ∧ x.sent ≤ (N + 1 : Nat) := by have := h.sent; omega
 have hrows : ∀ r, (x.rl r).length ≤ N + 1 := fun r => by have := h.rows r; omega
 have hwire : x.wire.length ≤ 9 * (N + 1) := by have := h.wire; omega
 have hpn : ∀ y, x.p.s = some y → y.t = 0 ∧ y.f = 3 ∧ 1 ≤ y.e ∧ y.tr ≤ N + 1 ∧ Sd y (x.rl (256 + y.e.toNat)) (x.rl y.e.toNat) (x.gt y.e.toNat) := fun y hy => by
  obtain ⟨e1, e2, e3, e4, e5⟩ := h.pn y hy
  exact ⟨e1, e2, e3, by omega, e5⟩
 have hep := h.ep
 have hpe := h.pe
 have hpe2 : ∀ y, x.p.s = some y → x.p.e = y.e := fun y hy => by unfold Ps.e; rw [hy]
 obtain ⟨f, hf, hnu⟩ := h.hv
 cases hs with
 | same => exact ⟨hnow, hboot, hep, hsent, hrows, h.rb, hwire, h.fine, h.tz, h.sf, h.l0, h.ln, hpn, h.hv, h.nd, h.dD, h.dU⟩
 | tickL now L hh hl hn =>
  have t := h.lineTick hN now
  rw [← hl] at t
  refine ⟨?_, hboot, hep, hsent, hrows, h.rb, ?_, h.fine, t.tz, h.sf, t.l0, t.ln, hpn, ⟨f, ?_, hnu⟩, h.nd, fun m hm hk ht => ?_, fun m hm hk ht => ?_⟩
  ·have := h.now
   show 0 ≤ now ∧ now ≤ _
   omega
  ·have := h.wire
   show (x.wire ++ L).length ≤ _
   rw [List.length_append]
   omega
  ·show Hinv _ _ _ _ _ f (keys (x.wire ++ L))
   rw [keys_app, keys_of (L := L) rfl]
   exact t.hv f hf
  ·rcases List.mem_append.1 hm with hm | hm
   ·exact h.dD m hm hk ht
   ·exact (t.say m.abs (List.mem_map.2 ⟨m, hm, rfl⟩)).2 hk
  ·rcases List.mem_append.1 hm with hm | hm
   ·exact h.dU m hm hk ht
   ·exact absurd ht (t.say m.abs (List.mem_map.2 ⟨m, hm, rfl⟩)).1
 | tickP now L hh hl hn =>
  have t := h.portTick hN now
  rw [← hl] at t
  refine ⟨?_, hboot, hep, hsent, hrows, h.rb, ?_, h.fine, h.tz, t.sf, h.l0, h.ln, t.pn, ⟨f, ?_, hnu⟩, h.nd, fun m hm hk ht => ?_, fun m hm hk ht => ?_⟩
  ·have := h.now
   show 0 ≤ now ∧ now ≤ _
   omega
  ·have := h.wire
   show (x.wire ++ L).length ≤ _
   rw [List.length_append]
   omega
  ·show Hinv _ _ _ _ (x.p.tick now).e f (keys (x.wire ++ L))
   rw [keys_app, keys_of (L := L) rfl, t.pe]
   exact t.hv f hf
  ·rcases List.mem_append.1 hm with hm | hm
   ·exact h.dD m hm hk ht
   ·exact absurd (t.say m.abs (List.mem_map.2 ⟨m, hm, rfl⟩)).1 ht
  ·rcases List.mem_append.1 hm with hm | hm
   ·exact h.dU m hm hk ht
   ·exact (t.say m.abs (List.mem_map.2 ⟨m, hm, rfl⟩)).2 hk
 | sendL =>
  have hsent2 : 0 ≤ x.sent + 1 ∧ x.sent + 1 ≤ (N + 1 : Nat) := by have := h.sent; omega
  unfold Wd.sendL
  by_cases he : x.l.sendE (barO x.sent) = 0
  ·rw [if_pos he, h.le]
   cases hon : x.l.on with
   | none => unfold Ls.sendE at he; rw [hon] at he; exact absurd (show (180 : Int) = 0 from he) (by decide)
   | some y =>
    obtain ⟨hs, hfl⟩ := Ls.on_some hon
    obtain ⟨e1, e2, e3, e4, hd⟩ := h.ln y hs
    have he2 : y.b.putE (barO x.sent) = 0 := by unfold Ls.sendE at he; rw [hon] at he; exact he
    have hl' : x.l.send (barO x.sent) = ⟨x.l.tz, some { y with b := y.b.put (barO x.sent) }⟩ := by unfold Ls.send; rw [hon]
    rw [hl']
    have hk := put_keeps (b := y.b) (barO x.sent)
    have hb : x.l.boot = y.bt := by unfold Ls.boot; rw [hs]
    have hq : x.l.q = y.q := by unfold Ls.q; rw [hs]
    refine ⟨hnow, hboot, hep, hsent2, updF_len h.rows, updF_rb h.rb (by have := h.sent; omega), hwire, h.fine, h.tz, h.sf, fun e => (by cases e), fun z hz => ?_, fun z hz => ?_, ⟨f, ?_, fun e h1 h2 => ?_⟩, fun e h1 h2 => ?_, fun m hm hk ht => ?_, fun m hm hk ht => ?_⟩
    ·cases hz
     refine ⟨hk.1.trans e1, hk.2.1.trans e2, hk.2.2.1.trans e3, e4, ?_⟩
     show Sd (y.b.put (barO x.sent)) (updF x.rl x.ep.toNat _ x.ep.toNat) (updF x.rl x.ep.toNat _ (256 + x.ep.toNat)) _
     rw [updF_same, updF_ne _ _ (by omega)]
     exact hd.put _ he2
    ·obtain ⟨g1, g2, g3, g4, g5⟩ := hpn z hz
     have hze := hpe2 z hz
     refine ⟨g1, g2, g3, g4, ?_⟩
     show Sd z (updF x.rl x.ep.toNat _ (256 + z.e.toNat)) (updF x.rl x.ep.toNat _ z.e.toNat) _
     rw [updF_ne _ _ (by omega)]
     by_cases hze2 : z.e.toNat = x.ep.toNat
     ·rw [hze2, updF_same]
      rw [hze2] at g5
      exact g5.grow _
     ·rw [updF_ne _ _ hze2]
      exact g5
    ·rw [hb, hq] at hf
     exact hf
    ·show updF x.rl x.ep.toNat _ (256 + e) = [] ∧ _
     rw [updF_ne _ _ (by omega)]
     exact hnu e h1 h2
    ·have h2 : x.ep < e := h2
     show updF x.rl x.ep.toNat _ e = [] ∧ _
     rw [updF_ne _ _ (by omega)]
     exact h.nd e h1 h2
    ·obtain ⟨j, v, h1, h2, h3⟩ := h.dD m hm hk ht
     exact ⟨j, v, h1, updF_grow h2, h3⟩
    ·obtain ⟨j, v, h1, h2, h3⟩ := h.dU m hm hk ht
     exact ⟨j, v, h1, updF_grow h2, h3⟩
  ·rw [if_neg he]
   have hl' : x.l.send (barO x.sent) = x.l := by
    unfold Ls.send
    cases hon : x.l.on with
    | none => rfl
    | some y =>
     obtain ⟨hs, hfl⟩ := Ls.on_some hon
     have he2 : ¬ y.b.putE (barO x.sent) = 0 := by unfold Ls.sendE at he; rw [hon] at he; exact he
     simp only
     rw [Sd.put_no _ he2]
     have : x.l = ⟨x.l.tz, x.l.s⟩ := rfl
     rw [hs] at this
     exact this.symm
   rw [hl']
   exact ⟨hnow, hboot, hep, hsent2, hrows, h.rb, hwire, h.fine, h.tz, h.sf, h.l0, h.ln, hpn, h.hv, h.nd, h.dD, h.dU⟩
 | sendP =>
  have hsent2 : 0 ≤ x.sent + 1 ∧ x.sent + 1 ≤ (N + 1 : Nat) := by have := h.sent; omega
  unfold Wd.sendP
  by_cases he : x.p.sendE (barO x.sent) = 0
  ·rw [if_pos he]
   cases hs : x.p.s with
   | none => unfold Ps.sendE at he; rw [hs] at he; exact absurd (show (180 : Int) = 0 from he) (by decide)
   | some y =>
    obtain ⟨e1, e2, e3, e4, hd⟩ := hpn y hs
    have hye := hpe2 y hs
    have hmod : (x.p.e % 256).toNat = y.e.toNat := by rw [Int.emod_eq_of_lt (by omega) (by omega), hye]
    rw [hmod]
    have he2 : y.putE (barO x.sent) = 0 := by unfold Ps.sendE at he; rw [hs] at he; exact he
    have hl' : x.p.send (barO x.sent) = ⟨x.p.sf, x.p.bo, some (y.put (barO x.sent))⟩ := by unfold Ps.send; rw [hs]
    rw [hl']
    have hk := put_keeps (b := y) (barO x.sent)
    have hk4 : (y.put (barO x.sent)).tr = y.tr := by unfold Bo.put; split <;> rfl
    refine ⟨hnow, hboot, hep, hsent2, updF_len h.rows, updF_rb h.rb (by have := h.sent; omega), hwire, h.fine, h.tz, h.sf, h.l0, fun z hz => ?_, fun z hz => ?_, ⟨f, ?_, fun e h1 h2 => ?_⟩, fun e h1 h2 => ?_, fun m hm hk ht => ?_, fun m hm hk ht => ?_⟩
    ·obtain ⟨g1, g2, g3, g4, g5⟩ := h.ln z hz
     refine ⟨g1, g2, g3, g4, ?_⟩
     show Sd z.b (updF x.rl (256 + y.e.toNat) _ x.ep.toNat) (updF x.rl (256 + y.e.toNat) _ (256 + x.ep.toNat)) _
     rw [updF_ne x.rl _ (show x.ep.toNat ≠ 256 + y.e.toNat by omega)]
     by_cases hze2 : y.e.toNat = x.ep.toNat
     ·rw [hze2, updF_same]
      exact g5.grow _
     ·rw [updF_ne _ _ (by omega)]
      exact g5
    ·cases hz
     refine ⟨hk.1.trans e1, hk.2.1.trans e2, by rw [hk.2.2.1]; exact e3, by rw [hk4]; exact e4, ?_⟩
     rw [hk.2.2.1]
     show Sd (y.put (barO x.sent)) (updF x.rl (256 + y.e.toNat) _ (256 + y.e.toNat)) (updF x.rl (256 + y.e.toNat) _ y.e.toNat) _
     rw [updF_same, updF_ne _ _ (by omega)]
     exact hd.put _ he2
    ·show Hinv _ _ _ _ (y.put (barO x.sent)).e f _
     rw [hk.2.2.1, ← hye]
     exact hf
    ·have hne : e ≠ y.e.toNat := fun e9 => by
      rw [e9, ← hye] at h2
      exact hf.ep0.resolve_left (by omega) h2
     show updF x.rl (256 + y.e.toNat) _ (256 + e) = [] ∧ _
     rw [updF_ne _ _ (by omega)]
     exact hnu e h1 h2
    ·show updF x.rl (256 + y.e.toNat) _ e = [] ∧ _
     rw [updF_ne _ _ (by omega)]
     exact h.nd e h1 h2
    ·obtain ⟨j, v, h1, h2, h3⟩ := h.dD m hm hk ht
     exact ⟨j, v, h1, updF_grow h2, h3⟩
    ·obtain ⟨j, v, h1, h2, h3⟩ := h.dU m hm hk ht
     exact ⟨j, v, h1, updF_grow h2, h3⟩
  ·rw [if_neg he]
   have hl' : x.p.send (barO x.sent) = x.p := by
    unfold Ps.send
    cases hs : x.p.s with
    | none => rfl
    | some y =>
     have he2 : ¬ y.putE (barO x.sent) = 0 := by unfold Ps.sendE at he; rw [hs] at he; exact he
     simp only
     rw [Sd.put_no _ he2]
     have : x.p = ⟨x.p.sf, x.p.bo, x.p.s⟩ := rfl
     rw [hs] at this
     exact this.symm
   rw [hl']
   exact ⟨hnow, hboot, hep, hsent2, hrows, h.rb, hwire, h.fine, h.tz, h.sf, h.l0, h.ln, hpn, h.hv, h.nd, h.dD, h.dU⟩
 | boots =>
  refine ⟨hnow, ?_, hep, hsent, hrows, h.rb, hwire, h.fine, h.tz, ⟨rfl, rfl⟩, h.l0, h.ln, fun y hy => (by cases hy), ⟨f, hf.boot, hnu⟩, h.nd, h.dD, h.dU⟩
  have := h.boot
  show 1 ≤ x.boot + 1 ∧ x.boot + 1 ≤ _
  omega
 | begins hlt =>
  have hbe : x.l.begE (x.ep + 1) x.now = 0 := begE_yes (by rw [h.le]; omega) (by omega) (by have := h.now; omega)
  have hl' : x.l.begin_ (x.ep + 1) x.now = ⟨x.l.tz, some ⟨{ bo0 x.l.tz 0 (x.ep + 1) with a := x.now + 4 }, 0, 1, false, false⟩⟩ := by unfold Ls.begin_; rw [if_pos hbe]
  obtain ⟨n1, n2⟩ := h.nd (x.ep + 1).toNat (by omega) (by omega)
  unfold Wd.begins
  rw [hl']
  refine ⟨hnow, hboot, ⟨show 0 ≤ x.ep + 1 by omega, show x.ep + 1 ≤ 250 by omega⟩, hsent, hrows, h.rb, hwire, h.fine, h.tz, h.sf, fun e => (by cases e), fun y hy => ?_, hpn, ⟨f, hf.anew, hnu⟩, fun e h1 h2 => h.nd e h1 (by have h2 : x.ep + 1 < e := h2; omega), h.dD, h.dU⟩
  cases hy
  refine ⟨h.tz, rfl, rfl, .inl rfl, ?_⟩
  show Sd { bo0 x.l.tz 0 (x.ep + 1) with a := x.now + 4 } (x.rl (x.ep + 1).toNat) (x.rl (256 + (x.ep + 1).toNat)) (x.gt (256 + (x.ep + 1).toNat))
  rw [n1, n2]
  exact (Sd.fresh _ _ _ _).beat _ _ _
 | comesL m hm ht =>
  have t := h.lineTake hN hm ht
  have hlen := (t.run.tells (h.rb _)).1
  unfold Wd.comesL Wd.got
  rw [h.le]
  simp only
  rw [hlen]
  refine ⟨hnow, hboot, hep, hsent, hrows, h.rb, hwire, h.fine, t.tz, h.sf, t.l0, fun y hy => ?_, fun y hy => ?_, ⟨f, t.hv f hf, fun e h1 h2 => ?_⟩, fun e h1 h2 => ?_, h.dD, h.dU⟩
  ·obtain ⟨g1, g2, g3, g4, g5⟩ := t.ln y hy
   refine ⟨g1, g2, g3, g4, ?_⟩
   show Sd y.b _ _ (updF x.gt (256 + x.ep.toNat) _ (256 + x.ep.toNat))
   rw [updF_same]
   exact g5
  ·obtain ⟨g1, g2, g3, g4, g5⟩ := hpn y hy
   have hye := hpe2 y hy
   refine ⟨g1, g2, g3, g4, ?_⟩
   show Sd y _ _ (updF x.gt (256 + x.ep.toNat) _ y.e.toNat)
   rw [updF_ne _ _ (by omega)]
   exact g5
  ·show _ ∧ updF x.gt (256 + x.ep.toNat) _ e = 0
   rw [updF_ne _ _ (by omega)]
   exact hnu e h1 h2
  ·have h2 : x.ep < e := h2
   show _ ∧ updF x.gt (256 + x.ep.toNat) _ (256 + e) = 0
   rw [updF_ne _ _ (by omega)]
   exact h.nd e h1 h2
 | comesP m hm ht =>
  have t := h.portTake hN hm ht
  have hlen := (t.run.tells (h.rb _)).1
  unfold Wd.comesP Wd.got
  simp only
  rw [hlen]
  generalize x.p.take m.abs.ms x.now = p' at *
  generalize x.p.gets m.abs.ms x.now = L at *
  generalize x.p.answers m.abs.ms x.now = S at *
  have hp'e := t.pe
  have hmod : (p'.e % 256).toNat = p'.e.toNat := by rw [Int.emod_eq_of_lt (by omega) (by omega)]
  rw [hmod]
  obtain ⟨f', hf', hff, hL⟩ := t.hv f hf
  have hS : ∀ z ∈ (S.map Sv.ms).toList, ∃ s, S = some s ∧ z = s.ms := fun z hz => by
   cases S with
   | none => simp at hz
   | some s => exact ⟨s, rfl, by simpa using hz⟩
  refine ⟨hnow, hboot, hep, hsent, hrows, h.rb, ?_, h.fine, h.tz, t.sf, h.l0, fun y hy => ?_, fun y hy => ?_, ⟨f', ?_, fun e h1 h2 => ?_⟩, fun e h1 h2 => ?_, fun z hz hk hzt => ?_, fun z hz hk hzt => ?_⟩
  ·have := h.wire
   show (x.wire ++ (S.map Sv.ms).toList).length ≤ _
   rw [List.length_append]
   have : (S.map Sv.ms).toList.length ≤ 1 := by cases S <;> simp
   omega
  ·obtain ⟨g1, g2, g3, g4, g5⟩ := h.ln y hy
   refine ⟨g1, g2, g3, g4, ?_⟩
   show Sd y.b _ _ (updF x.gt p'.e.toNat _ (256 + x.ep.toNat))
   rw [updF_ne _ _ (by omega)]
   exact g5
  ·obtain ⟨g1, g2, g3, g4, g5⟩ := t.pn y hy
   have hye : p'.e = y.e := by have hy : p'.s = some y := hy; unfold Ps.e; rw [hy]
   refine ⟨g1, g2, g3, by omega, ?_⟩
   show Sd y _ _ (updF x.gt p'.e.toNat _ y.e.toNat)
   rw [hye, updF_same]
   exact g5
  ·show Hinv _ _ _ _ p'.e f' (keys (x.wire ++ (S.map Sv.ms).toList))
   rw [keys_app]
   have e9 : keys (S.map Sv.ms).toList = (S.map fun s => s.ms.abs.ms.x).toList := by cases S <;> rfl
   rw [e9]
   exact hf'
  ·obtain ⟨n1, n2⟩ := hnu e h1 (hff e h2)
   refine ⟨n1, ?_⟩
   show updF x.gt p'.e.toNat _ e = 0
   by_cases hee : e = p'.e.toNat
   ·subst hee
    rw [updF_same]
    rcases hL with hL | hL
    ·rw [hL, n2]; rfl
    ·exact absurd h2 hL
   ·rw [updF_ne _ _ hee]
    exact n2
  ·obtain ⟨n1, n2⟩ := h.nd e h1 h2
   refine ⟨n1, ?_⟩
   show updF x.gt p'.e.toNat _ (256 + e) = 0
   rw [updF_ne _ _ (by omega)]
   exact n2
  ·rcases List.mem_append.1 hz with hz | hz
   ·exact h.dD z hz hk hzt
   ·obtain ⟨s, h1, h2⟩ := hS z hz
    subst h2
    exact absurd hk (t.ans s h1)
  ·rcases List.mem_append.1 hz with hz | hz
   ·exact h.dU z hz hk hzt
   ·obtain ⟨s, h1, h2⟩ := hS z hz
    subst h2
    exact absurd hk (t.ans s h1)
end
end Go.Proofs.YtnoflfbcgbhipaaGreat.Oct
