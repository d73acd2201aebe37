/- Words for byte slices: a slice that reads as a list of numbers, a slice that the call owns, append onto it. -/
import Derived.Test.YtomjnpjabfnlbaaFrame
import Derived.Test.YtomjnpjabfnlbaaOctP
import Derived.WalkSmall
import Derived.IntWalk
import Derived.WalkSpells
import Derived.Outline
import Derived.Lib.Hide
import Derived.Laws.BytesArg
import Derived.Deep.AppendLies
import Derived.Laws.AppendOwnNone
import Derived.Lib.SlBytesConst
import Derived.OwnWalk
import Derived.LoopTactic
namespace Go.Proofs.Ytomjnpjabfnlbaa.Oct
open Go.RowKit
set_option linter.unusedVariables false

/-- The slice (A, n, c) reads as the numbers l, and lies below block B. -/
def Rd (k : IntKind) (w : World) (B : Nat) (A : Option Addr) (n c : Nat) (l : List Int) : Prop :=
  l.length = n ∧ n ≤ c ∧ c ≤ maxLen ∧ (A = none → c = 0) ∧
  (0 < n → ∃ b off, A = some ⟨b, off, none⟩ ∧ b < B ∧ ∀ j, j < n → w.cell? ⟨b, off + j, none⟩ = some (.int k (l.getD j 0)))

section
variable {k : IntKind} {w w' : World} {B B' : Nat} {A : Option Addr} {n c : Nat} {l : List Int}
theorem Rd.len (h : Rd k w B A n c l) : l.length = n := h.1
theorem Rd.le (h : Rd k w B A n c l) : n ≤ c := h.2.1
theorem Rd.cap (h : Rd k w B A n c l) : c ≤ maxLen := h.2.2.1
theorem Rd.max (h : Rd k w B A n c l) : (n : Int) ≤ 9223372036854775807 := by have := h.2.1; have := h.2.2.1; unfold maxLen at this; omega
theorem Rd.at_ (h : Rd k w B A n c l) (hn : 0 < n) : ∃ b off, A = some ⟨b, off, none⟩ ∧ b < B ∧ ∀ j, j < n → w.cell? ⟨b, off + j, none⟩ = some (.int k (l.getD j 0)) := h.2.2.2.2 hn
theorem Rd.keep (h : Rd k w B A n c l) (hk : ∀ b o, b < B → w'.cell? ⟨b, o, none⟩ = w.cell? ⟨b, o, none⟩) : Rd k w' B A n c l :=
  ⟨h.1, h.2.1, h.2.2.1, h.2.2.2.1, fun hn => by
    obtain ⟨b, off, e, hb, hc⟩ := h.at_ hn
    exact ⟨b, off, e, hb, fun j hj => (hk b _ hb).trans (hc j hj)⟩⟩
theorem Rd.below (h : Rd k w B A n c l) (hb : Below B w w') : Rd k w' B A n c l := h.keep fun b o hlt => hb.cell (p := ⟨b, o, none⟩) hlt
theorem Rd.below' (h : Rd k w B A n c l) (hb : Below B' w w') (hB : B ≤ B') : Rd k w' B A n c l := h.below (hb.mono hB)
theorem Rd.more (h : Rd k w B A n c l) (hB : B ≤ B') : Rd k w B' A n c l :=
  ⟨h.1, h.2.1, h.2.2.1, h.2.2.2.1, fun hn => by
    obtain ⟨b, off, e, hb, hc⟩ := h.at_ hn
    exact ⟨b, off, e, by omega, hc⟩⟩
theorem Rd.nil (k : IntKind) (w : World) (B : Nat) : Rd k w B none 0 0 [] := ⟨rfl, Nat.le_refl _, Nat.zero_le _, fun _ => rfl, fun h => absurd h (by omega)⟩
theorem Rd.of_row {len cap : Nat} {zs : List Int} (h : Frame.IsRow k w A len cap zs) : Rd k w w.heap.size A len cap (zs.take len) := by
  rcases h with ⟨rfl, rfl, rfl, rfl⟩ | ⟨x, rfl, hl, hm, hz, hcell, hwz⟩
  · exact Rd.nil k w _
  · refine ⟨by rw [List.length_take]; omega, hl, hm, fun h => by simp at h, fun hn => ?_⟩
    obtain ⟨b, off, spot⟩ := x
    have h0 := hcell 0 (by omega)
    have hspot : spot = none := by simpa [Addr.add] using World.cell?_spot h0
    subst hspot
    have hadd : ∀ j, (⟨b, off, none⟩ : Addr).add j = ⟨b, off + j, none⟩ := fun j => by unfold Addr.add; split <;> simp_all
    refine ⟨b, off, rfl, ?_, fun j hj => ?_⟩
    · rw [hadd] at h0; exact World.block_lt_of_cell? w _ h0
    · rw [← hadd, hcell j (by omega), List.getD_eq_getElem?_getD, List.getD_eq_getElem?_getD, List.getElem?_take_of_lt hj]
end

theorem By.of_wf {zs : List Int} (h : ∀ n ∈ zs, (Lit.int .u8 n).wf = true) : By zs := fun z hz => by have := Go.bounds_u8 (h z hz); omega
theorem By.of_row {w : World} {A : Option Addr} {len cap : Nat} {zs : List Int} (h : Frame.IsRow .u8 w A len cap zs) : By (zs.take len) := by
  rcases h with ⟨rfl, rfl, rfl, rfl⟩ | ⟨x, rfl, hl, hm, hz, hcell, hwz⟩
  · exact By.nil.take _
  · exact (By.of_wf hwz).take _

/-- The value v is a slice of bytes that the call owns, in a block from base on; it holds l. -/
def Own (w : World) (base : Nat) (v : Value) (n : Nat) (l : List Int) : Prop := w.ownsRow base 5 1 v n (l.map (Value.int .u8))

theorem info_u8 : (Try.prog.info? 5).map (fun i => (i.zero, i.size, i.bytes)) = some (some (.int .u8 0), 1, 1) := by kernel_rfl

section
variable {w w' : World} {base : Nat} {v : Value} {n : Nat} {l : List Int}
theorem Own.len (h : Own w base v n l) : l.length = n := by have := h.1; simpa using this
theorem Own.nil (w : World) (base : Nat) : Own w base (.slice none 0 0) 0 [] := World.ownsRow_nil w base _ 1
theorem Own.form (h : Own w base v n l) : ∃ A c, v = .slice A n c ∧ n ≤ c ∧ c ≤ maxLen ∧ (A = none → c = 0) ∧ (∀ a, A = some a → ∃ g, a = ⟨g, 0, none⟩ ∧ base ≤ g ∧ g < w.heap.size) := by
  rcases h.2 with ⟨rfl, rfl⟩ | ⟨g, cap, cur, rfl, hbg, hg, hnc, hcm, _⟩
  · exact ⟨none, 0, rfl, Nat.le_refl _, Nat.zero_le _, fun _ => rfl, fun a h => by simp at h⟩
  · exact ⟨some ⟨g, 0, none⟩, cap, rfl, hnc, hcm, fun h => by simp at h, fun a h => ⟨g, by simpa using h.symm, hbg, (Array.getElem?_eq_some_iff.1 hg).1⟩⟩
theorem Own.lower (h : Own w base v n l) {b : Nat} (hb : b ≤ base) : Own w b v n l := by
  refine ⟨h.1, ?_⟩
  rcases h.2 with h2 | ⟨g, cap, cur, e, hbg, r⟩
  · exact .inl h2
  · exact .inr ⟨g, cap, cur, e, by omega, r⟩
theorem Own.below (h : Own w base v n l) {B : Nat} (hb : Below B w w') (hB : w.heap.size ≤ B) : Own w' base v n l := by
  refine ⟨h.1, ?_⟩
  rcases h.2 with h2 | ⟨g, cap, cur, e, hbg, hg, r⟩
  · exact .inl h2
  · exact .inr ⟨g, cap, cur, e, hbg, (hb.block g (by have := (Array.getElem?_eq_some_iff.1 hg).1; omega)).trans hg, r⟩
theorem Own.alloc (h : Own w base v n l) (o : Obj) : Own (w.alloc o) base v n l := h.below ((Below.refl w.heap.size w).alloc (Nat.le_refl _) o) (Nat.le_refl _)
theorem Own.drewN (h : Own w base v n l) (q : Nat) : Own (w.drewN q) base v n l := h
theorem Own.rd {A : Option Addr} {c : Nat} (h : Own w base (.slice A n c) n l) : Rd .u8 w w.heap.size A n c l := by
  obtain ⟨A', c', e, h1, h2, h3, h4⟩ := h.form
  injection e with e1 e2 e3
  subst e1 e3
  refine ⟨h.len, h1, h2, h3, fun hn => ?_⟩
  obtain ⟨g, cap, hv, _, hlt⟩ := World.ownsRow.form h hn
  injection hv with hA _ _
  subst hA
  refine ⟨g, 0, rfl, hlt, fun j hj => ?_⟩
  have hl := h.len
  have := World.ownsRow.cells h (g := g) rfl j (.int .u8 (l.getD j 0)) (by
    rw [List.getElem?_map, List.getElem?_eq_getElem (by omega), List.getD_eq_getElem?_getD, List.getElem?_eq_getElem (by omega)]; rfl)
  have hadd : (⟨g, 0, none⟩ : Addr).add j = ⟨g, 0 + j, none⟩ := by unfold Addr.add; split <;> simp_all
  rw [← hadd]; exact this
theorem Own.make (w : World) (base cap : Nat) (hb : base ≤ w.heap.size) (hm : cap ≤ maxLen) {cs : Array Value} (hs : cs.size = cap) :
    Own (w.alloc (.cells cs 5)) base (.slice (some ⟨w.heap.size, 0, none⟩) 0 cap) 0 [] :=
  World.ownsRow_made w _ cap hb hm (by omega)
end

theorem add_addr (b off j : Nat) : (⟨b, off, none⟩ : Addr).add j = ⟨b, off + j, none⟩ := by unfold Addr.add; split <;> simp_all

/-- append(x, y...) of bytes, x the call's own: as an equation. -/
theorem run_append8 {w : World} (ty : TypeId) {base B : Nat} {v : Value} {n m c : Nat} {A : Option Addr} {l l2 : List Int} (hown : Own w base v n l) (hr : Rd .u8 w B A m c l2)
    (hsz : n + m ≤ 140737488355328) (hbase : base ≤ w.heap.size) :
    ∃ A' c' w', (Builtin.append_ #[29, 29] ty #[v, .slice A m c]).run Try.prog w = .ok (.slice A' (n + m) c') w' ∧ Own w' base (.slice A' (n + m) c') (n + m) (l ++ l2) ∧ Below base w w' := by
  obtain ⟨i0, hi, hz0, hz1, hz2⟩ := info_parts info_u8
  rcases A with _ | ad
  · have hc : c = 0 := hr.2.2.2.1 rfl
    have hm : m = 0 := by have := hr.le; omega
    subst hc hm
    have hl2 : l2 = [] := List.eq_nil_of_length_eq_zero hr.len
    subst hl2
    obtain ⟨A', c', e, _⟩ := hown.form
    subst e
    exact ⟨A', c', w, run_append_owned_none (P := Try.prog) (w := w) base 29 ty 5 i0 1 Try.underlying29 hi _ n _ hown, by simpa using hown, Below.refl _ _⟩
  · have hcells : ∀ j u, (l2.map (Value.int .u8))[j]? = some u → w.cell? (ad.add j) = some u := by
      intro j u hu
      have hjl : j < l2.length := by
        rcases Nat.lt_or_ge j l2.length with h | h
        · exact h
        · simp [List.getElem?_eq_none (show (l2.map (Value.int .u8)).length ≤ j by simpa using h)] at hu
      obtain ⟨b, off, e, _, hc⟩ := hr.at_ (by have := hr.len; omega)
      have e := Option.some.inj e
      subst e
      rw [add_addr, hc j (by have := hr.len; omega)]
      rw [List.getElem?_map, List.getElem?_eq_getElem hjl] at hu
      simp at hu
      rw [List.getD_eq_getElem?_getD, List.getElem?_eq_getElem hjl, ← hu]; rfl
    obtain ⟨v', w', hrun, h2, h3, _, h5⟩ := run_append_own_at (P := Try.prog) w base 29 ty 5 i0 _ 1 1 Try.underlying29 hi hz0 hz1 hz2 rfl (by omega) v n _ hown ad m c (l2.map (Value.int .u8)) (by simp [hr.len]) hcells
      (by intro u hu; obtain ⟨z, _, rfl⟩ := List.mem_map.1 hu; rfl) (by unfold maxLen; omega) (by omega) hbase
    have hown' : Own w' base v' (n + m) (l ++ l2) := by unfold Own; rw [List.map_append]; exact h2
    obtain ⟨A', c', e, _⟩ := hown'.form
    subst e
    refine ⟨A', c', w', hrun, hown', (Below.refl base w).grown h3 hbase fun k hk => ?_⟩
    exact (World.ownsRow.lt hown k hk).1

theorem wpList_append8 {w : World} {ops : Array Oper} {rest : List Oper} {o : Oper} {a : Act} {Q : Exit → Act → World → Prop} (hgd : o.guard = none) (s x : Operand)
    (ho : o.op = .call { callee := .builtin .append, args := #[s, x], argTypes := #[29, 29] })
    {base B : Nat} {v : Value} {n m c : Nat} {A : Option Addr} {l l2 : List Int} (hs : a.eval s = v) (hown : Own w base v n l) (hx : a.eval x = .slice A m c) (hr : Rd .u8 w B A m c l2)
    (hsz : n + m ≤ 140737488355328) (hbase : base ≤ w.heap.size)
    (h : ∀ A' c' w', Own w' base (.slice A' (n + m) c') (n + m) (l ++ l2) → Below base w w' → wpList Try.prog ops Q rest (a.put o.dst (.slice A' (n + m) c')) w') : wpList Try.prog ops Q (o :: rest) a w := by
  refine wpList_plain hgd fun K hK => ?_
  obtain ⟨A', c', w', hrun, h2, h3⟩ := run_append8 (w := w) o.type hown hr hsz hbase
  unfold Oper.wp execOp
  simp only [ho, resolve, invoke, builtin, Sem.run_bind, Sem.run_pure, Result.andThen_ok, List.map_toArray, List.map_cons, List.map_nil, hs, hx, hrun]
  exact hK _ _ (h A' c' w' h2 h3)

/-- A slice that reads as bytes, as a string. -/
theorem run_string {w : World} {B : Nat} {A : Option Addr} {n c : Nat} {l : List Int} (hr : Rd .u8 w B A n c l) :
    (convert 29 9 (.slice A n c)).run Try.prog w = .ok (.string (strOfNums l)) w := by
  rcases A with _ | ad
  · have hc : c = 0 := hr.2.2.2.1 rfl
    have hm : n = 0 := by have := hr.le; omega
    subst hc hm
    have hl2 : l = [] := List.eq_nil_of_length_eq_zero hr.len
    subst hl2
    exact run_convert_bytes_nil (P := Try.prog) w 29 5 Try.underlying29 Try.underlying5 0 0 _ Try.underlying9
  · by_cases hn : 0 < n
    · obtain ⟨b, off, e, _, hc⟩ := hr.at_ hn
      have e := Option.some.inj e
      subst e
      exact run_convert_bytes_arg (P := Try.prog) w 29 5 Try.underlying29 Try.underlying5 b off n c l hr.len hc _ Try.underlying9
    · have hn0 : n = 0 := by omega
      subst hn0
      have hl2 : l = [] := List.eq_nil_of_length_eq_zero hr.len
      subst hl2
      rw [run_convert_bytes_string (P := Try.prog) w 29 9 5 (some ad) 0 c Try.underlying29 Try.underlying5 Try.underlying9]
      rw [run_bytesToString (P := Try.prog) w ad 0 c [] (by simp [loadCells, loadCellsFrom])]
      rfl

/-- make([]byte, 0, cap), as an equation. -/
theorem run_make8 (cap : Nat) (h : cap ≤ 281474976710656) (C : Int) (hC : C = cap) (w : World) :
    (Instr.makeSlice 29 (.int .i64 0) (.int .i64 C)).run Try.prog w = .ok (.slice (some ⟨w.heap.size, 0, none⟩) 0 cap) (w.alloc (.cells (madeCells (Value.int .u8 0).cells cap) 5)) := by
  obtain ⟨i0, hi, hz0, hz1, hz2⟩ := info_parts info_u8
  have hr := run_make (P := Try.prog) w 29 5 i0 _ Try.underlying29 hi hz0 .i64 .i64 0 C (by omega) (by omega) (by rw [hz2]; omega) (by omega)
  rw [hr, hz1, hC]
  simp
theorem own_made (w : World) (base cap : Nat) (hb : base ≤ w.heap.size) (h : cap ≤ 281474976710656) :
    Own (w.alloc (.cells (madeCells (Value.int .u8 0).cells cap) 5)) base (.slice (some ⟨w.heap.size, 0, none⟩) 0 cap) 0 [] :=
  Own.make w base cap hb (by unfold maxLen; omega) (size_madeCells _ _)

/-- A list literal of numbers, in a block of its own. -/
theorem rd_lit (k : IntKind) (w : World) (t : TypeId) (l : List Int) (h : l.length ≤ maxLen) (B : Nat) (hB : w.heap.size < B) :
    Rd k (w.alloc (.cells (l.map (Value.int k)).toArray t)) B (some ⟨w.heap.size, 0, none⟩) l.length l.length l := by
  refine ⟨rfl, Nat.le_refl _, h, fun e => by simp at e, fun hn => ⟨w.heap.size, 0, rfl, hB, fun j hj => ?_⟩⟩
  rw [Nat.zero_add, World.cell?_alloc_new]
  simp only [List.getElem?_toArray, List.getElem?_map]
  rw [List.getD_eq_getElem?_getD, List.getElem?_eq_getElem hj]; rfl

/-- .. whatever its mark. -/
theorem rd_litm (k : IntKind) (w : World) (t : TypeId) (fr : Nat × Nat) (l : List Int) (h : l.length ≤ maxLen) (B : Nat) (hB : w.heap.size < B) :
    Rd k (w.alloc (.cells (l.map (Value.int k)).toArray t fr)) B (some ⟨w.heap.size, 0, none⟩) l.length l.length l := by
  refine ⟨rfl, Nat.le_refl _, h, fun e => by simp at e, fun hn => ⟨w.heap.size, 0, rfl, hB, fun j hj => ?_⟩⟩
  rw [Nat.zero_add, World.cell?_alloc_mark]
  simp only [List.getElem?_toArray, List.getElem?_map]
  rw [List.getD_eq_getElem?_getD, List.getElem?_eq_getElem hj]; rfl
/-- A step that only makes blocks. -/
theorem bstep {B : Nat} {a w w' : World} (h : Below B a w) (st : Below w.heap.size w w') (hB : B ≤ w.heap.size) : Below B a w' := h.trans (st.mono hB)
theorem below_alloc (w : World) (o : Obj) : Below w.heap.size w (w.alloc o) := (Below.refl _ _).alloc (Nat.le_refl _) o
theorem own_lit (w : World) (l : List Int) (base : Nat) (hb : base ≤ w.heap.size) (h : l.length ≤ maxLen) :
    Own (w.alloc (.cells (l.map (Value.int .u8)).toArray 5)) base (.slice (some ⟨w.heap.size, 0, none⟩) l.length l.length) l.length l := by
  have := World.ownsRow_lit (base := base) (e := 5) (size := 1) w (l.map (Value.int .u8)).toArray l.length hb h (by simp)
  simpa [Own] using this

theorem strOfNums_inj {a b : List Int} (ha : By a) (hb : By b) (h : strOfNums a = strOfNums b) : a = b := by
  have h1 : a.map (fun n => UInt8.ofNat n.toNat) = b.map (fun n => UInt8.ofNat n.toNat) := by
    rw [← strOfNums_data, ← strOfNums_data, h]
  have key : ∀ a b : List Int, By a → By b → a.map (fun n => UInt8.ofNat n.toNat) = b.map (fun n => UInt8.ofNat n.toNat) → a = b := by
    intro a
    induction a with
    | nil => intro b _ _ h; cases b with
      | nil => rfl
      | cons y b => simp at h
    | cons x a ih =>
      intro b ha hb h
      cases b with
      | nil => simp at h
      | cons y b =>
        simp only [List.map_cons, List.cons.injEq] at h
        have hx := ha x (by simp)
        have hy := hb y (by simp)
        have e := congrArg UInt8.toNat h.1
        simp at e
        rw [show x = y from by omega, ih b (fun z hz => ha z (by simp [hz])) (fun z hz => hb z (by simp [hz])) h.2]
  exact key a b ha hb h1
theorem str_beq {a b : List Int} (ha : By a) (hb : By b) : ((strOfNums a).toList == (strOfNums b).toList) = decide (a = b) := by
  by_cases h : a = b
  · subst h; simp
  · have h2 : (strOfNums a).toList ≠ (strOfNums b).toList := by
      rw [ByteArray.toList_eq, ByteArray.toList_eq]
      intro e
      exact h (strOfNums_inj ha hb (by
        have : (strOfNums a).data = (strOfNums b).data := by
          apply Array.toList_inj.1 e
        rcases hx : strOfNums a with ⟨d1⟩
        rcases hy : strOfNums b with ⟨d2⟩
        rw [hx, hy] at this
        simp at this
        rw [this]))
    simp [h, h2]
end Go.Proofs.Ytomjnpjabfnlbaa.Oct
