import Derived.Test.YtnoflfbcgbhipaaGreatInbC
import Derived.Test.YtnoflfbcgbhipaaGreatOrdF
import Derived.Test.YtnoflfbcgbhipaaGreatOrdO
import Derived.Test.YtnoflfbcgbhipaaGreatHaiD
set_option linter.unusedSimpArgs false
set_option linter.unusedVariables false
set_option maxRecDepth 100000
set_option maxHeartbeats 8000000
namespace Go.Proofs.YtnoflfbcgbhipaaGreat.Oct.Mo
open Go.RowKit
abbrev oneV (v : Value) : Value := v
def Saying (ms : List MapEntry) (es : List (Int × Value)) : Prop := ms.map (fun m => (m.key, m.val)) = es.map (fun e => (u16V e.1, oneV e.2))
theorem findNow_eq (k : Int) : ∀ (ms : List MapEntry) (es : List (Int × Value)) (j : Nat), Saying ms es → Instr.findNow (.int .u16) (u16V k) ms j = some ((ixK es k).map fun x => (x.1 + j, oneV x.2))
 | [], [], j, _ => rfl
 | [], e :: es, j, h => by simp [Saying] at h
 | m :: ms, [], j, h => by simp [Saying] at h
 | m :: ms, (a, v) :: es, j, h => by
  have h2 : (m.key, m.val) = (u16V a, oneV v) ∧ Saying ms es := by unfold Saying at h ⊢; simpa using h
  obtain ⟨h3, h4⟩ := h2
  obtain ⟨mk, mv, mb⟩ := m
  injection h3 with h5 h6
  have h5 : mk = u16V a := h5
  have h6 : mv = oneV v := h6
  subst h5 h6
  have ih := findNow_eq k ms es (j + 1) h4
  by_cases e : k = a
  ·subst e
   simp [Instr.findNow, Instr.sameNow, ixK]
  ·have e2 : (k == a) = false := by simpa using e
   simp only [Instr.findNow, Instr.sameNow, if_true, e2, ih, ixK, if_neg e]
   cases ixK es k with
   | none => rfl
   | some x => simp [Nat.add_assoc, Nat.add_comm 1 j]
def Mf (w : World) (b : Nat) (f : Int → Option Value) (n : Nat) : Prop :=
 ∃ (ms : List MapEntry) (clock : Nat) (es : List (Int × Value)), w.heap[b]? = some (.map ms.toArray clock) ∧ Saying ms es ∧ (es.map Prod.fst).Nodup ∧ es.length = n ∧ ∀ k, fndK es k = f k
section
variable {w w' : World} {b n : Nat} {f : Int → Option Value} {S : Nat → Prop}
theorem Mf.lt (h : Mf w b f n) : b < w.heap.size := by obtain ⟨ms, c, es, h1, _⟩ := h; exact (Array.getElem?_eq_some_iff.1 h1).1
theorem Mf.keep (h : Mf w b f n) (e : w'.heap[b]? = w.heap[b]?) : Mf w' b f n := by obtain ⟨ms, c, es, h1, h2⟩ := h; exact ⟨ms, c, es, e.trans h1, h2⟩
theorem Mf.stay (h : Mf w b f n) (hc : Ch S w w') (hs : ¬ S b) : Mf w' b f n := h.keep (hc.block b h.lt hs)
theorem Mf.below (h : Mf w b f n) (hb : Below w.heap.size w w') : Mf w' b f n := h.keep (hb.block b h.lt)
theorem Mf.nocell (h : Mf w b f n) (cs : Array Value) (t : TypeId) (m : Nat × Nat) : w.heap[b]? ≠ some (.cells cs t m) := by obtain ⟨ms, c, es, h1, _⟩ := h; rw [h1]; simp
theorem Mf.new (w : World) : Mf (w.alloc (.map #[] 0)) w.heap.size (fun _ => none) 0 := ⟨[], 0, [], (MapKept.heap_alloc w _).1, rfl, by simp, rfl, fun _ => rfl⟩
theorem Mf.cong (h : Mf w b f n) {g : Int → Option Value} {m : Nat} (hg : f = g) (hm : n = m) : Mf w b g m := by subst hg hm; exact h
variable {T E : TypeId}
theorem run_findU (hK : Tryz.prog.underlying 187 = some (.int .u16)) {ms : List MapEntry} {es : List (Int × Value)} (h : Saying ms es) (k : Int) (w : World) : (Instr.findKey 187 (u16V k) ms).run Tryz.prog w = .ok ((ixK es k).map fun x => (x.1, oneV x.2)) w := by
 unfold Instr.findKey
 rw [Sem.run_bind, run_underlying hK]
 have := findNow_eq k ms es 0 h
 simp only [Nat.add_zero] at this
 simp [this]
def lkR (z : Value) (o : Option Value) : Value := .tuple #[oneV (o.getD z), .bool o.isSome]
theorem run_lookM (hT : Tryz.prog.underlying T = some (.map 187 E)) (hK : Tryz.prog.underlying 187 = some (.int .u16)) {z : Value} (hz : ∀ w, (zeroValue E).run Tryz.prog w = .ok (oneV z) w) (h : Mf w b f n) (k : Int) :
  (Instr.lookup T (.map (some b)) (u16V k) true).run Tryz.prog w = .ok (lkR z (f k)) w := by
 obtain ⟨ms, c, es, h1, h2, h3, h4, h5⟩ := h
 have hf := run_findU hK h2 k w
 rw [← h5 k]
 unfold fndK lkR
 cases hq : ixK es k with
 | none =>
  rw [hq] at hf
  simp [Instr.lookup, run_underlying hT, MapKept.run_getObj_map h1, run_checkU hK, hf, hz, Result.andThen]
 | some x =>
  rw [hq] at hf
  simp [Instr.lookup, run_underlying hT, MapKept.run_getObj_map h1, run_checkU hK, hf, Result.andThen]
theorem run_updM (hT : Tryz.prog.underlying T = some (.map 187 E)) (hK : Tryz.prog.underlying 187 = some (.int .u16)) (h : Mf w b f n) (k : Int) (v : Value) (hn : f k = none) :
  ∃ w', (Instr.mapUpdate T (.map (some b)) (u16V k) (oneV v)).run Tryz.prog w = .ok () w' ∧ Mf w' b (setF f k (some v)) (n + 1) ∧ Ch (fun x => x = b) w w' := by
 obtain ⟨ms, c, es, h1, h2, h3, h4, h5⟩ := h
 have hf := run_findU hK h2 k w
 have hx : ixK es k = none := by have := h5 k; rw [hn] at this; unfold fndK at this; simpa using this
 rw [hx] at hf
 have hst := MapKept.heap_set (o' := .map (ms.toArray.push ⟨u16V k, oneV v, c⟩) (c + 1)) h1
 refine ⟨{ w with heap := w.heap.setIfInBounds b (.map (ms.toArray.push ⟨u16V k, oneV v, c⟩) (c + 1)) }, ?_, ⟨ms ++ [⟨u16V k, oneV v, c⟩], c + 1, es ++ [(k, v)], ?_, ?_, ?_, by simp [h4], fun k' => ?_⟩, ⟨rfl, rfl, rfl, by simp, fun i _ hi => hst.2 i hi⟩⟩
 ·simp [Instr.mapUpdate, run_underlying hT, MapKept.run_getObj_map h1, run_checkU hK, hf, MapKept.run_setObj_map _ h1, Result.andThen]
 ·have := hst.1
  simpa using this
 ·unfold Saying at h2 ⊢
  rw [List.map_append, List.map_append, h2]
  rfl
 ·rw [List.map_append]
  have := (ixK_none es k).1 hx
  simp only [List.map_cons, List.map_nil]
  rw [List.nodup_append]
  refine ⟨h3, by simp, fun a ha b' hb e => ?_⟩
  simp at hb
  subst hb
  exact this (e ▸ ha)
 ·rw [fndK_snoc es k v k' (by unfold fndK; rw [hx]; rfl), h5 k']
  rfl
theorem run_delM (hT : Tryz.prog.underlying T = some (.map 187 E)) (hK : Tryz.prog.underlying 187 = some (.int .u16)) (h : Mf w b f n) (ty : TypeId) (k : Int) (v : Value) (hn : f k = some v) :
  ∃ w', (Builtin.delete_ #[T, 187] ty #[.map (some b), u16V k]).run Tryz.prog w = .ok (.tuple #[]) w' ∧ Mf w' b (setF f k none) (n - 1) ∧ Ch (fun x => x = b) w w' := by
 obtain ⟨ms, c, es, h1, h2, h3, h4, h5⟩ := h
 have hf := run_findU hK h2 k w
 obtain ⟨i, hx⟩ : ∃ i, ixK es k = some (i, v) := by
  have := h5 k
  rw [hn] at this
  unfold fndK at this
  cases hq : ixK es k with
  | none => rw [hq] at this; simp at this
  | some x => rw [hq] at this; simp at this; exact ⟨x.1, by rw [← this]⟩
 rw [hx] at hf
 have hil : i < es.length := (List.getElem?_eq_some_iff.1 (ixK_key es k i v hx)).1
 have hml : ms.length = es.length := by have := congrArg List.length h2; simpa using this
 have hst := MapKept.heap_set (o' := .map (ms.eraseIdx i).toArray c) h1
 refine ⟨{ w with heap := w.heap.setIfInBounds b (.map (ms.eraseIdx i).toArray c) }, ?_, ⟨ms.eraseIdx i, c, es.eraseIdx i, ?_, ?_, ?_, ?_, fun k' => ?_⟩, ⟨rfl, rfl, rfl, by simp, fun j _ hj => hst.2 j hj⟩⟩
 ·simp [Builtin.delete_, run_underlying hT, MapKept.run_getObj_map h1, run_checkU hK, hf, MapKept.run_setObj_map _ h1, Result.andThen]
 ·have := hst.1
  simpa using this
 ·unfold Saying at h2 ⊢
  rw [map_erase, map_erase, h2]
 ·rw [map_erase]
  exact h3.sublist (List.eraseIdx_sublist _ _)
 ·rw [List.length_eraseIdx, if_pos hil, h4]
 ·rw [fndK_erase es k i v k' h3 hx, h5 k']
  rfl
end
structure Ib (IT : TypeId) (w : World) (x b : Nat) (nx : Int) (p1 p2 p3 : OV) : Prop where
 own : Vb IT w x [.int .u16 nx, .map (some b)]
 mp : Mf w b (kpt nx none p1 p2 p3) (cnt p1 p2 p3)
 r0 : 0 ≤ nx
 r1 : nx < 65536
section
variable {IT : TypeId} {w w' : World} {x b : Nat} {nx : Int} {p1 p2 p3 : OV} {S : Nat → Prop}
theorem Ib.ne (h : Ib IT w x b nx p1 p2 p3) : x ≠ b := fun e => h.mp.nocell _ _ _ (e ▸ h.own)
theorem Ib.stay (h : Ib IT w x b nx p1 p2 p3) (hc : Ch S w w') (hx : ¬ S x) (hb : ¬ S b) : Ib IT w' x b nx p1 p2 p3 := ⟨(hc.block x h.own.lt hx).trans h.own, h.mp.stay hc hb, h.r0, h.r1⟩
theorem Ib.below (h : Ib IT w x b nx p1 p2 p3) (hb : Below w.heap.size w w') : Ib IT w' x b nx p1 p2 p3 := h.stay (S := fun _ => False) (.of_below hb) id id
end
end Go.Proofs.YtnoflfbcgbhipaaGreat.Oct.Mo
namespace Go.Proofs.YtnoflfbcgbhipaaGreat.Oct
open Go.RowKit
def odv (o : OrdV) (A : Option Addr) (n c : Nat) : Value := (.agg #[.int .i64 o.k, .int .i64 o.n, .int .i64 o.m, .int .i64 o.r.k, .int .i64 o.r.pr, .int .i64 o.r.to, .int .i64 o.r.po, .int .i64 o.r.x.v, .int .i64 o.r.x.m, .int .u8 o.r.x.b0, .int .u8 o.r.x.b1, .int .u8 o.r.x.b2, .int .u8 o.r.x.i0, .int .u8 o.r.x.i1, .int .u8 o.r.x.i2, .slice A n c, .int .i64 o.f, .int .i64 o.p, .int .i64 o.t, .int .i64 o.q, .int .i64 o.z])
structure Ov where
 o : OrdV
 A : Option Addr
 n : Nat
 c : Nat
def Ov.v (x : Ov) : Value := odv x.o x.A x.n x.c
def Ov.cells (x : Ov) : List Value := ocl x.o (.slice x.A x.n x.c)
def Ov.ok (w : World) (x : Ov) : Prop := Ron w 0 x.A x.n x.c x.o.r.os
theorem Ov.cells_len (x : Ov) : x.cells.length = 21 := rfl
theorem ov_one (x : Ov) : ∀ u ∈ x.cells, u.oneCell' = true := by
 intro u hu
 simp only [Ov.cells, ocl, List.mem_cons, List.not_mem_nil, or_false] at hu
 rcases hu with rfl | rfl | rfl | rfl | rfl | rfl | rfl | rfl | rfl | rfl | rfl | rfl | rfl | rfl | rfl | rfl | rfl | rfl | rfl | rfl | rfl <;> rfl
def flatV : List Ov → List Value
 | [] => []
 | x :: r => x.cells ++ flatV r
theorem flatV_len : ∀ l, (flatV l).length = l.length * 21
 | [] => rfl
 | x :: r => by simp [flatV, flatV_len r, Ov.cells_len]; omega
theorem flatV_append : ∀ a b, flatV (a ++ b) = flatV a ++ flatV b
 | [], b => rfl
 | x :: r, b => by simp [flatV, flatV_append r b]
theorem flatV_at : ∀ (l : List Ov) (j : Nat) (x : Ov), l[j]? = some x → ∀ i u, x.cells[i]? = some u → (flatV l)[j * 21 + i]? = some u
 | [], j, x, h, i, u, hu => by simp at h
 | y :: r, 0, x, h, i, u, hu => by
  simp at h
  subst h
  have hi : i < y.cells.length := (List.getElem?_eq_some_iff.1 hu).1
  rw [flatV, Nat.zero_mul, Nat.zero_add, List.getElem?_append_left hi]
  exact hu
 | y :: r, j + 1, x, h, i, u, hu => by
  have ih := flatV_at r j x (by simpa using h) i u hu
  rw [flatV, List.getElem?_append_right (by rw [Ov.cells_len]; omega), Ov.cells_len, show (j + 1) * 21 + i - 21 = j * 21 + i by omega]
  exact ih
theorem info_order : (Tryz.prog.info? 51).map (fun i => (i.zero, i.size, i.bytes)) = some (some (odv noOrd none 0 0), 21, 144) := by kernel_rfl
def Vo (w : World) (base : Nat) (v : Value) (n : Nat) (l : List Ov) : Prop := w.ownsRow base 51 21 v n (flatV l)
def Vod (w : World) (B : Nat) (A : Option Addr) (n c : Nat) (l : List Ov) : Prop :=
 l.length = n ∧ n ≤ c ∧ c ≤ maxLen ∧ (A = none → c = 0) ∧ (0 < n → ∃ b off, A = some ⟨b, off, none⟩ ∧ b < B ∧ ∀ (j : Nat) (x : Ov), l[j]? = some x → ∀ i u, x.cells[i]? = some u → w.cell? ⟨b, off + j * 21 + i, none⟩ = some u)
section
variable {w w' : World} {base B n : Nat} {v : Value} {l : List Ov}
theorem Vo.len (h : Vo w base v n l) : l.length = n := by have := h.1; rw [flatV_len] at this; omega
theorem Vo.nil0 (w : World) (base : Nat) : Vo w base (.slice none 0 0) 0 [] := World.ownsRow_nil w base _ 21
theorem Vo.form (h : Vo w base v n l) : ∃ A c, v = .slice A n c ∧ n ≤ c ∧ c ≤ maxLen ∧ (A = none → c = 0) ∧ (∀ a, A = some a → ∃ g, a = ⟨g, 0, none⟩ ∧ base ≤ g ∧ g < w.heap.size) := by
 rcases h.2 with ⟨rfl, rfl⟩ | ⟨g, cap, cur, rfl, hbg, hg, hnc, hcm, _⟩
 ·exact ⟨none, 0, rfl, Nat.le_refl _, Nat.zero_le _, fun _ => rfl, fun a h => by simp at h⟩
 ·exact ⟨some ⟨g, 0, none⟩, cap, rfl, hnc, hcm, fun h => by simp at h, fun a h => ⟨g, by simpa using h.symm, hbg, (Array.getElem?_eq_some_iff.1 hg).1⟩⟩
theorem Vo.lt (h : Vo w base v n l) : ∀ k, v.ownBlock = some k → base ≤ k ∧ k < w.heap.size := World.ownsRow.lt h
theorem Vo.typed (h : Vo w base v n l) : ∀ k, v.ownBlock = some k → ∃ cur, w.heap[k]? = some (.cells cur 51 (0, 0)) := by
 intro k hk
 rcases h.2 with ⟨rfl, _⟩ | ⟨g, cap, cur, rfl, hbg, hg, _⟩
 ·simp [Value.ownBlock] at hk
 ·simp [Value.ownBlock] at hk
  subst hk
  exact ⟨cur, hg⟩
theorem Vo.lower (h : Vo w base v n l) {b : Nat} (hb : b ≤ base) : Vo w b v n l := by
 refine ⟨h.1, ?_⟩
 rcases h.2 with h2 | ⟨g, cap, cur, e, hbg, r⟩
 ·exact .inl h2
 ·exact .inr ⟨g, cap, cur, e, by omega, r⟩
theorem Vo.stay {S : Nat → Prop} (h : Vo w base v n l) (hc : Ch S w w') (hs : ∀ k, v.ownBlock = some k → ¬ S k) : Vo w' base v n l := by
 refine ⟨h.1, ?_⟩
 rcases h.2 with h2 | ⟨g, cap, cur, e, hbg, hg, r⟩
 ·exact .inl h2
 ·exact .inr ⟨g, cap, cur, e, hbg, (hc.block g (Array.getElem?_eq_some_iff.1 hg).1 (hs g (by rw [e]; rfl))).trans hg, r⟩
theorem Vo.below (h : Vo w base v n l) (hb : Below w.heap.size w w') : Vo w' base v n l := h.stay (S := fun _ => False) (.of_below hb) (fun _ _ e => e)
theorem Vo.vod {A : Option Addr} {c : Nat} (h : Vo w base (.slice A n c) n l) : Vod w w.heap.size A n c l := by
 obtain ⟨A', c', e, h1, h2, h3, h4⟩ := h.form
 injection e with e1 e2 e3
 subst e1 e3
 refine ⟨h.len, h1, h2, h3, fun hn => ?_⟩
 obtain ⟨g, cap, hv, _, hlt⟩ := World.ownsRow.form h hn
 injection hv with hA _ _
 subst hA
 refine ⟨g, 0, rfl, hlt, fun j x hj i u hu => ?_⟩
 have key := World.ownsRow.cells h (g := g) rfl (j * 21 + i) u (flatV_at l j x hj i u hu)
 simpa [add_addr] using key
theorem Vod.max {A : Option Addr} {c : Nat} (h : Vod w B A n c l) : (n : Int) ≤ 9223372036854775807 := by have := h.2.1; have := h.2.2.1; unfold maxLen at this; omega
theorem Vod.at_ {A : Option Addr} {c : Nat} (h : Vod w B A n c l) (hn : 0 < n) : ∃ b off, A = some ⟨b, off, none⟩ ∧ b < B ∧ ∀ (j : Nat) (x : Ov), l[j]? = some x → ∀ i u, x.cells[i]? = some u → w.cell? ⟨b, off + j * 21 + i, none⟩ = some u := h.2.2.2.2 hn
theorem Vod.below {A : Option Addr} {c : Nat} (h : Vod w B A n c l) (hb : Below B w w') : Vod w' B A n c l :=
 ⟨h.1, h.2.1, h.2.2.1, h.2.2.2.1, fun hn => by
  obtain ⟨b, off, e, hlt, hc⟩ := h.at_ hn
  exact ⟨b, off, e, hlt, fun j x hj i u hu => (hb.cell (p := ⟨b, _, none⟩) hlt).trans (hc j x hj i u hu)⟩⟩
theorem vo_lit (w : World) (x : Ov) (hb : base ≤ w.heap.size) : Vo (w.alloc (.cells x.cells.toArray 51)) base (.slice (some ⟨w.heap.size, 0, none⟩) 1 1) 1 [x] := by
 refine ⟨by simp [flatV, Ov.cells_len], .inr ⟨w.heap.size, 1, x.cells.toArray, rfl, hb, ?_, Nat.le_refl _, by unfold maxLen; omega, by simp [Ov.cells_len], ?_⟩⟩
 ·exact heap_alloc_new w _
 ·rw [List.take_of_length_le (by show (x.cells.toArray.toList).length ≤ _; simp [Ov.cells_len])]; simp [flatV]
end
theorem Vo.push {T : TypeId} (hT : Tryz.prog.underlying T = some (.slice 51)) {w : World} (ty : TypeId) {base : Nat} {v : Value} {n g2 : Nat} {l : List Ov} (x : Ov) (h : Vo w base v n l)
  (hr : ∀ j u, x.cells[j]? = some u → w.cell? ⟨g2, j, none⟩ = some u) (hsz : n ≤ 1000000) (hbase : base ≤ w.heap.size) :
  ∃ A' c' w', (Builtin.append_ #[T, T] ty #[v, .slice (some ⟨g2, 0, none⟩) 1 1]).run Tryz.prog w = .ok (.slice A' (n + 1) c') w' ∧ Vo w' base (.slice A' (n + 1) c') (n + 1) (l ++ [x]) ∧ Ch (fun k => v.ownBlock = some k) w w' ∧ ((Value.slice A' (n + 1) c').ownBlock = v.ownBlock ∨ ∀ k, (Value.slice A' (n + 1) c').ownBlock = some k → w.heap.size ≤ k) := by
 obtain ⟨i0, hi, hz0, hz1, hz2⟩ := info_parts info_order
 have hcells : ∀ j u, x.cells[j]? = some u → w.cell? ((⟨g2, 0, none⟩ : Addr).add j) = some u := by
  intro j u hu
  rw [add_addr, Nat.zero_add]
  exact hr j u hu
 obtain ⟨v', w', hrun, h2, h3, h4, h5⟩ := run_append_own_at (P := Tryz.prog) _ base T ty 51 i0 _ 21 144 hT hi hz0 hz1 hz2 rfl (by omega) v n _ h ⟨g2, 0, none⟩ 1 1 x.cells (by rw [Ov.cells_len]) hcells
  (ov_one x) (by unfold maxLen; omega) (by omega) hbase
 have hO : Vo w' base v' (n + 1) (l ++ [x]) := by unfold Vo; rw [flatV_append, flatV, flatV, List.append_nil]; exact h2
 obtain ⟨A', c', e, _⟩ := hO.form
 subst e
 exact ⟨A', c', w', hrun, hO, .of_grownv h3, h5.imp id fun e k hk => by rw [e] at hk; have := Option.some.inj hk; omega⟩
def folG {α : Type} : Option α → Option α → Option α → List α
 | none, _, _ => []
 | some a, none, _ => [a]
 | some a, some b, none => [a, b]
 | some a, some b, some c => [a, b, c]
def rstG {α : Type} : Option α → Option α → Option α → Option α × Option α × Option α
 | none, q2, q3 => (q2, q3, none)
 | some _, none, q3 => (q3, none, none)
 | some _, some _, _ => (none, none, none)
theorem folG_step {α : Type} (a : α) (q2 q3 : Option α) : folG (some a) q2 q3 = a :: folG q2 q3 none := by cases q2 <;> cases q3 <;> rfl
theorem rstG_step {α : Type} (a : α) (q2 q3 : Option α) : rstG (some a) q2 q3 = rstG q2 q3 none := by cases q2 <;> cases q3 <;> rfl
theorem folG_none {α : Type} (q2 q3 : Option α) : folG none q2 q3 = [] := rfl
theorem rstG_none {α : Type} (q2 q3 : Option α) : rstG none q2 q3 = (q2, q3, none) := rfl
theorem folG_le {α : Type} (q1 q2 q3 : Option α) : (folG q1 q2 q3).length ≤ 3 := by cases q1 <;> cases q2 <;> cases q3 <;> simp [folG]
def Io (w : World) (x b : Nat) (nx : Int) (p1 p2 p3 : Option Ov) : Prop := Mo.Ib 195 w x b nx (p1.map Ov.v) (p2.map Ov.v) (p3.map Ov.v)
def cntO (p1 p2 p3 : Option Ov) : Nat := cnt (p1.map Ov.v) (p2.map Ov.v) (p3.map Ov.v)
theorem exec_load_vb {o : Oper} {a : Act} {T ty : TypeId} {w : World} {g off : Nat} {cs vs : List Value} (x : Operand) (ho : o.op = .load ty x) (hx : a.eval x = .pointer (some ⟨g, off, none⟩)) (hv : Vb T w g cs) (hvs : (cs.drop off).take vs.length = vs) (ht : Agg ty vs.length) :
  (execOp a.eval o).run Tryz.prog w = .ok (.value (.agg vs.toArray)) w := by
 unfold execOp
 simp only [ho, hx, Instr.loadAt, Instr.sureAddr, Sem.run_bind, Sem.run_pure, Result.andThen_ok, run_loadVb hv hvs ht]
theorem inbOp_upd {o : Oper} {a : Act} {K : Act → World → Prop} {Q : Exit → Act → World → Prop} {t : TypeId} {w w' : World} (s x y : Operand) (ho : o.op = .mapUpdate t s x y) {v u z : Value} (hs : a.eval s = v) (hx : a.eval x = u) (hy : a.eval y = z)
  (hrun : (Instr.mapUpdate t v u z).run Tryz.prog w = .ok () w') (h : K (a.put o.dst undef) w') : o.wp Tryz.prog a w K Q := by
 unfold Oper.wp execOp
 simp only [ho, Sem.run_bind, Sem.run_pure, Result.andThen_ok, hs, hx, hy, hrun]
 exact h
theorem agg_oE : Agg 283 21 := ⟨⟨_, Tryz.underlying283, rfl⟩, by kernel_rfl⟩
theorem zero_oV (w : World) : (zeroValue 283).run Tryz.prog w = .ok (Mo.oneV (odv noOrd none 0 0)) w := by kernel_rfl
section
variable {w w' : World} {x b : Nat} {nx : Int} {p1 p2 p3 : Option Ov}
theorem oisNone (h : Vb 195 w x [.int .u16 nx, .map (some b)]) : Calls Tryz.prog 162 #[.pointer (some ⟨x, 0, none⟩)] w fun e w' => e = .returned (.bool false) ∧ w' = w := by
 have c1 := h.cell 1 rfl
 have hq : (binOp .eql 193 (.map (some b)) (.map none)).run Tryz.prog w = .ok (.bool false) w := run_eql_map_nil w _ _ _ (some b) Tryz.underlying193
 clear h
 go_enter Tryz.func162, Tryz.ntmps162
 go_wp2_with fail
 go_ret
 exact ⟨rfl, rfl⟩
theorem onew_yes (w : World) (n : Int) (h0 : 0 ≤ n) (h1 : n ≤ 65535) : Calls Tryz.prog 95 #[.int .i64 n] w fun e w' => ∃ x b, e = .returned (.tuple #[.pointer (some ⟨x, 0, none⟩), .int .i64 0]) ∧ w.heap.size ≤ x ∧ w.heap.size ≤ b ∧ Io w' x b n none none none ∧ Below w.heap.size w w' := by
 have hn := isNumber_any n w
 rw [isN_yes h0 h1] at hn
 have hu : IntKind.u16.wrap n = n := by rw [IntKind.wrap_u16]; omega
 have hmm := @run_makeMap Tryz.prog
 have HM := Kp.mk (Mo.Mf.new w)
 have HV := Vb.new 195 (w.alloc (.map #[] 0)) [.int .u16 n, .map (some w.heap.size)]
 rw [World.size_alloc] at HV
 have HV := Kp.mk HV
 have HB := Kp.mk (below_two w (.map #[] 0) (.cells #[.int .u16 n, .map (some w.heap.size)] 195))
 have HN := Kp.mk (And.intro h0 h1)
 go_enter Tryz.func95, Tryz.ntmps95
 go_wp2_with (refine hn.mono ?_; rintro e w1 ⟨rfl, rfl⟩)
 go_ret2
 refine ⟨_, _, rfl, ?_, Nat.le_refl _, ⟨HV.out, (HM.out.below (below_alloc _ _)).cong (by rw [show Option.map Ov.v none = none from rfl, kpt_none]) rfl, HN.out.1, by have := HN.out; omega⟩, HB.out⟩
 simp
theorem oack (h : Io w x b nx p1 p2 p3) : Calls Tryz.prog 115 #[.pointer (some ⟨x, 0, none⟩)] w fun e w' => e = .returned (.int .i64 nx) ∧ w' = w := by
 have hn := oisNone h.own
 have c0 := h.own.cell 0 rfl
 have h0 := h.r0
 have h1 := h.r1
 clear h
 go_enter Tryz.func115, Tryz.ntmps115
 go_wp2_with (refine hn.mono ?_; rintro e w1 ⟨rfl, rfl⟩)
 go_ret
 exact ⟨rfl, rfl⟩
theorem okeep_yes {f : Int → OV} {m : Nat} (hx : Vb 195 w x [.int .u16 nx, .map (some b)]) (h : Mo.Mf w b f m) (k : Int) (o : OrdV) (A : Option Addr) (n c : Nat) (hf : f k = none) : Calls Tryz.prog 212 #[.pointer (some ⟨x, 0, none⟩), .int .u16 k, (.agg #[.int .i64 o.k, .int .i64 o.n, .int .i64 o.m, .int .i64 o.r.k, .int .i64 o.r.pr, .int .i64 o.r.to, .int .i64 o.r.po, .int .i64 o.r.x.v, .int .i64 o.r.x.m, .int .u8 o.r.x.b0, .int .u8 o.r.x.b1, .int .u8 o.r.x.b2, .int .u8 o.r.x.i0, .int .u8 o.r.x.i1, .int .u8 o.r.x.i2, .slice A n c, .int .i64 o.f, .int .i64 o.p, .int .i64 o.t, .int .i64 o.q, .int .i64 o.z])] w fun e w' => e = .returned (.tuple #[]) ∧ Mo.Mf w' b (setF f k (some (odv o A n c))) (m + 1) ∧ Ch (fun y => y = b) w w' := by
 have hb1 := below_alloc w (.cells #[.int .i64 o.k, .int .i64 o.n, .int .i64 o.m, .int .i64 o.r.k, .int .i64 o.r.pr, .int .i64 o.r.to, .int .i64 o.r.po, .int .i64 o.r.x.v, .int .i64 o.r.x.m, .int .u8 o.r.x.b0, .int .u8 o.r.x.b1, .int .u8 o.r.x.b2, .int .u8 o.r.x.i0, .int .u8 o.r.x.i1, .int .u8 o.r.x.i2, .slice A n c, .int .i64 o.f, .int .i64 o.p, .int .i64 o.t, .int .i64 o.q, .int .i64 o.z] 51)
 have hv1 := Vb.new 51 w (ocl o (.slice A n c))
 change Vb 51 (w.alloc (.cells #[.int .i64 o.k, .int .i64 o.n, .int .i64 o.m, .int .i64 o.r.k, .int .i64 o.r.pr, .int .i64 o.r.to, .int .i64 o.r.po, .int .i64 o.r.x.v, .int .i64 o.r.x.m, .int .u8 o.r.x.b0, .int .u8 o.r.x.b1, .int .u8 o.r.x.b2, .int .u8 o.r.x.i0, .int .u8 o.r.x.i1, .int .u8 o.r.x.i2, .slice A n c, .int .i64 o.f, .int .i64 o.p, .int .i64 o.t, .int .i64 o.q, .int .i64 o.z] 51)) _ _ at hv1
 have hx1 := hx.below hb1 hx.lt
 have hm1 := h.below hb1
 have hl := Mo.run_lookM Tryz.underlying193 Tryz.underlying187 zero_oV hm1 k
 rw [hf] at hl
 simp only [Mo.lkR, Mo.oneV, Option.getD_none, Option.isSome_none, odv, noOrd, noRule, noMask] at hl
 clear hx h
 go_enter Tryz.func212, Tryz.ntmps212
 go_upto_region 1 with fail
 obtain ⟨g, hg⟩ : ∃ g, g = w.heap.size := ⟨_, rfl⟩
 rw [← hg] at hv1 ⊢
 have HG := Kp.mk hg
 clear hg
 generalize w.alloc (.cells #[.int .i64 o.k, .int .i64 o.n, .int .i64 o.m, .int .i64 o.r.k, .int .i64 o.r.pr, .int .i64 o.r.to, .int .i64 o.r.po, .int .i64 o.r.x.v, .int .i64 o.r.x.m, .int .u8 o.r.x.b0, .int .u8 o.r.x.b1, .int .u8 o.r.x.b2, .int .u8 o.r.x.i0, .int .u8 o.r.x.i1, .int .u8 o.r.x.i2, .slice A n c, .int .i64 o.f, .int .i64 o.p, .int .i64 o.t, .int .i64 o.q, .int .i64 o.z] 51) = w1 at *
 have c0 := hx1.cell 1 rfl
 have HV1 := Kp.mk hv1
 have HX1 := Kp.mk hx1
 have HM1 := Kp.mk hm1
 have HB1 := Kp.mk hb1
 clear hv1 hx1 hm1 hb1
 go_upto_region 2 with (refine wpList_store_new (vs := ocl noOrd (.slice none 0 0)) rfl (.tmp 6) (.tmp 15) rfl rfl rfl rfl rfl rfl agg_oE rfl ?_; intro w2 hv2 hb2 hz2)
 have HB2 := Kp.mk hb2
 clear hl c0 hz2 hv2 hb2
 have HV2 := Kp.mk (HV1.out.below HB2.out HV1.out.lt)
 have HX2 := Kp.mk (HX1.out.below HB2.out HX1.out.lt)
 have HM2 := Kp.mk (HM1.out.below HB2.out)
 have HC2 := Kp.mk ((Ch.of_below (S := fun y => y = b) HB1.out).trans (Ch.of_below (S := fun y => y = b) HB2.out) (fun _ _ e => e))
 clear HV1 HX1 HM1 HB1 HB2
 go_upto_region 3 with fail
 refine wp_region_held_drew (S := fun X => Vb 51 X g (ocl o (.slice A n c)) ∧ X.cell? ⟨x, 1, none⟩ = some (.map (some b))) (by kernel_rfl) ⟨HV2.out, HX2.out.cell 1 rfl⟩ (fun hS0 => ?_)
 have HM4 := Kp.mk (show Mo.Mf w2.drew b f m from HM2.out)
 have HC4 := Kp.mk (show Ch (fun y => y = b) w w2.drew from ⟨HC2.out.os, HC2.out.tape, HC2.out.output, HC2.out.size, HC2.out.block⟩)
 have HX4 := Kp.mk (show Vb 195 w2.drew x [.int .u16 nx, .map (some b)] from HX2.out)
 clear HM2 HC2 HX2 HV2
 generalize w2.drew = y at *
 refine tD 0 (.pointer (some ⟨x, 0, none⟩)) 19 rfl rfl hS0 ?_ ?_
 ·rintro w' hq
  go_simp
 try simp only [Act.put, zA, zB, zC]
 refine tD 1 (.pointer (some ⟨x, 0, none⟩)) 20 rfl rfl hS0 ?_ ?_
 ·rintro w' hq
  go_simp
 try simp only [Act.put, zA, zB, zC]
 refine tD 2 (.pointer (some ⟨x, 1, none⟩)) 21 rfl rfl hS0 ?_ ?_
 ·rintro w' hq
  go_simp
 try simp only [Act.put, zA, zB, zC]
 refine tD 3 (.map (some b)) 22 rfl rfl hS0 ?_ ?_
 ·rintro w' hq
  obtain ⟨_, c1⟩ := hq
  go_simp
 try simp only [Act.put, zA, zB, zC]
 refine tD 4 (.int .u16 k) 23 rfl rfl hS0 ?_ ?_
 ·rintro w' hq
  go_simp
 try simp only [Act.put, zA, zB, zC]
 refine tD 5 (.agg #[.int .i64 o.k, .int .i64 o.n, .int .i64 o.m, .int .i64 o.r.k, .int .i64 o.r.pr, .int .i64 o.r.to, .int .i64 o.r.po, .int .i64 o.r.x.v, .int .i64 o.r.x.m, .int .u8 o.r.x.b0, .int .u8 o.r.x.b1, .int .u8 o.r.x.b2, .int .u8 o.r.x.i0, .int .u8 o.r.x.i1, .int .u8 o.r.x.i2, .slice A n c, .int .i64 o.f, .int .i64 o.p, .int .i64 o.t, .int .i64 o.q, .int .i64 o.z]) 24 rfl rfl hS0 ?_ ?_
 ·rintro w' hq
  exact exec_load_vb (vs := ocl o (.slice A n c)) (.tmp 5) rfl rfl (hq.1) rfl agg_order
 try simp only [Act.put, zA, zB, zC]
 refine tD 6 (.agg #[.int .i64 o.k, .int .i64 o.n, .int .i64 o.m, .int .i64 o.r.k, .int .i64 o.r.pr, .int .i64 o.r.to, .int .i64 o.r.po, .int .i64 o.r.x.v, .int .i64 o.r.x.m, .int .u8 o.r.x.b0, .int .u8 o.r.x.b1, .int .u8 o.r.x.b2, .int .u8 o.r.x.i0, .int .u8 o.r.x.i1, .int .u8 o.r.x.i2, .slice A n c, .int .i64 o.f, .int .i64 o.p, .int .i64 o.t, .int .i64 o.q, .int .i64 o.z]) 25 rfl rfl hS0 ?_ ?_
 ·rintro w' hq
  go_simp
 try simp only [Act.put, zA, zB, zC]
 obtain ⟨y2, hrun, hmY, hcY⟩ := Mo.run_updM Tryz.underlying193 Tryz.underlying187 HM4.out k (.agg #[.int .i64 o.k, .int .i64 o.n, .int .i64 o.m, .int .i64 o.r.k, .int .i64 o.r.pr, .int .i64 o.r.to, .int .i64 o.r.po, .int .i64 o.r.x.v, .int .i64 o.r.x.m, .int .u8 o.r.x.b0, .int .u8 o.r.x.b1, .int .u8 o.r.x.b2, .int .u8 o.r.x.i0, .int .u8 o.r.x.i1, .int .u8 o.r.x.i2, .slice A n c, .int .i64 o.f, .int .i64 o.p, .int .i64 o.t, .int .i64 o.q, .int .i64 o.z]) hf
 have hne : g ≠ b := fun e => HM4.out.nocell _ _ _ (e ▸ hS0.1)
 have hnx : x ≠ b := fun e => HM4.out.nocell _ _ _ (e ▸ HX4.out)
 refine rD 7 rfl fun K hK => ?_
 try rw [if_pos (by rfl)]
 refine inbOp_upd (.tmp 22) (.tmp 23) (.tmp 25) rfl rfl rfl rfl hrun (hK.out _ _ ⟨(hcY.block g hS0.1.lt hne).trans hS0.1, Vb.cell ((hcY.block x HX4.out.lt hnx).trans HX4.out) 1 rfl⟩ (fun _ => ?_))
 clear hK K hrun
 try simp only [Act.put, zA, zB, zC]
 refine wpAnyH_done (by kernel_rfl) ?_ _
 clear hS0
 have HMY := Kp.mk hmY
 have HCY := Kp.mk (HC4.out.trans hcY (fun _ _ e => e))
 clear hmY hcY HC4 HM4 HX4
 go_wp2_with fail
 go_end0
 exact ⟨rfl, HMY.out, HCY.out⟩
theorem okeep_no {f : Int → OV} {m : Nat} (hx : Vb 195 w x [.int .u16 nx, .map (some b)]) (h : Mo.Mf w b f m) (k : Int) (o : OrdV) (A : Option Addr) (n c : Nat) {u : Ov} (hf : f k = some u.v) : Calls Tryz.prog 212 #[.pointer (some ⟨x, 0, none⟩), .int .u16 k, (.agg #[.int .i64 o.k, .int .i64 o.n, .int .i64 o.m, .int .i64 o.r.k, .int .i64 o.r.pr, .int .i64 o.r.to, .int .i64 o.r.po, .int .i64 o.r.x.v, .int .i64 o.r.x.m, .int .u8 o.r.x.b0, .int .u8 o.r.x.b1, .int .u8 o.r.x.b2, .int .u8 o.r.x.i0, .int .u8 o.r.x.i1, .int .u8 o.r.x.i2, .slice A n c, .int .i64 o.f, .int .i64 o.p, .int .i64 o.t, .int .i64 o.q, .int .i64 o.z])] w fun e w' => e = .returned (.tuple #[]) ∧ Below w.heap.size w w' := by
 obtain ⟨o2, A2, n2, c2⟩ := u
 have hb1 := below_alloc w (.cells #[.int .i64 o.k, .int .i64 o.n, .int .i64 o.m, .int .i64 o.r.k, .int .i64 o.r.pr, .int .i64 o.r.to, .int .i64 o.r.po, .int .i64 o.r.x.v, .int .i64 o.r.x.m, .int .u8 o.r.x.b0, .int .u8 o.r.x.b1, .int .u8 o.r.x.b2, .int .u8 o.r.x.i0, .int .u8 o.r.x.i1, .int .u8 o.r.x.i2, .slice A n c, .int .i64 o.f, .int .i64 o.p, .int .i64 o.t, .int .i64 o.q, .int .i64 o.z] 51)
 have hv1 := Vb.new 51 w (ocl o (.slice A n c))
 change Vb 51 (w.alloc (.cells #[.int .i64 o.k, .int .i64 o.n, .int .i64 o.m, .int .i64 o.r.k, .int .i64 o.r.pr, .int .i64 o.r.to, .int .i64 o.r.po, .int .i64 o.r.x.v, .int .i64 o.r.x.m, .int .u8 o.r.x.b0, .int .u8 o.r.x.b1, .int .u8 o.r.x.b2, .int .u8 o.r.x.i0, .int .u8 o.r.x.i1, .int .u8 o.r.x.i2, .slice A n c, .int .i64 o.f, .int .i64 o.p, .int .i64 o.t, .int .i64 o.q, .int .i64 o.z] 51)) _ _ at hv1
 have hx1 := hx.below hb1 hx.lt
 have hm1 := h.below hb1
 have hl := Mo.run_lookM Tryz.underlying193 Tryz.underlying187 zero_oV hm1 k
 rw [hf] at hl
 simp only [Mo.lkR, Mo.oneV, Option.getD_some, Option.isSome_some, odv, Ov.v] at hl
 clear hx h
 go_enter Tryz.func212, Tryz.ntmps212
 go_upto_region 1 with fail
 obtain ⟨g, hg⟩ : ∃ g, g = w.heap.size := ⟨_, rfl⟩
 rw [← hg] at hv1 ⊢
 have HG := Kp.mk hg
 clear hg
 generalize w.alloc (.cells #[.int .i64 o.k, .int .i64 o.n, .int .i64 o.m, .int .i64 o.r.k, .int .i64 o.r.pr, .int .i64 o.r.to, .int .i64 o.r.po, .int .i64 o.r.x.v, .int .i64 o.r.x.m, .int .u8 o.r.x.b0, .int .u8 o.r.x.b1, .int .u8 o.r.x.b2, .int .u8 o.r.x.i0, .int .u8 o.r.x.i1, .int .u8 o.r.x.i2, .slice A n c, .int .i64 o.f, .int .i64 o.p, .int .i64 o.t, .int .i64 o.q, .int .i64 o.z] 51) = w1 at *
 have c0 := hx1.cell 1 rfl
 have HV1 := Kp.mk hv1
 have HX1 := Kp.mk hx1
 have HM1 := Kp.mk hm1
 have HB1 := Kp.mk hb1
 clear hv1 hx1 hm1 hb1
 go_upto_region 2 with (refine wpList_store_new (vs := ocl o2 (.slice A2 n2 c2)) rfl (.tmp 6) (.tmp 15) rfl rfl rfl rfl rfl rfl agg_oE rfl ?_; intro w2 hv2 hb2 hz2)
 have HB2 := Kp.mk hb2
 clear hl c0 hz2 hv2 hb2
 go_wp2_with fail
 go_end0
 exact ⟨rfl, HB1.out.trans (HB2.out.mono HB1.out.size)⟩
theorem otell (h : Io w x b nx p1 p2 p3) (o : OrdV) (A : Option Addr) (n c : Nat) : Calls Tryz.prog 213 #[.pointer (some ⟨x, 0, none⟩), (.agg #[.int .i64 o.k, .int .i64 o.n, .int .i64 o.m, .int .i64 o.r.k, .int .i64 o.r.pr, .int .i64 o.r.to, .int .i64 o.r.po, .int .i64 o.r.x.v, .int .i64 o.r.x.m, .int .u8 o.r.x.b0, .int .u8 o.r.x.b1, .int .u8 o.r.x.b2, .int .u8 o.r.x.i0, .int .u8 o.r.x.i1, .int .u8 o.r.x.i2, .slice A n c, .int .i64 o.f, .int .i64 o.p, .int .i64 o.t, .int .i64 o.q, .int .i64 o.z])] w fun e w' => ∃ A' m c', e = .returned (.slice A' m c') ∧ m = 1 + (folG p1 p2 p3).length ∧ Vo w' w.heap.size (.slice A' m c') m (⟨o, A, n, c⟩ :: folG p1 p2 p3) ∧ Io w' x b (Ser.plusP nx m) (rstG p1 p2 p3).1 (rstG p1 p2 p3).2.1 (rstG p1 p2 p3).2.2 ∧ Ch (fun k => k = x ∨ k = b) w w' := by
 have hb0 := below_alloc w (.cells #[.int .i64 o.k, .int .i64 o.n, .int .i64 o.m, .int .i64 o.r.k, .int .i64 o.r.pr, .int .i64 o.r.to, .int .i64 o.r.po, .int .i64 o.r.x.v, .int .i64 o.r.x.m, .int .u8 o.r.x.b0, .int .u8 o.r.x.b1, .int .u8 o.r.x.b2, .int .u8 o.r.x.i0, .int .u8 o.r.x.i1, .int .u8 o.r.x.i2, .slice A n c, .int .i64 o.f, .int .i64 o.p, .int .i64 o.t, .int .i64 o.q, .int .i64 o.z] 51)
 have hv0 : Vb 51 (w.alloc (.cells #[.int .i64 o.k, .int .i64 o.n, .int .i64 o.m, .int .i64 o.r.k, .int .i64 o.r.pr, .int .i64 o.r.to, .int .i64 o.r.po, .int .i64 o.r.x.v, .int .i64 o.r.x.m, .int .u8 o.r.x.b0, .int .u8 o.r.x.b1, .int .u8 o.r.x.b2, .int .u8 o.r.x.i0, .int .u8 o.r.x.i1, .int .u8 o.r.x.i2, .slice A n c, .int .i64 o.f, .int .i64 o.p, .int .i64 o.t, .int .i64 o.q, .int .i64 o.z] 51)) w.heap.size (ocl o (.slice A n c)) := Vb.new 51 w (ocl o (.slice A n c))
 have h1 := h.below hb0
 have HC1 := Kp.mk (Ch.of_below (S := fun k => k = x ∨ k = b) hb0)
 have HX := Kp.mk (show x < w.heap.size ∧ b < w.heap.size ∧ x ≠ b from ⟨h.own.lt, h.mp.lt, h.ne⟩)
 have HR := Kp.mk h.r0
 clear h
 go_enter Tryz.func213, Tryz.ntmps213
 go_upto_region 1 with fail
 obtain ⟨B, hB⟩ : ∃ B, B = w.heap.size := ⟨_, rfl⟩
 rw [← hB] at hv0 HX ⊢
 have HBW := Kp.mk hB
 have hz0 : B < (w.alloc (.cells #[.int .i64 o.k, .int .i64 o.n, .int .i64 o.m, .int .i64 o.r.k, .int .i64 o.r.pr, .int .i64 o.r.to, .int .i64 o.r.po, .int .i64 o.r.x.v, .int .i64 o.r.x.m, .int .u8 o.r.x.b0, .int .u8 o.r.x.b1, .int .u8 o.r.x.b2, .int .u8 o.r.x.i0, .int .u8 o.r.x.i1, .int .u8 o.r.x.i2, .slice A n c, .int .i64 o.f, .int .i64 o.p, .int .i64 o.t, .int .i64 o.q, .int .i64 o.z] 51)).heap.size := by rw [hB]; simp
 have HB0 := Kp.mk hb0
 clear hB hb0
 generalize w.alloc (.cells #[.int .i64 o.k, .int .i64 o.n, .int .i64 o.m, .int .i64 o.r.k, .int .i64 o.r.pr, .int .i64 o.r.to, .int .i64 o.r.po, .int .i64 o.r.x.v, .int .i64 o.r.x.m, .int .u8 o.r.x.b0, .int .u8 o.r.x.b1, .int .u8 o.r.x.b2, .int .u8 o.r.x.i0, .int .u8 o.r.x.i1, .int .u8 o.r.x.i2, .slice A n c, .int .i64 o.f, .int .i64 o.p, .int .i64 o.t, .int .i64 o.q, .int .i64 o.z] 51) = w0 at *
 have hb1 := below_alloc w0 (.cells #[.int .i64 o.k, .int .i64 o.n, .int .i64 o.m, .int .i64 o.r.k, .int .i64 o.r.pr, .int .i64 o.r.to, .int .i64 o.r.po, .int .i64 o.r.x.v, .int .i64 o.r.x.m, .int .u8 o.r.x.b0, .int .u8 o.r.x.b1, .int .u8 o.r.x.b2, .int .u8 o.r.x.i0, .int .u8 o.r.x.i1, .int .u8 o.r.x.i2, .slice A n c, .int .i64 o.f, .int .i64 o.p, .int .i64 o.t, .int .i64 o.q, .int .i64 o.z] 51)
 have hV1 : Vo (w0.alloc (.cells #[.int .i64 o.k, .int .i64 o.n, .int .i64 o.m, .int .i64 o.r.k, .int .i64 o.r.pr, .int .i64 o.r.to, .int .i64 o.r.po, .int .i64 o.r.x.v, .int .i64 o.r.x.m, .int .u8 o.r.x.b0, .int .u8 o.r.x.b1, .int .u8 o.r.x.b2, .int .u8 o.r.x.i0, .int .u8 o.r.x.i1, .int .u8 o.r.x.i2, .slice A n c, .int .i64 o.f, .int .i64 o.p, .int .i64 o.t, .int .i64 o.q, .int .i64 o.z] 51)) B (.slice (some ⟨w0.heap.size, 0, none⟩) 1 1) 1 [⟨o, A, n, c⟩] := vo_lit w0 ⟨o, A, n, c⟩ (by omega)
 have h2 : Io (w0.alloc (.cells #[.int .i64 o.k, .int .i64 o.n, .int .i64 o.m, .int .i64 o.r.k, .int .i64 o.r.pr, .int .i64 o.r.to, .int .i64 o.r.po, .int .i64 o.r.x.v, .int .i64 o.r.x.m, .int .u8 o.r.x.b0, .int .u8 o.r.x.b1, .int .u8 o.r.x.b2, .int .u8 o.r.x.i0, .int .u8 o.r.x.i1, .int .u8 o.r.x.i2, .slice A n c, .int .i64 o.f, .int .i64 o.p, .int .i64 o.t, .int .i64 o.q, .int .i64 o.z] 51)) x b nx p1 p2 p3 := Mo.Ib.below h1 hb1
 have HC2 := Kp.mk (HC1.out.trans (Ch.of_below (S := fun k => k = x ∨ k = b) hb1) (fun _ _ e => e))
 have HG0 := Kp.mk hz0
 clear h1 HC1 hb1 hz0
 go_wp2_with (refine wpList_load_vb (vs := ([.int .i64 o.k, .int .i64 o.n, .int .i64 o.m, .int .i64 o.r.k, .int .i64 o.r.pr, .int .i64 o.r.to, .int .i64 o.r.po, .int .i64 o.r.x.v, .int .i64 o.r.x.m, .int .u8 o.r.x.b0, .int .u8 o.r.x.b1, .int .u8 o.r.x.b2, .int .u8 o.r.x.i0, .int .u8 o.r.x.i1, .int .u8 o.r.x.i2, .slice A n c, .int .i64 o.f, .int .i64 o.p, .int .i64 o.t, .int .i64 o.q, .int .i64 o.z] : List Value)) rfl (.tmp 3) rfl rfl hv0 rfl agg_order ?_)
 generalize hw0 : w0.alloc (.cells #[.int .i64 o.k, .int .i64 o.n, .int .i64 o.m, .int .i64 o.r.k, .int .i64 o.r.pr, .int .i64 o.r.to, .int .i64 o.r.po, .int .i64 o.r.x.v, .int .i64 o.r.x.m, .int .u8 o.r.x.b0, .int .u8 o.r.x.b1, .int .u8 o.r.x.b2, .int .u8 o.r.x.i0, .int .u8 o.r.x.i1, .int .u8 o.r.x.i2, .slice A n c, .int .i64 o.f, .int .i64 o.p, .int .i64 o.t, .int .i64 o.q, .int .i64 o.z] 51) = w1 at *
 clear hw0 hv0
 generalize w0.heap.size = g0 at *
 go_loopw [5] (fun s5 wr => ∃ (A' : Option Addr) (m c' : Nat) (xs : List Ov) (ny : Int) (q1 q2 q3 : Option Ov), s5 = .slice A' m c' ∧ Kp (1 ≤ m ∧ m + (folG q1 q2 q3).length ≤ 4) ∧ Io wr x b ny q1 q2 q3 ∧ Vo wr B (.slice A' m c') m xs ∧ xs ++ folG q1 q2 q3 = ⟨o, A, n, c⟩ :: folG p1 p2 p3 ∧ m + (folG q1 q2 q3).length = 1 + (folG p1 p2 p3).length ∧ Ser.plusP ny 1 = Ser.plusP nx m ∧ rstG q1 q2 q3 = rstG p1 p2 p3 ∧ Ch (fun k => k = x ∨ k = b) w wr) (fun s5 _ => 5 - slN s5)
 case atStart => exact ⟨some ⟨g0, 0, none⟩, 1, 1, [⟨o, A, n, c⟩], nx, p1, p2, p3, rfl, Kp.mk ⟨Nat.le_refl _, by have := folG_le p1 p2 p3; omega⟩, h2, hV1, rfl, rfl, rfl, rfl, HC2.out⟩
 case round =>
  clear h2 hV1 HC2
  obtain ⟨A', m, c', xs, ny, q1, q2, q3, rfl, HN, hI, hO, hxs, hnl, hny, hrs, hC⟩ := hrel
  have hi1 := hI.own
  have c0 := hi1.cell 0 rfl
  have f0 := hi1.free 0
  have hP := Ser.plus_any ny 1 wr hI.r0 hI.r1
  have hbd := plusP_bd ny 1
  have hcS : Ch (fun k => k = x) wr (wr.setCell ⟨x, 0, none⟩ (.int .u16 (Ser.plusP ny 1))) := .of_grown (grownBy_set wr x 0 _)
  have hi2 : Vb 195 (wr.setCell ⟨x, 0, none⟩ (.int .u16 (Ser.plusP ny 1))) x [.int .u16 (Ser.plusP ny 1), .map (some b)] := hi1.set 0 _
  have hm2 : Mo.Mf (wr.setCell ⟨x, 0, none⟩ (.int .u16 (Ser.plusP ny 1))) b (kpt ny none (q1.map Ov.v) (q2.map Ov.v) (q3.map Ov.v)) (cntO q1 q2 q3) := hI.mp.stay hcS (fun e => hI.ne e.symm)
  have hO2 := hO.stay hcS (fun k hk e => by have := (hO.lt k hk).1; have := HX.out; omega)
  have hC2 := hC.trans hcS (fun k _ e => Or.inl e)
  have hk1 : kpt ny none (q1.map Ov.v) (q2.map Ov.v) (q3.map Ov.v) (Ser.plusP ny 1) = q1.map Ov.v := kpt_1 hI.r0 hI.r1
  have hk2 : setF (kpt ny none (q1.map Ov.v) (q2.map Ov.v) (q3.map Ov.v)) (Ser.plusP ny 1) none = kpt (Ser.plusP ny 1) none (q2.map Ov.v) (q3.map Ov.v) none := by rw [setF_1 hI.r0 hI.r1, kpt_shift hI.r0 hI.r1]
  have hk3 : q1 = none → kpt ny none (q1.map Ov.v) (q2.map Ov.v) (q3.map Ov.v) = kpt (Ser.plusP ny 1) none (q2.map Ov.v) (q3.map Ov.v) none := fun e => by rw [kpt_shift hI.r0 hI.r1, e]; rfl
  have HNY := Kp.mk hny
  have HK1 := Kp.mk hk1
  have HK2 := Kp.mk hk2
  have HK3 := Kp.mk hk3
  have HBD := Kp.mk hbd
  have HXS := Kp.mk (And.intro hxs (And.intro hnl hrs))
  have HO := Kp.mk hO2
  have HC := Kp.mk hC2
  have HI := Kp.mk hi2
  have HM := Kp.mk hm2
  clear hI hi1 hbd hcS hi2 hm2 hO hO2 hC hC2 hk1 hk2 hk3 hny hxs hnl hrs
  generalize hk : Ser.plusP ny 1 = k1 at *
  clear hk
  cases q1 with
  | none =>
   have HLK := Kp.mk (show ∀ w', Below (wr.setCell ⟨x, 0, none⟩ (.int .u16 k1)).heap.size (wr.setCell ⟨x, 0, none⟩ (.int .u16 k1)) w' → (Instr.lookup 193 (.map (some b)) (u16V k1) true).run Tryz.prog w' = .ok (.tuple #[.agg (ocl noOrd (.slice none 0 0) : List Value).toArray, .bool false]) w' from fun w' hb => by
    have := Mo.run_lookM Tryz.underlying193 Tryz.underlying187 zero_oV (HM.out.below hb) k1
    rw [HK1.out] at this
    exact this)
   simp only [ocl, noOrd, noRule, noMask] at HLK
   go_wp2_with (go_at_call 184; refine hP.mono ?_; rintro e w9 ⟨rfl, hw9⟩; subst hw9)
   clear c0 f0 hP
   generalize wr.setCell _ _ = w2 at *
   have d0 := HI.out.cell 0 rfl
   have d1 := HI.out.cell 1 rfl
   have HLT := Kp.mk HI.out.lt
   go_upto_region 3 with fail
   refine wp_region_held_drew (S := fun X => Below w2.heap.size w2 X) (by kernel_rfl) ((Below.refl _ _).drew) (fun hS0 => ?_)
   change Below _ w2 w2.drew at hS0
   generalize w2.drew = u at *
   refine tD 0 (.pointer (some ⟨x, 0, none⟩)) 19 rfl rfl hS0 ?_ ?_
   ·rintro w' hq
    go_simp
   try simp only [Act.put, zA, zB, zC]
   refine tD 1 (.pointer (some ⟨x, 0, none⟩)) 20 rfl rfl hS0 ?_ ?_
   ·rintro w' hq
    go_simp
   try simp only [Act.put, zA, zB, zC]
   refine tD 2 (.pointer (some ⟨x, 1, none⟩)) 21 rfl rfl hS0 ?_ ?_
   ·rintro w' hq
    go_simp
   try simp only [Act.put, zA, zB, zC]
   refine tD 3 (.map (some b)) 22 rfl rfl hS0 ?_ ?_
   ·rintro w' hq
    have c1 := (hq.cell (p := ⟨x, 1, none⟩) HLT.out).trans d1
    go_simp
   try simp only [Act.put, zA, zB, zC]
   refine tD 4 (.pointer (some ⟨x, 0, none⟩)) 23 rfl rfl hS0 ?_ ?_
   ·rintro w' hq
    go_simp
   try simp only [Act.put, zA, zB, zC]
   refine tD 5 (.pointer (some ⟨x, 0, none⟩)) 24 rfl rfl hS0 ?_ ?_
   ·rintro w' hq
    go_simp
   try simp only [Act.put, zA, zB, zC]
   refine tD 6 (.pointer (some ⟨x, 0, none⟩)) 25 rfl rfl hS0 ?_ ?_
   ·rintro w' hq
    go_simp
   try simp only [Act.put, zA, zB, zC]
   refine tD 7 (.int .u16 k1) 26 rfl rfl hS0 ?_ ?_
   ·rintro w' hq
    have c0 := (hq.cell (p := ⟨x, 0, none⟩) HLT.out).trans d0
    go_simp
   try simp only [Act.put, zA, zB, zC]
   refine tD 8 (.tuple #[(.agg #[.int .i64 0, .int .i64 0, .int .i64 0, .int .i64 0, .int .i64 0, .int .i64 0, .int .i64 0, .int .i64 0, .int .i64 0, .int .u8 0, .int .u8 0, .int .u8 0, .int .u8 0, .int .u8 0, .int .u8 0, .slice none 0 0, .int .i64 0, .int .i64 0, .int .i64 0, .int .i64 0, .int .i64 0]), .bool false]) 27 rfl rfl hS0 ?_ ?_
   ·rintro w' hq
    have hl := HLK.out w' hq
    go_simp
   try simp only [Act.put, zA, zB, zC]
   refine tD 9 (.tuple #[(.agg #[.int .i64 0, .int .i64 0, .int .i64 0, .int .i64 0, .int .i64 0, .int .i64 0, .int .i64 0, .int .i64 0, .int .i64 0, .int .u8 0, .int .u8 0, .int .u8 0, .int .u8 0, .int .u8 0, .int .u8 0, .slice none 0 0, .int .i64 0, .int .i64 0, .int .i64 0, .int .i64 0, .int .i64 0]), .bool false]) 18 rfl rfl hS0 ?_ ?_
   ·rintro w' hq
    go_simp
   try simp only [Act.put, zA, zB, zC]
   refine tD 10 (.agg #[.int .i64 0, .int .i64 0, .int .i64 0, .int .i64 0, .int .i64 0, .int .i64 0, .int .i64 0, .int .i64 0, .int .i64 0, .int .u8 0, .int .u8 0, .int .u8 0, .int .u8 0, .int .u8 0, .int .u8 0, .slice none 0 0, .int .i64 0, .int .i64 0, .int .i64 0, .int .i64 0, .int .i64 0]) 28 rfl rfl hS0 ?_ ?_
   ·rintro w' hq
    go_simp
   try simp only [Act.put, zA, zB, zC]
   refine tD 11 (.bool false) 29 rfl rfl hS0 ?_ ?_
   ·rintro w' hq
    go_simp
   try simp only [Act.put, zA, zB, zC]
   refine rD 12 rfl fun K hK => ?_
   try rw [if_pos (by rfl)]
   have hS1 : Below w2.heap.size w2 (u.alloc (.cells #[.int .i64 0, .int .i64 0, .int .i64 0, .int .i64 0, .int .i64 0, .int .i64 0, .int .i64 0, .int .i64 0, .int .i64 0, .int .u8 0, .int .u8 0, .int .u8 0, .int .u8 0, .int .u8 0, .int .u8 0, .slice none 0 0, .int .i64 0, .int .i64 0, .int .i64 0, .int .i64 0, .int .i64 0] 283)) := hS0.trans ((below_alloc u _).mono hS0.size)
   have hV : Vb 283 (u.alloc (.cells #[.int .i64 0, .int .i64 0, .int .i64 0, .int .i64 0, .int .i64 0, .int .i64 0, .int .i64 0, .int .i64 0, .int .i64 0, .int .u8 0, .int .u8 0, .int .u8 0, .int .u8 0, .int .u8 0, .int .u8 0, .slice none 0 0, .int .i64 0, .int .i64 0, .int .i64 0, .int .i64 0, .int .i64 0] 283)) u.heap.size (ocl noOrd (.slice none 0 0)) := Vb.new 283 u (ocl noOrd (.slice none 0 0))
   have hg := Kp.mk (show w2.heap.size ≤ u.heap.size from hS0.size)
   go_simp
   refine hK.out _ _ hS1 (fun _ => ?_)
   clear hK K
   try simp only [Act.put, zA, zB, zC]
   generalize u.alloc (.cells #[.int .i64 0, .int .i64 0, .int .i64 0, .int .i64 0, .int .i64 0, .int .i64 0, .int .i64 0, .int .i64 0, .int .i64 0, .int .u8 0, .int .u8 0, .int .u8 0, .int .u8 0, .int .u8 0, .int .u8 0, .slice none 0 0, .int .i64 0, .int .i64 0, .int .i64 0, .int .i64 0, .int .i64 0] 283) = u8 at *
   change Vb _ u8 _ _ at hV
   generalize u.heap.size = g at *
   refine rD 13 rfl fun K hK => ?_
   try rw [if_pos (by rfl)]
   refine wp_store_vbH (vs := ocl noOrd (.slice none 0 0)) none rfl (.tmp 6) (.tmp 28) rfl rfl rfl hV rfl agg_oE rfl ?_
   intro u9 hV3 hg9 hz9
   have hB2 := Kp.mk (below_grown hS1 hg9 hS1.size hg.out)
   clear hV hS1 hg9 hz9
   refine hK.out _ _ hB2.out (fun _ => ?_)
   clear hK K
   try simp only [Act.put, zA, zB, zC]
   refine tD 14 (.bool false) 7 rfl rfl hB2.out ?_ ?_
   ·rintro w' hq
    go_simp
   try simp only [Act.put, zA, zB, zC]
   refine wpAnyH_done (by kernel_rfl) ?_ _
   have hb3 := Kp.mk hB2.out
   clear hB2 hS0
   clear d0 d1
   go_wp2_with fail
   go_ret
   have hc9 : Ch (fun k => k = x ∨ k = b) w2 u9 := .of_below hb3.out
   obtain ⟨a1, a2, a3⟩ := HXS.out
   rw [folG_none, List.append_nil] at a1
   rw [folG_none] at a2
   have a4 : m = 1 + (folG p1 p2 p3).length := a2
   rw [← a3, ← a1]
   refine ⟨A', m, c', rfl, a4, by rw [← HBW.out]; exact HO.out.below hb3.out, ?_, HC.out.trans hc9 (fun _ _ e => e)⟩
   rw [← HNY.out, rstG_none]
   exact ⟨HI.out.below hb3.out HI.out.lt, (HM.out.below hb3.out).cong (HK3.out trivial) (by simp [cntO, cnt, one1]), HBD.out.1, HBD.out.2⟩
  | some a =>
   obtain ⟨o2, A2, n2, c2⟩ := a
   have HLK := Kp.mk (show ∀ w', Below (wr.setCell ⟨x, 0, none⟩ (.int .u16 k1)).heap.size (wr.setCell ⟨x, 0, none⟩ (.int .u16 k1)) w' → (Instr.lookup 193 (.map (some b)) (u16V k1) true).run Tryz.prog w' = .ok (.tuple #[(.agg #[.int .i64 o2.k, .int .i64 o2.n, .int .i64 o2.m, .int .i64 o2.r.k, .int .i64 o2.r.pr, .int .i64 o2.r.to, .int .i64 o2.r.po, .int .i64 o2.r.x.v, .int .i64 o2.r.x.m, .int .u8 o2.r.x.b0, .int .u8 o2.r.x.b1, .int .u8 o2.r.x.b2, .int .u8 o2.r.x.i0, .int .u8 o2.r.x.i1, .int .u8 o2.r.x.i2, .slice A2 n2 c2, .int .i64 o2.f, .int .i64 o2.p, .int .i64 o2.t, .int .i64 o2.q, .int .i64 o2.z]), .bool true]) w' from fun w' hb => by
    have := Mo.run_lookM Tryz.underlying193 Tryz.underlying187 zero_oV (HM.out.below hb) k1
    rw [HK1.out] at this
    exact this)
   go_wp2_with (go_at_call 184; refine hP.mono ?_; rintro e w9 ⟨rfl, hw9⟩; subst hw9)
   clear c0 f0 hP
   generalize wr.setCell _ _ = w2 at *
   have d0 := HI.out.cell 0 rfl
   have d1 := HI.out.cell 1 rfl
   have HLT := Kp.mk HI.out.lt
   go_upto_region 3 with fail
   refine wp_region_held_drew (S := fun X => Below w2.heap.size w2 X) (by kernel_rfl) ((Below.refl _ _).drew) (fun hS0 => ?_)
   change Below _ w2 w2.drew at hS0
   generalize w2.drew = u at *
   refine tD 0 (.pointer (some ⟨x, 0, none⟩)) 19 rfl rfl hS0 ?_ ?_
   ·rintro w' hq
    go_simp
   try simp only [Act.put, zA, zB, zC]
   refine tD 1 (.pointer (some ⟨x, 0, none⟩)) 20 rfl rfl hS0 ?_ ?_
   ·rintro w' hq
    go_simp
   try simp only [Act.put, zA, zB, zC]
   refine tD 2 (.pointer (some ⟨x, 1, none⟩)) 21 rfl rfl hS0 ?_ ?_
   ·rintro w' hq
    go_simp
   try simp only [Act.put, zA, zB, zC]
   refine tD 3 (.map (some b)) 22 rfl rfl hS0 ?_ ?_
   ·rintro w' hq
    have c1 := (hq.cell (p := ⟨x, 1, none⟩) HLT.out).trans d1
    go_simp
   try simp only [Act.put, zA, zB, zC]
   refine tD 4 (.pointer (some ⟨x, 0, none⟩)) 23 rfl rfl hS0 ?_ ?_
   ·rintro w' hq
    go_simp
   try simp only [Act.put, zA, zB, zC]
   refine tD 5 (.pointer (some ⟨x, 0, none⟩)) 24 rfl rfl hS0 ?_ ?_
   ·rintro w' hq
    go_simp
   try simp only [Act.put, zA, zB, zC]
   refine tD 6 (.pointer (some ⟨x, 0, none⟩)) 25 rfl rfl hS0 ?_ ?_
   ·rintro w' hq
    go_simp
   try simp only [Act.put, zA, zB, zC]
   refine tD 7 (.int .u16 k1) 26 rfl rfl hS0 ?_ ?_
   ·rintro w' hq
    have c0 := (hq.cell (p := ⟨x, 0, none⟩) HLT.out).trans d0
    go_simp
   try simp only [Act.put, zA, zB, zC]
   refine tD 8 (.tuple #[(.agg #[.int .i64 o2.k, .int .i64 o2.n, .int .i64 o2.m, .int .i64 o2.r.k, .int .i64 o2.r.pr, .int .i64 o2.r.to, .int .i64 o2.r.po, .int .i64 o2.r.x.v, .int .i64 o2.r.x.m, .int .u8 o2.r.x.b0, .int .u8 o2.r.x.b1, .int .u8 o2.r.x.b2, .int .u8 o2.r.x.i0, .int .u8 o2.r.x.i1, .int .u8 o2.r.x.i2, .slice A2 n2 c2, .int .i64 o2.f, .int .i64 o2.p, .int .i64 o2.t, .int .i64 o2.q, .int .i64 o2.z]), .bool true]) 27 rfl rfl hS0 ?_ ?_
   ·rintro w' hq
    have hl := HLK.out w' hq
    go_simp
   try simp only [Act.put, zA, zB, zC]
   refine tD 9 (.tuple #[(.agg #[.int .i64 o2.k, .int .i64 o2.n, .int .i64 o2.m, .int .i64 o2.r.k, .int .i64 o2.r.pr, .int .i64 o2.r.to, .int .i64 o2.r.po, .int .i64 o2.r.x.v, .int .i64 o2.r.x.m, .int .u8 o2.r.x.b0, .int .u8 o2.r.x.b1, .int .u8 o2.r.x.b2, .int .u8 o2.r.x.i0, .int .u8 o2.r.x.i1, .int .u8 o2.r.x.i2, .slice A2 n2 c2, .int .i64 o2.f, .int .i64 o2.p, .int .i64 o2.t, .int .i64 o2.q, .int .i64 o2.z]), .bool true]) 18 rfl rfl hS0 ?_ ?_
   ·rintro w' hq
    go_simp
   try simp only [Act.put, zA, zB, zC]
   refine tD 10 (.agg #[.int .i64 o2.k, .int .i64 o2.n, .int .i64 o2.m, .int .i64 o2.r.k, .int .i64 o2.r.pr, .int .i64 o2.r.to, .int .i64 o2.r.po, .int .i64 o2.r.x.v, .int .i64 o2.r.x.m, .int .u8 o2.r.x.b0, .int .u8 o2.r.x.b1, .int .u8 o2.r.x.b2, .int .u8 o2.r.x.i0, .int .u8 o2.r.x.i1, .int .u8 o2.r.x.i2, .slice A2 n2 c2, .int .i64 o2.f, .int .i64 o2.p, .int .i64 o2.t, .int .i64 o2.q, .int .i64 o2.z]) 28 rfl rfl hS0 ?_ ?_
   ·rintro w' hq
    go_simp
   try simp only [Act.put, zA, zB, zC]
   refine tD 11 (.bool true) 29 rfl rfl hS0 ?_ ?_
   ·rintro w' hq
    go_simp
   try simp only [Act.put, zA, zB, zC]
   refine rD 12 rfl fun K hK => ?_
   try rw [if_pos (by rfl)]
   have hS1 : Below w2.heap.size w2 (u.alloc (.cells #[.int .i64 0, .int .i64 0, .int .i64 0, .int .i64 0, .int .i64 0, .int .i64 0, .int .i64 0, .int .i64 0, .int .i64 0, .int .u8 0, .int .u8 0, .int .u8 0, .int .u8 0, .int .u8 0, .int .u8 0, .slice none 0 0, .int .i64 0, .int .i64 0, .int .i64 0, .int .i64 0, .int .i64 0] 283)) := hS0.trans ((below_alloc u _).mono hS0.size)
   have hV : Vb 283 (u.alloc (.cells #[.int .i64 0, .int .i64 0, .int .i64 0, .int .i64 0, .int .i64 0, .int .i64 0, .int .i64 0, .int .i64 0, .int .i64 0, .int .u8 0, .int .u8 0, .int .u8 0, .int .u8 0, .int .u8 0, .int .u8 0, .slice none 0 0, .int .i64 0, .int .i64 0, .int .i64 0, .int .i64 0, .int .i64 0] 283)) u.heap.size (ocl noOrd (.slice none 0 0)) := Vb.new 283 u (ocl noOrd (.slice none 0 0))
   have hg := Kp.mk (show w2.heap.size ≤ u.heap.size from hS0.size)
   go_simp
   refine hK.out _ _ hS1 (fun _ => ?_)
   clear hK K
   try simp only [Act.put, zA, zB, zC]
   generalize u.alloc (.cells #[.int .i64 0, .int .i64 0, .int .i64 0, .int .i64 0, .int .i64 0, .int .i64 0, .int .i64 0, .int .i64 0, .int .i64 0, .int .u8 0, .int .u8 0, .int .u8 0, .int .u8 0, .int .u8 0, .int .u8 0, .slice none 0 0, .int .i64 0, .int .i64 0, .int .i64 0, .int .i64 0, .int .i64 0] 283) = u8 at *
   change Vb _ u8 _ _ at hV
   generalize u.heap.size = g at *
   refine rD 13 rfl fun K hK => ?_
   try rw [if_pos (by rfl)]
   refine wp_store_vbH (vs := ocl o2 (.slice A2 n2 c2)) none rfl (.tmp 6) (.tmp 28) rfl rfl rfl hV rfl agg_oE rfl ?_
   intro u9 hV3 hg9 hz9
   have hB2 := Kp.mk (below_grown hS1 hg9 hS1.size hg.out)
   clear hV hS1 hg9 hz9
   refine hK.out _ _ hB2.out (fun _ => ?_)
   clear hK K
   try simp only [Act.put, zA, zB, zC]
   refine tD 14 (.bool true) 7 rfl rfl hB2.out ?_ ?_
   ·rintro w' hq
    go_simp
   try simp only [Act.put, zA, zB, zC]
   refine wpAnyH_done (by kernel_rfl) ?_ _
   have hb3 := Kp.mk hB2.out
   clear hB2 hS0
   have hi9 := HI.out.below hb3.out HI.out.lt
   have hm9 := HM.out.below hb3.out
   have hO9 := HO.out.below hb3.out
   have hC9 := HC.out.trans (Ch.of_below (S := fun k => k = x ∨ k = b) hb3.out) (fun _ _ e => e)
   have HG := Kp.mk (show w2.heap.size ≤ g from hg.out)
   have HXW := Kp.mk (show x < w2.heap.size ∧ b < w2.heap.size ∧ B ≤ w2.heap.size from ⟨HI.out.lt, HM.out.lt, by rw [HBW.out]; exact HC.out.size⟩)
   clear d0 d1 hb3 HLK HI HM HO HC
   have d0 := hi9.cell 0 rfl
   have d1 := hi9.cell 1 rfl
   have HI9 := Kp.mk hi9
   have HM9 := Kp.mk hm9
   have HO9 := Kp.mk hO9
   have HC9 := Kp.mk hC9
   have HV3 := Kp.mk hV3
   clear hi9 hm9 hO9 hC9 hV3
   go_upto_region 6 with fail
   refine wp_region_held_drew (S := fun X => X.cell? ⟨x, 0, none⟩ = some (.int .u16 k1) ∧ X.cell? ⟨x, 1, none⟩ = some (.map (some b))) (by kernel_rfl) ⟨d0, d1⟩ (fun hS0 => ?_)
   have HI4 := Kp.mk (show Vb 195 u9.drew x [.int .u16 k1, .map (some b)] from HI9.out)
   have HM4 := Kp.mk (show Mo.Mf u9.drew b (kpt ny none (Option.map Ov.v (some ⟨o2, A2, n2, c2⟩)) (q2.map Ov.v) (q3.map Ov.v)) (cntO (some ⟨o2, A2, n2, c2⟩) q2 q3) from HM9.out)
   have HO4 := Kp.mk (show Vo u9.drew B (.slice A' m c') m xs from HO9.out)
   have HC4 := Kp.mk (show Ch (fun k => k = x ∨ k = b) w u9.drew from ⟨HC9.out.os, HC9.out.tape, HC9.out.output, HC9.out.size, HC9.out.block⟩)
   have HV4 := Kp.mk (show Vb 283 u9.drew g (ocl o2 (.slice A2 n2 c2)) from HV3.out)
   clear HI9 HM9 HO9 HC9 HV3 d0 d1
   generalize u9.drew = y at *
   refine tD 0 (.pointer (some ⟨x, 0, none⟩)) 33 rfl rfl hS0 ?_ ?_
   ·rintro w' hq
    go_simp
   try simp only [Act.put, zA, zB, zC]
   refine tD 1 (.pointer (some ⟨x, 0, none⟩)) 34 rfl rfl hS0 ?_ ?_
   ·rintro w' hq
    go_simp
   try simp only [Act.put, zA, zB, zC]
   refine tD 2 (.pointer (some ⟨x, 1, none⟩)) 35 rfl rfl hS0 ?_ ?_
   ·rintro w' hq
    go_simp
   try simp only [Act.put, zA, zB, zC]
   refine tD 3 (.map (some b)) 36 rfl rfl hS0 ?_ ?_
   ·rintro w' hq
    obtain ⟨c0, c1⟩ := hq
    go_simp
   try simp only [Act.put, zA, zB, zC]
   refine tD 4 (.pointer (some ⟨x, 0, none⟩)) 37 rfl rfl hS0 ?_ ?_
   ·rintro w' hq
    go_simp
   try simp only [Act.put, zA, zB, zC]
   refine tD 5 (.pointer (some ⟨x, 0, none⟩)) 38 rfl rfl hS0 ?_ ?_
   ·rintro w' hq
    go_simp
   try simp only [Act.put, zA, zB, zC]
   refine tD 6 (.pointer (some ⟨x, 0, none⟩)) 39 rfl rfl hS0 ?_ ?_
   ·rintro w' hq
    go_simp
   try simp only [Act.put, zA, zB, zC]
   refine tD 7 (.int .u16 k1) 40 rfl rfl hS0 ?_ ?_
   ·rintro w' hq
    obtain ⟨c0, c1⟩ := hq
    go_simp
   try simp only [Act.put, zA, zB, zC]
   obtain ⟨y2, hrun, hmY, hcY⟩ := Mo.run_delM Tryz.underlying193 Tryz.underlying187 HM4.out 0 k1 (.agg #[.int .i64 o2.k, .int .i64 o2.n, .int .i64 o2.m, .int .i64 o2.r.k, .int .i64 o2.r.pr, .int .i64 o2.r.to, .int .i64 o2.r.po, .int .i64 o2.r.x.v, .int .i64 o2.r.x.m, .int .u8 o2.r.x.b0, .int .u8 o2.r.x.b1, .int .u8 o2.r.x.b2, .int .u8 o2.r.x.i0, .int .u8 o2.r.x.i1, .int .u8 o2.r.x.i2, .slice A2 n2 c2, .int .i64 o2.f, .int .i64 o2.p, .int .i64 o2.t, .int .i64 o2.q, .int .i64 o2.z]) HK1.out
   have hiY : Vb 195 y2 x [.int .u16 k1, .map (some b)] := (hcY.block x HI4.out.lt (fun e => HX.out.2.2 e)).trans HI4.out
   have hVY : Vb 283 y2 g (ocl o2 (.slice A2 n2 c2)) := (hcY.block g HV4.out.lt (fun e => by have := HXW.out; have := HG.out; omega)).trans HV4.out
   have hOY := HO4.out.stay hcY (fun k hk e => by have := (HO4.out.lt k hk).1; have := HX.out; omega)
   have hCY := HC4.out.trans hcY (fun k _ e => Or.inr e)
   rw [HK2.out] at hmY
   have HMY := Kp.mk hmY
   have HIY := Kp.mk hiY
   have HOY := Kp.mk hOY
   have HCY := Kp.mk hCY
   clear hmY hcY hiY hOY hCY
   refine rD 8 rfl fun K hK => ?_
   try rw [if_pos (by rfl)]
   refine inbOp_delete (.tmp 36) (.tmp 40) rfl rfl rfl hrun (hK.out _ _ ⟨HIY.out.cell 0 rfl, HIY.out.cell 1 rfl⟩ (fun _ => ?_))
   clear hK K hrun
   try simp only [Act.put, zA, zB, zC]
   refine wpAnyH_done (by kernel_rfl) ?_ _
   clear hS0
   have hb5 := below_alloc y2 (.cells #[.int .i64 o2.k, .int .i64 o2.n, .int .i64 o2.m, .int .i64 o2.r.k, .int .i64 o2.r.pr, .int .i64 o2.r.to, .int .i64 o2.r.po, .int .i64 o2.r.x.v, .int .i64 o2.r.x.m, .int .u8 o2.r.x.b0, .int .u8 o2.r.x.b1, .int .u8 o2.r.x.b2, .int .u8 o2.r.x.i0, .int .u8 o2.r.x.i1, .int .u8 o2.r.x.i2, .slice A2 n2 c2, .int .i64 o2.f, .int .i64 o2.p, .int .i64 o2.t, .int .i64 o2.q, .int .i64 o2.z] 51)
   have hV5 : Vb 51 (y2.alloc (.cells #[.int .i64 o2.k, .int .i64 o2.n, .int .i64 o2.m, .int .i64 o2.r.k, .int .i64 o2.r.pr, .int .i64 o2.r.to, .int .i64 o2.r.po, .int .i64 o2.r.x.v, .int .i64 o2.r.x.m, .int .u8 o2.r.x.b0, .int .u8 o2.r.x.b1, .int .u8 o2.r.x.b2, .int .u8 o2.r.x.i0, .int .u8 o2.r.x.i1, .int .u8 o2.r.x.i2, .slice A2 n2 c2, .int .i64 o2.f, .int .i64 o2.p, .int .i64 o2.t, .int .i64 o2.q, .int .i64 o2.z] 51)) y2.heap.size (ocl o2 (.slice A2 n2 c2)) := Vb.new 51 y2 (ocl o2 (.slice A2 n2 c2))
   have hBY : B ≤ y2.heap.size := by rw [HBW.out]; exact HCY.out.size
   obtain ⟨A9, c9, w5, hrun, hO5, hC5, hat⟩ := Vo.push Tryz.underlying77 77 ⟨o2, A2, n2, c2⟩ (HOY.out.below hb5) (g2 := y2.heap.size) (fun j u hu => hV5.cell j hu) (by have := HN.out; omega) (Nat.le_trans hBY hb5.size)
   have HLO := Kp.mk (show ∀ k, (Value.slice A' m c').ownBlock = some k → B ≤ k ∧ k ≠ x ∧ k ≠ b from fun k hk => by have := (HOY.out.lt k hk).1; have := HX.out; omega)
   have HI5 := Kp.mk (show Vb 195 w5 x [.int .u16 k1, .map (some b)] from (hC5.block x (Nat.lt_of_lt_of_le HIY.out.lt hb5.size) (fun e => (HLO.out x e).2.1 rfl)).trans (HIY.out.below hb5 HIY.out.lt))
   have HM5 := Kp.mk ((HMY.out.below hb5).stay hC5 (fun e => (HLO.out b e).2.2 rfl))
   have HC5 := Kp.mk ((HCY.out.trans (Ch.of_below (S := fun k => k = x ∨ k = b) hb5) (fun _ _ e => e)).trans hC5 (fun k hk e => absurd (HLO.out k e).1 (by have := HBW.out; omega)))
   have HO5 := Kp.mk hO5
   clear hO5 hC5 hat hb5 HIY HMY HOY HCY hV5
   go_wp2_with (first | (refine wpList_load_vb (vs := ([.int .i64 o2.k, .int .i64 o2.n, .int .i64 o2.m, .int .i64 o2.r.k, .int .i64 o2.r.pr, .int .i64 o2.r.to, .int .i64 o2.r.po, .int .i64 o2.r.x.v, .int .i64 o2.r.x.m, .int .u8 o2.r.x.b0, .int .u8 o2.r.x.b1, .int .u8 o2.r.x.b2, .int .u8 o2.r.x.i0, .int .u8 o2.r.x.i1, .int .u8 o2.r.x.i2, .slice A2 n2 c2, .int .i64 o2.f, .int .i64 o2.p, .int .i64 o2.t, .int .i64 o2.q, .int .i64 o2.z] : List Value)) rfl (.tmp 42) rfl rfl hVY rfl agg_order ?_) | (at_builtin; refine Lib.wpList_append_run _ rfl _ _ _ _ rfl _ _ rfl rfl _ _ hrun ?_))
   go_roundw
   case rel =>
    obtain ⟨a1, a2, a3⟩ := HXS.out
    rw [folG_step] at a1 a2
    rw [rstG_step] at a3
    refine ⟨A9, m + 1, c9, xs ++ [⟨o2, A2, n2, c2⟩], k1, q2, q3, none, rfl, Kp.mk ?_, ⟨HI5.out, HM5.out.cong rfl ?_, HBD.out.1, HBD.out.2⟩, HO5.out, ?_, ?_, ?_, a3, HC5.out⟩
    ·have := HN.out; rw [folG_step] at this; simp at this ⊢; omega
    ·simp [cntO, cnt, one1]; try omega
    ·rw [List.append_assoc]; exact a1
    ·simp at a2; omega
    ·rw [HNY.out, plusP_plusP]; congr 1
   case measure => have := HN.out; show 5 - (m + 1) < 5 - m; omega
theorem ohas (w : World) (nx k : Int) (h0 : 0 ≤ nx) (h1 : nx < 65536) (k0 : 0 ≤ k) (k1 : k < 65536) : Calls Tryz.prog 211 #[.agg #[.int .u16 nx, .int .i64 4], .int .u16 k] w fun e w' => e = .returned (.bool (decide ((k - nx) % 65536 < 4))) ∧ Below w.heap.size w w' := by
 have e : decide (0 ≤ Ser.atP nx 4 k) = decide ((k - nx) % 65536 < 4) := by unfold Ser.atP; split <;> simp <;> omega
 rw [← e]
 exact Ser.has_any nx 4 k w h0 h1 k0 k1
theorem otake_range (h : Io w x b nx p1 p2 p3) (seq : Int) (h0 : 0 ≤ seq) (h1 : seq ≤ 65535) (hd : ¬ (seq - nx) % 65536 < 4) (o : OrdV) (A : Option Addr) (n c : Nat) : Calls Tryz.prog 165 #[.pointer (some ⟨x, 0, none⟩), .int .i64 seq, (.agg #[.int .i64 o.k, .int .i64 o.n, .int .i64 o.m, .int .i64 o.r.k, .int .i64 o.r.pr, .int .i64 o.r.to, .int .i64 o.r.po, .int .i64 o.r.x.v, .int .i64 o.r.x.m, .int .u8 o.r.x.b0, .int .u8 o.r.x.b1, .int .u8 o.r.x.b2, .int .u8 o.r.x.i0, .int .u8 o.r.x.i1, .int .u8 o.r.x.i2, .slice A n c, .int .i64 o.f, .int .i64 o.p, .int .i64 o.t, .int .i64 o.q, .int .i64 o.z])] w fun e w' => e = .returned (.tuple #[.slice none 0 0, .int .i64 9]) ∧ Below w.heap.size w w' := by
 have hb0 := below_alloc w (.cells #[.int .i64 o.k, .int .i64 o.n, .int .i64 o.m, .int .i64 o.r.k, .int .i64 o.r.pr, .int .i64 o.r.to, .int .i64 o.r.po, .int .i64 o.r.x.v, .int .i64 o.r.x.m, .int .u8 o.r.x.b0, .int .u8 o.r.x.b1, .int .u8 o.r.x.b2, .int .u8 o.r.x.i0, .int .u8 o.r.x.i1, .int .u8 o.r.x.i2, .slice A n c, .int .i64 o.f, .int .i64 o.p, .int .i64 o.t, .int .i64 o.q, .int .i64 o.z] 51)
 have hv0 : Vb 51 (w.alloc (.cells #[.int .i64 o.k, .int .i64 o.n, .int .i64 o.m, .int .i64 o.r.k, .int .i64 o.r.pr, .int .i64 o.r.to, .int .i64 o.r.po, .int .i64 o.r.x.v, .int .i64 o.r.x.m, .int .u8 o.r.x.b0, .int .u8 o.r.x.b1, .int .u8 o.r.x.b2, .int .u8 o.r.x.i0, .int .u8 o.r.x.i1, .int .u8 o.r.x.i2, .slice A n c, .int .i64 o.f, .int .i64 o.p, .int .i64 o.t, .int .i64 o.q, .int .i64 o.z] 51)) w.heap.size (ocl o (.slice A n c)) := Vb.new 51 w (ocl o (.slice A n c))
 have h1' := Mo.Ib.below h hb0
 have HB0 := Kp.mk hb0
 clear h hb0
 go_enter Tryz.func165, Tryz.ntmps165
 go_upto_region 1 with fail
 obtain ⟨g0, hg0⟩ : ∃ g0, g0 = w.heap.size := ⟨_, rfl⟩
 rw [← hg0] at hv0 ⊢
 have HG0 := Kp.mk hg0
 clear hg0
 generalize w.alloc (.cells #[.int .i64 o.k, .int .i64 o.n, .int .i64 o.m, .int .i64 o.r.k, .int .i64 o.r.pr, .int .i64 o.r.to, .int .i64 o.r.po, .int .i64 o.r.x.v, .int .i64 o.r.x.m, .int .u8 o.r.x.b0, .int .u8 o.r.x.b1, .int .u8 o.r.x.b2, .int .u8 o.r.x.i0, .int .u8 o.r.x.i1, .int .u8 o.r.x.i2, .slice A n c, .int .i64 o.f, .int .i64 o.p, .int .i64 o.t, .int .i64 o.q, .int .i64 o.z] 51) = w0 at *
 have hn := oisNone h1'.own
 have hi := isNumber_any seq w0
 rw [isN_yes h0 h1] at hi
 have hu : IntKind.u16.wrap seq = seq := by rw [IntKind.wrap_u16]; omega
 have c0 := h1'.own.cell 0 rfl
 have hb1 := below_alloc w0 (.cells #[.int .u16 nx, .int .i64 4] 253)
 have hh := ohas (w0.alloc (.cells #[.int .u16 nx, .int .i64 4] 253)) nx seq h1'.r0 h1'.r1 h0 (by omega)
 rw [decide_eq_false hd] at hh
 have HB1 := Kp.mk (HB0.out.trans (hb1.mono HB0.out.size))
 clear h1' hd h0 h1 hb1 hv0
 go_wp2_with (first | (refine hn.mono ?_; rintro e w1 ⟨rfl, rfl⟩) | (refine hi.mono ?_; rintro e w1 ⟨rfl, rfl⟩) | (go_at_call 211; refine hh.mono ?_; rintro e w1 ⟨rfl, hb⟩))
 go_ret2
 exact ⟨rfl, HB1.out.trans (hb.mono HB1.out.size)⟩
theorem otake_keep (h : Io w x b nx p1 p2 p3) (seq : Int) (h0 : 0 ≤ seq) (h1 : seq ≤ 65535) (hd : (seq - nx) % 65536 < 4) (hne : seq ≠ nx) (o : OrdV) (A : Option Addr) (n c : Nat) {R : World → Prop}
  (hk : ∀ w1, Below w.heap.size w w1 → Calls Tryz.prog 212 #[.pointer (some ⟨x, 0, none⟩), .int .u16 seq, (.agg #[.int .i64 o.k, .int .i64 o.n, .int .i64 o.m, .int .i64 o.r.k, .int .i64 o.r.pr, .int .i64 o.r.to, .int .i64 o.r.po, .int .i64 o.r.x.v, .int .i64 o.r.x.m, .int .u8 o.r.x.b0, .int .u8 o.r.x.b1, .int .u8 o.r.x.b2, .int .u8 o.r.x.i0, .int .u8 o.r.x.i1, .int .u8 o.r.x.i2, .slice A n c, .int .i64 o.f, .int .i64 o.p, .int .i64 o.t, .int .i64 o.q, .int .i64 o.z])] w1 fun e w' => e = .returned (.tuple #[]) ∧ R w') : Calls Tryz.prog 165 #[.pointer (some ⟨x, 0, none⟩), .int .i64 seq, (.agg #[.int .i64 o.k, .int .i64 o.n, .int .i64 o.m, .int .i64 o.r.k, .int .i64 o.r.pr, .int .i64 o.r.to, .int .i64 o.r.po, .int .i64 o.r.x.v, .int .i64 o.r.x.m, .int .u8 o.r.x.b0, .int .u8 o.r.x.b1, .int .u8 o.r.x.b2, .int .u8 o.r.x.i0, .int .u8 o.r.x.i1, .int .u8 o.r.x.i2, .slice A n c, .int .i64 o.f, .int .i64 o.p, .int .i64 o.t, .int .i64 o.q, .int .i64 o.z])] w fun e w' => e = .returned (.tuple #[.slice none 0 0, .int .i64 0]) ∧ R w' := by
 have hb0 := below_alloc w (.cells #[.int .i64 o.k, .int .i64 o.n, .int .i64 o.m, .int .i64 o.r.k, .int .i64 o.r.pr, .int .i64 o.r.to, .int .i64 o.r.po, .int .i64 o.r.x.v, .int .i64 o.r.x.m, .int .u8 o.r.x.b0, .int .u8 o.r.x.b1, .int .u8 o.r.x.b2, .int .u8 o.r.x.i0, .int .u8 o.r.x.i1, .int .u8 o.r.x.i2, .slice A n c, .int .i64 o.f, .int .i64 o.p, .int .i64 o.t, .int .i64 o.q, .int .i64 o.z] 51)
 have hv0 : Vb 51 (w.alloc (.cells #[.int .i64 o.k, .int .i64 o.n, .int .i64 o.m, .int .i64 o.r.k, .int .i64 o.r.pr, .int .i64 o.r.to, .int .i64 o.r.po, .int .i64 o.r.x.v, .int .i64 o.r.x.m, .int .u8 o.r.x.b0, .int .u8 o.r.x.b1, .int .u8 o.r.x.b2, .int .u8 o.r.x.i0, .int .u8 o.r.x.i1, .int .u8 o.r.x.i2, .slice A n c, .int .i64 o.f, .int .i64 o.p, .int .i64 o.t, .int .i64 o.q, .int .i64 o.z] 51)) w.heap.size (ocl o (.slice A n c)) := Vb.new 51 w (ocl o (.slice A n c))
 have h1' := Mo.Ib.below h hb0
 have HB0 := Kp.mk hb0
 clear h hb0
 go_enter Tryz.func165, Tryz.ntmps165
 go_upto_region 1 with fail
 obtain ⟨g0, hg0⟩ : ∃ g0, g0 = w.heap.size := ⟨_, rfl⟩
 rw [← hg0] at hv0 ⊢
 have HG0 := Kp.mk hg0
 clear hg0
 generalize w.alloc (.cells #[.int .i64 o.k, .int .i64 o.n, .int .i64 o.m, .int .i64 o.r.k, .int .i64 o.r.pr, .int .i64 o.r.to, .int .i64 o.r.po, .int .i64 o.r.x.v, .int .i64 o.r.x.m, .int .u8 o.r.x.b0, .int .u8 o.r.x.b1, .int .u8 o.r.x.b2, .int .u8 o.r.x.i0, .int .u8 o.r.x.i1, .int .u8 o.r.x.i2, .slice A n c, .int .i64 o.f, .int .i64 o.p, .int .i64 o.t, .int .i64 o.q, .int .i64 o.z] 51) = w0 at *
 have hn := oisNone h1'.own
 have hi := isNumber_any seq w0
 rw [isN_yes h0 h1] at hi
 have hu : IntKind.u16.wrap seq = seq := by rw [IntKind.wrap_u16]; omega
 have c0 := h1'.own.cell 0 rfl
 have hb1 := below_alloc w0 (.cells #[.int .u16 nx, .int .i64 4] 253)
 have hh := ohas (w0.alloc (.cells #[.int .u16 nx, .int .i64 4] 253)) nx seq h1'.r0 h1'.r1 h0 (by omega)
 rw [decide_eq_true hd] at hh
 have HB1 := Kp.mk hb1
 have HV0 := Kp.mk hv0
 have HOWN := Kp.mk h1'.own
 have HK := Kp.mk hk
 have hbn : (seq != nx) = true := by simpa using hne
 clear h1' hd h0 h1 hb1 hk hv0
 go_wp2_with (first | (refine hn.mono ?_; rintro e w1 ⟨rfl, rfl⟩) | (refine hi.mono ?_; rintro e w1 ⟨rfl, rfl⟩) | (go_at_call 211; refine hh.mono ?_; rintro e w1 ⟨rfl, hb⟩; have hb2 := HB1.out.trans (hb.mono HB1.out.size); have c0 := (HOWN.out.below hb2 HOWN.out.lt).cell 0 rfl; have hv1 := HV0.out.below hb2 HV0.out.lt; have hkk := HK.out _ (HB0.out.trans (hb2.mono HB0.out.size)); clear hb hb2 HK) | (refine wpList_load_vb (vs := ([.int .i64 o.k, .int .i64 o.n, .int .i64 o.m, .int .i64 o.r.k, .int .i64 o.r.pr, .int .i64 o.r.to, .int .i64 o.r.po, .int .i64 o.r.x.v, .int .i64 o.r.x.m, .int .u8 o.r.x.b0, .int .u8 o.r.x.b1, .int .u8 o.r.x.b2, .int .u8 o.r.x.i0, .int .u8 o.r.x.i1, .int .u8 o.r.x.i2, .slice A n c, .int .i64 o.f, .int .i64 o.p, .int .i64 o.t, .int .i64 o.q, .int .i64 o.z] : List Value)) rfl (.tmp 5) rfl rfl hv1 rfl agg_order ?_) | (refine hkk.mono ?_; rintro e w1 ⟨rfl, hr⟩))
 go_ret2
 exact ⟨rfl, hr⟩
theorem otake_tell (h : Io w x b nx p1 p2 p3) (o : OrdV) (A : Option Addr) (n c : Nat) : Calls Tryz.prog 165 #[.pointer (some ⟨x, 0, none⟩), .int .i64 nx, (.agg #[.int .i64 o.k, .int .i64 o.n, .int .i64 o.m, .int .i64 o.r.k, .int .i64 o.r.pr, .int .i64 o.r.to, .int .i64 o.r.po, .int .i64 o.r.x.v, .int .i64 o.r.x.m, .int .u8 o.r.x.b0, .int .u8 o.r.x.b1, .int .u8 o.r.x.b2, .int .u8 o.r.x.i0, .int .u8 o.r.x.i1, .int .u8 o.r.x.i2, .slice A n c, .int .i64 o.f, .int .i64 o.p, .int .i64 o.t, .int .i64 o.q, .int .i64 o.z])] w fun e w' => ∃ A' m c', e = .returned (.tuple #[.slice A' m c', .int .i64 0]) ∧ m = 1 + (folG p1 p2 p3).length ∧ Vo w' w.heap.size (.slice A' m c') m (⟨o, A, n, c⟩ :: folG p1 p2 p3) ∧ Io w' x b (Ser.plusP nx m) (rstG p1 p2 p3).1 (rstG p1 p2 p3).2.1 (rstG p1 p2 p3).2.2 ∧ Ch (fun k => k = x ∨ k = b) w w' := by
 have hb0 := below_alloc w (.cells #[.int .i64 o.k, .int .i64 o.n, .int .i64 o.m, .int .i64 o.r.k, .int .i64 o.r.pr, .int .i64 o.r.to, .int .i64 o.r.po, .int .i64 o.r.x.v, .int .i64 o.r.x.m, .int .u8 o.r.x.b0, .int .u8 o.r.x.b1, .int .u8 o.r.x.b2, .int .u8 o.r.x.i0, .int .u8 o.r.x.i1, .int .u8 o.r.x.i2, .slice A n c, .int .i64 o.f, .int .i64 o.p, .int .i64 o.t, .int .i64 o.q, .int .i64 o.z] 51)
 have hv0 : Vb 51 (w.alloc (.cells #[.int .i64 o.k, .int .i64 o.n, .int .i64 o.m, .int .i64 o.r.k, .int .i64 o.r.pr, .int .i64 o.r.to, .int .i64 o.r.po, .int .i64 o.r.x.v, .int .i64 o.r.x.m, .int .u8 o.r.x.b0, .int .u8 o.r.x.b1, .int .u8 o.r.x.b2, .int .u8 o.r.x.i0, .int .u8 o.r.x.i1, .int .u8 o.r.x.i2, .slice A n c, .int .i64 o.f, .int .i64 o.p, .int .i64 o.t, .int .i64 o.q, .int .i64 o.z] 51)) w.heap.size (ocl o (.slice A n c)) := Vb.new 51 w (ocl o (.slice A n c))
 have h1' := Mo.Ib.below h hb0
 have HB0 := Kp.mk hb0
 clear h hb0
 go_enter Tryz.func165, Tryz.ntmps165
 go_upto_region 1 with fail
 obtain ⟨g0, hg0⟩ : ∃ g0, g0 = w.heap.size := ⟨_, rfl⟩
 rw [← hg0] at hv0 ⊢
 have HG0 := Kp.mk hg0
 clear hg0
 generalize w.alloc (.cells #[.int .i64 o.k, .int .i64 o.n, .int .i64 o.m, .int .i64 o.r.k, .int .i64 o.r.pr, .int .i64 o.r.to, .int .i64 o.r.po, .int .i64 o.r.x.v, .int .i64 o.r.x.m, .int .u8 o.r.x.b0, .int .u8 o.r.x.b1, .int .u8 o.r.x.b2, .int .u8 o.r.x.i0, .int .u8 o.r.x.i1, .int .u8 o.r.x.i2, .slice A n c, .int .i64 o.f, .int .i64 o.p, .int .i64 o.t, .int .i64 o.q, .int .i64 o.z] 51) = w0 at *
 have hn := oisNone h1'.own
 have h0 := h1'.r0
 have h1 := h1'.r1
 have hi := isNumber_any nx w0
 rw [isN_yes h0 (by omega)] at hi
 have hu : IntKind.u16.wrap nx = nx := by rw [IntKind.wrap_u16]; omega
 have c0 := h1'.own.cell 0 rfl
 have hb1 := below_alloc w0 (.cells #[.int .u16 nx, .int .i64 4] 253)
 have hh := ohas (w0.alloc (.cells #[.int .u16 nx, .int .i64 4] 253)) nx nx h0 h1 h0 (by omega)
 rw [decide_eq_true (by omega)] at hh
 have HB1 := Kp.mk hb1
 have H := Kp.mk h1'
 have HV0 := Kp.mk hv0
 clear h1' h0 h1 hb1 hv0
 go_wp2_with (first | (refine hn.mono ?_; rintro e w1 ⟨rfl, rfl⟩) | (refine hi.mono ?_; rintro e w1 ⟨rfl, rfl⟩) | (go_at_call 211; refine hh.mono ?_; rintro e w1 ⟨rfl, hb⟩; have HB2 := Kp.mk (HB1.out.trans (hb.mono HB1.out.size)); have c0 := (Mo.Ib.below H.out HB2.out).own.cell 0 rfl; have hv1 := HV0.out.below HB2.out HV0.out.lt; clear hb) | (refine wpList_load_vb (vs := ([.int .i64 o.k, .int .i64 o.n, .int .i64 o.m, .int .i64 o.r.k, .int .i64 o.r.pr, .int .i64 o.r.to, .int .i64 o.r.po, .int .i64 o.r.x.v, .int .i64 o.r.x.m, .int .u8 o.r.x.b0, .int .u8 o.r.x.b1, .int .u8 o.r.x.b2, .int .u8 o.r.x.i0, .int .u8 o.r.x.i1, .int .u8 o.r.x.i2, .slice A n c, .int .i64 o.f, .int .i64 o.p, .int .i64 o.t, .int .i64 o.q, .int .i64 o.z] : List Value)) rfl (.tmp 5) rfl rfl hv1 rfl agg_order ?_))
 refine (otell (p1 := p1) (p2 := p2) (p3 := p3) (Mo.Ib.below H.out HB2.out) o A n c).mono ?_
 rintro e w2 ⟨A', m, c', rfl, hn2, hV, hI, hC⟩
 have HV := Kp.mk (hV.lower (Nat.le_trans HB0.out.size HB2.out.size))
 have HN := Kp.mk hn2
 have HI := Kp.mk hI
 have HC := Kp.mk (((Ch.of_below (S := fun k => k = x ∨ k = b) HB0.out).trans (Ch.of_below (S := fun k => k = x ∨ k = b) HB2.out) (fun _ _ e => e)).trans hC (fun _ _ e => e))
 clear hn2 hV hI hC
 go_wp2_with fail
 go_ret2
 exact ⟨A', m, c', rfl, HN.out, HV.out, HI.out, HC.out⟩
def orO (d j : Int) (p : Option Ov) (y : Ov) : Option Ov := if d = j then some (p.getD y) else p
theorem otake_ahead (h : Io w x b nx p1 p2 p3) (d : Int) (hd : d = 1 ∨ d = 2 ∨ d = 3) (o : OrdV) (A : Option Addr) (n c : Nat) : Calls Tryz.prog 165 #[.pointer (some ⟨x, 0, none⟩), .int .i64 (Ser.plusP nx d), (.agg #[.int .i64 o.k, .int .i64 o.n, .int .i64 o.m, .int .i64 o.r.k, .int .i64 o.r.pr, .int .i64 o.r.to, .int .i64 o.r.po, .int .i64 o.r.x.v, .int .i64 o.r.x.m, .int .u8 o.r.x.b0, .int .u8 o.r.x.b1, .int .u8 o.r.x.b2, .int .u8 o.r.x.i0, .int .u8 o.r.x.i1, .int .u8 o.r.x.i2, .slice A n c, .int .i64 o.f, .int .i64 o.p, .int .i64 o.t, .int .i64 o.q, .int .i64 o.z])] w fun e w' => e = .returned (.tuple #[.slice none 0 0, .int .i64 0]) ∧ (Io w' x b nx (orO d 1 p1 ⟨o, A, n, c⟩) (orO d 2 p2 ⟨o, A, n, c⟩) (orO d 3 p3 ⟨o, A, n, c⟩) ∧ Ch (fun k => k = b) w w') := by
 have hbd := plusP_bd nx d
 have r0 := h.r0
 have r1 := h.r1
 refine otake_keep h (Ser.plusP nx d) hbd.1 (by omega) (by unfold Ser.plusP; omega) (by unfold Ser.plusP; omega) o A n c (R := fun w' => Io w' x b nx (orO d 1 p1 ⟨o, A, n, c⟩) (orO d 2 p2 ⟨o, A, n, c⟩) (orO d 3 p3 ⟨o, A, n, c⟩) ∧ Ch (fun k => k = b) w w') (fun w1 hb1 => ?_)
 have hc0 : Ch (fun k => k = b) w w1 := .of_below hb1
 have h1 := Mo.Ib.below h hb1
 have fin : ∀ (q1 q2 q3 : Option Ov) (w' : World), Ch (fun y => y = b) w1 w' → Mo.Mf w' b (kpt nx none (q1.map Ov.v) (q2.map Ov.v) (q3.map Ov.v)) (cntO q1 q2 q3) → Io w' x b nx q1 q2 q3 ∧ Ch (fun k => k = b) w w' := fun q1 q2 q3 w' hc hm => ⟨⟨(hc.block x h1.own.lt h1.ne).trans h1.own, hm, r0, r1⟩, hc0.trans hc (fun _ _ e => e)⟩
 rcases hd with rfl | rfl | rfl
 ·have hk : kpt nx none (p1.map Ov.v) (p2.map Ov.v) (p3.map Ov.v) (Ser.plusP nx 1) = p1.map Ov.v := kpt_1 r0 r1
  cases hp : p1 with
  | none =>
   refine (okeep_yes h1.own h1.mp (Ser.plusP nx 1) o A n c (by rw [hk, hp]; rfl)).mono ?_
   rintro e w' ⟨rfl, hm, hc⟩
   subst hp
   rw [setF_1 r0 r1] at hm
   exact ⟨rfl, fin _ _ _ w' hc (hm.cong (by simp [orO]; rfl) (by simp [cntO, cnt, one1, orO]; try omega))⟩
  | some u =>
   refine (okeep_no h1.own h1.mp (Ser.plusP nx 1) o A n c (u := u) (by rw [hk, hp]; rfl)).mono ?_
   rintro e w' ⟨rfl, hb⟩
   subst hp
   exact ⟨rfl, fin _ _ _ w' (.of_below hb) ((h1.mp.below hb).cong (by simp [orO]) (by simp [cntO, orO]))⟩
 ·have hk : kpt nx none (p1.map Ov.v) (p2.map Ov.v) (p3.map Ov.v) (Ser.plusP nx 2) = p2.map Ov.v := kpt_2 r0 r1
  cases hp : p2 with
  | none =>
   refine (okeep_yes h1.own h1.mp (Ser.plusP nx 2) o A n c (by rw [hk, hp]; rfl)).mono ?_
   rintro e w' ⟨rfl, hm, hc⟩
   subst hp
   rw [setF_2 r0 r1] at hm
   exact ⟨rfl, fin _ _ _ w' hc (hm.cong (by simp [orO]; rfl) (by simp [cntO, cnt, one1, orO]; try omega))⟩
  | some u =>
   refine (okeep_no h1.own h1.mp (Ser.plusP nx 2) o A n c (u := u) (by rw [hk, hp]; rfl)).mono ?_
   rintro e w' ⟨rfl, hb⟩
   subst hp
   exact ⟨rfl, fin _ _ _ w' (.of_below hb) ((h1.mp.below hb).cong (by simp [orO]) (by simp [cntO, orO]))⟩
 ·have hk : kpt nx none (p1.map Ov.v) (p2.map Ov.v) (p3.map Ov.v) (Ser.plusP nx 3) = p3.map Ov.v := kpt_3 r0 r1
  cases hp : p3 with
  | none =>
   refine (okeep_yes h1.own h1.mp (Ser.plusP nx 3) o A n c (by rw [hk, hp]; rfl)).mono ?_
   rintro e w' ⟨rfl, hm, hc⟩
   subst hp
   rw [setF_3 r0 r1] at hm
   exact ⟨rfl, fin _ _ _ w' hc (hm.cong (by simp [orO]; rfl) (by simp [cntO, cnt, one1, orO]; try omega))⟩
  | some u =>
   refine (okeep_no h1.own h1.mp (Ser.plusP nx 3) o A n c (u := u) (by rw [hk, hp]; rfl)).mono ?_
   rintro e w' ⟨rfl, hb⟩
   subst hp
   exact ⟨rfl, fin _ _ _ w' (.of_below hb) ((h1.mp.below hb).cong (by simp [orO]) (by simp [cntO, orO]))⟩
end
end Go.Proofs.YtnoflfbcgbhipaaGreat.Oct
