import Derived.Laws.BitsAllLaws
import Derived.Laws.BitsLemmas
import Derived.RowKit
import Derived.Test.YtnoflfbcgbhipaaGreatFrame
import Derived.WalkSmall
import Derived.IntWalk
import Derived.WalkSpells
import Derived.Outline
import Derived.Lib.Hide
import Derived.Laws.BytesArg
import Derived.Deep.AppendLies
import Derived.Laws.AppendOwnNone
import Derived.Lib.SlBytesConst
import Derived.OwnWalk
import Derived.LoopTactic
import Derived.Laws.Rows
import Derived.Laws.Pointers
import Derived.Deep.RegionWith
import Derived.Deep.RegionHeld
import Derived.OrdersHeld
import Derived.ChangeKeysEq
import Derived.Deep.Cut
import Derived.BigQuiet
set_option linter.unusedVariables false
namespace Go.Proofs.YtnoflfbcgbhipaaGreat.Oct
open Go.RowKit
structure Kp (p : Prop) : Prop where
 out : p
def By (l : List Int) : Prop := ∀ z ∈ l, 0 ≤ z ∧ z < 256
theorem By.nil : By [] := by intro z hz; cases hz
theorem By.cons {z : Int} {l : List Int} (h0 : 0 ≤ z ∧ z < 256) (h : By l) : By (z :: l) := by
 intro y hy; rcases List.mem_cons.1 hy with rfl | hy
 ·exact h0
 ·exact h y hy
theorem By.append {a b : List Int} (ha : By a) (hb : By b) : By (a ++ b) := by
 intro y hy; rcases List.mem_append.1 hy with h | h
 ·exact ha y h
 ·exact hb y h
theorem By.take {l : List Int} (h : By l) (n : Nat) : By (l.take n) := fun z hz => h z (List.mem_of_mem_take hz)
theorem By.drop {l : List Int} (h : By l) (n : Nat) : By (l.drop n) := fun z hz => h z (List.mem_of_mem_drop hz)
theorem By.getD {l : List Int} (h : By l) (k : Nat) : 0 ≤ l.getD k 0 ∧ l.getD k 0 < 256 := by
 rw [List.getD_eq_getElem?_getD]
 by_cases hk : k < l.length
 ·rw [List.getElem?_eq_getElem hk]; exact h _ (List.getElem_mem _)
 ·rw [List.getElem?_eq_none (by omega)]; simp
theorem take_snoc (l : List Int) (k : Nat) (h : k < l.length) : l.take (k + 1) = l.take k ++ [l.getD k 0] := by
 rw [List.take_succ_eq_append_getElem h, List.getD_eq_getElem?_getD, List.getElem?_eq_getElem h]; rfl
def stepN (s : Nat) : Nat := (2 * s % 65536) ^^^ (s / 32768 * 4129)
def stepK : Nat → Nat → Nat
 | 0, s => s
 | k + 1, s => stepK k (stepN s)
theorem stepK_succ : ∀ k s, stepK (k + 1) s = stepN (stepK k s)
 | 0, s => rfl
 | k + 1, s => by show stepK (k + 1) (stepN s) = _; rw [stepK_succ k]; rfl
theorem stepN_lt (s : Nat) (h : s < 65536) : stepN s < 65536 := by
 unfold stepN
 have h1 : 2 * s % 65536 < 2 ^ 16 := by omega
 have h2 : s / 32768 * 4129 < 2 ^ 16 := by omega
 exact Nat.xor_lt_two_pow h1 h2
theorem stepK_lt : ∀ k s, s < 65536 → stepK k s < 65536
 | 0, s, h => h
 | k + 1, s, h => stepK_lt k _ (stepN_lt s h)
def crcByte (s : Nat) (b : Int) : Nat := stepK 8 (s ^^^ (b.toNat * 256))
def crcN (s : Nat) (l : List Int) : Nat := l.foldl crcByte s
def sumP (l : List Int) : Int := (crcN 65535 l : Nat)
theorem crcByte_lt (s : Nat) (b : Int) (h : s < 65536) (hb : 0 ≤ b ∧ b < 256) : crcByte s b < 65536 := by
 unfold crcByte
 refine stepK_lt _ _ ?_
 have h2 : b.toNat * 256 < 2 ^ 16 := by omega
 exact Nat.xor_lt_two_pow h h2
theorem crcN_lt : ∀ (l : List Int) (s : Nat), s < 65536 → By l → crcN s l < 65536
 | [], s, h, _ => h
 | b :: l, s, h, hl => crcN_lt l _ (crcByte_lt s b h (hl b (by simp))) (fun z hz => hl z (by simp [hz]))
theorem crcN_snoc (s : Nat) (l : List Int) (b : Int) : crcN s (l ++ [b]) = crcByte (crcN s l) b := by unfold crcN; simp
theorem sumP_bd (l : List Int) (h : By l) : 0 ≤ sumP l ∧ sumP l < 65536 := by
 have := crcN_lt l 65535 (by omega) h
 unfold sumP; omega
theorem step_u16 (s : Nat) (h : s < 65536) : bits .xor .u16 (IntKind.u16.wrap ((s : Int) * 2)) ((s : Int) / 32768 * 4129) = ((stepN s : Nat) : Int) := by
 have e1 : IntKind.u16.wrap ((s : Int) * 2) = ((2 * s % 65536 : Nat) : Int) := by rw [IntKind.wrap_u16]; omega
 have e2 : (s : Int) / 32768 * 4129 = ((s / 32768 * 4129 : Nat) : Int) := by omega
 rw [e1, e2, u16_xor_nat _ _ (by omega) (by omega)]; rfl
theorem ofInt_i64' (a : Nat) (ha : a < 9223372036854775808) : (BitVec.ofInt 64 (a : Int)).toNat = a := by
 rw [BitVec.ofInt_natCast, BitVec.toNat_ofNat]; exact Nat.mod_eq_of_lt (by omega)
theorem xor_i64 (a b : Nat) (ha : a < 65536) (hb : b < 65536) : bits .xor .i64 (a : Int) (b : Int) = ((a ^^^ b : Nat) : Int) := by
 have hx : a ^^^ b < 2 ^ 16 := Nat.xor_lt_two_pow (by omega) (by omega)
 show IntKind.i64.wrap ((BitVec.ofInt 64 (a : Int) ^^^ BitVec.ofInt 64 (b : Int)).toNat : Int) = _
 rw [BitVec.toNat_xor, ofInt_i64' a (by omega), ofInt_i64' b (by omega), IntKind.wrap_i64]
 omega
theorem or_i64 (a b : Nat) (ha : a < 4503599627370496) (hb : b < 256) : bits .or .i64 ((a : Int) * 256) (b : Int) = ((a * 256 + b : Nat) : Int) := by
 have e : (a : Int) * 256 = ((a * 256 : Nat) : Int) := by omega
 have hx : (a * 256) ||| b = a * 256 + b := nat_join 8 _ _ (by omega) (by omega)
 rw [e]
 show IntKind.i64.wrap ((BitVec.ofInt 64 ((a * 256 : Nat) : Int) ||| BitVec.ofInt 64 (b : Int)).toNat : Int) = _
 rw [BitVec.toNat_or, ofInt_i64' (a * 256) (by omega), ofInt_i64' b (by omega), hx, IntKind.wrap_i64]
 omega
theorem step_i64_lo (s : Nat) (h : s < 32768) : (s : Int) * 2 = ((stepN s : Nat) : Int) := by
 have h1 : s / 32768 = 0 := by omega
 unfold stepN; rw [h1]; simp; omega
theorem step_i64_hi (s : Nat) (h : 32768 ≤ s) (h' : s < 65536) : bits .xor .i64 ((s : Int) * 2 - 65536) 4129 = ((stepN s : Nat) : Int) := by
 have e1 : (s : Int) * 2 - 65536 = ((2 * s % 65536 : Nat) : Int) := by omega
 have h1 : s / 32768 = 1 := by omega
 rw [e1, show (4129 : Int) = ((4129 : Nat) : Int) from rfl, xor_i64 _ _ (by omega) (by omega)]
 unfold stepN; rw [h1]
theorem byte_u16 (s : Nat) (b : Int) (hs : s < 65536) (hb : 0 ≤ b ∧ b < 256) : bits .xor .u16 (s : Int) (b * 256) = ((s ^^^ (b.toNat * 256) : Nat) : Int) := by
 have e : b * 256 = ((b.toNat * 256 : Nat) : Int) := by omega
 rw [e, u16_xor_nat _ _ hs (by omega)]
theorem byte_i64 (s : Nat) (b : Int) (hs : s < 65536) (hb : 0 ≤ b ∧ b < 256) : bits .xor .i64 (s : Int) (b * 256) = ((s ^^^ (b.toNat * 256) : Nat) : Int) := by
 have e : b * 256 = ((b.toNat * 256 : Nat) : Int) := by omega
 rw [e, xor_i64 _ _ hs (by omega)]
theorem byte_lt (s : Nat) (b : Int) (hs : s < 65536) (hb : 0 ≤ b ∧ b < 256) : s ^^^ (b.toNat * 256) < 65536 :=
 Nat.xor_lt_two_pow (n := 16) hs (by omega)
def dg : Nat → Int → List Int
 | 0, _ => []
 | k + 1, n => (n / 2 ^ (8 * k)) % 256 :: dg k n
theorem dg_len : ∀ k n, (dg k n).length = k
 | 0, _ => rfl
 | k + 1, n => by simp [dg, dg_len k n]
theorem dg_by : ∀ k n, By (dg k n)
 | 0, _ => By.nil
 | k + 1, n => By.cons (by omega) (dg_by k n)
theorem dg_getD : ∀ (s : Nat) (x : Int) (k : Nat), k < s → (dg s x).getD k 0 = x / 2 ^ (8 * (s - 1 - k)) % 256
 | 0, _, _, h => by omega
 | s + 1, x, 0, _ => by simp [dg]
 | s + 1, x, k + 1, h => by
  have := dg_getD s x k (by omega)
  simp only [dg, List.getD_cons_succ, this]
  rw [show s - 1 - k = s + 1 - 1 - (k + 1) from by omega]
theorem dg_snoc (s : Nat) (x : Int) (k : Nat) (h : k < s) : (dg s x).take (k + 1) = (dg s x).take k ++ [x / 2 ^ (8 * (s - 1 - k)) % 256] := by
 rw [take_snoc _ _ (by rw [dg_len]; exact h), dg_getD s x k h]
def num (l : List Int) : Nat := l.foldl (fun n b => n * 256 + b.toNat) 0
theorem num_lt : ∀ (l : List Int), By l → num l < 256 ^ l.length := by
 intro l
 have key : ∀ (l : List Int) (a : Nat), By l → l.foldl (fun n b => n * 256 + b.toNat) a < (a + 1) * 256 ^ l.length := by
  intro l
  induction l with
  | nil => intro a _; simp
  | cons b l ih =>
   intro a h
   have hb := h b (by simp)
   refine Nat.lt_of_lt_of_le (ih _ (fun z hz => h z (by simp [hz]))) ?_
   rw [List.length_cons, Nat.pow_succ, Nat.mul_comm (256 ^ l.length) 256, ← Nat.mul_assoc]
   refine Nat.mul_le_mul_right _ ?_
   show a * 256 + b.toNat + 1 ≤ _
   omega
 intro h
 have := key l 0 h
 simpa [num] using this
theorem num_snoc (l : List Int) (b : Int) : num (l ++ [b]) = num l * 256 + b.toNat := by unfold num; simp
def Rd (k : IntKind) (w : World) (B : Nat) (A : Option Addr) (n c : Nat) (l : List Int) : Prop :=
 l.length = n ∧ n ≤ c ∧ c ≤ maxLen ∧ (A = none → c = 0) ∧
 (0 < n → ∃ b off, A = some ⟨b, off, none⟩ ∧ b < B ∧ ∀ j, j < n → w.cell? ⟨b, off + j, none⟩ = some (.int k (l.getD j 0)))
section
variable {k : IntKind} {w w' : World} {B B' : Nat} {A : Option Addr} {n c : Nat} {l : List Int}
theorem Rd.len (h : Rd k w B A n c l) : l.length = n := h.1
theorem Rd.le (h : Rd k w B A n c l) : n ≤ c := h.2.1
theorem Rd.cap (h : Rd k w B A n c l) : c ≤ maxLen := h.2.2.1
theorem Rd.max (h : Rd k w B A n c l) : (n : Int) ≤ 9223372036854775807 := by have := h.2.1; have := h.2.2.1; unfold maxLen at this; omega
theorem Rd.at_ (h : Rd k w B A n c l) (hn : 0 < n) : ∃ b off, A = some ⟨b, off, none⟩ ∧ b < B ∧ ∀ j, j < n → w.cell? ⟨b, off + j, none⟩ = some (.int k (l.getD j 0)) := h.2.2.2.2 hn
theorem Rd.keep (h : Rd k w B A n c l) (hk : ∀ b o, b < B → w'.cell? ⟨b, o, none⟩ = w.cell? ⟨b, o, none⟩) : Rd k w' B A n c l :=
 ⟨h.1, h.2.1, h.2.2.1, h.2.2.2.1, fun hn => by
  obtain ⟨b, off, e, hb, hc⟩ := h.at_ hn
  exact ⟨b, off, e, hb, fun j hj => (hk b _ hb).trans (hc j hj)⟩⟩
theorem Rd.below (h : Rd k w B A n c l) (hb : Below B w w') : Rd k w' B A n c l := h.keep fun b o hlt => hb.cell (p := ⟨b, o, none⟩) hlt
theorem Rd.below' (h : Rd k w B A n c l) (hb : Below B' w w') (hB : B ≤ B') : Rd k w' B A n c l := h.below (hb.mono hB)
theorem Rd.nil (k : IntKind) (w : World) (B : Nat) : Rd k w B none 0 0 [] := ⟨rfl, Nat.le_refl _, Nat.zero_le _, fun _ => rfl, fun h => absurd h (by omega)⟩
theorem Rd.of_row {len cap : Nat} {zs : List Int} (h : Frame.IsRow k w A len cap zs) : Rd k w w.heap.size A len cap (zs.take len) := by
 rcases h with ⟨rfl, rfl, rfl, rfl⟩ | ⟨x, rfl, hl, hm, hz, hcell, hwz⟩
 ·exact Rd.nil k w _
 ·refine ⟨by rw [List.length_take]; omega, hl, hm, fun h => by simp at h, fun hn => ?_⟩
  obtain ⟨b, off, spot⟩ := x
  have h0 := hcell 0 (by omega)
  have hspot : spot = none := by simpa [Addr.add] using World.cell?_spot h0
  subst hspot
  have hadd : ∀ j, (⟨b, off, none⟩ : Addr).add j = ⟨b, off + j, none⟩ := fun j => by unfold Addr.add; split <;> simp_all
  refine ⟨b, off, rfl, ?_, fun j hj => ?_⟩
  ·rw [hadd] at h0; exact World.block_lt_of_cell? w _ h0
  ·rw [← hadd, hcell j (by omega), List.getD_eq_getElem?_getD, List.getD_eq_getElem?_getD, List.getElem?_take_of_lt hj]
end
def Own (w : World) (base : Nat) (v : Value) (n : Nat) (l : List Int) : Prop := w.ownsRow base 5 1 v n (l.map (Value.int .u8))
theorem info_u8 : (Tryz.prog.info? 5).map (fun i => (i.zero, i.size, i.bytes)) = some (some (.int .u8 0), 1, 1) := by kernel_rfl
section
variable {w w' : World} {base : Nat} {v : Value} {n : Nat} {l : List Int}
theorem Own.len (h : Own w base v n l) : l.length = n := by have := h.1; simpa using this
theorem Own.nil (w : World) (base : Nat) : Own w base (.slice none 0 0) 0 [] := World.ownsRow_nil w base _ 1
theorem Own.form (h : Own w base v n l) : ∃ A c, v = .slice A n c ∧ n ≤ c ∧ c ≤ maxLen ∧ (A = none → c = 0) ∧ (∀ a, A = some a → ∃ g, a = ⟨g, 0, none⟩ ∧ base ≤ g ∧ g < w.heap.size) := by
 rcases h.2 with ⟨rfl, rfl⟩ | ⟨g, cap, cur, rfl, hbg, hg, hnc, hcm, _⟩
 ·exact ⟨none, 0, rfl, Nat.le_refl _, Nat.zero_le _, fun _ => rfl, fun a h => by simp at h⟩
 ·exact ⟨some ⟨g, 0, none⟩, cap, rfl, hnc, hcm, fun h => by simp at h, fun a h => ⟨g, by simpa using h.symm, hbg, (Array.getElem?_eq_some_iff.1 hg).1⟩⟩
theorem Own.lower (h : Own w base v n l) {b : Nat} (hb : b ≤ base) : Own w b v n l := by
 refine ⟨h.1, ?_⟩
 rcases h.2 with h2 | ⟨g, cap, cur, e, hbg, r⟩
 ·exact .inl h2
 ·exact .inr ⟨g, cap, cur, e, by omega, r⟩
theorem Own.below (h : Own w base v n l) {B : Nat} (hb : Below B w w') (hB : w.heap.size ≤ B) : Own w' base v n l := by
 refine ⟨h.1, ?_⟩
 rcases h.2 with h2 | ⟨g, cap, cur, e, hbg, hg, r⟩
 ·exact .inl h2
 ·exact .inr ⟨g, cap, cur, e, hbg, (hb.block g (by have := (Array.getElem?_eq_some_iff.1 hg).1; omega)).trans hg, r⟩
theorem Own.alloc (h : Own w base v n l) (o : Obj) : Own (w.alloc o) base v n l := h.below ((Below.refl w.heap.size w).alloc (Nat.le_refl _) o) (Nat.le_refl _)
theorem Own.rd {A : Option Addr} {c : Nat} (h : Own w base (.slice A n c) n l) : Rd .u8 w w.heap.size A n c l := by
 obtain ⟨A', c', e, h1, h2, h3, h4⟩ := h.form
 injection e with e1 e2 e3
 subst e1 e3
 refine ⟨h.len, h1, h2, h3, fun hn => ?_⟩
 obtain ⟨g, cap, hv, _, hlt⟩ := World.ownsRow.form h hn
 injection hv with hA _ _
 subst hA
 refine ⟨g, 0, rfl, hlt, fun j hj => ?_⟩
 have hl := h.len
 have := World.ownsRow.cells h (g := g) rfl j (.int .u8 (l.getD j 0)) (by
  rw [List.getElem?_map, List.getElem?_eq_getElem (by omega), List.getD_eq_getElem?_getD, List.getElem?_eq_getElem (by omega)]; rfl)
 have hadd : (⟨g, 0, none⟩ : Addr).add j = ⟨g, 0 + j, none⟩ := by unfold Addr.add; split <;> simp_all
 rw [← hadd]; exact this
theorem Own.make (w : World) (base cap : Nat) (hb : base ≤ w.heap.size) (hm : cap ≤ maxLen) {cs : Array Value} (hs : cs.size = cap) :
  Own (w.alloc (.cells cs 5)) base (.slice (some ⟨w.heap.size, 0, none⟩) 0 cap) 0 [] :=
 World.ownsRow_made w _ cap hb hm (by omega)
end
theorem add_addr (b off j : Nat) : (⟨b, off, none⟩ : Addr).add j = ⟨b, off + j, none⟩ := by unfold Addr.add; split <;> simp_all
theorem run_append8 {w : World} (ty : TypeId) {base B : Nat} {v : Value} {n m c : Nat} {A : Option Addr} {l l2 : List Int} (hown : Own w base v n l) (hr : Rd .u8 w B A m c l2)
  (hsz : n + m ≤ 140737488355328) (hbase : base ≤ w.heap.size) :
  ∃ A' c' w', (Builtin.append_ #[52, 52] ty #[v, .slice A m c]).run Tryz.prog w = .ok (.slice A' (n + m) c') w' ∧ Own w' base (.slice A' (n + m) c') (n + m) (l ++ l2) ∧ Below base w w' := by
 obtain ⟨i0, hi, hz0, hz1, hz2⟩ := info_parts info_u8
 rcases A with _ | ad
 ·have hc : c = 0 := hr.2.2.2.1 rfl
  have hm : m = 0 := by have := hr.le; omega
  subst hc hm
  have hl2 : l2 = [] := List.eq_nil_of_length_eq_zero hr.len
  subst hl2
  obtain ⟨A', c', e, _⟩ := hown.form
  subst e
  exact ⟨A', c', w, run_append_owned_none (P := Tryz.prog) (w := w) base 52 ty 5 i0 1 Tryz.underlying52 hi _ n _ hown, by simpa using hown, Below.refl _ _⟩
 ·have hcells : ∀ j u, (l2.map (Value.int .u8))[j]? = some u → w.cell? (ad.add j) = some u := by
   intro j u hu
   have hjl : j < l2.length := by
    rcases Nat.lt_or_ge j l2.length with h | h
    ·exact h
    ·simp [List.getElem?_eq_none (show (l2.map (Value.int .u8)).length ≤ j by simpa using h)] at hu
   obtain ⟨b, off, e, _, hc⟩ := hr.at_ (by have := hr.len; omega)
   have e := Option.some.inj e
   subst e
   rw [add_addr, hc j (by have := hr.len; omega)]
   rw [List.getElem?_map, List.getElem?_eq_getElem hjl] at hu
   simp at hu
   rw [List.getD_eq_getElem?_getD, List.getElem?_eq_getElem hjl, ← hu]; rfl
  obtain ⟨v', w', hrun, h2, h3, _, h5⟩ := run_append_own_at (P := Tryz.prog) w base 52 ty 5 i0 _ 1 1 Tryz.underlying52 hi hz0 hz1 hz2 rfl (by omega) v n _ hown ad m c (l2.map (Value.int .u8)) (by simp [hr.len]) hcells
   (by intro u hu; obtain ⟨z, _, rfl⟩ := List.mem_map.1 hu; rfl) (by unfold maxLen; omega) (by omega) hbase
  have hown' : Own w' base v' (n + m) (l ++ l2) := by unfold Own; rw [List.map_append]; exact h2
  obtain ⟨A', c', e, _⟩ := hown'.form
  subst e
  refine ⟨A', c', w', hrun, hown', (Below.refl base w).grown h3 hbase fun k hk => ?_⟩
  exact (World.ownsRow.lt hown k hk).1
theorem wpList_append8 {w : World} {ops : Array Oper} {rest : List Oper} {o : Oper} {a : Act} {Q : Exit → Act → World → Prop} (hgd : o.guard = none) (s x : Operand)
  (ho : o.op = .call { callee := .builtin .append, args := #[s, x], argTypes := #[52, 52] })
  {base B : Nat} {v : Value} {n m c : Nat} {A : Option Addr} {l l2 : List Int} (hs : a.eval s = v) (hown : Own w base v n l) (hx : a.eval x = .slice A m c) (hr : Rd .u8 w B A m c l2)
  (hsz : n + m ≤ 140737488355328) (hbase : base ≤ w.heap.size)
  (h : ∀ A' c' w', Own w' base (.slice A' (n + m) c') (n + m) (l ++ l2) → Below base w w' → wpList Tryz.prog ops Q rest (a.put o.dst (.slice A' (n + m) c')) w') : wpList Tryz.prog ops Q (o :: rest) a w := by
 refine wpList_plain hgd fun K hK => ?_
 obtain ⟨A', c', w', hrun, h2, h3⟩ := run_append8 (w := w) o.type hown hr hsz hbase
 unfold Oper.wp execOp
 simp only [ho, resolve, invoke, builtin, Sem.run_bind, Sem.run_pure, Result.andThen_ok, List.map_toArray, List.map_cons, List.map_nil, hs, hx, hrun]
 exact hK _ _ (h A' c' w' h2 h3)
theorem run_make8 (cap : Nat) (h : cap ≤ 281474976710656) (C : Int) (hC : C = cap) (w : World) :
  (Instr.makeSlice 52 (.int .i64 0) (.int .i64 C)).run Tryz.prog w = .ok (.slice (some ⟨w.heap.size, 0, none⟩) 0 cap) (w.alloc (.cells (madeCells (Value.int .u8 0).cells cap) 5)) := by
 obtain ⟨i0, hi, hz0, hz1, hz2⟩ := info_parts info_u8
 have hr := run_make (P := Tryz.prog) w 52 5 i0 _ Tryz.underlying52 hi hz0 .i64 .i64 0 C (by omega) (by omega) (by rw [hz2]; omega) (by omega)
 rw [hr, hz1, hC]
 simp
theorem own_made (w : World) (base cap : Nat) (hb : base ≤ w.heap.size) (h : cap ≤ 281474976710656) :
  Own (w.alloc (.cells (madeCells (Value.int .u8 0).cells cap) 5)) base (.slice (some ⟨w.heap.size, 0, none⟩) 0 cap) 0 [] :=
 Own.make w base cap hb (by unfold maxLen; omega) (size_madeCells _ _)
theorem rd_lit (k : IntKind) (w : World) (t : TypeId) (l : List Int) (h : l.length ≤ maxLen) (B : Nat) (hB : w.heap.size < B) :
  Rd k (w.alloc (.cells (l.map (Value.int k)).toArray t)) B (some ⟨w.heap.size, 0, none⟩) l.length l.length l := by
 refine ⟨rfl, Nat.le_refl _, h, fun e => by simp at e, fun hn => ⟨w.heap.size, 0, rfl, hB, fun j hj => ?_⟩⟩
 rw [Nat.zero_add, World.cell?_alloc_new]
 simp only [List.getElem?_toArray, List.getElem?_map]
 rw [List.getD_eq_getElem?_getD, List.getElem?_eq_getElem hj]; rfl
theorem below_alloc (w : World) (o : Obj) : Below w.heap.size w (w.alloc o) := (Below.refl _ _).alloc (Nat.le_refl _) o
theorem grown_of_below {a w : World} (h : Below a.heap.size a w) (row : Option Nat) : a.grownBy w row := ⟨h.os, h.tape, h.output, h.size, fun i hi _ => h.block i hi⟩
theorem grownBy_set (w : World) (g i : Nat) (u : Value) : w.grownBy (w.setCell ⟨g, i, none⟩ u) (some g) :=
 ⟨rfl, rfl, rfl, by simp [World.setCell], fun k _ hk => Below.heap_setCell _ _ _ _ (fun e => hk (by rw [e]))⟩
theorem grown_cell {w w' : World} {g b o : Nat} {v : Value} (hg : w.grownBy w' (some g)) (h : w.cell? ⟨b, o, none⟩ = some v) (hne : b ≠ g) : w'.cell? ⟨b, o, none⟩ = some v :=
 World.grownBy.cell hg h (by simp; exact hne)
theorem below_grown {B g : Nat} {a w w' : World} (h : Below B a w) (hg : w.grownBy w' (some g)) (hB : B ≤ w.heap.size) (hg' : B ≤ g) : Below B a w' := h.grown hg hB (fun k e => by simp at e; omega)
theorem below_two (wr : World) (o o2 : Obj) : Below wr.heap.size wr ((wr.alloc o).alloc o2) := (below_alloc wr o).trans ((below_alloc _ o2).mono (by simp))
def Vb (T : TypeId) (w : World) (g : Nat) (cs : List Value) : Prop := w.heap[g]? = some (.cells cs.toArray T (0, 0))
section
variable {T : TypeId} {w w' : World} {g r B : Nat} {cs : List Value}
theorem Vb.lt (h : Vb T w g cs) : g < w.heap.size := (Array.getElem?_eq_some_iff.1 h).1
theorem Vb.new (T : TypeId) (w : World) (cs : List Value) : Vb T (w.alloc (.cells cs.toArray T)) w.heap.size cs := heap_alloc_new w _
theorem Vb.grown (h : Vb T w g cs) (hg : w.grownBy w' (some r)) (hne : g ≠ r) : Vb T w' g cs := (hg.block g h.lt (by simp; exact hne)).trans h
theorem Vb.below (h : Vb T w g cs) (hb : Below B w w') (hB : g < B) : Vb T w' g cs := (hb.block g hB).trans h
theorem Vb.alloc (h : Vb T w g cs) (o : Obj) : Vb T (w.alloc o) g cs := h.below (below_alloc w o) h.lt
theorem Vb.free (h : Vb T w g cs) (j : Nat) : w.frozen? ⟨g, j, none⟩ = false := by simp [World.frozen?, show w.heap[g]? = _ from h]
theorem Vb.cell (h : Vb T w g cs) (j : Nat) {u : Value} (hj : cs[j]? = some u) : w.cell? ⟨g, j, none⟩ = some u := by
 simp [World.cell?, show w.heap[g]? = _ from h, hj]
theorem Vb.set (h : Vb T w g cs) (j : Nat) (u : Value) : Vb T (w.setCell ⟨g, j, none⟩ u) g (cs.set j u) := by
 simp [Vb, World.setCell, Array.getElem?_modify, show w.heap[g]? = _ from h]
theorem Vb.other (h : Vb T w g cs) (hne : g ≠ r) (j : Nat) (u : Value) : Vb T (w.setCell ⟨r, j, none⟩ u) g cs := h.grown (grownBy_set w r j u) hne
end
theorem vb_ne {T T' : TypeId} {w : World} {g g' : Nat} {cs cs' : List Value} (h : Vb T w g cs) (h' : Vb T' w g' cs') (hne : T ≠ T') : g ≠ g' := by
 intro e
 subst e
 have h2 := (show w.heap[g]? = _ from h).symm.trans h'
 have h2 := Option.some.inj h2
 injection h2 with _ h3 _
 exact hne h3
def Agg (ty : TypeId) (n : Nat) : Prop := (∃ d, Tryz.prog.underlying ty = some d ∧ (match d with | .struct _ | .array _ _ => true | _ => false) = true) ∧ (Tryz.prog.info? ty).map (·.size) = some n
section
variable {T ty : TypeId} {w : World} {g off : Nat} {cs vs : List Value}
theorem run_loadVb (hv : Vb T w g cs) (hvs : (cs.drop off).take vs.length = vs) (ht : Agg ty vs.length) : (loadVar ty ⟨g, off, none⟩).run Tryz.prog w = .ok (.agg vs.toArray) w := by
 obtain ⟨⟨d, hu, hd⟩, hi⟩ := ht
 have hl : (loadCells ⟨g, off, none⟩ vs.length).run Tryz.prog w = .ok vs.toArray w :=
  run_loadCells_list (P := Tryz.prog) w ⟨g, off, none⟩ vs (fun j v hj => by
   rw [add_addr]
   refine hv.cell (off + j) ?_
   have hlt := (List.getElem?_eq_some_iff.1 hj).1
   rw [← hvs, List.getElem?_take, if_pos hlt, List.getElem?_drop] at hj
   exact hj)
 cases hq : Tryz.prog.info? ty with
 | none => simp [hq] at hi
 | some i =>
  have hs : i.size = vs.length := by simpa [hq] using hi
  have hagg : (isAgg ty).run Tryz.prog w = .ok true w := by
   unfold isAgg
   rw [Sem.run_bind, run_underlying hu w]
   cases d <;> simp_all
  simp [loadVar, Sem.run_bind, hagg, sizeOf, typeInfo, hq, hs, hl]
theorem setRow_vb (hv : Vb T w g cs) (hl : cs.length = vs.length) : Vb T (w.setRow g vs.toArray) g vs := by
 have := setRow_heap w g cs.toArray vs.toArray T (0, 0) hv
 exact this
theorem setRow_grown (w : World) (g : Nat) (vs : Array Value) : w.grownBy (w.setRow g vs) (some g) :=
 ⟨rfl, rfl, rfl, by simp [World.setRow], fun k _ hk => by
  unfold World.setRow
  simp only [Array.getElem?_modify]
  rw [if_neg (fun e => hk (by rw [e]))]⟩
theorem setRow_size (w : World) (g : Nat) (vs : Array Value) : (w.setRow g vs).heap.size = w.heap.size := by simp [World.setRow]
variable {ops : Array Oper} {rest : List Oper} {o : Oper} {a : Act} {Q : Exit → Act → World → Prop}
theorem wpList_load_vb (hgd : o.guard = none) (x : Operand) (ho : o.op = .load ty x) (hx : a.eval x = .pointer (some ⟨g, off, none⟩)) (hv : Vb T w g cs) (hvs : (cs.drop off).take vs.length = vs) (ht : Agg ty vs.length)
  (h : wpList Tryz.prog ops Q rest (a.put o.dst (.agg vs.toArray)) w) : wpList Tryz.prog ops Q (o :: rest) a w := by
 refine wpList_plain hgd fun K hK => ?_
 unfold Oper.wp execOp
 simp only [ho, hx, Instr.loadAt, Instr.sureAddr, Sem.run_bind, Sem.run_pure, Result.andThen_ok, run_loadVb hv hvs ht]
 exact hK _ _ h
theorem wpList_store_vb (hgd : o.guard = none) (x y : Operand) (ho : o.op = .store ty x y) (hx : a.eval x = .pointer (some ⟨g, 0, none⟩)) (hy : a.eval y = .agg vs.toArray) (hv : Vb T w g cs) (hl : cs.length = vs.length) (ht : Agg ty vs.length)
  (h1 : vs.all (·.oneCell') = true)
  (h : ∀ w', Vb T w' g vs → w.grownBy w' (some g) → w'.heap.size = w.heap.size → wpList Tryz.prog ops Q rest (a.put o.dst undef) w') : wpList Tryz.prog ops Q (o :: rest) a w :=
 wpList_store_row hgd ty x y ho g vs.toArray hx hy T cs.toArray hv (by simpa using ht.2) (by simpa using hl) (by simpa using h1) (h _ (setRow_vb hv hl) (setRow_grown _ _ _) (setRow_size _ _ _))
theorem wpList_store_new {w0 : World} {old : Array Value} (hgd : o.guard = none) (x y : Operand) (ho : o.op = .store ty x y) (hx : a.eval x = .pointer (some ⟨g, 0, none⟩)) (hy : a.eval y = .agg vs.toArray) (hw : w = w0.alloc (.cells old T)) (hg : g = w0.heap.size)
  (hl : old.size = vs.length) (ht : Agg ty vs.length) (h1 : vs.all (·.oneCell') = true)
  (h : ∀ w', Vb T w' g vs → Below w0.heap.size w0 w' → w'.heap.size = w0.heap.size + 1 → wpList Tryz.prog ops Q rest (a.put o.dst undef) w') : wpList Tryz.prog ops Q (o :: rest) a w := by
 subst hw hg
 have hv : Vb T (w0.alloc (.cells old T)) w0.heap.size old.toList := by have := Vb.new T w0 old.toList; simpa using this
 refine wpList_store_vb hgd x y ho hx hy hv (by simpa using hl) ht h1 (fun w' h1 h2 h3 => h w' h1 ?_ (by rw [h3]; simp))
 exact (below_alloc w0 _).grown h2 (by simp) (fun k e => by simp at e; omega)
end
theorem results_pair {fn : Func} {p r : Tmp} {T ty : TypeId} {w : World} {g : Nat} {vs : List Value} (h : fn.results = #[.cell p ty, .tmp r]) (tmps : Array Value) (hp : tmps.getD p undef = .pointer (some ⟨g, 0, none⟩)) (hv : Vb T w g vs) (ht : Agg ty vs.length) :
  (results fn tmps).run Tryz.prog w = .ok (.tuple #[.agg vs.toArray, tmps.getD r undef]) w := by
 have hp' : tmps[p]?.getD undef = .pointer (some ⟨g, 0, none⟩) := by simpa using hp
 have hl : (loadVar ty ⟨g, 0, none⟩).run Tryz.prog w = .ok (.agg vs.toArray) w := run_loadVb hv (by simp) ht
 simp [results, h, hp', asAddr, hl]
theorem results_one {fn : Func} {p : Tmp} {T ty : TypeId} {w : World} {g : Nat} {vs : List Value} (h : fn.results = #[.cell p ty]) (tmps : Array Value) (hp : tmps.getD p undef = .pointer (some ⟨g, 0, none⟩)) (hv : Vb T w g vs) (ht : Agg ty vs.length) :
  (results fn tmps).run Tryz.prog w = .ok (.agg vs.toArray) w := by
 have hp' : tmps[p]?.getD undef = .pointer (some ⟨g, 0, none⟩) := by simpa using hp
 have hl : (loadVar ty ⟨g, 0, none⟩).run Tryz.prog w = .ok (.agg vs.toArray) w := run_loadVb hv (by simp) ht
 simp [results, h, hp', asAddr, hl]
theorem takeD {P : Program} {md : Region.Mode} {ops : Array Oper} {Q : Exit → Act → World → Prop} {S : World → Prop} {i : Nat} {oi : Oper} {v : Value} {fuel : Nat} {listed : Array Bool} {a : Act} {w : World} (d : Option Tmp) (hi : ops[i]? = some oi) (hd : oi.dst = d)
  (hs : Region.noSelect ops = true) (hf : Region.free md ops listed i = true) (hr : (Region.ready md ops listed).contains i = true)
  (hQ : ∀ c a w, Q (.panic c) (a.put d v) w → Q (.panic c) a w) (hy : YieldsIf P ops S oi v a) (hS : S w)
  (h : wpAnyH P md ops Q S fuel (listed.setIfInBounds i true) (a.put d v) w) : wpAnyH P md ops Q S (fuel + 1) listed a w := by
 subst hd
 exact wpAnyH_take hi hs hf hr hQ hy hS h
theorem zA {α : Type} {l : List α} {i : Nat} {a : α} : l.toArray.setIfInBounds i a = (l.set i a).toArray := by simp
theorem zB {α : Type} {a b : α} {l : List α} : (a :: l).set 0 b = b :: l := rfl
theorem zC {α : Type} {a b : α} {l : List α} {n : Nat} : (a :: l).set (n + 1) b = a :: l.set n b := rfl
theorem tD {P : Program} {md : Region.Mode} {ops : Array Oper} {Q : Exit → Act → World → Prop} {S : World → Prop} {oi : Oper} {fuel : Nat} {listed : Array Bool} {a : Act} {w : World} (i : Nat) (v : Value) (d : Tmp) (hi : ops[i]? = some oi) (hd : oi.dst = some d) (hS : S w)
  (hy : ∀ w', S w' → (execOp a.eval oi).run P w' = .ok (.value v) w') (h : wpAnyH P md ops Q S fuel (listed.setIfInBounds i true) (a.put (some d) v) w)
  (hw : Region.wanted oi (yielded ops a.tmps) = true := by rfl) (hs : Region.noSelect ops = true := by kernel_rfl) (hf : Region.free md ops listed i = true := by kernel_rfl) (hr : (Region.ready md ops listed).contains i = true := by kernel_rfl)
  (hQ : ∀ c a w, Q (.panic c) (a.put (some d) v) w → Q (.panic c) a w := by exact fun _ _ _ h => h) : wpAnyH P md ops Q S (fuel + 1) listed a w :=
 takeD (some d) hi hd hs hf hr hQ (Or.inl ⟨hw, hy⟩) hS h
theorem tU {P : Program} {md : Region.Mode} {ops : Array Oper} {Q : Exit → Act → World → Prop} {S : World → Prop} {oi : Oper} {fuel : Nat} {listed : Array Bool} {a : Act} {w : World} (i : Nat) (d : Tmp) (hi : ops[i]? = some oi) (hd : oi.dst = some d) (hS : S w)
  (h : wpAnyH P md ops Q S fuel (listed.setIfInBounds i true) (a.put (some d) undef) w)
  (hw : Region.wanted oi (yielded ops a.tmps) = false := by rfl) (hs : Region.noSelect ops = true := by kernel_rfl) (hf : Region.free md ops listed i = true := by kernel_rfl) (hr : (Region.ready md ops listed).contains i = true := by kernel_rfl)
  (hQ : ∀ c a w, Q (.panic c) (a.put (some d) undef) w → Q (.panic c) a w := by exact fun _ _ _ h => h) : wpAnyH P md ops Q S (fuel + 1) listed a w :=
 takeD (some d) hi hd hs hf hr hQ (Or.inr ⟨hw, rfl⟩) hS h
theorem rD {P : Program} {md : Region.Mode} {ops : Array Oper} {Q : Exit → Act → World → Prop} {S : World → Prop} {fuel : Nat} {listed : Array Bool} {a : Act} {w : World} {o : Oper} (r : Nat) (ho : ops[r]? = some o)
  (h : ∀ K' : Act → World → Prop, Shut (∀ a w, S w → (S w → wpAnyH P md ops Q S fuel (listed.setIfInBounds r true) a w) → K' a w) → if Region.wanted o (yielded ops a.tmps) = true then Oper.wp P o a w K' Q else K' (a.put o.dst undef) w)
  (hr : Region.ready md ops listed = [r] := by kernel_rfl) : wpAnyH P md ops Q S (fuel + 1) listed a w :=
 wpAnyH_ready hr (by simp) (AllReadyH.cons ho h AllReadyH.nil)
def putC (w : World) (g : Nat) : Nat → List Value → World
 | _, [] => w
 | o, v :: vs => putC (w.setCell ⟨g, o, none⟩ v) g (o + 1) vs
def setAll (cs : List Value) : Nat → List Value → List Value
 | _, [] => cs
 | o, v :: vs => setAll (cs.set o v) (o + 1) vs
theorem putC_grown (g : Nat) : ∀ (vs : List Value) (w : World) (o : Nat), w.grownBy (putC w g o vs) (some g)
 | [], w, o => World.grownBy.refl _ _
 | v :: vs, w, o => (grownBy_set w g o v).trans (putC_grown g vs _ _)
theorem Vb.putC {T : TypeId} {g : Nat} : ∀ (vs : List Value) {w : World} {cs : List Value} (o : Nat), Vb T w g cs → Vb T (Oct.putC w g o vs) g (setAll cs o vs)
 | [], _, _, _, h => h
 | v :: vs, _, _, o, h => Vb.putC vs (o + 1) (h.set o v)
theorem putC_size (g : Nat) (vs : List Value) (w : World) (o : Nat) : (putC w g o vs).heap.size = w.heap.size := by
 induction vs generalizing w o with
 | nil => rfl
 | cons v vs ih => rw [putC, ih]; simp [World.setCell]
section
variable {T ty : TypeId} {w : World} {g off : Nat} {cs vs : List Value} {ops : Array Oper} {rest : List Oper} {o : Oper} {a : Act} {Q : Exit → Act → World → Prop}
theorem run_storeCells_vb (T : TypeId) (g : Nat) : ∀ (vs : List Value) (i off : Nat) (cs : List Value) (w : World), Vb T w g cs → off + i + vs.length ≤ cs.length → (vs.all (·.oneCell') = true) →
  (storeCells ⟨g, off, none⟩ vs i).run Tryz.prog w = .ok () (putC w g (off + i) vs)
 | [], i, off, cs, w, hv, hl, h1 => rfl
 | v :: rest, i, off, cs, w, hv, hl, h1 => by
  simp only [List.all_cons, Bool.and_eq_true] at h1
  have hi : off + i < cs.length := by simp at hl; omega
  have hcell : w.cell? ⟨g, off + i, none⟩ = some cs[off + i] := hv.cell _ (List.getElem?_eq_getElem hi)
  have hst : (store ((⟨g, off, none⟩ : Addr).add i) v).run Tryz.prog w = .ok () (w.setCell ⟨g, off + i, none⟩ v) := by
   rw [add_addr, run_store Tryz.prog w _ v _ h1.1, hcell]
   simp [hv.free (off + i)]
  have ih := run_storeCells_vb T g rest (i + 1) off (cs.set (off + i) v) _ (hv.set (off + i) v) (by simp at hl ⊢; omega) h1.2
  simp only [storeCells, Sem.run_bind, hst, Result.andThen_ok, ih]
  rfl
theorem wpList_store_at (hgd : o.guard = none) (x y : Operand) (ho : o.op = .store ty x y) (hx : a.eval x = .pointer (some ⟨g, off, none⟩)) (hy : a.eval y = .agg vs.toArray) (hv : Vb T w g cs) (hl : off + vs.length ≤ cs.length) (ht : Agg ty vs.length)
  (h1 : vs.all (·.oneCell') = true)
  (h : ∀ w', Vb T w' g (setAll cs off vs) → w.grownBy w' (some g) → w'.heap.size = w.heap.size → wpList Tryz.prog ops Q rest (a.put o.dst undef) w') : wpList Tryz.prog ops Q (o :: rest) a w := by
 refine wpList_plain hgd fun K hK => ?_
 have hst := run_storeCells_vb T g vs 0 off cs w hv (by omega) h1
 have hi : (Tryz.prog.info? ty).map (·.size) = some vs.length := ht.2
 have hrun : (storeVar ty ⟨g, off, none⟩ (.agg vs.toArray)).run Tryz.prog w = .ok () (putC w g off vs) := by
  cases hq : Tryz.prog.info? ty with
  | none => simp [hq] at hi
  | some i =>
   have hs : vs.length = i.size := by simp [hq] at hi; omega
   simp [storeVar, sizeOf, typeInfo, hq, Value.cells, hs, hst]
 unfold Oper.wp execOp
 simp only [ho, hx, hy, Instr.storeAt, Instr.sureAddr, Sem.run_bind, Sem.run_pure, Result.andThen_ok, hrun]
 exact hK _ _ (h _ (hv.putC vs off) (putC_grown g vs w off) (putC_size g vs w off))
end
end Go.Proofs.YtnoflfbcgbhipaaGreat.Oct
