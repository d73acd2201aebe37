/- What is put is read: the pieces, plain; the contracts for one of them. -/
import Derived.Test.YtefohkhipnikhaaOctR
namespace Go.Proofs.Ytefohkhipnikhaa.Oct
open Go.RowKit
set_option linter.unusedVariables false

def szk (k : Nat) : Nat := if k % 3 = 0 then 1 else if k % 3 = 1 then 2 else 4
def pc (ls : List Int) (k : Nat) : List Int := dg (szk k) (Ser.bringP (ls.getD k 0) (2 ^ (8 * szk k)))
def accL (ls : List Int) (k : Nat) : List Int := (List.range k).flatMap (pc ls)
def restL (ls tail : List Int) : Nat → Nat → List Int
  | 0, _ => tail
  | j + 1, k => pc ls k ++ restL ls tail j (k + 1)
theorem szk_le (k : Nat) : szk k ≤ 4 := by
  unfold szk
  split
  · omega
  · split <;> omega
theorem accL_zero (ls : List Int) : accL ls 0 = [] := rfl
theorem accL_succ (ls : List Int) (k : Nat) : accL ls (k + 1) = accL ls k ++ pc ls k := by
  unfold accL; rw [List.range_succ, List.flatMap_append]; simp
theorem accL_len (ls : List Int) : ∀ k, (accL ls k).length ≤ 4 * k
  | 0 => by simp [accL]
  | k + 1 => by
    have := accL_len ls k
    have h := szk_le k
    rw [accL_succ, List.length_append, pc, dg_len]; omega
theorem accL_by (ls : List Int) : ∀ k, By (accL ls k)
  | 0 => By.nil
  | k + 1 => by rw [accL_succ]; exact (accL_by ls k).append (dg_by _ _)
theorem rest_all (ls tail : List Int) : ∀ j k, accL ls k ++ restL ls tail j k = accL ls (k + j) ++ tail
  | 0, k => rfl
  | j + 1, k => by
    have := rest_all ls tail j (k + 1)
    rw [accL_succ, List.append_assoc] at this
    rw [restL, this, show k + 1 + j = k + (j + 1) from by omega]
theorem pc0 (ls : List Int) (k : Nat) (h : k % 3 = 0) : pc ls k = dg 1 (Ser.bringP (ls.getD k 0) 256) := by unfold pc szk; rw [if_pos h]; rfl
theorem pc1 (ls : List Int) (k : Nat) (h : k % 3 = 1) : pc ls k = dg 2 (Ser.bringP (ls.getD k 0) 65536) := by unfold pc szk; rw [if_neg (by omega), if_pos h]; rfl
theorem pc2 (ls : List Int) (k : Nat) (h : k % 3 = 2) : pc ls k = dg 4 (Ser.bringP (ls.getD k 0) 4294967296) := by unfold pc szk; rw [if_neg (by omega), if_neg (by omega)]; rfl

theorem num_dg (t : Nat) (ht : t = 1 ∨ t = 2 ∨ t = 4) (v : Int) (h0 : 0 ≤ v) (h1 : v < 2 ^ (8 * t)) : ((num (dg t v) : Nat) : Int) = v := by
  rcases ht with rfl | rfl | rfl <;> simp [num, dg] at * <;> omega
theorem numR_piece (t : Nat) (ht : t = 1 ∨ t = 2 ∨ t = 4) (v : Int) (h0 : 0 ≤ v) (h1 : v < 2 ^ (8 * t)) (R : List Int) : numR t (dg t v ++ R) 0 = (v, R, 0) := by
  unfold numR
  rw [if_neg (by simp), if_pos (by omega), if_neg (by rw [List.length_append, dg_len]; omega)]
  have e : ((t : Int)).toNat = (dg t v).length := by rw [dg_len]; omega
  rw [e, List.take_left, List.drop_left, num_dg t ht v h0 h1]
theorem textR_piece (s R : List Int) (hs : s.length ≤ 65535) : textR (dg 2 s.length ++ s ++ R) 0 = (s, R, 0) := by
  have e := numR_piece 2 (by omega) (s.length : Nat) (by omega) (by omega) (s ++ R)
  rw [← List.append_assoc] at e
  unfold textR
  rw [show ((2 : Nat) : Int) = 2 from rfl] at e
  rw [e]
  simp
theorem putP_one (l : List Int) (t : Nat) (ht : t = 1 ∨ t = 2 ∨ t = 4) (v : Int) (h0 : 0 ≤ v) (h1 : v < 2 ^ (8 * t)) : putP l t [v] = (l ++ dg t v, 0) := by
  unfold putP
  rw [if_pos (by omega)]
  have e : ((t : Int)).toNat = t := by omega
  rw [e, if_pos (by simp [fitsP, h0, h1])]
  simp

/-- Put of one number that stands in a list literal. -/
theorem put_piece {w : World} {base n c : Nat} {A : Option Addr} {l : List Int} (t : Nat) (T : Int) (hT : T = t) (ht : t = 1 ∨ t = 2 ∨ t = 4) (v : Int) (h0 : 0 ≤ v) (h1 : v < 2 ^ (8 * t)) (ho : Own w base (.slice A n c) n l) (hn : n ≤ 100) :
    Calls Try.prog 16 #[.slice A n c, .int .i64 T, .slice (some ⟨w.heap.size, 0, none⟩) 1 1] ((w.alloc (.cells #[.int .i64 v] 3)).drew) (PairOf (l ++ dg t v) 0 w) := by
  subst hT
  have h2 := (rd_lit .i64 w 3 [v] (by simp [maxLen]) (w.heap.size + 1) (by omega)).drew
  have hr := (ho.rd.below' (below_alloc w (.cells #[.int .i64 v] 3)) (Nat.le_refl _)).drew
  have ez : ((w.alloc (.cells #[.int .i64 v] 3)).drew).heap.size = w.heap.size + 1 := by simp [World.drew]
  refine (put_any t hr h2 (by omega) (by omega) (by simp; omega)).mono ?_
  rw [putP_one l t ht v h0 h1]
  rintro en w' ⟨A', n', c', he, ho', hb'⟩
  refine ⟨A', n', c', he, ho'.lower (by omega), (below_alloc w _).drew.trans (hb'.mono (by omega))⟩
theorem num_piece {w : World} {lo g : Nat} {R : List Int} (t : Nat) (T : Int) (hT : T = t) (ht : t = 1 ∨ t = 2 ∨ t = 4) (v : Int) (h0 : 0 ≤ v) (h1 : v < 2 ^ (8 * t)) (h : Rdr 52 w lo g (dg t v ++ R) 0) :
    Calls Try.prog 30 #[.pointer (some ⟨g, 0, none⟩), .int .i64 T] w (IntRdr 52 w lo g v R 0) := by
  subst hT
  have := num_any (t : Int) h
  rw [numR_piece t ht v h0 h1 R] at this
  exact this

theorem wr8 : IntKind.i64.wrap 8 = 8 := by decide +kernel
theorem wr16 : IntKind.i64.wrap 16 = 16 := by decide +kernel
theorem wr32 : IntKind.i64.wrap 32 = 32 := by decide +kernel
theorem shl8 : Op.shift .shl .i64 1 .i64 8 = pure (.int .i64 256) := by
  rw [shift_shl .i64 .i64 1 8 (by decide) (by decide), show IntKind.i64.wrap (1 * 2 ^ (8 : Int).toNat) = 256 from by decide +kernel]
theorem shl16 : Op.shift .shl .i64 1 .i64 16 = pure (.int .i64 65536) := by
  rw [shift_shl .i64 .i64 1 16 (by decide) (by decide), show IntKind.i64.wrap (1 * 2 ^ (16 : Int).toNat) = 65536 from by decide +kernel]
theorem shl32 : Op.shift .shl .i64 1 .i64 32 = pure (.int .i64 4294967296) := by
  rw [shift_shl .i64 .i64 1 32 (by decide) (by decide), show IntKind.i64.wrap (1 * 2 ^ (32 : Int).toNat) = 4294967296 from by decide +kernel]
/-- The sizes, and what comes behind. -/
abbrev ws3 (w1 : World) : World := w1.alloc (.cells #[.int .i64 1, .int .i64 2, .int .i64 4] 3)
theorem ws3_below {w w1 wr : World} (t1 : Below w.heap.size w w1) (hb : Below (w1.heap.size + 1) (ws3 w1) wr) : Below w.heap.size w wr :=
  bstep t1 ((below_alloc w1 _).trans (hb.mono (by omega))) t1.size
theorem ws3_size {w1 wr : World} (hb : Below (w1.heap.size + 1) (ws3 w1) wr) : w1.heap.size + 1 ≤ wr.heap.size := by have := hb.size; simp at this; exact this
theorem ws3_cells {w1 wr : World} (hb : Below (w1.heap.size + 1) (ws3 w1) wr) : wr.cell? ⟨w1.heap.size, 0, none⟩ = some (.int .i64 1) ∧ wr.cell? ⟨w1.heap.size, 1, none⟩ = some (.int .i64 2) ∧ wr.cell? ⟨w1.heap.size, 2, none⟩ = some (.int .i64 4) := by
  refine ⟨(hb.cell (p := ⟨w1.heap.size, 0, none⟩) (by simp)).trans ?_, (hb.cell (p := ⟨w1.heap.size, 1, none⟩) (by simp)).trans ?_, (hb.cell (p := ⟨w1.heap.size, 2, none⟩) (by simp)).trans ?_⟩ <;> (unfold ws3; rw [World.cell?_alloc_new]; rfl)
theorem cell_one {wr : World} {b o : Nat} {v : Value} (h : wr.cell? ⟨b, o, none⟩ = some v) (hlt : b < wr.heap.size) (ob : Obj) : ((wr.alloc ob).drew).cell? ⟨b, o, none⟩ = some v :=
  ((below_alloc wr ob).drew.cell (p := ⟨b, o, none⟩) hlt).trans h
theorem cell_below {wr w' : World} {b o : Nat} {v : Value} (h : wr.cell? ⟨b, o, none⟩ = some v) (hlt : b < wr.heap.size) (hb : Below wr.heap.size wr w') : w'.cell? ⟨b, o, none⟩ = some v :=
  (hb.cell (p := ⟨b, o, none⟩) hlt).trans h
theorem textP_ok (l s : List Int) (hs : s.length ≤ 400) : textP l s = (l ++ dg 2 s.length ++ s, 0) := by unfold textP; rw [if_neg (by omega)]
end Go.Proofs.Ytefohkhipnikhaa.Oct
