/- Put of numbers that stand in a list literal, as a call from any world. -/
import Derived.Test.YteambkehdbffmaaGreatOctZ
namespace Go.Proofs.YteambkehdbffmaaGreat.Oct
open Go.RowKit
set_option linter.unusedVariables false

theorem PairOf.mono {l : List Int} {e : Int} {w wa : World} {en : Ending} {w' : World} (h : PairOf l e wa en w') (hb : Below w.heap.size w wa) : PairOf l e w en w' := by
  obtain ⟨A, n, c, he, ho, hb'⟩ := h
  exact ⟨A, n, c, he, ho.lower hb.size, hb.trans (hb'.mono hb.size)⟩
theorem put_lit {w : World} {B : Nat} {A : Option Addr} {n c : Nat} {l : List Int} (s : Int) (ls : List Int) (h : Rd .u8 w B A n c l) (hB : B ≤ w.heap.size) (hm : ls.length ≤ 1000) (hs : n ≤ 140737488300000) :
    Calls Tryz.prog 26 #[.slice A n c, .int .i64 s, .slice (some ⟨w.heap.size, 0, none⟩) ls.length ls.length] (w.alloc (.cells (ls.map (Value.int .i64)).toArray 3)) (PairOf (putP l s ls).1 (putP l s ls).2 w) := by
  have h2 := rd_lit .i64 w 3 ls (by unfold maxLen; omega) (w.heap.size + 1) (by omega)
  have hb := below_alloc w (.cells (ls.map (Value.int .i64)).toArray 3)
  exact (put_any s (h.below' hb hB) h2 (by simp; omega) (by simp) (by omega)).mono (fun en w' h => h.mono hb)
theorem refPut_lit {w : World} {B : Nat} {A : Option Addr} {n c : Nat} {l : List Int} (s : Int) (ls : List Int) (h : Rd .u8 w B A n c l) (hB : B ≤ w.heap.size) (hm : ls.length ≤ 1000) (hs : n ≤ 140737488300000) :
    Calls Tryz.prog 30 #[.slice A n c, .int .i64 s, .slice (some ⟨w.heap.size, 0, none⟩) ls.length ls.length] (w.alloc (.cells (ls.map (Value.int .i64)).toArray 3)) (PairOf (putP l s ls).1 (putP l s ls).2 w) := by
  have h2 := rd_lit .i64 w 3 ls (by unfold maxLen; omega) (w.heap.size + 1) (by omega)
  have hb := below_alloc w (.cells (ls.map (Value.int .i64)).toArray 3)
  exact (refPut_any s (h.below' hb hB) h2 (by simp; omega) (by simp) (by omega)).mono (fun en w' h => h.mono hb)
end Go.Proofs.YteambkehdbffmaaGreat.Oct
