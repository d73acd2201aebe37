/- The law's own datum that may be, made of any. -/
import Derived.Test.YtbgbajamjcohoaaDatG
import Derived.Test.YtbgbajamjcohoaaDatY
import Derived.Test.YtbgbajamjcohoaaBring
namespace Go.Proofs.Ytbgbajamjcohoaa.Oct
open Go.RowKit
set_option linter.unusedVariables false

/-- A datum alone is answered; only new memory. -/
def DatumOf (v h i a b c : Int) (w : World) (en : Ending) (w' : World) : Prop := en = .returned (.agg #[.int .i64 v, .int .i64 h, .int .i64 i, .int .u8 a, .int .u8 b, .int .u8 c]) ∧ Below w.heap.size w w'
theorem made_ok (v h i : Int) : okD (Ser.bringP v 201) (Ser.bringP h 13) (Ser.bringP i 4294967296) := by
  have h1 := Ser.bringP_bd v 201 (by omega)
  have h2 := Ser.bringP_bd h 13 (by omega)
  have h3 := Ser.bringP_bd i 4294967296 (by omega)
  exact ⟨by omega, by omega, by omega⟩
theorem still_bring (n m : Int) (w : World) (hm : 0 < m) (hm' : m ≤ 4294967296) :
    Calls Try.prog 20 #[.int .i64 n, .int .i64 m] w.drew fun e w'' => e = .returned (.int .i64 (Ser.bringP n m)) ∧ w'' = w.drew :=
  (Ser.bring_any n m w.drew hm hm').mono (fun _ _ ⟨h1, h2⟩ => ⟨h1, h2.symm⟩)

set_option maxRecDepth 100000 in
set_option maxHeartbeats 1600000 in
theorem made_any (v h i a b c : Int) (w : World) :
    Calls Try.prog 18 #[.agg #[.int .i64 v, .int .i64 h, .int .i64 i, .int .u8 a, .int .u8 b, .int .u8 c]] w (DatumOf (Ser.bringP v 201) (Ser.bringP h 13) (Ser.bringP i 4294967296) a b c w) := by
  go_enter Try.func18, Try.ntmps18
  go_wp2_with fail
  have t0 := below_two w (.cells #[.int .i64 v, .int .i64 h, .int .i64 i, .int .u8 a, .int .u8 b, .int .u8 c] 25) (.cells #[.int .i64 0, .int .i64 0, .int .i64 0, .int .u8 0, .int .u8 0, .int .u8 0] 25)
  have hx0 := (Bk.new w v h i a b c).below (below_alloc (w.alloc (.cells #[.int .i64 v, .int .i64 h, .int .i64 i, .int .u8 a, .int .u8 b, .int .u8 c] 25)) (.cells #[.int .i64 0, .int .i64 0, .int .i64 0, .int .u8 0, .int .u8 0, .int .u8 0] 25)) (by simp)
  have hr0 := Bk.new (w.alloc (.cells #[.int .i64 v, .int .i64 h, .int .i64 i, .int .u8 a, .int .u8 b, .int .u8 c] 25)) 0 0 0 0 0 0
  rw [alloc_size] at hr0
  generalize ((w.alloc (.cells #[.int .i64 v, .int .i64 h, .int .i64 i, .int .u8 a, .int .u8 b, .int .u8 c] 25)).alloc (.cells #[.int .i64 0, .int .i64 0, .int .i64 0, .int .u8 0, .int .u8 0, .int .u8 0] 25)) = w1 at *
  have hxd : Bk w1.drew w.heap.size v h i a b c := hx0
  obtain ⟨d0, d1, d2, d3, d4, d5⟩ := hxd.cells
  go_still_tail 12, (by kernel_rfl)
  refine wpStill_step (fun K hK => ?_)
  go_simp
  refine ⟨_, still_bring _ _ _ (by omega) (by omega), hK _ ?_⟩
  clear hK K
  repeat still_step
  refine wpStill_step (fun K hK => ?_)
  go_simp
  refine ⟨_, still_bring _ _ _ (by omega) (by omega), hK _ ?_⟩
  clear hK K
  repeat still_step
  refine wpStill_step (fun K hK => ?_)
  go_simp
  refine ⟨_, still_bring _ _ _ (by omega) (by omega), hK _ ?_⟩
  clear hK K
  repeat still_step
  refine wpStill_nil ?_
  generalize Ser.bringP v 201 = v' at *
  generalize Ser.bringP h 13 = h' at *
  generalize Ser.bringP i 4294967296 = i' at *
  have hkc : Bk w1.drew (w.heap.size + 1) 0 0 0 0 0 0 := hr0
  have hTc : Below w.heap.size w w1.drew := t0.drew
  clear d0 d1 d2 d3 d4 d5 hxd hx0 hr0 t0
  change wpList _ _ _ _ _ w1.drew
  generalize w1.drew = wc at *
  obtain ⟨d0, d1, d2, d3, d4, d5⟩ := hkc.cells
  have hf := hkc.free
  go_wp2_with fail
  have hk9 := (hkc.put v' h' i' a b c).cells
  have hT9 := putD_below hTc (Nat.le_succ _) v' h' i' a b c
  clear d0 d1 d2 d3 d4 d5 hf
  obtain ⟨d0, d1, d2, d3, d4, d5⟩ := hk9
  change bodyPost _ _ _ _ _ (putD wc (w.heap.size + 1) v' h' i' a b c)
  generalize putD wc (w.heap.size + 1) v' h' i' a b c = wd at *
  refine bodyPost_ret (v := .agg #[.int .i64 v', .int .i64 h', .int .i64 i', .int .u8 a, .int .u8 b, .int .u8 c]) (by simp [results, Try.results18, go_sem, d0, d1, d2, d3, d4, d5]) rfl ?_
  exact ⟨rfl, hT9⟩
end Go.Proofs.Ytbgbajamjcohoaa.Oct
