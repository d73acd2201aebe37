/- Contracts of layer 6: what an order of a kind has. -/
import Derived.Test.YteambkehdbffmaaGreatOrdB
import Derived.MapKept
import Derived.StillTailTactics
namespace Go.Proofs.YteambkehdbffmaaGreat.Oct
open Go.RowKit
set_option linter.unusedVariables false
set_option linter.unusedSimpArgs false

/-- A number that an order has: where it stands, its bytes, its ends. -/
structure NumV where
  at_ : Nat
  s : Int
  lo : Int
  hi : Int
def numsOf (k : Int) : List NumV :=
  if k = 4 then [⟨1, 1, 0, 200⟩] else if k = 5 then [⟨1, 1, 1, 4⟩, ⟨2, 2, 0, 65535⟩] else if k = 6 then [⟨1, 4, 0, 4294967295⟩] else if k = 7 then [⟨1, 4, 0, 4294967295⟩, ⟨2, 2, 0, 65535⟩] else
  if k = 9 then [⟨1, 1, 1, 4⟩, ⟨2, 1, 0, 1⟩] else []
def ruP (k : Int) (g : Nat) : Option Addr := if k = 2 ∨ k = 3 then some ⟨g, 3, none⟩ else none
def prP (k : Int) (g : Nat) : Option Addr := if k = 8 then some ⟨g, 16, none⟩ else none
def isK (k : Int) : Bool := decide (1 ≤ k ∧ k ≤ 9)
/-- The slice (A, n, n) reads as these numbers of the order in block g; it lies in a block from lo on. -/
def Rn (w : World) (lo g : Nat) (A : Option Addr) (n : Nat) (us : List NumV) : Prop :=
  us.length = n ∧ n ≤ 2 ∧ (0 < n → ∃ b, A = some ⟨b, 0, none⟩ ∧ lo ≤ b ∧ b < w.heap.size ∧ ∀ j u, us[j]? = some u →
    w.cell? ⟨b, j * 4, none⟩ = some (.pointer (some ⟨g, u.at_, none⟩)) ∧ w.cell? ⟨b, j * 4 + 1, none⟩ = some (.int .i64 u.s) ∧ w.cell? ⟨b, j * 4 + 2, none⟩ = some (.int .i64 u.lo) ∧ w.cell? ⟨b, j * 4 + 3, none⟩ = some (.int .i64 u.hi))
theorem Rn.keep {w w' : World} {lo g n : Nat} {A : Option Addr} {us : List NumV} (h : Rn w lo g A n us) (hz : w.heap.size ≤ w'.heap.size) (hk : ∀ b, lo ≤ b → b < w.heap.size → w'.heap[b]? = w.heap[b]?) : Rn w' lo g A n us :=
  ⟨h.1, h.2.1, fun hn => by
    obtain ⟨b, e, h1, h2, hc⟩ := h.2.2 hn
    refine ⟨b, e, h1, by omega, fun j u hj => ?_⟩
    have := hc j u hj
    simp only [World.cell?_of_block (w := w) (w' := w') (a := ⟨b, _, none⟩) (hk b h1 h2)]
    exact this⟩
theorem Rn.below {w w' : World} {lo g n : Nat} {A : Option Addr} {us : List NumV} (h : Rn w lo g A n us) (hb : Below w.heap.size w w') : Rn w' lo g A n us := h.keep hb.size (fun b _ h2 => hb.block b h2)
theorem Rn.grown {w w' : World} {lo g n r : Nat} {A : Option Addr} {us : List NumV} (h : Rn w lo g A n us) (hg : w.grownBy w' (some r)) (hr : r < lo) : Rn w' lo g A n us := h.keep hg.size (fun b h1 h2 => hg.block b h2 (by simp; omega))
theorem Rn.lower {w : World} {lo lo' g n : Nat} {A : Option Addr} {us : List NumV} (h : Rn w lo g A n us) (hl : lo' ≤ lo) : Rn w lo' g A n us :=
  ⟨h.1, h.2.1, fun hn => by
    obtain ⟨b, e, h1, h2, hc⟩ := h.2.2 hn
    exact ⟨b, e, by omega, h2, hc⟩⟩
theorem Rn.nil (w : World) (lo g : Nat) : Rn w lo g none 0 [] := ⟨rfl, by omega, fun h => absurd h (by omega)⟩
theorem Rn.one {w : World} {lo g b : Nat} {u : NumV} (hv : Vb 97 w b [.pointer (some ⟨g, u.at_, none⟩), .int .i64 u.s, .int .i64 u.lo, .int .i64 u.hi]) (hl : lo ≤ b) : Rn w lo g (some ⟨b, 0, none⟩) 1 [u] :=
  ⟨rfl, by omega, fun _ => ⟨b, rfl, hl, hv.lt, fun j x hj => by
    match j, hj with
    | 0, hj => simp at hj; subst hj; exact ⟨hv.cell 0 rfl, hv.cell 1 rfl, hv.cell 2 rfl, hv.cell 3 rfl⟩⟩⟩
theorem Rn.two {w : World} {lo g b : Nat} {u v : NumV} (hv : Vb 97 w b [.pointer (some ⟨g, u.at_, none⟩), .int .i64 u.s, .int .i64 u.lo, .int .i64 u.hi, .pointer (some ⟨g, v.at_, none⟩), .int .i64 v.s, .int .i64 v.lo, .int .i64 v.hi]) (hl : lo ≤ b) : Rn w lo g (some ⟨b, 0, none⟩) 2 [u, v] :=
  ⟨rfl, by omega, fun _ => ⟨b, rfl, hl, hv.lt, fun j x hj => by
    match j, hj with
    | 0, hj => simp at hj; subst hj; exact ⟨hv.cell 0 rfl, hv.cell 1 rfl, hv.cell 2 rfl, hv.cell 3 rfl⟩
    | 1, hj => simp at hj; subst hj; exact ⟨hv.cell 4 rfl, hv.cell 5 rfl, hv.cell 6 rfl, hv.cell 7 rfl⟩⟩⟩
/-- What a method answers. -/
def PartsIs (k : Int) (g : Nat) (w : World) (e : Ending) (w' : World) : Prop :=
  ∃ A n, e = .returned (.agg #[.slice A n n, .pointer (ruP k g), .pointer (prP k g)]) ∧ Rn w' w.heap.size g A n (numsOf k) ∧ Below w.heap.size w w'
def PartsAre (k : Int) (g : Nat) (w : World) (e : Ending) (w' : World) : Prop :=
  ∃ A n, e = .returned (.tuple #[.agg #[.slice A n n, .pointer (ruP k g), .pointer (prP k g)], .bool (isK k)]) ∧ Rn w' w.heap.size g A n (numsOf k) ∧ Below w.heap.size w w'

/-- The map of what each kind has, so far. -/
def mapE : List (Int × Nat) → Nat → List MapEntry
  | [], _ => []
  | (k, f) :: r, i => ⟨.int .i64 k, .func (.func f) #[] #[], i⟩ :: mapE r (i + 1)
def mapW (w : World) (es : List (Int × Nat)) : World := w.alloc (.map (mapE es 0).toArray es.length)
theorem run_mk (w : World) : (Instr.makeMap 95 none).run Tryz.prog w = .ok (.map (some w.heap.size)) (mapW w []) := rfl
theorem mapE_snoc (k : Int) (f : Nat) : ∀ (es : List (Int × Nat)) (i : Nat), mapE (es ++ [(k, f)]) i = mapE es i ++ [⟨.int .i64 k, .func (.func f) #[] #[], i + es.length⟩]
  | [], i => rfl
  | (k', f') :: r, i => by
    show _ :: mapE (r ++ [(k, f)]) (i + 1) = _
    rw [mapE_snoc k f r (i + 1)]
    simp only [List.length_cons, List.cons_append, mapE]
    rw [show i + 1 + r.length = i + (r.length + 1) from by omega]
theorem run_in (w : World) (es : List (Int × Nat)) (k : Int) (f : Nat) (hk : Instr.findNow (.int .i64) (.int .i64 k) (mapE es 0) 0 = some none) :
    (Instr.mapUpdate 95 (.map (some w.heap.size)) (.int .i64 k) (.func (.func f) #[] #[])).run Tryz.prog (mapW w es) = .ok () (mapW w (es ++ [(k, f)])) := by
  have hb : (mapW w es).heap[w.heap.size]? = some (.map (mapE es 0).toArray es.length) := (MapKept.heap_alloc w _).1
  have e : ({ (mapW w es) with heap := (mapW w es).heap.setIfInBounds w.heap.size (.map ((mapE es 0).toArray.push ⟨.int .i64 k, .func (.func f) #[] #[], es.length⟩) (es.length + 1)) } : World) = mapW w (es ++ [(k, f)]) := by
    have ea : (w.heap.push (Obj.map (mapE es 0).toArray es.length)).setIfInBounds w.heap.size (Obj.map ((mapE es 0).toArray.push ⟨.int .i64 k, .func (.func f) #[] #[], es.length⟩) (es.length + 1)) = w.heap.push (Obj.map (mapE (es ++ [(k, f)]) 0).toArray (es ++ [(k, f)]).length) := by
      apply Array.ext'
      simp [mapE_snoc]
    unfold mapW World.alloc
    simp only [ea]
  rw [← e]
  simp [Instr.mapUpdate, run_underlying Tryz.underlying95, MapKept.run_getObj_map hb, MapKept.run_checkKey Tryz.underlying3 (show MapKept.IsKey (.int .i64) (.int .i64 k) from rfl), MapKept.run_findKey Tryz.underlying3 hk, MapKept.run_setObj_map _ hb, Result.andThen]
theorem run_look (w : World) (es : List (Int × Nat)) (k : Int) (r : Option (Nat × Value)) (hk : Instr.findNow (.int .i64) (.int .i64 k) (mapE es 0) 0 = some r) :
    (Instr.lookup 95 (.map (some w.heap.size)) (.int .i64 k) true).run Tryz.prog (mapW w es) = .ok (.tuple #[(match r with | some x => x.2 | none => .nilFunc), .bool r.isSome]) (mapW w es) := by
  have hb : (mapW w es).heap[w.heap.size]? = some (.map (mapE es 0).toArray es.length) := (MapKept.heap_alloc w _).1
  have hz : (zeroValue 92).run Tryz.prog (mapW w es) = .ok (.nilFunc) (mapW w es) := by kernel_rfl
  cases r with
  | none => simp [Instr.lookup, run_underlying Tryz.underlying95, MapKept.run_getObj_map hb, MapKept.run_checkKey Tryz.underlying3 (show MapKept.IsKey (.int .i64) (.int .i64 k) from rfl), MapKept.run_findKey Tryz.underlying3 hk, hz, Result.andThen]
  | some x => simp [Instr.lookup, run_underlying Tryz.underlying95, MapKept.run_getObj_map hb, MapKept.run_checkKey Tryz.underlying3 (show MapKept.IsKey (.int .i64) (.int .i64 k) from rfl), MapKept.run_findKey Tryz.underlying3 hk, Result.andThen]

set_option maxRecDepth 100000 in
set_option maxHeartbeats 1600000 in
theorem m_nothing (g : Nat) (w : World) : Calls Tryz.prog 59 #[.pointer (some ⟨g, 0, none⟩)] w (PartsIs 1 g w) := by
  go_enter Tryz.func59, Tryz.ntmps59
  go_wp2_with fail
  refine bodyPost_ret (v := .agg #[.slice none 0 0, .pointer none, .pointer none]) (by simp [results, Tryz.results59, go_sem]) rfl ?_
  exact ⟨none, 0, rfl, Rn.nil _ _ _, below_alloc w _⟩
set_option maxRecDepth 100000 in
set_option maxHeartbeats 1600000 in
theorem m_rule (g : Nat) (w : World) (k : Int) (hk : k = 2 ∨ k = 3) : Calls Tryz.prog 60 #[.pointer (some ⟨g, 0, none⟩)] w (PartsIs k g w) := by
  have hr : ruP k g = some ⟨g, 3, none⟩ := if_pos hk
  have hq : prP k g = none := if_neg (by omega)
  have hn : numsOf k = [] := by unfold numsOf; rw [if_neg (by omega), if_neg (by omega), if_neg (by omega), if_neg (by omega), if_neg (by omega)]
  have HR := Kp.mk (And.intro hr (And.intro hq hn))
  clear hr hq hn hk
  go_enter Tryz.func60, Tryz.ntmps60
  go_wp2_with fail
  refine bodyPost_ret (v := .agg #[.slice none 0 0, .pointer (some ⟨g, 3, none⟩), .pointer none]) (by simp [results, Tryz.results60, go_sem]) rfl ?_
  refine ⟨none, 0, by rw [HR.out.1, HR.out.2.1], by rw [HR.out.2.2]; exact Rn.nil _ _ _, below_alloc w _⟩
set_option maxRecDepth 100000 in
set_option maxHeartbeats 1600000 in
theorem m_tag (g : Nat) (w : World) : Calls Tryz.prog 61 #[.pointer (some ⟨g, 0, none⟩)] w (PartsIs 4 g w) := by
  go_enter Tryz.func61, Tryz.ntmps61
  go_wp2_with fail
  have hv := Vb.new 97 (w.alloc (.cells #[.slice (some ⟨w.heap.size + 1, 0, none⟩) 1 1, .pointer none, .pointer none] 65)) [.pointer (some ⟨g, 1, none⟩), .int .i64 1, .int .i64 0, .int .i64 200]
  rw [alloc_size] at hv
  refine bodyPost_ret (v := .agg #[.slice (some ⟨w.heap.size + 1, 0, none⟩) 1 1, .pointer none, .pointer none]) (by simp [results, Tryz.results61, go_sem]) rfl ?_
  exact ⟨_, 1, rfl, Rn.one (u := ⟨1, 1, 0, 200⟩) hv (by omega), below_two w _ _⟩
set_option maxRecDepth 100000 in
set_option maxHeartbeats 1600000 in
theorem m_probe (g : Nat) (w : World) : Calls Tryz.prog 62 #[.pointer (some ⟨g, 0, none⟩)] w (PartsIs 5 g w) := by
  go_enter Tryz.func62, Tryz.ntmps62
  go_wp2_with fail
  go_region
  all_goals go_wp2_with fail
  have hv := Vb.new 97 (w.alloc (.cells #[.slice (some ⟨w.heap.size + 1, 0, none⟩) 2 2, .pointer none, .pointer none] 65)) [.pointer (some ⟨g, 1, none⟩), .int .i64 1, .int .i64 1, .int .i64 4, .pointer (some ⟨g, 2, none⟩), .int .i64 2, .int .i64 0, .int .i64 65535]
  rw [alloc_size] at hv
  refine bodyPost_ret (v := .agg #[.slice (some ⟨w.heap.size + 1, 0, none⟩) 2 2, .pointer none, .pointer none]) (by simp [results, Tryz.results62, go_sem]) rfl ?_
  exact ⟨_, 2, rfl, Rn.two (u := ⟨1, 1, 1, 4⟩) (v := ⟨2, 2, 0, 65535⟩) (show Vb 97 _ _ _ from hv) (by omega), (below_two w _ _).drew⟩
set_option maxRecDepth 100000 in
set_option maxHeartbeats 1600000 in
theorem m_barrier (g : Nat) (w : World) : Calls Tryz.prog 63 #[.pointer (some ⟨g, 0, none⟩)] w (PartsIs 6 g w) := by
  go_enter Tryz.func63, Tryz.ntmps63
  go_wp2_with fail
  have hv := Vb.new 97 (w.alloc (.cells #[.slice (some ⟨w.heap.size + 1, 0, none⟩) 1 1, .pointer none, .pointer none] 65)) [.pointer (some ⟨g, 1, none⟩), .int .i64 4, .int .i64 0, .int .i64 4294967295]
  rw [alloc_size] at hv
  refine bodyPost_ret (v := .agg #[.slice (some ⟨w.heap.size + 1, 0, none⟩) 1 1, .pointer none, .pointer none]) (by simp [results, Tryz.results63, go_sem]) rfl ?_
  exact ⟨_, 1, rfl, Rn.one (u := ⟨1, 4, 0, 4294967295⟩) hv (by omega), below_two w _ _⟩
set_option maxRecDepth 100000 in
set_option maxHeartbeats 1600000 in
theorem m_done (g : Nat) (w : World) : Calls Tryz.prog 64 #[.pointer (some ⟨g, 0, none⟩)] w (PartsIs 7 g w) := by
  go_enter Tryz.func64, Tryz.ntmps64
  go_wp2_with fail
  go_region
  all_goals go_wp2_with fail
  have hv := Vb.new 97 (w.alloc (.cells #[.slice (some ⟨w.heap.size + 1, 0, none⟩) 2 2, .pointer none, .pointer none] 65)) [.pointer (some ⟨g, 1, none⟩), .int .i64 4, .int .i64 0, .int .i64 4294967295, .pointer (some ⟨g, 2, none⟩), .int .i64 2, .int .i64 0, .int .i64 65535]
  rw [alloc_size] at hv
  refine bodyPost_ret (v := .agg #[.slice (some ⟨w.heap.size + 1, 0, none⟩) 2 2, .pointer none, .pointer none]) (by simp [results, Tryz.results64, go_sem]) rfl ?_
  exact ⟨_, 2, rfl, Rn.two (u := ⟨1, 4, 0, 4294967295⟩) (v := ⟨2, 2, 0, 65535⟩) (show Vb 97 _ _ _ from hv) (by omega), (below_two w _ _).drew⟩
set_option maxRecDepth 100000 in
set_option maxHeartbeats 1600000 in
theorem m_link (g : Nat) (w : World) : Calls Tryz.prog 65 #[.pointer (some ⟨g, 0, none⟩)] w (PartsIs 8 g w) := by
  go_enter Tryz.func65, Tryz.ntmps65
  go_wp2_with fail
  refine bodyPost_ret (v := .agg #[.slice none 0 0, .pointer none, .pointer (some ⟨g, 16, none⟩)]) (by simp [results, Tryz.results65, go_sem]) rfl ?_
  exact ⟨none, 0, rfl, Rn.nil _ _ _, below_alloc w _⟩
set_option maxRecDepth 100000 in
set_option maxHeartbeats 1600000 in
theorem m_port (g : Nat) (w : World) : Calls Tryz.prog 66 #[.pointer (some ⟨g, 0, none⟩)] w (PartsIs 9 g w) := by
  go_enter Tryz.func66, Tryz.ntmps66
  go_wp2_with fail
  go_region
  all_goals go_wp2_with fail
  have hv := Vb.new 97 (w.alloc (.cells #[.slice (some ⟨w.heap.size + 1, 0, none⟩) 2 2, .pointer none, .pointer none] 65)) [.pointer (some ⟨g, 1, none⟩), .int .i64 1, .int .i64 1, .int .i64 4, .pointer (some ⟨g, 2, none⟩), .int .i64 1, .int .i64 0, .int .i64 1]
  rw [alloc_size] at hv
  refine bodyPost_ret (v := .agg #[.slice (some ⟨w.heap.size + 1, 0, none⟩) 2 2, .pointer none, .pointer none]) (by simp [results, Tryz.results66, go_sem]) rfl ?_
  exact ⟨_, 2, rfl, Rn.two (u := ⟨1, 1, 1, 4⟩) (v := ⟨2, 1, 0, 1⟩) (show Vb 97 _ _ _ from hv) (by omega), (below_two w _ _).drew⟩
def mapAll (w : World) : World := mapW (w.alloc (.cells #[.slice none 0 0, .pointer none, .pointer none] 65)) [(1, 59), (2, 60), (3, 60), (4, 61), (5, 62), (6, 63), (7, 64), (8, 65), (9, 66)]
theorem mapAll_below (w : World) : Below w.heap.size w (mapAll w) := below_two w _ _
theorem mapAll_size (w : World) : (mapAll w).heap.size = w.heap.size + 2 := by simp [mapAll, mapW]
theorem mapAll_cells (w : World) : Vb 65 (mapAll w) w.heap.size [.slice none 0 0, .pointer none, .pointer none] := (Vb.new 65 w [.slice none 0 0, .pointer none, .pointer none]).alloc _
/-- The map is made. -/
theorem map_made (w : World) : (Instr.makeMap 95 none).run Tryz.prog (w.alloc (.cells #[.slice none 0 0, .pointer none, .pointer none] 65)) = .ok (.map (some (w.heap.size + 1))) (mapW (w.alloc (.cells #[.slice none 0 0, .pointer none, .pointer none] 65)) []) := by
  rw [run_mk, alloc_size]
theorem map_in1 (w : World) : (Instr.mapUpdate 95 (.map (some (w.heap.size + 1))) (.int .i64 1) (.func (.func 59) #[] #[])).run Tryz.prog (mapW (w.alloc (.cells #[.slice none 0 0, .pointer none, .pointer none] 65)) []) = .ok () (mapW (w.alloc (.cells #[.slice none 0 0, .pointer none, .pointer none] 65)) [(1, 59)]) := by
  have := run_in (w.alloc (.cells #[.slice none 0 0, .pointer none, .pointer none] 65)) [] 1 59 (by kernel_rfl)
  rw [alloc_size] at this
  exact this
theorem map_in2 (w : World) : (Instr.mapUpdate 95 (.map (some (w.heap.size + 1))) (.int .i64 2) (.func (.func 60) #[] #[])).run Tryz.prog (mapW (w.alloc (.cells #[.slice none 0 0, .pointer none, .pointer none] 65)) [(1, 59)]) = .ok () (mapW (w.alloc (.cells #[.slice none 0 0, .pointer none, .pointer none] 65)) [(1, 59), (2, 60)]) := by
  have := run_in (w.alloc (.cells #[.slice none 0 0, .pointer none, .pointer none] 65)) [(1, 59)] 2 60 (by kernel_rfl)
  rw [alloc_size] at this
  exact this
theorem map_in3 (w : World) : (Instr.mapUpdate 95 (.map (some (w.heap.size + 1))) (.int .i64 3) (.func (.func 60) #[] #[])).run Tryz.prog (mapW (w.alloc (.cells #[.slice none 0 0, .pointer none, .pointer none] 65)) [(1, 59), (2, 60)]) = .ok () (mapW (w.alloc (.cells #[.slice none 0 0, .pointer none, .pointer none] 65)) [(1, 59), (2, 60), (3, 60)]) := by
  have := run_in (w.alloc (.cells #[.slice none 0 0, .pointer none, .pointer none] 65)) [(1, 59), (2, 60)] 3 60 (by kernel_rfl)
  rw [alloc_size] at this
  exact this
theorem map_in4 (w : World) : (Instr.mapUpdate 95 (.map (some (w.heap.size + 1))) (.int .i64 4) (.func (.func 61) #[] #[])).run Tryz.prog (mapW (w.alloc (.cells #[.slice none 0 0, .pointer none, .pointer none] 65)) [(1, 59), (2, 60), (3, 60)]) = .ok () (mapW (w.alloc (.cells #[.slice none 0 0, .pointer none, .pointer none] 65)) [(1, 59), (2, 60), (3, 60), (4, 61)]) := by
  have := run_in (w.alloc (.cells #[.slice none 0 0, .pointer none, .pointer none] 65)) [(1, 59), (2, 60), (3, 60)] 4 61 (by kernel_rfl)
  rw [alloc_size] at this
  exact this
theorem map_in5 (w : World) : (Instr.mapUpdate 95 (.map (some (w.heap.size + 1))) (.int .i64 5) (.func (.func 62) #[] #[])).run Tryz.prog (mapW (w.alloc (.cells #[.slice none 0 0, .pointer none, .pointer none] 65)) [(1, 59), (2, 60), (3, 60), (4, 61)]) = .ok () (mapW (w.alloc (.cells #[.slice none 0 0, .pointer none, .pointer none] 65)) [(1, 59), (2, 60), (3, 60), (4, 61), (5, 62)]) := by
  have := run_in (w.alloc (.cells #[.slice none 0 0, .pointer none, .pointer none] 65)) [(1, 59), (2, 60), (3, 60), (4, 61)] 5 62 (by kernel_rfl)
  rw [alloc_size] at this
  exact this
theorem map_in6 (w : World) : (Instr.mapUpdate 95 (.map (some (w.heap.size + 1))) (.int .i64 6) (.func (.func 63) #[] #[])).run Tryz.prog (mapW (w.alloc (.cells #[.slice none 0 0, .pointer none, .pointer none] 65)) [(1, 59), (2, 60), (3, 60), (4, 61), (5, 62)]) = .ok () (mapW (w.alloc (.cells #[.slice none 0 0, .pointer none, .pointer none] 65)) [(1, 59), (2, 60), (3, 60), (4, 61), (5, 62), (6, 63)]) := by
  have := run_in (w.alloc (.cells #[.slice none 0 0, .pointer none, .pointer none] 65)) [(1, 59), (2, 60), (3, 60), (4, 61), (5, 62)] 6 63 (by kernel_rfl)
  rw [alloc_size] at this
  exact this
theorem map_in7 (w : World) : (Instr.mapUpdate 95 (.map (some (w.heap.size + 1))) (.int .i64 7) (.func (.func 64) #[] #[])).run Tryz.prog (mapW (w.alloc (.cells #[.slice none 0 0, .pointer none, .pointer none] 65)) [(1, 59), (2, 60), (3, 60), (4, 61), (5, 62), (6, 63)]) = .ok () (mapW (w.alloc (.cells #[.slice none 0 0, .pointer none, .pointer none] 65)) [(1, 59), (2, 60), (3, 60), (4, 61), (5, 62), (6, 63), (7, 64)]) := by
  have := run_in (w.alloc (.cells #[.slice none 0 0, .pointer none, .pointer none] 65)) [(1, 59), (2, 60), (3, 60), (4, 61), (5, 62), (6, 63)] 7 64 (by kernel_rfl)
  rw [alloc_size] at this
  exact this
theorem map_in8 (w : World) : (Instr.mapUpdate 95 (.map (some (w.heap.size + 1))) (.int .i64 8) (.func (.func 65) #[] #[])).run Tryz.prog (mapW (w.alloc (.cells #[.slice none 0 0, .pointer none, .pointer none] 65)) [(1, 59), (2, 60), (3, 60), (4, 61), (5, 62), (6, 63), (7, 64)]) = .ok () (mapW (w.alloc (.cells #[.slice none 0 0, .pointer none, .pointer none] 65)) [(1, 59), (2, 60), (3, 60), (4, 61), (5, 62), (6, 63), (7, 64), (8, 65)]) := by
  have := run_in (w.alloc (.cells #[.slice none 0 0, .pointer none, .pointer none] 65)) [(1, 59), (2, 60), (3, 60), (4, 61), (5, 62), (6, 63), (7, 64)] 8 65 (by kernel_rfl)
  rw [alloc_size] at this
  exact this
theorem map_in9 (w : World) : (Instr.mapUpdate 95 (.map (some (w.heap.size + 1))) (.int .i64 9) (.func (.func 66) #[] #[])).run Tryz.prog (mapW (w.alloc (.cells #[.slice none 0 0, .pointer none, .pointer none] 65)) [(1, 59), (2, 60), (3, 60), (4, 61), (5, 62), (6, 63), (7, 64), (8, 65)]) = .ok () (mapAll w) := by
  have := run_in (w.alloc (.cells #[.slice none 0 0, .pointer none, .pointer none] 65)) [(1, 59), (2, 60), (3, 60), (4, 61), (5, 62), (6, 63), (7, 64), (8, 65)] 9 66 (by kernel_rfl)
  rw [alloc_size] at this
  exact this
theorem map_look1 (w : World) : (Instr.lookup 95 (.map (some (w.heap.size + 1))) (.int .i64 1) true).run Tryz.prog (mapAll w) = .ok (.tuple #[.func (.func 59) #[] #[], .bool true]) (mapAll w) := by
  have := run_look (w.alloc (.cells #[.slice none 0 0, .pointer none, .pointer none] 65)) [(1, 59), (2, 60), (3, 60), (4, 61), (5, 62), (6, 63), (7, 64), (8, 65), (9, 66)] 1 (some (0, .func (.func 59) #[] #[])) (by kernel_rfl)
  rw [alloc_size] at this
  exact this
theorem map_look2 (w : World) : (Instr.lookup 95 (.map (some (w.heap.size + 1))) (.int .i64 2) true).run Tryz.prog (mapAll w) = .ok (.tuple #[.func (.func 60) #[] #[], .bool true]) (mapAll w) := by
  have := run_look (w.alloc (.cells #[.slice none 0 0, .pointer none, .pointer none] 65)) [(1, 59), (2, 60), (3, 60), (4, 61), (5, 62), (6, 63), (7, 64), (8, 65), (9, 66)] 2 (some (1, .func (.func 60) #[] #[])) (by kernel_rfl)
  rw [alloc_size] at this
  exact this
theorem map_look3 (w : World) : (Instr.lookup 95 (.map (some (w.heap.size + 1))) (.int .i64 3) true).run Tryz.prog (mapAll w) = .ok (.tuple #[.func (.func 60) #[] #[], .bool true]) (mapAll w) := by
  have := run_look (w.alloc (.cells #[.slice none 0 0, .pointer none, .pointer none] 65)) [(1, 59), (2, 60), (3, 60), (4, 61), (5, 62), (6, 63), (7, 64), (8, 65), (9, 66)] 3 (some (2, .func (.func 60) #[] #[])) (by kernel_rfl)
  rw [alloc_size] at this
  exact this
theorem map_look4 (w : World) : (Instr.lookup 95 (.map (some (w.heap.size + 1))) (.int .i64 4) true).run Tryz.prog (mapAll w) = .ok (.tuple #[.func (.func 61) #[] #[], .bool true]) (mapAll w) := by
  have := run_look (w.alloc (.cells #[.slice none 0 0, .pointer none, .pointer none] 65)) [(1, 59), (2, 60), (3, 60), (4, 61), (5, 62), (6, 63), (7, 64), (8, 65), (9, 66)] 4 (some (3, .func (.func 61) #[] #[])) (by kernel_rfl)
  rw [alloc_size] at this
  exact this
theorem map_look5 (w : World) : (Instr.lookup 95 (.map (some (w.heap.size + 1))) (.int .i64 5) true).run Tryz.prog (mapAll w) = .ok (.tuple #[.func (.func 62) #[] #[], .bool true]) (mapAll w) := by
  have := run_look (w.alloc (.cells #[.slice none 0 0, .pointer none, .pointer none] 65)) [(1, 59), (2, 60), (3, 60), (4, 61), (5, 62), (6, 63), (7, 64), (8, 65), (9, 66)] 5 (some (4, .func (.func 62) #[] #[])) (by kernel_rfl)
  rw [alloc_size] at this
  exact this
theorem map_look6 (w : World) : (Instr.lookup 95 (.map (some (w.heap.size + 1))) (.int .i64 6) true).run Tryz.prog (mapAll w) = .ok (.tuple #[.func (.func 63) #[] #[], .bool true]) (mapAll w) := by
  have := run_look (w.alloc (.cells #[.slice none 0 0, .pointer none, .pointer none] 65)) [(1, 59), (2, 60), (3, 60), (4, 61), (5, 62), (6, 63), (7, 64), (8, 65), (9, 66)] 6 (some (5, .func (.func 63) #[] #[])) (by kernel_rfl)
  rw [alloc_size] at this
  exact this
theorem map_look7 (w : World) : (Instr.lookup 95 (.map (some (w.heap.size + 1))) (.int .i64 7) true).run Tryz.prog (mapAll w) = .ok (.tuple #[.func (.func 64) #[] #[], .bool true]) (mapAll w) := by
  have := run_look (w.alloc (.cells #[.slice none 0 0, .pointer none, .pointer none] 65)) [(1, 59), (2, 60), (3, 60), (4, 61), (5, 62), (6, 63), (7, 64), (8, 65), (9, 66)] 7 (some (6, .func (.func 64) #[] #[])) (by kernel_rfl)
  rw [alloc_size] at this
  exact this
theorem map_look8 (w : World) : (Instr.lookup 95 (.map (some (w.heap.size + 1))) (.int .i64 8) true).run Tryz.prog (mapAll w) = .ok (.tuple #[.func (.func 65) #[] #[], .bool true]) (mapAll w) := by
  have := run_look (w.alloc (.cells #[.slice none 0 0, .pointer none, .pointer none] 65)) [(1, 59), (2, 60), (3, 60), (4, 61), (5, 62), (6, 63), (7, 64), (8, 65), (9, 66)] 8 (some (7, .func (.func 65) #[] #[])) (by kernel_rfl)
  rw [alloc_size] at this
  exact this
theorem map_look9 (w : World) : (Instr.lookup 95 (.map (some (w.heap.size + 1))) (.int .i64 9) true).run Tryz.prog (mapAll w) = .ok (.tuple #[.func (.func 66) #[] #[], .bool true]) (mapAll w) := by
  have := run_look (w.alloc (.cells #[.slice none 0 0, .pointer none, .pointer none] 65)) [(1, 59), (2, 60), (3, 60), (4, 61), (5, 62), (6, 63), (7, 64), (8, 65), (9, 66)] 9 (some (8, .func (.func 66) #[] #[])) (by kernel_rfl)
  rw [alloc_size] at this
  exact this
theorem map_look0 (w : World) (k : Int) (hk : k < 1 ∨ 9 < k) : (Instr.lookup 95 (.map (some (w.heap.size + 1))) (.int .i64 k) true).run Tryz.prog (mapAll w) = .ok (.tuple #[.nilFunc, .bool false]) (mapAll w) := by
  have e1 : (k == 1) = false := beq_eq_false_iff_ne.2 (by omega)
  have e2 : (k == 2) = false := beq_eq_false_iff_ne.2 (by omega)
  have e3 : (k == 3) = false := beq_eq_false_iff_ne.2 (by omega)
  have e4 : (k == 4) = false := beq_eq_false_iff_ne.2 (by omega)
  have e5 : (k == 5) = false := beq_eq_false_iff_ne.2 (by omega)
  have e6 : (k == 6) = false := beq_eq_false_iff_ne.2 (by omega)
  have e7 : (k == 7) = false := beq_eq_false_iff_ne.2 (by omega)
  have e8 : (k == 8) = false := beq_eq_false_iff_ne.2 (by omega)
  have e9 : (k == 9) = false := beq_eq_false_iff_ne.2 (by omega)
  have := run_look (w.alloc (.cells #[.slice none 0 0, .pointer none, .pointer none] 65)) [(1, 59), (2, 60), (3, 60), (4, 61), (5, 62), (6, 63), (7, 64), (8, 65), (9, 66)] k none (by simp [Instr.findNow, Instr.sameNow, mapE, e1, e2, e3, e4, e5, e6, e7, e8, e9])
  rw [alloc_size] at this
  exact this
theorem isK_yes {k : Int} (h : 1 ≤ k ∧ k ≤ 9) : isK k = true := decide_eq_true h
theorem isK_no {k : Int} (h : k < 1 ∨ 9 < k) : isK k = false := decide_eq_false (by omega)
theorem kind_none {k : Int} (g : Nat) (h : k < 1 ∨ 9 < k) : ruP k g = none ∧ prP k g = none ∧ numsOf k = [] := by
  refine ⟨if_neg (by omega), if_neg (by omega), ?_⟩
  unfold numsOf
  rw [if_neg (by omega), if_neg (by omega), if_neg (by omega), if_neg (by omega), if_neg (by omega)]
set_option maxRecDepth 100000 in
set_option maxHeartbeats 1600000 in
theorem partsOf_1 (g : Nat) (w : World) (hc : w.cell? ⟨g, 0, none⟩ = some (.int .i64 1)) : Calls Tryz.prog 27 #[.pointer (some ⟨g, 0, none⟩)] w (PartsAre 1 g w) := by
  have hg := World.block_lt_of_cell? w _ hc
  simp only at hg
  have hcA : (mapAll w).cell? ⟨g, 0, none⟩ = some (.int .i64 1) := cell_below hc hg (mapAll_below w)
  have hm := map_made w
  have h1 := map_in1 w
  have h2 := map_in2 w
  have h3 := map_in3 w
  have h4 := map_in4 w
  have h5 := map_in5 w
  have h6 := map_in6 w
  have h7 := map_in7 w
  have h8 := map_in8 w
  have h9 := map_in9 w
  have hl := map_look1 w
  go_enter Tryz.func27, Tryz.ntmps27
  go_wp2_with fail
  refine (m_nothing g _).mono ?_
  have hb0 := mapAll_below w
  have hz0 := mapAll_size w
  have hv0 := mapAll_cells w
  generalize mapAll w = wm at *
  rintro e w1 ⟨A, n, rfl, hR, hb1⟩
  have hv1 := hv0.below hb1 (by omega)
  have hz1 := hb1.size
  obtain ⟨d0, d1, d2⟩ := hv1.c3
  have hf := hv1.free
  clear hm h1 h2 h3 h4 h5 h6 h7 h8 h9 hl hcA
  go_wp2_with fail
  have hv2 := hv1.putC [.slice A n n, .pointer (ruP 1 g), .pointer (prP 1 g)] 0
  have hg2 := putC_grown w.heap.size [.slice A n n, .pointer (ruP 1 g), .pointer (prP 1 g)] w1 0
  have hB2 := putC_below (Nat.le_refl w.heap.size) [.slice A n n, .pointer (ruP 1 g), .pointer (prP 1 g)] 0 (hb0.trans (hb1.mono (by omega)))
  change bodyPost _ _ _ _ _ (putC w1 w.heap.size 0 [.slice A n n, .pointer (ruP 1 g), .pointer (prP 1 g)])
  generalize putC w1 w.heap.size 0 [.slice A n n, .pointer (ruP 1 g), .pointer (prP 1 g)] = w2 at *
  clear d0 d1 d2 hf
  obtain ⟨d0, d1, d2⟩ := hv2.c3
  refine bodyPost_ret (v := .tuple #[.agg #[.slice A n n, .pointer (ruP 1 g), .pointer (prP 1 g)], .bool true]) (by simp [results, Tryz.results27, go_sem, d0, d1, d2]) rfl ?_
  exact ⟨A, n, rfl, (hR.grown hg2 (by omega)).lower (by omega), hB2⟩
set_option maxRecDepth 100000 in
set_option maxHeartbeats 1600000 in
theorem partsOf_2 (g : Nat) (w : World) (hc : w.cell? ⟨g, 0, none⟩ = some (.int .i64 2)) : Calls Tryz.prog 27 #[.pointer (some ⟨g, 0, none⟩)] w (PartsAre 2 g w) := by
  have hg := World.block_lt_of_cell? w _ hc
  simp only at hg
  have hcA : (mapAll w).cell? ⟨g, 0, none⟩ = some (.int .i64 2) := cell_below hc hg (mapAll_below w)
  have hm := map_made w
  have h1 := map_in1 w
  have h2 := map_in2 w
  have h3 := map_in3 w
  have h4 := map_in4 w
  have h5 := map_in5 w
  have h6 := map_in6 w
  have h7 := map_in7 w
  have h8 := map_in8 w
  have h9 := map_in9 w
  have hl := map_look2 w
  go_enter Tryz.func27, Tryz.ntmps27
  go_wp2_with fail
  refine (m_rule g _ 2 (by omega)).mono ?_
  have hb0 := mapAll_below w
  have hz0 := mapAll_size w
  have hv0 := mapAll_cells w
  generalize mapAll w = wm at *
  rintro e w1 ⟨A, n, rfl, hR, hb1⟩
  have hv1 := hv0.below hb1 (by omega)
  have hz1 := hb1.size
  obtain ⟨d0, d1, d2⟩ := hv1.c3
  have hf := hv1.free
  clear hm h1 h2 h3 h4 h5 h6 h7 h8 h9 hl hcA
  go_wp2_with fail
  have hv2 := hv1.putC [.slice A n n, .pointer (ruP 2 g), .pointer (prP 2 g)] 0
  have hg2 := putC_grown w.heap.size [.slice A n n, .pointer (ruP 2 g), .pointer (prP 2 g)] w1 0
  have hB2 := putC_below (Nat.le_refl w.heap.size) [.slice A n n, .pointer (ruP 2 g), .pointer (prP 2 g)] 0 (hb0.trans (hb1.mono (by omega)))
  change bodyPost _ _ _ _ _ (putC w1 w.heap.size 0 [.slice A n n, .pointer (ruP 2 g), .pointer (prP 2 g)])
  generalize putC w1 w.heap.size 0 [.slice A n n, .pointer (ruP 2 g), .pointer (prP 2 g)] = w2 at *
  clear d0 d1 d2 hf
  obtain ⟨d0, d1, d2⟩ := hv2.c3
  refine bodyPost_ret (v := .tuple #[.agg #[.slice A n n, .pointer (ruP 2 g), .pointer (prP 2 g)], .bool true]) (by simp [results, Tryz.results27, go_sem, d0, d1, d2]) rfl ?_
  exact ⟨A, n, rfl, (hR.grown hg2 (by omega)).lower (by omega), hB2⟩
set_option maxRecDepth 100000 in
set_option maxHeartbeats 1600000 in
theorem partsOf_3 (g : Nat) (w : World) (hc : w.cell? ⟨g, 0, none⟩ = some (.int .i64 3)) : Calls Tryz.prog 27 #[.pointer (some ⟨g, 0, none⟩)] w (PartsAre 3 g w) := by
  have hg := World.block_lt_of_cell? w _ hc
  simp only at hg
  have hcA : (mapAll w).cell? ⟨g, 0, none⟩ = some (.int .i64 3) := cell_below hc hg (mapAll_below w)
  have hm := map_made w
  have h1 := map_in1 w
  have h2 := map_in2 w
  have h3 := map_in3 w
  have h4 := map_in4 w
  have h5 := map_in5 w
  have h6 := map_in6 w
  have h7 := map_in7 w
  have h8 := map_in8 w
  have h9 := map_in9 w
  have hl := map_look3 w
  go_enter Tryz.func27, Tryz.ntmps27
  go_wp2_with fail
  refine (m_rule g _ 3 (by omega)).mono ?_
  have hb0 := mapAll_below w
  have hz0 := mapAll_size w
  have hv0 := mapAll_cells w
  generalize mapAll w = wm at *
  rintro e w1 ⟨A, n, rfl, hR, hb1⟩
  have hv1 := hv0.below hb1 (by omega)
  have hz1 := hb1.size
  obtain ⟨d0, d1, d2⟩ := hv1.c3
  have hf := hv1.free
  clear hm h1 h2 h3 h4 h5 h6 h7 h8 h9 hl hcA
  go_wp2_with fail
  have hv2 := hv1.putC [.slice A n n, .pointer (ruP 3 g), .pointer (prP 3 g)] 0
  have hg2 := putC_grown w.heap.size [.slice A n n, .pointer (ruP 3 g), .pointer (prP 3 g)] w1 0
  have hB2 := putC_below (Nat.le_refl w.heap.size) [.slice A n n, .pointer (ruP 3 g), .pointer (prP 3 g)] 0 (hb0.trans (hb1.mono (by omega)))
  change bodyPost _ _ _ _ _ (putC w1 w.heap.size 0 [.slice A n n, .pointer (ruP 3 g), .pointer (prP 3 g)])
  generalize putC w1 w.heap.size 0 [.slice A n n, .pointer (ruP 3 g), .pointer (prP 3 g)] = w2 at *
  clear d0 d1 d2 hf
  obtain ⟨d0, d1, d2⟩ := hv2.c3
  refine bodyPost_ret (v := .tuple #[.agg #[.slice A n n, .pointer (ruP 3 g), .pointer (prP 3 g)], .bool true]) (by simp [results, Tryz.results27, go_sem, d0, d1, d2]) rfl ?_
  exact ⟨A, n, rfl, (hR.grown hg2 (by omega)).lower (by omega), hB2⟩
set_option maxRecDepth 100000 in
set_option maxHeartbeats 1600000 in
theorem partsOf_4 (g : Nat) (w : World) (hc : w.cell? ⟨g, 0, none⟩ = some (.int .i64 4)) : Calls Tryz.prog 27 #[.pointer (some ⟨g, 0, none⟩)] w (PartsAre 4 g w) := by
  have hg := World.block_lt_of_cell? w _ hc
  simp only at hg
  have hcA : (mapAll w).cell? ⟨g, 0, none⟩ = some (.int .i64 4) := cell_below hc hg (mapAll_below w)
  have hm := map_made w
  have h1 := map_in1 w
  have h2 := map_in2 w
  have h3 := map_in3 w
  have h4 := map_in4 w
  have h5 := map_in5 w
  have h6 := map_in6 w
  have h7 := map_in7 w
  have h8 := map_in8 w
  have h9 := map_in9 w
  have hl := map_look4 w
  go_enter Tryz.func27, Tryz.ntmps27
  go_wp2_with fail
  refine (m_tag g _).mono ?_
  have hb0 := mapAll_below w
  have hz0 := mapAll_size w
  have hv0 := mapAll_cells w
  generalize mapAll w = wm at *
  rintro e w1 ⟨A, n, rfl, hR, hb1⟩
  have hv1 := hv0.below hb1 (by omega)
  have hz1 := hb1.size
  obtain ⟨d0, d1, d2⟩ := hv1.c3
  have hf := hv1.free
  clear hm h1 h2 h3 h4 h5 h6 h7 h8 h9 hl hcA
  go_wp2_with fail
  have hv2 := hv1.putC [.slice A n n, .pointer (ruP 4 g), .pointer (prP 4 g)] 0
  have hg2 := putC_grown w.heap.size [.slice A n n, .pointer (ruP 4 g), .pointer (prP 4 g)] w1 0
  have hB2 := putC_below (Nat.le_refl w.heap.size) [.slice A n n, .pointer (ruP 4 g), .pointer (prP 4 g)] 0 (hb0.trans (hb1.mono (by omega)))
  change bodyPost _ _ _ _ _ (putC w1 w.heap.size 0 [.slice A n n, .pointer (ruP 4 g), .pointer (prP 4 g)])
  generalize putC w1 w.heap.size 0 [.slice A n n, .pointer (ruP 4 g), .pointer (prP 4 g)] = w2 at *
  clear d0 d1 d2 hf
  obtain ⟨d0, d1, d2⟩ := hv2.c3
  refine bodyPost_ret (v := .tuple #[.agg #[.slice A n n, .pointer (ruP 4 g), .pointer (prP 4 g)], .bool true]) (by simp [results, Tryz.results27, go_sem, d0, d1, d2]) rfl ?_
  exact ⟨A, n, rfl, (hR.grown hg2 (by omega)).lower (by omega), hB2⟩
set_option maxRecDepth 100000 in
set_option maxHeartbeats 1600000 in
theorem partsOf_5 (g : Nat) (w : World) (hc : w.cell? ⟨g, 0, none⟩ = some (.int .i64 5)) : Calls Tryz.prog 27 #[.pointer (some ⟨g, 0, none⟩)] w (PartsAre 5 g w) := by
  have hg := World.block_lt_of_cell? w _ hc
  simp only at hg
  have hcA : (mapAll w).cell? ⟨g, 0, none⟩ = some (.int .i64 5) := cell_below hc hg (mapAll_below w)
  have hm := map_made w
  have h1 := map_in1 w
  have h2 := map_in2 w
  have h3 := map_in3 w
  have h4 := map_in4 w
  have h5 := map_in5 w
  have h6 := map_in6 w
  have h7 := map_in7 w
  have h8 := map_in8 w
  have h9 := map_in9 w
  have hl := map_look5 w
  go_enter Tryz.func27, Tryz.ntmps27
  go_wp2_with fail
  refine (m_probe g _).mono ?_
  have hb0 := mapAll_below w
  have hz0 := mapAll_size w
  have hv0 := mapAll_cells w
  generalize mapAll w = wm at *
  rintro e w1 ⟨A, n, rfl, hR, hb1⟩
  have hv1 := hv0.below hb1 (by omega)
  have hz1 := hb1.size
  obtain ⟨d0, d1, d2⟩ := hv1.c3
  have hf := hv1.free
  clear hm h1 h2 h3 h4 h5 h6 h7 h8 h9 hl hcA
  go_wp2_with fail
  have hv2 := hv1.putC [.slice A n n, .pointer (ruP 5 g), .pointer (prP 5 g)] 0
  have hg2 := putC_grown w.heap.size [.slice A n n, .pointer (ruP 5 g), .pointer (prP 5 g)] w1 0
  have hB2 := putC_below (Nat.le_refl w.heap.size) [.slice A n n, .pointer (ruP 5 g), .pointer (prP 5 g)] 0 (hb0.trans (hb1.mono (by omega)))
  change bodyPost _ _ _ _ _ (putC w1 w.heap.size 0 [.slice A n n, .pointer (ruP 5 g), .pointer (prP 5 g)])
  generalize putC w1 w.heap.size 0 [.slice A n n, .pointer (ruP 5 g), .pointer (prP 5 g)] = w2 at *
  clear d0 d1 d2 hf
  obtain ⟨d0, d1, d2⟩ := hv2.c3
  refine bodyPost_ret (v := .tuple #[.agg #[.slice A n n, .pointer (ruP 5 g), .pointer (prP 5 g)], .bool true]) (by simp [results, Tryz.results27, go_sem, d0, d1, d2]) rfl ?_
  exact ⟨A, n, rfl, (hR.grown hg2 (by omega)).lower (by omega), hB2⟩
set_option maxRecDepth 100000 in
set_option maxHeartbeats 1600000 in
theorem partsOf_6 (g : Nat) (w : World) (hc : w.cell? ⟨g, 0, none⟩ = some (.int .i64 6)) : Calls Tryz.prog 27 #[.pointer (some ⟨g, 0, none⟩)] w (PartsAre 6 g w) := by
  have hg := World.block_lt_of_cell? w _ hc
  simp only at hg
  have hcA : (mapAll w).cell? ⟨g, 0, none⟩ = some (.int .i64 6) := cell_below hc hg (mapAll_below w)
  have hm := map_made w
  have h1 := map_in1 w
  have h2 := map_in2 w
  have h3 := map_in3 w
  have h4 := map_in4 w
  have h5 := map_in5 w
  have h6 := map_in6 w
  have h7 := map_in7 w
  have h8 := map_in8 w
  have h9 := map_in9 w
  have hl := map_look6 w
  go_enter Tryz.func27, Tryz.ntmps27
  go_wp2_with fail
  refine (m_barrier g _).mono ?_
  have hb0 := mapAll_below w
  have hz0 := mapAll_size w
  have hv0 := mapAll_cells w
  generalize mapAll w = wm at *
  rintro e w1 ⟨A, n, rfl, hR, hb1⟩
  have hv1 := hv0.below hb1 (by omega)
  have hz1 := hb1.size
  obtain ⟨d0, d1, d2⟩ := hv1.c3
  have hf := hv1.free
  clear hm h1 h2 h3 h4 h5 h6 h7 h8 h9 hl hcA
  go_wp2_with fail
  have hv2 := hv1.putC [.slice A n n, .pointer (ruP 6 g), .pointer (prP 6 g)] 0
  have hg2 := putC_grown w.heap.size [.slice A n n, .pointer (ruP 6 g), .pointer (prP 6 g)] w1 0
  have hB2 := putC_below (Nat.le_refl w.heap.size) [.slice A n n, .pointer (ruP 6 g), .pointer (prP 6 g)] 0 (hb0.trans (hb1.mono (by omega)))
  change bodyPost _ _ _ _ _ (putC w1 w.heap.size 0 [.slice A n n, .pointer (ruP 6 g), .pointer (prP 6 g)])
  generalize putC w1 w.heap.size 0 [.slice A n n, .pointer (ruP 6 g), .pointer (prP 6 g)] = w2 at *
  clear d0 d1 d2 hf
  obtain ⟨d0, d1, d2⟩ := hv2.c3
  refine bodyPost_ret (v := .tuple #[.agg #[.slice A n n, .pointer (ruP 6 g), .pointer (prP 6 g)], .bool true]) (by simp [results, Tryz.results27, go_sem, d0, d1, d2]) rfl ?_
  exact ⟨A, n, rfl, (hR.grown hg2 (by omega)).lower (by omega), hB2⟩
set_option maxRecDepth 100000 in
set_option maxHeartbeats 1600000 in
theorem partsOf_7 (g : Nat) (w : World) (hc : w.cell? ⟨g, 0, none⟩ = some (.int .i64 7)) : Calls Tryz.prog 27 #[.pointer (some ⟨g, 0, none⟩)] w (PartsAre 7 g w) := by
  have hg := World.block_lt_of_cell? w _ hc
  simp only at hg
  have hcA : (mapAll w).cell? ⟨g, 0, none⟩ = some (.int .i64 7) := cell_below hc hg (mapAll_below w)
  have hm := map_made w
  have h1 := map_in1 w
  have h2 := map_in2 w
  have h3 := map_in3 w
  have h4 := map_in4 w
  have h5 := map_in5 w
  have h6 := map_in6 w
  have h7 := map_in7 w
  have h8 := map_in8 w
  have h9 := map_in9 w
  have hl := map_look7 w
  go_enter Tryz.func27, Tryz.ntmps27
  go_wp2_with fail
  refine (m_done g _).mono ?_
  have hb0 := mapAll_below w
  have hz0 := mapAll_size w
  have hv0 := mapAll_cells w
  generalize mapAll w = wm at *
  rintro e w1 ⟨A, n, rfl, hR, hb1⟩
  have hv1 := hv0.below hb1 (by omega)
  have hz1 := hb1.size
  obtain ⟨d0, d1, d2⟩ := hv1.c3
  have hf := hv1.free
  clear hm h1 h2 h3 h4 h5 h6 h7 h8 h9 hl hcA
  go_wp2_with fail
  have hv2 := hv1.putC [.slice A n n, .pointer (ruP 7 g), .pointer (prP 7 g)] 0
  have hg2 := putC_grown w.heap.size [.slice A n n, .pointer (ruP 7 g), .pointer (prP 7 g)] w1 0
  have hB2 := putC_below (Nat.le_refl w.heap.size) [.slice A n n, .pointer (ruP 7 g), .pointer (prP 7 g)] 0 (hb0.trans (hb1.mono (by omega)))
  change bodyPost _ _ _ _ _ (putC w1 w.heap.size 0 [.slice A n n, .pointer (ruP 7 g), .pointer (prP 7 g)])
  generalize putC w1 w.heap.size 0 [.slice A n n, .pointer (ruP 7 g), .pointer (prP 7 g)] = w2 at *
  clear d0 d1 d2 hf
  obtain ⟨d0, d1, d2⟩ := hv2.c3
  refine bodyPost_ret (v := .tuple #[.agg #[.slice A n n, .pointer (ruP 7 g), .pointer (prP 7 g)], .bool true]) (by simp [results, Tryz.results27, go_sem, d0, d1, d2]) rfl ?_
  exact ⟨A, n, rfl, (hR.grown hg2 (by omega)).lower (by omega), hB2⟩
set_option maxRecDepth 100000 in
set_option maxHeartbeats 1600000 in
theorem partsOf_8 (g : Nat) (w : World) (hc : w.cell? ⟨g, 0, none⟩ = some (.int .i64 8)) : Calls Tryz.prog 27 #[.pointer (some ⟨g, 0, none⟩)] w (PartsAre 8 g w) := by
  have hg := World.block_lt_of_cell? w _ hc
  simp only at hg
  have hcA : (mapAll w).cell? ⟨g, 0, none⟩ = some (.int .i64 8) := cell_below hc hg (mapAll_below w)
  have hm := map_made w
  have h1 := map_in1 w
  have h2 := map_in2 w
  have h3 := map_in3 w
  have h4 := map_in4 w
  have h5 := map_in5 w
  have h6 := map_in6 w
  have h7 := map_in7 w
  have h8 := map_in8 w
  have h9 := map_in9 w
  have hl := map_look8 w
  go_enter Tryz.func27, Tryz.ntmps27
  go_wp2_with fail
  refine (m_link g _).mono ?_
  have hb0 := mapAll_below w
  have hz0 := mapAll_size w
  have hv0 := mapAll_cells w
  generalize mapAll w = wm at *
  rintro e w1 ⟨A, n, rfl, hR, hb1⟩
  have hv1 := hv0.below hb1 (by omega)
  have hz1 := hb1.size
  obtain ⟨d0, d1, d2⟩ := hv1.c3
  have hf := hv1.free
  clear hm h1 h2 h3 h4 h5 h6 h7 h8 h9 hl hcA
  go_wp2_with fail
  have hv2 := hv1.putC [.slice A n n, .pointer (ruP 8 g), .pointer (prP 8 g)] 0
  have hg2 := putC_grown w.heap.size [.slice A n n, .pointer (ruP 8 g), .pointer (prP 8 g)] w1 0
  have hB2 := putC_below (Nat.le_refl w.heap.size) [.slice A n n, .pointer (ruP 8 g), .pointer (prP 8 g)] 0 (hb0.trans (hb1.mono (by omega)))
  change bodyPost _ _ _ _ _ (putC w1 w.heap.size 0 [.slice A n n, .pointer (ruP 8 g), .pointer (prP 8 g)])
  generalize putC w1 w.heap.size 0 [.slice A n n, .pointer (ruP 8 g), .pointer (prP 8 g)] = w2 at *
  clear d0 d1 d2 hf
  obtain ⟨d0, d1, d2⟩ := hv2.c3
  refine bodyPost_ret (v := .tuple #[.agg #[.slice A n n, .pointer (ruP 8 g), .pointer (prP 8 g)], .bool true]) (by simp [results, Tryz.results27, go_sem, d0, d1, d2]) rfl ?_
  exact ⟨A, n, rfl, (hR.grown hg2 (by omega)).lower (by omega), hB2⟩
set_option maxRecDepth 100000 in
set_option maxHeartbeats 1600000 in
theorem partsOf_9 (g : Nat) (w : World) (hc : w.cell? ⟨g, 0, none⟩ = some (.int .i64 9)) : Calls Tryz.prog 27 #[.pointer (some ⟨g, 0, none⟩)] w (PartsAre 9 g w) := by
  have hg := World.block_lt_of_cell? w _ hc
  simp only at hg
  have hcA : (mapAll w).cell? ⟨g, 0, none⟩ = some (.int .i64 9) := cell_below hc hg (mapAll_below w)
  have hm := map_made w
  have h1 := map_in1 w
  have h2 := map_in2 w
  have h3 := map_in3 w
  have h4 := map_in4 w
  have h5 := map_in5 w
  have h6 := map_in6 w
  have h7 := map_in7 w
  have h8 := map_in8 w
  have h9 := map_in9 w
  have hl := map_look9 w
  go_enter Tryz.func27, Tryz.ntmps27
  go_wp2_with fail
  refine (m_port g _).mono ?_
  have hb0 := mapAll_below w
  have hz0 := mapAll_size w
  have hv0 := mapAll_cells w
  generalize mapAll w = wm at *
  rintro e w1 ⟨A, n, rfl, hR, hb1⟩
  have hv1 := hv0.below hb1 (by omega)
  have hz1 := hb1.size
  obtain ⟨d0, d1, d2⟩ := hv1.c3
  have hf := hv1.free
  clear hm h1 h2 h3 h4 h5 h6 h7 h8 h9 hl hcA
  go_wp2_with fail
  have hv2 := hv1.putC [.slice A n n, .pointer (ruP 9 g), .pointer (prP 9 g)] 0
  have hg2 := putC_grown w.heap.size [.slice A n n, .pointer (ruP 9 g), .pointer (prP 9 g)] w1 0
  have hB2 := putC_below (Nat.le_refl w.heap.size) [.slice A n n, .pointer (ruP 9 g), .pointer (prP 9 g)] 0 (hb0.trans (hb1.mono (by omega)))
  change bodyPost _ _ _ _ _ (putC w1 w.heap.size 0 [.slice A n n, .pointer (ruP 9 g), .pointer (prP 9 g)])
  generalize putC w1 w.heap.size 0 [.slice A n n, .pointer (ruP 9 g), .pointer (prP 9 g)] = w2 at *
  clear d0 d1 d2 hf
  obtain ⟨d0, d1, d2⟩ := hv2.c3
  refine bodyPost_ret (v := .tuple #[.agg #[.slice A n n, .pointer (ruP 9 g), .pointer (prP 9 g)], .bool true]) (by simp [results, Tryz.results27, go_sem, d0, d1, d2]) rfl ?_
  exact ⟨A, n, rfl, (hR.grown hg2 (by omega)).lower (by omega), hB2⟩
set_option maxRecDepth 100000 in
set_option maxHeartbeats 1600000 in
theorem partsOf_0 (g : Nat) (w : World) (k : Int) (hk : k < 1 ∨ 9 < k) (hc : w.cell? ⟨g, 0, none⟩ = some (.int .i64 k)) : Calls Tryz.prog 27 #[.pointer (some ⟨g, 0, none⟩)] w (PartsAre k g w) := by
  have hg := World.block_lt_of_cell? w _ hc
  simp only at hg
  have hcA : (mapAll w).cell? ⟨g, 0, none⟩ = some (.int .i64 k) := cell_below hc hg (mapAll_below w)
  have hm := map_made w
  have h1 := map_in1 w
  have h2 := map_in2 w
  have h3 := map_in3 w
  have h4 := map_in4 w
  have h5 := map_in5 w
  have h6 := map_in6 w
  have h7 := map_in7 w
  have h8 := map_in8 w
  have h9 := map_in9 w
  have hl := map_look0 w k hk
  have HK := Kp.mk (kind_none g hk)
  have HI := Kp.mk (isK_no hk)
  clear hk
  have hb0 := mapAll_below w
  have hv0 := mapAll_cells w
  obtain ⟨d0, d1, d2⟩ := hv0.c3
  have hf := hv0.free
  go_enter Tryz.func27, Tryz.ntmps27
  go_wp2_with fail
  have hv2 := hv0.putC [.slice none 0 0, .pointer none, .pointer none] 0
  have hB2 := putC_below (Nat.le_refl w.heap.size) [.slice none 0 0, .pointer none, .pointer none] 0 hb0
  change bodyPost _ _ _ _ _ (putC (mapAll w) w.heap.size 0 [.slice none 0 0, .pointer none, .pointer none])
  generalize putC (mapAll w) w.heap.size 0 [.slice none 0 0, .pointer none, .pointer none] = w2 at *
  clear d0 d1 d2 hf
  obtain ⟨d0, d1, d2⟩ := hv2.c3
  refine bodyPost_ret (v := .tuple #[.agg #[.slice none 0 0, .pointer none, .pointer none], .bool false]) (by simp [results, Tryz.results27, go_sem, d0, d1, d2]) rfl ?_
  refine ⟨none, 0, by rw [HK.out.1, HK.out.2.1, HI.out], by rw [HK.out.2.2]; exact Rn.nil _ _ _, hB2⟩
theorem partsOf_any (g : Nat) (w : World) (k : Int) (hc : w.cell? ⟨g, 0, none⟩ = some (.int .i64 k)) : Calls Tryz.prog 27 #[.pointer (some ⟨g, 0, none⟩)] w (PartsAre k g w) := by
  by_cases h1 : k = 1
  · subst h1; exact partsOf_1 g w hc
  by_cases h2 : k = 2
  · subst h2; exact partsOf_2 g w hc
  by_cases h3 : k = 3
  · subst h3; exact partsOf_3 g w hc
  by_cases h4 : k = 4
  · subst h4; exact partsOf_4 g w hc
  by_cases h5 : k = 5
  · subst h5; exact partsOf_5 g w hc
  by_cases h6 : k = 6
  · subst h6; exact partsOf_6 g w hc
  by_cases h7 : k = 7
  · subst h7; exact partsOf_7 g w hc
  by_cases h8 : k = 8
  · subst h8; exact partsOf_8 g w hc
  by_cases h9 : k = 9
  · subst h9; exact partsOf_9 g w hc
  exact partsOf_0 g w k (by omega) hc
end Go.Proofs.YteambkehdbffmaaGreat.Oct
