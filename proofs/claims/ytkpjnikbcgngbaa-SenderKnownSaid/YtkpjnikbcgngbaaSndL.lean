/- Statements of layer 13 (sender): is; the chapter's sender. -/
import Derived.Test.YtkpjnikbcgngbaaSndK
import Derived.Lib.SlBytesConst
namespace Go.Proofs.Ytkpjnikbcgngbaa.Oct
open Go.RowKit
set_option linter.unusedVariables false
set_option linter.unusedSimpArgs false
/-- A slice that reads as texts, below block B. -/
def Tx (w : World) (B : Nat) (A : Option Addr) (n c : Nat) (ts : List (List Int)) : Prop :=
  ts.length = n ∧ n ≤ c ∧ (0 < n → ∃ b off, A = some ⟨b, off, none⟩ ∧ b < B ∧ ∀ (j : Nat) (t : List Int), ts[j]? = some t → w.cell? ⟨b, off + j, none⟩ = some (.string (strOfNums t)))
theorem Tx.below {w w' : World} {B : Nat} {A : Option Addr} {n c : Nat} {ts : List (List Int)} (h : Tx w B A n c ts) (hb : Below B w w') : Tx w' B A n c ts := ⟨h.1, h.2.1, fun hn => by
  obtain ⟨b, off, e, hlt, hc⟩ := h.2.2 hn
  exact ⟨b, off, e, hlt, fun j t hj => (hb.cell (p := ⟨b, _, none⟩) hlt).trans (hc j t hj)⟩⟩
theorem tx_lit (w : World) (ts : List (List Int)) : Tx (w.alloc (.cells (ts.map (fun t => Value.string (strOfNums t))).toArray 9)) (w.heap.size + 1) (some ⟨w.heap.size, 0, none⟩) ts.length ts.length ts :=
  ⟨rfl, Nat.le_refl _, fun hn => ⟨w.heap.size, 0, rfl, Nat.lt_succ_self _, fun j t hj => by
    rw [Nat.zero_add, World.cell?_alloc_new]
    simp [hj]⟩⟩
set_option maxRecDepth 100000 in
set_option maxHeartbeats 4000000 in
theorem is_any {w : World} {B B2 : Nat} {A T : Option Addr} {n c tc : Nat} {its : List (Int × FrV)} {P : Nat → Prop} {nx fr : Int} {i : Nat} {ms ts : List (List Int)} (h : Im w B A n c its) (hB : B ≤ w.heap.size) (ht : Tell P w nx i ms its) (hx : Tx w B2 T n tc ts) (hB2 : B2 ≤ w.heap.size) (hn : n ≤ 1000) (hfr : 0 ≤ fr ∧ fr ≤ 65535) (hf : 0 < n → fr = Ser.plusP nx i) (hts : ∀ j, j < n → ts[j]? = ms[i + j]?) :
    Calls Try.prog 33 #[.slice A n c, .int .i64 fr, .slice T n tc] w fun e w' => e = .returned (.bool true) ∧ Below w.heap.size w w' := by
  have H := Kp.mk (And.intro h (And.intro hB (And.intro hx hB2)))
  have HT := Kp.mk ht
  have HN := Kp.mk (And.intro hn (And.intro hfr (And.intro hf hts)))
  clear h hB ht hx hB2 hn hfr hf hts
  go_enter Try.func33, Try.ntmps33
  go_wp2_with fail
  go_loopw [7] (fun s7 wr => ∃ k : Nat, s7 = .int .i64 k ∧ k ≤ n ∧ Below w.heap.size w wr) (fun s7 _ => n - (intOf s7).toNat)
  case atStart => exact ⟨0, rfl, Nat.zero_le _, Below.refl _ _⟩
  case round =>
    obtain ⟨k, rfl, hk, hB⟩ := hrel
    by_cases hlt : (k : Int) < n
    · obtain ⟨x, hx⟩ : ∃ x, its[k]? = some x := ⟨_, List.getElem?_eq_getElem (show k < its.length by have := H.out.1.len; omega)⟩
      obtain ⟨x1, x2⟩ := HT.out.num k x hx
      obtain ⟨g1, o1, rfl, _, f1⟩ := (H.out.1.below (hB.mono H.out.2.1)).at_ (by omega)
      obtain ⟨g2, o2, rfl, _, f2⟩ := (H.out.2.2.1.below (hB.mono H.out.2.2.2)).2.2 (by omega)
      obtain ⟨p0, p1⟩ := f1 k x hx
      have q0 := f2 k x.2.l (by rw [HN.out.2.2.2 k (by omega), x2])
      have hfx := (HT.out.fr x (List.mem_of_getElem? hx)).below hB
      have hcv : ∀ p, (convert 30 9 (.slice x.2.A x.2.n x.2.c)).run Try.prog (wr.drewN p) = .ok (.string (strOfNums x.2.l)) (wr.drewN p) := fun p => run_string (hfx.below (below_drewN (Below.refl _ _) p)).rd
      rw [show x.2.val = .slice x.2.A x.2.n x.2.c from rfl] at p1
      obtain ⟨z, hz⟩ : ∃ z, z = x.1 := ⟨_, rfl⟩
      have hw : IntKind.i64.wrap (fr + k) = fr + k := by have := HN.out.2.1; have := HN.out.1; rw [IntKind.wrap_i64]; omega
      have htm : Int.tmod (fr + k) 65536 = z := by
        rw [Int.tmod_eq_emod_of_nonneg (by have := HN.out.2.1; omega), hz, x1, HN.out.2.2.1 (by omega)]
        unfold Ser.plusP
        omega
      rw [← hz] at p0
      have HB := Kp.mk hB
      have HK := Kp.mk hlt
      clear f1 f2 hx x1 x2 hfx hB hz
      generalize strOfNums x.2.l = σ at *
      go_upto_region 6 with fail
      go_quiet (fail)
      have HB2 := Kp.mk (below_drewN HB.out nq)
      clear p0 p1 q0 hcv hlt hw htm
      go_wp2_with fail
      go_roundw
      case rel => exact ⟨k + 1, congrArg (Value.int .i64) (wrap_succ (by have := HK.out; have := HN.out; omega)), by have := HK.out; omega, HB2.out⟩
      case measure => exact meas_lt (by have := HK.out; omega) (by have := HN.out; have := HK.out; omega)
    · have HB := Kp.mk hB
      clear hB
      go_wp2_with fail
      go_ret
      exact ⟨rfl, HB.out⟩
/-- A sender as a statement uses it, in blocks from lo on. -/
structure SS (W : World) (lo : Nat) (w : World) (s c wd : Nat) (nx : Int) (said all : Nat) (ms : List (List Int)) : Prop where
  ex : ∃ r, Sp Tq w s c wd nx said all r ms ∧ (∀ k, Kb s c r k → lo ≤ k)
  bl : Below lo W w
  sz : lo ≤ w.heap.size
section
variable {w w' W : World} {s c wd said all lo : Nat} {nx : Int} {ms : List (List Int)}
theorem SS.below (h : SS W lo w s c wd nx said all ms) (hb : Below w.heap.size w w') : SS W lo w' s c wd nx said all ms := by
  obtain ⟨r, h1, h2⟩ := h.ex
  exact ⟨⟨r, h1.below hb, h2⟩, h.bl.trans (hb.mono h.sz), Nat.le_trans h.sz hb.size⟩
theorem SS.fit (h : SS W lo w s c wd nx said all ms) : said ≤ wd ∧ 1 ≤ wd ∧ wd ≤ 4 ∧ said ≤ ms.length ∧ ms.length ≤ 512 ∧ all ≤ 20000 := by
  obtain ⟨r, h1, h2⟩ := h.ex
  exact h1.fit
theorem SS.nxb (h : SS W lo w s c wd nx said all ms) : 0 ≤ nx ∧ nx ≤ 65535 := by
  obtain ⟨r, h1, h2⟩ := h.ex
  exact h1.nxb
theorem ss_new (w : World) (n x : Int) (h : 1 ≤ n ∧ n ≤ 4) (hx : 0 ≤ x ∧ x ≤ 65535) (W : World) (hb : Below lo W w) (hlo : lo ≤ w.heap.size) : Calls Try.prog 7 #[.int .i64 n, .int .i64 x] w fun e w' => ∃ s c, e = .returned (.tuple #[.pointer (some ⟨s, 0, none⟩), .int .i64 0]) ∧ SS W lo w' s c n.toNat x 0 0 [] := by
  refine (snew_yes Tq w n x h hx).mono ?_
  rintro e w' ⟨s, c, rfl, hS, h1, h2, hb2⟩
  refine ⟨s, c, rfl, ⟨none, hS, ?_⟩, hb.trans (hb2.mono hlo), Nat.le_trans hlo hb2.size⟩
  rintro k (rfl | rfl | e)
  · exact Nat.le_trans hlo h1
  · exact Nat.le_trans hlo h2
  · simp at e
theorem ss_put (h : SS W lo w s c wd nx said all ms) {B n k : Nat} {A : Option Addr} {bs : List Int} (hr : Rd .u8 w B A n k bs) (hB : B ≤ w.heap.size) (hby : By bs) (hE : putSE n ms.length all = 0) : Calls Try.prog 18 #[.pointer (some ⟨s, 0, none⟩), .slice A n k] w fun e w' => e = .returned (.int .i64 0) ∧ SS W lo w' s c wd nx said (all + 1) (ms ++ [bs]) := by
  obtain ⟨r, h1, h2⟩ := h.ex
  refine (sput_yes h1 hr hB hby hE).mono ?_
  rintro e w' ⟨r', rfl, hS, hC, hat⟩
  refine ⟨rfl, ⟨r', hS.imp (fun _ _ _ => trivial), ?_⟩, h.bl.trans (hC.below h2 h.sz), Nat.le_trans h.sz hC.size⟩
  rintro k (e | e | e)
  · exact h2 k (.inl e)
  · exact h2 k (.inr (.inl e))
  · rcases hat with rfl | hat
    · exact h2 k (.inr (.inr e))
    · exact Nat.le_trans h.sz (hat k e)
theorem ss_put_no (h : SS W lo w s c wd nx said all ms) {B n k : Nat} {A : Option Addr} {bs : List Int} (hr : Rd .u8 w B A n k bs) {E : Int} (hE : putSE n ms.length all = E) (h0 : E ≠ 0) : Calls Try.prog 18 #[.pointer (some ⟨s, 0, none⟩), .slice A n k] w fun e w' => e = .returned (.int .i64 E) ∧ w' = w := by
  obtain ⟨r, h1, h2⟩ := h.ex
  exact sput_no h1 hr hE h0
theorem ss_fresh (h : SS W lo w s c wd nx said all ms) {k : Nat} (hk : said + k = min wd ms.length) : Calls Try.prog 19 #[.pointer (some ⟨s, 0, none⟩)] w fun e w' => ∃ A m its, e = .returned (.slice A k m) ∧ Im w' w'.heap.size A k m its ∧ Tell Tq w' nx said ms its ∧ SS W lo w' s c wd nx (said + k) all ms := by
  obtain ⟨r, h1, h2⟩ := h.ex
  refine (sfresh_any h1).mono ?_
  rintro e w' ⟨A, k', m, its, rfl, hk', hO, hT, hS, hC⟩
  obtain rfl : k' = k := by omega
  exact ⟨A, m, its, rfl, hO.im, hT.imp (fun _ _ _ => trivial), ⟨r, hS, h2⟩, h.bl.trans (hC.below (fun x e => h2 x (.inr (.inl e))) h.sz), Nat.le_trans h.sz hC.size⟩
theorem ss_again (h : SS W lo w s c wd nx said all ms) : Calls Try.prog 22 #[.pointer (some ⟨s, 0, none⟩)] w fun e w' => ∃ A m its, e = .returned (.slice A said m) ∧ Im w' w'.heap.size A said m its ∧ Tell Tq w' nx 0 ms its ∧ SS W lo w' s c wd nx said all ms := by
  obtain ⟨r, h1, h2⟩ := h.ex
  refine (sagain_any h1).mono ?_
  rintro e w' ⟨A, m, its, rfl, hO, hT, hB⟩
  exact ⟨A, m, its, rfl, hO.im, hT.imp (fun _ _ _ => trivial), h.below hB⟩
theorem ss_heard (h : SS W lo w s c wd nx said all ms) {ack : Int} {k : Nat} (hk : ackP nx said ack = k) : Calls Try.prog 21 #[.pointer (some ⟨s, 0, none⟩), .int .i64 ack] w fun e w' => e = .returned (.tuple #[.int .i64 k, .int .i64 0]) ∧ SS W lo w' s c wd ack (said - k) all (ms.drop k) := by
  obtain ⟨r, h1, h2⟩ := h.ex
  refine (sheard_yes h1 hk).mono ?_
  rintro e w' ⟨rfl, hS, hC⟩
  exact ⟨rfl, ⟨r, hS, h2⟩, h.bl.trans (hC.below h2 h.sz), Nat.le_trans h.sz hC.size⟩
theorem ss_heard_no (h : SS W lo w s c wd nx said all ms) {ack : Int} (hk : ackP nx said ack = -1) : Calls Try.prog 21 #[.pointer (some ⟨s, 0, none⟩), .int .i64 ack] w fun e w' => e = .returned (.tuple #[.int .i64 0, .int .i64 9]) ∧ SS W lo w' s c wd nx said all ms := by
  obtain ⟨r, h1, h2⟩ := h.ex
  refine (sheard_no h1 hk).mono ?_
  rintro e w' ⟨rfl, hb⟩
  exact ⟨rfl, h.below hb⟩
theorem ss_left (h : SS W lo w s c wd nx said all ms) : Calls Try.prog 10 #[.pointer (some ⟨s, 0, none⟩)] w fun e w' => e = .returned (.int .i64 ms.length) ∧ w' = w := by
  obtain ⟨r, h1, h2⟩ := h.ex
  exact sleft_any h1
theorem ss_said (h : SS W lo w s c wd nx said all ms) : Calls Try.prog 12 #[.pointer (some ⟨s, 0, none⟩)] w fun e w' => e = .returned (.int .i64 said) ∧ w' = w := by
  obtain ⟨r, h1, h2⟩ := h.ex
  exact ssaid_any h1
theorem ss_next (h : SS W lo w s c wd nx said all ms) : Calls Try.prog 14 #[.pointer (some ⟨s, 0, none⟩)] w fun e w' => e = .returned (.int .i64 nx) ∧ w' = w := by
  obtain ⟨r, h1, h2⟩ := h.ex
  exact snext_any h1
theorem one_lit (w : World) (x : Int) : Rd .u8 (w.alloc (.cells #[.int .u8 x] 5)) (w.alloc (.cells #[.int .u8 x] 5)).heap.size (some ⟨w.heap.size, 0, none⟩) 1 1 [x] := by
  have := rd_lit .u8 w 5 [x] (by simp [maxLen]) (w.alloc (.cells #[.int .u8 x] 5)).heap.size (by simp)
  simpa using this
theorem one_litm (w : World) (x : Int) : Rd .u8 (w.alloc (.cells #[.int .u8 x] 5 (1, 2))) (w.alloc (.cells #[.int .u8 x] 5 (1, 2))).heap.size (some ⟨w.heap.size, 0, none⟩) 1 1 [x] := by
  have := rd_litm .u8 w 5 (1, 2) [x] (by simp [maxLen]) (w.alloc (.cells #[.int .u8 x] 5 (1, 2))).heap.size (by simp)
  simpa using this
theorem by_one {x : Int} (h : 0 ≤ x ∧ x < 256) : By [x] := fun z hz => by rw [List.mem_singleton.1 hz]; exact h
end
set_option maxRecDepth 100000 in
set_option maxHeartbeats 4000000 in
theorem sworks_any (w : World) : Calls Try.prog 16 #[] w fun e w' => e = .returned (.bool true) ∧ Below w.heap.size w w' := by
  go_enter Try.func16, Try.ntmps16
  go_wp2_with fail
  refine (ss_new w 2 65535 (by omega) (by omega) w (Below.refl _ _) (Nat.le_refl _)).mono ?_
  rintro e w1 ⟨s, c, rfl, h1⟩
  have kc := Lib.run_convert_bytes_const (P := Try.prog) w1 30 5 #[.int .u8 97] 1 1 Try.underlying30 Try.underlying5
  go_wp2_with fail
  clear kc
  refine (ss_put (h1.below (below_alloc w1 (.cells #[.int .u8 97] 5 (1, 2)))) (one_litm w1 97) (Nat.le_refl _) (by_one (by omega)) (by decide)).mono ?_
  rintro e w2 ⟨rfl, h2⟩
  clear h1
  have kc := Lib.run_convert_bytes_const (P := Try.prog) w2 30 5 #[.int .u8 98] 1 1 Try.underlying30 Try.underlying5
  go_wp2_with fail
  clear kc
  refine (ss_put (h2.below (below_alloc w2 (.cells #[.int .u8 98] 5 (1, 2)))) (one_litm w2 98) (Nat.le_refl _) (by_one (by omega)) (by decide)).mono ?_
  rintro e w3 ⟨rfl, h3⟩
  clear h2
  have kc := Lib.run_convert_bytes_const (P := Try.prog) w3 30 5 #[.int .u8 99] 1 1 Try.underlying30 Try.underlying5
  go_wp2_with fail
  clear kc
  refine (ss_put (h3.below (below_alloc w3 (.cells #[.int .u8 99] 5 (1, 2)))) (one_litm w3 99) (Nat.le_refl _) (by_one (by omega)) (by decide)).mono ?_
  rintro e w4 ⟨rfl, h4⟩
  clear h3
  have h4 : SS w w.heap.size w4 s c 2 65535 0 3 [[97], [98], [99]] := h4
  go_wp2_with fail
  refine (ss_fresh h4 (k := 2) (by decide)).mono ?_
  rintro e w5 ⟨A, m, its, rfl, hI, hT, h5⟩
  clear h4
  have hb := below_alloc w5 (.cells #[.string (strOfNums [97]), .string (strOfNums [98])] 9)
  have hX := tx_lit w5 [[97], [98]]
  have h5 := h5.below hb
  have hi := is_any (hI.below hb) hb.size (hT.below hb) hX (by simp) (by omega) (fr := 65535) (by omega) (fun _ => by decide) (by intro j hj; match j, hj with | 0, _ => rfl | 1, _ => rfl)
  clear hI hT hX hb
  have H5 := Kp.mk h5
  clear h5
  go_wp2_with fail
  refine hi.mono ?_
  rintro e w6 ⟨rfl, hb6⟩
  have h6 := H5.out.below hb6
  clear hi hb6 H5
  go_wp2_with fail
  refine (ss_fresh h6 (k := 0) (by decide)).mono ?_
  rintro e w7 ⟨A7, m7, its7, rfl, hI, hT, h7⟩
  have hi := is_any hI (Nat.le_refl _) hT (B2 := w7.heap.size) (T := none) (tc := 0) (ts := []) ⟨rfl, Nat.le_refl _, fun h => absurd h (by omega)⟩ (Nat.le_refl _) (by omega) (fr := 0) (by omega) (fun h => absurd h (by omega)) (by intro j hj; omega)
  have H7 := Kp.mk h7
  clear h6 h7 hI hT
  go_wp2_with fail
  refine hi.mono ?_
  rintro e w8 ⟨rfl, hb8⟩
  have h8 := H7.out.below hb8
  clear hi hb8 H7
  go_wp2_with fail
  refine (ss_heard h8 (ack := 0) (k := 1) (by decide)).mono ?_
  rintro e w9 ⟨rfl, h9⟩
  have h9 : SS w w.heap.size w9 s c 2 0 1 3 [[98], [99]] := h9
  clear h8
  go_wp2_with fail
  refine (ss_fresh h9 (k := 1) (by decide)).mono ?_
  rintro e u1 ⟨B1, p1, jts, rfl, hI, hT, g1⟩
  clear h9
  have hb := below_alloc u1 (.cells #[.string (strOfNums [99])] 9)
  have hX := tx_lit u1 [[99]]
  have g1 := g1.below hb
  have hi := is_any (hI.below hb) hb.size (hT.below hb) hX (by simp) (by omega) (fr := 1) (by omega) (fun _ => by decide) (by intro j hj; match j, hj with | 0, _ => rfl)
  clear hI hT hX hb
  have G1 := Kp.mk g1
  clear g1
  go_wp2_with fail
  refine hi.mono ?_
  rintro e u2 ⟨rfl, hb2⟩
  have g2 := G1.out.below hb2
  clear hi hb2 G1
  go_wp2_with fail
  refine (ss_again g2).mono ?_
  rintro e u3 ⟨B3, p3, kts, rfl, hI, hT, g3⟩
  clear g2
  have hb := below_alloc u3 (.cells #[.string (strOfNums [98]), .string (strOfNums [99])] 9)
  have hX := tx_lit u3 [[98], [99]]
  have g3 := g3.below hb
  have hi := is_any (hI.below hb) hb.size (hT.below hb) hX (by simp) (by omega) (fr := 0) (by omega) (fun _ => by decide) (by intro j hj; match j, hj with | 0, _ => rfl | 1, _ => rfl)
  clear hI hT hX hb
  have G3 := Kp.mk g3
  clear g3
  go_wp2_with fail
  refine hi.mono ?_
  rintro e u4 ⟨rfl, hb4⟩
  have g4 := G3.out.below hb4
  clear hi hb4 G3
  go_wp2_with fail
  refine (ss_heard_no g4 (ack := 3) (by decide)).mono ?_
  rintro e u5 ⟨rfl, g5⟩
  clear g4
  go_wp2_with fail
  refine (ss_heard g5 (ack := 2) (k := 2) (by decide)).mono ?_
  rintro e u6 ⟨rfl, g6⟩
  have g6 : SS w w.heap.size u6 s c 2 2 0 3 [] := g6
  clear g5
  have hl := ss_left g6
  have hn := ss_next g6
  have HB := Kp.mk g6.bl
  clear g6
  go_wp2_with (first | (go_at_call 10; refine hl.mono ?_; rintro e q1 ⟨rfl, hq⟩; subst hq) | (go_at_call 14; refine hn.mono ?_; rintro e q1 ⟨rfl, hq⟩; subst hq))
  go_ret
  exact ⟨rfl, HB.out⟩
end Go.Proofs.Ytkpjnikbcgngbaa.Oct
