/- The walk of LaneNames. -/
import Derived.Test.YtcolklkjaifplaaLanH
import Derived.Test.YtcolklkjaifplaaOctZ
namespace Go.Proofs.Ytcolklkjaifplaa.Oct
open Go.RowKit
set_option linter.unusedVariables false
set_option linter.unusedSimpArgs false
section
variable {w : World} {l c room : Nat} {fs : List FrV}
set_option maxRecDepth 100000 in
theorem lput_long (h : Lp w l c room fs) (A : Option Addr) (n m : Nat) (h5 : (512 : Int) < n) : Calls Try.prog 27 #[.pointer (some ⟨l, 0, none⟩), .slice A n m] w fun e w' => e = .returned (.int .i64 5) ∧ w' = w := by
  have HN := lisNone_no h
  clear h
  go_enter Try.func27, Try.ntmps27
  go_wp2_with (first | (refine HN.mono ?_; rintro e w1 ⟨rfl, rfl⟩))
  go_ret
  exact ⟨rfl, rfl⟩
end
theorem drop_length {α : Type} (fs : List α) (i : Int) (h : 0 ≤ i ∧ i < fs.length) : (dropL fs i).length = fs.length - 1 := by
  unfold dropL
  rw [if_pos h, List.length_append, List.length_take, List.length_drop]
  omega
theorem frontL_length {α : Type} (fs : List α) (i : Int) : (frontL fs i).length = fs.length := by
  unfold frontL
  split
  · rename_i h
    have hlt : i.toNat < fs.length := by omega
    rw [List.length_append, drop_length fs i h, List.getElem?_eq_getElem hlt]
    simp
    omega
  · rfl
theorem by_rep (n : Nat) : By (List.replicate n 0) := fun z hz => by rw [List.eq_of_mem_replicate hz]; omega
theorem by_mod (x : Int) : By [x % 256] := fun z hz => by rw [List.mem_singleton.1 hz]; omega
theorem made_at (m j : Nat) (hj : j < m) : (madeCells #[Value.int .u8 0] m)[j]? = some (.int .u8 0) := by simp [madeCells, hj, Nat.mod_one]
theorem rep_at (m j : Nat) (hj : j < m) : (List.replicate m (0 : Int)).getD j 0 = 0 := by rw [List.getD_eq_getElem?_getD]; simp [hj]
theorem zeros_fok (w : World) : Fok Tt (w.alloc (noughts 513)) ⟨some ⟨w.heap.size, 0, none⟩, 512, 513, List.replicate 512 0⟩ :=
  ⟨Nat.le_refl _, by_rep _, List.length_replicate, by show 512 ≤ 513; omega, by show 513 ≤ maxLen; unfold maxLen; omega, fun e => by simp at e, fun _ => ⟨w.heap.size, 0, _, _, rfl, trivial, heap_alloc_new w _, fun j hj => by
    have hj : j < 512 := hj
    show (madeCells #[Value.int .u8 0] 513)[0 + j]? = some (.int .u8 ((List.replicate 512 (0 : Int)).getD j 0))
    rw [rep_at 512 j hj, Nat.zero_add]
    exact made_at 513 j (by omega)⟩⟩
theorem st_put_nil {W w : World} {lo l c room : Nat} {fs xs : List FrV} (h : St W lo w l c room fs xs) (h7 : fs.length < room) : Calls Try.prog 27 #[.pointer (some ⟨l, 0, none⟩), .slice none 0 0] w fun e w' => e = .returned (.int .i64 0) ∧ ∃ g : FrV, g.l = [] ∧ g.n = 0 ∧ St W lo w' l c room (fs ++ [g]) xs :=
  st_put h (Rd.nil .u8 w w.heap.size) (Nat.le_refl _) By.nil (by omega) h7
set_option maxRecDepth 100000 in
set_option maxHeartbeats 8000000 in
theorem laneNames_walk (W : World) : Calls Try.prog 7 #[] W fun e w' => e = .returned (.bool true) ∧ Below W.heap.size W w' := by
  obtain ⟨lo, hlo⟩ : ∃ lo, lo = W.heap.size := ⟨_, rfl⟩
  rw [← hlo]
  have HLO := Kp.mk hlo
  clear hlo
  go_enter Try.func7, Try.ntmps7
  go_wp2_with fail
  refine (lnew_no W 0 (by omega)).mono ?_
  rintro e w0 ⟨rfl, hw0⟩
  subst hw0
  go_wp2_with fail
  refine (lnew_no _ 65 (by omega)).mono ?_
  rintro e w1 ⟨rfl, hw1⟩
  subst hw1
  go_wp2_with fail
  refine (st_new w1 64 (by omega) w1 (Below.refl lo w1) (Nat.le_of_eq HLO.out) (Fall.none _ _)).mono ?_
  rintro e w2 ⟨l, c, rfl, h2⟩
  have hmk := fun (w : World) => run_zeros 513 (by omega) 513 rfl w
  go_upto_region 7 with fail
  have h3 := (h2.below (below_alloc w2 (noughts 513))).more (zeros_fok w2)
  clear h2 hmk
  obtain ⟨g, hg⟩ : ∃ g, g = w2.heap.size := ⟨_, rfl⟩
  rw [← hg] at h3
  rw [← hg]
  clear hg
  generalize w2.alloc (noughts 513) = w3 at *
  obtain ⟨fl, hfl⟩ : ∃ fl : FrV, fl = ⟨some ⟨g, 0, none⟩, 512, 513, List.replicate 512 0⟩ := ⟨_, rfl⟩
  rw [← hfl] at h3
  have hrd := Kp.mk (show ∀ w', Fok Tt w' fl → Rd .u8 w' w'.heap.size (some ⟨g, 0, none⟩) 512 513 (List.replicate 512 0) from fun w' h => by subst hfl; exact h.rd)
  clear hfl
  go_wp2_with fail
  refine (lput_long h3.lp _ 513 513 (by omega)).mono ?_
  rintro e w4 ⟨rfl, hw4⟩
  subst hw4
  go_wp2_with fail
  refine (st_put h3 (hrd.out _ (h3.ex fl (by simp))) (Nat.le_refl _) (by_rep 512) (by omega) (by simp)).mono ?_
  rintro e w5 ⟨rfl, g1, -, hn1, h5⟩
  have HN1 := Kp.mk hn1
  clear h3 hn1
  go_wp2_with fail
  refine (st_put_nil h5 (by simp)).mono ?_
  rintro e w6 ⟨rfl, g2, -, hn2, h6⟩
  have h6 : St w1 lo w6 l c 64 [g1, g2] [fl] := h6
  have HN2 := Kp.mk hn2
  clear h5 hn2
  go_wp2_with fail
  refine (st_drop_no h6 2 (by simp)).mono ?_
  rintro e u7 ⟨rfl, h7⟩
  clear h6
  go_wp2_with fail
  refine (st_drop_no h7 (-1) (by simp)).mono ?_
  rintro e u8 ⟨rfl, h8⟩
  clear h7
  go_wp2_with fail
  refine (st_double_no h8 2 (E := 9) rfl (by decide)).mono ?_
  rintro e u9 ⟨rfl, h9⟩
  clear h8
  go_wp2_with fail
  refine (st_front_no h9 (-1) (by simp)).mono ?_
  rintro e u10 ⟨rfl, h10⟩
  clear h9
  go_wp2_with fail
  refine (st_take h10).mono ?_
  rintro e u11 ⟨rfl, h11⟩
  clear h10
  go_wp2_with fail
  refine (st_take h11).mono ?_
  rintro e u12 ⟨rfl, h12⟩
  clear h11
  rw [HN2.out]
  rw [HN1.out]
  have h13 := h12.less [] (fun y hy => by simp at hy)
  clear h12 HN1 HN2 hrd
  go_wp2_with fail
  go_loopw [8, 13] (fun s8 s13 wr => ∃ (i : Nat) (fs : List FrV), s8 = .bool true ∧ s13 = .int .i64 i ∧ i ≤ 64 ∧ fs.length = i ∧ St w1 lo wr l c 64 fs []) (fun _ s13 _ => 64 - (intOf s13).toNat)
  case atStart => exact ⟨0, [], rfl, rfl, by omega, rfl, h13⟩
  case round =>
    clear h13
    obtain ⟨i, fs, rfl, rfl, hi, hfs, hS⟩ := hrel
    have hfs := Kp.mk hfs
    by_cases hlt : (i : Int) < 64
    · go_wp2_with fail
      have hb := below_alloc wr (.cells #[.int .u8 (i : Int)] 5)
      have hlit := own_lit wr [(i : Int)] wr.heap.size (Nat.le_refl _) (by simp [maxLen])
      have hS1 := hS.below hb
      have hput := st_put (n := 1) (m := 1) hS1 hlit.rd (Nat.le_refl _) (fun z hz => by rw [List.mem_singleton.1 hz]; omega) (by omega) (by have := hfs.out; omega)
      clear hS hb hlit hS1
      refine hput.mono ?_
      rintro e w7 ⟨rfl, gx, -, -, h7⟩
      clear hput
      go_wp2_with fail
      go_roundw
      case rel => exact ⟨i + 1, fs ++ [gx], rfl, by go_num, by omega, by have := hfs.out; simp; omega, h7⟩
      case measure => simp [intOf]; omega
    · obtain rfl : i = 64 := by omega
      have h63 : 0 ≤ (63 : Int) ∧ (63 : Int) < fs.length := by have := hfs.out; omega
      have hput := st_put_no hS (Rd.nil .u8 wr wr.heap.size) (Nat.le_refl _) By.nil (E := 7) (by rw [hfs.out]; rfl) (by decide)
      clear hS hi hlt
      go_wp2_with fail
      refine hput.mono ?_
      rintro e w7 ⟨rfl, h7⟩
      clear hput
      have hd := st_double_no h7 63 (E := 7) (by rw [hfs.out]; rfl) (by decide)
      have h63 := Kp.mk h63
      go_wp2_with fail
      refine hd.mono ?_
      rintro e w8 ⟨rfl, h8⟩
      clear hd h7
      have hf := st_front_ok h8 63 h63.out rfl
      go_wp2_with fail
      refine hf.mono ?_
      rintro e w9 ⟨rfl, h9⟩
      clear hf h8
      have hcl := st_clear h9
      rw [frontL_length, hfs.out] at hcl
      go_wp2_with fail
      refine hcl.mono ?_
      rintro e w10 ⟨rfl, h10⟩
      clear hcl h9
      have hl := st_len h10
      go_wp2_with fail
      refine hl.mono ?_
      rintro e w11 ⟨rfl, hw11⟩
      subst hw11
      clear hl
      have hB := h10.bl
      have hGE := h10.ge.2
      clear h10
      go_wp2_with fail
      go_loopw [14, 15] (fun s14 s15 wz => ∃ (i : Nat) (a : Option Addr), s14 = .pointer a ∧ s15 = .int .i64 i ∧ i ≤ 2 ∧ NL wz a ∧ Below lo w1 wz) (fun _ s15 _ => 2 - (intOf s15).toNat)
      case atStart => exact ⟨0, none, rfl, rfl, by omega, .inl rfl, hB⟩
      case round =>
        clear hB
        obtain ⟨i, a, rfl, rfl, hi, hN, hB⟩ := hrel
        by_cases hlt : (i : Int) < 2
        · skip
          go_wp2_with fail
          refine (nl_take hN).mono ?_
          rintro e w' ⟨rfl, hw'⟩
          subst hw'
          go_wp2_with fail
          refine (nl_put hN _ _ _).mono ?_
          rintro e w' ⟨rfl, hw'⟩
          subst hw'
          go_wp2_with fail
          refine (nl_drop hN 0).mono ?_
          rintro e w' ⟨rfl, hw'⟩
          subst hw'
          go_wp2_with fail
          refine (nl_double hN 0).mono ?_
          rintro e w' ⟨rfl, hw'⟩
          subst hw'
          go_wp2_with fail
          refine (nl_front hN 0).mono ?_
          rintro e w' ⟨rfl, hw'⟩
          subst hw'
          go_wp2_with fail
          refine (nl_clear hN).mono ?_
          rintro e w' ⟨rfl, hw'⟩
          subst hw'
          go_wp2_with fail
          refine (nl_len hN).mono ?_
          rintro e w' ⟨rfl, hw'⟩
          subst hw'
          go_wp2_with fail
          refine (nl_all hN).mono ?_
          rintro e w' ⟨rfl, hw'⟩
          subst hw'
          have HNB := Kp.mk (fun (wq : World) (o : Obj) (h : Below lo w1 wq) => h.trans ((below_alloc wq o).mono (by have := HLO.out; have := h.size; omega)))
          clear hN
          go_wp2_with fail
          go_roundw
          case rel => exact ⟨i + 1, _, rfl, by go_num, by omega, .inr ⟨_, rfl, Vb.new _ _ [.chan none]⟩, HNB.out _ _ hB⟩
          case measure => simp [intOf]; omega
        · clear hN
          go_wp2_with fail
          refine (lworks_any _).mono ?_
          rintro e w12 ⟨rfl, hb⟩
          have HF := Kp.mk (hB.trans (hb.mono (by have := HLO.out; have := hB.size; omega)))
          clear hB hb
          go_wp2_with fail
          go_ret
          exact ⟨rfl, HF.out⟩
end Go.Proofs.Ytcolklkjaifplaa.Oct
