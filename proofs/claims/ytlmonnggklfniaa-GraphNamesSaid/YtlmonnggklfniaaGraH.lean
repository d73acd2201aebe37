/- Contracts of layer 12 (graph): the iterator that goes through what is reached. -/
import Derived.Test.YtlmonnggklfniaaGraG
namespace Go.Proofs.Ytlmonnggklfniaa.Oct
open Go.RowKit Go.Shelf
set_option linter.unusedVariables false
set_option linter.unusedSimpArgs false
attribute [local go_sem] Oper.semAt_some

/-- What the iterator has captured, and what that leads to. -/
structure Cap (bx g0 g1 g2 B : Nat) (m : Option Nat) (es : Me) (A : Option Addr) (n c : Nat) (up : List Bool) (s : Int) (w : World) : Prop where
  c0 : Vb 47 w g0 [.map m]
  c1 : Vb 36 w g1 [.slice A n c]
  c2 : Vb 3 w g2 [.int .i64 s]
  mo : Mo w m es
  u : Bl w B A n c up
  lt : bx < w.heap.size
  n0 : g0 ≠ bx
  n1 : g1 ≠ bx
  n2 : g2 ≠ bx
  nm : ∀ b, m = some b → b ≠ bx
  nu : B ≤ bx
  mine : ∀ b, Mine bx w b → b = bx
section
variable {bx g0 g1 g2 B n c : Nat} {m : Option Nat} {es : Me} {A : Option Addr} {up : List Bool} {s : Int} {w W X : World}
theorem Bl.keep {w w' : World} {B : Nat} {A : Option Addr} {n c : Nat} {bs : List Bool} (h : Bl w B A n c bs) (hb : ∀ b, b < B → w'.heap[b]? = w.heap[b]?) : Bl w' B A n c bs :=
  ⟨h.1, h.2.1, h.2.2.1, fun hn => by
    obtain ⟨b, off, e, hlt, hc⟩ := h.2.2.2 hn
    exact ⟨b, off, e, hlt, fun j hj => (World.cell?_of_block (hb b hlt)).trans (hc j hj)⟩⟩
theorem Cap.at_ (h : Cap bx g0 g1 g2 B m es A n c up s w) (hb : Below w.heap.size w W) : Cap bx g0 g1 g2 B m es A n c up s W :=
  ⟨h.c0.below hb h.c0.lt, h.c1.below hb h.c1.lt, h.c2.below hb h.c2.lt, h.mo.below hb, h.u.keep (fun b hb2 => hb.block b (by have := h.nu; have := h.lt; omega)), by have := hb.size; have := h.lt; omega, h.n0, h.n1, h.n2, h.nm, h.nu,
    fun b hm => h.mine b ((Mine.same (mine_cell (hb.block bx h.lt))).1 hm)⟩
/-- .. in a later world of the iterator. -/
theorem Cap.later (h : Cap bx g0 g1 g2 B m es A n c up s W) (hz : W.heap.size ≤ X.heap.size) (ho : ∀ b, b < W.heap.size → b ≠ bx → X.heap[b]? = W.heap[b]?) :
    Vb 47 X g0 [.map m] ∧ Vb 36 X g1 [.slice A n c] ∧ Vb 3 X g2 [.int .i64 s] ∧ Mo X m es ∧ Bl X B A n c up ∧ B ≤ X.heap.size :=
  ⟨(ho g0 h.c0.lt h.n0).trans h.c0, (ho g1 h.c1.lt h.n1).trans h.c1, (ho g2 h.c2.lt h.n2).trans h.c2, h.mo.keep (fun b e => ho b (h.mo.lt b e) (h.nm b e)), h.u.keep (fun b hb => ho b (by have := h.nu; have := h.lt; omega) (by have := h.nu; omega)), by have := h.nu; have := h.lt; omega⟩
end

theorem take_pre {α : Type} {l : List α} {k : Nat} {x : α} (h : l[k]? = some x) : l.take k ++ [x] <+: l := by
  rw [← take_snocL h]; exact List.take_prefix _ _

set_option maxRecDepth 100000 in
set_option maxHeartbeats 2000000 in
theorem reach_seq {bx g0 g1 g2 B n c : Nat} {m : Option Nat} {es : Me} {A : Option Addr} {up : List Bool} {s S : Int} {w : World} (N : Nat) (hc : Cap bx g0 g1 g2 B m es A n c up s w)
    (hi : ∀ k e i, fnd es k = some (e, i) → 0 ≤ i) (hn : ∀ x y, y ∈ nbP es up x → 1 ≤ y ∧ y ≤ S) (hs : 1 ≤ s ∧ s ≤ S) (h6 : S ≤ 6) :
    SeqM Fence.wide N Try.prog 33 #[.pointer (some ⟨g2, 0, none⟩), .pointer (some ⟨g0, 0, none⟩), .pointer (some ⟨g1, 0, none⟩)] (fun x : Int => #[.int .i64 x]) bx (rowP (nbP es up) s 6) w := by
  intro l J W hW hJ hY h0
  have HC := Kp.mk (hc.at_ hW)
  clear hc hW
  have HR := Kp.mk (And.intro hi (And.intro hn (And.intro hs h6)))
  have HJ := Kp.mk hJ
  clear hi hn hJ
  obtain ⟨sn, rfl⟩ : ∃ k : Nat, s = k := ⟨s.toNat, by omega⟩
  have hs7 : sn < 7 := by omega
  have hs7' : (sn : Int) < 7 := by omega
  clear hs h6
  refine callsIn_of_wp Try.func33 rfl trivial ?_ rfl
  simp only [Try.ntmps33, List.size_toArray, List.length_cons, List.length_nil, Nat.reduceAdd, Nat.reduceSub, Array.replicate_succ, Array.replicate_zero, List.push_toArray, List.append_toArray, List.nil_append, List.cons_append]
  refine wpIn_wide.2 ?_
  go_upto_region 1 with fail
  have hv1 : Vb 62 (W.alloc (.cells #[.bool false, .bool false, .bool false, .bool false, .bool false, .bool false, .bool false] 62)) W.heap.size (metC []) := Vb.new 62 W (metC [])
  have hb1 := below_alloc W (.cells #[.bool false, .bool false, .bool false, .bool false, .bool false, .bool false, .bool false] 62)
  have c2 := (HC.out.c2.alloc (.cells #[.bool false, .bool false, .bool false, .bool false, .bool false, .bool false, .bool false] 62)).cell 0 rfl
  generalize (W.alloc (.cells #[.bool false, .bool false, .bool false, .bool false, .bool false, .bool false, .bool false] 62)) = W1 at *
  have d0 := hv1.cell sn (metC_at [] sn hs7)
  have hf := hv1.free sn
  go_upto_region 2 with fail
  have hv2 := hv1.set sn (.bool true)
  rw [metC_set [] sn hs7] at hv2
  have hb2 := hb1.setCell (p := ⟨W.heap.size, sn, none⟩) (Nat.le_refl _) (.bool true)
  have hg2 : g2 ≠ W.heap.size := by have := HC.out.c2.lt; omega
  clear c2 d0 hf hv1 hb1
  generalize W1.setCell ⟨W.heap.size, sn, none⟩ (.bool true) = W2 at *
  have c2 := (HC.out.c2.below hb2 HC.out.c2.lt).cell 0 rfl
  have hO3 := Oi.lit W2 [(sn : Int)] W.heap.size hb2.size (by simp [maxLen])
  have hb3 := below_alloc W2 (.cells #[.int .i64 sn] 3)
  have hI3 : Ita bx W (W2.alloc (.cells #[.int .i64 sn] 3)) W.heap.size (.slice (some ⟨W2.heap.size, 0, none⟩) 1 1) 1 [(sn : Int)] := by
    have hb4 := hb2.trans (hb3.mono hb2.size)
    have hmine : ∀ b, Mine bx (W2.alloc (.cells #[.int .i64 sn] 3)) b → b = bx := fun b hm => HC.out.mine b ((Mine.same (mine_cell (hb4.block bx HC.out.lt))).1 hm)
    have hlt := HC.out.lt
    have hz := hb2.size
    refine ⟨hb4.size, fun b hb _ => hb4.block b hb, fun b hm => .inl (hmine b hm), fun b hm => ?_, hlt, hv2.alloc _, Nat.le_refl _, fun hm => ?_, hO3, fun k hk hm => ?_⟩
    · have := hmine b hm; have := hb4.size; omega
    · have := hmine _ hm; omega
    · have h1 := hmine _ hm
      have h2 : W2.heap.size = k := by simpa [Value.ownBlock] using hk
      omega
  have hK3 : ItK bx W.heap.size W (W2.alloc (.cells #[.int .i64 sn] 3)) := ItK.below (hb2.trans (hb3.mono hb2.size))
  have HZ := Kp.mk (And.intro hI3 (HJ.out _ _ _ h0 hK3))
  clear hI3 hK3 hO3 hb3 hb2 hv2 h0
  go_wp2_with fail
  clear c2
  go_loopw [6, 7] (fun s6 s7 wr => ∃ (k q : Nat), s7 = .int .i64 k ∧ k ≤ 6 ∧ Kp (Ita bx W wr W.heap.size s6 q (rowP (nbP es up) sn k) ∧ J ((rowP (nbP es up) sn 6).take k) wr ∧ k ≤ (rowP (nbP es up) sn k).length)) (fun _ s7 _ => 7 - (intOf s7).toNat)
  case atStart => exact ⟨0, 1, rfl, Nat.zero_le _, Kp.mk ⟨HZ.out.1, HZ.out.2, Nat.zero_le _⟩⟩
  case round =>
    clear HZ
    obtain ⟨k, q, rfl, hk, HK⟩ := hrel
    obtain ⟨hI, hJk, hkl⟩ := HK.out
    have hql := hI.row.len
    by_cases hlt : k < q
    · obtain ⟨x, hx⟩ : ∃ x, (rowP (nbP es up) sn k)[k]? = some x := ⟨_, List.getElem?_eq_getElem (by omega)⟩
      have hx6 := pre_get (row_pre_le (nb := nbP es up) (s := (sn : Int)) hk) hx
      obtain ⟨g, cp, rfl, hg1, hg2', hlc, hcm, hcell⟩ := hI.row.at_ (by omega)
      obtain ⟨d0, _⟩ := hcell k hlt
      rw [List.getD_eq_getElem?_getD, hx] at d0
      replace d0 : wr.cell? ⟨g, k, none⟩ = some (.int .i64 x) := d0
      have hjl : (k : Int) < q := by omega
      obtain ⟨fn, tmps, assign, body, hy, hR⟩ := hY _ x wr hJk (take_pre hx6)
      try dsimp only at hy
      have HX := Kp.mk (And.intro hx (And.intro (And.intro hql hlt) hx6))
      have HI := Kp.mk hI
      clear hI hJk hkl hql HK hx hx6 hcell hg1 hg2'
      refine (wpIn_wide (n := N)).1 ?_
      gi_wp2
      refine ⟨(fun h => (by cases h)), hR.mono ?_⟩
      rintro e W5 ⟨rfl, hJ5, hr5⟩
      gi_wp2
      refine wpIn_wide.2 ?_
      have hI5 := HI.out.round hr5
      have hg5 := hI5.grow (Below.refl W5.heap.size W5).drew
      have hJ6 := HJ.out _ _ _ hJ5 hg5.2
      have hI6 := hg5.1
      clear hI5 hg5 hJ5 hr5 hR hy HI d0
      generalize hu0 : W5.drew = u0 at *
      obtain ⟨p0, p1, p2, pm, pu, pB⟩ := HC.out.later hI6.size hI6.old
      have hcN := beside_any pm pu pB HR.out.1 x
      obtain ⟨d0, _⟩ := (fun (a : ∃ g' c', (Value.slice (some ⟨g, 0, none⟩) q cp) = .slice (some ⟨g', 0, none⟩) q c' ∧ W.heap.size ≤ g' ∧ g' < u0.heap.size ∧ q ≤ c' ∧ c' ≤ maxLen ∧ ∀ j, j < q → u0.cell? ⟨g', j, none⟩ = some (.int .i64 ((rowP (nbP es up) sn k).getD j 0)) ∧ u0.frozen? ⟨g', j, none⟩ = false) => (show u0.cell? ⟨g, k, none⟩ = some (.int .i64 x) ∧ g < u0.heap.size by
        obtain ⟨g', c', e, h1, h2, _, _, h3⟩ := a
        injection e with e1 _ _
        have e1 := Option.some.inj e1
        injection e1 with e1 _ _
        subst e1
        obtain ⟨h4, _⟩ := h3 k HX.out.2.1.2
        rw [List.getD_eq_getElem?_getD, HX.out.1] at h4
        exact ⟨h4, h2⟩)) (hI6.row.at_ (by omega))
      have hS0 : u0.cell? ⟨g0, 0, none⟩ = some (.map m) ∧ u0.cell? ⟨g1, 0, none⟩ = some (.slice A n c) ∧ u0.cell? ⟨g, k, none⟩ = some (.int .i64 x) := ⟨p0.cell 0 rfl, p1.cell 0 rfl, d0⟩
      have HN := Kp.mk (And.intro p0.lt (And.intro p1.lt (World.block_lt_of_cell? u0 _ d0)))
      have HI6 := Kp.mk hI6
      have HJ6 := Kp.mk hJ6
      clear p0 p1 p2 pm pu pB d0 hI6 hJ6
      rw [← hu0] at *
      refine wp_region_held_drew (S := fun w' : World => w'.cell? ⟨g0, 0, none⟩ = some (.map m) ∧ w'.cell? ⟨g1, 0, none⟩ = some (.slice A n c) ∧ w'.cell? ⟨g, k, none⟩ = some (.int .i64 x)) (by kernel_rfl) hS0 (fun _ => ?_)
      refine takeD (i := 0) (v := .map m) (some 28) rfl rfl (by kernel_rfl) (by kernel_rfl) (by kernel_rfl) (fun _ _ _ h => h) (Or.inl ⟨by rfl, ?_⟩) hS0 ?_
      · rintro w' ⟨z0, z1, z2⟩
        go_simp
      try simp only [Act.put, List.setIfInBounds_toArray, List.set_cons_zero, List.set_cons_succ]
      refine takeD (i := 1) (v := .slice A n c) (some 29) rfl rfl (by kernel_rfl) (by kernel_rfl) (by kernel_rfl) (fun _ _ _ h => h) (Or.inl ⟨by rfl, ?_⟩) hS0 ?_
      · rintro w' ⟨z0, z1, z2⟩
        go_simp
      try simp only [Act.put, List.setIfInBounds_toArray, List.set_cons_zero, List.set_cons_succ]
      refine takeD (i := 2) (v := .slice (some ⟨g, 0, none⟩) q cp) (some 30) rfl rfl (by kernel_rfl) (by kernel_rfl) (by kernel_rfl) (fun _ _ _ h => h) (Or.inl ⟨by rfl, ?_⟩) hS0 ?_
      · rintro w' _
        go_simp
      try simp only [Act.put, List.setIfInBounds_toArray, List.set_cons_zero, List.set_cons_succ]
      refine takeD (i := 3) (v := .int .i64 k) (some 31) rfl rfl (by kernel_rfl) (by kernel_rfl) (by kernel_rfl) (fun _ _ _ h => h) (Or.inl ⟨by rfl, ?_⟩) hS0 ?_
      · rintro w' _
        go_simp
      try simp only [Act.put, List.setIfInBounds_toArray, List.set_cons_zero, List.set_cons_succ]
      refine takeD (i := 4) (v := .pointer (some ⟨g, k, none⟩)) (some 32) rfl rfl (by kernel_rfl) (by kernel_rfl) (by kernel_rfl) (fun _ _ _ h => h) (Or.inl ⟨by rfl, ?_⟩) hS0 ?_
      · rintro w' _
        go_simp
      try simp only [Act.put, List.setIfInBounds_toArray, List.set_cons_zero, List.set_cons_succ]
      refine takeD (i := 5) (v := .int .i64 x) (some 33) rfl rfl (by kernel_rfl) (by kernel_rfl) (by kernel_rfl) (fun _ _ _ h => h) (Or.inl ⟨by rfl, ?_⟩) hS0 ?_
      · rintro w' ⟨z0, z1, z2⟩
        go_simp
      try simp only [Act.put, List.setIfInBounds_toArray, List.set_cons_zero, List.set_cons_succ]
      refine takeD (i := 8) (v := .int .i64 0) (some 36) rfl rfl (by kernel_rfl) (by kernel_rfl) (by kernel_rfl) (fun _ _ _ h => h) (Or.inl ⟨by rfl, ?_⟩) hS0 ?_
      · rintro w' _
        go_simp
      try simp only [Act.put, List.setIfInBounds_toArray, List.set_cons_zero, List.set_cons_succ]
      refine wpAnyH_ready (rs := [6]) (by kernel_rfl) (by simp) ?_
      refine AllReadyH.cons rfl (fun K hK => ?_) AllReadyH.nil
      go_simp
      refine hcN.mono ?_
      rintro e u1 ⟨vn, rfl, ⟨qn, hON⟩, hbN⟩
      obtain ⟨An, cn, rfl, _⟩ := hON.form
      have hS1 : u1.cell? ⟨g0, 0, none⟩ = some (.map m) ∧ u1.cell? ⟨g1, 0, none⟩ = some (.slice A n c) ∧ u1.cell? ⟨g, k, none⟩ = some (.int .i64 x) := ⟨(hbN.cell (p := ⟨g0, 0, none⟩) HN.out.1).trans hS0.1, (hbN.cell (p := ⟨g1, 0, none⟩) HN.out.2.1).trans hS0.2.1, (hbN.cell (p := ⟨g, k, none⟩) HN.out.2.2).trans hS0.2.2⟩
      refine hK.out _ _ hS1 (fun _ => ?_)
      clear hK K
      try simp only [Act.put, List.setIfInBounds_toArray, List.set_cons_zero, List.set_cons_succ]
      refine takeD (i := 7) (v := .int .i64 qn) (some 35) rfl rfl (by kernel_rfl) (by kernel_rfl) (by kernel_rfl) (fun _ _ _ h => h) (Or.inl ⟨by rfl, ?_⟩) hS1 ?_
      · rintro w' _
        go_simp
      try simp only [Act.put, List.setIfInBounds_toArray, List.set_cons_zero, List.set_cons_succ]
      refine wpAnyH_done (by kernel_rfl) ?_ _
      have hg7 := HI6.out.grow hbN
      have hJ7 := HJ.out _ _ _ HJ6.out hg7.2
      have HW := Kp.mk (show (∀ j, (Value.slice An qn cn).ownBlock = some j → j ≠ W.heap.size ∧ (Value.slice (some ⟨g, 0, none⟩) q cp).ownBlock ≠ some j) from fun j hj => by
        have h1 := (hON.lt j hj).1
        have h2 := HI6.out.met.lt
        have h3 := (HI6.out.row.lt g rfl).2
        refine ⟨by omega, fun e => ?_⟩
        have e : g = j := by simpa [Value.ownBlock] using e
        omega)
      have HNS := Kp.mk (And.intro hON.len (show qn ≤ 4 by have := hON.len; have := nb_len (es := es) (up := up) (s := x) (k := 4) (by omega); show qn ≤ 4; rw [← hON.len]; exact this))
      have HO0 := Kp.mk (hON.lower (show W.heap.size ≤ W5.drew.heap.size from HI6.out.size))
      have HG := Kp.mk (And.intro hg7.1 hJ7)
      clear hg7 hJ7 hON hbN hS0 hS1 HN HI6 HJ6 hcN
      go_wp2_with fail
      gi_wp2
      refine wpIn_wide.2 ?_
      go_loopw [6, 36] (fun s6 s36 wr => ∃ (j q' : Nat), s36 = .int .i64 j ∧ j ≤ qn ∧ Kp (Ita bx W wr W.heap.size s6 q' (growL (rowP (nbP es up) sn k) ((nbP es up x).take j)) ∧ J ((rowP (nbP es up) sn 6).take k ++ [x]) wr ∧ Oi wr W.heap.size (.slice An qn cn) qn (nbP es up x) ∧ (∀ b, (Value.slice An qn cn).ownBlock = some b → b ≠ W.heap.size ∧ s6.ownBlock ≠ some b))) (fun _ s36 _ => qn - (intOf s36).toNat)
      case atStart => exact ⟨0, q, rfl, Nat.zero_le _, Kp.mk ⟨HG.out.1, HG.out.2, HO0.out, HW.out⟩⟩
      case round =>
        clear HG HO0 HW
        obtain ⟨j, q', rfl, hj, HK2⟩ := hrel
        by_cases hlt2 : j < qn
        · obtain ⟨hI, hJ7, hO, hA⟩ := HK2.out
          obtain ⟨y, hy⟩ : ∃ y, (nbP es up x)[j]? = some y := ⟨_, List.getElem?_eq_getElem (by have := HNS.out.1; omega)⟩
          have hyr := HR.out.2.1 x y (List.mem_of_getElem? hy)
          obtain ⟨yn, rfl⟩ : ∃ i : Nat, y = i := ⟨y.toNat, by omega⟩
          have hy7 : yn < 7 := by have := HR.out.2.2.2; omega
          have hy7' : (yn : Int) < 7 := by omega
          have hjl : (j : Int) < qn := by omega
          have HT := Kp.mk (show growL (rowP (nbP es up) sn k) ((nbP es up x).take (j + 1)) = grow1 (growL (rowP (nbP es up) sn k) ((nbP es up x).take j)) yn by rw [take_snocL hy, growL_snoc])
          have HQ := Kp.mk (show q' ≤ 1000 by
            have h1 := hI.row.len
            have h2 := growL_len ((nbP es up x).take j) (rowP (nbP es up) sn k)
            have h3 := row_len HR.out.2.1 HR.out.2.2.1 HR.out.2.2.2 k
            have h4 := HNS.out
            rw [List.length_take] at h2
            omega)
          have hq4 : (qn : Int) ≤ 4 := by have := HNS.out.2; omega
          obtain ⟨bN, oN, hAn, _, fN⟩ := hO.rd.at_ (by omega)
          subst hAn
          have d0 := fN j hlt2
          rw [List.getD_eq_getElem?_getD, hy] at d0
          replace d0 : wr.cell? ⟨bN, oN + j, none⟩ = some (.int .i64 yn) := d0
          have d1 := hI.met.cell yn (metC_at _ yn hy7)
          have hf := hI.met.free yn
          clear fN hyr hy
          generalize growL (rowP (nbP es up) sn k) ((nbP es up x).take j) = row at *
          cases hd : decide ((yn : Int) ∈ row) with
          | true =>
            have HT2 := Kp.mk (show growL (rowP (nbP es up) sn k) ((nbP es up x).take (j + 1)) = row by rw [HT.out]; unfold grow1; rw [if_pos (of_decide_eq_true hd)])
            rw [hd] at d1
            have HZ := Kp.mk (And.intro hI (And.intro hJ7 (And.intro hO hA)))
            clear hd hI hJ7 hO hA HK2
            go_wp2_with fail
            go_roundw
            case rel => exact ⟨j + 1, q', by go_num, by omega, Kp.mk ⟨by rw [HT2.out]; exact HZ.out.1, HZ.out.2.1, HZ.out.2.2.1, HZ.out.2.2.2⟩⟩
            case measure => simp [intOf]; omega
          | false =>
            have HT2 := Kp.mk (show growL (rowP (nbP es up) sn k) ((nbP es up x).take (j + 1)) = row ++ [(yn : Int)] by rw [HT.out]; unfold grow1; rw [if_neg (of_decide_eq_false hd)])
            rw [hd] at d1
            obtain ⟨A', c', X', hrun, hI8, hK8, hS8, hN8⟩ := hI.push yn hy7 HQ.out 29
            have hJ8 := HJ.out _ _ _ hJ7 hK8
            have hO8 := oi_same hO (w' := X') (fun b hb => hS8 b (hO.lt b hb).2 (hA b hb).1 (hA b hb).2)
            have hA8 : ∀ b, (Value.slice (some ⟨bN, oN, none⟩) qn cn).ownBlock = some b → b ≠ W.heap.size ∧ (Value.slice A' (q' + 1) c').ownBlock ≠ some b := fun b hb => ⟨(hA b hb).1, fun e => by
              rcases hN8 with h | h
              · exact (hA b hb).2 (by rw [← h]; exact e)
              · have := h b e; have := (hO.lt b hb).2; omega⟩
            have HZ := Kp.mk (And.intro hI8 (And.intro hJ8 (And.intro hO8 hA8)))
            clear hd hI hJ7 hO hA HK2 hI8 hJ8 hO8 hA8 hS8 hN8 hK8
            go_upto_region 11 with fail
            clear d0 d1 hf
            generalize wr.setCell ⟨W.heap.size, yn, none⟩ (.bool true) = u3 at *
            go_wp2_with (at_builtin; refine Lib.wpList_append_run _ rfl _ _ _ _ rfl _ _ rfl rfl _ _ hrun ?_)
            go_roundw
            case rel => exact ⟨j + 1, q' + 1, by go_num, by omega, Kp.mk ⟨by rw [HT2.out]; exact HZ.out.1, HZ.out.2.1, HZ.out.2.2.1, HZ.out.2.2.2⟩⟩
            case measure => simp [intOf]; omega
        · obtain rfl : j = qn := by omega
          have HE := Kp.mk (show growL (rowP (nbP es up) sn k) ((nbP es up x).take j) = rowP (nbP es up) sn (k + 1) by rw [List.take_of_length_le (by have := HNS.out.1; omega), row_step HX.out.1])
          have HZ := Kp.mk (And.intro HK2.out.1 HK2.out.2.1)
          have HL := Kp.mk (show k + 1 ≤ 6 ∧ k + 1 ≤ (rowP (nbP es up) sn (k + 1)).length from by
            have h1 := HX.out.2.1
            have h2 := row_len HR.out.2.1 HR.out.2.2.1 HR.out.2.2.2 k
            have h3 := (row_pre (nb := nbP es up) (s := (sn : Int)) k).length_le
            omega)
          clear HK2
          go_wp2_with fail
          gi_wp2
          go_roundw
          case rel => exact ⟨k + 1, q', by go_num, HL.out.1, Kp.mk ⟨by rw [← HE.out]; exact HZ.out.1, by rw [take_snocL HX.out.2.2]; exact HZ.out.2, HL.out.2⟩⟩
          case measure => simp [intOf]; omega
    · have HE := Kp.mk (show (rowP (nbP es up) sn 6).take k = rowP (nbP es up) sn 6 by
        have h1 := row_end HR.out.2.1 HR.out.2.2.1 HR.out.2.2.2 (k := k) (by omega)
        rw [← h1]
        exact List.take_of_length_le (by omega))
      obtain ⟨A9, c9, rfl, _⟩ := hI.row.form
      have HZ := Kp.mk hJk
      have hjl : ¬ (k : Int) < q := by omega
      clear hI hJk HK hkl hql
      go_wp2_with fail
      go_end0
      exact ⟨⟨_, rfl⟩, by rw [← HE.out]; exact HZ.out⟩
end Go.Proofs.Ytlmonnggklfniaa.Oct
