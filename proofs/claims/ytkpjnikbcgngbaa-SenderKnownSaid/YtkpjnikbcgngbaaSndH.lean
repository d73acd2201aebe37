/- Contracts of layer 13 (sender): the document's sender. -/
import Derived.Test.YtkpjnikbcgngbaaSndG
namespace Go.Proofs.Ytkpjnikbcgngbaa.Oct
open Go.RowKit
set_option linter.unusedVariables false
set_option linter.unusedSimpArgs false
theorem sndCopy_any {w : World} {B n c : Nat} {A : Option Addr} {bs : List Int} (hr : Rd .u8 w B A n c bs) (hn : n ≤ 512) (hby : By bs) : Calls Try.prog 25 #[.slice A n c] w fun e w' => ∃ g : FrV, e = .returned (.slice g.A g.n g.c) ∧ g.l = bs ∧ g.n = n ∧ Own w' w.heap.size (.slice g.A g.n g.c) g.n g.l ∧ Fok (fun b => w.heap.size ≤ b) w' g ∧ Below w.heap.size w w' := by
  refine (copyBytes_any hr (by omega)).mono ?_
  rintro e w' ⟨A1, n1, c1, rfl, hown, hb⟩
  have hl1 : n1 = n := by have := hown.len; have := hr.len; omega
  subst hl1
  exact ⟨⟨A1, n1, c1, bs⟩, rfl, rfl, rfl, hown, Fok.of_own hown hn hby, hb⟩
/-- The document's sender in block m, its row in r. -/
structure Sm (P : Nat → Prop) (w : World) (m wd : Nat) (nx : Int) (said all : Nat) (r : Option Nat) (ms : List (List Int)) : Prop where
  ex : ∃ A c fs, Vb 58 w m [.int .i64 wd, .int .i64 nx, .slice A ms.length c, .int .i64 said, .int .i64 all] ∧ Qf w A ms.length c fs ∧ (Value.slice A ms.length c).ownBlock = r ∧ fs.map FrV.l = ms ∧ Fall P w fs
  nxb : 0 ≤ nx ∧ nx ≤ 65535
  fit : said ≤ wd ∧ 1 ≤ wd ∧ wd ≤ 4 ∧ said ≤ ms.length ∧ ms.length ≤ 512 ∧ all ≤ 20000
section
variable {P Q S : Nat → Prop} {w w' : World} {m wd said all : Nat} {nx : Int} {r : Option Nat} {ms : List (List Int)}
theorem Sm.lt (h : Sm P w m wd nx said all r ms) : ∀ k, Kb m m r k → k < w.heap.size := by
  obtain ⟨A, c, fs, h1, h2, h3, h4, h5⟩ := h.ex
  rintro k (rfl | rfl | hk)
  · exact h1.lt
  · exact h1.lt
  · exact (h2.at_ k (h3.trans hk)).1
/-- None of its blocks is one of bytes, of items, or of another struct. -/
theorem Sm.nob (h : Sm P w m wd nx said all r ms) : ∀ k cs t mk, Kb m m r k → t ≠ 58 → t ≠ 30 → w.heap[k]? ≠ some (.cells cs t mk) := by
  obtain ⟨A, c, fs, h1, h2, h3, h4, h5⟩ := h.ex
  have hm : ∀ cs t mk, t ≠ 58 → w.heap[m]? ≠ some (.cells cs t mk) := fun cs t mk ht => vb_no h1 (Ne.symm ht) cs mk
  rintro k cs t mk (rfl | rfl | hk) ht1 ht2
  · exact hm cs t mk ht1
  · exact hm cs t mk ht1
  · obtain ⟨_, cs2, hv⟩ := h2.at_ k (h3.trans hk)
    exact vb_no hv (Ne.symm ht2) cs mk
theorem Sm.noch (h : Sm P w m wd nx said all r ms) : ∀ k, Kb m m r k → ∀ cap buf cl s rr t, w.heap[k]? ≠ some (.chan cap buf cl s rr t) := by
  obtain ⟨A, c, fs, h1, h2, h3, h4, h5⟩ := h.ex
  rintro k (rfl | rfl | hk) cap buf cl s rr t e
  · rw [show w.heap[k]? = _ from h1] at e; simp at e
  · rw [show w.heap[k]? = _ from h1] at e; simp at e
  · obtain ⟨_, cs2, hv⟩ := h2.at_ k (h3.trans hk)
    rw [show w.heap[k]? = _ from hv] at e; simp at e
theorem Sm.apart (h : Sm P w m wd nx said all r ms) : r ≠ some m := by
  obtain ⟨A, c, fs, h1, h2, h3, h4, h5⟩ := h.ex
  intro e
  obtain ⟨_, cs2, hv⟩ := h2.at_ m (h3.trans e)
  exact absurd rfl (vb_ne hv h1 (by decide))
theorem Sm.stay (h : Sm P w m wd nx said all r ms) (hc : Ch S w w') (hk : ∀ k, Kb m m r k → ¬ S k) (hb : ∀ b cs m, b < w.heap.size → P b → w.heap[b]? = some (.cells cs 5 m) → ¬ S b) : Sm P w' m wd nx said all r ms := by
  obtain ⟨A, c, fs, h1, h2, h3, h4, h5⟩ := h.ex
  exact ⟨⟨A, c, fs, (hc.block m h1.lt (hk m (.inl rfl))).trans h1, h2.stay hc (fun k e => hk k (.inr (.inr (h3.symm.trans e)))), h3, h4, h5.stay hc hb⟩, h.nxb, h.fit⟩
theorem Sm.below (h : Sm P w m wd nx said all r ms) (hb : Below w.heap.size w w') : Sm P w' m wd nx said all r ms := h.stay (S := fun _ => False) (.of_below hb) (fun _ _ e => e) (fun _ _ _ _ _ _ e => e)
theorem Sm.imp (h : Sm P w m wd nx said all r ms) (hq : ∀ b, b < w.heap.size → P b → Q b) : Sm Q w m wd nx said all r ms := by
  obtain ⟨A, c, fs, h1, h2, h3, h4, h5⟩ := h.ex
  exact ⟨⟨A, c, fs, h1, h2, h3, h4, h5.imp hq⟩, h.nxb, h.fit⟩
theorem Sm.bytes (h : Sm P w m wd nx said all r ms) : ∀ b cs mk, Kb m m r b → w.heap[b]? ≠ some (.cells cs 5 mk) := fun b cs mk hk => h.nob b cs _ mk hk (by decide) (by decide)
/-- A number of it is turned. -/
theorem Sm.turned (h : Sm P w m wd nx said all r ms) {nx' : Int} {said' : Nat} (hc : Ch (fun x => x = m) w w') (hn : 0 ≤ nx' ∧ nx' ≤ 65535) (h1 : said' ≤ wd) (h2 : said' ≤ ms.length)
    (hv : ∀ A c, Vb 58 w m [.int .i64 wd, .int .i64 nx, .slice A ms.length c, .int .i64 said, .int .i64 all] → Vb 58 w' m [.int .i64 wd, .int .i64 nx', .slice A ms.length c, .int .i64 said', .int .i64 all]) : Sm P w' m wd nx' said' all r ms := by
  have hap := h.apart
  have hby := h.bytes
  obtain ⟨A, c, fs, g1, g2, g3, g4, g5⟩ := h.ex
  exact ⟨⟨A, c, fs, hv A c g1, g2.stay hc (fun k e h => hap (g3.symm.trans (by rw [← h]; exact e))), g3, g4, g5.other hc (fun b cs m e => hby b cs m (.inl e))⟩, hn, by have := h.fit; omega⟩
set_option maxRecDepth 100000 in
theorem mnewS_yes (P : Nat → Prop) (w : World) (wd nx : Int) (h : 1 ≤ wd ∧ wd ≤ 4) (hx : 0 ≤ nx ∧ nx ≤ 65535) : Calls Try.prog 8 #[.int .i64 wd, .int .i64 nx] w fun e w' => ∃ m, e = .returned (.tuple #[.pointer (some ⟨m, 0, none⟩), .int .i64 0]) ∧ Sm P w' m wd.toNat nx 0 0 none [] ∧ w.heap.size ≤ m ∧ Below w.heap.size w w' := by
  obtain ⟨k, rfl⟩ : ∃ m : Nat, wd = m := ⟨wd.toNat, by omega⟩
  have hV := Kp.mk (Vb.new 58 w [.int .i64 k, .int .i64 nx, .slice none 0 0, .int .i64 0, .int .i64 0])
  have hB := Kp.mk (below_alloc w (.cells #[.int .i64 k, .int .i64 nx, .slice none 0 0, .int .i64 0, .int .i64 0] 58))
  have h1 : ¬ (k : Int) < 1 := by omega
  have h2 : ¬ (4 : Int) < k := by omega
  have h3 : ¬ nx < 0 := by omega
  have h4 : ¬ (65535 : Int) < nx := by omega
  have HX := Kp.mk (And.intro h hx)
  clear h hx
  go_enter Try.func8, Try.ntmps8
  go_wp2_with fail
  go_ret2
  exact ⟨_, rfl, ⟨⟨none, 0, [], by simpa using hV.out, Qf.nil0 _, rfl, rfl, Fall.none _ _⟩, HX.out.2, by have := HX.out.1; simp; omega⟩, Nat.le_refl _, hB.out⟩
set_option maxRecDepth 100000 in
theorem mnewS_no (w : World) (wd nx : Int) (h : ¬ ((1 ≤ wd ∧ wd ≤ 4) ∧ 0 ≤ nx ∧ nx ≤ 65535)) : Calls Try.prog 8 #[.int .i64 wd, .int .i64 nx] w fun e w' => e = .returned (.tuple #[.pointer none, .int .i64 2]) ∧ w' = w := by
  by_cases h1 : wd < 1
  · clear h
    go_enter Try.func8, Try.ntmps8
    go_wp2_with fail
    go_ret2
    exact ⟨rfl, rfl⟩
  · by_cases h2 : (4 : Int) < wd
    · clear h
      go_enter Try.func8, Try.ntmps8
      go_wp2_with fail
      go_ret2
      exact ⟨rfl, rfl⟩
    · by_cases h3 : nx < 0
      · clear h
        go_enter Try.func8, Try.ntmps8
        go_wp2_with fail
        go_ret2
        exact ⟨rfl, rfl⟩
      · have h4 : (65535 : Int) < nx := by omega
        clear h
        go_enter Try.func8, Try.ntmps8
        go_wp2_with fail
        go_ret2
        exact ⟨rfl, rfl⟩
set_option maxRecDepth 100000 in
theorem mleftS_any (h : Sm P w m wd nx said all r ms) : Calls Try.prog 11 #[.pointer (some ⟨m, 0, none⟩)] w fun e w' => e = .returned (.int .i64 ms.length) ∧ w' = w := by
  obtain ⟨A, c, fs, h1, h2, h3, h4, h5⟩ := h.ex
  have c0 := h1.cell 2 rfl
  clear h h1 h2 h3 h4 h5
  generalize ms.length = n at *
  go_enter Try.func11, Try.ntmps11
  go_wp2_with fail
  go_ret
  exact ⟨rfl, rfl⟩
set_option maxRecDepth 100000 in
theorem msaidS_any (h : Sm P w m wd nx said all r ms) : Calls Try.prog 13 #[.pointer (some ⟨m, 0, none⟩)] w fun e w' => e = .returned (.int .i64 said) ∧ w' = w := by
  obtain ⟨A, c, fs, h1, h2, h3, h4, h5⟩ := h.ex
  have c0 := h1.cell 3 rfl
  clear h h1 h2 h3 h4 h5
  go_enter Try.func13, Try.ntmps13
  go_wp2_with fail
  go_ret
  exact ⟨rfl, rfl⟩
set_option maxRecDepth 100000 in
theorem mnextS_any (h : Sm P w m wd nx said all r ms) : Calls Try.prog 15 #[.pointer (some ⟨m, 0, none⟩)] w fun e w' => e = .returned (.int .i64 nx) ∧ w' = w := by
  obtain ⟨A, c, fs, h1, h2, h3, h4, h5⟩ := h.ex
  have c0 := h1.cell 1 rfl
  clear h h1 h2 h3 h4 h5
  go_enter Try.func15, Try.ntmps15
  go_wp2_with fail
  go_ret
  exact ⟨rfl, rfl⟩
theorem aheadP_ack (nx : Int) (said : Nat) (ack : Int) (hx : 0 ≤ nx ∧ nx ≤ 65535) (ha : 0 ≤ ack ∧ ack ≤ 65535) (hs : said ≤ 4) : (∀ k : Nat, ackP nx said ack = k → Ser.aheadP nx ack = k) ∧ (ackP nx said ack = -1 → Ser.aheadP nx ack < 0 ∨ (said : Int) < Ser.aheadP nx ack) := by
  unfold ackP Ser.atP Ser.aheadP
  rw [if_pos ha]
  constructor
  · intro k
    split
    · intro h
      rw [if_neg (by omega)]
      exact h
    · intro h; omega
  · split
    · intro h; omega
    · intro h
      split <;> omega
set_option maxRecDepth 100000 in
set_option maxHeartbeats 4000000 in
theorem mheard_no (h : Sm P w m wd nx said all r ms) {ack : Int} (hk : ackP nx said ack = -1) : Calls Try.prog 30 #[.pointer (some ⟨m, 0, none⟩), .int .i64 ack] w fun e w' => e = .returned (.tuple #[.int .i64 0, .int .i64 9]) ∧ w' = w := by
  have hfit := h.fit
  have hnx := h.nxb
  obtain ⟨A, c, fs, h1, h2, h3, h4, h5⟩ := h.ex
  have c1 := h1.cell 1 rfl
  have c3 := h1.cell 3 rfl
  clear h h1 h2 h3 h4 h5
  by_cases h1 : ack < 0
  · clear hk hfit hnx
    go_enter Try.func30, Try.ntmps30
    go_wp2_with fail
    go_ret2
    exact ⟨rfl, rfl⟩
  · by_cases h2 : (65535 : Int) < ack
    · clear hk hfit hnx
      go_enter Try.func30, Try.ntmps30
      go_wp2_with fail
      go_ret2
      exact ⟨rfl, rfl⟩
    · have hd := (aheadP_ack nx said ack hnx (by omega) (by omega)).2 hk
      have HA := Ser.refAhead_any nx ack w hnx.1 (by omega) (by omega) (by omega)
      clear hk hfit hnx
      generalize Ser.aheadP nx ack = d at *
      by_cases h3 : d < 0
      · clear hd
        go_enter Try.func30, Try.ntmps30
        go_wp2_with (first | (go_at_call 41; refine HA.mono ?_; rintro e w1 ⟨rfl, rfl⟩))
        go_ret2
        exact ⟨rfl, rfl⟩
      · have h4 : (said : Int) < d := by omega
        clear hd
        go_enter Try.func30, Try.ntmps30
        go_wp2_with (first | (go_at_call 41; refine HA.mono ?_; rintro e w1 ⟨rfl, rfl⟩))
        go_ret2
        exact ⟨rfl, rfl⟩
set_option maxRecDepth 100000 in
set_option maxHeartbeats 4000000 in
theorem mheard_yes (h : Sm P w m wd nx said all r ms) {ack : Int} {k : Nat} (hk : ackP nx said ack = k) : Calls Try.prog 30 #[.pointer (some ⟨m, 0, none⟩), .int .i64 ack] w fun e w' => e = .returned (.tuple #[.int .i64 k, .int .i64 0]) ∧ Sm P w' m wd ack (said - k) all r (ms.drop k) ∧ Ch (fun x => x = m) w w' := by
  have hbd := ackP_bd nx said ack
  have hack : 0 ≤ ack ∧ ack ≤ 65535 := by
    unfold ackP at hk
    split at hk
    · assumption
    · omega
  have hfit := h.fit
  have hnx := h.nxb
  have hd := (aheadP_ack nx said ack hnx hack (by omega)).1 k hk
  rw [hk] at hbd
  have HA := Ser.refAhead_any nx ack w hnx.1 (by omega) (by omega) (by omega)
  rw [hd] at HA
  have hap := h.apart
  have hby := h.bytes
  obtain ⟨A, c, fs, g1, g2, g3, g4, g5⟩ := h.ex
  have hle := g2.le
  have hmx := g2.max
  have c1 := g1.cell 1 rfl
  have c2 := g1.cell 2 rfl
  have c3 := g1.cell 3 rfl
  have hf2 := g1.free 2
  have hf3 := g1.free 3
  have hf1 := g1.free 1
  have a1 : ¬ ack < 0 := by omega
  have a2 : ¬ (65535 : Int) < ack := by omega
  have a3 : ¬ (k : Int) < 0 := by omega
  have a4 : ¬ (said : Int) < k := by omega
  have a5 : (0 : Int) ≤ k := by omega
  have a6 : (k : Int) ≤ ms.length := by omega
  have a7 : (ms.length : Int) ≤ c := by omega
  have a8 : (k : Int) ≤ c := by omega
  have hw : IntKind.i64.wrap ((said : Int) - k) = ((said - k : Nat) : Int) := by rw [IntKind.wrap_i64]; omega
  -- the row that stays
  obtain ⟨B, j, hB, hQ⟩ : ∃ (B : Option Addr) (j : Nat), (∀ w : World, (Value.slice B (ms.length - k) j).ownBlock = r) ∧ Qf w B (ms.length - k) j (fs.drop k) ∧ ((A = none ∧ k = 0 ∧ c = 0 ∧ ms.length = 0 ∧ B = none ∧ j = 0) ∨ (∃ g off, A = some ⟨g, off, none⟩ ∧ ((k < c ∧ B = some ⟨g, off + k, none⟩ ∧ j = c - k) ∨ (k = c ∧ B = some ⟨g, off, none⟩ ∧ j = 0 ∧ ms.length - k = 0)))) := by
    rcases A with _ | ⟨g, off, sp⟩
    · obtain rfl := g2.nil rfl
      refine ⟨none, 0, fun _ => g3, ?_, .inl ⟨rfl, by omega, rfl, by omega, rfl, rfl⟩⟩
      have : ms.length - k = 0 := by omega
      rw [this, List.drop_eq_nil_of_le (by have := g2.len; omega)]
      exact Qf.nil0 _
    · obtain ⟨g', off', cs, e, -⟩ := g2.ex _ rfl
      injection e with e1 e2 e3
      subst e1 e2 e3
      obtain ⟨q1, q2⟩ := g2.cut k (by omega) g off rfl
      by_cases hkc : k < c
      · exact ⟨_, _, fun _ => by rw [← g3]; rfl, q1 hkc, .inr ⟨g, off, rfl, .inl ⟨hkc, rfl, rfl⟩⟩⟩
      · have hkc : k = c := by omega
        have hz : ms.length - k = 0 := by omega
        refine ⟨_, 0, fun _ => by rw [← g3]; rfl, ?_, .inr ⟨g, off, rfl, .inr ⟨hkc, rfl, rfl, hz⟩⟩⟩
        rw [hz]
        exact q2 hkc
  obtain ⟨hQ, hway⟩ := hQ
  have hB := hB w
  have hc1 : Ch (fun x => x = m) w (((w.setCell ⟨m, 2, none⟩ (.slice B (ms.length - k) j)).setCell ⟨m, 3, none⟩ (.int .i64 ((said - k : Nat) : Int))).setCell ⟨m, 1, none⟩ (.int .i64 ack)) := ((Ch.of_grown (grownBy_set w m 2 _)).trans (Ch.of_grown (grownBy_set _ m 3 _)) (fun _ _ e => e)).trans (Ch.of_grown (grownBy_set _ m 1 _)) (fun _ _ e => e)
  have HV := Kp.mk (((g1.set 2 (.slice B (ms.length - k) j)).set 3 (.int .i64 ((said - k : Nat) : Int))).set 1 (.int .i64 ack))
  have HQ := Kp.mk (hQ.stay hc1 (fun x e h => hap (hB.symm.trans (by rw [← h]; exact e))))
  have HF := Kp.mk (g5.other hc1 (fun b cs m e => hby b cs m (.inl e)))
  have HC := Kp.mk hc1
  have HB := Kp.mk hB
  have H4 := Kp.mk g4
  have HX := Kp.mk (show (0 ≤ ack ∧ ack ≤ 65535) ∧ k ≤ said ∧ said ≤ wd ∧ 1 ≤ wd ∧ wd ≤ 4 ∧ said ≤ ms.length ∧ ms.length ≤ 512 ∧ all ≤ 20000 from ⟨hack, by omega, hfit⟩)
  obtain ⟨L, hL⟩ : ∃ L, L = ms.length := ⟨_, rfl⟩
  rw [← hL] at c2 HV HQ HB HC HX a6 a7 hway HF
  have HL := Kp.mk hL
  clear h hfit hnx hd hbd hap hby g1 g2 g3 g4 g5 hc1 hQ hB hle hmx hack hk hL
  have hfin : ∀ w9, Vb 58 w9 m [.int .i64 wd, .int .i64 ack, .slice B (L - k) j, .int .i64 ((said - k : Nat) : Int), .int .i64 all] → Qf w9 B (L - k) j (fs.drop k) → Fall P w9 fs → Sm P w9 m wd ack (said - k) all r (ms.drop k) := by
    intro w9 v9 q9 f9
    have hlen : (ms.drop k).length = L - k := by rw [List.length_drop, HL.out]
    refine ⟨⟨B, j, fs.drop k, by rw [hlen]; exact v9, by rw [hlen]; exact q9, by rw [hlen]; exact HB.out, by rw [List.map_drop, H4.out], f9.sub (fun f hf => List.mem_of_mem_drop hf)⟩, HX.out.1, by rw [hlen]; have := HX.out.2; omega⟩
  have HFIN := Kp.mk hfin
  clear hfin
  rcases hway with ⟨rfl, rfl, rfl, hl0, rfl, rfl⟩ | ⟨g, off, rfl, ⟨hkc, rfl, rfl⟩ | ⟨hkc, rfl, rfl, hl0⟩⟩
  · subst hl0
    go_enter Try.func30, Try.ntmps30
    go_wp2_with (first | (go_at_call 41; refine HA.mono ?_; rintro e w1 ⟨rfl, rfl⟩))
    go_ret2
    have e : wrap64 (said : Int) = ((said - 0 : Nat) : Int) := by have := HX.out.2; unfold wrap64; omega
    rw [e]
    exact ⟨rfl, HFIN.out _ HV.out HQ.out HF.out, HC.out⟩
  · have a9 : ¬ (c = k) := by omega
    go_enter Try.func30, Try.ntmps30
    go_wp2_with (first | (go_at_call 41; refine HA.mono ?_; rintro e w1 ⟨rfl, rfl⟩))
    go_ret2
    exact ⟨rfl, HFIN.out _ HV.out HQ.out HF.out, HC.out⟩
  · subst hkc
    rw [hl0] at HV HQ HB HC HFIN HF
    have hLk : L = k := by omega
    subst hLk
    go_enter Try.func30, Try.ntmps30
    go_wp2_with (first | (go_at_call 41; refine HA.mono ?_; rintro e w1 ⟨rfl, rfl⟩))
    go_ret2
    exact ⟨rfl, HFIN.out _ HV.out HQ.out HF.out, HC.out⟩
set_option maxRecDepth 100000 in
set_option maxHeartbeats 4000000 in
theorem mputS_no (h : Sm P w m wd nx said all r ms) {B n c : Nat} {A : Option Addr} {bs : List Int} (hr : Rd .u8 w B A n c bs) {E : Int} (hE : putSE n ms.length all = E) (h0 : E ≠ 0) : Calls Try.prog 26 #[.pointer (some ⟨m, 0, none⟩), .slice A n c] w fun e w' => e = .returned (.int .i64 E) ∧ w' = w := by
  obtain ⟨A0, m0, fs, h1, -, -, -, -⟩ := h.ex
  have c1 := h1.cell 4 rfl
  have c2 := h1.cell 2 rfl
  clear h h1
  generalize ms.length = left at *
  unfold putSE at hE
  split at hE
  · subst hE
    rename_i hn
    by_cases hn1 : (n : Int) < 1
    · clear hn
      go_enter Try.func26, Try.ntmps26
      go_wp2_with fail
      go_ret
      exact ⟨rfl, rfl⟩
    · have hn2 : (256 : Int) < n := by omega
      clear hn
      go_enter Try.func26, Try.ntmps26
      go_wp2_with fail
      go_ret
      exact ⟨rfl, rfl⟩
  · rename_i hn
    have hn1 : ¬ (n : Int) < 1 := by omega
    have hn2 : ¬ (256 : Int) < n := by omega
    split at hE
    · subst hE
      rename_i ha
      have ha1 : (20000 : Int) ≤ all := by omega
      clear hn ha
      go_enter Try.func26, Try.ntmps26
      go_wp2_with fail
      go_ret
      exact ⟨rfl, rfl⟩
    · rename_i ha
      have ha2 : decide ((20000 : Int) ≤ all) = false := decide_eq_false (by omega)
      split at hE
      · subst hE
        rename_i hl
        have hl1 : (512 : Int) ≤ left := by omega
        clear hn ha hl
        go_enter Try.func26, Try.ntmps26
        go_wp2_with fail
        go_ret
        exact ⟨rfl, rfl⟩
      · exact absurd hE.symm h0
set_option maxRecDepth 100000 in
set_option maxHeartbeats 4000000 in
theorem mputS_yes (h : Sm P w m wd nx said all r ms) {B n c : Nat} {A : Option Addr} {bs : List Int} (hr : Rd .u8 w B A n c bs) (hB : B ≤ w.heap.size) (hby : By bs) (hE : putSE n ms.length all = 0) : Calls Try.prog 26 #[.pointer (some ⟨m, 0, none⟩), .slice A n c] w fun e w' => ∃ r', e = .returned (.int .i64 0) ∧ Sm (fun b => P b ∨ w.heap.size ≤ b) w' m wd nx said (all + 1) r' (ms ++ [bs]) ∧ Ch (Kb m m r) w w' ∧ (r' = r ∨ ∀ k, r' = some k → w.heap.size ≤ k) := by
  have hE := putSE_yes hE
  have HX := Kp.mk (And.intro h.fit (And.intro h.nxb h.apart))
  obtain ⟨A0, m0, fs, h1, h2, h3, h4, h5⟩ := h.ex
  have c1 := h1.cell 4 rfl
  have c2 := h1.cell 2 rfl
  have hn1 : ¬ (n : Int) < 1 := by omega
  have hn2 : ¬ (256 : Int) < n := by omega
  have ha1 : decide ((20000 : Int) ≤ all) = false := decide_eq_false (by omega)
  have hl1 : decide ((512 : Int) ≤ ms.length) = false := decide_eq_false (by omega)
  have hw : IntKind.i64.wrap ((all : Int) + 1) = (all : Int) + 1 := by rw [IntKind.wrap_i64]; omega
  have HE := Kp.mk hE
  have H1 := Kp.mk h1
  have H2 := Kp.mk h2
  have H3 := Kp.mk h3
  have H4 := Kp.mk h4
  have H5 := Kp.mk h5
  have HR := Kp.mk hr
  have HBY := Kp.mk hby
  obtain ⟨n0, hn0⟩ : ∃ n0, n0 = ms.length := ⟨_, rfl⟩
  rw [← hn0] at hl1 c2 H1 H2 H3
  have HLN := Kp.mk hn0
  clear h h1 h2 h3 h4 h5 hE hr hby hn0
  go_enter Try.func26, Try.ntmps26
  go_upto_region 7 with fail
  clear hn1 hn2 ha1 hl1 c1 c2
  refine wp_region_held_drew (S := fun _ => True) (by kernel_rfl) trivial (fun hS0 => ?_)
  clear hS0
  have hb0 : Below w.heap.size w w.drew := (Below.refl _ _).drew
  have hV := H1.out.below hb0 H1.out.lt
  have hQ := H2.out.below hb0
  have hR := HR.out.below' hb0 hB
  have hF := H5.out.below hb0
  clear H1 H2 HR H5
  generalize w.drew = u at *
  refine takeD (i := 0) (v := .pointer (some ⟨m, 0, none⟩)) (some 24) rfl rfl (by kernel_rfl) (by kernel_rfl) (by kernel_rfl) (fun _ _ _ h => h) (Or.inl ⟨by rfl, ?_⟩) trivial ?_
  · rintro w' _
    go_simp
  try simp only [Act.put, List.setIfInBounds_toArray, List.set_cons_zero, List.set_cons_succ]
  refine takeD (i := 1) (v := .pointer (some ⟨m, 0, none⟩)) (some 25) rfl rfl (by kernel_rfl) (by kernel_rfl) (by kernel_rfl) (fun _ _ _ h => h) (Or.inl ⟨by rfl, ?_⟩) trivial ?_
  · rintro w' _
    go_simp
  try simp only [Act.put, List.setIfInBounds_toArray, List.set_cons_zero, List.set_cons_succ]
  refine takeD (i := 2) (v := .pointer (some ⟨m, 0, none⟩)) (some 26) rfl rfl (by kernel_rfl) (by kernel_rfl) (by kernel_rfl) (fun _ _ _ h => h) (Or.inl ⟨by rfl, ?_⟩) trivial ?_
  · rintro w' _
    go_simp
  try simp only [Act.put, List.setIfInBounds_toArray, List.set_cons_zero, List.set_cons_succ]
  refine takeD (i := 3) (v := .pointer (some ⟨m, 2, none⟩)) (some 27) rfl rfl (by kernel_rfl) (by kernel_rfl) (by kernel_rfl) (fun _ _ _ h => h) (Or.inl ⟨by rfl, ?_⟩) trivial ?_
  · rintro w' _
    go_simp
  try simp only [Act.put, List.setIfInBounds_toArray, List.set_cons_zero, List.set_cons_succ]
  refine takeD (i := 5) (v := .slice A n c) (some 29) rfl rfl (by kernel_rfl) (by kernel_rfl) (by kernel_rfl) (fun _ _ _ h => h) (Or.inl ⟨by rfl, ?_⟩) trivial ?_
  · rintro w' _
    go_simp
  try simp only [Act.put, List.setIfInBounds_toArray, List.set_cons_zero, List.set_cons_succ]
  refine wpAnyH_ready (rs := [4, 6]) (by kernel_rfl) (by simp) ?_
  refine AllReadyH.cons rfl (fun K hK => ?_) (AllReadyH.cons rfl (fun K hK => ?_) AllReadyH.nil)
  · skip
    try rw [if_pos (by rfl)]
    have k1 := hV.cell 2 rfl
    go_simp
    refine hK.out _ _ trivial (fun _ => ?_)
    clear hK K
    try simp only [Act.put, List.setIfInBounds_toArray, List.set_cons_zero, List.set_cons_succ]
    clear k1
    refine wpAnyH_ready (rs := [6]) (by kernel_rfl) (by simp) ?_
    refine AllReadyH.cons rfl (fun K hK => ?_) AllReadyH.nil
    try rw [if_pos (by rfl)]
    go_simp
    go_at_call 25
    refine (sndCopy_any hR (by have := HE.out; omega) HBY.out).mono ?_
    rintro e u1 ⟨g, rfl, hgl, hgn, -, hg, hb⟩
    have HGL := Kp.mk hgl
    have HG := Kp.mk (hg.imp (Q := fun b => w.heap.size ≤ b) (fun b _ h => Nat.le_trans hb0.size h))
    have hV := hV.below hb hV.lt
    have hQ := hQ.below hb
    have hF := hF.below hb
    have hb0 := hb0.trans (hb.mono hb0.size)
    clear hR hgl hgn hg hb
    refine hK.out _ _ trivial (fun _ => ?_)
    clear hK K
    try simp only [Act.put, List.setIfInBounds_toArray, List.set_cons_zero, List.set_cons_succ]
    refine wpAnyH_ready (rs := [7]) (by kernel_rfl) (by simp) ?_
    refine AllReadyH.cons rfl (fun K hK => ?_) AllReadyH.nil
    try rw [if_pos (by rfl)]
    go_simp
    have hb := below_alloc u1 (.cells #[.slice g.A g.n g.c] 30)
    have HG := Kp.mk (HG.out.below hb)
    have hV := hV.below hb hV.lt
    have hQ := hQ.below hb
    have hF := hF.below hb
    have hb0 := hb0.trans (hb.mono hb0.size)
    have hcl : (u1.alloc (.cells #[.slice g.A g.n g.c] 30)).cell? ⟨u1.heap.size, 0, none⟩ = some g.val := (Vb.new 30 u1 [.slice g.A g.n g.c]).cell 0 rfl
    clear hb
    refine hK.out _ _ trivial (fun _ => ?_)
    clear hK K
    try simp only [Act.put, List.setIfInBounds_toArray, List.set_cons_zero, List.set_cons_succ]
    generalize u1.alloc _ = u2 at *
    generalize u1.heap.size = gl at *
    refine wpAnyH_ready (rs := [8]) (by kernel_rfl) (by simp) ?_
    refine AllReadyH.cons rfl (fun K hK => ?_) AllReadyH.nil
    try rw [if_pos (by rfl)]
    obtain ⟨A2, c2, u3, hrun, hQ3, hC3, hat⟩ := hQ.push 51 hcl (by have := HE.out; have := HLN.out; omega)
    have hap := HX.out.2.2
    have hV3 : Vb 58 u3 m [.int .i64 wd, .int .i64 nx, .slice A0 n0 m0, .int .i64 said, .int .i64 all] := (hC3.block m hV.lt (fun e => hap (H3.out.symm.trans e))).trans hV
    have hF3 := hF.other hC3 (fun b cs m e => by obtain ⟨_, cs2, hv⟩ := hQ.at_ b e; exact vb_no hv (by decide) cs m)
    have hG3 := HG.out.stay hC3 (fun b cs m _ _ hb e => by obtain ⟨_, cs2, hv⟩ := hQ.at_ b e; exact vb_no hv (by decide) cs m hb)
    have HC := Kp.mk ((Ch.of_below (S := Kb m m r) hb0).trans hC3 (fun x _ e => Or.inr (.inr (H3.out.symm.trans e))))
    have HAT := Kp.mk (show (Value.slice A2 (n0 + 1) c2).ownBlock = r ∨ ∀ k, (Value.slice A2 (n0 + 1) c2).ownBlock = some k → w.heap.size ≤ k from hat.imp (fun e => e.trans H3.out) (fun h k hk => Nat.le_trans hb0.size (h k hk)))
    have HNE := Kp.mk (show ∀ k, (Value.slice A2 (n0 + 1) c2).ownBlock = some k → k ≠ m from fun k hk => by
      obtain ⟨_, cs2, hv⟩ := hQ3.at_ k hk
      exact fun e => vb_no hV3 (by decide) _ _ (e ▸ hv))
    clear hC3 hat hV hQ hF hcl hap hb0 HG
    refine sndOp_append (.tmp 28) (.tmp 31) rfl rfl rfl hrun (hK.out _ _ trivial (fun _ => ?_))
    clear hK K hrun
    try simp only [Act.put, List.setIfInBounds_toArray, List.set_cons_zero, List.set_cons_succ]
    refine takeD (i := 9) (v := .pointer (some ⟨m, 0, none⟩)) (some 33) rfl rfl (by kernel_rfl) (by kernel_rfl) (by kernel_rfl) (fun _ _ _ h => h) (Or.inl ⟨by rfl, ?_⟩) trivial ?_
    · rintro w' _
      go_simp
    try simp only [Act.put, List.setIfInBounds_toArray, List.set_cons_zero, List.set_cons_succ]
    refine takeD (i := 10) (v := .pointer (some ⟨m, 2, none⟩)) (some 34) rfl rfl (by kernel_rfl) (by kernel_rfl) (by kernel_rfl) (fun _ _ _ h => h) (Or.inl ⟨by rfl, ?_⟩) trivial ?_
    · rintro w' _
      go_simp
    try simp only [Act.put, List.setIfInBounds_toArray, List.set_cons_zero, List.set_cons_succ]
    refine wpAnyH_ready (rs := [11]) (by kernel_rfl) (by simp) ?_
    refine AllReadyH.cons rfl (fun K hK => ?_) AllReadyH.nil
    try rw [if_pos (by rfl)]
    have k1 := hV3.cell 2 rfl
    have hf := hV3.free 2
    have hc4 : Ch (fun x => x = m) u3 (u3.setCell ⟨m, 2, none⟩ (.slice A2 (n0 + 1) c2)) := .of_grown (grownBy_set u3 m 2 _)
    have hV4 := hV3.set 2 (.slice A2 (n0 + 1) c2)
    have HQ4 := Kp.mk (hQ3.stay hc4 (fun k hk => HNE.out k hk))
    have HF4 := Kp.mk (hF3.other hc4 (fun b cs m e => by rw [e]; exact vb_no hV3 (by decide) cs m))
    have HG4 := Kp.mk (hG3.stay hc4 (fun b cs m _ _ hb e => by rw [e] at hb; exact vb_no hV3 (by decide) cs m hb))
    have HC4 := Kp.mk (HC.out.trans hc4 (fun x _ e => Or.inl e))
    clear hV3 hQ3 hF3 hG3 HC hc4
    go_simp
    refine hK.out _ _ trivial (fun _ => ?_)
    clear hK K k1 hf
    try simp only [Act.put, List.setIfInBounds_toArray, List.set_cons_zero, List.set_cons_succ]
    refine wpAnyH_done (by kernel_rfl) ?_ _
    change Vb _ _ _ [.int .i64 wd, .int .i64 nx, .slice A2 (n0 + 1) c2, .int .i64 said, .int .i64 all] at hV4
    generalize u3.setCell _ _ = u4 at *
    have k1 := hV4.cell 4 rfl
    have hf := hV4.free 4
    have hc5 : Ch (fun x => x = m) u4 (u4.setCell ⟨m, 4, none⟩ (.int .i64 ((all : Int) + 1))) := .of_grown (grownBy_set u4 m 4 _)
    have HV5 := Kp.mk (hV4.set 4 (.int .i64 ((all : Int) + 1)))
    have HQ5 := Kp.mk (HQ4.out.stay hc5 (fun k hk => HNE.out k hk))
    have HF5 := Kp.mk (HF4.out.other hc5 (fun b cs m e => by rw [e]; exact vb_no hV4 (by decide) cs m))
    have HG5 := Kp.mk (HG4.out.stay hc5 (fun b cs m _ _ hb e => by rw [e] at hb; exact vb_no hV4 (by decide) cs m hb))
    have HC5 := Kp.mk (HC4.out.trans hc5 (fun x _ e => Or.inl e))
    clear hV4 hc5 HQ4 HF4 HG4 HC4
    go_wp2_with fail
    go_ret
    have hlen : (ms ++ [bs]).length = n0 + 1 := by rw [List.length_append, HLN.out]; rfl
    refine ⟨_, rfl, ⟨⟨A2, c2, fs ++ [g], ?_, ?_, rfl, ?_, ?_⟩, HX.out.2.1, ?_⟩, HC5.out, ?_⟩
    · rw [hlen]; exact HV5.out
    · rw [hlen]; exact HQ5.out
    · rw [List.map_append, H4.out]; simp [HGL.out]
    · exact (HF5.out.imp (fun _ _ h => Or.inl h)).append (Fall.one (HG5.out.imp (fun _ _ h => Or.inr h)))
    · have h1 := HX.out.1
      have h2 := HE.out
      rw [hlen]
      have := HLN.out
      omega
    · rw [hlen]; exact HAT.out
  · skip
    try rw [if_pos (by rfl)]
    go_simp
    go_at_call 25
    refine (sndCopy_any hR (by have := HE.out; omega) HBY.out).mono ?_
    rintro e u1 ⟨g, rfl, hgl, hgn, -, hg, hb⟩
    have HGL := Kp.mk hgl
    have HG := Kp.mk (hg.imp (Q := fun b => w.heap.size ≤ b) (fun b _ h => Nat.le_trans hb0.size h))
    have hV := hV.below hb hV.lt
    have hQ := hQ.below hb
    have hF := hF.below hb
    have hb0 := hb0.trans (hb.mono hb0.size)
    clear hR hgl hgn hg hb
    refine hK.out _ _ trivial (fun _ => ?_)
    clear hK K
    try simp only [Act.put, List.setIfInBounds_toArray, List.set_cons_zero, List.set_cons_succ]
    refine wpAnyH_ready (rs := [4, 7]) (by kernel_rfl) (by simp) ?_
    refine AllReadyH.cons rfl (fun K hK => ?_) (AllReadyH.cons rfl (fun K hK => ?_) AllReadyH.nil)
    · skip
      try rw [if_pos (by rfl)]
      have k1 := hV.cell 2 rfl
      go_simp
      refine hK.out _ _ trivial (fun _ => ?_)
      clear hK K
      try simp only [Act.put, List.setIfInBounds_toArray, List.set_cons_zero, List.set_cons_succ]
      clear k1
      refine wpAnyH_ready (rs := [7]) (by kernel_rfl) (by simp) ?_
      refine AllReadyH.cons rfl (fun K hK => ?_) AllReadyH.nil
      try rw [if_pos (by rfl)]
      go_simp
      have hb := below_alloc u1 (.cells #[.slice g.A g.n g.c] 30)
      have HG := Kp.mk (HG.out.below hb)
      have hV := hV.below hb hV.lt
      have hQ := hQ.below hb
      have hF := hF.below hb
      have hb0 := hb0.trans (hb.mono hb0.size)
      have hcl : (u1.alloc (.cells #[.slice g.A g.n g.c] 30)).cell? ⟨u1.heap.size, 0, none⟩ = some g.val := (Vb.new 30 u1 [.slice g.A g.n g.c]).cell 0 rfl
      clear hb
      refine hK.out _ _ trivial (fun _ => ?_)
      clear hK K
      try simp only [Act.put, List.setIfInBounds_toArray, List.set_cons_zero, List.set_cons_succ]
      generalize u1.alloc _ = u2 at *
      generalize u1.heap.size = gl at *
      refine wpAnyH_ready (rs := [8]) (by kernel_rfl) (by simp) ?_
      refine AllReadyH.cons rfl (fun K hK => ?_) AllReadyH.nil
      try rw [if_pos (by rfl)]
      obtain ⟨A2, c2, u3, hrun, hQ3, hC3, hat⟩ := hQ.push 51 hcl (by have := HE.out; have := HLN.out; omega)
      have hap := HX.out.2.2
      have hV3 : Vb 58 u3 m [.int .i64 wd, .int .i64 nx, .slice A0 n0 m0, .int .i64 said, .int .i64 all] := (hC3.block m hV.lt (fun e => hap (H3.out.symm.trans e))).trans hV
      have hF3 := hF.other hC3 (fun b cs m e => by obtain ⟨_, cs2, hv⟩ := hQ.at_ b e; exact vb_no hv (by decide) cs m)
      have hG3 := HG.out.stay hC3 (fun b cs m _ _ hb e => by obtain ⟨_, cs2, hv⟩ := hQ.at_ b e; exact vb_no hv (by decide) cs m hb)
      have HC := Kp.mk ((Ch.of_below (S := Kb m m r) hb0).trans hC3 (fun x _ e => Or.inr (.inr (H3.out.symm.trans e))))
      have HAT := Kp.mk (show (Value.slice A2 (n0 + 1) c2).ownBlock = r ∨ ∀ k, (Value.slice A2 (n0 + 1) c2).ownBlock = some k → w.heap.size ≤ k from hat.imp (fun e => e.trans H3.out) (fun h k hk => Nat.le_trans hb0.size (h k hk)))
      have HNE := Kp.mk (show ∀ k, (Value.slice A2 (n0 + 1) c2).ownBlock = some k → k ≠ m from fun k hk => by
        obtain ⟨_, cs2, hv⟩ := hQ3.at_ k hk
        exact fun e => vb_no hV3 (by decide) _ _ (e ▸ hv))
      clear hC3 hat hV hQ hF hcl hap hb0 HG
      refine sndOp_append (.tmp 28) (.tmp 31) rfl rfl rfl hrun (hK.out _ _ trivial (fun _ => ?_))
      clear hK K hrun
      try simp only [Act.put, List.setIfInBounds_toArray, List.set_cons_zero, List.set_cons_succ]
      refine takeD (i := 9) (v := .pointer (some ⟨m, 0, none⟩)) (some 33) rfl rfl (by kernel_rfl) (by kernel_rfl) (by kernel_rfl) (fun _ _ _ h => h) (Or.inl ⟨by rfl, ?_⟩) trivial ?_
      · rintro w' _
        go_simp
      try simp only [Act.put, List.setIfInBounds_toArray, List.set_cons_zero, List.set_cons_succ]
      refine takeD (i := 10) (v := .pointer (some ⟨m, 2, none⟩)) (some 34) rfl rfl (by kernel_rfl) (by kernel_rfl) (by kernel_rfl) (fun _ _ _ h => h) (Or.inl ⟨by rfl, ?_⟩) trivial ?_
      · rintro w' _
        go_simp
      try simp only [Act.put, List.setIfInBounds_toArray, List.set_cons_zero, List.set_cons_succ]
      refine wpAnyH_ready (rs := [11]) (by kernel_rfl) (by simp) ?_
      refine AllReadyH.cons rfl (fun K hK => ?_) AllReadyH.nil
      try rw [if_pos (by rfl)]
      have k1 := hV3.cell 2 rfl
      have hf := hV3.free 2
      have hc4 : Ch (fun x => x = m) u3 (u3.setCell ⟨m, 2, none⟩ (.slice A2 (n0 + 1) c2)) := .of_grown (grownBy_set u3 m 2 _)
      have hV4 := hV3.set 2 (.slice A2 (n0 + 1) c2)
      have HQ4 := Kp.mk (hQ3.stay hc4 (fun k hk => HNE.out k hk))
      have HF4 := Kp.mk (hF3.other hc4 (fun b cs m e => by rw [e]; exact vb_no hV3 (by decide) cs m))
      have HG4 := Kp.mk (hG3.stay hc4 (fun b cs m _ _ hb e => by rw [e] at hb; exact vb_no hV3 (by decide) cs m hb))
      have HC4 := Kp.mk (HC.out.trans hc4 (fun x _ e => Or.inl e))
      clear hV3 hQ3 hF3 hG3 HC hc4
      go_simp
      refine hK.out _ _ trivial (fun _ => ?_)
      clear hK K k1 hf
      try simp only [Act.put, List.setIfInBounds_toArray, List.set_cons_zero, List.set_cons_succ]
      refine wpAnyH_done (by kernel_rfl) ?_ _
      change Vb _ _ _ [.int .i64 wd, .int .i64 nx, .slice A2 (n0 + 1) c2, .int .i64 said, .int .i64 all] at hV4
      generalize u3.setCell _ _ = u4 at *
      have k1 := hV4.cell 4 rfl
      have hf := hV4.free 4
      have hc5 : Ch (fun x => x = m) u4 (u4.setCell ⟨m, 4, none⟩ (.int .i64 ((all : Int) + 1))) := .of_grown (grownBy_set u4 m 4 _)
      have HV5 := Kp.mk (hV4.set 4 (.int .i64 ((all : Int) + 1)))
      have HQ5 := Kp.mk (HQ4.out.stay hc5 (fun k hk => HNE.out k hk))
      have HF5 := Kp.mk (HF4.out.other hc5 (fun b cs m e => by rw [e]; exact vb_no hV4 (by decide) cs m))
      have HG5 := Kp.mk (HG4.out.stay hc5 (fun b cs m _ _ hb e => by rw [e] at hb; exact vb_no hV4 (by decide) cs m hb))
      have HC5 := Kp.mk (HC4.out.trans hc5 (fun x _ e => Or.inl e))
      clear hV4 hc5 HQ4 HF4 HG4 HC4
      go_wp2_with fail
      go_ret
      have hlen : (ms ++ [bs]).length = n0 + 1 := by rw [List.length_append, HLN.out]; rfl
      refine ⟨_, rfl, ⟨⟨A2, c2, fs ++ [g], ?_, ?_, rfl, ?_, ?_⟩, HX.out.2.1, ?_⟩, HC5.out, ?_⟩
      · rw [hlen]; exact HV5.out
      · rw [hlen]; exact HQ5.out
      · rw [List.map_append, H4.out]; simp [HGL.out]
      · exact (HF5.out.imp (fun _ _ h => Or.inl h)).append (Fall.one (HG5.out.imp (fun _ _ h => Or.inr h)))
      · have h1 := HX.out.1
        have h2 := HE.out
        rw [hlen]
        have := HLN.out
        omega
      · rw [hlen]; exact HAT.out
    · skip
      try rw [if_pos (by rfl)]
      go_simp
      have hb := below_alloc u1 (.cells #[.slice g.A g.n g.c] 30)
      have HG := Kp.mk (HG.out.below hb)
      have hV := hV.below hb hV.lt
      have hQ := hQ.below hb
      have hF := hF.below hb
      have hb0 := hb0.trans (hb.mono hb0.size)
      have hcl : (u1.alloc (.cells #[.slice g.A g.n g.c] 30)).cell? ⟨u1.heap.size, 0, none⟩ = some g.val := (Vb.new 30 u1 [.slice g.A g.n g.c]).cell 0 rfl
      clear hb
      refine hK.out _ _ trivial (fun _ => ?_)
      clear hK K
      try simp only [Act.put, List.setIfInBounds_toArray, List.set_cons_zero, List.set_cons_succ]
      generalize u1.alloc _ = u2 at *
      generalize u1.heap.size = gl at *
      refine wpAnyH_ready (rs := [4]) (by kernel_rfl) (by simp) ?_
      refine AllReadyH.cons rfl (fun K hK => ?_) AllReadyH.nil
      try rw [if_pos (by rfl)]
      have k1 := hV.cell 2 rfl
      go_simp
      refine hK.out _ _ trivial (fun _ => ?_)
      clear hK K
      try simp only [Act.put, List.setIfInBounds_toArray, List.set_cons_zero, List.set_cons_succ]
      clear k1
      refine wpAnyH_ready (rs := [8]) (by kernel_rfl) (by simp) ?_
      refine AllReadyH.cons rfl (fun K hK => ?_) AllReadyH.nil
      try rw [if_pos (by rfl)]
      obtain ⟨A2, c2, u3, hrun, hQ3, hC3, hat⟩ := hQ.push 51 hcl (by have := HE.out; have := HLN.out; omega)
      have hap := HX.out.2.2
      have hV3 : Vb 58 u3 m [.int .i64 wd, .int .i64 nx, .slice A0 n0 m0, .int .i64 said, .int .i64 all] := (hC3.block m hV.lt (fun e => hap (H3.out.symm.trans e))).trans hV
      have hF3 := hF.other hC3 (fun b cs m e => by obtain ⟨_, cs2, hv⟩ := hQ.at_ b e; exact vb_no hv (by decide) cs m)
      have hG3 := HG.out.stay hC3 (fun b cs m _ _ hb e => by obtain ⟨_, cs2, hv⟩ := hQ.at_ b e; exact vb_no hv (by decide) cs m hb)
      have HC := Kp.mk ((Ch.of_below (S := Kb m m r) hb0).trans hC3 (fun x _ e => Or.inr (.inr (H3.out.symm.trans e))))
      have HAT := Kp.mk (show (Value.slice A2 (n0 + 1) c2).ownBlock = r ∨ ∀ k, (Value.slice A2 (n0 + 1) c2).ownBlock = some k → w.heap.size ≤ k from hat.imp (fun e => e.trans H3.out) (fun h k hk => Nat.le_trans hb0.size (h k hk)))
      have HNE := Kp.mk (show ∀ k, (Value.slice A2 (n0 + 1) c2).ownBlock = some k → k ≠ m from fun k hk => by
        obtain ⟨_, cs2, hv⟩ := hQ3.at_ k hk
        exact fun e => vb_no hV3 (by decide) _ _ (e ▸ hv))
      clear hC3 hat hV hQ hF hcl hap hb0 HG
      refine sndOp_append (.tmp 28) (.tmp 31) rfl rfl rfl hrun (hK.out _ _ trivial (fun _ => ?_))
      clear hK K hrun
      try simp only [Act.put, List.setIfInBounds_toArray, List.set_cons_zero, List.set_cons_succ]
      refine takeD (i := 9) (v := .pointer (some ⟨m, 0, none⟩)) (some 33) rfl rfl (by kernel_rfl) (by kernel_rfl) (by kernel_rfl) (fun _ _ _ h => h) (Or.inl ⟨by rfl, ?_⟩) trivial ?_
      · rintro w' _
        go_simp
      try simp only [Act.put, List.setIfInBounds_toArray, List.set_cons_zero, List.set_cons_succ]
      refine takeD (i := 10) (v := .pointer (some ⟨m, 2, none⟩)) (some 34) rfl rfl (by kernel_rfl) (by kernel_rfl) (by kernel_rfl) (fun _ _ _ h => h) (Or.inl ⟨by rfl, ?_⟩) trivial ?_
      · rintro w' _
        go_simp
      try simp only [Act.put, List.setIfInBounds_toArray, List.set_cons_zero, List.set_cons_succ]
      refine wpAnyH_ready (rs := [11]) (by kernel_rfl) (by simp) ?_
      refine AllReadyH.cons rfl (fun K hK => ?_) AllReadyH.nil
      try rw [if_pos (by rfl)]
      have k1 := hV3.cell 2 rfl
      have hf := hV3.free 2
      have hc4 : Ch (fun x => x = m) u3 (u3.setCell ⟨m, 2, none⟩ (.slice A2 (n0 + 1) c2)) := .of_grown (grownBy_set u3 m 2 _)
      have hV4 := hV3.set 2 (.slice A2 (n0 + 1) c2)
      have HQ4 := Kp.mk (hQ3.stay hc4 (fun k hk => HNE.out k hk))
      have HF4 := Kp.mk (hF3.other hc4 (fun b cs m e => by rw [e]; exact vb_no hV3 (by decide) cs m))
      have HG4 := Kp.mk (hG3.stay hc4 (fun b cs m _ _ hb e => by rw [e] at hb; exact vb_no hV3 (by decide) cs m hb))
      have HC4 := Kp.mk (HC.out.trans hc4 (fun x _ e => Or.inl e))
      clear hV3 hQ3 hF3 hG3 HC hc4
      go_simp
      refine hK.out _ _ trivial (fun _ => ?_)
      clear hK K k1 hf
      try simp only [Act.put, List.setIfInBounds_toArray, List.set_cons_zero, List.set_cons_succ]
      refine wpAnyH_done (by kernel_rfl) ?_ _
      change Vb _ _ _ [.int .i64 wd, .int .i64 nx, .slice A2 (n0 + 1) c2, .int .i64 said, .int .i64 all] at hV4
      generalize u3.setCell _ _ = u4 at *
      have k1 := hV4.cell 4 rfl
      have hf := hV4.free 4
      have hc5 : Ch (fun x => x = m) u4 (u4.setCell ⟨m, 4, none⟩ (.int .i64 ((all : Int) + 1))) := .of_grown (grownBy_set u4 m 4 _)
      have HV5 := Kp.mk (hV4.set 4 (.int .i64 ((all : Int) + 1)))
      have HQ5 := Kp.mk (HQ4.out.stay hc5 (fun k hk => HNE.out k hk))
      have HF5 := Kp.mk (HF4.out.other hc5 (fun b cs m e => by rw [e]; exact vb_no hV4 (by decide) cs m))
      have HG5 := Kp.mk (HG4.out.stay hc5 (fun b cs m _ _ hb e => by rw [e] at hb; exact vb_no hV4 (by decide) cs m hb))
      have HC5 := Kp.mk (HC4.out.trans hc5 (fun x _ e => Or.inl e))
      clear hV4 hc5 HQ4 HF4 HG4 HC4
      go_wp2_with fail
      go_ret
      have hlen : (ms ++ [bs]).length = n0 + 1 := by rw [List.length_append, HLN.out]; rfl
      refine ⟨_, rfl, ⟨⟨A2, c2, fs ++ [g], ?_, ?_, rfl, ?_, ?_⟩, HX.out.2.1, ?_⟩, HC5.out, ?_⟩
      · rw [hlen]; exact HV5.out
      · rw [hlen]; exact HQ5.out
      · rw [List.map_append, H4.out]; simp [HGL.out]
      · exact (HF5.out.imp (fun _ _ h => Or.inl h)).append (Fall.one (HG5.out.imp (fun _ _ h => Or.inr h)))
      · have h1 := HX.out.1
        have h2 := HE.out
        rw [hlen]
        have := HLN.out
        omega
      · rw [hlen]; exact HAT.out
end
end Go.Proofs.Ytkpjnikbcgngbaa.Oct
