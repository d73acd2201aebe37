/- Plain facts of layer 4 (probe). No Go in sight. -/
import Derived.Test.YtmigpmhppapkmaaDatP
namespace Go.Proofs.Ytmigpmhppapkmaa.Oct
open Go.RowKit
set_option linter.unusedVariables false

/-- A probe may be. -/
def okQ (f p t q n : Int) : Prop := (1 ≤ f ∧ f ≤ 6) ∧ (1 ≤ p ∧ p ≤ 4) ∧ ((t = 0 ∧ q = 0) ∨ ((1 ≤ t ∧ t ≤ 6) ∧ (1 ≤ q ∧ q ≤ 4))) ∧ (0 ≤ n ∧ n ≤ 65535)
instance (f p t q n : Int) : Decidable (okQ f p t q n) := by unfold okQ; infer_instance
/-- Its body. -/
def qB (f p t q n : Int) : List Int := dg 1 f ++ (dg 1 p ++ (dg 1 t ++ (dg 1 q ++ dg 2 n)))
theorem qB_by (f p t q n : Int) : By (qB f p t q n) := (dg_by _ _).append ((dg_by _ _).append ((dg_by _ _).append ((dg_by _ _).append (dg_by _ _))))
theorem qB_len (f p t q n : Int) : (qB f p t q n).length = 6 := by simp [qB, dg_len]
/-- What Check answers; a probe's bytes. -/
def checkQ (f p t q n : Int) : Int := if okQ f p t q n then 0 else 2
def bytesQ (f p t q n : Int) : List Int × Int := if okQ f p t q n then (frm 2 (qB f p t q n), 0) else ([], 2)
theorem checkQ_zero (f p t q n : Int) : checkQ f p t q n = 0 ↔ okQ f p t q n := by
  unfold checkQ
  split
  · rename_i h; exact ⟨fun _ => h, fun _ => rfl⟩
  · rename_i h; exact ⟨fun e => by omega, fun e => absurd e h⟩
theorem bytesQ_by (f p t q n : Int) : By (bytesQ f p t q n).1 := by
  unfold bytesQ
  split
  · exact frm_by 2 _ (by omega) (qB_by _ _ _ _ _)
  · exact By.nil
theorem bytesQ_ok {f p t q n : Int} (ok : okQ f p t q n) : bytesQ f p t q n = sealP 2 (qB f p t q n) := by
  unfold bytesQ
  rw [if_pos ok, seal_frm 2 _ (by omega) (qB_by _ _ _ _ _) (by rw [qB_len]; omega)]
/-- The readings of a probe, one behind the other: what they tell, what is left, what was wrong first. -/
def s1 (l : List Int) := numR 1 l 0
def s2 (l : List Int) := numR 1 (s1 l).2.1 (s1 l).2.2
def s3 (l : List Int) := numR 1 (s2 l).2.1 (s2 l).2.2
def s4 (l : List Int) := numR 1 (s3 l).2.1 (s3 l).2.2
def s5 (l : List Int) := numR 2 (s4 l).2.1 (s4 l).2.2
theorem two_piece (v : Int) (h : 0 ≤ v ∧ v < 65536) (R : List Int) : numR 2 (dg 2 v ++ R) 0 = (v, R, 0) := numR_piece 2 (by omega) v h.1 (by omega) R
theorem read_qB (f p t q n : Int) (hf : 0 ≤ f ∧ f < 256) (hp : 0 ≤ p ∧ p < 256) (ht : 0 ≤ t ∧ t < 256) (hq : 0 ≤ q ∧ q < 256) (hn : 0 ≤ n ∧ n < 65536) (R : List Int) :
    let l := qB f p t q n ++ R
    (s1 l).1 = f ∧ (s2 l).1 = p ∧ (s3 l).1 = t ∧ (s4 l).1 = q ∧ s5 l = (n, R, 0) := by
  intro l
  have e : l = dg 1 f ++ (dg 1 p ++ (dg 1 t ++ (dg 1 q ++ (dg 2 n ++ R)))) := by simp [l, qB, List.append_assoc]
  have e1 : s1 l = (f, dg 1 p ++ (dg 1 t ++ (dg 1 q ++ (dg 2 n ++ R))), 0) := by rw [e]; exact one_piece f hf _
  have e2 : s2 l = (p, dg 1 t ++ (dg 1 q ++ (dg 2 n ++ R)), 0) := by unfold s2; rw [e1]; exact one_piece p hp _
  have e3 : s3 l = (t, dg 1 q ++ (dg 2 n ++ R), 0) := by unfold s3; rw [e2]; exact one_piece t ht _
  have e4 : s4 l = (q, dg 2 n ++ R, 0) := by unfold s4; rw [e3]; exact one_piece q hq _
  have e5 : s5 l = (n, R, 0) := by unfold s5; rw [e4]; exact two_piece n hn _
  rw [e1, e2, e3, e4]
  exact ⟨rfl, rfl, rfl, rfl, e5⟩
/-- Six bytes are a probe's body. -/
theorem sixB (l : List Int) (hl : By l) (h6 : l.length = 6) : ∃ f p t q n : Int, l = qB f p t q n ∧ (0 ≤ f ∧ f < 256) ∧ (0 ≤ p ∧ p < 256) ∧ (0 ≤ t ∧ t < 256) ∧ (0 ≤ q ∧ q < 256) ∧ (0 ≤ n ∧ n < 65536) := by
  obtain ⟨x0, l, rfl⟩ := List.exists_cons_of_length_eq_add_one (n := 5) h6
  obtain ⟨x1, l, rfl⟩ := List.exists_cons_of_length_eq_add_one (n := 4) (by simpa using h6)
  obtain ⟨x2, l, rfl⟩ := List.exists_cons_of_length_eq_add_one (n := 3) (by simpa using h6)
  obtain ⟨x3, l, rfl⟩ := List.exists_cons_of_length_eq_add_one (n := 2) (by simpa using h6)
  obtain ⟨x4, l, rfl⟩ := List.exists_cons_of_length_eq_add_one (n := 1) (by simpa using h6)
  obtain ⟨x5, l, rfl⟩ := List.exists_cons_of_length_eq_add_one (n := 0) (by simpa using h6)
  obtain rfl : l = [] := List.eq_nil_of_length_eq_zero (by simpa using h6)
  have h0 := hl x0 (by simp)
  have h1 := hl x1 (by simp)
  have h2 := hl x2 (by simp)
  have h3 := hl x3 (by simp)
  have h4 := hl x4 (by simp)
  have h5 := hl x5 (by simp)
  refine ⟨x0, x1, x2, x3, x4 * 256 + x5, ?_, h0, h1, h2, h3, by omega⟩
  simp [qB, dg]
  omega
/-- Whether nothing was wrong, and nothing is left, hangs on how many bytes there are. -/
theorem s5_end (l : List Int) : ((s5 l).2.2 = 0 ∧ (s5 l).2.1.length = 0) ↔ l.length = 6 := by
  have s1' : ((s1 l).2.2 = 0 ∧ 0 = (0 : Int) ∧ 1 ≤ l.length ∧ (s1 l).2.1.length = l.length - 1) ∨ ((s1 l).2.2 ≠ 0 ∧ (s1 l).2.1.length = 0 ∧ (0 ≠ (0 : Int) ∨ l.length < 1)) := numR_step 1 (by omega) 1 rfl l 0 (by simp)
  have s2' : ((s2 l).2.2 = 0 ∧ (s1 l).2.2 = (0 : Int) ∧ 1 ≤ (s1 l).2.1.length ∧ (s2 l).2.1.length = (s1 l).2.1.length - 1) ∨ ((s2 l).2.2 ≠ 0 ∧ (s2 l).2.1.length = 0 ∧ ((s1 l).2.2 ≠ (0 : Int) ∨ (s1 l).2.1.length < 1)) := numR_step 1 (by omega) 1 rfl (s1 l).2.1 (s1 l).2.2 (by omega)
  have s3' : ((s3 l).2.2 = 0 ∧ (s2 l).2.2 = (0 : Int) ∧ 1 ≤ (s2 l).2.1.length ∧ (s3 l).2.1.length = (s2 l).2.1.length - 1) ∨ ((s3 l).2.2 ≠ 0 ∧ (s3 l).2.1.length = 0 ∧ ((s2 l).2.2 ≠ (0 : Int) ∨ (s2 l).2.1.length < 1)) := numR_step 1 (by omega) 1 rfl (s2 l).2.1 (s2 l).2.2 (by omega)
  have s4' : ((s4 l).2.2 = 0 ∧ (s3 l).2.2 = (0 : Int) ∧ 1 ≤ (s3 l).2.1.length ∧ (s4 l).2.1.length = (s3 l).2.1.length - 1) ∨ ((s4 l).2.2 ≠ 0 ∧ (s4 l).2.1.length = 0 ∧ ((s3 l).2.2 ≠ (0 : Int) ∨ (s3 l).2.1.length < 1)) := numR_step 1 (by omega) 1 rfl (s3 l).2.1 (s3 l).2.2 (by omega)
  have s5' : ((s5 l).2.2 = 0 ∧ (s4 l).2.2 = (0 : Int) ∧ 2 ≤ (s4 l).2.1.length ∧ (s5 l).2.1.length = (s4 l).2.1.length - 2) ∨ ((s5 l).2.2 ≠ 0 ∧ (s5 l).2.1.length = 0 ∧ ((s4 l).2.2 ≠ (0 : Int) ∨ (s4 l).2.1.length < 2)) := numR_step 2 (by omega) 2 rfl (s4 l).2.1 (s4 l).2.2 (by omega)
  omega
/-- What bytes say: the five numbers, and what was wrong. -/
def parseQ (l : List Int) : (Int × Int × Int × Int × Int) × Int :=
  if (openP l).2.2 ≠ 0 then ((0, 0, 0, 0, 0), (openP l).2.2)
  else if (openP l).1 = 2 ∧ ((s5 (openP l).2.1).2.2 = 0 ∧ (s5 (openP l).2.1).2.1.length = 0) ∧ okQ (s1 (openP l).2.1).1 (s2 (openP l).2.1).1 (s3 (openP l).2.1).1 (s4 (openP l).2.1).1 (s5 (openP l).2.1).1 then
    (((s1 (openP l).2.1).1, (s2 (openP l).2.1).1, (s3 (openP l).2.1).1, (s4 (openP l).2.1).1, (s5 (openP l).2.1).1), 0)
  else ((0, 0, 0, 0, 0), 4)
/-- What Found answers. -/
def foundQ (f p t q n to po : Int) : (Int × Int × Int × Int × Int) × Int :=
  if ¬ okQ f p t q n then ((0, 0, 0, 0, 0), 2)
  else if t ≠ 0 then ((0, 0, 0, 0, 0), 180)
  else if (1 ≤ to ∧ to ≤ 6) ∧ (1 ≤ po ∧ po ≤ 4) then ((f, p, to, po, n), 0) else ((0, 0, 0, 0, 0), 2)
section
variable {f p t q n : Int}
theorem okQ_open (ok : okQ f p t q n) : openP (frm 2 (qB f p t q n)) = (2, qB f p t q n, 0) :=
  open_frm 2 _ (by omega) (qB_by _ _ _ _ _) (by rw [qB_len]; omega)
theorem parseQ_bytes (ok : okQ f p t q n) : parseQ (frm 2 (qB f p t q n)) = ((f, p, t, q, n), 0) := by
  have ok' := ok
  unfold okQ at ok'
  have e := read_qB f p t q n (by omega) (by omega) (by omega) (by omega) (by omega) []
  simp only [List.append_nil] at e
  obtain ⟨e1, e2, e3, e4, e5⟩ := e
  unfold parseQ
  rw [okQ_open ok, if_neg (by simp)]
  simp only [e1, e2, e3, e4, e5]
  rw [if_pos ⟨trivial, ⟨trivial, rfl⟩, ok⟩]
/-- What can be read has just these bytes. -/
theorem parseQ_again (l : List Int) (hl : By l) (h0 : (parseQ l).2 = 0) :
    ∃ f p t q n : Int, parseQ l = ((f, p, t, q, n), 0) ∧ okQ f p t q n ∧ l = frm 2 (qB f p t q n) := by
  by_cases he : (openP l).2.2 = 0
  · obtain ⟨e1, e2, e3, e4⟩ := open_inv l hl he
    have hby := openP_by l hl
    unfold parseQ at h0
    rw [if_neg (by simpa using he)] at h0
    split at h0
    · rename_i hc
      obtain ⟨c1, c2, c3⟩ := hc
      have h6 := (s5_end _).1 c2
      obtain ⟨f, p, t, q, n, e, hf, hp, ht, hq, hn⟩ := sixB _ hby h6
      have er := read_qB f p t q n hf hp ht hq hn []
      simp only [List.append_nil] at er
      rw [← e] at er
      obtain ⟨q1, q2, q3, q4, q5⟩ := er
      rw [q1, q2, q3, q4, q5] at c3
      refine ⟨f, p, t, q, n, ?_, c3, ?_⟩
      · rw [parseQ, if_neg (by simpa using he), if_pos ⟨c1, c2, by rw [q1, q2, q3, q4, q5]; exact c3⟩, q1, q2, q3, q4, q5]
      · rw [e1, c1, e]
    · simp at h0
  · unfold parseQ at h0
    rw [if_pos he] at h0
    exact absurd h0 he
theorem parseQ_bad {l : List Int} (h : (parseQ l).2 ≠ 0) : parseQ l = ((0, 0, 0, 0, 0), (parseQ l).2) := by
  unfold parseQ at h ⊢
  split
  · rfl
  · rename_i h1
    rw [if_neg h1] at h
    split
    · rename_i h2
      rw [if_pos h2] at h
      simp at h
    · rfl
end
theorem parseQ_no {l : List Int} (h : (openP l).2.2 ≠ 0) : parseQ l = ((0, 0, 0, 0, 0), (openP l).2.2) := if_pos h
theorem openQ_len (l : List Int) : (openP l).2.1.length ≤ 509 := by
  unfold openP
  split
  · simp
  · split
    · simp
    · split
      · simp only [List.length_take]; omega
      · simp
theorem endQ_zero (l : List Int) (e : Int) : endR l e = 0 ↔ (e = 0 ∧ l.length = 0) := by
  unfold endR
  split
  · constructor
    · intro h; omega
    · rintro ⟨_, h⟩; omega
  · constructor
    · intro h; exact ⟨h, by omega⟩
    · rintro ⟨h, _⟩; exact h
/-- Whether what was opened is a probe's. -/
def fineQ (k : Int) (m : List Int) : Prop := k = 2 ∧ endR (s5 m).2.1 (s5 m).2.2 = 0 ∧ checkQ (s1 m).1 (s2 m).1 (s3 m).1 (s4 m).1 (s5 m).1 = 0
theorem parseQ_yes {l : List Int} (h : (openP l).2.2 = 0) (hf : fineQ (openP l).1 (openP l).2.1) :
    parseQ l = (((s1 (openP l).2.1).1, (s2 (openP l).2.1).1, (s3 (openP l).2.1).1, (s4 (openP l).2.1).1, (s5 (openP l).2.1).1), 0) := by
  unfold parseQ
  obtain ⟨h1, h2, h3⟩ := hf
  rw [if_neg (by simpa using h), if_pos ⟨h1, (endQ_zero _ _).1 h2, (checkQ_zero _ _ _ _ _).1 h3⟩]
theorem parseQ_form {l : List Int} (h : (openP l).2.2 = 0) (hf : ¬ fineQ (openP l).1 (openP l).2.1) : parseQ l = ((0, 0, 0, 0, 0), 4) := by
  unfold parseQ
  rw [if_neg (by simpa using h), if_neg (fun ⟨h1, h2, h3⟩ => hf ⟨h1, (endQ_zero _ _).2 h2, (checkQ_zero _ _ _ _ _).2 h3⟩)]
end Go.Proofs.Ytmigpmhppapkmaa.Oct
