/-
  Joined: L8B, MaskB.
-/
import Derived.Test.YtinpglfclbnhlaaGreatDoorGPtA
import Derived.Test.YtinpglfclbnhlaaGreatDoorGMask
import Derived.Deep.QuietTactic
import Derived.BigQuiet
namespace Go.Proofs.YtinpglfclbnhlaaGreatDoor
set_option linter.unusedVariables false
set_option linter.unusedSimpArgs false
theorem hdS_app {a b : ByteArray} {n : Nat} (h : a.size = n) : hdS (a ++ b) n = a := by
  unfold hdS
  rw [ByteArray.size_append, Nat.min_eq_left (by omega)]
  exact ByteArray.extract_append_eq_left h.symm
theorem tlS_app {a b : ByteArray} {n : Nat} (h : a.size = n) : tlS (a ++ b) n = b := by
  unfold tlS
  rw [ByteArray.size_append, Nat.min_eq_left (by omega)]
  exact ByteArray.extract_append_eq_right h.symm (by omega)
theorem hdS_all {a : ByteArray} {n : Nat} (h : a.size ≤ n) : hdS a n = a := by
  unfold hdS
  rw [Nat.min_eq_right h]
  exact ByteArray.extract_zero_size
theorem size_zero {s : ByteArray} (h : s.size = 0) : s = ⟨#[]⟩ := by
  obtain ⟨⟨x⟩⟩ := s
  cases x with
  | nil => rfl
  | cons a b => simp [ByteArray.size] at h
/-- what a point is like, of each kind -/
theorem sane_kind {p : PT} (h : saneP p = true) : (0 ≤ p.k ∧ p.k < 6) ∧ (p.y.size : Int) = (shp p.k).y ∧ saneM p.y = true ∧ (p.m.size : Int) = (shp p.k).p ∧ (p.d.size : Int) = (shp p.k).d := by
  unfold saneP at h
  simp only [Bool.and_eq_true, decide_eq_true_eq] at h
  obtain ⟨h1, h2, h3, h4, h5⟩ := h
  have g : ∀ (s : ByteArray) (n m : Int), fitP s n m = true → (s.size : Int) = n := by
    intro s n m e
    unfold fitP at e
    split at e
    · have := of_decide_eq_true e; omega
    · rw [Bool.and_eq_true] at e
      exact of_decide_eq_true e.1
  exact ⟨h1, h2, h3, g _ _ _ h4, g _ _ _ h5⟩
theorem kinds6 {k : Int} (h : 0 ≤ k ∧ k < 6) : k = 0 ∨ k = 1 ∨ k = 2 ∨ k = 3 ∨ k = 4 ∨ k = 5 := by omega
def txtLen (k : Int) : Nat := if k = 0 then 10 else if k = 1 then 7 else if k = 2 then 6 else if k = 3 then 4 else if k = 4 then 4 else 3
theorem text_len {p : PT} (h : saneP p = true) : (textP p).size = txtLen p.k := by
  obtain ⟨hk, hy, _, hm, hd⟩ := sane_kind h
  unfold textP
  rw [if_pos h]
  have d1 : dash.size = 1 := rfl
  obtain ⟨k, y, m, d⟩ := p
  simp only at *
  have s1 : (⟨#[115]⟩ : ByteArray).size = 1 := rfl
  have s2 : (⟨#[100]⟩ : ByteArray).size = 1 := rfl
  have s3 : (⟨#[99]⟩ : ByteArray).size = 1 := rfl
  have s0 : (⟨#[]⟩ : ByteArray).size = 0 := rfl
  rcases kinds6 hk with rfl | rfl | rfl | rfl | rfl | rfl
  · have hy : (y.size : Int) = 4 := hy
    have hm : (m.size : Int) = 2 := hm
    have hd : (d.size : Int) = 2 := hd
    show (y ++ (dash ++ m ++ (dash ++ d))).size = 10
    rw [ByteArray.size_append, ByteArray.size_append, ByteArray.size_append, ByteArray.size_append]
    omega
  · have hy : (y.size : Int) = 4 := hy
    have hm : (m.size : Int) = 2 := hm
    show (y ++ (dash ++ m ++ ⟨#[]⟩)).size = 7
    rw [ByteArray.size_append, ByteArray.size_append, ByteArray.size_append]
    omega
  · have hy : (y.size : Int) = 4 := hy
    have hm : (m.size : Int) = 1 := hm
    show (y ++ ((⟨#[115]⟩ : ByteArray) ++ m)).size = 6
    rw [ByteArray.size_append, ByteArray.size_append]
    omega
  · have hy : (y.size : Int) = 4 := hy
    show (y ++ ⟨#[]⟩).size = 4
    rw [ByteArray.size_append]
    omega
  · have hy : (y.size : Int) = 3 := hy
    show (y ++ ⟨#[100]⟩).size = 4
    rw [ByteArray.size_append]
    omega
  · have hy : (y.size : Int) = 2 := hy
    show (y ++ ⟨#[99]⟩).size = 3
    rw [ByteArray.size_append]
    omega
theorem cut_text {p : PT} (h : saneP p = true) : cutP p.k (textP p) = p := by
  obtain ⟨hk, hy, _, hm, hd⟩ := sane_kind h
  have d1 : dash.size = 1 := rfl
  have s1 : (⟨#[115]⟩ : ByteArray).size = 1 := rfl
  unfold textP
  rw [if_pos h]
  clear h
  obtain ⟨k, y, m, d⟩ := p
  simp only at *
  rcases kinds6 hk with rfl | rfl | rfl | rfl | rfl | rfl
  · have hy : y.size = 4 := by have : (y.size : Int) = 4 := hy; omega
    have hm : m.size = 2 := by have : (m.size : Int) = 2 := hm; omega
    have hd : d.size = 2 := by have : (d.size : Int) = 2 := hd; omega
    simp only [cutP, if_pos]
    rw [ByteArray.append_assoc, hdS_app hy, tlS_app hy, tlS_app d1, hdS_app hm, tlS_app hm, tlS_app d1, hdS_all (by omega)]
  · have hy : y.size = 4 := by have : (y.size : Int) = 4 := hy; omega
    have hm : m.size = 2 := by have : (m.size : Int) = 2 := hm; omega
    have hd : d.size = 0 := by have : (d.size : Int) = 0 := hd; omega
    rw [size_zero hd]
    simp only [cutP, if_pos, if_neg (show ¬ (1 : Int) = 0 by decide)]
    rw [ByteArray.append_assoc, hdS_app hy, tlS_app hy, tlS_app d1, hdS_app hm]
  · have hy : y.size = 4 := by have : (y.size : Int) = 4 := hy; omega
    have hm : m.size = 1 := by have : (m.size : Int) = 1 := hm; omega
    have hd : d.size = 0 := by have : (d.size : Int) = 0 := hd; omega
    rw [size_zero hd]
    simp only [cutP, if_pos, if_neg (show ¬ (2 : Int) = 0 by decide), if_neg (show ¬ (2 : Int) = 1 by decide)]
    rw [hdS_app hy, tlS_app hy, tlS_app s1, hdS_all (by omega)]
  · have hy : y.size = 4 := by have : (y.size : Int) = 4 := hy; omega
    have hm : m.size = 0 := by have : (m.size : Int) = 0 := hm; omega
    have hd : d.size = 0 := by have : (d.size : Int) = 0 := hd; omega
    rw [size_zero hd, size_zero hm]
    simp only [cutP, if_pos, if_neg (show ¬ (3 : Int) = 0 by decide), if_neg (show ¬ (3 : Int) = 1 by decide), if_neg (show ¬ (3 : Int) = 2 by decide)]
    rw [hdS_app hy]
  · have hy : y.size = 3 := by have : (y.size : Int) = 3 := hy; omega
    have hm : m.size = 0 := by have : (m.size : Int) = 0 := hm; omega
    have hd : d.size = 0 := by have : (d.size : Int) = 0 := hd; omega
    rw [size_zero hd, size_zero hm]
    simp only [cutP, if_pos, if_neg (show ¬ (4 : Int) = 0 by decide), if_neg (show ¬ (4 : Int) = 1 by decide), if_neg (show ¬ (4 : Int) = 2 by decide), if_neg (show ¬ (4 : Int) = 3 by decide)]
    rw [hdS_app hy]
  · have hy : y.size = 2 := by have : (y.size : Int) = 2 := hy; omega
    have hm : m.size = 0 := by have : (m.size : Int) = 0 := hm; omega
    have hd : d.size = 0 := by have : (d.size : Int) = 0 := hd; omega
    rw [size_zero hd, size_zero hm]
    simp only [cutP, if_neg (show ¬ (5 : Int) = 0 by decide), if_neg (show ¬ (5 : Int) = 1 by decide), if_neg (show ¬ (5 : Int) = 2 by decide), if_neg (show ¬ (5 : Int) = 3 by decide), if_neg (show ¬ (5 : Int) = 4 by decide)]
    rw [hdS_app hy]
theorem cut_k (k : Nat) (hk : k < 6) (s : ByteArray) : (cutP (k : Int) s).k = k := by
  have : k = 0 ∨ k = 1 ∨ k = 2 ∨ k = 3 ∨ k = 4 ∨ k = 5 := by omega
  rcases this with rfl | rfl | rfl | rfl | rfl | rfl <;> rfl
theorem rdB_iff {s : ByteArray} {k : Int} : rdB s k = true ↔ saneP (cutP k s) = true ∧ textP (cutP k s) = s := by
  unfold rdB
  rw [Bool.and_eq_true, ← beq_toListBytes]
  constructor
  · rintro ⟨a, b⟩
    refine ⟨a, ?_⟩
    rw [beq_toListBytes, beq_iff_eq, ByteArray.toList_eq, ByteArray.toList_eq] at b
    generalize textP (cutP k s) = x at b
    obtain ⟨⟨x⟩⟩ := x
    obtain ⟨⟨y⟩⟩ := s
    simp only at b
    rw [b]
  · rintro ⟨a, b⟩
    refine ⟨a, ?_⟩
    rw [b, beq_toListBytes]
    simp
theorem dec_three {p : PT} (h : saneP p = true) (h4 : p.k = 4) : rdB (textP p) 3 = false := by
  rcases Bool.eq_false_or_eq_true (rdB (textP p) 3) with e | e
  · exfalso
    obtain ⟨a, _⟩ := rdB_iff.1 e
    obtain ⟨_, _, c, _⟩ := sane_kind a
    obtain ⟨hk, hy, _, hm, hd⟩ := sane_kind h
    have m := mk_of c
    have ey : (cutP 3 (textP p)).y = textP p := by
      have := text_len h
      rw [h4] at this
      simp only [cutP, if_pos, if_neg (show ¬ (3 : Int) = 0 by decide), if_neg (show ¬ (3 : Int) = 1 by decide), if_neg (show ¬ (3 : Int) = 2 by decide)]
      exact hdS_all (by rw [this]; decide)
    rw [ey] at m
    have hs := text_len h
    rw [h4] at hs
    have hs4 : (textP p).size = 4 := hs
    have := m.ok 3 (by omega)
    have et : textP p = p.y ++ ⟨#[100]⟩ := by
      unfold textP
      rw [if_pos h, h4]
      rfl
    have hy3 : p.y.size = 3 := by rw [h4] at hy; have : (p.y.size : Int) = 3 := hy; omega
    rw [et] at this
    have eb : bt (p.y ++ ⟨#[100]⟩) 3 = 100 := by
      have hl : p.y.data.toList.length = 3 := by rw [Array.length_toList]; exact hy3
      unfold bt
      rw [ByteArray.data_append, Array.toList_append, List.getD_eq_getElem?_getD, List.getElem?_append_right (by omega), hl]
      rfl
    omega
  · exact e
theorem read_back {p : PT} (h : saneP p = true) : readP (textP p) = (p, true) := by
  have ht := text_len h
  have hc := cut_text h
  obtain ⟨hk, _⟩ := sane_kind h
  have yes : rdB (textP p) p.k = true := by rw [rdB_iff, hc]; exact ⟨h, rfl⟩
  have no : ∀ k : Nat, k < 6 → txtLen (k : Int) ≠ txtLen p.k → rdB (textP p) (k : Int) = false := by
    intro k hk6 hne
    rcases Bool.eq_false_or_eq_true (rdB (textP p) (k : Int)) with e | e
    · exfalso
      obtain ⟨a, b⟩ := rdB_iff.1 e
      have := text_len a
      rw [b, ht, cut_k k hk6] at this
      exact hne this.symm
    · exact e
  have dec := dec_three h
  unfold readP
  generalize textP p = s at *
  generalize p.k = pk at *
  have f := fun k (a : k < 6) (b : rdB s ((k : Nat) : Int) = false) => rdF_no a b
  have g := fun k (a : k < 6) (b : rdB s ((k : Nat) : Int) = true) => rdF_yes a b
  have f0 := f 0 (by decide)
  simp only [Nat.sub_zero] at f0
  rcases kinds6 hk with rfl | rfl | rfl | rfl | rfl | rfl
  · have := g 0 (by decide) yes
    simp only [Nat.sub_zero] at this
    rw [this]
    exact Prod.ext hc rfl
  · rw [f0 (no 0 (by decide) (by decide)), g 1 (by decide) yes]
    exact Prod.ext hc rfl
  · rw [f0 (no 0 (by decide) (by decide)), f 1 (by decide) (no 1 (by decide) (by decide)), g 2 (by decide) yes]
    exact Prod.ext hc rfl
  · rw [f0 (no 0 (by decide) (by decide)), f 1 (by decide) (no 1 (by decide) (by decide)), f 2 (by decide) (no 2 (by decide) (by decide)), g 3 (by decide) yes]
    exact Prod.ext hc rfl
  · rw [f0 (no 0 (by decide) (by decide)), f 1 (by decide) (no 1 (by decide) (by decide)), f 2 (by decide) (no 2 (by decide) (by decide)), f 3 (by decide) (dec rfl), g 4 (by decide) yes]
    exact Prod.ext hc rfl
  · rw [f0 (no 0 (by decide) (by decide)), f 1 (by decide) (no 1 (by decide) (by decide)), f 2 (by decide) (no 2 (by decide) (by decide)), f 3 (by decide) (no 3 (by decide) (by decide)), f 4 (by decide) (no 4 (by decide) (by decide)), g 5 (by decide) yes]
    exact Prod.ext hc rfl
theorem rdF_spec (s : ByteArray) : ∀ n k, ((rdF s n k).2 = true → saneP (rdF s n k).1 = true ∧ textP (rdF s n k).1 = s) ∧ ((rdF s n k).2 = false → (rdF s n k).1 = ⟨0, ⟨#[]⟩, ⟨#[]⟩, ⟨#[]⟩⟩) := by
  intro n
  induction n with
  | zero => intro k; exact ⟨fun h => (by cases h), fun _ => rfl⟩
  | succ n ih =>
    intro k
    unfold rdF
    by_cases e : rdB s ((k : Nat) : Int) = true
    · rw [if_pos e]
      exact ⟨fun _ => rdB_iff.1 e, fun h => (by cases h)⟩
    · rw [if_neg e]
      exact ih (k + 1)
theorem read_yes {t : ByteArray} (h : (readP t).2 = true) : saneP (readP t).1 = true ∧ textP (readP t).1 = t := (rdF_spec t 6 0).1 h
theorem read_no {t : ByteArray} (h : (readP t).2 = false) : (readP t).1 = ⟨0, ⟨#[]⟩, ⟨#[]⟩, ⟨#[]⟩⟩ := (rdF_spec t 6 0).2 h
theorem text_some {p : PT} (h : saneP p = true) : (textP p).size ≠ 0 := by
  rw [text_len h]
  unfold txtLen
  (repeat' split) <;> decide
theorem text_none {p : PT} (h : saneP p = false) : textP p = ⟨#[]⟩ := by
  unfold textP
  rw [if_neg (by rw [h]; decide)]
end Go.Proofs.YtinpglfclbnhlaaGreatDoor

namespace Go.Proofs.YtinpglfclbnhlaaGreatDoor
open Go.RowKit
set_option linter.unusedVariables false
theorem iter_drewN (w : World) (s : ByteArray) (p m k : Nat) : ((w.drewN m).iter s p).drewN k = (w.drewN (m + k)).iter s p := by
  rw [← World.drewN_drewN]; rfl
theorem iterPos_drewN (w : World) (s : ByteArray) (p m : Nat) : ((w.drewN m).iter s p).iterPos w.heap.size = p := World.iterPos_iter (w.drewN m) s p
end Go.Proofs.YtinpglfclbnhlaaGreatDoor
