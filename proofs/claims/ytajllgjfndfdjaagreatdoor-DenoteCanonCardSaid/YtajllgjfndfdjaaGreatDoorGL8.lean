import Derived.Test.YtajllgjfndfdjaaGreatDoorGPtA
import Derived.Test.YtajllgjfndfdjaaGreatDoorGPtU
import Derived.Test.YtajllgjfndfdjaaGreatDoorGLeafA
namespace Go.Proofs.YtajllgjfndfdjaaGreatDoor
set_option linter.unusedVariables false
set_option linter.unusedSimpArgs false
theorem hdS_app {a b : ByteArray} {n : Nat} (h : a.size = n) : hdS (a ++ b) n = a := by
 unfold hdS
 rw [ByteArray.size_append, Nat.min_eq_left (by omega)]
 exact ByteArray.extract_append_eq_left h.symm
theorem tlS_app {a b : ByteArray} {n : Nat} (h : a.size = n) : tlS (a ++ b) n = b := by
 unfold tlS
 rw [ByteArray.size_append, Nat.min_eq_left (by omega)]
 exact ByteArray.extract_append_eq_right h.symm (by omega)
theorem hdS_all {a : ByteArray} {n : Nat} (h : a.size ≤ n) : hdS a n = a := by
 unfold hdS
 rw [Nat.min_eq_right h]
 exact ByteArray.extract_zero_size
theorem size_zero {s : ByteArray} (h : s.size = 0) : s = ⟨#[]⟩ := by
 obtain ⟨⟨x⟩⟩ := s
 cases x with
 | nil => rfl
 | cons a b => simp [ByteArray.size] at h
theorem sane_kind {p : PT} (h : saneP p = true) : (0 ≤ p.k ∧ p.k < 6) ∧ (p.y.size : Int) = (shp p.k).y ∧ saneM p.y = true ∧ (p.m.size : Int) = (shp p.k).p ∧ (p.d.size : Int) = (shp p.k).d := by
 unfold saneP at h
 simp only [Bool.and_eq_true, decide_eq_true_eq] at h
 obtain ⟨h1, h2, h3, h4, h5⟩ := h
 have g : ∀ (s : ByteArray) (n m : Int), fitP s n m = true → (s.size : Int) = n := by
  intro s n m e
  unfold fitP at e
  split at e
  ·have := of_decide_eq_true e; omega
  ·rw [Bool.and_eq_true] at e
   exact of_decide_eq_true e.1
 exact ⟨h1, h2, h3, g _ _ _ h4, g _ _ _ h5⟩
theorem kinds6 {k : Int} (h : 0 ≤ k ∧ k < 6) : k = 0 ∨ k = 1 ∨ k = 2 ∨ k = 3 ∨ k = 4 ∨ k = 5 := by omega
def txtLen (k : Int) : Nat := if k = 0 then 10 else if k = 1 then 7 else if k = 2 then 6 else if k = 3 then 4 else if k = 4 then 4 else 3
theorem text_len {p : PT} (h : saneP p = true) : (textP p).size = txtLen p.k := by
 obtain ⟨hk, hy, _, hm, hd⟩ := sane_kind h
 unfold textP
 rw [if_pos h]
 have d1 : dash.size = 1 := rfl
 obtain ⟨k, y, m, d⟩ := p
 simp only at *
 have s1 : (⟨#[115]⟩ : ByteArray).size = 1 := rfl
 have s2 : (⟨#[100]⟩ : ByteArray).size = 1 := rfl
 have s3 : (⟨#[99]⟩ : ByteArray).size = 1 := rfl
 have s0 : (⟨#[]⟩ : ByteArray).size = 0 := rfl
 rcases kinds6 hk with rfl | rfl | rfl | rfl | rfl | rfl
 ·have hy : (y.size : Int) = 4 := hy
  have hm : (m.size : Int) = 2 := hm
  have hd : (d.size : Int) = 2 := hd
  show (y ++ (dash ++ m ++ (dash ++ d))).size = 10
  rw [ByteArray.size_append, ByteArray.size_append, ByteArray.size_append, ByteArray.size_append]
  omega
 ·have hy : (y.size : Int) = 4 := hy
  have hm : (m.size : Int) = 2 := hm
  show (y ++ (dash ++ m ++ ⟨#[]⟩)).size = 7
  rw [ByteArray.size_append, ByteArray.size_append, ByteArray.size_append]
  omega
 ·have hy : (y.size : Int) = 4 := hy
  have hm : (m.size : Int) = 1 := hm
  show (y ++ ((⟨#[115]⟩ : ByteArray) ++ m)).size = 6
  rw [ByteArray.size_append, ByteArray.size_append]
  omega
 ·have hy : (y.size : Int) = 4 := hy
  show (y ++ ⟨#[]⟩).size = 4
  rw [ByteArray.size_append]
  omega
 ·have hy : (y.size : Int) = 3 := hy
  show (y ++ ⟨#[100]⟩).size = 4
  rw [ByteArray.size_append]
  omega
 ·have hy : (y.size : Int) = 2 := hy
  show (y ++ ⟨#[99]⟩).size = 3
  rw [ByteArray.size_append]
  omega
theorem cut_text {p : PT} (h : saneP p = true) : cutP p.k (textP p) = p := by
 obtain ⟨hk, hy, _, hm, hd⟩ := sane_kind h
 have d1 : dash.size = 1 := rfl
 have s1 : (⟨#[115]⟩ : ByteArray).size = 1 := rfl
 unfold textP
 rw [if_pos h]
 clear h
 obtain ⟨k, y, m, d⟩ := p
 simp only at *
 rcases kinds6 hk with rfl | rfl | rfl | rfl | rfl | rfl
 ·have hy : y.size = 4 := by have : (y.size : Int) = 4 := hy; omega
  have hm : m.size = 2 := by have : (m.size : Int) = 2 := hm; omega
  have hd : d.size = 2 := by have : (d.size : Int) = 2 := hd; omega
  simp only [cutP, if_pos]
  rw [ByteArray.append_assoc, hdS_app hy, tlS_app hy, tlS_app d1, hdS_app hm, tlS_app hm, tlS_app d1, hdS_all (by omega)]
 ·have hy : y.size = 4 := by have : (y.size : Int) = 4 := hy; omega
  have hm : m.size = 2 := by have : (m.size : Int) = 2 := hm; omega
  have hd : d.size = 0 := by have : (d.size : Int) = 0 := hd; omega
  rw [size_zero hd]
  simp only [cutP, if_pos, if_neg (show ¬ (1 : Int) = 0 by decide)]
  rw [ByteArray.append_assoc, hdS_app hy, tlS_app hy, tlS_app d1, hdS_app hm]
 ·have hy : y.size = 4 := by have : (y.size : Int) = 4 := hy; omega
  have hm : m.size = 1 := by have : (m.size : Int) = 1 := hm; omega
  have hd : d.size = 0 := by have : (d.size : Int) = 0 := hd; omega
  rw [size_zero hd]
  simp only [cutP, if_pos, if_neg (show ¬ (2 : Int) = 0 by decide), if_neg (show ¬ (2 : Int) = 1 by decide)]
  rw [hdS_app hy, tlS_app hy, tlS_app s1, hdS_all (by omega)]
 ·have hy : y.size = 4 := by have : (y.size : Int) = 4 := hy; omega
  have hm : m.size = 0 := by have : (m.size : Int) = 0 := hm; omega
  have hd : d.size = 0 := by have : (d.size : Int) = 0 := hd; omega
  rw [size_zero hd, size_zero hm]
  simp only [cutP, if_pos, if_neg (show ¬ (3 : Int) = 0 by decide), if_neg (show ¬ (3 : Int) = 1 by decide), if_neg (show ¬ (3 : Int) = 2 by decide)]
  rw [hdS_app hy]
 ·have hy : y.size = 3 := by have : (y.size : Int) = 3 := hy; omega
  have hm : m.size = 0 := by have : (m.size : Int) = 0 := hm; omega
  have hd : d.size = 0 := by have : (d.size : Int) = 0 := hd; omega
  rw [size_zero hd, size_zero hm]
  simp only [cutP, if_pos, if_neg (show ¬ (4 : Int) = 0 by decide), if_neg (show ¬ (4 : Int) = 1 by decide), if_neg (show ¬ (4 : Int) = 2 by decide), if_neg (show ¬ (4 : Int) = 3 by decide)]
  rw [hdS_app hy]
 ·have hy : y.size = 2 := by have : (y.size : Int) = 2 := hy; omega
  have hm : m.size = 0 := by have : (m.size : Int) = 0 := hm; omega
  have hd : d.size = 0 := by have : (d.size : Int) = 0 := hd; omega
  rw [size_zero hd, size_zero hm]
  simp only [cutP, if_neg (show ¬ (5 : Int) = 0 by decide), if_neg (show ¬ (5 : Int) = 1 by decide), if_neg (show ¬ (5 : Int) = 2 by decide), if_neg (show ¬ (5 : Int) = 3 by decide), if_neg (show ¬ (5 : Int) = 4 by decide)]
  rw [hdS_app hy]
theorem cut_k (k : Nat) (hk : k < 6) (s : ByteArray) : (cutP (k : Int) s).k = k := by
 have : k = 0 ∨ k = 1 ∨ k = 2 ∨ k = 3 ∨ k = 4 ∨ k = 5 := by omega
 rcases this with rfl | rfl | rfl | rfl | rfl | rfl <;> rfl
theorem rdB_iff {s : ByteArray} {k : Int} : rdB s k = true ↔ saneP (cutP k s) = true ∧ textP (cutP k s) = s := by
 unfold rdB
 rw [Bool.and_eq_true, ← beq_toListBytes]
 constructor
 ·rintro ⟨a, b⟩
  refine ⟨a, ?_⟩
  rw [beq_toListBytes, beq_iff_eq, ByteArray.toList_eq, ByteArray.toList_eq] at b
  generalize textP (cutP k s) = x at b
  obtain ⟨⟨x⟩⟩ := x
  obtain ⟨⟨y⟩⟩ := s
  simp only at b
  rw [b]
 ·rintro ⟨a, b⟩
  refine ⟨a, ?_⟩
  rw [b, beq_toListBytes]
  simp
theorem dec_three {p : PT} (h : saneP p = true) (h4 : p.k = 4) : rdB (textP p) 3 = false := by
 rcases Bool.eq_false_or_eq_true (rdB (textP p) 3) with e | e
 ·exfalso
  obtain ⟨a, _⟩ := rdB_iff.1 e
  obtain ⟨_, _, c, _⟩ := sane_kind a
  obtain ⟨hk, hy, _, hm, hd⟩ := sane_kind h
  have m := mk_of c
  have ey : (cutP 3 (textP p)).y = textP p := by
   have := text_len h
   rw [h4] at this
   simp only [cutP, if_pos, if_neg (show ¬ (3 : Int) = 0 by decide), if_neg (show ¬ (3 : Int) = 1 by decide), if_neg (show ¬ (3 : Int) = 2 by decide)]
   exact hdS_all (by rw [this]; decide)
  rw [ey] at m
  have hs := text_len h
  rw [h4] at hs
  have hs4 : (textP p).size = 4 := hs
  have := m.ok 3 (by omega)
  have et : textP p = p.y ++ ⟨#[100]⟩ := by
   unfold textP
   rw [if_pos h, h4]
   rfl
  have hy3 : p.y.size = 3 := by rw [h4] at hy; have : (p.y.size : Int) = 3 := hy; omega
  rw [et] at this
  have eb : bt (p.y ++ ⟨#[100]⟩) 3 = 100 := by
   have hl : p.y.data.toList.length = 3 := by rw [Array.length_toList]; exact hy3
   unfold bt
   rw [ByteArray.data_append, Array.toList_append, List.getD_eq_getElem?_getD, List.getElem?_append_right (by omega), hl]
   rfl
  omega
 ·exact e
theorem read_back {p : PT} (h : saneP p = true) : readP (textP p) = (p, true) := by
 have ht := text_len h
 have hc := cut_text h
 obtain ⟨hk, _⟩ := sane_kind h
 have yes : rdB (textP p) p.k = true := by rw [rdB_iff, hc]; exact ⟨h, rfl⟩
 have no : ∀ k : Nat, k < 6 → txtLen (k : Int) ≠ txtLen p.k → rdB (textP p) (k : Int) = false := by
  intro k hk6 hne
  rcases Bool.eq_false_or_eq_true (rdB (textP p) (k : Int)) with e | e
  ·exfalso
   obtain ⟨a, b⟩ := rdB_iff.1 e
   have := text_len a
   rw [b, ht, cut_k k hk6] at this
   exact hne this.symm
  ·exact e
 have dec := dec_three h
 unfold readP
 generalize textP p = s at *
 generalize p.k = pk at *
 have f := fun k (a : k < 6) (b : rdB s ((k : Nat) : Int) = false) => rdF_no a b
 have g := fun k (a : k < 6) (b : rdB s ((k : Nat) : Int) = true) => rdF_yes a b
 have f0 := f 0 (by decide)
 simp only [Nat.sub_zero] at f0
 rcases kinds6 hk with rfl | rfl | rfl | rfl | rfl | rfl
 ·have := g 0 (by decide) yes
  simp only [Nat.sub_zero] at this
  rw [this]
  exact Prod.ext hc rfl
 ·rw [f0 (no 0 (by decide) (by decide)), g 1 (by decide) yes]
  exact Prod.ext hc rfl
 ·rw [f0 (no 0 (by decide) (by decide)), f 1 (by decide) (no 1 (by decide) (by decide)), g 2 (by decide) yes]
  exact Prod.ext hc rfl
 ·rw [f0 (no 0 (by decide) (by decide)), f 1 (by decide) (no 1 (by decide) (by decide)), f 2 (by decide) (no 2 (by decide) (by decide)), g 3 (by decide) yes]
  exact Prod.ext hc rfl
 ·rw [f0 (no 0 (by decide) (by decide)), f 1 (by decide) (no 1 (by decide) (by decide)), f 2 (by decide) (no 2 (by decide) (by decide)), f 3 (by decide) (dec rfl), g 4 (by decide) yes]
  exact Prod.ext hc rfl
 ·rw [f0 (no 0 (by decide) (by decide)), f 1 (by decide) (no 1 (by decide) (by decide)), f 2 (by decide) (no 2 (by decide) (by decide)), f 3 (by decide) (no 3 (by decide) (by decide)), f 4 (by decide) (no 4 (by decide) (by decide)), g 5 (by decide) yes]
  exact Prod.ext hc rfl
theorem text_some {p : PT} (h : saneP p = true) : (textP p).size ≠ 0 := by
 rw [text_len h]
 unfold txtLen
 (repeat' split) <;> decide
open Go.RowKit
section
variable {P : Program} {ops : Array Oper} {Q : Exit → Act → World → Prop} {md : Region.Mode} {S : World → Prop} {fuel : Nat} {listed : Array Bool} {a : Act} {w : World}
end
theorem match_bd {s : ByteArray} {n : Int} (h : matchM s n = true) : 0 ≤ n ∧ n < P10 s.size := by
 unfold matchM at h
 simp only [Bool.and_eq_true, decide_eq_true_eq] at h
 exact ⟨h.1.1.2, h.1.2⟩
theorem p10_4 : P10 4 = 10000 := by decide
theorem p10_3 : P10 3 = 1000 := by decide
theorem p10_2 : P10 2 = 100 := by decide
theorem inU_bd {p : PT} (hs : saneP p = true) {n : Int} (h : inU p n = true) : 0 ≤ n ∧ n < cnt p.k := by
 obtain ⟨hk, hy, _, _, _⟩ := sane_kind hs
 obtain ⟨k, y, m, d⟩ := p
 simp only at *
 unfold inU at h
 simp only at h
 rcases kinds6 hk with rfl | rfl | rfl | rfl | rfl | rfl
 ·simp only [if_pos, Bool.and_eq_true, decide_eq_true_eq] at h
  have c : cnt 0 = 3652425 := by decide
  by_cases g : 0 ≤ n ∧ n ≤ 3652424
  ·omega
  ·rw [dte_no n (by omega)] at h
   have := h.1
   simp at this
 ·simp only [if_neg (show ¬ (1 : Int) = 0 by decide), if_pos, Bool.and_eq_true, decide_eq_true_eq] at h
  have hy4 : y.size = 4 := by have : (y.size : Int) = 4 := hy; omega
  have b := match_bd h.2.1
  rw [hy4, p10_4] at b
  have c : cnt 1 = 120000 := by decide
  omega
 ·simp only [if_neg (show ¬ (2 : Int) = 0 by decide), if_neg (show ¬ (2 : Int) = 1 by decide), if_pos, Bool.and_eq_true, decide_eq_true_eq] at h
  have hy4 : y.size = 4 := by have : (y.size : Int) = 4 := hy; omega
  have b := match_bd h.2.1
  rw [hy4, p10_4] at b
  have c : cnt 2 = 40000 := by decide
  omega
 ·simp only [if_neg (show ¬ (3 : Int) = 0 by decide), if_neg (show ¬ (3 : Int) = 1 by decide), if_neg (show ¬ (3 : Int) = 2 by decide)] at h
  have hy4 : y.size = 4 := by have : (y.size : Int) = 4 := hy; omega
  have b := match_bd h
  rw [hy4, p10_4] at b
  have c : cnt 3 = 10000 := by decide
  omega
 ·simp only [if_neg (show ¬ (4 : Int) = 0 by decide), if_neg (show ¬ (4 : Int) = 1 by decide), if_neg (show ¬ (4 : Int) = 2 by decide)] at h
  have hy3 : y.size = 3 := by have : (y.size : Int) = 3 := hy; omega
  have b := match_bd h
  rw [hy3, p10_3] at b
  have c : cnt 4 = 1000 := by decide
  omega
 ·simp only [if_neg (show ¬ (5 : Int) = 0 by decide), if_neg (show ¬ (5 : Int) = 1 by decide), if_neg (show ¬ (5 : Int) = 2 by decide)] at h
  have hy2 : y.size = 2 := by have : (y.size : Int) = 2 := hy; omega
  have b := match_bd h
  rw [hy2, p10_2] at b
  have c : cnt 5 = 100 := by decide
  omega
theorem numR_inn {p : PT} (hs : saneP p = true) (hb : numB p = true) : Inn 0 (cnt p.k - 1) (numR p) := sane_inn (numR_sane p) fun n hn => by
 obtain ⟨r, hr, h1, h2, _⟩ := hn
 have := inU_bd hs ((numR_in hs hb n).1 ⟨r, hr, h1, h2⟩)
 omega
theorem setE_cases (p : PT) : (setE p = 0 ∧ saneP p = true ∧ numB p = true ∧ setS p = numR p) ∨ (setS p = [] ∧ ((setE p = 2 ∧ saneP p = false) ∨ (setE p = 8 ∧ saneP p = true))) := by
 unfold setE setS
 by_cases h1 : saneP p = true
 ·rw [if_pos h1, if_pos h1]
  by_cases h2 : numB p = true
  ·rw [if_pos h2, if_pos h2]
   by_cases h3 : edgB p.k (numR p) = true
   ·rw [if_pos h3, if_pos h3]; exact .inl ⟨rfl, h1, h2, rfl⟩
   ·rw [if_neg h3, if_neg h3]; exact .inr ⟨rfl, .inr ⟨rfl, h1⟩⟩
  ·rw [if_neg h2, if_neg h2]; exact .inr ⟨rfl, .inr ⟨rfl, h1⟩⟩
 ·rw [if_neg h1, if_neg h1]; exact .inr ⟨rfl, .inl ⟨rfl, by simpa using h1⟩⟩
end Go.Proofs.YtajllgjfndfdjaaGreatDoor
