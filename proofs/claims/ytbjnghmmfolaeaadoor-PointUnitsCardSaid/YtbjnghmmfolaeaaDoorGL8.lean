/-
  Joined: L8B, L8S, L8D, MaskB.
-/
import Derived.Test.YtbjnghmmfolaeaaDoorGPtU
import Derived.Test.YtbjnghmmfolaeaaDoorGLeafA
import Derived.Test.YtbjnghmmfolaeaaDoorGMask
import Derived.Deep.QuietTactic
import Derived.BigQuiet
namespace Go.Proofs.YtbjnghmmfolaeaaDoor
set_option linter.unusedVariables false
set_option linter.unusedSimpArgs false
theorem hdS_app {a b : ByteArray} {n : Nat} (h : a.size = n) : hdS (a ++ b) n = a := by
  unfold hdS
  rw [ByteArray.size_append, Nat.min_eq_left (by omega)]
  exact ByteArray.extract_append_eq_left h.symm
theorem tlS_app {a b : ByteArray} {n : Nat} (h : a.size = n) : tlS (a ++ b) n = b := by
  unfold tlS
  rw [ByteArray.size_append, Nat.min_eq_left (by omega)]
  exact ByteArray.extract_append_eq_right h.symm (by omega)
theorem hdS_all {a : ByteArray} {n : Nat} (h : a.size ≤ n) : hdS a n = a := by
  unfold hdS
  rw [Nat.min_eq_right h]
  exact ByteArray.extract_zero_size
theorem size_zero {s : ByteArray} (h : s.size = 0) : s = ⟨#[]⟩ := by
  obtain ⟨⟨x⟩⟩ := s
  cases x with
  | nil => rfl
  | cons a b => simp [ByteArray.size] at h
/-- what a point is like, of each kind -/
theorem sane_kind {p : PT} (h : saneP p = true) : (0 ≤ p.k ∧ p.k < 6) ∧ (p.y.size : Int) = (shp p.k).y ∧ saneM p.y = true ∧ (p.m.size : Int) = (shp p.k).p ∧ (p.d.size : Int) = (shp p.k).d := by
  unfold saneP at h
  simp only [Bool.and_eq_true, decide_eq_true_eq] at h
  obtain ⟨h1, h2, h3, h4, h5⟩ := h
  have g : ∀ (s : ByteArray) (n m : Int), fitP s n m = true → (s.size : Int) = n := by
    intro s n m e
    unfold fitP at e
    split at e
    · have := of_decide_eq_true e; omega
    · rw [Bool.and_eq_true] at e
      exact of_decide_eq_true e.1
  exact ⟨h1, h2, h3, g _ _ _ h4, g _ _ _ h5⟩
theorem kinds6 {k : Int} (h : 0 ≤ k ∧ k < 6) : k = 0 ∨ k = 1 ∨ k = 2 ∨ k = 3 ∨ k = 4 ∨ k = 5 := by omega
def txtLen (k : Int) : Nat := if k = 0 then 10 else if k = 1 then 7 else if k = 2 then 6 else if k = 3 then 4 else if k = 4 then 4 else 3
theorem text_len {p : PT} (h : saneP p = true) : (textP p).size = txtLen p.k := by
  obtain ⟨hk, hy, _, hm, hd⟩ := sane_kind h
  unfold textP
  rw [if_pos h]
  have d1 : dash.size = 1 := rfl
  obtain ⟨k, y, m, d⟩ := p
  simp only at *
  have s1 : (⟨#[115]⟩ : ByteArray).size = 1 := rfl
  have s2 : (⟨#[100]⟩ : ByteArray).size = 1 := rfl
  have s3 : (⟨#[99]⟩ : ByteArray).size = 1 := rfl
  have s0 : (⟨#[]⟩ : ByteArray).size = 0 := rfl
  rcases kinds6 hk with rfl | rfl | rfl | rfl | rfl | rfl
  · have hy : (y.size : Int) = 4 := hy
    have hm : (m.size : Int) = 2 := hm
    have hd : (d.size : Int) = 2 := hd
    show (y ++ (dash ++ m ++ (dash ++ d))).size = 10
    rw [ByteArray.size_append, ByteArray.size_append, ByteArray.size_append, ByteArray.size_append]
    omega
  · have hy : (y.size : Int) = 4 := hy
    have hm : (m.size : Int) = 2 := hm
    show (y ++ (dash ++ m ++ ⟨#[]⟩)).size = 7
    rw [ByteArray.size_append, ByteArray.size_append, ByteArray.size_append]
    omega
  · have hy : (y.size : Int) = 4 := hy
    have hm : (m.size : Int) = 1 := hm
    show (y ++ ((⟨#[115]⟩ : ByteArray) ++ m)).size = 6
    rw [ByteArray.size_append, ByteArray.size_append]
    omega
  · have hy : (y.size : Int) = 4 := hy
    show (y ++ ⟨#[]⟩).size = 4
    rw [ByteArray.size_append]
    omega
  · have hy : (y.size : Int) = 3 := hy
    show (y ++ ⟨#[100]⟩).size = 4
    rw [ByteArray.size_append]
    omega
  · have hy : (y.size : Int) = 2 := hy
    show (y ++ ⟨#[99]⟩).size = 3
    rw [ByteArray.size_append]
    omega
theorem cut_text {p : PT} (h : saneP p = true) : cutP p.k (textP p) = p := by
  obtain ⟨hk, hy, _, hm, hd⟩ := sane_kind h
  have d1 : dash.size = 1 := rfl
  have s1 : (⟨#[115]⟩ : ByteArray).size = 1 := rfl
  unfold textP
  rw [if_pos h]
  clear h
  obtain ⟨k, y, m, d⟩ := p
  simp only at *
  rcases kinds6 hk with rfl | rfl | rfl | rfl | rfl | rfl
  · have hy : y.size = 4 := by have : (y.size : Int) = 4 := hy; omega
    have hm : m.size = 2 := by have : (m.size : Int) = 2 := hm; omega
    have hd : d.size = 2 := by have : (d.size : Int) = 2 := hd; omega
    simp only [cutP, if_pos]
    rw [ByteArray.append_assoc, hdS_app hy, tlS_app hy, tlS_app d1, hdS_app hm, tlS_app hm, tlS_app d1, hdS_all (by omega)]
  · have hy : y.size = 4 := by have : (y.size : Int) = 4 := hy; omega
    have hm : m.size = 2 := by have : (m.size : Int) = 2 := hm; omega
    have hd : d.size = 0 := by have : (d.size : Int) = 0 := hd; omega
    rw [size_zero hd]
    simp only [cutP, if_pos, if_neg (show ¬ (1 : Int) = 0 by decide)]
    rw [ByteArray.append_assoc, hdS_app hy, tlS_app hy, tlS_app d1, hdS_app hm]
  · have hy : y.size = 4 := by have : (y.size : Int) = 4 := hy; omega
    have hm : m.size = 1 := by have : (m.size : Int) = 1 := hm; omega
    have hd : d.size = 0 := by have : (d.size : Int) = 0 := hd; omega
    rw [size_zero hd]
    simp only [cutP, if_pos, if_neg (show ¬ (2 : Int) = 0 by decide), if_neg (show ¬ (2 : Int) = 1 by decide)]
    rw [hdS_app hy, tlS_app hy, tlS_app s1, hdS_all (by omega)]
  · have hy : y.size = 4 := by have : (y.size : Int) = 4 := hy; omega
    have hm : m.size = 0 := by have : (m.size : Int) = 0 := hm; omega
    have hd : d.size = 0 := by have : (d.size : Int) = 0 := hd; omega
    rw [size_zero hd, size_zero hm]
    simp only [cutP, if_pos, if_neg (show ¬ (3 : Int) = 0 by decide), if_neg (show ¬ (3 : Int) = 1 by decide), if_neg (show ¬ (3 : Int) = 2 by decide)]
    rw [hdS_app hy]
  · have hy : y.size = 3 := by have : (y.size : Int) = 3 := hy; omega
    have hm : m.size = 0 := by have : (m.size : Int) = 0 := hm; omega
    have hd : d.size = 0 := by have : (d.size : Int) = 0 := hd; omega
    rw [size_zero hd, size_zero hm]
    simp only [cutP, if_pos, if_neg (show ¬ (4 : Int) = 0 by decide), if_neg (show ¬ (4 : Int) = 1 by decide), if_neg (show ¬ (4 : Int) = 2 by decide), if_neg (show ¬ (4 : Int) = 3 by decide)]
    rw [hdS_app hy]
  · have hy : y.size = 2 := by have : (y.size : Int) = 2 := hy; omega
    have hm : m.size = 0 := by have : (m.size : Int) = 0 := hm; omega
    have hd : d.size = 0 := by have : (d.size : Int) = 0 := hd; omega
    rw [size_zero hd, size_zero hm]
    simp only [cutP, if_neg (show ¬ (5 : Int) = 0 by decide), if_neg (show ¬ (5 : Int) = 1 by decide), if_neg (show ¬ (5 : Int) = 2 by decide), if_neg (show ¬ (5 : Int) = 3 by decide), if_neg (show ¬ (5 : Int) = 4 by decide)]
    rw [hdS_app hy]
theorem cut_k (k : Nat) (hk : k < 6) (s : ByteArray) : (cutP (k : Int) s).k = k := by
  have : k = 0 ∨ k = 1 ∨ k = 2 ∨ k = 3 ∨ k = 4 ∨ k = 5 := by omega
  rcases this with rfl | rfl | rfl | rfl | rfl | rfl <;> rfl
theorem rdB_iff {s : ByteArray} {k : Int} : rdB s k = true ↔ saneP (cutP k s) = true ∧ textP (cutP k s) = s := by
  unfold rdB
  rw [Bool.and_eq_true, ← beq_toListBytes]
  constructor
  · rintro ⟨a, b⟩
    refine ⟨a, ?_⟩
    rw [beq_toListBytes, beq_iff_eq, ByteArray.toList_eq, ByteArray.toList_eq] at b
    generalize textP (cutP k s) = x at b
    obtain ⟨⟨x⟩⟩ := x
    obtain ⟨⟨y⟩⟩ := s
    simp only at b
    rw [b]
  · rintro ⟨a, b⟩
    refine ⟨a, ?_⟩
    rw [b, beq_toListBytes]
    simp
theorem dec_three {p : PT} (h : saneP p = true) (h4 : p.k = 4) : rdB (textP p) 3 = false := by
  rcases Bool.eq_false_or_eq_true (rdB (textP p) 3) with e | e
  · exfalso
    obtain ⟨a, _⟩ := rdB_iff.1 e
    obtain ⟨_, _, c, _⟩ := sane_kind a
    obtain ⟨hk, hy, _, hm, hd⟩ := sane_kind h
    have m := mk_of c
    have ey : (cutP 3 (textP p)).y = textP p := by
      have := text_len h
      rw [h4] at this
      simp only [cutP, if_pos, if_neg (show ¬ (3 : Int) = 0 by decide), if_neg (show ¬ (3 : Int) = 1 by decide), if_neg (show ¬ (3 : Int) = 2 by decide)]
      exact hdS_all (by rw [this]; decide)
    rw [ey] at m
    have hs := text_len h
    rw [h4] at hs
    have hs4 : (textP p).size = 4 := hs
    have := m.ok 3 (by omega)
    have et : textP p = p.y ++ ⟨#[100]⟩ := by
      unfold textP
      rw [if_pos h, h4]
      rfl
    have hy3 : p.y.size = 3 := by rw [h4] at hy; have : (p.y.size : Int) = 3 := hy; omega
    rw [et] at this
    have eb : bt (p.y ++ ⟨#[100]⟩) 3 = 100 := by
      have hl : p.y.data.toList.length = 3 := by rw [Array.length_toList]; exact hy3
      unfold bt
      rw [ByteArray.data_append, Array.toList_append, List.getD_eq_getElem?_getD, List.getElem?_append_right (by omega), hl]
      rfl
    omega
  · exact e
theorem read_back {p : PT} (h : saneP p = true) : readP (textP p) = (p, true) := by
  have ht := text_len h
  have hc := cut_text h
  obtain ⟨hk, _⟩ := sane_kind h
  have yes : rdB (textP p) p.k = true := by rw [rdB_iff, hc]; exact ⟨h, rfl⟩
  have no : ∀ k : Nat, k < 6 → txtLen (k : Int) ≠ txtLen p.k → rdB (textP p) (k : Int) = false := by
    intro k hk6 hne
    rcases Bool.eq_false_or_eq_true (rdB (textP p) (k : Int)) with e | e
    · exfalso
      obtain ⟨a, b⟩ := rdB_iff.1 e
      have := text_len a
      rw [b, ht, cut_k k hk6] at this
      exact hne this.symm
    · exact e
  have dec := dec_three h
  unfold readP
  generalize textP p = s at *
  generalize p.k = pk at *
  have f := fun k (a : k < 6) (b : rdB s ((k : Nat) : Int) = false) => rdF_no a b
  have g := fun k (a : k < 6) (b : rdB s ((k : Nat) : Int) = true) => rdF_yes a b
  have f0 := f 0 (by decide)
  simp only [Nat.sub_zero] at f0
  rcases kinds6 hk with rfl | rfl | rfl | rfl | rfl | rfl
  · have := g 0 (by decide) yes
    simp only [Nat.sub_zero] at this
    rw [this]
    exact Prod.ext hc rfl
  · rw [f0 (no 0 (by decide) (by decide)), g 1 (by decide) yes]
    exact Prod.ext hc rfl
  · rw [f0 (no 0 (by decide) (by decide)), f 1 (by decide) (no 1 (by decide) (by decide)), g 2 (by decide) yes]
    exact Prod.ext hc rfl
  · rw [f0 (no 0 (by decide) (by decide)), f 1 (by decide) (no 1 (by decide) (by decide)), f 2 (by decide) (no 2 (by decide) (by decide)), g 3 (by decide) yes]
    exact Prod.ext hc rfl
  · rw [f0 (no 0 (by decide) (by decide)), f 1 (by decide) (no 1 (by decide) (by decide)), f 2 (by decide) (no 2 (by decide) (by decide)), f 3 (by decide) (dec rfl), g 4 (by decide) yes]
    exact Prod.ext hc rfl
  · rw [f0 (no 0 (by decide) (by decide)), f 1 (by decide) (no 1 (by decide) (by decide)), f 2 (by decide) (no 2 (by decide) (by decide)), f 3 (by decide) (no 3 (by decide) (by decide)), f 4 (by decide) (no 4 (by decide) (by decide)), g 5 (by decide) yes]
    exact Prod.ext hc rfl
theorem rdF_spec (s : ByteArray) : ∀ n k, ((rdF s n k).2 = true → saneP (rdF s n k).1 = true ∧ textP (rdF s n k).1 = s) ∧ ((rdF s n k).2 = false → (rdF s n k).1 = ⟨0, ⟨#[]⟩, ⟨#[]⟩, ⟨#[]⟩⟩) := by
  intro n
  induction n with
  | zero => intro k; exact ⟨fun h => (by cases h), fun _ => rfl⟩
  | succ n ih =>
    intro k
    unfold rdF
    by_cases e : rdB s ((k : Nat) : Int) = true
    · rw [if_pos e]
      exact ⟨fun _ => rdB_iff.1 e, fun h => (by cases h)⟩
    · rw [if_neg e]
      exact ih (k + 1)
theorem read_yes {t : ByteArray} (h : (readP t).2 = true) : saneP (readP t).1 = true ∧ textP (readP t).1 = t := (rdF_spec t 6 0).1 h
theorem read_no {t : ByteArray} (h : (readP t).2 = false) : (readP t).1 = ⟨0, ⟨#[]⟩, ⟨#[]⟩, ⟨#[]⟩⟩ := (rdF_spec t 6 0).2 h
theorem text_some {p : PT} (h : saneP p = true) : (textP p).size ≠ 0 := by
  rw [text_len h]
  unfold txtLen
  (repeat' split) <;> decide
theorem text_none {p : PT} (h : saneP p = false) : textP p = ⟨#[]⟩ := by
  unfold textP
  rw [if_neg (by rw [h]; decide)]
end Go.Proofs.YtbjnghmmfolaeaaDoor

namespace Go.Proofs.YtbjnghmmfolaeaaDoor
open Go.RowKit
set_option linter.unusedVariables false
set_option linter.unusedSimpArgs false
theorem bytes_eq (a b : ByteArray) : (a == b) = true ↔ a = b := by
  rw [beq_toListBytes, beq_iff_eq, ByteArray.toList_eq, ByteArray.toList_eq]
  constructor
  · intro h
    obtain ⟨⟨x⟩⟩ := a
    obtain ⟨⟨y⟩⟩ := b
    simp only at h
    rw [h]
  · intro h
    rw [h]
def shortP (p : PT) : Bool := decide ((p.y.size : Int) ≤ 10) && (decide ((p.m.size : Int) ≤ 10) && decide ((p.d.size : Int) ≤ 10))
set_option maxHeartbeats 4000000 in
set_option maxRecDepth 100000 in
theorem short_any (p : PT) (w : World) : Calls Tryd.prog 17 #[ptV p] w fun e w' => e = .returned (.bool (shortP p)) ∧ Kp w w' := by
  obtain ⟨k, y, m, d, rfl⟩ := pt_dest p
  unfold ptV shortP
  simp only
  go_enter Tryd.func17, Tryd.ntmps17
  go_wp2
  all_goals go_ret
  all_goals refine ⟨?_, Kp.alloc _ _⟩
  all_goals (simp_all <;> omega)
section
variable {P : Program} {ops : Array Oper} {Q : Exit → Act → World → Prop} {md : Region.Mode} {S : World → Prop} {fuel : Nat} {listed : Array Bool} {a : Act} {w : World}
theorem tkV {v : Value} (i : Nat) (oi : Oper) (hy : ∀ w, S w → (execOp a.eval oi).run P w = .ok (.value v) w) (h : wpAnyH P md ops Q S fuel (listed.setIfInBounds i true) (a.put oi.dst v) w)
    (hi : ops[i]? = some oi := by rfl) (hs : Region.noSelect ops = true := by kernel_rfl) (hf : Region.free md ops listed i = true := by kernel_rfl) (hr : (Region.ready md ops listed).contains i = true := by kernel_rfl)
    (hQ : ∀ c a w, Q (.panic c) (a.put oi.dst v) w → Q (.panic c) a w := by exact fun _ _ _ h => h) (hw : Region.wanted oi (yielded ops a.tmps) = true := by rfl) (hS : S w := by assumption) : wpAnyH P md ops Q S (fuel + 1) listed a w :=
  tkW i oi hi hs hf hr hQ hw hy hS h
theorem tkN (i : Nat) (oi : Oper) (h : wpAnyH P md ops Q S fuel (listed.setIfInBounds i true) (a.put oi.dst undef) w)
    (hi : ops[i]? = some oi := by rfl) (hs : Region.noSelect ops = true := by kernel_rfl) (hf : Region.free md ops listed i = true := by kernel_rfl) (hr : (Region.ready md ops listed).contains i = true := by kernel_rfl)
    (hQ : ∀ c a w, Q (.panic c) (a.put oi.dst undef) w → Q (.panic c) a w := by exact fun _ _ _ h => h) (hw : Region.wanted oi (yielded ops a.tmps) = false := by rfl) (hS : S w := by assumption) : wpAnyH P md ops Q S (fuel + 1) listed a w :=
  tkU i oi hi hs hf hr hQ hw hS h
end
theorem xA {α : Type} (l : List α) (i : Nat) (x : α) : l.toArray.setIfInBounds i x = (l.set i x).toArray := List.setIfInBounds_toArray ..
theorem xB {α : Type} (l : List α) (a b : α) : (a :: l).set 0 b = b :: l := rfl
theorem xC {α : Type} (l : List α) (n : Nat) (a b : α) : (a :: l).set (n + 1) b = a :: l.set n b := rfl
end Go.Proofs.YtbjnghmmfolaeaaDoor

namespace Go.Proofs.YtbjnghmmfolaeaaDoor
open Go.RowKit
set_option linter.unusedVariables false
set_option linter.unusedSimpArgs false
theorem match_bd {s : ByteArray} {n : Int} (h : matchM s n = true) : 0 ≤ n ∧ n < P10 s.size := by
  unfold matchM at h
  simp only [Bool.and_eq_true, decide_eq_true_eq] at h
  exact ⟨h.1.1.2, h.1.2⟩
theorem p10_4 : P10 4 = 10000 := by decide
theorem p10_3 : P10 3 = 1000 := by decide
theorem p10_2 : P10 2 = 100 := by decide
theorem inU_bd {p : PT} (hs : saneP p = true) {n : Int} (h : inU p n = true) : 0 ≤ n ∧ n < cnt p.k := by
  obtain ⟨hk, hy, _, _, _⟩ := sane_kind hs
  obtain ⟨k, y, m, d⟩ := p
  simp only at *
  unfold inU at h
  simp only at h
  rcases kinds6 hk with rfl | rfl | rfl | rfl | rfl | rfl
  · simp only [if_pos, Bool.and_eq_true, decide_eq_true_eq] at h
    have c : cnt 0 = 3652425 := by decide
    by_cases g : 0 ≤ n ∧ n ≤ 3652424
    · omega
    · rw [dte_no n (by omega)] at h
      have := h.1
      simp at this
  · simp only [if_neg (show ¬ (1 : Int) = 0 by decide), if_pos, Bool.and_eq_true, decide_eq_true_eq] at h
    have hy4 : y.size = 4 := by have : (y.size : Int) = 4 := hy; omega
    have b := match_bd h.2.1
    rw [hy4, p10_4] at b
    have c : cnt 1 = 120000 := by decide
    omega
  · simp only [if_neg (show ¬ (2 : Int) = 0 by decide), if_neg (show ¬ (2 : Int) = 1 by decide), if_pos, Bool.and_eq_true, decide_eq_true_eq] at h
    have hy4 : y.size = 4 := by have : (y.size : Int) = 4 := hy; omega
    have b := match_bd h.2.1
    rw [hy4, p10_4] at b
    have c : cnt 2 = 40000 := by decide
    omega
  · simp only [if_neg (show ¬ (3 : Int) = 0 by decide), if_neg (show ¬ (3 : Int) = 1 by decide), if_neg (show ¬ (3 : Int) = 2 by decide)] at h
    have hy4 : y.size = 4 := by have : (y.size : Int) = 4 := hy; omega
    have b := match_bd h
    rw [hy4, p10_4] at b
    have c : cnt 3 = 10000 := by decide
    omega
  · simp only [if_neg (show ¬ (4 : Int) = 0 by decide), if_neg (show ¬ (4 : Int) = 1 by decide), if_neg (show ¬ (4 : Int) = 2 by decide)] at h
    have hy3 : y.size = 3 := by have : (y.size : Int) = 3 := hy; omega
    have b := match_bd h
    rw [hy3, p10_3] at b
    have c : cnt 4 = 1000 := by decide
    omega
  · simp only [if_neg (show ¬ (5 : Int) = 0 by decide), if_neg (show ¬ (5 : Int) = 1 by decide), if_neg (show ¬ (5 : Int) = 2 by decide)] at h
    have hy2 : y.size = 2 := by have : (y.size : Int) = 2 := hy; omega
    have b := match_bd h
    rw [hy2, p10_2] at b
    have c : cnt 5 = 100 := by decide
    omega
theorem numR_inn {p : PT} (hs : saneP p = true) (hb : numB p = true) : Inn 0 (cnt p.k - 1) (numR p) := sane_inn (numR_sane p) fun n hn => by
  obtain ⟨r, hr, h1, h2, _⟩ := hn
  have := inU_bd hs ((numR_in hs hb n).1 ⟨r, hr, h1, h2⟩)
  omega
/-- a point's set is told, or there is an error -/
theorem setE_cases (p : PT) : (setE p = 0 ∧ saneP p = true ∧ numB p = true ∧ setS p = numR p) ∨ (setS p = [] ∧ ((setE p = 2 ∧ saneP p = false) ∨ (setE p = 8 ∧ saneP p = true))) := by
  unfold setE setS
  by_cases h1 : saneP p = true
  · rw [if_pos h1, if_pos h1]
    by_cases h2 : numB p = true
    · rw [if_pos h2, if_pos h2]
      by_cases h3 : edgB p.k (numR p) = true
      · rw [if_pos h3, if_pos h3]; exact .inl ⟨rfl, h1, h2, rfl⟩
      · rw [if_neg h3, if_neg h3]; exact .inr ⟨rfl, .inr ⟨rfl, h1⟩⟩
    · rw [if_neg h2, if_neg h2]; exact .inr ⟨rfl, .inr ⟨rfl, h1⟩⟩
  · rw [if_neg h1, if_neg h1]; exact .inr ⟨rfl, .inl ⟨rfl, by simpa using h1⟩⟩
theorem hasB_in {l : List R} (h : sane l) (n : Int) : hasB l n = true ↔ inL l n := has_sane h n
theorem numR_has {p : PT} (hs : saneP p = true) (hb : numB p = true) (i : Int) : hasB (nf (numR p)) i = inU p i := by
  rw [nf_of_sane (numR_sane p), Bool.eq_iff_iff, hasB_in (numR_sane p), numR_in hs hb]
theorem sumR_pos {l : List R} (h : ∀ r ∈ l, r.1 ≤ r.2) (hne : l ≠ []) : 0 < sumR l := by
  have nn : ∀ l : List R, (∀ r ∈ l, r.1 ≤ r.2) → 0 ≤ sumR l := by
    intro l
    induction l with
    | nil => intro _; exact Int.le_refl _
    | cons r t ih =>
      intro h
      have := ih (fun q hq => h q (by simp [hq]))
      have := h r (by simp)
      unfold sumR
      omega
  match l, h, hne with
  | r :: t, h, _ =>
    have := nn t (fun q hq => h q (by simp [hq]))
    have := h r (by simp)
    unfold sumR
    omega
/-- a set that is not empty: its first and its last run -/
theorem ends_of {l : List R} (hne : l ≠ []) {a b : Int} (h : Inn a b l) : ∃ n : Nat, l.length = n + 1 ∧ a ≤ (at_ l 0).1 ∧ (at_ l n).2 ≤ b := by
  match l, hne, h with
  | r :: t, _, h =>
    refine ⟨t.length, by simp, (h r (by simp)).1, ?_⟩
    have hm : at_ (r :: t) t.length ∈ r :: t := by unfold at_; simp [List.getD]
    exact (h _ hm).2.2
end Go.Proofs.YtbjnghmmfolaeaaDoor

namespace Go.Proofs.YtbjnghmmfolaeaaDoor
open Go.RowKit
set_option linter.unusedVariables false
theorem iter_drewN (w : World) (s : ByteArray) (p m k : Nat) : ((w.drewN m).iter s p).drewN k = (w.drewN (m + k)).iter s p := by
  rw [← World.drewN_drewN]; rfl
theorem iterPos_drewN (w : World) (s : ByteArray) (p m : Nat) : ((w.drewN m).iter s p).iterPos w.heap.size = p := World.iterPos_iter (w.drewN m) s p
set_option maxHeartbeats 2000000 in
theorem mmatch_any (s : ByteArray) (n : Int) (w : World) (nl : -9223372036854775808 ≤ n) (nh : n ≤ 9223372036854775807) :
    Calls Tryd.prog 23 #[.string s, .int .i64 n] w fun e w' => e = .returned (.bool (matchM s n)) ∧ Kp w w' := by
  have C := Lib.hid (fun w => msane_any s w)
  rcases Bool.eq_false_or_eq_true (saneM s) with h | h
  · rw [h] at C
    have M := mk_of h
    obtain ⟨m1, m2, m3⟩ := M
    have M3 := Lib.hid m3
    clear m3
    by_cases n0 : n < 0
    · rw [show matchM s n = false by unfold matchM; rw [show decide (0 ≤ n) = false by simp; omega]; simp]
      clear h
      go_enter Tryd.func23, Tryd.ntmps23
      go_wp2_with fail
      refine (C.out _).mono ?_
      rintro e w1 ⟨rfl, k1⟩
      have K1 := Lib.hid k1
      clear k1
      go_wp2
      go_ret
      exact ⟨rfl, K1.out⟩
    have n0' : 0 ≤ n := by omega
    have e1 : matchM s n = (decide (n < P10 s.size) && fitsM s n s.size) := by
      unfold matchM; rw [h, show decide (0 ≤ n) = true by simp; omega]; simp
    have E1 := Lib.hid e1
    clear e1 h
    go_enter Tryd.func23, Tryd.ntmps23
    go_wp2_with fail
    refine (C.out _).mono ?_
    rintro e w1 ⟨rfl, k1⟩
    have K1 := Lib.hid k1
    clear k1
    go_wp2
    go_loopw [5] (fun c w' => ∃ pos : Nat, pos ≤ s.size ∧ w' = w1.iter s pos ∧ c = .int .i64 (P10 pos)) (fun _ w' => s.size - w'.iterPos w1.heap.size)
    case atStart => exact ⟨0, by omega, rfl, rfl⟩
    case round =>
      obtain ⟨pos, hp, rfl, rfl⟩ := hrel
      by_cases hlt : pos < s.size
      · have m4 := M3.out pos hlt
        have bd := P10_pos pos
        have bd2 := P10_le pos (by omega)
        have S := Lib.hid (show P10 (pos + 1) = 10 * P10 pos from rfl)
        have hnx := next_at (P := Tryd.prog) w1 s pos _ hlt rfl (by omega)
        generalize bt s pos = b at *
        generalize P10 pos = c at *
        clear m4
        go_wp2
        go_roundw
        case rel => exact ⟨pos + 1, by omega, rfl, by rw [S.out, Int.mul_comm]⟩
        case measure => simp; omega
      · obtain rfl : pos = s.size := by omega
        have hnx : ∀ ty, (Instr.next (.pointer (some ⟨w1.heap.size, 0, none⟩)) true ty).run Tryd.prog (w1.iter s s.size) = _ := fun ty => run_next_end w1 s s.size ty hlt
        have bd := P10_pos s.size
        have bd2 := P10_le s.size (by omega)
        by_cases hn : n < P10 s.size
        · have E2 := Lib.hid (show matchM s n = fitsM s n s.size by rw [E1.out, show decide (n < P10 s.size) = true by simp; omega]; simp)
          have F0 := Lib.hid (show fitsM s n 0 = true from rfl)
          have PP := Lib.hid (show P10 s.size = P10 (s.size - 0) from rfl)
          obtain ⟨pl, epl⟩ : ∃ x, x = P10 s.size := ⟨_, rfl⟩
          rw [← epl] at hn bd bd2 PP ⊢
          clear epl E1
          go_wp2_with fail
          clear hnx
          have K2 := Lib.hid (K1.out.trans (Kp.iter w1 s s.size))
          generalize w1.iter s s.size = w2 at *
          go_loopw [5, 7] (fun c _ w' => ∃ pos m : Nat, pos ≤ s.size ∧ w' = (w2.drewN m).iter s pos ∧ c = .int .i64 (P10 (s.size - pos)) ∧ fitsM s n pos = true) (fun _ _ w' => s.size - w'.iterPos w2.heap.size)
          case atStart => exact ⟨0, 0, by omega, rfl, by rw [PP.out], F0.out⟩
          case round =>
            obtain ⟨pos, m, hp, rfl, rfl, hf⟩ := hrel
            have HF := Lib.hid hf
            clear hf
            by_cases hlt : pos < s.size
            · have m4 := M3.out pos hlt
              have S := Lib.hid (show fitsM s n (pos + 1) = (fitsM s n pos && fitB (bt s pos) n (P10 (s.size - 1 - pos))) from rfl)
              have SN := Lib.hid (fun h => fitsM_no (s := s) (n := n) hlt h)
              obtain ⟨b, eb⟩ : ∃ b, bt s pos = b := ⟨_, rfl⟩
              rw [eb] at m4 S SN
              have hnx : ∀ ty, (Instr.next (.pointer (some ⟨w2.heap.size, 0, none⟩)) true ty).run Tryd.prog ((w2.drewN m).iter s pos) = _ := next_at (P := Tryd.prog) (w2.drewN m) s pos b hlt eb (by omega)
              have q1 := P10_pos (s.size - 1 - pos)
              have q2 := P10_le (s.size - 1 - pos) (by omega)
              have q3 := P10_le (s.size - pos) (by omega)
              have q4 := P10_div (s.size - 1 - pos)
              have q5 := P10_pos (s.size - pos)
              have QE := Lib.hid (show s.size - 1 - pos = s.size - (pos + 1) by omega)
              rw [show s.size - 1 - pos + 1 = s.size - pos by omega] at q4
              rw [QE.out] at q1 q2 q4 S SN
              generalize P10 (s.size - pos) = pc at *
              obtain ⟨pq, epq⟩ : ∃ x, x = P10 (s.size - (pos + 1)) := ⟨_, rfl⟩
              rw [← epq] at q1 q2 q4 S SN
              have EPQ := Lib.hid epq
              clear epq eb
              have V := Lib.hid (fun (h : 48 ≤ (b : Int)) (h2 : (b : Int) ≤ 57) w => value_any b w h h2)
              have pne : pq ≠ 0 := by omega
              by_cases hx : b = 88
              · subst hx
                have S2 := Lib.hid (show fitsM s n (pos + 1) = true by rw [S.out, HF.out]; rfl)
                clear S SN m4
                go_wp2_with fail
                go_quiet (fail)
                go_wp2
                refine ⟨⟨pos + 1, _, by omega, iter_drewN _ _ _ _ _, congrArg (Value.int .i64) (q4.trans EPQ.out), S2.out⟩, ?_⟩
                rw [iter_drewN, iterPos_drewN, iterPos_drewN]; omega
              · have g0 : ((b : Int) != 88) = true := by simp; omega
                have V2 := Lib.hid (V.out (by omega) (by omega))
                have dn : 0 ≤ n / pq := Int.ediv_nonneg n0' (by omega)
                have td : (n / pq).tmod 10 = n / pq % 10 := Int.tmod_eq_emod_of_nonneg dn
                have FB : fitB b n pq = ((b : Int) - 48 == n / pq % 10) := by unfold fitB; rw [show (b == 88) = false by simpa using hx]; rfl
                clear V dn
                rcases Bool.eq_false_or_eq_true ((b : Int) - 48 == n / pq % 10) with g | g
                · rw [g] at FB
                  have S2 := Lib.hid (show fitsM s n (pos + 1) = true by rw [S.out, HF.out, FB]; rfl)
                  have g1 : ((b : Int) - 48 != (n / pq).tmod 10) = false := by rw [td]; simp at g ⊢; omega
                  clear S SN FB td g
                  go_wp2_with fail
                  go_quiet ((go_at_call 67; exact quiet_same (V2.out _)))
                  go_wp2
                  refine ⟨⟨pos + 1, _, by omega, iter_drewN _ _ _ _ _, congrArg (Value.int .i64) (q4.trans EPQ.out), S2.out⟩, ?_⟩
                  rw [iter_drewN, iterPos_drewN, iterPos_drewN]; omega
                · rw [g] at FB
                  have S2 := Lib.hid (show matchM s n = false by rw [E2.out]; exact SN.out FB)
                  have g1 : ((b : Int) - 48 != (n / pq).tmod 10) = true := by rw [td]; simp at g ⊢; omega
                  clear S SN FB td g
                  go_wp2_with fail
                  go_quiet ((go_at_call 67; exact quiet_same (V2.out _)))
                  go_wp2
                  go_ret
                  exact ⟨ret_bool S2.out.symm, K2.out.trans (((Kp.drewN w2 m).trans (Kp.iter _ _ _)).trans (Kp.drewN _ _))⟩
            · obtain rfl : pos = s.size := by omega
              have hnx : ∀ ty, (Instr.next (.pointer (some ⟨w2.heap.size, 0, none⟩)) true ty).run Tryd.prog ((w2.drewN m).iter s s.size) = _ := fun ty => run_next_end (w2.drewN m) s s.size ty hlt
              have S2 := Lib.hid (show matchM s n = true by rw [E2.out, HF.out])
              go_wp2
              go_ret
              exact ⟨ret_bool S2.out.symm, K2.out.trans ((Kp.drewN w2 m).trans (Kp.iter _ _ _))⟩
        · have E2 := Lib.hid (show matchM s n = false by rw [E1.out, show decide (n < P10 s.size) = false by simp; omega]; simp)
          generalize P10 s.size = pl at *
          go_wp2
          go_ret
          exact ⟨ret_bool E2.out.symm, K1.out.trans (Kp.iter _ _ _)⟩
  · rw [h] at C
    rw [show matchM s n = false by unfold matchM; rw [h]; rfl]
    clear h
    go_enter Tryd.func23, Tryd.ntmps23
    go_wp2_with fail
    refine (C.out _).mono ?_
    rintro e w1 ⟨rfl, k1⟩
    have K1 := Lib.hid k1
    clear k1
    go_wp2
    go_ret
    exact ⟨rfl, K1.out⟩
end Go.Proofs.YtbjnghmmfolaeaaDoor
