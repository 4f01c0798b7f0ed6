/-
  Joined: L8S, L8D.
-/
import Derived.Test.YtinpglfclbnhlaaGreatDoorGL8
import Derived.Test.YtinpglfclbnhlaaGreatDoorGPtU
import Derived.Test.YtinpglfclbnhlaaGreatDoorGLeafA
namespace Go.Proofs.YtinpglfclbnhlaaGreatDoor
open Go.RowKit
set_option linter.unusedVariables false
set_option linter.unusedSimpArgs false
theorem bytes_eq (a b : ByteArray) : (a == b) = true ↔ a = b := by
  rw [beq_toListBytes, beq_iff_eq, ByteArray.toList_eq, ByteArray.toList_eq]
  constructor
  · intro h
    obtain ⟨⟨x⟩⟩ := a
    obtain ⟨⟨y⟩⟩ := b
    simp only at h
    rw [h]
  · intro h
    rw [h]
def shortP (p : PT) : Bool := decide ((p.y.size : Int) ≤ 10) && (decide ((p.m.size : Int) ≤ 10) && decide ((p.d.size : Int) ≤ 10))
set_option maxHeartbeats 4000000 in
set_option maxRecDepth 100000 in
theorem short_any (p : PT) (w : World) : Calls Tryz.prog 5 #[ptV p] w fun e w' => e = .returned (.bool (shortP p)) ∧ Kp w w' := by
  obtain ⟨k, y, m, d, rfl⟩ := pt_dest p
  unfold ptV shortP
  simp only
  go_enter Tryz.func5, Tryz.ntmps5
  go_wp2
  all_goals go_ret
  all_goals refine ⟨?_, Kp.alloc _ _⟩
  all_goals (simp_all <;> omega)
section
variable {P : Program} {ops : Array Oper} {Q : Exit → Act → World → Prop} {md : Region.Mode} {S : World → Prop} {fuel : Nat} {listed : Array Bool} {a : Act} {w : World}
theorem tkV {v : Value} (i : Nat) (oi : Oper) (hy : ∀ w, S w → (execOp a.eval oi).run P w = .ok (.value v) w) (h : wpAnyH P md ops Q S fuel (listed.setIfInBounds i true) (a.put oi.dst v) w)
    (hi : ops[i]? = some oi := by rfl) (hs : Region.noSelect ops = true := by kernel_rfl) (hf : Region.free md ops listed i = true := by kernel_rfl) (hr : (Region.ready md ops listed).contains i = true := by kernel_rfl)
    (hQ : ∀ c a w, Q (.panic c) (a.put oi.dst v) w → Q (.panic c) a w := by exact fun _ _ _ h => h) (hw : Region.wanted oi (yielded ops a.tmps) = true := by rfl) (hS : S w := by assumption) : wpAnyH P md ops Q S (fuel + 1) listed a w :=
  tkW i oi hi hs hf hr hQ hw hy hS h
theorem tkN (i : Nat) (oi : Oper) (h : wpAnyH P md ops Q S fuel (listed.setIfInBounds i true) (a.put oi.dst undef) w)
    (hi : ops[i]? = some oi := by rfl) (hs : Region.noSelect ops = true := by kernel_rfl) (hf : Region.free md ops listed i = true := by kernel_rfl) (hr : (Region.ready md ops listed).contains i = true := by kernel_rfl)
    (hQ : ∀ c a w, Q (.panic c) (a.put oi.dst undef) w → Q (.panic c) a w := by exact fun _ _ _ h => h) (hw : Region.wanted oi (yielded ops a.tmps) = false := by rfl) (hS : S w := by assumption) : wpAnyH P md ops Q S (fuel + 1) listed a w :=
  tkU i oi hi hs hf hr hQ hw hS h
end
theorem xA {α : Type} (l : List α) (i : Nat) (x : α) : l.toArray.setIfInBounds i x = (l.set i x).toArray := List.setIfInBounds_toArray ..
theorem xB {α : Type} (l : List α) (a b : α) : (a :: l).set 0 b = b :: l := rfl
theorem xC {α : Type} (l : List α) (n : Nat) (a b : α) : (a :: l).set (n + 1) b = a :: l.set n b := rfl
end Go.Proofs.YtinpglfclbnhlaaGreatDoor

namespace Go.Proofs.YtinpglfclbnhlaaGreatDoor
open Go.RowKit
set_option linter.unusedVariables false
set_option linter.unusedSimpArgs false
theorem match_bd {s : ByteArray} {n : Int} (h : matchM s n = true) : 0 ≤ n ∧ n < P10 s.size := by
  unfold matchM at h
  simp only [Bool.and_eq_true, decide_eq_true_eq] at h
  exact ⟨h.1.1.2, h.1.2⟩
theorem p10_4 : P10 4 = 10000 := by decide
theorem p10_3 : P10 3 = 1000 := by decide
theorem p10_2 : P10 2 = 100 := by decide
theorem inU_bd {p : PT} (hs : saneP p = true) {n : Int} (h : inU p n = true) : 0 ≤ n ∧ n < cnt p.k := by
  obtain ⟨hk, hy, _, _, _⟩ := sane_kind hs
  obtain ⟨k, y, m, d⟩ := p
  simp only at *
  unfold inU at h
  simp only at h
  rcases kinds6 hk with rfl | rfl | rfl | rfl | rfl | rfl
  · simp only [if_pos, Bool.and_eq_true, decide_eq_true_eq] at h
    have c : cnt 0 = 3652425 := by decide
    by_cases g : 0 ≤ n ∧ n ≤ 3652424
    · omega
    · rw [dte_no n (by omega)] at h
      have := h.1
      simp at this
  · simp only [if_neg (show ¬ (1 : Int) = 0 by decide), if_pos, Bool.and_eq_true, decide_eq_true_eq] at h
    have hy4 : y.size = 4 := by have : (y.size : Int) = 4 := hy; omega
    have b := match_bd h.2.1
    rw [hy4, p10_4] at b
    have c : cnt 1 = 120000 := by decide
    omega
  · simp only [if_neg (show ¬ (2 : Int) = 0 by decide), if_neg (show ¬ (2 : Int) = 1 by decide), if_pos, Bool.and_eq_true, decide_eq_true_eq] at h
    have hy4 : y.size = 4 := by have : (y.size : Int) = 4 := hy; omega
    have b := match_bd h.2.1
    rw [hy4, p10_4] at b
    have c : cnt 2 = 40000 := by decide
    omega
  · simp only [if_neg (show ¬ (3 : Int) = 0 by decide), if_neg (show ¬ (3 : Int) = 1 by decide), if_neg (show ¬ (3 : Int) = 2 by decide)] at h
    have hy4 : y.size = 4 := by have : (y.size : Int) = 4 := hy; omega
    have b := match_bd h
    rw [hy4, p10_4] at b
    have c : cnt 3 = 10000 := by decide
    omega
  · simp only [if_neg (show ¬ (4 : Int) = 0 by decide), if_neg (show ¬ (4 : Int) = 1 by decide), if_neg (show ¬ (4 : Int) = 2 by decide)] at h
    have hy3 : y.size = 3 := by have : (y.size : Int) = 3 := hy; omega
    have b := match_bd h
    rw [hy3, p10_3] at b
    have c : cnt 4 = 1000 := by decide
    omega
  · simp only [if_neg (show ¬ (5 : Int) = 0 by decide), if_neg (show ¬ (5 : Int) = 1 by decide), if_neg (show ¬ (5 : Int) = 2 by decide)] at h
    have hy2 : y.size = 2 := by have : (y.size : Int) = 2 := hy; omega
    have b := match_bd h
    rw [hy2, p10_2] at b
    have c : cnt 5 = 100 := by decide
    omega
theorem numR_inn {p : PT} (hs : saneP p = true) (hb : numB p = true) : Inn 0 (cnt p.k - 1) (numR p) := sane_inn (numR_sane p) fun n hn => by
  obtain ⟨r, hr, h1, h2, _⟩ := hn
  have := inU_bd hs ((numR_in hs hb n).1 ⟨r, hr, h1, h2⟩)
  omega
/-- a point's set is told, or there is an error -/
theorem setE_cases (p : PT) : (setE p = 0 ∧ saneP p = true ∧ numB p = true ∧ setS p = numR p) ∨ (setS p = [] ∧ ((setE p = 2 ∧ saneP p = false) ∨ (setE p = 8 ∧ saneP p = true))) := by
  unfold setE setS
  by_cases h1 : saneP p = true
  · rw [if_pos h1, if_pos h1]
    by_cases h2 : numB p = true
    · rw [if_pos h2, if_pos h2]
      by_cases h3 : edgB p.k (numR p) = true
      · rw [if_pos h3, if_pos h3]; exact .inl ⟨rfl, h1, h2, rfl⟩
      · rw [if_neg h3, if_neg h3]; exact .inr ⟨rfl, .inr ⟨rfl, h1⟩⟩
    · rw [if_neg h2, if_neg h2]; exact .inr ⟨rfl, .inr ⟨rfl, h1⟩⟩
  · rw [if_neg h1, if_neg h1]; exact .inr ⟨rfl, .inl ⟨rfl, by simpa using h1⟩⟩
theorem hasB_in {l : List R} (h : sane l) (n : Int) : hasB l n = true ↔ inL l n := has_sane h n
theorem numR_has {p : PT} (hs : saneP p = true) (hb : numB p = true) (i : Int) : hasB (nf (numR p)) i = inU p i := by
  rw [nf_of_sane (numR_sane p), Bool.eq_iff_iff, hasB_in (numR_sane p), numR_in hs hb]
theorem sumR_pos {l : List R} (h : ∀ r ∈ l, r.1 ≤ r.2) (hne : l ≠ []) : 0 < sumR l := by
  have nn : ∀ l : List R, (∀ r ∈ l, r.1 ≤ r.2) → 0 ≤ sumR l := by
    intro l
    induction l with
    | nil => intro _; exact Int.le_refl _
    | cons r t ih =>
      intro h
      have := ih (fun q hq => h q (by simp [hq]))
      have := h r (by simp)
      unfold sumR
      omega
  match l, h, hne with
  | r :: t, h, _ =>
    have := nn t (fun q hq => h q (by simp [hq]))
    have := h r (by simp)
    unfold sumR
    omega
/-- a set that is not empty: its first and its last run -/
theorem ends_of {l : List R} (hne : l ≠ []) {a b : Int} (h : Inn a b l) : ∃ n : Nat, l.length = n + 1 ∧ a ≤ (at_ l 0).1 ∧ (at_ l n).2 ≤ b := by
  match l, hne, h with
  | r :: t, _, h =>
    refine ⟨t.length, by simp, (h r (by simp)).1, ?_⟩
    have hm : at_ (r :: t) t.length ∈ r :: t := by unfold at_; simp [List.getD]
    exact (h _ hm).2.2
end Go.Proofs.YtinpglfclbnhlaaGreatDoor
