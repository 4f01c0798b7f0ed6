/-
  Joined: Cal, Ints, CivilA, CivilB.
-/
import Derived.Test.YtndmohamjffpcaaDoorKit
import Derived.Test.YtndmohamjffpcaaDoorChecked
import Derived.Lib.LaidTab
import Derived.LoopTactic
namespace Go.Proofs.YtndmohamjffpcaaDoor
set_option linter.unusedVariables false

def lpB (y : Int) : Bool := decide ((y % 4 = 0 ∧ ¬ y % 100 = 0) ∨ y % 400 = 0)
def dim (y m : Int) : Int := if m < 1 ∨ 12 < m then 0 else if m = 2 then (if lpB y then 29 else 28) else if m = 4 ∨ m = 6 ∨ m = 9 ∨ m = 11 then 30 else 31
def vldB (y m d : Int) : Bool := decide (0 ≤ y ∧ y ≤ 9999 ∧ 1 ≤ d ∧ d ≤ dim y m)
/-- the days ahead of a year -/
def sty (y : Int) : Int := y * 365 + (y + 3) / 4 - (y + 99) / 100 + (y + 399) / 400
/-- the days of a year ahead of its month m, 1 to 13 -/
def cum (y m : Int) : Int := (if m ≤ 1 then 0 else if m = 2 then 31 else if m = 3 then 59 else if m = 4 then 90 else if m = 5 then 120 else if m = 6 then 151 else if m = 7 then 181 else if m = 8 then 212 else if m = 9 then 243 else if m = 10 then 273 else if m = 11 then 304 else if m = 12 then 334 else 365) + (if 2 < m then (if lpB y then 1 else 0) else 0)
def num (y m d : Int) : Int := sty y + cum y m + d - 1

theorem lpB_cases (y : Int) : (lpB y = true ∧ (y % 4 = 0 ∧ ¬ y % 100 = 0 ∨ y % 400 = 0)) ∨ (lpB y = false ∧ ¬ (y % 4 = 0 ∧ ¬ y % 100 = 0 ∨ y % 400 = 0)) := by
  by_cases h : (y % 4 = 0 ∧ ¬ y % 100 = 0) ∨ y % 400 = 0
  · exact .inl ⟨by unfold lpB; exact decide_eq_true h, h⟩
  · exact .inr ⟨by unfold lpB; exact decide_eq_false h, h⟩
theorem dim_bd (y m : Int) : 0 ≤ dim y m ∧ dim y m ≤ 31 := by
  unfold dim; (repeat' split) <;> omega
theorem dim_pos (y m : Int) (h : 1 ≤ m) (h' : m ≤ 12) : 28 ≤ dim y m := by
  unfold dim; (repeat' split) <;> omega
theorem dim_month {y m : Int} (h : 1 ≤ dim y m) : 1 ≤ m ∧ m ≤ 12 := by
  unfold dim at h; split at h <;> omega
theorem cum_bd (y m : Int) : 0 ≤ cum y m ∧ cum y m ≤ 366 := by
  unfold cum; (repeat' split) <;> omega
theorem cum_one (y : Int) : cum y 1 = 0 := by unfold cum; simp
theorem cum_succ (y m : Int) (h : 1 ≤ m) (h' : m ≤ 12) : cum y (m + 1) = cum y m + dim y m := by
  have : m = 1 ∨ m = 2 ∨ m = 3 ∨ m = 4 ∨ m = 5 ∨ m = 6 ∨ m = 7 ∨ m = 8 ∨ m = 9 ∨ m = 10 ∨ m = 11 ∨ m = 12 := by omega
  rcases this with rfl | rfl | rfl | rfl | rfl | rfl | rfl | rfl | rfl | rfl | rfl | rfl <;> cases hl : lpB y <;> simp [cum, dim, hl]
theorem cum_13 (y : Int) : cum y 13 = 365 + (if lpB y then 1 else 0) := by unfold cum; simp
theorem sty_succ (y : Int) (h : 0 ≤ y) : sty (y + 1) = sty y + cum y 13 := by
  rw [cum_13]
  rcases lpB_cases y with ⟨e, h1⟩ | ⟨e, h1⟩ <;> rw [e] <;> simp <;> unfold sty <;> omega
theorem sty_bd (y : Int) (h : 0 ≤ y) (h' : y ≤ 10000) : 0 ≤ sty y ∧ sty y ≤ 3652425 := by unfold sty; omega
theorem sty_0 : sty 0 = 0 := by decide
theorem sty_max : sty 10000 = 3652425 := by decide
theorem sty_floor (y : Int) : 365 * y + ((y - 1) / 4 - (y - 1) / 100 + (y - 1) / 400 + 1) = sty y := by unfold sty; omega
theorem sty_mono (a b : Int) (h : 0 ≤ a) (h' : a ≤ b) : sty a ≤ sty b := by unfold sty; omega
theorem sty_lt (a b : Int) (h : 0 ≤ a) (h' : a < b) : sty a + 365 ≤ sty b := by unfold sty; omega
theorem cum_mono (y a b : Int) (ha : 1 ≤ a) (h : a < b) (hb : b ≤ 13) : cum y a + dim y a ≤ cum y b := by
  have : ∀ k : Nat, a + 1 + k ≤ 13 → cum y a + dim y a ≤ cum y (a + 1 + k) := by
    intro k
    induction k with
    | zero => intro _; rw [← cum_succ y a ha (by omega)]; simp
    | succ k ih =>
      intro hk
      have e := cum_succ y (a + 1 + k) (by omega) (by omega)
      have d := dim_bd y (a + 1 + k)
      have := ih (by omega)
      have e2 : a + 1 + ((k + 1 : Nat) : Int) = a + 1 + k + 1 := by omega
      rw [e2, e]; omega
  have h2 := this (b - a - 1).toNat (by omega)
  have e : a + 1 + ((b - a - 1).toNat : Int) = b := by omega
  rw [e] at h2; exact h2

theorem vld_iff (y m d : Int) : vldB y m d = true ↔ 0 ≤ y ∧ y ≤ 9999 ∧ 1 ≤ d ∧ d ≤ dim y m := by unfold vldB; simp
theorem vld_bd {y m d : Int} (h : vldB y m d = true) : 0 ≤ y ∧ y ≤ 9999 ∧ 1 ≤ m ∧ m ≤ 12 ∧ 1 ≤ d ∧ d ≤ 31 ∧ d ≤ dim y m := by
  have h1 := (vld_iff y m d).1 h
  have h2 := dim_month (show 1 ≤ dim y m by omega)
  have h3 := dim_bd y m
  omega
theorem num_in {y m d : Int} (h : vldB y m d = true) : sty y ≤ num y m d ∧ num y m d < sty (y + 1) ∧ sty y + cum y m ≤ num y m d ∧ num y m d < sty y + cum y m + dim y m := by
  obtain ⟨h1, h2, h3, h4, h5, h6, h7⟩ := vld_bd h
  have c := cum_bd y m
  have e := sty_succ y h1
  have e2 : cum y m + dim y m ≤ cum y 13 := by
    by_cases k : m = 12
    · subst k; have := cum_succ y 12 (by omega) (by omega); simp at this; omega
    · exact cum_mono y m 13 h3 (by omega) (by omega)
  unfold num; omega
theorem num_range {y m d : Int} (h : vldB y m d = true) : 0 ≤ num y m d ∧ num y m d ≤ 3652424 := by
  have h1 := num_in h
  have h2 := vld_bd h
  have h3 := sty_bd y (by omega) (by omega)
  have h4 := sty_bd (y + 1) (by omega) (by omega)
  omega
/-- dates are in the order of their numbers -/
theorem num_lt {y m d y' m' d' : Int} (h : vldB y m d = true) (h' : vldB y' m' d' = true) : num y m d < num y' m' d' ↔ y < y' ∨ y = y' ∧ (m < m' ∨ m = m' ∧ d < d') := by
  have a := num_in h
  have b := num_in h'
  have p := vld_bd h
  have q := vld_bd h'
  rcases Int.lt_trichotomy y y' with k | k | k
  · have := sty_mono (y + 1) y' (by omega) (by omega); constructor
    · intro _; exact .inl k
    · intro _; omega
  · subst k
    rcases Int.lt_trichotomy m m' with j | j | j
    · have := cum_mono y m m' (by omega) j (by omega); constructor
      · intro _; exact .inr ⟨rfl, .inl j⟩
      · intro _; omega
    · subst j; unfold num; constructor <;> intro _ <;> omega
    · have := cum_mono y m' m (by omega) j (by omega); constructor <;> intro _ <;> omega
  · have := sty_mono (y' + 1) y (by omega) (by omega); constructor <;> intro _ <;> omega
theorem num_inj {y m d y' m' d' : Int} (h : vldB y m d = true) (h' : vldB y' m' d' = true) (e : num y m d = num y' m' d') : y = y' ∧ m = m' ∧ d = d' := by
  have a := num_lt h h'
  have b := num_lt h' h
  omega
theorem year_ex (n : Int) (h : 0 ≤ n) : ∀ k : Nat, n < sty k → ∃ y : Int, 0 ≤ y ∧ y < k ∧ sty y ≤ n ∧ n < sty (y + 1) := by
  intro k
  induction k with
  | zero => intro hk; have := sty_0; simp at hk; omega
  | succ k ih =>
    intro hk
    by_cases c : n < sty k
    · obtain ⟨y, h1, h2, h3, h4⟩ := ih c; exact ⟨y, h1, by omega, h3, h4⟩
    · exact ⟨k, by omega, by omega, by omega, by simpa using hk⟩
theorem month_ex (y r : Int) (h : 0 ≤ r) : ∀ k : Nat, k ≤ 12 → r < cum y (1 + k) → ∃ m : Int, 1 ≤ m ∧ m < 1 + k ∧ cum y m ≤ r ∧ r < cum y m + dim y m := by
  intro k
  induction k with
  | zero => intro _ hk; have := cum_one y; simp at hk; omega
  | succ k ih =>
    intro h12 hk
    by_cases c : r < cum y (1 + k)
    · obtain ⟨m, h1, h2, h3, h4⟩ := ih (by omega) c; exact ⟨m, h1, by omega, h3, h4⟩
    · have e := cum_succ y (1 + k) (by omega) (by omega)
      have e2 : (1 + ((k + 1 : Nat) : Int)) = 1 + (k : Int) + 1 := by omega
      rw [e2, e] at hk
      exact ⟨1 + k, by omega, by omega, by omega, hk⟩
theorem date_ex (n : Int) (h : 0 ≤ n) (h' : n ≤ 3652424) : ∃ p : Int × Int × Int, vldB p.1 p.2.1 p.2.2 = true ∧ num p.1 p.2.1 p.2.2 = n := by
  obtain ⟨y, h1, h2, h3, h4⟩ := year_ex n h 10000 (by have := sty_max; show n < sty 10000; omega)
  rw [sty_succ y h1] at h4
  obtain ⟨m, g1, g2, g3, g4⟩ := month_ex y (n - sty y) (by omega) 12 (by omega) (by show _ < cum y 13; omega)
  refine ⟨(y, m, n - sty y - cum y m + 1), (vld_iff _ _ _).2 ⟨h1, by omega, by show 1 ≤ n - sty y - cum y m + 1; omega, by show n - sty y - cum y m + 1 ≤ dim y m; omega⟩, ?_⟩
  show num y m (n - sty y - cum y m + 1) = n
  unfold num; omega
open Classical in
noncomputable def dte (n : Int) : Int × Int × Int := if h : ∃ p : Int × Int × Int, vldB p.1 p.2.1 p.2.2 = true ∧ num p.1 p.2.1 p.2.2 = n then Classical.choose h else (0, 0, 0)
theorem dte_yes (n : Int) (h : 0 ≤ n) (h' : n ≤ 3652424) : vldB (dte n).1 (dte n).2.1 (dte n).2.2 = true ∧ num (dte n).1 (dte n).2.1 (dte n).2.2 = n := by
  have k := date_ex n h h'
  unfold dte; rw [dif_pos k]; exact Classical.choose_spec k
theorem dte_no (n : Int) (h : n < 0 ∨ 3652424 < n) : dte n = (0, 0, 0) := by
  unfold dte; rw [dif_neg]
  rintro ⟨p, h1, h2⟩
  have := num_range h1; omega
theorem dte_of {y m d : Int} (h : vldB y m d = true) : dte (num y m d) = (y, m, d) := by
  have r := num_range h
  obtain ⟨a, b⟩ := dte_yes _ r.1 r.2
  obtain ⟨e1, e2, e3⟩ := num_inj a h b
  exact Prod.ext e1 (Prod.ext e2 e3)
theorem dte_eq {n y m d : Int} (h : vldB y m d = true) (e : num y m d = n) : dte n = (y, m, d) := by rw [← e]; exact dte_of h
theorem dte_fst_bd (n : Int) : 0 ≤ (dte n).1 ∧ (dte n).1 ≤ 9999 ∧ 0 ≤ (dte n).2.1 ∧ (dte n).2.1 ≤ 12 ∧ 0 ≤ (dte n).2.2 ∧ (dte n).2.2 ≤ 31 := by
  by_cases h : 0 ≤ n ∧ n ≤ 3652424
  · have := vld_bd (dte_yes n h.1 h.2).1; omega
  · rw [dte_no n (by omega)]; simp
def wkd (n : Int) : Int := if n < 0 ∨ 3652424 < n then -1 else (n + 5) % 7
end Go.Proofs.YtndmohamjffpcaaDoor

namespace Go.Proofs.YtndmohamjffpcaaDoor
open Go.RowKit

def flr (a b : Int) : Int := if b < 1 then 0 else a / b
def mdl (a b : Int) : Int := if b < 1 then 0 else a % b
def clamp (n lo hi : Int) : Int := if n < lo ∨ hi < lo then lo else if n ≤ hi then n else hi

theorem flr_neg {a b : Int} (hb : 1 ≤ b) (h : a.tmod b < 0) : a.tdiv b - 1 = a / b := by
  have e := @Int.tdiv_eq_ediv a b
  have m := @Int.tmod_eq_emod a b
  have p := Int.emod_nonneg a (show b ≠ 0 by omega)
  have q := Int.emod_lt_of_pos a (show 0 < b by omega)
  by_cases c : 0 ≤ a ∨ b ∣ a
  · rw [if_pos c] at m; simp at m; omega
  · rw [if_neg c] at e
    rw [Int.sign_eq_one_of_pos (by omega)] at e; omega
theorem flr_pos {a b : Int} (hb : 1 ≤ b) (h : 0 ≤ a.tmod b) : a.tdiv b = a / b := by
  have e := @Int.tdiv_eq_ediv a b
  have m := @Int.tmod_eq_emod a b
  have q := Int.emod_lt_of_pos a (show 0 < b by omega)
  by_cases c : 0 ≤ a ∨ b ∣ a
  · rw [if_pos c] at e; omega
  · rw [if_neg c] at m; omega
theorem mdl_neg {a b : Int} (hb : 1 ≤ b) (h : a.tmod b < 0) : a.tmod b + b = a % b := by
  have m := @Int.tmod_eq_emod a b
  have p := Int.emod_nonneg a (show b ≠ 0 by omega)
  have q := Int.emod_lt_of_pos a (show 0 < b by omega)
  by_cases c : 0 ≤ a ∨ b ∣ a
  · rw [if_pos c] at m; simp at m; omega
  · rw [if_neg c] at m; omega
theorem mdl_pos {a b : Int} (hb : 1 ≤ b) (h : 0 ≤ a.tmod b) : a.tmod b = a % b := by
  have m := @Int.tmod_eq_emod a b
  have q := Int.emod_lt_of_pos a (show 0 < b by omega)
  by_cases c : 0 ≤ a ∨ b ∣ a
  · rw [if_pos c] at m; simp at m; omega
  · rw [if_neg c] at m; omega
theorem ediv_bd {a b : Int} (hb : 1 ≤ b) (h : -9223372036854775808 ≤ a) (h' : a ≤ 9223372036854775807) : -9223372036854775808 ≤ a / b ∧ a / b ≤ 9223372036854775807 := by
  constructor
  · by_cases c : 0 ≤ a
    · have := Int.ediv_nonneg c (show 0 ≤ b by omega); omega
    · have := Int.ediv_le_ediv (show 0 < b by omega) h
      have e : (-9223372036854775808 : Int) ≤ -9223372036854775808 / b := by
        rw [Int.le_ediv_iff_mul_le (by omega)]; omega
      omega
  · have := Int.ediv_le_self b (show 0 ≤ a ∨ a < 0 by omega |> fun _ => (show (0:Int) ≤ 9223372036854775807 by omega))
    have h2 := Int.ediv_le_ediv (show 0 < b by omega) h'
    omega

theorem wrap64_mod (n : Int) : ∃ k : Int, wrap64 n = n + 18446744073709551616 * k := by
  unfold wrap64
  refine ⟨-((n + 9223372036854775808) / 18446744073709551616), ?_⟩
  have := Int.mul_ediv_add_emod (n + 9223372036854775808) 18446744073709551616
  omega
theorem wrap64_bd (n : Int) : -9223372036854775808 ≤ wrap64 n ∧ wrap64 n ≤ 9223372036854775807 := by
  unfold wrap64; omega
theorem tmod_bd {q a : Int} (ha : -9223372036854775808 ≤ a) (ha' : a ≤ 9223372036854775807) (h0 : a ≠ 0) : -9223372036854775808 < q.tmod a ∧ q.tmod a < 9223372036854775808 := by
  have h := Int.natAbs_tmod q a
  have h2 := Nat.mod_lt q.natAbs (show 0 < a.natAbs by omega)
  omega
theorem natAbs_tdiv_le (q a : Int) : (q.tdiv a).natAbs ≤ q.natAbs := by
  rw [Int.natAbs_tdiv]; exact Nat.div_le_self _ _
theorem natAbs_tdiv_half (q a : Int) (h : 2 ≤ a.natAbs) : (q.tdiv a).natAbs * 2 ≤ q.natAbs := by
  rw [Int.natAbs_tdiv]
  calc q.natAbs / a.natAbs * 2 ≤ q.natAbs / a.natAbs * a.natAbs := Nat.mul_le_mul_left _ h
    _ ≤ q.natAbs := Nat.div_mul_le_self _ _
theorem mul_test {a b : Int} (ha : -9223372036854775808 ≤ a) (ha' : a ≤ 9223372036854775807) (h0 : a ≠ 0) (h1 : a ≠ -1) :
    (wrap64 ((wrap64 (a * b)).tdiv a) != b) = true ∧ fitsB (a * b) = false ∨ (wrap64 ((wrap64 (a * b)).tdiv a) != b) = false ∧ fitsB (a * b) = true := by
  have bd := wrap64_bd (a * b)
  have hw : wrap64 ((wrap64 (a * b)).tdiv a) = (wrap64 (a * b)).tdiv a := by
    apply IntWalk.wrap64_in
    by_cases e1 : a = 1
    · subst e1; rw [Int.tdiv_one]; exact bd
    · have := natAbs_tdiv_half (wrap64 (a * b)) a (by omega)
      omega
  rw [hw]
  by_cases f : fitsB (a * b) = true
  · right
    have := fitsB_bd f
    rw [IntWalk.wrap64_in _ this, Int.mul_tdiv_cancel_left _ h0]
    exact ⟨by simp, f⟩
  · left
    refine ⟨?_, by simpa using f⟩
    rw [bne_iff_ne]
    intro hq
    apply f
    obtain ⟨k, hk⟩ := wrap64_mod (a * b)
    have hd := Int.tdiv_mul_add_tmod (wrap64 (a * b)) a
    have ht := tmod_bd (q := wrap64 (a * b)) ha ha' h0
    rw [hq, Int.mul_comm b a] at hd
    have : wrap64 (a * b) = a * b := by omega
    rw [← this]
    exact fitsB_yes bd.1 bd.2

end Go.Proofs.YtndmohamjffpcaaDoor

namespace Go.Proofs.YtndmohamjffpcaaDoor
open Go.RowKit
set_option linter.unusedVariables false

/-- the table of the months' lengths -/
def TabMD (w : World) : Prop := Lib.TabIs Tryd.prog w "lustrum/civil.monthDays" .i64 [0, 31, 28, 31, 30, 31, 30, 31, 31, 30, 31, 30, 31]
theorem tmod_beq (y k : Int) : (y.tmod k == 0) = (y % k == 0) := by
  rw [Bool.eq_iff_iff]; simp only [beq_iff_eq]
  rw [← Int.dvd_iff_tmod_eq_zero, ← Int.dvd_iff_emod_eq_zero]

end Go.Proofs.YtndmohamjffpcaaDoor

namespace Go.Proofs.YtndmohamjffpcaaDoor
open Go.RowKit
set_option linter.unusedVariables false

def dayB (n : Int) : Bool := decide (0 ≤ n ∧ n ≤ 3652424)
def IsYear (n : Int) (w : World) (e : Ending) (w' : World) : Prop := ∃ y : Int, e = .returned (.int .i64 y) ∧ 0 ≤ y ∧ y ≤ 9999 ∧ sty y ≤ n ∧ n < sty (y + 1) ∧ w = w'
theorem ret_three {a b c a' b' c' : Int} (h : a = a') (g : b = b') (k : c = c') : Ending.returned (.tuple #[.int .i64 a, .int .i64 b, .int .i64 c]) = .returned (.tuple #[.int .i64 a', .int .i64 b', .int .i64 c']) := by rw [h, g, k]
theorem dte_at {n y m : Int} (h1 : 0 ≤ y) (h2 : y ≤ 9999) (h3 : 1 ≤ m) (h4 : m ≤ 12) (h5 : 0 ≤ n - sty y - cum y m) (h6 : n - sty y - cum y m < dim y m) : dte n = (y, m, n - sty y - cum y m + 1) :=
  dte_eq ((vld_iff _ _ _).2 ⟨h1, h2, by omega, by omega⟩) (by unfold num; omega)

end Go.Proofs.YtndmohamjffpcaaDoor
