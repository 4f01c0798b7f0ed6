/-
  What the whole-number functions of package ints answer, for every int: contracts.
-/
import Derived.Test.YtfopcacoacedcaaDoorChecked
import Derived.Test.YtfopcacoacedcaaDoorKit
namespace Go.Proofs.YtfopcacoacedcaaDoor
open Go.RowKit

def flr (a b : Int) : Int := if b < 1 then 0 else a / b
def mdl (a b : Int) : Int := if b < 1 then 0 else a % b
def clamp (n lo hi : Int) : Int := if n < lo ∨ hi < lo then lo else if n ≤ hi then n else hi

theorem flr_neg {a b : Int} (hb : 1 ≤ b) (h : a.tmod b < 0) : a.tdiv b - 1 = a / b := by
  have e := @Int.tdiv_eq_ediv a b
  have m := @Int.tmod_eq_emod a b
  have p := Int.emod_nonneg a (show b ≠ 0 by omega)
  have q := Int.emod_lt_of_pos a (show 0 < b by omega)
  by_cases c : 0 ≤ a ∨ b ∣ a
  · rw [if_pos c] at m; simp at m; omega
  · rw [if_neg c] at e
    rw [Int.sign_eq_one_of_pos (by omega)] at e; omega
theorem flr_pos {a b : Int} (hb : 1 ≤ b) (h : 0 ≤ a.tmod b) : a.tdiv b = a / b := by
  have e := @Int.tdiv_eq_ediv a b
  have m := @Int.tmod_eq_emod a b
  have q := Int.emod_lt_of_pos a (show 0 < b by omega)
  by_cases c : 0 ≤ a ∨ b ∣ a
  · rw [if_pos c] at e; omega
  · rw [if_neg c] at m; omega
theorem mdl_neg {a b : Int} (hb : 1 ≤ b) (h : a.tmod b < 0) : a.tmod b + b = a % b := by
  have m := @Int.tmod_eq_emod a b
  have p := Int.emod_nonneg a (show b ≠ 0 by omega)
  have q := Int.emod_lt_of_pos a (show 0 < b by omega)
  by_cases c : 0 ≤ a ∨ b ∣ a
  · rw [if_pos c] at m; simp at m; omega
  · rw [if_neg c] at m; omega
theorem mdl_pos {a b : Int} (hb : 1 ≤ b) (h : 0 ≤ a.tmod b) : a.tmod b = a % b := by
  have m := @Int.tmod_eq_emod a b
  have q := Int.emod_lt_of_pos a (show 0 < b by omega)
  by_cases c : 0 ≤ a ∨ b ∣ a
  · rw [if_pos c] at m; simp at m; omega
  · rw [if_neg c] at m; omega
theorem ediv_bd {a b : Int} (hb : 1 ≤ b) (h : -9223372036854775808 ≤ a) (h' : a ≤ 9223372036854775807) : -9223372036854775808 ≤ a / b ∧ a / b ≤ 9223372036854775807 := by
  constructor
  · by_cases c : 0 ≤ a
    · have := Int.ediv_nonneg c (show 0 ≤ b by omega); omega
    · have := Int.ediv_le_ediv (show 0 < b by omega) h
      have e : (-9223372036854775808 : Int) ≤ -9223372036854775808 / b := by
        rw [Int.le_ediv_iff_mul_le (by omega)]; omega
      omega
  · have := Int.ediv_le_self b (show 0 ≤ a ∨ a < 0 by omega |> fun _ => (show (0:Int) ≤ 9223372036854775807 by omega))
    have h2 := Int.ediv_le_ediv (show 0 < b by omega) h'
    omega

theorem floor_any (a b : Int) (w : World) (ha : -9223372036854775808 ≤ a) (ha' : a ≤ 9223372036854775807) (hb : -9223372036854775808 ≤ b) (hb' : b ≤ 9223372036854775807) :
    Calls Tryd.prog 46 #[.int .i64 a, .int .i64 b] w fun e w' => e = .returned (.int .i64 (flr a b)) ∧ w = w' := by
  by_cases c : b < 1
  · have e : flr a b = 0 := by unfold flr; rw [if_pos c]
    rw [e]; clear e
    go_enter Tryd.func46, Tryd.ntmps46
    go_wp2
    go_ret
    exact ⟨rfl, rfl⟩
  · have e : flr a b = a / b := by unfold flr; rw [if_neg c]
    have bd := ediv_bd (show 1 ≤ b by omega) ha ha'
    rw [e]; clear e
    by_cases d : a.tmod b < 0
    · have k := flr_neg (show 1 ≤ b by omega) d
      have K : Hid (wrap64 (a.tdiv b - 1) = a / b) := by rw [k]; exact IntWalk.wrap64_in _ bd
      clear k bd
      go_enter Tryd.func46, Tryd.ntmps46
      go_wp2
      go_ret
      exact ⟨ret_int K.out, rfl⟩
    · have k := flr_pos (show 1 ≤ b by omega) (show 0 ≤ a.tmod b by omega)
      have K : Hid (a.tdiv b = a / b) := k
      clear k bd
      go_enter Tryd.func46, Tryd.ntmps46
      go_wp2
      go_ret
      exact ⟨ret_int K.out, rfl⟩


theorem wrap64_mod (n : Int) : ∃ k : Int, wrap64 n = n + 18446744073709551616 * k := by
  unfold wrap64
  refine ⟨-((n + 9223372036854775808) / 18446744073709551616), ?_⟩
  have := Int.mul_ediv_add_emod (n + 9223372036854775808) 18446744073709551616
  omega
theorem wrap64_bd (n : Int) : -9223372036854775808 ≤ wrap64 n ∧ wrap64 n ≤ 9223372036854775807 := by
  unfold wrap64; omega
theorem tmod_bd {q a : Int} (ha : -9223372036854775808 ≤ a) (ha' : a ≤ 9223372036854775807) (h0 : a ≠ 0) : -9223372036854775808 < q.tmod a ∧ q.tmod a < 9223372036854775808 := by
  have h := Int.natAbs_tmod q a
  have h2 := Nat.mod_lt q.natAbs (show 0 < a.natAbs by omega)
  omega
theorem natAbs_tdiv_le (q a : Int) : (q.tdiv a).natAbs ≤ q.natAbs := by
  rw [Int.natAbs_tdiv]; exact Nat.div_le_self _ _
theorem natAbs_tdiv_half (q a : Int) (h : 2 ≤ a.natAbs) : (q.tdiv a).natAbs * 2 ≤ q.natAbs := by
  rw [Int.natAbs_tdiv]
  calc q.natAbs / a.natAbs * 2 ≤ q.natAbs / a.natAbs * a.natAbs := Nat.mul_le_mul_left _ h
    _ ≤ q.natAbs := Nat.div_mul_le_self _ _
theorem mul_test {a b : Int} (ha : -9223372036854775808 ≤ a) (ha' : a ≤ 9223372036854775807) (h0 : a ≠ 0) (h1 : a ≠ -1) :
    (wrap64 ((wrap64 (a * b)).tdiv a) != b) = true ∧ fitsB (a * b) = false ∨ (wrap64 ((wrap64 (a * b)).tdiv a) != b) = false ∧ fitsB (a * b) = true := by
  have bd := wrap64_bd (a * b)
  have hw : wrap64 ((wrap64 (a * b)).tdiv a) = (wrap64 (a * b)).tdiv a := by
    apply IntWalk.wrap64_in
    by_cases e1 : a = 1
    · subst e1; rw [Int.tdiv_one]; exact bd
    · have := natAbs_tdiv_half (wrap64 (a * b)) a (by omega)
      omega
  rw [hw]
  by_cases f : fitsB (a * b) = true
  · right
    have := fitsB_bd f
    rw [IntWalk.wrap64_in _ this, Int.mul_tdiv_cancel_left _ h0]
    exact ⟨by simp, f⟩
  · left
    refine ⟨?_, by simpa using f⟩
    rw [bne_iff_ne]
    intro hq
    apply f
    obtain ⟨k, hk⟩ := wrap64_mod (a * b)
    have hd := Int.tdiv_mul_add_tmod (wrap64 (a * b)) a
    have ht := tmod_bd (q := wrap64 (a * b)) ha ha' h0
    rw [hq, Int.mul_comm b a] at hd
    have : wrap64 (a * b) = a * b := by omega
    rw [← this]
    exact fitsB_yes bd.1 bd.2

end Go.Proofs.YtfopcacoacedcaaDoor
