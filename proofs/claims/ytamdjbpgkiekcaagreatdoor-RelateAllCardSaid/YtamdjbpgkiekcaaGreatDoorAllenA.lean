import Derived.Test.YtamdjbpgkiekcaaGreatDoorGBa
import Derived.Test.YtamdjbpgkiekcaaGreatDoorChecked
namespace Go.Proofs.YtamdjbpgkiekcaaGreatDoor
open Go.RowKit
set_option linter.unusedVariables false
def rel (a b c d : Int) : Int :=
 if b < c then (if b + 1 = c then 1 else 0)
 else if d < a then (if d + 1 = a then 11 else 12)
 else if a < c then (if b < d then 2 else if b = d then 7 else 8)
 else if a = c then (if b < d then 3 else if b = d then 6 else 9)
 else (if b < d then 4 else if b = d then 5 else 10)
def ivB (a b c d : Int) : Bool := decide (a ≤ b ∧ c ≤ d)
def relV (a b c d : Int) : Int := if ivB a b c d then rel a b c d else 0
theorem rel_bd (a b c d : Int) : 0 ≤ rel a b c d ∧ rel a b c d ≤ 12 := by unfold rel; (repeat' split) <;> omega
set_option maxHeartbeats 400000 in
theorem apart_1 (a b c d : Int) (w : World) (al : -9223372036854775808 ≤ a) (ah : a ≤ 9223372036854775807) (bl : -9223372036854775808 ≤ b) (bh : b ≤ 9223372036854775807) (cl : -9223372036854775808 ≤ c) (ch : c ≤ 9223372036854775807) (dl : -9223372036854775808 ≤ d) (dh : d ≤ 9223372036854775807) (h1 : a ≤ b) (h2 : c ≤ d) (h : b < c) :
  Calls Tryz.prog 40 #[.agg #[.int .i64 a, .int .i64 b], .agg #[.int .i64 c, .int .i64 d]] w fun e w' => e = .returned (.int .i64 (if b + 1 = c then 1 else 0)) ∧ Kp w w' := by
 have n : ¬ d < a := by omega
 by_cases g : b + 1 = c
 ·rw [if_pos g]
  have g' : (b + 1 == c) = true := by simpa using g
  clear g
  go_enter Tryz.func40, Tryz.ntmps40
  go_wp2
  go_ret
  exact ⟨rfl, (Kp.alloc _ _).trans (Kp.alloc _ _)⟩
 ·rw [if_neg g]
  have g' : (b + 1 == c) = false := by simpa using g
  clear g
  go_enter Tryz.func40, Tryz.ntmps40
  go_wp2
  go_ret
  exact ⟨rfl, (Kp.alloc _ _).trans (Kp.alloc _ _)⟩
set_option maxHeartbeats 400000 in
theorem apart_2 (a b c d : Int) (w : World) (al : -9223372036854775808 ≤ a) (ah : a ≤ 9223372036854775807) (bl : -9223372036854775808 ≤ b) (bh : b ≤ 9223372036854775807) (cl : -9223372036854775808 ≤ c) (ch : c ≤ 9223372036854775807) (dl : -9223372036854775808 ≤ d) (dh : d ≤ 9223372036854775807) (h1 : a ≤ b) (h2 : c ≤ d) (h : d < a) :
  Calls Tryz.prog 40 #[.agg #[.int .i64 a, .int .i64 b], .agg #[.int .i64 c, .int .i64 d]] w fun e w' => e = .returned (.int .i64 (if d + 1 = a then 11 else 12)) ∧ Kp w w' := by
 have C := Lib.hid (fun w => apart_1 c d a b w cl ch dl dh al ah bl bh h2 h1 h)
 by_cases g : d + 1 = a
 ·rw [if_pos g] at C ⊢
  clear g
  go_enter Tryz.func40, Tryz.ntmps40
  go_wp2_with fail; refine (C.out _).mono ?_; rintro e w1 ⟨rfl, k1⟩
  go_wp2
  go_ret
  exact ⟨rfl, ((Kp.alloc _ _).trans (Kp.alloc _ _)).trans k1⟩
 ·rw [if_neg g] at C ⊢
  clear g
  go_enter Tryz.func40, Tryz.ntmps40
  go_wp2_with fail; refine (C.out _).mono ?_; rintro e w1 ⟨rfl, k1⟩
  go_wp2
  go_ret
  exact ⟨rfl, ((Kp.alloc _ _).trans (Kp.alloc _ _)).trans k1⟩
def tog (a b c d : Int) : Int := if a < c then (if b < d then 2 else if b = d then 7 else 8) else if a = c then (if b < d then 3 else if b = d then 6 else 9) else (if b < d then 4 else if b = d then 5 else 10)
theorem kp3 (w : World) (a b c : Obj) : Kp w (((w.alloc a).alloc b).alloc c) := ((Kp.alloc _ _).trans (Kp.alloc _ _)).trans (Kp.alloc _ _)
def kpx (w w' : World) : Prop := Kp w w'
set_option maxHeartbeats 1000000 in
theorem together_any (a b c d : Int) (w : World) (al : -9223372036854775808 ≤ a) (ah : a ≤ 9223372036854775807) (bl : -9223372036854775808 ≤ b) (bh : b ≤ 9223372036854775807) (cl : -9223372036854775808 ≤ c) (ch : c ≤ 9223372036854775807) (dl : -9223372036854775808 ≤ d) (dh : d ≤ 9223372036854775807) :
  Calls Tryz.prog 41 #[.agg #[.int .i64 a, .int .i64 b], .agg #[.int .i64 c, .int .i64 d]] w fun e w' => e = .returned (.int .i64 (tog a b c d)) ∧ kpx w w' := by
 rcases Int.lt_trichotomy a c with h | h | h <;> rcases Int.lt_trichotomy b d with g | g | g
 ·rw [show tog a b c d = 2 by unfold tog; (repeat' split) <;> omega]
  go_enter Tryz.func41, Tryz.ntmps41
  go_wp2
  go_ret
  exact ⟨rfl, kp3 _ _ _ _⟩
 ·rw [show tog a b c d = 7 by unfold tog; (repeat' split) <;> omega]
  subst g
  go_enter Tryz.func41, Tryz.ntmps41
  go_wp2
  go_ret
  exact ⟨rfl, kp3 _ _ _ _⟩
 ·rw [show tog a b c d = 8 by unfold tog; (repeat' split) <;> omega]
  have e2 : (b == d) = false := by simp; omega
  go_enter Tryz.func41, Tryz.ntmps41
  go_wp2
  go_ret
  exact ⟨rfl, kp3 _ _ _ _⟩
 ·rw [show tog a b c d = 3 by unfold tog; (repeat' split) <;> omega]
  subst h
  go_enter Tryz.func41, Tryz.ntmps41
  go_wp2
  go_ret
  exact ⟨rfl, kp3 _ _ _ _⟩
 ·rw [show tog a b c d = 6 by unfold tog; (repeat' split) <;> omega]
  subst h
  subst g
  go_enter Tryz.func41, Tryz.ntmps41
  go_wp2
  go_ret
  exact ⟨rfl, kp3 _ _ _ _⟩
 ·rw [show tog a b c d = 9 by unfold tog; (repeat' split) <;> omega]
  subst h
  have e2 : (b == d) = false := by simp; omega
  go_enter Tryz.func41, Tryz.ntmps41
  go_wp2
  go_ret
  exact ⟨rfl, kp3 _ _ _ _⟩
 ·rw [show tog a b c d = 4 by unfold tog; (repeat' split) <;> omega]
  have e1 : (a == c) = false := by simp; omega
  go_enter Tryz.func41, Tryz.ntmps41
  go_wp2
  go_ret
  exact ⟨rfl, kp3 _ _ _ _⟩
 ·rw [show tog a b c d = 5 by unfold tog; (repeat' split) <;> omega]
  subst g
  have e1 : (a == c) = false := by simp; omega
  go_enter Tryz.func41, Tryz.ntmps41
  go_wp2
  go_ret
  exact ⟨rfl, kp3 _ _ _ _⟩
 ·rw [show tog a b c d = 10 by unfold tog; (repeat' split) <;> omega]
  have e1 : (a == c) = false := by simp; omega
  have e2 : (b == d) = false := by simp; omega
  go_enter Tryz.func41, Tryz.ntmps41
  go_wp2
  go_ret
  exact ⟨rfl, kp3 _ _ _ _⟩
set_option maxHeartbeats 1000000 in
theorem aof_any (a b c d : Int) (w : World) (al : -9223372036854775808 ≤ a) (ah : a ≤ 9223372036854775807) (bl : -9223372036854775808 ≤ b) (bh : b ≤ 9223372036854775807) (cl : -9223372036854775808 ≤ c) (ch : c ≤ 9223372036854775807) (dl : -9223372036854775808 ≤ d) (dh : d ≤ 9223372036854775807) :
  Calls Tryz.prog 20 #[.agg #[.int .i64 a, .int .i64 b], .agg #[.int .i64 c, .int .i64 d]] w fun e w' => e = .returned (.tuple #[.int .i64 (relV a b c d), .bool (ivB a b c d)]) ∧ Kp w w' := by
 by_cases h1 : b < a
 ·have e : ivB a b c d = false := by unfold ivB; simp; omega
  rw [show relV a b c d = 0 by unfold relV; rw [e]; rfl, e]
  clear e
  go_enter Tryz.func20, Tryz.ntmps20
  go_wp2
  go_ret2
  exact ⟨rfl, (Kp.alloc _ _).trans (Kp.alloc _ _)⟩
 by_cases h2 : d < c
 ·have e : ivB a b c d = false := by unfold ivB; simp; omega
  rw [show relV a b c d = 0 by unfold relV; rw [e]; rfl, e]
  clear e
  go_enter Tryz.func20, Tryz.ntmps20
  go_wp2
  go_ret2
  exact ⟨rfl, (Kp.alloc _ _).trans (Kp.alloc _ _)⟩
 have e : ivB a b c d = true := by unfold ivB; simp; omega
 rw [show relV a b c d = rel a b c d by unfold relV; rw [e]; rfl, e]
 clear e
 by_cases h3 : b < c
 ·rw [show rel a b c d = (if b + 1 = c then 1 else 0) by unfold rel; rw [if_pos h3]]
  have C := Lib.hid (fun w => apart_1 a b c d w al ah bl bh cl ch dl dh (by omega) (by omega) h3)
  generalize (if b + 1 = c then (1 : Int) else 0) = r at *
  go_enter Tryz.func20, Tryz.ntmps20
  go_wp2_with fail; refine (C.out _).mono ?_; rintro e w1 ⟨rfl, k1⟩
  go_wp2
  go_ret2
  exact ⟨rfl, ((Kp.alloc _ _).trans (Kp.alloc _ _)).trans k1⟩
 by_cases h4 : d < a
 ·rw [show rel a b c d = (if d + 1 = a then 11 else 12) by unfold rel; rw [if_neg h3, if_pos h4]]
  have C := Lib.hid (fun w => apart_2 a b c d w al ah bl bh cl ch dl dh (by omega) (by omega) h4)
  generalize (if d + 1 = a then (11 : Int) else 12) = r at *
  go_enter Tryz.func20, Tryz.ntmps20
  go_wp2_with fail; refine (C.out _).mono ?_; rintro e w1 ⟨rfl, k1⟩
  go_wp2
  go_ret2
  exact ⟨rfl, ((Kp.alloc _ _).trans (Kp.alloc _ _)).trans k1⟩
 ·rw [show rel a b c d = tog a b c d by unfold rel tog; rw [if_neg h3, if_neg h4]]
  have C := Lib.hid (fun w => together_any a b c d w al ah bl bh cl ch dl dh)
  generalize tog a b c d = r at *
  go_enter Tryz.func20, Tryz.ntmps20
  go_wp2_with fail
  refine (C.out _).mono ?_
  rintro e w1 ⟨rfl, k1⟩
  go_wp2
  go_ret2
  exact ⟨rfl, ((Kp.alloc _ _).trans (Kp.alloc _ _)).trans k1⟩
def invB (r : Int) : Bool := decide (0 ≤ r ∧ r ≤ 12)
theorem isrel_any (r : Int) (w : World) : Calls Tryz.prog 77 #[.int .i64 r] w fun e w' => e = .returned (.bool (invB r)) ∧ w = w' := by
 go_enter Tryz.func77, Tryz.ntmps77
 go_wp2
 all_goals go_ret
 all_goals refine ⟨ret_bool ?_, rfl⟩
 all_goals unfold invB; rw [Bool.eq_iff_iff]
 all_goals simp
 all_goals try omega
end Go.Proofs.YtamdjbpgkiekcaaGreatDoor
