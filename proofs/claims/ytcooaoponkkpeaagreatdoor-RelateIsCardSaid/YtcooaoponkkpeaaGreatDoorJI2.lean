import Derived.Test.YtcooaoponkkpeaaGreatDoorRlH
import Derived.Test.YtcooaoponkkpeaaGreatDoorJB
import Derived.Test.YtcooaoponkkpeaaGreatDoorRlA
import Derived.Test.YtcooaoponkkpeaaGreatDoorJP
namespace Go.Proofs.YtcooaoponkkpeaaGreatDoor
open Go.RowKit Go.Shelf
set_option linter.unusedVariables false
set_option linter.unusedSimpArgs false
def boxC : Array Value := #[.func (.func 168) #[] #[], .func (.func 169) #[] #[], .func (.func 170) #[] #[], .func (.func 171) #[] #[], .func (.func 172) #[] #[], .func (.func 173) #[] #[], .func (.func 174) #[] #[], .func (.func 175) #[] #[], .func (.func 176) #[] #[], .func (.func 177) #[] #[], .func (.func 178) #[] #[], .func (.func 179) #[] #[], .func (.func 180) #[] #[]]
theorem boxes_any (w : World) : Calls Tryz.prog 110 #[] w fun e w' => e = .returned (.slice (some ⟨w.heap.size, 0, none⟩) 13 13) ∧ w' = w.alloc (.cells boxC 129) := by
 go_enter Tryz.func110, Tryz.ntmps110
 go_wp2
 go_ret
 exact ⟨rfl, rfl⟩
def BxAt (w : World) (v : Value) : Prop := ∃ b, v = .slice (some ⟨b, 0, none⟩) 13 13 ∧ b < w.heap.size ∧ ∀ i, i < 13 → w.cell? ⟨b, i, none⟩ = some (boxC.getD i undef)
theorem BxAt.kp {w w' : World} {v : Value} (h : BxAt w v) (k : Kp w w') : BxAt w' v := by
 obtain ⟨b, e, hb, hx⟩ := h
 exact ⟨b, e, Nat.lt_of_lt_of_le hb k.size, fun i hi => (k.cell (p := ⟨b, i, none⟩) hb).trans (hx i hi)⟩
theorem boxesB_any (w : World) : Calls Tryz.prog 110 #[] w fun e w' => ∃ v, e = .returned v ∧ BxAt w' v ∧ Kp w w' := by
 refine (boxes_any w).mono ?_
 rintro e w' ⟨rfl, rfl⟩
 refine ⟨_, rfl, ⟨_, rfl, by simp, fun i hi => ?_⟩, Kp.alloc _ _⟩
 have hs : boxC.size = 13 := rfl
 have g : (w.alloc (.cells boxC 129)).heap[w.heap.size]? = some (.cells boxC 129 (0, 0)) := heap_at _ _ _ rfl
 unfold World.cell?
 simp only [g]
 simp [Array.getD, hs, hi]
open Go.RowKit
theorem ak_pow {x : Nat} (hx : x ≤ 12) : IntKind.i64.wrap (2 ^ x) = ((2 ^ x : Nat) : Int) := by
 obtain rfl | rfl | rfl | rfl | rfl | rfl | rfl | rfl | rfl | rfl | rfl | rfl | rfl : x = 0 ∨ x = 1 ∨ x = 2 ∨ x = 3 ∨ x = 4 ∨ x = 5 ∨ x = 6 ∨ x = 7 ∨ x = 8 ∨ x = 9 ∨ x = 10 ∨ x = 11 ∨ x = 12 := by omega
 all_goals rfl
theorem ak_lt {x : Nat} (hx : x ≤ 12) : 2 ^ x < 8192 := by
 have : 2 ^ x ≤ 2 ^ 12 := Nat.pow_le_pow_right (by omega) hx
 omega
theorem ak_or {a b : Nat} (ha : a < 8192) (hb : b < 8192) : bits .or .i64 (a : Int) (b : Int) = ((a ||| b : Nat) : Int) := by
 have l : a ||| b < 2 ^ 13 := Nat.or_lt_two_pow (by omega) (by omega)
 have key : (BitVec.ofInt 64 (a : Int) ||| BitVec.ofInt 64 (b : Int)).toNat = a ||| b := by
  simp [BitVec.toNat_or, BitVec.toNat_ofInt]
  rw [Nat.mod_eq_of_lt (by omega : a < 18446744073709551616), Nat.mod_eq_of_lt (by omega : b < 18446744073709551616)]
 show IntKind.i64.wrap ((BitVec.ofInt 64 (a : Int) ||| BitVec.ofInt 64 (b : Int)).toNat : Nat) = _
 rw [key, IntKind.wrap_i64]
 omega
theorem ak_and {a b : Nat} (ha : a < 8192) (hb : b < 8192) : bits .and .i64 (a : Int) (b : Int) = ((a &&& b : Nat) : Int) := by
 have l : a &&& b < 2 ^ 13 := Nat.and_lt_two_pow _ (by omega)
 have key : (BitVec.ofInt 64 (a : Int) &&& BitVec.ofInt 64 (b : Int)).toNat = a &&& b := by
  simp [BitVec.toNat_and, BitVec.toNat_ofInt]
  rw [Nat.mod_eq_of_lt (by omega : a < 18446744073709551616), Nat.mod_eq_of_lt (by omega : b < 18446744073709551616)]
 show IntKind.i64.wrap ((BitVec.ofInt 64 (a : Int) &&& BitVec.ofInt 64 (b : Int)).toNat : Nat) = _
 rw [key, IntKind.wrap_i64]
 omega
theorem ak_zero (a x : Nat) : (a &&& 2 ^ x = 0) ↔ a.testBit x = false := by
 constructor
 ·intro h
  have := congrArg (fun z => z.testBit x) h
  simpa [Nat.testBit_and, Nat.testBit_two_pow_self] using this
 ·intro h
  apply Nat.eq_of_testBit_eq
  intro i
  rw [Nat.testBit_and, Nat.testBit_two_pow, Nat.zero_testBit]
  by_cases e : x = i
  ·subst e; rw [h]; rfl
  ·simp [e]
theorem ak_bit (a x r : Nat) : (a ||| 2 ^ x).testBit r = true ↔ a.testBit r = true ∨ r = x := by
 rw [Nat.testBit_or, Nat.testBit_two_pow, Bool.or_eq_true, decide_eq_true_eq]
 exact ⟨fun h => h.imp id Eq.symm, fun h => h.imp id Eq.symm⟩
theorem ak_all {r : Nat} (hr : r ≤ 12) : Nat.testBit 8191 r = true := by
 obtain rfl | rfl | rfl | rfl | rfl | rfl | rfl | rfl | rfl | rfl | rfl | rfl | rfl : r = 0 ∨ r = 1 ∨ r = 2 ∨ r = 3 ∨ r = 4 ∨ r = 5 ∨ r = 6 ∨ r = 7 ∨ r = 8 ∨ r = 9 ∨ r = 10 ∨ r = 11 ∨ r = 12 := by omega
 all_goals decide
theorem way_any {k : Nat} (hk : k < 13) : ∃ g : FuncId, boxC.getD k undef = .func (.func g) #[] #[] ∧ (∀ args w, (callFunc g args).run Tryz.prog w = .ok (.enter g args) w) ∧
  ∀ (S T : Int) (w : World), 0 ≤ S → S ≤ 4000000 → 0 ≤ T → T ≤ 4000000 → Calls Tryz.prog g #[.agg #[.int .i64 S, .int .i64 T]] w fun e w' => e = .returned (bxV (wayB k S T)) ∧ Kp w w' := by
 obtain rfl | rfl | rfl | rfl | rfl | rfl | rfl | rfl | rfl | rfl | rfl | rfl | rfl : k = 0 ∨ k = 1 ∨ k = 2 ∨ k = 3 ∨ k = 4 ∨ k = 5 ∨ k = 6 ∨ k = 7 ∨ k = 8 ∨ k = 9 ∨ k = 10 ∨ k = 11 ∨ k = 12 := by omega
 ·exact ⟨168, rfl, enters_of Tryz.func168 (by kernel_rfl) rfl, fun S T w a b c d => before_way S T w a b c d⟩
 ·exact ⟨169, rfl, enters_of Tryz.func169 (by kernel_rfl) rfl, fun S T w a b c d => meets_way S T w a b c d⟩
 ·exact ⟨170, rfl, enters_of Tryz.func170 (by kernel_rfl) rfl, fun S T w a b c d => overlaps_way S T w a b c d⟩
 ·exact ⟨171, rfl, enters_of Tryz.func171 (by kernel_rfl) rfl, fun S T w a b c d => starts_way S T w a b c d⟩
 ·exact ⟨172, rfl, enters_of Tryz.func172 (by kernel_rfl) rfl, fun S T w a b c d => during_way S T w a b c d⟩
 ·exact ⟨173, rfl, enters_of Tryz.func173 (by kernel_rfl) rfl, fun S T w a b c d => finishes_way S T w a b c d⟩
 ·exact ⟨174, rfl, enters_of Tryz.func174 (by kernel_rfl) rfl, fun S T w a b c d => equals_way S T w a b c d⟩
 ·exact ⟨175, rfl, enters_of Tryz.func175 (by kernel_rfl) rfl, fun S T w a b c d => finishedBy_way S T w a b c d⟩
 ·exact ⟨176, rfl, enters_of Tryz.func176 (by kernel_rfl) rfl, fun S T w a b c d => contains_way S T w a b c d⟩
 ·exact ⟨177, rfl, enters_of Tryz.func177 (by kernel_rfl) rfl, fun S T w a b c d => startedBy_way S T w a b c d⟩
 ·exact ⟨178, rfl, enters_of Tryz.func178 (by kernel_rfl) rfl, fun S T w a b c d => overlappedBy_way S T w a b c d⟩
 ·exact ⟨179, rfl, enters_of Tryz.func179 (by kernel_rfl) rfl, fun S T w a b c d => metBy_way S T w a b c d⟩
 ·exact ⟨180, rfl, enters_of Tryz.func180 (by kernel_rfl) rfl, fun S T w a b c d => after_way S T w a b c d⟩
end Go.Proofs.YtcooaoponkkpeaaGreatDoor
