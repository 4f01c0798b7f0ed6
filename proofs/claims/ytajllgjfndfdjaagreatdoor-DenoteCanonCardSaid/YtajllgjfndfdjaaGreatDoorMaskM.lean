import Derived.Test.YtajllgjfndfdjaaGreatDoorGBa
import Derived.Laws.RangeAny
namespace Go.Proofs.YtajllgjfndfdjaaGreatDoor
open Go.RowKit
set_option linter.unusedVariables false
def bt (s : ByteArray) (i : Nat) : Nat := (s.data.toList.getD i 0).toNat
theorem bt_at (s : ByteArray) (i : Nat) (h : i < s.size) : (s[i]'h).toNat = bt s i := by
 unfold bt
 have : i < s.data.toList.length := by simpa using h
 rw [List.getD_eq_getElem?_getD, List.getElem?_eq_getElem this]
 simp
 rfl
def digB (b : Int) : Bool := decide (48 ≤ b ∧ b ≤ 57)
def okB (b : Nat) : Bool := (b == 88) || digB b
def upB (s : ByteArray) : Nat → Bool
 | 0 => true
 | k + 1 => upB s k && okB (bt s k)
def saneM (s : ByteArray) : Bool := decide (1 ≤ s.size ∧ s.size ≤ 4) && upB s s.size
theorem upB_at {s : ByteArray} {k : Nat} (h : upB s k = true) : ∀ i, i < k → okB (bt s i) = true := by
 induction k with
 | zero => intro i hi; omega
 | succ k ih =>
  intro i hi
  rw [upB, Bool.and_eq_true] at h
  by_cases e : i = k
  ·subst e; exact h.2
  ·exact ih h.1 i (by omega)
theorem upB_no {s : ByteArray} {k i : Nat} (hi : i < k) (h : okB (bt s i) = false) : upB s k = false := by
 rcases Bool.eq_false_or_eq_true (upB s k) with g | g
 ·have := upB_at g i hi; rw [h] at this; cases this
 ·exact g
theorem ok_cases {b : Nat} (h : okB b = true) : b = 88 ∨ (48 ≤ b ∧ b ≤ 57) := by
 unfold okB digB at h
 simp at h
 omega
theorem ok_no {b : Nat} (h : okB b = false) : b ≠ 88 ∧ (b < 48 ∨ 57 < b) := by
 unfold okB digB at h
 simp at h
 omega
structure Mk (s : ByteArray) : Prop where
 lo : 1 ≤ s.size
 hi : s.size ≤ 4
 ok : ∀ i, i < s.size → bt s i = 88 ∨ (48 ≤ bt s i ∧ bt s i ≤ 57)
theorem mk_of {s : ByteArray} (h : saneM s = true) : Mk s := by
 unfold saneM at h
 rw [Bool.and_eq_true, decide_eq_true_eq] at h
 exact ⟨h.1.1, h.1.2, fun i hi => ok_cases (upB_at h.2 i hi)⟩
theorem Kp.iter (w : World) (s : ByteArray) (pos : Nat) : Kp w (w.iter s pos) := Kp.alloc _ _
theorem next_at {P : Program} (w : World) (s : ByteArray) (pos b : Nat) (h : pos < s.size) (eb : bt s pos = b) (ha : b < 128) : ∀ ty,
  (Instr.next (.pointer (some ⟨w.heap.size, 0, none⟩)) true ty).run P (w.iter s pos) = .ok (.tuple #[.bool true, .int .i64 pos, .int .i32 (b : Int)]) (w.iter s (pos + 1)) := fun ty => by
 have := run_next_ascii (P := P) w s pos ty h (by rw [bt_at, eb]; exact ha)
 rw [bt_at, eb] at this
 exact this
theorem next_hi {P : Program} (w : World) (s : ByteArray) (pos b : Nat) (h : pos < s.size) (eb : bt s pos = b) (ha : 128 ≤ b) : ∃ r p : Nat, 128 ≤ r ∧ r ≤ 2147483647 ∧ ∀ ty,
  (Instr.next (.pointer (some ⟨w.heap.size, 0, none⟩)) true ty).run P (w.iter s pos) = .ok (.tuple #[.bool true, .int .i64 pos, .int .i32 (r : Int)]) (w.iter s p) :=
 ⟨(Utf8.decode s pos).1, pos + (Utf8.decode s pos).2, (decode_high s pos h (by rw [bt_at, eb]; exact ha)).1, decode_le s pos, fun ty => run_next_any w s pos ty h⟩
def P10 : Nat → Int
 | 0 => 1
 | k + 1 => 10 * P10 k
theorem P10_pos (k : Nat) : 1 ≤ P10 k := by
 induction k with
 | zero => exact Int.le_refl _
 | succ k ih => rw [P10]; omega
theorem P10_le (k : Nat) (h : k ≤ 4) : P10 k ≤ 10000 := by
 have : k = 0 ∨ k = 1 ∨ k = 2 ∨ k = 3 ∨ k = 4 := by omega
 rcases this with rfl | rfl | rfl | rfl | rfl <;> decide
def fitB (b : Nat) (n q : Int) : Bool := (b == 88) || ((b : Int) - 48 == n / q % 10)
def fitsM (s : ByteArray) (n : Int) : Nat → Bool
 | 0 => true
 | k + 1 => fitsM s n k && fitB (bt s k) n (P10 (s.size - 1 - k))
def matchM (s : ByteArray) (n : Int) : Bool := saneM s && decide (0 ≤ n) && decide (n < P10 s.size) && fitsM s n s.size
end Go.Proofs.YtajllgjfndfdjaaGreatDoor
