/-
  Layer 6: masks: plain mathematics.
-/
import Derived.Test.YtinpglfclbnhlaaGreatDoorGBa
import Derived.Laws.RangeAny
namespace Go.Proofs.YtinpglfclbnhlaaGreatDoor
open Go.RowKit
set_option linter.unusedVariables false
/-- the byte at a place, as a number -/
def bt (s : ByteArray) (i : Nat) : Nat := (s.data.toList.getD i 0).toNat
theorem bt_at (s : ByteArray) (i : Nat) (h : i < s.size) : (s[i]'h).toNat = bt s i := by
  unfold bt
  have : i < s.data.toList.length := by simpa using h
  rw [List.getD_eq_getElem?_getD, List.getElem?_eq_getElem this]
  simp
  rfl
def digB (b : Int) : Bool := decide (48 ≤ b ∧ b ≤ 57)
def okB (b : Nat) : Bool := (b == 88) || digB b
def upB (s : ByteArray) : Nat → Bool
  | 0 => true
  | k + 1 => upB s k && okB (bt s k)
/-- is it a mask -/
def saneM (s : ByteArray) : Bool := decide (1 ≤ s.size ∧ s.size ≤ 4) && upB s s.size
theorem upB_at {s : ByteArray} {k : Nat} (h : upB s k = true) : ∀ i, i < k → okB (bt s i) = true := by
  induction k with
  | zero => intro i hi; omega
  | succ k ih =>
    intro i hi
    rw [upB, Bool.and_eq_true] at h
    by_cases e : i = k
    · subst e; exact h.2
    · exact ih h.1 i (by omega)
theorem upB_of {s : ByteArray} : ∀ {k : Nat}, (∀ i, i < k → okB (bt s i) = true) → upB s k = true := by
  intro k
  induction k with
  | zero => intro _; rfl
  | succ k ih => intro h; rw [upB, ih (fun i hi => h i (by omega)), h k (by omega)]; rfl
theorem upB_no {s : ByteArray} {k i : Nat} (hi : i < k) (h : okB (bt s i) = false) : upB s k = false := by
  rcases Bool.eq_false_or_eq_true (upB s k) with g | g
  · have := upB_at g i hi; rw [h] at this; cases this
  · exact g
theorem ok_cases {b : Nat} (h : okB b = true) : b = 88 ∨ (48 ≤ b ∧ b ≤ 57) := by
  unfold okB digB at h
  simp at h
  omega
theorem ok_no {b : Nat} (h : okB b = false) : b ≠ 88 ∧ (b < 48 ∨ 57 < b) := by
  unfold okB digB at h
  simp at h
  omega
structure Mk (s : ByteArray) : Prop where
  lo : 1 ≤ s.size
  hi : s.size ≤ 4
  ok : ∀ i, i < s.size → bt s i = 88 ∨ (48 ≤ bt s i ∧ bt s i ≤ 57)
theorem mk_of {s : ByteArray} (h : saneM s = true) : Mk s := by
  unfold saneM at h
  rw [Bool.and_eq_true, decide_eq_true_eq] at h
  exact ⟨h.1.1, h.1.2, fun i hi => ok_cases (upB_at h.2 i hi)⟩
theorem width_pos (s : ByteArray) (pos : Nat) (h : pos < s.size) : 1 ≤ (Utf8.decode s pos).2 := by
  by_cases ha : (s[pos]'h).toNat < 128
  · rw [decode_ascii s pos h ha]
    exact Nat.le_refl _
  · exact (decode_high s pos h (by omega)).2
theorem Kp.iter (w : World) (s : ByteArray) (pos : Nat) : Kp w (w.iter s pos) := Kp.alloc _ _
theorem next_at {P : Program} (w : World) (s : ByteArray) (pos b : Nat) (h : pos < s.size) (eb : bt s pos = b) (ha : b < 128) : ∀ ty,
    (Instr.next (.pointer (some ⟨w.heap.size, 0, none⟩)) true ty).run P (w.iter s pos) = .ok (.tuple #[.bool true, .int .i64 pos, .int .i32 (b : Int)]) (w.iter s (pos + 1)) := fun ty => by
  have := run_next_ascii (P := P) w s pos ty h (by rw [bt_at, eb]; exact ha)
  rw [bt_at, eb] at this
  exact this
theorem next_hi {P : Program} (w : World) (s : ByteArray) (pos b : Nat) (h : pos < s.size) (eb : bt s pos = b) (ha : 128 ≤ b) : ∃ r p : Nat, 128 ≤ r ∧ r ≤ 2147483647 ∧ ∀ ty,
    (Instr.next (.pointer (some ⟨w.heap.size, 0, none⟩)) true ty).run P (w.iter s pos) = .ok (.tuple #[.bool true, .int .i64 pos, .int .i32 (r : Int)]) (w.iter s p) :=
  ⟨(Utf8.decode s pos).1, pos + (Utf8.decode s pos).2, (decode_high s pos h (by rw [bt_at, eb]; exact ha)).1, decode_le s pos, fun ty => run_next_any w s pos ty h⟩
/-- ten times ten .. -/
def P10 : Nat → Int
  | 0 => 1
  | k + 1 => 10 * P10 k
theorem P10_pos (k : Nat) : 1 ≤ P10 k := by
  induction k with
  | zero => exact Int.le_refl _
  | succ k ih => rw [P10]; omega
theorem P10_le (k : Nat) (h : k ≤ 4) : P10 k ≤ 10000 := by
  have : k = 0 ∨ k = 1 ∨ k = 2 ∨ k = 3 ∨ k = 4 := by omega
  rcases this with rfl | rfl | rfl | rfl | rfl <;> decide
theorem P10_div (k : Nat) : P10 (k + 1) / 10 = P10 k := by rw [P10]; omega
/-- how many numbers match the first places -/
def cntM (s : ByteArray) : Nat → Int
  | 0 => 1
  | k + 1 => if (bt s k == 88) = true then cntM s k * 10 else cntM s k
def countM (s : ByteArray) : Int := if saneM s then cntM s s.size else 0
theorem cntM_bd (s : ByteArray) (k : Nat) : 1 ≤ cntM s k ∧ cntM s k ≤ P10 k := by
  induction k with
  | zero => exact ⟨Int.le_refl _, Int.le_refl _⟩
  | succ k ih => rw [cntM, P10]; have := P10_pos k; split <;> omega
/-- does the sign at a place fit -/
def fitB (b : Nat) (n q : Int) : Bool := (b == 88) || ((b : Int) - 48 == n / q % 10)
def fitsM (s : ByteArray) (n : Int) : Nat → Bool
  | 0 => true
  | k + 1 => fitsM s n k && fitB (bt s k) n (P10 (s.size - 1 - k))
def matchM (s : ByteArray) (n : Int) : Bool := saneM s && decide (0 ≤ n) && decide (n < P10 s.size) && fitsM s n s.size
theorem fitsM_no {s : ByteArray} {n : Int} {k i : Nat} (hi : i < k) (h : fitB (bt s i) n (P10 (s.size - 1 - i)) = false) : fitsM s n k = false := by
  induction k with
  | zero => omega
  | succ k ih =>
    rw [fitsM]
    by_cases e : i = k
    · subst e; rw [h, Bool.and_false]
    · rw [ih (by omega), Bool.false_and]
end Go.Proofs.YtinpglfclbnhlaaGreatDoor
