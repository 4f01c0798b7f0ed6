/-
  Contracts of package compose: what follows of two masks.
-/
import Derived.Test.YteneoimkfddhpaaDoorComposeC
import Derived.Test.YteneoimkfddhpaaDoorComposeE
namespace Go.Proofs.YteneoimkfddhpaaDoor
open Go.RowKit
set_option linter.unusedVariables false
def bA (m : Int) : Nat → Bool := fun r => bitB m r
theorem third_step (B : Nat → Bool) (p q : Int × Int) (acc k : Nat) : thirdK B p q acc (k + 1) = if B (relN q (iv k)) then thirdK B p q acc k ||| 2 ^ relN p (iv k) else thirdK B p q acc k := rfl
/-- the innermost closure, one of the fifteen -/
theorem clo3_any (p q : Int × Int) (e f m n : Int) (acc k : Nat) (B C : Nat) (w : World) (s t : Nat) (hp : 0 ≤ p.1 ∧ p.1 ≤ p.2 ∧ p.2 ≤ 4) (hq : 0 ≤ q.1 ∧ q.1 ≤ q.2 ∧ q.2 ≤ 4) (hst : s ≤ t) (ht : t ≤ 4) (hacc : acc < 8192)
    (hi : iv k = ((s : Int), (t : Int))) (hQ : Qc w B p.1 p.2 q.1 q.2 e f m n (thirdK (bA n) p q acc k : Nat)) (hC : C < w.heap.size) (hn : C ≠ B) (hc : w.cell? ⟨C, 0, none⟩ = some (.pointer (some ⟨B, 0, none⟩))) :
    Calls Tryd.prog 50 #[.agg #[.int .i64 s, .int .i64 t], .pointer (some ⟨C, 0, none⟩)] w fun e w' => e = .returned (.tuple #[]) ∧ Qc w' B p.1 p.2 q.1 q.2 s t m n (thirdK (bA n) p q acc (k + 1) : Nat) ∧ But B w w' := by
  have e1 := relN_eq q (iv k)
  have e2 := relN_eq p (iv k)
  have b1 := relN_bd q (iv k)
  have b2 := relN_bd p (iv k)
  rw [third_step]
  have l := third_lt (bA n) p q acc k hacc
  generalize thirdK (bA n) p q acc k = y at *
  rw [hi] at e1 e2 b1 b2 ⊢
  rcases Bool.eq_false_or_eq_true (bA n (relN q ((s : Int), (t : Int)))) with h | h
  · rw [if_pos h]
    exact clo3_yes p.1 p.2 q.1 q.2 e f s t m n y B C w (by omega) (by omega) (by omega) (by omega) (by omega) (by omega) (by omega) (by omega) (by omega) (by omega) (by omega) (by omega) (by omega) (by omega) (by omega) hQ hC hn hc _ b1 l e1 h _ b2 e2
  · rw [if_neg (by rw [h]; simp)]
    exact clo3_no p.1 p.2 q.1 q.2 e f s t m n y B C w (by omega) (by omega) (by omega) (by omega) (by omega) (by omega) (by omega) (by omega) (by omega) (by omega) (by omega) (by omega) (by omega) (by omega) (by omega) hQ hC hn hc _ b1 e1 h
/-- what findThird's rounds keep -/
def I3 (p q : Int × Int) (m n : Int) (acc B C : Nat) (w0 : World) (k : Nat) (w : World) : Prop :=
  (∃ e f : Int, Qc w B p.1 p.2 q.1 q.2 e f m n (thirdK (bA n) p q acc k : Nat)) ∧ But B w0 w ∧ C < w.heap.size ∧ w.cell? ⟨C, 0, none⟩ = some (.pointer (some ⟨B, 0, none⟩))
theorem third_any (p q : Int × Int) (e f m n : Int) (acc : Nat) (B : Nat) (w : World) (hp : 0 ≤ p.1 ∧ p.1 ≤ p.2 ∧ p.2 ≤ 4) (hq : 0 ≤ q.1 ∧ q.1 ≤ q.2 ∧ q.2 ≤ 4) (hacc : acc < 8192)
    (hQ : Qc w B p.1 p.2 q.1 q.2 e f m n acc) :
    Calls Tryd.prog 49 #[.pointer (some ⟨B, 0, none⟩)] w fun r w' => r = .returned (.tuple #[]) ∧ (∃ e f : Int, Qc w' B p.1 p.2 q.1 q.2 e f m n (thirdK (bA n) p q acc 15 : Nat)) ∧ But B w w' := by
  have hB := hQ.1
  have hmf : ∀ (fn : Fn) (first cap : Array Value) (w : World), (Instr.makeFunc fn first cap).run Tryd.prog w = .ok (.func fn first cap) w := fun _ _ _ _ => rfl
  have W1 := w.alloc (.cells #[.pointer (some ⟨B, 0, none⟩)] 65)
  have E := Lib.hid (each_any 50 #[.pointer (some ⟨w.heap.size, 0, none⟩)] (I3 p q m n acc B w.heap.size (w.alloc (.cells #[.pointer (some ⟨B, 0, none⟩)] 65))) (w.alloc (.cells #[.pointer (some ⟨B, 0, none⟩)] 65))
    (enters_of Tryd.func50 (by kernel_rfl) rfl) ⟨⟨e, f, hQ.kp (Kp.alloc _ _)⟩, But.refl _ _, by simp, by simp⟩
    (fun s t w1 hst ht ⟨⟨e1, f1, q1⟩, u, hC, hc⟩ => by
      have v := iv_at s t hst ht
      exact (clo3_any p q e1 f1 m n acc (bs s + (t - s)) B w.heap.size w1 s t hp hq hst ht hacc v.2 q1 hC (by omega) hc).mono fun r w2 ⟨hr, q2, u2⟩ =>
        ⟨hr, ⟨_, _, q2⟩, u.trans u2, Nat.lt_of_lt_of_le hC u2.size, (u2.cell hC (by omega)).trans hc⟩))
  clear hQ W1
  go_enter Tryd.func49, Tryd.ntmps49
  go_wp2_with fail
  refine (E.out).mono ?_
  rintro r w2 ⟨rfl, q2, u2, _, _⟩
  have Q2 := Lib.hid q2
  have U2 := Lib.hid u2
  clear q2 u2
  go_wp2
  go_end0
  exact ⟨rfl, Q2.out, (But.kp (Kp.alloc w _) B).trans U2.out⟩
end Go.Proofs.YteneoimkfddhpaaDoor
