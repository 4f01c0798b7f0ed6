/-
  Contracts of package compose: all intervals of few days are told, one behind the other.
-/
import Derived.Test.YteneoimkfddhpaaDoorComposeB
import Derived.LoopTactic
import Derived.Shelf.Abstract
namespace Go.Proofs.YteneoimkfddhpaaDoor
open Go.RowKit
set_option linter.unusedVariables false
def bs (s : Nat) : Nat := [0, 5, 9, 12, 14, 15].getD s 15
theorem iv_at (s t : Nat) (h : s ≤ t) (h2 : t ≤ 4) : bs s + (t - s) < 15 ∧ iv (bs s + (t - s)) = ((s : Int), (t : Int)) := by
  have a : s = 0 ∨ s = 1 ∨ s = 2 ∨ s = 3 ∨ s = 4 := by omega
  have b : t = 0 ∨ t = 1 ∨ t = 2 ∨ t = 3 ∨ t = 4 := by omega
  rcases a with rfl | rfl | rfl | rfl | rfl <;> rcases b with rfl | rfl | rfl | rfl | rfl <;> first | omega | exact ⟨by decide, rfl⟩
theorem bs_next (s : Nat) (h : s ≤ 4) : bs s + (5 - s) = bs (s + 1) := by
  have a : s = 0 ∨ s = 1 ∨ s = 2 ∨ s = 3 ∨ s = 4 := by omega
  rcases a with rfl | rfl | rfl | rfl | rfl <;> rfl
set_option maxHeartbeats 1000000 in
theorem each_any (g : FuncId) (cb : Array Value) (I : Nat → World → Prop) (w : World) (eg : ∀ args w, (callFunc g args).run Tryd.prog w = .ok (.enter g args) w) (h0 : I 0 w)
    (hs : ∀ (s t : Nat) w, s ≤ t → t ≤ 4 → I (bs s + (t - s)) w → Calls Tryd.prog g (#[.agg #[.int .i64 s, .int .i64 t]] ++ cb) w fun e w' => e = .returned (.tuple #[]) ∧ I (bs s + (t - s) + 1) w') :
    Calls Tryd.prog 44 #[.func (.func g) #[] cb] w fun e w' => e = .returned (.tuple #[]) ∧ I 15 w' := by
  have HS := Lib.hid hs
  clear hs
  go_enter Tryd.func44, Tryd.ntmps44
  go_wp2
  go_loopw [2] (fun i wr => ∃ s : Nat, s ≤ 5 ∧ i = .int .i64 s ∧ I (bs s) wr) (fun i _ => 5 - (intOf i).toNat)
  case atStart => exact ⟨0, by omega, rfl, h0⟩
  case round =>
    obtain ⟨s, hs, rfl, hI⟩ := hrel
    clear h0
    by_cases hlt : s ≤ 4
    · have hd : decide ((s : Int) ≤ 4) = true := by simp; omega
      go_wp2
      go_loopw [3] (fun i wr => ∃ t : Nat, s ≤ t ∧ t ≤ 5 ∧ i = .int .i64 t ∧ I (bs s + (t - s)) wr) (fun i _ => 5 - (intOf i).toNat)
      case atStart => exact ⟨s, by omega, by omega, rfl, by rw [Nat.sub_self]; exact hI⟩
      case round =>
        obtain ⟨t, ht, ht5, rfl, hI2⟩ := hrel
        clear hI
        by_cases hlt2 : t ≤ 4
        · have C := Lib.hid (HS.out s t _ ht hlt2 hI2)
          have e1 : bs s + (t - s) + 1 = bs s + (t + 1 - s) := by omega
          rw [e1] at C
          clear e1 hI2
          go_wp2_with (go_at_fn g; refine (C.out).mono ?_; rintro e w' ⟨rfl, hI3⟩)
          go_roundw
          case rel => exact ⟨t + 1, by omega, by omega, by go_num, hI3⟩
          case measure => simp [intOf]; omega
        · obtain rfl : t = 5 := by omega
          rw [bs_next s hlt] at hI2
          go_wp2
          go_roundw
          case rel => exact ⟨s + 1, by omega, by go_num, hI2⟩
          case measure => simp [intOf]; omega
    · obtain rfl : s = 5 := by omega
      go_wp2
      go_end0
      exact ⟨rfl, hI⟩
end Go.Proofs.YteneoimkfddhpaaDoor
