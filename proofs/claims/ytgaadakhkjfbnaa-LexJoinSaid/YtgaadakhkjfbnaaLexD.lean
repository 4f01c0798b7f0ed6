/-
  Contracts of the document's answer for layer 9: letter, sign, one.
-/
import Derived.Test.YtgaadakhkjfbnaaLexC
namespace Go.Proofs.Ytgaadakhkjfbnaa
open Go.RowKit Go.Shelf
set_option linter.unusedVariables false
set_option linter.unusedSimpArgs false
theorem isW_n (c : UInt8) : isW c = ((decide (48 ≤ (c.toNat : Int)) && decide ((c.toNat : Int) ≤ 57)) || ((c.toNat : Int) == 88) || ((c.toNat : Int) == 45) || ((c.toNat : Int) == 115) || ((c.toNat : Int) == 100) || ((c.toNat : Int) == 99)) := by
  have h : ∀ n : Fin 256, isW ⟨⟨n⟩⟩ = ((decide (48 ≤ ((⟨⟨n⟩⟩ : UInt8).toNat : Int)) && decide (((⟨⟨n⟩⟩ : UInt8).toNat : Int) ≤ 57)) || (((⟨⟨n⟩⟩ : UInt8).toNat : Int) == 88) || (((⟨⟨n⟩⟩ : UInt8).toNat : Int) == 45) || (((⟨⟨n⟩⟩ : UInt8).toNat : Int) == 115) || (((⟨⟨n⟩⟩ : UInt8).toNat : Int) == 100) || (((⟨⟨n⟩⟩ : UInt8).toNat : Int) == 99)) := by decide +kernel
  exact h c.toBitVec.toFin
set_option maxHeartbeats 1000000 in
theorem letter_any (c : UInt8) (w : World) :
    Calls Try.prog 83 #[.int .u8 (c.toNat : Int)] w fun e w' => e = .returned (.bool (isW c)) ∧ w = w' := by
  rw [isW_n]
  generalize (c.toNat : Int) = b
  generalize h0 : decide (48 ≤ b) = p0
  generalize h1 : decide (b ≤ 57) = p1
  generalize h2 : (b == 88) = p2
  generalize h3 : (b == 45) = p3
  generalize h4 : (b == 115) = p4
  generalize h5 : (b == 100) = p5
  generalize h6 : (b == 99) = p6
  go_enter Try.func83, Try.ntmps83
  cases p0 <;> cases p1 <;> cases p2 <;> cases p3 <;> cases p4 <;> cases p5 <;> cases p6
  all_goals
    go_wp2
    go_ret
    exact ⟨rfl, rfl⟩
def sg1 (c : UInt8) : Int := if sgn [c] = 0 then -1 else sgn [c]
theorem sg1_n (c : UInt8) : sg1 c = if (c.toNat : Int) = 47 then 1 else if (c.toNat : Int) = 42 then 3 else if (c.toNat : Int) = 91 then 4 else if (c.toNat : Int) = 93 then 5 else if (c.toNat : Int) = 44 then 6 else if (c.toNat : Int) = 63 then 7 else if (c.toNat : Int) = 126 then 8 else -1 := by
  have h : ∀ n : Fin 256, sg1 ⟨⟨n⟩⟩ = if ((⟨⟨n⟩⟩ : UInt8).toNat : Int) = 47 then 1 else if ((⟨⟨n⟩⟩ : UInt8).toNat : Int) = 42 then 3 else if ((⟨⟨n⟩⟩ : UInt8).toNat : Int) = 91 then 4 else if ((⟨⟨n⟩⟩ : UInt8).toNat : Int) = 93 then 5 else if ((⟨⟨n⟩⟩ : UInt8).toNat : Int) = 44 then 6 else if ((⟨⟨n⟩⟩ : UInt8).toNat : Int) = 63 then 7 else if ((⟨⟨n⟩⟩ : UInt8).toNat : Int) = 126 then 8 else -1 := by decide +kernel
  exact h c.toBitVec.toFin
set_option maxHeartbeats 1000000 in
theorem rsign_any (c : UInt8) (w : World) :
    Calls Try.prog 84 #[.int .u8 (c.toNat : Int)] w fun e w' => e = .returned (.int .i64 (sg1 c)) ∧ w = w' := by
  rw [sg1_n]
  generalize (c.toNat : Int) = b
  have B : ∀ k : Int, b ≠ k → (b == k) = false := fun k h => by simpa using h
  by_cases a1 : b = 47
  · subst a1
    go_enter Try.func84, Try.ntmps84
    go_wp2
    go_ret
    exact ⟨rfl, rfl⟩
  rw [if_neg a1]
  have b1 := B _ a1
  by_cases a2 : b = 42
  · subst a2
    go_enter Try.func84, Try.ntmps84
    go_wp2
    go_ret
    exact ⟨rfl, rfl⟩
  rw [if_neg a2]
  have b2 := B _ a2
  by_cases a3 : b = 91
  · subst a3
    go_enter Try.func84, Try.ntmps84
    go_wp2
    go_ret
    exact ⟨rfl, rfl⟩
  rw [if_neg a3]
  have b3 := B _ a3
  by_cases a4 : b = 93
  · subst a4
    go_enter Try.func84, Try.ntmps84
    go_wp2
    go_ret
    exact ⟨rfl, rfl⟩
  rw [if_neg a4]
  have b4 := B _ a4
  by_cases a5 : b = 44
  · subst a5
    go_enter Try.func84, Try.ntmps84
    go_wp2
    go_ret
    exact ⟨rfl, rfl⟩
  rw [if_neg a5]
  have b5 := B _ a5
  by_cases a6 : b = 63
  · subst a6
    go_enter Try.func84, Try.ntmps84
    go_wp2
    go_ret
    exact ⟨rfl, rfl⟩
  rw [if_neg a6]
  have b6 := B _ a6
  by_cases a7 : b = 126
  · subst a7
    go_enter Try.func84, Try.ntmps84
    go_wp2
    go_ret
    exact ⟨rfl, rfl⟩
  rw [if_neg a7]
  have b7 := B _ a7
  clear B a1 a2 a3 a4 a5 a6 a7
  go_enter Try.func84, Try.ntmps84
  go_wp2
  go_ret
  exact ⟨rfl, rfl⟩
end Go.Proofs.Ytgaadakhkjfbnaa
