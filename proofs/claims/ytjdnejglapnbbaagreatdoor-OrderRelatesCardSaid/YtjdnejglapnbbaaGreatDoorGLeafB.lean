import Derived.Test.YtjdnejglapnbbaaGreatDoorGLeafA
import Derived.Test.YtjdnejglapnbbaaGreatDoorGJb
import Derived.Shelf.Abstract
import Derived.LoopTactic
import Derived.Deep.RegionHeld3
import Derived.Laws.EntriesVeiled
set_option maxHeartbeats 1000000
namespace Go.Proofs.YtjdnejglapnbbaaGreatDoor
set_option linter.unusedVariables false
set_option linter.unusedSimpArgs false
open Go.RowKit
theorem hasF_le {F : Fam} (h : FOK F) {S T : Int} (g : hasF F S T = true) : S ≤ T ∧ 0 ≤ S ∧ T ≤ 3652424 := by
 cases F with
 | units k s =>
  obtain ⟨i, m, rfl, rfl⟩ := (hasF_units h S T).1 g
  obtain ⟨a, b⟩ := setB_mem h m
  have := span_bd a b
  omega
 | span s e =>
  obtain ⟨a, b, c⟩ := (hasF_span (setB_sane h.1) (setB_sane h.2.1) S T).1 g
  have := setB_mem h.1 b
  have := setB_mem h.2.1 c
  rw [cnt_zero] at *
  omega
def fewB (f : LF) : Bool := decide (f.a.length ≤ 40) && decide (f.b.length ≤ 40)
theorem few_any (f : LF) (va vb : Value) (w : World) (ra : RunsAt w va f.a) (rb : RunsAt w vb f.b) :
  Calls Tryz.prog 53 #[leafV f va vb] w fun e w' => e = .returned (.bool (fewB f)) ∧ Kp w w' := by
 obtain ⟨sp, u, a, b⟩ := f
 obtain ⟨ad, ca, rfl⟩ := ra.slice
 obtain ⟨bd, cb, rfl⟩ := rb.slice
 rw [show fewB ⟨sp, u, a, b⟩ = (decide (a.length ≤ 40) && decide (b.length ≤ 40)) from rfl]
 unfold leafV
 simp only
 clear ra rb
 have E : ∀ n : Nat, decide ((n : Int) ≤ 40) = decide (n ≤ 40) := fun n => by
  by_cases h : n ≤ 40
  ·rw [decide_eq_true h, decide_eq_true (by omega)]
  ·rw [decide_eq_false h, decide_eq_false (by omega)]
 have e1 := E a.length
 have e2 := E b.length
 generalize decide (a.length ≤ 40) = x at *
 generalize decide (b.length ≤ 40) = y at *
 clear E
 cases x
 all_goals
  go_enter Tryz.func53, Tryz.ntmps53
  go_wp2
  go_ret
  exact ⟨by simp [e2], Kp.alloc _ _⟩
theorem fewB_yes {f : LF} (h : fewB f = true) : f.a.length ≤ 40 ∧ f.b.length ≤ 40 := by
 unfold fewB at h
 simpa using h
end Go.Proofs.YtjdnejglapnbbaaGreatDoor
