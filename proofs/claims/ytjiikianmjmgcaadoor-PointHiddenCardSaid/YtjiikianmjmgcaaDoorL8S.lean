/-
  Layer 8: short; short moves in regions.
-/
import Derived.Test.YtjiikianmjmgcaaDoorGL8
import Derived.Test.YtjiikianmjmgcaaDoorGPtU
import Derived.Test.YtjiikianmjmgcaaDoorGLeafA
namespace Go.Proofs.YtjiikianmjmgcaaDoor
open Go.RowKit
set_option linter.unusedVariables false
set_option linter.unusedSimpArgs false
theorem bytes_eq (a b : ByteArray) : (a == b) = true ↔ a = b := by
  rw [beq_toListBytes, beq_iff_eq, ByteArray.toList_eq, ByteArray.toList_eq]
  constructor
  · intro h
    obtain ⟨⟨x⟩⟩ := a
    obtain ⟨⟨y⟩⟩ := b
    simp only at h
    rw [h]
  · intro h
    rw [h]
def shortP (p : PT) : Bool := decide ((p.y.size : Int) ≤ 10) && (decide ((p.m.size : Int) ≤ 10) && decide ((p.d.size : Int) ≤ 10))
set_option maxHeartbeats 4000000 in
set_option maxRecDepth 100000 in
theorem short_any (p : PT) (w : World) : Calls Tryd.prog 19 #[ptV p] w fun e w' => e = .returned (.bool (shortP p)) ∧ Kp w w' := by
  obtain ⟨k, y, m, d, rfl⟩ := pt_dest p
  unfold ptV shortP
  simp only
  go_enter Tryd.func19, Tryd.ntmps19
  go_wp2
  all_goals go_ret
  all_goals refine ⟨?_, Kp.alloc _ _⟩
  all_goals (simp_all <;> omega)
section
variable {P : Program} {ops : Array Oper} {Q : Exit → Act → World → Prop} {md : Region.Mode} {S : World → Prop} {fuel : Nat} {listed : Array Bool} {a : Act} {w : World}
theorem tkV {v : Value} (i : Nat) (oi : Oper) (hy : ∀ w, S w → (execOp a.eval oi).run P w = .ok (.value v) w) (h : wpAnyH P md ops Q S fuel (listed.setIfInBounds i true) (a.put oi.dst v) w)
    (hi : ops[i]? = some oi := by rfl) (hs : Region.noSelect ops = true := by kernel_rfl) (hf : Region.free md ops listed i = true := by kernel_rfl) (hr : (Region.ready md ops listed).contains i = true := by kernel_rfl)
    (hQ : ∀ c a w, Q (.panic c) (a.put oi.dst v) w → Q (.panic c) a w := by exact fun _ _ _ h => h) (hw : Region.wanted oi (yielded ops a.tmps) = true := by rfl) (hS : S w := by assumption) : wpAnyH P md ops Q S (fuel + 1) listed a w :=
  tkW i oi hi hs hf hr hQ hw hy hS h
theorem tkN (i : Nat) (oi : Oper) (h : wpAnyH P md ops Q S fuel (listed.setIfInBounds i true) (a.put oi.dst undef) w)
    (hi : ops[i]? = some oi := by rfl) (hs : Region.noSelect ops = true := by kernel_rfl) (hf : Region.free md ops listed i = true := by kernel_rfl) (hr : (Region.ready md ops listed).contains i = true := by kernel_rfl)
    (hQ : ∀ c a w, Q (.panic c) (a.put oi.dst undef) w → Q (.panic c) a w := by exact fun _ _ _ h => h) (hw : Region.wanted oi (yielded ops a.tmps) = false := by rfl) (hS : S w := by assumption) : wpAnyH P md ops Q S (fuel + 1) listed a w :=
  tkU i oi hi hs hf hr hQ hw hS h
end
theorem xA {α : Type} (l : List α) (i : Nat) (x : α) : l.toArray.setIfInBounds i x = (l.set i x).toArray := List.setIfInBounds_toArray ..
theorem xB {α : Type} (l : List α) (a b : α) : (a :: l).set 0 b = b :: l := rfl
theorem xC {α : Type} (l : List α) (n : Nat) (a b : α) : (a :: l).set (n + 1) b = a :: l.set n b := rfl
end Go.Proofs.YtjiikianmjmgcaaDoor
