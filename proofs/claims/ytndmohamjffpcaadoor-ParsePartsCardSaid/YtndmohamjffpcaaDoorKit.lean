/-
  Small lemmas over any program: a scope with a jump ahead; what results are.
-/
import Derived.WalkKit
import Derived.WalkMore
import Derived.ScopeJumps
import Derived.ProofKit
import Derived.WalkLawsBesides
import Derived.Lib.Hide
import Derived.Deep.QuietTactic
import Derived.BigQuiet
import Derived.Outline
namespace Go.Proofs.YtndmohamjffpcaaDoor
open Go.RowKit

theorem ret_int {k : IntKind} {a b : Int} (h : a = b) : Ending.returned (.int k a) = .returned (.int k b) := by rw [h]
theorem ret_bool {a b : Bool} (h : a = b) : Ending.returned (.bool a) = .returned (.bool b) := by rw [h]
theorem ret_two {k : IntKind} {a b : Int} {x y : Bool} (h : a = b) (g : x = y) : Ending.returned (.tuple #[.int k a, .bool x]) = .returned (.tuple #[.int k b, .bool y]) := by rw [h, g]

/-- A scope in which every jump goes ahead to one label, and none is left behind it. -/
theorem wp_scope_fwd {P : Program} {a : Act} {w : World} {Q : Exit → Act → World → Prop} {c rest : Code} (l : Nat) (hf : findLabel c l = some rest)
    (first : c.wp P (Exit.jump l (fun a' w' => rest.wp P (Exit.jump l (fun _ _ => False) Q) a' w') Q) a w) : (Code.scope c).wp P Q a w := by
  refine wp_scope_jumps l (fun a' w' => rest.wp P (Exit.jump l (fun _ _ => False) Q) a' w') (fun _ _ => 0) hf first ?_
  intro a1 w1 h
  refine wp_mono h ?_
  intro e a2 w2 h2
  cases e with
  | goto l' => exact absurd h2.2 id
  | normal => exact h2
  | exit id => exact h2
  | ret => exact h2
  | panic ch => exact h2
  | outgrown => exact h2
theorem jump_ret {l : Nat} {J : Act → World → Prop} {Q : Exit → Act → World → Prop} {a : Act} {w : World} (h : Q .ret a w) : Exit.jump l J Q .ret a w := h
theorem jump_goto {l : Nat} {J : Act → World → Prop} {Q : Exit → Act → World → Prop} {a : Act} {w : World} (h : J a w) : Exit.jump l J Q (.goto l) a w := ⟨rfl, h⟩

/-- A callee that leaves the world alone, met inside a region that draws its order. -/
theorem quiet_same {P : Program} {f : FuncId} {args : Array Value} {w : World} {n : Nat} {v : Value}
    (h : Calls P f args (w.drewN n) fun e w' => e = .returned v ∧ w.drewN n = w') : Calls P f args (w.drewN n) fun e w'' => e = .returned v ∧ ∃ m, w'' = w.drewN m :=
  h.mono fun _ _ ⟨he, hm⟩ => ⟨he, n, hm.symm⟩
theorem quiet_add {P : Program} {f : FuncId} {args : Array Value} {w : World} {a n : Nat} {v : Value}
    (h : Calls P f args (w.drewN (a + n)) fun e w' => e = .returned v ∧ w.drewN (a + n) = w') : Calls P f args (w.drewN (a + n)) fun e w'' => e = .returned v ∧ ∃ m, w'' = w.drewN (a + m) :=
  h.mono fun _ _ ⟨he, hm⟩ => ⟨he, n, hm.symm⟩

def fitsB (a : Int) : Bool := decide (-9223372036854775808 ≤ a ∧ a ≤ 9223372036854775807)
def only (a : Int) : Int := if fitsB a then a else 0
theorem fitsB_yes {a : Int} (h : -9223372036854775808 ≤ a) (h' : a ≤ 9223372036854775807) : fitsB a = true := by unfold fitsB; simp; omega
theorem fitsB_no {a : Int} (h : a < -9223372036854775808 ∨ 9223372036854775807 < a) : fitsB a = false := by unfold fitsB; simp; omega
theorem only_yes {a : Int} (h : fitsB a = true) : only a = a := by unfold only; rw [if_pos h]
theorem only_no {a : Int} (h : fitsB a = false) : only a = 0 := by unfold only; rw [h]; rfl
theorem fitsB_bd {a : Int} (h : fitsB a = true) : -9223372036854775808 ≤ a ∧ a ≤ 9223372036854775807 := by unfold fitsB at h; simpa using h
theorem fitsB_bd' {a : Int} (h : fitsB a = false) : a < -9223372036854775808 ∨ 9223372036854775807 < a := by unfold fitsB at h; simp at h; omega
theorem wf_bd {a : Int} (h : (Lit.int .i64 a).wf = true) : -9223372036854775808 ≤ a ∧ a ≤ 9223372036854775807 := by
  simp only [Lit.wf, Bool.and_eq_true, decide_eq_true_eq] at h; exact h
theorem only_bd (a : Int) : -9223372036854775808 ≤ only a ∧ only a ≤ 9223372036854775807 := by
  unfold only; by_cases h : fitsB a = true
  · rw [if_pos h]; exact fitsB_bd h
  · rw [if_neg h]; omega
end Go.Proofs.YtndmohamjffpcaaDoor
