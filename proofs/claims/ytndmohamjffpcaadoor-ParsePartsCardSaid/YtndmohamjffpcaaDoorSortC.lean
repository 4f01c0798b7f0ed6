/-
  The sort of runs: down a heap; the range turned round.
-/
import Derived.Test.YtndmohamjffpcaaDoorSortA
namespace Go.Proofs.YtndmohamjffpcaaDoor
open Go.RowKit Go.Sort Go.Shelf
set_option linter.unusedVariables false
set_option maxHeartbeats 2000000 in
theorem rev_any {w0 : World} {b off n : Nat} (R0 : RowR w0 b off n) (cap : Nat) (fv : Value) (d : Array R) (a c : Nat) (w : World) (hW : SW w0 b off d w) (hs : d.size = n) (hac : a < c) (hc : c ≤ n) :
    Calls Tryd.prog 86 #[.slice (some ⟨b, off, none⟩) n cap, .int .i64 a, .int .i64 c, fv] w fun e w' => e = .returned (.tuple #[]) ∧ SW w0 b off (Sort.reverseRange d a c) w' := by
  have mx := mixed
  have hn := R0.hn
  have RW := Lib.hid R0
  clear R0
  have HW := Lib.hid hW
  clear hW
  obtain ⟨c, rfl⟩ : ∃ c', c = c' + 1 := ⟨c - 1, by omega⟩
  have wc : IntKind.i64.wrap (c : Int) = (c : Int) := by rw [IntKind.wrap_i64]; omega
  go_enter Tryd.func86, Tryd.ntmps86
  go_wp2
  go_loopw [8, 9] (fun vi vj wr => ∃ (i j : Nat) (dk : Array R), vi = .int .i64 i ∧ vj = .int .i64 j ∧ a ≤ i ∧ i ≤ j + 1 ∧ j ≤ c ∧ dk.size = n ∧ SW w0 b off dk wr ∧ Hid (reverseLoop i j dk = reverseLoop a c d)) (fun _ vj _ => (intOf vj).toNat)
  case atStart => exact ⟨a, c, d, rfl, by go_num, by omega, by omega, by omega, hs, HW.out, Lib.hid rfl⟩
  case round =>
    obtain ⟨i, j, dk, rfl, rfl, hai, hij, hjc, hsk, hwr, HO⟩ := hrel
    have HWR := Lib.hid hwr
    clear hwr
    by_cases hlt : i < j
    · obtain ⟨j, rfl⟩ : ∃ j', j = j' + 1 := ⟨j - 1, by omega⟩
      have b1 : decide ((i : Int) < (j : Int) + 1) = true := decide_eq_true (by omega)
      have b1' : (i : Int) < (j : Int) + 1 := by omega
      have wj : IntKind.i64.wrap (j : Int) = (j : Int) := by rw [IntKind.wrap_i64]; omega
      have e0 : ((j : Int) + 1).toNat = j + 1 := by omega
      have z1 : (j : Int) + 1 < (n : Int) := by omega
      have z2 : (i : Int) < (n : Int) := by omega
      have z0 : (0 : Int) ≤ (j : Int) + 1 := by omega
      obtain ⟨x1, x2, y1, y2, ⟨fa, fb, fc, fd⟩, ⟨ga, gb, gc, gd⟩, HS⟩ := RW.out.swap HWR.out hsk i (j + 1) (by omega) (by omega)
      go_wp2_with fail
      go_region
      all_goals go_wp2
      refine ⟨⟨i + 1, j, swp dk i (j + 1), by go_num, by go_num, by omega, by omega, by omega, by rw [size_swp]; exact hsk, HS.out, ?_⟩, ?_⟩
      · have h : reverseLoop i (j + 1) dk = reverseLoop (i + 1) j (swp dk i (j + 1)) := by rw [reverseLoop, if_pos hlt]; rfl
        exact Lib.hid (h.symm.trans HO.out)
      · simp only [intOf]; omega
    · have b1 : decide ((i : Int) < (j : Int)) = false := decide_eq_false (by omega)
      go_wp2
      go_end0
      refine ⟨rfl, ?_⟩
      unfold Sort.reverseRange
      have h : reverseLoop i j dk = dk := by rw [reverseLoop, if_neg hlt]
      rw [show c + 1 - 1 = c from rfl, ← HO.out, h]
      exact HWR.out
end Go.Proofs.YtndmohamjffpcaaDoor
