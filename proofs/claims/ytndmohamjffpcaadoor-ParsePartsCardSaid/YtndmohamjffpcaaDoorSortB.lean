/-
  The sort of runs: by insertion.
-/
import Derived.Test.YtndmohamjffpcaaDoorSortA
namespace Go.Proofs.YtndmohamjffpcaaDoor
open Go.RowKit Go.Sort Go.Shelf
set_option linter.unusedVariables false
set_option maxHeartbeats 2000000 in
theorem ins_any {w0 : World} {b off n : Nat} (R0 : RowR w0 b off n) (cap : Nat) (d : Array R) (a c : Nat) (w : World) (hW : SW w0 b off d w) (hs : d.size = n) (hac : a ≤ c) (hc : c ≤ n) :
    Calls Tryd.prog 82 #[.slice (some ⟨b, off, none⟩) n cap, .int .i64 a, .int .i64 c, fvR] w fun e w' => e = .returned (.tuple #[]) ∧ SW w0 b off (Sort.insertionSort ltR d a c) w' := by
  have mx := mixed
  have hn := R0.hn
  have RW := Lib.hid R0
  clear R0
  have HW := Lib.hid hW
  clear hW
  unfold fvR
  go_enter Tryd.func82, Tryd.ntmps82
  go_wp2
  go_loopw [8] (fun vi wr => ∃ (i : Nat) (dk : Array R), vi = .int .i64 i ∧ a < i ∧ i ≤ c + 1 ∧ dk.size = n ∧ SW w0 b off dk wr ∧ Hid (insOuter ltR a c i dk = insOuter ltR a c (a + 1) d)) (fun vi _ => n + 1 - (intOf vi).toNat)
  case atStart => exact ⟨a + 1, d, by go_num, by omega, by omega, hs, HW.out, Lib.hid rfl⟩
  case round =>
    obtain ⟨i, dk, rfl, hai, hic, hsk, hwr, HO⟩ := hrel
    have HWR := Lib.hid hwr
    clear hwr
    by_cases hlt : i < c
    · have hltb : decide ((i : Int) < (c : Int)) = true := decide_eq_true (by omega)
      go_wp2
      go_loopw [9] (fun vj wr2 => ∃ (j : Nat) (dj : Array R), vj = .int .i64 j ∧ a ≤ j ∧ j ≤ i ∧ dj.size = n ∧ SW w0 b off dj wr2 ∧ Hid (insInner ltR a j dj = insInner ltR a i dk)) (fun vj _ => (intOf vj).toNat)
      case atStart => exact ⟨i, dk, rfl, by omega, Nat.le_refl _, hsk, HWR.out, Lib.hid rfl⟩
      case round =>
        obtain ⟨j, dj, rfl, haj, hji, hsj, hwr2, HI⟩ := hrel
        have HJ := Lib.hid hwr2
        clear hwr2
        by_cases hja : a < j
        · obtain ⟨p, rfl⟩ : ∃ p, j = p + 1 := ⟨j - 1, by omega⟩
          have hjab : decide (((p + 1 : Nat) : Int) > (a : Int)) = true := decide_eq_true (by omega)
          have hjz : decide ((p : Int) + 1 > (a : Int)) = true := decide_eq_true (by omega)
          have hjz2 : (a : Int) < (p : Int) + 1 := by omega
          have wp1 : IntKind.i64.wrap (p : Int) = (p : Int) := by rw [IntKind.wrap_i64]; omega
          have e0 : ((p : Int) + 1).toNat = p + 1 := by omega
          have z1 : (p : Int) + 1 < (n : Int) := by omega
          have z2 : (p : Int) < (n : Int) := by omega
          have z0 : (0 : Int) ≤ (p : Int) + 1 := by omega
          have CX := fun n' os => cmp_grown dj[p + 1]! dj[p]! wr n' os
          have cj := fun n' os => RW.out.cells (HJ.out.grown n' os) hsj (p + 1) (by omega)
          have cp := fun n' os => RW.out.cells (HJ.out.grown n' os) hsj p (by omega)
          have cj1 := fun n' os => (cj n' os).1
          have cj2 := fun n' os => (cj n' os).2.1
          have cp1 := fun n' os => (cp n' os).1
          have cp2 := fun n' os => (cp n' os).2.1
          clear cj cp
          obtain ⟨x1, x2, hx⟩ : ∃ x1 x2, dj[p + 1]! = (x1, x2) := ⟨_, _, rfl⟩
          obtain ⟨y1, y2, hy⟩ : ∃ x1 x2, dj[p]! = (x1, x2) := ⟨_, _, rfl⟩
          rw [hx] at cj1 cj2 CX
          rw [hy] at cp1 cp2 CX
          dsimp only at cj1 cj2 cp1 cp2 CX
          generalize hcf : cfR (x1, x2) (y1, y2) = cf at CX
          have CXX := Lib.hid CX
          clear CX
          have HX := Lib.hid hx
          have HY := Lib.hid hy
          have HC := Lib.hid hcf
          clear hx hy hcf
          by_cases hl : cf < 0
          · have hlb : decide (cf < 0) = true := decide_eq_true hl
            go_wp2_with fail
            go_quiet_grown (first | (go_at_call 77; exact CXX.out _ _))
            go_wp2_with fail
            have HG := Lib.hid (HJ.out.grown nq osq)
            generalize grow (wr.drewN nq) osq = W2 at HG ⊢
            clear cj1 cj2 cp1 cp2
            have f1 := (RW.out.cells HG.out hsj (p + 1) (by omega))
            have f2 := (RW.out.cells HG.out hsj p (by omega))
            rw [HX.out] at f1
            rw [HY.out] at f2
            obtain ⟨fa, fb, fc, fd⟩ := f1
            obtain ⟨ga, gb, gc, gd⟩ := f2
            dsimp only at fa fb ga gb
            go_region
            all_goals go_wp2
            refine ⟨⟨p, swp dj (p + 1) p, rfl, by omega, by omega, by rw [size_swp]; exact hsj, ?_, ?_⟩, ?_⟩
            · have h := (SW.swapped HG.out RW.out.hb (p + 1) p (by omega) (by omega)).drew
              rw [HX.out, HY.out] at h
              exact h
            · have h := insInner_go ltR a (p + 1) dj hja (by simp only [Nat.add_sub_cancel]; rw [← cfR_lt, HX.out, HY.out, HC.out]; exact hlb)
              simp only [Nat.add_sub_cancel] at h
              exact Lib.hid (h.symm.trans HI.out)
            · simp only [intOf]; omega
          · have hlb : decide (cf < 0) = false := decide_eq_false hl
            go_wp2_with fail
            go_quiet_grown (first | (go_at_call 77; exact CXX.out _ _))
            go_wp2
            refine ⟨⟨i + 1, dj, by go_num, by omega, by omega, hsj, HJ.out.grown _ _, Lib.hid ?_⟩, ?_⟩
            · rw [← HO.out, insOuter_go _ _ _ _ _ hlt, ← HI.out, insInner_stop _ _ _ _ (Or.inr (by simp only [Nat.add_sub_cancel]; rw [← cfR_lt, HX.out, HY.out, HC.out]; exact hlb))]
            · simp only [intOf]; omega
        · have hjb : decide ((j : Int) > (a : Int)) = false := decide_eq_false (by omega)
          have hjn : ¬ (a : Int) < (j : Int) := by omega
          go_wp2_with fail
          go_region
          all_goals go_wp2
          refine ⟨⟨i + 1, dj, by go_num, by omega, by omega, hsj, HJ.out.drew, Lib.hid ?_⟩, ?_⟩
          · rw [← HO.out, insOuter_go _ _ _ _ _ hlt, ← HI.out, insInner_stop _ _ _ _ (Or.inl (by omega))]
          · simp only [intOf]; omega
    · have hltb : decide ((i : Int) < (c : Int)) = false := decide_eq_false (by omega)
      go_wp2
      go_end0
      refine ⟨rfl, ?_⟩
      unfold Sort.insertionSort
      rw [← HO.out, insOuter_stop _ _ _ _ _ hlt]
      exact HWR.out
end Go.Proofs.YtndmohamjffpcaaDoor
