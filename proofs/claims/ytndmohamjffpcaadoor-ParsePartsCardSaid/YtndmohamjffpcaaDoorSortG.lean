/-
  The sort of runs: by a heap.
-/
import Derived.Test.YtndmohamjffpcaaDoorSortD
import Derived.Test.YtndmohamjffpcaaDoorSortS
namespace Go.Proofs.YtndmohamjffpcaaDoor
open Go.RowKit Go.Sort Go.Shelf
set_option linter.unusedVariables false
theorem sift_size (hi first : Nat) : ∀ (m r : Nat) (d : Array R), hi - r ≤ m → (siftDown ltR hi first r d).size = d.size := by
  intro m
  induction m with
  | zero => intro r d h; rw [sift_stop _ _ _ _ (by omega)]
  | succ m ih =>
    intro r d h
    by_cases c : 2 * r + 1 < hi
    · rw [sift_step _ _ _ _ c]
      have : r < chF d hi first r := by unfold chF; split <;> omega
      split
      · rw [ih _ _ (by omega), size_swp]
      · rfl
    · rw [sift_stop _ _ _ _ c]
set_option maxHeartbeats 2000000 in
theorem heap_any {w0 : World} {b off n : Nat} (R0 : RowR w0 b off n) (cap : Nat) (d : Array R) (a l : Nat) (w : World) (hW : SW w0 b off d w) (hs : d.size = n) (hl : a + l ≤ n) (h12 : 12 < l) :
    Calls Tryd.prog 83 #[.slice (some ⟨b, off, none⟩) n cap, .int .i64 a, .int .i64 ((a : Int) + l), fvR] w fun e w' => e = .returned (.tuple #[]) ∧ SW w0 b off (Sort.heapSort ltR d a (a + l)) w' := by
  have hn := R0.hn
  have CS := Lib.hid (fun (d : Array R) (lo hi : Nat) w hW hs hhi hlo => sift_any R0 cap d lo hi a w hW hs hhi hlo)
  have RW := Lib.hid R0
  clear R0
  have HW := Lib.hid hW
  clear hW
  have ws : IntKind.i64.wrap ((a : Int) + l - a) = l := by rw [IntKind.wrap_i64]; omega
  unfold fvR at CS ⊢
  go_enter Tryd.func83, Tryd.ntmps83
  go_wp2
  go_loopw [11] (fun vi wr => ∃ (k : Nat) (x : Int) (dk : Array R), vi = .int .i64 x ∧ x = (k : Int) - 1 ∧ k ≤ l ∧ dk.size = n ∧ SW w0 b off dk wr ∧ Hid (heapBuild ltR l a k dk = heapBuild ltR l a ((l - 1) / 2 + 1) d)) (fun vi _ => (intOf vi + 1).toNat)
  case atStart => exact ⟨(l - 1) / 2 + 1, _, d, rfl, by omega, by omega, hs, HW.out, Lib.hid rfl⟩
  case round =>
    obtain ⟨k, x, dk, rfl, hx, hkl, hsk, hwr, HO⟩ := hrel
    have HWR := Lib.hid hwr
    clear hwr
    cases k with
    | zero =>
      have ex : x = -1 := by omega
      subst ex
      clear hx
      go_wp2
      go_loopw [12] (fun vi wr2 => ∃ (k : Nat) (x : Int) (dj : Array R), vi = .int .i64 x ∧ x = (k : Int) - 1 ∧ k ≤ l ∧ dj.size = n ∧ SW w0 b off dj wr2 ∧ Hid (heapPop ltR a k dj = heapPop ltR a l dk)) (fun vi _ => (intOf vi + 1).toNat)
      case atStart => exact ⟨l, _, dk, rfl, by omega, by omega, hsk, HWR.out, Lib.hid rfl⟩
      case round =>
        obtain ⟨k, x, dj, rfl, hx, hkl, hsj, hwr, HI⟩ := hrel
        have HJ := Lib.hid hwr
        clear hwr
        cases k with
        | zero =>
          have ex : x = -1 := by omega
          subst ex
          clear hx
          go_wp2
          go_end0
          refine ⟨rfl, ?_⟩
          unfold Sort.heapSort
          rw [Nat.add_sub_cancel_left, ← HO.out]
          show SW w0 b off (heapPop ltR a l dk) _
          rw [← HI.out]
          exact HJ.out
        | succ k =>
          have ex : x = (k : Int) := by omega
          subst ex
          clear hx
          have g0 : decide ((0 : Int) ≤ k) = true := decide_eq_true (by omega)
          have t1 : ((a : Int) + (k : Int)).toNat = a + k := by omega
          have m1 : (a : Int) + (k : Int) < (n : Int) := by omega
          have m2 : (a : Int) < (n : Int) := by omega
          have n1 : (0 : Int) ≤ (a : Int) + (k : Int) := by omega
          have v1 : IntKind.i64.wrap ((a : Int) + (k : Int)) = (a : Int) + (k : Int) := by rw [IntKind.wrap_i64]; omega
          obtain ⟨x1, x2, y1, y2, ⟨fa, fb, fc, fd⟩, ⟨ga, gb, gc, gd⟩, ⟨ka, kb⟩, HS⟩ := RW.out.swap2 HJ.out hsj a (a + k) (by omega) (by omega)
          go_wp2_with fail
          go_region
          all_goals go_wp2_with fail
          all_goals (refine (CS.out (swp dj a (a + k)) 0 k _ HS.out (by rw [size_swp]; exact hsj) (by omega) (by omega)).mono ?_; rintro e w2 ⟨rfl, h2⟩)
          go_wp2
          refine ⟨⟨k, _, _, rfl, by omega, by omega, ?_, h2, ?_⟩, ?_⟩
          · rw [sift_size k a _ 0 _ (Nat.le_refl _), size_swp]; exact hsj
          · exact Lib.hid (by rw [← HI.out]; rfl)
          · simp only [intOf]; omega
    | succ k =>
      have ex : x = (k : Int) := by omega
      subst ex
      clear hx
      have g0 : decide ((0 : Int) ≤ k) = true := decide_eq_true (by omega)
      go_wp2_with fail
      refine (CS.out dk k l _ HWR.out hsk (by omega) (by omega)).mono ?_
      rintro e w2 ⟨rfl, h2⟩
      go_wp2
      refine ⟨⟨k, _, _, rfl, by omega, by omega, ?_, h2, ?_⟩, ?_⟩
      · rw [sift_size l a _ k _ (Nat.le_refl _)]; exact hsk
      · exact Lib.hid (by rw [← HO.out]; rfl)
      · simp only [intOf]; omega
end Go.Proofs.YtndmohamjffpcaaDoor
