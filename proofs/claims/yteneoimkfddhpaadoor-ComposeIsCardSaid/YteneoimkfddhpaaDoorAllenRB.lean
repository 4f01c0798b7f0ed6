/-
  Contracts of the document's answer for layer 18: names, lists.
-/
import Derived.Test.YteneoimkfddhpaaDoorAllenNd
import Derived.Test.YteneoimkfddhpaaDoorAllenC
namespace Go.Proofs.YteneoimkfddhpaaDoor
open Go.RowKit
set_option linter.unusedVariables false
set_option maxHeartbeats 1000000 in
set_option maxRecDepth 100000 in
theorem refNames_any (w : World) :
    Calls Tryd.prog 38 #[] w fun e w' => e = .returned (.slice (some ⟨w.heap.size, 0, none⟩) 13 13) ∧ (∀ k : Nat, k < 13 → w'.cell? ⟨w.heap.size, k, none⟩ = some (.string (nmsL.getD k ByteArray.empty))) ∧ Kp w w' := by
  go_enter Tryd.func38, Tryd.ntmps38
  go_wp2
  go_ret
  refine ⟨rfl, ?_, Kp.alloc _ _⟩
  intro k hk
  have : k = 0 ∨ k = 1 ∨ k = 2 ∨ k = 3 ∨ k = 4 ∨ k = 5 ∨ k = 6 ∨ k = 7 ∨ k = 8 ∨ k = 9 ∨ k = 10 ∨ k = 11 ∨ k = 12 := by omega
  rcases this with rfl | rfl | rfl | rfl | rfl | rfl | rfl | rfl | rfl | rfl | rfl | rfl | rfl <;> simp [nmsL]
set_option maxHeartbeats 1000000 in
set_option maxRecDepth 100000 in
theorem refName_any (r : Int) (w : World) :
    Calls Tryd.prog 22 #[.int .i64 r] w fun e w' => e = .returned (.string (nm r)) ∧ Kp w w' := by
  by_cases h1 : r < 0
  · rw [show nm r = ByteArray.empty by unfold nm; rw [show invB r = false by unfold invB; simp; omega]; rfl]
    go_enter Tryd.func22, Tryd.ntmps22
    go_wp2
    go_ret
    exact ⟨rfl, Kp.refl _⟩
  by_cases h2 : 12 < r
  · rw [show nm r = ByteArray.empty by unfold nm; rw [show invB r = false by unfold invB; simp; omega]; rfl]
    go_enter Tryd.func22, Tryd.ntmps22
    go_wp2
    go_ret
    exact ⟨rfl, Kp.refl _⟩
  obtain ⟨k, rfl⟩ := Int.eq_ofNat_of_zero_le (show 0 ≤ r by omega)
  have hk : k < 13 := by omega
  rw [show nm (k : Int) = nmsL.getD k ByteArray.empty by unfold nm; rw [show invB (k : Int) = true by unfold invB; simp; omega]; simp]
  have C := Lib.hid (fun w => refNames_any w)
  go_enter Tryd.func22, Tryd.ntmps22
  go_wp2_with fail; refine (C.out _).mono ?_; rintro e w1 ⟨rfl, hc, k1⟩; have K1 := Lib.hid k1; clear k1
  have c := hc k hk
  clear hc
  generalize hE : nmsL.getD k ByteArray.empty = s at c
  have E := Lib.hid hE
  clear hE
  go_wp2
  go_ret
  exact ⟨by rw [E.out]; rfl, K1.out⟩
set_option maxHeartbeats 1000000 in
set_option maxRecDepth 100000 in
theorem refNamed_any (s : ByteArray) (w : World) :
    Calls Tryd.prog 20 #[.string s] w fun e w' => e = .returned (.tuple #[.int .i64 (ndV s), .bool (ndB s)]) ∧ Kp w w' := by
  have C := Lib.hid (fun w => refNames_any w)
  go_enter Tryd.func20, Tryd.ntmps20
  go_wp2_with fail; refine (C.out _).mono ?_; rintro e w1 ⟨rfl, hc, k1⟩; have K1 := Lib.hid k1; clear k1
  go_wp2
  go_loopw [5] (fun i wr => ∃ k : Nat, k ≤ 13 ∧ i = .int .i64 k ∧ ndF s (13 - k) k = ndI s ∧ wr = w1) (fun i _ => 13 - (intOf i).toNat)
  case atStart => exact ⟨0, by omega, rfl, rfl, rfl⟩
  case round =>
    obtain ⟨k, hk, rfl, hs, rfl⟩ := hrel
    by_cases hlt : k < 13
    · have nk := hc k hlt
      have st := ndF_step s k hlt
      generalize nmsL.getD k ByteArray.empty = x at *
      clear hc
      by_cases g : (x.toList == s.toList) = true
      · rw [if_pos g] at st
        have r1 : ndI s = k := by omega
        have r2 : ndB s = true := by unfold ndB; rw [r1]; simpa using hlt
        have R1 := Lib.hid (show ndV s = k by unfold ndV; rw [r2, if_pos rfl, r1])
        have R2 := Lib.hid r2
        have g1 := g
        clear hs st r1 r2 g
        go_wp2
        go_ret2
        exact ⟨by rw [R1.out, R2.out]; rfl, K1.out⟩
      · rw [if_neg g] at st
        have g1 : (x.toList == s.toList) = false := by simpa using g
        have S := Lib.hid (show ndF s (13 - (k + 1)) (k + 1) = ndI s by omega)
        clear hs st g
        go_wp2
        go_roundw
        case rel => exact ⟨k + 1, by omega, by go_num, S.out, trivial⟩
        case measure => simp [intOf]; omega
    · obtain rfl : k = 13 := by omega
      have r1 : ndI s = 13 := by rw [← hs]; rfl
      have r2 : ndB s = false := by unfold ndB; rw [r1]; rfl
      have R1 := Lib.hid (show ndV s = 0 by unfold ndV; rw [r2]; rfl)
      have R2 := Lib.hid r2
      clear hs r1 r2 hc
      go_wp2
      go_ret2
      exact ⟨by rw [R1.out, R2.out]; rfl, K1.out⟩
end Go.Proofs.YteneoimkfddhpaaDoor
