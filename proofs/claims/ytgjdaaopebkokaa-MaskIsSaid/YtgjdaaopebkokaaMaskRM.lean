/-
  Contracts of the document's answer for layer 6: Only, Meet; sets that are the same.
-/
import Derived.Test.YtgjdaaopebkokaaMaskRS
import Derived.Test.YtgjdaaopebkokaaMaskDigitsW
namespace Go.Proofs.Ytgjdaaopebkokaa
open Go.RowKit
set_option linter.unusedVariables false
set_option maxHeartbeats 1000000 in
theorem ronly_any (s : ByteArray) (w : World) (hs : s.size ≤ maxLen) :
    Calls Try.prog 17 #[.string s] w fun e w' => e = .returned (.tuple #[.int .i64 (onlyV s), .bool (onlyB s)]) ∧ Kp w w' := by
  have C1 := Lib.hid (fun w => rcount_any s w hs)
  have C2 := Lib.hid (fun w => rset_any s w hs)
  rcases Bool.eq_false_or_eq_true (onlyB s) with h | h
  · have hne := setM_ne (count_sane h)
    rw [show onlyV s = (at_ (setM s) 0).1 by unfold onlyV; rw [h]; rfl, h]
    have g : (countM s != 1) = false := by unfold onlyB at h; simp at h ⊢; exact h
    have HN := Lib.hid hne
    generalize setM s = l at *
    generalize countM s = c at *
    clear h hne
    go_enter Try.func17, Try.ntmps17
    go_wp2_with fail; refine ((C1.out _)).mono ?_; rintro e w' ⟨rfl, rfl⟩
    go_wp2_with fail
    refine (C2.out _).mono ?_
    rintro e w2 ⟨v, rfl, own, k2⟩
    have K2 := Lib.hid k2
    rcases runsAt_own own with ⟨_, e⟩ | ⟨b, off, cap, rfl, hc, hm, hx⟩
    · exact absurd e HN.out
    have hl : 0 < l.length := by
      rcases Nat.eq_zero_or_pos l.length with e | e
      · exact absurd (List.length_eq_zero_iff.1 e) HN.out
      · exact e
    obtain ⟨c1, c2⟩ := hx 0 hl
    have HX := Lib.hid hx
    clear hx own k2
    have hl2 : (0 : Int) < l.length := by omega
    simp only [Nat.zero_mul, Nat.add_zero] at c1
    go_wp2
    go_ret2
    exact ⟨rfl, K2.out⟩
  · rw [show onlyV s = 0 by unfold onlyV; rw [h]; rfl, h]
    have g : (countM s != 1) = true := by unfold onlyB at h; simp at h ⊢; exact h
    generalize countM s = c at *
    clear h
    go_enter Try.func17, Try.ntmps17
    go_wp2_with fail; refine ((C1.out _)).mono ?_; rintro e w' ⟨rfl, rfl⟩
    go_wp2
    go_ret2
    exact ⟨rfl, Kp.refl _⟩
/-- two slices of the same runs are the same -/
theorem same_yes (v u : Value) (l : List R) (w : World) (hv : RunsAt w v l) (hu : RunsAt w u l) :
    Calls Try.prog 22 #[v, u] w fun e w' => e = .returned (.bool true) ∧ Kp w w' := by
  rcases hv with ⟨rfl, rfl⟩ | ⟨b, off, cap, rfl, hc, hm, hx⟩
  · obtain ⟨ad, c, rfl⟩ := hu.slice
    rw [List.length_nil]
    go_enter Try.func22, Try.ntmps22
    go_wp2
    go_loopw [5] (fun i wr => i = .int .i64 0 ∧ Kp w wr) (fun _ _ => 0)
    case atStart => exact ⟨rfl, Kp.refl _⟩
    case round =>
      obtain ⟨rfl, k2⟩ := hrel
      go_wp2
      go_ret
      exact ⟨rfl, k2⟩
  · rcases hu with ⟨rfl, rfl⟩ | ⟨b', off', cap', rfl, hc', hm', hx'⟩
    · rw [List.length_nil]
      clear hx
      go_enter Try.func22, Try.ntmps22
      go_wp2
      go_loopw [5] (fun i wr => i = .int .i64 0 ∧ Kp w wr) (fun _ _ => 0)
      case atStart => exact ⟨rfl, Kp.refl _⟩
      case round =>
        obtain ⟨rfl, k2⟩ := hrel
        go_wp2
        go_ret
        exact ⟨rfl, k2⟩
    · have hm2 : l.length ≤ 9223372036854775807 := by unfold maxLen at hm; omega
      have HX := Lib.hid hx
      have HY := Lib.hid hx'
      clear hx hx' hm hm' hc hc'
      go_enter Try.func22, Try.ntmps22
      go_wp2
      go_loopw [5] (fun i wr => ∃ k : Nat, k ≤ l.length ∧ i = .int .i64 k ∧ Kp w wr) (fun i _ => l.length - (intOf i).toNat)
      case atStart => exact ⟨0, by omega, rfl, Kp.refl _⟩
      case round =>
        obtain ⟨k, hk, rfl, k2⟩ := hrel
        have K2 := Lib.hid k2
        clear k2
        by_cases hlt : k < l.length
        · obtain ⟨c1, c2⟩ := HX.out k hlt
          obtain ⟨c3, c4⟩ := HY.out k hlt
          have d1 := (Below.cell (p := ⟨b, off + k * 2, none⟩) K2.out (World.block_lt_of_cell? _ _ c1)).trans c1
          have d2 := (Below.cell (p := ⟨b, off + k * 2 + 1, none⟩) K2.out (World.block_lt_of_cell? _ _ c2)).trans c2
          have d3 := (Below.cell (p := ⟨b', off' + k * 2, none⟩) K2.out (World.block_lt_of_cell? _ _ c3)).trans c3
          have d4 := (Below.cell (p := ⟨b', off' + k * 2 + 1, none⟩) K2.out (World.block_lt_of_cell? _ _ c4)).trans c4
          clear c1 c2 c3 c4
          obtain ⟨lo, hi', ee⟩ : ∃ x y, at_ l k = (x, y) := ⟨_, _, rfl⟩
          rw [ee] at d1 d2 d3 d4
          simp only at d1 d2 d3 d4
          have z1 : (0 : Int) ≤ (k : Int) := by omega
          have z2 : (k : Int) < l.length := by omega
          clear ee
          go_wp2_with fail
          go_quiet (fail)
          go_wp2
          go_roundw
          case rel => exact ⟨k + 1, by omega, by go_num, K2.out.trans (Kp.drewN _ _)⟩
          case measure => simp [intOf]; omega
        · obtain rfl : k = l.length := by omega
          go_wp2
          go_ret
          exact ⟨rfl, K2.out⟩
end Go.Proofs.Ytgjdaaopebkokaa
