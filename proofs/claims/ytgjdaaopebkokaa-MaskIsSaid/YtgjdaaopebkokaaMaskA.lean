/-
  Contracts of package mask: Sane, Count.
-/
import Derived.Test.YtgjdaaopebkokaaMaskM
import Derived.Test.YtgjdaaopebkokaaChecked
import Derived.LoopTactic
namespace Go.Proofs.Ytgjdaaopebkokaa
open Go.RowKit
set_option linter.unusedVariables false
theorem isDigit_any (r : Int) (w : World) : Calls Try.prog 37 #[.int .i32 r] w fun e w' => e = .returned (.bool (digB r)) ∧ w = w' := by
  go_enter Try.func37, Try.ntmps37
  go_wp2
  all_goals go_ret
  all_goals refine ⟨ret_bool ?_, rfl⟩
  all_goals unfold digB; rw [Bool.eq_iff_iff]
  all_goals simp
  all_goals try omega
theorem value_any (r : Int) (w : World) (h : 48 ≤ r) (h2 : r ≤ 57) : Calls Try.prog 38 #[.int .i32 r] w fun e w' => e = .returned (.int .i64 (r - 48)) ∧ w = w' := by
  go_enter Try.func38, Try.ntmps38
  go_wp2
  go_ret
  exact ⟨rfl, rfl⟩
set_option maxHeartbeats 1000000 in
theorem msane_any (s : ByteArray) (w : World) :
    Calls Try.prog 18 #[.string s] w fun e w' => e = .returned (.bool (saneM s)) ∧ Kp w w' := by
  by_cases h1 : s.size < 1
  · rw [show saneM s = false by unfold saneM; rw [show decide (1 ≤ s.size ∧ s.size ≤ 4) = false by simp; omega]; rfl]
    go_enter Try.func18, Try.ntmps18
    go_wp2
    go_ret
    exact ⟨rfl, Kp.refl _⟩
  by_cases h2 : 4 < s.size
  · rw [show saneM s = false by unfold saneM; rw [show decide (1 ≤ s.size ∧ s.size ≤ 4) = false by simp; omega]; rfl]
    go_enter Try.func18, Try.ntmps18
    go_wp2
    go_ret
    exact ⟨rfl, Kp.refl _⟩
  have SM := Lib.hid (show saneM s = upB s s.size by unfold saneM; rw [show decide (1 ≤ s.size ∧ s.size ≤ 4) = true by simp; omega]; rfl)
  go_enter Try.func18, Try.ntmps18
  go_wp2
  go_loopw [4] (fun _ w' => ∃ pos : Nat, pos ≤ s.size ∧ w' = w.iter s pos ∧ upB s pos = true) (fun _ w' => s.size - w'.iterPos w.heap.size)
  case atStart => exact ⟨0, by omega, rfl, rfl⟩
  case round =>
    obtain ⟨pos, hp, rfl, hu⟩ := hrel
    have HU := Lib.hid hu
    clear hu
    by_cases hlt : pos < s.size
    · obtain ⟨b, eb⟩ : ∃ b, bt s pos = b := ⟨_, rfl⟩
      have UN := Lib.hid (fun h => upB_no (s := s) (k := s.size) (i := pos) hlt h)
      have UY := Lib.hid (show upB s (pos + 1) = (upB s pos && okB (bt s pos)) from rfl)
      rw [eb] at UN UY
      have C := Lib.hid (fun (r : Int) w => isDigit_any r w)
      rcases Nat.lt_or_ge b 128 with hb | hb
      · have hnx := next_at (P := Try.prog) w s pos b hlt eb hb
        rcases Bool.eq_false_or_eq_true (okB b) with g | g
        · have UY2 := Lib.hid (show upB s (pos + 1) = true by rw [UY.out, HU.out, g]; rfl)
          have g2 := ok_cases g
          clear g UY UN eb
          by_cases hx : b = 88
          · subst hx
            clear g2
            go_wp2
            go_roundw
            case rel => exact ⟨pos + 1, by omega, rfl, UY2.out⟩
            case measure => simp; omega
          · have g3 : digB b = true := by unfold digB; simp; omega
            have g4 : ((b : Int) != 88) = true := by simp; omega
            clear g2
            go_wp2_with fail
            refine (C.out _ _).mono ?_
            rw [g3]
            rintro e w' ⟨rfl, rfl⟩
            go_wp2
            go_roundw
            case rel => exact ⟨pos + 1, by omega, rfl, UY2.out⟩
            case measure => simp; omega
        · have UN2 := Lib.hid (show saneM s = false by rw [SM.out]; exact UN.out g)
          have g2 := ok_no g
          have g3 : digB b = false := by unfold digB; simp; omega
          have g4 : ((b : Int) != 88) = true := by simp; omega
          clear g UY UN eb g2
          go_wp2_with fail
          refine (C.out _ _).mono ?_
          rw [g3]
          rintro e w' ⟨rfl, rfl⟩
          go_wp2
          go_ret
          exact ⟨ret_bool UN2.out.symm, Kp.iter _ _ _⟩
      · obtain ⟨r, p, r1, r2, hnx⟩ := next_hi (P := Try.prog) w s pos b hlt eb hb
        have UN2 := Lib.hid (show saneM s = false by rw [SM.out]; exact UN.out (by unfold okB digB; simp; omega))
        have g3 : digB r = false := by unfold digB; simp; omega
        have g4 : ((r : Int) != 88) = true := by simp; omega
        clear UY UN eb hb
        go_wp2_with fail
        refine (C.out _ _).mono ?_
        rw [g3]
        rintro e w' ⟨rfl, rfl⟩
        go_wp2
        go_ret
        exact ⟨ret_bool UN2.out.symm, Kp.iter _ _ _⟩
    · obtain rfl : pos = s.size := by omega
      have hnx : ∀ ty, (Instr.next (.pointer (some ⟨w.heap.size, 0, none⟩)) true ty).run Try.prog (w.iter s s.size) = _ := fun ty => run_next_end w s s.size ty hlt
      have UY2 := Lib.hid (show saneM s = true by rw [SM.out, HU.out])
      go_wp2
      go_ret
      exact ⟨ret_bool UY2.out.symm, Kp.iter _ _ _⟩
set_option maxHeartbeats 1000000 in
theorem mcount_any (s : ByteArray) (w : World) :
    Calls Try.prog 25 #[.string s] w fun e w' => e = .returned (.int .i64 (countM s)) ∧ Kp w w' := by
  have C := Lib.hid (fun w => msane_any s w)
  rcases Bool.eq_false_or_eq_true (saneM s) with h | h
  · rw [h] at C
    have M := mk_of h
    obtain ⟨m1, m2, m3⟩ := M
    have M3 := Lib.hid m3
    clear m3
    rw [show countM s = cntM s s.size by unfold countM; rw [h]; rfl]
    clear h
    go_enter Try.func25, Try.ntmps25
    go_wp2_with fail
    refine (C.out _).mono ?_
    rintro e w1 ⟨rfl, k1⟩
    have K1 := Lib.hid k1
    clear k1
    go_wp2
    go_loopw [3, 5] (fun c _ w' => ∃ pos : Nat, pos ≤ s.size ∧ w' = w1.iter s pos ∧ c = .int .i64 (cntM s pos)) (fun _ _ w' => s.size - w'.iterPos w1.heap.size)
    case atStart => exact ⟨0, by omega, rfl, rfl⟩
    case round =>
      obtain ⟨pos, hp, rfl, rfl⟩ := hrel
      by_cases hlt : pos < s.size
      · have m4 := M3.out pos hlt
        have bd := cntM_bd s pos
        have bd2 := P10_le pos (by omega)
        have S := Lib.hid (show cntM s (pos + 1) = if (bt s pos == 88) = true then cntM s pos * 10 else cntM s pos from rfl)
        obtain ⟨b, eb⟩ : ∃ b, bt s pos = b := ⟨_, rfl⟩
        rw [eb] at m4 S
        have hnx := next_at (P := Try.prog) w1 s pos b hlt eb (by omega)
        generalize cntM s pos = c at *
        obtain ⟨c1, c2⟩ := bd
        have c3 : c ≤ 10000 := by omega
        clear eb c2 bd2
        by_cases hx : b = 88
        · subst hx
          have S2 := Lib.hid (show cntM s (pos + 1) = c * 10 from S.out)
          clear S m4
          go_wp2
          go_roundw
          case rel => exact ⟨pos + 1, by omega, rfl, by rw [S2.out]⟩
          case measure => simp; omega
        · have S2 := Lib.hid (show cntM s (pos + 1) = c by rw [S.out, if_neg (by simpa using hx)])
          have g : ((b : Int) == 88) = false := by simp; omega
          clear S m4 hx
          go_wp2
          go_roundw
          case rel => exact ⟨pos + 1, by omega, rfl, by rw [S2.out]⟩
          case measure => simp; omega
      · obtain rfl : pos = s.size := by omega
        have hnx : ∀ ty, (Instr.next (.pointer (some ⟨w1.heap.size, 0, none⟩)) true ty).run Try.prog (w1.iter s s.size) = _ := fun ty => run_next_end w1 s s.size ty hlt
        go_wp2
        go_ret
        exact ⟨rfl, K1.out.trans (Kp.iter _ _ _)⟩
  · rw [h] at C
    rw [show countM s = 0 by unfold countM; rw [h]; rfl]
    clear h
    go_enter Try.func25, Try.ntmps25
    go_wp2_with fail
    refine (C.out _).mono ?_
    rintro e w1 ⟨rfl, k1⟩
    have K1 := Lib.hid k1
    clear k1
    go_wp2
    go_ret
    exact ⟨rfl, K1.out⟩
end Go.Proofs.Ytgjdaaopebkokaa
