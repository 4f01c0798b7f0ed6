/-
  Contracts of package mask: Match.
-/
import Derived.Test.YtgjdaaopebkokaaMaskA
import Derived.Deep.QuietTactic
import Derived.BigQuiet
namespace Go.Proofs.Ytgjdaaopebkokaa
open Go.RowKit
set_option linter.unusedVariables false
theorem iter_drewN (w : World) (s : ByteArray) (p m k : Nat) : ((w.drewN m).iter s p).drewN k = (w.drewN (m + k)).iter s p := by
  rw [← World.drewN_drewN]; rfl
theorem iterPos_drewN (w : World) (s : ByteArray) (p m : Nat) : ((w.drewN m).iter s p).iterPos w.heap.size = p := World.iterPos_iter (w.drewN m) s p
set_option maxHeartbeats 2000000 in
theorem mmatch_any (s : ByteArray) (n : Int) (w : World) (nl : -9223372036854775808 ≤ n) (nh : n ≤ 9223372036854775807) :
    Calls Try.prog 20 #[.string s, .int .i64 n] w fun e w' => e = .returned (.bool (matchM s n)) ∧ Kp w w' := by
  have C := Lib.hid (fun w => msane_any s w)
  rcases Bool.eq_false_or_eq_true (saneM s) with h | h
  · rw [h] at C
    have M := mk_of h
    obtain ⟨m1, m2, m3⟩ := M
    have M3 := Lib.hid m3
    clear m3
    by_cases n0 : n < 0
    · rw [show matchM s n = false by unfold matchM; rw [show decide (0 ≤ n) = false by simp; omega]; simp]
      clear h
      go_enter Try.func20, Try.ntmps20
      go_wp2_with fail
      refine (C.out _).mono ?_
      rintro e w1 ⟨rfl, k1⟩
      have K1 := Lib.hid k1
      clear k1
      go_wp2
      go_ret
      exact ⟨rfl, K1.out⟩
    have n0' : 0 ≤ n := by omega
    have e1 : matchM s n = (decide (n < P10 s.size) && fitsM s n s.size) := by
      unfold matchM; rw [h, show decide (0 ≤ n) = true by simp; omega]; simp
    have E1 := Lib.hid e1
    clear e1 h
    go_enter Try.func20, Try.ntmps20
    go_wp2_with fail
    refine (C.out _).mono ?_
    rintro e w1 ⟨rfl, k1⟩
    have K1 := Lib.hid k1
    clear k1
    go_wp2
    go_loopw [5] (fun c w' => ∃ pos : Nat, pos ≤ s.size ∧ w' = w1.iter s pos ∧ c = .int .i64 (P10 pos)) (fun _ w' => s.size - w'.iterPos w1.heap.size)
    case atStart => exact ⟨0, by omega, rfl, rfl⟩
    case round =>
      obtain ⟨pos, hp, rfl, rfl⟩ := hrel
      by_cases hlt : pos < s.size
      · have m4 := M3.out pos hlt
        have bd := P10_pos pos
        have bd2 := P10_le pos (by omega)
        have S := Lib.hid (show P10 (pos + 1) = 10 * P10 pos from rfl)
        have hnx := next_at (P := Try.prog) w1 s pos _ hlt rfl (by omega)
        generalize bt s pos = b at *
        generalize P10 pos = c at *
        clear m4
        go_wp2
        go_roundw
        case rel => exact ⟨pos + 1, by omega, rfl, by rw [S.out, Int.mul_comm]⟩
        case measure => simp; omega
      · obtain rfl : pos = s.size := by omega
        have hnx : ∀ ty, (Instr.next (.pointer (some ⟨w1.heap.size, 0, none⟩)) true ty).run Try.prog (w1.iter s s.size) = _ := fun ty => run_next_end w1 s s.size ty hlt
        have bd := P10_pos s.size
        have bd2 := P10_le s.size (by omega)
        by_cases hn : n < P10 s.size
        · have E2 := Lib.hid (show matchM s n = fitsM s n s.size by rw [E1.out, show decide (n < P10 s.size) = true by simp; omega]; simp)
          have F0 := Lib.hid (show fitsM s n 0 = true from rfl)
          have PP := Lib.hid (show P10 s.size = P10 (s.size - 0) from rfl)
          obtain ⟨pl, epl⟩ : ∃ x, x = P10 s.size := ⟨_, rfl⟩
          rw [← epl] at hn bd bd2 PP ⊢
          clear epl E1
          go_wp2_with fail
          clear hnx
          have K2 := Lib.hid (K1.out.trans (Kp.iter w1 s s.size))
          generalize w1.iter s s.size = w2 at *
          go_loopw [5, 7] (fun c _ w' => ∃ pos m : Nat, pos ≤ s.size ∧ w' = (w2.drewN m).iter s pos ∧ c = .int .i64 (P10 (s.size - pos)) ∧ fitsM s n pos = true) (fun _ _ w' => s.size - w'.iterPos w2.heap.size)
          case atStart => exact ⟨0, 0, by omega, rfl, by rw [PP.out], F0.out⟩
          case round =>
            obtain ⟨pos, m, hp, rfl, rfl, hf⟩ := hrel
            have HF := Lib.hid hf
            clear hf
            by_cases hlt : pos < s.size
            · have m4 := M3.out pos hlt
              have S := Lib.hid (show fitsM s n (pos + 1) = (fitsM s n pos && fitB (bt s pos) n (P10 (s.size - 1 - pos))) from rfl)
              have SN := Lib.hid (fun h => fitsM_no (s := s) (n := n) hlt h)
              obtain ⟨b, eb⟩ : ∃ b, bt s pos = b := ⟨_, rfl⟩
              rw [eb] at m4 S SN
              have hnx : ∀ ty, (Instr.next (.pointer (some ⟨w2.heap.size, 0, none⟩)) true ty).run Try.prog ((w2.drewN m).iter s pos) = _ := next_at (P := Try.prog) (w2.drewN m) s pos b hlt eb (by omega)
              have q1 := P10_pos (s.size - 1 - pos)
              have q2 := P10_le (s.size - 1 - pos) (by omega)
              have q3 := P10_le (s.size - pos) (by omega)
              have q4 := P10_div (s.size - 1 - pos)
              have q5 := P10_pos (s.size - pos)
              have QE := Lib.hid (show s.size - 1 - pos = s.size - (pos + 1) by omega)
              rw [show s.size - 1 - pos + 1 = s.size - pos by omega] at q4
              rw [QE.out] at q1 q2 q4 S SN
              generalize P10 (s.size - pos) = pc at *
              obtain ⟨pq, epq⟩ : ∃ x, x = P10 (s.size - (pos + 1)) := ⟨_, rfl⟩
              rw [← epq] at q1 q2 q4 S SN
              have EPQ := Lib.hid epq
              clear epq eb
              have V := Lib.hid (fun (h : 48 ≤ (b : Int)) (h2 : (b : Int) ≤ 57) w => value_any b w h h2)
              have pne : pq ≠ 0 := by omega
              by_cases hx : b = 88
              · subst hx
                have S2 := Lib.hid (show fitsM s n (pos + 1) = true by rw [S.out, HF.out]; rfl)
                clear S SN m4
                go_wp2_with fail
                go_quiet (fail)
                go_wp2
                refine ⟨⟨pos + 1, _, by omega, iter_drewN _ _ _ _ _, congrArg (Value.int .i64) (q4.trans EPQ.out), S2.out⟩, ?_⟩
                rw [iter_drewN, iterPos_drewN, iterPos_drewN]; omega
              · have g0 : ((b : Int) != 88) = true := by simp; omega
                have V2 := Lib.hid (V.out (by omega) (by omega))
                have dn : 0 ≤ n / pq := Int.ediv_nonneg n0' (by omega)
                have td : (n / pq).tmod 10 = n / pq % 10 := Int.tmod_eq_emod_of_nonneg dn
                have FB : fitB b n pq = ((b : Int) - 48 == n / pq % 10) := by unfold fitB; rw [show (b == 88) = false by simpa using hx]; rfl
                clear V dn
                rcases Bool.eq_false_or_eq_true ((b : Int) - 48 == n / pq % 10) with g | g
                · rw [g] at FB
                  have S2 := Lib.hid (show fitsM s n (pos + 1) = true by rw [S.out, HF.out, FB]; rfl)
                  have g1 : ((b : Int) - 48 != (n / pq).tmod 10) = false := by rw [td]; simp at g ⊢; omega
                  clear S SN FB td g
                  go_wp2_with fail
                  go_quiet ((go_at_call 38; exact quiet_same (V2.out _)))
                  go_wp2
                  refine ⟨⟨pos + 1, _, by omega, iter_drewN _ _ _ _ _, congrArg (Value.int .i64) (q4.trans EPQ.out), S2.out⟩, ?_⟩
                  rw [iter_drewN, iterPos_drewN, iterPos_drewN]; omega
                · rw [g] at FB
                  have S2 := Lib.hid (show matchM s n = false by rw [E2.out]; exact SN.out FB)
                  have g1 : ((b : Int) - 48 != (n / pq).tmod 10) = true := by rw [td]; simp at g ⊢; omega
                  clear S SN FB td g
                  go_wp2_with fail
                  go_quiet ((go_at_call 38; exact quiet_same (V2.out _)))
                  go_wp2
                  go_ret
                  exact ⟨ret_bool S2.out.symm, K2.out.trans (((Kp.drewN w2 m).trans (Kp.iter _ _ _)).trans (Kp.drewN _ _))⟩
            · obtain rfl : pos = s.size := by omega
              have hnx : ∀ ty, (Instr.next (.pointer (some ⟨w2.heap.size, 0, none⟩)) true ty).run Try.prog ((w2.drewN m).iter s s.size) = _ := fun ty => run_next_end (w2.drewN m) s s.size ty hlt
              have S2 := Lib.hid (show matchM s n = true by rw [E2.out, HF.out])
              go_wp2
              go_ret
              exact ⟨ret_bool S2.out.symm, K2.out.trans ((Kp.drewN w2 m).trans (Kp.iter _ _ _))⟩
        · have E2 := Lib.hid (show matchM s n = false by rw [E1.out, show decide (n < P10 s.size) = false by simp; omega]; simp)
          generalize P10 s.size = pl at *
          go_wp2
          go_ret
          exact ⟨ret_bool E2.out.symm, K1.out.trans (Kp.iter _ _ _)⟩
  · rw [h] at C
    rw [show matchM s n = false by unfold matchM; rw [h]; rfl]
    clear h
    go_enter Try.func20, Try.ntmps20
    go_wp2_with fail
    refine (C.out _).mono ?_
    rintro e w1 ⟨rfl, k1⟩
    have K1 := Lib.hid k1
    clear k1
    go_wp2
    go_ret
    exact ⟨rfl, K1.out⟩
end Go.Proofs.Ytgjdaaopebkokaa
