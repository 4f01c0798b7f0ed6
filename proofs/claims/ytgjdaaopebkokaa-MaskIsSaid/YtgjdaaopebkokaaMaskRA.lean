/-
  Contracts of the document's answer for layer 6: Sane, most, Count, Match.
-/
import Derived.Test.YtgjdaaopebkokaaMaskV
import Derived.Test.YtgjdaaopebkokaaMaskB
namespace Go.Proofs.Ytgjdaaopebkokaa
open Go.RowKit
set_option linter.unusedVariables false
set_option maxHeartbeats 1000000 in
theorem rsane_any (s : ByteArray) (w : World) (hs : s.size ≤ maxLen) :
    Calls Try.prog 19 #[.string s] w fun e w' => e = .returned (.bool (saneM s)) ∧ w = w' := by
  unfold maxLen at hs
  go_enter Try.func19, Try.ntmps19
  go_wp2
  go_loopw [3] (fun i wr => ∃ k : Nat, k ≤ s.size ∧ i = .int .i64 k ∧ upB s k = true ∧ wr = w) (fun i _ => s.size - (intOf i).toNat)
  case atStart => exact ⟨0, by omega, rfl, rfl, rfl⟩
  case round =>
    obtain ⟨k, hk, rfl, hu, rfl⟩ := hrel
    have HU := Lib.hid hu
    clear hu
    by_cases hlt : k < s.size
    · have hbt := bt_at s k hlt
      have UN := Lib.hid (fun h => upB_no (s := s) (k := s.size) (i := k) hlt h)
      have UY := Lib.hid (show upB s (k + 1) = (upB s k && okB (bt s k)) from rfl)
      obtain ⟨b, eb⟩ : ∃ b, bt s k = b := ⟨_, rfl⟩
      rw [eb] at hbt UN UY
      clear eb
      have z1 : (0 : Int) ≤ (k : Int) := by omega
      have z2 : (k : Int) < s.size := by omega
      rcases Bool.eq_false_or_eq_true (okB b) with g | g
      · have UY2 := Lib.hid (show upB s (k + 1) = true by rw [UY.out, HU.out, g]; rfl)
        have g2 := ok_cases g
        clear g UN UY
        by_cases h1 : b = 88
        · have f1 : ((b : Int) != 88) = false := by simp; omega
          have f2 : 57 < b := by omega
          clear g2 h1
          go_wp2
          go_roundw
          case rel => exact ⟨k + 1, by omega, by go_num, UY2.out, trivial⟩
          case measure => simp [intOf]; omega
        · have f2 : 48 ≤ b := by omega
          have f3 : b ≤ 57 := by omega
          clear g2 h1
          go_wp2
          go_roundw
          case rel => exact ⟨k + 1, by omega, by go_num, UY2.out, trivial⟩
          case measure => simp [intOf]; omega
      · have NO := Lib.hid (show saneM s = false by unfold saneM; rw [UN.out g]; simp)
        have g2 := ok_no g
        have f1 : ((b : Int) != 88) = true := by simp; omega
        clear g UN UY
        rcases g2.2 with h | h
        · clear g2
          go_wp2
          go_ret
          exact ⟨ret_bool NO.out.symm, rfl⟩
        · have h' : 48 ≤ b := by omega
          clear g2
          go_wp2
          go_ret
          exact ⟨ret_bool NO.out.symm, rfl⟩
    · obtain rfl : k = s.size := by omega
      by_cases h1 : 1 ≤ s.size
      · by_cases h2 : s.size ≤ 4
        · have Y := Lib.hid (show saneM s = true by unfold saneM; rw [HU.out]; simp; omega)
          go_wp2
          go_ret
          exact ⟨ret_bool (by rw [Y.out]; simp; omega), rfl⟩
        · have Y := Lib.hid (show saneM s = false by unfold saneM; rw [HU.out]; simp; omega)
          go_wp2
          go_ret
          exact ⟨ret_bool (by rw [Y.out]; simp; omega), rfl⟩
      · have Y := Lib.hid (show saneM s = false by unfold saneM; rw [HU.out]; simp; omega)
        have h3 : s.size < 1 := by omega
        go_wp2
        go_ret
        exact ⟨ret_bool Y.out.symm, rfl⟩
theorem rmost_any (n : Nat) (w : World) (hn : n ≤ 4) :
    Calls Try.prog 39 #[.int .i64 n] w fun e w' => e = .returned (.int .i64 (P10 n)) ∧ w = w' := by
  go_enter Try.func39, Try.ntmps39
  go_wp2
  go_loopw [3, 4] (fun m i wr => ∃ k : Nat, k ≤ n ∧ i = .int .i64 k ∧ m = .int .i64 (P10 k) ∧ wr = w) (fun _ i _ => n - (intOf i).toNat)
  case atStart => exact ⟨0, by omega, rfl, rfl, rfl⟩
  case round =>
    obtain ⟨k, hk, rfl, rfl, rfl⟩ := hrel
    by_cases hlt : k < n
    · have p := P10_pos k
      have q := P10_le k (by omega)
      have S := Lib.hid (show P10 (k + 1) = 10 * P10 k from rfl)
      generalize P10 k = c at *
      go_wp2
      go_roundw
      case rel => exact ⟨k + 1, by omega, by go_num, by rw [S.out, Int.mul_comm], trivial⟩
      case measure => simp [intOf]; omega
    · obtain rfl : k = n := by omega
      go_wp2
      go_ret
      exact ⟨rfl, rfl⟩
set_option maxHeartbeats 1000000 in
theorem rcount_any (s : ByteArray) (w : World) (hs : s.size ≤ maxLen) :
    Calls Try.prog 26 #[.string s] w fun e w' => e = .returned (.int .i64 (countM s)) ∧ w = w' := by
  have C := Lib.hid (rsane_any s w hs)
  rcases Bool.eq_false_or_eq_true (saneM s) with h | h
  · rw [h] at C
    have M := mk_of h
    obtain ⟨m1, m2, m3⟩ := M
    have M3 := Lib.hid m3
    clear m3 hs
    rw [show countM s = cntM s s.size by unfold countM; rw [h]; rfl]
    clear h
    go_enter Try.func26, Try.ntmps26
    go_wp2_with fail; refine (C.out).mono ?_; rintro e w' ⟨rfl, rfl⟩
    go_wp2
    go_loopw [3, 4] (fun m i wr => ∃ k : Nat, k ≤ s.size ∧ i = .int .i64 k ∧ m = .int .i64 (cntM s k) ∧ wr = w) (fun _ i _ => s.size - (intOf i).toNat)
    case atStart => exact ⟨0, by omega, rfl, rfl, rfl⟩
    case round =>
      obtain ⟨k, hk, rfl, rfl, rfl⟩ := hrel
      by_cases hlt : k < s.size
      · have hbt := bt_at s k hlt
        have bd := cntM_bd s k
        have bd2 := P10_le k (by omega)
        have S := Lib.hid (show cntM s (k + 1) = if (bt s k == 88) = true then cntM s k * 10 else cntM s k from rfl)
        obtain ⟨b, eb⟩ : ∃ b, bt s k = b := ⟨_, rfl⟩
        rw [eb] at hbt S
        generalize cntM s k = c at *
        obtain ⟨c1, c2⟩ := bd
        have c3 : c ≤ 10000 := by omega
        have z1 : (0 : Int) ≤ (k : Int) := by omega
        have z2 : (k : Int) < s.size := by omega
        clear eb c2 bd2
        by_cases hx : b = 88
        · have g : ((b : Int) == 88) = true := by simp; omega
          have S2 := Lib.hid (show cntM s (k + 1) = c * 10 by rw [S.out, if_pos (by simpa using hx)])
          clear S hx
          go_wp2
          go_roundw
          case rel => exact ⟨k + 1, by omega, by go_num, by rw [S2.out], trivial⟩
          case measure => simp [intOf]; omega
        · have S2 := Lib.hid (show cntM s (k + 1) = c by rw [S.out, if_neg (by simpa using hx)])
          have g : ((b : Int) == 88) = false := by simp; omega
          clear S hx
          go_wp2
          go_roundw
          case rel => exact ⟨k + 1, by omega, by go_num, by rw [S2.out], trivial⟩
          case measure => simp [intOf]; omega
      · obtain rfl : k = s.size := by omega
        go_wp2
        go_ret
        exact ⟨rfl, rfl⟩
  · rw [h] at C
    rw [show countM s = 0 by unfold countM; rw [h]; rfl]
    clear h hs
    go_enter Try.func26, Try.ntmps26
    go_wp2_with fail; refine (C.out).mono ?_; rintro e w' ⟨rfl, rfl⟩
    go_wp2
    go_ret
    exact ⟨rfl, rfl⟩
/-- do the last signs fit -/
def fitD (s : ByteArray) (n : Int) : Nat → Bool
  | 0 => true
  | j + 1 => fitD s n j && fitB (bt s (s.size - 1 - j)) n (P10 j)
theorem fitD_at {s : ByteArray} {n : Int} {k : Nat} (h : fitD s n k = true) : ∀ j, j < k → fitB (bt s (s.size - 1 - j)) n (P10 j) = true := by
  induction k with
  | zero => intro j hj; omega
  | succ k ih =>
    intro j hj
    rw [fitD, Bool.and_eq_true] at h
    by_cases e : j = k
    · subst e; exact h.2
    · exact ih h.1 j (by omega)
theorem fitD_all {s : ByteArray} {n : Int} (h : fitD s n s.size = true) : fitsM s n s.size = true := fits_of fun i hi => by
  have := fitD_at h (s.size - 1 - i) (by omega)
  rwa [show s.size - 1 - (s.size - 1 - i) = i by omega] at this
theorem P10_split (n : Int) (j : Nat) : n / P10 j / 10 = n / P10 (j + 1) := by
  have := P10_pos j
  rw [P10, Int.ediv_ediv, if_neg (by omega), Int.sub_zero, Int.mul_comm]
set_option maxHeartbeats 2000000 in
theorem rmatch_any (s : ByteArray) (n : Int) (w : World) (hs : s.size ≤ maxLen) (nl : -9223372036854775808 ≤ n) (nh : n ≤ 9223372036854775807) :
    Calls Try.prog 21 #[.string s, .int .i64 n] w fun e w' => e = .returned (.bool (matchM s n)) ∧ w = w' := by
  have C := Lib.hid (rsane_any s w hs)
  rcases Bool.eq_false_or_eq_true (saneM s) with h | h
  · rw [h] at C
    have M := mk_of h
    obtain ⟨m1, m2, m3⟩ := M
    have C2 := Lib.hid (rmost_any s.size w m2)
    have pb := P10_le s.size m2
    have pp := P10_pos s.size
    clear hs m3
    by_cases n0 : n < 0
    · have E1 := Lib.hid (show matchM s n = false by unfold matchM; rw [show decide (0 ≤ n) = false by simp; omega]; simp)
      clear h
      go_enter Try.func21, Try.ntmps21
      go_wp2_with fail; refine (C.out).mono ?_; rintro e w' ⟨rfl, rfl⟩
      go_wp2
      go_ret
      exact ⟨ret_bool E1.out.symm, rfl⟩
    have n0' : 0 ≤ n := by omega
    by_cases n1 : P10 s.size ≤ n
    · have E1 := Lib.hid (show matchM s n = false by unfold matchM; rw [show decide (n < P10 s.size) = false by simp; omega]; simp)
      generalize P10 s.size = c at *
      clear h n0
      go_enter Try.func21, Try.ntmps21
      go_wp2_with fail; refine (C.out).mono ?_; rintro e w' ⟨rfl, rfl⟩
      go_wp2_with fail; refine (C2.out).mono ?_; rintro e w' ⟨rfl, rfl⟩
      go_wp2
      go_ret
      exact ⟨ret_bool E1.out.symm, rfl⟩
    have n1' : n < P10 s.size := by omega
    have n2 : n < 10000 := by omega
    have E1 := Lib.hid (show matchM s n = fitsM s n s.size by unfold matchM; rw [h, show decide (0 ≤ n) = true by simp; omega, show decide (n < P10 s.size) = true by simp; omega]; simp)
    have D0 := Lib.hid (show n / P10 0 = n by rw [P10, Int.ediv_one])
    obtain ⟨c, hc⟩ : ∃ c, c = P10 s.size := ⟨_, rfl⟩
    rw [← hc] at C2 n1' pb pp
    clear h n0 n1 hc
    go_enter Try.func21, Try.ntmps21
    go_wp2_with fail; refine (C.out).mono ?_; rintro e w' ⟨rfl, rfl⟩
    go_wp2_with fail; refine (C2.out).mono ?_; rintro e w' ⟨rfl, rfl⟩
    go_wp2
    go_loopw [1, 5] (fun m i wr => ∃ p : Nat, p ≤ s.size ∧ i = .int .i64 ((p : Int) - 1) ∧ m = .int .i64 (n / P10 (s.size - p)) ∧ fitD s n (s.size - p) = true ∧ wr = w) (fun _ i _ => (intOf i + 1).toNat)
    case atStart => exact ⟨s.size, by omega, rfl, by rw [Nat.sub_self, D0.out], by rw [Nat.sub_self]; rfl, rfl⟩
    case round =>
      obtain ⟨p, hp, rfl, rfl, hf, rfl⟩ := hrel
      have HF := Lib.hid hf
      clear hf
      cases p with
      | zero =>
        have E2 := Lib.hid (show matchM s n = true by rw [E1.out]; exact fitD_all HF.out)
        go_wp2
        go_ret
        exact ⟨ret_bool E2.out.symm, rfl⟩
      | succ q =>
        rw [show (((q + 1 : Nat) : Int)) - 1 = (q : Int) by omega]
        have hqs : q < s.size := by omega
        have ej : s.size - (q + 1) + 1 = s.size - q := by omega
        have S := show fitD s n (s.size - (q + 1) + 1) = (fitD s n (s.size - (q + 1)) && fitB (bt s (s.size - 1 - (s.size - (q + 1)))) n (P10 (s.size - (q + 1)))) from rfl
        have DV := P10_split n (s.size - (q + 1))
        have SN := fun h => fitsM_no (s := s) (n := n) hqs h
        rw [ej] at S DV
        rw [show s.size - 1 - (s.size - (q + 1)) = q by omega] at S
        rw [show s.size - 1 - q = s.size - (q + 1) by omega] at SN
        have pj := P10_pos (s.size - (q + 1))
        have hbt := bt_at s q hqs
        obtain ⟨b, eb⟩ : ∃ b, bt s q = b := ⟨_, rfl⟩
        rw [eb] at S hbt SN
        have FB : fitB b n (P10 (s.size - (q + 1))) = ((b == 88) || ((b : Int) - 48 == n / P10 (s.size - (q + 1)) % 10)) := rfl
        have x0 : 0 ≤ n / P10 (s.size - (q + 1)) := Int.ediv_nonneg n0' (by omega)
        have x1 : n / P10 (s.size - (q + 1)) ≤ n := Int.ediv_le_self _ n0'
        obtain ⟨x, ex⟩ : ∃ x, n / P10 (s.size - (q + 1)) = x := ⟨_, rfl⟩
        rw [ex] at DV FB x0 x1 ⊢
        have bb : b < 256 := by rw [← hbt]; exact UInt8.toNat_lt _
        have z1 : (0 : Int) ≤ (q : Int) := by omega
        have z2 : (q : Int) < s.size := by omega
        have x2 : x ≤ 10000 := by omega
        have DVH := Lib.hid DV
        have SH := Lib.hid S
        have SNH := Lib.hid SN
        clear eb ex DV S SN x1 ej
        by_cases hx : b = 88
        · have g : ((b : Int) != 88) = false := by simp; omega
          have S2 := Lib.hid (show fitD s n (s.size - q) = true by rw [SH.out, HF.out, FB]; simp [hx])
          clear FB hx
          go_wp2
          go_roundw
          case rel => exact ⟨q, by omega, rfl, congrArg (Value.int .i64) DVH.out, S2.out, trivial⟩
          case measure => simp [intOf]
        · have g : ((b : Int) != 88) = true := by simp; omega
          rcases Bool.eq_false_or_eq_true ((b : Int) - 48 == x % 10) with f | f
          · have S2 := Lib.hid (show fitD s n (s.size - q) = true by rw [SH.out, HF.out, FB, f]; simp)
            have f2 : ((b : Int) - 48 != x % 10) = false := by simp at f ⊢; omega
            clear FB hx f
            go_wp2
            go_roundw
            case rel => exact ⟨q, by omega, rfl, congrArg (Value.int .i64) DVH.out, S2.out, trivial⟩
            case measure => simp [intOf]
          · have S2 := Lib.hid (show matchM s n = false by rw [E1.out]; exact SNH.out (by rw [FB, f]; simp; exact hx))
            have f2 : ((b : Int) - 48 != x % 10) = true := by simp at f ⊢; omega
            clear FB hx f
            go_wp2
            go_ret
            exact ⟨ret_bool S2.out.symm, rfl⟩
  · rw [h] at C
    have E1 := Lib.hid (show matchM s n = false by unfold matchM; rw [h]; rfl)
    clear h hs
    go_enter Try.func21, Try.ntmps21
    go_wp2_with fail; refine (C.out).mono ?_; rintro e w' ⟨rfl, rfl⟩
    go_wp2
    go_ret
    exact ⟨ret_bool E1.out.symm, rfl⟩
end Go.Proofs.Ytgjdaaopebkokaa
