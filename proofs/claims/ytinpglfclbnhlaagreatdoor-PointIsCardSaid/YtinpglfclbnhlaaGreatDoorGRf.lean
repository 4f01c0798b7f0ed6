/-
  Joined: Mrf, Mat, Rf8.
-/
import Derived.Test.YtinpglfclbnhlaaGreatDoorGMask
import Derived.Test.YtinpglfclbnhlaaGreatDoorGL8
import Derived.Test.YtinpglfclbnhlaaGreatDoorGPtA
import Derived.Test.YtinpglfclbnhlaaGreatDoorGTrA
namespace Go.Proofs.YtinpglfclbnhlaaGreatDoor
open Go.RowKit
set_option linter.unusedVariables false
set_option maxHeartbeats 1000000 in
theorem rmsane_any (s : ByteArray) (w : World) (hs : s.size ≤ maxLen) :
    Calls Tryz.prog 34 #[.string s] w fun e w' => e = .returned (.bool (saneM s)) ∧ w = w' := by
  unfold maxLen at hs
  go_enter Tryz.func34, Tryz.ntmps34
  go_wp2
  go_loopw [3] (fun i wr => ∃ k : Nat, k ≤ s.size ∧ i = .int .i64 k ∧ upB s k = true ∧ wr = w) (fun i _ => s.size - (intOf i).toNat)
  case atStart => exact ⟨0, by omega, rfl, rfl, rfl⟩
  case round =>
    obtain ⟨k, hk, rfl, hu, rfl⟩ := hrel
    have HU := Lib.hid hu
    clear hu
    by_cases hlt : k < s.size
    · have hbt := bt_at s k hlt
      have UN := Lib.hid (fun h => upB_no (s := s) (k := s.size) (i := k) hlt h)
      have UY := Lib.hid (show upB s (k + 1) = (upB s k && okB (bt s k)) from rfl)
      obtain ⟨b, eb⟩ : ∃ b, bt s k = b := ⟨_, rfl⟩
      rw [eb] at hbt UN UY
      clear eb
      have z1 : (0 : Int) ≤ (k : Int) := by omega
      have z2 : (k : Int) < s.size := by omega
      rcases Bool.eq_false_or_eq_true (okB b) with g | g
      · have UY2 := Lib.hid (show upB s (k + 1) = true by rw [UY.out, HU.out, g]; rfl)
        have g2 := ok_cases g
        clear g UN UY
        by_cases h1 : b = 88
        · have f1 : ((b : Int) != 88) = false := by simp; omega
          have f2 : 57 < b := by omega
          clear g2 h1
          go_wp2
          go_roundw
          case rel => exact ⟨k + 1, by omega, by go_num, UY2.out, trivial⟩
          case measure => simp [intOf]; omega
        · have f2 : 48 ≤ b := by omega
          have f3 : b ≤ 57 := by omega
          clear g2 h1
          go_wp2
          go_roundw
          case rel => exact ⟨k + 1, by omega, by go_num, UY2.out, trivial⟩
          case measure => simp [intOf]; omega
      · have NO := Lib.hid (show saneM s = false by unfold saneM; rw [UN.out g]; simp)
        have g2 := ok_no g
        have f1 : ((b : Int) != 88) = true := by simp; omega
        clear g UN UY
        rcases g2.2 with h | h
        · clear g2
          go_wp2
          go_ret
          exact ⟨ret_bool NO.out.symm, rfl⟩
        · have h' : 48 ≤ b := by omega
          clear g2
          go_wp2
          go_ret
          exact ⟨ret_bool NO.out.symm, rfl⟩
    · obtain rfl : k = s.size := by omega
      by_cases h1 : 1 ≤ s.size
      · by_cases h2 : s.size ≤ 4
        · have Y := Lib.hid (show saneM s = true by unfold saneM; rw [HU.out]; simp; omega)
          go_wp2
          go_ret
          exact ⟨ret_bool (by rw [Y.out]; simp; omega), rfl⟩
        · have Y := Lib.hid (show saneM s = false by unfold saneM; rw [HU.out]; simp; omega)
          go_wp2
          go_ret
          exact ⟨ret_bool (by rw [Y.out]; simp; omega), rfl⟩
      · have Y := Lib.hid (show saneM s = false by unfold saneM; rw [HU.out]; simp; omega)
        have h3 : s.size < 1 := by omega
        go_wp2
        go_ret
        exact ⟨ret_bool Y.out.symm, rfl⟩
theorem rmost_any (n : Nat) (w : World) (hn : n ≤ 4) :
    Calls Tryz.prog 71 #[.int .i64 n] w fun e w' => e = .returned (.int .i64 (P10 n)) ∧ w = w' := by
  go_enter Tryz.func71, Tryz.ntmps71
  go_wp2
  go_loopw [3, 4] (fun m i wr => ∃ k : Nat, k ≤ n ∧ i = .int .i64 k ∧ m = .int .i64 (P10 k) ∧ wr = w) (fun _ i _ => n - (intOf i).toNat)
  case atStart => exact ⟨0, by omega, rfl, rfl, rfl⟩
  case round =>
    obtain ⟨k, hk, rfl, rfl, rfl⟩ := hrel
    by_cases hlt : k < n
    · have p := P10_pos k
      have q := P10_le k (by omega)
      have S := Lib.hid (show P10 (k + 1) = 10 * P10 k from rfl)
      generalize P10 k = c at *
      go_wp2
      go_roundw
      case rel => exact ⟨k + 1, by omega, by go_num, by rw [S.out, Int.mul_comm], trivial⟩
      case measure => simp [intOf]; omega
    · obtain rfl : k = n := by omega
      go_wp2
      go_ret
      exact ⟨rfl, rfl⟩
/-- do the last signs fit -/
def fitD (s : ByteArray) (n : Int) : Nat → Bool
  | 0 => true
  | j + 1 => fitD s n j && fitB (bt s (s.size - 1 - j)) n (P10 j)
theorem fitD_at {s : ByteArray} {n : Int} {k : Nat} (h : fitD s n k = true) : ∀ j, j < k → fitB (bt s (s.size - 1 - j)) n (P10 j) = true := by
  induction k with
  | zero => intro j hj; omega
  | succ k ih =>
    intro j hj
    rw [fitD, Bool.and_eq_true] at h
    by_cases e : j = k
    · subst e; exact h.2
    · exact ih h.1 j (by omega)
theorem fitD_all {s : ByteArray} {n : Int} (h : fitD s n s.size = true) : fitsM s n s.size = true := fits_of fun i hi => by
  have := fitD_at h (s.size - 1 - i) (by omega)
  rwa [show s.size - 1 - (s.size - 1 - i) = i by omega] at this
theorem P10_split (n : Int) (j : Nat) : n / P10 j / 10 = n / P10 (j + 1) := by
  have := P10_pos j
  rw [P10, Int.ediv_ediv, if_neg (by omega), Int.sub_zero, Int.mul_comm]
set_option maxHeartbeats 2000000 in
theorem rmatch_any (s : ByteArray) (n : Int) (w : World) (hs : s.size ≤ maxLen) (nl : -9223372036854775808 ≤ n) (nh : n ≤ 9223372036854775807) :
    Calls Tryz.prog 55 #[.string s, .int .i64 n] w fun e w' => e = .returned (.bool (matchM s n)) ∧ w = w' := by
  have C := Lib.hid (rmsane_any s w hs)
  rcases Bool.eq_false_or_eq_true (saneM s) with h | h
  · rw [h] at C
    have M := mk_of h
    obtain ⟨m1, m2, m3⟩ := M
    have C2 := Lib.hid (rmost_any s.size w m2)
    have pb := P10_le s.size m2
    have pp := P10_pos s.size
    clear hs m3
    by_cases n0 : n < 0
    · have E1 := Lib.hid (show matchM s n = false by unfold matchM; rw [show decide (0 ≤ n) = false by simp; omega]; simp)
      clear h
      go_enter Tryz.func55, Tryz.ntmps55
      go_wp2_with fail; refine (C.out).mono ?_; rintro e w' ⟨rfl, rfl⟩
      go_wp2
      go_ret
      exact ⟨ret_bool E1.out.symm, rfl⟩
    have n0' : 0 ≤ n := by omega
    by_cases n1 : P10 s.size ≤ n
    · have E1 := Lib.hid (show matchM s n = false by unfold matchM; rw [show decide (n < P10 s.size) = false by simp; omega]; simp)
      generalize P10 s.size = c at *
      clear h n0
      go_enter Tryz.func55, Tryz.ntmps55
      go_wp2_with fail; refine (C.out).mono ?_; rintro e w' ⟨rfl, rfl⟩
      go_wp2_with fail; refine (C2.out).mono ?_; rintro e w' ⟨rfl, rfl⟩
      go_wp2
      go_ret
      exact ⟨ret_bool E1.out.symm, rfl⟩
    have n1' : n < P10 s.size := by omega
    have n2 : n < 10000 := by omega
    have E1 := Lib.hid (show matchM s n = fitsM s n s.size by unfold matchM; rw [h, show decide (0 ≤ n) = true by simp; omega, show decide (n < P10 s.size) = true by simp; omega]; simp)
    have D0 := Lib.hid (show n / P10 0 = n by rw [P10, Int.ediv_one])
    obtain ⟨c, hc⟩ : ∃ c, c = P10 s.size := ⟨_, rfl⟩
    rw [← hc] at C2 n1' pb pp
    clear h n0 n1 hc
    go_enter Tryz.func55, Tryz.ntmps55
    go_wp2_with fail; refine (C.out).mono ?_; rintro e w' ⟨rfl, rfl⟩
    go_wp2_with fail; refine (C2.out).mono ?_; rintro e w' ⟨rfl, rfl⟩
    go_wp2
    go_loopw [1, 5] (fun m i wr => ∃ p : Nat, p ≤ s.size ∧ i = .int .i64 ((p : Int) - 1) ∧ m = .int .i64 (n / P10 (s.size - p)) ∧ fitD s n (s.size - p) = true ∧ wr = w) (fun _ i _ => (intOf i + 1).toNat)
    case atStart => exact ⟨s.size, by omega, rfl, by rw [Nat.sub_self, D0.out], by rw [Nat.sub_self]; rfl, rfl⟩
    case round =>
      obtain ⟨p, hp, rfl, rfl, hf, rfl⟩ := hrel
      have HF := Lib.hid hf
      clear hf
      cases p with
      | zero =>
        have E2 := Lib.hid (show matchM s n = true by rw [E1.out]; exact fitD_all HF.out)
        go_wp2
        go_ret
        exact ⟨ret_bool E2.out.symm, rfl⟩
      | succ q =>
        rw [show (((q + 1 : Nat) : Int)) - 1 = (q : Int) by omega]
        have hqs : q < s.size := by omega
        have ej : s.size - (q + 1) + 1 = s.size - q := by omega
        have S := show fitD s n (s.size - (q + 1) + 1) = (fitD s n (s.size - (q + 1)) && fitB (bt s (s.size - 1 - (s.size - (q + 1)))) n (P10 (s.size - (q + 1)))) from rfl
        have DV := P10_split n (s.size - (q + 1))
        have SN := fun h => fitsM_no (s := s) (n := n) hqs h
        rw [ej] at S DV
        rw [show s.size - 1 - (s.size - (q + 1)) = q by omega] at S
        rw [show s.size - 1 - q = s.size - (q + 1) by omega] at SN
        have pj := P10_pos (s.size - (q + 1))
        have hbt := bt_at s q hqs
        obtain ⟨b, eb⟩ : ∃ b, bt s q = b := ⟨_, rfl⟩
        rw [eb] at S hbt SN
        have FB : fitB b n (P10 (s.size - (q + 1))) = ((b == 88) || ((b : Int) - 48 == n / P10 (s.size - (q + 1)) % 10)) := rfl
        have x0 : 0 ≤ n / P10 (s.size - (q + 1)) := Int.ediv_nonneg n0' (by omega)
        have x1 : n / P10 (s.size - (q + 1)) ≤ n := Int.ediv_le_self _ n0'
        obtain ⟨x, ex⟩ : ∃ x, n / P10 (s.size - (q + 1)) = x := ⟨_, rfl⟩
        rw [ex] at DV FB x0 x1 ⊢
        have bb : b < 256 := by rw [← hbt]; exact UInt8.toNat_lt _
        have z1 : (0 : Int) ≤ (q : Int) := by omega
        have z2 : (q : Int) < s.size := by omega
        have x2 : x ≤ 10000 := by omega
        have DVH := Lib.hid DV
        have SH := Lib.hid S
        have SNH := Lib.hid SN
        clear eb ex DV S SN x1 ej
        by_cases hx : b = 88
        · have g : ((b : Int) != 88) = false := by simp; omega
          have S2 := Lib.hid (show fitD s n (s.size - q) = true by rw [SH.out, HF.out, FB]; simp [hx])
          clear FB hx
          go_wp2
          go_roundw
          case rel => exact ⟨q, by omega, rfl, congrArg (Value.int .i64) DVH.out, S2.out, trivial⟩
          case measure => simp [intOf]
        · have g : ((b : Int) != 88) = true := by simp; omega
          rcases Bool.eq_false_or_eq_true ((b : Int) - 48 == x % 10) with f | f
          · have S2 := Lib.hid (show fitD s n (s.size - q) = true by rw [SH.out, HF.out, FB, f]; simp)
            have f2 : ((b : Int) - 48 != x % 10) = false := by simp at f ⊢; omega
            clear FB hx f
            go_wp2
            go_roundw
            case rel => exact ⟨q, by omega, rfl, congrArg (Value.int .i64) DVH.out, S2.out, trivial⟩
            case measure => simp [intOf]
          · have S2 := Lib.hid (show matchM s n = false by rw [E1.out]; exact SNH.out (by rw [FB, f]; simp; exact hx))
            have f2 : ((b : Int) - 48 != x % 10) = true := by simp at f ⊢; omega
            clear FB hx f
            go_wp2
            go_ret
            exact ⟨ret_bool S2.out.symm, rfl⟩
  · rw [h] at C
    have E1 := Lib.hid (show matchM s n = false by unfold matchM; rw [h]; rfl)
    clear h hs
    go_enter Tryz.func55, Tryz.ntmps55
    go_wp2_with fail; refine (C.out).mono ?_; rintro e w' ⟨rfl, rfl⟩
    go_wp2
    go_ret
    exact ⟨ret_bool E1.out.symm, rfl⟩
end Go.Proofs.YtinpglfclbnhlaaGreatDoor

namespace Go.Proofs.YtinpglfclbnhlaaGreatDoor
set_option linter.unusedVariables false
set_option linter.unusedSimpArgs false
theorem mt_sane_inn {l : List R} (h : sane l) {a b : Int} (g : ∀ n, memR l n → a ≤ n ∧ n ≤ b) : Inn a b l := by
  intro r hr
  obtain ⟨o1, o2, o3⟩ := sane_ok h r hr
  have g1 := g r.1 ⟨r, hr, Int.le_refl _, o1, by omega, by omega⟩
  have g2 := g r.2 ⟨r, hr, o1, Int.le_refl _, by omega, by omega⟩
  omega
theorem mt_inn (s : ByteArray) (most : Int) : Inn 1 most (matR s most) := mt_sane_inn (interR_sane _ _) fun n hn => by
  obtain ⟨_, r, hr, h1, h2, _⟩ := (interR_mem _ _ n).1 hn
  rw [List.mem_singleton.1 hr] at h1 h2
  exact ⟨h1, h2⟩
theorem mt_mem {l : List R} {a b : Int} (h : Inn a b l) (ha : -1000000000 ≤ a) (hb : b ≤ 1000000000) (n : Int) : memR l n ↔ inL l n := by
  constructor
  · rintro ⟨r, hr, h1, h2, _⟩
    exact ⟨r, hr, h1, h2⟩
  · rintro ⟨r, hr, h1, h2⟩
    have := h r hr
    exact ⟨r, hr, h1, h2, by omega, by omega⟩
theorem mt_set_inn (s : ByteArray) : Inn 0 9999 (setM s) := fun r hr => by have := (setM_gd s).1 r hr; omega
theorem mt_set (s : ByteArray) (n : Int) : inL (setM s) n ↔ matchM s n = true := by
  rw [← setM_has, has_sane (setM_sane s)]
  exact Iff.rfl
theorem mt_in (s : ByteArray) {most : Int} (hm : most ≤ 100) (n : Int) : inL (matR s most) n ↔ matchM s n = true ∧ 1 ≤ n ∧ n ≤ most := by
  rw [← mt_mem (mt_inn s most) (by decide) (by omega)]
  unfold matR
  rw [interR_mem, mt_mem (mt_set_inn s) (by decide) (by decide), mt_set]
  constructor
  · rintro ⟨h, r, hr, h1, h2, _⟩
    rw [List.mem_singleton.1 hr] at h1 h2
    exact ⟨h, h1, h2⟩
  · rintro ⟨h, h1, h2⟩
    exact ⟨h, (1, most), by simp, h1, h2, by omega, by omega⟩
end Go.Proofs.YtinpglfclbnhlaaGreatDoor

namespace Go.Proofs.YtinpglfclbnhlaaGreatDoor
open Go.RowKit
set_option linter.unusedVariables false
set_option linter.unusedSimpArgs false
/-- does a number from 1 up to one match -/
def anyM (s : ByteArray) : Nat → Bool
  | 0 => false
  | k + 1 => anyM s k || matchM s ((k + 1 : Nat) : Int)
theorem anyM_iff (s : ByteArray) : ∀ k, anyM s k = true ↔ ∃ i : Nat, 1 ≤ i ∧ i ≤ k ∧ matchM s i = true := by
  intro k
  induction k with
  | zero => simp [anyM]; intro i h1 h2; omega
  | succ k ih =>
    unfold anyM
    rw [Bool.or_eq_true, ih]
    constructor
    · rintro (⟨i, h1, h2, h3⟩ | h)
      · exact ⟨i, h1, by omega, h3⟩
      · exact ⟨k + 1, by omega, by omega, h⟩
    · rintro ⟨i, h1, h2, h3⟩
      by_cases e : i = k + 1
      · subst e; exact .inr h3
      · exact .inl ⟨i, h1, by omega, h3⟩
theorem anyM_mat (s : ByteArray) (m : Nat) (hm : m ≤ 100) : anyM s m = decide (0 < (matR s m).length) := by
  rw [Bool.eq_iff_iff, anyM_iff, decide_eq_true_eq]
  constructor
  · rintro ⟨i, h1, h2, h3⟩
    obtain ⟨r, hr, _⟩ := (mt_in s (most := (m : Int)) (by omega) i).2 ⟨h3, by omega, by omega⟩
    exact List.length_pos_of_mem hr
  · intro h
    obtain ⟨r, hr⟩ : ∃ r, r ∈ matR s m := by
      cases hq : matR s m with
      | nil => rw [hq] at h; simp at h
      | cons r t => exact ⟨r, by simp⟩
    have hi := mt_inn s m r hr
    obtain ⟨a, b, c⟩ := (mt_in s (most := (m : Int)) (by omega) r.1).1 ⟨r, hr, by omega, by omega⟩
    exact ⟨r.1.toNat, by omega, by omega, by rwa [Int.toNat_of_nonneg (by omega)]⟩
def somB (s : ByteArray) (n m : Nat) : Bool := decide (s.size = n) && anyM s m
theorem fit_som (s : ByteArray) (n m : Nat) (hn : n ≠ 0) (hm : m ≤ 100) : fitP s n m = somB s n m := by
  unfold fitP somB
  rw [if_neg (by omega), anyM_mat s m hm]
  congr 1
  exact decide_eq_decide.2 (by omega)
theorem sane8 (k : Int) (y m d : ByteArray) : saneP ⟨k, y, m, d⟩ = (saneM y && (
    if k = 0 then decide (y.size = 4) && (somB m 2 12 && somB d 2 31) else if k = 1 then decide (y.size = 4) && (somB m 2 12 && decide (d.size = 0)) else if k = 2 then decide (y.size = 4) && (somB m 1 4 && decide (d.size = 0))
    else if k = 3 then decide (y.size = 4) && (decide (m.size = 0) && decide (d.size = 0)) else if k = 4 then decide (y.size = 3) && (decide (m.size = 0) && decide (d.size = 0)) else if k = 5 then decide (y.size = 2) && (decide (m.size = 0) && decide (d.size = 0)) else false)) := by
  have z : ∀ (s : ByteArray) (n : Int), fitP s 0 n = decide (s.size = 0) := fun s n => by unfold fitP; rw [if_pos rfl]
  have a : fitP m 2 12 = somB m 2 12 := fit_som m 2 12 (by decide) (by decide)
  have b : fitP d 2 31 = somB d 2 31 := fit_som d 2 31 (by decide) (by decide)
  have c : fitP m 1 4 = somB m 1 4 := fit_som m 1 4 (by decide) (by decide)
  have q4 : decide ((y.size : Int) = 4) = decide (y.size = 4) := decide_eq_decide.2 (by omega)
  have q3 : decide ((y.size : Int) = 3) = decide (y.size = 3) := decide_eq_decide.2 (by omega)
  have q2 : decide ((y.size : Int) = 2) = decide (y.size = 2) := decide_eq_decide.2 (by omega)
  have sw : ∀ u v w : Bool, (u && (v && w)) = (v && (u && w)) := by intro u v w; cases u <;> cases v <;> rfl
  unfold saneP
  simp only
  by_cases h0 : k = 0
  · subst h0; simp only [shp, if_true]; rw [show decide ((0 : Int) ≤ 0 ∧ (0 : Int) < 6) = true by decide, Bool.true_and, sw]; congr 1; rw [q4, a, b]
  by_cases h1 : k = 1
  · subst h1; rw [if_neg h0, if_pos rfl]; simp only [shp, if_neg h0, if_true]; rw [show decide ((0 : Int) ≤ 1 ∧ (1 : Int) < 6) = true by decide, Bool.true_and, sw]; congr 1; rw [q4, a, z]
  by_cases h2 : k = 2
  · subst h2; rw [if_neg h0, if_neg h1, if_pos rfl]; simp only [shp, if_neg h0, if_neg h1, if_true]; rw [show decide ((0 : Int) ≤ 2 ∧ (2 : Int) < 6) = true by decide, Bool.true_and, sw]; congr 1; rw [q4, c, z]
  by_cases h3 : k = 3
  · subst h3; rw [if_neg h0, if_neg h1, if_neg h2, if_pos rfl]; simp only [shp, if_neg h0, if_neg h1, if_neg h2, if_true]; rw [show decide ((0 : Int) ≤ 3 ∧ (3 : Int) < 6) = true by decide, Bool.true_and, sw]; congr 1; rw [q4, z, z]
  by_cases h4 : k = 4
  · subst h4; rw [if_neg h0, if_neg h1, if_neg h2, if_neg h3, if_pos rfl]; simp only [shp, if_neg h0, if_neg h1, if_neg h2, if_neg h3, if_true]; rw [show decide ((0 : Int) ≤ 4 ∧ (4 : Int) < 6) = true by decide, Bool.true_and, sw]; congr 1; rw [q3, z, z]
  by_cases h5 : k = 5
  · subst h5; rw [if_neg h0, if_neg h1, if_neg h2, if_neg h3, if_neg h4, if_pos rfl]; simp only [shp, if_neg h0, if_neg h1, if_neg h2, if_neg h3, if_neg h4, if_true]; rw [show decide ((0 : Int) ≤ 5 ∧ (5 : Int) < 6) = true by decide, Bool.true_and, sw]; congr 1; rw [q2, z, z]
  rw [show decide (0 ≤ k ∧ k < 6) = false by simp; omega, if_neg h0, if_neg h1, if_neg h2, if_neg h3, if_neg h4, if_neg h5]
  simp
set_option maxHeartbeats 2000000 in
set_option maxRecDepth 100000 in
theorem rsom_any (s : ByteArray) (n m : Nat) (w : World) (hs : s.size ≤ maxLen) (hn : n ≤ 100) (hm : m ≤ 100) :
    Calls Tryz.prog 35 #[.string s, .int .i64 n, .int .i64 m] w fun e w' => e = .returned (.bool (somB s n m)) ∧ w = w' := by
  have hb : s.size ≤ 9223372036854775807 := hs
  by_cases h : s.size = n
  · have e1 : ((s.size : Int) != (n : Int)) = false := by simp; omega
    have HR := Lib.hid (show somB s n m = anyM s m by unfold somB; rw [decide_eq_true h, Bool.true_and])
    have C := Lib.hid (fun (i : Int) (h1 : 0 ≤ i) (h2 : i ≤ 200) => rmatch_any s i w hs (by omega) (by omega))
    clear h
    go_enter Tryz.func35, Tryz.ntmps35
    go_wp2
    go_loopw [7] (fun i ws => ∃ k : Nat, k ≤ m ∧ i = .int .i64 ((k : Int) + 1) ∧ anyM s k = false ∧ ws = w) (fun i _ => m + 1 - (intOf i).toNat)
    case atStart => exact ⟨0, Nat.zero_le _, rfl, rfl, rfl⟩
    case round =>
      obtain ⟨k, hk, rfl, ha, rfl⟩ := hrel
      have HA := Lib.hid ha
      clear ha
      by_cases hlt : k < m
      · have z1 : (k : Int) + 1 ≤ (m : Int) := by omega
        have C1 := C.out ((k : Int) + 1) (by omega) (by omega)
        have ES := Lib.hid (show anyM s (k + 1) = (anyM s k || matchM s ((k : Int) + 1)) from rfl)
        obtain ⟨b, hb2⟩ : ∃ b, matchM s ((k : Int) + 1) = b := ⟨_, rfl⟩
        rw [hb2] at C1
        have HB := Lib.hid hb2
        have CH := Lib.hid C1
        clear C1 hb2
        cases b with
        | false =>
          have E2 := Lib.hid (show anyM s (k + 1) = false by rw [ES.out, HA.out, HB.out]; rfl)
          go_wp2_with fail
          refine CH.out.mono ?_
          rintro e w' ⟨rfl, rfl⟩
          go_wp2
          go_roundw
          case rel => exact ⟨k + 1, hlt, by go_num, E2.out, trivial⟩
          case measure => simp [intOf]; omega
        | true =>
          have E2 := Lib.hid (show somB s n m = true by rw [HR.out, anyM_iff]; exact ⟨k + 1, by omega, by omega, HB.out⟩)
          go_wp2_with fail
          refine CH.out.mono ?_
          rintro e w' ⟨rfl, rfl⟩
          go_wp2
          go_ret
          exact ⟨ret_bool E2.out.symm, rfl⟩
      · obtain rfl : k = m := by omega
        have E2 := Lib.hid (show somB s n k = false by rw [HR.out, HA.out])
        go_wp2
        go_ret
        exact ⟨ret_bool E2.out.symm, rfl⟩
  · have e1 : ((s.size : Int) != (n : Int)) = true := by simp; omega
    have HR := Lib.hid (show somB s n m = false by unfold somB; rw [decide_eq_false h, Bool.false_and])
    clear h
    go_enter Tryz.func35, Tryz.ntmps35
    go_wp2
    go_ret
    exact ⟨ret_bool HR.out.symm, rfl⟩
set_option maxHeartbeats 16000000 in
set_option maxRecDepth 100000 in
theorem rsane8_0 (y m d : ByteArray) (w : World) (hy : y.size ≤ 10) (hm : m.size ≤ 10) (hd : d.size ≤ 10) : Calls Tryz.prog 14 #[.agg #[.int .i64 0, .string y, .string m, .string d]] w fun e w' => e = .returned (.bool (saneM y && (decide (y.size = 4) && (somB m 2 12 && somB d 2 31)))) ∧ Kp w w' := by
  have C0 := Lib.hid (fun w1 => rmsane_any y w1 (by unfold maxLen; omega))
  have SB : y.size ≤ 10 ∧ m.size ≤ 10 ∧ d.size ≤ 10 := ⟨hy, hm, hd⟩
  have q1 : ((y.size : Int) == 4) = decide (y.size = 4) := by
    by_cases h : y.size = 4
    · rw [decide_eq_true h, h]; rfl
    · rw [decide_eq_false h, beq_eq_false_iff_ne]; omega
  have C2 := Lib.hid (fun w1 => rsom_any m 2 12 w1 (by unfold maxLen; omega) (by decide) (by decide))
  have C3 := Lib.hid (fun w1 => rsom_any d 2 31 w1 (by unfold maxLen; omega) (by decide) (by decide))
  generalize saneM y = b0 at *
  generalize decide (y.size = 4) = b1 at *
  generalize somB m 2 12 = b2 at *
  generalize somB d 2 31 = b3 at *
  clear hy hm hd
  cases b0 with
  | false =>
    go_enter Tryz.func14, Tryz.ntmps14
    go_wp2_with fail
    refine (C0.out _).mono ?_
    rintro e w' ⟨rfl, rfl⟩
    go_wp2
    go_ret
    exact ⟨rfl, Kp.alloc _ _⟩
  | true =>
    cases b1 with
    | false =>
      go_enter Tryz.func14, Tryz.ntmps14
      go_wp2_with fail
      refine (C0.out _).mono ?_
      rintro e w' ⟨rfl, rfl⟩
      go_wp2
      go_ret
      exact ⟨rfl, Kp.alloc _ _⟩
    | true =>
      cases b2 with
      | false =>
        go_enter Tryz.func14, Tryz.ntmps14
        go_wp2_with fail
        refine (C0.out _).mono ?_
        rintro e w' ⟨rfl, rfl⟩
        go_wp2_with fail
        refine (C2.out _).mono ?_
        rintro e w' ⟨rfl, rfl⟩
        go_wp2
        go_ret
        exact ⟨rfl, Kp.alloc _ _⟩
      | true =>
        cases b3 with
        | false =>
          go_enter Tryz.func14, Tryz.ntmps14
          go_wp2_with fail
          refine (C0.out _).mono ?_
          rintro e w' ⟨rfl, rfl⟩
          go_wp2_with fail
          refine (C2.out _).mono ?_
          rintro e w' ⟨rfl, rfl⟩
          go_wp2_with fail
          refine (C3.out _).mono ?_
          rintro e w' ⟨rfl, rfl⟩
          go_wp2
          go_ret
          exact ⟨rfl, Kp.alloc _ _⟩
        | true =>
          go_enter Tryz.func14, Tryz.ntmps14
          go_wp2_with fail
          refine (C0.out _).mono ?_
          rintro e w' ⟨rfl, rfl⟩
          go_wp2_with fail
          refine (C2.out _).mono ?_
          rintro e w' ⟨rfl, rfl⟩
          go_wp2_with fail
          refine (C3.out _).mono ?_
          rintro e w' ⟨rfl, rfl⟩
          go_wp2
          go_ret
          exact ⟨rfl, Kp.alloc _ _⟩
set_option maxHeartbeats 16000000 in
set_option maxRecDepth 100000 in
theorem rsane8_1 (y m d : ByteArray) (w : World) (hy : y.size ≤ 10) (hm : m.size ≤ 10) (hd : d.size ≤ 10) : Calls Tryz.prog 14 #[.agg #[.int .i64 1, .string y, .string m, .string d]] w fun e w' => e = .returned (.bool (saneM y && (decide (y.size = 4) && (somB m 2 12 && decide (d.size = 0))))) ∧ Kp w w' := by
  have C0 := Lib.hid (fun w1 => rmsane_any y w1 (by unfold maxLen; omega))
  have SB : y.size ≤ 10 ∧ m.size ≤ 10 ∧ d.size ≤ 10 := ⟨hy, hm, hd⟩
  have q1 : ((y.size : Int) == 4) = decide (y.size = 4) := by
    by_cases h : y.size = 4
    · rw [decide_eq_true h, h]; rfl
    · rw [decide_eq_false h, beq_eq_false_iff_ne]; omega
  have C2 := Lib.hid (fun w1 => rsom_any m 2 12 w1 (by unfold maxLen; omega) (by decide) (by decide))
  have q3 : (d.toList == []) = decide (d.size = 0) := by rw [← str_empty]; cases d.toList <;> rfl
  generalize saneM y = b0 at *
  generalize decide (y.size = 4) = b1 at *
  generalize somB m 2 12 = b2 at *
  generalize decide (d.size = 0) = b3 at *
  clear hy hm hd
  cases b0 with
  | false =>
    go_enter Tryz.func14, Tryz.ntmps14
    go_wp2_with fail
    refine (C0.out _).mono ?_
    rintro e w' ⟨rfl, rfl⟩
    go_wp2
    go_ret
    exact ⟨rfl, Kp.alloc _ _⟩
  | true =>
    cases b1 with
    | false =>
      go_enter Tryz.func14, Tryz.ntmps14
      go_wp2_with fail
      refine (C0.out _).mono ?_
      rintro e w' ⟨rfl, rfl⟩
      go_wp2
      go_ret
      exact ⟨rfl, Kp.alloc _ _⟩
    | true =>
      cases b2 with
      | false =>
        go_enter Tryz.func14, Tryz.ntmps14
        go_wp2_with fail
        refine (C0.out _).mono ?_
        rintro e w' ⟨rfl, rfl⟩
        go_wp2_with fail
        refine (C2.out _).mono ?_
        rintro e w' ⟨rfl, rfl⟩
        go_wp2
        go_ret
        exact ⟨rfl, Kp.alloc _ _⟩
      | true =>
        cases b3 with
        | false =>
          go_enter Tryz.func14, Tryz.ntmps14
          go_wp2_with fail
          refine (C0.out _).mono ?_
          rintro e w' ⟨rfl, rfl⟩
          go_wp2_with fail
          refine (C2.out _).mono ?_
          rintro e w' ⟨rfl, rfl⟩
          go_wp2
          go_ret
          exact ⟨rfl, Kp.alloc _ _⟩
        | true =>
          go_enter Tryz.func14, Tryz.ntmps14
          go_wp2_with fail
          refine (C0.out _).mono ?_
          rintro e w' ⟨rfl, rfl⟩
          go_wp2_with fail
          refine (C2.out _).mono ?_
          rintro e w' ⟨rfl, rfl⟩
          go_wp2
          go_ret
          exact ⟨rfl, Kp.alloc _ _⟩
set_option maxHeartbeats 16000000 in
set_option maxRecDepth 100000 in
theorem rsane8_2 (y m d : ByteArray) (w : World) (hy : y.size ≤ 10) (hm : m.size ≤ 10) (hd : d.size ≤ 10) : Calls Tryz.prog 14 #[.agg #[.int .i64 2, .string y, .string m, .string d]] w fun e w' => e = .returned (.bool (saneM y && (decide (y.size = 4) && (somB m 1 4 && decide (d.size = 0))))) ∧ Kp w w' := by
  have C0 := Lib.hid (fun w1 => rmsane_any y w1 (by unfold maxLen; omega))
  have SB : y.size ≤ 10 ∧ m.size ≤ 10 ∧ d.size ≤ 10 := ⟨hy, hm, hd⟩
  have q1 : ((y.size : Int) == 4) = decide (y.size = 4) := by
    by_cases h : y.size = 4
    · rw [decide_eq_true h, h]; rfl
    · rw [decide_eq_false h, beq_eq_false_iff_ne]; omega
  have C2 := Lib.hid (fun w1 => rsom_any m 1 4 w1 (by unfold maxLen; omega) (by decide) (by decide))
  have q3 : (d.toList == []) = decide (d.size = 0) := by rw [← str_empty]; cases d.toList <;> rfl
  generalize saneM y = b0 at *
  generalize decide (y.size = 4) = b1 at *
  generalize somB m 1 4 = b2 at *
  generalize decide (d.size = 0) = b3 at *
  clear hy hm hd
  cases b0 with
  | false =>
    go_enter Tryz.func14, Tryz.ntmps14
    go_wp2_with fail
    refine (C0.out _).mono ?_
    rintro e w' ⟨rfl, rfl⟩
    go_wp2
    go_ret
    exact ⟨rfl, Kp.alloc _ _⟩
  | true =>
    cases b1 with
    | false =>
      go_enter Tryz.func14, Tryz.ntmps14
      go_wp2_with fail
      refine (C0.out _).mono ?_
      rintro e w' ⟨rfl, rfl⟩
      go_wp2
      go_ret
      exact ⟨rfl, Kp.alloc _ _⟩
    | true =>
      cases b2 with
      | false =>
        go_enter Tryz.func14, Tryz.ntmps14
        go_wp2_with fail
        refine (C0.out _).mono ?_
        rintro e w' ⟨rfl, rfl⟩
        go_wp2_with fail
        refine (C2.out _).mono ?_
        rintro e w' ⟨rfl, rfl⟩
        go_wp2
        go_ret
        exact ⟨rfl, Kp.alloc _ _⟩
      | true =>
        cases b3 with
        | false =>
          go_enter Tryz.func14, Tryz.ntmps14
          go_wp2_with fail
          refine (C0.out _).mono ?_
          rintro e w' ⟨rfl, rfl⟩
          go_wp2_with fail
          refine (C2.out _).mono ?_
          rintro e w' ⟨rfl, rfl⟩
          go_wp2
          go_ret
          exact ⟨rfl, Kp.alloc _ _⟩
        | true =>
          go_enter Tryz.func14, Tryz.ntmps14
          go_wp2_with fail
          refine (C0.out _).mono ?_
          rintro e w' ⟨rfl, rfl⟩
          go_wp2_with fail
          refine (C2.out _).mono ?_
          rintro e w' ⟨rfl, rfl⟩
          go_wp2
          go_ret
          exact ⟨rfl, Kp.alloc _ _⟩
set_option maxHeartbeats 16000000 in
set_option maxRecDepth 100000 in
theorem rsane8_3 (y m d : ByteArray) (w : World) (hy : y.size ≤ 10) (hm : m.size ≤ 10) (hd : d.size ≤ 10) : Calls Tryz.prog 14 #[.agg #[.int .i64 3, .string y, .string m, .string d]] w fun e w' => e = .returned (.bool (saneM y && (decide (y.size = 4) && (decide (m.size = 0) && decide (d.size = 0))))) ∧ Kp w w' := by
  have C0 := Lib.hid (fun w1 => rmsane_any y w1 (by unfold maxLen; omega))
  have SB : y.size ≤ 10 ∧ m.size ≤ 10 ∧ d.size ≤ 10 := ⟨hy, hm, hd⟩
  have q1 : ((y.size : Int) == 4) = decide (y.size = 4) := by
    by_cases h : y.size = 4
    · rw [decide_eq_true h, h]; rfl
    · rw [decide_eq_false h, beq_eq_false_iff_ne]; omega
  have q2 : (m.toList == []) = decide (m.size = 0) := by rw [← str_empty]; cases m.toList <;> rfl
  have q3 : (d.toList == []) = decide (d.size = 0) := by rw [← str_empty]; cases d.toList <;> rfl
  generalize saneM y = b0 at *
  generalize decide (y.size = 4) = b1 at *
  generalize decide (m.size = 0) = b2 at *
  generalize decide (d.size = 0) = b3 at *
  clear hy hm hd
  cases b0 with
  | false =>
    go_enter Tryz.func14, Tryz.ntmps14
    go_wp2_with fail
    refine (C0.out _).mono ?_
    rintro e w' ⟨rfl, rfl⟩
    go_wp2
    go_ret
    exact ⟨rfl, Kp.alloc _ _⟩
  | true =>
    cases b1 with
    | false =>
      go_enter Tryz.func14, Tryz.ntmps14
      go_wp2_with fail
      refine (C0.out _).mono ?_
      rintro e w' ⟨rfl, rfl⟩
      go_wp2
      go_ret
      exact ⟨rfl, Kp.alloc _ _⟩
    | true =>
      cases b2 with
      | false =>
        go_enter Tryz.func14, Tryz.ntmps14
        go_wp2_with fail
        refine (C0.out _).mono ?_
        rintro e w' ⟨rfl, rfl⟩
        go_wp2
        go_ret
        exact ⟨rfl, Kp.alloc _ _⟩
      | true =>
        cases b3 with
        | false =>
          go_enter Tryz.func14, Tryz.ntmps14
          go_wp2_with fail
          refine (C0.out _).mono ?_
          rintro e w' ⟨rfl, rfl⟩
          go_wp2
          go_ret
          exact ⟨rfl, Kp.alloc _ _⟩
        | true =>
          go_enter Tryz.func14, Tryz.ntmps14
          go_wp2_with fail
          refine (C0.out _).mono ?_
          rintro e w' ⟨rfl, rfl⟩
          go_wp2
          go_ret
          exact ⟨rfl, Kp.alloc _ _⟩
set_option maxHeartbeats 16000000 in
set_option maxRecDepth 100000 in
theorem rsane8_4 (y m d : ByteArray) (w : World) (hy : y.size ≤ 10) (hm : m.size ≤ 10) (hd : d.size ≤ 10) : Calls Tryz.prog 14 #[.agg #[.int .i64 4, .string y, .string m, .string d]] w fun e w' => e = .returned (.bool (saneM y && (decide (y.size = 3) && (decide (m.size = 0) && decide (d.size = 0))))) ∧ Kp w w' := by
  have C0 := Lib.hid (fun w1 => rmsane_any y w1 (by unfold maxLen; omega))
  have SB : y.size ≤ 10 ∧ m.size ≤ 10 ∧ d.size ≤ 10 := ⟨hy, hm, hd⟩
  have q1 : ((y.size : Int) == 3) = decide (y.size = 3) := by
    by_cases h : y.size = 3
    · rw [decide_eq_true h, h]; rfl
    · rw [decide_eq_false h, beq_eq_false_iff_ne]; omega
  have q2 : (m.toList == []) = decide (m.size = 0) := by rw [← str_empty]; cases m.toList <;> rfl
  have q3 : (d.toList == []) = decide (d.size = 0) := by rw [← str_empty]; cases d.toList <;> rfl
  generalize saneM y = b0 at *
  generalize decide (y.size = 3) = b1 at *
  generalize decide (m.size = 0) = b2 at *
  generalize decide (d.size = 0) = b3 at *
  clear hy hm hd
  cases b0 with
  | false =>
    go_enter Tryz.func14, Tryz.ntmps14
    go_wp2_with fail
    refine (C0.out _).mono ?_
    rintro e w' ⟨rfl, rfl⟩
    go_wp2
    go_ret
    exact ⟨rfl, Kp.alloc _ _⟩
  | true =>
    cases b1 with
    | false =>
      go_enter Tryz.func14, Tryz.ntmps14
      go_wp2_with fail
      refine (C0.out _).mono ?_
      rintro e w' ⟨rfl, rfl⟩
      go_wp2
      go_ret
      exact ⟨rfl, Kp.alloc _ _⟩
    | true =>
      cases b2 with
      | false =>
        go_enter Tryz.func14, Tryz.ntmps14
        go_wp2_with fail
        refine (C0.out _).mono ?_
        rintro e w' ⟨rfl, rfl⟩
        go_wp2
        go_ret
        exact ⟨rfl, Kp.alloc _ _⟩
      | true =>
        cases b3 with
        | false =>
          go_enter Tryz.func14, Tryz.ntmps14
          go_wp2_with fail
          refine (C0.out _).mono ?_
          rintro e w' ⟨rfl, rfl⟩
          go_wp2
          go_ret
          exact ⟨rfl, Kp.alloc _ _⟩
        | true =>
          go_enter Tryz.func14, Tryz.ntmps14
          go_wp2_with fail
          refine (C0.out _).mono ?_
          rintro e w' ⟨rfl, rfl⟩
          go_wp2
          go_ret
          exact ⟨rfl, Kp.alloc _ _⟩
set_option maxHeartbeats 16000000 in
set_option maxRecDepth 100000 in
theorem rsane8_5 (y m d : ByteArray) (w : World) (hy : y.size ≤ 10) (hm : m.size ≤ 10) (hd : d.size ≤ 10) : Calls Tryz.prog 14 #[.agg #[.int .i64 5, .string y, .string m, .string d]] w fun e w' => e = .returned (.bool (saneM y && (decide (y.size = 2) && (decide (m.size = 0) && decide (d.size = 0))))) ∧ Kp w w' := by
  have C0 := Lib.hid (fun w1 => rmsane_any y w1 (by unfold maxLen; omega))
  have SB : y.size ≤ 10 ∧ m.size ≤ 10 ∧ d.size ≤ 10 := ⟨hy, hm, hd⟩
  have q1 : ((y.size : Int) == 2) = decide (y.size = 2) := by
    by_cases h : y.size = 2
    · rw [decide_eq_true h, h]; rfl
    · rw [decide_eq_false h, beq_eq_false_iff_ne]; omega
  have q2 : (m.toList == []) = decide (m.size = 0) := by rw [← str_empty]; cases m.toList <;> rfl
  have q3 : (d.toList == []) = decide (d.size = 0) := by rw [← str_empty]; cases d.toList <;> rfl
  generalize saneM y = b0 at *
  generalize decide (y.size = 2) = b1 at *
  generalize decide (m.size = 0) = b2 at *
  generalize decide (d.size = 0) = b3 at *
  clear hy hm hd
  cases b0 with
  | false =>
    go_enter Tryz.func14, Tryz.ntmps14
    go_wp2_with fail
    refine (C0.out _).mono ?_
    rintro e w' ⟨rfl, rfl⟩
    go_wp2
    go_ret
    exact ⟨rfl, Kp.alloc _ _⟩
  | true =>
    cases b1 with
    | false =>
      go_enter Tryz.func14, Tryz.ntmps14
      go_wp2_with fail
      refine (C0.out _).mono ?_
      rintro e w' ⟨rfl, rfl⟩
      go_wp2
      go_ret
      exact ⟨rfl, Kp.alloc _ _⟩
    | true =>
      cases b2 with
      | false =>
        go_enter Tryz.func14, Tryz.ntmps14
        go_wp2_with fail
        refine (C0.out _).mono ?_
        rintro e w' ⟨rfl, rfl⟩
        go_wp2
        go_ret
        exact ⟨rfl, Kp.alloc _ _⟩
      | true =>
        cases b3 with
        | false =>
          go_enter Tryz.func14, Tryz.ntmps14
          go_wp2_with fail
          refine (C0.out _).mono ?_
          rintro e w' ⟨rfl, rfl⟩
          go_wp2
          go_ret
          exact ⟨rfl, Kp.alloc _ _⟩
        | true =>
          go_enter Tryz.func14, Tryz.ntmps14
          go_wp2_with fail
          refine (C0.out _).mono ?_
          rintro e w' ⟨rfl, rfl⟩
          go_wp2
          go_ret
          exact ⟨rfl, Kp.alloc _ _⟩
set_option maxHeartbeats 16000000 in
set_option maxRecDepth 100000 in
theorem rsane8_no (k : Int) (y m d : ByteArray) (w : World) (hy : y.size ≤ 10) (hm : m.size ≤ 10) (hd : d.size ≤ 10) (k0 : (k == 0) = false) (k1 : (k == 1) = false) (k2 : (k == 2) = false) (k3 : (k == 3) = false) (k4 : (k == 4) = false) (k5 : (k == 5) = false) : Calls Tryz.prog 14 #[.agg #[.int .i64 k, .string y, .string m, .string d]] w fun e w' => e = .returned (.bool (false)) ∧ Kp w w' := by
  have C0 := Lib.hid (fun w1 => rmsane_any y w1 (by unfold maxLen; omega))
  generalize saneM y = b0 at *
  clear hy hm hd
  cases b0 with
  | false =>
    go_enter Tryz.func14, Tryz.ntmps14
    go_wp2_with fail
    refine (C0.out _).mono ?_
    rintro e w' ⟨rfl, rfl⟩
    go_wp2
    go_ret
    exact ⟨rfl, Kp.alloc _ _⟩
  | true =>
    go_enter Tryz.func14, Tryz.ntmps14
    go_wp2_with fail
    refine (C0.out _).mono ?_
    rintro e w' ⟨rfl, rfl⟩
    go_wp2
    go_ret
    exact ⟨rfl, Kp.alloc _ _⟩
theorem rsane8_any (p : PT) (w : World) (hy : p.y.size ≤ 10) (hm : p.m.size ≤ 10) (hd : p.d.size ≤ 10) : Calls Tryz.prog 14 #[ptV p] w fun e w' => e = .returned (.bool (saneP p)) ∧ Kp w w' := by
  obtain ⟨k, y, m, d, rfl⟩ := pt_dest p
  rw [sane8]
  unfold ptV
  simp only at *
  by_cases h0 : k = 0
  · subst h0
    have := rsane8_0 y m d w hy hm hd
    simpa only [if_true] using this
  by_cases h1 : k = 1
  · subst h1
    have := rsane8_1 y m d w hy hm hd
    simpa only [if_neg (show ¬ (1 : Int) = 0 by decide), if_true] using this
  by_cases h2 : k = 2
  · subst h2
    have := rsane8_2 y m d w hy hm hd
    simpa only [if_neg (show ¬ (2 : Int) = 0 by decide), if_neg (show ¬ (2 : Int) = 1 by decide), if_true] using this
  by_cases h3 : k = 3
  · subst h3
    have := rsane8_3 y m d w hy hm hd
    simpa only [if_neg (show ¬ (3 : Int) = 0 by decide), if_neg (show ¬ (3 : Int) = 1 by decide), if_neg (show ¬ (3 : Int) = 2 by decide), if_true] using this
  by_cases h4 : k = 4
  · subst h4
    have := rsane8_4 y m d w hy hm hd
    simpa only [if_neg (show ¬ (4 : Int) = 0 by decide), if_neg (show ¬ (4 : Int) = 1 by decide), if_neg (show ¬ (4 : Int) = 2 by decide), if_neg (show ¬ (4 : Int) = 3 by decide), if_true] using this
  by_cases h5 : k = 5
  · subst h5
    have := rsane8_5 y m d w hy hm hd
    simpa only [if_neg (show ¬ (5 : Int) = 0 by decide), if_neg (show ¬ (5 : Int) = 1 by decide), if_neg (show ¬ (5 : Int) = 2 by decide), if_neg (show ¬ (5 : Int) = 3 by decide), if_neg (show ¬ (5 : Int) = 4 by decide), if_true] using this
  have := rsane8_no k y m d w hy hm hd (beq_eq_false_iff_ne.2 h0) (beq_eq_false_iff_ne.2 h1) (beq_eq_false_iff_ne.2 h2) (beq_eq_false_iff_ne.2 h3) (beq_eq_false_iff_ne.2 h4) (beq_eq_false_iff_ne.2 h5)
  rw [if_neg h0, if_neg h1, if_neg h2, if_neg h3, if_neg h4, if_neg h5, Bool.and_false]
  exact this
end Go.Proofs.YtinpglfclbnhlaaGreatDoor
